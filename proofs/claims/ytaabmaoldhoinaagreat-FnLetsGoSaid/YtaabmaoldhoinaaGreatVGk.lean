/-
  TpJ: texts joined.
-/
import Derived.Test.YtaabmaoldhoinaaGreatVGa
import Derived.Test.YtaabmaoldhoinaaGreatVGi
import Derived.Test.YtaabmaoldhoinaaGreatVGj
namespace Go.Proofs.YtaabmaoldhoinaaGreat
set_option maxRecDepth 100000
set_option linter.unusedVariables false
set_option linter.unusedSimpArgs false
open Go.ChangeShapes Go.WideShapes Go.ChangeAt Go.RowKit
open Fld
theorem own_offU {K : IntKind} {e : TypeId} {w : World} {base : Nat} {v : Value} {l : List Int} (h : Own K e w base v l) {p : Addr} (hp : p.block < base) (u : Value) : Own K e (w.setCell p u) base v l :=
  ⟨h.1.kept (row := some p.block) ⟨rfl, rfl, rfl, by simp [World.setCell], fun i hi hn => Below.heap_setCell w p u i (fun e => hn (by rw [e]))⟩ (.inr fun e => by have := (h.1.lt _ e).1; omega), h.2⟩
theorem own_blk {K : IntKind} {e : TypeId} {w : World} {base : Nat} {v : Value} {l : List Int} (h : Own K e w base v l) : ∃ F, (tSl K).O w [v] l F ∧ New base F ∧ ∀ f ∈ F, v.ownBlock = some f := by
  obtain ⟨F, hF, hN⟩ := h.tSl
  exact ⟨F, hF, hN, slO_own hF⟩
theorem own_cap {K : IntKind} {e : TypeId} {w : World} {base n c : Nat} {A : Option Addr} {l : List Int} (h : Own K e w base (.slice A n c) l) : n ≤ c ∧ c ≤ 9223372036854775807 := by
  obtain ⟨F, hF, -⟩ := h.tSl
  obtain ⟨A', n', c', e1, h1, h2, -⟩ := (tSl K).read hF
  injection e1 with e1 _
  injection e1 with i1 i2 i3
  subst i1 i2 i3
  exact ⟨h1, h2⟩
theorem rsz_filter (f : DWhole → Nat) (q : DWhole → Bool) (l : List DWhole) : rsz f (l.filter q) ≤ rsz f l := by
  induction l with
  | nil => exact Nat.le_refl _
  | cons a l ih =>
    unfold rsz at *
    by_cases h : q a = true
    · rw [List.filter_cons_of_pos h]; simp only [List.length_cons, rsum]; omega
    · rw [List.filter_cons_of_neg h]; simp only [List.length_cons, rsum]; omega
theorem nilB_O {w : World} : tBy.O w [.slice none 0 0] [] [] := .inl ⟨none, 0, rfl, by omega, rfl, rfl⟩
set_option maxHeartbeats 1600000 in
theorem i_tk_od {w : World} {n0 c0 n1 c1 n7 c7 : Nat} {A0 A1 A7 : Option Addr} {y0 y1 y2 x : Int} {qd : List Int} {p : DDesk} (h : tDesk.R w w.heap.size [.slice A0 n0 c0, .slice A1 n1 c1] p) (hq : tPiece.R w w.heap.size [.int .i64 y0, .int .i64 y1, .int .i64 y2, .slice A7 n7 c7] (y0, y1, y2, qd)) (hp : DkOk p) (hpc : PcOk (y0, y1, y2, qd)) (hx : 0 ≤ x ∧ x ≤ 65535) (hm : y0 ∈ p.2) :
    Calls Tryz.prog 11 #[.agg #[.slice A0 n0 c0, .slice A1 n1 c1], .agg #[.int .i64 y0, .int .i64 y1, .int .i64 y2, .slice A7 n7 c7], .int .i64 x] w fun e w' => ∃ cs' F1 A c F2, e = .returned (.tuple #[.agg cs'.toArray, .slice A (([] : List Int)).length c, .int .i64 (-1)]) ∧ tDesk.O w' cs' (p.1, p.2) F1 ∧ tBy.O w' [.slice A (([] : List Int)).length c] (([] : List Int)) F2 ∧ New w.heap.size (F1 ++ F2) ∧ Below w.heap.size w w' := by
  have HNE := Lib.hid (show ∀ a ∈ p.1, a.1 ≠ y0 from fun a ha e => (hp.2.2.2.2 a ha).2 (e ▸ hm))
  have HM := Lib.hid (decide_eq_true hm)
  clear hm
  have HP := Lib.hid (decide_eq_true hp)
  have HQ := Lib.hid (decide_eq_true hpc)
  have hsz := (dkOk_sz hp).1
  have hsw := (dkOk_sz hp).2
  have hsq : szPiece (y0, y1, y2, qd) ≤ 20 := (pc_le8 hpc).2.2.1
  have hX := h
  obtain ⟨A0_, n0_, c0_, A1_, n1_, c1_, e_, -, -, hl0, hr0, -, -, hl1, hr1⟩ := openDesk hX
  simp only [List.cons.injEq, Value.slice.injEq, and_true] at e_
  obtain ⟨⟨rfl, rfl, rfl⟩, rfl, rfl, rfl⟩ := e_
  clear hX
  have hr1D := hr1
  have hn0 : n0 ≤ 6 := by have := hp.1; omega
  have hn1 : n1 ≤ 256 := by have := asc_len hp.2.2.1 hp.2.1; omega
  have hI1 := (slR_ints hr1).1
  have E0 := Lib.hid hl0
  have E1 := Lib.hid hl1
  clear hl0 hl1
  have HAP := Lib.hid (dk_apart hp)
  have HWF := Lib.hid (whs_wf hr0)
  have HAS := Lib.hid hp.2.2.2.1
  have HWY := Lib.hid (show (Lit.int .i64 y0).wf = true from by obtain ⟨_, _, _, e_, w0_, -⟩ := openPiece hq; exact w0_)
  have HDK := Lib.hid hp
  have HPC := Lib.hid hpc
  have HDS := Lib.hid (show rsz szWhole p.1 + p.2.length ≤ 4096 from hsz)
  clear hp hpc
  go_enter Tryz.func11, Tryz.ntmps11
  go_wp2_with fail
  refine (i_DeskOk (tDesk.reach h ?hB) (by omega)).mono ?_
  case hB => exact (belx)
  rintro e w1 ⟨rfl, hb1⟩
  rw [HP.out]
  have P1 : Box w1 w.heap.size 33 #[.slice A0 n0 c0, .slice A1 n1 c1] := Box.below (((Box.new w _ _).alloc _).alloc _) hb1 (by simp; omega)
  have Q1 : Box w1 (w.heap.size + 1) 37 #[.int .i64 y0, .int .i64 y1, .int .i64 y2, .slice A7 n7 c7] := Box.below (Box.alloc (by simpa using Box.new (w.alloc (.cells #[.slice A0 n0 c0, .slice A1 n1 c1] 33)) 37 #[.int .i64 y0, .int .i64 y1, .int .i64 y2, .slice A7 n7 c7]) _) hb1 (by first | (simp; done) | (simp; omega))
  have R1 : Box w1 (w.heap.size + 1 + 1) 33 #[.slice none 0 0, .slice none 0 0] := Box.below (by simpa using Box.new ((w.alloc (.cells #[.slice A0 n0 c0, .slice A1 n1 c1] 33)).alloc (.cells #[.int .i64 y0, .int .i64 y1, .int .i64 y2, .slice A7 n7 c7] 37)) 33 #[.slice none 0 0, .slice none 0 0]) hb1 (by simp)
  have hB1 : Below w.heap.size w w1 := bel_trans (belx) hb1
  have ap0 := P1.cell 0; have ap1 := P1.cell 1; have aq0 := Q1.cell 0; have aq1 := Q1.cell 1; have aq2 := Q1.cell 2; have aq3 := Q1.cell 3; have ar0 := R1.cell 0; have ar1 := R1.cell 1; have af0 := R1.frozen 0; have af1 := R1.frozen 1
  go_wp2_with fail
  refine (i_PieceOk (tPiece.reach hq hB1) (by omega)).mono ?_
  rintro e w2 ⟨rfl, hb2⟩
  rw [HQ.out]
  have P2 := P1.below hb2 P1.size
  have Q2 := Q1.below hb2 Q1.size
  have R2 := R1.below hb2 R1.size
  have hB2 := bel_trans hB1 hb2
  clear ap0 ap1 aq0 aq1 aq2 aq3 ar0 ar1 af0 af1
  have bp0 := P2.cell 0; have bp1 := P2.cell 1; have bq0 := Q2.cell 0; have bq1 := Q2.cell 1; have bq2 := Q2.cell 2; have bq3 := Q2.cell 3; have br0 := R2.cell 0; have br1 := R2.cell 1; have bf0 := R2.frozen 0; have bf1 := R2.frozen 1
  go_wp2_with fail
  refine (i4_isDue_t x w2 hx.1 hx.2).mono ?_
  rintro e w' ⟨rfl, rfl⟩
  go_wp2_with fail
  refine (i_opened (tWhole.row.reach hr0 hB2) (by omega) HAP.out HWF.out).mono ?_
  rintro e w4 ⟨b, D, rfl, hM, hW, hbb, hb4⟩
  have P4 := P2.below hb4 P2.size
  have Q4 := Q2.below hb4 Q2.size
  have R4 := R2.below hb4 R2.size
  have hB4 := bel_trans hB2 hb4
  clear bp0 bp1 bq0 bq1 bq2 bq3 br0 br1 bf0 bf1
  have cp0 := P4.cell 0; have cp1 := P4.cell 1; have cq0 := Q4.cell 0; have cq1 := Q4.cell 1; have cq2 := Q4.cell 2; have cq3 := Q4.cell 3; have cr0 := R4.cell 0; have cr1 := R4.cell 1; have cf0 := R4.frozen 0; have cf1 := R4.frozen 1
  have z4 := hb4.size
  have zb := hM.lt
  have zR := R2.size
  obtain ⟨v, hlk⟩ := hW.look_ok hM Tryz.underlying3 Tryz.underlying76 (zwholeL w4) HWY.out
  rcases hlk with ⟨a_, es_, ha_, hid_, -⟩ | ⟨-, rfl, hrun⟩
  · exact absurd hid_ (HNE.out a_ ha_)
  have P5 := P4.alloc (.cells #[.int .i64 0, .int .i64 0, .int .i64 0, .slice none 0 0] 53)
  have Q5 := Q4.alloc (.cells #[.int .i64 0, .int .i64 0, .int .i64 0, .slice none 0 0] 53)
  have R5 := R4.alloc (.cells #[.int .i64 0, .int .i64 0, .int .i64 0, .slice none 0 0] 53)
  have hx5 : Below w4.heap.size w4 (w4.alloc (.cells #[.int .i64 0, .int .i64 0, .int .i64 0, .slice none 0 0] 53)) := (belx)
  have hB5 := bel_trans hB4 hx5
  have hM5 := hM.kept (row := none) (below_grownBy hx5) (by simp)
  have hW5 := hW.keep (w' := (w4.alloc (.cells #[.int .i64 0, .int .i64 0, .int .i64 0, .slice none 0 0] 53))) (fun i hi => hx5.block i (by omega))
  have V5 : Box (w4.alloc (.cells #[.int .i64 0, .int .i64 0, .int .i64 0, .slice none 0 0] 53)) w4.heap.size 53 #[.int .i64 0, .int .i64 0, .int .i64 0, .slice none 0 0] := Box.new w4 _ _
  have dp0 := P5.cell 0; have dp1 := P5.cell 1; have dq0 := Q5.cell 0; have dq1 := Q5.cell 1; have dq2 := Q5.cell 2; have dq3 := Q5.cell 3; have dr0 := R5.cell 0; have dr1 := R5.cell 1; have df0 := R5.frozen 0; have df1 := R5.frozen 1
  have v50 := V5.cell 0; have v51 := V5.cell 1; have v52 := V5.cell 2; have v53 := V5.cell 3
  go_wp2_with fail
  refine (i_ContainsI (w := (w4.alloc (.cells #[.int .i64 0, .int .i64 0, .int .i64 0, .slice none 0 0] 53))) (B := w.heap.size) y0 (hI1.below hB5) (by omega)).mono ?_
  rintro e w' ⟨rfl, rfl⟩
  rw [HM.out]
  go_wp2_with fail
  refine (i_deskOf (w := (w4.alloc (.cells #[.int .i64 0, .int .i64 0, .int .i64 0, .slice none 0 0] 53))) (l := p.1) hM5 hW5 (by simp; omega) HAS.out (tIs.reach hr1 hB5) (by have := HDS.out; omega)).mono ?_
  rintro e w9 ⟨D0, d0, D1, d1, F, rfl, hO9, hN9, hb9⟩
  have R9 := R5.below hb9 R5.size
  have RR := (R9.put 0 (.slice D0 p.1.length d0)).put 1 (.slice D1 p.2.length d1)
  have u0 := RR.cell 0; have u1 := RR.cell 1
  have sr0 := R9.cell 0; have sr1 := R9.cell 1; have sf0 := R9.frozen 0; have sf1 := R9.frozen 1
  go_wp2
  have z5 : (w4.alloc (.cells #[.int .i64 0, .int .i64 0, .int .i64 0, .slice none 0 0] 53)).heap.size = w4.heap.size + 1 := by simp
  have hOx := put2D_O (g := w.heap.size + 1 + 1) hO9 (fun hx => by have h1 := hN9.2 _ hx; have h2 := R9.size; omega)
  have hBx := bel_put (bel_put (bel_trans hB5 hb9) (p := ⟨w.heap.size + 1 + 1, 0, none⟩) (by show _ ≤ w.heap.size + 1 + 1; omega) (.slice D0 p.1.length d0)) (p := ⟨w.heap.size + 1 + 1, 1, none⟩) (by show _ ≤ w.heap.size + 1 + 1; omega) (.slice D1 p.2.length d1)
  refine bodyPost_ret (v := .tuple #[.agg #[.slice D0 p.1.length d0, .slice D1 p.2.length d1], .slice none 0 0, .int .i64 (-1)]) (by simp [results, Tryz.results11, go_sem, u0, u1]) rfl ⟨_, F, none, 0, [], rfl, hOx, nilB_O, by rw [List.append_nil]; exact (hN9).lower (by omega), hBx⟩
set_option maxHeartbeats 1600000 in
theorem i_tk_ot {w : World} {n0 c0 n1 c1 n7 c7 : Nat} {A0 A1 A7 : Option Addr} {y0 y1 y2 x : Int} {qd : List Int} {p : DDesk} (h : tDesk.R w w.heap.size [.slice A0 n0 c0, .slice A1 n1 c1] p) (hq : tPiece.R w w.heap.size [.int .i64 y0, .int .i64 y1, .int .i64 y2, .slice A7 n7 c7] (y0, y1, y2, qd)) (hp : DkOk p) (hpc : PcOk (y0, y1, y2, qd)) (hx : 0 ≤ x ∧ x ≤ 65535) {a1 a2 : Int} {ag : List DPiece} (ham : (y0, a1, a2, ag) ∈ p.1) (hbad : ¬ a1 = y2) :
    Calls Tryz.prog 11 #[.agg #[.slice A0 n0 c0, .slice A1 n1 c1], .agg #[.int .i64 y0, .int .i64 y1, .int .i64 y2, .slice A7 n7 c7], .int .i64 x] w fun e w' => ∃ cs' F1 A c F2, e = .returned (.tuple #[.agg cs'.toArray, .slice A (([] : List Int)).length c, .int .i64 (-1)]) ∧ tDesk.O w' cs' (p.1, p.2) F1 ∧ tBy.O w' [.slice A (([] : List Int)).length c] (([] : List Int)) F2 ∧ New w.heap.size (F1 ++ F2) ∧ Below w.heap.size w w' := by
  have HAM := Lib.hid ham
  have HM := Lib.hid (decide_eq_false (hp.2.2.2.2 _ ham).2)
  have HWH := Lib.hid (hp.2.2.2.2 _ ham).1
  have HWL := Lib.hid (dk_wh hp ham)
  clear ham
  have HP := Lib.hid (decide_eq_true hp)
  have HQ := Lib.hid (decide_eq_true hpc)
  have hsz := (dkOk_sz hp).1
  have hsw := (dkOk_sz hp).2
  have hsq : szPiece (y0, y1, y2, qd) ≤ 20 := (pc_le8 hpc).2.2.1
  have hX := h
  obtain ⟨A0_, n0_, c0_, A1_, n1_, c1_, e_, -, -, hl0, hr0, -, -, hl1, hr1⟩ := openDesk hX
  simp only [List.cons.injEq, Value.slice.injEq, and_true] at e_
  obtain ⟨⟨rfl, rfl, rfl⟩, rfl, rfl, rfl⟩ := e_
  clear hX
  have hr1D := hr1
  have hn0 : n0 ≤ 6 := by have := hp.1; omega
  have hn1 : n1 ≤ 256 := by have := asc_len hp.2.2.1 hp.2.1; omega
  have hI1 := (slR_ints hr1).1
  have E0 := Lib.hid hl0
  have E1 := Lib.hid hl1
  clear hl0 hl1
  have HAP := Lib.hid (dk_apart hp)
  have HWF := Lib.hid (whs_wf hr0)
  have HAS := Lib.hid hp.2.2.2.1
  have HWY := Lib.hid (show (Lit.int .i64 y0).wf = true from by obtain ⟨_, _, _, e_, w0_, -⟩ := openPiece hq; exact w0_)
  have HDK := Lib.hid hp
  have HPC := Lib.hid hpc
  have HDS := Lib.hid (show rsz szWhole p.1 + p.2.length ≤ 4096 from hsz)
  clear hp hpc
  go_enter Tryz.func11, Tryz.ntmps11
  go_wp2_with fail
  refine (i_DeskOk (tDesk.reach h ?hB) (by omega)).mono ?_
  case hB => exact (belx)
  rintro e w1 ⟨rfl, hb1⟩
  rw [HP.out]
  have P1 : Box w1 w.heap.size 33 #[.slice A0 n0 c0, .slice A1 n1 c1] := Box.below (((Box.new w _ _).alloc _).alloc _) hb1 (by simp; omega)
  have Q1 : Box w1 (w.heap.size + 1) 37 #[.int .i64 y0, .int .i64 y1, .int .i64 y2, .slice A7 n7 c7] := Box.below (Box.alloc (by simpa using Box.new (w.alloc (.cells #[.slice A0 n0 c0, .slice A1 n1 c1] 33)) 37 #[.int .i64 y0, .int .i64 y1, .int .i64 y2, .slice A7 n7 c7]) _) hb1 (by first | (simp; done) | (simp; omega))
  have R1 : Box w1 (w.heap.size + 1 + 1) 33 #[.slice none 0 0, .slice none 0 0] := Box.below (by simpa using Box.new ((w.alloc (.cells #[.slice A0 n0 c0, .slice A1 n1 c1] 33)).alloc (.cells #[.int .i64 y0, .int .i64 y1, .int .i64 y2, .slice A7 n7 c7] 37)) 33 #[.slice none 0 0, .slice none 0 0]) hb1 (by simp)
  have hB1 : Below w.heap.size w w1 := bel_trans (belx) hb1
  have ap0 := P1.cell 0; have ap1 := P1.cell 1; have aq0 := Q1.cell 0; have aq1 := Q1.cell 1; have aq2 := Q1.cell 2; have aq3 := Q1.cell 3; have ar0 := R1.cell 0; have ar1 := R1.cell 1; have af0 := R1.frozen 0; have af1 := R1.frozen 1
  go_wp2_with fail
  refine (i_PieceOk (tPiece.reach hq hB1) (by omega)).mono ?_
  rintro e w2 ⟨rfl, hb2⟩
  rw [HQ.out]
  have P2 := P1.below hb2 P1.size
  have Q2 := Q1.below hb2 Q1.size
  have R2 := R1.below hb2 R1.size
  have hB2 := bel_trans hB1 hb2
  clear ap0 ap1 aq0 aq1 aq2 aq3 ar0 ar1 af0 af1
  have bp0 := P2.cell 0; have bp1 := P2.cell 1; have bq0 := Q2.cell 0; have bq1 := Q2.cell 1; have bq2 := Q2.cell 2; have bq3 := Q2.cell 3; have br0 := R2.cell 0; have br1 := R2.cell 1; have bf0 := R2.frozen 0; have bf1 := R2.frozen 1
  go_wp2_with fail
  refine (i4_isDue_t x w2 hx.1 hx.2).mono ?_
  rintro e w' ⟨rfl, rfl⟩
  go_wp2_with fail
  refine (i_opened (tWhole.row.reach hr0 hB2) (by omega) HAP.out HWF.out).mono ?_
  rintro e w4 ⟨b, D, rfl, hM, hW, hbb, hb4⟩
  have P4 := P2.below hb4 P2.size
  have Q4 := Q2.below hb4 Q2.size
  have R4 := R2.below hb4 R2.size
  have hB4 := bel_trans hB2 hb4
  clear bp0 bp1 bq0 bq1 bq2 bq3 br0 br1 bf0 bf1
  have cp0 := P4.cell 0; have cp1 := P4.cell 1; have cq0 := Q4.cell 0; have cq1 := Q4.cell 1; have cq2 := Q4.cell 2; have cq3 := Q4.cell 3; have cr0 := R4.cell 0; have cr1 := R4.cell 1; have cf0 := R4.frozen 0; have cf1 := R4.frozen 1
  have z4 := hb4.size
  have zb := hM.lt
  have zR := R2.size
  obtain ⟨v, hlk⟩ := hW.look_ok hM Tryz.underlying3 Tryz.underlying76 (zwholeL w4) HWY.out
  rcases hlk with ⟨a_, es_, ha_, hid_, rfl, hRa, hrun⟩ | ⟨hno_, -, -⟩
  rotate_left
  · exact absurd rfl (hno_ _ HAM.out)
  obtain rfl := asc_one HAS.out ha_ HAM.out hid_
  obtain ⟨A3, n3, c3, rfl, wa0, wa1, wa2, -, -, hl3, h3⟩ := openWhole hRa
  have HL3 := Lib.hid (show ag.length = n3 from hl3)
  have HWA := Lib.hid (And.intro wa0 (And.intro wa1 wa2))
  clear hl3 wa0 wa1 wa2 hid_ ha_
  have P5 := P4.alloc (.cells #[.int .i64 y0, .int .i64 a1, .int .i64 a2, .slice A3 n3 c3] 53)
  have Q5 := Q4.alloc (.cells #[.int .i64 y0, .int .i64 a1, .int .i64 a2, .slice A3 n3 c3] 53)
  have R5 := R4.alloc (.cells #[.int .i64 y0, .int .i64 a1, .int .i64 a2, .slice A3 n3 c3] 53)
  have hx5 : Below w4.heap.size w4 (w4.alloc (.cells #[.int .i64 y0, .int .i64 a1, .int .i64 a2, .slice A3 n3 c3] 53)) := (belx)
  have hB5 := bel_trans hB4 hx5
  have hM5 := hM.kept (row := none) (below_grownBy hx5) (by simp)
  have hW5 := hW.keep (w' := (w4.alloc (.cells #[.int .i64 y0, .int .i64 a1, .int .i64 a2, .slice A3 n3 c3] 53))) (fun i hi => hx5.block i (by omega))
  have V5 : Box (w4.alloc (.cells #[.int .i64 y0, .int .i64 a1, .int .i64 a2, .slice A3 n3 c3] 53)) w4.heap.size 53 #[.int .i64 y0, .int .i64 a1, .int .i64 a2, .slice A3 n3 c3] := Box.new w4 _ _
  have dp0 := P5.cell 0; have dp1 := P5.cell 1; have dq0 := Q5.cell 0; have dq1 := Q5.cell 1; have dq2 := Q5.cell 2; have dq3 := Q5.cell 3; have dr0 := R5.cell 0; have dr1 := R5.cell 1; have df0 := R5.frozen 0; have df1 := R5.frozen 1
  have v50 := V5.cell 0; have v51 := V5.cell 1; have v52 := V5.cell 2; have v53 := V5.cell 3
  go_wp2_with fail
  refine (i_ContainsI (w := (w4.alloc (.cells #[.int .i64 y0, .int .i64 a1, .int .i64 a2, .slice A3 n3 c3] 53))) (B := w.heap.size) y0 (hI1.below hB5) (by omega)).mono ?_
  rintro e w' ⟨rfl, rfl⟩
  rw [HM.out]
  have hb1 : (a1 != y2) = true := by simpa using hbad
  go_wp2_with fail
  refine (i_deskOf (w := (w4.alloc (.cells #[.int .i64 y0, .int .i64 a1, .int .i64 a2, .slice A3 n3 c3] 53))) (l := p.1) hM5 hW5 (by simp; omega) HAS.out (tIs.reach hr1 hB5) (by have := HDS.out; omega)).mono ?_
  rintro e w9 ⟨D0, d0, D1, d1, F, rfl, hO9, hN9, hb9⟩
  have R9 := R5.below hb9 R5.size
  have RR := (R9.put 0 (.slice D0 p.1.length d0)).put 1 (.slice D1 p.2.length d1)
  have u0 := RR.cell 0; have u1 := RR.cell 1
  have sr0 := R9.cell 0; have sr1 := R9.cell 1; have sf0 := R9.frozen 0; have sf1 := R9.frozen 1
  go_wp2
  have z5 : (w4.alloc (.cells #[.int .i64 y0, .int .i64 a1, .int .i64 a2, .slice A3 n3 c3] 53)).heap.size = w4.heap.size + 1 := by simp
  have hOx := put2D_O (g := w.heap.size + 1 + 1) hO9 (fun hx => by have h1 := hN9.2 _ hx; have h2 := R9.size; omega)
  have hBx := bel_put (bel_put (bel_trans hB5 hb9) (p := ⟨w.heap.size + 1 + 1, 0, none⟩) (by show _ ≤ w.heap.size + 1 + 1; omega) (.slice D0 p.1.length d0)) (p := ⟨w.heap.size + 1 + 1, 1, none⟩) (by show _ ≤ w.heap.size + 1 + 1; omega) (.slice D1 p.2.length d1)
  refine bodyPost_ret (v := .tuple #[.agg #[.slice D0 p.1.length d0, .slice D1 p.2.length d1], .slice none 0 0, .int .i64 (-1)]) (by simp [results, Tryz.results11, go_sem, u0, u1]) rfl ⟨_, F, none, 0, [], rfl, hOx, nilB_O, by rw [List.append_nil]; exact (hN9).lower (by omega), hBx⟩
set_option maxHeartbeats 1600000 in
theorem i_tk_op {w : World} {n0 c0 n1 c1 n7 c7 : Nat} {A0 A1 A7 : Option Addr} {y0 y1 y2 x : Int} {qd : List Int} {p : DDesk} (h : tDesk.R w w.heap.size [.slice A0 n0 c0, .slice A1 n1 c1] p) (hq : tPiece.R w w.heap.size [.int .i64 y0, .int .i64 y1, .int .i64 y2, .slice A7 n7 c7] (y0, y1, y2, qd)) (hp : DkOk p) (hpc : PcOk (y0, y1, y2, qd)) (hx : 0 ≤ x ∧ x ≤ 65535) {a2 : Int} {ag : List DPiece} (ham : (y0, y2, a2, ag) ∈ p.1) (hin : ∃ p ∈ ag, p.2.1 = y1) :
    Calls Tryz.prog 11 #[.agg #[.slice A0 n0 c0, .slice A1 n1 c1], .agg #[.int .i64 y0, .int .i64 y1, .int .i64 y2, .slice A7 n7 c7], .int .i64 x] w fun e w' => ∃ cs' F1 A c F2, e = .returned (.tuple #[.agg cs'.toArray, .slice A (([] : List Int)).length c, .int .i64 (-1)]) ∧ tDesk.O w' cs' (p.1, p.2) F1 ∧ tBy.O w' [.slice A (([] : List Int)).length c] (([] : List Int)) F2 ∧ New w.heap.size (F1 ++ F2) ∧ Below w.heap.size w w' := by
  have HL := Lib.hid (show decide (y1 ∉ ag.map fun p => p.2.1) = false from decide_eq_false (fun h => h (by obtain ⟨p_, h1, h2⟩ := hin; exact List.mem_map.2 ⟨p_, h1, h2⟩)))
  clear hin
  have HAM := Lib.hid ham
  have HM := Lib.hid (decide_eq_false (hp.2.2.2.2 _ ham).2)
  have HWH := Lib.hid (hp.2.2.2.2 _ ham).1
  have HWL := Lib.hid (dk_wh hp ham)
  clear ham
  have HP := Lib.hid (decide_eq_true hp)
  have HQ := Lib.hid (decide_eq_true hpc)
  have hsz := (dkOk_sz hp).1
  have hsw := (dkOk_sz hp).2
  have hsq : szPiece (y0, y1, y2, qd) ≤ 20 := (pc_le8 hpc).2.2.1
  have hX := h
  obtain ⟨A0_, n0_, c0_, A1_, n1_, c1_, e_, -, -, hl0, hr0, -, -, hl1, hr1⟩ := openDesk hX
  simp only [List.cons.injEq, Value.slice.injEq, and_true] at e_
  obtain ⟨⟨rfl, rfl, rfl⟩, rfl, rfl, rfl⟩ := e_
  clear hX
  have hr1D := hr1
  have hn0 : n0 ≤ 6 := by have := hp.1; omega
  have hn1 : n1 ≤ 256 := by have := asc_len hp.2.2.1 hp.2.1; omega
  have hI1 := (slR_ints hr1).1
  have E0 := Lib.hid hl0
  have E1 := Lib.hid hl1
  clear hl0 hl1
  have HAP := Lib.hid (dk_apart hp)
  have HWF := Lib.hid (whs_wf hr0)
  have HAS := Lib.hid hp.2.2.2.1
  have HWY := Lib.hid (show (Lit.int .i64 y0).wf = true from by obtain ⟨_, _, _, e_, w0_, -⟩ := openPiece hq; exact w0_)
  have HDK := Lib.hid hp
  have HPC := Lib.hid hpc
  have HDS := Lib.hid (show rsz szWhole p.1 + p.2.length ≤ 4096 from hsz)
  clear hp hpc
  go_enter Tryz.func11, Tryz.ntmps11
  go_wp2_with fail
  refine (i_DeskOk (tDesk.reach h ?hB) (by omega)).mono ?_
  case hB => exact (belx)
  rintro e w1 ⟨rfl, hb1⟩
  rw [HP.out]
  have P1 : Box w1 w.heap.size 33 #[.slice A0 n0 c0, .slice A1 n1 c1] := Box.below (((Box.new w _ _).alloc _).alloc _) hb1 (by simp; omega)
  have Q1 : Box w1 (w.heap.size + 1) 37 #[.int .i64 y0, .int .i64 y1, .int .i64 y2, .slice A7 n7 c7] := Box.below (Box.alloc (by simpa using Box.new (w.alloc (.cells #[.slice A0 n0 c0, .slice A1 n1 c1] 33)) 37 #[.int .i64 y0, .int .i64 y1, .int .i64 y2, .slice A7 n7 c7]) _) hb1 (by first | (simp; done) | (simp; omega))
  have R1 : Box w1 (w.heap.size + 1 + 1) 33 #[.slice none 0 0, .slice none 0 0] := Box.below (by simpa using Box.new ((w.alloc (.cells #[.slice A0 n0 c0, .slice A1 n1 c1] 33)).alloc (.cells #[.int .i64 y0, .int .i64 y1, .int .i64 y2, .slice A7 n7 c7] 37)) 33 #[.slice none 0 0, .slice none 0 0]) hb1 (by simp)
  have hB1 : Below w.heap.size w w1 := bel_trans (belx) hb1
  have ap0 := P1.cell 0; have ap1 := P1.cell 1; have aq0 := Q1.cell 0; have aq1 := Q1.cell 1; have aq2 := Q1.cell 2; have aq3 := Q1.cell 3; have ar0 := R1.cell 0; have ar1 := R1.cell 1; have af0 := R1.frozen 0; have af1 := R1.frozen 1
  go_wp2_with fail
  refine (i_PieceOk (tPiece.reach hq hB1) (by omega)).mono ?_
  rintro e w2 ⟨rfl, hb2⟩
  rw [HQ.out]
  have P2 := P1.below hb2 P1.size
  have Q2 := Q1.below hb2 Q1.size
  have R2 := R1.below hb2 R1.size
  have hB2 := bel_trans hB1 hb2
  clear ap0 ap1 aq0 aq1 aq2 aq3 ar0 ar1 af0 af1
  have bp0 := P2.cell 0; have bp1 := P2.cell 1; have bq0 := Q2.cell 0; have bq1 := Q2.cell 1; have bq2 := Q2.cell 2; have bq3 := Q2.cell 3; have br0 := R2.cell 0; have br1 := R2.cell 1; have bf0 := R2.frozen 0; have bf1 := R2.frozen 1
  go_wp2_with fail
  refine (i4_isDue_t x w2 hx.1 hx.2).mono ?_
  rintro e w' ⟨rfl, rfl⟩
  go_wp2_with fail
  refine (i_opened (tWhole.row.reach hr0 hB2) (by omega) HAP.out HWF.out).mono ?_
  rintro e w4 ⟨b, D, rfl, hM, hW, hbb, hb4⟩
  have P4 := P2.below hb4 P2.size
  have Q4 := Q2.below hb4 Q2.size
  have R4 := R2.below hb4 R2.size
  have hB4 := bel_trans hB2 hb4
  clear bp0 bp1 bq0 bq1 bq2 bq3 br0 br1 bf0 bf1
  have cp0 := P4.cell 0; have cp1 := P4.cell 1; have cq0 := Q4.cell 0; have cq1 := Q4.cell 1; have cq2 := Q4.cell 2; have cq3 := Q4.cell 3; have cr0 := R4.cell 0; have cr1 := R4.cell 1; have cf0 := R4.frozen 0; have cf1 := R4.frozen 1
  have z4 := hb4.size
  have zb := hM.lt
  have zR := R2.size
  obtain ⟨v, hlk⟩ := hW.look_ok hM Tryz.underlying3 Tryz.underlying76 (zwholeL w4) HWY.out
  rcases hlk with ⟨a_, es_, ha_, hid_, rfl, hRa, hrun⟩ | ⟨hno_, -, -⟩
  rotate_left
  · exact absurd rfl (hno_ _ HAM.out)
  obtain rfl := asc_one HAS.out ha_ HAM.out hid_
  obtain ⟨A3, n3, c3, rfl, wa0, wy2, wa2, -, -, hl3, h3⟩ := openWhole hRa
  have HL3 := Lib.hid (show ag.length = n3 from hl3)
  have HWA := Lib.hid (And.intro wa0 (And.intro wy2 wa2))
  clear hl3 wa0 wy2 wa2 hid_ ha_
  have P5 := P4.alloc (.cells #[.int .i64 y0, .int .i64 y2, .int .i64 a2, .slice A3 n3 c3] 53)
  have Q5 := Q4.alloc (.cells #[.int .i64 y0, .int .i64 y2, .int .i64 a2, .slice A3 n3 c3] 53)
  have R5 := R4.alloc (.cells #[.int .i64 y0, .int .i64 y2, .int .i64 a2, .slice A3 n3 c3] 53)
  have hx5 : Below w4.heap.size w4 (w4.alloc (.cells #[.int .i64 y0, .int .i64 y2, .int .i64 a2, .slice A3 n3 c3] 53)) := (belx)
  have hB5 := bel_trans hB4 hx5
  have hM5 := hM.kept (row := none) (below_grownBy hx5) (by simp)
  have hW5 := hW.keep (w' := (w4.alloc (.cells #[.int .i64 y0, .int .i64 y2, .int .i64 a2, .slice A3 n3 c3] 53))) (fun i hi => hx5.block i (by omega))
  have V5 : Box (w4.alloc (.cells #[.int .i64 y0, .int .i64 y2, .int .i64 a2, .slice A3 n3 c3] 53)) w4.heap.size 53 #[.int .i64 y0, .int .i64 y2, .int .i64 a2, .slice A3 n3 c3] := Box.new w4 _ _
  have dp0 := P5.cell 0; have dp1 := P5.cell 1; have dq0 := Q5.cell 0; have dq1 := Q5.cell 1; have dq2 := Q5.cell 2; have dq3 := Q5.cell 3; have dr0 := R5.cell 0; have dr1 := R5.cell 1; have df0 := R5.frozen 0; have df1 := R5.frozen 1
  have v50 := V5.cell 0; have v51 := V5.cell 1; have v52 := V5.cell 2; have v53 := V5.cell 3
  go_wp2_with fail
  refine (i_ContainsI (w := (w4.alloc (.cells #[.int .i64 y0, .int .i64 y2, .int .i64 a2, .slice A3 n3 c3] 53))) (B := w.heap.size) y0 (hI1.below hB5) (by omega)).mono ?_
  rintro e w' ⟨rfl, rfl⟩
  rw [HM.out]
  have hb1 : (y2 != y2) = false := by simp
  go_wp2_with fail
  refine (i_lacks (w := (w4.alloc (.cells #[.int .i64 y0, .int .i64 y2, .int .i64 a2, .slice A3 n3 c3] 53))) (a := (y0, y2, a2, ag)) y1 (tWhole.up (tWhole.keep hRa (fun b hb => hx5.block b (by omega))) (by simp; omega)) (by have h2 := HWL.out; have h3 : (ag.length : Int) < y2 := h2.2.1; have h4 : y2 ≤ 8 := h2.2.2; show ag.length ≤ 1048576; omega)).mono ?_
  rintro e w6 ⟨rfl, hb6⟩
  rw [HL.out]
  have P6 := P5.below hb6 P5.size
  have Q6 := Q5.below hb6 Q5.size
  have R6 := R5.below hb6 R5.size
  have hB6 := bel_trans hB5 hb6
  have hM6 := hM5.kept (row := none) (below_grownBy hb6) (by simp)
  have hW6 := hW5.keep (w' := w6) (fun i hi => hb6.block i (by simp; omega))
  have V6 := V5.below hb6 V5.size
  have z6 : w4.heap.size + 1 ≤ w6.heap.size := by have h := hb6.size; simpa using h
  clear dp0 dp1 dq0 dq1 dq2 dq3 dr0 dr1 df0 df1
  clear v50 v51 v52 v53
  have ep0 := P6.cell 0; have ep1 := P6.cell 1; have eq0 := Q6.cell 0; have eq1 := Q6.cell 1; have eq2 := Q6.cell 2; have eq3 := Q6.cell 3; have er0 := R6.cell 0; have er1 := R6.cell 1; have ef0 := R6.frozen 0; have ef1 := R6.frozen 1
  have v60 := V6.cell 0; have v61 := V6.cell 1; have v62 := V6.cell 2; have v63 := V6.cell 3; have vf0 := V6.frozen 0; have vf1 := V6.frozen 1; have vf2 := V6.frozen 2; have vf3 := V6.frozen 3
  go_wp2_with fail
  refine (i_deskOf (w := w6) (l := p.1) hM6 hW6 (by omega) HAS.out (tIs.reach hr1 hB6) (by have := HDS.out; omega)).mono ?_
  rintro e w9 ⟨D0, d0, D1, d1, F, rfl, hO9, hN9, hb9⟩
  have R9 := R6.below hb9 R6.size
  have RR := (R9.put 0 (.slice D0 p.1.length d0)).put 1 (.slice D1 p.2.length d1)
  have u0 := RR.cell 0; have u1 := RR.cell 1
  have sr0 := R9.cell 0; have sr1 := R9.cell 1; have sf0 := R9.frozen 0; have sf1 := R9.frozen 1
  go_wp2
  have hOx := put2D_O (g := w.heap.size + 1 + 1) hO9 (fun hx => by have h1 := hN9.2 _ hx; have h2 := R9.size; omega)
  have hBx := bel_put (bel_put (bel_trans hB6 hb9) (p := ⟨w.heap.size + 1 + 1, 0, none⟩) (by show _ ≤ w.heap.size + 1 + 1; omega) (.slice D0 p.1.length d0)) (p := ⟨w.heap.size + 1 + 1, 1, none⟩) (by show _ ≤ w.heap.size + 1 + 1; omega) (.slice D1 p.2.length d1)
  refine bodyPost_ret (v := .tuple #[.agg #[.slice D0 p.1.length d0, .slice D1 p.2.length d1], .slice none 0 0, .int .i64 (-1)]) (by simp [results, Tryz.results11, go_sem, u0, u1]) rfl ⟨_, F, none, 0, [], rfl, hOx, nilB_O, by rw [List.append_nil]; exact (hN9).lower (by omega), hBx⟩
set_option maxHeartbeats 1600000 in
theorem i_tk_nf {w : World} {n0 c0 n1 c1 n7 c7 : Nat} {A0 A1 A7 : Option Addr} {y0 y1 y2 x : Int} {qd : List Int} {p : DDesk} (h : tDesk.R w w.heap.size [.slice A0 n0 c0, .slice A1 n1 c1] p) (hq : tPiece.R w w.heap.size [.int .i64 y0, .int .i64 y1, .int .i64 y2, .slice A7 n7 c7] (y0, y1, y2, qd)) (hp : DkOk p) (hpc : PcOk (y0, y1, y2, qd)) (hx : 0 ≤ x ∧ x ≤ 65535) (hne : ∀ a ∈ p.1, a.1 ≠ y0) (hm : y0 ∉ p.2) (hd : ¬ ((insB pAt (y0, y1, y2, qd) ([] : List DPiece)).length : Int) = y2) (hf : 6 ≤ n0) :
    Calls Tryz.prog 11 #[.agg #[.slice A0 n0 c0, .slice A1 n1 c1], .agg #[.int .i64 y0, .int .i64 y1, .int .i64 y2, .slice A7 n7 c7], .int .i64 x] w fun e w' => ∃ cs' F1 A c F2, e = .returned (.tuple #[.agg cs'.toArray, .slice A (([] : List Int)).length c, .int .i64 (-2)]) ∧ tDesk.O w' cs' (p.1, p.2) F1 ∧ tBy.O w' [.slice A (([] : List Int)).length c] (([] : List Int)) F2 ∧ New w.heap.size (F1 ++ F2) ∧ Below w.heap.size w w' := by
  have HLW := Lib.hid (show ((insB pAt (y0, y1, y2, qd) ([] : List DPiece)).length : Int) ≠ y2 ∧ (insB pAt (y0, y1, y2, qd) ([] : List DPiece)).length ≤ 9 ∧ 0 ≤ y2 ∧ y2 ≤ 8 from ⟨hd, by have h1 := insB_len_le pAt (y0, y1, y2, qd) ([] : List DPiece); simp only [List.length_nil] at h1; omega, by have := pc_le8 hpc; simp only at this; omega, by have := pc_le8 hpc; simp only at this; omega⟩)
  clear hd
  have HNE := Lib.hid hne
  have HM := Lib.hid (decide_eq_false hm)
  clear hne hm
  have HP := Lib.hid (decide_eq_true hp)
  have HQ := Lib.hid (decide_eq_true hpc)
  have hsz := (dkOk_sz hp).1
  have hsw := (dkOk_sz hp).2
  have hsq : szPiece (y0, y1, y2, qd) ≤ 20 := (pc_le8 hpc).2.2.1
  have hX := h
  obtain ⟨A0_, n0_, c0_, A1_, n1_, c1_, e_, -, -, hl0, hr0, -, -, hl1, hr1⟩ := openDesk hX
  simp only [List.cons.injEq, Value.slice.injEq, and_true] at e_
  obtain ⟨⟨rfl, rfl, rfl⟩, rfl, rfl, rfl⟩ := e_
  clear hX
  have hr1D := hr1
  have hn0 : n0 ≤ 6 := by have := hp.1; omega
  have hn1 : n1 ≤ 256 := by have := asc_len hp.2.2.1 hp.2.1; omega
  have hI1 := (slR_ints hr1).1
  have E0 := Lib.hid hl0
  have E1 := Lib.hid hl1
  clear hl0 hl1
  have HAP := Lib.hid (dk_apart hp)
  have HWF := Lib.hid (whs_wf hr0)
  have HAS := Lib.hid hp.2.2.2.1
  have HWY := Lib.hid (show (Lit.int .i64 y0).wf = true from by obtain ⟨_, _, _, e_, w0_, -⟩ := openPiece hq; exact w0_)
  have HDK := Lib.hid hp
  have HPC := Lib.hid hpc
  have HDS := Lib.hid (show rsz szWhole p.1 + p.2.length ≤ 4096 from hsz)
  clear hp hpc
  go_enter Tryz.func11, Tryz.ntmps11
  go_wp2_with fail
  refine (i_DeskOk (tDesk.reach h ?hB) (by omega)).mono ?_
  case hB => exact (belx)
  rintro e w1 ⟨rfl, hb1⟩
  rw [HP.out]
  have P1 : Box w1 w.heap.size 33 #[.slice A0 n0 c0, .slice A1 n1 c1] := Box.below (((Box.new w _ _).alloc _).alloc _) hb1 (by simp; omega)
  have Q1 : Box w1 (w.heap.size + 1) 37 #[.int .i64 y0, .int .i64 y1, .int .i64 y2, .slice A7 n7 c7] := Box.below (Box.alloc (by simpa using Box.new (w.alloc (.cells #[.slice A0 n0 c0, .slice A1 n1 c1] 33)) 37 #[.int .i64 y0, .int .i64 y1, .int .i64 y2, .slice A7 n7 c7]) _) hb1 (by first | (simp; done) | (simp; omega))
  have R1 : Box w1 (w.heap.size + 1 + 1) 33 #[.slice none 0 0, .slice none 0 0] := Box.below (by simpa using Box.new ((w.alloc (.cells #[.slice A0 n0 c0, .slice A1 n1 c1] 33)).alloc (.cells #[.int .i64 y0, .int .i64 y1, .int .i64 y2, .slice A7 n7 c7] 37)) 33 #[.slice none 0 0, .slice none 0 0]) hb1 (by simp)
  have hB1 : Below w.heap.size w w1 := bel_trans (belx) hb1
  have ap0 := P1.cell 0; have ap1 := P1.cell 1; have aq0 := Q1.cell 0; have aq1 := Q1.cell 1; have aq2 := Q1.cell 2; have aq3 := Q1.cell 3; have ar0 := R1.cell 0; have ar1 := R1.cell 1; have af0 := R1.frozen 0; have af1 := R1.frozen 1
  go_wp2_with fail
  refine (i_PieceOk (tPiece.reach hq hB1) (by omega)).mono ?_
  rintro e w2 ⟨rfl, hb2⟩
  rw [HQ.out]
  have P2 := P1.below hb2 P1.size
  have Q2 := Q1.below hb2 Q1.size
  have R2 := R1.below hb2 R1.size
  have hB2 := bel_trans hB1 hb2
  clear ap0 ap1 aq0 aq1 aq2 aq3 ar0 ar1 af0 af1
  have bp0 := P2.cell 0; have bp1 := P2.cell 1; have bq0 := Q2.cell 0; have bq1 := Q2.cell 1; have bq2 := Q2.cell 2; have bq3 := Q2.cell 3; have br0 := R2.cell 0; have br1 := R2.cell 1; have bf0 := R2.frozen 0; have bf1 := R2.frozen 1
  go_wp2_with fail
  refine (i4_isDue_t x w2 hx.1 hx.2).mono ?_
  rintro e w' ⟨rfl, rfl⟩
  go_wp2_with fail
  refine (i_opened (tWhole.row.reach hr0 hB2) (by omega) HAP.out HWF.out).mono ?_
  rintro e w4 ⟨b, D, rfl, hM, hW, hbb, hb4⟩
  have P4 := P2.below hb4 P2.size
  have Q4 := Q2.below hb4 Q2.size
  have R4 := R2.below hb4 R2.size
  have hB4 := bel_trans hB2 hb4
  clear bp0 bp1 bq0 bq1 bq2 bq3 br0 br1 bf0 bf1
  have cp0 := P4.cell 0; have cp1 := P4.cell 1; have cq0 := Q4.cell 0; have cq1 := Q4.cell 1; have cq2 := Q4.cell 2; have cq3 := Q4.cell 3; have cr0 := R4.cell 0; have cr1 := R4.cell 1; have cf0 := R4.frozen 0; have cf1 := R4.frozen 1
  have z4 := hb4.size
  have zb := hM.lt
  have zR := R2.size
  obtain ⟨v, hlk⟩ := hW.look_ok hM Tryz.underlying3 Tryz.underlying76 (zwholeL w4) HWY.out
  rcases hlk with ⟨a_, es_, ha_, hid_, -⟩ | ⟨-, rfl, hrun⟩
  · exact absurd hid_ (HNE.out a_ ha_)
  have P5 := P4.alloc (.cells #[.int .i64 0, .int .i64 0, .int .i64 0, .slice none 0 0] 53)
  have Q5 := Q4.alloc (.cells #[.int .i64 0, .int .i64 0, .int .i64 0, .slice none 0 0] 53)
  have R5 := R4.alloc (.cells #[.int .i64 0, .int .i64 0, .int .i64 0, .slice none 0 0] 53)
  have hx5 : Below w4.heap.size w4 (w4.alloc (.cells #[.int .i64 0, .int .i64 0, .int .i64 0, .slice none 0 0] 53)) := (belx)
  have hB5 := bel_trans hB4 hx5
  have hM5 := hM.kept (row := none) (below_grownBy hx5) (by simp)
  have hW5 := hW.keep (w' := (w4.alloc (.cells #[.int .i64 0, .int .i64 0, .int .i64 0, .slice none 0 0] 53))) (fun i hi => hx5.block i (by omega))
  have V5 : Box (w4.alloc (.cells #[.int .i64 0, .int .i64 0, .int .i64 0, .slice none 0 0] 53)) w4.heap.size 53 #[.int .i64 0, .int .i64 0, .int .i64 0, .slice none 0 0] := Box.new w4 _ _
  have dp0 := P5.cell 0; have dp1 := P5.cell 1; have dq0 := Q5.cell 0; have dq1 := Q5.cell 1; have dq2 := Q5.cell 2; have dq3 := Q5.cell 3; have dr0 := R5.cell 0; have dr1 := R5.cell 1; have df0 := R5.frozen 0; have df1 := R5.frozen 1
  have v50 := V5.cell 0; have v51 := V5.cell 1; have v52 := V5.cell 2; have v53 := V5.cell 3
  go_wp2_with fail
  refine (i_ContainsI (w := (w4.alloc (.cells #[.int .i64 0, .int .i64 0, .int .i64 0, .slice none 0 0] 53))) (B := w.heap.size) y0 (hI1.below hB5) (by omega)).mono ?_
  rintro e w' ⟨rfl, rfl⟩
  rw [HM.out]
  have P6 := P4.alloc (.cells #[.int .i64 y0, .int .i64 y2, .int .i64 x, .slice none 0 0] 53)
  have Q6 := Q4.alloc (.cells #[.int .i64 y0, .int .i64 y2, .int .i64 x, .slice none 0 0] 53)
  have R6 := R4.alloc (.cells #[.int .i64 y0, .int .i64 y2, .int .i64 x, .slice none 0 0] 53)
  have hx6 : Below w4.heap.size w4 (w4.alloc (.cells #[.int .i64 y0, .int .i64 y2, .int .i64 x, .slice none 0 0] 53)) := (belx)
  have hB6 := bel_trans hB4 hx6
  have hM6 := hM.kept (row := none) (below_grownBy hx6) (by simp)
  have hW6 := hW.keep (w' := (w4.alloc (.cells #[.int .i64 y0, .int .i64 y2, .int .i64 x, .slice none 0 0] 53))) (fun i hi => hx6.block i (by omega))
  have V6 : Box (w4.alloc (.cells #[.int .i64 y0, .int .i64 y2, .int .i64 x, .slice none 0 0] 53)) w4.heap.size 53 #[.int .i64 y0, .int .i64 y2, .int .i64 x, .slice none 0 0] := Box.new w4 _ _
  have z6 : w4.heap.size + 1 ≤ (w4.alloc (.cells #[.int .i64 y0, .int .i64 y2, .int .i64 x, .slice none 0 0] 53)).heap.size := by simp
  have ep0 := P6.cell 0; have ep1 := P6.cell 1; have eq0 := Q6.cell 0; have eq1 := Q6.cell 1; have eq2 := Q6.cell 2; have eq3 := Q6.cell 3; have er0 := R6.cell 0; have er1 := R6.cell 1; have ef0 := R6.frozen 0; have ef1 := R6.frozen 1
  have v60 := V6.cell 0; have v61 := V6.cell 1; have v62 := V6.cell 2; have v63 := V6.cell 3; have vf0 := V6.frozen 0; have vf1 := V6.frozen 1; have vf2 := V6.frozen 2; have vf3 := V6.frozen 3
  go_wp2_with fail
  refine (i_with (w := (w4.alloc (.cells #[.int .i64 y0, .int .i64 y2, .int .i64 x, .slice none 0 0] 53))) (g := []) (B0 := w2.heap.size) (by omega) ⟨none, 0, 0, rfl, Nat.le_refl _, by omega, rfl, fun h => absurd h (by omega)⟩ (by omega) (tPiece.up (tPiece.keep hq hB6.block) hB2.size) (fun i hi => absurd hi (by simp)) (fun p hp => absurd hp (by simp))).mono ?_
  rintro e w7 ⟨A8, m8, c8, rfl, hm8, hG7, hb7⟩
  have HM8 := Lib.hid hm8
  have HM8b := Lib.hid (show m8 ≤ 9 by rw [hm8]; have := HLW.out; omega)
  clear hm8
  have P7 := P6.below hb7 P6.size
  have Q7 := Q6.below hb7 Q6.size
  have R7 := R6.below hb7 R6.size
  have V7 := V6.below hb7 V6.size
  have hB7 := bel_trans hB6 hb7
  have hM7 := hM6.kept (row := none) (below_grownBy hb7) (by simp)
  have hW7 := hW6.keep (w' := w7) (fun i hi => hb7.block i (by have := z6; omega))
  have z7 := Nat.le_trans z6 hb7.size
  have v70 := V7.cell 0; have v71 := V7.cell 1; have v72 := V7.cell 2; have v73 := V7.cell 3; have wf0 := V7.frozen 0; have wf1 := V7.frozen 1; have wf2 := V7.frozen 2; have wf3 := V7.frozen 3
  have zw2 := hB2.size
  have P8 := ((((P7.far (p := ⟨w4.heap.size, 0, none⟩) (by show ¬ w.heap.size = w4.heap.size; omega) (.int .i64 y0)).far (p := ⟨w4.heap.size, 1, none⟩) (by show ¬ w.heap.size = w4.heap.size; omega) (.int .i64 y2)).far (p := ⟨w4.heap.size, 2, none⟩) (by show ¬ w.heap.size = w4.heap.size; omega) (.int .i64 x)).far (p := ⟨w4.heap.size, 3, none⟩) (by show ¬ w.heap.size = w4.heap.size; omega) (.slice A8 m8 c8))
  have Q8 := ((((Q7.far (p := ⟨w4.heap.size, 0, none⟩) (by show ¬ w.heap.size + 1 = w4.heap.size; omega) (.int .i64 y0)).far (p := ⟨w4.heap.size, 1, none⟩) (by show ¬ w.heap.size + 1 = w4.heap.size; omega) (.int .i64 y2)).far (p := ⟨w4.heap.size, 2, none⟩) (by show ¬ w.heap.size + 1 = w4.heap.size; omega) (.int .i64 x)).far (p := ⟨w4.heap.size, 3, none⟩) (by show ¬ w.heap.size + 1 = w4.heap.size; omega) (.slice A8 m8 c8))
  have R8 := ((((R7.far (p := ⟨w4.heap.size, 0, none⟩) (by show ¬ w.heap.size + 1 + 1 = w4.heap.size; omega) (.int .i64 y0)).far (p := ⟨w4.heap.size, 1, none⟩) (by show ¬ w.heap.size + 1 + 1 = w4.heap.size; omega) (.int .i64 y2)).far (p := ⟨w4.heap.size, 2, none⟩) (by show ¬ w.heap.size + 1 + 1 = w4.heap.size; omega) (.int .i64 x)).far (p := ⟨w4.heap.size, 3, none⟩) (by show ¬ w.heap.size + 1 + 1 = w4.heap.size; omega) (.slice A8 m8 c8))
  have V8 := ((((V7.put 0 (.int .i64 y0)).put 1 (.int .i64 y2)).put 2 (.int .i64 x)).put 3 (.slice A8 m8 c8))
  have hB8 := (bel_put (bel_put (bel_put (bel_put hB7 (p := ⟨w4.heap.size, 0, none⟩) hB4.size (.int .i64 y0)) (p := ⟨w4.heap.size, 1, none⟩) hB4.size (.int .i64 y2)) (p := ⟨w4.heap.size, 2, none⟩) hB4.size (.int .i64 x)) (p := ⟨w4.heap.size, 3, none⟩) hB4.size (.slice A8 m8 c8))
  have hG8 := ((((hG7.put (p := ⟨w4.heap.size, 0, none⟩) (by show w4.heap.size < _; have := z6; omega) z4 (.int .i64 y0)).put (p := ⟨w4.heap.size, 1, none⟩) (by show w4.heap.size < _; have := z6; omega) z4 (.int .i64 y2)).put (p := ⟨w4.heap.size, 2, none⟩) (by show w4.heap.size < _; have := z6; omega) z4 (.int .i64 x)).put (p := ⟨w4.heap.size, 3, none⟩) (by show w4.heap.size < _; have := z6; omega) z4 (.slice A8 m8 c8))
  have hM8 := ((((hM7.setCell (a := ⟨w4.heap.size, 0, none⟩) (by show b ≠ w4.heap.size; omega) (.int .i64 y0)).setCell (a := ⟨w4.heap.size, 1, none⟩) (by show b ≠ w4.heap.size; omega) (.int .i64 y2)).setCell (a := ⟨w4.heap.size, 2, none⟩) (by show b ≠ w4.heap.size; omega) (.int .i64 x)).setCell (a := ⟨w4.heap.size, 3, none⟩) (by show b ≠ w4.heap.size; omega) (.slice A8 m8 c8))
  have hW8 := hW7.keep (w' := ((((w7.setCell ⟨w4.heap.size, 0, none⟩ (.int .i64 y0)).setCell ⟨w4.heap.size, 1, none⟩ (.int .i64 y2)).setCell ⟨w4.heap.size, 2, none⟩ (.int .i64 x)).setCell ⟨w4.heap.size, 3, none⟩ (.slice A8 m8 c8))) (fun i hi => by rw [Below.heap_setCell _ _ _ i (by show i ≠ w4.heap.size; omega)]; rw [Below.heap_setCell _ _ _ i (by show i ≠ w4.heap.size; omega)]; rw [Below.heap_setCell _ _ _ i (by show i ≠ w4.heap.size; omega)]; rw [Below.heap_setCell _ _ _ i (by show i ≠ w4.heap.size; omega)];)
  have x80 := V8.cell 0; have x81 := V8.cell 1; have x82 := V8.cell 2; have x83 := V8.cell 3
  go_wp2_with fail
  refine (i_lacking A8 m8 c8 _ _ _ (y2 - (m8 : Int)) ((((w7.setCell ⟨w4.heap.size, 0, none⟩ (.int .i64 y0)).setCell ⟨w4.heap.size, 1, none⟩ (.int .i64 y2)).setCell ⟨w4.heap.size, 2, none⟩ (.int .i64 x)).setCell ⟨w4.heap.size, 3, none⟩ (.slice A8 m8 c8)) (IntWalk.i64_in _ (by have h1 := HM8.out; have h2 := HLW.out; omega))).mono ?_
  rintro e w9 ⟨rfl, hb9⟩
  have P9 := P8.below hb9 P8.size
  have Q9 := Q8.below hb9 Q8.size
  have R9 := R8.below hb9 R8.size
  have V9 := V8.below hb9 V8.size
  have hB9 := bel_trans hB8 hb9
  have hM9 := hM8.kept (row := none) (below_grownBy hb9) (by simp)
  have hW9 := hW8.keep (w' := w9) (fun i hi => hb9.block i (by simp [World.setCell]; omega))
  have hG9 := hG8.below hb9 (by have := z7; simp [World.setCell]; omega)
  have z9 : w7.heap.size ≤ w9.heap.size := by have h := hb9.size; simpa [World.setCell] using h
  have z6c := z6
  have hbe : ((y2 - (m8 : Int)) == 0) = false := by rw [beq_eq_false_iff_ne]; have h1 := HM8.out; have h2 := HLW.out; omega
  have gp0 := P9.cell 0; have gp1 := P9.cell 1; have gq0 := Q9.cell 0; have gq1 := Q9.cell 1; have gq2 := Q9.cell 2; have gq3 := Q9.cell 3; have gr0 := R9.cell 0; have gr1 := R9.cell 1; have gf0 := R9.frozen 0; have gf1 := R9.frozen 1
  have x90 := V9.cell 0; have x91 := V9.cell 1; have x92 := V9.cell 2; have x93 := V9.cell 3
  have hsz3 := hW.size hM Tryz.underlying3 (asc_nodup HAS.out)
  have hl9 : (Builtin.len_ #[76] 3 #[.map (some b)]).run Tryz.prog w9 = .ok (.int .i64 (n0 : Int)) w9 := by have h := hM9.len Tryz.underlying76 3; rw [hsz3, E0.out] at h; exact h
  clear hsz3
  have hb6 : ((n0 : Int) == 6) = true := by rw [beq_iff_eq]; omega
  go_wp2_with fail
  refine (i_deskOf (w := w9) (l := p.1) hM9 hW9 (by have := z9; have := z7; omega) HAS.out (tIs.reach hr1 hB9) (by have := HDS.out; omega)).mono ?_
  rintro e wx ⟨D0, d0, D1, d1, F, rfl, hO9, hN9, hbx⟩
  have Rx := R9.below hbx R9.size
  have RR := (Rx.put 0 (.slice D0 p.1.length d0)).put 1 (.slice D1 p.2.length d1)
  have u0 := RR.cell 0; have u1 := RR.cell 1
  have sr0 := Rx.cell 0; have sr1 := Rx.cell 1; have sf0 := Rx.frozen 0; have sf1 := Rx.frozen 1
  go_wp2
  have := z9; have := z7
  have hOx := put2D_O (g := w.heap.size + 1 + 1) hO9 (fun hx => by have h1 := hN9.2 _ hx; have h2 := Rx.size; omega)
  have hBx := bel_put (bel_put (bel_trans hB9 hbx) (p := ⟨w.heap.size + 1 + 1, 0, none⟩) (by show _ ≤ w.heap.size + 1 + 1; omega) (.slice D0 p.1.length d0)) (p := ⟨w.heap.size + 1 + 1, 1, none⟩) (by show _ ≤ w.heap.size + 1 + 1; omega) (.slice D1 p.2.length d1)
  refine bodyPost_ret (v := .tuple #[.agg #[.slice D0 p.1.length d0, .slice D1 p.2.length d1], .slice none 0 0, .int .i64 (-2)]) (by simp [results, Tryz.results11, go_sem, u0, u1]) rfl ⟨_, F, none, 0, [], rfl, hOx, nilB_O, by rw [List.append_nil]; exact (hN9).lower (by omega), hBx⟩
set_option maxHeartbeats 1600000 in
theorem i_tk_np {w : World} {n0 c0 n1 c1 n7 c7 : Nat} {A0 A1 A7 : Option Addr} {y0 y1 y2 x : Int} {qd : List Int} {p : DDesk} (h : tDesk.R w w.heap.size [.slice A0 n0 c0, .slice A1 n1 c1] p) (hq : tPiece.R w w.heap.size [.int .i64 y0, .int .i64 y1, .int .i64 y2, .slice A7 n7 c7] (y0, y1, y2, qd)) (hp : DkOk p) (hpc : PcOk (y0, y1, y2, qd)) (hx : 0 ≤ x ∧ x ≤ 65535) (hne : ∀ a ∈ p.1, a.1 ≠ y0) (hm : y0 ∉ p.2) (hd : ¬ ((insB pAt (y0, y1, y2, qd) ([] : List DPiece)).length : Int) = y2) (hf : ¬ 6 ≤ n0) (hok : DkOk (insB wId (y0, y2, x, insB pAt (y0, y1, y2, qd) []) p.1, p.2)) :
    Calls Tryz.prog 11 #[.agg #[.slice A0 n0 c0, .slice A1 n1 c1], .agg #[.int .i64 y0, .int .i64 y1, .int .i64 y2, .slice A7 n7 c7], .int .i64 x] w fun e w' => ∃ cs' F1 A c F2, e = .returned (.tuple #[.agg cs'.toArray, .slice A (([] : List Int)).length c, .int .i64 (0)]) ∧ tDesk.O w' cs' (insB wId (y0, y2, x, insB pAt (y0, y1, y2, qd) []) p.1, p.2) F1 ∧ tBy.O w' [.slice A (([] : List Int)).length c] (([] : List Int)) F2 ∧ New w.heap.size (F1 ++ F2) ∧ Below w.heap.size w w' := by
  have HLW := Lib.hid (show ((insB pAt (y0, y1, y2, qd) ([] : List DPiece)).length : Int) ≠ y2 ∧ (insB pAt (y0, y1, y2, qd) ([] : List DPiece)).length ≤ 9 ∧ 0 ≤ y2 ∧ y2 ≤ 8 from ⟨hd, by have h1 := insB_len_le pAt (y0, y1, y2, qd) ([] : List DPiece); simp only [List.length_nil] at h1; omega, by have := pc_le8 hpc; simp only at this; omega, by have := pc_le8 hpc; simp only at this; omega⟩)
  clear hd
  have HOKS := Lib.hid (show rsz szWhole (insB wId (y0, y2, x, insB pAt (y0, y1, y2, qd) []) p.1) + p.2.length ≤ 4096 from (dkOk_sz hok).1)
  have HWA := Lib.hid (show (Lit.int .i64 y0).wf = true ∧ (Lit.int .i64 y2).wf = true ∧ (Lit.int .i64 x).wf = true from by obtain ⟨_, _, _, e_, w0_, w1_, w2_, -⟩ := openPiece hq; exact ⟨w0_, w2_, WalkArith.wf_i64 ⟨by omega, by omega⟩⟩)
  clear hok
  have HNE := Lib.hid hne
  have HM := Lib.hid (decide_eq_false hm)
  clear hne hm
  have HP := Lib.hid (decide_eq_true hp)
  have HQ := Lib.hid (decide_eq_true hpc)
  have hsz := (dkOk_sz hp).1
  have hsw := (dkOk_sz hp).2
  have hsq : szPiece (y0, y1, y2, qd) ≤ 20 := (pc_le8 hpc).2.2.1
  have hX := h
  obtain ⟨A0_, n0_, c0_, A1_, n1_, c1_, e_, -, -, hl0, hr0, -, -, hl1, hr1⟩ := openDesk hX
  simp only [List.cons.injEq, Value.slice.injEq, and_true] at e_
  obtain ⟨⟨rfl, rfl, rfl⟩, rfl, rfl, rfl⟩ := e_
  clear hX
  have hr1D := hr1
  have hn0 : n0 ≤ 6 := by have := hp.1; omega
  have hn1 : n1 ≤ 256 := by have := asc_len hp.2.2.1 hp.2.1; omega
  have hI1 := (slR_ints hr1).1
  have E0 := Lib.hid hl0
  have E1 := Lib.hid hl1
  clear hl0 hl1
  have HAP := Lib.hid (dk_apart hp)
  have HWF := Lib.hid (whs_wf hr0)
  have HAS := Lib.hid hp.2.2.2.1
  have HWY := Lib.hid (show (Lit.int .i64 y0).wf = true from by obtain ⟨_, _, _, e_, w0_, -⟩ := openPiece hq; exact w0_)
  have HDK := Lib.hid hp
  have HPC := Lib.hid hpc
  have HDS := Lib.hid (show rsz szWhole p.1 + p.2.length ≤ 4096 from hsz)
  clear hp hpc
  go_enter Tryz.func11, Tryz.ntmps11
  go_wp2_with fail
  refine (i_DeskOk (tDesk.reach h ?hB) (by omega)).mono ?_
  case hB => exact (belx)
  rintro e w1 ⟨rfl, hb1⟩
  rw [HP.out]
  have P1 : Box w1 w.heap.size 33 #[.slice A0 n0 c0, .slice A1 n1 c1] := Box.below (((Box.new w _ _).alloc _).alloc _) hb1 (by simp; omega)
  have Q1 : Box w1 (w.heap.size + 1) 37 #[.int .i64 y0, .int .i64 y1, .int .i64 y2, .slice A7 n7 c7] := Box.below (Box.alloc (by simpa using Box.new (w.alloc (.cells #[.slice A0 n0 c0, .slice A1 n1 c1] 33)) 37 #[.int .i64 y0, .int .i64 y1, .int .i64 y2, .slice A7 n7 c7]) _) hb1 (by first | (simp; done) | (simp; omega))
  have R1 : Box w1 (w.heap.size + 1 + 1) 33 #[.slice none 0 0, .slice none 0 0] := Box.below (by simpa using Box.new ((w.alloc (.cells #[.slice A0 n0 c0, .slice A1 n1 c1] 33)).alloc (.cells #[.int .i64 y0, .int .i64 y1, .int .i64 y2, .slice A7 n7 c7] 37)) 33 #[.slice none 0 0, .slice none 0 0]) hb1 (by simp)
  have hB1 : Below w.heap.size w w1 := bel_trans (belx) hb1
  have ap0 := P1.cell 0; have ap1 := P1.cell 1; have aq0 := Q1.cell 0; have aq1 := Q1.cell 1; have aq2 := Q1.cell 2; have aq3 := Q1.cell 3; have ar0 := R1.cell 0; have ar1 := R1.cell 1; have af0 := R1.frozen 0; have af1 := R1.frozen 1
  go_wp2_with fail
  refine (i_PieceOk (tPiece.reach hq hB1) (by omega)).mono ?_
  rintro e w2 ⟨rfl, hb2⟩
  rw [HQ.out]
  have P2 := P1.below hb2 P1.size
  have Q2 := Q1.below hb2 Q1.size
  have R2 := R1.below hb2 R1.size
  have hB2 := bel_trans hB1 hb2
  clear ap0 ap1 aq0 aq1 aq2 aq3 ar0 ar1 af0 af1
  have bp0 := P2.cell 0; have bp1 := P2.cell 1; have bq0 := Q2.cell 0; have bq1 := Q2.cell 1; have bq2 := Q2.cell 2; have bq3 := Q2.cell 3; have br0 := R2.cell 0; have br1 := R2.cell 1; have bf0 := R2.frozen 0; have bf1 := R2.frozen 1
  go_wp2_with fail
  refine (i4_isDue_t x w2 hx.1 hx.2).mono ?_
  rintro e w' ⟨rfl, rfl⟩
  go_wp2_with fail
  refine (i_opened (tWhole.row.reach hr0 hB2) (by omega) HAP.out HWF.out).mono ?_
  rintro e w4 ⟨b, D, rfl, hM, hW, hbb, hb4⟩
  have P4 := P2.below hb4 P2.size
  have Q4 := Q2.below hb4 Q2.size
  have R4 := R2.below hb4 R2.size
  have hB4 := bel_trans hB2 hb4
  clear bp0 bp1 bq0 bq1 bq2 bq3 br0 br1 bf0 bf1
  have cp0 := P4.cell 0; have cp1 := P4.cell 1; have cq0 := Q4.cell 0; have cq1 := Q4.cell 1; have cq2 := Q4.cell 2; have cq3 := Q4.cell 3; have cr0 := R4.cell 0; have cr1 := R4.cell 1; have cf0 := R4.frozen 0; have cf1 := R4.frozen 1
  have z4 := hb4.size
  have zb := hM.lt
  have zR := R2.size
  obtain ⟨v, hlk⟩ := hW.look_ok hM Tryz.underlying3 Tryz.underlying76 (zwholeL w4) HWY.out
  rcases hlk with ⟨a_, es_, ha_, hid_, -⟩ | ⟨-, rfl, hrun⟩
  · exact absurd hid_ (HNE.out a_ ha_)
  have P5 := P4.alloc (.cells #[.int .i64 0, .int .i64 0, .int .i64 0, .slice none 0 0] 53)
  have Q5 := Q4.alloc (.cells #[.int .i64 0, .int .i64 0, .int .i64 0, .slice none 0 0] 53)
  have R5 := R4.alloc (.cells #[.int .i64 0, .int .i64 0, .int .i64 0, .slice none 0 0] 53)
  have hx5 : Below w4.heap.size w4 (w4.alloc (.cells #[.int .i64 0, .int .i64 0, .int .i64 0, .slice none 0 0] 53)) := (belx)
  have hB5 := bel_trans hB4 hx5
  have hM5 := hM.kept (row := none) (below_grownBy hx5) (by simp)
  have hW5 := hW.keep (w' := (w4.alloc (.cells #[.int .i64 0, .int .i64 0, .int .i64 0, .slice none 0 0] 53))) (fun i hi => hx5.block i (by omega))
  have V5 : Box (w4.alloc (.cells #[.int .i64 0, .int .i64 0, .int .i64 0, .slice none 0 0] 53)) w4.heap.size 53 #[.int .i64 0, .int .i64 0, .int .i64 0, .slice none 0 0] := Box.new w4 _ _
  have dp0 := P5.cell 0; have dp1 := P5.cell 1; have dq0 := Q5.cell 0; have dq1 := Q5.cell 1; have dq2 := Q5.cell 2; have dq3 := Q5.cell 3; have dr0 := R5.cell 0; have dr1 := R5.cell 1; have df0 := R5.frozen 0; have df1 := R5.frozen 1
  have v50 := V5.cell 0; have v51 := V5.cell 1; have v52 := V5.cell 2; have v53 := V5.cell 3
  go_wp2_with fail
  refine (i_ContainsI (w := (w4.alloc (.cells #[.int .i64 0, .int .i64 0, .int .i64 0, .slice none 0 0] 53))) (B := w.heap.size) y0 (hI1.below hB5) (by omega)).mono ?_
  rintro e w' ⟨rfl, rfl⟩
  rw [HM.out]
  have P6 := P4.alloc (.cells #[.int .i64 y0, .int .i64 y2, .int .i64 x, .slice none 0 0] 53)
  have Q6 := Q4.alloc (.cells #[.int .i64 y0, .int .i64 y2, .int .i64 x, .slice none 0 0] 53)
  have R6 := R4.alloc (.cells #[.int .i64 y0, .int .i64 y2, .int .i64 x, .slice none 0 0] 53)
  have hx6 : Below w4.heap.size w4 (w4.alloc (.cells #[.int .i64 y0, .int .i64 y2, .int .i64 x, .slice none 0 0] 53)) := (belx)
  have hB6 := bel_trans hB4 hx6
  have hM6 := hM.kept (row := none) (below_grownBy hx6) (by simp)
  have hW6 := hW.keep (w' := (w4.alloc (.cells #[.int .i64 y0, .int .i64 y2, .int .i64 x, .slice none 0 0] 53))) (fun i hi => hx6.block i (by omega))
  have V6 : Box (w4.alloc (.cells #[.int .i64 y0, .int .i64 y2, .int .i64 x, .slice none 0 0] 53)) w4.heap.size 53 #[.int .i64 y0, .int .i64 y2, .int .i64 x, .slice none 0 0] := Box.new w4 _ _
  have z6 : w4.heap.size + 1 ≤ (w4.alloc (.cells #[.int .i64 y0, .int .i64 y2, .int .i64 x, .slice none 0 0] 53)).heap.size := by simp
  have ep0 := P6.cell 0; have ep1 := P6.cell 1; have eq0 := Q6.cell 0; have eq1 := Q6.cell 1; have eq2 := Q6.cell 2; have eq3 := Q6.cell 3; have er0 := R6.cell 0; have er1 := R6.cell 1; have ef0 := R6.frozen 0; have ef1 := R6.frozen 1
  have v60 := V6.cell 0; have v61 := V6.cell 1; have v62 := V6.cell 2; have v63 := V6.cell 3; have vf0 := V6.frozen 0; have vf1 := V6.frozen 1; have vf2 := V6.frozen 2; have vf3 := V6.frozen 3
  go_wp2_with fail
  refine (i_with (w := (w4.alloc (.cells #[.int .i64 y0, .int .i64 y2, .int .i64 x, .slice none 0 0] 53))) (g := []) (B0 := w2.heap.size) (by omega) ⟨none, 0, 0, rfl, Nat.le_refl _, by omega, rfl, fun h => absurd h (by omega)⟩ (by omega) (tPiece.up (tPiece.keep hq hB6.block) hB2.size) (fun i hi => absurd hi (by simp)) (fun p hp => absurd hp (by simp))).mono ?_
  rintro e w7 ⟨A8, m8, c8, rfl, hm8, hG7, hb7⟩
  have HM8 := Lib.hid hm8
  have HM8b := Lib.hid (show m8 ≤ 9 by rw [hm8]; have := HLW.out; omega)
  clear hm8
  have P7 := P6.below hb7 P6.size
  have Q7 := Q6.below hb7 Q6.size
  have R7 := R6.below hb7 R6.size
  have V7 := V6.below hb7 V6.size
  have hB7 := bel_trans hB6 hb7
  have hM7 := hM6.kept (row := none) (below_grownBy hb7) (by simp)
  have hW7 := hW6.keep (w' := w7) (fun i hi => hb7.block i (by have := z6; omega))
  have z7 := Nat.le_trans z6 hb7.size
  have v70 := V7.cell 0; have v71 := V7.cell 1; have v72 := V7.cell 2; have v73 := V7.cell 3; have wf0 := V7.frozen 0; have wf1 := V7.frozen 1; have wf2 := V7.frozen 2; have wf3 := V7.frozen 3
  have zw2 := hB2.size
  have P8 := ((((P7.far (p := ⟨w4.heap.size, 0, none⟩) (by show ¬ w.heap.size = w4.heap.size; omega) (.int .i64 y0)).far (p := ⟨w4.heap.size, 1, none⟩) (by show ¬ w.heap.size = w4.heap.size; omega) (.int .i64 y2)).far (p := ⟨w4.heap.size, 2, none⟩) (by show ¬ w.heap.size = w4.heap.size; omega) (.int .i64 x)).far (p := ⟨w4.heap.size, 3, none⟩) (by show ¬ w.heap.size = w4.heap.size; omega) (.slice A8 m8 c8))
  have Q8 := ((((Q7.far (p := ⟨w4.heap.size, 0, none⟩) (by show ¬ w.heap.size + 1 = w4.heap.size; omega) (.int .i64 y0)).far (p := ⟨w4.heap.size, 1, none⟩) (by show ¬ w.heap.size + 1 = w4.heap.size; omega) (.int .i64 y2)).far (p := ⟨w4.heap.size, 2, none⟩) (by show ¬ w.heap.size + 1 = w4.heap.size; omega) (.int .i64 x)).far (p := ⟨w4.heap.size, 3, none⟩) (by show ¬ w.heap.size + 1 = w4.heap.size; omega) (.slice A8 m8 c8))
  have R8 := ((((R7.far (p := ⟨w4.heap.size, 0, none⟩) (by show ¬ w.heap.size + 1 + 1 = w4.heap.size; omega) (.int .i64 y0)).far (p := ⟨w4.heap.size, 1, none⟩) (by show ¬ w.heap.size + 1 + 1 = w4.heap.size; omega) (.int .i64 y2)).far (p := ⟨w4.heap.size, 2, none⟩) (by show ¬ w.heap.size + 1 + 1 = w4.heap.size; omega) (.int .i64 x)).far (p := ⟨w4.heap.size, 3, none⟩) (by show ¬ w.heap.size + 1 + 1 = w4.heap.size; omega) (.slice A8 m8 c8))
  have V8 := ((((V7.put 0 (.int .i64 y0)).put 1 (.int .i64 y2)).put 2 (.int .i64 x)).put 3 (.slice A8 m8 c8))
  have hB8 := (bel_put (bel_put (bel_put (bel_put hB7 (p := ⟨w4.heap.size, 0, none⟩) hB4.size (.int .i64 y0)) (p := ⟨w4.heap.size, 1, none⟩) hB4.size (.int .i64 y2)) (p := ⟨w4.heap.size, 2, none⟩) hB4.size (.int .i64 x)) (p := ⟨w4.heap.size, 3, none⟩) hB4.size (.slice A8 m8 c8))
  have hG8 := ((((hG7.put (p := ⟨w4.heap.size, 0, none⟩) (by show w4.heap.size < _; have := z6; omega) z4 (.int .i64 y0)).put (p := ⟨w4.heap.size, 1, none⟩) (by show w4.heap.size < _; have := z6; omega) z4 (.int .i64 y2)).put (p := ⟨w4.heap.size, 2, none⟩) (by show w4.heap.size < _; have := z6; omega) z4 (.int .i64 x)).put (p := ⟨w4.heap.size, 3, none⟩) (by show w4.heap.size < _; have := z6; omega) z4 (.slice A8 m8 c8))
  have hM8 := ((((hM7.setCell (a := ⟨w4.heap.size, 0, none⟩) (by show b ≠ w4.heap.size; omega) (.int .i64 y0)).setCell (a := ⟨w4.heap.size, 1, none⟩) (by show b ≠ w4.heap.size; omega) (.int .i64 y2)).setCell (a := ⟨w4.heap.size, 2, none⟩) (by show b ≠ w4.heap.size; omega) (.int .i64 x)).setCell (a := ⟨w4.heap.size, 3, none⟩) (by show b ≠ w4.heap.size; omega) (.slice A8 m8 c8))
  have hW8 := hW7.keep (w' := ((((w7.setCell ⟨w4.heap.size, 0, none⟩ (.int .i64 y0)).setCell ⟨w4.heap.size, 1, none⟩ (.int .i64 y2)).setCell ⟨w4.heap.size, 2, none⟩ (.int .i64 x)).setCell ⟨w4.heap.size, 3, none⟩ (.slice A8 m8 c8))) (fun i hi => by rw [Below.heap_setCell _ _ _ i (by show i ≠ w4.heap.size; omega)]; rw [Below.heap_setCell _ _ _ i (by show i ≠ w4.heap.size; omega)]; rw [Below.heap_setCell _ _ _ i (by show i ≠ w4.heap.size; omega)]; rw [Below.heap_setCell _ _ _ i (by show i ≠ w4.heap.size; omega)];)
  have x80 := V8.cell 0; have x81 := V8.cell 1; have x82 := V8.cell 2; have x83 := V8.cell 3
  go_wp2_with fail
  refine (i_lacking A8 m8 c8 _ _ _ (y2 - (m8 : Int)) ((((w7.setCell ⟨w4.heap.size, 0, none⟩ (.int .i64 y0)).setCell ⟨w4.heap.size, 1, none⟩ (.int .i64 y2)).setCell ⟨w4.heap.size, 2, none⟩ (.int .i64 x)).setCell ⟨w4.heap.size, 3, none⟩ (.slice A8 m8 c8)) (IntWalk.i64_in _ (by have h1 := HM8.out; have h2 := HLW.out; omega))).mono ?_
  rintro e w9 ⟨rfl, hb9⟩
  have P9 := P8.below hb9 P8.size
  have Q9 := Q8.below hb9 Q8.size
  have R9 := R8.below hb9 R8.size
  have V9 := V8.below hb9 V8.size
  have hB9 := bel_trans hB8 hb9
  have hM9 := hM8.kept (row := none) (below_grownBy hb9) (by simp)
  have hW9 := hW8.keep (w' := w9) (fun i hi => hb9.block i (by simp [World.setCell]; omega))
  have hG9 := hG8.below hb9 (by have := z7; simp [World.setCell]; omega)
  have z9 : w7.heap.size ≤ w9.heap.size := by have h := hb9.size; simpa [World.setCell] using h
  have z6c := z6
  have hbe : ((y2 - (m8 : Int)) == 0) = false := by rw [beq_eq_false_iff_ne]; have h1 := HM8.out; have h2 := HLW.out; omega
  have gp0 := P9.cell 0; have gp1 := P9.cell 1; have gq0 := Q9.cell 0; have gq1 := Q9.cell 1; have gq2 := Q9.cell 2; have gq3 := Q9.cell 3; have gr0 := R9.cell 0; have gr1 := R9.cell 1; have gf0 := R9.frozen 0; have gf1 := R9.frozen 1
  have x90 := V9.cell 0; have x91 := V9.cell 1; have x92 := V9.cell 2; have x93 := V9.cell 3
  have hsz3 := hW.size hM Tryz.underlying3 (asc_nodup HAS.out)
  have hl9 : (Builtin.len_ #[76] 3 #[.map (some b)]).run Tryz.prog w9 = .ok (.int .i64 (n0 : Int)) w9 := by have h := hM9.len Tryz.underlying76 3; rw [hsz3, E0.out] at h; exact h
  clear hsz3
  have hb6 : ((n0 : Int) == 6) = false := by rw [beq_eq_false_iff_ne]; omega
  have hkey : keyOf Tryz.prog 3 (.int .i64 y0) = some (mK y0) := Go.Maps.keyOf_int_mk Tryz.underlying3 HWY.out
  have hOwn9 := hG9.own
  go_wp2_with (at_mapUpdate; refine wpList_mapUpdate_own _ rfl _ _ _ 76 rfl 3 53 ms_keyed Tryz.underlying76 mR b n0 D rfl hM9 (by simp only [maxLen]; omega) _ _ (mK y0) rfl rfl hkey _ [] rfl ?_; intro w10 hM10 hgr10; have P10 := Box.grown P9 hgr10 (fun e => by have e := Option.some.inj e; omega); have Q10 := Box.grown Q9 hgr10 (fun e => by have e := Option.some.inj e; omega); have R10 := Box.grown R9 hgr10 (fun e => by have e := Option.some.inj e; omega); have hp0 := P10.cell 0; have hp1 := P10.cell 1; have hr0 := R10.cell 0; have hr1 := R10.cell 1; have hf0 := R10.frozen 0; have hf1 := R10.frozen 1)
  have hB10 : Below w.heap.size w w10 := Below.grown hB9 hgr10 hB9.size (fun i hi => by have e := Option.some.inj hi; omega)
  have z10 := hgr10.size
  have hW10 := hW9.keep (w' := w10) (fun i hi => hgr10.block i (by have := z9; have := z7; omega) (by simp; omega))
  have hG10 := hG9.past hgr10 hbb (fun i hi => by have := (hOwn9 i hi).1; have := z6c; omega) (by have := z9; have := z7; omega)
  have hRW : tWhole.R w10 w10.heap.size [.int .i64 y0, .int .i64 y2, .int .i64 x, .slice A8 m8 c8] (y0, y2, x, insB pAt (y0, y1, y2, qd) []) := makeWhole (p := (y0, y2, x, insB pAt (y0, y1, y2, qd) [])) HWA.out.1 HWA.out.2.1 HWA.out.2.2 (hG10.doneAs (by have := z10; have := z9; have := z7; omega))
  have hWp := (hW10.up (B' := w10.heap.size) (by omega)).put hRW
  have hWm := hWp.mem (l' := insB wId (y0, y2, x, insB pAt (y0, y1, y2, qd) []) p.1) (fun a => by rw [insB_mem, List.mem_append, List.mem_filter, List.mem_singleton, decide_eq_true_iff]; exact ⟨fun h => h.elim .inr .inl, fun h => h.elim .inr .inl⟩)
  refine (i_deskOf (w := w10) (l := insB wId (y0, y2, x, insB pAt (y0, y1, y2, qd) []) p.1) hM10 hWm (Nat.le_refl _) (asc_ofM (f := wId) (insB_pw (asc_pairM (f := wId) HAS.out))) (tIs.reach hr1D hB10) (by have h := HOKS.out; omega)).mono ?_
  rintro e wx ⟨D0, d0, D1, d1, F, rfl, hO9, hN9, hbx⟩
  have Rx := R10.below hbx R10.size
  have RR := (Rx.put 0 (.slice D0 (insB wId (y0, y2, x, insB pAt (y0, y1, y2, qd) []) p.1).length d0)).put 1 (.slice D1 p.2.length d1)
  have u0 := RR.cell 0; have u1 := RR.cell 1
  have sr0 := Rx.cell 0; have sr1 := Rx.cell 1; have sf0 := Rx.frozen 0; have sf1 := Rx.frozen 1
  go_wp2
  have := z9; have := z7
  have hOx := put2D_O (g := w.heap.size + 1 + 1) hO9 (fun hx => by have h1 := hN9.2 _ hx; have h2 := Rx.size; omega)
  have hBx := bel_put (bel_put (bel_trans hB10 hbx) (p := ⟨w.heap.size + 1 + 1, 0, none⟩) (by show _ ≤ w.heap.size + 1 + 1; omega) (.slice D0 (insB wId (y0, y2, x, insB pAt (y0, y1, y2, qd) []) p.1).length d0)) (p := ⟨w.heap.size + 1 + 1, 1, none⟩) (by show _ ≤ w.heap.size + 1 + 1; omega) (.slice D1 p.2.length d1)
  refine bodyPost_ret (v := .tuple #[.agg #[.slice D0 (insB wId (y0, y2, x, insB pAt (y0, y1, y2, qd) []) p.1).length d0, .slice D1 p.2.length d1], .slice none 0 0, .int .i64 (0)]) (by simp [results, Tryz.results11, go_sem, u0, u1]) rfl ⟨_, F, none, 0, [], rfl, hOx, nilB_O, by rw [List.append_nil]; exact (hN9).lower (by omega), hBx⟩
set_option maxHeartbeats 1600000 in
theorem i_tk_tp {w : World} {n0 c0 n1 c1 n7 c7 : Nat} {A0 A1 A7 : Option Addr} {y0 y1 y2 x : Int} {qd : List Int} {p : DDesk} (h : tDesk.R w w.heap.size [.slice A0 n0 c0, .slice A1 n1 c1] p) (hq : tPiece.R w w.heap.size [.int .i64 y0, .int .i64 y1, .int .i64 y2, .slice A7 n7 c7] (y0, y1, y2, qd)) (hp : DkOk p) (hpc : PcOk (y0, y1, y2, qd)) (hx : 0 ≤ x ∧ x ≤ 65535) {a2 : Int} {ag : List DPiece} (ham : (y0, y2, a2, ag) ∈ p.1) (hno : ∀ p ∈ ag, p.2.1 ≠ y1) (hd : ¬ ((insB pAt (y0, y1, y2, qd) ag).length : Int) = y2) (hok : DkOk (insB wId (y0, y2, a2, insB pAt (y0, y1, y2, qd) ag) p.1, p.2)) :
    Calls Tryz.prog 11 #[.agg #[.slice A0 n0 c0, .slice A1 n1 c1], .agg #[.int .i64 y0, .int .i64 y1, .int .i64 y2, .slice A7 n7 c7], .int .i64 x] w fun e w' => ∃ cs' F1 A c F2, e = .returned (.tuple #[.agg cs'.toArray, .slice A (([] : List Int)).length c, .int .i64 (0)]) ∧ tDesk.O w' cs' (insB wId (y0, y2, a2, insB pAt (y0, y1, y2, qd) ag) p.1, p.2) F1 ∧ tBy.O w' [.slice A (([] : List Int)).length c] (([] : List Int)) F2 ∧ New w.heap.size (F1 ++ F2) ∧ Below w.heap.size w w' := by
  have HL := Lib.hid (show decide (y1 ∉ ag.map fun p => p.2.1) = true from decide_eq_true (fun h => by obtain ⟨p_, h1, h2⟩ := List.mem_map.1 h; exact hno p_ h1 h2))
  have HNT := Lib.hid hno
  have HASG := Lib.hid (show Asc (ag.map pAt) from (hp.2.2.2.2 _ ham).1.2.2.2)
  have HLW := Lib.hid (show ((insB pAt (y0, y1, y2, qd) ag).length : Int) ≠ y2 ∧ (insB pAt (y0, y1, y2, qd) ag).length ≤ 9 ∧ 0 ≤ y2 ∧ y2 ≤ 8 from ⟨hd, by have h1 := insB_len_le pAt (y0, y1, y2, qd) ag; have h2 := dk_wh hp ham; simp only at h2; omega, by have := pc_le8 hpc; simp only at this; omega, by have := pc_le8 hpc; simp only at this; omega⟩)
  have HOKS := Lib.hid (show rsz szWhole (insB wId (y0, y2, a2, insB pAt (y0, y1, y2, qd) ag) p.1) + p.2.length ≤ 4096 from (dkOk_sz hok).1)
  clear hno hd hok
  have HAM := Lib.hid ham
  have HM := Lib.hid (decide_eq_false (hp.2.2.2.2 _ ham).2)
  have HWH := Lib.hid (hp.2.2.2.2 _ ham).1
  have HWL := Lib.hid (dk_wh hp ham)
  clear ham
  have HP := Lib.hid (decide_eq_true hp)
  have HQ := Lib.hid (decide_eq_true hpc)
  have hsz := (dkOk_sz hp).1
  have hsw := (dkOk_sz hp).2
  have hsq : szPiece (y0, y1, y2, qd) ≤ 20 := (pc_le8 hpc).2.2.1
  have hX := h
  obtain ⟨A0_, n0_, c0_, A1_, n1_, c1_, e_, -, -, hl0, hr0, -, -, hl1, hr1⟩ := openDesk hX
  simp only [List.cons.injEq, Value.slice.injEq, and_true] at e_
  obtain ⟨⟨rfl, rfl, rfl⟩, rfl, rfl, rfl⟩ := e_
  clear hX
  have hr1D := hr1
  have hn0 : n0 ≤ 6 := by have := hp.1; omega
  have hn1 : n1 ≤ 256 := by have := asc_len hp.2.2.1 hp.2.1; omega
  have hI1 := (slR_ints hr1).1
  have E0 := Lib.hid hl0
  have E1 := Lib.hid hl1
  clear hl0 hl1
  have HAP := Lib.hid (dk_apart hp)
  have HWF := Lib.hid (whs_wf hr0)
  have HAS := Lib.hid hp.2.2.2.1
  have HWY := Lib.hid (show (Lit.int .i64 y0).wf = true from by obtain ⟨_, _, _, e_, w0_, -⟩ := openPiece hq; exact w0_)
  have HDK := Lib.hid hp
  have HPC := Lib.hid hpc
  have HDS := Lib.hid (show rsz szWhole p.1 + p.2.length ≤ 4096 from hsz)
  clear hp hpc
  go_enter Tryz.func11, Tryz.ntmps11
  go_wp2_with fail
  refine (i_DeskOk (tDesk.reach h ?hB) (by omega)).mono ?_
  case hB => exact (belx)
  rintro e w1 ⟨rfl, hb1⟩
  rw [HP.out]
  have P1 : Box w1 w.heap.size 33 #[.slice A0 n0 c0, .slice A1 n1 c1] := Box.below (((Box.new w _ _).alloc _).alloc _) hb1 (by simp; omega)
  have Q1 : Box w1 (w.heap.size + 1) 37 #[.int .i64 y0, .int .i64 y1, .int .i64 y2, .slice A7 n7 c7] := Box.below (Box.alloc (by simpa using Box.new (w.alloc (.cells #[.slice A0 n0 c0, .slice A1 n1 c1] 33)) 37 #[.int .i64 y0, .int .i64 y1, .int .i64 y2, .slice A7 n7 c7]) _) hb1 (by first | (simp; done) | (simp; omega))
  have R1 : Box w1 (w.heap.size + 1 + 1) 33 #[.slice none 0 0, .slice none 0 0] := Box.below (by simpa using Box.new ((w.alloc (.cells #[.slice A0 n0 c0, .slice A1 n1 c1] 33)).alloc (.cells #[.int .i64 y0, .int .i64 y1, .int .i64 y2, .slice A7 n7 c7] 37)) 33 #[.slice none 0 0, .slice none 0 0]) hb1 (by simp)
  have hB1 : Below w.heap.size w w1 := bel_trans (belx) hb1
  have ap0 := P1.cell 0; have ap1 := P1.cell 1; have aq0 := Q1.cell 0; have aq1 := Q1.cell 1; have aq2 := Q1.cell 2; have aq3 := Q1.cell 3; have ar0 := R1.cell 0; have ar1 := R1.cell 1; have af0 := R1.frozen 0; have af1 := R1.frozen 1
  go_wp2_with fail
  refine (i_PieceOk (tPiece.reach hq hB1) (by omega)).mono ?_
  rintro e w2 ⟨rfl, hb2⟩
  rw [HQ.out]
  have P2 := P1.below hb2 P1.size
  have Q2 := Q1.below hb2 Q1.size
  have R2 := R1.below hb2 R1.size
  have hB2 := bel_trans hB1 hb2
  clear ap0 ap1 aq0 aq1 aq2 aq3 ar0 ar1 af0 af1
  have bp0 := P2.cell 0; have bp1 := P2.cell 1; have bq0 := Q2.cell 0; have bq1 := Q2.cell 1; have bq2 := Q2.cell 2; have bq3 := Q2.cell 3; have br0 := R2.cell 0; have br1 := R2.cell 1; have bf0 := R2.frozen 0; have bf1 := R2.frozen 1
  go_wp2_with fail
  refine (i4_isDue_t x w2 hx.1 hx.2).mono ?_
  rintro e w' ⟨rfl, rfl⟩
  go_wp2_with fail
  refine (i_opened (tWhole.row.reach hr0 hB2) (by omega) HAP.out HWF.out).mono ?_
  rintro e w4 ⟨b, D, rfl, hM, hW, hbb, hb4⟩
  have P4 := P2.below hb4 P2.size
  have Q4 := Q2.below hb4 Q2.size
  have R4 := R2.below hb4 R2.size
  have hB4 := bel_trans hB2 hb4
  clear bp0 bp1 bq0 bq1 bq2 bq3 br0 br1 bf0 bf1
  have cp0 := P4.cell 0; have cp1 := P4.cell 1; have cq0 := Q4.cell 0; have cq1 := Q4.cell 1; have cq2 := Q4.cell 2; have cq3 := Q4.cell 3; have cr0 := R4.cell 0; have cr1 := R4.cell 1; have cf0 := R4.frozen 0; have cf1 := R4.frozen 1
  have z4 := hb4.size
  have zb := hM.lt
  have zR := R2.size
  obtain ⟨v, hlk⟩ := hW.look_ok hM Tryz.underlying3 Tryz.underlying76 (zwholeL w4) HWY.out
  rcases hlk with ⟨a_, es_, ha_, hid_, rfl, hRa, hrun⟩ | ⟨hno_, -, -⟩
  rotate_left
  · exact absurd rfl (hno_ _ HAM.out)
  obtain rfl := asc_one HAS.out ha_ HAM.out hid_
  obtain ⟨A3, n3, c3, rfl, wa0, wy2, wa2, -, -, hl3, h3⟩ := openWhole hRa
  have HL3 := Lib.hid (show ag.length = n3 from hl3)
  have HWA := Lib.hid (And.intro wa0 (And.intro wy2 wa2))
  clear hl3 wa0 wy2 wa2 hid_ ha_
  have P5 := P4.alloc (.cells #[.int .i64 y0, .int .i64 y2, .int .i64 a2, .slice A3 n3 c3] 53)
  have Q5 := Q4.alloc (.cells #[.int .i64 y0, .int .i64 y2, .int .i64 a2, .slice A3 n3 c3] 53)
  have R5 := R4.alloc (.cells #[.int .i64 y0, .int .i64 y2, .int .i64 a2, .slice A3 n3 c3] 53)
  have hx5 : Below w4.heap.size w4 (w4.alloc (.cells #[.int .i64 y0, .int .i64 y2, .int .i64 a2, .slice A3 n3 c3] 53)) := (belx)
  have hB5 := bel_trans hB4 hx5
  have hM5 := hM.kept (row := none) (below_grownBy hx5) (by simp)
  have hW5 := hW.keep (w' := (w4.alloc (.cells #[.int .i64 y0, .int .i64 y2, .int .i64 a2, .slice A3 n3 c3] 53))) (fun i hi => hx5.block i (by omega))
  have V5 : Box (w4.alloc (.cells #[.int .i64 y0, .int .i64 y2, .int .i64 a2, .slice A3 n3 c3] 53)) w4.heap.size 53 #[.int .i64 y0, .int .i64 y2, .int .i64 a2, .slice A3 n3 c3] := Box.new w4 _ _
  have dp0 := P5.cell 0; have dp1 := P5.cell 1; have dq0 := Q5.cell 0; have dq1 := Q5.cell 1; have dq2 := Q5.cell 2; have dq3 := Q5.cell 3; have dr0 := R5.cell 0; have dr1 := R5.cell 1; have df0 := R5.frozen 0; have df1 := R5.frozen 1
  have v50 := V5.cell 0; have v51 := V5.cell 1; have v52 := V5.cell 2; have v53 := V5.cell 3
  go_wp2_with fail
  refine (i_ContainsI (w := (w4.alloc (.cells #[.int .i64 y0, .int .i64 y2, .int .i64 a2, .slice A3 n3 c3] 53))) (B := w.heap.size) y0 (hI1.below hB5) (by omega)).mono ?_
  rintro e w' ⟨rfl, rfl⟩
  rw [HM.out]
  have hb1 : (y2 != y2) = false := by simp
  go_wp2_with fail
  refine (i_lacks (w := (w4.alloc (.cells #[.int .i64 y0, .int .i64 y2, .int .i64 a2, .slice A3 n3 c3] 53))) (a := (y0, y2, a2, ag)) y1 (tWhole.up (tWhole.keep hRa (fun b hb => hx5.block b (by omega))) (by simp; omega)) (by have h2 := HWL.out; have h3 : (ag.length : Int) < y2 := h2.2.1; have h4 : y2 ≤ 8 := h2.2.2; show ag.length ≤ 1048576; omega)).mono ?_
  rintro e w6 ⟨rfl, hb6⟩
  rw [HL.out]
  have P6 := P5.below hb6 P5.size
  have Q6 := Q5.below hb6 Q5.size
  have R6 := R5.below hb6 R5.size
  have hB6 := bel_trans hB5 hb6
  have hM6 := hM5.kept (row := none) (below_grownBy hb6) (by simp)
  have hW6 := hW5.keep (w' := w6) (fun i hi => hb6.block i (by simp; omega))
  have V6 := V5.below hb6 V5.size
  have z6 : w4.heap.size + 1 ≤ w6.heap.size := by have h := hb6.size; simpa using h
  clear dp0 dp1 dq0 dq1 dq2 dq3 dr0 dr1 df0 df1
  clear v50 v51 v52 v53
  have ep0 := P6.cell 0; have ep1 := P6.cell 1; have eq0 := Q6.cell 0; have eq1 := Q6.cell 1; have eq2 := Q6.cell 2; have eq3 := Q6.cell 3; have er0 := R6.cell 0; have er1 := R6.cell 1; have ef0 := R6.frozen 0; have ef1 := R6.frozen 1
  have v60 := V6.cell 0; have v61 := V6.cell 1; have v62 := V6.cell 2; have v63 := V6.cell 3; have vf0 := V6.frozen 0; have vf1 := V6.frozen 1; have vf2 := V6.frozen 2; have vf3 := V6.frozen 3
  go_wp2_with fail
  refine (i_with (w := w6) (g := ag) (B0 := w2.heap.size) (by omega) (tPiece.row.keep h3 (fun i hi => (bel_trans hx5 hb6).block i (by omega))) (by have h2 := HWL.out; have h3 : (ag.length : Int) < y2 := h2.2.1; have h4 : y2 ≤ 8 := h2.2.2; have h5 := HL3.out; omega) (tPiece.up (tPiece.keep hq hB6.block) hB2.size) HASG.out HNT.out).mono ?_
  rintro e w7 ⟨A8, m8, c8, rfl, hm8, hG7, hb7⟩
  have HM8 := Lib.hid hm8
  have HM8b := Lib.hid (show m8 ≤ 9 by rw [hm8]; have := HLW.out; omega)
  clear hm8
  have P7 := P6.below hb7 P6.size
  have Q7 := Q6.below hb7 Q6.size
  have R7 := R6.below hb7 R6.size
  have V7 := V6.below hb7 V6.size
  have hB7 := bel_trans hB6 hb7
  have hM7 := hM6.kept (row := none) (below_grownBy hb7) (by simp)
  have hW7 := hW6.keep (w' := w7) (fun i hi => hb7.block i (by have := z6; omega))
  have z7 := Nat.le_trans z6 hb7.size
  have v70 := V7.cell 0; have v71 := V7.cell 1; have v72 := V7.cell 2; have v73 := V7.cell 3; have wf0 := V7.frozen 0; have wf1 := V7.frozen 1; have wf2 := V7.frozen 2; have wf3 := V7.frozen 3
  have zw2 := hB2.size
  have P8 := ((((P7.far (p := ⟨w4.heap.size, 0, none⟩) (by show ¬ w.heap.size = w4.heap.size; omega) (.int .i64 y0)).far (p := ⟨w4.heap.size, 1, none⟩) (by show ¬ w.heap.size = w4.heap.size; omega) (.int .i64 y2)).far (p := ⟨w4.heap.size, 2, none⟩) (by show ¬ w.heap.size = w4.heap.size; omega) (.int .i64 a2)).far (p := ⟨w4.heap.size, 3, none⟩) (by show ¬ w.heap.size = w4.heap.size; omega) (.slice A8 m8 c8))
  have Q8 := ((((Q7.far (p := ⟨w4.heap.size, 0, none⟩) (by show ¬ w.heap.size + 1 = w4.heap.size; omega) (.int .i64 y0)).far (p := ⟨w4.heap.size, 1, none⟩) (by show ¬ w.heap.size + 1 = w4.heap.size; omega) (.int .i64 y2)).far (p := ⟨w4.heap.size, 2, none⟩) (by show ¬ w.heap.size + 1 = w4.heap.size; omega) (.int .i64 a2)).far (p := ⟨w4.heap.size, 3, none⟩) (by show ¬ w.heap.size + 1 = w4.heap.size; omega) (.slice A8 m8 c8))
  have R8 := ((((R7.far (p := ⟨w4.heap.size, 0, none⟩) (by show ¬ w.heap.size + 1 + 1 = w4.heap.size; omega) (.int .i64 y0)).far (p := ⟨w4.heap.size, 1, none⟩) (by show ¬ w.heap.size + 1 + 1 = w4.heap.size; omega) (.int .i64 y2)).far (p := ⟨w4.heap.size, 2, none⟩) (by show ¬ w.heap.size + 1 + 1 = w4.heap.size; omega) (.int .i64 a2)).far (p := ⟨w4.heap.size, 3, none⟩) (by show ¬ w.heap.size + 1 + 1 = w4.heap.size; omega) (.slice A8 m8 c8))
  have V8 := ((((V7.put 0 (.int .i64 y0)).put 1 (.int .i64 y2)).put 2 (.int .i64 a2)).put 3 (.slice A8 m8 c8))
  have hB8 := (bel_put (bel_put (bel_put (bel_put hB7 (p := ⟨w4.heap.size, 0, none⟩) hB4.size (.int .i64 y0)) (p := ⟨w4.heap.size, 1, none⟩) hB4.size (.int .i64 y2)) (p := ⟨w4.heap.size, 2, none⟩) hB4.size (.int .i64 a2)) (p := ⟨w4.heap.size, 3, none⟩) hB4.size (.slice A8 m8 c8))
  have hG8 := ((((hG7.put (p := ⟨w4.heap.size, 0, none⟩) (by show w4.heap.size < _; have := z6; omega) z4 (.int .i64 y0)).put (p := ⟨w4.heap.size, 1, none⟩) (by show w4.heap.size < _; have := z6; omega) z4 (.int .i64 y2)).put (p := ⟨w4.heap.size, 2, none⟩) (by show w4.heap.size < _; have := z6; omega) z4 (.int .i64 a2)).put (p := ⟨w4.heap.size, 3, none⟩) (by show w4.heap.size < _; have := z6; omega) z4 (.slice A8 m8 c8))
  have hM8 := ((((hM7.setCell (a := ⟨w4.heap.size, 0, none⟩) (by show b ≠ w4.heap.size; omega) (.int .i64 y0)).setCell (a := ⟨w4.heap.size, 1, none⟩) (by show b ≠ w4.heap.size; omega) (.int .i64 y2)).setCell (a := ⟨w4.heap.size, 2, none⟩) (by show b ≠ w4.heap.size; omega) (.int .i64 a2)).setCell (a := ⟨w4.heap.size, 3, none⟩) (by show b ≠ w4.heap.size; omega) (.slice A8 m8 c8))
  have hW8 := hW7.keep (w' := ((((w7.setCell ⟨w4.heap.size, 0, none⟩ (.int .i64 y0)).setCell ⟨w4.heap.size, 1, none⟩ (.int .i64 y2)).setCell ⟨w4.heap.size, 2, none⟩ (.int .i64 a2)).setCell ⟨w4.heap.size, 3, none⟩ (.slice A8 m8 c8))) (fun i hi => by rw [Below.heap_setCell _ _ _ i (by show i ≠ w4.heap.size; omega)]; rw [Below.heap_setCell _ _ _ i (by show i ≠ w4.heap.size; omega)]; rw [Below.heap_setCell _ _ _ i (by show i ≠ w4.heap.size; omega)]; rw [Below.heap_setCell _ _ _ i (by show i ≠ w4.heap.size; omega)];)
  have x80 := V8.cell 0; have x81 := V8.cell 1; have x82 := V8.cell 2; have x83 := V8.cell 3
  go_wp2_with fail
  refine (i_lacking A8 m8 c8 _ _ _ (y2 - (m8 : Int)) ((((w7.setCell ⟨w4.heap.size, 0, none⟩ (.int .i64 y0)).setCell ⟨w4.heap.size, 1, none⟩ (.int .i64 y2)).setCell ⟨w4.heap.size, 2, none⟩ (.int .i64 a2)).setCell ⟨w4.heap.size, 3, none⟩ (.slice A8 m8 c8)) (IntWalk.i64_in _ (by have h1 := HM8.out; have h2 := HLW.out; omega))).mono ?_
  rintro e w9 ⟨rfl, hb9⟩
  have P9 := P8.below hb9 P8.size
  have Q9 := Q8.below hb9 Q8.size
  have R9 := R8.below hb9 R8.size
  have V9 := V8.below hb9 V8.size
  have hB9 := bel_trans hB8 hb9
  have hM9 := hM8.kept (row := none) (below_grownBy hb9) (by simp)
  have hW9 := hW8.keep (w' := w9) (fun i hi => hb9.block i (by simp [World.setCell]; omega))
  have hG9 := hG8.below hb9 (by have := z7; simp [World.setCell]; omega)
  have z9 : w7.heap.size ≤ w9.heap.size := by have h := hb9.size; simpa [World.setCell] using h
  have z6c := z6
  have hbe : ((y2 - (m8 : Int)) == 0) = false := by rw [beq_eq_false_iff_ne]; have h1 := HM8.out; have h2 := HLW.out; omega
  have gp0 := P9.cell 0; have gp1 := P9.cell 1; have gq0 := Q9.cell 0; have gq1 := Q9.cell 1; have gq2 := Q9.cell 2; have gq3 := Q9.cell 3; have gr0 := R9.cell 0; have gr1 := R9.cell 1; have gf0 := R9.frozen 0; have gf1 := R9.frozen 1
  have x90 := V9.cell 0; have x91 := V9.cell 1; have x92 := V9.cell 2; have x93 := V9.cell 3
  have hkey : keyOf Tryz.prog 3 (.int .i64 y0) = some (mK y0) := Go.Maps.keyOf_int_mk Tryz.underlying3 HWY.out
  have hOwn9 := hG9.own
  go_wp2_with (at_mapUpdate; refine wpList_mapUpdate_own _ rfl _ _ _ 76 rfl 3 53 ms_keyed Tryz.underlying76 mR b n0 D rfl hM9 (by simp only [maxLen]; omega) _ _ (mK y0) rfl rfl hkey _ [] rfl ?_; intro w10 hM10 hgr10; have P10 := Box.grown P9 hgr10 (fun e => by have e := Option.some.inj e; omega); have Q10 := Box.grown Q9 hgr10 (fun e => by have e := Option.some.inj e; omega); have R10 := Box.grown R9 hgr10 (fun e => by have e := Option.some.inj e; omega); have hp0 := P10.cell 0; have hp1 := P10.cell 1; have hr0 := R10.cell 0; have hr1 := R10.cell 1; have hf0 := R10.frozen 0; have hf1 := R10.frozen 1)
  have hB10 : Below w.heap.size w w10 := Below.grown hB9 hgr10 hB9.size (fun i hi => by have e := Option.some.inj hi; omega)
  have z10 := hgr10.size
  have hW10 := hW9.keep (w' := w10) (fun i hi => hgr10.block i (by have := z9; have := z7; omega) (by simp; omega))
  have hG10 := hG9.past hgr10 hbb (fun i hi => by have := (hOwn9 i hi).1; have := z6c; omega) (by have := z9; have := z7; omega)
  have hRW : tWhole.R w10 w10.heap.size [.int .i64 y0, .int .i64 y2, .int .i64 a2, .slice A8 m8 c8] (y0, y2, a2, insB pAt (y0, y1, y2, qd) ag) := makeWhole (p := (y0, y2, a2, insB pAt (y0, y1, y2, qd) ag)) HWA.out.1 HWA.out.2.1 HWA.out.2.2 (hG10.doneAs (by have := z10; have := z9; have := z7; omega))
  have hWp := (hW10.up (B' := w10.heap.size) (by omega)).put hRW
  have hWm := hWp.mem (l' := insB wId (y0, y2, a2, insB pAt (y0, y1, y2, qd) ag) p.1) (fun a => by rw [insB_mem, List.mem_append, List.mem_filter, List.mem_singleton, decide_eq_true_iff]; exact ⟨fun h => h.elim .inr .inl, fun h => h.elim .inr .inl⟩)
  refine (i_deskOf (w := w10) (l := insB wId (y0, y2, a2, insB pAt (y0, y1, y2, qd) ag) p.1) hM10 hWm (Nat.le_refl _) (asc_ofM (f := wId) (insB_pw (asc_pairM (f := wId) HAS.out))) (tIs.reach hr1D hB10) (by have h := HOKS.out; omega)).mono ?_
  rintro e wx ⟨D0, d0, D1, d1, F, rfl, hO9, hN9, hbx⟩
  have Rx := R10.below hbx R10.size
  have RR := (Rx.put 0 (.slice D0 (insB wId (y0, y2, a2, insB pAt (y0, y1, y2, qd) ag) p.1).length d0)).put 1 (.slice D1 p.2.length d1)
  have u0 := RR.cell 0; have u1 := RR.cell 1
  have sr0 := Rx.cell 0; have sr1 := Rx.cell 1; have sf0 := Rx.frozen 0; have sf1 := Rx.frozen 1
  go_wp2
  have := z9; have := z7
  have hOx := put2D_O (g := w.heap.size + 1 + 1) hO9 (fun hx => by have h1 := hN9.2 _ hx; have h2 := Rx.size; omega)
  have hBx := bel_put (bel_put (bel_trans hB10 hbx) (p := ⟨w.heap.size + 1 + 1, 0, none⟩) (by show _ ≤ w.heap.size + 1 + 1; omega) (.slice D0 (insB wId (y0, y2, a2, insB pAt (y0, y1, y2, qd) ag) p.1).length d0)) (p := ⟨w.heap.size + 1 + 1, 1, none⟩) (by show _ ≤ w.heap.size + 1 + 1; omega) (.slice D1 p.2.length d1)
  refine bodyPost_ret (v := .tuple #[.agg #[.slice D0 (insB wId (y0, y2, a2, insB pAt (y0, y1, y2, qd) ag) p.1).length d0, .slice D1 p.2.length d1], .slice none 0 0, .int .i64 (0)]) (by simp [results, Tryz.results11, go_sem, u0, u1]) rfl ⟨_, F, none, 0, [], rfl, hOx, nilB_O, by rw [List.append_nil]; exact (hN9).lower (by omega), hBx⟩
set_option maxHeartbeats 1600000 in
theorem i_tk_td {w : World} {n0 c0 n1 c1 n7 c7 : Nat} {A0 A1 A7 : Option Addr} {y0 y1 y2 x : Int} {qd : List Int} {p : DDesk} (h : tDesk.R w w.heap.size [.slice A0 n0 c0, .slice A1 n1 c1] p) (hq : tPiece.R w w.heap.size [.int .i64 y0, .int .i64 y1, .int .i64 y2, .slice A7 n7 c7] (y0, y1, y2, qd)) (hp : DkOk p) (hpc : PcOk (y0, y1, y2, qd)) (hx : 0 ≤ x ∧ x ≤ 65535) {a2 : Int} {ag : List DPiece} (ham : (y0, y2, a2, ag) ∈ p.1) (hno : ∀ p ∈ ag, p.2.1 ≠ y1) (hd : ((insB pAt (y0, y1, y2, qd) ag).length : Int) = y2) :
    Calls Tryz.prog 11 #[.agg #[.slice A0 n0 c0, .slice A1 n1 c1], .agg #[.int .i64 y0, .int .i64 y1, .int .i64 y2, .slice A7 n7 c7], .int .i64 x] w fun e w' => ∃ cs' F1 A c F2, e = .returned (.tuple #[.agg cs'.toArray, .slice A (tkData (insB pAt (y0, y1, y2, qd) ag)).length c, .int .i64 (1)]) ∧ tDesk.O w' cs' (p.1.filter fun a => decide (a.1 ≠ y0), insB id y0 p.2) F1 ∧ tBy.O w' [.slice A (tkData (insB pAt (y0, y1, y2, qd) ag)).length c] (tkData (insB pAt (y0, y1, y2, qd) ag)) F2 ∧ New w.heap.size (F1 ++ F2) ∧ Below w.heap.size w w' := by
  have HL := Lib.hid (show decide (y1 ∉ ag.map fun p => p.2.1) = true from decide_eq_true (fun h => by obtain ⟨p_, h1, h2⟩ := List.mem_map.1 h; exact hno p_ h1 h2))
  have HNT := Lib.hid hno
  have HASG := Lib.hid (show Asc (ag.map pAt) from (hp.2.2.2.2 _ ham).1.2.2.2)
  have HLW := Lib.hid (show ((insB pAt (y0, y1, y2, qd) ag).length : Int) = y2 ∧ (insB pAt (y0, y1, y2, qd) ag).length ≤ 8 ∧ 0 ≤ y2 ∧ y2 ≤ 8 from ⟨hd, by have := (pc_le8 hpc).2.1; have e_ : ((y0, y1, y2, qd) : DPiece).2.2.1 = y2 := rfl; omega, by have := (pc_le8 hpc).1; have e_ : ((y0, y1, y2, qd) : DPiece).2.2.1 = y2 := rfl; omega, by have := (pc_le8 hpc).2.1; have e_ : ((y0, y1, y2, qd) : DPiece).2.2.1 = y2 := rfl; omega⟩)
  have HDS2 := Lib.hid (show rsz szWhole (p.1.filter fun a => decide (a.1 ≠ y0)) ≤ 2000 from Nat.le_trans (rsz_filter _ _ _) (dkOk_sz hp).2)
  have HD20 := Lib.hid (show ∀ p ∈ insB pAt (y0, y1, y2, qd) ag, p.2.2.2.length ≤ 20 from fun p_ hp_ => by rcases insB_mem.1 hp_ with rfl | ⟨h, _⟩; exact (pc_le8 hpc).2.2.1; exact (pc_le8 ((hp.2.2.2.2 _ ham).1.2.2.1 p_ h).1).2.2.1)
  have HMN := Lib.hid (hp.2.2.2.2 _ ham).2
  clear hno hd
  have HAM := Lib.hid ham
  have HM := Lib.hid (decide_eq_false (hp.2.2.2.2 _ ham).2)
  have HWH := Lib.hid (hp.2.2.2.2 _ ham).1
  have HWL := Lib.hid (dk_wh hp ham)
  clear ham
  have HP := Lib.hid (decide_eq_true hp)
  have HQ := Lib.hid (decide_eq_true hpc)
  have hsz := (dkOk_sz hp).1
  have hsw := (dkOk_sz hp).2
  have hsq : szPiece (y0, y1, y2, qd) ≤ 20 := (pc_le8 hpc).2.2.1
  have hX := h
  obtain ⟨A0_, n0_, c0_, A1_, n1_, c1_, e_, -, -, hl0, hr0, -, -, hl1, hr1⟩ := openDesk hX
  simp only [List.cons.injEq, Value.slice.injEq, and_true] at e_
  obtain ⟨⟨rfl, rfl, rfl⟩, rfl, rfl, rfl⟩ := e_
  clear hX
  have hr1D := hr1
  have hn0 : n0 ≤ 6 := by have := hp.1; omega
  have hn1 : n1 ≤ 256 := by have := asc_len hp.2.2.1 hp.2.1; omega
  have hI1 := (slR_ints hr1).1
  have E0 := Lib.hid hl0
  have E1 := Lib.hid hl1
  clear hl0 hl1
  have HAP := Lib.hid (dk_apart hp)
  have HWF := Lib.hid (whs_wf hr0)
  have HAS := Lib.hid hp.2.2.2.1
  have HWY := Lib.hid (show (Lit.int .i64 y0).wf = true from by obtain ⟨_, _, _, e_, w0_, -⟩ := openPiece hq; exact w0_)
  have HDK := Lib.hid hp
  have HPC := Lib.hid hpc
  have HDS := Lib.hid (show rsz szWhole p.1 + p.2.length ≤ 4096 from hsz)
  clear hp hpc
  go_enter Tryz.func11, Tryz.ntmps11
  go_wp2_with fail
  refine (i_DeskOk (tDesk.reach h ?hB) (by omega)).mono ?_
  case hB => exact (belx)
  rintro e w1 ⟨rfl, hb1⟩
  rw [HP.out]
  have P1 : Box w1 w.heap.size 33 #[.slice A0 n0 c0, .slice A1 n1 c1] := Box.below (((Box.new w _ _).alloc _).alloc _) hb1 (by simp; omega)
  have Q1 : Box w1 (w.heap.size + 1) 37 #[.int .i64 y0, .int .i64 y1, .int .i64 y2, .slice A7 n7 c7] := Box.below (Box.alloc (by simpa using Box.new (w.alloc (.cells #[.slice A0 n0 c0, .slice A1 n1 c1] 33)) 37 #[.int .i64 y0, .int .i64 y1, .int .i64 y2, .slice A7 n7 c7]) _) hb1 (by first | (simp; done) | (simp; omega))
  have R1 : Box w1 (w.heap.size + 1 + 1) 33 #[.slice none 0 0, .slice none 0 0] := Box.below (by simpa using Box.new ((w.alloc (.cells #[.slice A0 n0 c0, .slice A1 n1 c1] 33)).alloc (.cells #[.int .i64 y0, .int .i64 y1, .int .i64 y2, .slice A7 n7 c7] 37)) 33 #[.slice none 0 0, .slice none 0 0]) hb1 (by simp)
  have hB1 : Below w.heap.size w w1 := bel_trans (belx) hb1
  have ap0 := P1.cell 0; have ap1 := P1.cell 1; have aq0 := Q1.cell 0; have aq1 := Q1.cell 1; have aq2 := Q1.cell 2; have aq3 := Q1.cell 3; have ar0 := R1.cell 0; have ar1 := R1.cell 1; have af0 := R1.frozen 0; have af1 := R1.frozen 1
  go_wp2_with fail
  refine (i_PieceOk (tPiece.reach hq hB1) (by omega)).mono ?_
  rintro e w2 ⟨rfl, hb2⟩
  rw [HQ.out]
  have P2 := P1.below hb2 P1.size
  have Q2 := Q1.below hb2 Q1.size
  have R2 := R1.below hb2 R1.size
  have hB2 := bel_trans hB1 hb2
  clear ap0 ap1 aq0 aq1 aq2 aq3 ar0 ar1 af0 af1
  have bp0 := P2.cell 0; have bp1 := P2.cell 1; have bq0 := Q2.cell 0; have bq1 := Q2.cell 1; have bq2 := Q2.cell 2; have bq3 := Q2.cell 3; have br0 := R2.cell 0; have br1 := R2.cell 1; have bf0 := R2.frozen 0; have bf1 := R2.frozen 1
  go_wp2_with fail
  refine (i4_isDue_t x w2 hx.1 hx.2).mono ?_
  rintro e w' ⟨rfl, rfl⟩
  go_wp2_with fail
  refine (i_opened (tWhole.row.reach hr0 hB2) (by omega) HAP.out HWF.out).mono ?_
  rintro e w4 ⟨b, D, rfl, hM, hW, hbb, hb4⟩
  have P4 := P2.below hb4 P2.size
  have Q4 := Q2.below hb4 Q2.size
  have R4 := R2.below hb4 R2.size
  have hB4 := bel_trans hB2 hb4
  clear bp0 bp1 bq0 bq1 bq2 bq3 br0 br1 bf0 bf1
  have cp0 := P4.cell 0; have cp1 := P4.cell 1; have cq0 := Q4.cell 0; have cq1 := Q4.cell 1; have cq2 := Q4.cell 2; have cq3 := Q4.cell 3; have cr0 := R4.cell 0; have cr1 := R4.cell 1; have cf0 := R4.frozen 0; have cf1 := R4.frozen 1
  have z4 := hb4.size
  have zb := hM.lt
  have zR := R2.size
  obtain ⟨v, hlk⟩ := hW.look_ok hM Tryz.underlying3 Tryz.underlying76 (zwholeL w4) HWY.out
  rcases hlk with ⟨a_, es_, ha_, hid_, rfl, hRa, hrun⟩ | ⟨hno_, -, -⟩
  rotate_left
  · exact absurd rfl (hno_ _ HAM.out)
  obtain rfl := asc_one HAS.out ha_ HAM.out hid_
  obtain ⟨A3, n3, c3, rfl, wa0, wy2, wa2, -, -, hl3, h3⟩ := openWhole hRa
  have HL3 := Lib.hid (show ag.length = n3 from hl3)
  have HWA := Lib.hid (And.intro wa0 (And.intro wy2 wa2))
  clear hl3 wa0 wy2 wa2 hid_ ha_
  have P5 := P4.alloc (.cells #[.int .i64 y0, .int .i64 y2, .int .i64 a2, .slice A3 n3 c3] 53)
  have Q5 := Q4.alloc (.cells #[.int .i64 y0, .int .i64 y2, .int .i64 a2, .slice A3 n3 c3] 53)
  have R5 := R4.alloc (.cells #[.int .i64 y0, .int .i64 y2, .int .i64 a2, .slice A3 n3 c3] 53)
  have hx5 : Below w4.heap.size w4 (w4.alloc (.cells #[.int .i64 y0, .int .i64 y2, .int .i64 a2, .slice A3 n3 c3] 53)) := (belx)
  have hB5 := bel_trans hB4 hx5
  have hM5 := hM.kept (row := none) (below_grownBy hx5) (by simp)
  have hW5 := hW.keep (w' := (w4.alloc (.cells #[.int .i64 y0, .int .i64 y2, .int .i64 a2, .slice A3 n3 c3] 53))) (fun i hi => hx5.block i (by omega))
  have V5 : Box (w4.alloc (.cells #[.int .i64 y0, .int .i64 y2, .int .i64 a2, .slice A3 n3 c3] 53)) w4.heap.size 53 #[.int .i64 y0, .int .i64 y2, .int .i64 a2, .slice A3 n3 c3] := Box.new w4 _ _
  have dp0 := P5.cell 0; have dp1 := P5.cell 1; have dq0 := Q5.cell 0; have dq1 := Q5.cell 1; have dq2 := Q5.cell 2; have dq3 := Q5.cell 3; have dr0 := R5.cell 0; have dr1 := R5.cell 1; have df0 := R5.frozen 0; have df1 := R5.frozen 1
  have v50 := V5.cell 0; have v51 := V5.cell 1; have v52 := V5.cell 2; have v53 := V5.cell 3
  go_wp2_with fail
  refine (i_ContainsI (w := (w4.alloc (.cells #[.int .i64 y0, .int .i64 y2, .int .i64 a2, .slice A3 n3 c3] 53))) (B := w.heap.size) y0 (hI1.below hB5) (by omega)).mono ?_
  rintro e w' ⟨rfl, rfl⟩
  rw [HM.out]
  have hb1 : (y2 != y2) = false := by simp
  go_wp2_with fail
  refine (i_lacks (w := (w4.alloc (.cells #[.int .i64 y0, .int .i64 y2, .int .i64 a2, .slice A3 n3 c3] 53))) (a := (y0, y2, a2, ag)) y1 (tWhole.up (tWhole.keep hRa (fun b hb => hx5.block b (by omega))) (by simp; omega)) (by have h2 := HWL.out; have h3 : (ag.length : Int) < y2 := h2.2.1; have h4 : y2 ≤ 8 := h2.2.2; show ag.length ≤ 1048576; omega)).mono ?_
  rintro e w6 ⟨rfl, hb6⟩
  rw [HL.out]
  have P6 := P5.below hb6 P5.size
  have Q6 := Q5.below hb6 Q5.size
  have R6 := R5.below hb6 R5.size
  have hB6 := bel_trans hB5 hb6
  have hM6 := hM5.kept (row := none) (below_grownBy hb6) (by simp)
  have hW6 := hW5.keep (w' := w6) (fun i hi => hb6.block i (by simp; omega))
  have V6 := V5.below hb6 V5.size
  have z6 : w4.heap.size + 1 ≤ w6.heap.size := by have h := hb6.size; simpa using h
  clear dp0 dp1 dq0 dq1 dq2 dq3 dr0 dr1 df0 df1
  clear v50 v51 v52 v53
  have ep0 := P6.cell 0; have ep1 := P6.cell 1; have eq0 := Q6.cell 0; have eq1 := Q6.cell 1; have eq2 := Q6.cell 2; have eq3 := Q6.cell 3; have er0 := R6.cell 0; have er1 := R6.cell 1; have ef0 := R6.frozen 0; have ef1 := R6.frozen 1
  have v60 := V6.cell 0; have v61 := V6.cell 1; have v62 := V6.cell 2; have v63 := V6.cell 3; have vf0 := V6.frozen 0; have vf1 := V6.frozen 1; have vf2 := V6.frozen 2; have vf3 := V6.frozen 3
  go_wp2_with fail
  refine (i_with (w := w6) (g := ag) (B0 := w2.heap.size) (by omega) (tPiece.row.keep h3 (fun i hi => (bel_trans hx5 hb6).block i (by omega))) (by have h2 := HWL.out; have h3 : (ag.length : Int) < y2 := h2.2.1; have h4 : y2 ≤ 8 := h2.2.2; have h5 := HL3.out; omega) (tPiece.up (tPiece.keep hq hB6.block) hB2.size) HASG.out HNT.out).mono ?_
  rintro e w7 ⟨A8, m8, c8, rfl, hm8, hG7, hb7⟩
  have HM8 := Lib.hid hm8
  have HM8b := Lib.hid (show m8 ≤ 9 by rw [hm8]; have := HLW.out; omega)
  clear hm8
  have P7 := P6.below hb7 P6.size
  have Q7 := Q6.below hb7 Q6.size
  have R7 := R6.below hb7 R6.size
  have V7 := V6.below hb7 V6.size
  have hB7 := bel_trans hB6 hb7
  have hM7 := hM6.kept (row := none) (below_grownBy hb7) (by simp)
  have hW7 := hW6.keep (w' := w7) (fun i hi => hb7.block i (by have := z6; omega))
  have z7 := Nat.le_trans z6 hb7.size
  have v70 := V7.cell 0; have v71 := V7.cell 1; have v72 := V7.cell 2; have v73 := V7.cell 3; have wf0 := V7.frozen 0; have wf1 := V7.frozen 1; have wf2 := V7.frozen 2; have wf3 := V7.frozen 3
  have zw2 := hB2.size
  have P8 := ((((P7.far (p := ⟨w4.heap.size, 0, none⟩) (by show ¬ w.heap.size = w4.heap.size; omega) (.int .i64 y0)).far (p := ⟨w4.heap.size, 1, none⟩) (by show ¬ w.heap.size = w4.heap.size; omega) (.int .i64 y2)).far (p := ⟨w4.heap.size, 2, none⟩) (by show ¬ w.heap.size = w4.heap.size; omega) (.int .i64 a2)).far (p := ⟨w4.heap.size, 3, none⟩) (by show ¬ w.heap.size = w4.heap.size; omega) (.slice A8 m8 c8))
  have Q8 := ((((Q7.far (p := ⟨w4.heap.size, 0, none⟩) (by show ¬ w.heap.size + 1 = w4.heap.size; omega) (.int .i64 y0)).far (p := ⟨w4.heap.size, 1, none⟩) (by show ¬ w.heap.size + 1 = w4.heap.size; omega) (.int .i64 y2)).far (p := ⟨w4.heap.size, 2, none⟩) (by show ¬ w.heap.size + 1 = w4.heap.size; omega) (.int .i64 a2)).far (p := ⟨w4.heap.size, 3, none⟩) (by show ¬ w.heap.size + 1 = w4.heap.size; omega) (.slice A8 m8 c8))
  have R8 := ((((R7.far (p := ⟨w4.heap.size, 0, none⟩) (by show ¬ w.heap.size + 1 + 1 = w4.heap.size; omega) (.int .i64 y0)).far (p := ⟨w4.heap.size, 1, none⟩) (by show ¬ w.heap.size + 1 + 1 = w4.heap.size; omega) (.int .i64 y2)).far (p := ⟨w4.heap.size, 2, none⟩) (by show ¬ w.heap.size + 1 + 1 = w4.heap.size; omega) (.int .i64 a2)).far (p := ⟨w4.heap.size, 3, none⟩) (by show ¬ w.heap.size + 1 + 1 = w4.heap.size; omega) (.slice A8 m8 c8))
  have V8 := ((((V7.put 0 (.int .i64 y0)).put 1 (.int .i64 y2)).put 2 (.int .i64 a2)).put 3 (.slice A8 m8 c8))
  have hB8 := (bel_put (bel_put (bel_put (bel_put hB7 (p := ⟨w4.heap.size, 0, none⟩) hB4.size (.int .i64 y0)) (p := ⟨w4.heap.size, 1, none⟩) hB4.size (.int .i64 y2)) (p := ⟨w4.heap.size, 2, none⟩) hB4.size (.int .i64 a2)) (p := ⟨w4.heap.size, 3, none⟩) hB4.size (.slice A8 m8 c8))
  have hG8 := ((((hG7.put (p := ⟨w4.heap.size, 0, none⟩) (by show w4.heap.size < _; have := z6; omega) z4 (.int .i64 y0)).put (p := ⟨w4.heap.size, 1, none⟩) (by show w4.heap.size < _; have := z6; omega) z4 (.int .i64 y2)).put (p := ⟨w4.heap.size, 2, none⟩) (by show w4.heap.size < _; have := z6; omega) z4 (.int .i64 a2)).put (p := ⟨w4.heap.size, 3, none⟩) (by show w4.heap.size < _; have := z6; omega) z4 (.slice A8 m8 c8))
  have hM8 := ((((hM7.setCell (a := ⟨w4.heap.size, 0, none⟩) (by show b ≠ w4.heap.size; omega) (.int .i64 y0)).setCell (a := ⟨w4.heap.size, 1, none⟩) (by show b ≠ w4.heap.size; omega) (.int .i64 y2)).setCell (a := ⟨w4.heap.size, 2, none⟩) (by show b ≠ w4.heap.size; omega) (.int .i64 a2)).setCell (a := ⟨w4.heap.size, 3, none⟩) (by show b ≠ w4.heap.size; omega) (.slice A8 m8 c8))
  have hW8 := hW7.keep (w' := ((((w7.setCell ⟨w4.heap.size, 0, none⟩ (.int .i64 y0)).setCell ⟨w4.heap.size, 1, none⟩ (.int .i64 y2)).setCell ⟨w4.heap.size, 2, none⟩ (.int .i64 a2)).setCell ⟨w4.heap.size, 3, none⟩ (.slice A8 m8 c8))) (fun i hi => by rw [Below.heap_setCell _ _ _ i (by show i ≠ w4.heap.size; omega)]; rw [Below.heap_setCell _ _ _ i (by show i ≠ w4.heap.size; omega)]; rw [Below.heap_setCell _ _ _ i (by show i ≠ w4.heap.size; omega)]; rw [Below.heap_setCell _ _ _ i (by show i ≠ w4.heap.size; omega)];)
  have x80 := V8.cell 0; have x81 := V8.cell 1; have x82 := V8.cell 2; have x83 := V8.cell 3
  go_wp2_with fail
  refine (i_lacking A8 m8 c8 _ _ _ (y2 - (m8 : Int)) ((((w7.setCell ⟨w4.heap.size, 0, none⟩ (.int .i64 y0)).setCell ⟨w4.heap.size, 1, none⟩ (.int .i64 y2)).setCell ⟨w4.heap.size, 2, none⟩ (.int .i64 a2)).setCell ⟨w4.heap.size, 3, none⟩ (.slice A8 m8 c8)) (IntWalk.i64_in _ (by have h1 := HM8.out; have h2 := HLW.out; omega))).mono ?_
  rintro e w9 ⟨rfl, hb9⟩
  have P9 := P8.below hb9 P8.size
  have Q9 := Q8.below hb9 Q8.size
  have R9 := R8.below hb9 R8.size
  have V9 := V8.below hb9 V8.size
  have hB9 := bel_trans hB8 hb9
  have hM9 := hM8.kept (row := none) (below_grownBy hb9) (by simp)
  have hW9 := hW8.keep (w' := w9) (fun i hi => hb9.block i (by simp [World.setCell]; omega))
  have hG9 := hG8.below hb9 (by have := z7; simp [World.setCell]; omega)
  have z9 : w7.heap.size ≤ w9.heap.size := by have h := hb9.size; simpa [World.setCell] using h
  have z6c := z6
  have hbe : ((y2 - (m8 : Int)) == 0) = true := by rw [beq_iff_eq]; have h1 := HM8.out; have h2 := HLW.out; omega
  have gp0 := P9.cell 0; have gp1 := P9.cell 1; have gq0 := Q9.cell 0; have gq1 := Q9.cell 1; have gq2 := Q9.cell 2; have gq3 := Q9.cell 3; have gr0 := R9.cell 0; have gr1 := R9.cell 1; have gf0 := R9.frozen 0; have gf1 := R9.frozen 1
  have x90 := V9.cell 0; have x91 := V9.cell 1; have x92 := V9.cell 2; have x93 := V9.cell 3
  have hkey : keyOf Tryz.prog 3 (.int .i64 y0) = some (mK y0) := Go.Maps.keyOf_int_mk Tryz.underlying3 HWY.out
  have hOwn9 := hG9.own
  go_wp2_with (at_delete; refine wpList_delete_own _ rfl _ _ 76 3 rfl 53 ms_keyed Tryz.underlying76 mR b n0 D rfl hM9 _ (mK y0) rfl hkey ?_; intro w10 hM10 hturn; have hgr10 := hturn.grown; have P10 := Box.grown P9 hgr10 (fun e => by have e := Option.some.inj e; omega); have Q10 := Box.grown Q9 hgr10 (fun e => by have e := Option.some.inj e; omega); have R10 := Box.grown R9 hgr10 (fun e => by have e := Option.some.inj e; omega); have V10 := Box.grown V9 hgr10 (fun e => by have e := Option.some.inj e; omega); have hp1 := P10.cell 1; have hq0 := Q10.cell 0)
  have hB10 : Below w.heap.size w w10 := Below.grown hB9 hgr10 hB9.size (fun i hi => by have e := Option.some.inj hi; omega)
  have z10 := hgr10.size
  obtain ⟨LS, hLS⟩ : ∃ LS, (p.1.filter fun a => decide (a.1 ≠ y0)) = LS := ⟨_, rfl⟩
  have HLS := Lib.hid hLS
  have HASf := Lib.hid (show Asc (LS.map fun a => a.1) from hLS ▸ asc_filter _ HAS.out)
  have HDS3 := Lib.hid (show rsz szWhole LS ≤ 2000 from hLS ▸ HDS2.out)
  have hW10 : MapW tWhole (fun a => a.1) w10 w2.heap.size (D.del (mK y0)) LS := hLS ▸ (show MapW tWhole (fun a => a.1) w10 w2.heap.size (D.del (mK y0)) (p.1.filter fun a => decide (a.1 ≠ y0)) from (hW9.keep (w' := w10) (fun i hi => hgr10.block i (by have := z9; have := z7; omega) (by simp; omega))).del y0)
  clear hLS
  have hG10 := hG9.past hgr10 hbb (fun i hi => by have := (hOwn9 i hi).1; have := z6c; omega) (by have := z9; have := z7; omega)
  obtain ⟨ii, hi0, hiz0, hiz1, hiz2⟩ := info_parts info_ci
  have zQ10 := Q10.size
  have zV10 := V10.size
  have HSRT := Lib.hid (srt_ins HDK.out.2.2.1 HMN.out)
  have HDZ := Lib.hid (show rsz szWhole LS + (insB id y0 p.2).length ≤ 1048576 by have h1 := HDS3.out; have h2 := insB_len_le id y0 p.2; have := E1.out; omega)
  refine wp_region_held_drew (S := (fun w' => w'.cell? ⟨w.heap.size, 1, none⟩ = some (.slice A1 n1 c1) ∧ w'.cell? ⟨w.heap.size + 1, 0, none⟩ = some (.int .i64 y0))) (by kernel_rfl) (by exact ⟨P10.cell 1, Q10.cell 0⟩) (fun hHeld => ?_)
  refine wpAnyH_take (i := 0) (oi := ⟨some 79, _, _, _, _, _⟩) (v := ?v1) rfl (by kernel_rfl) (by kernel_rfl) (by kernel_rfl) (fun _ _ _ h => h) (Or.inl ⟨by rfl, ?hy1⟩) (by assumption) ?_
  case hy1 => (intro w hSw; (try dsimp only at hSw); go_simp; try (with_reducible rfl))
  (try simp only [Act.put, qa_, qb_, qc_])
  refine wpAnyH_take (i := 1) (oi := ⟨some 80, _, _, _, _, _⟩) (v := ?v2) rfl (by kernel_rfl) (by kernel_rfl) (by kernel_rfl) (fun _ _ _ h => h) (Or.inl ⟨by rfl, ?hy2⟩) (by assumption) ?_
  case hy2 => (intro w hSw; (try dsimp only at hSw); go_simp; try (with_reducible rfl))
  (try simp only [Act.put, qa_, qb_, qc_])
  refine wpAnyH_take (i := 3) (oi := ⟨some 82, _, _, _, _, _⟩) (v := ?v3) rfl (by kernel_rfl) (by kernel_rfl) (by kernel_rfl) (fun _ _ _ h => h) (Or.inl ⟨by rfl, ?hy3⟩) (by assumption) ?_
  case hy3 => (intro w hSw; (try dsimp only at hSw); go_simp; try (with_reducible rfl))
  (try simp only [Act.put, qa_, qb_, qc_])
  refine wpAnyH_take (i := 4) (oi := ⟨some 83, _, _, _, _, _⟩) (v := ?v4) rfl (by kernel_rfl) (by kernel_rfl) (by kernel_rfl) (fun _ _ _ h => h) (Or.inl ⟨by rfl, ?hy4⟩) (by assumption) ?_
  case hy4 => (intro w hSw; (try dsimp only at hSw); go_simp; try (with_reducible rfl))
  (try simp only [Act.put, qa_, qb_, qc_])
  refine wpAnyH_ready (rs := [2, 5]) (by kernel_rfl) (by simp) ?_
  refine AllReadyH.cons rfl (fun K hK => ?_) ?_
  · go_simp
    go_at_call 52
    refine (i_copiedI5 (w := w10.drew) (reach hI1 (bel_trans hB10 (belx))) (by omega)).mono ?_
    rintro e w11 ⟨v11, rfl, hO11, hb11⟩
    obtain ⟨A11, n11, c11, rfl, hn11⟩ := hO11.shapeN
    have HN11 := Lib.hid hn11
    clear hn11
    have hs11 : Below w10.heap.size w10 w11 := bel_trans (show Below w10.heap.size w10 w10 from (belx)) (bel_trans (bel_drew (Below.refl _ _)) hb11)
    have hO11 : Own .i64 3 w11 w10.heap.size (.slice A11 n11 c11) p.2 := hO11.lower (by show _ ≤ w10.heap.size; first | (simp; done) | (simp; omega) | exact Nat.le_refl _)
    have P11 := P10.below hs11 P10.size
    have Q11 := Q10.below hs11 Q10.size
    have z11b := hs11.size
    go_wp2_with fail
    refine hK.out _ _ (by exact ⟨P11.cell 1, Q11.cell 0⟩) (fun hHeld => ?_)
    clear hK K
    (try simp only [Act.put, qa_, qb_, qc_])
    refine wpAnyH_ready (rs := [5]) (by kernel_rfl) (by simp) ?_
    refine AllReadyH.cons rfl (fun K hK => ?_) ?_
    · go_simp
      refine hK.out _ _ (by exact ⟨(P11.alloc _).cell 1, (Q11.alloc _).cell 0⟩) (fun hHeld => ?_)
      clear hK K
      (try simp only [Act.put, qa_, qb_, qc_])
      refine wpAnyH_ready (rs := [6]) (by kernel_rfl) (by simp) ?_
      refine AllReadyH.cons rfl (fun K hK => ?_) ?_
      · refine Own.stepRow (K := K) (w := (w11.alloc (.cells #[.int .i64 y0] 3))) (base := w10.heap.size) (by rfl) (.tmp 81) (.tmp 84) _ (by rfl) ii _ 8 Tryz.underlying23 hi0 hiz0 hiz1 hiz2 (by rfl) (by rfl) (hO11.below (show Below w11.heap.size w11 (w11.alloc (.cells #[.int .i64 y0] 3)) from (belx))) (by rfl) (Ints.boxed (Box.new w11 3 #[.int .i64 y0]) HWY.out) (by first | omega | (simp; omega)) (by simp only [maxLen]; have := E1.out; omega) (by have := E1.out; omega) ?_
        intro v12 w12 hO12 hgr12 _
        have hOwn11 := fun b hb => hO11.block (b := b) hb
        have hs12 : Below w10.heap.size w10 w12 := Below.grown (w := (w11.alloc (.cells #[.int .i64 y0] 3))) (bel_alloc hs11 _) hgr12 (by first | omega | (simp; omega)) (fun b hb => (hOwn11 b hb).1)
        have P12 := P10.below hs12 P10.size
        have Q12 := Q10.below hs12 Q10.size
        refine hK.out _ _ (by exact ⟨P12.cell 1, Q12.cell 0⟩) (fun hHeld => ?_)
        clear hK K
        (try simp only [Act.put, qa_, qb_, qc_])
        refine wpAnyH_take (i := 7) (oi := ⟨some 12, _, _, _, _, _⟩) (v := ?v5) rfl (by kernel_rfl) (by kernel_rfl) (by kernel_rfl) (fun _ _ _ h => h) (Or.inl ⟨by rfl, ?hy5⟩) (by assumption) ?_
        case hy5 => (intro w hSw; (try dsimp only at hSw); go_simp; try (with_reducible rfl))
        (try simp only [Act.put, qa_, qb_, qc_])
        refine wpAnyH_done (by kernel_rfl) ?_ _
        go_wp2_with fail
        refine (i_SortI hO12 (by have := hs12.size; omega) (by rw [List.length_append, List.length_singleton]; have := E1.out; omega)).mono ?_
        rintro e w13 ⟨rfl, hO13, hgr13⟩
        have hOwn12 := fun b hb => hO12.block (b := b) hb
        have hs13 : Below w10.heap.size w10 w13 := Below.grown hs12 hgr13 hs12.size (fun b hb => (hOwn12 b hb).1)
        rw [HSRT.out] at hO13
        have P13 := P10.below hs13 P10.size
        have Q13 := Q10.below hs13 Q10.size
        have R13 := R10.below hs13 R10.size
        have V13 := V10.below hs13 V10.size
        have hM13 := hM10.kept (row := none) (below_grownBy hs13) (by simp)
        have hW13 := hW10.keep (w' := w13) (fun i hi => hs13.block i (by have := z10; have := z9; have := z7; omega))
        have hG13 := hG10.below hs13 (by have := z10; have := z9; have := z7; omega)
        have hB13 := bel_trans hB10 hs13
        have hx3 := V13.cell 3
        obtain ⟨Ad, nd, cd, rfl, hnd⟩ := hO13.shapeN
        have HND := Lib.hid hnd
        clear hnd
        have hId := hO13.intsAt.1
        have z13 := hs13.size
        go_wp2_with fail
        have HCD := Lib.hid (And.intro (own_cap hO13).1 (own_cap hO13).2)
        refine wp_region_held_drew (S := (fun w' => w'.cell? ⟨w4.heap.size, 3, none⟩ = some (.slice A8 m8 c8))) (by kernel_rfl) (by exact V13.cell 3) (fun hHeld => ?_)
        refine wpAnyH_take (i := 0) (oi := ⟨some 88, _, _, _, _, _⟩) (v := ?v6) rfl (by kernel_rfl) (by kernel_rfl) (by kernel_rfl) (fun _ _ _ h => h) (Or.inl ⟨by rfl, ?hy6⟩) (by assumption) ?_
        case hy6 => (intro w hSw; (try dsimp only at hSw); go_simp; try (with_reducible rfl))
        (try simp only [Act.put, qa_, qb_, qc_])
        refine wpAnyH_take (i := 1) (oi := ⟨some 89, _, _, _, _, _⟩) (v := ?v7) rfl (by kernel_rfl) (by kernel_rfl) (by kernel_rfl) (fun _ _ _ h => h) (Or.inl ⟨by rfl, ?hy7⟩) (by assumption) ?_
        case hy7 => (intro w hSw; (try dsimp only at hSw); go_simp; try (with_reducible rfl))
        (try simp only [Act.put, qa_, qb_, qc_])
        refine wpAnyH_take (i := 3) (oi := ⟨some 91, _, _, _, _, _⟩) (v := ?v8) rfl (by kernel_rfl) (by kernel_rfl) (by kernel_rfl) (fun _ _ _ h => h) (Or.inl ⟨by rfl, ?hy8⟩) (by assumption) ?_
        case hy8 => (intro w hSw; (try dsimp only at hSw); go_simp; try (with_reducible rfl))
        (try simp only [Act.put, qa_, qb_, qc_])
        refine wpAnyH_take (i := 4) (oi := ⟨some 92, _, _, _, _, _⟩) (v := ?v9) rfl (by kernel_rfl) (by kernel_rfl) (by kernel_rfl) (fun _ _ _ h => h) (Or.inl ⟨by rfl, ?hy9⟩) (by assumption) ?_
        case hy9 => (intro w hSw; (try dsimp only at hSw); go_simp; try (with_reducible rfl))
        (try simp only [Act.put, qa_, qb_, qc_])
        refine wpAnyH_ready (rs := [2]) (by kernel_rfl) (by simp) ?_
        refine AllReadyH.cons rfl (fun K hK => ?_) ?_
        · go_simp
          go_at_call 49
          refine (i_deskOf (w := w13.drew) (l := LS) (l1 := (insB id y0 p.2)) hM13.drew (hW13.keep (fun _ _ => rfl)) (by show w2.heap.size ≤ w13.heap.size; omega) HASf.out (ints_slR (reach hId (bel_drew (Below.refl _ _))) HCD.out.1 HCD.out.2) HDZ.out).mono ?_
          rintro e wa ⟨D0, d0, D1, d1, F, rfl, hOa, hNa, hba⟩
          have hsa : Below w13.heap.size w13 wa := bel_trans (bel_drew (Below.refl _ _)) hba
          have Va := V13.below hsa V13.size
          have Ra := R13.below hsa R13.size
          go_wp2_with fail
          refine hK.out _ _ (by exact Va.cell 3) (fun hHeld => ?_)
          clear hK K
          (try simp only [Act.put, qa_, qb_, qc_])
          refine wpAnyH_ready (rs := [5]) (by kernel_rfl) (by simp) ?_
          refine AllReadyH.cons rfl (fun K hK => ?_) ?_
          · go_simp
            go_at_call 54
            refine (i_joinedData (w := wa) 55 (fun a => a.2.2.2) 20 (fun _ _ => rfl) (fun i a w' cs ha hB hR => i_PcData hR) (fun a ha => HD20.out a ha) (by have := HM8b.out; omega) ((hG13.below hsa (by have := z10; have := z9; have := z7; omega)).doneAs (by show w2.heap.size ≤ wa.heap.size; have := hsa.size; omega)) (by have := HM8b.out; omega)).mono ?_
            rintro e wb ⟨vb, rfl, hOb, hbb2⟩
            obtain ⟨Ab, nb, cb, rfl, hnb⟩ := hOb.shapeN
            have HNB := Lib.hid (show nb = ((tkData (insB pAt (y0, y1, y2, qd) ag))).length from hnb)
            clear hnb
            have hsb : Below wa.heap.size wa wb := hbb2
            have V15 := Va.below hsb Va.size
            have R15 := Ra.below hsb Ra.size
            have hB15 := bel_trans (bel_trans hB13 hsa) hsb
            have hD15 := Ty.below (t := tDesk) hOa hsb
            have hap : ∀ f ∈ F, ∀ g, (Value.slice Ab nb cb).ownBlock = some g → f ≠ g := fun f hf g hg e => by have h1 := tDesk.lt hOa f hf; have h2 := (hOb.block hg).1; omega
            have hNy25 := hNa.lower (show w10.heap.size ≤ w13.drew.heap.size by exact z13)
            have hOb10 : Own .u8 5 wb w10.heap.size (.slice Ab nb cb) (tkData (insB pAt (y0, y1, y2, qd) ag)) := hOb.lower (by have := hsa.size; have := z13; omega)
            have VZ := (V15.far (p := ⟨w.heap.size + 1 + 1, 0, none⟩) (by show ¬ w4.heap.size = w.heap.size + 1 + 1; omega) (.slice D0 LS.length d0)).far (p := ⟨w.heap.size + 1 + 1, 1, none⟩) (by show ¬ w4.heap.size = w.heap.size + 1 + 1; omega) (.slice D1 (insB id y0 p.2).length d1)
            have RR := (R15.put 0 (.slice D0 LS.length d0)).put 1 (.slice D1 (insB id y0 p.2).length d1)
            have u0 := RR.cell 0; have u1 := RR.cell 1
            have sr0 := R15.cell 0; have sr1 := R15.cell 1; have sf0 := R15.frozen 0; have sf1 := R15.frozen 1
            have hOx := put2D_O (g := w.heap.size + 1 + 1) hD15 (fun hx => by have h1 := hNy25.2 _ hx; omega)
            have hBx := bel_put (bel_put hB15 (p := ⟨w.heap.size + 1 + 1, 0, none⟩) (by show _ ≤ w.heap.size + 1 + 1; omega) (.slice D0 LS.length d0)) (p := ⟨w.heap.size + 1 + 1, 1, none⟩) (by show _ ≤ w.heap.size + 1 + 1; omega) (.slice D1 (insB id y0 p.2).length d1)
            have hOy := own_offU (own_offU hOb10 (p := ⟨w.heap.size + 1 + 1, 0, none⟩) (by show w.heap.size + 1 + 1 < _; omega) (.slice D0 LS.length d0)) (p := ⟨w.heap.size + 1 + 1, 1, none⟩) (by show w.heap.size + 1 + 1 < _; omega) (.slice D1 (insB id y0 p.2).length d1)
            go_wp2_with fail
            refine hK.out _ _ (by exact V15.cell 3) (fun hHeld => ?_)
            clear hK K
            (try simp only [Act.put, qa_, qb_, qc_])
            refine wpAnyH_ready (rs := [6]) (by kernel_rfl) (by simp) ?_
            refine AllReadyH.cons rfl (fun K hK => ?_) ?_
            · go_simp
              refine hK.out _ _ (by exact VZ.cell 3) (fun hHeld => ?_)
              clear hK K
              (try simp only [Act.put, qa_, qb_, qc_])
              refine wpAnyH_take (i := 7) (oi := ⟨some 7, _, _, _, _, _⟩) (v := ?v10) rfl (by kernel_rfl) (by kernel_rfl) (by kernel_rfl) (fun _ _ _ h => h) (Or.inl ⟨by rfl, ?hy10⟩) (by assumption) ?_
              case hy10 => (intro w hSw; (try dsimp only at hSw); go_simp; try (with_reducible rfl))
              (try simp only [Act.put, qa_, qb_, qc_])
              refine wpAnyH_take (i := 8) (oi := ⟨some 8, _, _, _, _, _⟩) (v := ?v11) rfl (by kernel_rfl) (by kernel_rfl) (by kernel_rfl) (fun _ _ _ h => h) (Or.inl ⟨by rfl, ?hy11⟩) (by assumption) ?_
              case hy11 => (intro w hSw; (try dsimp only at hSw); go_simp; try (with_reducible rfl))
              (try simp only [Act.put, qa_, qb_, qc_])
              refine wpAnyH_done (by kernel_rfl) ?_ _
              go_wp2
              obtain ⟨F2, hF2, hN2, hF2b⟩ := own_blk hOy
              refine bodyPost_ret (v := .tuple #[.agg #[.slice D0 LS.length d0, .slice D1 (insB id y0 p.2).length d1], .slice Ab nb cb, .int .i64 1]) (by simp [results, Tryz.results11, go_sem, u0, u1]) rfl ⟨_, F, Ab, cb, F2, by rw [← HNB.out], by rw [HLS.out]; exact hOx, by rw [← HNB.out]; exact hF2, ?_, hBx⟩
              exact (new_pair hNy25 hN2 (fun f h1 h2 => hap f h1 f (hF2b f h2) rfl)).lower (by have := zw2; omega)
            exact AllReadyH.nil
          exact AllReadyH.nil
        exact AllReadyH.nil
      exact AllReadyH.nil
    exact AllReadyH.nil
  refine AllReadyH.cons rfl (fun K hK => ?_) ?_
  · go_simp
    refine hK.out _ _ (by exact ⟨(P10.alloc _).cell 1, (Q10.alloc _).cell 0⟩) (fun hHeld => ?_)
    clear hK K
    (try simp only [Act.put, qa_, qb_, qc_])
    refine wpAnyH_ready (rs := [2]) (by kernel_rfl) (by simp) ?_
    refine AllReadyH.cons rfl (fun K hK => ?_) ?_
    · go_simp
      go_at_call 52
      refine (i_copiedI5 (w := (w10.alloc (.cells #[.int .i64 y0] 3)).drew) (reach hI1 (bel_trans hB10 (belx))) (by omega)).mono ?_
      rintro e w11 ⟨v11, rfl, hO11, hb11⟩
      obtain ⟨A11, n11, c11, rfl, hn11⟩ := hO11.shapeN
      have HN11 := Lib.hid hn11
      clear hn11
      have hs11 : Below w10.heap.size w10 w11 := bel_trans (show Below w10.heap.size w10 (w10.alloc (.cells #[.int .i64 y0] 3)) from (belx)) (bel_trans (bel_drew (Below.refl _ _)) hb11)
      have hO11 : Own .i64 3 w11 w10.heap.size (.slice A11 n11 c11) p.2 := hO11.lower (by show _ ≤ (w10.alloc (.cells #[.int .i64 y0] 3)).heap.size; first | (simp; done) | (simp; omega) | exact Nat.le_refl _)
      have P11 := P10.below hs11 P10.size
      have Q11 := Q10.below hs11 Q10.size
      have YB := Box.below (Box.drew (Box.new w10 3 #[.int .i64 y0])) hb11 (Box.drew (Box.new w10 3 #[.int .i64 y0])).size
      have z11 : w10.heap.size + 1 ≤ w11.heap.size := YB.size
      have z11b := hs11.size
      go_wp2_with fail
      refine hK.out _ _ (by exact ⟨P11.cell 1, Q11.cell 0⟩) (fun hHeld => ?_)
      clear hK K
      (try simp only [Act.put, qa_, qb_, qc_])
      refine wpAnyH_ready (rs := [6]) (by kernel_rfl) (by simp) ?_
      refine AllReadyH.cons rfl (fun K hK => ?_) ?_
      · refine Own.stepRow (K := K) (w := w11) (base := w10.heap.size) (by rfl) (.tmp 81) (.tmp 84) _ (by rfl) ii _ 8 Tryz.underlying23 hi0 hiz0 hiz1 hiz2 (by rfl) (by rfl) hO11 (by rfl) (Ints.boxed YB HWY.out) (by first | omega | (simp; omega)) (by simp only [maxLen]; have := E1.out; omega) (by have := E1.out; omega) ?_
        intro v12 w12 hO12 hgr12 _
        have hOwn11 := fun b hb => hO11.block (b := b) hb
        have hs12 : Below w10.heap.size w10 w12 := Below.grown (w := w11) hs11 hgr12 (by first | omega | (simp; omega)) (fun b hb => (hOwn11 b hb).1)
        have P12 := P10.below hs12 P10.size
        have Q12 := Q10.below hs12 Q10.size
        refine hK.out _ _ (by exact ⟨P12.cell 1, Q12.cell 0⟩) (fun hHeld => ?_)
        clear hK K
        (try simp only [Act.put, qa_, qb_, qc_])
        refine wpAnyH_take (i := 7) (oi := ⟨some 12, _, _, _, _, _⟩) (v := ?v12) rfl (by kernel_rfl) (by kernel_rfl) (by kernel_rfl) (fun _ _ _ h => h) (Or.inl ⟨by rfl, ?hy12⟩) (by assumption) ?_
        case hy12 => (intro w hSw; (try dsimp only at hSw); go_simp; try (with_reducible rfl))
        (try simp only [Act.put, qa_, qb_, qc_])
        refine wpAnyH_done (by kernel_rfl) ?_ _
        go_wp2_with fail
        refine (i_SortI hO12 (by have := hs12.size; omega) (by rw [List.length_append, List.length_singleton]; have := E1.out; omega)).mono ?_
        rintro e w13 ⟨rfl, hO13, hgr13⟩
        have hOwn12 := fun b hb => hO12.block (b := b) hb
        have hs13 : Below w10.heap.size w10 w13 := Below.grown hs12 hgr13 hs12.size (fun b hb => (hOwn12 b hb).1)
        rw [HSRT.out] at hO13
        have P13 := P10.below hs13 P10.size
        have Q13 := Q10.below hs13 Q10.size
        have R13 := R10.below hs13 R10.size
        have V13 := V10.below hs13 V10.size
        have hM13 := hM10.kept (row := none) (below_grownBy hs13) (by simp)
        have hW13 := hW10.keep (w' := w13) (fun i hi => hs13.block i (by have := z10; have := z9; have := z7; omega))
        have hG13 := hG10.below hs13 (by have := z10; have := z9; have := z7; omega)
        have hB13 := bel_trans hB10 hs13
        have hx3 := V13.cell 3
        obtain ⟨Ad, nd, cd, rfl, hnd⟩ := hO13.shapeN
        have HND := Lib.hid hnd
        clear hnd
        have hId := hO13.intsAt.1
        have z13 := hs13.size
        go_wp2_with fail
        have HCD := Lib.hid (And.intro (own_cap hO13).1 (own_cap hO13).2)
        refine wp_region_held_drew (S := (fun w' => w'.cell? ⟨w4.heap.size, 3, none⟩ = some (.slice A8 m8 c8))) (by kernel_rfl) (by exact V13.cell 3) (fun hHeld => ?_)
        refine wpAnyH_take (i := 0) (oi := ⟨some 88, _, _, _, _, _⟩) (v := ?v13) rfl (by kernel_rfl) (by kernel_rfl) (by kernel_rfl) (fun _ _ _ h => h) (Or.inl ⟨by rfl, ?hy13⟩) (by assumption) ?_
        case hy13 => (intro w hSw; (try dsimp only at hSw); go_simp; try (with_reducible rfl))
        (try simp only [Act.put, qa_, qb_, qc_])
        refine wpAnyH_take (i := 1) (oi := ⟨some 89, _, _, _, _, _⟩) (v := ?v14) rfl (by kernel_rfl) (by kernel_rfl) (by kernel_rfl) (fun _ _ _ h => h) (Or.inl ⟨by rfl, ?hy14⟩) (by assumption) ?_
        case hy14 => (intro w hSw; (try dsimp only at hSw); go_simp; try (with_reducible rfl))
        (try simp only [Act.put, qa_, qb_, qc_])
        refine wpAnyH_take (i := 3) (oi := ⟨some 91, _, _, _, _, _⟩) (v := ?v15) rfl (by kernel_rfl) (by kernel_rfl) (by kernel_rfl) (fun _ _ _ h => h) (Or.inl ⟨by rfl, ?hy15⟩) (by assumption) ?_
        case hy15 => (intro w hSw; (try dsimp only at hSw); go_simp; try (with_reducible rfl))
        (try simp only [Act.put, qa_, qb_, qc_])
        refine wpAnyH_take (i := 4) (oi := ⟨some 92, _, _, _, _, _⟩) (v := ?v16) rfl (by kernel_rfl) (by kernel_rfl) (by kernel_rfl) (fun _ _ _ h => h) (Or.inl ⟨by rfl, ?hy16⟩) (by assumption) ?_
        case hy16 => (intro w hSw; (try dsimp only at hSw); go_simp; try (with_reducible rfl))
        (try simp only [Act.put, qa_, qb_, qc_])
        refine wpAnyH_ready (rs := [2]) (by kernel_rfl) (by simp) ?_
        refine AllReadyH.cons rfl (fun K hK => ?_) ?_
        · go_simp
          go_at_call 49
          refine (i_deskOf (w := w13.drew) (l := LS) (l1 := (insB id y0 p.2)) hM13.drew (hW13.keep (fun _ _ => rfl)) (by show w2.heap.size ≤ w13.heap.size; omega) HASf.out (ints_slR (reach hId (bel_drew (Below.refl _ _))) HCD.out.1 HCD.out.2) HDZ.out).mono ?_
          rintro e wa ⟨D0, d0, D1, d1, F, rfl, hOa, hNa, hba⟩
          have hsa : Below w13.heap.size w13 wa := bel_trans (bel_drew (Below.refl _ _)) hba
          have Va := V13.below hsa V13.size
          have Ra := R13.below hsa R13.size
          go_wp2_with fail
          refine hK.out _ _ (by exact Va.cell 3) (fun hHeld => ?_)
          clear hK K
          (try simp only [Act.put, qa_, qb_, qc_])
          refine wpAnyH_ready (rs := [5]) (by kernel_rfl) (by simp) ?_
          refine AllReadyH.cons rfl (fun K hK => ?_) ?_
          · go_simp
            go_at_call 54
            refine (i_joinedData (w := wa) 55 (fun a => a.2.2.2) 20 (fun _ _ => rfl) (fun i a w' cs ha hB hR => i_PcData hR) (fun a ha => HD20.out a ha) (by have := HM8b.out; omega) ((hG13.below hsa (by have := z10; have := z9; have := z7; omega)).doneAs (by show w2.heap.size ≤ wa.heap.size; have := hsa.size; omega)) (by have := HM8b.out; omega)).mono ?_
            rintro e wb ⟨vb, rfl, hOb, hbb2⟩
            obtain ⟨Ab, nb, cb, rfl, hnb⟩ := hOb.shapeN
            have HNB := Lib.hid (show nb = ((tkData (insB pAt (y0, y1, y2, qd) ag))).length from hnb)
            clear hnb
            have hsb : Below wa.heap.size wa wb := hbb2
            have V15 := Va.below hsb Va.size
            have R15 := Ra.below hsb Ra.size
            have hB15 := bel_trans (bel_trans hB13 hsa) hsb
            have hD15 := Ty.below (t := tDesk) hOa hsb
            have hap : ∀ f ∈ F, ∀ g, (Value.slice Ab nb cb).ownBlock = some g → f ≠ g := fun f hf g hg e => by have h1 := tDesk.lt hOa f hf; have h2 := (hOb.block hg).1; omega
            have hNy25 := hNa.lower (show w10.heap.size ≤ w13.drew.heap.size by exact z13)
            have hOb10 : Own .u8 5 wb w10.heap.size (.slice Ab nb cb) (tkData (insB pAt (y0, y1, y2, qd) ag)) := hOb.lower (by have := hsa.size; have := z13; omega)
            have VZ := (V15.far (p := ⟨w.heap.size + 1 + 1, 0, none⟩) (by show ¬ w4.heap.size = w.heap.size + 1 + 1; omega) (.slice D0 LS.length d0)).far (p := ⟨w.heap.size + 1 + 1, 1, none⟩) (by show ¬ w4.heap.size = w.heap.size + 1 + 1; omega) (.slice D1 (insB id y0 p.2).length d1)
            have RR := (R15.put 0 (.slice D0 LS.length d0)).put 1 (.slice D1 (insB id y0 p.2).length d1)
            have u0 := RR.cell 0; have u1 := RR.cell 1
            have sr0 := R15.cell 0; have sr1 := R15.cell 1; have sf0 := R15.frozen 0; have sf1 := R15.frozen 1
            have hOx := put2D_O (g := w.heap.size + 1 + 1) hD15 (fun hx => by have h1 := hNy25.2 _ hx; omega)
            have hBx := bel_put (bel_put hB15 (p := ⟨w.heap.size + 1 + 1, 0, none⟩) (by show _ ≤ w.heap.size + 1 + 1; omega) (.slice D0 LS.length d0)) (p := ⟨w.heap.size + 1 + 1, 1, none⟩) (by show _ ≤ w.heap.size + 1 + 1; omega) (.slice D1 (insB id y0 p.2).length d1)
            have hOy := own_offU (own_offU hOb10 (p := ⟨w.heap.size + 1 + 1, 0, none⟩) (by show w.heap.size + 1 + 1 < _; omega) (.slice D0 LS.length d0)) (p := ⟨w.heap.size + 1 + 1, 1, none⟩) (by show w.heap.size + 1 + 1 < _; omega) (.slice D1 (insB id y0 p.2).length d1)
            go_wp2_with fail
            refine hK.out _ _ (by exact V15.cell 3) (fun hHeld => ?_)
            clear hK K
            (try simp only [Act.put, qa_, qb_, qc_])
            refine wpAnyH_ready (rs := [6]) (by kernel_rfl) (by simp) ?_
            refine AllReadyH.cons rfl (fun K hK => ?_) ?_
            · go_simp
              refine hK.out _ _ (by exact VZ.cell 3) (fun hHeld => ?_)
              clear hK K
              (try simp only [Act.put, qa_, qb_, qc_])
              refine wpAnyH_take (i := 7) (oi := ⟨some 7, _, _, _, _, _⟩) (v := ?v17) rfl (by kernel_rfl) (by kernel_rfl) (by kernel_rfl) (fun _ _ _ h => h) (Or.inl ⟨by rfl, ?hy17⟩) (by assumption) ?_
              case hy17 => (intro w hSw; (try dsimp only at hSw); go_simp; try (with_reducible rfl))
              (try simp only [Act.put, qa_, qb_, qc_])
              refine wpAnyH_take (i := 8) (oi := ⟨some 8, _, _, _, _, _⟩) (v := ?v18) rfl (by kernel_rfl) (by kernel_rfl) (by kernel_rfl) (fun _ _ _ h => h) (Or.inl ⟨by rfl, ?hy18⟩) (by assumption) ?_
              case hy18 => (intro w hSw; (try dsimp only at hSw); go_simp; try (with_reducible rfl))
              (try simp only [Act.put, qa_, qb_, qc_])
              refine wpAnyH_done (by kernel_rfl) ?_ _
              go_wp2
              obtain ⟨F2, hF2, hN2, hF2b⟩ := own_blk hOy
              refine bodyPost_ret (v := .tuple #[.agg #[.slice D0 LS.length d0, .slice D1 (insB id y0 p.2).length d1], .slice Ab nb cb, .int .i64 1]) (by simp [results, Tryz.results11, go_sem, u0, u1]) rfl ⟨_, F, Ab, cb, F2, by rw [← HNB.out], by rw [HLS.out]; exact hOx, by rw [← HNB.out]; exact hF2, ?_, hBx⟩
              exact (new_pair hNy25 hN2 (fun f h1 h2 => hap f h1 f (hF2b f h2) rfl)).lower (by have := zw2; omega)
            exact AllReadyH.nil
          exact AllReadyH.nil
        exact AllReadyH.nil
      exact AllReadyH.nil
    exact AllReadyH.nil
  exact AllReadyH.nil
set_option maxHeartbeats 1600000 in
theorem i_tk_nd {w : World} {n0 c0 n1 c1 n7 c7 : Nat} {A0 A1 A7 : Option Addr} {y0 y1 y2 x : Int} {qd : List Int} {p : DDesk} (h : tDesk.R w w.heap.size [.slice A0 n0 c0, .slice A1 n1 c1] p) (hq : tPiece.R w w.heap.size [.int .i64 y0, .int .i64 y1, .int .i64 y2, .slice A7 n7 c7] (y0, y1, y2, qd)) (hp : DkOk p) (hpc : PcOk (y0, y1, y2, qd)) (hx : 0 ≤ x ∧ x ≤ 65535) (hne : ∀ a ∈ p.1, a.1 ≠ y0) (hm : y0 ∉ p.2) (hd : ((insB pAt (y0, y1, y2, qd) ([] : List DPiece)).length : Int) = y2) :
    Calls Tryz.prog 11 #[.agg #[.slice A0 n0 c0, .slice A1 n1 c1], .agg #[.int .i64 y0, .int .i64 y1, .int .i64 y2, .slice A7 n7 c7], .int .i64 x] w fun e w' => ∃ cs' F1 A c F2, e = .returned (.tuple #[.agg cs'.toArray, .slice A (tkData (insB pAt (y0, y1, y2, qd) ([] : List DPiece))).length c, .int .i64 (1)]) ∧ tDesk.O w' cs' (p.1.filter fun a => decide (a.1 ≠ y0), insB id y0 p.2) F1 ∧ tBy.O w' [.slice A (tkData (insB pAt (y0, y1, y2, qd) ([] : List DPiece))).length c] (tkData (insB pAt (y0, y1, y2, qd) ([] : List DPiece))) F2 ∧ New w.heap.size (F1 ++ F2) ∧ Below w.heap.size w w' := by
  have HLW := Lib.hid (show ((insB pAt (y0, y1, y2, qd) ([] : List DPiece)).length : Int) = y2 ∧ (insB pAt (y0, y1, y2, qd) ([] : List DPiece)).length ≤ 8 ∧ 0 ≤ y2 ∧ y2 ≤ 8 from ⟨hd, by have := (pc_le8 hpc).2.1; have e_ : ((y0, y1, y2, qd) : DPiece).2.2.1 = y2 := rfl; omega, by have := (pc_le8 hpc).1; have e_ : ((y0, y1, y2, qd) : DPiece).2.2.1 = y2 := rfl; omega, by have := (pc_le8 hpc).2.1; have e_ : ((y0, y1, y2, qd) : DPiece).2.2.1 = y2 := rfl; omega⟩)
  have HDS2 := Lib.hid (show rsz szWhole (p.1.filter fun a => decide (a.1 ≠ y0)) ≤ 2000 from Nat.le_trans (rsz_filter _ _ _) (dkOk_sz hp).2)
  have HD20 := Lib.hid (show ∀ p ∈ insB pAt (y0, y1, y2, qd) ([] : List DPiece), p.2.2.2.length ≤ 20 from fun p_ hp_ => by rcases insB_mem.1 hp_ with rfl | ⟨h, _⟩; exact (pc_le8 hpc).2.2.1; exact absurd h (by simp))
  have HMN := Lib.hid hm
  clear hd
  have HNE := Lib.hid hne
  have HM := Lib.hid (decide_eq_false hm)
  clear hne hm
  have HP := Lib.hid (decide_eq_true hp)
  have HQ := Lib.hid (decide_eq_true hpc)
  have hsz := (dkOk_sz hp).1
  have hsw := (dkOk_sz hp).2
  have hsq : szPiece (y0, y1, y2, qd) ≤ 20 := (pc_le8 hpc).2.2.1
  have hX := h
  obtain ⟨A0_, n0_, c0_, A1_, n1_, c1_, e_, -, -, hl0, hr0, -, -, hl1, hr1⟩ := openDesk hX
  simp only [List.cons.injEq, Value.slice.injEq, and_true] at e_
  obtain ⟨⟨rfl, rfl, rfl⟩, rfl, rfl, rfl⟩ := e_
  clear hX
  have hr1D := hr1
  have hn0 : n0 ≤ 6 := by have := hp.1; omega
  have hn1 : n1 ≤ 256 := by have := asc_len hp.2.2.1 hp.2.1; omega
  have hI1 := (slR_ints hr1).1
  have E0 := Lib.hid hl0
  have E1 := Lib.hid hl1
  clear hl0 hl1
  have HAP := Lib.hid (dk_apart hp)
  have HWF := Lib.hid (whs_wf hr0)
  have HAS := Lib.hid hp.2.2.2.1
  have HWY := Lib.hid (show (Lit.int .i64 y0).wf = true from by obtain ⟨_, _, _, e_, w0_, -⟩ := openPiece hq; exact w0_)
  have HDK := Lib.hid hp
  have HPC := Lib.hid hpc
  have HDS := Lib.hid (show rsz szWhole p.1 + p.2.length ≤ 4096 from hsz)
  clear hp hpc
  go_enter Tryz.func11, Tryz.ntmps11
  go_wp2_with fail
  refine (i_DeskOk (tDesk.reach h ?hB) (by omega)).mono ?_
  case hB => exact (belx)
  rintro e w1 ⟨rfl, hb1⟩
  rw [HP.out]
  have P1 : Box w1 w.heap.size 33 #[.slice A0 n0 c0, .slice A1 n1 c1] := Box.below (((Box.new w _ _).alloc _).alloc _) hb1 (by simp; omega)
  have Q1 : Box w1 (w.heap.size + 1) 37 #[.int .i64 y0, .int .i64 y1, .int .i64 y2, .slice A7 n7 c7] := Box.below (Box.alloc (by simpa using Box.new (w.alloc (.cells #[.slice A0 n0 c0, .slice A1 n1 c1] 33)) 37 #[.int .i64 y0, .int .i64 y1, .int .i64 y2, .slice A7 n7 c7]) _) hb1 (by first | (simp; done) | (simp; omega))
  have R1 : Box w1 (w.heap.size + 1 + 1) 33 #[.slice none 0 0, .slice none 0 0] := Box.below (by simpa using Box.new ((w.alloc (.cells #[.slice A0 n0 c0, .slice A1 n1 c1] 33)).alloc (.cells #[.int .i64 y0, .int .i64 y1, .int .i64 y2, .slice A7 n7 c7] 37)) 33 #[.slice none 0 0, .slice none 0 0]) hb1 (by simp)
  have hB1 : Below w.heap.size w w1 := bel_trans (belx) hb1
  have ap0 := P1.cell 0; have ap1 := P1.cell 1; have aq0 := Q1.cell 0; have aq1 := Q1.cell 1; have aq2 := Q1.cell 2; have aq3 := Q1.cell 3; have ar0 := R1.cell 0; have ar1 := R1.cell 1; have af0 := R1.frozen 0; have af1 := R1.frozen 1
  go_wp2_with fail
  refine (i_PieceOk (tPiece.reach hq hB1) (by omega)).mono ?_
  rintro e w2 ⟨rfl, hb2⟩
  rw [HQ.out]
  have P2 := P1.below hb2 P1.size
  have Q2 := Q1.below hb2 Q1.size
  have R2 := R1.below hb2 R1.size
  have hB2 := bel_trans hB1 hb2
  clear ap0 ap1 aq0 aq1 aq2 aq3 ar0 ar1 af0 af1
  have bp0 := P2.cell 0; have bp1 := P2.cell 1; have bq0 := Q2.cell 0; have bq1 := Q2.cell 1; have bq2 := Q2.cell 2; have bq3 := Q2.cell 3; have br0 := R2.cell 0; have br1 := R2.cell 1; have bf0 := R2.frozen 0; have bf1 := R2.frozen 1
  go_wp2_with fail
  refine (i4_isDue_t x w2 hx.1 hx.2).mono ?_
  rintro e w' ⟨rfl, rfl⟩
  go_wp2_with fail
  refine (i_opened (tWhole.row.reach hr0 hB2) (by omega) HAP.out HWF.out).mono ?_
  rintro e w4 ⟨b, D, rfl, hM, hW, hbb, hb4⟩
  have P4 := P2.below hb4 P2.size
  have Q4 := Q2.below hb4 Q2.size
  have R4 := R2.below hb4 R2.size
  have hB4 := bel_trans hB2 hb4
  clear bp0 bp1 bq0 bq1 bq2 bq3 br0 br1 bf0 bf1
  have cp0 := P4.cell 0; have cp1 := P4.cell 1; have cq0 := Q4.cell 0; have cq1 := Q4.cell 1; have cq2 := Q4.cell 2; have cq3 := Q4.cell 3; have cr0 := R4.cell 0; have cr1 := R4.cell 1; have cf0 := R4.frozen 0; have cf1 := R4.frozen 1
  have z4 := hb4.size
  have zb := hM.lt
  have zR := R2.size
  obtain ⟨v, hlk⟩ := hW.look_ok hM Tryz.underlying3 Tryz.underlying76 (zwholeL w4) HWY.out
  rcases hlk with ⟨a_, es_, ha_, hid_, -⟩ | ⟨-, rfl, hrun⟩
  · exact absurd hid_ (HNE.out a_ ha_)
  have P5 := P4.alloc (.cells #[.int .i64 0, .int .i64 0, .int .i64 0, .slice none 0 0] 53)
  have Q5 := Q4.alloc (.cells #[.int .i64 0, .int .i64 0, .int .i64 0, .slice none 0 0] 53)
  have R5 := R4.alloc (.cells #[.int .i64 0, .int .i64 0, .int .i64 0, .slice none 0 0] 53)
  have hx5 : Below w4.heap.size w4 (w4.alloc (.cells #[.int .i64 0, .int .i64 0, .int .i64 0, .slice none 0 0] 53)) := (belx)
  have hB5 := bel_trans hB4 hx5
  have hM5 := hM.kept (row := none) (below_grownBy hx5) (by simp)
  have hW5 := hW.keep (w' := (w4.alloc (.cells #[.int .i64 0, .int .i64 0, .int .i64 0, .slice none 0 0] 53))) (fun i hi => hx5.block i (by omega))
  have V5 : Box (w4.alloc (.cells #[.int .i64 0, .int .i64 0, .int .i64 0, .slice none 0 0] 53)) w4.heap.size 53 #[.int .i64 0, .int .i64 0, .int .i64 0, .slice none 0 0] := Box.new w4 _ _
  have dp0 := P5.cell 0; have dp1 := P5.cell 1; have dq0 := Q5.cell 0; have dq1 := Q5.cell 1; have dq2 := Q5.cell 2; have dq3 := Q5.cell 3; have dr0 := R5.cell 0; have dr1 := R5.cell 1; have df0 := R5.frozen 0; have df1 := R5.frozen 1
  have v50 := V5.cell 0; have v51 := V5.cell 1; have v52 := V5.cell 2; have v53 := V5.cell 3
  go_wp2_with fail
  refine (i_ContainsI (w := (w4.alloc (.cells #[.int .i64 0, .int .i64 0, .int .i64 0, .slice none 0 0] 53))) (B := w.heap.size) y0 (hI1.below hB5) (by omega)).mono ?_
  rintro e w' ⟨rfl, rfl⟩
  rw [HM.out]
  have P6 := P4.alloc (.cells #[.int .i64 y0, .int .i64 y2, .int .i64 x, .slice none 0 0] 53)
  have Q6 := Q4.alloc (.cells #[.int .i64 y0, .int .i64 y2, .int .i64 x, .slice none 0 0] 53)
  have R6 := R4.alloc (.cells #[.int .i64 y0, .int .i64 y2, .int .i64 x, .slice none 0 0] 53)
  have hx6 : Below w4.heap.size w4 (w4.alloc (.cells #[.int .i64 y0, .int .i64 y2, .int .i64 x, .slice none 0 0] 53)) := (belx)
  have hB6 := bel_trans hB4 hx6
  have hM6 := hM.kept (row := none) (below_grownBy hx6) (by simp)
  have hW6 := hW.keep (w' := (w4.alloc (.cells #[.int .i64 y0, .int .i64 y2, .int .i64 x, .slice none 0 0] 53))) (fun i hi => hx6.block i (by omega))
  have V6 : Box (w4.alloc (.cells #[.int .i64 y0, .int .i64 y2, .int .i64 x, .slice none 0 0] 53)) w4.heap.size 53 #[.int .i64 y0, .int .i64 y2, .int .i64 x, .slice none 0 0] := Box.new w4 _ _
  have z6 : w4.heap.size + 1 ≤ (w4.alloc (.cells #[.int .i64 y0, .int .i64 y2, .int .i64 x, .slice none 0 0] 53)).heap.size := by simp
  have ep0 := P6.cell 0; have ep1 := P6.cell 1; have eq0 := Q6.cell 0; have eq1 := Q6.cell 1; have eq2 := Q6.cell 2; have eq3 := Q6.cell 3; have er0 := R6.cell 0; have er1 := R6.cell 1; have ef0 := R6.frozen 0; have ef1 := R6.frozen 1
  have v60 := V6.cell 0; have v61 := V6.cell 1; have v62 := V6.cell 2; have v63 := V6.cell 3; have vf0 := V6.frozen 0; have vf1 := V6.frozen 1; have vf2 := V6.frozen 2; have vf3 := V6.frozen 3
  go_wp2_with fail
  refine (i_with (w := (w4.alloc (.cells #[.int .i64 y0, .int .i64 y2, .int .i64 x, .slice none 0 0] 53))) (g := []) (B0 := w2.heap.size) (by omega) ⟨none, 0, 0, rfl, Nat.le_refl _, by omega, rfl, fun h => absurd h (by omega)⟩ (by omega) (tPiece.up (tPiece.keep hq hB6.block) hB2.size) (fun i hi => absurd hi (by simp)) (fun p hp => absurd hp (by simp))).mono ?_
  rintro e w7 ⟨A8, m8, c8, rfl, hm8, hG7, hb7⟩
  have HM8 := Lib.hid hm8
  have HM8b := Lib.hid (show m8 ≤ 9 by rw [hm8]; have := HLW.out; omega)
  clear hm8
  have P7 := P6.below hb7 P6.size
  have Q7 := Q6.below hb7 Q6.size
  have R7 := R6.below hb7 R6.size
  have V7 := V6.below hb7 V6.size
  have hB7 := bel_trans hB6 hb7
  have hM7 := hM6.kept (row := none) (below_grownBy hb7) (by simp)
  have hW7 := hW6.keep (w' := w7) (fun i hi => hb7.block i (by have := z6; omega))
  have z7 := Nat.le_trans z6 hb7.size
  have v70 := V7.cell 0; have v71 := V7.cell 1; have v72 := V7.cell 2; have v73 := V7.cell 3; have wf0 := V7.frozen 0; have wf1 := V7.frozen 1; have wf2 := V7.frozen 2; have wf3 := V7.frozen 3
  have zw2 := hB2.size
  have P8 := ((((P7.far (p := ⟨w4.heap.size, 0, none⟩) (by show ¬ w.heap.size = w4.heap.size; omega) (.int .i64 y0)).far (p := ⟨w4.heap.size, 1, none⟩) (by show ¬ w.heap.size = w4.heap.size; omega) (.int .i64 y2)).far (p := ⟨w4.heap.size, 2, none⟩) (by show ¬ w.heap.size = w4.heap.size; omega) (.int .i64 x)).far (p := ⟨w4.heap.size, 3, none⟩) (by show ¬ w.heap.size = w4.heap.size; omega) (.slice A8 m8 c8))
  have Q8 := ((((Q7.far (p := ⟨w4.heap.size, 0, none⟩) (by show ¬ w.heap.size + 1 = w4.heap.size; omega) (.int .i64 y0)).far (p := ⟨w4.heap.size, 1, none⟩) (by show ¬ w.heap.size + 1 = w4.heap.size; omega) (.int .i64 y2)).far (p := ⟨w4.heap.size, 2, none⟩) (by show ¬ w.heap.size + 1 = w4.heap.size; omega) (.int .i64 x)).far (p := ⟨w4.heap.size, 3, none⟩) (by show ¬ w.heap.size + 1 = w4.heap.size; omega) (.slice A8 m8 c8))
  have R8 := ((((R7.far (p := ⟨w4.heap.size, 0, none⟩) (by show ¬ w.heap.size + 1 + 1 = w4.heap.size; omega) (.int .i64 y0)).far (p := ⟨w4.heap.size, 1, none⟩) (by show ¬ w.heap.size + 1 + 1 = w4.heap.size; omega) (.int .i64 y2)).far (p := ⟨w4.heap.size, 2, none⟩) (by show ¬ w.heap.size + 1 + 1 = w4.heap.size; omega) (.int .i64 x)).far (p := ⟨w4.heap.size, 3, none⟩) (by show ¬ w.heap.size + 1 + 1 = w4.heap.size; omega) (.slice A8 m8 c8))
  have V8 := ((((V7.put 0 (.int .i64 y0)).put 1 (.int .i64 y2)).put 2 (.int .i64 x)).put 3 (.slice A8 m8 c8))
  have hB8 := (bel_put (bel_put (bel_put (bel_put hB7 (p := ⟨w4.heap.size, 0, none⟩) hB4.size (.int .i64 y0)) (p := ⟨w4.heap.size, 1, none⟩) hB4.size (.int .i64 y2)) (p := ⟨w4.heap.size, 2, none⟩) hB4.size (.int .i64 x)) (p := ⟨w4.heap.size, 3, none⟩) hB4.size (.slice A8 m8 c8))
  have hG8 := ((((hG7.put (p := ⟨w4.heap.size, 0, none⟩) (by show w4.heap.size < _; have := z6; omega) z4 (.int .i64 y0)).put (p := ⟨w4.heap.size, 1, none⟩) (by show w4.heap.size < _; have := z6; omega) z4 (.int .i64 y2)).put (p := ⟨w4.heap.size, 2, none⟩) (by show w4.heap.size < _; have := z6; omega) z4 (.int .i64 x)).put (p := ⟨w4.heap.size, 3, none⟩) (by show w4.heap.size < _; have := z6; omega) z4 (.slice A8 m8 c8))
  have hM8 := ((((hM7.setCell (a := ⟨w4.heap.size, 0, none⟩) (by show b ≠ w4.heap.size; omega) (.int .i64 y0)).setCell (a := ⟨w4.heap.size, 1, none⟩) (by show b ≠ w4.heap.size; omega) (.int .i64 y2)).setCell (a := ⟨w4.heap.size, 2, none⟩) (by show b ≠ w4.heap.size; omega) (.int .i64 x)).setCell (a := ⟨w4.heap.size, 3, none⟩) (by show b ≠ w4.heap.size; omega) (.slice A8 m8 c8))
  have hW8 := hW7.keep (w' := ((((w7.setCell ⟨w4.heap.size, 0, none⟩ (.int .i64 y0)).setCell ⟨w4.heap.size, 1, none⟩ (.int .i64 y2)).setCell ⟨w4.heap.size, 2, none⟩ (.int .i64 x)).setCell ⟨w4.heap.size, 3, none⟩ (.slice A8 m8 c8))) (fun i hi => by rw [Below.heap_setCell _ _ _ i (by show i ≠ w4.heap.size; omega)]; rw [Below.heap_setCell _ _ _ i (by show i ≠ w4.heap.size; omega)]; rw [Below.heap_setCell _ _ _ i (by show i ≠ w4.heap.size; omega)]; rw [Below.heap_setCell _ _ _ i (by show i ≠ w4.heap.size; omega)];)
  have x80 := V8.cell 0; have x81 := V8.cell 1; have x82 := V8.cell 2; have x83 := V8.cell 3
  go_wp2_with fail
  refine (i_lacking A8 m8 c8 _ _ _ (y2 - (m8 : Int)) ((((w7.setCell ⟨w4.heap.size, 0, none⟩ (.int .i64 y0)).setCell ⟨w4.heap.size, 1, none⟩ (.int .i64 y2)).setCell ⟨w4.heap.size, 2, none⟩ (.int .i64 x)).setCell ⟨w4.heap.size, 3, none⟩ (.slice A8 m8 c8)) (IntWalk.i64_in _ (by have h1 := HM8.out; have h2 := HLW.out; omega))).mono ?_
  rintro e w9 ⟨rfl, hb9⟩
  have P9 := P8.below hb9 P8.size
  have Q9 := Q8.below hb9 Q8.size
  have R9 := R8.below hb9 R8.size
  have V9 := V8.below hb9 V8.size
  have hB9 := bel_trans hB8 hb9
  have hM9 := hM8.kept (row := none) (below_grownBy hb9) (by simp)
  have hW9 := hW8.keep (w' := w9) (fun i hi => hb9.block i (by simp [World.setCell]; omega))
  have hG9 := hG8.below hb9 (by have := z7; simp [World.setCell]; omega)
  have z9 : w7.heap.size ≤ w9.heap.size := by have h := hb9.size; simpa [World.setCell] using h
  have z6c := z6
  have hbe : ((y2 - (m8 : Int)) == 0) = true := by rw [beq_iff_eq]; have h1 := HM8.out; have h2 := HLW.out; omega
  have gp0 := P9.cell 0; have gp1 := P9.cell 1; have gq0 := Q9.cell 0; have gq1 := Q9.cell 1; have gq2 := Q9.cell 2; have gq3 := Q9.cell 3; have gr0 := R9.cell 0; have gr1 := R9.cell 1; have gf0 := R9.frozen 0; have gf1 := R9.frozen 1
  have x90 := V9.cell 0; have x91 := V9.cell 1; have x92 := V9.cell 2; have x93 := V9.cell 3
  have hkey : keyOf Tryz.prog 3 (.int .i64 y0) = some (mK y0) := Go.Maps.keyOf_int_mk Tryz.underlying3 HWY.out
  have hOwn9 := hG9.own
  go_wp2_with (at_delete; refine wpList_delete_own _ rfl _ _ 76 3 rfl 53 ms_keyed Tryz.underlying76 mR b n0 D rfl hM9 _ (mK y0) rfl hkey ?_; intro w10 hM10 hturn; have hgr10 := hturn.grown; have P10 := Box.grown P9 hgr10 (fun e => by have e := Option.some.inj e; omega); have Q10 := Box.grown Q9 hgr10 (fun e => by have e := Option.some.inj e; omega); have R10 := Box.grown R9 hgr10 (fun e => by have e := Option.some.inj e; omega); have V10 := Box.grown V9 hgr10 (fun e => by have e := Option.some.inj e; omega); have hp1 := P10.cell 1; have hq0 := Q10.cell 0)
  have hB10 : Below w.heap.size w w10 := Below.grown hB9 hgr10 hB9.size (fun i hi => by have e := Option.some.inj hi; omega)
  have z10 := hgr10.size
  obtain ⟨LS, hLS⟩ : ∃ LS, (p.1.filter fun a => decide (a.1 ≠ y0)) = LS := ⟨_, rfl⟩
  have HLS := Lib.hid hLS
  have HASf := Lib.hid (show Asc (LS.map fun a => a.1) from hLS ▸ asc_filter _ HAS.out)
  have HDS3 := Lib.hid (show rsz szWhole LS ≤ 2000 from hLS ▸ HDS2.out)
  have hW10 : MapW tWhole (fun a => a.1) w10 w2.heap.size (D.del (mK y0)) LS := hLS ▸ (show MapW tWhole (fun a => a.1) w10 w2.heap.size (D.del (mK y0)) (p.1.filter fun a => decide (a.1 ≠ y0)) from (hW9.keep (w' := w10) (fun i hi => hgr10.block i (by have := z9; have := z7; omega) (by simp; omega))).del y0)
  clear hLS
  have hG10 := hG9.past hgr10 hbb (fun i hi => by have := (hOwn9 i hi).1; have := z6c; omega) (by have := z9; have := z7; omega)
  obtain ⟨ii, hi0, hiz0, hiz1, hiz2⟩ := info_parts info_ci
  have zQ10 := Q10.size
  have zV10 := V10.size
  have HSRT := Lib.hid (srt_ins HDK.out.2.2.1 HMN.out)
  have HDZ := Lib.hid (show rsz szWhole LS + (insB id y0 p.2).length ≤ 1048576 by have h1 := HDS3.out; have h2 := insB_len_le id y0 p.2; have := E1.out; omega)
  refine wp_region_held_drew (S := (fun w' => w'.cell? ⟨w.heap.size, 1, none⟩ = some (.slice A1 n1 c1) ∧ w'.cell? ⟨w.heap.size + 1, 0, none⟩ = some (.int .i64 y0))) (by kernel_rfl) (by exact ⟨P10.cell 1, Q10.cell 0⟩) (fun hHeld => ?_)
  refine wpAnyH_take (i := 0) (oi := ⟨some 79, _, _, _, _, _⟩) (v := ?v19) rfl (by kernel_rfl) (by kernel_rfl) (by kernel_rfl) (fun _ _ _ h => h) (Or.inl ⟨by rfl, ?hy19⟩) (by assumption) ?_
  case hy19 => (intro w hSw; (try dsimp only at hSw); go_simp; try (with_reducible rfl))
  (try simp only [Act.put, qa_, qb_, qc_])
  refine wpAnyH_take (i := 1) (oi := ⟨some 80, _, _, _, _, _⟩) (v := ?v20) rfl (by kernel_rfl) (by kernel_rfl) (by kernel_rfl) (fun _ _ _ h => h) (Or.inl ⟨by rfl, ?hy20⟩) (by assumption) ?_
  case hy20 => (intro w hSw; (try dsimp only at hSw); go_simp; try (with_reducible rfl))
  (try simp only [Act.put, qa_, qb_, qc_])
  refine wpAnyH_take (i := 3) (oi := ⟨some 82, _, _, _, _, _⟩) (v := ?v21) rfl (by kernel_rfl) (by kernel_rfl) (by kernel_rfl) (fun _ _ _ h => h) (Or.inl ⟨by rfl, ?hy21⟩) (by assumption) ?_
  case hy21 => (intro w hSw; (try dsimp only at hSw); go_simp; try (with_reducible rfl))
  (try simp only [Act.put, qa_, qb_, qc_])
  refine wpAnyH_take (i := 4) (oi := ⟨some 83, _, _, _, _, _⟩) (v := ?v22) rfl (by kernel_rfl) (by kernel_rfl) (by kernel_rfl) (fun _ _ _ h => h) (Or.inl ⟨by rfl, ?hy22⟩) (by assumption) ?_
  case hy22 => (intro w hSw; (try dsimp only at hSw); go_simp; try (with_reducible rfl))
  (try simp only [Act.put, qa_, qb_, qc_])
  refine wpAnyH_ready (rs := [2, 5]) (by kernel_rfl) (by simp) ?_
  refine AllReadyH.cons rfl (fun K hK => ?_) ?_
  · go_simp
    go_at_call 52
    refine (i_copiedI5 (w := w10.drew) (reach hI1 (bel_trans hB10 (belx))) (by omega)).mono ?_
    rintro e w11 ⟨v11, rfl, hO11, hb11⟩
    obtain ⟨A11, n11, c11, rfl, hn11⟩ := hO11.shapeN
    have HN11 := Lib.hid hn11
    clear hn11
    have hs11 : Below w10.heap.size w10 w11 := bel_trans (show Below w10.heap.size w10 w10 from (belx)) (bel_trans (bel_drew (Below.refl _ _)) hb11)
    have hO11 : Own .i64 3 w11 w10.heap.size (.slice A11 n11 c11) p.2 := hO11.lower (by show _ ≤ w10.heap.size; first | (simp; done) | (simp; omega) | exact Nat.le_refl _)
    have P11 := P10.below hs11 P10.size
    have Q11 := Q10.below hs11 Q10.size
    have z11b := hs11.size
    go_wp2_with fail
    refine hK.out _ _ (by exact ⟨P11.cell 1, Q11.cell 0⟩) (fun hHeld => ?_)
    clear hK K
    (try simp only [Act.put, qa_, qb_, qc_])
    refine wpAnyH_ready (rs := [5]) (by kernel_rfl) (by simp) ?_
    refine AllReadyH.cons rfl (fun K hK => ?_) ?_
    · go_simp
      refine hK.out _ _ (by exact ⟨(P11.alloc _).cell 1, (Q11.alloc _).cell 0⟩) (fun hHeld => ?_)
      clear hK K
      (try simp only [Act.put, qa_, qb_, qc_])
      refine wpAnyH_ready (rs := [6]) (by kernel_rfl) (by simp) ?_
      refine AllReadyH.cons rfl (fun K hK => ?_) ?_
      · refine Own.stepRow (K := K) (w := (w11.alloc (.cells #[.int .i64 y0] 3))) (base := w10.heap.size) (by rfl) (.tmp 81) (.tmp 84) _ (by rfl) ii _ 8 Tryz.underlying23 hi0 hiz0 hiz1 hiz2 (by rfl) (by rfl) (hO11.below (show Below w11.heap.size w11 (w11.alloc (.cells #[.int .i64 y0] 3)) from (belx))) (by rfl) (Ints.boxed (Box.new w11 3 #[.int .i64 y0]) HWY.out) (by first | omega | (simp; omega)) (by simp only [maxLen]; have := E1.out; omega) (by have := E1.out; omega) ?_
        intro v12 w12 hO12 hgr12 _
        have hOwn11 := fun b hb => hO11.block (b := b) hb
        have hs12 : Below w10.heap.size w10 w12 := Below.grown (w := (w11.alloc (.cells #[.int .i64 y0] 3))) (bel_alloc hs11 _) hgr12 (by first | omega | (simp; omega)) (fun b hb => (hOwn11 b hb).1)
        have P12 := P10.below hs12 P10.size
        have Q12 := Q10.below hs12 Q10.size
        refine hK.out _ _ (by exact ⟨P12.cell 1, Q12.cell 0⟩) (fun hHeld => ?_)
        clear hK K
        (try simp only [Act.put, qa_, qb_, qc_])
        refine wpAnyH_take (i := 7) (oi := ⟨some 12, _, _, _, _, _⟩) (v := ?v23) rfl (by kernel_rfl) (by kernel_rfl) (by kernel_rfl) (fun _ _ _ h => h) (Or.inl ⟨by rfl, ?hy23⟩) (by assumption) ?_
        case hy23 => (intro w hSw; (try dsimp only at hSw); go_simp; try (with_reducible rfl))
        (try simp only [Act.put, qa_, qb_, qc_])
        refine wpAnyH_done (by kernel_rfl) ?_ _
        go_wp2_with fail
        refine (i_SortI hO12 (by have := hs12.size; omega) (by rw [List.length_append, List.length_singleton]; have := E1.out; omega)).mono ?_
        rintro e w13 ⟨rfl, hO13, hgr13⟩
        have hOwn12 := fun b hb => hO12.block (b := b) hb
        have hs13 : Below w10.heap.size w10 w13 := Below.grown hs12 hgr13 hs12.size (fun b hb => (hOwn12 b hb).1)
        rw [HSRT.out] at hO13
        have P13 := P10.below hs13 P10.size
        have Q13 := Q10.below hs13 Q10.size
        have R13 := R10.below hs13 R10.size
        have V13 := V10.below hs13 V10.size
        have hM13 := hM10.kept (row := none) (below_grownBy hs13) (by simp)
        have hW13 := hW10.keep (w' := w13) (fun i hi => hs13.block i (by have := z10; have := z9; have := z7; omega))
        have hG13 := hG10.below hs13 (by have := z10; have := z9; have := z7; omega)
        have hB13 := bel_trans hB10 hs13
        have hx3 := V13.cell 3
        obtain ⟨Ad, nd, cd, rfl, hnd⟩ := hO13.shapeN
        have HND := Lib.hid hnd
        clear hnd
        have hId := hO13.intsAt.1
        have z13 := hs13.size
        go_wp2_with fail
        have HCD := Lib.hid (And.intro (own_cap hO13).1 (own_cap hO13).2)
        refine wp_region_held_drew (S := (fun w' => w'.cell? ⟨w4.heap.size, 3, none⟩ = some (.slice A8 m8 c8))) (by kernel_rfl) (by exact V13.cell 3) (fun hHeld => ?_)
        refine wpAnyH_take (i := 0) (oi := ⟨some 88, _, _, _, _, _⟩) (v := ?v24) rfl (by kernel_rfl) (by kernel_rfl) (by kernel_rfl) (fun _ _ _ h => h) (Or.inl ⟨by rfl, ?hy24⟩) (by assumption) ?_
        case hy24 => (intro w hSw; (try dsimp only at hSw); go_simp; try (with_reducible rfl))
        (try simp only [Act.put, qa_, qb_, qc_])
        refine wpAnyH_take (i := 1) (oi := ⟨some 89, _, _, _, _, _⟩) (v := ?v25) rfl (by kernel_rfl) (by kernel_rfl) (by kernel_rfl) (fun _ _ _ h => h) (Or.inl ⟨by rfl, ?hy25⟩) (by assumption) ?_
        case hy25 => (intro w hSw; (try dsimp only at hSw); go_simp; try (with_reducible rfl))
        (try simp only [Act.put, qa_, qb_, qc_])
        refine wpAnyH_take (i := 3) (oi := ⟨some 91, _, _, _, _, _⟩) (v := ?v26) rfl (by kernel_rfl) (by kernel_rfl) (by kernel_rfl) (fun _ _ _ h => h) (Or.inl ⟨by rfl, ?hy26⟩) (by assumption) ?_
        case hy26 => (intro w hSw; (try dsimp only at hSw); go_simp; try (with_reducible rfl))
        (try simp only [Act.put, qa_, qb_, qc_])
        refine wpAnyH_take (i := 4) (oi := ⟨some 92, _, _, _, _, _⟩) (v := ?v27) rfl (by kernel_rfl) (by kernel_rfl) (by kernel_rfl) (fun _ _ _ h => h) (Or.inl ⟨by rfl, ?hy27⟩) (by assumption) ?_
        case hy27 => (intro w hSw; (try dsimp only at hSw); go_simp; try (with_reducible rfl))
        (try simp only [Act.put, qa_, qb_, qc_])
        refine wpAnyH_ready (rs := [2]) (by kernel_rfl) (by simp) ?_
        refine AllReadyH.cons rfl (fun K hK => ?_) ?_
        · go_simp
          go_at_call 49
          refine (i_deskOf (w := w13.drew) (l := LS) (l1 := (insB id y0 p.2)) hM13.drew (hW13.keep (fun _ _ => rfl)) (by show w2.heap.size ≤ w13.heap.size; omega) HASf.out (ints_slR (reach hId (bel_drew (Below.refl _ _))) HCD.out.1 HCD.out.2) HDZ.out).mono ?_
          rintro e wa ⟨D0, d0, D1, d1, F, rfl, hOa, hNa, hba⟩
          have hsa : Below w13.heap.size w13 wa := bel_trans (bel_drew (Below.refl _ _)) hba
          have Va := V13.below hsa V13.size
          have Ra := R13.below hsa R13.size
          go_wp2_with fail
          refine hK.out _ _ (by exact Va.cell 3) (fun hHeld => ?_)
          clear hK K
          (try simp only [Act.put, qa_, qb_, qc_])
          refine wpAnyH_ready (rs := [5]) (by kernel_rfl) (by simp) ?_
          refine AllReadyH.cons rfl (fun K hK => ?_) ?_
          · go_simp
            go_at_call 54
            refine (i_joinedData (w := wa) 55 (fun a => a.2.2.2) 20 (fun _ _ => rfl) (fun i a w' cs ha hB hR => i_PcData hR) (fun a ha => HD20.out a ha) (by have := HM8b.out; omega) ((hG13.below hsa (by have := z10; have := z9; have := z7; omega)).doneAs (by show w2.heap.size ≤ wa.heap.size; have := hsa.size; omega)) (by have := HM8b.out; omega)).mono ?_
            rintro e wb ⟨vb, rfl, hOb, hbb2⟩
            obtain ⟨Ab, nb, cb, rfl, hnb⟩ := hOb.shapeN
            have HNB := Lib.hid (show nb = ((tkData (insB pAt (y0, y1, y2, qd) []))).length from hnb)
            clear hnb
            have hsb : Below wa.heap.size wa wb := hbb2
            have V15 := Va.below hsb Va.size
            have R15 := Ra.below hsb Ra.size
            have hB15 := bel_trans (bel_trans hB13 hsa) hsb
            have hD15 := Ty.below (t := tDesk) hOa hsb
            have hap : ∀ f ∈ F, ∀ g, (Value.slice Ab nb cb).ownBlock = some g → f ≠ g := fun f hf g hg e => by have h1 := tDesk.lt hOa f hf; have h2 := (hOb.block hg).1; omega
            have hNa15 := hNa.lower (show w10.heap.size ≤ w13.drew.heap.size by exact z13)
            have hOb10 : Own .u8 5 wb w10.heap.size (.slice Ab nb cb) (tkData (insB pAt (y0, y1, y2, qd) [])) := hOb.lower (by have := hsa.size; have := z13; omega)
            have VZ := (V15.far (p := ⟨w.heap.size + 1 + 1, 0, none⟩) (by show ¬ w4.heap.size = w.heap.size + 1 + 1; omega) (.slice D0 LS.length d0)).far (p := ⟨w.heap.size + 1 + 1, 1, none⟩) (by show ¬ w4.heap.size = w.heap.size + 1 + 1; omega) (.slice D1 (insB id y0 p.2).length d1)
            have RR := (R15.put 0 (.slice D0 LS.length d0)).put 1 (.slice D1 (insB id y0 p.2).length d1)
            have u0 := RR.cell 0; have u1 := RR.cell 1
            have sr0 := R15.cell 0; have sr1 := R15.cell 1; have sf0 := R15.frozen 0; have sf1 := R15.frozen 1
            have hOx := put2D_O (g := w.heap.size + 1 + 1) hD15 (fun hx => by have h1 := hNa15.2 _ hx; omega)
            have hBx := bel_put (bel_put hB15 (p := ⟨w.heap.size + 1 + 1, 0, none⟩) (by show _ ≤ w.heap.size + 1 + 1; omega) (.slice D0 LS.length d0)) (p := ⟨w.heap.size + 1 + 1, 1, none⟩) (by show _ ≤ w.heap.size + 1 + 1; omega) (.slice D1 (insB id y0 p.2).length d1)
            have hOy := own_offU (own_offU hOb10 (p := ⟨w.heap.size + 1 + 1, 0, none⟩) (by show w.heap.size + 1 + 1 < _; omega) (.slice D0 LS.length d0)) (p := ⟨w.heap.size + 1 + 1, 1, none⟩) (by show w.heap.size + 1 + 1 < _; omega) (.slice D1 (insB id y0 p.2).length d1)
            go_wp2_with fail
            refine hK.out _ _ (by exact V15.cell 3) (fun hHeld => ?_)
            clear hK K
            (try simp only [Act.put, qa_, qb_, qc_])
            refine wpAnyH_ready (rs := [6]) (by kernel_rfl) (by simp) ?_
            refine AllReadyH.cons rfl (fun K hK => ?_) ?_
            · go_simp
              refine hK.out _ _ (by exact VZ.cell 3) (fun hHeld => ?_)
              clear hK K
              (try simp only [Act.put, qa_, qb_, qc_])
              refine wpAnyH_take (i := 7) (oi := ⟨some 7, _, _, _, _, _⟩) (v := ?v28) rfl (by kernel_rfl) (by kernel_rfl) (by kernel_rfl) (fun _ _ _ h => h) (Or.inl ⟨by rfl, ?hy28⟩) (by assumption) ?_
              case hy28 => (intro w hSw; (try dsimp only at hSw); go_simp; try (with_reducible rfl))
              (try simp only [Act.put, qa_, qb_, qc_])
              refine wpAnyH_take (i := 8) (oi := ⟨some 8, _, _, _, _, _⟩) (v := ?v29) rfl (by kernel_rfl) (by kernel_rfl) (by kernel_rfl) (fun _ _ _ h => h) (Or.inl ⟨by rfl, ?hy29⟩) (by assumption) ?_
              case hy29 => (intro w hSw; (try dsimp only at hSw); go_simp; try (with_reducible rfl))
              (try simp only [Act.put, qa_, qb_, qc_])
              refine wpAnyH_done (by kernel_rfl) ?_ _
              go_wp2
              obtain ⟨F2, hF2, hN2, hF2b⟩ := own_blk hOy
              refine bodyPost_ret (v := .tuple #[.agg #[.slice D0 LS.length d0, .slice D1 (insB id y0 p.2).length d1], .slice Ab nb cb, .int .i64 1]) (by simp [results, Tryz.results11, go_sem, u0, u1]) rfl ⟨_, F, Ab, cb, F2, by rw [← HNB.out], by rw [HLS.out]; exact hOx, by rw [← HNB.out]; exact hF2, ?_, hBx⟩
              exact (new_pair hNa15 hN2 (fun f h1 h2 => hap f h1 f (hF2b f h2) rfl)).lower (by have := zw2; omega)
            exact AllReadyH.nil
          exact AllReadyH.nil
        exact AllReadyH.nil
      exact AllReadyH.nil
    exact AllReadyH.nil
  refine AllReadyH.cons rfl (fun K hK => ?_) ?_
  · go_simp
    refine hK.out _ _ (by exact ⟨(P10.alloc _).cell 1, (Q10.alloc _).cell 0⟩) (fun hHeld => ?_)
    clear hK K
    (try simp only [Act.put, qa_, qb_, qc_])
    refine wpAnyH_ready (rs := [2]) (by kernel_rfl) (by simp) ?_
    refine AllReadyH.cons rfl (fun K hK => ?_) ?_
    · go_simp
      go_at_call 52
      refine (i_copiedI5 (w := (w10.alloc (.cells #[.int .i64 y0] 3)).drew) (reach hI1 (bel_trans hB10 (belx))) (by omega)).mono ?_
      rintro e w11 ⟨v11, rfl, hO11, hb11⟩
      obtain ⟨A11, n11, c11, rfl, hn11⟩ := hO11.shapeN
      have HN11 := Lib.hid hn11
      clear hn11
      have hs11 : Below w10.heap.size w10 w11 := bel_trans (show Below w10.heap.size w10 (w10.alloc (.cells #[.int .i64 y0] 3)) from (belx)) (bel_trans (bel_drew (Below.refl _ _)) hb11)
      have hO11 : Own .i64 3 w11 w10.heap.size (.slice A11 n11 c11) p.2 := hO11.lower (by show _ ≤ (w10.alloc (.cells #[.int .i64 y0] 3)).heap.size; first | (simp; done) | (simp; omega) | exact Nat.le_refl _)
      have P11 := P10.below hs11 P10.size
      have Q11 := Q10.below hs11 Q10.size
      have YB := Box.below (Box.drew (Box.new w10 3 #[.int .i64 y0])) hb11 (Box.drew (Box.new w10 3 #[.int .i64 y0])).size
      have z11 : w10.heap.size + 1 ≤ w11.heap.size := YB.size
      have z11b := hs11.size
      go_wp2_with fail
      refine hK.out _ _ (by exact ⟨P11.cell 1, Q11.cell 0⟩) (fun hHeld => ?_)
      clear hK K
      (try simp only [Act.put, qa_, qb_, qc_])
      refine wpAnyH_ready (rs := [6]) (by kernel_rfl) (by simp) ?_
      refine AllReadyH.cons rfl (fun K hK => ?_) ?_
      · refine Own.stepRow (K := K) (w := w11) (base := w10.heap.size) (by rfl) (.tmp 81) (.tmp 84) _ (by rfl) ii _ 8 Tryz.underlying23 hi0 hiz0 hiz1 hiz2 (by rfl) (by rfl) hO11 (by rfl) (Ints.boxed YB HWY.out) (by first | omega | (simp; omega)) (by simp only [maxLen]; have := E1.out; omega) (by have := E1.out; omega) ?_
        intro v12 w12 hO12 hgr12 _
        have hOwn11 := fun b hb => hO11.block (b := b) hb
        have hs12 : Below w10.heap.size w10 w12 := Below.grown (w := w11) hs11 hgr12 (by first | omega | (simp; omega)) (fun b hb => (hOwn11 b hb).1)
        have P12 := P10.below hs12 P10.size
        have Q12 := Q10.below hs12 Q10.size
        refine hK.out _ _ (by exact ⟨P12.cell 1, Q12.cell 0⟩) (fun hHeld => ?_)
        clear hK K
        (try simp only [Act.put, qa_, qb_, qc_])
        refine wpAnyH_take (i := 7) (oi := ⟨some 12, _, _, _, _, _⟩) (v := ?v30) rfl (by kernel_rfl) (by kernel_rfl) (by kernel_rfl) (fun _ _ _ h => h) (Or.inl ⟨by rfl, ?hy30⟩) (by assumption) ?_
        case hy30 => (intro w hSw; (try dsimp only at hSw); go_simp; try (with_reducible rfl))
        (try simp only [Act.put, qa_, qb_, qc_])
        refine wpAnyH_done (by kernel_rfl) ?_ _
        go_wp2_with fail
        refine (i_SortI hO12 (by have := hs12.size; omega) (by rw [List.length_append, List.length_singleton]; have := E1.out; omega)).mono ?_
        rintro e w13 ⟨rfl, hO13, hgr13⟩
        have hOwn12 := fun b hb => hO12.block (b := b) hb
        have hs13 : Below w10.heap.size w10 w13 := Below.grown hs12 hgr13 hs12.size (fun b hb => (hOwn12 b hb).1)
        rw [HSRT.out] at hO13
        have P13 := P10.below hs13 P10.size
        have Q13 := Q10.below hs13 Q10.size
        have R13 := R10.below hs13 R10.size
        have V13 := V10.below hs13 V10.size
        have hM13 := hM10.kept (row := none) (below_grownBy hs13) (by simp)
        have hW13 := hW10.keep (w' := w13) (fun i hi => hs13.block i (by have := z10; have := z9; have := z7; omega))
        have hG13 := hG10.below hs13 (by have := z10; have := z9; have := z7; omega)
        have hB13 := bel_trans hB10 hs13
        have hx3 := V13.cell 3
        obtain ⟨Ad, nd, cd, rfl, hnd⟩ := hO13.shapeN
        have HND := Lib.hid hnd
        clear hnd
        have hId := hO13.intsAt.1
        have z13 := hs13.size
        go_wp2_with fail
        have HCD := Lib.hid (And.intro (own_cap hO13).1 (own_cap hO13).2)
        refine wp_region_held_drew (S := (fun w' => w'.cell? ⟨w4.heap.size, 3, none⟩ = some (.slice A8 m8 c8))) (by kernel_rfl) (by exact V13.cell 3) (fun hHeld => ?_)
        refine wpAnyH_take (i := 0) (oi := ⟨some 88, _, _, _, _, _⟩) (v := ?v31) rfl (by kernel_rfl) (by kernel_rfl) (by kernel_rfl) (fun _ _ _ h => h) (Or.inl ⟨by rfl, ?hy31⟩) (by assumption) ?_
        case hy31 => (intro w hSw; (try dsimp only at hSw); go_simp; try (with_reducible rfl))
        (try simp only [Act.put, qa_, qb_, qc_])
        refine wpAnyH_take (i := 1) (oi := ⟨some 89, _, _, _, _, _⟩) (v := ?v32) rfl (by kernel_rfl) (by kernel_rfl) (by kernel_rfl) (fun _ _ _ h => h) (Or.inl ⟨by rfl, ?hy32⟩) (by assumption) ?_
        case hy32 => (intro w hSw; (try dsimp only at hSw); go_simp; try (with_reducible rfl))
        (try simp only [Act.put, qa_, qb_, qc_])
        refine wpAnyH_take (i := 3) (oi := ⟨some 91, _, _, _, _, _⟩) (v := ?v33) rfl (by kernel_rfl) (by kernel_rfl) (by kernel_rfl) (fun _ _ _ h => h) (Or.inl ⟨by rfl, ?hy33⟩) (by assumption) ?_
        case hy33 => (intro w hSw; (try dsimp only at hSw); go_simp; try (with_reducible rfl))
        (try simp only [Act.put, qa_, qb_, qc_])
        refine wpAnyH_take (i := 4) (oi := ⟨some 92, _, _, _, _, _⟩) (v := ?v34) rfl (by kernel_rfl) (by kernel_rfl) (by kernel_rfl) (fun _ _ _ h => h) (Or.inl ⟨by rfl, ?hy34⟩) (by assumption) ?_
        case hy34 => (intro w hSw; (try dsimp only at hSw); go_simp; try (with_reducible rfl))
        (try simp only [Act.put, qa_, qb_, qc_])
        refine wpAnyH_ready (rs := [2]) (by kernel_rfl) (by simp) ?_
        refine AllReadyH.cons rfl (fun K hK => ?_) ?_
        · go_simp
          go_at_call 49
          refine (i_deskOf (w := w13.drew) (l := LS) (l1 := (insB id y0 p.2)) hM13.drew (hW13.keep (fun _ _ => rfl)) (by show w2.heap.size ≤ w13.heap.size; omega) HASf.out (ints_slR (reach hId (bel_drew (Below.refl _ _))) HCD.out.1 HCD.out.2) HDZ.out).mono ?_
          rintro e wa ⟨D0, d0, D1, d1, F, rfl, hOa, hNa, hba⟩
          have hsa : Below w13.heap.size w13 wa := bel_trans (bel_drew (Below.refl _ _)) hba
          have Va := V13.below hsa V13.size
          have Ra := R13.below hsa R13.size
          go_wp2_with fail
          refine hK.out _ _ (by exact Va.cell 3) (fun hHeld => ?_)
          clear hK K
          (try simp only [Act.put, qa_, qb_, qc_])
          refine wpAnyH_ready (rs := [5]) (by kernel_rfl) (by simp) ?_
          refine AllReadyH.cons rfl (fun K hK => ?_) ?_
          · go_simp
            go_at_call 54
            refine (i_joinedData (w := wa) 55 (fun a => a.2.2.2) 20 (fun _ _ => rfl) (fun i a w' cs ha hB hR => i_PcData hR) (fun a ha => HD20.out a ha) (by have := HM8b.out; omega) ((hG13.below hsa (by have := z10; have := z9; have := z7; omega)).doneAs (by show w2.heap.size ≤ wa.heap.size; have := hsa.size; omega)) (by have := HM8b.out; omega)).mono ?_
            rintro e wb ⟨vb, rfl, hOb, hbb2⟩
            obtain ⟨Ab, nb, cb, rfl, hnb⟩ := hOb.shapeN
            have HNB := Lib.hid (show nb = ((tkData (insB pAt (y0, y1, y2, qd) []))).length from hnb)
            clear hnb
            have hsb : Below wa.heap.size wa wb := hbb2
            have V15 := Va.below hsb Va.size
            have R15 := Ra.below hsb Ra.size
            have hB15 := bel_trans (bel_trans hB13 hsa) hsb
            have hD15 := Ty.below (t := tDesk) hOa hsb
            have hap : ∀ f ∈ F, ∀ g, (Value.slice Ab nb cb).ownBlock = some g → f ≠ g := fun f hf g hg e => by have h1 := tDesk.lt hOa f hf; have h2 := (hOb.block hg).1; omega
            have hNa15 := hNa.lower (show w10.heap.size ≤ w13.drew.heap.size by exact z13)
            have hOb10 : Own .u8 5 wb w10.heap.size (.slice Ab nb cb) (tkData (insB pAt (y0, y1, y2, qd) [])) := hOb.lower (by have := hsa.size; have := z13; omega)
            have VZ := (V15.far (p := ⟨w.heap.size + 1 + 1, 0, none⟩) (by show ¬ w4.heap.size = w.heap.size + 1 + 1; omega) (.slice D0 LS.length d0)).far (p := ⟨w.heap.size + 1 + 1, 1, none⟩) (by show ¬ w4.heap.size = w.heap.size + 1 + 1; omega) (.slice D1 (insB id y0 p.2).length d1)
            have RR := (R15.put 0 (.slice D0 LS.length d0)).put 1 (.slice D1 (insB id y0 p.2).length d1)
            have u0 := RR.cell 0; have u1 := RR.cell 1
            have sr0 := R15.cell 0; have sr1 := R15.cell 1; have sf0 := R15.frozen 0; have sf1 := R15.frozen 1
            have hOx := put2D_O (g := w.heap.size + 1 + 1) hD15 (fun hx => by have h1 := hNa15.2 _ hx; omega)
            have hBx := bel_put (bel_put hB15 (p := ⟨w.heap.size + 1 + 1, 0, none⟩) (by show _ ≤ w.heap.size + 1 + 1; omega) (.slice D0 LS.length d0)) (p := ⟨w.heap.size + 1 + 1, 1, none⟩) (by show _ ≤ w.heap.size + 1 + 1; omega) (.slice D1 (insB id y0 p.2).length d1)
            have hOy := own_offU (own_offU hOb10 (p := ⟨w.heap.size + 1 + 1, 0, none⟩) (by show w.heap.size + 1 + 1 < _; omega) (.slice D0 LS.length d0)) (p := ⟨w.heap.size + 1 + 1, 1, none⟩) (by show w.heap.size + 1 + 1 < _; omega) (.slice D1 (insB id y0 p.2).length d1)
            go_wp2_with fail
            refine hK.out _ _ (by exact V15.cell 3) (fun hHeld => ?_)
            clear hK K
            (try simp only [Act.put, qa_, qb_, qc_])
            refine wpAnyH_ready (rs := [6]) (by kernel_rfl) (by simp) ?_
            refine AllReadyH.cons rfl (fun K hK => ?_) ?_
            · go_simp
              refine hK.out _ _ (by exact VZ.cell 3) (fun hHeld => ?_)
              clear hK K
              (try simp only [Act.put, qa_, qb_, qc_])
              refine wpAnyH_take (i := 7) (oi := ⟨some 7, _, _, _, _, _⟩) (v := ?v35) rfl (by kernel_rfl) (by kernel_rfl) (by kernel_rfl) (fun _ _ _ h => h) (Or.inl ⟨by rfl, ?hy35⟩) (by assumption) ?_
              case hy35 => (intro w hSw; (try dsimp only at hSw); go_simp; try (with_reducible rfl))
              (try simp only [Act.put, qa_, qb_, qc_])
              refine wpAnyH_take (i := 8) (oi := ⟨some 8, _, _, _, _, _⟩) (v := ?v36) rfl (by kernel_rfl) (by kernel_rfl) (by kernel_rfl) (fun _ _ _ h => h) (Or.inl ⟨by rfl, ?hy36⟩) (by assumption) ?_
              case hy36 => (intro w hSw; (try dsimp only at hSw); go_simp; try (with_reducible rfl))
              (try simp only [Act.put, qa_, qb_, qc_])
              refine wpAnyH_done (by kernel_rfl) ?_ _
              go_wp2
              obtain ⟨F2, hF2, hN2, hF2b⟩ := own_blk hOy
              refine bodyPost_ret (v := .tuple #[.agg #[.slice D0 LS.length d0, .slice D1 (insB id y0 p.2).length d1], .slice Ab nb cb, .int .i64 1]) (by simp [results, Tryz.results11, go_sem, u0, u1]) rfl ⟨_, F, Ab, cb, F2, by rw [← HNB.out], by rw [HLS.out]; exact hOx, by rw [← HNB.out]; exact hF2, ?_, hBx⟩
              exact (new_pair hNa15 hN2 (fun f h1 h2 => hap f h1 f (hF2b f h2) rfl)).lower (by have := zw2; omega)
            exact AllReadyH.nil
          exact AllReadyH.nil
        exact AllReadyH.nil
      exact AllReadyH.nil
    exact AllReadyH.nil
  exact AllReadyH.nil
end Go.Proofs.YtaabmaoldhoinaaGreat
