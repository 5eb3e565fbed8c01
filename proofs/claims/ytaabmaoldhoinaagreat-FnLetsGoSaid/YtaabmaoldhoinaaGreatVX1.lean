/-
  CpIa, CpI, CpS: texts joined.
-/
import Derived.Test.YtaabmaoldhoinaaGreatVGa
import Derived.Deep.RegionHeld3
namespace Go.Proofs.YtaabmaoldhoinaaGreat
set_option maxRecDepth 100000
set_option linter.unusedVariables false
set_option linter.unusedSimpArgs false
open Go.ChangeShapes Go.WideShapes Go.ChangeAt Go.RowKit
open Fld
set_option maxHeartbeats 2000000 in
theorem i_PieceCopy {w : World} {cs : List Value} {p : DPiece} (h : tPiece.R w w.heap.size cs p) (hz : szPiece p ≤ 1048576) :
    Calls Tryz.prog 117 #[.agg cs.toArray] w fun e w' => ∃ cs' F, e = .returned (.agg cs'.toArray) ∧ tPiece.O w' cs' p F ∧ New w.heap.size F ∧ Below w.heap.size w w' := by
  obtain ⟨A3, n3, c3, rfl, i0, i1, i2, -, -, -, r3⟩ := openPiece h
  have hI := (slR_ints r3).1
  have hn : n3 ≤ 1048576 := by rw [← hI.1]; simpa [szPiece, szCell] using hz
  go_enter Tryz.func117, Tryz.ntmps117
  go_wp2_with fail
  refine (i_copiedB5 (reach hI ?hB) hn).mono ?_
  case hB => exact (belx)
  rintro e w1 ⟨v, rfl, hO, hb1⟩
  obtain ⟨A, c, F, rfl, hO3, hN⟩ := own_slice hO
  clear hO
  have z1 : w.heap.size + 2 ≤ w1.heap.size := by have h : (World.alloc (World.alloc w _) _).heap.size ≤ w1.heap.size := hb1.size; simpa using h
  have P1 : Box w1 w.heap.size 37 #[.int .i64 p.1, .int .i64 p.2.1, .int .i64 p.2.2.1, .slice A3 n3 c3] := Box.below ((Box.new w _ _).alloc _) hb1 (by simp; omega)
  have R1 : Box w1 (w.heap.size + 1) 37 #[.int .i64 0, .int .i64 0, .int .i64 0, .slice none 0 0] := Box.below (by simpa using Box.new (w.alloc _) 37 #[.int .i64 0, .int .i64 0, .int .i64 0, .slice none 0 0]) hb1 (by simp)
  have hM : New (w.heap.size + 2) F := hN.lower (by simp)
  have hB1 : Below w.heap.size w w1 := bel_trans (belx) hb1
  have p0 := P1.cell 0
  have x0 := R1.cell 0
  have g0 := R1.frozen 0
  have p1 := P1.cell 1
  have x1 := R1.cell 1
  have g1 := R1.frozen 1
  have p2 := P1.cell 2
  have x2 := R1.cell 2
  have g2 := R1.frozen 2
  have p3 := P1.cell 3
  have x3 := R1.cell 3
  have g3 := R1.frozen 3
  have f3 := P1.frozen 3
  go_wp2
  have RR := (((((R1.far (p := ⟨w.heap.size, 3, none⟩) (by simp) (.slice A p.2.2.2.length c)).put 0 (.int .i64 p.1)).put 1 (.int .i64 p.2.1)).put 2 (.int .i64 p.2.2.1)).put 3 (.slice A p.2.2.2.length c))
  have y0 := RR.cell 0
  have y1 := RR.cell 1
  have y2 := RR.cell 2
  have y3 := RR.cell 3
  have u := Ty.far (t := tBy) (Ty.far (t := tBy) (Ty.far (t := tBy) (Ty.far (t := tBy) (Ty.far (t := tBy) hO3 hM (p := ⟨w.heap.size, 3, none⟩) (by show w.heap.size < _; omega) (.slice A p.2.2.2.length c)) hM (p := ⟨w.heap.size + 1, 0, none⟩) (by show w.heap.size + 1 < _; omega) (.int .i64 p.1)) hM (p := ⟨w.heap.size + 1, 1, none⟩) (by show w.heap.size + 1 < _; omega) (.int .i64 p.2.1)) hM (p := ⟨w.heap.size + 1, 2, none⟩) (by show w.heap.size + 1 < _; omega) (.int .i64 p.2.2.1)) hM (p := ⟨w.heap.size + 1, 3, none⟩) (by show w.heap.size + 1 < _; omega) (.slice A p.2.2.2.length c)
  obtain ⟨Fx, hX, rfl⟩ := makeOPiece (p := p) i0 i1 i2 u
  refine bodyPost_ret (v := .agg #[.int .i64 p.1, .int .i64 p.2.1, .int .i64 p.2.2.1, .slice A p.2.2.2.length c]) (by simp [results, Tryz.results117, go_sem, y0, y1, y2, y3]) rfl ⟨_, _, rfl, hX, hM.lower (by omega), ?_⟩
  exact bel_put (bel_put (bel_put (bel_put (bel_put hB1 (by simp) _) (by simp) _) (by simp) _) (by simp) _) (by simp) _

set_option maxHeartbeats 2000000 in
theorem i_eachPieceG {w : World} {n c : Nat} {A : Option Addr} {l : List DPiece} (F : Nat) (hE : ∀ (cs : Array Value) (w : World), Sem.run Tryz.prog (callFunc F #[Value.agg cs]) w = .ok (.enter F #[Value.agg cs]) w)
    (hF : ∀ (i : Nat) (a : DPiece) (w' : World) (cs : List Value), l[i]? = some a → Below w.heap.size w w' → tPiece.R w' w'.heap.size cs a → Calls Tryz.prog F #[.agg cs.toArray] w' fun e w2 => ∃ cs' Fa, e = .returned (.agg cs'.toArray) ∧ tPiece.O w2 cs' a Fa ∧ New w'.heap.size Fa ∧ Below w'.heap.size w' w2)
    (h : tPiece.row.R w w.heap.size [.slice A n c] l) (hn : n ≤ 1048576) :
    Calls Tryz.prog 116 #[.slice A n c, .func (.func F) #[] #[]] w fun e w' => ∃ A' c' F, e = .returned (.slice A' l.length c') ∧ GrowO tPiece 37 w' w.heap.size (.slice A' l.length c') l F ∧ Below w.heap.size w w' := by
  obtain ⟨i1, hj0, hj1, hj2, hj3⟩ := info_parts info_Piece
  obtain ⟨e0, _, _⟩ := rowR_len h
  have HL := Lib.hid e0
  have HF := Lib.hid hF
  have HE := Lib.hid hE
  clear e0 hF hE
  go_enter Tryz.func116, Tryz.ntmps116
  go_wp2_with fail
  go_loopw [5, 10] (fun v i wr => ∃ (j : Nat) (F : List Nat), j ≤ n ∧ i = .int .i64 j ∧ GrowO tPiece 37 wr w.heap.size v (l.take j) F ∧ Below w.heap.size w wr) (fun _ i _ => n - (RowKit.intOf i).toNat)
  case atStart => exact ⟨0, [], by omega, rfl, GrowO.nil, (belx)⟩
  case round =>
    obtain ⟨j, F, hj, rfl, hG, hB⟩ := hrel
    by_cases hlt : j < n
    · obtain ⟨a, b', off, es, hl2, rfl, hb, hes, hR⟩ := rowR_at (K := 4) h hlt rfl
      have HA := Lib.hid hl2
      have HT := Lib.hid (take_sn hl2)
      have HLN := Lib.hid (show (l.take j).length = j from by rw [List.length_take, HL.out]; omega)
      clear hl2
      have hRk := hR
      obtain ⟨aA3, an3, ac3, rfl, ai0, ai1, ai2, -, -, -, ar3⟩ := openPiece hR
      have e0 : wr.cell? ⟨b', off + j * 4, none⟩ = some (.int .i64 a.1) := cell_at hB hb (hes 0 (by omega))
      have e1 : wr.cell? ⟨b', off + j * 4 + 1, none⟩ = some (.int .i64 a.2.1) := cell_at hB hb (hes 1 (by omega))
      have e2 : wr.cell? ⟨b', off + j * 4 + 2, none⟩ = some (.int .i64 a.2.2.1) := cell_at hB hb (hes 2 (by omega))
      have e3 : wr.cell? ⟨b', off + j * 4 + 3, none⟩ = some (.slice aA3 an3 ac3) := cell_at hB hb (hes 3 (by omega))
      clear hes hR
      have zB := hB.size
      have hOwn := fun b hb => (GrowO.row hG).choose_spec.1.lt b hb
      have hlt2 := hG.lt
      go_wp2_with fail
      rw [HE.out, Oper.upon_enter]
      refine (HF.out j a _ _ HA.out ?hB (tPiece.reach hRk ?hB2)).mono ?_
      case hB => exact bel_trans (a := w) hB (belx)
      case hB2 => exact bel_trans (a := w) hB (belx)
      rintro e w1 ⟨cs1, Fd, rfl, hOd, hNd', hb1⟩
      have hNd : New (wr.heap.size + 1) Fd := hNd'.lower (by simp)
      have hs1 : Below wr.heap.size wr w1 := bel_trans (belx) hb1
      have hOk := hOd
      obtain ⟨oA3, oc3, oF3, rfl, -, -, -, -, -, -, -⟩ := openOPiece hOd
      clear hNd' hOd
      go_wp2_with (at_builtin; have hBx : Below wr.heap.size wr (w1.alloc (.cells [.int .i64 a.1, .int .i64 a.2.1, .int .i64 a.2.2.1, .slice oA3 a.2.2.2.length oc3].toArray 37)) := bel_alloc hs1 _; obtain ⟨xs, hrow, hpush⟩ := (hG.below hBx).row; have tz : (Value.agg #[Value.int .i64 0, Value.int .i64 0, Value.int .i64 0, Value.slice none 0 0]).cells.size = 4 := (by first | rfl | (simp [Value.cells]; done)); have t0 : ∀ u ∈ ([.int .i64 a.1, .int .i64 a.2.1, .int .i64 a.2.2.1, .slice oA3 a.2.2.2.length oc3] : List Value), u.oneCell' = true := (by intro u hu; simp only [List.mem_cons, List.not_mem_nil, or_false] at hu; rcases hu with rfl | rfl | rfl | rfl <;> rfl); have t1 : (l.take j).length + 1 ≤ maxLen := (by simp only [maxLen]; have := HLN.out; omega); have t2 : ((l.take j).length + 1) * 48 ≤ 140737488355328 := (by have := HLN.out; omega); have t3 := hBx.size; have hS2 : Src (w1.alloc (.cells [.int .i64 a.1, .int .i64 a.2.1, .int .i64 a.2.2.1, .slice oA3 a.2.2.2.length oc3].toArray 37)) 4 (some ⟨w1.heap.size, 0, none⟩) 1 [.int .i64 a.1, .int .i64 a.2.1, .int .i64 a.2.2.1, .slice oA3 a.2.2.2.length oc3] := Src.of_box w1 37 [.int .i64 a.1, .int .i64 a.2.1, .int .i64 a.2.2.1, .slice oA3 a.2.2.2.length oc3] (K := 4) rfl; refine wpList_app _ rfl (.tmp 14) (.tmp 18) _ rfl w.heap.size 37 i1 _ 4 48 Tryz.underlying51 hj0 hj1 hj2 hj3 tz (by omega) u5 _ xs rfl hrow _ 1 1 [.int .i64 a.1, .int .i64 a.2.1, .int .i64 a.2.2.1, .slice oA3 a.2.2.2.length oc3] rfl hS2 t0 t1 t2 (by omega) ?_; intro v2 w2 hown2 hgr2 hat2; have hOel : tPiece.O (w1.alloc (.cells [.int .i64 a.1, .int .i64 a.2.1, .int .i64 a.2.2.1, .slice oA3 a.2.2.2.length oc3].toArray 37)) [.int .i64 a.1, .int .i64 a.2.1, .int .i64 a.2.2.1, .slice oA3 a.2.2.2.length oc3] a Fd := Ty.below (t := tPiece) hOk (belx); have hNel : New w.heap.size Fd := hNd.lower (by omega); have hdis : ∀ f ∈ Fd, f ∉ F := (fun f h1 h2 => by have := hNd.2 _ h1; have := hlt2 f h2; omega); have hod : ∀ b, u5.ownBlock = some b → b ∉ Fd := (fun b hb hx => by have := (hOwn b hb).2; have := hNd.2 _ hx; omega); have hfin := hpush w2 v2 a _ Fd hOel hNel hdis hod hown2 hgr2 hat2; have hBf : Below w.heap.size w w2 := Below.grown (w := (w1.alloc (.cells [.int .i64 a.1, .int .i64 a.2.1, .int .i64 a.2.2.1, .slice oA3 a.2.2.2.length oc3].toArray 37))) (bel_trans hB hBx) hgr2 (by have := hBx.size; omega) (fun b hb => (hOwn b hb).1))
      go_roundw
      case rel => exact ⟨j + 1, _, by omega, by go_num, by rw [HT.out]; exact hfin, hBf⟩
      case measure => simp [RowKit.intOf]; omega
    · obtain rfl : n = j := by omega
      have HA := Lib.hid (show l.take n = l from List.take_of_length_le (Nat.le_of_eq HL.out))
      rw [HA.out] at hG
      obtain ⟨A3, c3, rfl⟩ := hG.shape
      go_wp2
      go_ret
      exact ⟨A3, c3, F, rfl, hG, hB⟩
theorem i_eachPieceC {w : World} {n c : Nat} {A : Option Addr} {l : List DPiece} (F : Nat) (hE : ∀ (cs : Array Value) (w : World), Sem.run Tryz.prog (callFunc F #[Value.agg cs]) w = .ok (.enter F #[Value.agg cs]) w)
    (hF : ∀ (i : Nat) (a : DPiece) (w' : World) (cs : List Value), l[i]? = some a → Below w.heap.size w w' → tPiece.R w' w'.heap.size cs a → Calls Tryz.prog F #[.agg cs.toArray] w' fun e w2 => ∃ cs' Fa, e = .returned (.agg cs'.toArray) ∧ tPiece.O w2 cs' a Fa ∧ New w'.heap.size Fa ∧ Below w'.heap.size w' w2)
    (h : tPiece.row.R w w.heap.size [.slice A n c] l) (hn : n ≤ 1048576) :
    Calls Tryz.prog 116 #[.slice A n c, .func (.func F) #[] #[]] w fun e w' => ∃ A' c' F, e = .returned (.slice A' l.length c') ∧ tPiece.row.O w' [.slice A' l.length c'] l F ∧ New w.heap.size F ∧ Below w.heap.size w w' :=
  (i_eachPieceG F hE hF h hn).mono fun e w' ⟨A', c', F', he, hG, hB⟩ => by
    obtain ⟨A3, c3, F3, e3, hO3, hN3⟩ := hG.done
    injection e3 with e31 e32 e33
    subst e31 e33
    exact ⟨_, _, F3, he, hO3, hN3, hB⟩







end Go.Proofs.YtaabmaoldhoinaaGreat
namespace Go.Proofs.YtaabmaoldhoinaaGreat
set_option maxRecDepth 100000
set_option linter.unusedVariables false
set_option linter.unusedSimpArgs false
open Go.ChangeShapes Go.WideShapes Go.ChangeAt Go.RowKit
open Fld
set_option maxHeartbeats 2000000 in
theorem i_WholeCopy {w : World} {cs : List Value} {p : DWhole} (h : tWhole.R w w.heap.size cs p) (hz : szWhole p ≤ 1048576) :
    Calls Tryz.prog 94 #[.agg cs.toArray] w fun e w' => ∃ cs' F, e = .returned (.agg cs'.toArray) ∧ tWhole.O w' cs' p F ∧ New w.heap.size F ∧ Below w.heap.size w w' := by
  obtain ⟨A3, n3, c3, rfl, i0, i1, i2, -, -, -, r3⟩ := openWhole h
  have hn : n3 ≤ 1048576 := by have := rsz_le (s := szPiece) p.2.2.2; have := (rowR_len r3).1; unfold szWhole at hz; omega
  have HSZ := Lib.hid (show ∀ (i : Nat) (a : DPiece), (p.2.2.2)[i]? = some a → szPiece a ≤ 1048576 from fun i a ha => by have := rsz_step (s := szPiece) ha; unfold szWhole at hz; omega)
  go_enter Tryz.func94, Tryz.ntmps94
  go_wp2_with fail
  refine (i_eachPieceC 117 (fun _ _ => rfl) (fun i a w' cs ha hB hR => i_PieceCopy hR (HSZ.out i a ha)) (tPiece.row.reach r3 ?hB) hn).mono ?_
  case hB => exact (belx)
  rintro e w1 ⟨A, c, F, rfl, hO3, hN, hb1⟩
  have z1 : w.heap.size + 2 ≤ w1.heap.size := by have h : (World.alloc (World.alloc w _) _).heap.size ≤ w1.heap.size := hb1.size; simpa using h
  have P1 : Box w1 w.heap.size 53 #[.int .i64 p.1, .int .i64 p.2.1, .int .i64 p.2.2.1, .slice A3 n3 c3] := Box.below ((Box.new w _ _).alloc _) hb1 (by simp; omega)
  have R1 : Box w1 (w.heap.size + 1) 53 #[.int .i64 0, .int .i64 0, .int .i64 0, .slice none 0 0] := Box.below (by simpa using Box.new (w.alloc _) 53 #[.int .i64 0, .int .i64 0, .int .i64 0, .slice none 0 0]) hb1 (by simp)
  have hM : New (w.heap.size + 2) F := hN.lower (by simp)
  have hB1 : Below w.heap.size w w1 := bel_trans (belx) hb1
  have p0 := P1.cell 0
  have x0 := R1.cell 0
  have g0 := R1.frozen 0
  have p1 := P1.cell 1
  have x1 := R1.cell 1
  have g1 := R1.frozen 1
  have p2 := P1.cell 2
  have x2 := R1.cell 2
  have g2 := R1.frozen 2
  have p3 := P1.cell 3
  have x3 := R1.cell 3
  have g3 := R1.frozen 3
  have f3 := P1.frozen 3
  go_wp2
  have RR := (((((R1.far (p := ⟨w.heap.size, 3, none⟩) (by simp) (.slice A p.2.2.2.length c)).put 0 (.int .i64 p.1)).put 1 (.int .i64 p.2.1)).put 2 (.int .i64 p.2.2.1)).put 3 (.slice A p.2.2.2.length c))
  have y0 := RR.cell 0
  have y1 := RR.cell 1
  have y2 := RR.cell 2
  have y3 := RR.cell 3
  have u := Ty.far (t := tPiece.row) (Ty.far (t := tPiece.row) (Ty.far (t := tPiece.row) (Ty.far (t := tPiece.row) (Ty.far (t := tPiece.row) hO3 hM (p := ⟨w.heap.size, 3, none⟩) (by show w.heap.size < _; omega) (.slice A p.2.2.2.length c)) hM (p := ⟨w.heap.size + 1, 0, none⟩) (by show w.heap.size + 1 < _; omega) (.int .i64 p.1)) hM (p := ⟨w.heap.size + 1, 1, none⟩) (by show w.heap.size + 1 < _; omega) (.int .i64 p.2.1)) hM (p := ⟨w.heap.size + 1, 2, none⟩) (by show w.heap.size + 1 < _; omega) (.int .i64 p.2.2.1)) hM (p := ⟨w.heap.size + 1, 3, none⟩) (by show w.heap.size + 1 < _; omega) (.slice A p.2.2.2.length c)
  obtain ⟨Fx, hX, rfl⟩ := makeOWhole (p := p) i0 i1 i2 u
  refine bodyPost_ret (v := .agg #[.int .i64 p.1, .int .i64 p.2.1, .int .i64 p.2.2.1, .slice A p.2.2.2.length c]) (by simp [results, Tryz.results94, go_sem, y0, y1, y2, y3]) rfl ⟨_, _, rfl, hX, hM.lower (by omega), ?_⟩
  exact bel_put (bel_put (bel_put (bel_put (bel_put hB1 (by simp) _) (by simp) _) (by simp) _) (by simp) _) (by simp) _



end Go.Proofs.YtaabmaoldhoinaaGreat
namespace Go.Proofs.YtaabmaoldhoinaaGreat
set_option maxRecDepth 100000
set_option linter.unusedVariables false
set_option linter.unusedSimpArgs false
open Go.ChangeShapes Go.WideShapes Go.ChangeAt Go.RowKit
open Fld
theorem GrowO.put {α : Type} {t : Ty α} {e : TypeId} {w : World} {base : Nat} {v : Value} {l : List α} {F : List Nat} (h : GrowO t e w base v l F) {p : Addr} (h1 : p.block < base) (u : Value) : GrowO t e (w.setCell p u) base v l F := by
  obtain ⟨⟨css, Fs, k1, k2, k3, rfl, k5⟩, k6, k7⟩ := h
  refine ⟨⟨css, Fs, k1.kept (row := some p.block) ⟨rfl, rfl, rfl, by simp [World.setCell], fun i hi hn => Below.heap_setCell w p u i (fun e => hn (by rw [e]))⟩ ?_, k2, k3, rfl, fun i a es Fi q1 q2 q3 => Ty.far3 (k5 i a es Fi q1 q2 q3) (fun hx => by have := k6.2 _ (mem_flat q3 hx); omega) u⟩, k6, k7⟩
  refine .inr fun e => ?_
  have := (k1.lt _ e).1
  omega
set_option maxHeartbeats 2000000 in
theorem s_WholeOwn {w : World} {cs : List Value} {p : DWhole} (h : tWhole.R w w.heap.size cs p) (hz : szWhole p ≤ 1048576) :
    Calls Tryz.prog 87 #[.agg cs.toArray] w fun e w' => ∃ cs' F, e = .returned (.agg cs'.toArray) ∧ tWhole.O w' cs' p F ∧ New w.heap.size F ∧ Below w.heap.size w w' := by
  obtain ⟨ib, hi0, hz0, hz1, hz2⟩ := info_parts info_cb
  obtain ⟨i3i, hj03, hj13, hj23, hj33⟩ := info_parts info_Piece
  obtain ⟨A3, n3, c3, rfl, i0, i1, i2, -, -, -, r3⟩ := openWhole h
  have hn3le : n3 ≤ 1048576 := by have := rsz_le (s := szPiece) (p.2.2.2); have := (rowR_len r3).1; unfold szWhole at hz; omega
  have HL3 := Lib.hid (rowR_len r3).1
  have HSZ3 := Lib.hid (show ∀ (i : Nat) (a : DPiece), (p.2.2.2)[i]? = some a → szPiece a ≤ 1048576 from fun i a ha => by have := rsz_step (s := szPiece) ha; unfold szWhole at hz; omega)
  go_enter Tryz.func87, Tryz.ntmps87
  have PS : Box (((w.alloc (.cells #[.int .i64 p.1, .int .i64 p.2.1, .int .i64 p.2.2.1, .slice A3 n3 c3] 53)).alloc (.cells #[.int .i64 0, .int .i64 0, .int .i64 0, .slice none 0 0] 53)).alloc (.cells #[.int .i64 p.1, .int .i64 p.2.1, .int .i64 p.2.2.1, .slice none 0 0] 53)) w.heap.size 53 #[.int .i64 p.1, .int .i64 p.2.1, .int .i64 p.2.2.1, .slice A3 n3 c3] := ((Box.new w _ _).alloc _).alloc _
  have RS : Box (((w.alloc (.cells #[.int .i64 p.1, .int .i64 p.2.1, .int .i64 p.2.2.1, .slice A3 n3 c3] 53)).alloc (.cells #[.int .i64 0, .int .i64 0, .int .i64 0, .slice none 0 0] 53)).alloc (.cells #[.int .i64 p.1, .int .i64 p.2.1, .int .i64 p.2.2.1, .slice none 0 0] 53)) (w.heap.size + 1) 53 #[.int .i64 0, .int .i64 0, .int .i64 0, .slice none 0 0] := Box.alloc (by simpa using Box.new (w.alloc (.cells #[.int .i64 p.1, .int .i64 p.2.1, .int .i64 p.2.2.1, .slice A3 n3 c3] 53)) 53 #[.int .i64 0, .int .i64 0, .int .i64 0, .slice none 0 0]) _
  have OS : Box (((w.alloc (.cells #[.int .i64 p.1, .int .i64 p.2.1, .int .i64 p.2.2.1, .slice A3 n3 c3] 53)).alloc (.cells #[.int .i64 0, .int .i64 0, .int .i64 0, .slice none 0 0] 53)).alloc (.cells #[.int .i64 p.1, .int .i64 p.2.1, .int .i64 p.2.2.1, .slice none 0 0] 53)) (w.heap.size + 1 + 1) 53 #[.int .i64 p.1, .int .i64 p.2.1, .int .i64 p.2.2.1, .slice none 0 0] := by simpa using Box.new ((w.alloc (.cells #[.int .i64 p.1, .int .i64 p.2.1, .int .i64 p.2.2.1, .slice A3 n3 c3] 53)).alloc (.cells #[.int .i64 0, .int .i64 0, .int .i64 0, .slice none 0 0] 53)) 53 #[.int .i64 p.1, .int .i64 p.2.1, .int .i64 p.2.2.1, .slice none 0 0]
  have hS : Below w.heap.size w (((w.alloc (.cells #[.int .i64 p.1, .int .i64 p.2.1, .int .i64 p.2.2.1, .slice A3 n3 c3] 53)).alloc (.cells #[.int .i64 0, .int .i64 0, .int .i64 0, .slice none 0 0] 53)).alloc (.cells #[.int .i64 p.1, .int .i64 p.2.1, .int .i64 p.2.2.1, .slice none 0 0] 53)) := (belx)
  have zS : (w.heap.size + 3) ≤ (((w.alloc (.cells #[.int .i64 p.1, .int .i64 p.2.1, .int .i64 p.2.2.1, .slice A3 n3 c3] 53)).alloc (.cells #[.int .i64 0, .int .i64 0, .int .i64 0, .slice none 0 0] 53)).alloc (.cells #[.int .i64 p.1, .int .i64 p.2.1, .int .i64 p.2.2.1, .slice none 0 0] 53)).heap.size := by simp
  have k3 : (((w.alloc (.cells #[.int .i64 p.1, .int .i64 p.2.1, .int .i64 p.2.2.1, .slice A3 n3 c3] 53)).alloc (.cells #[.int .i64 0, .int .i64 0, .int .i64 0, .slice none 0 0] 53)).alloc (.cells #[.int .i64 p.1, .int .i64 p.2.1, .int .i64 p.2.2.1, .slice none 0 0] 53)).cell? ⟨w.heap.size, 3, none⟩ = some (.slice A3 n3 c3) := PS.cell 3
  go_wp2_with fail
  go_loopw [4] (fun i wr => ∃ (j : Nat) (F : List Nat) (v : Value), j ≤ n3 ∧ i = .int .i64 j ∧ GrowO tPiece 37 wr (w.heap.size + 3) v ((p.2.2.2).take j) F ∧ Box wr w.heap.size 53 #[.int .i64 p.1, .int .i64 p.2.1, .int .i64 p.2.2.1, .slice A3 n3 c3] ∧ Box wr (w.heap.size + 1) 53 #[.int .i64 0, .int .i64 0, .int .i64 0, .slice none 0 0] ∧ Box wr (w.heap.size + 1 + 1) 53 #[.int .i64 p.1, .int .i64 p.2.1, .int .i64 p.2.2.1, v] ∧ Below w.heap.size w wr ∧ (w.heap.size + 3) ≤ wr.heap.size) (fun i _ => n3 - (RowKit.intOf i).toNat)
  case atStart => exact ⟨0, [], .slice none 0 0, by omega, rfl, GrowO.nil, PS, RS, OS, hS, zS⟩
  case round =>
    obtain ⟨j, F, v, hj, rfl, hG, P0, R0, O0, hB, zB⟩ := hrel
    clear k3 PS RS OS hS
    have k3 : wr.cell? ⟨w.heap.size, 3, none⟩ = some (.slice A3 n3 c3) := P0.cell 3
    by_cases hlt : j < n3
    · obtain ⟨a, b', off, es, hl2, rfl, hb, hes, hR⟩ := rowR_at (K := 4) r3 hlt rfl
      have HT := Lib.hid (take_sn hl2)
      have HLN := Lib.hid (show ((p.2.2.2).take j).length = j from by rw [List.length_take, HL3.out]; omega)
      have hsa : szPiece a ≤ 1048576 := HSZ3.out j a hl2
      clear hl2
      have hRk := hR
      obtain ⟨aA3, an3, ac3, rfl, ai0, ai1, ai2, -, -, -, ar3⟩ := openPiece hR
      have e0 : wr.cell? ⟨b', off + j * 4, none⟩ = some (.int .i64 a.1) := cell_at hB hb (hes 0 (by omega))
      have e1 : wr.cell? ⟨b', off + j * 4 + 1, none⟩ = some (.int .i64 a.2.1) := cell_at hB hb (hes 1 (by omega))
      have e2 : wr.cell? ⟨b', off + j * 4 + 2, none⟩ = some (.int .i64 a.2.2.1) := cell_at hB hb (hes 2 (by omega))
      have e3 : wr.cell? ⟨b', off + j * 4 + 3, none⟩ = some (.slice aA3 an3 ac3) := cell_at hB hb (hes 3 (by omega))
      clear hes hR
      have hOwn := fun b hb => (GrowO.row hG).choose_spec.1.lt b hb
      have hlt2 := hG.lt
      have hIr : Ints .u8 wr wr.heap.size aA3 an3 a.2.2.2 := reach (slR_ints ar3).1 hB
      have hE : ((wr.alloc (.cells #[.int .i64 a.1, .int .i64 a.2.1, .int .i64 a.2.2.1, .slice aA3 an3 ac3] 37)).alloc (.cells #[] 5)).ownsRow (wr.heap.size + 1) 5 1 (.slice (some ⟨wr.heap.size + 1, 0, none⟩) 0 0) 0 [] := by simpa using empty9 (wr.alloc (.cells #[.int .i64 a.1, .int .i64 a.2.1, .int .i64 a.2.2.1, .slice aA3 an3 ac3] 37)) 5
      have hSr : Src ((wr.alloc (.cells #[.int .i64 a.1, .int .i64 a.2.1, .int .i64 a.2.2.1, .slice aA3 an3 ac3] 37)).alloc (.cells #[] 5)) 1 aA3 an3 (a.2.2.2.map (Value.int .u8)) := Src.of_ints (reach hIr (belx))
      have hn2 : an3 ≤ 1048576 := by rw [← hIr.1]; unfold szPiece at hsa; (try unfold szCell at hsa); exact hsa
      have HIW := Lib.hid hIr.2.2
      clear ar3
      go_wp2_with (first
        | (at_builtin; refine wpList_app _ rfl (.tmp 25) (.tmp 27) _ rfl (wr.heap.size + 1) 5 ib _ 1 1 Tryz.underlying26 hi0 hz0 hz1 hz2 rfl (by omega) (.slice (some ⟨wr.heap.size + 1, 0, none⟩) 0 0) 0 [] rfl hE _ an3 ac3 (a.2.2.2.map (Value.int .u8)) rfl hSr (one_ints _ _) (by simp only [maxLen]; omega) (by omega) (by simp; done) ?_; intro v1 w1 hown hgr hat; obtain ⟨Ad, cd, Fd, rfl, hOd, hNd⟩ := own_slice (Own.of (n := 0 + an3) (by simpa using hown) HIW.out); have hs1 : Below wr.heap.size wr w1 := Below.grown (w := ((wr.alloc (.cells #[.int .i64 a.1, .int .i64 a.2.1, .int .i64 a.2.2.1, .slice aA3 an3 ac3] 37)).alloc (.cells #[] 5))) (belx) hgr (by first | (simp; done) | (simp; omega)) (fun b hb => by have e := Option.some.inj (show some (wr.heap.size + 1) = some b from hb); omega); have X1 : Box w1 wr.heap.size 37 #[.int .i64 a.1, .int .i64 a.2.1, .int .i64 a.2.2.1, .slice aA3 an3 ac3] := Box.grown (w := ((wr.alloc (.cells #[.int .i64 a.1, .int .i64 a.2.1, .int .i64 a.2.2.1, .slice aA3 an3 ac3] 37)).alloc (.cells #[] 5))) ((Box.new wr 37 #[.int .i64 a.1, .int .i64 a.2.1, .int .i64 a.2.2.1, .slice aA3 an3 ac3]).alloc _) hgr (fun e => by have e := Option.some.inj (show some wr.heap.size = some (wr.heap.size + 1) from e); omega); have P1 := Box.grown (w := ((wr.alloc (.cells #[.int .i64 a.1, .int .i64 a.2.1, .int .i64 a.2.2.1, .slice aA3 an3 ac3] 37)).alloc (.cells #[] 5))) ((P0.alloc _).alloc _) hgr (fun e => by have e := Option.some.inj (show some w.heap.size = some (wr.heap.size + 1) from e); omega); have R1 := Box.grown (w := ((wr.alloc (.cells #[.int .i64 a.1, .int .i64 a.2.1, .int .i64 a.2.2.1, .slice aA3 an3 ac3] 37)).alloc (.cells #[] 5))) ((R0.alloc _).alloc _) hgr (fun e => by have e := Option.some.inj (show some (w.heap.size + 1) = some (wr.heap.size + 1) from e); omega); have O1 := Box.grown (w := ((wr.alloc (.cells #[.int .i64 a.1, .int .i64 a.2.1, .int .i64 a.2.2.1, .slice aA3 an3 ac3] 37)).alloc (.cells #[] 5))) ((O0.alloc _).alloc _) hgr (fun e => by have e := Option.some.inj (show some (w.heap.size + 1 + 1) = some (wr.heap.size + 1) from e); omega); have x0 := X1.cell 0; have fx0 := X1.frozen 0; have x1 := X1.cell 1; have fx1 := X1.frozen 1; have x2 := X1.cell 2; have fx2 := X1.frozen 2; have x3 := X1.cell 3; have fx3 := X1.frozen 3; have Pb := P1.far (p := ⟨wr.heap.size, 3, none⟩) (by show ¬ w.heap.size = wr.heap.size; omega) (.slice Ad a.2.2.2.length cd); have Rb := R1.far (p := ⟨wr.heap.size, 3, none⟩) (by show ¬ (w.heap.size + 1) = wr.heap.size; omega) (.slice Ad a.2.2.2.length cd); have Ob := O1.far (p := ⟨wr.heap.size, 3, none⟩) (by show ¬ (w.heap.size + 1 + 1) = wr.heap.size; omega) (.slice Ad a.2.2.2.length cd); have ob3 : (w1.setCell ⟨wr.heap.size, 3, none⟩ (.slice Ad a.2.2.2.length cd)).cell? ⟨(w.heap.size + 1 + 1), 3, none⟩ = some v := Ob.cell 3; have zw1 := hs1.size)
        | (at_builtin; have hBx : Below wr.heap.size wr ((w1.setCell ⟨wr.heap.size, 3, none⟩ (.slice Ad a.2.2.2.length cd)).alloc (.cells [.int .i64 a.1, .int .i64 a.2.1, .int .i64 a.2.2.1, .slice Ad a.2.2.2.length cd].toArray 37)) := bel_alloc (bel_put hs1 (Nat.le_refl _) _) _; obtain ⟨xs, hrow, hpush⟩ := (hG.below hBx).row; have hsz : (w1.setCell ⟨wr.heap.size, 3, none⟩ (.slice Ad a.2.2.2.length cd)).heap.size = w1.heap.size := (by simp [World.setCell]); have hS2 : Src ((w1.setCell ⟨wr.heap.size, 3, none⟩ (.slice Ad a.2.2.2.length cd)).alloc (.cells [.int .i64 a.1, .int .i64 a.2.1, .int .i64 a.2.2.1, .slice Ad a.2.2.2.length cd].toArray 37)) 4 (some ⟨w1.heap.size, 0, none⟩) 1 [.int .i64 a.1, .int .i64 a.2.1, .int .i64 a.2.2.1, .slice Ad a.2.2.2.length cd] := (by have h := Src.of_box (w1.setCell ⟨wr.heap.size, 3, none⟩ (.slice Ad a.2.2.2.length cd)) 37 [.int .i64 a.1, .int .i64 a.2.1, .int .i64 a.2.2.1, .slice Ad a.2.2.2.length cd] (K := 4) rfl; rw [hsz] at h; exact h); have tz : (Value.agg #[Value.int .i64 0, Value.int .i64 0, Value.int .i64 0, Value.slice none 0 0]).cells.size = 4 := (by first | rfl | (simp [Value.cells]; done)); have t0 : ∀ u ∈ ([.int .i64 a.1, .int .i64 a.2.1, .int .i64 a.2.2.1, .slice Ad a.2.2.2.length cd] : List Value), u.oneCell' = true := (by intro u hu; simp only [List.mem_cons, List.not_mem_nil, or_false] at hu; rcases hu with rfl | rfl | rfl | rfl <;> rfl); have t1 : ((p.2.2.2).take j).length + 1 ≤ maxLen := (by simp only [maxLen]; have := HLN.out; omega); have t2 : (((p.2.2.2).take j).length + 1) * 48 ≤ 140737488355328 := (by have := HLN.out; omega); have t3 := hBx.size; refine wpList_app _ rfl (.tmp 31) (.tmp 33) _ rfl (w.heap.size + 3) 37 i3i _ 4 48 Tryz.underlying51 hj03 hj13 hj23 hj33 tz (by omega) v _ xs rfl hrow _ 1 1 [.int .i64 a.1, .int .i64 a.2.1, .int .i64 a.2.2.1, .slice Ad a.2.2.2.length cd] rfl hS2 t0 t1 t2 (by omega) ?_; intro v2 w2 hown2 hgr2 hat2; have hOx : tBy.O ((w1.setCell ⟨wr.heap.size, 3, none⟩ (.slice Ad a.2.2.2.length cd)).alloc (.cells [.int .i64 a.1, .int .i64 a.2.1, .int .i64 a.2.2.1, .slice Ad a.2.2.2.length cd].toArray 37)) [.slice Ad a.2.2.2.length cd] a.2.2.2 Fd := Ty.below (t := tBy) (Ty.far3 (t := tBy) hOd (p := ⟨wr.heap.size, 3, none⟩) (fun hx => absurd (hNd.2 wr.heap.size hx) (by omega)) _) (belx); obtain ⟨Fx, hOel, ex⟩ := makeOPiece (p := a) ai0 ai1 ai2 hOx; subst ex; have hNel : New (w.heap.size + 3) Fx := hNd.lower (by omega); have hdis : ∀ f ∈ Fx, f ∉ F := (fun f h1 h2 => by have := hNd.2 _ h1; have := hlt2 f h2; omega); have hod : ∀ b, v.ownBlock = some b → b ∉ Fx := (fun b hb hx => by have := (hOwn b hb).2; have := hNd.2 _ hx; omega); have hfin := hpush w2 v2 a _ Fx hOel hNel hdis hod hown2 hgr2 hat2; obtain ⟨A9, n9, c9, rfl, -⟩ := hfin.shapeN; have P2 := Box.grown (w := ((w1.setCell ⟨wr.heap.size, 3, none⟩ (.slice Ad a.2.2.2.length cd)).alloc (.cells [.int .i64 a.1, .int .i64 a.2.1, .int .i64 a.2.2.1, .slice Ad a.2.2.2.length cd].toArray 37))) (Pb.alloc _) hgr2 (fun e => by have := (hOwn w.heap.size e.symm).1; omega); have R2 := Box.grown (w := ((w1.setCell ⟨wr.heap.size, 3, none⟩ (.slice Ad a.2.2.2.length cd)).alloc (.cells [.int .i64 a.1, .int .i64 a.2.1, .int .i64 a.2.2.1, .slice Ad a.2.2.2.length cd].toArray 37))) (Rb.alloc _) hgr2 (fun e => by have := (hOwn (w.heap.size + 1) e.symm).1; omega); have O2 := Box.grown (w := ((w1.setCell ⟨wr.heap.size, 3, none⟩ (.slice Ad a.2.2.2.length cd)).alloc (.cells [.int .i64 a.1, .int .i64 a.2.1, .int .i64 a.2.2.1, .slice Ad a.2.2.2.length cd].toArray 37))) (Ob.alloc _) hgr2 (fun e => by have := (hOwn (w.heap.size + 1 + 1) e.symm).1; omega); have hBf : Below w.heap.size w w2 := Below.grown (w := ((w1.setCell ⟨wr.heap.size, 3, none⟩ (.slice Ad a.2.2.2.length cd)).alloc (.cells [.int .i64 a.1, .int .i64 a.2.1, .int .i64 a.2.2.1, .slice Ad a.2.2.2.length cd].toArray 37))) (bel_trans hB hBx) hgr2 (by have := hBx.size; omega) (fun b hb => by have := (hOwn b hb).1; omega); have z2 := hgr2.size; have o2c := O2.cell 3; have o2f := O2.frozen 3; have GF := hfin.put (p := ⟨(w.heap.size + 1 + 1), 3, none⟩) (by show (w.heap.size + 1 + 1) < (w.heap.size + 3); omega) (.slice A9 n9 c9); have PF := P2.far (p := ⟨(w.heap.size + 1 + 1), 3, none⟩) (by show ¬ w.heap.size = (w.heap.size + 1 + 1); omega) (.slice A9 n9 c9); have RF := R2.far (p := ⟨(w.heap.size + 1 + 1), 3, none⟩) (by show ¬ w.heap.size + 1 = (w.heap.size + 1 + 1); omega) (.slice A9 n9 c9); have OF : Box (w2.setCell ⟨(w.heap.size + 1 + 1), 3, none⟩ (.slice A9 n9 c9)) (w.heap.size + 1 + 1) 53 #[.int .i64 p.1, .int .i64 p.2.1, .int .i64 p.2.2.1, .slice A9 n9 c9] := O2.put 3 (.slice A9 n9 c9); have BF : Below w.heap.size w (w2.setCell ⟨(w.heap.size + 1 + 1), 3, none⟩ (.slice A9 n9 c9)) := bel_put hBf (by show w.heap.size ≤ (w.heap.size + 1 + 1); omega) _))
      go_roundw
      case rel => exact ⟨j + 1, _, _, by omega, by go_num, by rw [HT.out]; exact GF, PF, RF, OF, BF, by have h := z2; simp [World.setCell] at h ⊢; omega⟩
      case measure => simp [RowKit.intOf]; omega
    · obtain rfl : n3 = j := by omega
      have HA := Lib.hid (show (p.2.2.2).take n3 = p.2.2.2 from List.take_of_length_le (Nat.le_of_eq HL3.out))
      rw [HA.out] at hG
      obtain ⟨D3, g3, F3, rfl, hO3, hN3⟩ := hG.done
      have oc0 := O0.cell 0
      have oc1 := O0.cell 1
      have oc2 := O0.cell 2
      have oc3 := O0.cell 3
      have rc0 := R0.cell 0
      have rf0 := R0.frozen 0
      have rc1 := R0.cell 1
      have rf1 := R0.frozen 1
      have rc2 := R0.cell 2
      have rf2 := R0.frozen 2
      have rc3 := R0.cell 3
      have rf3 := R0.frozen 3
      go_wp2
      have hM3 : New (w.heap.size + 2) F3 := hN3.lower (by omega)
      have hA := hM3
      have RR := ((((R0.put 0 (.int .i64 p.1)).put 1 (.int .i64 p.2.1)).put 2 (.int .i64 p.2.2.1)).put 3 (.slice D3 (p.2.2.2).length g3))
      have y0 := RR.cell 0
      have y1 := RR.cell 1
      have y2 := RR.cell 2
      have y3 := RR.cell 3
      have u_hO3 := (Ty.far (t := tPiece.row) (Ty.far (t := tPiece.row) (Ty.far (t := tPiece.row) (Ty.far (t := tPiece.row) hO3 hM3 (p := ⟨w.heap.size + 1, 0, none⟩) (by show w.heap.size + 1 < _; omega) (.int .i64 p.1)) hM3 (p := ⟨w.heap.size + 1, 1, none⟩) (by show w.heap.size + 1 < _; omega) (.int .i64 p.2.1)) hM3 (p := ⟨w.heap.size + 1, 2, none⟩) (by show w.heap.size + 1 < _; omega) (.int .i64 p.2.2.1)) hM3 (p := ⟨w.heap.size + 1, 3, none⟩) (by show w.heap.size + 1 < _; omega) (.slice D3 (p.2.2.2).length g3))
      obtain ⟨Fx, hX, rfl⟩ := makeOWhole (p := p) i0 i1 i2 u_hO3
      refine bodyPost_ret (v := .agg #[.int .i64 p.1, .int .i64 p.2.1, .int .i64 p.2.2.1, .slice D3 (p.2.2.2).length g3]) (by simp [results, Tryz.results87, go_sem, y0, y1, y2, y3]) rfl ⟨_, _, rfl, hX, hA.lower (by omega), ?_⟩
      exact (bel_put (bel_put (bel_put (bel_put hB (by simp) _) (by simp) _) (by simp) _) (by simp) _)
end Go.Proofs.YtaabmaoldhoinaaGreat
