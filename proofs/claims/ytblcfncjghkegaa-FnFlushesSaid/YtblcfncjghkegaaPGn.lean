/-
  PAdm7: texts joined.
-/
import Derived.Test.YtblcfncjghkegaaPGl
namespace Go.Proofs.Ytblcfncjghkegaa
set_option maxRecDepth 100000
set_option linter.unusedVariables false
set_option linter.unusedSimpArgs false
open Go.ChangeShapes Go.WideShapes Go.ChangeAt Go.RowKit
open Fld
theorem rsz_HdOk {l : List DHeld} (h : ∀ x ∈ l, HdOk x) : rsz szHeld l = l.length * 81 := by
  induction l with
  | nil => rfl
  | cons a l ih =>
    have h1 := (h a (by simp)).2.2
    have h2 := ih (fun x hx => h x (by simp [hx]))
    unfold rsz at *
    simp only [rsum, List.length_cons, szHeld, szCell] at *
    omega
theorem admP_le {p : DPool} {h : DHeld} {tag : Int} (hA : AdOk p h tag) : szPool (admP p h tag) ≤ 2000 := by
  have h1 := rsz_HdOk hA.1.2.1
  have h2 := hA.1.1.1
  have h3 := hA.1.1.2
  have h4 := hA.2.1.2.2
  unfold admP
  split
  · unfold szPool; omega
  · simp only [szPool, rsz_app, List.length_append]
    simp only [rsz, rsum, List.length_cons, List.length_nil, szHeld, szCell] at *
    omega
theorem i_copiedH5 {w : World} {B n c : Nat} {A : Option Addr} {l : List DHeld} (h : tHeld.row.R w B [.slice A n c] l) (hB : B ≤ w.heap.size) (hn : n ≤ 1048576) :
    Calls Try.prog 42 #[.slice A n c] w fun e w' => ∃ v, e = .returned v ∧ GrowR tHeld 30 w' w.heap.size B v l ∧ Below w.heap.size w w' := by
  obtain ⟨i1, hj0, hj1, hj2, hj3⟩ := info_parts info_Held
  have tz : (Value.agg #[Value.int .i64 0, Value.int .i64 0, Value.slice none 0 0]).cells.size = 3 := by first | rfl | (simp [Value.cells]; done)
  have t1 : ([] : List DHeld).length + n ≤ maxLen := by simp only [maxLen, List.length_nil]; omega
  have t2 : (([] : List DHeld).length + n) * 40 ≤ 140737488355328 := by simp only [List.length_nil]; omega
  have hG : GrowR tHeld 30 w w.heap.size B (.slice none 0 0) [] := GrowR.nil
  go_enter Try.func42, Try.ntmps42
  go_wp2_with (at_builtin; refine GrowR.pushRow rfl _ (.tmp 3) _ rfl i1 _ 3 40 Try.underlying23 hj0 hj1 hj2 hj3 tz (by omega) rfl (by rfl) hG (by rfl) h one_cells_Held hB (Nat.le_refl _) t1 t2 ?_; intro v2 w2 hG2 hgr2)
  go_ret
  exact ⟨v2, rfl, hG2, Below.grown (Below.refl _ _) hgr2 (Nat.le_refl _) fun b hb => by simp [Value.ownBlock] at hb⟩
theorem i_with5 {w : World} {n c : Nat} {A : Option Addr} {l : List Int} {tag : Int} (hl : Ints .i64 w w.heap.size A n l) (hn : n ≤ 1048576) (hw : (Lit.int .i64 tag).wf = true) :
    Calls Try.prog 88 #[.slice A n c, .int .i64 tag] w fun e w' => ∃ v, e = .returned v ∧ Own .i64 3 w' w.heap.size v (l ++ [tag]) ∧ Below w.heap.size w w' := by
  obtain ⟨i0, hi0, hz0, hz1, hz2⟩ := info_parts info_ci
  have hl1 := hl.1
  go_enter Try.func88, Try.ntmps88
  go_wp2_with fail
  refine (i_copiedI5 hl hn).mono ?_
  rintro e w1 ⟨v1, rfl, hO1, hb1⟩
  have hOwn1 := fun b hb => Own.block hO1 (b := b) hb
  have t1 : l.length + 1 ≤ maxLen := by simp only [maxLen]; omega
  have t2 : (l.length + 1) * 8 ≤ 140737488355328 := by omega
  have t3 := hO1.alloc (.cells #[.int .i64 tag] 3)
  have t4 := Ints.boxed (Box.new w1 3 #[.int .i64 tag]) hw
  have t5 : w.heap.size ≤ (w1.alloc (.cells #[.int .i64 tag] 3)).heap.size := by have := hb1.size; simp; omega
  clear hl1
  go_wp2_with (at_builtin; refine Own.pushRow rfl (.tmp 6) (.tmp 8) _ rfl i0 _ 8 Try.underlying24 hi0 hz0 hz1 hz2 rfl (by rfl) t3 (by rfl) t4 t5 t1 t2 ?_; intro v2 w2 hO2 hgr2 hat2)
  go_ret
  exact ⟨v2, rfl, hO2, Below.grown (w := w1.alloc (.cells #[.int .i64 tag] 3)) (bel_alloc hb1 _) hgr2 t5 (fun b hb => (hOwn1 b hb).1)⟩
set_option maxHeartbeats 2000000 in
theorem i_rec_f {w : World} {A0 A1 : Option Addr} {n0 c0 n1 c1 : Nat} {l1 : List Int} {tag : Int} (h1 : tIs.R w w.heap.size [.slice A1 n1 c1] l1) (hn : n1 ≤ 60) (hr : ¬ recN l1 tag = 0) :
    Calls Try.prog 41 #[.agg #[.slice A0 n0 c0, .slice A1 n1 c1], .int .i64 tag] w fun e w' => e = .returned (.tuple #[.agg #[.slice A0 n0 c0, .slice A1 n1 c1], .int .i64 (recN l1 tag)]) ∧ Below w.heap.size w w' := by
  have hI1 := (slR_ints h1).1
  have hl := hI1.1
  by_cases hm : tag ∈ l1
  · have HM := Lib.hid (decide_eq_true hm)
    rw [recN_seen hm]
    clear hm hr hl
    go_enter Try.func41, Try.ntmps41
    go_wp2_with fail
    refine (i_tags _ _ _ _ _ _ _).mono ?_
    rintro e w1 ⟨rfl, hb1⟩
    have X1 : Box w1 w.heap.size 26 #[.slice A0 n0 c0, .slice A1 n1 c1] := Box.below ((Box.new w _ _).alloc _) hb1 (by simp; omega)
    have Y1 : Box w1 (w.heap.size + 1) 26 #[.slice none 0 0, .slice none 0 0] := Box.below (by simpa using Box.new (w.alloc (.cells #[.slice A0 n0 c0, .slice A1 n1 c1] 26)) 26 #[.slice none 0 0, .slice none 0 0]) hb1 (by first | (simp; done) | (simp; omega))
    have x0 := X1.cell 0; have x1 := X1.cell 1; have y0 := Y1.cell 0; have y1 := Y1.cell 1; have y2 := Y1.frozen 0; have y3 := Y1.frozen 1
    have hB1 : Below w.heap.size w w1 := bel_trans (belx) hb1
    have z1 : w.heap.size + 2 ≤ w1.heap.size := by have := hb1.size; simpa using this
    clear hb1
    go_wp2_with fail
    refine (i_has tag (reach hI1 hB1) (by omega)).mono ?_
    rintro e w' ⟨rfl, rfl⟩
    rw [HM.out]
    go_wp2
    have RR := (Box.put Y1 0 (.slice A0 n0 c0)).put 1 (.slice A1 n1 c1)
    have e0 := RR.cell 0; have e1 := RR.cell 1
    refine bodyPost_ret (v := .tuple #[.agg #[.slice A0 n0 c0, .slice A1 n1 c1], .int .i64 (-1)]) (by simp [results, Try.results41, go_sem, e0, e1]) rfl ⟨rfl, ?_⟩
    exact bel_put (bel_put (hB1) (by simp) _) (by simp) _
  have HM := Lib.hid (decide_eq_false hm)
  by_cases h6 : n1 = 60
  · rw [recN_full hm (by omega)]
    have hq : ((n1 : Int) == 60) = true := by simp; omega
    clear hm hr h6
    go_enter Try.func41, Try.ntmps41
    go_wp2_with fail
    refine (i_tags _ _ _ _ _ _ _).mono ?_
    rintro e w1 ⟨rfl, hb1⟩
    have X1 : Box w1 w.heap.size 26 #[.slice A0 n0 c0, .slice A1 n1 c1] := Box.below ((Box.new w _ _).alloc _) hb1 (by simp; omega)
    have Y1 : Box w1 (w.heap.size + 1) 26 #[.slice none 0 0, .slice none 0 0] := Box.below (by simpa using Box.new (w.alloc (.cells #[.slice A0 n0 c0, .slice A1 n1 c1] 26)) 26 #[.slice none 0 0, .slice none 0 0]) hb1 (by first | (simp; done) | (simp; omega))
    have x0 := X1.cell 0; have x1 := X1.cell 1; have y0 := Y1.cell 0; have y1 := Y1.cell 1; have y2 := Y1.frozen 0; have y3 := Y1.frozen 1
    have hB1 : Below w.heap.size w w1 := bel_trans (belx) hb1
    have z1 : w.heap.size + 2 ≤ w1.heap.size := by have := hb1.size; simpa using this
    clear hb1
    go_wp2_with fail
    refine (i_has tag (reach hI1 hB1) (by omega)).mono ?_
    rintro e w' ⟨rfl, rfl⟩
    rw [HM.out]
    go_wp2
    have RR := (Box.put Y1 0 (.slice A0 n0 c0)).put 1 (.slice A1 n1 c1)
    have e0 := RR.cell 0; have e1 := RR.cell 1
    refine bodyPost_ret (v := .tuple #[.agg #[.slice A0 n0 c0, .slice A1 n1 c1], .int .i64 (-2)]) (by simp [results, Try.results41, go_sem, e0, e1]) rfl ⟨rfl, ?_⟩
    exact bel_put (bel_put (hB1) (by simp) _) (by simp) _
  · exact absurd (recN_ok hm (by omega : ¬ l1.length = 60)) hr
set_option maxHeartbeats 2000000 in
theorem i_rec_t {w : World} {A0 A1 : Option Addr} {n0 c0 n1 c1 : Nat} {l1 : List Int} {tag : Int} (h1 : tIs.R w w.heap.size [.slice A1 n1 c1] l1) (hn : n1 ≤ 60) (hw : (Lit.int .i64 tag).wf = true) (hr : recN l1 tag = 0) :
    Calls Try.prog 41 #[.agg #[.slice A0 n0 c0, .slice A1 n1 c1], .int .i64 tag] w fun e w' => ∃ A n c F, e = .returned (.tuple #[.agg #[.slice A0 n0 c0, .slice A n c], .int .i64 0]) ∧ tIs.O w' [.slice A n c] (l1 ++ [tag]) F ∧ New w.heap.size F ∧ Below w.heap.size w w' := by
  have hI1 := (slR_ints h1).1
  have hl := hI1.1
  have hm : ¬ tag ∈ l1 := fun x => by rw [recN_seen x] at hr; omega
  have h6 : ¬ n1 = 60 := fun x => by rw [recN_full hm (by omega)] at hr; omega
  have HM := Lib.hid (decide_eq_false hm)
  have hq : ((n1 : Int) == 60) = false := by simp; omega
  clear hm hr hl
  go_enter Try.func41, Try.ntmps41
  go_wp2_with fail
  refine (i_tags _ _ _ _ _ _ _).mono ?_
  rintro e w1 ⟨rfl, hb1⟩
  have X1 : Box w1 w.heap.size 26 #[.slice A0 n0 c0, .slice A1 n1 c1] := Box.below ((Box.new w _ _).alloc _) hb1 (by simp; omega)
  have Y1 : Box w1 (w.heap.size + 1) 26 #[.slice none 0 0, .slice none 0 0] := Box.below (by simpa using Box.new (w.alloc (.cells #[.slice A0 n0 c0, .slice A1 n1 c1] 26)) 26 #[.slice none 0 0, .slice none 0 0]) hb1 (by first | (simp; done) | (simp; omega))
  have x0 := X1.cell 0; have x1 := X1.cell 1; have y0 := Y1.cell 0; have y1 := Y1.cell 1; have y2 := Y1.frozen 0; have y3 := Y1.frozen 1
  have hB1 : Below w.heap.size w w1 := bel_trans (belx) hb1
  have z1 : w.heap.size + 2 ≤ w1.heap.size := by have := hb1.size; simpa using this
  clear hb1
  go_wp2_with fail
  refine (i_has tag (reach hI1 hB1) (by omega)).mono ?_
  rintro e w' ⟨rfl, rfl⟩
  rw [HM.out]
  go_wp2_with fail
  refine (i_tags _ _ _ _ _ _ _).mono ?_
  rintro e w2 ⟨rfl, hb2⟩
  have hB2 : Below w.heap.size w w2 := bel_trans hB1 hb2
  have X2 := X1.below hb2 X1.size
  have Y2 := Y1.below hb2 Y1.size
  go_wp2_with fail
  refine (i_with5 (reach hI1 hB2) (by omega) hw).mono ?_
  rintro e w3 ⟨v3, rfl, hO3, hb3⟩
  obtain ⟨A9, c9, F9, hv9, hO9, hN9⟩ := own_slice hO3
  obtain ⟨n9, hn9⟩ : ∃ m, (l1 ++ [tag]).length = m := ⟨_, rfl⟩
  rw [hn9] at hv9 hO9
  subst hv9
  clear hn9 hO3 x0 x1 y0 y1 y2 y3
  have X3 := X2.below hb3 X2.size
  have Y3 := Y2.below hb3 Y2.size
  have z2 : w.heap.size + 2 ≤ w2.heap.size := Nat.le_trans z1 hb2.size
  have x0 := X3.cell 0; have x1 := X3.cell 1; have x2 := X3.frozen 0; have x3 := X3.frozen 1
  have Y4 := Y3.far (p := ⟨w.heap.size, 1, none⟩) (by show w.heap.size + 1 ≠ w.heap.size; omega) (.slice A9 n9 c9)
  have X4 := X3.put 1 (.slice A9 n9 c9)
  have y0 := Y4.cell 0; have y1 := Y4.cell 1; have y2 := Y4.frozen 0; have y3 := Y4.frozen 1
  have w0 := X4.cell 0; have w1' := X4.cell 1
  go_wp2
  have RR := (Box.put Y4 0 (.slice A0 n0 c0)).put 1 (.slice A9 n9 c9)
  have e0 := RR.cell 0; have e1 := RR.cell 1
  refine bodyPost_ret (v := .tuple #[.agg #[.slice A0 n0 c0, .slice A9 n9 c9], .int .i64 (0)]) (by simp [results, Try.results41, go_sem, e0, e1]) rfl ⟨_, _, _, F9, rfl, Ty.far3 (t := tIs) (Ty.far3 (t := tIs) (Ty.far3 (t := tIs) hO9 (p := ⟨w.heap.size, 1, none⟩) (fun hx => by have := hN9.2 _ hx; dsimp only at this; omega) (.slice A9 n9 c9)) (p := ⟨w.heap.size + 1, 0, none⟩) (fun hx => by have := hN9.2 _ hx; dsimp only at this; omega) (.slice A0 n0 c0)) (p := ⟨w.heap.size + 1, 1, none⟩) (fun hx => by have := hN9.2 _ hx; dsimp only at this; omega) (.slice A9 n9 c9), hN9.lower (by omega), ?_⟩
  exact bel_put (bel_put (bel_put (bel_trans hB2 hb3) (by simp) _) (by simp) _) (by simp) _
set_option maxHeartbeats 8000000 in
theorem i_Admit {w : World} {cs ch : List Value} {p : DPool} {h : DHeld} {tag : Int} (hp : tPool.R w w.heap.size cs p) (hz : szPool p ≤ 1048576) (hh : tHeld.R w w.heap.size ch h) (hz2 : szHeld h ≤ 1048576) (hw : (Lit.int .i64 tag).wf = true) :
    Calls Try.prog 10 #[.agg cs.toArray, .agg ch.toArray, .int .i64 tag] w fun e w' => ∃ cs' F, e = .returned (.tuple #[.agg cs'.toArray, .int .i64 (fAdmN p h tag)]) ∧ tPool.O w' cs' (fAdm p h tag) F ∧ New w.heap.size F ∧ Below w.heap.size w w' := by
  obtain ⟨A0, n0, c0, A1, n1, c1, rfl, -, -, hl0, hr0, -, -, hl1, hr1⟩ := openPool hp
  obtain ⟨A2, n2, c2, rfl, -, -, -, -, -, -⟩ := openHeld hh
  by_cases hpo : PlOk p
  rotate_left
  · have HP := Lib.hid (decide_eq_false hpo)
    rw [fAdm_f (fun x => hpo x.1), fAdmN_f (fun x => hpo x.1)]
    clear hpo
    go_enter Try.func10, Try.ntmps10
    go_wp2_with fail
    refine (i_PoolOk (tPool.reach hp ?hB) hz).mono ?_
    case hB => exact (belx)
    rintro e w1 ⟨rfl, hb1⟩
    rw [HP.out]
    have X1 : Box w1 w.heap.size 26 #[.slice A0 n0 c0, .slice A1 n1 c1] := Box.below (((Box.new w _ _).alloc _).alloc _) hb1 (by simp; omega)
    have H1 : Box w1 (w.heap.size + 1) 30 #[.int .i64 (h.1), .int .i64 (h.2.1), .slice A2 n2 c2] := Box.below (Box.alloc (by simpa using Box.new (w.alloc (.cells #[.slice A0 n0 c0, .slice A1 n1 c1] 26)) 30 #[.int .i64 (h.1), .int .i64 (h.2.1), .slice A2 n2 c2]) _) hb1 (by first | (simp; done) | (simp; omega))
    have Y1 : Box w1 (w.heap.size + 1 + 1) 26 #[.slice none 0 0, .slice none 0 0] := Box.below (by simpa using Box.new ((w.alloc (.cells #[.slice A0 n0 c0, .slice A1 n1 c1] 26)).alloc (.cells #[.int .i64 (h.1), .int .i64 (h.2.1), .slice A2 n2 c2] 30)) 26 #[.slice none 0 0, .slice none 0 0]) hb1 (by first | (simp; done) | (simp; omega))
    have x0 := X1.cell 0; have x1 := X1.cell 1; have h0 := H1.cell 0; have h1 := H1.cell 1; have h2 := H1.cell 2
    have y0 := Y1.cell 0; have y1 := Y1.cell 1; have y2 := Y1.frozen 0; have y3 := Y1.frozen 1
    have hB1 : Below w.heap.size w w1 := bel_trans (belx) hb1
    have z1 : w.heap.size + 3 ≤ w1.heap.size := by have := hb1.size; simpa using this
    clear hb1
    go_wp2
    have RR := (Box.put Y1 0 (.slice none 0 0)).put 1 (.slice none 0 0)
    have e0 := RR.cell 0; have e1 := RR.cell 1
    refine bodyPost_ret (v := .tuple #[.agg #[.slice none 0 0, .slice none 0 0], .int .i64 (-3)]) (by simp [results, Try.results10, go_sem, e0, e1]) rfl ⟨[.slice none 0 0, .slice none 0 0], [], rfl, plzO, New.nil _, ?_⟩
    exact bel_put (bel_put hB1 (by show _ ≤ w.heap.size + 1 + 1; omega) _) (by show _ ≤ w.heap.size + 1 + 1; omega) _
  have HP := Lib.hid (decide_eq_true hpo)
  by_cases hho : HdOk h
  rotate_left
  · have HH := Lib.hid (decide_eq_false hho)
    rw [fAdm_f (fun x => hho x.2.1), fAdmN_f (fun x => hho x.2.1)]
    clear hpo hho
    go_enter Try.func10, Try.ntmps10
    go_wp2_with fail
    refine (i_PoolOk (tPool.reach hp ?hB) hz).mono ?_
    case hB => exact (belx)
    rintro e w1 ⟨rfl, hb1⟩
    rw [HP.out]
    have X1 : Box w1 w.heap.size 26 #[.slice A0 n0 c0, .slice A1 n1 c1] := Box.below (((Box.new w _ _).alloc _).alloc _) hb1 (by simp; omega)
    have H1 : Box w1 (w.heap.size + 1) 30 #[.int .i64 (h.1), .int .i64 (h.2.1), .slice A2 n2 c2] := Box.below (Box.alloc (by simpa using Box.new (w.alloc (.cells #[.slice A0 n0 c0, .slice A1 n1 c1] 26)) 30 #[.int .i64 (h.1), .int .i64 (h.2.1), .slice A2 n2 c2]) _) hb1 (by first | (simp; done) | (simp; omega))
    have Y1 : Box w1 (w.heap.size + 1 + 1) 26 #[.slice none 0 0, .slice none 0 0] := Box.below (by simpa using Box.new ((w.alloc (.cells #[.slice A0 n0 c0, .slice A1 n1 c1] 26)).alloc (.cells #[.int .i64 (h.1), .int .i64 (h.2.1), .slice A2 n2 c2] 30)) 26 #[.slice none 0 0, .slice none 0 0]) hb1 (by first | (simp; done) | (simp; omega))
    have x0 := X1.cell 0; have x1 := X1.cell 1; have h0 := H1.cell 0; have h1 := H1.cell 1; have h2 := H1.cell 2
    have y0 := Y1.cell 0; have y1 := Y1.cell 1; have y2 := Y1.frozen 0; have y3 := Y1.frozen 1
    have hB1 : Below w.heap.size w w1 := bel_trans (belx) hb1
    have z1 : w.heap.size + 3 ≤ w1.heap.size := by have := hb1.size; simpa using this
    clear hb1
    go_wp2_with fail
    refine (i_HeldOk (tHeld.reach hh hB1) hz2).mono ?_
    rintro e w2 ⟨rfl, hb2⟩
    rw [HH.out]
    clear x0 x1 h0 h1 h2 y0 y1 y2 y3
    have X2 := X1.below hb2 X1.size
    have H2 := H1.below hb2 H1.size
    have Y2 := Y1.below hb2 Y1.size
    have x0 := X2.cell 0; have x1 := X2.cell 1; have h0 := H2.cell 0; have h1 := H2.cell 1; have h2 := H2.cell 2
    have y0 := Y2.cell 0; have y1 := Y2.cell 1; have y2 := Y2.frozen 0; have y3 := Y2.frozen 1
    have hB2 : Below w.heap.size w w2 := bel_trans hB1 hb2
    have z2 : w.heap.size + 3 ≤ w2.heap.size := Nat.le_trans z1 hb2.size
    clear hb2
    go_wp2
    have RR := (Box.put Y2 0 (.slice none 0 0)).put 1 (.slice none 0 0)
    have e0 := RR.cell 0; have e1 := RR.cell 1
    refine bodyPost_ret (v := .tuple #[.agg #[.slice none 0 0, .slice none 0 0], .int .i64 (-3)]) (by simp [results, Try.results10, go_sem, e0, e1]) rfl ⟨[.slice none 0 0, .slice none 0 0], [], rfl, plzO, New.nil _, ?_⟩
    exact bel_put (bel_put hB2 (by show _ ≤ w.heap.size + 1 + 1; omega) _) (by show _ ≤ w.heap.size + 1 + 1; omega) _
  have HH := Lib.hid (decide_eq_true hho)
  by_cases hfo : Ok tag
  rotate_left
  · have HF := Lib.hid (fok_f hfo)
    rw [fAdm_f (fun x => hfo x.2.2), fAdmN_f (fun x => hfo x.2.2)]
    clear hpo hho hfo
    go_enter Try.func10, Try.ntmps10
    go_wp2_with fail
    refine (i_PoolOk (tPool.reach hp ?hB) hz).mono ?_
    case hB => exact (belx)
    rintro e w1 ⟨rfl, hb1⟩
    rw [HP.out]
    have X1 : Box w1 w.heap.size 26 #[.slice A0 n0 c0, .slice A1 n1 c1] := Box.below (((Box.new w _ _).alloc _).alloc _) hb1 (by simp; omega)
    have H1 : Box w1 (w.heap.size + 1) 30 #[.int .i64 (h.1), .int .i64 (h.2.1), .slice A2 n2 c2] := Box.below (Box.alloc (by simpa using Box.new (w.alloc (.cells #[.slice A0 n0 c0, .slice A1 n1 c1] 26)) 30 #[.int .i64 (h.1), .int .i64 (h.2.1), .slice A2 n2 c2]) _) hb1 (by first | (simp; done) | (simp; omega))
    have Y1 : Box w1 (w.heap.size + 1 + 1) 26 #[.slice none 0 0, .slice none 0 0] := Box.below (by simpa using Box.new ((w.alloc (.cells #[.slice A0 n0 c0, .slice A1 n1 c1] 26)).alloc (.cells #[.int .i64 (h.1), .int .i64 (h.2.1), .slice A2 n2 c2] 30)) 26 #[.slice none 0 0, .slice none 0 0]) hb1 (by first | (simp; done) | (simp; omega))
    have x0 := X1.cell 0; have x1 := X1.cell 1; have h0 := H1.cell 0; have h1 := H1.cell 1; have h2 := H1.cell 2
    have y0 := Y1.cell 0; have y1 := Y1.cell 1; have y2 := Y1.frozen 0; have y3 := Y1.frozen 1
    have hB1 : Below w.heap.size w w1 := bel_trans (belx) hb1
    have z1 : w.heap.size + 3 ≤ w1.heap.size := by have := hb1.size; simpa using this
    clear hb1
    go_wp2_with fail
    refine (i_HeldOk (tHeld.reach hh hB1) hz2).mono ?_
    rintro e w2 ⟨rfl, hb2⟩
    rw [HH.out]
    clear x0 x1 h0 h1 h2 y0 y1 y2 y3
    have X2 := X1.below hb2 X1.size
    have H2 := H1.below hb2 H1.size
    have Y2 := Y1.below hb2 Y1.size
    have x0 := X2.cell 0; have x1 := X2.cell 1; have h0 := H2.cell 0; have h1 := H2.cell 1; have h2 := H2.cell 2
    have y0 := Y2.cell 0; have y1 := Y2.cell 1; have y2 := Y2.frozen 0; have y3 := Y2.frozen 1
    have hB2 : Below w.heap.size w w2 := bel_trans hB1 hb2
    have z2 : w.heap.size + 3 ≤ w2.heap.size := Nat.le_trans z1 hb2.size
    clear hb2
    go_wp2_with fail
    refine (i_FOk _ _).mono ?_
    rintro e w3 ⟨rfl, rfl⟩
    rw [HF.out]
    go_wp2
    have RR := (Box.put Y2 0 (.slice none 0 0)).put 1 (.slice none 0 0)
    have e0 := RR.cell 0; have e1 := RR.cell 1
    refine bodyPost_ret (v := .tuple #[.agg #[.slice none 0 0, .slice none 0 0], .int .i64 (-3)]) (by simp [results, Try.results10, go_sem, e0, e1]) rfl ⟨[.slice none 0 0, .slice none 0 0], [], rfl, plzO, New.nil _, ?_⟩
    exact bel_put (bel_put hB2 (by show _ ≤ w.heap.size + 1 + 1; omega) _) (by show _ ≤ w.heap.size + 1 + 1; omega) _
  have HF := Lib.hid (fok_t hfo)
  have hA : AdOk p h tag := ⟨hpo, hho, hfo⟩
  have hn0 : p.1.length ≤ 12 := hpo.1.1
  have hn1 : p.2.length ≤ 60 := hpo.1.2
  rw [show fAdm p h tag = admP p h tag from if_pos hA, show fAdmN p h tag = admN p tag from if_pos hA]
  have hz3 : szPool (admP p h tag) ≤ 1048576 := by have := admP_le hA; omega
  rw [hl0] at hn0
  rw [hl1] at hn1
  clear hpo hho hfo hA
  by_cases h12 : n0 = 12
  · have hq : ((n0 : Int) == 12) = true := by simp; omega
    rw [show admP p h tag = p from if_pos (.inl (by omega)), show admN p tag = -2 from if_pos (by omega)]
    clear h12 hl0 hl1
    go_enter Try.func10, Try.ntmps10
    go_wp2_with fail
    refine (i_PoolOk (tPool.reach hp ?hB) hz).mono ?_
    case hB => exact (belx)
    rintro e w1 ⟨rfl, hb1⟩
    rw [HP.out]
    have X1 : Box w1 w.heap.size 26 #[.slice A0 n0 c0, .slice A1 n1 c1] := Box.below (((Box.new w _ _).alloc _).alloc _) hb1 (by simp; omega)
    have H1 : Box w1 (w.heap.size + 1) 30 #[.int .i64 (h.1), .int .i64 (h.2.1), .slice A2 n2 c2] := Box.below (Box.alloc (by simpa using Box.new (w.alloc (.cells #[.slice A0 n0 c0, .slice A1 n1 c1] 26)) 30 #[.int .i64 (h.1), .int .i64 (h.2.1), .slice A2 n2 c2]) _) hb1 (by first | (simp; done) | (simp; omega))
    have Y1 : Box w1 (w.heap.size + 1 + 1) 26 #[.slice none 0 0, .slice none 0 0] := Box.below (by simpa using Box.new ((w.alloc (.cells #[.slice A0 n0 c0, .slice A1 n1 c1] 26)).alloc (.cells #[.int .i64 (h.1), .int .i64 (h.2.1), .slice A2 n2 c2] 30)) 26 #[.slice none 0 0, .slice none 0 0]) hb1 (by first | (simp; done) | (simp; omega))
    have x0 := X1.cell 0; have x1 := X1.cell 1; have h0 := H1.cell 0; have h1 := H1.cell 1; have h2 := H1.cell 2
    have y0 := Y1.cell 0; have y1 := Y1.cell 1; have y2 := Y1.frozen 0; have y3 := Y1.frozen 1
    have hB1 : Below w.heap.size w w1 := bel_trans (belx) hb1
    have z1 : w.heap.size + 3 ≤ w1.heap.size := by have := hb1.size; simpa using this
    clear hb1
    go_wp2_with fail
    refine (i_HeldOk (tHeld.reach hh hB1) hz2).mono ?_
    rintro e w2 ⟨rfl, hb2⟩
    rw [HH.out]
    clear x0 x1 h0 h1 h2 y0 y1 y2 y3
    have X2 := X1.below hb2 X1.size
    have H2 := H1.below hb2 H1.size
    have Y2 := Y1.below hb2 Y1.size
    have x0 := X2.cell 0; have x1 := X2.cell 1; have h0 := H2.cell 0; have h1 := H2.cell 1; have h2 := H2.cell 2
    have y0 := Y2.cell 0; have y1 := Y2.cell 1; have y2 := Y2.frozen 0; have y3 := Y2.frozen 1
    have hB2 : Below w.heap.size w w2 := bel_trans hB1 hb2
    have z2 : w.heap.size + 3 ≤ w2.heap.size := Nat.le_trans z1 hb2.size
    clear hb2
    go_wp2_with fail
    refine (i_FOk _ _).mono ?_
    rintro e w3 ⟨rfl, rfl⟩
    rw [HF.out]
    go_wp2_with fail
    refine (i_PlCopy (tHeld.row.reach hr0 hB2) (tIs.reach hr1 hB2) hz).mono ?_
    rintro e w3 ⟨B0, d0, B1, d1, F, rfl, hO, hN, hb3⟩
    clear x0 x1 h0 h1 h2 y0 y1 y2 y3
    have Y3 := Y2.below hb3 Y2.size
    have y0 := Y3.cell 0; have y1 := Y3.cell 1; have y2 := Y3.frozen 0; have y3 := Y3.frozen 1
    have hM : New (w.heap.size + 3) F := hN.lower z2
    go_wp2
    have RR := (Box.put Y3 0 (.slice B0 p.1.length d0)).put 1 (.slice B1 p.2.length d1)
    have e0 := RR.cell 0; have e1 := RR.cell 1
    refine bodyPost_ret (v := .tuple #[.agg #[.slice B0 p.1.length d0, .slice B1 p.2.length d1], .int .i64 (-2)]) (by simp [results, Try.results10, go_sem, e0, e1]) rfl ⟨[.slice B0 p.1.length d0, .slice B1 p.2.length d1], F, rfl, put2_O hO (hM.not (by omega)), hM.lower (by omega), ?_⟩
    exact bel_put (bel_put (bel_trans hB2 hb3) (by show _ ≤ w.heap.size + 1 + 1; omega) _) (by show _ ≤ w.heap.size + 1 + 1; omega) _
  have hq : ((n0 : Int) == 12) = false := by simp; omega
  by_cases hr : recN p.2 tag = 0
  rotate_left
  · rw [show admP p h tag = p from if_pos (.inr hr), show admN p tag = recN p.2 tag from if_neg (by omega)]
    obtain ⟨k, hk⟩ : ∃ k, recN p.2 tag = k := ⟨_, rfl⟩
    have hkd : (k == 0) = false := by rw [← hk]; simpa using hr
    have HK := Lib.hid hk
    have HR := Lib.hid hr
    rw [hk]
    clear h12 hl0 hl1 hr hk
    go_enter Try.func10, Try.ntmps10
    go_wp2_with fail
    refine (i_PoolOk (tPool.reach hp ?hB) hz).mono ?_
    case hB => exact (belx)
    rintro e w1 ⟨rfl, hb1⟩
    rw [HP.out]
    have X1 : Box w1 w.heap.size 26 #[.slice A0 n0 c0, .slice A1 n1 c1] := Box.below (((Box.new w _ _).alloc _).alloc _) hb1 (by simp; omega)
    have H1 : Box w1 (w.heap.size + 1) 30 #[.int .i64 (h.1), .int .i64 (h.2.1), .slice A2 n2 c2] := Box.below (Box.alloc (by simpa using Box.new (w.alloc (.cells #[.slice A0 n0 c0, .slice A1 n1 c1] 26)) 30 #[.int .i64 (h.1), .int .i64 (h.2.1), .slice A2 n2 c2]) _) hb1 (by first | (simp; done) | (simp; omega))
    have Y1 : Box w1 (w.heap.size + 1 + 1) 26 #[.slice none 0 0, .slice none 0 0] := Box.below (by simpa using Box.new ((w.alloc (.cells #[.slice A0 n0 c0, .slice A1 n1 c1] 26)).alloc (.cells #[.int .i64 (h.1), .int .i64 (h.2.1), .slice A2 n2 c2] 30)) 26 #[.slice none 0 0, .slice none 0 0]) hb1 (by first | (simp; done) | (simp; omega))
    have x0 := X1.cell 0; have x1 := X1.cell 1; have h0 := H1.cell 0; have h1 := H1.cell 1; have h2 := H1.cell 2
    have y0 := Y1.cell 0; have y1 := Y1.cell 1; have y2 := Y1.frozen 0; have y3 := Y1.frozen 1
    have hB1 : Below w.heap.size w w1 := bel_trans (belx) hb1
    have z1 : w.heap.size + 3 ≤ w1.heap.size := by have := hb1.size; simpa using this
    clear hb1
    go_wp2_with fail
    refine (i_HeldOk (tHeld.reach hh hB1) hz2).mono ?_
    rintro e w2 ⟨rfl, hb2⟩
    rw [HH.out]
    clear x0 x1 h0 h1 h2 y0 y1 y2 y3
    have X2 := X1.below hb2 X1.size
    have H2 := H1.below hb2 H1.size
    have Y2 := Y1.below hb2 Y1.size
    have x0 := X2.cell 0; have x1 := X2.cell 1; have h0 := H2.cell 0; have h1 := H2.cell 1; have h2 := H2.cell 2
    have y0 := Y2.cell 0; have y1 := Y2.cell 1; have y2 := Y2.frozen 0; have y3 := Y2.frozen 1
    have hB2 : Below w.heap.size w w2 := bel_trans hB1 hb2
    have z2 : w.heap.size + 3 ≤ w2.heap.size := Nat.le_trans z1 hb2.size
    clear hb2
    go_wp2_with fail
    refine (i_FOk _ _).mono ?_
    rintro e w3 ⟨rfl, rfl⟩
    rw [HF.out]
    go_wp2_with fail
    refine (i_rec_f (A0 := A0) (n0 := n0) (c0 := c0) (tIs.reach hr1 hB2) hn1 HR.out).mono ?_
    rintro e w3 ⟨rfl, hb3⟩
    rw [HK.out]
    clear x0 x1 h0 h1 h2 y0 y1 y2 y3
    have X3 := X2.below hb3 X2.size
    have Y3 := Y2.below hb3 Y2.size
    have hB3 : Below w.heap.size w w3 := bel_trans hB2 hb3
    have z3 : w.heap.size + 3 ≤ w3.heap.size := Nat.le_trans z2 hb3.size
    have x0 := X3.cell 0; have x1 := X3.cell 1; have x2 := X3.frozen 0; have x3 := X3.frozen 1
    have X4 := (X3.put 0 (.slice A0 n0 c0)).put 1 (.slice A1 n1 c1)
    have Y4 := (Y3.far (p := ⟨w.heap.size, 0, none⟩) (by show w.heap.size + 1 + 1 ≠ w.heap.size; omega) (.slice A0 n0 c0)).far (p := ⟨w.heap.size, 1, none⟩) (by show w.heap.size + 1 + 1 ≠ w.heap.size; omega) (.slice A1 n1 c1)
    have w0 := X4.cell 0; have w1' := X4.cell 1
    have hB4 := bel_put (bel_put hB3 (p := ⟨w.heap.size, 0, none⟩) (Nat.le_refl _) (.slice A0 n0 c0)) (p := ⟨w.heap.size, 1, none⟩) (Nat.le_refl _) (.slice A1 n1 c1)
    go_wp2_with fail
    refine (i_PlCopy (tHeld.row.reach hr0 hB4) (tIs.reach hr1 hB4) hz).mono ?_
    rintro e w5 ⟨B0, d0, B1, d1, F, rfl, hO, hN, hb5⟩
    have Y5 := Y4.below hb5 Y4.size
    have y0 := Y5.cell 0; have y1 := Y5.cell 1; have y2 := Y5.frozen 0; have y3 := Y5.frozen 1
    have hM : New (w.heap.size + 3) F := hN.lower (by simp [World.setCell]; omega)
    go_wp2
    have RR := (Box.put Y5 0 (.slice B0 p.1.length d0)).put 1 (.slice B1 p.2.length d1)
    have e0 := RR.cell 0; have e1 := RR.cell 1
    refine bodyPost_ret (v := .tuple #[.agg #[.slice B0 p.1.length d0, .slice B1 p.2.length d1], .int .i64 (k)]) (by simp [results, Try.results10, go_sem, e0, e1]) rfl ⟨[.slice B0 p.1.length d0, .slice B1 p.2.length d1], F, rfl, put2_O hO (hM.not (by omega)), hM.lower (by omega), ?_⟩
    exact bel_put (bel_put (bel_trans hB4 hb5) (by show _ ≤ w.heap.size + 1 + 1; omega) _) (by show _ ≤ w.heap.size + 1 + 1; omega) _
  · rw [show admP p h tag = (p.1 ++ [h], p.2 ++ [tag]) from if_neg (by rintro (x | x); omega; exact x hr)] at hz3
    rw [show admP p h tag = (p.1 ++ [h], p.2 ++ [tag]) from if_neg (by rintro (x | x); omega; exact x hr), show admN p tag = recN p.2 tag from if_neg (by omega), hr]
    change rsz szHeld (p.1 ++ [h]) + (p.2 ++ [tag]).length ≤ 1048576 at hz3
    obtain ⟨i1, hj0, hj1, hj2, hj3⟩ := info_parts info_Held
    have tz : (Value.agg #[Value.int .i64 0, Value.int .i64 0, Value.slice none 0 0]).cells.size = 3 := by first | rfl | (simp [Value.cells]; done)
    have t3 : p.1.length + 1 ≤ maxLen := by simp only [maxLen]; omega
    have t4 : (p.1.length + 1) * 40 ≤ 140737488355328 := by omega
    have HR := Lib.hid hr
    clear h12 hl0 hl1 hr
    go_enter Try.func10, Try.ntmps10
    go_wp2_with fail
    refine (i_PoolOk (tPool.reach hp ?hB) hz).mono ?_
    case hB => exact (belx)
    rintro e w1 ⟨rfl, hb1⟩
    rw [HP.out]
    have X1 : Box w1 w.heap.size 26 #[.slice A0 n0 c0, .slice A1 n1 c1] := Box.below (((Box.new w _ _).alloc _).alloc _) hb1 (by simp; omega)
    have H1 : Box w1 (w.heap.size + 1) 30 #[.int .i64 (h.1), .int .i64 (h.2.1), .slice A2 n2 c2] := Box.below (Box.alloc (by simpa using Box.new (w.alloc (.cells #[.slice A0 n0 c0, .slice A1 n1 c1] 26)) 30 #[.int .i64 (h.1), .int .i64 (h.2.1), .slice A2 n2 c2]) _) hb1 (by first | (simp; done) | (simp; omega))
    have Y1 : Box w1 (w.heap.size + 1 + 1) 26 #[.slice none 0 0, .slice none 0 0] := Box.below (by simpa using Box.new ((w.alloc (.cells #[.slice A0 n0 c0, .slice A1 n1 c1] 26)).alloc (.cells #[.int .i64 (h.1), .int .i64 (h.2.1), .slice A2 n2 c2] 30)) 26 #[.slice none 0 0, .slice none 0 0]) hb1 (by first | (simp; done) | (simp; omega))
    have x0 := X1.cell 0; have x1 := X1.cell 1; have h0 := H1.cell 0; have h1 := H1.cell 1; have h2 := H1.cell 2
    have y0 := Y1.cell 0; have y1 := Y1.cell 1; have y2 := Y1.frozen 0; have y3 := Y1.frozen 1
    have hB1 : Below w.heap.size w w1 := bel_trans (belx) hb1
    have z1 : w.heap.size + 3 ≤ w1.heap.size := by have := hb1.size; simpa using this
    clear hb1
    go_wp2_with fail
    refine (i_HeldOk (tHeld.reach hh hB1) hz2).mono ?_
    rintro e w2 ⟨rfl, hb2⟩
    rw [HH.out]
    clear x0 x1 h0 h1 h2 y0 y1 y2 y3
    have X2 := X1.below hb2 X1.size
    have H2 := H1.below hb2 H1.size
    have Y2 := Y1.below hb2 Y1.size
    have x0 := X2.cell 0; have x1 := X2.cell 1; have h0 := H2.cell 0; have h1 := H2.cell 1; have h2 := H2.cell 2
    have y0 := Y2.cell 0; have y1 := Y2.cell 1; have y2 := Y2.frozen 0; have y3 := Y2.frozen 1
    have hB2 : Below w.heap.size w w2 := bel_trans hB1 hb2
    have z2 : w.heap.size + 3 ≤ w2.heap.size := Nat.le_trans z1 hb2.size
    clear hb2
    go_wp2_with fail
    refine (i_FOk _ _).mono ?_
    rintro e w3 ⟨rfl, rfl⟩
    rw [HF.out]
    go_wp2_with fail
    refine (i_rec_t (A0 := A0) (n0 := n0) (c0 := c0) (tIs.reach hr1 hB2) hn1 hw HR.out).mono ?_
    rintro e w3 ⟨A7, n7, c7, F7, rfl, hO7, hN7, hb3⟩
    clear x0 x1 h0 h1 h2 y0 y1 y2 y3
    have X3 := X2.below hb3 X2.size
    have H3 := H2.below hb3 H2.size
    have Y3 := Y2.below hb3 Y2.size
    have hB3 : Below w.heap.size w w3 := bel_trans hB2 hb3
    have z3 : w.heap.size + 3 ≤ w3.heap.size := Nat.le_trans z2 hb3.size
    have hM7 : New (w.heap.size + 3) F7 := hN7.lower z2
    have x0 := X3.cell 0; have x1 := X3.cell 1; have x2 := X3.frozen 0; have x3 := X3.frozen 1
    have Tx := (X3.put 0 (.slice A0 n0 c0)).put 1 (.slice A7 n7 c7)
    have Yx := (Y3.far (p := ⟨w.heap.size, 0, none⟩) (by show w.heap.size + 1 + 1 ≠ w.heap.size; omega) (.slice A0 n0 c0)).far (p := ⟨w.heap.size, 1, none⟩) (by show w.heap.size + 1 + 1 ≠ w.heap.size; omega) (.slice A7 n7 c7)
    have Hx := (H3.far (p := ⟨w.heap.size, 0, none⟩) (by show w.heap.size + 1 ≠ w.heap.size; omega) (.slice A0 n0 c0)).far (p := ⟨w.heap.size, 1, none⟩) (by show w.heap.size + 1 ≠ w.heap.size; omega) (.slice A7 n7 c7)
    have O7x := Ty.far3 (t := tIs) (Ty.far3 (t := tIs) hO7 (p := ⟨w.heap.size, 0, none⟩) (fun hx => by have := hM7.2 _ hx; dsimp only at this; omega) (.slice A0 n0 c0)) (p := ⟨w.heap.size, 1, none⟩) (fun hx => by have := hM7.2 _ hx; dsimp only at this; omega) (.slice A7 n7 c7)
    have hBx := bel_put (bel_put hB3 (p := ⟨w.heap.size, 0, none⟩) (Nat.le_refl _) (.slice A0 n0 c0)) (p := ⟨w.heap.size, 1, none⟩) (Nat.le_refl _) (.slice A7 n7 c7)
    have zx : w.heap.size + 3 ≤ ((w3.setCell ⟨w.heap.size, 0, none⟩ (.slice A0 n0 c0)).setCell ⟨w.heap.size, 1, none⟩ (.slice A7 n7 c7)).heap.size := by simp [World.setCell]; omega
    replace Tx : Box ((w3.setCell ⟨w.heap.size, 0, none⟩ (.slice A0 n0 c0)).setCell ⟨w.heap.size, 1, none⟩ (.slice A7 n7 c7)) w.heap.size 26 #[.slice A0 n0 c0, .slice A7 n7 c7] := by simpa using Tx
    go_wp2_with fail
    obtain ⟨wx, hwx⟩ : ∃ wx, ((w3.setCell ⟨w.heap.size, 0, none⟩ (.slice A0 n0 c0)).setCell ⟨w.heap.size, 1, none⟩ (.slice A7 n7 c7)) = wx := ⟨_, rfl⟩
    rw [hwx]
    rw [hwx] at Tx Yx Hx O7x hBx zx
    clear hwx hO7 X3 H3 Y3 hB3 x0 x1 x2 x3
    have tx := Tx.cell 0
    have HxV := Hx.alloc (.cells ([.int .i64 (h.1), .int .i64 (h.2.1), .slice A2 n2 c2].toArray) 30)
    have TxV := Tx.alloc (.cells ([.int .i64 (h.1), .int .i64 (h.2.1), .slice A2 n2 c2].toArray) 30)
    have YxV := Yx.alloc (.cells ([.int .i64 (h.1), .int .i64 (h.2.1), .slice A2 n2 c2].toArray) 30)
    have VxV : Box (wx.alloc (.cells ([.int .i64 (h.1), .int .i64 (h.2.1), .slice A2 n2 c2].toArray) 30)) wx.heap.size 30 ([.int .i64 (h.1), .int .i64 (h.2.1), .slice A2 n2 c2].toArray) := Box.new _ _ _
    have txV := TxV.cell 0
    refine wp_region_held_drew (S := (fun w' => w'.cell? ⟨w.heap.size + 1, 0, none⟩ = some (.int .i64 h.1) ∧ w'.cell? ⟨w.heap.size + 1, 1, none⟩ = some (.int .i64 h.2.1) ∧ w'.cell? ⟨w.heap.size + 1, 2, none⟩ = some (.slice A2 n2 c2))) (by kernel_rfl) (by exact ⟨Hx.cell 0, Hx.cell 1, Hx.cell 2⟩) (fun hHeld => ?_)
    refine wpAnyH_take (i := 0) (v := ?v1) rfl (by kernel_rfl) (by kernel_rfl) (by kernel_rfl) (fun _ _ _ h => h) (Or.inl ⟨by rfl, ?hy1⟩) (by assumption) ?_
    case hy1 => (intro w hSw; (try dsimp only at hSw); go_simp; try (with_reducible rfl))
    (try simp only [Act.put, qa_, qb_, qc_])
    refine wpAnyH_take (i := 3) (v := ?v2) rfl (by kernel_rfl) (by kernel_rfl) (by kernel_rfl) (fun _ _ _ h => h) (Or.inl ⟨by rfl, ?hy2⟩) (by assumption) ?_
    case hy2 => (intro w hSw; (try dsimp only at hSw); go_simp; try (with_reducible rfl))
    (try simp only [Act.put, qa_, qb_, qc_])
    refine wpAnyH_ready (rs := [1, 4]) (by kernel_rfl) (by simp) ?_
    refine AllReadyH.cons rfl (fun K hK => ?_) ?_
    · go_simp
      refine hK.out _ _ (by exact ⟨Hx.cell 0, Hx.cell 1, Hx.cell 2⟩) (fun hHeld => ?_)
      clear hK K
      (try simp only [Act.put, qa_, qb_, qc_])
      refine wpAnyH_ready (rs := [2, 4]) (by kernel_rfl) (by simp) ?_
      refine AllReadyH.cons rfl (fun K hK => ?_) ?_
      · go_simp
        go_at_call 42
        refine (i_copiedH5 (B := w.heap.size) (tHeld.row.keep hr0 (fun b hb => (show Below w.heap.size w (wx.drew) from bel_trans hBx (belx)).block b hb)) (show w.heap.size ≤ (wx.drew).heap.size from (show Below w.heap.size w (wx.drew) from bel_trans hBx (belx)).size) (by omega)).mono ?_
        rintro e wc ⟨v3, rfl, hG3, hbc⟩
        have hCc : Below wx.heap.size wx wc := bel_trans (show Below wx.heap.size wx (wx.drew) from (belx)) hbc
        have hBc : Below w.heap.size w wc := bel_trans hBx hCc
        have zc : wx.heap.size + 0 ≤ wc.heap.size := Nat.le_trans (by first | omega | (simp; done) | (simp; omega) | (show _ ≤ (World.alloc _ _).heap.size; simp) | (show _ ≤ (World.alloc _ _).heap.size; simp; omega)) hbc.size
        have Hc := Box.below (Box.drew Hx) hbc (Box.drew Hx).size
        have Tc := Box.below (Box.drew Tx) hbc (Box.drew Tx).size
        have Yc := Box.below (Box.drew Yx) hbc (Box.drew Yx).size
        have HcV := Hc.alloc (.cells ([.int .i64 (h.1), .int .i64 (h.2.1), .slice A2 n2 c2].toArray) 30)
        have hbs : wx.heap.size ≤ (wx.drew).heap.size := (by first | omega | (simp; done) | (simp; omega) | (show _ ≤ (World.alloc _ _).heap.size; simp) | (show _ ≤ (World.alloc _ _).heap.size; simp; omega))
        have hOwn3 := fun b hb => hG3.own b hb
        obtain ⟨base, hbase, hG3z, hOwn4⟩ : ∃ base, (wx.heap.size ≤ base ∧ base ≤ wc.heap.size) ∧ GrowR tHeld 30 wc base w.heap.size v3 p.1 ∧ ∀ b, v3.ownBlock = some b → base ≤ b ∧ b < wc.heap.size := ⟨_, ⟨hbs, hbc.size⟩, hG3, hOwn3⟩
        clear hG3 hOwn3
        go_wp2_with fail
        refine hK.out _ _ (by exact ⟨Hc.cell 0, Hc.cell 1, Hc.cell 2⟩) (fun hHeld => ?_)
        clear hK K
        (try simp only [Act.put, qa_, qb_, qc_])
        refine wpAnyH_ready (rs := [4]) (by kernel_rfl) (by simp) ?_
        refine AllReadyH.cons rfl (fun K hK => ?_) ?_
        · go_simp
          refine hK.out _ _ (by exact ⟨HcV.cell 0, HcV.cell 1, HcV.cell 2⟩) (fun hHeld => ?_)
          clear hK K
          (try simp only [Act.put, qa_, qb_, qc_])
          refine wpAnyH_ready (rs := [5]) (by kernel_rfl) (by simp) ?_
          refine AllReadyH.cons rfl (fun K hK => ?_) ?_
          · refine GrowR.step (by rfl) (.tmp 39) (.tmp 41) _ (by rfl) i1 _ 3 40 Try.underlying23 hj0 hj1 hj2 hj3 tz (by omega) rfl (by rfl) (hG3z.below (belx) (by omega)) wc.heap.size [.int .i64 (h.1), .int .i64 (h.2.1), .slice A2 n2 c2] h (by rfl) (Box.new wc 30 ([.int .i64 (h.1), .int .i64 (h.2.1), .slice A2 n2 c2].toArray)) (tHeld.keep hh (fun b hb => (show Below w.heap.size w (wc.alloc (.cells ([.int .i64 (h.1), .int .i64 (h.2.1), .slice A2 n2 c2].toArray) 30)) from bel_alloc hBc _).block b hb)) (one_held _ _ _ _ _) (by omega) (by first | omega | (simp; done) | (simp; omega) | (show _ ≤ (World.alloc _ _).heap.size; simp) | (show _ ≤ (World.alloc _ _).heap.size; simp; omega)) t3 t4 ?_
            intro v5 w5 hG5 hgr5
            obtain ⟨A9, n9, c9, rfl, -⟩ := hG5.shapeN
            have hC5 : Below wx.heap.size wx w5 := Below.grown (w := (wc.alloc (.cells ([.int .i64 (h.1), .int .i64 (h.2.1), .slice A2 n2 c2].toArray) 30))) (bel_alloc hCc _) hgr5 (by first | omega | (simp; done) | (simp; omega) | (show _ ≤ (World.alloc _ _).heap.size; simp) | (show _ ≤ (World.alloc _ _).heap.size; simp; omega)) (fun b hb => by have := (hOwn4 b hb).1; omega)
            have hB5 : Below w.heap.size w w5 := bel_trans hBx hC5
            have z5 := hC5.size
            have H5 := Box.grown (w := (wc.alloc (.cells ([.int .i64 (h.1), .int .i64 (h.2.1), .slice A2 n2 c2].toArray) 30))) (Hc.alloc _) hgr5 (fun e => by have := (hOwn4 _ e.symm).1; omega)
            have T5 := Box.grown (w := (wc.alloc (.cells ([.int .i64 (h.1), .int .i64 (h.2.1), .slice A2 n2 c2].toArray) 30))) (Tc.alloc _) hgr5 (fun e => by have := (hOwn4 _ e.symm).1; omega)
            have Y5 := Box.grown (w := (wc.alloc (.cells ([.int .i64 (h.1), .int .i64 (h.2.1), .slice A2 n2 c2].toArray) 30))) (Yc.alloc _) hgr5 (fun e => by have := (hOwn4 _ e.symm).1; omega)
            have q0 := T5.cell 0
            have q1 := T5.cell 1
            have f0 := T5.frozen 0
            have f1 := T5.frozen 1
            have H9 := H5.far (p := ⟨w.heap.size, 0, none⟩) (by show w.heap.size + 1 ≠ w.heap.size; omega) (.slice A9 n9 c9)
            have Y9 := Y5.far (p := ⟨w.heap.size, 0, none⟩) (by show w.heap.size + 1 + 1 ≠ w.heap.size; omega) (.slice A9 n9 c9)
            have T9 := T5.put 0 (.slice A9 n9 c9)
            have s0 := T9.cell 0
            have s1 := T9.cell 1
            refine hK.out _ _ (by exact ⟨H5.cell 0, H5.cell 1, H5.cell 2⟩) (fun hHeld => ?_)
            clear hK K
            (try simp only [Act.put, qa_, qb_, qc_])
            refine wpAnyH_take (i := 6) (v := ?v3) rfl (by kernel_rfl) (by kernel_rfl) (by kernel_rfl) (fun _ _ _ h => h) (Or.inl ⟨by rfl, ?hy3⟩) (by assumption) ?_
            case hy3 => (intro w hSw; (try dsimp only at hSw); go_simp; try (with_reducible rfl))
            (try simp only [Act.put, qa_, qb_, qc_])
            refine wpAnyH_ready (rs := [7]) (by kernel_rfl) (by simp) ?_
            refine AllReadyH.cons rfl (fun K hK => ?_) ?_
            · go_simp
              refine hK.out _ _ (by exact ⟨H9.cell 0, H9.cell 1, H9.cell 2⟩) (fun hHeld => ?_)
              clear hK K
              (try simp only [Act.put, qa_, qb_, qc_])
              refine wpAnyH_done (by kernel_rfl) ?_ _
              go_wp2_with fail
              refine (i_PlCopy ((hG5.put (p := ⟨w.heap.size, 0, none⟩) (by show w.heap.size < _; omega) (Nat.le_refl _) (.slice A9 n9 c9)).doneAs (by simp [World.setCell]; omega)) (tIs.read (Ty.far3 (t := tIs) (Ty.below (t := tIs) O7x hC5) (p := ⟨w.heap.size, 0, none⟩) (fun hx => by have := hM7.2 _ hx; dsimp only at this; omega) (.slice A9 n9 c9))) hz3).mono ?_
              rintro e w6 ⟨B0, d0, B1, d1, F, rfl, hO, hN, hb6⟩
              obtain ⟨m0, hm0⟩ : ∃ m, (p.1 ++ [h]).length = m := ⟨_, rfl⟩
              obtain ⟨m1, hm1⟩ : ∃ m, (p.2 ++ [tag]).length = m := ⟨_, rfl⟩
              rw [hm0, hm1] at hO
              rw [hm0, hm1]
              clear hm0 hm1
              have Y6 := Y9.below hb6 Y9.size
              have y0 := Y6.cell 0; have y1 := Y6.cell 1; have y2 := Y6.frozen 0; have y3 := Y6.frozen 1
              have hM : New (w.heap.size + 3) F := hN.lower (by simp [World.setCell]; omega)
              go_wp2
              have RR := (Box.put Y6 0 (.slice B0 m0 d0)).put 1 (.slice B1 m1 d1)
              have e0 := RR.cell 0; have e1 := RR.cell 1
              refine bodyPost_ret (v := .tuple #[.agg #[.slice B0 m0 d0, .slice B1 m1 d1], .int .i64 (0)]) (by simp [results, Try.results10, go_sem, e0, e1]) rfl ⟨[.slice B0 m0 d0, .slice B1 m1 d1], F, rfl, put2_O hO (hM.not (by omega)), hM.lower (by omega), ?_⟩
              exact bel_put (bel_put (bel_trans (bel_put hB5 (Nat.le_refl _) _) hb6) (by show _ ≤ w.heap.size + 1 + 1; omega) _) (by show _ ≤ w.heap.size + 1 + 1; omega) _
            exact AllReadyH.nil
          exact AllReadyH.nil
        exact AllReadyH.nil
      refine AllReadyH.cons rfl (fun K hK => ?_) ?_
      · go_simp
        refine hK.out _ _ (by exact ⟨HxV.cell 0, HxV.cell 1, HxV.cell 2⟩) (fun hHeld => ?_)
        clear hK K
        (try simp only [Act.put, qa_, qb_, qc_])
        refine wpAnyH_ready (rs := [2]) (by kernel_rfl) (by simp) ?_
        refine AllReadyH.cons rfl (fun K hK => ?_) ?_
        · go_simp
          go_at_call 42
          refine (i_copiedH5 (B := w.heap.size) (tHeld.row.keep hr0 (fun b hb => (show Below w.heap.size w ((wx.alloc (.cells ([.int .i64 (h.1), .int .i64 (h.2.1), .slice A2 n2 c2].toArray) 30)).drew) from bel_trans hBx (belx)).block b hb)) (show w.heap.size ≤ ((wx.alloc (.cells ([.int .i64 (h.1), .int .i64 (h.2.1), .slice A2 n2 c2].toArray) 30)).drew).heap.size from (show Below w.heap.size w ((wx.alloc (.cells ([.int .i64 (h.1), .int .i64 (h.2.1), .slice A2 n2 c2].toArray) 30)).drew) from bel_trans hBx (belx)).size) (by omega)).mono ?_
          rintro e wc ⟨v3, rfl, hG3, hbc⟩
          have hCc : Below wx.heap.size wx wc := bel_trans (show Below wx.heap.size wx ((wx.alloc (.cells ([.int .i64 (h.1), .int .i64 (h.2.1), .slice A2 n2 c2].toArray) 30)).drew) from (belx)) hbc
          have hBc : Below w.heap.size w wc := bel_trans hBx hCc
          have zc : wx.heap.size + 1 ≤ wc.heap.size := Nat.le_trans (by first | omega | (simp; done) | (simp; omega) | (show _ ≤ (World.alloc _ _).heap.size; simp) | (show _ ≤ (World.alloc _ _).heap.size; simp; omega)) hbc.size
          have Hc := Box.below (Box.drew HxV) hbc (Box.drew HxV).size
          have Tc := Box.below (Box.drew TxV) hbc (Box.drew TxV).size
          have Yc := Box.below (Box.drew YxV) hbc (Box.drew YxV).size
          have Vc := Box.below (Box.drew VxV) hbc (Box.drew VxV).size
          have HcV := Hc.alloc (.cells ([.int .i64 (h.1), .int .i64 (h.2.1), .slice A2 n2 c2].toArray) 30)
          have hbs : wx.heap.size ≤ ((wx.alloc (.cells ([.int .i64 (h.1), .int .i64 (h.2.1), .slice A2 n2 c2].toArray) 30)).drew).heap.size := (by first | omega | (simp; done) | (simp; omega) | (show _ ≤ (World.alloc _ _).heap.size; simp) | (show _ ≤ (World.alloc _ _).heap.size; simp; omega))
          have hOwn3 := fun b hb => hG3.own b hb
          obtain ⟨base, hbase, hG3z, hOwn4⟩ : ∃ base, (wx.heap.size ≤ base ∧ base ≤ wc.heap.size) ∧ GrowR tHeld 30 wc base w.heap.size v3 p.1 ∧ ∀ b, v3.ownBlock = some b → base ≤ b ∧ b < wc.heap.size := ⟨_, ⟨hbs, hbc.size⟩, hG3, hOwn3⟩
          clear hG3 hOwn3
          go_wp2_with fail
          refine hK.out _ _ (by exact ⟨Hc.cell 0, Hc.cell 1, Hc.cell 2⟩) (fun hHeld => ?_)
          clear hK K
          (try simp only [Act.put, qa_, qb_, qc_])
          refine wpAnyH_ready (rs := [5]) (by kernel_rfl) (by simp) ?_
          refine AllReadyH.cons rfl (fun K hK => ?_) ?_
          · refine GrowR.step (by rfl) (.tmp 39) (.tmp 41) _ (by rfl) i1 _ 3 40 Try.underlying23 hj0 hj1 hj2 hj3 tz (by omega) rfl (by rfl) hG3z wx.heap.size [.int .i64 (h.1), .int .i64 (h.2.1), .slice A2 n2 c2] h (by rfl) Vc (tHeld.keep hh (fun b hb => (show Below w.heap.size w wc from hBc).block b hb)) (one_held _ _ _ _ _) (by omega) (by first | omega | (simp; done) | (simp; omega) | (show _ ≤ (World.alloc _ _).heap.size; simp) | (show _ ≤ (World.alloc _ _).heap.size; simp; omega)) t3 t4 ?_
            intro v5 w5 hG5 hgr5
            obtain ⟨A9, n9, c9, rfl, -⟩ := hG5.shapeN
            have hC5 : Below wx.heap.size wx w5 := Below.grown (w := wc) hCc hgr5 (by first | omega | (simp; done) | (simp; omega) | (show _ ≤ (World.alloc _ _).heap.size; simp) | (show _ ≤ (World.alloc _ _).heap.size; simp; omega)) (fun b hb => by have := (hOwn4 b hb).1; omega)
            have hB5 : Below w.heap.size w w5 := bel_trans hBx hC5
            have z5 := hC5.size
            have H5 := Box.grown (w := wc) Hc hgr5 (fun e => by have := (hOwn4 _ e.symm).1; omega)
            have T5 := Box.grown (w := wc) Tc hgr5 (fun e => by have := (hOwn4 _ e.symm).1; omega)
            have Y5 := Box.grown (w := wc) Yc hgr5 (fun e => by have := (hOwn4 _ e.symm).1; omega)
            have q0 := T5.cell 0
            have q1 := T5.cell 1
            have f0 := T5.frozen 0
            have f1 := T5.frozen 1
            have H9 := H5.far (p := ⟨w.heap.size, 0, none⟩) (by show w.heap.size + 1 ≠ w.heap.size; omega) (.slice A9 n9 c9)
            have Y9 := Y5.far (p := ⟨w.heap.size, 0, none⟩) (by show w.heap.size + 1 + 1 ≠ w.heap.size; omega) (.slice A9 n9 c9)
            have T9 := T5.put 0 (.slice A9 n9 c9)
            have s0 := T9.cell 0
            have s1 := T9.cell 1
            refine hK.out _ _ (by exact ⟨H5.cell 0, H5.cell 1, H5.cell 2⟩) (fun hHeld => ?_)
            clear hK K
            (try simp only [Act.put, qa_, qb_, qc_])
            refine wpAnyH_take (i := 6) (v := ?v4) rfl (by kernel_rfl) (by kernel_rfl) (by kernel_rfl) (fun _ _ _ h => h) (Or.inl ⟨by rfl, ?hy4⟩) (by assumption) ?_
            case hy4 => (intro w hSw; (try dsimp only at hSw); go_simp; try (with_reducible rfl))
            (try simp only [Act.put, qa_, qb_, qc_])
            refine wpAnyH_ready (rs := [7]) (by kernel_rfl) (by simp) ?_
            refine AllReadyH.cons rfl (fun K hK => ?_) ?_
            · go_simp
              refine hK.out _ _ (by exact ⟨H9.cell 0, H9.cell 1, H9.cell 2⟩) (fun hHeld => ?_)
              clear hK K
              (try simp only [Act.put, qa_, qb_, qc_])
              refine wpAnyH_done (by kernel_rfl) ?_ _
              go_wp2_with fail
              refine (i_PlCopy ((hG5.put (p := ⟨w.heap.size, 0, none⟩) (by show w.heap.size < _; omega) (Nat.le_refl _) (.slice A9 n9 c9)).doneAs (by simp [World.setCell]; omega)) (tIs.read (Ty.far3 (t := tIs) (Ty.below (t := tIs) O7x hC5) (p := ⟨w.heap.size, 0, none⟩) (fun hx => by have := hM7.2 _ hx; dsimp only at this; omega) (.slice A9 n9 c9))) hz3).mono ?_
              rintro e w6 ⟨B0, d0, B1, d1, F, rfl, hO, hN, hb6⟩
              obtain ⟨m0, hm0⟩ : ∃ m, (p.1 ++ [h]).length = m := ⟨_, rfl⟩
              obtain ⟨m1, hm1⟩ : ∃ m, (p.2 ++ [tag]).length = m := ⟨_, rfl⟩
              rw [hm0, hm1] at hO
              rw [hm0, hm1]
              clear hm0 hm1
              have Y6 := Y9.below hb6 Y9.size
              have y0 := Y6.cell 0; have y1 := Y6.cell 1; have y2 := Y6.frozen 0; have y3 := Y6.frozen 1
              have hM : New (w.heap.size + 3) F := hN.lower (by simp [World.setCell]; omega)
              go_wp2
              have RR := (Box.put Y6 0 (.slice B0 m0 d0)).put 1 (.slice B1 m1 d1)
              have e0 := RR.cell 0; have e1 := RR.cell 1
              refine bodyPost_ret (v := .tuple #[.agg #[.slice B0 m0 d0, .slice B1 m1 d1], .int .i64 (0)]) (by simp [results, Try.results10, go_sem, e0, e1]) rfl ⟨[.slice B0 m0 d0, .slice B1 m1 d1], F, rfl, put2_O hO (hM.not (by omega)), hM.lower (by omega), ?_⟩
              exact bel_put (bel_put (bel_trans (bel_put hB5 (Nat.le_refl _) _) hb6) (by show _ ≤ w.heap.size + 1 + 1; omega) _) (by show _ ≤ w.heap.size + 1 + 1; omega) _
            exact AllReadyH.nil
          exact AllReadyH.nil
        exact AllReadyH.nil
      exact AllReadyH.nil
    refine AllReadyH.cons rfl (fun K hK => ?_) ?_
    · go_simp
      refine hK.out _ _ (by exact ⟨HxV.cell 0, HxV.cell 1, HxV.cell 2⟩) (fun hHeld => ?_)
      clear hK K
      (try simp only [Act.put, qa_, qb_, qc_])
      refine wpAnyH_ready (rs := [1]) (by kernel_rfl) (by simp) ?_
      refine AllReadyH.cons rfl (fun K hK => ?_) ?_
      · go_simp
        refine hK.out _ _ (by exact ⟨HxV.cell 0, HxV.cell 1, HxV.cell 2⟩) (fun hHeld => ?_)
        clear hK K
        (try simp only [Act.put, qa_, qb_, qc_])
        refine wpAnyH_ready (rs := [2]) (by kernel_rfl) (by simp) ?_
        refine AllReadyH.cons rfl (fun K hK => ?_) ?_
        · go_simp
          go_at_call 42
          refine (i_copiedH5 (B := w.heap.size) (tHeld.row.keep hr0 (fun b hb => (show Below w.heap.size w ((wx.alloc (.cells ([.int .i64 (h.1), .int .i64 (h.2.1), .slice A2 n2 c2].toArray) 30)).drew) from bel_trans hBx (belx)).block b hb)) (show w.heap.size ≤ ((wx.alloc (.cells ([.int .i64 (h.1), .int .i64 (h.2.1), .slice A2 n2 c2].toArray) 30)).drew).heap.size from (show Below w.heap.size w ((wx.alloc (.cells ([.int .i64 (h.1), .int .i64 (h.2.1), .slice A2 n2 c2].toArray) 30)).drew) from bel_trans hBx (belx)).size) (by omega)).mono ?_
          rintro e wc ⟨v3, rfl, hG3, hbc⟩
          have hCc : Below wx.heap.size wx wc := bel_trans (show Below wx.heap.size wx ((wx.alloc (.cells ([.int .i64 (h.1), .int .i64 (h.2.1), .slice A2 n2 c2].toArray) 30)).drew) from (belx)) hbc
          have hBc : Below w.heap.size w wc := bel_trans hBx hCc
          have zc : wx.heap.size + 1 ≤ wc.heap.size := Nat.le_trans (by first | omega | (simp; done) | (simp; omega) | (show _ ≤ (World.alloc _ _).heap.size; simp) | (show _ ≤ (World.alloc _ _).heap.size; simp; omega)) hbc.size
          have Hc := Box.below (Box.drew HxV) hbc (Box.drew HxV).size
          have Tc := Box.below (Box.drew TxV) hbc (Box.drew TxV).size
          have Yc := Box.below (Box.drew YxV) hbc (Box.drew YxV).size
          have Vc := Box.below (Box.drew VxV) hbc (Box.drew VxV).size
          have HcV := Hc.alloc (.cells ([.int .i64 (h.1), .int .i64 (h.2.1), .slice A2 n2 c2].toArray) 30)
          have hbs : wx.heap.size ≤ ((wx.alloc (.cells ([.int .i64 (h.1), .int .i64 (h.2.1), .slice A2 n2 c2].toArray) 30)).drew).heap.size := (by first | omega | (simp; done) | (simp; omega) | (show _ ≤ (World.alloc _ _).heap.size; simp) | (show _ ≤ (World.alloc _ _).heap.size; simp; omega))
          have hOwn3 := fun b hb => hG3.own b hb
          obtain ⟨base, hbase, hG3z, hOwn4⟩ : ∃ base, (wx.heap.size ≤ base ∧ base ≤ wc.heap.size) ∧ GrowR tHeld 30 wc base w.heap.size v3 p.1 ∧ ∀ b, v3.ownBlock = some b → base ≤ b ∧ b < wc.heap.size := ⟨_, ⟨hbs, hbc.size⟩, hG3, hOwn3⟩
          clear hG3 hOwn3
          go_wp2_with fail
          refine hK.out _ _ (by exact ⟨Hc.cell 0, Hc.cell 1, Hc.cell 2⟩) (fun hHeld => ?_)
          clear hK K
          (try simp only [Act.put, qa_, qb_, qc_])
          refine wpAnyH_ready (rs := [5]) (by kernel_rfl) (by simp) ?_
          refine AllReadyH.cons rfl (fun K hK => ?_) ?_
          · refine GrowR.step (by rfl) (.tmp 39) (.tmp 41) _ (by rfl) i1 _ 3 40 Try.underlying23 hj0 hj1 hj2 hj3 tz (by omega) rfl (by rfl) hG3z wx.heap.size [.int .i64 (h.1), .int .i64 (h.2.1), .slice A2 n2 c2] h (by rfl) Vc (tHeld.keep hh (fun b hb => (show Below w.heap.size w wc from hBc).block b hb)) (one_held _ _ _ _ _) (by omega) (by first | omega | (simp; done) | (simp; omega) | (show _ ≤ (World.alloc _ _).heap.size; simp) | (show _ ≤ (World.alloc _ _).heap.size; simp; omega)) t3 t4 ?_
            intro v5 w5 hG5 hgr5
            obtain ⟨A9, n9, c9, rfl, -⟩ := hG5.shapeN
            have hC5 : Below wx.heap.size wx w5 := Below.grown (w := wc) hCc hgr5 (by first | omega | (simp; done) | (simp; omega) | (show _ ≤ (World.alloc _ _).heap.size; simp) | (show _ ≤ (World.alloc _ _).heap.size; simp; omega)) (fun b hb => by have := (hOwn4 b hb).1; omega)
            have hB5 : Below w.heap.size w w5 := bel_trans hBx hC5
            have z5 := hC5.size
            have H5 := Box.grown (w := wc) Hc hgr5 (fun e => by have := (hOwn4 _ e.symm).1; omega)
            have T5 := Box.grown (w := wc) Tc hgr5 (fun e => by have := (hOwn4 _ e.symm).1; omega)
            have Y5 := Box.grown (w := wc) Yc hgr5 (fun e => by have := (hOwn4 _ e.symm).1; omega)
            have q0 := T5.cell 0
            have q1 := T5.cell 1
            have f0 := T5.frozen 0
            have f1 := T5.frozen 1
            have H9 := H5.far (p := ⟨w.heap.size, 0, none⟩) (by show w.heap.size + 1 ≠ w.heap.size; omega) (.slice A9 n9 c9)
            have Y9 := Y5.far (p := ⟨w.heap.size, 0, none⟩) (by show w.heap.size + 1 + 1 ≠ w.heap.size; omega) (.slice A9 n9 c9)
            have T9 := T5.put 0 (.slice A9 n9 c9)
            have s0 := T9.cell 0
            have s1 := T9.cell 1
            refine hK.out _ _ (by exact ⟨H5.cell 0, H5.cell 1, H5.cell 2⟩) (fun hHeld => ?_)
            clear hK K
            (try simp only [Act.put, qa_, qb_, qc_])
            refine wpAnyH_take (i := 6) (v := ?v5) rfl (by kernel_rfl) (by kernel_rfl) (by kernel_rfl) (fun _ _ _ h => h) (Or.inl ⟨by rfl, ?hy5⟩) (by assumption) ?_
            case hy5 => (intro w hSw; (try dsimp only at hSw); go_simp; try (with_reducible rfl))
            (try simp only [Act.put, qa_, qb_, qc_])
            refine wpAnyH_ready (rs := [7]) (by kernel_rfl) (by simp) ?_
            refine AllReadyH.cons rfl (fun K hK => ?_) ?_
            · go_simp
              refine hK.out _ _ (by exact ⟨H9.cell 0, H9.cell 1, H9.cell 2⟩) (fun hHeld => ?_)
              clear hK K
              (try simp only [Act.put, qa_, qb_, qc_])
              refine wpAnyH_done (by kernel_rfl) ?_ _
              go_wp2_with fail
              refine (i_PlCopy ((hG5.put (p := ⟨w.heap.size, 0, none⟩) (by show w.heap.size < _; omega) (Nat.le_refl _) (.slice A9 n9 c9)).doneAs (by simp [World.setCell]; omega)) (tIs.read (Ty.far3 (t := tIs) (Ty.below (t := tIs) O7x hC5) (p := ⟨w.heap.size, 0, none⟩) (fun hx => by have := hM7.2 _ hx; dsimp only at this; omega) (.slice A9 n9 c9))) hz3).mono ?_
              rintro e w6 ⟨B0, d0, B1, d1, F, rfl, hO, hN, hb6⟩
              obtain ⟨m0, hm0⟩ : ∃ m, (p.1 ++ [h]).length = m := ⟨_, rfl⟩
              obtain ⟨m1, hm1⟩ : ∃ m, (p.2 ++ [tag]).length = m := ⟨_, rfl⟩
              rw [hm0, hm1] at hO
              rw [hm0, hm1]
              clear hm0 hm1
              have Y6 := Y9.below hb6 Y9.size
              have y0 := Y6.cell 0; have y1 := Y6.cell 1; have y2 := Y6.frozen 0; have y3 := Y6.frozen 1
              have hM : New (w.heap.size + 3) F := hN.lower (by simp [World.setCell]; omega)
              go_wp2
              have RR := (Box.put Y6 0 (.slice B0 m0 d0)).put 1 (.slice B1 m1 d1)
              have e0 := RR.cell 0; have e1 := RR.cell 1
              refine bodyPost_ret (v := .tuple #[.agg #[.slice B0 m0 d0, .slice B1 m1 d1], .int .i64 (0)]) (by simp [results, Try.results10, go_sem, e0, e1]) rfl ⟨[.slice B0 m0 d0, .slice B1 m1 d1], F, rfl, put2_O hO (hM.not (by omega)), hM.lower (by omega), ?_⟩
              exact bel_put (bel_put (bel_trans (bel_put hB5 (Nat.le_refl _) _) hb6) (by show _ ≤ w.heap.size + 1 + 1; omega) _) (by show _ ≤ w.heap.size + 1 + 1; omega) _
            exact AllReadyH.nil
          exact AllReadyH.nil
        exact AllReadyH.nil
      exact AllReadyH.nil
    exact AllReadyH.nil
end Go.Proofs.Ytblcfncjghkegaa
