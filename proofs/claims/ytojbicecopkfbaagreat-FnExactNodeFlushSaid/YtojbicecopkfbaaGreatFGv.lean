/-
  PNfS: texts joined.
-/
import Derived.Test.YtojbicecopkfbaaGreatFGp
import Derived.Test.YtojbicecopkfbaaGreatFGu
import Derived.Test.YtojbicecopkfbaaGreatFMCpN
namespace Go.Proofs.YtojbicecopkfbaaGreat
set_option maxRecDepth 100000
set_option linter.unusedVariables false
set_option linter.unusedSimpArgs false
open Go.ChangeShapes Go.WideShapes Go.ChangeAt Go.RowKit
open Fld
set_option maxHeartbeats 4000000 in
theorem s_NodeFlush {w : World} {cs : List Value} {p : DNode} {x : Int} {A9 : Option Addr} {n9 c9 : Nat} {d : List Int} (h : tNode.R w w.heap.size cs p) (hz : szNode p ≤ 1048576) (hx : (Lit.int .i64 x).wf = true) (hd : tBy.R w w.heap.size [.slice A9 n9 c9] d) (hzd : d.length ≤ 1048576) :
    Calls Tryz.prog 28 #[.agg cs.toArray, .int .i64 x, .slice A9 n9 c9] w fun e w' => ∃ cs' F1 A c F2, e = .returned (.tuple #[.agg cs'.toArray, .slice A (fNfL p x d).length c, .int .i64 (fNfN p x d)]) ∧ tNode.O w' cs' (fNf p x d) F1 ∧ tHeld.row.O w' [.slice A (fNfL p x d).length c] (fNfL p x d) F2 ∧ New w.heap.size (F1 ++ F2) ∧ Below w.heap.size w w' := by
  obtain ⟨A2, n2, c2, A3, n3, c3, A4, n4, c4, A5, n5, c5, A6, n6, c6, rfl, h0, h1, hP, hD, hL⟩ := fopenNode h
  have hI9 := (slR_ints hd).1
  have hn9 : n9 ≤ 140737488355328 := by have := hI9.1; omega
  by_cases hp : NdOk p
  rotate_left
  · obtain ⟨f1, f2, f3⟩ := nf_f (p := p) (x := x) (d := d) (fun y => hp y.1)
    rw [f1, f2, f3]
    have HP := Lib.hid (decide_eq_false hp)
    clear hp
    clear f1 f2 f3
    go_enter Tryz.func28, Tryz.ntmps28
    go_wp2_with fail
    refine (s_NodeOk (tNode.reach h ?hB) hz).mono ?_
    case hB => exact (belx)
    rintro e w1 ⟨rfl, hb1⟩
    rw [HP.out]
    have X1 : Box w1 w.heap.size 58 #[.int .i64 p.1, .int .i64 p.2.1, .slice A2 n2 c2, .slice A3 n3 c3, .slice A4 n4 c4, .slice A5 n5 c5, .slice A6 n6 c6] := Box.below ((Box.new _ _ _).alloc _) hb1 (by first | (simp; done) | (simp; omega))
    have Y1 : Box w1 (w.heap.size + 1) 58 #[.int .i64 0, .int .i64 0, .slice none 0 0, .slice none 0 0, .slice none 0 0, .slice none 0 0, .slice none 0 0] := Box.below (by simpa using Box.new (w.alloc _) 58 #[.int .i64 0, .int .i64 0, .slice none 0 0, .slice none 0 0, .slice none 0 0, .slice none 0 0, .slice none 0 0]) hb1 (by first | (simp; done) | (simp; omega))
    have hB1 : Below w.heap.size w w1 := bel_trans (belx) hb1
    have z1 : w.heap.size + 2 ≤ w1.heap.size := by have := hb1.size; simpa using this
    have x0 := X1.cell 0
    have x1 := X1.cell 1
    have x2 := X1.cell 2
    have x3 := X1.cell 3
    have x4 := X1.cell 4
    have x5 := X1.cell 5
    have x6 := X1.cell 6
    have y0 := Y1.cell 0; have f0 := Y1.frozen 0
    have y1 := Y1.cell 1; have f1 := Y1.frozen 1
    have y2 := Y1.cell 2; have f2 := Y1.frozen 2
    have y3 := Y1.cell 3; have f3 := Y1.frozen 3
    have y4 := Y1.cell 4; have f4 := Y1.frozen 4
    have y5 := Y1.cell 5; have f5 := Y1.frozen 5
    have y6 := Y1.cell 6; have f6 := Y1.frozen 6
    clear hb1
    go_wp2
    have RR := (((((((Y1.put 0 (.int .i64 0)).put 1 (.int .i64 0)).put 2 (.slice none 0 0)).put 3 (.slice none 0 0)).put 4 (.slice none 0 0)).put 5 (.slice none 0 0)).put 6 (.slice none 0 0))
    have e0 := RR.cell 0
    have e1 := RR.cell 1
    have e2 := RR.cell 2
    have e3 := RR.cell 3
    have e4 := RR.cell 4
    have e5 := RR.cell 5
    have e6 := RR.cell 6
    refine bodyPost_ret (v := .tuple #[.agg #[.int .i64 0, .int .i64 0, .slice none 0 0, .slice none 0 0, .slice none 0 0, .slice none 0 0, .slice none 0 0], .slice none 0 0, .int .i64 (-2)]) (by simp [results, Tryz.results28, go_sem, e0, e1, e2, e3, e4, e5, e6]) rfl ⟨[.int .i64 0, .int .i64 0, .slice none 0 0, .slice none 0 0, .slice none 0 0, .slice none 0 0, .slice none 0 0], [], none, 0, [], rfl, Ty.far7 (nwO (by decide) (by decide)) (by simp) _ _ _ _ _ _ _, Ty.far7 (t := tHeld.row) (show tHeld.row.O _ [.slice none 0 0] [] [] from (.inl ⟨none, 0, rfl, by omega, rfl, rfl⟩)) (by simp) _ _ _ _ _ _ _, New.nil _, ?_⟩
    exact bel_put7 hB1 (by omega) _ _ _ _ _ _ _
  have HP := Lib.hid (decide_eq_true hp)
  by_cases hx1 : 1 ≤ x
  rotate_left
  · obtain ⟨f1, f2, f3⟩ := nf_f (p := p) (x := x) (d := d) (fun y => hx1 y.2.1)
    rw [f1, f2, f3]
    have q1 : x < 1 := by omega
    clear hp hx1
    clear f1 f2 f3
    go_enter Tryz.func28, Tryz.ntmps28
    go_wp2_with fail
    refine (s_NodeOk (tNode.reach h ?hB) hz).mono ?_
    case hB => exact (belx)
    rintro e w1 ⟨rfl, hb1⟩
    rw [HP.out]
    have X1 : Box w1 w.heap.size 58 #[.int .i64 p.1, .int .i64 p.2.1, .slice A2 n2 c2, .slice A3 n3 c3, .slice A4 n4 c4, .slice A5 n5 c5, .slice A6 n6 c6] := Box.below ((Box.new _ _ _).alloc _) hb1 (by first | (simp; done) | (simp; omega))
    have Y1 : Box w1 (w.heap.size + 1) 58 #[.int .i64 0, .int .i64 0, .slice none 0 0, .slice none 0 0, .slice none 0 0, .slice none 0 0, .slice none 0 0] := Box.below (by simpa using Box.new (w.alloc _) 58 #[.int .i64 0, .int .i64 0, .slice none 0 0, .slice none 0 0, .slice none 0 0, .slice none 0 0, .slice none 0 0]) hb1 (by first | (simp; done) | (simp; omega))
    have hB1 : Below w.heap.size w w1 := bel_trans (belx) hb1
    have z1 : w.heap.size + 2 ≤ w1.heap.size := by have := hb1.size; simpa using this
    have x0 := X1.cell 0
    have x1 := X1.cell 1
    have x2 := X1.cell 2
    have x3 := X1.cell 3
    have x4 := X1.cell 4
    have x5 := X1.cell 5
    have x6 := X1.cell 6
    have y0 := Y1.cell 0; have f0 := Y1.frozen 0
    have y1 := Y1.cell 1; have f1 := Y1.frozen 1
    have y2 := Y1.cell 2; have f2 := Y1.frozen 2
    have y3 := Y1.cell 3; have f3 := Y1.frozen 3
    have y4 := Y1.cell 4; have f4 := Y1.frozen 4
    have y5 := Y1.cell 5; have f5 := Y1.frozen 5
    have y6 := Y1.cell 6; have f6 := Y1.frozen 6
    clear hb1
    go_wp2
    have RR := (((((((Y1.put 0 (.int .i64 0)).put 1 (.int .i64 0)).put 2 (.slice none 0 0)).put 3 (.slice none 0 0)).put 4 (.slice none 0 0)).put 5 (.slice none 0 0)).put 6 (.slice none 0 0))
    have e0 := RR.cell 0
    have e1 := RR.cell 1
    have e2 := RR.cell 2
    have e3 := RR.cell 3
    have e4 := RR.cell 4
    have e5 := RR.cell 5
    have e6 := RR.cell 6
    refine bodyPost_ret (v := .tuple #[.agg #[.int .i64 0, .int .i64 0, .slice none 0 0, .slice none 0 0, .slice none 0 0, .slice none 0 0, .slice none 0 0], .slice none 0 0, .int .i64 (-2)]) (by simp [results, Tryz.results28, go_sem, e0, e1, e2, e3, e4, e5, e6]) rfl ⟨[.int .i64 0, .int .i64 0, .slice none 0 0, .slice none 0 0, .slice none 0 0, .slice none 0 0, .slice none 0 0], [], none, 0, [], rfl, Ty.far7 (nwO (by decide) (by decide)) (by simp) _ _ _ _ _ _ _, Ty.far7 (t := tHeld.row) (show tHeld.row.O _ [.slice none 0 0] [] [] from (.inl ⟨none, 0, rfl, by omega, rfl, rfl⟩)) (by simp) _ _ _ _ _ _ _, New.nil _, ?_⟩
    exact bel_put7 hB1 (by omega) _ _ _ _ _ _ _
  by_cases hx2 : x ≤ 12
  rotate_left
  · obtain ⟨f1, f2, f3⟩ := nf_f (p := p) (x := x) (d := d) (fun y => hx2 y.2.2)
    rw [f1, f2, f3]
    have q2 : (12 : Int) < x := by omega
    clear hp hx2
    clear f1 f2 f3
    go_enter Tryz.func28, Tryz.ntmps28
    go_wp2_with fail
    refine (s_NodeOk (tNode.reach h ?hB) hz).mono ?_
    case hB => exact (belx)
    rintro e w1 ⟨rfl, hb1⟩
    rw [HP.out]
    have X1 : Box w1 w.heap.size 58 #[.int .i64 p.1, .int .i64 p.2.1, .slice A2 n2 c2, .slice A3 n3 c3, .slice A4 n4 c4, .slice A5 n5 c5, .slice A6 n6 c6] := Box.below ((Box.new _ _ _).alloc _) hb1 (by first | (simp; done) | (simp; omega))
    have Y1 : Box w1 (w.heap.size + 1) 58 #[.int .i64 0, .int .i64 0, .slice none 0 0, .slice none 0 0, .slice none 0 0, .slice none 0 0, .slice none 0 0] := Box.below (by simpa using Box.new (w.alloc _) 58 #[.int .i64 0, .int .i64 0, .slice none 0 0, .slice none 0 0, .slice none 0 0, .slice none 0 0, .slice none 0 0]) hb1 (by first | (simp; done) | (simp; omega))
    have hB1 : Below w.heap.size w w1 := bel_trans (belx) hb1
    have z1 : w.heap.size + 2 ≤ w1.heap.size := by have := hb1.size; simpa using this
    have x0 := X1.cell 0
    have x1 := X1.cell 1
    have x2 := X1.cell 2
    have x3 := X1.cell 3
    have x4 := X1.cell 4
    have x5 := X1.cell 5
    have x6 := X1.cell 6
    have y0 := Y1.cell 0; have f0 := Y1.frozen 0
    have y1 := Y1.cell 1; have f1 := Y1.frozen 1
    have y2 := Y1.cell 2; have f2 := Y1.frozen 2
    have y3 := Y1.cell 3; have f3 := Y1.frozen 3
    have y4 := Y1.cell 4; have f4 := Y1.frozen 4
    have y5 := Y1.cell 5; have f5 := Y1.frozen 5
    have y6 := Y1.cell 6; have f6 := Y1.frozen 6
    clear hb1
    go_wp2
    have RR := (((((((Y1.put 0 (.int .i64 0)).put 1 (.int .i64 0)).put 2 (.slice none 0 0)).put 3 (.slice none 0 0)).put 4 (.slice none 0 0)).put 5 (.slice none 0 0)).put 6 (.slice none 0 0))
    have e0 := RR.cell 0
    have e1 := RR.cell 1
    have e2 := RR.cell 2
    have e3 := RR.cell 3
    have e4 := RR.cell 4
    have e5 := RR.cell 5
    have e6 := RR.cell 6
    refine bodyPost_ret (v := .tuple #[.agg #[.int .i64 0, .int .i64 0, .slice none 0 0, .slice none 0 0, .slice none 0 0, .slice none 0 0, .slice none 0 0], .slice none 0 0, .int .i64 (-2)]) (by simp [results, Tryz.results28, go_sem, e0, e1, e2, e3, e4, e5, e6]) rfl ⟨[.int .i64 0, .int .i64 0, .slice none 0 0, .slice none 0 0, .slice none 0 0, .slice none 0 0, .slice none 0 0], [], none, 0, [], rfl, Ty.far7 (nwO (by decide) (by decide)) (by simp) _ _ _ _ _ _ _, Ty.far7 (t := tHeld.row) (show tHeld.row.O _ [.slice none 0 0] [] [] from (.inl ⟨none, 0, rfl, by omega, rfl, rfl⟩)) (by simp) _ _ _ _ _ _ _, New.nil _, ?_⟩
    exact bel_put7 hB1 (by omega) _ _ _ _ _ _ _
  have q2 : ¬ (12 : Int) < x := by omega
  have q1 : ¬ x < 1 := by omega
  have hfo : FlOk p.2.2.1 x := ⟨hp.2.2.1, hx1, hx2⟩
  have hz2 : szNode (nfN p x d) ≤ 1048576 := by have := nfN_sz p x d; omega
  obtain ⟨f1, f2, f3⟩ := nf_t (p := p) (x := x) (d := d) ⟨hp, hx1, hx2⟩
  rw [f1, f2, f3]
  clear f1 f2 f3 hp
  have hlen : 0 ≤ n2 := Nat.zero_le _
  go_enter Tryz.func28, Tryz.ntmps28
  go_wp2_with fail
  refine (s_NodeOk (tNode.reach h ?hB) hz).mono ?_
  case hB => exact (belx)
  rintro e w1 ⟨rfl, hb1⟩
  rw [HP.out]
  have X1 : Box w1 w.heap.size 58 #[.int .i64 p.1, .int .i64 p.2.1, .slice A2 n2 c2, .slice A3 n3 c3, .slice A4 n4 c4, .slice A5 n5 c5, .slice A6 n6 c6] := Box.below ((Box.new _ _ _).alloc _) hb1 (by first | (simp; done) | (simp; omega))
  have Y1 : Box w1 (w.heap.size + 1) 58 #[.int .i64 0, .int .i64 0, .slice none 0 0, .slice none 0 0, .slice none 0 0, .slice none 0 0, .slice none 0 0] := Box.below (by simpa using Box.new (w.alloc _) 58 #[.int .i64 0, .int .i64 0, .slice none 0 0, .slice none 0 0, .slice none 0 0, .slice none 0 0, .slice none 0 0]) hb1 (by first | (simp; done) | (simp; omega))
  have hB1 : Below w.heap.size w w1 := bel_trans (belx) hb1
  have z1 : w.heap.size + 2 ≤ w1.heap.size := by have := hb1.size; simpa using this
  have x0 := X1.cell 0
  have x1 := X1.cell 1
  have x2 := X1.cell 2
  have x3 := X1.cell 3
  have x4 := X1.cell 4
  have x5 := X1.cell 5
  have x6 := X1.cell 6
  have y0 := Y1.cell 0; have f0 := Y1.frozen 0
  have y1 := Y1.cell 1; have f1 := Y1.frozen 1
  have y2 := Y1.cell 2; have f2 := Y1.frozen 2
  have y3 := Y1.cell 3; have f3 := Y1.frozen 3
  have y4 := Y1.cell 4; have f4 := Y1.frozen 4
  have y5 := Y1.cell 5; have f5 := Y1.frozen 5
  have y6 := Y1.cell 6; have f6 := Y1.frozen 6
  clear hb1
  go_wp2_with fail
  refine (s_flushAll (B := w.heap.size) hB1.size (tPool.keep hP (fun b hb => hB1.block b hb)) hfo (reach hI9 hB1) hn9).mono ?_
  rintro e w2 ⟨B2, m2, d2, A8, c8, rfl, hRP, hG, hb2⟩
  have X2 := X1.below hb2 X1.size
  have Y2 := Y1.below hb2 Y1.size
  have hB2 : Below w.heap.size w w2 := bel_trans hB1 hb2
  have z2 : w1.heap.size ≤ w2.heap.size := hb2.size
  clear x0 y0 f0 x1 y1 f1 x2 y2 f2 x3 y3 f3 x4 y4 f4 x5 y5 f5 x6 y6 f6
  have X3 := X2.alloc (.cells #[.slice B2 m2 d2, .slice A3 n3 c3] 55)
  have Y3 := Y2.alloc (.cells #[.slice B2 m2 d2, .slice A3 n3 c3] 55)
  have D3 : Box (w2.alloc (.cells #[.slice B2 m2 d2, .slice A3 n3 c3] 55)) w2.heap.size 55 #[.slice B2 m2 d2, .slice A3 n3 c3] := Box.new _ _ _
  have hB3 : Below w.heap.size w (w2.alloc (.cells #[.slice B2 m2 d2, .slice A3 n3 c3] 55)) := bel_alloc hB2 _
  have hG3 := hG.below (show Below w2.heap.size w2 (w2.alloc (.cells #[.slice B2 m2 d2, .slice A3 n3 c3] 55)) from (belx)) (by omega)
  have x0 := X3.cell 0; have g0 := X3.frozen 0
  have x1 := X3.cell 1; have g1 := X3.frozen 1
  have x2 := X3.cell 2; have g2 := X3.frozen 2
  have x3 := X3.cell 3; have g3 := X3.frozen 3
  have x4 := X3.cell 4; have g4 := X3.frozen 4
  have x5 := X3.cell 5; have g5 := X3.frozen 5
  have x6 := X3.cell 6; have g6 := X3.frozen 6
  have p0 := D3.cell 0; have p1 := D3.cell 1
  have ne1 : ¬ w2.heap.size = w.heap.size := by omega
  have ne2 : ¬ w.heap.size = w2.heap.size := by omega
  have X4 := (X3.put 2 (.slice B2 m2 d2)).put 3 (.slice A3 n3 c3)
  have Y4 := (Y3.far (p := ⟨w.heap.size, 2, none⟩) (by show w.heap.size + 1 ≠ w.heap.size; omega) (.slice B2 m2 d2)).far (p := ⟨w.heap.size, 3, none⟩) (by show w.heap.size + 1 ≠ w.heap.size; omega) (.slice A3 n3 c3)
  have G4 := (hG3.put (p := ⟨w.heap.size, 2, none⟩) (by show w.heap.size < _; omega) (by show _ ≤ w.heap.size; omega) (.slice B2 m2 d2)).put (p := ⟨w.heap.size, 3, none⟩) (by show w.heap.size < _; omega) (by show _ ≤ w.heap.size; omega) (.slice A3 n3 c3)
  have hB4 : Below w.heap.size w (((w2.alloc (.cells #[.slice B2 m2 d2, .slice A3 n3 c3] 55)).setCell ⟨w.heap.size, 2, none⟩ (.slice B2 m2 d2)).setCell ⟨w.heap.size, 3, none⟩ (.slice A3 n3 c3)) := bel_put (bel_put hB3 (p := ⟨w.heap.size, 2, none⟩) (Nat.le_refl _) _) (p := ⟨w.heap.size, 3, none⟩) (Nat.le_refl _) _
  have R4 : tNode.R (((w2.alloc (.cells #[.slice B2 m2 d2, .slice A3 n3 c3] 55)).setCell ⟨w.heap.size, 2, none⟩ (.slice B2 m2 d2)).setCell ⟨w.heap.size, 3, none⟩ (.slice A3 n3 c3)) (((w2.alloc (.cells #[.slice B2 m2 d2, .slice A3 n3 c3] 55)).setCell ⟨w.heap.size, 2, none⟩ (.slice B2 m2 d2)).setCell ⟨w.heap.size, 3, none⟩ (.slice A3 n3 c3)).heap.size [.int .i64 p.1, .int .i64 p.2.1, .slice B2 m2 d2, .slice A3 n3 c3, .slice A4 n4 c4, .slice A5 n5 c5, .slice A6 n6 c6] (nfN p x d) := fmakeNodeR (p := nfN p x d) h0 h1 (tPool.up (hRP _ (fun b hb => (hB4.block b hb).trans (hB1.block b hb).symm)) hB4.size) (tDesk.up (tDesk.keep hD hB4.block) hB4.size) (tLetter.row.up (tLetter.row.keep hL hB4.block) hB4.size)
  have zz4 : w2.heap.size + 1 ≤ (((w2.alloc (.cells #[.slice B2 m2 d2, .slice A3 n3 c3] 55)).setCell ⟨w.heap.size, 2, none⟩ (.slice B2 m2 d2)).setCell ⟨w.heap.size, 3, none⟩ (.slice A3 n3 c3)).heap.size := by simp [World.setCell]
  clear hRP hG hG3 X1 Y1 X2 Y2 X3 Y3
  go_wp2_with fail
  refine (s_NodeOwn (p := nfN p x d) R4 hz2).mono ?_
  rintro e w5 ⟨cs5, F1, rfl, hO, hN, hb5⟩
  have X5 := X4.below hb5 X4.size
  have Y5 := Y4.below hb5 Y4.size
  have G5 := G4.below hb5 (by omega)
  have hB5 : Below w.heap.size w w5 := bel_trans hB4 hb5
  have z5 := hb5.size
  have hN1 : New (w.heap.size + 2) F1 := hN.lower (by omega)
  have hFl : ∀ f ∈ F1, f < w5.heap.size := fun f hf => tNode.lt hO f hf
  clear x0 g0 x1 g1 x2 g2 x3 g3 x4 g4 x5 g5 x6 g6 p0 p1 ne1 ne2
  go_wp2_with fail
  refine (s_ownHeld (G5.doneAs hB5.size) (by have := fFlL_sz p.2.2.1 x (ints_by hI9); omega)).mono ?_
  rintro e w6 ⟨A7, c7, F2, rfl, hO2, hN2, hb6⟩
  have Y6 := Y5.below hb6 Y5.size
  have y0 := Y6.cell 0; have f0 := Y6.frozen 0
  have y1 := Y6.cell 1; have f1 := Y6.frozen 1
  have y2 := Y6.cell 2; have f2 := Y6.frozen 2
  have y3 := Y6.cell 3; have f3 := Y6.frozen 3
  have y4 := Y6.cell 4; have f4 := Y6.frozen 4
  have y5 := Y6.cell 5; have f5 := Y6.frozen 5
  have y6 := Y6.cell 6; have f6 := Y6.frozen 6
  have hB6 : Below w.heap.size w w6 := bel_trans hB5 hb6
  have hO6 := Ty.below (t := tNode) hO hb6
  have hM : New (w.heap.size + 2) (F1 ++ F2) := New.app hN1 hN2 (by omega) hFl
  have hO7 := hO6
  obtain ⟨G2, d2_, G3, d3_, G4_, d4_, G5_, d5_, G6_, d6_, H2, H4, H6, rfl, -, -, -, -, -, -⟩ := fopenONode hO7
  clear hO7
  have z6 := hb6.size
  go_wp2
  have RR := (((((((Y6.put 0 (.int .i64 (nfN p x d).1)).put 1 (.int .i64 (nfN p x d).2.1)).put 2 (.slice G2 (nfN p x d).2.2.1.1.length d2_)).put 3 (.slice G3 (nfN p x d).2.2.1.2.length d3_)).put 4 (.slice G4_ (nfN p x d).2.2.2.1.1.length d4_)).put 5 (.slice G5_ (nfN p x d).2.2.2.1.2.length d5_)).put 6 (.slice G6_ (nfN p x d).2.2.2.2.length d6_))
  have e0 := RR.cell 0
  have e1 := RR.cell 1
  have e2 := RR.cell 2
  have e3 := RR.cell 3
  have e4 := RR.cell 4
  have e5 := RR.cell 5
  have e6 := RR.cell 6
  refine bodyPost_ret (v := .tuple #[.agg #[.int .i64 (nfN p x d).1, .int .i64 (nfN p x d).2.1, .slice G2 (nfN p x d).2.2.1.1.length d2_, .slice G3 (nfN p x d).2.2.1.2.length d3_, .slice G4_ (nfN p x d).2.2.2.1.1.length d4_, .slice G5_ (nfN p x d).2.2.2.1.2.length d5_, .slice G6_ (nfN p x d).2.2.2.2.length d6_], .slice A7 (fFlL p.2.2.1 x d).length c7, .int .i64 (fFlN p.2.2.1 x d)]) (by simp [results, Tryz.results28, go_sem, e0, e1, e2, e3, e4, e5, e6]) rfl ⟨[.int .i64 (nfN p x d).1, .int .i64 (nfN p x d).2.1, .slice G2 (nfN p x d).2.2.1.1.length d2_, .slice G3 (nfN p x d).2.2.1.2.length d3_, .slice G4_ (nfN p x d).2.2.2.1.1.length d4_, .slice G5_ (nfN p x d).2.2.2.1.2.length d5_, .slice G6_ (nfN p x d).2.2.2.2.length d6_], F1, A7, c7, F2, rfl, Ty.far7 hO6 (by exact fun hh => hM.not (by omega) (List.mem_append.2 (.inl hh))) _ _ _ _ _ _ _, Ty.far7 (t := tHeld.row) hO2 (by exact fun hh => hM.not (by omega) (List.mem_append.2 (.inr hh))) _ _ _ _ _ _ _, hM.lower (by omega), ?_⟩
  exact bel_put7 hB6 (by omega) _ _ _ _ _ _ _
theorem s_NodeFlushR {w : World} {cs : List Value} {p : DNode} {x : Int} {A9 : Option Addr} {n9 c9 : Nat} {d : List Int} (h : tNode.R w w.heap.size cs p) (hz : szNode p ≤ 1048576) (hx : (Lit.int .i64 x).wf = true) (hd : tBy.R w w.heap.size [.slice A9 n9 c9] d) (hzd : d.length ≤ 1048576) :
    Calls Tryz.prog 28 #[.agg cs.toArray, .int .i64 x, .slice A9 n9 c9] w fun e w' => ∃ cs' A c, e = .returned (.tuple #[.agg cs'.toArray, .slice A (fNfL p x d).length c, .int .i64 (fNfN p x d)]) ∧ tNode.R w' w'.heap.size cs' (fNf p x d) ∧ tHeld.row.R w' w'.heap.size [.slice A (fNfL p x d).length c] (fNfL p x d) ∧ Below w.heap.size w w' :=
  (s_NodeFlush h hz hx hd hzd).mono fun e w' ⟨cs', F1, A, c, F2, he, hO1, hO2, hN, hB⟩ => ⟨cs', A, c, he, tNode.read hO1, tHeld.row.read hO2, hB⟩
end Go.Proofs.YtojbicecopkfbaaGreat
