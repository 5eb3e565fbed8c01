/-
  The laws' functions on Held.
-/
import Derived.Test.YtilopapnipealaaGreatMk
import Derived.Test.YtilopapnipealaaGreatLCell
namespace Go.Proofs.YtilopapnipealaaGreat
set_option maxRecDepth 100000
set_option linter.unusedVariables false
set_option linter.unusedSimpArgs false
open Go.ChangeShapes Go.WideShapes Go.ChangeAt Go.RowKit
theorem o_szHeld_t {w : World} {cs : List Value} {p : DHeld} {k : Int} (h : tHeld.R w w.heap.size cs p) (h1 : 0 ≤ k) (h2 : k ≤ 1048576) (h3 : (szHeld p : Int) ≤ k) :
    Calls Tryz.prog 159 #[.agg cs.toArray, .int .i64 k] w fun e w' => e = .returned (.int .i64 (k - szHeld p)) ∧ Below w.heap.size w w' := by
  obtain ⟨A2, n2, c2, rfl, hi0, hi1, ha2, hb2, hl2, hr2⟩ := openHeld h
  obtain ⟨x0, x1, l2⟩ := p
  try dsimp only [szHeld] at *
  subst hl2
  have d0 : decide (k - ((szCell l2 : Nat) : Int) < 0) = false := by simp; omega
  go_enter Tryz.func159, Tryz.ntmps159
  go_wp2_with fail
  refine (o_szCell_t (tCell.reach (makeCell (p := l2) hr2) ?hB) (by omega) (by omega) (by omega)).mono ?_
  case hB => exact (by repeat (first | (with_reducible exact Below.refl _ _) | (with_reducible assumption) | (with_reducible refine bel_alloc ?_ _) | (with_reducible refine bel_drew ?_) | (with_reducible refine below_drewN ?_ _) | (with_reducible refine bel_put ?_ (by first | exact Nat.le_refl _ | (simp; done) | (simp; omega)) _)))
  rintro e w1 ⟨rfl, hb1⟩
  have hB1 : Below w.heap.size w w1 := bel_trans (by repeat (first | (with_reducible exact Below.refl _ _) | (with_reducible assumption) | (with_reducible refine bel_alloc ?_ _) | (with_reducible refine bel_drew ?_) | (with_reducible refine below_drewN ?_ _) | (with_reducible refine bel_put ?_ (by first | exact Nat.le_refl _ | (simp; done) | (simp; omega)) _))) hb1
  have P1 : Box w1 w.heap.size 183 #[.int .i64 x0, .int .i64 x1, .slice A2 l2.length c2] := (Box.new _ _ _).below hb1 (by first | (simp; done) | (simp; omega))
  go_wp2
  go_ret
  exact ⟨ret_int (by omega), hB1⟩
theorem o_szHeld_f {w : World} {cs : List Value} {p : DHeld} {k : Int} (h : tHeld.R w w.heap.size cs p) (h1 : 0 ≤ k) (h2 : k ≤ 1048576) (h3 : ¬ (szHeld p : Int) ≤ k) :
    Calls Tryz.prog 159 #[.agg cs.toArray, .int .i64 k] w fun e w' => e = .returned (.int .i64 (-1)) ∧ Below w.heap.size w w' := by
  obtain ⟨A2, n2, c2, rfl, hi0, hi1, ha2, hb2, hl2, hr2⟩ := openHeld h
  obtain ⟨x0, x1, l2⟩ := p
  try dsimp only [szHeld] at *
  subst hl2
  go_enter Tryz.func159, Tryz.ntmps159
  go_wp2_with fail
  refine (o_szCell_f (tCell.reach (makeCell (p := l2) hr2) ?hB) (by omega) (by omega) (by omega)).mono ?_
  case hB => exact (by repeat (first | (with_reducible exact Below.refl _ _) | (with_reducible assumption) | (with_reducible refine bel_alloc ?_ _) | (with_reducible refine bel_drew ?_) | (with_reducible refine below_drewN ?_ _) | (with_reducible refine bel_put ?_ (by first | exact Nat.le_refl _ | (simp; done) | (simp; omega)) _)))
  rintro e w1 ⟨rfl, hb1⟩
  have hB1 : Below w.heap.size w w1 := bel_trans (by repeat (first | (with_reducible exact Below.refl _ _) | (with_reducible assumption) | (with_reducible refine bel_alloc ?_ _) | (with_reducible refine bel_drew ?_) | (with_reducible refine below_drewN ?_ _) | (with_reducible refine bel_put ?_ (by first | exact Nat.le_refl _ | (simp; done) | (simp; omega)) _))) hb1
  have P1 : Box w1 w.heap.size 183 #[.int .i64 x0, .int .i64 x1, .slice A2 l2.length c2] := (Box.new _ _ _).below hb1 (by first | (simp; done) | (simp; omega))
  go_wp2
  go_ret
  exact ⟨rfl, hB1⟩
set_option maxHeartbeats 400000 in
theorem o_toHeld {w : World} {cs : List Value} {p : DHeld} (h : tHeld.R w w.heap.size cs p) (hn : szHeld p ≤ 1048576) :
    Calls Tryz.prog 161 #[.agg cs.toArray] w fun e w' => ∃ cs' F, e = .returned (.agg cs'.toArray) ∧ tHeld.O w' cs' p F ∧ New w.heap.size F ∧ Below w.heap.size w w' := by
  obtain ⟨A2, n2, c2, rfl, hi0, hi1, ha2, hb2, hl2, hr2⟩ := openHeld h
  obtain ⟨x0, x1, l2⟩ := p
  try dsimp only [szHeld] at *
  subst hl2
  go_enter Tryz.func161, Tryz.ntmps161
  go_wp2_with fail
  refine (o_toCell (tCell.reach (makeCell (p := l2) hr2) ?hB) (by omega)).mono ?_
  case hB => exact (by repeat (first | (with_reducible exact Below.refl _ _) | (with_reducible assumption) | (with_reducible refine bel_alloc ?_ _) | (with_reducible refine bel_drew ?_) | (with_reducible refine below_drewN ?_ _) | (with_reducible refine bel_put ?_ (by first | exact Nat.le_refl _ | (simp; done) | (simp; omega)) _)))
  rintro e w1 ⟨cs1, G1, rfl, hO1, hN1, hb1⟩
  obtain ⟨B2, d2, F2, rfl, hGe1, _, _, o2⟩ := openOCell hO1
  try dsimp only at *
  subst G1
  have z1 : w.heap.size + 3 ≤ w1.heap.size := by have := hb1.size; simpa using this
  have hB1 : Below w.heap.size w w1 := bel_trans (by repeat (first | (with_reducible exact Below.refl _ _) | (with_reducible assumption) | (with_reducible refine bel_alloc ?_ _) | (with_reducible refine bel_drew ?_) | (with_reducible refine below_drewN ?_ _) | (with_reducible refine bel_put ?_ (by first | exact Nat.le_refl _ | (simp; done) | (simp; omega)) _))) hb1
  have R1 : Box w1 (w.heap.size + 1) 128 #[.int .i64 0, .int .i64 0, .slice none 0 0] := Box.below (Box.alloc (by simpa using Box.new (w.alloc _) 128 #[.int .i64 0, .int .i64 0, .slice none 0 0]) _) hb1 (by first | (simp; done) | (simp; omega))
  have L1 : Box w1 (w.heap.size + 1 + 1) 128 #[.int .i64 x0, .int .i64 x1, .slice none 0 0] := Box.below (by simpa using Box.new ((w.alloc _).alloc _) 128 #[.int .i64 x0, .int .i64 x1, .slice none 0 0]) hb1 (by first | (simp; done) | (simp; omega))
  have P1 : Box w1 w.heap.size 183 #[.int .i64 x0, .int .i64 x1, .slice A2 l2.length c2] := Box.below (((Box.new w 183 #[.int .i64 x0, .int .i64 x1, .slice A2 l2.length c2]).alloc _).alloc _) hb1 (by first | (simp; done) | (simp; omega))
  have hM1 : New (w.heap.size + 3) (F2) := hN1.lower (by simp)
  clear hN1
  have y1 : ∀ f ∈ F2, f < w1.heap.size := by intro f hf; exact tBy.lt o2 f hf
  have kr1_0 := R1.cell 0; have fr1_0 := R1.frozen 0; have kl1_0 := L1.cell 0; have fl1_0 := L1.frozen 0; have kp1_0 := P1.cell 0
  have kr1_1 := R1.cell 1; have fr1_1 := R1.frozen 1; have kl1_1 := L1.cell 1; have fl1_1 := L1.frozen 1; have kp1_1 := P1.cell 1
  have kr1_2 := R1.cell 2; have fr1_2 := R1.frozen 2; have kl1_2 := L1.cell 2; have fl1_2 := L1.frozen 2; have kp1_2 := P1.cell 2
  go_wp2
  have RR := ((((R1.far (p := ⟨w.heap.size + 1 + 1, 2, none⟩) (by first | (simp; done) | (simp; omega)) (.slice B2 l2.length d2)).put 0 (.int .i64 x0)).put 1 (.int .i64 x1)).put 2 (.slice B2 l2.length d2))
  have e0 := RR.cell 0
  have e1 := RR.cell 1
  have e2 := RR.cell 2
  have u2 := (Ty.far (t := tBy) (Ty.far (t := tBy) (Ty.far (t := tBy) (Ty.far (t := tBy) o2 hM1 (p := ⟨w.heap.size + 1 + 1, 2, none⟩) (by first | (simp; done) | (simp; omega)) (.slice B2 l2.length d2)) hM1 (p := ⟨w.heap.size + 1, 0, none⟩) (by first | (simp; done) | (simp; omega)) (.int .i64 x0)) hM1 (p := ⟨w.heap.size + 1, 1, none⟩) (by first | (simp; done) | (simp; omega)) (.int .i64 x1)) hM1 (p := ⟨w.heap.size + 1, 2, none⟩) (by first | (simp; done) | (simp; omega)) (.slice B2 l2.length d2))
  obtain ⟨F, hF, hFe⟩ := makeOHeld (p := (x0, x1, l2)) hi0 hi1 u2
  refine bodyPost_ret (v := .agg #[.int .i64 x0, .int .i64 x1, .slice B2 l2.length d2]) (by simp [results, Tryz.results161, go_sem, e0, e1, e2]) rfl ⟨_, F, rfl, hF, ?_, ?_⟩
  · rw [hFe]
    exact New.lower (B := w.heap.size + 3) (by exact hM1) (by omega)
  · exact (bel_put (bel_put (bel_put (bel_put hB1 (by first | (simp; done) | (simp; omega)) _) (by first | (simp; done) | (simp; omega)) _) (by first | (simp; done) | (simp; omega)) _) (by first | (simp; done) | (simp; omega)) _)
theorem o_eqHeld {w : World} {cs cs' : List Value} {p : DHeld} (h : tHeld.R w w.heap.size cs p) (h' : tHeld.R w w.heap.size cs' p) :
    Calls Tryz.prog 168 #[.agg cs.toArray, .agg cs'.toArray] w fun e w' => e = .returned (.bool true) ∧ Below w.heap.size w w' := by
  obtain ⟨A2, n2, c2, rfl, hi0, hi1, ha2, hb2, hl2, hr2⟩ := openHeld h
  obtain ⟨A2', n2', c2', rfl, hi0', hi1', ha2', hb2', hl2', hr2'⟩ := openHeld h'
  obtain ⟨x0, x1, l2⟩ := p
  try dsimp only at *
  subst hl2
  subst hl2'
  have q0 : (x0 != x0) = false := by simp
  have q1 : (x1 != x1) = false := by simp
  go_enter Tryz.func168, Tryz.ntmps168
  go_wp2_with fail
  refine (o_eqCell (tCell.reach (makeCell (p := l2) hr2) ?hB) (tCell.reach (makeCell (p := l2) hr2') ?hB)).mono ?_
  case hB => exact (by repeat (first | (with_reducible exact Below.refl _ _) | (with_reducible assumption) | (with_reducible refine bel_alloc ?_ _) | (with_reducible refine bel_drew ?_) | (with_reducible refine below_drewN ?_ _) | (with_reducible refine bel_put ?_ (by first | exact Nat.le_refl _ | (simp; done) | (simp; omega)) _)))
  rintro e w1 ⟨rfl, hb1⟩
  have hB1 : Below w.heap.size w w1 := bel_trans (by repeat (first | (with_reducible exact Below.refl _ _) | (with_reducible assumption) | (with_reducible refine bel_alloc ?_ _) | (with_reducible refine bel_drew ?_) | (with_reducible refine below_drewN ?_ _) | (with_reducible refine bel_put ?_ (by first | exact Nat.le_refl _ | (simp; done) | (simp; omega)) _))) hb1
  have P1 : Box w1 w.heap.size 128 #[.int .i64 x0, .int .i64 x1, .slice A2 l2.length c2] := ((Box.new _ _ _).alloc _).below hb1 (by first | (simp; done) | (simp; omega))
  have Q1 : Box w1 (w.heap.size + 1) 128 #[.int .i64 x0, .int .i64 x1, .slice A2' l2.length c2'] := Box.below (by simpa using Box.new (w.alloc _) 128 #[.int .i64 x0, .int .i64 x1, .slice A2' l2.length c2']) hb1 (by first | (simp; done) | (simp; omega))
  go_wp2
  go_ret
  exact ⟨rfl, hB1⟩
end Go.Proofs.YtilopapnipealaaGreat
