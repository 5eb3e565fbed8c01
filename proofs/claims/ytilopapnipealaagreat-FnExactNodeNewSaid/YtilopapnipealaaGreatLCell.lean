/-
  The laws' functions on Cell.
-/
import Derived.Test.YtilopapnipealaaGreatMk
namespace Go.Proofs.YtilopapnipealaaGreat
set_option maxRecDepth 100000
set_option linter.unusedVariables false
set_option linter.unusedSimpArgs false
open Go.ChangeShapes Go.WideShapes Go.ChangeAt Go.RowKit
theorem o_szCell_t {w : World} {cs : List Value} {l0 : DCell} {k : Int} (h : tCell.R w w.heap.size cs l0) (h1 : 0 ≤ k) (h2 : k ≤ 1048576) (h3 : (szCell l0 : Int) ≤ k) :
    Calls Tryz.prog 192 #[.agg cs.toArray, .int .i64 k] w fun e w' => e = .returned (.int .i64 (k - szCell l0)) ∧ Below w.heap.size w w' := by
  obtain ⟨A0, n0, c0, rfl, ha0, hb0, hl0, hr0⟩ := openCell h
  try dsimp only [szCell] at *
  subst hl0
  have d0 : decide (k - ((l0.length : Nat) : Int) < 0) = false := by simp; omega
  go_enter Tryz.func192, Tryz.ntmps192
  go_wp2_with fail
  refine (o_szByteS_t (tBy.reach hr0 ?hB) (by omega) (by omega) (by omega)).mono ?_
  case hB => exact (by repeat (first | (with_reducible exact Below.refl _ _) | (with_reducible assumption) | (with_reducible refine bel_alloc ?_ _) | (with_reducible refine bel_drew ?_) | (with_reducible refine below_drewN ?_ _) | (with_reducible refine bel_put ?_ (by first | exact Nat.le_refl _ | (simp; done) | (simp; omega)) _)))
  rintro e w1 ⟨rfl, hb1⟩
  have hB1 : Below w.heap.size w w1 := bel_trans (by repeat (first | (with_reducible exact Below.refl _ _) | (with_reducible assumption) | (with_reducible refine bel_alloc ?_ _) | (with_reducible refine bel_drew ?_) | (with_reducible refine below_drewN ?_ _) | (with_reducible refine bel_put ?_ (by first | exact Nat.le_refl _ | (simp; done) | (simp; omega)) _))) hb1
  have P1 : Box w1 w.heap.size 181 #[.slice A0 l0.length c0] := (Box.new _ _ _).below hb1 (by first | (simp; done) | (simp; omega))
  go_wp2
  go_ret
  exact ⟨ret_int (by omega), hB1⟩
theorem o_szCell_f {w : World} {cs : List Value} {l0 : DCell} {k : Int} (h : tCell.R w w.heap.size cs l0) (h1 : 0 ≤ k) (h2 : k ≤ 1048576) (h3 : ¬ (szCell l0 : Int) ≤ k) :
    Calls Tryz.prog 192 #[.agg cs.toArray, .int .i64 k] w fun e w' => e = .returned (.int .i64 (-1)) ∧ Below w.heap.size w w' := by
  obtain ⟨A0, n0, c0, rfl, ha0, hb0, hl0, hr0⟩ := openCell h
  try dsimp only [szCell] at *
  subst hl0
  go_enter Tryz.func192, Tryz.ntmps192
  go_wp2_with fail
  refine (o_szByteS_f (tBy.reach hr0 ?hB) (by omega) (by omega) (by omega)).mono ?_
  case hB => exact (by repeat (first | (with_reducible exact Below.refl _ _) | (with_reducible assumption) | (with_reducible refine bel_alloc ?_ _) | (with_reducible refine bel_drew ?_) | (with_reducible refine below_drewN ?_ _) | (with_reducible refine bel_put ?_ (by first | exact Nat.le_refl _ | (simp; done) | (simp; omega)) _)))
  rintro e w1 ⟨rfl, hb1⟩
  have hB1 : Below w.heap.size w w1 := bel_trans (by repeat (first | (with_reducible exact Below.refl _ _) | (with_reducible assumption) | (with_reducible refine bel_alloc ?_ _) | (with_reducible refine bel_drew ?_) | (with_reducible refine below_drewN ?_ _) | (with_reducible refine bel_put ?_ (by first | exact Nat.le_refl _ | (simp; done) | (simp; omega)) _))) hb1
  have P1 : Box w1 w.heap.size 181 #[.slice A0 l0.length c0] := (Box.new _ _ _).below hb1 (by first | (simp; done) | (simp; omega))
  go_wp2
  go_ret
  exact ⟨rfl, hB1⟩
set_option maxHeartbeats 400000 in
theorem o_toCell {w : World} {cs : List Value} {l0 : DCell} (h : tCell.R w w.heap.size cs l0) (hn : szCell l0 ≤ 1048576) :
    Calls Tryz.prog 193 #[.agg cs.toArray] w fun e w' => ∃ cs' F, e = .returned (.agg cs'.toArray) ∧ tCell.O w' cs' l0 F ∧ New w.heap.size F ∧ Below w.heap.size w w' := by
  obtain ⟨A0, n0, c0, rfl, ha0, hb0, hl0, hr0⟩ := openCell h
  try dsimp only [szCell] at *
  subst hl0
  go_enter Tryz.func193, Tryz.ntmps193
  go_wp2_with fail
  refine (o_toByteS (tBy.reach hr0 ?hB) (by omega)).mono ?_
  case hB => exact (by repeat (first | (with_reducible exact Below.refl _ _) | (with_reducible assumption) | (with_reducible refine bel_alloc ?_ _) | (with_reducible refine bel_drew ?_) | (with_reducible refine below_drewN ?_ _) | (with_reducible refine bel_put ?_ (by first | exact Nat.le_refl _ | (simp; done) | (simp; omega)) _)))
  rintro e w1 ⟨B0, d0, F0, rfl, o0, hN1, hb1⟩
  have z1 : w.heap.size + 3 ≤ w1.heap.size := by have := hb1.size; simpa using this
  have hB1 : Below w.heap.size w w1 := bel_trans (by repeat (first | (with_reducible exact Below.refl _ _) | (with_reducible assumption) | (with_reducible refine bel_alloc ?_ _) | (with_reducible refine bel_drew ?_) | (with_reducible refine below_drewN ?_ _) | (with_reducible refine bel_put ?_ (by first | exact Nat.le_refl _ | (simp; done) | (simp; omega)) _))) hb1
  have R1 : Box w1 (w.heap.size + 1) 126 #[.slice none 0 0] := Box.below (Box.alloc (by simpa using Box.new (w.alloc _) 126 #[.slice none 0 0]) _) hb1 (by first | (simp; done) | (simp; omega))
  have L1 : Box w1 (w.heap.size + 1 + 1) 126 #[.slice none 0 0] := Box.below (by simpa using Box.new ((w.alloc _).alloc _) 126 #[.slice none 0 0]) hb1 (by first | (simp; done) | (simp; omega))
  have P1 : Box w1 w.heap.size 181 #[.slice A0 l0.length c0] := Box.below (((Box.new w 181 #[.slice A0 l0.length c0]).alloc _).alloc _) hb1 (by first | (simp; done) | (simp; omega))
  have hM1 : New (w.heap.size + 3) (F0) := hN1.lower (by simp)
  clear hN1
  have y1 : ∀ f ∈ F0, f < w1.heap.size := by intro f hf; exact tBy.lt o0 f hf
  have kr1_0 := R1.cell 0; have fr1_0 := R1.frozen 0; have kl1_0 := L1.cell 0; have fl1_0 := L1.frozen 0; have kp1_0 := P1.cell 0
  go_wp2
  have RR := ((R1.far (p := ⟨w.heap.size + 1 + 1, 0, none⟩) (by first | (simp; done) | (simp; omega)) (.slice B0 l0.length d0)).put 0 (.slice B0 l0.length d0))
  have e0 := RR.cell 0
  have u0 := (Ty.far (t := tBy) (Ty.far (t := tBy) o0 hM1 (p := ⟨w.heap.size + 1 + 1, 0, none⟩) (by first | (simp; done) | (simp; omega)) (.slice B0 l0.length d0)) hM1 (p := ⟨w.heap.size + 1, 0, none⟩) (by first | (simp; done) | (simp; omega)) (.slice B0 l0.length d0))
  obtain ⟨F, hF, hFe⟩ := makeOCell (p := l0) u0
  refine bodyPost_ret (v := .agg #[.slice B0 l0.length d0]) (by simp [results, Tryz.results193, go_sem, e0]) rfl ⟨_, F, rfl, hF, ?_, ?_⟩
  · rw [hFe]
    exact New.lower (B := w.heap.size + 3) (by exact hM1) (by omega)
  · exact (bel_put (bel_put hB1 (by first | (simp; done) | (simp; omega)) _) (by first | (simp; done) | (simp; omega)) _)
theorem o_eqCell {w : World} {cs cs' : List Value} {l0 : DCell} (h : tCell.R w w.heap.size cs l0) (h' : tCell.R w w.heap.size cs' l0) :
    Calls Tryz.prog 196 #[.agg cs.toArray, .agg cs'.toArray] w fun e w' => e = .returned (.bool true) ∧ Below w.heap.size w w' := by
  obtain ⟨A0, n0, c0, rfl, ha0, hb0, hl0, hr0⟩ := openCell h
  obtain ⟨A0', n0', c0', rfl, ha0', hb0', hl0', hr0'⟩ := openCell h'
  skip
  try dsimp only at *
  subst hl0
  subst hl0'
  go_enter Tryz.func196, Tryz.ntmps196
  go_wp2_with fail
  refine (o_eqByteS (tBy.reach hr0 ?hB) (tBy.reach hr0' ?hB)).mono ?_
  case hB => exact (by repeat (first | (with_reducible exact Below.refl _ _) | (with_reducible assumption) | (with_reducible refine bel_alloc ?_ _) | (with_reducible refine bel_drew ?_) | (with_reducible refine below_drewN ?_ _) | (with_reducible refine bel_put ?_ (by first | exact Nat.le_refl _ | (simp; done) | (simp; omega)) _)))
  rintro e w1 ⟨rfl, hb1⟩
  have hB1 : Below w.heap.size w w1 := bel_trans (by repeat (first | (with_reducible exact Below.refl _ _) | (with_reducible assumption) | (with_reducible refine bel_alloc ?_ _) | (with_reducible refine bel_drew ?_) | (with_reducible refine below_drewN ?_ _) | (with_reducible refine bel_put ?_ (by first | exact Nat.le_refl _ | (simp; done) | (simp; omega)) _))) hb1
  have P1 : Box w1 w.heap.size 126 #[.slice A0 l0.length c0] := ((Box.new _ _ _).alloc _).below hb1 (by first | (simp; done) | (simp; omega))
  have Q1 : Box w1 (w.heap.size + 1) 126 #[.slice A0' l0.length c0'] := Box.below (by simpa using Box.new (w.alloc _) 126 #[.slice A0' l0.length c0']) hb1 (by first | (simp; done) | (simp; omega))
  go_wp2
  go_ret
  exact ⟨rfl, hB1⟩
end Go.Proofs.YtilopapnipealaaGreat
