/-
  The laws' functions on Cell.
-/
import Derived.Test.YtpapkonejkdkhaaMk
namespace Go.Proofs.Ytpapkonejkdkhaa
set_option maxRecDepth 100000
set_option linter.unusedVariables false
set_option linter.unusedSimpArgs false
open Go.ChangeShapes Go.WideShapes Go.ChangeAt Go.RowKit
theorem o_szCell_t {w : World} {cs : List Value} {l0 : DCell} {k : Int} (h : tCell.R w w.heap.size cs l0) (h1 : 0 ≤ k) (h2 : k ≤ 1048576) (h3 : (szCell l0 : Int) ≤ k) :
    Calls Try.prog 10 #[.agg cs.toArray, .int .i64 k] w fun e w' => e = .returned (.int .i64 (k - szCell l0)) ∧ Below w.heap.size w w' := by
  obtain ⟨A0, n0, c0, rfl, ha0, hb0, hl0, hr0⟩ := openCell h
  try dsimp only [szCell] at *
  subst hl0
  have d0 : decide (k - ((l0.length : Nat) : Int) < 0) = false := by simp; omega
  go_enter Try.func10, Try.ntmps10
  go_wp2_with fail
  refine (o_szByteS_t (tBy.reach hr0 ?hB) (by omega) (by omega) (by omega)).mono ?_
  case hB => exact (by repeat (first | (with_reducible exact Below.refl _ _) | (with_reducible assumption) | (with_reducible refine bel_alloc ?_ _) | (with_reducible refine bel_drew ?_) | (with_reducible refine below_drewN ?_ _) | (with_reducible refine bel_put ?_ (by first | exact Nat.le_refl _ | (simp; done) | (simp; omega)) _)))
  rintro e w1 ⟨rfl, hb1⟩
  have hB1 : Below w.heap.size w w1 := bel_trans (by repeat (first | (with_reducible exact Below.refl _ _) | (with_reducible assumption) | (with_reducible refine bel_alloc ?_ _) | (with_reducible refine bel_drew ?_) | (with_reducible refine below_drewN ?_ _) | (with_reducible refine bel_put ?_ (by first | exact Nat.le_refl _ | (simp; done) | (simp; omega)) _))) hb1
  have P1 : Box w1 w.heap.size 24 #[.slice A0 l0.length c0] := (Box.new _ _ _).below hb1 (by first | (simp; done) | (simp; omega))
  go_wp2
  go_ret
  exact ⟨ret_int (by omega), hB1⟩
theorem o_szCell_f {w : World} {cs : List Value} {l0 : DCell} {k : Int} (h : tCell.R w w.heap.size cs l0) (h1 : 0 ≤ k) (h2 : k ≤ 1048576) (h3 : ¬ (szCell l0 : Int) ≤ k) :
    Calls Try.prog 10 #[.agg cs.toArray, .int .i64 k] w fun e w' => e = .returned (.int .i64 (-1)) ∧ Below w.heap.size w w' := by
  obtain ⟨A0, n0, c0, rfl, ha0, hb0, hl0, hr0⟩ := openCell h
  try dsimp only [szCell] at *
  subst hl0
  go_enter Try.func10, Try.ntmps10
  go_wp2_with fail
  refine (o_szByteS_f (tBy.reach hr0 ?hB) (by omega) (by omega) (by omega)).mono ?_
  case hB => exact (by repeat (first | (with_reducible exact Below.refl _ _) | (with_reducible assumption) | (with_reducible refine bel_alloc ?_ _) | (with_reducible refine bel_drew ?_) | (with_reducible refine below_drewN ?_ _) | (with_reducible refine bel_put ?_ (by first | exact Nat.le_refl _ | (simp; done) | (simp; omega)) _)))
  rintro e w1 ⟨rfl, hb1⟩
  have hB1 : Below w.heap.size w w1 := bel_trans (by repeat (first | (with_reducible exact Below.refl _ _) | (with_reducible assumption) | (with_reducible refine bel_alloc ?_ _) | (with_reducible refine bel_drew ?_) | (with_reducible refine below_drewN ?_ _) | (with_reducible refine bel_put ?_ (by first | exact Nat.le_refl _ | (simp; done) | (simp; omega)) _))) hb1
  have P1 : Box w1 w.heap.size 24 #[.slice A0 l0.length c0] := (Box.new _ _ _).below hb1 (by first | (simp; done) | (simp; omega))
  go_wp2
  go_ret
  exact ⟨rfl, hB1⟩
set_option maxHeartbeats 400000 in
theorem o_toCell {w : World} {cs : List Value} {l0 : DCell} (h : tCell.R w w.heap.size cs l0) (hn : szCell l0 ≤ 1048576) :
    Calls Try.prog 12 #[.agg cs.toArray] w fun e w' => ∃ cs' F, e = .returned (.agg cs'.toArray) ∧ tCell.O w' cs' l0 F ∧ New w.heap.size F ∧ Below w.heap.size w w' := by
  obtain ⟨A0, n0, c0, rfl, ha0, hb0, hl0, hr0⟩ := openCell h
  try dsimp only [szCell] at *
  subst hl0
  go_enter Try.func12, Try.ntmps12
  go_wp2_with fail
  refine (o_toByteS (tBy.reach hr0 ?hB) (by omega)).mono ?_
  case hB => exact (by repeat (first | (with_reducible exact Below.refl _ _) | (with_reducible assumption) | (with_reducible refine bel_alloc ?_ _) | (with_reducible refine bel_drew ?_) | (with_reducible refine below_drewN ?_ _) | (with_reducible refine bel_put ?_ (by first | exact Nat.le_refl _ | (simp; done) | (simp; omega)) _)))
  rintro e w1 ⟨B0, d0, F0, rfl, o0, hN1, hb1⟩
  have z1 : w.heap.size + 3 ≤ w1.heap.size := by have := hb1.size; simpa using this
  have hB1 : Below w.heap.size w w1 := bel_trans (by repeat (first | (with_reducible exact Below.refl _ _) | (with_reducible assumption) | (with_reducible refine bel_alloc ?_ _) | (with_reducible refine bel_drew ?_) | (with_reducible refine below_drewN ?_ _) | (with_reducible refine bel_put ?_ (by first | exact Nat.le_refl _ | (simp; done) | (simp; omega)) _))) hb1
  have R1 : Box w1 (w.heap.size + 1) 26 #[.slice none 0 0] := Box.below (Box.alloc (by simpa using Box.new (w.alloc _) 26 #[.slice none 0 0]) _) hb1 (by first | (simp; done) | (simp; omega))
  have L1 : Box w1 (w.heap.size + 1 + 1) 26 #[.slice none 0 0] := Box.below (by simpa using Box.new ((w.alloc _).alloc _) 26 #[.slice none 0 0]) hb1 (by first | (simp; done) | (simp; omega))
  have P1 : Box w1 w.heap.size 24 #[.slice A0 l0.length c0] := Box.below (((Box.new w 24 #[.slice A0 l0.length c0]).alloc _).alloc _) hb1 (by first | (simp; done) | (simp; omega))
  have hM1 : New (w.heap.size + 3) (F0) := hN1.lower (by simp)
  clear hN1
  have y1 : ∀ f ∈ F0, f < w1.heap.size := by intro f hf; exact tBy.lt o0 f hf
  have kr1_0 := R1.cell 0; have fr1_0 := R1.frozen 0; have kl1_0 := L1.cell 0; have fl1_0 := L1.frozen 0; have kp1_0 := P1.cell 0
  go_wp2
  have RR := ((R1.far (p := ⟨w.heap.size + 1 + 1, 0, none⟩) (by first | (simp; done) | (simp; omega)) (.slice B0 l0.length d0)).put 0 (.slice B0 l0.length d0))
  have e0 := RR.cell 0
  have u0 := (Ty.far (t := tBy) (Ty.far (t := tBy) o0 hM1 (p := ⟨w.heap.size + 1 + 1, 0, none⟩) (by first | (simp; done) | (simp; omega)) (.slice B0 l0.length d0)) hM1 (p := ⟨w.heap.size + 1, 0, none⟩) (by first | (simp; done) | (simp; omega)) (.slice B0 l0.length d0))
  obtain ⟨F, hF, hFe⟩ := makeOCell (p := l0) u0
  refine bodyPost_ret (v := .agg #[.slice B0 l0.length d0]) (by simp [results, Try.results12, go_sem, e0]) rfl ⟨_, F, rfl, hF, ?_, ?_⟩
  · rw [hFe]
    exact New.lower (B := w.heap.size + 3) (by exact hM1) (by omega)
  · exact (bel_put (bel_put hB1 (by first | (simp; done) | (simp; omega)) _) (by first | (simp; done) | (simp; omega)) _)
theorem o_eqCell {w : World} {cs cs' : List Value} {l0 : DCell} (h : tCell.R w w.heap.size cs l0) (h' : tCell.R w w.heap.size cs' l0) :
    Calls Try.prog 16 #[.agg cs.toArray, .agg cs'.toArray] w fun e w' => e = .returned (.bool true) ∧ Below w.heap.size w w' := by
  obtain ⟨A0, n0, c0, rfl, ha0, hb0, hl0, hr0⟩ := openCell h
  obtain ⟨A0', n0', c0', rfl, ha0', hb0', hl0', hr0'⟩ := openCell h'
  skip
  try dsimp only at *
  subst hl0
  subst hl0'
  go_enter Try.func16, Try.ntmps16
  go_wp2_with fail
  refine (o_eqByteS (tBy.reach hr0 ?hB) (tBy.reach hr0' ?hB)).mono ?_
  case hB => exact (by repeat (first | (with_reducible exact Below.refl _ _) | (with_reducible assumption) | (with_reducible refine bel_alloc ?_ _) | (with_reducible refine bel_drew ?_) | (with_reducible refine below_drewN ?_ _) | (with_reducible refine bel_put ?_ (by first | exact Nat.le_refl _ | (simp; done) | (simp; omega)) _)))
  rintro e w1 ⟨rfl, hb1⟩
  have hB1 : Below w.heap.size w w1 := bel_trans (by repeat (first | (with_reducible exact Below.refl _ _) | (with_reducible assumption) | (with_reducible refine bel_alloc ?_ _) | (with_reducible refine bel_drew ?_) | (with_reducible refine below_drewN ?_ _) | (with_reducible refine bel_put ?_ (by first | exact Nat.le_refl _ | (simp; done) | (simp; omega)) _))) hb1
  have P1 : Box w1 w.heap.size 26 #[.slice A0 l0.length c0] := ((Box.new _ _ _).alloc _).below hb1 (by first | (simp; done) | (simp; omega))
  have Q1 : Box w1 (w.heap.size + 1) 26 #[.slice A0' l0.length c0'] := Box.below (by simpa using Box.new (w.alloc _) 26 #[.slice A0' l0.length c0']) hb1 (by first | (simp; done) | (simp; omega))
  go_wp2
  go_ret
  exact ⟨rfl, hB1⟩
theorem o_markCell {w : World} {cs : List Value} {l0 : DCell} {F : List Nat} (k : Int) (h : tCell.O w cs l0 F) (hF : F.Nodup) (h0 : 0 ≤ k) (hk : k + cntCell l0 ≤ 4611686018427387904) :
    Calls Try.prog 18 #[.agg cs.toArray, .int .i64 k] w fun e w' => e = .returned (.int .i64 (k + cntCell l0)) ∧ tCell.O w' cs (mkCell k l0) F ∧ Only F w w' := by
  obtain ⟨A0, c0, F0, rfl, hFe, ha0, hb0, hr0⟩ := openOCell h
  skip
  try dsimp only [cntCell] at *
  subst F
  have nd0 : F0.Nodup := hF
  go_enter Try.func18, Try.ntmps18
  replace hr0 : tBy.O (w.alloc (.cells #[.slice A0 l0.length c0] 26)) _ _ _ := Ty.below hr0 (by repeat (first | (with_reducible exact Below.refl _ _) | (with_reducible assumption) | (with_reducible refine bel_alloc ?_ _) | (with_reducible refine bel_drew ?_) | (with_reducible refine below_drewN ?_ _) | (with_reducible refine bel_put ?_ (by first | exact Nat.le_refl _ | (simp; done) | (simp; omega)) _)))
  have G0 : Only (F0) w (w.alloc (.cells #[.slice A0 l0.length c0] 26)) := (Only.refl _ _).alloc _
  have P0 : Box (w.alloc (.cells #[.slice A0 l0.length c0] 26)) w.heap.size 26 #[.slice A0 l0.length c0] := Box.new _ _ _
  have y0 : ∀ f ∈ F0, f < w.heap.size := fun f hf => (tCell).lt h f (by simp [hf])
  go_wp2_with fail
  refine (o_markByteS (k) hr0 (by omega) (by omega)).mono ?_
  rintro e w1 ⟨rfl, hO1, hG1⟩
  have G1 := G0.trans (hG1.mono (by intro f hf; (try simp only [List.mem_append] at hf ⊢); first | assumption | (simp only [hf, true_or, or_true]) | (rcases hf with hf | hf <;> simp only [hf, true_or, or_true])))
  have P1 : Box w1 w.heap.size 26 #[.slice A0 l0.length c0] := P0.same (hG1.block _ P0.size (by intro e; (try simp only [List.mem_append] at e); rcases e with e <;> first | (have := y0 _ e; omega)))
  have e1_0 := P1.cell 0
  replace hr0 := hO1
  go_wp2
  go_ret
  obtain ⟨F2, hF2, hFe⟩ := makeOCell (p := mkCell k l0) hr0
  subst F2
  exact ⟨ret_int (by omega), hF2, G1⟩
theorem o_heldCell {w : World} {cs : List Value} {l0 : DCell} (k : Int) (h : tCell.R w w.heap.size cs (mkCell k l0)) (h0 : 0 ≤ k) (hk : k + cntCell l0 ≤ 4611686018427387904) :
    Calls Try.prog 59 #[.agg cs.toArray, .int .i64 k] w fun e w' => e = .returned (.int .i64 (k + cntCell l0)) ∧ Below w.heap.size w w' := by
  obtain ⟨A0, n0, c0, rfl, ha0, hb0, hl0, hr0⟩ := openCell h
  skip
  try dsimp only [cntCell, mkCell] at *
  have d0 : decide (k + ((l0.length : Nat) : Int) < 0) = false := by simp; omega
  go_enter Try.func59, Try.ntmps59
  go_wp2_with fail
  refine (o_heldByteS (k) (tBy.reach hr0 ?hB) (by omega) (by omega)).mono ?_
  case hB => exact (by repeat (first | (with_reducible exact Below.refl _ _) | (with_reducible assumption) | (with_reducible refine bel_alloc ?_ _) | (with_reducible refine bel_drew ?_) | (with_reducible refine below_drewN ?_ _) | (with_reducible refine bel_put ?_ (by first | exact Nat.le_refl _ | (simp; done) | (simp; omega)) _)))
  rintro e w1 ⟨rfl, hb1⟩
  have hB1 : Below w.heap.size w w1 := bel_trans (by repeat (first | (with_reducible exact Below.refl _ _) | (with_reducible assumption) | (with_reducible refine bel_alloc ?_ _) | (with_reducible refine bel_drew ?_) | (with_reducible refine below_drewN ?_ _) | (with_reducible refine bel_put ?_ (by first | exact Nat.le_refl _ | (simp; done) | (simp; omega)) _))) hb1
  have P1 : Box w1 w.heap.size 26 #[.slice A0 n0 c0] := (Box.new _ _ _).below hb1 (by first | (simp; done) | (simp; omega))
  go_wp2
  go_ret
  exact ⟨ret_int (by omega), hB1⟩
end Go.Proofs.Ytpapkonejkdkhaa
