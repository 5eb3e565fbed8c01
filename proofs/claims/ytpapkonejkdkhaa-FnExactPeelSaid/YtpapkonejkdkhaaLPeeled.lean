/-
  The laws' functions on Peeled.
-/
import Derived.Test.YtpapkonejkdkhaaMk
import Derived.Test.YtpapkonejkdkhaaLCell
namespace Go.Proofs.Ytpapkonejkdkhaa
set_option maxRecDepth 100000
set_option linter.unusedVariables false
set_option linter.unusedSimpArgs false
open Go.ChangeShapes Go.WideShapes Go.ChangeAt Go.RowKit
theorem o_eqPeeled {w : World} {cs cs' : List Value} {p : DPeeled} (h : tPeeled.R w w.heap.size cs p) (h' : tPeeled.R w w.heap.size cs' p) :
    Calls Try.prog 15 #[.agg cs.toArray, .agg cs'.toArray] w fun e w' => e = .returned (.bool true) ∧ Below w.heap.size w w' := by
  obtain ⟨A3, n3, c3, A4, n4, c4, rfl, hi0, hi1, hi2, ha3, hb3, hl3, hr3, ha4, hb4, hl4, hr4⟩ := openPeeled h
  obtain ⟨A3', n3', c3', A4', n4', c4', rfl, hi0', hi1', hi2', ha3', hb3', hl3', hr3', ha4', hb4', hl4', hr4'⟩ := openPeeled h'
  obtain ⟨x0, x1, x2, l3, l4⟩ := p
  try dsimp only at *
  subst hl3
  subst hl3'
  subst hl4
  subst hl4'
  have q0 : (x0 != x0) = false := by simp
  have q1 : (x1 != x1) = false := by simp
  have q2 : (x2 != x2) = false := by simp
  go_enter Try.func15, Try.ntmps15
  go_wp2_with fail
  refine (o_eqByteS (tBy.reach hr3 ?hB) (tBy.reach hr3' ?hB)).mono ?_
  case hB => exact (by repeat (first | (with_reducible exact Below.refl _ _) | (with_reducible assumption) | (with_reducible refine bel_alloc ?_ _) | (with_reducible refine bel_drew ?_) | (with_reducible refine below_drewN ?_ _) | (with_reducible refine bel_put ?_ (by first | exact Nat.le_refl _ | (simp; done) | (simp; omega)) _)))
  rintro e w1 ⟨rfl, hb1⟩
  have hB1 : Below w.heap.size w w1 := bel_trans (by repeat (first | (with_reducible exact Below.refl _ _) | (with_reducible assumption) | (with_reducible refine bel_alloc ?_ _) | (with_reducible refine bel_drew ?_) | (with_reducible refine below_drewN ?_ _) | (with_reducible refine bel_put ?_ (by first | exact Nat.le_refl _ | (simp; done) | (simp; omega)) _))) hb1
  have P1 : Box w1 w.heap.size 28 #[.int .i64 x0, .int .i64 x1, .int .i64 x2, .slice A3 l3.length c3, .slice A4 l4.length c4] := ((Box.new _ _ _).alloc _).below hb1 (by first | (simp; done) | (simp; omega))
  have Q1 : Box w1 (w.heap.size + 1) 28 #[.int .i64 x0, .int .i64 x1, .int .i64 x2, .slice A3' l3.length c3', .slice A4' l4.length c4'] := Box.below (by simpa using Box.new (w.alloc _) 28 #[.int .i64 x0, .int .i64 x1, .int .i64 x2, .slice A3' l3.length c3', .slice A4' l4.length c4']) hb1 (by first | (simp; done) | (simp; omega))
  have e0_4 := P1.cell 4
  have e0_4q := Q1.cell 4
  go_wp2_with fail
  refine (o_eqCell (tCell.reach (makeCell (p := l4) hr4) ?hB) (tCell.reach (makeCell (p := l4) hr4') ?hB)).mono ?_
  case hB => exact (by repeat (first | (with_reducible exact Below.refl _ _) | (with_reducible assumption) | (with_reducible refine bel_alloc ?_ _) | (with_reducible refine bel_drew ?_) | (with_reducible refine below_drewN ?_ _) | (with_reducible refine bel_put ?_ (by first | exact Nat.le_refl _ | (simp; done) | (simp; omega)) _)))
  rintro e w2 ⟨rfl, hb2⟩
  have hB2 : Below w.heap.size w w2 := bel_trans (by repeat (first | (with_reducible exact Below.refl _ _) | (with_reducible assumption) | (with_reducible refine bel_alloc ?_ _) | (with_reducible refine bel_drew ?_) | (with_reducible refine below_drewN ?_ _) | (with_reducible refine bel_put ?_ (by first | exact Nat.le_refl _ | (simp; done) | (simp; omega)) _))) hb2
  have P2 := P1.below hb2 P1.size
  have Q2 := Q1.below hb2 Q1.size
  go_wp2
  go_ret
  exact ⟨rfl, hB2⟩
theorem o_markPeeled {w : World} {cs : List Value} {p : DPeeled} {F : List Nat} (k : Int) (h : tPeeled.O w cs p F) (hF : F.Nodup) (h0 : 0 ≤ k) (hk : k + cntPeeled p ≤ 4611686018427387904) :
    Calls Try.prog 20 #[.agg cs.toArray, .int .i64 k] w fun e w' => e = .returned (.int .i64 (k + cntPeeled p)) ∧ tPeeled.O w' cs (mkPeeled k p) F ∧ Only F w w' := by
  obtain ⟨A3, c3, F3, A4, c4, F4, rfl, hFe, hi0, hi1, hi2, ha3, hb3, hr3, ha4, hb4, hr4⟩ := openOPeeled h
  obtain ⟨x0, x1, x2, l3, l4⟩ := p
  try dsimp only [cntPeeled] at *
  subst F
  have nd3 : F3.Nodup := (List.nodup_append.1 hF).1
  have nd4 : F4.Nodup := (List.nodup_append.1 hF).2.1
  have ap3_4 : ∀ f ∈ F3, f ∉ F4 := fun f h1 h2 => (List.nodup_append.1 hF).2.2 f (by simp [h1]) f h2 rfl
  go_enter Try.func20, Try.ntmps20
  replace hr3 : tBy.O (w.alloc (.cells #[.int .i64 x0, .int .i64 x1, .int .i64 x2, .slice A3 l3.length c3, .slice A4 l4.length c4] 28)) _ _ _ := Ty.below hr3 (by repeat (first | (with_reducible exact Below.refl _ _) | (with_reducible assumption) | (with_reducible refine bel_alloc ?_ _) | (with_reducible refine bel_drew ?_) | (with_reducible refine below_drewN ?_ _) | (with_reducible refine bel_put ?_ (by first | exact Nat.le_refl _ | (simp; done) | (simp; omega)) _)))
  replace hr4 : tBy.O (w.alloc (.cells #[.int .i64 x0, .int .i64 x1, .int .i64 x2, .slice A3 l3.length c3, .slice A4 l4.length c4] 28)) _ _ _ := Ty.below hr4 (by repeat (first | (with_reducible exact Below.refl _ _) | (with_reducible assumption) | (with_reducible refine bel_alloc ?_ _) | (with_reducible refine bel_drew ?_) | (with_reducible refine below_drewN ?_ _) | (with_reducible refine bel_put ?_ (by first | exact Nat.le_refl _ | (simp; done) | (simp; omega)) _)))
  have G0 : Only (F3 ++ F4) w (w.alloc (.cells #[.int .i64 x0, .int .i64 x1, .int .i64 x2, .slice A3 l3.length c3, .slice A4 l4.length c4] 28)) := (Only.refl _ _).alloc _
  have P0 : Box (w.alloc (.cells #[.int .i64 x0, .int .i64 x1, .int .i64 x2, .slice A3 l3.length c3, .slice A4 l4.length c4] 28)) w.heap.size 28 #[.int .i64 x0, .int .i64 x1, .int .i64 x2, .slice A3 l3.length c3, .slice A4 l4.length c4] := Box.new _ _ _
  have y3 : ∀ f ∈ F3, f < w.heap.size := fun f hf => (tPeeled).lt h f (by simp [hf])
  have y4 : ∀ f ∈ F4, f < w.heap.size := fun f hf => (tPeeled).lt h f (by simp [hf])
  go_wp2_with fail
  refine (o_markByteS (k) hr3 (by omega) (by omega)).mono ?_
  rintro e w1 ⟨rfl, hO1, hG1⟩
  have G1 := G0.trans (hG1.mono (by intro f hf; (try simp only [List.mem_append] at hf ⊢); first | assumption | (simp only [hf, true_or, or_true]) | (rcases hf with hf | hf <;> simp only [hf, true_or, or_true])))
  have P1 : Box w1 w.heap.size 28 #[.int .i64 x0, .int .i64 x1, .int .i64 x2, .slice A3 l3.length c3, .slice A4 l4.length c4] := P0.same (hG1.block _ P0.size (by intro e; (try simp only [List.mem_append] at e); rcases e with e <;> first | (have := y3 _ e; omega)))
  have e1_0 := P1.cell 0
  have e1_1 := P1.cell 1
  have e1_2 := P1.cell 2
  have e1_3 := P1.cell 3
  have e1_4 := P1.cell 4
  replace hr4 := Ty.only hr4 hG1 (by intro f hf e; (try simp only [List.mem_append] at e); rcases e with e <;> first | exact ap3_4 f e hf)
  replace hr3 := hO1
  go_wp2_with fail
  refine (o_markCell (k + ((l3.length : Nat) : Int)) hr4 nd4 (by omega) (by omega)).mono ?_
  rintro e w2 ⟨rfl, hO2, hG2⟩
  have G2 := G1.trans (hG2.mono (by intro f hf; (try simp only [List.mem_append] at hf ⊢); first | assumption | (simp only [hf, true_or, or_true]) | (rcases hf with hf | hf <;> simp only [hf, true_or, or_true])))
  have P2 : Box w2 w.heap.size 28 #[.int .i64 x0, .int .i64 x1, .int .i64 x2, .slice A3 l3.length c3, .slice A4 l4.length c4] := P1.same (hG2.block _ P1.size (by intro e; (try simp only [List.mem_append] at e); rcases e with e <;> first | (have := y4 _ e; omega)))
  have e2_0 := P2.cell 0
  have e2_1 := P2.cell 1
  have e2_2 := P2.cell 2
  have e2_3 := P2.cell 3
  have e2_4 := P2.cell 4
  replace hr3 := Ty.only hr3 hG2 (by intro f hf e; (try simp only [List.mem_append] at e); rcases e with e <;> first | exact ap3_4 f hf e)
  replace hr4 := hO2
  go_wp2
  go_ret
  obtain ⟨F2, hF2, hFe⟩ := makeOPeeled (p := mkPeeled k (x0, x1, x2, l3, l4)) hi0 hi1 hi2 hr3 hr4
  subst F2
  exact ⟨ret_int (by omega), hF2, G2⟩
theorem o_heldPeeled {w : World} {cs : List Value} {p : DPeeled} (k : Int) (h : tPeeled.R w w.heap.size cs (mkPeeled k p)) (h0 : 0 ≤ k) (hk : k + cntPeeled p ≤ 4611686018427387904) :
    Calls Try.prog 21 #[.agg cs.toArray, .int .i64 k] w fun e w' => e = .returned (.int .i64 (k + cntPeeled p)) ∧ Below w.heap.size w w' := by
  obtain ⟨A3, n3, c3, A4, n4, c4, rfl, hi0, hi1, hi2, ha3, hb3, hl3, hr3, ha4, hb4, hl4, hr4⟩ := openPeeled h
  obtain ⟨x0, x1, x2, l3, l4⟩ := p
  try dsimp only [cntPeeled, mkPeeled] at *
  have d0 : decide (k + ((l3.length : Nat) : Int) < 0) = false := by simp; omega
  have d1 : decide (k + ((l3.length : Nat) : Int) + ((cntCell l4 : Nat) : Int) < 0) = false := by simp; omega
  go_enter Try.func21, Try.ntmps21
  go_wp2_with fail
  refine (o_heldByteS (k) (tBy.reach hr3 ?hB) (by omega) (by omega)).mono ?_
  case hB => exact (by repeat (first | (with_reducible exact Below.refl _ _) | (with_reducible assumption) | (with_reducible refine bel_alloc ?_ _) | (with_reducible refine bel_drew ?_) | (with_reducible refine below_drewN ?_ _) | (with_reducible refine bel_put ?_ (by first | exact Nat.le_refl _ | (simp; done) | (simp; omega)) _)))
  rintro e w1 ⟨rfl, hb1⟩
  have hB1 : Below w.heap.size w w1 := bel_trans (by repeat (first | (with_reducible exact Below.refl _ _) | (with_reducible assumption) | (with_reducible refine bel_alloc ?_ _) | (with_reducible refine bel_drew ?_) | (with_reducible refine below_drewN ?_ _) | (with_reducible refine bel_put ?_ (by first | exact Nat.le_refl _ | (simp; done) | (simp; omega)) _))) hb1
  have P1 : Box w1 w.heap.size 28 #[.int .i64 x0, .int .i64 x1, .int .i64 x2, .slice A3 n3 c3, .slice A4 n4 c4] := (Box.new _ _ _).below hb1 (by first | (simp; done) | (simp; omega))
  have e0_4 := P1.cell 4
  go_wp2_with fail
  refine (o_heldCell (l0 := l4) (k + ((l3.length : Nat) : Int)) (tCell.reach (makeCell (p := mkCell (k + ((l3.length : Nat) : Int)) l4) hr4) ?hB) (by omega) (by omega)).mono ?_
  case hB => exact (by repeat (first | (with_reducible exact Below.refl _ _) | (with_reducible assumption) | (with_reducible refine bel_alloc ?_ _) | (with_reducible refine bel_drew ?_) | (with_reducible refine below_drewN ?_ _) | (with_reducible refine bel_put ?_ (by first | exact Nat.le_refl _ | (simp; done) | (simp; omega)) _)))
  rintro e w2 ⟨rfl, hb2⟩
  have hB2 : Below w.heap.size w w2 := bel_trans (by repeat (first | (with_reducible exact Below.refl _ _) | (with_reducible assumption) | (with_reducible refine bel_alloc ?_ _) | (with_reducible refine bel_drew ?_) | (with_reducible refine below_drewN ?_ _) | (with_reducible refine bel_put ?_ (by first | exact Nat.le_refl _ | (simp; done) | (simp; omega)) _))) hb2
  have P2 := P1.below hb2 P1.size
  go_wp2
  go_ret
  exact ⟨ret_int (by omega), hB2⟩
end Go.Proofs.Ytpapkonejkdkhaa
