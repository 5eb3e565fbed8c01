/-
  The laws' functions on Whole.
-/
import Derived.Test.YtpapkonejkdkhaaMk
import Derived.Test.YtpapkonejkdkhaaLPieceS
namespace Go.Proofs.Ytpapkonejkdkhaa
set_option maxRecDepth 100000
set_option linter.unusedVariables false
set_option linter.unusedSimpArgs false
open Go.ChangeShapes Go.WideShapes Go.ChangeAt Go.RowKit
theorem o_szWhole_t {w : World} {cs : List Value} {p : DWhole} {k : Int} (h : tWhole.R w w.heap.size cs p) (h1 : 0 ≤ k) (h2 : k ≤ 1048576) (h3 : (szWhole p : Int) ≤ k) :
    Calls Try.prog 109 #[.agg cs.toArray, .int .i64 k] w fun e w' => e = .returned (.int .i64 (k - szWhole p)) ∧ Below w.heap.size w w' := by
  obtain ⟨A3, n3, c3, rfl, hi0, hi1, hi2, ha3, hb3, hl3, hr3⟩ := openWhole h
  obtain ⟨x0, x1, x2, r3⟩ := p
  try dsimp only [szWhole] at *
  subst hl3
  have d0 : decide (k - ((rsz szPiece r3 : Nat) : Int) < 0) = false := by simp; omega
  go_enter Try.func109, Try.ntmps109
  go_wp2_with fail
  refine (o_szPieceS_t (tPiece.row.reach hr3 ?hB) (by omega) (by omega) (by omega)).mono ?_
  case hB => exact (by repeat (first | (with_reducible exact Below.refl _ _) | (with_reducible assumption) | (with_reducible refine bel_alloc ?_ _) | (with_reducible refine bel_drew ?_) | (with_reducible refine below_drewN ?_ _) | (with_reducible refine bel_put ?_ (by first | exact Nat.le_refl _ | (simp; done) | (simp; omega)) _)))
  rintro e w1 ⟨rfl, hb1⟩
  have hB1 : Below w.heap.size w w1 := bel_trans (by repeat (first | (with_reducible exact Below.refl _ _) | (with_reducible assumption) | (with_reducible refine bel_alloc ?_ _) | (with_reducible refine bel_drew ?_) | (with_reducible refine below_drewN ?_ _) | (with_reducible refine bel_put ?_ (by first | exact Nat.le_refl _ | (simp; done) | (simp; omega)) _))) hb1
  have P1 : Box w1 w.heap.size 123 #[.int .i64 x0, .int .i64 x1, .int .i64 x2, .slice A3 r3.length c3] := (Box.new _ _ _).below hb1 (by first | (simp; done) | (simp; omega))
  go_wp2
  go_ret
  exact ⟨ret_int (by omega), hB1⟩
theorem o_szWhole_f {w : World} {cs : List Value} {p : DWhole} {k : Int} (h : tWhole.R w w.heap.size cs p) (h1 : 0 ≤ k) (h2 : k ≤ 1048576) (h3 : ¬ (szWhole p : Int) ≤ k) :
    Calls Try.prog 109 #[.agg cs.toArray, .int .i64 k] w fun e w' => e = .returned (.int .i64 (-1)) ∧ Below w.heap.size w w' := by
  obtain ⟨A3, n3, c3, rfl, hi0, hi1, hi2, ha3, hb3, hl3, hr3⟩ := openWhole h
  obtain ⟨x0, x1, x2, r3⟩ := p
  try dsimp only [szWhole] at *
  subst hl3
  go_enter Try.func109, Try.ntmps109
  go_wp2_with fail
  refine (o_szPieceS_f (tPiece.row.reach hr3 ?hB) (by omega) (by omega) (by omega)).mono ?_
  case hB => exact (by repeat (first | (with_reducible exact Below.refl _ _) | (with_reducible assumption) | (with_reducible refine bel_alloc ?_ _) | (with_reducible refine bel_drew ?_) | (with_reducible refine below_drewN ?_ _) | (with_reducible refine bel_put ?_ (by first | exact Nat.le_refl _ | (simp; done) | (simp; omega)) _)))
  rintro e w1 ⟨rfl, hb1⟩
  have hB1 : Below w.heap.size w w1 := bel_trans (by repeat (first | (with_reducible exact Below.refl _ _) | (with_reducible assumption) | (with_reducible refine bel_alloc ?_ _) | (with_reducible refine bel_drew ?_) | (with_reducible refine below_drewN ?_ _) | (with_reducible refine bel_put ?_ (by first | exact Nat.le_refl _ | (simp; done) | (simp; omega)) _))) hb1
  have P1 : Box w1 w.heap.size 123 #[.int .i64 x0, .int .i64 x1, .int .i64 x2, .slice A3 r3.length c3] := (Box.new _ _ _).below hb1 (by first | (simp; done) | (simp; omega))
  go_wp2
  go_ret
  exact ⟨rfl, hB1⟩
set_option maxHeartbeats 400000 in
theorem o_toWhole {w : World} {cs : List Value} {p : DWhole} (h : tWhole.R w w.heap.size cs p) (hn : szWhole p ≤ 1048576) :
    Calls Try.prog 111 #[.agg cs.toArray] w fun e w' => ∃ cs' F, e = .returned (.agg cs'.toArray) ∧ tWhole.O w' cs' p F ∧ New w.heap.size F ∧ Below w.heap.size w w' := by
  obtain ⟨A3, n3, c3, rfl, hi0, hi1, hi2, ha3, hb3, hl3, hr3⟩ := openWhole h
  obtain ⟨x0, x1, x2, r3⟩ := p
  try dsimp only [szWhole] at *
  subst hl3
  go_enter Try.func111, Try.ntmps111
  go_wp2_with fail
  refine (o_toPieceS (tPiece.row.reach hr3 ?hB) (by omega)).mono ?_
  case hB => exact (by repeat (first | (with_reducible exact Below.refl _ _) | (with_reducible assumption) | (with_reducible refine bel_alloc ?_ _) | (with_reducible refine bel_drew ?_) | (with_reducible refine below_drewN ?_ _) | (with_reducible refine bel_put ?_ (by first | exact Nat.le_refl _ | (simp; done) | (simp; omega)) _)))
  rintro e w1 ⟨B3, d3, F3, rfl, o3, hN1, hb1⟩
  have z1 : w.heap.size + 3 ≤ w1.heap.size := by have := hb1.size; simpa using this
  have hB1 : Below w.heap.size w w1 := bel_trans (by repeat (first | (with_reducible exact Below.refl _ _) | (with_reducible assumption) | (with_reducible refine bel_alloc ?_ _) | (with_reducible refine bel_drew ?_) | (with_reducible refine below_drewN ?_ _) | (with_reducible refine bel_put ?_ (by first | exact Nat.le_refl _ | (simp; done) | (simp; omega)) _))) hb1
  have R1 : Box w1 (w.heap.size + 1) 98 #[.int .i64 0, .int .i64 0, .int .i64 0, .slice none 0 0] := Box.below (Box.alloc (by simpa using Box.new (w.alloc _) 98 #[.int .i64 0, .int .i64 0, .int .i64 0, .slice none 0 0]) _) hb1 (by first | (simp; done) | (simp; omega))
  have L1 : Box w1 (w.heap.size + 1 + 1) 98 #[.int .i64 x0, .int .i64 x1, .int .i64 x2, .slice none 0 0] := Box.below (by simpa using Box.new ((w.alloc _).alloc _) 98 #[.int .i64 x0, .int .i64 x1, .int .i64 x2, .slice none 0 0]) hb1 (by first | (simp; done) | (simp; omega))
  have P1 : Box w1 w.heap.size 123 #[.int .i64 x0, .int .i64 x1, .int .i64 x2, .slice A3 r3.length c3] := Box.below (((Box.new w 123 #[.int .i64 x0, .int .i64 x1, .int .i64 x2, .slice A3 r3.length c3]).alloc _).alloc _) hb1 (by first | (simp; done) | (simp; omega))
  have hM1 : New (w.heap.size + 3) (F3) := hN1.lower (by simp)
  clear hN1
  have y1 : ∀ f ∈ F3, f < w1.heap.size := by intro f hf; exact tPiece.row.lt o3 f hf
  have kr1_0 := R1.cell 0; have fr1_0 := R1.frozen 0; have kl1_0 := L1.cell 0; have fl1_0 := L1.frozen 0; have kp1_0 := P1.cell 0
  have kr1_1 := R1.cell 1; have fr1_1 := R1.frozen 1; have kl1_1 := L1.cell 1; have fl1_1 := L1.frozen 1; have kp1_1 := P1.cell 1
  have kr1_2 := R1.cell 2; have fr1_2 := R1.frozen 2; have kl1_2 := L1.cell 2; have fl1_2 := L1.frozen 2; have kp1_2 := P1.cell 2
  have kr1_3 := R1.cell 3; have fr1_3 := R1.frozen 3; have kl1_3 := L1.cell 3; have fl1_3 := L1.frozen 3; have kp1_3 := P1.cell 3
  go_wp2
  have RR := (((((R1.far (p := ⟨w.heap.size + 1 + 1, 3, none⟩) (by first | (simp; done) | (simp; omega)) (.slice B3 r3.length d3)).put 0 (.int .i64 x0)).put 1 (.int .i64 x1)).put 2 (.int .i64 x2)).put 3 (.slice B3 r3.length d3))
  have e0 := RR.cell 0
  have e1 := RR.cell 1
  have e2 := RR.cell 2
  have e3 := RR.cell 3
  have u3 := (Ty.far (t := tPiece.row) (Ty.far (t := tPiece.row) (Ty.far (t := tPiece.row) (Ty.far (t := tPiece.row) (Ty.far (t := tPiece.row) o3 hM1 (p := ⟨w.heap.size + 1 + 1, 3, none⟩) (by first | (simp; done) | (simp; omega)) (.slice B3 r3.length d3)) hM1 (p := ⟨w.heap.size + 1, 0, none⟩) (by first | (simp; done) | (simp; omega)) (.int .i64 x0)) hM1 (p := ⟨w.heap.size + 1, 1, none⟩) (by first | (simp; done) | (simp; omega)) (.int .i64 x1)) hM1 (p := ⟨w.heap.size + 1, 2, none⟩) (by first | (simp; done) | (simp; omega)) (.int .i64 x2)) hM1 (p := ⟨w.heap.size + 1, 3, none⟩) (by first | (simp; done) | (simp; omega)) (.slice B3 r3.length d3))
  obtain ⟨F, hF, hFe⟩ := makeOWhole (p := (x0, x1, x2, r3)) hi0 hi1 hi2 u3
  refine bodyPost_ret (v := .agg #[.int .i64 x0, .int .i64 x1, .int .i64 x2, .slice B3 r3.length d3]) (by simp [results, Try.results111, go_sem, e0, e1, e2, e3]) rfl ⟨_, F, rfl, hF, ?_, ?_⟩
  · rw [hFe]
    exact New.lower (B := w.heap.size + 3) (by exact hM1) (by omega)
  · exact (bel_put (bel_put (bel_put (bel_put (bel_put hB1 (by first | (simp; done) | (simp; omega)) _) (by first | (simp; done) | (simp; omega)) _) (by first | (simp; done) | (simp; omega)) _) (by first | (simp; done) | (simp; omega)) _) (by first | (simp; done) | (simp; omega)) _)
theorem o_eqWhole {w : World} {cs cs' : List Value} {p : DWhole} (h : tWhole.R w w.heap.size cs p) (h' : tWhole.R w w.heap.size cs' p) :
    Calls Try.prog 122 #[.agg cs.toArray, .agg cs'.toArray] w fun e w' => e = .returned (.bool true) ∧ Below w.heap.size w w' := by
  obtain ⟨A3, n3, c3, rfl, hi0, hi1, hi2, ha3, hb3, hl3, hr3⟩ := openWhole h
  obtain ⟨A3', n3', c3', rfl, hi0', hi1', hi2', ha3', hb3', hl3', hr3'⟩ := openWhole h'
  obtain ⟨x0, x1, x2, r3⟩ := p
  try dsimp only at *
  subst hl3
  subst hl3'
  have q0 : (x0 != x0) = false := by simp
  have q1 : (x1 != x1) = false := by simp
  have q2 : (x2 != x2) = false := by simp
  go_enter Try.func122, Try.ntmps122
  go_wp2_with fail
  refine (o_eqPieceS (tPiece.row.reach hr3 ?hB) (tPiece.row.reach hr3' ?hB)).mono ?_
  case hB => exact (by repeat (first | (with_reducible exact Below.refl _ _) | (with_reducible assumption) | (with_reducible refine bel_alloc ?_ _) | (with_reducible refine bel_drew ?_) | (with_reducible refine below_drewN ?_ _) | (with_reducible refine bel_put ?_ (by first | exact Nat.le_refl _ | (simp; done) | (simp; omega)) _)))
  rintro e w1 ⟨rfl, hb1⟩
  have hB1 : Below w.heap.size w w1 := bel_trans (by repeat (first | (with_reducible exact Below.refl _ _) | (with_reducible assumption) | (with_reducible refine bel_alloc ?_ _) | (with_reducible refine bel_drew ?_) | (with_reducible refine below_drewN ?_ _) | (with_reducible refine bel_put ?_ (by first | exact Nat.le_refl _ | (simp; done) | (simp; omega)) _))) hb1
  have P1 : Box w1 w.heap.size 98 #[.int .i64 x0, .int .i64 x1, .int .i64 x2, .slice A3 r3.length c3] := ((Box.new _ _ _).alloc _).below hb1 (by first | (simp; done) | (simp; omega))
  have Q1 : Box w1 (w.heap.size + 1) 98 #[.int .i64 x0, .int .i64 x1, .int .i64 x2, .slice A3' r3.length c3'] := Box.below (by simpa using Box.new (w.alloc _) 98 #[.int .i64 x0, .int .i64 x1, .int .i64 x2, .slice A3' r3.length c3']) hb1 (by first | (simp; done) | (simp; omega))
  go_wp2
  go_ret
  exact ⟨rfl, hB1⟩
end Go.Proofs.Ytpapkonejkdkhaa
