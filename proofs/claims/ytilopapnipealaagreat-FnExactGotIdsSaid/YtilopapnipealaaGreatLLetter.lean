/-
  The laws' functions on Letter.
-/
import Derived.Test.YtilopapnipealaaGreatMk
namespace Go.Proofs.YtilopapnipealaaGreat
set_option maxRecDepth 100000
set_option linter.unusedVariables false
set_option linter.unusedSimpArgs false
open Go.ChangeShapes Go.WideShapes Go.ChangeAt Go.RowKit
theorem o_szLetter_t {w : World} {cs : List Value} {p : DLetter} {k : Int} (h : tLetter.R w w.heap.size cs p) (h1 : 0 ≤ k) (h2 : k ≤ 1048576) (h3 : (szLetter p : Int) ≤ k) :
    Calls Tryz.prog 102 #[.agg cs.toArray, .int .i64 k] w fun e w' => e = .returned (.int .i64 (k - szLetter p)) ∧ Below w.heap.size w w' := by
  obtain ⟨A1, n1, c1, rfl, hi0, ha1, hb1, hl1, hr1⟩ := openLetter h
  obtain ⟨x0, l1⟩ := p
  try dsimp only [szLetter] at *
  subst hl1
  have d0 : decide (k - ((l1.length : Nat) : Int) < 0) = false := by simp; omega
  go_enter Tryz.func102, Tryz.ntmps102
  go_wp2_with fail
  refine (o_szByteS_t (tBy.reach hr1 ?hB) (by omega) (by omega) (by omega)).mono ?_
  case hB => exact (by repeat (first | (with_reducible exact Below.refl _ _) | (with_reducible assumption) | (with_reducible refine bel_alloc ?_ _) | (with_reducible refine bel_drew ?_) | (with_reducible refine below_drewN ?_ _) | (with_reducible refine bel_put ?_ (by first | exact Nat.le_refl _ | (simp; done) | (simp; omega)) _)))
  rintro e w1 ⟨rfl, hb1⟩
  have hB1 : Below w.heap.size w w1 := bel_trans (by repeat (first | (with_reducible exact Below.refl _ _) | (with_reducible assumption) | (with_reducible refine bel_alloc ?_ _) | (with_reducible refine bel_drew ?_) | (with_reducible refine below_drewN ?_ _) | (with_reducible refine bel_put ?_ (by first | exact Nat.le_refl _ | (simp; done) | (simp; omega)) _))) hb1
  have P1 : Box w1 w.heap.size 123 #[.int .i64 x0, .slice A1 l1.length c1] := (Box.new _ _ _).below hb1 (by first | (simp; done) | (simp; omega))
  go_wp2
  go_ret
  exact ⟨ret_int (by omega), hB1⟩
theorem o_szLetter_f {w : World} {cs : List Value} {p : DLetter} {k : Int} (h : tLetter.R w w.heap.size cs p) (h1 : 0 ≤ k) (h2 : k ≤ 1048576) (h3 : ¬ (szLetter p : Int) ≤ k) :
    Calls Tryz.prog 102 #[.agg cs.toArray, .int .i64 k] w fun e w' => e = .returned (.int .i64 (-1)) ∧ Below w.heap.size w w' := by
  obtain ⟨A1, n1, c1, rfl, hi0, ha1, hb1, hl1, hr1⟩ := openLetter h
  obtain ⟨x0, l1⟩ := p
  try dsimp only [szLetter] at *
  subst hl1
  go_enter Tryz.func102, Tryz.ntmps102
  go_wp2_with fail
  refine (o_szByteS_f (tBy.reach hr1 ?hB) (by omega) (by omega) (by omega)).mono ?_
  case hB => exact (by repeat (first | (with_reducible exact Below.refl _ _) | (with_reducible assumption) | (with_reducible refine bel_alloc ?_ _) | (with_reducible refine bel_drew ?_) | (with_reducible refine below_drewN ?_ _) | (with_reducible refine bel_put ?_ (by first | exact Nat.le_refl _ | (simp; done) | (simp; omega)) _)))
  rintro e w1 ⟨rfl, hb1⟩
  have hB1 : Below w.heap.size w w1 := bel_trans (by repeat (first | (with_reducible exact Below.refl _ _) | (with_reducible assumption) | (with_reducible refine bel_alloc ?_ _) | (with_reducible refine bel_drew ?_) | (with_reducible refine below_drewN ?_ _) | (with_reducible refine bel_put ?_ (by first | exact Nat.le_refl _ | (simp; done) | (simp; omega)) _))) hb1
  have P1 : Box w1 w.heap.size 123 #[.int .i64 x0, .slice A1 l1.length c1] := (Box.new _ _ _).below hb1 (by first | (simp; done) | (simp; omega))
  go_wp2
  go_ret
  exact ⟨rfl, hB1⟩
set_option maxHeartbeats 400000 in
theorem o_toLetter {w : World} {cs : List Value} {p : DLetter} (h : tLetter.R w w.heap.size cs p) (hn : szLetter p ≤ 1048576) :
    Calls Tryz.prog 106 #[.agg cs.toArray] w fun e w' => ∃ cs' F, e = .returned (.agg cs'.toArray) ∧ tLetter.O w' cs' p F ∧ New w.heap.size F ∧ Below w.heap.size w w' := by
  obtain ⟨A1, n1, c1, rfl, hi0, ha1, hb1, hl1, hr1⟩ := openLetter h
  obtain ⟨x0, l1⟩ := p
  try dsimp only [szLetter] at *
  subst hl1
  go_enter Tryz.func106, Tryz.ntmps106
  go_wp2_with fail
  refine (o_toByteS (tBy.reach hr1 ?hB) (by omega)).mono ?_
  case hB => exact (by repeat (first | (with_reducible exact Below.refl _ _) | (with_reducible assumption) | (with_reducible refine bel_alloc ?_ _) | (with_reducible refine bel_drew ?_) | (with_reducible refine below_drewN ?_ _) | (with_reducible refine bel_put ?_ (by first | exact Nat.le_refl _ | (simp; done) | (simp; omega)) _)))
  rintro e w1 ⟨B1, d1, F1, rfl, o1, hN1, hb1⟩
  have z1 : w.heap.size + 3 ≤ w1.heap.size := by have := hb1.size; simpa using this
  have hB1 : Below w.heap.size w w1 := bel_trans (by repeat (first | (with_reducible exact Below.refl _ _) | (with_reducible assumption) | (with_reducible refine bel_alloc ?_ _) | (with_reducible refine bel_drew ?_) | (with_reducible refine below_drewN ?_ _) | (with_reducible refine bel_put ?_ (by first | exact Nat.le_refl _ | (simp; done) | (simp; omega)) _))) hb1
  have R1 : Box w1 (w.heap.size + 1) 83 #[.int .i64 0, .slice none 0 0] := Box.below (Box.alloc (by simpa using Box.new (w.alloc _) 83 #[.int .i64 0, .slice none 0 0]) _) hb1 (by first | (simp; done) | (simp; omega))
  have L1 : Box w1 (w.heap.size + 1 + 1) 83 #[.int .i64 x0, .slice none 0 0] := Box.below (by simpa using Box.new ((w.alloc _).alloc _) 83 #[.int .i64 x0, .slice none 0 0]) hb1 (by first | (simp; done) | (simp; omega))
  have P1 : Box w1 w.heap.size 123 #[.int .i64 x0, .slice A1 l1.length c1] := Box.below (((Box.new w 123 #[.int .i64 x0, .slice A1 l1.length c1]).alloc _).alloc _) hb1 (by first | (simp; done) | (simp; omega))
  have hM1 : New (w.heap.size + 3) (F1) := hN1.lower (by simp)
  clear hN1
  have y1 : ∀ f ∈ F1, f < w1.heap.size := by intro f hf; exact tBy.lt o1 f hf
  have kr1_0 := R1.cell 0; have fr1_0 := R1.frozen 0; have kl1_0 := L1.cell 0; have fl1_0 := L1.frozen 0; have kp1_0 := P1.cell 0
  have kr1_1 := R1.cell 1; have fr1_1 := R1.frozen 1; have kl1_1 := L1.cell 1; have fl1_1 := L1.frozen 1; have kp1_1 := P1.cell 1
  go_wp2
  have RR := (((R1.far (p := ⟨w.heap.size + 1 + 1, 1, none⟩) (by first | (simp; done) | (simp; omega)) (.slice B1 l1.length d1)).put 0 (.int .i64 x0)).put 1 (.slice B1 l1.length d1))
  have e0 := RR.cell 0
  have e1 := RR.cell 1
  have u1 := (Ty.far (t := tBy) (Ty.far (t := tBy) (Ty.far (t := tBy) o1 hM1 (p := ⟨w.heap.size + 1 + 1, 1, none⟩) (by first | (simp; done) | (simp; omega)) (.slice B1 l1.length d1)) hM1 (p := ⟨w.heap.size + 1, 0, none⟩) (by first | (simp; done) | (simp; omega)) (.int .i64 x0)) hM1 (p := ⟨w.heap.size + 1, 1, none⟩) (by first | (simp; done) | (simp; omega)) (.slice B1 l1.length d1))
  obtain ⟨F, hF, hFe⟩ := makeOLetter (p := (x0, l1)) hi0 u1
  refine bodyPost_ret (v := .agg #[.int .i64 x0, .slice B1 l1.length d1]) (by simp [results, Tryz.results106, go_sem, e0, e1]) rfl ⟨_, F, rfl, hF, ?_, ?_⟩
  · rw [hFe]
    exact New.lower (B := w.heap.size + 3) (by exact hM1) (by omega)
  · exact (bel_put (bel_put (bel_put hB1 (by first | (simp; done) | (simp; omega)) _) (by first | (simp; done) | (simp; omega)) _) (by first | (simp; done) | (simp; omega)) _)
theorem o_eqLetter {w : World} {cs cs' : List Value} {p : DLetter} (h : tLetter.R w w.heap.size cs p) (h' : tLetter.R w w.heap.size cs' p) :
    Calls Tryz.prog 125 #[.agg cs.toArray, .agg cs'.toArray] w fun e w' => e = .returned (.bool true) ∧ Below w.heap.size w w' := by
  obtain ⟨A1, n1, c1, rfl, hi0, ha1, hb1, hl1, hr1⟩ := openLetter h
  obtain ⟨A1', n1', c1', rfl, hi0', ha1', hb1', hl1', hr1'⟩ := openLetter h'
  obtain ⟨x0, l1⟩ := p
  try dsimp only at *
  subst hl1
  subst hl1'
  have q0 : (x0 != x0) = false := by simp
  go_enter Tryz.func125, Tryz.ntmps125
  go_wp2_with fail
  refine (o_eqByteS (tBy.reach hr1 ?hB) (tBy.reach hr1' ?hB)).mono ?_
  case hB => exact (by repeat (first | (with_reducible exact Below.refl _ _) | (with_reducible assumption) | (with_reducible refine bel_alloc ?_ _) | (with_reducible refine bel_drew ?_) | (with_reducible refine below_drewN ?_ _) | (with_reducible refine bel_put ?_ (by first | exact Nat.le_refl _ | (simp; done) | (simp; omega)) _)))
  rintro e w1 ⟨rfl, hb1⟩
  have hB1 : Below w.heap.size w w1 := bel_trans (by repeat (first | (with_reducible exact Below.refl _ _) | (with_reducible assumption) | (with_reducible refine bel_alloc ?_ _) | (with_reducible refine bel_drew ?_) | (with_reducible refine below_drewN ?_ _) | (with_reducible refine bel_put ?_ (by first | exact Nat.le_refl _ | (simp; done) | (simp; omega)) _))) hb1
  have P1 : Box w1 w.heap.size 83 #[.int .i64 x0, .slice A1 l1.length c1] := ((Box.new _ _ _).alloc _).below hb1 (by first | (simp; done) | (simp; omega))
  have Q1 : Box w1 (w.heap.size + 1) 83 #[.int .i64 x0, .slice A1' l1.length c1'] := Box.below (by simpa using Box.new (w.alloc _) 83 #[.int .i64 x0, .slice A1' l1.length c1']) hb1 (by first | (simp; done) | (simp; omega))
  go_wp2
  go_ret
  exact ⟨rfl, hB1⟩
end Go.Proofs.YtilopapnipealaaGreat
