/-
  The laws' functions on Node.
-/
import Derived.Test.YtilopapnipealaaGreatMk
import Derived.Test.YtilopapnipealaaGreatLDesk
import Derived.Test.YtilopapnipealaaGreatLLetterS
import Derived.Test.YtilopapnipealaaGreatLPool
namespace Go.Proofs.YtilopapnipealaaGreat
set_option maxRecDepth 100000
set_option linter.unusedVariables false
set_option linter.unusedSimpArgs false
open Go.ChangeShapes Go.WideShapes Go.ChangeAt Go.RowKit
theorem o_szNode_t {w : World} {cs : List Value} {p : DNode} {k : Int} (h : tNode.R w w.heap.size cs p) (h1 : 0 ≤ k) (h2 : k ≤ 1048576) (h3 : (szNode p : Int) ≤ k) :
    Calls Tryz.prog 11 #[.agg cs.toArray, .int .i64 k] w fun e w' => e = .returned (.int .i64 (k - szNode p)) ∧ Below w.heap.size w w' := by
  obtain ⟨A2, n2, c2, A3, n3, c3, A4, n4, c4, A5, n5, c5, A6, n6, c6, rfl, hi0, hi1, ha2, hb2, hl2, hr2, ha3, hb3, hl3, hr3, ha4, hb4, hl4, hr4, ha5, hb5, hl5, hr5, ha6, hb6, hl6, hr6⟩ := openNode h
  obtain ⟨x0, x1, ⟨r2, l3⟩, ⟨r4, l5⟩, r6⟩ := p
  try dsimp only [szNode] at *
  subst hl2
  subst hl3
  subst hl4
  subst hl5
  subst hl6
  have d0 : decide (k - ((szPool (r2, l3) : Nat) : Int) < 0) = false := by simp; omega
  have d1 : decide (k - ((szPool (r2, l3) : Nat) : Int) - ((szDesk (r4, l5) : Nat) : Int) < 0) = false := by simp; omega
  have d2 : decide (k - ((szPool (r2, l3) : Nat) : Int) - ((szDesk (r4, l5) : Nat) : Int) - ((rsz szLetter r6 : Nat) : Int) < 0) = false := by simp; omega
  go_enter Tryz.func11, Tryz.ntmps11
  go_wp2_with fail
  refine (o_szPool_t (tPool.reach (makePool (p := (r2, l3)) hr2 hr3) ?hB) (by omega) (by omega) (by omega)).mono ?_
  case hB => exact (by repeat (first | (with_reducible exact Below.refl _ _) | (with_reducible assumption) | (with_reducible refine bel_alloc ?_ _) | (with_reducible refine bel_drew ?_) | (with_reducible refine below_drewN ?_ _) | (with_reducible refine bel_put ?_ (by first | exact Nat.le_refl _ | (simp; done) | (simp; omega)) _)))
  rintro e w1 ⟨rfl, hb1⟩
  have hB1 : Below w.heap.size w w1 := bel_trans (by repeat (first | (with_reducible exact Below.refl _ _) | (with_reducible assumption) | (with_reducible refine bel_alloc ?_ _) | (with_reducible refine bel_drew ?_) | (with_reducible refine below_drewN ?_ _) | (with_reducible refine bel_put ?_ (by first | exact Nat.le_refl _ | (simp; done) | (simp; omega)) _))) hb1
  have P1 : Box w1 w.heap.size 31 #[.int .i64 x0, .int .i64 x1, .slice A2 r2.length c2, .slice A3 l3.length c3, .slice A4 r4.length c4, .slice A5 l5.length c5, .slice A6 r6.length c6] := (Box.new _ _ _).below hb1 (by first | (simp; done) | (simp; omega))
  have e0_4 := P1.cell 4
  have e0_5 := P1.cell 5
  go_wp2_with fail
  refine (o_szDesk_t (tDesk.reach (makeDesk (p := (r4, l5)) hr4 hr5) ?hB) (by omega) (by omega) (by omega)).mono ?_
  case hB => exact (by repeat (first | (with_reducible exact Below.refl _ _) | (with_reducible assumption) | (with_reducible refine bel_alloc ?_ _) | (with_reducible refine bel_drew ?_) | (with_reducible refine below_drewN ?_ _) | (with_reducible refine bel_put ?_ (by first | exact Nat.le_refl _ | (simp; done) | (simp; omega)) _)))
  rintro e w2 ⟨rfl, hb2⟩
  have hB2 : Below w.heap.size w w2 := bel_trans (by repeat (first | (with_reducible exact Below.refl _ _) | (with_reducible assumption) | (with_reducible refine bel_alloc ?_ _) | (with_reducible refine bel_drew ?_) | (with_reducible refine below_drewN ?_ _) | (with_reducible refine bel_put ?_ (by first | exact Nat.le_refl _ | (simp; done) | (simp; omega)) _))) hb2
  have P2 := P1.below hb2 P1.size
  have e1_6 := P2.cell 6
  go_wp2_with fail
  refine (o_szLetterS_t (tLetter.row.reach hr6 ?hB) (by omega) (by omega) (by omega)).mono ?_
  case hB => exact (by repeat (first | (with_reducible exact Below.refl _ _) | (with_reducible assumption) | (with_reducible refine bel_alloc ?_ _) | (with_reducible refine bel_drew ?_) | (with_reducible refine below_drewN ?_ _) | (with_reducible refine bel_put ?_ (by first | exact Nat.le_refl _ | (simp; done) | (simp; omega)) _)))
  rintro e w3 ⟨rfl, hb3⟩
  have hB3 : Below w.heap.size w w3 := bel_trans (by repeat (first | (with_reducible exact Below.refl _ _) | (with_reducible assumption) | (with_reducible refine bel_alloc ?_ _) | (with_reducible refine bel_drew ?_) | (with_reducible refine below_drewN ?_ _) | (with_reducible refine bel_put ?_ (by first | exact Nat.le_refl _ | (simp; done) | (simp; omega)) _))) hb3
  have P3 := P2.below hb3 P2.size
  go_wp2
  go_ret
  exact ⟨ret_int (by omega), hB3⟩
theorem o_szNode_f {w : World} {cs : List Value} {p : DNode} {k : Int} (h : tNode.R w w.heap.size cs p) (h1 : 0 ≤ k) (h2 : k ≤ 1048576) (h3 : ¬ (szNode p : Int) ≤ k) :
    Calls Tryz.prog 11 #[.agg cs.toArray, .int .i64 k] w fun e w' => e = .returned (.int .i64 (-1)) ∧ Below w.heap.size w w' := by
  obtain ⟨A2, n2, c2, A3, n3, c3, A4, n4, c4, A5, n5, c5, A6, n6, c6, rfl, hi0, hi1, ha2, hb2, hl2, hr2, ha3, hb3, hl3, hr3, ha4, hb4, hl4, hr4, ha5, hb5, hl5, hr5, ha6, hb6, hl6, hr6⟩ := openNode h
  obtain ⟨x0, x1, ⟨r2, l3⟩, ⟨r4, l5⟩, r6⟩ := p
  try dsimp only [szNode] at *
  subst hl2
  subst hl3
  subst hl4
  subst hl5
  subst hl6
  by_cases g0 : (((szPool (r2, l3)) : Nat) : Int) ≤ k
  rotate_left
  · go_enter Tryz.func11, Tryz.ntmps11
    go_wp2_with fail
    refine (o_szPool_f (tPool.reach (makePool (p := (r2, l3)) hr2 hr3) ?hB) (by omega) (by omega) (by omega)).mono ?_
    case hB => exact (by repeat (first | (with_reducible exact Below.refl _ _) | (with_reducible assumption) | (with_reducible refine bel_alloc ?_ _) | (with_reducible refine bel_drew ?_) | (with_reducible refine below_drewN ?_ _) | (with_reducible refine bel_put ?_ (by first | exact Nat.le_refl _ | (simp; done) | (simp; omega)) _)))
    rintro e w1 ⟨rfl, hb1⟩
    have hB1 : Below w.heap.size w w1 := bel_trans (by repeat (first | (with_reducible exact Below.refl _ _) | (with_reducible assumption) | (with_reducible refine bel_alloc ?_ _) | (with_reducible refine bel_drew ?_) | (with_reducible refine below_drewN ?_ _) | (with_reducible refine bel_put ?_ (by first | exact Nat.le_refl _ | (simp; done) | (simp; omega)) _))) hb1
    have P1 : Box w1 w.heap.size 31 #[.int .i64 x0, .int .i64 x1, .slice A2 r2.length c2, .slice A3 l3.length c3, .slice A4 r4.length c4, .slice A5 l5.length c5, .slice A6 r6.length c6] := (Box.new _ _ _).below hb1 (by first | (simp; done) | (simp; omega))
    go_wp2
    go_ret
    exact ⟨rfl, hB1⟩
  by_cases g1 : (((szPool (r2, l3) + szDesk (r4, l5)) : Nat) : Int) ≤ k
  rotate_left
  · have d0 : decide (k - ((szPool (r2, l3) : Nat) : Int) < 0) = false := by simp; omega
    go_enter Tryz.func11, Tryz.ntmps11
    go_wp2_with fail
    refine (o_szPool_t (tPool.reach (makePool (p := (r2, l3)) hr2 hr3) ?hB) (by omega) (by omega) (by omega)).mono ?_
    case hB => exact (by repeat (first | (with_reducible exact Below.refl _ _) | (with_reducible assumption) | (with_reducible refine bel_alloc ?_ _) | (with_reducible refine bel_drew ?_) | (with_reducible refine below_drewN ?_ _) | (with_reducible refine bel_put ?_ (by first | exact Nat.le_refl _ | (simp; done) | (simp; omega)) _)))
    rintro e w1 ⟨rfl, hb1⟩
    have hB1 : Below w.heap.size w w1 := bel_trans (by repeat (first | (with_reducible exact Below.refl _ _) | (with_reducible assumption) | (with_reducible refine bel_alloc ?_ _) | (with_reducible refine bel_drew ?_) | (with_reducible refine below_drewN ?_ _) | (with_reducible refine bel_put ?_ (by first | exact Nat.le_refl _ | (simp; done) | (simp; omega)) _))) hb1
    have P1 : Box w1 w.heap.size 31 #[.int .i64 x0, .int .i64 x1, .slice A2 r2.length c2, .slice A3 l3.length c3, .slice A4 r4.length c4, .slice A5 l5.length c5, .slice A6 r6.length c6] := (Box.new _ _ _).below hb1 (by first | (simp; done) | (simp; omega))
    have e0_4 := P1.cell 4
    have e0_5 := P1.cell 5
    go_wp2_with fail
    refine (o_szDesk_f (tDesk.reach (makeDesk (p := (r4, l5)) hr4 hr5) ?hB) (by omega) (by omega) (by omega)).mono ?_
    case hB => exact (by repeat (first | (with_reducible exact Below.refl _ _) | (with_reducible assumption) | (with_reducible refine bel_alloc ?_ _) | (with_reducible refine bel_drew ?_) | (with_reducible refine below_drewN ?_ _) | (with_reducible refine bel_put ?_ (by first | exact Nat.le_refl _ | (simp; done) | (simp; omega)) _)))
    rintro e w2 ⟨rfl, hb2⟩
    have hB2 : Below w.heap.size w w2 := bel_trans (by repeat (first | (with_reducible exact Below.refl _ _) | (with_reducible assumption) | (with_reducible refine bel_alloc ?_ _) | (with_reducible refine bel_drew ?_) | (with_reducible refine below_drewN ?_ _) | (with_reducible refine bel_put ?_ (by first | exact Nat.le_refl _ | (simp; done) | (simp; omega)) _))) hb2
    have P2 := P1.below hb2 P1.size
    go_wp2
    go_ret
    exact ⟨rfl, hB2⟩
  have d0 : decide (k - ((szPool (r2, l3) : Nat) : Int) < 0) = false := by simp; omega
  have d1 : decide (k - ((szPool (r2, l3) : Nat) : Int) - ((szDesk (r4, l5) : Nat) : Int) < 0) = false := by simp; omega
  go_enter Tryz.func11, Tryz.ntmps11
  go_wp2_with fail
  refine (o_szPool_t (tPool.reach (makePool (p := (r2, l3)) hr2 hr3) ?hB) (by omega) (by omega) (by omega)).mono ?_
  case hB => exact (by repeat (first | (with_reducible exact Below.refl _ _) | (with_reducible assumption) | (with_reducible refine bel_alloc ?_ _) | (with_reducible refine bel_drew ?_) | (with_reducible refine below_drewN ?_ _) | (with_reducible refine bel_put ?_ (by first | exact Nat.le_refl _ | (simp; done) | (simp; omega)) _)))
  rintro e w1 ⟨rfl, hb1⟩
  have hB1 : Below w.heap.size w w1 := bel_trans (by repeat (first | (with_reducible exact Below.refl _ _) | (with_reducible assumption) | (with_reducible refine bel_alloc ?_ _) | (with_reducible refine bel_drew ?_) | (with_reducible refine below_drewN ?_ _) | (with_reducible refine bel_put ?_ (by first | exact Nat.le_refl _ | (simp; done) | (simp; omega)) _))) hb1
  have P1 : Box w1 w.heap.size 31 #[.int .i64 x0, .int .i64 x1, .slice A2 r2.length c2, .slice A3 l3.length c3, .slice A4 r4.length c4, .slice A5 l5.length c5, .slice A6 r6.length c6] := (Box.new _ _ _).below hb1 (by first | (simp; done) | (simp; omega))
  have e0_4 := P1.cell 4
  have e0_5 := P1.cell 5
  go_wp2_with fail
  refine (o_szDesk_t (tDesk.reach (makeDesk (p := (r4, l5)) hr4 hr5) ?hB) (by omega) (by omega) (by omega)).mono ?_
  case hB => exact (by repeat (first | (with_reducible exact Below.refl _ _) | (with_reducible assumption) | (with_reducible refine bel_alloc ?_ _) | (with_reducible refine bel_drew ?_) | (with_reducible refine below_drewN ?_ _) | (with_reducible refine bel_put ?_ (by first | exact Nat.le_refl _ | (simp; done) | (simp; omega)) _)))
  rintro e w2 ⟨rfl, hb2⟩
  have hB2 : Below w.heap.size w w2 := bel_trans (by repeat (first | (with_reducible exact Below.refl _ _) | (with_reducible assumption) | (with_reducible refine bel_alloc ?_ _) | (with_reducible refine bel_drew ?_) | (with_reducible refine below_drewN ?_ _) | (with_reducible refine bel_put ?_ (by first | exact Nat.le_refl _ | (simp; done) | (simp; omega)) _))) hb2
  have P2 := P1.below hb2 P1.size
  have e1_6 := P2.cell 6
  go_wp2_with fail
  refine (o_szLetterS_f (tLetter.row.reach hr6 ?hB) (by omega) (by omega) (by omega)).mono ?_
  case hB => exact (by repeat (first | (with_reducible exact Below.refl _ _) | (with_reducible assumption) | (with_reducible refine bel_alloc ?_ _) | (with_reducible refine bel_drew ?_) | (with_reducible refine below_drewN ?_ _) | (with_reducible refine bel_put ?_ (by first | exact Nat.le_refl _ | (simp; done) | (simp; omega)) _)))
  rintro e w3 ⟨rfl, hb3⟩
  have hB3 : Below w.heap.size w w3 := bel_trans (by repeat (first | (with_reducible exact Below.refl _ _) | (with_reducible assumption) | (with_reducible refine bel_alloc ?_ _) | (with_reducible refine bel_drew ?_) | (with_reducible refine below_drewN ?_ _) | (with_reducible refine bel_put ?_ (by first | exact Nat.le_refl _ | (simp; done) | (simp; omega)) _))) hb3
  have P3 := P2.below hb3 P2.size
  go_wp2
  go_ret
  exact ⟨rfl, hB3⟩
set_option maxHeartbeats 400000 in
theorem o_toNode {w : World} {cs : List Value} {p : DNode} (h : tNode.R w w.heap.size cs p) (hn : szNode p ≤ 1048576) :
    Calls Tryz.prog 13 #[.agg cs.toArray] w fun e w' => ∃ cs' F, e = .returned (.agg cs'.toArray) ∧ tNode.O w' cs' p F ∧ New w.heap.size F ∧ Below w.heap.size w w' := by
  obtain ⟨A2, n2, c2, A3, n3, c3, A4, n4, c4, A5, n5, c5, A6, n6, c6, rfl, hi0, hi1, ha2, hb2, hl2, hr2, ha3, hb3, hl3, hr3, ha4, hb4, hl4, hr4, ha5, hb5, hl5, hr5, ha6, hb6, hl6, hr6⟩ := openNode h
  obtain ⟨x0, x1, ⟨r2, l3⟩, ⟨r4, l5⟩, r6⟩ := p
  try dsimp only [szNode] at *
  subst hl2
  subst hl3
  subst hl4
  subst hl5
  subst hl6
  go_enter Tryz.func13, Tryz.ntmps13
  go_wp2_with fail
  refine (o_toPool (tPool.reach (makePool (p := (r2, l3)) hr2 hr3) ?hB) (by omega)).mono ?_
  case hB => exact (by repeat (first | (with_reducible exact Below.refl _ _) | (with_reducible assumption) | (with_reducible refine bel_alloc ?_ _) | (with_reducible refine bel_drew ?_) | (with_reducible refine below_drewN ?_ _) | (with_reducible refine bel_put ?_ (by first | exact Nat.le_refl _ | (simp; done) | (simp; omega)) _)))
  rintro e w1 ⟨cs1, G1, rfl, hO1, hN1, hb1⟩
  obtain ⟨B2, d2, F2, B3, d3, F3, rfl, hGe1, _, _, o2, _, _, o3⟩ := openOPool hO1
  try dsimp only at *
  subst G1
  have z1 : w.heap.size + 3 ≤ w1.heap.size := by have := hb1.size; simpa using this
  have hB1 : Below w.heap.size w w1 := bel_trans (by repeat (first | (with_reducible exact Below.refl _ _) | (with_reducible assumption) | (with_reducible refine bel_alloc ?_ _) | (with_reducible refine bel_drew ?_) | (with_reducible refine below_drewN ?_ _) | (with_reducible refine bel_put ?_ (by first | exact Nat.le_refl _ | (simp; done) | (simp; omega)) _))) hb1
  have R1 : Box w1 (w.heap.size + 1) 42 #[.int .i64 0, .int .i64 0, .slice none 0 0, .slice none 0 0, .slice none 0 0, .slice none 0 0, .slice none 0 0] := Box.below (Box.alloc (by simpa using Box.new (w.alloc _) 42 #[.int .i64 0, .int .i64 0, .slice none 0 0, .slice none 0 0, .slice none 0 0, .slice none 0 0, .slice none 0 0]) _) hb1 (by first | (simp; done) | (simp; omega))
  have L1 : Box w1 (w.heap.size + 1 + 1) 42 #[.int .i64 x0, .int .i64 x1, .slice none 0 0, .slice none 0 0, .slice none 0 0, .slice none 0 0, .slice none 0 0] := Box.below (by simpa using Box.new ((w.alloc _).alloc _) 42 #[.int .i64 x0, .int .i64 x1, .slice none 0 0, .slice none 0 0, .slice none 0 0, .slice none 0 0, .slice none 0 0]) hb1 (by first | (simp; done) | (simp; omega))
  have P1 : Box w1 w.heap.size 31 #[.int .i64 x0, .int .i64 x1, .slice A2 r2.length c2, .slice A3 l3.length c3, .slice A4 r4.length c4, .slice A5 l5.length c5, .slice A6 r6.length c6] := Box.below (((Box.new w 31 #[.int .i64 x0, .int .i64 x1, .slice A2 r2.length c2, .slice A3 l3.length c3, .slice A4 r4.length c4, .slice A5 l5.length c5, .slice A6 r6.length c6]).alloc _).alloc _) hb1 (by first | (simp; done) | (simp; omega))
  have hM1 : New (w.heap.size + 3) (F2 ++ F3) := hN1.lower (by simp)
  clear hN1
  have hM1_2 : New (w.heap.size + 3) F2 := New.sub hM1 (by intro f hf; simp [hf]) (by have := hM1.1; simp only [List.nodup_append] at this; simp [this])
  have hM1_3 : New (w.heap.size + 3) F3 := New.sub hM1 (by intro f hf; simp [hf]) (by have := hM1.1; simp only [List.nodup_append] at this; simp [this])
  have y1 : ∀ f ∈ F2 ++ F3, f < w1.heap.size := by intro f hf; (try simp only [List.mem_append] at hf); rcases hf with hf | hf <;> first | exact (tHeld.row).lt o2 f hf | exact (tIs).lt o3 f hf
  have kr1_0 := R1.cell 0; have fr1_0 := R1.frozen 0; have kl1_0 := L1.cell 0; have fl1_0 := L1.frozen 0; have kp1_0 := P1.cell 0
  have kr1_1 := R1.cell 1; have fr1_1 := R1.frozen 1; have kl1_1 := L1.cell 1; have fl1_1 := L1.frozen 1; have kp1_1 := P1.cell 1
  have kr1_2 := R1.cell 2; have fr1_2 := R1.frozen 2; have kl1_2 := L1.cell 2; have fl1_2 := L1.frozen 2; have kp1_2 := P1.cell 2
  have kr1_3 := R1.cell 3; have fr1_3 := R1.frozen 3; have kl1_3 := L1.cell 3; have fl1_3 := L1.frozen 3; have kp1_3 := P1.cell 3
  have kr1_4 := R1.cell 4; have fr1_4 := R1.frozen 4; have kl1_4 := L1.cell 4; have fl1_4 := L1.frozen 4; have kp1_4 := P1.cell 4
  have kr1_5 := R1.cell 5; have fr1_5 := R1.frozen 5; have kl1_5 := L1.cell 5; have fl1_5 := L1.frozen 5; have kp1_5 := P1.cell 5
  have kr1_6 := R1.cell 6; have fr1_6 := R1.frozen 6; have kl1_6 := L1.cell 6; have fl1_6 := L1.frozen 6; have kp1_6 := P1.cell 6
  go_wp2_with fail
  refine (o_toDesk (tDesk.reach (makeDesk (p := (r4, l5)) hr4 hr5) ?hB) (by omega)).mono ?_
  case hB => exact (by repeat (first | (with_reducible exact Below.refl _ _) | (with_reducible assumption) | (with_reducible refine bel_alloc ?_ _) | (with_reducible refine bel_drew ?_) | (with_reducible refine below_drewN ?_ _) | (with_reducible refine bel_put ?_ (by first | exact Nat.le_refl _ | (simp; done) | (simp; omega)) _)))
  rintro e w2 ⟨cs2, G2, rfl, hO2, hN2, hb2⟩
  obtain ⟨B4, d4, F4, B5, d5, F5, rfl, hGe2, _, _, o4, _, _, o5⟩ := openODesk hO2
  try dsimp only at *
  subst G2
  have z2 : w.heap.size + 3 ≤ w2.heap.size := Nat.le_trans z1 (by have := hb2.size; simpa using this)
  have hB2 : Below w.heap.size w w2 := bel_trans (by repeat (first | (with_reducible exact Below.refl _ _) | (with_reducible assumption) | (with_reducible refine bel_alloc ?_ _) | (with_reducible refine bel_drew ?_) | (with_reducible refine below_drewN ?_ _) | (with_reducible refine bel_put ?_ (by first | exact Nat.le_refl _ | (simp; done) | (simp; omega)) _))) hb2
  have R2 : Box w2 (w.heap.size + 1) 42 #[.int .i64 0, .int .i64 0, .slice none 0 0, .slice none 0 0, .slice none 0 0, .slice none 0 0, .slice none 0 0] := Box.below ((R1.far (p := ⟨w.heap.size + 1 + 1, 2, none⟩) (by first | (simp; done) | (simp; omega)) (.slice B2 r2.length d2)).far (p := ⟨w.heap.size + 1 + 1, 3, none⟩) (by first | (simp; done) | (simp; omega)) (.slice B3 l3.length d3)) hb2 (by first | (simp; done) | (simp; omega))
  have L2 : Box w2 (w.heap.size + 1 + 1) 42 #[.int .i64 x0, .int .i64 x1, .slice B2 r2.length d2, .slice B3 l3.length d3, .slice none 0 0, .slice none 0 0, .slice none 0 0] := Box.below (by simpa using ((L1.put 2 (.slice B2 r2.length d2)).put 3 (.slice B3 l3.length d3))) hb2 (by first | (simp; done) | (simp; omega))
  have P2 : Box w2 w.heap.size 31 #[.int .i64 x0, .int .i64 x1, .slice A2 r2.length c2, .slice A3 l3.length c3, .slice A4 r4.length c4, .slice A5 l5.length c5, .slice A6 r6.length c6] := Box.below ((P1.far (p := ⟨w.heap.size + 1 + 1, 2, none⟩) (by first | (simp; done) | (simp; omega)) (.slice B2 r2.length d2)).far (p := ⟨w.heap.size + 1 + 1, 3, none⟩) (by first | (simp; done) | (simp; omega)) (.slice B3 l3.length d3)) hb2 (by first | (simp; done) | (simp; omega))
  replace o2 := Ty.below (t := tHeld.row) (Ty.far (t := tHeld.row) (Ty.far (t := tHeld.row) o2 hM1_2 (p := ⟨w.heap.size + 1 + 1, 2, none⟩) (by first | (simp; done) | (simp; omega)) (.slice B2 r2.length d2)) hM1_2 (p := ⟨w.heap.size + 1 + 1, 3, none⟩) (by first | (simp; done) | (simp; omega)) (.slice B3 l3.length d3)) hb2
  replace o3 := Ty.below (t := tIs) (Ty.far (t := tIs) (Ty.far (t := tIs) o3 hM1_3 (p := ⟨w.heap.size + 1 + 1, 2, none⟩) (by first | (simp; done) | (simp; omega)) (.slice B2 r2.length d2)) hM1_3 (p := ⟨w.heap.size + 1 + 1, 3, none⟩) (by first | (simp; done) | (simp; omega)) (.slice B3 l3.length d3)) hb2
  have hM2 : New (w.heap.size + 3) (F4 ++ F5) := hN2.lower (by simp; omega)
  have hV2 : New w1.heap.size (F4 ++ F5) := hN2.lower (by first | (simp; done) | (simp; omega))
  have zz2 : w1.heap.size ≤ w2.heap.size := by have := hb2.size; simpa using this
  clear hN2
  have hM2_4 : New (w.heap.size + 3) F4 := New.sub hM2 (by intro f hf; simp [hf]) (by have := hM2.1; simp only [List.nodup_append] at this; simp [this])
  have hM2_5 : New (w.heap.size + 3) F5 := New.sub hM2 (by intro f hf; simp [hf]) (by have := hM2.1; simp only [List.nodup_append] at this; simp [this])
  have y2 : ∀ f ∈ F4 ++ F5, f < w2.heap.size := by intro f hf; (try simp only [List.mem_append] at hf); rcases hf with hf | hf <;> first | exact (tWhole.row).lt o4 f hf | exact (tIs).lt o5 f hf
  have kr2_0 := R2.cell 0; have fr2_0 := R2.frozen 0; have kl2_0 := L2.cell 0; have fl2_0 := L2.frozen 0; have kp2_0 := P2.cell 0
  have kr2_1 := R2.cell 1; have fr2_1 := R2.frozen 1; have kl2_1 := L2.cell 1; have fl2_1 := L2.frozen 1; have kp2_1 := P2.cell 1
  have kr2_2 := R2.cell 2; have fr2_2 := R2.frozen 2; have kl2_2 := L2.cell 2; have fl2_2 := L2.frozen 2; have kp2_2 := P2.cell 2
  have kr2_3 := R2.cell 3; have fr2_3 := R2.frozen 3; have kl2_3 := L2.cell 3; have fl2_3 := L2.frozen 3; have kp2_3 := P2.cell 3
  have kr2_4 := R2.cell 4; have fr2_4 := R2.frozen 4; have kl2_4 := L2.cell 4; have fl2_4 := L2.frozen 4; have kp2_4 := P2.cell 4
  have kr2_5 := R2.cell 5; have fr2_5 := R2.frozen 5; have kl2_5 := L2.cell 5; have fl2_5 := L2.frozen 5; have kp2_5 := P2.cell 5
  have kr2_6 := R2.cell 6; have fr2_6 := R2.frozen 6; have kl2_6 := L2.cell 6; have fl2_6 := L2.frozen 6; have kp2_6 := P2.cell 6
  go_wp2_with fail
  refine (o_toLetterS (tLetter.row.reach hr6 ?hB) (by omega)).mono ?_
  case hB => exact (by repeat (first | (with_reducible exact Below.refl _ _) | (with_reducible assumption) | (with_reducible refine bel_alloc ?_ _) | (with_reducible refine bel_drew ?_) | (with_reducible refine below_drewN ?_ _) | (with_reducible refine bel_put ?_ (by first | exact Nat.le_refl _ | (simp; done) | (simp; omega)) _)))
  rintro e w3 ⟨B6, d6, F6, rfl, o6, hN3, hb3⟩
  have z3 : w.heap.size + 3 ≤ w3.heap.size := Nat.le_trans z2 (by have := hb3.size; simpa using this)
  have hB3 : Below w.heap.size w w3 := bel_trans (by repeat (first | (with_reducible exact Below.refl _ _) | (with_reducible assumption) | (with_reducible refine bel_alloc ?_ _) | (with_reducible refine bel_drew ?_) | (with_reducible refine below_drewN ?_ _) | (with_reducible refine bel_put ?_ (by first | exact Nat.le_refl _ | (simp; done) | (simp; omega)) _))) hb3
  have R3 : Box w3 (w.heap.size + 1) 42 #[.int .i64 0, .int .i64 0, .slice none 0 0, .slice none 0 0, .slice none 0 0, .slice none 0 0, .slice none 0 0] := Box.below ((R2.far (p := ⟨w.heap.size + 1 + 1, 4, none⟩) (by first | (simp; done) | (simp; omega)) (.slice B4 r4.length d4)).far (p := ⟨w.heap.size + 1 + 1, 5, none⟩) (by first | (simp; done) | (simp; omega)) (.slice B5 l5.length d5)) hb3 (by first | (simp; done) | (simp; omega))
  have L3 : Box w3 (w.heap.size + 1 + 1) 42 #[.int .i64 x0, .int .i64 x1, .slice B2 r2.length d2, .slice B3 l3.length d3, .slice B4 r4.length d4, .slice B5 l5.length d5, .slice none 0 0] := Box.below (by simpa using ((L2.put 4 (.slice B4 r4.length d4)).put 5 (.slice B5 l5.length d5))) hb3 (by first | (simp; done) | (simp; omega))
  have P3 : Box w3 w.heap.size 31 #[.int .i64 x0, .int .i64 x1, .slice A2 r2.length c2, .slice A3 l3.length c3, .slice A4 r4.length c4, .slice A5 l5.length c5, .slice A6 r6.length c6] := Box.below ((P2.far (p := ⟨w.heap.size + 1 + 1, 4, none⟩) (by first | (simp; done) | (simp; omega)) (.slice B4 r4.length d4)).far (p := ⟨w.heap.size + 1 + 1, 5, none⟩) (by first | (simp; done) | (simp; omega)) (.slice B5 l5.length d5)) hb3 (by first | (simp; done) | (simp; omega))
  replace o2 := Ty.below (t := tHeld.row) (Ty.far (t := tHeld.row) (Ty.far (t := tHeld.row) o2 hM1_2 (p := ⟨w.heap.size + 1 + 1, 4, none⟩) (by first | (simp; done) | (simp; omega)) (.slice B4 r4.length d4)) hM1_2 (p := ⟨w.heap.size + 1 + 1, 5, none⟩) (by first | (simp; done) | (simp; omega)) (.slice B5 l5.length d5)) hb3
  replace o3 := Ty.below (t := tIs) (Ty.far (t := tIs) (Ty.far (t := tIs) o3 hM1_3 (p := ⟨w.heap.size + 1 + 1, 4, none⟩) (by first | (simp; done) | (simp; omega)) (.slice B4 r4.length d4)) hM1_3 (p := ⟨w.heap.size + 1 + 1, 5, none⟩) (by first | (simp; done) | (simp; omega)) (.slice B5 l5.length d5)) hb3
  replace o4 := Ty.below (t := tWhole.row) (Ty.far (t := tWhole.row) (Ty.far (t := tWhole.row) o4 hM2_4 (p := ⟨w.heap.size + 1 + 1, 4, none⟩) (by first | (simp; done) | (simp; omega)) (.slice B4 r4.length d4)) hM2_4 (p := ⟨w.heap.size + 1 + 1, 5, none⟩) (by first | (simp; done) | (simp; omega)) (.slice B5 l5.length d5)) hb3
  replace o5 := Ty.below (t := tIs) (Ty.far (t := tIs) (Ty.far (t := tIs) o5 hM2_5 (p := ⟨w.heap.size + 1 + 1, 4, none⟩) (by first | (simp; done) | (simp; omega)) (.slice B4 r4.length d4)) hM2_5 (p := ⟨w.heap.size + 1 + 1, 5, none⟩) (by first | (simp; done) | (simp; omega)) (.slice B5 l5.length d5)) hb3
  have hM3 : New (w.heap.size + 3) (F6) := hN3.lower (by simp; omega)
  have hV3 : New w2.heap.size (F6) := hN3.lower (by first | (simp; done) | (simp; omega))
  have zz3 : w2.heap.size ≤ w3.heap.size := by have := hb3.size; simpa using this
  clear hN3
  have y3 : ∀ f ∈ F6, f < w3.heap.size := by intro f hf; exact tLetter.row.lt o6 f hf
  have kr3_0 := R3.cell 0; have fr3_0 := R3.frozen 0; have kl3_0 := L3.cell 0; have fl3_0 := L3.frozen 0; have kp3_0 := P3.cell 0
  have kr3_1 := R3.cell 1; have fr3_1 := R3.frozen 1; have kl3_1 := L3.cell 1; have fl3_1 := L3.frozen 1; have kp3_1 := P3.cell 1
  have kr3_2 := R3.cell 2; have fr3_2 := R3.frozen 2; have kl3_2 := L3.cell 2; have fl3_2 := L3.frozen 2; have kp3_2 := P3.cell 2
  have kr3_3 := R3.cell 3; have fr3_3 := R3.frozen 3; have kl3_3 := L3.cell 3; have fl3_3 := L3.frozen 3; have kp3_3 := P3.cell 3
  have kr3_4 := R3.cell 4; have fr3_4 := R3.frozen 4; have kl3_4 := L3.cell 4; have fl3_4 := L3.frozen 4; have kp3_4 := P3.cell 4
  have kr3_5 := R3.cell 5; have fr3_5 := R3.frozen 5; have kl3_5 := L3.cell 5; have fl3_5 := L3.frozen 5; have kp3_5 := P3.cell 5
  have kr3_6 := R3.cell 6; have fr3_6 := R3.frozen 6; have kl3_6 := L3.cell 6; have fl3_6 := L3.frozen 6; have kp3_6 := P3.cell 6
  go_wp2
  have RR := ((((((((R3.far (p := ⟨w.heap.size + 1 + 1, 6, none⟩) (by first | (simp; done) | (simp; omega)) (.slice B6 r6.length d6)).put 0 (.int .i64 x0)).put 1 (.int .i64 x1)).put 2 (.slice B2 r2.length d2)).put 3 (.slice B3 l3.length d3)).put 4 (.slice B4 r4.length d4)).put 5 (.slice B5 l5.length d5)).put 6 (.slice B6 r6.length d6))
  have e0 := RR.cell 0
  have e1 := RR.cell 1
  have e2 := RR.cell 2
  have e3 := RR.cell 3
  have e4 := RR.cell 4
  have e5 := RR.cell 5
  have e6 := RR.cell 6
  have u2 := (Ty.far (t := tHeld.row) (Ty.far (t := tHeld.row) (Ty.far (t := tHeld.row) (Ty.far (t := tHeld.row) (Ty.far (t := tHeld.row) (Ty.far (t := tHeld.row) (Ty.far (t := tHeld.row) (Ty.far (t := tHeld.row) o2 hM1_2 (p := ⟨w.heap.size + 1 + 1, 6, none⟩) (by first | (simp; done) | (simp; omega)) (.slice B6 r6.length d6)) hM1_2 (p := ⟨w.heap.size + 1, 0, none⟩) (by first | (simp; done) | (simp; omega)) (.int .i64 x0)) hM1_2 (p := ⟨w.heap.size + 1, 1, none⟩) (by first | (simp; done) | (simp; omega)) (.int .i64 x1)) hM1_2 (p := ⟨w.heap.size + 1, 2, none⟩) (by first | (simp; done) | (simp; omega)) (.slice B2 r2.length d2)) hM1_2 (p := ⟨w.heap.size + 1, 3, none⟩) (by first | (simp; done) | (simp; omega)) (.slice B3 l3.length d3)) hM1_2 (p := ⟨w.heap.size + 1, 4, none⟩) (by first | (simp; done) | (simp; omega)) (.slice B4 r4.length d4)) hM1_2 (p := ⟨w.heap.size + 1, 5, none⟩) (by first | (simp; done) | (simp; omega)) (.slice B5 l5.length d5)) hM1_2 (p := ⟨w.heap.size + 1, 6, none⟩) (by first | (simp; done) | (simp; omega)) (.slice B6 r6.length d6))
  have u3 := (Ty.far (t := tIs) (Ty.far (t := tIs) (Ty.far (t := tIs) (Ty.far (t := tIs) (Ty.far (t := tIs) (Ty.far (t := tIs) (Ty.far (t := tIs) (Ty.far (t := tIs) o3 hM1_3 (p := ⟨w.heap.size + 1 + 1, 6, none⟩) (by first | (simp; done) | (simp; omega)) (.slice B6 r6.length d6)) hM1_3 (p := ⟨w.heap.size + 1, 0, none⟩) (by first | (simp; done) | (simp; omega)) (.int .i64 x0)) hM1_3 (p := ⟨w.heap.size + 1, 1, none⟩) (by first | (simp; done) | (simp; omega)) (.int .i64 x1)) hM1_3 (p := ⟨w.heap.size + 1, 2, none⟩) (by first | (simp; done) | (simp; omega)) (.slice B2 r2.length d2)) hM1_3 (p := ⟨w.heap.size + 1, 3, none⟩) (by first | (simp; done) | (simp; omega)) (.slice B3 l3.length d3)) hM1_3 (p := ⟨w.heap.size + 1, 4, none⟩) (by first | (simp; done) | (simp; omega)) (.slice B4 r4.length d4)) hM1_3 (p := ⟨w.heap.size + 1, 5, none⟩) (by first | (simp; done) | (simp; omega)) (.slice B5 l5.length d5)) hM1_3 (p := ⟨w.heap.size + 1, 6, none⟩) (by first | (simp; done) | (simp; omega)) (.slice B6 r6.length d6))
  have u4 := (Ty.far (t := tWhole.row) (Ty.far (t := tWhole.row) (Ty.far (t := tWhole.row) (Ty.far (t := tWhole.row) (Ty.far (t := tWhole.row) (Ty.far (t := tWhole.row) (Ty.far (t := tWhole.row) (Ty.far (t := tWhole.row) o4 hM2_4 (p := ⟨w.heap.size + 1 + 1, 6, none⟩) (by first | (simp; done) | (simp; omega)) (.slice B6 r6.length d6)) hM2_4 (p := ⟨w.heap.size + 1, 0, none⟩) (by first | (simp; done) | (simp; omega)) (.int .i64 x0)) hM2_4 (p := ⟨w.heap.size + 1, 1, none⟩) (by first | (simp; done) | (simp; omega)) (.int .i64 x1)) hM2_4 (p := ⟨w.heap.size + 1, 2, none⟩) (by first | (simp; done) | (simp; omega)) (.slice B2 r2.length d2)) hM2_4 (p := ⟨w.heap.size + 1, 3, none⟩) (by first | (simp; done) | (simp; omega)) (.slice B3 l3.length d3)) hM2_4 (p := ⟨w.heap.size + 1, 4, none⟩) (by first | (simp; done) | (simp; omega)) (.slice B4 r4.length d4)) hM2_4 (p := ⟨w.heap.size + 1, 5, none⟩) (by first | (simp; done) | (simp; omega)) (.slice B5 l5.length d5)) hM2_4 (p := ⟨w.heap.size + 1, 6, none⟩) (by first | (simp; done) | (simp; omega)) (.slice B6 r6.length d6))
  have u5 := (Ty.far (t := tIs) (Ty.far (t := tIs) (Ty.far (t := tIs) (Ty.far (t := tIs) (Ty.far (t := tIs) (Ty.far (t := tIs) (Ty.far (t := tIs) (Ty.far (t := tIs) o5 hM2_5 (p := ⟨w.heap.size + 1 + 1, 6, none⟩) (by first | (simp; done) | (simp; omega)) (.slice B6 r6.length d6)) hM2_5 (p := ⟨w.heap.size + 1, 0, none⟩) (by first | (simp; done) | (simp; omega)) (.int .i64 x0)) hM2_5 (p := ⟨w.heap.size + 1, 1, none⟩) (by first | (simp; done) | (simp; omega)) (.int .i64 x1)) hM2_5 (p := ⟨w.heap.size + 1, 2, none⟩) (by first | (simp; done) | (simp; omega)) (.slice B2 r2.length d2)) hM2_5 (p := ⟨w.heap.size + 1, 3, none⟩) (by first | (simp; done) | (simp; omega)) (.slice B3 l3.length d3)) hM2_5 (p := ⟨w.heap.size + 1, 4, none⟩) (by first | (simp; done) | (simp; omega)) (.slice B4 r4.length d4)) hM2_5 (p := ⟨w.heap.size + 1, 5, none⟩) (by first | (simp; done) | (simp; omega)) (.slice B5 l5.length d5)) hM2_5 (p := ⟨w.heap.size + 1, 6, none⟩) (by first | (simp; done) | (simp; omega)) (.slice B6 r6.length d6))
  have u6 := (Ty.far (t := tLetter.row) (Ty.far (t := tLetter.row) (Ty.far (t := tLetter.row) (Ty.far (t := tLetter.row) (Ty.far (t := tLetter.row) (Ty.far (t := tLetter.row) (Ty.far (t := tLetter.row) (Ty.far (t := tLetter.row) o6 hM3 (p := ⟨w.heap.size + 1 + 1, 6, none⟩) (by first | (simp; done) | (simp; omega)) (.slice B6 r6.length d6)) hM3 (p := ⟨w.heap.size + 1, 0, none⟩) (by first | (simp; done) | (simp; omega)) (.int .i64 x0)) hM3 (p := ⟨w.heap.size + 1, 1, none⟩) (by first | (simp; done) | (simp; omega)) (.int .i64 x1)) hM3 (p := ⟨w.heap.size + 1, 2, none⟩) (by first | (simp; done) | (simp; omega)) (.slice B2 r2.length d2)) hM3 (p := ⟨w.heap.size + 1, 3, none⟩) (by first | (simp; done) | (simp; omega)) (.slice B3 l3.length d3)) hM3 (p := ⟨w.heap.size + 1, 4, none⟩) (by first | (simp; done) | (simp; omega)) (.slice B4 r4.length d4)) hM3 (p := ⟨w.heap.size + 1, 5, none⟩) (by first | (simp; done) | (simp; omega)) (.slice B5 l5.length d5)) hM3 (p := ⟨w.heap.size + 1, 6, none⟩) (by first | (simp; done) | (simp; omega)) (.slice B6 r6.length d6))
  obtain ⟨F, hF, hFe⟩ := makeONode (p := (x0, x1, (r2, l3), (r4, l5), r6)) hi0 hi1 u2 u3 u4 u5 u6
  refine bodyPost_ret (v := .agg #[.int .i64 x0, .int .i64 x1, .slice B2 r2.length d2, .slice B3 l3.length d3, .slice B4 r4.length d4, .slice B5 l5.length d5, .slice B6 r6.length d6]) (by simp [results, Tryz.results13, go_sem, e0, e1, e2, e3, e4, e5, e6]) rfl ⟨_, F, rfl, hF, ?_, ?_⟩
  · rw [hFe]
    exact New.lower (B := w.heap.size + 3) (by have hh := (New.app (New.app hM1 hV2 (by omega) y1) hV3 (by omega) (fun f hf => by rcases List.mem_append.1 hf with h | h; have := y1 f h; omega; exact y2 f h)); simp only [List.append_assoc] at hh ⊢; exact hh) (by omega)
  · exact (bel_put (bel_put (bel_put (bel_put (bel_put (bel_put (bel_put (bel_put hB3 (by first | (simp; done) | (simp; omega)) _) (by first | (simp; done) | (simp; omega)) _) (by first | (simp; done) | (simp; omega)) _) (by first | (simp; done) | (simp; omega)) _) (by first | (simp; done) | (simp; omega)) _) (by first | (simp; done) | (simp; omega)) _) (by first | (simp; done) | (simp; omega)) _) (by first | (simp; done) | (simp; omega)) _)
theorem o_eqNode {w : World} {cs cs' : List Value} {p : DNode} (h : tNode.R w w.heap.size cs p) (h' : tNode.R w w.heap.size cs' p) :
    Calls Tryz.prog 15 #[.agg cs.toArray, .agg cs'.toArray] w fun e w' => e = .returned (.bool true) ∧ Below w.heap.size w w' := by
  obtain ⟨A2, n2, c2, A3, n3, c3, A4, n4, c4, A5, n5, c5, A6, n6, c6, rfl, hi0, hi1, ha2, hb2, hl2, hr2, ha3, hb3, hl3, hr3, ha4, hb4, hl4, hr4, ha5, hb5, hl5, hr5, ha6, hb6, hl6, hr6⟩ := openNode h
  obtain ⟨A2', n2', c2', A3', n3', c3', A4', n4', c4', A5', n5', c5', A6', n6', c6', rfl, hi0', hi1', ha2', hb2', hl2', hr2', ha3', hb3', hl3', hr3', ha4', hb4', hl4', hr4', ha5', hb5', hl5', hr5', ha6', hb6', hl6', hr6'⟩ := openNode h'
  obtain ⟨x0, x1, ⟨r2, l3⟩, ⟨r4, l5⟩, r6⟩ := p
  try dsimp only at *
  subst hl2
  subst hl2'
  subst hl3
  subst hl3'
  subst hl4
  subst hl4'
  subst hl5
  subst hl5'
  subst hl6
  subst hl6'
  have q0 : (x0 != x0) = false := by simp
  have q1 : (x1 != x1) = false := by simp
  go_enter Tryz.func15, Tryz.ntmps15
  go_wp2_with fail
  refine (o_eqPool (tPool.reach (makePool (p := (r2, l3)) hr2 hr3) ?hB) (tPool.reach (makePool (p := (r2, l3)) hr2' hr3') ?hB)).mono ?_
  case hB => exact (by repeat (first | (with_reducible exact Below.refl _ _) | (with_reducible assumption) | (with_reducible refine bel_alloc ?_ _) | (with_reducible refine bel_drew ?_) | (with_reducible refine below_drewN ?_ _) | (with_reducible refine bel_put ?_ (by first | exact Nat.le_refl _ | (simp; done) | (simp; omega)) _)))
  rintro e w1 ⟨rfl, hb1⟩
  have hB1 : Below w.heap.size w w1 := bel_trans (by repeat (first | (with_reducible exact Below.refl _ _) | (with_reducible assumption) | (with_reducible refine bel_alloc ?_ _) | (with_reducible refine bel_drew ?_) | (with_reducible refine below_drewN ?_ _) | (with_reducible refine bel_put ?_ (by first | exact Nat.le_refl _ | (simp; done) | (simp; omega)) _))) hb1
  have P1 : Box w1 w.heap.size 42 #[.int .i64 x0, .int .i64 x1, .slice A2 r2.length c2, .slice A3 l3.length c3, .slice A4 r4.length c4, .slice A5 l5.length c5, .slice A6 r6.length c6] := ((Box.new _ _ _).alloc _).below hb1 (by first | (simp; done) | (simp; omega))
  have Q1 : Box w1 (w.heap.size + 1) 42 #[.int .i64 x0, .int .i64 x1, .slice A2' r2.length c2', .slice A3' l3.length c3', .slice A4' r4.length c4', .slice A5' l5.length c5', .slice A6' r6.length c6'] := Box.below (by simpa using Box.new (w.alloc _) 42 #[.int .i64 x0, .int .i64 x1, .slice A2' r2.length c2', .slice A3' l3.length c3', .slice A4' r4.length c4', .slice A5' l5.length c5', .slice A6' r6.length c6']) hb1 (by first | (simp; done) | (simp; omega))
  have e0_4 := P1.cell 4
  have e0_4q := Q1.cell 4
  have e0_5 := P1.cell 5
  have e0_5q := Q1.cell 5
  go_wp2_with fail
  refine (o_eqDesk (tDesk.reach (makeDesk (p := (r4, l5)) hr4 hr5) ?hB) (tDesk.reach (makeDesk (p := (r4, l5)) hr4' hr5') ?hB)).mono ?_
  case hB => exact (by repeat (first | (with_reducible exact Below.refl _ _) | (with_reducible assumption) | (with_reducible refine bel_alloc ?_ _) | (with_reducible refine bel_drew ?_) | (with_reducible refine below_drewN ?_ _) | (with_reducible refine bel_put ?_ (by first | exact Nat.le_refl _ | (simp; done) | (simp; omega)) _)))
  rintro e w2 ⟨rfl, hb2⟩
  have hB2 : Below w.heap.size w w2 := bel_trans (by repeat (first | (with_reducible exact Below.refl _ _) | (with_reducible assumption) | (with_reducible refine bel_alloc ?_ _) | (with_reducible refine bel_drew ?_) | (with_reducible refine below_drewN ?_ _) | (with_reducible refine bel_put ?_ (by first | exact Nat.le_refl _ | (simp; done) | (simp; omega)) _))) hb2
  have P2 := P1.below hb2 P1.size
  have Q2 := Q1.below hb2 Q1.size
  have e1_6 := P2.cell 6
  have e1_6q := Q2.cell 6
  go_wp2_with fail
  refine (o_eqLetterS (tLetter.row.reach hr6 ?hB) (tLetter.row.reach hr6' ?hB)).mono ?_
  case hB => exact (by repeat (first | (with_reducible exact Below.refl _ _) | (with_reducible assumption) | (with_reducible refine bel_alloc ?_ _) | (with_reducible refine bel_drew ?_) | (with_reducible refine below_drewN ?_ _) | (with_reducible refine bel_put ?_ (by first | exact Nat.le_refl _ | (simp; done) | (simp; omega)) _)))
  rintro e w3 ⟨rfl, hb3⟩
  have hB3 : Below w.heap.size w w3 := bel_trans (by repeat (first | (with_reducible exact Below.refl _ _) | (with_reducible assumption) | (with_reducible refine bel_alloc ?_ _) | (with_reducible refine bel_drew ?_) | (with_reducible refine below_drewN ?_ _) | (with_reducible refine bel_put ?_ (by first | exact Nat.le_refl _ | (simp; done) | (simp; omega)) _))) hb3
  have P3 := P2.below hb3 P2.size
  have Q3 := Q2.below hb3 Q2.size
  go_wp2
  go_ret
  exact ⟨rfl, hB3⟩
theorem fopenONode {w : World} {cs : List Value} {p : DNode} {F : List Nat} (h : tNode.O w cs p F) : ∃ A2 c2 A3 c3 A4 c4 A5 c5 A6 c6 G2 G4 G6, cs = [.int .i64 (p.1), .int .i64 (p.2.1), .slice A2 ((p.2.2.1.1)).length c2, .slice A3 ((p.2.2.1.2)).length c3, .slice A4 ((p.2.2.2.1.1)).length c4, .slice A5 ((p.2.2.2.1.2)).length c5, .slice A6 ((p.2.2.2.2)).length c6] ∧ F = G2 ++ G4 ++ G6 ∧ (Lit.int .i64 (p.1)).wf = true ∧ (Lit.int .i64 (p.2.1)).wf = true ∧ (tPool).O w [.slice A2 ((p.2.2.1.1)).length c2, .slice A3 ((p.2.2.1.2)).length c3] (p.2.2.1) G2 ∧ (tDesk).O w [.slice A4 ((p.2.2.2.1.1)).length c4, .slice A5 ((p.2.2.2.1.2)).length c5] (p.2.2.2.1) G4 ∧ (tLetter.row).O w [.slice A6 ((p.2.2.2.2)).length c6] (p.2.2.2.2) G6 := by
  obtain ⟨ca0, cb0, Fa0, Fb0, rfl, rfl, ha0, hb0⟩ := h
  obtain ⟨ca1, cb1, Fa1, Fb1, rfl, rfl, ha1, hb1⟩ := hb0
  obtain ⟨ca2, cb2, Fa2, Fb2, rfl, rfl, ha2, hb2⟩ := hb1
  obtain ⟨ca3, cb3, Fa3, Fb3, rfl, rfl, ha3, hb3⟩ := hb2
  obtain ⟨rfl, hi0, rfl⟩ := ha0
  obtain ⟨rfl, hi1, rfl⟩ := ha1
  have hk2 := ha2
  obtain ⟨A2, c2, X2, A3, c3, X3, rfl, -, -, -, -, -, -, -⟩ := openOPool ha2
  have hk4 := ha3
  obtain ⟨A4, c4, X4, A5, c5, X5, rfl, -, -, -, -, -, -, -⟩ := openODesk ha3
  have hk6 := hb3
  obtain ⟨A6, c6, rfl, -, -⟩ := rowO_one hb3
  exact ⟨A2, c2, A3, c3, A4, c4, A5, c5, A6, c6, Fa2, Fa3, Fb3, rfl, by simp [List.append_assoc], hi0, hi1, hk2, hk4, hk6⟩
theorem fmakeONode {w : World} {p : DNode} {v2 v3 v4 v5 v6 : Value} {G2 G4 G6 : List Nat} (h0 : (Lit.int .i64 (p.1)).wf = true) (h1 : (Lit.int .i64 (p.2.1)).wf = true) (h2 : (tPool).O w [v2, v3] (p.2.2.1) G2) (h4 : (tDesk).O w [v4, v5] (p.2.2.2.1) G4) (h6 : (tLetter.row).O w [v6] (p.2.2.2.2) G6) : tNode.O w [.int .i64 (p.1), .int .i64 (p.2.1), v2, v3, v4, v5, v6] p (G2 ++ G4 ++ G6) := by
  have hh : ∃ F, tNode.O w [.int .i64 (p.1), .int .i64 (p.2.1), v2, v3, v4, v5, v6] p F ∧ F = G2 ++ G4 ++ G6 := ⟨_, ⟨_, _, _, _, rfl, rfl, ⟨rfl, h0, rfl⟩, ⟨_, _, _, _, rfl, rfl, ⟨rfl, h1, rfl⟩, ⟨_, _, _, _, rfl, rfl, h2, ⟨_, _, _, _, rfl, rfl, h4, h6⟩⟩⟩⟩, by simp [List.append_assoc]⟩
  obtain ⟨F, hF, rfl⟩ := hh
  exact hF
theorem fopenNode {w : World} {B : Nat} {cs : List Value} {p : DNode} (h : tNode.R w B cs p) : ∃ A2 n2 c2 A3 n3 c3 A4 n4 c4 A5 n5 c5 A6 n6 c6, cs = [.int .i64 (p.1), .int .i64 (p.2.1), .slice A2 n2 c2, .slice A3 n3 c3, .slice A4 n4 c4, .slice A5 n5 c5, .slice A6 n6 c6] ∧ (Lit.int .i64 (p.1)).wf = true ∧ (Lit.int .i64 (p.2.1)).wf = true ∧ (tPool).R w B [.slice A2 n2 c2, .slice A3 n3 c3] (p.2.2.1) ∧ (tDesk).R w B [.slice A4 n4 c4, .slice A5 n5 c5] (p.2.2.2.1) ∧ (tLetter.row).R w B [.slice A6 n6 c6] (p.2.2.2.2) := by
  obtain ⟨ca0, cb0, rfl, ha0, hb0⟩ := h
  obtain ⟨rfl, hi0⟩ := ha0
  obtain ⟨ca1, cb1, rfl, ha1, hb1⟩ := hb0
  obtain ⟨rfl, hi1⟩ := ha1
  obtain ⟨ca2, cb2, rfl, ha2, hb2⟩ := hb1
  have hk2 := ha2
  obtain ⟨A2, n2, c2, A3, n3, c3, rfl, -, -, -, -, -, -, -, -⟩ := openPool ha2
  obtain ⟨ca3, cb3, rfl, ha3, hb3⟩ := hb2
  have hk4 := ha3
  obtain ⟨A4, n4, c4, A5, n5, c5, rfl, -, -, -, -, -, -, -, -⟩ := openDesk ha3
  have hk6 := hb3
  obtain ⟨A6, n6, c6, rfl, -, -, -⟩ := row_one hb3
  exact ⟨A2, n2, c2, A3, n3, c3, A4, n4, c4, A5, n5, c5, A6, n6, c6, rfl, hi0, hi1, hk2, hk4, hk6⟩
theorem o_markNode {w : World} {cs : List Value} {p : DNode} {F : List Nat} (k : Int) (h : tNode.O w cs p F) (hF : F.Nodup) (h0 : 0 ≤ k) (hk : k + cntNode p ≤ 4611686018427387904) :
    Calls Tryz.prog 18 #[.agg cs.toArray, .int .i64 k] w fun e w' => e = .returned (.int .i64 (k + cntNode p)) ∧ tNode.O w' cs (mkNode k p) F ∧ Only F w w' := by
  obtain ⟨A2, c2, A3, c3, A4, c4, A5, c5, A6, c6, G2, G4, G6, rfl, hFe, hi0, hi1, hr2, hr4, hr6⟩ := fopenONode h
  subst F
  unfold cntNode at hk ⊢
  have nd2 : G2.Nodup := (List.nodup_append.1 (List.nodup_append.1 hF).1).1
  have nd4 : G4.Nodup := (List.nodup_append.1 (List.nodup_append.1 hF).1).2.1
  have ap2_4 : ∀ f ∈ G2, f ∉ G4 := fun f h1 h2 => (List.nodup_append.1 (List.nodup_append.1 hF).1).2.2 f (by simp [h1]) f h2 rfl
  have nd6 : G6.Nodup := (List.nodup_append.1 hF).2.1
  have ap2_6 : ∀ f ∈ G2, f ∉ G6 := fun f h1 h2 => (List.nodup_append.1 hF).2.2 f (by simp [h1]) f h2 rfl
  have ap4_6 : ∀ f ∈ G4, f ∉ G6 := fun f h1 h2 => (List.nodup_append.1 hF).2.2 f (by simp [h1]) f h2 rfl
  have y2 : ∀ f ∈ G2, f < w.heap.size := fun f hf => (tNode).lt h f (by simp [hf])
  have y4 : ∀ f ∈ G4, f < w.heap.size := fun f hf => (tNode).lt h f (by simp [hf])
  have y6 : ∀ f ∈ G6, f < w.heap.size := fun f hf => (tNode).lt h f (by simp [hf])
  go_enter Tryz.func18, Tryz.ntmps18
  replace hr2 : (tPool).O (w.alloc (.cells #[.int .i64 (p.1), .int .i64 (p.2.1), .slice A2 ((p.2.2.1.1)).length c2, .slice A3 ((p.2.2.1.2)).length c3, .slice A4 ((p.2.2.2.1.1)).length c4, .slice A5 ((p.2.2.2.1.2)).length c5, .slice A6 ((p.2.2.2.2)).length c6] 42)) _ _ _ := Ty.below hr2 (by repeat (first | (with_reducible exact Below.refl _ _) | (with_reducible assumption) | (with_reducible refine bel_alloc ?_ _) | (with_reducible refine bel_drew ?_) | (with_reducible refine below_drewN ?_ _) | (with_reducible refine bel_put ?_ (by first | exact Nat.le_refl _ | (simp; done) | (simp; omega)) _)))
  replace hr4 : (tDesk).O (w.alloc (.cells #[.int .i64 (p.1), .int .i64 (p.2.1), .slice A2 ((p.2.2.1.1)).length c2, .slice A3 ((p.2.2.1.2)).length c3, .slice A4 ((p.2.2.2.1.1)).length c4, .slice A5 ((p.2.2.2.1.2)).length c5, .slice A6 ((p.2.2.2.2)).length c6] 42)) _ _ _ := Ty.below hr4 (by repeat (first | (with_reducible exact Below.refl _ _) | (with_reducible assumption) | (with_reducible refine bel_alloc ?_ _) | (with_reducible refine bel_drew ?_) | (with_reducible refine below_drewN ?_ _) | (with_reducible refine bel_put ?_ (by first | exact Nat.le_refl _ | (simp; done) | (simp; omega)) _)))
  replace hr6 : (tLetter.row).O (w.alloc (.cells #[.int .i64 (p.1), .int .i64 (p.2.1), .slice A2 ((p.2.2.1.1)).length c2, .slice A3 ((p.2.2.1.2)).length c3, .slice A4 ((p.2.2.2.1.1)).length c4, .slice A5 ((p.2.2.2.1.2)).length c5, .slice A6 ((p.2.2.2.2)).length c6] 42)) _ _ _ := Ty.below hr6 (by repeat (first | (with_reducible exact Below.refl _ _) | (with_reducible assumption) | (with_reducible refine bel_alloc ?_ _) | (with_reducible refine bel_drew ?_) | (with_reducible refine below_drewN ?_ _) | (with_reducible refine bel_put ?_ (by first | exact Nat.le_refl _ | (simp; done) | (simp; omega)) _)))
  have Q0 : Only (G2 ++ G4 ++ G6) w (w.alloc (.cells #[.int .i64 (p.1), .int .i64 (p.2.1), .slice A2 ((p.2.2.1.1)).length c2, .slice A3 ((p.2.2.1.2)).length c3, .slice A4 ((p.2.2.2.1.1)).length c4, .slice A5 ((p.2.2.2.1.2)).length c5, .slice A6 ((p.2.2.2.2)).length c6] 42)) := (Only.refl _ _).alloc _
  have P0 : Box (w.alloc (.cells #[.int .i64 (p.1), .int .i64 (p.2.1), .slice A2 ((p.2.2.1.1)).length c2, .slice A3 ((p.2.2.1.2)).length c3, .slice A4 ((p.2.2.2.1.1)).length c4, .slice A5 ((p.2.2.2.1.2)).length c5, .slice A6 ((p.2.2.2.2)).length c6] 42)) w.heap.size 42 #[.int .i64 (p.1), .int .i64 (p.2.1), .slice A2 ((p.2.2.1.1)).length c2, .slice A3 ((p.2.2.1.2)).length c3, .slice A4 ((p.2.2.2.1.1)).length c4, .slice A5 ((p.2.2.2.1.2)).length c5, .slice A6 ((p.2.2.2.2)).length c6] := Box.new _ _ _
  go_wp2_with fail
  refine (o_markPool (k) hr2 nd2 (by omega) (by omega)).mono ?_
  rintro e w1 ⟨rfl, hO1, hG1⟩
  have Q1 := Q0.trans (hG1.mono (by intro f hf; simp [hf]))
  have P1 : Box w1 w.heap.size 42 #[.int .i64 (p.1), .int .i64 (p.2.1), .slice A2 ((p.2.2.1.1)).length c2, .slice A3 ((p.2.2.1.2)).length c3, .slice A4 ((p.2.2.2.1.1)).length c4, .slice A5 ((p.2.2.2.1.2)).length c5, .slice A6 ((p.2.2.2.2)).length c6] := P0.same (hG1.block _ P0.size (fun e => by have := y2 _ e; omega))
  have e1_0 := P1.cell 0
  have e1_1 := P1.cell 1
  have e1_2 := P1.cell 2
  have e1_3 := P1.cell 3
  have e1_4 := P1.cell 4
  have e1_5 := P1.cell 5
  have e1_6 := P1.cell 6
  replace hr4 := Ty.only (t := tDesk) hr4 hG1 (fun f hf e => ap2_4 f e hf)
  replace hr6 := Ty.only (t := tLetter.row) hr6 hG1 (fun f hf e => ap2_6 f e hf)
  replace hr2 := hO1
  go_wp2_with fail
  refine (o_markDesk (k + ((cntPool (p.2.2.1) : Nat) : Int)) hr4 nd4 (by omega) (by omega)).mono ?_
  rintro e w2 ⟨rfl, hO2, hG2⟩
  have Q2 := Q1.trans (hG2.mono (by intro f hf; simp [hf]))
  have P2 : Box w2 w.heap.size 42 #[.int .i64 (p.1), .int .i64 (p.2.1), .slice A2 ((p.2.2.1.1)).length c2, .slice A3 ((p.2.2.1.2)).length c3, .slice A4 ((p.2.2.2.1.1)).length c4, .slice A5 ((p.2.2.2.1.2)).length c5, .slice A6 ((p.2.2.2.2)).length c6] := P1.same (hG2.block _ P1.size (fun e => by have := y4 _ e; omega))
  have e2_0 := P2.cell 0
  have e2_1 := P2.cell 1
  have e2_2 := P2.cell 2
  have e2_3 := P2.cell 3
  have e2_4 := P2.cell 4
  have e2_5 := P2.cell 5
  have e2_6 := P2.cell 6
  replace hr2 := Ty.only (t := tPool) hr2 hG2 (fun f hf e => ap2_4 f hf e)
  replace hr6 := Ty.only (t := tLetter.row) hr6 hG2 (fun f hf e => ap4_6 f e hf)
  replace hr4 := hO2
  go_wp2_with fail
  refine (o_markLetterS (k + ((cntPool (p.2.2.1) : Nat) : Int) + ((cntDesk (p.2.2.2.1) : Nat) : Int)) hr6 nd6 (by omega) (by omega)).mono ?_
  rintro e w3 ⟨rfl, hO3, hG3⟩
  have Q3 := Q2.trans (hG3.mono (by intro f hf; simp [hf]))
  have P3 : Box w3 w.heap.size 42 #[.int .i64 (p.1), .int .i64 (p.2.1), .slice A2 ((p.2.2.1.1)).length c2, .slice A3 ((p.2.2.1.2)).length c3, .slice A4 ((p.2.2.2.1.1)).length c4, .slice A5 ((p.2.2.2.1.2)).length c5, .slice A6 ((p.2.2.2.2)).length c6] := P2.same (hG3.block _ P2.size (fun e => by have := y6 _ e; omega))
  have e3_0 := P3.cell 0
  have e3_1 := P3.cell 1
  have e3_2 := P3.cell 2
  have e3_3 := P3.cell 3
  have e3_4 := P3.cell 4
  have e3_5 := P3.cell 5
  have e3_6 := P3.cell 6
  replace hr2 := Ty.only (t := tPool) hr2 hG3 (fun f hf e => ap2_6 f hf e)
  replace hr4 := Ty.only (t := tDesk) hr4 hG3 (fun f hf e => ap4_6 f hf e)
  replace hr6 := hO3
  go_wp2
  go_ret
  exact ⟨ret_int (by omega), fmakeONode (p := mkNode k p) hi0 hi1 hr2 hr4 hr6, Q3⟩
theorem o_heldNode {w : World} {cs : List Value} {p : DNode} (k : Int) (h : tNode.R w w.heap.size cs (mkNode k p)) (h0 : 0 ≤ k) (hk : k + cntNode p ≤ 4611686018427387904) :
    Calls Tryz.prog 19 #[.agg cs.toArray, .int .i64 k] w fun e w' => e = .returned (.int .i64 (k + cntNode p)) ∧ Below w.heap.size w w' := by
  obtain ⟨A2, n2, c2, A3, n3, c3, A4, n4, c4, A5, n5, c5, A6, n6, c6, rfl, hi0, hi1, hr2, hr4, hr6⟩ := fopenNode h
  unfold cntNode at hk ⊢
  dsimp only [mkNode] at *
  have d0 : decide (k + ((cntPool (p.2.2.1) : Nat) : Int) < 0) = false := by simp; omega
  have d1 : decide (k + ((cntPool (p.2.2.1) : Nat) : Int) + ((cntDesk (p.2.2.2.1) : Nat) : Int) < 0) = false := by simp; omega
  have d2 : decide (k + ((cntPool (p.2.2.1) : Nat) : Int) + ((cntDesk (p.2.2.2.1) : Nat) : Int) + ((rsum rcLetter (p.2.2.2.2) : Nat) : Int) < 0) = false := by simp; omega
  go_enter Tryz.func19, Tryz.ntmps19
  go_wp2_with fail
  refine (o_heldPool (k) ((tPool).reach hr2 ?hB) (by omega) (by omega)).mono ?_
  case hB => exact (by repeat (first | (with_reducible exact Below.refl _ _) | (with_reducible assumption) | (with_reducible refine bel_alloc ?_ _) | (with_reducible refine bel_drew ?_) | (with_reducible refine below_drewN ?_ _) | (with_reducible refine bel_put ?_ (by first | exact Nat.le_refl _ | (simp; done) | (simp; omega)) _)))
  rintro e w1 ⟨rfl, hb1⟩
  have hB1 : Below w.heap.size w w1 := bel_trans (by repeat (first | (with_reducible exact Below.refl _ _) | (with_reducible assumption) | (with_reducible refine bel_alloc ?_ _) | (with_reducible refine bel_drew ?_) | (with_reducible refine below_drewN ?_ _) | (with_reducible refine bel_put ?_ (by first | exact Nat.le_refl _ | (simp; done) | (simp; omega)) _))) hb1
  have P1 : Box w1 w.heap.size 42 #[.int .i64 (p.1), .int .i64 (p.2.1), .slice A2 n2 c2, .slice A3 n3 c3, .slice A4 n4 c4, .slice A5 n5 c5, .slice A6 n6 c6] := (Box.new _ _ _).below hb1 (by first | (simp; done) | (simp; omega))
  have e0_4 := P1.cell 4
  have e0_5 := P1.cell 5
  go_wp2_with fail
  refine (o_heldDesk (k + ((cntPool (p.2.2.1) : Nat) : Int)) ((tDesk).reach hr4 ?hB) (by omega) (by omega)).mono ?_
  case hB => exact (by repeat (first | (with_reducible exact Below.refl _ _) | (with_reducible assumption) | (with_reducible refine bel_alloc ?_ _) | (with_reducible refine bel_drew ?_) | (with_reducible refine below_drewN ?_ _) | (with_reducible refine bel_put ?_ (by first | exact Nat.le_refl _ | (simp; done) | (simp; omega)) _)))
  rintro e w2 ⟨rfl, hb2⟩
  have hB2 : Below w.heap.size w w2 := bel_trans (by repeat (first | (with_reducible exact Below.refl _ _) | (with_reducible assumption) | (with_reducible refine bel_alloc ?_ _) | (with_reducible refine bel_drew ?_) | (with_reducible refine below_drewN ?_ _) | (with_reducible refine bel_put ?_ (by first | exact Nat.le_refl _ | (simp; done) | (simp; omega)) _))) hb2
  have P2 := P1.below hb2 P1.size
  have e1_6 := P2.cell 6
  go_wp2_with fail
  refine (o_heldLetterS (k + ((cntPool (p.2.2.1) : Nat) : Int) + ((cntDesk (p.2.2.2.1) : Nat) : Int)) ((tLetter.row).reach hr6 ?hB) (by omega) (by omega)).mono ?_
  case hB => exact (by repeat (first | (with_reducible exact Below.refl _ _) | (with_reducible assumption) | (with_reducible refine bel_alloc ?_ _) | (with_reducible refine bel_drew ?_) | (with_reducible refine below_drewN ?_ _) | (with_reducible refine bel_put ?_ (by first | exact Nat.le_refl _ | (simp; done) | (simp; omega)) _)))
  rintro e w3 ⟨rfl, hb3⟩
  have hB3 : Below w.heap.size w w3 := bel_trans (by repeat (first | (with_reducible exact Below.refl _ _) | (with_reducible assumption) | (with_reducible refine bel_alloc ?_ _) | (with_reducible refine bel_drew ?_) | (with_reducible refine below_drewN ?_ _) | (with_reducible refine bel_put ?_ (by first | exact Nat.le_refl _ | (simp; done) | (simp; omega)) _))) hb3
  have P3 := P2.below hb3 P2.size
  go_wp2
  go_ret
  exact ⟨ret_int (by omega), hB3⟩
end Go.Proofs.YtilopapnipealaaGreat
