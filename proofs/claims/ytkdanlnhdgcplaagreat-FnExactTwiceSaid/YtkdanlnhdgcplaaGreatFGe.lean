/-
  LNet, NzP, Tkx, Xt, Xf, Onion, PD5, PNil, PRead, Op0, PMisP, PHasP: texts joined.
-/
import Derived.Test.YtkdanlnhdgcplaaGreatFGa
import Derived.Test.YtkdanlnhdgcplaaGreatFGb
import Derived.Test.YtkdanlnhdgcplaaGreatFGc
import Derived.Test.YtkdanlnhdgcplaaGreatFGd
import Derived.BigQuiet
import Derived.Deep.QuietTactic
import Derived.Deep.RegionHeld3
import Derived.Lib.Hide
import Derived.OpenShut
import Derived.Outline
import Derived.ProofKit
import Derived.WalkKit
namespace Go.Proofs.YtkdanlnhdgcplaaGreat
set_option maxRecDepth 100000
set_option linter.unusedVariables false
set_option linter.unusedSimpArgs false
open Go.ChangeShapes Go.WideShapes Go.ChangeAt Go.RowKit
theorem o_szNet_t {w : World} {cs : List Value} {p : DNet} {k : Int} (h : tNet.R w w.heap.size cs p) (h1 : 0 ≤ k) (h2 : k ≤ 1048576) (h3 : (szNet p : Int) ≤ k) :
  Calls Tryz.prog 5 #[.agg cs.toArray, .int .i64 k] w fun e w' => e = .returned (.int .i64 (k - szNet p)) ∧ Bel w w' := by
 obtain ⟨A3, n3, c3, A4, n4, c4, A5, n5, c5, A6, n6, c6, rfl, hi0, hi1, hi2, ha3, hb3, hl3, hr3, ha4, hb4, hl4, hr4, ha5, hb5, hl5, hr5, ha6, hb6, hl6, hr6⟩ := openNet h
 obtain ⟨x0, x1, x2, r3, r4, r5, r6⟩ := p
 try dsimp only [szNet] at *
 subst hl3
 subst hl4
 subst hl5
 subst hl6
 have d0 : decide (k - ((rsz szNode r3 : Nat) : Int) < 0) = false := by simp; omega
 have d1 : decide (k - ((rsz szNode r3 : Nat) : Int) - ((rsz szMail r4 : Nat) : Int) < 0) = false := by simp; omega
 have d2 : decide (k - ((rsz szNode r3 : Nat) : Int) - ((rsz szMail r4 : Nat) : Int) - ((rsz szSent r5 : Nat) : Int) < 0) = false := by simp; omega
 have d3 : decide (k - ((rsz szNode r3 : Nat) : Int) - ((rsz szMail r4 : Nat) : Int) - ((rsz szSent r5 : Nat) : Int) - ((rsz szGlance r6 : Nat) : Int) < 0) = false := by simp; omega
 go_enter Tryz.func5, Tryz.ntmps5
 go_wp2_with fail
 refine (o_szNodeS_t (tNode.row.reach hr3 ?hB) (by omega) (by omega) (by omega)).mono ?_
 case hB => exact (belx)
 rintro e w1 ⟨rfl, hb1⟩
 have hB1 : Bel w w1 := bel_trans (belx) hb1
 have P1 : Box w1 w.heap.size 27 #[.int .i64 x0, .int .i64 x1, .int .i64 x2, .slice A3 r3.length c3, .slice A4 r4.length c4, .slice A5 r5.length c5, .slice A6 r6.length c6] := (Box.new _ _ _).below hb1 lez
 have e0_4 := P1.cell 4
 go_wp2_with fail
 refine (o_szMailS_t (tMail.row.reach hr4 ?hB) (by omega) (by omega) (by omega)).mono ?_
 case hB => exact (belx)
 rintro e w2 ⟨rfl, hb2⟩
 have hB2 : Bel w w2 := bel_trans (belx) hb2
 have P2 := P1.below hb2 P1.size
 have e1_5 := P2.cell 5
 go_wp2_with fail
 refine (o_szSentS_t (tSent.row.reach hr5 ?hB) (by omega) (by omega) (by omega)).mono ?_
 case hB => exact (belx)
 rintro e w3 ⟨rfl, hb3⟩
 have hB3 : Bel w w3 := bel_trans (belx) hb3
 have P3 := P2.below hb3 P2.size
 have e2_6 := P3.cell 6
 go_wp2_with fail
 refine (o_szGlanceS_t (tGlance.row.reach hr6 ?hB) (by omega) (by omega) (by omega)).mono ?_
 case hB => exact (belx)
 rintro e w4 ⟨rfl, hb4⟩
 have hB4 : Bel w w4 := bel_trans (belx) hb4
 have P4 := P3.below hb4 P3.size
 go_wp2
 go_ret
 exact ⟨ret_int (by omega), hB4⟩
theorem o_szNet_f {w : World} {cs : List Value} {p : DNet} {k : Int} (h : tNet.R w w.heap.size cs p) (h1 : 0 ≤ k) (h2 : k ≤ 1048576) (h3 : ¬ (szNet p : Int) ≤ k) :
  Calls Tryz.prog 5 #[.agg cs.toArray, .int .i64 k] w fun e w' => e = .returned (.int .i64 (-1)) ∧ Bel w w' := by
 obtain ⟨A3, n3, c3, A4, n4, c4, A5, n5, c5, A6, n6, c6, rfl, hi0, hi1, hi2, ha3, hb3, hl3, hr3, ha4, hb4, hl4, hr4, ha5, hb5, hl5, hr5, ha6, hb6, hl6, hr6⟩ := openNet h
 obtain ⟨x0, x1, x2, r3, r4, r5, r6⟩ := p
 try dsimp only [szNet] at *
 subst hl3
 subst hl4
 subst hl5
 subst hl6
 by_cases g0 : (((rsz szNode r3) : Nat) : Int) ≤ k
 rotate_left
 ·go_enter Tryz.func5, Tryz.ntmps5
  go_wp2_with fail
  refine (o_szNodeS_f (tNode.row.reach hr3 ?hB) (by omega) (by omega) (by omega)).mono ?_
  case hB => exact (belx)
  rintro e w1 ⟨rfl, hb1⟩
  have hB1 : Bel w w1 := bel_trans (belx) hb1
  have P1 : Box w1 w.heap.size 27 #[.int .i64 x0, .int .i64 x1, .int .i64 x2, .slice A3 r3.length c3, .slice A4 r4.length c4, .slice A5 r5.length c5, .slice A6 r6.length c6] := (Box.new _ _ _).below hb1 lez
  go_wp2
  go_ret
  exact ⟨rfl, hB1⟩
 by_cases g1 : (((rsz szNode r3 + rsz szMail r4) : Nat) : Int) ≤ k
 rotate_left
 ·have d0 : decide (k - ((rsz szNode r3 : Nat) : Int) < 0) = false := by simp; omega
  go_enter Tryz.func5, Tryz.ntmps5
  go_wp2_with fail
  refine (o_szNodeS_t (tNode.row.reach hr3 ?hB) (by omega) (by omega) (by omega)).mono ?_
  case hB => exact (belx)
  rintro e w1 ⟨rfl, hb1⟩
  have hB1 : Bel w w1 := bel_trans (belx) hb1
  have P1 : Box w1 w.heap.size 27 #[.int .i64 x0, .int .i64 x1, .int .i64 x2, .slice A3 r3.length c3, .slice A4 r4.length c4, .slice A5 r5.length c5, .slice A6 r6.length c6] := (Box.new _ _ _).below hb1 lez
  have e0_4 := P1.cell 4
  go_wp2_with fail
  refine (o_szMailS_f (tMail.row.reach hr4 ?hB) (by omega) (by omega) (by omega)).mono ?_
  case hB => exact (belx)
  rintro e w2 ⟨rfl, hb2⟩
  have hB2 : Bel w w2 := bel_trans (belx) hb2
  have P2 := P1.below hb2 P1.size
  go_wp2
  go_ret
  exact ⟨rfl, hB2⟩
 by_cases g2 : (((rsz szNode r3 + rsz szMail r4 + rsz szSent r5) : Nat) : Int) ≤ k
 rotate_left
 ·have d0 : decide (k - ((rsz szNode r3 : Nat) : Int) < 0) = false := by simp; omega
  have d1 : decide (k - ((rsz szNode r3 : Nat) : Int) - ((rsz szMail r4 : Nat) : Int) < 0) = false := by simp; omega
  go_enter Tryz.func5, Tryz.ntmps5
  go_wp2_with fail
  refine (o_szNodeS_t (tNode.row.reach hr3 ?hB) (by omega) (by omega) (by omega)).mono ?_
  case hB => exact (belx)
  rintro e w1 ⟨rfl, hb1⟩
  have hB1 : Bel w w1 := bel_trans (belx) hb1
  have P1 : Box w1 w.heap.size 27 #[.int .i64 x0, .int .i64 x1, .int .i64 x2, .slice A3 r3.length c3, .slice A4 r4.length c4, .slice A5 r5.length c5, .slice A6 r6.length c6] := (Box.new _ _ _).below hb1 lez
  have e0_4 := P1.cell 4
  go_wp2_with fail
  refine (o_szMailS_t (tMail.row.reach hr4 ?hB) (by omega) (by omega) (by omega)).mono ?_
  case hB => exact (belx)
  rintro e w2 ⟨rfl, hb2⟩
  have hB2 : Bel w w2 := bel_trans (belx) hb2
  have P2 := P1.below hb2 P1.size
  have e1_5 := P2.cell 5
  go_wp2_with fail
  refine (o_szSentS_f (tSent.row.reach hr5 ?hB) (by omega) (by omega) (by omega)).mono ?_
  case hB => exact (belx)
  rintro e w3 ⟨rfl, hb3⟩
  have hB3 : Bel w w3 := bel_trans (belx) hb3
  have P3 := P2.below hb3 P2.size
  go_wp2
  go_ret
  exact ⟨rfl, hB3⟩
 have d0 : decide (k - ((rsz szNode r3 : Nat) : Int) < 0) = false := by simp; omega
 have d1 : decide (k - ((rsz szNode r3 : Nat) : Int) - ((rsz szMail r4 : Nat) : Int) < 0) = false := by simp; omega
 have d2 : decide (k - ((rsz szNode r3 : Nat) : Int) - ((rsz szMail r4 : Nat) : Int) - ((rsz szSent r5 : Nat) : Int) < 0) = false := by simp; omega
 go_enter Tryz.func5, Tryz.ntmps5
 go_wp2_with fail
 refine (o_szNodeS_t (tNode.row.reach hr3 ?hB) (by omega) (by omega) (by omega)).mono ?_
 case hB => exact (belx)
 rintro e w1 ⟨rfl, hb1⟩
 have hB1 : Bel w w1 := bel_trans (belx) hb1
 have P1 : Box w1 w.heap.size 27 #[.int .i64 x0, .int .i64 x1, .int .i64 x2, .slice A3 r3.length c3, .slice A4 r4.length c4, .slice A5 r5.length c5, .slice A6 r6.length c6] := (Box.new _ _ _).below hb1 lez
 have e0_4 := P1.cell 4
 go_wp2_with fail
 refine (o_szMailS_t (tMail.row.reach hr4 ?hB) (by omega) (by omega) (by omega)).mono ?_
 case hB => exact (belx)
 rintro e w2 ⟨rfl, hb2⟩
 have hB2 : Bel w w2 := bel_trans (belx) hb2
 have P2 := P1.below hb2 P1.size
 have e1_5 := P2.cell 5
 go_wp2_with fail
 refine (o_szSentS_t (tSent.row.reach hr5 ?hB) (by omega) (by omega) (by omega)).mono ?_
 case hB => exact (belx)
 rintro e w3 ⟨rfl, hb3⟩
 have hB3 : Bel w w3 := bel_trans (belx) hb3
 have P3 := P2.below hb3 P2.size
 have e2_6 := P3.cell 6
 go_wp2_with fail
 refine (o_szGlanceS_f (tGlance.row.reach hr6 ?hB) (by omega) (by omega) (by omega)).mono ?_
 case hB => exact (belx)
 rintro e w4 ⟨rfl, hb4⟩
 have hB4 : Bel w w4 := bel_trans (belx) hb4
 have P4 := P3.below hb4 P3.size
 go_wp2
 go_ret
 exact ⟨rfl, hB4⟩
set_option maxHeartbeats 400000 in
theorem o_toNet {w : World} {cs : List Value} {p : DNet} (h : tNet.R w w.heap.size cs p) (hn : szNet p ≤ 1048576) :
  Calls Tryz.prog 7 #[.agg cs.toArray] w fun e w' => ∃ cs' F, e = .returned (.agg cs'.toArray) ∧ tNet.O w' cs' p F ∧ New w.heap.size F ∧ Bel w w' := by
 obtain ⟨A3, n3, c3, A4, n4, c4, A5, n5, c5, A6, n6, c6, rfl, hi0, hi1, hi2, ha3, hb3, hl3, hr3, ha4, hb4, hl4, hr4, ha5, hb5, hl5, hr5, ha6, hb6, hl6, hr6⟩ := openNet h
 obtain ⟨x0, x1, x2, r3, r4, r5, r6⟩ := p
 try dsimp only [szNet] at *
 subst hl3
 subst hl4
 subst hl5
 subst hl6
 go_enter Tryz.func7, Tryz.ntmps7
 go_wp2_with fail
 refine (o_toNodeS (tNode.row.reach hr3 ?hB) (by omega)).mono ?_
 case hB => exact (belx)
 rintro e w1 ⟨B3, d3, F3, rfl, o3, hN1, hb1⟩
 have z1 : w.heap.size + 3 ≤ w1.heap.size := by have := hb1.size; simpa using this
 have hB1 : Bel w w1 := bel_trans (belx) hb1
 have R1 : Box w1 (w.heap.size + 1) 35 #[.int .i64 0, .int .i64 0, .int .i64 0, .slice none 0 0, .slice none 0 0, .slice none 0 0, .slice none 0 0] := Box.below (Box.alloc (by simpa using Box.new (w.alloc _) 35 #[.int .i64 0, .int .i64 0, .int .i64 0, .slice none 0 0, .slice none 0 0, .slice none 0 0, .slice none 0 0]) _) hb1 lez
 have L1 : Box w1 (w.heap.size + 1 + 1) 35 #[.int .i64 x0, .int .i64 x1, .int .i64 x2, .slice none 0 0, .slice none 0 0, .slice none 0 0, .slice none 0 0] := Box.below (by simpa using Box.new ((w.alloc _).alloc _) 35 #[.int .i64 x0, .int .i64 x1, .int .i64 x2, .slice none 0 0, .slice none 0 0, .slice none 0 0, .slice none 0 0]) hb1 lez
 have P1 : Box w1 w.heap.size 27 #[.int .i64 x0, .int .i64 x1, .int .i64 x2, .slice A3 r3.length c3, .slice A4 r4.length c4, .slice A5 r5.length c5, .slice A6 r6.length c6] := Box.below (((Box.new w 27 #[.int .i64 x0, .int .i64 x1, .int .i64 x2, .slice A3 r3.length c3, .slice A4 r4.length c4, .slice A5 r5.length c5, .slice A6 r6.length c6]).alloc _).alloc _) hb1 lez
 have hM1 : New (w.heap.size + 3) (F3) := hN1.lower (by simp)
 clear hN1
 have y1 : ∀ f ∈ F3, f < w1.heap.size := by intro f hf; exact tNode.row.lt o3 f hf
 have kr1_0 := R1.cell 0; have fr1_0 := R1.frozen 0; have kl1_0 := L1.cell 0; have fl1_0 := L1.frozen 0; have kp1_0 := P1.cell 0
 have kr1_1 := R1.cell 1; have fr1_1 := R1.frozen 1; have kl1_1 := L1.cell 1; have fl1_1 := L1.frozen 1; have kp1_1 := P1.cell 1
 have kr1_2 := R1.cell 2; have fr1_2 := R1.frozen 2; have kl1_2 := L1.cell 2; have fl1_2 := L1.frozen 2; have kp1_2 := P1.cell 2
 have kr1_3 := R1.cell 3; have fr1_3 := R1.frozen 3; have kl1_3 := L1.cell 3; have fl1_3 := L1.frozen 3; have kp1_3 := P1.cell 3
 have kr1_4 := R1.cell 4; have fr1_4 := R1.frozen 4; have kl1_4 := L1.cell 4; have fl1_4 := L1.frozen 4; have kp1_4 := P1.cell 4
 have kr1_5 := R1.cell 5; have fr1_5 := R1.frozen 5; have kl1_5 := L1.cell 5; have fl1_5 := L1.frozen 5; have kp1_5 := P1.cell 5
 have kr1_6 := R1.cell 6; have fr1_6 := R1.frozen 6; have kl1_6 := L1.cell 6; have fl1_6 := L1.frozen 6; have kp1_6 := P1.cell 6
 go_wp2_with fail
 refine (o_toMailS (tMail.row.reach hr4 ?hB) (by omega)).mono ?_
 case hB => exact (belx)
 rintro e w2 ⟨B4, d4, F4, rfl, o4, hN2, hb2⟩
 have z2 : w.heap.size + 3 ≤ w2.heap.size := Nat.le_trans z1 (by have := hb2.size; simpa using this)
 have hB2 : Bel w w2 := bel_trans (belx) hb2
 have R2 : Box w2 (w.heap.size + 1) 35 #[.int .i64 0, .int .i64 0, .int .i64 0, .slice none 0 0, .slice none 0 0, .slice none 0 0, .slice none 0 0] := Box.below (R1.far (p := ⟨w.heap.size + 1 + 1, 3, none⟩) lez (.slice B3 r3.length d3)) hb2 lez
 have L2 : Box w2 (w.heap.size + 1 + 1) 35 #[.int .i64 x0, .int .i64 x1, .int .i64 x2, .slice B3 r3.length d3, .slice none 0 0, .slice none 0 0, .slice none 0 0] := Box.below (by simpa using (L1.put 3 (.slice B3 r3.length d3))) hb2 lez
 have P2 : Box w2 w.heap.size 27 #[.int .i64 x0, .int .i64 x1, .int .i64 x2, .slice A3 r3.length c3, .slice A4 r4.length c4, .slice A5 r5.length c5, .slice A6 r6.length c6] := Box.below (P1.far (p := ⟨w.heap.size + 1 + 1, 3, none⟩) lez (.slice B3 r3.length d3)) hb2 lez
 replace o3 := Ty.below (t := tNode.row) (Ty.far (t := tNode.row) o3 hM1 (p := ⟨w.heap.size + 1 + 1, 3, none⟩) lez (.slice B3 r3.length d3)) hb2
 have hM2 : New (w.heap.size + 3) (F4) := hN2.lower (by simp; omega)
 have hV2 : New w1.heap.size (F4) := hN2.lower lez
 have zz2 : w1.heap.size ≤ w2.heap.size := by have := hb2.size; simpa using this
 clear hN2
 have y2 : ∀ f ∈ F4, f < w2.heap.size := by intro f hf; exact tMail.row.lt o4 f hf
 have kr2_0 := R2.cell 0; have fr2_0 := R2.frozen 0; have kl2_0 := L2.cell 0; have fl2_0 := L2.frozen 0; have kp2_0 := P2.cell 0
 have kr2_1 := R2.cell 1; have fr2_1 := R2.frozen 1; have kl2_1 := L2.cell 1; have fl2_1 := L2.frozen 1; have kp2_1 := P2.cell 1
 have kr2_2 := R2.cell 2; have fr2_2 := R2.frozen 2; have kl2_2 := L2.cell 2; have fl2_2 := L2.frozen 2; have kp2_2 := P2.cell 2
 have kr2_3 := R2.cell 3; have fr2_3 := R2.frozen 3; have kl2_3 := L2.cell 3; have fl2_3 := L2.frozen 3; have kp2_3 := P2.cell 3
 have kr2_4 := R2.cell 4; have fr2_4 := R2.frozen 4; have kl2_4 := L2.cell 4; have fl2_4 := L2.frozen 4; have kp2_4 := P2.cell 4
 have kr2_5 := R2.cell 5; have fr2_5 := R2.frozen 5; have kl2_5 := L2.cell 5; have fl2_5 := L2.frozen 5; have kp2_5 := P2.cell 5
 have kr2_6 := R2.cell 6; have fr2_6 := R2.frozen 6; have kl2_6 := L2.cell 6; have fl2_6 := L2.frozen 6; have kp2_6 := P2.cell 6
 go_wp2_with fail
 refine (o_toSentS (tSent.row.reach hr5 ?hB) (by omega)).mono ?_
 case hB => exact (belx)
 rintro e w3 ⟨B5, d5, F5, rfl, o5, hN3, hb3⟩
 have z3 : w.heap.size + 3 ≤ w3.heap.size := Nat.le_trans z2 (by have := hb3.size; simpa using this)
 have hB3 : Bel w w3 := bel_trans (belx) hb3
 have R3 : Box w3 (w.heap.size + 1) 35 #[.int .i64 0, .int .i64 0, .int .i64 0, .slice none 0 0, .slice none 0 0, .slice none 0 0, .slice none 0 0] := Box.below (R2.far (p := ⟨w.heap.size + 1 + 1, 4, none⟩) lez (.slice B4 r4.length d4)) hb3 lez
 have L3 : Box w3 (w.heap.size + 1 + 1) 35 #[.int .i64 x0, .int .i64 x1, .int .i64 x2, .slice B3 r3.length d3, .slice B4 r4.length d4, .slice none 0 0, .slice none 0 0] := Box.below (by simpa using (L2.put 4 (.slice B4 r4.length d4))) hb3 lez
 have P3 : Box w3 w.heap.size 27 #[.int .i64 x0, .int .i64 x1, .int .i64 x2, .slice A3 r3.length c3, .slice A4 r4.length c4, .slice A5 r5.length c5, .slice A6 r6.length c6] := Box.below (P2.far (p := ⟨w.heap.size + 1 + 1, 4, none⟩) lez (.slice B4 r4.length d4)) hb3 lez
 replace o3 := Ty.below (t := tNode.row) (Ty.far (t := tNode.row) o3 hM1 (p := ⟨w.heap.size + 1 + 1, 4, none⟩) lez (.slice B4 r4.length d4)) hb3
 replace o4 := Ty.below (t := tMail.row) (Ty.far (t := tMail.row) o4 hM2 (p := ⟨w.heap.size + 1 + 1, 4, none⟩) lez (.slice B4 r4.length d4)) hb3
 have hM3 : New (w.heap.size + 3) (F5) := hN3.lower (by simp; omega)
 have hV3 : New w2.heap.size (F5) := hN3.lower lez
 have zz3 : w2.heap.size ≤ w3.heap.size := by have := hb3.size; simpa using this
 clear hN3
 have y3 : ∀ f ∈ F5, f < w3.heap.size := by intro f hf; exact tSent.row.lt o5 f hf
 have kr3_0 := R3.cell 0; have fr3_0 := R3.frozen 0; have kl3_0 := L3.cell 0; have fl3_0 := L3.frozen 0; have kp3_0 := P3.cell 0
 have kr3_1 := R3.cell 1; have fr3_1 := R3.frozen 1; have kl3_1 := L3.cell 1; have fl3_1 := L3.frozen 1; have kp3_1 := P3.cell 1
 have kr3_2 := R3.cell 2; have fr3_2 := R3.frozen 2; have kl3_2 := L3.cell 2; have fl3_2 := L3.frozen 2; have kp3_2 := P3.cell 2
 have kr3_3 := R3.cell 3; have fr3_3 := R3.frozen 3; have kl3_3 := L3.cell 3; have fl3_3 := L3.frozen 3; have kp3_3 := P3.cell 3
 have kr3_4 := R3.cell 4; have fr3_4 := R3.frozen 4; have kl3_4 := L3.cell 4; have fl3_4 := L3.frozen 4; have kp3_4 := P3.cell 4
 have kr3_5 := R3.cell 5; have fr3_5 := R3.frozen 5; have kl3_5 := L3.cell 5; have fl3_5 := L3.frozen 5; have kp3_5 := P3.cell 5
 have kr3_6 := R3.cell 6; have fr3_6 := R3.frozen 6; have kl3_6 := L3.cell 6; have fl3_6 := L3.frozen 6; have kp3_6 := P3.cell 6
 go_wp2_with fail
 refine (o_toGlanceS (tGlance.row.reach hr6 ?hB) (by omega)).mono ?_
 case hB => exact (belx)
 rintro e w4 ⟨B6, d6, F6, rfl, o6, hN4, hb4⟩
 have z4 : w.heap.size + 3 ≤ w4.heap.size := Nat.le_trans z3 (by have := hb4.size; simpa using this)
 have hB4 : Bel w w4 := bel_trans (belx) hb4
 have R4 : Box w4 (w.heap.size + 1) 35 #[.int .i64 0, .int .i64 0, .int .i64 0, .slice none 0 0, .slice none 0 0, .slice none 0 0, .slice none 0 0] := Box.below (R3.far (p := ⟨w.heap.size + 1 + 1, 5, none⟩) lez (.slice B5 r5.length d5)) hb4 lez
 have L4 : Box w4 (w.heap.size + 1 + 1) 35 #[.int .i64 x0, .int .i64 x1, .int .i64 x2, .slice B3 r3.length d3, .slice B4 r4.length d4, .slice B5 r5.length d5, .slice none 0 0] := Box.below (by simpa using (L3.put 5 (.slice B5 r5.length d5))) hb4 lez
 have P4 : Box w4 w.heap.size 27 #[.int .i64 x0, .int .i64 x1, .int .i64 x2, .slice A3 r3.length c3, .slice A4 r4.length c4, .slice A5 r5.length c5, .slice A6 r6.length c6] := Box.below (P3.far (p := ⟨w.heap.size + 1 + 1, 5, none⟩) lez (.slice B5 r5.length d5)) hb4 lez
 replace o3 := Ty.below (t := tNode.row) (Ty.far (t := tNode.row) o3 hM1 (p := ⟨w.heap.size + 1 + 1, 5, none⟩) lez (.slice B5 r5.length d5)) hb4
 replace o4 := Ty.below (t := tMail.row) (Ty.far (t := tMail.row) o4 hM2 (p := ⟨w.heap.size + 1 + 1, 5, none⟩) lez (.slice B5 r5.length d5)) hb4
 replace o5 := Ty.below (t := tSent.row) (Ty.far (t := tSent.row) o5 hM3 (p := ⟨w.heap.size + 1 + 1, 5, none⟩) lez (.slice B5 r5.length d5)) hb4
 have hM4 : New (w.heap.size + 3) (F6) := hN4.lower (by simp; omega)
 have hV4 : New w3.heap.size (F6) := hN4.lower lez
 have zz4 : w3.heap.size ≤ w4.heap.size := by have := hb4.size; simpa using this
 clear hN4
 have y4 : ∀ f ∈ F6, f < w4.heap.size := by intro f hf; exact tGlance.row.lt o6 f hf
 have kr4_0 := R4.cell 0; have fr4_0 := R4.frozen 0; have kl4_0 := L4.cell 0; have fl4_0 := L4.frozen 0; have kp4_0 := P4.cell 0
 have kr4_1 := R4.cell 1; have fr4_1 := R4.frozen 1; have kl4_1 := L4.cell 1; have fl4_1 := L4.frozen 1; have kp4_1 := P4.cell 1
 have kr4_2 := R4.cell 2; have fr4_2 := R4.frozen 2; have kl4_2 := L4.cell 2; have fl4_2 := L4.frozen 2; have kp4_2 := P4.cell 2
 have kr4_3 := R4.cell 3; have fr4_3 := R4.frozen 3; have kl4_3 := L4.cell 3; have fl4_3 := L4.frozen 3; have kp4_3 := P4.cell 3
 have kr4_4 := R4.cell 4; have fr4_4 := R4.frozen 4; have kl4_4 := L4.cell 4; have fl4_4 := L4.frozen 4; have kp4_4 := P4.cell 4
 have kr4_5 := R4.cell 5; have fr4_5 := R4.frozen 5; have kl4_5 := L4.cell 5; have fl4_5 := L4.frozen 5; have kp4_5 := P4.cell 5
 have kr4_6 := R4.cell 6; have fr4_6 := R4.frozen 6; have kl4_6 := L4.cell 6; have fl4_6 := L4.frozen 6; have kp4_6 := P4.cell 6
 go_wp2
 have RR := ((((((((R4.far (p := ⟨w.heap.size + 1 + 1, 6, none⟩) lez (.slice B6 r6.length d6)).put 0 (.int .i64 x0)).put 1 (.int .i64 x1)).put 2 (.int .i64 x2)).put 3 (.slice B3 r3.length d3)).put 4 (.slice B4 r4.length d4)).put 5 (.slice B5 r5.length d5)).put 6 (.slice B6 r6.length d6))
 have e0 := RR.cell 0
 have e1 := RR.cell 1
 have e2 := RR.cell 2
 have e3 := RR.cell 3
 have e4 := RR.cell 4
 have e5 := RR.cell 5
 have e6 := RR.cell 6
 have u3 := (Ty.far (t := tNode.row) (Ty.far (t := tNode.row) (Ty.far (t := tNode.row) (Ty.far (t := tNode.row) (Ty.far (t := tNode.row) (Ty.far (t := tNode.row) (Ty.far (t := tNode.row) (Ty.far (t := tNode.row) o3 hM1 (p := ⟨w.heap.size + 1 + 1, 6, none⟩) lez (.slice B6 r6.length d6)) hM1 (p := ⟨w.heap.size + 1, 0, none⟩) lez (.int .i64 x0)) hM1 (p := ⟨w.heap.size + 1, 1, none⟩) lez (.int .i64 x1)) hM1 (p := ⟨w.heap.size + 1, 2, none⟩) lez (.int .i64 x2)) hM1 (p := ⟨w.heap.size + 1, 3, none⟩) lez (.slice B3 r3.length d3)) hM1 (p := ⟨w.heap.size + 1, 4, none⟩) lez (.slice B4 r4.length d4)) hM1 (p := ⟨w.heap.size + 1, 5, none⟩) lez (.slice B5 r5.length d5)) hM1 (p := ⟨w.heap.size + 1, 6, none⟩) lez (.slice B6 r6.length d6))
 have u4 := (Ty.far (t := tMail.row) (Ty.far (t := tMail.row) (Ty.far (t := tMail.row) (Ty.far (t := tMail.row) (Ty.far (t := tMail.row) (Ty.far (t := tMail.row) (Ty.far (t := tMail.row) (Ty.far (t := tMail.row) o4 hM2 (p := ⟨w.heap.size + 1 + 1, 6, none⟩) lez (.slice B6 r6.length d6)) hM2 (p := ⟨w.heap.size + 1, 0, none⟩) lez (.int .i64 x0)) hM2 (p := ⟨w.heap.size + 1, 1, none⟩) lez (.int .i64 x1)) hM2 (p := ⟨w.heap.size + 1, 2, none⟩) lez (.int .i64 x2)) hM2 (p := ⟨w.heap.size + 1, 3, none⟩) lez (.slice B3 r3.length d3)) hM2 (p := ⟨w.heap.size + 1, 4, none⟩) lez (.slice B4 r4.length d4)) hM2 (p := ⟨w.heap.size + 1, 5, none⟩) lez (.slice B5 r5.length d5)) hM2 (p := ⟨w.heap.size + 1, 6, none⟩) lez (.slice B6 r6.length d6))
 have u5 := (Ty.far (t := tSent.row) (Ty.far (t := tSent.row) (Ty.far (t := tSent.row) (Ty.far (t := tSent.row) (Ty.far (t := tSent.row) (Ty.far (t := tSent.row) (Ty.far (t := tSent.row) (Ty.far (t := tSent.row) o5 hM3 (p := ⟨w.heap.size + 1 + 1, 6, none⟩) lez (.slice B6 r6.length d6)) hM3 (p := ⟨w.heap.size + 1, 0, none⟩) lez (.int .i64 x0)) hM3 (p := ⟨w.heap.size + 1, 1, none⟩) lez (.int .i64 x1)) hM3 (p := ⟨w.heap.size + 1, 2, none⟩) lez (.int .i64 x2)) hM3 (p := ⟨w.heap.size + 1, 3, none⟩) lez (.slice B3 r3.length d3)) hM3 (p := ⟨w.heap.size + 1, 4, none⟩) lez (.slice B4 r4.length d4)) hM3 (p := ⟨w.heap.size + 1, 5, none⟩) lez (.slice B5 r5.length d5)) hM3 (p := ⟨w.heap.size + 1, 6, none⟩) lez (.slice B6 r6.length d6))
 have u6 := (Ty.far (t := tGlance.row) (Ty.far (t := tGlance.row) (Ty.far (t := tGlance.row) (Ty.far (t := tGlance.row) (Ty.far (t := tGlance.row) (Ty.far (t := tGlance.row) (Ty.far (t := tGlance.row) (Ty.far (t := tGlance.row) o6 hM4 (p := ⟨w.heap.size + 1 + 1, 6, none⟩) lez (.slice B6 r6.length d6)) hM4 (p := ⟨w.heap.size + 1, 0, none⟩) lez (.int .i64 x0)) hM4 (p := ⟨w.heap.size + 1, 1, none⟩) lez (.int .i64 x1)) hM4 (p := ⟨w.heap.size + 1, 2, none⟩) lez (.int .i64 x2)) hM4 (p := ⟨w.heap.size + 1, 3, none⟩) lez (.slice B3 r3.length d3)) hM4 (p := ⟨w.heap.size + 1, 4, none⟩) lez (.slice B4 r4.length d4)) hM4 (p := ⟨w.heap.size + 1, 5, none⟩) lez (.slice B5 r5.length d5)) hM4 (p := ⟨w.heap.size + 1, 6, none⟩) lez (.slice B6 r6.length d6))
 obtain ⟨F, hF, hFe⟩ := makeONet (p := (x0, x1, x2, r3, r4, r5, r6)) hi0 hi1 hi2 u3 u4 u5 u6
 refine bodyPost_ret (v := .agg #[.int .i64 x0, .int .i64 x1, .int .i64 x2, .slice B3 r3.length d3, .slice B4 r4.length d4, .slice B5 r5.length d5, .slice B6 r6.length d6]) (by simp [results, Tryz.results7, go_sem, e0, e1, e2, e3, e4, e5, e6]) rfl ⟨_, F, rfl, hF, ?_, ?_⟩
 ·rw [hFe]
  exact New.lower (B := w.heap.size + 3) (by exact (New.app (New.app (New.app hM1 hV2 (by omega) y1) hV3 (by omega) (show ∀ f ∈ F3 ++ F4, f < w2.heap.size from fun f hf => by rcases List.mem_append.1 hf with h | h; have := y1 f h; omega; exact y2 f h)) hV4 (by omega) (show ∀ f ∈ F3 ++ F4 ++ F5, f < w3.heap.size from fun f hf => by rcases List.mem_append.1 hf with h | h; have := (show ∀ f ∈ F3 ++ F4, f < w2.heap.size from fun f hf => by rcases List.mem_append.1 hf with h | h; have := y1 f h; omega; exact y2 f h) f h; omega; exact y3 f h))) (by omega)
 ·exact (bel_put (bel_put (bel_put (bel_put (bel_put (bel_put (bel_put (bel_put hB4 lez _) lez _) lez _) lez _) lez _) lez _) lez _) lez _)
theorem o_eqNet {w : World} {cs cs' : List Value} {p : DNet} (h : tNet.R w w.heap.size cs p) (h' : tNet.R w w.heap.size cs' p) :
  Calls Tryz.prog 10 #[.agg cs.toArray, .agg cs'.toArray] w fun e w' => e = .returned (.bool true) ∧ Bel w w' := by
 obtain ⟨A3, n3, c3, A4, n4, c4, A5, n5, c5, A6, n6, c6, rfl, hi0, hi1, hi2, ha3, hb3, hl3, hr3, ha4, hb4, hl4, hr4, ha5, hb5, hl5, hr5, ha6, hb6, hl6, hr6⟩ := openNet h
 obtain ⟨A3', n3', c3', A4', n4', c4', A5', n5', c5', A6', n6', c6', rfl, hi0', hi1', hi2', ha3', hb3', hl3', hr3', ha4', hb4', hl4', hr4', ha5', hb5', hl5', hr5', ha6', hb6', hl6', hr6'⟩ := openNet h'
 obtain ⟨x0, x1, x2, r3, r4, r5, r6⟩ := p
 try dsimp only at *
 subst hl3
 subst hl3'
 subst hl4
 subst hl4'
 subst hl5
 subst hl5'
 subst hl6
 subst hl6'
 have q0 : (x0 != x0) = false := by simp
 have q1 : (x1 != x1) = false := by simp
 have q2 : (x2 != x2) = false := by simp
 go_enter Tryz.func10, Tryz.ntmps10
 go_wp2_with fail
 refine (o_eqNodeS (tNode.row.reach hr3 ?hB) (tNode.row.reach hr3' ?hB)).mono ?_
 case hB => exact (belx)
 rintro e w1 ⟨rfl, hb1⟩
 have hB1 : Bel w w1 := bel_trans (belx) hb1
 have P1 : Box w1 w.heap.size 35 #[.int .i64 x0, .int .i64 x1, .int .i64 x2, .slice A3 r3.length c3, .slice A4 r4.length c4, .slice A5 r5.length c5, .slice A6 r6.length c6] := ((Box.new _ _ _).alloc _).below hb1 lez
 have Q1 : Box w1 (w.heap.size + 1) 35 #[.int .i64 x0, .int .i64 x1, .int .i64 x2, .slice A3' r3.length c3', .slice A4' r4.length c4', .slice A5' r5.length c5', .slice A6' r6.length c6'] := Box.below (by simpa using Box.new (w.alloc _) 35 #[.int .i64 x0, .int .i64 x1, .int .i64 x2, .slice A3' r3.length c3', .slice A4' r4.length c4', .slice A5' r5.length c5', .slice A6' r6.length c6']) hb1 lez
 have e0_4 := P1.cell 4
 have e0_4q := Q1.cell 4
 go_wp2_with fail
 refine (o_eqMailS (tMail.row.reach hr4 ?hB) (tMail.row.reach hr4' ?hB)).mono ?_
 case hB => exact (belx)
 rintro e w2 ⟨rfl, hb2⟩
 have hB2 : Bel w w2 := bel_trans (belx) hb2
 have P2 := P1.below hb2 P1.size
 have Q2 := Q1.below hb2 Q1.size
 have e1_5 := P2.cell 5
 have e1_5q := Q2.cell 5
 go_wp2_with fail
 refine (o_eqSentS (tSent.row.reach hr5 ?hB) (tSent.row.reach hr5' ?hB)).mono ?_
 case hB => exact (belx)
 rintro e w3 ⟨rfl, hb3⟩
 have hB3 : Bel w w3 := bel_trans (belx) hb3
 have P3 := P2.below hb3 P2.size
 have Q3 := Q2.below hb3 Q2.size
 have e2_6 := P3.cell 6
 have e2_6q := Q3.cell 6
 go_wp2_with fail
 refine (o_eqGlanceS (tGlance.row.reach hr6 ?hB) (tGlance.row.reach hr6' ?hB)).mono ?_
 case hB => exact (belx)
 rintro e w4 ⟨rfl, hb4⟩
 have hB4 : Bel w w4 := bel_trans (belx) hb4
 have P4 := P3.below hb4 P3.size
 have Q4 := Q3.below hb4 Q3.size
 go_wp2
 go_ret
 exact ⟨rfl, hB4⟩
theorem o_markNet {w : World} {cs : List Value} {p : DNet} {F : List Nat} (k : Int) (h : tNet.O w cs p F) (hF : F.Nodup) (h0 : 0 ≤ k) (hk : k + cntNet p ≤ 4611686018427387904) :
  Calls Tryz.prog 12 #[.agg cs.toArray, .int .i64 k] w fun e w' => e = .returned (.int .i64 (k + cntNet p)) ∧ tNet.O w' cs (mkNet k p) F ∧ Only F w w' := by
 obtain ⟨A3, c3, F3, A4, c4, F4, A5, c5, F5, A6, c6, F6, rfl, hFe, hi0, hi1, hi2, ha3, hb3, hr3, ha4, hb4, hr4, ha5, hb5, hr5, ha6, hb6, hr6⟩ := openONet h
 obtain ⟨x0, x1, x2, r3, r4, r5, r6⟩ := p
 try dsimp only [cntNet] at *
 subst F
 have nd3 : F3.Nodup := (List.nodup_append.1 (List.nodup_append.1 (List.nodup_append.1 hF).1).1).1
 have nd4 : F4.Nodup := (List.nodup_append.1 (List.nodup_append.1 (List.nodup_append.1 hF).1).1).2.1
 have ap3_4 : ∀ f ∈ F3, f ∉ F4 := fun f h1 h2 => (List.nodup_append.1 (List.nodup_append.1 (List.nodup_append.1 hF).1).1).2.2 f (by simp [h1]) f h2 rfl
 have nd5 : F5.Nodup := (List.nodup_append.1 (List.nodup_append.1 hF).1).2.1
 have ap3_5 : ∀ f ∈ F3, f ∉ F5 := fun f h1 h2 => (List.nodup_append.1 (List.nodup_append.1 hF).1).2.2 f (by simp [h1]) f h2 rfl
 have ap4_5 : ∀ f ∈ F4, f ∉ F5 := fun f h1 h2 => (List.nodup_append.1 (List.nodup_append.1 hF).1).2.2 f (by simp [h1]) f h2 rfl
 have nd6 : F6.Nodup := (List.nodup_append.1 hF).2.1
 have ap3_6 : ∀ f ∈ F3, f ∉ F6 := fun f h1 h2 => (List.nodup_append.1 hF).2.2 f (by simp [h1]) f h2 rfl
 have ap4_6 : ∀ f ∈ F4, f ∉ F6 := fun f h1 h2 => (List.nodup_append.1 hF).2.2 f (by simp [h1]) f h2 rfl
 have ap5_6 : ∀ f ∈ F5, f ∉ F6 := fun f h1 h2 => (List.nodup_append.1 hF).2.2 f (by simp [h1]) f h2 rfl
 go_enter Tryz.func12, Tryz.ntmps12
 replace hr3 : tNode.row.O (w.alloc (.cells #[.int .i64 x0, .int .i64 x1, .int .i64 x2, .slice A3 r3.length c3, .slice A4 r4.length c4, .slice A5 r5.length c5, .slice A6 r6.length c6] 35)) _ _ _ := Ty.below hr3 (belx)
 replace hr4 : tMail.row.O (w.alloc (.cells #[.int .i64 x0, .int .i64 x1, .int .i64 x2, .slice A3 r3.length c3, .slice A4 r4.length c4, .slice A5 r5.length c5, .slice A6 r6.length c6] 35)) _ _ _ := Ty.below hr4 (belx)
 replace hr5 : tSent.row.O (w.alloc (.cells #[.int .i64 x0, .int .i64 x1, .int .i64 x2, .slice A3 r3.length c3, .slice A4 r4.length c4, .slice A5 r5.length c5, .slice A6 r6.length c6] 35)) _ _ _ := Ty.below hr5 (belx)
 replace hr6 : tGlance.row.O (w.alloc (.cells #[.int .i64 x0, .int .i64 x1, .int .i64 x2, .slice A3 r3.length c3, .slice A4 r4.length c4, .slice A5 r5.length c5, .slice A6 r6.length c6] 35)) _ _ _ := Ty.below hr6 (belx)
 have G0 : Only (F3 ++ F4 ++ F5 ++ F6) w (w.alloc (.cells #[.int .i64 x0, .int .i64 x1, .int .i64 x2, .slice A3 r3.length c3, .slice A4 r4.length c4, .slice A5 r5.length c5, .slice A6 r6.length c6] 35)) := (Only.refl _ _).alloc _
 have P0 : Box (w.alloc (.cells #[.int .i64 x0, .int .i64 x1, .int .i64 x2, .slice A3 r3.length c3, .slice A4 r4.length c4, .slice A5 r5.length c5, .slice A6 r6.length c6] 35)) w.heap.size 35 #[.int .i64 x0, .int .i64 x1, .int .i64 x2, .slice A3 r3.length c3, .slice A4 r4.length c4, .slice A5 r5.length c5, .slice A6 r6.length c6] := Box.new _ _ _
 have y3 : ∀ f ∈ F3, f < w.heap.size := fun f hf => (tNet).lt h f (by simp [hf])
 have y4 : ∀ f ∈ F4, f < w.heap.size := fun f hf => (tNet).lt h f (by simp [hf])
 have y5 : ∀ f ∈ F5, f < w.heap.size := fun f hf => (tNet).lt h f (by simp [hf])
 have y6 : ∀ f ∈ F6, f < w.heap.size := fun f hf => (tNet).lt h f (by simp [hf])
 go_wp2_with fail
 refine (o_markNodeS (k) hr3 nd3 (by omega) (by omega)).mono ?_
 rintro e w1 ⟨rfl, hO1, hG1⟩
 have G1 := G0.trans (hG1.mono (by intro f hf; (try simp only [List.mem_append] at hf ⊢); first | assumption | (simp only [hf, true_or, or_true]) | (rcases hf with hf | hf <;> simp only [hf, true_or, or_true])))
 have P1 : Box w1 w.heap.size 35 #[.int .i64 x0, .int .i64 x1, .int .i64 x2, .slice A3 r3.length c3, .slice A4 r4.length c4, .slice A5 r5.length c5, .slice A6 r6.length c6] := P0.same (hG1.block _ P0.size (by intro e; (try simp only [List.mem_append] at e); rcases e with e <;> first | (have := y3 _ e; omega)))
 have e1_0 := P1.cell 0
 have e1_1 := P1.cell 1
 have e1_2 := P1.cell 2
 have e1_3 := P1.cell 3
 have e1_4 := P1.cell 4
 have e1_5 := P1.cell 5
 have e1_6 := P1.cell 6
 replace hr4 := Ty.only hr4 hG1 (by intro f hf e; (try simp only [List.mem_append] at e); rcases e with e <;> first | exact ap3_4 f e hf)
 replace hr5 := Ty.only hr5 hG1 (by intro f hf e; (try simp only [List.mem_append] at e); rcases e with e <;> first | exact ap3_5 f e hf)
 replace hr6 := Ty.only hr6 hG1 (by intro f hf e; (try simp only [List.mem_append] at e); rcases e with e <;> first | exact ap3_6 f e hf)
 replace hr3 := hO1
 go_wp2_with fail
 refine (o_markMailS (k + ((rsum rcNode r3 : Nat) : Int)) hr4 nd4 (by omega) (by omega)).mono ?_
 rintro e w2 ⟨rfl, hO2, hG2⟩
 have G2 := G1.trans (hG2.mono (by intro f hf; (try simp only [List.mem_append] at hf ⊢); first | assumption | (simp only [hf, true_or, or_true]) | (rcases hf with hf | hf <;> simp only [hf, true_or, or_true])))
 have P2 : Box w2 w.heap.size 35 #[.int .i64 x0, .int .i64 x1, .int .i64 x2, .slice A3 r3.length c3, .slice A4 r4.length c4, .slice A5 r5.length c5, .slice A6 r6.length c6] := P1.same (hG2.block _ P1.size (by intro e; (try simp only [List.mem_append] at e); rcases e with e <;> first | (have := y4 _ e; omega)))
 have e2_0 := P2.cell 0
 have e2_1 := P2.cell 1
 have e2_2 := P2.cell 2
 have e2_3 := P2.cell 3
 have e2_4 := P2.cell 4
 have e2_5 := P2.cell 5
 have e2_6 := P2.cell 6
 replace hr3 := Ty.only hr3 hG2 (by intro f hf e; (try simp only [List.mem_append] at e); rcases e with e <;> first | exact ap3_4 f hf e)
 replace hr5 := Ty.only hr5 hG2 (by intro f hf e; (try simp only [List.mem_append] at e); rcases e with e <;> first | exact ap4_5 f e hf)
 replace hr6 := Ty.only hr6 hG2 (by intro f hf e; (try simp only [List.mem_append] at e); rcases e with e <;> first | exact ap4_6 f e hf)
 replace hr4 := hO2
 go_wp2_with fail
 refine (o_markSentS (k + ((rsum rcNode r3 : Nat) : Int) + ((rsum rcMail r4 : Nat) : Int)) hr5 nd5 (by omega) (by omega)).mono ?_
 rintro e w3 ⟨rfl, hO3, hG3⟩
 have G3 := G2.trans (hG3.mono (by intro f hf; (try simp only [List.mem_append] at hf ⊢); first | assumption | (simp only [hf, true_or, or_true]) | (rcases hf with hf | hf <;> simp only [hf, true_or, or_true])))
 have P3 : Box w3 w.heap.size 35 #[.int .i64 x0, .int .i64 x1, .int .i64 x2, .slice A3 r3.length c3, .slice A4 r4.length c4, .slice A5 r5.length c5, .slice A6 r6.length c6] := P2.same (hG3.block _ P2.size (by intro e; (try simp only [List.mem_append] at e); rcases e with e <;> first | (have := y5 _ e; omega)))
 have e3_0 := P3.cell 0
 have e3_1 := P3.cell 1
 have e3_2 := P3.cell 2
 have e3_3 := P3.cell 3
 have e3_4 := P3.cell 4
 have e3_5 := P3.cell 5
 have e3_6 := P3.cell 6
 replace hr3 := Ty.only hr3 hG3 (by intro f hf e; (try simp only [List.mem_append] at e); rcases e with e <;> first | exact ap3_5 f hf e)
 replace hr4 := Ty.only hr4 hG3 (by intro f hf e; (try simp only [List.mem_append] at e); rcases e with e <;> first | exact ap4_5 f hf e)
 replace hr6 := Ty.only hr6 hG3 (by intro f hf e; (try simp only [List.mem_append] at e); rcases e with e <;> first | exact ap5_6 f e hf)
 replace hr5 := hO3
 go_wp2_with fail
 refine (o_markGlanceS (k + ((rsum rcNode r3 : Nat) : Int) + ((rsum rcMail r4 : Nat) : Int) + ((rsum rcSent r5 : Nat) : Int)) hr6 nd6 (by omega) (by omega)).mono ?_
 rintro e w4 ⟨rfl, hO4, hG4⟩
 have G4 := G3.trans (hG4.mono (by intro f hf; (try simp only [List.mem_append] at hf ⊢); first | assumption | (simp only [hf, true_or, or_true]) | (rcases hf with hf | hf <;> simp only [hf, true_or, or_true])))
 have P4 : Box w4 w.heap.size 35 #[.int .i64 x0, .int .i64 x1, .int .i64 x2, .slice A3 r3.length c3, .slice A4 r4.length c4, .slice A5 r5.length c5, .slice A6 r6.length c6] := P3.same (hG4.block _ P3.size (by intro e; (try simp only [List.mem_append] at e); rcases e with e <;> first | (have := y6 _ e; omega)))
 have e4_0 := P4.cell 0
 have e4_1 := P4.cell 1
 have e4_2 := P4.cell 2
 have e4_3 := P4.cell 3
 have e4_4 := P4.cell 4
 have e4_5 := P4.cell 5
 have e4_6 := P4.cell 6
 replace hr3 := Ty.only hr3 hG4 (by intro f hf e; (try simp only [List.mem_append] at e); rcases e with e <;> first | exact ap3_6 f hf e)
 replace hr4 := Ty.only hr4 hG4 (by intro f hf e; (try simp only [List.mem_append] at e); rcases e with e <;> first | exact ap4_6 f hf e)
 replace hr5 := Ty.only hr5 hG4 (by intro f hf e; (try simp only [List.mem_append] at e); rcases e with e <;> first | exact ap5_6 f hf e)
 replace hr6 := hO4
 go_wp2
 go_ret
 obtain ⟨F2, hF2, hFe⟩ := makeONet (p := mkNet k (x0, x1, x2, r3, r4, r5, r6)) hi0 hi1 hi2 hr3 hr4 hr5 hr6
 subst F2
 exact ⟨ret_int (by omega), hF2, G4⟩
theorem o_heldNet {w : World} {cs : List Value} {p : DNet} (k : Int) (h : tNet.R w w.heap.size cs (mkNet k p)) (h0 : 0 ≤ k) (hk : k + cntNet p ≤ 4611686018427387904) :
  Calls Tryz.prog 14 #[.agg cs.toArray, .int .i64 k] w fun e w' => e = .returned (.int .i64 (k + cntNet p)) ∧ Bel w w' := by
 obtain ⟨A3, n3, c3, A4, n4, c4, A5, n5, c5, A6, n6, c6, rfl, hi0, hi1, hi2, ha3, hb3, hl3, hr3, ha4, hb4, hl4, hr4, ha5, hb5, hl5, hr5, ha6, hb6, hl6, hr6⟩ := openNet h
 obtain ⟨x0, x1, x2, r3, r4, r5, r6⟩ := p
 try dsimp only [cntNet, mkNet] at *
 have d0 : decide (k + ((rsum rcNode r3 : Nat) : Int) < 0) = false := by simp; omega
 have d1 : decide (k + ((rsum rcNode r3 : Nat) : Int) + ((rsum rcMail r4 : Nat) : Int) < 0) = false := by simp; omega
 have d2 : decide (k + ((rsum rcNode r3 : Nat) : Int) + ((rsum rcMail r4 : Nat) : Int) + ((rsum rcSent r5 : Nat) : Int) < 0) = false := by simp; omega
 have d3 : decide (k + ((rsum rcNode r3 : Nat) : Int) + ((rsum rcMail r4 : Nat) : Int) + ((rsum rcSent r5 : Nat) : Int) + ((rsum rcGlance r6 : Nat) : Int) < 0) = false := by simp; omega
 go_enter Tryz.func14, Tryz.ntmps14
 go_wp2_with fail
 refine (o_heldNodeS (k) (tNode.row.reach hr3 ?hB) (by omega) (by omega)).mono ?_
 case hB => exact (belx)
 rintro e w1 ⟨rfl, hb1⟩
 have hB1 : Bel w w1 := bel_trans (belx) hb1
 have P1 : Box w1 w.heap.size 35 #[.int .i64 x0, .int .i64 x1, .int .i64 x2, .slice A3 n3 c3, .slice A4 n4 c4, .slice A5 n5 c5, .slice A6 n6 c6] := (Box.new _ _ _).below hb1 lez
 have e0_4 := P1.cell 4
 go_wp2_with fail
 refine (o_heldMailS (k + ((rsum rcNode r3 : Nat) : Int)) (tMail.row.reach hr4 ?hB) (by omega) (by omega)).mono ?_
 case hB => exact (belx)
 rintro e w2 ⟨rfl, hb2⟩
 have hB2 : Bel w w2 := bel_trans (belx) hb2
 have P2 := P1.below hb2 P1.size
 have e1_5 := P2.cell 5
 go_wp2_with fail
 refine (o_heldSentS (k + ((rsum rcNode r3 : Nat) : Int) + ((rsum rcMail r4 : Nat) : Int)) (tSent.row.reach hr5 ?hB) (by omega) (by omega)).mono ?_
 case hB => exact (belx)
 rintro e w3 ⟨rfl, hb3⟩
 have hB3 : Bel w w3 := bel_trans (belx) hb3
 have P3 := P2.below hb3 P2.size
 have e2_6 := P3.cell 6
 go_wp2_with fail
 refine (o_heldGlanceS (k + ((rsum rcNode r3 : Nat) : Int) + ((rsum rcMail r4 : Nat) : Int) + ((rsum rcSent r5 : Nat) : Int)) (tGlance.row.reach hr6 ?hB) (by omega) (by omega)).mono ?_
 case hB => exact (belx)
 rintro e w4 ⟨rfl, hb4⟩
 have hB4 : Bel w w4 := bel_trans (belx) hb4
 have P4 := P3.below hb4 P3.size
 go_wp2
 go_ret
 exact ⟨ret_int (by omega), hB4⟩
end Go.Proofs.YtkdanlnhdgcplaaGreat
namespace Go.Proofs.YtkdanlnhdgcplaaGreat
set_option linter.unusedVariables false
open Go.RowKit
open Fld
def NtAt (p : DNet) (i : Int) : Prop := NtOk p ∧ 0 ≤ i ∧ i < (p.2.2.2.2.1.length : Int)
noncomputable instance (p : DNet) (i : Int) : Decidable (NtAt p i) := Classical.propDecidable _
end Go.Proofs.YtkdanlnhdgcplaaGreat
namespace Go.Proofs.YtkdanlnhdgcplaaGreat
set_option linter.unusedVariables false
variable {P : Program} {md : Region.Mode} {ops : Array Oper} {Q : Exit → Act → World → Prop} {S : World → Prop}
theorem tkx (i : Nat) (d : Option Nat) {o1 : Op} {o2 : TypeId} {o3 : String} {o4 : Array Edge} {o5 : Option (Nat × Bool)} {v : Value} {fuel : Nat} {listed : Array Bool} {a a' : Act} {w : World} (h : wpAnyH P md ops Q S fuel (listed.setIfInBounds i true) a' w)
  (hi : ops[i]? = some ⟨d, o1, o2, o3, o4, o5⟩ := by rfl)
  (hy : YieldsIf P ops S ⟨d, o1, o2, o3, o4, o5⟩ v a := by exact Or.inl ⟨by rfl, by intro w hSw; (try dsimp only at hSw); go_simp; try (with_reducible rfl)⟩)
  (hs : Region.noSelect ops = true := by kernel_rfl) (hf : Region.free md ops listed i = true := by kernel_rfl) (hr : (Region.ready md ops listed).contains i = true := by kernel_rfl)
  (ha : a.put d v = a' := by first | (simp only [Act.put, List.setIfInBounds_toArray, List.set_cons_zero, List.set_cons_succ]; rfl) | rfl)
  (hQ : ∀ c a w, Q (.panic c) (a.put d v) w → Q (.panic c) a w := by exact fun _ _ _ h => h) (hS : S w := by assumption) : wpAnyH P md ops Q S (fuel + 1) listed a w :=
 wpAnyH_take hi hs hf hr hQ hy hS (ha ▸ h)
theorem tkn (i : Nat) (d : Option Nat) {o1 : Op} {o2 : TypeId} {o3 : String} {o4 : Array Edge} {o5 : Option (Nat × Bool)} {fuel : Nat} {listed : Array Bool} {a a' : Act} {w : World} (h : wpAnyH P md ops Q S fuel (listed.setIfInBounds i true) a' w)
  (hi : ops[i]? = some ⟨d, o1, o2, o3, o4, o5⟩ := by rfl)
  (hy : YieldsIf P ops S ⟨d, o1, o2, o3, o4, o5⟩ undef a := by exact Or.inr ⟨by rfl, rfl⟩)
  (hs : Region.noSelect ops = true := by kernel_rfl) (hf : Region.free md ops listed i = true := by kernel_rfl) (hr : (Region.ready md ops listed).contains i = true := by kernel_rfl)
  (ha : a.put d undef = a' := by first | (simp only [Act.put, List.setIfInBounds_toArray, List.set_cons_zero, List.set_cons_succ]; rfl) | rfl)
  (hQ : ∀ c a w, Q (.panic c) (a.put d undef) w → Q (.panic c) a w := by exact fun _ _ _ h => h) (hS : S w := by assumption) : wpAnyH P md ops Q S (fuel + 1) listed a w :=
 wpAnyH_take hi hs hf hr hQ hy hS (ha ▸ h)
theorem rdx (rs : List Nat) {fuel : Nat} {listed : Array Bool} {a : Act} {w : World} (h : AllReadyH P md ops Q S fuel listed a w rs) (hr : Region.ready md ops listed = rs := by kernel_rfl) (hne : rs ≠ [] := by simp) : wpAnyH P md ops Q S (fuel + 1) listed a w := wpAnyH_ready hr hne h
theorem rcx {fuel : Nat} {listed : Array Bool} {a : Act} {w : World} {i : Nat} {o : Oper} {rs : List Nat}
  (h : ∀ K' : Act → World → Prop, Shut (∀ a w, S w → (S w → wpAnyH P md ops Q S fuel (listed.setIfInBounds i true) a w) → K' a w) → if Region.wanted o (yielded ops a.tmps) = true then Oper.wp P o a w K' Q else K' (a.put o.dst undef) w)
  (hs : AllReadyH P md ops Q S fuel listed a w rs) (ho : ops[i]? = some o := by rfl) : AllReadyH P md ops Q S fuel listed a w (i :: rs) := AllReadyH.cons ho h hs
theorem rex {listed : Array Bool} {a : Act} {w : World} (h : Q .normal a w) (fuel : Nat) (hr : Region.ready md ops listed = [] := by kernel_rfl) : wpAnyH P md ops Q S fuel listed a w := wpAnyH_done hr h fuel
end Go.Proofs.YtkdanlnhdgcplaaGreat
namespace Go.Proofs.YtkdanlnhdgcplaaGreat
set_option linter.unusedVariables false
open Go.RowKit
structure KB where
 hi : Nat
 also : Nat → Prop
instance : Coe Nat KB := ⟨fun n => ⟨n, fun _ => False⟩⟩
instance (n : Nat) : OfNat KB n := ⟨⟨n, fun _ => False⟩⟩
def KB.ok (K : KB) (b : Nat) : Prop := K.hi ≤ b ∨ K.also b
def Alike (K : KB) (B : Nat) (w w' : World) : Prop := ∀ b, K.ok b → b < B → w'.heap[b]? = w.heap[b]?
theorem Alike.below {K : KB} {B : Nat} {w w' : World} (h : Below B w w') : Alike K B w w' := fun b _ hb => h.block b hb
theorem Alike.grown {K B g : Nat} {w w' : World} (h : w.grownBy w' (some g)) (hg : g < K) (hB : B ≤ w.heap.size) : Alike K B w w' := fun b h1 h2 => h.block b (by omega) (fun e => by injection e with e; have h3 : K ≤ b := h1.elim id False.elim; omega)
theorem Alike.put {K B : Nat} (w : World) {p : Addr} (hp : p.block < K) (u : Value) : Alike K B w (w.setCell p u) := fun b h1 _ => Below.heap_setCell w p u b (by have h3 : K ≤ b := h1.elim id False.elim; omega)
theorem Alike.set {K : KB} {B : Nat} (w : World) {p : Addr} (h : ¬ K.ok p.block) (u : Value) : Alike K B w (w.setCell p u) := fun b h3 _ => Below.heap_setCell w p u b (fun e => h (e ▸ h3))
theorem Alike.trans {K : KB} {B : Nat} {w w1 w2 : World} (h : Alike K B w w1) (k : Alike K B w1 w2) : Alike K B w w2 := fun b h1 h2 => (k b h1 h2).trans (h b h1 h2)
section
variable {α : Type} {t : Ty α} {w w' : World} {K : KB} {B B' : Nat} {cs : List Value} {a : α}
def XT (K : KB) (t : Ty α) : Ty α where
 k := t.k
 R := fun w B cs a => ∀ w', Alike K B w w' → t.R w' B cs a
 O := fun _ _ _ _ => False
 lenR := fun h => t.lenR (h _ (fun _ _ _ => rfl))
 lenO := fun h => h.elim
 keep := fun h hk w' ha => h w' (fun b h1 h2 => (ha b h1 h2).trans (hk b h2))
 up := fun h hB w' ha => t.up (h w' (fun b h1 h2 => ha b h1 (Nat.lt_of_lt_of_le h2 hB))) hB
 kept := fun h => h.elim
 lt := fun h => h.elim
 read := fun h => h.elim
theorem xt_R (h : (XT K t).R w B cs a) : t.R w B cs a := h w (fun _ _ _ => rfl)
theorem xt_keep (h : (XT K t).R w B cs a) (ha : Alike K B w w') : (XT K t).R w' B cs a := fun w2 h2 => h w2 (fun b h1 h3 => (h2 b h1 h3).trans (ha b h1 h3))
theorem xt_low {K K' : Nat} (h : (XT K t).R w B cs a) (hK : K' ≤ K) : (XT K' t).R w B cs a := fun w2 h2 => h w2 (fun b h1 h3 => h2 b (h1.elim (fun h => .inl (Nat.le_trans hK h)) (fun h => .inr h)) h3)
theorem xt_at (h : (XT K t).R w w.heap.size cs a) (ha : Alike K w.heap.size w w') (hs : w.heap.size ≤ w'.heap.size) : (XT K t).R w' w'.heap.size cs a := (XT K t).up (xt_keep h ha) hs
end
section
variable {α : Type} {t : Ty α} {w w' : World} {K K' B B' : Nat} {cs : List Value} {a : α}
def RowX (K : Nat) (t : Ty α) (w : World) (v : Value) (l : List α) : Prop := (XT K t).row.R w w.heap.size [v] l ∧ (0 < l.length → ∀ b, v.ownBlock = some b → K ≤ b)
theorem RowX.nil (K : Nat) (t : Ty α) (w : World) : RowX K t w (.slice none 0 0) [] := ⟨⟨none, 0, 0, rfl, Nat.le_refl _, by omega, rfl, fun h => absurd h (by omega)⟩, fun h => absurd h (by simp)⟩
theorem RowX.below {v : Value} {l : List α} (h : RowX K t w v l) (hB : Bel w w') : RowX K t w' v l := ⟨(XT K t).row.reach h.1 hB, h.2⟩
theorem RowX.at {v : Value} {l : List α} (h : RowX K t w v l) (ha : Alike K w.heap.size w w') (hs : w.heap.size ≤ w'.heap.size) : RowX K t w' v l := by
 obtain ⟨⟨A, n, c, e, h1, h2, h3, h4⟩, h5⟩ := h
 refine ⟨⟨A, n, c, e, h1, h2, h3, fun h0 => ?_⟩, h5⟩
 obtain ⟨b, off, rfl, hb, hc⟩ := h4 h0
 injection e with e _
 have hne : K ≤ b := h5 (by omega) b (by rw [e]; rfl)
 refine ⟨b, off, rfl, Nat.lt_of_lt_of_le hb hs, fun i a' ha' => ?_⟩
 obtain ⟨es, k1, k2⟩ := hc i a' ha'
 refine ⟨es, fun j hj => ?_, xt_at k2 ha hs⟩
 rw [← k1 j hj]
 exact World.cell?_of_block (ha b (.inl hne) hb)
theorem RowX.plain {v : Value} {l : List α} (h : RowX K t w v l) : t.row.R w w.heap.size [v] l := by
 obtain ⟨⟨A, n, c, e, h1, h2, h3, h4⟩, -⟩ := h
 refine ⟨A, n, c, e, h1, h2, h3, fun h0 => ?_⟩
 obtain ⟨b, off, e1, hb, hc⟩ := h4 h0
 refine ⟨b, off, e1, hb, fun i a' ha => ?_⟩
 obtain ⟨es, k1, k2⟩ := hc i a' ha
 exact ⟨es, k1, xt_R k2⟩
theorem RowX.low {v : Value} {l : List α} (h : RowX K t w v l) (hK : K' ≤ K) : RowX K' t w v l := by
 obtain ⟨⟨A, n, c, e, h1, h2, h3, h4⟩, h5⟩ := h
 refine ⟨⟨A, n, c, e, h1, h2, h3, fun h0 => ?_⟩, fun h0 b hb => Nat.le_trans hK (h5 h0 b hb)⟩
 obtain ⟨b, off, e1, hb, hc⟩ := h4 h0
 refine ⟨b, off, e1, hb, fun i a' ha => ?_⟩
 obtain ⟨es, k1, k2⟩ := hc i a' ha
 exact ⟨es, k1, xt_low k2 hK⟩
end
theorem slX_O {K : IntKind} {w : World} {g : KB} {cs : List Value} {l : List Int} {F : List Nat} (h : (tSl K).O w cs l F) (hF : ∀ f ∈ F, g.hi ≤ f) : (XT g (tSl K)).R w w.heap.size cs l := by
 intro w' ha
 rcases h with ⟨A, c, e, hc, rfl, rfl⟩ | ⟨gg, off, c, cur, et, e, h0, h2, h3, hg, h4, h5, rfl⟩
 ·exact ⟨A, 0, c, e, Nat.zero_le _, hc, Ints.nil⟩
 ·have hlt := Box.size (t := et) hg
  have hg' : Box w' gg et cur := (ha gg (.inl (hF gg (by simp))) hlt).trans hg
  exact ⟨_, _, c, e, h2, h3, rfl, fun _ => ⟨gg, off, rfl, hlt, fun i hi => by rw [hg'.cell]; exact h4 i hi⟩, h5⟩
theorem slX_own {K : IntKind} {e : TypeId} {w : World} {base : Nat} {g : KB} {v : Value} {l : List Int} (h : Own K e w base v l) (hb : g.hi ≤ base) : (XT g (tSl K)).R w w.heap.size [v] l := by
 obtain ⟨F, hF, hN⟩ := h.tSl
 exact slX_O hF (fun f hf => Nat.le_trans hb (hN.2 f hf))
end Go.Proofs.YtkdanlnhdgcplaaGreat
namespace Go.Proofs.YtkdanlnhdgcplaaGreat
set_option linter.unusedVariables false
open Go.RowKit
def Firm {α : Type} (K : KB) (t : Ty α) : Prop := ∀ (w w' : World) (B : Nat) (cs : List Value) (a : α), t.R w B cs a → Alike K B w w' → t.R w' B cs a
section
variable {α β : Type} {s : Ty β} {t : Ty α} {w w' : World} {K : KB} {B base : Nat} {cs : List Value} {a : α} {v : Value} {l : List α} {e : TypeId}
theorem firm_xt (K : KB) (t : Ty α) : Firm K (XT K t) := fun _ _ _ _ _ h ha => xt_keep h ha
theorem Firm.at (h : Firm K t) (hR : t.R w w.heap.size cs a) (ha : Alike K w.heap.size w w') (hs : w.heap.size ≤ w'.heap.size) : t.R w' w'.heap.size cs a := t.up (h _ _ _ _ _ hR ha) hs
def RX (K : KB) (t : Ty α) : Ty (List α) where
 k := 1
 R := fun w B cs l => ∃ A n c, cs = [.slice A n c] ∧ n ≤ c ∧ c ≤ 9223372036854775807 ∧ l.length = n ∧ (0 < n → ∃ b off, A = some ⟨b, off, none⟩ ∧ K.ok b ∧ b < B ∧
  ∀ i a, l[i]? = some a → ∃ es, (∀ j, j < t.k → w.cell? ⟨b, off + i * t.k + j, none⟩ = es[j]?) ∧ t.R w B es a)
 O := fun _ _ _ _ => False
 lenR := fun h => by obtain ⟨A, n, c, h1, _⟩ := h; rw [h1]; rfl
 lenO := fun h => h.elim
 keep := fun h hk => by
  obtain ⟨A, n, c, h1, h2, h3, h4, h5⟩ := h
  refine ⟨A, n, c, h1, h2, h3, h4, fun h0 => ?_⟩
  obtain ⟨b, off, e, hK, hb, hc⟩ := h5 h0
  refine ⟨b, off, e, hK, hb, fun i a hi => ?_⟩
  obtain ⟨es, k1, k2⟩ := hc i a hi
  exact ⟨es, fun j hj => (World.cell?_of_block (hk _ hb)).trans (k1 j hj), t.keep k2 hk⟩
 up := fun h hB => by
  obtain ⟨A, n, c, h1, h2, h3, h4, h5⟩ := h
  refine ⟨A, n, c, h1, h2, h3, h4, fun h0 => ?_⟩
  obtain ⟨b, off, e, hK, hb, hc⟩ := h5 h0
  refine ⟨b, off, e, hK, Nat.lt_of_lt_of_le hb hB, fun i a hi => ?_⟩
  obtain ⟨es, k1, k2⟩ := hc i a hi
  exact ⟨es, k1, t.up k2 hB⟩
 kept := fun h => h.elim
 lt := fun h => h.elim
 read := fun h => h.elim
theorem rx_row (h : (RX K t).R w B cs l) : t.row.R w B cs l := by
 obtain ⟨A, n, c, h1, h2, h3, h4, h5⟩ := h
 refine ⟨A, n, c, h1, h2, h3, h4, fun h0 => ?_⟩
 obtain ⟨b, off, e, hK, hb, hc⟩ := h5 h0
 exact ⟨b, off, e, hb, hc⟩
theorem firm_rx (h : Firm K t) : Firm K (RX K t) := fun w w' B cs l hR ha => by
 obtain ⟨A, n, c, h1, h2, h3, h4, h5⟩ := hR
 refine ⟨A, n, c, h1, h2, h3, h4, fun h0 => ?_⟩
 obtain ⟨b, off, e, hK, hb, hc⟩ := h5 h0
 refine ⟨b, off, e, hK, hb, fun i a hi => ?_⟩
 obtain ⟨es, k1, k2⟩ := hc i a hi
 exact ⟨es, fun j hj => (World.cell?_of_block (ha b hK hb)).trans (k1 j hj), h _ _ _ _ _ k2 ha⟩
theorem rx_of {A : Option Addr} {n c : Nat} (h : t.row.R w B [.slice A n c] l) (hK : 0 < n → ∀ b, (Value.slice A n c).ownBlock = some b → K.ok b) : (RX K t).R w B [.slice A n c] l := by
 obtain ⟨A', n', c', h1, h2, h3, h4, h5⟩ := h
 injection h1 with h1 _
 injection h1 with e1 e2 e3
 subst e1 e2 e3
 refine ⟨A, n, c, rfl, h2, h3, h4, fun h0 => ?_⟩
 obtain ⟨b, off, e, hb, hc⟩ := h5 h0
 subst e
 exact ⟨b, off, rfl, hK h0 b rfl, hb, hc⟩
theorem GrowR.doneX {A : Option Addr} {n c : Nat} (h : GrowR t e w base B (.slice A n c) l) (hw : B ≤ w.heap.size) (hK : K.hi ≤ base) : (RX K t).R w w.heap.size [.slice A n c] l :=
 rx_of (h.doneAs hw) fun _ b hb => .inl (Nat.le_trans hK (h.own b hb).1)
theorem rx_len {A : Option Addr} {n c : Nat} (h : (RX K t).R w B [.slice A n c] l) : l.length = n ∧ n ≤ c ∧ c ≤ 9223372036854775807 := rowR_len (rx_row h)
end
/-! ### what has been read once -/
def tFix {α : Type} (k : Nat) (P : List Value → α → Prop) (hP : ∀ cs a, P cs a → cs.length = k) : Ty α where
 k := k
 R := fun _ _ cs a => P cs a
 O := fun _ _ _ _ => False
 lenR := fun h => hP _ _ h
 lenO := fun h => h.elim
 keep := fun h _ => h
 up := fun h _ => h
 kept := fun h => h.elim
 lt := fun h => h.elim
 read := fun h => h.elim
section
variable {α : Type} {s t : Ty α} {w w' : World} {K : KB} {B base : Nat} {cs : List Value} {a : α} {v : Value} {l : List α} {e : TypeId}
theorem row_cast (hk : s.k = t.k) (hm : ∀ es a, s.R w B es a → t.R w B es a) (h : s.row.R w B cs l) : t.row.R w B cs l := by
 obtain ⟨A, n, c, h1, h2, h3, h4, h5⟩ := h
 refine ⟨A, n, c, h1, h2, h3, h4, fun h0 => ?_⟩
 obtain ⟨b, off, e, hb, hc⟩ := h5 h0
 refine ⟨b, off, e, hb, fun i a hi => ?_⟩
 obtain ⟨es, k1, k2⟩ := hc i a hi
 exact ⟨es, by rw [← hk]; exact k1, hm _ _ k2⟩
theorem rx_cast (hk : s.k = t.k) (hm : ∀ es a, s.R w B es a → t.R w B es a) (h : (RX K s).R w B cs l) : (RX K t).R w B cs l := by
 obtain ⟨A, n, c, h1, h2, h3, h4, h5⟩ := h
 refine ⟨A, n, c, h1, h2, h3, h4, fun h0 => ?_⟩
 obtain ⟨b, off, e, hK, hb, hc⟩ := h5 h0
 refine ⟨b, off, e, hK, hb, fun i a hi => ?_⟩
 obtain ⟨es, k1, k2⟩ := hc i a hi
 exact ⟨es, by rw [← hk]; exact k1, hm _ _ k2⟩
theorem GrowR.lower {base' : Nat} (h : GrowR t e w base B v l) (hb : base' ≤ base) : GrowR t e w base' B v l := by
 obtain ⟨css, k1, k2, k3⟩ := h
 exact ⟨css, ⟨k1.1, k1.2.imp id (fun ⟨g, cap, cur, e1, hg, r⟩ => ⟨g, cap, cur, e1, Nat.le_trans hb hg, r⟩)⟩, k2, k3⟩
theorem GrowR.putN (h : GrowR t e w base B v l) {p : Addr} (h1 : ∀ b, v.ownBlock = some b → b ≠ p.block) (h2 : B ≤ p.block) (u : Value) : GrowR t e (w.setCell p u) base B v l := by
 obtain ⟨css, k1, k2, k3⟩ := h
 refine ⟨css, k1.kept (row := some p.block) ⟨rfl, rfl, rfl, by simp [World.setCell], fun i hi hn => Below.heap_setCell w p u i (fun e => hn (by rw [e]))⟩ (.inr fun e => h1 _ e rfl), k2, fun i a es q1 q2 => t.keep (k3 i a es q1 q2) fun b hb => Below.heap_setCell w p u b (by omega)⟩
end
/-! ### pieces, messages, desks -/
section
variable {w : World} {K : KB} {B : Nat} {cs : List Value}
/-! ### what is read of blocks that K names -/
theorem xt_below {α : Type} {t : Ty α} {a : α} (h : t.R w B cs a) (hB : ∀ b, b < B → K.ok b) : (XT K t).R w B cs a := fun w' ha => t.keep h fun b hb => ha b (hB b hb) hb
theorem rx_below {α : Type} {t : Ty α} {l : List α} {A : Option Addr} {n c : Nat} (h : t.row.R w B [.slice A n c] l) (hB : ∀ b, b < B → K.ok b) : (RX K t).R w B [.slice A n c] l := by
 obtain ⟨A', n', c', h1, h2, h3, h4, h5⟩ := h
 injection h1 with h1 _
 injection h1 with e1 e2 e3
 subst e1 e2 e3
 refine ⟨A, n, c, rfl, h2, h3, h4, fun h0 => ?_⟩
 obtain ⟨b, off, e, hb, hc⟩ := h5 h0
 exact ⟨b, off, e, hB b hb, hb, hc⟩
end
end Go.Proofs.YtkdanlnhdgcplaaGreat
namespace Go.Proofs.YtkdanlnhdgcplaaGreat
open Fld

/-! ### routes, keys -/
def Node (n : Int) : Prop := 0 ≤ n ∧ n < 8
def Route (l : List Int) : Prop := (1 ≤ l.length ∧ l.length ≤ 4) ∧ (∀ x ∈ l, 0 ≤ x ∧ x < 8) ∧ ∀ i, i < l.length - 1 → l.getD i 0 ≠ l.getD (i + 1) 0
def Pubs (l : List Int) : Prop := l.length = 8 ∧ ∀ x ∈ l, 2 ≤ x ∧ x < 2147483646
def LaySec (x : Int) : Prop := (1 ≤ x ∧ x < 2147483646) ∧ (2 ≤ powP 7 x.toNat ∧ powP 7 x.toNat < 2147483646)
instance (x : Int) : Decidable (LaySec x) := by unfold LaySec; infer_instance
def Secs (l : List Int) : Prop := ∀ x ∈ l, LaySec x
instance (l : List Int) : Decidable (Route l) := by unfold Route; infer_instance
instance (l : List Int) : Decidable (Pubs l) := by unfold Pubs; infer_instance
instance (l : List Int) : Decidable (Secs l) := by unfold Secs; infer_instance
/-! ### sizes -/
/-! ### cells -/
/-! ### layers -/
def WrapOk (route pubs secrets : List Int) (due : Int) (load pad : List Int) : Prop :=
 Route route ∧ Pubs pubs ∧ secrets.length = route.length ∧ Secs secrets ∧ (0 ≤ due ∧ due ≤ 65535) ∧ load.length ≤ 24 ∧ 80 ≤ pad.length
instance (route pubs secrets : List Int) (due : Int) (load pad : List Int) : Decidable (WrapOk route pubs secrets due load pad) := by unfold WrapOk; infer_instance
/-! ### what is peeled -/
structure Pel where
 next : Int
 due : Int
 tag : Int
 load : List Int
 cell : List Int
def Pel.zero : Pel := ⟨0, 0, 0, [], []⟩
def peelS (s : Int) (c : List Int) : Int := powP (get4 c) s.toNat
def peelK (s : Int) (c : List Int) : Int := keyP (peelS s c) 5
def peelH (s : Int) (c : List Int) : List Int := xorl (keyP (peelK s c) 1) ((c.drop 8).take 4)
def peelN (s : Int) (c : List Int) : Nat := ((peelH s c).getD 3 0).toNat
def peelB (s : Int) (c : List Int) : List Int := (c.drop 4).take (8 + peelN s c)
def peelX (s : Int) (c : List Int) : List Int := openL (peelK s c) (peelB s c)
def LayOk (next : Int) (n : Nat) : Prop := (next = 255 ∧ n ≤ 24) ∨ (next < 8 ∧ 12 ≤ n)
instance (next : Int) (n : Nat) : Decidable (LayOk next n) := by unfold LayOk; infer_instance
def peels (s : Int) (c : List Int) : Prop := (2 ≤ get4 c ∧ get4 c < 2147483646) ∧ peelN s c ≤ 68 ∧ opens (peelK s c) (peelB s c) ∧ LayOk ((peelX s c).getD 0 0) (peelN s c)
instance (s : Int) (c : List Int) : Decidable (peels s c) := by unfold peels; infer_instance
def PeelOk (s : Int) (c pad : List Int) : Prop := ((1 ≤ s ∧ s < 2147483646) ∧ c.length = 80 ∧ 80 ≤ pad.length) ∧ peels s c
instance (s : Int) (c pad : List Int) : Decidable (PeelOk s c pad) := by unfold PeelOk; infer_instance
/-! ### what is wrapped is peeled -/
section
variable {s s' next due : Int} {inner tail : List Int}
end
end Go.Proofs.YtkdanlnhdgcplaaGreat
namespace Go.Proofs.YtkdanlnhdgcplaaGreat
set_option linter.unusedVariables false
open Fld
/-! ### Forget -/
/-! ### Expire -/
/-! ### Admit -/
def AdOk (p : DPool) (h : DHeld) (tag : Int) : Prop := PlOk p ∧ HdOk h ∧ Ok tag
instance (p : DPool) (h : DHeld) (tag : Int) : Decidable (AdOk p h tag) := by unfold AdOk; infer_instance
end Go.Proofs.YtkdanlnhdgcplaaGreat
namespace Go.Proofs.YtkdanlnhdgcplaaGreat
open Go.RowKit
theorem own_slice {K : IntKind} {e : TypeId} {w : World} {base : Nat} {v : Value} {l : List Int} (h : Own K e w base v l) : ∃ A c F, v = .slice A l.length c ∧ (tSl K).O w [.slice A l.length c] l F ∧ New base F := by
 obtain ⟨F, hF, hN⟩ := h.tSl
 obtain ⟨A, c, e1, _, _⟩ := slO_one hF
 injection e1 with e1 _
 subst e1
 exact ⟨A, c, F, rfl, hF, hN⟩
theorem nilO {K : IntKind} {w : World} : (tSl K).O w [.slice none 0 0] [] [] := .inl ⟨none, 0, rfl, by omega, rfl, rfl⟩
end Go.Proofs.YtkdanlnhdgcplaaGreat
namespace Go.Proofs.YtkdanlnhdgcplaaGreat
set_option maxRecDepth 100000
set_option linter.unusedVariables false
set_option linter.unusedSimpArgs false
open Go.ChangeShapes Go.WideShapes Go.ChangeAt Go.RowKit
def pcIn (l : List Int) : DPiece := (l.getD 0 0, l.getD 1 0, l.getD 2 0, l.drop 3)
def PrOk (l : List Int) : Prop := 3 ≤ l.length ∧ PcOk (pcIn l)
instance (l : List Int) : Decidable (PrOk l) := by unfold PrOk; infer_instance
end Go.Proofs.YtkdanlnhdgcplaaGreat
namespace Go.Proofs.YtkdanlnhdgcplaaGreat
set_option linter.unusedVariables false
open Go.RowKit
def Apart {α : Type} (f : α → Int) (r : List α) : Prop := ∀ (i j : Nat) (a b : α), i < j → r[i]? = some a → r[j]? = some b → f a ≠ f b
theorem Apart.take {α : Type} {f : α → Int} {r : List α} (h : Apart f r) {j : Nat} {a : α} (ha : r[j]? = some a) : ∀ b ∈ r.take j, f b ≠ f a := by
 intro b hb
 obtain ⟨i, hi, rfl⟩ := List.getElem_of_mem hb
 rw [List.length_take] at hi
 exact h i j _ _ (by omega) (by rw [List.getElem_take]; exact List.getElem?_eq_getElem (by omega)) ha
end Go.Proofs.YtkdanlnhdgcplaaGreat
namespace Go.Proofs.YtkdanlnhdgcplaaGreat
set_option linter.unusedVariables false
theorem asc_lt {l : List Int} (h : Asc l) : ∀ i j, i < j → j < l.length → l.getD i 0 < l.getD j 0 := by
 intro i j hij
 induction j with
 | zero => omega
 | succ j ih =>
  intro hj
  have h1 := h j hj
  rcases Nat.lt_succ_iff_lt_or_eq.1 hij with h' | rfl
  ·have := ih h' (by omega); omega
  ·exact h1
end Go.Proofs.YtkdanlnhdgcplaaGreat
namespace Go.Proofs.YtkdanlnhdgcplaaGreat
set_option linter.unusedVariables false
def HasIn (p : DDesk) (q : DPiece) : Prop := DkOk p ∧ PcOk q ∧ ∃ a ∈ p.1, q ∈ a.2.2.2
noncomputable instance (p : DDesk) (q : DPiece) : Decidable (HasIn p q) := Classical.propDecidable _
end Go.Proofs.YtkdanlnhdgcplaaGreat
