/-
  LNode, GrowM, PDeskI: texts joined.
-/
import Derived.Test.YtojbicecopkfbaaGreatFGg
import Derived.Test.YtojbicecopkfbaaGreatFGi
import Derived.Test.YtojbicecopkfbaaGreatFGj
import Derived.BigQuiet
import Derived.Deep.QuietTactic
import Derived.Deep.RegionHeld3
namespace Go.Proofs.YtojbicecopkfbaaGreat
set_option maxRecDepth 100000
set_option linter.unusedVariables false
set_option linter.unusedSimpArgs false
open Go.ChangeShapes Go.WideShapes Go.ChangeAt Go.RowKit
theorem o_szNode_t {w : World} {cs : List Value} {p : DNode} {k : Int} (h : tNode.R w w.heap.size cs p) (h1 : 0 ≤ k) (h2 : k ≤ 1048576) (h3 : (szNode p : Int) ≤ k) :
    Calls Tryz.prog 21 #[.agg cs.toArray, .int .i64 k] w fun e w' => e = .returned (.int .i64 (k - szNode p)) ∧ Below w.heap.size w w' := by
  obtain ⟨A2, n2, c2, A3, n3, c3, A4, n4, c4, A5, n5, c5, A6, n6, c6, rfl, hi0, hi1, ha2, hb2, hl2, hr2, ha3, hb3, hl3, hr3, ha4, hb4, hl4, hr4, ha5, hb5, hl5, hr5, ha6, hb6, hl6, hr6⟩ := openNode h
  obtain ⟨x0, x1, ⟨r2, l3⟩, ⟨r4, l5⟩, r6⟩ := p
  try dsimp only [szNode] at *
  subst hl2
  subst hl3
  subst hl4
  subst hl5
  subst hl6
  have d0 : decide (k - ((szPool (r2, l3) : Nat) : Int) < 0) = false := by simp; omega
  have d1 : decide (k - ((szPool (r2, l3) : Nat) : Int) - ((szDesk (r4, l5) : Nat) : Int) < 0) = false := by simp; omega
  have d2 : decide (k - ((szPool (r2, l3) : Nat) : Int) - ((szDesk (r4, l5) : Nat) : Int) - ((rsz szLetter r6 : Nat) : Int) < 0) = false := by simp; omega
  go_enter Tryz.func21, Tryz.ntmps21
  go_wp2_with fail
  refine (o_szPool_t (tPool.reach (makePool (p := (r2, l3)) hr2 hr3) ?hB) (by omega) (by omega) (by omega)).mono ?_
  case hB => exact (belx)
  rintro e w1 ⟨rfl, hb1⟩
  have hB1 : Below w.heap.size w w1 := bel_trans (belx) hb1
  have P1 : Box w1 w.heap.size 51 #[.int .i64 x0, .int .i64 x1, .slice A2 r2.length c2, .slice A3 l3.length c3, .slice A4 r4.length c4, .slice A5 l5.length c5, .slice A6 r6.length c6] := (Box.new _ _ _).below hb1 (by first | (simp; done) | (simp; omega))
  have e0_4 := P1.cell 4
  have e0_5 := P1.cell 5
  go_wp2_with fail
  refine (o_szDesk_t (tDesk.reach (makeDesk (p := (r4, l5)) hr4 hr5) ?hB) (by omega) (by omega) (by omega)).mono ?_
  case hB => exact (belx)
  rintro e w2 ⟨rfl, hb2⟩
  have hB2 : Below w.heap.size w w2 := bel_trans (belx) hb2
  have P2 := P1.below hb2 P1.size
  have e1_6 := P2.cell 6
  go_wp2_with fail
  refine (o_szLetterS_t (tLetter.row.reach hr6 ?hB) (by omega) (by omega) (by omega)).mono ?_
  case hB => exact (belx)
  rintro e w3 ⟨rfl, hb3⟩
  have hB3 : Below w.heap.size w w3 := bel_trans (belx) hb3
  have P3 := P2.below hb3 P2.size
  go_wp2
  go_ret
  exact ⟨ret_int (by omega), hB3⟩
theorem o_szNode_f {w : World} {cs : List Value} {p : DNode} {k : Int} (h : tNode.R w w.heap.size cs p) (h1 : 0 ≤ k) (h2 : k ≤ 1048576) (h3 : ¬ (szNode p : Int) ≤ k) :
    Calls Tryz.prog 21 #[.agg cs.toArray, .int .i64 k] w fun e w' => e = .returned (.int .i64 (-1)) ∧ Below w.heap.size w w' := by
  obtain ⟨A2, n2, c2, A3, n3, c3, A4, n4, c4, A5, n5, c5, A6, n6, c6, rfl, hi0, hi1, ha2, hb2, hl2, hr2, ha3, hb3, hl3, hr3, ha4, hb4, hl4, hr4, ha5, hb5, hl5, hr5, ha6, hb6, hl6, hr6⟩ := openNode h
  obtain ⟨x0, x1, ⟨r2, l3⟩, ⟨r4, l5⟩, r6⟩ := p
  try dsimp only [szNode] at *
  subst hl2
  subst hl3
  subst hl4
  subst hl5
  subst hl6
  by_cases g0 : (((szPool (r2, l3)) : Nat) : Int) ≤ k
  rotate_left
  · go_enter Tryz.func21, Tryz.ntmps21
    go_wp2_with fail
    refine (o_szPool_f (tPool.reach (makePool (p := (r2, l3)) hr2 hr3) ?hB) (by omega) (by omega) (by omega)).mono ?_
    case hB => exact (belx)
    rintro e w1 ⟨rfl, hb1⟩
    have hB1 : Below w.heap.size w w1 := bel_trans (belx) hb1
    have P1 : Box w1 w.heap.size 51 #[.int .i64 x0, .int .i64 x1, .slice A2 r2.length c2, .slice A3 l3.length c3, .slice A4 r4.length c4, .slice A5 l5.length c5, .slice A6 r6.length c6] := (Box.new _ _ _).below hb1 (by first | (simp; done) | (simp; omega))
    go_wp2
    go_ret
    exact ⟨rfl, hB1⟩
  by_cases g1 : (((szPool (r2, l3) + szDesk (r4, l5)) : Nat) : Int) ≤ k
  rotate_left
  · have d0 : decide (k - ((szPool (r2, l3) : Nat) : Int) < 0) = false := by simp; omega
    go_enter Tryz.func21, Tryz.ntmps21
    go_wp2_with fail
    refine (o_szPool_t (tPool.reach (makePool (p := (r2, l3)) hr2 hr3) ?hB) (by omega) (by omega) (by omega)).mono ?_
    case hB => exact (belx)
    rintro e w1 ⟨rfl, hb1⟩
    have hB1 : Below w.heap.size w w1 := bel_trans (belx) hb1
    have P1 : Box w1 w.heap.size 51 #[.int .i64 x0, .int .i64 x1, .slice A2 r2.length c2, .slice A3 l3.length c3, .slice A4 r4.length c4, .slice A5 l5.length c5, .slice A6 r6.length c6] := (Box.new _ _ _).below hb1 (by first | (simp; done) | (simp; omega))
    have e0_4 := P1.cell 4
    have e0_5 := P1.cell 5
    go_wp2_with fail
    refine (o_szDesk_f (tDesk.reach (makeDesk (p := (r4, l5)) hr4 hr5) ?hB) (by omega) (by omega) (by omega)).mono ?_
    case hB => exact (belx)
    rintro e w2 ⟨rfl, hb2⟩
    have hB2 : Below w.heap.size w w2 := bel_trans (belx) hb2
    have P2 := P1.below hb2 P1.size
    go_wp2
    go_ret
    exact ⟨rfl, hB2⟩
  have d0 : decide (k - ((szPool (r2, l3) : Nat) : Int) < 0) = false := by simp; omega
  have d1 : decide (k - ((szPool (r2, l3) : Nat) : Int) - ((szDesk (r4, l5) : Nat) : Int) < 0) = false := by simp; omega
  go_enter Tryz.func21, Tryz.ntmps21
  go_wp2_with fail
  refine (o_szPool_t (tPool.reach (makePool (p := (r2, l3)) hr2 hr3) ?hB) (by omega) (by omega) (by omega)).mono ?_
  case hB => exact (belx)
  rintro e w1 ⟨rfl, hb1⟩
  have hB1 : Below w.heap.size w w1 := bel_trans (belx) hb1
  have P1 : Box w1 w.heap.size 51 #[.int .i64 x0, .int .i64 x1, .slice A2 r2.length c2, .slice A3 l3.length c3, .slice A4 r4.length c4, .slice A5 l5.length c5, .slice A6 r6.length c6] := (Box.new _ _ _).below hb1 (by first | (simp; done) | (simp; omega))
  have e0_4 := P1.cell 4
  have e0_5 := P1.cell 5
  go_wp2_with fail
  refine (o_szDesk_t (tDesk.reach (makeDesk (p := (r4, l5)) hr4 hr5) ?hB) (by omega) (by omega) (by omega)).mono ?_
  case hB => exact (belx)
  rintro e w2 ⟨rfl, hb2⟩
  have hB2 : Below w.heap.size w w2 := bel_trans (belx) hb2
  have P2 := P1.below hb2 P1.size
  have e1_6 := P2.cell 6
  go_wp2_with fail
  refine (o_szLetterS_f (tLetter.row.reach hr6 ?hB) (by omega) (by omega) (by omega)).mono ?_
  case hB => exact (belx)
  rintro e w3 ⟨rfl, hb3⟩
  have hB3 : Below w.heap.size w w3 := bel_trans (belx) hb3
  have P3 := P2.below hb3 P2.size
  go_wp2
  go_ret
  exact ⟨rfl, hB3⟩
set_option maxHeartbeats 400000 in
theorem o_toNode {w : World} {cs : List Value} {p : DNode} (h : tNode.R w w.heap.size cs p) (hn : szNode p ≤ 1048576) :
    Calls Tryz.prog 23 #[.agg cs.toArray] w fun e w' => ∃ cs' F, e = .returned (.agg cs'.toArray) ∧ tNode.O w' cs' p F ∧ New w.heap.size F ∧ Below w.heap.size w w' := by
  obtain ⟨A2, n2, c2, A3, n3, c3, A4, n4, c4, A5, n5, c5, A6, n6, c6, rfl, hi0, hi1, ha2, hb2, hl2, hr2, ha3, hb3, hl3, hr3, ha4, hb4, hl4, hr4, ha5, hb5, hl5, hr5, ha6, hb6, hl6, hr6⟩ := openNode h
  obtain ⟨x0, x1, ⟨r2, l3⟩, ⟨r4, l5⟩, r6⟩ := p
  try dsimp only [szNode] at *
  subst hl2
  subst hl3
  subst hl4
  subst hl5
  subst hl6
  go_enter Tryz.func23, Tryz.ntmps23
  go_wp2_with fail
  refine (o_toPool (tPool.reach (makePool (p := (r2, l3)) hr2 hr3) ?hB) (by omega)).mono ?_
  case hB => exact (belx)
  rintro e w1 ⟨cs1, G1, rfl, hO1, hN1, hb1⟩
  obtain ⟨B2, d2, F2, B3, d3, F3, rfl, hGe1, _, _, o2, _, _, o3⟩ := openOPool hO1
  try dsimp only at *
  subst G1
  have z1 : w.heap.size + 3 ≤ w1.heap.size := by have := hb1.size; simpa using this
  have hB1 : Below w.heap.size w w1 := bel_trans (belx) hb1
  have R1 : Box w1 (w.heap.size + 1) 58 #[.int .i64 0, .int .i64 0, .slice none 0 0, .slice none 0 0, .slice none 0 0, .slice none 0 0, .slice none 0 0] := Box.below (Box.alloc (by simpa using Box.new (w.alloc _) 58 #[.int .i64 0, .int .i64 0, .slice none 0 0, .slice none 0 0, .slice none 0 0, .slice none 0 0, .slice none 0 0]) _) hb1 (by first | (simp; done) | (simp; omega))
  have L1 : Box w1 (w.heap.size + 1 + 1) 58 #[.int .i64 x0, .int .i64 x1, .slice none 0 0, .slice none 0 0, .slice none 0 0, .slice none 0 0, .slice none 0 0] := Box.below (by simpa using Box.new ((w.alloc _).alloc _) 58 #[.int .i64 x0, .int .i64 x1, .slice none 0 0, .slice none 0 0, .slice none 0 0, .slice none 0 0, .slice none 0 0]) hb1 (by first | (simp; done) | (simp; omega))
  have P1 : Box w1 w.heap.size 51 #[.int .i64 x0, .int .i64 x1, .slice A2 r2.length c2, .slice A3 l3.length c3, .slice A4 r4.length c4, .slice A5 l5.length c5, .slice A6 r6.length c6] := Box.below (((Box.new w 51 #[.int .i64 x0, .int .i64 x1, .slice A2 r2.length c2, .slice A3 l3.length c3, .slice A4 r4.length c4, .slice A5 l5.length c5, .slice A6 r6.length c6]).alloc _).alloc _) hb1 (by first | (simp; done) | (simp; omega))
  have hM1 : New (w.heap.size + 3) (F2 ++ F3) := hN1.lower (by simp)
  clear hN1
  have hM1_2 : New (w.heap.size + 3) F2 := New.sub hM1 (by intro f hf; simp [hf]) (by have := hM1.1; simp only [List.nodup_append] at this; simp [this])
  have hM1_3 : New (w.heap.size + 3) F3 := New.sub hM1 (by intro f hf; simp [hf]) (by have := hM1.1; simp only [List.nodup_append] at this; simp [this])
  have y1 : ∀ f ∈ F2 ++ F3, f < w1.heap.size := by intro f hf; (try simp only [List.mem_append] at hf); rcases hf with hf | hf <;> first | exact (tHeld.row).lt o2 f hf | exact (tIs).lt o3 f hf
  have kr1_0 := R1.cell 0; have fr1_0 := R1.frozen 0; have kl1_0 := L1.cell 0; have fl1_0 := L1.frozen 0; have kp1_0 := P1.cell 0
  have kr1_1 := R1.cell 1; have fr1_1 := R1.frozen 1; have kl1_1 := L1.cell 1; have fl1_1 := L1.frozen 1; have kp1_1 := P1.cell 1
  have kr1_2 := R1.cell 2; have fr1_2 := R1.frozen 2; have kl1_2 := L1.cell 2; have fl1_2 := L1.frozen 2; have kp1_2 := P1.cell 2
  have kr1_3 := R1.cell 3; have fr1_3 := R1.frozen 3; have kl1_3 := L1.cell 3; have fl1_3 := L1.frozen 3; have kp1_3 := P1.cell 3
  have kr1_4 := R1.cell 4; have fr1_4 := R1.frozen 4; have kl1_4 := L1.cell 4; have fl1_4 := L1.frozen 4; have kp1_4 := P1.cell 4
  have kr1_5 := R1.cell 5; have fr1_5 := R1.frozen 5; have kl1_5 := L1.cell 5; have fl1_5 := L1.frozen 5; have kp1_5 := P1.cell 5
  have kr1_6 := R1.cell 6; have fr1_6 := R1.frozen 6; have kl1_6 := L1.cell 6; have fl1_6 := L1.frozen 6; have kp1_6 := P1.cell 6
  go_wp2_with fail
  refine (o_toDesk (tDesk.reach (makeDesk (p := (r4, l5)) hr4 hr5) ?hB) (by omega)).mono ?_
  case hB => exact (belx)
  rintro e w2 ⟨cs2, G2, rfl, hO2, hN2, hb2⟩
  obtain ⟨B4, d4, F4, B5, d5, F5, rfl, hGe2, _, _, o4, _, _, o5⟩ := openODesk hO2
  try dsimp only at *
  subst G2
  have z2 : w.heap.size + 3 ≤ w2.heap.size := Nat.le_trans z1 (by have := hb2.size; simpa using this)
  have hB2 : Below w.heap.size w w2 := bel_trans (belx) hb2
  have R2 : Box w2 (w.heap.size + 1) 58 #[.int .i64 0, .int .i64 0, .slice none 0 0, .slice none 0 0, .slice none 0 0, .slice none 0 0, .slice none 0 0] := Box.below ((R1.far (p := ⟨w.heap.size + 1 + 1, 2, none⟩) (by first | (simp; done) | (simp; omega)) (.slice B2 r2.length d2)).far (p := ⟨w.heap.size + 1 + 1, 3, none⟩) (by first | (simp; done) | (simp; omega)) (.slice B3 l3.length d3)) hb2 (by first | (simp; done) | (simp; omega))
  have L2 : Box w2 (w.heap.size + 1 + 1) 58 #[.int .i64 x0, .int .i64 x1, .slice B2 r2.length d2, .slice B3 l3.length d3, .slice none 0 0, .slice none 0 0, .slice none 0 0] := Box.below (by simpa using ((L1.put 2 (.slice B2 r2.length d2)).put 3 (.slice B3 l3.length d3))) hb2 (by first | (simp; done) | (simp; omega))
  have P2 : Box w2 w.heap.size 51 #[.int .i64 x0, .int .i64 x1, .slice A2 r2.length c2, .slice A3 l3.length c3, .slice A4 r4.length c4, .slice A5 l5.length c5, .slice A6 r6.length c6] := Box.below ((P1.far (p := ⟨w.heap.size + 1 + 1, 2, none⟩) (by first | (simp; done) | (simp; omega)) (.slice B2 r2.length d2)).far (p := ⟨w.heap.size + 1 + 1, 3, none⟩) (by first | (simp; done) | (simp; omega)) (.slice B3 l3.length d3)) hb2 (by first | (simp; done) | (simp; omega))
  replace o2 := Ty.below (t := tHeld.row) (Ty.far (t := tHeld.row) (Ty.far (t := tHeld.row) o2 hM1_2 (p := ⟨w.heap.size + 1 + 1, 2, none⟩) (by first | (simp; done) | (simp; omega)) (.slice B2 r2.length d2)) hM1_2 (p := ⟨w.heap.size + 1 + 1, 3, none⟩) (by first | (simp; done) | (simp; omega)) (.slice B3 l3.length d3)) hb2
  replace o3 := Ty.below (t := tIs) (Ty.far (t := tIs) (Ty.far (t := tIs) o3 hM1_3 (p := ⟨w.heap.size + 1 + 1, 2, none⟩) (by first | (simp; done) | (simp; omega)) (.slice B2 r2.length d2)) hM1_3 (p := ⟨w.heap.size + 1 + 1, 3, none⟩) (by first | (simp; done) | (simp; omega)) (.slice B3 l3.length d3)) hb2
  have hM2 : New (w.heap.size + 3) (F4 ++ F5) := hN2.lower (by simp; omega)
  have hV2 : New w1.heap.size (F4 ++ F5) := hN2.lower (by first | (simp; done) | (simp; omega))
  have zz2 : w1.heap.size ≤ w2.heap.size := by have := hb2.size; simpa using this
  clear hN2
  have hM2_4 : New (w.heap.size + 3) F4 := New.sub hM2 (by intro f hf; simp [hf]) (by have := hM2.1; simp only [List.nodup_append] at this; simp [this])
  have hM2_5 : New (w.heap.size + 3) F5 := New.sub hM2 (by intro f hf; simp [hf]) (by have := hM2.1; simp only [List.nodup_append] at this; simp [this])
  have y2 : ∀ f ∈ F4 ++ F5, f < w2.heap.size := by intro f hf; (try simp only [List.mem_append] at hf); rcases hf with hf | hf <;> first | exact (tWhole.row).lt o4 f hf | exact (tIs).lt o5 f hf
  have kr2_0 := R2.cell 0; have fr2_0 := R2.frozen 0; have kl2_0 := L2.cell 0; have fl2_0 := L2.frozen 0; have kp2_0 := P2.cell 0
  have kr2_1 := R2.cell 1; have fr2_1 := R2.frozen 1; have kl2_1 := L2.cell 1; have fl2_1 := L2.frozen 1; have kp2_1 := P2.cell 1
  have kr2_2 := R2.cell 2; have fr2_2 := R2.frozen 2; have kl2_2 := L2.cell 2; have fl2_2 := L2.frozen 2; have kp2_2 := P2.cell 2
  have kr2_3 := R2.cell 3; have fr2_3 := R2.frozen 3; have kl2_3 := L2.cell 3; have fl2_3 := L2.frozen 3; have kp2_3 := P2.cell 3
  have kr2_4 := R2.cell 4; have fr2_4 := R2.frozen 4; have kl2_4 := L2.cell 4; have fl2_4 := L2.frozen 4; have kp2_4 := P2.cell 4
  have kr2_5 := R2.cell 5; have fr2_5 := R2.frozen 5; have kl2_5 := L2.cell 5; have fl2_5 := L2.frozen 5; have kp2_5 := P2.cell 5
  have kr2_6 := R2.cell 6; have fr2_6 := R2.frozen 6; have kl2_6 := L2.cell 6; have fl2_6 := L2.frozen 6; have kp2_6 := P2.cell 6
  go_wp2_with fail
  refine (o_toLetterS (tLetter.row.reach hr6 ?hB) (by omega)).mono ?_
  case hB => exact (belx)
  rintro e w3 ⟨B6, d6, F6, rfl, o6, hN3, hb3⟩
  have z3 : w.heap.size + 3 ≤ w3.heap.size := Nat.le_trans z2 (by have := hb3.size; simpa using this)
  have hB3 : Below w.heap.size w w3 := bel_trans (belx) hb3
  have R3 : Box w3 (w.heap.size + 1) 58 #[.int .i64 0, .int .i64 0, .slice none 0 0, .slice none 0 0, .slice none 0 0, .slice none 0 0, .slice none 0 0] := Box.below ((R2.far (p := ⟨w.heap.size + 1 + 1, 4, none⟩) (by first | (simp; done) | (simp; omega)) (.slice B4 r4.length d4)).far (p := ⟨w.heap.size + 1 + 1, 5, none⟩) (by first | (simp; done) | (simp; omega)) (.slice B5 l5.length d5)) hb3 (by first | (simp; done) | (simp; omega))
  have L3 : Box w3 (w.heap.size + 1 + 1) 58 #[.int .i64 x0, .int .i64 x1, .slice B2 r2.length d2, .slice B3 l3.length d3, .slice B4 r4.length d4, .slice B5 l5.length d5, .slice none 0 0] := Box.below (by simpa using ((L2.put 4 (.slice B4 r4.length d4)).put 5 (.slice B5 l5.length d5))) hb3 (by first | (simp; done) | (simp; omega))
  have P3 : Box w3 w.heap.size 51 #[.int .i64 x0, .int .i64 x1, .slice A2 r2.length c2, .slice A3 l3.length c3, .slice A4 r4.length c4, .slice A5 l5.length c5, .slice A6 r6.length c6] := Box.below ((P2.far (p := ⟨w.heap.size + 1 + 1, 4, none⟩) (by first | (simp; done) | (simp; omega)) (.slice B4 r4.length d4)).far (p := ⟨w.heap.size + 1 + 1, 5, none⟩) (by first | (simp; done) | (simp; omega)) (.slice B5 l5.length d5)) hb3 (by first | (simp; done) | (simp; omega))
  replace o2 := Ty.below (t := tHeld.row) (Ty.far (t := tHeld.row) (Ty.far (t := tHeld.row) o2 hM1_2 (p := ⟨w.heap.size + 1 + 1, 4, none⟩) (by first | (simp; done) | (simp; omega)) (.slice B4 r4.length d4)) hM1_2 (p := ⟨w.heap.size + 1 + 1, 5, none⟩) (by first | (simp; done) | (simp; omega)) (.slice B5 l5.length d5)) hb3
  replace o3 := Ty.below (t := tIs) (Ty.far (t := tIs) (Ty.far (t := tIs) o3 hM1_3 (p := ⟨w.heap.size + 1 + 1, 4, none⟩) (by first | (simp; done) | (simp; omega)) (.slice B4 r4.length d4)) hM1_3 (p := ⟨w.heap.size + 1 + 1, 5, none⟩) (by first | (simp; done) | (simp; omega)) (.slice B5 l5.length d5)) hb3
  replace o4 := Ty.below (t := tWhole.row) (Ty.far (t := tWhole.row) (Ty.far (t := tWhole.row) o4 hM2_4 (p := ⟨w.heap.size + 1 + 1, 4, none⟩) (by first | (simp; done) | (simp; omega)) (.slice B4 r4.length d4)) hM2_4 (p := ⟨w.heap.size + 1 + 1, 5, none⟩) (by first | (simp; done) | (simp; omega)) (.slice B5 l5.length d5)) hb3
  replace o5 := Ty.below (t := tIs) (Ty.far (t := tIs) (Ty.far (t := tIs) o5 hM2_5 (p := ⟨w.heap.size + 1 + 1, 4, none⟩) (by first | (simp; done) | (simp; omega)) (.slice B4 r4.length d4)) hM2_5 (p := ⟨w.heap.size + 1 + 1, 5, none⟩) (by first | (simp; done) | (simp; omega)) (.slice B5 l5.length d5)) hb3
  have hM3 : New (w.heap.size + 3) (F6) := hN3.lower (by simp; omega)
  have hV3 : New w2.heap.size (F6) := hN3.lower (by first | (simp; done) | (simp; omega))
  have zz3 : w2.heap.size ≤ w3.heap.size := by have := hb3.size; simpa using this
  clear hN3
  have y3 : ∀ f ∈ F6, f < w3.heap.size := by intro f hf; exact tLetter.row.lt o6 f hf
  have kr3_0 := R3.cell 0; have fr3_0 := R3.frozen 0; have kl3_0 := L3.cell 0; have fl3_0 := L3.frozen 0; have kp3_0 := P3.cell 0
  have kr3_1 := R3.cell 1; have fr3_1 := R3.frozen 1; have kl3_1 := L3.cell 1; have fl3_1 := L3.frozen 1; have kp3_1 := P3.cell 1
  have kr3_2 := R3.cell 2; have fr3_2 := R3.frozen 2; have kl3_2 := L3.cell 2; have fl3_2 := L3.frozen 2; have kp3_2 := P3.cell 2
  have kr3_3 := R3.cell 3; have fr3_3 := R3.frozen 3; have kl3_3 := L3.cell 3; have fl3_3 := L3.frozen 3; have kp3_3 := P3.cell 3
  have kr3_4 := R3.cell 4; have fr3_4 := R3.frozen 4; have kl3_4 := L3.cell 4; have fl3_4 := L3.frozen 4; have kp3_4 := P3.cell 4
  have kr3_5 := R3.cell 5; have fr3_5 := R3.frozen 5; have kl3_5 := L3.cell 5; have fl3_5 := L3.frozen 5; have kp3_5 := P3.cell 5
  have kr3_6 := R3.cell 6; have fr3_6 := R3.frozen 6; have kl3_6 := L3.cell 6; have fl3_6 := L3.frozen 6; have kp3_6 := P3.cell 6
  go_wp2
  have RR := ((((((((R3.far (p := ⟨w.heap.size + 1 + 1, 6, none⟩) (by first | (simp; done) | (simp; omega)) (.slice B6 r6.length d6)).put 0 (.int .i64 x0)).put 1 (.int .i64 x1)).put 2 (.slice B2 r2.length d2)).put 3 (.slice B3 l3.length d3)).put 4 (.slice B4 r4.length d4)).put 5 (.slice B5 l5.length d5)).put 6 (.slice B6 r6.length d6))
  have e0 := RR.cell 0
  have e1 := RR.cell 1
  have e2 := RR.cell 2
  have e3 := RR.cell 3
  have e4 := RR.cell 4
  have e5 := RR.cell 5
  have e6 := RR.cell 6
  have u2 := (Ty.far (t := tHeld.row) (Ty.far (t := tHeld.row) (Ty.far (t := tHeld.row) (Ty.far (t := tHeld.row) (Ty.far (t := tHeld.row) (Ty.far (t := tHeld.row) (Ty.far (t := tHeld.row) (Ty.far (t := tHeld.row) o2 hM1_2 (p := ⟨w.heap.size + 1 + 1, 6, none⟩) (by first | (simp; done) | (simp; omega)) (.slice B6 r6.length d6)) hM1_2 (p := ⟨w.heap.size + 1, 0, none⟩) (by first | (simp; done) | (simp; omega)) (.int .i64 x0)) hM1_2 (p := ⟨w.heap.size + 1, 1, none⟩) (by first | (simp; done) | (simp; omega)) (.int .i64 x1)) hM1_2 (p := ⟨w.heap.size + 1, 2, none⟩) (by first | (simp; done) | (simp; omega)) (.slice B2 r2.length d2)) hM1_2 (p := ⟨w.heap.size + 1, 3, none⟩) (by first | (simp; done) | (simp; omega)) (.slice B3 l3.length d3)) hM1_2 (p := ⟨w.heap.size + 1, 4, none⟩) (by first | (simp; done) | (simp; omega)) (.slice B4 r4.length d4)) hM1_2 (p := ⟨w.heap.size + 1, 5, none⟩) (by first | (simp; done) | (simp; omega)) (.slice B5 l5.length d5)) hM1_2 (p := ⟨w.heap.size + 1, 6, none⟩) (by first | (simp; done) | (simp; omega)) (.slice B6 r6.length d6))
  have u3 := (Ty.far (t := tIs) (Ty.far (t := tIs) (Ty.far (t := tIs) (Ty.far (t := tIs) (Ty.far (t := tIs) (Ty.far (t := tIs) (Ty.far (t := tIs) (Ty.far (t := tIs) o3 hM1_3 (p := ⟨w.heap.size + 1 + 1, 6, none⟩) (by first | (simp; done) | (simp; omega)) (.slice B6 r6.length d6)) hM1_3 (p := ⟨w.heap.size + 1, 0, none⟩) (by first | (simp; done) | (simp; omega)) (.int .i64 x0)) hM1_3 (p := ⟨w.heap.size + 1, 1, none⟩) (by first | (simp; done) | (simp; omega)) (.int .i64 x1)) hM1_3 (p := ⟨w.heap.size + 1, 2, none⟩) (by first | (simp; done) | (simp; omega)) (.slice B2 r2.length d2)) hM1_3 (p := ⟨w.heap.size + 1, 3, none⟩) (by first | (simp; done) | (simp; omega)) (.slice B3 l3.length d3)) hM1_3 (p := ⟨w.heap.size + 1, 4, none⟩) (by first | (simp; done) | (simp; omega)) (.slice B4 r4.length d4)) hM1_3 (p := ⟨w.heap.size + 1, 5, none⟩) (by first | (simp; done) | (simp; omega)) (.slice B5 l5.length d5)) hM1_3 (p := ⟨w.heap.size + 1, 6, none⟩) (by first | (simp; done) | (simp; omega)) (.slice B6 r6.length d6))
  have u4 := (Ty.far (t := tWhole.row) (Ty.far (t := tWhole.row) (Ty.far (t := tWhole.row) (Ty.far (t := tWhole.row) (Ty.far (t := tWhole.row) (Ty.far (t := tWhole.row) (Ty.far (t := tWhole.row) (Ty.far (t := tWhole.row) o4 hM2_4 (p := ⟨w.heap.size + 1 + 1, 6, none⟩) (by first | (simp; done) | (simp; omega)) (.slice B6 r6.length d6)) hM2_4 (p := ⟨w.heap.size + 1, 0, none⟩) (by first | (simp; done) | (simp; omega)) (.int .i64 x0)) hM2_4 (p := ⟨w.heap.size + 1, 1, none⟩) (by first | (simp; done) | (simp; omega)) (.int .i64 x1)) hM2_4 (p := ⟨w.heap.size + 1, 2, none⟩) (by first | (simp; done) | (simp; omega)) (.slice B2 r2.length d2)) hM2_4 (p := ⟨w.heap.size + 1, 3, none⟩) (by first | (simp; done) | (simp; omega)) (.slice B3 l3.length d3)) hM2_4 (p := ⟨w.heap.size + 1, 4, none⟩) (by first | (simp; done) | (simp; omega)) (.slice B4 r4.length d4)) hM2_4 (p := ⟨w.heap.size + 1, 5, none⟩) (by first | (simp; done) | (simp; omega)) (.slice B5 l5.length d5)) hM2_4 (p := ⟨w.heap.size + 1, 6, none⟩) (by first | (simp; done) | (simp; omega)) (.slice B6 r6.length d6))
  have u5 := (Ty.far (t := tIs) (Ty.far (t := tIs) (Ty.far (t := tIs) (Ty.far (t := tIs) (Ty.far (t := tIs) (Ty.far (t := tIs) (Ty.far (t := tIs) (Ty.far (t := tIs) o5 hM2_5 (p := ⟨w.heap.size + 1 + 1, 6, none⟩) (by first | (simp; done) | (simp; omega)) (.slice B6 r6.length d6)) hM2_5 (p := ⟨w.heap.size + 1, 0, none⟩) (by first | (simp; done) | (simp; omega)) (.int .i64 x0)) hM2_5 (p := ⟨w.heap.size + 1, 1, none⟩) (by first | (simp; done) | (simp; omega)) (.int .i64 x1)) hM2_5 (p := ⟨w.heap.size + 1, 2, none⟩) (by first | (simp; done) | (simp; omega)) (.slice B2 r2.length d2)) hM2_5 (p := ⟨w.heap.size + 1, 3, none⟩) (by first | (simp; done) | (simp; omega)) (.slice B3 l3.length d3)) hM2_5 (p := ⟨w.heap.size + 1, 4, none⟩) (by first | (simp; done) | (simp; omega)) (.slice B4 r4.length d4)) hM2_5 (p := ⟨w.heap.size + 1, 5, none⟩) (by first | (simp; done) | (simp; omega)) (.slice B5 l5.length d5)) hM2_5 (p := ⟨w.heap.size + 1, 6, none⟩) (by first | (simp; done) | (simp; omega)) (.slice B6 r6.length d6))
  have u6 := (Ty.far (t := tLetter.row) (Ty.far (t := tLetter.row) (Ty.far (t := tLetter.row) (Ty.far (t := tLetter.row) (Ty.far (t := tLetter.row) (Ty.far (t := tLetter.row) (Ty.far (t := tLetter.row) (Ty.far (t := tLetter.row) o6 hM3 (p := ⟨w.heap.size + 1 + 1, 6, none⟩) (by first | (simp; done) | (simp; omega)) (.slice B6 r6.length d6)) hM3 (p := ⟨w.heap.size + 1, 0, none⟩) (by first | (simp; done) | (simp; omega)) (.int .i64 x0)) hM3 (p := ⟨w.heap.size + 1, 1, none⟩) (by first | (simp; done) | (simp; omega)) (.int .i64 x1)) hM3 (p := ⟨w.heap.size + 1, 2, none⟩) (by first | (simp; done) | (simp; omega)) (.slice B2 r2.length d2)) hM3 (p := ⟨w.heap.size + 1, 3, none⟩) (by first | (simp; done) | (simp; omega)) (.slice B3 l3.length d3)) hM3 (p := ⟨w.heap.size + 1, 4, none⟩) (by first | (simp; done) | (simp; omega)) (.slice B4 r4.length d4)) hM3 (p := ⟨w.heap.size + 1, 5, none⟩) (by first | (simp; done) | (simp; omega)) (.slice B5 l5.length d5)) hM3 (p := ⟨w.heap.size + 1, 6, none⟩) (by first | (simp; done) | (simp; omega)) (.slice B6 r6.length d6))
  obtain ⟨F, hF, hFe⟩ := makeONode (p := (x0, x1, (r2, l3), (r4, l5), r6)) hi0 hi1 u2 u3 u4 u5 u6
  refine bodyPost_ret (v := .agg #[.int .i64 x0, .int .i64 x1, .slice B2 r2.length d2, .slice B3 l3.length d3, .slice B4 r4.length d4, .slice B5 l5.length d5, .slice B6 r6.length d6]) (by simp [results, Tryz.results23, go_sem, e0, e1, e2, e3, e4, e5, e6]) rfl ⟨_, F, rfl, hF, ?_, ?_⟩
  · rw [hFe]
    exact New.lower (B := w.heap.size + 3) (by have hh := (New.app (New.app hM1 hV2 (by omega) y1) hV3 (by omega) (fun f hf => by rcases List.mem_append.1 hf with h | h; have := y1 f h; omega; exact y2 f h)); simp only [List.append_assoc] at hh ⊢; exact hh) (by omega)
  · exact (bel_put (bel_put (bel_put (bel_put (bel_put (bel_put (bel_put (bel_put hB3 (by first | (simp; done) | (simp; omega)) _) (by first | (simp; done) | (simp; omega)) _) (by first | (simp; done) | (simp; omega)) _) (by first | (simp; done) | (simp; omega)) _) (by first | (simp; done) | (simp; omega)) _) (by first | (simp; done) | (simp; omega)) _) (by first | (simp; done) | (simp; omega)) _) (by first | (simp; done) | (simp; omega)) _)
theorem o_eqNode {w : World} {cs cs' : List Value} {p : DNode} (h : tNode.R w w.heap.size cs p) (h' : tNode.R w w.heap.size cs' p) :
    Calls Tryz.prog 25 #[.agg cs.toArray, .agg cs'.toArray] w fun e w' => e = .returned (.bool true) ∧ Below w.heap.size w w' := by
  obtain ⟨A2, n2, c2, A3, n3, c3, A4, n4, c4, A5, n5, c5, A6, n6, c6, rfl, hi0, hi1, ha2, hb2, hl2, hr2, ha3, hb3, hl3, hr3, ha4, hb4, hl4, hr4, ha5, hb5, hl5, hr5, ha6, hb6, hl6, hr6⟩ := openNode h
  obtain ⟨A2', n2', c2', A3', n3', c3', A4', n4', c4', A5', n5', c5', A6', n6', c6', rfl, hi0', hi1', ha2', hb2', hl2', hr2', ha3', hb3', hl3', hr3', ha4', hb4', hl4', hr4', ha5', hb5', hl5', hr5', ha6', hb6', hl6', hr6'⟩ := openNode h'
  obtain ⟨x0, x1, ⟨r2, l3⟩, ⟨r4, l5⟩, r6⟩ := p
  try dsimp only at *
  subst hl2
  subst hl2'
  subst hl3
  subst hl3'
  subst hl4
  subst hl4'
  subst hl5
  subst hl5'
  subst hl6
  subst hl6'
  have q0 : (x0 != x0) = false := by simp
  have q1 : (x1 != x1) = false := by simp
  go_enter Tryz.func25, Tryz.ntmps25
  go_wp2_with fail
  refine (o_eqPool (tPool.reach (makePool (p := (r2, l3)) hr2 hr3) ?hB) (tPool.reach (makePool (p := (r2, l3)) hr2' hr3') ?hB)).mono ?_
  case hB => exact (belx)
  rintro e w1 ⟨rfl, hb1⟩
  have hB1 : Below w.heap.size w w1 := bel_trans (belx) hb1
  have P1 : Box w1 w.heap.size 58 #[.int .i64 x0, .int .i64 x1, .slice A2 r2.length c2, .slice A3 l3.length c3, .slice A4 r4.length c4, .slice A5 l5.length c5, .slice A6 r6.length c6] := ((Box.new _ _ _).alloc _).below hb1 (by first | (simp; done) | (simp; omega))
  have Q1 : Box w1 (w.heap.size + 1) 58 #[.int .i64 x0, .int .i64 x1, .slice A2' r2.length c2', .slice A3' l3.length c3', .slice A4' r4.length c4', .slice A5' l5.length c5', .slice A6' r6.length c6'] := Box.below (by simpa using Box.new (w.alloc _) 58 #[.int .i64 x0, .int .i64 x1, .slice A2' r2.length c2', .slice A3' l3.length c3', .slice A4' r4.length c4', .slice A5' l5.length c5', .slice A6' r6.length c6']) hb1 (by first | (simp; done) | (simp; omega))
  have e0_4 := P1.cell 4
  have e0_4q := Q1.cell 4
  have e0_5 := P1.cell 5
  have e0_5q := Q1.cell 5
  go_wp2_with fail
  refine (o_eqDesk (tDesk.reach (makeDesk (p := (r4, l5)) hr4 hr5) ?hB) (tDesk.reach (makeDesk (p := (r4, l5)) hr4' hr5') ?hB)).mono ?_
  case hB => exact (belx)
  rintro e w2 ⟨rfl, hb2⟩
  have hB2 : Below w.heap.size w w2 := bel_trans (belx) hb2
  have P2 := P1.below hb2 P1.size
  have Q2 := Q1.below hb2 Q1.size
  have e1_6 := P2.cell 6
  have e1_6q := Q2.cell 6
  go_wp2_with fail
  refine (o_eqLetterS (tLetter.row.reach hr6 ?hB) (tLetter.row.reach hr6' ?hB)).mono ?_
  case hB => exact (belx)
  rintro e w3 ⟨rfl, hb3⟩
  have hB3 : Below w.heap.size w w3 := bel_trans (belx) hb3
  have P3 := P2.below hb3 P2.size
  have Q3 := Q2.below hb3 Q2.size
  go_wp2
  go_ret
  exact ⟨rfl, hB3⟩
theorem fopenONode {w : World} {cs : List Value} {p : DNode} {F : List Nat} (h : tNode.O w cs p F) : ∃ A2 c2 A3 c3 A4 c4 A5 c5 A6 c6 G2 G4 G6, cs = [.int .i64 (p.1), .int .i64 (p.2.1), .slice A2 ((p.2.2.1.1)).length c2, .slice A3 ((p.2.2.1.2)).length c3, .slice A4 ((p.2.2.2.1.1)).length c4, .slice A5 ((p.2.2.2.1.2)).length c5, .slice A6 ((p.2.2.2.2)).length c6] ∧ F = G2 ++ G4 ++ G6 ∧ (Lit.int .i64 (p.1)).wf = true ∧ (Lit.int .i64 (p.2.1)).wf = true ∧ (tPool).O w [.slice A2 ((p.2.2.1.1)).length c2, .slice A3 ((p.2.2.1.2)).length c3] (p.2.2.1) G2 ∧ (tDesk).O w [.slice A4 ((p.2.2.2.1.1)).length c4, .slice A5 ((p.2.2.2.1.2)).length c5] (p.2.2.2.1) G4 ∧ (tLetter.row).O w [.slice A6 ((p.2.2.2.2)).length c6] (p.2.2.2.2) G6 := by
  obtain ⟨ca0, cb0, Fa0, Fb0, rfl, rfl, ha0, hb0⟩ := h
  obtain ⟨ca1, cb1, Fa1, Fb1, rfl, rfl, ha1, hb1⟩ := hb0
  obtain ⟨ca2, cb2, Fa2, Fb2, rfl, rfl, ha2, hb2⟩ := hb1
  obtain ⟨ca3, cb3, Fa3, Fb3, rfl, rfl, ha3, hb3⟩ := hb2
  obtain ⟨rfl, hi0, rfl⟩ := ha0
  obtain ⟨rfl, hi1, rfl⟩ := ha1
  have hk2 := ha2
  obtain ⟨A2, c2, X2, A3, c3, X3, rfl, -, -, -, -, -, -, -⟩ := openOPool ha2
  have hk4 := ha3
  obtain ⟨A4, c4, X4, A5, c5, X5, rfl, -, -, -, -, -, -, -⟩ := openODesk ha3
  have hk6 := hb3
  obtain ⟨A6, c6, rfl, -, -⟩ := rowO_one hb3
  exact ⟨A2, c2, A3, c3, A4, c4, A5, c5, A6, c6, Fa2, Fa3, Fb3, rfl, by simp [List.append_assoc], hi0, hi1, hk2, hk4, hk6⟩
theorem fmakeONode {w : World} {p : DNode} {v2 v3 v4 v5 v6 : Value} {G2 G4 G6 : List Nat} (h0 : (Lit.int .i64 (p.1)).wf = true) (h1 : (Lit.int .i64 (p.2.1)).wf = true) (h2 : (tPool).O w [v2, v3] (p.2.2.1) G2) (h4 : (tDesk).O w [v4, v5] (p.2.2.2.1) G4) (h6 : (tLetter.row).O w [v6] (p.2.2.2.2) G6) : tNode.O w [.int .i64 (p.1), .int .i64 (p.2.1), v2, v3, v4, v5, v6] p (G2 ++ G4 ++ G6) := by
  have hh : ∃ F, tNode.O w [.int .i64 (p.1), .int .i64 (p.2.1), v2, v3, v4, v5, v6] p F ∧ F = G2 ++ G4 ++ G6 := ⟨_, ⟨_, _, _, _, rfl, rfl, ⟨rfl, h0, rfl⟩, ⟨_, _, _, _, rfl, rfl, ⟨rfl, h1, rfl⟩, ⟨_, _, _, _, rfl, rfl, h2, ⟨_, _, _, _, rfl, rfl, h4, h6⟩⟩⟩⟩, by simp [List.append_assoc]⟩
  obtain ⟨F, hF, rfl⟩ := hh
  exact hF
theorem fopenNode {w : World} {B : Nat} {cs : List Value} {p : DNode} (h : tNode.R w B cs p) : ∃ A2 n2 c2 A3 n3 c3 A4 n4 c4 A5 n5 c5 A6 n6 c6, cs = [.int .i64 (p.1), .int .i64 (p.2.1), .slice A2 n2 c2, .slice A3 n3 c3, .slice A4 n4 c4, .slice A5 n5 c5, .slice A6 n6 c6] ∧ (Lit.int .i64 (p.1)).wf = true ∧ (Lit.int .i64 (p.2.1)).wf = true ∧ (tPool).R w B [.slice A2 n2 c2, .slice A3 n3 c3] (p.2.2.1) ∧ (tDesk).R w B [.slice A4 n4 c4, .slice A5 n5 c5] (p.2.2.2.1) ∧ (tLetter.row).R w B [.slice A6 n6 c6] (p.2.2.2.2) := by
  obtain ⟨ca0, cb0, rfl, ha0, hb0⟩ := h
  obtain ⟨rfl, hi0⟩ := ha0
  obtain ⟨ca1, cb1, rfl, ha1, hb1⟩ := hb0
  obtain ⟨rfl, hi1⟩ := ha1
  obtain ⟨ca2, cb2, rfl, ha2, hb2⟩ := hb1
  have hk2 := ha2
  obtain ⟨A2, n2, c2, A3, n3, c3, rfl, -, -, -, -, -, -, -, -⟩ := openPool ha2
  obtain ⟨ca3, cb3, rfl, ha3, hb3⟩ := hb2
  have hk4 := ha3
  obtain ⟨A4, n4, c4, A5, n5, c5, rfl, -, -, -, -, -, -, -, -⟩ := openDesk ha3
  have hk6 := hb3
  obtain ⟨A6, n6, c6, rfl, -, -, -⟩ := row_one hb3
  exact ⟨A2, n2, c2, A3, n3, c3, A4, n4, c4, A5, n5, c5, A6, n6, c6, rfl, hi0, hi1, hk2, hk4, hk6⟩
theorem o_markNode {w : World} {cs : List Value} {p : DNode} {F : List Nat} (k : Int) (h : tNode.O w cs p F) (hF : F.Nodup) (h0 : 0 ≤ k) (hk : k + cntNode p ≤ 4611686018427387904) :
    Calls Tryz.prog 26 #[.agg cs.toArray, .int .i64 k] w fun e w' => e = .returned (.int .i64 (k + cntNode p)) ∧ tNode.O w' cs (mkNode k p) F ∧ Only F w w' := by
  obtain ⟨A2, c2, A3, c3, A4, c4, A5, c5, A6, c6, G2, G4, G6, rfl, hFe, hi0, hi1, hr2, hr4, hr6⟩ := fopenONode h
  subst F
  unfold cntNode at hk ⊢
  have nd2 : G2.Nodup := (List.nodup_append.1 (List.nodup_append.1 hF).1).1
  have nd4 : G4.Nodup := (List.nodup_append.1 (List.nodup_append.1 hF).1).2.1
  have ap2_4 : ∀ f ∈ G2, f ∉ G4 := fun f h1 h2 => (List.nodup_append.1 (List.nodup_append.1 hF).1).2.2 f (by simp [h1]) f h2 rfl
  have nd6 : G6.Nodup := (List.nodup_append.1 hF).2.1
  have ap2_6 : ∀ f ∈ G2, f ∉ G6 := fun f h1 h2 => (List.nodup_append.1 hF).2.2 f (by simp [h1]) f h2 rfl
  have ap4_6 : ∀ f ∈ G4, f ∉ G6 := fun f h1 h2 => (List.nodup_append.1 hF).2.2 f (by simp [h1]) f h2 rfl
  have y2 : ∀ f ∈ G2, f < w.heap.size := fun f hf => (tNode).lt h f (by simp [hf])
  have y4 : ∀ f ∈ G4, f < w.heap.size := fun f hf => (tNode).lt h f (by simp [hf])
  have y6 : ∀ f ∈ G6, f < w.heap.size := fun f hf => (tNode).lt h f (by simp [hf])
  go_enter Tryz.func26, Tryz.ntmps26
  replace hr2 : (tPool).O (w.alloc (.cells #[.int .i64 (p.1), .int .i64 (p.2.1), .slice A2 ((p.2.2.1.1)).length c2, .slice A3 ((p.2.2.1.2)).length c3, .slice A4 ((p.2.2.2.1.1)).length c4, .slice A5 ((p.2.2.2.1.2)).length c5, .slice A6 ((p.2.2.2.2)).length c6] 58)) _ _ _ := Ty.below hr2 (belx)
  replace hr4 : (tDesk).O (w.alloc (.cells #[.int .i64 (p.1), .int .i64 (p.2.1), .slice A2 ((p.2.2.1.1)).length c2, .slice A3 ((p.2.2.1.2)).length c3, .slice A4 ((p.2.2.2.1.1)).length c4, .slice A5 ((p.2.2.2.1.2)).length c5, .slice A6 ((p.2.2.2.2)).length c6] 58)) _ _ _ := Ty.below hr4 (belx)
  replace hr6 : (tLetter.row).O (w.alloc (.cells #[.int .i64 (p.1), .int .i64 (p.2.1), .slice A2 ((p.2.2.1.1)).length c2, .slice A3 ((p.2.2.1.2)).length c3, .slice A4 ((p.2.2.2.1.1)).length c4, .slice A5 ((p.2.2.2.1.2)).length c5, .slice A6 ((p.2.2.2.2)).length c6] 58)) _ _ _ := Ty.below hr6 (belx)
  have Q0 : Only (G2 ++ G4 ++ G6) w (w.alloc (.cells #[.int .i64 (p.1), .int .i64 (p.2.1), .slice A2 ((p.2.2.1.1)).length c2, .slice A3 ((p.2.2.1.2)).length c3, .slice A4 ((p.2.2.2.1.1)).length c4, .slice A5 ((p.2.2.2.1.2)).length c5, .slice A6 ((p.2.2.2.2)).length c6] 58)) := (Only.refl _ _).alloc _
  have P0 : Box (w.alloc (.cells #[.int .i64 (p.1), .int .i64 (p.2.1), .slice A2 ((p.2.2.1.1)).length c2, .slice A3 ((p.2.2.1.2)).length c3, .slice A4 ((p.2.2.2.1.1)).length c4, .slice A5 ((p.2.2.2.1.2)).length c5, .slice A6 ((p.2.2.2.2)).length c6] 58)) w.heap.size 58 #[.int .i64 (p.1), .int .i64 (p.2.1), .slice A2 ((p.2.2.1.1)).length c2, .slice A3 ((p.2.2.1.2)).length c3, .slice A4 ((p.2.2.2.1.1)).length c4, .slice A5 ((p.2.2.2.1.2)).length c5, .slice A6 ((p.2.2.2.2)).length c6] := Box.new _ _ _
  go_wp2_with fail
  refine (o_markPool (k) hr2 nd2 (by omega) (by omega)).mono ?_
  rintro e w1 ⟨rfl, hO1, hG1⟩
  have Q1 := Q0.trans (hG1.mono (by intro f hf; simp [hf]))
  have P1 : Box w1 w.heap.size 58 #[.int .i64 (p.1), .int .i64 (p.2.1), .slice A2 ((p.2.2.1.1)).length c2, .slice A3 ((p.2.2.1.2)).length c3, .slice A4 ((p.2.2.2.1.1)).length c4, .slice A5 ((p.2.2.2.1.2)).length c5, .slice A6 ((p.2.2.2.2)).length c6] := P0.same (hG1.block _ P0.size (fun e => by have := y2 _ e; omega))
  have e1_0 := P1.cell 0
  have e1_1 := P1.cell 1
  have e1_2 := P1.cell 2
  have e1_3 := P1.cell 3
  have e1_4 := P1.cell 4
  have e1_5 := P1.cell 5
  have e1_6 := P1.cell 6
  replace hr4 := Ty.only (t := tDesk) hr4 hG1 (fun f hf e => ap2_4 f e hf)
  replace hr6 := Ty.only (t := tLetter.row) hr6 hG1 (fun f hf e => ap2_6 f e hf)
  replace hr2 := hO1
  go_wp2_with fail
  refine (o_markDesk (k + ((cntPool (p.2.2.1) : Nat) : Int)) hr4 nd4 (by omega) (by omega)).mono ?_
  rintro e w2 ⟨rfl, hO2, hG2⟩
  have Q2 := Q1.trans (hG2.mono (by intro f hf; simp [hf]))
  have P2 : Box w2 w.heap.size 58 #[.int .i64 (p.1), .int .i64 (p.2.1), .slice A2 ((p.2.2.1.1)).length c2, .slice A3 ((p.2.2.1.2)).length c3, .slice A4 ((p.2.2.2.1.1)).length c4, .slice A5 ((p.2.2.2.1.2)).length c5, .slice A6 ((p.2.2.2.2)).length c6] := P1.same (hG2.block _ P1.size (fun e => by have := y4 _ e; omega))
  have e2_0 := P2.cell 0
  have e2_1 := P2.cell 1
  have e2_2 := P2.cell 2
  have e2_3 := P2.cell 3
  have e2_4 := P2.cell 4
  have e2_5 := P2.cell 5
  have e2_6 := P2.cell 6
  replace hr2 := Ty.only (t := tPool) hr2 hG2 (fun f hf e => ap2_4 f hf e)
  replace hr6 := Ty.only (t := tLetter.row) hr6 hG2 (fun f hf e => ap4_6 f e hf)
  replace hr4 := hO2
  go_wp2_with fail
  refine (o_markLetterS (k + ((cntPool (p.2.2.1) : Nat) : Int) + ((cntDesk (p.2.2.2.1) : Nat) : Int)) hr6 nd6 (by omega) (by omega)).mono ?_
  rintro e w3 ⟨rfl, hO3, hG3⟩
  have Q3 := Q2.trans (hG3.mono (by intro f hf; simp [hf]))
  have P3 : Box w3 w.heap.size 58 #[.int .i64 (p.1), .int .i64 (p.2.1), .slice A2 ((p.2.2.1.1)).length c2, .slice A3 ((p.2.2.1.2)).length c3, .slice A4 ((p.2.2.2.1.1)).length c4, .slice A5 ((p.2.2.2.1.2)).length c5, .slice A6 ((p.2.2.2.2)).length c6] := P2.same (hG3.block _ P2.size (fun e => by have := y6 _ e; omega))
  have e3_0 := P3.cell 0
  have e3_1 := P3.cell 1
  have e3_2 := P3.cell 2
  have e3_3 := P3.cell 3
  have e3_4 := P3.cell 4
  have e3_5 := P3.cell 5
  have e3_6 := P3.cell 6
  replace hr2 := Ty.only (t := tPool) hr2 hG3 (fun f hf e => ap2_6 f hf e)
  replace hr4 := Ty.only (t := tDesk) hr4 hG3 (fun f hf e => ap4_6 f hf e)
  replace hr6 := hO3
  go_wp2
  go_ret
  exact ⟨ret_int (by omega), fmakeONode (p := mkNode k p) hi0 hi1 hr2 hr4 hr6, Q3⟩
theorem o_heldNode {w : World} {cs : List Value} {p : DNode} (k : Int) (h : tNode.R w w.heap.size cs (mkNode k p)) (h0 : 0 ≤ k) (hk : k + cntNode p ≤ 4611686018427387904) :
    Calls Tryz.prog 27 #[.agg cs.toArray, .int .i64 k] w fun e w' => e = .returned (.int .i64 (k + cntNode p)) ∧ Below w.heap.size w w' := by
  obtain ⟨A2, n2, c2, A3, n3, c3, A4, n4, c4, A5, n5, c5, A6, n6, c6, rfl, hi0, hi1, hr2, hr4, hr6⟩ := fopenNode h
  unfold cntNode at hk ⊢
  dsimp only [mkNode] at *
  have d0 : decide (k + ((cntPool (p.2.2.1) : Nat) : Int) < 0) = false := by simp; omega
  have d1 : decide (k + ((cntPool (p.2.2.1) : Nat) : Int) + ((cntDesk (p.2.2.2.1) : Nat) : Int) < 0) = false := by simp; omega
  have d2 : decide (k + ((cntPool (p.2.2.1) : Nat) : Int) + ((cntDesk (p.2.2.2.1) : Nat) : Int) + ((rsum rcLetter (p.2.2.2.2) : Nat) : Int) < 0) = false := by simp; omega
  go_enter Tryz.func27, Tryz.ntmps27
  go_wp2_with fail
  refine (o_heldPool (k) ((tPool).reach hr2 ?hB) (by omega) (by omega)).mono ?_
  case hB => exact (belx)
  rintro e w1 ⟨rfl, hb1⟩
  have hB1 : Below w.heap.size w w1 := bel_trans (belx) hb1
  have P1 : Box w1 w.heap.size 58 #[.int .i64 (p.1), .int .i64 (p.2.1), .slice A2 n2 c2, .slice A3 n3 c3, .slice A4 n4 c4, .slice A5 n5 c5, .slice A6 n6 c6] := (Box.new _ _ _).below hb1 (by first | (simp; done) | (simp; omega))
  have e0_4 := P1.cell 4
  have e0_5 := P1.cell 5
  go_wp2_with fail
  refine (o_heldDesk (k + ((cntPool (p.2.2.1) : Nat) : Int)) ((tDesk).reach hr4 ?hB) (by omega) (by omega)).mono ?_
  case hB => exact (belx)
  rintro e w2 ⟨rfl, hb2⟩
  have hB2 : Below w.heap.size w w2 := bel_trans (belx) hb2
  have P2 := P1.below hb2 P1.size
  have e1_6 := P2.cell 6
  go_wp2_with fail
  refine (o_heldLetterS (k + ((cntPool (p.2.2.1) : Nat) : Int) + ((cntDesk (p.2.2.2.1) : Nat) : Int)) ((tLetter.row).reach hr6 ?hB) (by omega) (by omega)).mono ?_
  case hB => exact (belx)
  rintro e w3 ⟨rfl, hb3⟩
  have hB3 : Below w.heap.size w w3 := bel_trans (belx) hb3
  have P3 := P2.below hb3 P2.size
  go_wp2
  go_ret
  exact ⟨ret_int (by omega), hB3⟩
end Go.Proofs.YtojbicecopkfbaaGreat
namespace Go.Proofs.YtojbicecopkfbaaGreat
set_option linter.unusedVariables false
open Go.RowKit
section
variable {α : Type} {t : Ty α} {e : TypeId} {w w' : World} {base B n c : Nat} {A : Option Addr} {v : Value} {l l' : List α}
/-- The cells of a row that reads, as what an append takes in. -/
theorem row_src (h : t.row.R w B [.slice A n c] l) (h1 : ∀ es a, t.R w B es a → ∀ u ∈ es, u.oneCell' = true) :
    ∃ css : List (List Value), css.length = l.length ∧ (∀ (i : Nat) (a : α) (es : List Value), l[i]? = some a → css[i]? = some es → t.R w B es a) ∧ Src w t.k A n css.flatten ∧ ∀ u ∈ css.flatten, u.oneCell' = true := by
  obtain ⟨A', n', c', e1, h2, h3, h4, h5⟩ := h
  injection e1 with e1 _
  injection e1 with e1 e2 e3
  subst e1 e2 e3
  by_cases h0 : 0 < n
  · obtain ⟨b, off, rfl, hb, hc⟩ := h5 h0
    have hx : ∀ i, i < l.length → ∃ es, (∀ j, j < t.k → w.cell? ⟨b, off + i * t.k + j, none⟩ = es[j]?) ∧ ∀ a, l[i]? = some a → t.R w B es a := fun i hi => by
      obtain ⟨es, k1, k2⟩ := hc i _ (List.getElem?_eq_getElem hi)
      exact ⟨es, k1, fun a ha => by rw [List.getElem?_eq_getElem hi] at ha; injection ha with ha; rw [← ha]; exact k2⟩
    obtain ⟨css, hcs⟩ : ∃ css, css = (List.range l.length).pmap (fun i hi => (hx i hi).choose) (fun i hi => List.mem_range.1 hi) := ⟨_, rfl⟩
    have hlen : css.length = l.length := by rw [hcs]; simp
    have hat : ∀ i es, css[i]? = some es → ∃ hi : i < l.length, es = (hx i hi).choose := fun i es hi => by
      rw [hcs, List.getElem?_pmap] at hi
      by_cases hl : i < l.length
      · refine ⟨hl, ?_⟩
        simp [List.getElem?_range hl] at hi
        exact hi.symm
      · simp [List.getElem?_eq_none (show (List.range l.length).length ≤ i by simp; omega)] at hi
    have hk : ∀ es ∈ css, es.length = t.k := fun es hes => by
      obtain ⟨i, hi, rfl⟩ := List.getElem_of_mem hes
      obtain ⟨hl, e⟩ := hat i _ (List.getElem?_eq_getElem hi)
      exact t.lenR (B := B) ((congrArg (fun x => t.R w B x _) e).mpr ((hx i hl).choose_spec.2 _ (List.getElem?_eq_getElem hl)))
    refine ⟨css, hlen, fun i a es hi he => ?_, ⟨by rw [flat_len hk, hlen, h4], fun _ => ⟨b, off, rfl, fun j u hj => ?_⟩⟩, fun u hu => ?_⟩
    · obtain ⟨hl, rfl⟩ := hat i es he
      exact (hx i hl).choose_spec.2 a hi
    · have hj2 : j < css.length * t.k := by rw [← flat_len hk]; exact (List.getElem?_eq_some_iff.1 hj).1
      have hkp : 0 < t.k := by
        rcases Nat.eq_zero_or_pos t.k with h | h
        · rw [h] at hj2; omega
        · exact h
      have hq : j / t.k < css.length := (Nat.div_lt_iff_lt_mul hkp).2 hj2
      have hr : j % t.k < t.k := Nat.mod_lt _ hkp
      have e0 : j / t.k * t.k + j % t.k = j := by rw [Nat.mul_comm]; exact Nat.div_add_mod _ _
      have h6 := flat_at hk (List.getElem?_eq_getElem hq) hr
      rw [e0, hj] at h6
      obtain ⟨hl, e⟩ := hat (j / t.k) _ (List.getElem?_eq_getElem hq)
      have h7 := (hx _ hl).choose_spec.1 _ hr
      rw [← e, ← h6, Nat.add_assoc, e0] at h7
      exact h7
    · obtain ⟨es, hes, hu⟩ := List.mem_flatten.1 hu
      obtain ⟨i, hi, rfl⟩ := List.getElem_of_mem hes
      obtain ⟨hl, e⟩ := hat i _ (List.getElem?_eq_getElem hi)
      exact h1 _ _ ((congrArg (fun x => t.R w B x _) e).mpr ((hx i hl).choose_spec.2 _ (List.getElem?_eq_getElem hl))) u hu
  · have hl : l = [] := List.eq_nil_of_length_eq_zero (by omega)
    subst hl
    obtain rfl : n = 0 := by omega
    exact ⟨[], rfl, fun i a es hi => by simp at hi, ⟨by simp, fun h => absurd h h0⟩, fun u hu => by simp at hu⟩
/-- What an append of a whole row sees, and what it leaves. -/
theorem GrowR.rows (h : GrowR t e w base B v l) (hr : t.row.R w B [.slice A n c] l') (h1 : ∀ es a, t.R w B es a → ∀ u ∈ es, u.oneCell' = true) (hb : B ≤ base) (hw : B ≤ w.heap.size) :
    ∃ xs news, w.ownsRow base e t.k v l.length xs ∧ Src w t.k A n news ∧ (∀ u ∈ news, u.oneCell' = true) ∧
      ∀ w3 v1, w3.ownsRow base e t.k v1 (l.length + n) (xs ++ news) → w.grownBy w3 v.ownBlock → GrowR t e w3 base B v1 (l ++ l') := by
  obtain ⟨css2, k1, k2, k3, k4⟩ := row_src hr h1
  have hn : l'.length = n := (rowR_len hr).1
  obtain ⟨css, g1, g2, g5⟩ := h
  have hown := fun b hb => g1.lt b hb
  refine ⟨css.flatten, css2.flatten, g1, k3, k4, fun w3 v1 q5 q6 => ⟨css ++ css2, ?_, by simp [g2, k1], ?_⟩⟩
  · rw [List.length_append, List.flatten_append, hn]
    exact q5
  · have keep : ∀ b, b < B → w3.heap[b]? = w.heap[b]? := fun b hlt => q6.block b (by omega) fun e => by have := (hown b e.symm).1; omega
    intro i b cs r1 r2
    by_cases hi : i < l.length
    · rw [List.getElem?_append_left hi] at r1
      rw [List.getElem?_append_left (by omega)] at r2
      exact t.keep (g5 i b cs r1 r2) keep
    · rw [List.getElem?_append_right (by omega)] at r1
      rw [List.getElem?_append_right (by omega), g2] at r2
      exact t.keep (k2 _ b cs r1 r2) keep
end
theorem step_app5 {P : Program} (w : World) {ops : Array Oper} {o : Oper} {a : Act} {K : Act → World → Prop} {Q : Exit → Act → World → Prop} {E : Prop} (hgd : o.guard = none) (s x : Operand) (t : TypeId)
    (ho : o.op = .call { callee := .builtin .append, args := #[s, x], argTypes := #[t, t] })
    (base : Nat) (e : TypeId) (i : TypeInfo) (z : Value) (size bytes : Nat) (ht : P.underlying t = some (.slice e)) (hi : P.info? e = some i) (hz : i.zero = some z)
    (hsize : i.size = size) (hby : i.bytes = bytes) (hzs : z.cells.size = size) (hsz : 0 < size)
    (v : Value) (n : Nat) (xs : List Value) (hs : a.eval s = v) (hown : w.ownsRow base e size v n xs)
    (A : Option Addr) (m c : Nat) (news : List Value) (hx : a.eval x = .slice A m c) (hr : Src w size A m news) (h1 : ∀ u ∈ news, u.oneCell' = true)
    (h63 : n + m ≤ maxLen) (hbytes : (n + m) * bytes ≤ 140737488355328) (hbase : base ≤ w.heap.size)
    (h : ∀ v' w', w'.ownsRow base e size v' (n + m) (xs ++ news) → w.grownBy w' v.ownBlock → (v'.ownBlock = v.ownBlock ∨ v'.ownBlock = some w.heap.size) → K (a.put o.dst v') w') :
    if Region.wanted o (yielded ops a.tmps) = true then Oper.wp P o a w K Q else E := by
  have hw : Region.wanted o (yielded ops a.tmps) = true := by simp [Region.wanted, hgd]
  rw [if_pos hw]
  exact wp_app w s x t ho base e i z size bytes ht hi hz hsize hby hzs hsz v n xs hs hown A m c news hx hr h1 h63 hbytes hbase h
/-- A struct's cells in a block, as what an append takes in. -/
theorem Src.of_boxed {w : World} {g : Nat} {e : TypeId} {es : List Value} {K : Nat} (hb : Box w g e es.toArray) (hK : es.length = K) : Src w K (some ⟨g, 0, none⟩) 1 es := by
  refine ⟨by omega, fun _ => ⟨_, 0, rfl, fun j u hj => ?_⟩⟩
  rw [Nat.zero_add, hb.cell]
  simpa using hj
section
variable {α : Type} {t : Ty α} {e : TypeId} {w w' : World} {base B n c : Nat} {v : Value} {l : List α} {F : List Nat}
theorem GrowR.own (h : GrowR t e w base B v l) : ∀ b, v.ownBlock = some b → base ≤ b ∧ b < w.heap.size := fun b hb => by
  obtain ⟨css, h1, _⟩ := h; exact h1.lt b hb
theorem GrowR.put (h : GrowR t e w base B v l) {p : Addr} (h1 : p.block < base) (h2 : B ≤ p.block) (u : Value) : GrowR t e (w.setCell p u) base B v l := by
  obtain ⟨css, k1, k2, k5⟩ := h
  refine ⟨css, k1.kept (row := some p.block) ⟨rfl, rfl, rfl, by simp [World.setCell], fun i hi hn => Below.heap_setCell w p u i (fun e => hn (by rw [e]))⟩ ?_, k2, fun i a es q1 q2 => t.keep (k5 i a es q1 q2) fun b hlt => Below.heap_setCell w p u b (by omega)⟩
  refine .inr fun e => ?_
  have := (k1.lt _ e).1
  omega
theorem GrowR.shape (h : GrowR t e w base B v l) : ∃ A c, v = .slice A l.length c := by
  obtain ⟨css, h1, _⟩ := h
  rcases h1.2 with ⟨rfl, h0⟩ | ⟨g, cap, cur, rfl, _⟩
  · exact ⟨none, 0, by rw [h0]⟩
  · exact ⟨_, cap, rfl⟩
theorem GrowO.shape (h : GrowO t e w base v l F) : ∃ A c, v = .slice A l.length c := by
  obtain ⟨⟨css, Fs, h1, _⟩, _⟩ := h
  rcases h1.2 with ⟨rfl, h0⟩ | ⟨g, cap, cur, rfl, _⟩
  · exact ⟨none, 0, by rw [h0]⟩
  · exact ⟨_, cap, rfl⟩
theorem GrowR.shapeN (h : GrowR t e w base B v l) : ∃ A n c, v = .slice A n c ∧ n = l.length := by
  obtain ⟨A, c, rfl⟩ := h.shape; exact ⟨A, _, c, rfl, rfl⟩
theorem GrowR.doneAs {A : Option Addr} (h : GrowR t e w base B (.slice A n c) l) (hw : B ≤ w.heap.size) : t.row.R w w.heap.size [.slice A n c] l := by
  obtain ⟨A', c', e1, h2⟩ := h.done hw
  injection e1 with e1 e2 e3
  subst e1 e2 e3
  exact h2
theorem GrowO.shapeN (h : GrowO t e w base v l F) : ∃ A n c, v = .slice A n c ∧ n = l.length := by
  obtain ⟨A, c, rfl⟩ := h.shape; exact ⟨A, _, c, rfl, rfl⟩
theorem GrowO.own (h : GrowO t e w base v l F) : ∀ b, v.ownBlock = some b → base ≤ b ∧ b < w.heap.size := fun b hb => by
  obtain ⟨⟨css, Fs, h1, _⟩, _⟩ := h; exact h1.lt b hb
variable {P : Program} {ops : Array Oper} {rest : List Oper} {o : Oper} {a : Act} {K : Act → World → Prop} {Q : Exit → Act → World → Prop} {E : Prop}
/-- One struct more behind a row that reads: the step of a drawn region. -/
theorem GrowR.step (hgd : o.guard = none) (s x : Operand) (ty : TypeId) (ho : o.op = .call { callee := .builtin .append, args := #[s, x], argTypes := #[ty, ty] })
    (i : TypeInfo) (z : Value) (size bytes : Nat) (ht : P.underlying ty = some (.slice e)) (hi : P.info? e = some i) (hz : i.zero = some z) (hsize : i.size = size) (hby : i.bytes = bytes) (hzs : z.cells.size = size) (hsz : 0 < size) (hk : t.k = size)
    (hs : a.eval s = v) (hG : GrowR t e w base B v l) (g : Nat) (es : List Value) (el : α) (hx : a.eval x = .slice (some ⟨g, 0, none⟩) 1 1) (hb : Box w g e es.toArray) (hR : t.R w B es el) (h1 : ∀ u ∈ es, u.oneCell' = true)
    (hB : B ≤ base) (hw : base ≤ w.heap.size) (h63 : l.length + 1 ≤ maxLen) (hbytes : (l.length + 1) * bytes ≤ 140737488355328)
    (h : ∀ v' w', GrowR t e w' base B v' (l ++ [el]) → w.grownBy w' v.ownBlock → K (a.put o.dst v') w') :
    if Region.wanted o (yielded ops a.tmps) = true then Oper.wp P o a w K Q else E := by
  subst hk
  obtain ⟨xs, hrow, hpush⟩ := hG.row hB (Nat.le_trans hB hw)
  exact step_app5 w hgd s x ty ho base e i z t.k bytes ht hi hz hsize hby hzs hsz v l.length xs hs hrow _ 1 1 es hx (Src.of_boxed hb (t.lenR hR)) h1 h63 hbytes hw fun v' w' q1 q2 _ => h v' w' (hpush w' v' el es hR q1 q2) q2
/-- The same in a plain region. -/
theorem GrowR.push (hgd : o.guard = none) (s x : Operand) (ty : TypeId) (ho : o.op = .call { callee := .builtin .append, args := #[s, x], argTypes := #[ty, ty] })
    (i : TypeInfo) (z : Value) (size bytes : Nat) (ht : P.underlying ty = some (.slice e)) (hi : P.info? e = some i) (hz : i.zero = some z) (hsize : i.size = size) (hby : i.bytes = bytes) (hzs : z.cells.size = size) (hsz : 0 < size) (hk : t.k = size)
    (hs : a.eval s = v) (hG : GrowR t e w base B v l) (g : Nat) (es : List Value) (el : α) (hx : a.eval x = .slice (some ⟨g, 0, none⟩) 1 1) (hb : Box w g e es.toArray) (hR : t.R w B es el) (h1 : ∀ u ∈ es, u.oneCell' = true)
    (hB : B ≤ base) (hw : base ≤ w.heap.size) (h63 : l.length + 1 ≤ maxLen) (hbytes : (l.length + 1) * bytes ≤ 140737488355328)
    (h : ∀ v' w', GrowR t e w' base B v' (l ++ [el]) → w.grownBy w' v.ownBlock → wpList P ops Q rest (a.put o.dst v') w') : wpList P ops Q (o :: rest) a w := by
  subst hk
  obtain ⟨xs, hrow, hpush⟩ := hG.row hB (Nat.le_trans hB hw)
  exact wpList_app w hgd s x ty ho base e i z t.k bytes ht hi hz hsize hby hzs hsz v l.length xs hs hrow _ 1 1 es hx (Src.of_boxed hb (t.lenR hR)) h1 h63 hbytes hw fun v' w' q1 q2 _ => h v' w' (hpush w' v' el es hR q1 q2) q2
/-- A whole row behind a row, both read: the step of a drawn region. -/
theorem GrowR.stepRow (hgd : o.guard = none) (s x : Operand) (ty : TypeId) (ho : o.op = .call { callee := .builtin .append, args := #[s, x], argTypes := #[ty, ty] })
    (i : TypeInfo) (z : Value) (size bytes : Nat) (ht : P.underlying ty = some (.slice e)) (hi : P.info? e = some i) (hz : i.zero = some z) (hsize : i.size = size) (hby : i.bytes = bytes) (hzs : z.cells.size = size) (hsz : 0 < size) (hk : t.k = size)
    (hs : a.eval s = v) (hG : GrowR t e w base B v l) {A : Option Addr} {l' : List α} (hx : a.eval x = .slice A n c) (hr : t.row.R w B [.slice A n c] l') (h1 : ∀ es a, t.R w B es a → ∀ u ∈ es, u.oneCell' = true)
    (hB : B ≤ base) (hw : base ≤ w.heap.size) (h63 : l.length + n ≤ maxLen) (hbytes : (l.length + n) * bytes ≤ 140737488355328)
    (h : ∀ v' w', GrowR t e w' base B v' (l ++ l') → w.grownBy w' v.ownBlock → K (a.put o.dst v') w') :
    if Region.wanted o (yielded ops a.tmps) = true then Oper.wp P o a w K Q else E := by
  subst hk
  obtain ⟨xs, news, hrow, hsrc, h1', hpush⟩ := hG.rows hr h1 hB (Nat.le_trans hB hw)
  exact step_app5 w hgd s x ty ho base e i z t.k bytes ht hi hz hsize hby hzs hsz v l.length xs hs hrow A n c news hx hsrc h1' h63 hbytes hw fun v' w' q1 q2 _ => h v' w' (hpush w' v' q1 q2) q2
/-- One struct more behind a call's own row, each owning what it holds: the step of a drawn region. -/
theorem GrowO.step (hgd : o.guard = none) (s x : Operand) (ty : TypeId) (ho : o.op = .call { callee := .builtin .append, args := #[s, x], argTypes := #[ty, ty] })
    (i : TypeInfo) (z : Value) (size bytes : Nat) (ht : P.underlying ty = some (.slice e)) (hi : P.info? e = some i) (hz : i.zero = some z) (hsize : i.size = size) (hby : i.bytes = bytes) (hzs : z.cells.size = size) (hsz : 0 < size) (hk : t.k = size)
    (hs : a.eval s = v) (hG : GrowO t e w base v l F) (g : Nat) (es : List Value) (el : α) {Fa : List Nat} (hx : a.eval x = .slice (some ⟨g, 0, none⟩) 1 1) (hb : Box w g e es.toArray) (hO : t.O w es el Fa) (hN : New base Fa) (hd : ∀ f ∈ Fa, f ∉ F) (hv : ∀ b, v.ownBlock = some b → b ∉ Fa) (h1 : ∀ u ∈ es, u.oneCell' = true)
    (hw : base ≤ w.heap.size) (h63 : l.length + 1 ≤ maxLen) (hbytes : (l.length + 1) * bytes ≤ 140737488355328)
    (h : ∀ v' w', GrowO t e w' base v' (l ++ [el]) (F ++ Fa) → w.grownBy w' v.ownBlock → K (a.put o.dst v') w') :
    if Region.wanted o (yielded ops a.tmps) = true then Oper.wp P o a w K Q else E := by
  subst hk
  obtain ⟨xs, hrow, hpush⟩ := hG.row
  exact step_app5 w hgd s x ty ho base e i z t.k bytes ht hi hz hsize hby hzs hsz v l.length xs hs hrow _ 1 1 es hx (Src.of_boxed hb (t.lenO hO)) h1 h63 hbytes hw fun v' w' q1 q2 q3 => h v' w' (hpush w' v' el es Fa hO hN hd hv q1 q2 q3) q2
/-- The same in a plain region. -/
theorem GrowO.push (hgd : o.guard = none) (s x : Operand) (ty : TypeId) (ho : o.op = .call { callee := .builtin .append, args := #[s, x], argTypes := #[ty, ty] })
    (i : TypeInfo) (z : Value) (size bytes : Nat) (ht : P.underlying ty = some (.slice e)) (hi : P.info? e = some i) (hz : i.zero = some z) (hsize : i.size = size) (hby : i.bytes = bytes) (hzs : z.cells.size = size) (hsz : 0 < size) (hk : t.k = size)
    (hs : a.eval s = v) (hG : GrowO t e w base v l F) (g : Nat) (es : List Value) (el : α) {Fa : List Nat} (hx : a.eval x = .slice (some ⟨g, 0, none⟩) 1 1) (hb : Box w g e es.toArray) (hO : t.O w es el Fa) (hN : New base Fa) (hd : ∀ f ∈ Fa, f ∉ F) (hv : ∀ b, v.ownBlock = some b → b ∉ Fa) (h1 : ∀ u ∈ es, u.oneCell' = true)
    (hw : base ≤ w.heap.size) (h63 : l.length + 1 ≤ maxLen) (hbytes : (l.length + 1) * bytes ≤ 140737488355328)
    (h : ∀ v' w', GrowO t e w' base v' (l ++ [el]) (F ++ Fa) → w.grownBy w' v.ownBlock → wpList P ops Q rest (a.put o.dst v') w') : wpList P ops Q (o :: rest) a w := by
  subst hk
  obtain ⟨xs, hrow, hpush⟩ := hG.row
  exact wpList_app w hgd s x ty ho base e i z t.k bytes ht hi hz hsize hby hzs hsz v l.length xs hs hrow _ 1 1 es hx (Src.of_boxed hb (t.lenO hO)) h1 h63 hbytes hw fun v' w' q1 q2 q3 => h v' w' (hpush w' v' el es Fa hO hN hd hv q1 q2 q3) q2
end
end Go.Proofs.YtojbicecopkfbaaGreat
namespace Go.Proofs.YtojbicecopkfbaaGreat
set_option maxRecDepth 100000
set_option linter.unusedVariables false
set_option linter.unusedSimpArgs false
open Go.ChangeShapes Go.WideShapes Go.ChangeAt Go.RowKit
theorem i_isAsc {w : World} {n c : Nat} {A : Option Addr} {l : List Int} (b : Bool) (T : Asc l → b = true) (F : ¬ Asc l → b = false) (hl : Ints .i64 w w.heap.size A n l) (hn : n ≤ 17592186043904) :
    Calls Tryz.prog 106 #[.slice A n c] w fun e w' => e = .returned (.bool b) ∧ Below w.heap.size w w' := by
  have HL := Lib.hid hl.1
  have HT := Lib.hid T
  have HF := Lib.hid F
  clear T F
  go_enter Tryz.func106, Tryz.ntmps106
  go_wp2_with fail
  go_loopw [3] (fun i wr => ∃ q : Nat, (q < n ∨ q = 0) ∧ i = .int .i64 ((q : Int) + 1) ∧ Below w.heap.size w wr ∧ ∀ x, x < q → l.getD x 0 < l.getD (x + 1) 0) (fun i _ => n - (intOf i).toNat)
  case atStart => exact ⟨0, .inr rfl, rfl, (belx), fun x h => absurd h (by omega)⟩
  case round =>
    obtain ⟨q, hq, rfl, hB, hG⟩ := hrel
    have HG := Lib.hid hG
    clear hG
    by_cases hlt : q + 1 < n
    · obtain ⟨bA, off, rfl, hb, hc⟩ := hl.2.1 (by omega)
      have u1 : wr.cell? ⟨bA, off + (q + 1), none⟩ = some (.int .i64 (l.getD (q + 1) 0)) := cell_at hB hb (hc (q + 1) hlt)
      have u0 : wr.cell? ⟨bA, off + q, none⟩ = some (.int .i64 (l.getD q 0)) := cell_at hB hb (hc q (by omega))
      obtain ⟨y, hy⟩ : ∃ y, l.getD (q + 1) 0 = y := ⟨_, rfl⟩
      obtain ⟨z, hz⟩ : ∃ z, l.getD q 0 = z := ⟨_, rfl⟩
      have HY := Lib.hid hy
      have HZ := Lib.hid hz
      rw [hy] at u1
      rw [hz] at u0
      clear hy hz hc
      have i1 : (q : Int) + 1 < (n : Int) := by omega
      have i2 : (0 : Int) ≤ (q : Int) := by omega
      have i3 : (q : Int) < (n : Int) := by omega
      have t1 : ((q : Int) + 1).toNat = q + 1 := by omega
      by_cases b2 : y ≤ z
      · obtain rfl := HF.out (fun h => by have := h q (by rw [HL.out]; exact hlt); rw [HY.out, HZ.out] at this; omega)
        have d2 : decide (y ≤ z) = true := decide_eq_true b2
        clear HT HF
        go_wp2_with fail
        go_quiet (fail)
        go_wp2
        go_ret
        exact ⟨rfl, below_drewN hB _⟩
      · have d2 : decide (y ≤ z) = false := decide_eq_false b2
        have HN := Lib.hid (show z < y by omega)
        go_wp2_with fail
        go_quiet (fail)
        go_wp2
        go_roundw
        case rel => exact ⟨q + 1, .inl hlt, by go_num, below_drewN hB _, fun x hx => by rcases Nat.lt_succ_iff_lt_or_eq.1 hx with h | rfl; exact HG.out x h; rw [HY.out, HZ.out]; exact HN.out⟩
        case measure => simp [intOf]; omega
    · obtain rfl := HT.out (fun i hi => HG.out i (by rw [HL.out] at hi; omega))
      have i1 : ¬ (q : Int) + 1 < (n : Int) := by omega
      clear HT HF
      go_wp2
      go_ret
      exact ⟨rfl, hB⟩
theorem i_isIdB (x : Int) (w : World) : Calls Tryz.prog 105 #[.int .i64 x] w fun e w' => e = .returned (.bool (decide (0 ≤ x ∧ x ≤ 255))) ∧ w = w' := by
  by_cases h : 0 ≤ x ∧ x ≤ 255
  · rw [decide_eq_true h]; exact i_isId_t x w h.1 h.2
  · rw [decide_eq_false h]; exact i_isId_f x w h
theorem i4_isDue_t (x : Int) (w : World) (h1 : 0 ≤ x) (h2 : x ≤ 65535) : Calls Tryz.prog 47 #[.int .i64 x] w fun e w' => e = .returned (.bool true) ∧ w = w' := by
  go_enter Tryz.func47, Tryz.ntmps47
  go_wp2
  go_ret
  exact ⟨ret_bool (by first | (simp; done) | (simp; omega)), rfl⟩
theorem i4_isDue_f (x : Int) (w : World) (h : ¬ (0 ≤ x ∧ x ≤ 65535)) : Calls Tryz.prog 47 #[.int .i64 x] w fun e w' => e = .returned (.bool false) ∧ w = w' := by
  by_cases h1 : x < 0
  · clear h
    go_enter Tryz.func47, Tryz.ntmps47
    go_wp2
    go_ret
    exact ⟨rfl, rfl⟩
  · have h2 : 65535 < x := by omega
    clear h
    go_enter Tryz.func47, Tryz.ntmps47
    go_wp2
    go_ret
    exact ⟨ret_bool (by first | (simp; done) | (simp; omega)), rfl⟩
theorem i_IndexI_t {w : World} {B n c : Nat} {A : Option Addr} {l : List Int} (x : Int) (hl : Ints .i64 w B A n l) (hn : n ≤ 17592186043904) (hx : x ∈ l) :
    Calls Tryz.prog 112 #[.slice A n c, .int .i64 x] w fun e w' => (∃ k : Nat, e = .returned (.int .i64 k) ∧ k < 17592186043904) ∧ w = w' := by
  have HL := Lib.hid hl.1
  go_enter Tryz.func112, Tryz.ntmps112
  go_wp2_with fail
  go_loop [8] (fun i => ∃ j : Nat, j ≤ n ∧ i = .int .i64 j ∧ ∀ y ∈ l.take j, y ≠ x) (fun i => n - (intOf i).toNat)
  case atStart => exact ⟨0, by omega, rfl, al0⟩
  case round =>
    obtain ⟨j, hj, rfl, hG⟩ := hrel
    have HG := Lib.hid hG
    clear hG
    by_cases hlt : j < n
    · obtain ⟨b, off, rfl, hb, hcell, hwf⟩ := hl.at_ hlt
      have HA := Lib.hid (atI HL.out hlt)
      obtain ⟨y, hy⟩ : ∃ y, l.getD j 0 = y := ⟨_, rfl⟩
      rw [hy] at hcell HA
      clear hy hwf
      by_cases he : x = y
      · subst he
        go_wp2
        go_ret
        exact ⟨⟨j, rfl, by omega⟩, rfl⟩
      · have q : (x == y) = false := by simpa using he
        have HN := Lib.hid (fun e : y = x => he e.symm)
        clear he
        go_wp2
        go_round
        case rel => exact ⟨j + 1, by omega, by go_num, alS HG.out HA.out HN.out⟩
        case measure => simp [intOf]; omega
    · exact absurd rfl (alE HG.out (by rw [HL.out]; omega) x hx)
theorem i_IndexI_f {w : World} {B n c : Nat} {A : Option Addr} {l : List Int} (x : Int) (hl : Ints .i64 w B A n l) (hn : n ≤ 17592186043904) (hx : x ∉ l) :
    Calls Tryz.prog 112 #[.slice A n c, .int .i64 x] w fun e w' => e = .returned (.int .i64 (-1)) ∧ w = w' := by
  have HL := Lib.hid hl.1
  have HX := Lib.hid hx
  clear hx
  go_enter Tryz.func112, Tryz.ntmps112
  go_wp2_with fail
  go_loop [8] (fun i => ∃ j : Nat, j ≤ n ∧ i = .int .i64 j) (fun i => n - (intOf i).toNat)
  case atStart => exact ⟨0, by omega, rfl⟩
  case round =>
    obtain ⟨j, hj, rfl⟩ := hrel
    by_cases hlt : j < n
    · obtain ⟨b, off, rfl, hb, hcell, hwf⟩ := hl.at_ hlt
      have HA := Lib.hid (atI HL.out hlt)
      obtain ⟨y, hy⟩ : ∃ y, l.getD j 0 = y := ⟨_, rfl⟩
      rw [hy] at hcell HA
      clear hy hwf
      have q : (x == y) = false := by simp; rintro rfl; exact HX.out (alMem HA.out)
      go_wp2
      go_round
      case rel => exact ⟨j + 1, by omega, by go_num⟩
      case measure => simp [intOf]; omega
    · obtain rfl : n = j := by omega
      go_wp2
      go_ret
      exact ⟨rfl, rfl⟩
theorem i_ContainsI {w : World} {B n c : Nat} {A : Option Addr} {l : List Int} (x : Int) (hl : Ints .i64 w B A n l) (hn : n ≤ 17592186043904) :
    Calls Tryz.prog 49 #[.slice A n c, .int .i64 x] w fun e w' => e = .returned (.bool (decide (x ∈ l))) ∧ w = w' := by
  by_cases hx : x ∈ l
  · have HR := Lib.hid (show decide (x ∈ l) = true from decide_eq_true hx)
    go_enter Tryz.func49, Tryz.ntmps49
    go_wp2_with fail
    refine (i_IndexI_t x hl hn hx).mono ?_
    rintro e w' ⟨⟨k, rfl, hk⟩, rfl⟩
    clear hx
    go_wp2
    go_ret
    exact ⟨ret_bool (by first | (rw [HR.out]; done) | (rw [HR.out]; simp; done) | (rw [HR.out]; simp; omega)), rfl⟩
  · have HR := Lib.hid (show decide (x ∈ l) = false from decide_eq_false hx)
    go_enter Tryz.func49, Tryz.ntmps49
    go_wp2_with fail
    refine (i_IndexI_f x hl hn hx).mono ?_
    rintro e w' ⟨rfl, rfl⟩
    clear hx
    go_wp2
    go_ret
    exact ⟨ret_bool HR.out.symm, rfl⟩
theorem i_PcAt {w : World} {cs : List Value} {p : DPiece} (h : tPiece.R w w.heap.size cs p) :
    Calls Tryz.prog 114 #[.agg cs.toArray] w fun e w' => e = .returned (.int .i64 p.2.1) ∧ Below w.heap.size w w' := by
  obtain ⟨A3, n3, c3, rfl, hi0, hi1, hi2, ha3, hb3, hl3, hr3⟩ := openPiece h
  go_enter Tryz.func114, Tryz.ntmps114
  go_wp2
  go_ret
  exact ⟨rfl, (belx)⟩
theorem i_lacking (A3 : Option Addr) (n3 c3 : Nat) (x0 x1 x2 y : Int) (w : World) (hy : IntKind.i64.wrap (x1 - (n3 : Int)) = y) :
    Calls Tryz.prog 53 #[.agg #[.int .i64 x0, .int .i64 x1, .int .i64 x2, .slice A3 n3 c3]] w fun e w' => e = .returned (.int .i64 y) ∧ Below w.heap.size w w' := by
  go_enter Tryz.func53, Tryz.ntmps53
  go_wp2
  go_ret
  exact ⟨rfl, (belx)⟩
/-- What isPartial asks of each fragment. -/
def pcW (x0 x1 : Int) (p : DPiece) : Bool := decide (PcOk p ∧ p.1 = x0 ∧ p.2.2.1 = x1)
theorem i_isPart1 {w : World} {g : Nat} {cs : List Value} {p : DPiece} {x0 x1 : Int} (h : tPiece.R w w.heap.size cs p) (hz : szPiece p ≤ 1048576) (hg0 : w.cell? ⟨g, 0, none⟩ = some (.int .i64 x0)) (hg1 : w.cell? ⟨g, 1, none⟩ = some (.int .i64 x1)) :
    Calls Tryz.prog 167 #[.agg cs.toArray, .pointer (some ⟨g, 0, none⟩)] w fun e w' => e = .returned (.bool (pcW x0 x1 p)) ∧ Below w.heap.size w w' := by
  obtain ⟨A3, n3, c3, rfl, -, -, -, -, -, -, -⟩ := openPiece h
  by_cases hp : PcOk p
  · have HP := Lib.hid (decide_eq_true hp)
    have step : ∀ (b : Bool), pcW x0 x1 p = b → Calls Tryz.prog 167 #[.agg #[.int .i64 p.1, .int .i64 p.2.1, .int .i64 p.2.2.1, .slice A3 n3 c3], .pointer (some ⟨g, 0, none⟩)] w fun e w' => e = .returned (.bool b) ∧ Below w.heap.size w w' := by
      intro b hb
      have HPW := Lib.hid hb
      clear hb
      by_cases h1 : p.1 = x0
      · by_cases h2 : p.2.2.1 = x1
        · obtain rfl : true = b := by rw [← HPW.out]; exact (decide_eq_true ⟨hp, h1, h2⟩).symm
          have d1 : (p.1 == x0) = true := by simpa using h1
          have d2 : (p.2.2.1 == x1) = true := by simpa using h2
          clear hp h1 h2
          go_enter Tryz.func167, Tryz.ntmps167
          go_wp2_with fail
          refine (i_PieceOk (tPiece.reach h ?hB) hz).mono ?_
          case hB => exact (belx)
          rintro e w1 ⟨rfl, hb1⟩
          rw [HP.out]
          have X1 := (Box.new w 37 #[.int .i64 p.1, .int .i64 p.2.1, .int .i64 p.2.2.1, .slice A3 n3 c3]).below hb1 (by simp)
          have x0' := X1.cell 0
          have x2' := X1.cell 2
          have hB1 : Below w.heap.size w w1 := bel_trans (belx) hb1
          have g0 := cell_bel hB1 hg0
          have g1 := cell_bel hB1 hg1
          go_wp2
          go_ret
          exact ⟨ret_bool (by first | exact d2 | (simp [d1, d2]; done)), hB1⟩
        · obtain rfl : false = b := by rw [← HPW.out]; exact (decide_eq_false fun h => h2 h.2.2).symm
          have d1 : (p.1 == x0) = true := by simpa using h1
          have d2 : (p.2.2.1 == x1) = false := by simpa using h2
          clear hp h1 h2
          go_enter Tryz.func167, Tryz.ntmps167
          go_wp2_with fail
          refine (i_PieceOk (tPiece.reach h ?hB) hz).mono ?_
          case hB => exact (belx)
          rintro e w1 ⟨rfl, hb1⟩
          rw [HP.out]
          have X1 := (Box.new w 37 #[.int .i64 p.1, .int .i64 p.2.1, .int .i64 p.2.2.1, .slice A3 n3 c3]).below hb1 (by simp)
          have x0' := X1.cell 0
          have x2' := X1.cell 2
          have hB1 : Below w.heap.size w w1 := bel_trans (belx) hb1
          have g0 := cell_bel hB1 hg0
          have g1 := cell_bel hB1 hg1
          go_wp2
          go_ret
          exact ⟨ret_bool (by first | exact d2 | (simp [d1, d2]; done)), hB1⟩
      · obtain rfl : false = b := by rw [← HPW.out]; exact (decide_eq_false fun h => h1 h.2.1).symm
        have d1 : (p.1 == x0) = false := by simpa using h1
        clear hp h1
        go_enter Tryz.func167, Tryz.ntmps167
        go_wp2_with fail
        refine (i_PieceOk (tPiece.reach h ?hB) hz).mono ?_
        case hB => exact (belx)
        rintro e w1 ⟨rfl, hb1⟩
        rw [HP.out]
        have X1 := (Box.new w 37 #[.int .i64 p.1, .int .i64 p.2.1, .int .i64 p.2.2.1, .slice A3 n3 c3]).below hb1 (by simp)
        have x0' := X1.cell 0
        have x2' := X1.cell 2
        have hB1 : Below w.heap.size w w1 := bel_trans (belx) hb1
        have g0 := cell_bel hB1 hg0
        have g1 := cell_bel hB1 hg1
        go_wp2
        go_ret
        exact ⟨rfl, hB1⟩
    exact step _ rfl
  · have HP := Lib.hid (decide_eq_false hp)
    have HR := Lib.hid (show pcW x0 x1 p = false from decide_eq_false fun h => hp h.1)
    rw [HR.out]
    clear hp
    go_enter Tryz.func167, Tryz.ntmps167
    go_wp2_with fail
    refine (i_PieceOk (tPiece.reach h ?hB) hz).mono ?_
    case hB => exact (belx)
    rintro e w1 ⟨rfl, hb1⟩
    rw [HP.out]
    go_wp2
    go_ret
    exact ⟨rfl, bel_trans (belx) hb1⟩
theorem pcs_sz {r : List DPiece} {i : Nat} {a : DPiece} (h : rsz szPiece r ≤ 1048576) (ha : r[i]? = some a) : szPiece a ≤ 1048576 := by
  have := rsz_step (s := szPiece) ha; omega
theorem pcs_wf {w : World} {B n c : Nat} {A : Option Addr} {r : List DPiece} (h : tPiece.row.R w B [.slice A n c] r) : ∀ a ∈ r, (Lit.int .i64 a.2.1).wf = true := by
  intro a ha
  obtain ⟨i, hi, rfl⟩ := List.getElem_of_mem ha
  obtain ⟨b, bb, off, es, hb, -, -, -, hR⟩ := rowR_at (K := 4) h (show i < n by have := (rowR_len h).1; omega) rfl
  rw [List.getElem?_eq_getElem hi] at hb
  injection hb with hb
  subst hb
  obtain ⟨A3, n3, c3, rfl, hi0, hi1, hi2, -, -, -, -⟩ := openPiece hR
  exact hi1
set_option maxHeartbeats 8000000 in
theorem i_isPartialN {w : World} {A3 : Option Addr} {n3 c3 : Nat} {x0 x1 x2 : Int} {r3 : List DPiece} (b : Bool) (T : WhN (x0, x1, x2, r3) → b = true) (F : ¬ WhN (x0, x1, x2, r3) → b = false)
    (rg1 : -9223372036854775808 ≤ x1 ∧ x1 ≤ 9223372036854775807) (h3 : tPiece.row.R w w.heap.size [.slice A3 n3 c3] r3) (hz : rsz szPiece r3 ≤ 1048576) :
    Calls Tryz.prog 111 #[.agg #[.int .i64 x0, .int .i64 x1, .int .i64 x2, .slice A3 n3 c3]] w fun e w' => e = .returned (.bool b) ∧ Below w.heap.size w w' := by
  obtain ⟨e0, hnc, hcm⟩ := rowR_len h3
  have hn : n3 ≤ 1048576 := by have := rsz_le (s := szPiece) r3; omega
  have HL := Lib.hid e0
  have HZ := Lib.hid hz
  have HT := Lib.hid T
  have HF := Lib.hid F
  have hwf := Lib.hid (pcs_wf h3)
  clear T F e0 hz
  by_cases hd : 0 ≤ x2 ∧ x2 ≤ 65535
  rotate_left
  · obtain rfl := HF.out (fun h => hd h.1)
    clear HT HF
    go_enter Tryz.func111, Tryz.ntmps111
    go_wp2_with (go_at_call 47; refine (i4_isDue_f _ _ hd).mono ?_; rintro e w' ⟨rfl, rfl⟩)
    go_ret
    exact ⟨rfl, (belx)⟩
  obtain ⟨hd1, hd2⟩ := hd
  by_cases hn0 : n3 = 0
  · subst hn0
    obtain rfl := HF.out (fun h => by have := h.2.1.1; have := HL.out; dsimp only at *; omega)
    clear HT HF
    go_enter Tryz.func111, Tryz.ntmps111
    go_wp2_with (go_at_call 47; refine (i4_isDue_t _ _ hd1 hd2).mono ?_; rintro e w' ⟨rfl, rfl⟩)
    go_ret
    exact ⟨rfl, (belx)⟩
  have q0 : (0 : Int) < (n3 : Int) := by omega
  by_cases hlow : x1 ≤ (n3 : Int)
  · obtain rfl := HF.out (fun h => by have := h.2.1.2; have := HL.out; dsimp only at *; omega)
    by_cases hov : -9223372036854775808 ≤ x1 - (n3 : Int)
    · obtain ⟨y, hy, hy0⟩ : ∃ y, IntKind.i64.wrap (x1 - (n3 : Int)) = y ∧ y ≤ 0 := ⟨_, IntWalk.i64_in _ (by omega), by omega⟩
      clear HT HF hlow hov
      go_enter Tryz.func111, Tryz.ntmps111
      go_wp2_with (first
        | (go_at_call 47; refine (i4_isDue_t _ _ hd1 hd2).mono ?_; rintro e w' ⟨rfl, rfl⟩)
        | (go_at_call 53; refine (i_lacking _ _ _ _ _ _ y _ hy).mono ?_; rintro e w1 ⟨rfl, hb1⟩; have X1 := (Box.new w 86 #[.int .i64 x0, .int .i64 x1, .int .i64 x2, .slice A3 n3 c3]).below hb1 (by simp); have k0 := X1.cell 0; have k1 := X1.cell 1; have k3 := X1.cell 3; have hB1 : Below w.heap.size w w1 := bel_trans (belx) hb1))
      go_ret
      exact ⟨rfl, hB1⟩
    · obtain ⟨y, hy, hy0⟩ : ∃ y, IntKind.i64.wrap (x1 - (n3 : Int)) = y ∧ 0 < y := ⟨x1 - (n3 : Int) + 18446744073709551616, by have hb64 : IntKind.i64.bits = 64 := rfl; simp only [IntKind.wrap, hb64]; simp; omega, by omega⟩
      have HE := Lib.hid (show (r3.all (pcW x0 x1)) = false from by
        obtain ⟨a, ha⟩ : ∃ a, r3[0]? = some a := ⟨_, List.getElem?_eq_getElem (by rw [HL.out]; omega)⟩
        exact alF ha (decide_eq_false fun h => by have h1 := h.1; have h2 := h.2.2; unfold PcOk PcN at h1; omega))
      clear HT HF hlow hov
      go_enter Tryz.func111, Tryz.ntmps111
      go_wp2_with (go_at_call 47; refine (i4_isDue_t _ _ hd1 hd2).mono ?_; rintro e w' ⟨rfl, rfl⟩)
      refine (i_lacking _ _ _ _ _ _ y _ hy).mono ?_
      rintro e w1 ⟨rfl, hb1⟩
      have X1 := (Box.new w 86 #[.int .i64 x0, .int .i64 x1, .int .i64 x2, .slice A3 n3 c3]).below hb1 (by simp)
      have k0 := X1.cell 0
      have k1 := X1.cell 1
      have k3 := X1.cell 3
      have hB1 : Below w.heap.size w w1 := bel_trans (belx) hb1
      go_wp2_with fail
      refine (i_evryPieceV 167 (.pointer (some ⟨w.heap.size, 0, none⟩)) (pcW x0 x1) (fun _ _ => rfl) (fun i a w' cs ha hBw hR => i_isPart1 hR (pcs_sz HZ.out ha) (cell_bel hBw k0) (cell_bel hBw k1)) (tPiece.row.reach h3 hB1) (by omega)).mono ?_
      rintro e w2 ⟨rfl, hb2⟩
      rw [HE.out]
      have X2 := X1.below hb2 X1.size
      have m3 := X2.cell 3
      have hB2 : Below w.heap.size w w2 := bel_trans hB1 hb2
      go_wp2
      go_ret
      exact ⟨rfl, hB2⟩
  obtain ⟨y, hy, hy0⟩ : ∃ y, IntKind.i64.wrap (x1 - (n3 : Int)) = y ∧ 0 < y := ⟨_, IntWalk.i64_in _ (by omega), by omega⟩
  by_cases ha : ∀ p ∈ r3, PcOk p ∧ p.1 = x0 ∧ p.2.2.1 = x1
  rotate_left
  · obtain rfl := HF.out (fun h => ha h.2.2.1)
    have HE := Lib.hid (show (r3.all (pcW x0 x1)) = false from alDecF ha)
    clear HT HF ha
    go_enter Tryz.func111, Tryz.ntmps111
    go_wp2_with (go_at_call 47; refine (i4_isDue_t _ _ hd1 hd2).mono ?_; rintro e w' ⟨rfl, rfl⟩)
    refine (i_lacking _ _ _ _ _ _ y _ hy).mono ?_
    rintro e w1 ⟨rfl, hb1⟩
    have X1 := (Box.new w 86 #[.int .i64 x0, .int .i64 x1, .int .i64 x2, .slice A3 n3 c3]).below hb1 (by simp)
    have k0 := X1.cell 0
    have k1 := X1.cell 1
    have k3 := X1.cell 3
    have hB1 : Below w.heap.size w w1 := bel_trans (belx) hb1
    go_wp2_with fail
    refine (i_evryPieceV 167 (.pointer (some ⟨w.heap.size, 0, none⟩)) (pcW x0 x1) (fun _ _ => rfl) (fun i a w' cs ha hBw hR => i_isPart1 hR (pcs_sz HZ.out ha) (cell_bel hBw k0) (cell_bel hBw k1)) (tPiece.row.reach h3 hB1) (by omega)).mono ?_
    rintro e w2 ⟨rfl, hb2⟩
    rw [HE.out]
    have X2 := X1.below hb2 X1.size
    have m3 := X2.cell 3
    have hB2 : Below w.heap.size w w2 := bel_trans hB1 hb2
    go_wp2
    go_ret
    exact ⟨rfl, hB2⟩
  have HE := Lib.hid (show (r3.all (pcW x0 x1)) = true from alDec ha)
  obtain ⟨ats, hats⟩ : ∃ L, (r3.map fun p => p.2.1) = L := ⟨_, rfl⟩
  have HATS := Lib.hid hats
  have HTA := Lib.hid (show Asc ats → b = true from fun h => HT.out ⟨⟨hd1, hd2⟩, ⟨by have := HL.out; dsimp only; omega, by have := HL.out; dsimp only; omega⟩, ha, by show Asc (r3.map fun p => p.2.1); rw [hats]; exact h⟩)
  have HFA := Lib.hid (show ¬ Asc ats → b = false from fun h => HF.out fun hh => h (by rw [← hats]; exact hh.2.2.2))
  have hl5 : ats.length ≤ 17592186043904 := by rw [← hats, List.length_map, HL.out]; omega
  clear HT HF ha hlow hats
  go_enter Tryz.func111, Tryz.ntmps111
  go_wp2_with (go_at_call 47; refine (i4_isDue_t _ _ hd1 hd2).mono ?_; rintro e w' ⟨rfl, rfl⟩)
  refine (i_lacking _ _ _ _ _ _ y _ hy).mono ?_
  rintro e w1 ⟨rfl, hb1⟩
  have X1 := (Box.new w 86 #[.int .i64 x0, .int .i64 x1, .int .i64 x2, .slice A3 n3 c3]).below hb1 (by simp)
  have k0 := X1.cell 0
  have k1 := X1.cell 1
  have k3 := X1.cell 3
  have hB1 : Below w.heap.size w w1 := bel_trans (belx) hb1
  go_wp2_with fail
  refine (i_evryPieceV 167 (.pointer (some ⟨w.heap.size, 0, none⟩)) (pcW x0 x1) (fun _ _ => rfl) (fun i a w' cs ha hBw hR => i_isPart1 hR (pcs_sz HZ.out ha) (cell_bel hBw k0) (cell_bel hBw k1)) (tPiece.row.reach h3 hB1) (by omega)).mono ?_
  rintro e w2 ⟨rfl, hb2⟩
  rw [HE.out]
  have X2 := X1.below hb2 X1.size
  have m3 := X2.cell 3
  have hB2 : Below w.heap.size w w2 := bel_trans hB1 hb2
  go_wp2_with fail
  refine (i_eachPieceI 114 (fun p => p.2.1) (fun _ _ => rfl) (fun i a w' cs ha hBw hR => i_PcAt hR) hwf.out (tPiece.row.reach h3 hB2) hn).mono ?_
  rintro e w3 ⟨v, rfl, hO, hb3⟩
  rw [HATS.out] at hO
  obtain ⟨A5, c5, rfl, hle5, hI5, -⟩ := hO.ints
  have hB3 : Below w.heap.size w w3 := bel_trans hB2 hb3
  go_wp2_with fail
  refine (i_isAsc b HTA.out HFA.out hI5 hl5).mono ?_
  rintro e w4 ⟨rfl, hb4⟩
  go_wp2
  go_ret
  exact ⟨rfl, bel_trans hB3 hb4⟩
theorem i_WhId {w : World} {cs : List Value} {p : DWhole} (h : tWhole.R w w.heap.size cs p) :
    Calls Tryz.prog 108 #[.agg cs.toArray] w fun e w' => e = .returned (.int .i64 p.1) ∧ Below w.heap.size w w' := by
  obtain ⟨A3, n3, c3, rfl, hi0, hi1, hi2, ha3, hb3, hl3, hr3⟩ := openWhole h
  go_enter Tryz.func108, Tryz.ntmps108
  go_wp2
  go_ret
  exact ⟨rfl, (belx)⟩
theorem whs_sz {r : List DWhole} {i : Nat} {a : DWhole} (h : rsz szWhole r ≤ 1048576) (ha : r[i]? = some a) : szWhole a ≤ 1048576 := by
  have := rsz_step (s := szWhole) ha; omega
theorem whs_wf {w : World} {B n c : Nat} {A : Option Addr} {r : List DWhole} (h : tWhole.row.R w B [.slice A n c] r) : ∀ a ∈ r, (Lit.int .i64 a.1).wf = true := by
  intro a ha
  obtain ⟨i, hi, rfl⟩ := List.getElem_of_mem ha
  obtain ⟨b, bb, off, es, hb, -, -, -, hR⟩ := rowR_at (K := 4) h (show i < n by have := (rowR_len h).1; omega) rfl
  rw [List.getElem?_eq_getElem hi] at hb
  injection hb with hb
  subst hb
  obtain ⟨A3, n3, c3, rfl, hi0, hi1, hi2, -, -, -, -⟩ := openWhole hR
  exact hi0
/-- What DeskOk asks of each message. -/
noncomputable def whB (l1 : List Int) (a : DWhole) : Bool := @decide (WhN a ∧ a.1 ∉ l1) (Classical.propDecidable _)
theorem whB_t {l1 : List Int} {a : DWhole} (h : WhN a ∧ a.1 ∉ l1) : whB l1 a = true := @decide_eq_true _ (Classical.propDecidable _) h
theorem whB_f {l1 : List Int} {a : DWhole} (h : ¬ (WhN a ∧ a.1 ∉ l1)) : whB l1 a = false := @decide_eq_false _ (Classical.propDecidable _) h
theorem i_DeskOk1 {w : World} {g n1 c1 : Nat} {A1 : Option Addr} {cs : List Value} {a : DWhole} {l1 : List Int} (h : tWhole.R w w.heap.size cs a) (hz : szWhole a ≤ 1048576) (hg1 : w.cell? ⟨g, 1, none⟩ = some (.slice A1 n1 c1)) (hl : Ints .i64 w w.heap.size A1 n1 l1) (hn : n1 ≤ 17592186043904) :
    Calls Tryz.prog 110 #[.agg cs.toArray, .pointer (some ⟨g, 0, none⟩)] w fun e w' => e = .returned (.bool (whB l1 a)) ∧ Below w.heap.size w w' := by
  obtain ⟨A3, n3, c3, rfl, hi0, hi1, hi2, ha3, hb3, hl3, hr3⟩ := openWhole h
  have rg1 := i64_rg hi1
  by_cases hp : WhN a
  · have step : ∀ (b : Bool), whB l1 a = b → Calls Tryz.prog 110 #[.agg #[.int .i64 a.1, .int .i64 a.2.1, .int .i64 a.2.2.1, .slice A3 n3 c3], .pointer (some ⟨g, 0, none⟩)] w fun e w' => e = .returned (.bool b) ∧ Below w.heap.size w w' := by
      intro b hb
      have HBB := Lib.hid hb
      have HPN := Lib.hid (show WhN (a.1, a.2.1, a.2.2.1, a.2.2.2) from hp)
      have HMM := Lib.hid (show (!decide (a.1 ∈ l1)) = b from by
        rw [← hb]
        by_cases hm : a.1 ∈ l1
        · rw [decide_eq_true hm, whB_f fun h => h.2 hm]; rfl
        · rw [decide_eq_false hm, whB_t ⟨hp, hm⟩]; rfl)
      clear hb hp
      go_enter Tryz.func110, Tryz.ntmps110
      go_wp2_with fail
      refine (i_isPartialN true (fun _ => rfl) (fun h => absurd HPN.out h) rg1 (tPiece.row.reach hr3 ?hB) hz).mono ?_
      case hB => exact (belx)
      rintro e w1 ⟨rfl, hb1⟩
      have X1 := (Box.new w 86 #[.int .i64 a.1, .int .i64 a.2.1, .int .i64 a.2.2.1, .slice A3 n3 c3]).below hb1 (by simp)
      have x0' := X1.cell 0
      have hB1 : Below w.heap.size w w1 := bel_trans (belx) hb1
      have g1 := cell_bel hB1 hg1
      go_wp2_with fail
      refine (i_ContainsI a.1 (reach hl hB1) hn).mono ?_
      rintro e w2 ⟨rfl, rfl⟩
      go_wp2
      go_ret
      exact ⟨ret_bool HMM.out, hB1⟩
    exact step _ rfl
  · have HR := Lib.hid (show whB l1 a = false from whB_f fun h => hp h.1)
    rw [HR.out]
    have HPN := Lib.hid (show ¬ WhN (a.1, a.2.1, a.2.2.1, a.2.2.2) from hp)
    clear hp
    go_enter Tryz.func110, Tryz.ntmps110
    go_wp2_with fail
    refine (i_isPartialN false (fun h => absurd h HPN.out) (fun _ => rfl) rg1 (tPiece.row.reach hr3 ?hB) hz).mono ?_
    case hB => exact (belx)
    rintro e w1 ⟨rfl, hb1⟩
    go_wp2
    go_ret
    exact ⟨rfl, bel_trans (belx) hb1⟩
set_option maxHeartbeats 2000000 in
theorem i_DeskOkN {w : World} {A0 A1 : Option Addr} {n0 c0 n1 c1 : Nat} {r0 : List DWhole} {l1 : List Int} (b : Bool) (T : DkOk (r0, l1) → b = true) (F : ¬ DkOk (r0, l1) → b = false)
    (h0 : tWhole.row.R w w.heap.size [.slice A0 n0 c0] r0) (h1 : tIs.R w w.heap.size [.slice A1 n1 c1] l1) (hsz : rsz szWhole r0 ≤ 1048576) (hn1 : n1 ≤ 1048576) :
    Calls Tryz.prog 45 #[.agg #[.slice A0 n0 c0, .slice A1 n1 c1]] w fun e w' => e = .returned (.bool b) ∧ Below w.heap.size w w' := by
  obtain ⟨e0, hnc0, hcm0⟩ := rowR_len h0
  have hl1 := (slR_ints h1).1
  have hn0 : n0 ≤ 1048576 := by have := rsz_le (s := szWhole) r0; omega
  have E0 := Lib.hid e0
  have E1 := Lib.hid hl1.1
  have HT := Lib.hid T
  have HF := Lib.hid F
  have HS0 := Lib.hid hsz
  have hwf := Lib.hid (whs_wf h0)
  clear T F e0 h1 hsz
  by_cases a0 : ∀ x ∈ l1, 0 ≤ x ∧ x ≤ 255
  rotate_left
  · obtain rfl := HF.out (fun h => a0 h.2.1)
    have HA0 := Lib.hid (show (l1.all fun x => decide (0 ≤ x ∧ x ≤ 255)) = false from alDecF a0)
    clear HT HF a0
    go_enter Tryz.func45, Tryz.ntmps45
    go_wp2_with fail
    refine (i_everyI 105 (fun x => decide (0 ≤ x ∧ x ≤ 255)) (fun x w => rfl) i_isIdB (reach hl1 ?hB) (by omega)).mono ?_
    case hB => exact (belx)
    rintro e w1 ⟨rfl, rfl⟩
    rw [HA0.out]
    go_wp2
    go_ret
    exact ⟨rfl, (belx)⟩
  have HA0 := Lib.hid (show (l1.all fun x => decide (0 ≤ x ∧ x ≤ 255)) = true from alDec a0)
  by_cases a1 : Asc l1
  rotate_left
  · obtain rfl := HF.out (fun h => a1 h.2.2.1)
    have HA1 := Lib.hid a1
    clear HT HF a0 a1
    go_enter Tryz.func45, Tryz.ntmps45
    go_wp2_with fail
    refine (i_everyI 105 (fun x => decide (0 ≤ x ∧ x ≤ 255)) (fun x w => rfl) i_isIdB (reach hl1 ?hB) (by omega)).mono ?_
    case hB => exact (belx)
    rintro e w1 ⟨rfl, rfl⟩
    rw [HA0.out]
    go_wp2_with fail
    refine (i_isAsc false (fun h => absurd h HA1.out) (fun _ => rfl) (reach hl1 ?hB) (by omega)).mono ?_
    case hB => exact (belx)
    rintro e w2 ⟨rfl, hb2⟩
    have X2 := (Box.new w 33 #[.slice A0 n0 c0, .slice A1 n1 c1]).below hb2 (by simp)
    have k0 := X2.cell 0
    have k1 := X2.cell 1
    have hB2 : Below w.heap.size w w2 := bel_trans (belx) hb2
    go_wp2
    go_ret
    exact ⟨rfl, hB2⟩
  have HA1 := Lib.hid a1
  by_cases g0 : n0 ≤ 6
  rotate_left
  · obtain rfl := HF.out (fun h => by have := h.1; have := E0.out; dsimp only at *; omega)
    have q : ¬ (n0 : Int) ≤ 6 := by omega
    clear HT HF a0 a1
    go_enter Tryz.func45, Tryz.ntmps45
    go_wp2_with fail
    refine (i_everyI 105 (fun x => decide (0 ≤ x ∧ x ≤ 255)) (fun x w => rfl) i_isIdB (reach hl1 ?hB) (by omega)).mono ?_
    case hB => exact (belx)
    rintro e w1 ⟨rfl, rfl⟩
    rw [HA0.out]
    go_wp2_with fail
    refine (i_isAsc true (fun _ => rfl) (fun h => absurd HA1.out h) (reach hl1 ?hB) (by omega)).mono ?_
    case hB => exact (belx)
    rintro e w2 ⟨rfl, hb2⟩
    have X2 := (Box.new w 33 #[.slice A0 n0 c0, .slice A1 n1 c1]).below hb2 (by simp)
    have k0 := X2.cell 0
    have k1 := X2.cell 1
    have hB2 : Below w.heap.size w w2 := bel_trans (belx) hb2
    go_wp2
    go_ret
    exact ⟨rfl, hB2⟩
  have q : (n0 : Int) ≤ 6 := by omega
  obtain ⟨ids, hids⟩ : ∃ L, (r0.map fun p => p.1) = L := ⟨_, rfl⟩
  have HIDS := Lib.hid hids
  have hl5 : ids.length ≤ 17592186043904 := by rw [← hids, List.length_map, E0.out]; omega
  by_cases a3 : Asc ids
  rotate_left
  · obtain rfl := HF.out (fun h => a3 (by rw [← hids]; exact h.2.2.2.1))
    have HA3 := Lib.hid a3
    clear HT HF a0 a1 a3 hids
    go_enter Tryz.func45, Tryz.ntmps45
    go_wp2_with fail
    refine (i_everyI 105 (fun x => decide (0 ≤ x ∧ x ≤ 255)) (fun x w => rfl) i_isIdB (reach hl1 ?hB) (by omega)).mono ?_
    case hB => exact (belx)
    rintro e w1 ⟨rfl, rfl⟩
    rw [HA0.out]
    go_wp2_with fail
    refine (i_isAsc true (fun _ => rfl) (fun h => absurd HA1.out h) (reach hl1 ?hB) (by omega)).mono ?_
    case hB => exact (belx)
    rintro e w2 ⟨rfl, hb2⟩
    have X2 := (Box.new w 33 #[.slice A0 n0 c0, .slice A1 n1 c1]).below hb2 (by simp)
    have k0 := X2.cell 0
    have k1 := X2.cell 1
    have hB2 : Below w.heap.size w w2 := bel_trans (belx) hb2
    go_wp2_with fail
    refine (i_eachWholeI 108 (fun p => p.1) (fun _ _ => rfl) (fun i a w' cs ha hBw hR => i_WhId hR) hwf.out (tWhole.row.reach h0 hB2) (by omega)).mono ?_
    rintro e w3 ⟨v, rfl, hO, hb3⟩
    rw [HIDS.out] at hO
    obtain ⟨A5, c5, rfl, hle5, hI5, -⟩ := hO.ints
    have hB3 : Below w.heap.size w w3 := bel_trans hB2 hb3
    have X3 := X2.below hb3 X2.size
    go_wp2_with fail
    refine (i_isAsc false (fun h => absurd h HA3.out) (fun _ => rfl) hI5 hl5).mono ?_
    rintro e w4 ⟨rfl, hb4⟩
    have X4 := X3.below hb4 X3.size
    clear k0 k1
    have k0 := X4.cell 0
    have k1 := X4.cell 1
    have hB4 : Below w.heap.size w w4 := bel_trans hB3 hb4
    go_wp2
    go_ret
    exact ⟨rfl, hB4⟩
  have HA3 := Lib.hid a3
  have HB := Lib.hid (show (r0.all (whB l1)) = b from by
    by_cases a4 : ∀ a ∈ r0, WhN a ∧ a.1 ∉ l1
    · rw [HT.out ⟨by have := E0.out; dsimp only; omega, a0, a1, by show Asc (r0.map fun p => p.1); rw [hids]; exact a3, a4⟩]; exact List.all_eq_true.2 fun x hx => whB_t (a4 x hx)
    · rw [HF.out (fun h => a4 h.2.2.2.2)]; exact Bool.eq_false_iff.2 fun hh => a4 fun x hx => Classical.byContradiction fun hc => by have := List.all_eq_true.1 hh x hx; rw [whB_f hc] at this; cases this)
  clear HT HF a0 a1 a3 hids
  go_enter Tryz.func45, Tryz.ntmps45
  go_wp2_with fail
  refine (i_everyI 105 (fun x => decide (0 ≤ x ∧ x ≤ 255)) (fun x w => rfl) i_isIdB (reach hl1 ?hB) (by omega)).mono ?_
  case hB => exact (belx)
  rintro e w1 ⟨rfl, rfl⟩
  rw [HA0.out]
  go_wp2_with fail
  refine (i_isAsc true (fun _ => rfl) (fun h => absurd HA1.out h) (reach hl1 ?hB) (by omega)).mono ?_
  case hB => exact (belx)
  rintro e w2 ⟨rfl, hb2⟩
  have X2 := (Box.new w 33 #[.slice A0 n0 c0, .slice A1 n1 c1]).below hb2 (by simp)
  have k0 := X2.cell 0
  have k1 := X2.cell 1
  have hB2 : Below w.heap.size w w2 := bel_trans (belx) hb2
  go_wp2_with fail
  refine (i_eachWholeI 108 (fun p => p.1) (fun _ _ => rfl) (fun i a w' cs ha hBw hR => i_WhId hR) hwf.out (tWhole.row.reach h0 hB2) (by omega)).mono ?_
  rintro e w3 ⟨v, rfl, hO, hb3⟩
  rw [HIDS.out] at hO
  obtain ⟨A5, c5, rfl, hle5, hI5, -⟩ := hO.ints
  have hB3 : Below w.heap.size w w3 := bel_trans hB2 hb3
  have X3 := X2.below hb3 X2.size
  go_wp2_with fail
  refine (i_isAsc true (fun _ => rfl) (fun h => absurd HA3.out h) hI5 hl5).mono ?_
  rintro e w4 ⟨rfl, hb4⟩
  have X4 := X3.below hb4 X3.size
  clear k0 k1
  have k0 := X4.cell 0
  have k1 := X4.cell 1
  have hB4 : Below w.heap.size w w4 := bel_trans hB3 hb4
  go_wp2_with fail
  refine (i_evryWholeV 110 (.pointer (some ⟨w.heap.size, 0, none⟩)) (whB l1) (fun _ _ => rfl) (fun i a w' cs ha hBw hR => i_DeskOk1 hR (whs_sz HS0.out ha) (cell_bel hBw k1) (reach hl1 (bel_trans hB4 hBw)) (by omega)) (tWhole.row.reach h0 hB4) (by omega)).mono ?_
  rintro e w5 ⟨rfl, hb5⟩
  rw [HB.out]
  go_wp2
  go_ret
  exact ⟨rfl, bel_trans hB4 hb5⟩
theorem i_DeskOk {w : World} {cs : List Value} {p : DDesk} (h : tDesk.R w w.heap.size cs p) (hz : szDesk p ≤ 1048576) :
    Calls Tryz.prog 45 #[.agg cs.toArray] w fun e w' => e = .returned (.bool (decide (DkOk p))) ∧ Below w.heap.size w w' := by
  obtain ⟨A0, n0, c0, A1, n1, c1, rfl, -, -, -, hr0, -, -, hn1, hr1⟩ := openDesk h
  unfold szDesk at hz
  exact i_DeskOkN _ (fun hh => decide_eq_true hh) (fun hh => decide_eq_false hh) hr0 hr1 (by omega) (by omega)
end Go.Proofs.YtojbicecopkfbaaGreat
