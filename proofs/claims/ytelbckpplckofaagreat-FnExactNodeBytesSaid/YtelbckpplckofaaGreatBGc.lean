/-
  LPool, LNode, Sn, All, Cip, Grow, GrowM, GrowN, Ext, AppB, Concat, Concat7, Jn, JnP: texts joined.
-/
import Derived.Test.YtelbckpplckofaaGreatBGa
import Derived.Test.YtelbckpplckofaaGreatBGb
import Derived.Deep.RegionHeld3
import Derived.Laws.BitsAllLaws
import Derived.Lib.AppendZerosOnto
import Derived.Lib.SliceRun
import Derived.LoopN
namespace Go.Proofs.YtelbckpplckofaaGreat
set_option maxRecDepth 100000
set_option linter.unusedVariables false
set_option linter.unusedSimpArgs false
open Go.ChangeShapes Go.WideShapes Go.ChangeAt Go.RowKit
theorem o_szPool_t {w : World} {cs : List Value} {p : DPool} {k : Int} (h : tPool.R w w.heap.size cs p) (h1 : 0 ≤ k) (h2 : k ≤ 1048576) (h3 : (szPool p : Int) ≤ k) :
    Calls Tryz.prog 22 #[.agg cs.toArray, .int .i64 k] w fun e w' => e = .returned (.int .i64 (k - szPool p)) ∧ Below w.heap.size w w' := by
  obtain ⟨A0, n0, c0, A1, n1, c1, rfl, ha0, hb0, hl0, hr0, ha1, hb1, hl1, hr1⟩ := openPool h
  obtain ⟨r0, l1⟩ := p
  try dsimp only [szPool] at *
  subst hl0
  subst hl1
  have d0 : decide (k - ((rsz szHeld r0 : Nat) : Int) < 0) = false := by simp; omega
  have d1 : decide (k - ((rsz szHeld r0 : Nat) : Int) - ((l1.length : Nat) : Int) < 0) = false := by simp; omega
  go_enter Tryz.func22, Tryz.ntmps22
  go_wp2_with fail
  refine (o_szHeldS_t (tHeld.row.reach hr0 ?hB) (by omega) (by omega) (by omega)).mono ?_
  case hB => exact (belx)
  rintro e w1 ⟨rfl, hb1⟩
  have hB1 : Below w.heap.size w w1 := bel_trans (belx) hb1
  have P1 : Box w1 w.heap.size 25 #[.slice A0 r0.length c0, .slice A1 l1.length c1] := (Box.new _ _ _).below hb1 (by first | (simp; done) | (simp; omega))
  have e0_1 := P1.cell 1
  go_wp2_with fail
  refine (o_szIntS_t (tIs.reach hr1 ?hB) (by omega) (by omega) (by omega)).mono ?_
  case hB => exact (belx)
  rintro e w2 ⟨rfl, hb2⟩
  have hB2 : Below w.heap.size w w2 := bel_trans (belx) hb2
  have P2 := P1.below hb2 P1.size
  go_wp2
  go_ret
  exact ⟨ret_int (by omega), hB2⟩
theorem o_szPool_f {w : World} {cs : List Value} {p : DPool} {k : Int} (h : tPool.R w w.heap.size cs p) (h1 : 0 ≤ k) (h2 : k ≤ 1048576) (h3 : ¬ (szPool p : Int) ≤ k) :
    Calls Tryz.prog 22 #[.agg cs.toArray, .int .i64 k] w fun e w' => e = .returned (.int .i64 (-1)) ∧ Below w.heap.size w w' := by
  obtain ⟨A0, n0, c0, A1, n1, c1, rfl, ha0, hb0, hl0, hr0, ha1, hb1, hl1, hr1⟩ := openPool h
  obtain ⟨r0, l1⟩ := p
  try dsimp only [szPool] at *
  subst hl0
  subst hl1
  by_cases g0 : (((rsz szHeld r0) : Nat) : Int) ≤ k
  rotate_left
  · go_enter Tryz.func22, Tryz.ntmps22
    go_wp2_with fail
    refine (o_szHeldS_f (tHeld.row.reach hr0 ?hB) (by omega) (by omega) (by omega)).mono ?_
    case hB => exact (belx)
    rintro e w1 ⟨rfl, hb1⟩
    have hB1 : Below w.heap.size w w1 := bel_trans (belx) hb1
    have P1 : Box w1 w.heap.size 25 #[.slice A0 r0.length c0, .slice A1 l1.length c1] := (Box.new _ _ _).below hb1 (by first | (simp; done) | (simp; omega))
    go_wp2
    go_ret
    exact ⟨rfl, hB1⟩
  have d0 : decide (k - ((rsz szHeld r0 : Nat) : Int) < 0) = false := by simp; omega
  go_enter Tryz.func22, Tryz.ntmps22
  go_wp2_with fail
  refine (o_szHeldS_t (tHeld.row.reach hr0 ?hB) (by omega) (by omega) (by omega)).mono ?_
  case hB => exact (belx)
  rintro e w1 ⟨rfl, hb1⟩
  have hB1 : Below w.heap.size w w1 := bel_trans (belx) hb1
  have P1 : Box w1 w.heap.size 25 #[.slice A0 r0.length c0, .slice A1 l1.length c1] := (Box.new _ _ _).below hb1 (by first | (simp; done) | (simp; omega))
  have e0_1 := P1.cell 1
  go_wp2_with fail
  refine (o_szIntS_f (tIs.reach hr1 ?hB) (by omega) (by omega) (by omega)).mono ?_
  case hB => exact (belx)
  rintro e w2 ⟨rfl, hb2⟩
  have hB2 : Below w.heap.size w w2 := bel_trans (belx) hb2
  have P2 := P1.below hb2 P1.size
  go_wp2
  go_ret
  exact ⟨rfl, hB2⟩
set_option maxHeartbeats 400000 in
theorem o_toPool {w : World} {cs : List Value} {p : DPool} (h : tPool.R w w.heap.size cs p) (hn : szPool p ≤ 1048576) :
    Calls Tryz.prog 31 #[.agg cs.toArray] w fun e w' => ∃ cs' F, e = .returned (.agg cs'.toArray) ∧ tPool.O w' cs' p F ∧ New w.heap.size F ∧ Below w.heap.size w w' := by
  obtain ⟨A0, n0, c0, A1, n1, c1, rfl, ha0, hb0, hl0, hr0, ha1, hb1, hl1, hr1⟩ := openPool h
  obtain ⟨r0, l1⟩ := p
  try dsimp only [szPool] at *
  subst hl0
  subst hl1
  go_enter Tryz.func31, Tryz.ntmps31
  go_wp2_with fail
  refine (o_toHeldS (tHeld.row.reach hr0 ?hB) (by omega)).mono ?_
  case hB => exact (belx)
  rintro e w1 ⟨B0, d0, F0, rfl, o0, hN1, hb1⟩
  have z1 : w.heap.size + 3 ≤ w1.heap.size := by have := hb1.size; simpa using this
  have hB1 : Below w.heap.size w w1 := bel_trans (belx) hb1
  have R1 : Box w1 (w.heap.size + 1) 39 #[.slice none 0 0, .slice none 0 0] := Box.below (Box.alloc (by simpa using Box.new (w.alloc _) 39 #[.slice none 0 0, .slice none 0 0]) _) hb1 (by first | (simp; done) | (simp; omega))
  have L1 : Box w1 (w.heap.size + 1 + 1) 39 #[.slice none 0 0, .slice none 0 0] := Box.below (by simpa using Box.new ((w.alloc _).alloc _) 39 #[.slice none 0 0, .slice none 0 0]) hb1 (by first | (simp; done) | (simp; omega))
  have P1 : Box w1 w.heap.size 25 #[.slice A0 r0.length c0, .slice A1 l1.length c1] := Box.below (((Box.new w 25 #[.slice A0 r0.length c0, .slice A1 l1.length c1]).alloc _).alloc _) hb1 (by first | (simp; done) | (simp; omega))
  have hM1 : New (w.heap.size + 3) (F0) := hN1.lower (by simp)
  clear hN1
  have y1 : ∀ f ∈ F0, f < w1.heap.size := by intro f hf; exact tHeld.row.lt o0 f hf
  have kr1_0 := R1.cell 0; have fr1_0 := R1.frozen 0; have kl1_0 := L1.cell 0; have fl1_0 := L1.frozen 0; have kp1_0 := P1.cell 0
  have kr1_1 := R1.cell 1; have fr1_1 := R1.frozen 1; have kl1_1 := L1.cell 1; have fl1_1 := L1.frozen 1; have kp1_1 := P1.cell 1
  go_wp2_with fail
  refine (o_toIntS (tIs.reach hr1 ?hB) (by omega)).mono ?_
  case hB => exact (belx)
  rintro e w2 ⟨B1, d1, F1, rfl, o1, hN2, hb2⟩
  have z2 : w.heap.size + 3 ≤ w2.heap.size := Nat.le_trans z1 (by have := hb2.size; simpa using this)
  have hB2 : Below w.heap.size w w2 := bel_trans (belx) hb2
  have R2 : Box w2 (w.heap.size + 1) 39 #[.slice none 0 0, .slice none 0 0] := Box.below (R1.far (p := ⟨w.heap.size + 1 + 1, 0, none⟩) (by first | (simp; done) | (simp; omega)) (.slice B0 r0.length d0)) hb2 (by first | (simp; done) | (simp; omega))
  have L2 : Box w2 (w.heap.size + 1 + 1) 39 #[.slice B0 r0.length d0, .slice none 0 0] := Box.below (by simpa using (L1.put 0 (.slice B0 r0.length d0))) hb2 (by first | (simp; done) | (simp; omega))
  have P2 : Box w2 w.heap.size 25 #[.slice A0 r0.length c0, .slice A1 l1.length c1] := Box.below (P1.far (p := ⟨w.heap.size + 1 + 1, 0, none⟩) (by first | (simp; done) | (simp; omega)) (.slice B0 r0.length d0)) hb2 (by first | (simp; done) | (simp; omega))
  replace o0 := Ty.below (t := tHeld.row) (Ty.far (t := tHeld.row) o0 hM1 (p := ⟨w.heap.size + 1 + 1, 0, none⟩) (by first | (simp; done) | (simp; omega)) (.slice B0 r0.length d0)) hb2
  have hM2 : New (w.heap.size + 3) (F1) := hN2.lower (by simp; omega)
  have hV2 : New w1.heap.size (F1) := hN2.lower (by first | (simp; done) | (simp; omega))
  have zz2 : w1.heap.size ≤ w2.heap.size := by have := hb2.size; simpa using this
  clear hN2
  have y2 : ∀ f ∈ F1, f < w2.heap.size := by intro f hf; exact tIs.lt o1 f hf
  have kr2_0 := R2.cell 0; have fr2_0 := R2.frozen 0; have kl2_0 := L2.cell 0; have fl2_0 := L2.frozen 0; have kp2_0 := P2.cell 0
  have kr2_1 := R2.cell 1; have fr2_1 := R2.frozen 1; have kl2_1 := L2.cell 1; have fl2_1 := L2.frozen 1; have kp2_1 := P2.cell 1
  go_wp2
  have RR := (((R2.far (p := ⟨w.heap.size + 1 + 1, 1, none⟩) (by first | (simp; done) | (simp; omega)) (.slice B1 l1.length d1)).put 0 (.slice B0 r0.length d0)).put 1 (.slice B1 l1.length d1))
  have e0 := RR.cell 0
  have e1 := RR.cell 1
  have u0 := (Ty.far (t := tHeld.row) (Ty.far (t := tHeld.row) (Ty.far (t := tHeld.row) o0 hM1 (p := ⟨w.heap.size + 1 + 1, 1, none⟩) (by first | (simp; done) | (simp; omega)) (.slice B1 l1.length d1)) hM1 (p := ⟨w.heap.size + 1, 0, none⟩) (by first | (simp; done) | (simp; omega)) (.slice B0 r0.length d0)) hM1 (p := ⟨w.heap.size + 1, 1, none⟩) (by first | (simp; done) | (simp; omega)) (.slice B1 l1.length d1))
  have u1 := (Ty.far (t := tIs) (Ty.far (t := tIs) (Ty.far (t := tIs) o1 hM2 (p := ⟨w.heap.size + 1 + 1, 1, none⟩) (by first | (simp; done) | (simp; omega)) (.slice B1 l1.length d1)) hM2 (p := ⟨w.heap.size + 1, 0, none⟩) (by first | (simp; done) | (simp; omega)) (.slice B0 r0.length d0)) hM2 (p := ⟨w.heap.size + 1, 1, none⟩) (by first | (simp; done) | (simp; omega)) (.slice B1 l1.length d1))
  obtain ⟨F, hF, hFe⟩ := makeOPool (p := (r0, l1)) u0 u1
  refine bodyPost_ret (v := .agg #[.slice B0 r0.length d0, .slice B1 l1.length d1]) (by simp [results, Tryz.results31, go_sem, e0, e1]) rfl ⟨_, F, rfl, hF, ?_, ?_⟩
  · rw [hFe]
    exact New.lower (B := w.heap.size + 3) (by exact (New.app hM1 hV2 (by omega) y1)) (by omega)
  · exact (bel_put (bel_put (bel_put hB2 (by first | (simp; done) | (simp; omega)) _) (by first | (simp; done) | (simp; omega)) _) (by first | (simp; done) | (simp; omega)) _)
theorem o_eqPool {w : World} {cs cs' : List Value} {p : DPool} (h : tPool.R w w.heap.size cs p) (h' : tPool.R w w.heap.size cs' p) :
    Calls Tryz.prog 41 #[.agg cs.toArray, .agg cs'.toArray] w fun e w' => e = .returned (.bool true) ∧ Below w.heap.size w w' := by
  obtain ⟨A0, n0, c0, A1, n1, c1, rfl, ha0, hb0, hl0, hr0, ha1, hb1, hl1, hr1⟩ := openPool h
  obtain ⟨A0', n0', c0', A1', n1', c1', rfl, ha0', hb0', hl0', hr0', ha1', hb1', hl1', hr1'⟩ := openPool h'
  obtain ⟨r0, l1⟩ := p
  try dsimp only at *
  subst hl0
  subst hl0'
  subst hl1
  subst hl1'
  go_enter Tryz.func41, Tryz.ntmps41
  go_wp2_with fail
  refine (o_eqHeldS (tHeld.row.reach hr0 ?hB) (tHeld.row.reach hr0' ?hB)).mono ?_
  case hB => exact (belx)
  rintro e w1 ⟨rfl, hb1⟩
  have hB1 : Below w.heap.size w w1 := bel_trans (belx) hb1
  have P1 : Box w1 w.heap.size 39 #[.slice A0 r0.length c0, .slice A1 l1.length c1] := ((Box.new _ _ _).alloc _).below hb1 (by first | (simp; done) | (simp; omega))
  have Q1 : Box w1 (w.heap.size + 1) 39 #[.slice A0' r0.length c0', .slice A1' l1.length c1'] := Box.below (by simpa using Box.new (w.alloc _) 39 #[.slice A0' r0.length c0', .slice A1' l1.length c1']) hb1 (by first | (simp; done) | (simp; omega))
  have e0_1 := P1.cell 1
  have e0_1q := Q1.cell 1
  go_wp2_with fail
  refine (o_eqIntS (tIs.reach hr1 ?hB) (tIs.reach hr1' ?hB)).mono ?_
  case hB => exact (belx)
  rintro e w2 ⟨rfl, hb2⟩
  have hB2 : Below w.heap.size w w2 := bel_trans (belx) hb2
  have P2 := P1.below hb2 P1.size
  have Q2 := Q1.below hb2 Q1.size
  go_wp2
  go_ret
  exact ⟨rfl, hB2⟩
theorem o_markPool {w : World} {cs : List Value} {p : DPool} {F : List Nat} (k : Int) (h : tPool.O w cs p F) (hF : F.Nodup) (h0 : 0 ≤ k) (hk : k + cntPool p ≤ 4611686018427387904) :
    Calls Tryz.prog 44 #[.agg cs.toArray, .int .i64 k] w fun e w' => e = .returned (.int .i64 (k + cntPool p)) ∧ tPool.O w' cs (mkPool k p) F ∧ Only F w w' := by
  obtain ⟨A0, c0, F0, A1, c1, F1, rfl, hFe, ha0, hb0, hr0, ha1, hb1, hr1⟩ := openOPool h
  obtain ⟨r0, l1⟩ := p
  try dsimp only [cntPool] at *
  subst F
  have nd0 : F0.Nodup := (List.nodup_append.1 hF).1
  have nd1 : F1.Nodup := (List.nodup_append.1 hF).2.1
  have ap0_1 : ∀ f ∈ F0, f ∉ F1 := fun f h1 h2 => (List.nodup_append.1 hF).2.2 f (by simp [h1]) f h2 rfl
  go_enter Tryz.func44, Tryz.ntmps44
  replace hr0 : tHeld.row.O (w.alloc (.cells #[.slice A0 r0.length c0, .slice A1 l1.length c1] 39)) _ _ _ := Ty.below hr0 (belx)
  replace hr1 : tIs.O (w.alloc (.cells #[.slice A0 r0.length c0, .slice A1 l1.length c1] 39)) _ _ _ := Ty.below hr1 (belx)
  have G0 : Only (F0 ++ F1) w (w.alloc (.cells #[.slice A0 r0.length c0, .slice A1 l1.length c1] 39)) := (Only.refl _ _).alloc _
  have P0 : Box (w.alloc (.cells #[.slice A0 r0.length c0, .slice A1 l1.length c1] 39)) w.heap.size 39 #[.slice A0 r0.length c0, .slice A1 l1.length c1] := Box.new _ _ _
  have y0 : ∀ f ∈ F0, f < w.heap.size := fun f hf => (tPool).lt h f (by simp [hf])
  have y1 : ∀ f ∈ F1, f < w.heap.size := fun f hf => (tPool).lt h f (by simp [hf])
  go_wp2_with fail
  refine (o_markHeldS (k) hr0 nd0 (by omega) (by omega)).mono ?_
  rintro e w1 ⟨rfl, hO1, hG1⟩
  have G1 := G0.trans (hG1.mono (by intro f hf; (try simp only [List.mem_append] at hf ⊢); first | assumption | (simp only [hf, true_or, or_true]) | (rcases hf with hf | hf <;> simp only [hf, true_or, or_true])))
  have P1 : Box w1 w.heap.size 39 #[.slice A0 r0.length c0, .slice A1 l1.length c1] := P0.same (hG1.block _ P0.size (by intro e; (try simp only [List.mem_append] at e); rcases e with e <;> first | (have := y0 _ e; omega)))
  have e1_0 := P1.cell 0
  have e1_1 := P1.cell 1
  replace hr1 := Ty.only hr1 hG1 (by intro f hf e; (try simp only [List.mem_append] at e); rcases e with e <;> first | exact ap0_1 f e hf)
  replace hr0 := hO1
  go_wp2_with fail
  refine (o_markIntS (k + ((rsum rcHeld r0 : Nat) : Int)) hr1 (by omega) (by omega)).mono ?_
  rintro e w2 ⟨rfl, hO2, hG2⟩
  have G2 := G1.trans (hG2.mono (by intro f hf; (try simp only [List.mem_append] at hf ⊢); first | assumption | (simp only [hf, true_or, or_true]) | (rcases hf with hf | hf <;> simp only [hf, true_or, or_true])))
  have P2 : Box w2 w.heap.size 39 #[.slice A0 r0.length c0, .slice A1 l1.length c1] := P1.same (hG2.block _ P1.size (by intro e; (try simp only [List.mem_append] at e); rcases e with e <;> first | (have := y1 _ e; omega)))
  have e2_0 := P2.cell 0
  have e2_1 := P2.cell 1
  replace hr0 := Ty.only hr0 hG2 (by intro f hf e; (try simp only [List.mem_append] at e); rcases e with e <;> first | exact ap0_1 f hf e)
  replace hr1 := hO2
  go_wp2
  go_ret
  obtain ⟨F2, hF2, hFe⟩ := makeOPool (p := mkPool k (r0, l1)) hr0 hr1
  subst F2
  exact ⟨ret_int (by omega), hF2, G2⟩
end Go.Proofs.YtelbckpplckofaaGreat
namespace Go.Proofs.YtelbckpplckofaaGreat
set_option maxRecDepth 100000
set_option linter.unusedVariables false
set_option linter.unusedSimpArgs false
open Go.ChangeShapes Go.WideShapes Go.ChangeAt Go.RowKit
theorem o_szNode_t {w : World} {cs : List Value} {p : DNode} {k : Int} (h : tNode.R w w.heap.size cs p) (h1 : 0 ≤ k) (h2 : k ≤ 1048576) (h3 : (szNode p : Int) ≤ k) :
    Calls Tryz.prog 5 #[.agg cs.toArray, .int .i64 k] w fun e w' => e = .returned (.int .i64 (k - szNode p)) ∧ Below w.heap.size w w' := by
  obtain ⟨A2, n2, c2, A3, n3, c3, A4, n4, c4, A5, n5, c5, A6, n6, c6, rfl, hi0, hi1, ha2, hb2, hl2, hr2, ha3, hb3, hl3, hr3, ha4, hb4, hl4, hr4, ha5, hb5, hl5, hr5, ha6, hb6, hl6, hr6⟩ := openNode h
  obtain ⟨x0, x1, ⟨r2, l3⟩, ⟨r4, l5⟩, r6⟩ := p
  try dsimp only [szNode] at *
  subst hl2
  subst hl3
  subst hl4
  subst hl5
  subst hl6
  have d0 : decide (k - ((szPool (r2, l3) : Nat) : Int) < 0) = false := by simp; omega
  have d1 : decide (k - ((szPool (r2, l3) : Nat) : Int) - ((szDesk (r4, l5) : Nat) : Int) < 0) = false := by simp; omega
  have d2 : decide (k - ((szPool (r2, l3) : Nat) : Int) - ((szDesk (r4, l5) : Nat) : Int) - ((rsz szLetter r6 : Nat) : Int) < 0) = false := by simp; omega
  go_enter Tryz.func5, Tryz.ntmps5
  go_wp2_with fail
  refine (o_szPool_t (tPool.reach (makePool (p := (r2, l3)) hr2 hr3) ?hB) (by omega) (by omega) (by omega)).mono ?_
  case hB => exact (belx)
  rintro e w1 ⟨rfl, hb1⟩
  have hB1 : Below w.heap.size w w1 := bel_trans (belx) hb1
  have P1 : Box w1 w.heap.size 31 #[.int .i64 x0, .int .i64 x1, .slice A2 r2.length c2, .slice A3 l3.length c3, .slice A4 r4.length c4, .slice A5 l5.length c5, .slice A6 r6.length c6] := (Box.new _ _ _).below hb1 (by first | (simp; done) | (simp; omega))
  have e0_4 := P1.cell 4
  have e0_5 := P1.cell 5
  go_wp2_with fail
  refine (o_szDesk_t (tDesk.reach (makeDesk (p := (r4, l5)) hr4 hr5) ?hB) (by omega) (by omega) (by omega)).mono ?_
  case hB => exact (belx)
  rintro e w2 ⟨rfl, hb2⟩
  have hB2 : Below w.heap.size w w2 := bel_trans (belx) hb2
  have P2 := P1.below hb2 P1.size
  have e1_6 := P2.cell 6
  go_wp2_with fail
  refine (o_szLetterS_t (tLetter.row.reach hr6 ?hB) (by omega) (by omega) (by omega)).mono ?_
  case hB => exact (belx)
  rintro e w3 ⟨rfl, hb3⟩
  have hB3 : Below w.heap.size w w3 := bel_trans (belx) hb3
  have P3 := P2.below hb3 P2.size
  go_wp2
  go_ret
  exact ⟨ret_int (by omega), hB3⟩
theorem o_szNode_f {w : World} {cs : List Value} {p : DNode} {k : Int} (h : tNode.R w w.heap.size cs p) (h1 : 0 ≤ k) (h2 : k ≤ 1048576) (h3 : ¬ (szNode p : Int) ≤ k) :
    Calls Tryz.prog 5 #[.agg cs.toArray, .int .i64 k] w fun e w' => e = .returned (.int .i64 (-1)) ∧ Below w.heap.size w w' := by
  obtain ⟨A2, n2, c2, A3, n3, c3, A4, n4, c4, A5, n5, c5, A6, n6, c6, rfl, hi0, hi1, ha2, hb2, hl2, hr2, ha3, hb3, hl3, hr3, ha4, hb4, hl4, hr4, ha5, hb5, hl5, hr5, ha6, hb6, hl6, hr6⟩ := openNode h
  obtain ⟨x0, x1, ⟨r2, l3⟩, ⟨r4, l5⟩, r6⟩ := p
  try dsimp only [szNode] at *
  subst hl2
  subst hl3
  subst hl4
  subst hl5
  subst hl6
  by_cases g0 : (((szPool (r2, l3)) : Nat) : Int) ≤ k
  rotate_left
  · go_enter Tryz.func5, Tryz.ntmps5
    go_wp2_with fail
    refine (o_szPool_f (tPool.reach (makePool (p := (r2, l3)) hr2 hr3) ?hB) (by omega) (by omega) (by omega)).mono ?_
    case hB => exact (belx)
    rintro e w1 ⟨rfl, hb1⟩
    have hB1 : Below w.heap.size w w1 := bel_trans (belx) hb1
    have P1 : Box w1 w.heap.size 31 #[.int .i64 x0, .int .i64 x1, .slice A2 r2.length c2, .slice A3 l3.length c3, .slice A4 r4.length c4, .slice A5 l5.length c5, .slice A6 r6.length c6] := (Box.new _ _ _).below hb1 (by first | (simp; done) | (simp; omega))
    go_wp2
    go_ret
    exact ⟨rfl, hB1⟩
  by_cases g1 : (((szPool (r2, l3) + szDesk (r4, l5)) : Nat) : Int) ≤ k
  rotate_left
  · have d0 : decide (k - ((szPool (r2, l3) : Nat) : Int) < 0) = false := by simp; omega
    go_enter Tryz.func5, Tryz.ntmps5
    go_wp2_with fail
    refine (o_szPool_t (tPool.reach (makePool (p := (r2, l3)) hr2 hr3) ?hB) (by omega) (by omega) (by omega)).mono ?_
    case hB => exact (belx)
    rintro e w1 ⟨rfl, hb1⟩
    have hB1 : Below w.heap.size w w1 := bel_trans (belx) hb1
    have P1 : Box w1 w.heap.size 31 #[.int .i64 x0, .int .i64 x1, .slice A2 r2.length c2, .slice A3 l3.length c3, .slice A4 r4.length c4, .slice A5 l5.length c5, .slice A6 r6.length c6] := (Box.new _ _ _).below hb1 (by first | (simp; done) | (simp; omega))
    have e0_4 := P1.cell 4
    have e0_5 := P1.cell 5
    go_wp2_with fail
    refine (o_szDesk_f (tDesk.reach (makeDesk (p := (r4, l5)) hr4 hr5) ?hB) (by omega) (by omega) (by omega)).mono ?_
    case hB => exact (belx)
    rintro e w2 ⟨rfl, hb2⟩
    have hB2 : Below w.heap.size w w2 := bel_trans (belx) hb2
    have P2 := P1.below hb2 P1.size
    go_wp2
    go_ret
    exact ⟨rfl, hB2⟩
  have d0 : decide (k - ((szPool (r2, l3) : Nat) : Int) < 0) = false := by simp; omega
  have d1 : decide (k - ((szPool (r2, l3) : Nat) : Int) - ((szDesk (r4, l5) : Nat) : Int) < 0) = false := by simp; omega
  go_enter Tryz.func5, Tryz.ntmps5
  go_wp2_with fail
  refine (o_szPool_t (tPool.reach (makePool (p := (r2, l3)) hr2 hr3) ?hB) (by omega) (by omega) (by omega)).mono ?_
  case hB => exact (belx)
  rintro e w1 ⟨rfl, hb1⟩
  have hB1 : Below w.heap.size w w1 := bel_trans (belx) hb1
  have P1 : Box w1 w.heap.size 31 #[.int .i64 x0, .int .i64 x1, .slice A2 r2.length c2, .slice A3 l3.length c3, .slice A4 r4.length c4, .slice A5 l5.length c5, .slice A6 r6.length c6] := (Box.new _ _ _).below hb1 (by first | (simp; done) | (simp; omega))
  have e0_4 := P1.cell 4
  have e0_5 := P1.cell 5
  go_wp2_with fail
  refine (o_szDesk_t (tDesk.reach (makeDesk (p := (r4, l5)) hr4 hr5) ?hB) (by omega) (by omega) (by omega)).mono ?_
  case hB => exact (belx)
  rintro e w2 ⟨rfl, hb2⟩
  have hB2 : Below w.heap.size w w2 := bel_trans (belx) hb2
  have P2 := P1.below hb2 P1.size
  have e1_6 := P2.cell 6
  go_wp2_with fail
  refine (o_szLetterS_f (tLetter.row.reach hr6 ?hB) (by omega) (by omega) (by omega)).mono ?_
  case hB => exact (belx)
  rintro e w3 ⟨rfl, hb3⟩
  have hB3 : Below w.heap.size w w3 := bel_trans (belx) hb3
  have P3 := P2.below hb3 P2.size
  go_wp2
  go_ret
  exact ⟨rfl, hB3⟩
set_option maxHeartbeats 400000 in
theorem o_toNode {w : World} {cs : List Value} {p : DNode} (h : tNode.R w w.heap.size cs p) (hn : szNode p ≤ 1048576) :
    Calls Tryz.prog 8 #[.agg cs.toArray] w fun e w' => ∃ cs' F, e = .returned (.agg cs'.toArray) ∧ tNode.O w' cs' p F ∧ New w.heap.size F ∧ Below w.heap.size w w' := by
  obtain ⟨A2, n2, c2, A3, n3, c3, A4, n4, c4, A5, n5, c5, A6, n6, c6, rfl, hi0, hi1, ha2, hb2, hl2, hr2, ha3, hb3, hl3, hr3, ha4, hb4, hl4, hr4, ha5, hb5, hl5, hr5, ha6, hb6, hl6, hr6⟩ := openNode h
  obtain ⟨x0, x1, ⟨r2, l3⟩, ⟨r4, l5⟩, r6⟩ := p
  try dsimp only [szNode] at *
  subst hl2
  subst hl3
  subst hl4
  subst hl5
  subst hl6
  go_enter Tryz.func8, Tryz.ntmps8
  go_wp2_with fail
  refine (o_toPool (tPool.reach (makePool (p := (r2, l3)) hr2 hr3) ?hB) (by omega)).mono ?_
  case hB => exact (belx)
  rintro e w1 ⟨cs1, G1, rfl, hO1, hN1, hb1⟩
  obtain ⟨B2, d2, F2, B3, d3, F3, rfl, hGe1, _, _, o2, _, _, o3⟩ := openOPool hO1
  try dsimp only at *
  subst G1
  have z1 : w.heap.size + 3 ≤ w1.heap.size := by have := hb1.size; simpa using this
  have hB1 : Below w.heap.size w w1 := bel_trans (belx) hb1
  have R1 : Box w1 (w.heap.size + 1) 45 #[.int .i64 0, .int .i64 0, .slice none 0 0, .slice none 0 0, .slice none 0 0, .slice none 0 0, .slice none 0 0] := Box.below (Box.alloc (by simpa using Box.new (w.alloc _) 45 #[.int .i64 0, .int .i64 0, .slice none 0 0, .slice none 0 0, .slice none 0 0, .slice none 0 0, .slice none 0 0]) _) hb1 (by first | (simp; done) | (simp; omega))
  have L1 : Box w1 (w.heap.size + 1 + 1) 45 #[.int .i64 x0, .int .i64 x1, .slice none 0 0, .slice none 0 0, .slice none 0 0, .slice none 0 0, .slice none 0 0] := Box.below (by simpa using Box.new ((w.alloc _).alloc _) 45 #[.int .i64 x0, .int .i64 x1, .slice none 0 0, .slice none 0 0, .slice none 0 0, .slice none 0 0, .slice none 0 0]) hb1 (by first | (simp; done) | (simp; omega))
  have P1 : Box w1 w.heap.size 31 #[.int .i64 x0, .int .i64 x1, .slice A2 r2.length c2, .slice A3 l3.length c3, .slice A4 r4.length c4, .slice A5 l5.length c5, .slice A6 r6.length c6] := Box.below (((Box.new w 31 #[.int .i64 x0, .int .i64 x1, .slice A2 r2.length c2, .slice A3 l3.length c3, .slice A4 r4.length c4, .slice A5 l5.length c5, .slice A6 r6.length c6]).alloc _).alloc _) hb1 (by first | (simp; done) | (simp; omega))
  have hM1 : New (w.heap.size + 3) (F2 ++ F3) := hN1.lower (by simp)
  clear hN1
  have hM1_2 : New (w.heap.size + 3) F2 := New.sub hM1 (by intro f hf; simp [hf]) (by have := hM1.1; simp only [List.nodup_append] at this; simp [this])
  have hM1_3 : New (w.heap.size + 3) F3 := New.sub hM1 (by intro f hf; simp [hf]) (by have := hM1.1; simp only [List.nodup_append] at this; simp [this])
  have y1 : ∀ f ∈ F2 ++ F3, f < w1.heap.size := by intro f hf; (try simp only [List.mem_append] at hf); rcases hf with hf | hf <;> first | exact (tHeld.row).lt o2 f hf | exact (tIs).lt o3 f hf
  have kr1_0 := R1.cell 0; have fr1_0 := R1.frozen 0; have kl1_0 := L1.cell 0; have fl1_0 := L1.frozen 0; have kp1_0 := P1.cell 0
  have kr1_1 := R1.cell 1; have fr1_1 := R1.frozen 1; have kl1_1 := L1.cell 1; have fl1_1 := L1.frozen 1; have kp1_1 := P1.cell 1
  have kr1_2 := R1.cell 2; have fr1_2 := R1.frozen 2; have kl1_2 := L1.cell 2; have fl1_2 := L1.frozen 2; have kp1_2 := P1.cell 2
  have kr1_3 := R1.cell 3; have fr1_3 := R1.frozen 3; have kl1_3 := L1.cell 3; have fl1_3 := L1.frozen 3; have kp1_3 := P1.cell 3
  have kr1_4 := R1.cell 4; have fr1_4 := R1.frozen 4; have kl1_4 := L1.cell 4; have fl1_4 := L1.frozen 4; have kp1_4 := P1.cell 4
  have kr1_5 := R1.cell 5; have fr1_5 := R1.frozen 5; have kl1_5 := L1.cell 5; have fl1_5 := L1.frozen 5; have kp1_5 := P1.cell 5
  have kr1_6 := R1.cell 6; have fr1_6 := R1.frozen 6; have kl1_6 := L1.cell 6; have fl1_6 := L1.frozen 6; have kp1_6 := P1.cell 6
  go_wp2_with fail
  refine (o_toDesk (tDesk.reach (makeDesk (p := (r4, l5)) hr4 hr5) ?hB) (by omega)).mono ?_
  case hB => exact (belx)
  rintro e w2 ⟨cs2, G2, rfl, hO2, hN2, hb2⟩
  obtain ⟨B4, d4, F4, B5, d5, F5, rfl, hGe2, _, _, o4, _, _, o5⟩ := openODesk hO2
  try dsimp only at *
  subst G2
  have z2 : w.heap.size + 3 ≤ w2.heap.size := Nat.le_trans z1 (by have := hb2.size; simpa using this)
  have hB2 : Below w.heap.size w w2 := bel_trans (belx) hb2
  have R2 : Box w2 (w.heap.size + 1) 45 #[.int .i64 0, .int .i64 0, .slice none 0 0, .slice none 0 0, .slice none 0 0, .slice none 0 0, .slice none 0 0] := Box.below ((R1.far (p := ⟨w.heap.size + 1 + 1, 2, none⟩) (by first | (simp; done) | (simp; omega)) (.slice B2 r2.length d2)).far (p := ⟨w.heap.size + 1 + 1, 3, none⟩) (by first | (simp; done) | (simp; omega)) (.slice B3 l3.length d3)) hb2 (by first | (simp; done) | (simp; omega))
  have L2 : Box w2 (w.heap.size + 1 + 1) 45 #[.int .i64 x0, .int .i64 x1, .slice B2 r2.length d2, .slice B3 l3.length d3, .slice none 0 0, .slice none 0 0, .slice none 0 0] := Box.below (by simpa using ((L1.put 2 (.slice B2 r2.length d2)).put 3 (.slice B3 l3.length d3))) hb2 (by first | (simp; done) | (simp; omega))
  have P2 : Box w2 w.heap.size 31 #[.int .i64 x0, .int .i64 x1, .slice A2 r2.length c2, .slice A3 l3.length c3, .slice A4 r4.length c4, .slice A5 l5.length c5, .slice A6 r6.length c6] := Box.below ((P1.far (p := ⟨w.heap.size + 1 + 1, 2, none⟩) (by first | (simp; done) | (simp; omega)) (.slice B2 r2.length d2)).far (p := ⟨w.heap.size + 1 + 1, 3, none⟩) (by first | (simp; done) | (simp; omega)) (.slice B3 l3.length d3)) hb2 (by first | (simp; done) | (simp; omega))
  replace o2 := Ty.below (t := tHeld.row) (Ty.far (t := tHeld.row) (Ty.far (t := tHeld.row) o2 hM1_2 (p := ⟨w.heap.size + 1 + 1, 2, none⟩) (by first | (simp; done) | (simp; omega)) (.slice B2 r2.length d2)) hM1_2 (p := ⟨w.heap.size + 1 + 1, 3, none⟩) (by first | (simp; done) | (simp; omega)) (.slice B3 l3.length d3)) hb2
  replace o3 := Ty.below (t := tIs) (Ty.far (t := tIs) (Ty.far (t := tIs) o3 hM1_3 (p := ⟨w.heap.size + 1 + 1, 2, none⟩) (by first | (simp; done) | (simp; omega)) (.slice B2 r2.length d2)) hM1_3 (p := ⟨w.heap.size + 1 + 1, 3, none⟩) (by first | (simp; done) | (simp; omega)) (.slice B3 l3.length d3)) hb2
  have hM2 : New (w.heap.size + 3) (F4 ++ F5) := hN2.lower (by simp; omega)
  have hV2 : New w1.heap.size (F4 ++ F5) := hN2.lower (by first | (simp; done) | (simp; omega))
  have zz2 : w1.heap.size ≤ w2.heap.size := by have := hb2.size; simpa using this
  clear hN2
  have hM2_4 : New (w.heap.size + 3) F4 := New.sub hM2 (by intro f hf; simp [hf]) (by have := hM2.1; simp only [List.nodup_append] at this; simp [this])
  have hM2_5 : New (w.heap.size + 3) F5 := New.sub hM2 (by intro f hf; simp [hf]) (by have := hM2.1; simp only [List.nodup_append] at this; simp [this])
  have y2 : ∀ f ∈ F4 ++ F5, f < w2.heap.size := by intro f hf; (try simp only [List.mem_append] at hf); rcases hf with hf | hf <;> first | exact (tWhole.row).lt o4 f hf | exact (tIs).lt o5 f hf
  have kr2_0 := R2.cell 0; have fr2_0 := R2.frozen 0; have kl2_0 := L2.cell 0; have fl2_0 := L2.frozen 0; have kp2_0 := P2.cell 0
  have kr2_1 := R2.cell 1; have fr2_1 := R2.frozen 1; have kl2_1 := L2.cell 1; have fl2_1 := L2.frozen 1; have kp2_1 := P2.cell 1
  have kr2_2 := R2.cell 2; have fr2_2 := R2.frozen 2; have kl2_2 := L2.cell 2; have fl2_2 := L2.frozen 2; have kp2_2 := P2.cell 2
  have kr2_3 := R2.cell 3; have fr2_3 := R2.frozen 3; have kl2_3 := L2.cell 3; have fl2_3 := L2.frozen 3; have kp2_3 := P2.cell 3
  have kr2_4 := R2.cell 4; have fr2_4 := R2.frozen 4; have kl2_4 := L2.cell 4; have fl2_4 := L2.frozen 4; have kp2_4 := P2.cell 4
  have kr2_5 := R2.cell 5; have fr2_5 := R2.frozen 5; have kl2_5 := L2.cell 5; have fl2_5 := L2.frozen 5; have kp2_5 := P2.cell 5
  have kr2_6 := R2.cell 6; have fr2_6 := R2.frozen 6; have kl2_6 := L2.cell 6; have fl2_6 := L2.frozen 6; have kp2_6 := P2.cell 6
  go_wp2_with fail
  refine (o_toLetterS (tLetter.row.reach hr6 ?hB) (by omega)).mono ?_
  case hB => exact (belx)
  rintro e w3 ⟨B6, d6, F6, rfl, o6, hN3, hb3⟩
  have z3 : w.heap.size + 3 ≤ w3.heap.size := Nat.le_trans z2 (by have := hb3.size; simpa using this)
  have hB3 : Below w.heap.size w w3 := bel_trans (belx) hb3
  have R3 : Box w3 (w.heap.size + 1) 45 #[.int .i64 0, .int .i64 0, .slice none 0 0, .slice none 0 0, .slice none 0 0, .slice none 0 0, .slice none 0 0] := Box.below ((R2.far (p := ⟨w.heap.size + 1 + 1, 4, none⟩) (by first | (simp; done) | (simp; omega)) (.slice B4 r4.length d4)).far (p := ⟨w.heap.size + 1 + 1, 5, none⟩) (by first | (simp; done) | (simp; omega)) (.slice B5 l5.length d5)) hb3 (by first | (simp; done) | (simp; omega))
  have L3 : Box w3 (w.heap.size + 1 + 1) 45 #[.int .i64 x0, .int .i64 x1, .slice B2 r2.length d2, .slice B3 l3.length d3, .slice B4 r4.length d4, .slice B5 l5.length d5, .slice none 0 0] := Box.below (by simpa using ((L2.put 4 (.slice B4 r4.length d4)).put 5 (.slice B5 l5.length d5))) hb3 (by first | (simp; done) | (simp; omega))
  have P3 : Box w3 w.heap.size 31 #[.int .i64 x0, .int .i64 x1, .slice A2 r2.length c2, .slice A3 l3.length c3, .slice A4 r4.length c4, .slice A5 l5.length c5, .slice A6 r6.length c6] := Box.below ((P2.far (p := ⟨w.heap.size + 1 + 1, 4, none⟩) (by first | (simp; done) | (simp; omega)) (.slice B4 r4.length d4)).far (p := ⟨w.heap.size + 1 + 1, 5, none⟩) (by first | (simp; done) | (simp; omega)) (.slice B5 l5.length d5)) hb3 (by first | (simp; done) | (simp; omega))
  replace o2 := Ty.below (t := tHeld.row) (Ty.far (t := tHeld.row) (Ty.far (t := tHeld.row) o2 hM1_2 (p := ⟨w.heap.size + 1 + 1, 4, none⟩) (by first | (simp; done) | (simp; omega)) (.slice B4 r4.length d4)) hM1_2 (p := ⟨w.heap.size + 1 + 1, 5, none⟩) (by first | (simp; done) | (simp; omega)) (.slice B5 l5.length d5)) hb3
  replace o3 := Ty.below (t := tIs) (Ty.far (t := tIs) (Ty.far (t := tIs) o3 hM1_3 (p := ⟨w.heap.size + 1 + 1, 4, none⟩) (by first | (simp; done) | (simp; omega)) (.slice B4 r4.length d4)) hM1_3 (p := ⟨w.heap.size + 1 + 1, 5, none⟩) (by first | (simp; done) | (simp; omega)) (.slice B5 l5.length d5)) hb3
  replace o4 := Ty.below (t := tWhole.row) (Ty.far (t := tWhole.row) (Ty.far (t := tWhole.row) o4 hM2_4 (p := ⟨w.heap.size + 1 + 1, 4, none⟩) (by first | (simp; done) | (simp; omega)) (.slice B4 r4.length d4)) hM2_4 (p := ⟨w.heap.size + 1 + 1, 5, none⟩) (by first | (simp; done) | (simp; omega)) (.slice B5 l5.length d5)) hb3
  replace o5 := Ty.below (t := tIs) (Ty.far (t := tIs) (Ty.far (t := tIs) o5 hM2_5 (p := ⟨w.heap.size + 1 + 1, 4, none⟩) (by first | (simp; done) | (simp; omega)) (.slice B4 r4.length d4)) hM2_5 (p := ⟨w.heap.size + 1 + 1, 5, none⟩) (by first | (simp; done) | (simp; omega)) (.slice B5 l5.length d5)) hb3
  have hM3 : New (w.heap.size + 3) (F6) := hN3.lower (by simp; omega)
  have hV3 : New w2.heap.size (F6) := hN3.lower (by first | (simp; done) | (simp; omega))
  have zz3 : w2.heap.size ≤ w3.heap.size := by have := hb3.size; simpa using this
  clear hN3
  have y3 : ∀ f ∈ F6, f < w3.heap.size := by intro f hf; exact tLetter.row.lt o6 f hf
  have kr3_0 := R3.cell 0; have fr3_0 := R3.frozen 0; have kl3_0 := L3.cell 0; have fl3_0 := L3.frozen 0; have kp3_0 := P3.cell 0
  have kr3_1 := R3.cell 1; have fr3_1 := R3.frozen 1; have kl3_1 := L3.cell 1; have fl3_1 := L3.frozen 1; have kp3_1 := P3.cell 1
  have kr3_2 := R3.cell 2; have fr3_2 := R3.frozen 2; have kl3_2 := L3.cell 2; have fl3_2 := L3.frozen 2; have kp3_2 := P3.cell 2
  have kr3_3 := R3.cell 3; have fr3_3 := R3.frozen 3; have kl3_3 := L3.cell 3; have fl3_3 := L3.frozen 3; have kp3_3 := P3.cell 3
  have kr3_4 := R3.cell 4; have fr3_4 := R3.frozen 4; have kl3_4 := L3.cell 4; have fl3_4 := L3.frozen 4; have kp3_4 := P3.cell 4
  have kr3_5 := R3.cell 5; have fr3_5 := R3.frozen 5; have kl3_5 := L3.cell 5; have fl3_5 := L3.frozen 5; have kp3_5 := P3.cell 5
  have kr3_6 := R3.cell 6; have fr3_6 := R3.frozen 6; have kl3_6 := L3.cell 6; have fl3_6 := L3.frozen 6; have kp3_6 := P3.cell 6
  go_wp2
  have RR := ((((((((R3.far (p := ⟨w.heap.size + 1 + 1, 6, none⟩) (by first | (simp; done) | (simp; omega)) (.slice B6 r6.length d6)).put 0 (.int .i64 x0)).put 1 (.int .i64 x1)).put 2 (.slice B2 r2.length d2)).put 3 (.slice B3 l3.length d3)).put 4 (.slice B4 r4.length d4)).put 5 (.slice B5 l5.length d5)).put 6 (.slice B6 r6.length d6))
  have e0 := RR.cell 0
  have e1 := RR.cell 1
  have e2 := RR.cell 2
  have e3 := RR.cell 3
  have e4 := RR.cell 4
  have e5 := RR.cell 5
  have e6 := RR.cell 6
  have u2 := (Ty.far (t := tHeld.row) (Ty.far (t := tHeld.row) (Ty.far (t := tHeld.row) (Ty.far (t := tHeld.row) (Ty.far (t := tHeld.row) (Ty.far (t := tHeld.row) (Ty.far (t := tHeld.row) (Ty.far (t := tHeld.row) o2 hM1_2 (p := ⟨w.heap.size + 1 + 1, 6, none⟩) (by first | (simp; done) | (simp; omega)) (.slice B6 r6.length d6)) hM1_2 (p := ⟨w.heap.size + 1, 0, none⟩) (by first | (simp; done) | (simp; omega)) (.int .i64 x0)) hM1_2 (p := ⟨w.heap.size + 1, 1, none⟩) (by first | (simp; done) | (simp; omega)) (.int .i64 x1)) hM1_2 (p := ⟨w.heap.size + 1, 2, none⟩) (by first | (simp; done) | (simp; omega)) (.slice B2 r2.length d2)) hM1_2 (p := ⟨w.heap.size + 1, 3, none⟩) (by first | (simp; done) | (simp; omega)) (.slice B3 l3.length d3)) hM1_2 (p := ⟨w.heap.size + 1, 4, none⟩) (by first | (simp; done) | (simp; omega)) (.slice B4 r4.length d4)) hM1_2 (p := ⟨w.heap.size + 1, 5, none⟩) (by first | (simp; done) | (simp; omega)) (.slice B5 l5.length d5)) hM1_2 (p := ⟨w.heap.size + 1, 6, none⟩) (by first | (simp; done) | (simp; omega)) (.slice B6 r6.length d6))
  have u3 := (Ty.far (t := tIs) (Ty.far (t := tIs) (Ty.far (t := tIs) (Ty.far (t := tIs) (Ty.far (t := tIs) (Ty.far (t := tIs) (Ty.far (t := tIs) (Ty.far (t := tIs) o3 hM1_3 (p := ⟨w.heap.size + 1 + 1, 6, none⟩) (by first | (simp; done) | (simp; omega)) (.slice B6 r6.length d6)) hM1_3 (p := ⟨w.heap.size + 1, 0, none⟩) (by first | (simp; done) | (simp; omega)) (.int .i64 x0)) hM1_3 (p := ⟨w.heap.size + 1, 1, none⟩) (by first | (simp; done) | (simp; omega)) (.int .i64 x1)) hM1_3 (p := ⟨w.heap.size + 1, 2, none⟩) (by first | (simp; done) | (simp; omega)) (.slice B2 r2.length d2)) hM1_3 (p := ⟨w.heap.size + 1, 3, none⟩) (by first | (simp; done) | (simp; omega)) (.slice B3 l3.length d3)) hM1_3 (p := ⟨w.heap.size + 1, 4, none⟩) (by first | (simp; done) | (simp; omega)) (.slice B4 r4.length d4)) hM1_3 (p := ⟨w.heap.size + 1, 5, none⟩) (by first | (simp; done) | (simp; omega)) (.slice B5 l5.length d5)) hM1_3 (p := ⟨w.heap.size + 1, 6, none⟩) (by first | (simp; done) | (simp; omega)) (.slice B6 r6.length d6))
  have u4 := (Ty.far (t := tWhole.row) (Ty.far (t := tWhole.row) (Ty.far (t := tWhole.row) (Ty.far (t := tWhole.row) (Ty.far (t := tWhole.row) (Ty.far (t := tWhole.row) (Ty.far (t := tWhole.row) (Ty.far (t := tWhole.row) o4 hM2_4 (p := ⟨w.heap.size + 1 + 1, 6, none⟩) (by first | (simp; done) | (simp; omega)) (.slice B6 r6.length d6)) hM2_4 (p := ⟨w.heap.size + 1, 0, none⟩) (by first | (simp; done) | (simp; omega)) (.int .i64 x0)) hM2_4 (p := ⟨w.heap.size + 1, 1, none⟩) (by first | (simp; done) | (simp; omega)) (.int .i64 x1)) hM2_4 (p := ⟨w.heap.size + 1, 2, none⟩) (by first | (simp; done) | (simp; omega)) (.slice B2 r2.length d2)) hM2_4 (p := ⟨w.heap.size + 1, 3, none⟩) (by first | (simp; done) | (simp; omega)) (.slice B3 l3.length d3)) hM2_4 (p := ⟨w.heap.size + 1, 4, none⟩) (by first | (simp; done) | (simp; omega)) (.slice B4 r4.length d4)) hM2_4 (p := ⟨w.heap.size + 1, 5, none⟩) (by first | (simp; done) | (simp; omega)) (.slice B5 l5.length d5)) hM2_4 (p := ⟨w.heap.size + 1, 6, none⟩) (by first | (simp; done) | (simp; omega)) (.slice B6 r6.length d6))
  have u5 := (Ty.far (t := tIs) (Ty.far (t := tIs) (Ty.far (t := tIs) (Ty.far (t := tIs) (Ty.far (t := tIs) (Ty.far (t := tIs) (Ty.far (t := tIs) (Ty.far (t := tIs) o5 hM2_5 (p := ⟨w.heap.size + 1 + 1, 6, none⟩) (by first | (simp; done) | (simp; omega)) (.slice B6 r6.length d6)) hM2_5 (p := ⟨w.heap.size + 1, 0, none⟩) (by first | (simp; done) | (simp; omega)) (.int .i64 x0)) hM2_5 (p := ⟨w.heap.size + 1, 1, none⟩) (by first | (simp; done) | (simp; omega)) (.int .i64 x1)) hM2_5 (p := ⟨w.heap.size + 1, 2, none⟩) (by first | (simp; done) | (simp; omega)) (.slice B2 r2.length d2)) hM2_5 (p := ⟨w.heap.size + 1, 3, none⟩) (by first | (simp; done) | (simp; omega)) (.slice B3 l3.length d3)) hM2_5 (p := ⟨w.heap.size + 1, 4, none⟩) (by first | (simp; done) | (simp; omega)) (.slice B4 r4.length d4)) hM2_5 (p := ⟨w.heap.size + 1, 5, none⟩) (by first | (simp; done) | (simp; omega)) (.slice B5 l5.length d5)) hM2_5 (p := ⟨w.heap.size + 1, 6, none⟩) (by first | (simp; done) | (simp; omega)) (.slice B6 r6.length d6))
  have u6 := (Ty.far (t := tLetter.row) (Ty.far (t := tLetter.row) (Ty.far (t := tLetter.row) (Ty.far (t := tLetter.row) (Ty.far (t := tLetter.row) (Ty.far (t := tLetter.row) (Ty.far (t := tLetter.row) (Ty.far (t := tLetter.row) o6 hM3 (p := ⟨w.heap.size + 1 + 1, 6, none⟩) (by first | (simp; done) | (simp; omega)) (.slice B6 r6.length d6)) hM3 (p := ⟨w.heap.size + 1, 0, none⟩) (by first | (simp; done) | (simp; omega)) (.int .i64 x0)) hM3 (p := ⟨w.heap.size + 1, 1, none⟩) (by first | (simp; done) | (simp; omega)) (.int .i64 x1)) hM3 (p := ⟨w.heap.size + 1, 2, none⟩) (by first | (simp; done) | (simp; omega)) (.slice B2 r2.length d2)) hM3 (p := ⟨w.heap.size + 1, 3, none⟩) (by first | (simp; done) | (simp; omega)) (.slice B3 l3.length d3)) hM3 (p := ⟨w.heap.size + 1, 4, none⟩) (by first | (simp; done) | (simp; omega)) (.slice B4 r4.length d4)) hM3 (p := ⟨w.heap.size + 1, 5, none⟩) (by first | (simp; done) | (simp; omega)) (.slice B5 l5.length d5)) hM3 (p := ⟨w.heap.size + 1, 6, none⟩) (by first | (simp; done) | (simp; omega)) (.slice B6 r6.length d6))
  obtain ⟨F, hF, hFe⟩ := makeONode (p := (x0, x1, (r2, l3), (r4, l5), r6)) hi0 hi1 u2 u3 u4 u5 u6
  refine bodyPost_ret (v := .agg #[.int .i64 x0, .int .i64 x1, .slice B2 r2.length d2, .slice B3 l3.length d3, .slice B4 r4.length d4, .slice B5 l5.length d5, .slice B6 r6.length d6]) (by simp [results, Tryz.results8, go_sem, e0, e1, e2, e3, e4, e5, e6]) rfl ⟨_, F, rfl, hF, ?_, ?_⟩
  · rw [hFe]
    exact New.lower (B := w.heap.size + 3) (by have hh := (New.app (New.app hM1 hV2 (by omega) y1) hV3 (by omega) (fun f hf => by rcases List.mem_append.1 hf with h | h; have := y1 f h; omega; exact y2 f h)); simp only [List.append_assoc] at hh ⊢; exact hh) (by omega)
  · exact (bel_put (bel_put (bel_put (bel_put (bel_put (bel_put (bel_put (bel_put hB3 (by first | (simp; done) | (simp; omega)) _) (by first | (simp; done) | (simp; omega)) _) (by first | (simp; done) | (simp; omega)) _) (by first | (simp; done) | (simp; omega)) _) (by first | (simp; done) | (simp; omega)) _) (by first | (simp; done) | (simp; omega)) _) (by first | (simp; done) | (simp; omega)) _) (by first | (simp; done) | (simp; omega)) _)
theorem o_eqNode {w : World} {cs cs' : List Value} {p : DNode} (h : tNode.R w w.heap.size cs p) (h' : tNode.R w w.heap.size cs' p) :
    Calls Tryz.prog 12 #[.agg cs.toArray, .agg cs'.toArray] w fun e w' => e = .returned (.bool true) ∧ Below w.heap.size w w' := by
  obtain ⟨A2, n2, c2, A3, n3, c3, A4, n4, c4, A5, n5, c5, A6, n6, c6, rfl, hi0, hi1, ha2, hb2, hl2, hr2, ha3, hb3, hl3, hr3, ha4, hb4, hl4, hr4, ha5, hb5, hl5, hr5, ha6, hb6, hl6, hr6⟩ := openNode h
  obtain ⟨A2', n2', c2', A3', n3', c3', A4', n4', c4', A5', n5', c5', A6', n6', c6', rfl, hi0', hi1', ha2', hb2', hl2', hr2', ha3', hb3', hl3', hr3', ha4', hb4', hl4', hr4', ha5', hb5', hl5', hr5', ha6', hb6', hl6', hr6'⟩ := openNode h'
  obtain ⟨x0, x1, ⟨r2, l3⟩, ⟨r4, l5⟩, r6⟩ := p
  try dsimp only at *
  subst hl2
  subst hl2'
  subst hl3
  subst hl3'
  subst hl4
  subst hl4'
  subst hl5
  subst hl5'
  subst hl6
  subst hl6'
  have q0 : (x0 != x0) = false := by simp
  have q1 : (x1 != x1) = false := by simp
  go_enter Tryz.func12, Tryz.ntmps12
  go_wp2_with fail
  refine (o_eqPool (tPool.reach (makePool (p := (r2, l3)) hr2 hr3) ?hB) (tPool.reach (makePool (p := (r2, l3)) hr2' hr3') ?hB)).mono ?_
  case hB => exact (belx)
  rintro e w1 ⟨rfl, hb1⟩
  have hB1 : Below w.heap.size w w1 := bel_trans (belx) hb1
  have P1 : Box w1 w.heap.size 45 #[.int .i64 x0, .int .i64 x1, .slice A2 r2.length c2, .slice A3 l3.length c3, .slice A4 r4.length c4, .slice A5 l5.length c5, .slice A6 r6.length c6] := ((Box.new _ _ _).alloc _).below hb1 (by first | (simp; done) | (simp; omega))
  have Q1 : Box w1 (w.heap.size + 1) 45 #[.int .i64 x0, .int .i64 x1, .slice A2' r2.length c2', .slice A3' l3.length c3', .slice A4' r4.length c4', .slice A5' l5.length c5', .slice A6' r6.length c6'] := Box.below (by simpa using Box.new (w.alloc _) 45 #[.int .i64 x0, .int .i64 x1, .slice A2' r2.length c2', .slice A3' l3.length c3', .slice A4' r4.length c4', .slice A5' l5.length c5', .slice A6' r6.length c6']) hb1 (by first | (simp; done) | (simp; omega))
  have e0_4 := P1.cell 4
  have e0_4q := Q1.cell 4
  have e0_5 := P1.cell 5
  have e0_5q := Q1.cell 5
  go_wp2_with fail
  refine (o_eqDesk (tDesk.reach (makeDesk (p := (r4, l5)) hr4 hr5) ?hB) (tDesk.reach (makeDesk (p := (r4, l5)) hr4' hr5') ?hB)).mono ?_
  case hB => exact (belx)
  rintro e w2 ⟨rfl, hb2⟩
  have hB2 : Below w.heap.size w w2 := bel_trans (belx) hb2
  have P2 := P1.below hb2 P1.size
  have Q2 := Q1.below hb2 Q1.size
  have e1_6 := P2.cell 6
  have e1_6q := Q2.cell 6
  go_wp2_with fail
  refine (o_eqLetterS (tLetter.row.reach hr6 ?hB) (tLetter.row.reach hr6' ?hB)).mono ?_
  case hB => exact (belx)
  rintro e w3 ⟨rfl, hb3⟩
  have hB3 : Below w.heap.size w w3 := bel_trans (belx) hb3
  have P3 := P2.below hb3 P2.size
  have Q3 := Q2.below hb3 Q2.size
  go_wp2
  go_ret
  exact ⟨rfl, hB3⟩
theorem fopenONode {w : World} {cs : List Value} {p : DNode} {F : List Nat} (h : tNode.O w cs p F) : ∃ A2 c2 A3 c3 A4 c4 A5 c5 A6 c6 G2 G4 G6, cs = [.int .i64 (p.1), .int .i64 (p.2.1), .slice A2 ((p.2.2.1.1)).length c2, .slice A3 ((p.2.2.1.2)).length c3, .slice A4 ((p.2.2.2.1.1)).length c4, .slice A5 ((p.2.2.2.1.2)).length c5, .slice A6 ((p.2.2.2.2)).length c6] ∧ F = G2 ++ G4 ++ G6 ∧ (Lit.int .i64 (p.1)).wf = true ∧ (Lit.int .i64 (p.2.1)).wf = true ∧ (tPool).O w [.slice A2 ((p.2.2.1.1)).length c2, .slice A3 ((p.2.2.1.2)).length c3] (p.2.2.1) G2 ∧ (tDesk).O w [.slice A4 ((p.2.2.2.1.1)).length c4, .slice A5 ((p.2.2.2.1.2)).length c5] (p.2.2.2.1) G4 ∧ (tLetter.row).O w [.slice A6 ((p.2.2.2.2)).length c6] (p.2.2.2.2) G6 := by
  obtain ⟨ca0, cb0, Fa0, Fb0, rfl, rfl, ha0, hb0⟩ := h
  obtain ⟨ca1, cb1, Fa1, Fb1, rfl, rfl, ha1, hb1⟩ := hb0
  obtain ⟨ca2, cb2, Fa2, Fb2, rfl, rfl, ha2, hb2⟩ := hb1
  obtain ⟨ca3, cb3, Fa3, Fb3, rfl, rfl, ha3, hb3⟩ := hb2
  obtain ⟨rfl, hi0, rfl⟩ := ha0
  obtain ⟨rfl, hi1, rfl⟩ := ha1
  have hk2 := ha2
  obtain ⟨A2, c2, X2, A3, c3, X3, rfl, -, -, -, -, -, -, -⟩ := openOPool ha2
  have hk4 := ha3
  obtain ⟨A4, c4, X4, A5, c5, X5, rfl, -, -, -, -, -, -, -⟩ := openODesk ha3
  have hk6 := hb3
  obtain ⟨A6, c6, rfl, -, -⟩ := rowO_one hb3
  exact ⟨A2, c2, A3, c3, A4, c4, A5, c5, A6, c6, Fa2, Fa3, Fb3, rfl, by simp [List.append_assoc], hi0, hi1, hk2, hk4, hk6⟩
theorem fmakeONode {w : World} {p : DNode} {v2 v3 v4 v5 v6 : Value} {G2 G4 G6 : List Nat} (h0 : (Lit.int .i64 (p.1)).wf = true) (h1 : (Lit.int .i64 (p.2.1)).wf = true) (h2 : (tPool).O w [v2, v3] (p.2.2.1) G2) (h4 : (tDesk).O w [v4, v5] (p.2.2.2.1) G4) (h6 : (tLetter.row).O w [v6] (p.2.2.2.2) G6) : tNode.O w [.int .i64 (p.1), .int .i64 (p.2.1), v2, v3, v4, v5, v6] p (G2 ++ G4 ++ G6) := by
  have hh : ∃ F, tNode.O w [.int .i64 (p.1), .int .i64 (p.2.1), v2, v3, v4, v5, v6] p F ∧ F = G2 ++ G4 ++ G6 := ⟨_, ⟨_, _, _, _, rfl, rfl, ⟨rfl, h0, rfl⟩, ⟨_, _, _, _, rfl, rfl, ⟨rfl, h1, rfl⟩, ⟨_, _, _, _, rfl, rfl, h2, ⟨_, _, _, _, rfl, rfl, h4, h6⟩⟩⟩⟩, by simp [List.append_assoc]⟩
  obtain ⟨F, hF, rfl⟩ := hh
  exact hF
theorem fopenNode {w : World} {B : Nat} {cs : List Value} {p : DNode} (h : tNode.R w B cs p) : ∃ A2 n2 c2 A3 n3 c3 A4 n4 c4 A5 n5 c5 A6 n6 c6, cs = [.int .i64 (p.1), .int .i64 (p.2.1), .slice A2 n2 c2, .slice A3 n3 c3, .slice A4 n4 c4, .slice A5 n5 c5, .slice A6 n6 c6] ∧ (Lit.int .i64 (p.1)).wf = true ∧ (Lit.int .i64 (p.2.1)).wf = true ∧ (tPool).R w B [.slice A2 n2 c2, .slice A3 n3 c3] (p.2.2.1) ∧ (tDesk).R w B [.slice A4 n4 c4, .slice A5 n5 c5] (p.2.2.2.1) ∧ (tLetter.row).R w B [.slice A6 n6 c6] (p.2.2.2.2) := by
  obtain ⟨ca0, cb0, rfl, ha0, hb0⟩ := h
  obtain ⟨rfl, hi0⟩ := ha0
  obtain ⟨ca1, cb1, rfl, ha1, hb1⟩ := hb0
  obtain ⟨rfl, hi1⟩ := ha1
  obtain ⟨ca2, cb2, rfl, ha2, hb2⟩ := hb1
  have hk2 := ha2
  obtain ⟨A2, n2, c2, A3, n3, c3, rfl, -, -, -, -, -, -, -, -⟩ := openPool ha2
  obtain ⟨ca3, cb3, rfl, ha3, hb3⟩ := hb2
  have hk4 := ha3
  obtain ⟨A4, n4, c4, A5, n5, c5, rfl, -, -, -, -, -, -, -, -⟩ := openDesk ha3
  have hk6 := hb3
  obtain ⟨A6, n6, c6, rfl, -, -, -⟩ := row_one hb3
  exact ⟨A2, n2, c2, A3, n3, c3, A4, n4, c4, A5, n5, c5, A6, n6, c6, rfl, hi0, hi1, hk2, hk4, hk6⟩
theorem o_markNode {w : World} {cs : List Value} {p : DNode} {F : List Nat} (k : Int) (h : tNode.O w cs p F) (hF : F.Nodup) (h0 : 0 ≤ k) (hk : k + cntNode p ≤ 4611686018427387904) :
    Calls Tryz.prog 15 #[.agg cs.toArray, .int .i64 k] w fun e w' => e = .returned (.int .i64 (k + cntNode p)) ∧ tNode.O w' cs (mkNode k p) F ∧ Only F w w' := by
  obtain ⟨A2, c2, A3, c3, A4, c4, A5, c5, A6, c6, G2, G4, G6, rfl, hFe, hi0, hi1, hr2, hr4, hr6⟩ := fopenONode h
  subst F
  unfold cntNode at hk ⊢
  have nd2 : G2.Nodup := (List.nodup_append.1 (List.nodup_append.1 hF).1).1
  have nd4 : G4.Nodup := (List.nodup_append.1 (List.nodup_append.1 hF).1).2.1
  have ap2_4 : ∀ f ∈ G2, f ∉ G4 := fun f h1 h2 => (List.nodup_append.1 (List.nodup_append.1 hF).1).2.2 f (by simp [h1]) f h2 rfl
  have nd6 : G6.Nodup := (List.nodup_append.1 hF).2.1
  have ap2_6 : ∀ f ∈ G2, f ∉ G6 := fun f h1 h2 => (List.nodup_append.1 hF).2.2 f (by simp [h1]) f h2 rfl
  have ap4_6 : ∀ f ∈ G4, f ∉ G6 := fun f h1 h2 => (List.nodup_append.1 hF).2.2 f (by simp [h1]) f h2 rfl
  have y2 : ∀ f ∈ G2, f < w.heap.size := fun f hf => (tNode).lt h f (by simp [hf])
  have y4 : ∀ f ∈ G4, f < w.heap.size := fun f hf => (tNode).lt h f (by simp [hf])
  have y6 : ∀ f ∈ G6, f < w.heap.size := fun f hf => (tNode).lt h f (by simp [hf])
  go_enter Tryz.func15, Tryz.ntmps15
  replace hr2 : (tPool).O (w.alloc (.cells #[.int .i64 (p.1), .int .i64 (p.2.1), .slice A2 ((p.2.2.1.1)).length c2, .slice A3 ((p.2.2.1.2)).length c3, .slice A4 ((p.2.2.2.1.1)).length c4, .slice A5 ((p.2.2.2.1.2)).length c5, .slice A6 ((p.2.2.2.2)).length c6] 45)) _ _ _ := Ty.below hr2 (belx)
  replace hr4 : (tDesk).O (w.alloc (.cells #[.int .i64 (p.1), .int .i64 (p.2.1), .slice A2 ((p.2.2.1.1)).length c2, .slice A3 ((p.2.2.1.2)).length c3, .slice A4 ((p.2.2.2.1.1)).length c4, .slice A5 ((p.2.2.2.1.2)).length c5, .slice A6 ((p.2.2.2.2)).length c6] 45)) _ _ _ := Ty.below hr4 (belx)
  replace hr6 : (tLetter.row).O (w.alloc (.cells #[.int .i64 (p.1), .int .i64 (p.2.1), .slice A2 ((p.2.2.1.1)).length c2, .slice A3 ((p.2.2.1.2)).length c3, .slice A4 ((p.2.2.2.1.1)).length c4, .slice A5 ((p.2.2.2.1.2)).length c5, .slice A6 ((p.2.2.2.2)).length c6] 45)) _ _ _ := Ty.below hr6 (belx)
  have Q0 : Only (G2 ++ G4 ++ G6) w (w.alloc (.cells #[.int .i64 (p.1), .int .i64 (p.2.1), .slice A2 ((p.2.2.1.1)).length c2, .slice A3 ((p.2.2.1.2)).length c3, .slice A4 ((p.2.2.2.1.1)).length c4, .slice A5 ((p.2.2.2.1.2)).length c5, .slice A6 ((p.2.2.2.2)).length c6] 45)) := (Only.refl _ _).alloc _
  have P0 : Box (w.alloc (.cells #[.int .i64 (p.1), .int .i64 (p.2.1), .slice A2 ((p.2.2.1.1)).length c2, .slice A3 ((p.2.2.1.2)).length c3, .slice A4 ((p.2.2.2.1.1)).length c4, .slice A5 ((p.2.2.2.1.2)).length c5, .slice A6 ((p.2.2.2.2)).length c6] 45)) w.heap.size 45 #[.int .i64 (p.1), .int .i64 (p.2.1), .slice A2 ((p.2.2.1.1)).length c2, .slice A3 ((p.2.2.1.2)).length c3, .slice A4 ((p.2.2.2.1.1)).length c4, .slice A5 ((p.2.2.2.1.2)).length c5, .slice A6 ((p.2.2.2.2)).length c6] := Box.new _ _ _
  go_wp2_with fail
  refine (o_markPool (k) hr2 nd2 (by omega) (by omega)).mono ?_
  rintro e w1 ⟨rfl, hO1, hG1⟩
  have Q1 := Q0.trans (hG1.mono (by intro f hf; simp [hf]))
  have P1 : Box w1 w.heap.size 45 #[.int .i64 (p.1), .int .i64 (p.2.1), .slice A2 ((p.2.2.1.1)).length c2, .slice A3 ((p.2.2.1.2)).length c3, .slice A4 ((p.2.2.2.1.1)).length c4, .slice A5 ((p.2.2.2.1.2)).length c5, .slice A6 ((p.2.2.2.2)).length c6] := P0.same (hG1.block _ P0.size (fun e => by have := y2 _ e; omega))
  have e1_0 := P1.cell 0
  have e1_1 := P1.cell 1
  have e1_2 := P1.cell 2
  have e1_3 := P1.cell 3
  have e1_4 := P1.cell 4
  have e1_5 := P1.cell 5
  have e1_6 := P1.cell 6
  replace hr4 := Ty.only (t := tDesk) hr4 hG1 (fun f hf e => ap2_4 f e hf)
  replace hr6 := Ty.only (t := tLetter.row) hr6 hG1 (fun f hf e => ap2_6 f e hf)
  replace hr2 := hO1
  go_wp2_with fail
  refine (o_markDesk (k + ((cntPool (p.2.2.1) : Nat) : Int)) hr4 nd4 (by omega) (by omega)).mono ?_
  rintro e w2 ⟨rfl, hO2, hG2⟩
  have Q2 := Q1.trans (hG2.mono (by intro f hf; simp [hf]))
  have P2 : Box w2 w.heap.size 45 #[.int .i64 (p.1), .int .i64 (p.2.1), .slice A2 ((p.2.2.1.1)).length c2, .slice A3 ((p.2.2.1.2)).length c3, .slice A4 ((p.2.2.2.1.1)).length c4, .slice A5 ((p.2.2.2.1.2)).length c5, .slice A6 ((p.2.2.2.2)).length c6] := P1.same (hG2.block _ P1.size (fun e => by have := y4 _ e; omega))
  have e2_0 := P2.cell 0
  have e2_1 := P2.cell 1
  have e2_2 := P2.cell 2
  have e2_3 := P2.cell 3
  have e2_4 := P2.cell 4
  have e2_5 := P2.cell 5
  have e2_6 := P2.cell 6
  replace hr2 := Ty.only (t := tPool) hr2 hG2 (fun f hf e => ap2_4 f hf e)
  replace hr6 := Ty.only (t := tLetter.row) hr6 hG2 (fun f hf e => ap4_6 f e hf)
  replace hr4 := hO2
  go_wp2_with fail
  refine (o_markLetterS (k + ((cntPool (p.2.2.1) : Nat) : Int) + ((cntDesk (p.2.2.2.1) : Nat) : Int)) hr6 nd6 (by omega) (by omega)).mono ?_
  rintro e w3 ⟨rfl, hO3, hG3⟩
  have Q3 := Q2.trans (hG3.mono (by intro f hf; simp [hf]))
  have P3 : Box w3 w.heap.size 45 #[.int .i64 (p.1), .int .i64 (p.2.1), .slice A2 ((p.2.2.1.1)).length c2, .slice A3 ((p.2.2.1.2)).length c3, .slice A4 ((p.2.2.2.1.1)).length c4, .slice A5 ((p.2.2.2.1.2)).length c5, .slice A6 ((p.2.2.2.2)).length c6] := P2.same (hG3.block _ P2.size (fun e => by have := y6 _ e; omega))
  have e3_0 := P3.cell 0
  have e3_1 := P3.cell 1
  have e3_2 := P3.cell 2
  have e3_3 := P3.cell 3
  have e3_4 := P3.cell 4
  have e3_5 := P3.cell 5
  have e3_6 := P3.cell 6
  replace hr2 := Ty.only (t := tPool) hr2 hG3 (fun f hf e => ap2_6 f hf e)
  replace hr4 := Ty.only (t := tDesk) hr4 hG3 (fun f hf e => ap4_6 f hf e)
  replace hr6 := hO3
  go_wp2
  go_ret
  exact ⟨ret_int (by omega), fmakeONode (p := mkNode k p) hi0 hi1 hr2 hr4 hr6, Q3⟩
end Go.Proofs.YtelbckpplckofaaGreat
namespace Go.Proofs.YtelbckpplckofaaGreat
open Go.RowKit

theorem wf_i64 {x : Int} (h1 : -9223372036854775808 ≤ x) (h2 : x ≤ 9223372036854775807) : (Lit.int .i64 x).wf = true := WalkArith.wf_i64 ⟨by omega, by omega⟩
theorem own_sn {k : IntKind} {e : TypeId} {w w1 : World} {base : Nat} {v v1 : Value} {l l' : List Int} {x : Int} (h : Own k e w base v l) (h1 : w1.ownsRow base e 1 v1 (l.length + 1) (l.map (Value.int k) ++ [.int k x])) (hl : l' = l ++ [x]) (hx : (Lit.int k x).wf = true) : Own k e w1 base v1 l' := by
  subst hl
  refine Own.of (n := l.length + 1) (by simpa using h1) fun y hy => ?_
  rcases List.mem_append.1 hy with h' | h'
  · exact h.2 y h'
  · rw [List.mem_singleton] at h'; rw [h']; exact hx
theorem below_sn {k : IntKind} {e : TypeId} {w wr w1 : World} {base : Nat} {v : Value} {l : List Int} {o : Obj} (hB : Below w.heap.size w wr) (h : Own k e wr base v l) (hb : w.heap.size ≤ base) (hg : (wr.alloc o).grownBy w1 v.ownBlock) : Below w.heap.size w w1 :=
  (hB.alloc hB.size o).grown hg (by simp; have := hB.size; omega) fun b hb' => by have := (h.1.lt b hb').1; omega
end Go.Proofs.YtelbckpplckofaaGreat
namespace Go.Proofs.YtelbckpplckofaaGreat
set_option maxRecDepth 100000
set_option linter.unusedVariables false
set_option linter.unusedSimpArgs false
open Go.ChangeShapes Go.WideShapes Go.ChangeAt Go.RowKit
section
variable {α : Type} {P : α → Prop} {p : α → Bool} {f : α → Int} {l : List α} {a : α} {j : Nat}
theorem al0 : ∀ h ∈ l.take 0, P h := fun h hh => absurd hh (by simp)
theorem alS (h : ∀ x ∈ l.take j, P x) (hl : l[j]? = some a) (ha : P a) : ∀ x ∈ l.take (j + 1), P x := by
  rw [take_sn hl]
  intro x hx
  rcases List.mem_append.1 hx with h' | h'
  · exact h x h'
  · rw [List.mem_singleton] at h'; rw [h']; exact ha
theorem alE (h : ∀ x ∈ l.take j, P x) (hj : l.length ≤ j) : ∀ x ∈ l, P x := by rwa [List.take_of_length_le hj] at h
theorem alMem (hl : l[j]? = some a) : a ∈ l := List.mem_of_getElem? hl
theorem alF (hl : l[j]? = some a) (h : p a = false) : l.all p = false := List.all_eq_false.2 ⟨a, alMem hl, by rw [h]; decide⟩
theorem alT (h : ∀ x ∈ l.take j, p x = true) (hj : l.length ≤ j) : l.all p = true := List.all_eq_true.2 (alE h hj)
theorem mapS (hl : l[j]? = some a) : (l.take (j + 1)).map f = (l.take j).map f ++ [f a] := by rw [take_sn hl, List.map_append]; rfl
theorem mapLen (hn : j ≤ l.length) : ((l.take j).map f).length = j := by rw [List.length_map, List.length_take]; omega
theorem alDec [∀ x, Decidable (P x)] (h : ∀ x ∈ l, P x) : (l.all fun x => decide (P x)) = true := List.all_eq_true.2 fun x hx => decide_eq_true (h x hx)
theorem alDecF [∀ x, Decidable (P x)] (h : ¬ ∀ x ∈ l, P x) : (l.all fun x => decide (P x)) = false := Bool.eq_false_iff.2 fun hh => h fun x hx => of_decide_eq_true (List.all_eq_true.1 hh x hx)
end
theorem atI {l : List Int} {n j : Nat} (h : l.length = n) (hj : j < n) : l[j]? = some (l.getD j 0) := by
  rw [List.getD_eq_getElem?_getD, List.getElem?_eq_getElem (by omega)]; rfl
/-- every over whatever function of numbers. -/
theorem i_everyI {w : World} {B n c : Nat} {A : Option Addr} {l : List Int} (F : Nat) (p : Int → Bool) (hE : ∀ (x : Int) (w : World), Sem.run Tryz.prog (callFunc F #[Value.int .i64 x]) w = .ok (.enter F #[Value.int .i64 x]) w) (hF : ∀ (x : Int) (w : World), Calls Tryz.prog F #[.int .i64 x] w fun e w' => e = .returned (.bool (p x)) ∧ w = w') (hl : Ints .i64 w B A n l) (hn : n ≤ 17592186043904) :
    Calls Tryz.prog 127 #[.slice A n c, .func (.func F) #[] #[]] w fun e w' => e = .returned (.bool (l.all p)) ∧ w = w' := by
  have HL := Lib.hid hl.1
  have HF := Lib.hid hF
  have HE := Lib.hid hE
  clear hF hE
  go_enter Tryz.func127, Tryz.ntmps127
  go_wp2_with fail
  go_loopw [9] (fun i wr => ∃ k : Nat, k ≤ n ∧ i = .int .i64 k ∧ (∀ x ∈ l.take k, p x = true) ∧ wr = w) (fun i _ => n - (RowKit.intOf i).toNat)
  case atStart => exact ⟨0, by omega, rfl, al0, rfl⟩
  case round =>
    obtain ⟨k, hk, rfl, hG, rfl⟩ := hrel
    have HG := Lib.hid hG
    clear hG
    by_cases hlt : k < n
    · obtain ⟨b, off, rfl, hb, hcell, hwf⟩ := hl.at_ hlt
      have HA := Lib.hid (atI HL.out hlt)
      obtain ⟨x, hx⟩ : ∃ x, l.getD k 0 = x := ⟨_, rfl⟩
      rw [hx] at hcell HA
      clear hx hwf
      have q2 : (k : Int) < (n : Int) := by omega
      go_wp2_with fail
      rw [HE.out, Oper.upon_enter]
      refine (HF.out x _).mono ?_
      rintro e w' ⟨rfl, rfl⟩
      obtain ⟨d, hd⟩ : ∃ d, p x = d := ⟨_, rfl⟩
      rw [hd]
      have HD := Lib.hid hd
      clear hd
      cases d
      · have HR := Lib.hid (alF HA.out HD.out)
        go_wp2
        go_ret
        exact ⟨ret_bool HR.out.symm, rfl⟩
      · go_wp2
        go_roundw
        case rel => exact ⟨k + 1, by omega, by go_num, alS HG.out HA.out HD.out, trivial⟩
        case measure => simp [RowKit.intOf]; omega
    · obtain rfl : k = n := by omega
      have q2 : ¬ (k : Int) < (k : Int) := by omega
      have HR := Lib.hid (alT HG.out (Nat.le_of_eq HL.out))
      go_wp2
      go_ret
      exact ⟨ret_bool HR.out.symm, rfl⟩
end Go.Proofs.YtelbckpplckofaaGreat
namespace Go.Proofs.YtelbckpplckofaaGreat
open Fld

/-! ### bytes -/
def Bytes (l : List Int) : Prop := ∀ x ∈ l, 0 ≤ x ∧ x < 256
theorem Bytes.at_ {l : List Int} (h : Bytes l) (i : Nat) : 0 ≤ l.getD i 0 ∧ l.getD i 0 < 256 := by
  rw [List.getD_eq_getElem?_getD]
  by_cases hi : i < l.length
  · rw [List.getElem?_eq_getElem hi, Option.getD_some]; exact h _ (List.getElem_mem _)
  · rw [List.getElem?_eq_none (by omega)]; exact ⟨Int.le_refl _, by decide⟩
theorem Bytes.take {l : List Int} (h : Bytes l) (n : Nat) : Bytes (l.take n) := fun x hx => h x (List.mem_of_mem_take hx)
theorem Bytes.drop {l : List Int} (h : Bytes l) (n : Nat) : Bytes (l.drop n) := fun x hx => h x (List.mem_of_mem_drop hx)
theorem Bytes.app {l r : List Int} (h : Bytes l) (h' : Bytes r) : Bytes (l ++ r) := fun x hx => (List.mem_append.1 hx).elim (h x) (h' x)
theorem Bytes.set {l : List Int} (h : Bytes l) (i : Nat) {x : Int} (hx : 0 ≤ x ∧ x < 256) : Bytes (l.set i x) := fun y hy => by
  rcases List.mem_or_eq_of_mem_set hy with h' | rfl
  · exact h y h'
  · exact hx
/-! ### the key stream -/
def strY (k i : Int) : Int := mulP ((mulP ((k + i * 7919 + 3) % 2147483647) 48271 + k + i + 1) % 2147483647) 16807
def strB (k i : Int) : Int := strY k i / 256 % 256
/-- The first j bytes of l, turned. -/
def xorn (k : Int) (l : List Int) (j : Nat) : List Int := (List.range j).map fun i : Nat => bits .xor .u8 (l.getD i 0) (strB k i)
def xorl (k : Int) (l : List Int) : List Int := xorn k l l.length
/-! ### the code -/
def macR (k : Int) : Int := 1 + keyP k 71 % 2147483646
/-- What the code is when j bytes are over. -/
def macN (r n : Int) (l : List Int) (j : Nat) : Int := (l.take j).foldl (fun n b => addP (addP (mulP n r) b) 1) n
def macV (k : Int) (l : List Int) : Int := macN (macR k) (l.length + 1) l l.length
def mac (k : Int) (l : List Int) : Int := addP (mulP (macV k l) (macR k)) (keyP k 72)
/-! ### sealing -/
def four (n : Int) : List Int := [n / 16777216 % 256, n / 65536 % 256, n / 256 % 256, n % 256]
def get4 (l : List Int) : Int := l.getD 0 0 * 16777216 + l.getD 1 0 * 65536 + l.getD 2 0 * 256 + l.getD 3 0
theorem four_len (n : Int) : (four n).length = 4 := rfl
theorem four_bytes (n : Int) : Bytes (four n) := by
  intro x hx
  simp only [four, List.mem_cons, List.not_mem_nil, or_false] at hx
  omega
/-- What l opens to, if it does. -/
def openL (k : Int) (l : List Int) : List Int := xorl (keyP k 1) (l.drop 4)
def opens (k : Int) (l : List Int) : Prop := 4 ≤ l.length ∧ get4 l = mac (keyP k 2) (l.drop 4)
instance (k : Int) (l : List Int) : Decidable (opens k l) := by unfold opens; infer_instance
end Go.Proofs.YtelbckpplckofaaGreat
namespace Go.Proofs.YtelbckpplckofaaGreat
set_option linter.unusedVariables false
open Go.RowKit
theorem flat_at {css : List (List Value)} {k : Nat} (h : ∀ es ∈ css, es.length = k) {i j : Nat} {es : List Value} (hi : css[i]? = some es) (hj : j < k) : css.flatten[i * k + j]? = es[j]? := by
  induction css generalizing i with
  | nil => simp at hi
  | cons c0 css ih =>
    have h0 := h c0 (by simp)
    rw [List.flatten_cons]
    cases i with
    | zero =>
      simp at hi
      subst hi
      rw [Nat.zero_mul, Nat.zero_add, List.getElem?_append_left (by omega)]
    | succ i =>
      simp at hi
      rw [Nat.succ_mul, List.getElem?_append_right (by omega), show i * k + k + j - c0.length = i * k + j by omega]
      exact ih (fun es hes => h es (by simp [hes])) hi
theorem flat_len {css : List (List Value)} {k : Nat} (h : ∀ es ∈ css, es.length = k) : css.flatten.length = css.length * k := by
  induction css with
  | nil => simp
  | cons c0 css ih =>
    rw [List.flatten_cons, List.length_append, h c0 (by simp), ih (fun es hes => h es (by simp [hes])), List.length_cons, Nat.succ_mul]; omega
section
variable {α : Type} {t : Ty α} {e : TypeId} {w w' : World} {base : Nat} {v : Value} {l : List α} {F : List Nat}
def GrowO (t : Ty α) (e : TypeId) (w : World) (base : Nat) (v : Value) (l : List α) (F : List Nat) : Prop :=
  (∃ (css : List (List Value)) (Fs : List (List Nat)), w.ownsRow base e t.k v l.length css.flatten ∧ css.length = l.length ∧ Fs.length = l.length ∧ F = Fs.flatten ∧
    ∀ (i : Nat) (a : α) (es : List Value) (Fi : List Nat), l[i]? = some a → css[i]? = some es → Fs[i]? = some Fi → t.O w es a Fi) ∧ New base F ∧ ∀ b, v.ownBlock = some b → b ∉ F
theorem GrowO.nil : GrowO t e w base (.slice none 0 0) [] [] :=
  ⟨⟨[], [], ⟨by simp, .inl ⟨rfl, rfl⟩⟩, rfl, rfl, rfl, fun i a es Fi h => by simp at h⟩, New.nil _, fun b h => by simp [Value.ownBlock] at h⟩
theorem GrowO.lt (h : GrowO t e w base v l F) : ∀ f ∈ F, f < w.heap.size := by
  obtain ⟨⟨css, Fs, h1, h2, h3, rfl, h5⟩, _, _⟩ := h
  intro f hf
  obtain ⟨Fi, hFi, hfi⟩ := List.mem_flatten.1 hf
  obtain ⟨i, hi, e1⟩ := List.getElem_of_mem hFi
  have hl : i < l.length := by omega
  have hc : i < css.length := by omega
  exact t.lt (h5 i _ _ Fi (List.getElem?_eq_getElem hl) (List.getElem?_eq_getElem hc) (by rw [List.getElem?_eq_getElem hi, e1])) f hfi
theorem GrowO.below (h : GrowO t e w base v l F) (hB : Below w.heap.size w w') : GrowO t e w' base v l F := by
  obtain ⟨⟨css, Fs, h1, h2, h3, h4, h5⟩, h6, h7⟩ := h
  exact ⟨⟨css, Fs, h1.kept (row := none) (below_grownBy hB) (by cases v.ownBlock <;> simp), h2, h3, h4, fun i a es Fi q1 q2 q3 => Ty.below (h5 i a es Fi q1 q2 q3) hB⟩, h6, h7⟩
theorem GrowO.new (h : GrowO t e w base v l F) : New base F := h.2.1
/-- What an append sees, and what it leaves. -/
theorem GrowO.row (h : GrowO t e w base v l F) : ∃ xs, w.ownsRow base e t.k v l.length xs ∧
    ∀ w3 v1 a es Fa, t.O w es a Fa → New base Fa → (∀ f ∈ Fa, f ∉ F) → (∀ b, v.ownBlock = some b → b ∉ Fa) → w3.ownsRow base e t.k v1 (l.length + 1) (xs ++ es) → w.grownBy w3 v.ownBlock →
      (v1.ownBlock = v.ownBlock ∨ v1.ownBlock = some w.heap.size) → GrowO t e w3 base v1 (l ++ [a]) (F ++ Fa) := by
  have hlt := h.lt
  obtain ⟨⟨css, Fs, h1, h2, h3, rfl, h5⟩, h6, h7⟩ := h
  refine ⟨css.flatten, h1, fun w3 v1 a es Fa q1 q2 q3 q4 q5 q6 q7 => ⟨⟨css ++ [es], Fs ++ [Fa], ?_, by simp [h2], by simp [h3], by simp, ?_⟩, ?_, ?_⟩⟩
  · rw [List.length_append, List.flatten_append]
    simpa using q5
  · intro i b cs Fi r1 r2 r3
    by_cases hi : i < l.length
    · rw [List.getElem?_append_left hi] at r1
      rw [List.getElem?_append_left (by omega)] at r2
      rw [List.getElem?_append_left (by omega)] at r3
      have hO := h5 i b cs Fi r1 r2 r3
      exact t.kept hO fun f hf => q6.block f (t.lt hO f hf) fun e => h7 f e.symm (mem_flat r3 hf)
    · rw [List.getElem?_append_right (by omega)] at r1
      have hi0 : i - l.length = 0 := by
        have := (List.getElem?_eq_some_iff.1 r1).1
        simp at this; omega
      rw [hi0] at r1
      rw [List.getElem?_append_right (by omega), h2, hi0] at r2
      rw [List.getElem?_append_right (by omega), h3, hi0] at r3
      simp at r1 r2 r3
      subst r1 r2 r3
      exact t.kept q1 fun f hf => q6.block f (t.lt q1 f hf) fun e => q4 f e.symm hf
  · refine ⟨List.nodup_append.2 ⟨h6.1, q2.1, fun x hx y hy e => ?_⟩, fun f hf => ?_⟩
    · subst e; exact q3 x hy hx
    · rcases List.mem_append.1 hf with h' | h'
      · exact h6.2 f h'
      · exact q2.2 f h'
  · intro b hb hx
    rcases q7 with q7 | q7
    · rw [q7] at hb
      rcases List.mem_append.1 hx with h' | h'
      · exact h7 b hb h'
      · exact q4 b hb h'
    · rw [q7] at hb
      injection hb with hb
      subst hb
      rcases List.mem_append.1 hx with h' | h'
      · have := hlt _ h'; omega
      · have := t.lt q1 _ h'; omega
theorem GrowO.done (h : GrowO t e w base v l F) : ∃ A c F', v = .slice A l.length c ∧ t.row.O w [.slice A l.length c] l F' ∧ New base F' := by
  obtain ⟨⟨css, Fs, h1, h2, h3, rfl, h5⟩, h6, h7⟩ := h
  rcases h1.2 with ⟨rfl, h0⟩ | ⟨g, cap, cur, rfl, hb, hg, hn, hm, hs, ht⟩
  · have : l = [] := List.eq_nil_of_length_eq_zero h0
    subst this
    exact ⟨none, 0, [], rfl, .inl ⟨none, 0, rfl, by omega, rfl, rfl⟩, New.nil _⟩
  · by_cases h0 : 0 < l.length
    · refine ⟨_, cap, g :: Fs.flatten, rfl, .inr ⟨g, 0, cap, cur, e, Fs, rfl, h0, hn, by simp only [maxLen] at hm; omega, hg, h3, rfl, fun i a Fi q1 q2 => ?_⟩, List.nodup_cons.2 ⟨h7 g rfl, h6.1⟩, fun f hf => ?_⟩
      · have hi : i < l.length := (List.getElem?_eq_some_iff.1 q1).1
        have hc : css[i]? = some (css[i]'(by omega)) := List.getElem?_eq_getElem (by omega)
        refine ⟨_, fun j hj => ?_, h5 i a _ Fi q1 hc q2⟩
        have hlen : ∀ es ∈ css, es.length = t.k := fun es hes => by
          obtain ⟨i', hi', rfl⟩ := List.getElem_of_mem hes
          exact t.lenO (h5 i' _ _ _ (List.getElem?_eq_getElem (by omega)) (List.getElem?_eq_getElem hi') (List.getElem?_eq_getElem (by omega)))
        have hb2 : (i + 1) * t.k ≤ l.length * t.k := Nat.mul_le_mul_right _ hi
        rw [Nat.succ_mul] at hb2
        rw [← flat_at hlen hc hj, ← ht, List.getElem?_take, if_pos (by omega)]
        simp
      · rcases List.mem_cons.1 hf with rfl | hf
        · exact hb
        · exact h6.2 f hf
    · have : l = [] := List.eq_nil_of_length_eq_zero (by omega)
      subst this
      exact ⟨_, cap, [], rfl, .inl ⟨_, cap, rfl, by simp only [maxLen] at hm; omega, rfl, rfl⟩, New.nil _⟩
end
section
variable {α : Type} {t : Ty α} {e : TypeId} {w w' : World} {base B : Nat} {v : Value} {l : List α}
/-- A row of a call's own whose elements read below B: what they hold may be another's. -/
def GrowR (t : Ty α) (e : TypeId) (w : World) (base B : Nat) (v : Value) (l : List α) : Prop :=
  ∃ (css : List (List Value)), w.ownsRow base e t.k v l.length css.flatten ∧ css.length = l.length ∧ ∀ (i : Nat) (a : α) (es : List Value), l[i]? = some a → css[i]? = some es → t.R w B es a
theorem GrowR.nil : GrowR t e w base B (.slice none 0 0) [] := ⟨[], ⟨by simp, .inl ⟨rfl, rfl⟩⟩, rfl, fun i a es h => by simp at h⟩
theorem GrowR.below (h : GrowR t e w base B v l) (hB : Below w.heap.size w w') (hb : B ≤ w.heap.size) : GrowR t e w' base B v l := by
  obtain ⟨css, h1, h2, h5⟩ := h
  exact ⟨css, h1.kept (row := none) (below_grownBy hB) (by cases v.ownBlock <;> simp), h2, fun i a es q1 q2 => t.keep (h5 i a es q1 q2) fun b hlt => hB.block b (by omega)⟩
theorem GrowR.row (h : GrowR t e w base B v l) (hb : B ≤ base) (hw : B ≤ w.heap.size) : ∃ xs, w.ownsRow base e t.k v l.length xs ∧
    ∀ w3 v1 a es, t.R w B es a → w3.ownsRow base e t.k v1 (l.length + 1) (xs ++ es) → w.grownBy w3 v.ownBlock → GrowR t e w3 base B v1 (l ++ [a]) := by
  obtain ⟨css, h1, h2, h5⟩ := h
  have hown := fun b hb => h1.lt b hb
  refine ⟨css.flatten, h1, fun w3 v1 a es q1 q5 q6 => ⟨css ++ [es], ?_, by simp [h2], ?_⟩⟩
  · rw [List.length_append, List.flatten_append]
    simpa using q5
  · have keep : ∀ b, b < B → w3.heap[b]? = w.heap[b]? := fun b hlt => q6.block b (by omega) fun e => by have := (hown b e.symm).1; omega
    intro i b cs r1 r2
    by_cases hi : i < l.length
    · rw [List.getElem?_append_left hi] at r1
      rw [List.getElem?_append_left (by omega)] at r2
      exact t.keep (h5 i b cs r1 r2) keep
    · rw [List.getElem?_append_right (by omega)] at r1
      have hi0 : i - l.length = 0 := by
        have := (List.getElem?_eq_some_iff.1 r1).1
        simp at this; omega
      rw [hi0] at r1
      rw [List.getElem?_append_right (by omega), h2, hi0] at r2
      simp at r1 r2
      subst r1 r2
      exact t.keep q1 keep
theorem GrowR.done (h : GrowR t e w base B v l) (hw : B ≤ w.heap.size) : ∃ A c, v = .slice A l.length c ∧ t.row.R w w.heap.size [.slice A l.length c] l := by
  obtain ⟨css, h1, h2, h5⟩ := h
  rcases h1.2 with ⟨rfl, h0⟩ | ⟨g, cap, cur, rfl, hb, hg, hn, hm, hs, ht⟩
  · have : l = [] := List.eq_nil_of_length_eq_zero h0
    subst this
    exact ⟨none, 0, rfl, none, 0, 0, rfl, Nat.le_refl _, by omega, rfl, fun h => absurd h (by omega)⟩
  · refine ⟨_, cap, rfl, _, l.length, cap, rfl, hn, by simp only [maxLen] at hm; omega, rfl, fun _ => ⟨g, 0, rfl, Box.size (t := e) hg, fun i a q1 => ?_⟩⟩
    have hi : i < l.length := (List.getElem?_eq_some_iff.1 q1).1
    have hc : css[i]? = some (css[i]'(by omega)) := List.getElem?_eq_getElem (by omega)
    refine ⟨_, fun j hj => ?_, t.up (h5 i a _ q1 hc) hw⟩
    have hlen : ∀ es ∈ css, es.length = t.k := fun es hes => by
      obtain ⟨i', hi', rfl⟩ := List.getElem_of_mem hes
      exact t.lenR (h5 i' _ _ (List.getElem?_eq_getElem (by omega)) (List.getElem?_eq_getElem hi'))
    have hb2 : (i + 1) * t.k ≤ l.length * t.k := Nat.mul_le_mul_right _ hi
    rw [Nat.succ_mul] at hb2
    rw [Box.cell (t := e) hg, ← flat_at hlen hc hj, ← ht, List.getElem?_take, if_pos (by omega)]
    simp
end
end Go.Proofs.YtelbckpplckofaaGreat
namespace Go.Proofs.YtelbckpplckofaaGreat
set_option linter.unusedVariables false
open Go.RowKit
section
variable {α : Type} {t : Ty α} {e : TypeId} {w w' : World} {base B n c : Nat} {A : Option Addr} {v : Value} {l l' : List α}
/-- The cells of a row that reads, as what an append takes in. -/
theorem row_src (h : t.row.R w B [.slice A n c] l) (h1 : ∀ es a, t.R w B es a → ∀ u ∈ es, u.oneCell' = true) :
    ∃ css : List (List Value), css.length = l.length ∧ (∀ (i : Nat) (a : α) (es : List Value), l[i]? = some a → css[i]? = some es → t.R w B es a) ∧ Src w t.k A n css.flatten ∧ ∀ u ∈ css.flatten, u.oneCell' = true := by
  obtain ⟨A', n', c', e1, h2, h3, h4, h5⟩ := h
  injection e1 with e1 _
  injection e1 with e1 e2 e3
  subst e1 e2 e3
  by_cases h0 : 0 < n
  · obtain ⟨b, off, rfl, hb, hc⟩ := h5 h0
    have hx : ∀ i, i < l.length → ∃ es, (∀ j, j < t.k → w.cell? ⟨b, off + i * t.k + j, none⟩ = es[j]?) ∧ ∀ a, l[i]? = some a → t.R w B es a := fun i hi => by
      obtain ⟨es, k1, k2⟩ := hc i _ (List.getElem?_eq_getElem hi)
      exact ⟨es, k1, fun a ha => by rw [List.getElem?_eq_getElem hi] at ha; injection ha with ha; rw [← ha]; exact k2⟩
    obtain ⟨css, hcs⟩ : ∃ css, css = (List.range l.length).pmap (fun i hi => (hx i hi).choose) (fun i hi => List.mem_range.1 hi) := ⟨_, rfl⟩
    have hlen : css.length = l.length := by rw [hcs]; simp
    have hat : ∀ i es, css[i]? = some es → ∃ hi : i < l.length, es = (hx i hi).choose := fun i es hi => by
      rw [hcs, List.getElem?_pmap] at hi
      by_cases hl : i < l.length
      · refine ⟨hl, ?_⟩
        simp [List.getElem?_range hl] at hi
        exact hi.symm
      · simp [List.getElem?_eq_none (show (List.range l.length).length ≤ i by simp; omega)] at hi
    have hk : ∀ es ∈ css, es.length = t.k := fun es hes => by
      obtain ⟨i, hi, rfl⟩ := List.getElem_of_mem hes
      obtain ⟨hl, e⟩ := hat i _ (List.getElem?_eq_getElem hi)
      exact t.lenR (B := B) ((congrArg (fun x => t.R w B x _) e).mpr ((hx i hl).choose_spec.2 _ (List.getElem?_eq_getElem hl)))
    refine ⟨css, hlen, fun i a es hi he => ?_, ⟨by rw [flat_len hk, hlen, h4], fun _ => ⟨b, off, rfl, fun j u hj => ?_⟩⟩, fun u hu => ?_⟩
    · obtain ⟨hl, rfl⟩ := hat i es he
      exact (hx i hl).choose_spec.2 a hi
    · have hj2 : j < css.length * t.k := by rw [← flat_len hk]; exact (List.getElem?_eq_some_iff.1 hj).1
      have hkp : 0 < t.k := by
        rcases Nat.eq_zero_or_pos t.k with h | h
        · rw [h] at hj2; omega
        · exact h
      have hq : j / t.k < css.length := (Nat.div_lt_iff_lt_mul hkp).2 hj2
      have hr : j % t.k < t.k := Nat.mod_lt _ hkp
      have e0 : j / t.k * t.k + j % t.k = j := by rw [Nat.mul_comm]; exact Nat.div_add_mod _ _
      have h6 := flat_at hk (List.getElem?_eq_getElem hq) hr
      rw [e0, hj] at h6
      obtain ⟨hl, e⟩ := hat (j / t.k) _ (List.getElem?_eq_getElem hq)
      have h7 := (hx _ hl).choose_spec.1 _ hr
      rw [← e, ← h6, Nat.add_assoc, e0] at h7
      exact h7
    · obtain ⟨es, hes, hu⟩ := List.mem_flatten.1 hu
      obtain ⟨i, hi, rfl⟩ := List.getElem_of_mem hes
      obtain ⟨hl, e⟩ := hat i _ (List.getElem?_eq_getElem hi)
      exact h1 _ _ ((congrArg (fun x => t.R w B x _) e).mpr ((hx i hl).choose_spec.2 _ (List.getElem?_eq_getElem hl))) u hu
  · have hl : l = [] := List.eq_nil_of_length_eq_zero (by omega)
    subst hl
    obtain rfl : n = 0 := by omega
    exact ⟨[], rfl, fun i a es hi => by simp at hi, ⟨by simp, fun h => absurd h h0⟩, fun u hu => by simp at hu⟩
/-- What an append of a whole row sees, and what it leaves. -/
theorem GrowR.rows (h : GrowR t e w base B v l) (hr : t.row.R w B [.slice A n c] l') (h1 : ∀ es a, t.R w B es a → ∀ u ∈ es, u.oneCell' = true) (hb : B ≤ base) (hw : B ≤ w.heap.size) :
    ∃ xs news, w.ownsRow base e t.k v l.length xs ∧ Src w t.k A n news ∧ (∀ u ∈ news, u.oneCell' = true) ∧
      ∀ w3 v1, w3.ownsRow base e t.k v1 (l.length + n) (xs ++ news) → w.grownBy w3 v.ownBlock → GrowR t e w3 base B v1 (l ++ l') := by
  obtain ⟨css2, k1, k2, k3, k4⟩ := row_src hr h1
  have hn : l'.length = n := (rowR_len hr).1
  obtain ⟨css, g1, g2, g5⟩ := h
  have hown := fun b hb => g1.lt b hb
  refine ⟨css.flatten, css2.flatten, g1, k3, k4, fun w3 v1 q5 q6 => ⟨css ++ css2, ?_, by simp [g2, k1], ?_⟩⟩
  · rw [List.length_append, List.flatten_append, hn]
    exact q5
  · have keep : ∀ b, b < B → w3.heap[b]? = w.heap[b]? := fun b hlt => q6.block b (by omega) fun e => by have := (hown b e.symm).1; omega
    intro i b cs r1 r2
    by_cases hi : i < l.length
    · rw [List.getElem?_append_left hi] at r1
      rw [List.getElem?_append_left (by omega)] at r2
      exact t.keep (g5 i b cs r1 r2) keep
    · rw [List.getElem?_append_right (by omega)] at r1
      rw [List.getElem?_append_right (by omega), g2] at r2
      exact t.keep (k2 _ b cs r1 r2) keep
end
theorem step_app5 {P : Program} (w : World) {ops : Array Oper} {o : Oper} {a : Act} {K : Act → World → Prop} {Q : Exit → Act → World → Prop} {E : Prop} (hgd : o.guard = none) (s x : Operand) (t : TypeId)
    (ho : o.op = .call { callee := .builtin .append, args := #[s, x], argTypes := #[t, t] })
    (base : Nat) (e : TypeId) (i : TypeInfo) (z : Value) (size bytes : Nat) (ht : P.underlying t = some (.slice e)) (hi : P.info? e = some i) (hz : i.zero = some z)
    (hsize : i.size = size) (hby : i.bytes = bytes) (hzs : z.cells.size = size) (hsz : 0 < size)
    (v : Value) (n : Nat) (xs : List Value) (hs : a.eval s = v) (hown : w.ownsRow base e size v n xs)
    (A : Option Addr) (m c : Nat) (news : List Value) (hx : a.eval x = .slice A m c) (hr : Src w size A m news) (h1 : ∀ u ∈ news, u.oneCell' = true)
    (h63 : n + m ≤ maxLen) (hbytes : (n + m) * bytes ≤ 140737488355328) (hbase : base ≤ w.heap.size)
    (h : ∀ v' w', w'.ownsRow base e size v' (n + m) (xs ++ news) → w.grownBy w' v.ownBlock → (v'.ownBlock = v.ownBlock ∨ v'.ownBlock = some w.heap.size) → K (a.put o.dst v') w') :
    if Region.wanted o (yielded ops a.tmps) = true then Oper.wp P o a w K Q else E := by
  have hw : Region.wanted o (yielded ops a.tmps) = true := by simp [Region.wanted, hgd]
  rw [if_pos hw]
  exact wp_app w s x t ho base e i z size bytes ht hi hz hsize hby hzs hsz v n xs hs hown A m c news hx hr h1 h63 hbytes hbase h
/-- A struct's cells in a block, as what an append takes in. -/
theorem Src.of_boxed {w : World} {g : Nat} {e : TypeId} {es : List Value} {K : Nat} (hb : Box w g e es.toArray) (hK : es.length = K) : Src w K (some ⟨g, 0, none⟩) 1 es := by
  refine ⟨by omega, fun _ => ⟨_, 0, rfl, fun j u hj => ?_⟩⟩
  rw [Nat.zero_add, hb.cell]
  simpa using hj
section
variable {α : Type} {t : Ty α} {e : TypeId} {w w' : World} {base B n c : Nat} {v : Value} {l : List α} {F : List Nat}
theorem GrowR.own (h : GrowR t e w base B v l) : ∀ b, v.ownBlock = some b → base ≤ b ∧ b < w.heap.size := fun b hb => by
  obtain ⟨css, h1, _⟩ := h; exact h1.lt b hb
theorem GrowR.put (h : GrowR t e w base B v l) {p : Addr} (h1 : p.block < base) (h2 : B ≤ p.block) (u : Value) : GrowR t e (w.setCell p u) base B v l := by
  obtain ⟨css, k1, k2, k5⟩ := h
  refine ⟨css, k1.kept (row := some p.block) ⟨rfl, rfl, rfl, by simp [World.setCell], fun i hi hn => Below.heap_setCell w p u i (fun e => hn (by rw [e]))⟩ ?_, k2, fun i a es q1 q2 => t.keep (k5 i a es q1 q2) fun b hlt => Below.heap_setCell w p u b (by omega)⟩
  refine .inr fun e => ?_
  have := (k1.lt _ e).1
  omega
theorem GrowR.shape (h : GrowR t e w base B v l) : ∃ A c, v = .slice A l.length c := by
  obtain ⟨css, h1, _⟩ := h
  rcases h1.2 with ⟨rfl, h0⟩ | ⟨g, cap, cur, rfl, _⟩
  · exact ⟨none, 0, by rw [h0]⟩
  · exact ⟨_, cap, rfl⟩
theorem GrowO.shape (h : GrowO t e w base v l F) : ∃ A c, v = .slice A l.length c := by
  obtain ⟨⟨css, Fs, h1, _⟩, _⟩ := h
  rcases h1.2 with ⟨rfl, h0⟩ | ⟨g, cap, cur, rfl, _⟩
  · exact ⟨none, 0, by rw [h0]⟩
  · exact ⟨_, cap, rfl⟩
theorem GrowR.shapeN (h : GrowR t e w base B v l) : ∃ A n c, v = .slice A n c ∧ n = l.length := by
  obtain ⟨A, c, rfl⟩ := h.shape; exact ⟨A, _, c, rfl, rfl⟩
theorem GrowO.shapeN (h : GrowO t e w base v l F) : ∃ A n c, v = .slice A n c ∧ n = l.length := by
  obtain ⟨A, c, rfl⟩ := h.shape; exact ⟨A, _, c, rfl, rfl⟩
theorem GrowO.own (h : GrowO t e w base v l F) : ∀ b, v.ownBlock = some b → base ≤ b ∧ b < w.heap.size := fun b hb => by
  obtain ⟨⟨css, Fs, h1, _⟩, _⟩ := h; exact h1.lt b hb
variable {P : Program} {ops : Array Oper} {rest : List Oper} {o : Oper} {a : Act} {K : Act → World → Prop} {Q : Exit → Act → World → Prop} {E : Prop}
/-- One struct more behind a row that reads: the step of a drawn region. -/
theorem GrowR.step (hgd : o.guard = none) (s x : Operand) (ty : TypeId) (ho : o.op = .call { callee := .builtin .append, args := #[s, x], argTypes := #[ty, ty] })
    (i : TypeInfo) (z : Value) (size bytes : Nat) (ht : P.underlying ty = some (.slice e)) (hi : P.info? e = some i) (hz : i.zero = some z) (hsize : i.size = size) (hby : i.bytes = bytes) (hzs : z.cells.size = size) (hsz : 0 < size) (hk : t.k = size)
    (hs : a.eval s = v) (hG : GrowR t e w base B v l) (g : Nat) (es : List Value) (el : α) (hx : a.eval x = .slice (some ⟨g, 0, none⟩) 1 1) (hb : Box w g e es.toArray) (hR : t.R w B es el) (h1 : ∀ u ∈ es, u.oneCell' = true)
    (hB : B ≤ base) (hw : base ≤ w.heap.size) (h63 : l.length + 1 ≤ maxLen) (hbytes : (l.length + 1) * bytes ≤ 140737488355328)
    (h : ∀ v' w', GrowR t e w' base B v' (l ++ [el]) → w.grownBy w' v.ownBlock → K (a.put o.dst v') w') :
    if Region.wanted o (yielded ops a.tmps) = true then Oper.wp P o a w K Q else E := by
  subst hk
  obtain ⟨xs, hrow, hpush⟩ := hG.row hB (Nat.le_trans hB hw)
  exact step_app5 w hgd s x ty ho base e i z t.k bytes ht hi hz hsize hby hzs hsz v l.length xs hs hrow _ 1 1 es hx (Src.of_boxed hb (t.lenR hR)) h1 h63 hbytes hw fun v' w' q1 q2 _ => h v' w' (hpush w' v' el es hR q1 q2) q2
/-- The same in a plain region. -/
theorem GrowR.push (hgd : o.guard = none) (s x : Operand) (ty : TypeId) (ho : o.op = .call { callee := .builtin .append, args := #[s, x], argTypes := #[ty, ty] })
    (i : TypeInfo) (z : Value) (size bytes : Nat) (ht : P.underlying ty = some (.slice e)) (hi : P.info? e = some i) (hz : i.zero = some z) (hsize : i.size = size) (hby : i.bytes = bytes) (hzs : z.cells.size = size) (hsz : 0 < size) (hk : t.k = size)
    (hs : a.eval s = v) (hG : GrowR t e w base B v l) (g : Nat) (es : List Value) (el : α) (hx : a.eval x = .slice (some ⟨g, 0, none⟩) 1 1) (hb : Box w g e es.toArray) (hR : t.R w B es el) (h1 : ∀ u ∈ es, u.oneCell' = true)
    (hB : B ≤ base) (hw : base ≤ w.heap.size) (h63 : l.length + 1 ≤ maxLen) (hbytes : (l.length + 1) * bytes ≤ 140737488355328)
    (h : ∀ v' w', GrowR t e w' base B v' (l ++ [el]) → w.grownBy w' v.ownBlock → wpList P ops Q rest (a.put o.dst v') w') : wpList P ops Q (o :: rest) a w := by
  subst hk
  obtain ⟨xs, hrow, hpush⟩ := hG.row hB (Nat.le_trans hB hw)
  exact wpList_app w hgd s x ty ho base e i z t.k bytes ht hi hz hsize hby hzs hsz v l.length xs hs hrow _ 1 1 es hx (Src.of_boxed hb (t.lenR hR)) h1 h63 hbytes hw fun v' w' q1 q2 _ => h v' w' (hpush w' v' el es hR q1 q2) q2
/-- A whole row behind a row, both read: the step of a drawn region. -/
theorem GrowR.stepRow (hgd : o.guard = none) (s x : Operand) (ty : TypeId) (ho : o.op = .call { callee := .builtin .append, args := #[s, x], argTypes := #[ty, ty] })
    (i : TypeInfo) (z : Value) (size bytes : Nat) (ht : P.underlying ty = some (.slice e)) (hi : P.info? e = some i) (hz : i.zero = some z) (hsize : i.size = size) (hby : i.bytes = bytes) (hzs : z.cells.size = size) (hsz : 0 < size) (hk : t.k = size)
    (hs : a.eval s = v) (hG : GrowR t e w base B v l) {A : Option Addr} {l' : List α} (hx : a.eval x = .slice A n c) (hr : t.row.R w B [.slice A n c] l') (h1 : ∀ es a, t.R w B es a → ∀ u ∈ es, u.oneCell' = true)
    (hB : B ≤ base) (hw : base ≤ w.heap.size) (h63 : l.length + n ≤ maxLen) (hbytes : (l.length + n) * bytes ≤ 140737488355328)
    (h : ∀ v' w', GrowR t e w' base B v' (l ++ l') → w.grownBy w' v.ownBlock → K (a.put o.dst v') w') :
    if Region.wanted o (yielded ops a.tmps) = true then Oper.wp P o a w K Q else E := by
  subst hk
  obtain ⟨xs, news, hrow, hsrc, h1', hpush⟩ := hG.rows hr h1 hB (Nat.le_trans hB hw)
  exact step_app5 w hgd s x ty ho base e i z t.k bytes ht hi hz hsize hby hzs hsz v l.length xs hs hrow A n c news hx hsrc h1' h63 hbytes hw fun v' w' q1 q2 _ => h v' w' (hpush w' v' q1 q2) q2
/-- One struct more behind a call's own row, each owning what it holds: the step of a drawn region. -/
theorem GrowO.step (hgd : o.guard = none) (s x : Operand) (ty : TypeId) (ho : o.op = .call { callee := .builtin .append, args := #[s, x], argTypes := #[ty, ty] })
    (i : TypeInfo) (z : Value) (size bytes : Nat) (ht : P.underlying ty = some (.slice e)) (hi : P.info? e = some i) (hz : i.zero = some z) (hsize : i.size = size) (hby : i.bytes = bytes) (hzs : z.cells.size = size) (hsz : 0 < size) (hk : t.k = size)
    (hs : a.eval s = v) (hG : GrowO t e w base v l F) (g : Nat) (es : List Value) (el : α) {Fa : List Nat} (hx : a.eval x = .slice (some ⟨g, 0, none⟩) 1 1) (hb : Box w g e es.toArray) (hO : t.O w es el Fa) (hN : New base Fa) (hd : ∀ f ∈ Fa, f ∉ F) (hv : ∀ b, v.ownBlock = some b → b ∉ Fa) (h1 : ∀ u ∈ es, u.oneCell' = true)
    (hw : base ≤ w.heap.size) (h63 : l.length + 1 ≤ maxLen) (hbytes : (l.length + 1) * bytes ≤ 140737488355328)
    (h : ∀ v' w', GrowO t e w' base v' (l ++ [el]) (F ++ Fa) → w.grownBy w' v.ownBlock → K (a.put o.dst v') w') :
    if Region.wanted o (yielded ops a.tmps) = true then Oper.wp P o a w K Q else E := by
  subst hk
  obtain ⟨xs, hrow, hpush⟩ := hG.row
  exact step_app5 w hgd s x ty ho base e i z t.k bytes ht hi hz hsize hby hzs hsz v l.length xs hs hrow _ 1 1 es hx (Src.of_boxed hb (t.lenO hO)) h1 h63 hbytes hw fun v' w' q1 q2 q3 => h v' w' (hpush w' v' el es Fa hO hN hd hv q1 q2 q3) q2
/-- The same in a plain region. -/
theorem GrowO.push (hgd : o.guard = none) (s x : Operand) (ty : TypeId) (ho : o.op = .call { callee := .builtin .append, args := #[s, x], argTypes := #[ty, ty] })
    (i : TypeInfo) (z : Value) (size bytes : Nat) (ht : P.underlying ty = some (.slice e)) (hi : P.info? e = some i) (hz : i.zero = some z) (hsize : i.size = size) (hby : i.bytes = bytes) (hzs : z.cells.size = size) (hsz : 0 < size) (hk : t.k = size)
    (hs : a.eval s = v) (hG : GrowO t e w base v l F) (g : Nat) (es : List Value) (el : α) {Fa : List Nat} (hx : a.eval x = .slice (some ⟨g, 0, none⟩) 1 1) (hb : Box w g e es.toArray) (hO : t.O w es el Fa) (hN : New base Fa) (hd : ∀ f ∈ Fa, f ∉ F) (hv : ∀ b, v.ownBlock = some b → b ∉ Fa) (h1 : ∀ u ∈ es, u.oneCell' = true)
    (hw : base ≤ w.heap.size) (h63 : l.length + 1 ≤ maxLen) (hbytes : (l.length + 1) * bytes ≤ 140737488355328)
    (h : ∀ v' w', GrowO t e w' base v' (l ++ [el]) (F ++ Fa) → w.grownBy w' v.ownBlock → wpList P ops Q rest (a.put o.dst v') w') : wpList P ops Q (o :: rest) a w := by
  subst hk
  obtain ⟨xs, hrow, hpush⟩ := hG.row
  exact wpList_app w hgd s x ty ho base e i z t.k bytes ht hi hz hsize hby hzs hsz v l.length xs hs hrow _ 1 1 es hx (Src.of_boxed hb (t.lenO hO)) h1 h63 hbytes hw fun v' w' q1 q2 q3 => h v' w' (hpush w' v' el es Fa hO hN hd hv q1 q2 q3) q2
end
end Go.Proofs.YtelbckpplckofaaGreat
namespace Go.Proofs.YtelbckpplckofaaGreat
set_option linter.unusedVariables false
open Go.RowKit
section
variable {α : Type} {t : Ty α} {e : TypeId} {w w' : World} {base B n c : Nat} {v : Value} {l : List α}
theorem GrowR.empty (hb : base ≤ w.heap.size) : GrowR t e (w.alloc (.cells #[] e)) base B (.slice (some ⟨w.heap.size, 0, none⟩) 0 0) [] :=
  ⟨[], ⟨by simp, .inr ⟨w.heap.size, 0, #[], rfl, hb, heap_alloc_new w _, Nat.le_refl _, by simp only [maxLen]; omega, by simp, by simp⟩⟩, rfl, fun i a es h => by simp at h⟩
theorem GrowR.drew (h : GrowR t e w base B v l) (hw : B ≤ w.heap.size) : GrowR t e w.drew base B v l := by
  obtain ⟨css, k1, k2, k5⟩ := h
  exact ⟨css, k1.kept (row := none) (gb_drew (World.grownBy.refl _ _)) (by cases v.ownBlock <;> simp), k2, fun i a es q1 q2 => t.keep (k5 i a es q1 q2) fun b hb => rfl⟩
end
section
variable {k : IntKind} {e : TypeId} {w w' : World} {base B n c : Nat} {v : Value} {l : List Int}
theorem Own.empty (hb : base ≤ w.heap.size) : Own k e (w.alloc (.cells #[] e)) base (.slice (some ⟨w.heap.size, 0, none⟩) 0 0) [] :=
  ⟨⟨by simp, .inr ⟨w.heap.size, 0, #[], rfl, hb, heap_alloc_new w _, Nat.le_refl _, by simp only [maxLen]; omega, by simp, by simp⟩⟩, by simp⟩
theorem Own.drew (h : Own k e w base v l) : Own k e w.drew base v l := ⟨h.1.kept (row := none) (gb_drew (World.grownBy.refl _ _)) (by cases v.ownBlock <;> simp), h.2⟩
theorem Own.shapeN (h : Own k e w base v l) : ∃ A n c, v = .slice A n c ∧ n = l.length := by
  obtain ⟨A, c, rfl, _⟩ := h.shape; exact ⟨A, _, c, rfl, rfl⟩
variable {P : Program} {ops : Array Oper} {rest : List Oper} {o : Oper} {a : Act} {K : Act → World → Prop} {Q : Exit → Act → World → Prop} {E : Prop}
/-- Integers behind a call's own slice, out of one that reads: the step of a drawn region. -/
theorem Own.stepRow (hgd : o.guard = none) (s x : Operand) (ty : TypeId) (ho : o.op = .call { callee := .builtin .append, args := #[s, x], argTypes := #[ty, ty] })
    (i : TypeInfo) (z : Value) (bytes : Nat) (ht : P.underlying ty = some (.slice e)) (hi : P.info? e = some i) (hz : i.zero = some z) (hsize : i.size = 1) (hby : i.bytes = bytes) (hzs : z.cells.size = 1)
    (hs : a.eval s = v) (hG : Own k e w base v l) {A : Option Addr} {l' : List Int} (hx : a.eval x = .slice A n c) (hr : Ints k w B A n l')
    (hw : base ≤ w.heap.size) (h63 : l.length + n ≤ maxLen) (hbytes : (l.length + n) * bytes ≤ 140737488355328)
    (h : ∀ v' w', Own k e w' base v' (l ++ l') → w.grownBy w' v.ownBlock → (v'.ownBlock = v.ownBlock ∨ v'.ownBlock = some w.heap.size) → K (a.put o.dst v') w') :
    if Region.wanted o (yielded ops a.tmps) = true then Oper.wp P o a w K Q else E :=
  step_app5 w hgd s x ty ho base e i z 1 bytes ht hi hz hsize hby hzs (by omega) v l.length _ hs hG.1 A n c (l'.map (Value.int k)) hx (Src.of_ints hr) (one_ints _ _) h63 hbytes hw fun v' w' q1 q2 q3 =>
    h v' w' (Own.of (n := l.length + n) (by rw [List.map_append]; exact q1) fun y hy => by
      rcases List.mem_append.1 hy with h' | h'
      · exact hG.2 y h'
      · exact hr.2.2 y h') q2 q3
end
end Go.Proofs.YtelbckpplckofaaGreat
namespace Go.Proofs.YtelbckpplckofaaGreat
set_option maxRecDepth 100000
set_option linter.unusedVariables false
set_option linter.unusedSimpArgs false
open Go.ChangeShapes Go.WideShapes Go.ChangeAt Go.RowKit
/-- From w with v to w' with v': beside v's own block nothing old has changed; v' has v's block or a new one. -/
def Ext (w : World) (v : Value) (w' : World) (v' : Value) : Prop := w.grownBy w' v.ownBlock ∧ (v'.ownBlock = v.ownBlock ∨ ∃ b, v'.ownBlock = some b ∧ w.heap.size ≤ b)
section
variable {w w' w1 w2 : World} {v v' v1 v2 : Value} {B g : Nat} {t : TypeId} {cs : Array Value}
theorem Ext.refl (w : World) (v : Value) : Ext w v w v := ⟨World.grownBy.refl _ _, .inl rfl⟩
theorem Ext.trans (h : Ext w v w1 v1) (k : Ext w1 v1 w2 v2) : Ext w v w2 v2 := by
  refine ⟨⟨k.1.os.trans h.1.os, k.1.tape.trans h.1.tape, k.1.output.trans h.1.output, Nat.le_trans h.1.size k.1.size, fun i hi hn => ?_⟩, ?_⟩
  · refine (k.1.block i (Nat.lt_of_lt_of_le hi h.1.size) ?_).trans (h.1.block i hi hn)
    intro e
    rcases h.2 with h2 | ⟨b, h2, h3⟩
    · exact hn (e.trans h2)
    · rw [h2] at e; injection e with e; omega
  · rcases k.2 with k2 | ⟨b, k2, k3⟩
    · rcases h.2 with h2 | ⟨b, h2, h3⟩
      · exact .inl (k2.trans h2)
      · exact .inr ⟨b, k2.trans h2, h3⟩
    · exact .inr ⟨b, k2, Nat.le_trans h.1.size k3⟩
theorem Ext.of (h : Below w.heap.size w w') : Ext w v w' v := ⟨below_grownBy h, .inl rfl⟩
theorem Ext.app (h : Ext w v w1 v1) (hB : Below w1.heap.size w1 w2) (hg : w2.grownBy w' v1.ownBlock) (ha : v'.ownBlock = v1.ownBlock ∨ v'.ownBlock = some w2.heap.size) : Ext w v w' v' :=
  h.trans ((Ext.of hB).trans ⟨hg, ha.imp id fun e => ⟨_, e, Nat.le_refl _⟩⟩)
theorem Ext.box (h : Ext w v w' v') (hb : Box w g t cs) (hn : v.ownBlock ≠ some g) : Box w' g t cs := hb.grown h.1 (fun e => hn e.symm)
theorem Ext.not (h : Ext w v w' v') (hg : g < w.heap.size) (hn : v.ownBlock ≠ some g) : v'.ownBlock ≠ some g := fun e => by
  rcases h.2 with h2 | ⟨b, h2, h3⟩
  · exact hn (h2.symm.trans e)
  · rw [h2] at e; injection e with e; omega
theorem Ext.below (h : Ext w v w' v') (hB : B ≤ w.heap.size) (hv : ∀ b, v.ownBlock = some b → B ≤ b) : Below B w w' :=
  ⟨h.1.os, h.1.tape, h.1.output, h.1.size, fun k hk => h.1.block k (by omega) fun e => by have := hv k e.symm; omega⟩
end
theorem bcell {w w' : World} {B b o : Nat} {u : Value} (hB : Below B w w') (hb : b < B) (h : w.cell? ⟨b, o, none⟩ = some u) : w'.cell? ⟨b, o, none⟩ = some u := (World.cell?_of_block (hB.block b hb)).trans h
/-- Cells that have just been laid. -/
theorem Src.cells (w : World) (t : TypeId) (us : List Value) : Src (w.alloc (.cells us.toArray t)) 1 (some ⟨w.heap.size, 0, none⟩) us.length us := by
  refine ⟨by simp, fun _ => ⟨_, 0, rfl, fun j u hj => ?_⟩⟩
  rw [Nat.zero_add, (Box.new w t _).cell]
  simpa using hj
theorem ints3 {k : IntKind} (w : World) (t : TypeId) {a b c : Int} (ha : (Lit.int k a).wf = true) (hb : (Lit.int k b).wf = true) (hc : (Lit.int k c).wf = true) :
    Ints k (w.alloc (.cells #[.int k a, .int k b, .int k c] t)) (w.alloc (.cells #[.int k a, .int k b, .int k c] t)).heap.size (some ⟨w.heap.size, 0, none⟩) 3 [a, b, c] := by
  refine ⟨rfl, fun _ => ⟨_, 0, rfl, by simp, fun i hi => ?_⟩, fun x hx => ?_⟩
  · rw [Nat.zero_add, (Box.new w t _).cell]
    rcases (by omega : i = 0 ∨ i = 1 ∨ i = 2) with rfl | rfl | rfl <;> rfl
  · simp only [List.mem_cons, List.not_mem_nil, or_false] at hx
    rcases hx with rfl | rfl | rfl
    · exact ha
    · exact hb
    · exact hc
theorem flS {α : Type} {f : α → List Int} {l : List α} {j : Nat} {a : α} (hl : l[j]? = some a) : (l.take (j + 1)).flatMap f = (l.take j).flatMap f ++ f a := by
  rw [take_sn hl, List.flatMap_append]; simp
theorem flLe {α : Type} {f : α → List Int} {l : List α} {m : Nat} (h : ∀ a ∈ l, (f a).length ≤ m) (j : Nat) : ((l.take j).flatMap f).length ≤ m * l.length := by
  induction l generalizing j with
  | nil => simp
  | cons a l ih =>
    cases j with
    | zero => simp
    | succ j =>
      have := ih (fun x hx => h x (by simp [hx])) j
      have := h a (by simp)
      rw [List.take_succ_cons, List.flatMap_cons, List.length_append, List.length_cons, Nat.mul_succ]
      omega
theorem own_appN {K : IntKind} {e : TypeId} {w : World} {base n : Nat} {v : Value} {l r : List Int} (h : w.ownsRow base e 1 v (l.length + n) (l.map (Value.int K) ++ r.map (Value.int K))) (hn : r.length = n) (hl : ∀ x ∈ l, (Lit.int K x).wf = true) (hr : ∀ x ∈ r, (Lit.int K x).wf = true) : Own K e w base v (l ++ r) :=
  Own.of (n := l.length + n) (by rw [List.map_append]; exact h) fun x hx => by
    rcases List.mem_append.1 hx with h' | h'
    · exact hl x h'
    · exact hr x h'
theorem u8_mod (d : Int) : IntKind.u8.wrap d = d % 256 := by
  have hb : IntKind.u8.bits = 8 := rfl
  have hs : IntKind.u8.signed = false := rfl
  simp [IntKind.wrap, hb, hs]
theorem four_wf {x : Int} : ∀ y ∈ four x, (Lit.int .u8 y).wf = true := fun y hy => WalkArith.wf_u8 (by have := four_bytes x y hy; omega)
theorem four_in {x : Int} (h : 0 ≤ x ∧ x < 2147483648) : [x / 16777216, x / 65536 % 256, x / 256 % 256, x % 256] = four x := by
  unfold four
  rw [Int.emod_eq_of_lt (show 0 ≤ x / 16777216 by omega) (by omega)]
theorem s_fourG {w : World} {base n c : Nat} {A : Option Addr} {l : List Int} (hO : Own .u8 5 w base (.slice A n c) l) (hbase : base ≤ w.heap.size) (hn : n ≤ 1000000) (x : Int) (h : 0 ≤ x ∧ x < 2147483648) :
    Calls Tryz.prog 100 #[.slice A n c, .int .i64 x] w fun e w' => ∃ v', e = .returned v' ∧ Own .u8 5 w' base v' (l ++ four x) ∧ Ext w (.slice A n c) w' v' := by
  obtain ⟨i0, hi0, hz0, hz1, hz2⟩ := info_parts info_cb
  have HF := Lib.hid (four_in h)
  have HL := Lib.hid hO.intsAt.2
  have hOa := fun o => hO.alloc o
  have HO := Lib.hid hO.2
  go_enter Tryz.func100, Tryz.ntmps100
  go_wp2_with (at_builtin; refine wpList_app _ rfl (.tmp 5) (.tmp 17) _ rfl base 5 i0 _ 1 1 Tryz.underlying32 hi0 hz0 hz1 hz2 rfl (by omega) (.slice A n c) l.length (l.map (Value.int .u8)) rfl (hOa _).1 _ 4 4 [.int .u8 (x / 16777216), .int .u8 (x / 65536 % 256), .int .u8 (x / 256 % 256), .int .u8 (x % 256)] rfl (Src.cells _ _ _) (by intro u hu; simp only [List.mem_cons, List.not_mem_nil, or_false] at hu; rcases hu with rfl | rfl | rfl | rfl <;> rfl) (by simp only [maxLen]; have := HL.out; omega) (by have := HL.out; omega) (by first | (simp; done) | (simp; omega)) ?_; intro v1 w1 hown hg hat)
  go_ret
  exact ⟨_, rfl, own_appN (r := four x) (by rw [← HF.out]; exact hown) rfl HO.out four_wf, (Ext.refl _ _).app (belx) hg hat⟩
end Go.Proofs.YtelbckpplckofaaGreat
namespace Go.Proofs.YtelbckpplckofaaGreat
set_option linter.unusedVariables false
open Go.RowKit
section
variable {k : IntKind} {e ty : TypeId} {w V : World} {base B B' n c : Nat} {v : Value} {l l' : List Int} {A : Option Addr}
variable {P : Program} {ops : Array Oper} {rest : List Oper} {o : Oper} {a : Act} {K : Act → World → Prop} {Q : Exit → Act → World → Prop} {E : Prop} {i : TypeInfo} {z : Value}
theorem Own.stepB (s x : Operand) (ht : P.underlying ty = some (.slice e)) (hi : P.info? e = some i) (hz : i.zero = some z) (hsize : i.size = 1) (hby : i.bytes ≤ 8)
    (hs : a.eval s = v) (hG : Own k e w base v l) (hx : a.eval x = .slice A n c) (hr : Ints k w B A n l') (hV : Below B' V w) (hw : base ≤ w.heap.size) (hB : B' ≤ base) (h63 : l.length + n ≤ 1000000)
    (h : ∀ v' w', Own k e w' base v' (l ++ l') → Below B' V w' → Ext w v w' v' → K (a.put o.dst v') w')
    (hgd : o.guard = none := by rfl) (ho : o.op = .call { callee := .builtin .append, args := #[s, x], argTypes := #[ty, ty] } := by rfl) (hzs : z.cells.size = 1 := by rfl) :
    if Region.wanted o (yielded ops a.tmps) = true then Oper.wp P o a w K Q else E :=
  Own.stepRow hgd s x ty ho i z i.bytes ht hi hz hsize rfl hzs hs hG hx hr hw (by unfold maxLen; omega) (by have := Nat.mul_le_mul h63 hby; omega) fun v' w' q1 q2 q3 =>
    h v' w' q1 (hV.grown q2 (Nat.le_trans hB hw) fun b hb => Nat.le_trans hB (hG.block hb).1) ⟨q2, q3.imp id fun e => ⟨_, e, Nat.le_refl _⟩⟩
theorem Own.appB (s x : Operand) (ht : P.underlying ty = some (.slice e)) (hi : P.info? e = some i) (hz : i.zero = some z) (hsize : i.size = 1) (hby : i.bytes ≤ 8)
    (hG : Own k e w base v l) (hr : Ints k w B A n l') (hV : Below B' V w) (hw : base ≤ w.heap.size) (hB : B' ≤ base) (h63 : l.length + n ≤ 1000000)
    (h : ∀ v' w', Own k e w' base v' (l ++ l') → Below B' V w' → Ext w v w' v' → wpList P ops Q rest (a.put o.dst v') w')
    (hgd : o.guard = none := by rfl) (ho : o.op = .call { callee := .builtin .append, args := #[s, x], argTypes := #[ty, ty] } := by rfl) (hzs : z.cells.size = 1 := by rfl) (hs : a.eval s = v := by rfl) (hx : a.eval x = .slice A n c := by rfl) :
    wpList P ops Q (o :: rest) a w :=
  wpList_app w hgd s x ty ho base e i z 1 i.bytes ht hi hz hsize rfl hzs (by omega) v l.length _ hs hG.1 A n c (l'.map (Value.int k)) hx (Src.of_ints hr) (one_ints _ _) (by unfold maxLen; omega) (by have := Nat.mul_le_mul h63 hby; omega) hw fun v' w' q1 q2 q3 =>
    h v' w' (Own.of (n := l.length + n) (by rw [List.map_append]; exact q1) fun y hy => by
      rcases List.mem_append.1 hy with h' | h'
      · exact hG.2 y h'
      · exact hr.2.2 y h') (hV.grown q2 (Nat.le_trans hB hw) fun b hb => Nat.le_trans hB (hG.block hb).1) ⟨q2, q3.imp id fun e => ⟨_, e, Nat.le_refl _⟩⟩
/-- A slice of one's own that another one's growth leaves as it was. -/
theorem Own.aside (h : Own k e w base v l) {w' : World} {u u' : Value} (hE : Ext w u w' u') (hn : ∀ b, u.ownBlock = some b → b < base) : Own k e w' base v l :=
  ⟨h.1.kept hE.1 (by
    cases hv : v.ownBlock with
    | none => exact .inl rfl
    | some b => exact .inr fun e => by have h1 := hn b e.symm; have h2 := (h.block hv).1; omega), h.2⟩
/-- One number that has just been laid, as a slice of one's own; as what a slice holds. -/
theorem own1 (t : TypeId) {x : Int} (hb : base ≤ w.heap.size) (hx : (Lit.int k x).wf = true) : Own k t (w.alloc (.cells #[.int k x] t)) base (.slice (some ⟨w.heap.size, 0, none⟩) 1 1) [x] :=
  Own.of (n := 1) ⟨rfl, .inr ⟨w.heap.size, 1, #[.int k x], rfl, hb, heap_alloc_new w _, Nat.le_refl _, by simp only [maxLen]; omega, rfl, rfl⟩⟩ fun y hy => by simp only [List.mem_cons, List.not_mem_nil, or_false] at hy; rw [hy]; exact hx
theorem nb1 (w : World) (t : TypeId) {x : Int} (hx : (Lit.int k x).wf = true) : Ints k (w.alloc (.cells #[.int k x] t)) (w.alloc (.cells #[.int k x] t)).heap.size (some ⟨w.heap.size, 0, none⟩) 1 [x] :=
  (own1 t (Nat.le_refl _) hx).intsAt.1
theorem nb2 (w : World) (t : TypeId) {x y : Int} (hx : (Lit.int k x).wf = true) (hy : (Lit.int k y).wf = true) : Ints k (w.alloc (.cells #[.int k x, .int k y] t)) (w.alloc (.cells #[.int k x, .int k y] t)).heap.size (some ⟨w.heap.size, 0, none⟩) 2 [x, y] :=
  (Own.of (k := k) (e := t) (base := w.heap.size) (n := 2) (w := w.alloc (.cells #[.int k x, .int k y] t)) (v := .slice (some ⟨w.heap.size, 0, none⟩) 2 2) (l := [x, y]) ⟨rfl, .inr ⟨w.heap.size, 2, #[.int k x, .int k y], rfl, Nat.le_refl _, heap_alloc_new w _, Nat.le_refl _, by simp only [maxLen]; omega, rfl, rfl⟩⟩ fun u hu => by
    simp only [List.mem_cons, List.not_mem_nil, or_false] at hu
    rcases hu with rfl | rfl
    · exact hx
    · exact hy).intsAt.1
end
end Go.Proofs.YtelbckpplckofaaGreat
namespace Go.Proofs.YtelbckpplckofaaGreat
set_option maxRecDepth 100000
set_option linter.unusedVariables false
set_option linter.unusedSimpArgs false
open Go.ChangeShapes Go.WideShapes Go.ChangeAt Go.RowKit
theorem ic_grow0 (w : World) : Calls Tryz.prog 105 #[.slice none 0 0, .int .i64 0] w fun e w' => e = .returned (.slice none 0 0) ∧ w = w' := by
  go_enter Tryz.func105, Tryz.ntmps105
  go_wp2
  go_ret
  exact ⟨rfl, rfl⟩
theorem ic_grow (w : World) (k : Int) (hk : 0 < k) (hk2 : k ≤ 1000000) :
    Calls Tryz.prog 105 #[.slice none 0 0, .int .i64 k] w fun e w' => ∃ v, e = .returned v ∧ Own .u8 5 w' w.heap.size v [] ∧ Below w.heap.size w w' := by
  obtain ⟨n, rfl⟩ := Int.eq_ofNat_of_zero_le (show 0 ≤ k by omega)
  have hn : 0 < n := by omega
  have hn2 : n ≤ 1000000 := by omega
  clear hk hk2
  obtain ⟨i0, hi0, hz0, hz1, hz2⟩ := info_parts info_cb
  have hrz : ∀ ty, (Builtin.append_ #[32, 3] ty #[.slice none 0 0, .int .i64 n]).run Tryz.prog w =
      .ok (.slice (some ⟨w.heap.size, 0, none⟩) n (grownCap w n 0 5)) (w.drew.alloc (.cells (#[] ++ Builtin.zeroCells #[.int .u8 0] n ++ Builtin.zeroCells #[.int .u8 0] (grownCap w n 0 5 - n)) 5)) := fun ty => by
    have h := Lib.run_append_grow_zeros (P := Tryz.prog) w 32 3 ty 5 i0 _ .i64 .i64 Tryz.underlying32 Tryz.underlying3 hi0 hz0 none 0 0 [] (run_firstCells_none w.drew i0.size 0 0 0) n hn (by omega) (by omega) (by omega)
      (by rw [hz2]; omega) (growslice_fits (bytes := i0.bytes) (by omega) (by rw [hz2]; omega))
    simpa [Value.cells] using h
  have hGn : n ≤ grownCap w n 0 5 := grownCap_ge w _ _ _
  have hGm : grownCap w n 0 5 ≤ maxLen := grownCap_le_maxLen w n 0 5 (by unfold maxLen; omega)
  obtain ⟨G, hG⟩ : ∃ G, grownCap w n 0 5 = G := ⟨_, rfl⟩
  rw [hG] at hrz hGn hGm
  clear hG
  have hG63 : G ≤ 9223372036854775807 := hGm
  go_enter Tryz.func105, Tryz.ntmps105
  go_wp2_with (at_builtin; refine Lib.wpList_append_run _ rfl _ _ _ _ rfl _ _ rfl rfl _ _ (hrz _) ?_)
  go_ret
  refine ⟨_, rfl, Own.of (n := 0) ⟨rfl, .inr ⟨w.heap.size, G, _, rfl, Nat.le_refl _, heap_alloc_new w.drew _, Nat.zero_le _, hGm, ?_, rfl⟩⟩ (by simp), (belx)⟩
  simp [Builtin.zeroCells]
  omega
theorem ic_growAny (w : World) (k : Int) (h0 : 0 ≤ k) (hk2 : k ≤ 1000000) :
    Calls Tryz.prog 105 #[.slice none 0 0, .int .i64 k] w fun e w' => ∃ v, e = .returned v ∧ Own .u8 5 w' w.heap.size v [] ∧ Below w.heap.size w w' := by
  by_cases h : (0 : Int) < k
  · exact ic_grow w _ h hk2
  · obtain rfl : k = 0 := by omega
    exact (ic_grow0 w).mono fun e w' hh => ⟨_, hh.1, by rw [← hh.2]; exact Own.nil _ _ _ _, by rw [← hh.2]; exact Below.refl _ _⟩
set_option maxHeartbeats 2000000 in
theorem ic_concat3 {w : World} {g n c m d q f : Nat} {A A' A'' : Option Addr} {l r s : List Int} (hb : Box w g 32 #[.slice A n c, .slice A' m d, .slice A'' q f]) (hl : Ints .u8 w w.heap.size A n l) (hr : Ints .u8 w w.heap.size A' m r) (hs : Ints .u8 w w.heap.size A'' q s) (hn : n ≤ 100000) (hm : m ≤ 100000) (hq : q ≤ 100000) :
    Calls Tryz.prog 52 #[.slice (some ⟨g, 0, none⟩) 3 3] w fun e w' => ∃ v, e = .returned v ∧ Own .u8 5 w' w.heap.size v (l ++ r ++ s) ∧ Below w.heap.size w w' := by
  obtain ⟨i0, hi0, hz0, hz1, hz2⟩ := info_parts info_cb
  have c0 : w.cell? ⟨g, 0, none⟩ = some (.slice A n c) := hb.cell 0
  have c1 : w.cell? ⟨g, 1, none⟩ = some (.slice A' m d) := hb.cell 1
  have c2 : w.cell? ⟨g, 2, none⟩ = some (.slice A'' q f) := hb.cell 2
  have hgs := hb.size
  have z2 : ¬ (n : Int) < 0 := by omega
  have z3 : ¬ (n : Int) + (m : Int) < 0 := by omega
  have z4 : ¬ (n : Int) + (m : Int) + (q : Int) < 0 := by omega
  have el := hl.1
  have er := hr.1
  have es := hs.1
  have EL := Lib.hid el
  have ER := Lib.hid er
  have ES := Lib.hid es
  go_enter Tryz.func52, Tryz.ntmps52
  clear el er es
  go_wp2_with fail
  refine wp_loop_rounds 4 ?_
  rw [rounds_succ]
  go_wp2_with fail
  rw [rounds_succ]
  go_wp2_with fail
  rw [rounds_succ]
  go_wp2_with fail
  rw [rounds_succ]
  go_wp2_with fail
  refine (ic_growAny _ _ (by omega) (by omega)).mono ?_
  rintro e w1 ⟨v1, rfl, hO1, hB1⟩
  have hb1 := hb.below hB1 hgs
  have e0 : w1.cell? ⟨g, 0, none⟩ = some (.slice A n c) := hb1.cell 0
  obtain ⟨A1, d1, rfl, _⟩ := hO1.ints
  have hk1 := EL.out
  have hk2 := ER.out
  have hk3 := ES.out
  go_wp2_with fail
  refine wp_loop_rounds 4 ?_
  rw [rounds_succ]
  go_wp2_with (at_builtin; refine wpList_app _ rfl (.tmp 31) (.tmp 32) _ rfl w.heap.size 5 i0 _ 1 1 Tryz.underlying32 hi0 hz0 hz1 hz2 rfl (by omega) (.slice A1 0 d1) 0 [] rfl hO1.1 A n c (l.map (Value.int .u8)) rfl (Src.of_ints (hl.below hB1)) (one_ints _ _) (by simp only [maxLen]; omega) (by omega) hB1.size ?_; intro v2 w2 hown2 hg2 hat2)
  have hO2 : Own .u8 5 w2 w.heap.size v2 l := Own.of (n := n) (by simpa using hown2) hl.2.2
  have hB2 : Below w.heap.size w w2 := hB1.grown hg2 hB1.size fun b hb => (hO1.block hb).1
  have hb2 := hb.below hB2 hgs
  have e1 : w2.cell? ⟨g, 1, none⟩ = some (.slice A' m d) := hb2.cell 1
  rw [rounds_succ]
  go_wp2_with (at_builtin; refine wpList_app _ rfl (.tmp 31) (.tmp 32) _ rfl w.heap.size 5 i0 _ 1 1 Tryz.underlying32 hi0 hz0 hz1 hz2 rfl (by omega) v2 l.length (l.map (Value.int .u8)) rfl hO2.1 A' m d (r.map (Value.int .u8)) rfl (Src.of_ints (hr.below hB2)) (one_ints _ _) (by simp only [maxLen]; omega) (by omega) hB2.size ?_; intro v3 w3 hown3 hg3 hat3)
  have hO3 := own_appN (r := r) hown3 hr.1 hO2.2 hr.2.2
  have hB3 : Below w.heap.size w w3 := hB2.grown hg3 hB2.size fun b hb => (hO2.block hb).1
  have hb3 := hb.below hB3 hgs
  have e2 : w3.cell? ⟨g, 2, none⟩ = some (.slice A'' q f) := hb3.cell 2
  obtain ⟨LR, hLR⟩ : ∃ LR, l ++ r = LR := ⟨_, rfl⟩
  have hlr : LR.length = n + m := by rw [← hLR, List.length_append]; omega
  rw [hLR] at hO3
  have HLR := Lib.hid hLR
  clear hLR
  rw [rounds_succ]
  go_wp2_with (at_builtin; refine wpList_app _ rfl (.tmp 31) (.tmp 32) _ rfl w.heap.size 5 i0 _ 1 1 Tryz.underlying32 hi0 hz0 hz1 hz2 rfl (by omega) v3 LR.length (LR.map (Value.int .u8)) rfl hO3.1 A'' q f (s.map (Value.int .u8)) rfl (Src.of_ints (hs.below hB3)) (one_ints _ _) (by simp only [maxLen]; omega) (by omega) hB3.size ?_; intro v4 w4 hown4 hg4 hat4)
  have hO4 := own_appN (r := s) hown4 hs.1 hO3.2 hs.2.2
  have hB4 : Below w.heap.size w w4 := hB3.grown hg4 hB3.size fun b hb => (hO3.block hb).1
  have hb4 := hb.below hB4 hgs
  rw [rounds_succ]
  go_wp2
  go_ret
  exact ⟨_, rfl, by rw [HLR.out]; exact hO4, hB4⟩
end Go.Proofs.YtelbckpplckofaaGreat
namespace Go.Proofs.YtelbckpplckofaaGreat
set_option maxRecDepth 100000
set_option linter.unusedVariables false
set_option linter.unusedSimpArgs false
open Go.ChangeShapes Go.WideShapes Go.ChangeAt Go.RowKit
set_option maxHeartbeats 4000000 in
theorem ic_concat7 {w : World} {g n0 c0 n1 c1 n2 c2 n3 c3 n4 c4 n5 c5 n6 c6 : Nat} {A0 A1 A2 A3 A4 A5 A6 : Option Addr} {l0 l1 l2 l3 l4 l5 l6 : List Int} (hb : Box w g 32 #[.slice A0 n0 c0, .slice A1 n1 c1, .slice A2 n2 c2, .slice A3 n3 c3, .slice A4 n4 c4, .slice A5 n5 c5, .slice A6 n6 c6]) (h0 : Ints .u8 w w.heap.size A0 n0 l0) (h1 : Ints .u8 w w.heap.size A1 n1 l1) (h2 : Ints .u8 w w.heap.size A2 n2 l2) (h3 : Ints .u8 w w.heap.size A3 n3 l3) (h4 : Ints .u8 w w.heap.size A4 n4 l4) (h5 : Ints .u8 w w.heap.size A5 n5 l5) (h6 : Ints .u8 w w.heap.size A6 n6 l6) (q0 : n0 ≤ 100000) (q1 : n1 ≤ 100000) (q2 : n2 ≤ 100000) (q3 : n3 ≤ 100000) (q4 : n4 ≤ 100000) (q5 : n5 ≤ 100000) (q6 : n6 ≤ 100000) :
    Calls Tryz.prog 52 #[.slice (some ⟨g, 0, none⟩) 7 7] w fun e w' => ∃ v, e = .returned v ∧ Own .u8 5 w' w.heap.size v (l0 ++ l1 ++ l2 ++ l3 ++ l4 ++ l5 ++ l6) ∧ Below w.heap.size w w' := by
  obtain ⟨i0, hi0, hz0, hz1, hz2⟩ := info_parts info_cb
  have k0 : w.cell? ⟨g, 0, none⟩ = some (.slice A0 n0 c0) := hb.cell 0
  have k1 : w.cell? ⟨g, 1, none⟩ = some (.slice A1 n1 c1) := hb.cell 1
  have k2 : w.cell? ⟨g, 2, none⟩ = some (.slice A2 n2 c2) := hb.cell 2
  have k3 : w.cell? ⟨g, 3, none⟩ = some (.slice A3 n3 c3) := hb.cell 3
  have k4 : w.cell? ⟨g, 4, none⟩ = some (.slice A4 n4 c4) := hb.cell 4
  have k5 : w.cell? ⟨g, 5, none⟩ = some (.slice A5 n5 c5) := hb.cell 5
  have k6 : w.cell? ⟨g, 6, none⟩ = some (.slice A6 n6 c6) := hb.cell 6
  have hgs := hb.size
  have z0 : ¬ (n0 : Int) < 0 := by omega
  have z1 : ¬ (n0 : Int) + (n1 : Int) < 0 := by omega
  have z2 : ¬ (n0 : Int) + (n1 : Int) + (n2 : Int) < 0 := by omega
  have z3 : ¬ (n0 : Int) + (n1 : Int) + (n2 : Int) + (n3 : Int) < 0 := by omega
  have z4 : ¬ (n0 : Int) + (n1 : Int) + (n2 : Int) + (n3 : Int) + (n4 : Int) < 0 := by omega
  have z5 : ¬ (n0 : Int) + (n1 : Int) + (n2 : Int) + (n3 : Int) + (n4 : Int) + (n5 : Int) < 0 := by omega
  have z6 : ¬ (n0 : Int) + (n1 : Int) + (n2 : Int) + (n3 : Int) + (n4 : Int) + (n5 : Int) + (n6 : Int) < 0 := by omega
  have E0 := Lib.hid h0.1
  have E1 := Lib.hid h1.1
  have E2 := Lib.hid h2.1
  have E3 := Lib.hid h3.1
  have E4 := Lib.hid h4.1
  have E5 := Lib.hid h5.1
  have E6 := Lib.hid h6.1
  go_enter Tryz.func52, Tryz.ntmps52
  go_wp2_with fail
  refine wp_loop_rounds 8 ?_
  rw [rounds_succ]
  go_wp2_with fail
  rw [rounds_succ]
  go_wp2_with fail
  rw [rounds_succ]
  go_wp2_with fail
  rw [rounds_succ]
  go_wp2_with fail
  rw [rounds_succ]
  go_wp2_with fail
  rw [rounds_succ]
  go_wp2_with fail
  rw [rounds_succ]
  go_wp2_with fail
  rw [rounds_succ]
  go_wp2_with fail
  refine (ic_growAny _ _ (by omega) (by omega)).mono ?_
  rintro e w0 ⟨v0, rfl, hO0, hB0⟩
  have hb0 := hb.below hB0 hgs
  have e0 : w0.cell? ⟨g, 0, none⟩ = some (.slice A0 n0 c0) := hb0.cell 0
  obtain ⟨Ag, dg, rfl, _⟩ := hO0.ints
  have r0 := E0.out
  have r1 := E1.out
  have r2 := E2.out
  have r3 := E3.out
  have r4 := E4.out
  have r5 := E5.out
  have r6 := E6.out
  go_wp2_with fail
  refine wp_loop_rounds 8 ?_
  rw [rounds_succ]
  go_wp2_with (at_builtin; refine wpList_app _ rfl (.tmp 31) (.tmp 32) _ rfl w.heap.size 5 i0 _ 1 1 Tryz.underlying32 hi0 hz0 hz1 hz2 rfl (by omega) (.slice Ag 0 dg) 0 [] rfl hO0.1 A0 n0 c0 (l0.map (Value.int .u8)) rfl (Src.of_ints (h0.below hB0)) (one_ints _ _) (by simp only [maxLen]; omega) (by omega) hB0.size ?_; intro v1 w1 hown1 hg1 hat1)
  have hO1 : Own .u8 5 w1 w.heap.size v1 l0 := Own.of (n := n0) (by simpa using hown1) h0.2.2
  have hB1 : Below w.heap.size w w1 := hB0.grown hg1 hB0.size fun b hb => (hO0.block hb).1
  have hb1 := hb.below hB1 hgs
  have e1 : w1.cell? ⟨g, 1, none⟩ = some (.slice A1 n1 c1) := hb1.cell 1
  rw [rounds_succ]
  go_wp2_with (at_builtin; refine wpList_app _ rfl (.tmp 31) (.tmp 32) _ rfl w.heap.size 5 i0 _ 1 1 Tryz.underlying32 hi0 hz0 hz1 hz2 rfl (by omega) v1 l0.length (l0.map (Value.int .u8)) rfl hO1.1 A1 n1 c1 (l1.map (Value.int .u8)) rfl (Src.of_ints (h1.below hB1)) (one_ints _ _) (by simp only [maxLen]; omega) (by omega) hB1.size ?_; intro v2 w2 hown2 hg2 hat2)
  have hO2 := own_appN (r := l1) hown2 h1.1 hO1.2 h1.2.2
  have hB2 : Below w.heap.size w w2 := hB1.grown hg2 hB1.size fun b hb => (hO1.block hb).1
  have hb2 := hb.below hB2 hgs
  have e2 : w2.cell? ⟨g, 2, none⟩ = some (.slice A2 n2 c2) := hb2.cell 2
  obtain ⟨L1, hL1⟩ : ∃ L, l0 ++ l1 = L := ⟨_, rfl⟩
  have hl1 : L1.length = n0 + n1 := by rw [← hL1, List.length_append]; omega
  rw [hL1] at hO2
  have HL1 := Lib.hid hL1
  clear hL1
  rw [rounds_succ]
  go_wp2_with (at_builtin; refine wpList_app _ rfl (.tmp 31) (.tmp 32) _ rfl w.heap.size 5 i0 _ 1 1 Tryz.underlying32 hi0 hz0 hz1 hz2 rfl (by omega) v2 L1.length (L1.map (Value.int .u8)) rfl hO2.1 A2 n2 c2 (l2.map (Value.int .u8)) rfl (Src.of_ints (h2.below hB2)) (one_ints _ _) (by simp only [maxLen]; omega) (by omega) hB2.size ?_; intro v3 w3 hown3 hg3 hat3)
  have hO3 := own_appN (r := l2) hown3 h2.1 hO2.2 h2.2.2
  have hB3 : Below w.heap.size w w3 := hB2.grown hg3 hB2.size fun b hb => (hO2.block hb).1
  have hb3 := hb.below hB3 hgs
  have e3 : w3.cell? ⟨g, 3, none⟩ = some (.slice A3 n3 c3) := hb3.cell 3
  obtain ⟨L2, hL2⟩ : ∃ L, L1 ++ l2 = L := ⟨_, rfl⟩
  have hl2 : L2.length = n0 + n1 + n2 := by rw [← hL2, List.length_append]; omega
  rw [hL2] at hO3
  have HL2 := Lib.hid hL2
  clear hL2
  rw [rounds_succ]
  go_wp2_with (at_builtin; refine wpList_app _ rfl (.tmp 31) (.tmp 32) _ rfl w.heap.size 5 i0 _ 1 1 Tryz.underlying32 hi0 hz0 hz1 hz2 rfl (by omega) v3 L2.length (L2.map (Value.int .u8)) rfl hO3.1 A3 n3 c3 (l3.map (Value.int .u8)) rfl (Src.of_ints (h3.below hB3)) (one_ints _ _) (by simp only [maxLen]; omega) (by omega) hB3.size ?_; intro v4 w4 hown4 hg4 hat4)
  have hO4 := own_appN (r := l3) hown4 h3.1 hO3.2 h3.2.2
  have hB4 : Below w.heap.size w w4 := hB3.grown hg4 hB3.size fun b hb => (hO3.block hb).1
  have hb4 := hb.below hB4 hgs
  have e4 : w4.cell? ⟨g, 4, none⟩ = some (.slice A4 n4 c4) := hb4.cell 4
  obtain ⟨L3, hL3⟩ : ∃ L, L2 ++ l3 = L := ⟨_, rfl⟩
  have hl3 : L3.length = n0 + n1 + n2 + n3 := by rw [← hL3, List.length_append]; omega
  rw [hL3] at hO4
  have HL3 := Lib.hid hL3
  clear hL3
  rw [rounds_succ]
  go_wp2_with (at_builtin; refine wpList_app _ rfl (.tmp 31) (.tmp 32) _ rfl w.heap.size 5 i0 _ 1 1 Tryz.underlying32 hi0 hz0 hz1 hz2 rfl (by omega) v4 L3.length (L3.map (Value.int .u8)) rfl hO4.1 A4 n4 c4 (l4.map (Value.int .u8)) rfl (Src.of_ints (h4.below hB4)) (one_ints _ _) (by simp only [maxLen]; omega) (by omega) hB4.size ?_; intro v5 w5 hown5 hg5 hat5)
  have hO5 := own_appN (r := l4) hown5 h4.1 hO4.2 h4.2.2
  have hB5 : Below w.heap.size w w5 := hB4.grown hg5 hB4.size fun b hb => (hO4.block hb).1
  have hb5 := hb.below hB5 hgs
  have e5 : w5.cell? ⟨g, 5, none⟩ = some (.slice A5 n5 c5) := hb5.cell 5
  obtain ⟨L4, hL4⟩ : ∃ L, L3 ++ l4 = L := ⟨_, rfl⟩
  have hl4 : L4.length = n0 + n1 + n2 + n3 + n4 := by rw [← hL4, List.length_append]; omega
  rw [hL4] at hO5
  have HL4 := Lib.hid hL4
  clear hL4
  rw [rounds_succ]
  go_wp2_with (at_builtin; refine wpList_app _ rfl (.tmp 31) (.tmp 32) _ rfl w.heap.size 5 i0 _ 1 1 Tryz.underlying32 hi0 hz0 hz1 hz2 rfl (by omega) v5 L4.length (L4.map (Value.int .u8)) rfl hO5.1 A5 n5 c5 (l5.map (Value.int .u8)) rfl (Src.of_ints (h5.below hB5)) (one_ints _ _) (by simp only [maxLen]; omega) (by omega) hB5.size ?_; intro v6 w6 hown6 hg6 hat6)
  have hO6 := own_appN (r := l5) hown6 h5.1 hO5.2 h5.2.2
  have hB6 : Below w.heap.size w w6 := hB5.grown hg6 hB5.size fun b hb => (hO5.block hb).1
  have hb6 := hb.below hB6 hgs
  have e6 : w6.cell? ⟨g, 6, none⟩ = some (.slice A6 n6 c6) := hb6.cell 6
  obtain ⟨L5, hL5⟩ : ∃ L, L4 ++ l5 = L := ⟨_, rfl⟩
  have hl5 : L5.length = n0 + n1 + n2 + n3 + n4 + n5 := by rw [← hL5, List.length_append]; omega
  rw [hL5] at hO6
  have HL5 := Lib.hid hL5
  clear hL5
  rw [rounds_succ]
  go_wp2_with (at_builtin; refine wpList_app _ rfl (.tmp 31) (.tmp 32) _ rfl w.heap.size 5 i0 _ 1 1 Tryz.underlying32 hi0 hz0 hz1 hz2 rfl (by omega) v6 L5.length (L5.map (Value.int .u8)) rfl hO6.1 A6 n6 c6 (l6.map (Value.int .u8)) rfl (Src.of_ints (h6.below hB6)) (one_ints _ _) (by simp only [maxLen]; omega) (by omega) hB6.size ?_; intro v7 w7 hown7 hg7 hat7)
  have hO7 := own_appN (r := l6) hown7 h6.1 hO6.2 h6.2.2
  have hB7 : Below w.heap.size w w7 := hB6.grown hg7 hB6.size fun b hb => (hO6.block hb).1
  rw [rounds_succ]
  go_wp2
  go_ret
  exact ⟨_, rfl, by rw [HL1.out, HL2.out, HL3.out, HL4.out, HL5.out]; exact hO7, hB7⟩
end Go.Proofs.YtelbckpplckofaaGreat
namespace Go.Proofs.YtelbckpplckofaaGreat
set_option maxRecDepth 100000
set_option linter.unusedVariables false
set_option linter.unusedSimpArgs false
open Go.ChangeShapes Go.WideShapes Go.ChangeAt Go.RowKit
set_option maxHeartbeats 1000000 in
theorem i_joinedIB {w : World} {n c : Nat} {A : Option Addr} {l : List Int} (F : Nat) (f : Int → List Int) (m : Nat) (hE : ∀ (cs : Int) (w : World), Sem.run Tryz.prog (callFunc F #[Value.int .i64 cs]) w = .ok (.enter F #[Value.int .i64 cs]) w)
    (hF : ∀ (i : Nat) (a : Int) (w' : World), l[i]? = some a → Below w.heap.size w w' → Calls Tryz.prog F #[.int .i64 a] w' fun e w2 => ∃ v, e = .returned v ∧ Own .u8 5 w2 w'.heap.size v (f a) ∧ Below w'.heap.size w' w2)
    (hm : ∀ a ∈ l, (f a).length ≤ m) (hmn : m * n ≤ 1000000) (hl : Ints .i64 w w.heap.size A n l) (hn : n ≤ 1048576) :
    Calls Tryz.prog 104 #[.slice A n c, .func (.func F) #[] #[]] w fun e w' => ∃ v, e = .returned v ∧ Own .u8 5 w' w.heap.size v (l.flatMap f) ∧ Below w.heap.size w w' := by
  obtain ⟨i0, hi0, hz0, hz1, hz2⟩ := info_parts info_cb
  have HL := Lib.hid hl.1
  have HF := Lib.hid hF
  have HE := Lib.hid hE
  have HM := Lib.hid hm
  have HMN := Lib.hid hmn
  clear hF hE hm hmn
  go_enter Tryz.func104, Tryz.ntmps104
  go_wp2_with fail
  go_loopw [5, 10] (fun v i wr => ∃ j : Nat, j ≤ n ∧ i = .int .i64 j ∧ Own .u8 5 wr w.heap.size v ((l.take j).flatMap f) ∧ Below w.heap.size w wr) (fun _ i _ => n - (RowKit.intOf i).toNat)
  case atStart => exact ⟨0, by omega, rfl, Own.nil _ _ _ _, (belx)⟩
  case round =>
    obtain ⟨j, hj, rfl, hO, hB⟩ := hrel
    by_cases hlt : j < n
    · obtain ⟨b', off, rfl, hb, hcell, -⟩ := (hl.below hB).at_ hlt
      have hl2 := atI HL.out hlt
      obtain ⟨a, ha⟩ : ∃ a, l.getD j 0 = a := ⟨_, rfl⟩
      rw [ha] at hcell hl2
      have j1 : (j : Int) < (n : Int) := by omega
      clear ha
      have HA := Lib.hid hl2
      have HS := Lib.hid (flS (f := f) hl2)
      have hm1 := HM.out a (alMem hl2)
      have hm2 : ((l.take j).flatMap f).length + (f a).length ≤ 1000000 := by
        have h1 := flLe (f := f) HM.out (j + 1)
        rw [HS.out, List.length_append, HL.out] at h1
        have := HMN.out
        omega
      clear hl2
      obtain ⟨bs, hbs⟩ : ∃ bs, (l.take j).flatMap f = bs := ⟨_, rfl⟩
      rw [hbs] at hO HS hm2
      have HM2 := Lib.hid hm2
      clear hbs hm1 hm2
      go_wp2_with fail
      rw [HE.out, Oper.upon_enter]
      refine (HF.out j a _ HA.out ?hB).mono ?_
      case hB => exact bel_trans (a := w) hB (belx)
      rintro e w1 ⟨v1, rfl, hO1, hb1⟩
      obtain ⟨fa, hfa⟩ : ∃ y, f a = y := ⟨_, rfl⟩
      rw [hfa] at HS HM2 hO1
      clear hfa
      have hs1 : Below wr.heap.size wr w1 := bel_trans (belx) hb1
      have hO2 := hO.below hs1
      have hO1w := hO1.2
      obtain ⟨A1, n1, c1, rfl, hn1⟩ := hO1.shapeN
      have hS : Src w1 1 A1 n1 (fa.map (Value.int .u8)) := Src.of_ints hO1.intsAt.1
      have HN1 := Lib.hid hn1
      have zz := hs1.size
      have zw := hB.size
      clear hn1 hO1
      go_wp2_with (at_builtin; refine wpList_app _ rfl (.tmp 14) (.tmp 17) _ rfl w.heap.size 5 i0 _ 1 1 Tryz.underlying32 hi0 hz0 hz1 hz2 rfl (by omega) _ _ _ rfl hO2.1 A1 n1 c1 (fa.map (Value.int .u8)) rfl hS (one_ints _ _) (by simp only [maxLen]; have := HM2.out; have := HN1.out; omega) (by have := HM2.out; have := HN1.out; omega) (by omega) ?_; intro v2 w3 hown hgr hat)
      go_roundw
      case rel => exact ⟨j + 1, by omega, by go_num, by rw [HS.out]; exact own_appN (r := fa) hown HN1.out.symm hO2.2 hO1w, (bel_trans hB hs1).grown hgr (by omega) (fun b hb => (hO2.block hb).1)⟩
      case measure => simp [RowKit.intOf]; omega
    · obtain rfl : n = j := by omega
      have HA := Lib.hid (show l.take n = l from List.take_of_length_le (Nat.le_of_eq HL.out))
      rw [HA.out] at hO
      go_wp2
      go_ret
      exact ⟨_, rfl, hO, hB⟩
set_option maxHeartbeats 1000000 in
theorem i_joinedHeldB {w : World} {n c : Nat} {A : Option Addr} {l : List DHeld} (F : Nat) (f : DHeld → List Int) (m : Nat) (hE : ∀ (cs : Array Value) (w : World), Sem.run Tryz.prog (callFunc F #[Value.agg cs]) w = .ok (.enter F #[Value.agg cs]) w)
    (hF : ∀ (i : Nat) (a : DHeld) (w' : World) (cs : List Value), l[i]? = some a → Below w.heap.size w w' → tHeld.R w' w'.heap.size cs a → Calls Tryz.prog F #[.agg cs.toArray] w' fun e w2 => ∃ v, e = .returned v ∧ Own .u8 5 w2 w'.heap.size v (f a) ∧ Below w'.heap.size w' w2)
    (hm : ∀ a ∈ l, (f a).length ≤ m) (hmn : m * n ≤ 1000000) (hl : tHeld.row.R w w.heap.size [.slice A n c] l) (hn : n ≤ 1048576) :
    Calls Tryz.prog 102 #[.slice A n c, .func (.func F) #[] #[]] w fun e w' => ∃ v, e = .returned v ∧ Own .u8 5 w' w.heap.size v (l.flatMap f) ∧ Below w.heap.size w w' := by
  obtain ⟨i0, hi0, hz0, hz1, hz2⟩ := info_parts info_cb
  obtain ⟨e0, _, _⟩ := rowR_len hl
  have HL := Lib.hid e0
  clear e0
  have HF := Lib.hid hF
  have HE := Lib.hid hE
  have HM := Lib.hid hm
  have HMN := Lib.hid hmn
  clear hF hE hm hmn
  go_enter Tryz.func102, Tryz.ntmps102
  go_wp2_with fail
  go_loopw [5, 10] (fun v i wr => ∃ j : Nat, j ≤ n ∧ i = .int .i64 j ∧ Own .u8 5 wr w.heap.size v ((l.take j).flatMap f) ∧ Below w.heap.size w wr) (fun _ i _ => n - (RowKit.intOf i).toNat)
  case atStart => exact ⟨0, by omega, rfl, Own.nil _ _ _ _, (belx)⟩
  case round =>
    obtain ⟨j, hj, rfl, hO, hB⟩ := hrel
    by_cases hlt : j < n
    · obtain ⟨a, b', off, es, hl2, rfl, hb, hes, hR⟩ := rowR_at (K := 3) hl hlt rfl
      have hRk := hR
      obtain ⟨A2, n2, c2, rfl, -, -, -, -, -, -⟩ := openHeld hR
      have e0 : wr.cell? ⟨b', off + j * 3, none⟩ = some (.int .i64 a.1) := cell_at hB hb (hes 0 (by omega))
      have e1 : wr.cell? ⟨b', off + j * 3 + 1, none⟩ = some (.int .i64 a.2.1) := cell_at hB hb (hes 1 (by omega))
      have e2 : wr.cell? ⟨b', off + j * 3 + 2, none⟩ = some (.slice A2 n2 c2) := cell_at hB hb (hes 2 (by omega))
      clear hes hR
      have HA := Lib.hid hl2
      have HS := Lib.hid (flS (f := f) hl2)
      have hm1 := HM.out a (alMem hl2)
      have hm2 : ((l.take j).flatMap f).length + (f a).length ≤ 1000000 := by
        have h1 := flLe (f := f) HM.out (j + 1)
        rw [HS.out, List.length_append, HL.out] at h1
        have := HMN.out
        omega
      clear hl2
      obtain ⟨bs, hbs⟩ : ∃ bs, (l.take j).flatMap f = bs := ⟨_, rfl⟩
      rw [hbs] at hO HS hm2
      have HM2 := Lib.hid hm2
      clear hbs hm1 hm2
      go_wp2_with fail
      rw [HE.out, Oper.upon_enter]
      refine (HF.out j a _ _ HA.out ?hB (tHeld.reach hRk ?hB2)).mono ?_
      case hB => exact bel_trans (a := w) hB (belx)
      case hB2 => exact bel_trans (a := w) hB (belx)
      rintro e w1 ⟨v1, rfl, hO1, hb1⟩
      obtain ⟨fa, hfa⟩ : ∃ y, f a = y := ⟨_, rfl⟩
      rw [hfa] at HS HM2 hO1
      clear hfa
      have hs1 : Below wr.heap.size wr w1 := bel_trans (belx) hb1
      have hO2 := hO.below hs1
      have hO1w := hO1.2
      obtain ⟨A1, n1, c1, rfl, hn1⟩ := hO1.shapeN
      have hS : Src w1 1 A1 n1 (fa.map (Value.int .u8)) := Src.of_ints hO1.intsAt.1
      have HN1 := Lib.hid hn1
      have zz := hs1.size
      have zw := hB.size
      clear hn1 hO1
      go_wp2_with (at_builtin; refine wpList_app _ rfl (.tmp 14) (.tmp 17) _ rfl w.heap.size 5 i0 _ 1 1 Tryz.underlying32 hi0 hz0 hz1 hz2 rfl (by omega) _ _ _ rfl hO2.1 A1 n1 c1 (fa.map (Value.int .u8)) rfl hS (one_ints _ _) (by simp only [maxLen]; have := HM2.out; have := HN1.out; omega) (by have := HM2.out; have := HN1.out; omega) (by omega) ?_; intro v2 w3 hown hgr hat)
      go_roundw
      case rel => exact ⟨j + 1, by omega, by go_num, by rw [HS.out]; exact own_appN (r := fa) hown HN1.out.symm hO2.2 hO1w, (bel_trans hB hs1).grown hgr (by omega) (fun b hb => (hO2.block hb).1)⟩
      case measure => simp [RowKit.intOf]; omega
    · obtain rfl : n = j := by omega
      have HA := Lib.hid (show l.take n = l from List.take_of_length_le (Nat.le_of_eq HL.out))
      rw [HA.out] at hO
      go_wp2
      go_ret
      exact ⟨_, rfl, hO, hB⟩
set_option maxHeartbeats 1000000 in
theorem i_joinedWholeB {w : World} {n c : Nat} {A : Option Addr} {l : List DWhole} (F : Nat) (f : DWhole → List Int) (m : Nat) (hE : ∀ (cs : Array Value) (w : World), Sem.run Tryz.prog (callFunc F #[Value.agg cs]) w = .ok (.enter F #[Value.agg cs]) w)
    (hF : ∀ (i : Nat) (a : DWhole) (w' : World) (cs : List Value), l[i]? = some a → Below w.heap.size w w' → tWhole.R w' w'.heap.size cs a → Calls Tryz.prog F #[.agg cs.toArray] w' fun e w2 => ∃ v, e = .returned v ∧ Own .u8 5 w2 w'.heap.size v (f a) ∧ Below w'.heap.size w' w2)
    (hm : ∀ a ∈ l, (f a).length ≤ m) (hmn : m * n ≤ 1000000) (hl : tWhole.row.R w w.heap.size [.slice A n c] l) (hn : n ≤ 1048576) :
    Calls Tryz.prog 54 #[.slice A n c, .func (.func F) #[] #[]] w fun e w' => ∃ v, e = .returned v ∧ Own .u8 5 w' w.heap.size v (l.flatMap f) ∧ Below w.heap.size w w' := by
  obtain ⟨i0, hi0, hz0, hz1, hz2⟩ := info_parts info_cb
  obtain ⟨e0, _, _⟩ := rowR_len hl
  have HL := Lib.hid e0
  clear e0
  have HF := Lib.hid hF
  have HE := Lib.hid hE
  have HM := Lib.hid hm
  have HMN := Lib.hid hmn
  clear hF hE hm hmn
  go_enter Tryz.func54, Tryz.ntmps54
  go_wp2_with fail
  go_loopw [5, 10] (fun v i wr => ∃ j : Nat, j ≤ n ∧ i = .int .i64 j ∧ Own .u8 5 wr w.heap.size v ((l.take j).flatMap f) ∧ Below w.heap.size w wr) (fun _ i _ => n - (RowKit.intOf i).toNat)
  case atStart => exact ⟨0, by omega, rfl, Own.nil _ _ _ _, (belx)⟩
  case round =>
    obtain ⟨j, hj, rfl, hO, hB⟩ := hrel
    by_cases hlt : j < n
    · obtain ⟨a, b', off, es, hl2, rfl, hb, hes, hR⟩ := rowR_at (K := 4) hl hlt rfl
      have hRk := hR
      obtain ⟨A2, n2, c2, rfl, -, -, -, -, -, -, -⟩ := openWhole hR
      have e0 : wr.cell? ⟨b', off + j * 4, none⟩ = some (.int .i64 a.1) := cell_at hB hb (hes 0 (by omega))
      have e1 : wr.cell? ⟨b', off + j * 4 + 1, none⟩ = some (.int .i64 a.2.1) := cell_at hB hb (hes 1 (by omega))
      have e2 : wr.cell? ⟨b', off + j * 4 + 2, none⟩ = some (.int .i64 a.2.2.1) := cell_at hB hb (hes 2 (by omega))
      have e3 : wr.cell? ⟨b', off + j * 4 + 3, none⟩ = some (.slice A2 n2 c2) := cell_at hB hb (hes 3 (by omega))
      clear hes hR
      have HA := Lib.hid hl2
      have HS := Lib.hid (flS (f := f) hl2)
      have hm1 := HM.out a (alMem hl2)
      have hm2 : ((l.take j).flatMap f).length + (f a).length ≤ 1000000 := by
        have h1 := flLe (f := f) HM.out (j + 1)
        rw [HS.out, List.length_append, HL.out] at h1
        have := HMN.out
        omega
      clear hl2
      obtain ⟨bs, hbs⟩ : ∃ bs, (l.take j).flatMap f = bs := ⟨_, rfl⟩
      rw [hbs] at hO HS hm2
      have HM2 := Lib.hid hm2
      clear hbs hm1 hm2
      go_wp2_with fail
      rw [HE.out, Oper.upon_enter]
      refine (HF.out j a _ _ HA.out ?hB (tWhole.reach hRk ?hB2)).mono ?_
      case hB => exact bel_trans (a := w) hB (belx)
      case hB2 => exact bel_trans (a := w) hB (belx)
      rintro e w1 ⟨v1, rfl, hO1, hb1⟩
      obtain ⟨fa, hfa⟩ : ∃ y, f a = y := ⟨_, rfl⟩
      rw [hfa] at HS HM2 hO1
      clear hfa
      have hs1 : Below wr.heap.size wr w1 := bel_trans (belx) hb1
      have hO2 := hO.below hs1
      have hO1w := hO1.2
      obtain ⟨A1, n1, c1, rfl, hn1⟩ := hO1.shapeN
      have hS : Src w1 1 A1 n1 (fa.map (Value.int .u8)) := Src.of_ints hO1.intsAt.1
      have HN1 := Lib.hid hn1
      have zz := hs1.size
      have zw := hB.size
      clear hn1 hO1
      go_wp2_with (at_builtin; refine wpList_app _ rfl (.tmp 14) (.tmp 17) _ rfl w.heap.size 5 i0 _ 1 1 Tryz.underlying32 hi0 hz0 hz1 hz2 rfl (by omega) _ _ _ rfl hO2.1 A1 n1 c1 (fa.map (Value.int .u8)) rfl hS (one_ints _ _) (by simp only [maxLen]; have := HM2.out; have := HN1.out; omega) (by have := HM2.out; have := HN1.out; omega) (by omega) ?_; intro v2 w3 hown hgr hat)
      go_roundw
      case rel => exact ⟨j + 1, by omega, by go_num, by rw [HS.out]; exact own_appN (r := fa) hown HN1.out.symm hO2.2 hO1w, (bel_trans hB hs1).grown hgr (by omega) (fun b hb => (hO2.block hb).1)⟩
      case measure => simp [RowKit.intOf]; omega
    · obtain rfl : n = j := by omega
      have HA := Lib.hid (show l.take n = l from List.take_of_length_le (Nat.le_of_eq HL.out))
      rw [HA.out] at hO
      go_wp2
      go_ret
      exact ⟨_, rfl, hO, hB⟩
set_option maxHeartbeats 1000000 in
theorem i_joinedLetterB {w : World} {n c : Nat} {A : Option Addr} {l : List DLetter} (F : Nat) (f : DLetter → List Int) (m : Nat) (hE : ∀ (cs : Array Value) (w : World), Sem.run Tryz.prog (callFunc F #[Value.agg cs]) w = .ok (.enter F #[Value.agg cs]) w)
    (hF : ∀ (i : Nat) (a : DLetter) (w' : World) (cs : List Value), l[i]? = some a → Below w.heap.size w w' → tLetter.R w' w'.heap.size cs a → Calls Tryz.prog F #[.agg cs.toArray] w' fun e w2 => ∃ v, e = .returned v ∧ Own .u8 5 w2 w'.heap.size v (f a) ∧ Below w'.heap.size w' w2)
    (hm : ∀ a ∈ l, (f a).length ≤ m) (hmn : m * n ≤ 1000000) (hl : tLetter.row.R w w.heap.size [.slice A n c] l) (hn : n ≤ 1048576) :
    Calls Tryz.prog 57 #[.slice A n c, .func (.func F) #[] #[]] w fun e w' => ∃ v, e = .returned v ∧ Own .u8 5 w' w.heap.size v (l.flatMap f) ∧ Below w.heap.size w w' := by
  obtain ⟨i0, hi0, hz0, hz1, hz2⟩ := info_parts info_cb
  obtain ⟨e0, _, _⟩ := rowR_len hl
  have HL := Lib.hid e0
  clear e0
  have HF := Lib.hid hF
  have HE := Lib.hid hE
  have HM := Lib.hid hm
  have HMN := Lib.hid hmn
  clear hF hE hm hmn
  go_enter Tryz.func57, Tryz.ntmps57
  go_wp2_with fail
  go_loopw [5, 10] (fun v i wr => ∃ j : Nat, j ≤ n ∧ i = .int .i64 j ∧ Own .u8 5 wr w.heap.size v ((l.take j).flatMap f) ∧ Below w.heap.size w wr) (fun _ i _ => n - (RowKit.intOf i).toNat)
  case atStart => exact ⟨0, by omega, rfl, Own.nil _ _ _ _, (belx)⟩
  case round =>
    obtain ⟨j, hj, rfl, hO, hB⟩ := hrel
    by_cases hlt : j < n
    · obtain ⟨a, b', off, es, hl2, rfl, hb, hes, hR⟩ := rowR_at (K := 2) hl hlt rfl
      have hRk := hR
      obtain ⟨A2, n2, c2, rfl, -, -, -, -, -⟩ := openLetter hR
      have e0 : wr.cell? ⟨b', off + j * 2, none⟩ = some (.int .i64 a.1) := cell_at hB hb (hes 0 (by omega))
      have e1 : wr.cell? ⟨b', off + j * 2 + 1, none⟩ = some (.slice A2 n2 c2) := cell_at hB hb (hes 1 (by omega))
      clear hes hR
      have HA := Lib.hid hl2
      have HS := Lib.hid (flS (f := f) hl2)
      have hm1 := HM.out a (alMem hl2)
      have hm2 : ((l.take j).flatMap f).length + (f a).length ≤ 1000000 := by
        have h1 := flLe (f := f) HM.out (j + 1)
        rw [HS.out, List.length_append, HL.out] at h1
        have := HMN.out
        omega
      clear hl2
      obtain ⟨bs, hbs⟩ : ∃ bs, (l.take j).flatMap f = bs := ⟨_, rfl⟩
      rw [hbs] at hO HS hm2
      have HM2 := Lib.hid hm2
      clear hbs hm1 hm2
      go_wp2_with fail
      rw [HE.out, Oper.upon_enter]
      refine (HF.out j a _ _ HA.out ?hB (tLetter.reach hRk ?hB2)).mono ?_
      case hB => exact bel_trans (a := w) hB (belx)
      case hB2 => exact bel_trans (a := w) hB (belx)
      rintro e w1 ⟨v1, rfl, hO1, hb1⟩
      obtain ⟨fa, hfa⟩ : ∃ y, f a = y := ⟨_, rfl⟩
      rw [hfa] at HS HM2 hO1
      clear hfa
      have hs1 : Below wr.heap.size wr w1 := bel_trans (belx) hb1
      have hO2 := hO.below hs1
      have hO1w := hO1.2
      obtain ⟨A1, n1, c1, rfl, hn1⟩ := hO1.shapeN
      have hS : Src w1 1 A1 n1 (fa.map (Value.int .u8)) := Src.of_ints hO1.intsAt.1
      have HN1 := Lib.hid hn1
      have zz := hs1.size
      have zw := hB.size
      clear hn1 hO1
      go_wp2_with (at_builtin; refine wpList_app _ rfl (.tmp 14) (.tmp 17) _ rfl w.heap.size 5 i0 _ 1 1 Tryz.underlying32 hi0 hz0 hz1 hz2 rfl (by omega) _ _ _ rfl hO2.1 A1 n1 c1 (fa.map (Value.int .u8)) rfl hS (one_ints _ _) (by simp only [maxLen]; have := HM2.out; have := HN1.out; omega) (by have := HM2.out; have := HN1.out; omega) (by omega) ?_; intro v2 w3 hown hgr hat)
      go_roundw
      case rel => exact ⟨j + 1, by omega, by go_num, by rw [HS.out]; exact own_appN (r := fa) hown HN1.out.symm hO2.2 hO1w, (bel_trans hB hs1).grown hgr (by omega) (fun b hb => (hO2.block hb).1)⟩
      case measure => simp [RowKit.intOf]; omega
    · obtain rfl : n = j := by omega
      have HA := Lib.hid (show l.take n = l from List.take_of_length_le (Nat.le_of_eq HL.out))
      rw [HA.out] at hO
      go_wp2
      go_ret
      exact ⟨_, rfl, hO, hB⟩
end Go.Proofs.YtelbckpplckofaaGreat
namespace Go.Proofs.YtelbckpplckofaaGreat
set_option maxRecDepth 100000
set_option linter.unusedVariables false
set_option linter.unusedSimpArgs false
open Go.ChangeShapes Go.WideShapes Go.ChangeAt Go.RowKit
set_option maxHeartbeats 1000000 in
theorem i_joinedPieceB {w : World} {n c : Nat} {A : Option Addr} {l : List DPiece} (F : Nat) (f : DPiece → List Int) (m : Nat) (hE : ∀ (cs : Array Value) (w : World), Sem.run Tryz.prog (callFunc F #[Value.agg cs]) w = .ok (.enter F #[Value.agg cs]) w)
    (hF : ∀ (i : Nat) (a : DPiece) (w' : World) (cs : List Value), l[i]? = some a → Below w.heap.size w w' → tPiece.R w' w'.heap.size cs a → Calls Tryz.prog F #[.agg cs.toArray] w' fun e w2 => ∃ v, e = .returned v ∧ Own .u8 5 w2 w'.heap.size v (f a) ∧ Below w'.heap.size w' w2)
    (hm : ∀ a ∈ l, (f a).length ≤ m) (hmn : m * n ≤ 1000000) (hl : tPiece.row.R w w.heap.size [.slice A n c] l) (hn : n ≤ 1048576) :
    Calls Tryz.prog 106 #[.slice A n c, .func (.func F) #[] #[]] w fun e w' => ∃ v, e = .returned v ∧ Own .u8 5 w' w.heap.size v (l.flatMap f) ∧ Below w.heap.size w w' := by
  obtain ⟨i0, hi0, hz0, hz1, hz2⟩ := info_parts info_cb
  obtain ⟨e0, _, _⟩ := rowR_len hl
  have HL := Lib.hid e0
  clear e0
  have HF := Lib.hid hF
  have HE := Lib.hid hE
  have HM := Lib.hid hm
  have HMN := Lib.hid hmn
  clear hF hE hm hmn
  go_enter Tryz.func106, Tryz.ntmps106
  go_wp2_with fail
  go_loopw [5, 10] (fun v i wr => ∃ j : Nat, j ≤ n ∧ i = .int .i64 j ∧ Own .u8 5 wr w.heap.size v ((l.take j).flatMap f) ∧ Below w.heap.size w wr) (fun _ i _ => n - (RowKit.intOf i).toNat)
  case atStart => exact ⟨0, by omega, rfl, Own.nil _ _ _ _, (belx)⟩
  case round =>
    obtain ⟨j, hj, rfl, hO, hB⟩ := hrel
    by_cases hlt : j < n
    · obtain ⟨a, b', off, es, hl2, rfl, hb, hes, hR⟩ := rowR_at (K := 4) hl hlt rfl
      have hRk := hR
      obtain ⟨A2, n2, c2, rfl, -, -, -, -, -, -, -⟩ := openPiece hR
      have e0 : wr.cell? ⟨b', off + j * 4, none⟩ = some (.int .i64 a.1) := cell_at hB hb (hes 0 (by omega))
      have e1 : wr.cell? ⟨b', off + j * 4 + 1, none⟩ = some (.int .i64 a.2.1) := cell_at hB hb (hes 1 (by omega))
      have e2 : wr.cell? ⟨b', off + j * 4 + 2, none⟩ = some (.int .i64 a.2.2.1) := cell_at hB hb (hes 2 (by omega))
      have e3 : wr.cell? ⟨b', off + j * 4 + 3, none⟩ = some (.slice A2 n2 c2) := cell_at hB hb (hes 3 (by omega))
      clear hes hR
      have HA := Lib.hid hl2
      have HS := Lib.hid (flS (f := f) hl2)
      have hm1 := HM.out a (alMem hl2)
      have hm2 : ((l.take j).flatMap f).length + (f a).length ≤ 1000000 := by
        have h1 := flLe (f := f) HM.out (j + 1)
        rw [HS.out, List.length_append, HL.out] at h1
        have := HMN.out
        omega
      clear hl2
      obtain ⟨bs, hbs⟩ : ∃ bs, (l.take j).flatMap f = bs := ⟨_, rfl⟩
      rw [hbs] at hO HS hm2
      have HM2 := Lib.hid hm2
      clear hbs hm1 hm2
      go_wp2_with fail
      rw [HE.out, Oper.upon_enter]
      refine (HF.out j a _ _ HA.out ?hB (tPiece.reach hRk ?hB2)).mono ?_
      case hB => exact bel_trans (a := w) hB (belx)
      case hB2 => exact bel_trans (a := w) hB (belx)
      rintro e w1 ⟨v1, rfl, hO1, hb1⟩
      obtain ⟨fa, hfa⟩ : ∃ y, f a = y := ⟨_, rfl⟩
      rw [hfa] at HS HM2 hO1
      clear hfa
      have hs1 : Below wr.heap.size wr w1 := bel_trans (belx) hb1
      have hO2 := hO.below hs1
      have hO1w := hO1.2
      obtain ⟨A1, n1, c1, rfl, hn1⟩ := hO1.shapeN
      have hS : Src w1 1 A1 n1 (fa.map (Value.int .u8)) := Src.of_ints hO1.intsAt.1
      have HN1 := Lib.hid hn1
      have zz := hs1.size
      have zw := hB.size
      clear hn1 hO1
      go_wp2_with (at_builtin; refine wpList_app _ rfl (.tmp 14) (.tmp 17) _ rfl w.heap.size 5 i0 _ 1 1 Tryz.underlying32 hi0 hz0 hz1 hz2 rfl (by omega) _ _ _ rfl hO2.1 A1 n1 c1 (fa.map (Value.int .u8)) rfl hS (one_ints _ _) (by simp only [maxLen]; have := HM2.out; have := HN1.out; omega) (by have := HM2.out; have := HN1.out; omega) (by omega) ?_; intro v2 w3 hown hgr hat)
      go_roundw
      case rel => exact ⟨j + 1, by omega, by go_num, by rw [HS.out]; exact own_appN (r := fa) hown HN1.out.symm hO2.2 hO1w, (bel_trans hB hs1).grown hgr (by omega) (fun b hb => (hO2.block hb).1)⟩
      case measure => simp [RowKit.intOf]; omega
    · obtain rfl : n = j := by omega
      have HA := Lib.hid (show l.take n = l from List.take_of_length_le (Nat.le_of_eq HL.out))
      rw [HA.out] at hO
      go_wp2
      go_ret
      exact ⟨_, rfl, hO, hB⟩
end Go.Proofs.YtelbckpplckofaaGreat
