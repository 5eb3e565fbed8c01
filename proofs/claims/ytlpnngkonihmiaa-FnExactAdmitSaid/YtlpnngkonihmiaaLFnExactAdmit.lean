/-
  For every argument (in all at most 2^20 elements) the program's Admit answers as its model does, in every field, writes into no argument, and its answer owns its memory. No further condition.
-/
import Derived.Test.YtlpnngkonihmiaaRows
import Derived.Test.YtlpnngkonihmiaaFr
import Derived.WalkKit
import Derived.ProofKit
import Derived.OpenShut
import Derived.ShutString
import Derived.ChangeOld
import Derived.Below
import Derived.Test.YtlpnngkonihmiaaLPool
import Derived.Test.YtlpnngkonihmiaaLHeld
import Derived.Test.YtlpnngkonihmiaaPAdm7
import Derived.Deep.RegionHeld3
import Derived.Deep.DeepCutAuto
import Derived.Deep.Cut
import Derived.Deep.CutRange
namespace Go.Proofs.Ytlpnngkonihmiaa.fnExactAdmit
open Go.ChangeShapes Go.WideShapes Go.ChangeAt Go.RowKit
open Go.ChangeMaps (open_string shut_string)
set_option linter.unusedVariables false

open Go.Proofs.Ytlpnngkonihmiaa
theorem own : ownKnob Try.prog.godebug = none := by kernel_rfl
theorem laidOut : laidOutB Try.prog = true := by kernel_rfl



/-! ### STEP 1: the walk -/
set_option maxRecDepth 100000 in
set_option maxHeartbeats 2000000 in
theorem walk (cs0 : Array Value) (p0 : DPool) (cs1 : Array Value) (p1 : DHeld) (a2 : Int) (w : World) (h0 : tPool.R w w.heap.size cs0.toList p0) (h1 : tHeld.R w w.heap.size cs1.toList p1) (w2 : (Lit.int .i64 a2).wf = true) :
    Calls Try.prog 6 #[.agg cs0, .agg cs1, .int .i64 a2] w fun e w' => e = .returned (.bool true) ∧ Below w.heap.size w w' := by
  obtain ⟨cs0⟩ := cs0
  replace h0 : tPool.R w w.heap.size cs0 p0 := h0
  obtain ⟨Aa00, na00, ca00, Aa01, na01, ca01, rfl, -, -, -, -, -, -, -, -⟩ := openPool h0
  obtain ⟨cs1⟩ := cs1
  replace h1 : tHeld.R w w.heap.size cs1 p1 := h1
  obtain ⟨Aa12, na12, ca12, rfl, -, -, -, -, -, -⟩ := openHeld h1
  have rg2 := i64_rg w2
  by_cases hz0 : szPool (p0) ≤ 1048576
  rotate_left
  · go_enter Try.func6, Try.ntmps6
    go_wp2_with fail
    refine (o_szPool_f ((tPool).reach h0 ?hB) (by omega) (by omega) (by omega)).mono ?_
    all_goals try (case hB => exact (by repeat (first | (with_reducible exact Below.refl _ _) | (with_reducible assumption) | (with_reducible refine bel_alloc ?_ _) | (with_reducible refine bel_drew ?_) | (with_reducible refine below_drewN ?_ _) | (with_reducible refine bel_put ?_ (by first | exact Nat.le_refl _ | (simp; done) | (simp; omega)) _))))
    rintro e W1 ⟨rfl, hb_⟩
    have hs1 : Below w.heap.size w W1 := bel_trans (by repeat (first | (with_reducible exact Below.refl _ _) | (with_reducible assumption) | (with_reducible refine bel_alloc ?_ _) | (with_reducible refine bel_drew ?_) | (with_reducible refine below_drewN ?_ _) | (with_reducible refine bel_put ?_ (by first | exact Nat.le_refl _ | (simp; done) | (simp; omega)) _))) hb_
    have z1 : w.heap.size + 2 ≤ W1.heap.size := by have := hb_.size; simpa using this
    have hB1 : Below w.heap.size w W1 := hs1
    have Ba0 : Box W1 (w.heap.size) 25 #[.slice Aa00 na00 ca00, .slice Aa01 na01 ca01] := Box.below ((Box.new _ _ _).alloc _) hb_ (by first | (simp; done) | (simp; omega))
    have Ba1 : Box W1 (w.heap.size + 1) 49 #[.int .i64 (p1.1), .int .i64 (p1.2.1), .slice Aa12 na12 ca12] := Box.below (show Box ((w.alloc _).alloc (.cells #[.int .i64 (p1.1), .int .i64 (p1.2.1), .slice Aa12 na12 ca12] 49)) (w.heap.size + 1) 49 #[.int .i64 (p1.1), .int .i64 (p1.2.1), .slice Aa12 na12 ca12] from by simpa using Box.new (w.alloc _) 49 #[.int .i64 (p1.1), .int .i64 (p1.2.1), .slice Aa12 na12 ca12]) hb_ (by first | (simp; done) | (simp; omega))
    have k_Ba0_0 : W1.cell? ⟨w.heap.size, 0, none⟩ = some (.slice Aa00 na00 ca00) := Ba0.cell 0
    have k_Ba0_1 : W1.cell? ⟨w.heap.size, 1, none⟩ = some (.slice Aa01 na01 ca01) := Ba0.cell 1
    have k_Ba1_0 : W1.cell? ⟨w.heap.size + 1, 0, none⟩ = some (.int .i64 (p1.1)) := Ba1.cell 0
    have k_Ba1_1 : W1.cell? ⟨w.heap.size + 1, 1, none⟩ = some (.int .i64 (p1.2.1)) := Ba1.cell 1
    have k_Ba1_2 : W1.cell? ⟨w.heap.size + 1, 2, none⟩ = some (.slice Aa12 na12 ca12) := Ba1.cell 2
    go_wp2
    go_ret
    exact ⟨rfl, hB1⟩
  have dz0 : decide ((1048576 : Int) - ((szPool (p0) : Nat) : Int) < 0) = false := by simp; omega
  by_cases hz1 : szPool (p0) + szHeld (p1) ≤ 1048576
  rotate_left
  · go_enter Try.func6, Try.ntmps6
    go_wp2_with fail
    refine (o_szPool_t ((tPool).reach h0 ?hB) (by omega) (by omega) (by omega)).mono ?_
    all_goals try (case hB => exact (by repeat (first | (with_reducible exact Below.refl _ _) | (with_reducible assumption) | (with_reducible refine bel_alloc ?_ _) | (with_reducible refine bel_drew ?_) | (with_reducible refine below_drewN ?_ _) | (with_reducible refine bel_put ?_ (by first | exact Nat.le_refl _ | (simp; done) | (simp; omega)) _))))
    rintro e W1 ⟨rfl, hb_⟩
    have hs1 : Below w.heap.size w W1 := bel_trans (by repeat (first | (with_reducible exact Below.refl _ _) | (with_reducible assumption) | (with_reducible refine bel_alloc ?_ _) | (with_reducible refine bel_drew ?_) | (with_reducible refine below_drewN ?_ _) | (with_reducible refine bel_put ?_ (by first | exact Nat.le_refl _ | (simp; done) | (simp; omega)) _))) hb_
    have z1 : w.heap.size + 2 ≤ W1.heap.size := by have := hb_.size; simpa using this
    have hB1 : Below w.heap.size w W1 := hs1
    have Ba0 : Box W1 (w.heap.size) 25 #[.slice Aa00 na00 ca00, .slice Aa01 na01 ca01] := Box.below ((Box.new _ _ _).alloc _) hb_ (by first | (simp; done) | (simp; omega))
    have Ba1 : Box W1 (w.heap.size + 1) 49 #[.int .i64 (p1.1), .int .i64 (p1.2.1), .slice Aa12 na12 ca12] := Box.below (show Box ((w.alloc _).alloc (.cells #[.int .i64 (p1.1), .int .i64 (p1.2.1), .slice Aa12 na12 ca12] 49)) (w.heap.size + 1) 49 #[.int .i64 (p1.1), .int .i64 (p1.2.1), .slice Aa12 na12 ca12] from by simpa using Box.new (w.alloc _) 49 #[.int .i64 (p1.1), .int .i64 (p1.2.1), .slice Aa12 na12 ca12]) hb_ (by first | (simp; done) | (simp; omega))
    have k_Ba0_0 : W1.cell? ⟨w.heap.size, 0, none⟩ = some (.slice Aa00 na00 ca00) := Ba0.cell 0
    have k_Ba0_1 : W1.cell? ⟨w.heap.size, 1, none⟩ = some (.slice Aa01 na01 ca01) := Ba0.cell 1
    have k_Ba1_0 : W1.cell? ⟨w.heap.size + 1, 0, none⟩ = some (.int .i64 (p1.1)) := Ba1.cell 0
    have k_Ba1_1 : W1.cell? ⟨w.heap.size + 1, 1, none⟩ = some (.int .i64 (p1.2.1)) := Ba1.cell 1
    have k_Ba1_2 : W1.cell? ⟨w.heap.size + 1, 2, none⟩ = some (.slice Aa12 na12 ca12) := Ba1.cell 2
    clear hb_
    go_wp2_with fail
    refine (o_szHeld_f ((tHeld).reach ((tHeld).reach h1 hB1) ?hB) (by omega) (by omega) (by omega)).mono ?_
    all_goals try (case hB => exact (by repeat (first | (with_reducible exact Below.refl _ _) | (with_reducible assumption) | (with_reducible refine bel_alloc ?_ _) | (with_reducible refine bel_drew ?_) | (with_reducible refine below_drewN ?_ _) | (with_reducible refine bel_put ?_ (by first | exact Nat.le_refl _ | (simp; done) | (simp; omega)) _))))
    rintro e W2 ⟨rfl, hb_⟩
    clear k_Ba0_0 k_Ba0_1
    clear k_Ba1_0 k_Ba1_1 k_Ba1_2
    have hs2 : Below W1.heap.size W1 W2 := bel_trans (by repeat (first | (with_reducible exact Below.refl _ _) | (with_reducible assumption) | (with_reducible refine bel_alloc ?_ _) | (with_reducible refine bel_drew ?_) | (with_reducible refine below_drewN ?_ _) | (with_reducible refine bel_put ?_ (by first | exact Nat.le_refl _ | (simp; done) | (simp; omega)) _))) hb_
    have z2 : W1.heap.size + 0 ≤ W2.heap.size := by have := hb_.size; simpa using this
    have hB2 : Below w.heap.size w W2 := bel_trans hB1 hs2
    replace Ba0 := Ba0.below hs2 Ba0.size
    replace Ba1 := Ba1.below hs2 Ba1.size
    have k_Ba0_0 : W2.cell? ⟨w.heap.size, 0, none⟩ = some (.slice Aa00 na00 ca00) := Ba0.cell 0
    have k_Ba0_1 : W2.cell? ⟨w.heap.size, 1, none⟩ = some (.slice Aa01 na01 ca01) := Ba0.cell 1
    have k_Ba1_0 : W2.cell? ⟨w.heap.size + 1, 0, none⟩ = some (.int .i64 (p1.1)) := Ba1.cell 0
    have k_Ba1_1 : W2.cell? ⟨w.heap.size + 1, 1, none⟩ = some (.int .i64 (p1.2.1)) := Ba1.cell 1
    have k_Ba1_2 : W2.cell? ⟨w.heap.size + 1, 2, none⟩ = some (.slice Aa12 na12 ca12) := Ba1.cell 2
    go_wp2
    go_ret
    exact ⟨rfl, hB2⟩
  have dz1 : decide ((1048576 : Int) - ((szPool (p0) : Nat) : Int) - ((szHeld (p1) : Nat) : Int) < 0) = false := by simp; omega
  have hzr0 : szPool (fAdm p0 p1 a2) ≤ 1048576 := (by have := fAdm_le p0 p1 a2; omega)
  have hcr0 := cntPool_le (fAdm p0 p1 a2)
  obtain ⟨r0, hr0⟩ : ∃ r, fAdm p0 p1 a2 = r := ⟨_, rfl⟩
  have HR0 := Lib.hid hr0
  rw [hr0] at hzr0 hcr0
  clear hr0
  obtain ⟨r1, hr1⟩ : ∃ r, fAdmN p0 p1 a2 = r := ⟨_, rfl⟩
  have HR1 := Lib.hid hr1
  have qr1 : (r1 != r1) = false := by simp
  clear hr1
  have hcp0 := cntPool_le (p0)
  have hcp1 := cntHeld_le (p1)
  go_enter Try.func6, Try.ntmps6
  go_wp2_with fail
  refine (o_szPool_t ((tPool).reach h0 ?hB) (by omega) (by omega) (by omega)).mono ?_
  all_goals try (case hB => exact (by repeat (first | (with_reducible exact Below.refl _ _) | (with_reducible assumption) | (with_reducible refine bel_alloc ?_ _) | (with_reducible refine bel_drew ?_) | (with_reducible refine below_drewN ?_ _) | (with_reducible refine bel_put ?_ (by first | exact Nat.le_refl _ | (simp; done) | (simp; omega)) _))))
  rintro e W1 ⟨rfl, hb_⟩
  have hs1 : Below w.heap.size w W1 := bel_trans (by repeat (first | (with_reducible exact Below.refl _ _) | (with_reducible assumption) | (with_reducible refine bel_alloc ?_ _) | (with_reducible refine bel_drew ?_) | (with_reducible refine below_drewN ?_ _) | (with_reducible refine bel_put ?_ (by first | exact Nat.le_refl _ | (simp; done) | (simp; omega)) _))) hb_
  have z1 : w.heap.size + 2 ≤ W1.heap.size := by have := hb_.size; simpa using this
  have hB1 : Below w.heap.size w W1 := hs1
  have Ba0 : Box W1 (w.heap.size) 25 #[.slice Aa00 na00 ca00, .slice Aa01 na01 ca01] := Box.below ((Box.new _ _ _).alloc _) hb_ (by first | (simp; done) | (simp; omega))
  have Ba1 : Box W1 (w.heap.size + 1) 49 #[.int .i64 (p1.1), .int .i64 (p1.2.1), .slice Aa12 na12 ca12] := Box.below (show Box ((w.alloc _).alloc (.cells #[.int .i64 (p1.1), .int .i64 (p1.2.1), .slice Aa12 na12 ca12] 49)) (w.heap.size + 1) 49 #[.int .i64 (p1.1), .int .i64 (p1.2.1), .slice Aa12 na12 ca12] from by simpa using Box.new (w.alloc _) 49 #[.int .i64 (p1.1), .int .i64 (p1.2.1), .slice Aa12 na12 ca12]) hb_ (by first | (simp; done) | (simp; omega))
  have k_Ba0_0 : W1.cell? ⟨w.heap.size, 0, none⟩ = some (.slice Aa00 na00 ca00) := Ba0.cell 0
  have k_Ba0_1 : W1.cell? ⟨w.heap.size, 1, none⟩ = some (.slice Aa01 na01 ca01) := Ba0.cell 1
  have k_Ba1_0 : W1.cell? ⟨w.heap.size + 1, 0, none⟩ = some (.int .i64 (p1.1)) := Ba1.cell 0
  have k_Ba1_1 : W1.cell? ⟨w.heap.size + 1, 1, none⟩ = some (.int .i64 (p1.2.1)) := Ba1.cell 1
  have k_Ba1_2 : W1.cell? ⟨w.heap.size + 1, 2, none⟩ = some (.slice Aa12 na12 ca12) := Ba1.cell 2
  clear hb_
  go_wp2_with fail
  refine (o_szHeld_t ((tHeld).reach ((tHeld).reach h1 hB1) ?hB) (by omega) (by omega) (by omega)).mono ?_
  all_goals try (case hB => exact (by repeat (first | (with_reducible exact Below.refl _ _) | (with_reducible assumption) | (with_reducible refine bel_alloc ?_ _) | (with_reducible refine bel_drew ?_) | (with_reducible refine below_drewN ?_ _) | (with_reducible refine bel_put ?_ (by first | exact Nat.le_refl _ | (simp; done) | (simp; omega)) _))))
  rintro e W2 ⟨rfl, hb_⟩
  clear k_Ba0_0 k_Ba0_1
  clear k_Ba1_0 k_Ba1_1 k_Ba1_2
  have hs2 : Below W1.heap.size W1 W2 := bel_trans (by repeat (first | (with_reducible exact Below.refl _ _) | (with_reducible assumption) | (with_reducible refine bel_alloc ?_ _) | (with_reducible refine bel_drew ?_) | (with_reducible refine below_drewN ?_ _) | (with_reducible refine bel_put ?_ (by first | exact Nat.le_refl _ | (simp; done) | (simp; omega)) _))) hb_
  have z2 : W1.heap.size + 0 ≤ W2.heap.size := by have := hb_.size; simpa using this
  have hB2 : Below w.heap.size w W2 := bel_trans hB1 hs2
  replace Ba0 := Ba0.below hs2 Ba0.size
  replace Ba1 := Ba1.below hs2 Ba1.size
  have k_Ba0_0 : W2.cell? ⟨w.heap.size, 0, none⟩ = some (.slice Aa00 na00 ca00) := Ba0.cell 0
  have k_Ba0_1 : W2.cell? ⟨w.heap.size, 1, none⟩ = some (.slice Aa01 na01 ca01) := Ba0.cell 1
  have k_Ba1_0 : W2.cell? ⟨w.heap.size + 1, 0, none⟩ = some (.int .i64 (p1.1)) := Ba1.cell 0
  have k_Ba1_1 : W2.cell? ⟨w.heap.size + 1, 1, none⟩ = some (.int .i64 (p1.2.1)) := Ba1.cell 1
  have k_Ba1_2 : W2.cell? ⟨w.heap.size + 1, 2, none⟩ = some (.slice Aa12 na12 ca12) := Ba1.cell 2
  clear hb_
  go_wp2_with fail
  go_cut [8, 9] (fun t8 t9 wx => ∃ (gs : Nat) (css0 : List Value) (Fs0 : List Nat), t8 = .pointer (some ⟨gs, 0, none⟩) ∧ t9 = .int .i64 r1 ∧ Box wx gs 29 css0.toArray ∧ (tPool).O wx css0 r0 Fs0 ∧ New W2.heap.size (Fs0) ∧ (∀ f ∈ Fs0, ¬ f = gs) ∧ Below W2.heap.size W2 wx ∧ W2.heap.size ≤ gs ∧ gs < wx.heap.size)
  case first =>
    refine wp_region_held_drew (S := (fun w' => w'.cell? ⟨w.heap.size, 0, none⟩ = some (.slice Aa00 na00 ca00) ∧ w'.cell? ⟨w.heap.size, 1, none⟩ = some (.slice Aa01 na01 ca01) ∧ w'.cell? ⟨w.heap.size + 1, 0, none⟩ = some (.int .i64 (p1.1)) ∧ w'.cell? ⟨w.heap.size + 1, 1, none⟩ = some (.int .i64 (p1.2.1)) ∧ w'.cell? ⟨w.heap.size + 1, 2, none⟩ = some (.slice Aa12 na12 ca12))) (by kernel_rfl) (by exact ⟨k_Ba0_0, k_Ba0_1, k_Ba1_0, k_Ba1_1, k_Ba1_2⟩) (fun hHeld => ?_)
    refine wpAnyH_take (i := 0) (oi := ⟨some 30, _, _, _, _, _⟩) (v := ?v1) rfl (by kernel_rfl) (by kernel_rfl) (by kernel_rfl) (fun _ _ _ h => h) (Or.inl ⟨by rfl, ?hy1⟩) (by assumption) ?_
    case hy1 => (intro w hSw; (try dsimp only at hSw); go_simp; try (with_reducible rfl))
    (try simp only [Act.put, List.setIfInBounds_toArray, List.set_cons_zero, List.set_cons_succ])
    refine wpAnyH_take (i := 2) (oi := ⟨some 32, _, _, _, _, _⟩) (v := ?v2) rfl (by kernel_rfl) (by kernel_rfl) (by kernel_rfl) (fun _ _ _ h => h) (Or.inl ⟨by rfl, ?hy2⟩) (by assumption) ?_
    case hy2 => (intro w hSw; (try dsimp only at hSw); go_simp; try (with_reducible rfl))
    (try simp only [Act.put, List.setIfInBounds_toArray, List.set_cons_zero, List.set_cons_succ])
    refine wpAnyH_take (i := 4) (oi := ⟨some 34, _, _, _, _, _⟩) (v := ?v3) rfl (by kernel_rfl) (by kernel_rfl) (by kernel_rfl) (fun _ _ _ h => h) (Or.inl ⟨by rfl, ?hy3⟩) (by assumption) ?_
    case hy3 => (intro w hSw; (try dsimp only at hSw); go_simp; try (with_reducible rfl))
    (try simp only [Act.put, List.setIfInBounds_toArray, List.set_cons_zero, List.set_cons_succ])
    refine wpAnyH_ready (rs := [1, 9]) (by kernel_rfl) (by simp) ?_
    refine AllReadyH.cons rfl (fun K hK => ?_) ?_
    · have hX3 : Below W2.heap.size W2 W2.drew := (by repeat (first | (with_reducible exact Below.refl _ _) | (with_reducible assumption) | (with_reducible refine bel_alloc ?_ _) | (with_reducible refine bel_drew ?_) | (with_reducible refine below_drewN ?_ _) | (with_reducible refine bel_put ?_ (by first | exact Nat.le_refl _ | (simp; done) | (simp; omega)) _)))
      go_simp
      go_at_call 17
      refine (o_toPool ((tPool).reach h0 (bel_trans hB2 hX3)) (by omega)).mono ?_
      rintro e W3 ⟨csy0, Fy0, rfl, o_y0, Ny0, hb_3⟩
      have hs3 : Below W2.heap.size W2 W3 := bel_trans (show Below W2.heap.size W2 W2.drew from (by repeat (first | (with_reducible exact Below.refl _ _) | (with_reducible assumption) | (with_reducible refine bel_alloc ?_ _) | (with_reducible refine bel_drew ?_) | (with_reducible refine below_drewN ?_ _) | (with_reducible refine bel_put ?_ (by first | exact Nat.le_refl _ | (simp; done) | (simp; omega)) _)))) hb_3
      have hx3 : Below W2.heap.size W2 W3 := hs3
      go_wp2_with fail
      refine hK.out _ _ (by exact ⟨cell_bel hx3 k_Ba0_0, cell_bel hx3 k_Ba0_1, cell_bel hx3 k_Ba1_0, cell_bel hx3 k_Ba1_1, cell_bel hx3 k_Ba1_2⟩) (fun hHeld => ?_)
      clear hK K
      (try simp only [Act.put, List.setIfInBounds_toArray, List.set_cons_zero, List.set_cons_succ])
      refine wpAnyH_ready (rs := [3, 9]) (by kernel_rfl) (by simp) ?_
      refine AllReadyH.cons rfl (fun K hK => ?_) ?_
      · have hX4 : Below W2.heap.size W2 W3 := hx3
        go_simp
        go_at_call 34
        refine (o_toHeld ((tHeld).reach h1 (bel_trans hB2 hX4)) (by omega)).mono ?_
        rintro e W4 ⟨csy1, Fy1, rfl, o_y1, Ny1, hb_4⟩
        have hs4 : Below W3.heap.size W3 W4 := bel_trans (show Below W3.heap.size W3 W3 from (by repeat (first | (with_reducible exact Below.refl _ _) | (with_reducible assumption) | (with_reducible refine bel_alloc ?_ _) | (with_reducible refine bel_drew ?_) | (with_reducible refine below_drewN ?_ _) | (with_reducible refine bel_put ?_ (by first | exact Nat.le_refl _ | (simp; done) | (simp; omega)) _)))) hb_4
        have hx4 : Below W2.heap.size W2 W4 := bel_trans hx3 hs4
        go_wp2_with fail
        refine hK.out _ _ (by exact ⟨cell_bel hx4 k_Ba0_0, cell_bel hx4 k_Ba0_1, cell_bel hx4 k_Ba1_0, cell_bel hx4 k_Ba1_1, cell_bel hx4 k_Ba1_2⟩) (fun hHeld => ?_)
        clear hK K
        (try simp only [Act.put, List.setIfInBounds_toArray, List.set_cons_zero, List.set_cons_succ])
        refine wpAnyH_ready (rs := [5, 9]) (by kernel_rfl) (by simp) ?_
        refine AllReadyH.cons rfl (fun K hK => ?_) ?_
        · have hX5 : Below W2.heap.size W2 W4 := hx4
          go_simp
          go_at_call 33
          refine (s_Admit ((tPool).reach ((tPool).read (Ty.below (t := tPool) o_y0 hs4)) (by repeat (first | (with_reducible exact Below.refl _ _) | (with_reducible assumption) | (with_reducible refine bel_alloc ?_ _) | (with_reducible refine bel_drew ?_) | (with_reducible refine below_drewN ?_ _) | (with_reducible refine bel_put ?_ (by first | exact Nat.le_refl _ | (simp; done) | (simp; omega)) _)))) (by omega) ((tHeld).reach ((tHeld).read o_y1) (by repeat (first | (with_reducible exact Below.refl _ _) | (with_reducible assumption) | (with_reducible refine bel_alloc ?_ _) | (with_reducible refine bel_drew ?_) | (with_reducible refine below_drewN ?_ _) | (with_reducible refine bel_put ?_ (by first | exact Nat.le_refl _ | (simp; done) | (simp; omega)) _)))) (by omega) w2).mono ?_
          rintro e W5 ⟨css0, Fs0, rfl, o_s0, Ns, hb_5⟩
          rw [HR0.out] at o_s0
          rw [HR1.out]
          have oo_0 := o_s0
          obtain ⟨As00, cs00, Fs00, As01, cs01, Fs01, rfl, -, -, -, -, -, -, -⟩ := openOPool oo_0
          have hNw : New W2.heap.size (Fs0) := Ns.lower hX5.size
          have hs5 : Below W4.heap.size W4 W5 := bel_trans (show Below W4.heap.size W4 W4 from (by repeat (first | (with_reducible exact Below.refl _ _) | (with_reducible assumption) | (with_reducible refine bel_alloc ?_ _) | (with_reducible refine bel_drew ?_) | (with_reducible refine below_drewN ?_ _) | (with_reducible refine bel_put ?_ (by first | exact Nat.le_refl _ | (simp; done) | (simp; omega)) _)))) hb_5
          have hx5 : Below W2.heap.size W2 W5 := bel_trans hx4 hs5
          go_wp2_with fail
          refine hK.out _ _ (by exact ⟨cell_bel hx5 k_Ba0_0, cell_bel hx5 k_Ba0_1, cell_bel hx5 k_Ba1_0, cell_bel hx5 k_Ba1_1, cell_bel hx5 k_Ba1_2⟩) (fun hHeld => ?_)
          clear hK K
          (try simp only [Act.put, List.setIfInBounds_toArray, List.set_cons_zero, List.set_cons_succ])
          refine wpAnyH_take (i := 6) (oi := ⟨some 29, _, _, _, _, _⟩) (v := ?v4) rfl (by kernel_rfl) (by kernel_rfl) (by kernel_rfl) (fun _ _ _ h => h) (Or.inl ⟨by rfl, ?hy4⟩) (by assumption) ?_
          case hy4 => (intro w hSw; (try dsimp only at hSw); go_simp; try (with_reducible rfl))
          (try simp only [Act.put, List.setIfInBounds_toArray, List.set_cons_zero, List.set_cons_succ])
          refine wpAnyH_take (i := 7) (oi := ⟨some 36, _, _, _, _, _⟩) (v := ?v5) rfl (by kernel_rfl) (by kernel_rfl) (by kernel_rfl) (fun _ _ _ h => h) (Or.inl ⟨by rfl, ?hy5⟩) (by assumption) ?_
          case hy5 => (intro w hSw; (try dsimp only at hSw); go_simp; try (with_reducible rfl))
          (try simp only [Act.put, List.setIfInBounds_toArray, List.set_cons_zero, List.set_cons_succ])
          refine wpAnyH_take (i := 8) (oi := ⟨some 37, _, _, _, _, _⟩) (v := ?v6) rfl (by kernel_rfl) (by kernel_rfl) (by kernel_rfl) (fun _ _ _ h => h) (Or.inl ⟨by rfl, ?hy6⟩) (by assumption) ?_
          case hy6 => (intro w hSw; (try dsimp only at hSw); go_simp; try (with_reducible rfl))
          (try simp only [Act.put, List.setIfInBounds_toArray, List.set_cons_zero, List.set_cons_succ])
          refine wpAnyH_ready (rs := [9]) (by kernel_rfl) (by simp) ?_
          refine AllReadyH.cons rfl (fun K hK => ?_) ?_
          · go_simp
            refine hK.out _ _ (by exact ⟨cell_bel (show Below W2.heap.size W2 (W5.alloc (.cells #[.slice none 0 0, .slice none 0 0] 29)) from bel_alloc hx5 _) k_Ba0_0, cell_bel (show Below W2.heap.size W2 (W5.alloc (.cells #[.slice none 0 0, .slice none 0 0] 29)) from bel_alloc hx5 _) k_Ba0_1, cell_bel (show Below W2.heap.size W2 (W5.alloc (.cells #[.slice none 0 0, .slice none 0 0] 29)) from bel_alloc hx5 _) k_Ba1_0, cell_bel (show Below W2.heap.size W2 (W5.alloc (.cells #[.slice none 0 0, .slice none 0 0] 29)) from bel_alloc hx5 _) k_Ba1_1, cell_bel (show Below W2.heap.size W2 (W5.alloc (.cells #[.slice none 0 0, .slice none 0 0] 29)) from bel_alloc hx5 _) k_Ba1_2⟩) (fun hHeld => ?_)
            clear hK K
            (try simp only [Act.put, List.setIfInBounds_toArray, List.set_cons_zero, List.set_cons_succ])
            refine wpAnyH_ready (rs := [10]) (by kernel_rfl) (by simp) ?_
            refine AllReadyH.cons rfl (fun K hK => ?_) ?_
            · have hg1 : W2.heap.size ≤ W5.heap.size := hx5.size
              have Zg : Box (W5.alloc (.cells #[.slice As00 (r0.1).length cs00, .slice As01 (r0.2).length cs01] 29)) (W5.heap.size) 29 #[.slice As00 (r0.1).length cs00, .slice As01 (r0.2).length cs01] := Box.new _ _ _
              have hgF : ∀ f ∈ Fs0, ¬ f = W5.heap.size := fun f hf e => by (subst e; exact Nat.lt_irrefl _ ((tPool).lt o_s0 _ hf))
              have O_0 := Ty.below (t := tPool) o_s0 (show Below W5.heap.size W5 (W5.alloc (.cells #[.slice As00 (r0.1).length cs00, .slice As01 (r0.2).length cs01] 29)) from bel_alloc (Below.refl _ _) _)
              have hfin : Below W2.heap.size W2 (W5.alloc (.cells #[.slice As00 (r0.1).length cs00, .slice As01 (r0.2).length cs01] 29)) := bel_alloc hx5 _
              have hg2 := Zg.size
              go_simp
              refine hK.out _ _ (by exact ⟨cell_bel hfin k_Ba0_0, cell_bel hfin k_Ba0_1, cell_bel hfin k_Ba1_0, cell_bel hfin k_Ba1_1, cell_bel hfin k_Ba1_2⟩) (fun hHeld => ?_)
              clear hK K
              (try simp only [Act.put, List.setIfInBounds_toArray, List.set_cons_zero, List.set_cons_succ])
              refine wpAnyH_take (i := 11) (oi := ⟨some 9, _, _, _, _, _⟩) (v := ?v7) rfl (by kernel_rfl) (by kernel_rfl) (by kernel_rfl) (fun _ _ _ h => h) (Or.inl ⟨by rfl, ?hy7⟩) (by assumption) ?_
              case hy7 => (intro w hSw; (try dsimp only at hSw); go_simp; try (with_reducible rfl))
              (try simp only [Act.put, List.setIfInBounds_toArray, List.set_cons_zero, List.set_cons_succ])
              refine wpAnyH_done (by kernel_rfl) ?_ _
              go_wp2_with fail
              go_meet
              exact ⟨_, [.slice As00 (r0.1).length cs00, .slice As01 (r0.2).length cs01], _, rfl, rfl, by first | exact Zg | simpa using Zg, O_0, hNw, hgF, hfin, hg1, by first | exact hg2 | simpa [World.setCell] using hg2⟩
            exact AllReadyH.nil
          exact AllReadyH.nil
        refine AllReadyH.cons rfl (fun K hK => ?_) ?_
        · go_simp
          refine hK.out _ _ (by exact ⟨cell_bel (show Below W2.heap.size W2 (W4.alloc (.cells #[.slice none 0 0, .slice none 0 0] 29)) from bel_alloc hx4 _) k_Ba0_0, cell_bel (show Below W2.heap.size W2 (W4.alloc (.cells #[.slice none 0 0, .slice none 0 0] 29)) from bel_alloc hx4 _) k_Ba0_1, cell_bel (show Below W2.heap.size W2 (W4.alloc (.cells #[.slice none 0 0, .slice none 0 0] 29)) from bel_alloc hx4 _) k_Ba1_0, cell_bel (show Below W2.heap.size W2 (W4.alloc (.cells #[.slice none 0 0, .slice none 0 0] 29)) from bel_alloc hx4 _) k_Ba1_1, cell_bel (show Below W2.heap.size W2 (W4.alloc (.cells #[.slice none 0 0, .slice none 0 0] 29)) from bel_alloc hx4 _) k_Ba1_2⟩) (fun hHeld => ?_)
          clear hK K
          (try simp only [Act.put, List.setIfInBounds_toArray, List.set_cons_zero, List.set_cons_succ])
          refine wpAnyH_ready (rs := [5]) (by kernel_rfl) (by simp) ?_
          refine AllReadyH.cons rfl (fun K hK => ?_) ?_
          · have hX5 : Below W2.heap.size W2 (W4.alloc (.cells #[.slice none 0 0, .slice none 0 0] 29)) := bel_alloc hx4 _
            go_simp
            go_at_call 33
            refine (s_Admit ((tPool).reach ((tPool).read (Ty.below (t := tPool) o_y0 hs4)) (by repeat (first | (with_reducible exact Below.refl _ _) | (with_reducible assumption) | (with_reducible refine bel_alloc ?_ _) | (with_reducible refine bel_drew ?_) | (with_reducible refine below_drewN ?_ _) | (with_reducible refine bel_put ?_ (by first | exact Nat.le_refl _ | (simp; done) | (simp; omega)) _)))) (by omega) ((tHeld).reach ((tHeld).read o_y1) (by repeat (first | (with_reducible exact Below.refl _ _) | (with_reducible assumption) | (with_reducible refine bel_alloc ?_ _) | (with_reducible refine bel_drew ?_) | (with_reducible refine below_drewN ?_ _) | (with_reducible refine bel_put ?_ (by first | exact Nat.le_refl _ | (simp; done) | (simp; omega)) _)))) (by omega) w2).mono ?_
            rintro e W5 ⟨css0, Fs0, rfl, o_s0, Ns, hb_5⟩
            rw [HR0.out] at o_s0
            rw [HR1.out]
            have oo_0 := o_s0
            obtain ⟨As00, cs00, Fs00, As01, cs01, Fs01, rfl, -, -, -, -, -, -, -⟩ := openOPool oo_0
            have hNw : New W2.heap.size (Fs0) := Ns.lower hX5.size
            have hs5 : Below W4.heap.size W4 W5 := bel_trans (show Below W4.heap.size W4 (W4.alloc (.cells #[.slice none 0 0, .slice none 0 0] 29)) from (by repeat (first | (with_reducible exact Below.refl _ _) | (with_reducible assumption) | (with_reducible refine bel_alloc ?_ _) | (with_reducible refine bel_drew ?_) | (with_reducible refine below_drewN ?_ _) | (with_reducible refine bel_put ?_ (by first | exact Nat.le_refl _ | (simp; done) | (simp; omega)) _)))) hb_5
            have hx5 : Below W2.heap.size W2 W5 := bel_trans hx4 hs5
            have Zb : Box (W4.alloc (.cells #[.slice none 0 0, .slice none 0 0] 29)) (W4.heap.size) 29 #[.slice none 0 0, .slice none 0 0] := (by first | exact Box.new _ _ _ | exact Box.drew (Box.new _ _ _))
            have hgX : W4.heap.size < (W4.alloc (.cells #[.slice none 0 0, .slice none 0 0] 29)).heap.size := Zb.size
            have hgF : ∀ f ∈ Fs0, ¬ f = W4.heap.size := fun f hf e => by (subst e; exact Nat.lt_irrefl _ (Nat.lt_of_lt_of_le hgX (Ns.2 _ hf)))
            replace Zb := Box.below Zb hb_5 Zb.size
            have zb0 := Zb.cell 0
            have zb1 := Zb.cell 1
            have zf0 := Zb.frozen 0
            have zf1 := Zb.frozen 1
            go_wp2_with fail
            refine hK.out _ _ (by exact ⟨cell_bel hx5 k_Ba0_0, cell_bel hx5 k_Ba0_1, cell_bel hx5 k_Ba1_0, cell_bel hx5 k_Ba1_1, cell_bel hx5 k_Ba1_2⟩) (fun hHeld => ?_)
            clear hK K
            (try simp only [Act.put, List.setIfInBounds_toArray, List.set_cons_zero, List.set_cons_succ])
            refine wpAnyH_take (i := 6) (oi := ⟨some 29, _, _, _, _, _⟩) (v := ?v8) rfl (by kernel_rfl) (by kernel_rfl) (by kernel_rfl) (fun _ _ _ h => h) (Or.inl ⟨by rfl, ?hy8⟩) (by assumption) ?_
            case hy8 => (intro w hSw; (try dsimp only at hSw); go_simp; try (with_reducible rfl))
            (try simp only [Act.put, List.setIfInBounds_toArray, List.set_cons_zero, List.set_cons_succ])
            refine wpAnyH_take (i := 7) (oi := ⟨some 36, _, _, _, _, _⟩) (v := ?v9) rfl (by kernel_rfl) (by kernel_rfl) (by kernel_rfl) (fun _ _ _ h => h) (Or.inl ⟨by rfl, ?hy9⟩) (by assumption) ?_
            case hy9 => (intro w hSw; (try dsimp only at hSw); go_simp; try (with_reducible rfl))
            (try simp only [Act.put, List.setIfInBounds_toArray, List.set_cons_zero, List.set_cons_succ])
            refine wpAnyH_take (i := 8) (oi := ⟨some 37, _, _, _, _, _⟩) (v := ?v10) rfl (by kernel_rfl) (by kernel_rfl) (by kernel_rfl) (fun _ _ _ h => h) (Or.inl ⟨by rfl, ?hy10⟩) (by assumption) ?_
            case hy10 => (intro w hSw; (try dsimp only at hSw); go_simp; try (with_reducible rfl))
            (try simp only [Act.put, List.setIfInBounds_toArray, List.set_cons_zero, List.set_cons_succ])
            refine wpAnyH_ready (rs := [10]) (by kernel_rfl) (by simp) ?_
            refine AllReadyH.cons rfl (fun K hK => ?_) ?_
            · have hg1 : W2.heap.size ≤ W4.heap.size := hx4.size
              have hfin := (bel_put (bel_put hx5 (p := ⟨W4.heap.size, 0, none⟩) hg1 (.slice As00 (r0.1).length cs00)) (p := ⟨W4.heap.size, 1, none⟩) hg1 (.slice As01 (r0.2).length cs01))
              have Zg := ((Zb.put 0 (.slice As00 (r0.1).length cs00)).put 1 (.slice As01 (r0.2).length cs01))
              have O_0 := (Ty.far3 (t := tPool) (Ty.far3 (t := tPool) o_s0 (p := ⟨W4.heap.size, 0, none⟩) (fun hx => hgF _ hx rfl) (.slice As00 (r0.1).length cs00)) (p := ⟨W4.heap.size, 1, none⟩) (fun hx => hgF _ hx rfl) (.slice As01 (r0.2).length cs01))
              have hg2 := Zg.size
              go_simp
              refine hK.out _ _ (by exact ⟨cell_bel hfin k_Ba0_0, cell_bel hfin k_Ba0_1, cell_bel hfin k_Ba1_0, cell_bel hfin k_Ba1_1, cell_bel hfin k_Ba1_2⟩) (fun hHeld => ?_)
              clear hK K
              (try simp only [Act.put, List.setIfInBounds_toArray, List.set_cons_zero, List.set_cons_succ])
              refine wpAnyH_take (i := 11) (oi := ⟨some 9, _, _, _, _, _⟩) (v := ?v11) rfl (by kernel_rfl) (by kernel_rfl) (by kernel_rfl) (fun _ _ _ h => h) (Or.inl ⟨by rfl, ?hy11⟩) (by assumption) ?_
              case hy11 => (intro w hSw; (try dsimp only at hSw); go_simp; try (with_reducible rfl))
              (try simp only [Act.put, List.setIfInBounds_toArray, List.set_cons_zero, List.set_cons_succ])
              refine wpAnyH_done (by kernel_rfl) ?_ _
              go_wp2_with fail
              go_meet
              exact ⟨_, [.slice As00 (r0.1).length cs00, .slice As01 (r0.2).length cs01], _, rfl, rfl, by first | exact Zg | simpa using Zg, O_0, hNw, hgF, hfin, hg1, by first | exact hg2 | simpa [World.setCell] using hg2⟩
            exact AllReadyH.nil
          exact AllReadyH.nil
        exact AllReadyH.nil
      refine AllReadyH.cons rfl (fun K hK => ?_) ?_
      · go_simp
        refine hK.out _ _ (by exact ⟨cell_bel (show Below W2.heap.size W2 (W3.alloc (.cells #[.slice none 0 0, .slice none 0 0] 29)) from bel_alloc hx3 _) k_Ba0_0, cell_bel (show Below W2.heap.size W2 (W3.alloc (.cells #[.slice none 0 0, .slice none 0 0] 29)) from bel_alloc hx3 _) k_Ba0_1, cell_bel (show Below W2.heap.size W2 (W3.alloc (.cells #[.slice none 0 0, .slice none 0 0] 29)) from bel_alloc hx3 _) k_Ba1_0, cell_bel (show Below W2.heap.size W2 (W3.alloc (.cells #[.slice none 0 0, .slice none 0 0] 29)) from bel_alloc hx3 _) k_Ba1_1, cell_bel (show Below W2.heap.size W2 (W3.alloc (.cells #[.slice none 0 0, .slice none 0 0] 29)) from bel_alloc hx3 _) k_Ba1_2⟩) (fun hHeld => ?_)
        clear hK K
        (try simp only [Act.put, List.setIfInBounds_toArray, List.set_cons_zero, List.set_cons_succ])
        refine wpAnyH_ready (rs := [3]) (by kernel_rfl) (by simp) ?_
        refine AllReadyH.cons rfl (fun K hK => ?_) ?_
        · have hX4 : Below W2.heap.size W2 (W3.alloc (.cells #[.slice none 0 0, .slice none 0 0] 29)) := bel_alloc hx3 _
          go_simp
          go_at_call 34
          refine (o_toHeld ((tHeld).reach h1 (bel_trans hB2 hX4)) (by omega)).mono ?_
          rintro e W4 ⟨csy1, Fy1, rfl, o_y1, Ny1, hb_4⟩
          have hs4 : Below W3.heap.size W3 W4 := bel_trans (show Below W3.heap.size W3 (W3.alloc (.cells #[.slice none 0 0, .slice none 0 0] 29)) from (by repeat (first | (with_reducible exact Below.refl _ _) | (with_reducible assumption) | (with_reducible refine bel_alloc ?_ _) | (with_reducible refine bel_drew ?_) | (with_reducible refine below_drewN ?_ _) | (with_reducible refine bel_put ?_ (by first | exact Nat.le_refl _ | (simp; done) | (simp; omega)) _)))) hb_4
          have hx4 : Below W2.heap.size W2 W4 := bel_trans hx3 hs4
          have Zb : Box (W3.alloc (.cells #[.slice none 0 0, .slice none 0 0] 29)) (W3.heap.size) 29 #[.slice none 0 0, .slice none 0 0] := (by first | exact Box.new _ _ _ | exact Box.drew (Box.new _ _ _))
          have hgX : W3.heap.size < (W3.alloc (.cells #[.slice none 0 0, .slice none 0 0] 29)).heap.size := Zb.size
          replace Zb := Box.below Zb hb_4 Zb.size
          go_wp2_with fail
          refine hK.out _ _ (by exact ⟨cell_bel hx4 k_Ba0_0, cell_bel hx4 k_Ba0_1, cell_bel hx4 k_Ba1_0, cell_bel hx4 k_Ba1_1, cell_bel hx4 k_Ba1_2⟩) (fun hHeld => ?_)
          clear hK K
          (try simp only [Act.put, List.setIfInBounds_toArray, List.set_cons_zero, List.set_cons_succ])
          refine wpAnyH_ready (rs := [5]) (by kernel_rfl) (by simp) ?_
          refine AllReadyH.cons rfl (fun K hK => ?_) ?_
          · have hX5 : Below W2.heap.size W2 W4 := hx4
            go_simp
            go_at_call 33
            refine (s_Admit ((tPool).reach ((tPool).read (Ty.below (t := tPool) o_y0 hs4)) (by repeat (first | (with_reducible exact Below.refl _ _) | (with_reducible assumption) | (with_reducible refine bel_alloc ?_ _) | (with_reducible refine bel_drew ?_) | (with_reducible refine below_drewN ?_ _) | (with_reducible refine bel_put ?_ (by first | exact Nat.le_refl _ | (simp; done) | (simp; omega)) _)))) (by omega) ((tHeld).reach ((tHeld).read o_y1) (by repeat (first | (with_reducible exact Below.refl _ _) | (with_reducible assumption) | (with_reducible refine bel_alloc ?_ _) | (with_reducible refine bel_drew ?_) | (with_reducible refine below_drewN ?_ _) | (with_reducible refine bel_put ?_ (by first | exact Nat.le_refl _ | (simp; done) | (simp; omega)) _)))) (by omega) w2).mono ?_
            rintro e W5 ⟨css0, Fs0, rfl, o_s0, Ns, hb_5⟩
            rw [HR0.out] at o_s0
            rw [HR1.out]
            have oo_0 := o_s0
            obtain ⟨As00, cs00, Fs00, As01, cs01, Fs01, rfl, -, -, -, -, -, -, -⟩ := openOPool oo_0
            have hNw : New W2.heap.size (Fs0) := Ns.lower hX5.size
            have hs5 : Below W4.heap.size W4 W5 := bel_trans (show Below W4.heap.size W4 W4 from (by repeat (first | (with_reducible exact Below.refl _ _) | (with_reducible assumption) | (with_reducible refine bel_alloc ?_ _) | (with_reducible refine bel_drew ?_) | (with_reducible refine below_drewN ?_ _) | (with_reducible refine bel_put ?_ (by first | exact Nat.le_refl _ | (simp; done) | (simp; omega)) _)))) hb_5
            have hx5 : Below W2.heap.size W2 W5 := bel_trans hx4 hs5
            have hgX : W3.heap.size < W4.heap.size := Zb.size
            have hgF : ∀ f ∈ Fs0, ¬ f = W3.heap.size := fun f hf e => by (subst e; exact Nat.lt_irrefl _ (Nat.lt_of_lt_of_le hgX (Ns.2 _ hf)))
            replace Zb := Box.below Zb hb_5 Zb.size
            have zb0 := Zb.cell 0
            have zb1 := Zb.cell 1
            have zf0 := Zb.frozen 0
            have zf1 := Zb.frozen 1
            go_wp2_with fail
            refine hK.out _ _ (by exact ⟨cell_bel hx5 k_Ba0_0, cell_bel hx5 k_Ba0_1, cell_bel hx5 k_Ba1_0, cell_bel hx5 k_Ba1_1, cell_bel hx5 k_Ba1_2⟩) (fun hHeld => ?_)
            clear hK K
            (try simp only [Act.put, List.setIfInBounds_toArray, List.set_cons_zero, List.set_cons_succ])
            refine wpAnyH_take (i := 6) (oi := ⟨some 29, _, _, _, _, _⟩) (v := ?v12) rfl (by kernel_rfl) (by kernel_rfl) (by kernel_rfl) (fun _ _ _ h => h) (Or.inl ⟨by rfl, ?hy12⟩) (by assumption) ?_
            case hy12 => (intro w hSw; (try dsimp only at hSw); go_simp; try (with_reducible rfl))
            (try simp only [Act.put, List.setIfInBounds_toArray, List.set_cons_zero, List.set_cons_succ])
            refine wpAnyH_take (i := 7) (oi := ⟨some 36, _, _, _, _, _⟩) (v := ?v13) rfl (by kernel_rfl) (by kernel_rfl) (by kernel_rfl) (fun _ _ _ h => h) (Or.inl ⟨by rfl, ?hy13⟩) (by assumption) ?_
            case hy13 => (intro w hSw; (try dsimp only at hSw); go_simp; try (with_reducible rfl))
            (try simp only [Act.put, List.setIfInBounds_toArray, List.set_cons_zero, List.set_cons_succ])
            refine wpAnyH_take (i := 8) (oi := ⟨some 37, _, _, _, _, _⟩) (v := ?v14) rfl (by kernel_rfl) (by kernel_rfl) (by kernel_rfl) (fun _ _ _ h => h) (Or.inl ⟨by rfl, ?hy14⟩) (by assumption) ?_
            case hy14 => (intro w hSw; (try dsimp only at hSw); go_simp; try (with_reducible rfl))
            (try simp only [Act.put, List.setIfInBounds_toArray, List.set_cons_zero, List.set_cons_succ])
            refine wpAnyH_ready (rs := [10]) (by kernel_rfl) (by simp) ?_
            refine AllReadyH.cons rfl (fun K hK => ?_) ?_
            · have hg1 : W2.heap.size ≤ W3.heap.size := hx3.size
              have hfin := (bel_put (bel_put hx5 (p := ⟨W3.heap.size, 0, none⟩) hg1 (.slice As00 (r0.1).length cs00)) (p := ⟨W3.heap.size, 1, none⟩) hg1 (.slice As01 (r0.2).length cs01))
              have Zg := ((Zb.put 0 (.slice As00 (r0.1).length cs00)).put 1 (.slice As01 (r0.2).length cs01))
              have O_0 := (Ty.far3 (t := tPool) (Ty.far3 (t := tPool) o_s0 (p := ⟨W3.heap.size, 0, none⟩) (fun hx => hgF _ hx rfl) (.slice As00 (r0.1).length cs00)) (p := ⟨W3.heap.size, 1, none⟩) (fun hx => hgF _ hx rfl) (.slice As01 (r0.2).length cs01))
              have hg2 := Zg.size
              go_simp
              refine hK.out _ _ (by exact ⟨cell_bel hfin k_Ba0_0, cell_bel hfin k_Ba0_1, cell_bel hfin k_Ba1_0, cell_bel hfin k_Ba1_1, cell_bel hfin k_Ba1_2⟩) (fun hHeld => ?_)
              clear hK K
              (try simp only [Act.put, List.setIfInBounds_toArray, List.set_cons_zero, List.set_cons_succ])
              refine wpAnyH_take (i := 11) (oi := ⟨some 9, _, _, _, _, _⟩) (v := ?v15) rfl (by kernel_rfl) (by kernel_rfl) (by kernel_rfl) (fun _ _ _ h => h) (Or.inl ⟨by rfl, ?hy15⟩) (by assumption) ?_
              case hy15 => (intro w hSw; (try dsimp only at hSw); go_simp; try (with_reducible rfl))
              (try simp only [Act.put, List.setIfInBounds_toArray, List.set_cons_zero, List.set_cons_succ])
              refine wpAnyH_done (by kernel_rfl) ?_ _
              go_wp2_with fail
              go_meet
              exact ⟨_, [.slice As00 (r0.1).length cs00, .slice As01 (r0.2).length cs01], _, rfl, rfl, by first | exact Zg | simpa using Zg, O_0, hNw, hgF, hfin, hg1, by first | exact hg2 | simpa [World.setCell] using hg2⟩
            exact AllReadyH.nil
          exact AllReadyH.nil
        exact AllReadyH.nil
      exact AllReadyH.nil
    refine AllReadyH.cons rfl (fun K hK => ?_) ?_
    · go_simp
      refine hK.out _ _ (by exact ⟨cell_bel (show Below W2.heap.size W2 (W2.alloc (.cells #[.slice none 0 0, .slice none 0 0] 29)).drew from (by repeat (first | (with_reducible exact Below.refl _ _) | (with_reducible assumption) | (with_reducible refine bel_alloc ?_ _) | (with_reducible refine bel_drew ?_) | (with_reducible refine below_drewN ?_ _) | (with_reducible refine bel_put ?_ (by first | exact Nat.le_refl _ | (simp; done) | (simp; omega)) _)))) k_Ba0_0, cell_bel (show Below W2.heap.size W2 (W2.alloc (.cells #[.slice none 0 0, .slice none 0 0] 29)).drew from (by repeat (first | (with_reducible exact Below.refl _ _) | (with_reducible assumption) | (with_reducible refine bel_alloc ?_ _) | (with_reducible refine bel_drew ?_) | (with_reducible refine below_drewN ?_ _) | (with_reducible refine bel_put ?_ (by first | exact Nat.le_refl _ | (simp; done) | (simp; omega)) _)))) k_Ba0_1, cell_bel (show Below W2.heap.size W2 (W2.alloc (.cells #[.slice none 0 0, .slice none 0 0] 29)).drew from (by repeat (first | (with_reducible exact Below.refl _ _) | (with_reducible assumption) | (with_reducible refine bel_alloc ?_ _) | (with_reducible refine bel_drew ?_) | (with_reducible refine below_drewN ?_ _) | (with_reducible refine bel_put ?_ (by first | exact Nat.le_refl _ | (simp; done) | (simp; omega)) _)))) k_Ba1_0, cell_bel (show Below W2.heap.size W2 (W2.alloc (.cells #[.slice none 0 0, .slice none 0 0] 29)).drew from (by repeat (first | (with_reducible exact Below.refl _ _) | (with_reducible assumption) | (with_reducible refine bel_alloc ?_ _) | (with_reducible refine bel_drew ?_) | (with_reducible refine below_drewN ?_ _) | (with_reducible refine bel_put ?_ (by first | exact Nat.le_refl _ | (simp; done) | (simp; omega)) _)))) k_Ba1_1, cell_bel (show Below W2.heap.size W2 (W2.alloc (.cells #[.slice none 0 0, .slice none 0 0] 29)).drew from (by repeat (first | (with_reducible exact Below.refl _ _) | (with_reducible assumption) | (with_reducible refine bel_alloc ?_ _) | (with_reducible refine bel_drew ?_) | (with_reducible refine below_drewN ?_ _) | (with_reducible refine bel_put ?_ (by first | exact Nat.le_refl _ | (simp; done) | (simp; omega)) _)))) k_Ba1_2⟩) (fun hHeld => ?_)
      clear hK K
      (try simp only [Act.put, List.setIfInBounds_toArray, List.set_cons_zero, List.set_cons_succ])
      refine wpAnyH_ready (rs := [1]) (by kernel_rfl) (by simp) ?_
      refine AllReadyH.cons rfl (fun K hK => ?_) ?_
      · have hX3 : Below W2.heap.size W2 (W2.alloc (.cells #[.slice none 0 0, .slice none 0 0] 29)).drew := (by repeat (first | (with_reducible exact Below.refl _ _) | (with_reducible assumption) | (with_reducible refine bel_alloc ?_ _) | (with_reducible refine bel_drew ?_) | (with_reducible refine below_drewN ?_ _) | (with_reducible refine bel_put ?_ (by first | exact Nat.le_refl _ | (simp; done) | (simp; omega)) _)))
        go_simp
        go_at_call 17
        refine (o_toPool ((tPool).reach h0 (bel_trans hB2 hX3)) (by omega)).mono ?_
        rintro e W3 ⟨csy0, Fy0, rfl, o_y0, Ny0, hb_3⟩
        have hs3 : Below W2.heap.size W2 W3 := bel_trans (show Below W2.heap.size W2 (W2.alloc (.cells #[.slice none 0 0, .slice none 0 0] 29)).drew from (by repeat (first | (with_reducible exact Below.refl _ _) | (with_reducible assumption) | (with_reducible refine bel_alloc ?_ _) | (with_reducible refine bel_drew ?_) | (with_reducible refine below_drewN ?_ _) | (with_reducible refine bel_put ?_ (by first | exact Nat.le_refl _ | (simp; done) | (simp; omega)) _)))) hb_3
        have hx3 : Below W2.heap.size W2 W3 := hs3
        have Zb : Box (W2.alloc (.cells #[.slice none 0 0, .slice none 0 0] 29)).drew (W2.heap.size) 29 #[.slice none 0 0, .slice none 0 0] := (by first | exact Box.new _ _ _ | exact Box.drew (Box.new _ _ _))
        have hgX : W2.heap.size < (W2.alloc (.cells #[.slice none 0 0, .slice none 0 0] 29)).drew.heap.size := Zb.size
        replace Zb := Box.below Zb hb_3 Zb.size
        go_wp2_with fail
        refine hK.out _ _ (by exact ⟨cell_bel hx3 k_Ba0_0, cell_bel hx3 k_Ba0_1, cell_bel hx3 k_Ba1_0, cell_bel hx3 k_Ba1_1, cell_bel hx3 k_Ba1_2⟩) (fun hHeld => ?_)
        clear hK K
        (try simp only [Act.put, List.setIfInBounds_toArray, List.set_cons_zero, List.set_cons_succ])
        refine wpAnyH_ready (rs := [3]) (by kernel_rfl) (by simp) ?_
        refine AllReadyH.cons rfl (fun K hK => ?_) ?_
        · have hX4 : Below W2.heap.size W2 W3 := hx3
          go_simp
          go_at_call 34
          refine (o_toHeld ((tHeld).reach h1 (bel_trans hB2 hX4)) (by omega)).mono ?_
          rintro e W4 ⟨csy1, Fy1, rfl, o_y1, Ny1, hb_4⟩
          have hs4 : Below W3.heap.size W3 W4 := bel_trans (show Below W3.heap.size W3 W3 from (by repeat (first | (with_reducible exact Below.refl _ _) | (with_reducible assumption) | (with_reducible refine bel_alloc ?_ _) | (with_reducible refine bel_drew ?_) | (with_reducible refine below_drewN ?_ _) | (with_reducible refine bel_put ?_ (by first | exact Nat.le_refl _ | (simp; done) | (simp; omega)) _)))) hb_4
          have hx4 : Below W2.heap.size W2 W4 := bel_trans hx3 hs4
          have hgX : W2.heap.size < W3.heap.size := Zb.size
          replace Zb := Box.below Zb hb_4 Zb.size
          go_wp2_with fail
          refine hK.out _ _ (by exact ⟨cell_bel hx4 k_Ba0_0, cell_bel hx4 k_Ba0_1, cell_bel hx4 k_Ba1_0, cell_bel hx4 k_Ba1_1, cell_bel hx4 k_Ba1_2⟩) (fun hHeld => ?_)
          clear hK K
          (try simp only [Act.put, List.setIfInBounds_toArray, List.set_cons_zero, List.set_cons_succ])
          refine wpAnyH_ready (rs := [5]) (by kernel_rfl) (by simp) ?_
          refine AllReadyH.cons rfl (fun K hK => ?_) ?_
          · have hX5 : Below W2.heap.size W2 W4 := hx4
            go_simp
            go_at_call 33
            refine (s_Admit ((tPool).reach ((tPool).read (Ty.below (t := tPool) o_y0 hs4)) (by repeat (first | (with_reducible exact Below.refl _ _) | (with_reducible assumption) | (with_reducible refine bel_alloc ?_ _) | (with_reducible refine bel_drew ?_) | (with_reducible refine below_drewN ?_ _) | (with_reducible refine bel_put ?_ (by first | exact Nat.le_refl _ | (simp; done) | (simp; omega)) _)))) (by omega) ((tHeld).reach ((tHeld).read o_y1) (by repeat (first | (with_reducible exact Below.refl _ _) | (with_reducible assumption) | (with_reducible refine bel_alloc ?_ _) | (with_reducible refine bel_drew ?_) | (with_reducible refine below_drewN ?_ _) | (with_reducible refine bel_put ?_ (by first | exact Nat.le_refl _ | (simp; done) | (simp; omega)) _)))) (by omega) w2).mono ?_
            rintro e W5 ⟨css0, Fs0, rfl, o_s0, Ns, hb_5⟩
            rw [HR0.out] at o_s0
            rw [HR1.out]
            have oo_0 := o_s0
            obtain ⟨As00, cs00, Fs00, As01, cs01, Fs01, rfl, -, -, -, -, -, -, -⟩ := openOPool oo_0
            have hNw : New W2.heap.size (Fs0) := Ns.lower hX5.size
            have hs5 : Below W4.heap.size W4 W5 := bel_trans (show Below W4.heap.size W4 W4 from (by repeat (first | (with_reducible exact Below.refl _ _) | (with_reducible assumption) | (with_reducible refine bel_alloc ?_ _) | (with_reducible refine bel_drew ?_) | (with_reducible refine below_drewN ?_ _) | (with_reducible refine bel_put ?_ (by first | exact Nat.le_refl _ | (simp; done) | (simp; omega)) _)))) hb_5
            have hx5 : Below W2.heap.size W2 W5 := bel_trans hx4 hs5
            have hgX : W2.heap.size < W4.heap.size := Zb.size
            have hgF : ∀ f ∈ Fs0, ¬ f = W2.heap.size := fun f hf e => by (subst e; exact Nat.lt_irrefl _ (Nat.lt_of_lt_of_le hgX (Ns.2 _ hf)))
            replace Zb := Box.below Zb hb_5 Zb.size
            have zb0 := Zb.cell 0
            have zb1 := Zb.cell 1
            have zf0 := Zb.frozen 0
            have zf1 := Zb.frozen 1
            go_wp2_with fail
            refine hK.out _ _ (by exact ⟨cell_bel hx5 k_Ba0_0, cell_bel hx5 k_Ba0_1, cell_bel hx5 k_Ba1_0, cell_bel hx5 k_Ba1_1, cell_bel hx5 k_Ba1_2⟩) (fun hHeld => ?_)
            clear hK K
            (try simp only [Act.put, List.setIfInBounds_toArray, List.set_cons_zero, List.set_cons_succ])
            refine wpAnyH_take (i := 6) (oi := ⟨some 29, _, _, _, _, _⟩) (v := ?v16) rfl (by kernel_rfl) (by kernel_rfl) (by kernel_rfl) (fun _ _ _ h => h) (Or.inl ⟨by rfl, ?hy16⟩) (by assumption) ?_
            case hy16 => (intro w hSw; (try dsimp only at hSw); go_simp; try (with_reducible rfl))
            (try simp only [Act.put, List.setIfInBounds_toArray, List.set_cons_zero, List.set_cons_succ])
            refine wpAnyH_take (i := 7) (oi := ⟨some 36, _, _, _, _, _⟩) (v := ?v17) rfl (by kernel_rfl) (by kernel_rfl) (by kernel_rfl) (fun _ _ _ h => h) (Or.inl ⟨by rfl, ?hy17⟩) (by assumption) ?_
            case hy17 => (intro w hSw; (try dsimp only at hSw); go_simp; try (with_reducible rfl))
            (try simp only [Act.put, List.setIfInBounds_toArray, List.set_cons_zero, List.set_cons_succ])
            refine wpAnyH_take (i := 8) (oi := ⟨some 37, _, _, _, _, _⟩) (v := ?v18) rfl (by kernel_rfl) (by kernel_rfl) (by kernel_rfl) (fun _ _ _ h => h) (Or.inl ⟨by rfl, ?hy18⟩) (by assumption) ?_
            case hy18 => (intro w hSw; (try dsimp only at hSw); go_simp; try (with_reducible rfl))
            (try simp only [Act.put, List.setIfInBounds_toArray, List.set_cons_zero, List.set_cons_succ])
            refine wpAnyH_ready (rs := [10]) (by kernel_rfl) (by simp) ?_
            refine AllReadyH.cons rfl (fun K hK => ?_) ?_
            · have hg1 : W2.heap.size ≤ W2.heap.size := Nat.le_refl _
              have hfin := (bel_put (bel_put hx5 (p := ⟨W2.heap.size, 0, none⟩) hg1 (.slice As00 (r0.1).length cs00)) (p := ⟨W2.heap.size, 1, none⟩) hg1 (.slice As01 (r0.2).length cs01))
              have Zg := ((Zb.put 0 (.slice As00 (r0.1).length cs00)).put 1 (.slice As01 (r0.2).length cs01))
              have O_0 := (Ty.far3 (t := tPool) (Ty.far3 (t := tPool) o_s0 (p := ⟨W2.heap.size, 0, none⟩) (fun hx => hgF _ hx rfl) (.slice As00 (r0.1).length cs00)) (p := ⟨W2.heap.size, 1, none⟩) (fun hx => hgF _ hx rfl) (.slice As01 (r0.2).length cs01))
              have hg2 := Zg.size
              go_simp
              refine hK.out _ _ (by exact ⟨cell_bel hfin k_Ba0_0, cell_bel hfin k_Ba0_1, cell_bel hfin k_Ba1_0, cell_bel hfin k_Ba1_1, cell_bel hfin k_Ba1_2⟩) (fun hHeld => ?_)
              clear hK K
              (try simp only [Act.put, List.setIfInBounds_toArray, List.set_cons_zero, List.set_cons_succ])
              refine wpAnyH_take (i := 11) (oi := ⟨some 9, _, _, _, _, _⟩) (v := ?v19) rfl (by kernel_rfl) (by kernel_rfl) (by kernel_rfl) (fun _ _ _ h => h) (Or.inl ⟨by rfl, ?hy19⟩) (by assumption) ?_
              case hy19 => (intro w hSw; (try dsimp only at hSw); go_simp; try (with_reducible rfl))
              (try simp only [Act.put, List.setIfInBounds_toArray, List.set_cons_zero, List.set_cons_succ])
              refine wpAnyH_done (by kernel_rfl) ?_ _
              go_wp2_with fail
              go_meet
              exact ⟨_, [.slice As00 (r0.1).length cs00, .slice As01 (r0.2).length cs01], _, rfl, rfl, by first | exact Zg | simpa using Zg, O_0, hNw, hgF, hfin, hg1, by first | exact hg2 | simpa [World.setCell] using hg2⟩
            exact AllReadyH.nil
          exact AllReadyH.nil
        exact AllReadyH.nil
      exact AllReadyH.nil
    exact AllReadyH.nil
  case rest =>
  obtain ⟨gs, css0, Fs0, rfl, rfl, Zg, o_s0, Ns, hgF, hsx, hg1, hg2⟩ := hcut
  generalize wc = W5 at *
  clear k_Ba0_0 k_Ba0_1
  clear k_Ba1_0 k_Ba1_1 k_Ba1_2
  have z5 : W2.heap.size + 0 ≤ W5.heap.size := hsx.size
  have hB5 : Below w.heap.size w W5 := bel_trans hB2 hsx
  replace Ba0 := Ba0.below hsx Ba0.size
  replace Ba1 := Ba1.below hsx Ba1.size
  obtain ⟨As00, cs00, Fs00, As01, cs01, Fs01, rfl, -, -, -, -, -, -, -⟩ := openOPool o_s0
  have Bs0 : Box W5 gs 29 #[.slice As00 (r0.1).length cs00, .slice As01 (r0.2).length cs01] := by simpa using Zg
  clear Zg
  have k_Ba0_0 : W5.cell? ⟨w.heap.size, 0, none⟩ = some (.slice Aa00 na00 ca00) := Ba0.cell 0
  have k_Ba0_1 : W5.cell? ⟨w.heap.size, 1, none⟩ = some (.slice Aa01 na01 ca01) := Ba0.cell 1
  have k_Ba1_0 : W5.cell? ⟨w.heap.size + 1, 0, none⟩ = some (.int .i64 (p1.1)) := Ba1.cell 0
  have k_Ba1_1 : W5.cell? ⟨w.heap.size + 1, 1, none⟩ = some (.int .i64 (p1.2.1)) := Ba1.cell 1
  have k_Ba1_2 : W5.cell? ⟨w.heap.size + 1, 2, none⟩ = some (.slice Aa12 na12 ca12) := Ba1.cell 2
  have k_Bs0_0 : W5.cell? ⟨gs, 0, none⟩ = some (.slice As00 (r0.1).length cs00) := Bs0.cell 0
  have k_Bs0_1 : W5.cell? ⟨gs, 1, none⟩ = some (.slice As01 (r0.2).length cs01) := Bs0.cell 1
  have r_s0 := (tPool).read o_s0
  clear Ns hgF o_s0
  clear hsx
  go_wp2_with fail
  refine (o_toPool ((tPool).reach ((tPool).reach h0 hB5) ?hB) (by omega)).mono ?_
  all_goals try (case hB => exact (by repeat (first | (with_reducible exact Below.refl _ _) | (with_reducible assumption) | (with_reducible refine bel_alloc ?_ _) | (with_reducible refine bel_drew ?_) | (with_reducible refine below_drewN ?_ _) | (with_reducible refine bel_put ?_ (by first | exact Nat.le_refl _ | (simp; done) | (simp; omega)) _))))
  rintro e W6 ⟨csx0, Fx0, rfl, o_x0, Nx0, hb_⟩
  clear k_Ba0_0 k_Ba0_1
  clear k_Ba1_0 k_Ba1_1 k_Ba1_2
  clear k_Bs0_0 k_Bs0_1
  have Ix0 : ∀ f ∈ Fx0, W5.heap.size + 0 ≤ f ∧ f < W6.heap.size := fun f hf => ⟨Nat.le_trans (by first | (simp; done) | (simp; omega)) (Nx0.2 f hf), (tPool).lt o_x0 f hf⟩
  have Dx0 := Nx0.1
  clear Nx0
  obtain ⟨Ax00, cx00, Fx00, Ax01, cx01, Fx01, rfl, -, -, -, -, -, -, -⟩ := openOPool o_x0
  have hs6 : Below W5.heap.size W5 W6 := bel_trans (by repeat (first | (with_reducible exact Below.refl _ _) | (with_reducible assumption) | (with_reducible refine bel_alloc ?_ _) | (with_reducible refine bel_drew ?_) | (with_reducible refine below_drewN ?_ _) | (with_reducible refine bel_put ?_ (by first | exact Nat.le_refl _ | (simp; done) | (simp; omega)) _))) hb_
  have z6 : W5.heap.size + 0 ≤ W6.heap.size := by have := hb_.size; simpa using this
  have hB6 : Below w.heap.size w W6 := bel_trans hB5 hs6
  replace Ba0 := Ba0.below hs6 Ba0.size
  replace Ba1 := Ba1.below hs6 Ba1.size
  replace Bs0 := Bs0.below hs6 Bs0.size
  replace r_s0 := (tPool).keep r_s0 (fun b hb => hs6.block b (Nat.lt_of_lt_of_le hb (by omega)))
  have k_Ba0_0 : W6.cell? ⟨w.heap.size, 0, none⟩ = some (.slice Aa00 na00 ca00) := Ba0.cell 0
  have k_Ba0_1 : W6.cell? ⟨w.heap.size, 1, none⟩ = some (.slice Aa01 na01 ca01) := Ba0.cell 1
  have k_Ba1_0 : W6.cell? ⟨w.heap.size + 1, 0, none⟩ = some (.int .i64 (p1.1)) := Ba1.cell 0
  have k_Ba1_1 : W6.cell? ⟨w.heap.size + 1, 1, none⟩ = some (.int .i64 (p1.2.1)) := Ba1.cell 1
  have k_Ba1_2 : W6.cell? ⟨w.heap.size + 1, 2, none⟩ = some (.slice Aa12 na12 ca12) := Ba1.cell 2
  have k_Bs0_0 : W6.cell? ⟨gs, 0, none⟩ = some (.slice As00 (r0.1).length cs00) := Bs0.cell 0
  have k_Bs0_1 : W6.cell? ⟨gs, 1, none⟩ = some (.slice As01 (r0.2).length cs01) := Bs0.cell 1
  clear hb_
  have d_Ba0_0 : (W6.alloc (.cells #[.slice Ax00 (p0.1).length cx00, .slice Ax01 (p0.2).length cx01] 29)).cell? ⟨w.heap.size, 0, none⟩ = some (.slice Aa00 na00 ca00) := (Ba0.alloc _).cell 0
  have d_Ba0_1 : (W6.alloc (.cells #[.slice Ax00 (p0.1).length cx00, .slice Ax01 (p0.2).length cx01] 29)).cell? ⟨w.heap.size, 1, none⟩ = some (.slice Aa01 na01 ca01) := (Ba0.alloc _).cell 1
  have d_Ba1_0 : (W6.alloc (.cells #[.slice Ax00 (p0.1).length cx00, .slice Ax01 (p0.2).length cx01] 29)).cell? ⟨w.heap.size + 1, 0, none⟩ = some (.int .i64 (p1.1)) := (Ba1.alloc _).cell 0
  have d_Ba1_1 : (W6.alloc (.cells #[.slice Ax00 (p0.1).length cx00, .slice Ax01 (p0.2).length cx01] 29)).cell? ⟨w.heap.size + 1, 1, none⟩ = some (.int .i64 (p1.2.1)) := (Ba1.alloc _).cell 1
  have d_Ba1_2 : (W6.alloc (.cells #[.slice Ax00 (p0.1).length cx00, .slice Ax01 (p0.2).length cx01] 29)).cell? ⟨w.heap.size + 1, 2, none⟩ = some (.slice Aa12 na12 ca12) := (Ba1.alloc _).cell 2
  have d_Bs0_0 : (W6.alloc (.cells #[.slice Ax00 (p0.1).length cx00, .slice Ax01 (p0.2).length cx01] 29)).cell? ⟨gs, 0, none⟩ = some (.slice As00 (r0.1).length cs00) := (Bs0.alloc _).cell 0
  have d_Bs0_1 : (W6.alloc (.cells #[.slice Ax00 (p0.1).length cx00, .slice Ax01 (p0.2).length cx01] 29)).cell? ⟨gs, 1, none⟩ = some (.slice As01 (r0.2).length cs01) := (Bs0.alloc _).cell 1
  go_wp2_with fail
  refine (o_toHeld ((tHeld).reach ((tHeld).reach h1 hB6) ?hB) (by omega)).mono ?_
  all_goals try (case hB => exact (by repeat (first | (with_reducible exact Below.refl _ _) | (with_reducible assumption) | (with_reducible refine bel_alloc ?_ _) | (with_reducible refine bel_drew ?_) | (with_reducible refine below_drewN ?_ _) | (with_reducible refine bel_put ?_ (by first | exact Nat.le_refl _ | (simp; done) | (simp; omega)) _))))
  rintro e W7 ⟨csx1, Fx1, rfl, o_x1, Nx1, hb_⟩
  clear d_Ba0_0 d_Ba0_1 d_Ba1_0 d_Ba1_1 d_Ba1_2 d_Bs0_0 d_Bs0_1
  clear k_Ba0_0 k_Ba0_1
  clear k_Ba1_0 k_Ba1_1 k_Ba1_2
  clear k_Bs0_0 k_Bs0_1
  have Ix1 : ∀ f ∈ Fx1, W6.heap.size + 1 ≤ f ∧ f < W7.heap.size := fun f hf => ⟨Nat.le_trans (by first | (simp; done) | (simp; omega)) (Nx1.2 f hf), (tHeld).lt o_x1 f hf⟩
  have Dx1 := Nx1.1
  clear Nx1
  obtain ⟨Ax12, cx12, Fx12, rfl, -, -, -, -, -, -⟩ := openOHeld o_x1
  have hs7 : Below W6.heap.size W6 W7 := bel_trans (by repeat (first | (with_reducible exact Below.refl _ _) | (with_reducible assumption) | (with_reducible refine bel_alloc ?_ _) | (with_reducible refine bel_drew ?_) | (with_reducible refine below_drewN ?_ _) | (with_reducible refine bel_put ?_ (by first | exact Nat.le_refl _ | (simp; done) | (simp; omega)) _))) hb_
  have z7 : W6.heap.size + 1 ≤ W7.heap.size := by have := hb_.size; simpa using this
  have hB7 : Below w.heap.size w W7 := bel_trans hB6 hs7
  replace Ba0 := Ba0.below hs7 Ba0.size
  replace Ba1 := Ba1.below hs7 Ba1.size
  replace Bs0 := Bs0.below hs7 Bs0.size
  have Bx0 : Box W7 (W6.heap.size) 29 #[.slice Ax00 (p0.1).length cx00, .slice Ax01 (p0.2).length cx01] := Box.below (Box.new _ _ _) hb_ (by first | (simp; done) | (simp; omega))
  replace o_x0 := Ty.below (t := tPool) o_x0 hs7
  replace r_s0 := (tPool).keep r_s0 (fun b hb => hs7.block b (Nat.lt_of_lt_of_le hb (by omega)))
  have k_Ba0_0 : W7.cell? ⟨w.heap.size, 0, none⟩ = some (.slice Aa00 na00 ca00) := Ba0.cell 0
  have k_Ba0_1 : W7.cell? ⟨w.heap.size, 1, none⟩ = some (.slice Aa01 na01 ca01) := Ba0.cell 1
  have k_Ba1_0 : W7.cell? ⟨w.heap.size + 1, 0, none⟩ = some (.int .i64 (p1.1)) := Ba1.cell 0
  have k_Ba1_1 : W7.cell? ⟨w.heap.size + 1, 1, none⟩ = some (.int .i64 (p1.2.1)) := Ba1.cell 1
  have k_Ba1_2 : W7.cell? ⟨w.heap.size + 1, 2, none⟩ = some (.slice Aa12 na12 ca12) := Ba1.cell 2
  have k_Bs0_0 : W7.cell? ⟨gs, 0, none⟩ = some (.slice As00 (r0.1).length cs00) := Bs0.cell 0
  have k_Bs0_1 : W7.cell? ⟨gs, 1, none⟩ = some (.slice As01 (r0.2).length cs01) := Bs0.cell 1
  have k_Bx0_0 : W7.cell? ⟨W6.heap.size, 0, none⟩ = some (.slice Ax00 (p0.1).length cx00) := Bx0.cell 0
  have k_Bx0_1 : W7.cell? ⟨W6.heap.size, 1, none⟩ = some (.slice Ax01 (p0.2).length cx01) := Bx0.cell 1
  clear hb_
  have d_Ba0_0 : (W7.alloc (.cells #[.int .i64 (p1.1), .int .i64 (p1.2.1), .slice Ax12 (p1.2.2).length cx12] 54)).cell? ⟨w.heap.size, 0, none⟩ = some (.slice Aa00 na00 ca00) := (Ba0.alloc _).cell 0
  have d_Ba0_1 : (W7.alloc (.cells #[.int .i64 (p1.1), .int .i64 (p1.2.1), .slice Ax12 (p1.2.2).length cx12] 54)).cell? ⟨w.heap.size, 1, none⟩ = some (.slice Aa01 na01 ca01) := (Ba0.alloc _).cell 1
  have d_Ba1_0 : (W7.alloc (.cells #[.int .i64 (p1.1), .int .i64 (p1.2.1), .slice Ax12 (p1.2.2).length cx12] 54)).cell? ⟨w.heap.size + 1, 0, none⟩ = some (.int .i64 (p1.1)) := (Ba1.alloc _).cell 0
  have d_Ba1_1 : (W7.alloc (.cells #[.int .i64 (p1.1), .int .i64 (p1.2.1), .slice Ax12 (p1.2.2).length cx12] 54)).cell? ⟨w.heap.size + 1, 1, none⟩ = some (.int .i64 (p1.2.1)) := (Ba1.alloc _).cell 1
  have d_Ba1_2 : (W7.alloc (.cells #[.int .i64 (p1.1), .int .i64 (p1.2.1), .slice Ax12 (p1.2.2).length cx12] 54)).cell? ⟨w.heap.size + 1, 2, none⟩ = some (.slice Aa12 na12 ca12) := (Ba1.alloc _).cell 2
  have d_Bs0_0 : (W7.alloc (.cells #[.int .i64 (p1.1), .int .i64 (p1.2.1), .slice Ax12 (p1.2.2).length cx12] 54)).cell? ⟨gs, 0, none⟩ = some (.slice As00 (r0.1).length cs00) := (Bs0.alloc _).cell 0
  have d_Bs0_1 : (W7.alloc (.cells #[.int .i64 (p1.1), .int .i64 (p1.2.1), .slice Ax12 (p1.2.2).length cx12] 54)).cell? ⟨gs, 1, none⟩ = some (.slice As01 (r0.2).length cs01) := (Bs0.alloc _).cell 1
  have d_Bx0_0 : (W7.alloc (.cells #[.int .i64 (p1.1), .int .i64 (p1.2.1), .slice Ax12 (p1.2.2).length cx12] 54)).cell? ⟨W6.heap.size, 0, none⟩ = some (.slice Ax00 (p0.1).length cx00) := (Bx0.alloc _).cell 0
  have d_Bx0_1 : (W7.alloc (.cells #[.int .i64 (p1.1), .int .i64 (p1.2.1), .slice Ax12 (p1.2.2).length cx12] 54)).cell? ⟨W6.heap.size, 1, none⟩ = some (.slice Ax01 (p0.2).length cx01) := (Bx0.alloc _).cell 1
  go_wp2_with fail
  refine (i_Admit ((tPool).reach ((tPool).read o_x0) ?hB) (by omega) ((tHeld).reach ((tHeld).read o_x1) ?hB) (by omega) w2).mono ?_
  all_goals try (case hB => exact (by repeat (first | (with_reducible exact Below.refl _ _) | (with_reducible assumption) | (with_reducible refine bel_alloc ?_ _) | (with_reducible refine bel_drew ?_) | (with_reducible refine below_drewN ?_ _) | (with_reducible refine bel_put ?_ (by first | exact Nat.le_refl _ | (simp; done) | (simp; omega)) _))))
  rintro e W8 ⟨csg0, Fg0, rfl, o_g0, Ng, hb_⟩
  clear d_Ba0_0 d_Ba0_1 d_Ba1_0 d_Ba1_1 d_Ba1_2 d_Bs0_0 d_Bs0_1 d_Bx0_0 d_Bx0_1
  clear k_Ba0_0 k_Ba0_1
  clear k_Ba1_0 k_Ba1_1 k_Ba1_2
  clear k_Bs0_0 k_Bs0_1
  clear k_Bx0_0 k_Bx0_1
  rw [HR0.out] at o_g0
  rw [HR1.out]
  obtain ⟨Ag00, cg00, Fg00, Ag01, cg01, Fg01, rfl, -, -, -, -, -, -, -⟩ := openOPool o_g0
  have Ig0 : ∀ f ∈ Fg0, W7.heap.size + 1 ≤ f ∧ f < W8.heap.size := fun f hf => ⟨Nat.le_trans (by first | (simp; done) | (simp; omega)) (Ng.2 f (by simp [hf])), (tPool).lt o_g0 f hf⟩
  have Dg0 := Ng.1
  clear Ng
  have hs8 : Below W7.heap.size W7 W8 := bel_trans (by repeat (first | (with_reducible exact Below.refl _ _) | (with_reducible assumption) | (with_reducible refine bel_alloc ?_ _) | (with_reducible refine bel_drew ?_) | (with_reducible refine below_drewN ?_ _) | (with_reducible refine bel_put ?_ (by first | exact Nat.le_refl _ | (simp; done) | (simp; omega)) _))) hb_
  have z8 : W7.heap.size + 1 ≤ W8.heap.size := by have := hb_.size; simpa using this
  have hB8 : Below w.heap.size w W8 := bel_trans hB7 hs8
  replace Ba0 := Ba0.below hs8 Ba0.size
  replace Ba1 := Ba1.below hs8 Ba1.size
  replace Bs0 := Bs0.below hs8 Bs0.size
  replace Bx0 := Bx0.below hs8 Bx0.size
  have Bx1 : Box W8 (W7.heap.size) 54 #[.int .i64 (p1.1), .int .i64 (p1.2.1), .slice Ax12 (p1.2.2).length cx12] := Box.below (Box.new _ _ _) hb_ (by first | (simp; done) | (simp; omega))
  replace o_x0 := Ty.below (t := tPool) o_x0 hs8
  replace o_x1 := Ty.below (t := tHeld) o_x1 hs8
  replace r_s0 := (tPool).keep r_s0 (fun b hb => hs8.block b (Nat.lt_of_lt_of_le hb (by omega)))
  have k_Ba0_0 : W8.cell? ⟨w.heap.size, 0, none⟩ = some (.slice Aa00 na00 ca00) := Ba0.cell 0
  have k_Ba0_1 : W8.cell? ⟨w.heap.size, 1, none⟩ = some (.slice Aa01 na01 ca01) := Ba0.cell 1
  have k_Ba1_0 : W8.cell? ⟨w.heap.size + 1, 0, none⟩ = some (.int .i64 (p1.1)) := Ba1.cell 0
  have k_Ba1_1 : W8.cell? ⟨w.heap.size + 1, 1, none⟩ = some (.int .i64 (p1.2.1)) := Ba1.cell 1
  have k_Ba1_2 : W8.cell? ⟨w.heap.size + 1, 2, none⟩ = some (.slice Aa12 na12 ca12) := Ba1.cell 2
  have k_Bs0_0 : W8.cell? ⟨gs, 0, none⟩ = some (.slice As00 (r0.1).length cs00) := Bs0.cell 0
  have k_Bs0_1 : W8.cell? ⟨gs, 1, none⟩ = some (.slice As01 (r0.2).length cs01) := Bs0.cell 1
  have k_Bx0_0 : W8.cell? ⟨W6.heap.size, 0, none⟩ = some (.slice Ax00 (p0.1).length cx00) := Bx0.cell 0
  have k_Bx0_1 : W8.cell? ⟨W6.heap.size, 1, none⟩ = some (.slice Ax01 (p0.2).length cx01) := Bx0.cell 1
  have k_Bx1_0 : W8.cell? ⟨W7.heap.size, 0, none⟩ = some (.int .i64 (p1.1)) := Bx1.cell 0
  have k_Bx1_1 : W8.cell? ⟨W7.heap.size, 1, none⟩ = some (.int .i64 (p1.2.1)) := Bx1.cell 1
  have k_Bx1_2 : W8.cell? ⟨W7.heap.size, 2, none⟩ = some (.slice Ax12 (p1.2.2).length cx12) := Bx1.cell 2
  clear hb_
  have d_Ba0_0 : (W8.alloc (.cells #[.slice Ag00 (r0.1).length cg00, .slice Ag01 (r0.2).length cg01] 29)).cell? ⟨w.heap.size, 0, none⟩ = some (.slice Aa00 na00 ca00) := (Ba0.alloc _).cell 0
  have d_Ba0_1 : (W8.alloc (.cells #[.slice Ag00 (r0.1).length cg00, .slice Ag01 (r0.2).length cg01] 29)).cell? ⟨w.heap.size, 1, none⟩ = some (.slice Aa01 na01 ca01) := (Ba0.alloc _).cell 1
  have d_Ba1_0 : (W8.alloc (.cells #[.slice Ag00 (r0.1).length cg00, .slice Ag01 (r0.2).length cg01] 29)).cell? ⟨w.heap.size + 1, 0, none⟩ = some (.int .i64 (p1.1)) := (Ba1.alloc _).cell 0
  have d_Ba1_1 : (W8.alloc (.cells #[.slice Ag00 (r0.1).length cg00, .slice Ag01 (r0.2).length cg01] 29)).cell? ⟨w.heap.size + 1, 1, none⟩ = some (.int .i64 (p1.2.1)) := (Ba1.alloc _).cell 1
  have d_Ba1_2 : (W8.alloc (.cells #[.slice Ag00 (r0.1).length cg00, .slice Ag01 (r0.2).length cg01] 29)).cell? ⟨w.heap.size + 1, 2, none⟩ = some (.slice Aa12 na12 ca12) := (Ba1.alloc _).cell 2
  have d_Bs0_0 : (W8.alloc (.cells #[.slice Ag00 (r0.1).length cg00, .slice Ag01 (r0.2).length cg01] 29)).cell? ⟨gs, 0, none⟩ = some (.slice As00 (r0.1).length cs00) := (Bs0.alloc _).cell 0
  have d_Bs0_1 : (W8.alloc (.cells #[.slice Ag00 (r0.1).length cg00, .slice Ag01 (r0.2).length cg01] 29)).cell? ⟨gs, 1, none⟩ = some (.slice As01 (r0.2).length cs01) := (Bs0.alloc _).cell 1
  have d_Bx0_0 : (W8.alloc (.cells #[.slice Ag00 (r0.1).length cg00, .slice Ag01 (r0.2).length cg01] 29)).cell? ⟨W6.heap.size, 0, none⟩ = some (.slice Ax00 (p0.1).length cx00) := (Bx0.alloc _).cell 0
  have d_Bx0_1 : (W8.alloc (.cells #[.slice Ag00 (r0.1).length cg00, .slice Ag01 (r0.2).length cg01] 29)).cell? ⟨W6.heap.size, 1, none⟩ = some (.slice Ax01 (p0.2).length cx01) := (Bx0.alloc _).cell 1
  have d_Bx1_0 : (W8.alloc (.cells #[.slice Ag00 (r0.1).length cg00, .slice Ag01 (r0.2).length cg01] 29)).cell? ⟨W7.heap.size, 0, none⟩ = some (.int .i64 (p1.1)) := (Bx1.alloc _).cell 0
  have d_Bx1_1 : (W8.alloc (.cells #[.slice Ag00 (r0.1).length cg00, .slice Ag01 (r0.2).length cg01] 29)).cell? ⟨W7.heap.size, 1, none⟩ = some (.int .i64 (p1.2.1)) := (Bx1.alloc _).cell 1
  have d_Bx1_2 : (W8.alloc (.cells #[.slice Ag00 (r0.1).length cg00, .slice Ag01 (r0.2).length cg01] 29)).cell? ⟨W7.heap.size, 2, none⟩ = some (.slice Ax12 (p1.2.2).length cx12) := (Bx1.alloc _).cell 2
  go_wp2_with fail
  refine (o_eqPool ((tPool).reach ((tPool).read o_g0) ?hB) ((tPool).reach ((tPool).up r_s0 (by omega : W5.heap.size ≤ W8.heap.size)) ?hB)).mono ?_
  all_goals try (case hB => exact (by repeat (first | (with_reducible exact Below.refl _ _) | (with_reducible assumption) | (with_reducible refine bel_alloc ?_ _) | (with_reducible refine bel_drew ?_) | (with_reducible refine below_drewN ?_ _) | (with_reducible refine bel_put ?_ (by first | exact Nat.le_refl _ | (simp; done) | (simp; omega)) _))))
  rintro e W9 ⟨rfl, hb_⟩
  clear d_Ba0_0 d_Ba0_1 d_Ba1_0 d_Ba1_1 d_Ba1_2 d_Bs0_0 d_Bs0_1 d_Bx0_0 d_Bx0_1 d_Bx1_0 d_Bx1_1 d_Bx1_2
  clear k_Ba0_0 k_Ba0_1
  clear k_Ba1_0 k_Ba1_1 k_Ba1_2
  clear k_Bs0_0 k_Bs0_1
  clear k_Bx0_0 k_Bx0_1
  clear k_Bx1_0 k_Bx1_1 k_Bx1_2
  have hs9 : Below W8.heap.size W8 W9 := bel_trans (by repeat (first | (with_reducible exact Below.refl _ _) | (with_reducible assumption) | (with_reducible refine bel_alloc ?_ _) | (with_reducible refine bel_drew ?_) | (with_reducible refine below_drewN ?_ _) | (with_reducible refine bel_put ?_ (by first | exact Nat.le_refl _ | (simp; done) | (simp; omega)) _))) hb_
  have z9 : W8.heap.size + 1 ≤ W9.heap.size := by have := hb_.size; simpa using this
  have hB9 : Below w.heap.size w W9 := bel_trans hB8 hs9
  replace Ba0 := Ba0.below hs9 Ba0.size
  replace Ba1 := Ba1.below hs9 Ba1.size
  replace Bs0 := Bs0.below hs9 Bs0.size
  replace Bx0 := Bx0.below hs9 Bx0.size
  replace Bx1 := Bx1.below hs9 Bx1.size
  have Bg0 : Box W9 (W8.heap.size) 29 #[.slice Ag00 (r0.1).length cg00, .slice Ag01 (r0.2).length cg01] := Box.below (Box.new _ _ _) hb_ (by first | (simp; done) | (simp; omega))
  replace o_x0 := Ty.below (t := tPool) o_x0 hs9
  replace o_x1 := Ty.below (t := tHeld) o_x1 hs9
  replace o_g0 := Ty.below (t := tPool) o_g0 hs9
  replace r_s0 := (tPool).keep r_s0 (fun b hb => hs9.block b (Nat.lt_of_lt_of_le hb (by omega)))
  have k_Ba0_0 : W9.cell? ⟨w.heap.size, 0, none⟩ = some (.slice Aa00 na00 ca00) := Ba0.cell 0
  have k_Ba0_1 : W9.cell? ⟨w.heap.size, 1, none⟩ = some (.slice Aa01 na01 ca01) := Ba0.cell 1
  have k_Ba1_0 : W9.cell? ⟨w.heap.size + 1, 0, none⟩ = some (.int .i64 (p1.1)) := Ba1.cell 0
  have k_Ba1_1 : W9.cell? ⟨w.heap.size + 1, 1, none⟩ = some (.int .i64 (p1.2.1)) := Ba1.cell 1
  have k_Ba1_2 : W9.cell? ⟨w.heap.size + 1, 2, none⟩ = some (.slice Aa12 na12 ca12) := Ba1.cell 2
  have k_Bs0_0 : W9.cell? ⟨gs, 0, none⟩ = some (.slice As00 (r0.1).length cs00) := Bs0.cell 0
  have k_Bs0_1 : W9.cell? ⟨gs, 1, none⟩ = some (.slice As01 (r0.2).length cs01) := Bs0.cell 1
  have k_Bx0_0 : W9.cell? ⟨W6.heap.size, 0, none⟩ = some (.slice Ax00 (p0.1).length cx00) := Bx0.cell 0
  have k_Bx0_1 : W9.cell? ⟨W6.heap.size, 1, none⟩ = some (.slice Ax01 (p0.2).length cx01) := Bx0.cell 1
  have k_Bx1_0 : W9.cell? ⟨W7.heap.size, 0, none⟩ = some (.int .i64 (p1.1)) := Bx1.cell 0
  have k_Bx1_1 : W9.cell? ⟨W7.heap.size, 1, none⟩ = some (.int .i64 (p1.2.1)) := Bx1.cell 1
  have k_Bx1_2 : W9.cell? ⟨W7.heap.size, 2, none⟩ = some (.slice Ax12 (p1.2.2).length cx12) := Bx1.cell 2
  have k_Bg0_0 : W9.cell? ⟨W8.heap.size, 0, none⟩ = some (.slice Ag00 (r0.1).length cg00) := Bg0.cell 0
  have k_Bg0_1 : W9.cell? ⟨W8.heap.size, 1, none⟩ = some (.slice Ag01 (r0.2).length cg01) := Bg0.cell 1
  clear hb_
  go_wp2_with fail
  go_region_held3 (fun w' => w'.cell? ⟨w.heap.size, 0, none⟩ = some (.slice Aa00 na00 ca00) ∧ w'.cell? ⟨w.heap.size, 1, none⟩ = some (.slice Aa01 na01 ca01) ∧ w'.cell? ⟨W6.heap.size, 0, none⟩ = some (.slice Ax00 (p0.1).length cx00) ∧ w'.cell? ⟨W6.heap.size, 1, none⟩ = some (.slice Ax01 (p0.2).length cx01)) (first | (exact ⟨k_Ba0_0, k_Ba0_1, k_Bx0_0, k_Bx0_1⟩) | (exact ⟨cell_bel hs11 k_Ba0_0, cell_bel hs11 k_Ba0_1, cell_bel hs11 k_Bx0_0, cell_bel hs11 k_Bx0_1⟩) | (exact ⟨cell_bel hs10 k_Ba0_0, cell_bel hs10 k_Ba0_1, cell_bel hs10 k_Bx0_0, cell_bel hs10 k_Bx0_1⟩) | go_keep)
    (first
      | (go_at_call 17; refine (o_toPool ((tPool).reach ((tPool).reach h0 hB9) (by repeat (first | (with_reducible exact Below.refl _ _) | (with_reducible assumption) | (with_reducible refine bel_alloc ?_ _) | (with_reducible refine bel_drew ?_) | (with_reducible refine below_drewN ?_ _) | (with_reducible refine bel_put ?_ (by first | exact Nat.le_refl _ | (simp; done) | (simp; omega)) _)))) (by omega)).mono ?_; rintro e W10 ⟨csv, Fv, rfl, o_v, Nv, hb_⟩; have hs10 : Below W9.heap.size W9 W10 := bel_trans (by repeat (first | (with_reducible exact Below.refl _ _) | (with_reducible assumption) | (with_reducible refine bel_alloc ?_ _) | (with_reducible refine bel_drew ?_) | (with_reducible refine below_drewN ?_ _) | (with_reducible refine bel_put ?_ (by first | exact Nat.le_refl _ | (simp; done) | (simp; omega)) _))) hb_)
      | (go_at_call 19; refine (o_eqPool ((tPool).reach ((tPool).reach ((tPool).read o_x0) hs10) (by repeat (first | (with_reducible exact Below.refl _ _) | (with_reducible assumption) | (with_reducible refine bel_alloc ?_ _) | (with_reducible refine bel_drew ?_) | (with_reducible refine below_drewN ?_ _) | (with_reducible refine bel_put ?_ (by first | exact Nat.le_refl _ | (simp; done) | (simp; omega)) _)))) ((tPool).reach ((tPool).read o_v) (by repeat (first | (with_reducible exact Below.refl _ _) | (with_reducible assumption) | (with_reducible refine bel_alloc ?_ _) | (with_reducible refine bel_drew ?_) | (with_reducible refine below_drewN ?_ _) | (with_reducible refine bel_put ?_ (by first | exact Nat.le_refl _ | (simp; done) | (simp; omega)) _))))).mono ?_; rintro e W11 ⟨rfl, hb2_⟩; have hs11' : Below W9.heap.size W9 W11 := bel_trans hs10 (bel_trans (by repeat (first | (with_reducible exact Below.refl _ _) | (with_reducible assumption) | (with_reducible refine bel_alloc ?_ _) | (with_reducible refine bel_drew ?_) | (with_reducible refine below_drewN ?_ _) | (with_reducible refine bel_put ?_ (by first | exact Nat.le_refl _ | (simp; done) | (simp; omega)) _))) hb2_); have hs11 := hs11'))
  clear o_v Nv hb_ hb2_ hs10
  clear k_Ba0_0 k_Ba0_1
  clear k_Ba1_0 k_Ba1_1 k_Ba1_2
  clear k_Bs0_0 k_Bs0_1
  clear k_Bx0_0 k_Bx0_1
  clear k_Bx1_0 k_Bx1_1 k_Bx1_2
  clear k_Bg0_0 k_Bg0_1
  have z11 : W9.heap.size + 0 ≤ W11.heap.size := hs11'.size
  have hB11 : Below w.heap.size w W11 := bel_trans hB9 hs11'
  replace Ba0 := Ba0.below hs11' Ba0.size
  replace Ba1 := Ba1.below hs11' Ba1.size
  replace Bs0 := Bs0.below hs11' Bs0.size
  replace Bx0 := Bx0.below hs11' Bx0.size
  replace Bx1 := Bx1.below hs11' Bx1.size
  replace Bg0 := Bg0.below hs11' Bg0.size
  replace o_x0 := Ty.below (t := tPool) o_x0 hs11'
  replace o_x1 := Ty.below (t := tHeld) o_x1 hs11'
  replace o_g0 := Ty.below (t := tPool) o_g0 hs11'
  replace r_s0 := (tPool).keep r_s0 (fun b hb => hs11'.block b (Nat.lt_of_lt_of_le hb (by omega)))
  have k_Ba0_0 : W11.cell? ⟨w.heap.size, 0, none⟩ = some (.slice Aa00 na00 ca00) := Ba0.cell 0
  have k_Ba0_1 : W11.cell? ⟨w.heap.size, 1, none⟩ = some (.slice Aa01 na01 ca01) := Ba0.cell 1
  have k_Ba1_0 : W11.cell? ⟨w.heap.size + 1, 0, none⟩ = some (.int .i64 (p1.1)) := Ba1.cell 0
  have k_Ba1_1 : W11.cell? ⟨w.heap.size + 1, 1, none⟩ = some (.int .i64 (p1.2.1)) := Ba1.cell 1
  have k_Ba1_2 : W11.cell? ⟨w.heap.size + 1, 2, none⟩ = some (.slice Aa12 na12 ca12) := Ba1.cell 2
  have k_Bs0_0 : W11.cell? ⟨gs, 0, none⟩ = some (.slice As00 (r0.1).length cs00) := Bs0.cell 0
  have k_Bs0_1 : W11.cell? ⟨gs, 1, none⟩ = some (.slice As01 (r0.2).length cs01) := Bs0.cell 1
  have k_Bx0_0 : W11.cell? ⟨W6.heap.size, 0, none⟩ = some (.slice Ax00 (p0.1).length cx00) := Bx0.cell 0
  have k_Bx0_1 : W11.cell? ⟨W6.heap.size, 1, none⟩ = some (.slice Ax01 (p0.2).length cx01) := Bx0.cell 1
  have k_Bx1_0 : W11.cell? ⟨W7.heap.size, 0, none⟩ = some (.int .i64 (p1.1)) := Bx1.cell 0
  have k_Bx1_1 : W11.cell? ⟨W7.heap.size, 1, none⟩ = some (.int .i64 (p1.2.1)) := Bx1.cell 1
  have k_Bx1_2 : W11.cell? ⟨W7.heap.size, 2, none⟩ = some (.slice Ax12 (p1.2.2).length cx12) := Bx1.cell 2
  have k_Bg0_0 : W11.cell? ⟨W8.heap.size, 0, none⟩ = some (.slice Ag00 (r0.1).length cg00) := Bg0.cell 0
  have k_Bg0_1 : W11.cell? ⟨W8.heap.size, 1, none⟩ = some (.slice Ag01 (r0.2).length cg01) := Bg0.cell 1
  go_wp2_with fail
  go_region_held3 (fun w' => w'.cell? ⟨w.heap.size + 1, 0, none⟩ = some (.int .i64 (p1.1)) ∧ w'.cell? ⟨w.heap.size + 1, 1, none⟩ = some (.int .i64 (p1.2.1)) ∧ w'.cell? ⟨w.heap.size + 1, 2, none⟩ = some (.slice Aa12 na12 ca12) ∧ w'.cell? ⟨W7.heap.size, 0, none⟩ = some (.int .i64 (p1.1)) ∧ w'.cell? ⟨W7.heap.size, 1, none⟩ = some (.int .i64 (p1.2.1)) ∧ w'.cell? ⟨W7.heap.size, 2, none⟩ = some (.slice Ax12 (p1.2.2).length cx12)) (first | (exact ⟨k_Ba1_0, k_Ba1_1, k_Ba1_2, k_Bx1_0, k_Bx1_1, k_Bx1_2⟩) | (exact ⟨cell_bel hs13 k_Ba1_0, cell_bel hs13 k_Ba1_1, cell_bel hs13 k_Ba1_2, cell_bel hs13 k_Bx1_0, cell_bel hs13 k_Bx1_1, cell_bel hs13 k_Bx1_2⟩) | (exact ⟨cell_bel hs12 k_Ba1_0, cell_bel hs12 k_Ba1_1, cell_bel hs12 k_Ba1_2, cell_bel hs12 k_Bx1_0, cell_bel hs12 k_Bx1_1, cell_bel hs12 k_Bx1_2⟩) | go_keep)
    (first
      | (go_at_call 34; refine (o_toHeld ((tHeld).reach ((tHeld).reach h1 hB11) (by repeat (first | (with_reducible exact Below.refl _ _) | (with_reducible assumption) | (with_reducible refine bel_alloc ?_ _) | (with_reducible refine bel_drew ?_) | (with_reducible refine below_drewN ?_ _) | (with_reducible refine bel_put ?_ (by first | exact Nat.le_refl _ | (simp; done) | (simp; omega)) _)))) (by omega)).mono ?_; rintro e W12 ⟨csv, Fv, rfl, o_v, Nv, hb_⟩; have hs12 : Below W11.heap.size W11 W12 := bel_trans (by repeat (first | (with_reducible exact Below.refl _ _) | (with_reducible assumption) | (with_reducible refine bel_alloc ?_ _) | (with_reducible refine bel_drew ?_) | (with_reducible refine below_drewN ?_ _) | (with_reducible refine bel_put ?_ (by first | exact Nat.le_refl _ | (simp; done) | (simp; omega)) _))) hb_)
      | (go_at_call 36; refine (o_eqHeld ((tHeld).reach ((tHeld).reach ((tHeld).read o_x1) hs12) (by repeat (first | (with_reducible exact Below.refl _ _) | (with_reducible assumption) | (with_reducible refine bel_alloc ?_ _) | (with_reducible refine bel_drew ?_) | (with_reducible refine below_drewN ?_ _) | (with_reducible refine bel_put ?_ (by first | exact Nat.le_refl _ | (simp; done) | (simp; omega)) _)))) ((tHeld).reach ((tHeld).read o_v) (by repeat (first | (with_reducible exact Below.refl _ _) | (with_reducible assumption) | (with_reducible refine bel_alloc ?_ _) | (with_reducible refine bel_drew ?_) | (with_reducible refine below_drewN ?_ _) | (with_reducible refine bel_put ?_ (by first | exact Nat.le_refl _ | (simp; done) | (simp; omega)) _))))).mono ?_; rintro e W13 ⟨rfl, hb2_⟩; have hs13' : Below W11.heap.size W11 W13 := bel_trans hs12 (bel_trans (by repeat (first | (with_reducible exact Below.refl _ _) | (with_reducible assumption) | (with_reducible refine bel_alloc ?_ _) | (with_reducible refine bel_drew ?_) | (with_reducible refine below_drewN ?_ _) | (with_reducible refine bel_put ?_ (by first | exact Nat.le_refl _ | (simp; done) | (simp; omega)) _))) hb2_); have hs13 := hs13'))
  clear o_v Nv hb_ hb2_ hs12
  clear k_Ba0_0 k_Ba0_1
  clear k_Ba1_0 k_Ba1_1 k_Ba1_2
  clear k_Bs0_0 k_Bs0_1
  clear k_Bx0_0 k_Bx0_1
  clear k_Bx1_0 k_Bx1_1 k_Bx1_2
  clear k_Bg0_0 k_Bg0_1
  have z13 : W11.heap.size + 0 ≤ W13.heap.size := hs13'.size
  have hB13 : Below w.heap.size w W13 := bel_trans hB11 hs13'
  replace Ba0 := Ba0.below hs13' Ba0.size
  replace Ba1 := Ba1.below hs13' Ba1.size
  replace Bs0 := Bs0.below hs13' Bs0.size
  replace Bx0 := Bx0.below hs13' Bx0.size
  replace Bx1 := Bx1.below hs13' Bx1.size
  replace Bg0 := Bg0.below hs13' Bg0.size
  replace o_x0 := Ty.below (t := tPool) o_x0 hs13'
  replace o_x1 := Ty.below (t := tHeld) o_x1 hs13'
  replace o_g0 := Ty.below (t := tPool) o_g0 hs13'
  replace r_s0 := (tPool).keep r_s0 (fun b hb => hs13'.block b (Nat.lt_of_lt_of_le hb (by omega)))
  have k_Ba0_0 : W13.cell? ⟨w.heap.size, 0, none⟩ = some (.slice Aa00 na00 ca00) := Ba0.cell 0
  have k_Ba0_1 : W13.cell? ⟨w.heap.size, 1, none⟩ = some (.slice Aa01 na01 ca01) := Ba0.cell 1
  have k_Ba1_0 : W13.cell? ⟨w.heap.size + 1, 0, none⟩ = some (.int .i64 (p1.1)) := Ba1.cell 0
  have k_Ba1_1 : W13.cell? ⟨w.heap.size + 1, 1, none⟩ = some (.int .i64 (p1.2.1)) := Ba1.cell 1
  have k_Ba1_2 : W13.cell? ⟨w.heap.size + 1, 2, none⟩ = some (.slice Aa12 na12 ca12) := Ba1.cell 2
  have k_Bs0_0 : W13.cell? ⟨gs, 0, none⟩ = some (.slice As00 (r0.1).length cs00) := Bs0.cell 0
  have k_Bs0_1 : W13.cell? ⟨gs, 1, none⟩ = some (.slice As01 (r0.2).length cs01) := Bs0.cell 1
  have k_Bx0_0 : W13.cell? ⟨W6.heap.size, 0, none⟩ = some (.slice Ax00 (p0.1).length cx00) := Bx0.cell 0
  have k_Bx0_1 : W13.cell? ⟨W6.heap.size, 1, none⟩ = some (.slice Ax01 (p0.2).length cx01) := Bx0.cell 1
  have k_Bx1_0 : W13.cell? ⟨W7.heap.size, 0, none⟩ = some (.int .i64 (p1.1)) := Bx1.cell 0
  have k_Bx1_1 : W13.cell? ⟨W7.heap.size, 1, none⟩ = some (.int .i64 (p1.2.1)) := Bx1.cell 1
  have k_Bx1_2 : W13.cell? ⟨W7.heap.size, 2, none⟩ = some (.slice Ax12 (p1.2.2).length cx12) := Bx1.cell 2
  have k_Bg0_0 : W13.cell? ⟨W8.heap.size, 0, none⟩ = some (.slice Ag00 (r0.1).length cg00) := Bg0.cell 0
  have k_Bg0_1 : W13.cell? ⟨W8.heap.size, 1, none⟩ = some (.slice Ag01 (r0.2).length cg01) := Bg0.cell 1
  go_wp2_with fail
  refine (o_markPool (1) o_x0 Dx0 (by omega) (by omega)).mono ?_
  rintro e W14 ⟨rfl, om_, hG_⟩
  clear k_Ba0_0 k_Ba0_1
  clear k_Ba1_0 k_Ba1_1 k_Ba1_2
  clear k_Bs0_0 k_Bs0_1
  clear k_Bx0_0 k_Bx0_1
  clear k_Bx1_0 k_Bx1_1 k_Bx1_2
  clear k_Bg0_0 k_Bg0_1
  replace o_x0 := om_
  clear om_
  have z14 : W13.heap.size + 0 ≤ W14.heap.size := hG_.size
  have hB14 : Below w.heap.size w W14 := hB13.trans (hG_.below (fun f hf => by have := Ix0 f hf; omega) (by have := hB13.size; omega))
  replace Ba0 := Ba0.same (hG_.block _ Ba0.size (fun hx => by have := Ix0 _ hx; omega))
  replace Ba1 := Ba1.same (hG_.block _ Ba1.size (fun hx => by have := Ix0 _ hx; omega))
  replace Bs0 := Bs0.same (hG_.block _ Bs0.size (fun hx => by have := Ix0 _ hx; omega))
  replace Bx0 := Bx0.same (hG_.block _ Bx0.size (fun hx => by have := Ix0 _ hx; omega))
  replace Bx1 := Bx1.same (hG_.block _ Bx1.size (fun hx => by have := Ix0 _ hx; omega))
  replace Bg0 := Bg0.same (hG_.block _ Bg0.size (fun hx => by have := Ix0 _ hx; omega))
  replace o_x1 := Ty.only (t := tHeld) o_x1 hG_ (fun f hf hx => by have := Ix1 f hf; have := Ix0 f hx; omega)
  replace o_g0 := Ty.only (t := tPool) o_g0 hG_ (fun f hf hx => by have := Ig0 f hf; have := Ix0 f hx; omega)
  replace r_s0 := (tPool).keep r_s0 (fun b hb => hG_.block b (Nat.lt_of_lt_of_le hb (by omega)) (fun hx => by have := Ix0 b hx; omega))
  have k_Ba0_0 : W14.cell? ⟨w.heap.size, 0, none⟩ = some (.slice Aa00 na00 ca00) := Ba0.cell 0
  have k_Ba0_1 : W14.cell? ⟨w.heap.size, 1, none⟩ = some (.slice Aa01 na01 ca01) := Ba0.cell 1
  have k_Ba1_0 : W14.cell? ⟨w.heap.size + 1, 0, none⟩ = some (.int .i64 (p1.1)) := Ba1.cell 0
  have k_Ba1_1 : W14.cell? ⟨w.heap.size + 1, 1, none⟩ = some (.int .i64 (p1.2.1)) := Ba1.cell 1
  have k_Ba1_2 : W14.cell? ⟨w.heap.size + 1, 2, none⟩ = some (.slice Aa12 na12 ca12) := Ba1.cell 2
  have k_Bs0_0 : W14.cell? ⟨gs, 0, none⟩ = some (.slice As00 (r0.1).length cs00) := Bs0.cell 0
  have k_Bs0_1 : W14.cell? ⟨gs, 1, none⟩ = some (.slice As01 (r0.2).length cs01) := Bs0.cell 1
  have k_Bx0_0 : W14.cell? ⟨W6.heap.size, 0, none⟩ = some (.slice Ax00 (p0.1).length cx00) := Bx0.cell 0
  have k_Bx0_1 : W14.cell? ⟨W6.heap.size, 1, none⟩ = some (.slice Ax01 (p0.2).length cx01) := Bx0.cell 1
  have k_Bx1_0 : W14.cell? ⟨W7.heap.size, 0, none⟩ = some (.int .i64 (p1.1)) := Bx1.cell 0
  have k_Bx1_1 : W14.cell? ⟨W7.heap.size, 1, none⟩ = some (.int .i64 (p1.2.1)) := Bx1.cell 1
  have k_Bx1_2 : W14.cell? ⟨W7.heap.size, 2, none⟩ = some (.slice Ax12 (p1.2.2).length cx12) := Bx1.cell 2
  have k_Bg0_0 : W14.cell? ⟨W8.heap.size, 0, none⟩ = some (.slice Ag00 (r0.1).length cg00) := Bg0.cell 0
  have k_Bg0_1 : W14.cell? ⟨W8.heap.size, 1, none⟩ = some (.slice Ag01 (r0.2).length cg01) := Bg0.cell 1
  clear hG_
  go_wp2_with fail
  refine (o_markHeld (1 + ((cntPool (p0) : Nat) : Int)) o_x1 Dx1 (by omega) (by omega)).mono ?_
  rintro e W15 ⟨rfl, om_, hG_⟩
  clear k_Ba0_0 k_Ba0_1
  clear k_Ba1_0 k_Ba1_1 k_Ba1_2
  clear k_Bs0_0 k_Bs0_1
  clear k_Bx0_0 k_Bx0_1
  clear k_Bx1_0 k_Bx1_1 k_Bx1_2
  clear k_Bg0_0 k_Bg0_1
  replace o_x1 := om_
  clear om_
  have z15 : W14.heap.size + 0 ≤ W15.heap.size := hG_.size
  have hB15 : Below w.heap.size w W15 := hB14.trans (hG_.below (fun f hf => by have := Ix1 f hf; omega) (by have := hB14.size; omega))
  replace Ba0 := Ba0.same (hG_.block _ Ba0.size (fun hx => by have := Ix1 _ hx; omega))
  replace Ba1 := Ba1.same (hG_.block _ Ba1.size (fun hx => by have := Ix1 _ hx; omega))
  replace Bs0 := Bs0.same (hG_.block _ Bs0.size (fun hx => by have := Ix1 _ hx; omega))
  replace Bx0 := Bx0.same (hG_.block _ Bx0.size (fun hx => by have := Ix1 _ hx; omega))
  replace Bx1 := Bx1.same (hG_.block _ Bx1.size (fun hx => by have := Ix1 _ hx; omega))
  replace Bg0 := Bg0.same (hG_.block _ Bg0.size (fun hx => by have := Ix1 _ hx; omega))
  replace o_x0 := Ty.only (t := tPool) o_x0 hG_ (fun f hf hx => by have := Ix0 f hf; have := Ix1 f hx; omega)
  replace o_g0 := Ty.only (t := tPool) o_g0 hG_ (fun f hf hx => by have := Ig0 f hf; have := Ix1 f hx; omega)
  replace r_s0 := (tPool).keep r_s0 (fun b hb => hG_.block b (Nat.lt_of_lt_of_le hb (by omega)) (fun hx => by have := Ix1 b hx; omega))
  have k_Ba0_0 : W15.cell? ⟨w.heap.size, 0, none⟩ = some (.slice Aa00 na00 ca00) := Ba0.cell 0
  have k_Ba0_1 : W15.cell? ⟨w.heap.size, 1, none⟩ = some (.slice Aa01 na01 ca01) := Ba0.cell 1
  have k_Ba1_0 : W15.cell? ⟨w.heap.size + 1, 0, none⟩ = some (.int .i64 (p1.1)) := Ba1.cell 0
  have k_Ba1_1 : W15.cell? ⟨w.heap.size + 1, 1, none⟩ = some (.int .i64 (p1.2.1)) := Ba1.cell 1
  have k_Ba1_2 : W15.cell? ⟨w.heap.size + 1, 2, none⟩ = some (.slice Aa12 na12 ca12) := Ba1.cell 2
  have k_Bs0_0 : W15.cell? ⟨gs, 0, none⟩ = some (.slice As00 (r0.1).length cs00) := Bs0.cell 0
  have k_Bs0_1 : W15.cell? ⟨gs, 1, none⟩ = some (.slice As01 (r0.2).length cs01) := Bs0.cell 1
  have k_Bx0_0 : W15.cell? ⟨W6.heap.size, 0, none⟩ = some (.slice Ax00 (p0.1).length cx00) := Bx0.cell 0
  have k_Bx0_1 : W15.cell? ⟨W6.heap.size, 1, none⟩ = some (.slice Ax01 (p0.2).length cx01) := Bx0.cell 1
  have k_Bx1_0 : W15.cell? ⟨W7.heap.size, 0, none⟩ = some (.int .i64 (p1.1)) := Bx1.cell 0
  have k_Bx1_1 : W15.cell? ⟨W7.heap.size, 1, none⟩ = some (.int .i64 (p1.2.1)) := Bx1.cell 1
  have k_Bx1_2 : W15.cell? ⟨W7.heap.size, 2, none⟩ = some (.slice Ax12 (p1.2.2).length cx12) := Bx1.cell 2
  have k_Bg0_0 : W15.cell? ⟨W8.heap.size, 0, none⟩ = some (.slice Ag00 (r0.1).length cg00) := Bg0.cell 0
  have k_Bg0_1 : W15.cell? ⟨W8.heap.size, 1, none⟩ = some (.slice Ag01 (r0.2).length cg01) := Bg0.cell 1
  clear hG_
  have dk : decide ((1 + ((cntPool (p0) : Nat) : Int) + ((cntHeld (p1) : Nat) : Int) : Int) < 0) = false := by simp; omega
  clear o_x0 Ix0 Dx0
  clear o_x1 Ix1 Dx1
  go_wp2_with fail
  refine (o_eqPool ((tPool).reach ((tPool).read o_g0) ?hB) ((tPool).reach ((tPool).up r_s0 (by omega : W5.heap.size ≤ W15.heap.size)) ?hB)).mono ?_
  all_goals try (case hB => exact (by repeat (first | (with_reducible exact Below.refl _ _) | (with_reducible assumption) | (with_reducible refine bel_alloc ?_ _) | (with_reducible refine bel_drew ?_) | (with_reducible refine below_drewN ?_ _) | (with_reducible refine bel_put ?_ (by first | exact Nat.le_refl _ | (simp; done) | (simp; omega)) _))))
  rintro e W16 ⟨rfl, hb_⟩
  clear k_Ba0_0 k_Ba0_1
  clear k_Ba1_0 k_Ba1_1 k_Ba1_2
  clear k_Bs0_0 k_Bs0_1
  clear k_Bx0_0 k_Bx0_1
  clear k_Bx1_0 k_Bx1_1 k_Bx1_2
  clear k_Bg0_0 k_Bg0_1
  have hs16 : Below W15.heap.size W15 W16 := bel_trans (by repeat (first | (with_reducible exact Below.refl _ _) | (with_reducible assumption) | (with_reducible refine bel_alloc ?_ _) | (with_reducible refine bel_drew ?_) | (with_reducible refine below_drewN ?_ _) | (with_reducible refine bel_put ?_ (by first | exact Nat.le_refl _ | (simp; done) | (simp; omega)) _))) hb_
  have z16 : W15.heap.size + 0 ≤ W16.heap.size := by have := hb_.size; simpa using this
  have hB16 : Below w.heap.size w W16 := bel_trans hB15 hs16
  replace Ba0 := Ba0.below hs16 Ba0.size
  replace Ba1 := Ba1.below hs16 Ba1.size
  replace Bs0 := Bs0.below hs16 Bs0.size
  replace Bx0 := Bx0.below hs16 Bx0.size
  replace Bx1 := Bx1.below hs16 Bx1.size
  replace Bg0 := Bg0.below hs16 Bg0.size
  replace o_g0 := Ty.below (t := tPool) o_g0 hs16
  replace r_s0 := (tPool).keep r_s0 (fun b hb => hs16.block b (Nat.lt_of_lt_of_le hb (by omega)))
  have k_Ba0_0 : W16.cell? ⟨w.heap.size, 0, none⟩ = some (.slice Aa00 na00 ca00) := Ba0.cell 0
  have k_Ba0_1 : W16.cell? ⟨w.heap.size, 1, none⟩ = some (.slice Aa01 na01 ca01) := Ba0.cell 1
  have k_Ba1_0 : W16.cell? ⟨w.heap.size + 1, 0, none⟩ = some (.int .i64 (p1.1)) := Ba1.cell 0
  have k_Ba1_1 : W16.cell? ⟨w.heap.size + 1, 1, none⟩ = some (.int .i64 (p1.2.1)) := Ba1.cell 1
  have k_Ba1_2 : W16.cell? ⟨w.heap.size + 1, 2, none⟩ = some (.slice Aa12 na12 ca12) := Ba1.cell 2
  have k_Bs0_0 : W16.cell? ⟨gs, 0, none⟩ = some (.slice As00 (r0.1).length cs00) := Bs0.cell 0
  have k_Bs0_1 : W16.cell? ⟨gs, 1, none⟩ = some (.slice As01 (r0.2).length cs01) := Bs0.cell 1
  have k_Bx0_0 : W16.cell? ⟨W6.heap.size, 0, none⟩ = some (.slice Ax00 (p0.1).length cx00) := Bx0.cell 0
  have k_Bx0_1 : W16.cell? ⟨W6.heap.size, 1, none⟩ = some (.slice Ax01 (p0.2).length cx01) := Bx0.cell 1
  have k_Bx1_0 : W16.cell? ⟨W7.heap.size, 0, none⟩ = some (.int .i64 (p1.1)) := Bx1.cell 0
  have k_Bx1_1 : W16.cell? ⟨W7.heap.size, 1, none⟩ = some (.int .i64 (p1.2.1)) := Bx1.cell 1
  have k_Bx1_2 : W16.cell? ⟨W7.heap.size, 2, none⟩ = some (.slice Ax12 (p1.2.2).length cx12) := Bx1.cell 2
  have k_Bg0_0 : W16.cell? ⟨W8.heap.size, 0, none⟩ = some (.slice Ag00 (r0.1).length cg00) := Bg0.cell 0
  have k_Bg0_1 : W16.cell? ⟨W8.heap.size, 1, none⟩ = some (.slice Ag01 (r0.2).length cg01) := Bg0.cell 1
  clear hb_
  go_wp2_with fail
  refine (o_markPool (1) o_g0 Dg0 (by omega) (by omega)).mono ?_
  rintro e W17 ⟨rfl, om_, hG_⟩
  clear k_Ba0_0 k_Ba0_1
  clear k_Ba1_0 k_Ba1_1 k_Ba1_2
  clear k_Bs0_0 k_Bs0_1
  clear k_Bx0_0 k_Bx0_1
  clear k_Bx1_0 k_Bx1_1 k_Bx1_2
  clear k_Bg0_0 k_Bg0_1
  replace o_g0 := om_
  clear om_
  have z17 : W16.heap.size + 0 ≤ W17.heap.size := hG_.size
  have hB17 : Below w.heap.size w W17 := hB16.trans (hG_.below (fun f hf => by have := Ig0 f hf; omega) (by have := hB16.size; omega))
  replace Ba0 := Ba0.same (hG_.block _ Ba0.size (fun hx => by have := Ig0 _ hx; omega))
  replace Ba1 := Ba1.same (hG_.block _ Ba1.size (fun hx => by have := Ig0 _ hx; omega))
  replace Bs0 := Bs0.same (hG_.block _ Bs0.size (fun hx => by have := Ig0 _ hx; omega))
  replace Bx0 := Bx0.same (hG_.block _ Bx0.size (fun hx => by have := Ig0 _ hx; omega))
  replace Bx1 := Bx1.same (hG_.block _ Bx1.size (fun hx => by have := Ig0 _ hx; omega))
  replace Bg0 := Bg0.same (hG_.block _ Bg0.size (fun hx => by have := Ig0 _ hx; omega))
  replace r_s0 := (tPool).keep r_s0 (fun b hb => hG_.block b (Nat.lt_of_lt_of_le hb (by omega)) (fun hx => by have := Ig0 b hx; omega))
  have k_Ba0_0 : W17.cell? ⟨w.heap.size, 0, none⟩ = some (.slice Aa00 na00 ca00) := Ba0.cell 0
  have k_Ba0_1 : W17.cell? ⟨w.heap.size, 1, none⟩ = some (.slice Aa01 na01 ca01) := Ba0.cell 1
  have k_Ba1_0 : W17.cell? ⟨w.heap.size + 1, 0, none⟩ = some (.int .i64 (p1.1)) := Ba1.cell 0
  have k_Ba1_1 : W17.cell? ⟨w.heap.size + 1, 1, none⟩ = some (.int .i64 (p1.2.1)) := Ba1.cell 1
  have k_Ba1_2 : W17.cell? ⟨w.heap.size + 1, 2, none⟩ = some (.slice Aa12 na12 ca12) := Ba1.cell 2
  have k_Bs0_0 : W17.cell? ⟨gs, 0, none⟩ = some (.slice As00 (r0.1).length cs00) := Bs0.cell 0
  have k_Bs0_1 : W17.cell? ⟨gs, 1, none⟩ = some (.slice As01 (r0.2).length cs01) := Bs0.cell 1
  have k_Bx0_0 : W17.cell? ⟨W6.heap.size, 0, none⟩ = some (.slice Ax00 (p0.1).length cx00) := Bx0.cell 0
  have k_Bx0_1 : W17.cell? ⟨W6.heap.size, 1, none⟩ = some (.slice Ax01 (p0.2).length cx01) := Bx0.cell 1
  have k_Bx1_0 : W17.cell? ⟨W7.heap.size, 0, none⟩ = some (.int .i64 (p1.1)) := Bx1.cell 0
  have k_Bx1_1 : W17.cell? ⟨W7.heap.size, 1, none⟩ = some (.int .i64 (p1.2.1)) := Bx1.cell 1
  have k_Bx1_2 : W17.cell? ⟨W7.heap.size, 2, none⟩ = some (.slice Ax12 (p1.2.2).length cx12) := Bx1.cell 2
  have k_Bg0_0 : W17.cell? ⟨W8.heap.size, 0, none⟩ = some (.slice Ag00 (r0.1).length cg00) := Bg0.cell 0
  have k_Bg0_1 : W17.cell? ⟨W8.heap.size, 1, none⟩ = some (.slice Ag01 (r0.2).length cg01) := Bg0.cell 1
  clear hG_
  have dm : (((1 + ((cntPool (r0) : Nat) : Int) : Int)) != (1 + ((cntPool (r0) : Nat) : Int))) = false := by simp
  have dh0 : decide ((1 + ((cntPool (r0) : Nat) : Int) : Int) < 0) = false := by simp; omega
  go_wp2_with fail
  refine (o_heldPool (1) ((tPool).reach ((tPool).read o_g0) ?hB) (by omega) (by omega)).mono ?_
  all_goals try (case hB => exact (by repeat (first | (with_reducible exact Below.refl _ _) | (with_reducible assumption) | (with_reducible refine bel_alloc ?_ _) | (with_reducible refine bel_drew ?_) | (with_reducible refine below_drewN ?_ _) | (with_reducible refine bel_put ?_ (by first | exact Nat.le_refl _ | (simp; done) | (simp; omega)) _))))
  rintro e W18 ⟨rfl, hb_⟩
  clear k_Ba0_0 k_Ba0_1
  clear k_Ba1_0 k_Ba1_1 k_Ba1_2
  clear k_Bs0_0 k_Bs0_1
  clear k_Bx0_0 k_Bx0_1
  clear k_Bx1_0 k_Bx1_1 k_Bx1_2
  clear k_Bg0_0 k_Bg0_1
  have hs18 : Below W17.heap.size W17 W18 := bel_trans (by repeat (first | (with_reducible exact Below.refl _ _) | (with_reducible assumption) | (with_reducible refine bel_alloc ?_ _) | (with_reducible refine bel_drew ?_) | (with_reducible refine below_drewN ?_ _) | (with_reducible refine bel_put ?_ (by first | exact Nat.le_refl _ | (simp; done) | (simp; omega)) _))) hb_
  have z18 : W17.heap.size + 0 ≤ W18.heap.size := by have := hb_.size; simpa using this
  have hB18 : Below w.heap.size w W18 := bel_trans hB17 hs18
  replace Ba0 := Ba0.below hs18 Ba0.size
  replace Ba1 := Ba1.below hs18 Ba1.size
  replace Bs0 := Bs0.below hs18 Bs0.size
  replace Bx0 := Bx0.below hs18 Bx0.size
  replace Bx1 := Bx1.below hs18 Bx1.size
  replace Bg0 := Bg0.below hs18 Bg0.size
  replace o_g0 := Ty.below (t := tPool) o_g0 hs18
  replace r_s0 := (tPool).keep r_s0 (fun b hb => hs18.block b (Nat.lt_of_lt_of_le hb (by omega)))
  have k_Ba0_0 : W18.cell? ⟨w.heap.size, 0, none⟩ = some (.slice Aa00 na00 ca00) := Ba0.cell 0
  have k_Ba0_1 : W18.cell? ⟨w.heap.size, 1, none⟩ = some (.slice Aa01 na01 ca01) := Ba0.cell 1
  have k_Ba1_0 : W18.cell? ⟨w.heap.size + 1, 0, none⟩ = some (.int .i64 (p1.1)) := Ba1.cell 0
  have k_Ba1_1 : W18.cell? ⟨w.heap.size + 1, 1, none⟩ = some (.int .i64 (p1.2.1)) := Ba1.cell 1
  have k_Ba1_2 : W18.cell? ⟨w.heap.size + 1, 2, none⟩ = some (.slice Aa12 na12 ca12) := Ba1.cell 2
  have k_Bs0_0 : W18.cell? ⟨gs, 0, none⟩ = some (.slice As00 (r0.1).length cs00) := Bs0.cell 0
  have k_Bs0_1 : W18.cell? ⟨gs, 1, none⟩ = some (.slice As01 (r0.2).length cs01) := Bs0.cell 1
  have k_Bx0_0 : W18.cell? ⟨W6.heap.size, 0, none⟩ = some (.slice Ax00 (p0.1).length cx00) := Bx0.cell 0
  have k_Bx0_1 : W18.cell? ⟨W6.heap.size, 1, none⟩ = some (.slice Ax01 (p0.2).length cx01) := Bx0.cell 1
  have k_Bx1_0 : W18.cell? ⟨W7.heap.size, 0, none⟩ = some (.int .i64 (p1.1)) := Bx1.cell 0
  have k_Bx1_1 : W18.cell? ⟨W7.heap.size, 1, none⟩ = some (.int .i64 (p1.2.1)) := Bx1.cell 1
  have k_Bx1_2 : W18.cell? ⟨W7.heap.size, 2, none⟩ = some (.slice Ax12 (p1.2.2).length cx12) := Bx1.cell 2
  have k_Bg0_0 : W18.cell? ⟨W8.heap.size, 0, none⟩ = some (.slice Ag00 (r0.1).length cg00) := Bg0.cell 0
  have k_Bg0_1 : W18.cell? ⟨W8.heap.size, 1, none⟩ = some (.slice Ag01 (r0.2).length cg01) := Bg0.cell 1
  clear hb_
  go_wp2_with fail
  go_cut [17, 18] (fun t17 t18 wx => ∃ (gh : Nat) (csh0 : List Value) (Fh0 : List Nat), t17 = .pointer (some ⟨gh, 0, none⟩) ∧ t18 = .int .i64 r1 ∧ Box wx gh 29 csh0.toArray ∧ (tPool).O wx csh0 r0 Fh0 ∧ New W18.heap.size (Fh0) ∧ (∀ f ∈ Fh0, ¬ f = gh) ∧ Below W18.heap.size W18 wx ∧ W18.heap.size ≤ gh ∧ gh < wx.heap.size)
  case first =>
    refine wp_region_held_drew (S := (fun w' => w'.cell? ⟨w.heap.size, 0, none⟩ = some (.slice Aa00 na00 ca00) ∧ w'.cell? ⟨w.heap.size, 1, none⟩ = some (.slice Aa01 na01 ca01) ∧ w'.cell? ⟨w.heap.size + 1, 0, none⟩ = some (.int .i64 (p1.1)) ∧ w'.cell? ⟨w.heap.size + 1, 1, none⟩ = some (.int .i64 (p1.2.1)) ∧ w'.cell? ⟨w.heap.size + 1, 2, none⟩ = some (.slice Aa12 na12 ca12))) (by kernel_rfl) (by exact ⟨k_Ba0_0, k_Ba0_1, k_Ba1_0, k_Ba1_1, k_Ba1_2⟩) (fun hHeld => ?_)
    refine wpAnyH_take (i := 0) (oi := ⟨some 99, _, _, _, _, _⟩) (v := ?v20) rfl (by kernel_rfl) (by kernel_rfl) (by kernel_rfl) (fun _ _ _ h => h) (Or.inl ⟨by rfl, ?hy20⟩) (by assumption) ?_
    case hy20 => (intro w hSw; (try dsimp only at hSw); go_simp; try (with_reducible rfl))
    (try simp only [Act.put, List.setIfInBounds_toArray, List.set_cons_zero, List.set_cons_succ])
    refine wpAnyH_take (i := 2) (oi := ⟨some 101, _, _, _, _, _⟩) (v := ?v21) rfl (by kernel_rfl) (by kernel_rfl) (by kernel_rfl) (fun _ _ _ h => h) (Or.inl ⟨by rfl, ?hy21⟩) (by assumption) ?_
    case hy21 => (intro w hSw; (try dsimp only at hSw); go_simp; try (with_reducible rfl))
    (try simp only [Act.put, List.setIfInBounds_toArray, List.set_cons_zero, List.set_cons_succ])
    refine wpAnyH_take (i := 4) (oi := ⟨some 103, _, _, _, _, _⟩) (v := ?v22) rfl (by kernel_rfl) (by kernel_rfl) (by kernel_rfl) (fun _ _ _ h => h) (Or.inl ⟨by rfl, ?hy22⟩) (by assumption) ?_
    case hy22 => (intro w hSw; (try dsimp only at hSw); go_simp; try (with_reducible rfl))
    (try simp only [Act.put, List.setIfInBounds_toArray, List.set_cons_zero, List.set_cons_succ])
    refine wpAnyH_ready (rs := [1, 9]) (by kernel_rfl) (by simp) ?_
    refine AllReadyH.cons rfl (fun K hK => ?_) ?_
    · have hX19 : Below W18.heap.size W18 W18.drew := (by repeat (first | (with_reducible exact Below.refl _ _) | (with_reducible assumption) | (with_reducible refine bel_alloc ?_ _) | (with_reducible refine bel_drew ?_) | (with_reducible refine below_drewN ?_ _) | (with_reducible refine bel_put ?_ (by first | exact Nat.le_refl _ | (simp; done) | (simp; omega)) _)))
      go_simp
      go_at_call 17
      refine (o_toPool ((tPool).reach h0 (bel_trans hB18 hX19)) (by omega)).mono ?_
      rintro e W19 ⟨csy0, Fy0, rfl, o_y0, Ny0, hb_19⟩
      have hs19 : Below W18.heap.size W18 W19 := bel_trans (show Below W18.heap.size W18 W18.drew from (by repeat (first | (with_reducible exact Below.refl _ _) | (with_reducible assumption) | (with_reducible refine bel_alloc ?_ _) | (with_reducible refine bel_drew ?_) | (with_reducible refine below_drewN ?_ _) | (with_reducible refine bel_put ?_ (by first | exact Nat.le_refl _ | (simp; done) | (simp; omega)) _)))) hb_19
      have hx19 : Below W18.heap.size W18 W19 := hs19
      go_wp2_with fail
      refine hK.out _ _ (by exact ⟨cell_bel hx19 k_Ba0_0, cell_bel hx19 k_Ba0_1, cell_bel hx19 k_Ba1_0, cell_bel hx19 k_Ba1_1, cell_bel hx19 k_Ba1_2⟩) (fun hHeld => ?_)
      clear hK K
      (try simp only [Act.put, List.setIfInBounds_toArray, List.set_cons_zero, List.set_cons_succ])
      refine wpAnyH_ready (rs := [3, 9]) (by kernel_rfl) (by simp) ?_
      refine AllReadyH.cons rfl (fun K hK => ?_) ?_
      · have hX20 : Below W18.heap.size W18 W19 := hx19
        go_simp
        go_at_call 34
        refine (o_toHeld ((tHeld).reach h1 (bel_trans hB18 hX20)) (by omega)).mono ?_
        rintro e W20 ⟨csy1, Fy1, rfl, o_y1, Ny1, hb_20⟩
        have hs20 : Below W19.heap.size W19 W20 := bel_trans (show Below W19.heap.size W19 W19 from (by repeat (first | (with_reducible exact Below.refl _ _) | (with_reducible assumption) | (with_reducible refine bel_alloc ?_ _) | (with_reducible refine bel_drew ?_) | (with_reducible refine below_drewN ?_ _) | (with_reducible refine bel_put ?_ (by first | exact Nat.le_refl _ | (simp; done) | (simp; omega)) _)))) hb_20
        have hx20 : Below W18.heap.size W18 W20 := bel_trans hx19 hs20
        go_wp2_with fail
        refine hK.out _ _ (by exact ⟨cell_bel hx20 k_Ba0_0, cell_bel hx20 k_Ba0_1, cell_bel hx20 k_Ba1_0, cell_bel hx20 k_Ba1_1, cell_bel hx20 k_Ba1_2⟩) (fun hHeld => ?_)
        clear hK K
        (try simp only [Act.put, List.setIfInBounds_toArray, List.set_cons_zero, List.set_cons_succ])
        refine wpAnyH_ready (rs := [5, 9]) (by kernel_rfl) (by simp) ?_
        refine AllReadyH.cons rfl (fun K hK => ?_) ?_
        · have hX21 : Below W18.heap.size W18 W20 := hx20
          go_simp
          go_at_call 35
          refine (i_Admit ((tPool).reach ((tPool).read (Ty.below (t := tPool) o_y0 hs20)) (by repeat (first | (with_reducible exact Below.refl _ _) | (with_reducible assumption) | (with_reducible refine bel_alloc ?_ _) | (with_reducible refine bel_drew ?_) | (with_reducible refine below_drewN ?_ _) | (with_reducible refine bel_put ?_ (by first | exact Nat.le_refl _ | (simp; done) | (simp; omega)) _)))) (by omega) ((tHeld).reach ((tHeld).read o_y1) (by repeat (first | (with_reducible exact Below.refl _ _) | (with_reducible assumption) | (with_reducible refine bel_alloc ?_ _) | (with_reducible refine bel_drew ?_) | (with_reducible refine below_drewN ?_ _) | (with_reducible refine bel_put ?_ (by first | exact Nat.le_refl _ | (simp; done) | (simp; omega)) _)))) (by omega) w2).mono ?_
          rintro e W21 ⟨csh0, Fh0, rfl, o_h0, Nh, hb_21⟩
          rw [HR0.out] at o_h0
          rw [HR1.out]
          have oo_0 := o_h0
          obtain ⟨Ah00, ch00, Fh00, Ah01, ch01, Fh01, rfl, -, -, -, -, -, -, -⟩ := openOPool oo_0
          have hNw : New W18.heap.size (Fh0) := Nh.lower hX21.size
          have hs21 : Below W20.heap.size W20 W21 := bel_trans (show Below W20.heap.size W20 W20 from (by repeat (first | (with_reducible exact Below.refl _ _) | (with_reducible assumption) | (with_reducible refine bel_alloc ?_ _) | (with_reducible refine bel_drew ?_) | (with_reducible refine below_drewN ?_ _) | (with_reducible refine bel_put ?_ (by first | exact Nat.le_refl _ | (simp; done) | (simp; omega)) _)))) hb_21
          have hx21 : Below W18.heap.size W18 W21 := bel_trans hx20 hs21
          go_wp2_with fail
          refine hK.out _ _ (by exact ⟨cell_bel hx21 k_Ba0_0, cell_bel hx21 k_Ba0_1, cell_bel hx21 k_Ba1_0, cell_bel hx21 k_Ba1_1, cell_bel hx21 k_Ba1_2⟩) (fun hHeld => ?_)
          clear hK K
          (try simp only [Act.put, List.setIfInBounds_toArray, List.set_cons_zero, List.set_cons_succ])
          refine wpAnyH_take (i := 6) (oi := ⟨some 98, _, _, _, _, _⟩) (v := ?v23) rfl (by kernel_rfl) (by kernel_rfl) (by kernel_rfl) (fun _ _ _ h => h) (Or.inl ⟨by rfl, ?hy23⟩) (by assumption) ?_
          case hy23 => (intro w hSw; (try dsimp only at hSw); go_simp; try (with_reducible rfl))
          (try simp only [Act.put, List.setIfInBounds_toArray, List.set_cons_zero, List.set_cons_succ])
          refine wpAnyH_take (i := 7) (oi := ⟨some 105, _, _, _, _, _⟩) (v := ?v24) rfl (by kernel_rfl) (by kernel_rfl) (by kernel_rfl) (fun _ _ _ h => h) (Or.inl ⟨by rfl, ?hy24⟩) (by assumption) ?_
          case hy24 => (intro w hSw; (try dsimp only at hSw); go_simp; try (with_reducible rfl))
          (try simp only [Act.put, List.setIfInBounds_toArray, List.set_cons_zero, List.set_cons_succ])
          refine wpAnyH_take (i := 8) (oi := ⟨some 106, _, _, _, _, _⟩) (v := ?v25) rfl (by kernel_rfl) (by kernel_rfl) (by kernel_rfl) (fun _ _ _ h => h) (Or.inl ⟨by rfl, ?hy25⟩) (by assumption) ?_
          case hy25 => (intro w hSw; (try dsimp only at hSw); go_simp; try (with_reducible rfl))
          (try simp only [Act.put, List.setIfInBounds_toArray, List.set_cons_zero, List.set_cons_succ])
          refine wpAnyH_ready (rs := [9]) (by kernel_rfl) (by simp) ?_
          refine AllReadyH.cons rfl (fun K hK => ?_) ?_
          · go_simp
            refine hK.out _ _ (by exact ⟨cell_bel (show Below W18.heap.size W18 (W21.alloc (.cells #[.slice none 0 0, .slice none 0 0] 29)) from bel_alloc hx21 _) k_Ba0_0, cell_bel (show Below W18.heap.size W18 (W21.alloc (.cells #[.slice none 0 0, .slice none 0 0] 29)) from bel_alloc hx21 _) k_Ba0_1, cell_bel (show Below W18.heap.size W18 (W21.alloc (.cells #[.slice none 0 0, .slice none 0 0] 29)) from bel_alloc hx21 _) k_Ba1_0, cell_bel (show Below W18.heap.size W18 (W21.alloc (.cells #[.slice none 0 0, .slice none 0 0] 29)) from bel_alloc hx21 _) k_Ba1_1, cell_bel (show Below W18.heap.size W18 (W21.alloc (.cells #[.slice none 0 0, .slice none 0 0] 29)) from bel_alloc hx21 _) k_Ba1_2⟩) (fun hHeld => ?_)
            clear hK K
            (try simp only [Act.put, List.setIfInBounds_toArray, List.set_cons_zero, List.set_cons_succ])
            refine wpAnyH_ready (rs := [10]) (by kernel_rfl) (by simp) ?_
            refine AllReadyH.cons rfl (fun K hK => ?_) ?_
            · have hg1 : W18.heap.size ≤ W21.heap.size := hx21.size
              have Zg : Box (W21.alloc (.cells #[.slice Ah00 (r0.1).length ch00, .slice Ah01 (r0.2).length ch01] 29)) (W21.heap.size) 29 #[.slice Ah00 (r0.1).length ch00, .slice Ah01 (r0.2).length ch01] := Box.new _ _ _
              have hgF : ∀ f ∈ Fh0, ¬ f = W21.heap.size := fun f hf e => by (subst e; exact Nat.lt_irrefl _ ((tPool).lt o_h0 _ hf))
              have O_0 := Ty.below (t := tPool) o_h0 (show Below W21.heap.size W21 (W21.alloc (.cells #[.slice Ah00 (r0.1).length ch00, .slice Ah01 (r0.2).length ch01] 29)) from bel_alloc (Below.refl _ _) _)
              have hfin : Below W18.heap.size W18 (W21.alloc (.cells #[.slice Ah00 (r0.1).length ch00, .slice Ah01 (r0.2).length ch01] 29)) := bel_alloc hx21 _
              have hg2 := Zg.size
              go_simp
              refine hK.out _ _ (by exact ⟨cell_bel hfin k_Ba0_0, cell_bel hfin k_Ba0_1, cell_bel hfin k_Ba1_0, cell_bel hfin k_Ba1_1, cell_bel hfin k_Ba1_2⟩) (fun hHeld => ?_)
              clear hK K
              (try simp only [Act.put, List.setIfInBounds_toArray, List.set_cons_zero, List.set_cons_succ])
              refine wpAnyH_take (i := 11) (oi := ⟨some 18, _, _, _, _, _⟩) (v := ?v26) rfl (by kernel_rfl) (by kernel_rfl) (by kernel_rfl) (fun _ _ _ h => h) (Or.inl ⟨by rfl, ?hy26⟩) (by assumption) ?_
              case hy26 => (intro w hSw; (try dsimp only at hSw); go_simp; try (with_reducible rfl))
              (try simp only [Act.put, List.setIfInBounds_toArray, List.set_cons_zero, List.set_cons_succ])
              refine wpAnyH_done (by kernel_rfl) ?_ _
              go_wp2_with fail
              go_meet
              exact ⟨_, [.slice Ah00 (r0.1).length ch00, .slice Ah01 (r0.2).length ch01], _, rfl, rfl, by first | exact Zg | simpa using Zg, O_0, hNw, hgF, hfin, hg1, by first | exact hg2 | simpa [World.setCell] using hg2⟩
            exact AllReadyH.nil
          exact AllReadyH.nil
        refine AllReadyH.cons rfl (fun K hK => ?_) ?_
        · go_simp
          refine hK.out _ _ (by exact ⟨cell_bel (show Below W18.heap.size W18 (W20.alloc (.cells #[.slice none 0 0, .slice none 0 0] 29)) from bel_alloc hx20 _) k_Ba0_0, cell_bel (show Below W18.heap.size W18 (W20.alloc (.cells #[.slice none 0 0, .slice none 0 0] 29)) from bel_alloc hx20 _) k_Ba0_1, cell_bel (show Below W18.heap.size W18 (W20.alloc (.cells #[.slice none 0 0, .slice none 0 0] 29)) from bel_alloc hx20 _) k_Ba1_0, cell_bel (show Below W18.heap.size W18 (W20.alloc (.cells #[.slice none 0 0, .slice none 0 0] 29)) from bel_alloc hx20 _) k_Ba1_1, cell_bel (show Below W18.heap.size W18 (W20.alloc (.cells #[.slice none 0 0, .slice none 0 0] 29)) from bel_alloc hx20 _) k_Ba1_2⟩) (fun hHeld => ?_)
          clear hK K
          (try simp only [Act.put, List.setIfInBounds_toArray, List.set_cons_zero, List.set_cons_succ])
          refine wpAnyH_ready (rs := [5]) (by kernel_rfl) (by simp) ?_
          refine AllReadyH.cons rfl (fun K hK => ?_) ?_
          · have hX21 : Below W18.heap.size W18 (W20.alloc (.cells #[.slice none 0 0, .slice none 0 0] 29)) := bel_alloc hx20 _
            go_simp
            go_at_call 35
            refine (i_Admit ((tPool).reach ((tPool).read (Ty.below (t := tPool) o_y0 hs20)) (by repeat (first | (with_reducible exact Below.refl _ _) | (with_reducible assumption) | (with_reducible refine bel_alloc ?_ _) | (with_reducible refine bel_drew ?_) | (with_reducible refine below_drewN ?_ _) | (with_reducible refine bel_put ?_ (by first | exact Nat.le_refl _ | (simp; done) | (simp; omega)) _)))) (by omega) ((tHeld).reach ((tHeld).read o_y1) (by repeat (first | (with_reducible exact Below.refl _ _) | (with_reducible assumption) | (with_reducible refine bel_alloc ?_ _) | (with_reducible refine bel_drew ?_) | (with_reducible refine below_drewN ?_ _) | (with_reducible refine bel_put ?_ (by first | exact Nat.le_refl _ | (simp; done) | (simp; omega)) _)))) (by omega) w2).mono ?_
            rintro e W21 ⟨csh0, Fh0, rfl, o_h0, Nh, hb_21⟩
            rw [HR0.out] at o_h0
            rw [HR1.out]
            have oo_0 := o_h0
            obtain ⟨Ah00, ch00, Fh00, Ah01, ch01, Fh01, rfl, -, -, -, -, -, -, -⟩ := openOPool oo_0
            have hNw : New W18.heap.size (Fh0) := Nh.lower hX21.size
            have hs21 : Below W20.heap.size W20 W21 := bel_trans (show Below W20.heap.size W20 (W20.alloc (.cells #[.slice none 0 0, .slice none 0 0] 29)) from (by repeat (first | (with_reducible exact Below.refl _ _) | (with_reducible assumption) | (with_reducible refine bel_alloc ?_ _) | (with_reducible refine bel_drew ?_) | (with_reducible refine below_drewN ?_ _) | (with_reducible refine bel_put ?_ (by first | exact Nat.le_refl _ | (simp; done) | (simp; omega)) _)))) hb_21
            have hx21 : Below W18.heap.size W18 W21 := bel_trans hx20 hs21
            have Zb : Box (W20.alloc (.cells #[.slice none 0 0, .slice none 0 0] 29)) (W20.heap.size) 29 #[.slice none 0 0, .slice none 0 0] := (by first | exact Box.new _ _ _ | exact Box.drew (Box.new _ _ _))
            have hgX : W20.heap.size < (W20.alloc (.cells #[.slice none 0 0, .slice none 0 0] 29)).heap.size := Zb.size
            have hgF : ∀ f ∈ Fh0, ¬ f = W20.heap.size := fun f hf e => by (subst e; exact Nat.lt_irrefl _ (Nat.lt_of_lt_of_le hgX (Nh.2 _ hf)))
            replace Zb := Box.below Zb hb_21 Zb.size
            have zb0 := Zb.cell 0
            have zb1 := Zb.cell 1
            have zf0 := Zb.frozen 0
            have zf1 := Zb.frozen 1
            go_wp2_with fail
            refine hK.out _ _ (by exact ⟨cell_bel hx21 k_Ba0_0, cell_bel hx21 k_Ba0_1, cell_bel hx21 k_Ba1_0, cell_bel hx21 k_Ba1_1, cell_bel hx21 k_Ba1_2⟩) (fun hHeld => ?_)
            clear hK K
            (try simp only [Act.put, List.setIfInBounds_toArray, List.set_cons_zero, List.set_cons_succ])
            refine wpAnyH_take (i := 6) (oi := ⟨some 98, _, _, _, _, _⟩) (v := ?v27) rfl (by kernel_rfl) (by kernel_rfl) (by kernel_rfl) (fun _ _ _ h => h) (Or.inl ⟨by rfl, ?hy27⟩) (by assumption) ?_
            case hy27 => (intro w hSw; (try dsimp only at hSw); go_simp; try (with_reducible rfl))
            (try simp only [Act.put, List.setIfInBounds_toArray, List.set_cons_zero, List.set_cons_succ])
            refine wpAnyH_take (i := 7) (oi := ⟨some 105, _, _, _, _, _⟩) (v := ?v28) rfl (by kernel_rfl) (by kernel_rfl) (by kernel_rfl) (fun _ _ _ h => h) (Or.inl ⟨by rfl, ?hy28⟩) (by assumption) ?_
            case hy28 => (intro w hSw; (try dsimp only at hSw); go_simp; try (with_reducible rfl))
            (try simp only [Act.put, List.setIfInBounds_toArray, List.set_cons_zero, List.set_cons_succ])
            refine wpAnyH_take (i := 8) (oi := ⟨some 106, _, _, _, _, _⟩) (v := ?v29) rfl (by kernel_rfl) (by kernel_rfl) (by kernel_rfl) (fun _ _ _ h => h) (Or.inl ⟨by rfl, ?hy29⟩) (by assumption) ?_
            case hy29 => (intro w hSw; (try dsimp only at hSw); go_simp; try (with_reducible rfl))
            (try simp only [Act.put, List.setIfInBounds_toArray, List.set_cons_zero, List.set_cons_succ])
            refine wpAnyH_ready (rs := [10]) (by kernel_rfl) (by simp) ?_
            refine AllReadyH.cons rfl (fun K hK => ?_) ?_
            · have hg1 : W18.heap.size ≤ W20.heap.size := hx20.size
              have hfin := (bel_put (bel_put hx21 (p := ⟨W20.heap.size, 0, none⟩) hg1 (.slice Ah00 (r0.1).length ch00)) (p := ⟨W20.heap.size, 1, none⟩) hg1 (.slice Ah01 (r0.2).length ch01))
              have Zg := ((Zb.put 0 (.slice Ah00 (r0.1).length ch00)).put 1 (.slice Ah01 (r0.2).length ch01))
              have O_0 := (Ty.far3 (t := tPool) (Ty.far3 (t := tPool) o_h0 (p := ⟨W20.heap.size, 0, none⟩) (fun hx => hgF _ hx rfl) (.slice Ah00 (r0.1).length ch00)) (p := ⟨W20.heap.size, 1, none⟩) (fun hx => hgF _ hx rfl) (.slice Ah01 (r0.2).length ch01))
              have hg2 := Zg.size
              go_simp
              refine hK.out _ _ (by exact ⟨cell_bel hfin k_Ba0_0, cell_bel hfin k_Ba0_1, cell_bel hfin k_Ba1_0, cell_bel hfin k_Ba1_1, cell_bel hfin k_Ba1_2⟩) (fun hHeld => ?_)
              clear hK K
              (try simp only [Act.put, List.setIfInBounds_toArray, List.set_cons_zero, List.set_cons_succ])
              refine wpAnyH_take (i := 11) (oi := ⟨some 18, _, _, _, _, _⟩) (v := ?v30) rfl (by kernel_rfl) (by kernel_rfl) (by kernel_rfl) (fun _ _ _ h => h) (Or.inl ⟨by rfl, ?hy30⟩) (by assumption) ?_
              case hy30 => (intro w hSw; (try dsimp only at hSw); go_simp; try (with_reducible rfl))
              (try simp only [Act.put, List.setIfInBounds_toArray, List.set_cons_zero, List.set_cons_succ])
              refine wpAnyH_done (by kernel_rfl) ?_ _
              go_wp2_with fail
              go_meet
              exact ⟨_, [.slice Ah00 (r0.1).length ch00, .slice Ah01 (r0.2).length ch01], _, rfl, rfl, by first | exact Zg | simpa using Zg, O_0, hNw, hgF, hfin, hg1, by first | exact hg2 | simpa [World.setCell] using hg2⟩
            exact AllReadyH.nil
          exact AllReadyH.nil
        exact AllReadyH.nil
      refine AllReadyH.cons rfl (fun K hK => ?_) ?_
      · go_simp
        refine hK.out _ _ (by exact ⟨cell_bel (show Below W18.heap.size W18 (W19.alloc (.cells #[.slice none 0 0, .slice none 0 0] 29)) from bel_alloc hx19 _) k_Ba0_0, cell_bel (show Below W18.heap.size W18 (W19.alloc (.cells #[.slice none 0 0, .slice none 0 0] 29)) from bel_alloc hx19 _) k_Ba0_1, cell_bel (show Below W18.heap.size W18 (W19.alloc (.cells #[.slice none 0 0, .slice none 0 0] 29)) from bel_alloc hx19 _) k_Ba1_0, cell_bel (show Below W18.heap.size W18 (W19.alloc (.cells #[.slice none 0 0, .slice none 0 0] 29)) from bel_alloc hx19 _) k_Ba1_1, cell_bel (show Below W18.heap.size W18 (W19.alloc (.cells #[.slice none 0 0, .slice none 0 0] 29)) from bel_alloc hx19 _) k_Ba1_2⟩) (fun hHeld => ?_)
        clear hK K
        (try simp only [Act.put, List.setIfInBounds_toArray, List.set_cons_zero, List.set_cons_succ])
        refine wpAnyH_ready (rs := [3]) (by kernel_rfl) (by simp) ?_
        refine AllReadyH.cons rfl (fun K hK => ?_) ?_
        · have hX20 : Below W18.heap.size W18 (W19.alloc (.cells #[.slice none 0 0, .slice none 0 0] 29)) := bel_alloc hx19 _
          go_simp
          go_at_call 34
          refine (o_toHeld ((tHeld).reach h1 (bel_trans hB18 hX20)) (by omega)).mono ?_
          rintro e W20 ⟨csy1, Fy1, rfl, o_y1, Ny1, hb_20⟩
          have hs20 : Below W19.heap.size W19 W20 := bel_trans (show Below W19.heap.size W19 (W19.alloc (.cells #[.slice none 0 0, .slice none 0 0] 29)) from (by repeat (first | (with_reducible exact Below.refl _ _) | (with_reducible assumption) | (with_reducible refine bel_alloc ?_ _) | (with_reducible refine bel_drew ?_) | (with_reducible refine below_drewN ?_ _) | (with_reducible refine bel_put ?_ (by first | exact Nat.le_refl _ | (simp; done) | (simp; omega)) _)))) hb_20
          have hx20 : Below W18.heap.size W18 W20 := bel_trans hx19 hs20
          have Zb : Box (W19.alloc (.cells #[.slice none 0 0, .slice none 0 0] 29)) (W19.heap.size) 29 #[.slice none 0 0, .slice none 0 0] := (by first | exact Box.new _ _ _ | exact Box.drew (Box.new _ _ _))
          have hgX : W19.heap.size < (W19.alloc (.cells #[.slice none 0 0, .slice none 0 0] 29)).heap.size := Zb.size
          replace Zb := Box.below Zb hb_20 Zb.size
          go_wp2_with fail
          refine hK.out _ _ (by exact ⟨cell_bel hx20 k_Ba0_0, cell_bel hx20 k_Ba0_1, cell_bel hx20 k_Ba1_0, cell_bel hx20 k_Ba1_1, cell_bel hx20 k_Ba1_2⟩) (fun hHeld => ?_)
          clear hK K
          (try simp only [Act.put, List.setIfInBounds_toArray, List.set_cons_zero, List.set_cons_succ])
          refine wpAnyH_ready (rs := [5]) (by kernel_rfl) (by simp) ?_
          refine AllReadyH.cons rfl (fun K hK => ?_) ?_
          · have hX21 : Below W18.heap.size W18 W20 := hx20
            go_simp
            go_at_call 35
            refine (i_Admit ((tPool).reach ((tPool).read (Ty.below (t := tPool) o_y0 hs20)) (by repeat (first | (with_reducible exact Below.refl _ _) | (with_reducible assumption) | (with_reducible refine bel_alloc ?_ _) | (with_reducible refine bel_drew ?_) | (with_reducible refine below_drewN ?_ _) | (with_reducible refine bel_put ?_ (by first | exact Nat.le_refl _ | (simp; done) | (simp; omega)) _)))) (by omega) ((tHeld).reach ((tHeld).read o_y1) (by repeat (first | (with_reducible exact Below.refl _ _) | (with_reducible assumption) | (with_reducible refine bel_alloc ?_ _) | (with_reducible refine bel_drew ?_) | (with_reducible refine below_drewN ?_ _) | (with_reducible refine bel_put ?_ (by first | exact Nat.le_refl _ | (simp; done) | (simp; omega)) _)))) (by omega) w2).mono ?_
            rintro e W21 ⟨csh0, Fh0, rfl, o_h0, Nh, hb_21⟩
            rw [HR0.out] at o_h0
            rw [HR1.out]
            have oo_0 := o_h0
            obtain ⟨Ah00, ch00, Fh00, Ah01, ch01, Fh01, rfl, -, -, -, -, -, -, -⟩ := openOPool oo_0
            have hNw : New W18.heap.size (Fh0) := Nh.lower hX21.size
            have hs21 : Below W20.heap.size W20 W21 := bel_trans (show Below W20.heap.size W20 W20 from (by repeat (first | (with_reducible exact Below.refl _ _) | (with_reducible assumption) | (with_reducible refine bel_alloc ?_ _) | (with_reducible refine bel_drew ?_) | (with_reducible refine below_drewN ?_ _) | (with_reducible refine bel_put ?_ (by first | exact Nat.le_refl _ | (simp; done) | (simp; omega)) _)))) hb_21
            have hx21 : Below W18.heap.size W18 W21 := bel_trans hx20 hs21
            have hgX : W19.heap.size < W20.heap.size := Zb.size
            have hgF : ∀ f ∈ Fh0, ¬ f = W19.heap.size := fun f hf e => by (subst e; exact Nat.lt_irrefl _ (Nat.lt_of_lt_of_le hgX (Nh.2 _ hf)))
            replace Zb := Box.below Zb hb_21 Zb.size
            have zb0 := Zb.cell 0
            have zb1 := Zb.cell 1
            have zf0 := Zb.frozen 0
            have zf1 := Zb.frozen 1
            go_wp2_with fail
            refine hK.out _ _ (by exact ⟨cell_bel hx21 k_Ba0_0, cell_bel hx21 k_Ba0_1, cell_bel hx21 k_Ba1_0, cell_bel hx21 k_Ba1_1, cell_bel hx21 k_Ba1_2⟩) (fun hHeld => ?_)
            clear hK K
            (try simp only [Act.put, List.setIfInBounds_toArray, List.set_cons_zero, List.set_cons_succ])
            refine wpAnyH_take (i := 6) (oi := ⟨some 98, _, _, _, _, _⟩) (v := ?v31) rfl (by kernel_rfl) (by kernel_rfl) (by kernel_rfl) (fun _ _ _ h => h) (Or.inl ⟨by rfl, ?hy31⟩) (by assumption) ?_
            case hy31 => (intro w hSw; (try dsimp only at hSw); go_simp; try (with_reducible rfl))
            (try simp only [Act.put, List.setIfInBounds_toArray, List.set_cons_zero, List.set_cons_succ])
            refine wpAnyH_take (i := 7) (oi := ⟨some 105, _, _, _, _, _⟩) (v := ?v32) rfl (by kernel_rfl) (by kernel_rfl) (by kernel_rfl) (fun _ _ _ h => h) (Or.inl ⟨by rfl, ?hy32⟩) (by assumption) ?_
            case hy32 => (intro w hSw; (try dsimp only at hSw); go_simp; try (with_reducible rfl))
            (try simp only [Act.put, List.setIfInBounds_toArray, List.set_cons_zero, List.set_cons_succ])
            refine wpAnyH_take (i := 8) (oi := ⟨some 106, _, _, _, _, _⟩) (v := ?v33) rfl (by kernel_rfl) (by kernel_rfl) (by kernel_rfl) (fun _ _ _ h => h) (Or.inl ⟨by rfl, ?hy33⟩) (by assumption) ?_
            case hy33 => (intro w hSw; (try dsimp only at hSw); go_simp; try (with_reducible rfl))
            (try simp only [Act.put, List.setIfInBounds_toArray, List.set_cons_zero, List.set_cons_succ])
            refine wpAnyH_ready (rs := [10]) (by kernel_rfl) (by simp) ?_
            refine AllReadyH.cons rfl (fun K hK => ?_) ?_
            · have hg1 : W18.heap.size ≤ W19.heap.size := hx19.size
              have hfin := (bel_put (bel_put hx21 (p := ⟨W19.heap.size, 0, none⟩) hg1 (.slice Ah00 (r0.1).length ch00)) (p := ⟨W19.heap.size, 1, none⟩) hg1 (.slice Ah01 (r0.2).length ch01))
              have Zg := ((Zb.put 0 (.slice Ah00 (r0.1).length ch00)).put 1 (.slice Ah01 (r0.2).length ch01))
              have O_0 := (Ty.far3 (t := tPool) (Ty.far3 (t := tPool) o_h0 (p := ⟨W19.heap.size, 0, none⟩) (fun hx => hgF _ hx rfl) (.slice Ah00 (r0.1).length ch00)) (p := ⟨W19.heap.size, 1, none⟩) (fun hx => hgF _ hx rfl) (.slice Ah01 (r0.2).length ch01))
              have hg2 := Zg.size
              go_simp
              refine hK.out _ _ (by exact ⟨cell_bel hfin k_Ba0_0, cell_bel hfin k_Ba0_1, cell_bel hfin k_Ba1_0, cell_bel hfin k_Ba1_1, cell_bel hfin k_Ba1_2⟩) (fun hHeld => ?_)
              clear hK K
              (try simp only [Act.put, List.setIfInBounds_toArray, List.set_cons_zero, List.set_cons_succ])
              refine wpAnyH_take (i := 11) (oi := ⟨some 18, _, _, _, _, _⟩) (v := ?v34) rfl (by kernel_rfl) (by kernel_rfl) (by kernel_rfl) (fun _ _ _ h => h) (Or.inl ⟨by rfl, ?hy34⟩) (by assumption) ?_
              case hy34 => (intro w hSw; (try dsimp only at hSw); go_simp; try (with_reducible rfl))
              (try simp only [Act.put, List.setIfInBounds_toArray, List.set_cons_zero, List.set_cons_succ])
              refine wpAnyH_done (by kernel_rfl) ?_ _
              go_wp2_with fail
              go_meet
              exact ⟨_, [.slice Ah00 (r0.1).length ch00, .slice Ah01 (r0.2).length ch01], _, rfl, rfl, by first | exact Zg | simpa using Zg, O_0, hNw, hgF, hfin, hg1, by first | exact hg2 | simpa [World.setCell] using hg2⟩
            exact AllReadyH.nil
          exact AllReadyH.nil
        exact AllReadyH.nil
      exact AllReadyH.nil
    refine AllReadyH.cons rfl (fun K hK => ?_) ?_
    · go_simp
      refine hK.out _ _ (by exact ⟨cell_bel (show Below W18.heap.size W18 (W18.alloc (.cells #[.slice none 0 0, .slice none 0 0] 29)).drew from (by repeat (first | (with_reducible exact Below.refl _ _) | (with_reducible assumption) | (with_reducible refine bel_alloc ?_ _) | (with_reducible refine bel_drew ?_) | (with_reducible refine below_drewN ?_ _) | (with_reducible refine bel_put ?_ (by first | exact Nat.le_refl _ | (simp; done) | (simp; omega)) _)))) k_Ba0_0, cell_bel (show Below W18.heap.size W18 (W18.alloc (.cells #[.slice none 0 0, .slice none 0 0] 29)).drew from (by repeat (first | (with_reducible exact Below.refl _ _) | (with_reducible assumption) | (with_reducible refine bel_alloc ?_ _) | (with_reducible refine bel_drew ?_) | (with_reducible refine below_drewN ?_ _) | (with_reducible refine bel_put ?_ (by first | exact Nat.le_refl _ | (simp; done) | (simp; omega)) _)))) k_Ba0_1, cell_bel (show Below W18.heap.size W18 (W18.alloc (.cells #[.slice none 0 0, .slice none 0 0] 29)).drew from (by repeat (first | (with_reducible exact Below.refl _ _) | (with_reducible assumption) | (with_reducible refine bel_alloc ?_ _) | (with_reducible refine bel_drew ?_) | (with_reducible refine below_drewN ?_ _) | (with_reducible refine bel_put ?_ (by first | exact Nat.le_refl _ | (simp; done) | (simp; omega)) _)))) k_Ba1_0, cell_bel (show Below W18.heap.size W18 (W18.alloc (.cells #[.slice none 0 0, .slice none 0 0] 29)).drew from (by repeat (first | (with_reducible exact Below.refl _ _) | (with_reducible assumption) | (with_reducible refine bel_alloc ?_ _) | (with_reducible refine bel_drew ?_) | (with_reducible refine below_drewN ?_ _) | (with_reducible refine bel_put ?_ (by first | exact Nat.le_refl _ | (simp; done) | (simp; omega)) _)))) k_Ba1_1, cell_bel (show Below W18.heap.size W18 (W18.alloc (.cells #[.slice none 0 0, .slice none 0 0] 29)).drew from (by repeat (first | (with_reducible exact Below.refl _ _) | (with_reducible assumption) | (with_reducible refine bel_alloc ?_ _) | (with_reducible refine bel_drew ?_) | (with_reducible refine below_drewN ?_ _) | (with_reducible refine bel_put ?_ (by first | exact Nat.le_refl _ | (simp; done) | (simp; omega)) _)))) k_Ba1_2⟩) (fun hHeld => ?_)
      clear hK K
      (try simp only [Act.put, List.setIfInBounds_toArray, List.set_cons_zero, List.set_cons_succ])
      refine wpAnyH_ready (rs := [1]) (by kernel_rfl) (by simp) ?_
      refine AllReadyH.cons rfl (fun K hK => ?_) ?_
      · have hX19 : Below W18.heap.size W18 (W18.alloc (.cells #[.slice none 0 0, .slice none 0 0] 29)).drew := (by repeat (first | (with_reducible exact Below.refl _ _) | (with_reducible assumption) | (with_reducible refine bel_alloc ?_ _) | (with_reducible refine bel_drew ?_) | (with_reducible refine below_drewN ?_ _) | (with_reducible refine bel_put ?_ (by first | exact Nat.le_refl _ | (simp; done) | (simp; omega)) _)))
        go_simp
        go_at_call 17
        refine (o_toPool ((tPool).reach h0 (bel_trans hB18 hX19)) (by omega)).mono ?_
        rintro e W19 ⟨csy0, Fy0, rfl, o_y0, Ny0, hb_19⟩
        have hs19 : Below W18.heap.size W18 W19 := bel_trans (show Below W18.heap.size W18 (W18.alloc (.cells #[.slice none 0 0, .slice none 0 0] 29)).drew from (by repeat (first | (with_reducible exact Below.refl _ _) | (with_reducible assumption) | (with_reducible refine bel_alloc ?_ _) | (with_reducible refine bel_drew ?_) | (with_reducible refine below_drewN ?_ _) | (with_reducible refine bel_put ?_ (by first | exact Nat.le_refl _ | (simp; done) | (simp; omega)) _)))) hb_19
        have hx19 : Below W18.heap.size W18 W19 := hs19
        have Zb : Box (W18.alloc (.cells #[.slice none 0 0, .slice none 0 0] 29)).drew (W18.heap.size) 29 #[.slice none 0 0, .slice none 0 0] := (by first | exact Box.new _ _ _ | exact Box.drew (Box.new _ _ _))
        have hgX : W18.heap.size < (W18.alloc (.cells #[.slice none 0 0, .slice none 0 0] 29)).drew.heap.size := Zb.size
        replace Zb := Box.below Zb hb_19 Zb.size
        go_wp2_with fail
        refine hK.out _ _ (by exact ⟨cell_bel hx19 k_Ba0_0, cell_bel hx19 k_Ba0_1, cell_bel hx19 k_Ba1_0, cell_bel hx19 k_Ba1_1, cell_bel hx19 k_Ba1_2⟩) (fun hHeld => ?_)
        clear hK K
        (try simp only [Act.put, List.setIfInBounds_toArray, List.set_cons_zero, List.set_cons_succ])
        refine wpAnyH_ready (rs := [3]) (by kernel_rfl) (by simp) ?_
        refine AllReadyH.cons rfl (fun K hK => ?_) ?_
        · have hX20 : Below W18.heap.size W18 W19 := hx19
          go_simp
          go_at_call 34
          refine (o_toHeld ((tHeld).reach h1 (bel_trans hB18 hX20)) (by omega)).mono ?_
          rintro e W20 ⟨csy1, Fy1, rfl, o_y1, Ny1, hb_20⟩
          have hs20 : Below W19.heap.size W19 W20 := bel_trans (show Below W19.heap.size W19 W19 from (by repeat (first | (with_reducible exact Below.refl _ _) | (with_reducible assumption) | (with_reducible refine bel_alloc ?_ _) | (with_reducible refine bel_drew ?_) | (with_reducible refine below_drewN ?_ _) | (with_reducible refine bel_put ?_ (by first | exact Nat.le_refl _ | (simp; done) | (simp; omega)) _)))) hb_20
          have hx20 : Below W18.heap.size W18 W20 := bel_trans hx19 hs20
          have hgX : W18.heap.size < W19.heap.size := Zb.size
          replace Zb := Box.below Zb hb_20 Zb.size
          go_wp2_with fail
          refine hK.out _ _ (by exact ⟨cell_bel hx20 k_Ba0_0, cell_bel hx20 k_Ba0_1, cell_bel hx20 k_Ba1_0, cell_bel hx20 k_Ba1_1, cell_bel hx20 k_Ba1_2⟩) (fun hHeld => ?_)
          clear hK K
          (try simp only [Act.put, List.setIfInBounds_toArray, List.set_cons_zero, List.set_cons_succ])
          refine wpAnyH_ready (rs := [5]) (by kernel_rfl) (by simp) ?_
          refine AllReadyH.cons rfl (fun K hK => ?_) ?_
          · have hX21 : Below W18.heap.size W18 W20 := hx20
            go_simp
            go_at_call 35
            refine (i_Admit ((tPool).reach ((tPool).read (Ty.below (t := tPool) o_y0 hs20)) (by repeat (first | (with_reducible exact Below.refl _ _) | (with_reducible assumption) | (with_reducible refine bel_alloc ?_ _) | (with_reducible refine bel_drew ?_) | (with_reducible refine below_drewN ?_ _) | (with_reducible refine bel_put ?_ (by first | exact Nat.le_refl _ | (simp; done) | (simp; omega)) _)))) (by omega) ((tHeld).reach ((tHeld).read o_y1) (by repeat (first | (with_reducible exact Below.refl _ _) | (with_reducible assumption) | (with_reducible refine bel_alloc ?_ _) | (with_reducible refine bel_drew ?_) | (with_reducible refine below_drewN ?_ _) | (with_reducible refine bel_put ?_ (by first | exact Nat.le_refl _ | (simp; done) | (simp; omega)) _)))) (by omega) w2).mono ?_
            rintro e W21 ⟨csh0, Fh0, rfl, o_h0, Nh, hb_21⟩
            rw [HR0.out] at o_h0
            rw [HR1.out]
            have oo_0 := o_h0
            obtain ⟨Ah00, ch00, Fh00, Ah01, ch01, Fh01, rfl, -, -, -, -, -, -, -⟩ := openOPool oo_0
            have hNw : New W18.heap.size (Fh0) := Nh.lower hX21.size
            have hs21 : Below W20.heap.size W20 W21 := bel_trans (show Below W20.heap.size W20 W20 from (by repeat (first | (with_reducible exact Below.refl _ _) | (with_reducible assumption) | (with_reducible refine bel_alloc ?_ _) | (with_reducible refine bel_drew ?_) | (with_reducible refine below_drewN ?_ _) | (with_reducible refine bel_put ?_ (by first | exact Nat.le_refl _ | (simp; done) | (simp; omega)) _)))) hb_21
            have hx21 : Below W18.heap.size W18 W21 := bel_trans hx20 hs21
            have hgX : W18.heap.size < W20.heap.size := Zb.size
            have hgF : ∀ f ∈ Fh0, ¬ f = W18.heap.size := fun f hf e => by (subst e; exact Nat.lt_irrefl _ (Nat.lt_of_lt_of_le hgX (Nh.2 _ hf)))
            replace Zb := Box.below Zb hb_21 Zb.size
            have zb0 := Zb.cell 0
            have zb1 := Zb.cell 1
            have zf0 := Zb.frozen 0
            have zf1 := Zb.frozen 1
            go_wp2_with fail
            refine hK.out _ _ (by exact ⟨cell_bel hx21 k_Ba0_0, cell_bel hx21 k_Ba0_1, cell_bel hx21 k_Ba1_0, cell_bel hx21 k_Ba1_1, cell_bel hx21 k_Ba1_2⟩) (fun hHeld => ?_)
            clear hK K
            (try simp only [Act.put, List.setIfInBounds_toArray, List.set_cons_zero, List.set_cons_succ])
            refine wpAnyH_take (i := 6) (oi := ⟨some 98, _, _, _, _, _⟩) (v := ?v35) rfl (by kernel_rfl) (by kernel_rfl) (by kernel_rfl) (fun _ _ _ h => h) (Or.inl ⟨by rfl, ?hy35⟩) (by assumption) ?_
            case hy35 => (intro w hSw; (try dsimp only at hSw); go_simp; try (with_reducible rfl))
            (try simp only [Act.put, List.setIfInBounds_toArray, List.set_cons_zero, List.set_cons_succ])
            refine wpAnyH_take (i := 7) (oi := ⟨some 105, _, _, _, _, _⟩) (v := ?v36) rfl (by kernel_rfl) (by kernel_rfl) (by kernel_rfl) (fun _ _ _ h => h) (Or.inl ⟨by rfl, ?hy36⟩) (by assumption) ?_
            case hy36 => (intro w hSw; (try dsimp only at hSw); go_simp; try (with_reducible rfl))
            (try simp only [Act.put, List.setIfInBounds_toArray, List.set_cons_zero, List.set_cons_succ])
            refine wpAnyH_take (i := 8) (oi := ⟨some 106, _, _, _, _, _⟩) (v := ?v37) rfl (by kernel_rfl) (by kernel_rfl) (by kernel_rfl) (fun _ _ _ h => h) (Or.inl ⟨by rfl, ?hy37⟩) (by assumption) ?_
            case hy37 => (intro w hSw; (try dsimp only at hSw); go_simp; try (with_reducible rfl))
            (try simp only [Act.put, List.setIfInBounds_toArray, List.set_cons_zero, List.set_cons_succ])
            refine wpAnyH_ready (rs := [10]) (by kernel_rfl) (by simp) ?_
            refine AllReadyH.cons rfl (fun K hK => ?_) ?_
            · have hg1 : W18.heap.size ≤ W18.heap.size := Nat.le_refl _
              have hfin := (bel_put (bel_put hx21 (p := ⟨W18.heap.size, 0, none⟩) hg1 (.slice Ah00 (r0.1).length ch00)) (p := ⟨W18.heap.size, 1, none⟩) hg1 (.slice Ah01 (r0.2).length ch01))
              have Zg := ((Zb.put 0 (.slice Ah00 (r0.1).length ch00)).put 1 (.slice Ah01 (r0.2).length ch01))
              have O_0 := (Ty.far3 (t := tPool) (Ty.far3 (t := tPool) o_h0 (p := ⟨W18.heap.size, 0, none⟩) (fun hx => hgF _ hx rfl) (.slice Ah00 (r0.1).length ch00)) (p := ⟨W18.heap.size, 1, none⟩) (fun hx => hgF _ hx rfl) (.slice Ah01 (r0.2).length ch01))
              have hg2 := Zg.size
              go_simp
              refine hK.out _ _ (by exact ⟨cell_bel hfin k_Ba0_0, cell_bel hfin k_Ba0_1, cell_bel hfin k_Ba1_0, cell_bel hfin k_Ba1_1, cell_bel hfin k_Ba1_2⟩) (fun hHeld => ?_)
              clear hK K
              (try simp only [Act.put, List.setIfInBounds_toArray, List.set_cons_zero, List.set_cons_succ])
              refine wpAnyH_take (i := 11) (oi := ⟨some 18, _, _, _, _, _⟩) (v := ?v38) rfl (by kernel_rfl) (by kernel_rfl) (by kernel_rfl) (fun _ _ _ h => h) (Or.inl ⟨by rfl, ?hy38⟩) (by assumption) ?_
              case hy38 => (intro w hSw; (try dsimp only at hSw); go_simp; try (with_reducible rfl))
              (try simp only [Act.put, List.setIfInBounds_toArray, List.set_cons_zero, List.set_cons_succ])
              refine wpAnyH_done (by kernel_rfl) ?_ _
              go_wp2_with fail
              go_meet
              exact ⟨_, [.slice Ah00 (r0.1).length ch00, .slice Ah01 (r0.2).length ch01], _, rfl, rfl, by first | exact Zg | simpa using Zg, O_0, hNw, hgF, hfin, hg1, by first | exact hg2 | simpa [World.setCell] using hg2⟩
            exact AllReadyH.nil
          exact AllReadyH.nil
        exact AllReadyH.nil
      exact AllReadyH.nil
    exact AllReadyH.nil
  case rest =>
  obtain ⟨gh, csh0, Fh0, rfl, rfl, Zg, o_h0, Nh, hgF, hsx, hg1, hg2⟩ := hcut
  generalize wc = W21 at *
  clear k_Ba0_0 k_Ba0_1
  clear k_Ba1_0 k_Ba1_1 k_Ba1_2
  clear k_Bs0_0 k_Bs0_1
  clear k_Bx0_0 k_Bx0_1
  clear k_Bx1_0 k_Bx1_1 k_Bx1_2
  clear k_Bg0_0 k_Bg0_1
  have z21 : W18.heap.size + 0 ≤ W21.heap.size := hsx.size
  have hB21 : Below w.heap.size w W21 := bel_trans hB18 hsx
  replace Ba0 := Ba0.below hsx Ba0.size
  replace Ba1 := Ba1.below hsx Ba1.size
  replace Bs0 := Bs0.below hsx Bs0.size
  replace Bx0 := Bx0.below hsx Bx0.size
  replace Bx1 := Bx1.below hsx Bx1.size
  replace Bg0 := Bg0.below hsx Bg0.size
  replace o_g0 := Ty.below (t := tPool) o_g0 hsx
  replace r_s0 := (tPool).keep r_s0 (fun b hb => hsx.block b (Nat.lt_of_lt_of_le hb (by omega)))
  obtain ⟨Ah00, ch00, Fh00, Ah01, ch01, Fh01, rfl, -, -, -, -, -, -, -⟩ := openOPool o_h0
  have Bh0 : Box W21 gh 29 #[.slice Ah00 (r0.1).length ch00, .slice Ah01 (r0.2).length ch01] := by simpa using Zg
  clear Zg
  have k_Ba0_0 : W21.cell? ⟨w.heap.size, 0, none⟩ = some (.slice Aa00 na00 ca00) := Ba0.cell 0
  have k_Ba0_1 : W21.cell? ⟨w.heap.size, 1, none⟩ = some (.slice Aa01 na01 ca01) := Ba0.cell 1
  have k_Ba1_0 : W21.cell? ⟨w.heap.size + 1, 0, none⟩ = some (.int .i64 (p1.1)) := Ba1.cell 0
  have k_Ba1_1 : W21.cell? ⟨w.heap.size + 1, 1, none⟩ = some (.int .i64 (p1.2.1)) := Ba1.cell 1
  have k_Ba1_2 : W21.cell? ⟨w.heap.size + 1, 2, none⟩ = some (.slice Aa12 na12 ca12) := Ba1.cell 2
  have k_Bs0_0 : W21.cell? ⟨gs, 0, none⟩ = some (.slice As00 (r0.1).length cs00) := Bs0.cell 0
  have k_Bs0_1 : W21.cell? ⟨gs, 1, none⟩ = some (.slice As01 (r0.2).length cs01) := Bs0.cell 1
  have k_Bx0_0 : W21.cell? ⟨W6.heap.size, 0, none⟩ = some (.slice Ax00 (p0.1).length cx00) := Bx0.cell 0
  have k_Bx0_1 : W21.cell? ⟨W6.heap.size, 1, none⟩ = some (.slice Ax01 (p0.2).length cx01) := Bx0.cell 1
  have k_Bx1_0 : W21.cell? ⟨W7.heap.size, 0, none⟩ = some (.int .i64 (p1.1)) := Bx1.cell 0
  have k_Bx1_1 : W21.cell? ⟨W7.heap.size, 1, none⟩ = some (.int .i64 (p1.2.1)) := Bx1.cell 1
  have k_Bx1_2 : W21.cell? ⟨W7.heap.size, 2, none⟩ = some (.slice Ax12 (p1.2.2).length cx12) := Bx1.cell 2
  have k_Bg0_0 : W21.cell? ⟨W8.heap.size, 0, none⟩ = some (.slice Ag00 (r0.1).length cg00) := Bg0.cell 0
  have k_Bg0_1 : W21.cell? ⟨W8.heap.size, 1, none⟩ = some (.slice Ag01 (r0.2).length cg01) := Bg0.cell 1
  have k_Bh0_0 : W21.cell? ⟨gh, 0, none⟩ = some (.slice Ah00 (r0.1).length ch00) := Bh0.cell 0
  have k_Bh0_1 : W21.cell? ⟨gh, 1, none⟩ = some (.slice Ah01 (r0.2).length ch01) := Bh0.cell 1
  have Ih0 : ∀ f ∈ Fh0, W18.heap.size + 0 ≤ f ∧ f < W21.heap.size := fun f hf => ⟨Nh.2 f (by simp [hf]), (tPool).lt o_h0 f hf⟩
  clear Nh hgF
  clear hsx
  go_wp2_with fail
  refine (o_eqPool ((tPool).reach ((tPool).read o_h0) ?hB) ((tPool).reach ((tPool).up r_s0 (by omega : W5.heap.size ≤ W21.heap.size)) ?hB)).mono ?_
  all_goals try (case hB => exact (by repeat (first | (with_reducible exact Below.refl _ _) | (with_reducible assumption) | (with_reducible refine bel_alloc ?_ _) | (with_reducible refine bel_drew ?_) | (with_reducible refine below_drewN ?_ _) | (with_reducible refine bel_put ?_ (by first | exact Nat.le_refl _ | (simp; done) | (simp; omega)) _))))
  rintro e W22 ⟨rfl, hb_⟩
  clear k_Ba0_0 k_Ba0_1
  clear k_Ba1_0 k_Ba1_1 k_Ba1_2
  clear k_Bs0_0 k_Bs0_1
  clear k_Bx0_0 k_Bx0_1
  clear k_Bx1_0 k_Bx1_1 k_Bx1_2
  clear k_Bg0_0 k_Bg0_1
  clear k_Bh0_0 k_Bh0_1
  have hs22 : Below W21.heap.size W21 W22 := bel_trans (by repeat (first | (with_reducible exact Below.refl _ _) | (with_reducible assumption) | (with_reducible refine bel_alloc ?_ _) | (with_reducible refine bel_drew ?_) | (with_reducible refine below_drewN ?_ _) | (with_reducible refine bel_put ?_ (by first | exact Nat.le_refl _ | (simp; done) | (simp; omega)) _))) hb_
  have z22 : W21.heap.size + 0 ≤ W22.heap.size := by have := hb_.size; simpa using this
  have hB22 : Below w.heap.size w W22 := bel_trans hB21 hs22
  replace Ba0 := Ba0.below hs22 Ba0.size
  replace Ba1 := Ba1.below hs22 Ba1.size
  replace Bs0 := Bs0.below hs22 Bs0.size
  replace Bx0 := Bx0.below hs22 Bx0.size
  replace Bx1 := Bx1.below hs22 Bx1.size
  replace Bg0 := Bg0.below hs22 Bg0.size
  replace Bh0 := Bh0.below hs22 Bh0.size
  replace o_g0 := Ty.below (t := tPool) o_g0 hs22
  replace o_h0 := Ty.below (t := tPool) o_h0 hs22
  replace r_s0 := (tPool).keep r_s0 (fun b hb => hs22.block b (Nat.lt_of_lt_of_le hb (by omega)))
  have k_Ba0_0 : W22.cell? ⟨w.heap.size, 0, none⟩ = some (.slice Aa00 na00 ca00) := Ba0.cell 0
  have k_Ba0_1 : W22.cell? ⟨w.heap.size, 1, none⟩ = some (.slice Aa01 na01 ca01) := Ba0.cell 1
  have k_Ba1_0 : W22.cell? ⟨w.heap.size + 1, 0, none⟩ = some (.int .i64 (p1.1)) := Ba1.cell 0
  have k_Ba1_1 : W22.cell? ⟨w.heap.size + 1, 1, none⟩ = some (.int .i64 (p1.2.1)) := Ba1.cell 1
  have k_Ba1_2 : W22.cell? ⟨w.heap.size + 1, 2, none⟩ = some (.slice Aa12 na12 ca12) := Ba1.cell 2
  have k_Bs0_0 : W22.cell? ⟨gs, 0, none⟩ = some (.slice As00 (r0.1).length cs00) := Bs0.cell 0
  have k_Bs0_1 : W22.cell? ⟨gs, 1, none⟩ = some (.slice As01 (r0.2).length cs01) := Bs0.cell 1
  have k_Bx0_0 : W22.cell? ⟨W6.heap.size, 0, none⟩ = some (.slice Ax00 (p0.1).length cx00) := Bx0.cell 0
  have k_Bx0_1 : W22.cell? ⟨W6.heap.size, 1, none⟩ = some (.slice Ax01 (p0.2).length cx01) := Bx0.cell 1
  have k_Bx1_0 : W22.cell? ⟨W7.heap.size, 0, none⟩ = some (.int .i64 (p1.1)) := Bx1.cell 0
  have k_Bx1_1 : W22.cell? ⟨W7.heap.size, 1, none⟩ = some (.int .i64 (p1.2.1)) := Bx1.cell 1
  have k_Bx1_2 : W22.cell? ⟨W7.heap.size, 2, none⟩ = some (.slice Ax12 (p1.2.2).length cx12) := Bx1.cell 2
  have k_Bg0_0 : W22.cell? ⟨W8.heap.size, 0, none⟩ = some (.slice Ag00 (r0.1).length cg00) := Bg0.cell 0
  have k_Bg0_1 : W22.cell? ⟨W8.heap.size, 1, none⟩ = some (.slice Ag01 (r0.2).length cg01) := Bg0.cell 1
  have k_Bh0_0 : W22.cell? ⟨gh, 0, none⟩ = some (.slice Ah00 (r0.1).length ch00) := Bh0.cell 0
  have k_Bh0_1 : W22.cell? ⟨gh, 1, none⟩ = some (.slice Ah01 (r0.2).length ch01) := Bh0.cell 1
  clear hb_
  go_wp2_with fail
  refine (o_heldPool (1) ((tPool).reach ((tPool).read o_g0) ?hB) (by omega) (by omega)).mono ?_
  all_goals try (case hB => exact (by repeat (first | (with_reducible exact Below.refl _ _) | (with_reducible assumption) | (with_reducible refine bel_alloc ?_ _) | (with_reducible refine bel_drew ?_) | (with_reducible refine below_drewN ?_ _) | (with_reducible refine bel_put ?_ (by first | exact Nat.le_refl _ | (simp; done) | (simp; omega)) _))))
  rintro e W23 ⟨rfl, hb_⟩
  clear k_Ba0_0 k_Ba0_1
  clear k_Ba1_0 k_Ba1_1 k_Ba1_2
  clear k_Bs0_0 k_Bs0_1
  clear k_Bx0_0 k_Bx0_1
  clear k_Bx1_0 k_Bx1_1 k_Bx1_2
  clear k_Bg0_0 k_Bg0_1
  clear k_Bh0_0 k_Bh0_1
  have hs23 : Below W22.heap.size W22 W23 := bel_trans (by repeat (first | (with_reducible exact Below.refl _ _) | (with_reducible assumption) | (with_reducible refine bel_alloc ?_ _) | (with_reducible refine bel_drew ?_) | (with_reducible refine below_drewN ?_ _) | (with_reducible refine bel_put ?_ (by first | exact Nat.le_refl _ | (simp; done) | (simp; omega)) _))) hb_
  have z23 : W22.heap.size + 0 ≤ W23.heap.size := by have := hb_.size; simpa using this
  have hB23 : Below w.heap.size w W23 := bel_trans hB22 hs23
  replace Ba0 := Ba0.below hs23 Ba0.size
  replace Ba1 := Ba1.below hs23 Ba1.size
  replace Bs0 := Bs0.below hs23 Bs0.size
  replace Bx0 := Bx0.below hs23 Bx0.size
  replace Bx1 := Bx1.below hs23 Bx1.size
  replace Bg0 := Bg0.below hs23 Bg0.size
  replace Bh0 := Bh0.below hs23 Bh0.size
  replace o_g0 := Ty.below (t := tPool) o_g0 hs23
  replace o_h0 := Ty.below (t := tPool) o_h0 hs23
  replace r_s0 := (tPool).keep r_s0 (fun b hb => hs23.block b (Nat.lt_of_lt_of_le hb (by omega)))
  have k_Ba0_0 : W23.cell? ⟨w.heap.size, 0, none⟩ = some (.slice Aa00 na00 ca00) := Ba0.cell 0
  have k_Ba0_1 : W23.cell? ⟨w.heap.size, 1, none⟩ = some (.slice Aa01 na01 ca01) := Ba0.cell 1
  have k_Ba1_0 : W23.cell? ⟨w.heap.size + 1, 0, none⟩ = some (.int .i64 (p1.1)) := Ba1.cell 0
  have k_Ba1_1 : W23.cell? ⟨w.heap.size + 1, 1, none⟩ = some (.int .i64 (p1.2.1)) := Ba1.cell 1
  have k_Ba1_2 : W23.cell? ⟨w.heap.size + 1, 2, none⟩ = some (.slice Aa12 na12 ca12) := Ba1.cell 2
  have k_Bs0_0 : W23.cell? ⟨gs, 0, none⟩ = some (.slice As00 (r0.1).length cs00) := Bs0.cell 0
  have k_Bs0_1 : W23.cell? ⟨gs, 1, none⟩ = some (.slice As01 (r0.2).length cs01) := Bs0.cell 1
  have k_Bx0_0 : W23.cell? ⟨W6.heap.size, 0, none⟩ = some (.slice Ax00 (p0.1).length cx00) := Bx0.cell 0
  have k_Bx0_1 : W23.cell? ⟨W6.heap.size, 1, none⟩ = some (.slice Ax01 (p0.2).length cx01) := Bx0.cell 1
  have k_Bx1_0 : W23.cell? ⟨W7.heap.size, 0, none⟩ = some (.int .i64 (p1.1)) := Bx1.cell 0
  have k_Bx1_1 : W23.cell? ⟨W7.heap.size, 1, none⟩ = some (.int .i64 (p1.2.1)) := Bx1.cell 1
  have k_Bx1_2 : W23.cell? ⟨W7.heap.size, 2, none⟩ = some (.slice Ax12 (p1.2.2).length cx12) := Bx1.cell 2
  have k_Bg0_0 : W23.cell? ⟨W8.heap.size, 0, none⟩ = some (.slice Ag00 (r0.1).length cg00) := Bg0.cell 0
  have k_Bg0_1 : W23.cell? ⟨W8.heap.size, 1, none⟩ = some (.slice Ag01 (r0.2).length cg01) := Bg0.cell 1
  have k_Bh0_0 : W23.cell? ⟨gh, 0, none⟩ = some (.slice Ah00 (r0.1).length ch00) := Bh0.cell 0
  have k_Bh0_1 : W23.cell? ⟨gh, 1, none⟩ = some (.slice Ah01 (r0.2).length ch01) := Bh0.cell 1
  clear hb_
  go_wp2_with fail
  go_ret
  exact ⟨rfl, hB23⟩

/-! ### THE ROW's STEP -/
set_option maxHeartbeats 400000 in
set_option maxRecDepth 100000 in
theorem lifted (os : Os) (started : os.Started) (H : Type) (enc : TypeId × Value → H) :
    ReturnsInHanded {} Try.checked os 6 .any (Rows.fnExactAdmitSpec.pre6 enc Try.prog Try.f6 Rows.fnExactAdmitRow.domain false) (Rows.fnExactAdmitSpec.post enc Try.prog Try.f6 false true false false) := by
  refine returnsInHanded_of_change (C := Try.checked) own started (by kernel_rfl) Try.func6
    (ChangeSpec.witness6 (enc := enc) (C := Try.checked) false ⟨#[], #[.agg #[.slice none 0 0, .slice none 0 0], .agg #[.int .i64 0, .int .i64 0, .slice none 0 0], .int .i64 0], []⟩ 8 (by kernel_rfl) (by kernel_rfl) (by kernel_rfl) (by kernel_rfl)) ?_
  intro W base args ds gs before hval0 hW hcnd _
  have hval : ∀ (j : Nat) t v, Try.f6.params[j]? = some t → args[j]? = some v → Value.okWide Try.prog W .any base t v := hval0
  have hW' := hW
  obtain ⟨p, q, hA0, hV, rfl, hfz, hnd⟩ := hW
  have hA : DataW.TrodAll enc Try.prog W 0 (fun _ => true) true Try.f6.params.toList args.toList ds p := hA0
  rw [Try.params6] at hA hval
  obtain ⟨v0, vs0, d0, ds0, p0, q0, hargs, rfl, rfl, h0, r0⟩ := trodAll_cons hA
  obtain ⟨v1, vs1, d1, ds1, p1, q1, rfl, rfl, rfl, h1, r1⟩ := trodAll_cons r0
  obtain ⟨v2, vs2, d2, ds2, p2, q2, rfl, rfl, rfl, h2, r2⟩ := trodAll_cons r1
  obtain ⟨rfl, rfl, rfl⟩ := trodAll_nil r2
  obtain rfl : args = #[v0, v1, v2] := by cases args; simp_all
  obtain ⟨rfl, rfl⟩ := trodVars_none hV
  obtain ⟨cs0, rfl, hsz0⟩ := okWide_struct Try.underlying25 (hval 0 25 v0 rfl rfl)
  have k0 := h0
  have lt0 : ∀ x ∈ p0, x.block < W.heap.size := by obtain ⟨m, hm⟩ := k0; exact DataW.trod_lt m _ _ _ hm
  obtain ⟨x0, w0⟩ : ∃ a, tPool.R W W.heap.size cs0.toList a := by
    obtain ⟨fuel, hf⟩ := h0
    exact frR_Pool fuel _ _ (by simpa [Value.cells] using hf)
  obtain ⟨cs1, rfl, hsz1⟩ := okWide_struct Try.underlying49 (hval 1 49 v1 rfl rfl)
  have k1 := h1
  have lt1 : ∀ x ∈ p1, x.block < W.heap.size := by obtain ⟨m, hm⟩ := k1; exact DataW.trod_lt m _ _ _ hm
  obtain ⟨x1, w1⟩ : ∃ a, tHeld.R W W.heap.size cs1.toList a := by
    obtain ⟨fuel, hf⟩ := h1
    exact frR_Held fuel _ _ (by simpa [Value.cells] using hf)
  obtain ⟨a2, rfl, rfl, rfl, w2⟩ := open_int Try.underlying3 (hval 2 3 v2 rfl rfl) h2
  clear hA0 hval0
  refine (walk cs0 x0 cs1 x1 a2 W w0 w1 w2).mono fun e W' ⟨he, bel⟩ => ?_
  subst he
  exact ⟨_, rfl, _, _, _, [], _, [], hW', trodAll_mk1 (shut_bool Try.underlying4 _), (trodAll_cons_mk (Below.trod laidOut (by kernel_rfl) (of_decide_eq_true (by kernel_rfl)) k0 bel lt0) (trodAll_cons_mk (Below.trod laidOut (by kernel_rfl) (of_decide_eq_true (by kernel_rfl)) k1 bel lt1) (trodAll_cons_mk (shut_int Try.underlying3 w2) trodAll_mk0))), rfl, bel.frame _, fun h => by cases h⟩

theorem over : Rows.fnExactAdmitRow.holds Try.pinned (OpenSpec.ofChange Rows.fnExactAdmitSpec) :=
  OpenClaim.holds_of_wide 6 Try.f6 rfl rfl rfl rfl rfl rfl rfl ⟨rfl, rfl, rfl, rfl, rfl⟩ rfl rfl rfl rfl rfl (by kernel_rfl) Try.func6 (by kernel_rfl)
    (of_decide_eq_true (by kernel_rfl)) (by unfold Func.isWrapper; first | (rw [if_pos (by decide +kernel)]; kernel_rfl) | (rw [if_neg (by decide +kernel)]; exact ⟨rfl, rfl⟩))
    (fun os started H enc _ => lifted os started H enc)

theorem proved : Rows.FnExactAdmitSaid := over
#print axioms proved
end Go.Proofs.Ytlpnngkonihmiaa.fnExactAdmit
