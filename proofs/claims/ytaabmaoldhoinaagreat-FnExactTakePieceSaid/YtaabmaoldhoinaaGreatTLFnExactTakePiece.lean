/-
  For every argument (in all at most 2^20 elements) the program's TakePiece answers as its model does, in every field, writes into no argument, and its answer owns its memory. No further condition.
-/
import Derived.Test.YtaabmaoldhoinaaGreatCloFnExactTakePiece
import Derived.Test.YtaabmaoldhoinaaGreatRows
import Derived.Test.YtaabmaoldhoinaaGreatTGa
import Derived.Test.YtaabmaoldhoinaaGreatTGb
import Derived.Test.YtaabmaoldhoinaaGreatTGj
import Derived.Test.YtaabmaoldhoinaaGreatTMFr
import Derived.Below
import Derived.ChangeOld
import Derived.Deep.Cut
import Derived.Deep.CutRange
import Derived.Deep.DeepCutAuto
import Derived.Deep.RegionHeld3
import Derived.OpenShut
import Derived.ProofKit
import Derived.ShutString
import Derived.WalkKit
namespace Go.Proofs.YtaabmaoldhoinaaGreat.fnExactTakePiece
open Go.ChangeShapes Go.WideShapes Go.ChangeAt Go.RowKit
open Go.ChangeMaps (open_string shut_string)
set_option linter.unusedVariables false

open Go.Proofs.YtaabmaoldhoinaaGreat
theorem own : ownKnob Tryz.prog.godebug = none := by kernel_rfl
theorem laidOut : laidOutB Tryz.prog = true := by kernel_rfl



/-! ### STEP 1: the walk -/
set_option maxRecDepth 100000 in
set_option maxHeartbeats 2000000 in
theorem walk (cs0 : Array Value) (p0 : DDesk) (cs1 : Array Value) (p1 : DPiece) (a2 : Int) (w : World) (h0 : tDesk.R w w.heap.size cs0.toList p0) (h1 : tPiece.R w w.heap.size cs1.toList p1) (w2 : (Lit.int .i64 a2).wf = true) :
    Calls Tryz.prog 3 #[.agg cs0, .agg cs1, .int .i64 a2] w fun e w' => e = .returned (.bool true) ∧ Below w.heap.size w w' := by
  obtain ⟨cs0⟩ := cs0
  replace h0 : tDesk.R w w.heap.size cs0 p0 := h0
  obtain ⟨Aa00, na00, ca00, Aa01, na01, ca01, rfl, -, -, -, -, -, -, -, -⟩ := openDesk h0
  obtain ⟨cs1⟩ := cs1
  replace h1 : tPiece.R w w.heap.size cs1 p1 := h1
  obtain ⟨Aa13, na13, ca13, rfl, -, -, -, -, -, -, -⟩ := openPiece h1
  have rg2 := i64_rg w2
  by_cases hz0 : szDesk (p0) ≤ 1048576
  rotate_left
  · go_enter Tryz.func3, Tryz.ntmps3
    go_wp2_with fail
    refine (o_szDesk_f ((tDesk).reach h0 ?hB) (by omega) (by omega) (by omega)).mono ?_
    all_goals try (case hB => exact (belx))
    rintro e W1 ⟨rfl, hb_⟩
    have hs1 : Below w.heap.size w W1 := bel_trans (belx) hb_
    have z1 : w.heap.size + 2 ≤ W1.heap.size := by have := hb_.size; simpa using this
    have hB1 : Below w.heap.size w W1 := hs1
    have Ba0 : Box W1 (w.heap.size) 25 #[.slice Aa00 na00 ca00, .slice Aa01 na01 ca01] := Box.below ((Box.new _ _ _).alloc _) hb_ (by first | (simp; done) | (simp; omega))
    have Ba1 : Box W1 (w.heap.size + 1) 28 #[.int .i64 (p1.1), .int .i64 (p1.2.1), .int .i64 (p1.2.2.1), .slice Aa13 na13 ca13] := Box.below (show Box ((w.alloc _).alloc (.cells #[.int .i64 (p1.1), .int .i64 (p1.2.1), .int .i64 (p1.2.2.1), .slice Aa13 na13 ca13] 28)) (w.heap.size + 1) 28 #[.int .i64 (p1.1), .int .i64 (p1.2.1), .int .i64 (p1.2.2.1), .slice Aa13 na13 ca13] from by simpa using Box.new (w.alloc _) 28 #[.int .i64 (p1.1), .int .i64 (p1.2.1), .int .i64 (p1.2.2.1), .slice Aa13 na13 ca13]) hb_ (by first | (simp; done) | (simp; omega))
    have k_Ba0_0 : W1.cell? ⟨w.heap.size, 0, none⟩ = some (.slice Aa00 na00 ca00) := Ba0.cell 0
    have k_Ba0_1 : W1.cell? ⟨w.heap.size, 1, none⟩ = some (.slice Aa01 na01 ca01) := Ba0.cell 1
    have k_Ba1_0 : W1.cell? ⟨w.heap.size + 1, 0, none⟩ = some (.int .i64 (p1.1)) := Ba1.cell 0
    have k_Ba1_1 : W1.cell? ⟨w.heap.size + 1, 1, none⟩ = some (.int .i64 (p1.2.1)) := Ba1.cell 1
    have k_Ba1_2 : W1.cell? ⟨w.heap.size + 1, 2, none⟩ = some (.int .i64 (p1.2.2.1)) := Ba1.cell 2
    have k_Ba1_3 : W1.cell? ⟨w.heap.size + 1, 3, none⟩ = some (.slice Aa13 na13 ca13) := Ba1.cell 3
    go_wp2
    go_ret
    exact ⟨rfl, hB1⟩
  have dz0 : decide ((1048576 : Int) - ((szDesk (p0) : Nat) : Int) < 0) = false := by simp; omega
  by_cases hz1 : szDesk (p0) + szPiece (p1) ≤ 1048576
  rotate_left
  · go_enter Tryz.func3, Tryz.ntmps3
    go_wp2_with fail
    refine (o_szDesk_t ((tDesk).reach h0 ?hB) (by omega) (by omega) (by omega)).mono ?_
    all_goals try (case hB => exact (belx))
    rintro e W1 ⟨rfl, hb_⟩
    have hs1 : Below w.heap.size w W1 := bel_trans (belx) hb_
    have z1 : w.heap.size + 2 ≤ W1.heap.size := by have := hb_.size; simpa using this
    have hB1 : Below w.heap.size w W1 := hs1
    have Ba0 : Box W1 (w.heap.size) 25 #[.slice Aa00 na00 ca00, .slice Aa01 na01 ca01] := Box.below ((Box.new _ _ _).alloc _) hb_ (by first | (simp; done) | (simp; omega))
    have Ba1 : Box W1 (w.heap.size + 1) 28 #[.int .i64 (p1.1), .int .i64 (p1.2.1), .int .i64 (p1.2.2.1), .slice Aa13 na13 ca13] := Box.below (show Box ((w.alloc _).alloc (.cells #[.int .i64 (p1.1), .int .i64 (p1.2.1), .int .i64 (p1.2.2.1), .slice Aa13 na13 ca13] 28)) (w.heap.size + 1) 28 #[.int .i64 (p1.1), .int .i64 (p1.2.1), .int .i64 (p1.2.2.1), .slice Aa13 na13 ca13] from by simpa using Box.new (w.alloc _) 28 #[.int .i64 (p1.1), .int .i64 (p1.2.1), .int .i64 (p1.2.2.1), .slice Aa13 na13 ca13]) hb_ (by first | (simp; done) | (simp; omega))
    have k_Ba0_0 : W1.cell? ⟨w.heap.size, 0, none⟩ = some (.slice Aa00 na00 ca00) := Ba0.cell 0
    have k_Ba0_1 : W1.cell? ⟨w.heap.size, 1, none⟩ = some (.slice Aa01 na01 ca01) := Ba0.cell 1
    have k_Ba1_0 : W1.cell? ⟨w.heap.size + 1, 0, none⟩ = some (.int .i64 (p1.1)) := Ba1.cell 0
    have k_Ba1_1 : W1.cell? ⟨w.heap.size + 1, 1, none⟩ = some (.int .i64 (p1.2.1)) := Ba1.cell 1
    have k_Ba1_2 : W1.cell? ⟨w.heap.size + 1, 2, none⟩ = some (.int .i64 (p1.2.2.1)) := Ba1.cell 2
    have k_Ba1_3 : W1.cell? ⟨w.heap.size + 1, 3, none⟩ = some (.slice Aa13 na13 ca13) := Ba1.cell 3
    clear hb_
    go_wp2_with fail
    refine (o_szPiece_f ((tPiece).reach ((tPiece).reach h1 hB1) ?hB) (by omega) (by omega) (by omega)).mono ?_
    all_goals try (case hB => exact (belx))
    rintro e W2 ⟨rfl, hb_⟩
    clear k_Ba0_0 k_Ba0_1
    clear k_Ba1_0 k_Ba1_1 k_Ba1_2 k_Ba1_3
    have hs2 : Below W1.heap.size W1 W2 := bel_trans (belx) hb_
    have z2 : W1.heap.size + 0 ≤ W2.heap.size := by have := hb_.size; simpa using this
    have hB2 : Below w.heap.size w W2 := bel_trans hB1 hs2
    replace Ba0 := Ba0.below hs2 Ba0.size
    replace Ba1 := Ba1.below hs2 Ba1.size
    have k_Ba0_0 : W2.cell? ⟨w.heap.size, 0, none⟩ = some (.slice Aa00 na00 ca00) := Ba0.cell 0
    have k_Ba0_1 : W2.cell? ⟨w.heap.size, 1, none⟩ = some (.slice Aa01 na01 ca01) := Ba0.cell 1
    have k_Ba1_0 : W2.cell? ⟨w.heap.size + 1, 0, none⟩ = some (.int .i64 (p1.1)) := Ba1.cell 0
    have k_Ba1_1 : W2.cell? ⟨w.heap.size + 1, 1, none⟩ = some (.int .i64 (p1.2.1)) := Ba1.cell 1
    have k_Ba1_2 : W2.cell? ⟨w.heap.size + 1, 2, none⟩ = some (.int .i64 (p1.2.2.1)) := Ba1.cell 2
    have k_Ba1_3 : W2.cell? ⟨w.heap.size + 1, 3, none⟩ = some (.slice Aa13 na13 ca13) := Ba1.cell 3
    go_wp2
    go_ret
    exact ⟨rfl, hB2⟩
  have dz1 : decide ((1048576 : Int) - ((szDesk (p0) : Nat) : Int) - ((szPiece (p1) : Nat) : Int) < 0) = false := by simp; omega
  have hzr0 : szDesk ((fTp p0 p1 a2).1) ≤ 1048576 := (by have := (fTp_sz (d := p0) (q := p1) (x := a2)).1; omega)
  have hcr0 := cntDesk_le ((fTp p0 p1 a2).1)
  obtain ⟨r0, hr0⟩ : ∃ r, (fTp p0 p1 a2).1 = r := ⟨_, rfl⟩
  have HR0 := Lib.hid hr0
  rw [hr0] at hzr0 hcr0
  clear hr0
  have hzr1 : ((fTp p0 p1 a2).2.1).length ≤ 1048576 := (by have := (fTp_sz (d := p0) (q := p1) (x := a2)).2; omega)
  obtain ⟨r1, hr1⟩ : ∃ r, (fTp p0 p1 a2).2.1 = r := ⟨_, rfl⟩
  have HR1 := Lib.hid hr1
  rw [hr1] at hzr1
  clear hr1
  obtain ⟨r2, hr2⟩ : ∃ r, (fTp p0 p1 a2).2.2 = r := ⟨_, rfl⟩
  have HR2 := Lib.hid hr2
  have qr2 : (r2 != r2) = false := by simp
  clear hr2
  have hcp0 := cntDesk_le (p0)
  have hcp1 := cntPiece_le (p1)
  go_enter Tryz.func3, Tryz.ntmps3
  go_wp2_with fail
  refine (o_szDesk_t ((tDesk).reach h0 ?hB) (by omega) (by omega) (by omega)).mono ?_
  all_goals try (case hB => exact (belx))
  rintro e W1 ⟨rfl, hb_⟩
  have hs1 : Below w.heap.size w W1 := bel_trans (belx) hb_
  have z1 : w.heap.size + 2 ≤ W1.heap.size := by have := hb_.size; simpa using this
  have hB1 : Below w.heap.size w W1 := hs1
  have Ba0 : Box W1 (w.heap.size) 25 #[.slice Aa00 na00 ca00, .slice Aa01 na01 ca01] := Box.below ((Box.new _ _ _).alloc _) hb_ (by first | (simp; done) | (simp; omega))
  have Ba1 : Box W1 (w.heap.size + 1) 28 #[.int .i64 (p1.1), .int .i64 (p1.2.1), .int .i64 (p1.2.2.1), .slice Aa13 na13 ca13] := Box.below (show Box ((w.alloc _).alloc (.cells #[.int .i64 (p1.1), .int .i64 (p1.2.1), .int .i64 (p1.2.2.1), .slice Aa13 na13 ca13] 28)) (w.heap.size + 1) 28 #[.int .i64 (p1.1), .int .i64 (p1.2.1), .int .i64 (p1.2.2.1), .slice Aa13 na13 ca13] from by simpa using Box.new (w.alloc _) 28 #[.int .i64 (p1.1), .int .i64 (p1.2.1), .int .i64 (p1.2.2.1), .slice Aa13 na13 ca13]) hb_ (by first | (simp; done) | (simp; omega))
  have k_Ba0_0 : W1.cell? ⟨w.heap.size, 0, none⟩ = some (.slice Aa00 na00 ca00) := Ba0.cell 0
  have k_Ba0_1 : W1.cell? ⟨w.heap.size, 1, none⟩ = some (.slice Aa01 na01 ca01) := Ba0.cell 1
  have k_Ba1_0 : W1.cell? ⟨w.heap.size + 1, 0, none⟩ = some (.int .i64 (p1.1)) := Ba1.cell 0
  have k_Ba1_1 : W1.cell? ⟨w.heap.size + 1, 1, none⟩ = some (.int .i64 (p1.2.1)) := Ba1.cell 1
  have k_Ba1_2 : W1.cell? ⟨w.heap.size + 1, 2, none⟩ = some (.int .i64 (p1.2.2.1)) := Ba1.cell 2
  have k_Ba1_3 : W1.cell? ⟨w.heap.size + 1, 3, none⟩ = some (.slice Aa13 na13 ca13) := Ba1.cell 3
  clear hb_
  go_wp2_with fail
  refine (o_szPiece_t ((tPiece).reach ((tPiece).reach h1 hB1) ?hB) (by omega) (by omega) (by omega)).mono ?_
  all_goals try (case hB => exact (belx))
  rintro e W2 ⟨rfl, hb_⟩
  clear k_Ba0_0 k_Ba0_1
  clear k_Ba1_0 k_Ba1_1 k_Ba1_2 k_Ba1_3
  have hs2 : Below W1.heap.size W1 W2 := bel_trans (belx) hb_
  have z2 : W1.heap.size + 0 ≤ W2.heap.size := by have := hb_.size; simpa using this
  have hB2 : Below w.heap.size w W2 := bel_trans hB1 hs2
  replace Ba0 := Ba0.below hs2 Ba0.size
  replace Ba1 := Ba1.below hs2 Ba1.size
  have k_Ba0_0 : W2.cell? ⟨w.heap.size, 0, none⟩ = some (.slice Aa00 na00 ca00) := Ba0.cell 0
  have k_Ba0_1 : W2.cell? ⟨w.heap.size, 1, none⟩ = some (.slice Aa01 na01 ca01) := Ba0.cell 1
  have k_Ba1_0 : W2.cell? ⟨w.heap.size + 1, 0, none⟩ = some (.int .i64 (p1.1)) := Ba1.cell 0
  have k_Ba1_1 : W2.cell? ⟨w.heap.size + 1, 1, none⟩ = some (.int .i64 (p1.2.1)) := Ba1.cell 1
  have k_Ba1_2 : W2.cell? ⟨w.heap.size + 1, 2, none⟩ = some (.int .i64 (p1.2.2.1)) := Ba1.cell 2
  have k_Ba1_3 : W2.cell? ⟨w.heap.size + 1, 3, none⟩ = some (.slice Aa13 na13 ca13) := Ba1.cell 3
  clear hb_
  go_wp2_with fail
  go_cut [8, 9, 10] (fun t8 t9 t10 wx => ∃ (gs : Nat) (css0 : List Value) (As1 : Option Addr) (cs1 : Nat) (Fs0 : List Nat) (Fs1 : List Nat), t8 = .pointer (some ⟨gs, 0, none⟩) ∧ t9 = .slice As1 ((r1).length) cs1 ∧ t10 = .int .i64 r2 ∧ Box wx gs 33 css0.toArray ∧ (tDesk).O wx css0 r0 Fs0 ∧ (tBy).O wx [.slice As1 ((r1).length) cs1] r1 Fs1 ∧ New W2.heap.size (Fs0 ++ Fs1) ∧ (∀ f ∈ Fs0 ++ Fs1, ¬ f = gs) ∧ Below W2.heap.size W2 wx ∧ W2.heap.size ≤ gs ∧ gs < wx.heap.size)
  case first =>
    refine wp_region_held_drew (S := (fun w' => w'.cell? ⟨w.heap.size, 0, none⟩ = some (.slice Aa00 na00 ca00) ∧ w'.cell? ⟨w.heap.size, 1, none⟩ = some (.slice Aa01 na01 ca01) ∧ w'.cell? ⟨w.heap.size + 1, 0, none⟩ = some (.int .i64 (p1.1)) ∧ w'.cell? ⟨w.heap.size + 1, 1, none⟩ = some (.int .i64 (p1.2.1)) ∧ w'.cell? ⟨w.heap.size + 1, 2, none⟩ = some (.int .i64 (p1.2.2.1)) ∧ w'.cell? ⟨w.heap.size + 1, 3, none⟩ = some (.slice Aa13 na13 ca13))) (by kernel_rfl) (by exact ⟨k_Ba0_0, k_Ba0_1, k_Ba1_0, k_Ba1_1, k_Ba1_2, k_Ba1_3⟩) (fun hHeld => ?_)
    refine wpAnyH_take (i := 0) (oi := ⟨some 33, _, _, _, _, _⟩) (v := ?v1) rfl (by kernel_rfl) (by kernel_rfl) (by kernel_rfl) (fun _ _ _ h => h) (Or.inl ⟨by rfl, ?hy1⟩) (by assumption) ?_
    case hy1 => (intro w hSw; (try dsimp only at hSw); go_simp; try (with_reducible rfl))
    (try simp only [Act.put, qa_, qb_, qc_])
    refine wpAnyH_take (i := 2) (oi := ⟨some 35, _, _, _, _, _⟩) (v := ?v2) rfl (by kernel_rfl) (by kernel_rfl) (by kernel_rfl) (fun _ _ _ h => h) (Or.inl ⟨by rfl, ?hy2⟩) (by assumption) ?_
    case hy2 => (intro w hSw; (try dsimp only at hSw); go_simp; try (with_reducible rfl))
    (try simp only [Act.put, qa_, qb_, qc_])
    refine wpAnyH_take (i := 4) (oi := ⟨some 37, _, _, _, _, _⟩) (v := ?v3) rfl (by kernel_rfl) (by kernel_rfl) (by kernel_rfl) (fun _ _ _ h => h) (Or.inl ⟨by rfl, ?hy3⟩) (by assumption) ?_
    case hy3 => (intro w hSw; (try dsimp only at hSw); go_simp; try (with_reducible rfl))
    (try simp only [Act.put, qa_, qb_, qc_])
    refine wpAnyH_ready (rs := [1, 10]) (by kernel_rfl) (by simp) ?_
    refine AllReadyH.cons rfl (fun K hK => ?_) ?_
    · have hX3 : Below W2.heap.size W2 W2.drew := (belx)
      go_simp
      go_at_call 9
      refine (o_toDesk ((tDesk).reach h0 (bel_trans hB2 hX3)) (by omega)).mono ?_
      rintro e W3 ⟨csy0, Fy0, rfl, o_y0, Ny0, hb_3⟩
      have hs3 : Below W2.heap.size W2 W3 := bel_trans (show Below W2.heap.size W2 W2.drew from (belx)) hb_3
      have hx3 : Below W2.heap.size W2 W3 := hs3
      go_wp2_with fail
      refine hK.out _ _ (by exact ⟨cell_bel hx3 k_Ba0_0, cell_bel hx3 k_Ba0_1, cell_bel hx3 k_Ba1_0, cell_bel hx3 k_Ba1_1, cell_bel hx3 k_Ba1_2, cell_bel hx3 k_Ba1_3⟩) (fun hHeld => ?_)
      clear hK K
      (try simp only [Act.put, qa_, qb_, qc_])
      refine wpAnyH_ready (rs := [3, 10]) (by kernel_rfl) (by simp) ?_
      refine AllReadyH.cons rfl (fun K hK => ?_) ?_
      · have hX4 : Below W2.heap.size W2 W3 := hx3
        go_simp
        go_at_call 10
        refine (o_toPiece ((tPiece).reach h1 (bel_trans hB2 hX4)) (by omega)).mono ?_
        rintro e W4 ⟨csy1, Fy1, rfl, o_y1, Ny1, hb_4⟩
        have hs4 : Below W3.heap.size W3 W4 := bel_trans (show Below W3.heap.size W3 W3 from (belx)) hb_4
        have hx4 : Below W2.heap.size W2 W4 := bel_trans hx3 hs4
        go_wp2_with fail
        refine hK.out _ _ (by exact ⟨cell_bel hx4 k_Ba0_0, cell_bel hx4 k_Ba0_1, cell_bel hx4 k_Ba1_0, cell_bel hx4 k_Ba1_1, cell_bel hx4 k_Ba1_2, cell_bel hx4 k_Ba1_3⟩) (fun hHeld => ?_)
        clear hK K
        (try simp only [Act.put, qa_, qb_, qc_])
        refine wpAnyH_ready (rs := [5, 10]) (by kernel_rfl) (by simp) ?_
        refine AllReadyH.cons rfl (fun K hK => ?_) ?_
        · have hX5 : Below W2.heap.size W2 W4 := hx4
          go_simp
          go_at_call 8
          refine (s_TakePiece ((tDesk).reach ((tDesk).read (Ty.below (t := tDesk) o_y0 hs4)) (belx)) (by omega) ((tPiece).reach ((tPiece).read o_y1) (belx)) (by omega) w2).mono ?_
          rintro e W5 ⟨css0, Fs0, As1, cs1, Fs1, rfl, o_s0, o_s1, Ns, hb_5⟩
          rw [HR0.out] at o_s0
          rw [HR1.out] at o_s1
          rw [HR1.out]
          rw [HR2.out]
          have oo_0 := o_s0
          obtain ⟨As00, cs00, Fs00, As01, cs01, Fs01, rfl, -, -, -, -, -, -, -⟩ := openODesk oo_0
          have hNw : New W2.heap.size (Fs0 ++ Fs1) := Ns.lower hX5.size
          have hs5 : Below W4.heap.size W4 W5 := bel_trans (show Below W4.heap.size W4 W4 from (belx)) hb_5
          have hx5 : Below W2.heap.size W2 W5 := bel_trans hx4 hs5
          go_wp2_with fail
          refine hK.out _ _ (by exact ⟨cell_bel hx5 k_Ba0_0, cell_bel hx5 k_Ba0_1, cell_bel hx5 k_Ba1_0, cell_bel hx5 k_Ba1_1, cell_bel hx5 k_Ba1_2, cell_bel hx5 k_Ba1_3⟩) (fun hHeld => ?_)
          clear hK K
          (try simp only [Act.put, qa_, qb_, qc_])
          refine wpAnyH_take (i := 6) (oi := ⟨some 32, _, _, _, _, _⟩) (v := ?v4) rfl (by kernel_rfl) (by kernel_rfl) (by kernel_rfl) (fun _ _ _ h => h) (Or.inl ⟨by rfl, ?hy4⟩) (by assumption) ?_
          case hy4 => (intro w hSw; (try dsimp only at hSw); go_simp; try (with_reducible rfl))
          (try simp only [Act.put, qa_, qb_, qc_])
          refine wpAnyH_take (i := 7) (oi := ⟨some 39, _, _, _, _, _⟩) (v := ?v5) rfl (by kernel_rfl) (by kernel_rfl) (by kernel_rfl) (fun _ _ _ h => h) (Or.inl ⟨by rfl, ?hy5⟩) (by assumption) ?_
          case hy5 => (intro w hSw; (try dsimp only at hSw); go_simp; try (with_reducible rfl))
          (try simp only [Act.put, qa_, qb_, qc_])
          refine wpAnyH_take (i := 8) (oi := ⟨some 40, _, _, _, _, _⟩) (v := ?v6) rfl (by kernel_rfl) (by kernel_rfl) (by kernel_rfl) (fun _ _ _ h => h) (Or.inl ⟨by rfl, ?hy6⟩) (by assumption) ?_
          case hy6 => (intro w hSw; (try dsimp only at hSw); go_simp; try (with_reducible rfl))
          (try simp only [Act.put, qa_, qb_, qc_])
          refine wpAnyH_take (i := 9) (oi := ⟨some 41, _, _, _, _, _⟩) (v := ?v7) rfl (by kernel_rfl) (by kernel_rfl) (by kernel_rfl) (fun _ _ _ h => h) (Or.inl ⟨by rfl, ?hy7⟩) (by assumption) ?_
          case hy7 => (intro w hSw; (try dsimp only at hSw); go_simp; try (with_reducible rfl))
          (try simp only [Act.put, qa_, qb_, qc_])
          refine wpAnyH_ready (rs := [10]) (by kernel_rfl) (by simp) ?_
          refine AllReadyH.cons rfl (fun K hK => ?_) ?_
          · go_simp
            refine hK.out _ _ (by exact ⟨cell_bel (show Below W2.heap.size W2 (W5.alloc (.cells #[.slice none 0 0, .slice none 0 0] 33)) from bel_alloc hx5 _) k_Ba0_0, cell_bel (show Below W2.heap.size W2 (W5.alloc (.cells #[.slice none 0 0, .slice none 0 0] 33)) from bel_alloc hx5 _) k_Ba0_1, cell_bel (show Below W2.heap.size W2 (W5.alloc (.cells #[.slice none 0 0, .slice none 0 0] 33)) from bel_alloc hx5 _) k_Ba1_0, cell_bel (show Below W2.heap.size W2 (W5.alloc (.cells #[.slice none 0 0, .slice none 0 0] 33)) from bel_alloc hx5 _) k_Ba1_1, cell_bel (show Below W2.heap.size W2 (W5.alloc (.cells #[.slice none 0 0, .slice none 0 0] 33)) from bel_alloc hx5 _) k_Ba1_2, cell_bel (show Below W2.heap.size W2 (W5.alloc (.cells #[.slice none 0 0, .slice none 0 0] 33)) from bel_alloc hx5 _) k_Ba1_3⟩) (fun hHeld => ?_)
            clear hK K
            (try simp only [Act.put, qa_, qb_, qc_])
            refine wpAnyH_ready (rs := [11]) (by kernel_rfl) (by simp) ?_
            refine AllReadyH.cons rfl (fun K hK => ?_) ?_
            · have hg1 : W2.heap.size ≤ W5.heap.size := hx5.size
              have Zg : Box (W5.alloc (.cells #[.slice As00 (r0.1).length cs00, .slice As01 (r0.2).length cs01] 33)) (W5.heap.size) 33 #[.slice As00 (r0.1).length cs00, .slice As01 (r0.2).length cs01] := Box.new _ _ _
              have hgF : ∀ f ∈ Fs0 ++ Fs1, ¬ f = W5.heap.size := fun f hf e => by (subst e; rcases List.mem_append.1 hf with h | h; exact Nat.lt_irrefl _ ((tDesk).lt o_s0 _ h); exact Nat.lt_irrefl _ ((tBy).lt o_s1 _ h))
              have O_0 := Ty.below (t := tDesk) o_s0 (show Below W5.heap.size W5 (W5.alloc (.cells #[.slice As00 (r0.1).length cs00, .slice As01 (r0.2).length cs01] 33)) from bel_alloc (Below.refl _ _) _)
              have O_1 := Ty.below (t := tBy) o_s1 (show Below W5.heap.size W5 (W5.alloc (.cells #[.slice As00 (r0.1).length cs00, .slice As01 (r0.2).length cs01] 33)) from bel_alloc (Below.refl _ _) _)
              have hfin : Below W2.heap.size W2 (W5.alloc (.cells #[.slice As00 (r0.1).length cs00, .slice As01 (r0.2).length cs01] 33)) := bel_alloc hx5 _
              have hg2 := Zg.size
              go_simp
              refine hK.out _ _ (by exact ⟨cell_bel hfin k_Ba0_0, cell_bel hfin k_Ba0_1, cell_bel hfin k_Ba1_0, cell_bel hfin k_Ba1_1, cell_bel hfin k_Ba1_2, cell_bel hfin k_Ba1_3⟩) (fun hHeld => ?_)
              clear hK K
              (try simp only [Act.put, qa_, qb_, qc_])
              refine wpAnyH_take (i := 12) (oi := ⟨some 9, _, _, _, _, _⟩) (v := ?v8) rfl (by kernel_rfl) (by kernel_rfl) (by kernel_rfl) (fun _ _ _ h => h) (Or.inl ⟨by rfl, ?hy8⟩) (by assumption) ?_
              case hy8 => (intro w hSw; (try dsimp only at hSw); go_simp; try (with_reducible rfl))
              (try simp only [Act.put, qa_, qb_, qc_])
              refine wpAnyH_take (i := 13) (oi := ⟨some 10, _, _, _, _, _⟩) (v := ?v9) rfl (by kernel_rfl) (by kernel_rfl) (by kernel_rfl) (fun _ _ _ h => h) (Or.inl ⟨by rfl, ?hy9⟩) (by assumption) ?_
              case hy9 => (intro w hSw; (try dsimp only at hSw); go_simp; try (with_reducible rfl))
              (try simp only [Act.put, qa_, qb_, qc_])
              refine wpAnyH_done (by kernel_rfl) ?_ _
              go_wp2_with fail
              go_meet
              exact ⟨_, [.slice As00 (r0.1).length cs00, .slice As01 (r0.2).length cs01], _, _, _, _, rfl, rfl, rfl, by first | exact Zg | simpa using Zg, O_0, O_1, hNw, hgF, hfin, hg1, by first | exact hg2 | simpa [World.setCell] using hg2⟩
            exact AllReadyH.nil
          exact AllReadyH.nil
        refine AllReadyH.cons rfl (fun K hK => ?_) ?_
        · go_simp
          refine hK.out _ _ (by exact ⟨cell_bel (show Below W2.heap.size W2 (W4.alloc (.cells #[.slice none 0 0, .slice none 0 0] 33)) from bel_alloc hx4 _) k_Ba0_0, cell_bel (show Below W2.heap.size W2 (W4.alloc (.cells #[.slice none 0 0, .slice none 0 0] 33)) from bel_alloc hx4 _) k_Ba0_1, cell_bel (show Below W2.heap.size W2 (W4.alloc (.cells #[.slice none 0 0, .slice none 0 0] 33)) from bel_alloc hx4 _) k_Ba1_0, cell_bel (show Below W2.heap.size W2 (W4.alloc (.cells #[.slice none 0 0, .slice none 0 0] 33)) from bel_alloc hx4 _) k_Ba1_1, cell_bel (show Below W2.heap.size W2 (W4.alloc (.cells #[.slice none 0 0, .slice none 0 0] 33)) from bel_alloc hx4 _) k_Ba1_2, cell_bel (show Below W2.heap.size W2 (W4.alloc (.cells #[.slice none 0 0, .slice none 0 0] 33)) from bel_alloc hx4 _) k_Ba1_3⟩) (fun hHeld => ?_)
          clear hK K
          (try simp only [Act.put, qa_, qb_, qc_])
          refine wpAnyH_ready (rs := [5]) (by kernel_rfl) (by simp) ?_
          refine AllReadyH.cons rfl (fun K hK => ?_) ?_
          · have hX5 : Below W2.heap.size W2 (W4.alloc (.cells #[.slice none 0 0, .slice none 0 0] 33)) := bel_alloc hx4 _
            go_simp
            go_at_call 8
            refine (s_TakePiece ((tDesk).reach ((tDesk).read (Ty.below (t := tDesk) o_y0 hs4)) (belx)) (by omega) ((tPiece).reach ((tPiece).read o_y1) (belx)) (by omega) w2).mono ?_
            rintro e W5 ⟨css0, Fs0, As1, cs1, Fs1, rfl, o_s0, o_s1, Ns, hb_5⟩
            rw [HR0.out] at o_s0
            rw [HR1.out] at o_s1
            rw [HR1.out]
            rw [HR2.out]
            have oo_0 := o_s0
            obtain ⟨As00, cs00, Fs00, As01, cs01, Fs01, rfl, -, -, -, -, -, -, -⟩ := openODesk oo_0
            have hNw : New W2.heap.size (Fs0 ++ Fs1) := Ns.lower hX5.size
            have hs5 : Below W4.heap.size W4 W5 := bel_trans (show Below W4.heap.size W4 (W4.alloc (.cells #[.slice none 0 0, .slice none 0 0] 33)) from (belx)) hb_5
            have hx5 : Below W2.heap.size W2 W5 := bel_trans hx4 hs5
            have Zb : Box (W4.alloc (.cells #[.slice none 0 0, .slice none 0 0] 33)) (W4.heap.size) 33 #[.slice none 0 0, .slice none 0 0] := (by first | exact Box.new _ _ _ | exact Box.drew (Box.new _ _ _))
            have hgX : W4.heap.size < (W4.alloc (.cells #[.slice none 0 0, .slice none 0 0] 33)).heap.size := Zb.size
            have hgF : ∀ f ∈ Fs0 ++ Fs1, ¬ f = W4.heap.size := fun f hf e => by (subst e; exact Nat.lt_irrefl _ (Nat.lt_of_lt_of_le hgX (Ns.2 _ hf)))
            replace Zb := Box.below Zb hb_5 Zb.size
            have zb0 := Zb.cell 0
            have zb1 := Zb.cell 1
            have zf0 := Zb.frozen 0
            have zf1 := Zb.frozen 1
            go_wp2_with fail
            refine hK.out _ _ (by exact ⟨cell_bel hx5 k_Ba0_0, cell_bel hx5 k_Ba0_1, cell_bel hx5 k_Ba1_0, cell_bel hx5 k_Ba1_1, cell_bel hx5 k_Ba1_2, cell_bel hx5 k_Ba1_3⟩) (fun hHeld => ?_)
            clear hK K
            (try simp only [Act.put, qa_, qb_, qc_])
            refine wpAnyH_take (i := 6) (oi := ⟨some 32, _, _, _, _, _⟩) (v := ?v10) rfl (by kernel_rfl) (by kernel_rfl) (by kernel_rfl) (fun _ _ _ h => h) (Or.inl ⟨by rfl, ?hy10⟩) (by assumption) ?_
            case hy10 => (intro w hSw; (try dsimp only at hSw); go_simp; try (with_reducible rfl))
            (try simp only [Act.put, qa_, qb_, qc_])
            refine wpAnyH_take (i := 7) (oi := ⟨some 39, _, _, _, _, _⟩) (v := ?v11) rfl (by kernel_rfl) (by kernel_rfl) (by kernel_rfl) (fun _ _ _ h => h) (Or.inl ⟨by rfl, ?hy11⟩) (by assumption) ?_
            case hy11 => (intro w hSw; (try dsimp only at hSw); go_simp; try (with_reducible rfl))
            (try simp only [Act.put, qa_, qb_, qc_])
            refine wpAnyH_take (i := 8) (oi := ⟨some 40, _, _, _, _, _⟩) (v := ?v12) rfl (by kernel_rfl) (by kernel_rfl) (by kernel_rfl) (fun _ _ _ h => h) (Or.inl ⟨by rfl, ?hy12⟩) (by assumption) ?_
            case hy12 => (intro w hSw; (try dsimp only at hSw); go_simp; try (with_reducible rfl))
            (try simp only [Act.put, qa_, qb_, qc_])
            refine wpAnyH_take (i := 9) (oi := ⟨some 41, _, _, _, _, _⟩) (v := ?v13) rfl (by kernel_rfl) (by kernel_rfl) (by kernel_rfl) (fun _ _ _ h => h) (Or.inl ⟨by rfl, ?hy13⟩) (by assumption) ?_
            case hy13 => (intro w hSw; (try dsimp only at hSw); go_simp; try (with_reducible rfl))
            (try simp only [Act.put, qa_, qb_, qc_])
            refine wpAnyH_ready (rs := [11]) (by kernel_rfl) (by simp) ?_
            refine AllReadyH.cons rfl (fun K hK => ?_) ?_
            · have hg1 : W2.heap.size ≤ W4.heap.size := hx4.size
              have hfin := (bel_put (bel_put hx5 (p := ⟨W4.heap.size, 0, none⟩) hg1 (.slice As00 (r0.1).length cs00)) (p := ⟨W4.heap.size, 1, none⟩) hg1 (.slice As01 (r0.2).length cs01))
              have Zg := ((Zb.put 0 (.slice As00 (r0.1).length cs00)).put 1 (.slice As01 (r0.2).length cs01))
              have O_0 := (Ty.far3 (t := tDesk) (Ty.far3 (t := tDesk) o_s0 (p := ⟨W4.heap.size, 0, none⟩) (fun hx => hgF _ (List.mem_append.2 (.inl hx)) rfl) (.slice As00 (r0.1).length cs00)) (p := ⟨W4.heap.size, 1, none⟩) (fun hx => hgF _ (List.mem_append.2 (.inl hx)) rfl) (.slice As01 (r0.2).length cs01))
              have O_1 := (Ty.far3 (t := tBy) (Ty.far3 (t := tBy) o_s1 (p := ⟨W4.heap.size, 0, none⟩) (fun hx => hgF _ (List.mem_append.2 (.inr hx)) rfl) (.slice As00 (r0.1).length cs00)) (p := ⟨W4.heap.size, 1, none⟩) (fun hx => hgF _ (List.mem_append.2 (.inr hx)) rfl) (.slice As01 (r0.2).length cs01))
              have hg2 := Zg.size
              go_simp
              refine hK.out _ _ (by exact ⟨cell_bel hfin k_Ba0_0, cell_bel hfin k_Ba0_1, cell_bel hfin k_Ba1_0, cell_bel hfin k_Ba1_1, cell_bel hfin k_Ba1_2, cell_bel hfin k_Ba1_3⟩) (fun hHeld => ?_)
              clear hK K
              (try simp only [Act.put, qa_, qb_, qc_])
              refine wpAnyH_take (i := 12) (oi := ⟨some 9, _, _, _, _, _⟩) (v := ?v14) rfl (by kernel_rfl) (by kernel_rfl) (by kernel_rfl) (fun _ _ _ h => h) (Or.inl ⟨by rfl, ?hy14⟩) (by assumption) ?_
              case hy14 => (intro w hSw; (try dsimp only at hSw); go_simp; try (with_reducible rfl))
              (try simp only [Act.put, qa_, qb_, qc_])
              refine wpAnyH_take (i := 13) (oi := ⟨some 10, _, _, _, _, _⟩) (v := ?v15) rfl (by kernel_rfl) (by kernel_rfl) (by kernel_rfl) (fun _ _ _ h => h) (Or.inl ⟨by rfl, ?hy15⟩) (by assumption) ?_
              case hy15 => (intro w hSw; (try dsimp only at hSw); go_simp; try (with_reducible rfl))
              (try simp only [Act.put, qa_, qb_, qc_])
              refine wpAnyH_done (by kernel_rfl) ?_ _
              go_wp2_with fail
              go_meet
              exact ⟨_, [.slice As00 (r0.1).length cs00, .slice As01 (r0.2).length cs01], _, _, _, _, rfl, rfl, rfl, by first | exact Zg | simpa using Zg, O_0, O_1, hNw, hgF, hfin, hg1, by first | exact hg2 | simpa [World.setCell] using hg2⟩
            exact AllReadyH.nil
          exact AllReadyH.nil
        exact AllReadyH.nil
      refine AllReadyH.cons rfl (fun K hK => ?_) ?_
      · go_simp
        refine hK.out _ _ (by exact ⟨cell_bel (show Below W2.heap.size W2 (W3.alloc (.cells #[.slice none 0 0, .slice none 0 0] 33)) from bel_alloc hx3 _) k_Ba0_0, cell_bel (show Below W2.heap.size W2 (W3.alloc (.cells #[.slice none 0 0, .slice none 0 0] 33)) from bel_alloc hx3 _) k_Ba0_1, cell_bel (show Below W2.heap.size W2 (W3.alloc (.cells #[.slice none 0 0, .slice none 0 0] 33)) from bel_alloc hx3 _) k_Ba1_0, cell_bel (show Below W2.heap.size W2 (W3.alloc (.cells #[.slice none 0 0, .slice none 0 0] 33)) from bel_alloc hx3 _) k_Ba1_1, cell_bel (show Below W2.heap.size W2 (W3.alloc (.cells #[.slice none 0 0, .slice none 0 0] 33)) from bel_alloc hx3 _) k_Ba1_2, cell_bel (show Below W2.heap.size W2 (W3.alloc (.cells #[.slice none 0 0, .slice none 0 0] 33)) from bel_alloc hx3 _) k_Ba1_3⟩) (fun hHeld => ?_)
        clear hK K
        (try simp only [Act.put, qa_, qb_, qc_])
        refine wpAnyH_ready (rs := [3]) (by kernel_rfl) (by simp) ?_
        refine AllReadyH.cons rfl (fun K hK => ?_) ?_
        · have hX4 : Below W2.heap.size W2 (W3.alloc (.cells #[.slice none 0 0, .slice none 0 0] 33)) := bel_alloc hx3 _
          go_simp
          go_at_call 10
          refine (o_toPiece ((tPiece).reach h1 (bel_trans hB2 hX4)) (by omega)).mono ?_
          rintro e W4 ⟨csy1, Fy1, rfl, o_y1, Ny1, hb_4⟩
          have hs4 : Below W3.heap.size W3 W4 := bel_trans (show Below W3.heap.size W3 (W3.alloc (.cells #[.slice none 0 0, .slice none 0 0] 33)) from (belx)) hb_4
          have hx4 : Below W2.heap.size W2 W4 := bel_trans hx3 hs4
          have Zb : Box (W3.alloc (.cells #[.slice none 0 0, .slice none 0 0] 33)) (W3.heap.size) 33 #[.slice none 0 0, .slice none 0 0] := (by first | exact Box.new _ _ _ | exact Box.drew (Box.new _ _ _))
          have hgX : W3.heap.size < (W3.alloc (.cells #[.slice none 0 0, .slice none 0 0] 33)).heap.size := Zb.size
          replace Zb := Box.below Zb hb_4 Zb.size
          go_wp2_with fail
          refine hK.out _ _ (by exact ⟨cell_bel hx4 k_Ba0_0, cell_bel hx4 k_Ba0_1, cell_bel hx4 k_Ba1_0, cell_bel hx4 k_Ba1_1, cell_bel hx4 k_Ba1_2, cell_bel hx4 k_Ba1_3⟩) (fun hHeld => ?_)
          clear hK K
          (try simp only [Act.put, qa_, qb_, qc_])
          refine wpAnyH_ready (rs := [5]) (by kernel_rfl) (by simp) ?_
          refine AllReadyH.cons rfl (fun K hK => ?_) ?_
          · have hX5 : Below W2.heap.size W2 W4 := hx4
            go_simp
            go_at_call 8
            refine (s_TakePiece ((tDesk).reach ((tDesk).read (Ty.below (t := tDesk) o_y0 hs4)) (belx)) (by omega) ((tPiece).reach ((tPiece).read o_y1) (belx)) (by omega) w2).mono ?_
            rintro e W5 ⟨css0, Fs0, As1, cs1, Fs1, rfl, o_s0, o_s1, Ns, hb_5⟩
            rw [HR0.out] at o_s0
            rw [HR1.out] at o_s1
            rw [HR1.out]
            rw [HR2.out]
            have oo_0 := o_s0
            obtain ⟨As00, cs00, Fs00, As01, cs01, Fs01, rfl, -, -, -, -, -, -, -⟩ := openODesk oo_0
            have hNw : New W2.heap.size (Fs0 ++ Fs1) := Ns.lower hX5.size
            have hs5 : Below W4.heap.size W4 W5 := bel_trans (show Below W4.heap.size W4 W4 from (belx)) hb_5
            have hx5 : Below W2.heap.size W2 W5 := bel_trans hx4 hs5
            have hgX : W3.heap.size < W4.heap.size := Zb.size
            have hgF : ∀ f ∈ Fs0 ++ Fs1, ¬ f = W3.heap.size := fun f hf e => by (subst e; exact Nat.lt_irrefl _ (Nat.lt_of_lt_of_le hgX (Ns.2 _ hf)))
            replace Zb := Box.below Zb hb_5 Zb.size
            have zb0 := Zb.cell 0
            have zb1 := Zb.cell 1
            have zf0 := Zb.frozen 0
            have zf1 := Zb.frozen 1
            go_wp2_with fail
            refine hK.out _ _ (by exact ⟨cell_bel hx5 k_Ba0_0, cell_bel hx5 k_Ba0_1, cell_bel hx5 k_Ba1_0, cell_bel hx5 k_Ba1_1, cell_bel hx5 k_Ba1_2, cell_bel hx5 k_Ba1_3⟩) (fun hHeld => ?_)
            clear hK K
            (try simp only [Act.put, qa_, qb_, qc_])
            refine wpAnyH_take (i := 6) (oi := ⟨some 32, _, _, _, _, _⟩) (v := ?v16) rfl (by kernel_rfl) (by kernel_rfl) (by kernel_rfl) (fun _ _ _ h => h) (Or.inl ⟨by rfl, ?hy16⟩) (by assumption) ?_
            case hy16 => (intro w hSw; (try dsimp only at hSw); go_simp; try (with_reducible rfl))
            (try simp only [Act.put, qa_, qb_, qc_])
            refine wpAnyH_take (i := 7) (oi := ⟨some 39, _, _, _, _, _⟩) (v := ?v17) rfl (by kernel_rfl) (by kernel_rfl) (by kernel_rfl) (fun _ _ _ h => h) (Or.inl ⟨by rfl, ?hy17⟩) (by assumption) ?_
            case hy17 => (intro w hSw; (try dsimp only at hSw); go_simp; try (with_reducible rfl))
            (try simp only [Act.put, qa_, qb_, qc_])
            refine wpAnyH_take (i := 8) (oi := ⟨some 40, _, _, _, _, _⟩) (v := ?v18) rfl (by kernel_rfl) (by kernel_rfl) (by kernel_rfl) (fun _ _ _ h => h) (Or.inl ⟨by rfl, ?hy18⟩) (by assumption) ?_
            case hy18 => (intro w hSw; (try dsimp only at hSw); go_simp; try (with_reducible rfl))
            (try simp only [Act.put, qa_, qb_, qc_])
            refine wpAnyH_take (i := 9) (oi := ⟨some 41, _, _, _, _, _⟩) (v := ?v19) rfl (by kernel_rfl) (by kernel_rfl) (by kernel_rfl) (fun _ _ _ h => h) (Or.inl ⟨by rfl, ?hy19⟩) (by assumption) ?_
            case hy19 => (intro w hSw; (try dsimp only at hSw); go_simp; try (with_reducible rfl))
            (try simp only [Act.put, qa_, qb_, qc_])
            refine wpAnyH_ready (rs := [11]) (by kernel_rfl) (by simp) ?_
            refine AllReadyH.cons rfl (fun K hK => ?_) ?_
            · have hg1 : W2.heap.size ≤ W3.heap.size := hx3.size
              have hfin := (bel_put (bel_put hx5 (p := ⟨W3.heap.size, 0, none⟩) hg1 (.slice As00 (r0.1).length cs00)) (p := ⟨W3.heap.size, 1, none⟩) hg1 (.slice As01 (r0.2).length cs01))
              have Zg := ((Zb.put 0 (.slice As00 (r0.1).length cs00)).put 1 (.slice As01 (r0.2).length cs01))
              have O_0 := (Ty.far3 (t := tDesk) (Ty.far3 (t := tDesk) o_s0 (p := ⟨W3.heap.size, 0, none⟩) (fun hx => hgF _ (List.mem_append.2 (.inl hx)) rfl) (.slice As00 (r0.1).length cs00)) (p := ⟨W3.heap.size, 1, none⟩) (fun hx => hgF _ (List.mem_append.2 (.inl hx)) rfl) (.slice As01 (r0.2).length cs01))
              have O_1 := (Ty.far3 (t := tBy) (Ty.far3 (t := tBy) o_s1 (p := ⟨W3.heap.size, 0, none⟩) (fun hx => hgF _ (List.mem_append.2 (.inr hx)) rfl) (.slice As00 (r0.1).length cs00)) (p := ⟨W3.heap.size, 1, none⟩) (fun hx => hgF _ (List.mem_append.2 (.inr hx)) rfl) (.slice As01 (r0.2).length cs01))
              have hg2 := Zg.size
              go_simp
              refine hK.out _ _ (by exact ⟨cell_bel hfin k_Ba0_0, cell_bel hfin k_Ba0_1, cell_bel hfin k_Ba1_0, cell_bel hfin k_Ba1_1, cell_bel hfin k_Ba1_2, cell_bel hfin k_Ba1_3⟩) (fun hHeld => ?_)
              clear hK K
              (try simp only [Act.put, qa_, qb_, qc_])
              refine wpAnyH_take (i := 12) (oi := ⟨some 9, _, _, _, _, _⟩) (v := ?v20) rfl (by kernel_rfl) (by kernel_rfl) (by kernel_rfl) (fun _ _ _ h => h) (Or.inl ⟨by rfl, ?hy20⟩) (by assumption) ?_
              case hy20 => (intro w hSw; (try dsimp only at hSw); go_simp; try (with_reducible rfl))
              (try simp only [Act.put, qa_, qb_, qc_])
              refine wpAnyH_take (i := 13) (oi := ⟨some 10, _, _, _, _, _⟩) (v := ?v21) rfl (by kernel_rfl) (by kernel_rfl) (by kernel_rfl) (fun _ _ _ h => h) (Or.inl ⟨by rfl, ?hy21⟩) (by assumption) ?_
              case hy21 => (intro w hSw; (try dsimp only at hSw); go_simp; try (with_reducible rfl))
              (try simp only [Act.put, qa_, qb_, qc_])
              refine wpAnyH_done (by kernel_rfl) ?_ _
              go_wp2_with fail
              go_meet
              exact ⟨_, [.slice As00 (r0.1).length cs00, .slice As01 (r0.2).length cs01], _, _, _, _, rfl, rfl, rfl, by first | exact Zg | simpa using Zg, O_0, O_1, hNw, hgF, hfin, hg1, by first | exact hg2 | simpa [World.setCell] using hg2⟩
            exact AllReadyH.nil
          exact AllReadyH.nil
        exact AllReadyH.nil
      exact AllReadyH.nil
    refine AllReadyH.cons rfl (fun K hK => ?_) ?_
    · go_simp
      refine hK.out _ _ (by exact ⟨cell_bel (show Below W2.heap.size W2 (W2.alloc (.cells #[.slice none 0 0, .slice none 0 0] 33)).drew from (belx)) k_Ba0_0, cell_bel (show Below W2.heap.size W2 (W2.alloc (.cells #[.slice none 0 0, .slice none 0 0] 33)).drew from (belx)) k_Ba0_1, cell_bel (show Below W2.heap.size W2 (W2.alloc (.cells #[.slice none 0 0, .slice none 0 0] 33)).drew from (belx)) k_Ba1_0, cell_bel (show Below W2.heap.size W2 (W2.alloc (.cells #[.slice none 0 0, .slice none 0 0] 33)).drew from (belx)) k_Ba1_1, cell_bel (show Below W2.heap.size W2 (W2.alloc (.cells #[.slice none 0 0, .slice none 0 0] 33)).drew from (belx)) k_Ba1_2, cell_bel (show Below W2.heap.size W2 (W2.alloc (.cells #[.slice none 0 0, .slice none 0 0] 33)).drew from (belx)) k_Ba1_3⟩) (fun hHeld => ?_)
      clear hK K
      (try simp only [Act.put, qa_, qb_, qc_])
      refine wpAnyH_ready (rs := [1]) (by kernel_rfl) (by simp) ?_
      refine AllReadyH.cons rfl (fun K hK => ?_) ?_
      · have hX3 : Below W2.heap.size W2 (W2.alloc (.cells #[.slice none 0 0, .slice none 0 0] 33)).drew := (belx)
        go_simp
        go_at_call 9
        refine (o_toDesk ((tDesk).reach h0 (bel_trans hB2 hX3)) (by omega)).mono ?_
        rintro e W3 ⟨csy0, Fy0, rfl, o_y0, Ny0, hb_3⟩
        have hs3 : Below W2.heap.size W2 W3 := bel_trans (show Below W2.heap.size W2 (W2.alloc (.cells #[.slice none 0 0, .slice none 0 0] 33)).drew from (belx)) hb_3
        have hx3 : Below W2.heap.size W2 W3 := hs3
        have Zb : Box (W2.alloc (.cells #[.slice none 0 0, .slice none 0 0] 33)).drew (W2.heap.size) 33 #[.slice none 0 0, .slice none 0 0] := (by first | exact Box.new _ _ _ | exact Box.drew (Box.new _ _ _))
        have hgX : W2.heap.size < (W2.alloc (.cells #[.slice none 0 0, .slice none 0 0] 33)).drew.heap.size := Zb.size
        replace Zb := Box.below Zb hb_3 Zb.size
        go_wp2_with fail
        refine hK.out _ _ (by exact ⟨cell_bel hx3 k_Ba0_0, cell_bel hx3 k_Ba0_1, cell_bel hx3 k_Ba1_0, cell_bel hx3 k_Ba1_1, cell_bel hx3 k_Ba1_2, cell_bel hx3 k_Ba1_3⟩) (fun hHeld => ?_)
        clear hK K
        (try simp only [Act.put, qa_, qb_, qc_])
        refine wpAnyH_ready (rs := [3]) (by kernel_rfl) (by simp) ?_
        refine AllReadyH.cons rfl (fun K hK => ?_) ?_
        · have hX4 : Below W2.heap.size W2 W3 := hx3
          go_simp
          go_at_call 10
          refine (o_toPiece ((tPiece).reach h1 (bel_trans hB2 hX4)) (by omega)).mono ?_
          rintro e W4 ⟨csy1, Fy1, rfl, o_y1, Ny1, hb_4⟩
          have hs4 : Below W3.heap.size W3 W4 := bel_trans (show Below W3.heap.size W3 W3 from (belx)) hb_4
          have hx4 : Below W2.heap.size W2 W4 := bel_trans hx3 hs4
          have hgX : W2.heap.size < W3.heap.size := Zb.size
          replace Zb := Box.below Zb hb_4 Zb.size
          go_wp2_with fail
          refine hK.out _ _ (by exact ⟨cell_bel hx4 k_Ba0_0, cell_bel hx4 k_Ba0_1, cell_bel hx4 k_Ba1_0, cell_bel hx4 k_Ba1_1, cell_bel hx4 k_Ba1_2, cell_bel hx4 k_Ba1_3⟩) (fun hHeld => ?_)
          clear hK K
          (try simp only [Act.put, qa_, qb_, qc_])
          refine wpAnyH_ready (rs := [5]) (by kernel_rfl) (by simp) ?_
          refine AllReadyH.cons rfl (fun K hK => ?_) ?_
          · have hX5 : Below W2.heap.size W2 W4 := hx4
            go_simp
            go_at_call 8
            refine (s_TakePiece ((tDesk).reach ((tDesk).read (Ty.below (t := tDesk) o_y0 hs4)) (belx)) (by omega) ((tPiece).reach ((tPiece).read o_y1) (belx)) (by omega) w2).mono ?_
            rintro e W5 ⟨css0, Fs0, As1, cs1, Fs1, rfl, o_s0, o_s1, Ns, hb_5⟩
            rw [HR0.out] at o_s0
            rw [HR1.out] at o_s1
            rw [HR1.out]
            rw [HR2.out]
            have oo_0 := o_s0
            obtain ⟨As00, cs00, Fs00, As01, cs01, Fs01, rfl, -, -, -, -, -, -, -⟩ := openODesk oo_0
            have hNw : New W2.heap.size (Fs0 ++ Fs1) := Ns.lower hX5.size
            have hs5 : Below W4.heap.size W4 W5 := bel_trans (show Below W4.heap.size W4 W4 from (belx)) hb_5
            have hx5 : Below W2.heap.size W2 W5 := bel_trans hx4 hs5
            have hgX : W2.heap.size < W4.heap.size := Zb.size
            have hgF : ∀ f ∈ Fs0 ++ Fs1, ¬ f = W2.heap.size := fun f hf e => by (subst e; exact Nat.lt_irrefl _ (Nat.lt_of_lt_of_le hgX (Ns.2 _ hf)))
            replace Zb := Box.below Zb hb_5 Zb.size
            have zb0 := Zb.cell 0
            have zb1 := Zb.cell 1
            have zf0 := Zb.frozen 0
            have zf1 := Zb.frozen 1
            go_wp2_with fail
            refine hK.out _ _ (by exact ⟨cell_bel hx5 k_Ba0_0, cell_bel hx5 k_Ba0_1, cell_bel hx5 k_Ba1_0, cell_bel hx5 k_Ba1_1, cell_bel hx5 k_Ba1_2, cell_bel hx5 k_Ba1_3⟩) (fun hHeld => ?_)
            clear hK K
            (try simp only [Act.put, qa_, qb_, qc_])
            refine wpAnyH_take (i := 6) (oi := ⟨some 32, _, _, _, _, _⟩) (v := ?v22) rfl (by kernel_rfl) (by kernel_rfl) (by kernel_rfl) (fun _ _ _ h => h) (Or.inl ⟨by rfl, ?hy22⟩) (by assumption) ?_
            case hy22 => (intro w hSw; (try dsimp only at hSw); go_simp; try (with_reducible rfl))
            (try simp only [Act.put, qa_, qb_, qc_])
            refine wpAnyH_take (i := 7) (oi := ⟨some 39, _, _, _, _, _⟩) (v := ?v23) rfl (by kernel_rfl) (by kernel_rfl) (by kernel_rfl) (fun _ _ _ h => h) (Or.inl ⟨by rfl, ?hy23⟩) (by assumption) ?_
            case hy23 => (intro w hSw; (try dsimp only at hSw); go_simp; try (with_reducible rfl))
            (try simp only [Act.put, qa_, qb_, qc_])
            refine wpAnyH_take (i := 8) (oi := ⟨some 40, _, _, _, _, _⟩) (v := ?v24) rfl (by kernel_rfl) (by kernel_rfl) (by kernel_rfl) (fun _ _ _ h => h) (Or.inl ⟨by rfl, ?hy24⟩) (by assumption) ?_
            case hy24 => (intro w hSw; (try dsimp only at hSw); go_simp; try (with_reducible rfl))
            (try simp only [Act.put, qa_, qb_, qc_])
            refine wpAnyH_take (i := 9) (oi := ⟨some 41, _, _, _, _, _⟩) (v := ?v25) rfl (by kernel_rfl) (by kernel_rfl) (by kernel_rfl) (fun _ _ _ h => h) (Or.inl ⟨by rfl, ?hy25⟩) (by assumption) ?_
            case hy25 => (intro w hSw; (try dsimp only at hSw); go_simp; try (with_reducible rfl))
            (try simp only [Act.put, qa_, qb_, qc_])
            refine wpAnyH_ready (rs := [11]) (by kernel_rfl) (by simp) ?_
            refine AllReadyH.cons rfl (fun K hK => ?_) ?_
            · have hg1 : W2.heap.size ≤ W2.heap.size := Nat.le_refl _
              have hfin := (bel_put (bel_put hx5 (p := ⟨W2.heap.size, 0, none⟩) hg1 (.slice As00 (r0.1).length cs00)) (p := ⟨W2.heap.size, 1, none⟩) hg1 (.slice As01 (r0.2).length cs01))
              have Zg := ((Zb.put 0 (.slice As00 (r0.1).length cs00)).put 1 (.slice As01 (r0.2).length cs01))
              have O_0 := (Ty.far3 (t := tDesk) (Ty.far3 (t := tDesk) o_s0 (p := ⟨W2.heap.size, 0, none⟩) (fun hx => hgF _ (List.mem_append.2 (.inl hx)) rfl) (.slice As00 (r0.1).length cs00)) (p := ⟨W2.heap.size, 1, none⟩) (fun hx => hgF _ (List.mem_append.2 (.inl hx)) rfl) (.slice As01 (r0.2).length cs01))
              have O_1 := (Ty.far3 (t := tBy) (Ty.far3 (t := tBy) o_s1 (p := ⟨W2.heap.size, 0, none⟩) (fun hx => hgF _ (List.mem_append.2 (.inr hx)) rfl) (.slice As00 (r0.1).length cs00)) (p := ⟨W2.heap.size, 1, none⟩) (fun hx => hgF _ (List.mem_append.2 (.inr hx)) rfl) (.slice As01 (r0.2).length cs01))
              have hg2 := Zg.size
              go_simp
              refine hK.out _ _ (by exact ⟨cell_bel hfin k_Ba0_0, cell_bel hfin k_Ba0_1, cell_bel hfin k_Ba1_0, cell_bel hfin k_Ba1_1, cell_bel hfin k_Ba1_2, cell_bel hfin k_Ba1_3⟩) (fun hHeld => ?_)
              clear hK K
              (try simp only [Act.put, qa_, qb_, qc_])
              refine wpAnyH_take (i := 12) (oi := ⟨some 9, _, _, _, _, _⟩) (v := ?v26) rfl (by kernel_rfl) (by kernel_rfl) (by kernel_rfl) (fun _ _ _ h => h) (Or.inl ⟨by rfl, ?hy26⟩) (by assumption) ?_
              case hy26 => (intro w hSw; (try dsimp only at hSw); go_simp; try (with_reducible rfl))
              (try simp only [Act.put, qa_, qb_, qc_])
              refine wpAnyH_take (i := 13) (oi := ⟨some 10, _, _, _, _, _⟩) (v := ?v27) rfl (by kernel_rfl) (by kernel_rfl) (by kernel_rfl) (fun _ _ _ h => h) (Or.inl ⟨by rfl, ?hy27⟩) (by assumption) ?_
              case hy27 => (intro w hSw; (try dsimp only at hSw); go_simp; try (with_reducible rfl))
              (try simp only [Act.put, qa_, qb_, qc_])
              refine wpAnyH_done (by kernel_rfl) ?_ _
              go_wp2_with fail
              go_meet
              exact ⟨_, [.slice As00 (r0.1).length cs00, .slice As01 (r0.2).length cs01], _, _, _, _, rfl, rfl, rfl, by first | exact Zg | simpa using Zg, O_0, O_1, hNw, hgF, hfin, hg1, by first | exact hg2 | simpa [World.setCell] using hg2⟩
            exact AllReadyH.nil
          exact AllReadyH.nil
        exact AllReadyH.nil
      exact AllReadyH.nil
    exact AllReadyH.nil
  case rest =>
  obtain ⟨gs, css0, As1, cs1, Fs0, Fs1, rfl, rfl, rfl, Zg, o_s0, o_s1, Ns, hgF, hsx, hg1, hg2⟩ := hcut
  generalize wc = W5 at *
  clear k_Ba0_0 k_Ba0_1
  clear k_Ba1_0 k_Ba1_1 k_Ba1_2 k_Ba1_3
  have z5 : W2.heap.size + 0 ≤ W5.heap.size := hsx.size
  have hB5 : Below w.heap.size w W5 := bel_trans hB2 hsx
  replace Ba0 := Ba0.below hsx Ba0.size
  replace Ba1 := Ba1.below hsx Ba1.size
  obtain ⟨As00, cs00, Fs00, As01, cs01, Fs01, rfl, -, -, -, -, -, -, -⟩ := openODesk o_s0
  have Bs0 : Box W5 gs 33 #[.slice As00 (r0.1).length cs00, .slice As01 (r0.2).length cs01] := by simpa using Zg
  clear Zg
  have k_Ba0_0 : W5.cell? ⟨w.heap.size, 0, none⟩ = some (.slice Aa00 na00 ca00) := Ba0.cell 0
  have k_Ba0_1 : W5.cell? ⟨w.heap.size, 1, none⟩ = some (.slice Aa01 na01 ca01) := Ba0.cell 1
  have k_Ba1_0 : W5.cell? ⟨w.heap.size + 1, 0, none⟩ = some (.int .i64 (p1.1)) := Ba1.cell 0
  have k_Ba1_1 : W5.cell? ⟨w.heap.size + 1, 1, none⟩ = some (.int .i64 (p1.2.1)) := Ba1.cell 1
  have k_Ba1_2 : W5.cell? ⟨w.heap.size + 1, 2, none⟩ = some (.int .i64 (p1.2.2.1)) := Ba1.cell 2
  have k_Ba1_3 : W5.cell? ⟨w.heap.size + 1, 3, none⟩ = some (.slice Aa13 na13 ca13) := Ba1.cell 3
  have k_Bs0_0 : W5.cell? ⟨gs, 0, none⟩ = some (.slice As00 (r0.1).length cs00) := Bs0.cell 0
  have k_Bs0_1 : W5.cell? ⟨gs, 1, none⟩ = some (.slice As01 (r0.2).length cs01) := Bs0.cell 1
  have r_s0 := (tDesk).read o_s0
  have r_s1 := (tBy).read o_s1
  clear Ns hgF o_s0 o_s1
  clear hsx
  go_wp2_with fail
  refine (o_toDesk ((tDesk).reach ((tDesk).reach h0 hB5) ?hB) (by omega)).mono ?_
  all_goals try (case hB => exact (belx))
  rintro e W6 ⟨csx0, Fx0, rfl, o_x0, Nx0, hb_⟩
  clear k_Ba0_0 k_Ba0_1
  clear k_Ba1_0 k_Ba1_1 k_Ba1_2 k_Ba1_3
  clear k_Bs0_0 k_Bs0_1
  have Ix0 : ∀ f ∈ Fx0, W5.heap.size + 0 ≤ f ∧ f < W6.heap.size := fun f hf => ⟨Nat.le_trans (by first | (simp; done) | (simp; omega)) (Nx0.2 f hf), (tDesk).lt o_x0 f hf⟩
  have Dx0 := Nx0.1
  clear Nx0
  obtain ⟨Ax00, cx00, Fx00, Ax01, cx01, Fx01, rfl, -, -, -, -, -, -, -⟩ := openODesk o_x0
  have hs6 : Below W5.heap.size W5 W6 := bel_trans (belx) hb_
  have z6 : W5.heap.size + 0 ≤ W6.heap.size := by have := hb_.size; simpa using this
  have hB6 : Below w.heap.size w W6 := bel_trans hB5 hs6
  replace Ba0 := Ba0.below hs6 Ba0.size
  replace Ba1 := Ba1.below hs6 Ba1.size
  replace Bs0 := Bs0.below hs6 Bs0.size
  replace r_s0 := (tDesk).keep r_s0 (fun b hb => hs6.block b (Nat.lt_of_lt_of_le hb (by omega)))
  replace r_s1 := (tBy).keep r_s1 (fun b hb => hs6.block b (Nat.lt_of_lt_of_le hb (by omega)))
  have k_Ba0_0 : W6.cell? ⟨w.heap.size, 0, none⟩ = some (.slice Aa00 na00 ca00) := Ba0.cell 0
  have k_Ba0_1 : W6.cell? ⟨w.heap.size, 1, none⟩ = some (.slice Aa01 na01 ca01) := Ba0.cell 1
  have k_Ba1_0 : W6.cell? ⟨w.heap.size + 1, 0, none⟩ = some (.int .i64 (p1.1)) := Ba1.cell 0
  have k_Ba1_1 : W6.cell? ⟨w.heap.size + 1, 1, none⟩ = some (.int .i64 (p1.2.1)) := Ba1.cell 1
  have k_Ba1_2 : W6.cell? ⟨w.heap.size + 1, 2, none⟩ = some (.int .i64 (p1.2.2.1)) := Ba1.cell 2
  have k_Ba1_3 : W6.cell? ⟨w.heap.size + 1, 3, none⟩ = some (.slice Aa13 na13 ca13) := Ba1.cell 3
  have k_Bs0_0 : W6.cell? ⟨gs, 0, none⟩ = some (.slice As00 (r0.1).length cs00) := Bs0.cell 0
  have k_Bs0_1 : W6.cell? ⟨gs, 1, none⟩ = some (.slice As01 (r0.2).length cs01) := Bs0.cell 1
  clear hb_
  have d_Ba0_0 : (W6.alloc (.cells #[.slice Ax00 (p0.1).length cx00, .slice Ax01 (p0.2).length cx01] 33)).cell? ⟨w.heap.size, 0, none⟩ = some (.slice Aa00 na00 ca00) := (Ba0.alloc _).cell 0
  have d_Ba0_1 : (W6.alloc (.cells #[.slice Ax00 (p0.1).length cx00, .slice Ax01 (p0.2).length cx01] 33)).cell? ⟨w.heap.size, 1, none⟩ = some (.slice Aa01 na01 ca01) := (Ba0.alloc _).cell 1
  have d_Ba1_0 : (W6.alloc (.cells #[.slice Ax00 (p0.1).length cx00, .slice Ax01 (p0.2).length cx01] 33)).cell? ⟨w.heap.size + 1, 0, none⟩ = some (.int .i64 (p1.1)) := (Ba1.alloc _).cell 0
  have d_Ba1_1 : (W6.alloc (.cells #[.slice Ax00 (p0.1).length cx00, .slice Ax01 (p0.2).length cx01] 33)).cell? ⟨w.heap.size + 1, 1, none⟩ = some (.int .i64 (p1.2.1)) := (Ba1.alloc _).cell 1
  have d_Ba1_2 : (W6.alloc (.cells #[.slice Ax00 (p0.1).length cx00, .slice Ax01 (p0.2).length cx01] 33)).cell? ⟨w.heap.size + 1, 2, none⟩ = some (.int .i64 (p1.2.2.1)) := (Ba1.alloc _).cell 2
  have d_Ba1_3 : (W6.alloc (.cells #[.slice Ax00 (p0.1).length cx00, .slice Ax01 (p0.2).length cx01] 33)).cell? ⟨w.heap.size + 1, 3, none⟩ = some (.slice Aa13 na13 ca13) := (Ba1.alloc _).cell 3
  have d_Bs0_0 : (W6.alloc (.cells #[.slice Ax00 (p0.1).length cx00, .slice Ax01 (p0.2).length cx01] 33)).cell? ⟨gs, 0, none⟩ = some (.slice As00 (r0.1).length cs00) := (Bs0.alloc _).cell 0
  have d_Bs0_1 : (W6.alloc (.cells #[.slice Ax00 (p0.1).length cx00, .slice Ax01 (p0.2).length cx01] 33)).cell? ⟨gs, 1, none⟩ = some (.slice As01 (r0.2).length cs01) := (Bs0.alloc _).cell 1
  go_wp2_with fail
  refine (o_toPiece ((tPiece).reach ((tPiece).reach h1 hB6) ?hB) (by omega)).mono ?_
  all_goals try (case hB => exact (belx))
  rintro e W7 ⟨csx1, Fx1, rfl, o_x1, Nx1, hb_⟩
  clear d_Ba0_0 d_Ba0_1 d_Ba1_0 d_Ba1_1 d_Ba1_2 d_Ba1_3 d_Bs0_0 d_Bs0_1
  clear k_Ba0_0 k_Ba0_1
  clear k_Ba1_0 k_Ba1_1 k_Ba1_2 k_Ba1_3
  clear k_Bs0_0 k_Bs0_1
  have Ix1 : ∀ f ∈ Fx1, W6.heap.size + 1 ≤ f ∧ f < W7.heap.size := fun f hf => ⟨Nat.le_trans (by first | (simp; done) | (simp; omega)) (Nx1.2 f hf), (tPiece).lt o_x1 f hf⟩
  have Dx1 := Nx1.1
  clear Nx1
  obtain ⟨Ax13, cx13, Fx13, rfl, -, -, -, -, -, -, -⟩ := openOPiece o_x1
  have hs7 : Below W6.heap.size W6 W7 := bel_trans (belx) hb_
  have z7 : W6.heap.size + 1 ≤ W7.heap.size := by have := hb_.size; simpa using this
  have hB7 : Below w.heap.size w W7 := bel_trans hB6 hs7
  replace Ba0 := Ba0.below hs7 Ba0.size
  replace Ba1 := Ba1.below hs7 Ba1.size
  replace Bs0 := Bs0.below hs7 Bs0.size
  have Bx0 : Box W7 (W6.heap.size) 33 #[.slice Ax00 (p0.1).length cx00, .slice Ax01 (p0.2).length cx01] := Box.below (Box.new _ _ _) hb_ (by first | (simp; done) | (simp; omega))
  replace o_x0 := Ty.below (t := tDesk) o_x0 hs7
  replace r_s0 := (tDesk).keep r_s0 (fun b hb => hs7.block b (Nat.lt_of_lt_of_le hb (by omega)))
  replace r_s1 := (tBy).keep r_s1 (fun b hb => hs7.block b (Nat.lt_of_lt_of_le hb (by omega)))
  have k_Ba0_0 : W7.cell? ⟨w.heap.size, 0, none⟩ = some (.slice Aa00 na00 ca00) := Ba0.cell 0
  have k_Ba0_1 : W7.cell? ⟨w.heap.size, 1, none⟩ = some (.slice Aa01 na01 ca01) := Ba0.cell 1
  have k_Ba1_0 : W7.cell? ⟨w.heap.size + 1, 0, none⟩ = some (.int .i64 (p1.1)) := Ba1.cell 0
  have k_Ba1_1 : W7.cell? ⟨w.heap.size + 1, 1, none⟩ = some (.int .i64 (p1.2.1)) := Ba1.cell 1
  have k_Ba1_2 : W7.cell? ⟨w.heap.size + 1, 2, none⟩ = some (.int .i64 (p1.2.2.1)) := Ba1.cell 2
  have k_Ba1_3 : W7.cell? ⟨w.heap.size + 1, 3, none⟩ = some (.slice Aa13 na13 ca13) := Ba1.cell 3
  have k_Bs0_0 : W7.cell? ⟨gs, 0, none⟩ = some (.slice As00 (r0.1).length cs00) := Bs0.cell 0
  have k_Bs0_1 : W7.cell? ⟨gs, 1, none⟩ = some (.slice As01 (r0.2).length cs01) := Bs0.cell 1
  have k_Bx0_0 : W7.cell? ⟨W6.heap.size, 0, none⟩ = some (.slice Ax00 (p0.1).length cx00) := Bx0.cell 0
  have k_Bx0_1 : W7.cell? ⟨W6.heap.size, 1, none⟩ = some (.slice Ax01 (p0.2).length cx01) := Bx0.cell 1
  clear hb_
  have d_Ba0_0 : (W7.alloc (.cells #[.int .i64 (p1.1), .int .i64 (p1.2.1), .int .i64 (p1.2.2.1), .slice Ax13 (p1.2.2.2).length cx13] 37)).cell? ⟨w.heap.size, 0, none⟩ = some (.slice Aa00 na00 ca00) := (Ba0.alloc _).cell 0
  have d_Ba0_1 : (W7.alloc (.cells #[.int .i64 (p1.1), .int .i64 (p1.2.1), .int .i64 (p1.2.2.1), .slice Ax13 (p1.2.2.2).length cx13] 37)).cell? ⟨w.heap.size, 1, none⟩ = some (.slice Aa01 na01 ca01) := (Ba0.alloc _).cell 1
  have d_Ba1_0 : (W7.alloc (.cells #[.int .i64 (p1.1), .int .i64 (p1.2.1), .int .i64 (p1.2.2.1), .slice Ax13 (p1.2.2.2).length cx13] 37)).cell? ⟨w.heap.size + 1, 0, none⟩ = some (.int .i64 (p1.1)) := (Ba1.alloc _).cell 0
  have d_Ba1_1 : (W7.alloc (.cells #[.int .i64 (p1.1), .int .i64 (p1.2.1), .int .i64 (p1.2.2.1), .slice Ax13 (p1.2.2.2).length cx13] 37)).cell? ⟨w.heap.size + 1, 1, none⟩ = some (.int .i64 (p1.2.1)) := (Ba1.alloc _).cell 1
  have d_Ba1_2 : (W7.alloc (.cells #[.int .i64 (p1.1), .int .i64 (p1.2.1), .int .i64 (p1.2.2.1), .slice Ax13 (p1.2.2.2).length cx13] 37)).cell? ⟨w.heap.size + 1, 2, none⟩ = some (.int .i64 (p1.2.2.1)) := (Ba1.alloc _).cell 2
  have d_Ba1_3 : (W7.alloc (.cells #[.int .i64 (p1.1), .int .i64 (p1.2.1), .int .i64 (p1.2.2.1), .slice Ax13 (p1.2.2.2).length cx13] 37)).cell? ⟨w.heap.size + 1, 3, none⟩ = some (.slice Aa13 na13 ca13) := (Ba1.alloc _).cell 3
  have d_Bs0_0 : (W7.alloc (.cells #[.int .i64 (p1.1), .int .i64 (p1.2.1), .int .i64 (p1.2.2.1), .slice Ax13 (p1.2.2.2).length cx13] 37)).cell? ⟨gs, 0, none⟩ = some (.slice As00 (r0.1).length cs00) := (Bs0.alloc _).cell 0
  have d_Bs0_1 : (W7.alloc (.cells #[.int .i64 (p1.1), .int .i64 (p1.2.1), .int .i64 (p1.2.2.1), .slice Ax13 (p1.2.2.2).length cx13] 37)).cell? ⟨gs, 1, none⟩ = some (.slice As01 (r0.2).length cs01) := (Bs0.alloc _).cell 1
  have d_Bx0_0 : (W7.alloc (.cells #[.int .i64 (p1.1), .int .i64 (p1.2.1), .int .i64 (p1.2.2.1), .slice Ax13 (p1.2.2.2).length cx13] 37)).cell? ⟨W6.heap.size, 0, none⟩ = some (.slice Ax00 (p0.1).length cx00) := (Bx0.alloc _).cell 0
  have d_Bx0_1 : (W7.alloc (.cells #[.int .i64 (p1.1), .int .i64 (p1.2.1), .int .i64 (p1.2.2.1), .slice Ax13 (p1.2.2.2).length cx13] 37)).cell? ⟨W6.heap.size, 1, none⟩ = some (.slice Ax01 (p0.2).length cx01) := (Bx0.alloc _).cell 1
  go_wp2_with fail
  refine (i_TakePiece ((tDesk).reach ((tDesk).read o_x0) ?hB) (by omega) ((tPiece).reach ((tPiece).read o_x1) ?hB) (by omega) w2).mono ?_
  all_goals try (case hB => exact (belx))
  rintro e W8 ⟨csg0, Fg0, Ag1, cg1, Fg1, rfl, o_g0, o_g1, Ng, hb_⟩
  clear d_Ba0_0 d_Ba0_1 d_Ba1_0 d_Ba1_1 d_Ba1_2 d_Ba1_3 d_Bs0_0 d_Bs0_1 d_Bx0_0 d_Bx0_1
  clear k_Ba0_0 k_Ba0_1
  clear k_Ba1_0 k_Ba1_1 k_Ba1_2 k_Ba1_3
  clear k_Bs0_0 k_Bs0_1
  clear k_Bx0_0 k_Bx0_1
  rw [HR0.out] at o_g0
  rw [HR1.out] at o_g1
  rw [HR1.out]
  rw [HR2.out]
  obtain ⟨Ag00, cg00, Fg00, Ag01, cg01, Fg01, rfl, -, -, -, -, -, -, -⟩ := openODesk o_g0
  have Ig0 : ∀ f ∈ Fg0, W7.heap.size + 1 ≤ f ∧ f < W8.heap.size := fun f hf => ⟨Nat.le_trans (by first | (simp; done) | (simp; omega)) (Ng.2 f (by simp [hf])), (tDesk).lt o_g0 f hf⟩
  have Ig1 : ∀ f ∈ Fg1, W7.heap.size + 1 ≤ f ∧ f < W8.heap.size := fun f hf => ⟨Nat.le_trans (by first | (simp; done) | (simp; omega)) (Ng.2 f (by simp [hf])), (tBy).lt o_g1 f hf⟩
  have Dg0 := (List.nodup_append.1 Ng.1).1
  have Dg1 := (List.nodup_append.1 Ng.1).2.1
  have Xg : ∀ f ∈ Fg0, f ∉ Fg1 := fun f h1 h2 => (List.nodup_append.1 Ng.1).2.2 f h1 f h2 rfl
  clear Ng
  have hs8 : Below W7.heap.size W7 W8 := bel_trans (belx) hb_
  have z8 : W7.heap.size + 1 ≤ W8.heap.size := by have := hb_.size; simpa using this
  have hB8 : Below w.heap.size w W8 := bel_trans hB7 hs8
  replace Ba0 := Ba0.below hs8 Ba0.size
  replace Ba1 := Ba1.below hs8 Ba1.size
  replace Bs0 := Bs0.below hs8 Bs0.size
  replace Bx0 := Bx0.below hs8 Bx0.size
  have Bx1 : Box W8 (W7.heap.size) 37 #[.int .i64 (p1.1), .int .i64 (p1.2.1), .int .i64 (p1.2.2.1), .slice Ax13 (p1.2.2.2).length cx13] := Box.below (Box.new _ _ _) hb_ (by first | (simp; done) | (simp; omega))
  replace o_x0 := Ty.below (t := tDesk) o_x0 hs8
  replace o_x1 := Ty.below (t := tPiece) o_x1 hs8
  replace r_s0 := (tDesk).keep r_s0 (fun b hb => hs8.block b (Nat.lt_of_lt_of_le hb (by omega)))
  replace r_s1 := (tBy).keep r_s1 (fun b hb => hs8.block b (Nat.lt_of_lt_of_le hb (by omega)))
  have k_Ba0_0 : W8.cell? ⟨w.heap.size, 0, none⟩ = some (.slice Aa00 na00 ca00) := Ba0.cell 0
  have k_Ba0_1 : W8.cell? ⟨w.heap.size, 1, none⟩ = some (.slice Aa01 na01 ca01) := Ba0.cell 1
  have k_Ba1_0 : W8.cell? ⟨w.heap.size + 1, 0, none⟩ = some (.int .i64 (p1.1)) := Ba1.cell 0
  have k_Ba1_1 : W8.cell? ⟨w.heap.size + 1, 1, none⟩ = some (.int .i64 (p1.2.1)) := Ba1.cell 1
  have k_Ba1_2 : W8.cell? ⟨w.heap.size + 1, 2, none⟩ = some (.int .i64 (p1.2.2.1)) := Ba1.cell 2
  have k_Ba1_3 : W8.cell? ⟨w.heap.size + 1, 3, none⟩ = some (.slice Aa13 na13 ca13) := Ba1.cell 3
  have k_Bs0_0 : W8.cell? ⟨gs, 0, none⟩ = some (.slice As00 (r0.1).length cs00) := Bs0.cell 0
  have k_Bs0_1 : W8.cell? ⟨gs, 1, none⟩ = some (.slice As01 (r0.2).length cs01) := Bs0.cell 1
  have k_Bx0_0 : W8.cell? ⟨W6.heap.size, 0, none⟩ = some (.slice Ax00 (p0.1).length cx00) := Bx0.cell 0
  have k_Bx0_1 : W8.cell? ⟨W6.heap.size, 1, none⟩ = some (.slice Ax01 (p0.2).length cx01) := Bx0.cell 1
  have k_Bx1_0 : W8.cell? ⟨W7.heap.size, 0, none⟩ = some (.int .i64 (p1.1)) := Bx1.cell 0
  have k_Bx1_1 : W8.cell? ⟨W7.heap.size, 1, none⟩ = some (.int .i64 (p1.2.1)) := Bx1.cell 1
  have k_Bx1_2 : W8.cell? ⟨W7.heap.size, 2, none⟩ = some (.int .i64 (p1.2.2.1)) := Bx1.cell 2
  have k_Bx1_3 : W8.cell? ⟨W7.heap.size, 3, none⟩ = some (.slice Ax13 (p1.2.2.2).length cx13) := Bx1.cell 3
  clear hb_
  have d_Ba0_0 : (W8.alloc (.cells #[.slice Ag00 (r0.1).length cg00, .slice Ag01 (r0.2).length cg01] 33)).cell? ⟨w.heap.size, 0, none⟩ = some (.slice Aa00 na00 ca00) := (Ba0.alloc _).cell 0
  have d_Ba0_1 : (W8.alloc (.cells #[.slice Ag00 (r0.1).length cg00, .slice Ag01 (r0.2).length cg01] 33)).cell? ⟨w.heap.size, 1, none⟩ = some (.slice Aa01 na01 ca01) := (Ba0.alloc _).cell 1
  have d_Ba1_0 : (W8.alloc (.cells #[.slice Ag00 (r0.1).length cg00, .slice Ag01 (r0.2).length cg01] 33)).cell? ⟨w.heap.size + 1, 0, none⟩ = some (.int .i64 (p1.1)) := (Ba1.alloc _).cell 0
  have d_Ba1_1 : (W8.alloc (.cells #[.slice Ag00 (r0.1).length cg00, .slice Ag01 (r0.2).length cg01] 33)).cell? ⟨w.heap.size + 1, 1, none⟩ = some (.int .i64 (p1.2.1)) := (Ba1.alloc _).cell 1
  have d_Ba1_2 : (W8.alloc (.cells #[.slice Ag00 (r0.1).length cg00, .slice Ag01 (r0.2).length cg01] 33)).cell? ⟨w.heap.size + 1, 2, none⟩ = some (.int .i64 (p1.2.2.1)) := (Ba1.alloc _).cell 2
  have d_Ba1_3 : (W8.alloc (.cells #[.slice Ag00 (r0.1).length cg00, .slice Ag01 (r0.2).length cg01] 33)).cell? ⟨w.heap.size + 1, 3, none⟩ = some (.slice Aa13 na13 ca13) := (Ba1.alloc _).cell 3
  have d_Bs0_0 : (W8.alloc (.cells #[.slice Ag00 (r0.1).length cg00, .slice Ag01 (r0.2).length cg01] 33)).cell? ⟨gs, 0, none⟩ = some (.slice As00 (r0.1).length cs00) := (Bs0.alloc _).cell 0
  have d_Bs0_1 : (W8.alloc (.cells #[.slice Ag00 (r0.1).length cg00, .slice Ag01 (r0.2).length cg01] 33)).cell? ⟨gs, 1, none⟩ = some (.slice As01 (r0.2).length cs01) := (Bs0.alloc _).cell 1
  have d_Bx0_0 : (W8.alloc (.cells #[.slice Ag00 (r0.1).length cg00, .slice Ag01 (r0.2).length cg01] 33)).cell? ⟨W6.heap.size, 0, none⟩ = some (.slice Ax00 (p0.1).length cx00) := (Bx0.alloc _).cell 0
  have d_Bx0_1 : (W8.alloc (.cells #[.slice Ag00 (r0.1).length cg00, .slice Ag01 (r0.2).length cg01] 33)).cell? ⟨W6.heap.size, 1, none⟩ = some (.slice Ax01 (p0.2).length cx01) := (Bx0.alloc _).cell 1
  have d_Bx1_0 : (W8.alloc (.cells #[.slice Ag00 (r0.1).length cg00, .slice Ag01 (r0.2).length cg01] 33)).cell? ⟨W7.heap.size, 0, none⟩ = some (.int .i64 (p1.1)) := (Bx1.alloc _).cell 0
  have d_Bx1_1 : (W8.alloc (.cells #[.slice Ag00 (r0.1).length cg00, .slice Ag01 (r0.2).length cg01] 33)).cell? ⟨W7.heap.size, 1, none⟩ = some (.int .i64 (p1.2.1)) := (Bx1.alloc _).cell 1
  have d_Bx1_2 : (W8.alloc (.cells #[.slice Ag00 (r0.1).length cg00, .slice Ag01 (r0.2).length cg01] 33)).cell? ⟨W7.heap.size, 2, none⟩ = some (.int .i64 (p1.2.2.1)) := (Bx1.alloc _).cell 2
  have d_Bx1_3 : (W8.alloc (.cells #[.slice Ag00 (r0.1).length cg00, .slice Ag01 (r0.2).length cg01] 33)).cell? ⟨W7.heap.size, 3, none⟩ = some (.slice Ax13 (p1.2.2.2).length cx13) := (Bx1.alloc _).cell 3
  go_wp2_with fail
  refine (o_eqDesk ((tDesk).reach ((tDesk).read o_g0) ?hB) ((tDesk).reach ((tDesk).up r_s0 (by omega : W5.heap.size ≤ W8.heap.size)) ?hB)).mono ?_
  all_goals try (case hB => exact (belx))
  rintro e W9 ⟨rfl, hb_⟩
  clear d_Ba0_0 d_Ba0_1 d_Ba1_0 d_Ba1_1 d_Ba1_2 d_Ba1_3 d_Bs0_0 d_Bs0_1 d_Bx0_0 d_Bx0_1 d_Bx1_0 d_Bx1_1 d_Bx1_2 d_Bx1_3
  clear k_Ba0_0 k_Ba0_1
  clear k_Ba1_0 k_Ba1_1 k_Ba1_2 k_Ba1_3
  clear k_Bs0_0 k_Bs0_1
  clear k_Bx0_0 k_Bx0_1
  clear k_Bx1_0 k_Bx1_1 k_Bx1_2 k_Bx1_3
  have hs9 : Below W8.heap.size W8 W9 := bel_trans (belx) hb_
  have z9 : W8.heap.size + 1 ≤ W9.heap.size := by have := hb_.size; simpa using this
  have hB9 : Below w.heap.size w W9 := bel_trans hB8 hs9
  replace Ba0 := Ba0.below hs9 Ba0.size
  replace Ba1 := Ba1.below hs9 Ba1.size
  replace Bs0 := Bs0.below hs9 Bs0.size
  replace Bx0 := Bx0.below hs9 Bx0.size
  replace Bx1 := Bx1.below hs9 Bx1.size
  have Bg0 : Box W9 (W8.heap.size) 33 #[.slice Ag00 (r0.1).length cg00, .slice Ag01 (r0.2).length cg01] := Box.below (Box.new _ _ _) hb_ (by first | (simp; done) | (simp; omega))
  replace o_x0 := Ty.below (t := tDesk) o_x0 hs9
  replace o_x1 := Ty.below (t := tPiece) o_x1 hs9
  replace o_g0 := Ty.below (t := tDesk) o_g0 hs9
  replace o_g1 := Ty.below (t := tBy) o_g1 hs9
  replace r_s0 := (tDesk).keep r_s0 (fun b hb => hs9.block b (Nat.lt_of_lt_of_le hb (by omega)))
  replace r_s1 := (tBy).keep r_s1 (fun b hb => hs9.block b (Nat.lt_of_lt_of_le hb (by omega)))
  have k_Ba0_0 : W9.cell? ⟨w.heap.size, 0, none⟩ = some (.slice Aa00 na00 ca00) := Ba0.cell 0
  have k_Ba0_1 : W9.cell? ⟨w.heap.size, 1, none⟩ = some (.slice Aa01 na01 ca01) := Ba0.cell 1
  have k_Ba1_0 : W9.cell? ⟨w.heap.size + 1, 0, none⟩ = some (.int .i64 (p1.1)) := Ba1.cell 0
  have k_Ba1_1 : W9.cell? ⟨w.heap.size + 1, 1, none⟩ = some (.int .i64 (p1.2.1)) := Ba1.cell 1
  have k_Ba1_2 : W9.cell? ⟨w.heap.size + 1, 2, none⟩ = some (.int .i64 (p1.2.2.1)) := Ba1.cell 2
  have k_Ba1_3 : W9.cell? ⟨w.heap.size + 1, 3, none⟩ = some (.slice Aa13 na13 ca13) := Ba1.cell 3
  have k_Bs0_0 : W9.cell? ⟨gs, 0, none⟩ = some (.slice As00 (r0.1).length cs00) := Bs0.cell 0
  have k_Bs0_1 : W9.cell? ⟨gs, 1, none⟩ = some (.slice As01 (r0.2).length cs01) := Bs0.cell 1
  have k_Bx0_0 : W9.cell? ⟨W6.heap.size, 0, none⟩ = some (.slice Ax00 (p0.1).length cx00) := Bx0.cell 0
  have k_Bx0_1 : W9.cell? ⟨W6.heap.size, 1, none⟩ = some (.slice Ax01 (p0.2).length cx01) := Bx0.cell 1
  have k_Bx1_0 : W9.cell? ⟨W7.heap.size, 0, none⟩ = some (.int .i64 (p1.1)) := Bx1.cell 0
  have k_Bx1_1 : W9.cell? ⟨W7.heap.size, 1, none⟩ = some (.int .i64 (p1.2.1)) := Bx1.cell 1
  have k_Bx1_2 : W9.cell? ⟨W7.heap.size, 2, none⟩ = some (.int .i64 (p1.2.2.1)) := Bx1.cell 2
  have k_Bx1_3 : W9.cell? ⟨W7.heap.size, 3, none⟩ = some (.slice Ax13 (p1.2.2.2).length cx13) := Bx1.cell 3
  have k_Bg0_0 : W9.cell? ⟨W8.heap.size, 0, none⟩ = some (.slice Ag00 (r0.1).length cg00) := Bg0.cell 0
  have k_Bg0_1 : W9.cell? ⟨W8.heap.size, 1, none⟩ = some (.slice Ag01 (r0.2).length cg01) := Bg0.cell 1
  clear hb_
  go_wp2_with fail
  refine (o_eqByteS ((tBy).reach ((tBy).read o_g1) ?hB) ((tBy).reach ((tBy).up r_s1 (by omega : W5.heap.size ≤ W9.heap.size)) ?hB)).mono ?_
  all_goals try (case hB => exact (belx))
  rintro e W10 ⟨rfl, hb_⟩
  clear k_Ba0_0 k_Ba0_1
  clear k_Ba1_0 k_Ba1_1 k_Ba1_2 k_Ba1_3
  clear k_Bs0_0 k_Bs0_1
  clear k_Bx0_0 k_Bx0_1
  clear k_Bx1_0 k_Bx1_1 k_Bx1_2 k_Bx1_3
  clear k_Bg0_0 k_Bg0_1
  have hs10 : Below W9.heap.size W9 W10 := bel_trans (belx) hb_
  have z10 : W9.heap.size + 0 ≤ W10.heap.size := by have := hb_.size; simpa using this
  have hB10 : Below w.heap.size w W10 := bel_trans hB9 hs10
  replace Ba0 := Ba0.below hs10 Ba0.size
  replace Ba1 := Ba1.below hs10 Ba1.size
  replace Bs0 := Bs0.below hs10 Bs0.size
  replace Bx0 := Bx0.below hs10 Bx0.size
  replace Bx1 := Bx1.below hs10 Bx1.size
  replace Bg0 := Bg0.below hs10 Bg0.size
  replace o_x0 := Ty.below (t := tDesk) o_x0 hs10
  replace o_x1 := Ty.below (t := tPiece) o_x1 hs10
  replace o_g0 := Ty.below (t := tDesk) o_g0 hs10
  replace o_g1 := Ty.below (t := tBy) o_g1 hs10
  replace r_s0 := (tDesk).keep r_s0 (fun b hb => hs10.block b (Nat.lt_of_lt_of_le hb (by omega)))
  replace r_s1 := (tBy).keep r_s1 (fun b hb => hs10.block b (Nat.lt_of_lt_of_le hb (by omega)))
  have k_Ba0_0 : W10.cell? ⟨w.heap.size, 0, none⟩ = some (.slice Aa00 na00 ca00) := Ba0.cell 0
  have k_Ba0_1 : W10.cell? ⟨w.heap.size, 1, none⟩ = some (.slice Aa01 na01 ca01) := Ba0.cell 1
  have k_Ba1_0 : W10.cell? ⟨w.heap.size + 1, 0, none⟩ = some (.int .i64 (p1.1)) := Ba1.cell 0
  have k_Ba1_1 : W10.cell? ⟨w.heap.size + 1, 1, none⟩ = some (.int .i64 (p1.2.1)) := Ba1.cell 1
  have k_Ba1_2 : W10.cell? ⟨w.heap.size + 1, 2, none⟩ = some (.int .i64 (p1.2.2.1)) := Ba1.cell 2
  have k_Ba1_3 : W10.cell? ⟨w.heap.size + 1, 3, none⟩ = some (.slice Aa13 na13 ca13) := Ba1.cell 3
  have k_Bs0_0 : W10.cell? ⟨gs, 0, none⟩ = some (.slice As00 (r0.1).length cs00) := Bs0.cell 0
  have k_Bs0_1 : W10.cell? ⟨gs, 1, none⟩ = some (.slice As01 (r0.2).length cs01) := Bs0.cell 1
  have k_Bx0_0 : W10.cell? ⟨W6.heap.size, 0, none⟩ = some (.slice Ax00 (p0.1).length cx00) := Bx0.cell 0
  have k_Bx0_1 : W10.cell? ⟨W6.heap.size, 1, none⟩ = some (.slice Ax01 (p0.2).length cx01) := Bx0.cell 1
  have k_Bx1_0 : W10.cell? ⟨W7.heap.size, 0, none⟩ = some (.int .i64 (p1.1)) := Bx1.cell 0
  have k_Bx1_1 : W10.cell? ⟨W7.heap.size, 1, none⟩ = some (.int .i64 (p1.2.1)) := Bx1.cell 1
  have k_Bx1_2 : W10.cell? ⟨W7.heap.size, 2, none⟩ = some (.int .i64 (p1.2.2.1)) := Bx1.cell 2
  have k_Bx1_3 : W10.cell? ⟨W7.heap.size, 3, none⟩ = some (.slice Ax13 (p1.2.2.2).length cx13) := Bx1.cell 3
  have k_Bg0_0 : W10.cell? ⟨W8.heap.size, 0, none⟩ = some (.slice Ag00 (r0.1).length cg00) := Bg0.cell 0
  have k_Bg0_1 : W10.cell? ⟨W8.heap.size, 1, none⟩ = some (.slice Ag01 (r0.2).length cg01) := Bg0.cell 1
  clear hb_
  go_wp2_with fail
  go_region_held3 (fun w' => w'.cell? ⟨w.heap.size, 0, none⟩ = some (.slice Aa00 na00 ca00) ∧ w'.cell? ⟨w.heap.size, 1, none⟩ = some (.slice Aa01 na01 ca01) ∧ w'.cell? ⟨W6.heap.size, 0, none⟩ = some (.slice Ax00 (p0.1).length cx00) ∧ w'.cell? ⟨W6.heap.size, 1, none⟩ = some (.slice Ax01 (p0.2).length cx01)) (first | (exact ⟨k_Ba0_0, k_Ba0_1, k_Bx0_0, k_Bx0_1⟩) | (exact ⟨cell_bel hs12 k_Ba0_0, cell_bel hs12 k_Ba0_1, cell_bel hs12 k_Bx0_0, cell_bel hs12 k_Bx0_1⟩) | (exact ⟨cell_bel hs11 k_Ba0_0, cell_bel hs11 k_Ba0_1, cell_bel hs11 k_Bx0_0, cell_bel hs11 k_Bx0_1⟩) | go_keep)
    (first
      | (go_at_call 9; refine (o_toDesk ((tDesk).reach ((tDesk).reach h0 hB10) (belx)) (by omega)).mono ?_; rintro e W11 ⟨csv, Fv, rfl, o_v, Nv, hb_⟩; have hs11 : Below W10.heap.size W10 W11 := bel_trans (belx) hb_)
      | (go_at_call 12; refine (o_eqDesk ((tDesk).reach ((tDesk).reach ((tDesk).read o_x0) hs11) (belx)) ((tDesk).reach ((tDesk).read o_v) (belx))).mono ?_; rintro e W12 ⟨rfl, hb2_⟩; have hs12' : Below W10.heap.size W10 W12 := bel_trans hs11 (bel_trans (belx) hb2_); have hs12 := hs12'))
  clear o_v Nv hb_ hb2_ hs11
  clear k_Ba0_0 k_Ba0_1
  clear k_Ba1_0 k_Ba1_1 k_Ba1_2 k_Ba1_3
  clear k_Bs0_0 k_Bs0_1
  clear k_Bx0_0 k_Bx0_1
  clear k_Bx1_0 k_Bx1_1 k_Bx1_2 k_Bx1_3
  clear k_Bg0_0 k_Bg0_1
  have z12 : W10.heap.size + 0 ≤ W12.heap.size := hs12'.size
  have hB12 : Below w.heap.size w W12 := bel_trans hB10 hs12'
  replace Ba0 := Ba0.below hs12' Ba0.size
  replace Ba1 := Ba1.below hs12' Ba1.size
  replace Bs0 := Bs0.below hs12' Bs0.size
  replace Bx0 := Bx0.below hs12' Bx0.size
  replace Bx1 := Bx1.below hs12' Bx1.size
  replace Bg0 := Bg0.below hs12' Bg0.size
  replace o_x0 := Ty.below (t := tDesk) o_x0 hs12'
  replace o_x1 := Ty.below (t := tPiece) o_x1 hs12'
  replace o_g0 := Ty.below (t := tDesk) o_g0 hs12'
  replace o_g1 := Ty.below (t := tBy) o_g1 hs12'
  replace r_s0 := (tDesk).keep r_s0 (fun b hb => hs12'.block b (Nat.lt_of_lt_of_le hb (by omega)))
  replace r_s1 := (tBy).keep r_s1 (fun b hb => hs12'.block b (Nat.lt_of_lt_of_le hb (by omega)))
  have k_Ba0_0 : W12.cell? ⟨w.heap.size, 0, none⟩ = some (.slice Aa00 na00 ca00) := Ba0.cell 0
  have k_Ba0_1 : W12.cell? ⟨w.heap.size, 1, none⟩ = some (.slice Aa01 na01 ca01) := Ba0.cell 1
  have k_Ba1_0 : W12.cell? ⟨w.heap.size + 1, 0, none⟩ = some (.int .i64 (p1.1)) := Ba1.cell 0
  have k_Ba1_1 : W12.cell? ⟨w.heap.size + 1, 1, none⟩ = some (.int .i64 (p1.2.1)) := Ba1.cell 1
  have k_Ba1_2 : W12.cell? ⟨w.heap.size + 1, 2, none⟩ = some (.int .i64 (p1.2.2.1)) := Ba1.cell 2
  have k_Ba1_3 : W12.cell? ⟨w.heap.size + 1, 3, none⟩ = some (.slice Aa13 na13 ca13) := Ba1.cell 3
  have k_Bs0_0 : W12.cell? ⟨gs, 0, none⟩ = some (.slice As00 (r0.1).length cs00) := Bs0.cell 0
  have k_Bs0_1 : W12.cell? ⟨gs, 1, none⟩ = some (.slice As01 (r0.2).length cs01) := Bs0.cell 1
  have k_Bx0_0 : W12.cell? ⟨W6.heap.size, 0, none⟩ = some (.slice Ax00 (p0.1).length cx00) := Bx0.cell 0
  have k_Bx0_1 : W12.cell? ⟨W6.heap.size, 1, none⟩ = some (.slice Ax01 (p0.2).length cx01) := Bx0.cell 1
  have k_Bx1_0 : W12.cell? ⟨W7.heap.size, 0, none⟩ = some (.int .i64 (p1.1)) := Bx1.cell 0
  have k_Bx1_1 : W12.cell? ⟨W7.heap.size, 1, none⟩ = some (.int .i64 (p1.2.1)) := Bx1.cell 1
  have k_Bx1_2 : W12.cell? ⟨W7.heap.size, 2, none⟩ = some (.int .i64 (p1.2.2.1)) := Bx1.cell 2
  have k_Bx1_3 : W12.cell? ⟨W7.heap.size, 3, none⟩ = some (.slice Ax13 (p1.2.2.2).length cx13) := Bx1.cell 3
  have k_Bg0_0 : W12.cell? ⟨W8.heap.size, 0, none⟩ = some (.slice Ag00 (r0.1).length cg00) := Bg0.cell 0
  have k_Bg0_1 : W12.cell? ⟨W8.heap.size, 1, none⟩ = some (.slice Ag01 (r0.2).length cg01) := Bg0.cell 1
  go_wp2_with fail
  go_region_held3 (fun w' => w'.cell? ⟨w.heap.size + 1, 0, none⟩ = some (.int .i64 (p1.1)) ∧ w'.cell? ⟨w.heap.size + 1, 1, none⟩ = some (.int .i64 (p1.2.1)) ∧ w'.cell? ⟨w.heap.size + 1, 2, none⟩ = some (.int .i64 (p1.2.2.1)) ∧ w'.cell? ⟨w.heap.size + 1, 3, none⟩ = some (.slice Aa13 na13 ca13) ∧ w'.cell? ⟨W7.heap.size, 0, none⟩ = some (.int .i64 (p1.1)) ∧ w'.cell? ⟨W7.heap.size, 1, none⟩ = some (.int .i64 (p1.2.1)) ∧ w'.cell? ⟨W7.heap.size, 2, none⟩ = some (.int .i64 (p1.2.2.1)) ∧ w'.cell? ⟨W7.heap.size, 3, none⟩ = some (.slice Ax13 (p1.2.2.2).length cx13)) (first | (exact ⟨k_Ba1_0, k_Ba1_1, k_Ba1_2, k_Ba1_3, k_Bx1_0, k_Bx1_1, k_Bx1_2, k_Bx1_3⟩) | (exact ⟨cell_bel hs14 k_Ba1_0, cell_bel hs14 k_Ba1_1, cell_bel hs14 k_Ba1_2, cell_bel hs14 k_Ba1_3, cell_bel hs14 k_Bx1_0, cell_bel hs14 k_Bx1_1, cell_bel hs14 k_Bx1_2, cell_bel hs14 k_Bx1_3⟩) | (exact ⟨cell_bel hs13 k_Ba1_0, cell_bel hs13 k_Ba1_1, cell_bel hs13 k_Ba1_2, cell_bel hs13 k_Ba1_3, cell_bel hs13 k_Bx1_0, cell_bel hs13 k_Bx1_1, cell_bel hs13 k_Bx1_2, cell_bel hs13 k_Bx1_3⟩) | go_keep)
    (first
      | (go_at_call 10; refine (o_toPiece ((tPiece).reach ((tPiece).reach h1 hB12) (belx)) (by omega)).mono ?_; rintro e W13 ⟨csv, Fv, rfl, o_v, Nv, hb_⟩; have hs13 : Below W12.heap.size W12 W13 := bel_trans (belx) hb_)
      | (go_at_call 14; refine (o_eqPiece ((tPiece).reach ((tPiece).reach ((tPiece).read o_x1) hs13) (belx)) ((tPiece).reach ((tPiece).read o_v) (belx))).mono ?_; rintro e W14 ⟨rfl, hb2_⟩; have hs14' : Below W12.heap.size W12 W14 := bel_trans hs13 (bel_trans (belx) hb2_); have hs14 := hs14'))
  clear o_v Nv hb_ hb2_ hs13
  clear k_Ba0_0 k_Ba0_1
  clear k_Ba1_0 k_Ba1_1 k_Ba1_2 k_Ba1_3
  clear k_Bs0_0 k_Bs0_1
  clear k_Bx0_0 k_Bx0_1
  clear k_Bx1_0 k_Bx1_1 k_Bx1_2 k_Bx1_3
  clear k_Bg0_0 k_Bg0_1
  have z14 : W12.heap.size + 0 ≤ W14.heap.size := hs14'.size
  have hB14 : Below w.heap.size w W14 := bel_trans hB12 hs14'
  replace Ba0 := Ba0.below hs14' Ba0.size
  replace Ba1 := Ba1.below hs14' Ba1.size
  replace Bs0 := Bs0.below hs14' Bs0.size
  replace Bx0 := Bx0.below hs14' Bx0.size
  replace Bx1 := Bx1.below hs14' Bx1.size
  replace Bg0 := Bg0.below hs14' Bg0.size
  replace o_x0 := Ty.below (t := tDesk) o_x0 hs14'
  replace o_x1 := Ty.below (t := tPiece) o_x1 hs14'
  replace o_g0 := Ty.below (t := tDesk) o_g0 hs14'
  replace o_g1 := Ty.below (t := tBy) o_g1 hs14'
  replace r_s0 := (tDesk).keep r_s0 (fun b hb => hs14'.block b (Nat.lt_of_lt_of_le hb (by omega)))
  replace r_s1 := (tBy).keep r_s1 (fun b hb => hs14'.block b (Nat.lt_of_lt_of_le hb (by omega)))
  have k_Ba0_0 : W14.cell? ⟨w.heap.size, 0, none⟩ = some (.slice Aa00 na00 ca00) := Ba0.cell 0
  have k_Ba0_1 : W14.cell? ⟨w.heap.size, 1, none⟩ = some (.slice Aa01 na01 ca01) := Ba0.cell 1
  have k_Ba1_0 : W14.cell? ⟨w.heap.size + 1, 0, none⟩ = some (.int .i64 (p1.1)) := Ba1.cell 0
  have k_Ba1_1 : W14.cell? ⟨w.heap.size + 1, 1, none⟩ = some (.int .i64 (p1.2.1)) := Ba1.cell 1
  have k_Ba1_2 : W14.cell? ⟨w.heap.size + 1, 2, none⟩ = some (.int .i64 (p1.2.2.1)) := Ba1.cell 2
  have k_Ba1_3 : W14.cell? ⟨w.heap.size + 1, 3, none⟩ = some (.slice Aa13 na13 ca13) := Ba1.cell 3
  have k_Bs0_0 : W14.cell? ⟨gs, 0, none⟩ = some (.slice As00 (r0.1).length cs00) := Bs0.cell 0
  have k_Bs0_1 : W14.cell? ⟨gs, 1, none⟩ = some (.slice As01 (r0.2).length cs01) := Bs0.cell 1
  have k_Bx0_0 : W14.cell? ⟨W6.heap.size, 0, none⟩ = some (.slice Ax00 (p0.1).length cx00) := Bx0.cell 0
  have k_Bx0_1 : W14.cell? ⟨W6.heap.size, 1, none⟩ = some (.slice Ax01 (p0.2).length cx01) := Bx0.cell 1
  have k_Bx1_0 : W14.cell? ⟨W7.heap.size, 0, none⟩ = some (.int .i64 (p1.1)) := Bx1.cell 0
  have k_Bx1_1 : W14.cell? ⟨W7.heap.size, 1, none⟩ = some (.int .i64 (p1.2.1)) := Bx1.cell 1
  have k_Bx1_2 : W14.cell? ⟨W7.heap.size, 2, none⟩ = some (.int .i64 (p1.2.2.1)) := Bx1.cell 2
  have k_Bx1_3 : W14.cell? ⟨W7.heap.size, 3, none⟩ = some (.slice Ax13 (p1.2.2.2).length cx13) := Bx1.cell 3
  have k_Bg0_0 : W14.cell? ⟨W8.heap.size, 0, none⟩ = some (.slice Ag00 (r0.1).length cg00) := Bg0.cell 0
  have k_Bg0_1 : W14.cell? ⟨W8.heap.size, 1, none⟩ = some (.slice Ag01 (r0.2).length cg01) := Bg0.cell 1
  go_wp2_with fail
  refine (o_markDesk (1) o_x0 Dx0 (by omega) (by omega)).mono ?_
  rintro e W15 ⟨rfl, om_, hG_⟩
  clear k_Ba0_0 k_Ba0_1
  clear k_Ba1_0 k_Ba1_1 k_Ba1_2 k_Ba1_3
  clear k_Bs0_0 k_Bs0_1
  clear k_Bx0_0 k_Bx0_1
  clear k_Bx1_0 k_Bx1_1 k_Bx1_2 k_Bx1_3
  clear k_Bg0_0 k_Bg0_1
  replace o_x0 := om_
  clear om_
  have z15 : W14.heap.size + 0 ≤ W15.heap.size := hG_.size
  have hB15 : Below w.heap.size w W15 := hB14.trans (hG_.below (fun f hf => by have := Ix0 f hf; omega) (by have := hB14.size; omega))
  replace Ba0 := Ba0.same (hG_.block _ Ba0.size (fun hx => by have := Ix0 _ hx; omega))
  replace Ba1 := Ba1.same (hG_.block _ Ba1.size (fun hx => by have := Ix0 _ hx; omega))
  replace Bs0 := Bs0.same (hG_.block _ Bs0.size (fun hx => by have := Ix0 _ hx; omega))
  replace Bx0 := Bx0.same (hG_.block _ Bx0.size (fun hx => by have := Ix0 _ hx; omega))
  replace Bx1 := Bx1.same (hG_.block _ Bx1.size (fun hx => by have := Ix0 _ hx; omega))
  replace Bg0 := Bg0.same (hG_.block _ Bg0.size (fun hx => by have := Ix0 _ hx; omega))
  replace o_x1 := Ty.only (t := tPiece) o_x1 hG_ (fun f hf hx => by have := Ix1 f hf; have := Ix0 f hx; omega)
  replace o_g0 := Ty.only (t := tDesk) o_g0 hG_ (fun f hf hx => by have := Ig0 f hf; have := Ix0 f hx; omega)
  replace o_g1 := Ty.only (t := tBy) o_g1 hG_ (fun f hf hx => by have := Ig1 f hf; have := Ix0 f hx; omega)
  replace r_s0 := (tDesk).keep r_s0 (fun b hb => hG_.block b (Nat.lt_of_lt_of_le hb (by omega)) (fun hx => by have := Ix0 b hx; omega))
  replace r_s1 := (tBy).keep r_s1 (fun b hb => hG_.block b (Nat.lt_of_lt_of_le hb (by omega)) (fun hx => by have := Ix0 b hx; omega))
  have k_Ba0_0 : W15.cell? ⟨w.heap.size, 0, none⟩ = some (.slice Aa00 na00 ca00) := Ba0.cell 0
  have k_Ba0_1 : W15.cell? ⟨w.heap.size, 1, none⟩ = some (.slice Aa01 na01 ca01) := Ba0.cell 1
  have k_Ba1_0 : W15.cell? ⟨w.heap.size + 1, 0, none⟩ = some (.int .i64 (p1.1)) := Ba1.cell 0
  have k_Ba1_1 : W15.cell? ⟨w.heap.size + 1, 1, none⟩ = some (.int .i64 (p1.2.1)) := Ba1.cell 1
  have k_Ba1_2 : W15.cell? ⟨w.heap.size + 1, 2, none⟩ = some (.int .i64 (p1.2.2.1)) := Ba1.cell 2
  have k_Ba1_3 : W15.cell? ⟨w.heap.size + 1, 3, none⟩ = some (.slice Aa13 na13 ca13) := Ba1.cell 3
  have k_Bs0_0 : W15.cell? ⟨gs, 0, none⟩ = some (.slice As00 (r0.1).length cs00) := Bs0.cell 0
  have k_Bs0_1 : W15.cell? ⟨gs, 1, none⟩ = some (.slice As01 (r0.2).length cs01) := Bs0.cell 1
  have k_Bx0_0 : W15.cell? ⟨W6.heap.size, 0, none⟩ = some (.slice Ax00 (p0.1).length cx00) := Bx0.cell 0
  have k_Bx0_1 : W15.cell? ⟨W6.heap.size, 1, none⟩ = some (.slice Ax01 (p0.2).length cx01) := Bx0.cell 1
  have k_Bx1_0 : W15.cell? ⟨W7.heap.size, 0, none⟩ = some (.int .i64 (p1.1)) := Bx1.cell 0
  have k_Bx1_1 : W15.cell? ⟨W7.heap.size, 1, none⟩ = some (.int .i64 (p1.2.1)) := Bx1.cell 1
  have k_Bx1_2 : W15.cell? ⟨W7.heap.size, 2, none⟩ = some (.int .i64 (p1.2.2.1)) := Bx1.cell 2
  have k_Bx1_3 : W15.cell? ⟨W7.heap.size, 3, none⟩ = some (.slice Ax13 (p1.2.2.2).length cx13) := Bx1.cell 3
  have k_Bg0_0 : W15.cell? ⟨W8.heap.size, 0, none⟩ = some (.slice Ag00 (r0.1).length cg00) := Bg0.cell 0
  have k_Bg0_1 : W15.cell? ⟨W8.heap.size, 1, none⟩ = some (.slice Ag01 (r0.2).length cg01) := Bg0.cell 1
  clear hG_
  go_wp2_with fail
  refine (o_markPiece (1 + ((cntDesk (p0) : Nat) : Int)) o_x1 Dx1 (by omega) (by omega)).mono ?_
  rintro e W16 ⟨rfl, om_, hG_⟩
  clear k_Ba0_0 k_Ba0_1
  clear k_Ba1_0 k_Ba1_1 k_Ba1_2 k_Ba1_3
  clear k_Bs0_0 k_Bs0_1
  clear k_Bx0_0 k_Bx0_1
  clear k_Bx1_0 k_Bx1_1 k_Bx1_2 k_Bx1_3
  clear k_Bg0_0 k_Bg0_1
  replace o_x1 := om_
  clear om_
  have z16 : W15.heap.size + 0 ≤ W16.heap.size := hG_.size
  have hB16 : Below w.heap.size w W16 := hB15.trans (hG_.below (fun f hf => by have := Ix1 f hf; omega) (by have := hB15.size; omega))
  replace Ba0 := Ba0.same (hG_.block _ Ba0.size (fun hx => by have := Ix1 _ hx; omega))
  replace Ba1 := Ba1.same (hG_.block _ Ba1.size (fun hx => by have := Ix1 _ hx; omega))
  replace Bs0 := Bs0.same (hG_.block _ Bs0.size (fun hx => by have := Ix1 _ hx; omega))
  replace Bx0 := Bx0.same (hG_.block _ Bx0.size (fun hx => by have := Ix1 _ hx; omega))
  replace Bx1 := Bx1.same (hG_.block _ Bx1.size (fun hx => by have := Ix1 _ hx; omega))
  replace Bg0 := Bg0.same (hG_.block _ Bg0.size (fun hx => by have := Ix1 _ hx; omega))
  replace o_x0 := Ty.only (t := tDesk) o_x0 hG_ (fun f hf hx => by have := Ix0 f hf; have := Ix1 f hx; omega)
  replace o_g0 := Ty.only (t := tDesk) o_g0 hG_ (fun f hf hx => by have := Ig0 f hf; have := Ix1 f hx; omega)
  replace o_g1 := Ty.only (t := tBy) o_g1 hG_ (fun f hf hx => by have := Ig1 f hf; have := Ix1 f hx; omega)
  replace r_s0 := (tDesk).keep r_s0 (fun b hb => hG_.block b (Nat.lt_of_lt_of_le hb (by omega)) (fun hx => by have := Ix1 b hx; omega))
  replace r_s1 := (tBy).keep r_s1 (fun b hb => hG_.block b (Nat.lt_of_lt_of_le hb (by omega)) (fun hx => by have := Ix1 b hx; omega))
  have k_Ba0_0 : W16.cell? ⟨w.heap.size, 0, none⟩ = some (.slice Aa00 na00 ca00) := Ba0.cell 0
  have k_Ba0_1 : W16.cell? ⟨w.heap.size, 1, none⟩ = some (.slice Aa01 na01 ca01) := Ba0.cell 1
  have k_Ba1_0 : W16.cell? ⟨w.heap.size + 1, 0, none⟩ = some (.int .i64 (p1.1)) := Ba1.cell 0
  have k_Ba1_1 : W16.cell? ⟨w.heap.size + 1, 1, none⟩ = some (.int .i64 (p1.2.1)) := Ba1.cell 1
  have k_Ba1_2 : W16.cell? ⟨w.heap.size + 1, 2, none⟩ = some (.int .i64 (p1.2.2.1)) := Ba1.cell 2
  have k_Ba1_3 : W16.cell? ⟨w.heap.size + 1, 3, none⟩ = some (.slice Aa13 na13 ca13) := Ba1.cell 3
  have k_Bs0_0 : W16.cell? ⟨gs, 0, none⟩ = some (.slice As00 (r0.1).length cs00) := Bs0.cell 0
  have k_Bs0_1 : W16.cell? ⟨gs, 1, none⟩ = some (.slice As01 (r0.2).length cs01) := Bs0.cell 1
  have k_Bx0_0 : W16.cell? ⟨W6.heap.size, 0, none⟩ = some (.slice Ax00 (p0.1).length cx00) := Bx0.cell 0
  have k_Bx0_1 : W16.cell? ⟨W6.heap.size, 1, none⟩ = some (.slice Ax01 (p0.2).length cx01) := Bx0.cell 1
  have k_Bx1_0 : W16.cell? ⟨W7.heap.size, 0, none⟩ = some (.int .i64 (p1.1)) := Bx1.cell 0
  have k_Bx1_1 : W16.cell? ⟨W7.heap.size, 1, none⟩ = some (.int .i64 (p1.2.1)) := Bx1.cell 1
  have k_Bx1_2 : W16.cell? ⟨W7.heap.size, 2, none⟩ = some (.int .i64 (p1.2.2.1)) := Bx1.cell 2
  have k_Bx1_3 : W16.cell? ⟨W7.heap.size, 3, none⟩ = some (.slice Ax13 (p1.2.2.2).length cx13) := Bx1.cell 3
  have k_Bg0_0 : W16.cell? ⟨W8.heap.size, 0, none⟩ = some (.slice Ag00 (r0.1).length cg00) := Bg0.cell 0
  have k_Bg0_1 : W16.cell? ⟨W8.heap.size, 1, none⟩ = some (.slice Ag01 (r0.2).length cg01) := Bg0.cell 1
  clear hG_
  have dk : decide ((1 + ((cntDesk (p0) : Nat) : Int) + ((cntPiece (p1) : Nat) : Int) : Int) < 0) = false := by simp; omega
  clear o_x0 Ix0 Dx0
  clear o_x1 Ix1 Dx1
  go_wp2_with fail
  refine (o_eqDesk ((tDesk).reach ((tDesk).read o_g0) ?hB) ((tDesk).reach ((tDesk).up r_s0 (by omega : W5.heap.size ≤ W16.heap.size)) ?hB)).mono ?_
  all_goals try (case hB => exact (belx))
  rintro e W17 ⟨rfl, hb_⟩
  clear k_Ba0_0 k_Ba0_1
  clear k_Ba1_0 k_Ba1_1 k_Ba1_2 k_Ba1_3
  clear k_Bs0_0 k_Bs0_1
  clear k_Bx0_0 k_Bx0_1
  clear k_Bx1_0 k_Bx1_1 k_Bx1_2 k_Bx1_3
  clear k_Bg0_0 k_Bg0_1
  have hs17 : Below W16.heap.size W16 W17 := bel_trans (belx) hb_
  have z17 : W16.heap.size + 0 ≤ W17.heap.size := by have := hb_.size; simpa using this
  have hB17 : Below w.heap.size w W17 := bel_trans hB16 hs17
  replace Ba0 := Ba0.below hs17 Ba0.size
  replace Ba1 := Ba1.below hs17 Ba1.size
  replace Bs0 := Bs0.below hs17 Bs0.size
  replace Bx0 := Bx0.below hs17 Bx0.size
  replace Bx1 := Bx1.below hs17 Bx1.size
  replace Bg0 := Bg0.below hs17 Bg0.size
  replace o_g0 := Ty.below (t := tDesk) o_g0 hs17
  replace o_g1 := Ty.below (t := tBy) o_g1 hs17
  replace r_s0 := (tDesk).keep r_s0 (fun b hb => hs17.block b (Nat.lt_of_lt_of_le hb (by omega)))
  replace r_s1 := (tBy).keep r_s1 (fun b hb => hs17.block b (Nat.lt_of_lt_of_le hb (by omega)))
  have k_Ba0_0 : W17.cell? ⟨w.heap.size, 0, none⟩ = some (.slice Aa00 na00 ca00) := Ba0.cell 0
  have k_Ba0_1 : W17.cell? ⟨w.heap.size, 1, none⟩ = some (.slice Aa01 na01 ca01) := Ba0.cell 1
  have k_Ba1_0 : W17.cell? ⟨w.heap.size + 1, 0, none⟩ = some (.int .i64 (p1.1)) := Ba1.cell 0
  have k_Ba1_1 : W17.cell? ⟨w.heap.size + 1, 1, none⟩ = some (.int .i64 (p1.2.1)) := Ba1.cell 1
  have k_Ba1_2 : W17.cell? ⟨w.heap.size + 1, 2, none⟩ = some (.int .i64 (p1.2.2.1)) := Ba1.cell 2
  have k_Ba1_3 : W17.cell? ⟨w.heap.size + 1, 3, none⟩ = some (.slice Aa13 na13 ca13) := Ba1.cell 3
  have k_Bs0_0 : W17.cell? ⟨gs, 0, none⟩ = some (.slice As00 (r0.1).length cs00) := Bs0.cell 0
  have k_Bs0_1 : W17.cell? ⟨gs, 1, none⟩ = some (.slice As01 (r0.2).length cs01) := Bs0.cell 1
  have k_Bx0_0 : W17.cell? ⟨W6.heap.size, 0, none⟩ = some (.slice Ax00 (p0.1).length cx00) := Bx0.cell 0
  have k_Bx0_1 : W17.cell? ⟨W6.heap.size, 1, none⟩ = some (.slice Ax01 (p0.2).length cx01) := Bx0.cell 1
  have k_Bx1_0 : W17.cell? ⟨W7.heap.size, 0, none⟩ = some (.int .i64 (p1.1)) := Bx1.cell 0
  have k_Bx1_1 : W17.cell? ⟨W7.heap.size, 1, none⟩ = some (.int .i64 (p1.2.1)) := Bx1.cell 1
  have k_Bx1_2 : W17.cell? ⟨W7.heap.size, 2, none⟩ = some (.int .i64 (p1.2.2.1)) := Bx1.cell 2
  have k_Bx1_3 : W17.cell? ⟨W7.heap.size, 3, none⟩ = some (.slice Ax13 (p1.2.2.2).length cx13) := Bx1.cell 3
  have k_Bg0_0 : W17.cell? ⟨W8.heap.size, 0, none⟩ = some (.slice Ag00 (r0.1).length cg00) := Bg0.cell 0
  have k_Bg0_1 : W17.cell? ⟨W8.heap.size, 1, none⟩ = some (.slice Ag01 (r0.2).length cg01) := Bg0.cell 1
  clear hb_
  go_wp2_with fail
  refine (o_eqByteS ((tBy).reach ((tBy).read o_g1) ?hB) ((tBy).reach ((tBy).up r_s1 (by omega : W5.heap.size ≤ W17.heap.size)) ?hB)).mono ?_
  all_goals try (case hB => exact (belx))
  rintro e W18 ⟨rfl, hb_⟩
  clear k_Ba0_0 k_Ba0_1
  clear k_Ba1_0 k_Ba1_1 k_Ba1_2 k_Ba1_3
  clear k_Bs0_0 k_Bs0_1
  clear k_Bx0_0 k_Bx0_1
  clear k_Bx1_0 k_Bx1_1 k_Bx1_2 k_Bx1_3
  clear k_Bg0_0 k_Bg0_1
  have hs18 : Below W17.heap.size W17 W18 := bel_trans (belx) hb_
  have z18 : W17.heap.size + 0 ≤ W18.heap.size := by have := hb_.size; simpa using this
  have hB18 : Below w.heap.size w W18 := bel_trans hB17 hs18
  replace Ba0 := Ba0.below hs18 Ba0.size
  replace Ba1 := Ba1.below hs18 Ba1.size
  replace Bs0 := Bs0.below hs18 Bs0.size
  replace Bx0 := Bx0.below hs18 Bx0.size
  replace Bx1 := Bx1.below hs18 Bx1.size
  replace Bg0 := Bg0.below hs18 Bg0.size
  replace o_g0 := Ty.below (t := tDesk) o_g0 hs18
  replace o_g1 := Ty.below (t := tBy) o_g1 hs18
  replace r_s0 := (tDesk).keep r_s0 (fun b hb => hs18.block b (Nat.lt_of_lt_of_le hb (by omega)))
  replace r_s1 := (tBy).keep r_s1 (fun b hb => hs18.block b (Nat.lt_of_lt_of_le hb (by omega)))
  have k_Ba0_0 : W18.cell? ⟨w.heap.size, 0, none⟩ = some (.slice Aa00 na00 ca00) := Ba0.cell 0
  have k_Ba0_1 : W18.cell? ⟨w.heap.size, 1, none⟩ = some (.slice Aa01 na01 ca01) := Ba0.cell 1
  have k_Ba1_0 : W18.cell? ⟨w.heap.size + 1, 0, none⟩ = some (.int .i64 (p1.1)) := Ba1.cell 0
  have k_Ba1_1 : W18.cell? ⟨w.heap.size + 1, 1, none⟩ = some (.int .i64 (p1.2.1)) := Ba1.cell 1
  have k_Ba1_2 : W18.cell? ⟨w.heap.size + 1, 2, none⟩ = some (.int .i64 (p1.2.2.1)) := Ba1.cell 2
  have k_Ba1_3 : W18.cell? ⟨w.heap.size + 1, 3, none⟩ = some (.slice Aa13 na13 ca13) := Ba1.cell 3
  have k_Bs0_0 : W18.cell? ⟨gs, 0, none⟩ = some (.slice As00 (r0.1).length cs00) := Bs0.cell 0
  have k_Bs0_1 : W18.cell? ⟨gs, 1, none⟩ = some (.slice As01 (r0.2).length cs01) := Bs0.cell 1
  have k_Bx0_0 : W18.cell? ⟨W6.heap.size, 0, none⟩ = some (.slice Ax00 (p0.1).length cx00) := Bx0.cell 0
  have k_Bx0_1 : W18.cell? ⟨W6.heap.size, 1, none⟩ = some (.slice Ax01 (p0.2).length cx01) := Bx0.cell 1
  have k_Bx1_0 : W18.cell? ⟨W7.heap.size, 0, none⟩ = some (.int .i64 (p1.1)) := Bx1.cell 0
  have k_Bx1_1 : W18.cell? ⟨W7.heap.size, 1, none⟩ = some (.int .i64 (p1.2.1)) := Bx1.cell 1
  have k_Bx1_2 : W18.cell? ⟨W7.heap.size, 2, none⟩ = some (.int .i64 (p1.2.2.1)) := Bx1.cell 2
  have k_Bx1_3 : W18.cell? ⟨W7.heap.size, 3, none⟩ = some (.slice Ax13 (p1.2.2.2).length cx13) := Bx1.cell 3
  have k_Bg0_0 : W18.cell? ⟨W8.heap.size, 0, none⟩ = some (.slice Ag00 (r0.1).length cg00) := Bg0.cell 0
  have k_Bg0_1 : W18.cell? ⟨W8.heap.size, 1, none⟩ = some (.slice Ag01 (r0.2).length cg01) := Bg0.cell 1
  clear hb_
  go_wp2_with fail
  refine (o_markDesk (1) o_g0 Dg0 (by omega) (by omega)).mono ?_
  rintro e W19 ⟨rfl, om_, hG_⟩
  clear k_Ba0_0 k_Ba0_1
  clear k_Ba1_0 k_Ba1_1 k_Ba1_2 k_Ba1_3
  clear k_Bs0_0 k_Bs0_1
  clear k_Bx0_0 k_Bx0_1
  clear k_Bx1_0 k_Bx1_1 k_Bx1_2 k_Bx1_3
  clear k_Bg0_0 k_Bg0_1
  replace o_g0 := om_
  clear om_
  replace o_g1 := Ty.only (t := tBy) o_g1 hG_ (fun f hf hx => Xg f hx hf)
  have z19 : W18.heap.size + 0 ≤ W19.heap.size := hG_.size
  have hB19 : Below w.heap.size w W19 := hB18.trans (hG_.below (fun f hf => by have := Ig0 f hf; omega) (by have := hB18.size; omega))
  replace Ba0 := Ba0.same (hG_.block _ Ba0.size (fun hx => by have := Ig0 _ hx; omega))
  replace Ba1 := Ba1.same (hG_.block _ Ba1.size (fun hx => by have := Ig0 _ hx; omega))
  replace Bs0 := Bs0.same (hG_.block _ Bs0.size (fun hx => by have := Ig0 _ hx; omega))
  replace Bx0 := Bx0.same (hG_.block _ Bx0.size (fun hx => by have := Ig0 _ hx; omega))
  replace Bx1 := Bx1.same (hG_.block _ Bx1.size (fun hx => by have := Ig0 _ hx; omega))
  replace Bg0 := Bg0.same (hG_.block _ Bg0.size (fun hx => by have := Ig0 _ hx; omega))
  replace r_s0 := (tDesk).keep r_s0 (fun b hb => hG_.block b (Nat.lt_of_lt_of_le hb (by omega)) (fun hx => by have := Ig0 b hx; omega))
  replace r_s1 := (tBy).keep r_s1 (fun b hb => hG_.block b (Nat.lt_of_lt_of_le hb (by omega)) (fun hx => by have := Ig0 b hx; omega))
  have k_Ba0_0 : W19.cell? ⟨w.heap.size, 0, none⟩ = some (.slice Aa00 na00 ca00) := Ba0.cell 0
  have k_Ba0_1 : W19.cell? ⟨w.heap.size, 1, none⟩ = some (.slice Aa01 na01 ca01) := Ba0.cell 1
  have k_Ba1_0 : W19.cell? ⟨w.heap.size + 1, 0, none⟩ = some (.int .i64 (p1.1)) := Ba1.cell 0
  have k_Ba1_1 : W19.cell? ⟨w.heap.size + 1, 1, none⟩ = some (.int .i64 (p1.2.1)) := Ba1.cell 1
  have k_Ba1_2 : W19.cell? ⟨w.heap.size + 1, 2, none⟩ = some (.int .i64 (p1.2.2.1)) := Ba1.cell 2
  have k_Ba1_3 : W19.cell? ⟨w.heap.size + 1, 3, none⟩ = some (.slice Aa13 na13 ca13) := Ba1.cell 3
  have k_Bs0_0 : W19.cell? ⟨gs, 0, none⟩ = some (.slice As00 (r0.1).length cs00) := Bs0.cell 0
  have k_Bs0_1 : W19.cell? ⟨gs, 1, none⟩ = some (.slice As01 (r0.2).length cs01) := Bs0.cell 1
  have k_Bx0_0 : W19.cell? ⟨W6.heap.size, 0, none⟩ = some (.slice Ax00 (p0.1).length cx00) := Bx0.cell 0
  have k_Bx0_1 : W19.cell? ⟨W6.heap.size, 1, none⟩ = some (.slice Ax01 (p0.2).length cx01) := Bx0.cell 1
  have k_Bx1_0 : W19.cell? ⟨W7.heap.size, 0, none⟩ = some (.int .i64 (p1.1)) := Bx1.cell 0
  have k_Bx1_1 : W19.cell? ⟨W7.heap.size, 1, none⟩ = some (.int .i64 (p1.2.1)) := Bx1.cell 1
  have k_Bx1_2 : W19.cell? ⟨W7.heap.size, 2, none⟩ = some (.int .i64 (p1.2.2.1)) := Bx1.cell 2
  have k_Bx1_3 : W19.cell? ⟨W7.heap.size, 3, none⟩ = some (.slice Ax13 (p1.2.2.2).length cx13) := Bx1.cell 3
  have k_Bg0_0 : W19.cell? ⟨W8.heap.size, 0, none⟩ = some (.slice Ag00 (r0.1).length cg00) := Bg0.cell 0
  have k_Bg0_1 : W19.cell? ⟨W8.heap.size, 1, none⟩ = some (.slice Ag01 (r0.2).length cg01) := Bg0.cell 1
  clear hG_
  go_wp2_with fail
  refine (o_markByteS (1 + ((cntDesk (r0) : Nat) : Int)) o_g1 (by omega) (by omega)).mono ?_
  rintro e W20 ⟨rfl, om_, hG_⟩
  clear k_Ba0_0 k_Ba0_1
  clear k_Ba1_0 k_Ba1_1 k_Ba1_2 k_Ba1_3
  clear k_Bs0_0 k_Bs0_1
  clear k_Bx0_0 k_Bx0_1
  clear k_Bx1_0 k_Bx1_1 k_Bx1_2 k_Bx1_3
  clear k_Bg0_0 k_Bg0_1
  replace o_g1 := om_
  clear om_
  replace o_g0 := Ty.only (t := tDesk) o_g0 hG_ (fun f hf hx => Xg f hf hx)
  have z20 : W19.heap.size + 0 ≤ W20.heap.size := hG_.size
  have hB20 : Below w.heap.size w W20 := hB19.trans (hG_.below (fun f hf => by have := Ig1 f hf; omega) (by have := hB19.size; omega))
  replace Ba0 := Ba0.same (hG_.block _ Ba0.size (fun hx => by have := Ig1 _ hx; omega))
  replace Ba1 := Ba1.same (hG_.block _ Ba1.size (fun hx => by have := Ig1 _ hx; omega))
  replace Bs0 := Bs0.same (hG_.block _ Bs0.size (fun hx => by have := Ig1 _ hx; omega))
  replace Bx0 := Bx0.same (hG_.block _ Bx0.size (fun hx => by have := Ig1 _ hx; omega))
  replace Bx1 := Bx1.same (hG_.block _ Bx1.size (fun hx => by have := Ig1 _ hx; omega))
  replace Bg0 := Bg0.same (hG_.block _ Bg0.size (fun hx => by have := Ig1 _ hx; omega))
  replace r_s0 := (tDesk).keep r_s0 (fun b hb => hG_.block b (Nat.lt_of_lt_of_le hb (by omega)) (fun hx => by have := Ig1 b hx; omega))
  replace r_s1 := (tBy).keep r_s1 (fun b hb => hG_.block b (Nat.lt_of_lt_of_le hb (by omega)) (fun hx => by have := Ig1 b hx; omega))
  have k_Ba0_0 : W20.cell? ⟨w.heap.size, 0, none⟩ = some (.slice Aa00 na00 ca00) := Ba0.cell 0
  have k_Ba0_1 : W20.cell? ⟨w.heap.size, 1, none⟩ = some (.slice Aa01 na01 ca01) := Ba0.cell 1
  have k_Ba1_0 : W20.cell? ⟨w.heap.size + 1, 0, none⟩ = some (.int .i64 (p1.1)) := Ba1.cell 0
  have k_Ba1_1 : W20.cell? ⟨w.heap.size + 1, 1, none⟩ = some (.int .i64 (p1.2.1)) := Ba1.cell 1
  have k_Ba1_2 : W20.cell? ⟨w.heap.size + 1, 2, none⟩ = some (.int .i64 (p1.2.2.1)) := Ba1.cell 2
  have k_Ba1_3 : W20.cell? ⟨w.heap.size + 1, 3, none⟩ = some (.slice Aa13 na13 ca13) := Ba1.cell 3
  have k_Bs0_0 : W20.cell? ⟨gs, 0, none⟩ = some (.slice As00 (r0.1).length cs00) := Bs0.cell 0
  have k_Bs0_1 : W20.cell? ⟨gs, 1, none⟩ = some (.slice As01 (r0.2).length cs01) := Bs0.cell 1
  have k_Bx0_0 : W20.cell? ⟨W6.heap.size, 0, none⟩ = some (.slice Ax00 (p0.1).length cx00) := Bx0.cell 0
  have k_Bx0_1 : W20.cell? ⟨W6.heap.size, 1, none⟩ = some (.slice Ax01 (p0.2).length cx01) := Bx0.cell 1
  have k_Bx1_0 : W20.cell? ⟨W7.heap.size, 0, none⟩ = some (.int .i64 (p1.1)) := Bx1.cell 0
  have k_Bx1_1 : W20.cell? ⟨W7.heap.size, 1, none⟩ = some (.int .i64 (p1.2.1)) := Bx1.cell 1
  have k_Bx1_2 : W20.cell? ⟨W7.heap.size, 2, none⟩ = some (.int .i64 (p1.2.2.1)) := Bx1.cell 2
  have k_Bx1_3 : W20.cell? ⟨W7.heap.size, 3, none⟩ = some (.slice Ax13 (p1.2.2.2).length cx13) := Bx1.cell 3
  have k_Bg0_0 : W20.cell? ⟨W8.heap.size, 0, none⟩ = some (.slice Ag00 (r0.1).length cg00) := Bg0.cell 0
  have k_Bg0_1 : W20.cell? ⟨W8.heap.size, 1, none⟩ = some (.slice Ag01 (r0.2).length cg01) := Bg0.cell 1
  clear hG_
  have dm : (((1 + ((cntDesk (r0) : Nat) : Int) + (((r1).length : Nat) : Int) : Int)) != (1 + ((cntDesk (r0) : Nat) : Int) + (((r1).length : Nat) : Int))) = false := by simp
  have dh0 : decide ((1 + ((cntDesk (r0) : Nat) : Int) : Int) < 0) = false := by simp; omega
  go_wp2_with fail
  refine (o_heldDesk (1) ((tDesk).reach ((tDesk).read o_g0) ?hB) (by omega) (by omega)).mono ?_
  all_goals try (case hB => exact (belx))
  rintro e W21 ⟨rfl, hb_⟩
  clear k_Ba0_0 k_Ba0_1
  clear k_Ba1_0 k_Ba1_1 k_Ba1_2 k_Ba1_3
  clear k_Bs0_0 k_Bs0_1
  clear k_Bx0_0 k_Bx0_1
  clear k_Bx1_0 k_Bx1_1 k_Bx1_2 k_Bx1_3
  clear k_Bg0_0 k_Bg0_1
  have hs21 : Below W20.heap.size W20 W21 := bel_trans (belx) hb_
  have z21 : W20.heap.size + 0 ≤ W21.heap.size := by have := hb_.size; simpa using this
  have hB21 : Below w.heap.size w W21 := bel_trans hB20 hs21
  replace Ba0 := Ba0.below hs21 Ba0.size
  replace Ba1 := Ba1.below hs21 Ba1.size
  replace Bs0 := Bs0.below hs21 Bs0.size
  replace Bx0 := Bx0.below hs21 Bx0.size
  replace Bx1 := Bx1.below hs21 Bx1.size
  replace Bg0 := Bg0.below hs21 Bg0.size
  replace o_g0 := Ty.below (t := tDesk) o_g0 hs21
  replace o_g1 := Ty.below (t := tBy) o_g1 hs21
  replace r_s0 := (tDesk).keep r_s0 (fun b hb => hs21.block b (Nat.lt_of_lt_of_le hb (by omega)))
  replace r_s1 := (tBy).keep r_s1 (fun b hb => hs21.block b (Nat.lt_of_lt_of_le hb (by omega)))
  have k_Ba0_0 : W21.cell? ⟨w.heap.size, 0, none⟩ = some (.slice Aa00 na00 ca00) := Ba0.cell 0
  have k_Ba0_1 : W21.cell? ⟨w.heap.size, 1, none⟩ = some (.slice Aa01 na01 ca01) := Ba0.cell 1
  have k_Ba1_0 : W21.cell? ⟨w.heap.size + 1, 0, none⟩ = some (.int .i64 (p1.1)) := Ba1.cell 0
  have k_Ba1_1 : W21.cell? ⟨w.heap.size + 1, 1, none⟩ = some (.int .i64 (p1.2.1)) := Ba1.cell 1
  have k_Ba1_2 : W21.cell? ⟨w.heap.size + 1, 2, none⟩ = some (.int .i64 (p1.2.2.1)) := Ba1.cell 2
  have k_Ba1_3 : W21.cell? ⟨w.heap.size + 1, 3, none⟩ = some (.slice Aa13 na13 ca13) := Ba1.cell 3
  have k_Bs0_0 : W21.cell? ⟨gs, 0, none⟩ = some (.slice As00 (r0.1).length cs00) := Bs0.cell 0
  have k_Bs0_1 : W21.cell? ⟨gs, 1, none⟩ = some (.slice As01 (r0.2).length cs01) := Bs0.cell 1
  have k_Bx0_0 : W21.cell? ⟨W6.heap.size, 0, none⟩ = some (.slice Ax00 (p0.1).length cx00) := Bx0.cell 0
  have k_Bx0_1 : W21.cell? ⟨W6.heap.size, 1, none⟩ = some (.slice Ax01 (p0.2).length cx01) := Bx0.cell 1
  have k_Bx1_0 : W21.cell? ⟨W7.heap.size, 0, none⟩ = some (.int .i64 (p1.1)) := Bx1.cell 0
  have k_Bx1_1 : W21.cell? ⟨W7.heap.size, 1, none⟩ = some (.int .i64 (p1.2.1)) := Bx1.cell 1
  have k_Bx1_2 : W21.cell? ⟨W7.heap.size, 2, none⟩ = some (.int .i64 (p1.2.2.1)) := Bx1.cell 2
  have k_Bx1_3 : W21.cell? ⟨W7.heap.size, 3, none⟩ = some (.slice Ax13 (p1.2.2.2).length cx13) := Bx1.cell 3
  have k_Bg0_0 : W21.cell? ⟨W8.heap.size, 0, none⟩ = some (.slice Ag00 (r0.1).length cg00) := Bg0.cell 0
  have k_Bg0_1 : W21.cell? ⟨W8.heap.size, 1, none⟩ = some (.slice Ag01 (r0.2).length cg01) := Bg0.cell 1
  clear hb_
  have dh1 : decide ((1 + ((cntDesk (r0) : Nat) : Int) + (((r1).length : Nat) : Int) : Int) < 0) = false := by simp; omega
  go_wp2_with fail
  refine (o_heldByteS (1 + ((cntDesk (r0) : Nat) : Int)) ((tBy).reach ((tBy).read o_g1) ?hB) (by omega) (by omega)).mono ?_
  all_goals try (case hB => exact (belx))
  rintro e W22 ⟨rfl, hb_⟩
  clear k_Ba0_0 k_Ba0_1
  clear k_Ba1_0 k_Ba1_1 k_Ba1_2 k_Ba1_3
  clear k_Bs0_0 k_Bs0_1
  clear k_Bx0_0 k_Bx0_1
  clear k_Bx1_0 k_Bx1_1 k_Bx1_2 k_Bx1_3
  clear k_Bg0_0 k_Bg0_1
  have hs22 : Below W21.heap.size W21 W22 := bel_trans (belx) hb_
  have z22 : W21.heap.size + 0 ≤ W22.heap.size := by have := hb_.size; simpa using this
  have hB22 : Below w.heap.size w W22 := bel_trans hB21 hs22
  replace Ba0 := Ba0.below hs22 Ba0.size
  replace Ba1 := Ba1.below hs22 Ba1.size
  replace Bs0 := Bs0.below hs22 Bs0.size
  replace Bx0 := Bx0.below hs22 Bx0.size
  replace Bx1 := Bx1.below hs22 Bx1.size
  replace Bg0 := Bg0.below hs22 Bg0.size
  replace o_g0 := Ty.below (t := tDesk) o_g0 hs22
  replace o_g1 := Ty.below (t := tBy) o_g1 hs22
  replace r_s0 := (tDesk).keep r_s0 (fun b hb => hs22.block b (Nat.lt_of_lt_of_le hb (by omega)))
  replace r_s1 := (tBy).keep r_s1 (fun b hb => hs22.block b (Nat.lt_of_lt_of_le hb (by omega)))
  have k_Ba0_0 : W22.cell? ⟨w.heap.size, 0, none⟩ = some (.slice Aa00 na00 ca00) := Ba0.cell 0
  have k_Ba0_1 : W22.cell? ⟨w.heap.size, 1, none⟩ = some (.slice Aa01 na01 ca01) := Ba0.cell 1
  have k_Ba1_0 : W22.cell? ⟨w.heap.size + 1, 0, none⟩ = some (.int .i64 (p1.1)) := Ba1.cell 0
  have k_Ba1_1 : W22.cell? ⟨w.heap.size + 1, 1, none⟩ = some (.int .i64 (p1.2.1)) := Ba1.cell 1
  have k_Ba1_2 : W22.cell? ⟨w.heap.size + 1, 2, none⟩ = some (.int .i64 (p1.2.2.1)) := Ba1.cell 2
  have k_Ba1_3 : W22.cell? ⟨w.heap.size + 1, 3, none⟩ = some (.slice Aa13 na13 ca13) := Ba1.cell 3
  have k_Bs0_0 : W22.cell? ⟨gs, 0, none⟩ = some (.slice As00 (r0.1).length cs00) := Bs0.cell 0
  have k_Bs0_1 : W22.cell? ⟨gs, 1, none⟩ = some (.slice As01 (r0.2).length cs01) := Bs0.cell 1
  have k_Bx0_0 : W22.cell? ⟨W6.heap.size, 0, none⟩ = some (.slice Ax00 (p0.1).length cx00) := Bx0.cell 0
  have k_Bx0_1 : W22.cell? ⟨W6.heap.size, 1, none⟩ = some (.slice Ax01 (p0.2).length cx01) := Bx0.cell 1
  have k_Bx1_0 : W22.cell? ⟨W7.heap.size, 0, none⟩ = some (.int .i64 (p1.1)) := Bx1.cell 0
  have k_Bx1_1 : W22.cell? ⟨W7.heap.size, 1, none⟩ = some (.int .i64 (p1.2.1)) := Bx1.cell 1
  have k_Bx1_2 : W22.cell? ⟨W7.heap.size, 2, none⟩ = some (.int .i64 (p1.2.2.1)) := Bx1.cell 2
  have k_Bx1_3 : W22.cell? ⟨W7.heap.size, 3, none⟩ = some (.slice Ax13 (p1.2.2.2).length cx13) := Bx1.cell 3
  have k_Bg0_0 : W22.cell? ⟨W8.heap.size, 0, none⟩ = some (.slice Ag00 (r0.1).length cg00) := Bg0.cell 0
  have k_Bg0_1 : W22.cell? ⟨W8.heap.size, 1, none⟩ = some (.slice Ag01 (r0.2).length cg01) := Bg0.cell 1
  clear hb_
  go_wp2_with fail
  go_cut [19, 20, 21] (fun t19 t20 t21 wx => ∃ (gh : Nat) (csh0 : List Value) (Ah1 : Option Addr) (ch1 : Nat) (Fh0 : List Nat) (Fh1 : List Nat), t19 = .pointer (some ⟨gh, 0, none⟩) ∧ t20 = .slice Ah1 ((r1).length) ch1 ∧ t21 = .int .i64 r2 ∧ Box wx gh 33 csh0.toArray ∧ (tDesk).O wx csh0 r0 Fh0 ∧ (tBy).O wx [.slice Ah1 ((r1).length) ch1] r1 Fh1 ∧ New W22.heap.size (Fh0 ++ Fh1) ∧ (∀ f ∈ Fh0 ++ Fh1, ¬ f = gh) ∧ Below W22.heap.size W22 wx ∧ W22.heap.size ≤ gh ∧ gh < wx.heap.size)
  case first =>
    refine wp_region_held_drew (S := (fun w' => w'.cell? ⟨w.heap.size, 0, none⟩ = some (.slice Aa00 na00 ca00) ∧ w'.cell? ⟨w.heap.size, 1, none⟩ = some (.slice Aa01 na01 ca01) ∧ w'.cell? ⟨w.heap.size + 1, 0, none⟩ = some (.int .i64 (p1.1)) ∧ w'.cell? ⟨w.heap.size + 1, 1, none⟩ = some (.int .i64 (p1.2.1)) ∧ w'.cell? ⟨w.heap.size + 1, 2, none⟩ = some (.int .i64 (p1.2.2.1)) ∧ w'.cell? ⟨w.heap.size + 1, 3, none⟩ = some (.slice Aa13 na13 ca13))) (by kernel_rfl) (by exact ⟨k_Ba0_0, k_Ba0_1, k_Ba1_0, k_Ba1_1, k_Ba1_2, k_Ba1_3⟩) (fun hHeld => ?_)
    refine wpAnyH_take (i := 0) (oi := ⟨some 124, _, _, _, _, _⟩) (v := ?v28) rfl (by kernel_rfl) (by kernel_rfl) (by kernel_rfl) (fun _ _ _ h => h) (Or.inl ⟨by rfl, ?hy28⟩) (by assumption) ?_
    case hy28 => (intro w hSw; (try dsimp only at hSw); go_simp; try (with_reducible rfl))
    (try simp only [Act.put, qa_, qb_, qc_])
    refine wpAnyH_take (i := 2) (oi := ⟨some 126, _, _, _, _, _⟩) (v := ?v29) rfl (by kernel_rfl) (by kernel_rfl) (by kernel_rfl) (fun _ _ _ h => h) (Or.inl ⟨by rfl, ?hy29⟩) (by assumption) ?_
    case hy29 => (intro w hSw; (try dsimp only at hSw); go_simp; try (with_reducible rfl))
    (try simp only [Act.put, qa_, qb_, qc_])
    refine wpAnyH_take (i := 4) (oi := ⟨some 128, _, _, _, _, _⟩) (v := ?v30) rfl (by kernel_rfl) (by kernel_rfl) (by kernel_rfl) (fun _ _ _ h => h) (Or.inl ⟨by rfl, ?hy30⟩) (by assumption) ?_
    case hy30 => (intro w hSw; (try dsimp only at hSw); go_simp; try (with_reducible rfl))
    (try simp only [Act.put, qa_, qb_, qc_])
    refine wpAnyH_ready (rs := [1, 10]) (by kernel_rfl) (by simp) ?_
    refine AllReadyH.cons rfl (fun K hK => ?_) ?_
    · have hX23 : Below W22.heap.size W22 W22.drew := (belx)
      go_simp
      go_at_call 9
      refine (o_toDesk ((tDesk).reach h0 (bel_trans hB22 hX23)) (by omega)).mono ?_
      rintro e W23 ⟨csy0, Fy0, rfl, o_y0, Ny0, hb_23⟩
      have hs23 : Below W22.heap.size W22 W23 := bel_trans (show Below W22.heap.size W22 W22.drew from (belx)) hb_23
      have hx23 : Below W22.heap.size W22 W23 := hs23
      go_wp2_with fail
      refine hK.out _ _ (by exact ⟨cell_bel hx23 k_Ba0_0, cell_bel hx23 k_Ba0_1, cell_bel hx23 k_Ba1_0, cell_bel hx23 k_Ba1_1, cell_bel hx23 k_Ba1_2, cell_bel hx23 k_Ba1_3⟩) (fun hHeld => ?_)
      clear hK K
      (try simp only [Act.put, qa_, qb_, qc_])
      refine wpAnyH_ready (rs := [3, 10]) (by kernel_rfl) (by simp) ?_
      refine AllReadyH.cons rfl (fun K hK => ?_) ?_
      · have hX24 : Below W22.heap.size W22 W23 := hx23
        go_simp
        go_at_call 10
        refine (o_toPiece ((tPiece).reach h1 (bel_trans hB22 hX24)) (by omega)).mono ?_
        rintro e W24 ⟨csy1, Fy1, rfl, o_y1, Ny1, hb_24⟩
        have hs24 : Below W23.heap.size W23 W24 := bel_trans (show Below W23.heap.size W23 W23 from (belx)) hb_24
        have hx24 : Below W22.heap.size W22 W24 := bel_trans hx23 hs24
        go_wp2_with fail
        refine hK.out _ _ (by exact ⟨cell_bel hx24 k_Ba0_0, cell_bel hx24 k_Ba0_1, cell_bel hx24 k_Ba1_0, cell_bel hx24 k_Ba1_1, cell_bel hx24 k_Ba1_2, cell_bel hx24 k_Ba1_3⟩) (fun hHeld => ?_)
        clear hK K
        (try simp only [Act.put, qa_, qb_, qc_])
        refine wpAnyH_ready (rs := [5, 10]) (by kernel_rfl) (by simp) ?_
        refine AllReadyH.cons rfl (fun K hK => ?_) ?_
        · have hX25 : Below W22.heap.size W22 W24 := hx24
          go_simp
          go_at_call 11
          refine (i_TakePiece ((tDesk).reach ((tDesk).read (Ty.below (t := tDesk) o_y0 hs24)) (belx)) (by omega) ((tPiece).reach ((tPiece).read o_y1) (belx)) (by omega) w2).mono ?_
          rintro e W25 ⟨csh0, Fh0, Ah1, ch1, Fh1, rfl, o_h0, o_h1, Nh, hb_25⟩
          rw [HR0.out] at o_h0
          rw [HR1.out] at o_h1
          rw [HR1.out]
          rw [HR2.out]
          have oo_0 := o_h0
          obtain ⟨Ah00, ch00, Fh00, Ah01, ch01, Fh01, rfl, -, -, -, -, -, -, -⟩ := openODesk oo_0
          have hNw : New W22.heap.size (Fh0 ++ Fh1) := Nh.lower hX25.size
          have hs25 : Below W24.heap.size W24 W25 := bel_trans (show Below W24.heap.size W24 W24 from (belx)) hb_25
          have hx25 : Below W22.heap.size W22 W25 := bel_trans hx24 hs25
          go_wp2_with fail
          refine hK.out _ _ (by exact ⟨cell_bel hx25 k_Ba0_0, cell_bel hx25 k_Ba0_1, cell_bel hx25 k_Ba1_0, cell_bel hx25 k_Ba1_1, cell_bel hx25 k_Ba1_2, cell_bel hx25 k_Ba1_3⟩) (fun hHeld => ?_)
          clear hK K
          (try simp only [Act.put, qa_, qb_, qc_])
          refine wpAnyH_take (i := 6) (oi := ⟨some 123, _, _, _, _, _⟩) (v := ?v31) rfl (by kernel_rfl) (by kernel_rfl) (by kernel_rfl) (fun _ _ _ h => h) (Or.inl ⟨by rfl, ?hy31⟩) (by assumption) ?_
          case hy31 => (intro w hSw; (try dsimp only at hSw); go_simp; try (with_reducible rfl))
          (try simp only [Act.put, qa_, qb_, qc_])
          refine wpAnyH_take (i := 7) (oi := ⟨some 130, _, _, _, _, _⟩) (v := ?v32) rfl (by kernel_rfl) (by kernel_rfl) (by kernel_rfl) (fun _ _ _ h => h) (Or.inl ⟨by rfl, ?hy32⟩) (by assumption) ?_
          case hy32 => (intro w hSw; (try dsimp only at hSw); go_simp; try (with_reducible rfl))
          (try simp only [Act.put, qa_, qb_, qc_])
          refine wpAnyH_take (i := 8) (oi := ⟨some 131, _, _, _, _, _⟩) (v := ?v33) rfl (by kernel_rfl) (by kernel_rfl) (by kernel_rfl) (fun _ _ _ h => h) (Or.inl ⟨by rfl, ?hy33⟩) (by assumption) ?_
          case hy33 => (intro w hSw; (try dsimp only at hSw); go_simp; try (with_reducible rfl))
          (try simp only [Act.put, qa_, qb_, qc_])
          refine wpAnyH_take (i := 9) (oi := ⟨some 132, _, _, _, _, _⟩) (v := ?v34) rfl (by kernel_rfl) (by kernel_rfl) (by kernel_rfl) (fun _ _ _ h => h) (Or.inl ⟨by rfl, ?hy34⟩) (by assumption) ?_
          case hy34 => (intro w hSw; (try dsimp only at hSw); go_simp; try (with_reducible rfl))
          (try simp only [Act.put, qa_, qb_, qc_])
          refine wpAnyH_ready (rs := [10]) (by kernel_rfl) (by simp) ?_
          refine AllReadyH.cons rfl (fun K hK => ?_) ?_
          · go_simp
            refine hK.out _ _ (by exact ⟨cell_bel (show Below W22.heap.size W22 (W25.alloc (.cells #[.slice none 0 0, .slice none 0 0] 33)) from bel_alloc hx25 _) k_Ba0_0, cell_bel (show Below W22.heap.size W22 (W25.alloc (.cells #[.slice none 0 0, .slice none 0 0] 33)) from bel_alloc hx25 _) k_Ba0_1, cell_bel (show Below W22.heap.size W22 (W25.alloc (.cells #[.slice none 0 0, .slice none 0 0] 33)) from bel_alloc hx25 _) k_Ba1_0, cell_bel (show Below W22.heap.size W22 (W25.alloc (.cells #[.slice none 0 0, .slice none 0 0] 33)) from bel_alloc hx25 _) k_Ba1_1, cell_bel (show Below W22.heap.size W22 (W25.alloc (.cells #[.slice none 0 0, .slice none 0 0] 33)) from bel_alloc hx25 _) k_Ba1_2, cell_bel (show Below W22.heap.size W22 (W25.alloc (.cells #[.slice none 0 0, .slice none 0 0] 33)) from bel_alloc hx25 _) k_Ba1_3⟩) (fun hHeld => ?_)
            clear hK K
            (try simp only [Act.put, qa_, qb_, qc_])
            refine wpAnyH_ready (rs := [11]) (by kernel_rfl) (by simp) ?_
            refine AllReadyH.cons rfl (fun K hK => ?_) ?_
            · have hg1 : W22.heap.size ≤ W25.heap.size := hx25.size
              have Zg : Box (W25.alloc (.cells #[.slice Ah00 (r0.1).length ch00, .slice Ah01 (r0.2).length ch01] 33)) (W25.heap.size) 33 #[.slice Ah00 (r0.1).length ch00, .slice Ah01 (r0.2).length ch01] := Box.new _ _ _
              have hgF : ∀ f ∈ Fh0 ++ Fh1, ¬ f = W25.heap.size := fun f hf e => by (subst e; rcases List.mem_append.1 hf with h | h; exact Nat.lt_irrefl _ ((tDesk).lt o_h0 _ h); exact Nat.lt_irrefl _ ((tBy).lt o_h1 _ h))
              have O_0 := Ty.below (t := tDesk) o_h0 (show Below W25.heap.size W25 (W25.alloc (.cells #[.slice Ah00 (r0.1).length ch00, .slice Ah01 (r0.2).length ch01] 33)) from bel_alloc (Below.refl _ _) _)
              have O_1 := Ty.below (t := tBy) o_h1 (show Below W25.heap.size W25 (W25.alloc (.cells #[.slice Ah00 (r0.1).length ch00, .slice Ah01 (r0.2).length ch01] 33)) from bel_alloc (Below.refl _ _) _)
              have hfin : Below W22.heap.size W22 (W25.alloc (.cells #[.slice Ah00 (r0.1).length ch00, .slice Ah01 (r0.2).length ch01] 33)) := bel_alloc hx25 _
              have hg2 := Zg.size
              go_simp
              refine hK.out _ _ (by exact ⟨cell_bel hfin k_Ba0_0, cell_bel hfin k_Ba0_1, cell_bel hfin k_Ba1_0, cell_bel hfin k_Ba1_1, cell_bel hfin k_Ba1_2, cell_bel hfin k_Ba1_3⟩) (fun hHeld => ?_)
              clear hK K
              (try simp only [Act.put, qa_, qb_, qc_])
              refine wpAnyH_take (i := 12) (oi := ⟨some 20, _, _, _, _, _⟩) (v := ?v35) rfl (by kernel_rfl) (by kernel_rfl) (by kernel_rfl) (fun _ _ _ h => h) (Or.inl ⟨by rfl, ?hy35⟩) (by assumption) ?_
              case hy35 => (intro w hSw; (try dsimp only at hSw); go_simp; try (with_reducible rfl))
              (try simp only [Act.put, qa_, qb_, qc_])
              refine wpAnyH_take (i := 13) (oi := ⟨some 21, _, _, _, _, _⟩) (v := ?v36) rfl (by kernel_rfl) (by kernel_rfl) (by kernel_rfl) (fun _ _ _ h => h) (Or.inl ⟨by rfl, ?hy36⟩) (by assumption) ?_
              case hy36 => (intro w hSw; (try dsimp only at hSw); go_simp; try (with_reducible rfl))
              (try simp only [Act.put, qa_, qb_, qc_])
              refine wpAnyH_done (by kernel_rfl) ?_ _
              go_wp2_with fail
              go_meet
              exact ⟨_, [.slice Ah00 (r0.1).length ch00, .slice Ah01 (r0.2).length ch01], _, _, _, _, rfl, rfl, rfl, by first | exact Zg | simpa using Zg, O_0, O_1, hNw, hgF, hfin, hg1, by first | exact hg2 | simpa [World.setCell] using hg2⟩
            exact AllReadyH.nil
          exact AllReadyH.nil
        refine AllReadyH.cons rfl (fun K hK => ?_) ?_
        · go_simp
          refine hK.out _ _ (by exact ⟨cell_bel (show Below W22.heap.size W22 (W24.alloc (.cells #[.slice none 0 0, .slice none 0 0] 33)) from bel_alloc hx24 _) k_Ba0_0, cell_bel (show Below W22.heap.size W22 (W24.alloc (.cells #[.slice none 0 0, .slice none 0 0] 33)) from bel_alloc hx24 _) k_Ba0_1, cell_bel (show Below W22.heap.size W22 (W24.alloc (.cells #[.slice none 0 0, .slice none 0 0] 33)) from bel_alloc hx24 _) k_Ba1_0, cell_bel (show Below W22.heap.size W22 (W24.alloc (.cells #[.slice none 0 0, .slice none 0 0] 33)) from bel_alloc hx24 _) k_Ba1_1, cell_bel (show Below W22.heap.size W22 (W24.alloc (.cells #[.slice none 0 0, .slice none 0 0] 33)) from bel_alloc hx24 _) k_Ba1_2, cell_bel (show Below W22.heap.size W22 (W24.alloc (.cells #[.slice none 0 0, .slice none 0 0] 33)) from bel_alloc hx24 _) k_Ba1_3⟩) (fun hHeld => ?_)
          clear hK K
          (try simp only [Act.put, qa_, qb_, qc_])
          refine wpAnyH_ready (rs := [5]) (by kernel_rfl) (by simp) ?_
          refine AllReadyH.cons rfl (fun K hK => ?_) ?_
          · have hX25 : Below W22.heap.size W22 (W24.alloc (.cells #[.slice none 0 0, .slice none 0 0] 33)) := bel_alloc hx24 _
            go_simp
            go_at_call 11
            refine (i_TakePiece ((tDesk).reach ((tDesk).read (Ty.below (t := tDesk) o_y0 hs24)) (belx)) (by omega) ((tPiece).reach ((tPiece).read o_y1) (belx)) (by omega) w2).mono ?_
            rintro e W25 ⟨csh0, Fh0, Ah1, ch1, Fh1, rfl, o_h0, o_h1, Nh, hb_25⟩
            rw [HR0.out] at o_h0
            rw [HR1.out] at o_h1
            rw [HR1.out]
            rw [HR2.out]
            have oo_0 := o_h0
            obtain ⟨Ah00, ch00, Fh00, Ah01, ch01, Fh01, rfl, -, -, -, -, -, -, -⟩ := openODesk oo_0
            have hNw : New W22.heap.size (Fh0 ++ Fh1) := Nh.lower hX25.size
            have hs25 : Below W24.heap.size W24 W25 := bel_trans (show Below W24.heap.size W24 (W24.alloc (.cells #[.slice none 0 0, .slice none 0 0] 33)) from (belx)) hb_25
            have hx25 : Below W22.heap.size W22 W25 := bel_trans hx24 hs25
            have Zb : Box (W24.alloc (.cells #[.slice none 0 0, .slice none 0 0] 33)) (W24.heap.size) 33 #[.slice none 0 0, .slice none 0 0] := (by first | exact Box.new _ _ _ | exact Box.drew (Box.new _ _ _))
            have hgX : W24.heap.size < (W24.alloc (.cells #[.slice none 0 0, .slice none 0 0] 33)).heap.size := Zb.size
            have hgF : ∀ f ∈ Fh0 ++ Fh1, ¬ f = W24.heap.size := fun f hf e => by (subst e; exact Nat.lt_irrefl _ (Nat.lt_of_lt_of_le hgX (Nh.2 _ hf)))
            replace Zb := Box.below Zb hb_25 Zb.size
            have zb0 := Zb.cell 0
            have zb1 := Zb.cell 1
            have zf0 := Zb.frozen 0
            have zf1 := Zb.frozen 1
            go_wp2_with fail
            refine hK.out _ _ (by exact ⟨cell_bel hx25 k_Ba0_0, cell_bel hx25 k_Ba0_1, cell_bel hx25 k_Ba1_0, cell_bel hx25 k_Ba1_1, cell_bel hx25 k_Ba1_2, cell_bel hx25 k_Ba1_3⟩) (fun hHeld => ?_)
            clear hK K
            (try simp only [Act.put, qa_, qb_, qc_])
            refine wpAnyH_take (i := 6) (oi := ⟨some 123, _, _, _, _, _⟩) (v := ?v37) rfl (by kernel_rfl) (by kernel_rfl) (by kernel_rfl) (fun _ _ _ h => h) (Or.inl ⟨by rfl, ?hy37⟩) (by assumption) ?_
            case hy37 => (intro w hSw; (try dsimp only at hSw); go_simp; try (with_reducible rfl))
            (try simp only [Act.put, qa_, qb_, qc_])
            refine wpAnyH_take (i := 7) (oi := ⟨some 130, _, _, _, _, _⟩) (v := ?v38) rfl (by kernel_rfl) (by kernel_rfl) (by kernel_rfl) (fun _ _ _ h => h) (Or.inl ⟨by rfl, ?hy38⟩) (by assumption) ?_
            case hy38 => (intro w hSw; (try dsimp only at hSw); go_simp; try (with_reducible rfl))
            (try simp only [Act.put, qa_, qb_, qc_])
            refine wpAnyH_take (i := 8) (oi := ⟨some 131, _, _, _, _, _⟩) (v := ?v39) rfl (by kernel_rfl) (by kernel_rfl) (by kernel_rfl) (fun _ _ _ h => h) (Or.inl ⟨by rfl, ?hy39⟩) (by assumption) ?_
            case hy39 => (intro w hSw; (try dsimp only at hSw); go_simp; try (with_reducible rfl))
            (try simp only [Act.put, qa_, qb_, qc_])
            refine wpAnyH_take (i := 9) (oi := ⟨some 132, _, _, _, _, _⟩) (v := ?v40) rfl (by kernel_rfl) (by kernel_rfl) (by kernel_rfl) (fun _ _ _ h => h) (Or.inl ⟨by rfl, ?hy40⟩) (by assumption) ?_
            case hy40 => (intro w hSw; (try dsimp only at hSw); go_simp; try (with_reducible rfl))
            (try simp only [Act.put, qa_, qb_, qc_])
            refine wpAnyH_ready (rs := [11]) (by kernel_rfl) (by simp) ?_
            refine AllReadyH.cons rfl (fun K hK => ?_) ?_
            · have hg1 : W22.heap.size ≤ W24.heap.size := hx24.size
              have hfin := (bel_put (bel_put hx25 (p := ⟨W24.heap.size, 0, none⟩) hg1 (.slice Ah00 (r0.1).length ch00)) (p := ⟨W24.heap.size, 1, none⟩) hg1 (.slice Ah01 (r0.2).length ch01))
              have Zg := ((Zb.put 0 (.slice Ah00 (r0.1).length ch00)).put 1 (.slice Ah01 (r0.2).length ch01))
              have O_0 := (Ty.far3 (t := tDesk) (Ty.far3 (t := tDesk) o_h0 (p := ⟨W24.heap.size, 0, none⟩) (fun hx => hgF _ (List.mem_append.2 (.inl hx)) rfl) (.slice Ah00 (r0.1).length ch00)) (p := ⟨W24.heap.size, 1, none⟩) (fun hx => hgF _ (List.mem_append.2 (.inl hx)) rfl) (.slice Ah01 (r0.2).length ch01))
              have O_1 := (Ty.far3 (t := tBy) (Ty.far3 (t := tBy) o_h1 (p := ⟨W24.heap.size, 0, none⟩) (fun hx => hgF _ (List.mem_append.2 (.inr hx)) rfl) (.slice Ah00 (r0.1).length ch00)) (p := ⟨W24.heap.size, 1, none⟩) (fun hx => hgF _ (List.mem_append.2 (.inr hx)) rfl) (.slice Ah01 (r0.2).length ch01))
              have hg2 := Zg.size
              go_simp
              refine hK.out _ _ (by exact ⟨cell_bel hfin k_Ba0_0, cell_bel hfin k_Ba0_1, cell_bel hfin k_Ba1_0, cell_bel hfin k_Ba1_1, cell_bel hfin k_Ba1_2, cell_bel hfin k_Ba1_3⟩) (fun hHeld => ?_)
              clear hK K
              (try simp only [Act.put, qa_, qb_, qc_])
              refine wpAnyH_take (i := 12) (oi := ⟨some 20, _, _, _, _, _⟩) (v := ?v41) rfl (by kernel_rfl) (by kernel_rfl) (by kernel_rfl) (fun _ _ _ h => h) (Or.inl ⟨by rfl, ?hy41⟩) (by assumption) ?_
              case hy41 => (intro w hSw; (try dsimp only at hSw); go_simp; try (with_reducible rfl))
              (try simp only [Act.put, qa_, qb_, qc_])
              refine wpAnyH_take (i := 13) (oi := ⟨some 21, _, _, _, _, _⟩) (v := ?v42) rfl (by kernel_rfl) (by kernel_rfl) (by kernel_rfl) (fun _ _ _ h => h) (Or.inl ⟨by rfl, ?hy42⟩) (by assumption) ?_
              case hy42 => (intro w hSw; (try dsimp only at hSw); go_simp; try (with_reducible rfl))
              (try simp only [Act.put, qa_, qb_, qc_])
              refine wpAnyH_done (by kernel_rfl) ?_ _
              go_wp2_with fail
              go_meet
              exact ⟨_, [.slice Ah00 (r0.1).length ch00, .slice Ah01 (r0.2).length ch01], _, _, _, _, rfl, rfl, rfl, by first | exact Zg | simpa using Zg, O_0, O_1, hNw, hgF, hfin, hg1, by first | exact hg2 | simpa [World.setCell] using hg2⟩
            exact AllReadyH.nil
          exact AllReadyH.nil
        exact AllReadyH.nil
      refine AllReadyH.cons rfl (fun K hK => ?_) ?_
      · go_simp
        refine hK.out _ _ (by exact ⟨cell_bel (show Below W22.heap.size W22 (W23.alloc (.cells #[.slice none 0 0, .slice none 0 0] 33)) from bel_alloc hx23 _) k_Ba0_0, cell_bel (show Below W22.heap.size W22 (W23.alloc (.cells #[.slice none 0 0, .slice none 0 0] 33)) from bel_alloc hx23 _) k_Ba0_1, cell_bel (show Below W22.heap.size W22 (W23.alloc (.cells #[.slice none 0 0, .slice none 0 0] 33)) from bel_alloc hx23 _) k_Ba1_0, cell_bel (show Below W22.heap.size W22 (W23.alloc (.cells #[.slice none 0 0, .slice none 0 0] 33)) from bel_alloc hx23 _) k_Ba1_1, cell_bel (show Below W22.heap.size W22 (W23.alloc (.cells #[.slice none 0 0, .slice none 0 0] 33)) from bel_alloc hx23 _) k_Ba1_2, cell_bel (show Below W22.heap.size W22 (W23.alloc (.cells #[.slice none 0 0, .slice none 0 0] 33)) from bel_alloc hx23 _) k_Ba1_3⟩) (fun hHeld => ?_)
        clear hK K
        (try simp only [Act.put, qa_, qb_, qc_])
        refine wpAnyH_ready (rs := [3]) (by kernel_rfl) (by simp) ?_
        refine AllReadyH.cons rfl (fun K hK => ?_) ?_
        · have hX24 : Below W22.heap.size W22 (W23.alloc (.cells #[.slice none 0 0, .slice none 0 0] 33)) := bel_alloc hx23 _
          go_simp
          go_at_call 10
          refine (o_toPiece ((tPiece).reach h1 (bel_trans hB22 hX24)) (by omega)).mono ?_
          rintro e W24 ⟨csy1, Fy1, rfl, o_y1, Ny1, hb_24⟩
          have hs24 : Below W23.heap.size W23 W24 := bel_trans (show Below W23.heap.size W23 (W23.alloc (.cells #[.slice none 0 0, .slice none 0 0] 33)) from (belx)) hb_24
          have hx24 : Below W22.heap.size W22 W24 := bel_trans hx23 hs24
          have Zb : Box (W23.alloc (.cells #[.slice none 0 0, .slice none 0 0] 33)) (W23.heap.size) 33 #[.slice none 0 0, .slice none 0 0] := (by first | exact Box.new _ _ _ | exact Box.drew (Box.new _ _ _))
          have hgX : W23.heap.size < (W23.alloc (.cells #[.slice none 0 0, .slice none 0 0] 33)).heap.size := Zb.size
          replace Zb := Box.below Zb hb_24 Zb.size
          go_wp2_with fail
          refine hK.out _ _ (by exact ⟨cell_bel hx24 k_Ba0_0, cell_bel hx24 k_Ba0_1, cell_bel hx24 k_Ba1_0, cell_bel hx24 k_Ba1_1, cell_bel hx24 k_Ba1_2, cell_bel hx24 k_Ba1_3⟩) (fun hHeld => ?_)
          clear hK K
          (try simp only [Act.put, qa_, qb_, qc_])
          refine wpAnyH_ready (rs := [5]) (by kernel_rfl) (by simp) ?_
          refine AllReadyH.cons rfl (fun K hK => ?_) ?_
          · have hX25 : Below W22.heap.size W22 W24 := hx24
            go_simp
            go_at_call 11
            refine (i_TakePiece ((tDesk).reach ((tDesk).read (Ty.below (t := tDesk) o_y0 hs24)) (belx)) (by omega) ((tPiece).reach ((tPiece).read o_y1) (belx)) (by omega) w2).mono ?_
            rintro e W25 ⟨csh0, Fh0, Ah1, ch1, Fh1, rfl, o_h0, o_h1, Nh, hb_25⟩
            rw [HR0.out] at o_h0
            rw [HR1.out] at o_h1
            rw [HR1.out]
            rw [HR2.out]
            have oo_0 := o_h0
            obtain ⟨Ah00, ch00, Fh00, Ah01, ch01, Fh01, rfl, -, -, -, -, -, -, -⟩ := openODesk oo_0
            have hNw : New W22.heap.size (Fh0 ++ Fh1) := Nh.lower hX25.size
            have hs25 : Below W24.heap.size W24 W25 := bel_trans (show Below W24.heap.size W24 W24 from (belx)) hb_25
            have hx25 : Below W22.heap.size W22 W25 := bel_trans hx24 hs25
            have hgX : W23.heap.size < W24.heap.size := Zb.size
            have hgF : ∀ f ∈ Fh0 ++ Fh1, ¬ f = W23.heap.size := fun f hf e => by (subst e; exact Nat.lt_irrefl _ (Nat.lt_of_lt_of_le hgX (Nh.2 _ hf)))
            replace Zb := Box.below Zb hb_25 Zb.size
            have zb0 := Zb.cell 0
            have zb1 := Zb.cell 1
            have zf0 := Zb.frozen 0
            have zf1 := Zb.frozen 1
            go_wp2_with fail
            refine hK.out _ _ (by exact ⟨cell_bel hx25 k_Ba0_0, cell_bel hx25 k_Ba0_1, cell_bel hx25 k_Ba1_0, cell_bel hx25 k_Ba1_1, cell_bel hx25 k_Ba1_2, cell_bel hx25 k_Ba1_3⟩) (fun hHeld => ?_)
            clear hK K
            (try simp only [Act.put, qa_, qb_, qc_])
            refine wpAnyH_take (i := 6) (oi := ⟨some 123, _, _, _, _, _⟩) (v := ?v43) rfl (by kernel_rfl) (by kernel_rfl) (by kernel_rfl) (fun _ _ _ h => h) (Or.inl ⟨by rfl, ?hy43⟩) (by assumption) ?_
            case hy43 => (intro w hSw; (try dsimp only at hSw); go_simp; try (with_reducible rfl))
            (try simp only [Act.put, qa_, qb_, qc_])
            refine wpAnyH_take (i := 7) (oi := ⟨some 130, _, _, _, _, _⟩) (v := ?v44) rfl (by kernel_rfl) (by kernel_rfl) (by kernel_rfl) (fun _ _ _ h => h) (Or.inl ⟨by rfl, ?hy44⟩) (by assumption) ?_
            case hy44 => (intro w hSw; (try dsimp only at hSw); go_simp; try (with_reducible rfl))
            (try simp only [Act.put, qa_, qb_, qc_])
            refine wpAnyH_take (i := 8) (oi := ⟨some 131, _, _, _, _, _⟩) (v := ?v45) rfl (by kernel_rfl) (by kernel_rfl) (by kernel_rfl) (fun _ _ _ h => h) (Or.inl ⟨by rfl, ?hy45⟩) (by assumption) ?_
            case hy45 => (intro w hSw; (try dsimp only at hSw); go_simp; try (with_reducible rfl))
            (try simp only [Act.put, qa_, qb_, qc_])
            refine wpAnyH_take (i := 9) (oi := ⟨some 132, _, _, _, _, _⟩) (v := ?v46) rfl (by kernel_rfl) (by kernel_rfl) (by kernel_rfl) (fun _ _ _ h => h) (Or.inl ⟨by rfl, ?hy46⟩) (by assumption) ?_
            case hy46 => (intro w hSw; (try dsimp only at hSw); go_simp; try (with_reducible rfl))
            (try simp only [Act.put, qa_, qb_, qc_])
            refine wpAnyH_ready (rs := [11]) (by kernel_rfl) (by simp) ?_
            refine AllReadyH.cons rfl (fun K hK => ?_) ?_
            · have hg1 : W22.heap.size ≤ W23.heap.size := hx23.size
              have hfin := (bel_put (bel_put hx25 (p := ⟨W23.heap.size, 0, none⟩) hg1 (.slice Ah00 (r0.1).length ch00)) (p := ⟨W23.heap.size, 1, none⟩) hg1 (.slice Ah01 (r0.2).length ch01))
              have Zg := ((Zb.put 0 (.slice Ah00 (r0.1).length ch00)).put 1 (.slice Ah01 (r0.2).length ch01))
              have O_0 := (Ty.far3 (t := tDesk) (Ty.far3 (t := tDesk) o_h0 (p := ⟨W23.heap.size, 0, none⟩) (fun hx => hgF _ (List.mem_append.2 (.inl hx)) rfl) (.slice Ah00 (r0.1).length ch00)) (p := ⟨W23.heap.size, 1, none⟩) (fun hx => hgF _ (List.mem_append.2 (.inl hx)) rfl) (.slice Ah01 (r0.2).length ch01))
              have O_1 := (Ty.far3 (t := tBy) (Ty.far3 (t := tBy) o_h1 (p := ⟨W23.heap.size, 0, none⟩) (fun hx => hgF _ (List.mem_append.2 (.inr hx)) rfl) (.slice Ah00 (r0.1).length ch00)) (p := ⟨W23.heap.size, 1, none⟩) (fun hx => hgF _ (List.mem_append.2 (.inr hx)) rfl) (.slice Ah01 (r0.2).length ch01))
              have hg2 := Zg.size
              go_simp
              refine hK.out _ _ (by exact ⟨cell_bel hfin k_Ba0_0, cell_bel hfin k_Ba0_1, cell_bel hfin k_Ba1_0, cell_bel hfin k_Ba1_1, cell_bel hfin k_Ba1_2, cell_bel hfin k_Ba1_3⟩) (fun hHeld => ?_)
              clear hK K
              (try simp only [Act.put, qa_, qb_, qc_])
              refine wpAnyH_take (i := 12) (oi := ⟨some 20, _, _, _, _, _⟩) (v := ?v47) rfl (by kernel_rfl) (by kernel_rfl) (by kernel_rfl) (fun _ _ _ h => h) (Or.inl ⟨by rfl, ?hy47⟩) (by assumption) ?_
              case hy47 => (intro w hSw; (try dsimp only at hSw); go_simp; try (with_reducible rfl))
              (try simp only [Act.put, qa_, qb_, qc_])
              refine wpAnyH_take (i := 13) (oi := ⟨some 21, _, _, _, _, _⟩) (v := ?v48) rfl (by kernel_rfl) (by kernel_rfl) (by kernel_rfl) (fun _ _ _ h => h) (Or.inl ⟨by rfl, ?hy48⟩) (by assumption) ?_
              case hy48 => (intro w hSw; (try dsimp only at hSw); go_simp; try (with_reducible rfl))
              (try simp only [Act.put, qa_, qb_, qc_])
              refine wpAnyH_done (by kernel_rfl) ?_ _
              go_wp2_with fail
              go_meet
              exact ⟨_, [.slice Ah00 (r0.1).length ch00, .slice Ah01 (r0.2).length ch01], _, _, _, _, rfl, rfl, rfl, by first | exact Zg | simpa using Zg, O_0, O_1, hNw, hgF, hfin, hg1, by first | exact hg2 | simpa [World.setCell] using hg2⟩
            exact AllReadyH.nil
          exact AllReadyH.nil
        exact AllReadyH.nil
      exact AllReadyH.nil
    refine AllReadyH.cons rfl (fun K hK => ?_) ?_
    · go_simp
      refine hK.out _ _ (by exact ⟨cell_bel (show Below W22.heap.size W22 (W22.alloc (.cells #[.slice none 0 0, .slice none 0 0] 33)).drew from (belx)) k_Ba0_0, cell_bel (show Below W22.heap.size W22 (W22.alloc (.cells #[.slice none 0 0, .slice none 0 0] 33)).drew from (belx)) k_Ba0_1, cell_bel (show Below W22.heap.size W22 (W22.alloc (.cells #[.slice none 0 0, .slice none 0 0] 33)).drew from (belx)) k_Ba1_0, cell_bel (show Below W22.heap.size W22 (W22.alloc (.cells #[.slice none 0 0, .slice none 0 0] 33)).drew from (belx)) k_Ba1_1, cell_bel (show Below W22.heap.size W22 (W22.alloc (.cells #[.slice none 0 0, .slice none 0 0] 33)).drew from (belx)) k_Ba1_2, cell_bel (show Below W22.heap.size W22 (W22.alloc (.cells #[.slice none 0 0, .slice none 0 0] 33)).drew from (belx)) k_Ba1_3⟩) (fun hHeld => ?_)
      clear hK K
      (try simp only [Act.put, qa_, qb_, qc_])
      refine wpAnyH_ready (rs := [1]) (by kernel_rfl) (by simp) ?_
      refine AllReadyH.cons rfl (fun K hK => ?_) ?_
      · have hX23 : Below W22.heap.size W22 (W22.alloc (.cells #[.slice none 0 0, .slice none 0 0] 33)).drew := (belx)
        go_simp
        go_at_call 9
        refine (o_toDesk ((tDesk).reach h0 (bel_trans hB22 hX23)) (by omega)).mono ?_
        rintro e W23 ⟨csy0, Fy0, rfl, o_y0, Ny0, hb_23⟩
        have hs23 : Below W22.heap.size W22 W23 := bel_trans (show Below W22.heap.size W22 (W22.alloc (.cells #[.slice none 0 0, .slice none 0 0] 33)).drew from (belx)) hb_23
        have hx23 : Below W22.heap.size W22 W23 := hs23
        have Zb : Box (W22.alloc (.cells #[.slice none 0 0, .slice none 0 0] 33)).drew (W22.heap.size) 33 #[.slice none 0 0, .slice none 0 0] := (by first | exact Box.new _ _ _ | exact Box.drew (Box.new _ _ _))
        have hgX : W22.heap.size < (W22.alloc (.cells #[.slice none 0 0, .slice none 0 0] 33)).drew.heap.size := Zb.size
        replace Zb := Box.below Zb hb_23 Zb.size
        go_wp2_with fail
        refine hK.out _ _ (by exact ⟨cell_bel hx23 k_Ba0_0, cell_bel hx23 k_Ba0_1, cell_bel hx23 k_Ba1_0, cell_bel hx23 k_Ba1_1, cell_bel hx23 k_Ba1_2, cell_bel hx23 k_Ba1_3⟩) (fun hHeld => ?_)
        clear hK K
        (try simp only [Act.put, qa_, qb_, qc_])
        refine wpAnyH_ready (rs := [3]) (by kernel_rfl) (by simp) ?_
        refine AllReadyH.cons rfl (fun K hK => ?_) ?_
        · have hX24 : Below W22.heap.size W22 W23 := hx23
          go_simp
          go_at_call 10
          refine (o_toPiece ((tPiece).reach h1 (bel_trans hB22 hX24)) (by omega)).mono ?_
          rintro e W24 ⟨csy1, Fy1, rfl, o_y1, Ny1, hb_24⟩
          have hs24 : Below W23.heap.size W23 W24 := bel_trans (show Below W23.heap.size W23 W23 from (belx)) hb_24
          have hx24 : Below W22.heap.size W22 W24 := bel_trans hx23 hs24
          have hgX : W22.heap.size < W23.heap.size := Zb.size
          replace Zb := Box.below Zb hb_24 Zb.size
          go_wp2_with fail
          refine hK.out _ _ (by exact ⟨cell_bel hx24 k_Ba0_0, cell_bel hx24 k_Ba0_1, cell_bel hx24 k_Ba1_0, cell_bel hx24 k_Ba1_1, cell_bel hx24 k_Ba1_2, cell_bel hx24 k_Ba1_3⟩) (fun hHeld => ?_)
          clear hK K
          (try simp only [Act.put, qa_, qb_, qc_])
          refine wpAnyH_ready (rs := [5]) (by kernel_rfl) (by simp) ?_
          refine AllReadyH.cons rfl (fun K hK => ?_) ?_
          · have hX25 : Below W22.heap.size W22 W24 := hx24
            go_simp
            go_at_call 11
            refine (i_TakePiece ((tDesk).reach ((tDesk).read (Ty.below (t := tDesk) o_y0 hs24)) (belx)) (by omega) ((tPiece).reach ((tPiece).read o_y1) (belx)) (by omega) w2).mono ?_
            rintro e W25 ⟨csh0, Fh0, Ah1, ch1, Fh1, rfl, o_h0, o_h1, Nh, hb_25⟩
            rw [HR0.out] at o_h0
            rw [HR1.out] at o_h1
            rw [HR1.out]
            rw [HR2.out]
            have oo_0 := o_h0
            obtain ⟨Ah00, ch00, Fh00, Ah01, ch01, Fh01, rfl, -, -, -, -, -, -, -⟩ := openODesk oo_0
            have hNw : New W22.heap.size (Fh0 ++ Fh1) := Nh.lower hX25.size
            have hs25 : Below W24.heap.size W24 W25 := bel_trans (show Below W24.heap.size W24 W24 from (belx)) hb_25
            have hx25 : Below W22.heap.size W22 W25 := bel_trans hx24 hs25
            have hgX : W22.heap.size < W24.heap.size := Zb.size
            have hgF : ∀ f ∈ Fh0 ++ Fh1, ¬ f = W22.heap.size := fun f hf e => by (subst e; exact Nat.lt_irrefl _ (Nat.lt_of_lt_of_le hgX (Nh.2 _ hf)))
            replace Zb := Box.below Zb hb_25 Zb.size
            have zb0 := Zb.cell 0
            have zb1 := Zb.cell 1
            have zf0 := Zb.frozen 0
            have zf1 := Zb.frozen 1
            go_wp2_with fail
            refine hK.out _ _ (by exact ⟨cell_bel hx25 k_Ba0_0, cell_bel hx25 k_Ba0_1, cell_bel hx25 k_Ba1_0, cell_bel hx25 k_Ba1_1, cell_bel hx25 k_Ba1_2, cell_bel hx25 k_Ba1_3⟩) (fun hHeld => ?_)
            clear hK K
            (try simp only [Act.put, qa_, qb_, qc_])
            refine wpAnyH_take (i := 6) (oi := ⟨some 123, _, _, _, _, _⟩) (v := ?v49) rfl (by kernel_rfl) (by kernel_rfl) (by kernel_rfl) (fun _ _ _ h => h) (Or.inl ⟨by rfl, ?hy49⟩) (by assumption) ?_
            case hy49 => (intro w hSw; (try dsimp only at hSw); go_simp; try (with_reducible rfl))
            (try simp only [Act.put, qa_, qb_, qc_])
            refine wpAnyH_take (i := 7) (oi := ⟨some 130, _, _, _, _, _⟩) (v := ?v50) rfl (by kernel_rfl) (by kernel_rfl) (by kernel_rfl) (fun _ _ _ h => h) (Or.inl ⟨by rfl, ?hy50⟩) (by assumption) ?_
            case hy50 => (intro w hSw; (try dsimp only at hSw); go_simp; try (with_reducible rfl))
            (try simp only [Act.put, qa_, qb_, qc_])
            refine wpAnyH_take (i := 8) (oi := ⟨some 131, _, _, _, _, _⟩) (v := ?v51) rfl (by kernel_rfl) (by kernel_rfl) (by kernel_rfl) (fun _ _ _ h => h) (Or.inl ⟨by rfl, ?hy51⟩) (by assumption) ?_
            case hy51 => (intro w hSw; (try dsimp only at hSw); go_simp; try (with_reducible rfl))
            (try simp only [Act.put, qa_, qb_, qc_])
            refine wpAnyH_take (i := 9) (oi := ⟨some 132, _, _, _, _, _⟩) (v := ?v52) rfl (by kernel_rfl) (by kernel_rfl) (by kernel_rfl) (fun _ _ _ h => h) (Or.inl ⟨by rfl, ?hy52⟩) (by assumption) ?_
            case hy52 => (intro w hSw; (try dsimp only at hSw); go_simp; try (with_reducible rfl))
            (try simp only [Act.put, qa_, qb_, qc_])
            refine wpAnyH_ready (rs := [11]) (by kernel_rfl) (by simp) ?_
            refine AllReadyH.cons rfl (fun K hK => ?_) ?_
            · have hg1 : W22.heap.size ≤ W22.heap.size := Nat.le_refl _
              have hfin := (bel_put (bel_put hx25 (p := ⟨W22.heap.size, 0, none⟩) hg1 (.slice Ah00 (r0.1).length ch00)) (p := ⟨W22.heap.size, 1, none⟩) hg1 (.slice Ah01 (r0.2).length ch01))
              have Zg := ((Zb.put 0 (.slice Ah00 (r0.1).length ch00)).put 1 (.slice Ah01 (r0.2).length ch01))
              have O_0 := (Ty.far3 (t := tDesk) (Ty.far3 (t := tDesk) o_h0 (p := ⟨W22.heap.size, 0, none⟩) (fun hx => hgF _ (List.mem_append.2 (.inl hx)) rfl) (.slice Ah00 (r0.1).length ch00)) (p := ⟨W22.heap.size, 1, none⟩) (fun hx => hgF _ (List.mem_append.2 (.inl hx)) rfl) (.slice Ah01 (r0.2).length ch01))
              have O_1 := (Ty.far3 (t := tBy) (Ty.far3 (t := tBy) o_h1 (p := ⟨W22.heap.size, 0, none⟩) (fun hx => hgF _ (List.mem_append.2 (.inr hx)) rfl) (.slice Ah00 (r0.1).length ch00)) (p := ⟨W22.heap.size, 1, none⟩) (fun hx => hgF _ (List.mem_append.2 (.inr hx)) rfl) (.slice Ah01 (r0.2).length ch01))
              have hg2 := Zg.size
              go_simp
              refine hK.out _ _ (by exact ⟨cell_bel hfin k_Ba0_0, cell_bel hfin k_Ba0_1, cell_bel hfin k_Ba1_0, cell_bel hfin k_Ba1_1, cell_bel hfin k_Ba1_2, cell_bel hfin k_Ba1_3⟩) (fun hHeld => ?_)
              clear hK K
              (try simp only [Act.put, qa_, qb_, qc_])
              refine wpAnyH_take (i := 12) (oi := ⟨some 20, _, _, _, _, _⟩) (v := ?v53) rfl (by kernel_rfl) (by kernel_rfl) (by kernel_rfl) (fun _ _ _ h => h) (Or.inl ⟨by rfl, ?hy53⟩) (by assumption) ?_
              case hy53 => (intro w hSw; (try dsimp only at hSw); go_simp; try (with_reducible rfl))
              (try simp only [Act.put, qa_, qb_, qc_])
              refine wpAnyH_take (i := 13) (oi := ⟨some 21, _, _, _, _, _⟩) (v := ?v54) rfl (by kernel_rfl) (by kernel_rfl) (by kernel_rfl) (fun _ _ _ h => h) (Or.inl ⟨by rfl, ?hy54⟩) (by assumption) ?_
              case hy54 => (intro w hSw; (try dsimp only at hSw); go_simp; try (with_reducible rfl))
              (try simp only [Act.put, qa_, qb_, qc_])
              refine wpAnyH_done (by kernel_rfl) ?_ _
              go_wp2_with fail
              go_meet
              exact ⟨_, [.slice Ah00 (r0.1).length ch00, .slice Ah01 (r0.2).length ch01], _, _, _, _, rfl, rfl, rfl, by first | exact Zg | simpa using Zg, O_0, O_1, hNw, hgF, hfin, hg1, by first | exact hg2 | simpa [World.setCell] using hg2⟩
            exact AllReadyH.nil
          exact AllReadyH.nil
        exact AllReadyH.nil
      exact AllReadyH.nil
    exact AllReadyH.nil
  case rest =>
  obtain ⟨gh, csh0, Ah1, ch1, Fh0, Fh1, rfl, rfl, rfl, Zg, o_h0, o_h1, Nh, hgF, hsx, hg1, hg2⟩ := hcut
  generalize wc = W25 at *
  clear k_Ba0_0 k_Ba0_1
  clear k_Ba1_0 k_Ba1_1 k_Ba1_2 k_Ba1_3
  clear k_Bs0_0 k_Bs0_1
  clear k_Bx0_0 k_Bx0_1
  clear k_Bx1_0 k_Bx1_1 k_Bx1_2 k_Bx1_3
  clear k_Bg0_0 k_Bg0_1
  have z25 : W22.heap.size + 0 ≤ W25.heap.size := hsx.size
  have hB25 : Below w.heap.size w W25 := bel_trans hB22 hsx
  replace Ba0 := Ba0.below hsx Ba0.size
  replace Ba1 := Ba1.below hsx Ba1.size
  replace Bs0 := Bs0.below hsx Bs0.size
  replace Bx0 := Bx0.below hsx Bx0.size
  replace Bx1 := Bx1.below hsx Bx1.size
  replace Bg0 := Bg0.below hsx Bg0.size
  replace o_g0 := Ty.below (t := tDesk) o_g0 hsx
  replace o_g1 := Ty.below (t := tBy) o_g1 hsx
  replace r_s0 := (tDesk).keep r_s0 (fun b hb => hsx.block b (Nat.lt_of_lt_of_le hb (by omega)))
  replace r_s1 := (tBy).keep r_s1 (fun b hb => hsx.block b (Nat.lt_of_lt_of_le hb (by omega)))
  obtain ⟨Ah00, ch00, Fh00, Ah01, ch01, Fh01, rfl, -, -, -, -, -, -, -⟩ := openODesk o_h0
  have Bh0 : Box W25 gh 33 #[.slice Ah00 (r0.1).length ch00, .slice Ah01 (r0.2).length ch01] := by simpa using Zg
  clear Zg
  have k_Ba0_0 : W25.cell? ⟨w.heap.size, 0, none⟩ = some (.slice Aa00 na00 ca00) := Ba0.cell 0
  have k_Ba0_1 : W25.cell? ⟨w.heap.size, 1, none⟩ = some (.slice Aa01 na01 ca01) := Ba0.cell 1
  have k_Ba1_0 : W25.cell? ⟨w.heap.size + 1, 0, none⟩ = some (.int .i64 (p1.1)) := Ba1.cell 0
  have k_Ba1_1 : W25.cell? ⟨w.heap.size + 1, 1, none⟩ = some (.int .i64 (p1.2.1)) := Ba1.cell 1
  have k_Ba1_2 : W25.cell? ⟨w.heap.size + 1, 2, none⟩ = some (.int .i64 (p1.2.2.1)) := Ba1.cell 2
  have k_Ba1_3 : W25.cell? ⟨w.heap.size + 1, 3, none⟩ = some (.slice Aa13 na13 ca13) := Ba1.cell 3
  have k_Bs0_0 : W25.cell? ⟨gs, 0, none⟩ = some (.slice As00 (r0.1).length cs00) := Bs0.cell 0
  have k_Bs0_1 : W25.cell? ⟨gs, 1, none⟩ = some (.slice As01 (r0.2).length cs01) := Bs0.cell 1
  have k_Bx0_0 : W25.cell? ⟨W6.heap.size, 0, none⟩ = some (.slice Ax00 (p0.1).length cx00) := Bx0.cell 0
  have k_Bx0_1 : W25.cell? ⟨W6.heap.size, 1, none⟩ = some (.slice Ax01 (p0.2).length cx01) := Bx0.cell 1
  have k_Bx1_0 : W25.cell? ⟨W7.heap.size, 0, none⟩ = some (.int .i64 (p1.1)) := Bx1.cell 0
  have k_Bx1_1 : W25.cell? ⟨W7.heap.size, 1, none⟩ = some (.int .i64 (p1.2.1)) := Bx1.cell 1
  have k_Bx1_2 : W25.cell? ⟨W7.heap.size, 2, none⟩ = some (.int .i64 (p1.2.2.1)) := Bx1.cell 2
  have k_Bx1_3 : W25.cell? ⟨W7.heap.size, 3, none⟩ = some (.slice Ax13 (p1.2.2.2).length cx13) := Bx1.cell 3
  have k_Bg0_0 : W25.cell? ⟨W8.heap.size, 0, none⟩ = some (.slice Ag00 (r0.1).length cg00) := Bg0.cell 0
  have k_Bg0_1 : W25.cell? ⟨W8.heap.size, 1, none⟩ = some (.slice Ag01 (r0.2).length cg01) := Bg0.cell 1
  have k_Bh0_0 : W25.cell? ⟨gh, 0, none⟩ = some (.slice Ah00 (r0.1).length ch00) := Bh0.cell 0
  have k_Bh0_1 : W25.cell? ⟨gh, 1, none⟩ = some (.slice Ah01 (r0.2).length ch01) := Bh0.cell 1
  have Ih0 : ∀ f ∈ Fh0, W22.heap.size + 0 ≤ f ∧ f < W25.heap.size := fun f hf => ⟨Nh.2 f (by simp [hf]), (tDesk).lt o_h0 f hf⟩
  have Ih1 : ∀ f ∈ Fh1, W22.heap.size + 0 ≤ f ∧ f < W25.heap.size := fun f hf => ⟨Nh.2 f (by simp [hf]), (tBy).lt o_h1 f hf⟩
  clear Nh hgF
  clear hsx
  go_wp2_with fail
  refine (o_eqDesk ((tDesk).reach ((tDesk).read o_h0) ?hB) ((tDesk).reach ((tDesk).up r_s0 (by omega : W5.heap.size ≤ W25.heap.size)) ?hB)).mono ?_
  all_goals try (case hB => exact (belx))
  rintro e W26 ⟨rfl, hb_⟩
  clear k_Ba0_0 k_Ba0_1
  clear k_Ba1_0 k_Ba1_1 k_Ba1_2 k_Ba1_3
  clear k_Bs0_0 k_Bs0_1
  clear k_Bx0_0 k_Bx0_1
  clear k_Bx1_0 k_Bx1_1 k_Bx1_2 k_Bx1_3
  clear k_Bg0_0 k_Bg0_1
  clear k_Bh0_0 k_Bh0_1
  have hs26 : Below W25.heap.size W25 W26 := bel_trans (belx) hb_
  have z26 : W25.heap.size + 0 ≤ W26.heap.size := by have := hb_.size; simpa using this
  have hB26 : Below w.heap.size w W26 := bel_trans hB25 hs26
  replace Ba0 := Ba0.below hs26 Ba0.size
  replace Ba1 := Ba1.below hs26 Ba1.size
  replace Bs0 := Bs0.below hs26 Bs0.size
  replace Bx0 := Bx0.below hs26 Bx0.size
  replace Bx1 := Bx1.below hs26 Bx1.size
  replace Bg0 := Bg0.below hs26 Bg0.size
  replace Bh0 := Bh0.below hs26 Bh0.size
  replace o_g0 := Ty.below (t := tDesk) o_g0 hs26
  replace o_g1 := Ty.below (t := tBy) o_g1 hs26
  replace o_h0 := Ty.below (t := tDesk) o_h0 hs26
  replace o_h1 := Ty.below (t := tBy) o_h1 hs26
  replace r_s0 := (tDesk).keep r_s0 (fun b hb => hs26.block b (Nat.lt_of_lt_of_le hb (by omega)))
  replace r_s1 := (tBy).keep r_s1 (fun b hb => hs26.block b (Nat.lt_of_lt_of_le hb (by omega)))
  have k_Ba0_0 : W26.cell? ⟨w.heap.size, 0, none⟩ = some (.slice Aa00 na00 ca00) := Ba0.cell 0
  have k_Ba0_1 : W26.cell? ⟨w.heap.size, 1, none⟩ = some (.slice Aa01 na01 ca01) := Ba0.cell 1
  have k_Ba1_0 : W26.cell? ⟨w.heap.size + 1, 0, none⟩ = some (.int .i64 (p1.1)) := Ba1.cell 0
  have k_Ba1_1 : W26.cell? ⟨w.heap.size + 1, 1, none⟩ = some (.int .i64 (p1.2.1)) := Ba1.cell 1
  have k_Ba1_2 : W26.cell? ⟨w.heap.size + 1, 2, none⟩ = some (.int .i64 (p1.2.2.1)) := Ba1.cell 2
  have k_Ba1_3 : W26.cell? ⟨w.heap.size + 1, 3, none⟩ = some (.slice Aa13 na13 ca13) := Ba1.cell 3
  have k_Bs0_0 : W26.cell? ⟨gs, 0, none⟩ = some (.slice As00 (r0.1).length cs00) := Bs0.cell 0
  have k_Bs0_1 : W26.cell? ⟨gs, 1, none⟩ = some (.slice As01 (r0.2).length cs01) := Bs0.cell 1
  have k_Bx0_0 : W26.cell? ⟨W6.heap.size, 0, none⟩ = some (.slice Ax00 (p0.1).length cx00) := Bx0.cell 0
  have k_Bx0_1 : W26.cell? ⟨W6.heap.size, 1, none⟩ = some (.slice Ax01 (p0.2).length cx01) := Bx0.cell 1
  have k_Bx1_0 : W26.cell? ⟨W7.heap.size, 0, none⟩ = some (.int .i64 (p1.1)) := Bx1.cell 0
  have k_Bx1_1 : W26.cell? ⟨W7.heap.size, 1, none⟩ = some (.int .i64 (p1.2.1)) := Bx1.cell 1
  have k_Bx1_2 : W26.cell? ⟨W7.heap.size, 2, none⟩ = some (.int .i64 (p1.2.2.1)) := Bx1.cell 2
  have k_Bx1_3 : W26.cell? ⟨W7.heap.size, 3, none⟩ = some (.slice Ax13 (p1.2.2.2).length cx13) := Bx1.cell 3
  have k_Bg0_0 : W26.cell? ⟨W8.heap.size, 0, none⟩ = some (.slice Ag00 (r0.1).length cg00) := Bg0.cell 0
  have k_Bg0_1 : W26.cell? ⟨W8.heap.size, 1, none⟩ = some (.slice Ag01 (r0.2).length cg01) := Bg0.cell 1
  have k_Bh0_0 : W26.cell? ⟨gh, 0, none⟩ = some (.slice Ah00 (r0.1).length ch00) := Bh0.cell 0
  have k_Bh0_1 : W26.cell? ⟨gh, 1, none⟩ = some (.slice Ah01 (r0.2).length ch01) := Bh0.cell 1
  clear hb_
  go_wp2_with fail
  refine (o_eqByteS ((tBy).reach ((tBy).read o_h1) ?hB) ((tBy).reach ((tBy).up r_s1 (by omega : W5.heap.size ≤ W26.heap.size)) ?hB)).mono ?_
  all_goals try (case hB => exact (belx))
  rintro e W27 ⟨rfl, hb_⟩
  clear k_Ba0_0 k_Ba0_1
  clear k_Ba1_0 k_Ba1_1 k_Ba1_2 k_Ba1_3
  clear k_Bs0_0 k_Bs0_1
  clear k_Bx0_0 k_Bx0_1
  clear k_Bx1_0 k_Bx1_1 k_Bx1_2 k_Bx1_3
  clear k_Bg0_0 k_Bg0_1
  clear k_Bh0_0 k_Bh0_1
  have hs27 : Below W26.heap.size W26 W27 := bel_trans (belx) hb_
  have z27 : W26.heap.size + 0 ≤ W27.heap.size := by have := hb_.size; simpa using this
  have hB27 : Below w.heap.size w W27 := bel_trans hB26 hs27
  replace Ba0 := Ba0.below hs27 Ba0.size
  replace Ba1 := Ba1.below hs27 Ba1.size
  replace Bs0 := Bs0.below hs27 Bs0.size
  replace Bx0 := Bx0.below hs27 Bx0.size
  replace Bx1 := Bx1.below hs27 Bx1.size
  replace Bg0 := Bg0.below hs27 Bg0.size
  replace Bh0 := Bh0.below hs27 Bh0.size
  replace o_g0 := Ty.below (t := tDesk) o_g0 hs27
  replace o_g1 := Ty.below (t := tBy) o_g1 hs27
  replace o_h0 := Ty.below (t := tDesk) o_h0 hs27
  replace o_h1 := Ty.below (t := tBy) o_h1 hs27
  replace r_s0 := (tDesk).keep r_s0 (fun b hb => hs27.block b (Nat.lt_of_lt_of_le hb (by omega)))
  replace r_s1 := (tBy).keep r_s1 (fun b hb => hs27.block b (Nat.lt_of_lt_of_le hb (by omega)))
  have k_Ba0_0 : W27.cell? ⟨w.heap.size, 0, none⟩ = some (.slice Aa00 na00 ca00) := Ba0.cell 0
  have k_Ba0_1 : W27.cell? ⟨w.heap.size, 1, none⟩ = some (.slice Aa01 na01 ca01) := Ba0.cell 1
  have k_Ba1_0 : W27.cell? ⟨w.heap.size + 1, 0, none⟩ = some (.int .i64 (p1.1)) := Ba1.cell 0
  have k_Ba1_1 : W27.cell? ⟨w.heap.size + 1, 1, none⟩ = some (.int .i64 (p1.2.1)) := Ba1.cell 1
  have k_Ba1_2 : W27.cell? ⟨w.heap.size + 1, 2, none⟩ = some (.int .i64 (p1.2.2.1)) := Ba1.cell 2
  have k_Ba1_3 : W27.cell? ⟨w.heap.size + 1, 3, none⟩ = some (.slice Aa13 na13 ca13) := Ba1.cell 3
  have k_Bs0_0 : W27.cell? ⟨gs, 0, none⟩ = some (.slice As00 (r0.1).length cs00) := Bs0.cell 0
  have k_Bs0_1 : W27.cell? ⟨gs, 1, none⟩ = some (.slice As01 (r0.2).length cs01) := Bs0.cell 1
  have k_Bx0_0 : W27.cell? ⟨W6.heap.size, 0, none⟩ = some (.slice Ax00 (p0.1).length cx00) := Bx0.cell 0
  have k_Bx0_1 : W27.cell? ⟨W6.heap.size, 1, none⟩ = some (.slice Ax01 (p0.2).length cx01) := Bx0.cell 1
  have k_Bx1_0 : W27.cell? ⟨W7.heap.size, 0, none⟩ = some (.int .i64 (p1.1)) := Bx1.cell 0
  have k_Bx1_1 : W27.cell? ⟨W7.heap.size, 1, none⟩ = some (.int .i64 (p1.2.1)) := Bx1.cell 1
  have k_Bx1_2 : W27.cell? ⟨W7.heap.size, 2, none⟩ = some (.int .i64 (p1.2.2.1)) := Bx1.cell 2
  have k_Bx1_3 : W27.cell? ⟨W7.heap.size, 3, none⟩ = some (.slice Ax13 (p1.2.2.2).length cx13) := Bx1.cell 3
  have k_Bg0_0 : W27.cell? ⟨W8.heap.size, 0, none⟩ = some (.slice Ag00 (r0.1).length cg00) := Bg0.cell 0
  have k_Bg0_1 : W27.cell? ⟨W8.heap.size, 1, none⟩ = some (.slice Ag01 (r0.2).length cg01) := Bg0.cell 1
  have k_Bh0_0 : W27.cell? ⟨gh, 0, none⟩ = some (.slice Ah00 (r0.1).length ch00) := Bh0.cell 0
  have k_Bh0_1 : W27.cell? ⟨gh, 1, none⟩ = some (.slice Ah01 (r0.2).length ch01) := Bh0.cell 1
  clear hb_
  go_wp2_with fail
  refine (o_heldDesk (1) ((tDesk).reach ((tDesk).read o_g0) ?hB) (by omega) (by omega)).mono ?_
  all_goals try (case hB => exact (belx))
  rintro e W28 ⟨rfl, hb_⟩
  clear k_Ba0_0 k_Ba0_1
  clear k_Ba1_0 k_Ba1_1 k_Ba1_2 k_Ba1_3
  clear k_Bs0_0 k_Bs0_1
  clear k_Bx0_0 k_Bx0_1
  clear k_Bx1_0 k_Bx1_1 k_Bx1_2 k_Bx1_3
  clear k_Bg0_0 k_Bg0_1
  clear k_Bh0_0 k_Bh0_1
  have hs28 : Below W27.heap.size W27 W28 := bel_trans (belx) hb_
  have z28 : W27.heap.size + 0 ≤ W28.heap.size := by have := hb_.size; simpa using this
  have hB28 : Below w.heap.size w W28 := bel_trans hB27 hs28
  replace Ba0 := Ba0.below hs28 Ba0.size
  replace Ba1 := Ba1.below hs28 Ba1.size
  replace Bs0 := Bs0.below hs28 Bs0.size
  replace Bx0 := Bx0.below hs28 Bx0.size
  replace Bx1 := Bx1.below hs28 Bx1.size
  replace Bg0 := Bg0.below hs28 Bg0.size
  replace Bh0 := Bh0.below hs28 Bh0.size
  replace o_g0 := Ty.below (t := tDesk) o_g0 hs28
  replace o_g1 := Ty.below (t := tBy) o_g1 hs28
  replace o_h0 := Ty.below (t := tDesk) o_h0 hs28
  replace o_h1 := Ty.below (t := tBy) o_h1 hs28
  replace r_s0 := (tDesk).keep r_s0 (fun b hb => hs28.block b (Nat.lt_of_lt_of_le hb (by omega)))
  replace r_s1 := (tBy).keep r_s1 (fun b hb => hs28.block b (Nat.lt_of_lt_of_le hb (by omega)))
  have k_Ba0_0 : W28.cell? ⟨w.heap.size, 0, none⟩ = some (.slice Aa00 na00 ca00) := Ba0.cell 0
  have k_Ba0_1 : W28.cell? ⟨w.heap.size, 1, none⟩ = some (.slice Aa01 na01 ca01) := Ba0.cell 1
  have k_Ba1_0 : W28.cell? ⟨w.heap.size + 1, 0, none⟩ = some (.int .i64 (p1.1)) := Ba1.cell 0
  have k_Ba1_1 : W28.cell? ⟨w.heap.size + 1, 1, none⟩ = some (.int .i64 (p1.2.1)) := Ba1.cell 1
  have k_Ba1_2 : W28.cell? ⟨w.heap.size + 1, 2, none⟩ = some (.int .i64 (p1.2.2.1)) := Ba1.cell 2
  have k_Ba1_3 : W28.cell? ⟨w.heap.size + 1, 3, none⟩ = some (.slice Aa13 na13 ca13) := Ba1.cell 3
  have k_Bs0_0 : W28.cell? ⟨gs, 0, none⟩ = some (.slice As00 (r0.1).length cs00) := Bs0.cell 0
  have k_Bs0_1 : W28.cell? ⟨gs, 1, none⟩ = some (.slice As01 (r0.2).length cs01) := Bs0.cell 1
  have k_Bx0_0 : W28.cell? ⟨W6.heap.size, 0, none⟩ = some (.slice Ax00 (p0.1).length cx00) := Bx0.cell 0
  have k_Bx0_1 : W28.cell? ⟨W6.heap.size, 1, none⟩ = some (.slice Ax01 (p0.2).length cx01) := Bx0.cell 1
  have k_Bx1_0 : W28.cell? ⟨W7.heap.size, 0, none⟩ = some (.int .i64 (p1.1)) := Bx1.cell 0
  have k_Bx1_1 : W28.cell? ⟨W7.heap.size, 1, none⟩ = some (.int .i64 (p1.2.1)) := Bx1.cell 1
  have k_Bx1_2 : W28.cell? ⟨W7.heap.size, 2, none⟩ = some (.int .i64 (p1.2.2.1)) := Bx1.cell 2
  have k_Bx1_3 : W28.cell? ⟨W7.heap.size, 3, none⟩ = some (.slice Ax13 (p1.2.2.2).length cx13) := Bx1.cell 3
  have k_Bg0_0 : W28.cell? ⟨W8.heap.size, 0, none⟩ = some (.slice Ag00 (r0.1).length cg00) := Bg0.cell 0
  have k_Bg0_1 : W28.cell? ⟨W8.heap.size, 1, none⟩ = some (.slice Ag01 (r0.2).length cg01) := Bg0.cell 1
  have k_Bh0_0 : W28.cell? ⟨gh, 0, none⟩ = some (.slice Ah00 (r0.1).length ch00) := Bh0.cell 0
  have k_Bh0_1 : W28.cell? ⟨gh, 1, none⟩ = some (.slice Ah01 (r0.2).length ch01) := Bh0.cell 1
  clear hb_
  go_wp2_with fail
  refine (o_heldByteS (1 + ((cntDesk (r0) : Nat) : Int)) ((tBy).reach ((tBy).read o_g1) ?hB) (by omega) (by omega)).mono ?_
  all_goals try (case hB => exact (belx))
  rintro e W29 ⟨rfl, hb_⟩
  clear k_Ba0_0 k_Ba0_1
  clear k_Ba1_0 k_Ba1_1 k_Ba1_2 k_Ba1_3
  clear k_Bs0_0 k_Bs0_1
  clear k_Bx0_0 k_Bx0_1
  clear k_Bx1_0 k_Bx1_1 k_Bx1_2 k_Bx1_3
  clear k_Bg0_0 k_Bg0_1
  clear k_Bh0_0 k_Bh0_1
  have hs29 : Below W28.heap.size W28 W29 := bel_trans (belx) hb_
  have z29 : W28.heap.size + 0 ≤ W29.heap.size := by have := hb_.size; simpa using this
  have hB29 : Below w.heap.size w W29 := bel_trans hB28 hs29
  replace Ba0 := Ba0.below hs29 Ba0.size
  replace Ba1 := Ba1.below hs29 Ba1.size
  replace Bs0 := Bs0.below hs29 Bs0.size
  replace Bx0 := Bx0.below hs29 Bx0.size
  replace Bx1 := Bx1.below hs29 Bx1.size
  replace Bg0 := Bg0.below hs29 Bg0.size
  replace Bh0 := Bh0.below hs29 Bh0.size
  replace o_g0 := Ty.below (t := tDesk) o_g0 hs29
  replace o_g1 := Ty.below (t := tBy) o_g1 hs29
  replace o_h0 := Ty.below (t := tDesk) o_h0 hs29
  replace o_h1 := Ty.below (t := tBy) o_h1 hs29
  replace r_s0 := (tDesk).keep r_s0 (fun b hb => hs29.block b (Nat.lt_of_lt_of_le hb (by omega)))
  replace r_s1 := (tBy).keep r_s1 (fun b hb => hs29.block b (Nat.lt_of_lt_of_le hb (by omega)))
  have k_Ba0_0 : W29.cell? ⟨w.heap.size, 0, none⟩ = some (.slice Aa00 na00 ca00) := Ba0.cell 0
  have k_Ba0_1 : W29.cell? ⟨w.heap.size, 1, none⟩ = some (.slice Aa01 na01 ca01) := Ba0.cell 1
  have k_Ba1_0 : W29.cell? ⟨w.heap.size + 1, 0, none⟩ = some (.int .i64 (p1.1)) := Ba1.cell 0
  have k_Ba1_1 : W29.cell? ⟨w.heap.size + 1, 1, none⟩ = some (.int .i64 (p1.2.1)) := Ba1.cell 1
  have k_Ba1_2 : W29.cell? ⟨w.heap.size + 1, 2, none⟩ = some (.int .i64 (p1.2.2.1)) := Ba1.cell 2
  have k_Ba1_3 : W29.cell? ⟨w.heap.size + 1, 3, none⟩ = some (.slice Aa13 na13 ca13) := Ba1.cell 3
  have k_Bs0_0 : W29.cell? ⟨gs, 0, none⟩ = some (.slice As00 (r0.1).length cs00) := Bs0.cell 0
  have k_Bs0_1 : W29.cell? ⟨gs, 1, none⟩ = some (.slice As01 (r0.2).length cs01) := Bs0.cell 1
  have k_Bx0_0 : W29.cell? ⟨W6.heap.size, 0, none⟩ = some (.slice Ax00 (p0.1).length cx00) := Bx0.cell 0
  have k_Bx0_1 : W29.cell? ⟨W6.heap.size, 1, none⟩ = some (.slice Ax01 (p0.2).length cx01) := Bx0.cell 1
  have k_Bx1_0 : W29.cell? ⟨W7.heap.size, 0, none⟩ = some (.int .i64 (p1.1)) := Bx1.cell 0
  have k_Bx1_1 : W29.cell? ⟨W7.heap.size, 1, none⟩ = some (.int .i64 (p1.2.1)) := Bx1.cell 1
  have k_Bx1_2 : W29.cell? ⟨W7.heap.size, 2, none⟩ = some (.int .i64 (p1.2.2.1)) := Bx1.cell 2
  have k_Bx1_3 : W29.cell? ⟨W7.heap.size, 3, none⟩ = some (.slice Ax13 (p1.2.2.2).length cx13) := Bx1.cell 3
  have k_Bg0_0 : W29.cell? ⟨W8.heap.size, 0, none⟩ = some (.slice Ag00 (r0.1).length cg00) := Bg0.cell 0
  have k_Bg0_1 : W29.cell? ⟨W8.heap.size, 1, none⟩ = some (.slice Ag01 (r0.2).length cg01) := Bg0.cell 1
  have k_Bh0_0 : W29.cell? ⟨gh, 0, none⟩ = some (.slice Ah00 (r0.1).length ch00) := Bh0.cell 0
  have k_Bh0_1 : W29.cell? ⟨gh, 1, none⟩ = some (.slice Ah01 (r0.2).length ch01) := Bh0.cell 1
  clear hb_
  go_wp2_with fail
  go_ret
  exact ⟨rfl, hB29⟩

/-! ### THE ROW's STEP -/
set_option maxHeartbeats 400000 in
set_option maxRecDepth 100000 in
theorem lifted (os : Os) (started : os.Started) (H : Type) (enc : TypeId × Value → H) :
    ReturnsInHanded {} Tryz.checked os 3 .any (Rows.fnExactTakePieceSpec.pre6 enc Tryz.prog Tryz.f3 Rows.fnExactTakePieceRow.domain false) (Rows.fnExactTakePieceSpec.post enc Tryz.prog Tryz.f3 false true false false) := by
  refine returnsInHanded_of_change (C := Tryz.checked) own started (by kernel_rfl) Tryz.func3
    (ChangeSpec.witness6 (enc := enc) (C := Tryz.checked) false ⟨#[], #[.agg #[.slice none 0 0, .slice none 0 0], .agg #[.int .i64 0, .int .i64 0, .int .i64 0, .slice none 0 0], .int .i64 0], []⟩ 8 (by kernel_rfl) (by kernel_rfl) (by kernel_rfl) (by kernel_rfl)) ?_
  intro W base args ds gs before hval0 hW hcnd _
  have hval : ∀ (j : Nat) t v, Tryz.f3.params[j]? = some t → args[j]? = some v → Value.okWide Tryz.prog W .any base t v := hval0
  have hW' := hW
  obtain ⟨p, q, hA0, hV, rfl, hfz, hnd⟩ := hW
  have hA : DataW.TrodAll enc Tryz.prog W 0 (fun _ => true) true Tryz.f3.params.toList args.toList ds p := hA0
  rw [Tryz.params3] at hA hval
  obtain ⟨v0, vs0, d0, ds0, p0, q0, hargs, rfl, rfl, h0, r0⟩ := trodAll_cons hA
  obtain ⟨v1, vs1, d1, ds1, p1, q1, rfl, rfl, rfl, h1, r1⟩ := trodAll_cons r0
  obtain ⟨v2, vs2, d2, ds2, p2, q2, rfl, rfl, rfl, h2, r2⟩ := trodAll_cons r1
  obtain ⟨rfl, rfl, rfl⟩ := trodAll_nil r2
  obtain rfl : args = #[v0, v1, v2] := by cases args; simp_all
  obtain ⟨rfl, rfl⟩ := trodVars_none hV
  obtain ⟨cs0, rfl, hsz0⟩ := okWide_struct Tryz.underlying25 (hval 0 25 v0 rfl rfl)
  have k0 := h0
  have lt0 : ∀ x ∈ p0, x.block < W.heap.size := by obtain ⟨m, hm⟩ := k0; exact DataW.trod_lt m _ _ _ hm
  obtain ⟨x0, w0⟩ : ∃ a, tDesk.R W W.heap.size cs0.toList a := by
    obtain ⟨fuel, hf⟩ := h0
    exact frR_Desk fuel _ _ (by simpa [Value.cells] using hf)
  obtain ⟨cs1, rfl, hsz1⟩ := okWide_struct Tryz.underlying28 (hval 1 28 v1 rfl rfl)
  have k1 := h1
  have lt1 : ∀ x ∈ p1, x.block < W.heap.size := by obtain ⟨m, hm⟩ := k1; exact DataW.trod_lt m _ _ _ hm
  obtain ⟨x1, w1⟩ : ∃ a, tPiece.R W W.heap.size cs1.toList a := by
    obtain ⟨fuel, hf⟩ := h1
    exact frR_Piece fuel _ _ (by simpa [Value.cells] using hf)
  obtain ⟨a2, rfl, rfl, rfl, w2⟩ := open_int Tryz.underlying3 (hval 2 3 v2 rfl rfl) h2
  clear hA0 hval0
  refine (walk cs0 x0 cs1 x1 a2 W w0 w1 w2).mono fun e W' ⟨he, bel⟩ => ?_
  subst he
  exact ⟨_, rfl, _, _, _, [], _, [], hW', trodAll_mk1 (shut_bool Tryz.underlying4 _), (trodAll_cons_mk (Below.trod laidOut (by kernel_rfl) (of_decide_eq_true (by kernel_rfl)) k0 bel lt0) (trodAll_cons_mk (Below.trod laidOut (by kernel_rfl) (of_decide_eq_true (by kernel_rfl)) k1 bel lt1) (trodAll_cons_mk (shut_int Tryz.underlying3 w2) trodAll_mk0))), rfl, bel.frame _, fun h => by cases h⟩

theorem over : Rows.fnExactTakePieceRow.holds Tryz.pinned (OpenSpec.ofChange Rows.fnExactTakePieceSpec) :=
  OpenClaim.holds_of_wide 3 Tryz.f3 rfl rfl rfl rfl rfl rfl rfl ⟨rfl, rfl, rfl, rfl, rfl⟩ rfl rfl rfl rfl rfl named_fnExactTakePiece Tryz.func3 closed_fnExactTakePiece
    (of_decide_eq_true (by kernel_rfl)) (by unfold Func.isWrapper; first | (rw [if_pos (by decide +kernel)]; kernel_rfl) | (rw [if_neg (by decide +kernel)]; exact ⟨rfl, rfl⟩))
    (fun os started H enc _ => lifted os started H enc)

theorem proved : Rows.FnExactTakePieceSaid := over
#print axioms proved
end Go.Proofs.YtaabmaoldhoinaaGreat.fnExactTakePiece
