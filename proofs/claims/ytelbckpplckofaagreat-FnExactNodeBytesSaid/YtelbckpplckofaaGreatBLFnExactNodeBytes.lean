/-
  For every argument (in all at most 2^20 elements) the program's NodeBytes answers as its model does, in every field, writes into no argument, and its answer owns its memory. No further condition.
-/
import Derived.Test.YtelbckpplckofaaGreatBGc
import Derived.Test.YtelbckpplckofaaGreatBGf
import Derived.Test.YtelbckpplckofaaGreatBMFr
import Derived.Test.YtelbckpplckofaaGreatCloFnExactNodeBytes
import Derived.Test.YtelbckpplckofaaGreatRows
import Derived.Below
import Derived.ChangeOld
import Derived.Deep.RegionHeld3
import Derived.OpenShut
import Derived.ProofKit
import Derived.ShutString
import Derived.WalkKit
namespace Go.Proofs.YtelbckpplckofaaGreat.fnExactNodeBytes
open Go.ChangeShapes Go.WideShapes Go.ChangeAt Go.RowKit
open Go.ChangeMaps (open_string shut_string)
set_option linter.unusedVariables false

open Go.Proofs.YtelbckpplckofaaGreat
theorem own : ownKnob Tryz.prog.godebug = none := by kernel_rfl
theorem laidOut : laidOutB Tryz.prog = true := by kernel_rfl



/-! ### STEP 1: the walk -/
set_option maxRecDepth 100000 in
set_option maxHeartbeats 2000000 in
theorem walk (cs0 : Array Value) (p0 : DNode) (w : World) (h0 : tNode.R w w.heap.size cs0.toList p0) :
    Calls Tryz.prog 4 #[.agg cs0] w fun e w' => e = .returned (.bool true) ∧ Below w.heap.size w w' := by
  obtain ⟨cs0⟩ := cs0
  replace h0 : tNode.R w w.heap.size cs0 p0 := h0
  obtain ⟨Aa02, na02, ca02, Aa03, na03, ca03, Aa04, na04, ca04, Aa05, na05, ca05, Aa06, na06, ca06, rfl, -, -, -, -, -, -, -, -, -, -, -, -, -, -, -, -, -, -, -, -, -, -⟩ := openNode h0
  by_cases hz0 : szNode (p0) ≤ 1048576
  rotate_left
  · go_enter Tryz.func4, Tryz.ntmps4
    go_wp2_with fail
    refine (o_szNode_f ((tNode).reach h0 ?hB) (by omega) (by omega) (by omega)).mono ?_
    all_goals try (case hB => exact (belx))
    rintro e W1 ⟨rfl, hb_⟩
    have hs1 : Below w.heap.size w W1 := bel_trans (belx) hb_
    have z1 : w.heap.size + 1 ≤ W1.heap.size := by have := hb_.size; simpa using this
    have hB1 : Below w.heap.size w W1 := hs1
    have Ba0 : Box W1 (w.heap.size) 31 #[.int .i64 (p0.1), .int .i64 (p0.2.1), .slice Aa02 na02 ca02, .slice Aa03 na03 ca03, .slice Aa04 na04 ca04, .slice Aa05 na05 ca05, .slice Aa06 na06 ca06] := Box.below (Box.new _ _ _) hb_ (by first | (simp; done) | (simp; omega))
    have k_Ba0_0 : W1.cell? ⟨w.heap.size, 0, none⟩ = some (.int .i64 (p0.1)) := Ba0.cell 0
    have k_Ba0_1 : W1.cell? ⟨w.heap.size, 1, none⟩ = some (.int .i64 (p0.2.1)) := Ba0.cell 1
    have k_Ba0_2 : W1.cell? ⟨w.heap.size, 2, none⟩ = some (.slice Aa02 na02 ca02) := Ba0.cell 2
    have k_Ba0_3 : W1.cell? ⟨w.heap.size, 3, none⟩ = some (.slice Aa03 na03 ca03) := Ba0.cell 3
    have k_Ba0_4 : W1.cell? ⟨w.heap.size, 4, none⟩ = some (.slice Aa04 na04 ca04) := Ba0.cell 4
    have k_Ba0_5 : W1.cell? ⟨w.heap.size, 5, none⟩ = some (.slice Aa05 na05 ca05) := Ba0.cell 5
    have k_Ba0_6 : W1.cell? ⟨w.heap.size, 6, none⟩ = some (.slice Aa06 na06 ca06) := Ba0.cell 6
    go_wp2
    go_ret
    exact ⟨rfl, hB1⟩
  have dz0 : decide ((1048576 : Int) - ((szNode (p0) : Nat) : Int) < 0) = false := by simp; omega
  have hzr0 : (fNdB p0).length ≤ 1048576 := (by have := fNdB_le p0; omega)
  obtain ⟨r0, hr0⟩ : ∃ r, fNdB p0 = r := ⟨_, rfl⟩
  have HR0 := Lib.hid hr0
  rw [hr0] at hzr0
  clear hr0
  obtain ⟨r1, hr1⟩ : ∃ r, decide (NdOk p0) = r := ⟨_, rfl⟩
  have HR1 := Lib.hid hr1
  have qr1 : (r1 != r1) = false := by simp
  clear hr1
  have hcp0 := cntNode_le (p0)
  go_enter Tryz.func4, Tryz.ntmps4
  go_wp2_with fail
  refine (o_szNode_t ((tNode).reach h0 ?hB) (by omega) (by omega) (by omega)).mono ?_
  all_goals try (case hB => exact (belx))
  rintro e W1 ⟨rfl, hb_⟩
  have hs1 : Below w.heap.size w W1 := bel_trans (belx) hb_
  have z1 : w.heap.size + 1 ≤ W1.heap.size := by have := hb_.size; simpa using this
  have hB1 : Below w.heap.size w W1 := hs1
  have Ba0 : Box W1 (w.heap.size) 31 #[.int .i64 (p0.1), .int .i64 (p0.2.1), .slice Aa02 na02 ca02, .slice Aa03 na03 ca03, .slice Aa04 na04 ca04, .slice Aa05 na05 ca05, .slice Aa06 na06 ca06] := Box.below (Box.new _ _ _) hb_ (by first | (simp; done) | (simp; omega))
  have k_Ba0_0 : W1.cell? ⟨w.heap.size, 0, none⟩ = some (.int .i64 (p0.1)) := Ba0.cell 0
  have k_Ba0_1 : W1.cell? ⟨w.heap.size, 1, none⟩ = some (.int .i64 (p0.2.1)) := Ba0.cell 1
  have k_Ba0_2 : W1.cell? ⟨w.heap.size, 2, none⟩ = some (.slice Aa02 na02 ca02) := Ba0.cell 2
  have k_Ba0_3 : W1.cell? ⟨w.heap.size, 3, none⟩ = some (.slice Aa03 na03 ca03) := Ba0.cell 3
  have k_Ba0_4 : W1.cell? ⟨w.heap.size, 4, none⟩ = some (.slice Aa04 na04 ca04) := Ba0.cell 4
  have k_Ba0_5 : W1.cell? ⟨w.heap.size, 5, none⟩ = some (.slice Aa05 na05 ca05) := Ba0.cell 5
  have k_Ba0_6 : W1.cell? ⟨w.heap.size, 6, none⟩ = some (.slice Aa06 na06 ca06) := Ba0.cell 6
  clear hb_
  go_wp2_with fail
  refine (o_toNode ((tNode).reach ((tNode).reach h0 hB1) ?hB) (by omega)).mono ?_
  all_goals try (case hB => exact (belx))
  rintro e W2 ⟨csy0, Fy0, rfl, o_y0, Ny0, hb_⟩
  clear k_Ba0_0 k_Ba0_1 k_Ba0_2 k_Ba0_3 k_Ba0_4 k_Ba0_5 k_Ba0_6
  have Iy0 : ∀ f ∈ Fy0, W1.heap.size + 0 ≤ f ∧ f < W2.heap.size := fun f hf => ⟨Nat.le_trans (by first | (simp; done) | (simp; omega)) (Ny0.2 f hf), (tNode).lt o_y0 f hf⟩
  have Dy0 := Ny0.1
  clear Ny0
  obtain ⟨Ay02, cy02, Fy02, Ay03, cy03, Fy03, Ay04, cy04, Fy04, Ay05, cy05, Fy05, Ay06, cy06, Fy06, rfl, -, -, -, -, -, -, -, -, -, -, -, -, -, -, -, -, -, -⟩ := openONode o_y0
  have hs2 : Below W1.heap.size W1 W2 := bel_trans (belx) hb_
  have z2 : W1.heap.size + 0 ≤ W2.heap.size := by have := hb_.size; simpa using this
  have hB2 : Below w.heap.size w W2 := bel_trans hB1 hs2
  replace Ba0 := Ba0.below hs2 Ba0.size
  have k_Ba0_0 : W2.cell? ⟨w.heap.size, 0, none⟩ = some (.int .i64 (p0.1)) := Ba0.cell 0
  have k_Ba0_1 : W2.cell? ⟨w.heap.size, 1, none⟩ = some (.int .i64 (p0.2.1)) := Ba0.cell 1
  have k_Ba0_2 : W2.cell? ⟨w.heap.size, 2, none⟩ = some (.slice Aa02 na02 ca02) := Ba0.cell 2
  have k_Ba0_3 : W2.cell? ⟨w.heap.size, 3, none⟩ = some (.slice Aa03 na03 ca03) := Ba0.cell 3
  have k_Ba0_4 : W2.cell? ⟨w.heap.size, 4, none⟩ = some (.slice Aa04 na04 ca04) := Ba0.cell 4
  have k_Ba0_5 : W2.cell? ⟨w.heap.size, 5, none⟩ = some (.slice Aa05 na05 ca05) := Ba0.cell 5
  have k_Ba0_6 : W2.cell? ⟨w.heap.size, 6, none⟩ = some (.slice Aa06 na06 ca06) := Ba0.cell 6
  clear hb_
  go_wp2_with fail
  refine (s_NodeBytes ((tNode).reach ((tNode).read o_y0) ?hB) (by omega)).mono ?_
  all_goals try (case hB => exact (belx))
  rintro e W3 ⟨As0, cs0, rfl, r_s0, hb_⟩
  clear k_Ba0_0 k_Ba0_1 k_Ba0_2 k_Ba0_3 k_Ba0_4 k_Ba0_5 k_Ba0_6
  clear o_y0 Iy0 Dy0
  rw [HR0.out] at r_s0
  rw [HR0.out]
  rw [HR1.out]
  have hs3 : Below W2.heap.size W2 W3 := bel_trans (belx) hb_
  have z3 : W2.heap.size + 0 ≤ W3.heap.size := by have := hb_.size; simpa using this
  have hB3 : Below w.heap.size w W3 := bel_trans hB2 hs3
  replace Ba0 := Ba0.below hs3 Ba0.size
  have k_Ba0_0 : W3.cell? ⟨w.heap.size, 0, none⟩ = some (.int .i64 (p0.1)) := Ba0.cell 0
  have k_Ba0_1 : W3.cell? ⟨w.heap.size, 1, none⟩ = some (.int .i64 (p0.2.1)) := Ba0.cell 1
  have k_Ba0_2 : W3.cell? ⟨w.heap.size, 2, none⟩ = some (.slice Aa02 na02 ca02) := Ba0.cell 2
  have k_Ba0_3 : W3.cell? ⟨w.heap.size, 3, none⟩ = some (.slice Aa03 na03 ca03) := Ba0.cell 3
  have k_Ba0_4 : W3.cell? ⟨w.heap.size, 4, none⟩ = some (.slice Aa04 na04 ca04) := Ba0.cell 4
  have k_Ba0_5 : W3.cell? ⟨w.heap.size, 5, none⟩ = some (.slice Aa05 na05 ca05) := Ba0.cell 5
  have k_Ba0_6 : W3.cell? ⟨w.heap.size, 6, none⟩ = some (.slice Aa06 na06 ca06) := Ba0.cell 6
  clear hb_
  go_wp2_with fail
  refine (o_toNode ((tNode).reach ((tNode).reach h0 hB3) ?hB) (by omega)).mono ?_
  all_goals try (case hB => exact (belx))
  rintro e W4 ⟨csx0, Fx0, rfl, o_x0, Nx0, hb_⟩
  clear k_Ba0_0 k_Ba0_1 k_Ba0_2 k_Ba0_3 k_Ba0_4 k_Ba0_5 k_Ba0_6
  have Ix0 : ∀ f ∈ Fx0, W3.heap.size + 0 ≤ f ∧ f < W4.heap.size := fun f hf => ⟨Nat.le_trans (by first | (simp; done) | (simp; omega)) (Nx0.2 f hf), (tNode).lt o_x0 f hf⟩
  have Dx0 := Nx0.1
  clear Nx0
  obtain ⟨Ax02, cx02, Fx02, Ax03, cx03, Fx03, Ax04, cx04, Fx04, Ax05, cx05, Fx05, Ax06, cx06, Fx06, rfl, -, -, -, -, -, -, -, -, -, -, -, -, -, -, -, -, -, -⟩ := openONode o_x0
  have hs4 : Below W3.heap.size W3 W4 := bel_trans (belx) hb_
  have z4 : W3.heap.size + 0 ≤ W4.heap.size := by have := hb_.size; simpa using this
  have hB4 : Below w.heap.size w W4 := bel_trans hB3 hs4
  replace Ba0 := Ba0.below hs4 Ba0.size
  replace r_s0 := (tBy).keep r_s0 (fun b hb => hs4.block b (Nat.lt_of_lt_of_le hb (by omega)))
  have k_Ba0_0 : W4.cell? ⟨w.heap.size, 0, none⟩ = some (.int .i64 (p0.1)) := Ba0.cell 0
  have k_Ba0_1 : W4.cell? ⟨w.heap.size, 1, none⟩ = some (.int .i64 (p0.2.1)) := Ba0.cell 1
  have k_Ba0_2 : W4.cell? ⟨w.heap.size, 2, none⟩ = some (.slice Aa02 na02 ca02) := Ba0.cell 2
  have k_Ba0_3 : W4.cell? ⟨w.heap.size, 3, none⟩ = some (.slice Aa03 na03 ca03) := Ba0.cell 3
  have k_Ba0_4 : W4.cell? ⟨w.heap.size, 4, none⟩ = some (.slice Aa04 na04 ca04) := Ba0.cell 4
  have k_Ba0_5 : W4.cell? ⟨w.heap.size, 5, none⟩ = some (.slice Aa05 na05 ca05) := Ba0.cell 5
  have k_Ba0_6 : W4.cell? ⟨w.heap.size, 6, none⟩ = some (.slice Aa06 na06 ca06) := Ba0.cell 6
  clear hb_
  have d_Ba0_0 : (W4.alloc (.cells #[.int .i64 (p0.1), .int .i64 (p0.2.1), .slice Ax02 (p0.2.2.1.1).length cx02, .slice Ax03 (p0.2.2.1.2).length cx03, .slice Ax04 (p0.2.2.2.1.1).length cx04, .slice Ax05 (p0.2.2.2.1.2).length cx05, .slice Ax06 (p0.2.2.2.2).length cx06] 45)).cell? ⟨w.heap.size, 0, none⟩ = some (.int .i64 (p0.1)) := (Ba0.alloc _).cell 0
  have d_Ba0_1 : (W4.alloc (.cells #[.int .i64 (p0.1), .int .i64 (p0.2.1), .slice Ax02 (p0.2.2.1.1).length cx02, .slice Ax03 (p0.2.2.1.2).length cx03, .slice Ax04 (p0.2.2.2.1.1).length cx04, .slice Ax05 (p0.2.2.2.1.2).length cx05, .slice Ax06 (p0.2.2.2.2).length cx06] 45)).cell? ⟨w.heap.size, 1, none⟩ = some (.int .i64 (p0.2.1)) := (Ba0.alloc _).cell 1
  have d_Ba0_2 : (W4.alloc (.cells #[.int .i64 (p0.1), .int .i64 (p0.2.1), .slice Ax02 (p0.2.2.1.1).length cx02, .slice Ax03 (p0.2.2.1.2).length cx03, .slice Ax04 (p0.2.2.2.1.1).length cx04, .slice Ax05 (p0.2.2.2.1.2).length cx05, .slice Ax06 (p0.2.2.2.2).length cx06] 45)).cell? ⟨w.heap.size, 2, none⟩ = some (.slice Aa02 na02 ca02) := (Ba0.alloc _).cell 2
  have d_Ba0_3 : (W4.alloc (.cells #[.int .i64 (p0.1), .int .i64 (p0.2.1), .slice Ax02 (p0.2.2.1.1).length cx02, .slice Ax03 (p0.2.2.1.2).length cx03, .slice Ax04 (p0.2.2.2.1.1).length cx04, .slice Ax05 (p0.2.2.2.1.2).length cx05, .slice Ax06 (p0.2.2.2.2).length cx06] 45)).cell? ⟨w.heap.size, 3, none⟩ = some (.slice Aa03 na03 ca03) := (Ba0.alloc _).cell 3
  have d_Ba0_4 : (W4.alloc (.cells #[.int .i64 (p0.1), .int .i64 (p0.2.1), .slice Ax02 (p0.2.2.1.1).length cx02, .slice Ax03 (p0.2.2.1.2).length cx03, .slice Ax04 (p0.2.2.2.1.1).length cx04, .slice Ax05 (p0.2.2.2.1.2).length cx05, .slice Ax06 (p0.2.2.2.2).length cx06] 45)).cell? ⟨w.heap.size, 4, none⟩ = some (.slice Aa04 na04 ca04) := (Ba0.alloc _).cell 4
  have d_Ba0_5 : (W4.alloc (.cells #[.int .i64 (p0.1), .int .i64 (p0.2.1), .slice Ax02 (p0.2.2.1.1).length cx02, .slice Ax03 (p0.2.2.1.2).length cx03, .slice Ax04 (p0.2.2.2.1.1).length cx04, .slice Ax05 (p0.2.2.2.1.2).length cx05, .slice Ax06 (p0.2.2.2.2).length cx06] 45)).cell? ⟨w.heap.size, 5, none⟩ = some (.slice Aa05 na05 ca05) := (Ba0.alloc _).cell 5
  have d_Ba0_6 : (W4.alloc (.cells #[.int .i64 (p0.1), .int .i64 (p0.2.1), .slice Ax02 (p0.2.2.1.1).length cx02, .slice Ax03 (p0.2.2.1.2).length cx03, .slice Ax04 (p0.2.2.2.1.1).length cx04, .slice Ax05 (p0.2.2.2.1.2).length cx05, .slice Ax06 (p0.2.2.2.2).length cx06] 45)).cell? ⟨w.heap.size, 6, none⟩ = some (.slice Aa06 na06 ca06) := (Ba0.alloc _).cell 6
  go_wp2_with fail
  refine (i_NodeBytes ((tNode).reach ((tNode).read o_x0) ?hB) (by omega)).mono ?_
  all_goals try (case hB => exact (belx))
  rintro e W5 ⟨Ag0, cg0, Fg0, rfl, o_g0, Ng, hb_⟩
  clear d_Ba0_0 d_Ba0_1 d_Ba0_2 d_Ba0_3 d_Ba0_4 d_Ba0_5 d_Ba0_6
  clear k_Ba0_0 k_Ba0_1 k_Ba0_2 k_Ba0_3 k_Ba0_4 k_Ba0_5 k_Ba0_6
  rw [HR0.out] at o_g0
  rw [HR0.out]
  rw [HR1.out]
  have Ig0 : ∀ f ∈ Fg0, W4.heap.size + 1 ≤ f ∧ f < W5.heap.size := fun f hf => ⟨Nat.le_trans (by first | (simp; done) | (simp; omega)) (Ng.2 f (by simp [hf])), (tBy).lt o_g0 f hf⟩
  have Dg0 := Ng.1
  clear Ng
  have hs5 : Below W4.heap.size W4 W5 := bel_trans (belx) hb_
  have z5 : W4.heap.size + 1 ≤ W5.heap.size := by have := hb_.size; simpa using this
  have hB5 : Below w.heap.size w W5 := bel_trans hB4 hs5
  replace Ba0 := Ba0.below hs5 Ba0.size
  have Bx0 : Box W5 (W4.heap.size) 45 #[.int .i64 (p0.1), .int .i64 (p0.2.1), .slice Ax02 (p0.2.2.1.1).length cx02, .slice Ax03 (p0.2.2.1.2).length cx03, .slice Ax04 (p0.2.2.2.1.1).length cx04, .slice Ax05 (p0.2.2.2.1.2).length cx05, .slice Ax06 (p0.2.2.2.2).length cx06] := Box.below (Box.new _ _ _) hb_ (by first | (simp; done) | (simp; omega))
  replace o_x0 := Ty.below (t := tNode) o_x0 hs5
  replace r_s0 := (tBy).keep r_s0 (fun b hb => hs5.block b (Nat.lt_of_lt_of_le hb (by omega)))
  have k_Ba0_0 : W5.cell? ⟨w.heap.size, 0, none⟩ = some (.int .i64 (p0.1)) := Ba0.cell 0
  have k_Ba0_1 : W5.cell? ⟨w.heap.size, 1, none⟩ = some (.int .i64 (p0.2.1)) := Ba0.cell 1
  have k_Ba0_2 : W5.cell? ⟨w.heap.size, 2, none⟩ = some (.slice Aa02 na02 ca02) := Ba0.cell 2
  have k_Ba0_3 : W5.cell? ⟨w.heap.size, 3, none⟩ = some (.slice Aa03 na03 ca03) := Ba0.cell 3
  have k_Ba0_4 : W5.cell? ⟨w.heap.size, 4, none⟩ = some (.slice Aa04 na04 ca04) := Ba0.cell 4
  have k_Ba0_5 : W5.cell? ⟨w.heap.size, 5, none⟩ = some (.slice Aa05 na05 ca05) := Ba0.cell 5
  have k_Ba0_6 : W5.cell? ⟨w.heap.size, 6, none⟩ = some (.slice Aa06 na06 ca06) := Ba0.cell 6
  have k_Bx0_0 : W5.cell? ⟨W4.heap.size, 0, none⟩ = some (.int .i64 (p0.1)) := Bx0.cell 0
  have k_Bx0_1 : W5.cell? ⟨W4.heap.size, 1, none⟩ = some (.int .i64 (p0.2.1)) := Bx0.cell 1
  have k_Bx0_2 : W5.cell? ⟨W4.heap.size, 2, none⟩ = some (.slice Ax02 (p0.2.2.1.1).length cx02) := Bx0.cell 2
  have k_Bx0_3 : W5.cell? ⟨W4.heap.size, 3, none⟩ = some (.slice Ax03 (p0.2.2.1.2).length cx03) := Bx0.cell 3
  have k_Bx0_4 : W5.cell? ⟨W4.heap.size, 4, none⟩ = some (.slice Ax04 (p0.2.2.2.1.1).length cx04) := Bx0.cell 4
  have k_Bx0_5 : W5.cell? ⟨W4.heap.size, 5, none⟩ = some (.slice Ax05 (p0.2.2.2.1.2).length cx05) := Bx0.cell 5
  have k_Bx0_6 : W5.cell? ⟨W4.heap.size, 6, none⟩ = some (.slice Ax06 (p0.2.2.2.2).length cx06) := Bx0.cell 6
  clear hb_
  go_wp2_with fail
  refine (o_eqByteS ((tBy).reach ((tBy).read o_g0) ?hB) ((tBy).reach ((tBy).up r_s0 (by omega : W3.heap.size ≤ W5.heap.size)) ?hB)).mono ?_
  all_goals try (case hB => exact (belx))
  rintro e W6 ⟨rfl, hb_⟩
  clear k_Ba0_0 k_Ba0_1 k_Ba0_2 k_Ba0_3 k_Ba0_4 k_Ba0_5 k_Ba0_6
  clear k_Bx0_0 k_Bx0_1 k_Bx0_2 k_Bx0_3 k_Bx0_4 k_Bx0_5 k_Bx0_6
  have hs6 : Below W5.heap.size W5 W6 := bel_trans (belx) hb_
  have z6 : W5.heap.size + 0 ≤ W6.heap.size := by have := hb_.size; simpa using this
  have hB6 : Below w.heap.size w W6 := bel_trans hB5 hs6
  replace Ba0 := Ba0.below hs6 Ba0.size
  replace Bx0 := Bx0.below hs6 Bx0.size
  replace o_x0 := Ty.below (t := tNode) o_x0 hs6
  replace o_g0 := Ty.below (t := tBy) o_g0 hs6
  replace r_s0 := (tBy).keep r_s0 (fun b hb => hs6.block b (Nat.lt_of_lt_of_le hb (by omega)))
  have k_Ba0_0 : W6.cell? ⟨w.heap.size, 0, none⟩ = some (.int .i64 (p0.1)) := Ba0.cell 0
  have k_Ba0_1 : W6.cell? ⟨w.heap.size, 1, none⟩ = some (.int .i64 (p0.2.1)) := Ba0.cell 1
  have k_Ba0_2 : W6.cell? ⟨w.heap.size, 2, none⟩ = some (.slice Aa02 na02 ca02) := Ba0.cell 2
  have k_Ba0_3 : W6.cell? ⟨w.heap.size, 3, none⟩ = some (.slice Aa03 na03 ca03) := Ba0.cell 3
  have k_Ba0_4 : W6.cell? ⟨w.heap.size, 4, none⟩ = some (.slice Aa04 na04 ca04) := Ba0.cell 4
  have k_Ba0_5 : W6.cell? ⟨w.heap.size, 5, none⟩ = some (.slice Aa05 na05 ca05) := Ba0.cell 5
  have k_Ba0_6 : W6.cell? ⟨w.heap.size, 6, none⟩ = some (.slice Aa06 na06 ca06) := Ba0.cell 6
  have k_Bx0_0 : W6.cell? ⟨W4.heap.size, 0, none⟩ = some (.int .i64 (p0.1)) := Bx0.cell 0
  have k_Bx0_1 : W6.cell? ⟨W4.heap.size, 1, none⟩ = some (.int .i64 (p0.2.1)) := Bx0.cell 1
  have k_Bx0_2 : W6.cell? ⟨W4.heap.size, 2, none⟩ = some (.slice Ax02 (p0.2.2.1.1).length cx02) := Bx0.cell 2
  have k_Bx0_3 : W6.cell? ⟨W4.heap.size, 3, none⟩ = some (.slice Ax03 (p0.2.2.1.2).length cx03) := Bx0.cell 3
  have k_Bx0_4 : W6.cell? ⟨W4.heap.size, 4, none⟩ = some (.slice Ax04 (p0.2.2.2.1.1).length cx04) := Bx0.cell 4
  have k_Bx0_5 : W6.cell? ⟨W4.heap.size, 5, none⟩ = some (.slice Ax05 (p0.2.2.2.1.2).length cx05) := Bx0.cell 5
  have k_Bx0_6 : W6.cell? ⟨W4.heap.size, 6, none⟩ = some (.slice Ax06 (p0.2.2.2.2).length cx06) := Bx0.cell 6
  clear hb_
  go_wp2_with fail
  go_region_held3 (fun w' => w'.cell? ⟨w.heap.size, 0, none⟩ = some (.int .i64 (p0.1)) ∧ w'.cell? ⟨w.heap.size, 1, none⟩ = some (.int .i64 (p0.2.1)) ∧ w'.cell? ⟨w.heap.size, 2, none⟩ = some (.slice Aa02 na02 ca02) ∧ w'.cell? ⟨w.heap.size, 3, none⟩ = some (.slice Aa03 na03 ca03) ∧ w'.cell? ⟨w.heap.size, 4, none⟩ = some (.slice Aa04 na04 ca04) ∧ w'.cell? ⟨w.heap.size, 5, none⟩ = some (.slice Aa05 na05 ca05) ∧ w'.cell? ⟨w.heap.size, 6, none⟩ = some (.slice Aa06 na06 ca06) ∧ w'.cell? ⟨W4.heap.size, 0, none⟩ = some (.int .i64 (p0.1)) ∧ w'.cell? ⟨W4.heap.size, 1, none⟩ = some (.int .i64 (p0.2.1)) ∧ w'.cell? ⟨W4.heap.size, 2, none⟩ = some (.slice Ax02 (p0.2.2.1.1).length cx02) ∧ w'.cell? ⟨W4.heap.size, 3, none⟩ = some (.slice Ax03 (p0.2.2.1.2).length cx03) ∧ w'.cell? ⟨W4.heap.size, 4, none⟩ = some (.slice Ax04 (p0.2.2.2.1.1).length cx04) ∧ w'.cell? ⟨W4.heap.size, 5, none⟩ = some (.slice Ax05 (p0.2.2.2.1.2).length cx05) ∧ w'.cell? ⟨W4.heap.size, 6, none⟩ = some (.slice Ax06 (p0.2.2.2.2).length cx06)) (first | (exact ⟨k_Ba0_0, k_Ba0_1, k_Ba0_2, k_Ba0_3, k_Ba0_4, k_Ba0_5, k_Ba0_6, k_Bx0_0, k_Bx0_1, k_Bx0_2, k_Bx0_3, k_Bx0_4, k_Bx0_5, k_Bx0_6⟩) | (exact ⟨cell_bel hs8 k_Ba0_0, cell_bel hs8 k_Ba0_1, cell_bel hs8 k_Ba0_2, cell_bel hs8 k_Ba0_3, cell_bel hs8 k_Ba0_4, cell_bel hs8 k_Ba0_5, cell_bel hs8 k_Ba0_6, cell_bel hs8 k_Bx0_0, cell_bel hs8 k_Bx0_1, cell_bel hs8 k_Bx0_2, cell_bel hs8 k_Bx0_3, cell_bel hs8 k_Bx0_4, cell_bel hs8 k_Bx0_5, cell_bel hs8 k_Bx0_6⟩) | (exact ⟨cell_bel hs7 k_Ba0_0, cell_bel hs7 k_Ba0_1, cell_bel hs7 k_Ba0_2, cell_bel hs7 k_Ba0_3, cell_bel hs7 k_Ba0_4, cell_bel hs7 k_Ba0_5, cell_bel hs7 k_Ba0_6, cell_bel hs7 k_Bx0_0, cell_bel hs7 k_Bx0_1, cell_bel hs7 k_Bx0_2, cell_bel hs7 k_Bx0_3, cell_bel hs7 k_Bx0_4, cell_bel hs7 k_Bx0_5, cell_bel hs7 k_Bx0_6⟩) | go_keep)
    (first
      | (go_at_call 8; refine (o_toNode ((tNode).reach ((tNode).reach h0 hB6) (belx)) (by omega)).mono ?_; rintro e W7 ⟨csv, Fv, rfl, o_v, Nv, hb_⟩; have hs7 : Below W6.heap.size W6 W7 := bel_trans (belx) hb_)
      | (go_at_call 12; refine (o_eqNode ((tNode).reach ((tNode).reach ((tNode).read o_x0) hs7) (belx)) ((tNode).reach ((tNode).read o_v) (belx))).mono ?_; rintro e W8 ⟨rfl, hb2_⟩; have hs8' : Below W6.heap.size W6 W8 := bel_trans hs7 (bel_trans (belx) hb2_); have hs8 := hs8'))
  clear o_v Nv hb_ hb2_ hs7
  clear k_Ba0_0 k_Ba0_1 k_Ba0_2 k_Ba0_3 k_Ba0_4 k_Ba0_5 k_Ba0_6
  clear k_Bx0_0 k_Bx0_1 k_Bx0_2 k_Bx0_3 k_Bx0_4 k_Bx0_5 k_Bx0_6
  have z8 : W6.heap.size + 0 ≤ W8.heap.size := hs8'.size
  have hB8 : Below w.heap.size w W8 := bel_trans hB6 hs8'
  replace Ba0 := Ba0.below hs8' Ba0.size
  replace Bx0 := Bx0.below hs8' Bx0.size
  replace o_x0 := Ty.below (t := tNode) o_x0 hs8'
  replace o_g0 := Ty.below (t := tBy) o_g0 hs8'
  replace r_s0 := (tBy).keep r_s0 (fun b hb => hs8'.block b (Nat.lt_of_lt_of_le hb (by omega)))
  have k_Ba0_0 : W8.cell? ⟨w.heap.size, 0, none⟩ = some (.int .i64 (p0.1)) := Ba0.cell 0
  have k_Ba0_1 : W8.cell? ⟨w.heap.size, 1, none⟩ = some (.int .i64 (p0.2.1)) := Ba0.cell 1
  have k_Ba0_2 : W8.cell? ⟨w.heap.size, 2, none⟩ = some (.slice Aa02 na02 ca02) := Ba0.cell 2
  have k_Ba0_3 : W8.cell? ⟨w.heap.size, 3, none⟩ = some (.slice Aa03 na03 ca03) := Ba0.cell 3
  have k_Ba0_4 : W8.cell? ⟨w.heap.size, 4, none⟩ = some (.slice Aa04 na04 ca04) := Ba0.cell 4
  have k_Ba0_5 : W8.cell? ⟨w.heap.size, 5, none⟩ = some (.slice Aa05 na05 ca05) := Ba0.cell 5
  have k_Ba0_6 : W8.cell? ⟨w.heap.size, 6, none⟩ = some (.slice Aa06 na06 ca06) := Ba0.cell 6
  have k_Bx0_0 : W8.cell? ⟨W4.heap.size, 0, none⟩ = some (.int .i64 (p0.1)) := Bx0.cell 0
  have k_Bx0_1 : W8.cell? ⟨W4.heap.size, 1, none⟩ = some (.int .i64 (p0.2.1)) := Bx0.cell 1
  have k_Bx0_2 : W8.cell? ⟨W4.heap.size, 2, none⟩ = some (.slice Ax02 (p0.2.2.1.1).length cx02) := Bx0.cell 2
  have k_Bx0_3 : W8.cell? ⟨W4.heap.size, 3, none⟩ = some (.slice Ax03 (p0.2.2.1.2).length cx03) := Bx0.cell 3
  have k_Bx0_4 : W8.cell? ⟨W4.heap.size, 4, none⟩ = some (.slice Ax04 (p0.2.2.2.1.1).length cx04) := Bx0.cell 4
  have k_Bx0_5 : W8.cell? ⟨W4.heap.size, 5, none⟩ = some (.slice Ax05 (p0.2.2.2.1.2).length cx05) := Bx0.cell 5
  have k_Bx0_6 : W8.cell? ⟨W4.heap.size, 6, none⟩ = some (.slice Ax06 (p0.2.2.2.2).length cx06) := Bx0.cell 6
  go_wp2_with fail
  refine (o_markNode (1) o_x0 Dx0 (by omega) (by omega)).mono ?_
  rintro e W9 ⟨rfl, om_, hG_⟩
  clear k_Ba0_0 k_Ba0_1 k_Ba0_2 k_Ba0_3 k_Ba0_4 k_Ba0_5 k_Ba0_6
  clear k_Bx0_0 k_Bx0_1 k_Bx0_2 k_Bx0_3 k_Bx0_4 k_Bx0_5 k_Bx0_6
  replace o_x0 := om_
  clear om_
  have z9 : W8.heap.size + 0 ≤ W9.heap.size := hG_.size
  have hB9 : Below w.heap.size w W9 := hB8.trans (hG_.below (fun f hf => by have := Ix0 f hf; omega) (by have := hB8.size; omega))
  replace Ba0 := Ba0.same (hG_.block _ Ba0.size (fun hx => by have := Ix0 _ hx; omega))
  replace Bx0 := Bx0.same (hG_.block _ Bx0.size (fun hx => by have := Ix0 _ hx; omega))
  replace o_g0 := Ty.only (t := tBy) o_g0 hG_ (fun f hf hx => by have := Ig0 f hf; have := Ix0 f hx; omega)
  replace r_s0 := (tBy).keep r_s0 (fun b hb => hG_.block b (Nat.lt_of_lt_of_le hb (by omega)) (fun hx => by have := Ix0 b hx; omega))
  have k_Ba0_0 : W9.cell? ⟨w.heap.size, 0, none⟩ = some (.int .i64 (p0.1)) := Ba0.cell 0
  have k_Ba0_1 : W9.cell? ⟨w.heap.size, 1, none⟩ = some (.int .i64 (p0.2.1)) := Ba0.cell 1
  have k_Ba0_2 : W9.cell? ⟨w.heap.size, 2, none⟩ = some (.slice Aa02 na02 ca02) := Ba0.cell 2
  have k_Ba0_3 : W9.cell? ⟨w.heap.size, 3, none⟩ = some (.slice Aa03 na03 ca03) := Ba0.cell 3
  have k_Ba0_4 : W9.cell? ⟨w.heap.size, 4, none⟩ = some (.slice Aa04 na04 ca04) := Ba0.cell 4
  have k_Ba0_5 : W9.cell? ⟨w.heap.size, 5, none⟩ = some (.slice Aa05 na05 ca05) := Ba0.cell 5
  have k_Ba0_6 : W9.cell? ⟨w.heap.size, 6, none⟩ = some (.slice Aa06 na06 ca06) := Ba0.cell 6
  have k_Bx0_0 : W9.cell? ⟨W4.heap.size, 0, none⟩ = some (.int .i64 (p0.1)) := Bx0.cell 0
  have k_Bx0_1 : W9.cell? ⟨W4.heap.size, 1, none⟩ = some (.int .i64 (p0.2.1)) := Bx0.cell 1
  have k_Bx0_2 : W9.cell? ⟨W4.heap.size, 2, none⟩ = some (.slice Ax02 (p0.2.2.1.1).length cx02) := Bx0.cell 2
  have k_Bx0_3 : W9.cell? ⟨W4.heap.size, 3, none⟩ = some (.slice Ax03 (p0.2.2.1.2).length cx03) := Bx0.cell 3
  have k_Bx0_4 : W9.cell? ⟨W4.heap.size, 4, none⟩ = some (.slice Ax04 (p0.2.2.2.1.1).length cx04) := Bx0.cell 4
  have k_Bx0_5 : W9.cell? ⟨W4.heap.size, 5, none⟩ = some (.slice Ax05 (p0.2.2.2.1.2).length cx05) := Bx0.cell 5
  have k_Bx0_6 : W9.cell? ⟨W4.heap.size, 6, none⟩ = some (.slice Ax06 (p0.2.2.2.2).length cx06) := Bx0.cell 6
  clear hG_
  have dk : decide ((1 + ((cntNode (p0) : Nat) : Int) : Int) < 0) = false := by simp; omega
  clear o_x0 Ix0 Dx0
  go_wp2_with fail
  refine (o_eqByteS ((tBy).reach ((tBy).read o_g0) ?hB) ((tBy).reach ((tBy).up r_s0 (by omega : W3.heap.size ≤ W9.heap.size)) ?hB)).mono ?_
  all_goals try (case hB => exact (belx))
  rintro e W10 ⟨rfl, hb_⟩
  clear k_Ba0_0 k_Ba0_1 k_Ba0_2 k_Ba0_3 k_Ba0_4 k_Ba0_5 k_Ba0_6
  clear k_Bx0_0 k_Bx0_1 k_Bx0_2 k_Bx0_3 k_Bx0_4 k_Bx0_5 k_Bx0_6
  have hs10 : Below W9.heap.size W9 W10 := bel_trans (belx) hb_
  have z10 : W9.heap.size + 0 ≤ W10.heap.size := by have := hb_.size; simpa using this
  have hB10 : Below w.heap.size w W10 := bel_trans hB9 hs10
  replace Ba0 := Ba0.below hs10 Ba0.size
  replace Bx0 := Bx0.below hs10 Bx0.size
  replace o_g0 := Ty.below (t := tBy) o_g0 hs10
  replace r_s0 := (tBy).keep r_s0 (fun b hb => hs10.block b (Nat.lt_of_lt_of_le hb (by omega)))
  have k_Ba0_0 : W10.cell? ⟨w.heap.size, 0, none⟩ = some (.int .i64 (p0.1)) := Ba0.cell 0
  have k_Ba0_1 : W10.cell? ⟨w.heap.size, 1, none⟩ = some (.int .i64 (p0.2.1)) := Ba0.cell 1
  have k_Ba0_2 : W10.cell? ⟨w.heap.size, 2, none⟩ = some (.slice Aa02 na02 ca02) := Ba0.cell 2
  have k_Ba0_3 : W10.cell? ⟨w.heap.size, 3, none⟩ = some (.slice Aa03 na03 ca03) := Ba0.cell 3
  have k_Ba0_4 : W10.cell? ⟨w.heap.size, 4, none⟩ = some (.slice Aa04 na04 ca04) := Ba0.cell 4
  have k_Ba0_5 : W10.cell? ⟨w.heap.size, 5, none⟩ = some (.slice Aa05 na05 ca05) := Ba0.cell 5
  have k_Ba0_6 : W10.cell? ⟨w.heap.size, 6, none⟩ = some (.slice Aa06 na06 ca06) := Ba0.cell 6
  have k_Bx0_0 : W10.cell? ⟨W4.heap.size, 0, none⟩ = some (.int .i64 (p0.1)) := Bx0.cell 0
  have k_Bx0_1 : W10.cell? ⟨W4.heap.size, 1, none⟩ = some (.int .i64 (p0.2.1)) := Bx0.cell 1
  have k_Bx0_2 : W10.cell? ⟨W4.heap.size, 2, none⟩ = some (.slice Ax02 (p0.2.2.1.1).length cx02) := Bx0.cell 2
  have k_Bx0_3 : W10.cell? ⟨W4.heap.size, 3, none⟩ = some (.slice Ax03 (p0.2.2.1.2).length cx03) := Bx0.cell 3
  have k_Bx0_4 : W10.cell? ⟨W4.heap.size, 4, none⟩ = some (.slice Ax04 (p0.2.2.2.1.1).length cx04) := Bx0.cell 4
  have k_Bx0_5 : W10.cell? ⟨W4.heap.size, 5, none⟩ = some (.slice Ax05 (p0.2.2.2.1.2).length cx05) := Bx0.cell 5
  have k_Bx0_6 : W10.cell? ⟨W4.heap.size, 6, none⟩ = some (.slice Ax06 (p0.2.2.2.2).length cx06) := Bx0.cell 6
  clear hb_
  go_wp2_with fail
  refine (o_markByteS (1) o_g0 (by omega) (by omega)).mono ?_
  rintro e W11 ⟨rfl, om_, hG_⟩
  clear k_Ba0_0 k_Ba0_1 k_Ba0_2 k_Ba0_3 k_Ba0_4 k_Ba0_5 k_Ba0_6
  clear k_Bx0_0 k_Bx0_1 k_Bx0_2 k_Bx0_3 k_Bx0_4 k_Bx0_5 k_Bx0_6
  replace o_g0 := om_
  clear om_
  have z11 : W10.heap.size + 0 ≤ W11.heap.size := hG_.size
  have hB11 : Below w.heap.size w W11 := hB10.trans (hG_.below (fun f hf => by have := Ig0 f hf; omega) (by have := hB10.size; omega))
  replace Ba0 := Ba0.same (hG_.block _ Ba0.size (fun hx => by have := Ig0 _ hx; omega))
  replace Bx0 := Bx0.same (hG_.block _ Bx0.size (fun hx => by have := Ig0 _ hx; omega))
  replace r_s0 := (tBy).keep r_s0 (fun b hb => hG_.block b (Nat.lt_of_lt_of_le hb (by omega)) (fun hx => by have := Ig0 b hx; omega))
  have k_Ba0_0 : W11.cell? ⟨w.heap.size, 0, none⟩ = some (.int .i64 (p0.1)) := Ba0.cell 0
  have k_Ba0_1 : W11.cell? ⟨w.heap.size, 1, none⟩ = some (.int .i64 (p0.2.1)) := Ba0.cell 1
  have k_Ba0_2 : W11.cell? ⟨w.heap.size, 2, none⟩ = some (.slice Aa02 na02 ca02) := Ba0.cell 2
  have k_Ba0_3 : W11.cell? ⟨w.heap.size, 3, none⟩ = some (.slice Aa03 na03 ca03) := Ba0.cell 3
  have k_Ba0_4 : W11.cell? ⟨w.heap.size, 4, none⟩ = some (.slice Aa04 na04 ca04) := Ba0.cell 4
  have k_Ba0_5 : W11.cell? ⟨w.heap.size, 5, none⟩ = some (.slice Aa05 na05 ca05) := Ba0.cell 5
  have k_Ba0_6 : W11.cell? ⟨w.heap.size, 6, none⟩ = some (.slice Aa06 na06 ca06) := Ba0.cell 6
  have k_Bx0_0 : W11.cell? ⟨W4.heap.size, 0, none⟩ = some (.int .i64 (p0.1)) := Bx0.cell 0
  have k_Bx0_1 : W11.cell? ⟨W4.heap.size, 1, none⟩ = some (.int .i64 (p0.2.1)) := Bx0.cell 1
  have k_Bx0_2 : W11.cell? ⟨W4.heap.size, 2, none⟩ = some (.slice Ax02 (p0.2.2.1.1).length cx02) := Bx0.cell 2
  have k_Bx0_3 : W11.cell? ⟨W4.heap.size, 3, none⟩ = some (.slice Ax03 (p0.2.2.1.2).length cx03) := Bx0.cell 3
  have k_Bx0_4 : W11.cell? ⟨W4.heap.size, 4, none⟩ = some (.slice Ax04 (p0.2.2.2.1.1).length cx04) := Bx0.cell 4
  have k_Bx0_5 : W11.cell? ⟨W4.heap.size, 5, none⟩ = some (.slice Ax05 (p0.2.2.2.1.2).length cx05) := Bx0.cell 5
  have k_Bx0_6 : W11.cell? ⟨W4.heap.size, 6, none⟩ = some (.slice Ax06 (p0.2.2.2.2).length cx06) := Bx0.cell 6
  clear hG_
  have dm : (((1 + (((r0).length : Nat) : Int) : Int)) != (1 + (((r0).length : Nat) : Int))) = false := by simp
  have dh0 : decide ((1 + (((r0).length : Nat) : Int) : Int) < 0) = false := by simp; omega
  go_wp2_with fail
  refine (o_heldByteS (1) ((tBy).reach ((tBy).read o_g0) ?hB) (by omega) (by omega)).mono ?_
  all_goals try (case hB => exact (belx))
  rintro e W12 ⟨rfl, hb_⟩
  clear k_Ba0_0 k_Ba0_1 k_Ba0_2 k_Ba0_3 k_Ba0_4 k_Ba0_5 k_Ba0_6
  clear k_Bx0_0 k_Bx0_1 k_Bx0_2 k_Bx0_3 k_Bx0_4 k_Bx0_5 k_Bx0_6
  have hs12 : Below W11.heap.size W11 W12 := bel_trans (belx) hb_
  have z12 : W11.heap.size + 0 ≤ W12.heap.size := by have := hb_.size; simpa using this
  have hB12 : Below w.heap.size w W12 := bel_trans hB11 hs12
  replace Ba0 := Ba0.below hs12 Ba0.size
  replace Bx0 := Bx0.below hs12 Bx0.size
  replace o_g0 := Ty.below (t := tBy) o_g0 hs12
  replace r_s0 := (tBy).keep r_s0 (fun b hb => hs12.block b (Nat.lt_of_lt_of_le hb (by omega)))
  have k_Ba0_0 : W12.cell? ⟨w.heap.size, 0, none⟩ = some (.int .i64 (p0.1)) := Ba0.cell 0
  have k_Ba0_1 : W12.cell? ⟨w.heap.size, 1, none⟩ = some (.int .i64 (p0.2.1)) := Ba0.cell 1
  have k_Ba0_2 : W12.cell? ⟨w.heap.size, 2, none⟩ = some (.slice Aa02 na02 ca02) := Ba0.cell 2
  have k_Ba0_3 : W12.cell? ⟨w.heap.size, 3, none⟩ = some (.slice Aa03 na03 ca03) := Ba0.cell 3
  have k_Ba0_4 : W12.cell? ⟨w.heap.size, 4, none⟩ = some (.slice Aa04 na04 ca04) := Ba0.cell 4
  have k_Ba0_5 : W12.cell? ⟨w.heap.size, 5, none⟩ = some (.slice Aa05 na05 ca05) := Ba0.cell 5
  have k_Ba0_6 : W12.cell? ⟨w.heap.size, 6, none⟩ = some (.slice Aa06 na06 ca06) := Ba0.cell 6
  have k_Bx0_0 : W12.cell? ⟨W4.heap.size, 0, none⟩ = some (.int .i64 (p0.1)) := Bx0.cell 0
  have k_Bx0_1 : W12.cell? ⟨W4.heap.size, 1, none⟩ = some (.int .i64 (p0.2.1)) := Bx0.cell 1
  have k_Bx0_2 : W12.cell? ⟨W4.heap.size, 2, none⟩ = some (.slice Ax02 (p0.2.2.1.1).length cx02) := Bx0.cell 2
  have k_Bx0_3 : W12.cell? ⟨W4.heap.size, 3, none⟩ = some (.slice Ax03 (p0.2.2.1.2).length cx03) := Bx0.cell 3
  have k_Bx0_4 : W12.cell? ⟨W4.heap.size, 4, none⟩ = some (.slice Ax04 (p0.2.2.2.1.1).length cx04) := Bx0.cell 4
  have k_Bx0_5 : W12.cell? ⟨W4.heap.size, 5, none⟩ = some (.slice Ax05 (p0.2.2.2.1.2).length cx05) := Bx0.cell 5
  have k_Bx0_6 : W12.cell? ⟨W4.heap.size, 6, none⟩ = some (.slice Ax06 (p0.2.2.2.2).length cx06) := Bx0.cell 6
  clear hb_
  go_wp2_with fail
  refine (o_toNode ((tNode).reach ((tNode).reach h0 hB12) ?hB) (by omega)).mono ?_
  all_goals try (case hB => exact (belx))
  rintro e W13 ⟨csy0, Fy0, rfl, o_y0, Ny0, hb_⟩
  clear k_Ba0_0 k_Ba0_1 k_Ba0_2 k_Ba0_3 k_Ba0_4 k_Ba0_5 k_Ba0_6
  clear k_Bx0_0 k_Bx0_1 k_Bx0_2 k_Bx0_3 k_Bx0_4 k_Bx0_5 k_Bx0_6
  have Iy0 : ∀ f ∈ Fy0, W12.heap.size + 0 ≤ f ∧ f < W13.heap.size := fun f hf => ⟨Nat.le_trans (by first | (simp; done) | (simp; omega)) (Ny0.2 f hf), (tNode).lt o_y0 f hf⟩
  have Dy0 := Ny0.1
  clear Ny0
  obtain ⟨Ay02, cy02, Fy02, Ay03, cy03, Fy03, Ay04, cy04, Fy04, Ay05, cy05, Fy05, Ay06, cy06, Fy06, rfl, -, -, -, -, -, -, -, -, -, -, -, -, -, -, -, -, -, -⟩ := openONode o_y0
  have hs13 : Below W12.heap.size W12 W13 := bel_trans (belx) hb_
  have z13 : W12.heap.size + 0 ≤ W13.heap.size := by have := hb_.size; simpa using this
  have hB13 : Below w.heap.size w W13 := bel_trans hB12 hs13
  replace Ba0 := Ba0.below hs13 Ba0.size
  replace Bx0 := Bx0.below hs13 Bx0.size
  replace o_g0 := Ty.below (t := tBy) o_g0 hs13
  replace r_s0 := (tBy).keep r_s0 (fun b hb => hs13.block b (Nat.lt_of_lt_of_le hb (by omega)))
  have k_Ba0_0 : W13.cell? ⟨w.heap.size, 0, none⟩ = some (.int .i64 (p0.1)) := Ba0.cell 0
  have k_Ba0_1 : W13.cell? ⟨w.heap.size, 1, none⟩ = some (.int .i64 (p0.2.1)) := Ba0.cell 1
  have k_Ba0_2 : W13.cell? ⟨w.heap.size, 2, none⟩ = some (.slice Aa02 na02 ca02) := Ba0.cell 2
  have k_Ba0_3 : W13.cell? ⟨w.heap.size, 3, none⟩ = some (.slice Aa03 na03 ca03) := Ba0.cell 3
  have k_Ba0_4 : W13.cell? ⟨w.heap.size, 4, none⟩ = some (.slice Aa04 na04 ca04) := Ba0.cell 4
  have k_Ba0_5 : W13.cell? ⟨w.heap.size, 5, none⟩ = some (.slice Aa05 na05 ca05) := Ba0.cell 5
  have k_Ba0_6 : W13.cell? ⟨w.heap.size, 6, none⟩ = some (.slice Aa06 na06 ca06) := Ba0.cell 6
  have k_Bx0_0 : W13.cell? ⟨W4.heap.size, 0, none⟩ = some (.int .i64 (p0.1)) := Bx0.cell 0
  have k_Bx0_1 : W13.cell? ⟨W4.heap.size, 1, none⟩ = some (.int .i64 (p0.2.1)) := Bx0.cell 1
  have k_Bx0_2 : W13.cell? ⟨W4.heap.size, 2, none⟩ = some (.slice Ax02 (p0.2.2.1.1).length cx02) := Bx0.cell 2
  have k_Bx0_3 : W13.cell? ⟨W4.heap.size, 3, none⟩ = some (.slice Ax03 (p0.2.2.1.2).length cx03) := Bx0.cell 3
  have k_Bx0_4 : W13.cell? ⟨W4.heap.size, 4, none⟩ = some (.slice Ax04 (p0.2.2.2.1.1).length cx04) := Bx0.cell 4
  have k_Bx0_5 : W13.cell? ⟨W4.heap.size, 5, none⟩ = some (.slice Ax05 (p0.2.2.2.1.2).length cx05) := Bx0.cell 5
  have k_Bx0_6 : W13.cell? ⟨W4.heap.size, 6, none⟩ = some (.slice Ax06 (p0.2.2.2.2).length cx06) := Bx0.cell 6
  clear hb_
  go_wp2_with fail
  refine (i_NodeBytes ((tNode).reach ((tNode).read o_y0) ?hB) (by omega)).mono ?_
  all_goals try (case hB => exact (belx))
  rintro e W14 ⟨Ah0, ch0, Fh0, rfl, o_h0, Nh, hb_⟩
  clear k_Ba0_0 k_Ba0_1 k_Ba0_2 k_Ba0_3 k_Ba0_4 k_Ba0_5 k_Ba0_6
  clear k_Bx0_0 k_Bx0_1 k_Bx0_2 k_Bx0_3 k_Bx0_4 k_Bx0_5 k_Bx0_6
  clear o_y0 Iy0 Dy0
  rw [HR0.out] at o_h0
  rw [HR0.out]
  rw [HR1.out]
  have Ih0 : ∀ f ∈ Fh0, W13.heap.size + 0 ≤ f ∧ f < W14.heap.size := fun f hf => ⟨Nat.le_trans (by first | (simp; done) | (simp; omega)) (Nh.2 f (by simp [hf])), (tBy).lt o_h0 f hf⟩
  have Dh0 := Nh.1
  clear Nh
  have hs14 : Below W13.heap.size W13 W14 := bel_trans (belx) hb_
  have z14 : W13.heap.size + 0 ≤ W14.heap.size := by have := hb_.size; simpa using this
  have hB14 : Below w.heap.size w W14 := bel_trans hB13 hs14
  replace Ba0 := Ba0.below hs14 Ba0.size
  replace Bx0 := Bx0.below hs14 Bx0.size
  replace o_g0 := Ty.below (t := tBy) o_g0 hs14
  replace r_s0 := (tBy).keep r_s0 (fun b hb => hs14.block b (Nat.lt_of_lt_of_le hb (by omega)))
  have k_Ba0_0 : W14.cell? ⟨w.heap.size, 0, none⟩ = some (.int .i64 (p0.1)) := Ba0.cell 0
  have k_Ba0_1 : W14.cell? ⟨w.heap.size, 1, none⟩ = some (.int .i64 (p0.2.1)) := Ba0.cell 1
  have k_Ba0_2 : W14.cell? ⟨w.heap.size, 2, none⟩ = some (.slice Aa02 na02 ca02) := Ba0.cell 2
  have k_Ba0_3 : W14.cell? ⟨w.heap.size, 3, none⟩ = some (.slice Aa03 na03 ca03) := Ba0.cell 3
  have k_Ba0_4 : W14.cell? ⟨w.heap.size, 4, none⟩ = some (.slice Aa04 na04 ca04) := Ba0.cell 4
  have k_Ba0_5 : W14.cell? ⟨w.heap.size, 5, none⟩ = some (.slice Aa05 na05 ca05) := Ba0.cell 5
  have k_Ba0_6 : W14.cell? ⟨w.heap.size, 6, none⟩ = some (.slice Aa06 na06 ca06) := Ba0.cell 6
  have k_Bx0_0 : W14.cell? ⟨W4.heap.size, 0, none⟩ = some (.int .i64 (p0.1)) := Bx0.cell 0
  have k_Bx0_1 : W14.cell? ⟨W4.heap.size, 1, none⟩ = some (.int .i64 (p0.2.1)) := Bx0.cell 1
  have k_Bx0_2 : W14.cell? ⟨W4.heap.size, 2, none⟩ = some (.slice Ax02 (p0.2.2.1.1).length cx02) := Bx0.cell 2
  have k_Bx0_3 : W14.cell? ⟨W4.heap.size, 3, none⟩ = some (.slice Ax03 (p0.2.2.1.2).length cx03) := Bx0.cell 3
  have k_Bx0_4 : W14.cell? ⟨W4.heap.size, 4, none⟩ = some (.slice Ax04 (p0.2.2.2.1.1).length cx04) := Bx0.cell 4
  have k_Bx0_5 : W14.cell? ⟨W4.heap.size, 5, none⟩ = some (.slice Ax05 (p0.2.2.2.1.2).length cx05) := Bx0.cell 5
  have k_Bx0_6 : W14.cell? ⟨W4.heap.size, 6, none⟩ = some (.slice Ax06 (p0.2.2.2.2).length cx06) := Bx0.cell 6
  clear hb_
  go_wp2_with fail
  refine (o_eqByteS ((tBy).reach ((tBy).read o_h0) ?hB) ((tBy).reach ((tBy).up r_s0 (by omega : W3.heap.size ≤ W14.heap.size)) ?hB)).mono ?_
  all_goals try (case hB => exact (belx))
  rintro e W15 ⟨rfl, hb_⟩
  clear k_Ba0_0 k_Ba0_1 k_Ba0_2 k_Ba0_3 k_Ba0_4 k_Ba0_5 k_Ba0_6
  clear k_Bx0_0 k_Bx0_1 k_Bx0_2 k_Bx0_3 k_Bx0_4 k_Bx0_5 k_Bx0_6
  have hs15 : Below W14.heap.size W14 W15 := bel_trans (belx) hb_
  have z15 : W14.heap.size + 0 ≤ W15.heap.size := by have := hb_.size; simpa using this
  have hB15 : Below w.heap.size w W15 := bel_trans hB14 hs15
  replace Ba0 := Ba0.below hs15 Ba0.size
  replace Bx0 := Bx0.below hs15 Bx0.size
  replace o_g0 := Ty.below (t := tBy) o_g0 hs15
  replace o_h0 := Ty.below (t := tBy) o_h0 hs15
  replace r_s0 := (tBy).keep r_s0 (fun b hb => hs15.block b (Nat.lt_of_lt_of_le hb (by omega)))
  have k_Ba0_0 : W15.cell? ⟨w.heap.size, 0, none⟩ = some (.int .i64 (p0.1)) := Ba0.cell 0
  have k_Ba0_1 : W15.cell? ⟨w.heap.size, 1, none⟩ = some (.int .i64 (p0.2.1)) := Ba0.cell 1
  have k_Ba0_2 : W15.cell? ⟨w.heap.size, 2, none⟩ = some (.slice Aa02 na02 ca02) := Ba0.cell 2
  have k_Ba0_3 : W15.cell? ⟨w.heap.size, 3, none⟩ = some (.slice Aa03 na03 ca03) := Ba0.cell 3
  have k_Ba0_4 : W15.cell? ⟨w.heap.size, 4, none⟩ = some (.slice Aa04 na04 ca04) := Ba0.cell 4
  have k_Ba0_5 : W15.cell? ⟨w.heap.size, 5, none⟩ = some (.slice Aa05 na05 ca05) := Ba0.cell 5
  have k_Ba0_6 : W15.cell? ⟨w.heap.size, 6, none⟩ = some (.slice Aa06 na06 ca06) := Ba0.cell 6
  have k_Bx0_0 : W15.cell? ⟨W4.heap.size, 0, none⟩ = some (.int .i64 (p0.1)) := Bx0.cell 0
  have k_Bx0_1 : W15.cell? ⟨W4.heap.size, 1, none⟩ = some (.int .i64 (p0.2.1)) := Bx0.cell 1
  have k_Bx0_2 : W15.cell? ⟨W4.heap.size, 2, none⟩ = some (.slice Ax02 (p0.2.2.1.1).length cx02) := Bx0.cell 2
  have k_Bx0_3 : W15.cell? ⟨W4.heap.size, 3, none⟩ = some (.slice Ax03 (p0.2.2.1.2).length cx03) := Bx0.cell 3
  have k_Bx0_4 : W15.cell? ⟨W4.heap.size, 4, none⟩ = some (.slice Ax04 (p0.2.2.2.1.1).length cx04) := Bx0.cell 4
  have k_Bx0_5 : W15.cell? ⟨W4.heap.size, 5, none⟩ = some (.slice Ax05 (p0.2.2.2.1.2).length cx05) := Bx0.cell 5
  have k_Bx0_6 : W15.cell? ⟨W4.heap.size, 6, none⟩ = some (.slice Ax06 (p0.2.2.2.2).length cx06) := Bx0.cell 6
  clear hb_
  go_wp2_with fail
  refine (o_heldByteS (1) ((tBy).reach ((tBy).read o_g0) ?hB) (by omega) (by omega)).mono ?_
  all_goals try (case hB => exact (belx))
  rintro e W16 ⟨rfl, hb_⟩
  clear k_Ba0_0 k_Ba0_1 k_Ba0_2 k_Ba0_3 k_Ba0_4 k_Ba0_5 k_Ba0_6
  clear k_Bx0_0 k_Bx0_1 k_Bx0_2 k_Bx0_3 k_Bx0_4 k_Bx0_5 k_Bx0_6
  have hs16 : Below W15.heap.size W15 W16 := bel_trans (belx) hb_
  have z16 : W15.heap.size + 0 ≤ W16.heap.size := by have := hb_.size; simpa using this
  have hB16 : Below w.heap.size w W16 := bel_trans hB15 hs16
  replace Ba0 := Ba0.below hs16 Ba0.size
  replace Bx0 := Bx0.below hs16 Bx0.size
  replace o_g0 := Ty.below (t := tBy) o_g0 hs16
  replace o_h0 := Ty.below (t := tBy) o_h0 hs16
  replace r_s0 := (tBy).keep r_s0 (fun b hb => hs16.block b (Nat.lt_of_lt_of_le hb (by omega)))
  have k_Ba0_0 : W16.cell? ⟨w.heap.size, 0, none⟩ = some (.int .i64 (p0.1)) := Ba0.cell 0
  have k_Ba0_1 : W16.cell? ⟨w.heap.size, 1, none⟩ = some (.int .i64 (p0.2.1)) := Ba0.cell 1
  have k_Ba0_2 : W16.cell? ⟨w.heap.size, 2, none⟩ = some (.slice Aa02 na02 ca02) := Ba0.cell 2
  have k_Ba0_3 : W16.cell? ⟨w.heap.size, 3, none⟩ = some (.slice Aa03 na03 ca03) := Ba0.cell 3
  have k_Ba0_4 : W16.cell? ⟨w.heap.size, 4, none⟩ = some (.slice Aa04 na04 ca04) := Ba0.cell 4
  have k_Ba0_5 : W16.cell? ⟨w.heap.size, 5, none⟩ = some (.slice Aa05 na05 ca05) := Ba0.cell 5
  have k_Ba0_6 : W16.cell? ⟨w.heap.size, 6, none⟩ = some (.slice Aa06 na06 ca06) := Ba0.cell 6
  have k_Bx0_0 : W16.cell? ⟨W4.heap.size, 0, none⟩ = some (.int .i64 (p0.1)) := Bx0.cell 0
  have k_Bx0_1 : W16.cell? ⟨W4.heap.size, 1, none⟩ = some (.int .i64 (p0.2.1)) := Bx0.cell 1
  have k_Bx0_2 : W16.cell? ⟨W4.heap.size, 2, none⟩ = some (.slice Ax02 (p0.2.2.1.1).length cx02) := Bx0.cell 2
  have k_Bx0_3 : W16.cell? ⟨W4.heap.size, 3, none⟩ = some (.slice Ax03 (p0.2.2.1.2).length cx03) := Bx0.cell 3
  have k_Bx0_4 : W16.cell? ⟨W4.heap.size, 4, none⟩ = some (.slice Ax04 (p0.2.2.2.1.1).length cx04) := Bx0.cell 4
  have k_Bx0_5 : W16.cell? ⟨W4.heap.size, 5, none⟩ = some (.slice Ax05 (p0.2.2.2.1.2).length cx05) := Bx0.cell 5
  have k_Bx0_6 : W16.cell? ⟨W4.heap.size, 6, none⟩ = some (.slice Ax06 (p0.2.2.2.2).length cx06) := Bx0.cell 6
  clear hb_
  go_wp2_with fail
  go_ret
  exact ⟨rfl, hB16⟩

/-! ### THE ROW's STEP -/
set_option maxHeartbeats 400000 in
set_option maxRecDepth 100000 in
theorem lifted (os : Os) (started : os.Started) (H : Type) (enc : TypeId × Value → H) :
    ReturnsInHanded {} Tryz.checked os 4 .any (Rows.fnExactNodeBytesSpec.pre6 enc Tryz.prog Tryz.f4 Rows.fnExactNodeBytesRow.domain false) (Rows.fnExactNodeBytesSpec.post enc Tryz.prog Tryz.f4 false true false false) := by
  refine returnsInHanded_of_change (C := Tryz.checked) own started (by kernel_rfl) Tryz.func4
    (ChangeSpec.witness6 (enc := enc) (C := Tryz.checked) false ⟨#[], #[.agg #[.int .i64 0, .int .i64 0, .slice none 0 0, .slice none 0 0, .slice none 0 0, .slice none 0 0, .slice none 0 0]], []⟩ 8 (by kernel_rfl) (by kernel_rfl) (by kernel_rfl) (by kernel_rfl)) ?_
  intro W base args ds gs before hval0 hW hcnd _
  have hval : ∀ (j : Nat) t v, Tryz.f4.params[j]? = some t → args[j]? = some v → Value.okWide Tryz.prog W .any base t v := hval0
  have hW' := hW
  obtain ⟨p, q, hA0, hV, rfl, hfz, hnd⟩ := hW
  have hA : DataW.TrodAll enc Tryz.prog W 0 (fun _ => true) true Tryz.f4.params.toList args.toList ds p := hA0
  rw [Tryz.params4] at hA hval
  obtain ⟨v0, vs0, d0, ds0, p0, q0, hargs, rfl, rfl, h0, r0⟩ := trodAll_cons hA
  obtain ⟨rfl, rfl, rfl⟩ := trodAll_nil r0
  obtain rfl : args = #[v0] := by cases args; simp_all
  obtain ⟨rfl, rfl⟩ := trodVars_none hV
  obtain ⟨cs0, rfl, hsz0⟩ := okWide_struct Tryz.underlying31 (hval 0 31 v0 rfl rfl)
  have k0 := h0
  have lt0 : ∀ x ∈ p0, x.block < W.heap.size := by obtain ⟨m, hm⟩ := k0; exact DataW.trod_lt m _ _ _ hm
  obtain ⟨x0, w0⟩ : ∃ a, tNode.R W W.heap.size cs0.toList a := by
    obtain ⟨fuel, hf⟩ := h0
    exact frR_Node fuel _ _ (by simpa [Value.cells] using hf)
  clear hA0 hval0
  refine (walk cs0 x0 W w0).mono fun e W' ⟨he, bel⟩ => ?_
  subst he
  exact ⟨_, rfl, _, _, _, [], _, [], hW', trodAll_mk1 (shut_bool Tryz.underlying4 _), (trodAll_cons_mk (Below.trod laidOut (by kernel_rfl) (of_decide_eq_true (by kernel_rfl)) k0 bel lt0) trodAll_mk0), rfl, bel.frame _, fun h => by cases h⟩

theorem over : Rows.fnExactNodeBytesRow.holds Tryz.pinned (OpenSpec.ofChange Rows.fnExactNodeBytesSpec) :=
  OpenClaim.holds_of_wide 4 Tryz.f4 rfl rfl rfl rfl rfl rfl rfl ⟨rfl, rfl, rfl, rfl, rfl⟩ rfl rfl rfl rfl rfl named_fnExactNodeBytes Tryz.func4 closed_fnExactNodeBytes
    (of_decide_eq_true (by kernel_rfl)) (by unfold Func.isWrapper; first | (rw [if_pos (by decide +kernel)]; kernel_rfl) | (rw [if_neg (by decide +kernel)]; exact ⟨rfl, rfl⟩))
    (fun os started H enc _ => lifted os started H enc)

theorem proved : Rows.FnExactNodeBytesSaid := over
#print axioms proved
end Go.Proofs.YtelbckpplckofaaGreat.fnExactNodeBytes
