/-
  For every argument (in all at most 2^20 elements) the program's Wrap answers as its model does, in every field, writes into no argument, and its answer owns its memory. No further condition.
-/
import Derived.Test.YtojbicecopkfbaaRows
import Derived.Test.YtojbicecopkfbaaWGi
import Derived.Test.YtojbicecopkfbaaWGq
import Derived.Test.YtojbicecopkfbaaWMFr
import Derived.Below
import Derived.ChangeOld
import Derived.Deep.RegionHeld3
import Derived.OpenShut
import Derived.ProofKit
import Derived.ShutString
import Derived.WalkKit
namespace Go.Proofs.Ytojbicecopkfbaa.fnExactWrap
open Go.ChangeShapes Go.WideShapes Go.ChangeAt Go.RowKit
open Go.ChangeMaps (open_string shut_string)
set_option linter.unusedVariables false

open Go.Proofs.Ytojbicecopkfbaa
theorem own : ownKnob Try.prog.godebug = none := by kernel_rfl
theorem laidOut : laidOutB Try.prog = true := by kernel_rfl



/-! ### STEP 1: the walk -/
set_option maxRecDepth 100000 in
set_option maxHeartbeats 2000000 in
theorem walk (A0 : Option Addr) (n0 c0 : Nat) (p0 : List Int) (A1 : Option Addr) (n1 c1 : Nat) (p1 : List Int) (A2 : Option Addr) (n2 c2 : Nat) (p2 : List Int) (a3 : Int) (A4 : Option Addr) (n4 c4 : Nat) (p4 : List Int) (A5 : Option Addr) (n5 c5 : Nat) (p5 : List Int) (w : World) (h0 : (tIs).R w w.heap.size [.slice A0 n0 c0] p0) (h1 : (tIs).R w w.heap.size [.slice A1 n1 c1] p1) (h2 : (tIs).R w w.heap.size [.slice A2 n2 c2] p2) (w3 : (Lit.int .i64 a3).wf = true) (h4 : (tBy).R w w.heap.size [.slice A4 n4 c4] p4) (h5 : (tBy).R w w.heap.size [.slice A5 n5 c5] p5) :
    Calls Try.prog 4 #[.slice A0 n0 c0, .slice A1 n1 c1, .slice A2 n2 c2, .int .i64 a3, .slice A4 n4 c4, .slice A5 n5 c5] w fun e w' => e = .returned (.bool true) ∧ Below w.heap.size w w' := by
  have hn0 := (slR_ints h0).1.1
  have hn1 := (slR_ints h1).1.1
  have hn2 := (slR_ints h2).1.1
  have hn4 := (slR_ints h4).1.1
  have hn5 := (slR_ints h5).1.1
  have rg3 := i64_rg w3
  by_cases hz0 : (p0).length ≤ 1048576
  rotate_left
  · have q_ : (1048576 : Int) < (n0 : Int) := by omega
    go_enter Try.func4, Try.ntmps4
    go_wp2
    go_ret
    exact ⟨rfl, (belx)⟩
  have q_0 : ¬ (1048576 : Int) < (n0 : Int) := by omega
  clear hn0
  by_cases hz1 : (p1).length ≤ 1048576
  rotate_left
  · have q_ : (1048576 : Int) < (n1 : Int) := by omega
    go_enter Try.func4, Try.ntmps4
    go_wp2
    go_ret
    exact ⟨rfl, (belx)⟩
  have q_1 : ¬ (1048576 : Int) < (n1 : Int) := by omega
  clear hn1
  by_cases hz2 : (p2).length ≤ 1048576
  rotate_left
  · have q_ : (1048576 : Int) < (n2 : Int) := by omega
    go_enter Try.func4, Try.ntmps4
    go_wp2
    go_ret
    exact ⟨rfl, (belx)⟩
  have q_2 : ¬ (1048576 : Int) < (n2 : Int) := by omega
  clear hn2
  by_cases hz4 : (p4).length ≤ 1048576
  rotate_left
  · have q_ : (1048576 : Int) < (n4 : Int) := by omega
    go_enter Try.func4, Try.ntmps4
    go_wp2
    go_ret
    exact ⟨rfl, (belx)⟩
  have q_4 : ¬ (1048576 : Int) < (n4 : Int) := by omega
  clear hn4
  by_cases hz5 : (p5).length ≤ 1048576
  rotate_left
  · have q_ : (1048576 : Int) < (n5 : Int) := by omega
    go_enter Try.func4, Try.ntmps4
    go_wp2
    go_ret
    exact ⟨rfl, (belx)⟩
  have q_5 : ¬ (1048576 : Int) < (n5 : Int) := by omega
  clear hn5
  have hzr0 : szCell ((fwrap p0 p1 p2 a3 p4 p5).1) ≤ 1048576 := (by have := fwrap_le p0 p1 p2 a3 p4 p5; show List.length _ ≤ _; omega)
  have hcr0 := cntCell_le ((fwrap p0 p1 p2 a3 p4 p5).1)
  obtain ⟨r0, hr0⟩ : ∃ r, (fwrap p0 p1 p2 a3 p4 p5).1 = r := ⟨_, rfl⟩
  have HR0 := Lib.hid hr0
  rw [hr0] at hzr0 hcr0
  clear hr0
  obtain ⟨r1, hr1⟩ : ∃ r, (fwrap p0 p1 p2 a3 p4 p5).2 = r := ⟨_, rfl⟩
  have HR1 := Lib.hid hr1
  have qr1 : (r1 != r1) = false := by simp
  clear hr1
  go_enter Try.func4, Try.ntmps4
  go_wp2_with fail
  refine (o_toIntS ((tIs).reach h0 ?hB) (by omega)).mono ?_
  all_goals try (case hB => exact (belx))
  rintro e W1 ⟨Ay0, cy0, Fy0, rfl, o_y0, Ny0, hb_⟩
  have Iy0 : ∀ f ∈ Fy0, w.heap.size + 0 ≤ f ∧ f < W1.heap.size := fun f hf => ⟨Nat.le_trans (by first | (simp; done) | (simp; omega)) (Ny0.2 f hf), (tIs).lt o_y0 f hf⟩
  have Dy0 := Ny0.1
  clear Ny0
  have hs1 : Below w.heap.size w W1 := bel_trans (belx) hb_
  have z1 : w.heap.size + 0 ≤ W1.heap.size := by have := hb_.size; simpa using this
  have hB1 : Below w.heap.size w W1 := hs1
  clear hb_
  go_wp2_with fail
  refine (o_toIntS ((tIs).reach ((tIs).reach h1 hB1) ?hB) (by omega)).mono ?_
  all_goals try (case hB => exact (belx))
  rintro e W2 ⟨Ay1, cy1, Fy1, rfl, o_y1, Ny1, hb_⟩
  have Iy1 : ∀ f ∈ Fy1, W1.heap.size + 0 ≤ f ∧ f < W2.heap.size := fun f hf => ⟨Nat.le_trans (by first | (simp; done) | (simp; omega)) (Ny1.2 f hf), (tIs).lt o_y1 f hf⟩
  have Dy1 := Ny1.1
  clear Ny1
  have hs2 : Below W1.heap.size W1 W2 := bel_trans (belx) hb_
  have z2 : W1.heap.size + 0 ≤ W2.heap.size := by have := hb_.size; simpa using this
  have hB2 : Below w.heap.size w W2 := bel_trans hB1 hs2
  replace o_y0 := Ty.below (t := tIs) o_y0 hs2
  clear hb_
  go_wp2_with fail
  refine (o_toIntS ((tIs).reach ((tIs).reach h2 hB2) ?hB) (by omega)).mono ?_
  all_goals try (case hB => exact (belx))
  rintro e W3 ⟨Ay2, cy2, Fy2, rfl, o_y2, Ny2, hb_⟩
  have Iy2 : ∀ f ∈ Fy2, W2.heap.size + 0 ≤ f ∧ f < W3.heap.size := fun f hf => ⟨Nat.le_trans (by first | (simp; done) | (simp; omega)) (Ny2.2 f hf), (tIs).lt o_y2 f hf⟩
  have Dy2 := Ny2.1
  clear Ny2
  have hs3 : Below W2.heap.size W2 W3 := bel_trans (belx) hb_
  have z3 : W2.heap.size + 0 ≤ W3.heap.size := by have := hb_.size; simpa using this
  have hB3 : Below w.heap.size w W3 := bel_trans hB2 hs3
  replace o_y0 := Ty.below (t := tIs) o_y0 hs3
  replace o_y1 := Ty.below (t := tIs) o_y1 hs3
  clear hb_
  go_wp2_with fail
  refine (o_toByteS ((tBy).reach ((tBy).reach h4 hB3) ?hB) (by omega)).mono ?_
  all_goals try (case hB => exact (belx))
  rintro e W4 ⟨Ay4, cy4, Fy4, rfl, o_y4, Ny4, hb_⟩
  have Iy4 : ∀ f ∈ Fy4, W3.heap.size + 0 ≤ f ∧ f < W4.heap.size := fun f hf => ⟨Nat.le_trans (by first | (simp; done) | (simp; omega)) (Ny4.2 f hf), (tBy).lt o_y4 f hf⟩
  have Dy4 := Ny4.1
  clear Ny4
  have hs4 : Below W3.heap.size W3 W4 := bel_trans (belx) hb_
  have z4 : W3.heap.size + 0 ≤ W4.heap.size := by have := hb_.size; simpa using this
  have hB4 : Below w.heap.size w W4 := bel_trans hB3 hs4
  replace o_y0 := Ty.below (t := tIs) o_y0 hs4
  replace o_y1 := Ty.below (t := tIs) o_y1 hs4
  replace o_y2 := Ty.below (t := tIs) o_y2 hs4
  clear hb_
  go_wp2_with fail
  refine (o_toByteS ((tBy).reach ((tBy).reach h5 hB4) ?hB) (by omega)).mono ?_
  all_goals try (case hB => exact (belx))
  rintro e W5 ⟨Ay5, cy5, Fy5, rfl, o_y5, Ny5, hb_⟩
  have Iy5 : ∀ f ∈ Fy5, W4.heap.size + 0 ≤ f ∧ f < W5.heap.size := fun f hf => ⟨Nat.le_trans (by first | (simp; done) | (simp; omega)) (Ny5.2 f hf), (tBy).lt o_y5 f hf⟩
  have Dy5 := Ny5.1
  clear Ny5
  have hs5 : Below W4.heap.size W4 W5 := bel_trans (belx) hb_
  have z5 : W4.heap.size + 0 ≤ W5.heap.size := by have := hb_.size; simpa using this
  have hB5 : Below w.heap.size w W5 := bel_trans hB4 hs5
  replace o_y0 := Ty.below (t := tIs) o_y0 hs5
  replace o_y1 := Ty.below (t := tIs) o_y1 hs5
  replace o_y2 := Ty.below (t := tIs) o_y2 hs5
  replace o_y4 := Ty.below (t := tBy) o_y4 hs5
  clear hb_
  go_wp2_with fail
  refine (s_WrapR ((tIs).reach ((tIs).read o_y0) ?hB) (by omega) ((tIs).reach ((tIs).read o_y1) ?hB) (by omega) ((tIs).reach ((tIs).read o_y2) ?hB) (by omega) w3 ((tBy).reach ((tBy).read o_y4) ?hB) (by omega) ((tBy).reach ((tBy).read o_y5) ?hB) (by omega)).mono ?_
  all_goals try (case hB => exact (belx))
  rintro e W6 ⟨css0, rfl, r_s0, hb_⟩
  clear o_y0 Iy0 Dy0
  clear o_y1 Iy1 Dy1
  clear o_y2 Iy2 Dy2
  clear o_y4 Iy4 Dy4
  clear o_y5 Iy5 Dy5
  rw [HR0.out] at r_s0
  rw [HR1.out]
  obtain ⟨As00, ns00, cs00, rfl, -, -, -, -⟩ := openCell r_s0
  have hs6 : Below W5.heap.size W5 W6 := bel_trans (belx) hb_
  have z6 : W5.heap.size + 0 ≤ W6.heap.size := by have := hb_.size; simpa using this
  have hB6 : Below w.heap.size w W6 := bel_trans hB5 hs6
  clear hb_
  go_wp2_with fail
  refine (o_toIntS ((tIs).reach ((tIs).reach h0 hB6) ?hB) (by omega)).mono ?_
  all_goals try (case hB => exact (belx))
  rintro e W7 ⟨Ax0, cx0, Fx0, rfl, o_x0, Nx0, hb_⟩
  have Ix0 : ∀ f ∈ Fx0, W6.heap.size + 1 ≤ f ∧ f < W7.heap.size := fun f hf => ⟨Nat.le_trans (by first | (simp; done) | (simp; omega)) (Nx0.2 f hf), (tIs).lt o_x0 f hf⟩
  have Dx0 := Nx0.1
  clear Nx0
  have hs7 : Below W6.heap.size W6 W7 := bel_trans (belx) hb_
  have z7 : W6.heap.size + 1 ≤ W7.heap.size := by have := hb_.size; simpa using this
  have hB7 : Below w.heap.size w W7 := bel_trans hB6 hs7
  have Bs0 : Box W7 (W6.heap.size) 38 #[.slice As00 ns00 cs00] := Box.below (Box.new _ _ _) hb_ (by first | (simp; done) | (simp; omega))
  replace r_s0 := (tCell).keep r_s0 (fun b hb => hs7.block b (Nat.lt_of_lt_of_le hb (by omega)))
  have k_Bs0_0 : W7.cell? ⟨W6.heap.size, 0, none⟩ = some (.slice As00 ns00 cs00) := Bs0.cell 0
  clear hb_
  go_wp2_with fail
  refine (o_toIntS ((tIs).reach ((tIs).reach h1 hB7) ?hB) (by omega)).mono ?_
  all_goals try (case hB => exact (belx))
  rintro e W8 ⟨Ax1, cx1, Fx1, rfl, o_x1, Nx1, hb_⟩
  clear k_Bs0_0
  have Ix1 : ∀ f ∈ Fx1, W7.heap.size + 0 ≤ f ∧ f < W8.heap.size := fun f hf => ⟨Nat.le_trans (by first | (simp; done) | (simp; omega)) (Nx1.2 f hf), (tIs).lt o_x1 f hf⟩
  have Dx1 := Nx1.1
  clear Nx1
  have hs8 : Below W7.heap.size W7 W8 := bel_trans (belx) hb_
  have z8 : W7.heap.size + 0 ≤ W8.heap.size := by have := hb_.size; simpa using this
  have hB8 : Below w.heap.size w W8 := bel_trans hB7 hs8
  replace Bs0 := Bs0.below hs8 Bs0.size
  replace o_x0 := Ty.below (t := tIs) o_x0 hs8
  replace r_s0 := (tCell).keep r_s0 (fun b hb => hs8.block b (Nat.lt_of_lt_of_le hb (by omega)))
  have k_Bs0_0 : W8.cell? ⟨W6.heap.size, 0, none⟩ = some (.slice As00 ns00 cs00) := Bs0.cell 0
  clear hb_
  go_wp2_with fail
  refine (o_toIntS ((tIs).reach ((tIs).reach h2 hB8) ?hB) (by omega)).mono ?_
  all_goals try (case hB => exact (belx))
  rintro e W9 ⟨Ax2, cx2, Fx2, rfl, o_x2, Nx2, hb_⟩
  clear k_Bs0_0
  have Ix2 : ∀ f ∈ Fx2, W8.heap.size + 0 ≤ f ∧ f < W9.heap.size := fun f hf => ⟨Nat.le_trans (by first | (simp; done) | (simp; omega)) (Nx2.2 f hf), (tIs).lt o_x2 f hf⟩
  have Dx2 := Nx2.1
  clear Nx2
  have hs9 : Below W8.heap.size W8 W9 := bel_trans (belx) hb_
  have z9 : W8.heap.size + 0 ≤ W9.heap.size := by have := hb_.size; simpa using this
  have hB9 : Below w.heap.size w W9 := bel_trans hB8 hs9
  replace Bs0 := Bs0.below hs9 Bs0.size
  replace o_x0 := Ty.below (t := tIs) o_x0 hs9
  replace o_x1 := Ty.below (t := tIs) o_x1 hs9
  replace r_s0 := (tCell).keep r_s0 (fun b hb => hs9.block b (Nat.lt_of_lt_of_le hb (by omega)))
  have k_Bs0_0 : W9.cell? ⟨W6.heap.size, 0, none⟩ = some (.slice As00 ns00 cs00) := Bs0.cell 0
  clear hb_
  go_wp2_with fail
  refine (o_toByteS ((tBy).reach ((tBy).reach h4 hB9) ?hB) (by omega)).mono ?_
  all_goals try (case hB => exact (belx))
  rintro e W10 ⟨Ax4, cx4, Fx4, rfl, o_x4, Nx4, hb_⟩
  clear k_Bs0_0
  have Ix4 : ∀ f ∈ Fx4, W9.heap.size + 0 ≤ f ∧ f < W10.heap.size := fun f hf => ⟨Nat.le_trans (by first | (simp; done) | (simp; omega)) (Nx4.2 f hf), (tBy).lt o_x4 f hf⟩
  have Dx4 := Nx4.1
  clear Nx4
  have hs10 : Below W9.heap.size W9 W10 := bel_trans (belx) hb_
  have z10 : W9.heap.size + 0 ≤ W10.heap.size := by have := hb_.size; simpa using this
  have hB10 : Below w.heap.size w W10 := bel_trans hB9 hs10
  replace Bs0 := Bs0.below hs10 Bs0.size
  replace o_x0 := Ty.below (t := tIs) o_x0 hs10
  replace o_x1 := Ty.below (t := tIs) o_x1 hs10
  replace o_x2 := Ty.below (t := tIs) o_x2 hs10
  replace r_s0 := (tCell).keep r_s0 (fun b hb => hs10.block b (Nat.lt_of_lt_of_le hb (by omega)))
  have k_Bs0_0 : W10.cell? ⟨W6.heap.size, 0, none⟩ = some (.slice As00 ns00 cs00) := Bs0.cell 0
  clear hb_
  go_wp2_with fail
  refine (o_toByteS ((tBy).reach ((tBy).reach h5 hB10) ?hB) (by omega)).mono ?_
  all_goals try (case hB => exact (belx))
  rintro e W11 ⟨Ax5, cx5, Fx5, rfl, o_x5, Nx5, hb_⟩
  clear k_Bs0_0
  have Ix5 : ∀ f ∈ Fx5, W10.heap.size + 0 ≤ f ∧ f < W11.heap.size := fun f hf => ⟨Nat.le_trans (by first | (simp; done) | (simp; omega)) (Nx5.2 f hf), (tBy).lt o_x5 f hf⟩
  have Dx5 := Nx5.1
  clear Nx5
  have hs11 : Below W10.heap.size W10 W11 := bel_trans (belx) hb_
  have z11 : W10.heap.size + 0 ≤ W11.heap.size := by have := hb_.size; simpa using this
  have hB11 : Below w.heap.size w W11 := bel_trans hB10 hs11
  replace Bs0 := Bs0.below hs11 Bs0.size
  replace o_x0 := Ty.below (t := tIs) o_x0 hs11
  replace o_x1 := Ty.below (t := tIs) o_x1 hs11
  replace o_x2 := Ty.below (t := tIs) o_x2 hs11
  replace o_x4 := Ty.below (t := tBy) o_x4 hs11
  replace r_s0 := (tCell).keep r_s0 (fun b hb => hs11.block b (Nat.lt_of_lt_of_le hb (by omega)))
  have k_Bs0_0 : W11.cell? ⟨W6.heap.size, 0, none⟩ = some (.slice As00 ns00 cs00) := Bs0.cell 0
  clear hb_
  go_wp2_with fail
  refine (i_WrapR ((tIs).reach ((tIs).read o_x0) ?hB) (by omega) ((tIs).reach ((tIs).read o_x1) ?hB) (by omega) ((tIs).reach ((tIs).read o_x2) ?hB) (by omega) w3 ((tBy).reach ((tBy).read o_x4) ?hB) (by omega) ((tBy).reach ((tBy).read o_x5) ?hB) (by omega)).mono ?_
  all_goals try (case hB => exact (belx))
  rintro e W12 ⟨csg0, Fg0, rfl, o_g0, Ng, hb_⟩
  clear k_Bs0_0
  rw [HR0.out] at o_g0
  rw [HR1.out]
  obtain ⟨Ag00, cg00, Fg00, rfl, -, -, -, -⟩ := openOCell o_g0
  have Ig0 : ∀ f ∈ Fg0, W11.heap.size + 0 ≤ f ∧ f < W12.heap.size := fun f hf => ⟨Nat.le_trans (by first | (simp; done) | (simp; omega)) (Ng.2 f (by simp [hf])), (tCell).lt o_g0 f hf⟩
  have Dg0 := Ng.1
  clear Ng
  have hs12 : Below W11.heap.size W11 W12 := bel_trans (belx) hb_
  have z12 : W11.heap.size + 0 ≤ W12.heap.size := by have := hb_.size; simpa using this
  have hB12 : Below w.heap.size w W12 := bel_trans hB11 hs12
  replace Bs0 := Bs0.below hs12 Bs0.size
  replace o_x0 := Ty.below (t := tIs) o_x0 hs12
  replace o_x1 := Ty.below (t := tIs) o_x1 hs12
  replace o_x2 := Ty.below (t := tIs) o_x2 hs12
  replace o_x4 := Ty.below (t := tBy) o_x4 hs12
  replace o_x5 := Ty.below (t := tBy) o_x5 hs12
  replace r_s0 := (tCell).keep r_s0 (fun b hb => hs12.block b (Nat.lt_of_lt_of_le hb (by omega)))
  have k_Bs0_0 : W12.cell? ⟨W6.heap.size, 0, none⟩ = some (.slice As00 ns00 cs00) := Bs0.cell 0
  clear hb_
  have d_Bs0_0 : (W12.alloc (.cells #[.slice Ag00 (r0).length cg00] 38)).cell? ⟨W6.heap.size, 0, none⟩ = some (.slice As00 ns00 cs00) := (Bs0.alloc _).cell 0
  go_wp2_with fail
  refine (o_eqCell ((tCell).reach ((tCell).read o_g0) ?hB) ((tCell).reach ((tCell).up r_s0 (by omega : W6.heap.size ≤ W12.heap.size)) ?hB)).mono ?_
  all_goals try (case hB => exact (belx))
  rintro e W13 ⟨rfl, hb_⟩
  clear d_Bs0_0
  clear k_Bs0_0
  have hs13 : Below W12.heap.size W12 W13 := bel_trans (belx) hb_
  have z13 : W12.heap.size + 1 ≤ W13.heap.size := by have := hb_.size; simpa using this
  have hB13 : Below w.heap.size w W13 := bel_trans hB12 hs13
  replace Bs0 := Bs0.below hs13 Bs0.size
  have Bg0 : Box W13 (W12.heap.size) 38 #[.slice Ag00 (r0).length cg00] := Box.below (Box.new _ _ _) hb_ (by first | (simp; done) | (simp; omega))
  replace o_x0 := Ty.below (t := tIs) o_x0 hs13
  replace o_x1 := Ty.below (t := tIs) o_x1 hs13
  replace o_x2 := Ty.below (t := tIs) o_x2 hs13
  replace o_x4 := Ty.below (t := tBy) o_x4 hs13
  replace o_x5 := Ty.below (t := tBy) o_x5 hs13
  replace o_g0 := Ty.below (t := tCell) o_g0 hs13
  replace r_s0 := (tCell).keep r_s0 (fun b hb => hs13.block b (Nat.lt_of_lt_of_le hb (by omega)))
  have k_Bs0_0 : W13.cell? ⟨W6.heap.size, 0, none⟩ = some (.slice As00 ns00 cs00) := Bs0.cell 0
  have k_Bg0_0 : W13.cell? ⟨W12.heap.size, 0, none⟩ = some (.slice Ag00 (r0).length cg00) := Bg0.cell 0
  clear hb_
  go_wp2_with fail
  refine (o_toIntS ((tIs).reach ((tIs).reach h0 hB13) ?hB) (by omega)).mono ?_
  all_goals try (case hB => exact (belx))
  rintro e W14 ⟨Av, cv, Fv, rfl, o_v, Nv, hb_⟩
  clear k_Bs0_0
  clear k_Bg0_0
  have Iv : ∀ f ∈ Fv, W13.heap.size + 0 ≤ f ∧ f < W14.heap.size := fun f hf => ⟨Nat.le_trans (by first | (simp; done) | (simp; omega)) (Nv.2 f hf), (tIs).lt o_v f hf⟩
  have Dv := Nv.1
  clear Nv
  have hs14 : Below W13.heap.size W13 W14 := bel_trans (belx) hb_
  have z14 : W13.heap.size + 0 ≤ W14.heap.size := by have := hb_.size; simpa using this
  have hB14 : Below w.heap.size w W14 := bel_trans hB13 hs14
  replace Bs0 := Bs0.below hs14 Bs0.size
  replace Bg0 := Bg0.below hs14 Bg0.size
  replace o_x0 := Ty.below (t := tIs) o_x0 hs14
  replace o_x1 := Ty.below (t := tIs) o_x1 hs14
  replace o_x2 := Ty.below (t := tIs) o_x2 hs14
  replace o_x4 := Ty.below (t := tBy) o_x4 hs14
  replace o_x5 := Ty.below (t := tBy) o_x5 hs14
  replace o_g0 := Ty.below (t := tCell) o_g0 hs14
  replace r_s0 := (tCell).keep r_s0 (fun b hb => hs14.block b (Nat.lt_of_lt_of_le hb (by omega)))
  have k_Bs0_0 : W14.cell? ⟨W6.heap.size, 0, none⟩ = some (.slice As00 ns00 cs00) := Bs0.cell 0
  have k_Bg0_0 : W14.cell? ⟨W12.heap.size, 0, none⟩ = some (.slice Ag00 (r0).length cg00) := Bg0.cell 0
  clear hb_
  go_wp2_with fail
  refine (o_eqIntS ((tIs).reach ((tIs).read o_x0) ?hB) ((tIs).reach ((tIs).read o_v) ?hB)).mono ?_
  all_goals try (case hB => exact (belx))
  rintro e W15 ⟨rfl, hb_⟩
  clear k_Bs0_0
  clear k_Bg0_0
  clear o_v Iv Dv
  have hs15 : Below W14.heap.size W14 W15 := bel_trans (belx) hb_
  have z15 : W14.heap.size + 0 ≤ W15.heap.size := by have := hb_.size; simpa using this
  have hB15 : Below w.heap.size w W15 := bel_trans hB14 hs15
  replace Bs0 := Bs0.below hs15 Bs0.size
  replace Bg0 := Bg0.below hs15 Bg0.size
  replace o_x0 := Ty.below (t := tIs) o_x0 hs15
  replace o_x1 := Ty.below (t := tIs) o_x1 hs15
  replace o_x2 := Ty.below (t := tIs) o_x2 hs15
  replace o_x4 := Ty.below (t := tBy) o_x4 hs15
  replace o_x5 := Ty.below (t := tBy) o_x5 hs15
  replace o_g0 := Ty.below (t := tCell) o_g0 hs15
  replace r_s0 := (tCell).keep r_s0 (fun b hb => hs15.block b (Nat.lt_of_lt_of_le hb (by omega)))
  have k_Bs0_0 : W15.cell? ⟨W6.heap.size, 0, none⟩ = some (.slice As00 ns00 cs00) := Bs0.cell 0
  have k_Bg0_0 : W15.cell? ⟨W12.heap.size, 0, none⟩ = some (.slice Ag00 (r0).length cg00) := Bg0.cell 0
  clear hb_
  go_wp2_with fail
  refine (o_toIntS ((tIs).reach ((tIs).reach h1 hB15) ?hB) (by omega)).mono ?_
  all_goals try (case hB => exact (belx))
  rintro e W16 ⟨Av, cv, Fv, rfl, o_v, Nv, hb_⟩
  clear k_Bs0_0
  clear k_Bg0_0
  have Iv : ∀ f ∈ Fv, W15.heap.size + 0 ≤ f ∧ f < W16.heap.size := fun f hf => ⟨Nat.le_trans (by first | (simp; done) | (simp; omega)) (Nv.2 f hf), (tIs).lt o_v f hf⟩
  have Dv := Nv.1
  clear Nv
  have hs16 : Below W15.heap.size W15 W16 := bel_trans (belx) hb_
  have z16 : W15.heap.size + 0 ≤ W16.heap.size := by have := hb_.size; simpa using this
  have hB16 : Below w.heap.size w W16 := bel_trans hB15 hs16
  replace Bs0 := Bs0.below hs16 Bs0.size
  replace Bg0 := Bg0.below hs16 Bg0.size
  replace o_x0 := Ty.below (t := tIs) o_x0 hs16
  replace o_x1 := Ty.below (t := tIs) o_x1 hs16
  replace o_x2 := Ty.below (t := tIs) o_x2 hs16
  replace o_x4 := Ty.below (t := tBy) o_x4 hs16
  replace o_x5 := Ty.below (t := tBy) o_x5 hs16
  replace o_g0 := Ty.below (t := tCell) o_g0 hs16
  replace r_s0 := (tCell).keep r_s0 (fun b hb => hs16.block b (Nat.lt_of_lt_of_le hb (by omega)))
  have k_Bs0_0 : W16.cell? ⟨W6.heap.size, 0, none⟩ = some (.slice As00 ns00 cs00) := Bs0.cell 0
  have k_Bg0_0 : W16.cell? ⟨W12.heap.size, 0, none⟩ = some (.slice Ag00 (r0).length cg00) := Bg0.cell 0
  clear hb_
  go_wp2_with fail
  refine (o_eqIntS ((tIs).reach ((tIs).read o_x1) ?hB) ((tIs).reach ((tIs).read o_v) ?hB)).mono ?_
  all_goals try (case hB => exact (belx))
  rintro e W17 ⟨rfl, hb_⟩
  clear k_Bs0_0
  clear k_Bg0_0
  clear o_v Iv Dv
  have hs17 : Below W16.heap.size W16 W17 := bel_trans (belx) hb_
  have z17 : W16.heap.size + 0 ≤ W17.heap.size := by have := hb_.size; simpa using this
  have hB17 : Below w.heap.size w W17 := bel_trans hB16 hs17
  replace Bs0 := Bs0.below hs17 Bs0.size
  replace Bg0 := Bg0.below hs17 Bg0.size
  replace o_x0 := Ty.below (t := tIs) o_x0 hs17
  replace o_x1 := Ty.below (t := tIs) o_x1 hs17
  replace o_x2 := Ty.below (t := tIs) o_x2 hs17
  replace o_x4 := Ty.below (t := tBy) o_x4 hs17
  replace o_x5 := Ty.below (t := tBy) o_x5 hs17
  replace o_g0 := Ty.below (t := tCell) o_g0 hs17
  replace r_s0 := (tCell).keep r_s0 (fun b hb => hs17.block b (Nat.lt_of_lt_of_le hb (by omega)))
  have k_Bs0_0 : W17.cell? ⟨W6.heap.size, 0, none⟩ = some (.slice As00 ns00 cs00) := Bs0.cell 0
  have k_Bg0_0 : W17.cell? ⟨W12.heap.size, 0, none⟩ = some (.slice Ag00 (r0).length cg00) := Bg0.cell 0
  clear hb_
  go_wp2_with fail
  refine (o_toIntS ((tIs).reach ((tIs).reach h2 hB17) ?hB) (by omega)).mono ?_
  all_goals try (case hB => exact (belx))
  rintro e W18 ⟨Av, cv, Fv, rfl, o_v, Nv, hb_⟩
  clear k_Bs0_0
  clear k_Bg0_0
  have Iv : ∀ f ∈ Fv, W17.heap.size + 0 ≤ f ∧ f < W18.heap.size := fun f hf => ⟨Nat.le_trans (by first | (simp; done) | (simp; omega)) (Nv.2 f hf), (tIs).lt o_v f hf⟩
  have Dv := Nv.1
  clear Nv
  have hs18 : Below W17.heap.size W17 W18 := bel_trans (belx) hb_
  have z18 : W17.heap.size + 0 ≤ W18.heap.size := by have := hb_.size; simpa using this
  have hB18 : Below w.heap.size w W18 := bel_trans hB17 hs18
  replace Bs0 := Bs0.below hs18 Bs0.size
  replace Bg0 := Bg0.below hs18 Bg0.size
  replace o_x0 := Ty.below (t := tIs) o_x0 hs18
  replace o_x1 := Ty.below (t := tIs) o_x1 hs18
  replace o_x2 := Ty.below (t := tIs) o_x2 hs18
  replace o_x4 := Ty.below (t := tBy) o_x4 hs18
  replace o_x5 := Ty.below (t := tBy) o_x5 hs18
  replace o_g0 := Ty.below (t := tCell) o_g0 hs18
  replace r_s0 := (tCell).keep r_s0 (fun b hb => hs18.block b (Nat.lt_of_lt_of_le hb (by omega)))
  have k_Bs0_0 : W18.cell? ⟨W6.heap.size, 0, none⟩ = some (.slice As00 ns00 cs00) := Bs0.cell 0
  have k_Bg0_0 : W18.cell? ⟨W12.heap.size, 0, none⟩ = some (.slice Ag00 (r0).length cg00) := Bg0.cell 0
  clear hb_
  go_wp2_with fail
  refine (o_eqIntS ((tIs).reach ((tIs).read o_x2) ?hB) ((tIs).reach ((tIs).read o_v) ?hB)).mono ?_
  all_goals try (case hB => exact (belx))
  rintro e W19 ⟨rfl, hb_⟩
  clear k_Bs0_0
  clear k_Bg0_0
  clear o_v Iv Dv
  have hs19 : Below W18.heap.size W18 W19 := bel_trans (belx) hb_
  have z19 : W18.heap.size + 0 ≤ W19.heap.size := by have := hb_.size; simpa using this
  have hB19 : Below w.heap.size w W19 := bel_trans hB18 hs19
  replace Bs0 := Bs0.below hs19 Bs0.size
  replace Bg0 := Bg0.below hs19 Bg0.size
  replace o_x0 := Ty.below (t := tIs) o_x0 hs19
  replace o_x1 := Ty.below (t := tIs) o_x1 hs19
  replace o_x2 := Ty.below (t := tIs) o_x2 hs19
  replace o_x4 := Ty.below (t := tBy) o_x4 hs19
  replace o_x5 := Ty.below (t := tBy) o_x5 hs19
  replace o_g0 := Ty.below (t := tCell) o_g0 hs19
  replace r_s0 := (tCell).keep r_s0 (fun b hb => hs19.block b (Nat.lt_of_lt_of_le hb (by omega)))
  have k_Bs0_0 : W19.cell? ⟨W6.heap.size, 0, none⟩ = some (.slice As00 ns00 cs00) := Bs0.cell 0
  have k_Bg0_0 : W19.cell? ⟨W12.heap.size, 0, none⟩ = some (.slice Ag00 (r0).length cg00) := Bg0.cell 0
  clear hb_
  go_wp2_with fail
  refine (o_toByteS ((tBy).reach ((tBy).reach h4 hB19) ?hB) (by omega)).mono ?_
  all_goals try (case hB => exact (belx))
  rintro e W20 ⟨Av, cv, Fv, rfl, o_v, Nv, hb_⟩
  clear k_Bs0_0
  clear k_Bg0_0
  have Iv : ∀ f ∈ Fv, W19.heap.size + 0 ≤ f ∧ f < W20.heap.size := fun f hf => ⟨Nat.le_trans (by first | (simp; done) | (simp; omega)) (Nv.2 f hf), (tBy).lt o_v f hf⟩
  have Dv := Nv.1
  clear Nv
  have hs20 : Below W19.heap.size W19 W20 := bel_trans (belx) hb_
  have z20 : W19.heap.size + 0 ≤ W20.heap.size := by have := hb_.size; simpa using this
  have hB20 : Below w.heap.size w W20 := bel_trans hB19 hs20
  replace Bs0 := Bs0.below hs20 Bs0.size
  replace Bg0 := Bg0.below hs20 Bg0.size
  replace o_x0 := Ty.below (t := tIs) o_x0 hs20
  replace o_x1 := Ty.below (t := tIs) o_x1 hs20
  replace o_x2 := Ty.below (t := tIs) o_x2 hs20
  replace o_x4 := Ty.below (t := tBy) o_x4 hs20
  replace o_x5 := Ty.below (t := tBy) o_x5 hs20
  replace o_g0 := Ty.below (t := tCell) o_g0 hs20
  replace r_s0 := (tCell).keep r_s0 (fun b hb => hs20.block b (Nat.lt_of_lt_of_le hb (by omega)))
  have k_Bs0_0 : W20.cell? ⟨W6.heap.size, 0, none⟩ = some (.slice As00 ns00 cs00) := Bs0.cell 0
  have k_Bg0_0 : W20.cell? ⟨W12.heap.size, 0, none⟩ = some (.slice Ag00 (r0).length cg00) := Bg0.cell 0
  clear hb_
  go_wp2_with fail
  refine (o_eqByteS ((tBy).reach ((tBy).read o_x4) ?hB) ((tBy).reach ((tBy).read o_v) ?hB)).mono ?_
  all_goals try (case hB => exact (belx))
  rintro e W21 ⟨rfl, hb_⟩
  clear k_Bs0_0
  clear k_Bg0_0
  clear o_v Iv Dv
  have hs21 : Below W20.heap.size W20 W21 := bel_trans (belx) hb_
  have z21 : W20.heap.size + 0 ≤ W21.heap.size := by have := hb_.size; simpa using this
  have hB21 : Below w.heap.size w W21 := bel_trans hB20 hs21
  replace Bs0 := Bs0.below hs21 Bs0.size
  replace Bg0 := Bg0.below hs21 Bg0.size
  replace o_x0 := Ty.below (t := tIs) o_x0 hs21
  replace o_x1 := Ty.below (t := tIs) o_x1 hs21
  replace o_x2 := Ty.below (t := tIs) o_x2 hs21
  replace o_x4 := Ty.below (t := tBy) o_x4 hs21
  replace o_x5 := Ty.below (t := tBy) o_x5 hs21
  replace o_g0 := Ty.below (t := tCell) o_g0 hs21
  replace r_s0 := (tCell).keep r_s0 (fun b hb => hs21.block b (Nat.lt_of_lt_of_le hb (by omega)))
  have k_Bs0_0 : W21.cell? ⟨W6.heap.size, 0, none⟩ = some (.slice As00 ns00 cs00) := Bs0.cell 0
  have k_Bg0_0 : W21.cell? ⟨W12.heap.size, 0, none⟩ = some (.slice Ag00 (r0).length cg00) := Bg0.cell 0
  clear hb_
  go_wp2_with fail
  refine (o_toByteS ((tBy).reach ((tBy).reach h5 hB21) ?hB) (by omega)).mono ?_
  all_goals try (case hB => exact (belx))
  rintro e W22 ⟨Av, cv, Fv, rfl, o_v, Nv, hb_⟩
  clear k_Bs0_0
  clear k_Bg0_0
  have Iv : ∀ f ∈ Fv, W21.heap.size + 0 ≤ f ∧ f < W22.heap.size := fun f hf => ⟨Nat.le_trans (by first | (simp; done) | (simp; omega)) (Nv.2 f hf), (tBy).lt o_v f hf⟩
  have Dv := Nv.1
  clear Nv
  have hs22 : Below W21.heap.size W21 W22 := bel_trans (belx) hb_
  have z22 : W21.heap.size + 0 ≤ W22.heap.size := by have := hb_.size; simpa using this
  have hB22 : Below w.heap.size w W22 := bel_trans hB21 hs22
  replace Bs0 := Bs0.below hs22 Bs0.size
  replace Bg0 := Bg0.below hs22 Bg0.size
  replace o_x0 := Ty.below (t := tIs) o_x0 hs22
  replace o_x1 := Ty.below (t := tIs) o_x1 hs22
  replace o_x2 := Ty.below (t := tIs) o_x2 hs22
  replace o_x4 := Ty.below (t := tBy) o_x4 hs22
  replace o_x5 := Ty.below (t := tBy) o_x5 hs22
  replace o_g0 := Ty.below (t := tCell) o_g0 hs22
  replace r_s0 := (tCell).keep r_s0 (fun b hb => hs22.block b (Nat.lt_of_lt_of_le hb (by omega)))
  have k_Bs0_0 : W22.cell? ⟨W6.heap.size, 0, none⟩ = some (.slice As00 ns00 cs00) := Bs0.cell 0
  have k_Bg0_0 : W22.cell? ⟨W12.heap.size, 0, none⟩ = some (.slice Ag00 (r0).length cg00) := Bg0.cell 0
  clear hb_
  go_wp2_with fail
  refine (o_eqByteS ((tBy).reach ((tBy).read o_x5) ?hB) ((tBy).reach ((tBy).read o_v) ?hB)).mono ?_
  all_goals try (case hB => exact (belx))
  rintro e W23 ⟨rfl, hb_⟩
  clear k_Bs0_0
  clear k_Bg0_0
  clear o_v Iv Dv
  have hs23 : Below W22.heap.size W22 W23 := bel_trans (belx) hb_
  have z23 : W22.heap.size + 0 ≤ W23.heap.size := by have := hb_.size; simpa using this
  have hB23 : Below w.heap.size w W23 := bel_trans hB22 hs23
  replace Bs0 := Bs0.below hs23 Bs0.size
  replace Bg0 := Bg0.below hs23 Bg0.size
  replace o_x0 := Ty.below (t := tIs) o_x0 hs23
  replace o_x1 := Ty.below (t := tIs) o_x1 hs23
  replace o_x2 := Ty.below (t := tIs) o_x2 hs23
  replace o_x4 := Ty.below (t := tBy) o_x4 hs23
  replace o_x5 := Ty.below (t := tBy) o_x5 hs23
  replace o_g0 := Ty.below (t := tCell) o_g0 hs23
  replace r_s0 := (tCell).keep r_s0 (fun b hb => hs23.block b (Nat.lt_of_lt_of_le hb (by omega)))
  have k_Bs0_0 : W23.cell? ⟨W6.heap.size, 0, none⟩ = some (.slice As00 ns00 cs00) := Bs0.cell 0
  have k_Bg0_0 : W23.cell? ⟨W12.heap.size, 0, none⟩ = some (.slice Ag00 (r0).length cg00) := Bg0.cell 0
  clear hb_
  go_wp2_with fail
  refine (o_markIntS (1) o_x0 (by omega) (by omega)).mono ?_
  rintro e W24 ⟨rfl, om_, hG_⟩
  clear k_Bs0_0
  clear k_Bg0_0
  replace o_x0 := om_
  clear om_
  have z24 : W23.heap.size + 0 ≤ W24.heap.size := hG_.size
  have hB24 : Below w.heap.size w W24 := hB23.trans (hG_.below (fun f hf => by have := Ix0 f hf; omega) (by have := hB23.size; omega))
  replace Bs0 := Bs0.same (hG_.block _ Bs0.size (fun hx => by have := Ix0 _ hx; omega))
  replace Bg0 := Bg0.same (hG_.block _ Bg0.size (fun hx => by have := Ix0 _ hx; omega))
  replace o_x1 := Ty.only (t := tIs) o_x1 hG_ (fun f hf hx => by have := Ix1 f hf; have := Ix0 f hx; omega)
  replace o_x2 := Ty.only (t := tIs) o_x2 hG_ (fun f hf hx => by have := Ix2 f hf; have := Ix0 f hx; omega)
  replace o_x4 := Ty.only (t := tBy) o_x4 hG_ (fun f hf hx => by have := Ix4 f hf; have := Ix0 f hx; omega)
  replace o_x5 := Ty.only (t := tBy) o_x5 hG_ (fun f hf hx => by have := Ix5 f hf; have := Ix0 f hx; omega)
  replace o_g0 := Ty.only (t := tCell) o_g0 hG_ (fun f hf hx => by have := Ig0 f hf; have := Ix0 f hx; omega)
  replace r_s0 := (tCell).keep r_s0 (fun b hb => hG_.block b (Nat.lt_of_lt_of_le hb (by omega)) (fun hx => by have := Ix0 b hx; omega))
  have k_Bs0_0 : W24.cell? ⟨W6.heap.size, 0, none⟩ = some (.slice As00 ns00 cs00) := Bs0.cell 0
  have k_Bg0_0 : W24.cell? ⟨W12.heap.size, 0, none⟩ = some (.slice Ag00 (r0).length cg00) := Bg0.cell 0
  clear hG_
  go_wp2_with fail
  refine (o_markIntS (1 + (((p0).length : Nat) : Int)) o_x1 (by omega) (by omega)).mono ?_
  rintro e W25 ⟨rfl, om_, hG_⟩
  clear k_Bs0_0
  clear k_Bg0_0
  replace o_x1 := om_
  clear om_
  have z25 : W24.heap.size + 0 ≤ W25.heap.size := hG_.size
  have hB25 : Below w.heap.size w W25 := hB24.trans (hG_.below (fun f hf => by have := Ix1 f hf; omega) (by have := hB24.size; omega))
  replace Bs0 := Bs0.same (hG_.block _ Bs0.size (fun hx => by have := Ix1 _ hx; omega))
  replace Bg0 := Bg0.same (hG_.block _ Bg0.size (fun hx => by have := Ix1 _ hx; omega))
  replace o_x0 := Ty.only (t := tIs) o_x0 hG_ (fun f hf hx => by have := Ix0 f hf; have := Ix1 f hx; omega)
  replace o_x2 := Ty.only (t := tIs) o_x2 hG_ (fun f hf hx => by have := Ix2 f hf; have := Ix1 f hx; omega)
  replace o_x4 := Ty.only (t := tBy) o_x4 hG_ (fun f hf hx => by have := Ix4 f hf; have := Ix1 f hx; omega)
  replace o_x5 := Ty.only (t := tBy) o_x5 hG_ (fun f hf hx => by have := Ix5 f hf; have := Ix1 f hx; omega)
  replace o_g0 := Ty.only (t := tCell) o_g0 hG_ (fun f hf hx => by have := Ig0 f hf; have := Ix1 f hx; omega)
  replace r_s0 := (tCell).keep r_s0 (fun b hb => hG_.block b (Nat.lt_of_lt_of_le hb (by omega)) (fun hx => by have := Ix1 b hx; omega))
  have k_Bs0_0 : W25.cell? ⟨W6.heap.size, 0, none⟩ = some (.slice As00 ns00 cs00) := Bs0.cell 0
  have k_Bg0_0 : W25.cell? ⟨W12.heap.size, 0, none⟩ = some (.slice Ag00 (r0).length cg00) := Bg0.cell 0
  clear hG_
  go_wp2_with fail
  refine (o_markIntS (1 + (((p0).length : Nat) : Int) + (((p1).length : Nat) : Int)) o_x2 (by omega) (by omega)).mono ?_
  rintro e W26 ⟨rfl, om_, hG_⟩
  clear k_Bs0_0
  clear k_Bg0_0
  replace o_x2 := om_
  clear om_
  have z26 : W25.heap.size + 0 ≤ W26.heap.size := hG_.size
  have hB26 : Below w.heap.size w W26 := hB25.trans (hG_.below (fun f hf => by have := Ix2 f hf; omega) (by have := hB25.size; omega))
  replace Bs0 := Bs0.same (hG_.block _ Bs0.size (fun hx => by have := Ix2 _ hx; omega))
  replace Bg0 := Bg0.same (hG_.block _ Bg0.size (fun hx => by have := Ix2 _ hx; omega))
  replace o_x0 := Ty.only (t := tIs) o_x0 hG_ (fun f hf hx => by have := Ix0 f hf; have := Ix2 f hx; omega)
  replace o_x1 := Ty.only (t := tIs) o_x1 hG_ (fun f hf hx => by have := Ix1 f hf; have := Ix2 f hx; omega)
  replace o_x4 := Ty.only (t := tBy) o_x4 hG_ (fun f hf hx => by have := Ix4 f hf; have := Ix2 f hx; omega)
  replace o_x5 := Ty.only (t := tBy) o_x5 hG_ (fun f hf hx => by have := Ix5 f hf; have := Ix2 f hx; omega)
  replace o_g0 := Ty.only (t := tCell) o_g0 hG_ (fun f hf hx => by have := Ig0 f hf; have := Ix2 f hx; omega)
  replace r_s0 := (tCell).keep r_s0 (fun b hb => hG_.block b (Nat.lt_of_lt_of_le hb (by omega)) (fun hx => by have := Ix2 b hx; omega))
  have k_Bs0_0 : W26.cell? ⟨W6.heap.size, 0, none⟩ = some (.slice As00 ns00 cs00) := Bs0.cell 0
  have k_Bg0_0 : W26.cell? ⟨W12.heap.size, 0, none⟩ = some (.slice Ag00 (r0).length cg00) := Bg0.cell 0
  clear hG_
  go_wp2_with fail
  refine (o_markByteS (1 + (((p0).length : Nat) : Int) + (((p1).length : Nat) : Int) + (((p2).length : Nat) : Int)) o_x4 (by omega) (by omega)).mono ?_
  rintro e W27 ⟨rfl, om_, hG_⟩
  clear k_Bs0_0
  clear k_Bg0_0
  replace o_x4 := om_
  clear om_
  have z27 : W26.heap.size + 0 ≤ W27.heap.size := hG_.size
  have hB27 : Below w.heap.size w W27 := hB26.trans (hG_.below (fun f hf => by have := Ix4 f hf; omega) (by have := hB26.size; omega))
  replace Bs0 := Bs0.same (hG_.block _ Bs0.size (fun hx => by have := Ix4 _ hx; omega))
  replace Bg0 := Bg0.same (hG_.block _ Bg0.size (fun hx => by have := Ix4 _ hx; omega))
  replace o_x0 := Ty.only (t := tIs) o_x0 hG_ (fun f hf hx => by have := Ix0 f hf; have := Ix4 f hx; omega)
  replace o_x1 := Ty.only (t := tIs) o_x1 hG_ (fun f hf hx => by have := Ix1 f hf; have := Ix4 f hx; omega)
  replace o_x2 := Ty.only (t := tIs) o_x2 hG_ (fun f hf hx => by have := Ix2 f hf; have := Ix4 f hx; omega)
  replace o_x5 := Ty.only (t := tBy) o_x5 hG_ (fun f hf hx => by have := Ix5 f hf; have := Ix4 f hx; omega)
  replace o_g0 := Ty.only (t := tCell) o_g0 hG_ (fun f hf hx => by have := Ig0 f hf; have := Ix4 f hx; omega)
  replace r_s0 := (tCell).keep r_s0 (fun b hb => hG_.block b (Nat.lt_of_lt_of_le hb (by omega)) (fun hx => by have := Ix4 b hx; omega))
  have k_Bs0_0 : W27.cell? ⟨W6.heap.size, 0, none⟩ = some (.slice As00 ns00 cs00) := Bs0.cell 0
  have k_Bg0_0 : W27.cell? ⟨W12.heap.size, 0, none⟩ = some (.slice Ag00 (r0).length cg00) := Bg0.cell 0
  clear hG_
  go_wp2_with fail
  refine (o_markByteS (1 + (((p0).length : Nat) : Int) + (((p1).length : Nat) : Int) + (((p2).length : Nat) : Int) + (((p4).length : Nat) : Int)) o_x5 (by omega) (by omega)).mono ?_
  rintro e W28 ⟨rfl, om_, hG_⟩
  clear k_Bs0_0
  clear k_Bg0_0
  replace o_x5 := om_
  clear om_
  have z28 : W27.heap.size + 0 ≤ W28.heap.size := hG_.size
  have hB28 : Below w.heap.size w W28 := hB27.trans (hG_.below (fun f hf => by have := Ix5 f hf; omega) (by have := hB27.size; omega))
  replace Bs0 := Bs0.same (hG_.block _ Bs0.size (fun hx => by have := Ix5 _ hx; omega))
  replace Bg0 := Bg0.same (hG_.block _ Bg0.size (fun hx => by have := Ix5 _ hx; omega))
  replace o_x0 := Ty.only (t := tIs) o_x0 hG_ (fun f hf hx => by have := Ix0 f hf; have := Ix5 f hx; omega)
  replace o_x1 := Ty.only (t := tIs) o_x1 hG_ (fun f hf hx => by have := Ix1 f hf; have := Ix5 f hx; omega)
  replace o_x2 := Ty.only (t := tIs) o_x2 hG_ (fun f hf hx => by have := Ix2 f hf; have := Ix5 f hx; omega)
  replace o_x4 := Ty.only (t := tBy) o_x4 hG_ (fun f hf hx => by have := Ix4 f hf; have := Ix5 f hx; omega)
  replace o_g0 := Ty.only (t := tCell) o_g0 hG_ (fun f hf hx => by have := Ig0 f hf; have := Ix5 f hx; omega)
  replace r_s0 := (tCell).keep r_s0 (fun b hb => hG_.block b (Nat.lt_of_lt_of_le hb (by omega)) (fun hx => by have := Ix5 b hx; omega))
  have k_Bs0_0 : W28.cell? ⟨W6.heap.size, 0, none⟩ = some (.slice As00 ns00 cs00) := Bs0.cell 0
  have k_Bg0_0 : W28.cell? ⟨W12.heap.size, 0, none⟩ = some (.slice Ag00 (r0).length cg00) := Bg0.cell 0
  clear hG_
  have dk : decide ((1 + (((p0).length : Nat) : Int) + (((p1).length : Nat) : Int) + (((p2).length : Nat) : Int) + (((p4).length : Nat) : Int) + (((p5).length : Nat) : Int) : Int) < 0) = false := by simp; omega
  clear o_x0 Ix0 Dx0
  clear o_x1 Ix1 Dx1
  clear o_x2 Ix2 Dx2
  clear o_x4 Ix4 Dx4
  clear o_x5 Ix5 Dx5
  go_wp2_with fail
  refine (o_eqCell ((tCell).reach ((tCell).read o_g0) ?hB) ((tCell).reach ((tCell).up r_s0 (by omega : W6.heap.size ≤ W28.heap.size)) ?hB)).mono ?_
  all_goals try (case hB => exact (belx))
  rintro e W29 ⟨rfl, hb_⟩
  clear k_Bs0_0
  clear k_Bg0_0
  have hs29 : Below W28.heap.size W28 W29 := bel_trans (belx) hb_
  have z29 : W28.heap.size + 0 ≤ W29.heap.size := by have := hb_.size; simpa using this
  have hB29 : Below w.heap.size w W29 := bel_trans hB28 hs29
  replace Bs0 := Bs0.below hs29 Bs0.size
  replace Bg0 := Bg0.below hs29 Bg0.size
  replace o_g0 := Ty.below (t := tCell) o_g0 hs29
  replace r_s0 := (tCell).keep r_s0 (fun b hb => hs29.block b (Nat.lt_of_lt_of_le hb (by omega)))
  have k_Bs0_0 : W29.cell? ⟨W6.heap.size, 0, none⟩ = some (.slice As00 ns00 cs00) := Bs0.cell 0
  have k_Bg0_0 : W29.cell? ⟨W12.heap.size, 0, none⟩ = some (.slice Ag00 (r0).length cg00) := Bg0.cell 0
  clear hb_
  go_wp2_with fail
  refine (o_markCell (1) o_g0 Dg0 (by omega) (by omega)).mono ?_
  rintro e W30 ⟨rfl, om_, hG_⟩
  clear k_Bs0_0
  clear k_Bg0_0
  replace o_g0 := om_
  clear om_
  have z30 : W29.heap.size + 0 ≤ W30.heap.size := hG_.size
  have hB30 : Below w.heap.size w W30 := hB29.trans (hG_.below (fun f hf => by have := Ig0 f hf; omega) (by have := hB29.size; omega))
  replace Bs0 := Bs0.same (hG_.block _ Bs0.size (fun hx => by have := Ig0 _ hx; omega))
  replace Bg0 := Bg0.same (hG_.block _ Bg0.size (fun hx => by have := Ig0 _ hx; omega))
  replace r_s0 := (tCell).keep r_s0 (fun b hb => hG_.block b (Nat.lt_of_lt_of_le hb (by omega)) (fun hx => by have := Ig0 b hx; omega))
  have k_Bs0_0 : W30.cell? ⟨W6.heap.size, 0, none⟩ = some (.slice As00 ns00 cs00) := Bs0.cell 0
  have k_Bg0_0 : W30.cell? ⟨W12.heap.size, 0, none⟩ = some (.slice Ag00 (r0).length cg00) := Bg0.cell 0
  clear hG_
  have dm : (((1 + ((cntCell (r0) : Nat) : Int) : Int)) != (1 + ((cntCell (r0) : Nat) : Int))) = false := by simp
  have dh0 : decide ((1 + ((cntCell (r0) : Nat) : Int) : Int) < 0) = false := by simp; omega
  go_wp2_with fail
  refine (o_heldCell (1) ((tCell).reach ((tCell).read o_g0) ?hB) (by omega) (by omega)).mono ?_
  all_goals try (case hB => exact (belx))
  rintro e W31 ⟨rfl, hb_⟩
  clear k_Bs0_0
  clear k_Bg0_0
  have hs31 : Below W30.heap.size W30 W31 := bel_trans (belx) hb_
  have z31 : W30.heap.size + 0 ≤ W31.heap.size := by have := hb_.size; simpa using this
  have hB31 : Below w.heap.size w W31 := bel_trans hB30 hs31
  replace Bs0 := Bs0.below hs31 Bs0.size
  replace Bg0 := Bg0.below hs31 Bg0.size
  replace o_g0 := Ty.below (t := tCell) o_g0 hs31
  replace r_s0 := (tCell).keep r_s0 (fun b hb => hs31.block b (Nat.lt_of_lt_of_le hb (by omega)))
  have k_Bs0_0 : W31.cell? ⟨W6.heap.size, 0, none⟩ = some (.slice As00 ns00 cs00) := Bs0.cell 0
  have k_Bg0_0 : W31.cell? ⟨W12.heap.size, 0, none⟩ = some (.slice Ag00 (r0).length cg00) := Bg0.cell 0
  clear hb_
  go_wp2_with fail
  refine (o_toIntS ((tIs).reach ((tIs).reach h0 hB31) ?hB) (by omega)).mono ?_
  all_goals try (case hB => exact (belx))
  rintro e W32 ⟨Ay0, cy0, Fy0, rfl, o_y0, Ny0, hb_⟩
  clear k_Bs0_0
  clear k_Bg0_0
  have Iy0 : ∀ f ∈ Fy0, W31.heap.size + 0 ≤ f ∧ f < W32.heap.size := fun f hf => ⟨Nat.le_trans (by first | (simp; done) | (simp; omega)) (Ny0.2 f hf), (tIs).lt o_y0 f hf⟩
  have Dy0 := Ny0.1
  clear Ny0
  have hs32 : Below W31.heap.size W31 W32 := bel_trans (belx) hb_
  have z32 : W31.heap.size + 0 ≤ W32.heap.size := by have := hb_.size; simpa using this
  have hB32 : Below w.heap.size w W32 := bel_trans hB31 hs32
  replace Bs0 := Bs0.below hs32 Bs0.size
  replace Bg0 := Bg0.below hs32 Bg0.size
  replace o_g0 := Ty.below (t := tCell) o_g0 hs32
  replace r_s0 := (tCell).keep r_s0 (fun b hb => hs32.block b (Nat.lt_of_lt_of_le hb (by omega)))
  have k_Bs0_0 : W32.cell? ⟨W6.heap.size, 0, none⟩ = some (.slice As00 ns00 cs00) := Bs0.cell 0
  have k_Bg0_0 : W32.cell? ⟨W12.heap.size, 0, none⟩ = some (.slice Ag00 (r0).length cg00) := Bg0.cell 0
  clear hb_
  go_wp2_with fail
  refine (o_toIntS ((tIs).reach ((tIs).reach h1 hB32) ?hB) (by omega)).mono ?_
  all_goals try (case hB => exact (belx))
  rintro e W33 ⟨Ay1, cy1, Fy1, rfl, o_y1, Ny1, hb_⟩
  clear k_Bs0_0
  clear k_Bg0_0
  have Iy1 : ∀ f ∈ Fy1, W32.heap.size + 0 ≤ f ∧ f < W33.heap.size := fun f hf => ⟨Nat.le_trans (by first | (simp; done) | (simp; omega)) (Ny1.2 f hf), (tIs).lt o_y1 f hf⟩
  have Dy1 := Ny1.1
  clear Ny1
  have hs33 : Below W32.heap.size W32 W33 := bel_trans (belx) hb_
  have z33 : W32.heap.size + 0 ≤ W33.heap.size := by have := hb_.size; simpa using this
  have hB33 : Below w.heap.size w W33 := bel_trans hB32 hs33
  replace Bs0 := Bs0.below hs33 Bs0.size
  replace Bg0 := Bg0.below hs33 Bg0.size
  replace o_g0 := Ty.below (t := tCell) o_g0 hs33
  replace o_y0 := Ty.below (t := tIs) o_y0 hs33
  replace r_s0 := (tCell).keep r_s0 (fun b hb => hs33.block b (Nat.lt_of_lt_of_le hb (by omega)))
  have k_Bs0_0 : W33.cell? ⟨W6.heap.size, 0, none⟩ = some (.slice As00 ns00 cs00) := Bs0.cell 0
  have k_Bg0_0 : W33.cell? ⟨W12.heap.size, 0, none⟩ = some (.slice Ag00 (r0).length cg00) := Bg0.cell 0
  clear hb_
  go_wp2_with fail
  refine (o_toIntS ((tIs).reach ((tIs).reach h2 hB33) ?hB) (by omega)).mono ?_
  all_goals try (case hB => exact (belx))
  rintro e W34 ⟨Ay2, cy2, Fy2, rfl, o_y2, Ny2, hb_⟩
  clear k_Bs0_0
  clear k_Bg0_0
  have Iy2 : ∀ f ∈ Fy2, W33.heap.size + 0 ≤ f ∧ f < W34.heap.size := fun f hf => ⟨Nat.le_trans (by first | (simp; done) | (simp; omega)) (Ny2.2 f hf), (tIs).lt o_y2 f hf⟩
  have Dy2 := Ny2.1
  clear Ny2
  have hs34 : Below W33.heap.size W33 W34 := bel_trans (belx) hb_
  have z34 : W33.heap.size + 0 ≤ W34.heap.size := by have := hb_.size; simpa using this
  have hB34 : Below w.heap.size w W34 := bel_trans hB33 hs34
  replace Bs0 := Bs0.below hs34 Bs0.size
  replace Bg0 := Bg0.below hs34 Bg0.size
  replace o_g0 := Ty.below (t := tCell) o_g0 hs34
  replace o_y0 := Ty.below (t := tIs) o_y0 hs34
  replace o_y1 := Ty.below (t := tIs) o_y1 hs34
  replace r_s0 := (tCell).keep r_s0 (fun b hb => hs34.block b (Nat.lt_of_lt_of_le hb (by omega)))
  have k_Bs0_0 : W34.cell? ⟨W6.heap.size, 0, none⟩ = some (.slice As00 ns00 cs00) := Bs0.cell 0
  have k_Bg0_0 : W34.cell? ⟨W12.heap.size, 0, none⟩ = some (.slice Ag00 (r0).length cg00) := Bg0.cell 0
  clear hb_
  go_wp2_with fail
  refine (o_toByteS ((tBy).reach ((tBy).reach h4 hB34) ?hB) (by omega)).mono ?_
  all_goals try (case hB => exact (belx))
  rintro e W35 ⟨Ay4, cy4, Fy4, rfl, o_y4, Ny4, hb_⟩
  clear k_Bs0_0
  clear k_Bg0_0
  have Iy4 : ∀ f ∈ Fy4, W34.heap.size + 0 ≤ f ∧ f < W35.heap.size := fun f hf => ⟨Nat.le_trans (by first | (simp; done) | (simp; omega)) (Ny4.2 f hf), (tBy).lt o_y4 f hf⟩
  have Dy4 := Ny4.1
  clear Ny4
  have hs35 : Below W34.heap.size W34 W35 := bel_trans (belx) hb_
  have z35 : W34.heap.size + 0 ≤ W35.heap.size := by have := hb_.size; simpa using this
  have hB35 : Below w.heap.size w W35 := bel_trans hB34 hs35
  replace Bs0 := Bs0.below hs35 Bs0.size
  replace Bg0 := Bg0.below hs35 Bg0.size
  replace o_g0 := Ty.below (t := tCell) o_g0 hs35
  replace o_y0 := Ty.below (t := tIs) o_y0 hs35
  replace o_y1 := Ty.below (t := tIs) o_y1 hs35
  replace o_y2 := Ty.below (t := tIs) o_y2 hs35
  replace r_s0 := (tCell).keep r_s0 (fun b hb => hs35.block b (Nat.lt_of_lt_of_le hb (by omega)))
  have k_Bs0_0 : W35.cell? ⟨W6.heap.size, 0, none⟩ = some (.slice As00 ns00 cs00) := Bs0.cell 0
  have k_Bg0_0 : W35.cell? ⟨W12.heap.size, 0, none⟩ = some (.slice Ag00 (r0).length cg00) := Bg0.cell 0
  clear hb_
  go_wp2_with fail
  refine (o_toByteS ((tBy).reach ((tBy).reach h5 hB35) ?hB) (by omega)).mono ?_
  all_goals try (case hB => exact (belx))
  rintro e W36 ⟨Ay5, cy5, Fy5, rfl, o_y5, Ny5, hb_⟩
  clear k_Bs0_0
  clear k_Bg0_0
  have Iy5 : ∀ f ∈ Fy5, W35.heap.size + 0 ≤ f ∧ f < W36.heap.size := fun f hf => ⟨Nat.le_trans (by first | (simp; done) | (simp; omega)) (Ny5.2 f hf), (tBy).lt o_y5 f hf⟩
  have Dy5 := Ny5.1
  clear Ny5
  have hs36 : Below W35.heap.size W35 W36 := bel_trans (belx) hb_
  have z36 : W35.heap.size + 0 ≤ W36.heap.size := by have := hb_.size; simpa using this
  have hB36 : Below w.heap.size w W36 := bel_trans hB35 hs36
  replace Bs0 := Bs0.below hs36 Bs0.size
  replace Bg0 := Bg0.below hs36 Bg0.size
  replace o_g0 := Ty.below (t := tCell) o_g0 hs36
  replace o_y0 := Ty.below (t := tIs) o_y0 hs36
  replace o_y1 := Ty.below (t := tIs) o_y1 hs36
  replace o_y2 := Ty.below (t := tIs) o_y2 hs36
  replace o_y4 := Ty.below (t := tBy) o_y4 hs36
  replace r_s0 := (tCell).keep r_s0 (fun b hb => hs36.block b (Nat.lt_of_lt_of_le hb (by omega)))
  have k_Bs0_0 : W36.cell? ⟨W6.heap.size, 0, none⟩ = some (.slice As00 ns00 cs00) := Bs0.cell 0
  have k_Bg0_0 : W36.cell? ⟨W12.heap.size, 0, none⟩ = some (.slice Ag00 (r0).length cg00) := Bg0.cell 0
  clear hb_
  go_wp2_with fail
  refine (i_WrapR ((tIs).reach ((tIs).read o_y0) ?hB) (by omega) ((tIs).reach ((tIs).read o_y1) ?hB) (by omega) ((tIs).reach ((tIs).read o_y2) ?hB) (by omega) w3 ((tBy).reach ((tBy).read o_y4) ?hB) (by omega) ((tBy).reach ((tBy).read o_y5) ?hB) (by omega)).mono ?_
  all_goals try (case hB => exact (belx))
  rintro e W37 ⟨csh0, Fh0, rfl, o_h0, Nh, hb_⟩
  clear k_Bs0_0
  clear k_Bg0_0
  clear o_y0 Iy0 Dy0
  clear o_y1 Iy1 Dy1
  clear o_y2 Iy2 Dy2
  clear o_y4 Iy4 Dy4
  clear o_y5 Iy5 Dy5
  rw [HR0.out] at o_h0
  rw [HR1.out]
  obtain ⟨Ah00, ch00, Fh00, rfl, -, -, -, -⟩ := openOCell o_h0
  have Ih0 : ∀ f ∈ Fh0, W36.heap.size + 0 ≤ f ∧ f < W37.heap.size := fun f hf => ⟨Nat.le_trans (by first | (simp; done) | (simp; omega)) (Nh.2 f (by simp [hf])), (tCell).lt o_h0 f hf⟩
  have Dh0 := Nh.1
  clear Nh
  have hs37 : Below W36.heap.size W36 W37 := bel_trans (belx) hb_
  have z37 : W36.heap.size + 0 ≤ W37.heap.size := by have := hb_.size; simpa using this
  have hB37 : Below w.heap.size w W37 := bel_trans hB36 hs37
  replace Bs0 := Bs0.below hs37 Bs0.size
  replace Bg0 := Bg0.below hs37 Bg0.size
  replace o_g0 := Ty.below (t := tCell) o_g0 hs37
  replace r_s0 := (tCell).keep r_s0 (fun b hb => hs37.block b (Nat.lt_of_lt_of_le hb (by omega)))
  have k_Bs0_0 : W37.cell? ⟨W6.heap.size, 0, none⟩ = some (.slice As00 ns00 cs00) := Bs0.cell 0
  have k_Bg0_0 : W37.cell? ⟨W12.heap.size, 0, none⟩ = some (.slice Ag00 (r0).length cg00) := Bg0.cell 0
  clear hb_
  have d_Bs0_0 : (W37.alloc (.cells #[.slice Ah00 (r0).length ch00] 38)).cell? ⟨W6.heap.size, 0, none⟩ = some (.slice As00 ns00 cs00) := (Bs0.alloc _).cell 0
  have d_Bg0_0 : (W37.alloc (.cells #[.slice Ah00 (r0).length ch00] 38)).cell? ⟨W12.heap.size, 0, none⟩ = some (.slice Ag00 (r0).length cg00) := (Bg0.alloc _).cell 0
  go_wp2_with fail
  refine (o_eqCell ((tCell).reach ((tCell).read o_h0) ?hB) ((tCell).reach ((tCell).up r_s0 (by omega : W6.heap.size ≤ W37.heap.size)) ?hB)).mono ?_
  all_goals try (case hB => exact (belx))
  rintro e W38 ⟨rfl, hb_⟩
  clear d_Bs0_0 d_Bg0_0
  clear k_Bs0_0
  clear k_Bg0_0
  have hs38 : Below W37.heap.size W37 W38 := bel_trans (belx) hb_
  have z38 : W37.heap.size + 1 ≤ W38.heap.size := by have := hb_.size; simpa using this
  have hB38 : Below w.heap.size w W38 := bel_trans hB37 hs38
  replace Bs0 := Bs0.below hs38 Bs0.size
  replace Bg0 := Bg0.below hs38 Bg0.size
  have Bh0 : Box W38 (W37.heap.size) 38 #[.slice Ah00 (r0).length ch00] := Box.below (Box.new _ _ _) hb_ (by first | (simp; done) | (simp; omega))
  replace o_g0 := Ty.below (t := tCell) o_g0 hs38
  replace o_h0 := Ty.below (t := tCell) o_h0 hs38
  replace r_s0 := (tCell).keep r_s0 (fun b hb => hs38.block b (Nat.lt_of_lt_of_le hb (by omega)))
  have k_Bs0_0 : W38.cell? ⟨W6.heap.size, 0, none⟩ = some (.slice As00 ns00 cs00) := Bs0.cell 0
  have k_Bg0_0 : W38.cell? ⟨W12.heap.size, 0, none⟩ = some (.slice Ag00 (r0).length cg00) := Bg0.cell 0
  have k_Bh0_0 : W38.cell? ⟨W37.heap.size, 0, none⟩ = some (.slice Ah00 (r0).length ch00) := Bh0.cell 0
  clear hb_
  go_wp2_with fail
  refine (o_heldCell (1) ((tCell).reach ((tCell).read o_g0) ?hB) (by omega) (by omega)).mono ?_
  all_goals try (case hB => exact (belx))
  rintro e W39 ⟨rfl, hb_⟩
  clear k_Bs0_0
  clear k_Bg0_0
  clear k_Bh0_0
  have hs39 : Below W38.heap.size W38 W39 := bel_trans (belx) hb_
  have z39 : W38.heap.size + 0 ≤ W39.heap.size := by have := hb_.size; simpa using this
  have hB39 : Below w.heap.size w W39 := bel_trans hB38 hs39
  replace Bs0 := Bs0.below hs39 Bs0.size
  replace Bg0 := Bg0.below hs39 Bg0.size
  replace Bh0 := Bh0.below hs39 Bh0.size
  replace o_g0 := Ty.below (t := tCell) o_g0 hs39
  replace o_h0 := Ty.below (t := tCell) o_h0 hs39
  replace r_s0 := (tCell).keep r_s0 (fun b hb => hs39.block b (Nat.lt_of_lt_of_le hb (by omega)))
  have k_Bs0_0 : W39.cell? ⟨W6.heap.size, 0, none⟩ = some (.slice As00 ns00 cs00) := Bs0.cell 0
  have k_Bg0_0 : W39.cell? ⟨W12.heap.size, 0, none⟩ = some (.slice Ag00 (r0).length cg00) := Bg0.cell 0
  have k_Bh0_0 : W39.cell? ⟨W37.heap.size, 0, none⟩ = some (.slice Ah00 (r0).length ch00) := Bh0.cell 0
  clear hb_
  go_wp2_with fail
  go_ret
  exact ⟨rfl, hB39⟩

/-! ### THE ROW's STEP -/
set_option maxHeartbeats 400000 in
set_option maxRecDepth 100000 in
theorem lifted (os : Os) (started : os.Started) (H : Type) (enc : TypeId × Value → H) :
    ReturnsInHanded {} Try.checked os 4 .any (Rows.fnExactWrapSpec.pre6 enc Try.prog Try.f4 Rows.fnExactWrapRow.domain false) (Rows.fnExactWrapSpec.post enc Try.prog Try.f4 false true false false) := by
  refine returnsInHanded_of_change (C := Try.checked) own started (by kernel_rfl) Try.func4
    (ChangeSpec.witness6 (enc := enc) (C := Try.checked) false ⟨#[], #[.slice none 0 0, .slice none 0 0, .slice none 0 0, .int .i64 0, .slice none 0 0, .slice none 0 0], []⟩ 8 (by kernel_rfl) (by kernel_rfl) (by kernel_rfl) (by kernel_rfl)) ?_
  intro W base args ds gs before hval0 hW hcnd _
  have hval : ∀ (j : Nat) t v, Try.f4.params[j]? = some t → args[j]? = some v → Value.okWide Try.prog W .any base t v := hval0
  have hW' := hW
  obtain ⟨p, q, hA0, hV, rfl, hfz, hnd⟩ := hW
  have hA : DataW.TrodAll enc Try.prog W 0 (fun _ => true) true Try.f4.params.toList args.toList ds p := hA0
  rw [Try.params4] at hA hval
  obtain ⟨v0, vs0, d0, ds0, p0, q0, hargs, rfl, rfl, h0, r0⟩ := trodAll_cons hA
  obtain ⟨v1, vs1, d1, ds1, p1, q1, rfl, rfl, rfl, h1, r1⟩ := trodAll_cons r0
  obtain ⟨v2, vs2, d2, ds2, p2, q2, rfl, rfl, rfl, h2, r2⟩ := trodAll_cons r1
  obtain ⟨v3, vs3, d3, ds3, p3, q3, rfl, rfl, rfl, h3, r3⟩ := trodAll_cons r2
  obtain ⟨v4, vs4, d4, ds4, p4, q4, rfl, rfl, rfl, h4, r4⟩ := trodAll_cons r3
  obtain ⟨v5, vs5, d5, ds5, p5, q5, rfl, rfl, rfl, h5, r5⟩ := trodAll_cons r4
  obtain ⟨rfl, rfl, rfl⟩ := trodAll_nil r5
  obtain rfl : args = #[v0, v1, v2, v3, v4, v5] := by cases args; simp_all
  obtain ⟨rfl, rfl⟩ := trodVars_none hV
  obtain ⟨A0, n0, c0, rfl⟩ := okWide_slice Try.underlying23 (hval 0 23 v0 rfl rfl)
  have k0 := h0
  have lt0 : ∀ x ∈ p0, x.block < W.heap.size := by obtain ⟨m, hm⟩ := k0; exact DataW.trod_lt m _ _ _ hm
  obtain ⟨x0, w0⟩ : ∃ a, tIs.R W W.heap.size [.slice A0 n0 c0] a := by
    obtain ⟨fuel, hf⟩ := h0
    exact frR_is fuel _ _ (by simpa [Value.cells] using hf)
  obtain ⟨A1, n1, c1, rfl⟩ := okWide_slice Try.underlying23 (hval 1 23 v1 rfl rfl)
  have k1 := h1
  have lt1 : ∀ x ∈ p1, x.block < W.heap.size := by obtain ⟨m, hm⟩ := k1; exact DataW.trod_lt m _ _ _ hm
  obtain ⟨x1, w1⟩ : ∃ a, tIs.R W W.heap.size [.slice A1 n1 c1] a := by
    obtain ⟨fuel, hf⟩ := h1
    exact frR_is fuel _ _ (by simpa [Value.cells] using hf)
  obtain ⟨A2, n2, c2, rfl⟩ := okWide_slice Try.underlying23 (hval 2 23 v2 rfl rfl)
  have k2 := h2
  have lt2 : ∀ x ∈ p2, x.block < W.heap.size := by obtain ⟨m, hm⟩ := k2; exact DataW.trod_lt m _ _ _ hm
  obtain ⟨x2, w2⟩ : ∃ a, tIs.R W W.heap.size [.slice A2 n2 c2] a := by
    obtain ⟨fuel, hf⟩ := h2
    exact frR_is fuel _ _ (by simpa [Value.cells] using hf)
  obtain ⟨a3, rfl, rfl, rfl, w3⟩ := open_int Try.underlying3 (hval 3 3 v3 rfl rfl) h3
  obtain ⟨A4, n4, c4, rfl⟩ := okWide_slice Try.underlying36 (hval 4 36 v4 rfl rfl)
  have k4 := h4
  have lt4 : ∀ x ∈ p4, x.block < W.heap.size := by obtain ⟨m, hm⟩ := k4; exact DataW.trod_lt m _ _ _ hm
  obtain ⟨x4, w4⟩ : ∃ a, tBy.R W W.heap.size [.slice A4 n4 c4] a := by
    obtain ⟨fuel, hf⟩ := h4
    exact frR_by fuel _ _ (by simpa [Value.cells] using hf)
  obtain ⟨A5, n5, c5, rfl⟩ := okWide_slice Try.underlying36 (hval 5 36 v5 rfl rfl)
  have k5 := h5
  have lt5 : ∀ x ∈ p5, x.block < W.heap.size := by obtain ⟨m, hm⟩ := k5; exact DataW.trod_lt m _ _ _ hm
  obtain ⟨x5, w5⟩ : ∃ a, tBy.R W W.heap.size [.slice A5 n5 c5] a := by
    obtain ⟨fuel, hf⟩ := h5
    exact frR_by fuel _ _ (by simpa [Value.cells] using hf)
  clear hA0 hval0
  refine (walk A0 n0 c0 x0 A1 n1 c1 x1 A2 n2 c2 x2 a3 A4 n4 c4 x4 A5 n5 c5 x5 W w0 w1 w2 w3 w4 w5).mono fun e W' ⟨he, bel⟩ => ?_
  subst he
  exact ⟨_, rfl, _, _, _, [], _, [], hW', trodAll_mk1 (shut_bool Try.underlying4 _), (trodAll_cons_mk (Below.trod laidOut (by kernel_rfl) (of_decide_eq_true (by kernel_rfl)) k0 bel lt0) (trodAll_cons_mk (Below.trod laidOut (by kernel_rfl) (of_decide_eq_true (by kernel_rfl)) k1 bel lt1) (trodAll_cons_mk (Below.trod laidOut (by kernel_rfl) (of_decide_eq_true (by kernel_rfl)) k2 bel lt2) (trodAll_cons_mk (shut_int Try.underlying3 w3) (trodAll_cons_mk (Below.trod laidOut (by kernel_rfl) (of_decide_eq_true (by kernel_rfl)) k4 bel lt4) (trodAll_cons_mk (Below.trod laidOut (by kernel_rfl) (of_decide_eq_true (by kernel_rfl)) k5 bel lt5) trodAll_mk0)))))), rfl, bel.frame _, fun h => by cases h⟩

theorem over : Rows.fnExactWrapRow.holds Try.pinned (OpenSpec.ofChange Rows.fnExactWrapSpec) :=
  OpenClaim.holds_of_wide 4 Try.f4 rfl rfl rfl rfl rfl rfl rfl ⟨rfl, rfl, rfl, rfl, rfl⟩ rfl rfl rfl rfl rfl (by kernel_rfl) Try.func4 (by kernel_rfl)
    (of_decide_eq_true (by kernel_rfl)) (by unfold Func.isWrapper; first | (rw [if_pos (by decide +kernel)]; kernel_rfl) | (rw [if_neg (by decide +kernel)]; exact ⟨rfl, rfl⟩))
    (fun os started H enc _ => lifted os started H enc)

theorem proved : Rows.FnExactWrapSaid := over
#print axioms proved
end Go.Proofs.Ytojbicecopkfbaa.fnExactWrap
