/-
  For every argument (in all at most 2^20 elements) the program's PoolRead answers as its model does, in every field, writes into no argument, and its answer owns its memory. No further condition.
-/
import Derived.Test.YtnfmjgldcnokbaaPGi
import Derived.Test.YtnfmjgldcnokbaaPGo
import Derived.Test.YtnfmjgldcnokbaaPGs
import Derived.Test.YtnfmjgldcnokbaaPMFr
import Derived.Test.YtnfmjgldcnokbaaRows
import Derived.Below
import Derived.ChangeOld
import Derived.Deep.RegionHeld3
import Derived.OpenShut
import Derived.ProofKit
import Derived.ShutString
import Derived.WalkKit
namespace Go.Proofs.Ytnfmjgldcnokbaa.fnExactPoolRead
open Go.ChangeShapes Go.WideShapes Go.ChangeAt Go.RowKit
open Go.ChangeMaps (open_string shut_string)
set_option linter.unusedVariables false

open Go.Proofs.Ytnfmjgldcnokbaa
theorem own : ownKnob Try.prog.godebug = none := by kernel_rfl
theorem laidOut : laidOutB Try.prog = true := by kernel_rfl



/-! ### STEP 1: the walk -/
set_option maxRecDepth 100000 in
set_option maxHeartbeats 2000000 in
theorem walk (A0 : Option Addr) (n0 c0 : Nat) (p0 : List Int) (w : World) (h0 : (tBy).R w w.heap.size [.slice A0 n0 c0] p0) :
    Calls Try.prog 7 #[.slice A0 n0 c0] w fun e w' => e = .returned (.bool true) ∧ Below w.heap.size w w' := by
  have hn0 := (slR_ints h0).1.1
  by_cases hz0 : (p0).length ≤ 1048576
  rotate_left
  · have q_ : (1048576 : Int) < (n0 : Int) := by omega
    go_enter Try.func7, Try.ntmps7
    go_wp2
    go_ret
    exact ⟨rfl, (belx)⟩
  have q_0 : ¬ (1048576 : Int) < (n0 : Int) := by omega
  clear hn0
  have hzr0 : szPool (fRd p0) ≤ 1048576 := (by have := fRd_sz p0; omega)
  have hcr0 := cntPool_le (fRd p0)
  obtain ⟨r0, hr0⟩ : ∃ r, fRd p0 = r := ⟨_, rfl⟩
  have HR0 := Lib.hid hr0
  rw [hr0] at hzr0 hcr0
  clear hr0
  obtain ⟨r1, hr1⟩ : ∃ r, decide (RdOk p0) = r := ⟨_, rfl⟩
  have HR1 := Lib.hid hr1
  have qr1 : (r1 != r1) = false := by simp
  clear hr1
  go_enter Try.func7, Try.ntmps7
  go_wp2_with fail
  refine (o_toByteS ((tBy).reach h0 ?hB) (by omega)).mono ?_
  all_goals try (case hB => exact (belx))
  rintro e W1 ⟨Ay0, cy0, Fy0, rfl, o_y0, Ny0, hb_⟩
  have Iy0 : ∀ f ∈ Fy0, w.heap.size + 0 ≤ f ∧ f < W1.heap.size := fun f hf => ⟨Nat.le_trans (by first | (simp; done) | (simp; omega)) (Ny0.2 f hf), (tBy).lt o_y0 f hf⟩
  have Dy0 := Ny0.1
  clear Ny0
  have hs1 : Below w.heap.size w W1 := bel_trans (belx) hb_
  have z1 : w.heap.size + 0 ≤ W1.heap.size := by have := hb_.size; simpa using this
  have hB1 : Below w.heap.size w W1 := hs1
  clear hb_
  go_wp2_with fail
  refine (s_PoolRead ((tBy).reach ((tBy).read o_y0) ?hB) (by omega)).mono ?_
  all_goals try (case hB => exact (belx))
  rintro e W2 ⟨css0, rfl, r_s0, hb_⟩
  clear o_y0 Iy0 Dy0
  rw [HR0.out] at r_s0
  rw [HR1.out]
  obtain ⟨As00, ns00, cs00, As01, ns01, cs01, rfl, -, -, -, -, -, -, -, -⟩ := openPool r_s0
  have hs2 : Below W1.heap.size W1 W2 := bel_trans (belx) hb_
  have z2 : W1.heap.size + 0 ≤ W2.heap.size := by have := hb_.size; simpa using this
  have hB2 : Below w.heap.size w W2 := bel_trans hB1 hs2
  clear hb_
  go_wp2_with fail
  refine (o_toByteS ((tBy).reach ((tBy).reach h0 hB2) ?hB) (by omega)).mono ?_
  all_goals try (case hB => exact (belx))
  rintro e W3 ⟨Ax0, cx0, Fx0, rfl, o_x0, Nx0, hb_⟩
  have Ix0 : ∀ f ∈ Fx0, W2.heap.size + 1 ≤ f ∧ f < W3.heap.size := fun f hf => ⟨Nat.le_trans (by first | (simp; done) | (simp; omega)) (Nx0.2 f hf), (tBy).lt o_x0 f hf⟩
  have Dx0 := Nx0.1
  clear Nx0
  have hs3 : Below W2.heap.size W2 W3 := bel_trans (belx) hb_
  have z3 : W2.heap.size + 1 ≤ W3.heap.size := by have := hb_.size; simpa using this
  have hB3 : Below w.heap.size w W3 := bel_trans hB2 hs3
  have Bs0 : Box W3 (W2.heap.size) 54 #[.slice As00 ns00 cs00, .slice As01 ns01 cs01] := Box.below (Box.new _ _ _) hb_ (by first | (simp; done) | (simp; omega))
  replace r_s0 := (tPool).keep r_s0 (fun b hb => hs3.block b (Nat.lt_of_lt_of_le hb (by omega)))
  have k_Bs0_0 : W3.cell? ⟨W2.heap.size, 0, none⟩ = some (.slice As00 ns00 cs00) := Bs0.cell 0
  have k_Bs0_1 : W3.cell? ⟨W2.heap.size, 1, none⟩ = some (.slice As01 ns01 cs01) := Bs0.cell 1
  clear hb_
  go_wp2_with fail
  refine (i_PoolRead ((tBy).reach ((tBy).read o_x0) ?hB) (by omega)).mono ?_
  all_goals try (case hB => exact (belx))
  rintro e W4 ⟨csg0, Fg0, rfl, o_g0, Ng, hb_⟩
  clear k_Bs0_0 k_Bs0_1
  rw [HR0.out] at o_g0
  rw [HR1.out]
  obtain ⟨Ag00, cg00, Fg00, Ag01, cg01, Fg01, rfl, -, -, -, -, -, -, -⟩ := openOPool o_g0
  have Ig0 : ∀ f ∈ Fg0, W3.heap.size + 0 ≤ f ∧ f < W4.heap.size := fun f hf => ⟨Nat.le_trans (by first | (simp; done) | (simp; omega)) (Ng.2 f (by simp [hf])), (tPool).lt o_g0 f hf⟩
  have Dg0 := Ng.1
  clear Ng
  have hs4 : Below W3.heap.size W3 W4 := bel_trans (belx) hb_
  have z4 : W3.heap.size + 0 ≤ W4.heap.size := by have := hb_.size; simpa using this
  have hB4 : Below w.heap.size w W4 := bel_trans hB3 hs4
  replace Bs0 := Bs0.below hs4 Bs0.size
  replace o_x0 := Ty.below (t := tBy) o_x0 hs4
  replace r_s0 := (tPool).keep r_s0 (fun b hb => hs4.block b (Nat.lt_of_lt_of_le hb (by omega)))
  have k_Bs0_0 : W4.cell? ⟨W2.heap.size, 0, none⟩ = some (.slice As00 ns00 cs00) := Bs0.cell 0
  have k_Bs0_1 : W4.cell? ⟨W2.heap.size, 1, none⟩ = some (.slice As01 ns01 cs01) := Bs0.cell 1
  clear hb_
  have d_Bs0_0 : (W4.alloc (.cells #[.slice Ag00 (r0.1).length cg00, .slice Ag01 (r0.2).length cg01] 54)).cell? ⟨W2.heap.size, 0, none⟩ = some (.slice As00 ns00 cs00) := (Bs0.alloc _).cell 0
  have d_Bs0_1 : (W4.alloc (.cells #[.slice Ag00 (r0.1).length cg00, .slice Ag01 (r0.2).length cg01] 54)).cell? ⟨W2.heap.size, 1, none⟩ = some (.slice As01 ns01 cs01) := (Bs0.alloc _).cell 1
  go_wp2_with fail
  refine (o_eqPool ((tPool).reach ((tPool).read o_g0) ?hB) ((tPool).reach ((tPool).up r_s0 (by omega : W2.heap.size ≤ W4.heap.size)) ?hB)).mono ?_
  all_goals try (case hB => exact (belx))
  rintro e W5 ⟨rfl, hb_⟩
  clear d_Bs0_0 d_Bs0_1
  clear k_Bs0_0 k_Bs0_1
  have hs5 : Below W4.heap.size W4 W5 := bel_trans (belx) hb_
  have z5 : W4.heap.size + 1 ≤ W5.heap.size := by have := hb_.size; simpa using this
  have hB5 : Below w.heap.size w W5 := bel_trans hB4 hs5
  replace Bs0 := Bs0.below hs5 Bs0.size
  have Bg0 : Box W5 (W4.heap.size) 54 #[.slice Ag00 (r0.1).length cg00, .slice Ag01 (r0.2).length cg01] := Box.below (Box.new _ _ _) hb_ (by first | (simp; done) | (simp; omega))
  replace o_x0 := Ty.below (t := tBy) o_x0 hs5
  replace o_g0 := Ty.below (t := tPool) o_g0 hs5
  replace r_s0 := (tPool).keep r_s0 (fun b hb => hs5.block b (Nat.lt_of_lt_of_le hb (by omega)))
  have k_Bs0_0 : W5.cell? ⟨W2.heap.size, 0, none⟩ = some (.slice As00 ns00 cs00) := Bs0.cell 0
  have k_Bs0_1 : W5.cell? ⟨W2.heap.size, 1, none⟩ = some (.slice As01 ns01 cs01) := Bs0.cell 1
  have k_Bg0_0 : W5.cell? ⟨W4.heap.size, 0, none⟩ = some (.slice Ag00 (r0.1).length cg00) := Bg0.cell 0
  have k_Bg0_1 : W5.cell? ⟨W4.heap.size, 1, none⟩ = some (.slice Ag01 (r0.2).length cg01) := Bg0.cell 1
  clear hb_
  go_wp2_with fail
  refine (o_toByteS ((tBy).reach ((tBy).reach h0 hB5) ?hB) (by omega)).mono ?_
  all_goals try (case hB => exact (belx))
  rintro e W6 ⟨Av, cv, Fv, rfl, o_v, Nv, hb_⟩
  clear k_Bs0_0 k_Bs0_1
  clear k_Bg0_0 k_Bg0_1
  have Iv : ∀ f ∈ Fv, W5.heap.size + 0 ≤ f ∧ f < W6.heap.size := fun f hf => ⟨Nat.le_trans (by first | (simp; done) | (simp; omega)) (Nv.2 f hf), (tBy).lt o_v f hf⟩
  have Dv := Nv.1
  clear Nv
  have hs6 : Below W5.heap.size W5 W6 := bel_trans (belx) hb_
  have z6 : W5.heap.size + 0 ≤ W6.heap.size := by have := hb_.size; simpa using this
  have hB6 : Below w.heap.size w W6 := bel_trans hB5 hs6
  replace Bs0 := Bs0.below hs6 Bs0.size
  replace Bg0 := Bg0.below hs6 Bg0.size
  replace o_x0 := Ty.below (t := tBy) o_x0 hs6
  replace o_g0 := Ty.below (t := tPool) o_g0 hs6
  replace r_s0 := (tPool).keep r_s0 (fun b hb => hs6.block b (Nat.lt_of_lt_of_le hb (by omega)))
  have k_Bs0_0 : W6.cell? ⟨W2.heap.size, 0, none⟩ = some (.slice As00 ns00 cs00) := Bs0.cell 0
  have k_Bs0_1 : W6.cell? ⟨W2.heap.size, 1, none⟩ = some (.slice As01 ns01 cs01) := Bs0.cell 1
  have k_Bg0_0 : W6.cell? ⟨W4.heap.size, 0, none⟩ = some (.slice Ag00 (r0.1).length cg00) := Bg0.cell 0
  have k_Bg0_1 : W6.cell? ⟨W4.heap.size, 1, none⟩ = some (.slice Ag01 (r0.2).length cg01) := Bg0.cell 1
  clear hb_
  go_wp2_with fail
  refine (o_eqByteS ((tBy).reach ((tBy).read o_x0) ?hB) ((tBy).reach ((tBy).read o_v) ?hB)).mono ?_
  all_goals try (case hB => exact (belx))
  rintro e W7 ⟨rfl, hb_⟩
  clear k_Bs0_0 k_Bs0_1
  clear k_Bg0_0 k_Bg0_1
  clear o_v Iv Dv
  have hs7 : Below W6.heap.size W6 W7 := bel_trans (belx) hb_
  have z7 : W6.heap.size + 0 ≤ W7.heap.size := by have := hb_.size; simpa using this
  have hB7 : Below w.heap.size w W7 := bel_trans hB6 hs7
  replace Bs0 := Bs0.below hs7 Bs0.size
  replace Bg0 := Bg0.below hs7 Bg0.size
  replace o_x0 := Ty.below (t := tBy) o_x0 hs7
  replace o_g0 := Ty.below (t := tPool) o_g0 hs7
  replace r_s0 := (tPool).keep r_s0 (fun b hb => hs7.block b (Nat.lt_of_lt_of_le hb (by omega)))
  have k_Bs0_0 : W7.cell? ⟨W2.heap.size, 0, none⟩ = some (.slice As00 ns00 cs00) := Bs0.cell 0
  have k_Bs0_1 : W7.cell? ⟨W2.heap.size, 1, none⟩ = some (.slice As01 ns01 cs01) := Bs0.cell 1
  have k_Bg0_0 : W7.cell? ⟨W4.heap.size, 0, none⟩ = some (.slice Ag00 (r0.1).length cg00) := Bg0.cell 0
  have k_Bg0_1 : W7.cell? ⟨W4.heap.size, 1, none⟩ = some (.slice Ag01 (r0.2).length cg01) := Bg0.cell 1
  clear hb_
  go_wp2_with fail
  refine (o_markByteS (1) o_x0 (by omega) (by omega)).mono ?_
  rintro e W8 ⟨rfl, om_, hG_⟩
  clear k_Bs0_0 k_Bs0_1
  clear k_Bg0_0 k_Bg0_1
  replace o_x0 := om_
  clear om_
  have z8 : W7.heap.size + 0 ≤ W8.heap.size := hG_.size
  have hB8 : Below w.heap.size w W8 := hB7.trans (hG_.below (fun f hf => by have := Ix0 f hf; omega) (by have := hB7.size; omega))
  replace Bs0 := Bs0.same (hG_.block _ Bs0.size (fun hx => by have := Ix0 _ hx; omega))
  replace Bg0 := Bg0.same (hG_.block _ Bg0.size (fun hx => by have := Ix0 _ hx; omega))
  replace o_g0 := Ty.only (t := tPool) o_g0 hG_ (fun f hf hx => by have := Ig0 f hf; have := Ix0 f hx; omega)
  replace r_s0 := (tPool).keep r_s0 (fun b hb => hG_.block b (Nat.lt_of_lt_of_le hb (by omega)) (fun hx => by have := Ix0 b hx; omega))
  have k_Bs0_0 : W8.cell? ⟨W2.heap.size, 0, none⟩ = some (.slice As00 ns00 cs00) := Bs0.cell 0
  have k_Bs0_1 : W8.cell? ⟨W2.heap.size, 1, none⟩ = some (.slice As01 ns01 cs01) := Bs0.cell 1
  have k_Bg0_0 : W8.cell? ⟨W4.heap.size, 0, none⟩ = some (.slice Ag00 (r0.1).length cg00) := Bg0.cell 0
  have k_Bg0_1 : W8.cell? ⟨W4.heap.size, 1, none⟩ = some (.slice Ag01 (r0.2).length cg01) := Bg0.cell 1
  clear hG_
  have dk : decide ((1 + (((p0).length : Nat) : Int) : Int) < 0) = false := by simp; omega
  clear o_x0 Ix0 Dx0
  go_wp2_with fail
  refine (o_eqPool ((tPool).reach ((tPool).read o_g0) ?hB) ((tPool).reach ((tPool).up r_s0 (by omega : W2.heap.size ≤ W8.heap.size)) ?hB)).mono ?_
  all_goals try (case hB => exact (belx))
  rintro e W9 ⟨rfl, hb_⟩
  clear k_Bs0_0 k_Bs0_1
  clear k_Bg0_0 k_Bg0_1
  have hs9 : Below W8.heap.size W8 W9 := bel_trans (belx) hb_
  have z9 : W8.heap.size + 0 ≤ W9.heap.size := by have := hb_.size; simpa using this
  have hB9 : Below w.heap.size w W9 := bel_trans hB8 hs9
  replace Bs0 := Bs0.below hs9 Bs0.size
  replace Bg0 := Bg0.below hs9 Bg0.size
  replace o_g0 := Ty.below (t := tPool) o_g0 hs9
  replace r_s0 := (tPool).keep r_s0 (fun b hb => hs9.block b (Nat.lt_of_lt_of_le hb (by omega)))
  have k_Bs0_0 : W9.cell? ⟨W2.heap.size, 0, none⟩ = some (.slice As00 ns00 cs00) := Bs0.cell 0
  have k_Bs0_1 : W9.cell? ⟨W2.heap.size, 1, none⟩ = some (.slice As01 ns01 cs01) := Bs0.cell 1
  have k_Bg0_0 : W9.cell? ⟨W4.heap.size, 0, none⟩ = some (.slice Ag00 (r0.1).length cg00) := Bg0.cell 0
  have k_Bg0_1 : W9.cell? ⟨W4.heap.size, 1, none⟩ = some (.slice Ag01 (r0.2).length cg01) := Bg0.cell 1
  clear hb_
  go_wp2_with fail
  refine (o_markPool (1) o_g0 Dg0 (by omega) (by omega)).mono ?_
  rintro e W10 ⟨rfl, om_, hG_⟩
  clear k_Bs0_0 k_Bs0_1
  clear k_Bg0_0 k_Bg0_1
  replace o_g0 := om_
  clear om_
  have z10 : W9.heap.size + 0 ≤ W10.heap.size := hG_.size
  have hB10 : Below w.heap.size w W10 := hB9.trans (hG_.below (fun f hf => by have := Ig0 f hf; omega) (by have := hB9.size; omega))
  replace Bs0 := Bs0.same (hG_.block _ Bs0.size (fun hx => by have := Ig0 _ hx; omega))
  replace Bg0 := Bg0.same (hG_.block _ Bg0.size (fun hx => by have := Ig0 _ hx; omega))
  replace r_s0 := (tPool).keep r_s0 (fun b hb => hG_.block b (Nat.lt_of_lt_of_le hb (by omega)) (fun hx => by have := Ig0 b hx; omega))
  have k_Bs0_0 : W10.cell? ⟨W2.heap.size, 0, none⟩ = some (.slice As00 ns00 cs00) := Bs0.cell 0
  have k_Bs0_1 : W10.cell? ⟨W2.heap.size, 1, none⟩ = some (.slice As01 ns01 cs01) := Bs0.cell 1
  have k_Bg0_0 : W10.cell? ⟨W4.heap.size, 0, none⟩ = some (.slice Ag00 (r0.1).length cg00) := Bg0.cell 0
  have k_Bg0_1 : W10.cell? ⟨W4.heap.size, 1, none⟩ = some (.slice Ag01 (r0.2).length cg01) := Bg0.cell 1
  clear hG_
  have dm : (((1 + ((cntPool (r0) : Nat) : Int) : Int)) != (1 + ((cntPool (r0) : Nat) : Int))) = false := by simp
  have dh0 : decide ((1 + ((cntPool (r0) : Nat) : Int) : Int) < 0) = false := by simp; omega
  go_wp2_with fail
  refine (o_heldPool (1) ((tPool).reach ((tPool).read o_g0) ?hB) (by omega) (by omega)).mono ?_
  all_goals try (case hB => exact (belx))
  rintro e W11 ⟨rfl, hb_⟩
  clear k_Bs0_0 k_Bs0_1
  clear k_Bg0_0 k_Bg0_1
  have hs11 : Below W10.heap.size W10 W11 := bel_trans (belx) hb_
  have z11 : W10.heap.size + 0 ≤ W11.heap.size := by have := hb_.size; simpa using this
  have hB11 : Below w.heap.size w W11 := bel_trans hB10 hs11
  replace Bs0 := Bs0.below hs11 Bs0.size
  replace Bg0 := Bg0.below hs11 Bg0.size
  replace o_g0 := Ty.below (t := tPool) o_g0 hs11
  replace r_s0 := (tPool).keep r_s0 (fun b hb => hs11.block b (Nat.lt_of_lt_of_le hb (by omega)))
  have k_Bs0_0 : W11.cell? ⟨W2.heap.size, 0, none⟩ = some (.slice As00 ns00 cs00) := Bs0.cell 0
  have k_Bs0_1 : W11.cell? ⟨W2.heap.size, 1, none⟩ = some (.slice As01 ns01 cs01) := Bs0.cell 1
  have k_Bg0_0 : W11.cell? ⟨W4.heap.size, 0, none⟩ = some (.slice Ag00 (r0.1).length cg00) := Bg0.cell 0
  have k_Bg0_1 : W11.cell? ⟨W4.heap.size, 1, none⟩ = some (.slice Ag01 (r0.2).length cg01) := Bg0.cell 1
  clear hb_
  go_wp2_with fail
  refine (o_toByteS ((tBy).reach ((tBy).reach h0 hB11) ?hB) (by omega)).mono ?_
  all_goals try (case hB => exact (belx))
  rintro e W12 ⟨Ay0, cy0, Fy0, rfl, o_y0, Ny0, hb_⟩
  clear k_Bs0_0 k_Bs0_1
  clear k_Bg0_0 k_Bg0_1
  have Iy0 : ∀ f ∈ Fy0, W11.heap.size + 0 ≤ f ∧ f < W12.heap.size := fun f hf => ⟨Nat.le_trans (by first | (simp; done) | (simp; omega)) (Ny0.2 f hf), (tBy).lt o_y0 f hf⟩
  have Dy0 := Ny0.1
  clear Ny0
  have hs12 : Below W11.heap.size W11 W12 := bel_trans (belx) hb_
  have z12 : W11.heap.size + 0 ≤ W12.heap.size := by have := hb_.size; simpa using this
  have hB12 : Below w.heap.size w W12 := bel_trans hB11 hs12
  replace Bs0 := Bs0.below hs12 Bs0.size
  replace Bg0 := Bg0.below hs12 Bg0.size
  replace o_g0 := Ty.below (t := tPool) o_g0 hs12
  replace r_s0 := (tPool).keep r_s0 (fun b hb => hs12.block b (Nat.lt_of_lt_of_le hb (by omega)))
  have k_Bs0_0 : W12.cell? ⟨W2.heap.size, 0, none⟩ = some (.slice As00 ns00 cs00) := Bs0.cell 0
  have k_Bs0_1 : W12.cell? ⟨W2.heap.size, 1, none⟩ = some (.slice As01 ns01 cs01) := Bs0.cell 1
  have k_Bg0_0 : W12.cell? ⟨W4.heap.size, 0, none⟩ = some (.slice Ag00 (r0.1).length cg00) := Bg0.cell 0
  have k_Bg0_1 : W12.cell? ⟨W4.heap.size, 1, none⟩ = some (.slice Ag01 (r0.2).length cg01) := Bg0.cell 1
  clear hb_
  go_wp2_with fail
  refine (i_PoolRead ((tBy).reach ((tBy).read o_y0) ?hB) (by omega)).mono ?_
  all_goals try (case hB => exact (belx))
  rintro e W13 ⟨csh0, Fh0, rfl, o_h0, Nh, hb_⟩
  clear k_Bs0_0 k_Bs0_1
  clear k_Bg0_0 k_Bg0_1
  clear o_y0 Iy0 Dy0
  rw [HR0.out] at o_h0
  rw [HR1.out]
  obtain ⟨Ah00, ch00, Fh00, Ah01, ch01, Fh01, rfl, -, -, -, -, -, -, -⟩ := openOPool o_h0
  have Ih0 : ∀ f ∈ Fh0, W12.heap.size + 0 ≤ f ∧ f < W13.heap.size := fun f hf => ⟨Nat.le_trans (by first | (simp; done) | (simp; omega)) (Nh.2 f (by simp [hf])), (tPool).lt o_h0 f hf⟩
  have Dh0 := Nh.1
  clear Nh
  have hs13 : Below W12.heap.size W12 W13 := bel_trans (belx) hb_
  have z13 : W12.heap.size + 0 ≤ W13.heap.size := by have := hb_.size; simpa using this
  have hB13 : Below w.heap.size w W13 := bel_trans hB12 hs13
  replace Bs0 := Bs0.below hs13 Bs0.size
  replace Bg0 := Bg0.below hs13 Bg0.size
  replace o_g0 := Ty.below (t := tPool) o_g0 hs13
  replace r_s0 := (tPool).keep r_s0 (fun b hb => hs13.block b (Nat.lt_of_lt_of_le hb (by omega)))
  have k_Bs0_0 : W13.cell? ⟨W2.heap.size, 0, none⟩ = some (.slice As00 ns00 cs00) := Bs0.cell 0
  have k_Bs0_1 : W13.cell? ⟨W2.heap.size, 1, none⟩ = some (.slice As01 ns01 cs01) := Bs0.cell 1
  have k_Bg0_0 : W13.cell? ⟨W4.heap.size, 0, none⟩ = some (.slice Ag00 (r0.1).length cg00) := Bg0.cell 0
  have k_Bg0_1 : W13.cell? ⟨W4.heap.size, 1, none⟩ = some (.slice Ag01 (r0.2).length cg01) := Bg0.cell 1
  clear hb_
  have d_Bs0_0 : (W13.alloc (.cells #[.slice Ah00 (r0.1).length ch00, .slice Ah01 (r0.2).length ch01] 54)).cell? ⟨W2.heap.size, 0, none⟩ = some (.slice As00 ns00 cs00) := (Bs0.alloc _).cell 0
  have d_Bs0_1 : (W13.alloc (.cells #[.slice Ah00 (r0.1).length ch00, .slice Ah01 (r0.2).length ch01] 54)).cell? ⟨W2.heap.size, 1, none⟩ = some (.slice As01 ns01 cs01) := (Bs0.alloc _).cell 1
  have d_Bg0_0 : (W13.alloc (.cells #[.slice Ah00 (r0.1).length ch00, .slice Ah01 (r0.2).length ch01] 54)).cell? ⟨W4.heap.size, 0, none⟩ = some (.slice Ag00 (r0.1).length cg00) := (Bg0.alloc _).cell 0
  have d_Bg0_1 : (W13.alloc (.cells #[.slice Ah00 (r0.1).length ch00, .slice Ah01 (r0.2).length ch01] 54)).cell? ⟨W4.heap.size, 1, none⟩ = some (.slice Ag01 (r0.2).length cg01) := (Bg0.alloc _).cell 1
  go_wp2_with fail
  refine (o_eqPool ((tPool).reach ((tPool).read o_h0) ?hB) ((tPool).reach ((tPool).up r_s0 (by omega : W2.heap.size ≤ W13.heap.size)) ?hB)).mono ?_
  all_goals try (case hB => exact (belx))
  rintro e W14 ⟨rfl, hb_⟩
  clear d_Bs0_0 d_Bs0_1 d_Bg0_0 d_Bg0_1
  clear k_Bs0_0 k_Bs0_1
  clear k_Bg0_0 k_Bg0_1
  have hs14 : Below W13.heap.size W13 W14 := bel_trans (belx) hb_
  have z14 : W13.heap.size + 1 ≤ W14.heap.size := by have := hb_.size; simpa using this
  have hB14 : Below w.heap.size w W14 := bel_trans hB13 hs14
  replace Bs0 := Bs0.below hs14 Bs0.size
  replace Bg0 := Bg0.below hs14 Bg0.size
  have Bh0 : Box W14 (W13.heap.size) 54 #[.slice Ah00 (r0.1).length ch00, .slice Ah01 (r0.2).length ch01] := Box.below (Box.new _ _ _) hb_ (by first | (simp; done) | (simp; omega))
  replace o_g0 := Ty.below (t := tPool) o_g0 hs14
  replace o_h0 := Ty.below (t := tPool) o_h0 hs14
  replace r_s0 := (tPool).keep r_s0 (fun b hb => hs14.block b (Nat.lt_of_lt_of_le hb (by omega)))
  have k_Bs0_0 : W14.cell? ⟨W2.heap.size, 0, none⟩ = some (.slice As00 ns00 cs00) := Bs0.cell 0
  have k_Bs0_1 : W14.cell? ⟨W2.heap.size, 1, none⟩ = some (.slice As01 ns01 cs01) := Bs0.cell 1
  have k_Bg0_0 : W14.cell? ⟨W4.heap.size, 0, none⟩ = some (.slice Ag00 (r0.1).length cg00) := Bg0.cell 0
  have k_Bg0_1 : W14.cell? ⟨W4.heap.size, 1, none⟩ = some (.slice Ag01 (r0.2).length cg01) := Bg0.cell 1
  have k_Bh0_0 : W14.cell? ⟨W13.heap.size, 0, none⟩ = some (.slice Ah00 (r0.1).length ch00) := Bh0.cell 0
  have k_Bh0_1 : W14.cell? ⟨W13.heap.size, 1, none⟩ = some (.slice Ah01 (r0.2).length ch01) := Bh0.cell 1
  clear hb_
  go_wp2_with fail
  refine (o_heldPool (1) ((tPool).reach ((tPool).read o_g0) ?hB) (by omega) (by omega)).mono ?_
  all_goals try (case hB => exact (belx))
  rintro e W15 ⟨rfl, hb_⟩
  clear k_Bs0_0 k_Bs0_1
  clear k_Bg0_0 k_Bg0_1
  clear k_Bh0_0 k_Bh0_1
  have hs15 : Below W14.heap.size W14 W15 := bel_trans (belx) hb_
  have z15 : W14.heap.size + 0 ≤ W15.heap.size := by have := hb_.size; simpa using this
  have hB15 : Below w.heap.size w W15 := bel_trans hB14 hs15
  replace Bs0 := Bs0.below hs15 Bs0.size
  replace Bg0 := Bg0.below hs15 Bg0.size
  replace Bh0 := Bh0.below hs15 Bh0.size
  replace o_g0 := Ty.below (t := tPool) o_g0 hs15
  replace o_h0 := Ty.below (t := tPool) o_h0 hs15
  replace r_s0 := (tPool).keep r_s0 (fun b hb => hs15.block b (Nat.lt_of_lt_of_le hb (by omega)))
  have k_Bs0_0 : W15.cell? ⟨W2.heap.size, 0, none⟩ = some (.slice As00 ns00 cs00) := Bs0.cell 0
  have k_Bs0_1 : W15.cell? ⟨W2.heap.size, 1, none⟩ = some (.slice As01 ns01 cs01) := Bs0.cell 1
  have k_Bg0_0 : W15.cell? ⟨W4.heap.size, 0, none⟩ = some (.slice Ag00 (r0.1).length cg00) := Bg0.cell 0
  have k_Bg0_1 : W15.cell? ⟨W4.heap.size, 1, none⟩ = some (.slice Ag01 (r0.2).length cg01) := Bg0.cell 1
  have k_Bh0_0 : W15.cell? ⟨W13.heap.size, 0, none⟩ = some (.slice Ah00 (r0.1).length ch00) := Bh0.cell 0
  have k_Bh0_1 : W15.cell? ⟨W13.heap.size, 1, none⟩ = some (.slice Ah01 (r0.2).length ch01) := Bh0.cell 1
  clear hb_
  go_wp2_with fail
  go_ret
  exact ⟨rfl, hB15⟩

/-! ### THE ROW's STEP -/
set_option maxHeartbeats 400000 in
set_option maxRecDepth 100000 in
theorem lifted (os : Os) (started : os.Started) (H : Type) (enc : TypeId × Value → H) :
    ReturnsInHanded {} Try.checked os 7 .any (Rows.fnExactPoolReadSpec.pre6 enc Try.prog Try.f7 Rows.fnExactPoolReadRow.domain false) (Rows.fnExactPoolReadSpec.post enc Try.prog Try.f7 false true false false) := by
  refine returnsInHanded_of_change (C := Try.checked) own started (by kernel_rfl) Try.func7
    (ChangeSpec.witness6 (enc := enc) (C := Try.checked) false ⟨#[], #[.slice none 0 0], []⟩ 8 (by kernel_rfl) (by kernel_rfl) (by kernel_rfl) (by kernel_rfl)) ?_
  intro W base args ds gs before hval0 hW hcnd _
  have hval : ∀ (j : Nat) t v, Try.f7.params[j]? = some t → args[j]? = some v → Value.okWide Try.prog W .any base t v := hval0
  have hW' := hW
  obtain ⟨p, q, hA0, hV, rfl, hfz, hnd⟩ := hW
  have hA : DataW.TrodAll enc Try.prog W 0 (fun _ => true) true Try.f7.params.toList args.toList ds p := hA0
  rw [Try.params7] at hA hval
  obtain ⟨v0, vs0, d0, ds0, p0, q0, hargs, rfl, rfl, h0, r0⟩ := trodAll_cons hA
  obtain ⟨rfl, rfl, rfl⟩ := trodAll_nil r0
  obtain rfl : args = #[v0] := by cases args; simp_all
  obtain ⟨rfl, rfl⟩ := trodVars_none hV
  obtain ⟨A0, n0, c0, rfl⟩ := okWide_slice Try.underlying22 (hval 0 22 v0 rfl rfl)
  have k0 := h0
  have lt0 : ∀ x ∈ p0, x.block < W.heap.size := by obtain ⟨m, hm⟩ := k0; exact DataW.trod_lt m _ _ _ hm
  obtain ⟨x0, w0⟩ : ∃ a, tBy.R W W.heap.size [.slice A0 n0 c0] a := by
    obtain ⟨fuel, hf⟩ := h0
    exact frR_by fuel _ _ (by simpa [Value.cells] using hf)
  clear hA0 hval0
  refine (walk A0 n0 c0 x0 W w0).mono fun e W' ⟨he, bel⟩ => ?_
  subst he
  exact ⟨_, rfl, _, _, _, [], _, [], hW', trodAll_mk1 (shut_bool Try.underlying4 _), (trodAll_cons_mk (Below.trod laidOut (by kernel_rfl) (of_decide_eq_true (by kernel_rfl)) k0 bel lt0) trodAll_mk0), rfl, bel.frame _, fun h => by cases h⟩

theorem over : Rows.fnExactPoolReadRow.holds Try.pinned (OpenSpec.ofChange Rows.fnExactPoolReadSpec) :=
  OpenClaim.holds_of_wide 7 Try.f7 rfl rfl rfl rfl rfl rfl rfl ⟨rfl, rfl, rfl, rfl, rfl⟩ rfl rfl rfl rfl rfl (by kernel_rfl) Try.func7 (by kernel_rfl)
    (of_decide_eq_true (by kernel_rfl)) (by unfold Func.isWrapper; first | (rw [if_pos (by decide +kernel)]; kernel_rfl) | (rw [if_neg (by decide +kernel)]; exact ⟨rfl, rfl⟩))
    (fun os started H enc _ => lifted os started H enc)

theorem proved : Rows.FnExactPoolReadSaid := over
#print axioms proved
end Go.Proofs.Ytnfmjgldcnokbaa.fnExactPoolRead
