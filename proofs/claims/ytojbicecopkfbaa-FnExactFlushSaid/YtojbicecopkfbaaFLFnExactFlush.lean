/-
  For every argument (in all at most 2^20 elements) the program's Flush answers as its model does, in every field, writes into no argument, and its answer owns its memory. No further condition.
-/
import Derived.Test.YtojbicecopkfbaaCloFnExactFlush
import Derived.Test.YtojbicecopkfbaaFGi
import Derived.Test.YtojbicecopkfbaaFGj
import Derived.Test.YtojbicecopkfbaaFGo
import Derived.Test.YtojbicecopkfbaaFGq
import Derived.Test.YtojbicecopkfbaaFMFr
import Derived.Test.YtojbicecopkfbaaRows
import Derived.Below
import Derived.ChangeOld
import Derived.Deep.RegionHeld3
import Derived.OpenShut
import Derived.ProofKit
import Derived.ShutString
import Derived.WalkKit
namespace Go.Proofs.Ytojbicecopkfbaa.fnExactFlush
open Go.ChangeShapes Go.WideShapes Go.ChangeAt Go.RowKit
open Go.ChangeMaps (open_string shut_string)
set_option linter.unusedVariables false

open Go.Proofs.Ytojbicecopkfbaa
theorem own : ownKnob Try.prog.godebug = none := by kernel_rfl
theorem laidOut : laidOutB Try.prog = true := by kernel_rfl



/-! ### STEP 1: the walk -/
set_option maxRecDepth 100000 in
set_option maxHeartbeats 2000000 in
theorem walk (cs0 : Array Value) (p0 : DPool) (a1 : Int) (A2 : Option Addr) (n2 c2 : Nat) (p2 : List Int) (w : World) (h0 : tPool.R w w.heap.size cs0.toList p0) (w1 : (Lit.int .i64 a1).wf = true) (h2 : (tBy).R w w.heap.size [.slice A2 n2 c2] p2) :
    Calls Try.prog 5 #[.agg cs0, .int .i64 a1, .slice A2 n2 c2] w fun e w' => e = .returned (.bool true) ∧ Below w.heap.size w w' := by
  obtain ⟨cs0⟩ := cs0
  replace h0 : tPool.R w w.heap.size cs0 p0 := h0
  obtain ⟨Aa00, na00, ca00, Aa01, na01, ca01, rfl, -, -, -, -, -, -, -, -⟩ := openPool h0
  have hn2 := (slR_ints h2).1.1
  have rg1 := i64_rg w1
  by_cases hz2 : (p2).length ≤ 1048576
  rotate_left
  · have q_ : (1048576 : Int) < (n2 : Int) := by omega
    go_enter Try.func5, Try.ntmps5
    go_wp2
    go_ret
    exact ⟨rfl, (belx)⟩
  have q_2 : ¬ (1048576 : Int) < (n2 : Int) := by omega
  clear hn2
  by_cases hz0 : szPool (p0) ≤ 1048576
  rotate_left
  · go_enter Try.func5, Try.ntmps5
    go_wp2_with fail
    refine (o_szPool_f ((tPool).reach h0 ?hB) (by omega) (by omega) (by omega)).mono ?_
    all_goals try (case hB => exact (belx))
    rintro e W1 ⟨rfl, hb_⟩
    have hs1 : Below w.heap.size w W1 := bel_trans (belx) hb_
    have z1 : w.heap.size + 1 ≤ W1.heap.size := by have := hb_.size; simpa using this
    have hB1 : Below w.heap.size w W1 := hs1
    have Ba0 : Box W1 (w.heap.size) 52 #[.slice Aa00 na00 ca00, .slice Aa01 na01 ca01] := Box.below (Box.new _ _ _) hb_ (by first | (simp; done) | (simp; omega))
    have k_Ba0_0 : W1.cell? ⟨w.heap.size, 0, none⟩ = some (.slice Aa00 na00 ca00) := Ba0.cell 0
    have k_Ba0_1 : W1.cell? ⟨w.heap.size, 1, none⟩ = some (.slice Aa01 na01 ca01) := Ba0.cell 1
    go_wp2
    go_ret
    exact ⟨rfl, hB1⟩
  have dz0 : decide ((1048576 : Int) - ((szPool (p0) : Nat) : Int) < 0) = false := by simp; omega
  have hzr0 : szPool (fFlP p0 a1 p2) ≤ 1048576 := (by have := fFlP_sz p0 a1 p2; omega)
  have hcr0 := cntPool_le (fFlP p0 a1 p2)
  obtain ⟨r0, hr0⟩ : ∃ r, fFlP p0 a1 p2 = r := ⟨_, rfl⟩
  have HR0 := Lib.hid hr0
  rw [hr0] at hzr0 hcr0
  clear hr0
  have hzr1 : rsz szHeld (fFlL p0 a1 p2) ≤ 1048576 := (by have := fFlL_sz (ints_byI (slR_ints h2).1) (p := p0) (x := a1); omega)
  have hcr1 := rsum_M (c := rcHeld) (s := szHeld) (M := 5) rcHeld_le (fFlL p0 a1 p2)
  obtain ⟨r1, hr1⟩ : ∃ r, fFlL p0 a1 p2 = r := ⟨_, rfl⟩
  have HR1 := Lib.hid hr1
  rw [hr1] at hzr1 hcr1
  clear hr1
  obtain ⟨r2, hr2⟩ : ∃ r, fFlN p0 a1 p2 = r := ⟨_, rfl⟩
  have HR2 := Lib.hid hr2
  have qr2 : (r2 != r2) = false := by simp
  clear hr2
  have hcp0 := cntPool_le (p0)
  go_enter Try.func5, Try.ntmps5
  go_wp2_with fail
  refine (o_szPool_t ((tPool).reach h0 ?hB) (by omega) (by omega) (by omega)).mono ?_
  all_goals try (case hB => exact (belx))
  rintro e W1 ⟨rfl, hb_⟩
  have hs1 : Below w.heap.size w W1 := bel_trans (belx) hb_
  have z1 : w.heap.size + 1 ≤ W1.heap.size := by have := hb_.size; simpa using this
  have hB1 : Below w.heap.size w W1 := hs1
  have Ba0 : Box W1 (w.heap.size) 52 #[.slice Aa00 na00 ca00, .slice Aa01 na01 ca01] := Box.below (Box.new _ _ _) hb_ (by first | (simp; done) | (simp; omega))
  have k_Ba0_0 : W1.cell? ⟨w.heap.size, 0, none⟩ = some (.slice Aa00 na00 ca00) := Ba0.cell 0
  have k_Ba0_1 : W1.cell? ⟨w.heap.size, 1, none⟩ = some (.slice Aa01 na01 ca01) := Ba0.cell 1
  clear hb_
  go_wp2_with fail
  refine (o_toPool ((tPool).reach ((tPool).reach h0 hB1) ?hB) (by omega)).mono ?_
  all_goals try (case hB => exact (belx))
  rintro e W2 ⟨csy0, Fy0, rfl, o_y0, Ny0, hb_⟩
  clear k_Ba0_0 k_Ba0_1
  have Iy0 : ∀ f ∈ Fy0, W1.heap.size + 0 ≤ f ∧ f < W2.heap.size := fun f hf => ⟨Nat.le_trans (by first | (simp; done) | (simp; omega)) (Ny0.2 f hf), (tPool).lt o_y0 f hf⟩
  have Dy0 := Ny0.1
  clear Ny0
  obtain ⟨Ay00, cy00, Fy00, Ay01, cy01, Fy01, rfl, -, -, -, -, -, -, -⟩ := openOPool o_y0
  have hs2 : Below W1.heap.size W1 W2 := bel_trans (belx) hb_
  have z2 : W1.heap.size + 0 ≤ W2.heap.size := by have := hb_.size; simpa using this
  have hB2 : Below w.heap.size w W2 := bel_trans hB1 hs2
  replace Ba0 := Ba0.below hs2 Ba0.size
  have k_Ba0_0 : W2.cell? ⟨w.heap.size, 0, none⟩ = some (.slice Aa00 na00 ca00) := Ba0.cell 0
  have k_Ba0_1 : W2.cell? ⟨w.heap.size, 1, none⟩ = some (.slice Aa01 na01 ca01) := Ba0.cell 1
  clear hb_
  go_wp2_with fail
  refine (o_toByteSA ((tBy).reach ((tBy).reach h2 hB2) ?hB) (by omega)).mono ?_
  all_goals try (case hB => exact (belx))
  rintro e W3 ⟨Ay2, cy2, Fy2, rfl, o_y2, Ny2, ha_y2, hb_⟩
  clear k_Ba0_0 k_Ba0_1
  have Iy2 : ∀ f ∈ Fy2, W2.heap.size + 0 ≤ f ∧ f < W3.heap.size := fun f hf => ⟨Nat.le_trans (by first | (simp; done) | (simp; omega)) (Ny2.2 f hf), (tBy).lt o_y2 f hf⟩
  have Dy2 := Ny2.1
  clear Ny2
  have hs3 : Below W2.heap.size W2 W3 := bel_trans (belx) hb_
  have z3 : W2.heap.size + 0 ≤ W3.heap.size := by have := hb_.size; simpa using this
  have hB3 : Below w.heap.size w W3 := bel_trans hB2 hs3
  replace Ba0 := Ba0.below hs3 Ba0.size
  replace o_y0 := Ty.below (t := tPool) o_y0 hs3
  have k_Ba0_0 : W3.cell? ⟨w.heap.size, 0, none⟩ = some (.slice Aa00 na00 ca00) := Ba0.cell 0
  have k_Ba0_1 : W3.cell? ⟨w.heap.size, 1, none⟩ = some (.slice Aa01 na01 ca01) := Ba0.cell 1
  clear hb_
  go_wp2_with fail
  refine (s_FlushR ((tPool).reach ((tPool).read o_y0) ?hB) (by omega) w1 ((tBy).reach ((tBy).read o_y2) ?hB) (by omega)).mono ?_
  all_goals try (case hB => exact (belx))
  rintro e W4 ⟨css0, As1, cs1, rfl, r_s0, r_s1, hb_⟩
  clear k_Ba0_0 k_Ba0_1
  clear o_y0 Iy0 Dy0
  clear o_y2 Iy2 Dy2
  rw [HR0.out] at r_s0
  rw [HR1.out] at r_s1
  rw [HR1.out]
  rw [HR2.out]
  obtain ⟨As00, ns00, cs00, As01, ns01, cs01, rfl, -, -, -, -, -, -, -, -⟩ := openPool r_s0
  have hs4 : Below W3.heap.size W3 W4 := bel_trans (belx) hb_
  have z4 : W3.heap.size + 0 ≤ W4.heap.size := by have := hb_.size; simpa using this
  have hB4 : Below w.heap.size w W4 := bel_trans hB3 hs4
  replace Ba0 := Ba0.below hs4 Ba0.size
  have k_Ba0_0 : W4.cell? ⟨w.heap.size, 0, none⟩ = some (.slice Aa00 na00 ca00) := Ba0.cell 0
  have k_Ba0_1 : W4.cell? ⟨w.heap.size, 1, none⟩ = some (.slice Aa01 na01 ca01) := Ba0.cell 1
  clear hb_
  have d_Ba0_0 : (W4.alloc (.cells #[.slice As00 ns00 cs00, .slice As01 ns01 cs01] 56)).cell? ⟨w.heap.size, 0, none⟩ = some (.slice Aa00 na00 ca00) := (Ba0.alloc _).cell 0
  have d_Ba0_1 : (W4.alloc (.cells #[.slice As00 ns00 cs00, .slice As01 ns01 cs01] 56)).cell? ⟨w.heap.size, 1, none⟩ = some (.slice Aa01 na01 ca01) := (Ba0.alloc _).cell 1
  go_wp2_with fail
  refine (o_toPool ((tPool).reach ((tPool).reach h0 hB4) ?hB) (by omega)).mono ?_
  all_goals try (case hB => exact (belx))
  rintro e W5 ⟨csx0, Fx0, rfl, o_x0, Nx0, hb_⟩
  clear d_Ba0_0 d_Ba0_1
  clear k_Ba0_0 k_Ba0_1
  have Ix0 : ∀ f ∈ Fx0, W4.heap.size + 1 ≤ f ∧ f < W5.heap.size := fun f hf => ⟨Nat.le_trans (by first | (simp; done) | (simp; omega)) (Nx0.2 f hf), (tPool).lt o_x0 f hf⟩
  have Dx0 := Nx0.1
  clear Nx0
  obtain ⟨Ax00, cx00, Fx00, Ax01, cx01, Fx01, rfl, -, -, -, -, -, -, -⟩ := openOPool o_x0
  have hs5 : Below W4.heap.size W4 W5 := bel_trans (belx) hb_
  have z5 : W4.heap.size + 1 ≤ W5.heap.size := by have := hb_.size; simpa using this
  have hB5 : Below w.heap.size w W5 := bel_trans hB4 hs5
  replace Ba0 := Ba0.below hs5 Ba0.size
  have Bs0 : Box W5 (W4.heap.size) 56 #[.slice As00 ns00 cs00, .slice As01 ns01 cs01] := Box.below (Box.new _ _ _) hb_ (by first | (simp; done) | (simp; omega))
  replace r_s0 := (tPool).keep r_s0 (fun b hb => hs5.block b (Nat.lt_of_lt_of_le hb (by omega)))
  replace r_s1 := (tHeld.row).keep r_s1 (fun b hb => hs5.block b (Nat.lt_of_lt_of_le hb (by omega)))
  have k_Ba0_0 : W5.cell? ⟨w.heap.size, 0, none⟩ = some (.slice Aa00 na00 ca00) := Ba0.cell 0
  have k_Ba0_1 : W5.cell? ⟨w.heap.size, 1, none⟩ = some (.slice Aa01 na01 ca01) := Ba0.cell 1
  have k_Bs0_0 : W5.cell? ⟨W4.heap.size, 0, none⟩ = some (.slice As00 ns00 cs00) := Bs0.cell 0
  have k_Bs0_1 : W5.cell? ⟨W4.heap.size, 1, none⟩ = some (.slice As01 ns01 cs01) := Bs0.cell 1
  clear hb_
  have d_Ba0_0 : (W5.alloc (.cells #[.slice Ax00 (p0.1).length cx00, .slice Ax01 (p0.2).length cx01] 56)).cell? ⟨w.heap.size, 0, none⟩ = some (.slice Aa00 na00 ca00) := (Ba0.alloc _).cell 0
  have d_Ba0_1 : (W5.alloc (.cells #[.slice Ax00 (p0.1).length cx00, .slice Ax01 (p0.2).length cx01] 56)).cell? ⟨w.heap.size, 1, none⟩ = some (.slice Aa01 na01 ca01) := (Ba0.alloc _).cell 1
  have d_Bs0_0 : (W5.alloc (.cells #[.slice Ax00 (p0.1).length cx00, .slice Ax01 (p0.2).length cx01] 56)).cell? ⟨W4.heap.size, 0, none⟩ = some (.slice As00 ns00 cs00) := (Bs0.alloc _).cell 0
  have d_Bs0_1 : (W5.alloc (.cells #[.slice Ax00 (p0.1).length cx00, .slice Ax01 (p0.2).length cx01] 56)).cell? ⟨W4.heap.size, 1, none⟩ = some (.slice As01 ns01 cs01) := (Bs0.alloc _).cell 1
  go_wp2_with fail
  refine (o_toByteSA ((tBy).reach ((tBy).reach h2 hB5) ?hB) (by omega)).mono ?_
  all_goals try (case hB => exact (belx))
  rintro e W6 ⟨Ax2, cx2, Fx2, rfl, o_x2, Nx2, ha_x2, hb_⟩
  clear d_Ba0_0 d_Ba0_1 d_Bs0_0 d_Bs0_1
  clear k_Ba0_0 k_Ba0_1
  clear k_Bs0_0 k_Bs0_1
  have Ix2 : ∀ f ∈ Fx2, W5.heap.size + 1 ≤ f ∧ f < W6.heap.size := fun f hf => ⟨Nat.le_trans (by first | (simp; done) | (simp; omega)) (Nx2.2 f hf), (tBy).lt o_x2 f hf⟩
  have Dx2 := Nx2.1
  clear Nx2
  have hs6 : Below W5.heap.size W5 W6 := bel_trans (belx) hb_
  have z6 : W5.heap.size + 1 ≤ W6.heap.size := by have := hb_.size; simpa using this
  have hB6 : Below w.heap.size w W6 := bel_trans hB5 hs6
  replace Ba0 := Ba0.below hs6 Ba0.size
  replace Bs0 := Bs0.below hs6 Bs0.size
  have Bx0 : Box W6 (W5.heap.size) 56 #[.slice Ax00 (p0.1).length cx00, .slice Ax01 (p0.2).length cx01] := Box.below (Box.new _ _ _) hb_ (by first | (simp; done) | (simp; omega))
  replace o_x0 := Ty.below (t := tPool) o_x0 hs6
  replace r_s0 := (tPool).keep r_s0 (fun b hb => hs6.block b (Nat.lt_of_lt_of_le hb (by omega)))
  replace r_s1 := (tHeld.row).keep r_s1 (fun b hb => hs6.block b (Nat.lt_of_lt_of_le hb (by omega)))
  have k_Ba0_0 : W6.cell? ⟨w.heap.size, 0, none⟩ = some (.slice Aa00 na00 ca00) := Ba0.cell 0
  have k_Ba0_1 : W6.cell? ⟨w.heap.size, 1, none⟩ = some (.slice Aa01 na01 ca01) := Ba0.cell 1
  have k_Bs0_0 : W6.cell? ⟨W4.heap.size, 0, none⟩ = some (.slice As00 ns00 cs00) := Bs0.cell 0
  have k_Bs0_1 : W6.cell? ⟨W4.heap.size, 1, none⟩ = some (.slice As01 ns01 cs01) := Bs0.cell 1
  have k_Bx0_0 : W6.cell? ⟨W5.heap.size, 0, none⟩ = some (.slice Ax00 (p0.1).length cx00) := Bx0.cell 0
  have k_Bx0_1 : W6.cell? ⟨W5.heap.size, 1, none⟩ = some (.slice Ax01 (p0.2).length cx01) := Bx0.cell 1
  clear hb_
  go_wp2_with fail
  refine (i_FlushR ((tPool).reach ((tPool).read o_x0) ?hB) (by omega) w1 ((tBy).reach ((tBy).read o_x2) ?hB) (by omega) ha_x2).mono ?_
  all_goals try (case hB => exact (belx))
  rintro e W7 ⟨csg0, Fg0, Ag1, cg1, Fg1, rfl, o_g0, o_g1, Ng, hb_⟩
  clear k_Ba0_0 k_Ba0_1
  clear k_Bs0_0 k_Bs0_1
  clear k_Bx0_0 k_Bx0_1
  rw [HR0.out] at o_g0
  rw [HR1.out] at o_g1
  rw [HR1.out]
  rw [HR2.out]
  obtain ⟨Ag00, cg00, Fg00, Ag01, cg01, Fg01, rfl, -, -, -, -, -, -, -⟩ := openOPool o_g0
  have Ig0 : ∀ f ∈ Fg0, W6.heap.size + 0 ≤ f ∧ f < W7.heap.size := fun f hf => ⟨Nat.le_trans (by first | (simp; done) | (simp; omega)) (Ng.2 f (by simp [hf])), (tPool).lt o_g0 f hf⟩
  have Ig1 : ∀ f ∈ Fg1, W6.heap.size + 0 ≤ f ∧ f < W7.heap.size := fun f hf => ⟨Nat.le_trans (by first | (simp; done) | (simp; omega)) (Ng.2 f (by simp [hf])), (tHeld.row).lt o_g1 f hf⟩
  have Dg0 := (List.nodup_append.1 Ng.1).1
  have Dg1 := (List.nodup_append.1 Ng.1).2.1
  have Xg : ∀ f ∈ Fg0, f ∉ Fg1 := fun f h1 h2 => (List.nodup_append.1 Ng.1).2.2 f h1 f h2 rfl
  clear Ng
  have hs7 : Below W6.heap.size W6 W7 := bel_trans (belx) hb_
  have z7 : W6.heap.size + 0 ≤ W7.heap.size := by have := hb_.size; simpa using this
  have hB7 : Below w.heap.size w W7 := bel_trans hB6 hs7
  replace Ba0 := Ba0.below hs7 Ba0.size
  replace Bs0 := Bs0.below hs7 Bs0.size
  replace Bx0 := Bx0.below hs7 Bx0.size
  replace o_x0 := Ty.below (t := tPool) o_x0 hs7
  replace o_x2 := Ty.below (t := tBy) o_x2 hs7
  replace r_s0 := (tPool).keep r_s0 (fun b hb => hs7.block b (Nat.lt_of_lt_of_le hb (by omega)))
  replace r_s1 := (tHeld.row).keep r_s1 (fun b hb => hs7.block b (Nat.lt_of_lt_of_le hb (by omega)))
  have k_Ba0_0 : W7.cell? ⟨w.heap.size, 0, none⟩ = some (.slice Aa00 na00 ca00) := Ba0.cell 0
  have k_Ba0_1 : W7.cell? ⟨w.heap.size, 1, none⟩ = some (.slice Aa01 na01 ca01) := Ba0.cell 1
  have k_Bs0_0 : W7.cell? ⟨W4.heap.size, 0, none⟩ = some (.slice As00 ns00 cs00) := Bs0.cell 0
  have k_Bs0_1 : W7.cell? ⟨W4.heap.size, 1, none⟩ = some (.slice As01 ns01 cs01) := Bs0.cell 1
  have k_Bx0_0 : W7.cell? ⟨W5.heap.size, 0, none⟩ = some (.slice Ax00 (p0.1).length cx00) := Bx0.cell 0
  have k_Bx0_1 : W7.cell? ⟨W5.heap.size, 1, none⟩ = some (.slice Ax01 (p0.2).length cx01) := Bx0.cell 1
  clear hb_
  have d_Ba0_0 : (W7.alloc (.cells #[.slice Ag00 (r0.1).length cg00, .slice Ag01 (r0.2).length cg01] 56)).cell? ⟨w.heap.size, 0, none⟩ = some (.slice Aa00 na00 ca00) := (Ba0.alloc _).cell 0
  have d_Ba0_1 : (W7.alloc (.cells #[.slice Ag00 (r0.1).length cg00, .slice Ag01 (r0.2).length cg01] 56)).cell? ⟨w.heap.size, 1, none⟩ = some (.slice Aa01 na01 ca01) := (Ba0.alloc _).cell 1
  have d_Bs0_0 : (W7.alloc (.cells #[.slice Ag00 (r0.1).length cg00, .slice Ag01 (r0.2).length cg01] 56)).cell? ⟨W4.heap.size, 0, none⟩ = some (.slice As00 ns00 cs00) := (Bs0.alloc _).cell 0
  have d_Bs0_1 : (W7.alloc (.cells #[.slice Ag00 (r0.1).length cg00, .slice Ag01 (r0.2).length cg01] 56)).cell? ⟨W4.heap.size, 1, none⟩ = some (.slice As01 ns01 cs01) := (Bs0.alloc _).cell 1
  have d_Bx0_0 : (W7.alloc (.cells #[.slice Ag00 (r0.1).length cg00, .slice Ag01 (r0.2).length cg01] 56)).cell? ⟨W5.heap.size, 0, none⟩ = some (.slice Ax00 (p0.1).length cx00) := (Bx0.alloc _).cell 0
  have d_Bx0_1 : (W7.alloc (.cells #[.slice Ag00 (r0.1).length cg00, .slice Ag01 (r0.2).length cg01] 56)).cell? ⟨W5.heap.size, 1, none⟩ = some (.slice Ax01 (p0.2).length cx01) := (Bx0.alloc _).cell 1
  go_wp2_with fail
  refine (o_eqPool ((tPool).reach ((tPool).read o_g0) ?hB) ((tPool).reach ((tPool).up r_s0 (by omega : W4.heap.size ≤ W7.heap.size)) ?hB)).mono ?_
  all_goals try (case hB => exact (belx))
  rintro e W8 ⟨rfl, hb_⟩
  clear d_Ba0_0 d_Ba0_1 d_Bs0_0 d_Bs0_1 d_Bx0_0 d_Bx0_1
  clear k_Ba0_0 k_Ba0_1
  clear k_Bs0_0 k_Bs0_1
  clear k_Bx0_0 k_Bx0_1
  have hs8 : Below W7.heap.size W7 W8 := bel_trans (belx) hb_
  have z8 : W7.heap.size + 1 ≤ W8.heap.size := by have := hb_.size; simpa using this
  have hB8 : Below w.heap.size w W8 := bel_trans hB7 hs8
  replace Ba0 := Ba0.below hs8 Ba0.size
  replace Bs0 := Bs0.below hs8 Bs0.size
  replace Bx0 := Bx0.below hs8 Bx0.size
  have Bg0 : Box W8 (W7.heap.size) 56 #[.slice Ag00 (r0.1).length cg00, .slice Ag01 (r0.2).length cg01] := Box.below (Box.new _ _ _) hb_ (by first | (simp; done) | (simp; omega))
  replace o_x0 := Ty.below (t := tPool) o_x0 hs8
  replace o_x2 := Ty.below (t := tBy) o_x2 hs8
  replace o_g0 := Ty.below (t := tPool) o_g0 hs8
  replace o_g1 := Ty.below (t := tHeld.row) o_g1 hs8
  replace r_s0 := (tPool).keep r_s0 (fun b hb => hs8.block b (Nat.lt_of_lt_of_le hb (by omega)))
  replace r_s1 := (tHeld.row).keep r_s1 (fun b hb => hs8.block b (Nat.lt_of_lt_of_le hb (by omega)))
  have k_Ba0_0 : W8.cell? ⟨w.heap.size, 0, none⟩ = some (.slice Aa00 na00 ca00) := Ba0.cell 0
  have k_Ba0_1 : W8.cell? ⟨w.heap.size, 1, none⟩ = some (.slice Aa01 na01 ca01) := Ba0.cell 1
  have k_Bs0_0 : W8.cell? ⟨W4.heap.size, 0, none⟩ = some (.slice As00 ns00 cs00) := Bs0.cell 0
  have k_Bs0_1 : W8.cell? ⟨W4.heap.size, 1, none⟩ = some (.slice As01 ns01 cs01) := Bs0.cell 1
  have k_Bx0_0 : W8.cell? ⟨W5.heap.size, 0, none⟩ = some (.slice Ax00 (p0.1).length cx00) := Bx0.cell 0
  have k_Bx0_1 : W8.cell? ⟨W5.heap.size, 1, none⟩ = some (.slice Ax01 (p0.2).length cx01) := Bx0.cell 1
  have k_Bg0_0 : W8.cell? ⟨W7.heap.size, 0, none⟩ = some (.slice Ag00 (r0.1).length cg00) := Bg0.cell 0
  have k_Bg0_1 : W8.cell? ⟨W7.heap.size, 1, none⟩ = some (.slice Ag01 (r0.2).length cg01) := Bg0.cell 1
  clear hb_
  go_wp2_with fail
  refine (o_eqHeldS ((tHeld.row).reach ((tHeld.row).read o_g1) ?hB) ((tHeld.row).reach ((tHeld.row).up r_s1 (by omega : W4.heap.size ≤ W8.heap.size)) ?hB)).mono ?_
  all_goals try (case hB => exact (belx))
  rintro e W9 ⟨rfl, hb_⟩
  clear k_Ba0_0 k_Ba0_1
  clear k_Bs0_0 k_Bs0_1
  clear k_Bx0_0 k_Bx0_1
  clear k_Bg0_0 k_Bg0_1
  have hs9 : Below W8.heap.size W8 W9 := bel_trans (belx) hb_
  have z9 : W8.heap.size + 0 ≤ W9.heap.size := by have := hb_.size; simpa using this
  have hB9 : Below w.heap.size w W9 := bel_trans hB8 hs9
  replace Ba0 := Ba0.below hs9 Ba0.size
  replace Bs0 := Bs0.below hs9 Bs0.size
  replace Bx0 := Bx0.below hs9 Bx0.size
  replace Bg0 := Bg0.below hs9 Bg0.size
  replace o_x0 := Ty.below (t := tPool) o_x0 hs9
  replace o_x2 := Ty.below (t := tBy) o_x2 hs9
  replace o_g0 := Ty.below (t := tPool) o_g0 hs9
  replace o_g1 := Ty.below (t := tHeld.row) o_g1 hs9
  replace r_s0 := (tPool).keep r_s0 (fun b hb => hs9.block b (Nat.lt_of_lt_of_le hb (by omega)))
  replace r_s1 := (tHeld.row).keep r_s1 (fun b hb => hs9.block b (Nat.lt_of_lt_of_le hb (by omega)))
  have k_Ba0_0 : W9.cell? ⟨w.heap.size, 0, none⟩ = some (.slice Aa00 na00 ca00) := Ba0.cell 0
  have k_Ba0_1 : W9.cell? ⟨w.heap.size, 1, none⟩ = some (.slice Aa01 na01 ca01) := Ba0.cell 1
  have k_Bs0_0 : W9.cell? ⟨W4.heap.size, 0, none⟩ = some (.slice As00 ns00 cs00) := Bs0.cell 0
  have k_Bs0_1 : W9.cell? ⟨W4.heap.size, 1, none⟩ = some (.slice As01 ns01 cs01) := Bs0.cell 1
  have k_Bx0_0 : W9.cell? ⟨W5.heap.size, 0, none⟩ = some (.slice Ax00 (p0.1).length cx00) := Bx0.cell 0
  have k_Bx0_1 : W9.cell? ⟨W5.heap.size, 1, none⟩ = some (.slice Ax01 (p0.2).length cx01) := Bx0.cell 1
  have k_Bg0_0 : W9.cell? ⟨W7.heap.size, 0, none⟩ = some (.slice Ag00 (r0.1).length cg00) := Bg0.cell 0
  have k_Bg0_1 : W9.cell? ⟨W7.heap.size, 1, none⟩ = some (.slice Ag01 (r0.2).length cg01) := Bg0.cell 1
  clear hb_
  go_wp2_with fail
  go_region_held3 (fun w' => w'.cell? ⟨w.heap.size, 0, none⟩ = some (.slice Aa00 na00 ca00) ∧ w'.cell? ⟨w.heap.size, 1, none⟩ = some (.slice Aa01 na01 ca01) ∧ w'.cell? ⟨W5.heap.size, 0, none⟩ = some (.slice Ax00 (p0.1).length cx00) ∧ w'.cell? ⟨W5.heap.size, 1, none⟩ = some (.slice Ax01 (p0.2).length cx01)) (first | (exact ⟨k_Ba0_0, k_Ba0_1, k_Bx0_0, k_Bx0_1⟩) | (exact ⟨cell_bel hs11 k_Ba0_0, cell_bel hs11 k_Ba0_1, cell_bel hs11 k_Bx0_0, cell_bel hs11 k_Bx0_1⟩) | (exact ⟨cell_bel hs10 k_Ba0_0, cell_bel hs10 k_Ba0_1, cell_bel hs10 k_Bx0_0, cell_bel hs10 k_Bx0_1⟩) | go_keep)
    (first
      | (go_at_call 27; refine (o_toPool ((tPool).reach ((tPool).reach h0 hB9) (belx)) (by omega)).mono ?_; rintro e W10 ⟨csv, Fv, rfl, o_v, Nv, hb_⟩; have hs10 : Below W9.heap.size W9 W10 := bel_trans (belx) hb_)
      | (go_at_call 29; refine (o_eqPool ((tPool).reach ((tPool).reach ((tPool).read o_x0) hs10) (belx)) ((tPool).reach ((tPool).read o_v) (belx))).mono ?_; rintro e W11 ⟨rfl, hb2_⟩; have hs11' : Below W9.heap.size W9 W11 := bel_trans hs10 (bel_trans (belx) hb2_); have hs11 := hs11'))
  clear o_v Nv hb_ hb2_ hs10
  clear k_Ba0_0 k_Ba0_1
  clear k_Bs0_0 k_Bs0_1
  clear k_Bx0_0 k_Bx0_1
  clear k_Bg0_0 k_Bg0_1
  have z11 : W9.heap.size + 0 ≤ W11.heap.size := hs11'.size
  have hB11 : Below w.heap.size w W11 := bel_trans hB9 hs11'
  replace Ba0 := Ba0.below hs11' Ba0.size
  replace Bs0 := Bs0.below hs11' Bs0.size
  replace Bx0 := Bx0.below hs11' Bx0.size
  replace Bg0 := Bg0.below hs11' Bg0.size
  replace o_x0 := Ty.below (t := tPool) o_x0 hs11'
  replace o_x2 := Ty.below (t := tBy) o_x2 hs11'
  replace o_g0 := Ty.below (t := tPool) o_g0 hs11'
  replace o_g1 := Ty.below (t := tHeld.row) o_g1 hs11'
  replace r_s0 := (tPool).keep r_s0 (fun b hb => hs11'.block b (Nat.lt_of_lt_of_le hb (by omega)))
  replace r_s1 := (tHeld.row).keep r_s1 (fun b hb => hs11'.block b (Nat.lt_of_lt_of_le hb (by omega)))
  have k_Ba0_0 : W11.cell? ⟨w.heap.size, 0, none⟩ = some (.slice Aa00 na00 ca00) := Ba0.cell 0
  have k_Ba0_1 : W11.cell? ⟨w.heap.size, 1, none⟩ = some (.slice Aa01 na01 ca01) := Ba0.cell 1
  have k_Bs0_0 : W11.cell? ⟨W4.heap.size, 0, none⟩ = some (.slice As00 ns00 cs00) := Bs0.cell 0
  have k_Bs0_1 : W11.cell? ⟨W4.heap.size, 1, none⟩ = some (.slice As01 ns01 cs01) := Bs0.cell 1
  have k_Bx0_0 : W11.cell? ⟨W5.heap.size, 0, none⟩ = some (.slice Ax00 (p0.1).length cx00) := Bx0.cell 0
  have k_Bx0_1 : W11.cell? ⟨W5.heap.size, 1, none⟩ = some (.slice Ax01 (p0.2).length cx01) := Bx0.cell 1
  have k_Bg0_0 : W11.cell? ⟨W7.heap.size, 0, none⟩ = some (.slice Ag00 (r0.1).length cg00) := Bg0.cell 0
  have k_Bg0_1 : W11.cell? ⟨W7.heap.size, 1, none⟩ = some (.slice Ag01 (r0.2).length cg01) := Bg0.cell 1
  go_wp2_with fail
  refine (o_toByteSA ((tBy).reach ((tBy).reach h2 hB11) ?hB) (by omega)).mono ?_
  all_goals try (case hB => exact (belx))
  rintro e W12 ⟨Av, cv, Fv, rfl, o_v, Nv, ha_v, hb_⟩
  clear k_Ba0_0 k_Ba0_1
  clear k_Bs0_0 k_Bs0_1
  clear k_Bx0_0 k_Bx0_1
  clear k_Bg0_0 k_Bg0_1
  have Iv : ∀ f ∈ Fv, W11.heap.size + 0 ≤ f ∧ f < W12.heap.size := fun f hf => ⟨Nat.le_trans (by first | (simp; done) | (simp; omega)) (Nv.2 f hf), (tBy).lt o_v f hf⟩
  have Dv := Nv.1
  clear Nv
  have hs12 : Below W11.heap.size W11 W12 := bel_trans (belx) hb_
  have z12 : W11.heap.size + 0 ≤ W12.heap.size := by have := hb_.size; simpa using this
  have hB12 : Below w.heap.size w W12 := bel_trans hB11 hs12
  replace Ba0 := Ba0.below hs12 Ba0.size
  replace Bs0 := Bs0.below hs12 Bs0.size
  replace Bx0 := Bx0.below hs12 Bx0.size
  replace Bg0 := Bg0.below hs12 Bg0.size
  replace o_x0 := Ty.below (t := tPool) o_x0 hs12
  replace o_x2 := Ty.below (t := tBy) o_x2 hs12
  replace o_g0 := Ty.below (t := tPool) o_g0 hs12
  replace o_g1 := Ty.below (t := tHeld.row) o_g1 hs12
  replace r_s0 := (tPool).keep r_s0 (fun b hb => hs12.block b (Nat.lt_of_lt_of_le hb (by omega)))
  replace r_s1 := (tHeld.row).keep r_s1 (fun b hb => hs12.block b (Nat.lt_of_lt_of_le hb (by omega)))
  have k_Ba0_0 : W12.cell? ⟨w.heap.size, 0, none⟩ = some (.slice Aa00 na00 ca00) := Ba0.cell 0
  have k_Ba0_1 : W12.cell? ⟨w.heap.size, 1, none⟩ = some (.slice Aa01 na01 ca01) := Ba0.cell 1
  have k_Bs0_0 : W12.cell? ⟨W4.heap.size, 0, none⟩ = some (.slice As00 ns00 cs00) := Bs0.cell 0
  have k_Bs0_1 : W12.cell? ⟨W4.heap.size, 1, none⟩ = some (.slice As01 ns01 cs01) := Bs0.cell 1
  have k_Bx0_0 : W12.cell? ⟨W5.heap.size, 0, none⟩ = some (.slice Ax00 (p0.1).length cx00) := Bx0.cell 0
  have k_Bx0_1 : W12.cell? ⟨W5.heap.size, 1, none⟩ = some (.slice Ax01 (p0.2).length cx01) := Bx0.cell 1
  have k_Bg0_0 : W12.cell? ⟨W7.heap.size, 0, none⟩ = some (.slice Ag00 (r0.1).length cg00) := Bg0.cell 0
  have k_Bg0_1 : W12.cell? ⟨W7.heap.size, 1, none⟩ = some (.slice Ag01 (r0.2).length cg01) := Bg0.cell 1
  clear hb_
  go_wp2_with fail
  refine (o_eqByteS ((tBy).reach ((tBy).read o_x2) ?hB) ((tBy).reach ((tBy).read o_v) ?hB)).mono ?_
  all_goals try (case hB => exact (belx))
  rintro e W13 ⟨rfl, hb_⟩
  clear k_Ba0_0 k_Ba0_1
  clear k_Bs0_0 k_Bs0_1
  clear k_Bx0_0 k_Bx0_1
  clear k_Bg0_0 k_Bg0_1
  clear o_v Iv Dv
  have hs13 : Below W12.heap.size W12 W13 := bel_trans (belx) hb_
  have z13 : W12.heap.size + 0 ≤ W13.heap.size := by have := hb_.size; simpa using this
  have hB13 : Below w.heap.size w W13 := bel_trans hB12 hs13
  replace Ba0 := Ba0.below hs13 Ba0.size
  replace Bs0 := Bs0.below hs13 Bs0.size
  replace Bx0 := Bx0.below hs13 Bx0.size
  replace Bg0 := Bg0.below hs13 Bg0.size
  replace o_x0 := Ty.below (t := tPool) o_x0 hs13
  replace o_x2 := Ty.below (t := tBy) o_x2 hs13
  replace o_g0 := Ty.below (t := tPool) o_g0 hs13
  replace o_g1 := Ty.below (t := tHeld.row) o_g1 hs13
  replace r_s0 := (tPool).keep r_s0 (fun b hb => hs13.block b (Nat.lt_of_lt_of_le hb (by omega)))
  replace r_s1 := (tHeld.row).keep r_s1 (fun b hb => hs13.block b (Nat.lt_of_lt_of_le hb (by omega)))
  have k_Ba0_0 : W13.cell? ⟨w.heap.size, 0, none⟩ = some (.slice Aa00 na00 ca00) := Ba0.cell 0
  have k_Ba0_1 : W13.cell? ⟨w.heap.size, 1, none⟩ = some (.slice Aa01 na01 ca01) := Ba0.cell 1
  have k_Bs0_0 : W13.cell? ⟨W4.heap.size, 0, none⟩ = some (.slice As00 ns00 cs00) := Bs0.cell 0
  have k_Bs0_1 : W13.cell? ⟨W4.heap.size, 1, none⟩ = some (.slice As01 ns01 cs01) := Bs0.cell 1
  have k_Bx0_0 : W13.cell? ⟨W5.heap.size, 0, none⟩ = some (.slice Ax00 (p0.1).length cx00) := Bx0.cell 0
  have k_Bx0_1 : W13.cell? ⟨W5.heap.size, 1, none⟩ = some (.slice Ax01 (p0.2).length cx01) := Bx0.cell 1
  have k_Bg0_0 : W13.cell? ⟨W7.heap.size, 0, none⟩ = some (.slice Ag00 (r0.1).length cg00) := Bg0.cell 0
  have k_Bg0_1 : W13.cell? ⟨W7.heap.size, 1, none⟩ = some (.slice Ag01 (r0.2).length cg01) := Bg0.cell 1
  clear hb_
  go_wp2_with fail
  refine (o_markPool (1) o_x0 Dx0 (by omega) (by omega)).mono ?_
  rintro e W14 ⟨rfl, om_, hG_⟩
  clear k_Ba0_0 k_Ba0_1
  clear k_Bs0_0 k_Bs0_1
  clear k_Bx0_0 k_Bx0_1
  clear k_Bg0_0 k_Bg0_1
  replace o_x0 := om_
  clear om_
  have z14 : W13.heap.size + 0 ≤ W14.heap.size := hG_.size
  have hB14 : Below w.heap.size w W14 := hB13.trans (hG_.below (fun f hf => by have := Ix0 f hf; omega) (by have := hB13.size; omega))
  replace Ba0 := Ba0.same (hG_.block _ Ba0.size (fun hx => by have := Ix0 _ hx; omega))
  replace Bs0 := Bs0.same (hG_.block _ Bs0.size (fun hx => by have := Ix0 _ hx; omega))
  replace Bx0 := Bx0.same (hG_.block _ Bx0.size (fun hx => by have := Ix0 _ hx; omega))
  replace Bg0 := Bg0.same (hG_.block _ Bg0.size (fun hx => by have := Ix0 _ hx; omega))
  replace o_x2 := Ty.only (t := tBy) o_x2 hG_ (fun f hf hx => by have := Ix2 f hf; have := Ix0 f hx; omega)
  replace o_g0 := Ty.only (t := tPool) o_g0 hG_ (fun f hf hx => by have := Ig0 f hf; have := Ix0 f hx; omega)
  replace o_g1 := Ty.only (t := tHeld.row) o_g1 hG_ (fun f hf hx => by have := Ig1 f hf; have := Ix0 f hx; omega)
  replace r_s0 := (tPool).keep r_s0 (fun b hb => hG_.block b (Nat.lt_of_lt_of_le hb (by omega)) (fun hx => by have := Ix0 b hx; omega))
  replace r_s1 := (tHeld.row).keep r_s1 (fun b hb => hG_.block b (Nat.lt_of_lt_of_le hb (by omega)) (fun hx => by have := Ix0 b hx; omega))
  have k_Ba0_0 : W14.cell? ⟨w.heap.size, 0, none⟩ = some (.slice Aa00 na00 ca00) := Ba0.cell 0
  have k_Ba0_1 : W14.cell? ⟨w.heap.size, 1, none⟩ = some (.slice Aa01 na01 ca01) := Ba0.cell 1
  have k_Bs0_0 : W14.cell? ⟨W4.heap.size, 0, none⟩ = some (.slice As00 ns00 cs00) := Bs0.cell 0
  have k_Bs0_1 : W14.cell? ⟨W4.heap.size, 1, none⟩ = some (.slice As01 ns01 cs01) := Bs0.cell 1
  have k_Bx0_0 : W14.cell? ⟨W5.heap.size, 0, none⟩ = some (.slice Ax00 (p0.1).length cx00) := Bx0.cell 0
  have k_Bx0_1 : W14.cell? ⟨W5.heap.size, 1, none⟩ = some (.slice Ax01 (p0.2).length cx01) := Bx0.cell 1
  have k_Bg0_0 : W14.cell? ⟨W7.heap.size, 0, none⟩ = some (.slice Ag00 (r0.1).length cg00) := Bg0.cell 0
  have k_Bg0_1 : W14.cell? ⟨W7.heap.size, 1, none⟩ = some (.slice Ag01 (r0.2).length cg01) := Bg0.cell 1
  clear hG_
  go_wp2_with fail
  refine (o_markByteS (1 + ((cntPool (p0) : Nat) : Int)) o_x2 (by omega) (by omega)).mono ?_
  rintro e W15 ⟨rfl, om_, hG_⟩
  clear k_Ba0_0 k_Ba0_1
  clear k_Bs0_0 k_Bs0_1
  clear k_Bx0_0 k_Bx0_1
  clear k_Bg0_0 k_Bg0_1
  replace o_x2 := om_
  clear om_
  have z15 : W14.heap.size + 0 ≤ W15.heap.size := hG_.size
  have hB15 : Below w.heap.size w W15 := hB14.trans (hG_.below (fun f hf => by have := Ix2 f hf; omega) (by have := hB14.size; omega))
  replace Ba0 := Ba0.same (hG_.block _ Ba0.size (fun hx => by have := Ix2 _ hx; omega))
  replace Bs0 := Bs0.same (hG_.block _ Bs0.size (fun hx => by have := Ix2 _ hx; omega))
  replace Bx0 := Bx0.same (hG_.block _ Bx0.size (fun hx => by have := Ix2 _ hx; omega))
  replace Bg0 := Bg0.same (hG_.block _ Bg0.size (fun hx => by have := Ix2 _ hx; omega))
  replace o_x0 := Ty.only (t := tPool) o_x0 hG_ (fun f hf hx => by have := Ix0 f hf; have := Ix2 f hx; omega)
  replace o_g0 := Ty.only (t := tPool) o_g0 hG_ (fun f hf hx => by have := Ig0 f hf; have := Ix2 f hx; omega)
  replace o_g1 := Ty.only (t := tHeld.row) o_g1 hG_ (fun f hf hx => by have := Ig1 f hf; have := Ix2 f hx; omega)
  replace r_s0 := (tPool).keep r_s0 (fun b hb => hG_.block b (Nat.lt_of_lt_of_le hb (by omega)) (fun hx => by have := Ix2 b hx; omega))
  replace r_s1 := (tHeld.row).keep r_s1 (fun b hb => hG_.block b (Nat.lt_of_lt_of_le hb (by omega)) (fun hx => by have := Ix2 b hx; omega))
  have k_Ba0_0 : W15.cell? ⟨w.heap.size, 0, none⟩ = some (.slice Aa00 na00 ca00) := Ba0.cell 0
  have k_Ba0_1 : W15.cell? ⟨w.heap.size, 1, none⟩ = some (.slice Aa01 na01 ca01) := Ba0.cell 1
  have k_Bs0_0 : W15.cell? ⟨W4.heap.size, 0, none⟩ = some (.slice As00 ns00 cs00) := Bs0.cell 0
  have k_Bs0_1 : W15.cell? ⟨W4.heap.size, 1, none⟩ = some (.slice As01 ns01 cs01) := Bs0.cell 1
  have k_Bx0_0 : W15.cell? ⟨W5.heap.size, 0, none⟩ = some (.slice Ax00 (p0.1).length cx00) := Bx0.cell 0
  have k_Bx0_1 : W15.cell? ⟨W5.heap.size, 1, none⟩ = some (.slice Ax01 (p0.2).length cx01) := Bx0.cell 1
  have k_Bg0_0 : W15.cell? ⟨W7.heap.size, 0, none⟩ = some (.slice Ag00 (r0.1).length cg00) := Bg0.cell 0
  have k_Bg0_1 : W15.cell? ⟨W7.heap.size, 1, none⟩ = some (.slice Ag01 (r0.2).length cg01) := Bg0.cell 1
  clear hG_
  have dk : decide ((1 + ((cntPool (p0) : Nat) : Int) + (((p2).length : Nat) : Int) : Int) < 0) = false := by simp; omega
  clear o_x0 Ix0 Dx0
  clear o_x2 Ix2 Dx2
  go_wp2_with fail
  refine (o_eqPool ((tPool).reach ((tPool).read o_g0) ?hB) ((tPool).reach ((tPool).up r_s0 (by omega : W4.heap.size ≤ W15.heap.size)) ?hB)).mono ?_
  all_goals try (case hB => exact (belx))
  rintro e W16 ⟨rfl, hb_⟩
  clear k_Ba0_0 k_Ba0_1
  clear k_Bs0_0 k_Bs0_1
  clear k_Bx0_0 k_Bx0_1
  clear k_Bg0_0 k_Bg0_1
  have hs16 : Below W15.heap.size W15 W16 := bel_trans (belx) hb_
  have z16 : W15.heap.size + 0 ≤ W16.heap.size := by have := hb_.size; simpa using this
  have hB16 : Below w.heap.size w W16 := bel_trans hB15 hs16
  replace Ba0 := Ba0.below hs16 Ba0.size
  replace Bs0 := Bs0.below hs16 Bs0.size
  replace Bx0 := Bx0.below hs16 Bx0.size
  replace Bg0 := Bg0.below hs16 Bg0.size
  replace o_g0 := Ty.below (t := tPool) o_g0 hs16
  replace o_g1 := Ty.below (t := tHeld.row) o_g1 hs16
  replace r_s0 := (tPool).keep r_s0 (fun b hb => hs16.block b (Nat.lt_of_lt_of_le hb (by omega)))
  replace r_s1 := (tHeld.row).keep r_s1 (fun b hb => hs16.block b (Nat.lt_of_lt_of_le hb (by omega)))
  have k_Ba0_0 : W16.cell? ⟨w.heap.size, 0, none⟩ = some (.slice Aa00 na00 ca00) := Ba0.cell 0
  have k_Ba0_1 : W16.cell? ⟨w.heap.size, 1, none⟩ = some (.slice Aa01 na01 ca01) := Ba0.cell 1
  have k_Bs0_0 : W16.cell? ⟨W4.heap.size, 0, none⟩ = some (.slice As00 ns00 cs00) := Bs0.cell 0
  have k_Bs0_1 : W16.cell? ⟨W4.heap.size, 1, none⟩ = some (.slice As01 ns01 cs01) := Bs0.cell 1
  have k_Bx0_0 : W16.cell? ⟨W5.heap.size, 0, none⟩ = some (.slice Ax00 (p0.1).length cx00) := Bx0.cell 0
  have k_Bx0_1 : W16.cell? ⟨W5.heap.size, 1, none⟩ = some (.slice Ax01 (p0.2).length cx01) := Bx0.cell 1
  have k_Bg0_0 : W16.cell? ⟨W7.heap.size, 0, none⟩ = some (.slice Ag00 (r0.1).length cg00) := Bg0.cell 0
  have k_Bg0_1 : W16.cell? ⟨W7.heap.size, 1, none⟩ = some (.slice Ag01 (r0.2).length cg01) := Bg0.cell 1
  clear hb_
  go_wp2_with fail
  refine (o_eqHeldS ((tHeld.row).reach ((tHeld.row).read o_g1) ?hB) ((tHeld.row).reach ((tHeld.row).up r_s1 (by omega : W4.heap.size ≤ W16.heap.size)) ?hB)).mono ?_
  all_goals try (case hB => exact (belx))
  rintro e W17 ⟨rfl, hb_⟩
  clear k_Ba0_0 k_Ba0_1
  clear k_Bs0_0 k_Bs0_1
  clear k_Bx0_0 k_Bx0_1
  clear k_Bg0_0 k_Bg0_1
  have hs17 : Below W16.heap.size W16 W17 := bel_trans (belx) hb_
  have z17 : W16.heap.size + 0 ≤ W17.heap.size := by have := hb_.size; simpa using this
  have hB17 : Below w.heap.size w W17 := bel_trans hB16 hs17
  replace Ba0 := Ba0.below hs17 Ba0.size
  replace Bs0 := Bs0.below hs17 Bs0.size
  replace Bx0 := Bx0.below hs17 Bx0.size
  replace Bg0 := Bg0.below hs17 Bg0.size
  replace o_g0 := Ty.below (t := tPool) o_g0 hs17
  replace o_g1 := Ty.below (t := tHeld.row) o_g1 hs17
  replace r_s0 := (tPool).keep r_s0 (fun b hb => hs17.block b (Nat.lt_of_lt_of_le hb (by omega)))
  replace r_s1 := (tHeld.row).keep r_s1 (fun b hb => hs17.block b (Nat.lt_of_lt_of_le hb (by omega)))
  have k_Ba0_0 : W17.cell? ⟨w.heap.size, 0, none⟩ = some (.slice Aa00 na00 ca00) := Ba0.cell 0
  have k_Ba0_1 : W17.cell? ⟨w.heap.size, 1, none⟩ = some (.slice Aa01 na01 ca01) := Ba0.cell 1
  have k_Bs0_0 : W17.cell? ⟨W4.heap.size, 0, none⟩ = some (.slice As00 ns00 cs00) := Bs0.cell 0
  have k_Bs0_1 : W17.cell? ⟨W4.heap.size, 1, none⟩ = some (.slice As01 ns01 cs01) := Bs0.cell 1
  have k_Bx0_0 : W17.cell? ⟨W5.heap.size, 0, none⟩ = some (.slice Ax00 (p0.1).length cx00) := Bx0.cell 0
  have k_Bx0_1 : W17.cell? ⟨W5.heap.size, 1, none⟩ = some (.slice Ax01 (p0.2).length cx01) := Bx0.cell 1
  have k_Bg0_0 : W17.cell? ⟨W7.heap.size, 0, none⟩ = some (.slice Ag00 (r0.1).length cg00) := Bg0.cell 0
  have k_Bg0_1 : W17.cell? ⟨W7.heap.size, 1, none⟩ = some (.slice Ag01 (r0.2).length cg01) := Bg0.cell 1
  clear hb_
  go_wp2_with fail
  refine (o_markPool (1) o_g0 Dg0 (by omega) (by omega)).mono ?_
  rintro e W18 ⟨rfl, om_, hG_⟩
  clear k_Ba0_0 k_Ba0_1
  clear k_Bs0_0 k_Bs0_1
  clear k_Bx0_0 k_Bx0_1
  clear k_Bg0_0 k_Bg0_1
  replace o_g0 := om_
  clear om_
  replace o_g1 := Ty.only (t := tHeld.row) o_g1 hG_ (fun f hf hx => Xg f hx hf)
  have z18 : W17.heap.size + 0 ≤ W18.heap.size := hG_.size
  have hB18 : Below w.heap.size w W18 := hB17.trans (hG_.below (fun f hf => by have := Ig0 f hf; omega) (by have := hB17.size; omega))
  replace Ba0 := Ba0.same (hG_.block _ Ba0.size (fun hx => by have := Ig0 _ hx; omega))
  replace Bs0 := Bs0.same (hG_.block _ Bs0.size (fun hx => by have := Ig0 _ hx; omega))
  replace Bx0 := Bx0.same (hG_.block _ Bx0.size (fun hx => by have := Ig0 _ hx; omega))
  replace Bg0 := Bg0.same (hG_.block _ Bg0.size (fun hx => by have := Ig0 _ hx; omega))
  replace r_s0 := (tPool).keep r_s0 (fun b hb => hG_.block b (Nat.lt_of_lt_of_le hb (by omega)) (fun hx => by have := Ig0 b hx; omega))
  replace r_s1 := (tHeld.row).keep r_s1 (fun b hb => hG_.block b (Nat.lt_of_lt_of_le hb (by omega)) (fun hx => by have := Ig0 b hx; omega))
  have k_Ba0_0 : W18.cell? ⟨w.heap.size, 0, none⟩ = some (.slice Aa00 na00 ca00) := Ba0.cell 0
  have k_Ba0_1 : W18.cell? ⟨w.heap.size, 1, none⟩ = some (.slice Aa01 na01 ca01) := Ba0.cell 1
  have k_Bs0_0 : W18.cell? ⟨W4.heap.size, 0, none⟩ = some (.slice As00 ns00 cs00) := Bs0.cell 0
  have k_Bs0_1 : W18.cell? ⟨W4.heap.size, 1, none⟩ = some (.slice As01 ns01 cs01) := Bs0.cell 1
  have k_Bx0_0 : W18.cell? ⟨W5.heap.size, 0, none⟩ = some (.slice Ax00 (p0.1).length cx00) := Bx0.cell 0
  have k_Bx0_1 : W18.cell? ⟨W5.heap.size, 1, none⟩ = some (.slice Ax01 (p0.2).length cx01) := Bx0.cell 1
  have k_Bg0_0 : W18.cell? ⟨W7.heap.size, 0, none⟩ = some (.slice Ag00 (r0.1).length cg00) := Bg0.cell 0
  have k_Bg0_1 : W18.cell? ⟨W7.heap.size, 1, none⟩ = some (.slice Ag01 (r0.2).length cg01) := Bg0.cell 1
  clear hG_
  go_wp2_with fail
  refine (o_markHeldS (1 + ((cntPool (r0) : Nat) : Int)) o_g1 Dg1 (by omega) (by omega)).mono ?_
  rintro e W19 ⟨rfl, om_, hG_⟩
  clear k_Ba0_0 k_Ba0_1
  clear k_Bs0_0 k_Bs0_1
  clear k_Bx0_0 k_Bx0_1
  clear k_Bg0_0 k_Bg0_1
  replace o_g1 := om_
  clear om_
  replace o_g0 := Ty.only (t := tPool) o_g0 hG_ (fun f hf hx => Xg f hf hx)
  have z19 : W18.heap.size + 0 ≤ W19.heap.size := hG_.size
  have hB19 : Below w.heap.size w W19 := hB18.trans (hG_.below (fun f hf => by have := Ig1 f hf; omega) (by have := hB18.size; omega))
  replace Ba0 := Ba0.same (hG_.block _ Ba0.size (fun hx => by have := Ig1 _ hx; omega))
  replace Bs0 := Bs0.same (hG_.block _ Bs0.size (fun hx => by have := Ig1 _ hx; omega))
  replace Bx0 := Bx0.same (hG_.block _ Bx0.size (fun hx => by have := Ig1 _ hx; omega))
  replace Bg0 := Bg0.same (hG_.block _ Bg0.size (fun hx => by have := Ig1 _ hx; omega))
  replace r_s0 := (tPool).keep r_s0 (fun b hb => hG_.block b (Nat.lt_of_lt_of_le hb (by omega)) (fun hx => by have := Ig1 b hx; omega))
  replace r_s1 := (tHeld.row).keep r_s1 (fun b hb => hG_.block b (Nat.lt_of_lt_of_le hb (by omega)) (fun hx => by have := Ig1 b hx; omega))
  have k_Ba0_0 : W19.cell? ⟨w.heap.size, 0, none⟩ = some (.slice Aa00 na00 ca00) := Ba0.cell 0
  have k_Ba0_1 : W19.cell? ⟨w.heap.size, 1, none⟩ = some (.slice Aa01 na01 ca01) := Ba0.cell 1
  have k_Bs0_0 : W19.cell? ⟨W4.heap.size, 0, none⟩ = some (.slice As00 ns00 cs00) := Bs0.cell 0
  have k_Bs0_1 : W19.cell? ⟨W4.heap.size, 1, none⟩ = some (.slice As01 ns01 cs01) := Bs0.cell 1
  have k_Bx0_0 : W19.cell? ⟨W5.heap.size, 0, none⟩ = some (.slice Ax00 (p0.1).length cx00) := Bx0.cell 0
  have k_Bx0_1 : W19.cell? ⟨W5.heap.size, 1, none⟩ = some (.slice Ax01 (p0.2).length cx01) := Bx0.cell 1
  have k_Bg0_0 : W19.cell? ⟨W7.heap.size, 0, none⟩ = some (.slice Ag00 (r0.1).length cg00) := Bg0.cell 0
  have k_Bg0_1 : W19.cell? ⟨W7.heap.size, 1, none⟩ = some (.slice Ag01 (r0.2).length cg01) := Bg0.cell 1
  clear hG_
  have dm : (((1 + ((cntPool (r0) : Nat) : Int) + ((rsum rcHeld (r1) : Nat) : Int) : Int)) != (1 + ((cntPool (r0) : Nat) : Int) + ((rsum rcHeld (r1) : Nat) : Int))) = false := by simp
  have dh0 : decide ((1 + ((cntPool (r0) : Nat) : Int) : Int) < 0) = false := by simp; omega
  go_wp2_with fail
  refine (o_heldPool (1) ((tPool).reach ((tPool).read o_g0) ?hB) (by omega) (by omega)).mono ?_
  all_goals try (case hB => exact (belx))
  rintro e W20 ⟨rfl, hb_⟩
  clear k_Ba0_0 k_Ba0_1
  clear k_Bs0_0 k_Bs0_1
  clear k_Bx0_0 k_Bx0_1
  clear k_Bg0_0 k_Bg0_1
  have hs20 : Below W19.heap.size W19 W20 := bel_trans (belx) hb_
  have z20 : W19.heap.size + 0 ≤ W20.heap.size := by have := hb_.size; simpa using this
  have hB20 : Below w.heap.size w W20 := bel_trans hB19 hs20
  replace Ba0 := Ba0.below hs20 Ba0.size
  replace Bs0 := Bs0.below hs20 Bs0.size
  replace Bx0 := Bx0.below hs20 Bx0.size
  replace Bg0 := Bg0.below hs20 Bg0.size
  replace o_g0 := Ty.below (t := tPool) o_g0 hs20
  replace o_g1 := Ty.below (t := tHeld.row) o_g1 hs20
  replace r_s0 := (tPool).keep r_s0 (fun b hb => hs20.block b (Nat.lt_of_lt_of_le hb (by omega)))
  replace r_s1 := (tHeld.row).keep r_s1 (fun b hb => hs20.block b (Nat.lt_of_lt_of_le hb (by omega)))
  have k_Ba0_0 : W20.cell? ⟨w.heap.size, 0, none⟩ = some (.slice Aa00 na00 ca00) := Ba0.cell 0
  have k_Ba0_1 : W20.cell? ⟨w.heap.size, 1, none⟩ = some (.slice Aa01 na01 ca01) := Ba0.cell 1
  have k_Bs0_0 : W20.cell? ⟨W4.heap.size, 0, none⟩ = some (.slice As00 ns00 cs00) := Bs0.cell 0
  have k_Bs0_1 : W20.cell? ⟨W4.heap.size, 1, none⟩ = some (.slice As01 ns01 cs01) := Bs0.cell 1
  have k_Bx0_0 : W20.cell? ⟨W5.heap.size, 0, none⟩ = some (.slice Ax00 (p0.1).length cx00) := Bx0.cell 0
  have k_Bx0_1 : W20.cell? ⟨W5.heap.size, 1, none⟩ = some (.slice Ax01 (p0.2).length cx01) := Bx0.cell 1
  have k_Bg0_0 : W20.cell? ⟨W7.heap.size, 0, none⟩ = some (.slice Ag00 (r0.1).length cg00) := Bg0.cell 0
  have k_Bg0_1 : W20.cell? ⟨W7.heap.size, 1, none⟩ = some (.slice Ag01 (r0.2).length cg01) := Bg0.cell 1
  clear hb_
  have dh1 : decide ((1 + ((cntPool (r0) : Nat) : Int) + ((rsum rcHeld (r1) : Nat) : Int) : Int) < 0) = false := by simp; omega
  go_wp2_with fail
  refine (o_heldHeldS (1 + ((cntPool (r0) : Nat) : Int)) ((tHeld.row).reach ((tHeld.row).read o_g1) ?hB) (by omega) (by omega)).mono ?_
  all_goals try (case hB => exact (belx))
  rintro e W21 ⟨rfl, hb_⟩
  clear k_Ba0_0 k_Ba0_1
  clear k_Bs0_0 k_Bs0_1
  clear k_Bx0_0 k_Bx0_1
  clear k_Bg0_0 k_Bg0_1
  have hs21 : Below W20.heap.size W20 W21 := bel_trans (belx) hb_
  have z21 : W20.heap.size + 0 ≤ W21.heap.size := by have := hb_.size; simpa using this
  have hB21 : Below w.heap.size w W21 := bel_trans hB20 hs21
  replace Ba0 := Ba0.below hs21 Ba0.size
  replace Bs0 := Bs0.below hs21 Bs0.size
  replace Bx0 := Bx0.below hs21 Bx0.size
  replace Bg0 := Bg0.below hs21 Bg0.size
  replace o_g0 := Ty.below (t := tPool) o_g0 hs21
  replace o_g1 := Ty.below (t := tHeld.row) o_g1 hs21
  replace r_s0 := (tPool).keep r_s0 (fun b hb => hs21.block b (Nat.lt_of_lt_of_le hb (by omega)))
  replace r_s1 := (tHeld.row).keep r_s1 (fun b hb => hs21.block b (Nat.lt_of_lt_of_le hb (by omega)))
  have k_Ba0_0 : W21.cell? ⟨w.heap.size, 0, none⟩ = some (.slice Aa00 na00 ca00) := Ba0.cell 0
  have k_Ba0_1 : W21.cell? ⟨w.heap.size, 1, none⟩ = some (.slice Aa01 na01 ca01) := Ba0.cell 1
  have k_Bs0_0 : W21.cell? ⟨W4.heap.size, 0, none⟩ = some (.slice As00 ns00 cs00) := Bs0.cell 0
  have k_Bs0_1 : W21.cell? ⟨W4.heap.size, 1, none⟩ = some (.slice As01 ns01 cs01) := Bs0.cell 1
  have k_Bx0_0 : W21.cell? ⟨W5.heap.size, 0, none⟩ = some (.slice Ax00 (p0.1).length cx00) := Bx0.cell 0
  have k_Bx0_1 : W21.cell? ⟨W5.heap.size, 1, none⟩ = some (.slice Ax01 (p0.2).length cx01) := Bx0.cell 1
  have k_Bg0_0 : W21.cell? ⟨W7.heap.size, 0, none⟩ = some (.slice Ag00 (r0.1).length cg00) := Bg0.cell 0
  have k_Bg0_1 : W21.cell? ⟨W7.heap.size, 1, none⟩ = some (.slice Ag01 (r0.2).length cg01) := Bg0.cell 1
  clear hb_
  go_wp2_with fail
  refine (o_toPool ((tPool).reach ((tPool).reach h0 hB21) ?hB) (by omega)).mono ?_
  all_goals try (case hB => exact (belx))
  rintro e W22 ⟨csy0, Fy0, rfl, o_y0, Ny0, hb_⟩
  clear k_Ba0_0 k_Ba0_1
  clear k_Bs0_0 k_Bs0_1
  clear k_Bx0_0 k_Bx0_1
  clear k_Bg0_0 k_Bg0_1
  have Iy0 : ∀ f ∈ Fy0, W21.heap.size + 0 ≤ f ∧ f < W22.heap.size := fun f hf => ⟨Nat.le_trans (by first | (simp; done) | (simp; omega)) (Ny0.2 f hf), (tPool).lt o_y0 f hf⟩
  have Dy0 := Ny0.1
  clear Ny0
  obtain ⟨Ay00, cy00, Fy00, Ay01, cy01, Fy01, rfl, -, -, -, -, -, -, -⟩ := openOPool o_y0
  have hs22 : Below W21.heap.size W21 W22 := bel_trans (belx) hb_
  have z22 : W21.heap.size + 0 ≤ W22.heap.size := by have := hb_.size; simpa using this
  have hB22 : Below w.heap.size w W22 := bel_trans hB21 hs22
  replace Ba0 := Ba0.below hs22 Ba0.size
  replace Bs0 := Bs0.below hs22 Bs0.size
  replace Bx0 := Bx0.below hs22 Bx0.size
  replace Bg0 := Bg0.below hs22 Bg0.size
  replace o_g0 := Ty.below (t := tPool) o_g0 hs22
  replace o_g1 := Ty.below (t := tHeld.row) o_g1 hs22
  replace r_s0 := (tPool).keep r_s0 (fun b hb => hs22.block b (Nat.lt_of_lt_of_le hb (by omega)))
  replace r_s1 := (tHeld.row).keep r_s1 (fun b hb => hs22.block b (Nat.lt_of_lt_of_le hb (by omega)))
  have k_Ba0_0 : W22.cell? ⟨w.heap.size, 0, none⟩ = some (.slice Aa00 na00 ca00) := Ba0.cell 0
  have k_Ba0_1 : W22.cell? ⟨w.heap.size, 1, none⟩ = some (.slice Aa01 na01 ca01) := Ba0.cell 1
  have k_Bs0_0 : W22.cell? ⟨W4.heap.size, 0, none⟩ = some (.slice As00 ns00 cs00) := Bs0.cell 0
  have k_Bs0_1 : W22.cell? ⟨W4.heap.size, 1, none⟩ = some (.slice As01 ns01 cs01) := Bs0.cell 1
  have k_Bx0_0 : W22.cell? ⟨W5.heap.size, 0, none⟩ = some (.slice Ax00 (p0.1).length cx00) := Bx0.cell 0
  have k_Bx0_1 : W22.cell? ⟨W5.heap.size, 1, none⟩ = some (.slice Ax01 (p0.2).length cx01) := Bx0.cell 1
  have k_Bg0_0 : W22.cell? ⟨W7.heap.size, 0, none⟩ = some (.slice Ag00 (r0.1).length cg00) := Bg0.cell 0
  have k_Bg0_1 : W22.cell? ⟨W7.heap.size, 1, none⟩ = some (.slice Ag01 (r0.2).length cg01) := Bg0.cell 1
  clear hb_
  go_wp2_with fail
  refine (o_toByteSA ((tBy).reach ((tBy).reach h2 hB22) ?hB) (by omega)).mono ?_
  all_goals try (case hB => exact (belx))
  rintro e W23 ⟨Ay2, cy2, Fy2, rfl, o_y2, Ny2, ha_y2, hb_⟩
  clear k_Ba0_0 k_Ba0_1
  clear k_Bs0_0 k_Bs0_1
  clear k_Bx0_0 k_Bx0_1
  clear k_Bg0_0 k_Bg0_1
  have Iy2 : ∀ f ∈ Fy2, W22.heap.size + 0 ≤ f ∧ f < W23.heap.size := fun f hf => ⟨Nat.le_trans (by first | (simp; done) | (simp; omega)) (Ny2.2 f hf), (tBy).lt o_y2 f hf⟩
  have Dy2 := Ny2.1
  clear Ny2
  have hs23 : Below W22.heap.size W22 W23 := bel_trans (belx) hb_
  have z23 : W22.heap.size + 0 ≤ W23.heap.size := by have := hb_.size; simpa using this
  have hB23 : Below w.heap.size w W23 := bel_trans hB22 hs23
  replace Ba0 := Ba0.below hs23 Ba0.size
  replace Bs0 := Bs0.below hs23 Bs0.size
  replace Bx0 := Bx0.below hs23 Bx0.size
  replace Bg0 := Bg0.below hs23 Bg0.size
  replace o_g0 := Ty.below (t := tPool) o_g0 hs23
  replace o_g1 := Ty.below (t := tHeld.row) o_g1 hs23
  replace o_y0 := Ty.below (t := tPool) o_y0 hs23
  replace r_s0 := (tPool).keep r_s0 (fun b hb => hs23.block b (Nat.lt_of_lt_of_le hb (by omega)))
  replace r_s1 := (tHeld.row).keep r_s1 (fun b hb => hs23.block b (Nat.lt_of_lt_of_le hb (by omega)))
  have k_Ba0_0 : W23.cell? ⟨w.heap.size, 0, none⟩ = some (.slice Aa00 na00 ca00) := Ba0.cell 0
  have k_Ba0_1 : W23.cell? ⟨w.heap.size, 1, none⟩ = some (.slice Aa01 na01 ca01) := Ba0.cell 1
  have k_Bs0_0 : W23.cell? ⟨W4.heap.size, 0, none⟩ = some (.slice As00 ns00 cs00) := Bs0.cell 0
  have k_Bs0_1 : W23.cell? ⟨W4.heap.size, 1, none⟩ = some (.slice As01 ns01 cs01) := Bs0.cell 1
  have k_Bx0_0 : W23.cell? ⟨W5.heap.size, 0, none⟩ = some (.slice Ax00 (p0.1).length cx00) := Bx0.cell 0
  have k_Bx0_1 : W23.cell? ⟨W5.heap.size, 1, none⟩ = some (.slice Ax01 (p0.2).length cx01) := Bx0.cell 1
  have k_Bg0_0 : W23.cell? ⟨W7.heap.size, 0, none⟩ = some (.slice Ag00 (r0.1).length cg00) := Bg0.cell 0
  have k_Bg0_1 : W23.cell? ⟨W7.heap.size, 1, none⟩ = some (.slice Ag01 (r0.2).length cg01) := Bg0.cell 1
  clear hb_
  go_wp2_with fail
  refine (i_FlushR ((tPool).reach ((tPool).read o_y0) ?hB) (by omega) w1 ((tBy).reach ((tBy).read o_y2) ?hB) (by omega) ha_y2).mono ?_
  all_goals try (case hB => exact (belx))
  rintro e W24 ⟨csh0, Fh0, Ah1, ch1, Fh1, rfl, o_h0, o_h1, Nh, hb_⟩
  clear k_Ba0_0 k_Ba0_1
  clear k_Bs0_0 k_Bs0_1
  clear k_Bx0_0 k_Bx0_1
  clear k_Bg0_0 k_Bg0_1
  clear o_y0 Iy0 Dy0
  clear o_y2 Iy2 Dy2
  rw [HR0.out] at o_h0
  rw [HR1.out] at o_h1
  rw [HR1.out]
  rw [HR2.out]
  obtain ⟨Ah00, ch00, Fh00, Ah01, ch01, Fh01, rfl, -, -, -, -, -, -, -⟩ := openOPool o_h0
  have Ih0 : ∀ f ∈ Fh0, W23.heap.size + 0 ≤ f ∧ f < W24.heap.size := fun f hf => ⟨Nat.le_trans (by first | (simp; done) | (simp; omega)) (Nh.2 f (by simp [hf])), (tPool).lt o_h0 f hf⟩
  have Ih1 : ∀ f ∈ Fh1, W23.heap.size + 0 ≤ f ∧ f < W24.heap.size := fun f hf => ⟨Nat.le_trans (by first | (simp; done) | (simp; omega)) (Nh.2 f (by simp [hf])), (tHeld.row).lt o_h1 f hf⟩
  have Dh0 := (List.nodup_append.1 Nh.1).1
  have Dh1 := (List.nodup_append.1 Nh.1).2.1
  have Xh : ∀ f ∈ Fh0, f ∉ Fh1 := fun f h1 h2 => (List.nodup_append.1 Nh.1).2.2 f h1 f h2 rfl
  clear Nh
  have hs24 : Below W23.heap.size W23 W24 := bel_trans (belx) hb_
  have z24 : W23.heap.size + 0 ≤ W24.heap.size := by have := hb_.size; simpa using this
  have hB24 : Below w.heap.size w W24 := bel_trans hB23 hs24
  replace Ba0 := Ba0.below hs24 Ba0.size
  replace Bs0 := Bs0.below hs24 Bs0.size
  replace Bx0 := Bx0.below hs24 Bx0.size
  replace Bg0 := Bg0.below hs24 Bg0.size
  replace o_g0 := Ty.below (t := tPool) o_g0 hs24
  replace o_g1 := Ty.below (t := tHeld.row) o_g1 hs24
  replace r_s0 := (tPool).keep r_s0 (fun b hb => hs24.block b (Nat.lt_of_lt_of_le hb (by omega)))
  replace r_s1 := (tHeld.row).keep r_s1 (fun b hb => hs24.block b (Nat.lt_of_lt_of_le hb (by omega)))
  have k_Ba0_0 : W24.cell? ⟨w.heap.size, 0, none⟩ = some (.slice Aa00 na00 ca00) := Ba0.cell 0
  have k_Ba0_1 : W24.cell? ⟨w.heap.size, 1, none⟩ = some (.slice Aa01 na01 ca01) := Ba0.cell 1
  have k_Bs0_0 : W24.cell? ⟨W4.heap.size, 0, none⟩ = some (.slice As00 ns00 cs00) := Bs0.cell 0
  have k_Bs0_1 : W24.cell? ⟨W4.heap.size, 1, none⟩ = some (.slice As01 ns01 cs01) := Bs0.cell 1
  have k_Bx0_0 : W24.cell? ⟨W5.heap.size, 0, none⟩ = some (.slice Ax00 (p0.1).length cx00) := Bx0.cell 0
  have k_Bx0_1 : W24.cell? ⟨W5.heap.size, 1, none⟩ = some (.slice Ax01 (p0.2).length cx01) := Bx0.cell 1
  have k_Bg0_0 : W24.cell? ⟨W7.heap.size, 0, none⟩ = some (.slice Ag00 (r0.1).length cg00) := Bg0.cell 0
  have k_Bg0_1 : W24.cell? ⟨W7.heap.size, 1, none⟩ = some (.slice Ag01 (r0.2).length cg01) := Bg0.cell 1
  clear hb_
  have d_Ba0_0 : (W24.alloc (.cells #[.slice Ah00 (r0.1).length ch00, .slice Ah01 (r0.2).length ch01] 56)).cell? ⟨w.heap.size, 0, none⟩ = some (.slice Aa00 na00 ca00) := (Ba0.alloc _).cell 0
  have d_Ba0_1 : (W24.alloc (.cells #[.slice Ah00 (r0.1).length ch00, .slice Ah01 (r0.2).length ch01] 56)).cell? ⟨w.heap.size, 1, none⟩ = some (.slice Aa01 na01 ca01) := (Ba0.alloc _).cell 1
  have d_Bs0_0 : (W24.alloc (.cells #[.slice Ah00 (r0.1).length ch00, .slice Ah01 (r0.2).length ch01] 56)).cell? ⟨W4.heap.size, 0, none⟩ = some (.slice As00 ns00 cs00) := (Bs0.alloc _).cell 0
  have d_Bs0_1 : (W24.alloc (.cells #[.slice Ah00 (r0.1).length ch00, .slice Ah01 (r0.2).length ch01] 56)).cell? ⟨W4.heap.size, 1, none⟩ = some (.slice As01 ns01 cs01) := (Bs0.alloc _).cell 1
  have d_Bx0_0 : (W24.alloc (.cells #[.slice Ah00 (r0.1).length ch00, .slice Ah01 (r0.2).length ch01] 56)).cell? ⟨W5.heap.size, 0, none⟩ = some (.slice Ax00 (p0.1).length cx00) := (Bx0.alloc _).cell 0
  have d_Bx0_1 : (W24.alloc (.cells #[.slice Ah00 (r0.1).length ch00, .slice Ah01 (r0.2).length ch01] 56)).cell? ⟨W5.heap.size, 1, none⟩ = some (.slice Ax01 (p0.2).length cx01) := (Bx0.alloc _).cell 1
  have d_Bg0_0 : (W24.alloc (.cells #[.slice Ah00 (r0.1).length ch00, .slice Ah01 (r0.2).length ch01] 56)).cell? ⟨W7.heap.size, 0, none⟩ = some (.slice Ag00 (r0.1).length cg00) := (Bg0.alloc _).cell 0
  have d_Bg0_1 : (W24.alloc (.cells #[.slice Ah00 (r0.1).length ch00, .slice Ah01 (r0.2).length ch01] 56)).cell? ⟨W7.heap.size, 1, none⟩ = some (.slice Ag01 (r0.2).length cg01) := (Bg0.alloc _).cell 1
  go_wp2_with fail
  refine (o_eqPool ((tPool).reach ((tPool).read o_h0) ?hB) ((tPool).reach ((tPool).up r_s0 (by omega : W4.heap.size ≤ W24.heap.size)) ?hB)).mono ?_
  all_goals try (case hB => exact (belx))
  rintro e W25 ⟨rfl, hb_⟩
  clear d_Ba0_0 d_Ba0_1 d_Bs0_0 d_Bs0_1 d_Bx0_0 d_Bx0_1 d_Bg0_0 d_Bg0_1
  clear k_Ba0_0 k_Ba0_1
  clear k_Bs0_0 k_Bs0_1
  clear k_Bx0_0 k_Bx0_1
  clear k_Bg0_0 k_Bg0_1
  have hs25 : Below W24.heap.size W24 W25 := bel_trans (belx) hb_
  have z25 : W24.heap.size + 1 ≤ W25.heap.size := by have := hb_.size; simpa using this
  have hB25 : Below w.heap.size w W25 := bel_trans hB24 hs25
  replace Ba0 := Ba0.below hs25 Ba0.size
  replace Bs0 := Bs0.below hs25 Bs0.size
  replace Bx0 := Bx0.below hs25 Bx0.size
  replace Bg0 := Bg0.below hs25 Bg0.size
  have Bh0 : Box W25 (W24.heap.size) 56 #[.slice Ah00 (r0.1).length ch00, .slice Ah01 (r0.2).length ch01] := Box.below (Box.new _ _ _) hb_ (by first | (simp; done) | (simp; omega))
  replace o_g0 := Ty.below (t := tPool) o_g0 hs25
  replace o_g1 := Ty.below (t := tHeld.row) o_g1 hs25
  replace o_h0 := Ty.below (t := tPool) o_h0 hs25
  replace o_h1 := Ty.below (t := tHeld.row) o_h1 hs25
  replace r_s0 := (tPool).keep r_s0 (fun b hb => hs25.block b (Nat.lt_of_lt_of_le hb (by omega)))
  replace r_s1 := (tHeld.row).keep r_s1 (fun b hb => hs25.block b (Nat.lt_of_lt_of_le hb (by omega)))
  have k_Ba0_0 : W25.cell? ⟨w.heap.size, 0, none⟩ = some (.slice Aa00 na00 ca00) := Ba0.cell 0
  have k_Ba0_1 : W25.cell? ⟨w.heap.size, 1, none⟩ = some (.slice Aa01 na01 ca01) := Ba0.cell 1
  have k_Bs0_0 : W25.cell? ⟨W4.heap.size, 0, none⟩ = some (.slice As00 ns00 cs00) := Bs0.cell 0
  have k_Bs0_1 : W25.cell? ⟨W4.heap.size, 1, none⟩ = some (.slice As01 ns01 cs01) := Bs0.cell 1
  have k_Bx0_0 : W25.cell? ⟨W5.heap.size, 0, none⟩ = some (.slice Ax00 (p0.1).length cx00) := Bx0.cell 0
  have k_Bx0_1 : W25.cell? ⟨W5.heap.size, 1, none⟩ = some (.slice Ax01 (p0.2).length cx01) := Bx0.cell 1
  have k_Bg0_0 : W25.cell? ⟨W7.heap.size, 0, none⟩ = some (.slice Ag00 (r0.1).length cg00) := Bg0.cell 0
  have k_Bg0_1 : W25.cell? ⟨W7.heap.size, 1, none⟩ = some (.slice Ag01 (r0.2).length cg01) := Bg0.cell 1
  have k_Bh0_0 : W25.cell? ⟨W24.heap.size, 0, none⟩ = some (.slice Ah00 (r0.1).length ch00) := Bh0.cell 0
  have k_Bh0_1 : W25.cell? ⟨W24.heap.size, 1, none⟩ = some (.slice Ah01 (r0.2).length ch01) := Bh0.cell 1
  clear hb_
  go_wp2_with fail
  refine (o_eqHeldS ((tHeld.row).reach ((tHeld.row).read o_h1) ?hB) ((tHeld.row).reach ((tHeld.row).up r_s1 (by omega : W4.heap.size ≤ W25.heap.size)) ?hB)).mono ?_
  all_goals try (case hB => exact (belx))
  rintro e W26 ⟨rfl, hb_⟩
  clear k_Ba0_0 k_Ba0_1
  clear k_Bs0_0 k_Bs0_1
  clear k_Bx0_0 k_Bx0_1
  clear k_Bg0_0 k_Bg0_1
  clear k_Bh0_0 k_Bh0_1
  have hs26 : Below W25.heap.size W25 W26 := bel_trans (belx) hb_
  have z26 : W25.heap.size + 0 ≤ W26.heap.size := by have := hb_.size; simpa using this
  have hB26 : Below w.heap.size w W26 := bel_trans hB25 hs26
  replace Ba0 := Ba0.below hs26 Ba0.size
  replace Bs0 := Bs0.below hs26 Bs0.size
  replace Bx0 := Bx0.below hs26 Bx0.size
  replace Bg0 := Bg0.below hs26 Bg0.size
  replace Bh0 := Bh0.below hs26 Bh0.size
  replace o_g0 := Ty.below (t := tPool) o_g0 hs26
  replace o_g1 := Ty.below (t := tHeld.row) o_g1 hs26
  replace o_h0 := Ty.below (t := tPool) o_h0 hs26
  replace o_h1 := Ty.below (t := tHeld.row) o_h1 hs26
  replace r_s0 := (tPool).keep r_s0 (fun b hb => hs26.block b (Nat.lt_of_lt_of_le hb (by omega)))
  replace r_s1 := (tHeld.row).keep r_s1 (fun b hb => hs26.block b (Nat.lt_of_lt_of_le hb (by omega)))
  have k_Ba0_0 : W26.cell? ⟨w.heap.size, 0, none⟩ = some (.slice Aa00 na00 ca00) := Ba0.cell 0
  have k_Ba0_1 : W26.cell? ⟨w.heap.size, 1, none⟩ = some (.slice Aa01 na01 ca01) := Ba0.cell 1
  have k_Bs0_0 : W26.cell? ⟨W4.heap.size, 0, none⟩ = some (.slice As00 ns00 cs00) := Bs0.cell 0
  have k_Bs0_1 : W26.cell? ⟨W4.heap.size, 1, none⟩ = some (.slice As01 ns01 cs01) := Bs0.cell 1
  have k_Bx0_0 : W26.cell? ⟨W5.heap.size, 0, none⟩ = some (.slice Ax00 (p0.1).length cx00) := Bx0.cell 0
  have k_Bx0_1 : W26.cell? ⟨W5.heap.size, 1, none⟩ = some (.slice Ax01 (p0.2).length cx01) := Bx0.cell 1
  have k_Bg0_0 : W26.cell? ⟨W7.heap.size, 0, none⟩ = some (.slice Ag00 (r0.1).length cg00) := Bg0.cell 0
  have k_Bg0_1 : W26.cell? ⟨W7.heap.size, 1, none⟩ = some (.slice Ag01 (r0.2).length cg01) := Bg0.cell 1
  have k_Bh0_0 : W26.cell? ⟨W24.heap.size, 0, none⟩ = some (.slice Ah00 (r0.1).length ch00) := Bh0.cell 0
  have k_Bh0_1 : W26.cell? ⟨W24.heap.size, 1, none⟩ = some (.slice Ah01 (r0.2).length ch01) := Bh0.cell 1
  clear hb_
  go_wp2_with fail
  refine (o_heldPool (1) ((tPool).reach ((tPool).read o_g0) ?hB) (by omega) (by omega)).mono ?_
  all_goals try (case hB => exact (belx))
  rintro e W27 ⟨rfl, hb_⟩
  clear k_Ba0_0 k_Ba0_1
  clear k_Bs0_0 k_Bs0_1
  clear k_Bx0_0 k_Bx0_1
  clear k_Bg0_0 k_Bg0_1
  clear k_Bh0_0 k_Bh0_1
  have hs27 : Below W26.heap.size W26 W27 := bel_trans (belx) hb_
  have z27 : W26.heap.size + 0 ≤ W27.heap.size := by have := hb_.size; simpa using this
  have hB27 : Below w.heap.size w W27 := bel_trans hB26 hs27
  replace Ba0 := Ba0.below hs27 Ba0.size
  replace Bs0 := Bs0.below hs27 Bs0.size
  replace Bx0 := Bx0.below hs27 Bx0.size
  replace Bg0 := Bg0.below hs27 Bg0.size
  replace Bh0 := Bh0.below hs27 Bh0.size
  replace o_g0 := Ty.below (t := tPool) o_g0 hs27
  replace o_g1 := Ty.below (t := tHeld.row) o_g1 hs27
  replace o_h0 := Ty.below (t := tPool) o_h0 hs27
  replace o_h1 := Ty.below (t := tHeld.row) o_h1 hs27
  replace r_s0 := (tPool).keep r_s0 (fun b hb => hs27.block b (Nat.lt_of_lt_of_le hb (by omega)))
  replace r_s1 := (tHeld.row).keep r_s1 (fun b hb => hs27.block b (Nat.lt_of_lt_of_le hb (by omega)))
  have k_Ba0_0 : W27.cell? ⟨w.heap.size, 0, none⟩ = some (.slice Aa00 na00 ca00) := Ba0.cell 0
  have k_Ba0_1 : W27.cell? ⟨w.heap.size, 1, none⟩ = some (.slice Aa01 na01 ca01) := Ba0.cell 1
  have k_Bs0_0 : W27.cell? ⟨W4.heap.size, 0, none⟩ = some (.slice As00 ns00 cs00) := Bs0.cell 0
  have k_Bs0_1 : W27.cell? ⟨W4.heap.size, 1, none⟩ = some (.slice As01 ns01 cs01) := Bs0.cell 1
  have k_Bx0_0 : W27.cell? ⟨W5.heap.size, 0, none⟩ = some (.slice Ax00 (p0.1).length cx00) := Bx0.cell 0
  have k_Bx0_1 : W27.cell? ⟨W5.heap.size, 1, none⟩ = some (.slice Ax01 (p0.2).length cx01) := Bx0.cell 1
  have k_Bg0_0 : W27.cell? ⟨W7.heap.size, 0, none⟩ = some (.slice Ag00 (r0.1).length cg00) := Bg0.cell 0
  have k_Bg0_1 : W27.cell? ⟨W7.heap.size, 1, none⟩ = some (.slice Ag01 (r0.2).length cg01) := Bg0.cell 1
  have k_Bh0_0 : W27.cell? ⟨W24.heap.size, 0, none⟩ = some (.slice Ah00 (r0.1).length ch00) := Bh0.cell 0
  have k_Bh0_1 : W27.cell? ⟨W24.heap.size, 1, none⟩ = some (.slice Ah01 (r0.2).length ch01) := Bh0.cell 1
  clear hb_
  go_wp2_with fail
  refine (o_heldHeldS (1 + ((cntPool (r0) : Nat) : Int)) ((tHeld.row).reach ((tHeld.row).read o_g1) ?hB) (by omega) (by omega)).mono ?_
  all_goals try (case hB => exact (belx))
  rintro e W28 ⟨rfl, hb_⟩
  clear k_Ba0_0 k_Ba0_1
  clear k_Bs0_0 k_Bs0_1
  clear k_Bx0_0 k_Bx0_1
  clear k_Bg0_0 k_Bg0_1
  clear k_Bh0_0 k_Bh0_1
  have hs28 : Below W27.heap.size W27 W28 := bel_trans (belx) hb_
  have z28 : W27.heap.size + 0 ≤ W28.heap.size := by have := hb_.size; simpa using this
  have hB28 : Below w.heap.size w W28 := bel_trans hB27 hs28
  replace Ba0 := Ba0.below hs28 Ba0.size
  replace Bs0 := Bs0.below hs28 Bs0.size
  replace Bx0 := Bx0.below hs28 Bx0.size
  replace Bg0 := Bg0.below hs28 Bg0.size
  replace Bh0 := Bh0.below hs28 Bh0.size
  replace o_g0 := Ty.below (t := tPool) o_g0 hs28
  replace o_g1 := Ty.below (t := tHeld.row) o_g1 hs28
  replace o_h0 := Ty.below (t := tPool) o_h0 hs28
  replace o_h1 := Ty.below (t := tHeld.row) o_h1 hs28
  replace r_s0 := (tPool).keep r_s0 (fun b hb => hs28.block b (Nat.lt_of_lt_of_le hb (by omega)))
  replace r_s1 := (tHeld.row).keep r_s1 (fun b hb => hs28.block b (Nat.lt_of_lt_of_le hb (by omega)))
  have k_Ba0_0 : W28.cell? ⟨w.heap.size, 0, none⟩ = some (.slice Aa00 na00 ca00) := Ba0.cell 0
  have k_Ba0_1 : W28.cell? ⟨w.heap.size, 1, none⟩ = some (.slice Aa01 na01 ca01) := Ba0.cell 1
  have k_Bs0_0 : W28.cell? ⟨W4.heap.size, 0, none⟩ = some (.slice As00 ns00 cs00) := Bs0.cell 0
  have k_Bs0_1 : W28.cell? ⟨W4.heap.size, 1, none⟩ = some (.slice As01 ns01 cs01) := Bs0.cell 1
  have k_Bx0_0 : W28.cell? ⟨W5.heap.size, 0, none⟩ = some (.slice Ax00 (p0.1).length cx00) := Bx0.cell 0
  have k_Bx0_1 : W28.cell? ⟨W5.heap.size, 1, none⟩ = some (.slice Ax01 (p0.2).length cx01) := Bx0.cell 1
  have k_Bg0_0 : W28.cell? ⟨W7.heap.size, 0, none⟩ = some (.slice Ag00 (r0.1).length cg00) := Bg0.cell 0
  have k_Bg0_1 : W28.cell? ⟨W7.heap.size, 1, none⟩ = some (.slice Ag01 (r0.2).length cg01) := Bg0.cell 1
  have k_Bh0_0 : W28.cell? ⟨W24.heap.size, 0, none⟩ = some (.slice Ah00 (r0.1).length ch00) := Bh0.cell 0
  have k_Bh0_1 : W28.cell? ⟨W24.heap.size, 1, none⟩ = some (.slice Ah01 (r0.2).length ch01) := Bh0.cell 1
  clear hb_
  go_wp2_with fail
  go_ret
  exact ⟨rfl, hB28⟩

/-! ### THE ROW's STEP -/
set_option maxHeartbeats 400000 in
set_option maxRecDepth 100000 in
theorem lifted (os : Os) (started : os.Started) (H : Type) (enc : TypeId × Value → H) :
    ReturnsInHanded {} Try.checked os 5 .any (Rows.fnExactFlushSpec.pre6 enc Try.prog Try.f5 Rows.fnExactFlushRow.domain false) (Rows.fnExactFlushSpec.post enc Try.prog Try.f5 false true false false) := by
  refine returnsInHanded_of_change (C := Try.checked) own started (by kernel_rfl) Try.func5
    (ChangeSpec.witness6 (enc := enc) (C := Try.checked) false ⟨#[], #[.agg #[.slice none 0 0, .slice none 0 0], .int .i64 0, .slice none 0 0], []⟩ 8 (by kernel_rfl) (by kernel_rfl) (by kernel_rfl) (by kernel_rfl)) ?_
  intro W base args ds gs before hval0 hW hcnd _
  have hval : ∀ (j : Nat) t v, Try.f5.params[j]? = some t → args[j]? = some v → Value.okWide Try.prog W .any base t v := hval0
  have hW' := hW
  obtain ⟨p, q, hA0, hV, rfl, hfz, hnd⟩ := hW
  have hA : DataW.TrodAll enc Try.prog W 0 (fun _ => true) true Try.f5.params.toList args.toList ds p := hA0
  rw [Try.params5] at hA hval
  obtain ⟨v0, vs0, d0, ds0, p0, q0, hargs, rfl, rfl, h0, r0⟩ := trodAll_cons hA
  obtain ⟨v1, vs1, d1, ds1, p1, q1, rfl, rfl, rfl, h1, r1⟩ := trodAll_cons r0
  obtain ⟨v2, vs2, d2, ds2, p2, q2, rfl, rfl, rfl, h2, r2⟩ := trodAll_cons r1
  obtain ⟨rfl, rfl, rfl⟩ := trodAll_nil r2
  obtain rfl : args = #[v0, v1, v2] := by cases args; simp_all
  obtain ⟨rfl, rfl⟩ := trodVars_none hV
  obtain ⟨cs0, rfl, hsz0⟩ := okWide_struct Try.underlying52 (hval 0 52 v0 rfl rfl)
  have k0 := h0
  have lt0 : ∀ x ∈ p0, x.block < W.heap.size := by obtain ⟨m, hm⟩ := k0; exact DataW.trod_lt m _ _ _ hm
  obtain ⟨x0, w0⟩ : ∃ a, tPool.R W W.heap.size cs0.toList a := by
    obtain ⟨fuel, hf⟩ := h0
    exact frR_Pool fuel _ _ (by simpa [Value.cells] using hf)
  obtain ⟨a1, rfl, rfl, rfl, w1⟩ := open_int Try.underlying3 (hval 1 3 v1 rfl rfl) h1
  obtain ⟨A2, n2, c2, rfl⟩ := okWide_slice Try.underlying36 (hval 2 36 v2 rfl rfl)
  have k2 := h2
  have lt2 : ∀ x ∈ p2, x.block < W.heap.size := by obtain ⟨m, hm⟩ := k2; exact DataW.trod_lt m _ _ _ hm
  obtain ⟨x2, w2⟩ : ∃ a, tBy.R W W.heap.size [.slice A2 n2 c2] a := by
    obtain ⟨fuel, hf⟩ := h2
    exact frR_by fuel _ _ (by simpa [Value.cells] using hf)
  clear hA0 hval0
  refine (walk cs0 x0 a1 A2 n2 c2 x2 W w0 w1 w2).mono fun e W' ⟨he, bel⟩ => ?_
  subst he
  exact ⟨_, rfl, _, _, _, [], _, [], hW', trodAll_mk1 (shut_bool Try.underlying4 _), (trodAll_cons_mk (Below.trod laidOut (by kernel_rfl) (of_decide_eq_true (by kernel_rfl)) k0 bel lt0) (trodAll_cons_mk (shut_int Try.underlying3 w1) (trodAll_cons_mk (Below.trod laidOut (by kernel_rfl) (of_decide_eq_true (by kernel_rfl)) k2 bel lt2) trodAll_mk0))), rfl, bel.frame _, fun h => by cases h⟩

theorem over : Rows.fnExactFlushRow.holds Try.pinned (OpenSpec.ofChange Rows.fnExactFlushSpec) :=
  OpenClaim.holds_of_wide 5 Try.f5 rfl rfl rfl rfl rfl rfl rfl ⟨rfl, rfl, rfl, rfl, rfl⟩ rfl rfl rfl rfl rfl named_fnExactFlush Try.func5 closed_fnExactFlush
    (of_decide_eq_true (by kernel_rfl)) (by unfold Func.isWrapper; first | (rw [if_pos (by decide +kernel)]; kernel_rfl) | (rw [if_neg (by decide +kernel)]; exact ⟨rfl, rfl⟩))
    (fun os started H enc _ => lifted os started H enc)

theorem proved : Rows.FnExactFlushSaid := over
#print axioms proved
end Go.Proofs.Ytojbicecopkfbaa.fnExactFlush
