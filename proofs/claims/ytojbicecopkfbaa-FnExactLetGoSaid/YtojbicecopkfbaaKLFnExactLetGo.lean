/-
  For every argument (in all at most 2^20 elements) the program's LetGo answers as its model does, in every field, writes into no argument, and its answer owns its memory. No further condition.
-/
import Derived.Test.YtojbicecopkfbaaKGh
import Derived.Test.YtojbicecopkfbaaKGm
import Derived.Test.YtojbicecopkfbaaKGo
import Derived.Test.YtojbicecopkfbaaKMFr
import Derived.Test.YtojbicecopkfbaaRows
import Derived.Below
import Derived.ChangeOld
import Derived.Deep.RegionHeld3
import Derived.OpenShut
import Derived.ProofKit
import Derived.ShutString
import Derived.WalkKit
namespace Go.Proofs.Ytojbicecopkfbaa.fnExactLetGo
open Go.ChangeShapes Go.WideShapes Go.ChangeAt Go.RowKit
open Go.ChangeMaps (open_string shut_string)
set_option linter.unusedVariables false

open Go.Proofs.Ytojbicecopkfbaa
theorem own : ownKnob Try.prog.godebug = none := by kernel_rfl
theorem laidOut : laidOutB Try.prog = true := by kernel_rfl



/-! ### STEP 1: the walk -/
set_option maxRecDepth 100000 in
set_option maxHeartbeats 2000000 in
theorem walk (cs0 : Array Value) (p0 : DDesk) (a1 : Int) (w : World) (h0 : tDesk.R w w.heap.size cs0.toList p0) (w1 : (Lit.int .i64 a1).wf = true) :
    Calls Try.prog 3 #[.agg cs0, .int .i64 a1] w fun e w' => e = .returned (.bool true) ∧ Below w.heap.size w w' := by
  obtain ⟨cs0⟩ := cs0
  replace h0 : tDesk.R w w.heap.size cs0 p0 := h0
  obtain ⟨Aa00, na00, ca00, Aa01, na01, ca01, rfl, -, -, -, -, -, -, -, -⟩ := openDesk h0
  have rg1 := i64_rg w1
  by_cases hz0 : szDesk (p0) ≤ 1048576
  rotate_left
  · go_enter Try.func3, Try.ntmps3
    go_wp2_with fail
    refine (o_szDesk_f ((tDesk).reach h0 ?hB) (by omega) (by omega) (by omega)).mono ?_
    all_goals try (case hB => exact (belx))
    rintro e W1 ⟨rfl, hb_⟩
    have hs1 : Below w.heap.size w W1 := bel_trans (belx) hb_
    have z1 : w.heap.size + 1 ≤ W1.heap.size := by have := hb_.size; simpa using this
    have hB1 : Below w.heap.size w W1 := hs1
    have Ba0 : Box W1 (w.heap.size) 25 #[.slice Aa00 na00 ca00, .slice Aa01 na01 ca01] := Box.below (Box.new _ _ _) hb_ (by first | (simp; done) | (simp; omega))
    have k_Ba0_0 : W1.cell? ⟨w.heap.size, 0, none⟩ = some (.slice Aa00 na00 ca00) := Ba0.cell 0
    have k_Ba0_1 : W1.cell? ⟨w.heap.size, 1, none⟩ = some (.slice Aa01 na01 ca01) := Ba0.cell 1
    go_wp2
    go_ret
    exact ⟨rfl, hB1⟩
  have dz0 : decide ((1048576 : Int) - ((szDesk (p0) : Nat) : Int) < 0) = false := by simp; omega
  have hzr0 : szDesk (fLg p0 a1) ≤ 1048576 := (by have := fLg_sz p0 a1; omega)
  have hcr0 := cntDesk_le (fLg p0 a1)
  obtain ⟨r0, hr0⟩ : ∃ r, fLg p0 a1 = r := ⟨_, rfl⟩
  have HR0 := Lib.hid hr0
  rw [hr0] at hzr0 hcr0
  clear hr0
  obtain ⟨r1, hr1⟩ : ∃ r, fLgN p0 a1 = r := ⟨_, rfl⟩
  have HR1 := Lib.hid hr1
  have qr1 : (r1 != r1) = false := by simp
  clear hr1
  have hcp0 := cntDesk_le (p0)
  go_enter Try.func3, Try.ntmps3
  go_wp2_with fail
  refine (o_szDesk_t ((tDesk).reach h0 ?hB) (by omega) (by omega) (by omega)).mono ?_
  all_goals try (case hB => exact (belx))
  rintro e W1 ⟨rfl, hb_⟩
  have hs1 : Below w.heap.size w W1 := bel_trans (belx) hb_
  have z1 : w.heap.size + 1 ≤ W1.heap.size := by have := hb_.size; simpa using this
  have hB1 : Below w.heap.size w W1 := hs1
  have Ba0 : Box W1 (w.heap.size) 25 #[.slice Aa00 na00 ca00, .slice Aa01 na01 ca01] := Box.below (Box.new _ _ _) hb_ (by first | (simp; done) | (simp; omega))
  have k_Ba0_0 : W1.cell? ⟨w.heap.size, 0, none⟩ = some (.slice Aa00 na00 ca00) := Ba0.cell 0
  have k_Ba0_1 : W1.cell? ⟨w.heap.size, 1, none⟩ = some (.slice Aa01 na01 ca01) := Ba0.cell 1
  clear hb_
  go_wp2_with fail
  refine (o_toDesk ((tDesk).reach ((tDesk).reach h0 hB1) ?hB) (by omega)).mono ?_
  all_goals try (case hB => exact (belx))
  rintro e W2 ⟨csy0, Fy0, rfl, o_y0, Ny0, hb_⟩
  clear k_Ba0_0 k_Ba0_1
  have Iy0 : ∀ f ∈ Fy0, W1.heap.size + 0 ≤ f ∧ f < W2.heap.size := fun f hf => ⟨Nat.le_trans (by first | (simp; done) | (simp; omega)) (Ny0.2 f hf), (tDesk).lt o_y0 f hf⟩
  have Dy0 := Ny0.1
  clear Ny0
  obtain ⟨Ay00, cy00, Fy00, Ay01, cy01, Fy01, rfl, -, -, -, -, -, -, -⟩ := openODesk o_y0
  have hs2 : Below W1.heap.size W1 W2 := bel_trans (belx) hb_
  have z2 : W1.heap.size + 0 ≤ W2.heap.size := by have := hb_.size; simpa using this
  have hB2 : Below w.heap.size w W2 := bel_trans hB1 hs2
  replace Ba0 := Ba0.below hs2 Ba0.size
  have k_Ba0_0 : W2.cell? ⟨w.heap.size, 0, none⟩ = some (.slice Aa00 na00 ca00) := Ba0.cell 0
  have k_Ba0_1 : W2.cell? ⟨w.heap.size, 1, none⟩ = some (.slice Aa01 na01 ca01) := Ba0.cell 1
  clear hb_
  go_wp2_with fail
  refine (s_LetGoR ((tDesk).reach ((tDesk).read o_y0) ?hB) (by omega) w1).mono ?_
  all_goals try (case hB => exact (belx))
  rintro e W3 ⟨css0, rfl, r_s0, hb_⟩
  clear k_Ba0_0 k_Ba0_1
  clear o_y0 Iy0 Dy0
  rw [HR0.out] at r_s0
  rw [HR1.out]
  obtain ⟨As00, ns00, cs00, As01, ns01, cs01, rfl, -, -, -, -, -, -, -, -⟩ := openDesk r_s0
  have hs3 : Below W2.heap.size W2 W3 := bel_trans (belx) hb_
  have z3 : W2.heap.size + 0 ≤ W3.heap.size := by have := hb_.size; simpa using this
  have hB3 : Below w.heap.size w W3 := bel_trans hB2 hs3
  replace Ba0 := Ba0.below hs3 Ba0.size
  have k_Ba0_0 : W3.cell? ⟨w.heap.size, 0, none⟩ = some (.slice Aa00 na00 ca00) := Ba0.cell 0
  have k_Ba0_1 : W3.cell? ⟨w.heap.size, 1, none⟩ = some (.slice Aa01 na01 ca01) := Ba0.cell 1
  clear hb_
  have d_Ba0_0 : (W3.alloc (.cells #[.slice As00 ns00 cs00, .slice As01 ns01 cs01] 29)).cell? ⟨w.heap.size, 0, none⟩ = some (.slice Aa00 na00 ca00) := (Ba0.alloc _).cell 0
  have d_Ba0_1 : (W3.alloc (.cells #[.slice As00 ns00 cs00, .slice As01 ns01 cs01] 29)).cell? ⟨w.heap.size, 1, none⟩ = some (.slice Aa01 na01 ca01) := (Ba0.alloc _).cell 1
  go_wp2_with fail
  refine (o_toDesk ((tDesk).reach ((tDesk).reach h0 hB3) ?hB) (by omega)).mono ?_
  all_goals try (case hB => exact (belx))
  rintro e W4 ⟨csx0, Fx0, rfl, o_x0, Nx0, hb_⟩
  clear d_Ba0_0 d_Ba0_1
  clear k_Ba0_0 k_Ba0_1
  have Ix0 : ∀ f ∈ Fx0, W3.heap.size + 1 ≤ f ∧ f < W4.heap.size := fun f hf => ⟨Nat.le_trans (by first | (simp; done) | (simp; omega)) (Nx0.2 f hf), (tDesk).lt o_x0 f hf⟩
  have Dx0 := Nx0.1
  clear Nx0
  obtain ⟨Ax00, cx00, Fx00, Ax01, cx01, Fx01, rfl, -, -, -, -, -, -, -⟩ := openODesk o_x0
  have hs4 : Below W3.heap.size W3 W4 := bel_trans (belx) hb_
  have z4 : W3.heap.size + 1 ≤ W4.heap.size := by have := hb_.size; simpa using this
  have hB4 : Below w.heap.size w W4 := bel_trans hB3 hs4
  replace Ba0 := Ba0.below hs4 Ba0.size
  have Bs0 : Box W4 (W3.heap.size) 29 #[.slice As00 ns00 cs00, .slice As01 ns01 cs01] := Box.below (Box.new _ _ _) hb_ (by first | (simp; done) | (simp; omega))
  replace r_s0 := (tDesk).keep r_s0 (fun b hb => hs4.block b (Nat.lt_of_lt_of_le hb (by omega)))
  have k_Ba0_0 : W4.cell? ⟨w.heap.size, 0, none⟩ = some (.slice Aa00 na00 ca00) := Ba0.cell 0
  have k_Ba0_1 : W4.cell? ⟨w.heap.size, 1, none⟩ = some (.slice Aa01 na01 ca01) := Ba0.cell 1
  have k_Bs0_0 : W4.cell? ⟨W3.heap.size, 0, none⟩ = some (.slice As00 ns00 cs00) := Bs0.cell 0
  have k_Bs0_1 : W4.cell? ⟨W3.heap.size, 1, none⟩ = some (.slice As01 ns01 cs01) := Bs0.cell 1
  clear hb_
  have d_Ba0_0 : (W4.alloc (.cells #[.slice Ax00 (p0.1).length cx00, .slice Ax01 (p0.2).length cx01] 29)).cell? ⟨w.heap.size, 0, none⟩ = some (.slice Aa00 na00 ca00) := (Ba0.alloc _).cell 0
  have d_Ba0_1 : (W4.alloc (.cells #[.slice Ax00 (p0.1).length cx00, .slice Ax01 (p0.2).length cx01] 29)).cell? ⟨w.heap.size, 1, none⟩ = some (.slice Aa01 na01 ca01) := (Ba0.alloc _).cell 1
  have d_Bs0_0 : (W4.alloc (.cells #[.slice Ax00 (p0.1).length cx00, .slice Ax01 (p0.2).length cx01] 29)).cell? ⟨W3.heap.size, 0, none⟩ = some (.slice As00 ns00 cs00) := (Bs0.alloc _).cell 0
  have d_Bs0_1 : (W4.alloc (.cells #[.slice Ax00 (p0.1).length cx00, .slice Ax01 (p0.2).length cx01] 29)).cell? ⟨W3.heap.size, 1, none⟩ = some (.slice As01 ns01 cs01) := (Bs0.alloc _).cell 1
  go_wp2_with fail
  refine (i_LetGo ((tDesk).reach ((tDesk).read o_x0) ?hB) (by omega) w1).mono ?_
  all_goals try (case hB => exact (belx))
  rintro e W5 ⟨csg0, Fg0, rfl, o_g0, Ng, hb_⟩
  clear d_Ba0_0 d_Ba0_1 d_Bs0_0 d_Bs0_1
  clear k_Ba0_0 k_Ba0_1
  clear k_Bs0_0 k_Bs0_1
  rw [HR0.out] at o_g0
  rw [HR1.out]
  obtain ⟨Ag00, cg00, Fg00, Ag01, cg01, Fg01, rfl, -, -, -, -, -, -, -⟩ := openODesk o_g0
  have Ig0 : ∀ f ∈ Fg0, W4.heap.size + 1 ≤ f ∧ f < W5.heap.size := fun f hf => ⟨Nat.le_trans (by first | (simp; done) | (simp; omega)) (Ng.2 f (by simp [hf])), (tDesk).lt o_g0 f hf⟩
  have Dg0 := Ng.1
  clear Ng
  have hs5 : Below W4.heap.size W4 W5 := bel_trans (belx) hb_
  have z5 : W4.heap.size + 1 ≤ W5.heap.size := by have := hb_.size; simpa using this
  have hB5 : Below w.heap.size w W5 := bel_trans hB4 hs5
  replace Ba0 := Ba0.below hs5 Ba0.size
  replace Bs0 := Bs0.below hs5 Bs0.size
  have Bx0 : Box W5 (W4.heap.size) 29 #[.slice Ax00 (p0.1).length cx00, .slice Ax01 (p0.2).length cx01] := Box.below (Box.new _ _ _) hb_ (by first | (simp; done) | (simp; omega))
  replace o_x0 := Ty.below (t := tDesk) o_x0 hs5
  replace r_s0 := (tDesk).keep r_s0 (fun b hb => hs5.block b (Nat.lt_of_lt_of_le hb (by omega)))
  have k_Ba0_0 : W5.cell? ⟨w.heap.size, 0, none⟩ = some (.slice Aa00 na00 ca00) := Ba0.cell 0
  have k_Ba0_1 : W5.cell? ⟨w.heap.size, 1, none⟩ = some (.slice Aa01 na01 ca01) := Ba0.cell 1
  have k_Bs0_0 : W5.cell? ⟨W3.heap.size, 0, none⟩ = some (.slice As00 ns00 cs00) := Bs0.cell 0
  have k_Bs0_1 : W5.cell? ⟨W3.heap.size, 1, none⟩ = some (.slice As01 ns01 cs01) := Bs0.cell 1
  have k_Bx0_0 : W5.cell? ⟨W4.heap.size, 0, none⟩ = some (.slice Ax00 (p0.1).length cx00) := Bx0.cell 0
  have k_Bx0_1 : W5.cell? ⟨W4.heap.size, 1, none⟩ = some (.slice Ax01 (p0.2).length cx01) := Bx0.cell 1
  clear hb_
  have d_Ba0_0 : (W5.alloc (.cells #[.slice Ag00 (r0.1).length cg00, .slice Ag01 (r0.2).length cg01] 29)).cell? ⟨w.heap.size, 0, none⟩ = some (.slice Aa00 na00 ca00) := (Ba0.alloc _).cell 0
  have d_Ba0_1 : (W5.alloc (.cells #[.slice Ag00 (r0.1).length cg00, .slice Ag01 (r0.2).length cg01] 29)).cell? ⟨w.heap.size, 1, none⟩ = some (.slice Aa01 na01 ca01) := (Ba0.alloc _).cell 1
  have d_Bs0_0 : (W5.alloc (.cells #[.slice Ag00 (r0.1).length cg00, .slice Ag01 (r0.2).length cg01] 29)).cell? ⟨W3.heap.size, 0, none⟩ = some (.slice As00 ns00 cs00) := (Bs0.alloc _).cell 0
  have d_Bs0_1 : (W5.alloc (.cells #[.slice Ag00 (r0.1).length cg00, .slice Ag01 (r0.2).length cg01] 29)).cell? ⟨W3.heap.size, 1, none⟩ = some (.slice As01 ns01 cs01) := (Bs0.alloc _).cell 1
  have d_Bx0_0 : (W5.alloc (.cells #[.slice Ag00 (r0.1).length cg00, .slice Ag01 (r0.2).length cg01] 29)).cell? ⟨W4.heap.size, 0, none⟩ = some (.slice Ax00 (p0.1).length cx00) := (Bx0.alloc _).cell 0
  have d_Bx0_1 : (W5.alloc (.cells #[.slice Ag00 (r0.1).length cg00, .slice Ag01 (r0.2).length cg01] 29)).cell? ⟨W4.heap.size, 1, none⟩ = some (.slice Ax01 (p0.2).length cx01) := (Bx0.alloc _).cell 1
  go_wp2_with fail
  refine (o_eqDesk ((tDesk).reach ((tDesk).read o_g0) ?hB) ((tDesk).reach ((tDesk).up r_s0 (by omega : W3.heap.size ≤ W5.heap.size)) ?hB)).mono ?_
  all_goals try (case hB => exact (belx))
  rintro e W6 ⟨rfl, hb_⟩
  clear d_Ba0_0 d_Ba0_1 d_Bs0_0 d_Bs0_1 d_Bx0_0 d_Bx0_1
  clear k_Ba0_0 k_Ba0_1
  clear k_Bs0_0 k_Bs0_1
  clear k_Bx0_0 k_Bx0_1
  have hs6 : Below W5.heap.size W5 W6 := bel_trans (belx) hb_
  have z6 : W5.heap.size + 1 ≤ W6.heap.size := by have := hb_.size; simpa using this
  have hB6 : Below w.heap.size w W6 := bel_trans hB5 hs6
  replace Ba0 := Ba0.below hs6 Ba0.size
  replace Bs0 := Bs0.below hs6 Bs0.size
  replace Bx0 := Bx0.below hs6 Bx0.size
  have Bg0 : Box W6 (W5.heap.size) 29 #[.slice Ag00 (r0.1).length cg00, .slice Ag01 (r0.2).length cg01] := Box.below (Box.new _ _ _) hb_ (by first | (simp; done) | (simp; omega))
  replace o_x0 := Ty.below (t := tDesk) o_x0 hs6
  replace o_g0 := Ty.below (t := tDesk) o_g0 hs6
  replace r_s0 := (tDesk).keep r_s0 (fun b hb => hs6.block b (Nat.lt_of_lt_of_le hb (by omega)))
  have k_Ba0_0 : W6.cell? ⟨w.heap.size, 0, none⟩ = some (.slice Aa00 na00 ca00) := Ba0.cell 0
  have k_Ba0_1 : W6.cell? ⟨w.heap.size, 1, none⟩ = some (.slice Aa01 na01 ca01) := Ba0.cell 1
  have k_Bs0_0 : W6.cell? ⟨W3.heap.size, 0, none⟩ = some (.slice As00 ns00 cs00) := Bs0.cell 0
  have k_Bs0_1 : W6.cell? ⟨W3.heap.size, 1, none⟩ = some (.slice As01 ns01 cs01) := Bs0.cell 1
  have k_Bx0_0 : W6.cell? ⟨W4.heap.size, 0, none⟩ = some (.slice Ax00 (p0.1).length cx00) := Bx0.cell 0
  have k_Bx0_1 : W6.cell? ⟨W4.heap.size, 1, none⟩ = some (.slice Ax01 (p0.2).length cx01) := Bx0.cell 1
  have k_Bg0_0 : W6.cell? ⟨W5.heap.size, 0, none⟩ = some (.slice Ag00 (r0.1).length cg00) := Bg0.cell 0
  have k_Bg0_1 : W6.cell? ⟨W5.heap.size, 1, none⟩ = some (.slice Ag01 (r0.2).length cg01) := Bg0.cell 1
  clear hb_
  go_wp2_with fail
  go_region_held3 (fun w' => w'.cell? ⟨w.heap.size, 0, none⟩ = some (.slice Aa00 na00 ca00) ∧ w'.cell? ⟨w.heap.size, 1, none⟩ = some (.slice Aa01 na01 ca01) ∧ w'.cell? ⟨W4.heap.size, 0, none⟩ = some (.slice Ax00 (p0.1).length cx00) ∧ w'.cell? ⟨W4.heap.size, 1, none⟩ = some (.slice Ax01 (p0.2).length cx01)) (first | (exact ⟨k_Ba0_0, k_Ba0_1, k_Bx0_0, k_Bx0_1⟩) | (exact ⟨cell_bel hs8 k_Ba0_0, cell_bel hs8 k_Ba0_1, cell_bel hs8 k_Bx0_0, cell_bel hs8 k_Bx0_1⟩) | (exact ⟨cell_bel hs7 k_Ba0_0, cell_bel hs7 k_Ba0_1, cell_bel hs7 k_Bx0_0, cell_bel hs7 k_Bx0_1⟩) | go_keep)
    (first
      | (go_at_call 9; refine (o_toDesk ((tDesk).reach ((tDesk).reach h0 hB6) (belx)) (by omega)).mono ?_; rintro e W7 ⟨csv, Fv, rfl, o_v, Nv, hb_⟩; have hs7 : Below W6.heap.size W6 W7 := bel_trans (belx) hb_)
      | (go_at_call 11; refine (o_eqDesk ((tDesk).reach ((tDesk).reach ((tDesk).read o_x0) hs7) (belx)) ((tDesk).reach ((tDesk).read o_v) (belx))).mono ?_; rintro e W8 ⟨rfl, hb2_⟩; have hs8' : Below W6.heap.size W6 W8 := bel_trans hs7 (bel_trans (belx) hb2_); have hs8 := hs8'))
  clear o_v Nv hb_ hb2_ hs7
  clear k_Ba0_0 k_Ba0_1
  clear k_Bs0_0 k_Bs0_1
  clear k_Bx0_0 k_Bx0_1
  clear k_Bg0_0 k_Bg0_1
  have z8 : W6.heap.size + 0 ≤ W8.heap.size := hs8'.size
  have hB8 : Below w.heap.size w W8 := bel_trans hB6 hs8'
  replace Ba0 := Ba0.below hs8' Ba0.size
  replace Bs0 := Bs0.below hs8' Bs0.size
  replace Bx0 := Bx0.below hs8' Bx0.size
  replace Bg0 := Bg0.below hs8' Bg0.size
  replace o_x0 := Ty.below (t := tDesk) o_x0 hs8'
  replace o_g0 := Ty.below (t := tDesk) o_g0 hs8'
  replace r_s0 := (tDesk).keep r_s0 (fun b hb => hs8'.block b (Nat.lt_of_lt_of_le hb (by omega)))
  have k_Ba0_0 : W8.cell? ⟨w.heap.size, 0, none⟩ = some (.slice Aa00 na00 ca00) := Ba0.cell 0
  have k_Ba0_1 : W8.cell? ⟨w.heap.size, 1, none⟩ = some (.slice Aa01 na01 ca01) := Ba0.cell 1
  have k_Bs0_0 : W8.cell? ⟨W3.heap.size, 0, none⟩ = some (.slice As00 ns00 cs00) := Bs0.cell 0
  have k_Bs0_1 : W8.cell? ⟨W3.heap.size, 1, none⟩ = some (.slice As01 ns01 cs01) := Bs0.cell 1
  have k_Bx0_0 : W8.cell? ⟨W4.heap.size, 0, none⟩ = some (.slice Ax00 (p0.1).length cx00) := Bx0.cell 0
  have k_Bx0_1 : W8.cell? ⟨W4.heap.size, 1, none⟩ = some (.slice Ax01 (p0.2).length cx01) := Bx0.cell 1
  have k_Bg0_0 : W8.cell? ⟨W5.heap.size, 0, none⟩ = some (.slice Ag00 (r0.1).length cg00) := Bg0.cell 0
  have k_Bg0_1 : W8.cell? ⟨W5.heap.size, 1, none⟩ = some (.slice Ag01 (r0.2).length cg01) := Bg0.cell 1
  go_wp2_with fail
  refine (o_markDesk (1) o_x0 Dx0 (by omega) (by omega)).mono ?_
  rintro e W9 ⟨rfl, om_, hG_⟩
  clear k_Ba0_0 k_Ba0_1
  clear k_Bs0_0 k_Bs0_1
  clear k_Bx0_0 k_Bx0_1
  clear k_Bg0_0 k_Bg0_1
  replace o_x0 := om_
  clear om_
  have z9 : W8.heap.size + 0 ≤ W9.heap.size := hG_.size
  have hB9 : Below w.heap.size w W9 := hB8.trans (hG_.below (fun f hf => by have := Ix0 f hf; omega) (by have := hB8.size; omega))
  replace Ba0 := Ba0.same (hG_.block _ Ba0.size (fun hx => by have := Ix0 _ hx; omega))
  replace Bs0 := Bs0.same (hG_.block _ Bs0.size (fun hx => by have := Ix0 _ hx; omega))
  replace Bx0 := Bx0.same (hG_.block _ Bx0.size (fun hx => by have := Ix0 _ hx; omega))
  replace Bg0 := Bg0.same (hG_.block _ Bg0.size (fun hx => by have := Ix0 _ hx; omega))
  replace o_g0 := Ty.only (t := tDesk) o_g0 hG_ (fun f hf hx => by have := Ig0 f hf; have := Ix0 f hx; omega)
  replace r_s0 := (tDesk).keep r_s0 (fun b hb => hG_.block b (Nat.lt_of_lt_of_le hb (by omega)) (fun hx => by have := Ix0 b hx; omega))
  have k_Ba0_0 : W9.cell? ⟨w.heap.size, 0, none⟩ = some (.slice Aa00 na00 ca00) := Ba0.cell 0
  have k_Ba0_1 : W9.cell? ⟨w.heap.size, 1, none⟩ = some (.slice Aa01 na01 ca01) := Ba0.cell 1
  have k_Bs0_0 : W9.cell? ⟨W3.heap.size, 0, none⟩ = some (.slice As00 ns00 cs00) := Bs0.cell 0
  have k_Bs0_1 : W9.cell? ⟨W3.heap.size, 1, none⟩ = some (.slice As01 ns01 cs01) := Bs0.cell 1
  have k_Bx0_0 : W9.cell? ⟨W4.heap.size, 0, none⟩ = some (.slice Ax00 (p0.1).length cx00) := Bx0.cell 0
  have k_Bx0_1 : W9.cell? ⟨W4.heap.size, 1, none⟩ = some (.slice Ax01 (p0.2).length cx01) := Bx0.cell 1
  have k_Bg0_0 : W9.cell? ⟨W5.heap.size, 0, none⟩ = some (.slice Ag00 (r0.1).length cg00) := Bg0.cell 0
  have k_Bg0_1 : W9.cell? ⟨W5.heap.size, 1, none⟩ = some (.slice Ag01 (r0.2).length cg01) := Bg0.cell 1
  clear hG_
  have dk : decide ((1 + ((cntDesk (p0) : Nat) : Int) : Int) < 0) = false := by simp; omega
  clear o_x0 Ix0 Dx0
  go_wp2_with fail
  refine (o_eqDesk ((tDesk).reach ((tDesk).read o_g0) ?hB) ((tDesk).reach ((tDesk).up r_s0 (by omega : W3.heap.size ≤ W9.heap.size)) ?hB)).mono ?_
  all_goals try (case hB => exact (belx))
  rintro e W10 ⟨rfl, hb_⟩
  clear k_Ba0_0 k_Ba0_1
  clear k_Bs0_0 k_Bs0_1
  clear k_Bx0_0 k_Bx0_1
  clear k_Bg0_0 k_Bg0_1
  have hs10 : Below W9.heap.size W9 W10 := bel_trans (belx) hb_
  have z10 : W9.heap.size + 0 ≤ W10.heap.size := by have := hb_.size; simpa using this
  have hB10 : Below w.heap.size w W10 := bel_trans hB9 hs10
  replace Ba0 := Ba0.below hs10 Ba0.size
  replace Bs0 := Bs0.below hs10 Bs0.size
  replace Bx0 := Bx0.below hs10 Bx0.size
  replace Bg0 := Bg0.below hs10 Bg0.size
  replace o_g0 := Ty.below (t := tDesk) o_g0 hs10
  replace r_s0 := (tDesk).keep r_s0 (fun b hb => hs10.block b (Nat.lt_of_lt_of_le hb (by omega)))
  have k_Ba0_0 : W10.cell? ⟨w.heap.size, 0, none⟩ = some (.slice Aa00 na00 ca00) := Ba0.cell 0
  have k_Ba0_1 : W10.cell? ⟨w.heap.size, 1, none⟩ = some (.slice Aa01 na01 ca01) := Ba0.cell 1
  have k_Bs0_0 : W10.cell? ⟨W3.heap.size, 0, none⟩ = some (.slice As00 ns00 cs00) := Bs0.cell 0
  have k_Bs0_1 : W10.cell? ⟨W3.heap.size, 1, none⟩ = some (.slice As01 ns01 cs01) := Bs0.cell 1
  have k_Bx0_0 : W10.cell? ⟨W4.heap.size, 0, none⟩ = some (.slice Ax00 (p0.1).length cx00) := Bx0.cell 0
  have k_Bx0_1 : W10.cell? ⟨W4.heap.size, 1, none⟩ = some (.slice Ax01 (p0.2).length cx01) := Bx0.cell 1
  have k_Bg0_0 : W10.cell? ⟨W5.heap.size, 0, none⟩ = some (.slice Ag00 (r0.1).length cg00) := Bg0.cell 0
  have k_Bg0_1 : W10.cell? ⟨W5.heap.size, 1, none⟩ = some (.slice Ag01 (r0.2).length cg01) := Bg0.cell 1
  clear hb_
  go_wp2_with fail
  refine (o_markDesk (1) o_g0 Dg0 (by omega) (by omega)).mono ?_
  rintro e W11 ⟨rfl, om_, hG_⟩
  clear k_Ba0_0 k_Ba0_1
  clear k_Bs0_0 k_Bs0_1
  clear k_Bx0_0 k_Bx0_1
  clear k_Bg0_0 k_Bg0_1
  replace o_g0 := om_
  clear om_
  have z11 : W10.heap.size + 0 ≤ W11.heap.size := hG_.size
  have hB11 : Below w.heap.size w W11 := hB10.trans (hG_.below (fun f hf => by have := Ig0 f hf; omega) (by have := hB10.size; omega))
  replace Ba0 := Ba0.same (hG_.block _ Ba0.size (fun hx => by have := Ig0 _ hx; omega))
  replace Bs0 := Bs0.same (hG_.block _ Bs0.size (fun hx => by have := Ig0 _ hx; omega))
  replace Bx0 := Bx0.same (hG_.block _ Bx0.size (fun hx => by have := Ig0 _ hx; omega))
  replace Bg0 := Bg0.same (hG_.block _ Bg0.size (fun hx => by have := Ig0 _ hx; omega))
  replace r_s0 := (tDesk).keep r_s0 (fun b hb => hG_.block b (Nat.lt_of_lt_of_le hb (by omega)) (fun hx => by have := Ig0 b hx; omega))
  have k_Ba0_0 : W11.cell? ⟨w.heap.size, 0, none⟩ = some (.slice Aa00 na00 ca00) := Ba0.cell 0
  have k_Ba0_1 : W11.cell? ⟨w.heap.size, 1, none⟩ = some (.slice Aa01 na01 ca01) := Ba0.cell 1
  have k_Bs0_0 : W11.cell? ⟨W3.heap.size, 0, none⟩ = some (.slice As00 ns00 cs00) := Bs0.cell 0
  have k_Bs0_1 : W11.cell? ⟨W3.heap.size, 1, none⟩ = some (.slice As01 ns01 cs01) := Bs0.cell 1
  have k_Bx0_0 : W11.cell? ⟨W4.heap.size, 0, none⟩ = some (.slice Ax00 (p0.1).length cx00) := Bx0.cell 0
  have k_Bx0_1 : W11.cell? ⟨W4.heap.size, 1, none⟩ = some (.slice Ax01 (p0.2).length cx01) := Bx0.cell 1
  have k_Bg0_0 : W11.cell? ⟨W5.heap.size, 0, none⟩ = some (.slice Ag00 (r0.1).length cg00) := Bg0.cell 0
  have k_Bg0_1 : W11.cell? ⟨W5.heap.size, 1, none⟩ = some (.slice Ag01 (r0.2).length cg01) := Bg0.cell 1
  clear hG_
  have dm : (((1 + ((cntDesk (r0) : Nat) : Int) : Int)) != (1 + ((cntDesk (r0) : Nat) : Int))) = false := by simp
  have dh0 : decide ((1 + ((cntDesk (r0) : Nat) : Int) : Int) < 0) = false := by simp; omega
  go_wp2_with fail
  refine (o_heldDesk (1) ((tDesk).reach ((tDesk).read o_g0) ?hB) (by omega) (by omega)).mono ?_
  all_goals try (case hB => exact (belx))
  rintro e W12 ⟨rfl, hb_⟩
  clear k_Ba0_0 k_Ba0_1
  clear k_Bs0_0 k_Bs0_1
  clear k_Bx0_0 k_Bx0_1
  clear k_Bg0_0 k_Bg0_1
  have hs12 : Below W11.heap.size W11 W12 := bel_trans (belx) hb_
  have z12 : W11.heap.size + 0 ≤ W12.heap.size := by have := hb_.size; simpa using this
  have hB12 : Below w.heap.size w W12 := bel_trans hB11 hs12
  replace Ba0 := Ba0.below hs12 Ba0.size
  replace Bs0 := Bs0.below hs12 Bs0.size
  replace Bx0 := Bx0.below hs12 Bx0.size
  replace Bg0 := Bg0.below hs12 Bg0.size
  replace o_g0 := Ty.below (t := tDesk) o_g0 hs12
  replace r_s0 := (tDesk).keep r_s0 (fun b hb => hs12.block b (Nat.lt_of_lt_of_le hb (by omega)))
  have k_Ba0_0 : W12.cell? ⟨w.heap.size, 0, none⟩ = some (.slice Aa00 na00 ca00) := Ba0.cell 0
  have k_Ba0_1 : W12.cell? ⟨w.heap.size, 1, none⟩ = some (.slice Aa01 na01 ca01) := Ba0.cell 1
  have k_Bs0_0 : W12.cell? ⟨W3.heap.size, 0, none⟩ = some (.slice As00 ns00 cs00) := Bs0.cell 0
  have k_Bs0_1 : W12.cell? ⟨W3.heap.size, 1, none⟩ = some (.slice As01 ns01 cs01) := Bs0.cell 1
  have k_Bx0_0 : W12.cell? ⟨W4.heap.size, 0, none⟩ = some (.slice Ax00 (p0.1).length cx00) := Bx0.cell 0
  have k_Bx0_1 : W12.cell? ⟨W4.heap.size, 1, none⟩ = some (.slice Ax01 (p0.2).length cx01) := Bx0.cell 1
  have k_Bg0_0 : W12.cell? ⟨W5.heap.size, 0, none⟩ = some (.slice Ag00 (r0.1).length cg00) := Bg0.cell 0
  have k_Bg0_1 : W12.cell? ⟨W5.heap.size, 1, none⟩ = some (.slice Ag01 (r0.2).length cg01) := Bg0.cell 1
  clear hb_
  go_wp2_with fail
  refine (o_toDesk ((tDesk).reach ((tDesk).reach h0 hB12) ?hB) (by omega)).mono ?_
  all_goals try (case hB => exact (belx))
  rintro e W13 ⟨csy0, Fy0, rfl, o_y0, Ny0, hb_⟩
  clear k_Ba0_0 k_Ba0_1
  clear k_Bs0_0 k_Bs0_1
  clear k_Bx0_0 k_Bx0_1
  clear k_Bg0_0 k_Bg0_1
  have Iy0 : ∀ f ∈ Fy0, W12.heap.size + 0 ≤ f ∧ f < W13.heap.size := fun f hf => ⟨Nat.le_trans (by first | (simp; done) | (simp; omega)) (Ny0.2 f hf), (tDesk).lt o_y0 f hf⟩
  have Dy0 := Ny0.1
  clear Ny0
  obtain ⟨Ay00, cy00, Fy00, Ay01, cy01, Fy01, rfl, -, -, -, -, -, -, -⟩ := openODesk o_y0
  have hs13 : Below W12.heap.size W12 W13 := bel_trans (belx) hb_
  have z13 : W12.heap.size + 0 ≤ W13.heap.size := by have := hb_.size; simpa using this
  have hB13 : Below w.heap.size w W13 := bel_trans hB12 hs13
  replace Ba0 := Ba0.below hs13 Ba0.size
  replace Bs0 := Bs0.below hs13 Bs0.size
  replace Bx0 := Bx0.below hs13 Bx0.size
  replace Bg0 := Bg0.below hs13 Bg0.size
  replace o_g0 := Ty.below (t := tDesk) o_g0 hs13
  replace r_s0 := (tDesk).keep r_s0 (fun b hb => hs13.block b (Nat.lt_of_lt_of_le hb (by omega)))
  have k_Ba0_0 : W13.cell? ⟨w.heap.size, 0, none⟩ = some (.slice Aa00 na00 ca00) := Ba0.cell 0
  have k_Ba0_1 : W13.cell? ⟨w.heap.size, 1, none⟩ = some (.slice Aa01 na01 ca01) := Ba0.cell 1
  have k_Bs0_0 : W13.cell? ⟨W3.heap.size, 0, none⟩ = some (.slice As00 ns00 cs00) := Bs0.cell 0
  have k_Bs0_1 : W13.cell? ⟨W3.heap.size, 1, none⟩ = some (.slice As01 ns01 cs01) := Bs0.cell 1
  have k_Bx0_0 : W13.cell? ⟨W4.heap.size, 0, none⟩ = some (.slice Ax00 (p0.1).length cx00) := Bx0.cell 0
  have k_Bx0_1 : W13.cell? ⟨W4.heap.size, 1, none⟩ = some (.slice Ax01 (p0.2).length cx01) := Bx0.cell 1
  have k_Bg0_0 : W13.cell? ⟨W5.heap.size, 0, none⟩ = some (.slice Ag00 (r0.1).length cg00) := Bg0.cell 0
  have k_Bg0_1 : W13.cell? ⟨W5.heap.size, 1, none⟩ = some (.slice Ag01 (r0.2).length cg01) := Bg0.cell 1
  clear hb_
  go_wp2_with fail
  refine (i_LetGo ((tDesk).reach ((tDesk).read o_y0) ?hB) (by omega) w1).mono ?_
  all_goals try (case hB => exact (belx))
  rintro e W14 ⟨csh0, Fh0, rfl, o_h0, Nh, hb_⟩
  clear k_Ba0_0 k_Ba0_1
  clear k_Bs0_0 k_Bs0_1
  clear k_Bx0_0 k_Bx0_1
  clear k_Bg0_0 k_Bg0_1
  clear o_y0 Iy0 Dy0
  rw [HR0.out] at o_h0
  rw [HR1.out]
  obtain ⟨Ah00, ch00, Fh00, Ah01, ch01, Fh01, rfl, -, -, -, -, -, -, -⟩ := openODesk o_h0
  have Ih0 : ∀ f ∈ Fh0, W13.heap.size + 0 ≤ f ∧ f < W14.heap.size := fun f hf => ⟨Nat.le_trans (by first | (simp; done) | (simp; omega)) (Nh.2 f (by simp [hf])), (tDesk).lt o_h0 f hf⟩
  have Dh0 := Nh.1
  clear Nh
  have hs14 : Below W13.heap.size W13 W14 := bel_trans (belx) hb_
  have z14 : W13.heap.size + 0 ≤ W14.heap.size := by have := hb_.size; simpa using this
  have hB14 : Below w.heap.size w W14 := bel_trans hB13 hs14
  replace Ba0 := Ba0.below hs14 Ba0.size
  replace Bs0 := Bs0.below hs14 Bs0.size
  replace Bx0 := Bx0.below hs14 Bx0.size
  replace Bg0 := Bg0.below hs14 Bg0.size
  replace o_g0 := Ty.below (t := tDesk) o_g0 hs14
  replace r_s0 := (tDesk).keep r_s0 (fun b hb => hs14.block b (Nat.lt_of_lt_of_le hb (by omega)))
  have k_Ba0_0 : W14.cell? ⟨w.heap.size, 0, none⟩ = some (.slice Aa00 na00 ca00) := Ba0.cell 0
  have k_Ba0_1 : W14.cell? ⟨w.heap.size, 1, none⟩ = some (.slice Aa01 na01 ca01) := Ba0.cell 1
  have k_Bs0_0 : W14.cell? ⟨W3.heap.size, 0, none⟩ = some (.slice As00 ns00 cs00) := Bs0.cell 0
  have k_Bs0_1 : W14.cell? ⟨W3.heap.size, 1, none⟩ = some (.slice As01 ns01 cs01) := Bs0.cell 1
  have k_Bx0_0 : W14.cell? ⟨W4.heap.size, 0, none⟩ = some (.slice Ax00 (p0.1).length cx00) := Bx0.cell 0
  have k_Bx0_1 : W14.cell? ⟨W4.heap.size, 1, none⟩ = some (.slice Ax01 (p0.2).length cx01) := Bx0.cell 1
  have k_Bg0_0 : W14.cell? ⟨W5.heap.size, 0, none⟩ = some (.slice Ag00 (r0.1).length cg00) := Bg0.cell 0
  have k_Bg0_1 : W14.cell? ⟨W5.heap.size, 1, none⟩ = some (.slice Ag01 (r0.2).length cg01) := Bg0.cell 1
  clear hb_
  have d_Ba0_0 : (W14.alloc (.cells #[.slice Ah00 (r0.1).length ch00, .slice Ah01 (r0.2).length ch01] 29)).cell? ⟨w.heap.size, 0, none⟩ = some (.slice Aa00 na00 ca00) := (Ba0.alloc _).cell 0
  have d_Ba0_1 : (W14.alloc (.cells #[.slice Ah00 (r0.1).length ch00, .slice Ah01 (r0.2).length ch01] 29)).cell? ⟨w.heap.size, 1, none⟩ = some (.slice Aa01 na01 ca01) := (Ba0.alloc _).cell 1
  have d_Bs0_0 : (W14.alloc (.cells #[.slice Ah00 (r0.1).length ch00, .slice Ah01 (r0.2).length ch01] 29)).cell? ⟨W3.heap.size, 0, none⟩ = some (.slice As00 ns00 cs00) := (Bs0.alloc _).cell 0
  have d_Bs0_1 : (W14.alloc (.cells #[.slice Ah00 (r0.1).length ch00, .slice Ah01 (r0.2).length ch01] 29)).cell? ⟨W3.heap.size, 1, none⟩ = some (.slice As01 ns01 cs01) := (Bs0.alloc _).cell 1
  have d_Bx0_0 : (W14.alloc (.cells #[.slice Ah00 (r0.1).length ch00, .slice Ah01 (r0.2).length ch01] 29)).cell? ⟨W4.heap.size, 0, none⟩ = some (.slice Ax00 (p0.1).length cx00) := (Bx0.alloc _).cell 0
  have d_Bx0_1 : (W14.alloc (.cells #[.slice Ah00 (r0.1).length ch00, .slice Ah01 (r0.2).length ch01] 29)).cell? ⟨W4.heap.size, 1, none⟩ = some (.slice Ax01 (p0.2).length cx01) := (Bx0.alloc _).cell 1
  have d_Bg0_0 : (W14.alloc (.cells #[.slice Ah00 (r0.1).length ch00, .slice Ah01 (r0.2).length ch01] 29)).cell? ⟨W5.heap.size, 0, none⟩ = some (.slice Ag00 (r0.1).length cg00) := (Bg0.alloc _).cell 0
  have d_Bg0_1 : (W14.alloc (.cells #[.slice Ah00 (r0.1).length ch00, .slice Ah01 (r0.2).length ch01] 29)).cell? ⟨W5.heap.size, 1, none⟩ = some (.slice Ag01 (r0.2).length cg01) := (Bg0.alloc _).cell 1
  go_wp2_with fail
  refine (o_eqDesk ((tDesk).reach ((tDesk).read o_h0) ?hB) ((tDesk).reach ((tDesk).up r_s0 (by omega : W3.heap.size ≤ W14.heap.size)) ?hB)).mono ?_
  all_goals try (case hB => exact (belx))
  rintro e W15 ⟨rfl, hb_⟩
  clear d_Ba0_0 d_Ba0_1 d_Bs0_0 d_Bs0_1 d_Bx0_0 d_Bx0_1 d_Bg0_0 d_Bg0_1
  clear k_Ba0_0 k_Ba0_1
  clear k_Bs0_0 k_Bs0_1
  clear k_Bx0_0 k_Bx0_1
  clear k_Bg0_0 k_Bg0_1
  have hs15 : Below W14.heap.size W14 W15 := bel_trans (belx) hb_
  have z15 : W14.heap.size + 1 ≤ W15.heap.size := by have := hb_.size; simpa using this
  have hB15 : Below w.heap.size w W15 := bel_trans hB14 hs15
  replace Ba0 := Ba0.below hs15 Ba0.size
  replace Bs0 := Bs0.below hs15 Bs0.size
  replace Bx0 := Bx0.below hs15 Bx0.size
  replace Bg0 := Bg0.below hs15 Bg0.size
  have Bh0 : Box W15 (W14.heap.size) 29 #[.slice Ah00 (r0.1).length ch00, .slice Ah01 (r0.2).length ch01] := Box.below (Box.new _ _ _) hb_ (by first | (simp; done) | (simp; omega))
  replace o_g0 := Ty.below (t := tDesk) o_g0 hs15
  replace o_h0 := Ty.below (t := tDesk) o_h0 hs15
  replace r_s0 := (tDesk).keep r_s0 (fun b hb => hs15.block b (Nat.lt_of_lt_of_le hb (by omega)))
  have k_Ba0_0 : W15.cell? ⟨w.heap.size, 0, none⟩ = some (.slice Aa00 na00 ca00) := Ba0.cell 0
  have k_Ba0_1 : W15.cell? ⟨w.heap.size, 1, none⟩ = some (.slice Aa01 na01 ca01) := Ba0.cell 1
  have k_Bs0_0 : W15.cell? ⟨W3.heap.size, 0, none⟩ = some (.slice As00 ns00 cs00) := Bs0.cell 0
  have k_Bs0_1 : W15.cell? ⟨W3.heap.size, 1, none⟩ = some (.slice As01 ns01 cs01) := Bs0.cell 1
  have k_Bx0_0 : W15.cell? ⟨W4.heap.size, 0, none⟩ = some (.slice Ax00 (p0.1).length cx00) := Bx0.cell 0
  have k_Bx0_1 : W15.cell? ⟨W4.heap.size, 1, none⟩ = some (.slice Ax01 (p0.2).length cx01) := Bx0.cell 1
  have k_Bg0_0 : W15.cell? ⟨W5.heap.size, 0, none⟩ = some (.slice Ag00 (r0.1).length cg00) := Bg0.cell 0
  have k_Bg0_1 : W15.cell? ⟨W5.heap.size, 1, none⟩ = some (.slice Ag01 (r0.2).length cg01) := Bg0.cell 1
  have k_Bh0_0 : W15.cell? ⟨W14.heap.size, 0, none⟩ = some (.slice Ah00 (r0.1).length ch00) := Bh0.cell 0
  have k_Bh0_1 : W15.cell? ⟨W14.heap.size, 1, none⟩ = some (.slice Ah01 (r0.2).length ch01) := Bh0.cell 1
  clear hb_
  go_wp2_with fail
  refine (o_heldDesk (1) ((tDesk).reach ((tDesk).read o_g0) ?hB) (by omega) (by omega)).mono ?_
  all_goals try (case hB => exact (belx))
  rintro e W16 ⟨rfl, hb_⟩
  clear k_Ba0_0 k_Ba0_1
  clear k_Bs0_0 k_Bs0_1
  clear k_Bx0_0 k_Bx0_1
  clear k_Bg0_0 k_Bg0_1
  clear k_Bh0_0 k_Bh0_1
  have hs16 : Below W15.heap.size W15 W16 := bel_trans (belx) hb_
  have z16 : W15.heap.size + 0 ≤ W16.heap.size := by have := hb_.size; simpa using this
  have hB16 : Below w.heap.size w W16 := bel_trans hB15 hs16
  replace Ba0 := Ba0.below hs16 Ba0.size
  replace Bs0 := Bs0.below hs16 Bs0.size
  replace Bx0 := Bx0.below hs16 Bx0.size
  replace Bg0 := Bg0.below hs16 Bg0.size
  replace Bh0 := Bh0.below hs16 Bh0.size
  replace o_g0 := Ty.below (t := tDesk) o_g0 hs16
  replace o_h0 := Ty.below (t := tDesk) o_h0 hs16
  replace r_s0 := (tDesk).keep r_s0 (fun b hb => hs16.block b (Nat.lt_of_lt_of_le hb (by omega)))
  have k_Ba0_0 : W16.cell? ⟨w.heap.size, 0, none⟩ = some (.slice Aa00 na00 ca00) := Ba0.cell 0
  have k_Ba0_1 : W16.cell? ⟨w.heap.size, 1, none⟩ = some (.slice Aa01 na01 ca01) := Ba0.cell 1
  have k_Bs0_0 : W16.cell? ⟨W3.heap.size, 0, none⟩ = some (.slice As00 ns00 cs00) := Bs0.cell 0
  have k_Bs0_1 : W16.cell? ⟨W3.heap.size, 1, none⟩ = some (.slice As01 ns01 cs01) := Bs0.cell 1
  have k_Bx0_0 : W16.cell? ⟨W4.heap.size, 0, none⟩ = some (.slice Ax00 (p0.1).length cx00) := Bx0.cell 0
  have k_Bx0_1 : W16.cell? ⟨W4.heap.size, 1, none⟩ = some (.slice Ax01 (p0.2).length cx01) := Bx0.cell 1
  have k_Bg0_0 : W16.cell? ⟨W5.heap.size, 0, none⟩ = some (.slice Ag00 (r0.1).length cg00) := Bg0.cell 0
  have k_Bg0_1 : W16.cell? ⟨W5.heap.size, 1, none⟩ = some (.slice Ag01 (r0.2).length cg01) := Bg0.cell 1
  have k_Bh0_0 : W16.cell? ⟨W14.heap.size, 0, none⟩ = some (.slice Ah00 (r0.1).length ch00) := Bh0.cell 0
  have k_Bh0_1 : W16.cell? ⟨W14.heap.size, 1, none⟩ = some (.slice Ah01 (r0.2).length ch01) := Bh0.cell 1
  clear hb_
  go_wp2_with fail
  go_ret
  exact ⟨rfl, hB16⟩

/-! ### THE ROW's STEP -/
set_option maxHeartbeats 400000 in
set_option maxRecDepth 100000 in
theorem lifted (os : Os) (started : os.Started) (H : Type) (enc : TypeId × Value → H) :
    ReturnsInHanded {} Try.checked os 3 .any (Rows.fnExactLetGoSpec.pre6 enc Try.prog Try.f3 Rows.fnExactLetGoRow.domain false) (Rows.fnExactLetGoSpec.post enc Try.prog Try.f3 false true false false) := by
  refine returnsInHanded_of_change (C := Try.checked) own started (by kernel_rfl) Try.func3
    (ChangeSpec.witness6 (enc := enc) (C := Try.checked) false ⟨#[], #[.agg #[.slice none 0 0, .slice none 0 0], .int .i64 0], []⟩ 8 (by kernel_rfl) (by kernel_rfl) (by kernel_rfl) (by kernel_rfl)) ?_
  intro W base args ds gs before hval0 hW hcnd _
  have hval : ∀ (j : Nat) t v, Try.f3.params[j]? = some t → args[j]? = some v → Value.okWide Try.prog W .any base t v := hval0
  have hW' := hW
  obtain ⟨p, q, hA0, hV, rfl, hfz, hnd⟩ := hW
  have hA : DataW.TrodAll enc Try.prog W 0 (fun _ => true) true Try.f3.params.toList args.toList ds p := hA0
  rw [Try.params3] at hA hval
  obtain ⟨v0, vs0, d0, ds0, p0, q0, hargs, rfl, rfl, h0, r0⟩ := trodAll_cons hA
  obtain ⟨v1, vs1, d1, ds1, p1, q1, rfl, rfl, rfl, h1, r1⟩ := trodAll_cons r0
  obtain ⟨rfl, rfl, rfl⟩ := trodAll_nil r1
  obtain rfl : args = #[v0, v1] := by cases args; simp_all
  obtain ⟨rfl, rfl⟩ := trodVars_none hV
  obtain ⟨cs0, rfl, hsz0⟩ := okWide_struct Try.underlying25 (hval 0 25 v0 rfl rfl)
  have k0 := h0
  have lt0 : ∀ x ∈ p0, x.block < W.heap.size := by obtain ⟨m, hm⟩ := k0; exact DataW.trod_lt m _ _ _ hm
  obtain ⟨x0, w0⟩ : ∃ a, tDesk.R W W.heap.size cs0.toList a := by
    obtain ⟨fuel, hf⟩ := h0
    exact frR_Desk fuel _ _ (by simpa [Value.cells] using hf)
  obtain ⟨a1, rfl, rfl, rfl, w1⟩ := open_int Try.underlying3 (hval 1 3 v1 rfl rfl) h1
  clear hA0 hval0
  refine (walk cs0 x0 a1 W w0 w1).mono fun e W' ⟨he, bel⟩ => ?_
  subst he
  exact ⟨_, rfl, _, _, _, [], _, [], hW', trodAll_mk1 (shut_bool Try.underlying4 _), (trodAll_cons_mk (Below.trod laidOut (by kernel_rfl) (of_decide_eq_true (by kernel_rfl)) k0 bel lt0) (trodAll_cons_mk (shut_int Try.underlying3 w1) trodAll_mk0)), rfl, bel.frame _, fun h => by cases h⟩

theorem over : Rows.fnExactLetGoRow.holds Try.pinned (OpenSpec.ofChange Rows.fnExactLetGoSpec) :=
  OpenClaim.holds_of_wide 3 Try.f3 rfl rfl rfl rfl rfl rfl rfl ⟨rfl, rfl, rfl, rfl, rfl⟩ rfl rfl rfl rfl rfl (by kernel_rfl) Try.func3 (by kernel_rfl)
    (of_decide_eq_true (by kernel_rfl)) (by unfold Func.isWrapper; first | (rw [if_pos (by decide +kernel)]; kernel_rfl) | (rw [if_neg (by decide +kernel)]; exact ⟨rfl, rfl⟩))
    (fun os started H enc _ => lifted os started H enc)

theorem proved : Rows.FnExactLetGoSaid := over
#print axioms proved
end Go.Proofs.Ytojbicecopkfbaa.fnExactLetGo
