/-
 For every argument (in all at most 2^20 elements) the program's Twice answers as its model does, in every field, writes into no argument, and its answer owns its memory. No further condition.
-/
import Derived.Test.YtkdanlnhdgcplaaGreatCloFnExactTwice
import Derived.Test.YtkdanlnhdgcplaaGreatFGa
import Derived.Test.YtkdanlnhdgcplaaGreatFGe
import Derived.Test.YtkdanlnhdgcplaaGreatFMFr
import Derived.Test.YtkdanlnhdgcplaaGreatFMTwI
import Derived.Test.YtkdanlnhdgcplaaGreatFMTwS
import Derived.Test.YtkdanlnhdgcplaaGreatRows
import Derived.Below
import Derived.ChangeOld
import Derived.Deep.RegionHeld3
import Derived.OpenShut
import Derived.ProofKit
import Derived.ShutString
import Derived.WalkKit
namespace Go.Proofs.YtkdanlnhdgcplaaGreat.fnExactTwice
open Go.ChangeShapes Go.WideShapes Go.ChangeAt Go.RowKit
open Go.ChangeMaps (open_string shut_string)
set_option linter.unusedVariables false

open Go.Proofs.YtkdanlnhdgcplaaGreat
theorem own : ownKnob Tryz.prog.godebug = none := by kernel_rfl
theorem laidOut : laidOutB Tryz.prog = true := by kernel_rfl



/-! ### STEP 1: the walk -/
set_option maxRecDepth 100000 in
set_option maxHeartbeats 2000000 in
theorem walk (cs0 : Array Value) (p0 : DNet) (a1 : Int) (w : World) (h0 : tNet.R w w.heap.size cs0.toList p0) (w1 : (Lit.int .i64 a1).wf = true) :
  Calls Tryz.prog 4 #[.agg cs0, .int .i64 a1] w fun e w' => e = .returned (.bool true) ∧ Bel w w' := by
 obtain ⟨cs0⟩ := cs0
 replace h0 : tNet.R w w.heap.size cs0 p0 := h0
 obtain ⟨Aa03, na03, ca03, Aa04, na04, ca04, Aa05, na05, ca05, Aa06, na06, ca06, rfl, -, -, -, -, -, -, -, -, -, -, -, -, -, -, -, -, -, -, -⟩ := openNet h0
 have rg1 := i64_rg w1
 by_cases hz0 : szNet (p0) ≤ 1048576
 rotate_left
 ·go_enter Tryz.func4, Tryz.ntmps4
  go_wp2_with fail
  refine (o_szNet_f ((tNet).reach h0 ?hB) (by omega) (by omega) (by omega)).mono ?_
  all_goals try (case hB => exact (belx))
  rintro e W1 ⟨rfl, hb_⟩
  have hs1 : Bel w W1 := bel_trans (belx) hb_
  have z1 : w.heap.size + 1 ≤ W1.heap.size := by have := hb_.size; simpa using this
  have hB1 : Bel w W1 := hs1
  have Ba0 : Box W1 (w.heap.size) 27 #[.int .i64 (p0.1), .int .i64 (p0.2.1), .int .i64 (p0.2.2.1), .slice Aa03 na03 ca03, .slice Aa04 na04 ca04, .slice Aa05 na05 ca05, .slice Aa06 na06 ca06] := Box.below (Box.new _ _ _) hb_ lez
  have k_Ba0_0 := Ba0.cell 0
  have k_Ba0_1 := Ba0.cell 1
  have k_Ba0_2 := Ba0.cell 2
  have k_Ba0_3 := Ba0.cell 3
  have k_Ba0_4 := Ba0.cell 4
  have k_Ba0_5 := Ba0.cell 5
  have k_Ba0_6 := Ba0.cell 6
  go_wp2
  go_ret
  exact ⟨rfl, hB1⟩
 have dz0 : decide ((1048576 : Int) - ((szNet (p0) : Nat) : Int) < 0) = false := by simp; omega
 have hzr0 : szNet (fTw p0 a1) ≤ 1048576 := (by have := fTw_sz p0 a1; omega)
 have hcr0 := cntNet_le (fTw p0 a1)
 obtain ⟨r0, hr0⟩ : ∃ r, fTw p0 a1 = r := ⟨_, rfl⟩
 have HR0 := Lib.hid hr0
 rw [hr0] at hzr0 hcr0
 clear hr0
 obtain ⟨r1, hr1⟩ : ∃ r, fTwB p0 a1 = r := ⟨_, rfl⟩
 have HR1 := Lib.hid hr1
 have qr1 : (r1 != r1) = false := by simp
 clear hr1
 have hcp0 := cntNet_le (p0)
 go_enter Tryz.func4, Tryz.ntmps4
 go_wp2_with fail
 refine (o_szNet_t ((tNet).reach h0 ?hB) (by omega) (by omega) (by omega)).mono ?_
 all_goals try (case hB => exact (belx))
 rintro e W1 ⟨rfl, hb_⟩
 have hs1 : Bel w W1 := bel_trans (belx) hb_
 have z1 : w.heap.size + 1 ≤ W1.heap.size := by have := hb_.size; simpa using this
 have hB1 : Bel w W1 := hs1
 have Ba0 : Box W1 (w.heap.size) 27 #[.int .i64 (p0.1), .int .i64 (p0.2.1), .int .i64 (p0.2.2.1), .slice Aa03 na03 ca03, .slice Aa04 na04 ca04, .slice Aa05 na05 ca05, .slice Aa06 na06 ca06] := Box.below (Box.new _ _ _) hb_ lez
 have k_Ba0_0 := Ba0.cell 0
 have k_Ba0_1 := Ba0.cell 1
 have k_Ba0_2 := Ba0.cell 2
 have k_Ba0_3 := Ba0.cell 3
 have k_Ba0_4 := Ba0.cell 4
 have k_Ba0_5 := Ba0.cell 5
 have k_Ba0_6 := Ba0.cell 6
 clear hb_
 go_wp2_with fail
 refine (o_toNet ((tNet).reach ((tNet).reach h0 hB1) ?hB) (by omega)).mono ?_
 all_goals try (case hB => exact (belx))
 rintro e W2 ⟨csy0, Fy0, rfl, o_y0, Ny0, hb_⟩
 clear k_Ba0_0 k_Ba0_1 k_Ba0_2 k_Ba0_3 k_Ba0_4 k_Ba0_5 k_Ba0_6
 have Iy0 : ∀ f ∈ Fy0, W1.heap.size + 0 ≤ f ∧ f < W2.heap.size := fun f hf => ⟨Nat.le_trans lez (Ny0.2 f hf), (tNet).lt o_y0 f hf⟩
 have Dy0 := Ny0.1
 clear Ny0
 obtain ⟨Ay03, cy03, Fy03, Ay04, cy04, Fy04, Ay05, cy05, Fy05, Ay06, cy06, Fy06, rfl, -, -, -, -, -, -, -, -, -, -, -, -, -, -, -, -⟩ := openONet o_y0
 have hs2 : Bel W1 W2 := bel_trans (belx) hb_
 have z2 : W1.heap.size + 0 ≤ W2.heap.size := by have := hb_.size; simpa using this
 have hB2 : Bel w W2 := bel_trans hB1 hs2
 replace Ba0 := Ba0.below hs2 Ba0.size
 have k_Ba0_0 := Ba0.cell 0
 have k_Ba0_1 := Ba0.cell 1
 have k_Ba0_2 := Ba0.cell 2
 have k_Ba0_3 := Ba0.cell 3
 have k_Ba0_4 := Ba0.cell 4
 have k_Ba0_5 := Ba0.cell 5
 have k_Ba0_6 := Ba0.cell 6
 clear hb_
 go_wp2_with fail
 refine (s_Twice ((tNet).reach ((tNet).read o_y0) ?hB) (by omega) w1).mono ?_
 all_goals try (case hB => exact (belx))
 rintro e W3 ⟨css0, rfl, r_s0, hb_⟩
 clear k_Ba0_0 k_Ba0_1 k_Ba0_2 k_Ba0_3 k_Ba0_4 k_Ba0_5 k_Ba0_6
 clear o_y0 Iy0 Dy0
 rw [HR0.out] at r_s0
 rw [HR1.out]
 obtain ⟨As03, ns03, cs03, As04, ns04, cs04, As05, ns05, cs05, As06, ns06, cs06, rfl, -, -, -, -, -, -, -, -, -, -, -, -, -, -, -, -, -, -, -⟩ := openNet r_s0
 have hs3 : Bel W2 W3 := bel_trans (belx) hb_
 have z3 : W2.heap.size + 0 ≤ W3.heap.size := by have := hb_.size; simpa using this
 have hB3 : Bel w W3 := bel_trans hB2 hs3
 replace Ba0 := Ba0.below hs3 Ba0.size
 have k_Ba0_0 := Ba0.cell 0
 have k_Ba0_1 := Ba0.cell 1
 have k_Ba0_2 := Ba0.cell 2
 have k_Ba0_3 := Ba0.cell 3
 have k_Ba0_4 := Ba0.cell 4
 have k_Ba0_5 := Ba0.cell 5
 have k_Ba0_6 := Ba0.cell 6
 clear hb_
 have bx_ : Box (W3.alloc (.cells #[.int .i64 (r0.1), .int .i64 (r0.2.1), .int .i64 (r0.2.2.1), .slice As03 ns03 cs03, .slice As04 ns04 cs04, .slice As05 ns05 cs05, .slice As06 ns06 cs06] 35)) _ _ _ := (Ba0.alloc _)
 have d_Ba0_0 := bx_.cell 0
 have d_Ba0_1 := bx_.cell 1
 have d_Ba0_2 := bx_.cell 2
 have d_Ba0_3 := bx_.cell 3
 have d_Ba0_4 := bx_.cell 4
 have d_Ba0_5 := bx_.cell 5
 have d_Ba0_6 := bx_.cell 6
 go_wp2_with fail
 refine (o_toNet ((tNet).reach ((tNet).reach h0 hB3) ?hB) (by omega)).mono ?_
 all_goals try (case hB => exact (belx))
 rintro e W4 ⟨csx0, Fx0, rfl, o_x0, Nx0, hb_⟩
 clear d_Ba0_0 d_Ba0_1 d_Ba0_2 d_Ba0_3 d_Ba0_4 d_Ba0_5 d_Ba0_6
 clear k_Ba0_0 k_Ba0_1 k_Ba0_2 k_Ba0_3 k_Ba0_4 k_Ba0_5 k_Ba0_6
 have Ix0 : ∀ f ∈ Fx0, W3.heap.size + 1 ≤ f ∧ f < W4.heap.size := fun f hf => ⟨Nat.le_trans lez (Nx0.2 f hf), (tNet).lt o_x0 f hf⟩
 have Dx0 := Nx0.1
 clear Nx0
 obtain ⟨Ax03, cx03, Fx03, Ax04, cx04, Fx04, Ax05, cx05, Fx05, Ax06, cx06, Fx06, rfl, -, -, -, -, -, -, -, -, -, -, -, -, -, -, -, -⟩ := openONet o_x0
 have hs4 : Bel W3 W4 := bel_trans (belx) hb_
 have z4 : W3.heap.size + 1 ≤ W4.heap.size := by have := hb_.size; simpa using this
 have hB4 : Bel w W4 := bel_trans hB3 hs4
 replace Ba0 := Ba0.below hs4 Ba0.size
 have Bs0 : Box W4 (W3.heap.size) 35 #[.int .i64 (r0.1), .int .i64 (r0.2.1), .int .i64 (r0.2.2.1), .slice As03 ns03 cs03, .slice As04 ns04 cs04, .slice As05 ns05 cs05, .slice As06 ns06 cs06] := Box.below (Box.new _ _ _) hb_ lez
 replace r_s0 := (tNet).keep r_s0 (fun b hb => hs4.block b (Nat.lt_of_lt_of_le hb (by omega)))
 have k_Ba0_0 := Ba0.cell 0
 have k_Ba0_1 := Ba0.cell 1
 have k_Ba0_2 := Ba0.cell 2
 have k_Ba0_3 := Ba0.cell 3
 have k_Ba0_4 := Ba0.cell 4
 have k_Ba0_5 := Ba0.cell 5
 have k_Ba0_6 := Ba0.cell 6
 have k_Bs0_0 := Bs0.cell 0
 have k_Bs0_1 := Bs0.cell 1
 have k_Bs0_2 := Bs0.cell 2
 have k_Bs0_3 := Bs0.cell 3
 have k_Bs0_4 := Bs0.cell 4
 have k_Bs0_5 := Bs0.cell 5
 have k_Bs0_6 := Bs0.cell 6
 clear hb_
 have bx_ : Box (W4.alloc (.cells #[.int .i64 (p0.1), .int .i64 (p0.2.1), .int .i64 (p0.2.2.1), .slice Ax03 (p0.2.2.2.1).length cx03, .slice Ax04 (p0.2.2.2.2.1).length cx04, .slice Ax05 (p0.2.2.2.2.2.1).length cx05, .slice Ax06 (p0.2.2.2.2.2.2).length cx06] 35)) _ _ _ := (Ba0.alloc _)
 have d_Ba0_0 := bx_.cell 0
 have d_Ba0_1 := bx_.cell 1
 have d_Ba0_2 := bx_.cell 2
 have d_Ba0_3 := bx_.cell 3
 have d_Ba0_4 := bx_.cell 4
 have d_Ba0_5 := bx_.cell 5
 have d_Ba0_6 := bx_.cell 6
 have bx_ : Box (W4.alloc (.cells #[.int .i64 (p0.1), .int .i64 (p0.2.1), .int .i64 (p0.2.2.1), .slice Ax03 (p0.2.2.2.1).length cx03, .slice Ax04 (p0.2.2.2.2.1).length cx04, .slice Ax05 (p0.2.2.2.2.2.1).length cx05, .slice Ax06 (p0.2.2.2.2.2.2).length cx06] 35)) _ _ _ := (Bs0.alloc _)
 have d_Bs0_0 := bx_.cell 0
 have d_Bs0_1 := bx_.cell 1
 have d_Bs0_2 := bx_.cell 2
 have d_Bs0_3 := bx_.cell 3
 have d_Bs0_4 := bx_.cell 4
 have d_Bs0_5 := bx_.cell 5
 have d_Bs0_6 := bx_.cell 6
 go_wp2_with fail
 refine (i_Twice ((tNet).reach ((tNet).read o_x0) ?hB) (by omega) w1).mono ?_
 all_goals try (case hB => exact (belx))
 rintro e W5 ⟨csg0, Fg0, rfl, o_g0, Ng, hb_⟩
 clear d_Ba0_0 d_Ba0_1 d_Ba0_2 d_Ba0_3 d_Ba0_4 d_Ba0_5 d_Ba0_6 d_Bs0_0 d_Bs0_1 d_Bs0_2 d_Bs0_3 d_Bs0_4 d_Bs0_5 d_Bs0_6
 clear k_Ba0_0 k_Ba0_1 k_Ba0_2 k_Ba0_3 k_Ba0_4 k_Ba0_5 k_Ba0_6
 clear k_Bs0_0 k_Bs0_1 k_Bs0_2 k_Bs0_3 k_Bs0_4 k_Bs0_5 k_Bs0_6
 rw [HR0.out] at o_g0
 rw [HR1.out]
 obtain ⟨Ag03, cg03, Fg03, Ag04, cg04, Fg04, Ag05, cg05, Fg05, Ag06, cg06, Fg06, rfl, -, -, -, -, -, -, -, -, -, -, -, -, -, -, -, -⟩ := openONet o_g0
 have Ig0 : ∀ f ∈ Fg0, W4.heap.size + 1 ≤ f ∧ f < W5.heap.size := fun f hf => ⟨Nat.le_trans lez (Ng.2 f (by simp [hf])), (tNet).lt o_g0 f hf⟩
 have Dg0 := Ng.1
 clear Ng
 have hs5 : Bel W4 W5 := bel_trans (belx) hb_
 have z5 : W4.heap.size + 1 ≤ W5.heap.size := by have := hb_.size; simpa using this
 have hB5 : Bel w W5 := bel_trans hB4 hs5
 replace Ba0 := Ba0.below hs5 Ba0.size
 replace Bs0 := Bs0.below hs5 Bs0.size
 have Bx0 : Box W5 (W4.heap.size) 35 #[.int .i64 (p0.1), .int .i64 (p0.2.1), .int .i64 (p0.2.2.1), .slice Ax03 (p0.2.2.2.1).length cx03, .slice Ax04 (p0.2.2.2.2.1).length cx04, .slice Ax05 (p0.2.2.2.2.2.1).length cx05, .slice Ax06 (p0.2.2.2.2.2.2).length cx06] := Box.below (Box.new _ _ _) hb_ lez
 replace o_x0 := Ty.below (t := tNet) o_x0 hs5
 replace r_s0 := (tNet).keep r_s0 (fun b hb => hs5.block b (Nat.lt_of_lt_of_le hb (by omega)))
 have k_Ba0_0 := Ba0.cell 0
 have k_Ba0_1 := Ba0.cell 1
 have k_Ba0_2 := Ba0.cell 2
 have k_Ba0_3 := Ba0.cell 3
 have k_Ba0_4 := Ba0.cell 4
 have k_Ba0_5 := Ba0.cell 5
 have k_Ba0_6 := Ba0.cell 6
 have k_Bs0_0 := Bs0.cell 0
 have k_Bs0_1 := Bs0.cell 1
 have k_Bs0_2 := Bs0.cell 2
 have k_Bs0_3 := Bs0.cell 3
 have k_Bs0_4 := Bs0.cell 4
 have k_Bs0_5 := Bs0.cell 5
 have k_Bs0_6 := Bs0.cell 6
 have k_Bx0_0 := Bx0.cell 0
 have k_Bx0_1 := Bx0.cell 1
 have k_Bx0_2 := Bx0.cell 2
 have k_Bx0_3 := Bx0.cell 3
 have k_Bx0_4 := Bx0.cell 4
 have k_Bx0_5 := Bx0.cell 5
 have k_Bx0_6 := Bx0.cell 6
 clear hb_
 have bx_ : Box (W5.alloc (.cells #[.int .i64 (r0.1), .int .i64 (r0.2.1), .int .i64 (r0.2.2.1), .slice Ag03 (r0.2.2.2.1).length cg03, .slice Ag04 (r0.2.2.2.2.1).length cg04, .slice Ag05 (r0.2.2.2.2.2.1).length cg05, .slice Ag06 (r0.2.2.2.2.2.2).length cg06] 35)) _ _ _ := (Ba0.alloc _)
 have d_Ba0_0 := bx_.cell 0
 have d_Ba0_1 := bx_.cell 1
 have d_Ba0_2 := bx_.cell 2
 have d_Ba0_3 := bx_.cell 3
 have d_Ba0_4 := bx_.cell 4
 have d_Ba0_5 := bx_.cell 5
 have d_Ba0_6 := bx_.cell 6
 have bx_ : Box (W5.alloc (.cells #[.int .i64 (r0.1), .int .i64 (r0.2.1), .int .i64 (r0.2.2.1), .slice Ag03 (r0.2.2.2.1).length cg03, .slice Ag04 (r0.2.2.2.2.1).length cg04, .slice Ag05 (r0.2.2.2.2.2.1).length cg05, .slice Ag06 (r0.2.2.2.2.2.2).length cg06] 35)) _ _ _ := (Bs0.alloc _)
 have d_Bs0_0 := bx_.cell 0
 have d_Bs0_1 := bx_.cell 1
 have d_Bs0_2 := bx_.cell 2
 have d_Bs0_3 := bx_.cell 3
 have d_Bs0_4 := bx_.cell 4
 have d_Bs0_5 := bx_.cell 5
 have d_Bs0_6 := bx_.cell 6
 have bx_ : Box (W5.alloc (.cells #[.int .i64 (r0.1), .int .i64 (r0.2.1), .int .i64 (r0.2.2.1), .slice Ag03 (r0.2.2.2.1).length cg03, .slice Ag04 (r0.2.2.2.2.1).length cg04, .slice Ag05 (r0.2.2.2.2.2.1).length cg05, .slice Ag06 (r0.2.2.2.2.2.2).length cg06] 35)) _ _ _ := (Bx0.alloc _)
 have d_Bx0_0 := bx_.cell 0
 have d_Bx0_1 := bx_.cell 1
 have d_Bx0_2 := bx_.cell 2
 have d_Bx0_3 := bx_.cell 3
 have d_Bx0_4 := bx_.cell 4
 have d_Bx0_5 := bx_.cell 5
 have d_Bx0_6 := bx_.cell 6
 go_wp2_with fail
 refine (o_eqNet ((tNet).reach ((tNet).read o_g0) ?hB) ((tNet).reach ((tNet).up r_s0 (by omega : W3.heap.size ≤ W5.heap.size)) ?hB)).mono ?_
 all_goals try (case hB => exact (belx))
 rintro e W6 ⟨rfl, hb_⟩
 clear d_Ba0_0 d_Ba0_1 d_Ba0_2 d_Ba0_3 d_Ba0_4 d_Ba0_5 d_Ba0_6 d_Bs0_0 d_Bs0_1 d_Bs0_2 d_Bs0_3 d_Bs0_4 d_Bs0_5 d_Bs0_6 d_Bx0_0 d_Bx0_1 d_Bx0_2 d_Bx0_3 d_Bx0_4 d_Bx0_5 d_Bx0_6
 clear k_Ba0_0 k_Ba0_1 k_Ba0_2 k_Ba0_3 k_Ba0_4 k_Ba0_5 k_Ba0_6
 clear k_Bs0_0 k_Bs0_1 k_Bs0_2 k_Bs0_3 k_Bs0_4 k_Bs0_5 k_Bs0_6
 clear k_Bx0_0 k_Bx0_1 k_Bx0_2 k_Bx0_3 k_Bx0_4 k_Bx0_5 k_Bx0_6
 have hs6 : Bel W5 W6 := bel_trans (belx) hb_
 have z6 : W5.heap.size + 1 ≤ W6.heap.size := by have := hb_.size; simpa using this
 have hB6 : Bel w W6 := bel_trans hB5 hs6
 replace Ba0 := Ba0.below hs6 Ba0.size
 replace Bs0 := Bs0.below hs6 Bs0.size
 replace Bx0 := Bx0.below hs6 Bx0.size
 have Bg0 : Box W6 (W5.heap.size) 35 #[.int .i64 (r0.1), .int .i64 (r0.2.1), .int .i64 (r0.2.2.1), .slice Ag03 (r0.2.2.2.1).length cg03, .slice Ag04 (r0.2.2.2.2.1).length cg04, .slice Ag05 (r0.2.2.2.2.2.1).length cg05, .slice Ag06 (r0.2.2.2.2.2.2).length cg06] := Box.below (Box.new _ _ _) hb_ lez
 replace o_x0 := Ty.below (t := tNet) o_x0 hs6
 replace o_g0 := Ty.below (t := tNet) o_g0 hs6
 replace r_s0 := (tNet).keep r_s0 (fun b hb => hs6.block b (Nat.lt_of_lt_of_le hb (by omega)))
 have k_Ba0_0 := Ba0.cell 0
 have k_Ba0_1 := Ba0.cell 1
 have k_Ba0_2 := Ba0.cell 2
 have k_Ba0_3 := Ba0.cell 3
 have k_Ba0_4 := Ba0.cell 4
 have k_Ba0_5 := Ba0.cell 5
 have k_Ba0_6 := Ba0.cell 6
 have k_Bs0_0 := Bs0.cell 0
 have k_Bs0_1 := Bs0.cell 1
 have k_Bs0_2 := Bs0.cell 2
 have k_Bs0_3 := Bs0.cell 3
 have k_Bs0_4 := Bs0.cell 4
 have k_Bs0_5 := Bs0.cell 5
 have k_Bs0_6 := Bs0.cell 6
 have k_Bx0_0 := Bx0.cell 0
 have k_Bx0_1 := Bx0.cell 1
 have k_Bx0_2 := Bx0.cell 2
 have k_Bx0_3 := Bx0.cell 3
 have k_Bx0_4 := Bx0.cell 4
 have k_Bx0_5 := Bx0.cell 5
 have k_Bx0_6 := Bx0.cell 6
 have k_Bg0_0 := Bg0.cell 0
 have k_Bg0_1 := Bg0.cell 1
 have k_Bg0_2 := Bg0.cell 2
 have k_Bg0_3 := Bg0.cell 3
 have k_Bg0_4 := Bg0.cell 4
 have k_Bg0_5 := Bg0.cell 5
 have k_Bg0_6 := Bg0.cell 6
 clear hb_
 go_wp2_with fail
 go_region_held3 (fun w' => w'.cell? ⟨w.heap.size, 0, none⟩ = some (.int .i64 (p0.1)) ∧ w'.cell? ⟨w.heap.size, 1, none⟩ = some (.int .i64 (p0.2.1)) ∧ w'.cell? ⟨w.heap.size, 2, none⟩ = some (.int .i64 (p0.2.2.1)) ∧ w'.cell? ⟨w.heap.size, 3, none⟩ = some (.slice Aa03 na03 ca03) ∧ w'.cell? ⟨w.heap.size, 4, none⟩ = some (.slice Aa04 na04 ca04) ∧ w'.cell? ⟨w.heap.size, 5, none⟩ = some (.slice Aa05 na05 ca05) ∧ w'.cell? ⟨w.heap.size, 6, none⟩ = some (.slice Aa06 na06 ca06) ∧ w'.cell? ⟨W4.heap.size, 0, none⟩ = some (.int .i64 (p0.1)) ∧ w'.cell? ⟨W4.heap.size, 1, none⟩ = some (.int .i64 (p0.2.1)) ∧ w'.cell? ⟨W4.heap.size, 2, none⟩ = some (.int .i64 (p0.2.2.1)) ∧ w'.cell? ⟨W4.heap.size, 3, none⟩ = some (.slice Ax03 (p0.2.2.2.1).length cx03) ∧ w'.cell? ⟨W4.heap.size, 4, none⟩ = some (.slice Ax04 (p0.2.2.2.2.1).length cx04) ∧ w'.cell? ⟨W4.heap.size, 5, none⟩ = some (.slice Ax05 (p0.2.2.2.2.2.1).length cx05) ∧ w'.cell? ⟨W4.heap.size, 6, none⟩ = some (.slice Ax06 (p0.2.2.2.2.2.2).length cx06)) (first | (exact ⟨k_Ba0_0, k_Ba0_1, k_Ba0_2, k_Ba0_3, k_Ba0_4, k_Ba0_5, k_Ba0_6, k_Bx0_0, k_Bx0_1, k_Bx0_2, k_Bx0_3, k_Bx0_4, k_Bx0_5, k_Bx0_6⟩) | (exact ⟨cell_bel hs8 k_Ba0_0, cell_bel hs8 k_Ba0_1, cell_bel hs8 k_Ba0_2, cell_bel hs8 k_Ba0_3, cell_bel hs8 k_Ba0_4, cell_bel hs8 k_Ba0_5, cell_bel hs8 k_Ba0_6, cell_bel hs8 k_Bx0_0, cell_bel hs8 k_Bx0_1, cell_bel hs8 k_Bx0_2, cell_bel hs8 k_Bx0_3, cell_bel hs8 k_Bx0_4, cell_bel hs8 k_Bx0_5, cell_bel hs8 k_Bx0_6⟩) | (exact ⟨cell_bel hs7 k_Ba0_0, cell_bel hs7 k_Ba0_1, cell_bel hs7 k_Ba0_2, cell_bel hs7 k_Ba0_3, cell_bel hs7 k_Ba0_4, cell_bel hs7 k_Ba0_5, cell_bel hs7 k_Ba0_6, cell_bel hs7 k_Bx0_0, cell_bel hs7 k_Bx0_1, cell_bel hs7 k_Bx0_2, cell_bel hs7 k_Bx0_3, cell_bel hs7 k_Bx0_4, cell_bel hs7 k_Bx0_5, cell_bel hs7 k_Bx0_6⟩) | go_keep)
  (first
   | (go_at_call 7; refine (o_toNet ((tNet).reach ((tNet).reach h0 hB6) (belx)) (by omega)).mono ?_; rintro e W7 ⟨csv, Fv, rfl, o_v, Nv, hb_⟩; have hs7 : Bel W6 W7 := bel_trans (belx) hb_)
   | (go_at_call 10; refine (o_eqNet ((tNet).reach ((tNet).reach ((tNet).read o_x0) hs7) (belx)) ((tNet).reach ((tNet).read o_v) (belx))).mono ?_; rintro e W8 ⟨rfl, hb2_⟩; have hs8' : Bel W6 W8 := bel_trans hs7 (bel_trans (belx) hb2_); have hs8 := hs8'))
 clear o_v Nv hb_ hb2_ hs7
 clear k_Ba0_0 k_Ba0_1 k_Ba0_2 k_Ba0_3 k_Ba0_4 k_Ba0_5 k_Ba0_6
 clear k_Bs0_0 k_Bs0_1 k_Bs0_2 k_Bs0_3 k_Bs0_4 k_Bs0_5 k_Bs0_6
 clear k_Bx0_0 k_Bx0_1 k_Bx0_2 k_Bx0_3 k_Bx0_4 k_Bx0_5 k_Bx0_6
 clear k_Bg0_0 k_Bg0_1 k_Bg0_2 k_Bg0_3 k_Bg0_4 k_Bg0_5 k_Bg0_6
 have z8 : W6.heap.size + 0 ≤ W8.heap.size := hs8'.size
 have hB8 : Bel w W8 := bel_trans hB6 hs8'
 replace Ba0 := Ba0.below hs8' Ba0.size
 replace Bs0 := Bs0.below hs8' Bs0.size
 replace Bx0 := Bx0.below hs8' Bx0.size
 replace Bg0 := Bg0.below hs8' Bg0.size
 replace o_x0 := Ty.below (t := tNet) o_x0 hs8'
 replace o_g0 := Ty.below (t := tNet) o_g0 hs8'
 replace r_s0 := (tNet).keep r_s0 (fun b hb => hs8'.block b (Nat.lt_of_lt_of_le hb (by omega)))
 have k_Ba0_0 := Ba0.cell 0
 have k_Ba0_1 := Ba0.cell 1
 have k_Ba0_2 := Ba0.cell 2
 have k_Ba0_3 := Ba0.cell 3
 have k_Ba0_4 := Ba0.cell 4
 have k_Ba0_5 := Ba0.cell 5
 have k_Ba0_6 := Ba0.cell 6
 have k_Bs0_0 := Bs0.cell 0
 have k_Bs0_1 := Bs0.cell 1
 have k_Bs0_2 := Bs0.cell 2
 have k_Bs0_3 := Bs0.cell 3
 have k_Bs0_4 := Bs0.cell 4
 have k_Bs0_5 := Bs0.cell 5
 have k_Bs0_6 := Bs0.cell 6
 have k_Bx0_0 := Bx0.cell 0
 have k_Bx0_1 := Bx0.cell 1
 have k_Bx0_2 := Bx0.cell 2
 have k_Bx0_3 := Bx0.cell 3
 have k_Bx0_4 := Bx0.cell 4
 have k_Bx0_5 := Bx0.cell 5
 have k_Bx0_6 := Bx0.cell 6
 have k_Bg0_0 := Bg0.cell 0
 have k_Bg0_1 := Bg0.cell 1
 have k_Bg0_2 := Bg0.cell 2
 have k_Bg0_3 := Bg0.cell 3
 have k_Bg0_4 := Bg0.cell 4
 have k_Bg0_5 := Bg0.cell 5
 have k_Bg0_6 := Bg0.cell 6
 go_wp2_with fail
 refine (o_markNet (1) o_x0 Dx0 (by omega) (by omega)).mono ?_
 rintro e W9 ⟨rfl, om_, hG_⟩
 clear k_Ba0_0 k_Ba0_1 k_Ba0_2 k_Ba0_3 k_Ba0_4 k_Ba0_5 k_Ba0_6
 clear k_Bs0_0 k_Bs0_1 k_Bs0_2 k_Bs0_3 k_Bs0_4 k_Bs0_5 k_Bs0_6
 clear k_Bx0_0 k_Bx0_1 k_Bx0_2 k_Bx0_3 k_Bx0_4 k_Bx0_5 k_Bx0_6
 clear k_Bg0_0 k_Bg0_1 k_Bg0_2 k_Bg0_3 k_Bg0_4 k_Bg0_5 k_Bg0_6
 replace o_x0 := om_
 clear om_
 have z9 : W8.heap.size + 0 ≤ W9.heap.size := hG_.size
 have hB9 : Bel w W9 := hB8.trans (hG_.below (fun f hf => by have := Ix0 f hf; omega) (by have := hB8.size; omega))
 replace Ba0 := Ba0.same (hG_.block _ Ba0.size (fun hx => by have := Ix0 _ hx; omega))
 replace Bs0 := Bs0.same (hG_.block _ Bs0.size (fun hx => by have := Ix0 _ hx; omega))
 replace Bx0 := Bx0.same (hG_.block _ Bx0.size (fun hx => by have := Ix0 _ hx; omega))
 replace Bg0 := Bg0.same (hG_.block _ Bg0.size (fun hx => by have := Ix0 _ hx; omega))
 replace o_g0 := Ty.only (t := tNet) o_g0 hG_ (fun f hf hx => by have := Ig0 f hf; have := Ix0 f hx; omega)
 replace r_s0 := (tNet).keep r_s0 (fun b hb => hG_.block b (Nat.lt_of_lt_of_le hb (by omega)) (fun hx => by have := Ix0 b hx; omega))
 have k_Ba0_0 := Ba0.cell 0
 have k_Ba0_1 := Ba0.cell 1
 have k_Ba0_2 := Ba0.cell 2
 have k_Ba0_3 := Ba0.cell 3
 have k_Ba0_4 := Ba0.cell 4
 have k_Ba0_5 := Ba0.cell 5
 have k_Ba0_6 := Ba0.cell 6
 have k_Bs0_0 := Bs0.cell 0
 have k_Bs0_1 := Bs0.cell 1
 have k_Bs0_2 := Bs0.cell 2
 have k_Bs0_3 := Bs0.cell 3
 have k_Bs0_4 := Bs0.cell 4
 have k_Bs0_5 := Bs0.cell 5
 have k_Bs0_6 := Bs0.cell 6
 have k_Bx0_0 := Bx0.cell 0
 have k_Bx0_1 := Bx0.cell 1
 have k_Bx0_2 := Bx0.cell 2
 have k_Bx0_3 := Bx0.cell 3
 have k_Bx0_4 := Bx0.cell 4
 have k_Bx0_5 := Bx0.cell 5
 have k_Bx0_6 := Bx0.cell 6
 have k_Bg0_0 := Bg0.cell 0
 have k_Bg0_1 := Bg0.cell 1
 have k_Bg0_2 := Bg0.cell 2
 have k_Bg0_3 := Bg0.cell 3
 have k_Bg0_4 := Bg0.cell 4
 have k_Bg0_5 := Bg0.cell 5
 have k_Bg0_6 := Bg0.cell 6
 clear hG_
 have dk : decide ((1 + ((cntNet (p0) : Nat) : Int) : Int) < 0) = false := by simp; omega
 clear o_x0 Ix0 Dx0
 go_wp2_with fail
 refine (o_eqNet ((tNet).reach ((tNet).read o_g0) ?hB) ((tNet).reach ((tNet).up r_s0 (by omega : W3.heap.size ≤ W9.heap.size)) ?hB)).mono ?_
 all_goals try (case hB => exact (belx))
 rintro e W10 ⟨rfl, hb_⟩
 clear k_Ba0_0 k_Ba0_1 k_Ba0_2 k_Ba0_3 k_Ba0_4 k_Ba0_5 k_Ba0_6
 clear k_Bs0_0 k_Bs0_1 k_Bs0_2 k_Bs0_3 k_Bs0_4 k_Bs0_5 k_Bs0_6
 clear k_Bx0_0 k_Bx0_1 k_Bx0_2 k_Bx0_3 k_Bx0_4 k_Bx0_5 k_Bx0_6
 clear k_Bg0_0 k_Bg0_1 k_Bg0_2 k_Bg0_3 k_Bg0_4 k_Bg0_5 k_Bg0_6
 have hs10 : Bel W9 W10 := bel_trans (belx) hb_
 have z10 : W9.heap.size + 0 ≤ W10.heap.size := by have := hb_.size; simpa using this
 have hB10 : Bel w W10 := bel_trans hB9 hs10
 replace Ba0 := Ba0.below hs10 Ba0.size
 replace Bs0 := Bs0.below hs10 Bs0.size
 replace Bx0 := Bx0.below hs10 Bx0.size
 replace Bg0 := Bg0.below hs10 Bg0.size
 replace o_g0 := Ty.below (t := tNet) o_g0 hs10
 replace r_s0 := (tNet).keep r_s0 (fun b hb => hs10.block b (Nat.lt_of_lt_of_le hb (by omega)))
 have k_Ba0_0 := Ba0.cell 0
 have k_Ba0_1 := Ba0.cell 1
 have k_Ba0_2 := Ba0.cell 2
 have k_Ba0_3 := Ba0.cell 3
 have k_Ba0_4 := Ba0.cell 4
 have k_Ba0_5 := Ba0.cell 5
 have k_Ba0_6 := Ba0.cell 6
 have k_Bs0_0 := Bs0.cell 0
 have k_Bs0_1 := Bs0.cell 1
 have k_Bs0_2 := Bs0.cell 2
 have k_Bs0_3 := Bs0.cell 3
 have k_Bs0_4 := Bs0.cell 4
 have k_Bs0_5 := Bs0.cell 5
 have k_Bs0_6 := Bs0.cell 6
 have k_Bx0_0 := Bx0.cell 0
 have k_Bx0_1 := Bx0.cell 1
 have k_Bx0_2 := Bx0.cell 2
 have k_Bx0_3 := Bx0.cell 3
 have k_Bx0_4 := Bx0.cell 4
 have k_Bx0_5 := Bx0.cell 5
 have k_Bx0_6 := Bx0.cell 6
 have k_Bg0_0 := Bg0.cell 0
 have k_Bg0_1 := Bg0.cell 1
 have k_Bg0_2 := Bg0.cell 2
 have k_Bg0_3 := Bg0.cell 3
 have k_Bg0_4 := Bg0.cell 4
 have k_Bg0_5 := Bg0.cell 5
 have k_Bg0_6 := Bg0.cell 6
 clear hb_
 go_wp2_with fail
 refine (o_markNet (1) o_g0 Dg0 (by omega) (by omega)).mono ?_
 rintro e W11 ⟨rfl, om_, hG_⟩
 clear k_Ba0_0 k_Ba0_1 k_Ba0_2 k_Ba0_3 k_Ba0_4 k_Ba0_5 k_Ba0_6
 clear k_Bs0_0 k_Bs0_1 k_Bs0_2 k_Bs0_3 k_Bs0_4 k_Bs0_5 k_Bs0_6
 clear k_Bx0_0 k_Bx0_1 k_Bx0_2 k_Bx0_3 k_Bx0_4 k_Bx0_5 k_Bx0_6
 clear k_Bg0_0 k_Bg0_1 k_Bg0_2 k_Bg0_3 k_Bg0_4 k_Bg0_5 k_Bg0_6
 replace o_g0 := om_
 clear om_
 have z11 : W10.heap.size + 0 ≤ W11.heap.size := hG_.size
 have hB11 : Bel w W11 := hB10.trans (hG_.below (fun f hf => by have := Ig0 f hf; omega) (by have := hB10.size; omega))
 replace Ba0 := Ba0.same (hG_.block _ Ba0.size (fun hx => by have := Ig0 _ hx; omega))
 replace Bs0 := Bs0.same (hG_.block _ Bs0.size (fun hx => by have := Ig0 _ hx; omega))
 replace Bx0 := Bx0.same (hG_.block _ Bx0.size (fun hx => by have := Ig0 _ hx; omega))
 replace Bg0 := Bg0.same (hG_.block _ Bg0.size (fun hx => by have := Ig0 _ hx; omega))
 replace r_s0 := (tNet).keep r_s0 (fun b hb => hG_.block b (Nat.lt_of_lt_of_le hb (by omega)) (fun hx => by have := Ig0 b hx; omega))
 have k_Ba0_0 := Ba0.cell 0
 have k_Ba0_1 := Ba0.cell 1
 have k_Ba0_2 := Ba0.cell 2
 have k_Ba0_3 := Ba0.cell 3
 have k_Ba0_4 := Ba0.cell 4
 have k_Ba0_5 := Ba0.cell 5
 have k_Ba0_6 := Ba0.cell 6
 have k_Bs0_0 := Bs0.cell 0
 have k_Bs0_1 := Bs0.cell 1
 have k_Bs0_2 := Bs0.cell 2
 have k_Bs0_3 := Bs0.cell 3
 have k_Bs0_4 := Bs0.cell 4
 have k_Bs0_5 := Bs0.cell 5
 have k_Bs0_6 := Bs0.cell 6
 have k_Bx0_0 := Bx0.cell 0
 have k_Bx0_1 := Bx0.cell 1
 have k_Bx0_2 := Bx0.cell 2
 have k_Bx0_3 := Bx0.cell 3
 have k_Bx0_4 := Bx0.cell 4
 have k_Bx0_5 := Bx0.cell 5
 have k_Bx0_6 := Bx0.cell 6
 have k_Bg0_0 := Bg0.cell 0
 have k_Bg0_1 := Bg0.cell 1
 have k_Bg0_2 := Bg0.cell 2
 have k_Bg0_3 := Bg0.cell 3
 have k_Bg0_4 := Bg0.cell 4
 have k_Bg0_5 := Bg0.cell 5
 have k_Bg0_6 := Bg0.cell 6
 clear hG_
 have dm : (((1 + ((cntNet (r0) : Nat) : Int) : Int)) != (1 + ((cntNet (r0) : Nat) : Int))) = false := by simp
 have dh0 : decide ((1 + ((cntNet (r0) : Nat) : Int) : Int) < 0) = false := by simp; omega
 go_wp2_with fail
 refine (o_heldNet (1) ((tNet).reach ((tNet).read o_g0) ?hB) (by omega) (by omega)).mono ?_
 all_goals try (case hB => exact (belx))
 rintro e W12 ⟨rfl, hb_⟩
 clear k_Ba0_0 k_Ba0_1 k_Ba0_2 k_Ba0_3 k_Ba0_4 k_Ba0_5 k_Ba0_6
 clear k_Bs0_0 k_Bs0_1 k_Bs0_2 k_Bs0_3 k_Bs0_4 k_Bs0_5 k_Bs0_6
 clear k_Bx0_0 k_Bx0_1 k_Bx0_2 k_Bx0_3 k_Bx0_4 k_Bx0_5 k_Bx0_6
 clear k_Bg0_0 k_Bg0_1 k_Bg0_2 k_Bg0_3 k_Bg0_4 k_Bg0_5 k_Bg0_6
 have hs12 : Bel W11 W12 := bel_trans (belx) hb_
 have z12 : W11.heap.size + 0 ≤ W12.heap.size := by have := hb_.size; simpa using this
 have hB12 : Bel w W12 := bel_trans hB11 hs12
 replace Ba0 := Ba0.below hs12 Ba0.size
 replace Bs0 := Bs0.below hs12 Bs0.size
 replace Bx0 := Bx0.below hs12 Bx0.size
 replace Bg0 := Bg0.below hs12 Bg0.size
 replace o_g0 := Ty.below (t := tNet) o_g0 hs12
 replace r_s0 := (tNet).keep r_s0 (fun b hb => hs12.block b (Nat.lt_of_lt_of_le hb (by omega)))
 have k_Ba0_0 := Ba0.cell 0
 have k_Ba0_1 := Ba0.cell 1
 have k_Ba0_2 := Ba0.cell 2
 have k_Ba0_3 := Ba0.cell 3
 have k_Ba0_4 := Ba0.cell 4
 have k_Ba0_5 := Ba0.cell 5
 have k_Ba0_6 := Ba0.cell 6
 have k_Bs0_0 := Bs0.cell 0
 have k_Bs0_1 := Bs0.cell 1
 have k_Bs0_2 := Bs0.cell 2
 have k_Bs0_3 := Bs0.cell 3
 have k_Bs0_4 := Bs0.cell 4
 have k_Bs0_5 := Bs0.cell 5
 have k_Bs0_6 := Bs0.cell 6
 have k_Bx0_0 := Bx0.cell 0
 have k_Bx0_1 := Bx0.cell 1
 have k_Bx0_2 := Bx0.cell 2
 have k_Bx0_3 := Bx0.cell 3
 have k_Bx0_4 := Bx0.cell 4
 have k_Bx0_5 := Bx0.cell 5
 have k_Bx0_6 := Bx0.cell 6
 have k_Bg0_0 := Bg0.cell 0
 have k_Bg0_1 := Bg0.cell 1
 have k_Bg0_2 := Bg0.cell 2
 have k_Bg0_3 := Bg0.cell 3
 have k_Bg0_4 := Bg0.cell 4
 have k_Bg0_5 := Bg0.cell 5
 have k_Bg0_6 := Bg0.cell 6
 clear hb_
 go_wp2_with fail
 refine (o_toNet ((tNet).reach ((tNet).reach h0 hB12) ?hB) (by omega)).mono ?_
 all_goals try (case hB => exact (belx))
 rintro e W13 ⟨csy0, Fy0, rfl, o_y0, Ny0, hb_⟩
 clear k_Ba0_0 k_Ba0_1 k_Ba0_2 k_Ba0_3 k_Ba0_4 k_Ba0_5 k_Ba0_6
 clear k_Bs0_0 k_Bs0_1 k_Bs0_2 k_Bs0_3 k_Bs0_4 k_Bs0_5 k_Bs0_6
 clear k_Bx0_0 k_Bx0_1 k_Bx0_2 k_Bx0_3 k_Bx0_4 k_Bx0_5 k_Bx0_6
 clear k_Bg0_0 k_Bg0_1 k_Bg0_2 k_Bg0_3 k_Bg0_4 k_Bg0_5 k_Bg0_6
 have Iy0 : ∀ f ∈ Fy0, W12.heap.size + 0 ≤ f ∧ f < W13.heap.size := fun f hf => ⟨Nat.le_trans lez (Ny0.2 f hf), (tNet).lt o_y0 f hf⟩
 have Dy0 := Ny0.1
 clear Ny0
 obtain ⟨Ay03, cy03, Fy03, Ay04, cy04, Fy04, Ay05, cy05, Fy05, Ay06, cy06, Fy06, rfl, -, -, -, -, -, -, -, -, -, -, -, -, -, -, -, -⟩ := openONet o_y0
 have hs13 : Bel W12 W13 := bel_trans (belx) hb_
 have z13 : W12.heap.size + 0 ≤ W13.heap.size := by have := hb_.size; simpa using this
 have hB13 : Bel w W13 := bel_trans hB12 hs13
 replace Ba0 := Ba0.below hs13 Ba0.size
 replace Bs0 := Bs0.below hs13 Bs0.size
 replace Bx0 := Bx0.below hs13 Bx0.size
 replace Bg0 := Bg0.below hs13 Bg0.size
 replace o_g0 := Ty.below (t := tNet) o_g0 hs13
 replace r_s0 := (tNet).keep r_s0 (fun b hb => hs13.block b (Nat.lt_of_lt_of_le hb (by omega)))
 have k_Ba0_0 := Ba0.cell 0
 have k_Ba0_1 := Ba0.cell 1
 have k_Ba0_2 := Ba0.cell 2
 have k_Ba0_3 := Ba0.cell 3
 have k_Ba0_4 := Ba0.cell 4
 have k_Ba0_5 := Ba0.cell 5
 have k_Ba0_6 := Ba0.cell 6
 have k_Bs0_0 := Bs0.cell 0
 have k_Bs0_1 := Bs0.cell 1
 have k_Bs0_2 := Bs0.cell 2
 have k_Bs0_3 := Bs0.cell 3
 have k_Bs0_4 := Bs0.cell 4
 have k_Bs0_5 := Bs0.cell 5
 have k_Bs0_6 := Bs0.cell 6
 have k_Bx0_0 := Bx0.cell 0
 have k_Bx0_1 := Bx0.cell 1
 have k_Bx0_2 := Bx0.cell 2
 have k_Bx0_3 := Bx0.cell 3
 have k_Bx0_4 := Bx0.cell 4
 have k_Bx0_5 := Bx0.cell 5
 have k_Bx0_6 := Bx0.cell 6
 have k_Bg0_0 := Bg0.cell 0
 have k_Bg0_1 := Bg0.cell 1
 have k_Bg0_2 := Bg0.cell 2
 have k_Bg0_3 := Bg0.cell 3
 have k_Bg0_4 := Bg0.cell 4
 have k_Bg0_5 := Bg0.cell 5
 have k_Bg0_6 := Bg0.cell 6
 clear hb_
 go_wp2_with fail
 refine (i_Twice ((tNet).reach ((tNet).read o_y0) ?hB) (by omega) w1).mono ?_
 all_goals try (case hB => exact (belx))
 rintro e W14 ⟨csh0, Fh0, rfl, o_h0, Nh, hb_⟩
 clear k_Ba0_0 k_Ba0_1 k_Ba0_2 k_Ba0_3 k_Ba0_4 k_Ba0_5 k_Ba0_6
 clear k_Bs0_0 k_Bs0_1 k_Bs0_2 k_Bs0_3 k_Bs0_4 k_Bs0_5 k_Bs0_6
 clear k_Bx0_0 k_Bx0_1 k_Bx0_2 k_Bx0_3 k_Bx0_4 k_Bx0_5 k_Bx0_6
 clear k_Bg0_0 k_Bg0_1 k_Bg0_2 k_Bg0_3 k_Bg0_4 k_Bg0_5 k_Bg0_6
 clear o_y0 Iy0 Dy0
 rw [HR0.out] at o_h0
 rw [HR1.out]
 obtain ⟨Ah03, ch03, Fh03, Ah04, ch04, Fh04, Ah05, ch05, Fh05, Ah06, ch06, Fh06, rfl, -, -, -, -, -, -, -, -, -, -, -, -, -, -, -, -⟩ := openONet o_h0
 have Ih0 : ∀ f ∈ Fh0, W13.heap.size + 0 ≤ f ∧ f < W14.heap.size := fun f hf => ⟨Nat.le_trans lez (Nh.2 f (by simp [hf])), (tNet).lt o_h0 f hf⟩
 have Dh0 := Nh.1
 clear Nh
 have hs14 : Bel W13 W14 := bel_trans (belx) hb_
 have z14 : W13.heap.size + 0 ≤ W14.heap.size := by have := hb_.size; simpa using this
 have hB14 : Bel w W14 := bel_trans hB13 hs14
 replace Ba0 := Ba0.below hs14 Ba0.size
 replace Bs0 := Bs0.below hs14 Bs0.size
 replace Bx0 := Bx0.below hs14 Bx0.size
 replace Bg0 := Bg0.below hs14 Bg0.size
 replace o_g0 := Ty.below (t := tNet) o_g0 hs14
 replace r_s0 := (tNet).keep r_s0 (fun b hb => hs14.block b (Nat.lt_of_lt_of_le hb (by omega)))
 have k_Ba0_0 := Ba0.cell 0
 have k_Ba0_1 := Ba0.cell 1
 have k_Ba0_2 := Ba0.cell 2
 have k_Ba0_3 := Ba0.cell 3
 have k_Ba0_4 := Ba0.cell 4
 have k_Ba0_5 := Ba0.cell 5
 have k_Ba0_6 := Ba0.cell 6
 have k_Bs0_0 := Bs0.cell 0
 have k_Bs0_1 := Bs0.cell 1
 have k_Bs0_2 := Bs0.cell 2
 have k_Bs0_3 := Bs0.cell 3
 have k_Bs0_4 := Bs0.cell 4
 have k_Bs0_5 := Bs0.cell 5
 have k_Bs0_6 := Bs0.cell 6
 have k_Bx0_0 := Bx0.cell 0
 have k_Bx0_1 := Bx0.cell 1
 have k_Bx0_2 := Bx0.cell 2
 have k_Bx0_3 := Bx0.cell 3
 have k_Bx0_4 := Bx0.cell 4
 have k_Bx0_5 := Bx0.cell 5
 have k_Bx0_6 := Bx0.cell 6
 have k_Bg0_0 := Bg0.cell 0
 have k_Bg0_1 := Bg0.cell 1
 have k_Bg0_2 := Bg0.cell 2
 have k_Bg0_3 := Bg0.cell 3
 have k_Bg0_4 := Bg0.cell 4
 have k_Bg0_5 := Bg0.cell 5
 have k_Bg0_6 := Bg0.cell 6
 clear hb_
 have bx_ : Box (W14.alloc (.cells #[.int .i64 (r0.1), .int .i64 (r0.2.1), .int .i64 (r0.2.2.1), .slice Ah03 (r0.2.2.2.1).length ch03, .slice Ah04 (r0.2.2.2.2.1).length ch04, .slice Ah05 (r0.2.2.2.2.2.1).length ch05, .slice Ah06 (r0.2.2.2.2.2.2).length ch06] 35)) _ _ _ := (Ba0.alloc _)
 have d_Ba0_0 := bx_.cell 0
 have d_Ba0_1 := bx_.cell 1
 have d_Ba0_2 := bx_.cell 2
 have d_Ba0_3 := bx_.cell 3
 have d_Ba0_4 := bx_.cell 4
 have d_Ba0_5 := bx_.cell 5
 have d_Ba0_6 := bx_.cell 6
 have bx_ : Box (W14.alloc (.cells #[.int .i64 (r0.1), .int .i64 (r0.2.1), .int .i64 (r0.2.2.1), .slice Ah03 (r0.2.2.2.1).length ch03, .slice Ah04 (r0.2.2.2.2.1).length ch04, .slice Ah05 (r0.2.2.2.2.2.1).length ch05, .slice Ah06 (r0.2.2.2.2.2.2).length ch06] 35)) _ _ _ := (Bs0.alloc _)
 have d_Bs0_0 := bx_.cell 0
 have d_Bs0_1 := bx_.cell 1
 have d_Bs0_2 := bx_.cell 2
 have d_Bs0_3 := bx_.cell 3
 have d_Bs0_4 := bx_.cell 4
 have d_Bs0_5 := bx_.cell 5
 have d_Bs0_6 := bx_.cell 6
 have bx_ : Box (W14.alloc (.cells #[.int .i64 (r0.1), .int .i64 (r0.2.1), .int .i64 (r0.2.2.1), .slice Ah03 (r0.2.2.2.1).length ch03, .slice Ah04 (r0.2.2.2.2.1).length ch04, .slice Ah05 (r0.2.2.2.2.2.1).length ch05, .slice Ah06 (r0.2.2.2.2.2.2).length ch06] 35)) _ _ _ := (Bx0.alloc _)
 have d_Bx0_0 := bx_.cell 0
 have d_Bx0_1 := bx_.cell 1
 have d_Bx0_2 := bx_.cell 2
 have d_Bx0_3 := bx_.cell 3
 have d_Bx0_4 := bx_.cell 4
 have d_Bx0_5 := bx_.cell 5
 have d_Bx0_6 := bx_.cell 6
 have bx_ : Box (W14.alloc (.cells #[.int .i64 (r0.1), .int .i64 (r0.2.1), .int .i64 (r0.2.2.1), .slice Ah03 (r0.2.2.2.1).length ch03, .slice Ah04 (r0.2.2.2.2.1).length ch04, .slice Ah05 (r0.2.2.2.2.2.1).length ch05, .slice Ah06 (r0.2.2.2.2.2.2).length ch06] 35)) _ _ _ := (Bg0.alloc _)
 have d_Bg0_0 := bx_.cell 0
 have d_Bg0_1 := bx_.cell 1
 have d_Bg0_2 := bx_.cell 2
 have d_Bg0_3 := bx_.cell 3
 have d_Bg0_4 := bx_.cell 4
 have d_Bg0_5 := bx_.cell 5
 have d_Bg0_6 := bx_.cell 6
 go_wp2_with fail
 refine (o_eqNet ((tNet).reach ((tNet).read o_h0) ?hB) ((tNet).reach ((tNet).up r_s0 (by omega : W3.heap.size ≤ W14.heap.size)) ?hB)).mono ?_
 all_goals try (case hB => exact (belx))
 rintro e W15 ⟨rfl, hb_⟩
 clear d_Ba0_0 d_Ba0_1 d_Ba0_2 d_Ba0_3 d_Ba0_4 d_Ba0_5 d_Ba0_6 d_Bs0_0 d_Bs0_1 d_Bs0_2 d_Bs0_3 d_Bs0_4 d_Bs0_5 d_Bs0_6 d_Bx0_0 d_Bx0_1 d_Bx0_2 d_Bx0_3 d_Bx0_4 d_Bx0_5 d_Bx0_6 d_Bg0_0 d_Bg0_1 d_Bg0_2 d_Bg0_3 d_Bg0_4 d_Bg0_5 d_Bg0_6
 clear k_Ba0_0 k_Ba0_1 k_Ba0_2 k_Ba0_3 k_Ba0_4 k_Ba0_5 k_Ba0_6
 clear k_Bs0_0 k_Bs0_1 k_Bs0_2 k_Bs0_3 k_Bs0_4 k_Bs0_5 k_Bs0_6
 clear k_Bx0_0 k_Bx0_1 k_Bx0_2 k_Bx0_3 k_Bx0_4 k_Bx0_5 k_Bx0_6
 clear k_Bg0_0 k_Bg0_1 k_Bg0_2 k_Bg0_3 k_Bg0_4 k_Bg0_5 k_Bg0_6
 have hs15 : Bel W14 W15 := bel_trans (belx) hb_
 have z15 : W14.heap.size + 1 ≤ W15.heap.size := by have := hb_.size; simpa using this
 have hB15 : Bel w W15 := bel_trans hB14 hs15
 replace Ba0 := Ba0.below hs15 Ba0.size
 replace Bs0 := Bs0.below hs15 Bs0.size
 replace Bx0 := Bx0.below hs15 Bx0.size
 replace Bg0 := Bg0.below hs15 Bg0.size
 have Bh0 : Box W15 (W14.heap.size) 35 #[.int .i64 (r0.1), .int .i64 (r0.2.1), .int .i64 (r0.2.2.1), .slice Ah03 (r0.2.2.2.1).length ch03, .slice Ah04 (r0.2.2.2.2.1).length ch04, .slice Ah05 (r0.2.2.2.2.2.1).length ch05, .slice Ah06 (r0.2.2.2.2.2.2).length ch06] := Box.below (Box.new _ _ _) hb_ lez
 replace o_g0 := Ty.below (t := tNet) o_g0 hs15
 replace o_h0 := Ty.below (t := tNet) o_h0 hs15
 replace r_s0 := (tNet).keep r_s0 (fun b hb => hs15.block b (Nat.lt_of_lt_of_le hb (by omega)))
 have k_Ba0_0 := Ba0.cell 0
 have k_Ba0_1 := Ba0.cell 1
 have k_Ba0_2 := Ba0.cell 2
 have k_Ba0_3 := Ba0.cell 3
 have k_Ba0_4 := Ba0.cell 4
 have k_Ba0_5 := Ba0.cell 5
 have k_Ba0_6 := Ba0.cell 6
 have k_Bs0_0 := Bs0.cell 0
 have k_Bs0_1 := Bs0.cell 1
 have k_Bs0_2 := Bs0.cell 2
 have k_Bs0_3 := Bs0.cell 3
 have k_Bs0_4 := Bs0.cell 4
 have k_Bs0_5 := Bs0.cell 5
 have k_Bs0_6 := Bs0.cell 6
 have k_Bx0_0 := Bx0.cell 0
 have k_Bx0_1 := Bx0.cell 1
 have k_Bx0_2 := Bx0.cell 2
 have k_Bx0_3 := Bx0.cell 3
 have k_Bx0_4 := Bx0.cell 4
 have k_Bx0_5 := Bx0.cell 5
 have k_Bx0_6 := Bx0.cell 6
 have k_Bg0_0 := Bg0.cell 0
 have k_Bg0_1 := Bg0.cell 1
 have k_Bg0_2 := Bg0.cell 2
 have k_Bg0_3 := Bg0.cell 3
 have k_Bg0_4 := Bg0.cell 4
 have k_Bg0_5 := Bg0.cell 5
 have k_Bg0_6 := Bg0.cell 6
 have k_Bh0_0 := Bh0.cell 0
 have k_Bh0_1 := Bh0.cell 1
 have k_Bh0_2 := Bh0.cell 2
 have k_Bh0_3 := Bh0.cell 3
 have k_Bh0_4 := Bh0.cell 4
 have k_Bh0_5 := Bh0.cell 5
 have k_Bh0_6 := Bh0.cell 6
 clear hb_
 go_wp2_with fail
 refine (o_heldNet (1) ((tNet).reach ((tNet).read o_g0) ?hB) (by omega) (by omega)).mono ?_
 all_goals try (case hB => exact (belx))
 rintro e W16 ⟨rfl, hb_⟩
 clear k_Ba0_0 k_Ba0_1 k_Ba0_2 k_Ba0_3 k_Ba0_4 k_Ba0_5 k_Ba0_6
 clear k_Bs0_0 k_Bs0_1 k_Bs0_2 k_Bs0_3 k_Bs0_4 k_Bs0_5 k_Bs0_6
 clear k_Bx0_0 k_Bx0_1 k_Bx0_2 k_Bx0_3 k_Bx0_4 k_Bx0_5 k_Bx0_6
 clear k_Bg0_0 k_Bg0_1 k_Bg0_2 k_Bg0_3 k_Bg0_4 k_Bg0_5 k_Bg0_6
 clear k_Bh0_0 k_Bh0_1 k_Bh0_2 k_Bh0_3 k_Bh0_4 k_Bh0_5 k_Bh0_6
 have hs16 : Bel W15 W16 := bel_trans (belx) hb_
 have z16 : W15.heap.size + 0 ≤ W16.heap.size := by have := hb_.size; simpa using this
 have hB16 : Bel w W16 := bel_trans hB15 hs16
 replace Ba0 := Ba0.below hs16 Ba0.size
 replace Bs0 := Bs0.below hs16 Bs0.size
 replace Bx0 := Bx0.below hs16 Bx0.size
 replace Bg0 := Bg0.below hs16 Bg0.size
 replace Bh0 := Bh0.below hs16 Bh0.size
 replace o_g0 := Ty.below (t := tNet) o_g0 hs16
 replace o_h0 := Ty.below (t := tNet) o_h0 hs16
 replace r_s0 := (tNet).keep r_s0 (fun b hb => hs16.block b (Nat.lt_of_lt_of_le hb (by omega)))
 have k_Ba0_0 := Ba0.cell 0
 have k_Ba0_1 := Ba0.cell 1
 have k_Ba0_2 := Ba0.cell 2
 have k_Ba0_3 := Ba0.cell 3
 have k_Ba0_4 := Ba0.cell 4
 have k_Ba0_5 := Ba0.cell 5
 have k_Ba0_6 := Ba0.cell 6
 have k_Bs0_0 := Bs0.cell 0
 have k_Bs0_1 := Bs0.cell 1
 have k_Bs0_2 := Bs0.cell 2
 have k_Bs0_3 := Bs0.cell 3
 have k_Bs0_4 := Bs0.cell 4
 have k_Bs0_5 := Bs0.cell 5
 have k_Bs0_6 := Bs0.cell 6
 have k_Bx0_0 := Bx0.cell 0
 have k_Bx0_1 := Bx0.cell 1
 have k_Bx0_2 := Bx0.cell 2
 have k_Bx0_3 := Bx0.cell 3
 have k_Bx0_4 := Bx0.cell 4
 have k_Bx0_5 := Bx0.cell 5
 have k_Bx0_6 := Bx0.cell 6
 have k_Bg0_0 := Bg0.cell 0
 have k_Bg0_1 := Bg0.cell 1
 have k_Bg0_2 := Bg0.cell 2
 have k_Bg0_3 := Bg0.cell 3
 have k_Bg0_4 := Bg0.cell 4
 have k_Bg0_5 := Bg0.cell 5
 have k_Bg0_6 := Bg0.cell 6
 have k_Bh0_0 := Bh0.cell 0
 have k_Bh0_1 := Bh0.cell 1
 have k_Bh0_2 := Bh0.cell 2
 have k_Bh0_3 := Bh0.cell 3
 have k_Bh0_4 := Bh0.cell 4
 have k_Bh0_5 := Bh0.cell 5
 have k_Bh0_6 := Bh0.cell 6
 clear hb_
 go_wp2_with fail
 go_ret
 exact ⟨rfl, hB16⟩

/-! ### THE ROW's STEP -/
set_option maxHeartbeats 400000 in
set_option maxRecDepth 100000 in
theorem lifted (os : Os) (started : os.Started) (H : Type) (enc : TypeId × Value → H) :
  ReturnsInHanded {} Tryz.checked os 4 .any (Rows.fnExactTwiceSpec.pre6 enc Tryz.prog Tryz.f4 Rows.fnExactTwiceRow.domain false) (Rows.fnExactTwiceSpec.post enc Tryz.prog Tryz.f4 false true false false) := by
 refine returnsInHanded_of_change (C := Tryz.checked) own started (by kernel_rfl) Tryz.func4
  (ChangeSpec.witness6 (enc := enc) (C := Tryz.checked) false ⟨#[], #[.agg #[.int .i64 0, .int .i64 0, .int .i64 0, .slice none 0 0, .slice none 0 0, .slice none 0 0, .slice none 0 0], .int .i64 0], []⟩ 8 (by kernel_rfl) (by kernel_rfl) (by kernel_rfl) (by kernel_rfl)) ?_
 intro W base args ds gs before hval0 hW hcnd _
 have hval : ∀ (j : Nat) t v, Tryz.f4.params[j]? = some t → args[j]? = some v → Value.okWide Tryz.prog W .any base t v := hval0
 have hW' := hW
 obtain ⟨p, q, hA0, hV, rfl, hfz, hnd⟩ := hW
 have hA : DataW.TrodAll enc Tryz.prog W 0 (fun _ => true) true Tryz.f4.params.toList args.toList ds p := hA0
 rw [Tryz.params4] at hA hval
 obtain ⟨v0, vs0, d0, ds0, p0, q0, hargs, rfl, rfl, h0, r0⟩ := trodAll_cons hA
 obtain ⟨v1, vs1, d1, ds1, p1, q1, rfl, rfl, rfl, h1, r1⟩ := trodAll_cons r0
 obtain ⟨rfl, rfl, rfl⟩ := trodAll_nil r1
 obtain rfl : args = #[v0, v1] := by cases args; simp_all
 obtain ⟨rfl, rfl⟩ := trodVars_none hV
 obtain ⟨cs0, rfl, hsz0⟩ := okWide_struct Tryz.underlying27 (hval 0 27 v0 rfl rfl)
 have k0 := h0
 have lt0 : ∀ x ∈ p0, x.block < W.heap.size := by obtain ⟨m, hm⟩ := k0; exact DataW.trod_lt m _ _ _ hm
 obtain ⟨x0, w0⟩ : ∃ a, tNet.R W W.heap.size cs0.toList a := by
  obtain ⟨fuel, hf⟩ := h0
  exact frR_Net fuel _ _ (by simpa [Value.cells] using hf)
 obtain ⟨a1, rfl, rfl, rfl, w1⟩ := open_int Tryz.underlying3 (hval 1 3 v1 rfl rfl) h1
 clear hA0 hval0
 refine (walk cs0 x0 a1 W w0 w1).mono fun e W' ⟨he, bel⟩ => ?_
 subst he
 exact ⟨_, rfl, _, _, _, [], _, [], hW', trodAll_mk1 (shut_bool Tryz.underlying4 _), (trodAll_cons_mk (Below.trod laidOut (by kernel_rfl) (of_decide_eq_true (by kernel_rfl)) k0 bel lt0) (trodAll_cons_mk (shut_int Tryz.underlying3 w1) trodAll_mk0)), rfl, bel.frame _, fun h => by cases h⟩

theorem over : Rows.fnExactTwiceRow.holds Tryz.pinned (OpenSpec.ofChange Rows.fnExactTwiceSpec) :=
 OpenClaim.holds_of_wide 4 Tryz.f4 rfl rfl rfl rfl rfl rfl rfl ⟨rfl, rfl, rfl, rfl, rfl⟩ rfl rfl rfl rfl rfl named_fnExactTwice Tryz.func4 closed_fnExactTwice
  (of_decide_eq_true (by kernel_rfl)) (by unfold Func.isWrapper; first | (rw [if_pos (by decide +kernel)]; kernel_rfl) | (rw [if_neg (by decide +kernel)]; exact ⟨rfl, rfl⟩))
  (fun os started H enc _ => lifted os started H enc)

theorem proved : Rows.FnExactTwiceSaid := over
#print axioms proved
end Go.Proofs.YtkdanlnhdgcplaaGreat.fnExactTwice
