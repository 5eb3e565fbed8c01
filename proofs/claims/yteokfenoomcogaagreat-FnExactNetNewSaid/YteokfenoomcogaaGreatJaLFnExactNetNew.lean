/-
  For every argument (in all at most 2^20 elements) the program's NetNew answers as its model does, in every field, writes into no argument, and its answer owns its memory. No further condition.
-/
import Derived.Test.YteokfenoomcogaaGreatCloFnExactNetNew
import Derived.Test.YteokfenoomcogaaGreatJaMPNn
import Derived.Test.YteokfenoomcogaaGreatKGa
import Derived.Test.YteokfenoomcogaaGreatKGc
import Derived.Test.YteokfenoomcogaaGreatKGd
import Derived.Test.YteokfenoomcogaaGreatKGf
import Derived.Test.YteokfenoomcogaaGreatKGg
import Derived.Test.YteokfenoomcogaaGreatKGh
import Derived.Test.YteokfenoomcogaaGreatKGj
import Derived.Test.YteokfenoomcogaaGreatKGk
import Derived.Test.YteokfenoomcogaaGreatKGl
import Derived.Test.YteokfenoomcogaaGreatKMFr
import Derived.Test.YteokfenoomcogaaGreatRows
import Derived.Below
import Derived.BigQuiet
import Derived.ChangeArms
import Derived.ChangeOld
import Derived.ChangeSlices
import Derived.Deep.Draws
import Derived.Deep.OwnRows
import Derived.Deep.QuietTactic
import Derived.Deep.RegionHeld3
import Derived.Deep.Slices
import Derived.Laws.MakeOwn
import Derived.Lib.Hide
import Derived.Maps.AppendAt
import Derived.OpenShut
import Derived.Outline
import Derived.ProofKit
import Derived.ShutString
import Derived.WalkKit
namespace Go.Proofs.YteokfenoomcogaaGreat.fnExactNetNew
open Go.ChangeShapes Go.WideShapes Go.ChangeAt Go.RowKit
open Go.ChangeMaps (open_string shut_string)
set_option linter.unusedVariables false

open Go.Proofs.YteokfenoomcogaaGreat
theorem own : ownKnob Tryz.prog.godebug = none := by kernel_rfl
theorem laidOut : laidOutB Tryz.prog = true := by kernel_rfl



/-! ### STEP 1: the walk -/
set_option maxRecDepth 100000 in
set_option maxHeartbeats 2000000 in
theorem walk (a0 : Int) (w : World) (w0 : (Lit.int .i64 a0).wf = true) :
    Calls Tryz.prog 11 #[.int .i64 a0] w fun e w' => e = .returned (.bool true) ∧ Below w.heap.size w w' := by
  have rg0 := i64_rg w0
  have hzr0 : szNet (fNn a0) ≤ 1048576 := (by have := fNn_sz a0; omega)
  have hcr0 := cntNet_le (fNn a0)
  obtain ⟨r0, hr0⟩ : ∃ r, fNn a0 = r := ⟨_, rfl⟩
  have HR0 := Lib.hid hr0
  rw [hr0] at hzr0 hcr0
  clear hr0
  obtain ⟨r1, hr1⟩ : ∃ r, decide (0 ≤ a0 ∧ a0 ≤ 1000) = r := ⟨_, rfl⟩
  have HR1 := Lib.hid hr1
  have qr1 : (r1 != r1) = false := by simp
  clear hr1
  go_enter Tryz.func11, Tryz.ntmps11
  go_wp2_with fail
  refine (s_NetNew w0).mono ?_
  rintro e W1 ⟨css0, rfl, r_s0, hb_⟩
  rw [HR0.out] at r_s0
  rw [HR1.out]
  obtain ⟨As03, ns03, cs03, As04, ns04, cs04, As05, ns05, cs05, As06, ns06, cs06, rfl, -, -, -, -, -, -, -, -, -, -, -, -, -, -, -, -, -, -, -⟩ := openNet r_s0
  have hs1 : Below w.heap.size w W1 := bel_trans (belx) hb_
  have z1 : w.heap.size + 0 ≤ W1.heap.size := by have := hb_.size; simpa using this
  have hB1 : Below w.heap.size w W1 := hs1
  clear hb_
  go_wp2_with fail
  refine (i_NetNew w0).mono ?_
  rintro e W2 ⟨csg0, Fg0, rfl, o_g0, Ng, hb_⟩
  rw [HR0.out] at o_g0
  rw [HR1.out]
  obtain ⟨Ag03, cg03, Fg03, Ag04, cg04, Fg04, Ag05, cg05, Fg05, Ag06, cg06, Fg06, rfl, -, -, -, -, -, -, -, -, -, -, -, -, -, -, -, -⟩ := openONet o_g0
  have Ig0 : ∀ f ∈ Fg0, W1.heap.size + 1 ≤ f ∧ f < W2.heap.size := fun f hf => ⟨Nat.le_trans (by first | (simp; done) | (simp; omega)) (Ng.2 f (by simp [hf])), (tNet).lt o_g0 f hf⟩
  have Dg0 := Ng.1
  clear Ng
  have hs2 : Below W1.heap.size W1 W2 := bel_trans (belx) hb_
  have z2 : W1.heap.size + 1 ≤ W2.heap.size := by have := hb_.size; simpa using this
  have hB2 : Below w.heap.size w W2 := bel_trans hB1 hs2
  have Bs0 : Box W2 (W1.heap.size) 35 #[.int .i64 (r0.1), .int .i64 (r0.2.1), .int .i64 (r0.2.2.1), .slice As03 ns03 cs03, .slice As04 ns04 cs04, .slice As05 ns05 cs05, .slice As06 ns06 cs06] := Box.below (Box.new _ _ _) hb_ (by first | (simp; done) | (simp; omega))
  replace r_s0 := (tNet).keep r_s0 (fun b hb => hs2.block b (Nat.lt_of_lt_of_le hb (by omega)))
  have k_Bs0_0 : W2.cell? ⟨W1.heap.size, 0, none⟩ = some (.int .i64 (r0.1)) := Bs0.cell 0
  have k_Bs0_1 : W2.cell? ⟨W1.heap.size, 1, none⟩ = some (.int .i64 (r0.2.1)) := Bs0.cell 1
  have k_Bs0_2 : W2.cell? ⟨W1.heap.size, 2, none⟩ = some (.int .i64 (r0.2.2.1)) := Bs0.cell 2
  have k_Bs0_3 : W2.cell? ⟨W1.heap.size, 3, none⟩ = some (.slice As03 ns03 cs03) := Bs0.cell 3
  have k_Bs0_4 : W2.cell? ⟨W1.heap.size, 4, none⟩ = some (.slice As04 ns04 cs04) := Bs0.cell 4
  have k_Bs0_5 : W2.cell? ⟨W1.heap.size, 5, none⟩ = some (.slice As05 ns05 cs05) := Bs0.cell 5
  have k_Bs0_6 : W2.cell? ⟨W1.heap.size, 6, none⟩ = some (.slice As06 ns06 cs06) := Bs0.cell 6
  clear hb_
  have d_Bs0_0 : (W2.alloc (.cells #[.int .i64 (r0.1), .int .i64 (r0.2.1), .int .i64 (r0.2.2.1), .slice Ag03 (r0.2.2.2.1).length cg03, .slice Ag04 (r0.2.2.2.2.1).length cg04, .slice Ag05 (r0.2.2.2.2.2.1).length cg05, .slice Ag06 (r0.2.2.2.2.2.2).length cg06] 35)).cell? ⟨W1.heap.size, 0, none⟩ = some (.int .i64 (r0.1)) := (Bs0.alloc _).cell 0
  have d_Bs0_1 : (W2.alloc (.cells #[.int .i64 (r0.1), .int .i64 (r0.2.1), .int .i64 (r0.2.2.1), .slice Ag03 (r0.2.2.2.1).length cg03, .slice Ag04 (r0.2.2.2.2.1).length cg04, .slice Ag05 (r0.2.2.2.2.2.1).length cg05, .slice Ag06 (r0.2.2.2.2.2.2).length cg06] 35)).cell? ⟨W1.heap.size, 1, none⟩ = some (.int .i64 (r0.2.1)) := (Bs0.alloc _).cell 1
  have d_Bs0_2 : (W2.alloc (.cells #[.int .i64 (r0.1), .int .i64 (r0.2.1), .int .i64 (r0.2.2.1), .slice Ag03 (r0.2.2.2.1).length cg03, .slice Ag04 (r0.2.2.2.2.1).length cg04, .slice Ag05 (r0.2.2.2.2.2.1).length cg05, .slice Ag06 (r0.2.2.2.2.2.2).length cg06] 35)).cell? ⟨W1.heap.size, 2, none⟩ = some (.int .i64 (r0.2.2.1)) := (Bs0.alloc _).cell 2
  have d_Bs0_3 : (W2.alloc (.cells #[.int .i64 (r0.1), .int .i64 (r0.2.1), .int .i64 (r0.2.2.1), .slice Ag03 (r0.2.2.2.1).length cg03, .slice Ag04 (r0.2.2.2.2.1).length cg04, .slice Ag05 (r0.2.2.2.2.2.1).length cg05, .slice Ag06 (r0.2.2.2.2.2.2).length cg06] 35)).cell? ⟨W1.heap.size, 3, none⟩ = some (.slice As03 ns03 cs03) := (Bs0.alloc _).cell 3
  have d_Bs0_4 : (W2.alloc (.cells #[.int .i64 (r0.1), .int .i64 (r0.2.1), .int .i64 (r0.2.2.1), .slice Ag03 (r0.2.2.2.1).length cg03, .slice Ag04 (r0.2.2.2.2.1).length cg04, .slice Ag05 (r0.2.2.2.2.2.1).length cg05, .slice Ag06 (r0.2.2.2.2.2.2).length cg06] 35)).cell? ⟨W1.heap.size, 4, none⟩ = some (.slice As04 ns04 cs04) := (Bs0.alloc _).cell 4
  have d_Bs0_5 : (W2.alloc (.cells #[.int .i64 (r0.1), .int .i64 (r0.2.1), .int .i64 (r0.2.2.1), .slice Ag03 (r0.2.2.2.1).length cg03, .slice Ag04 (r0.2.2.2.2.1).length cg04, .slice Ag05 (r0.2.2.2.2.2.1).length cg05, .slice Ag06 (r0.2.2.2.2.2.2).length cg06] 35)).cell? ⟨W1.heap.size, 5, none⟩ = some (.slice As05 ns05 cs05) := (Bs0.alloc _).cell 5
  have d_Bs0_6 : (W2.alloc (.cells #[.int .i64 (r0.1), .int .i64 (r0.2.1), .int .i64 (r0.2.2.1), .slice Ag03 (r0.2.2.2.1).length cg03, .slice Ag04 (r0.2.2.2.2.1).length cg04, .slice Ag05 (r0.2.2.2.2.2.1).length cg05, .slice Ag06 (r0.2.2.2.2.2.2).length cg06] 35)).cell? ⟨W1.heap.size, 6, none⟩ = some (.slice As06 ns06 cs06) := (Bs0.alloc _).cell 6
  go_wp2_with fail
  refine (o_eqNet ((tNet).reach ((tNet).read o_g0) ?hB) ((tNet).reach ((tNet).up r_s0 (by omega : W1.heap.size ≤ W2.heap.size)) ?hB)).mono ?_
  all_goals try (case hB => exact (belx))
  rintro e W3 ⟨rfl, hb_⟩
  clear d_Bs0_0 d_Bs0_1 d_Bs0_2 d_Bs0_3 d_Bs0_4 d_Bs0_5 d_Bs0_6
  clear k_Bs0_0 k_Bs0_1 k_Bs0_2 k_Bs0_3 k_Bs0_4 k_Bs0_5 k_Bs0_6
  have hs3 : Below W2.heap.size W2 W3 := bel_trans (belx) hb_
  have z3 : W2.heap.size + 1 ≤ W3.heap.size := by have := hb_.size; simpa using this
  have hB3 : Below w.heap.size w W3 := bel_trans hB2 hs3
  replace Bs0 := Bs0.below hs3 Bs0.size
  have Bg0 : Box W3 (W2.heap.size) 35 #[.int .i64 (r0.1), .int .i64 (r0.2.1), .int .i64 (r0.2.2.1), .slice Ag03 (r0.2.2.2.1).length cg03, .slice Ag04 (r0.2.2.2.2.1).length cg04, .slice Ag05 (r0.2.2.2.2.2.1).length cg05, .slice Ag06 (r0.2.2.2.2.2.2).length cg06] := Box.below (Box.new _ _ _) hb_ (by first | (simp; done) | (simp; omega))
  replace o_g0 := Ty.below (t := tNet) o_g0 hs3
  replace r_s0 := (tNet).keep r_s0 (fun b hb => hs3.block b (Nat.lt_of_lt_of_le hb (by omega)))
  have k_Bs0_0 : W3.cell? ⟨W1.heap.size, 0, none⟩ = some (.int .i64 (r0.1)) := Bs0.cell 0
  have k_Bs0_1 : W3.cell? ⟨W1.heap.size, 1, none⟩ = some (.int .i64 (r0.2.1)) := Bs0.cell 1
  have k_Bs0_2 : W3.cell? ⟨W1.heap.size, 2, none⟩ = some (.int .i64 (r0.2.2.1)) := Bs0.cell 2
  have k_Bs0_3 : W3.cell? ⟨W1.heap.size, 3, none⟩ = some (.slice As03 ns03 cs03) := Bs0.cell 3
  have k_Bs0_4 : W3.cell? ⟨W1.heap.size, 4, none⟩ = some (.slice As04 ns04 cs04) := Bs0.cell 4
  have k_Bs0_5 : W3.cell? ⟨W1.heap.size, 5, none⟩ = some (.slice As05 ns05 cs05) := Bs0.cell 5
  have k_Bs0_6 : W3.cell? ⟨W1.heap.size, 6, none⟩ = some (.slice As06 ns06 cs06) := Bs0.cell 6
  have k_Bg0_0 : W3.cell? ⟨W2.heap.size, 0, none⟩ = some (.int .i64 (r0.1)) := Bg0.cell 0
  have k_Bg0_1 : W3.cell? ⟨W2.heap.size, 1, none⟩ = some (.int .i64 (r0.2.1)) := Bg0.cell 1
  have k_Bg0_2 : W3.cell? ⟨W2.heap.size, 2, none⟩ = some (.int .i64 (r0.2.2.1)) := Bg0.cell 2
  have k_Bg0_3 : W3.cell? ⟨W2.heap.size, 3, none⟩ = some (.slice Ag03 (r0.2.2.2.1).length cg03) := Bg0.cell 3
  have k_Bg0_4 : W3.cell? ⟨W2.heap.size, 4, none⟩ = some (.slice Ag04 (r0.2.2.2.2.1).length cg04) := Bg0.cell 4
  have k_Bg0_5 : W3.cell? ⟨W2.heap.size, 5, none⟩ = some (.slice Ag05 (r0.2.2.2.2.2.1).length cg05) := Bg0.cell 5
  have k_Bg0_6 : W3.cell? ⟨W2.heap.size, 6, none⟩ = some (.slice Ag06 (r0.2.2.2.2.2.2).length cg06) := Bg0.cell 6
  clear hb_
  go_wp2_with fail
  refine (o_markNet (1) o_g0 Dg0 (by omega) (by omega)).mono ?_
  rintro e W4 ⟨rfl, om_, hG_⟩
  clear k_Bs0_0 k_Bs0_1 k_Bs0_2 k_Bs0_3 k_Bs0_4 k_Bs0_5 k_Bs0_6
  clear k_Bg0_0 k_Bg0_1 k_Bg0_2 k_Bg0_3 k_Bg0_4 k_Bg0_5 k_Bg0_6
  replace o_g0 := om_
  clear om_
  have z4 : W3.heap.size + 0 ≤ W4.heap.size := hG_.size
  have hB4 : Below w.heap.size w W4 := hB3.trans (hG_.below (fun f hf => by have := Ig0 f hf; omega) (by have := hB3.size; omega))
  replace Bs0 := Bs0.same (hG_.block _ Bs0.size (fun hx => by have := Ig0 _ hx; omega))
  replace Bg0 := Bg0.same (hG_.block _ Bg0.size (fun hx => by have := Ig0 _ hx; omega))
  replace r_s0 := (tNet).keep r_s0 (fun b hb => hG_.block b (Nat.lt_of_lt_of_le hb (by omega)) (fun hx => by have := Ig0 b hx; omega))
  have k_Bs0_0 : W4.cell? ⟨W1.heap.size, 0, none⟩ = some (.int .i64 (r0.1)) := Bs0.cell 0
  have k_Bs0_1 : W4.cell? ⟨W1.heap.size, 1, none⟩ = some (.int .i64 (r0.2.1)) := Bs0.cell 1
  have k_Bs0_2 : W4.cell? ⟨W1.heap.size, 2, none⟩ = some (.int .i64 (r0.2.2.1)) := Bs0.cell 2
  have k_Bs0_3 : W4.cell? ⟨W1.heap.size, 3, none⟩ = some (.slice As03 ns03 cs03) := Bs0.cell 3
  have k_Bs0_4 : W4.cell? ⟨W1.heap.size, 4, none⟩ = some (.slice As04 ns04 cs04) := Bs0.cell 4
  have k_Bs0_5 : W4.cell? ⟨W1.heap.size, 5, none⟩ = some (.slice As05 ns05 cs05) := Bs0.cell 5
  have k_Bs0_6 : W4.cell? ⟨W1.heap.size, 6, none⟩ = some (.slice As06 ns06 cs06) := Bs0.cell 6
  have k_Bg0_0 : W4.cell? ⟨W2.heap.size, 0, none⟩ = some (.int .i64 (r0.1)) := Bg0.cell 0
  have k_Bg0_1 : W4.cell? ⟨W2.heap.size, 1, none⟩ = some (.int .i64 (r0.2.1)) := Bg0.cell 1
  have k_Bg0_2 : W4.cell? ⟨W2.heap.size, 2, none⟩ = some (.int .i64 (r0.2.2.1)) := Bg0.cell 2
  have k_Bg0_3 : W4.cell? ⟨W2.heap.size, 3, none⟩ = some (.slice Ag03 (r0.2.2.2.1).length cg03) := Bg0.cell 3
  have k_Bg0_4 : W4.cell? ⟨W2.heap.size, 4, none⟩ = some (.slice Ag04 (r0.2.2.2.2.1).length cg04) := Bg0.cell 4
  have k_Bg0_5 : W4.cell? ⟨W2.heap.size, 5, none⟩ = some (.slice Ag05 (r0.2.2.2.2.2.1).length cg05) := Bg0.cell 5
  have k_Bg0_6 : W4.cell? ⟨W2.heap.size, 6, none⟩ = some (.slice Ag06 (r0.2.2.2.2.2.2).length cg06) := Bg0.cell 6
  clear hG_
  have dm : (((1 + ((cntNet (r0) : Nat) : Int) : Int)) != (1 + ((cntNet (r0) : Nat) : Int))) = false := by simp
  have dh0 : decide ((1 + ((cntNet (r0) : Nat) : Int) : Int) < 0) = false := by simp; omega
  go_wp2_with fail
  refine (o_heldNet (1) ((tNet).reach ((tNet).read o_g0) ?hB) (by omega) (by omega)).mono ?_
  all_goals try (case hB => exact (belx))
  rintro e W5 ⟨rfl, hb_⟩
  clear k_Bs0_0 k_Bs0_1 k_Bs0_2 k_Bs0_3 k_Bs0_4 k_Bs0_5 k_Bs0_6
  clear k_Bg0_0 k_Bg0_1 k_Bg0_2 k_Bg0_3 k_Bg0_4 k_Bg0_5 k_Bg0_6
  have hs5 : Below W4.heap.size W4 W5 := bel_trans (belx) hb_
  have z5 : W4.heap.size + 0 ≤ W5.heap.size := by have := hb_.size; simpa using this
  have hB5 : Below w.heap.size w W5 := bel_trans hB4 hs5
  replace Bs0 := Bs0.below hs5 Bs0.size
  replace Bg0 := Bg0.below hs5 Bg0.size
  replace o_g0 := Ty.below (t := tNet) o_g0 hs5
  replace r_s0 := (tNet).keep r_s0 (fun b hb => hs5.block b (Nat.lt_of_lt_of_le hb (by omega)))
  have k_Bs0_0 : W5.cell? ⟨W1.heap.size, 0, none⟩ = some (.int .i64 (r0.1)) := Bs0.cell 0
  have k_Bs0_1 : W5.cell? ⟨W1.heap.size, 1, none⟩ = some (.int .i64 (r0.2.1)) := Bs0.cell 1
  have k_Bs0_2 : W5.cell? ⟨W1.heap.size, 2, none⟩ = some (.int .i64 (r0.2.2.1)) := Bs0.cell 2
  have k_Bs0_3 : W5.cell? ⟨W1.heap.size, 3, none⟩ = some (.slice As03 ns03 cs03) := Bs0.cell 3
  have k_Bs0_4 : W5.cell? ⟨W1.heap.size, 4, none⟩ = some (.slice As04 ns04 cs04) := Bs0.cell 4
  have k_Bs0_5 : W5.cell? ⟨W1.heap.size, 5, none⟩ = some (.slice As05 ns05 cs05) := Bs0.cell 5
  have k_Bs0_6 : W5.cell? ⟨W1.heap.size, 6, none⟩ = some (.slice As06 ns06 cs06) := Bs0.cell 6
  have k_Bg0_0 : W5.cell? ⟨W2.heap.size, 0, none⟩ = some (.int .i64 (r0.1)) := Bg0.cell 0
  have k_Bg0_1 : W5.cell? ⟨W2.heap.size, 1, none⟩ = some (.int .i64 (r0.2.1)) := Bg0.cell 1
  have k_Bg0_2 : W5.cell? ⟨W2.heap.size, 2, none⟩ = some (.int .i64 (r0.2.2.1)) := Bg0.cell 2
  have k_Bg0_3 : W5.cell? ⟨W2.heap.size, 3, none⟩ = some (.slice Ag03 (r0.2.2.2.1).length cg03) := Bg0.cell 3
  have k_Bg0_4 : W5.cell? ⟨W2.heap.size, 4, none⟩ = some (.slice Ag04 (r0.2.2.2.2.1).length cg04) := Bg0.cell 4
  have k_Bg0_5 : W5.cell? ⟨W2.heap.size, 5, none⟩ = some (.slice Ag05 (r0.2.2.2.2.2.1).length cg05) := Bg0.cell 5
  have k_Bg0_6 : W5.cell? ⟨W2.heap.size, 6, none⟩ = some (.slice Ag06 (r0.2.2.2.2.2.2).length cg06) := Bg0.cell 6
  clear hb_
  go_wp2_with fail
  refine (i_NetNew w0).mono ?_
  rintro e W6 ⟨csh0, Fh0, rfl, o_h0, Nh, hb_⟩
  clear k_Bs0_0 k_Bs0_1 k_Bs0_2 k_Bs0_3 k_Bs0_4 k_Bs0_5 k_Bs0_6
  clear k_Bg0_0 k_Bg0_1 k_Bg0_2 k_Bg0_3 k_Bg0_4 k_Bg0_5 k_Bg0_6
  rw [HR0.out] at o_h0
  rw [HR1.out]
  obtain ⟨Ah03, ch03, Fh03, Ah04, ch04, Fh04, Ah05, ch05, Fh05, Ah06, ch06, Fh06, rfl, -, -, -, -, -, -, -, -, -, -, -, -, -, -, -, -⟩ := openONet o_h0
  have Ih0 : ∀ f ∈ Fh0, W5.heap.size + 0 ≤ f ∧ f < W6.heap.size := fun f hf => ⟨Nat.le_trans (by first | (simp; done) | (simp; omega)) (Nh.2 f (by simp [hf])), (tNet).lt o_h0 f hf⟩
  have Dh0 := Nh.1
  clear Nh
  have hs6 : Below W5.heap.size W5 W6 := bel_trans (belx) hb_
  have z6 : W5.heap.size + 0 ≤ W6.heap.size := by have := hb_.size; simpa using this
  have hB6 : Below w.heap.size w W6 := bel_trans hB5 hs6
  replace Bs0 := Bs0.below hs6 Bs0.size
  replace Bg0 := Bg0.below hs6 Bg0.size
  replace o_g0 := Ty.below (t := tNet) o_g0 hs6
  replace r_s0 := (tNet).keep r_s0 (fun b hb => hs6.block b (Nat.lt_of_lt_of_le hb (by omega)))
  have k_Bs0_0 : W6.cell? ⟨W1.heap.size, 0, none⟩ = some (.int .i64 (r0.1)) := Bs0.cell 0
  have k_Bs0_1 : W6.cell? ⟨W1.heap.size, 1, none⟩ = some (.int .i64 (r0.2.1)) := Bs0.cell 1
  have k_Bs0_2 : W6.cell? ⟨W1.heap.size, 2, none⟩ = some (.int .i64 (r0.2.2.1)) := Bs0.cell 2
  have k_Bs0_3 : W6.cell? ⟨W1.heap.size, 3, none⟩ = some (.slice As03 ns03 cs03) := Bs0.cell 3
  have k_Bs0_4 : W6.cell? ⟨W1.heap.size, 4, none⟩ = some (.slice As04 ns04 cs04) := Bs0.cell 4
  have k_Bs0_5 : W6.cell? ⟨W1.heap.size, 5, none⟩ = some (.slice As05 ns05 cs05) := Bs0.cell 5
  have k_Bs0_6 : W6.cell? ⟨W1.heap.size, 6, none⟩ = some (.slice As06 ns06 cs06) := Bs0.cell 6
  have k_Bg0_0 : W6.cell? ⟨W2.heap.size, 0, none⟩ = some (.int .i64 (r0.1)) := Bg0.cell 0
  have k_Bg0_1 : W6.cell? ⟨W2.heap.size, 1, none⟩ = some (.int .i64 (r0.2.1)) := Bg0.cell 1
  have k_Bg0_2 : W6.cell? ⟨W2.heap.size, 2, none⟩ = some (.int .i64 (r0.2.2.1)) := Bg0.cell 2
  have k_Bg0_3 : W6.cell? ⟨W2.heap.size, 3, none⟩ = some (.slice Ag03 (r0.2.2.2.1).length cg03) := Bg0.cell 3
  have k_Bg0_4 : W6.cell? ⟨W2.heap.size, 4, none⟩ = some (.slice Ag04 (r0.2.2.2.2.1).length cg04) := Bg0.cell 4
  have k_Bg0_5 : W6.cell? ⟨W2.heap.size, 5, none⟩ = some (.slice Ag05 (r0.2.2.2.2.2.1).length cg05) := Bg0.cell 5
  have k_Bg0_6 : W6.cell? ⟨W2.heap.size, 6, none⟩ = some (.slice Ag06 (r0.2.2.2.2.2.2).length cg06) := Bg0.cell 6
  clear hb_
  have d_Bs0_0 : (W6.alloc (.cells #[.int .i64 (r0.1), .int .i64 (r0.2.1), .int .i64 (r0.2.2.1), .slice Ah03 (r0.2.2.2.1).length ch03, .slice Ah04 (r0.2.2.2.2.1).length ch04, .slice Ah05 (r0.2.2.2.2.2.1).length ch05, .slice Ah06 (r0.2.2.2.2.2.2).length ch06] 35)).cell? ⟨W1.heap.size, 0, none⟩ = some (.int .i64 (r0.1)) := (Bs0.alloc _).cell 0
  have d_Bs0_1 : (W6.alloc (.cells #[.int .i64 (r0.1), .int .i64 (r0.2.1), .int .i64 (r0.2.2.1), .slice Ah03 (r0.2.2.2.1).length ch03, .slice Ah04 (r0.2.2.2.2.1).length ch04, .slice Ah05 (r0.2.2.2.2.2.1).length ch05, .slice Ah06 (r0.2.2.2.2.2.2).length ch06] 35)).cell? ⟨W1.heap.size, 1, none⟩ = some (.int .i64 (r0.2.1)) := (Bs0.alloc _).cell 1
  have d_Bs0_2 : (W6.alloc (.cells #[.int .i64 (r0.1), .int .i64 (r0.2.1), .int .i64 (r0.2.2.1), .slice Ah03 (r0.2.2.2.1).length ch03, .slice Ah04 (r0.2.2.2.2.1).length ch04, .slice Ah05 (r0.2.2.2.2.2.1).length ch05, .slice Ah06 (r0.2.2.2.2.2.2).length ch06] 35)).cell? ⟨W1.heap.size, 2, none⟩ = some (.int .i64 (r0.2.2.1)) := (Bs0.alloc _).cell 2
  have d_Bs0_3 : (W6.alloc (.cells #[.int .i64 (r0.1), .int .i64 (r0.2.1), .int .i64 (r0.2.2.1), .slice Ah03 (r0.2.2.2.1).length ch03, .slice Ah04 (r0.2.2.2.2.1).length ch04, .slice Ah05 (r0.2.2.2.2.2.1).length ch05, .slice Ah06 (r0.2.2.2.2.2.2).length ch06] 35)).cell? ⟨W1.heap.size, 3, none⟩ = some (.slice As03 ns03 cs03) := (Bs0.alloc _).cell 3
  have d_Bs0_4 : (W6.alloc (.cells #[.int .i64 (r0.1), .int .i64 (r0.2.1), .int .i64 (r0.2.2.1), .slice Ah03 (r0.2.2.2.1).length ch03, .slice Ah04 (r0.2.2.2.2.1).length ch04, .slice Ah05 (r0.2.2.2.2.2.1).length ch05, .slice Ah06 (r0.2.2.2.2.2.2).length ch06] 35)).cell? ⟨W1.heap.size, 4, none⟩ = some (.slice As04 ns04 cs04) := (Bs0.alloc _).cell 4
  have d_Bs0_5 : (W6.alloc (.cells #[.int .i64 (r0.1), .int .i64 (r0.2.1), .int .i64 (r0.2.2.1), .slice Ah03 (r0.2.2.2.1).length ch03, .slice Ah04 (r0.2.2.2.2.1).length ch04, .slice Ah05 (r0.2.2.2.2.2.1).length ch05, .slice Ah06 (r0.2.2.2.2.2.2).length ch06] 35)).cell? ⟨W1.heap.size, 5, none⟩ = some (.slice As05 ns05 cs05) := (Bs0.alloc _).cell 5
  have d_Bs0_6 : (W6.alloc (.cells #[.int .i64 (r0.1), .int .i64 (r0.2.1), .int .i64 (r0.2.2.1), .slice Ah03 (r0.2.2.2.1).length ch03, .slice Ah04 (r0.2.2.2.2.1).length ch04, .slice Ah05 (r0.2.2.2.2.2.1).length ch05, .slice Ah06 (r0.2.2.2.2.2.2).length ch06] 35)).cell? ⟨W1.heap.size, 6, none⟩ = some (.slice As06 ns06 cs06) := (Bs0.alloc _).cell 6
  have d_Bg0_0 : (W6.alloc (.cells #[.int .i64 (r0.1), .int .i64 (r0.2.1), .int .i64 (r0.2.2.1), .slice Ah03 (r0.2.2.2.1).length ch03, .slice Ah04 (r0.2.2.2.2.1).length ch04, .slice Ah05 (r0.2.2.2.2.2.1).length ch05, .slice Ah06 (r0.2.2.2.2.2.2).length ch06] 35)).cell? ⟨W2.heap.size, 0, none⟩ = some (.int .i64 (r0.1)) := (Bg0.alloc _).cell 0
  have d_Bg0_1 : (W6.alloc (.cells #[.int .i64 (r0.1), .int .i64 (r0.2.1), .int .i64 (r0.2.2.1), .slice Ah03 (r0.2.2.2.1).length ch03, .slice Ah04 (r0.2.2.2.2.1).length ch04, .slice Ah05 (r0.2.2.2.2.2.1).length ch05, .slice Ah06 (r0.2.2.2.2.2.2).length ch06] 35)).cell? ⟨W2.heap.size, 1, none⟩ = some (.int .i64 (r0.2.1)) := (Bg0.alloc _).cell 1
  have d_Bg0_2 : (W6.alloc (.cells #[.int .i64 (r0.1), .int .i64 (r0.2.1), .int .i64 (r0.2.2.1), .slice Ah03 (r0.2.2.2.1).length ch03, .slice Ah04 (r0.2.2.2.2.1).length ch04, .slice Ah05 (r0.2.2.2.2.2.1).length ch05, .slice Ah06 (r0.2.2.2.2.2.2).length ch06] 35)).cell? ⟨W2.heap.size, 2, none⟩ = some (.int .i64 (r0.2.2.1)) := (Bg0.alloc _).cell 2
  have d_Bg0_3 : (W6.alloc (.cells #[.int .i64 (r0.1), .int .i64 (r0.2.1), .int .i64 (r0.2.2.1), .slice Ah03 (r0.2.2.2.1).length ch03, .slice Ah04 (r0.2.2.2.2.1).length ch04, .slice Ah05 (r0.2.2.2.2.2.1).length ch05, .slice Ah06 (r0.2.2.2.2.2.2).length ch06] 35)).cell? ⟨W2.heap.size, 3, none⟩ = some (.slice Ag03 (r0.2.2.2.1).length cg03) := (Bg0.alloc _).cell 3
  have d_Bg0_4 : (W6.alloc (.cells #[.int .i64 (r0.1), .int .i64 (r0.2.1), .int .i64 (r0.2.2.1), .slice Ah03 (r0.2.2.2.1).length ch03, .slice Ah04 (r0.2.2.2.2.1).length ch04, .slice Ah05 (r0.2.2.2.2.2.1).length ch05, .slice Ah06 (r0.2.2.2.2.2.2).length ch06] 35)).cell? ⟨W2.heap.size, 4, none⟩ = some (.slice Ag04 (r0.2.2.2.2.1).length cg04) := (Bg0.alloc _).cell 4
  have d_Bg0_5 : (W6.alloc (.cells #[.int .i64 (r0.1), .int .i64 (r0.2.1), .int .i64 (r0.2.2.1), .slice Ah03 (r0.2.2.2.1).length ch03, .slice Ah04 (r0.2.2.2.2.1).length ch04, .slice Ah05 (r0.2.2.2.2.2.1).length ch05, .slice Ah06 (r0.2.2.2.2.2.2).length ch06] 35)).cell? ⟨W2.heap.size, 5, none⟩ = some (.slice Ag05 (r0.2.2.2.2.2.1).length cg05) := (Bg0.alloc _).cell 5
  have d_Bg0_6 : (W6.alloc (.cells #[.int .i64 (r0.1), .int .i64 (r0.2.1), .int .i64 (r0.2.2.1), .slice Ah03 (r0.2.2.2.1).length ch03, .slice Ah04 (r0.2.2.2.2.1).length ch04, .slice Ah05 (r0.2.2.2.2.2.1).length ch05, .slice Ah06 (r0.2.2.2.2.2.2).length ch06] 35)).cell? ⟨W2.heap.size, 6, none⟩ = some (.slice Ag06 (r0.2.2.2.2.2.2).length cg06) := (Bg0.alloc _).cell 6
  go_wp2_with fail
  refine (o_eqNet ((tNet).reach ((tNet).read o_h0) ?hB) ((tNet).reach ((tNet).up r_s0 (by omega : W1.heap.size ≤ W6.heap.size)) ?hB)).mono ?_
  all_goals try (case hB => exact (belx))
  rintro e W7 ⟨rfl, hb_⟩
  clear d_Bs0_0 d_Bs0_1 d_Bs0_2 d_Bs0_3 d_Bs0_4 d_Bs0_5 d_Bs0_6 d_Bg0_0 d_Bg0_1 d_Bg0_2 d_Bg0_3 d_Bg0_4 d_Bg0_5 d_Bg0_6
  clear k_Bs0_0 k_Bs0_1 k_Bs0_2 k_Bs0_3 k_Bs0_4 k_Bs0_5 k_Bs0_6
  clear k_Bg0_0 k_Bg0_1 k_Bg0_2 k_Bg0_3 k_Bg0_4 k_Bg0_5 k_Bg0_6
  have hs7 : Below W6.heap.size W6 W7 := bel_trans (belx) hb_
  have z7 : W6.heap.size + 1 ≤ W7.heap.size := by have := hb_.size; simpa using this
  have hB7 : Below w.heap.size w W7 := bel_trans hB6 hs7
  replace Bs0 := Bs0.below hs7 Bs0.size
  replace Bg0 := Bg0.below hs7 Bg0.size
  have Bh0 : Box W7 (W6.heap.size) 35 #[.int .i64 (r0.1), .int .i64 (r0.2.1), .int .i64 (r0.2.2.1), .slice Ah03 (r0.2.2.2.1).length ch03, .slice Ah04 (r0.2.2.2.2.1).length ch04, .slice Ah05 (r0.2.2.2.2.2.1).length ch05, .slice Ah06 (r0.2.2.2.2.2.2).length ch06] := Box.below (Box.new _ _ _) hb_ (by first | (simp; done) | (simp; omega))
  replace o_g0 := Ty.below (t := tNet) o_g0 hs7
  replace o_h0 := Ty.below (t := tNet) o_h0 hs7
  replace r_s0 := (tNet).keep r_s0 (fun b hb => hs7.block b (Nat.lt_of_lt_of_le hb (by omega)))
  have k_Bs0_0 : W7.cell? ⟨W1.heap.size, 0, none⟩ = some (.int .i64 (r0.1)) := Bs0.cell 0
  have k_Bs0_1 : W7.cell? ⟨W1.heap.size, 1, none⟩ = some (.int .i64 (r0.2.1)) := Bs0.cell 1
  have k_Bs0_2 : W7.cell? ⟨W1.heap.size, 2, none⟩ = some (.int .i64 (r0.2.2.1)) := Bs0.cell 2
  have k_Bs0_3 : W7.cell? ⟨W1.heap.size, 3, none⟩ = some (.slice As03 ns03 cs03) := Bs0.cell 3
  have k_Bs0_4 : W7.cell? ⟨W1.heap.size, 4, none⟩ = some (.slice As04 ns04 cs04) := Bs0.cell 4
  have k_Bs0_5 : W7.cell? ⟨W1.heap.size, 5, none⟩ = some (.slice As05 ns05 cs05) := Bs0.cell 5
  have k_Bs0_6 : W7.cell? ⟨W1.heap.size, 6, none⟩ = some (.slice As06 ns06 cs06) := Bs0.cell 6
  have k_Bg0_0 : W7.cell? ⟨W2.heap.size, 0, none⟩ = some (.int .i64 (r0.1)) := Bg0.cell 0
  have k_Bg0_1 : W7.cell? ⟨W2.heap.size, 1, none⟩ = some (.int .i64 (r0.2.1)) := Bg0.cell 1
  have k_Bg0_2 : W7.cell? ⟨W2.heap.size, 2, none⟩ = some (.int .i64 (r0.2.2.1)) := Bg0.cell 2
  have k_Bg0_3 : W7.cell? ⟨W2.heap.size, 3, none⟩ = some (.slice Ag03 (r0.2.2.2.1).length cg03) := Bg0.cell 3
  have k_Bg0_4 : W7.cell? ⟨W2.heap.size, 4, none⟩ = some (.slice Ag04 (r0.2.2.2.2.1).length cg04) := Bg0.cell 4
  have k_Bg0_5 : W7.cell? ⟨W2.heap.size, 5, none⟩ = some (.slice Ag05 (r0.2.2.2.2.2.1).length cg05) := Bg0.cell 5
  have k_Bg0_6 : W7.cell? ⟨W2.heap.size, 6, none⟩ = some (.slice Ag06 (r0.2.2.2.2.2.2).length cg06) := Bg0.cell 6
  have k_Bh0_0 : W7.cell? ⟨W6.heap.size, 0, none⟩ = some (.int .i64 (r0.1)) := Bh0.cell 0
  have k_Bh0_1 : W7.cell? ⟨W6.heap.size, 1, none⟩ = some (.int .i64 (r0.2.1)) := Bh0.cell 1
  have k_Bh0_2 : W7.cell? ⟨W6.heap.size, 2, none⟩ = some (.int .i64 (r0.2.2.1)) := Bh0.cell 2
  have k_Bh0_3 : W7.cell? ⟨W6.heap.size, 3, none⟩ = some (.slice Ah03 (r0.2.2.2.1).length ch03) := Bh0.cell 3
  have k_Bh0_4 : W7.cell? ⟨W6.heap.size, 4, none⟩ = some (.slice Ah04 (r0.2.2.2.2.1).length ch04) := Bh0.cell 4
  have k_Bh0_5 : W7.cell? ⟨W6.heap.size, 5, none⟩ = some (.slice Ah05 (r0.2.2.2.2.2.1).length ch05) := Bh0.cell 5
  have k_Bh0_6 : W7.cell? ⟨W6.heap.size, 6, none⟩ = some (.slice Ah06 (r0.2.2.2.2.2.2).length ch06) := Bh0.cell 6
  clear hb_
  go_wp2_with fail
  refine (o_heldNet (1) ((tNet).reach ((tNet).read o_g0) ?hB) (by omega) (by omega)).mono ?_
  all_goals try (case hB => exact (belx))
  rintro e W8 ⟨rfl, hb_⟩
  clear k_Bs0_0 k_Bs0_1 k_Bs0_2 k_Bs0_3 k_Bs0_4 k_Bs0_5 k_Bs0_6
  clear k_Bg0_0 k_Bg0_1 k_Bg0_2 k_Bg0_3 k_Bg0_4 k_Bg0_5 k_Bg0_6
  clear k_Bh0_0 k_Bh0_1 k_Bh0_2 k_Bh0_3 k_Bh0_4 k_Bh0_5 k_Bh0_6
  have hs8 : Below W7.heap.size W7 W8 := bel_trans (belx) hb_
  have z8 : W7.heap.size + 0 ≤ W8.heap.size := by have := hb_.size; simpa using this
  have hB8 : Below w.heap.size w W8 := bel_trans hB7 hs8
  replace Bs0 := Bs0.below hs8 Bs0.size
  replace Bg0 := Bg0.below hs8 Bg0.size
  replace Bh0 := Bh0.below hs8 Bh0.size
  replace o_g0 := Ty.below (t := tNet) o_g0 hs8
  replace o_h0 := Ty.below (t := tNet) o_h0 hs8
  replace r_s0 := (tNet).keep r_s0 (fun b hb => hs8.block b (Nat.lt_of_lt_of_le hb (by omega)))
  have k_Bs0_0 : W8.cell? ⟨W1.heap.size, 0, none⟩ = some (.int .i64 (r0.1)) := Bs0.cell 0
  have k_Bs0_1 : W8.cell? ⟨W1.heap.size, 1, none⟩ = some (.int .i64 (r0.2.1)) := Bs0.cell 1
  have k_Bs0_2 : W8.cell? ⟨W1.heap.size, 2, none⟩ = some (.int .i64 (r0.2.2.1)) := Bs0.cell 2
  have k_Bs0_3 : W8.cell? ⟨W1.heap.size, 3, none⟩ = some (.slice As03 ns03 cs03) := Bs0.cell 3
  have k_Bs0_4 : W8.cell? ⟨W1.heap.size, 4, none⟩ = some (.slice As04 ns04 cs04) := Bs0.cell 4
  have k_Bs0_5 : W8.cell? ⟨W1.heap.size, 5, none⟩ = some (.slice As05 ns05 cs05) := Bs0.cell 5
  have k_Bs0_6 : W8.cell? ⟨W1.heap.size, 6, none⟩ = some (.slice As06 ns06 cs06) := Bs0.cell 6
  have k_Bg0_0 : W8.cell? ⟨W2.heap.size, 0, none⟩ = some (.int .i64 (r0.1)) := Bg0.cell 0
  have k_Bg0_1 : W8.cell? ⟨W2.heap.size, 1, none⟩ = some (.int .i64 (r0.2.1)) := Bg0.cell 1
  have k_Bg0_2 : W8.cell? ⟨W2.heap.size, 2, none⟩ = some (.int .i64 (r0.2.2.1)) := Bg0.cell 2
  have k_Bg0_3 : W8.cell? ⟨W2.heap.size, 3, none⟩ = some (.slice Ag03 (r0.2.2.2.1).length cg03) := Bg0.cell 3
  have k_Bg0_4 : W8.cell? ⟨W2.heap.size, 4, none⟩ = some (.slice Ag04 (r0.2.2.2.2.1).length cg04) := Bg0.cell 4
  have k_Bg0_5 : W8.cell? ⟨W2.heap.size, 5, none⟩ = some (.slice Ag05 (r0.2.2.2.2.2.1).length cg05) := Bg0.cell 5
  have k_Bg0_6 : W8.cell? ⟨W2.heap.size, 6, none⟩ = some (.slice Ag06 (r0.2.2.2.2.2.2).length cg06) := Bg0.cell 6
  have k_Bh0_0 : W8.cell? ⟨W6.heap.size, 0, none⟩ = some (.int .i64 (r0.1)) := Bh0.cell 0
  have k_Bh0_1 : W8.cell? ⟨W6.heap.size, 1, none⟩ = some (.int .i64 (r0.2.1)) := Bh0.cell 1
  have k_Bh0_2 : W8.cell? ⟨W6.heap.size, 2, none⟩ = some (.int .i64 (r0.2.2.1)) := Bh0.cell 2
  have k_Bh0_3 : W8.cell? ⟨W6.heap.size, 3, none⟩ = some (.slice Ah03 (r0.2.2.2.1).length ch03) := Bh0.cell 3
  have k_Bh0_4 : W8.cell? ⟨W6.heap.size, 4, none⟩ = some (.slice Ah04 (r0.2.2.2.2.1).length ch04) := Bh0.cell 4
  have k_Bh0_5 : W8.cell? ⟨W6.heap.size, 5, none⟩ = some (.slice Ah05 (r0.2.2.2.2.2.1).length ch05) := Bh0.cell 5
  have k_Bh0_6 : W8.cell? ⟨W6.heap.size, 6, none⟩ = some (.slice Ah06 (r0.2.2.2.2.2.2).length ch06) := Bh0.cell 6
  clear hb_
  go_wp2_with fail
  go_ret
  exact ⟨rfl, hB8⟩

/-! ### THE ROW's STEP -/
set_option maxHeartbeats 400000 in
set_option maxRecDepth 100000 in
theorem lifted (os : Os) (started : os.Started) (H : Type) (enc : TypeId × Value → H) :
    ReturnsInHanded {} Tryz.checked os 11 .any (Rows.fnExactNetNewSpec.pre6 enc Tryz.prog Tryz.f11 Rows.fnExactNetNewRow.domain false) (Rows.fnExactNetNewSpec.post enc Tryz.prog Tryz.f11 false true false false) := by
  refine returnsInHanded_of_change (C := Tryz.checked) own started (by kernel_rfl) Tryz.func11
    (ChangeSpec.witness6 (enc := enc) (C := Tryz.checked) false ⟨#[], #[.int .i64 0], []⟩ 8 (by kernel_rfl) (by kernel_rfl) (by kernel_rfl) (by kernel_rfl)) ?_
  intro W base args ds gs before hval0 hW hcnd _
  have hval : ∀ (j : Nat) t v, Tryz.f11.params[j]? = some t → args[j]? = some v → Value.okWide Tryz.prog W .any base t v := hval0
  have hW' := hW
  obtain ⟨p, q, hA0, hV, rfl, hfz, hnd⟩ := hW
  have hA : DataW.TrodAll enc Tryz.prog W 0 (fun _ => true) true Tryz.f11.params.toList args.toList ds p := hA0
  rw [Tryz.params11] at hA hval
  obtain ⟨v0, vs0, d0, ds0, p0, q0, hargs, rfl, rfl, h0, r0⟩ := trodAll_cons hA
  obtain ⟨rfl, rfl, rfl⟩ := trodAll_nil r0
  obtain rfl : args = #[v0] := by cases args; simp_all
  obtain ⟨rfl, rfl⟩ := trodVars_none hV
  obtain ⟨a0, rfl, rfl, rfl, w0⟩ := open_int Tryz.underlying3 (hval 0 3 v0 rfl rfl) h0
  clear hA0 hval0
  refine (walk a0 W w0).mono fun e W' ⟨he, bel⟩ => ?_
  subst he
  exact ⟨_, rfl, _, _, _, [], _, [], hW', trodAll_mk1 (shut_bool Tryz.underlying4 _), (trodAll_cons_mk (shut_int Tryz.underlying3 w0) trodAll_mk0), rfl, bel.frame _, fun h => by cases h⟩

theorem over : Rows.fnExactNetNewRow.holds Tryz.pinned (OpenSpec.ofChange Rows.fnExactNetNewSpec) :=
  OpenClaim.holds_of_wide 11 Tryz.f11 rfl rfl rfl rfl rfl rfl rfl ⟨rfl, rfl, rfl, rfl, rfl⟩ rfl rfl rfl rfl rfl named_fnExactNetNew Tryz.func11 closed_fnExactNetNew
    (of_decide_eq_true (by kernel_rfl)) (by unfold Func.isWrapper; first | (rw [if_pos (by decide +kernel)]; kernel_rfl) | (rw [if_neg (by decide +kernel)]; exact ⟨rfl, rfl⟩))
    (fun os started H enc _ => lifted os started H enc)

theorem proved : Rows.FnExactNetNewSaid := over
#print axioms proved
end Go.Proofs.YteokfenoomcogaaGreat.fnExactNetNew
