/-
  For every argument (in all at most 2^20 elements) the program's NodeFlush answers as its model does, in every field, writes into no argument, and its answer owns its memory. No further condition.
-/
import Derived.Test.YtojbicecopkfbaaGreatCloFnExactNodeFlush
import Derived.Test.YtojbicecopkfbaaGreatFGi
import Derived.Test.YtojbicecopkfbaaGreatFGj
import Derived.Test.YtojbicecopkfbaaGreatFGk
import Derived.Test.YtojbicecopkfbaaGreatFGv
import Derived.Test.YtojbicecopkfbaaGreatFGw
import Derived.Test.YtojbicecopkfbaaGreatFMFr
import Derived.Test.YtojbicecopkfbaaGreatRows
import Derived.Below
import Derived.ChangeOld
import Derived.Deep.RegionHeld3
import Derived.OpenShut
import Derived.ProofKit
import Derived.ShutString
import Derived.WalkKit
namespace Go.Proofs.YtojbicecopkfbaaGreat.fnExactNodeFlush
open Go.ChangeShapes Go.WideShapes Go.ChangeAt Go.RowKit
open Go.ChangeMaps (open_string shut_string)
set_option linter.unusedVariables false

open Go.Proofs.YtojbicecopkfbaaGreat
theorem own : ownKnob Tryz.prog.godebug = none := by kernel_rfl
theorem laidOut : laidOutB Tryz.prog = true := by kernel_rfl



/-! ### STEP 1: the walk -/
set_option maxRecDepth 100000 in
set_option maxHeartbeats 2000000 in
theorem walk (cs0 : Array Value) (p0 : DNode) (a1 : Int) (A2 : Option Addr) (n2 c2 : Nat) (p2 : List Int) (w : World) (h0 : tNode.R w w.heap.size cs0.toList p0) (w1 : (Lit.int .i64 a1).wf = true) (h2 : (tBy).R w w.heap.size [.slice A2 n2 c2] p2) :
    Calls Tryz.prog 5 #[.agg cs0, .int .i64 a1, .slice A2 n2 c2] w fun e w' => e = .returned (.bool true) ∧ Below w.heap.size w w' := by
  obtain ⟨cs0⟩ := cs0
  replace h0 : tNode.R w w.heap.size cs0 p0 := h0
  obtain ⟨Aa02, na02, ca02, Aa03, na03, ca03, Aa04, na04, ca04, Aa05, na05, ca05, Aa06, na06, ca06, rfl, -, -, -, -, -, -, -, -, -, -, -, -, -, -, -, -, -, -, -, -, -, -⟩ := openNode h0
  have hn2 := (slR_ints h2).1.1
  have rg1 := i64_rg w1
  by_cases hz2 : (p2).length ≤ 1048576
  rotate_left
  · have q_ : (1048576 : Int) < (n2 : Int) := by omega
    go_enter Tryz.func5, Tryz.ntmps5
    go_wp2
    go_ret
    exact ⟨rfl, (belx)⟩
  have q_2 : ¬ (1048576 : Int) < (n2 : Int) := by omega
  clear hn2
  by_cases hz0 : szNode (p0) ≤ 1048576
  rotate_left
  · go_enter Tryz.func5, Tryz.ntmps5
    go_wp2_with fail
    refine (o_szNode_f ((tNode).reach h0 ?hB) (by omega) (by omega) (by omega)).mono ?_
    all_goals try (case hB => exact (belx))
    rintro e W1 ⟨rfl, hb_⟩
    have hs1 : Below w.heap.size w W1 := bel_trans (belx) hb_
    have z1 : w.heap.size + 1 ≤ W1.heap.size := by have := hb_.size; simpa using this
    have hB1 : Below w.heap.size w W1 := hs1
    have Ba0 : Box W1 (w.heap.size) 51 #[.int .i64 (p0.1), .int .i64 (p0.2.1), .slice Aa02 na02 ca02, .slice Aa03 na03 ca03, .slice Aa04 na04 ca04, .slice Aa05 na05 ca05, .slice Aa06 na06 ca06] := Box.below (Box.new _ _ _) hb_ (by first | (simp; done) | (simp; omega))
    have k_Ba0_0 : W1.cell? ⟨w.heap.size, 0, none⟩ = some (.int .i64 (p0.1)) := Ba0.cell 0
    have k_Ba0_1 : W1.cell? ⟨w.heap.size, 1, none⟩ = some (.int .i64 (p0.2.1)) := Ba0.cell 1
    have k_Ba0_2 : W1.cell? ⟨w.heap.size, 2, none⟩ = some (.slice Aa02 na02 ca02) := Ba0.cell 2
    have k_Ba0_3 : W1.cell? ⟨w.heap.size, 3, none⟩ = some (.slice Aa03 na03 ca03) := Ba0.cell 3
    have k_Ba0_4 : W1.cell? ⟨w.heap.size, 4, none⟩ = some (.slice Aa04 na04 ca04) := Ba0.cell 4
    have k_Ba0_5 : W1.cell? ⟨w.heap.size, 5, none⟩ = some (.slice Aa05 na05 ca05) := Ba0.cell 5
    have k_Ba0_6 : W1.cell? ⟨w.heap.size, 6, none⟩ = some (.slice Aa06 na06 ca06) := Ba0.cell 6
    go_wp2
    go_ret
    exact ⟨rfl, hB1⟩
  have dz0 : decide ((1048576 : Int) - ((szNode (p0) : Nat) : Int) < 0) = false := by simp; omega
  have hzr0 : szNode (fNf p0 a1 p2) ≤ 1048576 := (by have := fNf_sz p0 a1 p2; omega)
  have hcr0 := cntNode_le (fNf p0 a1 p2)
  obtain ⟨r0, hr0⟩ : ∃ r, fNf p0 a1 p2 = r := ⟨_, rfl⟩
  have HR0 := Lib.hid hr0
  rw [hr0] at hzr0 hcr0
  clear hr0
  have hzr1 : rsz szHeld (fNfL p0 a1 p2) ≤ 1048576 := (by have := fNfL_sz p0 a1 (ints_byI (slR_ints h2).1); omega)
  have hcr1 := rsum_M (c := rcHeld) (s := szHeld) (M := 5) rcHeld_le (fNfL p0 a1 p2)
  obtain ⟨r1, hr1⟩ : ∃ r, fNfL p0 a1 p2 = r := ⟨_, rfl⟩
  have HR1 := Lib.hid hr1
  rw [hr1] at hzr1 hcr1
  clear hr1
  obtain ⟨r2, hr2⟩ : ∃ r, fNfN p0 a1 p2 = r := ⟨_, rfl⟩
  have HR2 := Lib.hid hr2
  have qr2 : (r2 != r2) = false := by simp
  clear hr2
  have hcp0 := cntNode_le (p0)
  go_enter Tryz.func5, Tryz.ntmps5
  go_wp2_with fail
  refine (o_szNode_t ((tNode).reach h0 ?hB) (by omega) (by omega) (by omega)).mono ?_
  all_goals try (case hB => exact (belx))
  rintro e W1 ⟨rfl, hb_⟩
  have hs1 : Below w.heap.size w W1 := bel_trans (belx) hb_
  have z1 : w.heap.size + 1 ≤ W1.heap.size := by have := hb_.size; simpa using this
  have hB1 : Below w.heap.size w W1 := hs1
  have Ba0 : Box W1 (w.heap.size) 51 #[.int .i64 (p0.1), .int .i64 (p0.2.1), .slice Aa02 na02 ca02, .slice Aa03 na03 ca03, .slice Aa04 na04 ca04, .slice Aa05 na05 ca05, .slice Aa06 na06 ca06] := Box.below (Box.new _ _ _) hb_ (by first | (simp; done) | (simp; omega))
  have k_Ba0_0 : W1.cell? ⟨w.heap.size, 0, none⟩ = some (.int .i64 (p0.1)) := Ba0.cell 0
  have k_Ba0_1 : W1.cell? ⟨w.heap.size, 1, none⟩ = some (.int .i64 (p0.2.1)) := Ba0.cell 1
  have k_Ba0_2 : W1.cell? ⟨w.heap.size, 2, none⟩ = some (.slice Aa02 na02 ca02) := Ba0.cell 2
  have k_Ba0_3 : W1.cell? ⟨w.heap.size, 3, none⟩ = some (.slice Aa03 na03 ca03) := Ba0.cell 3
  have k_Ba0_4 : W1.cell? ⟨w.heap.size, 4, none⟩ = some (.slice Aa04 na04 ca04) := Ba0.cell 4
  have k_Ba0_5 : W1.cell? ⟨w.heap.size, 5, none⟩ = some (.slice Aa05 na05 ca05) := Ba0.cell 5
  have k_Ba0_6 : W1.cell? ⟨w.heap.size, 6, none⟩ = some (.slice Aa06 na06 ca06) := Ba0.cell 6
  clear hb_
  go_wp2_with fail
  refine (o_toNode ((tNode).reach ((tNode).reach h0 hB1) ?hB) (by omega)).mono ?_
  all_goals try (case hB => exact (belx))
  rintro e W2 ⟨csy0, Fy0, rfl, o_y0, Ny0, hb_⟩
  clear k_Ba0_0 k_Ba0_1 k_Ba0_2 k_Ba0_3 k_Ba0_4 k_Ba0_5 k_Ba0_6
  have Iy0 : ∀ f ∈ Fy0, W1.heap.size + 0 ≤ f ∧ f < W2.heap.size := fun f hf => ⟨Nat.le_trans (by first | (simp; done) | (simp; omega)) (Ny0.2 f hf), (tNode).lt o_y0 f hf⟩
  have Dy0 := Ny0.1
  clear Ny0
  obtain ⟨Ay02, cy02, Fy02, Ay03, cy03, Fy03, Ay04, cy04, Fy04, Ay05, cy05, Fy05, Ay06, cy06, Fy06, rfl, -, -, -, -, -, -, -, -, -, -, -, -, -, -, -, -, -, -⟩ := openONode o_y0
  have hs2 : Below W1.heap.size W1 W2 := bel_trans (belx) hb_
  have z2 : W1.heap.size + 0 ≤ W2.heap.size := by have := hb_.size; simpa using this
  have hB2 : Below w.heap.size w W2 := bel_trans hB1 hs2
  replace Ba0 := Ba0.below hs2 Ba0.size
  have k_Ba0_0 : W2.cell? ⟨w.heap.size, 0, none⟩ = some (.int .i64 (p0.1)) := Ba0.cell 0
  have k_Ba0_1 : W2.cell? ⟨w.heap.size, 1, none⟩ = some (.int .i64 (p0.2.1)) := Ba0.cell 1
  have k_Ba0_2 : W2.cell? ⟨w.heap.size, 2, none⟩ = some (.slice Aa02 na02 ca02) := Ba0.cell 2
  have k_Ba0_3 : W2.cell? ⟨w.heap.size, 3, none⟩ = some (.slice Aa03 na03 ca03) := Ba0.cell 3
  have k_Ba0_4 : W2.cell? ⟨w.heap.size, 4, none⟩ = some (.slice Aa04 na04 ca04) := Ba0.cell 4
  have k_Ba0_5 : W2.cell? ⟨w.heap.size, 5, none⟩ = some (.slice Aa05 na05 ca05) := Ba0.cell 5
  have k_Ba0_6 : W2.cell? ⟨w.heap.size, 6, none⟩ = some (.slice Aa06 na06 ca06) := Ba0.cell 6
  clear hb_
  go_wp2_with fail
  refine (o_toByteSA ((tBy).reach ((tBy).reach h2 hB2) ?hB) (by omega)).mono ?_
  all_goals try (case hB => exact (belx))
  rintro e W3 ⟨Ay2, cy2, Fy2, rfl, o_y2, Ny2, ha_y2, hb_⟩
  clear k_Ba0_0 k_Ba0_1 k_Ba0_2 k_Ba0_3 k_Ba0_4 k_Ba0_5 k_Ba0_6
  have Iy2 : ∀ f ∈ Fy2, W2.heap.size + 0 ≤ f ∧ f < W3.heap.size := fun f hf => ⟨Nat.le_trans (by first | (simp; done) | (simp; omega)) (Ny2.2 f hf), (tBy).lt o_y2 f hf⟩
  have Dy2 := Ny2.1
  clear Ny2
  have hs3 : Below W2.heap.size W2 W3 := bel_trans (belx) hb_
  have z3 : W2.heap.size + 0 ≤ W3.heap.size := by have := hb_.size; simpa using this
  have hB3 : Below w.heap.size w W3 := bel_trans hB2 hs3
  replace Ba0 := Ba0.below hs3 Ba0.size
  replace o_y0 := Ty.below (t := tNode) o_y0 hs3
  have k_Ba0_0 : W3.cell? ⟨w.heap.size, 0, none⟩ = some (.int .i64 (p0.1)) := Ba0.cell 0
  have k_Ba0_1 : W3.cell? ⟨w.heap.size, 1, none⟩ = some (.int .i64 (p0.2.1)) := Ba0.cell 1
  have k_Ba0_2 : W3.cell? ⟨w.heap.size, 2, none⟩ = some (.slice Aa02 na02 ca02) := Ba0.cell 2
  have k_Ba0_3 : W3.cell? ⟨w.heap.size, 3, none⟩ = some (.slice Aa03 na03 ca03) := Ba0.cell 3
  have k_Ba0_4 : W3.cell? ⟨w.heap.size, 4, none⟩ = some (.slice Aa04 na04 ca04) := Ba0.cell 4
  have k_Ba0_5 : W3.cell? ⟨w.heap.size, 5, none⟩ = some (.slice Aa05 na05 ca05) := Ba0.cell 5
  have k_Ba0_6 : W3.cell? ⟨w.heap.size, 6, none⟩ = some (.slice Aa06 na06 ca06) := Ba0.cell 6
  clear hb_
  go_wp2_with fail
  refine (s_NodeFlushR ((tNode).reach ((tNode).read o_y0) ?hB) (by omega) w1 ((tBy).reach ((tBy).read o_y2) ?hB) (by omega)).mono ?_
  all_goals try (case hB => exact (belx))
  rintro e W4 ⟨css0, As1, cs1, rfl, r_s0, r_s1, hb_⟩
  clear k_Ba0_0 k_Ba0_1 k_Ba0_2 k_Ba0_3 k_Ba0_4 k_Ba0_5 k_Ba0_6
  clear o_y0 Iy0 Dy0
  clear o_y2 Iy2 Dy2
  rw [HR0.out] at r_s0
  rw [HR1.out] at r_s1
  rw [HR1.out]
  rw [HR2.out]
  obtain ⟨As02, ns02, cs02, As03, ns03, cs03, As04, ns04, cs04, As05, ns05, cs05, As06, ns06, cs06, rfl, -, -, -, -, -, -, -, -, -, -, -, -, -, -, -, -, -, -, -, -, -, -⟩ := openNode r_s0
  have hs4 : Below W3.heap.size W3 W4 := bel_trans (belx) hb_
  have z4 : W3.heap.size + 0 ≤ W4.heap.size := by have := hb_.size; simpa using this
  have hB4 : Below w.heap.size w W4 := bel_trans hB3 hs4
  replace Ba0 := Ba0.below hs4 Ba0.size
  have k_Ba0_0 : W4.cell? ⟨w.heap.size, 0, none⟩ = some (.int .i64 (p0.1)) := Ba0.cell 0
  have k_Ba0_1 : W4.cell? ⟨w.heap.size, 1, none⟩ = some (.int .i64 (p0.2.1)) := Ba0.cell 1
  have k_Ba0_2 : W4.cell? ⟨w.heap.size, 2, none⟩ = some (.slice Aa02 na02 ca02) := Ba0.cell 2
  have k_Ba0_3 : W4.cell? ⟨w.heap.size, 3, none⟩ = some (.slice Aa03 na03 ca03) := Ba0.cell 3
  have k_Ba0_4 : W4.cell? ⟨w.heap.size, 4, none⟩ = some (.slice Aa04 na04 ca04) := Ba0.cell 4
  have k_Ba0_5 : W4.cell? ⟨w.heap.size, 5, none⟩ = some (.slice Aa05 na05 ca05) := Ba0.cell 5
  have k_Ba0_6 : W4.cell? ⟨w.heap.size, 6, none⟩ = some (.slice Aa06 na06 ca06) := Ba0.cell 6
  clear hb_
  have d_Ba0_0 : (W4.alloc (.cells #[.int .i64 (r0.1), .int .i64 (r0.2.1), .slice As02 ns02 cs02, .slice As03 ns03 cs03, .slice As04 ns04 cs04, .slice As05 ns05 cs05, .slice As06 ns06 cs06] 58)).cell? ⟨w.heap.size, 0, none⟩ = some (.int .i64 (p0.1)) := (Ba0.alloc _).cell 0
  have d_Ba0_1 : (W4.alloc (.cells #[.int .i64 (r0.1), .int .i64 (r0.2.1), .slice As02 ns02 cs02, .slice As03 ns03 cs03, .slice As04 ns04 cs04, .slice As05 ns05 cs05, .slice As06 ns06 cs06] 58)).cell? ⟨w.heap.size, 1, none⟩ = some (.int .i64 (p0.2.1)) := (Ba0.alloc _).cell 1
  have d_Ba0_2 : (W4.alloc (.cells #[.int .i64 (r0.1), .int .i64 (r0.2.1), .slice As02 ns02 cs02, .slice As03 ns03 cs03, .slice As04 ns04 cs04, .slice As05 ns05 cs05, .slice As06 ns06 cs06] 58)).cell? ⟨w.heap.size, 2, none⟩ = some (.slice Aa02 na02 ca02) := (Ba0.alloc _).cell 2
  have d_Ba0_3 : (W4.alloc (.cells #[.int .i64 (r0.1), .int .i64 (r0.2.1), .slice As02 ns02 cs02, .slice As03 ns03 cs03, .slice As04 ns04 cs04, .slice As05 ns05 cs05, .slice As06 ns06 cs06] 58)).cell? ⟨w.heap.size, 3, none⟩ = some (.slice Aa03 na03 ca03) := (Ba0.alloc _).cell 3
  have d_Ba0_4 : (W4.alloc (.cells #[.int .i64 (r0.1), .int .i64 (r0.2.1), .slice As02 ns02 cs02, .slice As03 ns03 cs03, .slice As04 ns04 cs04, .slice As05 ns05 cs05, .slice As06 ns06 cs06] 58)).cell? ⟨w.heap.size, 4, none⟩ = some (.slice Aa04 na04 ca04) := (Ba0.alloc _).cell 4
  have d_Ba0_5 : (W4.alloc (.cells #[.int .i64 (r0.1), .int .i64 (r0.2.1), .slice As02 ns02 cs02, .slice As03 ns03 cs03, .slice As04 ns04 cs04, .slice As05 ns05 cs05, .slice As06 ns06 cs06] 58)).cell? ⟨w.heap.size, 5, none⟩ = some (.slice Aa05 na05 ca05) := (Ba0.alloc _).cell 5
  have d_Ba0_6 : (W4.alloc (.cells #[.int .i64 (r0.1), .int .i64 (r0.2.1), .slice As02 ns02 cs02, .slice As03 ns03 cs03, .slice As04 ns04 cs04, .slice As05 ns05 cs05, .slice As06 ns06 cs06] 58)).cell? ⟨w.heap.size, 6, none⟩ = some (.slice Aa06 na06 ca06) := (Ba0.alloc _).cell 6
  go_wp2_with fail
  refine (o_toNode ((tNode).reach ((tNode).reach h0 hB4) ?hB) (by omega)).mono ?_
  all_goals try (case hB => exact (belx))
  rintro e W5 ⟨csx0, Fx0, rfl, o_x0, Nx0, hb_⟩
  clear d_Ba0_0 d_Ba0_1 d_Ba0_2 d_Ba0_3 d_Ba0_4 d_Ba0_5 d_Ba0_6
  clear k_Ba0_0 k_Ba0_1 k_Ba0_2 k_Ba0_3 k_Ba0_4 k_Ba0_5 k_Ba0_6
  have Ix0 : ∀ f ∈ Fx0, W4.heap.size + 1 ≤ f ∧ f < W5.heap.size := fun f hf => ⟨Nat.le_trans (by first | (simp; done) | (simp; omega)) (Nx0.2 f hf), (tNode).lt o_x0 f hf⟩
  have Dx0 := Nx0.1
  clear Nx0
  obtain ⟨Ax02, cx02, Fx02, Ax03, cx03, Fx03, Ax04, cx04, Fx04, Ax05, cx05, Fx05, Ax06, cx06, Fx06, rfl, -, -, -, -, -, -, -, -, -, -, -, -, -, -, -, -, -, -⟩ := openONode o_x0
  have hs5 : Below W4.heap.size W4 W5 := bel_trans (belx) hb_
  have z5 : W4.heap.size + 1 ≤ W5.heap.size := by have := hb_.size; simpa using this
  have hB5 : Below w.heap.size w W5 := bel_trans hB4 hs5
  replace Ba0 := Ba0.below hs5 Ba0.size
  have Bs0 : Box W5 (W4.heap.size) 58 #[.int .i64 (r0.1), .int .i64 (r0.2.1), .slice As02 ns02 cs02, .slice As03 ns03 cs03, .slice As04 ns04 cs04, .slice As05 ns05 cs05, .slice As06 ns06 cs06] := Box.below (Box.new _ _ _) hb_ (by first | (simp; done) | (simp; omega))
  replace r_s0 := (tNode).keep r_s0 (fun b hb => hs5.block b (Nat.lt_of_lt_of_le hb (by omega)))
  replace r_s1 := (tHeld.row).keep r_s1 (fun b hb => hs5.block b (Nat.lt_of_lt_of_le hb (by omega)))
  have k_Ba0_0 : W5.cell? ⟨w.heap.size, 0, none⟩ = some (.int .i64 (p0.1)) := Ba0.cell 0
  have k_Ba0_1 : W5.cell? ⟨w.heap.size, 1, none⟩ = some (.int .i64 (p0.2.1)) := Ba0.cell 1
  have k_Ba0_2 : W5.cell? ⟨w.heap.size, 2, none⟩ = some (.slice Aa02 na02 ca02) := Ba0.cell 2
  have k_Ba0_3 : W5.cell? ⟨w.heap.size, 3, none⟩ = some (.slice Aa03 na03 ca03) := Ba0.cell 3
  have k_Ba0_4 : W5.cell? ⟨w.heap.size, 4, none⟩ = some (.slice Aa04 na04 ca04) := Ba0.cell 4
  have k_Ba0_5 : W5.cell? ⟨w.heap.size, 5, none⟩ = some (.slice Aa05 na05 ca05) := Ba0.cell 5
  have k_Ba0_6 : W5.cell? ⟨w.heap.size, 6, none⟩ = some (.slice Aa06 na06 ca06) := Ba0.cell 6
  have k_Bs0_0 : W5.cell? ⟨W4.heap.size, 0, none⟩ = some (.int .i64 (r0.1)) := Bs0.cell 0
  have k_Bs0_1 : W5.cell? ⟨W4.heap.size, 1, none⟩ = some (.int .i64 (r0.2.1)) := Bs0.cell 1
  have k_Bs0_2 : W5.cell? ⟨W4.heap.size, 2, none⟩ = some (.slice As02 ns02 cs02) := Bs0.cell 2
  have k_Bs0_3 : W5.cell? ⟨W4.heap.size, 3, none⟩ = some (.slice As03 ns03 cs03) := Bs0.cell 3
  have k_Bs0_4 : W5.cell? ⟨W4.heap.size, 4, none⟩ = some (.slice As04 ns04 cs04) := Bs0.cell 4
  have k_Bs0_5 : W5.cell? ⟨W4.heap.size, 5, none⟩ = some (.slice As05 ns05 cs05) := Bs0.cell 5
  have k_Bs0_6 : W5.cell? ⟨W4.heap.size, 6, none⟩ = some (.slice As06 ns06 cs06) := Bs0.cell 6
  clear hb_
  have d_Ba0_0 : (W5.alloc (.cells #[.int .i64 (p0.1), .int .i64 (p0.2.1), .slice Ax02 (p0.2.2.1.1).length cx02, .slice Ax03 (p0.2.2.1.2).length cx03, .slice Ax04 (p0.2.2.2.1.1).length cx04, .slice Ax05 (p0.2.2.2.1.2).length cx05, .slice Ax06 (p0.2.2.2.2).length cx06] 58)).cell? ⟨w.heap.size, 0, none⟩ = some (.int .i64 (p0.1)) := (Ba0.alloc _).cell 0
  have d_Ba0_1 : (W5.alloc (.cells #[.int .i64 (p0.1), .int .i64 (p0.2.1), .slice Ax02 (p0.2.2.1.1).length cx02, .slice Ax03 (p0.2.2.1.2).length cx03, .slice Ax04 (p0.2.2.2.1.1).length cx04, .slice Ax05 (p0.2.2.2.1.2).length cx05, .slice Ax06 (p0.2.2.2.2).length cx06] 58)).cell? ⟨w.heap.size, 1, none⟩ = some (.int .i64 (p0.2.1)) := (Ba0.alloc _).cell 1
  have d_Ba0_2 : (W5.alloc (.cells #[.int .i64 (p0.1), .int .i64 (p0.2.1), .slice Ax02 (p0.2.2.1.1).length cx02, .slice Ax03 (p0.2.2.1.2).length cx03, .slice Ax04 (p0.2.2.2.1.1).length cx04, .slice Ax05 (p0.2.2.2.1.2).length cx05, .slice Ax06 (p0.2.2.2.2).length cx06] 58)).cell? ⟨w.heap.size, 2, none⟩ = some (.slice Aa02 na02 ca02) := (Ba0.alloc _).cell 2
  have d_Ba0_3 : (W5.alloc (.cells #[.int .i64 (p0.1), .int .i64 (p0.2.1), .slice Ax02 (p0.2.2.1.1).length cx02, .slice Ax03 (p0.2.2.1.2).length cx03, .slice Ax04 (p0.2.2.2.1.1).length cx04, .slice Ax05 (p0.2.2.2.1.2).length cx05, .slice Ax06 (p0.2.2.2.2).length cx06] 58)).cell? ⟨w.heap.size, 3, none⟩ = some (.slice Aa03 na03 ca03) := (Ba0.alloc _).cell 3
  have d_Ba0_4 : (W5.alloc (.cells #[.int .i64 (p0.1), .int .i64 (p0.2.1), .slice Ax02 (p0.2.2.1.1).length cx02, .slice Ax03 (p0.2.2.1.2).length cx03, .slice Ax04 (p0.2.2.2.1.1).length cx04, .slice Ax05 (p0.2.2.2.1.2).length cx05, .slice Ax06 (p0.2.2.2.2).length cx06] 58)).cell? ⟨w.heap.size, 4, none⟩ = some (.slice Aa04 na04 ca04) := (Ba0.alloc _).cell 4
  have d_Ba0_5 : (W5.alloc (.cells #[.int .i64 (p0.1), .int .i64 (p0.2.1), .slice Ax02 (p0.2.2.1.1).length cx02, .slice Ax03 (p0.2.2.1.2).length cx03, .slice Ax04 (p0.2.2.2.1.1).length cx04, .slice Ax05 (p0.2.2.2.1.2).length cx05, .slice Ax06 (p0.2.2.2.2).length cx06] 58)).cell? ⟨w.heap.size, 5, none⟩ = some (.slice Aa05 na05 ca05) := (Ba0.alloc _).cell 5
  have d_Ba0_6 : (W5.alloc (.cells #[.int .i64 (p0.1), .int .i64 (p0.2.1), .slice Ax02 (p0.2.2.1.1).length cx02, .slice Ax03 (p0.2.2.1.2).length cx03, .slice Ax04 (p0.2.2.2.1.1).length cx04, .slice Ax05 (p0.2.2.2.1.2).length cx05, .slice Ax06 (p0.2.2.2.2).length cx06] 58)).cell? ⟨w.heap.size, 6, none⟩ = some (.slice Aa06 na06 ca06) := (Ba0.alloc _).cell 6
  have d_Bs0_0 : (W5.alloc (.cells #[.int .i64 (p0.1), .int .i64 (p0.2.1), .slice Ax02 (p0.2.2.1.1).length cx02, .slice Ax03 (p0.2.2.1.2).length cx03, .slice Ax04 (p0.2.2.2.1.1).length cx04, .slice Ax05 (p0.2.2.2.1.2).length cx05, .slice Ax06 (p0.2.2.2.2).length cx06] 58)).cell? ⟨W4.heap.size, 0, none⟩ = some (.int .i64 (r0.1)) := (Bs0.alloc _).cell 0
  have d_Bs0_1 : (W5.alloc (.cells #[.int .i64 (p0.1), .int .i64 (p0.2.1), .slice Ax02 (p0.2.2.1.1).length cx02, .slice Ax03 (p0.2.2.1.2).length cx03, .slice Ax04 (p0.2.2.2.1.1).length cx04, .slice Ax05 (p0.2.2.2.1.2).length cx05, .slice Ax06 (p0.2.2.2.2).length cx06] 58)).cell? ⟨W4.heap.size, 1, none⟩ = some (.int .i64 (r0.2.1)) := (Bs0.alloc _).cell 1
  have d_Bs0_2 : (W5.alloc (.cells #[.int .i64 (p0.1), .int .i64 (p0.2.1), .slice Ax02 (p0.2.2.1.1).length cx02, .slice Ax03 (p0.2.2.1.2).length cx03, .slice Ax04 (p0.2.2.2.1.1).length cx04, .slice Ax05 (p0.2.2.2.1.2).length cx05, .slice Ax06 (p0.2.2.2.2).length cx06] 58)).cell? ⟨W4.heap.size, 2, none⟩ = some (.slice As02 ns02 cs02) := (Bs0.alloc _).cell 2
  have d_Bs0_3 : (W5.alloc (.cells #[.int .i64 (p0.1), .int .i64 (p0.2.1), .slice Ax02 (p0.2.2.1.1).length cx02, .slice Ax03 (p0.2.2.1.2).length cx03, .slice Ax04 (p0.2.2.2.1.1).length cx04, .slice Ax05 (p0.2.2.2.1.2).length cx05, .slice Ax06 (p0.2.2.2.2).length cx06] 58)).cell? ⟨W4.heap.size, 3, none⟩ = some (.slice As03 ns03 cs03) := (Bs0.alloc _).cell 3
  have d_Bs0_4 : (W5.alloc (.cells #[.int .i64 (p0.1), .int .i64 (p0.2.1), .slice Ax02 (p0.2.2.1.1).length cx02, .slice Ax03 (p0.2.2.1.2).length cx03, .slice Ax04 (p0.2.2.2.1.1).length cx04, .slice Ax05 (p0.2.2.2.1.2).length cx05, .slice Ax06 (p0.2.2.2.2).length cx06] 58)).cell? ⟨W4.heap.size, 4, none⟩ = some (.slice As04 ns04 cs04) := (Bs0.alloc _).cell 4
  have d_Bs0_5 : (W5.alloc (.cells #[.int .i64 (p0.1), .int .i64 (p0.2.1), .slice Ax02 (p0.2.2.1.1).length cx02, .slice Ax03 (p0.2.2.1.2).length cx03, .slice Ax04 (p0.2.2.2.1.1).length cx04, .slice Ax05 (p0.2.2.2.1.2).length cx05, .slice Ax06 (p0.2.2.2.2).length cx06] 58)).cell? ⟨W4.heap.size, 5, none⟩ = some (.slice As05 ns05 cs05) := (Bs0.alloc _).cell 5
  have d_Bs0_6 : (W5.alloc (.cells #[.int .i64 (p0.1), .int .i64 (p0.2.1), .slice Ax02 (p0.2.2.1.1).length cx02, .slice Ax03 (p0.2.2.1.2).length cx03, .slice Ax04 (p0.2.2.2.1.1).length cx04, .slice Ax05 (p0.2.2.2.1.2).length cx05, .slice Ax06 (p0.2.2.2.2).length cx06] 58)).cell? ⟨W4.heap.size, 6, none⟩ = some (.slice As06 ns06 cs06) := (Bs0.alloc _).cell 6
  go_wp2_with fail
  refine (o_toByteSA ((tBy).reach ((tBy).reach h2 hB5) ?hB) (by omega)).mono ?_
  all_goals try (case hB => exact (belx))
  rintro e W6 ⟨Ax2, cx2, Fx2, rfl, o_x2, Nx2, ha_x2, hb_⟩
  clear d_Ba0_0 d_Ba0_1 d_Ba0_2 d_Ba0_3 d_Ba0_4 d_Ba0_5 d_Ba0_6 d_Bs0_0 d_Bs0_1 d_Bs0_2 d_Bs0_3 d_Bs0_4 d_Bs0_5 d_Bs0_6
  clear k_Ba0_0 k_Ba0_1 k_Ba0_2 k_Ba0_3 k_Ba0_4 k_Ba0_5 k_Ba0_6
  clear k_Bs0_0 k_Bs0_1 k_Bs0_2 k_Bs0_3 k_Bs0_4 k_Bs0_5 k_Bs0_6
  have Ix2 : ∀ f ∈ Fx2, W5.heap.size + 1 ≤ f ∧ f < W6.heap.size := fun f hf => ⟨Nat.le_trans (by first | (simp; done) | (simp; omega)) (Nx2.2 f hf), (tBy).lt o_x2 f hf⟩
  have Dx2 := Nx2.1
  clear Nx2
  have hs6 : Below W5.heap.size W5 W6 := bel_trans (belx) hb_
  have z6 : W5.heap.size + 1 ≤ W6.heap.size := by have := hb_.size; simpa using this
  have hB6 : Below w.heap.size w W6 := bel_trans hB5 hs6
  replace Ba0 := Ba0.below hs6 Ba0.size
  replace Bs0 := Bs0.below hs6 Bs0.size
  have Bx0 : Box W6 (W5.heap.size) 58 #[.int .i64 (p0.1), .int .i64 (p0.2.1), .slice Ax02 (p0.2.2.1.1).length cx02, .slice Ax03 (p0.2.2.1.2).length cx03, .slice Ax04 (p0.2.2.2.1.1).length cx04, .slice Ax05 (p0.2.2.2.1.2).length cx05, .slice Ax06 (p0.2.2.2.2).length cx06] := Box.below (Box.new _ _ _) hb_ (by first | (simp; done) | (simp; omega))
  replace o_x0 := Ty.below (t := tNode) o_x0 hs6
  replace r_s0 := (tNode).keep r_s0 (fun b hb => hs6.block b (Nat.lt_of_lt_of_le hb (by omega)))
  replace r_s1 := (tHeld.row).keep r_s1 (fun b hb => hs6.block b (Nat.lt_of_lt_of_le hb (by omega)))
  have k_Ba0_0 : W6.cell? ⟨w.heap.size, 0, none⟩ = some (.int .i64 (p0.1)) := Ba0.cell 0
  have k_Ba0_1 : W6.cell? ⟨w.heap.size, 1, none⟩ = some (.int .i64 (p0.2.1)) := Ba0.cell 1
  have k_Ba0_2 : W6.cell? ⟨w.heap.size, 2, none⟩ = some (.slice Aa02 na02 ca02) := Ba0.cell 2
  have k_Ba0_3 : W6.cell? ⟨w.heap.size, 3, none⟩ = some (.slice Aa03 na03 ca03) := Ba0.cell 3
  have k_Ba0_4 : W6.cell? ⟨w.heap.size, 4, none⟩ = some (.slice Aa04 na04 ca04) := Ba0.cell 4
  have k_Ba0_5 : W6.cell? ⟨w.heap.size, 5, none⟩ = some (.slice Aa05 na05 ca05) := Ba0.cell 5
  have k_Ba0_6 : W6.cell? ⟨w.heap.size, 6, none⟩ = some (.slice Aa06 na06 ca06) := Ba0.cell 6
  have k_Bs0_0 : W6.cell? ⟨W4.heap.size, 0, none⟩ = some (.int .i64 (r0.1)) := Bs0.cell 0
  have k_Bs0_1 : W6.cell? ⟨W4.heap.size, 1, none⟩ = some (.int .i64 (r0.2.1)) := Bs0.cell 1
  have k_Bs0_2 : W6.cell? ⟨W4.heap.size, 2, none⟩ = some (.slice As02 ns02 cs02) := Bs0.cell 2
  have k_Bs0_3 : W6.cell? ⟨W4.heap.size, 3, none⟩ = some (.slice As03 ns03 cs03) := Bs0.cell 3
  have k_Bs0_4 : W6.cell? ⟨W4.heap.size, 4, none⟩ = some (.slice As04 ns04 cs04) := Bs0.cell 4
  have k_Bs0_5 : W6.cell? ⟨W4.heap.size, 5, none⟩ = some (.slice As05 ns05 cs05) := Bs0.cell 5
  have k_Bs0_6 : W6.cell? ⟨W4.heap.size, 6, none⟩ = some (.slice As06 ns06 cs06) := Bs0.cell 6
  have k_Bx0_0 : W6.cell? ⟨W5.heap.size, 0, none⟩ = some (.int .i64 (p0.1)) := Bx0.cell 0
  have k_Bx0_1 : W6.cell? ⟨W5.heap.size, 1, none⟩ = some (.int .i64 (p0.2.1)) := Bx0.cell 1
  have k_Bx0_2 : W6.cell? ⟨W5.heap.size, 2, none⟩ = some (.slice Ax02 (p0.2.2.1.1).length cx02) := Bx0.cell 2
  have k_Bx0_3 : W6.cell? ⟨W5.heap.size, 3, none⟩ = some (.slice Ax03 (p0.2.2.1.2).length cx03) := Bx0.cell 3
  have k_Bx0_4 : W6.cell? ⟨W5.heap.size, 4, none⟩ = some (.slice Ax04 (p0.2.2.2.1.1).length cx04) := Bx0.cell 4
  have k_Bx0_5 : W6.cell? ⟨W5.heap.size, 5, none⟩ = some (.slice Ax05 (p0.2.2.2.1.2).length cx05) := Bx0.cell 5
  have k_Bx0_6 : W6.cell? ⟨W5.heap.size, 6, none⟩ = some (.slice Ax06 (p0.2.2.2.2).length cx06) := Bx0.cell 6
  clear hb_
  go_wp2_with fail
  refine (i_NodeFlush ((tNode).reach ((tNode).read o_x0) ?hB) (by omega) w1 ((tBy).reach ((tBy).read o_x2) ?hB) (by omega) ha_x2).mono ?_
  all_goals try (case hB => exact (belx))
  rintro e W7 ⟨csg0, Fg0, Ag1, cg1, Fg1, rfl, o_g0, o_g1, Ng, hb_⟩
  clear k_Ba0_0 k_Ba0_1 k_Ba0_2 k_Ba0_3 k_Ba0_4 k_Ba0_5 k_Ba0_6
  clear k_Bs0_0 k_Bs0_1 k_Bs0_2 k_Bs0_3 k_Bs0_4 k_Bs0_5 k_Bs0_6
  clear k_Bx0_0 k_Bx0_1 k_Bx0_2 k_Bx0_3 k_Bx0_4 k_Bx0_5 k_Bx0_6
  rw [HR0.out] at o_g0
  rw [HR1.out] at o_g1
  rw [HR1.out]
  rw [HR2.out]
  obtain ⟨Ag02, cg02, Fg02, Ag03, cg03, Fg03, Ag04, cg04, Fg04, Ag05, cg05, Fg05, Ag06, cg06, Fg06, rfl, -, -, -, -, -, -, -, -, -, -, -, -, -, -, -, -, -, -⟩ := openONode o_g0
  have Ig0 : ∀ f ∈ Fg0, W6.heap.size + 0 ≤ f ∧ f < W7.heap.size := fun f hf => ⟨Nat.le_trans (by first | (simp; done) | (simp; omega)) (Ng.2 f (by simp [hf])), (tNode).lt o_g0 f hf⟩
  have Ig1 : ∀ f ∈ Fg1, W6.heap.size + 0 ≤ f ∧ f < W7.heap.size := fun f hf => ⟨Nat.le_trans (by first | (simp; done) | (simp; omega)) (Ng.2 f (by simp [hf])), (tHeld.row).lt o_g1 f hf⟩
  have Dg0 := (List.nodup_append.1 Ng.1).1
  have Dg1 := (List.nodup_append.1 Ng.1).2.1
  have Xg : ∀ f ∈ Fg0, f ∉ Fg1 := fun f h1 h2 => (List.nodup_append.1 Ng.1).2.2 f h1 f h2 rfl
  clear Ng
  have hs7 : Below W6.heap.size W6 W7 := bel_trans (belx) hb_
  have z7 : W6.heap.size + 0 ≤ W7.heap.size := by have := hb_.size; simpa using this
  have hB7 : Below w.heap.size w W7 := bel_trans hB6 hs7
  replace Ba0 := Ba0.below hs7 Ba0.size
  replace Bs0 := Bs0.below hs7 Bs0.size
  replace Bx0 := Bx0.below hs7 Bx0.size
  replace o_x0 := Ty.below (t := tNode) o_x0 hs7
  replace o_x2 := Ty.below (t := tBy) o_x2 hs7
  replace r_s0 := (tNode).keep r_s0 (fun b hb => hs7.block b (Nat.lt_of_lt_of_le hb (by omega)))
  replace r_s1 := (tHeld.row).keep r_s1 (fun b hb => hs7.block b (Nat.lt_of_lt_of_le hb (by omega)))
  have k_Ba0_0 : W7.cell? ⟨w.heap.size, 0, none⟩ = some (.int .i64 (p0.1)) := Ba0.cell 0
  have k_Ba0_1 : W7.cell? ⟨w.heap.size, 1, none⟩ = some (.int .i64 (p0.2.1)) := Ba0.cell 1
  have k_Ba0_2 : W7.cell? ⟨w.heap.size, 2, none⟩ = some (.slice Aa02 na02 ca02) := Ba0.cell 2
  have k_Ba0_3 : W7.cell? ⟨w.heap.size, 3, none⟩ = some (.slice Aa03 na03 ca03) := Ba0.cell 3
  have k_Ba0_4 : W7.cell? ⟨w.heap.size, 4, none⟩ = some (.slice Aa04 na04 ca04) := Ba0.cell 4
  have k_Ba0_5 : W7.cell? ⟨w.heap.size, 5, none⟩ = some (.slice Aa05 na05 ca05) := Ba0.cell 5
  have k_Ba0_6 : W7.cell? ⟨w.heap.size, 6, none⟩ = some (.slice Aa06 na06 ca06) := Ba0.cell 6
  have k_Bs0_0 : W7.cell? ⟨W4.heap.size, 0, none⟩ = some (.int .i64 (r0.1)) := Bs0.cell 0
  have k_Bs0_1 : W7.cell? ⟨W4.heap.size, 1, none⟩ = some (.int .i64 (r0.2.1)) := Bs0.cell 1
  have k_Bs0_2 : W7.cell? ⟨W4.heap.size, 2, none⟩ = some (.slice As02 ns02 cs02) := Bs0.cell 2
  have k_Bs0_3 : W7.cell? ⟨W4.heap.size, 3, none⟩ = some (.slice As03 ns03 cs03) := Bs0.cell 3
  have k_Bs0_4 : W7.cell? ⟨W4.heap.size, 4, none⟩ = some (.slice As04 ns04 cs04) := Bs0.cell 4
  have k_Bs0_5 : W7.cell? ⟨W4.heap.size, 5, none⟩ = some (.slice As05 ns05 cs05) := Bs0.cell 5
  have k_Bs0_6 : W7.cell? ⟨W4.heap.size, 6, none⟩ = some (.slice As06 ns06 cs06) := Bs0.cell 6
  have k_Bx0_0 : W7.cell? ⟨W5.heap.size, 0, none⟩ = some (.int .i64 (p0.1)) := Bx0.cell 0
  have k_Bx0_1 : W7.cell? ⟨W5.heap.size, 1, none⟩ = some (.int .i64 (p0.2.1)) := Bx0.cell 1
  have k_Bx0_2 : W7.cell? ⟨W5.heap.size, 2, none⟩ = some (.slice Ax02 (p0.2.2.1.1).length cx02) := Bx0.cell 2
  have k_Bx0_3 : W7.cell? ⟨W5.heap.size, 3, none⟩ = some (.slice Ax03 (p0.2.2.1.2).length cx03) := Bx0.cell 3
  have k_Bx0_4 : W7.cell? ⟨W5.heap.size, 4, none⟩ = some (.slice Ax04 (p0.2.2.2.1.1).length cx04) := Bx0.cell 4
  have k_Bx0_5 : W7.cell? ⟨W5.heap.size, 5, none⟩ = some (.slice Ax05 (p0.2.2.2.1.2).length cx05) := Bx0.cell 5
  have k_Bx0_6 : W7.cell? ⟨W5.heap.size, 6, none⟩ = some (.slice Ax06 (p0.2.2.2.2).length cx06) := Bx0.cell 6
  clear hb_
  have d_Ba0_0 : (W7.alloc (.cells #[.int .i64 (r0.1), .int .i64 (r0.2.1), .slice Ag02 (r0.2.2.1.1).length cg02, .slice Ag03 (r0.2.2.1.2).length cg03, .slice Ag04 (r0.2.2.2.1.1).length cg04, .slice Ag05 (r0.2.2.2.1.2).length cg05, .slice Ag06 (r0.2.2.2.2).length cg06] 58)).cell? ⟨w.heap.size, 0, none⟩ = some (.int .i64 (p0.1)) := (Ba0.alloc _).cell 0
  have d_Ba0_1 : (W7.alloc (.cells #[.int .i64 (r0.1), .int .i64 (r0.2.1), .slice Ag02 (r0.2.2.1.1).length cg02, .slice Ag03 (r0.2.2.1.2).length cg03, .slice Ag04 (r0.2.2.2.1.1).length cg04, .slice Ag05 (r0.2.2.2.1.2).length cg05, .slice Ag06 (r0.2.2.2.2).length cg06] 58)).cell? ⟨w.heap.size, 1, none⟩ = some (.int .i64 (p0.2.1)) := (Ba0.alloc _).cell 1
  have d_Ba0_2 : (W7.alloc (.cells #[.int .i64 (r0.1), .int .i64 (r0.2.1), .slice Ag02 (r0.2.2.1.1).length cg02, .slice Ag03 (r0.2.2.1.2).length cg03, .slice Ag04 (r0.2.2.2.1.1).length cg04, .slice Ag05 (r0.2.2.2.1.2).length cg05, .slice Ag06 (r0.2.2.2.2).length cg06] 58)).cell? ⟨w.heap.size, 2, none⟩ = some (.slice Aa02 na02 ca02) := (Ba0.alloc _).cell 2
  have d_Ba0_3 : (W7.alloc (.cells #[.int .i64 (r0.1), .int .i64 (r0.2.1), .slice Ag02 (r0.2.2.1.1).length cg02, .slice Ag03 (r0.2.2.1.2).length cg03, .slice Ag04 (r0.2.2.2.1.1).length cg04, .slice Ag05 (r0.2.2.2.1.2).length cg05, .slice Ag06 (r0.2.2.2.2).length cg06] 58)).cell? ⟨w.heap.size, 3, none⟩ = some (.slice Aa03 na03 ca03) := (Ba0.alloc _).cell 3
  have d_Ba0_4 : (W7.alloc (.cells #[.int .i64 (r0.1), .int .i64 (r0.2.1), .slice Ag02 (r0.2.2.1.1).length cg02, .slice Ag03 (r0.2.2.1.2).length cg03, .slice Ag04 (r0.2.2.2.1.1).length cg04, .slice Ag05 (r0.2.2.2.1.2).length cg05, .slice Ag06 (r0.2.2.2.2).length cg06] 58)).cell? ⟨w.heap.size, 4, none⟩ = some (.slice Aa04 na04 ca04) := (Ba0.alloc _).cell 4
  have d_Ba0_5 : (W7.alloc (.cells #[.int .i64 (r0.1), .int .i64 (r0.2.1), .slice Ag02 (r0.2.2.1.1).length cg02, .slice Ag03 (r0.2.2.1.2).length cg03, .slice Ag04 (r0.2.2.2.1.1).length cg04, .slice Ag05 (r0.2.2.2.1.2).length cg05, .slice Ag06 (r0.2.2.2.2).length cg06] 58)).cell? ⟨w.heap.size, 5, none⟩ = some (.slice Aa05 na05 ca05) := (Ba0.alloc _).cell 5
  have d_Ba0_6 : (W7.alloc (.cells #[.int .i64 (r0.1), .int .i64 (r0.2.1), .slice Ag02 (r0.2.2.1.1).length cg02, .slice Ag03 (r0.2.2.1.2).length cg03, .slice Ag04 (r0.2.2.2.1.1).length cg04, .slice Ag05 (r0.2.2.2.1.2).length cg05, .slice Ag06 (r0.2.2.2.2).length cg06] 58)).cell? ⟨w.heap.size, 6, none⟩ = some (.slice Aa06 na06 ca06) := (Ba0.alloc _).cell 6
  have d_Bs0_0 : (W7.alloc (.cells #[.int .i64 (r0.1), .int .i64 (r0.2.1), .slice Ag02 (r0.2.2.1.1).length cg02, .slice Ag03 (r0.2.2.1.2).length cg03, .slice Ag04 (r0.2.2.2.1.1).length cg04, .slice Ag05 (r0.2.2.2.1.2).length cg05, .slice Ag06 (r0.2.2.2.2).length cg06] 58)).cell? ⟨W4.heap.size, 0, none⟩ = some (.int .i64 (r0.1)) := (Bs0.alloc _).cell 0
  have d_Bs0_1 : (W7.alloc (.cells #[.int .i64 (r0.1), .int .i64 (r0.2.1), .slice Ag02 (r0.2.2.1.1).length cg02, .slice Ag03 (r0.2.2.1.2).length cg03, .slice Ag04 (r0.2.2.2.1.1).length cg04, .slice Ag05 (r0.2.2.2.1.2).length cg05, .slice Ag06 (r0.2.2.2.2).length cg06] 58)).cell? ⟨W4.heap.size, 1, none⟩ = some (.int .i64 (r0.2.1)) := (Bs0.alloc _).cell 1
  have d_Bs0_2 : (W7.alloc (.cells #[.int .i64 (r0.1), .int .i64 (r0.2.1), .slice Ag02 (r0.2.2.1.1).length cg02, .slice Ag03 (r0.2.2.1.2).length cg03, .slice Ag04 (r0.2.2.2.1.1).length cg04, .slice Ag05 (r0.2.2.2.1.2).length cg05, .slice Ag06 (r0.2.2.2.2).length cg06] 58)).cell? ⟨W4.heap.size, 2, none⟩ = some (.slice As02 ns02 cs02) := (Bs0.alloc _).cell 2
  have d_Bs0_3 : (W7.alloc (.cells #[.int .i64 (r0.1), .int .i64 (r0.2.1), .slice Ag02 (r0.2.2.1.1).length cg02, .slice Ag03 (r0.2.2.1.2).length cg03, .slice Ag04 (r0.2.2.2.1.1).length cg04, .slice Ag05 (r0.2.2.2.1.2).length cg05, .slice Ag06 (r0.2.2.2.2).length cg06] 58)).cell? ⟨W4.heap.size, 3, none⟩ = some (.slice As03 ns03 cs03) := (Bs0.alloc _).cell 3
  have d_Bs0_4 : (W7.alloc (.cells #[.int .i64 (r0.1), .int .i64 (r0.2.1), .slice Ag02 (r0.2.2.1.1).length cg02, .slice Ag03 (r0.2.2.1.2).length cg03, .slice Ag04 (r0.2.2.2.1.1).length cg04, .slice Ag05 (r0.2.2.2.1.2).length cg05, .slice Ag06 (r0.2.2.2.2).length cg06] 58)).cell? ⟨W4.heap.size, 4, none⟩ = some (.slice As04 ns04 cs04) := (Bs0.alloc _).cell 4
  have d_Bs0_5 : (W7.alloc (.cells #[.int .i64 (r0.1), .int .i64 (r0.2.1), .slice Ag02 (r0.2.2.1.1).length cg02, .slice Ag03 (r0.2.2.1.2).length cg03, .slice Ag04 (r0.2.2.2.1.1).length cg04, .slice Ag05 (r0.2.2.2.1.2).length cg05, .slice Ag06 (r0.2.2.2.2).length cg06] 58)).cell? ⟨W4.heap.size, 5, none⟩ = some (.slice As05 ns05 cs05) := (Bs0.alloc _).cell 5
  have d_Bs0_6 : (W7.alloc (.cells #[.int .i64 (r0.1), .int .i64 (r0.2.1), .slice Ag02 (r0.2.2.1.1).length cg02, .slice Ag03 (r0.2.2.1.2).length cg03, .slice Ag04 (r0.2.2.2.1.1).length cg04, .slice Ag05 (r0.2.2.2.1.2).length cg05, .slice Ag06 (r0.2.2.2.2).length cg06] 58)).cell? ⟨W4.heap.size, 6, none⟩ = some (.slice As06 ns06 cs06) := (Bs0.alloc _).cell 6
  have d_Bx0_0 : (W7.alloc (.cells #[.int .i64 (r0.1), .int .i64 (r0.2.1), .slice Ag02 (r0.2.2.1.1).length cg02, .slice Ag03 (r0.2.2.1.2).length cg03, .slice Ag04 (r0.2.2.2.1.1).length cg04, .slice Ag05 (r0.2.2.2.1.2).length cg05, .slice Ag06 (r0.2.2.2.2).length cg06] 58)).cell? ⟨W5.heap.size, 0, none⟩ = some (.int .i64 (p0.1)) := (Bx0.alloc _).cell 0
  have d_Bx0_1 : (W7.alloc (.cells #[.int .i64 (r0.1), .int .i64 (r0.2.1), .slice Ag02 (r0.2.2.1.1).length cg02, .slice Ag03 (r0.2.2.1.2).length cg03, .slice Ag04 (r0.2.2.2.1.1).length cg04, .slice Ag05 (r0.2.2.2.1.2).length cg05, .slice Ag06 (r0.2.2.2.2).length cg06] 58)).cell? ⟨W5.heap.size, 1, none⟩ = some (.int .i64 (p0.2.1)) := (Bx0.alloc _).cell 1
  have d_Bx0_2 : (W7.alloc (.cells #[.int .i64 (r0.1), .int .i64 (r0.2.1), .slice Ag02 (r0.2.2.1.1).length cg02, .slice Ag03 (r0.2.2.1.2).length cg03, .slice Ag04 (r0.2.2.2.1.1).length cg04, .slice Ag05 (r0.2.2.2.1.2).length cg05, .slice Ag06 (r0.2.2.2.2).length cg06] 58)).cell? ⟨W5.heap.size, 2, none⟩ = some (.slice Ax02 (p0.2.2.1.1).length cx02) := (Bx0.alloc _).cell 2
  have d_Bx0_3 : (W7.alloc (.cells #[.int .i64 (r0.1), .int .i64 (r0.2.1), .slice Ag02 (r0.2.2.1.1).length cg02, .slice Ag03 (r0.2.2.1.2).length cg03, .slice Ag04 (r0.2.2.2.1.1).length cg04, .slice Ag05 (r0.2.2.2.1.2).length cg05, .slice Ag06 (r0.2.2.2.2).length cg06] 58)).cell? ⟨W5.heap.size, 3, none⟩ = some (.slice Ax03 (p0.2.2.1.2).length cx03) := (Bx0.alloc _).cell 3
  have d_Bx0_4 : (W7.alloc (.cells #[.int .i64 (r0.1), .int .i64 (r0.2.1), .slice Ag02 (r0.2.2.1.1).length cg02, .slice Ag03 (r0.2.2.1.2).length cg03, .slice Ag04 (r0.2.2.2.1.1).length cg04, .slice Ag05 (r0.2.2.2.1.2).length cg05, .slice Ag06 (r0.2.2.2.2).length cg06] 58)).cell? ⟨W5.heap.size, 4, none⟩ = some (.slice Ax04 (p0.2.2.2.1.1).length cx04) := (Bx0.alloc _).cell 4
  have d_Bx0_5 : (W7.alloc (.cells #[.int .i64 (r0.1), .int .i64 (r0.2.1), .slice Ag02 (r0.2.2.1.1).length cg02, .slice Ag03 (r0.2.2.1.2).length cg03, .slice Ag04 (r0.2.2.2.1.1).length cg04, .slice Ag05 (r0.2.2.2.1.2).length cg05, .slice Ag06 (r0.2.2.2.2).length cg06] 58)).cell? ⟨W5.heap.size, 5, none⟩ = some (.slice Ax05 (p0.2.2.2.1.2).length cx05) := (Bx0.alloc _).cell 5
  have d_Bx0_6 : (W7.alloc (.cells #[.int .i64 (r0.1), .int .i64 (r0.2.1), .slice Ag02 (r0.2.2.1.1).length cg02, .slice Ag03 (r0.2.2.1.2).length cg03, .slice Ag04 (r0.2.2.2.1.1).length cg04, .slice Ag05 (r0.2.2.2.1.2).length cg05, .slice Ag06 (r0.2.2.2.2).length cg06] 58)).cell? ⟨W5.heap.size, 6, none⟩ = some (.slice Ax06 (p0.2.2.2.2).length cx06) := (Bx0.alloc _).cell 6
  go_wp2_with fail
  refine (o_eqNode ((tNode).reach ((tNode).read o_g0) ?hB) ((tNode).reach ((tNode).up r_s0 (by omega : W4.heap.size ≤ W7.heap.size)) ?hB)).mono ?_
  all_goals try (case hB => exact (belx))
  rintro e W8 ⟨rfl, hb_⟩
  clear d_Ba0_0 d_Ba0_1 d_Ba0_2 d_Ba0_3 d_Ba0_4 d_Ba0_5 d_Ba0_6 d_Bs0_0 d_Bs0_1 d_Bs0_2 d_Bs0_3 d_Bs0_4 d_Bs0_5 d_Bs0_6 d_Bx0_0 d_Bx0_1 d_Bx0_2 d_Bx0_3 d_Bx0_4 d_Bx0_5 d_Bx0_6
  clear k_Ba0_0 k_Ba0_1 k_Ba0_2 k_Ba0_3 k_Ba0_4 k_Ba0_5 k_Ba0_6
  clear k_Bs0_0 k_Bs0_1 k_Bs0_2 k_Bs0_3 k_Bs0_4 k_Bs0_5 k_Bs0_6
  clear k_Bx0_0 k_Bx0_1 k_Bx0_2 k_Bx0_3 k_Bx0_4 k_Bx0_5 k_Bx0_6
  have hs8 : Below W7.heap.size W7 W8 := bel_trans (belx) hb_
  have z8 : W7.heap.size + 1 ≤ W8.heap.size := by have := hb_.size; simpa using this
  have hB8 : Below w.heap.size w W8 := bel_trans hB7 hs8
  replace Ba0 := Ba0.below hs8 Ba0.size
  replace Bs0 := Bs0.below hs8 Bs0.size
  replace Bx0 := Bx0.below hs8 Bx0.size
  have Bg0 : Box W8 (W7.heap.size) 58 #[.int .i64 (r0.1), .int .i64 (r0.2.1), .slice Ag02 (r0.2.2.1.1).length cg02, .slice Ag03 (r0.2.2.1.2).length cg03, .slice Ag04 (r0.2.2.2.1.1).length cg04, .slice Ag05 (r0.2.2.2.1.2).length cg05, .slice Ag06 (r0.2.2.2.2).length cg06] := Box.below (Box.new _ _ _) hb_ (by first | (simp; done) | (simp; omega))
  replace o_x0 := Ty.below (t := tNode) o_x0 hs8
  replace o_x2 := Ty.below (t := tBy) o_x2 hs8
  replace o_g0 := Ty.below (t := tNode) o_g0 hs8
  replace o_g1 := Ty.below (t := tHeld.row) o_g1 hs8
  replace r_s0 := (tNode).keep r_s0 (fun b hb => hs8.block b (Nat.lt_of_lt_of_le hb (by omega)))
  replace r_s1 := (tHeld.row).keep r_s1 (fun b hb => hs8.block b (Nat.lt_of_lt_of_le hb (by omega)))
  have k_Ba0_0 : W8.cell? ⟨w.heap.size, 0, none⟩ = some (.int .i64 (p0.1)) := Ba0.cell 0
  have k_Ba0_1 : W8.cell? ⟨w.heap.size, 1, none⟩ = some (.int .i64 (p0.2.1)) := Ba0.cell 1
  have k_Ba0_2 : W8.cell? ⟨w.heap.size, 2, none⟩ = some (.slice Aa02 na02 ca02) := Ba0.cell 2
  have k_Ba0_3 : W8.cell? ⟨w.heap.size, 3, none⟩ = some (.slice Aa03 na03 ca03) := Ba0.cell 3
  have k_Ba0_4 : W8.cell? ⟨w.heap.size, 4, none⟩ = some (.slice Aa04 na04 ca04) := Ba0.cell 4
  have k_Ba0_5 : W8.cell? ⟨w.heap.size, 5, none⟩ = some (.slice Aa05 na05 ca05) := Ba0.cell 5
  have k_Ba0_6 : W8.cell? ⟨w.heap.size, 6, none⟩ = some (.slice Aa06 na06 ca06) := Ba0.cell 6
  have k_Bs0_0 : W8.cell? ⟨W4.heap.size, 0, none⟩ = some (.int .i64 (r0.1)) := Bs0.cell 0
  have k_Bs0_1 : W8.cell? ⟨W4.heap.size, 1, none⟩ = some (.int .i64 (r0.2.1)) := Bs0.cell 1
  have k_Bs0_2 : W8.cell? ⟨W4.heap.size, 2, none⟩ = some (.slice As02 ns02 cs02) := Bs0.cell 2
  have k_Bs0_3 : W8.cell? ⟨W4.heap.size, 3, none⟩ = some (.slice As03 ns03 cs03) := Bs0.cell 3
  have k_Bs0_4 : W8.cell? ⟨W4.heap.size, 4, none⟩ = some (.slice As04 ns04 cs04) := Bs0.cell 4
  have k_Bs0_5 : W8.cell? ⟨W4.heap.size, 5, none⟩ = some (.slice As05 ns05 cs05) := Bs0.cell 5
  have k_Bs0_6 : W8.cell? ⟨W4.heap.size, 6, none⟩ = some (.slice As06 ns06 cs06) := Bs0.cell 6
  have k_Bx0_0 : W8.cell? ⟨W5.heap.size, 0, none⟩ = some (.int .i64 (p0.1)) := Bx0.cell 0
  have k_Bx0_1 : W8.cell? ⟨W5.heap.size, 1, none⟩ = some (.int .i64 (p0.2.1)) := Bx0.cell 1
  have k_Bx0_2 : W8.cell? ⟨W5.heap.size, 2, none⟩ = some (.slice Ax02 (p0.2.2.1.1).length cx02) := Bx0.cell 2
  have k_Bx0_3 : W8.cell? ⟨W5.heap.size, 3, none⟩ = some (.slice Ax03 (p0.2.2.1.2).length cx03) := Bx0.cell 3
  have k_Bx0_4 : W8.cell? ⟨W5.heap.size, 4, none⟩ = some (.slice Ax04 (p0.2.2.2.1.1).length cx04) := Bx0.cell 4
  have k_Bx0_5 : W8.cell? ⟨W5.heap.size, 5, none⟩ = some (.slice Ax05 (p0.2.2.2.1.2).length cx05) := Bx0.cell 5
  have k_Bx0_6 : W8.cell? ⟨W5.heap.size, 6, none⟩ = some (.slice Ax06 (p0.2.2.2.2).length cx06) := Bx0.cell 6
  have k_Bg0_0 : W8.cell? ⟨W7.heap.size, 0, none⟩ = some (.int .i64 (r0.1)) := Bg0.cell 0
  have k_Bg0_1 : W8.cell? ⟨W7.heap.size, 1, none⟩ = some (.int .i64 (r0.2.1)) := Bg0.cell 1
  have k_Bg0_2 : W8.cell? ⟨W7.heap.size, 2, none⟩ = some (.slice Ag02 (r0.2.2.1.1).length cg02) := Bg0.cell 2
  have k_Bg0_3 : W8.cell? ⟨W7.heap.size, 3, none⟩ = some (.slice Ag03 (r0.2.2.1.2).length cg03) := Bg0.cell 3
  have k_Bg0_4 : W8.cell? ⟨W7.heap.size, 4, none⟩ = some (.slice Ag04 (r0.2.2.2.1.1).length cg04) := Bg0.cell 4
  have k_Bg0_5 : W8.cell? ⟨W7.heap.size, 5, none⟩ = some (.slice Ag05 (r0.2.2.2.1.2).length cg05) := Bg0.cell 5
  have k_Bg0_6 : W8.cell? ⟨W7.heap.size, 6, none⟩ = some (.slice Ag06 (r0.2.2.2.2).length cg06) := Bg0.cell 6
  clear hb_
  go_wp2_with fail
  refine (o_eqHeldS ((tHeld.row).reach ((tHeld.row).read o_g1) ?hB) ((tHeld.row).reach ((tHeld.row).up r_s1 (by omega : W4.heap.size ≤ W8.heap.size)) ?hB)).mono ?_
  all_goals try (case hB => exact (belx))
  rintro e W9 ⟨rfl, hb_⟩
  clear k_Ba0_0 k_Ba0_1 k_Ba0_2 k_Ba0_3 k_Ba0_4 k_Ba0_5 k_Ba0_6
  clear k_Bs0_0 k_Bs0_1 k_Bs0_2 k_Bs0_3 k_Bs0_4 k_Bs0_5 k_Bs0_6
  clear k_Bx0_0 k_Bx0_1 k_Bx0_2 k_Bx0_3 k_Bx0_4 k_Bx0_5 k_Bx0_6
  clear k_Bg0_0 k_Bg0_1 k_Bg0_2 k_Bg0_3 k_Bg0_4 k_Bg0_5 k_Bg0_6
  have hs9 : Below W8.heap.size W8 W9 := bel_trans (belx) hb_
  have z9 : W8.heap.size + 0 ≤ W9.heap.size := by have := hb_.size; simpa using this
  have hB9 : Below w.heap.size w W9 := bel_trans hB8 hs9
  replace Ba0 := Ba0.below hs9 Ba0.size
  replace Bs0 := Bs0.below hs9 Bs0.size
  replace Bx0 := Bx0.below hs9 Bx0.size
  replace Bg0 := Bg0.below hs9 Bg0.size
  replace o_x0 := Ty.below (t := tNode) o_x0 hs9
  replace o_x2 := Ty.below (t := tBy) o_x2 hs9
  replace o_g0 := Ty.below (t := tNode) o_g0 hs9
  replace o_g1 := Ty.below (t := tHeld.row) o_g1 hs9
  replace r_s0 := (tNode).keep r_s0 (fun b hb => hs9.block b (Nat.lt_of_lt_of_le hb (by omega)))
  replace r_s1 := (tHeld.row).keep r_s1 (fun b hb => hs9.block b (Nat.lt_of_lt_of_le hb (by omega)))
  have k_Ba0_0 : W9.cell? ⟨w.heap.size, 0, none⟩ = some (.int .i64 (p0.1)) := Ba0.cell 0
  have k_Ba0_1 : W9.cell? ⟨w.heap.size, 1, none⟩ = some (.int .i64 (p0.2.1)) := Ba0.cell 1
  have k_Ba0_2 : W9.cell? ⟨w.heap.size, 2, none⟩ = some (.slice Aa02 na02 ca02) := Ba0.cell 2
  have k_Ba0_3 : W9.cell? ⟨w.heap.size, 3, none⟩ = some (.slice Aa03 na03 ca03) := Ba0.cell 3
  have k_Ba0_4 : W9.cell? ⟨w.heap.size, 4, none⟩ = some (.slice Aa04 na04 ca04) := Ba0.cell 4
  have k_Ba0_5 : W9.cell? ⟨w.heap.size, 5, none⟩ = some (.slice Aa05 na05 ca05) := Ba0.cell 5
  have k_Ba0_6 : W9.cell? ⟨w.heap.size, 6, none⟩ = some (.slice Aa06 na06 ca06) := Ba0.cell 6
  have k_Bs0_0 : W9.cell? ⟨W4.heap.size, 0, none⟩ = some (.int .i64 (r0.1)) := Bs0.cell 0
  have k_Bs0_1 : W9.cell? ⟨W4.heap.size, 1, none⟩ = some (.int .i64 (r0.2.1)) := Bs0.cell 1
  have k_Bs0_2 : W9.cell? ⟨W4.heap.size, 2, none⟩ = some (.slice As02 ns02 cs02) := Bs0.cell 2
  have k_Bs0_3 : W9.cell? ⟨W4.heap.size, 3, none⟩ = some (.slice As03 ns03 cs03) := Bs0.cell 3
  have k_Bs0_4 : W9.cell? ⟨W4.heap.size, 4, none⟩ = some (.slice As04 ns04 cs04) := Bs0.cell 4
  have k_Bs0_5 : W9.cell? ⟨W4.heap.size, 5, none⟩ = some (.slice As05 ns05 cs05) := Bs0.cell 5
  have k_Bs0_6 : W9.cell? ⟨W4.heap.size, 6, none⟩ = some (.slice As06 ns06 cs06) := Bs0.cell 6
  have k_Bx0_0 : W9.cell? ⟨W5.heap.size, 0, none⟩ = some (.int .i64 (p0.1)) := Bx0.cell 0
  have k_Bx0_1 : W9.cell? ⟨W5.heap.size, 1, none⟩ = some (.int .i64 (p0.2.1)) := Bx0.cell 1
  have k_Bx0_2 : W9.cell? ⟨W5.heap.size, 2, none⟩ = some (.slice Ax02 (p0.2.2.1.1).length cx02) := Bx0.cell 2
  have k_Bx0_3 : W9.cell? ⟨W5.heap.size, 3, none⟩ = some (.slice Ax03 (p0.2.2.1.2).length cx03) := Bx0.cell 3
  have k_Bx0_4 : W9.cell? ⟨W5.heap.size, 4, none⟩ = some (.slice Ax04 (p0.2.2.2.1.1).length cx04) := Bx0.cell 4
  have k_Bx0_5 : W9.cell? ⟨W5.heap.size, 5, none⟩ = some (.slice Ax05 (p0.2.2.2.1.2).length cx05) := Bx0.cell 5
  have k_Bx0_6 : W9.cell? ⟨W5.heap.size, 6, none⟩ = some (.slice Ax06 (p0.2.2.2.2).length cx06) := Bx0.cell 6
  have k_Bg0_0 : W9.cell? ⟨W7.heap.size, 0, none⟩ = some (.int .i64 (r0.1)) := Bg0.cell 0
  have k_Bg0_1 : W9.cell? ⟨W7.heap.size, 1, none⟩ = some (.int .i64 (r0.2.1)) := Bg0.cell 1
  have k_Bg0_2 : W9.cell? ⟨W7.heap.size, 2, none⟩ = some (.slice Ag02 (r0.2.2.1.1).length cg02) := Bg0.cell 2
  have k_Bg0_3 : W9.cell? ⟨W7.heap.size, 3, none⟩ = some (.slice Ag03 (r0.2.2.1.2).length cg03) := Bg0.cell 3
  have k_Bg0_4 : W9.cell? ⟨W7.heap.size, 4, none⟩ = some (.slice Ag04 (r0.2.2.2.1.1).length cg04) := Bg0.cell 4
  have k_Bg0_5 : W9.cell? ⟨W7.heap.size, 5, none⟩ = some (.slice Ag05 (r0.2.2.2.1.2).length cg05) := Bg0.cell 5
  have k_Bg0_6 : W9.cell? ⟨W7.heap.size, 6, none⟩ = some (.slice Ag06 (r0.2.2.2.2).length cg06) := Bg0.cell 6
  clear hb_
  go_wp2_with fail
  go_region_held3 (fun w' => w'.cell? ⟨w.heap.size, 0, none⟩ = some (.int .i64 (p0.1)) ∧ w'.cell? ⟨w.heap.size, 1, none⟩ = some (.int .i64 (p0.2.1)) ∧ w'.cell? ⟨w.heap.size, 2, none⟩ = some (.slice Aa02 na02 ca02) ∧ w'.cell? ⟨w.heap.size, 3, none⟩ = some (.slice Aa03 na03 ca03) ∧ w'.cell? ⟨w.heap.size, 4, none⟩ = some (.slice Aa04 na04 ca04) ∧ w'.cell? ⟨w.heap.size, 5, none⟩ = some (.slice Aa05 na05 ca05) ∧ w'.cell? ⟨w.heap.size, 6, none⟩ = some (.slice Aa06 na06 ca06) ∧ w'.cell? ⟨W5.heap.size, 0, none⟩ = some (.int .i64 (p0.1)) ∧ w'.cell? ⟨W5.heap.size, 1, none⟩ = some (.int .i64 (p0.2.1)) ∧ w'.cell? ⟨W5.heap.size, 2, none⟩ = some (.slice Ax02 (p0.2.2.1.1).length cx02) ∧ w'.cell? ⟨W5.heap.size, 3, none⟩ = some (.slice Ax03 (p0.2.2.1.2).length cx03) ∧ w'.cell? ⟨W5.heap.size, 4, none⟩ = some (.slice Ax04 (p0.2.2.2.1.1).length cx04) ∧ w'.cell? ⟨W5.heap.size, 5, none⟩ = some (.slice Ax05 (p0.2.2.2.1.2).length cx05) ∧ w'.cell? ⟨W5.heap.size, 6, none⟩ = some (.slice Ax06 (p0.2.2.2.2).length cx06)) (first | (exact ⟨k_Ba0_0, k_Ba0_1, k_Ba0_2, k_Ba0_3, k_Ba0_4, k_Ba0_5, k_Ba0_6, k_Bx0_0, k_Bx0_1, k_Bx0_2, k_Bx0_3, k_Bx0_4, k_Bx0_5, k_Bx0_6⟩) | (exact ⟨cell_bel hs11 k_Ba0_0, cell_bel hs11 k_Ba0_1, cell_bel hs11 k_Ba0_2, cell_bel hs11 k_Ba0_3, cell_bel hs11 k_Ba0_4, cell_bel hs11 k_Ba0_5, cell_bel hs11 k_Ba0_6, cell_bel hs11 k_Bx0_0, cell_bel hs11 k_Bx0_1, cell_bel hs11 k_Bx0_2, cell_bel hs11 k_Bx0_3, cell_bel hs11 k_Bx0_4, cell_bel hs11 k_Bx0_5, cell_bel hs11 k_Bx0_6⟩) | (exact ⟨cell_bel hs10 k_Ba0_0, cell_bel hs10 k_Ba0_1, cell_bel hs10 k_Ba0_2, cell_bel hs10 k_Ba0_3, cell_bel hs10 k_Ba0_4, cell_bel hs10 k_Ba0_5, cell_bel hs10 k_Ba0_6, cell_bel hs10 k_Bx0_0, cell_bel hs10 k_Bx0_1, cell_bel hs10 k_Bx0_2, cell_bel hs10 k_Bx0_3, cell_bel hs10 k_Bx0_4, cell_bel hs10 k_Bx0_5, cell_bel hs10 k_Bx0_6⟩) | go_keep)
    (first
      | (go_at_call 23; refine (o_toNode ((tNode).reach ((tNode).reach h0 hB9) (belx)) (by omega)).mono ?_; rintro e W10 ⟨csv, Fv, rfl, o_v, Nv, hb_⟩; have hs10 : Below W9.heap.size W9 W10 := bel_trans (belx) hb_)
      | (go_at_call 25; refine (o_eqNode ((tNode).reach ((tNode).reach ((tNode).read o_x0) hs10) (belx)) ((tNode).reach ((tNode).read o_v) (belx))).mono ?_; rintro e W11 ⟨rfl, hb2_⟩; have hs11' : Below W9.heap.size W9 W11 := bel_trans hs10 (bel_trans (belx) hb2_); have hs11 := hs11'))
  clear o_v Nv hb_ hb2_ hs10
  clear k_Ba0_0 k_Ba0_1 k_Ba0_2 k_Ba0_3 k_Ba0_4 k_Ba0_5 k_Ba0_6
  clear k_Bs0_0 k_Bs0_1 k_Bs0_2 k_Bs0_3 k_Bs0_4 k_Bs0_5 k_Bs0_6
  clear k_Bx0_0 k_Bx0_1 k_Bx0_2 k_Bx0_3 k_Bx0_4 k_Bx0_5 k_Bx0_6
  clear k_Bg0_0 k_Bg0_1 k_Bg0_2 k_Bg0_3 k_Bg0_4 k_Bg0_5 k_Bg0_6
  have z11 : W9.heap.size + 0 ≤ W11.heap.size := hs11'.size
  have hB11 : Below w.heap.size w W11 := bel_trans hB9 hs11'
  replace Ba0 := Ba0.below hs11' Ba0.size
  replace Bs0 := Bs0.below hs11' Bs0.size
  replace Bx0 := Bx0.below hs11' Bx0.size
  replace Bg0 := Bg0.below hs11' Bg0.size
  replace o_x0 := Ty.below (t := tNode) o_x0 hs11'
  replace o_x2 := Ty.below (t := tBy) o_x2 hs11'
  replace o_g0 := Ty.below (t := tNode) o_g0 hs11'
  replace o_g1 := Ty.below (t := tHeld.row) o_g1 hs11'
  replace r_s0 := (tNode).keep r_s0 (fun b hb => hs11'.block b (Nat.lt_of_lt_of_le hb (by omega)))
  replace r_s1 := (tHeld.row).keep r_s1 (fun b hb => hs11'.block b (Nat.lt_of_lt_of_le hb (by omega)))
  have k_Ba0_0 : W11.cell? ⟨w.heap.size, 0, none⟩ = some (.int .i64 (p0.1)) := Ba0.cell 0
  have k_Ba0_1 : W11.cell? ⟨w.heap.size, 1, none⟩ = some (.int .i64 (p0.2.1)) := Ba0.cell 1
  have k_Ba0_2 : W11.cell? ⟨w.heap.size, 2, none⟩ = some (.slice Aa02 na02 ca02) := Ba0.cell 2
  have k_Ba0_3 : W11.cell? ⟨w.heap.size, 3, none⟩ = some (.slice Aa03 na03 ca03) := Ba0.cell 3
  have k_Ba0_4 : W11.cell? ⟨w.heap.size, 4, none⟩ = some (.slice Aa04 na04 ca04) := Ba0.cell 4
  have k_Ba0_5 : W11.cell? ⟨w.heap.size, 5, none⟩ = some (.slice Aa05 na05 ca05) := Ba0.cell 5
  have k_Ba0_6 : W11.cell? ⟨w.heap.size, 6, none⟩ = some (.slice Aa06 na06 ca06) := Ba0.cell 6
  have k_Bs0_0 : W11.cell? ⟨W4.heap.size, 0, none⟩ = some (.int .i64 (r0.1)) := Bs0.cell 0
  have k_Bs0_1 : W11.cell? ⟨W4.heap.size, 1, none⟩ = some (.int .i64 (r0.2.1)) := Bs0.cell 1
  have k_Bs0_2 : W11.cell? ⟨W4.heap.size, 2, none⟩ = some (.slice As02 ns02 cs02) := Bs0.cell 2
  have k_Bs0_3 : W11.cell? ⟨W4.heap.size, 3, none⟩ = some (.slice As03 ns03 cs03) := Bs0.cell 3
  have k_Bs0_4 : W11.cell? ⟨W4.heap.size, 4, none⟩ = some (.slice As04 ns04 cs04) := Bs0.cell 4
  have k_Bs0_5 : W11.cell? ⟨W4.heap.size, 5, none⟩ = some (.slice As05 ns05 cs05) := Bs0.cell 5
  have k_Bs0_6 : W11.cell? ⟨W4.heap.size, 6, none⟩ = some (.slice As06 ns06 cs06) := Bs0.cell 6
  have k_Bx0_0 : W11.cell? ⟨W5.heap.size, 0, none⟩ = some (.int .i64 (p0.1)) := Bx0.cell 0
  have k_Bx0_1 : W11.cell? ⟨W5.heap.size, 1, none⟩ = some (.int .i64 (p0.2.1)) := Bx0.cell 1
  have k_Bx0_2 : W11.cell? ⟨W5.heap.size, 2, none⟩ = some (.slice Ax02 (p0.2.2.1.1).length cx02) := Bx0.cell 2
  have k_Bx0_3 : W11.cell? ⟨W5.heap.size, 3, none⟩ = some (.slice Ax03 (p0.2.2.1.2).length cx03) := Bx0.cell 3
  have k_Bx0_4 : W11.cell? ⟨W5.heap.size, 4, none⟩ = some (.slice Ax04 (p0.2.2.2.1.1).length cx04) := Bx0.cell 4
  have k_Bx0_5 : W11.cell? ⟨W5.heap.size, 5, none⟩ = some (.slice Ax05 (p0.2.2.2.1.2).length cx05) := Bx0.cell 5
  have k_Bx0_6 : W11.cell? ⟨W5.heap.size, 6, none⟩ = some (.slice Ax06 (p0.2.2.2.2).length cx06) := Bx0.cell 6
  have k_Bg0_0 : W11.cell? ⟨W7.heap.size, 0, none⟩ = some (.int .i64 (r0.1)) := Bg0.cell 0
  have k_Bg0_1 : W11.cell? ⟨W7.heap.size, 1, none⟩ = some (.int .i64 (r0.2.1)) := Bg0.cell 1
  have k_Bg0_2 : W11.cell? ⟨W7.heap.size, 2, none⟩ = some (.slice Ag02 (r0.2.2.1.1).length cg02) := Bg0.cell 2
  have k_Bg0_3 : W11.cell? ⟨W7.heap.size, 3, none⟩ = some (.slice Ag03 (r0.2.2.1.2).length cg03) := Bg0.cell 3
  have k_Bg0_4 : W11.cell? ⟨W7.heap.size, 4, none⟩ = some (.slice Ag04 (r0.2.2.2.1.1).length cg04) := Bg0.cell 4
  have k_Bg0_5 : W11.cell? ⟨W7.heap.size, 5, none⟩ = some (.slice Ag05 (r0.2.2.2.1.2).length cg05) := Bg0.cell 5
  have k_Bg0_6 : W11.cell? ⟨W7.heap.size, 6, none⟩ = some (.slice Ag06 (r0.2.2.2.2).length cg06) := Bg0.cell 6
  go_wp2_with fail
  refine (o_toByteSA ((tBy).reach ((tBy).reach h2 hB11) ?hB) (by omega)).mono ?_
  all_goals try (case hB => exact (belx))
  rintro e W12 ⟨Av, cv, Fv, rfl, o_v, Nv, ha_v, hb_⟩
  clear k_Ba0_0 k_Ba0_1 k_Ba0_2 k_Ba0_3 k_Ba0_4 k_Ba0_5 k_Ba0_6
  clear k_Bs0_0 k_Bs0_1 k_Bs0_2 k_Bs0_3 k_Bs0_4 k_Bs0_5 k_Bs0_6
  clear k_Bx0_0 k_Bx0_1 k_Bx0_2 k_Bx0_3 k_Bx0_4 k_Bx0_5 k_Bx0_6
  clear k_Bg0_0 k_Bg0_1 k_Bg0_2 k_Bg0_3 k_Bg0_4 k_Bg0_5 k_Bg0_6
  have Iv : ∀ f ∈ Fv, W11.heap.size + 0 ≤ f ∧ f < W12.heap.size := fun f hf => ⟨Nat.le_trans (by first | (simp; done) | (simp; omega)) (Nv.2 f hf), (tBy).lt o_v f hf⟩
  have Dv := Nv.1
  clear Nv
  have hs12 : Below W11.heap.size W11 W12 := bel_trans (belx) hb_
  have z12 : W11.heap.size + 0 ≤ W12.heap.size := by have := hb_.size; simpa using this
  have hB12 : Below w.heap.size w W12 := bel_trans hB11 hs12
  replace Ba0 := Ba0.below hs12 Ba0.size
  replace Bs0 := Bs0.below hs12 Bs0.size
  replace Bx0 := Bx0.below hs12 Bx0.size
  replace Bg0 := Bg0.below hs12 Bg0.size
  replace o_x0 := Ty.below (t := tNode) o_x0 hs12
  replace o_x2 := Ty.below (t := tBy) o_x2 hs12
  replace o_g0 := Ty.below (t := tNode) o_g0 hs12
  replace o_g1 := Ty.below (t := tHeld.row) o_g1 hs12
  replace r_s0 := (tNode).keep r_s0 (fun b hb => hs12.block b (Nat.lt_of_lt_of_le hb (by omega)))
  replace r_s1 := (tHeld.row).keep r_s1 (fun b hb => hs12.block b (Nat.lt_of_lt_of_le hb (by omega)))
  have k_Ba0_0 : W12.cell? ⟨w.heap.size, 0, none⟩ = some (.int .i64 (p0.1)) := Ba0.cell 0
  have k_Ba0_1 : W12.cell? ⟨w.heap.size, 1, none⟩ = some (.int .i64 (p0.2.1)) := Ba0.cell 1
  have k_Ba0_2 : W12.cell? ⟨w.heap.size, 2, none⟩ = some (.slice Aa02 na02 ca02) := Ba0.cell 2
  have k_Ba0_3 : W12.cell? ⟨w.heap.size, 3, none⟩ = some (.slice Aa03 na03 ca03) := Ba0.cell 3
  have k_Ba0_4 : W12.cell? ⟨w.heap.size, 4, none⟩ = some (.slice Aa04 na04 ca04) := Ba0.cell 4
  have k_Ba0_5 : W12.cell? ⟨w.heap.size, 5, none⟩ = some (.slice Aa05 na05 ca05) := Ba0.cell 5
  have k_Ba0_6 : W12.cell? ⟨w.heap.size, 6, none⟩ = some (.slice Aa06 na06 ca06) := Ba0.cell 6
  have k_Bs0_0 : W12.cell? ⟨W4.heap.size, 0, none⟩ = some (.int .i64 (r0.1)) := Bs0.cell 0
  have k_Bs0_1 : W12.cell? ⟨W4.heap.size, 1, none⟩ = some (.int .i64 (r0.2.1)) := Bs0.cell 1
  have k_Bs0_2 : W12.cell? ⟨W4.heap.size, 2, none⟩ = some (.slice As02 ns02 cs02) := Bs0.cell 2
  have k_Bs0_3 : W12.cell? ⟨W4.heap.size, 3, none⟩ = some (.slice As03 ns03 cs03) := Bs0.cell 3
  have k_Bs0_4 : W12.cell? ⟨W4.heap.size, 4, none⟩ = some (.slice As04 ns04 cs04) := Bs0.cell 4
  have k_Bs0_5 : W12.cell? ⟨W4.heap.size, 5, none⟩ = some (.slice As05 ns05 cs05) := Bs0.cell 5
  have k_Bs0_6 : W12.cell? ⟨W4.heap.size, 6, none⟩ = some (.slice As06 ns06 cs06) := Bs0.cell 6
  have k_Bx0_0 : W12.cell? ⟨W5.heap.size, 0, none⟩ = some (.int .i64 (p0.1)) := Bx0.cell 0
  have k_Bx0_1 : W12.cell? ⟨W5.heap.size, 1, none⟩ = some (.int .i64 (p0.2.1)) := Bx0.cell 1
  have k_Bx0_2 : W12.cell? ⟨W5.heap.size, 2, none⟩ = some (.slice Ax02 (p0.2.2.1.1).length cx02) := Bx0.cell 2
  have k_Bx0_3 : W12.cell? ⟨W5.heap.size, 3, none⟩ = some (.slice Ax03 (p0.2.2.1.2).length cx03) := Bx0.cell 3
  have k_Bx0_4 : W12.cell? ⟨W5.heap.size, 4, none⟩ = some (.slice Ax04 (p0.2.2.2.1.1).length cx04) := Bx0.cell 4
  have k_Bx0_5 : W12.cell? ⟨W5.heap.size, 5, none⟩ = some (.slice Ax05 (p0.2.2.2.1.2).length cx05) := Bx0.cell 5
  have k_Bx0_6 : W12.cell? ⟨W5.heap.size, 6, none⟩ = some (.slice Ax06 (p0.2.2.2.2).length cx06) := Bx0.cell 6
  have k_Bg0_0 : W12.cell? ⟨W7.heap.size, 0, none⟩ = some (.int .i64 (r0.1)) := Bg0.cell 0
  have k_Bg0_1 : W12.cell? ⟨W7.heap.size, 1, none⟩ = some (.int .i64 (r0.2.1)) := Bg0.cell 1
  have k_Bg0_2 : W12.cell? ⟨W7.heap.size, 2, none⟩ = some (.slice Ag02 (r0.2.2.1.1).length cg02) := Bg0.cell 2
  have k_Bg0_3 : W12.cell? ⟨W7.heap.size, 3, none⟩ = some (.slice Ag03 (r0.2.2.1.2).length cg03) := Bg0.cell 3
  have k_Bg0_4 : W12.cell? ⟨W7.heap.size, 4, none⟩ = some (.slice Ag04 (r0.2.2.2.1.1).length cg04) := Bg0.cell 4
  have k_Bg0_5 : W12.cell? ⟨W7.heap.size, 5, none⟩ = some (.slice Ag05 (r0.2.2.2.1.2).length cg05) := Bg0.cell 5
  have k_Bg0_6 : W12.cell? ⟨W7.heap.size, 6, none⟩ = some (.slice Ag06 (r0.2.2.2.2).length cg06) := Bg0.cell 6
  clear hb_
  go_wp2_with fail
  refine (o_eqByteS ((tBy).reach ((tBy).read o_x2) ?hB) ((tBy).reach ((tBy).read o_v) ?hB)).mono ?_
  all_goals try (case hB => exact (belx))
  rintro e W13 ⟨rfl, hb_⟩
  clear k_Ba0_0 k_Ba0_1 k_Ba0_2 k_Ba0_3 k_Ba0_4 k_Ba0_5 k_Ba0_6
  clear k_Bs0_0 k_Bs0_1 k_Bs0_2 k_Bs0_3 k_Bs0_4 k_Bs0_5 k_Bs0_6
  clear k_Bx0_0 k_Bx0_1 k_Bx0_2 k_Bx0_3 k_Bx0_4 k_Bx0_5 k_Bx0_6
  clear k_Bg0_0 k_Bg0_1 k_Bg0_2 k_Bg0_3 k_Bg0_4 k_Bg0_5 k_Bg0_6
  clear o_v Iv Dv
  have hs13 : Below W12.heap.size W12 W13 := bel_trans (belx) hb_
  have z13 : W12.heap.size + 0 ≤ W13.heap.size := by have := hb_.size; simpa using this
  have hB13 : Below w.heap.size w W13 := bel_trans hB12 hs13
  replace Ba0 := Ba0.below hs13 Ba0.size
  replace Bs0 := Bs0.below hs13 Bs0.size
  replace Bx0 := Bx0.below hs13 Bx0.size
  replace Bg0 := Bg0.below hs13 Bg0.size
  replace o_x0 := Ty.below (t := tNode) o_x0 hs13
  replace o_x2 := Ty.below (t := tBy) o_x2 hs13
  replace o_g0 := Ty.below (t := tNode) o_g0 hs13
  replace o_g1 := Ty.below (t := tHeld.row) o_g1 hs13
  replace r_s0 := (tNode).keep r_s0 (fun b hb => hs13.block b (Nat.lt_of_lt_of_le hb (by omega)))
  replace r_s1 := (tHeld.row).keep r_s1 (fun b hb => hs13.block b (Nat.lt_of_lt_of_le hb (by omega)))
  have k_Ba0_0 : W13.cell? ⟨w.heap.size, 0, none⟩ = some (.int .i64 (p0.1)) := Ba0.cell 0
  have k_Ba0_1 : W13.cell? ⟨w.heap.size, 1, none⟩ = some (.int .i64 (p0.2.1)) := Ba0.cell 1
  have k_Ba0_2 : W13.cell? ⟨w.heap.size, 2, none⟩ = some (.slice Aa02 na02 ca02) := Ba0.cell 2
  have k_Ba0_3 : W13.cell? ⟨w.heap.size, 3, none⟩ = some (.slice Aa03 na03 ca03) := Ba0.cell 3
  have k_Ba0_4 : W13.cell? ⟨w.heap.size, 4, none⟩ = some (.slice Aa04 na04 ca04) := Ba0.cell 4
  have k_Ba0_5 : W13.cell? ⟨w.heap.size, 5, none⟩ = some (.slice Aa05 na05 ca05) := Ba0.cell 5
  have k_Ba0_6 : W13.cell? ⟨w.heap.size, 6, none⟩ = some (.slice Aa06 na06 ca06) := Ba0.cell 6
  have k_Bs0_0 : W13.cell? ⟨W4.heap.size, 0, none⟩ = some (.int .i64 (r0.1)) := Bs0.cell 0
  have k_Bs0_1 : W13.cell? ⟨W4.heap.size, 1, none⟩ = some (.int .i64 (r0.2.1)) := Bs0.cell 1
  have k_Bs0_2 : W13.cell? ⟨W4.heap.size, 2, none⟩ = some (.slice As02 ns02 cs02) := Bs0.cell 2
  have k_Bs0_3 : W13.cell? ⟨W4.heap.size, 3, none⟩ = some (.slice As03 ns03 cs03) := Bs0.cell 3
  have k_Bs0_4 : W13.cell? ⟨W4.heap.size, 4, none⟩ = some (.slice As04 ns04 cs04) := Bs0.cell 4
  have k_Bs0_5 : W13.cell? ⟨W4.heap.size, 5, none⟩ = some (.slice As05 ns05 cs05) := Bs0.cell 5
  have k_Bs0_6 : W13.cell? ⟨W4.heap.size, 6, none⟩ = some (.slice As06 ns06 cs06) := Bs0.cell 6
  have k_Bx0_0 : W13.cell? ⟨W5.heap.size, 0, none⟩ = some (.int .i64 (p0.1)) := Bx0.cell 0
  have k_Bx0_1 : W13.cell? ⟨W5.heap.size, 1, none⟩ = some (.int .i64 (p0.2.1)) := Bx0.cell 1
  have k_Bx0_2 : W13.cell? ⟨W5.heap.size, 2, none⟩ = some (.slice Ax02 (p0.2.2.1.1).length cx02) := Bx0.cell 2
  have k_Bx0_3 : W13.cell? ⟨W5.heap.size, 3, none⟩ = some (.slice Ax03 (p0.2.2.1.2).length cx03) := Bx0.cell 3
  have k_Bx0_4 : W13.cell? ⟨W5.heap.size, 4, none⟩ = some (.slice Ax04 (p0.2.2.2.1.1).length cx04) := Bx0.cell 4
  have k_Bx0_5 : W13.cell? ⟨W5.heap.size, 5, none⟩ = some (.slice Ax05 (p0.2.2.2.1.2).length cx05) := Bx0.cell 5
  have k_Bx0_6 : W13.cell? ⟨W5.heap.size, 6, none⟩ = some (.slice Ax06 (p0.2.2.2.2).length cx06) := Bx0.cell 6
  have k_Bg0_0 : W13.cell? ⟨W7.heap.size, 0, none⟩ = some (.int .i64 (r0.1)) := Bg0.cell 0
  have k_Bg0_1 : W13.cell? ⟨W7.heap.size, 1, none⟩ = some (.int .i64 (r0.2.1)) := Bg0.cell 1
  have k_Bg0_2 : W13.cell? ⟨W7.heap.size, 2, none⟩ = some (.slice Ag02 (r0.2.2.1.1).length cg02) := Bg0.cell 2
  have k_Bg0_3 : W13.cell? ⟨W7.heap.size, 3, none⟩ = some (.slice Ag03 (r0.2.2.1.2).length cg03) := Bg0.cell 3
  have k_Bg0_4 : W13.cell? ⟨W7.heap.size, 4, none⟩ = some (.slice Ag04 (r0.2.2.2.1.1).length cg04) := Bg0.cell 4
  have k_Bg0_5 : W13.cell? ⟨W7.heap.size, 5, none⟩ = some (.slice Ag05 (r0.2.2.2.1.2).length cg05) := Bg0.cell 5
  have k_Bg0_6 : W13.cell? ⟨W7.heap.size, 6, none⟩ = some (.slice Ag06 (r0.2.2.2.2).length cg06) := Bg0.cell 6
  clear hb_
  go_wp2_with fail
  refine (o_markNode (1) o_x0 Dx0 (by omega) (by omega)).mono ?_
  rintro e W14 ⟨rfl, om_, hG_⟩
  clear k_Ba0_0 k_Ba0_1 k_Ba0_2 k_Ba0_3 k_Ba0_4 k_Ba0_5 k_Ba0_6
  clear k_Bs0_0 k_Bs0_1 k_Bs0_2 k_Bs0_3 k_Bs0_4 k_Bs0_5 k_Bs0_6
  clear k_Bx0_0 k_Bx0_1 k_Bx0_2 k_Bx0_3 k_Bx0_4 k_Bx0_5 k_Bx0_6
  clear k_Bg0_0 k_Bg0_1 k_Bg0_2 k_Bg0_3 k_Bg0_4 k_Bg0_5 k_Bg0_6
  replace o_x0 := om_
  clear om_
  have z14 : W13.heap.size + 0 ≤ W14.heap.size := hG_.size
  have hB14 : Below w.heap.size w W14 := hB13.trans (hG_.below (fun f hf => by have := Ix0 f hf; omega) (by have := hB13.size; omega))
  replace Ba0 := Ba0.same (hG_.block _ Ba0.size (fun hx => by have := Ix0 _ hx; omega))
  replace Bs0 := Bs0.same (hG_.block _ Bs0.size (fun hx => by have := Ix0 _ hx; omega))
  replace Bx0 := Bx0.same (hG_.block _ Bx0.size (fun hx => by have := Ix0 _ hx; omega))
  replace Bg0 := Bg0.same (hG_.block _ Bg0.size (fun hx => by have := Ix0 _ hx; omega))
  replace o_x2 := Ty.only (t := tBy) o_x2 hG_ (fun f hf hx => by have := Ix2 f hf; have := Ix0 f hx; omega)
  replace o_g0 := Ty.only (t := tNode) o_g0 hG_ (fun f hf hx => by have := Ig0 f hf; have := Ix0 f hx; omega)
  replace o_g1 := Ty.only (t := tHeld.row) o_g1 hG_ (fun f hf hx => by have := Ig1 f hf; have := Ix0 f hx; omega)
  replace r_s0 := (tNode).keep r_s0 (fun b hb => hG_.block b (Nat.lt_of_lt_of_le hb (by omega)) (fun hx => by have := Ix0 b hx; omega))
  replace r_s1 := (tHeld.row).keep r_s1 (fun b hb => hG_.block b (Nat.lt_of_lt_of_le hb (by omega)) (fun hx => by have := Ix0 b hx; omega))
  have k_Ba0_0 : W14.cell? ⟨w.heap.size, 0, none⟩ = some (.int .i64 (p0.1)) := Ba0.cell 0
  have k_Ba0_1 : W14.cell? ⟨w.heap.size, 1, none⟩ = some (.int .i64 (p0.2.1)) := Ba0.cell 1
  have k_Ba0_2 : W14.cell? ⟨w.heap.size, 2, none⟩ = some (.slice Aa02 na02 ca02) := Ba0.cell 2
  have k_Ba0_3 : W14.cell? ⟨w.heap.size, 3, none⟩ = some (.slice Aa03 na03 ca03) := Ba0.cell 3
  have k_Ba0_4 : W14.cell? ⟨w.heap.size, 4, none⟩ = some (.slice Aa04 na04 ca04) := Ba0.cell 4
  have k_Ba0_5 : W14.cell? ⟨w.heap.size, 5, none⟩ = some (.slice Aa05 na05 ca05) := Ba0.cell 5
  have k_Ba0_6 : W14.cell? ⟨w.heap.size, 6, none⟩ = some (.slice Aa06 na06 ca06) := Ba0.cell 6
  have k_Bs0_0 : W14.cell? ⟨W4.heap.size, 0, none⟩ = some (.int .i64 (r0.1)) := Bs0.cell 0
  have k_Bs0_1 : W14.cell? ⟨W4.heap.size, 1, none⟩ = some (.int .i64 (r0.2.1)) := Bs0.cell 1
  have k_Bs0_2 : W14.cell? ⟨W4.heap.size, 2, none⟩ = some (.slice As02 ns02 cs02) := Bs0.cell 2
  have k_Bs0_3 : W14.cell? ⟨W4.heap.size, 3, none⟩ = some (.slice As03 ns03 cs03) := Bs0.cell 3
  have k_Bs0_4 : W14.cell? ⟨W4.heap.size, 4, none⟩ = some (.slice As04 ns04 cs04) := Bs0.cell 4
  have k_Bs0_5 : W14.cell? ⟨W4.heap.size, 5, none⟩ = some (.slice As05 ns05 cs05) := Bs0.cell 5
  have k_Bs0_6 : W14.cell? ⟨W4.heap.size, 6, none⟩ = some (.slice As06 ns06 cs06) := Bs0.cell 6
  have k_Bx0_0 : W14.cell? ⟨W5.heap.size, 0, none⟩ = some (.int .i64 (p0.1)) := Bx0.cell 0
  have k_Bx0_1 : W14.cell? ⟨W5.heap.size, 1, none⟩ = some (.int .i64 (p0.2.1)) := Bx0.cell 1
  have k_Bx0_2 : W14.cell? ⟨W5.heap.size, 2, none⟩ = some (.slice Ax02 (p0.2.2.1.1).length cx02) := Bx0.cell 2
  have k_Bx0_3 : W14.cell? ⟨W5.heap.size, 3, none⟩ = some (.slice Ax03 (p0.2.2.1.2).length cx03) := Bx0.cell 3
  have k_Bx0_4 : W14.cell? ⟨W5.heap.size, 4, none⟩ = some (.slice Ax04 (p0.2.2.2.1.1).length cx04) := Bx0.cell 4
  have k_Bx0_5 : W14.cell? ⟨W5.heap.size, 5, none⟩ = some (.slice Ax05 (p0.2.2.2.1.2).length cx05) := Bx0.cell 5
  have k_Bx0_6 : W14.cell? ⟨W5.heap.size, 6, none⟩ = some (.slice Ax06 (p0.2.2.2.2).length cx06) := Bx0.cell 6
  have k_Bg0_0 : W14.cell? ⟨W7.heap.size, 0, none⟩ = some (.int .i64 (r0.1)) := Bg0.cell 0
  have k_Bg0_1 : W14.cell? ⟨W7.heap.size, 1, none⟩ = some (.int .i64 (r0.2.1)) := Bg0.cell 1
  have k_Bg0_2 : W14.cell? ⟨W7.heap.size, 2, none⟩ = some (.slice Ag02 (r0.2.2.1.1).length cg02) := Bg0.cell 2
  have k_Bg0_3 : W14.cell? ⟨W7.heap.size, 3, none⟩ = some (.slice Ag03 (r0.2.2.1.2).length cg03) := Bg0.cell 3
  have k_Bg0_4 : W14.cell? ⟨W7.heap.size, 4, none⟩ = some (.slice Ag04 (r0.2.2.2.1.1).length cg04) := Bg0.cell 4
  have k_Bg0_5 : W14.cell? ⟨W7.heap.size, 5, none⟩ = some (.slice Ag05 (r0.2.2.2.1.2).length cg05) := Bg0.cell 5
  have k_Bg0_6 : W14.cell? ⟨W7.heap.size, 6, none⟩ = some (.slice Ag06 (r0.2.2.2.2).length cg06) := Bg0.cell 6
  clear hG_
  go_wp2_with fail
  refine (o_markByteS (1 + ((cntNode (p0) : Nat) : Int)) o_x2 (by omega) (by omega)).mono ?_
  rintro e W15 ⟨rfl, om_, hG_⟩
  clear k_Ba0_0 k_Ba0_1 k_Ba0_2 k_Ba0_3 k_Ba0_4 k_Ba0_5 k_Ba0_6
  clear k_Bs0_0 k_Bs0_1 k_Bs0_2 k_Bs0_3 k_Bs0_4 k_Bs0_5 k_Bs0_6
  clear k_Bx0_0 k_Bx0_1 k_Bx0_2 k_Bx0_3 k_Bx0_4 k_Bx0_5 k_Bx0_6
  clear k_Bg0_0 k_Bg0_1 k_Bg0_2 k_Bg0_3 k_Bg0_4 k_Bg0_5 k_Bg0_6
  replace o_x2 := om_
  clear om_
  have z15 : W14.heap.size + 0 ≤ W15.heap.size := hG_.size
  have hB15 : Below w.heap.size w W15 := hB14.trans (hG_.below (fun f hf => by have := Ix2 f hf; omega) (by have := hB14.size; omega))
  replace Ba0 := Ba0.same (hG_.block _ Ba0.size (fun hx => by have := Ix2 _ hx; omega))
  replace Bs0 := Bs0.same (hG_.block _ Bs0.size (fun hx => by have := Ix2 _ hx; omega))
  replace Bx0 := Bx0.same (hG_.block _ Bx0.size (fun hx => by have := Ix2 _ hx; omega))
  replace Bg0 := Bg0.same (hG_.block _ Bg0.size (fun hx => by have := Ix2 _ hx; omega))
  replace o_x0 := Ty.only (t := tNode) o_x0 hG_ (fun f hf hx => by have := Ix0 f hf; have := Ix2 f hx; omega)
  replace o_g0 := Ty.only (t := tNode) o_g0 hG_ (fun f hf hx => by have := Ig0 f hf; have := Ix2 f hx; omega)
  replace o_g1 := Ty.only (t := tHeld.row) o_g1 hG_ (fun f hf hx => by have := Ig1 f hf; have := Ix2 f hx; omega)
  replace r_s0 := (tNode).keep r_s0 (fun b hb => hG_.block b (Nat.lt_of_lt_of_le hb (by omega)) (fun hx => by have := Ix2 b hx; omega))
  replace r_s1 := (tHeld.row).keep r_s1 (fun b hb => hG_.block b (Nat.lt_of_lt_of_le hb (by omega)) (fun hx => by have := Ix2 b hx; omega))
  have k_Ba0_0 : W15.cell? ⟨w.heap.size, 0, none⟩ = some (.int .i64 (p0.1)) := Ba0.cell 0
  have k_Ba0_1 : W15.cell? ⟨w.heap.size, 1, none⟩ = some (.int .i64 (p0.2.1)) := Ba0.cell 1
  have k_Ba0_2 : W15.cell? ⟨w.heap.size, 2, none⟩ = some (.slice Aa02 na02 ca02) := Ba0.cell 2
  have k_Ba0_3 : W15.cell? ⟨w.heap.size, 3, none⟩ = some (.slice Aa03 na03 ca03) := Ba0.cell 3
  have k_Ba0_4 : W15.cell? ⟨w.heap.size, 4, none⟩ = some (.slice Aa04 na04 ca04) := Ba0.cell 4
  have k_Ba0_5 : W15.cell? ⟨w.heap.size, 5, none⟩ = some (.slice Aa05 na05 ca05) := Ba0.cell 5
  have k_Ba0_6 : W15.cell? ⟨w.heap.size, 6, none⟩ = some (.slice Aa06 na06 ca06) := Ba0.cell 6
  have k_Bs0_0 : W15.cell? ⟨W4.heap.size, 0, none⟩ = some (.int .i64 (r0.1)) := Bs0.cell 0
  have k_Bs0_1 : W15.cell? ⟨W4.heap.size, 1, none⟩ = some (.int .i64 (r0.2.1)) := Bs0.cell 1
  have k_Bs0_2 : W15.cell? ⟨W4.heap.size, 2, none⟩ = some (.slice As02 ns02 cs02) := Bs0.cell 2
  have k_Bs0_3 : W15.cell? ⟨W4.heap.size, 3, none⟩ = some (.slice As03 ns03 cs03) := Bs0.cell 3
  have k_Bs0_4 : W15.cell? ⟨W4.heap.size, 4, none⟩ = some (.slice As04 ns04 cs04) := Bs0.cell 4
  have k_Bs0_5 : W15.cell? ⟨W4.heap.size, 5, none⟩ = some (.slice As05 ns05 cs05) := Bs0.cell 5
  have k_Bs0_6 : W15.cell? ⟨W4.heap.size, 6, none⟩ = some (.slice As06 ns06 cs06) := Bs0.cell 6
  have k_Bx0_0 : W15.cell? ⟨W5.heap.size, 0, none⟩ = some (.int .i64 (p0.1)) := Bx0.cell 0
  have k_Bx0_1 : W15.cell? ⟨W5.heap.size, 1, none⟩ = some (.int .i64 (p0.2.1)) := Bx0.cell 1
  have k_Bx0_2 : W15.cell? ⟨W5.heap.size, 2, none⟩ = some (.slice Ax02 (p0.2.2.1.1).length cx02) := Bx0.cell 2
  have k_Bx0_3 : W15.cell? ⟨W5.heap.size, 3, none⟩ = some (.slice Ax03 (p0.2.2.1.2).length cx03) := Bx0.cell 3
  have k_Bx0_4 : W15.cell? ⟨W5.heap.size, 4, none⟩ = some (.slice Ax04 (p0.2.2.2.1.1).length cx04) := Bx0.cell 4
  have k_Bx0_5 : W15.cell? ⟨W5.heap.size, 5, none⟩ = some (.slice Ax05 (p0.2.2.2.1.2).length cx05) := Bx0.cell 5
  have k_Bx0_6 : W15.cell? ⟨W5.heap.size, 6, none⟩ = some (.slice Ax06 (p0.2.2.2.2).length cx06) := Bx0.cell 6
  have k_Bg0_0 : W15.cell? ⟨W7.heap.size, 0, none⟩ = some (.int .i64 (r0.1)) := Bg0.cell 0
  have k_Bg0_1 : W15.cell? ⟨W7.heap.size, 1, none⟩ = some (.int .i64 (r0.2.1)) := Bg0.cell 1
  have k_Bg0_2 : W15.cell? ⟨W7.heap.size, 2, none⟩ = some (.slice Ag02 (r0.2.2.1.1).length cg02) := Bg0.cell 2
  have k_Bg0_3 : W15.cell? ⟨W7.heap.size, 3, none⟩ = some (.slice Ag03 (r0.2.2.1.2).length cg03) := Bg0.cell 3
  have k_Bg0_4 : W15.cell? ⟨W7.heap.size, 4, none⟩ = some (.slice Ag04 (r0.2.2.2.1.1).length cg04) := Bg0.cell 4
  have k_Bg0_5 : W15.cell? ⟨W7.heap.size, 5, none⟩ = some (.slice Ag05 (r0.2.2.2.1.2).length cg05) := Bg0.cell 5
  have k_Bg0_6 : W15.cell? ⟨W7.heap.size, 6, none⟩ = some (.slice Ag06 (r0.2.2.2.2).length cg06) := Bg0.cell 6
  clear hG_
  have dk : decide ((1 + ((cntNode (p0) : Nat) : Int) + (((p2).length : Nat) : Int) : Int) < 0) = false := by simp; omega
  clear o_x0 Ix0 Dx0
  clear o_x2 Ix2 Dx2
  go_wp2_with fail
  refine (o_eqNode ((tNode).reach ((tNode).read o_g0) ?hB) ((tNode).reach ((tNode).up r_s0 (by omega : W4.heap.size ≤ W15.heap.size)) ?hB)).mono ?_
  all_goals try (case hB => exact (belx))
  rintro e W16 ⟨rfl, hb_⟩
  clear k_Ba0_0 k_Ba0_1 k_Ba0_2 k_Ba0_3 k_Ba0_4 k_Ba0_5 k_Ba0_6
  clear k_Bs0_0 k_Bs0_1 k_Bs0_2 k_Bs0_3 k_Bs0_4 k_Bs0_5 k_Bs0_6
  clear k_Bx0_0 k_Bx0_1 k_Bx0_2 k_Bx0_3 k_Bx0_4 k_Bx0_5 k_Bx0_6
  clear k_Bg0_0 k_Bg0_1 k_Bg0_2 k_Bg0_3 k_Bg0_4 k_Bg0_5 k_Bg0_6
  have hs16 : Below W15.heap.size W15 W16 := bel_trans (belx) hb_
  have z16 : W15.heap.size + 0 ≤ W16.heap.size := by have := hb_.size; simpa using this
  have hB16 : Below w.heap.size w W16 := bel_trans hB15 hs16
  replace Ba0 := Ba0.below hs16 Ba0.size
  replace Bs0 := Bs0.below hs16 Bs0.size
  replace Bx0 := Bx0.below hs16 Bx0.size
  replace Bg0 := Bg0.below hs16 Bg0.size
  replace o_g0 := Ty.below (t := tNode) o_g0 hs16
  replace o_g1 := Ty.below (t := tHeld.row) o_g1 hs16
  replace r_s0 := (tNode).keep r_s0 (fun b hb => hs16.block b (Nat.lt_of_lt_of_le hb (by omega)))
  replace r_s1 := (tHeld.row).keep r_s1 (fun b hb => hs16.block b (Nat.lt_of_lt_of_le hb (by omega)))
  have k_Ba0_0 : W16.cell? ⟨w.heap.size, 0, none⟩ = some (.int .i64 (p0.1)) := Ba0.cell 0
  have k_Ba0_1 : W16.cell? ⟨w.heap.size, 1, none⟩ = some (.int .i64 (p0.2.1)) := Ba0.cell 1
  have k_Ba0_2 : W16.cell? ⟨w.heap.size, 2, none⟩ = some (.slice Aa02 na02 ca02) := Ba0.cell 2
  have k_Ba0_3 : W16.cell? ⟨w.heap.size, 3, none⟩ = some (.slice Aa03 na03 ca03) := Ba0.cell 3
  have k_Ba0_4 : W16.cell? ⟨w.heap.size, 4, none⟩ = some (.slice Aa04 na04 ca04) := Ba0.cell 4
  have k_Ba0_5 : W16.cell? ⟨w.heap.size, 5, none⟩ = some (.slice Aa05 na05 ca05) := Ba0.cell 5
  have k_Ba0_6 : W16.cell? ⟨w.heap.size, 6, none⟩ = some (.slice Aa06 na06 ca06) := Ba0.cell 6
  have k_Bs0_0 : W16.cell? ⟨W4.heap.size, 0, none⟩ = some (.int .i64 (r0.1)) := Bs0.cell 0
  have k_Bs0_1 : W16.cell? ⟨W4.heap.size, 1, none⟩ = some (.int .i64 (r0.2.1)) := Bs0.cell 1
  have k_Bs0_2 : W16.cell? ⟨W4.heap.size, 2, none⟩ = some (.slice As02 ns02 cs02) := Bs0.cell 2
  have k_Bs0_3 : W16.cell? ⟨W4.heap.size, 3, none⟩ = some (.slice As03 ns03 cs03) := Bs0.cell 3
  have k_Bs0_4 : W16.cell? ⟨W4.heap.size, 4, none⟩ = some (.slice As04 ns04 cs04) := Bs0.cell 4
  have k_Bs0_5 : W16.cell? ⟨W4.heap.size, 5, none⟩ = some (.slice As05 ns05 cs05) := Bs0.cell 5
  have k_Bs0_6 : W16.cell? ⟨W4.heap.size, 6, none⟩ = some (.slice As06 ns06 cs06) := Bs0.cell 6
  have k_Bx0_0 : W16.cell? ⟨W5.heap.size, 0, none⟩ = some (.int .i64 (p0.1)) := Bx0.cell 0
  have k_Bx0_1 : W16.cell? ⟨W5.heap.size, 1, none⟩ = some (.int .i64 (p0.2.1)) := Bx0.cell 1
  have k_Bx0_2 : W16.cell? ⟨W5.heap.size, 2, none⟩ = some (.slice Ax02 (p0.2.2.1.1).length cx02) := Bx0.cell 2
  have k_Bx0_3 : W16.cell? ⟨W5.heap.size, 3, none⟩ = some (.slice Ax03 (p0.2.2.1.2).length cx03) := Bx0.cell 3
  have k_Bx0_4 : W16.cell? ⟨W5.heap.size, 4, none⟩ = some (.slice Ax04 (p0.2.2.2.1.1).length cx04) := Bx0.cell 4
  have k_Bx0_5 : W16.cell? ⟨W5.heap.size, 5, none⟩ = some (.slice Ax05 (p0.2.2.2.1.2).length cx05) := Bx0.cell 5
  have k_Bx0_6 : W16.cell? ⟨W5.heap.size, 6, none⟩ = some (.slice Ax06 (p0.2.2.2.2).length cx06) := Bx0.cell 6
  have k_Bg0_0 : W16.cell? ⟨W7.heap.size, 0, none⟩ = some (.int .i64 (r0.1)) := Bg0.cell 0
  have k_Bg0_1 : W16.cell? ⟨W7.heap.size, 1, none⟩ = some (.int .i64 (r0.2.1)) := Bg0.cell 1
  have k_Bg0_2 : W16.cell? ⟨W7.heap.size, 2, none⟩ = some (.slice Ag02 (r0.2.2.1.1).length cg02) := Bg0.cell 2
  have k_Bg0_3 : W16.cell? ⟨W7.heap.size, 3, none⟩ = some (.slice Ag03 (r0.2.2.1.2).length cg03) := Bg0.cell 3
  have k_Bg0_4 : W16.cell? ⟨W7.heap.size, 4, none⟩ = some (.slice Ag04 (r0.2.2.2.1.1).length cg04) := Bg0.cell 4
  have k_Bg0_5 : W16.cell? ⟨W7.heap.size, 5, none⟩ = some (.slice Ag05 (r0.2.2.2.1.2).length cg05) := Bg0.cell 5
  have k_Bg0_6 : W16.cell? ⟨W7.heap.size, 6, none⟩ = some (.slice Ag06 (r0.2.2.2.2).length cg06) := Bg0.cell 6
  clear hb_
  go_wp2_with fail
  refine (o_eqHeldS ((tHeld.row).reach ((tHeld.row).read o_g1) ?hB) ((tHeld.row).reach ((tHeld.row).up r_s1 (by omega : W4.heap.size ≤ W16.heap.size)) ?hB)).mono ?_
  all_goals try (case hB => exact (belx))
  rintro e W17 ⟨rfl, hb_⟩
  clear k_Ba0_0 k_Ba0_1 k_Ba0_2 k_Ba0_3 k_Ba0_4 k_Ba0_5 k_Ba0_6
  clear k_Bs0_0 k_Bs0_1 k_Bs0_2 k_Bs0_3 k_Bs0_4 k_Bs0_5 k_Bs0_6
  clear k_Bx0_0 k_Bx0_1 k_Bx0_2 k_Bx0_3 k_Bx0_4 k_Bx0_5 k_Bx0_6
  clear k_Bg0_0 k_Bg0_1 k_Bg0_2 k_Bg0_3 k_Bg0_4 k_Bg0_5 k_Bg0_6
  have hs17 : Below W16.heap.size W16 W17 := bel_trans (belx) hb_
  have z17 : W16.heap.size + 0 ≤ W17.heap.size := by have := hb_.size; simpa using this
  have hB17 : Below w.heap.size w W17 := bel_trans hB16 hs17
  replace Ba0 := Ba0.below hs17 Ba0.size
  replace Bs0 := Bs0.below hs17 Bs0.size
  replace Bx0 := Bx0.below hs17 Bx0.size
  replace Bg0 := Bg0.below hs17 Bg0.size
  replace o_g0 := Ty.below (t := tNode) o_g0 hs17
  replace o_g1 := Ty.below (t := tHeld.row) o_g1 hs17
  replace r_s0 := (tNode).keep r_s0 (fun b hb => hs17.block b (Nat.lt_of_lt_of_le hb (by omega)))
  replace r_s1 := (tHeld.row).keep r_s1 (fun b hb => hs17.block b (Nat.lt_of_lt_of_le hb (by omega)))
  have k_Ba0_0 : W17.cell? ⟨w.heap.size, 0, none⟩ = some (.int .i64 (p0.1)) := Ba0.cell 0
  have k_Ba0_1 : W17.cell? ⟨w.heap.size, 1, none⟩ = some (.int .i64 (p0.2.1)) := Ba0.cell 1
  have k_Ba0_2 : W17.cell? ⟨w.heap.size, 2, none⟩ = some (.slice Aa02 na02 ca02) := Ba0.cell 2
  have k_Ba0_3 : W17.cell? ⟨w.heap.size, 3, none⟩ = some (.slice Aa03 na03 ca03) := Ba0.cell 3
  have k_Ba0_4 : W17.cell? ⟨w.heap.size, 4, none⟩ = some (.slice Aa04 na04 ca04) := Ba0.cell 4
  have k_Ba0_5 : W17.cell? ⟨w.heap.size, 5, none⟩ = some (.slice Aa05 na05 ca05) := Ba0.cell 5
  have k_Ba0_6 : W17.cell? ⟨w.heap.size, 6, none⟩ = some (.slice Aa06 na06 ca06) := Ba0.cell 6
  have k_Bs0_0 : W17.cell? ⟨W4.heap.size, 0, none⟩ = some (.int .i64 (r0.1)) := Bs0.cell 0
  have k_Bs0_1 : W17.cell? ⟨W4.heap.size, 1, none⟩ = some (.int .i64 (r0.2.1)) := Bs0.cell 1
  have k_Bs0_2 : W17.cell? ⟨W4.heap.size, 2, none⟩ = some (.slice As02 ns02 cs02) := Bs0.cell 2
  have k_Bs0_3 : W17.cell? ⟨W4.heap.size, 3, none⟩ = some (.slice As03 ns03 cs03) := Bs0.cell 3
  have k_Bs0_4 : W17.cell? ⟨W4.heap.size, 4, none⟩ = some (.slice As04 ns04 cs04) := Bs0.cell 4
  have k_Bs0_5 : W17.cell? ⟨W4.heap.size, 5, none⟩ = some (.slice As05 ns05 cs05) := Bs0.cell 5
  have k_Bs0_6 : W17.cell? ⟨W4.heap.size, 6, none⟩ = some (.slice As06 ns06 cs06) := Bs0.cell 6
  have k_Bx0_0 : W17.cell? ⟨W5.heap.size, 0, none⟩ = some (.int .i64 (p0.1)) := Bx0.cell 0
  have k_Bx0_1 : W17.cell? ⟨W5.heap.size, 1, none⟩ = some (.int .i64 (p0.2.1)) := Bx0.cell 1
  have k_Bx0_2 : W17.cell? ⟨W5.heap.size, 2, none⟩ = some (.slice Ax02 (p0.2.2.1.1).length cx02) := Bx0.cell 2
  have k_Bx0_3 : W17.cell? ⟨W5.heap.size, 3, none⟩ = some (.slice Ax03 (p0.2.2.1.2).length cx03) := Bx0.cell 3
  have k_Bx0_4 : W17.cell? ⟨W5.heap.size, 4, none⟩ = some (.slice Ax04 (p0.2.2.2.1.1).length cx04) := Bx0.cell 4
  have k_Bx0_5 : W17.cell? ⟨W5.heap.size, 5, none⟩ = some (.slice Ax05 (p0.2.2.2.1.2).length cx05) := Bx0.cell 5
  have k_Bx0_6 : W17.cell? ⟨W5.heap.size, 6, none⟩ = some (.slice Ax06 (p0.2.2.2.2).length cx06) := Bx0.cell 6
  have k_Bg0_0 : W17.cell? ⟨W7.heap.size, 0, none⟩ = some (.int .i64 (r0.1)) := Bg0.cell 0
  have k_Bg0_1 : W17.cell? ⟨W7.heap.size, 1, none⟩ = some (.int .i64 (r0.2.1)) := Bg0.cell 1
  have k_Bg0_2 : W17.cell? ⟨W7.heap.size, 2, none⟩ = some (.slice Ag02 (r0.2.2.1.1).length cg02) := Bg0.cell 2
  have k_Bg0_3 : W17.cell? ⟨W7.heap.size, 3, none⟩ = some (.slice Ag03 (r0.2.2.1.2).length cg03) := Bg0.cell 3
  have k_Bg0_4 : W17.cell? ⟨W7.heap.size, 4, none⟩ = some (.slice Ag04 (r0.2.2.2.1.1).length cg04) := Bg0.cell 4
  have k_Bg0_5 : W17.cell? ⟨W7.heap.size, 5, none⟩ = some (.slice Ag05 (r0.2.2.2.1.2).length cg05) := Bg0.cell 5
  have k_Bg0_6 : W17.cell? ⟨W7.heap.size, 6, none⟩ = some (.slice Ag06 (r0.2.2.2.2).length cg06) := Bg0.cell 6
  clear hb_
  go_wp2_with fail
  refine (o_markNode (1) o_g0 Dg0 (by omega) (by omega)).mono ?_
  rintro e W18 ⟨rfl, om_, hG_⟩
  clear k_Ba0_0 k_Ba0_1 k_Ba0_2 k_Ba0_3 k_Ba0_4 k_Ba0_5 k_Ba0_6
  clear k_Bs0_0 k_Bs0_1 k_Bs0_2 k_Bs0_3 k_Bs0_4 k_Bs0_5 k_Bs0_6
  clear k_Bx0_0 k_Bx0_1 k_Bx0_2 k_Bx0_3 k_Bx0_4 k_Bx0_5 k_Bx0_6
  clear k_Bg0_0 k_Bg0_1 k_Bg0_2 k_Bg0_3 k_Bg0_4 k_Bg0_5 k_Bg0_6
  replace o_g0 := om_
  clear om_
  replace o_g1 := Ty.only (t := tHeld.row) o_g1 hG_ (fun f hf hx => Xg f hx hf)
  have z18 : W17.heap.size + 0 ≤ W18.heap.size := hG_.size
  have hB18 : Below w.heap.size w W18 := hB17.trans (hG_.below (fun f hf => by have := Ig0 f hf; omega) (by have := hB17.size; omega))
  replace Ba0 := Ba0.same (hG_.block _ Ba0.size (fun hx => by have := Ig0 _ hx; omega))
  replace Bs0 := Bs0.same (hG_.block _ Bs0.size (fun hx => by have := Ig0 _ hx; omega))
  replace Bx0 := Bx0.same (hG_.block _ Bx0.size (fun hx => by have := Ig0 _ hx; omega))
  replace Bg0 := Bg0.same (hG_.block _ Bg0.size (fun hx => by have := Ig0 _ hx; omega))
  replace r_s0 := (tNode).keep r_s0 (fun b hb => hG_.block b (Nat.lt_of_lt_of_le hb (by omega)) (fun hx => by have := Ig0 b hx; omega))
  replace r_s1 := (tHeld.row).keep r_s1 (fun b hb => hG_.block b (Nat.lt_of_lt_of_le hb (by omega)) (fun hx => by have := Ig0 b hx; omega))
  have k_Ba0_0 : W18.cell? ⟨w.heap.size, 0, none⟩ = some (.int .i64 (p0.1)) := Ba0.cell 0
  have k_Ba0_1 : W18.cell? ⟨w.heap.size, 1, none⟩ = some (.int .i64 (p0.2.1)) := Ba0.cell 1
  have k_Ba0_2 : W18.cell? ⟨w.heap.size, 2, none⟩ = some (.slice Aa02 na02 ca02) := Ba0.cell 2
  have k_Ba0_3 : W18.cell? ⟨w.heap.size, 3, none⟩ = some (.slice Aa03 na03 ca03) := Ba0.cell 3
  have k_Ba0_4 : W18.cell? ⟨w.heap.size, 4, none⟩ = some (.slice Aa04 na04 ca04) := Ba0.cell 4
  have k_Ba0_5 : W18.cell? ⟨w.heap.size, 5, none⟩ = some (.slice Aa05 na05 ca05) := Ba0.cell 5
  have k_Ba0_6 : W18.cell? ⟨w.heap.size, 6, none⟩ = some (.slice Aa06 na06 ca06) := Ba0.cell 6
  have k_Bs0_0 : W18.cell? ⟨W4.heap.size, 0, none⟩ = some (.int .i64 (r0.1)) := Bs0.cell 0
  have k_Bs0_1 : W18.cell? ⟨W4.heap.size, 1, none⟩ = some (.int .i64 (r0.2.1)) := Bs0.cell 1
  have k_Bs0_2 : W18.cell? ⟨W4.heap.size, 2, none⟩ = some (.slice As02 ns02 cs02) := Bs0.cell 2
  have k_Bs0_3 : W18.cell? ⟨W4.heap.size, 3, none⟩ = some (.slice As03 ns03 cs03) := Bs0.cell 3
  have k_Bs0_4 : W18.cell? ⟨W4.heap.size, 4, none⟩ = some (.slice As04 ns04 cs04) := Bs0.cell 4
  have k_Bs0_5 : W18.cell? ⟨W4.heap.size, 5, none⟩ = some (.slice As05 ns05 cs05) := Bs0.cell 5
  have k_Bs0_6 : W18.cell? ⟨W4.heap.size, 6, none⟩ = some (.slice As06 ns06 cs06) := Bs0.cell 6
  have k_Bx0_0 : W18.cell? ⟨W5.heap.size, 0, none⟩ = some (.int .i64 (p0.1)) := Bx0.cell 0
  have k_Bx0_1 : W18.cell? ⟨W5.heap.size, 1, none⟩ = some (.int .i64 (p0.2.1)) := Bx0.cell 1
  have k_Bx0_2 : W18.cell? ⟨W5.heap.size, 2, none⟩ = some (.slice Ax02 (p0.2.2.1.1).length cx02) := Bx0.cell 2
  have k_Bx0_3 : W18.cell? ⟨W5.heap.size, 3, none⟩ = some (.slice Ax03 (p0.2.2.1.2).length cx03) := Bx0.cell 3
  have k_Bx0_4 : W18.cell? ⟨W5.heap.size, 4, none⟩ = some (.slice Ax04 (p0.2.2.2.1.1).length cx04) := Bx0.cell 4
  have k_Bx0_5 : W18.cell? ⟨W5.heap.size, 5, none⟩ = some (.slice Ax05 (p0.2.2.2.1.2).length cx05) := Bx0.cell 5
  have k_Bx0_6 : W18.cell? ⟨W5.heap.size, 6, none⟩ = some (.slice Ax06 (p0.2.2.2.2).length cx06) := Bx0.cell 6
  have k_Bg0_0 : W18.cell? ⟨W7.heap.size, 0, none⟩ = some (.int .i64 (r0.1)) := Bg0.cell 0
  have k_Bg0_1 : W18.cell? ⟨W7.heap.size, 1, none⟩ = some (.int .i64 (r0.2.1)) := Bg0.cell 1
  have k_Bg0_2 : W18.cell? ⟨W7.heap.size, 2, none⟩ = some (.slice Ag02 (r0.2.2.1.1).length cg02) := Bg0.cell 2
  have k_Bg0_3 : W18.cell? ⟨W7.heap.size, 3, none⟩ = some (.slice Ag03 (r0.2.2.1.2).length cg03) := Bg0.cell 3
  have k_Bg0_4 : W18.cell? ⟨W7.heap.size, 4, none⟩ = some (.slice Ag04 (r0.2.2.2.1.1).length cg04) := Bg0.cell 4
  have k_Bg0_5 : W18.cell? ⟨W7.heap.size, 5, none⟩ = some (.slice Ag05 (r0.2.2.2.1.2).length cg05) := Bg0.cell 5
  have k_Bg0_6 : W18.cell? ⟨W7.heap.size, 6, none⟩ = some (.slice Ag06 (r0.2.2.2.2).length cg06) := Bg0.cell 6
  clear hG_
  go_wp2_with fail
  refine (o_markHeldS (1 + ((cntNode (r0) : Nat) : Int)) o_g1 Dg1 (by omega) (by omega)).mono ?_
  rintro e W19 ⟨rfl, om_, hG_⟩
  clear k_Ba0_0 k_Ba0_1 k_Ba0_2 k_Ba0_3 k_Ba0_4 k_Ba0_5 k_Ba0_6
  clear k_Bs0_0 k_Bs0_1 k_Bs0_2 k_Bs0_3 k_Bs0_4 k_Bs0_5 k_Bs0_6
  clear k_Bx0_0 k_Bx0_1 k_Bx0_2 k_Bx0_3 k_Bx0_4 k_Bx0_5 k_Bx0_6
  clear k_Bg0_0 k_Bg0_1 k_Bg0_2 k_Bg0_3 k_Bg0_4 k_Bg0_5 k_Bg0_6
  replace o_g1 := om_
  clear om_
  replace o_g0 := Ty.only (t := tNode) o_g0 hG_ (fun f hf hx => Xg f hf hx)
  have z19 : W18.heap.size + 0 ≤ W19.heap.size := hG_.size
  have hB19 : Below w.heap.size w W19 := hB18.trans (hG_.below (fun f hf => by have := Ig1 f hf; omega) (by have := hB18.size; omega))
  replace Ba0 := Ba0.same (hG_.block _ Ba0.size (fun hx => by have := Ig1 _ hx; omega))
  replace Bs0 := Bs0.same (hG_.block _ Bs0.size (fun hx => by have := Ig1 _ hx; omega))
  replace Bx0 := Bx0.same (hG_.block _ Bx0.size (fun hx => by have := Ig1 _ hx; omega))
  replace Bg0 := Bg0.same (hG_.block _ Bg0.size (fun hx => by have := Ig1 _ hx; omega))
  replace r_s0 := (tNode).keep r_s0 (fun b hb => hG_.block b (Nat.lt_of_lt_of_le hb (by omega)) (fun hx => by have := Ig1 b hx; omega))
  replace r_s1 := (tHeld.row).keep r_s1 (fun b hb => hG_.block b (Nat.lt_of_lt_of_le hb (by omega)) (fun hx => by have := Ig1 b hx; omega))
  have k_Ba0_0 : W19.cell? ⟨w.heap.size, 0, none⟩ = some (.int .i64 (p0.1)) := Ba0.cell 0
  have k_Ba0_1 : W19.cell? ⟨w.heap.size, 1, none⟩ = some (.int .i64 (p0.2.1)) := Ba0.cell 1
  have k_Ba0_2 : W19.cell? ⟨w.heap.size, 2, none⟩ = some (.slice Aa02 na02 ca02) := Ba0.cell 2
  have k_Ba0_3 : W19.cell? ⟨w.heap.size, 3, none⟩ = some (.slice Aa03 na03 ca03) := Ba0.cell 3
  have k_Ba0_4 : W19.cell? ⟨w.heap.size, 4, none⟩ = some (.slice Aa04 na04 ca04) := Ba0.cell 4
  have k_Ba0_5 : W19.cell? ⟨w.heap.size, 5, none⟩ = some (.slice Aa05 na05 ca05) := Ba0.cell 5
  have k_Ba0_6 : W19.cell? ⟨w.heap.size, 6, none⟩ = some (.slice Aa06 na06 ca06) := Ba0.cell 6
  have k_Bs0_0 : W19.cell? ⟨W4.heap.size, 0, none⟩ = some (.int .i64 (r0.1)) := Bs0.cell 0
  have k_Bs0_1 : W19.cell? ⟨W4.heap.size, 1, none⟩ = some (.int .i64 (r0.2.1)) := Bs0.cell 1
  have k_Bs0_2 : W19.cell? ⟨W4.heap.size, 2, none⟩ = some (.slice As02 ns02 cs02) := Bs0.cell 2
  have k_Bs0_3 : W19.cell? ⟨W4.heap.size, 3, none⟩ = some (.slice As03 ns03 cs03) := Bs0.cell 3
  have k_Bs0_4 : W19.cell? ⟨W4.heap.size, 4, none⟩ = some (.slice As04 ns04 cs04) := Bs0.cell 4
  have k_Bs0_5 : W19.cell? ⟨W4.heap.size, 5, none⟩ = some (.slice As05 ns05 cs05) := Bs0.cell 5
  have k_Bs0_6 : W19.cell? ⟨W4.heap.size, 6, none⟩ = some (.slice As06 ns06 cs06) := Bs0.cell 6
  have k_Bx0_0 : W19.cell? ⟨W5.heap.size, 0, none⟩ = some (.int .i64 (p0.1)) := Bx0.cell 0
  have k_Bx0_1 : W19.cell? ⟨W5.heap.size, 1, none⟩ = some (.int .i64 (p0.2.1)) := Bx0.cell 1
  have k_Bx0_2 : W19.cell? ⟨W5.heap.size, 2, none⟩ = some (.slice Ax02 (p0.2.2.1.1).length cx02) := Bx0.cell 2
  have k_Bx0_3 : W19.cell? ⟨W5.heap.size, 3, none⟩ = some (.slice Ax03 (p0.2.2.1.2).length cx03) := Bx0.cell 3
  have k_Bx0_4 : W19.cell? ⟨W5.heap.size, 4, none⟩ = some (.slice Ax04 (p0.2.2.2.1.1).length cx04) := Bx0.cell 4
  have k_Bx0_5 : W19.cell? ⟨W5.heap.size, 5, none⟩ = some (.slice Ax05 (p0.2.2.2.1.2).length cx05) := Bx0.cell 5
  have k_Bx0_6 : W19.cell? ⟨W5.heap.size, 6, none⟩ = some (.slice Ax06 (p0.2.2.2.2).length cx06) := Bx0.cell 6
  have k_Bg0_0 : W19.cell? ⟨W7.heap.size, 0, none⟩ = some (.int .i64 (r0.1)) := Bg0.cell 0
  have k_Bg0_1 : W19.cell? ⟨W7.heap.size, 1, none⟩ = some (.int .i64 (r0.2.1)) := Bg0.cell 1
  have k_Bg0_2 : W19.cell? ⟨W7.heap.size, 2, none⟩ = some (.slice Ag02 (r0.2.2.1.1).length cg02) := Bg0.cell 2
  have k_Bg0_3 : W19.cell? ⟨W7.heap.size, 3, none⟩ = some (.slice Ag03 (r0.2.2.1.2).length cg03) := Bg0.cell 3
  have k_Bg0_4 : W19.cell? ⟨W7.heap.size, 4, none⟩ = some (.slice Ag04 (r0.2.2.2.1.1).length cg04) := Bg0.cell 4
  have k_Bg0_5 : W19.cell? ⟨W7.heap.size, 5, none⟩ = some (.slice Ag05 (r0.2.2.2.1.2).length cg05) := Bg0.cell 5
  have k_Bg0_6 : W19.cell? ⟨W7.heap.size, 6, none⟩ = some (.slice Ag06 (r0.2.2.2.2).length cg06) := Bg0.cell 6
  clear hG_
  have dm : (((1 + ((cntNode (r0) : Nat) : Int) + ((rsum rcHeld (r1) : Nat) : Int) : Int)) != (1 + ((cntNode (r0) : Nat) : Int) + ((rsum rcHeld (r1) : Nat) : Int))) = false := by simp
  have dh0 : decide ((1 + ((cntNode (r0) : Nat) : Int) : Int) < 0) = false := by simp; omega
  go_wp2_with fail
  refine (o_heldNode (1) ((tNode).reach ((tNode).read o_g0) ?hB) (by omega) (by omega)).mono ?_
  all_goals try (case hB => exact (belx))
  rintro e W20 ⟨rfl, hb_⟩
  clear k_Ba0_0 k_Ba0_1 k_Ba0_2 k_Ba0_3 k_Ba0_4 k_Ba0_5 k_Ba0_6
  clear k_Bs0_0 k_Bs0_1 k_Bs0_2 k_Bs0_3 k_Bs0_4 k_Bs0_5 k_Bs0_6
  clear k_Bx0_0 k_Bx0_1 k_Bx0_2 k_Bx0_3 k_Bx0_4 k_Bx0_5 k_Bx0_6
  clear k_Bg0_0 k_Bg0_1 k_Bg0_2 k_Bg0_3 k_Bg0_4 k_Bg0_5 k_Bg0_6
  have hs20 : Below W19.heap.size W19 W20 := bel_trans (belx) hb_
  have z20 : W19.heap.size + 0 ≤ W20.heap.size := by have := hb_.size; simpa using this
  have hB20 : Below w.heap.size w W20 := bel_trans hB19 hs20
  replace Ba0 := Ba0.below hs20 Ba0.size
  replace Bs0 := Bs0.below hs20 Bs0.size
  replace Bx0 := Bx0.below hs20 Bx0.size
  replace Bg0 := Bg0.below hs20 Bg0.size
  replace o_g0 := Ty.below (t := tNode) o_g0 hs20
  replace o_g1 := Ty.below (t := tHeld.row) o_g1 hs20
  replace r_s0 := (tNode).keep r_s0 (fun b hb => hs20.block b (Nat.lt_of_lt_of_le hb (by omega)))
  replace r_s1 := (tHeld.row).keep r_s1 (fun b hb => hs20.block b (Nat.lt_of_lt_of_le hb (by omega)))
  have k_Ba0_0 : W20.cell? ⟨w.heap.size, 0, none⟩ = some (.int .i64 (p0.1)) := Ba0.cell 0
  have k_Ba0_1 : W20.cell? ⟨w.heap.size, 1, none⟩ = some (.int .i64 (p0.2.1)) := Ba0.cell 1
  have k_Ba0_2 : W20.cell? ⟨w.heap.size, 2, none⟩ = some (.slice Aa02 na02 ca02) := Ba0.cell 2
  have k_Ba0_3 : W20.cell? ⟨w.heap.size, 3, none⟩ = some (.slice Aa03 na03 ca03) := Ba0.cell 3
  have k_Ba0_4 : W20.cell? ⟨w.heap.size, 4, none⟩ = some (.slice Aa04 na04 ca04) := Ba0.cell 4
  have k_Ba0_5 : W20.cell? ⟨w.heap.size, 5, none⟩ = some (.slice Aa05 na05 ca05) := Ba0.cell 5
  have k_Ba0_6 : W20.cell? ⟨w.heap.size, 6, none⟩ = some (.slice Aa06 na06 ca06) := Ba0.cell 6
  have k_Bs0_0 : W20.cell? ⟨W4.heap.size, 0, none⟩ = some (.int .i64 (r0.1)) := Bs0.cell 0
  have k_Bs0_1 : W20.cell? ⟨W4.heap.size, 1, none⟩ = some (.int .i64 (r0.2.1)) := Bs0.cell 1
  have k_Bs0_2 : W20.cell? ⟨W4.heap.size, 2, none⟩ = some (.slice As02 ns02 cs02) := Bs0.cell 2
  have k_Bs0_3 : W20.cell? ⟨W4.heap.size, 3, none⟩ = some (.slice As03 ns03 cs03) := Bs0.cell 3
  have k_Bs0_4 : W20.cell? ⟨W4.heap.size, 4, none⟩ = some (.slice As04 ns04 cs04) := Bs0.cell 4
  have k_Bs0_5 : W20.cell? ⟨W4.heap.size, 5, none⟩ = some (.slice As05 ns05 cs05) := Bs0.cell 5
  have k_Bs0_6 : W20.cell? ⟨W4.heap.size, 6, none⟩ = some (.slice As06 ns06 cs06) := Bs0.cell 6
  have k_Bx0_0 : W20.cell? ⟨W5.heap.size, 0, none⟩ = some (.int .i64 (p0.1)) := Bx0.cell 0
  have k_Bx0_1 : W20.cell? ⟨W5.heap.size, 1, none⟩ = some (.int .i64 (p0.2.1)) := Bx0.cell 1
  have k_Bx0_2 : W20.cell? ⟨W5.heap.size, 2, none⟩ = some (.slice Ax02 (p0.2.2.1.1).length cx02) := Bx0.cell 2
  have k_Bx0_3 : W20.cell? ⟨W5.heap.size, 3, none⟩ = some (.slice Ax03 (p0.2.2.1.2).length cx03) := Bx0.cell 3
  have k_Bx0_4 : W20.cell? ⟨W5.heap.size, 4, none⟩ = some (.slice Ax04 (p0.2.2.2.1.1).length cx04) := Bx0.cell 4
  have k_Bx0_5 : W20.cell? ⟨W5.heap.size, 5, none⟩ = some (.slice Ax05 (p0.2.2.2.1.2).length cx05) := Bx0.cell 5
  have k_Bx0_6 : W20.cell? ⟨W5.heap.size, 6, none⟩ = some (.slice Ax06 (p0.2.2.2.2).length cx06) := Bx0.cell 6
  have k_Bg0_0 : W20.cell? ⟨W7.heap.size, 0, none⟩ = some (.int .i64 (r0.1)) := Bg0.cell 0
  have k_Bg0_1 : W20.cell? ⟨W7.heap.size, 1, none⟩ = some (.int .i64 (r0.2.1)) := Bg0.cell 1
  have k_Bg0_2 : W20.cell? ⟨W7.heap.size, 2, none⟩ = some (.slice Ag02 (r0.2.2.1.1).length cg02) := Bg0.cell 2
  have k_Bg0_3 : W20.cell? ⟨W7.heap.size, 3, none⟩ = some (.slice Ag03 (r0.2.2.1.2).length cg03) := Bg0.cell 3
  have k_Bg0_4 : W20.cell? ⟨W7.heap.size, 4, none⟩ = some (.slice Ag04 (r0.2.2.2.1.1).length cg04) := Bg0.cell 4
  have k_Bg0_5 : W20.cell? ⟨W7.heap.size, 5, none⟩ = some (.slice Ag05 (r0.2.2.2.1.2).length cg05) := Bg0.cell 5
  have k_Bg0_6 : W20.cell? ⟨W7.heap.size, 6, none⟩ = some (.slice Ag06 (r0.2.2.2.2).length cg06) := Bg0.cell 6
  clear hb_
  have dh1 : decide ((1 + ((cntNode (r0) : Nat) : Int) + ((rsum rcHeld (r1) : Nat) : Int) : Int) < 0) = false := by simp; omega
  go_wp2_with fail
  refine (o_heldHeldS (1 + ((cntNode (r0) : Nat) : Int)) ((tHeld.row).reach ((tHeld.row).read o_g1) ?hB) (by omega) (by omega)).mono ?_
  all_goals try (case hB => exact (belx))
  rintro e W21 ⟨rfl, hb_⟩
  clear k_Ba0_0 k_Ba0_1 k_Ba0_2 k_Ba0_3 k_Ba0_4 k_Ba0_5 k_Ba0_6
  clear k_Bs0_0 k_Bs0_1 k_Bs0_2 k_Bs0_3 k_Bs0_4 k_Bs0_5 k_Bs0_6
  clear k_Bx0_0 k_Bx0_1 k_Bx0_2 k_Bx0_3 k_Bx0_4 k_Bx0_5 k_Bx0_6
  clear k_Bg0_0 k_Bg0_1 k_Bg0_2 k_Bg0_3 k_Bg0_4 k_Bg0_5 k_Bg0_6
  have hs21 : Below W20.heap.size W20 W21 := bel_trans (belx) hb_
  have z21 : W20.heap.size + 0 ≤ W21.heap.size := by have := hb_.size; simpa using this
  have hB21 : Below w.heap.size w W21 := bel_trans hB20 hs21
  replace Ba0 := Ba0.below hs21 Ba0.size
  replace Bs0 := Bs0.below hs21 Bs0.size
  replace Bx0 := Bx0.below hs21 Bx0.size
  replace Bg0 := Bg0.below hs21 Bg0.size
  replace o_g0 := Ty.below (t := tNode) o_g0 hs21
  replace o_g1 := Ty.below (t := tHeld.row) o_g1 hs21
  replace r_s0 := (tNode).keep r_s0 (fun b hb => hs21.block b (Nat.lt_of_lt_of_le hb (by omega)))
  replace r_s1 := (tHeld.row).keep r_s1 (fun b hb => hs21.block b (Nat.lt_of_lt_of_le hb (by omega)))
  have k_Ba0_0 : W21.cell? ⟨w.heap.size, 0, none⟩ = some (.int .i64 (p0.1)) := Ba0.cell 0
  have k_Ba0_1 : W21.cell? ⟨w.heap.size, 1, none⟩ = some (.int .i64 (p0.2.1)) := Ba0.cell 1
  have k_Ba0_2 : W21.cell? ⟨w.heap.size, 2, none⟩ = some (.slice Aa02 na02 ca02) := Ba0.cell 2
  have k_Ba0_3 : W21.cell? ⟨w.heap.size, 3, none⟩ = some (.slice Aa03 na03 ca03) := Ba0.cell 3
  have k_Ba0_4 : W21.cell? ⟨w.heap.size, 4, none⟩ = some (.slice Aa04 na04 ca04) := Ba0.cell 4
  have k_Ba0_5 : W21.cell? ⟨w.heap.size, 5, none⟩ = some (.slice Aa05 na05 ca05) := Ba0.cell 5
  have k_Ba0_6 : W21.cell? ⟨w.heap.size, 6, none⟩ = some (.slice Aa06 na06 ca06) := Ba0.cell 6
  have k_Bs0_0 : W21.cell? ⟨W4.heap.size, 0, none⟩ = some (.int .i64 (r0.1)) := Bs0.cell 0
  have k_Bs0_1 : W21.cell? ⟨W4.heap.size, 1, none⟩ = some (.int .i64 (r0.2.1)) := Bs0.cell 1
  have k_Bs0_2 : W21.cell? ⟨W4.heap.size, 2, none⟩ = some (.slice As02 ns02 cs02) := Bs0.cell 2
  have k_Bs0_3 : W21.cell? ⟨W4.heap.size, 3, none⟩ = some (.slice As03 ns03 cs03) := Bs0.cell 3
  have k_Bs0_4 : W21.cell? ⟨W4.heap.size, 4, none⟩ = some (.slice As04 ns04 cs04) := Bs0.cell 4
  have k_Bs0_5 : W21.cell? ⟨W4.heap.size, 5, none⟩ = some (.slice As05 ns05 cs05) := Bs0.cell 5
  have k_Bs0_6 : W21.cell? ⟨W4.heap.size, 6, none⟩ = some (.slice As06 ns06 cs06) := Bs0.cell 6
  have k_Bx0_0 : W21.cell? ⟨W5.heap.size, 0, none⟩ = some (.int .i64 (p0.1)) := Bx0.cell 0
  have k_Bx0_1 : W21.cell? ⟨W5.heap.size, 1, none⟩ = some (.int .i64 (p0.2.1)) := Bx0.cell 1
  have k_Bx0_2 : W21.cell? ⟨W5.heap.size, 2, none⟩ = some (.slice Ax02 (p0.2.2.1.1).length cx02) := Bx0.cell 2
  have k_Bx0_3 : W21.cell? ⟨W5.heap.size, 3, none⟩ = some (.slice Ax03 (p0.2.2.1.2).length cx03) := Bx0.cell 3
  have k_Bx0_4 : W21.cell? ⟨W5.heap.size, 4, none⟩ = some (.slice Ax04 (p0.2.2.2.1.1).length cx04) := Bx0.cell 4
  have k_Bx0_5 : W21.cell? ⟨W5.heap.size, 5, none⟩ = some (.slice Ax05 (p0.2.2.2.1.2).length cx05) := Bx0.cell 5
  have k_Bx0_6 : W21.cell? ⟨W5.heap.size, 6, none⟩ = some (.slice Ax06 (p0.2.2.2.2).length cx06) := Bx0.cell 6
  have k_Bg0_0 : W21.cell? ⟨W7.heap.size, 0, none⟩ = some (.int .i64 (r0.1)) := Bg0.cell 0
  have k_Bg0_1 : W21.cell? ⟨W7.heap.size, 1, none⟩ = some (.int .i64 (r0.2.1)) := Bg0.cell 1
  have k_Bg0_2 : W21.cell? ⟨W7.heap.size, 2, none⟩ = some (.slice Ag02 (r0.2.2.1.1).length cg02) := Bg0.cell 2
  have k_Bg0_3 : W21.cell? ⟨W7.heap.size, 3, none⟩ = some (.slice Ag03 (r0.2.2.1.2).length cg03) := Bg0.cell 3
  have k_Bg0_4 : W21.cell? ⟨W7.heap.size, 4, none⟩ = some (.slice Ag04 (r0.2.2.2.1.1).length cg04) := Bg0.cell 4
  have k_Bg0_5 : W21.cell? ⟨W7.heap.size, 5, none⟩ = some (.slice Ag05 (r0.2.2.2.1.2).length cg05) := Bg0.cell 5
  have k_Bg0_6 : W21.cell? ⟨W7.heap.size, 6, none⟩ = some (.slice Ag06 (r0.2.2.2.2).length cg06) := Bg0.cell 6
  clear hb_
  go_wp2_with fail
  refine (o_toNode ((tNode).reach ((tNode).reach h0 hB21) ?hB) (by omega)).mono ?_
  all_goals try (case hB => exact (belx))
  rintro e W22 ⟨csy0, Fy0, rfl, o_y0, Ny0, hb_⟩
  clear k_Ba0_0 k_Ba0_1 k_Ba0_2 k_Ba0_3 k_Ba0_4 k_Ba0_5 k_Ba0_6
  clear k_Bs0_0 k_Bs0_1 k_Bs0_2 k_Bs0_3 k_Bs0_4 k_Bs0_5 k_Bs0_6
  clear k_Bx0_0 k_Bx0_1 k_Bx0_2 k_Bx0_3 k_Bx0_4 k_Bx0_5 k_Bx0_6
  clear k_Bg0_0 k_Bg0_1 k_Bg0_2 k_Bg0_3 k_Bg0_4 k_Bg0_5 k_Bg0_6
  have Iy0 : ∀ f ∈ Fy0, W21.heap.size + 0 ≤ f ∧ f < W22.heap.size := fun f hf => ⟨Nat.le_trans (by first | (simp; done) | (simp; omega)) (Ny0.2 f hf), (tNode).lt o_y0 f hf⟩
  have Dy0 := Ny0.1
  clear Ny0
  obtain ⟨Ay02, cy02, Fy02, Ay03, cy03, Fy03, Ay04, cy04, Fy04, Ay05, cy05, Fy05, Ay06, cy06, Fy06, rfl, -, -, -, -, -, -, -, -, -, -, -, -, -, -, -, -, -, -⟩ := openONode o_y0
  have hs22 : Below W21.heap.size W21 W22 := bel_trans (belx) hb_
  have z22 : W21.heap.size + 0 ≤ W22.heap.size := by have := hb_.size; simpa using this
  have hB22 : Below w.heap.size w W22 := bel_trans hB21 hs22
  replace Ba0 := Ba0.below hs22 Ba0.size
  replace Bs0 := Bs0.below hs22 Bs0.size
  replace Bx0 := Bx0.below hs22 Bx0.size
  replace Bg0 := Bg0.below hs22 Bg0.size
  replace o_g0 := Ty.below (t := tNode) o_g0 hs22
  replace o_g1 := Ty.below (t := tHeld.row) o_g1 hs22
  replace r_s0 := (tNode).keep r_s0 (fun b hb => hs22.block b (Nat.lt_of_lt_of_le hb (by omega)))
  replace r_s1 := (tHeld.row).keep r_s1 (fun b hb => hs22.block b (Nat.lt_of_lt_of_le hb (by omega)))
  have k_Ba0_0 : W22.cell? ⟨w.heap.size, 0, none⟩ = some (.int .i64 (p0.1)) := Ba0.cell 0
  have k_Ba0_1 : W22.cell? ⟨w.heap.size, 1, none⟩ = some (.int .i64 (p0.2.1)) := Ba0.cell 1
  have k_Ba0_2 : W22.cell? ⟨w.heap.size, 2, none⟩ = some (.slice Aa02 na02 ca02) := Ba0.cell 2
  have k_Ba0_3 : W22.cell? ⟨w.heap.size, 3, none⟩ = some (.slice Aa03 na03 ca03) := Ba0.cell 3
  have k_Ba0_4 : W22.cell? ⟨w.heap.size, 4, none⟩ = some (.slice Aa04 na04 ca04) := Ba0.cell 4
  have k_Ba0_5 : W22.cell? ⟨w.heap.size, 5, none⟩ = some (.slice Aa05 na05 ca05) := Ba0.cell 5
  have k_Ba0_6 : W22.cell? ⟨w.heap.size, 6, none⟩ = some (.slice Aa06 na06 ca06) := Ba0.cell 6
  have k_Bs0_0 : W22.cell? ⟨W4.heap.size, 0, none⟩ = some (.int .i64 (r0.1)) := Bs0.cell 0
  have k_Bs0_1 : W22.cell? ⟨W4.heap.size, 1, none⟩ = some (.int .i64 (r0.2.1)) := Bs0.cell 1
  have k_Bs0_2 : W22.cell? ⟨W4.heap.size, 2, none⟩ = some (.slice As02 ns02 cs02) := Bs0.cell 2
  have k_Bs0_3 : W22.cell? ⟨W4.heap.size, 3, none⟩ = some (.slice As03 ns03 cs03) := Bs0.cell 3
  have k_Bs0_4 : W22.cell? ⟨W4.heap.size, 4, none⟩ = some (.slice As04 ns04 cs04) := Bs0.cell 4
  have k_Bs0_5 : W22.cell? ⟨W4.heap.size, 5, none⟩ = some (.slice As05 ns05 cs05) := Bs0.cell 5
  have k_Bs0_6 : W22.cell? ⟨W4.heap.size, 6, none⟩ = some (.slice As06 ns06 cs06) := Bs0.cell 6
  have k_Bx0_0 : W22.cell? ⟨W5.heap.size, 0, none⟩ = some (.int .i64 (p0.1)) := Bx0.cell 0
  have k_Bx0_1 : W22.cell? ⟨W5.heap.size, 1, none⟩ = some (.int .i64 (p0.2.1)) := Bx0.cell 1
  have k_Bx0_2 : W22.cell? ⟨W5.heap.size, 2, none⟩ = some (.slice Ax02 (p0.2.2.1.1).length cx02) := Bx0.cell 2
  have k_Bx0_3 : W22.cell? ⟨W5.heap.size, 3, none⟩ = some (.slice Ax03 (p0.2.2.1.2).length cx03) := Bx0.cell 3
  have k_Bx0_4 : W22.cell? ⟨W5.heap.size, 4, none⟩ = some (.slice Ax04 (p0.2.2.2.1.1).length cx04) := Bx0.cell 4
  have k_Bx0_5 : W22.cell? ⟨W5.heap.size, 5, none⟩ = some (.slice Ax05 (p0.2.2.2.1.2).length cx05) := Bx0.cell 5
  have k_Bx0_6 : W22.cell? ⟨W5.heap.size, 6, none⟩ = some (.slice Ax06 (p0.2.2.2.2).length cx06) := Bx0.cell 6
  have k_Bg0_0 : W22.cell? ⟨W7.heap.size, 0, none⟩ = some (.int .i64 (r0.1)) := Bg0.cell 0
  have k_Bg0_1 : W22.cell? ⟨W7.heap.size, 1, none⟩ = some (.int .i64 (r0.2.1)) := Bg0.cell 1
  have k_Bg0_2 : W22.cell? ⟨W7.heap.size, 2, none⟩ = some (.slice Ag02 (r0.2.2.1.1).length cg02) := Bg0.cell 2
  have k_Bg0_3 : W22.cell? ⟨W7.heap.size, 3, none⟩ = some (.slice Ag03 (r0.2.2.1.2).length cg03) := Bg0.cell 3
  have k_Bg0_4 : W22.cell? ⟨W7.heap.size, 4, none⟩ = some (.slice Ag04 (r0.2.2.2.1.1).length cg04) := Bg0.cell 4
  have k_Bg0_5 : W22.cell? ⟨W7.heap.size, 5, none⟩ = some (.slice Ag05 (r0.2.2.2.1.2).length cg05) := Bg0.cell 5
  have k_Bg0_6 : W22.cell? ⟨W7.heap.size, 6, none⟩ = some (.slice Ag06 (r0.2.2.2.2).length cg06) := Bg0.cell 6
  clear hb_
  go_wp2_with fail
  refine (o_toByteSA ((tBy).reach ((tBy).reach h2 hB22) ?hB) (by omega)).mono ?_
  all_goals try (case hB => exact (belx))
  rintro e W23 ⟨Ay2, cy2, Fy2, rfl, o_y2, Ny2, ha_y2, hb_⟩
  clear k_Ba0_0 k_Ba0_1 k_Ba0_2 k_Ba0_3 k_Ba0_4 k_Ba0_5 k_Ba0_6
  clear k_Bs0_0 k_Bs0_1 k_Bs0_2 k_Bs0_3 k_Bs0_4 k_Bs0_5 k_Bs0_6
  clear k_Bx0_0 k_Bx0_1 k_Bx0_2 k_Bx0_3 k_Bx0_4 k_Bx0_5 k_Bx0_6
  clear k_Bg0_0 k_Bg0_1 k_Bg0_2 k_Bg0_3 k_Bg0_4 k_Bg0_5 k_Bg0_6
  have Iy2 : ∀ f ∈ Fy2, W22.heap.size + 0 ≤ f ∧ f < W23.heap.size := fun f hf => ⟨Nat.le_trans (by first | (simp; done) | (simp; omega)) (Ny2.2 f hf), (tBy).lt o_y2 f hf⟩
  have Dy2 := Ny2.1
  clear Ny2
  have hs23 : Below W22.heap.size W22 W23 := bel_trans (belx) hb_
  have z23 : W22.heap.size + 0 ≤ W23.heap.size := by have := hb_.size; simpa using this
  have hB23 : Below w.heap.size w W23 := bel_trans hB22 hs23
  replace Ba0 := Ba0.below hs23 Ba0.size
  replace Bs0 := Bs0.below hs23 Bs0.size
  replace Bx0 := Bx0.below hs23 Bx0.size
  replace Bg0 := Bg0.below hs23 Bg0.size
  replace o_g0 := Ty.below (t := tNode) o_g0 hs23
  replace o_g1 := Ty.below (t := tHeld.row) o_g1 hs23
  replace o_y0 := Ty.below (t := tNode) o_y0 hs23
  replace r_s0 := (tNode).keep r_s0 (fun b hb => hs23.block b (Nat.lt_of_lt_of_le hb (by omega)))
  replace r_s1 := (tHeld.row).keep r_s1 (fun b hb => hs23.block b (Nat.lt_of_lt_of_le hb (by omega)))
  have k_Ba0_0 : W23.cell? ⟨w.heap.size, 0, none⟩ = some (.int .i64 (p0.1)) := Ba0.cell 0
  have k_Ba0_1 : W23.cell? ⟨w.heap.size, 1, none⟩ = some (.int .i64 (p0.2.1)) := Ba0.cell 1
  have k_Ba0_2 : W23.cell? ⟨w.heap.size, 2, none⟩ = some (.slice Aa02 na02 ca02) := Ba0.cell 2
  have k_Ba0_3 : W23.cell? ⟨w.heap.size, 3, none⟩ = some (.slice Aa03 na03 ca03) := Ba0.cell 3
  have k_Ba0_4 : W23.cell? ⟨w.heap.size, 4, none⟩ = some (.slice Aa04 na04 ca04) := Ba0.cell 4
  have k_Ba0_5 : W23.cell? ⟨w.heap.size, 5, none⟩ = some (.slice Aa05 na05 ca05) := Ba0.cell 5
  have k_Ba0_6 : W23.cell? ⟨w.heap.size, 6, none⟩ = some (.slice Aa06 na06 ca06) := Ba0.cell 6
  have k_Bs0_0 : W23.cell? ⟨W4.heap.size, 0, none⟩ = some (.int .i64 (r0.1)) := Bs0.cell 0
  have k_Bs0_1 : W23.cell? ⟨W4.heap.size, 1, none⟩ = some (.int .i64 (r0.2.1)) := Bs0.cell 1
  have k_Bs0_2 : W23.cell? ⟨W4.heap.size, 2, none⟩ = some (.slice As02 ns02 cs02) := Bs0.cell 2
  have k_Bs0_3 : W23.cell? ⟨W4.heap.size, 3, none⟩ = some (.slice As03 ns03 cs03) := Bs0.cell 3
  have k_Bs0_4 : W23.cell? ⟨W4.heap.size, 4, none⟩ = some (.slice As04 ns04 cs04) := Bs0.cell 4
  have k_Bs0_5 : W23.cell? ⟨W4.heap.size, 5, none⟩ = some (.slice As05 ns05 cs05) := Bs0.cell 5
  have k_Bs0_6 : W23.cell? ⟨W4.heap.size, 6, none⟩ = some (.slice As06 ns06 cs06) := Bs0.cell 6
  have k_Bx0_0 : W23.cell? ⟨W5.heap.size, 0, none⟩ = some (.int .i64 (p0.1)) := Bx0.cell 0
  have k_Bx0_1 : W23.cell? ⟨W5.heap.size, 1, none⟩ = some (.int .i64 (p0.2.1)) := Bx0.cell 1
  have k_Bx0_2 : W23.cell? ⟨W5.heap.size, 2, none⟩ = some (.slice Ax02 (p0.2.2.1.1).length cx02) := Bx0.cell 2
  have k_Bx0_3 : W23.cell? ⟨W5.heap.size, 3, none⟩ = some (.slice Ax03 (p0.2.2.1.2).length cx03) := Bx0.cell 3
  have k_Bx0_4 : W23.cell? ⟨W5.heap.size, 4, none⟩ = some (.slice Ax04 (p0.2.2.2.1.1).length cx04) := Bx0.cell 4
  have k_Bx0_5 : W23.cell? ⟨W5.heap.size, 5, none⟩ = some (.slice Ax05 (p0.2.2.2.1.2).length cx05) := Bx0.cell 5
  have k_Bx0_6 : W23.cell? ⟨W5.heap.size, 6, none⟩ = some (.slice Ax06 (p0.2.2.2.2).length cx06) := Bx0.cell 6
  have k_Bg0_0 : W23.cell? ⟨W7.heap.size, 0, none⟩ = some (.int .i64 (r0.1)) := Bg0.cell 0
  have k_Bg0_1 : W23.cell? ⟨W7.heap.size, 1, none⟩ = some (.int .i64 (r0.2.1)) := Bg0.cell 1
  have k_Bg0_2 : W23.cell? ⟨W7.heap.size, 2, none⟩ = some (.slice Ag02 (r0.2.2.1.1).length cg02) := Bg0.cell 2
  have k_Bg0_3 : W23.cell? ⟨W7.heap.size, 3, none⟩ = some (.slice Ag03 (r0.2.2.1.2).length cg03) := Bg0.cell 3
  have k_Bg0_4 : W23.cell? ⟨W7.heap.size, 4, none⟩ = some (.slice Ag04 (r0.2.2.2.1.1).length cg04) := Bg0.cell 4
  have k_Bg0_5 : W23.cell? ⟨W7.heap.size, 5, none⟩ = some (.slice Ag05 (r0.2.2.2.1.2).length cg05) := Bg0.cell 5
  have k_Bg0_6 : W23.cell? ⟨W7.heap.size, 6, none⟩ = some (.slice Ag06 (r0.2.2.2.2).length cg06) := Bg0.cell 6
  clear hb_
  go_wp2_with fail
  refine (i_NodeFlush ((tNode).reach ((tNode).read o_y0) ?hB) (by omega) w1 ((tBy).reach ((tBy).read o_y2) ?hB) (by omega) ha_y2).mono ?_
  all_goals try (case hB => exact (belx))
  rintro e W24 ⟨csh0, Fh0, Ah1, ch1, Fh1, rfl, o_h0, o_h1, Nh, hb_⟩
  clear k_Ba0_0 k_Ba0_1 k_Ba0_2 k_Ba0_3 k_Ba0_4 k_Ba0_5 k_Ba0_6
  clear k_Bs0_0 k_Bs0_1 k_Bs0_2 k_Bs0_3 k_Bs0_4 k_Bs0_5 k_Bs0_6
  clear k_Bx0_0 k_Bx0_1 k_Bx0_2 k_Bx0_3 k_Bx0_4 k_Bx0_5 k_Bx0_6
  clear k_Bg0_0 k_Bg0_1 k_Bg0_2 k_Bg0_3 k_Bg0_4 k_Bg0_5 k_Bg0_6
  clear o_y0 Iy0 Dy0
  clear o_y2 Iy2 Dy2
  rw [HR0.out] at o_h0
  rw [HR1.out] at o_h1
  rw [HR1.out]
  rw [HR2.out]
  obtain ⟨Ah02, ch02, Fh02, Ah03, ch03, Fh03, Ah04, ch04, Fh04, Ah05, ch05, Fh05, Ah06, ch06, Fh06, rfl, -, -, -, -, -, -, -, -, -, -, -, -, -, -, -, -, -, -⟩ := openONode o_h0
  have Ih0 : ∀ f ∈ Fh0, W23.heap.size + 0 ≤ f ∧ f < W24.heap.size := fun f hf => ⟨Nat.le_trans (by first | (simp; done) | (simp; omega)) (Nh.2 f (by simp [hf])), (tNode).lt o_h0 f hf⟩
  have Ih1 : ∀ f ∈ Fh1, W23.heap.size + 0 ≤ f ∧ f < W24.heap.size := fun f hf => ⟨Nat.le_trans (by first | (simp; done) | (simp; omega)) (Nh.2 f (by simp [hf])), (tHeld.row).lt o_h1 f hf⟩
  have Dh0 := (List.nodup_append.1 Nh.1).1
  have Dh1 := (List.nodup_append.1 Nh.1).2.1
  have Xh : ∀ f ∈ Fh0, f ∉ Fh1 := fun f h1 h2 => (List.nodup_append.1 Nh.1).2.2 f h1 f h2 rfl
  clear Nh
  have hs24 : Below W23.heap.size W23 W24 := bel_trans (belx) hb_
  have z24 : W23.heap.size + 0 ≤ W24.heap.size := by have := hb_.size; simpa using this
  have hB24 : Below w.heap.size w W24 := bel_trans hB23 hs24
  replace Ba0 := Ba0.below hs24 Ba0.size
  replace Bs0 := Bs0.below hs24 Bs0.size
  replace Bx0 := Bx0.below hs24 Bx0.size
  replace Bg0 := Bg0.below hs24 Bg0.size
  replace o_g0 := Ty.below (t := tNode) o_g0 hs24
  replace o_g1 := Ty.below (t := tHeld.row) o_g1 hs24
  replace r_s0 := (tNode).keep r_s0 (fun b hb => hs24.block b (Nat.lt_of_lt_of_le hb (by omega)))
  replace r_s1 := (tHeld.row).keep r_s1 (fun b hb => hs24.block b (Nat.lt_of_lt_of_le hb (by omega)))
  have k_Ba0_0 : W24.cell? ⟨w.heap.size, 0, none⟩ = some (.int .i64 (p0.1)) := Ba0.cell 0
  have k_Ba0_1 : W24.cell? ⟨w.heap.size, 1, none⟩ = some (.int .i64 (p0.2.1)) := Ba0.cell 1
  have k_Ba0_2 : W24.cell? ⟨w.heap.size, 2, none⟩ = some (.slice Aa02 na02 ca02) := Ba0.cell 2
  have k_Ba0_3 : W24.cell? ⟨w.heap.size, 3, none⟩ = some (.slice Aa03 na03 ca03) := Ba0.cell 3
  have k_Ba0_4 : W24.cell? ⟨w.heap.size, 4, none⟩ = some (.slice Aa04 na04 ca04) := Ba0.cell 4
  have k_Ba0_5 : W24.cell? ⟨w.heap.size, 5, none⟩ = some (.slice Aa05 na05 ca05) := Ba0.cell 5
  have k_Ba0_6 : W24.cell? ⟨w.heap.size, 6, none⟩ = some (.slice Aa06 na06 ca06) := Ba0.cell 6
  have k_Bs0_0 : W24.cell? ⟨W4.heap.size, 0, none⟩ = some (.int .i64 (r0.1)) := Bs0.cell 0
  have k_Bs0_1 : W24.cell? ⟨W4.heap.size, 1, none⟩ = some (.int .i64 (r0.2.1)) := Bs0.cell 1
  have k_Bs0_2 : W24.cell? ⟨W4.heap.size, 2, none⟩ = some (.slice As02 ns02 cs02) := Bs0.cell 2
  have k_Bs0_3 : W24.cell? ⟨W4.heap.size, 3, none⟩ = some (.slice As03 ns03 cs03) := Bs0.cell 3
  have k_Bs0_4 : W24.cell? ⟨W4.heap.size, 4, none⟩ = some (.slice As04 ns04 cs04) := Bs0.cell 4
  have k_Bs0_5 : W24.cell? ⟨W4.heap.size, 5, none⟩ = some (.slice As05 ns05 cs05) := Bs0.cell 5
  have k_Bs0_6 : W24.cell? ⟨W4.heap.size, 6, none⟩ = some (.slice As06 ns06 cs06) := Bs0.cell 6
  have k_Bx0_0 : W24.cell? ⟨W5.heap.size, 0, none⟩ = some (.int .i64 (p0.1)) := Bx0.cell 0
  have k_Bx0_1 : W24.cell? ⟨W5.heap.size, 1, none⟩ = some (.int .i64 (p0.2.1)) := Bx0.cell 1
  have k_Bx0_2 : W24.cell? ⟨W5.heap.size, 2, none⟩ = some (.slice Ax02 (p0.2.2.1.1).length cx02) := Bx0.cell 2
  have k_Bx0_3 : W24.cell? ⟨W5.heap.size, 3, none⟩ = some (.slice Ax03 (p0.2.2.1.2).length cx03) := Bx0.cell 3
  have k_Bx0_4 : W24.cell? ⟨W5.heap.size, 4, none⟩ = some (.slice Ax04 (p0.2.2.2.1.1).length cx04) := Bx0.cell 4
  have k_Bx0_5 : W24.cell? ⟨W5.heap.size, 5, none⟩ = some (.slice Ax05 (p0.2.2.2.1.2).length cx05) := Bx0.cell 5
  have k_Bx0_6 : W24.cell? ⟨W5.heap.size, 6, none⟩ = some (.slice Ax06 (p0.2.2.2.2).length cx06) := Bx0.cell 6
  have k_Bg0_0 : W24.cell? ⟨W7.heap.size, 0, none⟩ = some (.int .i64 (r0.1)) := Bg0.cell 0
  have k_Bg0_1 : W24.cell? ⟨W7.heap.size, 1, none⟩ = some (.int .i64 (r0.2.1)) := Bg0.cell 1
  have k_Bg0_2 : W24.cell? ⟨W7.heap.size, 2, none⟩ = some (.slice Ag02 (r0.2.2.1.1).length cg02) := Bg0.cell 2
  have k_Bg0_3 : W24.cell? ⟨W7.heap.size, 3, none⟩ = some (.slice Ag03 (r0.2.2.1.2).length cg03) := Bg0.cell 3
  have k_Bg0_4 : W24.cell? ⟨W7.heap.size, 4, none⟩ = some (.slice Ag04 (r0.2.2.2.1.1).length cg04) := Bg0.cell 4
  have k_Bg0_5 : W24.cell? ⟨W7.heap.size, 5, none⟩ = some (.slice Ag05 (r0.2.2.2.1.2).length cg05) := Bg0.cell 5
  have k_Bg0_6 : W24.cell? ⟨W7.heap.size, 6, none⟩ = some (.slice Ag06 (r0.2.2.2.2).length cg06) := Bg0.cell 6
  clear hb_
  have d_Ba0_0 : (W24.alloc (.cells #[.int .i64 (r0.1), .int .i64 (r0.2.1), .slice Ah02 (r0.2.2.1.1).length ch02, .slice Ah03 (r0.2.2.1.2).length ch03, .slice Ah04 (r0.2.2.2.1.1).length ch04, .slice Ah05 (r0.2.2.2.1.2).length ch05, .slice Ah06 (r0.2.2.2.2).length ch06] 58)).cell? ⟨w.heap.size, 0, none⟩ = some (.int .i64 (p0.1)) := (Ba0.alloc _).cell 0
  have d_Ba0_1 : (W24.alloc (.cells #[.int .i64 (r0.1), .int .i64 (r0.2.1), .slice Ah02 (r0.2.2.1.1).length ch02, .slice Ah03 (r0.2.2.1.2).length ch03, .slice Ah04 (r0.2.2.2.1.1).length ch04, .slice Ah05 (r0.2.2.2.1.2).length ch05, .slice Ah06 (r0.2.2.2.2).length ch06] 58)).cell? ⟨w.heap.size, 1, none⟩ = some (.int .i64 (p0.2.1)) := (Ba0.alloc _).cell 1
  have d_Ba0_2 : (W24.alloc (.cells #[.int .i64 (r0.1), .int .i64 (r0.2.1), .slice Ah02 (r0.2.2.1.1).length ch02, .slice Ah03 (r0.2.2.1.2).length ch03, .slice Ah04 (r0.2.2.2.1.1).length ch04, .slice Ah05 (r0.2.2.2.1.2).length ch05, .slice Ah06 (r0.2.2.2.2).length ch06] 58)).cell? ⟨w.heap.size, 2, none⟩ = some (.slice Aa02 na02 ca02) := (Ba0.alloc _).cell 2
  have d_Ba0_3 : (W24.alloc (.cells #[.int .i64 (r0.1), .int .i64 (r0.2.1), .slice Ah02 (r0.2.2.1.1).length ch02, .slice Ah03 (r0.2.2.1.2).length ch03, .slice Ah04 (r0.2.2.2.1.1).length ch04, .slice Ah05 (r0.2.2.2.1.2).length ch05, .slice Ah06 (r0.2.2.2.2).length ch06] 58)).cell? ⟨w.heap.size, 3, none⟩ = some (.slice Aa03 na03 ca03) := (Ba0.alloc _).cell 3
  have d_Ba0_4 : (W24.alloc (.cells #[.int .i64 (r0.1), .int .i64 (r0.2.1), .slice Ah02 (r0.2.2.1.1).length ch02, .slice Ah03 (r0.2.2.1.2).length ch03, .slice Ah04 (r0.2.2.2.1.1).length ch04, .slice Ah05 (r0.2.2.2.1.2).length ch05, .slice Ah06 (r0.2.2.2.2).length ch06] 58)).cell? ⟨w.heap.size, 4, none⟩ = some (.slice Aa04 na04 ca04) := (Ba0.alloc _).cell 4
  have d_Ba0_5 : (W24.alloc (.cells #[.int .i64 (r0.1), .int .i64 (r0.2.1), .slice Ah02 (r0.2.2.1.1).length ch02, .slice Ah03 (r0.2.2.1.2).length ch03, .slice Ah04 (r0.2.2.2.1.1).length ch04, .slice Ah05 (r0.2.2.2.1.2).length ch05, .slice Ah06 (r0.2.2.2.2).length ch06] 58)).cell? ⟨w.heap.size, 5, none⟩ = some (.slice Aa05 na05 ca05) := (Ba0.alloc _).cell 5
  have d_Ba0_6 : (W24.alloc (.cells #[.int .i64 (r0.1), .int .i64 (r0.2.1), .slice Ah02 (r0.2.2.1.1).length ch02, .slice Ah03 (r0.2.2.1.2).length ch03, .slice Ah04 (r0.2.2.2.1.1).length ch04, .slice Ah05 (r0.2.2.2.1.2).length ch05, .slice Ah06 (r0.2.2.2.2).length ch06] 58)).cell? ⟨w.heap.size, 6, none⟩ = some (.slice Aa06 na06 ca06) := (Ba0.alloc _).cell 6
  have d_Bs0_0 : (W24.alloc (.cells #[.int .i64 (r0.1), .int .i64 (r0.2.1), .slice Ah02 (r0.2.2.1.1).length ch02, .slice Ah03 (r0.2.2.1.2).length ch03, .slice Ah04 (r0.2.2.2.1.1).length ch04, .slice Ah05 (r0.2.2.2.1.2).length ch05, .slice Ah06 (r0.2.2.2.2).length ch06] 58)).cell? ⟨W4.heap.size, 0, none⟩ = some (.int .i64 (r0.1)) := (Bs0.alloc _).cell 0
  have d_Bs0_1 : (W24.alloc (.cells #[.int .i64 (r0.1), .int .i64 (r0.2.1), .slice Ah02 (r0.2.2.1.1).length ch02, .slice Ah03 (r0.2.2.1.2).length ch03, .slice Ah04 (r0.2.2.2.1.1).length ch04, .slice Ah05 (r0.2.2.2.1.2).length ch05, .slice Ah06 (r0.2.2.2.2).length ch06] 58)).cell? ⟨W4.heap.size, 1, none⟩ = some (.int .i64 (r0.2.1)) := (Bs0.alloc _).cell 1
  have d_Bs0_2 : (W24.alloc (.cells #[.int .i64 (r0.1), .int .i64 (r0.2.1), .slice Ah02 (r0.2.2.1.1).length ch02, .slice Ah03 (r0.2.2.1.2).length ch03, .slice Ah04 (r0.2.2.2.1.1).length ch04, .slice Ah05 (r0.2.2.2.1.2).length ch05, .slice Ah06 (r0.2.2.2.2).length ch06] 58)).cell? ⟨W4.heap.size, 2, none⟩ = some (.slice As02 ns02 cs02) := (Bs0.alloc _).cell 2
  have d_Bs0_3 : (W24.alloc (.cells #[.int .i64 (r0.1), .int .i64 (r0.2.1), .slice Ah02 (r0.2.2.1.1).length ch02, .slice Ah03 (r0.2.2.1.2).length ch03, .slice Ah04 (r0.2.2.2.1.1).length ch04, .slice Ah05 (r0.2.2.2.1.2).length ch05, .slice Ah06 (r0.2.2.2.2).length ch06] 58)).cell? ⟨W4.heap.size, 3, none⟩ = some (.slice As03 ns03 cs03) := (Bs0.alloc _).cell 3
  have d_Bs0_4 : (W24.alloc (.cells #[.int .i64 (r0.1), .int .i64 (r0.2.1), .slice Ah02 (r0.2.2.1.1).length ch02, .slice Ah03 (r0.2.2.1.2).length ch03, .slice Ah04 (r0.2.2.2.1.1).length ch04, .slice Ah05 (r0.2.2.2.1.2).length ch05, .slice Ah06 (r0.2.2.2.2).length ch06] 58)).cell? ⟨W4.heap.size, 4, none⟩ = some (.slice As04 ns04 cs04) := (Bs0.alloc _).cell 4
  have d_Bs0_5 : (W24.alloc (.cells #[.int .i64 (r0.1), .int .i64 (r0.2.1), .slice Ah02 (r0.2.2.1.1).length ch02, .slice Ah03 (r0.2.2.1.2).length ch03, .slice Ah04 (r0.2.2.2.1.1).length ch04, .slice Ah05 (r0.2.2.2.1.2).length ch05, .slice Ah06 (r0.2.2.2.2).length ch06] 58)).cell? ⟨W4.heap.size, 5, none⟩ = some (.slice As05 ns05 cs05) := (Bs0.alloc _).cell 5
  have d_Bs0_6 : (W24.alloc (.cells #[.int .i64 (r0.1), .int .i64 (r0.2.1), .slice Ah02 (r0.2.2.1.1).length ch02, .slice Ah03 (r0.2.2.1.2).length ch03, .slice Ah04 (r0.2.2.2.1.1).length ch04, .slice Ah05 (r0.2.2.2.1.2).length ch05, .slice Ah06 (r0.2.2.2.2).length ch06] 58)).cell? ⟨W4.heap.size, 6, none⟩ = some (.slice As06 ns06 cs06) := (Bs0.alloc _).cell 6
  have d_Bx0_0 : (W24.alloc (.cells #[.int .i64 (r0.1), .int .i64 (r0.2.1), .slice Ah02 (r0.2.2.1.1).length ch02, .slice Ah03 (r0.2.2.1.2).length ch03, .slice Ah04 (r0.2.2.2.1.1).length ch04, .slice Ah05 (r0.2.2.2.1.2).length ch05, .slice Ah06 (r0.2.2.2.2).length ch06] 58)).cell? ⟨W5.heap.size, 0, none⟩ = some (.int .i64 (p0.1)) := (Bx0.alloc _).cell 0
  have d_Bx0_1 : (W24.alloc (.cells #[.int .i64 (r0.1), .int .i64 (r0.2.1), .slice Ah02 (r0.2.2.1.1).length ch02, .slice Ah03 (r0.2.2.1.2).length ch03, .slice Ah04 (r0.2.2.2.1.1).length ch04, .slice Ah05 (r0.2.2.2.1.2).length ch05, .slice Ah06 (r0.2.2.2.2).length ch06] 58)).cell? ⟨W5.heap.size, 1, none⟩ = some (.int .i64 (p0.2.1)) := (Bx0.alloc _).cell 1
  have d_Bx0_2 : (W24.alloc (.cells #[.int .i64 (r0.1), .int .i64 (r0.2.1), .slice Ah02 (r0.2.2.1.1).length ch02, .slice Ah03 (r0.2.2.1.2).length ch03, .slice Ah04 (r0.2.2.2.1.1).length ch04, .slice Ah05 (r0.2.2.2.1.2).length ch05, .slice Ah06 (r0.2.2.2.2).length ch06] 58)).cell? ⟨W5.heap.size, 2, none⟩ = some (.slice Ax02 (p0.2.2.1.1).length cx02) := (Bx0.alloc _).cell 2
  have d_Bx0_3 : (W24.alloc (.cells #[.int .i64 (r0.1), .int .i64 (r0.2.1), .slice Ah02 (r0.2.2.1.1).length ch02, .slice Ah03 (r0.2.2.1.2).length ch03, .slice Ah04 (r0.2.2.2.1.1).length ch04, .slice Ah05 (r0.2.2.2.1.2).length ch05, .slice Ah06 (r0.2.2.2.2).length ch06] 58)).cell? ⟨W5.heap.size, 3, none⟩ = some (.slice Ax03 (p0.2.2.1.2).length cx03) := (Bx0.alloc _).cell 3
  have d_Bx0_4 : (W24.alloc (.cells #[.int .i64 (r0.1), .int .i64 (r0.2.1), .slice Ah02 (r0.2.2.1.1).length ch02, .slice Ah03 (r0.2.2.1.2).length ch03, .slice Ah04 (r0.2.2.2.1.1).length ch04, .slice Ah05 (r0.2.2.2.1.2).length ch05, .slice Ah06 (r0.2.2.2.2).length ch06] 58)).cell? ⟨W5.heap.size, 4, none⟩ = some (.slice Ax04 (p0.2.2.2.1.1).length cx04) := (Bx0.alloc _).cell 4
  have d_Bx0_5 : (W24.alloc (.cells #[.int .i64 (r0.1), .int .i64 (r0.2.1), .slice Ah02 (r0.2.2.1.1).length ch02, .slice Ah03 (r0.2.2.1.2).length ch03, .slice Ah04 (r0.2.2.2.1.1).length ch04, .slice Ah05 (r0.2.2.2.1.2).length ch05, .slice Ah06 (r0.2.2.2.2).length ch06] 58)).cell? ⟨W5.heap.size, 5, none⟩ = some (.slice Ax05 (p0.2.2.2.1.2).length cx05) := (Bx0.alloc _).cell 5
  have d_Bx0_6 : (W24.alloc (.cells #[.int .i64 (r0.1), .int .i64 (r0.2.1), .slice Ah02 (r0.2.2.1.1).length ch02, .slice Ah03 (r0.2.2.1.2).length ch03, .slice Ah04 (r0.2.2.2.1.1).length ch04, .slice Ah05 (r0.2.2.2.1.2).length ch05, .slice Ah06 (r0.2.2.2.2).length ch06] 58)).cell? ⟨W5.heap.size, 6, none⟩ = some (.slice Ax06 (p0.2.2.2.2).length cx06) := (Bx0.alloc _).cell 6
  have d_Bg0_0 : (W24.alloc (.cells #[.int .i64 (r0.1), .int .i64 (r0.2.1), .slice Ah02 (r0.2.2.1.1).length ch02, .slice Ah03 (r0.2.2.1.2).length ch03, .slice Ah04 (r0.2.2.2.1.1).length ch04, .slice Ah05 (r0.2.2.2.1.2).length ch05, .slice Ah06 (r0.2.2.2.2).length ch06] 58)).cell? ⟨W7.heap.size, 0, none⟩ = some (.int .i64 (r0.1)) := (Bg0.alloc _).cell 0
  have d_Bg0_1 : (W24.alloc (.cells #[.int .i64 (r0.1), .int .i64 (r0.2.1), .slice Ah02 (r0.2.2.1.1).length ch02, .slice Ah03 (r0.2.2.1.2).length ch03, .slice Ah04 (r0.2.2.2.1.1).length ch04, .slice Ah05 (r0.2.2.2.1.2).length ch05, .slice Ah06 (r0.2.2.2.2).length ch06] 58)).cell? ⟨W7.heap.size, 1, none⟩ = some (.int .i64 (r0.2.1)) := (Bg0.alloc _).cell 1
  have d_Bg0_2 : (W24.alloc (.cells #[.int .i64 (r0.1), .int .i64 (r0.2.1), .slice Ah02 (r0.2.2.1.1).length ch02, .slice Ah03 (r0.2.2.1.2).length ch03, .slice Ah04 (r0.2.2.2.1.1).length ch04, .slice Ah05 (r0.2.2.2.1.2).length ch05, .slice Ah06 (r0.2.2.2.2).length ch06] 58)).cell? ⟨W7.heap.size, 2, none⟩ = some (.slice Ag02 (r0.2.2.1.1).length cg02) := (Bg0.alloc _).cell 2
  have d_Bg0_3 : (W24.alloc (.cells #[.int .i64 (r0.1), .int .i64 (r0.2.1), .slice Ah02 (r0.2.2.1.1).length ch02, .slice Ah03 (r0.2.2.1.2).length ch03, .slice Ah04 (r0.2.2.2.1.1).length ch04, .slice Ah05 (r0.2.2.2.1.2).length ch05, .slice Ah06 (r0.2.2.2.2).length ch06] 58)).cell? ⟨W7.heap.size, 3, none⟩ = some (.slice Ag03 (r0.2.2.1.2).length cg03) := (Bg0.alloc _).cell 3
  have d_Bg0_4 : (W24.alloc (.cells #[.int .i64 (r0.1), .int .i64 (r0.2.1), .slice Ah02 (r0.2.2.1.1).length ch02, .slice Ah03 (r0.2.2.1.2).length ch03, .slice Ah04 (r0.2.2.2.1.1).length ch04, .slice Ah05 (r0.2.2.2.1.2).length ch05, .slice Ah06 (r0.2.2.2.2).length ch06] 58)).cell? ⟨W7.heap.size, 4, none⟩ = some (.slice Ag04 (r0.2.2.2.1.1).length cg04) := (Bg0.alloc _).cell 4
  have d_Bg0_5 : (W24.alloc (.cells #[.int .i64 (r0.1), .int .i64 (r0.2.1), .slice Ah02 (r0.2.2.1.1).length ch02, .slice Ah03 (r0.2.2.1.2).length ch03, .slice Ah04 (r0.2.2.2.1.1).length ch04, .slice Ah05 (r0.2.2.2.1.2).length ch05, .slice Ah06 (r0.2.2.2.2).length ch06] 58)).cell? ⟨W7.heap.size, 5, none⟩ = some (.slice Ag05 (r0.2.2.2.1.2).length cg05) := (Bg0.alloc _).cell 5
  have d_Bg0_6 : (W24.alloc (.cells #[.int .i64 (r0.1), .int .i64 (r0.2.1), .slice Ah02 (r0.2.2.1.1).length ch02, .slice Ah03 (r0.2.2.1.2).length ch03, .slice Ah04 (r0.2.2.2.1.1).length ch04, .slice Ah05 (r0.2.2.2.1.2).length ch05, .slice Ah06 (r0.2.2.2.2).length ch06] 58)).cell? ⟨W7.heap.size, 6, none⟩ = some (.slice Ag06 (r0.2.2.2.2).length cg06) := (Bg0.alloc _).cell 6
  go_wp2_with fail
  refine (o_eqNode ((tNode).reach ((tNode).read o_h0) ?hB) ((tNode).reach ((tNode).up r_s0 (by omega : W4.heap.size ≤ W24.heap.size)) ?hB)).mono ?_
  all_goals try (case hB => exact (belx))
  rintro e W25 ⟨rfl, hb_⟩
  clear d_Ba0_0 d_Ba0_1 d_Ba0_2 d_Ba0_3 d_Ba0_4 d_Ba0_5 d_Ba0_6 d_Bs0_0 d_Bs0_1 d_Bs0_2 d_Bs0_3 d_Bs0_4 d_Bs0_5 d_Bs0_6 d_Bx0_0 d_Bx0_1 d_Bx0_2 d_Bx0_3 d_Bx0_4 d_Bx0_5 d_Bx0_6 d_Bg0_0 d_Bg0_1 d_Bg0_2 d_Bg0_3 d_Bg0_4 d_Bg0_5 d_Bg0_6
  clear k_Ba0_0 k_Ba0_1 k_Ba0_2 k_Ba0_3 k_Ba0_4 k_Ba0_5 k_Ba0_6
  clear k_Bs0_0 k_Bs0_1 k_Bs0_2 k_Bs0_3 k_Bs0_4 k_Bs0_5 k_Bs0_6
  clear k_Bx0_0 k_Bx0_1 k_Bx0_2 k_Bx0_3 k_Bx0_4 k_Bx0_5 k_Bx0_6
  clear k_Bg0_0 k_Bg0_1 k_Bg0_2 k_Bg0_3 k_Bg0_4 k_Bg0_5 k_Bg0_6
  have hs25 : Below W24.heap.size W24 W25 := bel_trans (belx) hb_
  have z25 : W24.heap.size + 1 ≤ W25.heap.size := by have := hb_.size; simpa using this
  have hB25 : Below w.heap.size w W25 := bel_trans hB24 hs25
  replace Ba0 := Ba0.below hs25 Ba0.size
  replace Bs0 := Bs0.below hs25 Bs0.size
  replace Bx0 := Bx0.below hs25 Bx0.size
  replace Bg0 := Bg0.below hs25 Bg0.size
  have Bh0 : Box W25 (W24.heap.size) 58 #[.int .i64 (r0.1), .int .i64 (r0.2.1), .slice Ah02 (r0.2.2.1.1).length ch02, .slice Ah03 (r0.2.2.1.2).length ch03, .slice Ah04 (r0.2.2.2.1.1).length ch04, .slice Ah05 (r0.2.2.2.1.2).length ch05, .slice Ah06 (r0.2.2.2.2).length ch06] := Box.below (Box.new _ _ _) hb_ (by first | (simp; done) | (simp; omega))
  replace o_g0 := Ty.below (t := tNode) o_g0 hs25
  replace o_g1 := Ty.below (t := tHeld.row) o_g1 hs25
  replace o_h0 := Ty.below (t := tNode) o_h0 hs25
  replace o_h1 := Ty.below (t := tHeld.row) o_h1 hs25
  replace r_s0 := (tNode).keep r_s0 (fun b hb => hs25.block b (Nat.lt_of_lt_of_le hb (by omega)))
  replace r_s1 := (tHeld.row).keep r_s1 (fun b hb => hs25.block b (Nat.lt_of_lt_of_le hb (by omega)))
  have k_Ba0_0 : W25.cell? ⟨w.heap.size, 0, none⟩ = some (.int .i64 (p0.1)) := Ba0.cell 0
  have k_Ba0_1 : W25.cell? ⟨w.heap.size, 1, none⟩ = some (.int .i64 (p0.2.1)) := Ba0.cell 1
  have k_Ba0_2 : W25.cell? ⟨w.heap.size, 2, none⟩ = some (.slice Aa02 na02 ca02) := Ba0.cell 2
  have k_Ba0_3 : W25.cell? ⟨w.heap.size, 3, none⟩ = some (.slice Aa03 na03 ca03) := Ba0.cell 3
  have k_Ba0_4 : W25.cell? ⟨w.heap.size, 4, none⟩ = some (.slice Aa04 na04 ca04) := Ba0.cell 4
  have k_Ba0_5 : W25.cell? ⟨w.heap.size, 5, none⟩ = some (.slice Aa05 na05 ca05) := Ba0.cell 5
  have k_Ba0_6 : W25.cell? ⟨w.heap.size, 6, none⟩ = some (.slice Aa06 na06 ca06) := Ba0.cell 6
  have k_Bs0_0 : W25.cell? ⟨W4.heap.size, 0, none⟩ = some (.int .i64 (r0.1)) := Bs0.cell 0
  have k_Bs0_1 : W25.cell? ⟨W4.heap.size, 1, none⟩ = some (.int .i64 (r0.2.1)) := Bs0.cell 1
  have k_Bs0_2 : W25.cell? ⟨W4.heap.size, 2, none⟩ = some (.slice As02 ns02 cs02) := Bs0.cell 2
  have k_Bs0_3 : W25.cell? ⟨W4.heap.size, 3, none⟩ = some (.slice As03 ns03 cs03) := Bs0.cell 3
  have k_Bs0_4 : W25.cell? ⟨W4.heap.size, 4, none⟩ = some (.slice As04 ns04 cs04) := Bs0.cell 4
  have k_Bs0_5 : W25.cell? ⟨W4.heap.size, 5, none⟩ = some (.slice As05 ns05 cs05) := Bs0.cell 5
  have k_Bs0_6 : W25.cell? ⟨W4.heap.size, 6, none⟩ = some (.slice As06 ns06 cs06) := Bs0.cell 6
  have k_Bx0_0 : W25.cell? ⟨W5.heap.size, 0, none⟩ = some (.int .i64 (p0.1)) := Bx0.cell 0
  have k_Bx0_1 : W25.cell? ⟨W5.heap.size, 1, none⟩ = some (.int .i64 (p0.2.1)) := Bx0.cell 1
  have k_Bx0_2 : W25.cell? ⟨W5.heap.size, 2, none⟩ = some (.slice Ax02 (p0.2.2.1.1).length cx02) := Bx0.cell 2
  have k_Bx0_3 : W25.cell? ⟨W5.heap.size, 3, none⟩ = some (.slice Ax03 (p0.2.2.1.2).length cx03) := Bx0.cell 3
  have k_Bx0_4 : W25.cell? ⟨W5.heap.size, 4, none⟩ = some (.slice Ax04 (p0.2.2.2.1.1).length cx04) := Bx0.cell 4
  have k_Bx0_5 : W25.cell? ⟨W5.heap.size, 5, none⟩ = some (.slice Ax05 (p0.2.2.2.1.2).length cx05) := Bx0.cell 5
  have k_Bx0_6 : W25.cell? ⟨W5.heap.size, 6, none⟩ = some (.slice Ax06 (p0.2.2.2.2).length cx06) := Bx0.cell 6
  have k_Bg0_0 : W25.cell? ⟨W7.heap.size, 0, none⟩ = some (.int .i64 (r0.1)) := Bg0.cell 0
  have k_Bg0_1 : W25.cell? ⟨W7.heap.size, 1, none⟩ = some (.int .i64 (r0.2.1)) := Bg0.cell 1
  have k_Bg0_2 : W25.cell? ⟨W7.heap.size, 2, none⟩ = some (.slice Ag02 (r0.2.2.1.1).length cg02) := Bg0.cell 2
  have k_Bg0_3 : W25.cell? ⟨W7.heap.size, 3, none⟩ = some (.slice Ag03 (r0.2.2.1.2).length cg03) := Bg0.cell 3
  have k_Bg0_4 : W25.cell? ⟨W7.heap.size, 4, none⟩ = some (.slice Ag04 (r0.2.2.2.1.1).length cg04) := Bg0.cell 4
  have k_Bg0_5 : W25.cell? ⟨W7.heap.size, 5, none⟩ = some (.slice Ag05 (r0.2.2.2.1.2).length cg05) := Bg0.cell 5
  have k_Bg0_6 : W25.cell? ⟨W7.heap.size, 6, none⟩ = some (.slice Ag06 (r0.2.2.2.2).length cg06) := Bg0.cell 6
  have k_Bh0_0 : W25.cell? ⟨W24.heap.size, 0, none⟩ = some (.int .i64 (r0.1)) := Bh0.cell 0
  have k_Bh0_1 : W25.cell? ⟨W24.heap.size, 1, none⟩ = some (.int .i64 (r0.2.1)) := Bh0.cell 1
  have k_Bh0_2 : W25.cell? ⟨W24.heap.size, 2, none⟩ = some (.slice Ah02 (r0.2.2.1.1).length ch02) := Bh0.cell 2
  have k_Bh0_3 : W25.cell? ⟨W24.heap.size, 3, none⟩ = some (.slice Ah03 (r0.2.2.1.2).length ch03) := Bh0.cell 3
  have k_Bh0_4 : W25.cell? ⟨W24.heap.size, 4, none⟩ = some (.slice Ah04 (r0.2.2.2.1.1).length ch04) := Bh0.cell 4
  have k_Bh0_5 : W25.cell? ⟨W24.heap.size, 5, none⟩ = some (.slice Ah05 (r0.2.2.2.1.2).length ch05) := Bh0.cell 5
  have k_Bh0_6 : W25.cell? ⟨W24.heap.size, 6, none⟩ = some (.slice Ah06 (r0.2.2.2.2).length ch06) := Bh0.cell 6
  clear hb_
  go_wp2_with fail
  refine (o_eqHeldS ((tHeld.row).reach ((tHeld.row).read o_h1) ?hB) ((tHeld.row).reach ((tHeld.row).up r_s1 (by omega : W4.heap.size ≤ W25.heap.size)) ?hB)).mono ?_
  all_goals try (case hB => exact (belx))
  rintro e W26 ⟨rfl, hb_⟩
  clear k_Ba0_0 k_Ba0_1 k_Ba0_2 k_Ba0_3 k_Ba0_4 k_Ba0_5 k_Ba0_6
  clear k_Bs0_0 k_Bs0_1 k_Bs0_2 k_Bs0_3 k_Bs0_4 k_Bs0_5 k_Bs0_6
  clear k_Bx0_0 k_Bx0_1 k_Bx0_2 k_Bx0_3 k_Bx0_4 k_Bx0_5 k_Bx0_6
  clear k_Bg0_0 k_Bg0_1 k_Bg0_2 k_Bg0_3 k_Bg0_4 k_Bg0_5 k_Bg0_6
  clear k_Bh0_0 k_Bh0_1 k_Bh0_2 k_Bh0_3 k_Bh0_4 k_Bh0_5 k_Bh0_6
  have hs26 : Below W25.heap.size W25 W26 := bel_trans (belx) hb_
  have z26 : W25.heap.size + 0 ≤ W26.heap.size := by have := hb_.size; simpa using this
  have hB26 : Below w.heap.size w W26 := bel_trans hB25 hs26
  replace Ba0 := Ba0.below hs26 Ba0.size
  replace Bs0 := Bs0.below hs26 Bs0.size
  replace Bx0 := Bx0.below hs26 Bx0.size
  replace Bg0 := Bg0.below hs26 Bg0.size
  replace Bh0 := Bh0.below hs26 Bh0.size
  replace o_g0 := Ty.below (t := tNode) o_g0 hs26
  replace o_g1 := Ty.below (t := tHeld.row) o_g1 hs26
  replace o_h0 := Ty.below (t := tNode) o_h0 hs26
  replace o_h1 := Ty.below (t := tHeld.row) o_h1 hs26
  replace r_s0 := (tNode).keep r_s0 (fun b hb => hs26.block b (Nat.lt_of_lt_of_le hb (by omega)))
  replace r_s1 := (tHeld.row).keep r_s1 (fun b hb => hs26.block b (Nat.lt_of_lt_of_le hb (by omega)))
  have k_Ba0_0 : W26.cell? ⟨w.heap.size, 0, none⟩ = some (.int .i64 (p0.1)) := Ba0.cell 0
  have k_Ba0_1 : W26.cell? ⟨w.heap.size, 1, none⟩ = some (.int .i64 (p0.2.1)) := Ba0.cell 1
  have k_Ba0_2 : W26.cell? ⟨w.heap.size, 2, none⟩ = some (.slice Aa02 na02 ca02) := Ba0.cell 2
  have k_Ba0_3 : W26.cell? ⟨w.heap.size, 3, none⟩ = some (.slice Aa03 na03 ca03) := Ba0.cell 3
  have k_Ba0_4 : W26.cell? ⟨w.heap.size, 4, none⟩ = some (.slice Aa04 na04 ca04) := Ba0.cell 4
  have k_Ba0_5 : W26.cell? ⟨w.heap.size, 5, none⟩ = some (.slice Aa05 na05 ca05) := Ba0.cell 5
  have k_Ba0_6 : W26.cell? ⟨w.heap.size, 6, none⟩ = some (.slice Aa06 na06 ca06) := Ba0.cell 6
  have k_Bs0_0 : W26.cell? ⟨W4.heap.size, 0, none⟩ = some (.int .i64 (r0.1)) := Bs0.cell 0
  have k_Bs0_1 : W26.cell? ⟨W4.heap.size, 1, none⟩ = some (.int .i64 (r0.2.1)) := Bs0.cell 1
  have k_Bs0_2 : W26.cell? ⟨W4.heap.size, 2, none⟩ = some (.slice As02 ns02 cs02) := Bs0.cell 2
  have k_Bs0_3 : W26.cell? ⟨W4.heap.size, 3, none⟩ = some (.slice As03 ns03 cs03) := Bs0.cell 3
  have k_Bs0_4 : W26.cell? ⟨W4.heap.size, 4, none⟩ = some (.slice As04 ns04 cs04) := Bs0.cell 4
  have k_Bs0_5 : W26.cell? ⟨W4.heap.size, 5, none⟩ = some (.slice As05 ns05 cs05) := Bs0.cell 5
  have k_Bs0_6 : W26.cell? ⟨W4.heap.size, 6, none⟩ = some (.slice As06 ns06 cs06) := Bs0.cell 6
  have k_Bx0_0 : W26.cell? ⟨W5.heap.size, 0, none⟩ = some (.int .i64 (p0.1)) := Bx0.cell 0
  have k_Bx0_1 : W26.cell? ⟨W5.heap.size, 1, none⟩ = some (.int .i64 (p0.2.1)) := Bx0.cell 1
  have k_Bx0_2 : W26.cell? ⟨W5.heap.size, 2, none⟩ = some (.slice Ax02 (p0.2.2.1.1).length cx02) := Bx0.cell 2
  have k_Bx0_3 : W26.cell? ⟨W5.heap.size, 3, none⟩ = some (.slice Ax03 (p0.2.2.1.2).length cx03) := Bx0.cell 3
  have k_Bx0_4 : W26.cell? ⟨W5.heap.size, 4, none⟩ = some (.slice Ax04 (p0.2.2.2.1.1).length cx04) := Bx0.cell 4
  have k_Bx0_5 : W26.cell? ⟨W5.heap.size, 5, none⟩ = some (.slice Ax05 (p0.2.2.2.1.2).length cx05) := Bx0.cell 5
  have k_Bx0_6 : W26.cell? ⟨W5.heap.size, 6, none⟩ = some (.slice Ax06 (p0.2.2.2.2).length cx06) := Bx0.cell 6
  have k_Bg0_0 : W26.cell? ⟨W7.heap.size, 0, none⟩ = some (.int .i64 (r0.1)) := Bg0.cell 0
  have k_Bg0_1 : W26.cell? ⟨W7.heap.size, 1, none⟩ = some (.int .i64 (r0.2.1)) := Bg0.cell 1
  have k_Bg0_2 : W26.cell? ⟨W7.heap.size, 2, none⟩ = some (.slice Ag02 (r0.2.2.1.1).length cg02) := Bg0.cell 2
  have k_Bg0_3 : W26.cell? ⟨W7.heap.size, 3, none⟩ = some (.slice Ag03 (r0.2.2.1.2).length cg03) := Bg0.cell 3
  have k_Bg0_4 : W26.cell? ⟨W7.heap.size, 4, none⟩ = some (.slice Ag04 (r0.2.2.2.1.1).length cg04) := Bg0.cell 4
  have k_Bg0_5 : W26.cell? ⟨W7.heap.size, 5, none⟩ = some (.slice Ag05 (r0.2.2.2.1.2).length cg05) := Bg0.cell 5
  have k_Bg0_6 : W26.cell? ⟨W7.heap.size, 6, none⟩ = some (.slice Ag06 (r0.2.2.2.2).length cg06) := Bg0.cell 6
  have k_Bh0_0 : W26.cell? ⟨W24.heap.size, 0, none⟩ = some (.int .i64 (r0.1)) := Bh0.cell 0
  have k_Bh0_1 : W26.cell? ⟨W24.heap.size, 1, none⟩ = some (.int .i64 (r0.2.1)) := Bh0.cell 1
  have k_Bh0_2 : W26.cell? ⟨W24.heap.size, 2, none⟩ = some (.slice Ah02 (r0.2.2.1.1).length ch02) := Bh0.cell 2
  have k_Bh0_3 : W26.cell? ⟨W24.heap.size, 3, none⟩ = some (.slice Ah03 (r0.2.2.1.2).length ch03) := Bh0.cell 3
  have k_Bh0_4 : W26.cell? ⟨W24.heap.size, 4, none⟩ = some (.slice Ah04 (r0.2.2.2.1.1).length ch04) := Bh0.cell 4
  have k_Bh0_5 : W26.cell? ⟨W24.heap.size, 5, none⟩ = some (.slice Ah05 (r0.2.2.2.1.2).length ch05) := Bh0.cell 5
  have k_Bh0_6 : W26.cell? ⟨W24.heap.size, 6, none⟩ = some (.slice Ah06 (r0.2.2.2.2).length ch06) := Bh0.cell 6
  clear hb_
  go_wp2_with fail
  refine (o_heldNode (1) ((tNode).reach ((tNode).read o_g0) ?hB) (by omega) (by omega)).mono ?_
  all_goals try (case hB => exact (belx))
  rintro e W27 ⟨rfl, hb_⟩
  clear k_Ba0_0 k_Ba0_1 k_Ba0_2 k_Ba0_3 k_Ba0_4 k_Ba0_5 k_Ba0_6
  clear k_Bs0_0 k_Bs0_1 k_Bs0_2 k_Bs0_3 k_Bs0_4 k_Bs0_5 k_Bs0_6
  clear k_Bx0_0 k_Bx0_1 k_Bx0_2 k_Bx0_3 k_Bx0_4 k_Bx0_5 k_Bx0_6
  clear k_Bg0_0 k_Bg0_1 k_Bg0_2 k_Bg0_3 k_Bg0_4 k_Bg0_5 k_Bg0_6
  clear k_Bh0_0 k_Bh0_1 k_Bh0_2 k_Bh0_3 k_Bh0_4 k_Bh0_5 k_Bh0_6
  have hs27 : Below W26.heap.size W26 W27 := bel_trans (belx) hb_
  have z27 : W26.heap.size + 0 ≤ W27.heap.size := by have := hb_.size; simpa using this
  have hB27 : Below w.heap.size w W27 := bel_trans hB26 hs27
  replace Ba0 := Ba0.below hs27 Ba0.size
  replace Bs0 := Bs0.below hs27 Bs0.size
  replace Bx0 := Bx0.below hs27 Bx0.size
  replace Bg0 := Bg0.below hs27 Bg0.size
  replace Bh0 := Bh0.below hs27 Bh0.size
  replace o_g0 := Ty.below (t := tNode) o_g0 hs27
  replace o_g1 := Ty.below (t := tHeld.row) o_g1 hs27
  replace o_h0 := Ty.below (t := tNode) o_h0 hs27
  replace o_h1 := Ty.below (t := tHeld.row) o_h1 hs27
  replace r_s0 := (tNode).keep r_s0 (fun b hb => hs27.block b (Nat.lt_of_lt_of_le hb (by omega)))
  replace r_s1 := (tHeld.row).keep r_s1 (fun b hb => hs27.block b (Nat.lt_of_lt_of_le hb (by omega)))
  have k_Ba0_0 : W27.cell? ⟨w.heap.size, 0, none⟩ = some (.int .i64 (p0.1)) := Ba0.cell 0
  have k_Ba0_1 : W27.cell? ⟨w.heap.size, 1, none⟩ = some (.int .i64 (p0.2.1)) := Ba0.cell 1
  have k_Ba0_2 : W27.cell? ⟨w.heap.size, 2, none⟩ = some (.slice Aa02 na02 ca02) := Ba0.cell 2
  have k_Ba0_3 : W27.cell? ⟨w.heap.size, 3, none⟩ = some (.slice Aa03 na03 ca03) := Ba0.cell 3
  have k_Ba0_4 : W27.cell? ⟨w.heap.size, 4, none⟩ = some (.slice Aa04 na04 ca04) := Ba0.cell 4
  have k_Ba0_5 : W27.cell? ⟨w.heap.size, 5, none⟩ = some (.slice Aa05 na05 ca05) := Ba0.cell 5
  have k_Ba0_6 : W27.cell? ⟨w.heap.size, 6, none⟩ = some (.slice Aa06 na06 ca06) := Ba0.cell 6
  have k_Bs0_0 : W27.cell? ⟨W4.heap.size, 0, none⟩ = some (.int .i64 (r0.1)) := Bs0.cell 0
  have k_Bs0_1 : W27.cell? ⟨W4.heap.size, 1, none⟩ = some (.int .i64 (r0.2.1)) := Bs0.cell 1
  have k_Bs0_2 : W27.cell? ⟨W4.heap.size, 2, none⟩ = some (.slice As02 ns02 cs02) := Bs0.cell 2
  have k_Bs0_3 : W27.cell? ⟨W4.heap.size, 3, none⟩ = some (.slice As03 ns03 cs03) := Bs0.cell 3
  have k_Bs0_4 : W27.cell? ⟨W4.heap.size, 4, none⟩ = some (.slice As04 ns04 cs04) := Bs0.cell 4
  have k_Bs0_5 : W27.cell? ⟨W4.heap.size, 5, none⟩ = some (.slice As05 ns05 cs05) := Bs0.cell 5
  have k_Bs0_6 : W27.cell? ⟨W4.heap.size, 6, none⟩ = some (.slice As06 ns06 cs06) := Bs0.cell 6
  have k_Bx0_0 : W27.cell? ⟨W5.heap.size, 0, none⟩ = some (.int .i64 (p0.1)) := Bx0.cell 0
  have k_Bx0_1 : W27.cell? ⟨W5.heap.size, 1, none⟩ = some (.int .i64 (p0.2.1)) := Bx0.cell 1
  have k_Bx0_2 : W27.cell? ⟨W5.heap.size, 2, none⟩ = some (.slice Ax02 (p0.2.2.1.1).length cx02) := Bx0.cell 2
  have k_Bx0_3 : W27.cell? ⟨W5.heap.size, 3, none⟩ = some (.slice Ax03 (p0.2.2.1.2).length cx03) := Bx0.cell 3
  have k_Bx0_4 : W27.cell? ⟨W5.heap.size, 4, none⟩ = some (.slice Ax04 (p0.2.2.2.1.1).length cx04) := Bx0.cell 4
  have k_Bx0_5 : W27.cell? ⟨W5.heap.size, 5, none⟩ = some (.slice Ax05 (p0.2.2.2.1.2).length cx05) := Bx0.cell 5
  have k_Bx0_6 : W27.cell? ⟨W5.heap.size, 6, none⟩ = some (.slice Ax06 (p0.2.2.2.2).length cx06) := Bx0.cell 6
  have k_Bg0_0 : W27.cell? ⟨W7.heap.size, 0, none⟩ = some (.int .i64 (r0.1)) := Bg0.cell 0
  have k_Bg0_1 : W27.cell? ⟨W7.heap.size, 1, none⟩ = some (.int .i64 (r0.2.1)) := Bg0.cell 1
  have k_Bg0_2 : W27.cell? ⟨W7.heap.size, 2, none⟩ = some (.slice Ag02 (r0.2.2.1.1).length cg02) := Bg0.cell 2
  have k_Bg0_3 : W27.cell? ⟨W7.heap.size, 3, none⟩ = some (.slice Ag03 (r0.2.2.1.2).length cg03) := Bg0.cell 3
  have k_Bg0_4 : W27.cell? ⟨W7.heap.size, 4, none⟩ = some (.slice Ag04 (r0.2.2.2.1.1).length cg04) := Bg0.cell 4
  have k_Bg0_5 : W27.cell? ⟨W7.heap.size, 5, none⟩ = some (.slice Ag05 (r0.2.2.2.1.2).length cg05) := Bg0.cell 5
  have k_Bg0_6 : W27.cell? ⟨W7.heap.size, 6, none⟩ = some (.slice Ag06 (r0.2.2.2.2).length cg06) := Bg0.cell 6
  have k_Bh0_0 : W27.cell? ⟨W24.heap.size, 0, none⟩ = some (.int .i64 (r0.1)) := Bh0.cell 0
  have k_Bh0_1 : W27.cell? ⟨W24.heap.size, 1, none⟩ = some (.int .i64 (r0.2.1)) := Bh0.cell 1
  have k_Bh0_2 : W27.cell? ⟨W24.heap.size, 2, none⟩ = some (.slice Ah02 (r0.2.2.1.1).length ch02) := Bh0.cell 2
  have k_Bh0_3 : W27.cell? ⟨W24.heap.size, 3, none⟩ = some (.slice Ah03 (r0.2.2.1.2).length ch03) := Bh0.cell 3
  have k_Bh0_4 : W27.cell? ⟨W24.heap.size, 4, none⟩ = some (.slice Ah04 (r0.2.2.2.1.1).length ch04) := Bh0.cell 4
  have k_Bh0_5 : W27.cell? ⟨W24.heap.size, 5, none⟩ = some (.slice Ah05 (r0.2.2.2.1.2).length ch05) := Bh0.cell 5
  have k_Bh0_6 : W27.cell? ⟨W24.heap.size, 6, none⟩ = some (.slice Ah06 (r0.2.2.2.2).length ch06) := Bh0.cell 6
  clear hb_
  go_wp2_with fail
  refine (o_heldHeldS (1 + ((cntNode (r0) : Nat) : Int)) ((tHeld.row).reach ((tHeld.row).read o_g1) ?hB) (by omega) (by omega)).mono ?_
  all_goals try (case hB => exact (belx))
  rintro e W28 ⟨rfl, hb_⟩
  clear k_Ba0_0 k_Ba0_1 k_Ba0_2 k_Ba0_3 k_Ba0_4 k_Ba0_5 k_Ba0_6
  clear k_Bs0_0 k_Bs0_1 k_Bs0_2 k_Bs0_3 k_Bs0_4 k_Bs0_5 k_Bs0_6
  clear k_Bx0_0 k_Bx0_1 k_Bx0_2 k_Bx0_3 k_Bx0_4 k_Bx0_5 k_Bx0_6
  clear k_Bg0_0 k_Bg0_1 k_Bg0_2 k_Bg0_3 k_Bg0_4 k_Bg0_5 k_Bg0_6
  clear k_Bh0_0 k_Bh0_1 k_Bh0_2 k_Bh0_3 k_Bh0_4 k_Bh0_5 k_Bh0_6
  have hs28 : Below W27.heap.size W27 W28 := bel_trans (belx) hb_
  have z28 : W27.heap.size + 0 ≤ W28.heap.size := by have := hb_.size; simpa using this
  have hB28 : Below w.heap.size w W28 := bel_trans hB27 hs28
  replace Ba0 := Ba0.below hs28 Ba0.size
  replace Bs0 := Bs0.below hs28 Bs0.size
  replace Bx0 := Bx0.below hs28 Bx0.size
  replace Bg0 := Bg0.below hs28 Bg0.size
  replace Bh0 := Bh0.below hs28 Bh0.size
  replace o_g0 := Ty.below (t := tNode) o_g0 hs28
  replace o_g1 := Ty.below (t := tHeld.row) o_g1 hs28
  replace o_h0 := Ty.below (t := tNode) o_h0 hs28
  replace o_h1 := Ty.below (t := tHeld.row) o_h1 hs28
  replace r_s0 := (tNode).keep r_s0 (fun b hb => hs28.block b (Nat.lt_of_lt_of_le hb (by omega)))
  replace r_s1 := (tHeld.row).keep r_s1 (fun b hb => hs28.block b (Nat.lt_of_lt_of_le hb (by omega)))
  have k_Ba0_0 : W28.cell? ⟨w.heap.size, 0, none⟩ = some (.int .i64 (p0.1)) := Ba0.cell 0
  have k_Ba0_1 : W28.cell? ⟨w.heap.size, 1, none⟩ = some (.int .i64 (p0.2.1)) := Ba0.cell 1
  have k_Ba0_2 : W28.cell? ⟨w.heap.size, 2, none⟩ = some (.slice Aa02 na02 ca02) := Ba0.cell 2
  have k_Ba0_3 : W28.cell? ⟨w.heap.size, 3, none⟩ = some (.slice Aa03 na03 ca03) := Ba0.cell 3
  have k_Ba0_4 : W28.cell? ⟨w.heap.size, 4, none⟩ = some (.slice Aa04 na04 ca04) := Ba0.cell 4
  have k_Ba0_5 : W28.cell? ⟨w.heap.size, 5, none⟩ = some (.slice Aa05 na05 ca05) := Ba0.cell 5
  have k_Ba0_6 : W28.cell? ⟨w.heap.size, 6, none⟩ = some (.slice Aa06 na06 ca06) := Ba0.cell 6
  have k_Bs0_0 : W28.cell? ⟨W4.heap.size, 0, none⟩ = some (.int .i64 (r0.1)) := Bs0.cell 0
  have k_Bs0_1 : W28.cell? ⟨W4.heap.size, 1, none⟩ = some (.int .i64 (r0.2.1)) := Bs0.cell 1
  have k_Bs0_2 : W28.cell? ⟨W4.heap.size, 2, none⟩ = some (.slice As02 ns02 cs02) := Bs0.cell 2
  have k_Bs0_3 : W28.cell? ⟨W4.heap.size, 3, none⟩ = some (.slice As03 ns03 cs03) := Bs0.cell 3
  have k_Bs0_4 : W28.cell? ⟨W4.heap.size, 4, none⟩ = some (.slice As04 ns04 cs04) := Bs0.cell 4
  have k_Bs0_5 : W28.cell? ⟨W4.heap.size, 5, none⟩ = some (.slice As05 ns05 cs05) := Bs0.cell 5
  have k_Bs0_6 : W28.cell? ⟨W4.heap.size, 6, none⟩ = some (.slice As06 ns06 cs06) := Bs0.cell 6
  have k_Bx0_0 : W28.cell? ⟨W5.heap.size, 0, none⟩ = some (.int .i64 (p0.1)) := Bx0.cell 0
  have k_Bx0_1 : W28.cell? ⟨W5.heap.size, 1, none⟩ = some (.int .i64 (p0.2.1)) := Bx0.cell 1
  have k_Bx0_2 : W28.cell? ⟨W5.heap.size, 2, none⟩ = some (.slice Ax02 (p0.2.2.1.1).length cx02) := Bx0.cell 2
  have k_Bx0_3 : W28.cell? ⟨W5.heap.size, 3, none⟩ = some (.slice Ax03 (p0.2.2.1.2).length cx03) := Bx0.cell 3
  have k_Bx0_4 : W28.cell? ⟨W5.heap.size, 4, none⟩ = some (.slice Ax04 (p0.2.2.2.1.1).length cx04) := Bx0.cell 4
  have k_Bx0_5 : W28.cell? ⟨W5.heap.size, 5, none⟩ = some (.slice Ax05 (p0.2.2.2.1.2).length cx05) := Bx0.cell 5
  have k_Bx0_6 : W28.cell? ⟨W5.heap.size, 6, none⟩ = some (.slice Ax06 (p0.2.2.2.2).length cx06) := Bx0.cell 6
  have k_Bg0_0 : W28.cell? ⟨W7.heap.size, 0, none⟩ = some (.int .i64 (r0.1)) := Bg0.cell 0
  have k_Bg0_1 : W28.cell? ⟨W7.heap.size, 1, none⟩ = some (.int .i64 (r0.2.1)) := Bg0.cell 1
  have k_Bg0_2 : W28.cell? ⟨W7.heap.size, 2, none⟩ = some (.slice Ag02 (r0.2.2.1.1).length cg02) := Bg0.cell 2
  have k_Bg0_3 : W28.cell? ⟨W7.heap.size, 3, none⟩ = some (.slice Ag03 (r0.2.2.1.2).length cg03) := Bg0.cell 3
  have k_Bg0_4 : W28.cell? ⟨W7.heap.size, 4, none⟩ = some (.slice Ag04 (r0.2.2.2.1.1).length cg04) := Bg0.cell 4
  have k_Bg0_5 : W28.cell? ⟨W7.heap.size, 5, none⟩ = some (.slice Ag05 (r0.2.2.2.1.2).length cg05) := Bg0.cell 5
  have k_Bg0_6 : W28.cell? ⟨W7.heap.size, 6, none⟩ = some (.slice Ag06 (r0.2.2.2.2).length cg06) := Bg0.cell 6
  have k_Bh0_0 : W28.cell? ⟨W24.heap.size, 0, none⟩ = some (.int .i64 (r0.1)) := Bh0.cell 0
  have k_Bh0_1 : W28.cell? ⟨W24.heap.size, 1, none⟩ = some (.int .i64 (r0.2.1)) := Bh0.cell 1
  have k_Bh0_2 : W28.cell? ⟨W24.heap.size, 2, none⟩ = some (.slice Ah02 (r0.2.2.1.1).length ch02) := Bh0.cell 2
  have k_Bh0_3 : W28.cell? ⟨W24.heap.size, 3, none⟩ = some (.slice Ah03 (r0.2.2.1.2).length ch03) := Bh0.cell 3
  have k_Bh0_4 : W28.cell? ⟨W24.heap.size, 4, none⟩ = some (.slice Ah04 (r0.2.2.2.1.1).length ch04) := Bh0.cell 4
  have k_Bh0_5 : W28.cell? ⟨W24.heap.size, 5, none⟩ = some (.slice Ah05 (r0.2.2.2.1.2).length ch05) := Bh0.cell 5
  have k_Bh0_6 : W28.cell? ⟨W24.heap.size, 6, none⟩ = some (.slice Ah06 (r0.2.2.2.2).length ch06) := Bh0.cell 6
  clear hb_
  go_wp2_with fail
  go_ret
  exact ⟨rfl, hB28⟩

/-! ### THE ROW's STEP -/
set_option maxHeartbeats 400000 in
set_option maxRecDepth 100000 in
theorem lifted (os : Os) (started : os.Started) (H : Type) (enc : TypeId × Value → H) :
    ReturnsInHanded {} Tryz.checked os 5 .any (Rows.fnExactNodeFlushSpec.pre6 enc Tryz.prog Tryz.f5 Rows.fnExactNodeFlushRow.domain false) (Rows.fnExactNodeFlushSpec.post enc Tryz.prog Tryz.f5 false true false false) := by
  refine returnsInHanded_of_change (C := Tryz.checked) own started (by kernel_rfl) Tryz.func5
    (ChangeSpec.witness6 (enc := enc) (C := Tryz.checked) false ⟨#[], #[.agg #[.int .i64 0, .int .i64 0, .slice none 0 0, .slice none 0 0, .slice none 0 0, .slice none 0 0, .slice none 0 0], .int .i64 0, .slice none 0 0], []⟩ 8 (by kernel_rfl) (by kernel_rfl) (by kernel_rfl) (by kernel_rfl)) ?_
  intro W base args ds gs before hval0 hW hcnd _
  have hval : ∀ (j : Nat) t v, Tryz.f5.params[j]? = some t → args[j]? = some v → Value.okWide Tryz.prog W .any base t v := hval0
  have hW' := hW
  obtain ⟨p, q, hA0, hV, rfl, hfz, hnd⟩ := hW
  have hA : DataW.TrodAll enc Tryz.prog W 0 (fun _ => true) true Tryz.f5.params.toList args.toList ds p := hA0
  rw [Tryz.params5] at hA hval
  obtain ⟨v0, vs0, d0, ds0, p0, q0, hargs, rfl, rfl, h0, r0⟩ := trodAll_cons hA
  obtain ⟨v1, vs1, d1, ds1, p1, q1, rfl, rfl, rfl, h1, r1⟩ := trodAll_cons r0
  obtain ⟨v2, vs2, d2, ds2, p2, q2, rfl, rfl, rfl, h2, r2⟩ := trodAll_cons r1
  obtain ⟨rfl, rfl, rfl⟩ := trodAll_nil r2
  obtain rfl : args = #[v0, v1, v2] := by cases args; simp_all
  obtain ⟨rfl, rfl⟩ := trodVars_none hV
  obtain ⟨cs0, rfl, hsz0⟩ := okWide_struct Tryz.underlying51 (hval 0 51 v0 rfl rfl)
  have k0 := h0
  have lt0 : ∀ x ∈ p0, x.block < W.heap.size := by obtain ⟨m, hm⟩ := k0; exact DataW.trod_lt m _ _ _ hm
  obtain ⟨x0, w0⟩ : ∃ a, tNode.R W W.heap.size cs0.toList a := by
    obtain ⟨fuel, hf⟩ := h0
    exact frR_Node fuel _ _ (by simpa [Value.cells] using hf)
  obtain ⟨a1, rfl, rfl, rfl, w1⟩ := open_int Tryz.underlying3 (hval 1 3 v1 rfl rfl) h1
  obtain ⟨A2, n2, c2, rfl⟩ := okWide_slice Tryz.underlying26 (hval 2 26 v2 rfl rfl)
  have k2 := h2
  have lt2 : ∀ x ∈ p2, x.block < W.heap.size := by obtain ⟨m, hm⟩ := k2; exact DataW.trod_lt m _ _ _ hm
  obtain ⟨x2, w2⟩ : ∃ a, tBy.R W W.heap.size [.slice A2 n2 c2] a := by
    obtain ⟨fuel, hf⟩ := h2
    exact frR_by fuel _ _ (by simpa [Value.cells] using hf)
  clear hA0 hval0
  refine (walk cs0 x0 a1 A2 n2 c2 x2 W w0 w1 w2).mono fun e W' ⟨he, bel⟩ => ?_
  subst he
  exact ⟨_, rfl, _, _, _, [], _, [], hW', trodAll_mk1 (shut_bool Tryz.underlying4 _), (trodAll_cons_mk (Below.trod laidOut (by kernel_rfl) (of_decide_eq_true (by kernel_rfl)) k0 bel lt0) (trodAll_cons_mk (shut_int Tryz.underlying3 w1) (trodAll_cons_mk (Below.trod laidOut (by kernel_rfl) (of_decide_eq_true (by kernel_rfl)) k2 bel lt2) trodAll_mk0))), rfl, bel.frame _, fun h => by cases h⟩

theorem over : Rows.fnExactNodeFlushRow.holds Tryz.pinned (OpenSpec.ofChange Rows.fnExactNodeFlushSpec) :=
  OpenClaim.holds_of_wide 5 Tryz.f5 rfl rfl rfl rfl rfl rfl rfl ⟨rfl, rfl, rfl, rfl, rfl⟩ rfl rfl rfl rfl rfl named_fnExactNodeFlush Tryz.func5 closed_fnExactNodeFlush
    (of_decide_eq_true (by kernel_rfl)) (by unfold Func.isWrapper; first | (rw [if_pos (by decide +kernel)]; kernel_rfl) | (rw [if_neg (by decide +kernel)]; exact ⟨rfl, rfl⟩))
    (fun os started H enc _ => lifted os started H enc)

theorem proved : Rows.FnExactNodeFlushSaid := over
#print axioms proved
end Go.Proofs.YtojbicecopkfbaaGreat.fnExactNodeFlush
