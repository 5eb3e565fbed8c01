/-
  For every argument (in all at most 2^20 elements) the program's CmdOk answers as its model does, in every field, writes into no argument, and its answer owns its memory. No further condition.
-/
import Derived.Test.YtcljjdmfnniobaaGreatCloFnExactCmdOk
import Derived.Test.YtcljjdmfnniobaaGreatRows
import Derived.Test.YtcljjdmfnniobaaGreatFr
import Derived.WalkKit
import Derived.ProofKit
import Derived.OpenShut
import Derived.ShutString
import Derived.ChangeOld
import Derived.Below
import Derived.Test.YtcljjdmfnniobaaGreatLCmd
import Derived.Test.YtcljjdmfnniobaaGreatPCmdN
import Derived.Deep.RegionHeld3
namespace Go.Proofs.YtcljjdmfnniobaaGreat.fnExactCmdOk
open Go.ChangeShapes Go.WideShapes Go.ChangeAt Go.RowKit
open Go.ChangeMaps (open_string shut_string)
set_option linter.unusedVariables false

open Go.Proofs.YtcljjdmfnniobaaGreat
theorem own : ownKnob Tryz.prog.godebug = none := by kernel_rfl
theorem laidOut : laidOutB Tryz.prog = true := by kernel_rfl



/-! ### STEP 1: the walk -/
set_option maxRecDepth 100000 in
set_option maxHeartbeats 2000000 in
theorem walk (cs0 : Array Value) (p0 : DCmd) (w : World) (h0 : tCmd.R w w.heap.size cs0.toList p0) :
    Calls Tryz.prog 3 #[.agg cs0] w fun e w' => e = .returned (.bool true) ∧ Below w.heap.size w w' := by
  obtain ⟨cs0⟩ := cs0
  replace h0 : tCmd.R w w.heap.size cs0 p0 := h0
  obtain ⟨Aa03, na03, ca03, Aa04, na04, ca04, rfl, -, -, -, -, -, -, -, -, -, -, -⟩ := openCmd h0
  by_cases hz0 : szCmd (p0) ≤ 1048576
  rotate_left
  · go_enter Tryz.func3, Tryz.ntmps3
    go_wp2_with fail
    refine (o_szCmd_f ((tCmd).reach h0 ?hB) (by omega) (by omega) (by omega)).mono ?_
    all_goals try (case hB => exact (by repeat (first | (with_reducible exact Below.refl _ _) | (with_reducible assumption) | (with_reducible refine bel_alloc ?_ _) | (with_reducible refine bel_drew ?_) | (with_reducible refine below_drewN ?_ _) | (with_reducible refine bel_put ?_ (by first | exact Nat.le_refl _ | (simp; done) | (simp; omega)) _))))
    rintro e W1 ⟨rfl, hb_⟩
    have hs1 : Below w.heap.size w W1 := bel_trans (by repeat (first | (with_reducible exact Below.refl _ _) | (with_reducible assumption) | (with_reducible refine bel_alloc ?_ _) | (with_reducible refine bel_drew ?_) | (with_reducible refine below_drewN ?_ _) | (with_reducible refine bel_put ?_ (by first | exact Nat.le_refl _ | (simp; done) | (simp; omega)) _))) hb_
    have z1 : w.heap.size + 1 ≤ W1.heap.size := by have := hb_.size; simpa using this
    have hB1 : Below w.heap.size w W1 := hs1
    have Ba0 : Box W1 (w.heap.size) 25 #[.int .i64 (p0.1), .int .i64 (p0.2.1), .int .i64 (p0.2.2.1), .slice Aa03 na03 ca03, .slice Aa04 na04 ca04] := Box.below (Box.new _ _ _) hb_ (by first | (simp; done) | (simp; omega))
    have k_Ba0_0 : W1.cell? ⟨w.heap.size, 0, none⟩ = some (.int .i64 (p0.1)) := Ba0.cell 0
    have k_Ba0_1 : W1.cell? ⟨w.heap.size, 1, none⟩ = some (.int .i64 (p0.2.1)) := Ba0.cell 1
    have k_Ba0_2 : W1.cell? ⟨w.heap.size, 2, none⟩ = some (.int .i64 (p0.2.2.1)) := Ba0.cell 2
    have k_Ba0_3 : W1.cell? ⟨w.heap.size, 3, none⟩ = some (.slice Aa03 na03 ca03) := Ba0.cell 3
    have k_Ba0_4 : W1.cell? ⟨w.heap.size, 4, none⟩ = some (.slice Aa04 na04 ca04) := Ba0.cell 4
    go_wp2
    go_ret
    exact ⟨rfl, hB1⟩
  have dz0 : decide ((1048576 : Int) - ((szCmd (p0) : Nat) : Int) < 0) = false := by simp; omega
  obtain ⟨r0, hr0⟩ : ∃ r, decide (CmOk p0) = r := ⟨_, rfl⟩
  have HR0 := Lib.hid hr0
  have qr0 : (r0 != r0) = false := by simp
  clear hr0
  have hcp0 := cntCmd_le (p0)
  go_enter Tryz.func3, Tryz.ntmps3
  go_wp2_with fail
  refine (o_szCmd_t ((tCmd).reach h0 ?hB) (by omega) (by omega) (by omega)).mono ?_
  all_goals try (case hB => exact (by repeat (first | (with_reducible exact Below.refl _ _) | (with_reducible assumption) | (with_reducible refine bel_alloc ?_ _) | (with_reducible refine bel_drew ?_) | (with_reducible refine below_drewN ?_ _) | (with_reducible refine bel_put ?_ (by first | exact Nat.le_refl _ | (simp; done) | (simp; omega)) _))))
  rintro e W1 ⟨rfl, hb_⟩
  have hs1 : Below w.heap.size w W1 := bel_trans (by repeat (first | (with_reducible exact Below.refl _ _) | (with_reducible assumption) | (with_reducible refine bel_alloc ?_ _) | (with_reducible refine bel_drew ?_) | (with_reducible refine below_drewN ?_ _) | (with_reducible refine bel_put ?_ (by first | exact Nat.le_refl _ | (simp; done) | (simp; omega)) _))) hb_
  have z1 : w.heap.size + 1 ≤ W1.heap.size := by have := hb_.size; simpa using this
  have hB1 : Below w.heap.size w W1 := hs1
  have Ba0 : Box W1 (w.heap.size) 25 #[.int .i64 (p0.1), .int .i64 (p0.2.1), .int .i64 (p0.2.2.1), .slice Aa03 na03 ca03, .slice Aa04 na04 ca04] := Box.below (Box.new _ _ _) hb_ (by first | (simp; done) | (simp; omega))
  have k_Ba0_0 : W1.cell? ⟨w.heap.size, 0, none⟩ = some (.int .i64 (p0.1)) := Ba0.cell 0
  have k_Ba0_1 : W1.cell? ⟨w.heap.size, 1, none⟩ = some (.int .i64 (p0.2.1)) := Ba0.cell 1
  have k_Ba0_2 : W1.cell? ⟨w.heap.size, 2, none⟩ = some (.int .i64 (p0.2.2.1)) := Ba0.cell 2
  have k_Ba0_3 : W1.cell? ⟨w.heap.size, 3, none⟩ = some (.slice Aa03 na03 ca03) := Ba0.cell 3
  have k_Ba0_4 : W1.cell? ⟨w.heap.size, 4, none⟩ = some (.slice Aa04 na04 ca04) := Ba0.cell 4
  clear hb_
  go_wp2_with fail
  refine (o_toCmd ((tCmd).reach ((tCmd).reach h0 hB1) ?hB) (by omega)).mono ?_
  all_goals try (case hB => exact (by repeat (first | (with_reducible exact Below.refl _ _) | (with_reducible assumption) | (with_reducible refine bel_alloc ?_ _) | (with_reducible refine bel_drew ?_) | (with_reducible refine below_drewN ?_ _) | (with_reducible refine bel_put ?_ (by first | exact Nat.le_refl _ | (simp; done) | (simp; omega)) _))))
  rintro e W2 ⟨csy0, Fy0, rfl, o_y0, Ny0, hb_⟩
  clear k_Ba0_0 k_Ba0_1 k_Ba0_2 k_Ba0_3 k_Ba0_4
  have Iy0 : ∀ f ∈ Fy0, W1.heap.size + 0 ≤ f ∧ f < W2.heap.size := fun f hf => ⟨Nat.le_trans (by first | (simp; done) | (simp; omega)) (Ny0.2 f hf), (tCmd).lt o_y0 f hf⟩
  have Dy0 := Ny0.1
  clear Ny0
  obtain ⟨Ay03, cy03, Fy03, Ay04, cy04, Fy04, rfl, -, -, -, -, -, -, -, -, -, -⟩ := openOCmd o_y0
  have hs2 : Below W1.heap.size W1 W2 := bel_trans (by repeat (first | (with_reducible exact Below.refl _ _) | (with_reducible assumption) | (with_reducible refine bel_alloc ?_ _) | (with_reducible refine bel_drew ?_) | (with_reducible refine below_drewN ?_ _) | (with_reducible refine bel_put ?_ (by first | exact Nat.le_refl _ | (simp; done) | (simp; omega)) _))) hb_
  have z2 : W1.heap.size + 0 ≤ W2.heap.size := by have := hb_.size; simpa using this
  have hB2 : Below w.heap.size w W2 := bel_trans hB1 hs2
  replace Ba0 := Ba0.below hs2 Ba0.size
  have k_Ba0_0 : W2.cell? ⟨w.heap.size, 0, none⟩ = some (.int .i64 (p0.1)) := Ba0.cell 0
  have k_Ba0_1 : W2.cell? ⟨w.heap.size, 1, none⟩ = some (.int .i64 (p0.2.1)) := Ba0.cell 1
  have k_Ba0_2 : W2.cell? ⟨w.heap.size, 2, none⟩ = some (.int .i64 (p0.2.2.1)) := Ba0.cell 2
  have k_Ba0_3 : W2.cell? ⟨w.heap.size, 3, none⟩ = some (.slice Aa03 na03 ca03) := Ba0.cell 3
  have k_Ba0_4 : W2.cell? ⟨w.heap.size, 4, none⟩ = some (.slice Aa04 na04 ca04) := Ba0.cell 4
  clear hb_
  go_wp2_with fail
  refine (s_CmdOk ((tCmd).reach ((tCmd).read o_y0) ?hB) (by omega)).mono ?_
  all_goals try (case hB => exact (by repeat (first | (with_reducible exact Below.refl _ _) | (with_reducible assumption) | (with_reducible refine bel_alloc ?_ _) | (with_reducible refine bel_drew ?_) | (with_reducible refine below_drewN ?_ _) | (with_reducible refine bel_put ?_ (by first | exact Nat.le_refl _ | (simp; done) | (simp; omega)) _))))
  rintro e W3 ⟨rfl, hb_⟩
  clear k_Ba0_0 k_Ba0_1 k_Ba0_2 k_Ba0_3 k_Ba0_4
  clear o_y0 Iy0 Dy0
  rw [HR0.out]
  have hs3 : Below W2.heap.size W2 W3 := bel_trans (by repeat (first | (with_reducible exact Below.refl _ _) | (with_reducible assumption) | (with_reducible refine bel_alloc ?_ _) | (with_reducible refine bel_drew ?_) | (with_reducible refine below_drewN ?_ _) | (with_reducible refine bel_put ?_ (by first | exact Nat.le_refl _ | (simp; done) | (simp; omega)) _))) hb_
  have z3 : W2.heap.size + 0 ≤ W3.heap.size := by have := hb_.size; simpa using this
  have hB3 : Below w.heap.size w W3 := bel_trans hB2 hs3
  replace Ba0 := Ba0.below hs3 Ba0.size
  have k_Ba0_0 : W3.cell? ⟨w.heap.size, 0, none⟩ = some (.int .i64 (p0.1)) := Ba0.cell 0
  have k_Ba0_1 : W3.cell? ⟨w.heap.size, 1, none⟩ = some (.int .i64 (p0.2.1)) := Ba0.cell 1
  have k_Ba0_2 : W3.cell? ⟨w.heap.size, 2, none⟩ = some (.int .i64 (p0.2.2.1)) := Ba0.cell 2
  have k_Ba0_3 : W3.cell? ⟨w.heap.size, 3, none⟩ = some (.slice Aa03 na03 ca03) := Ba0.cell 3
  have k_Ba0_4 : W3.cell? ⟨w.heap.size, 4, none⟩ = some (.slice Aa04 na04 ca04) := Ba0.cell 4
  clear hb_
  go_wp2_with fail
  refine (o_toCmd ((tCmd).reach ((tCmd).reach h0 hB3) ?hB) (by omega)).mono ?_
  all_goals try (case hB => exact (by repeat (first | (with_reducible exact Below.refl _ _) | (with_reducible assumption) | (with_reducible refine bel_alloc ?_ _) | (with_reducible refine bel_drew ?_) | (with_reducible refine below_drewN ?_ _) | (with_reducible refine bel_put ?_ (by first | exact Nat.le_refl _ | (simp; done) | (simp; omega)) _))))
  rintro e W4 ⟨csx0, Fx0, rfl, o_x0, Nx0, hb_⟩
  clear k_Ba0_0 k_Ba0_1 k_Ba0_2 k_Ba0_3 k_Ba0_4
  have Ix0 : ∀ f ∈ Fx0, W3.heap.size + 0 ≤ f ∧ f < W4.heap.size := fun f hf => ⟨Nat.le_trans (by first | (simp; done) | (simp; omega)) (Nx0.2 f hf), (tCmd).lt o_x0 f hf⟩
  have Dx0 := Nx0.1
  clear Nx0
  obtain ⟨Ax03, cx03, Fx03, Ax04, cx04, Fx04, rfl, -, -, -, -, -, -, -, -, -, -⟩ := openOCmd o_x0
  have hs4 : Below W3.heap.size W3 W4 := bel_trans (by repeat (first | (with_reducible exact Below.refl _ _) | (with_reducible assumption) | (with_reducible refine bel_alloc ?_ _) | (with_reducible refine bel_drew ?_) | (with_reducible refine below_drewN ?_ _) | (with_reducible refine bel_put ?_ (by first | exact Nat.le_refl _ | (simp; done) | (simp; omega)) _))) hb_
  have z4 : W3.heap.size + 0 ≤ W4.heap.size := by have := hb_.size; simpa using this
  have hB4 : Below w.heap.size w W4 := bel_trans hB3 hs4
  replace Ba0 := Ba0.below hs4 Ba0.size
  have k_Ba0_0 : W4.cell? ⟨w.heap.size, 0, none⟩ = some (.int .i64 (p0.1)) := Ba0.cell 0
  have k_Ba0_1 : W4.cell? ⟨w.heap.size, 1, none⟩ = some (.int .i64 (p0.2.1)) := Ba0.cell 1
  have k_Ba0_2 : W4.cell? ⟨w.heap.size, 2, none⟩ = some (.int .i64 (p0.2.2.1)) := Ba0.cell 2
  have k_Ba0_3 : W4.cell? ⟨w.heap.size, 3, none⟩ = some (.slice Aa03 na03 ca03) := Ba0.cell 3
  have k_Ba0_4 : W4.cell? ⟨w.heap.size, 4, none⟩ = some (.slice Aa04 na04 ca04) := Ba0.cell 4
  clear hb_
  have d_Ba0_0 : (W4.alloc (.cells #[.int .i64 (p0.1), .int .i64 (p0.2.1), .int .i64 (p0.2.2.1), .slice Ax03 (p0.2.2.2.1).length cx03, .slice Ax04 (p0.2.2.2.2).length cx04] 28)).cell? ⟨w.heap.size, 0, none⟩ = some (.int .i64 (p0.1)) := (Ba0.alloc _).cell 0
  have d_Ba0_1 : (W4.alloc (.cells #[.int .i64 (p0.1), .int .i64 (p0.2.1), .int .i64 (p0.2.2.1), .slice Ax03 (p0.2.2.2.1).length cx03, .slice Ax04 (p0.2.2.2.2).length cx04] 28)).cell? ⟨w.heap.size, 1, none⟩ = some (.int .i64 (p0.2.1)) := (Ba0.alloc _).cell 1
  have d_Ba0_2 : (W4.alloc (.cells #[.int .i64 (p0.1), .int .i64 (p0.2.1), .int .i64 (p0.2.2.1), .slice Ax03 (p0.2.2.2.1).length cx03, .slice Ax04 (p0.2.2.2.2).length cx04] 28)).cell? ⟨w.heap.size, 2, none⟩ = some (.int .i64 (p0.2.2.1)) := (Ba0.alloc _).cell 2
  have d_Ba0_3 : (W4.alloc (.cells #[.int .i64 (p0.1), .int .i64 (p0.2.1), .int .i64 (p0.2.2.1), .slice Ax03 (p0.2.2.2.1).length cx03, .slice Ax04 (p0.2.2.2.2).length cx04] 28)).cell? ⟨w.heap.size, 3, none⟩ = some (.slice Aa03 na03 ca03) := (Ba0.alloc _).cell 3
  have d_Ba0_4 : (W4.alloc (.cells #[.int .i64 (p0.1), .int .i64 (p0.2.1), .int .i64 (p0.2.2.1), .slice Ax03 (p0.2.2.2.1).length cx03, .slice Ax04 (p0.2.2.2.2).length cx04] 28)).cell? ⟨w.heap.size, 4, none⟩ = some (.slice Aa04 na04 ca04) := (Ba0.alloc _).cell 4
  go_wp2_with fail
  refine (i_CmdOk ((tCmd).reach ((tCmd).read o_x0) ?hB) (by omega)).mono ?_
  all_goals try (case hB => exact (by repeat (first | (with_reducible exact Below.refl _ _) | (with_reducible assumption) | (with_reducible refine bel_alloc ?_ _) | (with_reducible refine bel_drew ?_) | (with_reducible refine below_drewN ?_ _) | (with_reducible refine bel_put ?_ (by first | exact Nat.le_refl _ | (simp; done) | (simp; omega)) _))))
  rintro e W5 ⟨rfl, hb_⟩
  clear d_Ba0_0 d_Ba0_1 d_Ba0_2 d_Ba0_3 d_Ba0_4
  clear k_Ba0_0 k_Ba0_1 k_Ba0_2 k_Ba0_3 k_Ba0_4
  rw [HR0.out]
  have hs5 : Below W4.heap.size W4 W5 := bel_trans (by repeat (first | (with_reducible exact Below.refl _ _) | (with_reducible assumption) | (with_reducible refine bel_alloc ?_ _) | (with_reducible refine bel_drew ?_) | (with_reducible refine below_drewN ?_ _) | (with_reducible refine bel_put ?_ (by first | exact Nat.le_refl _ | (simp; done) | (simp; omega)) _))) hb_
  have z5 : W4.heap.size + 1 ≤ W5.heap.size := by have := hb_.size; simpa using this
  have hB5 : Below w.heap.size w W5 := bel_trans hB4 hs5
  replace Ba0 := Ba0.below hs5 Ba0.size
  have Bx0 : Box W5 (W4.heap.size) 28 #[.int .i64 (p0.1), .int .i64 (p0.2.1), .int .i64 (p0.2.2.1), .slice Ax03 (p0.2.2.2.1).length cx03, .slice Ax04 (p0.2.2.2.2).length cx04] := Box.below (Box.new _ _ _) hb_ (by first | (simp; done) | (simp; omega))
  replace o_x0 := Ty.below (t := tCmd) o_x0 hs5
  have k_Ba0_0 : W5.cell? ⟨w.heap.size, 0, none⟩ = some (.int .i64 (p0.1)) := Ba0.cell 0
  have k_Ba0_1 : W5.cell? ⟨w.heap.size, 1, none⟩ = some (.int .i64 (p0.2.1)) := Ba0.cell 1
  have k_Ba0_2 : W5.cell? ⟨w.heap.size, 2, none⟩ = some (.int .i64 (p0.2.2.1)) := Ba0.cell 2
  have k_Ba0_3 : W5.cell? ⟨w.heap.size, 3, none⟩ = some (.slice Aa03 na03 ca03) := Ba0.cell 3
  have k_Ba0_4 : W5.cell? ⟨w.heap.size, 4, none⟩ = some (.slice Aa04 na04 ca04) := Ba0.cell 4
  have k_Bx0_0 : W5.cell? ⟨W4.heap.size, 0, none⟩ = some (.int .i64 (p0.1)) := Bx0.cell 0
  have k_Bx0_1 : W5.cell? ⟨W4.heap.size, 1, none⟩ = some (.int .i64 (p0.2.1)) := Bx0.cell 1
  have k_Bx0_2 : W5.cell? ⟨W4.heap.size, 2, none⟩ = some (.int .i64 (p0.2.2.1)) := Bx0.cell 2
  have k_Bx0_3 : W5.cell? ⟨W4.heap.size, 3, none⟩ = some (.slice Ax03 (p0.2.2.2.1).length cx03) := Bx0.cell 3
  have k_Bx0_4 : W5.cell? ⟨W4.heap.size, 4, none⟩ = some (.slice Ax04 (p0.2.2.2.2).length cx04) := Bx0.cell 4
  clear hb_
  go_wp2_with fail
  go_region_held3 (fun w' => w'.cell? ⟨w.heap.size, 0, none⟩ = some (.int .i64 (p0.1)) ∧ w'.cell? ⟨w.heap.size, 1, none⟩ = some (.int .i64 (p0.2.1)) ∧ w'.cell? ⟨w.heap.size, 2, none⟩ = some (.int .i64 (p0.2.2.1)) ∧ w'.cell? ⟨w.heap.size, 3, none⟩ = some (.slice Aa03 na03 ca03) ∧ w'.cell? ⟨w.heap.size, 4, none⟩ = some (.slice Aa04 na04 ca04) ∧ w'.cell? ⟨W4.heap.size, 0, none⟩ = some (.int .i64 (p0.1)) ∧ w'.cell? ⟨W4.heap.size, 1, none⟩ = some (.int .i64 (p0.2.1)) ∧ w'.cell? ⟨W4.heap.size, 2, none⟩ = some (.int .i64 (p0.2.2.1)) ∧ w'.cell? ⟨W4.heap.size, 3, none⟩ = some (.slice Ax03 (p0.2.2.2.1).length cx03) ∧ w'.cell? ⟨W4.heap.size, 4, none⟩ = some (.slice Ax04 (p0.2.2.2.2).length cx04)) (first | (exact ⟨k_Ba0_0, k_Ba0_1, k_Ba0_2, k_Ba0_3, k_Ba0_4, k_Bx0_0, k_Bx0_1, k_Bx0_2, k_Bx0_3, k_Bx0_4⟩) | (exact ⟨cell_bel hs7 k_Ba0_0, cell_bel hs7 k_Ba0_1, cell_bel hs7 k_Ba0_2, cell_bel hs7 k_Ba0_3, cell_bel hs7 k_Ba0_4, cell_bel hs7 k_Bx0_0, cell_bel hs7 k_Bx0_1, cell_bel hs7 k_Bx0_2, cell_bel hs7 k_Bx0_3, cell_bel hs7 k_Bx0_4⟩) | (exact ⟨cell_bel hs6 k_Ba0_0, cell_bel hs6 k_Ba0_1, cell_bel hs6 k_Ba0_2, cell_bel hs6 k_Ba0_3, cell_bel hs6 k_Ba0_4, cell_bel hs6 k_Bx0_0, cell_bel hs6 k_Bx0_1, cell_bel hs6 k_Bx0_2, cell_bel hs6 k_Bx0_3, cell_bel hs6 k_Bx0_4⟩) | go_keep)
    (first
      | (go_at_call 6; refine (o_toCmd ((tCmd).reach ((tCmd).reach h0 hB5) (by repeat (first | (with_reducible exact Below.refl _ _) | (with_reducible assumption) | (with_reducible refine bel_alloc ?_ _) | (with_reducible refine bel_drew ?_) | (with_reducible refine below_drewN ?_ _) | (with_reducible refine bel_put ?_ (by first | exact Nat.le_refl _ | (simp; done) | (simp; omega)) _)))) (by omega)).mono ?_; rintro e W6 ⟨csv, Fv, rfl, o_v, Nv, hb_⟩; have hs6 : Below W5.heap.size W5 W6 := bel_trans (by repeat (first | (with_reducible exact Below.refl _ _) | (with_reducible assumption) | (with_reducible refine bel_alloc ?_ _) | (with_reducible refine bel_drew ?_) | (with_reducible refine below_drewN ?_ _) | (with_reducible refine bel_put ?_ (by first | exact Nat.le_refl _ | (simp; done) | (simp; omega)) _))) hb_)
      | (go_at_call 8; refine (o_eqCmd ((tCmd).reach ((tCmd).reach ((tCmd).read o_x0) hs6) (by repeat (first | (with_reducible exact Below.refl _ _) | (with_reducible assumption) | (with_reducible refine bel_alloc ?_ _) | (with_reducible refine bel_drew ?_) | (with_reducible refine below_drewN ?_ _) | (with_reducible refine bel_put ?_ (by first | exact Nat.le_refl _ | (simp; done) | (simp; omega)) _)))) ((tCmd).reach ((tCmd).read o_v) (by repeat (first | (with_reducible exact Below.refl _ _) | (with_reducible assumption) | (with_reducible refine bel_alloc ?_ _) | (with_reducible refine bel_drew ?_) | (with_reducible refine below_drewN ?_ _) | (with_reducible refine bel_put ?_ (by first | exact Nat.le_refl _ | (simp; done) | (simp; omega)) _))))).mono ?_; rintro e W7 ⟨rfl, hb2_⟩; have hs7' : Below W5.heap.size W5 W7 := bel_trans hs6 (bel_trans (by repeat (first | (with_reducible exact Below.refl _ _) | (with_reducible assumption) | (with_reducible refine bel_alloc ?_ _) | (with_reducible refine bel_drew ?_) | (with_reducible refine below_drewN ?_ _) | (with_reducible refine bel_put ?_ (by first | exact Nat.le_refl _ | (simp; done) | (simp; omega)) _))) hb2_); have hs7 := hs7'))
  clear o_v Nv hb_ hb2_ hs6
  clear k_Ba0_0 k_Ba0_1 k_Ba0_2 k_Ba0_3 k_Ba0_4
  clear k_Bx0_0 k_Bx0_1 k_Bx0_2 k_Bx0_3 k_Bx0_4
  have z7 : W5.heap.size + 0 ≤ W7.heap.size := hs7'.size
  have hB7 : Below w.heap.size w W7 := bel_trans hB5 hs7'
  replace Ba0 := Ba0.below hs7' Ba0.size
  replace Bx0 := Bx0.below hs7' Bx0.size
  replace o_x0 := Ty.below (t := tCmd) o_x0 hs7'
  have k_Ba0_0 : W7.cell? ⟨w.heap.size, 0, none⟩ = some (.int .i64 (p0.1)) := Ba0.cell 0
  have k_Ba0_1 : W7.cell? ⟨w.heap.size, 1, none⟩ = some (.int .i64 (p0.2.1)) := Ba0.cell 1
  have k_Ba0_2 : W7.cell? ⟨w.heap.size, 2, none⟩ = some (.int .i64 (p0.2.2.1)) := Ba0.cell 2
  have k_Ba0_3 : W7.cell? ⟨w.heap.size, 3, none⟩ = some (.slice Aa03 na03 ca03) := Ba0.cell 3
  have k_Ba0_4 : W7.cell? ⟨w.heap.size, 4, none⟩ = some (.slice Aa04 na04 ca04) := Ba0.cell 4
  have k_Bx0_0 : W7.cell? ⟨W4.heap.size, 0, none⟩ = some (.int .i64 (p0.1)) := Bx0.cell 0
  have k_Bx0_1 : W7.cell? ⟨W4.heap.size, 1, none⟩ = some (.int .i64 (p0.2.1)) := Bx0.cell 1
  have k_Bx0_2 : W7.cell? ⟨W4.heap.size, 2, none⟩ = some (.int .i64 (p0.2.2.1)) := Bx0.cell 2
  have k_Bx0_3 : W7.cell? ⟨W4.heap.size, 3, none⟩ = some (.slice Ax03 (p0.2.2.2.1).length cx03) := Bx0.cell 3
  have k_Bx0_4 : W7.cell? ⟨W4.heap.size, 4, none⟩ = some (.slice Ax04 (p0.2.2.2.2).length cx04) := Bx0.cell 4
  go_wp2_with fail
  go_ret
  exact ⟨rfl, hB7⟩

/-! ### THE ROW's STEP -/
set_option maxHeartbeats 400000 in
set_option maxRecDepth 100000 in
theorem lifted (os : Os) (started : os.Started) (H : Type) (enc : TypeId × Value → H) :
    ReturnsInHanded {} Tryz.checked os 3 .any (Rows.fnExactCmdOkSpec.pre6 enc Tryz.prog Tryz.f3 Rows.fnExactCmdOkRow.domain false) (Rows.fnExactCmdOkSpec.post enc Tryz.prog Tryz.f3 false true false false) := by
  refine returnsInHanded_of_change (C := Tryz.checked) own started (by kernel_rfl) Tryz.func3
    (ChangeSpec.witness6 (enc := enc) (C := Tryz.checked) false ⟨#[], #[.agg #[.int .i64 0, .int .i64 0, .int .i64 0, .slice none 0 0, .slice none 0 0]], []⟩ 8 (by kernel_rfl) (by kernel_rfl) (by kernel_rfl) (by kernel_rfl)) ?_
  intro W base args ds gs before hval0 hW hcnd _
  have hval : ∀ (j : Nat) t v, Tryz.f3.params[j]? = some t → args[j]? = some v → Value.okWide Tryz.prog W .any base t v := hval0
  have hW' := hW
  obtain ⟨p, q, hA0, hV, rfl, hfz, hnd⟩ := hW
  have hA : DataW.TrodAll enc Tryz.prog W 0 (fun _ => true) true Tryz.f3.params.toList args.toList ds p := hA0
  rw [Tryz.params3] at hA hval
  obtain ⟨v0, vs0, d0, ds0, p0, q0, hargs, rfl, rfl, h0, r0⟩ := trodAll_cons hA
  obtain ⟨rfl, rfl, rfl⟩ := trodAll_nil r0
  obtain rfl : args = #[v0] := by cases args; simp_all
  obtain ⟨rfl, rfl⟩ := trodVars_none hV
  obtain ⟨cs0, rfl, hsz0⟩ := okWide_struct Tryz.underlying25 (hval 0 25 v0 rfl rfl)
  have k0 := h0
  have lt0 : ∀ x ∈ p0, x.block < W.heap.size := by obtain ⟨m, hm⟩ := k0; exact DataW.trod_lt m _ _ _ hm
  obtain ⟨x0, w0⟩ : ∃ a, tCmd.R W W.heap.size cs0.toList a := by
    obtain ⟨fuel, hf⟩ := h0
    exact frR_Cmd fuel _ _ (by simpa [Value.cells] using hf)
  clear hA0 hval0
  refine (walk cs0 x0 W w0).mono fun e W' ⟨he, bel⟩ => ?_
  subst he
  exact ⟨_, rfl, _, _, _, [], _, [], hW', trodAll_mk1 (shut_bool Tryz.underlying4 _), (trodAll_cons_mk (Below.trod laidOut (by kernel_rfl) (of_decide_eq_true (by kernel_rfl)) k0 bel lt0) trodAll_mk0), rfl, bel.frame _, fun h => by cases h⟩

theorem over : Rows.fnExactCmdOkRow.holds Tryz.pinned (OpenSpec.ofChange Rows.fnExactCmdOkSpec) :=
  OpenClaim.holds_of_wide 3 Tryz.f3 rfl rfl rfl rfl rfl rfl rfl ⟨rfl, rfl, rfl, rfl, rfl⟩ rfl rfl rfl rfl rfl named_fnExactCmdOk Tryz.func3 closed_fnExactCmdOk
    (of_decide_eq_true (by kernel_rfl)) (by unfold Func.isWrapper; first | (rw [if_pos (by decide +kernel)]; kernel_rfl) | (rw [if_neg (by decide +kernel)]; exact ⟨rfl, rfl⟩))
    (fun os started H enc _ => lifted os started H enc)

theorem proved : Rows.FnExactCmdOkSaid := over
#print axioms proved
end Go.Proofs.YtcljjdmfnniobaaGreat.fnExactCmdOk
