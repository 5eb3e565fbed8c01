/-
  For every argument (in all at most 2^20 elements) the program's Depth answers as its model does, in every field, writes into no argument, and its answer owns its memory. No further condition.
-/
import Derived.Test.YtpapkonejkdkhaaRows
import Derived.Test.YtpapkonejkdkhaaFr
import Derived.WalkKit
import Derived.ProofKit
import Derived.OpenShut
import Derived.ShutString
import Derived.ChangeOld
import Derived.Below
import Derived.Test.YtpapkonejkdkhaaLCell
import Derived.Test.YtpapkonejkdkhaaPReach
import Derived.Deep.RegionHeld3
namespace Go.Proofs.Ytpapkonejkdkhaa.fnExactDepth
open Go.ChangeShapes Go.WideShapes Go.ChangeAt Go.RowKit
open Go.ChangeMaps (open_string shut_string)
set_option linter.unusedVariables false

open Go.Proofs.Ytpapkonejkdkhaa
theorem own : ownKnob Try.prog.godebug = none := by kernel_rfl
theorem laidOut : laidOutB Try.prog = true := by kernel_rfl



/-! ### STEP 1: the walk -/
set_option maxRecDepth 100000 in
set_option maxHeartbeats 2000000 in
theorem walk (A0 : Option Addr) (n0 c0 : Nat) (p0 : List Int) (cs1 : Array Value) (p1 : DCell) (w : World) (h0 : (tIs).R w w.heap.size [.slice A0 n0 c0] p0) (h1 : tCell.R w w.heap.size cs1.toList p1) :
    Calls Try.prog 4 #[.slice A0 n0 c0, .agg cs1] w fun e w' => e = .returned (.bool true) ∧ Below w.heap.size w w' := by
  have hn0 := (slR_ints h0).1.1
  obtain ⟨cs1⟩ := cs1
  replace h1 : tCell.R w w.heap.size cs1 p1 := h1
  obtain ⟨Aa10, na10, ca10, rfl, -, -, -, -⟩ := openCell h1
  by_cases hz0 : (p0).length ≤ 1048576
  rotate_left
  · have q_ : (1048576 : Int) < (n0 : Int) := by omega
    go_enter Try.func4, Try.ntmps4
    go_wp2
    go_ret
    exact ⟨rfl, (by repeat (first | (with_reducible exact Below.refl _ _) | (with_reducible assumption) | (with_reducible refine bel_alloc ?_ _) | (with_reducible refine bel_drew ?_) | (with_reducible refine below_drewN ?_ _) | (with_reducible refine bel_put ?_ (by first | exact Nat.le_refl _ | (simp; done) | (simp; omega)) _)))⟩
  have q_0 : ¬ (1048576 : Int) < (n0 : Int) := by omega
  clear hn0
  by_cases hz1 : szCell (p1) ≤ 1048576
  rotate_left
  · go_enter Try.func4, Try.ntmps4
    go_wp2_with fail
    refine (o_szCell_f ((tCell).reach h1 ?hB) (by omega) (by omega) (by omega)).mono ?_
    all_goals try (case hB => exact (by repeat (first | (with_reducible exact Below.refl _ _) | (with_reducible assumption) | (with_reducible refine bel_alloc ?_ _) | (with_reducible refine bel_drew ?_) | (with_reducible refine below_drewN ?_ _) | (with_reducible refine bel_put ?_ (by first | exact Nat.le_refl _ | (simp; done) | (simp; omega)) _))))
    rintro e W1 ⟨rfl, hb_⟩
    have hs1 : Below w.heap.size w W1 := bel_trans (by repeat (first | (with_reducible exact Below.refl _ _) | (with_reducible assumption) | (with_reducible refine bel_alloc ?_ _) | (with_reducible refine bel_drew ?_) | (with_reducible refine below_drewN ?_ _) | (with_reducible refine bel_put ?_ (by first | exact Nat.le_refl _ | (simp; done) | (simp; omega)) _))) hb_
    have z1 : w.heap.size + 1 ≤ W1.heap.size := by have := hb_.size; simpa using this
    have hB1 : Below w.heap.size w W1 := hs1
    have Ba1 : Box W1 (w.heap.size) 24 #[.slice Aa10 na10 ca10] := Box.below (Box.new _ _ _) hb_ (by first | (simp; done) | (simp; omega))
    have k_Ba1_0 : W1.cell? ⟨w.heap.size, 0, none⟩ = some (.slice Aa10 na10 ca10) := Ba1.cell 0
    go_wp2
    go_ret
    exact ⟨rfl, hB1⟩
  have dz1 : decide ((1048576 : Int) - ((szCell (p1) : Nat) : Int) < 0) = false := by simp; omega
  obtain ⟨r0, hr0⟩ : ∃ r, fdepth p0 p1 = r := ⟨_, rfl⟩
  have HR0 := Lib.hid hr0
  have qr0 : (r0 != r0) = false := by simp
  clear hr0
  have hcp1 := cntCell_le (p1)
  go_enter Try.func4, Try.ntmps4
  go_wp2_with fail
  refine (o_szCell_t ((tCell).reach h1 ?hB) (by omega) (by omega) (by omega)).mono ?_
  all_goals try (case hB => exact (by repeat (first | (with_reducible exact Below.refl _ _) | (with_reducible assumption) | (with_reducible refine bel_alloc ?_ _) | (with_reducible refine bel_drew ?_) | (with_reducible refine below_drewN ?_ _) | (with_reducible refine bel_put ?_ (by first | exact Nat.le_refl _ | (simp; done) | (simp; omega)) _))))
  rintro e W1 ⟨rfl, hb_⟩
  have hs1 : Below w.heap.size w W1 := bel_trans (by repeat (first | (with_reducible exact Below.refl _ _) | (with_reducible assumption) | (with_reducible refine bel_alloc ?_ _) | (with_reducible refine bel_drew ?_) | (with_reducible refine below_drewN ?_ _) | (with_reducible refine bel_put ?_ (by first | exact Nat.le_refl _ | (simp; done) | (simp; omega)) _))) hb_
  have z1 : w.heap.size + 1 ≤ W1.heap.size := by have := hb_.size; simpa using this
  have hB1 : Below w.heap.size w W1 := hs1
  have Ba1 : Box W1 (w.heap.size) 24 #[.slice Aa10 na10 ca10] := Box.below (Box.new _ _ _) hb_ (by first | (simp; done) | (simp; omega))
  have k_Ba1_0 : W1.cell? ⟨w.heap.size, 0, none⟩ = some (.slice Aa10 na10 ca10) := Ba1.cell 0
  clear hb_
  go_wp2_with fail
  go_region_held3 (fun w' => w'.cell? ⟨w.heap.size, 0, none⟩ = some (.slice Aa10 na10 ca10)) (first | (exact k_Ba1_0) | (exact cell_bel (bel_trans (bel_trans hs2 hs3) hs4) k_Ba1_0) | (exact cell_bel (bel_trans hs2 hs3) k_Ba1_0) | (exact cell_bel hs2 k_Ba1_0) | go_keep)
    (first
      | (go_at_call 23; refine (o_toIntS ((tIs).reach ((tIs).reach h0 hB1) (by repeat (first | (with_reducible exact Below.refl _ _) | (with_reducible assumption) | (with_reducible refine bel_alloc ?_ _) | (with_reducible refine bel_drew ?_) | (with_reducible refine below_drewN ?_ _) | (with_reducible refine bel_put ?_ (by first | exact Nat.le_refl _ | (simp; done) | (simp; omega)) _)))) (by omega)).mono ?_; rintro e W2 ⟨Ay0, cy0, Fy0, rfl, o_y0, Ny0, hb_2⟩; have hs2 : Below W1.heap.size W1 W2 := bel_trans (by repeat (first | (with_reducible exact Below.refl _ _) | (with_reducible assumption) | (with_reducible refine bel_alloc ?_ _) | (with_reducible refine bel_drew ?_) | (with_reducible refine below_drewN ?_ _) | (with_reducible refine bel_put ?_ (by first | exact Nat.le_refl _ | (simp; done) | (simp; omega)) _))) hb_2)
      | (go_at_call 12; refine (o_toCell ((tCell).reach ((tCell).reach h1 (bel_trans hB1 hs2)) (by repeat (first | (with_reducible exact Below.refl _ _) | (with_reducible assumption) | (with_reducible refine bel_alloc ?_ _) | (with_reducible refine bel_drew ?_) | (with_reducible refine below_drewN ?_ _) | (with_reducible refine bel_put ?_ (by first | exact Nat.le_refl _ | (simp; done) | (simp; omega)) _)))) (by omega)).mono ?_; rintro e W3 ⟨csy1, Fy1, rfl, o_y1, Ny1, hb_3⟩; have hs3 : Below W2.heap.size W2 W3 := bel_trans (by repeat (first | (with_reducible exact Below.refl _ _) | (with_reducible assumption) | (with_reducible refine bel_alloc ?_ _) | (with_reducible refine bel_drew ?_) | (with_reducible refine below_drewN ?_ _) | (with_reducible refine bel_put ?_ (by first | exact Nat.le_refl _ | (simp; done) | (simp; omega)) _))) hb_3)
      | (go_at_call 22; refine (s_DepthR ((tIs).reach ((tIs).read (Ty.below (t := tIs) o_y0 hs3)) (by repeat (first | (with_reducible exact Below.refl _ _) | (with_reducible assumption) | (with_reducible refine bel_alloc ?_ _) | (with_reducible refine bel_drew ?_) | (with_reducible refine below_drewN ?_ _) | (with_reducible refine bel_put ?_ (by first | exact Nat.le_refl _ | (simp; done) | (simp; omega)) _)))) (by omega) ((tCell).reach ((tCell).read o_y1) (by repeat (first | (with_reducible exact Below.refl _ _) | (with_reducible assumption) | (with_reducible refine bel_alloc ?_ _) | (with_reducible refine bel_drew ?_) | (with_reducible refine below_drewN ?_ _) | (with_reducible refine bel_put ?_ (by first | exact Nat.le_refl _ | (simp; done) | (simp; omega)) _)))) (by omega)).mono ?_; rintro e W4 ⟨rfl, hb_⟩; have hs4 : Below W3.heap.size W3 W4 := bel_trans (by repeat (first | (with_reducible exact Below.refl _ _) | (with_reducible assumption) | (with_reducible refine bel_alloc ?_ _) | (with_reducible refine bel_drew ?_) | (with_reducible refine below_drewN ?_ _) | (with_reducible refine bel_put ?_ (by first | exact Nat.le_refl _ | (simp; done) | (simp; omega)) _))) hb_))
  have hsx4 : Below W1.heap.size W1 W4 := (bel_trans (bel_trans hs2 hs3) hs4)
  clear k_Ba1_0
  have z4 : W1.heap.size + 0 ≤ W4.heap.size := by have := hs2.size; have := hs3.size; have := hs4.size; omega
  have zp4 : W1.heap.size + 0 ≤ W3.heap.size := by have := hs2.size; have := hs3.size; omega
  have hB4 : Below w.heap.size w W4 := bel_trans hB1 hsx4
  replace Ba1 := Ba1.below hsx4 Ba1.size
  clear o_y0 Ny0
  clear o_y1 Ny1
  clear hb_2 hb_3 hs2 hs3 hs4
  have k_Ba1_0 : W4.cell? ⟨w.heap.size, 0, none⟩ = some (.slice Aa10 na10 ca10) := Ba1.cell 0
  rw [HR0.out]
  clear hb_
  go_wp2_with fail
  refine (o_toIntS ((tIs).reach ((tIs).reach h0 hB4) ?hB) (by omega)).mono ?_
  all_goals try (case hB => exact (by repeat (first | (with_reducible exact Below.refl _ _) | (with_reducible assumption) | (with_reducible refine bel_alloc ?_ _) | (with_reducible refine bel_drew ?_) | (with_reducible refine below_drewN ?_ _) | (with_reducible refine bel_put ?_ (by first | exact Nat.le_refl _ | (simp; done) | (simp; omega)) _))))
  rintro e W5 ⟨Ax0, cx0, Fx0, rfl, o_x0, Nx0, hb_⟩
  clear k_Ba1_0
  have Ix0 : ∀ f ∈ Fx0, W4.heap.size + 0 ≤ f ∧ f < W5.heap.size := fun f hf => ⟨Nat.le_trans (by first | (simp; done) | (simp; omega)) (Nx0.2 f hf), (tIs).lt o_x0 f hf⟩
  have Dx0 := Nx0.1
  clear Nx0
  have hs5 : Below W4.heap.size W4 W5 := bel_trans (by repeat (first | (with_reducible exact Below.refl _ _) | (with_reducible assumption) | (with_reducible refine bel_alloc ?_ _) | (with_reducible refine bel_drew ?_) | (with_reducible refine below_drewN ?_ _) | (with_reducible refine bel_put ?_ (by first | exact Nat.le_refl _ | (simp; done) | (simp; omega)) _))) hb_
  have z5 : W4.heap.size + 0 ≤ W5.heap.size := by have := hb_.size; simpa using this
  have hB5 : Below w.heap.size w W5 := bel_trans hB4 hs5
  replace Ba1 := Ba1.below hs5 Ba1.size
  have k_Ba1_0 : W5.cell? ⟨w.heap.size, 0, none⟩ = some (.slice Aa10 na10 ca10) := Ba1.cell 0
  clear hb_
  go_wp2_with fail
  refine (o_toCell ((tCell).reach ((tCell).reach h1 hB5) ?hB) (by omega)).mono ?_
  all_goals try (case hB => exact (by repeat (first | (with_reducible exact Below.refl _ _) | (with_reducible assumption) | (with_reducible refine bel_alloc ?_ _) | (with_reducible refine bel_drew ?_) | (with_reducible refine below_drewN ?_ _) | (with_reducible refine bel_put ?_ (by first | exact Nat.le_refl _ | (simp; done) | (simp; omega)) _))))
  rintro e W6 ⟨csx1, Fx1, rfl, o_x1, Nx1, hb_⟩
  clear k_Ba1_0
  have Ix1 : ∀ f ∈ Fx1, W5.heap.size + 0 ≤ f ∧ f < W6.heap.size := fun f hf => ⟨Nat.le_trans (by first | (simp; done) | (simp; omega)) (Nx1.2 f hf), (tCell).lt o_x1 f hf⟩
  have Dx1 := Nx1.1
  clear Nx1
  obtain ⟨Ax10, cx10, Fx10, rfl, -, -, -, -⟩ := openOCell o_x1
  have hs6 : Below W5.heap.size W5 W6 := bel_trans (by repeat (first | (with_reducible exact Below.refl _ _) | (with_reducible assumption) | (with_reducible refine bel_alloc ?_ _) | (with_reducible refine bel_drew ?_) | (with_reducible refine below_drewN ?_ _) | (with_reducible refine bel_put ?_ (by first | exact Nat.le_refl _ | (simp; done) | (simp; omega)) _))) hb_
  have z6 : W5.heap.size + 0 ≤ W6.heap.size := by have := hb_.size; simpa using this
  have hB6 : Below w.heap.size w W6 := bel_trans hB5 hs6
  replace Ba1 := Ba1.below hs6 Ba1.size
  replace o_x0 := Ty.below (t := tIs) o_x0 hs6
  have k_Ba1_0 : W6.cell? ⟨w.heap.size, 0, none⟩ = some (.slice Aa10 na10 ca10) := Ba1.cell 0
  clear hb_
  have d_Ba1_0 : (W6.alloc (.cells #[.slice Ax10 (p1).length cx10] 26)).cell? ⟨w.heap.size, 0, none⟩ = some (.slice Aa10 na10 ca10) := (Ba1.alloc _).cell 0
  go_wp2_with fail
  refine (i_DepthR ((tIs).reach ((tIs).read o_x0) ?hB) (by omega) ((tCell).reach ((tCell).read o_x1) ?hB) (by omega)).mono ?_
  all_goals try (case hB => exact (by repeat (first | (with_reducible exact Below.refl _ _) | (with_reducible assumption) | (with_reducible refine bel_alloc ?_ _) | (with_reducible refine bel_drew ?_) | (with_reducible refine below_drewN ?_ _) | (with_reducible refine bel_put ?_ (by first | exact Nat.le_refl _ | (simp; done) | (simp; omega)) _))))
  rintro e W7 ⟨rfl, hb_⟩
  clear d_Ba1_0
  clear k_Ba1_0
  rw [HR0.out]
  have hs7 : Below W6.heap.size W6 W7 := bel_trans (by repeat (first | (with_reducible exact Below.refl _ _) | (with_reducible assumption) | (with_reducible refine bel_alloc ?_ _) | (with_reducible refine bel_drew ?_) | (with_reducible refine below_drewN ?_ _) | (with_reducible refine bel_put ?_ (by first | exact Nat.le_refl _ | (simp; done) | (simp; omega)) _))) hb_
  have z7 : W6.heap.size + 1 ≤ W7.heap.size := by have := hb_.size; simpa using this
  have hB7 : Below w.heap.size w W7 := bel_trans hB6 hs7
  replace Ba1 := Ba1.below hs7 Ba1.size
  have Bx1 : Box W7 (W6.heap.size) 26 #[.slice Ax10 (p1).length cx10] := Box.below (Box.new _ _ _) hb_ (by first | (simp; done) | (simp; omega))
  replace o_x0 := Ty.below (t := tIs) o_x0 hs7
  replace o_x1 := Ty.below (t := tCell) o_x1 hs7
  have k_Ba1_0 : W7.cell? ⟨w.heap.size, 0, none⟩ = some (.slice Aa10 na10 ca10) := Ba1.cell 0
  have k_Bx1_0 : W7.cell? ⟨W6.heap.size, 0, none⟩ = some (.slice Ax10 (p1).length cx10) := Bx1.cell 0
  clear hb_
  go_wp2_with fail
  refine (o_toIntS ((tIs).reach ((tIs).reach h0 hB7) ?hB) (by omega)).mono ?_
  all_goals try (case hB => exact (by repeat (first | (with_reducible exact Below.refl _ _) | (with_reducible assumption) | (with_reducible refine bel_alloc ?_ _) | (with_reducible refine bel_drew ?_) | (with_reducible refine below_drewN ?_ _) | (with_reducible refine bel_put ?_ (by first | exact Nat.le_refl _ | (simp; done) | (simp; omega)) _))))
  rintro e W8 ⟨Av, cv, Fv, rfl, o_v, Nv, hb_⟩
  clear k_Ba1_0
  clear k_Bx1_0
  have Iv : ∀ f ∈ Fv, W7.heap.size + 0 ≤ f ∧ f < W8.heap.size := fun f hf => ⟨Nat.le_trans (by first | (simp; done) | (simp; omega)) (Nv.2 f hf), (tIs).lt o_v f hf⟩
  have Dv := Nv.1
  clear Nv
  have hs8 : Below W7.heap.size W7 W8 := bel_trans (by repeat (first | (with_reducible exact Below.refl _ _) | (with_reducible assumption) | (with_reducible refine bel_alloc ?_ _) | (with_reducible refine bel_drew ?_) | (with_reducible refine below_drewN ?_ _) | (with_reducible refine bel_put ?_ (by first | exact Nat.le_refl _ | (simp; done) | (simp; omega)) _))) hb_
  have z8 : W7.heap.size + 0 ≤ W8.heap.size := by have := hb_.size; simpa using this
  have hB8 : Below w.heap.size w W8 := bel_trans hB7 hs8
  replace Ba1 := Ba1.below hs8 Ba1.size
  replace Bx1 := Bx1.below hs8 Bx1.size
  replace o_x0 := Ty.below (t := tIs) o_x0 hs8
  replace o_x1 := Ty.below (t := tCell) o_x1 hs8
  have k_Ba1_0 : W8.cell? ⟨w.heap.size, 0, none⟩ = some (.slice Aa10 na10 ca10) := Ba1.cell 0
  have k_Bx1_0 : W8.cell? ⟨W6.heap.size, 0, none⟩ = some (.slice Ax10 (p1).length cx10) := Bx1.cell 0
  clear hb_
  go_wp2_with fail
  refine (o_eqIntS ((tIs).reach ((tIs).read o_x0) ?hB) ((tIs).reach ((tIs).read o_v) ?hB)).mono ?_
  all_goals try (case hB => exact (by repeat (first | (with_reducible exact Below.refl _ _) | (with_reducible assumption) | (with_reducible refine bel_alloc ?_ _) | (with_reducible refine bel_drew ?_) | (with_reducible refine below_drewN ?_ _) | (with_reducible refine bel_put ?_ (by first | exact Nat.le_refl _ | (simp; done) | (simp; omega)) _))))
  rintro e W9 ⟨rfl, hb_⟩
  clear k_Ba1_0
  clear k_Bx1_0
  clear o_v Iv Dv
  have hs9 : Below W8.heap.size W8 W9 := bel_trans (by repeat (first | (with_reducible exact Below.refl _ _) | (with_reducible assumption) | (with_reducible refine bel_alloc ?_ _) | (with_reducible refine bel_drew ?_) | (with_reducible refine below_drewN ?_ _) | (with_reducible refine bel_put ?_ (by first | exact Nat.le_refl _ | (simp; done) | (simp; omega)) _))) hb_
  have z9 : W8.heap.size + 0 ≤ W9.heap.size := by have := hb_.size; simpa using this
  have hB9 : Below w.heap.size w W9 := bel_trans hB8 hs9
  replace Ba1 := Ba1.below hs9 Ba1.size
  replace Bx1 := Bx1.below hs9 Bx1.size
  replace o_x0 := Ty.below (t := tIs) o_x0 hs9
  replace o_x1 := Ty.below (t := tCell) o_x1 hs9
  have k_Ba1_0 : W9.cell? ⟨w.heap.size, 0, none⟩ = some (.slice Aa10 na10 ca10) := Ba1.cell 0
  have k_Bx1_0 : W9.cell? ⟨W6.heap.size, 0, none⟩ = some (.slice Ax10 (p1).length cx10) := Bx1.cell 0
  clear hb_
  go_wp2_with fail
  go_region_held3 (fun w' => w'.cell? ⟨w.heap.size, 0, none⟩ = some (.slice Aa10 na10 ca10) ∧ w'.cell? ⟨W6.heap.size, 0, none⟩ = some (.slice Ax10 (p1).length cx10)) (first | (exact ⟨k_Ba1_0, k_Bx1_0⟩) | (exact ⟨cell_bel hs11 k_Ba1_0, cell_bel hs11 k_Bx1_0⟩) | (exact ⟨cell_bel hs10 k_Ba1_0, cell_bel hs10 k_Bx1_0⟩) | go_keep)
    (first
      | (go_at_call 12; refine (o_toCell ((tCell).reach ((tCell).reach h1 hB9) (by repeat (first | (with_reducible exact Below.refl _ _) | (with_reducible assumption) | (with_reducible refine bel_alloc ?_ _) | (with_reducible refine bel_drew ?_) | (with_reducible refine below_drewN ?_ _) | (with_reducible refine bel_put ?_ (by first | exact Nat.le_refl _ | (simp; done) | (simp; omega)) _)))) (by omega)).mono ?_; rintro e W10 ⟨csv, Fv, rfl, o_v, Nv, hb_⟩; have hs10 : Below W9.heap.size W9 W10 := bel_trans (by repeat (first | (with_reducible exact Below.refl _ _) | (with_reducible assumption) | (with_reducible refine bel_alloc ?_ _) | (with_reducible refine bel_drew ?_) | (with_reducible refine below_drewN ?_ _) | (with_reducible refine bel_put ?_ (by first | exact Nat.le_refl _ | (simp; done) | (simp; omega)) _))) hb_)
      | (go_at_call 16; refine (o_eqCell ((tCell).reach ((tCell).reach ((tCell).read o_x1) hs10) (by repeat (first | (with_reducible exact Below.refl _ _) | (with_reducible assumption) | (with_reducible refine bel_alloc ?_ _) | (with_reducible refine bel_drew ?_) | (with_reducible refine below_drewN ?_ _) | (with_reducible refine bel_put ?_ (by first | exact Nat.le_refl _ | (simp; done) | (simp; omega)) _)))) ((tCell).reach ((tCell).read o_v) (by repeat (first | (with_reducible exact Below.refl _ _) | (with_reducible assumption) | (with_reducible refine bel_alloc ?_ _) | (with_reducible refine bel_drew ?_) | (with_reducible refine below_drewN ?_ _) | (with_reducible refine bel_put ?_ (by first | exact Nat.le_refl _ | (simp; done) | (simp; omega)) _))))).mono ?_; rintro e W11 ⟨rfl, hb2_⟩; have hs11' : Below W9.heap.size W9 W11 := bel_trans hs10 (bel_trans (by repeat (first | (with_reducible exact Below.refl _ _) | (with_reducible assumption) | (with_reducible refine bel_alloc ?_ _) | (with_reducible refine bel_drew ?_) | (with_reducible refine below_drewN ?_ _) | (with_reducible refine bel_put ?_ (by first | exact Nat.le_refl _ | (simp; done) | (simp; omega)) _))) hb2_); have hs11 := hs11'))
  clear o_v Nv hb_ hb2_ hs10
  clear k_Ba1_0
  clear k_Bx1_0
  have z11 : W9.heap.size + 0 ≤ W11.heap.size := hs11'.size
  have hB11 : Below w.heap.size w W11 := bel_trans hB9 hs11'
  replace Ba1 := Ba1.below hs11' Ba1.size
  replace Bx1 := Bx1.below hs11' Bx1.size
  replace o_x0 := Ty.below (t := tIs) o_x0 hs11'
  replace o_x1 := Ty.below (t := tCell) o_x1 hs11'
  have k_Ba1_0 : W11.cell? ⟨w.heap.size, 0, none⟩ = some (.slice Aa10 na10 ca10) := Ba1.cell 0
  have k_Bx1_0 : W11.cell? ⟨W6.heap.size, 0, none⟩ = some (.slice Ax10 (p1).length cx10) := Bx1.cell 0
  go_wp2_with fail
  go_ret
  exact ⟨rfl, hB11⟩

/-! ### THE ROW's STEP -/
set_option maxHeartbeats 400000 in
set_option maxRecDepth 100000 in
theorem lifted (os : Os) (started : os.Started) (H : Type) (enc : TypeId × Value → H) :
    ReturnsInHanded {} Try.checked os 4 .any (Rows.fnExactDepthSpec.pre6 enc Try.prog Try.f4 Rows.fnExactDepthRow.domain false) (Rows.fnExactDepthSpec.post enc Try.prog Try.f4 false true false false) := by
  refine returnsInHanded_of_change (C := Try.checked) own started (by kernel_rfl) Try.func4
    (ChangeSpec.witness6 (enc := enc) (C := Try.checked) false ⟨#[], #[.slice none 0 0, .agg #[.slice none 0 0]], []⟩ 8 (by kernel_rfl) (by kernel_rfl) (by kernel_rfl) (by kernel_rfl)) ?_
  intro W base args ds gs before hval0 hW hcnd _
  have hval : ∀ (j : Nat) t v, Try.f4.params[j]? = some t → args[j]? = some v → Value.okWide Try.prog W .any base t v := hval0
  have hW' := hW
  obtain ⟨p, q, hA0, hV, rfl, hfz, hnd⟩ := hW
  have hA : DataW.TrodAll enc Try.prog W 0 (fun _ => true) true Try.f4.params.toList args.toList ds p := hA0
  rw [Try.params4] at hA hval
  obtain ⟨v0, vs0, d0, ds0, p0, q0, hargs, rfl, rfl, h0, r0⟩ := trodAll_cons hA
  obtain ⟨v1, vs1, d1, ds1, p1, q1, rfl, rfl, rfl, h1, r1⟩ := trodAll_cons r0
  obtain ⟨rfl, rfl, rfl⟩ := trodAll_nil r1
  obtain rfl : args = #[v0, v1] := by cases args; simp_all
  obtain ⟨rfl, rfl⟩ := trodVars_none hV
  obtain ⟨A0, n0, c0, rfl⟩ := okWide_slice Try.underlying40 (hval 0 40 v0 rfl rfl)
  have k0 := h0
  have lt0 : ∀ x ∈ p0, x.block < W.heap.size := by obtain ⟨m, hm⟩ := k0; exact DataW.trod_lt m _ _ _ hm
  obtain ⟨x0, w0⟩ : ∃ a, tIs.R W W.heap.size [.slice A0 n0 c0] a := by
    obtain ⟨fuel, hf⟩ := h0
    exact frR_is fuel _ _ (by simpa [Value.cells] using hf)
  obtain ⟨cs1, rfl, hsz1⟩ := okWide_struct Try.underlying24 (hval 1 24 v1 rfl rfl)
  have k1 := h1
  have lt1 : ∀ x ∈ p1, x.block < W.heap.size := by obtain ⟨m, hm⟩ := k1; exact DataW.trod_lt m _ _ _ hm
  obtain ⟨x1, w1⟩ : ∃ a, tCell.R W W.heap.size cs1.toList a := by
    obtain ⟨fuel, hf⟩ := h1
    exact frR_Cell fuel _ _ (by simpa [Value.cells] using hf)
  clear hA0 hval0
  refine (walk A0 n0 c0 x0 cs1 x1 W w0 w1).mono fun e W' ⟨he, bel⟩ => ?_
  subst he
  exact ⟨_, rfl, _, _, _, [], _, [], hW', trodAll_mk1 (shut_bool Try.underlying4 _), (trodAll_cons_mk (Below.trod laidOut (by kernel_rfl) (of_decide_eq_true (by kernel_rfl)) k0 bel lt0) (trodAll_cons_mk (Below.trod laidOut (by kernel_rfl) (of_decide_eq_true (by kernel_rfl)) k1 bel lt1) trodAll_mk0)), rfl, bel.frame _, fun h => by cases h⟩

theorem over : Rows.fnExactDepthRow.holds Try.pinned (OpenSpec.ofChange Rows.fnExactDepthSpec) :=
  OpenClaim.holds_of_wide 4 Try.f4 rfl rfl rfl rfl rfl rfl rfl ⟨rfl, rfl, rfl, rfl, rfl⟩ rfl rfl rfl rfl rfl (by kernel_rfl) Try.func4 (by kernel_rfl)
    (of_decide_eq_true (by kernel_rfl)) (by unfold Func.isWrapper; first | (rw [if_pos (by decide +kernel)]; kernel_rfl) | (rw [if_neg (by decide +kernel)]; exact ⟨rfl, rfl⟩))
    (fun os started H enc _ => lifted os started H enc)

theorem proved : Rows.FnExactDepthSaid := over
#print axioms proved
end Go.Proofs.Ytpapkonejkdkhaa.fnExactDepth
