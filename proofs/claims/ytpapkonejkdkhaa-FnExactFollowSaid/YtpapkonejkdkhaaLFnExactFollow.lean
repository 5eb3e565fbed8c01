/-
  For every argument (in all at most 2^20 elements) the program's Follow answers as its model does, in every field, writes into no argument, and its answer owns its memory. No further condition.
-/
import Derived.Test.YtpapkonejkdkhaaRows
import Derived.Test.YtpapkonejkdkhaaFr
import Derived.WalkKit
import Derived.ProofKit
import Derived.OpenShut
import Derived.ShutString
import Derived.ChangeOld
import Derived.Below
import Derived.Test.YtpapkonejkdkhaaLCell
import Derived.Test.YtpapkonejkdkhaaPFol
import Derived.Deep.RegionHeld3
namespace Go.Proofs.Ytpapkonejkdkhaa.fnExactFollow
open Go.ChangeShapes Go.WideShapes Go.ChangeAt Go.RowKit
open Go.ChangeMaps (open_string shut_string)
set_option linter.unusedVariables false

open Go.Proofs.Ytpapkonejkdkhaa
theorem own : ownKnob Try.prog.godebug = none := by kernel_rfl
theorem laidOut : laidOutB Try.prog = true := by kernel_rfl



/-! ### STEP 1: the walk -/
set_option maxRecDepth 100000 in
set_option maxHeartbeats 2000000 in
theorem walk (A0 : Option Addr) (n0 c0 : Nat) (p0 : List Int) (A1 : Option Addr) (n1 c1 : Nat) (p1 : List Int) (cs2 : Array Value) (p2 : DCell) (w : World) (h0 : (tIs).R w w.heap.size [.slice A0 n0 c0] p0) (h1 : (tIs).R w w.heap.size [.slice A1 n1 c1] p1) (h2 : tCell.R w w.heap.size cs2.toList p2) :
    Calls Try.prog 6 #[.slice A0 n0 c0, .slice A1 n1 c1, .agg cs2] w fun e w' => e = .returned (.bool true) ∧ Below w.heap.size w w' := by
  have hn0 := (slR_ints h0).1.1
  have hn1 := (slR_ints h1).1.1
  obtain ⟨cs2⟩ := cs2
  replace h2 : tCell.R w w.heap.size cs2 p2 := h2
  obtain ⟨Aa20, na20, ca20, rfl, -, -, -, -⟩ := openCell h2
  by_cases hz0 : (p0).length ≤ 1048576
  rotate_left
  · have q_ : (1048576 : Int) < (n0 : Int) := by omega
    go_enter Try.func6, Try.ntmps6
    go_wp2
    go_ret
    exact ⟨rfl, (by repeat (first | (with_reducible exact Below.refl _ _) | (with_reducible assumption) | (with_reducible refine bel_alloc ?_ _) | (with_reducible refine bel_drew ?_) | (with_reducible refine below_drewN ?_ _) | (with_reducible refine bel_put ?_ (by first | exact Nat.le_refl _ | (simp; done) | (simp; omega)) _)))⟩
  have q_0 : ¬ (1048576 : Int) < (n0 : Int) := by omega
  clear hn0
  by_cases hz1 : (p1).length ≤ 1048576
  rotate_left
  · have q_ : (1048576 : Int) < (n1 : Int) := by omega
    go_enter Try.func6, Try.ntmps6
    go_wp2
    go_ret
    exact ⟨rfl, (by repeat (first | (with_reducible exact Below.refl _ _) | (with_reducible assumption) | (with_reducible refine bel_alloc ?_ _) | (with_reducible refine bel_drew ?_) | (with_reducible refine below_drewN ?_ _) | (with_reducible refine bel_put ?_ (by first | exact Nat.le_refl _ | (simp; done) | (simp; omega)) _)))⟩
  have q_1 : ¬ (1048576 : Int) < (n1 : Int) := by omega
  clear hn1
  by_cases hz2 : szCell (p2) ≤ 1048576
  rotate_left
  · go_enter Try.func6, Try.ntmps6
    go_wp2_with fail
    refine (o_szCell_f ((tCell).reach h2 ?hB) (by omega) (by omega) (by omega)).mono ?_
    all_goals try (case hB => exact (by repeat (first | (with_reducible exact Below.refl _ _) | (with_reducible assumption) | (with_reducible refine bel_alloc ?_ _) | (with_reducible refine bel_drew ?_) | (with_reducible refine below_drewN ?_ _) | (with_reducible refine bel_put ?_ (by first | exact Nat.le_refl _ | (simp; done) | (simp; omega)) _))))
    rintro e W1 ⟨rfl, hb_⟩
    have hs1 : Below w.heap.size w W1 := bel_trans (by repeat (first | (with_reducible exact Below.refl _ _) | (with_reducible assumption) | (with_reducible refine bel_alloc ?_ _) | (with_reducible refine bel_drew ?_) | (with_reducible refine below_drewN ?_ _) | (with_reducible refine bel_put ?_ (by first | exact Nat.le_refl _ | (simp; done) | (simp; omega)) _))) hb_
    have z1 : w.heap.size + 1 ≤ W1.heap.size := by have := hb_.size; simpa using this
    have hB1 : Below w.heap.size w W1 := hs1
    have Ba2 : Box W1 (w.heap.size) 24 #[.slice Aa20 na20 ca20] := Box.below (Box.new _ _ _) hb_ (by first | (simp; done) | (simp; omega))
    have k_Ba2_0 : W1.cell? ⟨w.heap.size, 0, none⟩ = some (.slice Aa20 na20 ca20) := Ba2.cell 0
    go_wp2
    go_ret
    exact ⟨rfl, hB1⟩
  have dz2 : decide ((1048576 : Int) - ((szCell (p2) : Nat) : Int) < 0) = false := by simp; omega
  have hzr0 : ((ffol p0 p1 p2).1).length ≤ 1048576 := (by have := ffol_le p0 p1 p2; omega)
  obtain ⟨r0, hr0⟩ : ∃ r, (ffol p0 p1 p2).1 = r := ⟨_, rfl⟩
  have HR0 := Lib.hid hr0
  rw [hr0] at hzr0
  clear hr0
  obtain ⟨r1, hr1⟩ : ∃ r, (ffol p0 p1 p2).2 = r := ⟨_, rfl⟩
  have HR1 := Lib.hid hr1
  have qr1 : (r1 != r1) = false := by simp
  clear hr1
  have hcp2 := cntCell_le (p2)
  go_enter Try.func6, Try.ntmps6
  go_wp2_with fail
  refine (o_szCell_t ((tCell).reach h2 ?hB) (by omega) (by omega) (by omega)).mono ?_
  all_goals try (case hB => exact (by repeat (first | (with_reducible exact Below.refl _ _) | (with_reducible assumption) | (with_reducible refine bel_alloc ?_ _) | (with_reducible refine bel_drew ?_) | (with_reducible refine below_drewN ?_ _) | (with_reducible refine bel_put ?_ (by first | exact Nat.le_refl _ | (simp; done) | (simp; omega)) _))))
  rintro e W1 ⟨rfl, hb_⟩
  have hs1 : Below w.heap.size w W1 := bel_trans (by repeat (first | (with_reducible exact Below.refl _ _) | (with_reducible assumption) | (with_reducible refine bel_alloc ?_ _) | (with_reducible refine bel_drew ?_) | (with_reducible refine below_drewN ?_ _) | (with_reducible refine bel_put ?_ (by first | exact Nat.le_refl _ | (simp; done) | (simp; omega)) _))) hb_
  have z1 : w.heap.size + 1 ≤ W1.heap.size := by have := hb_.size; simpa using this
  have hB1 : Below w.heap.size w W1 := hs1
  have Ba2 : Box W1 (w.heap.size) 24 #[.slice Aa20 na20 ca20] := Box.below (Box.new _ _ _) hb_ (by first | (simp; done) | (simp; omega))
  have k_Ba2_0 : W1.cell? ⟨w.heap.size, 0, none⟩ = some (.slice Aa20 na20 ca20) := Ba2.cell 0
  clear hb_
  go_wp2_with fail
  go_region_held3 (fun w' => w'.cell? ⟨w.heap.size, 0, none⟩ = some (.slice Aa20 na20 ca20)) (first | (exact k_Ba2_0) | (exact cell_bel (bel_trans (bel_trans (bel_trans hs2 hs3) hs4) hs5) k_Ba2_0) | (exact cell_bel (bel_trans (bel_trans hs2 hs3) hs4) k_Ba2_0) | (exact cell_bel (bel_trans hs2 hs3) k_Ba2_0) | (exact cell_bel hs2 k_Ba2_0) | go_keep)
    (first
      | (go_at_call 30; refine (s_FollowR ((tIs).reach ((tIs).read (Ty.below (t := tIs) (Ty.below (t := tIs) o_y0 hs3) hs4)) (by repeat (first | (with_reducible exact Below.refl _ _) | (with_reducible assumption) | (with_reducible refine bel_alloc ?_ _) | (with_reducible refine bel_drew ?_) | (with_reducible refine below_drewN ?_ _) | (with_reducible refine bel_put ?_ (by first | exact Nat.le_refl _ | (simp; done) | (simp; omega)) _)))) (by omega) ((tIs).reach ((tIs).read (Ty.below (t := tIs) o_y1 hs4)) (by repeat (first | (with_reducible exact Below.refl _ _) | (with_reducible assumption) | (with_reducible refine bel_alloc ?_ _) | (with_reducible refine bel_drew ?_) | (with_reducible refine below_drewN ?_ _) | (with_reducible refine bel_put ?_ (by first | exact Nat.le_refl _ | (simp; done) | (simp; omega)) _)))) (by omega) ((tCell).reach ((tCell).read o_y2) (by repeat (first | (with_reducible exact Below.refl _ _) | (with_reducible assumption) | (with_reducible refine bel_alloc ?_ _) | (with_reducible refine bel_drew ?_) | (with_reducible refine below_drewN ?_ _) | (with_reducible refine bel_put ?_ (by first | exact Nat.le_refl _ | (simp; done) | (simp; omega)) _)))) (by omega)).mono ?_; rintro e W5 ⟨As0, cs0, rfl, r_s0, hb_⟩; have hs5 : Below W4.heap.size W4 W5 := bel_trans (by repeat (first | (with_reducible exact Below.refl _ _) | (with_reducible assumption) | (with_reducible refine bel_alloc ?_ _) | (with_reducible refine bel_drew ?_) | (with_reducible refine below_drewN ?_ _) | (with_reducible refine bel_put ?_ (by first | exact Nat.le_refl _ | (simp; done) | (simp; omega)) _))) hb_)
      | (go_at_call 12; refine (o_toCell ((tCell).reach ((tCell).reach h2 (bel_trans (bel_trans hB1 hs2) hs3)) (by repeat (first | (with_reducible exact Below.refl _ _) | (with_reducible assumption) | (with_reducible refine bel_alloc ?_ _) | (with_reducible refine bel_drew ?_) | (with_reducible refine below_drewN ?_ _) | (with_reducible refine bel_put ?_ (by first | exact Nat.le_refl _ | (simp; done) | (simp; omega)) _)))) (by omega)).mono ?_; rintro e W4 ⟨csy2, Fy2, rfl, o_y2, Ny2, hb_4⟩; have hs4 : Below W3.heap.size W3 W4 := bel_trans (by repeat (first | (with_reducible exact Below.refl _ _) | (with_reducible assumption) | (with_reducible refine bel_alloc ?_ _) | (with_reducible refine bel_drew ?_) | (with_reducible refine below_drewN ?_ _) | (with_reducible refine bel_put ?_ (by first | exact Nat.le_refl _ | (simp; done) | (simp; omega)) _))) hb_4)
      | (go_at_call 23; refine (o_toIntS ((tIs).reach ((tIs).reach h1 (bel_trans hB1 hs2)) (by repeat (first | (with_reducible exact Below.refl _ _) | (with_reducible assumption) | (with_reducible refine bel_alloc ?_ _) | (with_reducible refine bel_drew ?_) | (with_reducible refine below_drewN ?_ _) | (with_reducible refine bel_put ?_ (by first | exact Nat.le_refl _ | (simp; done) | (simp; omega)) _)))) (by omega)).mono ?_; rintro e W3 ⟨Ay1, cy1, Fy1, rfl, o_y1, Ny1, hb_3⟩; have hs3 : Below W2.heap.size W2 W3 := bel_trans (by repeat (first | (with_reducible exact Below.refl _ _) | (with_reducible assumption) | (with_reducible refine bel_alloc ?_ _) | (with_reducible refine bel_drew ?_) | (with_reducible refine below_drewN ?_ _) | (with_reducible refine bel_put ?_ (by first | exact Nat.le_refl _ | (simp; done) | (simp; omega)) _))) hb_3)
      | (go_at_call 23; refine (o_toIntS ((tIs).reach ((tIs).reach h0 hB1) (by repeat (first | (with_reducible exact Below.refl _ _) | (with_reducible assumption) | (with_reducible refine bel_alloc ?_ _) | (with_reducible refine bel_drew ?_) | (with_reducible refine below_drewN ?_ _) | (with_reducible refine bel_put ?_ (by first | exact Nat.le_refl _ | (simp; done) | (simp; omega)) _)))) (by omega)).mono ?_; rintro e W2 ⟨Ay0, cy0, Fy0, rfl, o_y0, Ny0, hb_2⟩; have hs2 : Below W1.heap.size W1 W2 := bel_trans (by repeat (first | (with_reducible exact Below.refl _ _) | (with_reducible assumption) | (with_reducible refine bel_alloc ?_ _) | (with_reducible refine bel_drew ?_) | (with_reducible refine below_drewN ?_ _) | (with_reducible refine bel_put ?_ (by first | exact Nat.le_refl _ | (simp; done) | (simp; omega)) _))) hb_2))
  have hsx5 : Below W1.heap.size W1 W5 := (bel_trans (bel_trans (bel_trans hs2 hs3) hs4) hs5)
  clear k_Ba2_0
  have z5 : W1.heap.size + 0 ≤ W5.heap.size := by have := hs2.size; have := hs3.size; have := hs4.size; have := hs5.size; omega
  have zp5 : W1.heap.size + 0 ≤ W4.heap.size := by have := hs2.size; have := hs3.size; have := hs4.size; omega
  have hB5 : Below w.heap.size w W5 := bel_trans hB1 hsx5
  replace Ba2 := Ba2.below hsx5 Ba2.size
  clear o_y0 Ny0
  clear o_y1 Ny1
  clear o_y2 Ny2
  clear hb_2 hb_3 hb_4 hs2 hs3 hs4 hs5
  have k_Ba2_0 : W5.cell? ⟨w.heap.size, 0, none⟩ = some (.slice Aa20 na20 ca20) := Ba2.cell 0
  rw [HR0.out] at r_s0
  rw [HR0.out]
  rw [HR1.out]
  clear hb_
  go_wp2_with fail
  refine (o_toIntS ((tIs).reach ((tIs).reach h0 hB5) ?hB) (by omega)).mono ?_
  all_goals try (case hB => exact (by repeat (first | (with_reducible exact Below.refl _ _) | (with_reducible assumption) | (with_reducible refine bel_alloc ?_ _) | (with_reducible refine bel_drew ?_) | (with_reducible refine below_drewN ?_ _) | (with_reducible refine bel_put ?_ (by first | exact Nat.le_refl _ | (simp; done) | (simp; omega)) _))))
  rintro e W6 ⟨Ax0, cx0, Fx0, rfl, o_x0, Nx0, hb_⟩
  clear k_Ba2_0
  have Ix0 : ∀ f ∈ Fx0, W5.heap.size + 0 ≤ f ∧ f < W6.heap.size := fun f hf => ⟨Nat.le_trans (by first | (simp; done) | (simp; omega)) (Nx0.2 f hf), (tIs).lt o_x0 f hf⟩
  have Dx0 := Nx0.1
  clear Nx0
  have hs6 : Below W5.heap.size W5 W6 := bel_trans (by repeat (first | (with_reducible exact Below.refl _ _) | (with_reducible assumption) | (with_reducible refine bel_alloc ?_ _) | (with_reducible refine bel_drew ?_) | (with_reducible refine below_drewN ?_ _) | (with_reducible refine bel_put ?_ (by first | exact Nat.le_refl _ | (simp; done) | (simp; omega)) _))) hb_
  have z6 : W5.heap.size + 0 ≤ W6.heap.size := by have := hb_.size; simpa using this
  have hB6 : Below w.heap.size w W6 := bel_trans hB5 hs6
  replace Ba2 := Ba2.below hs6 Ba2.size
  replace r_s0 := (tBy).keep r_s0 (fun b hb => hs6.block b (Nat.lt_of_lt_of_le hb (by omega)))
  have k_Ba2_0 : W6.cell? ⟨w.heap.size, 0, none⟩ = some (.slice Aa20 na20 ca20) := Ba2.cell 0
  clear hb_
  go_wp2_with fail
  refine (o_toIntS ((tIs).reach ((tIs).reach h1 hB6) ?hB) (by omega)).mono ?_
  all_goals try (case hB => exact (by repeat (first | (with_reducible exact Below.refl _ _) | (with_reducible assumption) | (with_reducible refine bel_alloc ?_ _) | (with_reducible refine bel_drew ?_) | (with_reducible refine below_drewN ?_ _) | (with_reducible refine bel_put ?_ (by first | exact Nat.le_refl _ | (simp; done) | (simp; omega)) _))))
  rintro e W7 ⟨Ax1, cx1, Fx1, rfl, o_x1, Nx1, hb_⟩
  clear k_Ba2_0
  have Ix1 : ∀ f ∈ Fx1, W6.heap.size + 0 ≤ f ∧ f < W7.heap.size := fun f hf => ⟨Nat.le_trans (by first | (simp; done) | (simp; omega)) (Nx1.2 f hf), (tIs).lt o_x1 f hf⟩
  have Dx1 := Nx1.1
  clear Nx1
  have hs7 : Below W6.heap.size W6 W7 := bel_trans (by repeat (first | (with_reducible exact Below.refl _ _) | (with_reducible assumption) | (with_reducible refine bel_alloc ?_ _) | (with_reducible refine bel_drew ?_) | (with_reducible refine below_drewN ?_ _) | (with_reducible refine bel_put ?_ (by first | exact Nat.le_refl _ | (simp; done) | (simp; omega)) _))) hb_
  have z7 : W6.heap.size + 0 ≤ W7.heap.size := by have := hb_.size; simpa using this
  have hB7 : Below w.heap.size w W7 := bel_trans hB6 hs7
  replace Ba2 := Ba2.below hs7 Ba2.size
  replace o_x0 := Ty.below (t := tIs) o_x0 hs7
  replace r_s0 := (tBy).keep r_s0 (fun b hb => hs7.block b (Nat.lt_of_lt_of_le hb (by omega)))
  have k_Ba2_0 : W7.cell? ⟨w.heap.size, 0, none⟩ = some (.slice Aa20 na20 ca20) := Ba2.cell 0
  clear hb_
  go_wp2_with fail
  refine (o_toCell ((tCell).reach ((tCell).reach h2 hB7) ?hB) (by omega)).mono ?_
  all_goals try (case hB => exact (by repeat (first | (with_reducible exact Below.refl _ _) | (with_reducible assumption) | (with_reducible refine bel_alloc ?_ _) | (with_reducible refine bel_drew ?_) | (with_reducible refine below_drewN ?_ _) | (with_reducible refine bel_put ?_ (by first | exact Nat.le_refl _ | (simp; done) | (simp; omega)) _))))
  rintro e W8 ⟨csx2, Fx2, rfl, o_x2, Nx2, hb_⟩
  clear k_Ba2_0
  have Ix2 : ∀ f ∈ Fx2, W7.heap.size + 0 ≤ f ∧ f < W8.heap.size := fun f hf => ⟨Nat.le_trans (by first | (simp; done) | (simp; omega)) (Nx2.2 f hf), (tCell).lt o_x2 f hf⟩
  have Dx2 := Nx2.1
  clear Nx2
  obtain ⟨Ax20, cx20, Fx20, rfl, -, -, -, -⟩ := openOCell o_x2
  have hs8 : Below W7.heap.size W7 W8 := bel_trans (by repeat (first | (with_reducible exact Below.refl _ _) | (with_reducible assumption) | (with_reducible refine bel_alloc ?_ _) | (with_reducible refine bel_drew ?_) | (with_reducible refine below_drewN ?_ _) | (with_reducible refine bel_put ?_ (by first | exact Nat.le_refl _ | (simp; done) | (simp; omega)) _))) hb_
  have z8 : W7.heap.size + 0 ≤ W8.heap.size := by have := hb_.size; simpa using this
  have hB8 : Below w.heap.size w W8 := bel_trans hB7 hs8
  replace Ba2 := Ba2.below hs8 Ba2.size
  replace o_x0 := Ty.below (t := tIs) o_x0 hs8
  replace o_x1 := Ty.below (t := tIs) o_x1 hs8
  replace r_s0 := (tBy).keep r_s0 (fun b hb => hs8.block b (Nat.lt_of_lt_of_le hb (by omega)))
  have k_Ba2_0 : W8.cell? ⟨w.heap.size, 0, none⟩ = some (.slice Aa20 na20 ca20) := Ba2.cell 0
  clear hb_
  have d_Ba2_0 : (W8.alloc (.cells #[.slice Ax20 (p2).length cx20] 26)).cell? ⟨w.heap.size, 0, none⟩ = some (.slice Aa20 na20 ca20) := (Ba2.alloc _).cell 0
  go_wp2_with fail
  refine (i_FollowR ((tIs).reach ((tIs).read o_x0) ?hB) (by omega) ((tIs).reach ((tIs).read o_x1) ?hB) (by omega) ((tCell).reach ((tCell).read o_x2) ?hB) (by omega)).mono ?_
  all_goals try (case hB => exact (by repeat (first | (with_reducible exact Below.refl _ _) | (with_reducible assumption) | (with_reducible refine bel_alloc ?_ _) | (with_reducible refine bel_drew ?_) | (with_reducible refine below_drewN ?_ _) | (with_reducible refine bel_put ?_ (by first | exact Nat.le_refl _ | (simp; done) | (simp; omega)) _))))
  rintro e W9 ⟨Ag0, cg0, Fg0, rfl, o_g0, Ng, hb_⟩
  clear d_Ba2_0
  clear k_Ba2_0
  rw [HR0.out] at o_g0
  rw [HR0.out]
  rw [HR1.out]
  have Ig0 : ∀ f ∈ Fg0, W8.heap.size + 1 ≤ f ∧ f < W9.heap.size := fun f hf => ⟨Nat.le_trans (by first | (simp; done) | (simp; omega)) (Ng.2 f (by simp [hf])), (tBy).lt o_g0 f hf⟩
  have Dg0 := Ng.1
  clear Ng
  have hs9 : Below W8.heap.size W8 W9 := bel_trans (by repeat (first | (with_reducible exact Below.refl _ _) | (with_reducible assumption) | (with_reducible refine bel_alloc ?_ _) | (with_reducible refine bel_drew ?_) | (with_reducible refine below_drewN ?_ _) | (with_reducible refine bel_put ?_ (by first | exact Nat.le_refl _ | (simp; done) | (simp; omega)) _))) hb_
  have z9 : W8.heap.size + 1 ≤ W9.heap.size := by have := hb_.size; simpa using this
  have hB9 : Below w.heap.size w W9 := bel_trans hB8 hs9
  replace Ba2 := Ba2.below hs9 Ba2.size
  have Bx2 : Box W9 (W8.heap.size) 26 #[.slice Ax20 (p2).length cx20] := Box.below (Box.new _ _ _) hb_ (by first | (simp; done) | (simp; omega))
  replace o_x0 := Ty.below (t := tIs) o_x0 hs9
  replace o_x1 := Ty.below (t := tIs) o_x1 hs9
  replace o_x2 := Ty.below (t := tCell) o_x2 hs9
  replace r_s0 := (tBy).keep r_s0 (fun b hb => hs9.block b (Nat.lt_of_lt_of_le hb (by omega)))
  have k_Ba2_0 : W9.cell? ⟨w.heap.size, 0, none⟩ = some (.slice Aa20 na20 ca20) := Ba2.cell 0
  have k_Bx2_0 : W9.cell? ⟨W8.heap.size, 0, none⟩ = some (.slice Ax20 (p2).length cx20) := Bx2.cell 0
  clear hb_
  go_wp2_with fail
  refine (o_eqByteS ((tBy).reach ((tBy).read o_g0) ?hB) ((tBy).reach ((tBy).up r_s0 (by omega : W5.heap.size ≤ W9.heap.size)) ?hB)).mono ?_
  all_goals try (case hB => exact (by repeat (first | (with_reducible exact Below.refl _ _) | (with_reducible assumption) | (with_reducible refine bel_alloc ?_ _) | (with_reducible refine bel_drew ?_) | (with_reducible refine below_drewN ?_ _) | (with_reducible refine bel_put ?_ (by first | exact Nat.le_refl _ | (simp; done) | (simp; omega)) _))))
  rintro e W10 ⟨rfl, hb_⟩
  clear k_Ba2_0
  clear k_Bx2_0
  have hs10 : Below W9.heap.size W9 W10 := bel_trans (by repeat (first | (with_reducible exact Below.refl _ _) | (with_reducible assumption) | (with_reducible refine bel_alloc ?_ _) | (with_reducible refine bel_drew ?_) | (with_reducible refine below_drewN ?_ _) | (with_reducible refine bel_put ?_ (by first | exact Nat.le_refl _ | (simp; done) | (simp; omega)) _))) hb_
  have z10 : W9.heap.size + 0 ≤ W10.heap.size := by have := hb_.size; simpa using this
  have hB10 : Below w.heap.size w W10 := bel_trans hB9 hs10
  replace Ba2 := Ba2.below hs10 Ba2.size
  replace Bx2 := Bx2.below hs10 Bx2.size
  replace o_x0 := Ty.below (t := tIs) o_x0 hs10
  replace o_x1 := Ty.below (t := tIs) o_x1 hs10
  replace o_x2 := Ty.below (t := tCell) o_x2 hs10
  replace o_g0 := Ty.below (t := tBy) o_g0 hs10
  replace r_s0 := (tBy).keep r_s0 (fun b hb => hs10.block b (Nat.lt_of_lt_of_le hb (by omega)))
  have k_Ba2_0 : W10.cell? ⟨w.heap.size, 0, none⟩ = some (.slice Aa20 na20 ca20) := Ba2.cell 0
  have k_Bx2_0 : W10.cell? ⟨W8.heap.size, 0, none⟩ = some (.slice Ax20 (p2).length cx20) := Bx2.cell 0
  clear hb_
  go_wp2_with fail
  refine (o_toIntS ((tIs).reach ((tIs).reach h0 hB10) ?hB) (by omega)).mono ?_
  all_goals try (case hB => exact (by repeat (first | (with_reducible exact Below.refl _ _) | (with_reducible assumption) | (with_reducible refine bel_alloc ?_ _) | (with_reducible refine bel_drew ?_) | (with_reducible refine below_drewN ?_ _) | (with_reducible refine bel_put ?_ (by first | exact Nat.le_refl _ | (simp; done) | (simp; omega)) _))))
  rintro e W11 ⟨Av, cv, Fv, rfl, o_v, Nv, hb_⟩
  clear k_Ba2_0
  clear k_Bx2_0
  have Iv : ∀ f ∈ Fv, W10.heap.size + 0 ≤ f ∧ f < W11.heap.size := fun f hf => ⟨Nat.le_trans (by first | (simp; done) | (simp; omega)) (Nv.2 f hf), (tIs).lt o_v f hf⟩
  have Dv := Nv.1
  clear Nv
  have hs11 : Below W10.heap.size W10 W11 := bel_trans (by repeat (first | (with_reducible exact Below.refl _ _) | (with_reducible assumption) | (with_reducible refine bel_alloc ?_ _) | (with_reducible refine bel_drew ?_) | (with_reducible refine below_drewN ?_ _) | (with_reducible refine bel_put ?_ (by first | exact Nat.le_refl _ | (simp; done) | (simp; omega)) _))) hb_
  have z11 : W10.heap.size + 0 ≤ W11.heap.size := by have := hb_.size; simpa using this
  have hB11 : Below w.heap.size w W11 := bel_trans hB10 hs11
  replace Ba2 := Ba2.below hs11 Ba2.size
  replace Bx2 := Bx2.below hs11 Bx2.size
  replace o_x0 := Ty.below (t := tIs) o_x0 hs11
  replace o_x1 := Ty.below (t := tIs) o_x1 hs11
  replace o_x2 := Ty.below (t := tCell) o_x2 hs11
  replace o_g0 := Ty.below (t := tBy) o_g0 hs11
  replace r_s0 := (tBy).keep r_s0 (fun b hb => hs11.block b (Nat.lt_of_lt_of_le hb (by omega)))
  have k_Ba2_0 : W11.cell? ⟨w.heap.size, 0, none⟩ = some (.slice Aa20 na20 ca20) := Ba2.cell 0
  have k_Bx2_0 : W11.cell? ⟨W8.heap.size, 0, none⟩ = some (.slice Ax20 (p2).length cx20) := Bx2.cell 0
  clear hb_
  go_wp2_with fail
  refine (o_eqIntS ((tIs).reach ((tIs).read o_x0) ?hB) ((tIs).reach ((tIs).read o_v) ?hB)).mono ?_
  all_goals try (case hB => exact (by repeat (first | (with_reducible exact Below.refl _ _) | (with_reducible assumption) | (with_reducible refine bel_alloc ?_ _) | (with_reducible refine bel_drew ?_) | (with_reducible refine below_drewN ?_ _) | (with_reducible refine bel_put ?_ (by first | exact Nat.le_refl _ | (simp; done) | (simp; omega)) _))))
  rintro e W12 ⟨rfl, hb_⟩
  clear k_Ba2_0
  clear k_Bx2_0
  clear o_v Iv Dv
  have hs12 : Below W11.heap.size W11 W12 := bel_trans (by repeat (first | (with_reducible exact Below.refl _ _) | (with_reducible assumption) | (with_reducible refine bel_alloc ?_ _) | (with_reducible refine bel_drew ?_) | (with_reducible refine below_drewN ?_ _) | (with_reducible refine bel_put ?_ (by first | exact Nat.le_refl _ | (simp; done) | (simp; omega)) _))) hb_
  have z12 : W11.heap.size + 0 ≤ W12.heap.size := by have := hb_.size; simpa using this
  have hB12 : Below w.heap.size w W12 := bel_trans hB11 hs12
  replace Ba2 := Ba2.below hs12 Ba2.size
  replace Bx2 := Bx2.below hs12 Bx2.size
  replace o_x0 := Ty.below (t := tIs) o_x0 hs12
  replace o_x1 := Ty.below (t := tIs) o_x1 hs12
  replace o_x2 := Ty.below (t := tCell) o_x2 hs12
  replace o_g0 := Ty.below (t := tBy) o_g0 hs12
  replace r_s0 := (tBy).keep r_s0 (fun b hb => hs12.block b (Nat.lt_of_lt_of_le hb (by omega)))
  have k_Ba2_0 : W12.cell? ⟨w.heap.size, 0, none⟩ = some (.slice Aa20 na20 ca20) := Ba2.cell 0
  have k_Bx2_0 : W12.cell? ⟨W8.heap.size, 0, none⟩ = some (.slice Ax20 (p2).length cx20) := Bx2.cell 0
  clear hb_
  go_wp2_with fail
  refine (o_toIntS ((tIs).reach ((tIs).reach h1 hB12) ?hB) (by omega)).mono ?_
  all_goals try (case hB => exact (by repeat (first | (with_reducible exact Below.refl _ _) | (with_reducible assumption) | (with_reducible refine bel_alloc ?_ _) | (with_reducible refine bel_drew ?_) | (with_reducible refine below_drewN ?_ _) | (with_reducible refine bel_put ?_ (by first | exact Nat.le_refl _ | (simp; done) | (simp; omega)) _))))
  rintro e W13 ⟨Av, cv, Fv, rfl, o_v, Nv, hb_⟩
  clear k_Ba2_0
  clear k_Bx2_0
  have Iv : ∀ f ∈ Fv, W12.heap.size + 0 ≤ f ∧ f < W13.heap.size := fun f hf => ⟨Nat.le_trans (by first | (simp; done) | (simp; omega)) (Nv.2 f hf), (tIs).lt o_v f hf⟩
  have Dv := Nv.1
  clear Nv
  have hs13 : Below W12.heap.size W12 W13 := bel_trans (by repeat (first | (with_reducible exact Below.refl _ _) | (with_reducible assumption) | (with_reducible refine bel_alloc ?_ _) | (with_reducible refine bel_drew ?_) | (with_reducible refine below_drewN ?_ _) | (with_reducible refine bel_put ?_ (by first | exact Nat.le_refl _ | (simp; done) | (simp; omega)) _))) hb_
  have z13 : W12.heap.size + 0 ≤ W13.heap.size := by have := hb_.size; simpa using this
  have hB13 : Below w.heap.size w W13 := bel_trans hB12 hs13
  replace Ba2 := Ba2.below hs13 Ba2.size
  replace Bx2 := Bx2.below hs13 Bx2.size
  replace o_x0 := Ty.below (t := tIs) o_x0 hs13
  replace o_x1 := Ty.below (t := tIs) o_x1 hs13
  replace o_x2 := Ty.below (t := tCell) o_x2 hs13
  replace o_g0 := Ty.below (t := tBy) o_g0 hs13
  replace r_s0 := (tBy).keep r_s0 (fun b hb => hs13.block b (Nat.lt_of_lt_of_le hb (by omega)))
  have k_Ba2_0 : W13.cell? ⟨w.heap.size, 0, none⟩ = some (.slice Aa20 na20 ca20) := Ba2.cell 0
  have k_Bx2_0 : W13.cell? ⟨W8.heap.size, 0, none⟩ = some (.slice Ax20 (p2).length cx20) := Bx2.cell 0
  clear hb_
  go_wp2_with fail
  refine (o_eqIntS ((tIs).reach ((tIs).read o_x1) ?hB) ((tIs).reach ((tIs).read o_v) ?hB)).mono ?_
  all_goals try (case hB => exact (by repeat (first | (with_reducible exact Below.refl _ _) | (with_reducible assumption) | (with_reducible refine bel_alloc ?_ _) | (with_reducible refine bel_drew ?_) | (with_reducible refine below_drewN ?_ _) | (with_reducible refine bel_put ?_ (by first | exact Nat.le_refl _ | (simp; done) | (simp; omega)) _))))
  rintro e W14 ⟨rfl, hb_⟩
  clear k_Ba2_0
  clear k_Bx2_0
  clear o_v Iv Dv
  have hs14 : Below W13.heap.size W13 W14 := bel_trans (by repeat (first | (with_reducible exact Below.refl _ _) | (with_reducible assumption) | (with_reducible refine bel_alloc ?_ _) | (with_reducible refine bel_drew ?_) | (with_reducible refine below_drewN ?_ _) | (with_reducible refine bel_put ?_ (by first | exact Nat.le_refl _ | (simp; done) | (simp; omega)) _))) hb_
  have z14 : W13.heap.size + 0 ≤ W14.heap.size := by have := hb_.size; simpa using this
  have hB14 : Below w.heap.size w W14 := bel_trans hB13 hs14
  replace Ba2 := Ba2.below hs14 Ba2.size
  replace Bx2 := Bx2.below hs14 Bx2.size
  replace o_x0 := Ty.below (t := tIs) o_x0 hs14
  replace o_x1 := Ty.below (t := tIs) o_x1 hs14
  replace o_x2 := Ty.below (t := tCell) o_x2 hs14
  replace o_g0 := Ty.below (t := tBy) o_g0 hs14
  replace r_s0 := (tBy).keep r_s0 (fun b hb => hs14.block b (Nat.lt_of_lt_of_le hb (by omega)))
  have k_Ba2_0 : W14.cell? ⟨w.heap.size, 0, none⟩ = some (.slice Aa20 na20 ca20) := Ba2.cell 0
  have k_Bx2_0 : W14.cell? ⟨W8.heap.size, 0, none⟩ = some (.slice Ax20 (p2).length cx20) := Bx2.cell 0
  clear hb_
  go_wp2_with fail
  go_region_held3 (fun w' => w'.cell? ⟨w.heap.size, 0, none⟩ = some (.slice Aa20 na20 ca20) ∧ w'.cell? ⟨W8.heap.size, 0, none⟩ = some (.slice Ax20 (p2).length cx20)) (first | (exact ⟨k_Ba2_0, k_Bx2_0⟩) | (exact ⟨cell_bel hs16 k_Ba2_0, cell_bel hs16 k_Bx2_0⟩) | (exact ⟨cell_bel hs15 k_Ba2_0, cell_bel hs15 k_Bx2_0⟩) | go_keep)
    (first
      | (go_at_call 12; refine (o_toCell ((tCell).reach ((tCell).reach h2 hB14) (by repeat (first | (with_reducible exact Below.refl _ _) | (with_reducible assumption) | (with_reducible refine bel_alloc ?_ _) | (with_reducible refine bel_drew ?_) | (with_reducible refine below_drewN ?_ _) | (with_reducible refine bel_put ?_ (by first | exact Nat.le_refl _ | (simp; done) | (simp; omega)) _)))) (by omega)).mono ?_; rintro e W15 ⟨csv, Fv, rfl, o_v, Nv, hb_⟩; have hs15 : Below W14.heap.size W14 W15 := bel_trans (by repeat (first | (with_reducible exact Below.refl _ _) | (with_reducible assumption) | (with_reducible refine bel_alloc ?_ _) | (with_reducible refine bel_drew ?_) | (with_reducible refine below_drewN ?_ _) | (with_reducible refine bel_put ?_ (by first | exact Nat.le_refl _ | (simp; done) | (simp; omega)) _))) hb_)
      | (go_at_call 16; refine (o_eqCell ((tCell).reach ((tCell).reach ((tCell).read o_x2) hs15) (by repeat (first | (with_reducible exact Below.refl _ _) | (with_reducible assumption) | (with_reducible refine bel_alloc ?_ _) | (with_reducible refine bel_drew ?_) | (with_reducible refine below_drewN ?_ _) | (with_reducible refine bel_put ?_ (by first | exact Nat.le_refl _ | (simp; done) | (simp; omega)) _)))) ((tCell).reach ((tCell).read o_v) (by repeat (first | (with_reducible exact Below.refl _ _) | (with_reducible assumption) | (with_reducible refine bel_alloc ?_ _) | (with_reducible refine bel_drew ?_) | (with_reducible refine below_drewN ?_ _) | (with_reducible refine bel_put ?_ (by first | exact Nat.le_refl _ | (simp; done) | (simp; omega)) _))))).mono ?_; rintro e W16 ⟨rfl, hb2_⟩; have hs16' : Below W14.heap.size W14 W16 := bel_trans hs15 (bel_trans (by repeat (first | (with_reducible exact Below.refl _ _) | (with_reducible assumption) | (with_reducible refine bel_alloc ?_ _) | (with_reducible refine bel_drew ?_) | (with_reducible refine below_drewN ?_ _) | (with_reducible refine bel_put ?_ (by first | exact Nat.le_refl _ | (simp; done) | (simp; omega)) _))) hb2_); have hs16 := hs16'))
  clear o_v Nv hb_ hb2_ hs15
  clear k_Ba2_0
  clear k_Bx2_0
  have z16 : W14.heap.size + 0 ≤ W16.heap.size := hs16'.size
  have hB16 : Below w.heap.size w W16 := bel_trans hB14 hs16'
  replace Ba2 := Ba2.below hs16' Ba2.size
  replace Bx2 := Bx2.below hs16' Bx2.size
  replace o_x0 := Ty.below (t := tIs) o_x0 hs16'
  replace o_x1 := Ty.below (t := tIs) o_x1 hs16'
  replace o_x2 := Ty.below (t := tCell) o_x2 hs16'
  replace o_g0 := Ty.below (t := tBy) o_g0 hs16'
  replace r_s0 := (tBy).keep r_s0 (fun b hb => hs16'.block b (Nat.lt_of_lt_of_le hb (by omega)))
  have k_Ba2_0 : W16.cell? ⟨w.heap.size, 0, none⟩ = some (.slice Aa20 na20 ca20) := Ba2.cell 0
  have k_Bx2_0 : W16.cell? ⟨W8.heap.size, 0, none⟩ = some (.slice Ax20 (p2).length cx20) := Bx2.cell 0
  go_wp2_with fail
  refine (o_markIntS (1) o_x0 (by omega) (by omega)).mono ?_
  rintro e W17 ⟨rfl, om_, hG_⟩
  clear k_Ba2_0
  clear k_Bx2_0
  replace o_x0 := om_
  clear om_
  have z17 : W16.heap.size + 0 ≤ W17.heap.size := hG_.size
  have hB17 : Below w.heap.size w W17 := hB16.trans (hG_.below (fun f hf => by have := Ix0 f hf; omega) (by have := hB16.size; omega))
  replace Ba2 := Ba2.same (hG_.block _ Ba2.size (fun hx => by have := Ix0 _ hx; omega))
  replace Bx2 := Bx2.same (hG_.block _ Bx2.size (fun hx => by have := Ix0 _ hx; omega))
  replace o_x1 := Ty.only (t := tIs) o_x1 hG_ (fun f hf hx => by have := Ix1 f hf; have := Ix0 f hx; omega)
  replace o_x2 := Ty.only (t := tCell) o_x2 hG_ (fun f hf hx => by have := Ix2 f hf; have := Ix0 f hx; omega)
  replace o_g0 := Ty.only (t := tBy) o_g0 hG_ (fun f hf hx => by have := Ig0 f hf; have := Ix0 f hx; omega)
  replace r_s0 := (tBy).keep r_s0 (fun b hb => hG_.block b (Nat.lt_of_lt_of_le hb (by omega)) (fun hx => by have := Ix0 b hx; omega))
  have k_Ba2_0 : W17.cell? ⟨w.heap.size, 0, none⟩ = some (.slice Aa20 na20 ca20) := Ba2.cell 0
  have k_Bx2_0 : W17.cell? ⟨W8.heap.size, 0, none⟩ = some (.slice Ax20 (p2).length cx20) := Bx2.cell 0
  clear hG_
  go_wp2_with fail
  refine (o_markIntS (1 + (((p0).length : Nat) : Int)) o_x1 (by omega) (by omega)).mono ?_
  rintro e W18 ⟨rfl, om_, hG_⟩
  clear k_Ba2_0
  clear k_Bx2_0
  replace o_x1 := om_
  clear om_
  have z18 : W17.heap.size + 0 ≤ W18.heap.size := hG_.size
  have hB18 : Below w.heap.size w W18 := hB17.trans (hG_.below (fun f hf => by have := Ix1 f hf; omega) (by have := hB17.size; omega))
  replace Ba2 := Ba2.same (hG_.block _ Ba2.size (fun hx => by have := Ix1 _ hx; omega))
  replace Bx2 := Bx2.same (hG_.block _ Bx2.size (fun hx => by have := Ix1 _ hx; omega))
  replace o_x0 := Ty.only (t := tIs) o_x0 hG_ (fun f hf hx => by have := Ix0 f hf; have := Ix1 f hx; omega)
  replace o_x2 := Ty.only (t := tCell) o_x2 hG_ (fun f hf hx => by have := Ix2 f hf; have := Ix1 f hx; omega)
  replace o_g0 := Ty.only (t := tBy) o_g0 hG_ (fun f hf hx => by have := Ig0 f hf; have := Ix1 f hx; omega)
  replace r_s0 := (tBy).keep r_s0 (fun b hb => hG_.block b (Nat.lt_of_lt_of_le hb (by omega)) (fun hx => by have := Ix1 b hx; omega))
  have k_Ba2_0 : W18.cell? ⟨w.heap.size, 0, none⟩ = some (.slice Aa20 na20 ca20) := Ba2.cell 0
  have k_Bx2_0 : W18.cell? ⟨W8.heap.size, 0, none⟩ = some (.slice Ax20 (p2).length cx20) := Bx2.cell 0
  clear hG_
  go_wp2_with fail
  refine (o_markCell (1 + (((p0).length : Nat) : Int) + (((p1).length : Nat) : Int)) o_x2 Dx2 (by omega) (by omega)).mono ?_
  rintro e W19 ⟨rfl, om_, hG_⟩
  clear k_Ba2_0
  clear k_Bx2_0
  replace o_x2 := om_
  clear om_
  have z19 : W18.heap.size + 0 ≤ W19.heap.size := hG_.size
  have hB19 : Below w.heap.size w W19 := hB18.trans (hG_.below (fun f hf => by have := Ix2 f hf; omega) (by have := hB18.size; omega))
  replace Ba2 := Ba2.same (hG_.block _ Ba2.size (fun hx => by have := Ix2 _ hx; omega))
  replace Bx2 := Bx2.same (hG_.block _ Bx2.size (fun hx => by have := Ix2 _ hx; omega))
  replace o_x0 := Ty.only (t := tIs) o_x0 hG_ (fun f hf hx => by have := Ix0 f hf; have := Ix2 f hx; omega)
  replace o_x1 := Ty.only (t := tIs) o_x1 hG_ (fun f hf hx => by have := Ix1 f hf; have := Ix2 f hx; omega)
  replace o_g0 := Ty.only (t := tBy) o_g0 hG_ (fun f hf hx => by have := Ig0 f hf; have := Ix2 f hx; omega)
  replace r_s0 := (tBy).keep r_s0 (fun b hb => hG_.block b (Nat.lt_of_lt_of_le hb (by omega)) (fun hx => by have := Ix2 b hx; omega))
  have k_Ba2_0 : W19.cell? ⟨w.heap.size, 0, none⟩ = some (.slice Aa20 na20 ca20) := Ba2.cell 0
  have k_Bx2_0 : W19.cell? ⟨W8.heap.size, 0, none⟩ = some (.slice Ax20 (p2).length cx20) := Bx2.cell 0
  clear hG_
  have dk : decide ((1 + (((p0).length : Nat) : Int) + (((p1).length : Nat) : Int) + ((cntCell (p2) : Nat) : Int) : Int) < 0) = false := by simp; omega
  clear o_x0 Ix0 Dx0
  clear o_x1 Ix1 Dx1
  clear o_x2 Ix2 Dx2
  go_wp2_with fail
  refine (o_eqByteS ((tBy).reach ((tBy).read o_g0) ?hB) ((tBy).reach ((tBy).up r_s0 (by omega : W5.heap.size ≤ W19.heap.size)) ?hB)).mono ?_
  all_goals try (case hB => exact (by repeat (first | (with_reducible exact Below.refl _ _) | (with_reducible assumption) | (with_reducible refine bel_alloc ?_ _) | (with_reducible refine bel_drew ?_) | (with_reducible refine below_drewN ?_ _) | (with_reducible refine bel_put ?_ (by first | exact Nat.le_refl _ | (simp; done) | (simp; omega)) _))))
  rintro e W20 ⟨rfl, hb_⟩
  clear k_Ba2_0
  clear k_Bx2_0
  have hs20 : Below W19.heap.size W19 W20 := bel_trans (by repeat (first | (with_reducible exact Below.refl _ _) | (with_reducible assumption) | (with_reducible refine bel_alloc ?_ _) | (with_reducible refine bel_drew ?_) | (with_reducible refine below_drewN ?_ _) | (with_reducible refine bel_put ?_ (by first | exact Nat.le_refl _ | (simp; done) | (simp; omega)) _))) hb_
  have z20 : W19.heap.size + 0 ≤ W20.heap.size := by have := hb_.size; simpa using this
  have hB20 : Below w.heap.size w W20 := bel_trans hB19 hs20
  replace Ba2 := Ba2.below hs20 Ba2.size
  replace Bx2 := Bx2.below hs20 Bx2.size
  replace o_g0 := Ty.below (t := tBy) o_g0 hs20
  replace r_s0 := (tBy).keep r_s0 (fun b hb => hs20.block b (Nat.lt_of_lt_of_le hb (by omega)))
  have k_Ba2_0 : W20.cell? ⟨w.heap.size, 0, none⟩ = some (.slice Aa20 na20 ca20) := Ba2.cell 0
  have k_Bx2_0 : W20.cell? ⟨W8.heap.size, 0, none⟩ = some (.slice Ax20 (p2).length cx20) := Bx2.cell 0
  clear hb_
  go_wp2_with fail
  refine (o_markByteS (1) o_g0 (by omega) (by omega)).mono ?_
  rintro e W21 ⟨rfl, om_, hG_⟩
  clear k_Ba2_0
  clear k_Bx2_0
  replace o_g0 := om_
  clear om_
  have z21 : W20.heap.size + 0 ≤ W21.heap.size := hG_.size
  have hB21 : Below w.heap.size w W21 := hB20.trans (hG_.below (fun f hf => by have := Ig0 f hf; omega) (by have := hB20.size; omega))
  replace Ba2 := Ba2.same (hG_.block _ Ba2.size (fun hx => by have := Ig0 _ hx; omega))
  replace Bx2 := Bx2.same (hG_.block _ Bx2.size (fun hx => by have := Ig0 _ hx; omega))
  replace r_s0 := (tBy).keep r_s0 (fun b hb => hG_.block b (Nat.lt_of_lt_of_le hb (by omega)) (fun hx => by have := Ig0 b hx; omega))
  have k_Ba2_0 : W21.cell? ⟨w.heap.size, 0, none⟩ = some (.slice Aa20 na20 ca20) := Ba2.cell 0
  have k_Bx2_0 : W21.cell? ⟨W8.heap.size, 0, none⟩ = some (.slice Ax20 (p2).length cx20) := Bx2.cell 0
  clear hG_
  have dm : (((1 + (((r0).length : Nat) : Int) : Int)) != (1 + (((r0).length : Nat) : Int))) = false := by simp
  have dh0 : decide ((1 + (((r0).length : Nat) : Int) : Int) < 0) = false := by simp; omega
  go_wp2_with fail
  refine (o_heldByteS (1) ((tBy).reach ((tBy).read o_g0) ?hB) (by omega) (by omega)).mono ?_
  all_goals try (case hB => exact (by repeat (first | (with_reducible exact Below.refl _ _) | (with_reducible assumption) | (with_reducible refine bel_alloc ?_ _) | (with_reducible refine bel_drew ?_) | (with_reducible refine below_drewN ?_ _) | (with_reducible refine bel_put ?_ (by first | exact Nat.le_refl _ | (simp; done) | (simp; omega)) _))))
  rintro e W22 ⟨rfl, hb_⟩
  clear k_Ba2_0
  clear k_Bx2_0
  have hs22 : Below W21.heap.size W21 W22 := bel_trans (by repeat (first | (with_reducible exact Below.refl _ _) | (with_reducible assumption) | (with_reducible refine bel_alloc ?_ _) | (with_reducible refine bel_drew ?_) | (with_reducible refine below_drewN ?_ _) | (with_reducible refine bel_put ?_ (by first | exact Nat.le_refl _ | (simp; done) | (simp; omega)) _))) hb_
  have z22 : W21.heap.size + 0 ≤ W22.heap.size := by have := hb_.size; simpa using this
  have hB22 : Below w.heap.size w W22 := bel_trans hB21 hs22
  replace Ba2 := Ba2.below hs22 Ba2.size
  replace Bx2 := Bx2.below hs22 Bx2.size
  replace o_g0 := Ty.below (t := tBy) o_g0 hs22
  replace r_s0 := (tBy).keep r_s0 (fun b hb => hs22.block b (Nat.lt_of_lt_of_le hb (by omega)))
  have k_Ba2_0 : W22.cell? ⟨w.heap.size, 0, none⟩ = some (.slice Aa20 na20 ca20) := Ba2.cell 0
  have k_Bx2_0 : W22.cell? ⟨W8.heap.size, 0, none⟩ = some (.slice Ax20 (p2).length cx20) := Bx2.cell 0
  clear hb_
  go_wp2_with fail
  go_region_held3 (fun w' => w'.cell? ⟨w.heap.size, 0, none⟩ = some (.slice Aa20 na20 ca20)) (first | (exact k_Ba2_0) | (exact cell_bel (bel_trans (bel_trans (bel_trans hs23 hs24) hs25) hs26) k_Ba2_0) | (exact cell_bel (bel_trans (bel_trans hs23 hs24) hs25) k_Ba2_0) | (exact cell_bel (bel_trans hs23 hs24) k_Ba2_0) | (exact cell_bel hs23 k_Ba2_0) | go_keep)
    (first
      | (go_at_call 31; refine (i_FollowR ((tIs).reach ((tIs).read (Ty.below (t := tIs) (Ty.below (t := tIs) o_y0 hs24) hs25)) (by repeat (first | (with_reducible exact Below.refl _ _) | (with_reducible assumption) | (with_reducible refine bel_alloc ?_ _) | (with_reducible refine bel_drew ?_) | (with_reducible refine below_drewN ?_ _) | (with_reducible refine bel_put ?_ (by first | exact Nat.le_refl _ | (simp; done) | (simp; omega)) _)))) (by omega) ((tIs).reach ((tIs).read (Ty.below (t := tIs) o_y1 hs25)) (by repeat (first | (with_reducible exact Below.refl _ _) | (with_reducible assumption) | (with_reducible refine bel_alloc ?_ _) | (with_reducible refine bel_drew ?_) | (with_reducible refine below_drewN ?_ _) | (with_reducible refine bel_put ?_ (by first | exact Nat.le_refl _ | (simp; done) | (simp; omega)) _)))) (by omega) ((tCell).reach ((tCell).read o_y2) (by repeat (first | (with_reducible exact Below.refl _ _) | (with_reducible assumption) | (with_reducible refine bel_alloc ?_ _) | (with_reducible refine bel_drew ?_) | (with_reducible refine below_drewN ?_ _) | (with_reducible refine bel_put ?_ (by first | exact Nat.le_refl _ | (simp; done) | (simp; omega)) _)))) (by omega)).mono ?_; rintro e W26 ⟨Ah0, ch0, Fh0, rfl, o_h0, Nh, hb_⟩; have hs26 : Below W25.heap.size W25 W26 := bel_trans (by repeat (first | (with_reducible exact Below.refl _ _) | (with_reducible assumption) | (with_reducible refine bel_alloc ?_ _) | (with_reducible refine bel_drew ?_) | (with_reducible refine below_drewN ?_ _) | (with_reducible refine bel_put ?_ (by first | exact Nat.le_refl _ | (simp; done) | (simp; omega)) _))) hb_)
      | (go_at_call 12; refine (o_toCell ((tCell).reach ((tCell).reach h2 (bel_trans (bel_trans hB22 hs23) hs24)) (by repeat (first | (with_reducible exact Below.refl _ _) | (with_reducible assumption) | (with_reducible refine bel_alloc ?_ _) | (with_reducible refine bel_drew ?_) | (with_reducible refine below_drewN ?_ _) | (with_reducible refine bel_put ?_ (by first | exact Nat.le_refl _ | (simp; done) | (simp; omega)) _)))) (by omega)).mono ?_; rintro e W25 ⟨csy2, Fy2, rfl, o_y2, Ny2, hb_25⟩; have hs25 : Below W24.heap.size W24 W25 := bel_trans (by repeat (first | (with_reducible exact Below.refl _ _) | (with_reducible assumption) | (with_reducible refine bel_alloc ?_ _) | (with_reducible refine bel_drew ?_) | (with_reducible refine below_drewN ?_ _) | (with_reducible refine bel_put ?_ (by first | exact Nat.le_refl _ | (simp; done) | (simp; omega)) _))) hb_25)
      | (go_at_call 23; refine (o_toIntS ((tIs).reach ((tIs).reach h1 (bel_trans hB22 hs23)) (by repeat (first | (with_reducible exact Below.refl _ _) | (with_reducible assumption) | (with_reducible refine bel_alloc ?_ _) | (with_reducible refine bel_drew ?_) | (with_reducible refine below_drewN ?_ _) | (with_reducible refine bel_put ?_ (by first | exact Nat.le_refl _ | (simp; done) | (simp; omega)) _)))) (by omega)).mono ?_; rintro e W24 ⟨Ay1, cy1, Fy1, rfl, o_y1, Ny1, hb_24⟩; have hs24 : Below W23.heap.size W23 W24 := bel_trans (by repeat (first | (with_reducible exact Below.refl _ _) | (with_reducible assumption) | (with_reducible refine bel_alloc ?_ _) | (with_reducible refine bel_drew ?_) | (with_reducible refine below_drewN ?_ _) | (with_reducible refine bel_put ?_ (by first | exact Nat.le_refl _ | (simp; done) | (simp; omega)) _))) hb_24)
      | (go_at_call 23; refine (o_toIntS ((tIs).reach ((tIs).reach h0 hB22) (by repeat (first | (with_reducible exact Below.refl _ _) | (with_reducible assumption) | (with_reducible refine bel_alloc ?_ _) | (with_reducible refine bel_drew ?_) | (with_reducible refine below_drewN ?_ _) | (with_reducible refine bel_put ?_ (by first | exact Nat.le_refl _ | (simp; done) | (simp; omega)) _)))) (by omega)).mono ?_; rintro e W23 ⟨Ay0, cy0, Fy0, rfl, o_y0, Ny0, hb_23⟩; have hs23 : Below W22.heap.size W22 W23 := bel_trans (by repeat (first | (with_reducible exact Below.refl _ _) | (with_reducible assumption) | (with_reducible refine bel_alloc ?_ _) | (with_reducible refine bel_drew ?_) | (with_reducible refine below_drewN ?_ _) | (with_reducible refine bel_put ?_ (by first | exact Nat.le_refl _ | (simp; done) | (simp; omega)) _))) hb_23))
  have hsx26 : Below W22.heap.size W22 W26 := (bel_trans (bel_trans (bel_trans hs23 hs24) hs25) hs26)
  clear k_Ba2_0
  clear k_Bx2_0
  have z26 : W22.heap.size + 0 ≤ W26.heap.size := by have := hs23.size; have := hs24.size; have := hs25.size; have := hs26.size; omega
  have zp26 : W22.heap.size + 0 ≤ W25.heap.size := by have := hs23.size; have := hs24.size; have := hs25.size; omega
  have hB26 : Below w.heap.size w W26 := bel_trans hB22 hsx26
  replace Ba2 := Ba2.below hsx26 Ba2.size
  replace Bx2 := Bx2.below hsx26 Bx2.size
  replace o_g0 := Ty.below (t := tBy) o_g0 hsx26
  replace r_s0 := (tBy).keep r_s0 (fun b hb => hsx26.block b (Nat.lt_of_lt_of_le hb (by omega)))
  clear o_y0 Ny0
  clear o_y1 Ny1
  clear o_y2 Ny2
  clear hb_23 hb_24 hb_25 hs23 hs24 hs25 hs26
  have k_Ba2_0 : W26.cell? ⟨w.heap.size, 0, none⟩ = some (.slice Aa20 na20 ca20) := Ba2.cell 0
  have k_Bx2_0 : W26.cell? ⟨W8.heap.size, 0, none⟩ = some (.slice Ax20 (p2).length cx20) := Bx2.cell 0
  rw [HR0.out] at o_h0
  rw [HR0.out]
  rw [HR1.out]
  have Ih0 : ∀ f ∈ Fh0, W22.heap.size + 0 ≤ f ∧ f < W26.heap.size := fun f hf => ⟨Nat.le_trans (by first | (simp; done) | (simp; omega)) (Nh.2 f (by simp [hf])), (tBy).lt o_h0 f hf⟩
  have Dh0 := Nh.1
  clear Nh
  clear hb_
  go_wp2_with fail
  refine (o_eqByteS ((tBy).reach ((tBy).read o_h0) ?hB) ((tBy).reach ((tBy).up r_s0 (by omega : W5.heap.size ≤ W26.heap.size)) ?hB)).mono ?_
  all_goals try (case hB => exact (by repeat (first | (with_reducible exact Below.refl _ _) | (with_reducible assumption) | (with_reducible refine bel_alloc ?_ _) | (with_reducible refine bel_drew ?_) | (with_reducible refine below_drewN ?_ _) | (with_reducible refine bel_put ?_ (by first | exact Nat.le_refl _ | (simp; done) | (simp; omega)) _))))
  rintro e W27 ⟨rfl, hb_⟩
  clear k_Ba2_0
  clear k_Bx2_0
  have hs27 : Below W26.heap.size W26 W27 := bel_trans (by repeat (first | (with_reducible exact Below.refl _ _) | (with_reducible assumption) | (with_reducible refine bel_alloc ?_ _) | (with_reducible refine bel_drew ?_) | (with_reducible refine below_drewN ?_ _) | (with_reducible refine bel_put ?_ (by first | exact Nat.le_refl _ | (simp; done) | (simp; omega)) _))) hb_
  have z27 : W26.heap.size + 0 ≤ W27.heap.size := by have := hb_.size; simpa using this
  have hB27 : Below w.heap.size w W27 := bel_trans hB26 hs27
  replace Ba2 := Ba2.below hs27 Ba2.size
  replace Bx2 := Bx2.below hs27 Bx2.size
  replace o_g0 := Ty.below (t := tBy) o_g0 hs27
  replace o_h0 := Ty.below (t := tBy) o_h0 hs27
  replace r_s0 := (tBy).keep r_s0 (fun b hb => hs27.block b (Nat.lt_of_lt_of_le hb (by omega)))
  have k_Ba2_0 : W27.cell? ⟨w.heap.size, 0, none⟩ = some (.slice Aa20 na20 ca20) := Ba2.cell 0
  have k_Bx2_0 : W27.cell? ⟨W8.heap.size, 0, none⟩ = some (.slice Ax20 (p2).length cx20) := Bx2.cell 0
  clear hb_
  go_wp2_with fail
  refine (o_heldByteS (1) ((tBy).reach ((tBy).read o_g0) ?hB) (by omega) (by omega)).mono ?_
  all_goals try (case hB => exact (by repeat (first | (with_reducible exact Below.refl _ _) | (with_reducible assumption) | (with_reducible refine bel_alloc ?_ _) | (with_reducible refine bel_drew ?_) | (with_reducible refine below_drewN ?_ _) | (with_reducible refine bel_put ?_ (by first | exact Nat.le_refl _ | (simp; done) | (simp; omega)) _))))
  rintro e W28 ⟨rfl, hb_⟩
  clear k_Ba2_0
  clear k_Bx2_0
  have hs28 : Below W27.heap.size W27 W28 := bel_trans (by repeat (first | (with_reducible exact Below.refl _ _) | (with_reducible assumption) | (with_reducible refine bel_alloc ?_ _) | (with_reducible refine bel_drew ?_) | (with_reducible refine below_drewN ?_ _) | (with_reducible refine bel_put ?_ (by first | exact Nat.le_refl _ | (simp; done) | (simp; omega)) _))) hb_
  have z28 : W27.heap.size + 0 ≤ W28.heap.size := by have := hb_.size; simpa using this
  have hB28 : Below w.heap.size w W28 := bel_trans hB27 hs28
  replace Ba2 := Ba2.below hs28 Ba2.size
  replace Bx2 := Bx2.below hs28 Bx2.size
  replace o_g0 := Ty.below (t := tBy) o_g0 hs28
  replace o_h0 := Ty.below (t := tBy) o_h0 hs28
  replace r_s0 := (tBy).keep r_s0 (fun b hb => hs28.block b (Nat.lt_of_lt_of_le hb (by omega)))
  have k_Ba2_0 : W28.cell? ⟨w.heap.size, 0, none⟩ = some (.slice Aa20 na20 ca20) := Ba2.cell 0
  have k_Bx2_0 : W28.cell? ⟨W8.heap.size, 0, none⟩ = some (.slice Ax20 (p2).length cx20) := Bx2.cell 0
  clear hb_
  go_wp2_with fail
  go_ret
  exact ⟨rfl, hB28⟩

/-! ### THE ROW's STEP -/
set_option maxHeartbeats 400000 in
set_option maxRecDepth 100000 in
theorem lifted (os : Os) (started : os.Started) (H : Type) (enc : TypeId × Value → H) :
    ReturnsInHanded {} Try.checked os 6 .any (Rows.fnExactFollowSpec.pre6 enc Try.prog Try.f6 Rows.fnExactFollowRow.domain false) (Rows.fnExactFollowSpec.post enc Try.prog Try.f6 false true false false) := by
  refine returnsInHanded_of_change (C := Try.checked) own started (by kernel_rfl) Try.func6
    (ChangeSpec.witness6 (enc := enc) (C := Try.checked) false ⟨#[], #[.slice none 0 0, .slice none 0 0, .agg #[.slice none 0 0]], []⟩ 8 (by kernel_rfl) (by kernel_rfl) (by kernel_rfl) (by kernel_rfl)) ?_
  intro W base args ds gs before hval0 hW hcnd _
  have hval : ∀ (j : Nat) t v, Try.f6.params[j]? = some t → args[j]? = some v → Value.okWide Try.prog W .any base t v := hval0
  have hW' := hW
  obtain ⟨p, q, hA0, hV, rfl, hfz, hnd⟩ := hW
  have hA : DataW.TrodAll enc Try.prog W 0 (fun _ => true) true Try.f6.params.toList args.toList ds p := hA0
  rw [Try.params6] at hA hval
  obtain ⟨v0, vs0, d0, ds0, p0, q0, hargs, rfl, rfl, h0, r0⟩ := trodAll_cons hA
  obtain ⟨v1, vs1, d1, ds1, p1, q1, rfl, rfl, rfl, h1, r1⟩ := trodAll_cons r0
  obtain ⟨v2, vs2, d2, ds2, p2, q2, rfl, rfl, rfl, h2, r2⟩ := trodAll_cons r1
  obtain ⟨rfl, rfl, rfl⟩ := trodAll_nil r2
  obtain rfl : args = #[v0, v1, v2] := by cases args; simp_all
  obtain ⟨rfl, rfl⟩ := trodVars_none hV
  obtain ⟨A0, n0, c0, rfl⟩ := okWide_slice Try.underlying40 (hval 0 40 v0 rfl rfl)
  have k0 := h0
  have lt0 : ∀ x ∈ p0, x.block < W.heap.size := by obtain ⟨m, hm⟩ := k0; exact DataW.trod_lt m _ _ _ hm
  obtain ⟨x0, w0⟩ : ∃ a, tIs.R W W.heap.size [.slice A0 n0 c0] a := by
    obtain ⟨fuel, hf⟩ := h0
    exact frR_is fuel _ _ (by simpa [Value.cells] using hf)
  obtain ⟨A1, n1, c1, rfl⟩ := okWide_slice Try.underlying40 (hval 1 40 v1 rfl rfl)
  have k1 := h1
  have lt1 : ∀ x ∈ p1, x.block < W.heap.size := by obtain ⟨m, hm⟩ := k1; exact DataW.trod_lt m _ _ _ hm
  obtain ⟨x1, w1⟩ : ∃ a, tIs.R W W.heap.size [.slice A1 n1 c1] a := by
    obtain ⟨fuel, hf⟩ := h1
    exact frR_is fuel _ _ (by simpa [Value.cells] using hf)
  obtain ⟨cs2, rfl, hsz2⟩ := okWide_struct Try.underlying24 (hval 2 24 v2 rfl rfl)
  have k2 := h2
  have lt2 : ∀ x ∈ p2, x.block < W.heap.size := by obtain ⟨m, hm⟩ := k2; exact DataW.trod_lt m _ _ _ hm
  obtain ⟨x2, w2⟩ : ∃ a, tCell.R W W.heap.size cs2.toList a := by
    obtain ⟨fuel, hf⟩ := h2
    exact frR_Cell fuel _ _ (by simpa [Value.cells] using hf)
  clear hA0 hval0
  refine (walk A0 n0 c0 x0 A1 n1 c1 x1 cs2 x2 W w0 w1 w2).mono fun e W' ⟨he, bel⟩ => ?_
  subst he
  exact ⟨_, rfl, _, _, _, [], _, [], hW', trodAll_mk1 (shut_bool Try.underlying4 _), (trodAll_cons_mk (Below.trod laidOut (by kernel_rfl) (of_decide_eq_true (by kernel_rfl)) k0 bel lt0) (trodAll_cons_mk (Below.trod laidOut (by kernel_rfl) (of_decide_eq_true (by kernel_rfl)) k1 bel lt1) (trodAll_cons_mk (Below.trod laidOut (by kernel_rfl) (of_decide_eq_true (by kernel_rfl)) k2 bel lt2) trodAll_mk0))), rfl, bel.frame _, fun h => by cases h⟩

theorem over : Rows.fnExactFollowRow.holds Try.pinned (OpenSpec.ofChange Rows.fnExactFollowSpec) :=
  OpenClaim.holds_of_wide 6 Try.f6 rfl rfl rfl rfl rfl rfl rfl ⟨rfl, rfl, rfl, rfl, rfl⟩ rfl rfl rfl rfl rfl (by kernel_rfl) Try.func6 (by kernel_rfl)
    (of_decide_eq_true (by kernel_rfl)) (by unfold Func.isWrapper; first | (rw [if_pos (by decide +kernel)]; kernel_rfl) | (rw [if_neg (by decide +kernel)]; exact ⟨rfl, rfl⟩))
    (fun os started H enc _ => lifted os started H enc)

theorem proved : Rows.FnExactFollowSaid := over
#print axioms proved
end Go.Proofs.Ytpapkonejkdkhaa.fnExactFollow
