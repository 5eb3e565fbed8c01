/-
  For every argument (in all at most 2^20 elements) the program's Peel answers as its model does, in every field, writes into no argument, and its answer owns its memory. No further condition.
-/
import Derived.Test.YtpapkonejkdkhaaRows
import Derived.Test.YtpapkonejkdkhaaFr
import Derived.WalkKit
import Derived.ProofKit
import Derived.OpenShut
import Derived.ShutString
import Derived.ChangeOld
import Derived.Below
import Derived.Test.YtpapkonejkdkhaaLCell
import Derived.Test.YtpapkonejkdkhaaLPeeled
import Derived.Test.YtpapkonejkdkhaaPPeel
import Derived.Deep.RegionHeld3
namespace Go.Proofs.Ytpapkonejkdkhaa.fnExactPeel
open Go.ChangeShapes Go.WideShapes Go.ChangeAt Go.RowKit
open Go.ChangeMaps (open_string shut_string)
set_option linter.unusedVariables false

open Go.Proofs.Ytpapkonejkdkhaa
theorem own : ownKnob Try.prog.godebug = none := by kernel_rfl
theorem laidOut : laidOutB Try.prog = true := by kernel_rfl



/-! ### STEP 1: the walk -/
set_option maxRecDepth 100000 in
set_option maxHeartbeats 2000000 in
theorem walk (a0 : Int) (cs1 : Array Value) (p1 : DCell) (A2 : Option Addr) (n2 c2 : Nat) (p2 : List Int) (w : World) (w0 : (Lit.int .i64 a0).wf = true) (h1 : tCell.R w w.heap.size cs1.toList p1) (h2 : (tBy).R w w.heap.size [.slice A2 n2 c2] p2) :
    Calls Try.prog 3 #[.int .i64 a0, .agg cs1, .slice A2 n2 c2] w fun e w' => e = .returned (.bool true) ∧ Below w.heap.size w w' := by
  obtain ⟨cs1⟩ := cs1
  replace h1 : tCell.R w w.heap.size cs1 p1 := h1
  obtain ⟨Aa10, na10, ca10, rfl, -, -, -, -⟩ := openCell h1
  have hn2 := (slR_ints h2).1.1
  have rg0 := i64_rg w0
  by_cases hz2 : (p2).length ≤ 1048576
  rotate_left
  · have q_ : (1048576 : Int) < (n2 : Int) := by omega
    go_enter Try.func3, Try.ntmps3
    go_wp2
    go_ret
    exact ⟨rfl, (by repeat (first | (with_reducible exact Below.refl _ _) | (with_reducible assumption) | (with_reducible refine bel_alloc ?_ _) | (with_reducible refine bel_drew ?_) | (with_reducible refine below_drewN ?_ _) | (with_reducible refine bel_put ?_ (by first | exact Nat.le_refl _ | (simp; done) | (simp; omega)) _)))⟩
  have q_2 : ¬ (1048576 : Int) < (n2 : Int) := by omega
  clear hn2
  by_cases hz1 : szCell (p1) ≤ 1048576
  rotate_left
  · go_enter Try.func3, Try.ntmps3
    go_wp2_with fail
    refine (o_szCell_f ((tCell).reach h1 ?hB) (by omega) (by omega) (by omega)).mono ?_
    all_goals try (case hB => exact (by repeat (first | (with_reducible exact Below.refl _ _) | (with_reducible assumption) | (with_reducible refine bel_alloc ?_ _) | (with_reducible refine bel_drew ?_) | (with_reducible refine below_drewN ?_ _) | (with_reducible refine bel_put ?_ (by first | exact Nat.le_refl _ | (simp; done) | (simp; omega)) _))))
    rintro e W1 ⟨rfl, hb_⟩
    have hs1 : Below w.heap.size w W1 := bel_trans (by repeat (first | (with_reducible exact Below.refl _ _) | (with_reducible assumption) | (with_reducible refine bel_alloc ?_ _) | (with_reducible refine bel_drew ?_) | (with_reducible refine below_drewN ?_ _) | (with_reducible refine bel_put ?_ (by first | exact Nat.le_refl _ | (simp; done) | (simp; omega)) _))) hb_
    have z1 : w.heap.size + 1 ≤ W1.heap.size := by have := hb_.size; simpa using this
    have hB1 : Below w.heap.size w W1 := hs1
    have Ba1 : Box W1 (w.heap.size) 24 #[.slice Aa10 na10 ca10] := Box.below (Box.new _ _ _) hb_ (by first | (simp; done) | (simp; omega))
    have k_Ba1_0 : W1.cell? ⟨w.heap.size, 0, none⟩ = some (.slice Aa10 na10 ca10) := Ba1.cell 0
    go_wp2
    go_ret
    exact ⟨rfl, hB1⟩
  have dz1 : decide ((1048576 : Int) - ((szCell (p1) : Nat) : Int) < 0) = false := by simp; omega
  have hzr0 : szPeeled (fPl a0 p1 p2) ≤ 1048576 := fPl_sz a0 p1 p2
  have hcr0 := cntPeeled_le (fPl a0 p1 p2)
  obtain ⟨r0, hr0⟩ : ∃ r, fPl a0 p1 p2 = r := ⟨_, rfl⟩
  have HR0 := Lib.hid hr0
  rw [hr0] at hzr0 hcr0
  clear hr0
  obtain ⟨r1, hr1⟩ : ∃ r, (fpeel a0 p1 p2).2 = r := ⟨_, rfl⟩
  have HR1 := Lib.hid hr1
  have qr1 : (r1 != r1) = false := by simp
  clear hr1
  have hcp1 := cntCell_le (p1)
  go_enter Try.func3, Try.ntmps3
  go_wp2_with fail
  refine (o_szCell_t ((tCell).reach h1 ?hB) (by omega) (by omega) (by omega)).mono ?_
  all_goals try (case hB => exact (by repeat (first | (with_reducible exact Below.refl _ _) | (with_reducible assumption) | (with_reducible refine bel_alloc ?_ _) | (with_reducible refine bel_drew ?_) | (with_reducible refine below_drewN ?_ _) | (with_reducible refine bel_put ?_ (by first | exact Nat.le_refl _ | (simp; done) | (simp; omega)) _))))
  rintro e W1 ⟨rfl, hb_⟩
  have hs1 : Below w.heap.size w W1 := bel_trans (by repeat (first | (with_reducible exact Below.refl _ _) | (with_reducible assumption) | (with_reducible refine bel_alloc ?_ _) | (with_reducible refine bel_drew ?_) | (with_reducible refine below_drewN ?_ _) | (with_reducible refine bel_put ?_ (by first | exact Nat.le_refl _ | (simp; done) | (simp; omega)) _))) hb_
  have z1 : w.heap.size + 1 ≤ W1.heap.size := by have := hb_.size; simpa using this
  have hB1 : Below w.heap.size w W1 := hs1
  have Ba1 : Box W1 (w.heap.size) 24 #[.slice Aa10 na10 ca10] := Box.below (Box.new _ _ _) hb_ (by first | (simp; done) | (simp; omega))
  have k_Ba1_0 : W1.cell? ⟨w.heap.size, 0, none⟩ = some (.slice Aa10 na10 ca10) := Ba1.cell 0
  clear hb_
  go_wp2_with fail
  refine (o_toCell ((tCell).reach ((tCell).reach h1 hB1) ?hB) (by omega)).mono ?_
  all_goals try (case hB => exact (by repeat (first | (with_reducible exact Below.refl _ _) | (with_reducible assumption) | (with_reducible refine bel_alloc ?_ _) | (with_reducible refine bel_drew ?_) | (with_reducible refine below_drewN ?_ _) | (with_reducible refine bel_put ?_ (by first | exact Nat.le_refl _ | (simp; done) | (simp; omega)) _))))
  rintro e W2 ⟨csy1, Fy1, rfl, o_y1, Ny1, hb_⟩
  clear k_Ba1_0
  have Iy1 : ∀ f ∈ Fy1, W1.heap.size + 0 ≤ f ∧ f < W2.heap.size := fun f hf => ⟨Nat.le_trans (by first | (simp; done) | (simp; omega)) (Ny1.2 f hf), (tCell).lt o_y1 f hf⟩
  have Dy1 := Ny1.1
  clear Ny1
  obtain ⟨Ay10, cy10, Fy10, rfl, -, -, -, -⟩ := openOCell o_y1
  have hs2 : Below W1.heap.size W1 W2 := bel_trans (by repeat (first | (with_reducible exact Below.refl _ _) | (with_reducible assumption) | (with_reducible refine bel_alloc ?_ _) | (with_reducible refine bel_drew ?_) | (with_reducible refine below_drewN ?_ _) | (with_reducible refine bel_put ?_ (by first | exact Nat.le_refl _ | (simp; done) | (simp; omega)) _))) hb_
  have z2 : W1.heap.size + 0 ≤ W2.heap.size := by have := hb_.size; simpa using this
  have hB2 : Below w.heap.size w W2 := bel_trans hB1 hs2
  replace Ba1 := Ba1.below hs2 Ba1.size
  have k_Ba1_0 : W2.cell? ⟨w.heap.size, 0, none⟩ = some (.slice Aa10 na10 ca10) := Ba1.cell 0
  clear hb_
  go_wp2_with fail
  refine (o_toByteS ((tBy).reach ((tBy).reach h2 hB2) ?hB) (by omega)).mono ?_
  all_goals try (case hB => exact (by repeat (first | (with_reducible exact Below.refl _ _) | (with_reducible assumption) | (with_reducible refine bel_alloc ?_ _) | (with_reducible refine bel_drew ?_) | (with_reducible refine below_drewN ?_ _) | (with_reducible refine bel_put ?_ (by first | exact Nat.le_refl _ | (simp; done) | (simp; omega)) _))))
  rintro e W3 ⟨Ay2, cy2, Fy2, rfl, o_y2, Ny2, hb_⟩
  clear k_Ba1_0
  have Iy2 : ∀ f ∈ Fy2, W2.heap.size + 0 ≤ f ∧ f < W3.heap.size := fun f hf => ⟨Nat.le_trans (by first | (simp; done) | (simp; omega)) (Ny2.2 f hf), (tBy).lt o_y2 f hf⟩
  have Dy2 := Ny2.1
  clear Ny2
  have hs3 : Below W2.heap.size W2 W3 := bel_trans (by repeat (first | (with_reducible exact Below.refl _ _) | (with_reducible assumption) | (with_reducible refine bel_alloc ?_ _) | (with_reducible refine bel_drew ?_) | (with_reducible refine below_drewN ?_ _) | (with_reducible refine bel_put ?_ (by first | exact Nat.le_refl _ | (simp; done) | (simp; omega)) _))) hb_
  have z3 : W2.heap.size + 0 ≤ W3.heap.size := by have := hb_.size; simpa using this
  have hB3 : Below w.heap.size w W3 := bel_trans hB2 hs3
  replace Ba1 := Ba1.below hs3 Ba1.size
  replace o_y1 := Ty.below (t := tCell) o_y1 hs3
  have k_Ba1_0 : W3.cell? ⟨w.heap.size, 0, none⟩ = some (.slice Aa10 na10 ca10) := Ba1.cell 0
  clear hb_
  go_wp2_with fail
  refine (s_PeelQ w0 ((tCell).reach ((tCell).read o_y1) ?hB) (by omega) ((tBy).reach ((tBy).read o_y2) ?hB) (by omega)).mono ?_
  all_goals try (case hB => exact (by repeat (first | (with_reducible exact Below.refl _ _) | (with_reducible assumption) | (with_reducible refine bel_alloc ?_ _) | (with_reducible refine bel_drew ?_) | (with_reducible refine below_drewN ?_ _) | (with_reducible refine bel_put ?_ (by first | exact Nat.le_refl _ | (simp; done) | (simp; omega)) _))))
  rintro e W4 ⟨css0, rfl, r_s0, hb_⟩
  clear k_Ba1_0
  clear o_y1 Iy1 Dy1
  clear o_y2 Iy2 Dy2
  rw [HR0.out] at r_s0
  rw [HR1.out]
  obtain ⟨As03, ns03, cs03, As04, ns04, cs04, rfl, -, -, -, -, -, -, -, -, -, -, -⟩ := openPeeled r_s0
  have hs4 : Below W3.heap.size W3 W4 := bel_trans (by repeat (first | (with_reducible exact Below.refl _ _) | (with_reducible assumption) | (with_reducible refine bel_alloc ?_ _) | (with_reducible refine bel_drew ?_) | (with_reducible refine below_drewN ?_ _) | (with_reducible refine bel_put ?_ (by first | exact Nat.le_refl _ | (simp; done) | (simp; omega)) _))) hb_
  have z4 : W3.heap.size + 0 ≤ W4.heap.size := by have := hb_.size; simpa using this
  have hB4 : Below w.heap.size w W4 := bel_trans hB3 hs4
  replace Ba1 := Ba1.below hs4 Ba1.size
  have k_Ba1_0 : W4.cell? ⟨w.heap.size, 0, none⟩ = some (.slice Aa10 na10 ca10) := Ba1.cell 0
  clear hb_
  have d_Ba1_0 : (W4.alloc (.cells #[.int .i64 (r0.1), .int .i64 (r0.2.1), .int .i64 (r0.2.2.1), .slice As03 ns03 cs03, .slice As04 ns04 cs04] 28)).cell? ⟨w.heap.size, 0, none⟩ = some (.slice Aa10 na10 ca10) := (Ba1.alloc _).cell 0
  go_wp2_with fail
  refine (o_toCell ((tCell).reach ((tCell).reach h1 hB4) ?hB) (by omega)).mono ?_
  all_goals try (case hB => exact (by repeat (first | (with_reducible exact Below.refl _ _) | (with_reducible assumption) | (with_reducible refine bel_alloc ?_ _) | (with_reducible refine bel_drew ?_) | (with_reducible refine below_drewN ?_ _) | (with_reducible refine bel_put ?_ (by first | exact Nat.le_refl _ | (simp; done) | (simp; omega)) _))))
  rintro e W5 ⟨csx1, Fx1, rfl, o_x1, Nx1, hb_⟩
  clear d_Ba1_0
  clear k_Ba1_0
  have Ix1 : ∀ f ∈ Fx1, W4.heap.size + 1 ≤ f ∧ f < W5.heap.size := fun f hf => ⟨Nat.le_trans (by first | (simp; done) | (simp; omega)) (Nx1.2 f hf), (tCell).lt o_x1 f hf⟩
  have Dx1 := Nx1.1
  clear Nx1
  obtain ⟨Ax10, cx10, Fx10, rfl, -, -, -, -⟩ := openOCell o_x1
  have hs5 : Below W4.heap.size W4 W5 := bel_trans (by repeat (first | (with_reducible exact Below.refl _ _) | (with_reducible assumption) | (with_reducible refine bel_alloc ?_ _) | (with_reducible refine bel_drew ?_) | (with_reducible refine below_drewN ?_ _) | (with_reducible refine bel_put ?_ (by first | exact Nat.le_refl _ | (simp; done) | (simp; omega)) _))) hb_
  have z5 : W4.heap.size + 1 ≤ W5.heap.size := by have := hb_.size; simpa using this
  have hB5 : Below w.heap.size w W5 := bel_trans hB4 hs5
  replace Ba1 := Ba1.below hs5 Ba1.size
  have Bs0 : Box W5 (W4.heap.size) 28 #[.int .i64 (r0.1), .int .i64 (r0.2.1), .int .i64 (r0.2.2.1), .slice As03 ns03 cs03, .slice As04 ns04 cs04] := Box.below (Box.new _ _ _) hb_ (by first | (simp; done) | (simp; omega))
  replace r_s0 := (tPeeled).keep r_s0 (fun b hb => hs5.block b (Nat.lt_of_lt_of_le hb (by omega)))
  have k_Ba1_0 : W5.cell? ⟨w.heap.size, 0, none⟩ = some (.slice Aa10 na10 ca10) := Ba1.cell 0
  have k_Bs0_0 : W5.cell? ⟨W4.heap.size, 0, none⟩ = some (.int .i64 (r0.1)) := Bs0.cell 0
  have k_Bs0_1 : W5.cell? ⟨W4.heap.size, 1, none⟩ = some (.int .i64 (r0.2.1)) := Bs0.cell 1
  have k_Bs0_2 : W5.cell? ⟨W4.heap.size, 2, none⟩ = some (.int .i64 (r0.2.2.1)) := Bs0.cell 2
  have k_Bs0_3 : W5.cell? ⟨W4.heap.size, 3, none⟩ = some (.slice As03 ns03 cs03) := Bs0.cell 3
  have k_Bs0_4 : W5.cell? ⟨W4.heap.size, 4, none⟩ = some (.slice As04 ns04 cs04) := Bs0.cell 4
  clear hb_
  have d_Ba1_0 : (W5.alloc (.cells #[.slice Ax10 (p1).length cx10] 26)).cell? ⟨w.heap.size, 0, none⟩ = some (.slice Aa10 na10 ca10) := (Ba1.alloc _).cell 0
  have d_Bs0_0 : (W5.alloc (.cells #[.slice Ax10 (p1).length cx10] 26)).cell? ⟨W4.heap.size, 0, none⟩ = some (.int .i64 (r0.1)) := (Bs0.alloc _).cell 0
  have d_Bs0_1 : (W5.alloc (.cells #[.slice Ax10 (p1).length cx10] 26)).cell? ⟨W4.heap.size, 1, none⟩ = some (.int .i64 (r0.2.1)) := (Bs0.alloc _).cell 1
  have d_Bs0_2 : (W5.alloc (.cells #[.slice Ax10 (p1).length cx10] 26)).cell? ⟨W4.heap.size, 2, none⟩ = some (.int .i64 (r0.2.2.1)) := (Bs0.alloc _).cell 2
  have d_Bs0_3 : (W5.alloc (.cells #[.slice Ax10 (p1).length cx10] 26)).cell? ⟨W4.heap.size, 3, none⟩ = some (.slice As03 ns03 cs03) := (Bs0.alloc _).cell 3
  have d_Bs0_4 : (W5.alloc (.cells #[.slice Ax10 (p1).length cx10] 26)).cell? ⟨W4.heap.size, 4, none⟩ = some (.slice As04 ns04 cs04) := (Bs0.alloc _).cell 4
  go_wp2_with fail
  refine (o_toByteS ((tBy).reach ((tBy).reach h2 hB5) ?hB) (by omega)).mono ?_
  all_goals try (case hB => exact (by repeat (first | (with_reducible exact Below.refl _ _) | (with_reducible assumption) | (with_reducible refine bel_alloc ?_ _) | (with_reducible refine bel_drew ?_) | (with_reducible refine below_drewN ?_ _) | (with_reducible refine bel_put ?_ (by first | exact Nat.le_refl _ | (simp; done) | (simp; omega)) _))))
  rintro e W6 ⟨Ax2, cx2, Fx2, rfl, o_x2, Nx2, hb_⟩
  clear d_Ba1_0 d_Bs0_0 d_Bs0_1 d_Bs0_2 d_Bs0_3 d_Bs0_4
  clear k_Ba1_0
  clear k_Bs0_0 k_Bs0_1 k_Bs0_2 k_Bs0_3 k_Bs0_4
  have Ix2 : ∀ f ∈ Fx2, W5.heap.size + 1 ≤ f ∧ f < W6.heap.size := fun f hf => ⟨Nat.le_trans (by first | (simp; done) | (simp; omega)) (Nx2.2 f hf), (tBy).lt o_x2 f hf⟩
  have Dx2 := Nx2.1
  clear Nx2
  have hs6 : Below W5.heap.size W5 W6 := bel_trans (by repeat (first | (with_reducible exact Below.refl _ _) | (with_reducible assumption) | (with_reducible refine bel_alloc ?_ _) | (with_reducible refine bel_drew ?_) | (with_reducible refine below_drewN ?_ _) | (with_reducible refine bel_put ?_ (by first | exact Nat.le_refl _ | (simp; done) | (simp; omega)) _))) hb_
  have z6 : W5.heap.size + 1 ≤ W6.heap.size := by have := hb_.size; simpa using this
  have hB6 : Below w.heap.size w W6 := bel_trans hB5 hs6
  replace Ba1 := Ba1.below hs6 Ba1.size
  replace Bs0 := Bs0.below hs6 Bs0.size
  have Bx1 : Box W6 (W5.heap.size) 26 #[.slice Ax10 (p1).length cx10] := Box.below (Box.new _ _ _) hb_ (by first | (simp; done) | (simp; omega))
  replace o_x1 := Ty.below (t := tCell) o_x1 hs6
  replace r_s0 := (tPeeled).keep r_s0 (fun b hb => hs6.block b (Nat.lt_of_lt_of_le hb (by omega)))
  have k_Ba1_0 : W6.cell? ⟨w.heap.size, 0, none⟩ = some (.slice Aa10 na10 ca10) := Ba1.cell 0
  have k_Bs0_0 : W6.cell? ⟨W4.heap.size, 0, none⟩ = some (.int .i64 (r0.1)) := Bs0.cell 0
  have k_Bs0_1 : W6.cell? ⟨W4.heap.size, 1, none⟩ = some (.int .i64 (r0.2.1)) := Bs0.cell 1
  have k_Bs0_2 : W6.cell? ⟨W4.heap.size, 2, none⟩ = some (.int .i64 (r0.2.2.1)) := Bs0.cell 2
  have k_Bs0_3 : W6.cell? ⟨W4.heap.size, 3, none⟩ = some (.slice As03 ns03 cs03) := Bs0.cell 3
  have k_Bs0_4 : W6.cell? ⟨W4.heap.size, 4, none⟩ = some (.slice As04 ns04 cs04) := Bs0.cell 4
  have k_Bx1_0 : W6.cell? ⟨W5.heap.size, 0, none⟩ = some (.slice Ax10 (p1).length cx10) := Bx1.cell 0
  clear hb_
  go_wp2_with fail
  refine (i_PeelR w0 ((tCell).reach ((tCell).read o_x1) ?hB) (by omega) ((tBy).reach ((tBy).read o_x2) ?hB) (by omega)).mono ?_
  all_goals try (case hB => exact (by repeat (first | (with_reducible exact Below.refl _ _) | (with_reducible assumption) | (with_reducible refine bel_alloc ?_ _) | (with_reducible refine bel_drew ?_) | (with_reducible refine below_drewN ?_ _) | (with_reducible refine bel_put ?_ (by first | exact Nat.le_refl _ | (simp; done) | (simp; omega)) _))))
  rintro e W7 ⟨csg0, Fg0, rfl, o_g0, Ng, hb_⟩
  clear k_Ba1_0
  clear k_Bs0_0 k_Bs0_1 k_Bs0_2 k_Bs0_3 k_Bs0_4
  clear k_Bx1_0
  rw [HR0.out] at o_g0
  rw [HR1.out]
  obtain ⟨Ag03, cg03, Fg03, Ag04, cg04, Fg04, rfl, -, -, -, -, -, -, -, -, -, -⟩ := openOPeeled o_g0
  have Ig0 : ∀ f ∈ Fg0, W6.heap.size + 0 ≤ f ∧ f < W7.heap.size := fun f hf => ⟨Nat.le_trans (by first | (simp; done) | (simp; omega)) (Ng.2 f (by simp [hf])), (tPeeled).lt o_g0 f hf⟩
  have Dg0 := Ng.1
  clear Ng
  have hs7 : Below W6.heap.size W6 W7 := bel_trans (by repeat (first | (with_reducible exact Below.refl _ _) | (with_reducible assumption) | (with_reducible refine bel_alloc ?_ _) | (with_reducible refine bel_drew ?_) | (with_reducible refine below_drewN ?_ _) | (with_reducible refine bel_put ?_ (by first | exact Nat.le_refl _ | (simp; done) | (simp; omega)) _))) hb_
  have z7 : W6.heap.size + 0 ≤ W7.heap.size := by have := hb_.size; simpa using this
  have hB7 : Below w.heap.size w W7 := bel_trans hB6 hs7
  replace Ba1 := Ba1.below hs7 Ba1.size
  replace Bs0 := Bs0.below hs7 Bs0.size
  replace Bx1 := Bx1.below hs7 Bx1.size
  replace o_x1 := Ty.below (t := tCell) o_x1 hs7
  replace o_x2 := Ty.below (t := tBy) o_x2 hs7
  replace r_s0 := (tPeeled).keep r_s0 (fun b hb => hs7.block b (Nat.lt_of_lt_of_le hb (by omega)))
  have k_Ba1_0 : W7.cell? ⟨w.heap.size, 0, none⟩ = some (.slice Aa10 na10 ca10) := Ba1.cell 0
  have k_Bs0_0 : W7.cell? ⟨W4.heap.size, 0, none⟩ = some (.int .i64 (r0.1)) := Bs0.cell 0
  have k_Bs0_1 : W7.cell? ⟨W4.heap.size, 1, none⟩ = some (.int .i64 (r0.2.1)) := Bs0.cell 1
  have k_Bs0_2 : W7.cell? ⟨W4.heap.size, 2, none⟩ = some (.int .i64 (r0.2.2.1)) := Bs0.cell 2
  have k_Bs0_3 : W7.cell? ⟨W4.heap.size, 3, none⟩ = some (.slice As03 ns03 cs03) := Bs0.cell 3
  have k_Bs0_4 : W7.cell? ⟨W4.heap.size, 4, none⟩ = some (.slice As04 ns04 cs04) := Bs0.cell 4
  have k_Bx1_0 : W7.cell? ⟨W5.heap.size, 0, none⟩ = some (.slice Ax10 (p1).length cx10) := Bx1.cell 0
  clear hb_
  have d_Ba1_0 : (W7.alloc (.cells #[.int .i64 (r0.1), .int .i64 (r0.2.1), .int .i64 (r0.2.2.1), .slice Ag03 (r0.2.2.2.1).length cg03, .slice Ag04 (r0.2.2.2.2).length cg04] 28)).cell? ⟨w.heap.size, 0, none⟩ = some (.slice Aa10 na10 ca10) := (Ba1.alloc _).cell 0
  have d_Bs0_0 : (W7.alloc (.cells #[.int .i64 (r0.1), .int .i64 (r0.2.1), .int .i64 (r0.2.2.1), .slice Ag03 (r0.2.2.2.1).length cg03, .slice Ag04 (r0.2.2.2.2).length cg04] 28)).cell? ⟨W4.heap.size, 0, none⟩ = some (.int .i64 (r0.1)) := (Bs0.alloc _).cell 0
  have d_Bs0_1 : (W7.alloc (.cells #[.int .i64 (r0.1), .int .i64 (r0.2.1), .int .i64 (r0.2.2.1), .slice Ag03 (r0.2.2.2.1).length cg03, .slice Ag04 (r0.2.2.2.2).length cg04] 28)).cell? ⟨W4.heap.size, 1, none⟩ = some (.int .i64 (r0.2.1)) := (Bs0.alloc _).cell 1
  have d_Bs0_2 : (W7.alloc (.cells #[.int .i64 (r0.1), .int .i64 (r0.2.1), .int .i64 (r0.2.2.1), .slice Ag03 (r0.2.2.2.1).length cg03, .slice Ag04 (r0.2.2.2.2).length cg04] 28)).cell? ⟨W4.heap.size, 2, none⟩ = some (.int .i64 (r0.2.2.1)) := (Bs0.alloc _).cell 2
  have d_Bs0_3 : (W7.alloc (.cells #[.int .i64 (r0.1), .int .i64 (r0.2.1), .int .i64 (r0.2.2.1), .slice Ag03 (r0.2.2.2.1).length cg03, .slice Ag04 (r0.2.2.2.2).length cg04] 28)).cell? ⟨W4.heap.size, 3, none⟩ = some (.slice As03 ns03 cs03) := (Bs0.alloc _).cell 3
  have d_Bs0_4 : (W7.alloc (.cells #[.int .i64 (r0.1), .int .i64 (r0.2.1), .int .i64 (r0.2.2.1), .slice Ag03 (r0.2.2.2.1).length cg03, .slice Ag04 (r0.2.2.2.2).length cg04] 28)).cell? ⟨W4.heap.size, 4, none⟩ = some (.slice As04 ns04 cs04) := (Bs0.alloc _).cell 4
  have d_Bx1_0 : (W7.alloc (.cells #[.int .i64 (r0.1), .int .i64 (r0.2.1), .int .i64 (r0.2.2.1), .slice Ag03 (r0.2.2.2.1).length cg03, .slice Ag04 (r0.2.2.2.2).length cg04] 28)).cell? ⟨W5.heap.size, 0, none⟩ = some (.slice Ax10 (p1).length cx10) := (Bx1.alloc _).cell 0
  go_wp2_with fail
  refine (o_eqPeeled ((tPeeled).reach ((tPeeled).read o_g0) ?hB) ((tPeeled).reach ((tPeeled).up r_s0 (by omega : W4.heap.size ≤ W7.heap.size)) ?hB)).mono ?_
  all_goals try (case hB => exact (by repeat (first | (with_reducible exact Below.refl _ _) | (with_reducible assumption) | (with_reducible refine bel_alloc ?_ _) | (with_reducible refine bel_drew ?_) | (with_reducible refine below_drewN ?_ _) | (with_reducible refine bel_put ?_ (by first | exact Nat.le_refl _ | (simp; done) | (simp; omega)) _))))
  rintro e W8 ⟨rfl, hb_⟩
  clear d_Ba1_0 d_Bs0_0 d_Bs0_1 d_Bs0_2 d_Bs0_3 d_Bs0_4 d_Bx1_0
  clear k_Ba1_0
  clear k_Bs0_0 k_Bs0_1 k_Bs0_2 k_Bs0_3 k_Bs0_4
  clear k_Bx1_0
  have hs8 : Below W7.heap.size W7 W8 := bel_trans (by repeat (first | (with_reducible exact Below.refl _ _) | (with_reducible assumption) | (with_reducible refine bel_alloc ?_ _) | (with_reducible refine bel_drew ?_) | (with_reducible refine below_drewN ?_ _) | (with_reducible refine bel_put ?_ (by first | exact Nat.le_refl _ | (simp; done) | (simp; omega)) _))) hb_
  have z8 : W7.heap.size + 1 ≤ W8.heap.size := by have := hb_.size; simpa using this
  have hB8 : Below w.heap.size w W8 := bel_trans hB7 hs8
  replace Ba1 := Ba1.below hs8 Ba1.size
  replace Bs0 := Bs0.below hs8 Bs0.size
  replace Bx1 := Bx1.below hs8 Bx1.size
  have Bg0 : Box W8 (W7.heap.size) 28 #[.int .i64 (r0.1), .int .i64 (r0.2.1), .int .i64 (r0.2.2.1), .slice Ag03 (r0.2.2.2.1).length cg03, .slice Ag04 (r0.2.2.2.2).length cg04] := Box.below (Box.new _ _ _) hb_ (by first | (simp; done) | (simp; omega))
  replace o_x1 := Ty.below (t := tCell) o_x1 hs8
  replace o_x2 := Ty.below (t := tBy) o_x2 hs8
  replace o_g0 := Ty.below (t := tPeeled) o_g0 hs8
  replace r_s0 := (tPeeled).keep r_s0 (fun b hb => hs8.block b (Nat.lt_of_lt_of_le hb (by omega)))
  have k_Ba1_0 : W8.cell? ⟨w.heap.size, 0, none⟩ = some (.slice Aa10 na10 ca10) := Ba1.cell 0
  have k_Bs0_0 : W8.cell? ⟨W4.heap.size, 0, none⟩ = some (.int .i64 (r0.1)) := Bs0.cell 0
  have k_Bs0_1 : W8.cell? ⟨W4.heap.size, 1, none⟩ = some (.int .i64 (r0.2.1)) := Bs0.cell 1
  have k_Bs0_2 : W8.cell? ⟨W4.heap.size, 2, none⟩ = some (.int .i64 (r0.2.2.1)) := Bs0.cell 2
  have k_Bs0_3 : W8.cell? ⟨W4.heap.size, 3, none⟩ = some (.slice As03 ns03 cs03) := Bs0.cell 3
  have k_Bs0_4 : W8.cell? ⟨W4.heap.size, 4, none⟩ = some (.slice As04 ns04 cs04) := Bs0.cell 4
  have k_Bx1_0 : W8.cell? ⟨W5.heap.size, 0, none⟩ = some (.slice Ax10 (p1).length cx10) := Bx1.cell 0
  have k_Bg0_0 : W8.cell? ⟨W7.heap.size, 0, none⟩ = some (.int .i64 (r0.1)) := Bg0.cell 0
  have k_Bg0_1 : W8.cell? ⟨W7.heap.size, 1, none⟩ = some (.int .i64 (r0.2.1)) := Bg0.cell 1
  have k_Bg0_2 : W8.cell? ⟨W7.heap.size, 2, none⟩ = some (.int .i64 (r0.2.2.1)) := Bg0.cell 2
  have k_Bg0_3 : W8.cell? ⟨W7.heap.size, 3, none⟩ = some (.slice Ag03 (r0.2.2.2.1).length cg03) := Bg0.cell 3
  have k_Bg0_4 : W8.cell? ⟨W7.heap.size, 4, none⟩ = some (.slice Ag04 (r0.2.2.2.2).length cg04) := Bg0.cell 4
  clear hb_
  go_wp2_with fail
  go_region_held3 (fun w' => w'.cell? ⟨w.heap.size, 0, none⟩ = some (.slice Aa10 na10 ca10) ∧ w'.cell? ⟨W5.heap.size, 0, none⟩ = some (.slice Ax10 (p1).length cx10)) (first | (exact ⟨k_Ba1_0, k_Bx1_0⟩) | (exact ⟨cell_bel hs10 k_Ba1_0, cell_bel hs10 k_Bx1_0⟩) | (exact ⟨cell_bel hs9 k_Ba1_0, cell_bel hs9 k_Bx1_0⟩) | go_keep)
    (first
      | (go_at_call 12; refine (o_toCell ((tCell).reach ((tCell).reach h1 hB8) (by repeat (first | (with_reducible exact Below.refl _ _) | (with_reducible assumption) | (with_reducible refine bel_alloc ?_ _) | (with_reducible refine bel_drew ?_) | (with_reducible refine below_drewN ?_ _) | (with_reducible refine bel_put ?_ (by first | exact Nat.le_refl _ | (simp; done) | (simp; omega)) _)))) (by omega)).mono ?_; rintro e W9 ⟨csv, Fv, rfl, o_v, Nv, hb_⟩; have hs9 : Below W8.heap.size W8 W9 := bel_trans (by repeat (first | (with_reducible exact Below.refl _ _) | (with_reducible assumption) | (with_reducible refine bel_alloc ?_ _) | (with_reducible refine bel_drew ?_) | (with_reducible refine below_drewN ?_ _) | (with_reducible refine bel_put ?_ (by first | exact Nat.le_refl _ | (simp; done) | (simp; omega)) _))) hb_)
      | (go_at_call 16; refine (o_eqCell ((tCell).reach ((tCell).reach ((tCell).read o_x1) hs9) (by repeat (first | (with_reducible exact Below.refl _ _) | (with_reducible assumption) | (with_reducible refine bel_alloc ?_ _) | (with_reducible refine bel_drew ?_) | (with_reducible refine below_drewN ?_ _) | (with_reducible refine bel_put ?_ (by first | exact Nat.le_refl _ | (simp; done) | (simp; omega)) _)))) ((tCell).reach ((tCell).read o_v) (by repeat (first | (with_reducible exact Below.refl _ _) | (with_reducible assumption) | (with_reducible refine bel_alloc ?_ _) | (with_reducible refine bel_drew ?_) | (with_reducible refine below_drewN ?_ _) | (with_reducible refine bel_put ?_ (by first | exact Nat.le_refl _ | (simp; done) | (simp; omega)) _))))).mono ?_; rintro e W10 ⟨rfl, hb2_⟩; have hs10' : Below W8.heap.size W8 W10 := bel_trans hs9 (bel_trans (by repeat (first | (with_reducible exact Below.refl _ _) | (with_reducible assumption) | (with_reducible refine bel_alloc ?_ _) | (with_reducible refine bel_drew ?_) | (with_reducible refine below_drewN ?_ _) | (with_reducible refine bel_put ?_ (by first | exact Nat.le_refl _ | (simp; done) | (simp; omega)) _))) hb2_); have hs10 := hs10'))
  clear o_v Nv hb_ hb2_ hs9
  clear k_Ba1_0
  clear k_Bs0_0 k_Bs0_1 k_Bs0_2 k_Bs0_3 k_Bs0_4
  clear k_Bx1_0
  clear k_Bg0_0 k_Bg0_1 k_Bg0_2 k_Bg0_3 k_Bg0_4
  have z10 : W8.heap.size + 0 ≤ W10.heap.size := hs10'.size
  have hB10 : Below w.heap.size w W10 := bel_trans hB8 hs10'
  replace Ba1 := Ba1.below hs10' Ba1.size
  replace Bs0 := Bs0.below hs10' Bs0.size
  replace Bx1 := Bx1.below hs10' Bx1.size
  replace Bg0 := Bg0.below hs10' Bg0.size
  replace o_x1 := Ty.below (t := tCell) o_x1 hs10'
  replace o_x2 := Ty.below (t := tBy) o_x2 hs10'
  replace o_g0 := Ty.below (t := tPeeled) o_g0 hs10'
  replace r_s0 := (tPeeled).keep r_s0 (fun b hb => hs10'.block b (Nat.lt_of_lt_of_le hb (by omega)))
  have k_Ba1_0 : W10.cell? ⟨w.heap.size, 0, none⟩ = some (.slice Aa10 na10 ca10) := Ba1.cell 0
  have k_Bs0_0 : W10.cell? ⟨W4.heap.size, 0, none⟩ = some (.int .i64 (r0.1)) := Bs0.cell 0
  have k_Bs0_1 : W10.cell? ⟨W4.heap.size, 1, none⟩ = some (.int .i64 (r0.2.1)) := Bs0.cell 1
  have k_Bs0_2 : W10.cell? ⟨W4.heap.size, 2, none⟩ = some (.int .i64 (r0.2.2.1)) := Bs0.cell 2
  have k_Bs0_3 : W10.cell? ⟨W4.heap.size, 3, none⟩ = some (.slice As03 ns03 cs03) := Bs0.cell 3
  have k_Bs0_4 : W10.cell? ⟨W4.heap.size, 4, none⟩ = some (.slice As04 ns04 cs04) := Bs0.cell 4
  have k_Bx1_0 : W10.cell? ⟨W5.heap.size, 0, none⟩ = some (.slice Ax10 (p1).length cx10) := Bx1.cell 0
  have k_Bg0_0 : W10.cell? ⟨W7.heap.size, 0, none⟩ = some (.int .i64 (r0.1)) := Bg0.cell 0
  have k_Bg0_1 : W10.cell? ⟨W7.heap.size, 1, none⟩ = some (.int .i64 (r0.2.1)) := Bg0.cell 1
  have k_Bg0_2 : W10.cell? ⟨W7.heap.size, 2, none⟩ = some (.int .i64 (r0.2.2.1)) := Bg0.cell 2
  have k_Bg0_3 : W10.cell? ⟨W7.heap.size, 3, none⟩ = some (.slice Ag03 (r0.2.2.2.1).length cg03) := Bg0.cell 3
  have k_Bg0_4 : W10.cell? ⟨W7.heap.size, 4, none⟩ = some (.slice Ag04 (r0.2.2.2.2).length cg04) := Bg0.cell 4
  go_wp2_with fail
  refine (o_toByteS ((tBy).reach ((tBy).reach h2 hB10) ?hB) (by omega)).mono ?_
  all_goals try (case hB => exact (by repeat (first | (with_reducible exact Below.refl _ _) | (with_reducible assumption) | (with_reducible refine bel_alloc ?_ _) | (with_reducible refine bel_drew ?_) | (with_reducible refine below_drewN ?_ _) | (with_reducible refine bel_put ?_ (by first | exact Nat.le_refl _ | (simp; done) | (simp; omega)) _))))
  rintro e W11 ⟨Av, cv, Fv, rfl, o_v, Nv, hb_⟩
  clear k_Ba1_0
  clear k_Bs0_0 k_Bs0_1 k_Bs0_2 k_Bs0_3 k_Bs0_4
  clear k_Bx1_0
  clear k_Bg0_0 k_Bg0_1 k_Bg0_2 k_Bg0_3 k_Bg0_4
  have Iv : ∀ f ∈ Fv, W10.heap.size + 0 ≤ f ∧ f < W11.heap.size := fun f hf => ⟨Nat.le_trans (by first | (simp; done) | (simp; omega)) (Nv.2 f hf), (tBy).lt o_v f hf⟩
  have Dv := Nv.1
  clear Nv
  have hs11 : Below W10.heap.size W10 W11 := bel_trans (by repeat (first | (with_reducible exact Below.refl _ _) | (with_reducible assumption) | (with_reducible refine bel_alloc ?_ _) | (with_reducible refine bel_drew ?_) | (with_reducible refine below_drewN ?_ _) | (with_reducible refine bel_put ?_ (by first | exact Nat.le_refl _ | (simp; done) | (simp; omega)) _))) hb_
  have z11 : W10.heap.size + 0 ≤ W11.heap.size := by have := hb_.size; simpa using this
  have hB11 : Below w.heap.size w W11 := bel_trans hB10 hs11
  replace Ba1 := Ba1.below hs11 Ba1.size
  replace Bs0 := Bs0.below hs11 Bs0.size
  replace Bx1 := Bx1.below hs11 Bx1.size
  replace Bg0 := Bg0.below hs11 Bg0.size
  replace o_x1 := Ty.below (t := tCell) o_x1 hs11
  replace o_x2 := Ty.below (t := tBy) o_x2 hs11
  replace o_g0 := Ty.below (t := tPeeled) o_g0 hs11
  replace r_s0 := (tPeeled).keep r_s0 (fun b hb => hs11.block b (Nat.lt_of_lt_of_le hb (by omega)))
  have k_Ba1_0 : W11.cell? ⟨w.heap.size, 0, none⟩ = some (.slice Aa10 na10 ca10) := Ba1.cell 0
  have k_Bs0_0 : W11.cell? ⟨W4.heap.size, 0, none⟩ = some (.int .i64 (r0.1)) := Bs0.cell 0
  have k_Bs0_1 : W11.cell? ⟨W4.heap.size, 1, none⟩ = some (.int .i64 (r0.2.1)) := Bs0.cell 1
  have k_Bs0_2 : W11.cell? ⟨W4.heap.size, 2, none⟩ = some (.int .i64 (r0.2.2.1)) := Bs0.cell 2
  have k_Bs0_3 : W11.cell? ⟨W4.heap.size, 3, none⟩ = some (.slice As03 ns03 cs03) := Bs0.cell 3
  have k_Bs0_4 : W11.cell? ⟨W4.heap.size, 4, none⟩ = some (.slice As04 ns04 cs04) := Bs0.cell 4
  have k_Bx1_0 : W11.cell? ⟨W5.heap.size, 0, none⟩ = some (.slice Ax10 (p1).length cx10) := Bx1.cell 0
  have k_Bg0_0 : W11.cell? ⟨W7.heap.size, 0, none⟩ = some (.int .i64 (r0.1)) := Bg0.cell 0
  have k_Bg0_1 : W11.cell? ⟨W7.heap.size, 1, none⟩ = some (.int .i64 (r0.2.1)) := Bg0.cell 1
  have k_Bg0_2 : W11.cell? ⟨W7.heap.size, 2, none⟩ = some (.int .i64 (r0.2.2.1)) := Bg0.cell 2
  have k_Bg0_3 : W11.cell? ⟨W7.heap.size, 3, none⟩ = some (.slice Ag03 (r0.2.2.2.1).length cg03) := Bg0.cell 3
  have k_Bg0_4 : W11.cell? ⟨W7.heap.size, 4, none⟩ = some (.slice Ag04 (r0.2.2.2.2).length cg04) := Bg0.cell 4
  clear hb_
  go_wp2_with fail
  refine (o_eqByteS ((tBy).reach ((tBy).read o_x2) ?hB) ((tBy).reach ((tBy).read o_v) ?hB)).mono ?_
  all_goals try (case hB => exact (by repeat (first | (with_reducible exact Below.refl _ _) | (with_reducible assumption) | (with_reducible refine bel_alloc ?_ _) | (with_reducible refine bel_drew ?_) | (with_reducible refine below_drewN ?_ _) | (with_reducible refine bel_put ?_ (by first | exact Nat.le_refl _ | (simp; done) | (simp; omega)) _))))
  rintro e W12 ⟨rfl, hb_⟩
  clear k_Ba1_0
  clear k_Bs0_0 k_Bs0_1 k_Bs0_2 k_Bs0_3 k_Bs0_4
  clear k_Bx1_0
  clear k_Bg0_0 k_Bg0_1 k_Bg0_2 k_Bg0_3 k_Bg0_4
  clear o_v Iv Dv
  have hs12 : Below W11.heap.size W11 W12 := bel_trans (by repeat (first | (with_reducible exact Below.refl _ _) | (with_reducible assumption) | (with_reducible refine bel_alloc ?_ _) | (with_reducible refine bel_drew ?_) | (with_reducible refine below_drewN ?_ _) | (with_reducible refine bel_put ?_ (by first | exact Nat.le_refl _ | (simp; done) | (simp; omega)) _))) hb_
  have z12 : W11.heap.size + 0 ≤ W12.heap.size := by have := hb_.size; simpa using this
  have hB12 : Below w.heap.size w W12 := bel_trans hB11 hs12
  replace Ba1 := Ba1.below hs12 Ba1.size
  replace Bs0 := Bs0.below hs12 Bs0.size
  replace Bx1 := Bx1.below hs12 Bx1.size
  replace Bg0 := Bg0.below hs12 Bg0.size
  replace o_x1 := Ty.below (t := tCell) o_x1 hs12
  replace o_x2 := Ty.below (t := tBy) o_x2 hs12
  replace o_g0 := Ty.below (t := tPeeled) o_g0 hs12
  replace r_s0 := (tPeeled).keep r_s0 (fun b hb => hs12.block b (Nat.lt_of_lt_of_le hb (by omega)))
  have k_Ba1_0 : W12.cell? ⟨w.heap.size, 0, none⟩ = some (.slice Aa10 na10 ca10) := Ba1.cell 0
  have k_Bs0_0 : W12.cell? ⟨W4.heap.size, 0, none⟩ = some (.int .i64 (r0.1)) := Bs0.cell 0
  have k_Bs0_1 : W12.cell? ⟨W4.heap.size, 1, none⟩ = some (.int .i64 (r0.2.1)) := Bs0.cell 1
  have k_Bs0_2 : W12.cell? ⟨W4.heap.size, 2, none⟩ = some (.int .i64 (r0.2.2.1)) := Bs0.cell 2
  have k_Bs0_3 : W12.cell? ⟨W4.heap.size, 3, none⟩ = some (.slice As03 ns03 cs03) := Bs0.cell 3
  have k_Bs0_4 : W12.cell? ⟨W4.heap.size, 4, none⟩ = some (.slice As04 ns04 cs04) := Bs0.cell 4
  have k_Bx1_0 : W12.cell? ⟨W5.heap.size, 0, none⟩ = some (.slice Ax10 (p1).length cx10) := Bx1.cell 0
  have k_Bg0_0 : W12.cell? ⟨W7.heap.size, 0, none⟩ = some (.int .i64 (r0.1)) := Bg0.cell 0
  have k_Bg0_1 : W12.cell? ⟨W7.heap.size, 1, none⟩ = some (.int .i64 (r0.2.1)) := Bg0.cell 1
  have k_Bg0_2 : W12.cell? ⟨W7.heap.size, 2, none⟩ = some (.int .i64 (r0.2.2.1)) := Bg0.cell 2
  have k_Bg0_3 : W12.cell? ⟨W7.heap.size, 3, none⟩ = some (.slice Ag03 (r0.2.2.2.1).length cg03) := Bg0.cell 3
  have k_Bg0_4 : W12.cell? ⟨W7.heap.size, 4, none⟩ = some (.slice Ag04 (r0.2.2.2.2).length cg04) := Bg0.cell 4
  clear hb_
  go_wp2_with fail
  refine (o_markCell (1) o_x1 Dx1 (by omega) (by omega)).mono ?_
  rintro e W13 ⟨rfl, om_, hG_⟩
  clear k_Ba1_0
  clear k_Bs0_0 k_Bs0_1 k_Bs0_2 k_Bs0_3 k_Bs0_4
  clear k_Bx1_0
  clear k_Bg0_0 k_Bg0_1 k_Bg0_2 k_Bg0_3 k_Bg0_4
  replace o_x1 := om_
  clear om_
  have z13 : W12.heap.size + 0 ≤ W13.heap.size := hG_.size
  have hB13 : Below w.heap.size w W13 := hB12.trans (hG_.below (fun f hf => by have := Ix1 f hf; omega) (by have := hB12.size; omega))
  replace Ba1 := Ba1.same (hG_.block _ Ba1.size (fun hx => by have := Ix1 _ hx; omega))
  replace Bs0 := Bs0.same (hG_.block _ Bs0.size (fun hx => by have := Ix1 _ hx; omega))
  replace Bx1 := Bx1.same (hG_.block _ Bx1.size (fun hx => by have := Ix1 _ hx; omega))
  replace Bg0 := Bg0.same (hG_.block _ Bg0.size (fun hx => by have := Ix1 _ hx; omega))
  replace o_x2 := Ty.only (t := tBy) o_x2 hG_ (fun f hf hx => by have := Ix2 f hf; have := Ix1 f hx; omega)
  replace o_g0 := Ty.only (t := tPeeled) o_g0 hG_ (fun f hf hx => by have := Ig0 f hf; have := Ix1 f hx; omega)
  replace r_s0 := (tPeeled).keep r_s0 (fun b hb => hG_.block b (Nat.lt_of_lt_of_le hb (by omega)) (fun hx => by have := Ix1 b hx; omega))
  have k_Ba1_0 : W13.cell? ⟨w.heap.size, 0, none⟩ = some (.slice Aa10 na10 ca10) := Ba1.cell 0
  have k_Bs0_0 : W13.cell? ⟨W4.heap.size, 0, none⟩ = some (.int .i64 (r0.1)) := Bs0.cell 0
  have k_Bs0_1 : W13.cell? ⟨W4.heap.size, 1, none⟩ = some (.int .i64 (r0.2.1)) := Bs0.cell 1
  have k_Bs0_2 : W13.cell? ⟨W4.heap.size, 2, none⟩ = some (.int .i64 (r0.2.2.1)) := Bs0.cell 2
  have k_Bs0_3 : W13.cell? ⟨W4.heap.size, 3, none⟩ = some (.slice As03 ns03 cs03) := Bs0.cell 3
  have k_Bs0_4 : W13.cell? ⟨W4.heap.size, 4, none⟩ = some (.slice As04 ns04 cs04) := Bs0.cell 4
  have k_Bx1_0 : W13.cell? ⟨W5.heap.size, 0, none⟩ = some (.slice Ax10 (p1).length cx10) := Bx1.cell 0
  have k_Bg0_0 : W13.cell? ⟨W7.heap.size, 0, none⟩ = some (.int .i64 (r0.1)) := Bg0.cell 0
  have k_Bg0_1 : W13.cell? ⟨W7.heap.size, 1, none⟩ = some (.int .i64 (r0.2.1)) := Bg0.cell 1
  have k_Bg0_2 : W13.cell? ⟨W7.heap.size, 2, none⟩ = some (.int .i64 (r0.2.2.1)) := Bg0.cell 2
  have k_Bg0_3 : W13.cell? ⟨W7.heap.size, 3, none⟩ = some (.slice Ag03 (r0.2.2.2.1).length cg03) := Bg0.cell 3
  have k_Bg0_4 : W13.cell? ⟨W7.heap.size, 4, none⟩ = some (.slice Ag04 (r0.2.2.2.2).length cg04) := Bg0.cell 4
  clear hG_
  go_wp2_with fail
  refine (o_markByteS (1 + ((cntCell (p1) : Nat) : Int)) o_x2 (by omega) (by omega)).mono ?_
  rintro e W14 ⟨rfl, om_, hG_⟩
  clear k_Ba1_0
  clear k_Bs0_0 k_Bs0_1 k_Bs0_2 k_Bs0_3 k_Bs0_4
  clear k_Bx1_0
  clear k_Bg0_0 k_Bg0_1 k_Bg0_2 k_Bg0_3 k_Bg0_4
  replace o_x2 := om_
  clear om_
  have z14 : W13.heap.size + 0 ≤ W14.heap.size := hG_.size
  have hB14 : Below w.heap.size w W14 := hB13.trans (hG_.below (fun f hf => by have := Ix2 f hf; omega) (by have := hB13.size; omega))
  replace Ba1 := Ba1.same (hG_.block _ Ba1.size (fun hx => by have := Ix2 _ hx; omega))
  replace Bs0 := Bs0.same (hG_.block _ Bs0.size (fun hx => by have := Ix2 _ hx; omega))
  replace Bx1 := Bx1.same (hG_.block _ Bx1.size (fun hx => by have := Ix2 _ hx; omega))
  replace Bg0 := Bg0.same (hG_.block _ Bg0.size (fun hx => by have := Ix2 _ hx; omega))
  replace o_x1 := Ty.only (t := tCell) o_x1 hG_ (fun f hf hx => by have := Ix1 f hf; have := Ix2 f hx; omega)
  replace o_g0 := Ty.only (t := tPeeled) o_g0 hG_ (fun f hf hx => by have := Ig0 f hf; have := Ix2 f hx; omega)
  replace r_s0 := (tPeeled).keep r_s0 (fun b hb => hG_.block b (Nat.lt_of_lt_of_le hb (by omega)) (fun hx => by have := Ix2 b hx; omega))
  have k_Ba1_0 : W14.cell? ⟨w.heap.size, 0, none⟩ = some (.slice Aa10 na10 ca10) := Ba1.cell 0
  have k_Bs0_0 : W14.cell? ⟨W4.heap.size, 0, none⟩ = some (.int .i64 (r0.1)) := Bs0.cell 0
  have k_Bs0_1 : W14.cell? ⟨W4.heap.size, 1, none⟩ = some (.int .i64 (r0.2.1)) := Bs0.cell 1
  have k_Bs0_2 : W14.cell? ⟨W4.heap.size, 2, none⟩ = some (.int .i64 (r0.2.2.1)) := Bs0.cell 2
  have k_Bs0_3 : W14.cell? ⟨W4.heap.size, 3, none⟩ = some (.slice As03 ns03 cs03) := Bs0.cell 3
  have k_Bs0_4 : W14.cell? ⟨W4.heap.size, 4, none⟩ = some (.slice As04 ns04 cs04) := Bs0.cell 4
  have k_Bx1_0 : W14.cell? ⟨W5.heap.size, 0, none⟩ = some (.slice Ax10 (p1).length cx10) := Bx1.cell 0
  have k_Bg0_0 : W14.cell? ⟨W7.heap.size, 0, none⟩ = some (.int .i64 (r0.1)) := Bg0.cell 0
  have k_Bg0_1 : W14.cell? ⟨W7.heap.size, 1, none⟩ = some (.int .i64 (r0.2.1)) := Bg0.cell 1
  have k_Bg0_2 : W14.cell? ⟨W7.heap.size, 2, none⟩ = some (.int .i64 (r0.2.2.1)) := Bg0.cell 2
  have k_Bg0_3 : W14.cell? ⟨W7.heap.size, 3, none⟩ = some (.slice Ag03 (r0.2.2.2.1).length cg03) := Bg0.cell 3
  have k_Bg0_4 : W14.cell? ⟨W7.heap.size, 4, none⟩ = some (.slice Ag04 (r0.2.2.2.2).length cg04) := Bg0.cell 4
  clear hG_
  have dk : decide ((1 + ((cntCell (p1) : Nat) : Int) + (((p2).length : Nat) : Int) : Int) < 0) = false := by simp; omega
  clear o_x1 Ix1 Dx1
  clear o_x2 Ix2 Dx2
  go_wp2_with fail
  refine (o_eqPeeled ((tPeeled).reach ((tPeeled).read o_g0) ?hB) ((tPeeled).reach ((tPeeled).up r_s0 (by omega : W4.heap.size ≤ W14.heap.size)) ?hB)).mono ?_
  all_goals try (case hB => exact (by repeat (first | (with_reducible exact Below.refl _ _) | (with_reducible assumption) | (with_reducible refine bel_alloc ?_ _) | (with_reducible refine bel_drew ?_) | (with_reducible refine below_drewN ?_ _) | (with_reducible refine bel_put ?_ (by first | exact Nat.le_refl _ | (simp; done) | (simp; omega)) _))))
  rintro e W15 ⟨rfl, hb_⟩
  clear k_Ba1_0
  clear k_Bs0_0 k_Bs0_1 k_Bs0_2 k_Bs0_3 k_Bs0_4
  clear k_Bx1_0
  clear k_Bg0_0 k_Bg0_1 k_Bg0_2 k_Bg0_3 k_Bg0_4
  have hs15 : Below W14.heap.size W14 W15 := bel_trans (by repeat (first | (with_reducible exact Below.refl _ _) | (with_reducible assumption) | (with_reducible refine bel_alloc ?_ _) | (with_reducible refine bel_drew ?_) | (with_reducible refine below_drewN ?_ _) | (with_reducible refine bel_put ?_ (by first | exact Nat.le_refl _ | (simp; done) | (simp; omega)) _))) hb_
  have z15 : W14.heap.size + 0 ≤ W15.heap.size := by have := hb_.size; simpa using this
  have hB15 : Below w.heap.size w W15 := bel_trans hB14 hs15
  replace Ba1 := Ba1.below hs15 Ba1.size
  replace Bs0 := Bs0.below hs15 Bs0.size
  replace Bx1 := Bx1.below hs15 Bx1.size
  replace Bg0 := Bg0.below hs15 Bg0.size
  replace o_g0 := Ty.below (t := tPeeled) o_g0 hs15
  replace r_s0 := (tPeeled).keep r_s0 (fun b hb => hs15.block b (Nat.lt_of_lt_of_le hb (by omega)))
  have k_Ba1_0 : W15.cell? ⟨w.heap.size, 0, none⟩ = some (.slice Aa10 na10 ca10) := Ba1.cell 0
  have k_Bs0_0 : W15.cell? ⟨W4.heap.size, 0, none⟩ = some (.int .i64 (r0.1)) := Bs0.cell 0
  have k_Bs0_1 : W15.cell? ⟨W4.heap.size, 1, none⟩ = some (.int .i64 (r0.2.1)) := Bs0.cell 1
  have k_Bs0_2 : W15.cell? ⟨W4.heap.size, 2, none⟩ = some (.int .i64 (r0.2.2.1)) := Bs0.cell 2
  have k_Bs0_3 : W15.cell? ⟨W4.heap.size, 3, none⟩ = some (.slice As03 ns03 cs03) := Bs0.cell 3
  have k_Bs0_4 : W15.cell? ⟨W4.heap.size, 4, none⟩ = some (.slice As04 ns04 cs04) := Bs0.cell 4
  have k_Bx1_0 : W15.cell? ⟨W5.heap.size, 0, none⟩ = some (.slice Ax10 (p1).length cx10) := Bx1.cell 0
  have k_Bg0_0 : W15.cell? ⟨W7.heap.size, 0, none⟩ = some (.int .i64 (r0.1)) := Bg0.cell 0
  have k_Bg0_1 : W15.cell? ⟨W7.heap.size, 1, none⟩ = some (.int .i64 (r0.2.1)) := Bg0.cell 1
  have k_Bg0_2 : W15.cell? ⟨W7.heap.size, 2, none⟩ = some (.int .i64 (r0.2.2.1)) := Bg0.cell 2
  have k_Bg0_3 : W15.cell? ⟨W7.heap.size, 3, none⟩ = some (.slice Ag03 (r0.2.2.2.1).length cg03) := Bg0.cell 3
  have k_Bg0_4 : W15.cell? ⟨W7.heap.size, 4, none⟩ = some (.slice Ag04 (r0.2.2.2.2).length cg04) := Bg0.cell 4
  clear hb_
  go_wp2_with fail
  refine (o_markPeeled (1) o_g0 Dg0 (by omega) (by omega)).mono ?_
  rintro e W16 ⟨rfl, om_, hG_⟩
  clear k_Ba1_0
  clear k_Bs0_0 k_Bs0_1 k_Bs0_2 k_Bs0_3 k_Bs0_4
  clear k_Bx1_0
  clear k_Bg0_0 k_Bg0_1 k_Bg0_2 k_Bg0_3 k_Bg0_4
  replace o_g0 := om_
  clear om_
  have z16 : W15.heap.size + 0 ≤ W16.heap.size := hG_.size
  have hB16 : Below w.heap.size w W16 := hB15.trans (hG_.below (fun f hf => by have := Ig0 f hf; omega) (by have := hB15.size; omega))
  replace Ba1 := Ba1.same (hG_.block _ Ba1.size (fun hx => by have := Ig0 _ hx; omega))
  replace Bs0 := Bs0.same (hG_.block _ Bs0.size (fun hx => by have := Ig0 _ hx; omega))
  replace Bx1 := Bx1.same (hG_.block _ Bx1.size (fun hx => by have := Ig0 _ hx; omega))
  replace Bg0 := Bg0.same (hG_.block _ Bg0.size (fun hx => by have := Ig0 _ hx; omega))
  replace r_s0 := (tPeeled).keep r_s0 (fun b hb => hG_.block b (Nat.lt_of_lt_of_le hb (by omega)) (fun hx => by have := Ig0 b hx; omega))
  have k_Ba1_0 : W16.cell? ⟨w.heap.size, 0, none⟩ = some (.slice Aa10 na10 ca10) := Ba1.cell 0
  have k_Bs0_0 : W16.cell? ⟨W4.heap.size, 0, none⟩ = some (.int .i64 (r0.1)) := Bs0.cell 0
  have k_Bs0_1 : W16.cell? ⟨W4.heap.size, 1, none⟩ = some (.int .i64 (r0.2.1)) := Bs0.cell 1
  have k_Bs0_2 : W16.cell? ⟨W4.heap.size, 2, none⟩ = some (.int .i64 (r0.2.2.1)) := Bs0.cell 2
  have k_Bs0_3 : W16.cell? ⟨W4.heap.size, 3, none⟩ = some (.slice As03 ns03 cs03) := Bs0.cell 3
  have k_Bs0_4 : W16.cell? ⟨W4.heap.size, 4, none⟩ = some (.slice As04 ns04 cs04) := Bs0.cell 4
  have k_Bx1_0 : W16.cell? ⟨W5.heap.size, 0, none⟩ = some (.slice Ax10 (p1).length cx10) := Bx1.cell 0
  have k_Bg0_0 : W16.cell? ⟨W7.heap.size, 0, none⟩ = some (.int .i64 (r0.1)) := Bg0.cell 0
  have k_Bg0_1 : W16.cell? ⟨W7.heap.size, 1, none⟩ = some (.int .i64 (r0.2.1)) := Bg0.cell 1
  have k_Bg0_2 : W16.cell? ⟨W7.heap.size, 2, none⟩ = some (.int .i64 (r0.2.2.1)) := Bg0.cell 2
  have k_Bg0_3 : W16.cell? ⟨W7.heap.size, 3, none⟩ = some (.slice Ag03 (r0.2.2.2.1).length cg03) := Bg0.cell 3
  have k_Bg0_4 : W16.cell? ⟨W7.heap.size, 4, none⟩ = some (.slice Ag04 (r0.2.2.2.2).length cg04) := Bg0.cell 4
  clear hG_
  have dm : (((1 + ((cntPeeled (r0) : Nat) : Int) : Int)) != (1 + ((cntPeeled (r0) : Nat) : Int))) = false := by simp
  have dh0 : decide ((1 + ((cntPeeled (r0) : Nat) : Int) : Int) < 0) = false := by simp; omega
  go_wp2_with fail
  refine (o_heldPeeled (1) ((tPeeled).reach ((tPeeled).read o_g0) ?hB) (by omega) (by omega)).mono ?_
  all_goals try (case hB => exact (by repeat (first | (with_reducible exact Below.refl _ _) | (with_reducible assumption) | (with_reducible refine bel_alloc ?_ _) | (with_reducible refine bel_drew ?_) | (with_reducible refine below_drewN ?_ _) | (with_reducible refine bel_put ?_ (by first | exact Nat.le_refl _ | (simp; done) | (simp; omega)) _))))
  rintro e W17 ⟨rfl, hb_⟩
  clear k_Ba1_0
  clear k_Bs0_0 k_Bs0_1 k_Bs0_2 k_Bs0_3 k_Bs0_4
  clear k_Bx1_0
  clear k_Bg0_0 k_Bg0_1 k_Bg0_2 k_Bg0_3 k_Bg0_4
  have hs17 : Below W16.heap.size W16 W17 := bel_trans (by repeat (first | (with_reducible exact Below.refl _ _) | (with_reducible assumption) | (with_reducible refine bel_alloc ?_ _) | (with_reducible refine bel_drew ?_) | (with_reducible refine below_drewN ?_ _) | (with_reducible refine bel_put ?_ (by first | exact Nat.le_refl _ | (simp; done) | (simp; omega)) _))) hb_
  have z17 : W16.heap.size + 0 ≤ W17.heap.size := by have := hb_.size; simpa using this
  have hB17 : Below w.heap.size w W17 := bel_trans hB16 hs17
  replace Ba1 := Ba1.below hs17 Ba1.size
  replace Bs0 := Bs0.below hs17 Bs0.size
  replace Bx1 := Bx1.below hs17 Bx1.size
  replace Bg0 := Bg0.below hs17 Bg0.size
  replace o_g0 := Ty.below (t := tPeeled) o_g0 hs17
  replace r_s0 := (tPeeled).keep r_s0 (fun b hb => hs17.block b (Nat.lt_of_lt_of_le hb (by omega)))
  have k_Ba1_0 : W17.cell? ⟨w.heap.size, 0, none⟩ = some (.slice Aa10 na10 ca10) := Ba1.cell 0
  have k_Bs0_0 : W17.cell? ⟨W4.heap.size, 0, none⟩ = some (.int .i64 (r0.1)) := Bs0.cell 0
  have k_Bs0_1 : W17.cell? ⟨W4.heap.size, 1, none⟩ = some (.int .i64 (r0.2.1)) := Bs0.cell 1
  have k_Bs0_2 : W17.cell? ⟨W4.heap.size, 2, none⟩ = some (.int .i64 (r0.2.2.1)) := Bs0.cell 2
  have k_Bs0_3 : W17.cell? ⟨W4.heap.size, 3, none⟩ = some (.slice As03 ns03 cs03) := Bs0.cell 3
  have k_Bs0_4 : W17.cell? ⟨W4.heap.size, 4, none⟩ = some (.slice As04 ns04 cs04) := Bs0.cell 4
  have k_Bx1_0 : W17.cell? ⟨W5.heap.size, 0, none⟩ = some (.slice Ax10 (p1).length cx10) := Bx1.cell 0
  have k_Bg0_0 : W17.cell? ⟨W7.heap.size, 0, none⟩ = some (.int .i64 (r0.1)) := Bg0.cell 0
  have k_Bg0_1 : W17.cell? ⟨W7.heap.size, 1, none⟩ = some (.int .i64 (r0.2.1)) := Bg0.cell 1
  have k_Bg0_2 : W17.cell? ⟨W7.heap.size, 2, none⟩ = some (.int .i64 (r0.2.2.1)) := Bg0.cell 2
  have k_Bg0_3 : W17.cell? ⟨W7.heap.size, 3, none⟩ = some (.slice Ag03 (r0.2.2.2.1).length cg03) := Bg0.cell 3
  have k_Bg0_4 : W17.cell? ⟨W7.heap.size, 4, none⟩ = some (.slice Ag04 (r0.2.2.2.2).length cg04) := Bg0.cell 4
  clear hb_
  go_wp2_with fail
  refine (o_toCell ((tCell).reach ((tCell).reach h1 hB17) ?hB) (by omega)).mono ?_
  all_goals try (case hB => exact (by repeat (first | (with_reducible exact Below.refl _ _) | (with_reducible assumption) | (with_reducible refine bel_alloc ?_ _) | (with_reducible refine bel_drew ?_) | (with_reducible refine below_drewN ?_ _) | (with_reducible refine bel_put ?_ (by first | exact Nat.le_refl _ | (simp; done) | (simp; omega)) _))))
  rintro e W18 ⟨csy1, Fy1, rfl, o_y1, Ny1, hb_⟩
  clear k_Ba1_0
  clear k_Bs0_0 k_Bs0_1 k_Bs0_2 k_Bs0_3 k_Bs0_4
  clear k_Bx1_0
  clear k_Bg0_0 k_Bg0_1 k_Bg0_2 k_Bg0_3 k_Bg0_4
  have Iy1 : ∀ f ∈ Fy1, W17.heap.size + 0 ≤ f ∧ f < W18.heap.size := fun f hf => ⟨Nat.le_trans (by first | (simp; done) | (simp; omega)) (Ny1.2 f hf), (tCell).lt o_y1 f hf⟩
  have Dy1 := Ny1.1
  clear Ny1
  obtain ⟨Ay10, cy10, Fy10, rfl, -, -, -, -⟩ := openOCell o_y1
  have hs18 : Below W17.heap.size W17 W18 := bel_trans (by repeat (first | (with_reducible exact Below.refl _ _) | (with_reducible assumption) | (with_reducible refine bel_alloc ?_ _) | (with_reducible refine bel_drew ?_) | (with_reducible refine below_drewN ?_ _) | (with_reducible refine bel_put ?_ (by first | exact Nat.le_refl _ | (simp; done) | (simp; omega)) _))) hb_
  have z18 : W17.heap.size + 0 ≤ W18.heap.size := by have := hb_.size; simpa using this
  have hB18 : Below w.heap.size w W18 := bel_trans hB17 hs18
  replace Ba1 := Ba1.below hs18 Ba1.size
  replace Bs0 := Bs0.below hs18 Bs0.size
  replace Bx1 := Bx1.below hs18 Bx1.size
  replace Bg0 := Bg0.below hs18 Bg0.size
  replace o_g0 := Ty.below (t := tPeeled) o_g0 hs18
  replace r_s0 := (tPeeled).keep r_s0 (fun b hb => hs18.block b (Nat.lt_of_lt_of_le hb (by omega)))
  have k_Ba1_0 : W18.cell? ⟨w.heap.size, 0, none⟩ = some (.slice Aa10 na10 ca10) := Ba1.cell 0
  have k_Bs0_0 : W18.cell? ⟨W4.heap.size, 0, none⟩ = some (.int .i64 (r0.1)) := Bs0.cell 0
  have k_Bs0_1 : W18.cell? ⟨W4.heap.size, 1, none⟩ = some (.int .i64 (r0.2.1)) := Bs0.cell 1
  have k_Bs0_2 : W18.cell? ⟨W4.heap.size, 2, none⟩ = some (.int .i64 (r0.2.2.1)) := Bs0.cell 2
  have k_Bs0_3 : W18.cell? ⟨W4.heap.size, 3, none⟩ = some (.slice As03 ns03 cs03) := Bs0.cell 3
  have k_Bs0_4 : W18.cell? ⟨W4.heap.size, 4, none⟩ = some (.slice As04 ns04 cs04) := Bs0.cell 4
  have k_Bx1_0 : W18.cell? ⟨W5.heap.size, 0, none⟩ = some (.slice Ax10 (p1).length cx10) := Bx1.cell 0
  have k_Bg0_0 : W18.cell? ⟨W7.heap.size, 0, none⟩ = some (.int .i64 (r0.1)) := Bg0.cell 0
  have k_Bg0_1 : W18.cell? ⟨W7.heap.size, 1, none⟩ = some (.int .i64 (r0.2.1)) := Bg0.cell 1
  have k_Bg0_2 : W18.cell? ⟨W7.heap.size, 2, none⟩ = some (.int .i64 (r0.2.2.1)) := Bg0.cell 2
  have k_Bg0_3 : W18.cell? ⟨W7.heap.size, 3, none⟩ = some (.slice Ag03 (r0.2.2.2.1).length cg03) := Bg0.cell 3
  have k_Bg0_4 : W18.cell? ⟨W7.heap.size, 4, none⟩ = some (.slice Ag04 (r0.2.2.2.2).length cg04) := Bg0.cell 4
  clear hb_
  go_wp2_with fail
  refine (o_toByteS ((tBy).reach ((tBy).reach h2 hB18) ?hB) (by omega)).mono ?_
  all_goals try (case hB => exact (by repeat (first | (with_reducible exact Below.refl _ _) | (with_reducible assumption) | (with_reducible refine bel_alloc ?_ _) | (with_reducible refine bel_drew ?_) | (with_reducible refine below_drewN ?_ _) | (with_reducible refine bel_put ?_ (by first | exact Nat.le_refl _ | (simp; done) | (simp; omega)) _))))
  rintro e W19 ⟨Ay2, cy2, Fy2, rfl, o_y2, Ny2, hb_⟩
  clear k_Ba1_0
  clear k_Bs0_0 k_Bs0_1 k_Bs0_2 k_Bs0_3 k_Bs0_4
  clear k_Bx1_0
  clear k_Bg0_0 k_Bg0_1 k_Bg0_2 k_Bg0_3 k_Bg0_4
  have Iy2 : ∀ f ∈ Fy2, W18.heap.size + 0 ≤ f ∧ f < W19.heap.size := fun f hf => ⟨Nat.le_trans (by first | (simp; done) | (simp; omega)) (Ny2.2 f hf), (tBy).lt o_y2 f hf⟩
  have Dy2 := Ny2.1
  clear Ny2
  have hs19 : Below W18.heap.size W18 W19 := bel_trans (by repeat (first | (with_reducible exact Below.refl _ _) | (with_reducible assumption) | (with_reducible refine bel_alloc ?_ _) | (with_reducible refine bel_drew ?_) | (with_reducible refine below_drewN ?_ _) | (with_reducible refine bel_put ?_ (by first | exact Nat.le_refl _ | (simp; done) | (simp; omega)) _))) hb_
  have z19 : W18.heap.size + 0 ≤ W19.heap.size := by have := hb_.size; simpa using this
  have hB19 : Below w.heap.size w W19 := bel_trans hB18 hs19
  replace Ba1 := Ba1.below hs19 Ba1.size
  replace Bs0 := Bs0.below hs19 Bs0.size
  replace Bx1 := Bx1.below hs19 Bx1.size
  replace Bg0 := Bg0.below hs19 Bg0.size
  replace o_g0 := Ty.below (t := tPeeled) o_g0 hs19
  replace o_y1 := Ty.below (t := tCell) o_y1 hs19
  replace r_s0 := (tPeeled).keep r_s0 (fun b hb => hs19.block b (Nat.lt_of_lt_of_le hb (by omega)))
  have k_Ba1_0 : W19.cell? ⟨w.heap.size, 0, none⟩ = some (.slice Aa10 na10 ca10) := Ba1.cell 0
  have k_Bs0_0 : W19.cell? ⟨W4.heap.size, 0, none⟩ = some (.int .i64 (r0.1)) := Bs0.cell 0
  have k_Bs0_1 : W19.cell? ⟨W4.heap.size, 1, none⟩ = some (.int .i64 (r0.2.1)) := Bs0.cell 1
  have k_Bs0_2 : W19.cell? ⟨W4.heap.size, 2, none⟩ = some (.int .i64 (r0.2.2.1)) := Bs0.cell 2
  have k_Bs0_3 : W19.cell? ⟨W4.heap.size, 3, none⟩ = some (.slice As03 ns03 cs03) := Bs0.cell 3
  have k_Bs0_4 : W19.cell? ⟨W4.heap.size, 4, none⟩ = some (.slice As04 ns04 cs04) := Bs0.cell 4
  have k_Bx1_0 : W19.cell? ⟨W5.heap.size, 0, none⟩ = some (.slice Ax10 (p1).length cx10) := Bx1.cell 0
  have k_Bg0_0 : W19.cell? ⟨W7.heap.size, 0, none⟩ = some (.int .i64 (r0.1)) := Bg0.cell 0
  have k_Bg0_1 : W19.cell? ⟨W7.heap.size, 1, none⟩ = some (.int .i64 (r0.2.1)) := Bg0.cell 1
  have k_Bg0_2 : W19.cell? ⟨W7.heap.size, 2, none⟩ = some (.int .i64 (r0.2.2.1)) := Bg0.cell 2
  have k_Bg0_3 : W19.cell? ⟨W7.heap.size, 3, none⟩ = some (.slice Ag03 (r0.2.2.2.1).length cg03) := Bg0.cell 3
  have k_Bg0_4 : W19.cell? ⟨W7.heap.size, 4, none⟩ = some (.slice Ag04 (r0.2.2.2.2).length cg04) := Bg0.cell 4
  clear hb_
  go_wp2_with fail
  refine (i_PeelR w0 ((tCell).reach ((tCell).read o_y1) ?hB) (by omega) ((tBy).reach ((tBy).read o_y2) ?hB) (by omega)).mono ?_
  all_goals try (case hB => exact (by repeat (first | (with_reducible exact Below.refl _ _) | (with_reducible assumption) | (with_reducible refine bel_alloc ?_ _) | (with_reducible refine bel_drew ?_) | (with_reducible refine below_drewN ?_ _) | (with_reducible refine bel_put ?_ (by first | exact Nat.le_refl _ | (simp; done) | (simp; omega)) _))))
  rintro e W20 ⟨csh0, Fh0, rfl, o_h0, Nh, hb_⟩
  clear k_Ba1_0
  clear k_Bs0_0 k_Bs0_1 k_Bs0_2 k_Bs0_3 k_Bs0_4
  clear k_Bx1_0
  clear k_Bg0_0 k_Bg0_1 k_Bg0_2 k_Bg0_3 k_Bg0_4
  clear o_y1 Iy1 Dy1
  clear o_y2 Iy2 Dy2
  rw [HR0.out] at o_h0
  rw [HR1.out]
  obtain ⟨Ah03, ch03, Fh03, Ah04, ch04, Fh04, rfl, -, -, -, -, -, -, -, -, -, -⟩ := openOPeeled o_h0
  have Ih0 : ∀ f ∈ Fh0, W19.heap.size + 0 ≤ f ∧ f < W20.heap.size := fun f hf => ⟨Nat.le_trans (by first | (simp; done) | (simp; omega)) (Nh.2 f (by simp [hf])), (tPeeled).lt o_h0 f hf⟩
  have Dh0 := Nh.1
  clear Nh
  have hs20 : Below W19.heap.size W19 W20 := bel_trans (by repeat (first | (with_reducible exact Below.refl _ _) | (with_reducible assumption) | (with_reducible refine bel_alloc ?_ _) | (with_reducible refine bel_drew ?_) | (with_reducible refine below_drewN ?_ _) | (with_reducible refine bel_put ?_ (by first | exact Nat.le_refl _ | (simp; done) | (simp; omega)) _))) hb_
  have z20 : W19.heap.size + 0 ≤ W20.heap.size := by have := hb_.size; simpa using this
  have hB20 : Below w.heap.size w W20 := bel_trans hB19 hs20
  replace Ba1 := Ba1.below hs20 Ba1.size
  replace Bs0 := Bs0.below hs20 Bs0.size
  replace Bx1 := Bx1.below hs20 Bx1.size
  replace Bg0 := Bg0.below hs20 Bg0.size
  replace o_g0 := Ty.below (t := tPeeled) o_g0 hs20
  replace r_s0 := (tPeeled).keep r_s0 (fun b hb => hs20.block b (Nat.lt_of_lt_of_le hb (by omega)))
  have k_Ba1_0 : W20.cell? ⟨w.heap.size, 0, none⟩ = some (.slice Aa10 na10 ca10) := Ba1.cell 0
  have k_Bs0_0 : W20.cell? ⟨W4.heap.size, 0, none⟩ = some (.int .i64 (r0.1)) := Bs0.cell 0
  have k_Bs0_1 : W20.cell? ⟨W4.heap.size, 1, none⟩ = some (.int .i64 (r0.2.1)) := Bs0.cell 1
  have k_Bs0_2 : W20.cell? ⟨W4.heap.size, 2, none⟩ = some (.int .i64 (r0.2.2.1)) := Bs0.cell 2
  have k_Bs0_3 : W20.cell? ⟨W4.heap.size, 3, none⟩ = some (.slice As03 ns03 cs03) := Bs0.cell 3
  have k_Bs0_4 : W20.cell? ⟨W4.heap.size, 4, none⟩ = some (.slice As04 ns04 cs04) := Bs0.cell 4
  have k_Bx1_0 : W20.cell? ⟨W5.heap.size, 0, none⟩ = some (.slice Ax10 (p1).length cx10) := Bx1.cell 0
  have k_Bg0_0 : W20.cell? ⟨W7.heap.size, 0, none⟩ = some (.int .i64 (r0.1)) := Bg0.cell 0
  have k_Bg0_1 : W20.cell? ⟨W7.heap.size, 1, none⟩ = some (.int .i64 (r0.2.1)) := Bg0.cell 1
  have k_Bg0_2 : W20.cell? ⟨W7.heap.size, 2, none⟩ = some (.int .i64 (r0.2.2.1)) := Bg0.cell 2
  have k_Bg0_3 : W20.cell? ⟨W7.heap.size, 3, none⟩ = some (.slice Ag03 (r0.2.2.2.1).length cg03) := Bg0.cell 3
  have k_Bg0_4 : W20.cell? ⟨W7.heap.size, 4, none⟩ = some (.slice Ag04 (r0.2.2.2.2).length cg04) := Bg0.cell 4
  clear hb_
  have d_Ba1_0 : (W20.alloc (.cells #[.int .i64 (r0.1), .int .i64 (r0.2.1), .int .i64 (r0.2.2.1), .slice Ah03 (r0.2.2.2.1).length ch03, .slice Ah04 (r0.2.2.2.2).length ch04] 28)).cell? ⟨w.heap.size, 0, none⟩ = some (.slice Aa10 na10 ca10) := (Ba1.alloc _).cell 0
  have d_Bs0_0 : (W20.alloc (.cells #[.int .i64 (r0.1), .int .i64 (r0.2.1), .int .i64 (r0.2.2.1), .slice Ah03 (r0.2.2.2.1).length ch03, .slice Ah04 (r0.2.2.2.2).length ch04] 28)).cell? ⟨W4.heap.size, 0, none⟩ = some (.int .i64 (r0.1)) := (Bs0.alloc _).cell 0
  have d_Bs0_1 : (W20.alloc (.cells #[.int .i64 (r0.1), .int .i64 (r0.2.1), .int .i64 (r0.2.2.1), .slice Ah03 (r0.2.2.2.1).length ch03, .slice Ah04 (r0.2.2.2.2).length ch04] 28)).cell? ⟨W4.heap.size, 1, none⟩ = some (.int .i64 (r0.2.1)) := (Bs0.alloc _).cell 1
  have d_Bs0_2 : (W20.alloc (.cells #[.int .i64 (r0.1), .int .i64 (r0.2.1), .int .i64 (r0.2.2.1), .slice Ah03 (r0.2.2.2.1).length ch03, .slice Ah04 (r0.2.2.2.2).length ch04] 28)).cell? ⟨W4.heap.size, 2, none⟩ = some (.int .i64 (r0.2.2.1)) := (Bs0.alloc _).cell 2
  have d_Bs0_3 : (W20.alloc (.cells #[.int .i64 (r0.1), .int .i64 (r0.2.1), .int .i64 (r0.2.2.1), .slice Ah03 (r0.2.2.2.1).length ch03, .slice Ah04 (r0.2.2.2.2).length ch04] 28)).cell? ⟨W4.heap.size, 3, none⟩ = some (.slice As03 ns03 cs03) := (Bs0.alloc _).cell 3
  have d_Bs0_4 : (W20.alloc (.cells #[.int .i64 (r0.1), .int .i64 (r0.2.1), .int .i64 (r0.2.2.1), .slice Ah03 (r0.2.2.2.1).length ch03, .slice Ah04 (r0.2.2.2.2).length ch04] 28)).cell? ⟨W4.heap.size, 4, none⟩ = some (.slice As04 ns04 cs04) := (Bs0.alloc _).cell 4
  have d_Bx1_0 : (W20.alloc (.cells #[.int .i64 (r0.1), .int .i64 (r0.2.1), .int .i64 (r0.2.2.1), .slice Ah03 (r0.2.2.2.1).length ch03, .slice Ah04 (r0.2.2.2.2).length ch04] 28)).cell? ⟨W5.heap.size, 0, none⟩ = some (.slice Ax10 (p1).length cx10) := (Bx1.alloc _).cell 0
  have d_Bg0_0 : (W20.alloc (.cells #[.int .i64 (r0.1), .int .i64 (r0.2.1), .int .i64 (r0.2.2.1), .slice Ah03 (r0.2.2.2.1).length ch03, .slice Ah04 (r0.2.2.2.2).length ch04] 28)).cell? ⟨W7.heap.size, 0, none⟩ = some (.int .i64 (r0.1)) := (Bg0.alloc _).cell 0
  have d_Bg0_1 : (W20.alloc (.cells #[.int .i64 (r0.1), .int .i64 (r0.2.1), .int .i64 (r0.2.2.1), .slice Ah03 (r0.2.2.2.1).length ch03, .slice Ah04 (r0.2.2.2.2).length ch04] 28)).cell? ⟨W7.heap.size, 1, none⟩ = some (.int .i64 (r0.2.1)) := (Bg0.alloc _).cell 1
  have d_Bg0_2 : (W20.alloc (.cells #[.int .i64 (r0.1), .int .i64 (r0.2.1), .int .i64 (r0.2.2.1), .slice Ah03 (r0.2.2.2.1).length ch03, .slice Ah04 (r0.2.2.2.2).length ch04] 28)).cell? ⟨W7.heap.size, 2, none⟩ = some (.int .i64 (r0.2.2.1)) := (Bg0.alloc _).cell 2
  have d_Bg0_3 : (W20.alloc (.cells #[.int .i64 (r0.1), .int .i64 (r0.2.1), .int .i64 (r0.2.2.1), .slice Ah03 (r0.2.2.2.1).length ch03, .slice Ah04 (r0.2.2.2.2).length ch04] 28)).cell? ⟨W7.heap.size, 3, none⟩ = some (.slice Ag03 (r0.2.2.2.1).length cg03) := (Bg0.alloc _).cell 3
  have d_Bg0_4 : (W20.alloc (.cells #[.int .i64 (r0.1), .int .i64 (r0.2.1), .int .i64 (r0.2.2.1), .slice Ah03 (r0.2.2.2.1).length ch03, .slice Ah04 (r0.2.2.2.2).length ch04] 28)).cell? ⟨W7.heap.size, 4, none⟩ = some (.slice Ag04 (r0.2.2.2.2).length cg04) := (Bg0.alloc _).cell 4
  go_wp2_with fail
  refine (o_eqPeeled ((tPeeled).reach ((tPeeled).read o_h0) ?hB) ((tPeeled).reach ((tPeeled).up r_s0 (by omega : W4.heap.size ≤ W20.heap.size)) ?hB)).mono ?_
  all_goals try (case hB => exact (by repeat (first | (with_reducible exact Below.refl _ _) | (with_reducible assumption) | (with_reducible refine bel_alloc ?_ _) | (with_reducible refine bel_drew ?_) | (with_reducible refine below_drewN ?_ _) | (with_reducible refine bel_put ?_ (by first | exact Nat.le_refl _ | (simp; done) | (simp; omega)) _))))
  rintro e W21 ⟨rfl, hb_⟩
  clear d_Ba1_0 d_Bs0_0 d_Bs0_1 d_Bs0_2 d_Bs0_3 d_Bs0_4 d_Bx1_0 d_Bg0_0 d_Bg0_1 d_Bg0_2 d_Bg0_3 d_Bg0_4
  clear k_Ba1_0
  clear k_Bs0_0 k_Bs0_1 k_Bs0_2 k_Bs0_3 k_Bs0_4
  clear k_Bx1_0
  clear k_Bg0_0 k_Bg0_1 k_Bg0_2 k_Bg0_3 k_Bg0_4
  have hs21 : Below W20.heap.size W20 W21 := bel_trans (by repeat (first | (with_reducible exact Below.refl _ _) | (with_reducible assumption) | (with_reducible refine bel_alloc ?_ _) | (with_reducible refine bel_drew ?_) | (with_reducible refine below_drewN ?_ _) | (with_reducible refine bel_put ?_ (by first | exact Nat.le_refl _ | (simp; done) | (simp; omega)) _))) hb_
  have z21 : W20.heap.size + 1 ≤ W21.heap.size := by have := hb_.size; simpa using this
  have hB21 : Below w.heap.size w W21 := bel_trans hB20 hs21
  replace Ba1 := Ba1.below hs21 Ba1.size
  replace Bs0 := Bs0.below hs21 Bs0.size
  replace Bx1 := Bx1.below hs21 Bx1.size
  replace Bg0 := Bg0.below hs21 Bg0.size
  have Bh0 : Box W21 (W20.heap.size) 28 #[.int .i64 (r0.1), .int .i64 (r0.2.1), .int .i64 (r0.2.2.1), .slice Ah03 (r0.2.2.2.1).length ch03, .slice Ah04 (r0.2.2.2.2).length ch04] := Box.below (Box.new _ _ _) hb_ (by first | (simp; done) | (simp; omega))
  replace o_g0 := Ty.below (t := tPeeled) o_g0 hs21
  replace o_h0 := Ty.below (t := tPeeled) o_h0 hs21
  replace r_s0 := (tPeeled).keep r_s0 (fun b hb => hs21.block b (Nat.lt_of_lt_of_le hb (by omega)))
  have k_Ba1_0 : W21.cell? ⟨w.heap.size, 0, none⟩ = some (.slice Aa10 na10 ca10) := Ba1.cell 0
  have k_Bs0_0 : W21.cell? ⟨W4.heap.size, 0, none⟩ = some (.int .i64 (r0.1)) := Bs0.cell 0
  have k_Bs0_1 : W21.cell? ⟨W4.heap.size, 1, none⟩ = some (.int .i64 (r0.2.1)) := Bs0.cell 1
  have k_Bs0_2 : W21.cell? ⟨W4.heap.size, 2, none⟩ = some (.int .i64 (r0.2.2.1)) := Bs0.cell 2
  have k_Bs0_3 : W21.cell? ⟨W4.heap.size, 3, none⟩ = some (.slice As03 ns03 cs03) := Bs0.cell 3
  have k_Bs0_4 : W21.cell? ⟨W4.heap.size, 4, none⟩ = some (.slice As04 ns04 cs04) := Bs0.cell 4
  have k_Bx1_0 : W21.cell? ⟨W5.heap.size, 0, none⟩ = some (.slice Ax10 (p1).length cx10) := Bx1.cell 0
  have k_Bg0_0 : W21.cell? ⟨W7.heap.size, 0, none⟩ = some (.int .i64 (r0.1)) := Bg0.cell 0
  have k_Bg0_1 : W21.cell? ⟨W7.heap.size, 1, none⟩ = some (.int .i64 (r0.2.1)) := Bg0.cell 1
  have k_Bg0_2 : W21.cell? ⟨W7.heap.size, 2, none⟩ = some (.int .i64 (r0.2.2.1)) := Bg0.cell 2
  have k_Bg0_3 : W21.cell? ⟨W7.heap.size, 3, none⟩ = some (.slice Ag03 (r0.2.2.2.1).length cg03) := Bg0.cell 3
  have k_Bg0_4 : W21.cell? ⟨W7.heap.size, 4, none⟩ = some (.slice Ag04 (r0.2.2.2.2).length cg04) := Bg0.cell 4
  have k_Bh0_0 : W21.cell? ⟨W20.heap.size, 0, none⟩ = some (.int .i64 (r0.1)) := Bh0.cell 0
  have k_Bh0_1 : W21.cell? ⟨W20.heap.size, 1, none⟩ = some (.int .i64 (r0.2.1)) := Bh0.cell 1
  have k_Bh0_2 : W21.cell? ⟨W20.heap.size, 2, none⟩ = some (.int .i64 (r0.2.2.1)) := Bh0.cell 2
  have k_Bh0_3 : W21.cell? ⟨W20.heap.size, 3, none⟩ = some (.slice Ah03 (r0.2.2.2.1).length ch03) := Bh0.cell 3
  have k_Bh0_4 : W21.cell? ⟨W20.heap.size, 4, none⟩ = some (.slice Ah04 (r0.2.2.2.2).length ch04) := Bh0.cell 4
  clear hb_
  go_wp2_with fail
  refine (o_heldPeeled (1) ((tPeeled).reach ((tPeeled).read o_g0) ?hB) (by omega) (by omega)).mono ?_
  all_goals try (case hB => exact (by repeat (first | (with_reducible exact Below.refl _ _) | (with_reducible assumption) | (with_reducible refine bel_alloc ?_ _) | (with_reducible refine bel_drew ?_) | (with_reducible refine below_drewN ?_ _) | (with_reducible refine bel_put ?_ (by first | exact Nat.le_refl _ | (simp; done) | (simp; omega)) _))))
  rintro e W22 ⟨rfl, hb_⟩
  clear k_Ba1_0
  clear k_Bs0_0 k_Bs0_1 k_Bs0_2 k_Bs0_3 k_Bs0_4
  clear k_Bx1_0
  clear k_Bg0_0 k_Bg0_1 k_Bg0_2 k_Bg0_3 k_Bg0_4
  clear k_Bh0_0 k_Bh0_1 k_Bh0_2 k_Bh0_3 k_Bh0_4
  have hs22 : Below W21.heap.size W21 W22 := bel_trans (by repeat (first | (with_reducible exact Below.refl _ _) | (with_reducible assumption) | (with_reducible refine bel_alloc ?_ _) | (with_reducible refine bel_drew ?_) | (with_reducible refine below_drewN ?_ _) | (with_reducible refine bel_put ?_ (by first | exact Nat.le_refl _ | (simp; done) | (simp; omega)) _))) hb_
  have z22 : W21.heap.size + 0 ≤ W22.heap.size := by have := hb_.size; simpa using this
  have hB22 : Below w.heap.size w W22 := bel_trans hB21 hs22
  replace Ba1 := Ba1.below hs22 Ba1.size
  replace Bs0 := Bs0.below hs22 Bs0.size
  replace Bx1 := Bx1.below hs22 Bx1.size
  replace Bg0 := Bg0.below hs22 Bg0.size
  replace Bh0 := Bh0.below hs22 Bh0.size
  replace o_g0 := Ty.below (t := tPeeled) o_g0 hs22
  replace o_h0 := Ty.below (t := tPeeled) o_h0 hs22
  replace r_s0 := (tPeeled).keep r_s0 (fun b hb => hs22.block b (Nat.lt_of_lt_of_le hb (by omega)))
  have k_Ba1_0 : W22.cell? ⟨w.heap.size, 0, none⟩ = some (.slice Aa10 na10 ca10) := Ba1.cell 0
  have k_Bs0_0 : W22.cell? ⟨W4.heap.size, 0, none⟩ = some (.int .i64 (r0.1)) := Bs0.cell 0
  have k_Bs0_1 : W22.cell? ⟨W4.heap.size, 1, none⟩ = some (.int .i64 (r0.2.1)) := Bs0.cell 1
  have k_Bs0_2 : W22.cell? ⟨W4.heap.size, 2, none⟩ = some (.int .i64 (r0.2.2.1)) := Bs0.cell 2
  have k_Bs0_3 : W22.cell? ⟨W4.heap.size, 3, none⟩ = some (.slice As03 ns03 cs03) := Bs0.cell 3
  have k_Bs0_4 : W22.cell? ⟨W4.heap.size, 4, none⟩ = some (.slice As04 ns04 cs04) := Bs0.cell 4
  have k_Bx1_0 : W22.cell? ⟨W5.heap.size, 0, none⟩ = some (.slice Ax10 (p1).length cx10) := Bx1.cell 0
  have k_Bg0_0 : W22.cell? ⟨W7.heap.size, 0, none⟩ = some (.int .i64 (r0.1)) := Bg0.cell 0
  have k_Bg0_1 : W22.cell? ⟨W7.heap.size, 1, none⟩ = some (.int .i64 (r0.2.1)) := Bg0.cell 1
  have k_Bg0_2 : W22.cell? ⟨W7.heap.size, 2, none⟩ = some (.int .i64 (r0.2.2.1)) := Bg0.cell 2
  have k_Bg0_3 : W22.cell? ⟨W7.heap.size, 3, none⟩ = some (.slice Ag03 (r0.2.2.2.1).length cg03) := Bg0.cell 3
  have k_Bg0_4 : W22.cell? ⟨W7.heap.size, 4, none⟩ = some (.slice Ag04 (r0.2.2.2.2).length cg04) := Bg0.cell 4
  have k_Bh0_0 : W22.cell? ⟨W20.heap.size, 0, none⟩ = some (.int .i64 (r0.1)) := Bh0.cell 0
  have k_Bh0_1 : W22.cell? ⟨W20.heap.size, 1, none⟩ = some (.int .i64 (r0.2.1)) := Bh0.cell 1
  have k_Bh0_2 : W22.cell? ⟨W20.heap.size, 2, none⟩ = some (.int .i64 (r0.2.2.1)) := Bh0.cell 2
  have k_Bh0_3 : W22.cell? ⟨W20.heap.size, 3, none⟩ = some (.slice Ah03 (r0.2.2.2.1).length ch03) := Bh0.cell 3
  have k_Bh0_4 : W22.cell? ⟨W20.heap.size, 4, none⟩ = some (.slice Ah04 (r0.2.2.2.2).length ch04) := Bh0.cell 4
  clear hb_
  go_wp2_with fail
  go_ret
  exact ⟨rfl, hB22⟩

/-! ### THE ROW's STEP -/
set_option maxHeartbeats 400000 in
set_option maxRecDepth 100000 in
theorem lifted (os : Os) (started : os.Started) (H : Type) (enc : TypeId × Value → H) :
    ReturnsInHanded {} Try.checked os 3 .any (Rows.fnExactPeelSpec.pre6 enc Try.prog Try.f3 Rows.fnExactPeelRow.domain false) (Rows.fnExactPeelSpec.post enc Try.prog Try.f3 false true false false) := by
  refine returnsInHanded_of_change (C := Try.checked) own started (by kernel_rfl) Try.func3
    (ChangeSpec.witness6 (enc := enc) (C := Try.checked) false ⟨#[], #[.int .i64 0, .agg #[.slice none 0 0], .slice none 0 0], []⟩ 8 (by kernel_rfl) (by kernel_rfl) (by kernel_rfl) (by kernel_rfl)) ?_
  intro W base args ds gs before hval0 hW hcnd _
  have hval : ∀ (j : Nat) t v, Try.f3.params[j]? = some t → args[j]? = some v → Value.okWide Try.prog W .any base t v := hval0
  have hW' := hW
  obtain ⟨p, q, hA0, hV, rfl, hfz, hnd⟩ := hW
  have hA : DataW.TrodAll enc Try.prog W 0 (fun _ => true) true Try.f3.params.toList args.toList ds p := hA0
  rw [Try.params3] at hA hval
  obtain ⟨v0, vs0, d0, ds0, p0, q0, hargs, rfl, rfl, h0, r0⟩ := trodAll_cons hA
  obtain ⟨v1, vs1, d1, ds1, p1, q1, rfl, rfl, rfl, h1, r1⟩ := trodAll_cons r0
  obtain ⟨v2, vs2, d2, ds2, p2, q2, rfl, rfl, rfl, h2, r2⟩ := trodAll_cons r1
  obtain ⟨rfl, rfl, rfl⟩ := trodAll_nil r2
  obtain rfl : args = #[v0, v1, v2] := by cases args; simp_all
  obtain ⟨rfl, rfl⟩ := trodVars_none hV
  obtain ⟨a0, rfl, rfl, rfl, w0⟩ := open_int Try.underlying3 (hval 0 3 v0 rfl rfl) h0
  obtain ⟨cs1, rfl, hsz1⟩ := okWide_struct Try.underlying24 (hval 1 24 v1 rfl rfl)
  have k1 := h1
  have lt1 : ∀ x ∈ p1, x.block < W.heap.size := by obtain ⟨m, hm⟩ := k1; exact DataW.trod_lt m _ _ _ hm
  obtain ⟨x1, w1⟩ : ∃ a, tCell.R W W.heap.size cs1.toList a := by
    obtain ⟨fuel, hf⟩ := h1
    exact frR_Cell fuel _ _ (by simpa [Value.cells] using hf)
  obtain ⟨A2, n2, c2, rfl⟩ := okWide_slice Try.underlying22 (hval 2 22 v2 rfl rfl)
  have k2 := h2
  have lt2 : ∀ x ∈ p2, x.block < W.heap.size := by obtain ⟨m, hm⟩ := k2; exact DataW.trod_lt m _ _ _ hm
  obtain ⟨x2, w2⟩ : ∃ a, tBy.R W W.heap.size [.slice A2 n2 c2] a := by
    obtain ⟨fuel, hf⟩ := h2
    exact frR_by fuel _ _ (by simpa [Value.cells] using hf)
  clear hA0 hval0
  refine (walk a0 cs1 x1 A2 n2 c2 x2 W w0 w1 w2).mono fun e W' ⟨he, bel⟩ => ?_
  subst he
  exact ⟨_, rfl, _, _, _, [], _, [], hW', trodAll_mk1 (shut_bool Try.underlying4 _), (trodAll_cons_mk (shut_int Try.underlying3 w0) (trodAll_cons_mk (Below.trod laidOut (by kernel_rfl) (of_decide_eq_true (by kernel_rfl)) k1 bel lt1) (trodAll_cons_mk (Below.trod laidOut (by kernel_rfl) (of_decide_eq_true (by kernel_rfl)) k2 bel lt2) trodAll_mk0))), rfl, bel.frame _, fun h => by cases h⟩

theorem over : Rows.fnExactPeelRow.holds Try.pinned (OpenSpec.ofChange Rows.fnExactPeelSpec) :=
  OpenClaim.holds_of_wide 3 Try.f3 rfl rfl rfl rfl rfl rfl rfl ⟨rfl, rfl, rfl, rfl, rfl⟩ rfl rfl rfl rfl rfl (by kernel_rfl) Try.func3 (by kernel_rfl)
    (of_decide_eq_true (by kernel_rfl)) (by unfold Func.isWrapper; first | (rw [if_pos (by decide +kernel)]; kernel_rfl) | (rw [if_neg (by decide +kernel)]; exact ⟨rfl, rfl⟩))
    (fun os started H enc _ => lifted os started H enc)

theorem proved : Rows.FnExactPeelSaid := over
#print axioms proved
end Go.Proofs.Ytpapkonejkdkhaa.fnExactPeel
