/-
  For every argument (in all at most 2^20 elements) the program's Split answers as its model does, in every field, writes into no argument, and its answer owns its memory. No further condition.
-/
import Derived.Test.YtgepeppmhfnbeabRows
import Derived.Test.YtgepeppmhfnbeabFr
import Derived.WalkKit
import Derived.ProofKit
import Derived.OpenShut
import Derived.ShutString
import Derived.ChangeOld
import Derived.Below
import Derived.Test.YtgepeppmhfnbeabLPieceS
import Derived.Test.YtgepeppmhfnbeabPSplit
import Derived.Deep.RegionHeld3
namespace Go.Proofs.Ytgepeppmhfnbeab.fnExactSplit
open Go.ChangeShapes Go.WideShapes Go.ChangeAt Go.RowKit
open Go.ChangeMaps (open_string shut_string)
set_option linter.unusedVariables false

open Go.Proofs.Ytgepeppmhfnbeab
theorem own : ownKnob Try.prog.godebug = none := by kernel_rfl
theorem laidOut : laidOutB Try.prog = true := by kernel_rfl



/-! ### STEP 1: the walk -/
set_option maxRecDepth 100000 in
set_option maxHeartbeats 2000000 in
theorem walk (a0 : Int) (A1 : Option Addr) (n1 c1 : Nat) (p1 : List Int) (w : World) (w0 : (Lit.int .i64 a0).wf = true) (h1 : (tBy).R w w.heap.size [.slice A1 n1 c1] p1) :
    Calls Try.prog 8 #[.int .i64 a0, .slice A1 n1 c1] w fun e w' => e = .returned (.bool true) ∧ Below w.heap.size w w' := by
  have hn1 := (slR_ints h1).1.1
  have rg0 := i64_rg w0
  by_cases hz1 : (p1).length ≤ 1048576
  rotate_left
  · go_enter Try.func8, Try.ntmps8
    have q_ : (1048576 : Int) < (n1 : Int) := by omega
    go_wp2
    go_ret
    exact ⟨rfl, (by repeat (first | (with_reducible exact Below.refl _ _) | (with_reducible assumption) | (with_reducible refine bel_alloc ?_ _) | (with_reducible refine bel_drew ?_) | (with_reducible refine below_drewN ?_ _) | (with_reducible refine bel_put ?_ (by first | exact Nat.le_refl _ | (simp; done) | (simp; omega)) _)))⟩
  have q_ : ¬ (1048576 : Int) < (n1 : Int) := by omega
  clear hn1
  have hzr0 : rsz szPiece (fSpl a0 p1) ≤ 1048576 := (by have := fSpl_sz a0 p1; omega)
  have hcr0 := rsum_M (c := rcPiece) (s := szPiece) (M := 5) rcPiece_le (fSpl a0 p1)
  obtain ⟨r0, hr0⟩ : ∃ r, fSpl a0 p1 = r := ⟨_, rfl⟩
  have HR0 := Lib.hid hr0
  rw [hr0] at hzr0 hcr0
  clear hr0
  obtain ⟨r1, hr1⟩ : ∃ r, decide (SpOk a0 p1) = r := ⟨_, rfl⟩
  have HR1 := Lib.hid hr1
  have qr1 : (r1 != r1) = false := by simp
  clear hr1
  go_enter Try.func8, Try.ntmps8
  go_wp2_with fail
  refine (o_toByteS ((tBy).reach h1 ?hB) (by omega)).mono ?_
  all_goals try (case hB => exact (by repeat (first | (with_reducible exact Below.refl _ _) | (with_reducible assumption) | (with_reducible refine bel_alloc ?_ _) | (with_reducible refine bel_drew ?_) | (with_reducible refine below_drewN ?_ _) | (with_reducible refine bel_put ?_ (by first | exact Nat.le_refl _ | (simp; done) | (simp; omega)) _))))
  rintro e W1 ⟨Ay, cy, Fy, rfl, o_y, Ny, hb_⟩
  have Iy : ∀ f ∈ Fy, w.heap.size + 0 ≤ f ∧ f < W1.heap.size := fun f hf => ⟨Nat.le_trans (by first | (simp; done) | (simp; omega)) (Ny.2 f hf), (tBy).lt o_y f hf⟩
  have Dy := Ny.1
  clear Ny
  have hs1 : Below w.heap.size w W1 := bel_trans (by repeat (first | (with_reducible exact Below.refl _ _) | (with_reducible assumption) | (with_reducible refine bel_alloc ?_ _) | (with_reducible refine bel_drew ?_) | (with_reducible refine below_drewN ?_ _) | (with_reducible refine bel_put ?_ (by first | exact Nat.le_refl _ | (simp; done) | (simp; omega)) _))) hb_
  have z1 : w.heap.size + 0 ≤ W1.heap.size := by have := hb_.size; simpa using this
  have hB1 : Below w.heap.size w W1 := hs1
  clear hb_
  go_wp2_with fail
  refine (s_Split w0 ((tBy).reach ((tBy).read o_y) ?hB) (by omega)).mono ?_
  all_goals try (case hB => exact (by repeat (first | (with_reducible exact Below.refl _ _) | (with_reducible assumption) | (with_reducible refine bel_alloc ?_ _) | (with_reducible refine bel_drew ?_) | (with_reducible refine below_drewN ?_ _) | (with_reducible refine bel_put ?_ (by first | exact Nat.le_refl _ | (simp; done) | (simp; omega)) _))))
  rintro e W2 ⟨As0, cs0, rfl, r_s0, hb_⟩
  clear o_y Iy Dy
  rw [HR0.out] at r_s0
  rw [HR0.out]
  rw [HR1.out]
  have hs2 : Below W1.heap.size W1 W2 := bel_trans (by repeat (first | (with_reducible exact Below.refl _ _) | (with_reducible assumption) | (with_reducible refine bel_alloc ?_ _) | (with_reducible refine bel_drew ?_) | (with_reducible refine below_drewN ?_ _) | (with_reducible refine bel_put ?_ (by first | exact Nat.le_refl _ | (simp; done) | (simp; omega)) _))) hb_
  have z2 : W1.heap.size + 0 ≤ W2.heap.size := by have := hb_.size; simpa using this
  have hB2 : Below w.heap.size w W2 := bel_trans hB1 hs2
  clear hb_
  go_wp2_with fail
  refine (o_toByteS ((tBy).reach ((tBy).reach h1 hB2) ?hB) (by omega)).mono ?_
  all_goals try (case hB => exact (by repeat (first | (with_reducible exact Below.refl _ _) | (with_reducible assumption) | (with_reducible refine bel_alloc ?_ _) | (with_reducible refine bel_drew ?_) | (with_reducible refine below_drewN ?_ _) | (with_reducible refine bel_put ?_ (by first | exact Nat.le_refl _ | (simp; done) | (simp; omega)) _))))
  rintro e W3 ⟨Ax, cx, Fx, rfl, o_x, Nx, hb_⟩
  have Ix : ∀ f ∈ Fx, W2.heap.size + 0 ≤ f ∧ f < W3.heap.size := fun f hf => ⟨Nat.le_trans (by first | (simp; done) | (simp; omega)) (Nx.2 f hf), (tBy).lt o_x f hf⟩
  have Dx := Nx.1
  clear Nx
  have hs3 : Below W2.heap.size W2 W3 := bel_trans (by repeat (first | (with_reducible exact Below.refl _ _) | (with_reducible assumption) | (with_reducible refine bel_alloc ?_ _) | (with_reducible refine bel_drew ?_) | (with_reducible refine below_drewN ?_ _) | (with_reducible refine bel_put ?_ (by first | exact Nat.le_refl _ | (simp; done) | (simp; omega)) _))) hb_
  have z3 : W2.heap.size + 0 ≤ W3.heap.size := by have := hb_.size; simpa using this
  have hB3 : Below w.heap.size w W3 := bel_trans hB2 hs3
  replace r_s0 := (tPiece.row).keep r_s0 (fun b hb => hs3.block b (Nat.lt_of_lt_of_le hb (by omega)))
  clear hb_
  go_wp2_with fail
  refine (i_Split w0 ((tBy).reach ((tBy).read o_x) ?hB) (by omega)).mono ?_
  all_goals try (case hB => exact (by repeat (first | (with_reducible exact Below.refl _ _) | (with_reducible assumption) | (with_reducible refine bel_alloc ?_ _) | (with_reducible refine bel_drew ?_) | (with_reducible refine below_drewN ?_ _) | (with_reducible refine bel_put ?_ (by first | exact Nat.le_refl _ | (simp; done) | (simp; omega)) _))))
  rintro e W4 ⟨Ag0, cg0, Fg0, rfl, o_g0, Ng, hb_⟩
  rw [HR0.out] at o_g0
  rw [HR0.out]
  rw [HR1.out]
  have Ig0 : ∀ f ∈ Fg0, W3.heap.size + 0 ≤ f ∧ f < W4.heap.size := fun f hf => ⟨Nat.le_trans (by first | (simp; done) | (simp; omega)) (Ng.2 f (by simp [hf])), (tPiece.row).lt o_g0 f hf⟩
  have Dg0 := Ng.1
  clear Ng
  have hs4 : Below W3.heap.size W3 W4 := bel_trans (by repeat (first | (with_reducible exact Below.refl _ _) | (with_reducible assumption) | (with_reducible refine bel_alloc ?_ _) | (with_reducible refine bel_drew ?_) | (with_reducible refine below_drewN ?_ _) | (with_reducible refine bel_put ?_ (by first | exact Nat.le_refl _ | (simp; done) | (simp; omega)) _))) hb_
  have z4 : W3.heap.size + 0 ≤ W4.heap.size := by have := hb_.size; simpa using this
  have hB4 : Below w.heap.size w W4 := bel_trans hB3 hs4
  replace o_x := Ty.below (t := tBy) o_x hs4
  replace r_s0 := (tPiece.row).keep r_s0 (fun b hb => hs4.block b (Nat.lt_of_lt_of_le hb (by omega)))
  clear hb_
  go_wp2_with fail
  refine (o_eqPieceS ((tPiece.row).reach ((tPiece.row).read o_g0) ?hB) ((tPiece.row).reach ((tPiece.row).up r_s0 (by omega : W2.heap.size ≤ W4.heap.size)) ?hB)).mono ?_
  all_goals try (case hB => exact (by repeat (first | (with_reducible exact Below.refl _ _) | (with_reducible assumption) | (with_reducible refine bel_alloc ?_ _) | (with_reducible refine bel_drew ?_) | (with_reducible refine below_drewN ?_ _) | (with_reducible refine bel_put ?_ (by first | exact Nat.le_refl _ | (simp; done) | (simp; omega)) _))))
  rintro e W5 ⟨rfl, hb_⟩
  have hs5 : Below W4.heap.size W4 W5 := bel_trans (by repeat (first | (with_reducible exact Below.refl _ _) | (with_reducible assumption) | (with_reducible refine bel_alloc ?_ _) | (with_reducible refine bel_drew ?_) | (with_reducible refine below_drewN ?_ _) | (with_reducible refine bel_put ?_ (by first | exact Nat.le_refl _ | (simp; done) | (simp; omega)) _))) hb_
  have z5 : W4.heap.size + 0 ≤ W5.heap.size := by have := hb_.size; simpa using this
  have hB5 : Below w.heap.size w W5 := bel_trans hB4 hs5
  replace o_x := Ty.below (t := tBy) o_x hs5
  replace o_g0 := Ty.below (t := tPiece.row) o_g0 hs5
  replace r_s0 := (tPiece.row).keep r_s0 (fun b hb => hs5.block b (Nat.lt_of_lt_of_le hb (by omega)))
  clear hb_
  go_wp2_with fail
  refine (o_toByteS ((tBy).reach ((tBy).reach h1 hB5) ?hB) (by omega)).mono ?_
  all_goals try (case hB => exact (by repeat (first | (with_reducible exact Below.refl _ _) | (with_reducible assumption) | (with_reducible refine bel_alloc ?_ _) | (with_reducible refine bel_drew ?_) | (with_reducible refine below_drewN ?_ _) | (with_reducible refine bel_put ?_ (by first | exact Nat.le_refl _ | (simp; done) | (simp; omega)) _))))
  rintro e W6 ⟨Av, cv, Fv, rfl, o_v, Nv, hb_⟩
  have Iv : ∀ f ∈ Fv, W5.heap.size + 0 ≤ f ∧ f < W6.heap.size := fun f hf => ⟨Nat.le_trans (by first | (simp; done) | (simp; omega)) (Nv.2 f hf), (tBy).lt o_v f hf⟩
  have Dv := Nv.1
  clear Nv
  have hs6 : Below W5.heap.size W5 W6 := bel_trans (by repeat (first | (with_reducible exact Below.refl _ _) | (with_reducible assumption) | (with_reducible refine bel_alloc ?_ _) | (with_reducible refine bel_drew ?_) | (with_reducible refine below_drewN ?_ _) | (with_reducible refine bel_put ?_ (by first | exact Nat.le_refl _ | (simp; done) | (simp; omega)) _))) hb_
  have z6 : W5.heap.size + 0 ≤ W6.heap.size := by have := hb_.size; simpa using this
  have hB6 : Below w.heap.size w W6 := bel_trans hB5 hs6
  replace o_x := Ty.below (t := tBy) o_x hs6
  replace o_g0 := Ty.below (t := tPiece.row) o_g0 hs6
  replace r_s0 := (tPiece.row).keep r_s0 (fun b hb => hs6.block b (Nat.lt_of_lt_of_le hb (by omega)))
  clear hb_
  go_wp2_with fail
  refine (o_eqByteS ((tBy).reach ((tBy).read o_x) ?hB) ((tBy).reach ((tBy).read o_v) ?hB)).mono ?_
  all_goals try (case hB => exact (by repeat (first | (with_reducible exact Below.refl _ _) | (with_reducible assumption) | (with_reducible refine bel_alloc ?_ _) | (with_reducible refine bel_drew ?_) | (with_reducible refine below_drewN ?_ _) | (with_reducible refine bel_put ?_ (by first | exact Nat.le_refl _ | (simp; done) | (simp; omega)) _))))
  rintro e W7 ⟨rfl, hb_⟩
  clear o_v Iv Dv
  have hs7 : Below W6.heap.size W6 W7 := bel_trans (by repeat (first | (with_reducible exact Below.refl _ _) | (with_reducible assumption) | (with_reducible refine bel_alloc ?_ _) | (with_reducible refine bel_drew ?_) | (with_reducible refine below_drewN ?_ _) | (with_reducible refine bel_put ?_ (by first | exact Nat.le_refl _ | (simp; done) | (simp; omega)) _))) hb_
  have z7 : W6.heap.size + 0 ≤ W7.heap.size := by have := hb_.size; simpa using this
  have hB7 : Below w.heap.size w W7 := bel_trans hB6 hs7
  replace o_x := Ty.below (t := tBy) o_x hs7
  replace o_g0 := Ty.below (t := tPiece.row) o_g0 hs7
  replace r_s0 := (tPiece.row).keep r_s0 (fun b hb => hs7.block b (Nat.lt_of_lt_of_le hb (by omega)))
  clear hb_
  go_wp2_with fail
  refine (o_markByteS (1) o_x (by omega) (by omega)).mono ?_
  rintro e W8 ⟨rfl, om_, hG_⟩
  replace o_x := om_
  clear om_
  have z8 : W7.heap.size + 0 ≤ W8.heap.size := hG_.size
  have hB8 : Below w.heap.size w W8 := hB7.trans (hG_.below (fun f hf => by have := Ix f hf; omega) (by have := hB7.size; omega))
  replace o_g0 := Ty.only (t := tPiece.row) o_g0 hG_ (fun f hf hx => by have := Ig0 f hf; have := Ix f hx; omega)
  replace r_s0 := (tPiece.row).keep r_s0 (fun b hb => hG_.block b (Nat.lt_of_lt_of_le hb (by omega)) (fun hx => by have := Ix b hx; omega))
  clear hG_
  have dk : decide ((1 + (((p1).length : Nat) : Int) : Int) < 0) = false := by simp; omega
  clear o_x Ix Dx
  go_wp2_with fail
  refine (o_eqPieceS ((tPiece.row).reach ((tPiece.row).read o_g0) ?hB) ((tPiece.row).reach ((tPiece.row).up r_s0 (by omega : W2.heap.size ≤ W8.heap.size)) ?hB)).mono ?_
  all_goals try (case hB => exact (by repeat (first | (with_reducible exact Below.refl _ _) | (with_reducible assumption) | (with_reducible refine bel_alloc ?_ _) | (with_reducible refine bel_drew ?_) | (with_reducible refine below_drewN ?_ _) | (with_reducible refine bel_put ?_ (by first | exact Nat.le_refl _ | (simp; done) | (simp; omega)) _))))
  rintro e W9 ⟨rfl, hb_⟩
  have hs9 : Below W8.heap.size W8 W9 := bel_trans (by repeat (first | (with_reducible exact Below.refl _ _) | (with_reducible assumption) | (with_reducible refine bel_alloc ?_ _) | (with_reducible refine bel_drew ?_) | (with_reducible refine below_drewN ?_ _) | (with_reducible refine bel_put ?_ (by first | exact Nat.le_refl _ | (simp; done) | (simp; omega)) _))) hb_
  have z9 : W8.heap.size + 0 ≤ W9.heap.size := by have := hb_.size; simpa using this
  have hB9 : Below w.heap.size w W9 := bel_trans hB8 hs9
  replace o_g0 := Ty.below (t := tPiece.row) o_g0 hs9
  replace r_s0 := (tPiece.row).keep r_s0 (fun b hb => hs9.block b (Nat.lt_of_lt_of_le hb (by omega)))
  clear hb_
  go_wp2_with fail
  refine (o_markPieceS (1) o_g0 Dg0 (by omega) (by omega)).mono ?_
  rintro e W10 ⟨rfl, om_, hG_⟩
  replace o_g0 := om_
  clear om_
  have z10 : W9.heap.size + 0 ≤ W10.heap.size := hG_.size
  have hB10 : Below w.heap.size w W10 := hB9.trans (hG_.below (fun f hf => by have := Ig0 f hf; omega) (by have := hB9.size; omega))
  replace r_s0 := (tPiece.row).keep r_s0 (fun b hb => hG_.block b (Nat.lt_of_lt_of_le hb (by omega)) (fun hx => by have := Ig0 b hx; omega))
  clear hG_
  have dm : (((1 + ((rsum rcPiece (r0) : Nat) : Int) : Int)) != (1 + ((rsum rcPiece (r0) : Nat) : Int))) = false := by simp
  have dh0 : decide ((1 + ((rsum rcPiece (r0) : Nat) : Int) : Int) < 0) = false := by simp; omega
  go_wp2_with fail
  refine (o_heldPieceS (1) ((tPiece.row).reach ((tPiece.row).read o_g0) ?hB) (by omega) (by omega)).mono ?_
  all_goals try (case hB => exact (by repeat (first | (with_reducible exact Below.refl _ _) | (with_reducible assumption) | (with_reducible refine bel_alloc ?_ _) | (with_reducible refine bel_drew ?_) | (with_reducible refine below_drewN ?_ _) | (with_reducible refine bel_put ?_ (by first | exact Nat.le_refl _ | (simp; done) | (simp; omega)) _))))
  rintro e W11 ⟨rfl, hb_⟩
  have hs11 : Below W10.heap.size W10 W11 := bel_trans (by repeat (first | (with_reducible exact Below.refl _ _) | (with_reducible assumption) | (with_reducible refine bel_alloc ?_ _) | (with_reducible refine bel_drew ?_) | (with_reducible refine below_drewN ?_ _) | (with_reducible refine bel_put ?_ (by first | exact Nat.le_refl _ | (simp; done) | (simp; omega)) _))) hb_
  have z11 : W10.heap.size + 0 ≤ W11.heap.size := by have := hb_.size; simpa using this
  have hB11 : Below w.heap.size w W11 := bel_trans hB10 hs11
  replace o_g0 := Ty.below (t := tPiece.row) o_g0 hs11
  replace r_s0 := (tPiece.row).keep r_s0 (fun b hb => hs11.block b (Nat.lt_of_lt_of_le hb (by omega)))
  clear hb_
  go_wp2_with fail
  refine (o_toByteS ((tBy).reach ((tBy).reach h1 hB11) ?hB) (by omega)).mono ?_
  all_goals try (case hB => exact (by repeat (first | (with_reducible exact Below.refl _ _) | (with_reducible assumption) | (with_reducible refine bel_alloc ?_ _) | (with_reducible refine bel_drew ?_) | (with_reducible refine below_drewN ?_ _) | (with_reducible refine bel_put ?_ (by first | exact Nat.le_refl _ | (simp; done) | (simp; omega)) _))))
  rintro e W12 ⟨Ay, cy, Fy, rfl, o_y, Ny, hb_⟩
  have Iy : ∀ f ∈ Fy, W11.heap.size + 0 ≤ f ∧ f < W12.heap.size := fun f hf => ⟨Nat.le_trans (by first | (simp; done) | (simp; omega)) (Ny.2 f hf), (tBy).lt o_y f hf⟩
  have Dy := Ny.1
  clear Ny
  have hs12 : Below W11.heap.size W11 W12 := bel_trans (by repeat (first | (with_reducible exact Below.refl _ _) | (with_reducible assumption) | (with_reducible refine bel_alloc ?_ _) | (with_reducible refine bel_drew ?_) | (with_reducible refine below_drewN ?_ _) | (with_reducible refine bel_put ?_ (by first | exact Nat.le_refl _ | (simp; done) | (simp; omega)) _))) hb_
  have z12 : W11.heap.size + 0 ≤ W12.heap.size := by have := hb_.size; simpa using this
  have hB12 : Below w.heap.size w W12 := bel_trans hB11 hs12
  replace o_g0 := Ty.below (t := tPiece.row) o_g0 hs12
  replace r_s0 := (tPiece.row).keep r_s0 (fun b hb => hs12.block b (Nat.lt_of_lt_of_le hb (by omega)))
  clear hb_
  go_wp2_with fail
  refine (i_Split w0 ((tBy).reach ((tBy).read o_y) ?hB) (by omega)).mono ?_
  all_goals try (case hB => exact (by repeat (first | (with_reducible exact Below.refl _ _) | (with_reducible assumption) | (with_reducible refine bel_alloc ?_ _) | (with_reducible refine bel_drew ?_) | (with_reducible refine below_drewN ?_ _) | (with_reducible refine bel_put ?_ (by first | exact Nat.le_refl _ | (simp; done) | (simp; omega)) _))))
  rintro e W13 ⟨Ah0, ch0, Fh0, rfl, o_h0, Nh, hb_⟩
  clear o_y Iy Dy
  rw [HR0.out] at o_h0
  rw [HR0.out]
  rw [HR1.out]
  have Ih0 : ∀ f ∈ Fh0, W12.heap.size + 0 ≤ f ∧ f < W13.heap.size := fun f hf => ⟨Nat.le_trans (by first | (simp; done) | (simp; omega)) (Nh.2 f (by simp [hf])), (tPiece.row).lt o_h0 f hf⟩
  have Dh0 := Nh.1
  clear Nh
  have hs13 : Below W12.heap.size W12 W13 := bel_trans (by repeat (first | (with_reducible exact Below.refl _ _) | (with_reducible assumption) | (with_reducible refine bel_alloc ?_ _) | (with_reducible refine bel_drew ?_) | (with_reducible refine below_drewN ?_ _) | (with_reducible refine bel_put ?_ (by first | exact Nat.le_refl _ | (simp; done) | (simp; omega)) _))) hb_
  have z13 : W12.heap.size + 0 ≤ W13.heap.size := by have := hb_.size; simpa using this
  have hB13 : Below w.heap.size w W13 := bel_trans hB12 hs13
  replace o_g0 := Ty.below (t := tPiece.row) o_g0 hs13
  replace r_s0 := (tPiece.row).keep r_s0 (fun b hb => hs13.block b (Nat.lt_of_lt_of_le hb (by omega)))
  clear hb_
  go_wp2_with fail
  refine (o_eqPieceS ((tPiece.row).reach ((tPiece.row).read o_h0) ?hB) ((tPiece.row).reach ((tPiece.row).up r_s0 (by omega : W2.heap.size ≤ W13.heap.size)) ?hB)).mono ?_
  all_goals try (case hB => exact (by repeat (first | (with_reducible exact Below.refl _ _) | (with_reducible assumption) | (with_reducible refine bel_alloc ?_ _) | (with_reducible refine bel_drew ?_) | (with_reducible refine below_drewN ?_ _) | (with_reducible refine bel_put ?_ (by first | exact Nat.le_refl _ | (simp; done) | (simp; omega)) _))))
  rintro e W14 ⟨rfl, hb_⟩
  have hs14 : Below W13.heap.size W13 W14 := bel_trans (by repeat (first | (with_reducible exact Below.refl _ _) | (with_reducible assumption) | (with_reducible refine bel_alloc ?_ _) | (with_reducible refine bel_drew ?_) | (with_reducible refine below_drewN ?_ _) | (with_reducible refine bel_put ?_ (by first | exact Nat.le_refl _ | (simp; done) | (simp; omega)) _))) hb_
  have z14 : W13.heap.size + 0 ≤ W14.heap.size := by have := hb_.size; simpa using this
  have hB14 : Below w.heap.size w W14 := bel_trans hB13 hs14
  replace o_g0 := Ty.below (t := tPiece.row) o_g0 hs14
  replace o_h0 := Ty.below (t := tPiece.row) o_h0 hs14
  replace r_s0 := (tPiece.row).keep r_s0 (fun b hb => hs14.block b (Nat.lt_of_lt_of_le hb (by omega)))
  clear hb_
  go_wp2_with fail
  refine (o_heldPieceS (1) ((tPiece.row).reach ((tPiece.row).read o_g0) ?hB) (by omega) (by omega)).mono ?_
  all_goals try (case hB => exact (by repeat (first | (with_reducible exact Below.refl _ _) | (with_reducible assumption) | (with_reducible refine bel_alloc ?_ _) | (with_reducible refine bel_drew ?_) | (with_reducible refine below_drewN ?_ _) | (with_reducible refine bel_put ?_ (by first | exact Nat.le_refl _ | (simp; done) | (simp; omega)) _))))
  rintro e W15 ⟨rfl, hb_⟩
  have hs15 : Below W14.heap.size W14 W15 := bel_trans (by repeat (first | (with_reducible exact Below.refl _ _) | (with_reducible assumption) | (with_reducible refine bel_alloc ?_ _) | (with_reducible refine bel_drew ?_) | (with_reducible refine below_drewN ?_ _) | (with_reducible refine bel_put ?_ (by first | exact Nat.le_refl _ | (simp; done) | (simp; omega)) _))) hb_
  have z15 : W14.heap.size + 0 ≤ W15.heap.size := by have := hb_.size; simpa using this
  have hB15 : Below w.heap.size w W15 := bel_trans hB14 hs15
  replace o_g0 := Ty.below (t := tPiece.row) o_g0 hs15
  replace o_h0 := Ty.below (t := tPiece.row) o_h0 hs15
  replace r_s0 := (tPiece.row).keep r_s0 (fun b hb => hs15.block b (Nat.lt_of_lt_of_le hb (by omega)))
  clear hb_
  go_wp2_with fail
  go_ret
  exact ⟨rfl, hB15⟩

/-! ### THE ROW's STEP -/
set_option maxHeartbeats 400000 in
set_option maxRecDepth 100000 in
theorem lifted (os : Os) (started : os.Started) (H : Type) (enc : TypeId × Value → H) :
    ReturnsInHanded {} Try.checked os 8 .any (Rows.fnExactSplitSpec.pre6 enc Try.prog Try.f8 Rows.fnExactSplitRow.domain false) (Rows.fnExactSplitSpec.post enc Try.prog Try.f8 false true false false) := by
  refine returnsInHanded_of_change (C := Try.checked) own started (by kernel_rfl) Try.func8
    (ChangeSpec.witness6 (enc := enc) (C := Try.checked) false ⟨#[], #[.int .i64 0, .slice none 0 0], []⟩ 8 (by kernel_rfl) (by kernel_rfl) (by kernel_rfl) (by kernel_rfl)) ?_
  intro W base args ds gs before hval0 hW hcnd _
  have hval : ∀ (j : Nat) t v, Try.f8.params[j]? = some t → args[j]? = some v → Value.okWide Try.prog W .any base t v := hval0
  have hW' := hW
  obtain ⟨p, q, hA0, hV, rfl, hfz, hnd⟩ := hW
  have hA : DataW.TrodAll enc Try.prog W 0 (fun _ => true) true Try.f8.params.toList args.toList ds p := hA0
  rw [Try.params8] at hA hval
  obtain ⟨v0, vs0, d0, ds0, p0, q0, hargs, rfl, rfl, h0, r0⟩ := trodAll_cons hA
  obtain ⟨v1, vs1, d1, ds1, p1, q1, rfl, rfl, rfl, h1, r1⟩ := trodAll_cons r0
  obtain ⟨rfl, rfl, rfl⟩ := trodAll_nil r1
  obtain rfl : args = #[v0, v1] := by cases args; simp_all
  obtain ⟨rfl, rfl⟩ := trodVars_none hV
  obtain ⟨a0, rfl, rfl, rfl, w0⟩ := open_int Try.underlying3 (hval 0 3 v0 rfl rfl) h0
  obtain ⟨A1, n1, c1, rfl⟩ := okWide_slice Try.underlying38 (hval 1 38 v1 rfl rfl)
  have k1 := h1
  have lt1 : ∀ x ∈ p1, x.block < W.heap.size := by obtain ⟨m, hm⟩ := k1; exact DataW.trod_lt m _ _ _ hm
  obtain ⟨x1, w1⟩ : ∃ a, tBy.R W W.heap.size [.slice A1 n1 c1] a := by
    obtain ⟨fuel, hf⟩ := h1
    exact frR_by fuel _ _ (by simpa [Value.cells] using hf)
  clear hA0 hval0
  refine (walk a0 A1 n1 c1 x1 W w0 w1).mono fun e W' ⟨he, bel⟩ => ?_
  subst he
  exact ⟨_, rfl, _, _, _, [], _, [], hW', trodAll_mk1 (shut_bool Try.underlying4 _), (trodAll_cons_mk (shut_int Try.underlying3 w0) (trodAll_cons_mk (Below.trod laidOut (by kernel_rfl) (of_decide_eq_true (by kernel_rfl)) k1 bel lt1) trodAll_mk0)), rfl, bel.frame _, fun h => by cases h⟩

theorem over : Rows.fnExactSplitRow.holds Try.pinned (OpenSpec.ofChange Rows.fnExactSplitSpec) :=
  OpenClaim.holds_of_wide 8 Try.f8 rfl rfl rfl rfl rfl rfl rfl ⟨rfl, rfl, rfl, rfl, rfl⟩ rfl rfl rfl rfl rfl (by kernel_rfl) Try.func8 (by kernel_rfl)
    (of_decide_eq_true (by kernel_rfl)) (by unfold Func.isWrapper; first | (rw [if_pos (by decide +kernel)]; kernel_rfl) | (rw [if_neg (by decide +kernel)]; exact ⟨rfl, rfl⟩))
    (fun os started H enc _ => lifted os started H enc)

theorem proved : Rows.FnExactSplitSaid := over
#print axioms proved
end Go.Proofs.Ytgepeppmhfnbeab.fnExactSplit
