/-
  For every argument (in all at most 2^20 elements) the program's PoolBytes answers as its model does, in every field, writes into no argument, and its answer owns its memory. No further condition.
-/
import Derived.Test.YtgepeppmhfnbeaaRows
import Derived.Test.YtgepeppmhfnbeaaFr
import Derived.WalkKit
import Derived.ProofKit
import Derived.OpenShut
import Derived.ShutString
import Derived.ChangeOld
import Derived.Below
import Derived.Test.YtgepeppmhfnbeaaLPool
import Derived.Test.YtgepeppmhfnbeaaPPBI
import Derived.Deep.RegionHeld3
namespace Go.Proofs.Ytgepeppmhfnbeaa.fnExactPoolBytes
open Go.ChangeShapes Go.WideShapes Go.ChangeAt Go.RowKit
open Go.ChangeMaps (open_string shut_string)
set_option linter.unusedVariables false

open Go.Proofs.Ytgepeppmhfnbeaa
theorem own : ownKnob Try.prog.godebug = none := by kernel_rfl
theorem laidOut : laidOutB Try.prog = true := by kernel_rfl



/-! ### STEP 1: the walk -/
set_option maxRecDepth 100000 in
set_option maxHeartbeats 2000000 in
theorem walk (cs0 : Array Value) (p0 : DPool) (w : World) (h0 : tPool.R w w.heap.size cs0.toList p0) :
    Calls Try.prog 10 #[.agg cs0] w fun e w' => e = .returned (.bool true) ∧ Below w.heap.size w w' := by
  obtain ⟨cs0⟩ := cs0
  replace h0 : tPool.R w w.heap.size cs0 p0 := h0
  obtain ⟨Aa00, na00, ca00, Aa01, na01, ca01, rfl, -, -, -, -, -, -, -, -⟩ := openPool h0
  by_cases hz0 : szPool (p0) ≤ 1048576
  rotate_left
  · go_enter Try.func10, Try.ntmps10
    go_wp2_with fail
    refine (o_szPool_f ((tPool).reach h0 ?hB) (by omega) (by omega) (by omega)).mono ?_
    case hB => exact (by repeat (first | (with_reducible exact Below.refl _ _) | (with_reducible assumption) | (with_reducible refine bel_alloc ?_ _) | (with_reducible refine bel_drew ?_) | (with_reducible refine below_drewN ?_ _) | (with_reducible refine bel_put ?_ (by first | exact Nat.le_refl _ | (simp; done) | (simp; omega)) _)))
    rintro e W1 ⟨rfl, hb1⟩
    go_wp2
    go_ret
    exact ⟨rfl, bel_trans (by repeat (first | (with_reducible exact Below.refl _ _) | (with_reducible assumption) | (with_reducible refine bel_alloc ?_ _) | (with_reducible refine bel_drew ?_) | (with_reducible refine below_drewN ?_ _) | (with_reducible refine bel_put ?_ (by first | exact Nat.le_refl _ | (simp; done) | (simp; omega)) _))) hb1⟩
  have dz : decide ((1048576 : Int) - ((szPool (p0) : Nat) : Int) < 0) = false := by simp; omega
  have hzr0 : (fPlB p0).length ≤ 1048576 := (by have := fPlB_le p0; omega)
  obtain ⟨r0, hr0⟩ : ∃ r, fPlB p0 = r := ⟨_, rfl⟩
  have HR0 := Lib.hid hr0
  rw [hr0] at hzr0
  clear hr0
  obtain ⟨r1, hr1⟩ : ∃ r, decide (PlOk p0) = r := ⟨_, rfl⟩
  have HR1 := Lib.hid hr1
  have qr1 : (r1 != r1) = false := by simp
  clear hr1
  have hcp := cntPool_le (p0)
  go_enter Try.func10, Try.ntmps10
  go_wp2_with fail
  refine (o_szPool_t ((tPool).reach h0 ?hB) (by omega) (by omega) (by omega)).mono ?_
  all_goals try (case hB => exact (by repeat (first | (with_reducible exact Below.refl _ _) | (with_reducible assumption) | (with_reducible refine bel_alloc ?_ _) | (with_reducible refine bel_drew ?_) | (with_reducible refine below_drewN ?_ _) | (with_reducible refine bel_put ?_ (by first | exact Nat.le_refl _ | (simp; done) | (simp; omega)) _))))
  rintro e W1 ⟨rfl, hb_⟩
  have hs1 : Below w.heap.size w W1 := bel_trans (by repeat (first | (with_reducible exact Below.refl _ _) | (with_reducible assumption) | (with_reducible refine bel_alloc ?_ _) | (with_reducible refine bel_drew ?_) | (with_reducible refine below_drewN ?_ _) | (with_reducible refine bel_put ?_ (by first | exact Nat.le_refl _ | (simp; done) | (simp; omega)) _))) hb_
  have z1 : w.heap.size + 1 ≤ W1.heap.size := by have := hb_.size; simpa using this
  have hB1 : Below w.heap.size w W1 := hs1
  have Ba : Box W1 (w.heap.size) 63 #[.slice Aa00 na00 ca00, .slice Aa01 na01 ca01] := Box.below (Box.new _ _ _) hb_ (by first | (simp; done) | (simp; omega))
  have k_Ba_0 : W1.cell? ⟨w.heap.size, 0, none⟩ = some (.slice Aa00 na00 ca00) := Ba.cell 0
  have k_Ba_1 : W1.cell? ⟨w.heap.size, 1, none⟩ = some (.slice Aa01 na01 ca01) := Ba.cell 1
  clear hb_
  go_wp2_with fail
  refine (o_toPool ((tPool).reach ((tPool).reach h0 hB1) ?hB) (by omega)).mono ?_
  all_goals try (case hB => exact (by repeat (first | (with_reducible exact Below.refl _ _) | (with_reducible assumption) | (with_reducible refine bel_alloc ?_ _) | (with_reducible refine bel_drew ?_) | (with_reducible refine below_drewN ?_ _) | (with_reducible refine bel_put ?_ (by first | exact Nat.le_refl _ | (simp; done) | (simp; omega)) _))))
  rintro e W2 ⟨csy, Fy, rfl, o_y, Ny, hb_⟩
  clear k_Ba_0 k_Ba_1
  have Iy : ∀ f ∈ Fy, W1.heap.size + 0 ≤ f ∧ f < W2.heap.size := fun f hf => ⟨Nat.le_trans (by first | (simp; done) | (simp; omega)) (Ny.2 f hf), (tPool).lt o_y f hf⟩
  have Dy := Ny.1
  clear Ny
  obtain ⟨Ay0, cy0, Fy0, Ay1, cy1, Fy1, rfl, -, -, -, -, -, -, -⟩ := openOPool o_y
  have hs2 : Below W1.heap.size W1 W2 := bel_trans (by repeat (first | (with_reducible exact Below.refl _ _) | (with_reducible assumption) | (with_reducible refine bel_alloc ?_ _) | (with_reducible refine bel_drew ?_) | (with_reducible refine below_drewN ?_ _) | (with_reducible refine bel_put ?_ (by first | exact Nat.le_refl _ | (simp; done) | (simp; omega)) _))) hb_
  have z2 : W1.heap.size + 0 ≤ W2.heap.size := by have := hb_.size; simpa using this
  have hB2 : Below w.heap.size w W2 := bel_trans hB1 hs2
  replace Ba := Ba.below hs2 Ba.size
  have k_Ba_0 : W2.cell? ⟨w.heap.size, 0, none⟩ = some (.slice Aa00 na00 ca00) := Ba.cell 0
  have k_Ba_1 : W2.cell? ⟨w.heap.size, 1, none⟩ = some (.slice Aa01 na01 ca01) := Ba.cell 1
  clear hb_
  go_wp2_with fail
  refine (s_PoolBytes ((tPool).reach ((tPool).read o_y) ?hB) (by omega)).mono ?_
  all_goals try (case hB => exact (by repeat (first | (with_reducible exact Below.refl _ _) | (with_reducible assumption) | (with_reducible refine bel_alloc ?_ _) | (with_reducible refine bel_drew ?_) | (with_reducible refine below_drewN ?_ _) | (with_reducible refine bel_put ?_ (by first | exact Nat.le_refl _ | (simp; done) | (simp; omega)) _))))
  rintro e W3 ⟨As0, cs0, rfl, r_s0, hb_⟩
  clear k_Ba_0 k_Ba_1
  clear o_y Iy Dy
  rw [HR0.out] at r_s0
  rw [HR0.out]
  rw [HR1.out]
  have hs3 : Below W2.heap.size W2 W3 := bel_trans (by repeat (first | (with_reducible exact Below.refl _ _) | (with_reducible assumption) | (with_reducible refine bel_alloc ?_ _) | (with_reducible refine bel_drew ?_) | (with_reducible refine below_drewN ?_ _) | (with_reducible refine bel_put ?_ (by first | exact Nat.le_refl _ | (simp; done) | (simp; omega)) _))) hb_
  have z3 : W2.heap.size + 0 ≤ W3.heap.size := by have := hb_.size; simpa using this
  have hB3 : Below w.heap.size w W3 := bel_trans hB2 hs3
  replace Ba := Ba.below hs3 Ba.size
  have k_Ba_0 : W3.cell? ⟨w.heap.size, 0, none⟩ = some (.slice Aa00 na00 ca00) := Ba.cell 0
  have k_Ba_1 : W3.cell? ⟨w.heap.size, 1, none⟩ = some (.slice Aa01 na01 ca01) := Ba.cell 1
  clear hb_
  go_wp2_with fail
  refine (o_toPool ((tPool).reach ((tPool).reach h0 hB3) ?hB) (by omega)).mono ?_
  all_goals try (case hB => exact (by repeat (first | (with_reducible exact Below.refl _ _) | (with_reducible assumption) | (with_reducible refine bel_alloc ?_ _) | (with_reducible refine bel_drew ?_) | (with_reducible refine below_drewN ?_ _) | (with_reducible refine bel_put ?_ (by first | exact Nat.le_refl _ | (simp; done) | (simp; omega)) _))))
  rintro e W4 ⟨csx, Fx, rfl, o_x, Nx, hb_⟩
  clear k_Ba_0 k_Ba_1
  have Ix : ∀ f ∈ Fx, W3.heap.size + 0 ≤ f ∧ f < W4.heap.size := fun f hf => ⟨Nat.le_trans (by first | (simp; done) | (simp; omega)) (Nx.2 f hf), (tPool).lt o_x f hf⟩
  have Dx := Nx.1
  clear Nx
  obtain ⟨Ax0, cx0, Fx0, Ax1, cx1, Fx1, rfl, -, -, -, -, -, -, -⟩ := openOPool o_x
  have hs4 : Below W3.heap.size W3 W4 := bel_trans (by repeat (first | (with_reducible exact Below.refl _ _) | (with_reducible assumption) | (with_reducible refine bel_alloc ?_ _) | (with_reducible refine bel_drew ?_) | (with_reducible refine below_drewN ?_ _) | (with_reducible refine bel_put ?_ (by first | exact Nat.le_refl _ | (simp; done) | (simp; omega)) _))) hb_
  have z4 : W3.heap.size + 0 ≤ W4.heap.size := by have := hb_.size; simpa using this
  have hB4 : Below w.heap.size w W4 := bel_trans hB3 hs4
  replace Ba := Ba.below hs4 Ba.size
  replace r_s0 := (tBy).keep r_s0 (fun b hb => hs4.block b (Nat.lt_of_lt_of_le hb (by omega)))
  have k_Ba_0 : W4.cell? ⟨w.heap.size, 0, none⟩ = some (.slice Aa00 na00 ca00) := Ba.cell 0
  have k_Ba_1 : W4.cell? ⟨w.heap.size, 1, none⟩ = some (.slice Aa01 na01 ca01) := Ba.cell 1
  clear hb_
  have d_Ba_0 : (W4.alloc (.cells #[.slice Ax0 (p0.1).length cx0, .slice Ax1 (p0.2).length cx1] 26)).cell? ⟨w.heap.size, 0, none⟩ = some (.slice Aa00 na00 ca00) := (Ba.alloc _).cell 0
  have d_Ba_1 : (W4.alloc (.cells #[.slice Ax0 (p0.1).length cx0, .slice Ax1 (p0.2).length cx1] 26)).cell? ⟨w.heap.size, 1, none⟩ = some (.slice Aa01 na01 ca01) := (Ba.alloc _).cell 1
  go_wp2_with fail
  refine (i_PoolBytes ((tPool).reach ((tPool).read o_x) ?hB) (by omega)).mono ?_
  all_goals try (case hB => exact (by repeat (first | (with_reducible exact Below.refl _ _) | (with_reducible assumption) | (with_reducible refine bel_alloc ?_ _) | (with_reducible refine bel_drew ?_) | (with_reducible refine below_drewN ?_ _) | (with_reducible refine bel_put ?_ (by first | exact Nat.le_refl _ | (simp; done) | (simp; omega)) _))))
  rintro e W5 ⟨Ag0, cg0, Fg0, rfl, o_g0, Ng, hb_⟩
  clear d_Ba_0 d_Ba_1
  clear k_Ba_0 k_Ba_1
  rw [HR0.out] at o_g0
  rw [HR0.out]
  rw [HR1.out]
  have Ig0 : ∀ f ∈ Fg0, W4.heap.size + 1 ≤ f ∧ f < W5.heap.size := fun f hf => ⟨Nat.le_trans (by first | (simp; done) | (simp; omega)) (Ng.2 f (by simp [hf])), (tBy).lt o_g0 f hf⟩
  have Dg0 := Ng.1
  clear Ng
  have hs5 : Below W4.heap.size W4 W5 := bel_trans (by repeat (first | (with_reducible exact Below.refl _ _) | (with_reducible assumption) | (with_reducible refine bel_alloc ?_ _) | (with_reducible refine bel_drew ?_) | (with_reducible refine below_drewN ?_ _) | (with_reducible refine bel_put ?_ (by first | exact Nat.le_refl _ | (simp; done) | (simp; omega)) _))) hb_
  have z5 : W4.heap.size + 1 ≤ W5.heap.size := by have := hb_.size; simpa using this
  have hB5 : Below w.heap.size w W5 := bel_trans hB4 hs5
  replace Ba := Ba.below hs5 Ba.size
  have Bx : Box W5 (W4.heap.size) 26 #[.slice Ax0 (p0.1).length cx0, .slice Ax1 (p0.2).length cx1] := Box.below (Box.new _ _ _) hb_ (by first | (simp; done) | (simp; omega))
  replace o_x := Ty.below (t := tPool) o_x hs5
  replace r_s0 := (tBy).keep r_s0 (fun b hb => hs5.block b (Nat.lt_of_lt_of_le hb (by omega)))
  have k_Ba_0 : W5.cell? ⟨w.heap.size, 0, none⟩ = some (.slice Aa00 na00 ca00) := Ba.cell 0
  have k_Ba_1 : W5.cell? ⟨w.heap.size, 1, none⟩ = some (.slice Aa01 na01 ca01) := Ba.cell 1
  have k_Bx_0 : W5.cell? ⟨W4.heap.size, 0, none⟩ = some (.slice Ax0 (p0.1).length cx0) := Bx.cell 0
  have k_Bx_1 : W5.cell? ⟨W4.heap.size, 1, none⟩ = some (.slice Ax1 (p0.2).length cx1) := Bx.cell 1
  clear hb_
  go_wp2_with fail
  refine (o_eqByteS ((tBy).reach ((tBy).read o_g0) ?hB) ((tBy).reach ((tBy).up r_s0 (by omega : W3.heap.size ≤ W5.heap.size)) ?hB)).mono ?_
  all_goals try (case hB => exact (by repeat (first | (with_reducible exact Below.refl _ _) | (with_reducible assumption) | (with_reducible refine bel_alloc ?_ _) | (with_reducible refine bel_drew ?_) | (with_reducible refine below_drewN ?_ _) | (with_reducible refine bel_put ?_ (by first | exact Nat.le_refl _ | (simp; done) | (simp; omega)) _))))
  rintro e W6 ⟨rfl, hb_⟩
  clear k_Ba_0 k_Ba_1
  clear k_Bx_0 k_Bx_1
  have hs6 : Below W5.heap.size W5 W6 := bel_trans (by repeat (first | (with_reducible exact Below.refl _ _) | (with_reducible assumption) | (with_reducible refine bel_alloc ?_ _) | (with_reducible refine bel_drew ?_) | (with_reducible refine below_drewN ?_ _) | (with_reducible refine bel_put ?_ (by first | exact Nat.le_refl _ | (simp; done) | (simp; omega)) _))) hb_
  have z6 : W5.heap.size + 0 ≤ W6.heap.size := by have := hb_.size; simpa using this
  have hB6 : Below w.heap.size w W6 := bel_trans hB5 hs6
  replace Ba := Ba.below hs6 Ba.size
  replace Bx := Bx.below hs6 Bx.size
  replace o_x := Ty.below (t := tPool) o_x hs6
  replace o_g0 := Ty.below (t := tBy) o_g0 hs6
  replace r_s0 := (tBy).keep r_s0 (fun b hb => hs6.block b (Nat.lt_of_lt_of_le hb (by omega)))
  have k_Ba_0 : W6.cell? ⟨w.heap.size, 0, none⟩ = some (.slice Aa00 na00 ca00) := Ba.cell 0
  have k_Ba_1 : W6.cell? ⟨w.heap.size, 1, none⟩ = some (.slice Aa01 na01 ca01) := Ba.cell 1
  have k_Bx_0 : W6.cell? ⟨W4.heap.size, 0, none⟩ = some (.slice Ax0 (p0.1).length cx0) := Bx.cell 0
  have k_Bx_1 : W6.cell? ⟨W4.heap.size, 1, none⟩ = some (.slice Ax1 (p0.2).length cx1) := Bx.cell 1
  clear hb_
  go_wp2_with fail
  go_region_held3 (fun w' => w'.cell? ⟨w.heap.size, 0, none⟩ = some (.slice Aa00 na00 ca00) ∧ w'.cell? ⟨w.heap.size, 1, none⟩ = some (.slice Aa01 na01 ca01) ∧ w'.cell? ⟨W4.heap.size, 0, none⟩ = some (.slice Ax0 (p0.1).length cx0) ∧ w'.cell? ⟨W4.heap.size, 1, none⟩ = some (.slice Ax1 (p0.2).length cx1)) (first | (exact ⟨k_Ba_0, k_Ba_1, k_Bx_0, k_Bx_1⟩) | (exact ⟨cell_bel hs8 k_Ba_0, cell_bel hs8 k_Ba_1, cell_bel hs8 k_Bx_0, cell_bel hs8 k_Bx_1⟩) | (exact ⟨cell_bel hs7 k_Ba_0, cell_bel hs7 k_Ba_1, cell_bel hs7 k_Bx_0, cell_bel hs7 k_Bx_1⟩) | go_keep)
    (first
      | (go_at_call 42; refine (o_toPool ((tPool).reach ((tPool).reach h0 hB6) (by repeat (first | (with_reducible exact Below.refl _ _) | (with_reducible assumption) | (with_reducible refine bel_alloc ?_ _) | (with_reducible refine bel_drew ?_) | (with_reducible refine below_drewN ?_ _) | (with_reducible refine bel_put ?_ (by first | exact Nat.le_refl _ | (simp; done) | (simp; omega)) _)))) (by omega)).mono ?_; rintro e W7 ⟨csv, Fv, rfl, o_v, Nv, hb_⟩; have hs7 : Below W6.heap.size W6 W7 := bel_trans (by repeat (first | (with_reducible exact Below.refl _ _) | (with_reducible assumption) | (with_reducible refine bel_alloc ?_ _) | (with_reducible refine bel_drew ?_) | (with_reducible refine below_drewN ?_ _) | (with_reducible refine bel_put ?_ (by first | exact Nat.le_refl _ | (simp; done) | (simp; omega)) _))) hb_)
      | (go_at_call 44; refine (o_eqPool ((tPool).reach ((tPool).reach ((tPool).read o_x) hs7) (by repeat (first | (with_reducible exact Below.refl _ _) | (with_reducible assumption) | (with_reducible refine bel_alloc ?_ _) | (with_reducible refine bel_drew ?_) | (with_reducible refine below_drewN ?_ _) | (with_reducible refine bel_put ?_ (by first | exact Nat.le_refl _ | (simp; done) | (simp; omega)) _)))) ((tPool).reach ((tPool).read o_v) (by repeat (first | (with_reducible exact Below.refl _ _) | (with_reducible assumption) | (with_reducible refine bel_alloc ?_ _) | (with_reducible refine bel_drew ?_) | (with_reducible refine below_drewN ?_ _) | (with_reducible refine bel_put ?_ (by first | exact Nat.le_refl _ | (simp; done) | (simp; omega)) _))))).mono ?_; rintro e W8 ⟨rfl, hb2_⟩; have hs8' : Below W6.heap.size W6 W8 := bel_trans hs7 (bel_trans (by repeat (first | (with_reducible exact Below.refl _ _) | (with_reducible assumption) | (with_reducible refine bel_alloc ?_ _) | (with_reducible refine bel_drew ?_) | (with_reducible refine below_drewN ?_ _) | (with_reducible refine bel_put ?_ (by first | exact Nat.le_refl _ | (simp; done) | (simp; omega)) _))) hb2_); have hs8 := hs8'))
  clear o_v Nv hb_ hb2_ hs7
  clear k_Ba_0 k_Ba_1
  clear k_Bx_0 k_Bx_1
  have z8 : W6.heap.size + 0 ≤ W8.heap.size := hs8'.size
  have hB8 : Below w.heap.size w W8 := bel_trans hB6 hs8'
  replace Ba := Ba.below hs8' Ba.size
  replace Bx := Bx.below hs8' Bx.size
  replace o_x := Ty.below (t := tPool) o_x hs8'
  replace o_g0 := Ty.below (t := tBy) o_g0 hs8'
  replace r_s0 := (tBy).keep r_s0 (fun b hb => hs8'.block b (Nat.lt_of_lt_of_le hb (by omega)))
  have k_Ba_0 : W8.cell? ⟨w.heap.size, 0, none⟩ = some (.slice Aa00 na00 ca00) := Ba.cell 0
  have k_Ba_1 : W8.cell? ⟨w.heap.size, 1, none⟩ = some (.slice Aa01 na01 ca01) := Ba.cell 1
  have k_Bx_0 : W8.cell? ⟨W4.heap.size, 0, none⟩ = some (.slice Ax0 (p0.1).length cx0) := Bx.cell 0
  have k_Bx_1 : W8.cell? ⟨W4.heap.size, 1, none⟩ = some (.slice Ax1 (p0.2).length cx1) := Bx.cell 1
  go_wp2_with fail
  refine (o_markPool (1) o_x Dx (by omega) (by omega)).mono ?_
  rintro e W9 ⟨rfl, om_, hG_⟩
  clear k_Ba_0 k_Ba_1
  clear k_Bx_0 k_Bx_1
  replace o_x := om_
  clear om_
  have z9 : W8.heap.size + 0 ≤ W9.heap.size := hG_.size
  have hB9 : Below w.heap.size w W9 := hB8.trans (hG_.below (fun f hf => by have := Ix f hf; omega) (by have := hB8.size; omega))
  replace Ba := Ba.same (hG_.block _ Ba.size (fun hx => by have := Ix _ hx; omega))
  replace Bx := Bx.same (hG_.block _ Bx.size (fun hx => by have := Ix _ hx; omega))
  replace o_g0 := Ty.only (t := tBy) o_g0 hG_ (fun f hf hx => by have := Ig0 f hf; have := Ix f hx; omega)
  replace r_s0 := (tBy).keep r_s0 (fun b hb => hG_.block b (Nat.lt_of_lt_of_le hb (by omega)) (fun hx => by have := Ix b hx; omega))
  have k_Ba_0 : W9.cell? ⟨w.heap.size, 0, none⟩ = some (.slice Aa00 na00 ca00) := Ba.cell 0
  have k_Ba_1 : W9.cell? ⟨w.heap.size, 1, none⟩ = some (.slice Aa01 na01 ca01) := Ba.cell 1
  have k_Bx_0 : W9.cell? ⟨W4.heap.size, 0, none⟩ = some (.slice Ax0 (p0.1).length cx0) := Bx.cell 0
  have k_Bx_1 : W9.cell? ⟨W4.heap.size, 1, none⟩ = some (.slice Ax1 (p0.2).length cx1) := Bx.cell 1
  clear hG_
  have dk : decide ((1 + ((cntPool (p0) : Nat) : Int) : Int) < 0) = false := by simp; omega
  clear o_x Ix Dx
  go_wp2_with fail
  refine (o_eqByteS ((tBy).reach ((tBy).read o_g0) ?hB) ((tBy).reach ((tBy).up r_s0 (by omega : W3.heap.size ≤ W9.heap.size)) ?hB)).mono ?_
  all_goals try (case hB => exact (by repeat (first | (with_reducible exact Below.refl _ _) | (with_reducible assumption) | (with_reducible refine bel_alloc ?_ _) | (with_reducible refine bel_drew ?_) | (with_reducible refine below_drewN ?_ _) | (with_reducible refine bel_put ?_ (by first | exact Nat.le_refl _ | (simp; done) | (simp; omega)) _))))
  rintro e W10 ⟨rfl, hb_⟩
  clear k_Ba_0 k_Ba_1
  clear k_Bx_0 k_Bx_1
  have hs10 : Below W9.heap.size W9 W10 := bel_trans (by repeat (first | (with_reducible exact Below.refl _ _) | (with_reducible assumption) | (with_reducible refine bel_alloc ?_ _) | (with_reducible refine bel_drew ?_) | (with_reducible refine below_drewN ?_ _) | (with_reducible refine bel_put ?_ (by first | exact Nat.le_refl _ | (simp; done) | (simp; omega)) _))) hb_
  have z10 : W9.heap.size + 0 ≤ W10.heap.size := by have := hb_.size; simpa using this
  have hB10 : Below w.heap.size w W10 := bel_trans hB9 hs10
  replace Ba := Ba.below hs10 Ba.size
  replace Bx := Bx.below hs10 Bx.size
  replace o_g0 := Ty.below (t := tBy) o_g0 hs10
  replace r_s0 := (tBy).keep r_s0 (fun b hb => hs10.block b (Nat.lt_of_lt_of_le hb (by omega)))
  have k_Ba_0 : W10.cell? ⟨w.heap.size, 0, none⟩ = some (.slice Aa00 na00 ca00) := Ba.cell 0
  have k_Ba_1 : W10.cell? ⟨w.heap.size, 1, none⟩ = some (.slice Aa01 na01 ca01) := Ba.cell 1
  have k_Bx_0 : W10.cell? ⟨W4.heap.size, 0, none⟩ = some (.slice Ax0 (p0.1).length cx0) := Bx.cell 0
  have k_Bx_1 : W10.cell? ⟨W4.heap.size, 1, none⟩ = some (.slice Ax1 (p0.2).length cx1) := Bx.cell 1
  clear hb_
  go_wp2_with fail
  refine (o_markByteS (1) o_g0 (by omega) (by omega)).mono ?_
  rintro e W11 ⟨rfl, om_, hG_⟩
  clear k_Ba_0 k_Ba_1
  clear k_Bx_0 k_Bx_1
  replace o_g0 := om_
  clear om_
  have z11 : W10.heap.size + 0 ≤ W11.heap.size := hG_.size
  have hB11 : Below w.heap.size w W11 := hB10.trans (hG_.below (fun f hf => by have := Ig0 f hf; omega) (by have := hB10.size; omega))
  replace Ba := Ba.same (hG_.block _ Ba.size (fun hx => by have := Ig0 _ hx; omega))
  replace Bx := Bx.same (hG_.block _ Bx.size (fun hx => by have := Ig0 _ hx; omega))
  replace r_s0 := (tBy).keep r_s0 (fun b hb => hG_.block b (Nat.lt_of_lt_of_le hb (by omega)) (fun hx => by have := Ig0 b hx; omega))
  have k_Ba_0 : W11.cell? ⟨w.heap.size, 0, none⟩ = some (.slice Aa00 na00 ca00) := Ba.cell 0
  have k_Ba_1 : W11.cell? ⟨w.heap.size, 1, none⟩ = some (.slice Aa01 na01 ca01) := Ba.cell 1
  have k_Bx_0 : W11.cell? ⟨W4.heap.size, 0, none⟩ = some (.slice Ax0 (p0.1).length cx0) := Bx.cell 0
  have k_Bx_1 : W11.cell? ⟨W4.heap.size, 1, none⟩ = some (.slice Ax1 (p0.2).length cx1) := Bx.cell 1
  clear hG_
  have dm : (((1 + (((r0).length : Nat) : Int) : Int)) != (1 + (((r0).length : Nat) : Int))) = false := by simp
  have dh0 : decide ((1 + (((r0).length : Nat) : Int) : Int) < 0) = false := by simp; omega
  go_wp2_with fail
  refine (o_heldByteS (1) ((tBy).reach ((tBy).read o_g0) ?hB) (by omega) (by omega)).mono ?_
  all_goals try (case hB => exact (by repeat (first | (with_reducible exact Below.refl _ _) | (with_reducible assumption) | (with_reducible refine bel_alloc ?_ _) | (with_reducible refine bel_drew ?_) | (with_reducible refine below_drewN ?_ _) | (with_reducible refine bel_put ?_ (by first | exact Nat.le_refl _ | (simp; done) | (simp; omega)) _))))
  rintro e W12 ⟨rfl, hb_⟩
  clear k_Ba_0 k_Ba_1
  clear k_Bx_0 k_Bx_1
  have hs12 : Below W11.heap.size W11 W12 := bel_trans (by repeat (first | (with_reducible exact Below.refl _ _) | (with_reducible assumption) | (with_reducible refine bel_alloc ?_ _) | (with_reducible refine bel_drew ?_) | (with_reducible refine below_drewN ?_ _) | (with_reducible refine bel_put ?_ (by first | exact Nat.le_refl _ | (simp; done) | (simp; omega)) _))) hb_
  have z12 : W11.heap.size + 0 ≤ W12.heap.size := by have := hb_.size; simpa using this
  have hB12 : Below w.heap.size w W12 := bel_trans hB11 hs12
  replace Ba := Ba.below hs12 Ba.size
  replace Bx := Bx.below hs12 Bx.size
  replace o_g0 := Ty.below (t := tBy) o_g0 hs12
  replace r_s0 := (tBy).keep r_s0 (fun b hb => hs12.block b (Nat.lt_of_lt_of_le hb (by omega)))
  have k_Ba_0 : W12.cell? ⟨w.heap.size, 0, none⟩ = some (.slice Aa00 na00 ca00) := Ba.cell 0
  have k_Ba_1 : W12.cell? ⟨w.heap.size, 1, none⟩ = some (.slice Aa01 na01 ca01) := Ba.cell 1
  have k_Bx_0 : W12.cell? ⟨W4.heap.size, 0, none⟩ = some (.slice Ax0 (p0.1).length cx0) := Bx.cell 0
  have k_Bx_1 : W12.cell? ⟨W4.heap.size, 1, none⟩ = some (.slice Ax1 (p0.2).length cx1) := Bx.cell 1
  clear hb_
  go_wp2_with fail
  refine (o_toPool ((tPool).reach ((tPool).reach h0 hB12) ?hB) (by omega)).mono ?_
  all_goals try (case hB => exact (by repeat (first | (with_reducible exact Below.refl _ _) | (with_reducible assumption) | (with_reducible refine bel_alloc ?_ _) | (with_reducible refine bel_drew ?_) | (with_reducible refine below_drewN ?_ _) | (with_reducible refine bel_put ?_ (by first | exact Nat.le_refl _ | (simp; done) | (simp; omega)) _))))
  rintro e W13 ⟨csy, Fy, rfl, o_y, Ny, hb_⟩
  clear k_Ba_0 k_Ba_1
  clear k_Bx_0 k_Bx_1
  have Iy : ∀ f ∈ Fy, W12.heap.size + 0 ≤ f ∧ f < W13.heap.size := fun f hf => ⟨Nat.le_trans (by first | (simp; done) | (simp; omega)) (Ny.2 f hf), (tPool).lt o_y f hf⟩
  have Dy := Ny.1
  clear Ny
  obtain ⟨Ay0, cy0, Fy0, Ay1, cy1, Fy1, rfl, -, -, -, -, -, -, -⟩ := openOPool o_y
  have hs13 : Below W12.heap.size W12 W13 := bel_trans (by repeat (first | (with_reducible exact Below.refl _ _) | (with_reducible assumption) | (with_reducible refine bel_alloc ?_ _) | (with_reducible refine bel_drew ?_) | (with_reducible refine below_drewN ?_ _) | (with_reducible refine bel_put ?_ (by first | exact Nat.le_refl _ | (simp; done) | (simp; omega)) _))) hb_
  have z13 : W12.heap.size + 0 ≤ W13.heap.size := by have := hb_.size; simpa using this
  have hB13 : Below w.heap.size w W13 := bel_trans hB12 hs13
  replace Ba := Ba.below hs13 Ba.size
  replace Bx := Bx.below hs13 Bx.size
  replace o_g0 := Ty.below (t := tBy) o_g0 hs13
  replace r_s0 := (tBy).keep r_s0 (fun b hb => hs13.block b (Nat.lt_of_lt_of_le hb (by omega)))
  have k_Ba_0 : W13.cell? ⟨w.heap.size, 0, none⟩ = some (.slice Aa00 na00 ca00) := Ba.cell 0
  have k_Ba_1 : W13.cell? ⟨w.heap.size, 1, none⟩ = some (.slice Aa01 na01 ca01) := Ba.cell 1
  have k_Bx_0 : W13.cell? ⟨W4.heap.size, 0, none⟩ = some (.slice Ax0 (p0.1).length cx0) := Bx.cell 0
  have k_Bx_1 : W13.cell? ⟨W4.heap.size, 1, none⟩ = some (.slice Ax1 (p0.2).length cx1) := Bx.cell 1
  clear hb_
  go_wp2_with fail
  refine (i_PoolBytes ((tPool).reach ((tPool).read o_y) ?hB) (by omega)).mono ?_
  all_goals try (case hB => exact (by repeat (first | (with_reducible exact Below.refl _ _) | (with_reducible assumption) | (with_reducible refine bel_alloc ?_ _) | (with_reducible refine bel_drew ?_) | (with_reducible refine below_drewN ?_ _) | (with_reducible refine bel_put ?_ (by first | exact Nat.le_refl _ | (simp; done) | (simp; omega)) _))))
  rintro e W14 ⟨Ah0, ch0, Fh0, rfl, o_h0, Nh, hb_⟩
  clear k_Ba_0 k_Ba_1
  clear k_Bx_0 k_Bx_1
  clear o_y Iy Dy
  rw [HR0.out] at o_h0
  rw [HR0.out]
  rw [HR1.out]
  have Ih0 : ∀ f ∈ Fh0, W13.heap.size + 0 ≤ f ∧ f < W14.heap.size := fun f hf => ⟨Nat.le_trans (by first | (simp; done) | (simp; omega)) (Nh.2 f (by simp [hf])), (tBy).lt o_h0 f hf⟩
  have Dh0 := Nh.1
  clear Nh
  have hs14 : Below W13.heap.size W13 W14 := bel_trans (by repeat (first | (with_reducible exact Below.refl _ _) | (with_reducible assumption) | (with_reducible refine bel_alloc ?_ _) | (with_reducible refine bel_drew ?_) | (with_reducible refine below_drewN ?_ _) | (with_reducible refine bel_put ?_ (by first | exact Nat.le_refl _ | (simp; done) | (simp; omega)) _))) hb_
  have z14 : W13.heap.size + 0 ≤ W14.heap.size := by have := hb_.size; simpa using this
  have hB14 : Below w.heap.size w W14 := bel_trans hB13 hs14
  replace Ba := Ba.below hs14 Ba.size
  replace Bx := Bx.below hs14 Bx.size
  replace o_g0 := Ty.below (t := tBy) o_g0 hs14
  replace r_s0 := (tBy).keep r_s0 (fun b hb => hs14.block b (Nat.lt_of_lt_of_le hb (by omega)))
  have k_Ba_0 : W14.cell? ⟨w.heap.size, 0, none⟩ = some (.slice Aa00 na00 ca00) := Ba.cell 0
  have k_Ba_1 : W14.cell? ⟨w.heap.size, 1, none⟩ = some (.slice Aa01 na01 ca01) := Ba.cell 1
  have k_Bx_0 : W14.cell? ⟨W4.heap.size, 0, none⟩ = some (.slice Ax0 (p0.1).length cx0) := Bx.cell 0
  have k_Bx_1 : W14.cell? ⟨W4.heap.size, 1, none⟩ = some (.slice Ax1 (p0.2).length cx1) := Bx.cell 1
  clear hb_
  go_wp2_with fail
  refine (o_eqByteS ((tBy).reach ((tBy).read o_h0) ?hB) ((tBy).reach ((tBy).up r_s0 (by omega : W3.heap.size ≤ W14.heap.size)) ?hB)).mono ?_
  all_goals try (case hB => exact (by repeat (first | (with_reducible exact Below.refl _ _) | (with_reducible assumption) | (with_reducible refine bel_alloc ?_ _) | (with_reducible refine bel_drew ?_) | (with_reducible refine below_drewN ?_ _) | (with_reducible refine bel_put ?_ (by first | exact Nat.le_refl _ | (simp; done) | (simp; omega)) _))))
  rintro e W15 ⟨rfl, hb_⟩
  clear k_Ba_0 k_Ba_1
  clear k_Bx_0 k_Bx_1
  have hs15 : Below W14.heap.size W14 W15 := bel_trans (by repeat (first | (with_reducible exact Below.refl _ _) | (with_reducible assumption) | (with_reducible refine bel_alloc ?_ _) | (with_reducible refine bel_drew ?_) | (with_reducible refine below_drewN ?_ _) | (with_reducible refine bel_put ?_ (by first | exact Nat.le_refl _ | (simp; done) | (simp; omega)) _))) hb_
  have z15 : W14.heap.size + 0 ≤ W15.heap.size := by have := hb_.size; simpa using this
  have hB15 : Below w.heap.size w W15 := bel_trans hB14 hs15
  replace Ba := Ba.below hs15 Ba.size
  replace Bx := Bx.below hs15 Bx.size
  replace o_g0 := Ty.below (t := tBy) o_g0 hs15
  replace o_h0 := Ty.below (t := tBy) o_h0 hs15
  replace r_s0 := (tBy).keep r_s0 (fun b hb => hs15.block b (Nat.lt_of_lt_of_le hb (by omega)))
  have k_Ba_0 : W15.cell? ⟨w.heap.size, 0, none⟩ = some (.slice Aa00 na00 ca00) := Ba.cell 0
  have k_Ba_1 : W15.cell? ⟨w.heap.size, 1, none⟩ = some (.slice Aa01 na01 ca01) := Ba.cell 1
  have k_Bx_0 : W15.cell? ⟨W4.heap.size, 0, none⟩ = some (.slice Ax0 (p0.1).length cx0) := Bx.cell 0
  have k_Bx_1 : W15.cell? ⟨W4.heap.size, 1, none⟩ = some (.slice Ax1 (p0.2).length cx1) := Bx.cell 1
  clear hb_
  go_wp2_with fail
  refine (o_heldByteS (1) ((tBy).reach ((tBy).read o_g0) ?hB) (by omega) (by omega)).mono ?_
  all_goals try (case hB => exact (by repeat (first | (with_reducible exact Below.refl _ _) | (with_reducible assumption) | (with_reducible refine bel_alloc ?_ _) | (with_reducible refine bel_drew ?_) | (with_reducible refine below_drewN ?_ _) | (with_reducible refine bel_put ?_ (by first | exact Nat.le_refl _ | (simp; done) | (simp; omega)) _))))
  rintro e W16 ⟨rfl, hb_⟩
  clear k_Ba_0 k_Ba_1
  clear k_Bx_0 k_Bx_1
  have hs16 : Below W15.heap.size W15 W16 := bel_trans (by repeat (first | (with_reducible exact Below.refl _ _) | (with_reducible assumption) | (with_reducible refine bel_alloc ?_ _) | (with_reducible refine bel_drew ?_) | (with_reducible refine below_drewN ?_ _) | (with_reducible refine bel_put ?_ (by first | exact Nat.le_refl _ | (simp; done) | (simp; omega)) _))) hb_
  have z16 : W15.heap.size + 0 ≤ W16.heap.size := by have := hb_.size; simpa using this
  have hB16 : Below w.heap.size w W16 := bel_trans hB15 hs16
  replace Ba := Ba.below hs16 Ba.size
  replace Bx := Bx.below hs16 Bx.size
  replace o_g0 := Ty.below (t := tBy) o_g0 hs16
  replace o_h0 := Ty.below (t := tBy) o_h0 hs16
  replace r_s0 := (tBy).keep r_s0 (fun b hb => hs16.block b (Nat.lt_of_lt_of_le hb (by omega)))
  have k_Ba_0 : W16.cell? ⟨w.heap.size, 0, none⟩ = some (.slice Aa00 na00 ca00) := Ba.cell 0
  have k_Ba_1 : W16.cell? ⟨w.heap.size, 1, none⟩ = some (.slice Aa01 na01 ca01) := Ba.cell 1
  have k_Bx_0 : W16.cell? ⟨W4.heap.size, 0, none⟩ = some (.slice Ax0 (p0.1).length cx0) := Bx.cell 0
  have k_Bx_1 : W16.cell? ⟨W4.heap.size, 1, none⟩ = some (.slice Ax1 (p0.2).length cx1) := Bx.cell 1
  clear hb_
  go_wp2_with fail
  go_ret
  exact ⟨rfl, hB16⟩

/-! ### THE ROW's STEP -/
set_option maxHeartbeats 400000 in
set_option maxRecDepth 100000 in
theorem lifted (os : Os) (started : os.Started) (H : Type) (enc : TypeId × Value → H) :
    ReturnsInHanded {} Try.checked os 10 .any (Rows.fnExactPoolBytesSpec.pre6 enc Try.prog Try.f10 Rows.fnExactPoolBytesRow.domain false) (Rows.fnExactPoolBytesSpec.post enc Try.prog Try.f10 false true false false) := by
  refine returnsInHanded_of_change (C := Try.checked) own started (by kernel_rfl) Try.func10
    (ChangeSpec.witness6 (enc := enc) (C := Try.checked) false ⟨#[], #[.agg #[.slice none 0 0, .slice none 0 0]], []⟩ 8 (by kernel_rfl) (by kernel_rfl) (by kernel_rfl) (by kernel_rfl)) ?_
  intro W base args ds gs before hval0 hW hcnd _
  have hval : ∀ (j : Nat) t v, Try.f10.params[j]? = some t → args[j]? = some v → Value.okWide Try.prog W .any base t v := hval0
  have hW' := hW
  obtain ⟨p, q, hA0, hV, rfl, hfz, hnd⟩ := hW
  have hA : DataW.TrodAll enc Try.prog W 0 (fun _ => true) true Try.f10.params.toList args.toList ds p := hA0
  rw [Try.params10] at hA hval
  obtain ⟨v0, vs0, d0, ds0, p0, q0, hargs, rfl, rfl, h0, r0⟩ := trodAll_cons hA
  obtain ⟨rfl, rfl, rfl⟩ := trodAll_nil r0
  obtain rfl : args = #[v0] := by cases args; simp_all
  obtain ⟨rfl, rfl⟩ := trodVars_none hV
  obtain ⟨cs0, rfl, hsz0⟩ := okWide_struct Try.underlying63 (hval 0 63 v0 rfl rfl)
  have k0 := h0
  have lt0 : ∀ x ∈ p0, x.block < W.heap.size := by obtain ⟨m, hm⟩ := k0; exact DataW.trod_lt m _ _ _ hm
  obtain ⟨x0, w0⟩ : ∃ a, tPool.R W W.heap.size cs0.toList a := by
    obtain ⟨fuel, hf⟩ := h0
    exact frR_Pool fuel _ _ (by simpa [Value.cells] using hf)
  clear hA0 hval0
  refine (walk cs0 x0 W w0).mono fun e W' ⟨he, bel⟩ => ?_
  subst he
  exact ⟨_, rfl, _, _, _, [], _, [], hW', trodAll_mk1 (shut_bool Try.underlying4 _), (trodAll_cons_mk (Below.trod laidOut (by kernel_rfl) (of_decide_eq_true (by kernel_rfl)) k0 bel lt0) trodAll_mk0), rfl, bel.frame _, fun h => by cases h⟩

theorem over : Rows.fnExactPoolBytesRow.holds Try.pinned (OpenSpec.ofChange Rows.fnExactPoolBytesSpec) :=
  OpenClaim.holds_of_wide 10 Try.f10 rfl rfl rfl rfl rfl rfl rfl ⟨rfl, rfl, rfl, rfl, rfl⟩ rfl rfl rfl rfl rfl (by kernel_rfl) Try.func10 (by kernel_rfl)
    (of_decide_eq_true (by kernel_rfl)) (by unfold Func.isWrapper; first | (rw [if_pos (by decide +kernel)]; kernel_rfl) | (rw [if_neg (by decide +kernel)]; exact ⟨rfl, rfl⟩))
    (fun os started H enc _ => lifted os started H enc)

theorem proved : Rows.FnExactPoolBytesSaid := over
#print axioms proved
end Go.Proofs.Ytgepeppmhfnbeaa.fnExactPoolBytes
