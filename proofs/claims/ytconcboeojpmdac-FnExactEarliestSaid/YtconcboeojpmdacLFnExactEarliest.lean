/-
  For every argument (in all at most 2^20 elements) the program's Earliest answers as its model does, in every field, writes into no argument, and its answer owns its memory. No further condition.
-/
import Derived.Test.YtconcboeojpmdacRows
import Derived.Test.YtconcboeojpmdacFr
import Derived.WalkKit
import Derived.ProofKit
import Derived.OpenShut
import Derived.ShutString
import Derived.ChangeOld
import Derived.Below
import Derived.Test.YtconcboeojpmdacLPool
import Derived.Test.YtconcboeojpmdacPEar
import Derived.Deep.RegionHeld3
namespace Go.Proofs.Ytconcboeojpmdac.fnExactEarliest
open Go.ChangeShapes Go.WideShapes Go.ChangeAt Go.RowKit
open Go.ChangeMaps (open_string shut_string)
set_option linter.unusedVariables false

open Go.Proofs.Ytconcboeojpmdac
theorem own : ownKnob Try.prog.godebug = none := by kernel_rfl
theorem laidOut : laidOutB Try.prog = true := by kernel_rfl



/-! ### STEP 1: the walk -/
set_option maxRecDepth 100000 in
set_option maxHeartbeats 2000000 in
theorem walk (cs0 : Array Value) (p0 : DPool) (w : World) (h0 : tPool.R w w.heap.size cs0.toList p0) :
    Calls Try.prog 13 #[.agg cs0] w fun e w' => e = .returned (.bool true) ∧ Below w.heap.size w w' := by
  obtain ⟨cs0⟩ := cs0
  replace h0 : tPool.R w w.heap.size cs0 p0 := h0
  obtain ⟨Aa00, na00, ca00, Aa01, na01, ca01, rfl, -, -, -, -, -, -, -, -⟩ := openPool h0
  by_cases hz0 : szPool (p0) ≤ 1048576
  rotate_left
  · go_enter Try.func13, Try.ntmps13
    go_wp2_with fail
    refine (o_szPool_f ((tPool).reach h0 ?hB) (by omega) (by omega) (by omega)).mono ?_
    case hB => exact (by repeat (first | (with_reducible exact Below.refl _ _) | (with_reducible assumption) | (with_reducible refine bel_alloc ?_ _) | (with_reducible refine bel_drew ?_) | (with_reducible refine below_drewN ?_ _) | (with_reducible refine bel_put ?_ (by first | exact Nat.le_refl _ | (simp; done) | (simp; omega)) _)))
    rintro e W1 ⟨rfl, hb1⟩
    go_wp2
    go_ret
    exact ⟨rfl, bel_trans (by repeat (first | (with_reducible exact Below.refl _ _) | (with_reducible assumption) | (with_reducible refine bel_alloc ?_ _) | (with_reducible refine bel_drew ?_) | (with_reducible refine below_drewN ?_ _) | (with_reducible refine bel_put ?_ (by first | exact Nat.le_refl _ | (simp; done) | (simp; omega)) _))) hb1⟩
  have dz : decide ((1048576 : Int) - ((szPool (p0) : Nat) : Int) < 0) = false := by simp; omega
  obtain ⟨r0, hr0⟩ : ∃ r, fEar p0 = r := ⟨_, rfl⟩
  have HR0 := Lib.hid hr0
  have qr0 : (r0 != r0) = false := by simp
  clear hr0
  have hcp := cntPool_le (p0)
  go_enter Try.func13, Try.ntmps13
  go_wp2_with fail
  refine (o_szPool_t ((tPool).reach h0 ?hB) (by omega) (by omega) (by omega)).mono ?_
  all_goals try (case hB => exact (by repeat (first | (with_reducible exact Below.refl _ _) | (with_reducible assumption) | (with_reducible refine bel_alloc ?_ _) | (with_reducible refine bel_drew ?_) | (with_reducible refine below_drewN ?_ _) | (with_reducible refine bel_put ?_ (by first | exact Nat.le_refl _ | (simp; done) | (simp; omega)) _))))
  rintro e W1 ⟨rfl, hb_⟩
  have hs1 : Below w.heap.size w W1 := bel_trans (by repeat (first | (with_reducible exact Below.refl _ _) | (with_reducible assumption) | (with_reducible refine bel_alloc ?_ _) | (with_reducible refine bel_drew ?_) | (with_reducible refine below_drewN ?_ _) | (with_reducible refine bel_put ?_ (by first | exact Nat.le_refl _ | (simp; done) | (simp; omega)) _))) hb_
  have z1 : w.heap.size + 1 ≤ W1.heap.size := by have := hb_.size; simpa using this
  have hB1 : Below w.heap.size w W1 := hs1
  have Ba : Box W1 (w.heap.size) 38 #[.slice Aa00 na00 ca00, .slice Aa01 na01 ca01] := Box.below (Box.new _ _ _) hb_ (by first | (simp; done) | (simp; omega))
  have k_Ba_0 : W1.cell? ⟨w.heap.size, 0, none⟩ = some (.slice Aa00 na00 ca00) := Ba.cell 0
  have k_Ba_1 : W1.cell? ⟨w.heap.size, 1, none⟩ = some (.slice Aa01 na01 ca01) := Ba.cell 1
  clear hb_
  go_wp2_with fail
  refine (o_toPool ((tPool).reach ((tPool).reach h0 hB1) ?hB) (by omega)).mono ?_
  all_goals try (case hB => exact (by repeat (first | (with_reducible exact Below.refl _ _) | (with_reducible assumption) | (with_reducible refine bel_alloc ?_ _) | (with_reducible refine bel_drew ?_) | (with_reducible refine below_drewN ?_ _) | (with_reducible refine bel_put ?_ (by first | exact Nat.le_refl _ | (simp; done) | (simp; omega)) _))))
  rintro e W2 ⟨csy, Fy, rfl, o_y, Ny, hb_⟩
  clear k_Ba_0 k_Ba_1
  have Iy : ∀ f ∈ Fy, W1.heap.size + 0 ≤ f ∧ f < W2.heap.size := fun f hf => ⟨Nat.le_trans (by first | (simp; done) | (simp; omega)) (Ny.2 f hf), (tPool).lt o_y f hf⟩
  have Dy := Ny.1
  clear Ny
  obtain ⟨Ay0, cy0, Fy0, Ay1, cy1, Fy1, rfl, -, -, -, -, -, -, -⟩ := openOPool o_y
  have hs2 : Below W1.heap.size W1 W2 := bel_trans (by repeat (first | (with_reducible exact Below.refl _ _) | (with_reducible assumption) | (with_reducible refine bel_alloc ?_ _) | (with_reducible refine bel_drew ?_) | (with_reducible refine below_drewN ?_ _) | (with_reducible refine bel_put ?_ (by first | exact Nat.le_refl _ | (simp; done) | (simp; omega)) _))) hb_
  have z2 : W1.heap.size + 0 ≤ W2.heap.size := by have := hb_.size; simpa using this
  have hB2 : Below w.heap.size w W2 := bel_trans hB1 hs2
  replace Ba := Ba.below hs2 Ba.size
  have k_Ba_0 : W2.cell? ⟨w.heap.size, 0, none⟩ = some (.slice Aa00 na00 ca00) := Ba.cell 0
  have k_Ba_1 : W2.cell? ⟨w.heap.size, 1, none⟩ = some (.slice Aa01 na01 ca01) := Ba.cell 1
  clear hb_
  go_wp2_with fail
  refine (s_Earliest ((tPool).reach ((tPool).read o_y) ?hB) (by omega)).mono ?_
  all_goals try (case hB => exact (by repeat (first | (with_reducible exact Below.refl _ _) | (with_reducible assumption) | (with_reducible refine bel_alloc ?_ _) | (with_reducible refine bel_drew ?_) | (with_reducible refine below_drewN ?_ _) | (with_reducible refine bel_put ?_ (by first | exact Nat.le_refl _ | (simp; done) | (simp; omega)) _))))
  rintro e W3 ⟨rfl, hb_⟩
  clear k_Ba_0 k_Ba_1
  clear o_y Iy Dy
  rw [HR0.out]
  have hs3 : Below W2.heap.size W2 W3 := bel_trans (by repeat (first | (with_reducible exact Below.refl _ _) | (with_reducible assumption) | (with_reducible refine bel_alloc ?_ _) | (with_reducible refine bel_drew ?_) | (with_reducible refine below_drewN ?_ _) | (with_reducible refine bel_put ?_ (by first | exact Nat.le_refl _ | (simp; done) | (simp; omega)) _))) hb_
  have z3 : W2.heap.size + 0 ≤ W3.heap.size := by have := hb_.size; simpa using this
  have hB3 : Below w.heap.size w W3 := bel_trans hB2 hs3
  replace Ba := Ba.below hs3 Ba.size
  have k_Ba_0 : W3.cell? ⟨w.heap.size, 0, none⟩ = some (.slice Aa00 na00 ca00) := Ba.cell 0
  have k_Ba_1 : W3.cell? ⟨w.heap.size, 1, none⟩ = some (.slice Aa01 na01 ca01) := Ba.cell 1
  clear hb_
  go_wp2_with fail
  refine (o_toPool ((tPool).reach ((tPool).reach h0 hB3) ?hB) (by omega)).mono ?_
  all_goals try (case hB => exact (by repeat (first | (with_reducible exact Below.refl _ _) | (with_reducible assumption) | (with_reducible refine bel_alloc ?_ _) | (with_reducible refine bel_drew ?_) | (with_reducible refine below_drewN ?_ _) | (with_reducible refine bel_put ?_ (by first | exact Nat.le_refl _ | (simp; done) | (simp; omega)) _))))
  rintro e W4 ⟨csx, Fx, rfl, o_x, Nx, hb_⟩
  clear k_Ba_0 k_Ba_1
  have Ix : ∀ f ∈ Fx, W3.heap.size + 0 ≤ f ∧ f < W4.heap.size := fun f hf => ⟨Nat.le_trans (by first | (simp; done) | (simp; omega)) (Nx.2 f hf), (tPool).lt o_x f hf⟩
  have Dx := Nx.1
  clear Nx
  obtain ⟨Ax0, cx0, Fx0, Ax1, cx1, Fx1, rfl, -, -, -, -, -, -, -⟩ := openOPool o_x
  have hs4 : Below W3.heap.size W3 W4 := bel_trans (by repeat (first | (with_reducible exact Below.refl _ _) | (with_reducible assumption) | (with_reducible refine bel_alloc ?_ _) | (with_reducible refine bel_drew ?_) | (with_reducible refine below_drewN ?_ _) | (with_reducible refine bel_put ?_ (by first | exact Nat.le_refl _ | (simp; done) | (simp; omega)) _))) hb_
  have z4 : W3.heap.size + 0 ≤ W4.heap.size := by have := hb_.size; simpa using this
  have hB4 : Below w.heap.size w W4 := bel_trans hB3 hs4
  replace Ba := Ba.below hs4 Ba.size
  have k_Ba_0 : W4.cell? ⟨w.heap.size, 0, none⟩ = some (.slice Aa00 na00 ca00) := Ba.cell 0
  have k_Ba_1 : W4.cell? ⟨w.heap.size, 1, none⟩ = some (.slice Aa01 na01 ca01) := Ba.cell 1
  clear hb_
  have d_Ba_0 : (W4.alloc (.cells #[.slice Ax0 (p0.1).length cx0, .slice Ax1 (p0.2).length cx1] 43)).cell? ⟨w.heap.size, 0, none⟩ = some (.slice Aa00 na00 ca00) := (Ba.alloc _).cell 0
  have d_Ba_1 : (W4.alloc (.cells #[.slice Ax0 (p0.1).length cx0, .slice Ax1 (p0.2).length cx1] 43)).cell? ⟨w.heap.size, 1, none⟩ = some (.slice Aa01 na01 ca01) := (Ba.alloc _).cell 1
  go_wp2_with fail
  refine (i_Earliest ((tPool).reach ((tPool).read o_x) ?hB) (by omega)).mono ?_
  all_goals try (case hB => exact (by repeat (first | (with_reducible exact Below.refl _ _) | (with_reducible assumption) | (with_reducible refine bel_alloc ?_ _) | (with_reducible refine bel_drew ?_) | (with_reducible refine below_drewN ?_ _) | (with_reducible refine bel_put ?_ (by first | exact Nat.le_refl _ | (simp; done) | (simp; omega)) _))))
  rintro e W5 ⟨rfl, hb_⟩
  clear d_Ba_0 d_Ba_1
  clear k_Ba_0 k_Ba_1
  rw [HR0.out]
  have hs5 : Below W4.heap.size W4 W5 := bel_trans (by repeat (first | (with_reducible exact Below.refl _ _) | (with_reducible assumption) | (with_reducible refine bel_alloc ?_ _) | (with_reducible refine bel_drew ?_) | (with_reducible refine below_drewN ?_ _) | (with_reducible refine bel_put ?_ (by first | exact Nat.le_refl _ | (simp; done) | (simp; omega)) _))) hb_
  have z5 : W4.heap.size + 1 ≤ W5.heap.size := by have := hb_.size; simpa using this
  have hB5 : Below w.heap.size w W5 := bel_trans hB4 hs5
  replace Ba := Ba.below hs5 Ba.size
  have Bx : Box W5 (W4.heap.size) 43 #[.slice Ax0 (p0.1).length cx0, .slice Ax1 (p0.2).length cx1] := Box.below (Box.new _ _ _) hb_ (by first | (simp; done) | (simp; omega))
  replace o_x := Ty.below (t := tPool) o_x hs5
  have k_Ba_0 : W5.cell? ⟨w.heap.size, 0, none⟩ = some (.slice Aa00 na00 ca00) := Ba.cell 0
  have k_Ba_1 : W5.cell? ⟨w.heap.size, 1, none⟩ = some (.slice Aa01 na01 ca01) := Ba.cell 1
  have k_Bx_0 : W5.cell? ⟨W4.heap.size, 0, none⟩ = some (.slice Ax0 (p0.1).length cx0) := Bx.cell 0
  have k_Bx_1 : W5.cell? ⟨W4.heap.size, 1, none⟩ = some (.slice Ax1 (p0.2).length cx1) := Bx.cell 1
  clear hb_
  go_wp2_with fail
  go_region_held3 (fun w' => w'.cell? ⟨w.heap.size, 0, none⟩ = some (.slice Aa00 na00 ca00) ∧ w'.cell? ⟨w.heap.size, 1, none⟩ = some (.slice Aa01 na01 ca01) ∧ w'.cell? ⟨W4.heap.size, 0, none⟩ = some (.slice Ax0 (p0.1).length cx0) ∧ w'.cell? ⟨W4.heap.size, 1, none⟩ = some (.slice Ax1 (p0.2).length cx1)) (first | (exact ⟨k_Ba_0, k_Ba_1, k_Bx_0, k_Bx_1⟩) | (exact ⟨cell_bel hs7 k_Ba_0, cell_bel hs7 k_Ba_1, cell_bel hs7 k_Bx_0, cell_bel hs7 k_Bx_1⟩) | (exact ⟨cell_bel hs6 k_Ba_0, cell_bel hs6 k_Ba_1, cell_bel hs6 k_Bx_0, cell_bel hs6 k_Bx_1⟩) | go_keep)
    (first
      | (go_at_call 22; refine (o_toPool ((tPool).reach ((tPool).reach h0 hB5) (by repeat (first | (with_reducible exact Below.refl _ _) | (with_reducible assumption) | (with_reducible refine bel_alloc ?_ _) | (with_reducible refine bel_drew ?_) | (with_reducible refine below_drewN ?_ _) | (with_reducible refine bel_put ?_ (by first | exact Nat.le_refl _ | (simp; done) | (simp; omega)) _)))) (by omega)).mono ?_; rintro e W6 ⟨csv, Fv, rfl, o_v, Nv, hb_⟩; have hs6 : Below W5.heap.size W5 W6 := bel_trans (by repeat (first | (with_reducible exact Below.refl _ _) | (with_reducible assumption) | (with_reducible refine bel_alloc ?_ _) | (with_reducible refine bel_drew ?_) | (with_reducible refine below_drewN ?_ _) | (with_reducible refine bel_put ?_ (by first | exact Nat.le_refl _ | (simp; done) | (simp; omega)) _))) hb_)
      | (go_at_call 24; refine (o_eqPool ((tPool).reach ((tPool).reach ((tPool).read o_x) hs6) (by repeat (first | (with_reducible exact Below.refl _ _) | (with_reducible assumption) | (with_reducible refine bel_alloc ?_ _) | (with_reducible refine bel_drew ?_) | (with_reducible refine below_drewN ?_ _) | (with_reducible refine bel_put ?_ (by first | exact Nat.le_refl _ | (simp; done) | (simp; omega)) _)))) ((tPool).reach ((tPool).read o_v) (by repeat (first | (with_reducible exact Below.refl _ _) | (with_reducible assumption) | (with_reducible refine bel_alloc ?_ _) | (with_reducible refine bel_drew ?_) | (with_reducible refine below_drewN ?_ _) | (with_reducible refine bel_put ?_ (by first | exact Nat.le_refl _ | (simp; done) | (simp; omega)) _))))).mono ?_; rintro e W7 ⟨rfl, hb2_⟩; have hs7' : Below W5.heap.size W5 W7 := bel_trans hs6 (bel_trans (by repeat (first | (with_reducible exact Below.refl _ _) | (with_reducible assumption) | (with_reducible refine bel_alloc ?_ _) | (with_reducible refine bel_drew ?_) | (with_reducible refine below_drewN ?_ _) | (with_reducible refine bel_put ?_ (by first | exact Nat.le_refl _ | (simp; done) | (simp; omega)) _))) hb2_); have hs7 := hs7'))
  clear o_v Nv hb_ hb2_ hs6
  clear k_Ba_0 k_Ba_1
  clear k_Bx_0 k_Bx_1
  have z7 : W5.heap.size + 0 ≤ W7.heap.size := hs7'.size
  have hB7 : Below w.heap.size w W7 := bel_trans hB5 hs7'
  replace Ba := Ba.below hs7' Ba.size
  replace Bx := Bx.below hs7' Bx.size
  replace o_x := Ty.below (t := tPool) o_x hs7'
  have k_Ba_0 : W7.cell? ⟨w.heap.size, 0, none⟩ = some (.slice Aa00 na00 ca00) := Ba.cell 0
  have k_Ba_1 : W7.cell? ⟨w.heap.size, 1, none⟩ = some (.slice Aa01 na01 ca01) := Ba.cell 1
  have k_Bx_0 : W7.cell? ⟨W4.heap.size, 0, none⟩ = some (.slice Ax0 (p0.1).length cx0) := Bx.cell 0
  have k_Bx_1 : W7.cell? ⟨W4.heap.size, 1, none⟩ = some (.slice Ax1 (p0.2).length cx1) := Bx.cell 1
  go_wp2_with fail
  go_ret
  exact ⟨rfl, hB7⟩

/-! ### THE ROW's STEP -/
set_option maxHeartbeats 400000 in
set_option maxRecDepth 100000 in
theorem lifted (os : Os) (started : os.Started) (H : Type) (enc : TypeId × Value → H) :
    ReturnsInHanded {} Try.checked os 13 .any (Rows.fnExactEarliestSpec.pre6 enc Try.prog Try.f13 Rows.fnExactEarliestRow.domain false) (Rows.fnExactEarliestSpec.post enc Try.prog Try.f13 false true false false) := by
  refine returnsInHanded_of_change (C := Try.checked) own started (by kernel_rfl) Try.func13
    (ChangeSpec.witness6 (enc := enc) (C := Try.checked) false ⟨#[], #[.agg #[.slice none 0 0, .slice none 0 0]], []⟩ 8 (by kernel_rfl) (by kernel_rfl) (by kernel_rfl) (by kernel_rfl)) ?_
  intro W base args ds gs before hval0 hW hcnd _
  have hval : ∀ (j : Nat) t v, Try.f13.params[j]? = some t → args[j]? = some v → Value.okWide Try.prog W .any base t v := hval0
  have hW' := hW
  obtain ⟨p, q, hA0, hV, rfl, hfz, hnd⟩ := hW
  have hA : DataW.TrodAll enc Try.prog W 0 (fun _ => true) true Try.f13.params.toList args.toList ds p := hA0
  rw [Try.params13] at hA hval
  obtain ⟨v0, vs0, d0, ds0, p0, q0, hargs, rfl, rfl, h0, r0⟩ := trodAll_cons hA
  obtain ⟨rfl, rfl, rfl⟩ := trodAll_nil r0
  obtain rfl : args = #[v0] := by cases args; simp_all
  obtain ⟨rfl, rfl⟩ := trodVars_none hV
  obtain ⟨cs0, rfl, hsz0⟩ := okWide_struct Try.underlying38 (hval 0 38 v0 rfl rfl)
  have k0 := h0
  have lt0 : ∀ x ∈ p0, x.block < W.heap.size := by obtain ⟨m, hm⟩ := k0; exact DataW.trod_lt m _ _ _ hm
  obtain ⟨x0, w0⟩ : ∃ a, tPool.R W W.heap.size cs0.toList a := by
    obtain ⟨fuel, hf⟩ := h0
    exact frR_Pool fuel _ _ (by simpa [Value.cells] using hf)
  clear hA0 hval0
  refine (walk cs0 x0 W w0).mono fun e W' ⟨he, bel⟩ => ?_
  subst he
  exact ⟨_, rfl, _, _, _, [], _, [], hW', trodAll_mk1 (shut_bool Try.underlying4 _), (trodAll_cons_mk (Below.trod laidOut (by kernel_rfl) (of_decide_eq_true (by kernel_rfl)) k0 bel lt0) trodAll_mk0), rfl, bel.frame _, fun h => by cases h⟩

theorem over : Rows.fnExactEarliestRow.holds Try.pinned (OpenSpec.ofChange Rows.fnExactEarliestSpec) :=
  OpenClaim.holds_of_wide 13 Try.f13 rfl rfl rfl rfl rfl rfl rfl ⟨rfl, rfl, rfl, rfl, rfl⟩ rfl rfl rfl rfl rfl (by kernel_rfl) Try.func13 (by kernel_rfl)
    (of_decide_eq_true (by kernel_rfl)) (by unfold Func.isWrapper; first | (rw [if_pos (by decide +kernel)]; kernel_rfl) | (rw [if_neg (by decide +kernel)]; exact ⟨rfl, rfl⟩))
    (fun os started H enc _ => lifted os started H enc)

theorem proved : Rows.FnExactEarliestSaid := over
#print axioms proved
end Go.Proofs.Ytconcboeojpmdac.fnExactEarliest
