/-
  For every argument (in all at most 2^20 elements) the program's IsDone answers as its model does, in every field, writes into no argument, and its answer owns its memory. No further condition.
-/
import Derived.Test.YtgepeppmhfnbeaaRows
import Derived.Test.YtgepeppmhfnbeaaFr
import Derived.WalkKit
import Derived.ProofKit
import Derived.OpenShut
import Derived.ShutString
import Derived.ChangeOld
import Derived.Below
import Derived.Test.YtgepeppmhfnbeaaLDesk
import Derived.Test.YtgepeppmhfnbeaaPDesk2
import Derived.Deep.RegionHeld3
namespace Go.Proofs.Ytgepeppmhfnbeaa.fnExactIsDone
open Go.ChangeShapes Go.WideShapes Go.ChangeAt Go.RowKit
open Go.ChangeMaps (open_string shut_string)
set_option linter.unusedVariables false

open Go.Proofs.Ytgepeppmhfnbeaa
theorem own : ownKnob Try.prog.godebug = none := by kernel_rfl
theorem laidOut : laidOutB Try.prog = true := by kernel_rfl



/-! ### STEP 1: the walk -/
set_option maxRecDepth 100000 in
set_option maxHeartbeats 2000000 in
theorem walk (cs0 : Array Value) (p0 : DDesk) (a1 : Int) (w : World) (h0 : tDesk.R w w.heap.size cs0.toList p0) (w1 : (Lit.int .i64 a1).wf = true) :
    Calls Try.prog 14 #[.agg cs0, .int .i64 a1] w fun e w' => e = .returned (.bool true) ∧ Below w.heap.size w w' := by
  obtain ⟨cs0⟩ := cs0
  replace h0 : tDesk.R w w.heap.size cs0 p0 := h0
  obtain ⟨Aa00, na00, ca00, Aa01, na01, ca01, rfl, -, -, -, -, -, -, -, -⟩ := openDesk h0
  have rg1 := i64_rg w1
  by_cases hz0 : szDesk (p0) ≤ 1048576
  rotate_left
  · go_enter Try.func14, Try.ntmps14
    go_wp2_with fail
    refine (o_szDesk_f ((tDesk).reach h0 ?hB) (by omega) (by omega) (by omega)).mono ?_
    all_goals try (case hB => exact (by repeat (first | (with_reducible exact Below.refl _ _) | (with_reducible assumption) | (with_reducible refine bel_alloc ?_ _) | (with_reducible refine bel_drew ?_) | (with_reducible refine below_drewN ?_ _) | (with_reducible refine bel_put ?_ (by first | exact Nat.le_refl _ | (simp; done) | (simp; omega)) _))))
    rintro e W1 ⟨rfl, hb_⟩
    have hs1 : Below w.heap.size w W1 := bel_trans (by repeat (first | (with_reducible exact Below.refl _ _) | (with_reducible assumption) | (with_reducible refine bel_alloc ?_ _) | (with_reducible refine bel_drew ?_) | (with_reducible refine below_drewN ?_ _) | (with_reducible refine bel_put ?_ (by first | exact Nat.le_refl _ | (simp; done) | (simp; omega)) _))) hb_
    have z1 : w.heap.size + 1 ≤ W1.heap.size := by have := hb_.size; simpa using this
    have hB1 : Below w.heap.size w W1 := hs1
    have Ba0 : Box W1 (w.heap.size) 74 #[.slice Aa00 na00 ca00, .slice Aa01 na01 ca01] := Box.below (Box.new _ _ _) hb_ (by first | (simp; done) | (simp; omega))
    have k_Ba0_0 : W1.cell? ⟨w.heap.size, 0, none⟩ = some (.slice Aa00 na00 ca00) := Ba0.cell 0
    have k_Ba0_1 : W1.cell? ⟨w.heap.size, 1, none⟩ = some (.slice Aa01 na01 ca01) := Ba0.cell 1
    go_wp2
    go_ret
    exact ⟨rfl, hB1⟩
  have dz0 : decide ((1048576 : Int) - ((szDesk (p0) : Nat) : Int) < 0) = false := by simp; omega
  obtain ⟨r0, hr0⟩ : ∃ r, fDone p0 a1 = r := ⟨_, rfl⟩
  have HR0 := Lib.hid hr0
  have qr0 : (r0 != r0) = false := by simp
  clear hr0
  have hcp0 := cntDesk_le (p0)
  go_enter Try.func14, Try.ntmps14
  go_wp2_with fail
  refine (o_szDesk_t ((tDesk).reach h0 ?hB) (by omega) (by omega) (by omega)).mono ?_
  all_goals try (case hB => exact (by repeat (first | (with_reducible exact Below.refl _ _) | (with_reducible assumption) | (with_reducible refine bel_alloc ?_ _) | (with_reducible refine bel_drew ?_) | (with_reducible refine below_drewN ?_ _) | (with_reducible refine bel_put ?_ (by first | exact Nat.le_refl _ | (simp; done) | (simp; omega)) _))))
  rintro e W1 ⟨rfl, hb_⟩
  have hs1 : Below w.heap.size w W1 := bel_trans (by repeat (first | (with_reducible exact Below.refl _ _) | (with_reducible assumption) | (with_reducible refine bel_alloc ?_ _) | (with_reducible refine bel_drew ?_) | (with_reducible refine below_drewN ?_ _) | (with_reducible refine bel_put ?_ (by first | exact Nat.le_refl _ | (simp; done) | (simp; omega)) _))) hb_
  have z1 : w.heap.size + 1 ≤ W1.heap.size := by have := hb_.size; simpa using this
  have hB1 : Below w.heap.size w W1 := hs1
  have Ba0 : Box W1 (w.heap.size) 74 #[.slice Aa00 na00 ca00, .slice Aa01 na01 ca01] := Box.below (Box.new _ _ _) hb_ (by first | (simp; done) | (simp; omega))
  have k_Ba0_0 : W1.cell? ⟨w.heap.size, 0, none⟩ = some (.slice Aa00 na00 ca00) := Ba0.cell 0
  have k_Ba0_1 : W1.cell? ⟨w.heap.size, 1, none⟩ = some (.slice Aa01 na01 ca01) := Ba0.cell 1
  clear hb_
  go_wp2_with fail
  refine (o_toDesk ((tDesk).reach ((tDesk).reach h0 hB1) ?hB) (by omega)).mono ?_
  all_goals try (case hB => exact (by repeat (first | (with_reducible exact Below.refl _ _) | (with_reducible assumption) | (with_reducible refine bel_alloc ?_ _) | (with_reducible refine bel_drew ?_) | (with_reducible refine below_drewN ?_ _) | (with_reducible refine bel_put ?_ (by first | exact Nat.le_refl _ | (simp; done) | (simp; omega)) _))))
  rintro e W2 ⟨csy0, Fy0, rfl, o_y0, Ny0, hb_⟩
  clear k_Ba0_0 k_Ba0_1
  have Iy0 : ∀ f ∈ Fy0, W1.heap.size + 0 ≤ f ∧ f < W2.heap.size := fun f hf => ⟨Nat.le_trans (by first | (simp; done) | (simp; omega)) (Ny0.2 f hf), (tDesk).lt o_y0 f hf⟩
  have Dy0 := Ny0.1
  clear Ny0
  obtain ⟨Ay00, cy00, Fy00, Ay01, cy01, Fy01, rfl, -, -, -, -, -, -, -⟩ := openODesk o_y0
  have hs2 : Below W1.heap.size W1 W2 := bel_trans (by repeat (first | (with_reducible exact Below.refl _ _) | (with_reducible assumption) | (with_reducible refine bel_alloc ?_ _) | (with_reducible refine bel_drew ?_) | (with_reducible refine below_drewN ?_ _) | (with_reducible refine bel_put ?_ (by first | exact Nat.le_refl _ | (simp; done) | (simp; omega)) _))) hb_
  have z2 : W1.heap.size + 0 ≤ W2.heap.size := by have := hb_.size; simpa using this
  have hB2 : Below w.heap.size w W2 := bel_trans hB1 hs2
  replace Ba0 := Ba0.below hs2 Ba0.size
  have k_Ba0_0 : W2.cell? ⟨w.heap.size, 0, none⟩ = some (.slice Aa00 na00 ca00) := Ba0.cell 0
  have k_Ba0_1 : W2.cell? ⟨w.heap.size, 1, none⟩ = some (.slice Aa01 na01 ca01) := Ba0.cell 1
  clear hb_
  go_wp2_with fail
  refine (s_IsDone ((tDesk).reach ((tDesk).read o_y0) ?hB) (by omega) w1).mono ?_
  all_goals try (case hB => exact (by repeat (first | (with_reducible exact Below.refl _ _) | (with_reducible assumption) | (with_reducible refine bel_alloc ?_ _) | (with_reducible refine bel_drew ?_) | (with_reducible refine below_drewN ?_ _) | (with_reducible refine bel_put ?_ (by first | exact Nat.le_refl _ | (simp; done) | (simp; omega)) _))))
  rintro e W3 ⟨rfl, hb_⟩
  clear k_Ba0_0 k_Ba0_1
  clear o_y0 Iy0 Dy0
  rw [HR0.out]
  have hs3 : Below W2.heap.size W2 W3 := bel_trans (by repeat (first | (with_reducible exact Below.refl _ _) | (with_reducible assumption) | (with_reducible refine bel_alloc ?_ _) | (with_reducible refine bel_drew ?_) | (with_reducible refine below_drewN ?_ _) | (with_reducible refine bel_put ?_ (by first | exact Nat.le_refl _ | (simp; done) | (simp; omega)) _))) hb_
  have z3 : W2.heap.size + 0 ≤ W3.heap.size := by have := hb_.size; simpa using this
  have hB3 : Below w.heap.size w W3 := bel_trans hB2 hs3
  replace Ba0 := Ba0.below hs3 Ba0.size
  have k_Ba0_0 : W3.cell? ⟨w.heap.size, 0, none⟩ = some (.slice Aa00 na00 ca00) := Ba0.cell 0
  have k_Ba0_1 : W3.cell? ⟨w.heap.size, 1, none⟩ = some (.slice Aa01 na01 ca01) := Ba0.cell 1
  clear hb_
  go_wp2_with fail
  refine (o_toDesk ((tDesk).reach ((tDesk).reach h0 hB3) ?hB) (by omega)).mono ?_
  all_goals try (case hB => exact (by repeat (first | (with_reducible exact Below.refl _ _) | (with_reducible assumption) | (with_reducible refine bel_alloc ?_ _) | (with_reducible refine bel_drew ?_) | (with_reducible refine below_drewN ?_ _) | (with_reducible refine bel_put ?_ (by first | exact Nat.le_refl _ | (simp; done) | (simp; omega)) _))))
  rintro e W4 ⟨csx0, Fx0, rfl, o_x0, Nx0, hb_⟩
  clear k_Ba0_0 k_Ba0_1
  have Ix0 : ∀ f ∈ Fx0, W3.heap.size + 0 ≤ f ∧ f < W4.heap.size := fun f hf => ⟨Nat.le_trans (by first | (simp; done) | (simp; omega)) (Nx0.2 f hf), (tDesk).lt o_x0 f hf⟩
  have Dx0 := Nx0.1
  clear Nx0
  obtain ⟨Ax00, cx00, Fx00, Ax01, cx01, Fx01, rfl, -, -, -, -, -, -, -⟩ := openODesk o_x0
  have hs4 : Below W3.heap.size W3 W4 := bel_trans (by repeat (first | (with_reducible exact Below.refl _ _) | (with_reducible assumption) | (with_reducible refine bel_alloc ?_ _) | (with_reducible refine bel_drew ?_) | (with_reducible refine below_drewN ?_ _) | (with_reducible refine bel_put ?_ (by first | exact Nat.le_refl _ | (simp; done) | (simp; omega)) _))) hb_
  have z4 : W3.heap.size + 0 ≤ W4.heap.size := by have := hb_.size; simpa using this
  have hB4 : Below w.heap.size w W4 := bel_trans hB3 hs4
  replace Ba0 := Ba0.below hs4 Ba0.size
  have k_Ba0_0 : W4.cell? ⟨w.heap.size, 0, none⟩ = some (.slice Aa00 na00 ca00) := Ba0.cell 0
  have k_Ba0_1 : W4.cell? ⟨w.heap.size, 1, none⟩ = some (.slice Aa01 na01 ca01) := Ba0.cell 1
  clear hb_
  have d_Ba0_0 : (W4.alloc (.cells #[.slice Ax00 (p0.1).length cx00, .slice Ax01 (p0.2).length cx01] 79)).cell? ⟨w.heap.size, 0, none⟩ = some (.slice Aa00 na00 ca00) := (Ba0.alloc _).cell 0
  have d_Ba0_1 : (W4.alloc (.cells #[.slice Ax00 (p0.1).length cx00, .slice Ax01 (p0.2).length cx01] 79)).cell? ⟨w.heap.size, 1, none⟩ = some (.slice Aa01 na01 ca01) := (Ba0.alloc _).cell 1
  go_wp2_with fail
  refine (i_IsDone ((tDesk).reach ((tDesk).read o_x0) ?hB) (by omega) w1).mono ?_
  all_goals try (case hB => exact (by repeat (first | (with_reducible exact Below.refl _ _) | (with_reducible assumption) | (with_reducible refine bel_alloc ?_ _) | (with_reducible refine bel_drew ?_) | (with_reducible refine below_drewN ?_ _) | (with_reducible refine bel_put ?_ (by first | exact Nat.le_refl _ | (simp; done) | (simp; omega)) _))))
  rintro e W5 ⟨rfl, hb_⟩
  clear d_Ba0_0 d_Ba0_1
  clear k_Ba0_0 k_Ba0_1
  rw [HR0.out]
  have hs5 : Below W4.heap.size W4 W5 := bel_trans (by repeat (first | (with_reducible exact Below.refl _ _) | (with_reducible assumption) | (with_reducible refine bel_alloc ?_ _) | (with_reducible refine bel_drew ?_) | (with_reducible refine below_drewN ?_ _) | (with_reducible refine bel_put ?_ (by first | exact Nat.le_refl _ | (simp; done) | (simp; omega)) _))) hb_
  have z5 : W4.heap.size + 1 ≤ W5.heap.size := by have := hb_.size; simpa using this
  have hB5 : Below w.heap.size w W5 := bel_trans hB4 hs5
  replace Ba0 := Ba0.below hs5 Ba0.size
  have Bx0 : Box W5 (W4.heap.size) 79 #[.slice Ax00 (p0.1).length cx00, .slice Ax01 (p0.2).length cx01] := Box.below (Box.new _ _ _) hb_ (by first | (simp; done) | (simp; omega))
  replace o_x0 := Ty.below (t := tDesk) o_x0 hs5
  have k_Ba0_0 : W5.cell? ⟨w.heap.size, 0, none⟩ = some (.slice Aa00 na00 ca00) := Ba0.cell 0
  have k_Ba0_1 : W5.cell? ⟨w.heap.size, 1, none⟩ = some (.slice Aa01 na01 ca01) := Ba0.cell 1
  have k_Bx0_0 : W5.cell? ⟨W4.heap.size, 0, none⟩ = some (.slice Ax00 (p0.1).length cx00) := Bx0.cell 0
  have k_Bx0_1 : W5.cell? ⟨W4.heap.size, 1, none⟩ = some (.slice Ax01 (p0.2).length cx01) := Bx0.cell 1
  clear hb_
  go_wp2_with fail
  go_region_held3 (fun w' => w'.cell? ⟨w.heap.size, 0, none⟩ = some (.slice Aa00 na00 ca00) ∧ w'.cell? ⟨w.heap.size, 1, none⟩ = some (.slice Aa01 na01 ca01) ∧ w'.cell? ⟨W4.heap.size, 0, none⟩ = some (.slice Ax00 (p0.1).length cx00) ∧ w'.cell? ⟨W4.heap.size, 1, none⟩ = some (.slice Ax01 (p0.2).length cx01)) (first | (exact ⟨k_Ba0_0, k_Ba0_1, k_Bx0_0, k_Bx0_1⟩) | (exact ⟨cell_bel hs7 k_Ba0_0, cell_bel hs7 k_Ba0_1, cell_bel hs7 k_Bx0_0, cell_bel hs7 k_Bx0_1⟩) | (exact ⟨cell_bel hs6 k_Ba0_0, cell_bel hs6 k_Ba0_1, cell_bel hs6 k_Bx0_0, cell_bel hs6 k_Bx0_1⟩) | go_keep)
    (first
      | (go_at_call 61; refine (o_toDesk ((tDesk).reach ((tDesk).reach h0 hB5) (by repeat (first | (with_reducible exact Below.refl _ _) | (with_reducible assumption) | (with_reducible refine bel_alloc ?_ _) | (with_reducible refine bel_drew ?_) | (with_reducible refine below_drewN ?_ _) | (with_reducible refine bel_put ?_ (by first | exact Nat.le_refl _ | (simp; done) | (simp; omega)) _)))) (by omega)).mono ?_; rintro e W6 ⟨csv, Fv, rfl, o_v, Nv, hb_⟩; have hs6 : Below W5.heap.size W5 W6 := bel_trans (by repeat (first | (with_reducible exact Below.refl _ _) | (with_reducible assumption) | (with_reducible refine bel_alloc ?_ _) | (with_reducible refine bel_drew ?_) | (with_reducible refine below_drewN ?_ _) | (with_reducible refine bel_put ?_ (by first | exact Nat.le_refl _ | (simp; done) | (simp; omega)) _))) hb_)
      | (go_at_call 63; refine (o_eqDesk ((tDesk).reach ((tDesk).reach ((tDesk).read o_x0) hs6) (by repeat (first | (with_reducible exact Below.refl _ _) | (with_reducible assumption) | (with_reducible refine bel_alloc ?_ _) | (with_reducible refine bel_drew ?_) | (with_reducible refine below_drewN ?_ _) | (with_reducible refine bel_put ?_ (by first | exact Nat.le_refl _ | (simp; done) | (simp; omega)) _)))) ((tDesk).reach ((tDesk).read o_v) (by repeat (first | (with_reducible exact Below.refl _ _) | (with_reducible assumption) | (with_reducible refine bel_alloc ?_ _) | (with_reducible refine bel_drew ?_) | (with_reducible refine below_drewN ?_ _) | (with_reducible refine bel_put ?_ (by first | exact Nat.le_refl _ | (simp; done) | (simp; omega)) _))))).mono ?_; rintro e W7 ⟨rfl, hb2_⟩; have hs7' : Below W5.heap.size W5 W7 := bel_trans hs6 (bel_trans (by repeat (first | (with_reducible exact Below.refl _ _) | (with_reducible assumption) | (with_reducible refine bel_alloc ?_ _) | (with_reducible refine bel_drew ?_) | (with_reducible refine below_drewN ?_ _) | (with_reducible refine bel_put ?_ (by first | exact Nat.le_refl _ | (simp; done) | (simp; omega)) _))) hb2_); have hs7 := hs7'))
  clear o_v Nv hb_ hb2_ hs6
  clear k_Ba0_0 k_Ba0_1
  clear k_Bx0_0 k_Bx0_1
  have z7 : W5.heap.size + 0 ≤ W7.heap.size := hs7'.size
  have hB7 : Below w.heap.size w W7 := bel_trans hB5 hs7'
  replace Ba0 := Ba0.below hs7' Ba0.size
  replace Bx0 := Bx0.below hs7' Bx0.size
  replace o_x0 := Ty.below (t := tDesk) o_x0 hs7'
  have k_Ba0_0 : W7.cell? ⟨w.heap.size, 0, none⟩ = some (.slice Aa00 na00 ca00) := Ba0.cell 0
  have k_Ba0_1 : W7.cell? ⟨w.heap.size, 1, none⟩ = some (.slice Aa01 na01 ca01) := Ba0.cell 1
  have k_Bx0_0 : W7.cell? ⟨W4.heap.size, 0, none⟩ = some (.slice Ax00 (p0.1).length cx00) := Bx0.cell 0
  have k_Bx0_1 : W7.cell? ⟨W4.heap.size, 1, none⟩ = some (.slice Ax01 (p0.2).length cx01) := Bx0.cell 1
  go_wp2_with fail
  go_ret
  exact ⟨rfl, hB7⟩

/-! ### THE ROW's STEP -/
set_option maxHeartbeats 400000 in
set_option maxRecDepth 100000 in
theorem lifted (os : Os) (started : os.Started) (H : Type) (enc : TypeId × Value → H) :
    ReturnsInHanded {} Try.checked os 14 .any (Rows.fnExactIsDoneSpec.pre6 enc Try.prog Try.f14 Rows.fnExactIsDoneRow.domain false) (Rows.fnExactIsDoneSpec.post enc Try.prog Try.f14 false true false false) := by
  refine returnsInHanded_of_change (C := Try.checked) own started (by kernel_rfl) Try.func14
    (ChangeSpec.witness6 (enc := enc) (C := Try.checked) false ⟨#[], #[.agg #[.slice none 0 0, .slice none 0 0], .int .i64 0], []⟩ 8 (by kernel_rfl) (by kernel_rfl) (by kernel_rfl) (by kernel_rfl)) ?_
  intro W base args ds gs before hval0 hW hcnd _
  have hval : ∀ (j : Nat) t v, Try.f14.params[j]? = some t → args[j]? = some v → Value.okWide Try.prog W .any base t v := hval0
  have hW' := hW
  obtain ⟨p, q, hA0, hV, rfl, hfz, hnd⟩ := hW
  have hA : DataW.TrodAll enc Try.prog W 0 (fun _ => true) true Try.f14.params.toList args.toList ds p := hA0
  rw [Try.params14] at hA hval
  obtain ⟨v0, vs0, d0, ds0, p0, q0, hargs, rfl, rfl, h0, r0⟩ := trodAll_cons hA
  obtain ⟨v1, vs1, d1, ds1, p1, q1, rfl, rfl, rfl, h1, r1⟩ := trodAll_cons r0
  obtain ⟨rfl, rfl, rfl⟩ := trodAll_nil r1
  obtain rfl : args = #[v0, v1] := by cases args; simp_all
  obtain ⟨rfl, rfl⟩ := trodVars_none hV
  obtain ⟨cs0, rfl, hsz0⟩ := okWide_struct Try.underlying74 (hval 0 74 v0 rfl rfl)
  have k0 := h0
  have lt0 : ∀ x ∈ p0, x.block < W.heap.size := by obtain ⟨m, hm⟩ := k0; exact DataW.trod_lt m _ _ _ hm
  obtain ⟨x0, w0⟩ : ∃ a, tDesk.R W W.heap.size cs0.toList a := by
    obtain ⟨fuel, hf⟩ := h0
    exact frR_Desk fuel _ _ (by simpa [Value.cells] using hf)
  obtain ⟨a1, rfl, rfl, rfl, w1⟩ := open_int Try.underlying3 (hval 1 3 v1 rfl rfl) h1
  clear hA0 hval0
  refine (walk cs0 x0 a1 W w0 w1).mono fun e W' ⟨he, bel⟩ => ?_
  subst he
  exact ⟨_, rfl, _, _, _, [], _, [], hW', trodAll_mk1 (shut_bool Try.underlying4 _), (trodAll_cons_mk (Below.trod laidOut (by kernel_rfl) (of_decide_eq_true (by kernel_rfl)) k0 bel lt0) (trodAll_cons_mk (shut_int Try.underlying3 w1) trodAll_mk0)), rfl, bel.frame _, fun h => by cases h⟩

theorem over : Rows.fnExactIsDoneRow.holds Try.pinned (OpenSpec.ofChange Rows.fnExactIsDoneSpec) :=
  OpenClaim.holds_of_wide 14 Try.f14 rfl rfl rfl rfl rfl rfl rfl ⟨rfl, rfl, rfl, rfl, rfl⟩ rfl rfl rfl rfl rfl (by kernel_rfl) Try.func14 (by kernel_rfl)
    (of_decide_eq_true (by kernel_rfl)) (by unfold Func.isWrapper; first | (rw [if_pos (by decide +kernel)]; kernel_rfl) | (rw [if_neg (by decide +kernel)]; exact ⟨rfl, rfl⟩))
    (fun os started H enc _ => lifted os started H enc)

theorem proved : Rows.FnExactIsDoneSaid := over
#print axioms proved
end Go.Proofs.Ytgepeppmhfnbeaa.fnExactIsDone
