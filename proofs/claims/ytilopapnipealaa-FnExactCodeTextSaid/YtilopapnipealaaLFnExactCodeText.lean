/-
  For every number the program's CodeText answers as its model does, in new memory that it shares with nothing. No further condition.
-/
import Derived.Test.YtilopapnipealaaRows
import Derived.WalkKit
import Derived.ProofKit
import Derived.OpenShut
import Derived.Below
import Derived.ShutString
import Derived.Test.YtilopapnipealaaCode
import Derived.Test.YtilopapnipealaaMark
namespace Go.Proofs.Ytilopapnipealaa.fnExactCodeText
open Go.ChangeShapes Go.WideShapes Go.ChangeAt Go.RowKit
open Go.ChangeMaps (open_string shut_string)
set_option linter.unusedVariables false      -- a walk need not use every 'w<i>' (that an integer argument fits its kind)

open Go.Proofs.Ytilopapnipealaa
theorem own : ownKnob Try.prog.godebug = none := by kernel_rfl



/-! ### STEP 1: THE WALK: the Go text returns true. 'Grown w w'': the world has at most new blocks (Derived/RowKit3.lean). Part the cases AHEAD of 'go_enter' where a test parts the walk; take each callee by a contract of your own. -/
set_option maxRecDepth 100000 in
set_option maxHeartbeats 2000000 in
theorem walk (a0 : Int) (w0 : (Lit.int .i64 a0).wf = true) (w : World) :
    Calls Try.prog 3 #[.int .i64 a0] w fun e w' => e = .returned (.bool true) ∧ Below w.heap.size w w' := by
  by_cases hin : 0 ≤ a0 ∧ a0 ≤ 7
  · have hlen := fCode_le a0
    obtain ⟨P, hP⟩ : ∃ P, fCode a0 = P := ⟨_, rfl⟩
    rw [hP] at hlen
    have HP := Lib.hid hP
    clear hP
    have t1 : decide (P = P) = true := by simp
    go_enter Try.func3, Try.ntmps3
    go_wp2_with fail
    refine (s_CodeText _ _ hin).mono ?_
    rintro e w2 ⟨g, c, rfl, hg, hv, hc, hcm, hB1⟩
    rw [HP.out] at hv hc
    rw [HP.out]
    go_wp2_with fail
    refine (i_CodeText _ _ hin).mono ?_
    rintro e w3 ⟨u, d, rfl, hu, hU, hd, hdm, hB2⟩
    rw [HP.out] at hU hd
    rw [HP.out]
    have hv3 := hv.below hB2 hv.size
    have hug : g < w2.heap.size := hv.size
    go_wp2_with fail
    refine (l_eqByteS hU.ints hv3.ints (by simp only [maxLen]; omega) (by simp only [maxLen]; omega)).mono ?_
    rintro e w4 ⟨rfl, hB3⟩
    have hU4 := hU.below hB3 hU.size
    have hv4 := hv3.below hB3 hv3.size
    go_wp2_with fail
    refine (l_markF 1 hU4 rfl hd hdm (by omega) (by omega)).mono ?_
    rintro e w5 ⟨rfl, hm, hG⟩
    have s1 := hB1.size
    have s2 := hB2.size
    have s3 := hB3.size
    have hB5 : Below w2.heap.size w4 w5 := gb_below hG (by omega) hu
    have hv5 := hv4.below hB5 hug
    have hI5 := hm.ints
    rw [marks8_len] at hI5
    go_wp2_with fail
    refine (l_heldByteS 1 hI5 (by omega) (by omega)).mono ?_
    rintro e w6 ⟨rfl, rfl⟩
    go_wp2_with fail
    refine (i_CodeText _ _ hin).mono ?_
    rintro e w7 ⟨u2, d2, rfl, hu2, hU2, hd2, hdm2, hB6⟩
    rw [HP.out] at hU2 hd2
    rw [HP.out]
    have hv7 := hv5.below hB6 hv5.size
    have hm7 := hm.below hB6 hm.size
    go_wp2_with fail
    refine (l_eqByteS hU2.ints hv7.ints (by simp only [maxLen]; omega) (by simp only [maxLen]; omega)).mono ?_
    rintro e w8 ⟨rfl, hB7⟩
    have hI8 := (hm7.below hB7 hm7.size).ints
    rw [marks8_len] at hI8
    go_wp2_with fail
    refine (l_heldByteS 1 hI8 (by omega) (by omega)).mono ?_
    rintro e w9 ⟨rfl, rfl⟩
    go_wp2_with fail
    go_ret
    have s5 := hB5.size
    have s6 := hB6.size
    exact ⟨rfl, hB1.trans ((((hB2.mono s1).trans (hB3.mono (by omega))).trans (hB5.mono (by omega))).trans ((hB6.mono (by omega)).trans (hB7.mono (by omega))))⟩
  · have ho : a0 < 0 ∨ 7 < a0 := by omega
    have H1 := Lib.hid ho
    clear ho hin
    go_enter Try.func3, Try.ntmps3
    go_wp2_with fail
    refine (s_CodeText_n _ _ H1.out).mono ?_
    rintro e w2 ⟨rfl, hB1⟩
    go_wp2_with fail
    refine (i_CodeText_n _ _ H1.out).mono ?_
    rintro e w3 ⟨rfl, hB2⟩
    go_wp2_with fail
    refine (l_eqByteS (B := 0) (l := []) (l' := []) Ints.nil Ints.nil (by simp only [maxLen]; omega) (by simp only [maxLen]; omega)).mono ?_
    rintro e w4 ⟨rfl, hB3⟩
    go_wp2_with fail
    refine (l_markByteS 1 (Own.nil _ _ _ 0) (by omega) (by simp)).mono ?_
    rintro e w5 ⟨rfl, hm, hG⟩
    have hB4 : Below w4.heap.size w4 w5 := ⟨hG.os, hG.tape, hG.output, hG.size, fun k hk => hG.block k hk (by simp [Value.ownBlock])⟩
    go_wp2_with fail
    refine (l_heldByteS (B := 0) (n := 0) 1 (by exact Ints.nil) (by omega) (by omega)).mono ?_
    rintro e w6 ⟨rfl, rfl⟩
    go_wp2_with fail
    refine (i_CodeText_n _ _ H1.out).mono ?_
    rintro e w7 ⟨rfl, hB5⟩
    go_wp2_with fail
    refine (l_eqByteS (B := 0) (l := []) (l' := []) Ints.nil Ints.nil (by simp only [maxLen]; omega) (by simp only [maxLen]; omega)).mono ?_
    rintro e w8 ⟨rfl, hB6⟩
    go_wp2_with fail
    refine (l_heldByteS (B := 0) (n := 0) 1 (by exact Ints.nil) (by omega) (by omega)).mono ?_
    rintro e w9 ⟨rfl, rfl⟩
    go_wp2_with fail
    go_ret
    have s1 := hB1.size
    have s2 := hB2.size
    have s3 := hB3.size
    have s4 := hB4.size
    have s5 := hB5.size
    exact ⟨rfl, hB1.trans ((((hB2.mono s1).trans (hB3.mono (by omega))).trans (hB4.mono (by omega))).trans ((hB5.mono (by omega)).trans (hB6.mono (by omega))))⟩

/-! ### THE ROW's STEP: WRITTEN OUT: LEAVE IT -/
set_option maxRecDepth 100000 in
theorem lifted (os : Os) (started : os.Started) (H : Type) (enc : TypeId × Value → H) :
    ReturnsInHanded {} Try.checked os 3 .any (Rows.fnExactCodeTextSpec.pre6 enc Try.prog Try.f3 Rows.fnExactCodeTextRow.domain false) (Rows.fnExactCodeTextSpec.post enc Try.prog Try.f3 false true false false) := by
  refine returnsInHanded_of_change (C := Try.checked) own started (by kernel_rfl) Try.func3
    (ChangeSpec.witness6 (enc := enc) (C := Try.checked) false ⟨#[], #[.int .i64 0], []⟩ 8 (by kernel_rfl) (by kernel_rfl) (by kernel_rfl) (by kernel_rfl)) ?_
  intro W base args ds gs before hval0 hW hcnd _
  have hval : ∀ (j : Nat) t v, Try.f3.params[j]? = some t → args[j]? = some v → Value.okWide Try.prog W .any base t v := hval0
  have hW' := hW
  obtain ⟨p, q, hA0, hV, rfl, hfz, hnd⟩ := hW
  have hA : DataW.TrodAll enc Try.prog W 0 (fun _ => true) true Try.f3.params.toList args.toList ds p := hA0
  rw [Try.params3] at hA hval
  obtain ⟨v0, vs0, d0, ds0, p0, q0, hargs, rfl, rfl, h0, r0⟩ := trodAll_cons hA
  obtain ⟨rfl, rfl, rfl⟩ := trodAll_nil r0
  obtain rfl : args = #[v0] := by cases args; simp_all
  obtain ⟨rfl, rfl⟩ := trodVars_none hV
  obtain ⟨a0, rfl, rfl, rfl, w0⟩ := open_int Try.underlying3 (hval 0 3 v0 rfl rfl) h0
  clear hA0 hval0
  simp only [List.append_nil] at hW'
  refine (walk a0 w0 W).mono fun e W' ⟨he, hg⟩ => ?_
  subst he
  exact ⟨_, rfl, _, _, _, [], [], [], hW', (trodAll_cons_mk (shut_bool Try.underlying4 _) trodAll_mk0), (trodAll_cons_mk (shut_int Try.underlying3 w0) trodAll_mk0), rfl, hg.frame _, fun h => by cases h⟩

theorem over : Rows.fnExactCodeTextRow.holds Try.pinned (OpenSpec.ofChange Rows.fnExactCodeTextSpec) :=
  OpenClaim.holds_of_wide 3 Try.f3 rfl rfl rfl rfl rfl rfl rfl ⟨rfl, rfl, rfl, rfl, rfl⟩ rfl rfl rfl rfl rfl (by kernel_rfl) Try.func3 (by kernel_rfl)
    (of_decide_eq_true (by kernel_rfl)) (by unfold Func.isWrapper; first | (rw [if_pos (by decide +kernel)]; kernel_rfl) | (rw [if_neg (by decide +kernel)]; exact ⟨rfl, rfl⟩))
    (fun os started H enc _ => lifted os started H enc)

/-- ████ THE STATEMENT ████ -/
theorem proved : Rows.FnExactCodeTextSaid :=
  over
#print axioms proved
end Go.Proofs.Ytilopapnipealaa.fnExactCodeText
