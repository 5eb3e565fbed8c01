/-
  For every argument the program's Powers answers as its model does, in new memory that it shares with nothing. No further condition.
-/
import Derived.Test.YtlakanajcabejabRows
import Derived.WalkKit
import Derived.ProofKit
import Derived.OpenShut
import Derived.Below
import Derived.ShutString
import Derived.Test.YtlakanajcabejabPowers
import Derived.Test.YtlakanajcabejabMark
namespace Go.Proofs.Ytlakanajcabejab.fnExactPowers
open Go.ChangeShapes Go.WideShapes Go.ChangeAt Go.RowKit
open Go.ChangeMaps (open_string shut_string)
set_option linter.unusedVariables false      -- a walk need not use every 'w<i>' (that an integer argument fits its kind)

open Go.Proofs.Ytlakanajcabejab Fld
theorem own : ownKnob Try.prog.godebug = none := by kernel_rfl

theorem pows_len (a n : Int) : (pows a n).length ≤ 64 := by
  unfold pows
  split
  · rw [pw0_len]; omega
  · simp

/-! ### STEP 1: THE WALK: the Go text returns true. 'Grown w w'': the world has at most new blocks (Derived/RowKit3.lean). Part the cases AHEAD of 'go_enter' where a test parts the walk; take each callee by a contract of your own. -/
theorem walk (a0 : Int) (a1 : Int) (w0 : (Lit.int .i64 a0).wf = true) (w1 : (Lit.int .i64 a1).wf = true) (w : World) :
    Calls Try.prog 6 #[.int .i64 a0, .int .i64 a1] w fun e w' => e = .returned (.bool true) ∧ Below w.heap.size w w' := by
  have hlen := pows_len a0 a1
  obtain ⟨P, hP⟩ : ∃ P, pows a0 a1 = P := ⟨_, rfl⟩
  rw [hP] at hlen
  have HP := Lib.hid hP
  clear hP
  go_enter Try.func6, Try.ntmps6
  go_wp2_with fail
  refine (s_Powers _ _ _).mono ?_
  rintro e w2 ⟨v, rfl, hv, hB1⟩
  rw [HP.out] at hv
  go_wp2_with fail
  refine (i_Powers _ _ _).mono ?_
  rintro e w3 ⟨u, rfl, hu, hB2⟩
  rw [HP.out] at hu
  have hv2 := hv.below hB2
  obtain ⟨A, c, rfl, _, hIu, _⟩ := hu.ints
  obtain ⟨A', c', rfl, _, hIv, _⟩ := hv2.ints
  go_wp2_with fail
  refine (l_eqIntS hIu hIv (by simp only [maxLen]; omega) (by simp only [maxLen]; omega)).mono ?_
  rintro e w4 ⟨rfl, hB3⟩
  have t1 : decide (P = P) = true := by simp
  go_wp2_with fail
  refine (l_markIntS 1 (hu.below hB3) (by omega) (by omega)).mono ?_
  rintro e w5 ⟨rfl, hm, hG⟩
  have hB3' : Below w2.heap.size w2 w5 := (hB2.trans (hB3.mono hB2.size)).trans (own_mem (hu.below hB3) hG (Nat.le_trans hB2.size hB3.size))
  have hv5 := hv.below hB3'
  have hI5 := hm.intsAt.1
  go_wp2_with fail
  refine (l_heldIntS 1 hI5 (by omega) (by omega)).mono ?_
  rintro e w6 ⟨rfl, rfl⟩
  go_wp2_with fail
  refine (i_Powers _ _ _).mono ?_
  rintro e w7 ⟨h, rfl, hh, hB4⟩
  rw [HP.out] at hh
  obtain ⟨A2, c2, rfl, _, hIh, _⟩ := hh.ints
  have hIv7 := (hv5.below hB4).intsAt.1
  have hm7 := hm.below hB4
  go_wp2_with fail
  refine (l_eqIntS hIh hIv7 (by simp only [maxLen]; omega) (by simp only [maxLen]; omega)).mono ?_
  rintro e w8 ⟨rfl, hB5⟩
  have hI8 := (hm7.below hB5).intsAt.1
  go_wp2_with fail
  refine (l_heldIntS 1 hI8 (by omega) (by omega)).mono ?_
  rintro e w9 ⟨rfl, rfl⟩
  go_wp2_with fail
  go_ret
  have s1 := hB1.size
  have s2 := hB3'.size
  exact ⟨rfl, ((hB1.trans (hB3'.mono s1)).trans (hB4.mono (by omega))).trans (hB5.mono (by have := hB4.size; omega))⟩

/-! ### THE ROW's STEP: WRITTEN OUT: LEAVE IT -/
set_option maxRecDepth 100000 in
theorem lifted (os : Os) (started : os.Started) (H : Type) (enc : TypeId × Value → H) :
    ReturnsInHanded {} Try.checked os 6 .any (Rows.fnExactPowersSpec.pre6 enc Try.prog Try.f6 Rows.fnExactPowersRow.domain false) (Rows.fnExactPowersSpec.post enc Try.prog Try.f6 false true false false) := by
  refine returnsInHanded_of_change (C := Try.checked) own started (by kernel_rfl) Try.func6
    (ChangeSpec.witness6 (enc := enc) (C := Try.checked) false ⟨#[], #[.int .i64 0, .int .i64 0], []⟩ 8 (by kernel_rfl) (by kernel_rfl) (by kernel_rfl) (by kernel_rfl)) ?_
  intro W base args ds gs before hval0 hW hcnd _
  have hval : ∀ (j : Nat) t v, Try.f6.params[j]? = some t → args[j]? = some v → Value.okWide Try.prog W .any base t v := hval0
  have hW' := hW
  obtain ⟨p, q, hA0, hV, rfl, hfz, hnd⟩ := hW
  have hA : DataW.TrodAll enc Try.prog W 0 (fun _ => true) true Try.f6.params.toList args.toList ds p := hA0
  rw [Try.params6] at hA hval
  obtain ⟨v0, vs0, d0, ds0, p0, q0, hargs, rfl, rfl, h0, r0⟩ := trodAll_cons hA
  obtain ⟨v1, vs1, d1, ds1, p1, q1, rfl, rfl, rfl, h1, r1⟩ := trodAll_cons r0
  obtain ⟨rfl, rfl, rfl⟩ := trodAll_nil r1
  obtain rfl : args = #[v0, v1] := by cases args; simp_all
  obtain ⟨rfl, rfl⟩ := trodVars_none hV
  obtain ⟨a0, rfl, rfl, rfl, w0⟩ := open_int Try.underlying3 (hval 0 3 v0 rfl rfl) h0
  obtain ⟨a1, rfl, rfl, rfl, w1⟩ := open_int Try.underlying3 (hval 1 3 v1 rfl rfl) h1
  clear hA0 hval0
  simp only [List.append_nil] at hW'
  refine (walk a0 a1 w0 w1 W).mono fun e W' ⟨he, hg⟩ => ?_
  subst he
  exact ⟨_, rfl, _, _, _, [], [], [], hW', (trodAll_cons_mk (shut_bool Try.underlying4 _) trodAll_mk0), (trodAll_cons_mk (shut_int Try.underlying3 w0) (trodAll_cons_mk (shut_int Try.underlying3 w1) trodAll_mk0)), rfl, hg.frame _, fun h => by cases h⟩

theorem over : Rows.fnExactPowersRow.holds Try.pinned (OpenSpec.ofChange Rows.fnExactPowersSpec) :=
  OpenClaim.holds_of_wide 6 Try.f6 rfl rfl rfl rfl rfl rfl rfl ⟨rfl, rfl, rfl, rfl, rfl⟩ rfl rfl rfl rfl rfl (by kernel_rfl) Try.func6 (by kernel_rfl)
    (of_decide_eq_true (by kernel_rfl)) (by unfold Func.isWrapper; first | (rw [if_pos (by decide +kernel)]; kernel_rfl) | (rw [if_neg (by decide +kernel)]; exact ⟨rfl, rfl⟩))
    (fun os started H enc _ => lifted os started H enc)

/-- ████ THE STATEMENT ████ -/
theorem proved : Rows.FnExactPowersSaid :=
  over
#print axioms proved
end Go.Proofs.Ytlakanajcabejab.fnExactPowers
