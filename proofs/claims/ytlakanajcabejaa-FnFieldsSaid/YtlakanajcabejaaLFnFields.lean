/-
  Arithmetic on drawn field elements satisfies the field laws: quotients are inverted by products, and powers are products. No further condition.
-/
import Derived.Test.YtlakanajcabejaaRows
import Derived.WalkKit
import Derived.ProofKit
import Derived.OpenShut
import Derived.ShutString
import Derived.ChangeOld
import Derived.SizedLaws
import Derived.Below
import Derived.Test.YtlakanajcabejaaDrawOne
import Derived.Test.YtlakanajcabejaaLawOne
namespace Go.Proofs.Ytlakanajcabejaa.fnFields
open Go.ChangeShapes Go.WideShapes Go.ChangeAt Go.RowKit
open Go.ChangeMaps (open_string shut_string)
set_option linter.unusedVariables false

theorem bytes5 : Try.prog.bytesOf 5 = 1 := by kernel_rfl
open Go.Proofs.Ytlakanajcabejaa Fld
theorem own : ownKnob Try.prog.godebug = none := by kernel_rfl
theorem laidOut : laidOutB Try.prog = true := by kernel_rfl

/-- WHAT THE WALK IS TOLD OF A SLICE OF INTEGERS THAT CAME IN: it is nil; or it leads to a row of 'cap' cells, the numbers 'zs' (the first 'len' are its elements, the rest its spare room), each fitting its kind. -/
def IsRow (k : IntKind) (w : World) (a : Option Addr) (len cap : Nat) (zs : List Int) : Prop :=
  (a = none ∧ len = 0 ∧ cap = 0 ∧ zs = []) ∨
  ∃ x, a = some x ∧ len ≤ cap ∧ cap ≤ maxLen ∧ zs.length = cap ∧ (∀ i, i < zs.length → w.cell? (x.add i) = some (.int k (zs.getD i 0))) ∧ ∀ n ∈ zs, (Lit.int k n).wf = true

theorem rowInts {w : World} {a : Option Addr} {n c : Nat} {zs : List Int} (h : IsRow .u8 w a n c zs) : Ints .u8 w w.heap.size a n (zs.take n) ∧ n ≤ c := by
  rcases h with ⟨rfl, rfl, rfl, rfl⟩ | ⟨x, rfl, hl, _, hz, hc, hw⟩
  · exact ⟨Ints.nil, Nat.le_refl _⟩
  · exact ⟨Ints.ofRow (by omega) hc hw, hl⟩

/-! ### STEP 1: THE WALK: the Go text returns true, AND WRITES NOTHING THAT WAS THERE: 'Below w.heap.size w w'' (Derived/Below.lean: '.refl', '.alloc', '.drew', '.setCell' at a new block, '.trans'). Open each 'IsRow' by 'rcases' AHEAD of 'go_enter'; part every test ahead of the walk. -/
theorem walk (a0 : Option Addr) (len0 cap0 : Nat) (z0 : List Int) (w : World) (w0 : IsRow .u8 w a0 len0 cap0 z0) (r0 : cap0 ≤ 140737488351232) :
    Calls Try.prog 3 #[.slice a0 len0 cap0] w fun e w' => e = .returned (.bool true) ∧ Below w.heap.size w w' := by
  obtain ⟨hl, hn⟩ := rowInts w0
  have hBad := (show Bad 2147483647 from fun h => absurd h.2 (by omega))
  go_enter Try.func3, Try.ntmps3
  go_wp2_with fail
  refine (d_FMul hl (by omega)).mono ?_
  rintro e w1 ⟨a, b, rfl, ha, hb, hB⟩
  rcases ok_or a with ga | ga
  · rcases ok_or b with gb | gb
    · have EA := Lib.hid (fadd_t ga gb)
      have EA2 := Lib.hid ((fadd_t gb ga).trans (show addP b a = addP a b by unfold addP; rw [Int.add_comm]))
      have EM := Lib.hid (fmul_t ga gb)
      have EM2 := Lib.hid ((fmul_t gb ga).trans (mulP_comm b a))
      have g1 := gb.lo
      have g2 := gb.hi
      have oA := ok_add a b
      have oM := ok_mul a b
      have q0 : 0 ≤ b / 2 := by omega
      have q1 : 0 ≤ b - b / 2 := by omega
      have EP1 := Lib.hid (fpow_t ga q0)
      have EP2 := Lib.hid (fpow_t ga q1)
      have EP := Lib.hid (fpow_t ga g1)
      have EPM := Lib.hid ((fmul_t (ok_pow a (b / 2).toNat) (ok_pow a (b - b / 2).toNat)).trans ((powP_add a _ _).symm.trans (by rw [show (b / 2).toNat + (b - b / 2).toNat = b.toNat by omega])))
      by_cases hz : 0 < b
      · have EI := Lib.hid (finv_t gb)
        have EMI := Lib.hid ((fmul_t oM (ok_inv b)).trans (mul_div ga.lo ga.hi hz gb.hi))
        go_wp2_with (first | (go_at_call 18; with_reducible refine (s_FOk_t _ _ (by assumption)).mono ?_; rintro e w' ⟨rfl, rfl⟩) | (go_at_call 18; with_reducible refine (s_FOk_f _ _ (by assumption)).mono ?_; rintro e w' ⟨rfl, rfl⟩) | (go_at_call 20; with_reducible refine (i_FOk_t _ _ (by assumption)).mono ?_; rintro e w' ⟨rfl, rfl⟩) | (go_at_call 20; with_reducible refine (i_FOk_f _ _ (by assumption)).mono ?_; rintro e w' ⟨rfl, rfl⟩) | (go_at_call 19; refine (l_fields _).mono ?_; rintro e w' ⟨rfl, rfl⟩) | (go_at_call 16; refine (i_FAdd _ _ _).mono ?_; rintro e w' ⟨rfl, rfl⟩; first | rw [EA.out] | rw [EA2.out]) | (go_at_call 21; refine (i_FInv _ _).mono ?_; rintro e w' ⟨rfl, rfl⟩; rw [EI.out]) | (go_at_call 22; refine (i_FPow _ _ _ (by omega)).mono ?_; rintro e w' ⟨rfl, rfl⟩; first | rw [EP1.out] | rw [EP2.out] | rw [EP.out]) | (go_at_call 17; refine (i_FMul _ _ _).mono ?_; rintro e w' ⟨rfl, rfl⟩; first | rw [EM.out] | rw [EM2.out] | rw [EMI.out] | rw [EPM.out]))
        go_ret
        exact ⟨rfl, hB⟩
      · go_wp2_with (first | (go_at_call 18; with_reducible refine (s_FOk_t _ _ (by assumption)).mono ?_; rintro e w' ⟨rfl, rfl⟩) | (go_at_call 18; with_reducible refine (s_FOk_f _ _ (by assumption)).mono ?_; rintro e w' ⟨rfl, rfl⟩) | (go_at_call 20; with_reducible refine (i_FOk_t _ _ (by assumption)).mono ?_; rintro e w' ⟨rfl, rfl⟩) | (go_at_call 20; with_reducible refine (i_FOk_f _ _ (by assumption)).mono ?_; rintro e w' ⟨rfl, rfl⟩) | (go_at_call 19; refine (l_fields _).mono ?_; rintro e w' ⟨rfl, rfl⟩) | (go_at_call 16; refine (i_FAdd _ _ _).mono ?_; rintro e w' ⟨rfl, rfl⟩; first | rw [EA.out] | rw [EA2.out]) | (go_at_call 22; refine (i_FPow _ _ _ (by omega)).mono ?_; rintro e w' ⟨rfl, rfl⟩; first | rw [EP1.out] | rw [EP2.out] | rw [EP.out]) | (go_at_call 17; refine (i_FMul _ _ _).mono ?_; rintro e w' ⟨rfl, rfl⟩; first | rw [EM.out] | rw [EM2.out] | rw [EPM.out]))
        go_ret
        exact ⟨rfl, hB⟩
    · have EA := Lib.hid (fadd_r (a := a) gb)
      have EA2 := EA
      have EM := Lib.hid (fmul_r (a := a) gb)
      go_wp2_with (first | (go_at_call 18; with_reducible refine (s_FOk_t _ _ (by assumption)).mono ?_; rintro e w' ⟨rfl, rfl⟩) | (go_at_call 18; with_reducible refine (s_FOk_f _ _ (by assumption)).mono ?_; rintro e w' ⟨rfl, rfl⟩) | (go_at_call 20; with_reducible refine (i_FOk_t _ _ (by assumption)).mono ?_; rintro e w' ⟨rfl, rfl⟩) | (go_at_call 20; with_reducible refine (i_FOk_f _ _ (by assumption)).mono ?_; rintro e w' ⟨rfl, rfl⟩) | (go_at_call 19; refine (l_fields _).mono ?_; rintro e w' ⟨rfl, rfl⟩) | (go_at_call 16; refine (i_FAdd _ _ _).mono ?_; rintro e w' ⟨rfl, rfl⟩; first | rw [EA.out] | rw [EA2.out]) | (go_at_call 17; refine (i_FMul _ _ _).mono ?_; rintro e w' ⟨rfl, rfl⟩; rw [EM.out]))
      go_ret
      exact ⟨rfl, hB⟩
  · have EA := Lib.hid (fadd_l (b := b) ga)
    have EA2 := EA
    have EM := Lib.hid (fmul_l (b := b) ga)
    go_wp2_with (first | (go_at_call 18; with_reducible refine (s_FOk_t _ _ (by assumption)).mono ?_; rintro e w' ⟨rfl, rfl⟩) | (go_at_call 18; with_reducible refine (s_FOk_f _ _ (by assumption)).mono ?_; rintro e w' ⟨rfl, rfl⟩) | (go_at_call 20; with_reducible refine (i_FOk_t _ _ (by assumption)).mono ?_; rintro e w' ⟨rfl, rfl⟩) | (go_at_call 20; with_reducible refine (i_FOk_f _ _ (by assumption)).mono ?_; rintro e w' ⟨rfl, rfl⟩) | (go_at_call 19; refine (l_fields _).mono ?_; rintro e w' ⟨rfl, rfl⟩) | (go_at_call 16; refine (i_FAdd _ _ _).mono ?_; rintro e w' ⟨rfl, rfl⟩; first | rw [EA.out] | rw [EA2.out]) | (go_at_call 17; refine (i_FMul _ _ _).mono ?_; rintro e w' ⟨rfl, rfl⟩; rw [EM.out]))
    go_ret
    exact ⟨rfl, hB⟩

/-! ### THE ROW's STEP: WRITTEN OUT: LEAVE IT -/
set_option maxRecDepth 100000 in
theorem lifted (os : Os) (started : os.Started) (H : Type) (enc : TypeId × Value → H) :
    ReturnsInHanded {} Try.checked os 3 .any (Rows.fnFieldsSpec.pre6 enc Try.prog Try.f3 Rows.fnFieldsRow.domain false) (Rows.fnFieldsSpec.post enc Try.prog Try.f3 false true false false) := by
  refine returnsInHanded_of_change_sized (C := Try.checked) own started (by kernel_rfl) Try.func3
    (ChangeSpec.witness6 (enc := enc) (C := Try.checked) false ⟨#[], #[.slice none 0 0], []⟩ 8 (by kernel_rfl) (by kernel_rfl) (by kernel_rfl) (by kernel_rfl)) ?_
  intro W base args ds gs before hval0 hW hcnd hsz0 _
  have hval : ∀ (j : Nat) t v, Try.f3.params[j]? = some t → args[j]? = some v → Value.okWide Try.prog W .any base t v := hval0
  have hW' := hW
  obtain ⟨p, q, hA0, hV, rfl, hfz, hnd⟩ := hW
  have hA : DataW.TrodAll enc Try.prog W 0 (fun _ => true) true Try.f3.params.toList args.toList ds p := hA0
  have hsz : (DataW.weightsEach Try.prog (Try.f3.params.toList ++ Rows.fnFieldsSpec.plain.varTypes Try.prog) (ds ++ gs)).all (· ≤ reachBytes) = true := hsz0
  rw [Try.params3] at hA hval hsz
  obtain ⟨v0, vs0, d0, ds0, p0, q0, hargs, rfl, rfl, h0, r0⟩ := trodAll_cons hA
  obtain ⟨rfl, rfl, rfl⟩ := trodAll_nil r0
  obtain rfl : args = #[v0] := by cases args; simp_all
  obtain ⟨rfl, rfl⟩ := trodVars_none hV
  obtain ⟨a0, len0, cap0, rfl⟩ := okWide_slice Try.underlying22 (hval 0 22 v0 rfl rfl)
  have k0 := h0
  have lt0 : ∀ x ∈ p0, x.block < W.heap.size := by obtain ⟨m, hm⟩ := k0; exact DataW.trod_lt m _ _ _ hm
  obtain ⟨z0, w0, r0⟩ : ∃ zs, IsRow .u8 W a0 len0 cap0 zs ∧ cap0 ≤ 140737488351232 := by
    obtain ⟨fuel, hf⟩ := h0
    rcases open_ints Try.underlying22 Try.underlying5 (by kernel_rfl) hf with ⟨hcs, _⟩ | ⟨x, l, c, zs, hcs, _, hl, hm, hz, hxx, hcell, hwz⟩
    · simp [Value.cells] at hcs
      obtain ⟨rfl, rfl, rfl⟩ := hcs
      exact ⟨[], .inl ⟨rfl, rfl, rfl, rfl⟩, by omega⟩
    · simp [Value.cells] at hcs
      obtain ⟨rfl, rfl, rfl⟩ := hcs
      have hz' : zs.length = cap0 := by simpa using hz
      refine ⟨zs, .inr ⟨_, rfl, hl, hm, hz', hcell, hwz⟩, ?_⟩
      simp only [Prod.mk.injEq] at hxx
      rw [hxx.1] at hsz
      have h := sized_slice hsz (j := 0) (t := 22) (e := 5) rfl rfl Try.underlying22
      rw [bytes5] at h
      simp only [lits, List.length_map, List.length_take, List.length_drop, reachBytes] at h
      omega
  clear hA0 hval0
  refine (walk a0 len0 cap0 z0 W w0 r0).mono fun e W' ⟨he, bel⟩ => ?_
  subst he
  exact ⟨_, rfl, _, _, _, [], _, [], hW', trodAll_mk1 (shut_bool Try.underlying4 _), (trodAll_cons_mk (Below.trod laidOut (by kernel_rfl) (of_decide_eq_true (by kernel_rfl)) k0 bel lt0) trodAll_mk0), rfl, bel.frame _, fun h => by cases h⟩

theorem over : Rows.fnFieldsRow.holds Try.pinned (OpenSpec.ofChange Rows.fnFieldsSpec) :=
  OpenClaim.holds_of_wide 3 Try.f3 rfl rfl rfl rfl rfl rfl rfl ⟨rfl, rfl, rfl, rfl, rfl⟩ rfl rfl rfl rfl rfl (by kernel_rfl) Try.func3 (by kernel_rfl)
    (of_decide_eq_true (by kernel_rfl)) (by unfold Func.isWrapper; first | (rw [if_pos (by decide +kernel)]; kernel_rfl) | (rw [if_neg (by decide +kernel)]; exact ⟨rfl, rfl⟩))
    (fun os started H enc _ => lifted os started H enc)

/-- ████ THE STATEMENT ████ -/
theorem proved : Rows.FnFieldsSaid := over
#print axioms proved
end Go.Proofs.Ytlakanajcabejaa.fnFields
