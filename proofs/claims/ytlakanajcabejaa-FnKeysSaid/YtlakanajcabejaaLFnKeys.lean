/-
  Different drawn shared secrets derive different keys with the same label; equal ones equal keys. No further condition.
-/
import Derived.Test.YtlakanajcabejaaRows
import Derived.WalkKit
import Derived.ProofKit
import Derived.OpenShut
import Derived.ShutString
import Derived.ChangeOld
import Derived.SizedLaws
import Derived.Below
import Derived.Test.YtlakanajcabejaaDrawOne
import Derived.Test.YtlakanajcabejaaLawOne
import Derived.Test.YtlakanajcabejaaHelp
namespace Go.Proofs.Ytlakanajcabejaa.fnKeys
open Go.ChangeShapes Go.WideShapes Go.ChangeAt Go.RowKit
open Go.ChangeMaps (open_string shut_string)
set_option linter.unusedVariables false

theorem bytes5 : Try.prog.bytesOf 5 = 1 := by kernel_rfl
open Go.Proofs.Ytlakanajcabejaa Fld
theorem own : ownKnob Try.prog.godebug = none := by kernel_rfl
theorem laidOut : laidOutB Try.prog = true := by kernel_rfl

/-- WHAT THE WALK IS TOLD OF A SLICE OF INTEGERS THAT CAME IN: it is nil; or it leads to a row of 'cap' cells, the numbers 'zs' (the first 'len' are its elements, the rest its spare room), each fitting its kind. -/
def IsRow (k : IntKind) (w : World) (a : Option Addr) (len cap : Nat) (zs : List Int) : Prop :=
  (a = none ∧ len = 0 ∧ cap = 0 ∧ zs = []) ∨
  ∃ x, a = some x ∧ len ≤ cap ∧ cap ≤ maxLen ∧ zs.length = cap ∧ (∀ i, i < zs.length → w.cell? (x.add i) = some (.int k (zs.getD i 0))) ∧ ∀ n ∈ zs, (Lit.int k n).wf = true

theorem rowInts {w : World} {a : Option Addr} {n c : Nat} {zs : List Int} (h : IsRow .u8 w a n c zs) : Ints .u8 w w.heap.size a n (zs.take n) ∧ n ≤ c := by
  rcases h with ⟨rfl, rfl, rfl, rfl⟩ | ⟨x, rfl, hl, _, hz, hc, hw⟩
  · exact ⟨Ints.nil, Nat.le_refl _⟩
  · exact ⟨Ints.ofRow (by omega) hc hw, hl⟩

theorem fkey_lo (a l : Int) : -1 ≤ fkey a l := by
  rcases ok_or a with h | h
  · rcases lab_or l with g | g
    · rw [fkey_t h g]; have := (keyP_rg a l).1; omega
    · rw [fkey_r g]; omega
  · rw [fkey_l h]; omega

/-! ### STEP 1: THE WALK: the Go text returns true, AND WRITES NOTHING THAT WAS THERE: 'Below w.heap.size w w'' (Derived/Below.lean: '.refl', '.alloc', '.drew', '.setCell' at a new block, '.trans'). Open each 'IsRow' by 'rcases' AHEAD of 'go_enter'; part every test ahead of the walk. -/
theorem walk (a0 : Option Addr) (len0 cap0 : Nat) (z0 : List Int) (w : World) (w0 : IsRow .u8 w a0 len0 cap0 z0) (r0 : cap0 ≤ 140737488351232) :
    Calls Try.prog 5 #[.slice a0 len0 cap0] w fun e w' => e = .returned (.bool true) ∧ Below w.heap.size w w' := by
  obtain ⟨hl, hn⟩ := rowInts w0
  go_enter Try.func5, Try.ntmps5
  go_wp2_with fail
  refine (d_KeyOf hl (by omega)).mono ?_
  rintro e w1 ⟨a, l, rfl, ha, hlab, hB1⟩
  go_wp2_with fail
  refine (l_more 1 ((hl.below hB1).up hB1.size) (by omega) (by omega) (by omega)).mono ?_
  rintro e w2 ⟨A', c', l', rfl, hl2, hB2⟩
  go_wp2_with fail
  refine (d_KeyOf hl2 (by omega)).mono ?_
  rintro e w3 ⟨b, l3, rfl, hb, hlab3, hB3⟩
  have hB : Below w.heap.size w w3 := (hB1.trans (hB2.mono hB1.size)).trans (hB3.mono (Nat.le_trans hB1.size hB2.size))
  clear hlab hlab3 hl2 hB1 hB2 hB3
  by_cases hgood : (Ok a ∧ Ok b) ∧ Lab l
  · obtain ⟨⟨ga, gb⟩, gl⟩ := hgood
    have EX := Lib.hid (fkey_t ga gl)
    have EY := Lib.hid (fkey_t gb gl)
    have ox := ok_key a l
    have x0 := (keyP_rg a l).1
    have y0 := (keyP_rg b l).1
    by_cases hab : a = b
    · subst hab
      go_wp2_with (first | (go_at_call 20; with_reducible refine (i_FOk_t _ _ (by assumption)).mono ?_; rintro e w' ⟨rfl, rfl⟩) | (go_at_call 20; with_reducible refine (i_FOk_f _ _ (by assumption)).mono ?_; rintro e w' ⟨rfl, rfl⟩) | (go_at_call 19; refine (l_fields _).mono ?_; rintro e w' ⟨rfl, rfl⟩) | (go_at_call 28; refine (i_KeyOf _ _ _).mono ?_; rintro e w' ⟨rfl, rfl⟩; first | rw [EX.out] | rw [EY.out]))
      go_ret
      exact ⟨rfl, hB⟩
    · have c1 : (a == b) = false := by simpa using hab
      have c2 : (keyP a l == keyP b l) = false := by
        rw [beq_eq_false_iff_ne]
        exact fun h => hab (keyP_inj ga.lo ga.hi gb.lo gb.hi h)
      clear hab
      go_wp2_with (first | (go_at_call 20; with_reducible refine (i_FOk_t _ _ (by assumption)).mono ?_; rintro e w' ⟨rfl, rfl⟩) | (go_at_call 20; with_reducible refine (i_FOk_f _ _ (by assumption)).mono ?_; rintro e w' ⟨rfl, rfl⟩) | (go_at_call 19; refine (l_fields _).mono ?_; rintro e w' ⟨rfl, rfl⟩) | (go_at_call 28; refine (i_KeyOf _ _ _).mono ?_; rintro e w' ⟨rfl, rfl⟩; first | rw [EX.out] | rw [EY.out]))
      go_ret
      exact ⟨rfl, hB⟩
  · have hlow : fkey a l = -1 ∨ fkey b l = -1 := by
      rcases ok_or a with ga | ga
      · rcases ok_or b with gb | gb
        · rcases lab_or l with gl | gl
          · exact absurd ⟨⟨ga, gb⟩, gl⟩ hgood
          · exact .inl (fkey_r gl)
        · exact .inr (fkey_l gb)
      · exact .inl (fkey_l ga)
    have x0 := fkey_lo a l
    have y0 := fkey_lo b l
    clear hgood
    obtain ⟨x, hx⟩ : ∃ x, fkey a l = x := ⟨_, rfl⟩
    obtain ⟨y, hy⟩ : ∃ y, fkey b l = y := ⟨_, rfl⟩
    rw [hx] at hlow x0
    rw [hy] at hlow y0
    have EX := Lib.hid hx
    have EY := Lib.hid hy
    clear hx hy
    rcases hlow with rfl | rfl
    · go_wp2_with (first | (go_at_call 20; with_reducible refine (i_FOk_t _ _ (by assumption)).mono ?_; rintro e w' ⟨rfl, rfl⟩) | (go_at_call 20; with_reducible refine (i_FOk_f _ _ (by assumption)).mono ?_; rintro e w' ⟨rfl, rfl⟩) | (go_at_call 19; refine (l_fields _).mono ?_; rintro e w' ⟨rfl, rfl⟩) | (go_at_call 28; refine (i_KeyOf _ _ _).mono ?_; rintro e w' ⟨rfl, rfl⟩; first | rw [EX.out] | rw [EY.out]))
      all_goals (go_ret; exact ⟨rfl, hB⟩)
    · by_cases hx : x < 0
      · go_wp2_with (first | (go_at_call 20; with_reducible refine (i_FOk_t _ _ (by assumption)).mono ?_; rintro e w' ⟨rfl, rfl⟩) | (go_at_call 20; with_reducible refine (i_FOk_f _ _ (by assumption)).mono ?_; rintro e w' ⟨rfl, rfl⟩) | (go_at_call 19; refine (l_fields _).mono ?_; rintro e w' ⟨rfl, rfl⟩) | (go_at_call 28; refine (i_KeyOf _ _ _).mono ?_; rintro e w' ⟨rfl, rfl⟩; first | rw [EX.out] | rw [EY.out]))
        all_goals (go_ret; exact ⟨rfl, hB⟩)
      · go_wp2_with (first | (go_at_call 20; with_reducible refine (i_FOk_t _ _ (by assumption)).mono ?_; rintro e w' ⟨rfl, rfl⟩) | (go_at_call 20; with_reducible refine (i_FOk_f _ _ (by assumption)).mono ?_; rintro e w' ⟨rfl, rfl⟩) | (go_at_call 19; refine (l_fields _).mono ?_; rintro e w' ⟨rfl, rfl⟩) | (go_at_call 28; refine (i_KeyOf _ _ _).mono ?_; rintro e w' ⟨rfl, rfl⟩; first | rw [EX.out] | rw [EY.out]))
        all_goals (go_ret; exact ⟨rfl, hB⟩)

/-! ### THE ROW's STEP: WRITTEN OUT: LEAVE IT -/
set_option maxRecDepth 100000 in
theorem lifted (os : Os) (started : os.Started) (H : Type) (enc : TypeId × Value → H) :
    ReturnsInHanded {} Try.checked os 5 .any (Rows.fnKeysSpec.pre6 enc Try.prog Try.f5 Rows.fnKeysRow.domain false) (Rows.fnKeysSpec.post enc Try.prog Try.f5 false true false false) := by
  refine returnsInHanded_of_change_sized (C := Try.checked) own started (by kernel_rfl) Try.func5
    (ChangeSpec.witness6 (enc := enc) (C := Try.checked) false ⟨#[], #[.slice none 0 0], []⟩ 8 (by kernel_rfl) (by kernel_rfl) (by kernel_rfl) (by kernel_rfl)) ?_
  intro W base args ds gs before hval0 hW hcnd hsz0 _
  have hval : ∀ (j : Nat) t v, Try.f5.params[j]? = some t → args[j]? = some v → Value.okWide Try.prog W .any base t v := hval0
  have hW' := hW
  obtain ⟨p, q, hA0, hV, rfl, hfz, hnd⟩ := hW
  have hA : DataW.TrodAll enc Try.prog W 0 (fun _ => true) true Try.f5.params.toList args.toList ds p := hA0
  have hsz : (DataW.weightsEach Try.prog (Try.f5.params.toList ++ Rows.fnKeysSpec.plain.varTypes Try.prog) (ds ++ gs)).all (· ≤ reachBytes) = true := hsz0
  rw [Try.params5] at hA hval hsz
  obtain ⟨v0, vs0, d0, ds0, p0, q0, hargs, rfl, rfl, h0, r0⟩ := trodAll_cons hA
  obtain ⟨rfl, rfl, rfl⟩ := trodAll_nil r0
  obtain rfl : args = #[v0] := by cases args; simp_all
  obtain ⟨rfl, rfl⟩ := trodVars_none hV
  obtain ⟨a0, len0, cap0, rfl⟩ := okWide_slice Try.underlying22 (hval 0 22 v0 rfl rfl)
  have k0 := h0
  have lt0 : ∀ x ∈ p0, x.block < W.heap.size := by obtain ⟨m, hm⟩ := k0; exact DataW.trod_lt m _ _ _ hm
  obtain ⟨z0, w0, r0⟩ : ∃ zs, IsRow .u8 W a0 len0 cap0 zs ∧ cap0 ≤ 140737488351232 := by
    obtain ⟨fuel, hf⟩ := h0
    rcases open_ints Try.underlying22 Try.underlying5 (by kernel_rfl) hf with ⟨hcs, _⟩ | ⟨x, l, c, zs, hcs, _, hl, hm, hz, hxx, hcell, hwz⟩
    · simp [Value.cells] at hcs
      obtain ⟨rfl, rfl, rfl⟩ := hcs
      exact ⟨[], .inl ⟨rfl, rfl, rfl, rfl⟩, by omega⟩
    · simp [Value.cells] at hcs
      obtain ⟨rfl, rfl, rfl⟩ := hcs
      have hz' : zs.length = cap0 := by simpa using hz
      refine ⟨zs, .inr ⟨_, rfl, hl, hm, hz', hcell, hwz⟩, ?_⟩
      simp only [Prod.mk.injEq] at hxx
      rw [hxx.1] at hsz
      have h := sized_slice hsz (j := 0) (t := 22) (e := 5) rfl rfl Try.underlying22
      rw [bytes5] at h
      simp only [lits, List.length_map, List.length_take, List.length_drop, reachBytes] at h
      omega
  clear hA0 hval0
  refine (walk a0 len0 cap0 z0 W w0 r0).mono fun e W' ⟨he, bel⟩ => ?_
  subst he
  exact ⟨_, rfl, _, _, _, [], _, [], hW', trodAll_mk1 (shut_bool Try.underlying4 _), (trodAll_cons_mk (Below.trod laidOut (by kernel_rfl) (of_decide_eq_true (by kernel_rfl)) k0 bel lt0) trodAll_mk0), rfl, bel.frame _, fun h => by cases h⟩

theorem over : Rows.fnKeysRow.holds Try.pinned (OpenSpec.ofChange Rows.fnKeysSpec) :=
  OpenClaim.holds_of_wide 5 Try.f5 rfl rfl rfl rfl rfl rfl rfl ⟨rfl, rfl, rfl, rfl, rfl⟩ rfl rfl rfl rfl rfl (by kernel_rfl) Try.func5 (by kernel_rfl)
    (of_decide_eq_true (by kernel_rfl)) (by unfold Func.isWrapper; first | (rw [if_pos (by decide +kernel)]; kernel_rfl) | (rw [if_neg (by decide +kernel)]; exact ⟨rfl, rfl⟩))
    (fun os started H enc _ => lifted os started H enc)

/-- ████ THE STATEMENT ████ -/
theorem proved : Rows.FnKeysSaid := over
#print axioms proved
end Go.Proofs.Ytlakanajcabejaa.fnKeys
