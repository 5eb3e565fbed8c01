/-
  Two parties that know each other's public keys have the same shared secret, for every drawn pair of secrets. No further condition.
-/
import Derived.Test.YtlakanajcabejaaRows
import Derived.WalkKit
import Derived.ProofKit
import Derived.OpenShut
import Derived.ShutString
import Derived.ChangeOld
import Derived.SizedLaws
import Derived.Below
import Derived.Test.YtlakanajcabejaaDrawOne
import Derived.Test.YtlakanajcabejaaLawOne
namespace Go.Proofs.Ytlakanajcabejaa.fnShares
open Go.ChangeShapes Go.WideShapes Go.ChangeAt Go.RowKit
open Go.ChangeMaps (open_string shut_string)
set_option linter.unusedVariables false

theorem bytes5 : Try.prog.bytesOf 5 = 1 := by kernel_rfl
open Go.Proofs.Ytlakanajcabejaa Fld
theorem own : ownKnob Try.prog.godebug = none := by kernel_rfl
theorem laidOut : laidOutB Try.prog = true := by kernel_rfl

/-- WHAT THE WALK IS TOLD OF A SLICE OF INTEGERS THAT CAME IN: it is nil; or it leads to a row of 'cap' cells, the numbers 'zs' (the first 'len' are its elements, the rest its spare room), each fitting its kind. -/
def IsRow (k : IntKind) (w : World) (a : Option Addr) (len cap : Nat) (zs : List Int) : Prop :=
  (a = none ∧ len = 0 ∧ cap = 0 ∧ zs = []) ∨
  ∃ x, a = some x ∧ len ≤ cap ∧ cap ≤ maxLen ∧ zs.length = cap ∧ (∀ i, i < zs.length → w.cell? (x.add i) = some (.int k (zs.getD i 0))) ∧ ∀ n ∈ zs, (Lit.int k n).wf = true

theorem rowInts {w : World} {a : Option Addr} {n c : Nat} {zs : List Int} (h : IsRow .u8 w a n c zs) : Ints .u8 w w.heap.size a n (zs.take n) ∧ n ≤ c := by
  rcases h with ⟨rfl, rfl, rfl, rfl⟩ | ⟨x, rfl, hl, _, hz, hc, hw⟩
  · exact ⟨Ints.nil, Nat.le_refl _⟩
  · exact ⟨Ints.ofRow (by omega) hc hw, hl⟩

theorem EP0 : Hid (pubOf 0 = -1) := Lib.hid (pubOf_f (fun h => absurd h.1 (by omega)))
theorem nopub {q : Int} (hq : Ok q) (h : NoPub q) : q < 2 ∨ q = 2147483646 := by
  have h1 := hq.lo
  have h2 := hq.hi
  by_cases h3 : q < 2
  · exact .inl h3
  · refine .inr ?_
    by_cases h4 : q < 2147483646
    · exact absurd ⟨by omega, h4⟩ h
    · omega

/-! ### STEP 1: THE WALK: the Go text returns true, AND WRITES NOTHING THAT WAS THERE: 'Below w.heap.size w w'' (Derived/Below.lean: '.refl', '.alloc', '.drew', '.setCell' at a new block, '.trans'). Open each 'IsRow' by 'rcases' AHEAD of 'go_enter'; part every test ahead of the walk. -/
theorem walk (a0 : Option Addr) (len0 cap0 : Nat) (z0 : List Int) (w : World) (w0 : IsRow .u8 w a0 len0 cap0 z0) (r0 : cap0 ≤ 140737488351232) :
    Calls Try.prog 4 #[.slice a0 len0 cap0] w fun e w' => e = .returned (.bool true) ∧ Below w.heap.size w w' := by
  obtain ⟨hl, hn⟩ := rowInts w0
  go_enter Try.func4, Try.ntmps4
  go_wp2_with fail
  refine (d_Shared hl (by omega)).mono ?_
  rintro e w1 ⟨a, b, rfl, ha, hb, hB⟩
  rcases sec_or a with ga | ga
  · rcases sec_or b with gb | gb
    · obtain ⟨p, hp⟩ : ∃ p, powP 7 a.toNat = p := ⟨_, rfl⟩
      obtain ⟨q, hq⟩ : ∃ q, powP 7 b.toNat = q := ⟨_, rfl⟩
      have EPa := Lib.hid ((pubOf_t ga).trans hp)
      have EPb := Lib.hid ((pubOf_t gb).trans hq)
      have op : Ok p := by rw [← hp]; exact ok_pow _ _
      have oq : Ok q := by rw [← hq]; exact ok_pow _ _
      have p0 := op.lo
      have q0 := oq.lo
      have HP := Lib.hid hp
      have HQ := Lib.hid hq
      clear hp hq
      rcases pub_or q with gq | gq
      · have ESx := Lib.hid (shared_t ga gq)
        have x0 := (powP_rg q a.toNat).1
        rcases pub_or p with gp | gp
        · have ox := ok_pow q a.toNat
          have ESy := Lib.hid ((shared_t gb gp).trans (show powP p b.toNat = powP q a.toNat by rw [← HP.out, ← HQ.out, powP_comm]))
          go_wp2_with (first | (go_at_call 20; with_reducible refine (i_FOk_t _ _ (by assumption)).mono ?_; rintro e w' ⟨rfl, rfl⟩) | (go_at_call 20; with_reducible refine (i_FOk_f _ _ (by assumption)).mono ?_; rintro e w' ⟨rfl, rfl⟩) | (go_at_call 19; refine (l_fields _).mono ?_; rintro e w' ⟨rfl, rfl⟩) | (go_at_call 24; refine (i_PubOf _ _).mono ?_; rintro e w' ⟨rfl, rfl⟩; first | rw [EPa.out] | rw [EPb.out] | rw [EP0.out]) | (go_at_call 25; refine (i_Shared _ _ _).mono ?_; rintro e w' ⟨rfl, rfl⟩; first | rw [ESx.out] | rw [ESy.out]))
          go_ret
          exact ⟨rfl, hB⟩
        · have ESy := Lib.hid (shared_r (a := b) gp)
          rcases nopub op gp with hz | rfl
          · go_wp2_with (first | (go_at_call 20; with_reducible refine (i_FOk_t _ _ (by assumption)).mono ?_; rintro e w' ⟨rfl, rfl⟩) | (go_at_call 20; with_reducible refine (i_FOk_f _ _ (by assumption)).mono ?_; rintro e w' ⟨rfl, rfl⟩) | (go_at_call 19; refine (l_fields _).mono ?_; rintro e w' ⟨rfl, rfl⟩) | (go_at_call 24; refine (i_PubOf _ _).mono ?_; rintro e w' ⟨rfl, rfl⟩; first | rw [EPa.out] | rw [EPb.out] | rw [EP0.out]) | (go_at_call 25; refine (i_Shared _ _ _).mono ?_; rintro e w' ⟨rfl, rfl⟩; first | rw [ESx.out] | rw [ESy.out]))
            go_ret
            exact ⟨rfl, hB⟩
          · go_wp2_with (first | (go_at_call 20; with_reducible refine (i_FOk_t _ _ (by assumption)).mono ?_; rintro e w' ⟨rfl, rfl⟩) | (go_at_call 20; with_reducible refine (i_FOk_f _ _ (by assumption)).mono ?_; rintro e w' ⟨rfl, rfl⟩) | (go_at_call 19; refine (l_fields _).mono ?_; rintro e w' ⟨rfl, rfl⟩) | (go_at_call 24; refine (i_PubOf _ _).mono ?_; rintro e w' ⟨rfl, rfl⟩; first | rw [EPa.out] | rw [EPb.out] | rw [EP0.out]) | (go_at_call 25; refine (i_Shared _ _ _).mono ?_; rintro e w' ⟨rfl, rfl⟩; first | rw [ESx.out] | rw [ESy.out]))
            go_ret
            exact ⟨rfl, hB⟩
      · have ESx := Lib.hid (shared_r (a := a) gq)
        have ESy := ESx
        by_cases c1 : p < 2
        · go_wp2_with (first | (go_at_call 20; with_reducible refine (i_FOk_t _ _ (by assumption)).mono ?_; rintro e w' ⟨rfl, rfl⟩) | (go_at_call 20; with_reducible refine (i_FOk_f _ _ (by assumption)).mono ?_; rintro e w' ⟨rfl, rfl⟩) | (go_at_call 19; refine (l_fields _).mono ?_; rintro e w' ⟨rfl, rfl⟩) | (go_at_call 24; refine (i_PubOf _ _).mono ?_; rintro e w' ⟨rfl, rfl⟩; first | rw [EPa.out] | rw [EPb.out] | rw [EP0.out]) | (go_at_call 25; refine (i_Shared _ _ _).mono ?_; rintro e w' ⟨rfl, rfl⟩; first | rw [ESx.out] | rw [ESy.out]) | (go_at_call 25; refine (i_Shared _ _ _).mono ?_; rintro e w' ⟨rfl, rfl⟩))
          all_goals (go_ret; exact ⟨rfl, hB⟩)
        · by_cases c2 : p = 2147483646
          · subst c2
            go_wp2_with (first | (go_at_call 20; with_reducible refine (i_FOk_t _ _ (by assumption)).mono ?_; rintro e w' ⟨rfl, rfl⟩) | (go_at_call 20; with_reducible refine (i_FOk_f _ _ (by assumption)).mono ?_; rintro e w' ⟨rfl, rfl⟩) | (go_at_call 19; refine (l_fields _).mono ?_; rintro e w' ⟨rfl, rfl⟩) | (go_at_call 24; refine (i_PubOf _ _).mono ?_; rintro e w' ⟨rfl, rfl⟩; first | rw [EPa.out] | rw [EPb.out] | rw [EP0.out]) | (go_at_call 25; refine (i_Shared _ _ _).mono ?_; rintro e w' ⟨rfl, rfl⟩; first | rw [ESx.out] | rw [ESy.out]) | (go_at_call 25; refine (i_Shared _ _ _).mono ?_; rintro e w' ⟨rfl, rfl⟩))
            all_goals (go_ret; exact ⟨rfl, hB⟩)
          · have c3 : (p == 2147483646) = false := by simpa using c2
            clear c2
            rcases nopub oq gq with hz | rfl
            · go_wp2_with (first | (go_at_call 20; with_reducible refine (i_FOk_t _ _ (by assumption)).mono ?_; rintro e w' ⟨rfl, rfl⟩) | (go_at_call 20; with_reducible refine (i_FOk_f _ _ (by assumption)).mono ?_; rintro e w' ⟨rfl, rfl⟩) | (go_at_call 19; refine (l_fields _).mono ?_; rintro e w' ⟨rfl, rfl⟩) | (go_at_call 24; refine (i_PubOf _ _).mono ?_; rintro e w' ⟨rfl, rfl⟩; first | rw [EPa.out] | rw [EPb.out] | rw [EP0.out]) | (go_at_call 25; refine (i_Shared _ _ _).mono ?_; rintro e w' ⟨rfl, rfl⟩; first | rw [ESx.out] | rw [ESy.out]) | (go_at_call 25; refine (i_Shared _ _ _).mono ?_; rintro e w' ⟨rfl, rfl⟩))
              all_goals (go_ret; exact ⟨rfl, hB⟩)
            · go_wp2_with (first | (go_at_call 20; with_reducible refine (i_FOk_t _ _ (by assumption)).mono ?_; rintro e w' ⟨rfl, rfl⟩) | (go_at_call 20; with_reducible refine (i_FOk_f _ _ (by assumption)).mono ?_; rintro e w' ⟨rfl, rfl⟩) | (go_at_call 19; refine (l_fields _).mono ?_; rintro e w' ⟨rfl, rfl⟩) | (go_at_call 24; refine (i_PubOf _ _).mono ?_; rintro e w' ⟨rfl, rfl⟩; first | rw [EPa.out] | rw [EPb.out] | rw [EP0.out]) | (go_at_call 25; refine (i_Shared _ _ _).mono ?_; rintro e w' ⟨rfl, rfl⟩; first | rw [ESx.out] | rw [ESy.out]) | (go_at_call 25; refine (i_Shared _ _ _).mono ?_; rintro e w' ⟨rfl, rfl⟩))
              all_goals (go_ret; exact ⟨rfl, hB⟩)
    · have EPb := Lib.hid (pubOf_f gb)
      have EPa := Lib.hid (pubOf_t ga)
      have p0 := (powP_rg 7 a.toNat).1
      go_wp2_with (first | (go_at_call 20; with_reducible refine (i_FOk_t _ _ (by assumption)).mono ?_; rintro e w' ⟨rfl, rfl⟩) | (go_at_call 20; with_reducible refine (i_FOk_f _ _ (by assumption)).mono ?_; rintro e w' ⟨rfl, rfl⟩) | (go_at_call 19; refine (l_fields _).mono ?_; rintro e w' ⟨rfl, rfl⟩) | (go_at_call 24; refine (i_PubOf _ _).mono ?_; rintro e w' ⟨rfl, rfl⟩; first | rw [EPa.out] | rw [EPb.out] | rw [EP0.out]))
      go_ret
      exact ⟨rfl, hB⟩
  · have EPa := Lib.hid (pubOf_f ga)
    obtain ⟨q, hq⟩ : ∃ q, pubOf b = q := ⟨_, rfl⟩
    have EPb := Lib.hid hq
    clear hq
    go_wp2_with (first | (go_at_call 20; with_reducible refine (i_FOk_t _ _ (by assumption)).mono ?_; rintro e w' ⟨rfl, rfl⟩) | (go_at_call 20; with_reducible refine (i_FOk_f _ _ (by assumption)).mono ?_; rintro e w' ⟨rfl, rfl⟩) | (go_at_call 19; refine (l_fields _).mono ?_; rintro e w' ⟨rfl, rfl⟩) | (go_at_call 24; refine (i_PubOf _ _).mono ?_; rintro e w' ⟨rfl, rfl⟩; first | rw [EPa.out] | rw [EPb.out] | rw [EP0.out]))
    go_ret
    exact ⟨rfl, hB⟩

/-! ### THE ROW's STEP: WRITTEN OUT: LEAVE IT -/
set_option maxRecDepth 100000 in
theorem lifted (os : Os) (started : os.Started) (H : Type) (enc : TypeId × Value → H) :
    ReturnsInHanded {} Try.checked os 4 .any (Rows.fnSharesSpec.pre6 enc Try.prog Try.f4 Rows.fnSharesRow.domain false) (Rows.fnSharesSpec.post enc Try.prog Try.f4 false true false false) := by
  refine returnsInHanded_of_change_sized (C := Try.checked) own started (by kernel_rfl) Try.func4
    (ChangeSpec.witness6 (enc := enc) (C := Try.checked) false ⟨#[], #[.slice none 0 0], []⟩ 8 (by kernel_rfl) (by kernel_rfl) (by kernel_rfl) (by kernel_rfl)) ?_
  intro W base args ds gs before hval0 hW hcnd hsz0 _
  have hval : ∀ (j : Nat) t v, Try.f4.params[j]? = some t → args[j]? = some v → Value.okWide Try.prog W .any base t v := hval0
  have hW' := hW
  obtain ⟨p, q, hA0, hV, rfl, hfz, hnd⟩ := hW
  have hA : DataW.TrodAll enc Try.prog W 0 (fun _ => true) true Try.f4.params.toList args.toList ds p := hA0
  have hsz : (DataW.weightsEach Try.prog (Try.f4.params.toList ++ Rows.fnSharesSpec.plain.varTypes Try.prog) (ds ++ gs)).all (· ≤ reachBytes) = true := hsz0
  rw [Try.params4] at hA hval hsz
  obtain ⟨v0, vs0, d0, ds0, p0, q0, hargs, rfl, rfl, h0, r0⟩ := trodAll_cons hA
  obtain ⟨rfl, rfl, rfl⟩ := trodAll_nil r0
  obtain rfl : args = #[v0] := by cases args; simp_all
  obtain ⟨rfl, rfl⟩ := trodVars_none hV
  obtain ⟨a0, len0, cap0, rfl⟩ := okWide_slice Try.underlying22 (hval 0 22 v0 rfl rfl)
  have k0 := h0
  have lt0 : ∀ x ∈ p0, x.block < W.heap.size := by obtain ⟨m, hm⟩ := k0; exact DataW.trod_lt m _ _ _ hm
  obtain ⟨z0, w0, r0⟩ : ∃ zs, IsRow .u8 W a0 len0 cap0 zs ∧ cap0 ≤ 140737488351232 := by
    obtain ⟨fuel, hf⟩ := h0
    rcases open_ints Try.underlying22 Try.underlying5 (by kernel_rfl) hf with ⟨hcs, _⟩ | ⟨x, l, c, zs, hcs, _, hl, hm, hz, hxx, hcell, hwz⟩
    · simp [Value.cells] at hcs
      obtain ⟨rfl, rfl, rfl⟩ := hcs
      exact ⟨[], .inl ⟨rfl, rfl, rfl, rfl⟩, by omega⟩
    · simp [Value.cells] at hcs
      obtain ⟨rfl, rfl, rfl⟩ := hcs
      have hz' : zs.length = cap0 := by simpa using hz
      refine ⟨zs, .inr ⟨_, rfl, hl, hm, hz', hcell, hwz⟩, ?_⟩
      simp only [Prod.mk.injEq] at hxx
      rw [hxx.1] at hsz
      have h := sized_slice hsz (j := 0) (t := 22) (e := 5) rfl rfl Try.underlying22
      rw [bytes5] at h
      simp only [lits, List.length_map, List.length_take, List.length_drop, reachBytes] at h
      omega
  clear hA0 hval0
  refine (walk a0 len0 cap0 z0 W w0 r0).mono fun e W' ⟨he, bel⟩ => ?_
  subst he
  exact ⟨_, rfl, _, _, _, [], _, [], hW', trodAll_mk1 (shut_bool Try.underlying4 _), (trodAll_cons_mk (Below.trod laidOut (by kernel_rfl) (of_decide_eq_true (by kernel_rfl)) k0 bel lt0) trodAll_mk0), rfl, bel.frame _, fun h => by cases h⟩

theorem over : Rows.fnSharesRow.holds Try.pinned (OpenSpec.ofChange Rows.fnSharesSpec) :=
  OpenClaim.holds_of_wide 4 Try.f4 rfl rfl rfl rfl rfl rfl rfl ⟨rfl, rfl, rfl, rfl, rfl⟩ rfl rfl rfl rfl rfl (by kernel_rfl) Try.func4 (by kernel_rfl)
    (of_decide_eq_true (by kernel_rfl)) (by unfold Func.isWrapper; first | (rw [if_pos (by decide +kernel)]; kernel_rfl) | (rw [if_neg (by decide +kernel)]; exact ⟨rfl, rfl⟩))
    (fun os started H enc _ => lifted os started H enc)

/-- ████ THE STATEMENT ████ -/
theorem proved : Rows.FnSharesSaid := over
#print axioms proved
end Go.Proofs.Ytlakanajcabejaa.fnShares
