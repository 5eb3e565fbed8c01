/-
  Adding what was subtracted, and multiplying by what was divided by (unless it is 0), restores the element; powers are products; for every drawn input. No further condition.
-/
import Derived.Test.YtlakanajcabejaaRows
import Derived.WalkKit
import Derived.ProofKit
import Derived.OpenShut
import Derived.ShutString
import Derived.ChangeOld
import Derived.SizedLaws
import Derived.Below
import Derived.Test.YtlakanajcabejaaDrawOne
import Derived.Test.YtlakanajcabejaaLawOne
import Derived.Test.YtlakanajcabejaaPowers
import Derived.BigQuiet
import Derived.Deep.QuietTactic
namespace Go.Proofs.Ytlakanajcabejaa.fnDivs
open Go.ChangeShapes Go.WideShapes Go.ChangeAt Go.RowKit
open Go.ChangeMaps (open_string shut_string)
set_option linter.unusedVariables false

theorem bytes5 : Try.prog.bytesOf 5 = 1 := by kernel_rfl
open Go.Proofs.Ytlakanajcabejaa Fld
theorem own : ownKnob Try.prog.godebug = none := by kernel_rfl
theorem laidOut : laidOutB Try.prog = true := by kernel_rfl

/-- WHAT THE WALK IS TOLD OF A SLICE OF INTEGERS THAT CAME IN: it is nil; or it leads to a row of 'cap' cells, the numbers 'zs' (the first 'len' are its elements, the rest its spare room), each fitting its kind. -/
def IsRow (k : IntKind) (w : World) (a : Option Addr) (len cap : Nat) (zs : List Int) : Prop :=
  (a = none ∧ len = 0 ∧ cap = 0 ∧ zs = []) ∨
  ∃ x, a = some x ∧ len ≤ cap ∧ cap ≤ maxLen ∧ zs.length = cap ∧ (∀ i, i < zs.length → w.cell? (x.add i) = some (.int k (zs.getD i 0))) ∧ ∀ n ∈ zs, (Lit.int k n).wf = true

theorem rowInts {w : World} {a : Option Addr} {n c : Nat} {zs : List Int} (h : IsRow .u8 w a n c zs) : Ints .u8 w w.heap.size a n (zs.take n) ∧ n ≤ c := by
  rcases h with ⟨rfl, rfl, rfl, rfl⟩ | ⟨x, rfl, hl, _, hz, hc, hw⟩
  · exact ⟨Ints.nil, Nat.le_refl _⟩
  · exact ⟨Ints.ofRow (by omega) hc hw, hl⟩

theorem bad_ret {a b : Bool} (h : a = b) : (a == b) = true := by subst h; simp
theorem powlen (p k : Int) : (∃ m : Nat, k = m ∧ (pows p k).length = m) ∨ (pows p k).length = 0 := by
  by_cases h : (0 ≤ p ∧ p < 2147483647) ∧ (0 ≤ k ∧ k ≤ 64)
  · refine .inl ⟨k.toNat, by omega, ?_⟩
    unfold pows
    rw [if_pos h, pw0_len]
  · right
    unfold pows
    rw [if_neg h]; rfl

/-! ### STEP 1: THE WALK: the Go text returns true, AND WRITES NOTHING THAT WAS THERE: 'Below w.heap.size w w'' (Derived/Below.lean: '.refl', '.alloc', '.drew', '.setCell' at a new block, '.trans'). Open each 'IsRow' by 'rcases' AHEAD of 'go_enter'; part every test ahead of the walk. -/
theorem walk (a0 : Option Addr) (len0 cap0 : Nat) (z0 : List Int) (w : World) (w0 : IsRow .u8 w a0 len0 cap0 z0) (r0 : cap0 ≤ 140737488351232) :
    Calls Try.prog 6 #[.slice a0 len0 cap0] w fun e w' => e = .returned (.bool true) ∧ Below w.heap.size w w' := by
  obtain ⟨hl, hn⟩ := rowInts w0
  go_enter Try.func6, Try.ntmps6
  go_wp2_with fail
  refine (d_FDiv hl (by omega)).mono ?_
  rintro e w1 ⟨a, b, rfl, ha, hb, hB1⟩
  rcases ok_or a with ga | ga
  · rcases ok_or b with gb | gb
    · have ED := Lib.hid (fdiv_t ga gb)
      have ES := Lib.hid (fsub_t ga gb)
      have EN := Lib.hid (fneg_t ga)
      have EA1 := Lib.hid ((fadd_t (ok_sub a b) gb).trans (show addP (subP a b) b = a from by have := ga.lo; have := ga.hi; have := gb.lo; have := gb.hi; unfold addP subP; omega))
      have EA2 := Lib.hid ((fadd_t ga (ok_neg a)).trans (show addP a (negP a) = 0 from by have := ga.lo; have := ga.hi; unfold addP negP; omega))
      have b0 := gb.lo
      have hgo : ∀ (F : Act → World → Prop), F = F := fun _ => rfl
      clear hgo
      by_cases hz : 0 < b
      · have EM := Lib.hid ((fmul_t (ok_mul a (invP b)) gb).trans (div_mul ga.lo ga.hi hz gb.hi))
        have hz2 : (b == 0) = false := by simp; omega
        go_wp2_with (first | (go_at_call 18; with_reducible refine (s_FOk_t _ _ (by assumption)).mono ?_; rintro e w' ⟨rfl, rfl⟩) | (go_at_call 18; with_reducible refine (s_FOk_f _ _ (by assumption)).mono ?_; rintro e w' ⟨rfl, rfl⟩) | (go_at_call 30; refine (i_FDiv _ _ _).mono ?_; rintro e w' ⟨rfl, rfl⟩; rw [ED.out]) | (go_at_call 31; refine (i_FSub _ _ _).mono ?_; rintro e w' ⟨rfl, rfl⟩; rw [ES.out]) | (go_at_call 32; refine (i_FNeg _ _).mono ?_; rintro e w' ⟨rfl, rfl⟩; rw [EN.out]) | (go_at_call 16; refine (i_FAdd _ _ _).mono ?_; rintro e w' ⟨rfl, rfl⟩; first | rw [EA1.out] | rw [EA2.out]) | (go_at_call 17; refine (i_FMul _ _ _).mono ?_; rintro e w' ⟨rfl, rfl⟩; rw [EM.out]))
        refine (i_Powers _ _ _).mono ?_
        rintro e w2 ⟨v, rfl, hv, hB2⟩
        rw [pows_t (n := 8) ga (by omega) (by omega)] at hv
        have h8 := pw0_len a 8
        obtain ⟨A8, c8, rfl, _, hI8, _⟩ := hv.ints
        rw [show (8 : Int).toNat = 8 from rfl] at hI8
        rw [show (8 : Int).toNat = 8 from rfl, h8]
        rw [h8] at hI8
        have hB12 := hB1.trans (hB2.mono hB1.size)
        have HI := Lib.hid hI8
        have HA := Lib.hid (fun (i : Nat) (hi : i < 8) => pw0_at (a := a) hi)
        clear h8 hv hI8
        go_wp2_with fail
        go_loopw [9] (fun i wr => ∃ k : Nat, k ≤ 8 ∧ i = .int .i64 k ∧ ∃ q, wr = w2.drewN q) (fun i _ => 8 - (intOf i).toNat)
        case atStart => exact ⟨0, by omega, rfl, 0, rfl⟩
        case round =>
          obtain ⟨k, hk, rfl, q, rfl⟩ := hrel
          by_cases hlt : k < 8
          · obtain ⟨bb, off, rfl, _, hc, _⟩ := HI.out.at_ hlt
            rw [HA.out k hlt] at hc
            have hne : (powP a k != powP a k) = false := by simp
            go_wp2_with fail
            go_quiet ((go_at_call 22; exact q_add (fun W => i_FPow_nat a k W ga (by omega))))
            go_wp2_with fail
            go_roundw
            case rel => exact ⟨k + 1, by omega, by go_num, _, rfl⟩
            case measure => simp [intOf]; omega
          · obtain rfl : k = 8 := by omega
            go_wp2_with fail
            refine (d_Powers ((hl.below (below_drewN hB12 _)).up (below_drewN hB12 _).size) (by omega)).mono ?_
            rintro e w3 ⟨p, kk, rfl, hp, hkk, hB3⟩
            have hB13 := (below_drewN hB12 q).trans (hB3.mono (below_drewN hB12 _).size)
            clear hkk HI HA
            rcases powlen p kk with ⟨m, rfl, hm⟩ | hm
            · go_wp2_with fail
              refine (i_Powers _ _ _).mono ?_
              rintro e w4 ⟨v4, rfl, hv4, hB4⟩
              obtain ⟨A4, c4, rfl, _⟩ := hv4.shape
              rw [hm]
              clear hm hv4
              have hB14 := hB13.trans (hB4.mono hB13.size)
              go_wp2_with (go_at_call 19; refine (l_fields _).mono ?_; rintro e w' ⟨rfl, rfl⟩)
              go_ret
              exact ⟨rfl, hB14⟩
            · go_wp2_with fail
              refine (i_Powers _ _ _).mono ?_
              rintro e w4 ⟨v4, rfl, hv4, hB4⟩
              obtain ⟨A4, c4, rfl, _⟩ := hv4.shape
              rw [hm]
              clear hv4
              have hB14 := hB13.trans (hB4.mono hB13.size)
              have HM := Lib.hid hm
              clear hm
              by_cases hk0 : kk = 0
              · subst hk0
                go_wp2_with (go_at_call 19; refine (l_fields _).mono ?_; rintro e w' ⟨rfl, rfl⟩)
                go_ret
                exact ⟨rfl, hB14⟩
              · have hk1 : ((0 : Int) == kk) = false := by simp; omega
                clear hk0
                go_wp2_with fail
                refine (i_Powers _ _ _).mono ?_
                rintro e w5 ⟨v5, rfl, hv5, hB5⟩
                obtain ⟨A5, c5, rfl, _⟩ := hv5.shape
                rw [HM.out]
                clear hv5
                have hB15 := hB14.trans (hB5.mono hB14.size)
                go_wp2_with (go_at_call 19; refine (l_fields _).mono ?_; rintro e w' ⟨rfl, rfl⟩)
                go_ret
                exact ⟨rfl, hB15⟩

      · obtain rfl : b = 0 := by omega
        have EM := Lib.hid (show mulP a (invP 0) = 0 from by rw [inv_zero, mulP_zero])
        go_wp2_with (first | (go_at_call 18; with_reducible refine (s_FOk_t _ _ (by assumption)).mono ?_; rintro e w' ⟨rfl, rfl⟩) | (go_at_call 18; with_reducible refine (s_FOk_f _ _ (by assumption)).mono ?_; rintro e w' ⟨rfl, rfl⟩) | (go_at_call 30; refine (i_FDiv _ _ _).mono ?_; rintro e w' ⟨rfl, rfl⟩; rw [ED.out, EM.out]) | (go_at_call 30; refine (i_FDiv _ _ _).mono ?_; rintro e w' ⟨rfl, rfl⟩; rw [ED.out]) | (go_at_call 31; refine (i_FSub _ _ _).mono ?_; rintro e w' ⟨rfl, rfl⟩; rw [ES.out]) | (go_at_call 32; refine (i_FNeg _ _).mono ?_; rintro e w' ⟨rfl, rfl⟩; rw [EN.out]) | (go_at_call 16; refine (i_FAdd _ _ _).mono ?_; rintro e w' ⟨rfl, rfl⟩; first | rw [EA1.out] | rw [EA2.out]))
        refine (i_Powers _ _ _).mono ?_
        rintro e w2 ⟨v, rfl, hv, hB2⟩
        rw [pows_t (n := 8) ga (by omega) (by omega)] at hv
        have h8 := pw0_len a 8
        obtain ⟨A8, c8, rfl, _, hI8, _⟩ := hv.ints
        rw [show (8 : Int).toNat = 8 from rfl] at hI8
        rw [show (8 : Int).toNat = 8 from rfl, h8]
        rw [h8] at hI8
        have hB12 := hB1.trans (hB2.mono hB1.size)
        have HI := Lib.hid hI8
        have HA := Lib.hid (fun (i : Nat) (hi : i < 8) => pw0_at (a := a) hi)
        clear h8 hv hI8
        go_wp2_with fail
        go_loopw [9] (fun i wr => ∃ k : Nat, k ≤ 8 ∧ i = .int .i64 k ∧ ∃ q, wr = w2.drewN q) (fun i _ => 8 - (intOf i).toNat)
        case atStart => exact ⟨0, by omega, rfl, 0, rfl⟩
        case round =>
          obtain ⟨k, hk, rfl, q, rfl⟩ := hrel
          by_cases hlt : k < 8
          · obtain ⟨bb, off, rfl, _, hc, _⟩ := HI.out.at_ hlt
            rw [HA.out k hlt] at hc
            have hne : (powP a k != powP a k) = false := by simp
            go_wp2_with fail
            go_quiet ((go_at_call 22; exact q_add (fun W => i_FPow_nat a k W ga (by omega))))
            go_wp2_with fail
            go_roundw
            case rel => exact ⟨k + 1, by omega, by go_num, _, rfl⟩
            case measure => simp [intOf]; omega
          · obtain rfl : k = 8 := by omega
            go_wp2_with fail
            refine (d_Powers ((hl.below (below_drewN hB12 _)).up (below_drewN hB12 _).size) (by omega)).mono ?_
            rintro e w3 ⟨p, kk, rfl, hp, hkk, hB3⟩
            have hB13 := (below_drewN hB12 q).trans (hB3.mono (below_drewN hB12 _).size)
            clear hkk HI HA
            rcases powlen p kk with ⟨m, rfl, hm⟩ | hm
            · go_wp2_with fail
              refine (i_Powers _ _ _).mono ?_
              rintro e w4 ⟨v4, rfl, hv4, hB4⟩
              obtain ⟨A4, c4, rfl, _⟩ := hv4.shape
              rw [hm]
              clear hm hv4
              have hB14 := hB13.trans (hB4.mono hB13.size)
              go_wp2_with (go_at_call 19; refine (l_fields _).mono ?_; rintro e w' ⟨rfl, rfl⟩)
              go_ret
              exact ⟨rfl, hB14⟩
            · go_wp2_with fail
              refine (i_Powers _ _ _).mono ?_
              rintro e w4 ⟨v4, rfl, hv4, hB4⟩
              obtain ⟨A4, c4, rfl, _⟩ := hv4.shape
              rw [hm]
              clear hv4
              have hB14 := hB13.trans (hB4.mono hB13.size)
              have HM := Lib.hid hm
              clear hm
              by_cases hk0 : kk = 0
              · subst hk0
                go_wp2_with (go_at_call 19; refine (l_fields _).mono ?_; rintro e w' ⟨rfl, rfl⟩)
                go_ret
                exact ⟨rfl, hB14⟩
              · have hk1 : ((0 : Int) == kk) = false := by simp; omega
                clear hk0
                go_wp2_with fail
                refine (i_Powers _ _ _).mono ?_
                rintro e w5 ⟨v5, rfl, hv5, hB5⟩
                obtain ⟨A5, c5, rfl, _⟩ := hv5.shape
                rw [HM.out]
                clear hv5
                have hB15 := hB14.trans (hB5.mono hB14.size)
                go_wp2_with (go_at_call 19; refine (l_fields _).mono ?_; rintro e w' ⟨rfl, rfl⟩)
                go_ret
                exact ⟨rfl, hB15⟩

    · have ED := Lib.hid (fdiv_r (a := a) gb)
      have ES := Lib.hid (fsub_r (a := a) gb)
      have EN := Lib.hid (fneg_t ga)
      have n0 := (negP_rg a).1
      have n1 : (negP a == -1) = false := by simp; omega
      go_wp2_with (first | (go_at_call 18; with_reducible refine (s_FOk_t _ _ (by assumption)).mono ?_; rintro e w' ⟨rfl, rfl⟩) | (go_at_call 18; with_reducible refine (s_FOk_f _ _ (by assumption)).mono ?_; rintro e w' ⟨rfl, rfl⟩) | (go_at_call 19; refine (l_fields _).mono ?_; rintro e w' ⟨rfl, rfl⟩) | (go_at_call 30; refine (i_FDiv _ _ _).mono ?_; rintro e w' ⟨rfl, rfl⟩; rw [ED.out]) | (go_at_call 31; refine (i_FSub _ _ _).mono ?_; rintro e w' ⟨rfl, rfl⟩; rw [ES.out]) | (go_at_call 32; refine (i_FNeg _ _).mono ?_; rintro e w' ⟨rfl, rfl⟩; rw [EN.out]))
      go_ret
      exact ⟨rfl, hB1⟩
  · have ED := Lib.hid (fdiv_l (b := b) ga)
    have ES := Lib.hid (fsub_l (b := b) ga)
    have EN := Lib.hid (fneg_f ga)
    go_wp2_with (first | (go_at_call 18; with_reducible refine (s_FOk_t _ _ (by assumption)).mono ?_; rintro e w' ⟨rfl, rfl⟩) | (go_at_call 18; with_reducible refine (s_FOk_f _ _ (by assumption)).mono ?_; rintro e w' ⟨rfl, rfl⟩) | (go_at_call 19; refine (l_fields _).mono ?_; rintro e w' ⟨rfl, rfl⟩) | (go_at_call 30; refine (i_FDiv _ _ _).mono ?_; rintro e w' ⟨rfl, rfl⟩; rw [ED.out]) | (go_at_call 31; refine (i_FSub _ _ _).mono ?_; rintro e w' ⟨rfl, rfl⟩; rw [ES.out]) | (go_at_call 32; refine (i_FNeg _ _).mono ?_; rintro e w' ⟨rfl, rfl⟩; rw [EN.out]))
    go_ret
    exact ⟨rfl, hB1⟩

/-! ### THE ROW's STEP: WRITTEN OUT: LEAVE IT -/
set_option maxRecDepth 100000 in
theorem lifted (os : Os) (started : os.Started) (H : Type) (enc : TypeId × Value → H) :
    ReturnsInHanded {} Try.checked os 6 .any (Rows.fnDivsSpec.pre6 enc Try.prog Try.f6 Rows.fnDivsRow.domain false) (Rows.fnDivsSpec.post enc Try.prog Try.f6 false true false false) := by
  refine returnsInHanded_of_change_sized (C := Try.checked) own started (by kernel_rfl) Try.func6
    (ChangeSpec.witness6 (enc := enc) (C := Try.checked) false ⟨#[], #[.slice none 0 0], []⟩ 8 (by kernel_rfl) (by kernel_rfl) (by kernel_rfl) (by kernel_rfl)) ?_
  intro W base args ds gs before hval0 hW hcnd hsz0 _
  have hval : ∀ (j : Nat) t v, Try.f6.params[j]? = some t → args[j]? = some v → Value.okWide Try.prog W .any base t v := hval0
  have hW' := hW
  obtain ⟨p, q, hA0, hV, rfl, hfz, hnd⟩ := hW
  have hA : DataW.TrodAll enc Try.prog W 0 (fun _ => true) true Try.f6.params.toList args.toList ds p := hA0
  have hsz : (DataW.weightsEach Try.prog (Try.f6.params.toList ++ Rows.fnDivsSpec.plain.varTypes Try.prog) (ds ++ gs)).all (· ≤ reachBytes) = true := hsz0
  rw [Try.params6] at hA hval hsz
  obtain ⟨v0, vs0, d0, ds0, p0, q0, hargs, rfl, rfl, h0, r0⟩ := trodAll_cons hA
  obtain ⟨rfl, rfl, rfl⟩ := trodAll_nil r0
  obtain rfl : args = #[v0] := by cases args; simp_all
  obtain ⟨rfl, rfl⟩ := trodVars_none hV
  obtain ⟨a0, len0, cap0, rfl⟩ := okWide_slice Try.underlying22 (hval 0 22 v0 rfl rfl)
  have k0 := h0
  have lt0 : ∀ x ∈ p0, x.block < W.heap.size := by obtain ⟨m, hm⟩ := k0; exact DataW.trod_lt m _ _ _ hm
  obtain ⟨z0, w0, r0⟩ : ∃ zs, IsRow .u8 W a0 len0 cap0 zs ∧ cap0 ≤ 140737488351232 := by
    obtain ⟨fuel, hf⟩ := h0
    rcases open_ints Try.underlying22 Try.underlying5 (by kernel_rfl) hf with ⟨hcs, _⟩ | ⟨x, l, c, zs, hcs, _, hl, hm, hz, hxx, hcell, hwz⟩
    · simp [Value.cells] at hcs
      obtain ⟨rfl, rfl, rfl⟩ := hcs
      exact ⟨[], .inl ⟨rfl, rfl, rfl, rfl⟩, by omega⟩
    · simp [Value.cells] at hcs
      obtain ⟨rfl, rfl, rfl⟩ := hcs
      have hz' : zs.length = cap0 := by simpa using hz
      refine ⟨zs, .inr ⟨_, rfl, hl, hm, hz', hcell, hwz⟩, ?_⟩
      simp only [Prod.mk.injEq] at hxx
      rw [hxx.1] at hsz
      have h := sized_slice hsz (j := 0) (t := 22) (e := 5) rfl rfl Try.underlying22
      rw [bytes5] at h
      simp only [lits, List.length_map, List.length_take, List.length_drop, reachBytes] at h
      omega
  clear hA0 hval0
  refine (walk a0 len0 cap0 z0 W w0 r0).mono fun e W' ⟨he, bel⟩ => ?_
  subst he
  exact ⟨_, rfl, _, _, _, [], _, [], hW', trodAll_mk1 (shut_bool Try.underlying4 _), (trodAll_cons_mk (Below.trod laidOut (by kernel_rfl) (of_decide_eq_true (by kernel_rfl)) k0 bel lt0) trodAll_mk0), rfl, bel.frame _, fun h => by cases h⟩

theorem over : Rows.fnDivsRow.holds Try.pinned (OpenSpec.ofChange Rows.fnDivsSpec) :=
  OpenClaim.holds_of_wide 6 Try.f6 rfl rfl rfl rfl rfl rfl rfl ⟨rfl, rfl, rfl, rfl, rfl⟩ rfl rfl rfl rfl rfl (by kernel_rfl) Try.func6 (by kernel_rfl)
    (of_decide_eq_true (by kernel_rfl)) (by unfold Func.isWrapper; first | (rw [if_pos (by decide +kernel)]; kernel_rfl) | (rw [if_neg (by decide +kernel)]; exact ⟨rfl, rfl⟩))
    (fun os started H enc _ => lifted os started H enc)

/-- ████ THE STATEMENT ████ -/
theorem proved : Rows.FnDivsSaid := over
#print axioms proved
end Go.Proofs.Ytlakanajcabejaa.fnDivs
