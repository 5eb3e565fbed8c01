/-
  For every drawn key and drawn bytes: sealed bytes are opened with their key, and not if one byte of them is changed. No further condition.
-/
import Derived.Test.YtfjolhpimcmmlaaRows
import Derived.WalkKit
import Derived.ProofKit
import Derived.OpenShut
import Derived.ShutString
import Derived.ChangeOld
import Derived.SizedLaws
import Derived.Below
import Derived.Test.YtfjolhpimcmmlaaDrawTwo
import Derived.Test.YtfjolhpimcmmlaaLawTwo
import Derived.StillTailTactics
namespace Go.Proofs.Ytfjolhpimcmmlaa.fnSeals
open Go.ChangeShapes Go.WideShapes Go.ChangeAt Go.RowKit
open Go.ChangeMaps (open_string shut_string)
set_option linter.unusedVariables false

theorem bytes5 : Try.prog.bytesOf 5 = 1 := by kernel_rfl
open Go.Proofs.Ytfjolhpimcmmlaa Fld
theorem own : ownKnob Try.prog.godebug = none := by kernel_rfl
theorem laidOut : laidOutB Try.prog = true := by kernel_rfl

/-- WHAT THE WALK IS TOLD OF A SLICE OF INTEGERS THAT CAME IN: it is nil; or it leads to a row of 'cap' cells, the numbers 'zs' (the first 'len' are its elements, the rest its spare room), each fitting its kind. -/
def IsRow (k : IntKind) (w : World) (a : Option Addr) (len cap : Nat) (zs : List Int) : Prop :=
  (a = none ∧ len = 0 ∧ cap = 0 ∧ zs = []) ∨
  ∃ x, a = some x ∧ len ≤ cap ∧ cap ≤ maxLen ∧ zs.length = cap ∧ (∀ i, i < zs.length → w.cell? (x.add i) = some (.int k (zs.getD i 0))) ∧ ∀ n ∈ zs, (Lit.int k n).wf = true

theorem rowInts {w : World} {a : Option Addr} {n c : Nat} {zs : List Int} (h : IsRow .u8 w a n c zs) : Ints .u8 w w.heap.size a n (zs.take n) ∧ n ≤ c := by
  rcases h with ⟨rfl, rfl, rfl, rfl⟩ | ⟨x, rfl, hl, _, hz, hc, hw⟩
  · exact ⟨Ints.nil, Nat.le_refl _⟩
  · exact ⟨Ints.ofRow (by omega) hc hw, hl⟩

/-! ### STEP 1: THE WALK: the Go text returns true, AND WRITES NOTHING THAT WAS THERE: 'Below w.heap.size w w'' (Derived/Below.lean: '.refl', '.alloc', '.drew', '.setCell' at a new block, '.trans'). Open each 'IsRow' by 'rcases' AHEAD of 'go_enter'; part every test ahead of the walk. -/
set_option maxHeartbeats 2000000 in
theorem walk (a0 : Option Addr) (len0 cap0 : Nat) (z0 : List Int) (w : World) (w0 : IsRow .u8 w a0 len0 cap0 z0) (r0 : cap0 ≤ 140737488351232) :
    Calls Try.prog 4 #[.slice a0 len0 cap0] w fun e w' => e = .returned (.bool true) ∧ Below w.heap.size w w' := by
  obtain ⟨hl, hn⟩ := rowInts w0
  go_enter Try.func4, Try.ntmps4
  go_wp2_with fail
  refine (d_Seal hl (by omega)).mono ?_
  rintro e w1 ⟨k, v, l, rfl, hk, hO, hlen, hB1⟩
  obtain ⟨A1, c1, rfl, _, hI1, _⟩ := hO.ints
  have hby := hI1.bytes
  go_wp2_with fail
  refine (i_Seal k hI1 (by omega)).mono ?_
  rintro e w2 ⟨v2, rfl, hx, hb2⟩
  have hB2 := hB1.trans (hb2.mono hB1.size)
  have hO2 := hO.below hb2
  clear hO hI1
  by_cases hg : (0 ≤ k ∧ k < 2147483647) ∧ l.length ≤ 396
  · obtain ⟨ok, hl4⟩ := hg
    have ok : Ok k := ok
    rw [fseal_t ok hl4] at hx
    have hxl := sealL_len k l
    have hxb := sealL_bytes (k := k) hby
    have hop := open_seal (k := k) hby
    obtain ⟨r, hr⟩ : ∃ r, sealL k l = r := ⟨_, rfl⟩
    rw [hr] at hx hxl hxb hop
    have HR := Lib.hid hr
    have HL := Lib.hid hxl
    have HF := Lib.hid (fopen_t ok (show r.length ≤ 400 by omega) hop.1)
    have HP := Lib.hid hop.2
    obtain ⟨g, c2, rfl, hcc, hcm, _, hgs, _, _⟩ := hx.row (by omega)
    have hIx := hx.intsAt.1
    have hr4 : 4 ≤ r.length := by omega
    have hr400 : r.length ≤ 400 := by omega
    clear hr hxl hop
    unfold maxLen at hcm
    go_wp2_with (first | (go_at_call 17; with_reducible refine (s_FOk_t _ _ (by assumption)).mono ?_; rintro e w' ⟨rfl, rfl⟩))
    refine (i_Open k hIx hcc hcm).mono ?_
    rintro e w3 ⟨v3, rfl, hy, hb3⟩
    have hB3 := hB2.trans (hb3.mono hB2.size)
    rw [HF.out] at hy ⊢
    rw [HP.out] at hy
    obtain ⟨A3, c3, rfl, _, hI3, _⟩ := hy.ints
    have hx3 := hx.below hb3
    have hO3 := hO2.below hb3
    have hl3 := hl.below hB3
    have HE := Lib.hid (show ((r.length : Int) != (l.length : Int) + 4) = false by simp; have := HL.out; omega)
    go_wp2_with fail
    refine (l_same hI3 hO3.intsAt.1).mono ?_
    rintro e w' ⟨rfl, rfl⟩
    rw [show decide (l = l) = true from by simp]
    have hE := HE.out
    go_wp2_with fail
    refine (l_at 1 hl3 (by omega) (by omega)).mono ?_
    rintro e w' ⟨rfl, rfl⟩
    clear hE
    have ra := atV_rg hl3.bytes 1
    have rz := atV_rg hl3.bytes 2
    obtain ⟨a, hav⟩ : ∃ a, atV (List.take len0 z0) 1 = a := ⟨_, rfl⟩
    obtain ⟨z, hzv⟩ : ∃ z, atV (List.take len0 z0) 2 = z := ⟨_, rfl⟩
    rw [hav] at ra ⊢
    rw [hzv] at rz
    have HZ := Lib.hid hzv
    clear hav hzv
    obtain ⟨i, hi⟩ : ∃ i : Nat, a % (r.length : Int) = i := ⟨(a % (r.length : Int)).toNat, by have := Int.emod_nonneg a (show (r.length : Int) ≠ 0 by omega); omega⟩
    have hir : i < r.length := by have := Int.emod_lt_of_pos a (show (0 : Int) < r.length by omega); omega
    have tm : a.tmod (r.length : Int) = (i : Int) := by rw [Int.tmod_eq_emod_of_nonneg ra.1, hi]
    have HI := Lib.hid hi
    have d0 : ((r.length : Int) == 0) = false := by rw [beq_eq_false_iff_ne]; omega
    have m1 := Int.emod_nonneg a (show (r.length : Int) ≠ 0 by omega)
    have m2 := Int.emod_lt_of_pos a (show (0 : Int) < r.length by omega)
    go_wp2_with fail
    clear hi tm d0 m1 m2
    obtain ⟨g', c', e1, _, _, hgw, hgs3, hcell, hfz⟩ := hx3.row (by omega)
    simp only [Value.slice.injEq, Option.some.injEq, Addr.mk.injEq, and_true] at e1
    obtain ⟨e1, _, e2⟩ := e1
    subst e1 e2
    have hc := hcell i hir
    have hf := hfz i
    have by1 := hxb.at_ i
    obtain ⟨y, hy1⟩ : ∃ y, r.getD i 0 = y := ⟨_, rfl⟩
    rw [hy1] at hc by1
    have HY := Lib.hid hy1
    clear hy1 hcell hfz
    have q1 : (0 : Int) ≤ (i : Int) := Int.natCast_nonneg _
    have q2 : (i : Int) < (r.length : Int) := by omega
    have z1 : z.tmod 255 = z % 255 := Int.tmod_eq_emod_of_nonneg rz.1
    have z2 : IntKind.i64.wrap (1 + z % 255) = 1 + z % 255 := IntWalk.i64_in _ (by omega)
    have z3 : IntKind.u8.wrap (1 + z % 255) = 1 + z % 255 := u8w (by omega)
    refine wp_region_still_tail 12 (by kernel_rfl) (by kernel_rfl) ?_
    change wpStill _ _ w3.drew (fun a' => wpList _ _ _ _ a' w3.drew) _ _
    simp only [List.take_succ_cons, List.take_zero, List.drop_succ_cons, List.drop_zero]
    repeat still_step
    still_call (l_at_still 2 hl3.drew (by omega) (by omega) HZ.out)
    repeat still_step
    refine wpStill_nil ?_
    clear z1 z2 z3
    have rd : 0 ≤ 1 + z % 255 ∧ 1 + z % 255 < 256 := by omega
    have hxr := xor_rg by1 rd
    have hne := xor_ne by1 rd (by omega)
    have HP2 := Lib.hid (hx3.put i (bits .xor .u8 y (1 + z % 255)) (wf8 hxr))
    have hturn := open_turned (k := k) (l := l) (i := i) (x := bits .xor .u8 y (1 + z % 255)) hby hl4 (by have := HL.out; omega) hxr (by rw [HR.out, HY.out]; exact hne)
    rw [HR.out] at hturn
    have HF2 := Lib.hid (fopen_n hturn)
    have hIs : Ints .u8 (w3.setCell ⟨g, i, none⟩ (.int .u8 (bits .xor .u8 y (1 + z % 255)))).drew (w3.setCell ⟨g, i, none⟩ (.int .u8 (bits .xor .u8 y (1 + z % 255)))).drew.heap.size (some ⟨g, 0, none⟩) r.length (r.set i (bits .xor .u8 y (1 + z % 255))) := HP2.out.intsAt.1
    have hBs : Below w.heap.size w (w3.setCell ⟨g, i, none⟩ (.int .u8 (bits .xor .u8 y (1 + z % 255)))).drew := (hB3.setCell (p := ⟨g, i, none⟩) (Nat.le_trans hB1.size hgw) _).drew
    clear hne hxr hturn rd by1
    go_wp2_with fail
    refine (i_Open k hIs hcc hcm).mono ?_
    rintro e w4 ⟨v4, rfl, hy4, hb4⟩
    have hB4 := hBs.trans (hb4.mono hBs.size)
    rw [HF2.out] at hy4 ⊢
    obtain ⟨A4, c4, rfl, _⟩ := hy4.shape
    go_wp2_with fail
    refine (l_seals _).mono ?_
    rintro e w5 ⟨rfl, hb5⟩
    go_wp2_with fail
    go_ret
    exact ⟨rfl, hB4.trans (hb5.mono hB4.size)⟩
  · have hX : fseal k l = [] := if_neg hg
    rw [hX] at hx
    obtain ⟨A2, c2, rfl, _⟩ := hx.shape
    clear hx
    by_cases ok : 0 ≤ k ∧ k < 2147483647
    · have ok' : Ok k := ok
      have hbig : ¬ l.length ≤ 396 := fun h => hg ⟨ok, h⟩
      clear hg hX
      go_wp2_with (first | (go_at_call 17; with_reducible refine (s_FOk_t _ _ (by assumption)).mono ?_; rintro e w' ⟨rfl, rfl⟩) | (go_at_call 18; refine (l_seals _).mono ?_; rintro e w4 ⟨rfl, hb4⟩))
      go_ret
      exact ⟨rfl, hB2.trans (hb4.mono hB2.size)⟩
    · have bad : Bad k := ok
      clear hg hX
      go_wp2_with (first | (go_at_call 17; with_reducible refine (s_FOk_f _ _ (by assumption)).mono ?_; rintro e w' ⟨rfl, rfl⟩) | (go_at_call 18; refine (l_seals _).mono ?_; rintro e w4 ⟨rfl, hb4⟩))
      go_ret
      exact ⟨rfl, hB2.trans (hb4.mono hB2.size)⟩

/-! ### THE ROW's STEP: WRITTEN OUT: LEAVE IT -/
set_option maxRecDepth 100000 in
theorem lifted (os : Os) (started : os.Started) (H : Type) (enc : TypeId × Value → H) :
    ReturnsInHanded {} Try.checked os 4 .any (Rows.fnSealsSpec.pre6 enc Try.prog Try.f4 Rows.fnSealsRow.domain false) (Rows.fnSealsSpec.post enc Try.prog Try.f4 false true false false) := by
  refine returnsInHanded_of_change_sized (C := Try.checked) own started (by kernel_rfl) Try.func4
    (ChangeSpec.witness6 (enc := enc) (C := Try.checked) false ⟨#[], #[.slice none 0 0], []⟩ 8 (by kernel_rfl) (by kernel_rfl) (by kernel_rfl) (by kernel_rfl)) ?_
  intro W base args ds gs before hval0 hW hcnd hsz0 _
  have hval : ∀ (j : Nat) t v, Try.f4.params[j]? = some t → args[j]? = some v → Value.okWide Try.prog W .any base t v := hval0
  have hW' := hW
  obtain ⟨p, q, hA0, hV, rfl, hfz, hnd⟩ := hW
  have hA : DataW.TrodAll enc Try.prog W 0 (fun _ => true) true Try.f4.params.toList args.toList ds p := hA0
  have hsz : (DataW.weightsEach Try.prog (Try.f4.params.toList ++ Rows.fnSealsSpec.plain.varTypes Try.prog) (ds ++ gs)).all (· ≤ reachBytes) = true := hsz0
  rw [Try.params4] at hA hval hsz
  obtain ⟨v0, vs0, d0, ds0, p0, q0, hargs, rfl, rfl, h0, r0⟩ := trodAll_cons hA
  obtain ⟨rfl, rfl, rfl⟩ := trodAll_nil r0
  obtain rfl : args = #[v0] := by cases args; simp_all
  obtain ⟨rfl, rfl⟩ := trodVars_none hV
  obtain ⟨a0, len0, cap0, rfl⟩ := okWide_slice Try.underlying22 (hval 0 22 v0 rfl rfl)
  have k0 := h0
  have lt0 : ∀ x ∈ p0, x.block < W.heap.size := by obtain ⟨m, hm⟩ := k0; exact DataW.trod_lt m _ _ _ hm
  obtain ⟨z0, w0, r0⟩ : ∃ zs, IsRow .u8 W a0 len0 cap0 zs ∧ cap0 ≤ 140737488351232 := by
    obtain ⟨fuel, hf⟩ := h0
    rcases open_ints Try.underlying22 Try.underlying5 (by kernel_rfl) hf with ⟨hcs, _⟩ | ⟨x, l, c, zs, hcs, _, hl, hm, hz, hxx, hcell, hwz⟩
    · simp [Value.cells] at hcs
      obtain ⟨rfl, rfl, rfl⟩ := hcs
      exact ⟨[], .inl ⟨rfl, rfl, rfl, rfl⟩, by omega⟩
    · simp [Value.cells] at hcs
      obtain ⟨rfl, rfl, rfl⟩ := hcs
      have hz' : zs.length = cap0 := by simpa using hz
      refine ⟨zs, .inr ⟨_, rfl, hl, hm, hz', hcell, hwz⟩, ?_⟩
      simp only [Prod.mk.injEq] at hxx
      rw [hxx.1] at hsz
      have h := sized_slice hsz (j := 0) (t := 22) (e := 5) rfl rfl Try.underlying22
      rw [bytes5] at h
      simp only [lits, List.length_map, List.length_take, List.length_drop, reachBytes] at h
      omega
  clear hA0 hval0
  refine (walk a0 len0 cap0 z0 W w0 r0).mono fun e W' ⟨he, bel⟩ => ?_
  subst he
  exact ⟨_, rfl, _, _, _, [], _, [], hW', trodAll_mk1 (shut_bool Try.underlying4 _), (trodAll_cons_mk (Below.trod laidOut (by kernel_rfl) (of_decide_eq_true (by kernel_rfl)) k0 bel lt0) trodAll_mk0), rfl, bel.frame _, fun h => by cases h⟩

theorem over : Rows.fnSealsRow.holds Try.pinned (OpenSpec.ofChange Rows.fnSealsSpec) :=
  OpenClaim.holds_of_wide 4 Try.f4 rfl rfl rfl rfl rfl rfl rfl ⟨rfl, rfl, rfl, rfl, rfl⟩ rfl rfl rfl rfl rfl (by kernel_rfl) Try.func4 (by kernel_rfl)
    (of_decide_eq_true (by kernel_rfl)) (by unfold Func.isWrapper; first | (rw [if_pos (by decide +kernel)]; kernel_rfl) | (rw [if_neg (by decide +kernel)]; exact ⟨rfl, rfl⟩))
    (fun os started H enc _ => lifted os started H enc)

/-- ████ THE STATEMENT ████ -/
theorem proved : Rows.FnSealsSaid := over
#print axioms proved
end Go.Proofs.Ytfjolhpimcmmlaa.fnSeals
