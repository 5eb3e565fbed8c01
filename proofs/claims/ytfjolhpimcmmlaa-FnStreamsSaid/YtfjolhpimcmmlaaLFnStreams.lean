/-
  For every drawn key and drawn bytes: encryption preserves the length, is its own inverse, and changes each byte by the key stream's byte at its index. No further condition.
-/
import Derived.Test.YtfjolhpimcmmlaaRows
import Derived.WalkKit
import Derived.ProofKit
import Derived.OpenShut
import Derived.ShutString
import Derived.ChangeOld
import Derived.SizedLaws
import Derived.Below
import Derived.Test.YtfjolhpimcmmlaaDrawTwo
import Derived.Test.YtfjolhpimcmmlaaLawTwo
namespace Go.Proofs.Ytfjolhpimcmmlaa.fnStreams
open Go.ChangeShapes Go.WideShapes Go.ChangeAt Go.RowKit
open Go.ChangeMaps (open_string shut_string)
set_option linter.unusedVariables false

theorem bytes5 : Try.prog.bytesOf 5 = 1 := by kernel_rfl
open Go.Proofs.Ytfjolhpimcmmlaa Fld
theorem own : ownKnob Try.prog.godebug = none := by kernel_rfl
theorem laidOut : laidOutB Try.prog = true := by kernel_rfl

/-- WHAT THE WALK IS TOLD OF A SLICE OF INTEGERS THAT CAME IN: it is nil; or it leads to a row of 'cap' cells, the numbers 'zs' (the first 'len' are its elements, the rest its spare room), each fitting its kind. -/
def IsRow (k : IntKind) (w : World) (a : Option Addr) (len cap : Nat) (zs : List Int) : Prop :=
  (a = none ∧ len = 0 ∧ cap = 0 ∧ zs = []) ∨
  ∃ x, a = some x ∧ len ≤ cap ∧ cap ≤ maxLen ∧ zs.length = cap ∧ (∀ i, i < zs.length → w.cell? (x.add i) = some (.int k (zs.getD i 0))) ∧ ∀ n ∈ zs, (Lit.int k n).wf = true

theorem rowInts {w : World} {a : Option Addr} {n c : Nat} {zs : List Int} (h : IsRow .u8 w a n c zs) : Ints .u8 w w.heap.size a n (zs.take n) ∧ n ≤ c := by
  rcases h with ⟨rfl, rfl, rfl, rfl⟩ | ⟨x, rfl, hl, _, hz, hc, hw⟩
  · exact ⟨Ints.nil, Nat.le_refl _⟩
  · exact ⟨Ints.ofRow (by omega) hc hw, hl⟩
theorem i_str_at {k s : Int} {j : Nat} (h : Ok k) (hj : j < 400) (hs : strB k j = s) (W : World) : Calls Try.prog 19 #[.int .i64 k, .int .i64 j] W fun e w' => e = .returned (.int .i64 s) ∧ W = w' := by
  rw [← hs, ← fstr_t h (show 0 ≤ (j : Int) ∧ (j : Int) < 400 by omega)]
  exact i_StreamAt k j W

/-! ### STEP 1: THE WALK: the Go text returns true, AND WRITES NOTHING THAT WAS THERE: 'Below w.heap.size w w'' (Derived/Below.lean: '.refl', '.alloc', '.drew', '.setCell' at a new block, '.trans'). Open each 'IsRow' by 'rcases' AHEAD of 'go_enter'; part every test ahead of the walk. -/
set_option maxHeartbeats 2000000 in
theorem walk (a0 : Option Addr) (len0 cap0 : Nat) (z0 : List Int) (w : World) (w0 : IsRow .u8 w a0 len0 cap0 z0) (r0 : cap0 ≤ 140737488351232) :
    Calls Try.prog 3 #[.slice a0 len0 cap0] w fun e w' => e = .returned (.bool true) ∧ Below w.heap.size w w' := by
  obtain ⟨hl, hn⟩ := rowInts w0
  go_enter Try.func3, Try.ntmps3
  go_wp2_with fail
  refine (d_XorWith hl (by omega)).mono ?_
  rintro e w1 ⟨k, v, l, rfl, hk, hO, hlen, hB1⟩
  obtain ⟨A1, c1, rfl, _, hI1, _⟩ := hO.ints
  have hby := hI1.bytes
  go_wp2_with fail
  refine (i_XorWith k hI1 (by omega)).mono ?_
  rintro e w2 ⟨v2, rfl, hx, hb2⟩
  have hB2 := hB1.trans (hb2.mono hB1.size)
  have hO2 := hO.below hb2
  clear hO hI1
  by_cases hg : (0 ≤ k ∧ k < 2147483647) ∧ l.length ≤ 400
  · obtain ⟨ok, hl4⟩ := hg
    have ok : Ok k := ok
    have hX := fxor_t ok hl4
    rw [hX] at hx
    have hxl := xorl_len k l
    have hxb := xorl_bytes (k := k) hby
    have hxx := xorl_xorl (k := k) hby
    obtain ⟨r, hr⟩ : ∃ r, xorl k l = r := ⟨_, rfl⟩
    rw [hr] at hx hxl hxb hxx
    have HXX := Lib.hid hxx
    have HL := Lib.hid hxl
    have HA := Lib.hid (fun (i : Nat) (hi : i < l.length) => show r.getD i 0 = bits .xor .u8 (l.getD i 0) (strB k i) from by rw [← hr]; unfold xorl; exact xorn_at hi)
    obtain ⟨A2, c2, rfl, _, hIx, _⟩ := hx.ints
    obtain ⟨hIl, _⟩ := hO2.intsAt
    rw [hxl] at hIx
    rw [hxl]
    clear hX hr hxl hxx hx
    go_wp2_with (first | (go_at_call 17; with_reducible refine (s_FOk_t _ _ (by assumption)).mono ?_; rintro e w' ⟨rfl, rfl⟩))
    go_loopw [6] (fun i wr => ∃ j : Nat, j ≤ l.length ∧ i = .int .i64 j ∧ ∃ q, wr = w2.drewN q) (fun i _ => l.length - (intOf i).toNat)
    case atStart => exact ⟨0, by omega, rfl, 0, rfl⟩
    case round =>
      obtain ⟨j, hj, rfl, q, rfl⟩ := hrel
      by_cases hlt : j < l.length
      · obtain ⟨b1, o1, rfl, _, hc1, _⟩ := hIx.at_ hlt
        obtain ⟨b2, o2, rfl, _, hc2, _⟩ := hIl.at_ hlt
        have rs := strB_rg k j
        have ry := hby.at_ j
        have hxs := xor_same ry rs
        rw [HA.out j hlt] at hc1
        obtain ⟨s, hs⟩ : ∃ s, strB k j = s := ⟨_, rfl⟩
        obtain ⟨y, hy⟩ : ∃ y, l.getD j 0 = y := ⟨_, rfl⟩
        rw [hs, hy] at hc1 hxs
        rw [hs] at rs
        rw [hy] at hc2 ry
        have HS := Lib.hid hs
        have q1 : (0 : Int) ≤ (j : Int) := Int.natCast_nonneg _
        have q2 : (j : Int) < (l.length : Int) := by omega
        clear hs hy
        go_wp2
        go_quiet ((go_at_call 19; exact q_add (fun W => i_str_at ok (by omega) HS.out W)))
        go_wp2
        go_roundw
        case rel => exact ⟨j + 1, by omega, by go_num, _, rfl⟩
        case measure => simp [intOf]; omega
      · have hB2q := below_drewN hB2 q
        have HJ := Lib.hid (show l.length = r.length from HL.out.symm)
        go_wp2_with fail
        refine (i_XorWith k (show Ints .u8 (w2.drewN q) (w2.drewN q).heap.size A2 l.length r from hIx) (by omega)).mono ?_
        rintro e w3 ⟨v3, rfl, hy, hb3⟩
        have hB3 := hB2q.trans (hb3.mono hB2q.size)
        rw [fxor_t ok (show r.length ≤ 400 by rw [HL.out]; exact hl4), HXX.out] at hy
        obtain ⟨A3, c3, rfl, _, hI3, _⟩ := hy.ints
        have hIl3 := ((hO2.drewN q).below hb3).intsAt.1
        have t1 : decide (l = l) = true := by simp
        go_wp2_with fail
        refine (l_same hI3 hIl3).mono ?_
        rintro e w' ⟨rfl, rfl⟩
        rw [show decide (l = l) = true from by simp]
        go_wp2_with fail
        refine (l_seals _).mono ?_
        rintro e w4 ⟨rfl, hb4⟩
        go_wp2_with fail
        go_ret
        exact ⟨rfl, hB3.trans (hb4.mono hB3.size)⟩
  · have hX : fxor k l = [] := if_neg hg
    rw [hX] at hx
    obtain ⟨A2, c2, rfl, _⟩ := hx.shape
    clear hx
    by_cases ok : 0 ≤ k ∧ k < 2147483647
    · have ok' : Ok k := ok
      have hbig : ¬ l.length ≤ 400 := fun h => hg ⟨ok, h⟩
      clear hg hX
      go_wp2_with (first | (go_at_call 17; with_reducible refine (s_FOk_t _ _ (by assumption)).mono ?_; rintro e w' ⟨rfl, rfl⟩) | (go_at_call 18; refine (l_seals _).mono ?_; rintro e w4 ⟨rfl, hb4⟩))
      go_ret
      exact ⟨rfl, hB2.trans (hb4.mono hB2.size)⟩
    · have bad : Bad k := ok
      clear hg hX
      go_wp2_with (first | (go_at_call 17; with_reducible refine (s_FOk_f _ _ (by assumption)).mono ?_; rintro e w' ⟨rfl, rfl⟩) | (go_at_call 18; refine (l_seals _).mono ?_; rintro e w4 ⟨rfl, hb4⟩))
      go_ret
      exact ⟨rfl, hB2.trans (hb4.mono hB2.size)⟩

/-! ### THE ROW's STEP: WRITTEN OUT: LEAVE IT -/
set_option maxRecDepth 100000 in
theorem lifted (os : Os) (started : os.Started) (H : Type) (enc : TypeId × Value → H) :
    ReturnsInHanded {} Try.checked os 3 .any (Rows.fnStreamsSpec.pre6 enc Try.prog Try.f3 Rows.fnStreamsRow.domain false) (Rows.fnStreamsSpec.post enc Try.prog Try.f3 false true false false) := by
  refine returnsInHanded_of_change_sized (C := Try.checked) own started (by kernel_rfl) Try.func3
    (ChangeSpec.witness6 (enc := enc) (C := Try.checked) false ⟨#[], #[.slice none 0 0], []⟩ 8 (by kernel_rfl) (by kernel_rfl) (by kernel_rfl) (by kernel_rfl)) ?_
  intro W base args ds gs before hval0 hW hcnd hsz0 _
  have hval : ∀ (j : Nat) t v, Try.f3.params[j]? = some t → args[j]? = some v → Value.okWide Try.prog W .any base t v := hval0
  have hW' := hW
  obtain ⟨p, q, hA0, hV, rfl, hfz, hnd⟩ := hW
  have hA : DataW.TrodAll enc Try.prog W 0 (fun _ => true) true Try.f3.params.toList args.toList ds p := hA0
  have hsz : (DataW.weightsEach Try.prog (Try.f3.params.toList ++ Rows.fnStreamsSpec.plain.varTypes Try.prog) (ds ++ gs)).all (· ≤ reachBytes) = true := hsz0
  rw [Try.params3] at hA hval hsz
  obtain ⟨v0, vs0, d0, ds0, p0, q0, hargs, rfl, rfl, h0, r0⟩ := trodAll_cons hA
  obtain ⟨rfl, rfl, rfl⟩ := trodAll_nil r0
  obtain rfl : args = #[v0] := by cases args; simp_all
  obtain ⟨rfl, rfl⟩ := trodVars_none hV
  obtain ⟨a0, len0, cap0, rfl⟩ := okWide_slice Try.underlying22 (hval 0 22 v0 rfl rfl)
  have k0 := h0
  have lt0 : ∀ x ∈ p0, x.block < W.heap.size := by obtain ⟨m, hm⟩ := k0; exact DataW.trod_lt m _ _ _ hm
  obtain ⟨z0, w0, r0⟩ : ∃ zs, IsRow .u8 W a0 len0 cap0 zs ∧ cap0 ≤ 140737488351232 := by
    obtain ⟨fuel, hf⟩ := h0
    rcases open_ints Try.underlying22 Try.underlying5 (by kernel_rfl) hf with ⟨hcs, _⟩ | ⟨x, l, c, zs, hcs, _, hl, hm, hz, hxx, hcell, hwz⟩
    · simp [Value.cells] at hcs
      obtain ⟨rfl, rfl, rfl⟩ := hcs
      exact ⟨[], .inl ⟨rfl, rfl, rfl, rfl⟩, by omega⟩
    · simp [Value.cells] at hcs
      obtain ⟨rfl, rfl, rfl⟩ := hcs
      have hz' : zs.length = cap0 := by simpa using hz
      refine ⟨zs, .inr ⟨_, rfl, hl, hm, hz', hcell, hwz⟩, ?_⟩
      simp only [Prod.mk.injEq] at hxx
      rw [hxx.1] at hsz
      have h := sized_slice hsz (j := 0) (t := 22) (e := 5) rfl rfl Try.underlying22
      rw [bytes5] at h
      simp only [lits, List.length_map, List.length_take, List.length_drop, reachBytes] at h
      omega
  clear hA0 hval0
  refine (walk a0 len0 cap0 z0 W w0 r0).mono fun e W' ⟨he, bel⟩ => ?_
  subst he
  exact ⟨_, rfl, _, _, _, [], _, [], hW', trodAll_mk1 (shut_bool Try.underlying4 _), (trodAll_cons_mk (Below.trod laidOut (by kernel_rfl) (of_decide_eq_true (by kernel_rfl)) k0 bel lt0) trodAll_mk0), rfl, bel.frame _, fun h => by cases h⟩

theorem over : Rows.fnStreamsRow.holds Try.pinned (OpenSpec.ofChange Rows.fnStreamsSpec) :=
  OpenClaim.holds_of_wide 3 Try.f3 rfl rfl rfl rfl rfl rfl rfl ⟨rfl, rfl, rfl, rfl, rfl⟩ rfl rfl rfl rfl rfl (by kernel_rfl) Try.func3 (by kernel_rfl)
    (of_decide_eq_true (by kernel_rfl)) (by unfold Func.isWrapper; first | (rw [if_pos (by decide +kernel)]; kernel_rfl) | (rw [if_neg (by decide +kernel)]; exact ⟨rfl, rfl⟩))
    (fun os started H enc _ => lifted os started H enc)

/-- ████ THE STATEMENT ████ -/
theorem proved : Rows.FnStreamsSaid := over
#print axioms proved
end Go.Proofs.Ytfjolhpimcmmlaa.fnStreams
