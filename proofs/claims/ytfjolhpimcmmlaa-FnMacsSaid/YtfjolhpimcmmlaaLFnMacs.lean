/-
  For every drawn key and drawn bytes: the authentication code differs if one byte differs, and is a field element. No further condition.
-/
import Derived.Test.YtfjolhpimcmmlaaRows
import Derived.WalkKit
import Derived.ProofKit
import Derived.OpenShut
import Derived.ShutString
import Derived.ChangeOld
import Derived.SizedLaws
import Derived.Below
import Derived.Test.YtfjolhpimcmmlaaDrawTwo
import Derived.Test.YtfjolhpimcmmlaaLawTwo
import Derived.StillTailTactics
import Derived.Test.YtfjolhpimcmmlaaCopy
namespace Go.Proofs.Ytfjolhpimcmmlaa.fnMacs
open Go.ChangeShapes Go.WideShapes Go.ChangeAt Go.RowKit
open Go.ChangeMaps (open_string shut_string)
set_option linter.unusedVariables false

theorem bytes5 : Try.prog.bytesOf 5 = 1 := by kernel_rfl
open Go.Proofs.Ytfjolhpimcmmlaa Fld
theorem own : ownKnob Try.prog.godebug = none := by kernel_rfl
theorem laidOut : laidOutB Try.prog = true := by kernel_rfl

/-- WHAT THE WALK IS TOLD OF A SLICE OF INTEGERS THAT CAME IN: it is nil; or it leads to a row of 'cap' cells, the numbers 'zs' (the first 'len' are its elements, the rest its spare room), each fitting its kind. -/
def IsRow (k : IntKind) (w : World) (a : Option Addr) (len cap : Nat) (zs : List Int) : Prop :=
  (a = none ∧ len = 0 ∧ cap = 0 ∧ zs = []) ∨
  ∃ x, a = some x ∧ len ≤ cap ∧ cap ≤ maxLen ∧ zs.length = cap ∧ (∀ i, i < zs.length → w.cell? (x.add i) = some (.int k (zs.getD i 0))) ∧ ∀ n ∈ zs, (Lit.int k n).wf = true

theorem rowInts {w : World} {a : Option Addr} {n c : Nat} {zs : List Int} (h : IsRow .u8 w a n c zs) : Ints .u8 w w.heap.size a n (zs.take n) ∧ n ≤ c := by
  rcases h with ⟨rfl, rfl, rfl, rfl⟩ | ⟨x, rfl, hl, _, hz, hc, hw⟩
  · exact ⟨Ints.nil, Nat.le_refl _⟩
  · exact ⟨Ints.ofRow (by omega) hc hw, hl⟩

/-! ### STEP 1: THE WALK: the Go text returns true, AND WRITES NOTHING THAT WAS THERE: 'Below w.heap.size w w'' (Derived/Below.lean: '.refl', '.alloc', '.drew', '.setCell' at a new block, '.trans'). Open each 'IsRow' by 'rcases' AHEAD of 'go_enter'; part every test ahead of the walk. -/
set_option maxHeartbeats 2000000 in
theorem walk (a0 : Option Addr) (len0 cap0 : Nat) (z0 : List Int) (w : World) (w0 : IsRow .u8 w a0 len0 cap0 z0) (r0 : cap0 ≤ 140737488351232) :
    Calls Try.prog 5 #[.slice a0 len0 cap0] w fun e w' => e = .returned (.bool true) ∧ Below w.heap.size w w' := by
  obtain ⟨i0, hi0, hz0, hz1, hz2⟩ := info_parts info_by
  obtain ⟨hl, hn⟩ := rowInts w0
  go_enter Try.func5, Try.ntmps5
  go_wp2_with fail
  refine (d_Mac hl (by omega)).mono ?_
  rintro e w1 ⟨k, v, l, rfl, hk, hO, hlen, hB1⟩
  obtain ⟨A1, c1, rfl, _, hI1, _⟩ := hO.ints
  have hby := hI1.bytes
  by_cases hg : (0 ≤ k ∧ k < 2147483647) ∧ l.length ≤ 400
  · obtain ⟨ok, hl4⟩ := hg
    have ok : Ok k := ok
    have hM := fmac_t ok hl4
    have rm := mac_rg k l
    obtain ⟨m, hm⟩ : ∃ m, mac k l = m := ⟨_, rfl⟩
    rw [hm] at hM rm
    have HM := Lib.hid hM
    have HMM := Lib.hid hm
    clear hM hm
    have okm : Ok m := rm
    have rm0 := rm.1
    by_cases hz : l.length = 0
    · have HZ := Lib.hid hz
      have d0 : ((l.length : Int) == 0) = true := by rw [beq_iff_eq]; omega
      have d1 : decide (m < 0) = false := by simp; omega
      clear hz
      go_wp2_with (first | (go_at_call 26; refine (i_Mac k hI1 (by omega)).mono ?_; rintro e w' ⟨rfl, rfl⟩; rw [HM.out]) | (go_at_call 18; refine (l_seals _).mono ?_; rintro e w4 ⟨rfl, hb4⟩))
      go_ret
      exact ⟨rfl, hB1.trans (hb4.mono hB1.size)⟩
    · have d0 : ((l.length : Int) == 0) = false := by rw [beq_eq_false_iff_ne]; omega
      have d1 : decide (m < 0) = false := by simp; omega
      have hz' : 0 < l.length := by omega
      clear hz
      go_wp2_with (first
        | (go_at_call 26; refine (i_Mac k hI1 (by omega)).mono ?_; rintro e w' ⟨rfl, rfl⟩; rw [HM.out])
        | (at_builtin; refine wpList_app _ rfl (.tmp 28) (.tmp 29) _ rfl w1.heap.size 5 i0 _ 1 1 Try.underlying22 hi0 hz0 hz1 hz2 rfl (by omega) _ 0 [] rfl (empty_row _ _) A1 l.length c1 _ rfl (Src.of_ints (hI1.alloc (Nat.le_refl _) _)) (one_ints _ _) (by simp only [maxLen]; omega) (by omega) (by simp) ?_; intro v3 w3 hown hgr hat))
      have hg1 : (w1.alloc (.cells #[] 5)).grownBy w3 (some w1.heap.size) := hgr
      have hg3 : w1.grownBy w3 (some w1.heap.size) := gb_trans (gb_alloc (World.grownBy.refl w1 _) _) hg1
      have hx3 : Own .u8 5 w3 w1.heap.size v3 l := Own.of (n := l.length) (by simpa using hown) (fun y hy => wf8 (hby y hy))
      have hB3 : Below w.heap.size w w3 := hB1.grown hg3 hB1.size (fun b hb => by injection hb with hb; rw [← hb]; exact hB1.size)
      have hO3 := hO.kept hg3 (.inr (fun e => by have := (hO.block e).2; omega))
      have hap := hx3.apart hO (Nat.le_refl _)
      have hl3 := hl.below hB3
      clear hgr hg1 hg3 hown hat hO hI1
      obtain ⟨g, c2, rfl, hcc, hcm, hgw, hgs, hcell, hfz⟩ := hx3.row hz'
      unfold maxLen at hcm
      go_wp2_with fail
      refine (l_at 1 hl3 (by omega) (by omega)).mono ?_
      rintro e w' ⟨rfl, rfl⟩
      have ra := atV_rg hl3.bytes 1
      have rz := atV_rg hl3.bytes 2
      obtain ⟨a, hav⟩ : ∃ a, atV (List.take len0 z0) 1 = a := ⟨_, rfl⟩
      obtain ⟨z, hzv⟩ : ∃ z, atV (List.take len0 z0) 2 = z := ⟨_, rfl⟩
      rw [hav] at ra ⊢
      rw [hzv] at rz
      have HZ := Lib.hid hzv
      clear hav hzv
      obtain ⟨i, hi⟩ : ∃ i : Nat, a % (l.length : Int) = i := ⟨(a % (l.length : Int)).toNat, by have := Int.emod_nonneg a (show (l.length : Int) ≠ 0 by omega); omega⟩
      have hir : i < l.length := by have := Int.emod_lt_of_pos a (show (0 : Int) < l.length by omega); omega
      have tm : a.tmod (l.length : Int) = (i : Int) := by rw [Int.tmod_eq_emod_of_nonneg ra.1, hi]
      have m1 := Int.emod_nonneg a (show (l.length : Int) ≠ 0 by omega)
      have m2 := Int.emod_lt_of_pos a (show (0 : Int) < l.length by omega)
      go_wp2_with fail
      clear hi tm d0 m1 m2
      have hc := hcell i hir
      have hf := hfz i
      have by1 := hby.at_ i
      obtain ⟨y, hy1⟩ : ∃ y, l.getD i 0 = y := ⟨_, rfl⟩
      rw [hy1] at hc by1
      have HY := Lib.hid hy1
      clear hy1 hcell hfz
      have q1 : (0 : Int) ≤ (i : Int) := Int.natCast_nonneg _
      have q2 : (i : Int) < (l.length : Int) := by omega
      have z1 : z.tmod 255 = z % 255 := Int.tmod_eq_emod_of_nonneg rz.1
      have z2 : IntKind.i64.wrap (1 + z % 255) = 1 + z % 255 := IntWalk.i64_in _ (by omega)
      have z3 : IntKind.u8.wrap (1 + z % 255) = 1 + z % 255 := u8w (by omega)
      refine wp_region_still_tail 12 (by kernel_rfl) (by kernel_rfl) ?_
      change wpStill _ _ w3.drew (fun a' => wpList _ _ _ _ a' w3.drew) _ _
      simp only [List.take_succ_cons, List.take_zero, List.drop_succ_cons, List.drop_zero]
      repeat still_step
      still_call (l_at_still 2 hl3.drew (by omega) (by omega) HZ.out)
      repeat still_step
      refine wpStill_nil ?_
      clear z1 z2 z3
      have rd : 0 ≤ 1 + z % 255 ∧ 1 + z % 255 < 256 := by omega
      have hxr := xor_rg by1 rd
      have hne := xor_ne by1 rd (by omega)
      have HP2 := Lib.hid (hx3.put i (bits .xor .u8 y (1 + z % 255)) (wf8 hxr))
      have hmn := mac_ne (k := k) hby hl4 hir hxr (by rw [HY.out]; exact hne)
      have hmm : (mac k (l.set i (bits .xor .u8 y (1 + z % 255))) != m) = true := by rw [bne_iff_ne, ← HMM.out]; exact hmn
      have hIs : Ints .u8 (w3.setCell ⟨g, i, none⟩ (.int .u8 (bits .xor .u8 y (1 + z % 255)))).drew (w3.setCell ⟨g, i, none⟩ (.int .u8 (bits .xor .u8 y (1 + z % 255)))).drew.heap.size (some ⟨g, 0, none⟩) l.length (l.set i (bits .xor .u8 y (1 + z % 255))) := HP2.out.intsAt.1
      have HMS := Lib.hid (fmac_t ok (show (l.set i (bits .xor .u8 y (1 + z % 255))).length ≤ 400 by rw [List.length_set]; exact hl4))
      have hBs : Below w.heap.size w (w3.setCell ⟨g, i, none⟩ (.int .u8 (bits .xor .u8 y (1 + z % 255)))).drew := (hB3.setCell (p := ⟨g, i, none⟩) (Nat.le_trans hB1.size hgw) _).drew
      have hIb : Ints .u8 (w3.setCell ⟨g, i, none⟩ (.int .u8 (bits .xor .u8 y (1 + z % 255)))).drew (w3.setCell ⟨g, i, none⟩ (.int .u8 (bits .xor .u8 y (1 + z % 255)))).drew.heap.size A1 l.length l :=
        (hO3.kept (only_put (World.grownBy.refl w3 (some g)) i (.int .u8 (bits .xor .u8 y (1 + z % 255)))) (by have := apart_symm hap; exact this)).intsAt.1
      have hMB := HM.out
      clear hne hxr hmn rd by1
      obtain ⟨mm, hmmv⟩ : ∃ mm, mac k (l.set i (bits .xor .u8 y (1 + z % 255))) = mm := ⟨_, rfl⟩
      rw [hmmv] at hmm
      have HMV := Lib.hid hmmv
      clear hmmv hMB
      go_wp2_with fail
      refine (i_FOk_t m _ okm).mono ?_
      rintro e w' ⟨rfl, rfl⟩
      go_wp2_with fail
      refine (i_Mac k hIs (by omega)).mono ?_
      rintro e w' ⟨rfl, rfl⟩
      rw [HMS.out, HMV.out]
      go_wp2_with fail
      refine (i_Mac k hIb (by omega)).mono ?_
      rintro e w' ⟨rfl, rfl⟩
      rw [HM.out]
      go_wp2_with fail
      refine (l_seals _).mono ?_
      rintro e w4 ⟨rfl, hb4⟩
      go_wp2_with fail
      go_ret
      exact ⟨rfl, hBs.trans (hb4.mono hBs.size)⟩
  · have hX : fmac k l = -1 := if_neg hg
    have HX := Lib.hid hX
    clear hX hg
    go_wp2_with (first | (go_at_call 26; refine (i_Mac k hI1 (by omega)).mono ?_; rintro e w' ⟨rfl, rfl⟩; rw [HX.out]) | (go_at_call 18; refine (l_seals _).mono ?_; rintro e w4 ⟨rfl, hb4⟩))
    go_ret
    exact ⟨rfl, hB1.trans (hb4.mono hB1.size)⟩

/-! ### THE ROW's STEP: WRITTEN OUT: LEAVE IT -/
set_option maxRecDepth 100000 in
theorem lifted (os : Os) (started : os.Started) (H : Type) (enc : TypeId × Value → H) :
    ReturnsInHanded {} Try.checked os 5 .any (Rows.fnMacsSpec.pre6 enc Try.prog Try.f5 Rows.fnMacsRow.domain false) (Rows.fnMacsSpec.post enc Try.prog Try.f5 false true false false) := by
  refine returnsInHanded_of_change_sized (C := Try.checked) own started (by kernel_rfl) Try.func5
    (ChangeSpec.witness6 (enc := enc) (C := Try.checked) false ⟨#[], #[.slice none 0 0], []⟩ 8 (by kernel_rfl) (by kernel_rfl) (by kernel_rfl) (by kernel_rfl)) ?_
  intro W base args ds gs before hval0 hW hcnd hsz0 _
  have hval : ∀ (j : Nat) t v, Try.f5.params[j]? = some t → args[j]? = some v → Value.okWide Try.prog W .any base t v := hval0
  have hW' := hW
  obtain ⟨p, q, hA0, hV, rfl, hfz, hnd⟩ := hW
  have hA : DataW.TrodAll enc Try.prog W 0 (fun _ => true) true Try.f5.params.toList args.toList ds p := hA0
  have hsz : (DataW.weightsEach Try.prog (Try.f5.params.toList ++ Rows.fnMacsSpec.plain.varTypes Try.prog) (ds ++ gs)).all (· ≤ reachBytes) = true := hsz0
  rw [Try.params5] at hA hval hsz
  obtain ⟨v0, vs0, d0, ds0, p0, q0, hargs, rfl, rfl, h0, r0⟩ := trodAll_cons hA
  obtain ⟨rfl, rfl, rfl⟩ := trodAll_nil r0
  obtain rfl : args = #[v0] := by cases args; simp_all
  obtain ⟨rfl, rfl⟩ := trodVars_none hV
  obtain ⟨a0, len0, cap0, rfl⟩ := okWide_slice Try.underlying22 (hval 0 22 v0 rfl rfl)
  have k0 := h0
  have lt0 : ∀ x ∈ p0, x.block < W.heap.size := by obtain ⟨m, hm⟩ := k0; exact DataW.trod_lt m _ _ _ hm
  obtain ⟨z0, w0, r0⟩ : ∃ zs, IsRow .u8 W a0 len0 cap0 zs ∧ cap0 ≤ 140737488351232 := by
    obtain ⟨fuel, hf⟩ := h0
    rcases open_ints Try.underlying22 Try.underlying5 (by kernel_rfl) hf with ⟨hcs, _⟩ | ⟨x, l, c, zs, hcs, _, hl, hm, hz, hxx, hcell, hwz⟩
    · simp [Value.cells] at hcs
      obtain ⟨rfl, rfl, rfl⟩ := hcs
      exact ⟨[], .inl ⟨rfl, rfl, rfl, rfl⟩, by omega⟩
    · simp [Value.cells] at hcs
      obtain ⟨rfl, rfl, rfl⟩ := hcs
      have hz' : zs.length = cap0 := by simpa using hz
      refine ⟨zs, .inr ⟨_, rfl, hl, hm, hz', hcell, hwz⟩, ?_⟩
      simp only [Prod.mk.injEq] at hxx
      rw [hxx.1] at hsz
      have h := sized_slice hsz (j := 0) (t := 22) (e := 5) rfl rfl Try.underlying22
      rw [bytes5] at h
      simp only [lits, List.length_map, List.length_take, List.length_drop, reachBytes] at h
      omega
  clear hA0 hval0
  refine (walk a0 len0 cap0 z0 W w0 r0).mono fun e W' ⟨he, bel⟩ => ?_
  subst he
  exact ⟨_, rfl, _, _, _, [], _, [], hW', trodAll_mk1 (shut_bool Try.underlying4 _), (trodAll_cons_mk (Below.trod laidOut (by kernel_rfl) (of_decide_eq_true (by kernel_rfl)) k0 bel lt0) trodAll_mk0), rfl, bel.frame _, fun h => by cases h⟩

theorem over : Rows.fnMacsRow.holds Try.pinned (OpenSpec.ofChange Rows.fnMacsSpec) :=
  OpenClaim.holds_of_wide 5 Try.f5 rfl rfl rfl rfl rfl rfl rfl ⟨rfl, rfl, rfl, rfl, rfl⟩ rfl rfl rfl rfl rfl (by kernel_rfl) Try.func5 (by kernel_rfl)
    (of_decide_eq_true (by kernel_rfl)) (by unfold Func.isWrapper; first | (rw [if_pos (by decide +kernel)]; kernel_rfl) | (rw [if_neg (by decide +kernel)]; exact ⟨rfl, rfl⟩))
    (fun os started H enc _ => lifted os started H enc)

/-- ████ THE STATEMENT ████ -/
theorem proved : Rows.FnMacsSaid := over
#print axioms proved
end Go.Proofs.Ytfjolhpimcmmlaa.fnMacs
