/-
  A drawn order has each place once; draws behind those that were taken play no part, for every drawn input. No further condition.
-/
import Derived.Test.YtfjolhpimcmmlaaRows
import Derived.WalkKit
import Derived.ProofKit
import Derived.OpenShut
import Derived.ShutString
import Derived.ChangeOld
import Derived.SizedLaws
import Derived.Below
import Derived.Test.YtfjolhpimcmmlaaDrawOrd
import Derived.Test.YtfjolhpimcmmlaaImplOrd
import Derived.Test.YtfjolhpimcmmlaaLawTwo
import Derived.Test.YtfjolhpimcmmlaaSpecOrd
namespace Go.Proofs.Ytfjolhpimcmmlaa.fnShuffles
open Go.ChangeShapes Go.WideShapes Go.ChangeAt Go.RowKit
open Go.ChangeMaps (open_string shut_string)
set_option linter.unusedVariables false

theorem bytes5 : Try.prog.bytesOf 5 = 1 := by kernel_rfl
open Go.Proofs.Ytfjolhpimcmmlaa Fld
theorem own : ownKnob Try.prog.godebug = none := by kernel_rfl
theorem laidOut : laidOutB Try.prog = true := by kernel_rfl

/-- WHAT THE WALK IS TOLD OF A SLICE OF INTEGERS THAT CAME IN: it is nil; or it leads to a row of 'cap' cells, the numbers 'zs' (the first 'len' are its elements, the rest its spare room), each fitting its kind. -/
def IsRow (k : IntKind) (w : World) (a : Option Addr) (len cap : Nat) (zs : List Int) : Prop :=
  (a = none ∧ len = 0 ∧ cap = 0 ∧ zs = []) ∨
  ∃ x, a = some x ∧ len ≤ cap ∧ cap ≤ maxLen ∧ zs.length = cap ∧ (∀ i, i < zs.length → w.cell? (x.add i) = some (.int k (zs.getD i 0))) ∧ ∀ n ∈ zs, (Lit.int k n).wf = true

theorem rowInts {w : World} {a : Option Addr} {n c : Nat} {zs : List Int} (h : IsRow .u8 w a n c zs) : Ints .u8 w w.heap.size a n (zs.take n) ∧ n ≤ c := by
  rcases h with ⟨rfl, rfl, rfl, rfl⟩ | ⟨x, rfl, hl, _, hz, hc, hw⟩
  · exact ⟨Ints.nil, Nat.le_refl _⟩
  · exact ⟨Ints.ofRow (by omega) hc hw, hl⟩
theorem own_adr {k : IntKind} {e : TypeId} {w : World} {base n c : Nat} {A : Option Addr} {l : List Int} (h : Own k e w base (.slice A n c) l) : (A = none ∧ c = 0) ∨ ∃ b off, A = some ⟨b, off, none⟩ := by
  rcases h.1.2 with ⟨e1, _⟩ | ⟨g, cap, cur, e1, _⟩
  · injection e1 with e1 e2 e3; exact .inl ⟨e1, e3⟩
  · injection e1 with e1 e2 e3; exact .inr ⟨g, 0, e1⟩
theorem ints_take {k : IntKind} {w : World} {B n m : Nat} {A : Option Addr} {l : List Int} (h : Ints k w B A n l) (hm : m ≤ n) : Ints k w B A m (l.take m) := by
  refine ⟨by rw [List.length_take, h.1]; omega, fun h0 => ?_, fun x hx => h.2.2 x (List.mem_of_mem_take hx)⟩
  obtain ⟨b, off, e, hb, hc⟩ := h.2.1 (by omega)
  refine ⟨b, off, e, hb, fun i hi => ?_⟩
  rw [hc i (by omega), List.getD_eq_getElem?_getD, List.getD_eq_getElem?_getD, List.getElem?_take_of_lt hi]
/-- What a drawn order is, and that draws behind those that were taken play no part. -/
theorem shuf_facts {d L : List Int} {p U : Nat} (hby : Bytes d) (hf : fshuf d (p : Int) = some (L, U)) (hp : p ≤ 64) :
    L.length = p ∧ (∀ x ∈ L, 0 ≤ x ∧ x < (p : Int)) ∧ L.Nodup ∧ U ≤ d.length ∧ fshuf (d.take U ++ [77]) (p : Int) = some (L, U) := by
  have hrg : (0 : Int) ≤ p ∧ (p : Int) ≤ 64 := ⟨by omega, by omega⟩
  rw [fshuf_t hrg, Int.toNat_natCast] at hf
  obtain ⟨h1, h2, h3⟩ := shuf_all hby hf
  refine ⟨by rw [h1.length_eq, iota_len], fun x hx => mem_iota.1 (h1.subset hx), h1.nodup_iff.2 (iota_nodup p), h3, ?_⟩
  rw [fshuf_t hrg, Int.toNat_natCast]
  exact shuf_tail hby h3 (by rw [iota_len]; omega) (Nat.zero_le _) hf (Nat.le_refl _)
theorem fresh {L : List Int} {k : Nat} (hd : L.Nodup) (hk : k < L.length) : L.getD k 0 ∉ L.take k := by
  intro h
  obtain ⟨i, hi, e⟩ := List.mem_iff_getElem.1 h
  rw [List.getElem_take] at e
  rw [List.length_take] at hi
  have h1 : i < k := by omega
  have := List.pairwise_iff_getElem.1 hd i k (by omega) hk h1
  rw [List.getD_eq_getElem?_getD, List.getElem?_eq_getElem hk, Option.getD_some] at e
  exact this e
theorem inrange {L : List Int} {p k : Nat} (hr : ∀ x ∈ L, 0 ≤ x ∧ x < (p : Int)) (hk : k < L.length) : 0 ≤ L.getD k 0 ∧ L.getD k 0 < (p : Int) := by
  rw [List.getD_eq_getElem?_getD, List.getElem?_eq_getElem hk, Option.getD_some]
  exact hr _ (List.getElem_mem hk)

/-! ### STEP 1: THE WALK: the Go text returns true, AND WRITES NOTHING THAT WAS THERE: 'Below w.heap.size w w'' (Derived/Below.lean: '.refl', '.alloc', '.drew', '.setCell' at a new block, '.trans'). Open each 'IsRow' by 'rcases' AHEAD of 'go_enter'; part every test ahead of the walk. -/
set_option maxHeartbeats 2000000 in
theorem walk (a0 : Option Addr) (len0 cap0 : Nat) (z0 : List Int) (w : World) (w0 : IsRow .u8 w a0 len0 cap0 z0) (r0 : cap0 ≤ 140737488351232) :
    Calls Try.prog 7 #[.slice a0 len0 cap0] w fun e w' => e = .returned (.bool true) ∧ Below w.heap.size w w' := by
  obtain ⟨i0, hi0, hz0, hz1, hz2⟩ := info_parts info_tf
  obtain ⟨j0, hj0, hy0, hy1, hy2⟩ := info_parts info_by
  obtain ⟨hl, hn⟩ := rowInts w0
  go_enter Try.func7, Try.ntmps7
  go_wp2_with fail
  refine (d_Shuffle hl (by omega)).mono ?_
  rintro e w1 ⟨v, d, n, rfl, hn8, hO, hlen, hB1⟩
  obtain ⟨A1, c1, rfl, hmc, hI1, _⟩ := hO.ints
  have hcap := hO.cap
  have hby := hI1.bytes
  have HA := Lib.hid (own_adr hO)
  have hnr : n = -1 ∨ n = 65 ∨ (0 ≤ n ∧ n ≤ 64) := by
    simp only [List.mem_cons, List.not_mem_nil, or_false] at hn8
    omega
  cases hf : fshuf d n with
  | none =>
    have HL := Lib.hid (shufL_f hf)
    have HU := Lib.hid (shufU_f hf)
    clear hf hn8 hnr
    go_wp2_with fail
    refine (i_Shuffle n hI1 hmc (by omega) hcap HA.out).mono ?_
    rintro e w2 ⟨v2, rfl, hx, hb2⟩
    rw [HL.out] at hx
    rw [HU.out]
    obtain ⟨A2, c2, rfl, _⟩ := hx.shape
    have hB2 := hB1.trans (hb2.mono hB1.size)
    have hO2 := hO.below hb2
    clear hx
    go_wp2_with fail
    refine (s_Shuffle n hO2.intsAt.1 (by omega)).mono ?_
    rintro e w3 ⟨v3, rfl, _, hb3⟩
    rw [HU.out]
    have hB3 := hB2.trans (hb3.mono hB2.size)
    clear hO2 hO hI1
    go_wp2_with (go_at_call 18; refine (l_seals _).mono ?_; rintro e w4 ⟨rfl, hb4⟩)
    go_ret
    exact ⟨rfl, hB3.trans (hb4.mono hB3.size)⟩
  | some q =>
    obtain ⟨L, U⟩ := q
    have hrg : 0 ≤ n ∧ n ≤ 64 := by
      by_cases h : 0 ≤ n ∧ n ≤ 64
      · exact h
      · rw [fshuf_f h] at hf; cases hf
    obtain ⟨p, rfl⟩ := Int.eq_ofNat_of_zero_le hrg.1
    have hp : p ≤ 64 := by omega
    obtain ⟨hLp, hLr, hLd, hUd, htl⟩ := shuf_facts hby hf hp
    have HL := Lib.hid (shufL_t hf)
    have HU := Lib.hid (shufU_t hf)
    have HL' := Lib.hid (shufL_t htl)
    have HU' := Lib.hid (shufU_t htl)
    have HLR := Lib.hid hLr
    have HLD := Lib.hid hLd
    have HLP := Lib.hid hLp
    clear hf htl hn8 hnr hLr hLd hrg
    go_wp2_with fail
    refine (i_Shuffle (p : Int) hI1 hmc (by omega) hcap HA.out).mono ?_
    rintro e w2 ⟨v2, rfl, hx, hb2⟩
    rw [HL.out] at hx
    rw [HU.out]
    obtain ⟨A2, c2, rfl, _, hIL, _⟩ := hx.ints
    have hB2 := hB1.trans (hb2.mono hB1.size)
    have hO2 := hO.below hb2
    clear hO hI1
    rw [hLp] at hIL ⊢
    go_wp2_with fail
    refine (s_Shuffle (p : Int) hO2.intsAt.1 (by omega)).mono ?_
    rintro e w3 ⟨v3, rfl, _, hb3⟩
    rw [HU.out]
    have hB3 := hB2.trans (hb3.mono hB2.size)
    have hO3 := hO2.below hb3
    have hIL3 := (hIL.below hb3).up hb3.size
    clear hO2 hIL hx
    have u1 : decide ((U : Int) < 0) = false := by simp
    have u2 : decide ((d.length : Int) < (U : Int)) = false := by simp; omega
    have u3 : decide (d.length < U) = false := by simp; omega
    go_wp2_with (at_make; refine wpList_mk _ rfl (.tmp 49) (.tmp 49) _ rfl 4 i0 _ Try.underlying42 hi0 hz0 rfl hz1 p rfl rfl (by rw [hz2]; omega) (by simp only [maxLen]; omega) ?_; intro w4 hrow hb4 hsz)
    clear u1 u2 u3
    obtain ⟨G, hG⟩ : ∃ G, w3.heap.size = G := ⟨_, rfl⟩
    have HG := Lib.hid hG
    have hGB : w.heap.size ≤ G := by rw [← hG]; exact hB3.size
    have hB4 := hB3.trans (hb4.mono hB3.size)
    rw [hG] at hrow hIL3 hb4
    clear hsz
    try rw [hG]
    clear hG
    go_loopw [10] (fun i wr => ∃ k : Nat, k ≤ p ∧ i = .int .i64 k ∧ wr.rowIs G 4 p (fun j => .bool (decide ((j : Int) ∈ L.take k))) ∧ Below G w3 wr) (fun i _ => p - (intOf i).toNat)
    case atStart => exact ⟨0, by omega, rfl, hrow.congr fun j _ => by simp, hb4⟩
    case round =>
      obtain ⟨k, hk, rfl, hrow2, hB⟩ := hrel
      by_cases hlt : k < p
      · have hkl : k < L.length := by rw [HLP.out]; exact hlt
        obtain ⟨b, off, rfl, hb, hc, hwf⟩ := (hIL3.below hB).at_ hlt
        obtain ⟨hx0, hxn⟩ := inrange HLR.out hkl
        have hin := fresh HLD.out hkl
        obtain ⟨x, hx⟩ := Int.eq_ofNat_of_zero_le hx0
        rw [hx] at hc hxn hin
        have hxn' : x < p := by omega
        have hcell := hrow2.cell hxn'
        have hfz := hrow2.frozen x
        have q1 : (0 : Int) ≤ (x : Int) := Int.natCast_nonneg _
        have q2 : (x : Int) < (p : Int) := hxn
        have HX := Lib.hid hx
        have HK := Lib.hid hkl
        rw [decide_eq_false hin] at hcell
        clear hx hx0 hxn hin hkl hwf
        go_wp2
        go_roundw
        case rel => exact ⟨k + 1, by omega, by go_num, (hrow2.set x _).congr fun j _ => is_step HK.out HX.out, hB.setCell (Nat.le_refl _) _⟩
        case measure => simp [intOf]; omega
      · obtain rfl : k = p := by omega
        clear hlt hrow2
        have hOw := hO3.below (show Below w3.heap.size w3 wr by rw [HG.out]; exact hB)
        have hId := hOw.intsAt.1
        have hIT := ints_take hId hUd
        have hTL : (d.take U).length = U := by rw [List.length_take]; omega
        have u1 : decide ((U : Int) < 0) = false := by simp
        have u2 : (0 : Int) ≤ (U : Int) := Int.natCast_nonneg _
        have u3 : (U : Int) ≤ (c1 : Int) := by omega
        go_wp2_with (first
          | (at_builtin; refine wpList_app _ rfl (.tmp 86) (.tmp 89) _ rfl wr.heap.size 5 j0 _ 1 1 Try.underlying22 hj0 hy0 hy1 hy2 rfl (by omega) _ 0 [] rfl (empty_row _ _) A1 U c1 _ rfl (Src.of_ints (hIT.alloc (Nat.le_refl _) _)) (one_ints _ _) (by simp only [maxLen]; omega) (by omega) (by simp) ?_; intro v5 w5 hown5 hgr5 hat5)
          | (at_builtin; refine wpList_app _ rfl (.tmp 90) (.tmp 91) _ rfl wr.heap.size 5 j0 _ 1 1 Try.underlying22 hj0 hy0 hy1 hy2 rfl (by omega) _ _ _ rfl (hown5.kept (gb_alloc (World.grownBy.refl w5 none) _) (by cases v5.ownBlock <;> simp)) _ 1 1 [.int .u8 77] rfl (Src.one w5 _ _) (one_int _ _) (by simp only [maxLen]; omega) (by omega) (by have := hgr5.size; simp at this ⊢; omega) ?_; intro v6 w6 hown6 hgr6 hat6))
        have hx6 : Own .u8 5 w6 wr.heap.size v6 (d.take U ++ [77]) := Own.of (n := U + 1) (by simpa using hown6) (fun y hy => by
          rw [List.mem_append, List.mem_singleton] at hy
          rcases hy with h | rfl
          · exact wf8 (hby y (List.mem_of_mem_take h))
          · exact wf8 (by omega))
        have hg5 : (wr.alloc (.cells #[] 5)).grownBy w5 (some wr.heap.size) := hgr5
        have hb5 : Below wr.heap.size wr w5 := ((Below.refl _ wr).alloc (Nat.le_refl _) _).grown hg5 (by simp) (fun b hb => by injection hb with hb; omega)
        have hb6 : Below wr.heap.size wr w6 := (hb5.alloc hb5.size _).grown hgr6 (by have := hb5.size; simp; omega) (fun b hb => (hown5.lt b hb).1)
        have hBr : Below w3.heap.size w3 wr := by rw [HG.out]; exact hB
        have hBw := hB3.trans (hBr.mono hB3.size)
        have hB6 := hBw.trans (hb6.mono hBw.size)
        have hIL6 := ((hIL3.below hB).up (by rw [← HG.out]; exact hBr.size)).below hb6
        clear hown5 hown6 hgr5 hgr6 hg5 hat5 hat6 hOw hId hIT hO3 hrow hb4 hB4
        obtain ⟨A6, c6, rfl, hmc6, hI6, _⟩ := hx6.ints
        have hl6 : (d.take U ++ [77]).length = U + 1 := by rw [List.length_append, hTL]; rfl
        refine (i_Shuffle (k : Int) hI6 hmc6 (by rw [hl6]; omega) hx6.cap (own_adr hx6)).mono ?_
        rintro e w7 ⟨v7, rfl, hx7, hb7⟩
        rw [HL'.out] at hx7
        rw [HU'.out]
        have hB7 := hB6.trans (hb7.mono hB6.size)
        have hIL7 := ((hIL6.up hb6.size).below hb7).up hb7.size
        obtain ⟨A7, c7, rfl, _, hI7, _⟩ := hx7.ints
        rw [HLP.out] at hI7 ⊢
        clear hx6 hI6 hx7 hl6 hTL
        go_wp2_with fail
        refine (l_sameInts hIL7 hI7 (by unfold maxLen; omega) (by unfold maxLen; omega)).mono ?_
        rintro e w8 ⟨rfl, hb8⟩
        rw [show decide (L = L) = true from by simp]
        have hB8 := hB7.trans (hb8.mono hB7.size)
        go_wp2_with fail
        refine (l_seals _).mono ?_
        rintro e w9 ⟨rfl, hb9⟩
        go_wp2_with fail
        go_ret
        exact ⟨rfl, hB8.trans (hb9.mono hB8.size)⟩

/-! ### THE ROW's STEP: WRITTEN OUT: LEAVE IT -/
set_option maxRecDepth 100000 in
theorem lifted (os : Os) (started : os.Started) (H : Type) (enc : TypeId × Value → H) :
    ReturnsInHanded {} Try.checked os 7 .any (Rows.fnShufflesSpec.pre6 enc Try.prog Try.f7 Rows.fnShufflesRow.domain false) (Rows.fnShufflesSpec.post enc Try.prog Try.f7 false true false false) := by
  refine returnsInHanded_of_change_sized (C := Try.checked) own started (by kernel_rfl) Try.func7
    (ChangeSpec.witness6 (enc := enc) (C := Try.checked) false ⟨#[], #[.slice none 0 0], []⟩ 8 (by kernel_rfl) (by kernel_rfl) (by kernel_rfl) (by kernel_rfl)) ?_
  intro W base args ds gs before hval0 hW hcnd hsz0 _
  have hval : ∀ (j : Nat) t v, Try.f7.params[j]? = some t → args[j]? = some v → Value.okWide Try.prog W .any base t v := hval0
  have hW' := hW
  obtain ⟨p, q, hA0, hV, rfl, hfz, hnd⟩ := hW
  have hA : DataW.TrodAll enc Try.prog W 0 (fun _ => true) true Try.f7.params.toList args.toList ds p := hA0
  have hsz : (DataW.weightsEach Try.prog (Try.f7.params.toList ++ Rows.fnShufflesSpec.plain.varTypes Try.prog) (ds ++ gs)).all (· ≤ reachBytes) = true := hsz0
  rw [Try.params7] at hA hval hsz
  obtain ⟨v0, vs0, d0, ds0, p0, q0, hargs, rfl, rfl, h0, r0⟩ := trodAll_cons hA
  obtain ⟨rfl, rfl, rfl⟩ := trodAll_nil r0
  obtain rfl : args = #[v0] := by cases args; simp_all
  obtain ⟨rfl, rfl⟩ := trodVars_none hV
  obtain ⟨a0, len0, cap0, rfl⟩ := okWide_slice Try.underlying22 (hval 0 22 v0 rfl rfl)
  have k0 := h0
  have lt0 : ∀ x ∈ p0, x.block < W.heap.size := by obtain ⟨m, hm⟩ := k0; exact DataW.trod_lt m _ _ _ hm
  obtain ⟨z0, w0, r0⟩ : ∃ zs, IsRow .u8 W a0 len0 cap0 zs ∧ cap0 ≤ 140737488351232 := by
    obtain ⟨fuel, hf⟩ := h0
    rcases open_ints Try.underlying22 Try.underlying5 (by kernel_rfl) hf with ⟨hcs, _⟩ | ⟨x, l, c, zs, hcs, _, hl, hm, hz, hxx, hcell, hwz⟩
    · simp [Value.cells] at hcs
      obtain ⟨rfl, rfl, rfl⟩ := hcs
      exact ⟨[], .inl ⟨rfl, rfl, rfl, rfl⟩, by omega⟩
    · simp [Value.cells] at hcs
      obtain ⟨rfl, rfl, rfl⟩ := hcs
      have hz' : zs.length = cap0 := by simpa using hz
      refine ⟨zs, .inr ⟨_, rfl, hl, hm, hz', hcell, hwz⟩, ?_⟩
      simp only [Prod.mk.injEq] at hxx
      rw [hxx.1] at hsz
      have h := sized_slice hsz (j := 0) (t := 22) (e := 5) rfl rfl Try.underlying22
      rw [bytes5] at h
      simp only [lits, List.length_map, List.length_take, List.length_drop, reachBytes] at h
      omega
  clear hA0 hval0
  refine (walk a0 len0 cap0 z0 W w0 r0).mono fun e W' ⟨he, bel⟩ => ?_
  subst he
  exact ⟨_, rfl, _, _, _, [], _, [], hW', trodAll_mk1 (shut_bool Try.underlying4 _), (trodAll_cons_mk (Below.trod laidOut (by kernel_rfl) (of_decide_eq_true (by kernel_rfl)) k0 bel lt0) trodAll_mk0), rfl, bel.frame _, fun h => by cases h⟩

theorem over : Rows.fnShufflesRow.holds Try.pinned (OpenSpec.ofChange Rows.fnShufflesSpec) :=
  OpenClaim.holds_of_wide 7 Try.f7 rfl rfl rfl rfl rfl rfl rfl ⟨rfl, rfl, rfl, rfl, rfl⟩ rfl rfl rfl rfl rfl (by kernel_rfl) Try.func7 (by kernel_rfl)
    (of_decide_eq_true (by kernel_rfl)) (by unfold Func.isWrapper; first | (rw [if_pos (by decide +kernel)]; kernel_rfl) | (rw [if_neg (by decide +kernel)]; exact ⟨rfl, rfl⟩))
    (fun os started H enc _ => lifted os started H enc)

/-- ████ THE STATEMENT ████ -/
theorem proved : Rows.FnShufflesSaid := over
#print axioms proved
end Go.Proofs.Ytfjolhpimcmmlaa.fnShuffles
