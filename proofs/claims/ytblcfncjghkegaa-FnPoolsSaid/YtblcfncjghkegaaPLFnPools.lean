/-
  For every draw: a pool is recovered from its bytes, and bytes that are accepted are the encoding of their pool. No further condition.
-/
import Derived.Test.YtblcfncjghkegaaPGq
import Derived.Test.YtblcfncjghkegaaPGw
import Derived.Test.YtblcfncjghkegaaPGy
import Derived.Test.YtblcfncjghkegaaPGz
import Derived.Test.YtblcfncjghkegaaRows
import Derived.Below
import Derived.ChangeOld
import Derived.OpenShut
import Derived.ProofKit
import Derived.ShutString
import Derived.SizedLaws
import Derived.WalkKit
namespace Go.Proofs.Ytblcfncjghkegaa.fnPools
open Go.ChangeShapes Go.WideShapes Go.ChangeAt Go.RowKit
open Go.ChangeMaps (open_string shut_string)
set_option linter.unusedVariables false

theorem bytes5 : Try.prog.bytesOf 5 = 1 := by kernel_rfl
open Go.Proofs.Ytblcfncjghkegaa Fld
theorem own : ownKnob Try.prog.godebug = none := by kernel_rfl
theorem laidOut : laidOutB Try.prog = true := by kernel_rfl

/-- WHAT THE WALK IS TOLD OF A SLICE OF INTEGERS THAT CAME IN: it is nil; or it leads to a row of 'cap' cells, the numbers 'zs' (the first 'len' are its elements, the rest its spare room), each fitting its kind. -/
def IsRow (k : IntKind) (w : World) (a : Option Addr) (len cap : Nat) (zs : List Int) : Prop :=
  (a = none ∧ len = 0 ∧ cap = 0 ∧ zs = []) ∨
  ∃ x, a = some x ∧ len ≤ cap ∧ cap ≤ maxLen ∧ zs.length = cap ∧ (∀ i, i < zs.length → w.cell? (x.add i) = some (.int k (zs.getD i 0))) ∧ ∀ n ∈ zs, (Lit.int k n).wf = true

theorem rowInts {w : World} {a : Option Addr} {n c : Nat} {zs : List Int} (h : IsRow .u8 w a n c zs) : Ints .u8 w w.heap.size a n (zs.take n) ∧ n ≤ c := by
  rcases h with ⟨rfl, rfl, rfl, rfl⟩ | ⟨x, rfl, hl, _, hz, hc, hw⟩
  · exact ⟨Ints.nil, Nat.le_refl _⟩
  · exact ⟨Ints.ofRow (by omega) hc hw, hl⟩
theorem poolShape {w : World} {B : Nat} {v0 v1 : Value} {p : DPool} (h : tPool.R w B [v0, v1] p) : ∃ A0 c0 A1 c1, v0 = .slice A0 p.1.length c0 ∧ v1 = .slice A1 p.2.length c1 := by
  obtain ⟨A0, n0, c0, A1, n1, c1, e, -, -, h0, -, -, -, h1, -⟩ := openPool h
  simp only [List.cons.injEq, and_true] at e
  exact ⟨A0, c0, A1, c1, by rw [e.1, h0], by rw [e.2, h1]⟩
theorem cellsShape {w : World} {B : Nat} {cs : List Value} {p : DPool} (h : tPool.R w B cs p) : ∃ A0 c0 A1 c1, cs = [.slice A0 p.1.length c0, .slice A1 p.2.length c1] := by
  obtain ⟨A0, n0, c0, A1, n1, c1, rfl, -, -, h0, -, -, -, h1, -⟩ := openPool h
  exact ⟨A0, c0, A1, c1, by rw [h0, h1]⟩

/-! ### STEP 1: THE WALK: the Go text returns true, AND WRITES NOTHING THAT WAS THERE: 'Below w.heap.size w w'' (Derived/Below.lean: '.refl', '.alloc', '.drew', '.setCell' at a new block, '.trans'). Open each 'IsRow' by 'rcases' AHEAD of 'go_enter'; part every test ahead of the walk. -/
set_option maxRecDepth 100000 in
set_option maxHeartbeats 2000000 in
theorem walk (a0 : Option Addr) (len0 cap0 : Nat) (z0 : List Int) (w : World) (w0 : IsRow .u8 w a0 len0 cap0 z0) (r0 : cap0 ≤ 140737488351232) :
    Calls Try.prog 7 #[.slice a0 len0 cap0] w fun e w' => e = .returned (.bool true) ∧ Below w.heap.size w w' := by
  obtain ⟨hl, hn⟩ := rowInts w0
  go_enter Try.func7, Try.ntmps7
  go_wp2_with fail
  refine (d_PoolBytes hl (by omega)).mono ?_
  rintro e w1 ⟨v0, v1, p, rfl, hP, hS, hB1⟩
  obtain ⟨A0, c0, A1, c1, rfl, rfl⟩ := poolShape hP
  obtain ⟨n0, hn0⟩ : ∃ m, p.1.length = m := ⟨_, rfl⟩
  obtain ⟨n1, hn1⟩ : ∃ m, p.2.length = m := ⟨_, rfl⟩
  have N0 := Lib.hid hn0
  have N1 := Lib.hid hn1
  rw [hn0, hn1] at hP ⊢
  clear hn0 hn1
  have hz := hS.sz
  have hx1 : Below w1.heap.size w1 (w1.alloc (.cells #[.slice A0 n0 c0, .slice A1 n1 c1] 26)) := bel_alloc (Below.refl _ _) _
  have Bp : Box (w1.alloc (.cells #[.slice A0 n0 c0, .slice A1 n1 c1] 26)) w1.heap.size 26 #[.slice A0 n0 c0, .slice A1 n1 c1] := Box.new _ _ _
  have hP := tPool.reach hP hx1
  have hB2 := bel_trans hB1 hx1
  by_cases hp : PlOk p
  · have HP := Lib.hid (decide_eq_true hp)
    have HR := Lib.hid (rd_plB hp)
    have HF := Lib.hid (fPlB_t hp)
    have HK := Lib.hid hp
    have HLE := Lib.hid (plB_le hp)
    go_wp2_with fail
    refine (i_PoolBytes hP hz).mono ?_
    rintro e w3 ⟨A3, c3, F3, rfl, hO3, -, hb3⟩
    rw [HF.out] at hO3 ⊢
    rw [HP.out]
    have hR3 := tBy.read hO3
    obtain ⟨B, hBq⟩ : ∃ B, plB p = B := ⟨_, rfl⟩
    have HBQ := Lib.hid hBq
    rw [hBq] at hR3 ⊢
    obtain ⟨nb, hnb⟩ : ∃ m, B.length = m := ⟨_, rfl⟩
    have HNB := Lib.hid hnb
    rw [hnb] at hR3 ⊢
    clear hnb hBq hO3 hp
    have hP := tPool.reach hP hb3
    have Bp := Bp.below hb3 Bp.size
    have hB3 := bel_trans hB2 hb3
    have k0 := Bp.cell 0
    have k1 := Bp.cell 1
    go_wp2_with fail
    refine (s_PoolOk hP hz).mono ?_
    rintro e w4 ⟨rfl, hb4⟩
    rw [HP.out]
    have hP := tPool.reach hP hb4
    have hR3 := tBy.reach hR3 hb4
    have Bp := Bp.below hb4 Bp.size
    have hB4 := bel_trans hB3 hb4
    have k0 := Bp.cell 0
    have k1 := Bp.cell 1
    go_wp2_with fail
    refine (i_PoolOk hP hz).mono ?_
    rintro e wb ⟨rfl, hbb⟩
    rw [HP.out]
    have hP := tPool.reach hP hbb
    have hR3 := tBy.reach hR3 hbb
    have Bp := Bp.below hbb Bp.size
    have hBb := bel_trans hB4 hbb
    go_wp2_with fail
    refine (i_PoolRead hR3 (by have := HLE.out; rw [HBQ.out] at this; omega)).mono ?_
    rintro e wc ⟨csc, Fc, rfl, hOc, -, hbc⟩
    have hrd := HR.out
    rw [HBQ.out] at hrd
    rw [fRd_t hrd.1, hrd.2] at hOc
    rw [decide_eq_true hrd.1]
    have hRc := tPool.read hOc
    obtain ⟨E0, h0, E1, h1, rfl⟩ := cellsShape hRc
    rw [N0.out, N1.out] at hRc ⊢
    clear hOc hrd
    have hP := tPool.reach hP hbc
    have Bp := Bp.below hbc Bp.size
    have hBc := bel_trans hBb hbc
    have hxc : Below wc.heap.size wc (wc.alloc (.cells #[.slice E0 n0 h0, .slice E1 n1 h1] 26)) := bel_alloc (Below.refl _ _) _
    have k0 := Bp.cell 0
    have k1 := Bp.cell 1
    have zp := Bp.size
    go_wp2_with fail
    refine (l_samePool (tPool.reach hRc hxc) (tPool.reach hP hxc) HK.out).mono ?_
    rintro e wd ⟨rfl, hbd⟩
    have hBw := bel_trans hBc (bel_trans hxc hbd)
    have hlw := reach hl hBw
    clear hP hRc hR3 Bp k0 k1 hxc hbd hbc hbb hb4 hb3 hx1
    go_wp2_with fail
    refine (d_PoolRead hlw (by omega)).mono ?_
    rintro e w5 ⟨Ay, ny, cy, b, rfl, hb, hbl, hb5⟩
    have hBy := bel_trans hBw hb5
    have hbb := (slR_ints hb).1.bytes
    go_wp2_with fail
    refine (i_PoolRead hb (by omega)).mono ?_
    rintro e w6 ⟨cs6, F6, rfl, hO6, -, hb6⟩
    have hb := tBy.reach hb hb6
    have hB6 := bel_trans hBy hb6
    have hR6 := tPool.read hO6
    have hz6 : szPool (fRd b) ≤ 1048576 := by have := fRd_sz b; omega
    obtain ⟨D0, g0, D1, g1, rfl⟩ := cellsShape hR6
    obtain ⟨y, hy⟩ : ∃ y, fRd b = y := ⟨_, rfl⟩
    have HY := Lib.hid hy
    rw [hy] at hR6 hz6 ⊢
    obtain ⟨k0, hk0⟩ : ∃ m, y.1.length = m := ⟨_, rfl⟩
    obtain ⟨k1, hk1⟩ : ∃ m, y.2.length = m := ⟨_, rfl⟩
    rw [hk0, hk1] at hR6 ⊢
    clear hk0 hk1 hy hO6
    have hx6 : Below w6.heap.size w6 (w6.alloc (.cells #[.slice D0 k0 g0, .slice D1 k1 g1] 26)) := bel_alloc (Below.refl _ _) _
    have By : Box (w6.alloc (.cells #[.slice D0 k0 g0, .slice D1 k1 g1] 26)) w6.heap.size 26 #[.slice D0 k0 g0, .slice D1 k1 g1] := Box.new _ _ _
    have hb := tBy.reach hb hx6
    have hR6 := tPool.reach hR6 hx6
    have hB7 := bel_trans hB6 hx6
    by_cases hr : RdOk b
    · have HR := Lib.hid (decide_eq_true hr)
      have hyp : y = rdP b := by rw [← HY.out, fRd_t hr]
      have hpy : PlOk y := by rw [hyp]; exact hr.2
      have HPY := Lib.hid (decide_eq_true hpy)
      have HB := Lib.hid (show fPlB y = b by rw [fPlB_t hpy, hyp]; exact plB_rd hbb hr)
      rw [HR.out]
      clear hr hyp hpy hbb
      go_wp2_with fail
      refine (i_PoolBytes hR6 hz6).mono ?_
      rintro e w8 ⟨A8, c8, F8, rfl, hO8, -, hb8⟩
      rw [HB.out] at hO8 ⊢
      rw [HPY.out]
      have hR8 := tBy.read hO8
      have hb := tBy.reach hb hb8
      have hB8 := bel_trans hB7 hb8
      obtain ⟨nb, hnb⟩ : ∃ m, b.length = m := ⟨_, rfl⟩
      rw [hnb] at hR8 ⊢
      clear hnb hO8
      go_wp2_with fail
      refine (l_pools _).mono ?_
      rintro e w9 ⟨rfl, hb9⟩
      have hR8 := tBy.reach hR8 hb9
      have hb := tBy.reach hb hb9
      go_wp2_with fail
      refine (l_same (slR_ints hR8).1 (slR_ints hb).1).mono ?_
      rintro e w' ⟨rfl, rfl⟩
      rw [show decide (b = b) = true from by simp]
      go_wp2_with fail
      go_ret
      exact ⟨rfl, bel_trans hB8 hb9⟩
    · have HR := Lib.hid (decide_eq_false hr)
      rw [HR.out]
      clear hr
      go_wp2_with fail
      refine (i_PoolBytes hR6 hz6).mono ?_
      rintro e w8 ⟨A8, c8, F8, rfl, hO8, -, hb8⟩
      have hB8 := bel_trans hB7 hb8
      obtain ⟨nb, hnb⟩ : ∃ m, (fPlB y).length = m := ⟨_, rfl⟩
      rw [hnb]
      obtain ⟨bo, hbo⟩ : ∃ bo, decide (PlOk y) = bo := ⟨_, rfl⟩
      rw [hbo]
      clear hnb hO8 hbo
      go_wp2_with fail
      refine (l_pools _).mono ?_
      rintro e w9 ⟨rfl, hb9⟩
      go_wp2_with fail
      go_ret
      exact ⟨rfl, bel_trans hB8 hb9⟩
  · have HP := Lib.hid (decide_eq_false hp)
    have HF := Lib.hid (fPlB_f hp)
    go_wp2_with fail
    refine (i_PoolBytes hP hz).mono ?_
    rintro e w3 ⟨A3, c3, F3, rfl, hO3, -, hb3⟩
    rw [HF.out, HP.out]
    rw [show ([] : List Int).length = 0 from rfl]
    have hP := tPool.reach hP hb3
    have Bp := Bp.below hb3 Bp.size
    have hB3 := bel_trans hB2 hb3
    have k0 := Bp.cell 0
    have k1 := Bp.cell 1
    clear hO3 hp
    go_wp2_with fail
    refine (s_PoolOk hP hz).mono ?_
    rintro e w4 ⟨rfl, hb4⟩
    rw [HP.out]
    have hP := tPool.reach hP hb4
    have Bp := Bp.below hb4 Bp.size
    have hB4 := bel_trans hB3 hb4
    have k0 := Bp.cell 0
    have k1 := Bp.cell 1
    go_wp2_with fail
    refine (i_PoolOk hP hz).mono ?_
    rintro e wb ⟨rfl, hbb⟩
    rw [HP.out]
    have hBw := bel_trans hB4 hbb
    have hlw := reach hl hBw
    clear hP Bp k0 k1 hbb hb4 hb3 hx1
    go_wp2_with fail
    refine (d_PoolRead hlw (by omega)).mono ?_
    rintro e w5 ⟨Ay, ny, cy, b, rfl, hb, hbl, hb5⟩
    have hBy := bel_trans hBw hb5
    have hbb := (slR_ints hb).1.bytes
    go_wp2_with fail
    refine (i_PoolRead hb (by omega)).mono ?_
    rintro e w6 ⟨cs6, F6, rfl, hO6, -, hb6⟩
    have hb := tBy.reach hb hb6
    have hB6 := bel_trans hBy hb6
    have hR6 := tPool.read hO6
    have hz6 : szPool (fRd b) ≤ 1048576 := by have := fRd_sz b; omega
    obtain ⟨D0, g0, D1, g1, rfl⟩ := cellsShape hR6
    obtain ⟨y, hy⟩ : ∃ y, fRd b = y := ⟨_, rfl⟩
    have HY := Lib.hid hy
    rw [hy] at hR6 hz6 ⊢
    obtain ⟨k0, hk0⟩ : ∃ m, y.1.length = m := ⟨_, rfl⟩
    obtain ⟨k1, hk1⟩ : ∃ m, y.2.length = m := ⟨_, rfl⟩
    rw [hk0, hk1] at hR6 ⊢
    clear hk0 hk1 hy hO6
    have hx6 : Below w6.heap.size w6 (w6.alloc (.cells #[.slice D0 k0 g0, .slice D1 k1 g1] 26)) := bel_alloc (Below.refl _ _) _
    have By : Box (w6.alloc (.cells #[.slice D0 k0 g0, .slice D1 k1 g1] 26)) w6.heap.size 26 #[.slice D0 k0 g0, .slice D1 k1 g1] := Box.new _ _ _
    have hb := tBy.reach hb hx6
    have hR6 := tPool.reach hR6 hx6
    have hB7 := bel_trans hB6 hx6
    by_cases hr : RdOk b
    · have HR := Lib.hid (decide_eq_true hr)
      have hyp : y = rdP b := by rw [← HY.out, fRd_t hr]
      have hpy : PlOk y := by rw [hyp]; exact hr.2
      have HPY := Lib.hid (decide_eq_true hpy)
      have HB := Lib.hid (show fPlB y = b by rw [fPlB_t hpy, hyp]; exact plB_rd hbb hr)
      rw [HR.out]
      clear hr hyp hpy hbb
      go_wp2_with fail
      refine (i_PoolBytes hR6 hz6).mono ?_
      rintro e w8 ⟨A8, c8, F8, rfl, hO8, -, hb8⟩
      rw [HB.out] at hO8 ⊢
      rw [HPY.out]
      have hR8 := tBy.read hO8
      have hb := tBy.reach hb hb8
      have hB8 := bel_trans hB7 hb8
      obtain ⟨nb, hnb⟩ : ∃ m, b.length = m := ⟨_, rfl⟩
      rw [hnb] at hR8 ⊢
      clear hnb hO8
      go_wp2_with fail
      refine (l_pools _).mono ?_
      rintro e w9 ⟨rfl, hb9⟩
      have hR8 := tBy.reach hR8 hb9
      have hb := tBy.reach hb hb9
      go_wp2_with fail
      refine (l_same (slR_ints hR8).1 (slR_ints hb).1).mono ?_
      rintro e w' ⟨rfl, rfl⟩
      rw [show decide (b = b) = true from by simp]
      go_wp2_with fail
      go_ret
      exact ⟨rfl, bel_trans hB8 hb9⟩
    · have HR := Lib.hid (decide_eq_false hr)
      rw [HR.out]
      clear hr
      go_wp2_with fail
      refine (i_PoolBytes hR6 hz6).mono ?_
      rintro e w8 ⟨A8, c8, F8, rfl, hO8, -, hb8⟩
      have hB8 := bel_trans hB7 hb8
      obtain ⟨nb, hnb⟩ : ∃ m, (fPlB y).length = m := ⟨_, rfl⟩
      rw [hnb]
      obtain ⟨bo, hbo⟩ : ∃ bo, decide (PlOk y) = bo := ⟨_, rfl⟩
      rw [hbo]
      clear hnb hO8 hbo
      go_wp2_with fail
      refine (l_pools _).mono ?_
      rintro e w9 ⟨rfl, hb9⟩
      go_wp2_with fail
      go_ret
      exact ⟨rfl, bel_trans hB8 hb9⟩

/-! ### THE ROW's STEP: WRITTEN OUT: LEAVE IT -/
set_option maxRecDepth 100000 in
theorem lifted (os : Os) (started : os.Started) (H : Type) (enc : TypeId × Value → H) :
    ReturnsInHanded {} Try.checked os 7 .any (Rows.fnPoolsSpec.pre6 enc Try.prog Try.f7 Rows.fnPoolsRow.domain false) (Rows.fnPoolsSpec.post enc Try.prog Try.f7 false true false false) := by
  refine returnsInHanded_of_change_sized (C := Try.checked) own started (by kernel_rfl) Try.func7
    (ChangeSpec.witness6 (enc := enc) (C := Try.checked) false ⟨#[], #[.slice none 0 0], []⟩ 8 (by kernel_rfl) (by kernel_rfl) (by kernel_rfl) (by kernel_rfl)) ?_
  intro W base args ds gs before hval0 hW hcnd hsz0 _
  have hval : ∀ (j : Nat) t v, Try.f7.params[j]? = some t → args[j]? = some v → Value.okWide Try.prog W .any base t v := hval0
  have hW' := hW
  obtain ⟨p, q, hA0, hV, rfl, hfz, hnd⟩ := hW
  have hA : DataW.TrodAll enc Try.prog W 0 (fun _ => true) true Try.f7.params.toList args.toList ds p := hA0
  have hsz : (DataW.weightsEach Try.prog (Try.f7.params.toList ++ Rows.fnPoolsSpec.plain.varTypes Try.prog) (ds ++ gs)).all (· ≤ reachBytes) = true := hsz0
  rw [Try.params7] at hA hval hsz
  obtain ⟨v0, vs0, d0, ds0, p0, q0, hargs, rfl, rfl, h0, r0⟩ := trodAll_cons hA
  obtain ⟨rfl, rfl, rfl⟩ := trodAll_nil r0
  obtain rfl : args = #[v0] := by cases args; simp_all
  obtain ⟨rfl, rfl⟩ := trodVars_none hV
  obtain ⟨a0, len0, cap0, rfl⟩ := okWide_slice Try.underlying22 (hval 0 22 v0 rfl rfl)
  have k0 := h0
  have lt0 : ∀ x ∈ p0, x.block < W.heap.size := by obtain ⟨m, hm⟩ := k0; exact DataW.trod_lt m _ _ _ hm
  obtain ⟨z0, w0, r0⟩ : ∃ zs, IsRow .u8 W a0 len0 cap0 zs ∧ cap0 ≤ 140737488351232 := by
    obtain ⟨fuel, hf⟩ := h0
    rcases open_ints Try.underlying22 Try.underlying5 (by kernel_rfl) hf with ⟨hcs, _⟩ | ⟨x, l, c, zs, hcs, _, hl, hm, hz, hxx, hcell, hwz⟩
    · simp [Value.cells] at hcs
      obtain ⟨rfl, rfl, rfl⟩ := hcs
      exact ⟨[], .inl ⟨rfl, rfl, rfl, rfl⟩, by omega⟩
    · simp [Value.cells] at hcs
      obtain ⟨rfl, rfl, rfl⟩ := hcs
      have hz' : zs.length = cap0 := by simpa using hz
      refine ⟨zs, .inr ⟨_, rfl, hl, hm, hz', hcell, hwz⟩, ?_⟩
      simp only [Prod.mk.injEq] at hxx
      rw [hxx.1] at hsz
      have h := sized_slice hsz (j := 0) (t := 22) (e := 5) rfl rfl Try.underlying22
      rw [bytes5] at h
      simp only [lits, List.length_map, List.length_take, List.length_drop, reachBytes] at h
      omega
  clear hA0 hval0
  refine (walk a0 len0 cap0 z0 W w0 r0).mono fun e W' ⟨he, bel⟩ => ?_
  subst he
  exact ⟨_, rfl, _, _, _, [], _, [], hW', trodAll_mk1 (shut_bool Try.underlying4 _), (trodAll_cons_mk (Below.trod laidOut (by kernel_rfl) (of_decide_eq_true (by kernel_rfl)) k0 bel lt0) trodAll_mk0), rfl, bel.frame _, fun h => by cases h⟩

theorem over : Rows.fnPoolsRow.holds Try.pinned (OpenSpec.ofChange Rows.fnPoolsSpec) :=
  OpenClaim.holds_of_wide 7 Try.f7 rfl rfl rfl rfl rfl rfl rfl ⟨rfl, rfl, rfl, rfl, rfl⟩ rfl rfl rfl rfl rfl (by kernel_rfl) Try.func7 (by kernel_rfl)
    (of_decide_eq_true (by kernel_rfl)) (by unfold Func.isWrapper; first | (rw [if_pos (by decide +kernel)]; kernel_rfl) | (rw [if_neg (by decide +kernel)]; exact ⟨rfl, rfl⟩))
    (fun os started H enc _ => lifted os started H enc)

/-- ████ THE STATEMENT ████ -/
theorem proved : Rows.FnPoolsSaid := over
#print axioms proved
end Go.Proofs.Ytblcfncjghkegaa.fnPools
