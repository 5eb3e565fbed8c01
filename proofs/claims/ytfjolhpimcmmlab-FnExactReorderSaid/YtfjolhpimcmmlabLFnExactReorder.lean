/-
  For every argument (slices of at most 2^20 elements) the program's Reorder answers as its model does, writes into no argument, and its answer owns its memory. No further condition.
-/
import Derived.Test.YtfjolhpimcmmlabRows
import Derived.WalkKit
import Derived.ProofKit
import Derived.OpenShut
import Derived.ShutString
import Derived.ChangeOld
import Derived.Below
import Derived.Test.YtfjolhpimcmmlabImplOrd
import Derived.Test.YtfjolhpimcmmlabCopy
namespace Go.Proofs.Ytfjolhpimcmmlab.fnExactReorder
open Go.ChangeShapes Go.WideShapes Go.ChangeAt Go.RowKit
open Go.ChangeMaps (open_string shut_string)
set_option linter.unusedVariables false

open Go.Proofs.Ytfjolhpimcmmlab Fld
theorem own : ownKnob Try.prog.godebug = none := by kernel_rfl
theorem laidOut : laidOutB Try.prog = true := by kernel_rfl

/-- WHAT THE WALK IS TOLD OF A SLICE OF INTEGERS THAT CAME IN: it is nil; or it leads to a row of 'cap' cells, the numbers 'zs' (the first 'len' are its elements, the rest its spare room), each fitting its kind. -/
def IsRow (k : IntKind) (w : World) (a : Option Addr) (len cap : Nat) (zs : List Int) : Prop :=
  (a = none ∧ len = 0 ∧ cap = 0 ∧ zs = []) ∨
  ∃ x, a = some x ∧ len ≤ cap ∧ cap ≤ maxLen ∧ zs.length = cap ∧ (∀ i, i < zs.length → w.cell? (x.add i) = some (.int k (zs.getD i 0))) ∧ ∀ n ∈ zs, (Lit.int k n).wf = true

theorem rowInts {k : IntKind} {w : World} {a : Option Addr} {n c : Nat} {zs : List Int} (h : IsRow k w a n c zs) : Ints k w w.heap.size a n (zs.take n) ∧ n ≤ c := by
  rcases h with ⟨rfl, rfl, rfl, rfl⟩ | ⟨x, rfl, hl, _, hz, hc, hw⟩
  · exact ⟨Ints.nil, Nat.le_refl _⟩
  · exact ⟨Ints.ofRow (by omega) hc hw, hl⟩

/-! ### STEP 1: THE WALK: the Go text returns true, AND WRITES NOTHING THAT WAS THERE: 'Below w.heap.size w w'' (Derived/Below.lean: '.refl', '.alloc', '.drew', '.setCell' at a new block, '.trans'). Open each 'IsRow' by 'rcases' AHEAD of 'go_enter'; part every test ahead of the walk. -/
set_option maxHeartbeats 2000000 in
theorem walk (a0 : Option Addr) (len0 cap0 : Nat) (z0 : List Int) (a1 : Option Addr) (len1 cap1 : Nat) (z1 : List Int) (w : World) (w0 : IsRow .u8 w a0 len0 cap0 z0) (w1 : IsRow .i64 w a1 len1 cap1 z1) :
    Calls Try.prog 6 #[.slice a0 len0 cap0, .slice a1 len1 cap1] w fun e w' => e = .returned (.bool true) ∧ Below w.heap.size w w' := by
  obtain ⟨hl0, hnc0⟩ := rowInts w0
  obtain ⟨l0, hlz0⟩ : ∃ l, z0.take len0 = l := ⟨_, rfl⟩
  rw [hlz0] at hl0
  clear hlz0 w0 z0
  obtain ⟨hl1, hnc1⟩ := rowInts w1
  obtain ⟨l1, hlz1⟩ : ∃ l, z1.take len1 = l := ⟨_, rfl⟩
  rw [hlz1] at hl1
  clear hlz1 w1 z1
  by_cases hbig0 : 1048576 < len0
  · go_enter Try.func6, Try.ntmps6
    go_wp2
    go_ret
    exact ⟨rfl, Below.refl _ _⟩
  have hn0 : len0 ≤ 1048576 := by omega
  have hll0 : l0.length ≤ 1048576 := by rw [hl0.1]; exact hn0
  by_cases hbig1 : 1048576 < len1
  · go_enter Try.func6, Try.ntmps6
    go_wp2
    go_ret
    exact ⟨rfl, Below.refl _ _⟩
  have hn1 : len1 ≤ 1048576 := by omega
  have hll1 : l1.length ≤ 1048576 := by rw [hl1.1]; exact hn1
  obtain ⟨r0, hr0⟩ : ∃ r, (freor l0 l1).1 = r := ⟨_, rfl⟩
  have HR0 := Lib.hid hr0
  have hrl0 : r0.length ≤ 64 := by rw [← hr0]; exact freor_le _ _
  clear hr0
  have t0 : decide (r0 = r0) = true := by simp
  obtain ⟨r1, hr1⟩ : ∃ r, (freor l0 l1).2 = r := ⟨_, rfl⟩
  have HR1 := Lib.hid hr1
  clear hr1
  go_enter Try.func6, Try.ntmps6
  go_wp2_with fail
  refine (l_toByteS hl0 (by omega)).mono ?_
  rintro e W1 ⟨rfl, y0_1, hb1⟩
  have hB1 := hb1
  go_wp2_with fail
  refine (l_toIntS ((hl1.below hB1).up hB1.size) (by omega)).mono ?_
  rintro e W2 ⟨rfl, y1_2, hb2⟩
  have ap_y1_y0 := y1_2.apart y0_1 (Nat.le_refl _)
  have hB2 := hB1.trans (hb2.mono hB1.size)
  have y0_2 := y0_1.below hb2
  clear y0_1
  go_wp2_with fail
  refine (s_Reorder y0_2.intsAt.1 y1_2.intsAt.1 (by omega) (by omega)).mono ?_
  rintro e W3 ⟨sv0, rfl, s0_3, hb3⟩
  rw [HR0.out] at s0_3
  obtain ⟨sA0, sc0, rfl, _⟩ := s0_3.ints
  have ap_s0_y0 := s0_3.apart y0_2 (Nat.le_refl _)
  have ap_s0_y1 := s0_3.apart y1_2 (Nat.le_refl _)
  try rw [HR1.out]
  have hB3 := hB2.trans (hb3.mono hB2.size)
  have y0_3 := y0_2.below hb3
  clear y0_2
  have y1_3 := y1_2.below hb3
  clear y1_2
  clear y0_3
  clear y1_3
  go_wp2_with fail
  refine (l_toByteS ((hl0.below hB3).up hB3.size) (by omega)).mono ?_
  rintro e W4 ⟨rfl, x0_4, hb4⟩
  have ap_x0_s0 := x0_4.apart s0_3 (Nat.le_refl _)
  have hB4 := hB3.trans (hb4.mono hB3.size)
  have s0_4 := s0_3.below hb4
  clear s0_3
  go_wp2_with fail
  refine (l_toIntS ((hl1.below hB4).up hB4.size) (by omega)).mono ?_
  rintro e W5 ⟨rfl, x1_5, hb5⟩
  have ap_x1_s0 := x1_5.apart s0_4 (Nat.le_refl _)
  have ap_x1_x0 := x1_5.apart x0_4 (Nat.le_refl _)
  have hB5 := hB4.trans (hb5.mono hB4.size)
  have s0_5 := s0_4.below hb5
  clear s0_4
  have x0_5 := x0_4.below hb5
  clear x0_4
  go_wp2_with fail
  refine (i_Reorder x0_5.intsAt.1 x1_5.intsAt.1 (by omega) (by omega)).mono ?_
  rintro e W6 ⟨gv0, rfl, g0_6, hb6⟩
  rw [HR0.out] at g0_6
  obtain ⟨gA0, gc0, rfl, _⟩ := g0_6.ints
  have ap_g0_s0 := g0_6.apart s0_5 (Nat.le_refl _)
  have ap_g0_x0 := g0_6.apart x0_5 (Nat.le_refl _)
  have ap_g0_x1 := g0_6.apart x1_5 (Nat.le_refl _)
  try rw [HR1.out]
  have hB6 := hB5.trans (hb6.mono hB5.size)
  have s0_6 := s0_5.below hb6
  clear s0_5
  have x0_6 := x0_5.below hb6
  clear x0_5
  have x1_6 := x1_5.below hb6
  clear x1_5
  go_wp2_with fail
  refine (l_eqByteS g0_6.intsAt.1 s0_6.intsAt.1 (by simp only [maxLen]; omega) (by simp only [maxLen]; omega)).mono ?_
  rintro e W7 ⟨rfl, hb7⟩
  have hB7 := hB6.trans (hb7.mono hB6.size)
  have s0_7 := s0_6.below hb7
  clear s0_6
  have x0_7 := x0_6.below hb7
  clear x0_6
  have x1_7 := x1_6.below hb7
  clear x1_6
  have g0_7 := g0_6.below hb7
  clear g0_6
  go_wp2_with fail
  refine (l_toByteS ((hl0.below hB7).up hB7.size) (by omega)).mono ?_
  rintro e W8 ⟨rfl, y0_8, hb8⟩
  have ap_y0_s0 := y0_8.apart s0_7 (Nat.le_refl _)
  have ap_y0_x0 := y0_8.apart x0_7 (Nat.le_refl _)
  have ap_y0_x1 := y0_8.apart x1_7 (Nat.le_refl _)
  have ap_y0_g0 := y0_8.apart g0_7 (Nat.le_refl _)
  have hB8 := hB7.trans (hb8.mono hB7.size)
  have s0_8 := s0_7.below hb8
  clear s0_7
  have x0_8 := x0_7.below hb8
  clear x0_7
  have x1_8 := x1_7.below hb8
  clear x1_7
  have g0_8 := g0_7.below hb8
  clear g0_7
  go_wp2_with fail
  refine (l_eqByteS x0_8.intsAt.1 y0_8.intsAt.1 (by simp only [maxLen]; omega) (by simp only [maxLen]; omega)).mono ?_
  rintro e W9 ⟨rfl, hb9⟩
  have hB9 := hB8.trans (hb9.mono hB8.size)
  have s0_9 := s0_8.below hb9
  clear s0_8
  have x0_9 := x0_8.below hb9
  clear x0_8
  have x1_9 := x1_8.below hb9
  clear x1_8
  have g0_9 := g0_8.below hb9
  clear g0_8
  have y0_9 := y0_8.below hb9
  clear y0_8
  clear y0_9
  go_wp2_with fail
  refine (l_toIntS ((hl1.below hB9).up hB9.size) (by omega)).mono ?_
  rintro e W10 ⟨rfl, y1_10, hb10⟩
  have ap_y1_s0 := y1_10.apart s0_9 (Nat.le_refl _)
  have ap_y1_x0 := y1_10.apart x0_9 (Nat.le_refl _)
  have ap_y1_x1 := y1_10.apart x1_9 (Nat.le_refl _)
  have ap_y1_g0 := y1_10.apart g0_9 (Nat.le_refl _)
  have hB10 := hB9.trans (hb10.mono hB9.size)
  have s0_10 := s0_9.below hb10
  clear s0_9
  have x0_10 := x0_9.below hb10
  clear x0_9
  have x1_10 := x1_9.below hb10
  clear x1_9
  have g0_10 := g0_9.below hb10
  clear g0_9
  go_wp2_with fail
  refine (l_eqIntS x1_10.intsAt.1 y1_10.intsAt.1 (by simp only [maxLen]; omega) (by simp only [maxLen]; omega)).mono ?_
  rintro e W11 ⟨rfl, hb11⟩
  have hB11 := hB10.trans (hb11.mono hB10.size)
  have s0_11 := s0_10.below hb11
  clear s0_10
  have x0_11 := x0_10.below hb11
  clear x0_10
  have x1_11 := x1_10.below hb11
  clear x1_10
  have g0_11 := g0_10.below hb11
  clear g0_10
  have y1_11 := y1_10.below hb11
  clear y1_10
  clear y1_11
  go_wp2_with fail
  refine (l_markByteS (1) x0_11 (by omega) (by omega)).mono ?_
  rintro e W12 ⟨rfl, x0_12, hg12⟩
  have hB12 : Below w.heap.size w W12 := below_mark hB11 x0_11 hg12 hB3.size
  have s0_12 := s0_11.kept hg12 (by first | exact ap_s0_x0 | exact apart_symm ap_x0_s0)
  clear s0_11
  have x1_12 := x1_11.kept hg12 (by first | exact ap_x1_x0 | exact apart_symm ap_x0_x1)
  clear x1_11
  have g0_12 := g0_11.kept hg12 (by first | exact ap_g0_x0 | exact apart_symm ap_x0_g0)
  clear g0_11
  clear x0_11
  go_wp2_with fail
  refine (l_markIntS ((1) + l0.length) x1_12 (by omega) (by omega)).mono ?_
  rintro e W13 ⟨rfl, x1_13, hg13⟩
  have hB13 : Below w.heap.size w W13 := below_mark hB12 x1_12 hg13 hB4.size
  have s0_13 := s0_12.kept hg13 (by first | exact ap_s0_x1 | exact apart_symm ap_x1_s0)
  clear s0_12
  have x0_13 := x0_12.kept hg13 (by first | exact ap_x0_x1 | exact apart_symm ap_x1_x0)
  clear x0_12
  have g0_13 := g0_12.kept hg13 (by first | exact ap_g0_x1 | exact apart_symm ap_x1_g0)
  clear g0_12
  clear x1_12
  clear x0_13
  clear x1_13
  go_wp2_with fail
  refine (l_eqByteS g0_13.intsAt.1 s0_13.intsAt.1 (by simp only [maxLen]; omega) (by simp only [maxLen]; omega)).mono ?_
  rintro e W14 ⟨rfl, hb14⟩
  have hB14 := hB13.trans (hb14.mono hB13.size)
  have s0_14 := s0_13.below hb14
  clear s0_13
  have g0_14 := g0_13.below hb14
  clear g0_13
  go_wp2_with fail
  refine (l_markByteS (1) g0_14 (by omega) (by omega)).mono ?_
  rintro e W15 ⟨rfl, g0_15, hg15⟩
  have hB15 : Below w.heap.size w W15 := below_mark hB14 g0_14 hg15 hB5.size
  have s0_15 := s0_14.kept hg15 (by first | exact ap_s0_g0 | exact apart_symm ap_g0_s0)
  clear s0_14
  clear g0_14
  go_wp2_with fail
  refine (l_heldByteS (1) g0_15.intsAt.1 (by omega) (by omega)).mono ?_
  rintro e W ⟨rfl, rfl⟩
  go_wp2_with fail
  refine (l_toByteS ((hl0.below hB15).up hB15.size) (by omega)).mono ?_
  rintro e W16 ⟨rfl, y0_16, hb16⟩
  have ap_y0_s0 := y0_16.apart s0_15 (Nat.le_refl _)
  have ap_y0_g0 := y0_16.apart g0_15 (Nat.le_refl _)
  have hB16 := hB15.trans (hb16.mono hB15.size)
  have s0_16 := s0_15.below hb16
  clear s0_15
  have g0_16 := g0_15.below hb16
  clear g0_15
  go_wp2_with fail
  refine (l_toIntS ((hl1.below hB16).up hB16.size) (by omega)).mono ?_
  rintro e W17 ⟨rfl, y1_17, hb17⟩
  have ap_y1_s0 := y1_17.apart s0_16 (Nat.le_refl _)
  have ap_y1_g0 := y1_17.apart g0_16 (Nat.le_refl _)
  have ap_y1_y0 := y1_17.apart y0_16 (Nat.le_refl _)
  have hB17 := hB16.trans (hb17.mono hB16.size)
  have s0_17 := s0_16.below hb17
  clear s0_16
  have g0_17 := g0_16.below hb17
  clear g0_16
  have y0_17 := y0_16.below hb17
  clear y0_16
  go_wp2_with fail
  refine (i_Reorder y0_17.intsAt.1 y1_17.intsAt.1 (by omega) (by omega)).mono ?_
  rintro e W18 ⟨hv0, rfl, h0_18, hb18⟩
  rw [HR0.out] at h0_18
  obtain ⟨hA0, hc0, rfl, _⟩ := h0_18.ints
  have ap_h0_s0 := h0_18.apart s0_17 (Nat.le_refl _)
  have ap_h0_g0 := h0_18.apart g0_17 (Nat.le_refl _)
  have ap_h0_y0 := h0_18.apart y0_17 (Nat.le_refl _)
  have ap_h0_y1 := h0_18.apart y1_17 (Nat.le_refl _)
  try rw [HR1.out]
  have hB18 := hB17.trans (hb18.mono hB17.size)
  have s0_18 := s0_17.below hb18
  clear s0_17
  have g0_18 := g0_17.below hb18
  clear g0_17
  have y0_18 := y0_17.below hb18
  clear y0_17
  have y1_18 := y1_17.below hb18
  clear y1_17
  clear y0_18
  clear y1_18
  go_wp2_with fail
  refine (l_eqByteS h0_18.intsAt.1 s0_18.intsAt.1 (by simp only [maxLen]; omega) (by simp only [maxLen]; omega)).mono ?_
  rintro e W19 ⟨rfl, hb19⟩
  have hB19 := hB18.trans (hb19.mono hB18.size)
  have s0_19 := s0_18.below hb19
  clear s0_18
  have g0_19 := g0_18.below hb19
  clear g0_18
  have h0_19 := h0_18.below hb19
  clear h0_18
  go_wp2_with fail
  refine (l_heldByteS (1) g0_19.intsAt.1 (by omega) (by omega)).mono ?_
  rintro e W ⟨rfl, rfl⟩
  go_wp2_with fail
  go_ret
  exact ⟨rfl, hB19⟩

/-! ### THE ROW's STEP: WRITTEN OUT: LEAVE IT -/
set_option maxRecDepth 100000 in
theorem lifted (os : Os) (started : os.Started) (H : Type) (enc : TypeId × Value → H) :
    ReturnsInHanded {} Try.checked os 6 .any (Rows.fnExactReorderSpec.pre6 enc Try.prog Try.f6 Rows.fnExactReorderRow.domain false) (Rows.fnExactReorderSpec.post enc Try.prog Try.f6 false true false false) := by
  refine returnsInHanded_of_change (C := Try.checked) own started (by kernel_rfl) Try.func6
    (ChangeSpec.witness6 (enc := enc) (C := Try.checked) false ⟨#[], #[.slice none 0 0, .slice none 0 0], []⟩ 8 (by kernel_rfl) (by kernel_rfl) (by kernel_rfl) (by kernel_rfl)) ?_
  intro W base args ds gs before hval0 hW hcnd _
  have hval : ∀ (j : Nat) t v, Try.f6.params[j]? = some t → args[j]? = some v → Value.okWide Try.prog W .any base t v := hval0
  have hW' := hW
  obtain ⟨p, q, hA0, hV, rfl, hfz, hnd⟩ := hW
  have hA : DataW.TrodAll enc Try.prog W 0 (fun _ => true) true Try.f6.params.toList args.toList ds p := hA0
  rw [Try.params6] at hA hval
  obtain ⟨v0, vs0, d0, ds0, p0, q0, hargs, rfl, rfl, h0, r0⟩ := trodAll_cons hA
  obtain ⟨v1, vs1, d1, ds1, p1, q1, rfl, rfl, rfl, h1, r1⟩ := trodAll_cons r0
  obtain ⟨rfl, rfl, rfl⟩ := trodAll_nil r1
  obtain rfl : args = #[v0, v1] := by cases args; simp_all
  obtain ⟨rfl, rfl⟩ := trodVars_none hV
  obtain ⟨a0, len0, cap0, rfl⟩ := okWide_slice Try.underlying22 (hval 0 22 v0 rfl rfl)
  have k0 := h0
  have lt0 : ∀ x ∈ p0, x.block < W.heap.size := by obtain ⟨m, hm⟩ := k0; exact DataW.trod_lt m _ _ _ hm
  obtain ⟨z0, w0⟩ : ∃ zs, IsRow .u8 W a0 len0 cap0 zs := by
    obtain ⟨fuel, hf⟩ := h0
    rcases open_ints Try.underlying22 Try.underlying5 (by kernel_rfl) hf with ⟨hcs, _⟩ | ⟨x, l, c, zs, hcs, _, hl, hm, hz, _, hcell, hwz⟩
    · simp [Value.cells] at hcs
      obtain ⟨rfl, rfl, rfl⟩ := hcs
      exact ⟨[], .inl ⟨rfl, rfl, rfl, rfl⟩⟩
    · simp [Value.cells] at hcs
      obtain ⟨rfl, rfl, rfl⟩ := hcs
      exact ⟨zs, .inr ⟨_, rfl, hl, hm, by simpa using hz, hcell, hwz⟩⟩
  obtain ⟨a1, len1, cap1, rfl⟩ := okWide_slice Try.underlying28 (hval 1 28 v1 rfl rfl)
  have k1 := h1
  have lt1 : ∀ x ∈ p1, x.block < W.heap.size := by obtain ⟨m, hm⟩ := k1; exact DataW.trod_lt m _ _ _ hm
  obtain ⟨z1, w1⟩ : ∃ zs, IsRow .i64 W a1 len1 cap1 zs := by
    obtain ⟨fuel, hf⟩ := h1
    rcases open_ints Try.underlying28 Try.underlying3 (by kernel_rfl) hf with ⟨hcs, _⟩ | ⟨x, l, c, zs, hcs, _, hl, hm, hz, _, hcell, hwz⟩
    · simp [Value.cells] at hcs
      obtain ⟨rfl, rfl, rfl⟩ := hcs
      exact ⟨[], .inl ⟨rfl, rfl, rfl, rfl⟩⟩
    · simp [Value.cells] at hcs
      obtain ⟨rfl, rfl, rfl⟩ := hcs
      exact ⟨zs, .inr ⟨_, rfl, hl, hm, by simpa using hz, hcell, hwz⟩⟩
  clear hA0 hval0
  refine (walk a0 len0 cap0 z0 a1 len1 cap1 z1 W w0 w1).mono fun e W' ⟨he, bel⟩ => ?_
  subst he
  exact ⟨_, rfl, _, _, _, [], _, [], hW', trodAll_mk1 (shut_bool Try.underlying4 _), (trodAll_cons_mk (Below.trod laidOut (by kernel_rfl) (of_decide_eq_true (by kernel_rfl)) k0 bel lt0) (trodAll_cons_mk (Below.trod laidOut (by kernel_rfl) (of_decide_eq_true (by kernel_rfl)) k1 bel lt1) trodAll_mk0)), rfl, bel.frame _, fun h => by cases h⟩

theorem over : Rows.fnExactReorderRow.holds Try.pinned (OpenSpec.ofChange Rows.fnExactReorderSpec) :=
  OpenClaim.holds_of_wide 6 Try.f6 rfl rfl rfl rfl rfl rfl rfl ⟨rfl, rfl, rfl, rfl, rfl⟩ rfl rfl rfl rfl rfl (by kernel_rfl) Try.func6 (by kernel_rfl)
    (of_decide_eq_true (by kernel_rfl)) (by unfold Func.isWrapper; first | (rw [if_pos (by decide +kernel)]; kernel_rfl) | (rw [if_neg (by decide +kernel)]; exact ⟨rfl, rfl⟩))
    (fun os started H enc _ => lifted os started H enc)

/-- ████ THE STATEMENT ████ -/
theorem proved : Rows.FnExactReorderSaid := over
#print axioms proved
end Go.Proofs.Ytfjolhpimcmmlab.fnExactReorder
