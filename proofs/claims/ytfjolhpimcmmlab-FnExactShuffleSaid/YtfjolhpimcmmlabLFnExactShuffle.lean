/-
  For every argument (slices of at most 2^20 elements) the program's Shuffle answers as its model does, writes into no argument, and its answer owns its memory. No further condition.
-/
import Derived.Test.YtfjolhpimcmmlabRows
import Derived.WalkKit
import Derived.ProofKit
import Derived.OpenShut
import Derived.ShutString
import Derived.ChangeOld
import Derived.Below
import Derived.Test.YtfjolhpimcmmlabImplOrd
import Derived.Test.YtfjolhpimcmmlabCopy
namespace Go.Proofs.Ytfjolhpimcmmlab.fnExactShuffle
open Go.ChangeShapes Go.WideShapes Go.ChangeAt Go.RowKit
open Go.ChangeMaps (open_string shut_string)
set_option linter.unusedVariables false

open Go.Proofs.Ytfjolhpimcmmlab Fld
theorem own : ownKnob Try.prog.godebug = none := by kernel_rfl
theorem laidOut : laidOutB Try.prog = true := by kernel_rfl

/-- WHAT THE WALK IS TOLD OF A SLICE OF INTEGERS THAT CAME IN: it is nil; or it leads to a row of 'cap' cells, the numbers 'zs' (the first 'len' are its elements, the rest its spare room), each fitting its kind. -/
def IsRow (k : IntKind) (w : World) (a : Option Addr) (len cap : Nat) (zs : List Int) : Prop :=
  (a = none ∧ len = 0 ∧ cap = 0 ∧ zs = []) ∨
  ∃ x, a = some x ∧ len ≤ cap ∧ cap ≤ maxLen ∧ zs.length = cap ∧ (∀ i, i < zs.length → w.cell? (x.add i) = some (.int k (zs.getD i 0))) ∧ ∀ n ∈ zs, (Lit.int k n).wf = true

theorem rowInts {k : IntKind} {w : World} {a : Option Addr} {n c : Nat} {zs : List Int} (h : IsRow k w a n c zs) : Ints k w w.heap.size a n (zs.take n) ∧ n ≤ c := by
  rcases h with ⟨rfl, rfl, rfl, rfl⟩ | ⟨x, rfl, hl, _, hz, hc, hw⟩
  · exact ⟨Ints.nil, Nat.le_refl _⟩
  · exact ⟨Ints.ofRow (by omega) hc hw, hl⟩

/-! ### STEP 1: THE WALK: the Go text returns true, AND WRITES NOTHING THAT WAS THERE: 'Below w.heap.size w w'' (Derived/Below.lean: '.refl', '.alloc', '.drew', '.setCell' at a new block, '.trans'). Open each 'IsRow' by 'rcases' AHEAD of 'go_enter'; part every test ahead of the walk. -/
theorem walk (a0 : Option Addr) (len0 cap0 : Nat) (z0 : List Int) (a1 : Int) (w : World) (w0 : IsRow .u8 w a0 len0 cap0 z0) (w1 : (Lit.int .i64 a1).wf = true) :
    Calls Try.prog 4 #[.slice a0 len0 cap0, .int .i64 a1] w fun e w' => e = .returned (.bool true) ∧ Below w.heap.size w w' := by
  have rg1 := i64_rg w1
  obtain ⟨hl0, hnc0⟩ := rowInts w0
  obtain ⟨l0, hlz0⟩ : ∃ l, z0.take len0 = l := ⟨_, rfl⟩
  rw [hlz0] at hl0
  clear hlz0 w0 z0
  by_cases hbig0 : 1048576 < len0
  · go_enter Try.func4, Try.ntmps4
    go_wp2
    go_ret
    exact ⟨rfl, Below.refl _ _⟩
  have hn0 : len0 ≤ 1048576 := by omega
  have hll0 : l0.length ≤ 1048576 := by rw [hl0.1]; exact hn0
  obtain ⟨r0, hr0⟩ : ∃ r, shufL l0 a1 = r := ⟨_, rfl⟩
  have HR0 := Lib.hid hr0
  have hrl0 : r0.length ≤ 64 := by rw [← hr0]; exact shufL_le _ _ (by_ints hl0)
  clear hr0
  have t0 : decide (r0 = r0) = true := by simp
  obtain ⟨r1, hr1⟩ : ∃ r, shufU l0 a1 = r := ⟨_, rfl⟩
  have HR1 := Lib.hid hr1
  clear hr1
  go_enter Try.func4, Try.ntmps4
  go_wp2_with fail
  refine (l_toByteS hl0 (by omega)).mono ?_
  rintro e W1 ⟨rfl, y0_1, hb1⟩
  have hB1 := hb1
  go_wp2_with fail
  refine (s_Shuffle a1 y0_1.intsAt.1 (by omega)).mono ?_
  rintro e W2 ⟨sv0, rfl, s0_2, hb2⟩
  rw [HR0.out] at s0_2
  obtain ⟨sA0, sc0, rfl, _⟩ := s0_2.ints
  have ap_s0_y0 := s0_2.apart y0_1 (Nat.le_refl _)
  try rw [HR1.out]
  have hB2 := hB1.trans (hb2.mono hB1.size)
  have y0_2 := y0_1.below hb2
  clear y0_1
  clear y0_2
  go_wp2_with fail
  refine (l_toByteS ((hl0.below hB2).up hB2.size) (by omega)).mono ?_
  rintro e W3 ⟨rfl, x0_3, hb3⟩
  have ap_x0_s0 := x0_3.apart s0_2 (Nat.le_refl _)
  have hB3 := hB2.trans (hb3.mono hB2.size)
  have s0_3 := s0_2.below hb3
  clear s0_2
  go_wp2_with fail
  refine (i_Shuffle a1 x0_3.intsAt.1 (Nat.le_refl _) (by omega) (.inr ⟨_, _, rfl⟩)).mono ?_
  rintro e W4 ⟨gv0, rfl, g0_4, hb4⟩
  rw [HR0.out] at g0_4
  obtain ⟨gA0, gc0, rfl, _⟩ := g0_4.ints
  have ap_g0_s0 := g0_4.apart s0_3 (Nat.le_refl _)
  have ap_g0_x0 := g0_4.apart x0_3 (Nat.le_refl _)
  try rw [HR1.out]
  have hB4 := hB3.trans (hb4.mono hB3.size)
  have s0_4 := s0_3.below hb4
  clear s0_3
  have x0_4 := x0_3.below hb4
  clear x0_3
  go_wp2_with fail
  refine (l_eqIntS g0_4.intsAt.1 s0_4.intsAt.1 (by simp only [maxLen]; omega) (by simp only [maxLen]; omega)).mono ?_
  rintro e W5 ⟨rfl, hb5⟩
  have hB5 := hB4.trans (hb5.mono hB4.size)
  have s0_5 := s0_4.below hb5
  clear s0_4
  have x0_5 := x0_4.below hb5
  clear x0_4
  have g0_5 := g0_4.below hb5
  clear g0_4
  go_wp2_with fail
  refine (l_toByteS ((hl0.below hB5).up hB5.size) (by omega)).mono ?_
  rintro e W6 ⟨rfl, y0_6, hb6⟩
  have ap_y0_s0 := y0_6.apart s0_5 (Nat.le_refl _)
  have ap_y0_x0 := y0_6.apart x0_5 (Nat.le_refl _)
  have ap_y0_g0 := y0_6.apart g0_5 (Nat.le_refl _)
  have hB6 := hB5.trans (hb6.mono hB5.size)
  have s0_6 := s0_5.below hb6
  clear s0_5
  have x0_6 := x0_5.below hb6
  clear x0_5
  have g0_6 := g0_5.below hb6
  clear g0_5
  go_wp2_with fail
  refine (l_eqByteS x0_6.intsAt.1 y0_6.intsAt.1 (by simp only [maxLen]; omega) (by simp only [maxLen]; omega)).mono ?_
  rintro e W7 ⟨rfl, hb7⟩
  have hB7 := hB6.trans (hb7.mono hB6.size)
  have s0_7 := s0_6.below hb7
  clear s0_6
  have x0_7 := x0_6.below hb7
  clear x0_6
  have g0_7 := g0_6.below hb7
  clear g0_6
  have y0_7 := y0_6.below hb7
  clear y0_6
  clear y0_7
  go_wp2_with fail
  refine (l_markByteS (1) x0_7 (by omega) (by omega)).mono ?_
  rintro e W8 ⟨rfl, x0_8, hg8⟩
  have hB8 : Below w.heap.size w W8 := below_mark hB7 x0_7 hg8 hB2.size
  have s0_8 := s0_7.kept hg8 (by first | exact ap_s0_x0 | exact apart_symm ap_x0_s0)
  clear s0_7
  have g0_8 := g0_7.kept hg8 (by first | exact ap_g0_x0 | exact apart_symm ap_x0_g0)
  clear g0_7
  clear x0_7
  clear x0_8
  go_wp2_with fail
  refine (l_eqIntS g0_8.intsAt.1 s0_8.intsAt.1 (by simp only [maxLen]; omega) (by simp only [maxLen]; omega)).mono ?_
  rintro e W9 ⟨rfl, hb9⟩
  have hB9 := hB8.trans (hb9.mono hB8.size)
  have s0_9 := s0_8.below hb9
  clear s0_8
  have g0_9 := g0_8.below hb9
  clear g0_8
  go_wp2_with fail
  refine (l_markIntS (1) g0_9 (by omega) (by omega)).mono ?_
  rintro e W10 ⟨rfl, g0_10, hg10⟩
  have hB10 : Below w.heap.size w W10 := below_mark hB9 g0_9 hg10 hB3.size
  have s0_10 := s0_9.kept hg10 (by first | exact ap_s0_g0 | exact apart_symm ap_g0_s0)
  clear s0_9
  clear g0_9
  go_wp2_with fail
  refine (l_heldIntS (1) g0_10.intsAt.1 (by omega) (by omega)).mono ?_
  rintro e W ⟨rfl, rfl⟩
  go_wp2_with fail
  refine (l_toByteS ((hl0.below hB10).up hB10.size) (by omega)).mono ?_
  rintro e W11 ⟨rfl, y0_11, hb11⟩
  have ap_y0_s0 := y0_11.apart s0_10 (Nat.le_refl _)
  have ap_y0_g0 := y0_11.apart g0_10 (Nat.le_refl _)
  have hB11 := hB10.trans (hb11.mono hB10.size)
  have s0_11 := s0_10.below hb11
  clear s0_10
  have g0_11 := g0_10.below hb11
  clear g0_10
  go_wp2_with fail
  refine (i_Shuffle a1 y0_11.intsAt.1 (Nat.le_refl _) (by omega) (.inr ⟨_, _, rfl⟩)).mono ?_
  rintro e W12 ⟨hv0, rfl, h0_12, hb12⟩
  rw [HR0.out] at h0_12
  obtain ⟨hA0, hc0, rfl, _⟩ := h0_12.ints
  have ap_h0_s0 := h0_12.apart s0_11 (Nat.le_refl _)
  have ap_h0_g0 := h0_12.apart g0_11 (Nat.le_refl _)
  have ap_h0_y0 := h0_12.apart y0_11 (Nat.le_refl _)
  try rw [HR1.out]
  have hB12 := hB11.trans (hb12.mono hB11.size)
  have s0_12 := s0_11.below hb12
  clear s0_11
  have g0_12 := g0_11.below hb12
  clear g0_11
  have y0_12 := y0_11.below hb12
  clear y0_11
  clear y0_12
  go_wp2_with fail
  refine (l_eqIntS h0_12.intsAt.1 s0_12.intsAt.1 (by simp only [maxLen]; omega) (by simp only [maxLen]; omega)).mono ?_
  rintro e W13 ⟨rfl, hb13⟩
  have hB13 := hB12.trans (hb13.mono hB12.size)
  have s0_13 := s0_12.below hb13
  clear s0_12
  have g0_13 := g0_12.below hb13
  clear g0_12
  have h0_13 := h0_12.below hb13
  clear h0_12
  go_wp2_with fail
  refine (l_heldIntS (1) g0_13.intsAt.1 (by omega) (by omega)).mono ?_
  rintro e W ⟨rfl, rfl⟩
  go_wp2_with fail
  go_ret
  exact ⟨rfl, hB13⟩

/-! ### THE ROW's STEP: WRITTEN OUT: LEAVE IT -/
set_option maxRecDepth 100000 in
theorem lifted (os : Os) (started : os.Started) (H : Type) (enc : TypeId × Value → H) :
    ReturnsInHanded {} Try.checked os 4 .any (Rows.fnExactShuffleSpec.pre6 enc Try.prog Try.f4 Rows.fnExactShuffleRow.domain false) (Rows.fnExactShuffleSpec.post enc Try.prog Try.f4 false true false false) := by
  refine returnsInHanded_of_change (C := Try.checked) own started (by kernel_rfl) Try.func4
    (ChangeSpec.witness6 (enc := enc) (C := Try.checked) false ⟨#[], #[.slice none 0 0, .int .i64 0], []⟩ 8 (by kernel_rfl) (by kernel_rfl) (by kernel_rfl) (by kernel_rfl)) ?_
  intro W base args ds gs before hval0 hW hcnd _
  have hval : ∀ (j : Nat) t v, Try.f4.params[j]? = some t → args[j]? = some v → Value.okWide Try.prog W .any base t v := hval0
  have hW' := hW
  obtain ⟨p, q, hA0, hV, rfl, hfz, hnd⟩ := hW
  have hA : DataW.TrodAll enc Try.prog W 0 (fun _ => true) true Try.f4.params.toList args.toList ds p := hA0
  rw [Try.params4] at hA hval
  obtain ⟨v0, vs0, d0, ds0, p0, q0, hargs, rfl, rfl, h0, r0⟩ := trodAll_cons hA
  obtain ⟨v1, vs1, d1, ds1, p1, q1, rfl, rfl, rfl, h1, r1⟩ := trodAll_cons r0
  obtain ⟨rfl, rfl, rfl⟩ := trodAll_nil r1
  obtain rfl : args = #[v0, v1] := by cases args; simp_all
  obtain ⟨rfl, rfl⟩ := trodVars_none hV
  obtain ⟨a0, len0, cap0, rfl⟩ := okWide_slice Try.underlying22 (hval 0 22 v0 rfl rfl)
  have k0 := h0
  have lt0 : ∀ x ∈ p0, x.block < W.heap.size := by obtain ⟨m, hm⟩ := k0; exact DataW.trod_lt m _ _ _ hm
  obtain ⟨z0, w0⟩ : ∃ zs, IsRow .u8 W a0 len0 cap0 zs := by
    obtain ⟨fuel, hf⟩ := h0
    rcases open_ints Try.underlying22 Try.underlying5 (by kernel_rfl) hf with ⟨hcs, _⟩ | ⟨x, l, c, zs, hcs, _, hl, hm, hz, _, hcell, hwz⟩
    · simp [Value.cells] at hcs
      obtain ⟨rfl, rfl, rfl⟩ := hcs
      exact ⟨[], .inl ⟨rfl, rfl, rfl, rfl⟩⟩
    · simp [Value.cells] at hcs
      obtain ⟨rfl, rfl, rfl⟩ := hcs
      exact ⟨zs, .inr ⟨_, rfl, hl, hm, by simpa using hz, hcell, hwz⟩⟩
  obtain ⟨a1, rfl, rfl, rfl, w1⟩ := open_int Try.underlying3 (hval 1 3 v1 rfl rfl) h1
  clear hA0 hval0
  refine (walk a0 len0 cap0 z0 a1 W w0 w1).mono fun e W' ⟨he, bel⟩ => ?_
  subst he
  exact ⟨_, rfl, _, _, _, [], _, [], hW', trodAll_mk1 (shut_bool Try.underlying4 _), (trodAll_cons_mk (Below.trod laidOut (by kernel_rfl) (of_decide_eq_true (by kernel_rfl)) k0 bel lt0) (trodAll_cons_mk (shut_int Try.underlying3 w1) trodAll_mk0)), rfl, bel.frame _, fun h => by cases h⟩

theorem over : Rows.fnExactShuffleRow.holds Try.pinned (OpenSpec.ofChange Rows.fnExactShuffleSpec) :=
  OpenClaim.holds_of_wide 4 Try.f4 rfl rfl rfl rfl rfl rfl rfl ⟨rfl, rfl, rfl, rfl, rfl⟩ rfl rfl rfl rfl rfl (by kernel_rfl) Try.func4 (by kernel_rfl)
    (of_decide_eq_true (by kernel_rfl)) (by unfold Func.isWrapper; first | (rw [if_pos (by decide +kernel)]; kernel_rfl) | (rw [if_neg (by decide +kernel)]; exact ⟨rfl, rfl⟩))
    (fun os started H enc _ => lifted os started H enc)

/-- ████ THE STATEMENT ████ -/
theorem proved : Rows.FnExactShuffleSaid := over
#print axioms proved
end Go.Proofs.Ytfjolhpimcmmlab.fnExactShuffle
