/-
  For every argument (slices of at most 2^20 elements) the program's CellOk answers as its model does, writes into no argument, and its answer owns its memory. No further condition.
-/
import Derived.Test.YthpocmnnefldcaaRows
import Derived.WalkKit
import Derived.ProofKit
import Derived.OpenShut
import Derived.ShutString
import Derived.ChangeOld
import Derived.Below
import Derived.Test.YthpocmnnefldcaaSpecThree
import Derived.Test.YthpocmnnefldcaaImplThree
namespace Go.Proofs.Ythpocmnnefldcaa.fnExactCellOk
open Go.ChangeShapes Go.WideShapes Go.ChangeAt Go.RowKit
open Go.ChangeMaps (open_string shut_string)
set_option linter.unusedVariables false

open Go.Proofs.Ythpocmnnefldcaa Fld
theorem own : ownKnob Try.prog.godebug = none := by kernel_rfl
theorem laidOut : laidOutB Try.prog = true := by kernel_rfl

/-- What the walk is told of a slice of integers that came in. -/
def IsRow (k : IntKind) (w : World) (a : Option Addr) (len cap : Nat) (zs : List Int) : Prop :=
  (a = none ∧ len = 0 ∧ cap = 0 ∧ zs = []) ∨
  ∃ x, a = some x ∧ len ≤ cap ∧ cap ≤ maxLen ∧ zs.length = cap ∧ (∀ i, i < zs.length → w.cell? (x.add i) = some (.int k (zs.getD i 0))) ∧ ∀ n ∈ zs, (Lit.int k n).wf = true

theorem array_one {cs : Array Value} (h : cs.size = 1) : ∃ c, cs = #[c] := by
  obtain ⟨l⟩ := cs
  match l, h with
  | [c], _ => exact ⟨c, rfl⟩
theorem rowInts {k : IntKind} {w : World} {a : Option Addr} {n c : Nat} {zs : List Int} (h : IsRow k w a n c zs) : Ints k w w.heap.size a n (zs.take n) ∧ n ≤ c ∧ c ≤ 9223372036854775807 := by
  rcases h with ⟨rfl, rfl, rfl, rfl⟩ | ⟨x, rfl, hl, hm, hz, hc, hw⟩
  · exact ⟨Ints.nil, Nat.le_refl _, by omega⟩
  · exact ⟨Ints.ofRow (by omega) hc hw, hl, hm⟩

/-! ### STEP 1: the walk -/
set_option maxRecDepth 100000 in
set_option maxHeartbeats 2000000 in
theorem walk (a0 : Option Addr) (len0 cap0 : Nat) (z0 : List Int) (w : World) (w0 : IsRow .u8 w a0 len0 cap0 z0) :
    Calls Try.prog 8 #[.agg #[.slice a0 len0 cap0]] w fun e w' => e = .returned (.bool true) ∧ Below w.heap.size w w' := by
  obtain ⟨hl0, hnc0, hcm0⟩ := rowInts w0
  obtain ⟨l0, hlz0⟩ : ∃ l, z0.take len0 = l := ⟨_, rfl⟩
  rw [hlz0] at hl0
  clear hlz0 w0 z0
  by_cases hbig0 : 1048576 < len0
  · go_enter Try.func8, Try.ntmps8
    go_wp2_with fail
    refine (l_szCell_f _ _ _ _ _ (by omega) (by omega) (by omega) (by omega)).mono ?_
    rintro e w1 ⟨rfl, hBz⟩
    go_wp2
    go_ret
    exact ⟨rfl, bel_trans (by repeat (first | exact Below.refl _ _ | assumption | (refine bel_alloc ?_ _) | (refine bel_drew ?_) | (refine below_drewN ?_ _) | (refine bel_put ?_ (by first | exact Nat.le_refl _ | (simp; done) | (simp; omega)) _))) hBz⟩
  have hn0 : len0 ≤ 1048576 := by omega
  have hll0 : l0.length ≤ 1048576 := by rw [hl0.1]; exact hn0
  clear hbig0
  obtain ⟨r0, hr0⟩ : ∃ r, decide (l0.length = 80) = r := ⟨_, rfl⟩
  have HR0 := Lib.hid hr0
  clear hr0
  go_enter Try.func8, Try.ntmps8
  have dz0 : decide (1048576 - (len0 : Int) < 0) = false := by simp; omega
  go_wp2_with fail
  refine (l_szCell_t _ _ _ _ _ (by omega) (by omega) (by omega)).mono ?_
  rintro e W1 ⟨rfl, hb1⟩
  have hs1 : Below w.heap.size w W1 := bel_trans (by repeat (first | exact Below.refl _ _ | assumption | (refine bel_alloc ?_ _) | (refine bel_drew ?_) | (refine below_drewN ?_ _) | (refine bel_put ?_ (by first | exact Nat.le_refl _ | (simp; done) | (simp; omega)) _))) hb1
  have La0_1 : Box W1 w.heap.size 60 #[.slice a0 len0 cap0] := (Box.new _ _ _).below hb1 (by simp)
  have cLa00 : W1.cell? ⟨w.heap.size, 0, none⟩ = some (.slice a0 len0 cap0) := La0_1.cell 0
  have hB1 : Below w.heap.size w W1 := hs1
  have z1 := hs1.size
  clear hb1
  go_wp2_with fail
  refine (l_toCell (reach (reach hl0 hB1) ?hB) (by omega)).mono ?_
  case hB => exact (by repeat (first | exact Below.refl _ _ | assumption | (refine bel_alloc ?_ _) | (refine bel_drew ?_) | (refine below_drewN ?_ _) | (refine bel_put ?_ (by first | exact Nat.le_refl _ | (simp; done) | (simp; omega)) _)))
  rintro e W2 ⟨by0, rfl, raw2, hb2⟩
  have y0_2 := raw2.lower (base' := W1.heap.size) (by first | exact Nat.le_refl _ | (simp; done) | (simp; omega))
  have ub_y0 := fun b hb => y0_2.block (b := b) hb
  have hs2 : Below W1.heap.size W1 W2 := bel_trans (by repeat (first | exact Below.refl _ _ | assumption | (refine bel_alloc ?_ _) | (refine bel_drew ?_) | (refine below_drewN ?_ _) | (refine bel_put ?_ (by first | exact Nat.le_refl _ | (simp; done) | (simp; omega)) _))) hb2
  have La0_2 := La0_1.below hs2 La0_1.size
  clear La0_1 cLa00
  have cLa00 : W2.cell? ⟨w.heap.size, 0, none⟩ = some (.slice a0 len0 cap0) := La0_2.cell 0
  have hB2 := bel_trans hB1 hs2
  have z2 := hs2.size
  clear raw2
  clear hb2
  go_wp2_with fail
  refine (s_CellOk (reach y0_2.intsAt.1 ?hB)).mono ?_
  case hB => exact (by repeat (first | exact Below.refl _ _ | assumption | (refine bel_alloc ?_ _) | (refine bel_drew ?_) | (refine below_drewN ?_ _) | (refine bel_put ?_ (by first | exact Nat.le_refl _ | (simp; done) | (simp; omega)) _)))
  rintro e W3 ⟨rfl, hb3⟩
  try rw [HR0.out]
  have hs3 : Below W2.heap.size W2 W3 := bel_trans (by repeat (first | exact Below.refl _ _ | assumption | (refine bel_alloc ?_ _) | (refine bel_drew ?_) | (refine below_drewN ?_ _) | (refine bel_put ?_ (by first | exact Nat.le_refl _ | (simp; done) | (simp; omega)) _))) hb3
  have La0_3 := La0_2.below hs3 La0_2.size
  clear La0_2 cLa00
  have cLa00 : W3.cell? ⟨w.heap.size, 0, none⟩ = some (.slice a0 len0 cap0) := La0_3.cell 0
  have hB3 := bel_trans hB2 hs3
  have z3 := hs3.size
  have y0_3 := y0_2.below hs3
  clear y0_2
  clear hb3
  clear y0_3
  go_wp2_with fail
  refine (l_toCell (reach (reach hl0 hB3) ?hB) (by omega)).mono ?_
  case hB => exact (by repeat (first | exact Below.refl _ _ | assumption | (refine bel_alloc ?_ _) | (refine bel_drew ?_) | (refine below_drewN ?_ _) | (refine bel_put ?_ (by first | exact Nat.le_refl _ | (simp; done) | (simp; omega)) _)))
  rintro e W4 ⟨bx0, rfl, raw4, hb4⟩
  have x0_4 := raw4.lower (base' := W3.heap.size) (by first | exact Nat.le_refl _ | (simp; done) | (simp; omega))
  have ub_x0 := fun b hb => x0_4.block (b := b) hb
  have hs4 : Below W3.heap.size W3 W4 := bel_trans (by repeat (first | exact Below.refl _ _ | assumption | (refine bel_alloc ?_ _) | (refine bel_drew ?_) | (refine below_drewN ?_ _) | (refine bel_put ?_ (by first | exact Nat.le_refl _ | (simp; done) | (simp; omega)) _))) hb4
  have La0_4 := La0_3.below hs4 La0_3.size
  clear La0_3 cLa00
  have cLa00 : W4.cell? ⟨w.heap.size, 0, none⟩ = some (.slice a0 len0 cap0) := La0_4.cell 0
  have hB4 := bel_trans hB3 hs4
  have z4 := hs4.size
  clear raw4
  clear hb4
  go_wp2_with fail
  refine (i_CellOk (reach x0_4.intsAt.1 ?hB)).mono ?_
  case hB => exact (by repeat (first | exact Below.refl _ _ | assumption | (refine bel_alloc ?_ _) | (refine bel_drew ?_) | (refine below_drewN ?_ _) | (refine bel_put ?_ (by first | exact Nat.le_refl _ | (simp; done) | (simp; omega)) _)))
  rintro e W5 ⟨rfl, hb5⟩
  try rw [HR0.out]
  have hs5 : Below W4.heap.size W4 W5 := bel_trans (by repeat (first | exact Below.refl _ _ | assumption | (refine bel_alloc ?_ _) | (refine bel_drew ?_) | (refine below_drewN ?_ _) | (refine bel_put ?_ (by first | exact Nat.le_refl _ | (simp; done) | (simp; omega)) _))) hb5
  have Lx0_5 : Box W5 W4.heap.size 30 #[.slice (some ⟨bx0, 0, none⟩) len0 len0] := (Box.new _ _ _).below hb5 (by simp)
  have La0_5 := La0_4.below hs5 La0_4.size
  clear La0_4 cLa00
  have cLa00 : W5.cell? ⟨w.heap.size, 0, none⟩ = some (.slice a0 len0 cap0) := La0_5.cell 0
  have cLx00 : W5.cell? ⟨W4.heap.size, 0, none⟩ = some (.slice (some ⟨bx0, 0, none⟩) len0 len0) := Lx0_5.cell 0
  have hB5 := bel_trans hB4 hs5
  have z5 := hs5.size
  have x0_5 := x0_4.below hs5
  clear x0_4
  clear hb5
  go_wp2_with fail
  go_region_held3 (fun w' => w'.cell? ⟨W4.heap.size, 0, none⟩ = some (.slice (some ⟨bx0, 0, none⟩) len0 len0) ∧ w'.cell? ⟨w.heap.size, 0, none⟩ = some (.slice a0 len0 cap0)) (first | (exact ⟨cLx00, cLa00⟩) | (exact ⟨cell_bel hs7 cLx00, cell_bel hs7 cLa00⟩) | (exact ⟨cell_bel hs6 cLx00, cell_bel hs6 cLa00⟩) | go_keep)
    (first
      | (go_at_call 45; refine (l_toCell (reach (reach hl0 hB5) (by repeat (first | exact Below.refl _ _ | assumption | (refine bel_alloc ?_ _) | (refine bel_drew ?_) | (refine below_drewN ?_ _) | (refine bel_put ?_ (by first | exact Nat.le_refl _ | (simp; done) | (simp; omega)) _)))) (by omega)).mono ?_; rintro e W6 ⟨by0, rfl, raw6, hb6⟩; have hs6 : Below W5.heap.size W5 W6 := bel_trans (by repeat (first | exact Below.refl _ _ | assumption | (refine bel_alloc ?_ _) | (refine bel_drew ?_) | (refine below_drewN ?_ _) | (refine bel_put ?_ (by first | exact Nat.le_refl _ | (simp; done) | (simp; omega)) _))) hb6)
      | (go_at_call 46; refine (l_eqCell (reach (x0_5.below hs6).intsAt.1 (by repeat (first | exact Below.refl _ _ | assumption | (refine bel_alloc ?_ _) | (refine bel_drew ?_) | (refine below_drewN ?_ _) | (refine bel_put ?_ (by first | exact Nat.le_refl _ | (simp; done) | (simp; omega)) _)))) (reach raw6.intsAt.1 (by repeat (first | exact Below.refl _ _ | assumption | (refine bel_alloc ?_ _) | (refine bel_drew ?_) | (refine below_drewN ?_ _) | (refine bel_put ?_ (by first | exact Nat.le_refl _ | (simp; done) | (simp; omega)) _)))) (by simp only [maxLen]; omega) (by simp only [maxLen]; omega)).mono ?_; rintro e W7 ⟨rfl, hb7⟩; have hs7 : Below W5.heap.size W5 W7 := bel_trans hs6 (bel_trans (by repeat (first | exact Below.refl _ _ | assumption | (refine bel_alloc ?_ _) | (refine bel_drew ?_) | (refine below_drewN ?_ _) | (refine bel_put ?_ (by first | exact Nat.le_refl _ | (simp; done) | (simp; omega)) _))) hb7)))
  clear raw6 hb6 hb7 hs6
  have La0_7 := La0_5.below hs7 La0_5.size
  clear La0_5 cLa00
  have Lx0_7 := Lx0_5.below hs7 Lx0_5.size
  clear Lx0_5 cLx00
  have cLa00 : W7.cell? ⟨w.heap.size, 0, none⟩ = some (.slice a0 len0 cap0) := La0_7.cell 0
  have cLx00 : W7.cell? ⟨W4.heap.size, 0, none⟩ = some (.slice (some ⟨bx0, 0, none⟩) len0 len0) := Lx0_7.cell 0
  have hB7 := bel_trans hB5 hs7
  have z7 := hs7.size
  have x0_7 := x0_5.below hs7
  clear x0_5
  go_wp2_with fail
  go_ret
  exact ⟨rfl, hB7⟩

/-! ### THE ROW's STEP -/
set_option maxHeartbeats 400000 in
set_option maxRecDepth 100000 in
theorem lifted (os : Os) (started : os.Started) (H : Type) (enc : TypeId × Value → H) :
    ReturnsInHanded {} Try.checked os 8 .any (Rows.fnExactCellOkSpec.pre6 enc Try.prog Try.f8 Rows.fnExactCellOkRow.domain false) (Rows.fnExactCellOkSpec.post enc Try.prog Try.f8 false true false false) := by
  refine returnsInHanded_of_change (C := Try.checked) own started (by kernel_rfl) Try.func8
    (ChangeSpec.witness6 (enc := enc) (C := Try.checked) false ⟨#[], #[.agg #[.slice none 0 0]], []⟩ 8 (by kernel_rfl) (by kernel_rfl) (by kernel_rfl) (by kernel_rfl)) ?_
  intro W base args ds gs before hval0 hW hcnd _
  have hval : ∀ (j : Nat) t v, Try.f8.params[j]? = some t → args[j]? = some v → Value.okWide Try.prog W .any base t v := hval0
  have hW' := hW
  obtain ⟨p, q, hA0, hV, rfl, hfz, hnd⟩ := hW
  have hA : DataW.TrodAll enc Try.prog W 0 (fun _ => true) true Try.f8.params.toList args.toList ds p := hA0
  rw [Try.params8] at hA hval
  obtain ⟨v0, vs0, d0, ds0, p0, q0, hargs, rfl, rfl, h0, r0⟩ := trodAll_cons hA
  obtain ⟨rfl, rfl, rfl⟩ := trodAll_nil r0
  obtain rfl : args = #[v0] := by cases args; simp_all
  obtain ⟨rfl, rfl⟩ := trodVars_none hV
  obtain ⟨cs0, rfl, hsz0⟩ := okWide_struct Try.underlying60 (hval 0 60 v0 rfl rfl)
  have k0 := h0
  have lt0 : ∀ x ∈ p0, x.block < W.heap.size := by obtain ⟨m, hm⟩ := k0; exact DataW.trod_lt m _ _ _ hm
  have one0 : Try.prog.cellsOf 60 = 1 := by kernel_rfl
  have onef0 : Try.prog.cellsOf 22 = 1 := by kernel_rfl
  obtain ⟨c0, rfl⟩ := array_one (hsz0.trans one0)
  obtain ⟨a0, len0, cap0, z0, rfl, w0⟩ : ∃ a n c zs, c0 = .slice a n c ∧ IsRow .u8 W a n c zs := by
    obtain ⟨fuel, hf0⟩ := h0
    obtain ⟨y0, fuel', _, _, hf1⟩ := trod_struct1 Try.underlying60 hf0
    have hf : DataW.trod enc Try.prog W 0 (fun _ => true) true fuel' 22 [c0] = some y0 := by simpa [Value.cells, onef0] using hf1
    rcases open_ints Try.underlying22 Try.underlying5 (by kernel_rfl) hf with ⟨hcs, _⟩ | ⟨x, l, c, zs, hcs, _, hl, hm, hz, _, hcell, hwz⟩
    · simp at hcs
      exact ⟨none, 0, 0, [], hcs, .inl ⟨rfl, rfl, rfl, rfl⟩⟩
    · simp at hcs
      exact ⟨some x, l, c, zs, hcs, .inr ⟨_, rfl, hl, hm, by simpa using hz, hcell, hwz⟩⟩
  clear hA0 hval0
  refine (walk a0 len0 cap0 z0 W w0).mono fun e W' ⟨he, bel⟩ => ?_
  subst he
  exact ⟨_, rfl, _, _, _, [], _, [], hW', trodAll_mk1 (shut_bool Try.underlying4 _), (trodAll_cons_mk (Below.trod laidOut (by kernel_rfl) (of_decide_eq_true (by kernel_rfl)) k0 bel lt0) trodAll_mk0), rfl, bel.frame _, fun h => by cases h⟩

theorem over : Rows.fnExactCellOkRow.holds Try.pinned (OpenSpec.ofChange Rows.fnExactCellOkSpec) :=
  OpenClaim.holds_of_wide 8 Try.f8 rfl rfl rfl rfl rfl rfl rfl ⟨rfl, rfl, rfl, rfl, rfl⟩ rfl rfl rfl rfl rfl (by kernel_rfl) Try.func8 (by kernel_rfl)
    (of_decide_eq_true (by kernel_rfl)) (by unfold Func.isWrapper; first | (rw [if_pos (by decide +kernel)]; kernel_rfl) | (rw [if_neg (by decide +kernel)]; exact ⟨rfl, rfl⟩))
    (fun os started H enc _ => lifted os started H enc)

theorem proved : Rows.FnExactCellOkSaid := over
#print axioms proved
end Go.Proofs.Ythpocmnnefldcaa.fnExactCellOk
