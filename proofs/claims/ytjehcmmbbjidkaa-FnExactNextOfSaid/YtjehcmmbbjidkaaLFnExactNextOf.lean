/-
  For every argument (slices of at most 2^20 elements) the program's NextOf answers as its model does, writes into no argument, and its answer owns its memory. No further condition.
-/
import Derived.Test.YtjehcmmbbjidkaaRows
import Derived.WalkKit
import Derived.ProofKit
import Derived.OpenShut
import Derived.ShutString
import Derived.ChangeOld
import Derived.Below
import Derived.Test.YtjehcmmbbjidkaaSpecNext
import Derived.Test.YtjehcmmbbjidkaaPeel
namespace Go.Proofs.Ytjehcmmbbjidkaa.fnExactNextOf
open Go.ChangeShapes Go.WideShapes Go.ChangeAt Go.RowKit
open Go.ChangeMaps (open_string shut_string)
set_option linter.unusedVariables false

open Go.Proofs.Ytjehcmmbbjidkaa Fld
theorem own : ownKnob Try.prog.godebug = none := by kernel_rfl
theorem laidOut : laidOutB Try.prog = true := by kernel_rfl

/-- What the walk is told of a slice of integers that came in. -/
def IsRow (k : IntKind) (w : World) (a : Option Addr) (len cap : Nat) (zs : List Int) : Prop :=
  (a = none ∧ len = 0 ∧ cap = 0 ∧ zs = []) ∨
  ∃ x, a = some x ∧ len ≤ cap ∧ cap ≤ maxLen ∧ zs.length = cap ∧ (∀ i, i < zs.length → w.cell? (x.add i) = some (.int k (zs.getD i 0))) ∧ ∀ n ∈ zs, (Lit.int k n).wf = true

theorem array_one {cs : Array Value} (h : cs.size = 1) : ∃ c, cs = #[c] := by
  obtain ⟨l⟩ := cs
  match l, h with
  | [c], _ => exact ⟨c, rfl⟩
theorem rowInts {k : IntKind} {w : World} {a : Option Addr} {n c : Nat} {zs : List Int} (h : IsRow k w a n c zs) : Ints k w w.heap.size a n (zs.take n) ∧ n ≤ c ∧ c ≤ 9223372036854775807 := by
  rcases h with ⟨rfl, rfl, rfl, rfl⟩ | ⟨x, rfl, hl, hm, hz, hc, hw⟩
  · exact ⟨Ints.nil, Nat.le_refl _, by omega⟩
  · exact ⟨Ints.ofRow (by omega) hc hw, hl, hm⟩

/-! ### STEP 1: the walk -/
set_option maxRecDepth 100000 in
set_option maxHeartbeats 2000000 in
theorem walk (a0 : Int) (a1 : Option Addr) (len1 cap1 : Nat) (z1 : List Int) (w : World) (w0 : (Lit.int .i64 a0).wf = true) (w1 : IsRow .u8 w a1 len1 cap1 z1) :
    Calls Try.prog 4 #[.int .i64 a0, .agg #[.slice a1 len1 cap1]] w fun e w' => e = .returned (.bool true) ∧ Below w.heap.size w w' := by
  have rg0 := i64_rg w0
  obtain ⟨hl1, hnc1, hcm1⟩ := rowInts w1
  obtain ⟨l1, hlz1⟩ : ∃ l, z1.take len1 = l := ⟨_, rfl⟩
  rw [hlz1] at hl1
  clear hlz1 w1 z1
  by_cases hbig1 : 1048576 < len1
  · go_enter Try.func4, Try.ntmps4
    go_wp2_with fail
    refine (l_szCell_f _ _ _ _ _ (by omega) (by omega) (by omega) (by omega)).mono ?_
    rintro e w1 ⟨rfl, hBz⟩
    go_wp2
    go_ret
    exact ⟨rfl, bel_trans (by repeat (first | (with_reducible exact Below.refl _ _) | (with_reducible assumption) | (with_reducible refine bel_alloc ?_ _) | (with_reducible refine bel_drew ?_) | (with_reducible refine below_drewN ?_ _) | (with_reducible refine bel_put ?_ (by first | exact Nat.le_refl _ | (simp; done) | (simp; omega)) _))) hBz⟩
  have hn1 : len1 ≤ 1048576 := by omega
  have hll1 : l1.length ≤ 1048576 := by rw [hl1.1]; exact hn1
  clear hbig1
  obtain ⟨r0, hr0⟩ : ∃ r, fnext a0 l1 = r := ⟨_, rfl⟩
  have HR0 := Lib.hid hr0
  clear hr0
  go_enter Try.func4, Try.ntmps4
  have dz1 : decide (1048576 - (len1 : Int) < 0) = false := by simp; omega
  go_wp2_with fail
  refine (l_szCell_t _ _ _ _ _ (by omega) (by omega) (by omega)).mono ?_
  rintro e W1 ⟨rfl, hb1⟩
  have hs1 : Below w.heap.size w W1 := bel_trans (by repeat (first | (with_reducible exact Below.refl _ _) | (with_reducible assumption) | (with_reducible refine bel_alloc ?_ _) | (with_reducible refine bel_drew ?_) | (with_reducible refine below_drewN ?_ _) | (with_reducible refine bel_put ?_ (by first | exact Nat.le_refl _ | (simp; done) | (simp; omega)) _))) hb1
  have La1_1 : Box W1 w.heap.size 37 #[.slice a1 len1 cap1] := (Box.new _ _ _).below hb1 (by simp)
  have zLa1 := La1_1.size
  have cLa10 : W1.cell? ⟨w.heap.size, 0, none⟩ = some (.slice a1 len1 cap1) := La1_1.cell 0
  have hB1 : Below w.heap.size w W1 := hs1
  have z1 := hs1.size
  clear hb1
  go_wp2_with fail
  refine (l_toCell (reach (reach hl1 hB1) ?hB) (by omega)).mono ?_
  case hB => exact (by repeat (first | (with_reducible exact Below.refl _ _) | (with_reducible assumption) | (with_reducible refine bel_alloc ?_ _) | (with_reducible refine bel_drew ?_) | (with_reducible refine below_drewN ?_ _) | (with_reducible refine bel_put ?_ (by first | exact Nat.le_refl _ | (simp; done) | (simp; omega)) _)))
  rintro e W2 ⟨by1, rfl, raw2, hb2⟩
  have y1_2 := raw2.lower (base' := W1.heap.size) (by first | exact Nat.le_refl _ | (simp; done) | (simp; omega))
  have ub_y1 := fun b hb => y1_2.block (b := b) hb
  have hs2 : Below W1.heap.size W1 W2 := bel_trans (by repeat (first | (with_reducible exact Below.refl _ _) | (with_reducible assumption) | (with_reducible refine bel_alloc ?_ _) | (with_reducible refine bel_drew ?_) | (with_reducible refine below_drewN ?_ _) | (with_reducible refine bel_put ?_ (by first | exact Nat.le_refl _ | (simp; done) | (simp; omega)) _))) hb2
  have La1_2 := La1_1.below hs2 La1_1.size
  clear La1_1 cLa10
  have cLa10 : W2.cell? ⟨w.heap.size, 0, none⟩ = some (.slice a1 len1 cap1) := La1_2.cell 0
  have hB2 := bel_trans hB1 hs2
  have z2 := hs2.size
  clear raw2
  clear hb2
  go_wp2_with fail
  refine (s_NextOf a0 (reach y1_2.intsAt.1 ?hB) (Nat.le_refl _) (by omega)).mono ?_
  case hB => exact (by repeat (first | (with_reducible exact Below.refl _ _) | (with_reducible assumption) | (with_reducible refine bel_alloc ?_ _) | (with_reducible refine bel_drew ?_) | (with_reducible refine below_drewN ?_ _) | (with_reducible refine bel_put ?_ (by first | exact Nat.le_refl _ | (simp; done) | (simp; omega)) _)))
  rintro e W3 ⟨rfl, hb3⟩
  try rw [HR0.out]
  have hs3 : Below W2.heap.size W2 W3 := bel_trans (by repeat (first | (with_reducible exact Below.refl _ _) | (with_reducible assumption) | (with_reducible refine bel_alloc ?_ _) | (with_reducible refine bel_drew ?_) | (with_reducible refine below_drewN ?_ _) | (with_reducible refine bel_put ?_ (by first | exact Nat.le_refl _ | (simp; done) | (simp; omega)) _))) hb3
  have La1_3 := La1_2.below hs3 La1_2.size
  clear La1_2 cLa10
  have cLa10 : W3.cell? ⟨w.heap.size, 0, none⟩ = some (.slice a1 len1 cap1) := La1_3.cell 0
  have hB3 := bel_trans hB2 hs3
  have z3 := hs3.size
  have y1_3 := y1_2.below hs3
  clear y1_2
  clear hb3
  clear y1_3
  go_wp2_with fail
  refine (l_toCell (reach (reach hl1 hB3) ?hB) (by omega)).mono ?_
  case hB => exact (by repeat (first | (with_reducible exact Below.refl _ _) | (with_reducible assumption) | (with_reducible refine bel_alloc ?_ _) | (with_reducible refine bel_drew ?_) | (with_reducible refine below_drewN ?_ _) | (with_reducible refine bel_put ?_ (by first | exact Nat.le_refl _ | (simp; done) | (simp; omega)) _)))
  rintro e W4 ⟨bx1, rfl, raw4, hb4⟩
  have x1_4 := raw4.lower (base' := W3.heap.size) (by first | exact Nat.le_refl _ | (simp; done) | (simp; omega))
  have ub_x1 := fun b hb => x1_4.block (b := b) hb
  have hs4 : Below W3.heap.size W3 W4 := bel_trans (by repeat (first | (with_reducible exact Below.refl _ _) | (with_reducible assumption) | (with_reducible refine bel_alloc ?_ _) | (with_reducible refine bel_drew ?_) | (with_reducible refine below_drewN ?_ _) | (with_reducible refine bel_put ?_ (by first | exact Nat.le_refl _ | (simp; done) | (simp; omega)) _))) hb4
  have La1_4 := La1_3.below hs4 La1_3.size
  clear La1_3 cLa10
  have cLa10 : W4.cell? ⟨w.heap.size, 0, none⟩ = some (.slice a1 len1 cap1) := La1_4.cell 0
  have hB4 := bel_trans hB3 hs4
  have z4 := hs4.size
  clear raw4
  clear hb4
  have dLa10 : (W4.alloc (.cells #[.slice (some ⟨bx1, 0, none⟩) len1 len1] 40)).cell? ⟨w.heap.size, 0, none⟩ = some (.slice a1 len1 cap1) := (La1_4.alloc _).cell 0
  go_wp2_with fail
  refine (i_NextOf a0 (reach x1_4.intsAt.1 ?hB) (Nat.le_refl _) (by omega)).mono ?_
  case hB => exact (by repeat (first | (with_reducible exact Below.refl _ _) | (with_reducible assumption) | (with_reducible refine bel_alloc ?_ _) | (with_reducible refine bel_drew ?_) | (with_reducible refine below_drewN ?_ _) | (with_reducible refine bel_put ?_ (by first | exact Nat.le_refl _ | (simp; done) | (simp; omega)) _)))
  rintro e W5 ⟨rfl, hb5⟩
  clear dLa10
  try rw [HR0.out]
  have hs5 : Below W4.heap.size W4 W5 := bel_trans (by repeat (first | (with_reducible exact Below.refl _ _) | (with_reducible assumption) | (with_reducible refine bel_alloc ?_ _) | (with_reducible refine bel_drew ?_) | (with_reducible refine below_drewN ?_ _) | (with_reducible refine bel_put ?_ (by first | exact Nat.le_refl _ | (simp; done) | (simp; omega)) _))) hb5
  have Lx1_5 : Box W5 W4.heap.size 40 #[.slice (some ⟨bx1, 0, none⟩) len1 len1] := (Box.new _ _ _).below hb5 (by simp)
  have zLx1 := Lx1_5.size
  have La1_5 := La1_4.below hs5 La1_4.size
  clear La1_4 cLa10
  have cLa10 : W5.cell? ⟨w.heap.size, 0, none⟩ = some (.slice a1 len1 cap1) := La1_5.cell 0
  have cLx10 : W5.cell? ⟨W4.heap.size, 0, none⟩ = some (.slice (some ⟨bx1, 0, none⟩) len1 len1) := Lx1_5.cell 0
  have hB5 := bel_trans hB4 hs5
  have z5 := hs5.size
  have x1_5 := x1_4.below hs5
  clear x1_4
  clear hb5
  go_wp2_with fail
  go_region_held3 (fun w' => w'.cell? ⟨W4.heap.size, 0, none⟩ = some (.slice (some ⟨bx1, 0, none⟩) len1 len1) ∧ w'.cell? ⟨w.heap.size, 0, none⟩ = some (.slice a1 len1 cap1)) (first | (exact ⟨cLx10, cLa10⟩) | (exact ⟨cell_bel hs7 cLx10, cell_bel hs7 cLa10⟩) | (exact ⟨cell_bel hs6 cLx10, cell_bel hs6 cLa10⟩) | go_keep)
    (first
      | (go_at_call 18; refine (l_toCell (reach (reach hl1 hB5) (by repeat (first | (with_reducible exact Below.refl _ _) | (with_reducible assumption) | (with_reducible refine bel_alloc ?_ _) | (with_reducible refine bel_drew ?_) | (with_reducible refine below_drewN ?_ _) | (with_reducible refine bel_put ?_ (by first | exact Nat.le_refl _ | (simp; done) | (simp; omega)) _)))) (by omega)).mono ?_; rintro e W6 ⟨by1, rfl, raw6, hb6⟩; have hs6 : Below W5.heap.size W5 W6 := bel_trans (by repeat (first | (with_reducible exact Below.refl _ _) | (with_reducible assumption) | (with_reducible refine bel_alloc ?_ _) | (with_reducible refine bel_drew ?_) | (with_reducible refine below_drewN ?_ _) | (with_reducible refine bel_put ?_ (by first | exact Nat.le_refl _ | (simp; done) | (simp; omega)) _))) hb6)
      | (go_at_call 20; refine (l_eqCell (reach (x1_5.below hs6).intsAt.1 (by repeat (first | (with_reducible exact Below.refl _ _) | (with_reducible assumption) | (with_reducible refine bel_alloc ?_ _) | (with_reducible refine bel_drew ?_) | (with_reducible refine below_drewN ?_ _) | (with_reducible refine bel_put ?_ (by first | exact Nat.le_refl _ | (simp; done) | (simp; omega)) _)))) (reach raw6.intsAt.1 (by repeat (first | (with_reducible exact Below.refl _ _) | (with_reducible assumption) | (with_reducible refine bel_alloc ?_ _) | (with_reducible refine bel_drew ?_) | (with_reducible refine below_drewN ?_ _) | (with_reducible refine bel_put ?_ (by first | exact Nat.le_refl _ | (simp; done) | (simp; omega)) _)))) (by simp only [maxLen]; omega) (by simp only [maxLen]; omega)).mono ?_; rintro e W7 ⟨rfl, hb7⟩; have hs7 : Below W5.heap.size W5 W7 := bel_trans hs6 (bel_trans (by repeat (first | (with_reducible exact Below.refl _ _) | (with_reducible assumption) | (with_reducible refine bel_alloc ?_ _) | (with_reducible refine bel_drew ?_) | (with_reducible refine below_drewN ?_ _) | (with_reducible refine bel_put ?_ (by first | exact Nat.le_refl _ | (simp; done) | (simp; omega)) _))) hb7)))
  clear raw6 hb6 hb7 hs6
  have La1_7 := La1_5.below hs7 La1_5.size
  clear La1_5 cLa10
  have Lx1_7 := Lx1_5.below hs7 Lx1_5.size
  clear Lx1_5 cLx10
  have cLa10 : W7.cell? ⟨w.heap.size, 0, none⟩ = some (.slice a1 len1 cap1) := La1_7.cell 0
  have cLx10 : W7.cell? ⟨W4.heap.size, 0, none⟩ = some (.slice (some ⟨bx1, 0, none⟩) len1 len1) := Lx1_7.cell 0
  have hB7 := bel_trans hB5 hs7
  have z7 := hs7.size
  have x1_7 := x1_5.below hs7
  clear x1_5
  go_wp2_with fail
  go_ret
  exact ⟨rfl, hB7⟩

/-! ### THE ROW's STEP -/
set_option maxHeartbeats 400000 in
set_option maxRecDepth 100000 in
theorem lifted (os : Os) (started : os.Started) (H : Type) (enc : TypeId × Value → H) :
    ReturnsInHanded {} Try.checked os 4 .any (Rows.fnExactNextOfSpec.pre6 enc Try.prog Try.f4 Rows.fnExactNextOfRow.domain false) (Rows.fnExactNextOfSpec.post enc Try.prog Try.f4 false true false false) := by
  refine returnsInHanded_of_change (C := Try.checked) own started (by kernel_rfl) Try.func4
    (ChangeSpec.witness6 (enc := enc) (C := Try.checked) false ⟨#[], #[.int .i64 0, .agg #[.slice none 0 0]], []⟩ 8 (by kernel_rfl) (by kernel_rfl) (by kernel_rfl) (by kernel_rfl)) ?_
  intro W base args ds gs before hval0 hW hcnd _
  have hval : ∀ (j : Nat) t v, Try.f4.params[j]? = some t → args[j]? = some v → Value.okWide Try.prog W .any base t v := hval0
  have hW' := hW
  obtain ⟨p, q, hA0, hV, rfl, hfz, hnd⟩ := hW
  have hA : DataW.TrodAll enc Try.prog W 0 (fun _ => true) true Try.f4.params.toList args.toList ds p := hA0
  rw [Try.params4] at hA hval
  obtain ⟨v0, vs0, d0, ds0, p0, q0, hargs, rfl, rfl, h0, r0⟩ := trodAll_cons hA
  obtain ⟨v1, vs1, d1, ds1, p1, q1, rfl, rfl, rfl, h1, r1⟩ := trodAll_cons r0
  obtain ⟨rfl, rfl, rfl⟩ := trodAll_nil r1
  obtain rfl : args = #[v0, v1] := by cases args; simp_all
  obtain ⟨rfl, rfl⟩ := trodVars_none hV
  obtain ⟨a0, rfl, rfl, rfl, w0⟩ := open_int Try.underlying3 (hval 0 3 v0 rfl rfl) h0
  obtain ⟨cs1, rfl, hsz1⟩ := okWide_struct Try.underlying37 (hval 1 37 v1 rfl rfl)
  have k1 := h1
  have lt1 : ∀ x ∈ p1, x.block < W.heap.size := by obtain ⟨m, hm⟩ := k1; exact DataW.trod_lt m _ _ _ hm
  have one1 : Try.prog.cellsOf 37 = 1 := by kernel_rfl
  have onef1 : Try.prog.cellsOf 22 = 1 := by kernel_rfl
  obtain ⟨c1, rfl⟩ := array_one (hsz1.trans one1)
  obtain ⟨a1, len1, cap1, z1, rfl, w1⟩ : ∃ a n c zs, c1 = .slice a n c ∧ IsRow .u8 W a n c zs := by
    obtain ⟨fuel, hf0⟩ := h1
    obtain ⟨y0, fuel', _, _, hf1⟩ := trod_struct1 Try.underlying37 hf0
    have hf : DataW.trod enc Try.prog W 0 (fun _ => true) true fuel' 22 [c1] = some y0 := by simpa [Value.cells, onef1] using hf1
    rcases open_ints Try.underlying22 Try.underlying5 (by kernel_rfl) hf with ⟨hcs, _⟩ | ⟨x, l, c, zs, hcs, _, hl, hm, hz, _, hcell, hwz⟩
    · simp at hcs
      exact ⟨none, 0, 0, [], hcs, .inl ⟨rfl, rfl, rfl, rfl⟩⟩
    · simp at hcs
      exact ⟨some x, l, c, zs, hcs, .inr ⟨_, rfl, hl, hm, by simpa using hz, hcell, hwz⟩⟩
  clear hA0 hval0
  refine (walk a0 a1 len1 cap1 z1 W w0 w1).mono fun e W' ⟨he, bel⟩ => ?_
  subst he
  exact ⟨_, rfl, _, _, _, [], _, [], hW', trodAll_mk1 (shut_bool Try.underlying4 _), (trodAll_cons_mk (shut_int Try.underlying3 w0) (trodAll_cons_mk (Below.trod laidOut (by kernel_rfl) (of_decide_eq_true (by kernel_rfl)) k1 bel lt1) trodAll_mk0)), rfl, bel.frame _, fun h => by cases h⟩

theorem over : Rows.fnExactNextOfRow.holds Try.pinned (OpenSpec.ofChange Rows.fnExactNextOfSpec) :=
  OpenClaim.holds_of_wide 4 Try.f4 rfl rfl rfl rfl rfl rfl rfl ⟨rfl, rfl, rfl, rfl, rfl⟩ rfl rfl rfl rfl rfl (by kernel_rfl) Try.func4 (by kernel_rfl)
    (of_decide_eq_true (by kernel_rfl)) (by unfold Func.isWrapper; first | (rw [if_pos (by decide +kernel)]; kernel_rfl) | (rw [if_neg (by decide +kernel)]; exact ⟨rfl, rfl⟩))
    (fun os started H enc _ => lifted os started H enc)

theorem proved : Rows.FnExactNextOfSaid := over
#print axioms proved
end Go.Proofs.Ytjehcmmbbjidkaa.fnExactNextOf
