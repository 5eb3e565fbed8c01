/-
  For every argument (slices of at most 2^20 elements) the program's Dummy answers as its model does, writes into no argument, and its answer owns its memory. No further condition.
-/
import Derived.Test.YthpocmnnefldcaaRows
import Derived.WalkKit
import Derived.ProofKit
import Derived.OpenShut
import Derived.ShutString
import Derived.ChangeOld
import Derived.Below
import Derived.Test.YthpocmnnefldcaaSpecThree
import Derived.Test.YthpocmnnefldcaaImplThree
namespace Go.Proofs.Ythpocmnnefldcaa.fnExactDummy
open Go.ChangeShapes Go.WideShapes Go.ChangeAt Go.RowKit
open Go.ChangeMaps (open_string shut_string)
set_option linter.unusedVariables false

open Go.Proofs.Ythpocmnnefldcaa Fld
theorem own : ownKnob Try.prog.godebug = none := by kernel_rfl
theorem laidOut : laidOutB Try.prog = true := by kernel_rfl

/-- WHAT THE WALK IS TOLD OF A SLICE OF INTEGERS THAT CAME IN: it is nil; or it leads to a row of 'cap' cells, the numbers 'zs' (the first 'len' are its elements, the rest its spare room), each fitting its kind. -/
def IsRow (k : IntKind) (w : World) (a : Option Addr) (len cap : Nat) (zs : List Int) : Prop :=
  (a = none ∧ len = 0 ∧ cap = 0 ∧ zs = []) ∨
  ∃ x, a = some x ∧ len ≤ cap ∧ cap ≤ maxLen ∧ zs.length = cap ∧ (∀ i, i < zs.length → w.cell? (x.add i) = some (.int k (zs.getD i 0))) ∧ ∀ n ∈ zs, (Lit.int k n).wf = true

theorem rowInts {k : IntKind} {w : World} {a : Option Addr} {n c : Nat} {zs : List Int} (h : IsRow k w a n c zs) : Ints k w w.heap.size a n (zs.take n) ∧ n ≤ c ∧ c ≤ 9223372036854775807 := by
  rcases h with ⟨rfl, rfl, rfl, rfl⟩ | ⟨x, rfl, hl, hm, hz, hc, hw⟩
  · exact ⟨Ints.nil, Nat.le_refl _, by omega⟩
  · exact ⟨Ints.ofRow (by omega) hc hw, hl, hm⟩

/-! ### STEP 1: THE WALK: the Go text returns true, AND WRITES NOTHING THAT WAS THERE: 'Below w.heap.size w w'' (Derived/Below.lean: '.refl', '.alloc', '.drew', '.setCell' at a new block, '.trans'). Open each 'IsRow' by 'rcases' AHEAD of 'go_enter'; part every test ahead of the walk. -/
set_option maxRecDepth 100000 in
set_option maxHeartbeats 2000000 in
theorem walk (a0 : Option Addr) (len0 cap0 : Nat) (z0 : List Int) (w : World) (w0 : IsRow .u8 w a0 len0 cap0 z0) :
    Calls Try.prog 14 #[.slice a0 len0 cap0] w fun e w' => e = .returned (.bool true) ∧ Below w.heap.size w w' := by
  obtain ⟨hl0, hnc0, hcm0⟩ := rowInts w0
  obtain ⟨l0, hlz0⟩ : ∃ l, z0.take len0 = l := ⟨_, rfl⟩
  rw [hlz0] at hl0
  clear hlz0 w0 z0
  by_cases hbig0 : 1048576 < len0
  · go_enter Try.func14, Try.ntmps14
    go_wp2
    go_ret
    exact ⟨rfl, (by repeat (first | exact Below.refl _ _ | assumption | (refine bel_alloc ?_ _) | (refine bel_drew ?_) | (refine below_drewN ?_ _) | (refine bel_put ?_ (by first | exact Nat.le_refl _ | (simp; done) | (simp; omega)) _)))⟩
  have hn0 : len0 ≤ 1048576 := by omega
  have hll0 : l0.length ≤ 1048576 := by rw [hl0.1]; exact hn0
  clear hbig0
  obtain ⟨r0, hr0⟩ : ∃ r, (fdum l0).1 = r := ⟨_, rfl⟩
  have HR0 := Lib.hid hr0
  have hrl0 : r0.length ≤ 80 := by rw [← hr0]; exact fdum_le _
  have t0 : decide (r0 = r0) = true := by simp
  clear hr0
  obtain ⟨r1, hr1⟩ : ∃ r, (fdum l0).2 = r := ⟨_, rfl⟩
  have HR1 := Lib.hid hr1
  clear hr1
  go_enter Try.func14, Try.ntmps14
  go_wp2_with fail
  refine (l_toByteS' (reach hl0 ?hB) (by omega)).mono ?_
  case hB => exact (by repeat (first | exact Below.refl _ _ | assumption | (refine bel_alloc ?_ _) | (refine bel_drew ?_) | (refine below_drewN ?_ _) | (refine bel_put ?_ (by first | exact Nat.le_refl _ | (simp; done) | (simp; omega)) _)))
  rintro e W1 ⟨by0, rfl, raw1, hb1⟩
  have y0_1 := raw1.lower (base' := w.heap.size) (by first | exact Nat.le_refl _ | (simp; done) | (simp; omega))
  have ub_y0 := fun b hb => y0_1.block (b := b) hb
  have hs1 : Below w.heap.size w W1 := bel_trans (by repeat (first | exact Below.refl _ _ | assumption | (refine bel_alloc ?_ _) | (refine bel_drew ?_) | (refine below_drewN ?_ _) | (refine bel_put ?_ (by first | exact Nat.le_refl _ | (simp; done) | (simp; omega)) _))) hb1
  have hB1 : Below w.heap.size w W1 := hs1
  have z1 := hs1.size
  clear raw1
  clear hb1
  go_wp2_with fail
  refine (s_Dummy (reach y0_1.intsAt.1 ?hB) (by omega)).mono ?_
  case hB => exact (by repeat (first | exact Below.refl _ _ | assumption | (refine bel_alloc ?_ _) | (refine bel_drew ?_) | (refine below_drewN ?_ _) | (refine bel_put ?_ (by first | exact Nat.le_refl _ | (simp; done) | (simp; omega)) _)))
  rintro e W2 ⟨sv0, rfl, raw20, hb2⟩
  rw [HR0.out] at raw20
  obtain ⟨sA0, sc0, rfl, _⟩ := raw20.ints
  try rw [HR1.out]
  have s0_2 := raw20.lower (base' := W1.heap.size) (by first | exact Nat.le_refl _ | (simp; done) | (simp; omega))
  have ub_s0 := fun b hb => s0_2.block (b := b) hb
  have ap_s0_y0 := s0_2.apart y0_1 (by first | exact Nat.le_refl _ | exact Nat.le_succ _)
  have hs2 : Below W1.heap.size W1 W2 := bel_trans (by repeat (first | exact Below.refl _ _ | assumption | (refine bel_alloc ?_ _) | (refine bel_drew ?_) | (refine below_drewN ?_ _) | (refine bel_put ?_ (by first | exact Nat.le_refl _ | (simp; done) | (simp; omega)) _))) hb2
  have hB2 := bel_trans hB1 hs2
  have z2 := hs2.size
  have y0_2 := y0_1.below hs2
  clear y0_1
  clear raw20
  clear hb2
  clear y0_2
  go_wp2_with fail
  refine (l_toByteS' (reach (reach hl0 hB2) ?hB) (by omega)).mono ?_
  case hB => exact (by repeat (first | exact Below.refl _ _ | assumption | (refine bel_alloc ?_ _) | (refine bel_drew ?_) | (refine below_drewN ?_ _) | (refine bel_put ?_ (by first | exact Nat.le_refl _ | (simp; done) | (simp; omega)) _)))
  rintro e W3 ⟨bx0, rfl, raw3, hb3⟩
  have x0_3 := raw3.lower (base' := W2.heap.size + 1) (by first | exact Nat.le_refl _ | (simp; done) | (simp; omega))
  have ub_x0 := fun b hb => x0_3.block (b := b) hb
  have ap_x0_s0 := x0_3.apart s0_2 (by first | exact Nat.le_refl _ | exact Nat.le_succ _)
  have hs3 : Below W2.heap.size W2 W3 := bel_trans (by repeat (first | exact Below.refl _ _ | assumption | (refine bel_alloc ?_ _) | (refine bel_drew ?_) | (refine below_drewN ?_ _) | (refine bel_put ?_ (by first | exact Nat.le_refl _ | (simp; done) | (simp; omega)) _))) hb3
  have Ls0_3 : Box W3 W2.heap.size 30 #[.slice sA0 r0.length sc0] := (Box.new _ _ _).below hb3 (by simp)
  have zLs0 := Ls0_3.size
  have cLs00 : W3.cell? ⟨W2.heap.size, 0, none⟩ = some (.slice sA0 r0.length sc0) := Ls0_3.cell 0
  have hB3 := bel_trans hB2 hs3
  have z3 := hs3.size
  have s0_3 := s0_2.below hs3
  clear s0_2
  clear raw3
  clear hb3
  go_wp2_with fail
  refine (i_Dummy (reach x0_3.intsAt.1 ?hB) (Nat.le_refl _) (by omega)).mono ?_
  case hB => exact (by repeat (first | exact Below.refl _ _ | assumption | (refine bel_alloc ?_ _) | (refine bel_drew ?_) | (refine below_drewN ?_ _) | (refine bel_put ?_ (by first | exact Nat.le_refl _ | (simp; done) | (simp; omega)) _)))
  rintro e W4 ⟨gv0, rfl, raw40, hb4⟩
  rw [HR0.out] at raw40
  obtain ⟨gA0, gc0, rfl, _⟩ := raw40.ints
  try rw [HR1.out]
  have g0_4 := raw40.lower (base' := W3.heap.size) (by first | exact Nat.le_refl _ | (simp; done) | (simp; omega))
  have ub_g0 := fun b hb => g0_4.block (b := b) hb
  have ap_g0_s0 := g0_4.apart s0_3 (by first | exact Nat.le_refl _ | exact Nat.le_succ _)
  have ap_g0_x0 := g0_4.apart x0_3 (by first | exact Nat.le_refl _ | exact Nat.le_succ _)
  have hs4 : Below W3.heap.size W3 W4 := bel_trans (by repeat (first | exact Below.refl _ _ | assumption | (refine bel_alloc ?_ _) | (refine bel_drew ?_) | (refine below_drewN ?_ _) | (refine bel_put ?_ (by first | exact Nat.le_refl _ | (simp; done) | (simp; omega)) _))) hb4
  have Ls0_4 := Ls0_3.below hs4 Ls0_3.size
  clear Ls0_3 cLs00
  have cLs00 : W4.cell? ⟨W2.heap.size, 0, none⟩ = some (.slice sA0 r0.length sc0) := Ls0_4.cell 0
  have hB4 := bel_trans hB3 hs4
  have z4 := hs4.size
  have s0_4 := s0_3.below hs4
  clear s0_3
  have x0_4 := x0_3.below hs4
  clear x0_3
  clear raw40
  clear hb4
  have dLs00 : (W4.alloc (.cells #[.slice gA0 r0.length gc0] 30)).cell? ⟨W2.heap.size, 0, none⟩ = some (.slice sA0 r0.length sc0) := (Ls0_4.alloc _).cell 0
  go_wp2_with fail
  refine (l_eqCell (reach g0_4.intsAt.1 ?hB) (reach s0_4.intsAt.1 ?hB) (by simp only [maxLen]; omega) (by simp only [maxLen]; omega)).mono ?_
  case hB => exact (by repeat (first | exact Below.refl _ _ | assumption | (refine bel_alloc ?_ _) | (refine bel_drew ?_) | (refine below_drewN ?_ _) | (refine bel_put ?_ (by first | exact Nat.le_refl _ | (simp; done) | (simp; omega)) _)))
  rintro e W5 ⟨rfl, hb5⟩
  clear dLs00
  have hs5 : Below W4.heap.size W4 W5 := bel_trans (by repeat (first | exact Below.refl _ _ | assumption | (refine bel_alloc ?_ _) | (refine bel_drew ?_) | (refine below_drewN ?_ _) | (refine bel_put ?_ (by first | exact Nat.le_refl _ | (simp; done) | (simp; omega)) _))) hb5
  have Lg0_5 : Box W5 W4.heap.size 30 #[.slice gA0 r0.length gc0] := (Box.new _ _ _).below hb5 (by simp)
  have zLg0 := Lg0_5.size
  have Ls0_5 := Ls0_4.below hs5 Ls0_4.size
  clear Ls0_4 cLs00
  have cLs00 : W5.cell? ⟨W2.heap.size, 0, none⟩ = some (.slice sA0 r0.length sc0) := Ls0_5.cell 0
  have cLg00 : W5.cell? ⟨W4.heap.size, 0, none⟩ = some (.slice gA0 r0.length gc0) := Lg0_5.cell 0
  have hB5 := bel_trans hB4 hs5
  have z5 := hs5.size
  have s0_5 := s0_4.below hs5
  clear s0_4
  have x0_5 := x0_4.below hs5
  clear x0_4
  have g0_5 := g0_4.below hs5
  clear g0_4
  clear hb5
  go_wp2_with fail
  refine (l_toByteS' (reach (reach hl0 hB5) ?hB) (by omega)).mono ?_
  case hB => exact (by repeat (first | exact Below.refl _ _ | assumption | (refine bel_alloc ?_ _) | (refine bel_drew ?_) | (refine below_drewN ?_ _) | (refine bel_put ?_ (by first | exact Nat.le_refl _ | (simp; done) | (simp; omega)) _)))
  rintro e W6 ⟨by0, rfl, raw6, hb6⟩
  have y0_6 := raw6.lower (base' := W5.heap.size) (by first | exact Nat.le_refl _ | (simp; done) | (simp; omega))
  have ub_y0 := fun b hb => y0_6.block (b := b) hb
  have ap_y0_s0 := y0_6.apart s0_5 (by first | exact Nat.le_refl _ | exact Nat.le_succ _)
  have ap_y0_x0 := y0_6.apart x0_5 (by first | exact Nat.le_refl _ | exact Nat.le_succ _)
  have ap_y0_g0 := y0_6.apart g0_5 (by first | exact Nat.le_refl _ | exact Nat.le_succ _)
  have hs6 : Below W5.heap.size W5 W6 := bel_trans (by repeat (first | exact Below.refl _ _ | assumption | (refine bel_alloc ?_ _) | (refine bel_drew ?_) | (refine below_drewN ?_ _) | (refine bel_put ?_ (by first | exact Nat.le_refl _ | (simp; done) | (simp; omega)) _))) hb6
  have Ls0_6 := Ls0_5.below hs6 Ls0_5.size
  clear Ls0_5 cLs00
  have Lg0_6 := Lg0_5.below hs6 Lg0_5.size
  clear Lg0_5 cLg00
  have cLs00 : W6.cell? ⟨W2.heap.size, 0, none⟩ = some (.slice sA0 r0.length sc0) := Ls0_6.cell 0
  have cLg00 : W6.cell? ⟨W4.heap.size, 0, none⟩ = some (.slice gA0 r0.length gc0) := Lg0_6.cell 0
  have hB6 := bel_trans hB5 hs6
  have z6 := hs6.size
  have s0_6 := s0_5.below hs6
  clear s0_5
  have x0_6 := x0_5.below hs6
  clear x0_5
  have g0_6 := g0_5.below hs6
  clear g0_5
  clear raw6
  clear hb6
  go_wp2_with fail
  refine (l_eqByteS (reach x0_6.intsAt.1 ?hB) (reach y0_6.intsAt.1 ?hB) (by simp only [maxLen]; omega) (by simp only [maxLen]; omega)).mono ?_
  case hB => exact (by repeat (first | exact Below.refl _ _ | assumption | (refine bel_alloc ?_ _) | (refine bel_drew ?_) | (refine below_drewN ?_ _) | (refine bel_put ?_ (by first | exact Nat.le_refl _ | (simp; done) | (simp; omega)) _)))
  rintro e W7 ⟨rfl, hb7⟩
  have hs7 : Below W6.heap.size W6 W7 := bel_trans (by repeat (first | exact Below.refl _ _ | assumption | (refine bel_alloc ?_ _) | (refine bel_drew ?_) | (refine below_drewN ?_ _) | (refine bel_put ?_ (by first | exact Nat.le_refl _ | (simp; done) | (simp; omega)) _))) hb7
  have Ls0_7 := Ls0_6.below hs7 Ls0_6.size
  clear Ls0_6 cLs00
  have Lg0_7 := Lg0_6.below hs7 Lg0_6.size
  clear Lg0_6 cLg00
  have cLs00 : W7.cell? ⟨W2.heap.size, 0, none⟩ = some (.slice sA0 r0.length sc0) := Ls0_7.cell 0
  have cLg00 : W7.cell? ⟨W4.heap.size, 0, none⟩ = some (.slice gA0 r0.length gc0) := Lg0_7.cell 0
  have hB7 := bel_trans hB6 hs7
  have z7 := hs7.size
  have s0_7 := s0_6.below hs7
  clear s0_6
  have x0_7 := x0_6.below hs7
  clear x0_6
  have g0_7 := g0_6.below hs7
  clear g0_6
  have y0_7 := y0_6.below hs7
  clear y0_6
  clear hb7
  clear y0_7
  go_wp2_with fail
  refine (l_markByteS 1 x0_7 (by omega) (by omega)).mono ?_
  rintro e W8 ⟨rfl, x0_8, hg8⟩
  have hB8 : Below w.heap.size w W8 := below_mark hB7 x0_7 hg8 (by omega)
  have Ls0_8 := Ls0_7.grown hg8 (fun e => by have := ub_x0 _ e.symm; omega)
  clear Ls0_7 cLs00
  have Lg0_8 := Lg0_7.grown hg8 (fun e => by have := ub_x0 _ e.symm; omega)
  clear Lg0_7 cLg00
  have cLs00 : W8.cell? ⟨W2.heap.size, 0, none⟩ = some (.slice sA0 r0.length sc0) := Ls0_8.cell 0
  have cLg00 : W8.cell? ⟨W4.heap.size, 0, none⟩ = some (.slice gA0 r0.length gc0) := Lg0_8.cell 0
  have z8 := hg8.size
  have s0_8 := s0_7.kept hg8 (by first | exact ap_s0_x0 | exact apart_symm ap_x0_s0)
  clear s0_7
  have g0_8 := g0_7.kept hg8 (by first | exact ap_g0_x0 | exact apart_symm ap_x0_g0)
  clear g0_7
  clear x0_7
  clear x0_8
  go_wp2_with fail
  refine (l_eqCell (reach g0_8.intsAt.1 ?hB) (reach s0_8.intsAt.1 ?hB) (by simp only [maxLen]; omega) (by simp only [maxLen]; omega)).mono ?_
  case hB => exact (by repeat (first | exact Below.refl _ _ | assumption | (refine bel_alloc ?_ _) | (refine bel_drew ?_) | (refine below_drewN ?_ _) | (refine bel_put ?_ (by first | exact Nat.le_refl _ | (simp; done) | (simp; omega)) _)))
  rintro e W9 ⟨rfl, hb9⟩
  have hs9 : Below W8.heap.size W8 W9 := bel_trans (by repeat (first | exact Below.refl _ _ | assumption | (refine bel_alloc ?_ _) | (refine bel_drew ?_) | (refine below_drewN ?_ _) | (refine bel_put ?_ (by first | exact Nat.le_refl _ | (simp; done) | (simp; omega)) _))) hb9
  have Ls0_9 := Ls0_8.below hs9 Ls0_8.size
  clear Ls0_8 cLs00
  have Lg0_9 := Lg0_8.below hs9 Lg0_8.size
  clear Lg0_8 cLg00
  have cLs00 : W9.cell? ⟨W2.heap.size, 0, none⟩ = some (.slice sA0 r0.length sc0) := Ls0_9.cell 0
  have cLg00 : W9.cell? ⟨W4.heap.size, 0, none⟩ = some (.slice gA0 r0.length gc0) := Lg0_9.cell 0
  have hB9 := bel_trans hB8 hs9
  have z9 := hs9.size
  have s0_9 := s0_8.below hs9
  clear s0_8
  have g0_9 := g0_8.below hs9
  clear g0_8
  clear hb9
  go_wp2_with fail
  refine (l_markCell 1 g0_9 (by omega) (by omega)).mono ?_
  rintro e W10 ⟨rfl, g0_10, hg10⟩
  have hB10 : Below w.heap.size w W10 := below_mark hB9 g0_9 hg10 (by omega)
  have Ls0_10 := Ls0_9.grown hg10 (fun e => by have := ub_g0 _ e.symm; omega)
  clear Ls0_9 cLs00
  have Lg0_10 := Lg0_9.grown hg10 (fun e => by have := ub_g0 _ e.symm; omega)
  clear Lg0_9 cLg00
  have cLs00 : W10.cell? ⟨W2.heap.size, 0, none⟩ = some (.slice sA0 r0.length sc0) := Ls0_10.cell 0
  have cLg00 : W10.cell? ⟨W4.heap.size, 0, none⟩ = some (.slice gA0 r0.length gc0) := Lg0_10.cell 0
  have z10 := hg10.size
  have s0_10 := s0_9.kept hg10 (by first | exact ap_s0_g0 | exact apart_symm ap_g0_s0)
  clear s0_9
  clear g0_9
  go_wp2_with fail
  refine (l_heldCell 1 (reach g0_10.intsAt.1 ?hB) (by omega) (by omega)).mono ?_
  case hB => exact (by repeat (first | exact Below.refl _ _ | assumption | (refine bel_alloc ?_ _) | (refine bel_drew ?_) | (refine below_drewN ?_ _) | (refine bel_put ?_ (by first | exact Nat.le_refl _ | (simp; done) | (simp; omega)) _)))
  rintro e W11 ⟨rfl, hb11⟩
  have hs11 : Below W10.heap.size W10 W11 := bel_trans (by repeat (first | exact Below.refl _ _ | assumption | (refine bel_alloc ?_ _) | (refine bel_drew ?_) | (refine below_drewN ?_ _) | (refine bel_put ?_ (by first | exact Nat.le_refl _ | (simp; done) | (simp; omega)) _))) hb11
  have Ls0_11 := Ls0_10.below hs11 Ls0_10.size
  clear Ls0_10 cLs00
  have Lg0_11 := Lg0_10.below hs11 Lg0_10.size
  clear Lg0_10 cLg00
  have cLs00 : W11.cell? ⟨W2.heap.size, 0, none⟩ = some (.slice sA0 r0.length sc0) := Ls0_11.cell 0
  have cLg00 : W11.cell? ⟨W4.heap.size, 0, none⟩ = some (.slice gA0 r0.length gc0) := Lg0_11.cell 0
  have hB11 := bel_trans hB10 hs11
  have z11 := hs11.size
  have s0_11 := s0_10.below hs11
  clear s0_10
  have g0_11 := g0_10.below hs11
  clear g0_10
  clear hb11
  go_wp2_with fail
  refine (l_toByteS' (reach (reach hl0 hB11) ?hB) (by omega)).mono ?_
  case hB => exact (by repeat (first | exact Below.refl _ _ | assumption | (refine bel_alloc ?_ _) | (refine bel_drew ?_) | (refine below_drewN ?_ _) | (refine bel_put ?_ (by first | exact Nat.le_refl _ | (simp; done) | (simp; omega)) _)))
  rintro e W12 ⟨by0, rfl, raw12, hb12⟩
  have y0_12 := raw12.lower (base' := W11.heap.size) (by first | exact Nat.le_refl _ | (simp; done) | (simp; omega))
  have ub_y0 := fun b hb => y0_12.block (b := b) hb
  have ap_y0_s0 := y0_12.apart s0_11 (by first | exact Nat.le_refl _ | exact Nat.le_succ _)
  have ap_y0_g0 := y0_12.apart g0_11 (by first | exact Nat.le_refl _ | exact Nat.le_succ _)
  have hs12 : Below W11.heap.size W11 W12 := bel_trans (by repeat (first | exact Below.refl _ _ | assumption | (refine bel_alloc ?_ _) | (refine bel_drew ?_) | (refine below_drewN ?_ _) | (refine bel_put ?_ (by first | exact Nat.le_refl _ | (simp; done) | (simp; omega)) _))) hb12
  have Ls0_12 := Ls0_11.below hs12 Ls0_11.size
  clear Ls0_11 cLs00
  have Lg0_12 := Lg0_11.below hs12 Lg0_11.size
  clear Lg0_11 cLg00
  have cLs00 : W12.cell? ⟨W2.heap.size, 0, none⟩ = some (.slice sA0 r0.length sc0) := Ls0_12.cell 0
  have cLg00 : W12.cell? ⟨W4.heap.size, 0, none⟩ = some (.slice gA0 r0.length gc0) := Lg0_12.cell 0
  have hB12 := bel_trans hB11 hs12
  have z12 := hs12.size
  have s0_12 := s0_11.below hs12
  clear s0_11
  have g0_12 := g0_11.below hs12
  clear g0_11
  clear raw12
  clear hb12
  go_wp2_with fail
  refine (i_Dummy (reach y0_12.intsAt.1 ?hB) (Nat.le_refl _) (by omega)).mono ?_
  case hB => exact (by repeat (first | exact Below.refl _ _ | assumption | (refine bel_alloc ?_ _) | (refine bel_drew ?_) | (refine below_drewN ?_ _) | (refine bel_put ?_ (by first | exact Nat.le_refl _ | (simp; done) | (simp; omega)) _)))
  rintro e W13 ⟨hv0, rfl, raw130, hb13⟩
  rw [HR0.out] at raw130
  obtain ⟨hA0, hc0, rfl, _⟩ := raw130.ints
  try rw [HR1.out]
  have h0_13 := raw130.lower (base' := W12.heap.size) (by first | exact Nat.le_refl _ | (simp; done) | (simp; omega))
  have ub_h0 := fun b hb => h0_13.block (b := b) hb
  have ap_h0_s0 := h0_13.apart s0_12 (by first | exact Nat.le_refl _ | exact Nat.le_succ _)
  have ap_h0_g0 := h0_13.apart g0_12 (by first | exact Nat.le_refl _ | exact Nat.le_succ _)
  have ap_h0_y0 := h0_13.apart y0_12 (by first | exact Nat.le_refl _ | exact Nat.le_succ _)
  have hs13 : Below W12.heap.size W12 W13 := bel_trans (by repeat (first | exact Below.refl _ _ | assumption | (refine bel_alloc ?_ _) | (refine bel_drew ?_) | (refine below_drewN ?_ _) | (refine bel_put ?_ (by first | exact Nat.le_refl _ | (simp; done) | (simp; omega)) _))) hb13
  have Ls0_13 := Ls0_12.below hs13 Ls0_12.size
  clear Ls0_12 cLs00
  have Lg0_13 := Lg0_12.below hs13 Lg0_12.size
  clear Lg0_12 cLg00
  have cLs00 : W13.cell? ⟨W2.heap.size, 0, none⟩ = some (.slice sA0 r0.length sc0) := Ls0_13.cell 0
  have cLg00 : W13.cell? ⟨W4.heap.size, 0, none⟩ = some (.slice gA0 r0.length gc0) := Lg0_13.cell 0
  have hB13 := bel_trans hB12 hs13
  have z13 := hs13.size
  have s0_13 := s0_12.below hs13
  clear s0_12
  have g0_13 := g0_12.below hs13
  clear g0_12
  have y0_13 := y0_12.below hs13
  clear y0_12
  clear raw130
  clear hb13
  clear y0_13
  have dLs00 : (W13.alloc (.cells #[.slice hA0 r0.length hc0] 30)).cell? ⟨W2.heap.size, 0, none⟩ = some (.slice sA0 r0.length sc0) := (Ls0_13.alloc _).cell 0
  have dLg00 : (W13.alloc (.cells #[.slice hA0 r0.length hc0] 30)).cell? ⟨W4.heap.size, 0, none⟩ = some (.slice gA0 r0.length gc0) := (Lg0_13.alloc _).cell 0
  go_wp2_with fail
  refine (l_eqCell (reach h0_13.intsAt.1 ?hB) (reach s0_13.intsAt.1 ?hB) (by simp only [maxLen]; omega) (by simp only [maxLen]; omega)).mono ?_
  case hB => exact (by repeat (first | exact Below.refl _ _ | assumption | (refine bel_alloc ?_ _) | (refine bel_drew ?_) | (refine below_drewN ?_ _) | (refine bel_put ?_ (by first | exact Nat.le_refl _ | (simp; done) | (simp; omega)) _)))
  rintro e W14 ⟨rfl, hb14⟩
  clear dLs00 dLg00
  have hs14 : Below W13.heap.size W13 W14 := bel_trans (by repeat (first | exact Below.refl _ _ | assumption | (refine bel_alloc ?_ _) | (refine bel_drew ?_) | (refine below_drewN ?_ _) | (refine bel_put ?_ (by first | exact Nat.le_refl _ | (simp; done) | (simp; omega)) _))) hb14
  have Lh0_14 : Box W14 W13.heap.size 30 #[.slice hA0 r0.length hc0] := (Box.new _ _ _).below hb14 (by simp)
  have zLh0 := Lh0_14.size
  have Ls0_14 := Ls0_13.below hs14 Ls0_13.size
  clear Ls0_13 cLs00
  have Lg0_14 := Lg0_13.below hs14 Lg0_13.size
  clear Lg0_13 cLg00
  have cLs00 : W14.cell? ⟨W2.heap.size, 0, none⟩ = some (.slice sA0 r0.length sc0) := Ls0_14.cell 0
  have cLg00 : W14.cell? ⟨W4.heap.size, 0, none⟩ = some (.slice gA0 r0.length gc0) := Lg0_14.cell 0
  have cLh00 : W14.cell? ⟨W13.heap.size, 0, none⟩ = some (.slice hA0 r0.length hc0) := Lh0_14.cell 0
  have hB14 := bel_trans hB13 hs14
  have z14 := hs14.size
  have s0_14 := s0_13.below hs14
  clear s0_13
  have g0_14 := g0_13.below hs14
  clear g0_13
  have h0_14 := h0_13.below hs14
  clear h0_13
  clear hb14
  go_wp2_with fail
  refine (l_heldCell 1 (reach g0_14.intsAt.1 ?hB) (by omega) (by omega)).mono ?_
  case hB => exact (by repeat (first | exact Below.refl _ _ | assumption | (refine bel_alloc ?_ _) | (refine bel_drew ?_) | (refine below_drewN ?_ _) | (refine bel_put ?_ (by first | exact Nat.le_refl _ | (simp; done) | (simp; omega)) _)))
  rintro e W15 ⟨rfl, hb15⟩
  have hs15 : Below W14.heap.size W14 W15 := bel_trans (by repeat (first | exact Below.refl _ _ | assumption | (refine bel_alloc ?_ _) | (refine bel_drew ?_) | (refine below_drewN ?_ _) | (refine bel_put ?_ (by first | exact Nat.le_refl _ | (simp; done) | (simp; omega)) _))) hb15
  have Ls0_15 := Ls0_14.below hs15 Ls0_14.size
  clear Ls0_14 cLs00
  have Lg0_15 := Lg0_14.below hs15 Lg0_14.size
  clear Lg0_14 cLg00
  have Lh0_15 := Lh0_14.below hs15 Lh0_14.size
  clear Lh0_14 cLh00
  have cLs00 : W15.cell? ⟨W2.heap.size, 0, none⟩ = some (.slice sA0 r0.length sc0) := Ls0_15.cell 0
  have cLg00 : W15.cell? ⟨W4.heap.size, 0, none⟩ = some (.slice gA0 r0.length gc0) := Lg0_15.cell 0
  have cLh00 : W15.cell? ⟨W13.heap.size, 0, none⟩ = some (.slice hA0 r0.length hc0) := Lh0_15.cell 0
  have hB15 := bel_trans hB14 hs15
  have z15 := hs15.size
  have s0_15 := s0_14.below hs15
  clear s0_14
  have g0_15 := g0_14.below hs15
  clear g0_14
  have h0_15 := h0_14.below hs15
  clear h0_14
  clear hb15
  go_wp2_with fail
  go_ret
  exact ⟨rfl, hB15⟩

/-! ### THE ROW's STEP: WRITTEN OUT: LEAVE IT -/
set_option maxRecDepth 100000 in
theorem lifted (os : Os) (started : os.Started) (H : Type) (enc : TypeId × Value → H) :
    ReturnsInHanded {} Try.checked os 14 .any (Rows.fnExactDummySpec.pre6 enc Try.prog Try.f14 Rows.fnExactDummyRow.domain false) (Rows.fnExactDummySpec.post enc Try.prog Try.f14 false true false false) := by
  refine returnsInHanded_of_change (C := Try.checked) own started (by kernel_rfl) Try.func14
    (ChangeSpec.witness6 (enc := enc) (C := Try.checked) false ⟨#[], #[.slice none 0 0], []⟩ 8 (by kernel_rfl) (by kernel_rfl) (by kernel_rfl) (by kernel_rfl)) ?_
  intro W base args ds gs before hval0 hW hcnd _
  have hval : ∀ (j : Nat) t v, Try.f14.params[j]? = some t → args[j]? = some v → Value.okWide Try.prog W .any base t v := hval0
  have hW' := hW
  obtain ⟨p, q, hA0, hV, rfl, hfz, hnd⟩ := hW
  have hA : DataW.TrodAll enc Try.prog W 0 (fun _ => true) true Try.f14.params.toList args.toList ds p := hA0
  rw [Try.params14] at hA hval
  obtain ⟨v0, vs0, d0, ds0, p0, q0, hargs, rfl, rfl, h0, r0⟩ := trodAll_cons hA
  obtain ⟨rfl, rfl, rfl⟩ := trodAll_nil r0
  obtain rfl : args = #[v0] := by cases args; simp_all
  obtain ⟨rfl, rfl⟩ := trodVars_none hV
  obtain ⟨a0, len0, cap0, rfl⟩ := okWide_slice Try.underlying22 (hval 0 22 v0 rfl rfl)
  have k0 := h0
  have lt0 : ∀ x ∈ p0, x.block < W.heap.size := by obtain ⟨m, hm⟩ := k0; exact DataW.trod_lt m _ _ _ hm
  obtain ⟨z0, w0⟩ : ∃ zs, IsRow .u8 W a0 len0 cap0 zs := by
    obtain ⟨fuel, hf⟩ := h0
    rcases open_ints Try.underlying22 Try.underlying5 (by kernel_rfl) hf with ⟨hcs, _⟩ | ⟨x, l, c, zs, hcs, _, hl, hm, hz, _, hcell, hwz⟩
    · simp [Value.cells] at hcs
      obtain ⟨rfl, rfl, rfl⟩ := hcs
      exact ⟨[], .inl ⟨rfl, rfl, rfl, rfl⟩⟩
    · simp [Value.cells] at hcs
      obtain ⟨rfl, rfl, rfl⟩ := hcs
      exact ⟨zs, .inr ⟨_, rfl, hl, hm, by simpa using hz, hcell, hwz⟩⟩
  clear hA0 hval0
  refine (walk a0 len0 cap0 z0 W w0).mono fun e W' ⟨he, bel⟩ => ?_
  subst he
  exact ⟨_, rfl, _, _, _, [], _, [], hW', trodAll_mk1 (shut_bool Try.underlying4 _), (trodAll_cons_mk (Below.trod laidOut (by kernel_rfl) (of_decide_eq_true (by kernel_rfl)) k0 bel lt0) trodAll_mk0), rfl, bel.frame _, fun h => by cases h⟩

theorem over : Rows.fnExactDummyRow.holds Try.pinned (OpenSpec.ofChange Rows.fnExactDummySpec) :=
  OpenClaim.holds_of_wide 14 Try.f14 rfl rfl rfl rfl rfl rfl rfl ⟨rfl, rfl, rfl, rfl, rfl⟩ rfl rfl rfl rfl rfl (by kernel_rfl) Try.func14 (by kernel_rfl)
    (of_decide_eq_true (by kernel_rfl)) (by unfold Func.isWrapper; first | (rw [if_pos (by decide +kernel)]; kernel_rfl) | (rw [if_neg (by decide +kernel)]; exact ⟨rfl, rfl⟩))
    (fun os started H enc _ => lifted os started H enc)

/-- ████ THE STATEMENT ████ -/
theorem proved : Rows.FnExactDummySaid := over
#print axioms proved
end Go.Proofs.Ythpocmnnefldcaa.fnExactDummy
