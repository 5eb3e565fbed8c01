/-
  For every argument (slices of at most 2^20 elements) the program's CanPeel answers as its model does, writes into no argument, and its answer owns its memory. No further condition.
-/
import Derived.Test.YtjehcmmbbjidkaaRows
import Derived.WalkKit
import Derived.ProofKit
import Derived.OpenShut
import Derived.ShutString
import Derived.ChangeOld
import Derived.Below
import Derived.Test.YtjehcmmbbjidkaaCan
namespace Go.Proofs.Ytjehcmmbbjidkaa.fnExactCanPeel
open Go.ChangeShapes Go.WideShapes Go.ChangeAt Go.RowKit
open Go.ChangeMaps (open_string shut_string)
set_option linter.unusedVariables false

open Go.Proofs.Ytjehcmmbbjidkaa Fld
theorem own : ownKnob Try.prog.godebug = none := by kernel_rfl
theorem laidOut : laidOutB Try.prog = true := by kernel_rfl

/-- What the walk is told of a slice of integers that came in. -/
def IsRow (k : IntKind) (w : World) (a : Option Addr) (len cap : Nat) (zs : List Int) : Prop :=
  (a = none ∧ len = 0 ∧ cap = 0 ∧ zs = []) ∨
  ∃ x, a = some x ∧ len ≤ cap ∧ cap ≤ maxLen ∧ zs.length = cap ∧ (∀ i, i < zs.length → w.cell? (x.add i) = some (.int k (zs.getD i 0))) ∧ ∀ n ∈ zs, (Lit.int k n).wf = true

theorem array_one {cs : Array Value} (h : cs.size = 1) : ∃ c, cs = #[c] := by
  obtain ⟨l⟩ := cs
  match l, h with
  | [c], _ => exact ⟨c, rfl⟩
theorem rowInts {k : IntKind} {w : World} {a : Option Addr} {n c : Nat} {zs : List Int} (h : IsRow k w a n c zs) : Ints k w w.heap.size a n (zs.take n) ∧ n ≤ c ∧ c ≤ 9223372036854775807 := by
  rcases h with ⟨rfl, rfl, rfl, rfl⟩ | ⟨x, rfl, hl, hm, hz, hc, hw⟩
  · exact ⟨Ints.nil, Nat.le_refl _, by omega⟩
  · exact ⟨Ints.ofRow (by omega) hc hw, hl, hm⟩

/-! ### STEP 1: the walk -/
set_option maxRecDepth 100000 in
set_option maxHeartbeats 2000000 in
theorem walk (a0 : Option Addr) (len0 cap0 : Nat) (z0 : List Int) (a1 : Option Addr) (len1 cap1 : Nat) (z1 : List Int) (w : World) (w0 : IsRow .i64 w a0 len0 cap0 z0) (w1 : IsRow .u8 w a1 len1 cap1 z1) :
    Calls Try.prog 5 #[.slice a0 len0 cap0, .agg #[.slice a1 len1 cap1]] w fun e w' => e = .returned (.bool true) ∧ Below w.heap.size w w' := by
  obtain ⟨hl0, hnc0, hcm0⟩ := rowInts w0
  obtain ⟨l0, hlz0⟩ : ∃ l, z0.take len0 = l := ⟨_, rfl⟩
  rw [hlz0] at hl0
  clear hlz0 w0 z0
  obtain ⟨hl1, hnc1, hcm1⟩ := rowInts w1
  obtain ⟨l1, hlz1⟩ : ∃ l, z1.take len1 = l := ⟨_, rfl⟩
  rw [hlz1] at hl1
  clear hlz1 w1 z1
  by_cases hbig0 : 1048576 < len0
  · go_enter Try.func5, Try.ntmps5
    go_wp2
    go_ret
    exact ⟨rfl, (by repeat (first | (with_reducible exact Below.refl _ _) | (with_reducible assumption) | (with_reducible refine bel_alloc ?_ _) | (with_reducible refine bel_drew ?_) | (with_reducible refine below_drewN ?_ _) | (with_reducible refine bel_put ?_ (by first | exact Nat.le_refl _ | (simp; done) | (simp; omega)) _)))⟩
  have hn0 : len0 ≤ 1048576 := by omega
  have hll0 : l0.length ≤ 1048576 := by rw [hl0.1]; exact hn0
  clear hbig0
  by_cases hbig1 : 1048576 < len1
  · go_enter Try.func5, Try.ntmps5
    go_wp2_with fail
    refine (l_szCell_f _ _ _ _ _ (by omega) (by omega) (by omega) (by omega)).mono ?_
    rintro e w1 ⟨rfl, hBz⟩
    go_wp2
    go_ret
    exact ⟨rfl, bel_trans (by repeat (first | (with_reducible exact Below.refl _ _) | (with_reducible assumption) | (with_reducible refine bel_alloc ?_ _) | (with_reducible refine bel_drew ?_) | (with_reducible refine below_drewN ?_ _) | (with_reducible refine bel_put ?_ (by first | exact Nat.le_refl _ | (simp; done) | (simp; omega)) _))) hBz⟩
  have hn1 : len1 ≤ 1048576 := by omega
  have hll1 : l1.length ≤ 1048576 := by rw [hl1.1]; exact hn1
  clear hbig1
  obtain ⟨r0, hr0⟩ : ∃ r, fcan l0 l1 = r := ⟨_, rfl⟩
  have HR0 := Lib.hid hr0
  have hrl0 : r0.length ≤ 8 := by rw [← hr0]; exact fcan_le _ _
  have t0 : decide (r0 = r0) = true := by simp
  clear hr0
  go_enter Try.func5, Try.ntmps5
  have dz1 : decide (1048576 - (len1 : Int) < 0) = false := by simp; omega
  go_wp2_with fail
  refine (l_szCell_t _ _ _ _ _ (by omega) (by omega) (by omega)).mono ?_
  rintro e W1 ⟨rfl, hb1⟩
  have hs1 : Below w.heap.size w W1 := bel_trans (by repeat (first | (with_reducible exact Below.refl _ _) | (with_reducible assumption) | (with_reducible refine bel_alloc ?_ _) | (with_reducible refine bel_drew ?_) | (with_reducible refine below_drewN ?_ _) | (with_reducible refine bel_put ?_ (by first | exact Nat.le_refl _ | (simp; done) | (simp; omega)) _))) hb1
  have La1_1 : Box W1 w.heap.size 37 #[.slice a1 len1 cap1] := (Box.new _ _ _).below hb1 (by simp)
  have zLa1 := La1_1.size
  have cLa10 : W1.cell? ⟨w.heap.size, 0, none⟩ = some (.slice a1 len1 cap1) := La1_1.cell 0
  have hB1 : Below w.heap.size w W1 := hs1
  have z1 := hs1.size
  clear hb1
  go_wp2_with fail
  go_region_held3 (fun w' => w'.cell? ⟨w.heap.size, 0, none⟩ = some (.slice a1 len1 cap1)) (first | (exact cLa10) | (exact cell_bel (bel_trans (bel_trans hs2 hs3) hs4) cLa10) | (exact cell_bel (bel_trans hs2 hs3) cLa10) | (exact cell_bel hs2 cLa10) | go_keep)
    (first
      | (go_at_call 22; refine (l_toIntS' (reach (reach hl0 hB1) (by repeat (first | (with_reducible exact Below.refl _ _) | (with_reducible assumption) | (with_reducible refine bel_alloc ?_ _) | (with_reducible refine bel_drew ?_) | (with_reducible refine below_drewN ?_ _) | (with_reducible refine bel_put ?_ (by first | exact Nat.le_refl _ | (simp; done) | (simp; omega)) _)))) (by omega)).mono ?_; rintro e W2 ⟨by0, rfl, raw2, hb2⟩; have hs2 : Below W1.heap.size W1 W2 := bel_trans (by repeat (first | (with_reducible exact Below.refl _ _) | (with_reducible assumption) | (with_reducible refine bel_alloc ?_ _) | (with_reducible refine bel_drew ?_) | (with_reducible refine below_drewN ?_ _) | (with_reducible refine bel_put ?_ (by first | exact Nat.le_refl _ | (simp; done) | (simp; omega)) _))) hb2)
      | (go_at_call 18; refine (l_toCell (reach (reach hl1 (bel_trans hB1 hs2)) (by repeat (first | (with_reducible exact Below.refl _ _) | (with_reducible assumption) | (with_reducible refine bel_alloc ?_ _) | (with_reducible refine bel_drew ?_) | (with_reducible refine below_drewN ?_ _) | (with_reducible refine bel_put ?_ (by first | exact Nat.le_refl _ | (simp; done) | (simp; omega)) _)))) (by omega)).mono ?_; rintro e W3 ⟨by1, rfl, raw3, hb3⟩; have hs3 : Below W2.heap.size W2 W3 := bel_trans (by repeat (first | (with_reducible exact Below.refl _ _) | (with_reducible assumption) | (with_reducible refine bel_alloc ?_ _) | (with_reducible refine bel_drew ?_) | (with_reducible refine below_drewN ?_ _) | (with_reducible refine bel_put ?_ (by first | exact Nat.le_refl _ | (simp; done) | (simp; omega)) _))) hb3)
      | (go_at_call 21; refine (s_CanPeel (reach (raw2.below hs3).intsAt.1 (by repeat (first | (with_reducible exact Below.refl _ _) | (with_reducible assumption) | (with_reducible refine bel_alloc ?_ _) | (with_reducible refine bel_drew ?_) | (with_reducible refine below_drewN ?_ _) | (with_reducible refine bel_put ?_ (by first | exact Nat.le_refl _ | (simp; done) | (simp; omega)) _)))) (by omega) (reach raw3.intsAt.1 (by repeat (first | (with_reducible exact Below.refl _ _) | (with_reducible assumption) | (with_reducible refine bel_alloc ?_ _) | (with_reducible refine bel_drew ?_) | (with_reducible refine below_drewN ?_ _) | (with_reducible refine bel_put ?_ (by first | exact Nat.le_refl _ | (simp; done) | (simp; omega)) _)))) (Nat.le_refl _) (by omega)).mono ?_; rintro e W4 ⟨sv0, rfl, raw40, hb4⟩; have hs4 : Below W3.heap.size W3 W4 := bel_trans (by repeat (first | (with_reducible exact Below.refl _ _) | (with_reducible assumption) | (with_reducible refine bel_alloc ?_ _) | (with_reducible refine bel_drew ?_) | (with_reducible refine below_drewN ?_ _) | (with_reducible refine bel_put ?_ (by first | exact Nat.le_refl _ | (simp; done) | (simp; omega)) _))) hb4))
  have y0_2 := raw2.lower (base' := W1.heap.size) (by first | exact Nat.le_refl _ | (simp; done) | (simp; omega))
  have ub_y0 := fun b hb => y0_2.block (b := b) hb
  have La1_2 := La1_1.below hs2 La1_1.size
  clear La1_1 cLa10
  have cLa10 : W2.cell? ⟨w.heap.size, 0, none⟩ = some (.slice a1 len1 cap1) := La1_2.cell 0
  have hB2 := bel_trans hB1 hs2
  have z2 := hs2.size
  clear raw2
  clear hb2
  have y1_3 := raw3.lower (base' := W2.heap.size) (by first | exact Nat.le_refl _ | (simp; done) | (simp; omega))
  have ub_y1 := fun b hb => y1_3.block (b := b) hb
  have ap_y1_y0 := y1_3.apart y0_2 (by first | exact Nat.le_refl _ | exact Nat.le_succ _)
  have La1_3 := La1_2.below hs3 La1_2.size
  clear La1_2 cLa10
  have cLa10 : W3.cell? ⟨w.heap.size, 0, none⟩ = some (.slice a1 len1 cap1) := La1_3.cell 0
  have hB3 := bel_trans hB2 hs3
  have z3 := hs3.size
  have y0_3 := y0_2.below hs3
  clear y0_2
  clear raw3
  clear hb3
  rw [HR0.out] at raw40
  obtain ⟨sA0, sc0, rfl, _⟩ := raw40.ints
  have s0_4 := raw40.lower (base' := W3.heap.size) (by first | exact Nat.le_refl _ | (simp; done) | (simp; omega))
  have ub_s0 := fun b hb => s0_4.block (b := b) hb
  have ap_s0_y0 := s0_4.apart y0_3 (by first | exact Nat.le_refl _ | exact Nat.le_succ _)
  have ap_s0_y1 := s0_4.apart y1_3 (by first | exact Nat.le_refl _ | exact Nat.le_succ _)
  have La1_4 := La1_3.below hs4 La1_3.size
  clear La1_3 cLa10
  have cLa10 : W4.cell? ⟨w.heap.size, 0, none⟩ = some (.slice a1 len1 cap1) := La1_4.cell 0
  have hB4 := bel_trans hB3 hs4
  have z4 := hs4.size
  have y0_4 := y0_3.below hs4
  clear y0_3
  have y1_4 := y1_3.below hs4
  clear y1_3
  clear raw40
  clear hb4
  clear y0_4
  clear y1_4
  go_wp2_with fail
  refine (l_toIntS' (reach (reach hl0 hB4) ?hB) (by omega)).mono ?_
  case hB => exact (by repeat (first | (with_reducible exact Below.refl _ _) | (with_reducible assumption) | (with_reducible refine bel_alloc ?_ _) | (with_reducible refine bel_drew ?_) | (with_reducible refine below_drewN ?_ _) | (with_reducible refine bel_put ?_ (by first | exact Nat.le_refl _ | (simp; done) | (simp; omega)) _)))
  rintro e W5 ⟨bx0, rfl, raw5, hb5⟩
  have x0_5 := raw5.lower (base' := W4.heap.size) (by first | exact Nat.le_refl _ | (simp; done) | (simp; omega))
  have ub_x0 := fun b hb => x0_5.block (b := b) hb
  have ap_x0_s0 := x0_5.apart s0_4 (by first | exact Nat.le_refl _ | exact Nat.le_succ _)
  have hs5 : Below W4.heap.size W4 W5 := bel_trans (by repeat (first | (with_reducible exact Below.refl _ _) | (with_reducible assumption) | (with_reducible refine bel_alloc ?_ _) | (with_reducible refine bel_drew ?_) | (with_reducible refine below_drewN ?_ _) | (with_reducible refine bel_put ?_ (by first | exact Nat.le_refl _ | (simp; done) | (simp; omega)) _))) hb5
  have La1_5 := La1_4.below hs5 La1_4.size
  clear La1_4 cLa10
  have cLa10 : W5.cell? ⟨w.heap.size, 0, none⟩ = some (.slice a1 len1 cap1) := La1_5.cell 0
  have hB5 := bel_trans hB4 hs5
  have z5 := hs5.size
  have s0_5 := s0_4.below hs5
  clear s0_4
  clear raw5
  clear hb5
  go_wp2_with fail
  refine (l_toCell (reach (reach hl1 hB5) ?hB) (by omega)).mono ?_
  case hB => exact (by repeat (first | (with_reducible exact Below.refl _ _) | (with_reducible assumption) | (with_reducible refine bel_alloc ?_ _) | (with_reducible refine bel_drew ?_) | (with_reducible refine below_drewN ?_ _) | (with_reducible refine bel_put ?_ (by first | exact Nat.le_refl _ | (simp; done) | (simp; omega)) _)))
  rintro e W6 ⟨bx1, rfl, raw6, hb6⟩
  have x1_6 := raw6.lower (base' := W5.heap.size) (by first | exact Nat.le_refl _ | (simp; done) | (simp; omega))
  have ub_x1 := fun b hb => x1_6.block (b := b) hb
  have ap_x1_s0 := x1_6.apart s0_5 (by first | exact Nat.le_refl _ | exact Nat.le_succ _)
  have ap_x1_x0 := x1_6.apart x0_5 (by first | exact Nat.le_refl _ | exact Nat.le_succ _)
  have hs6 : Below W5.heap.size W5 W6 := bel_trans (by repeat (first | (with_reducible exact Below.refl _ _) | (with_reducible assumption) | (with_reducible refine bel_alloc ?_ _) | (with_reducible refine bel_drew ?_) | (with_reducible refine below_drewN ?_ _) | (with_reducible refine bel_put ?_ (by first | exact Nat.le_refl _ | (simp; done) | (simp; omega)) _))) hb6
  have La1_6 := La1_5.below hs6 La1_5.size
  clear La1_5 cLa10
  have cLa10 : W6.cell? ⟨w.heap.size, 0, none⟩ = some (.slice a1 len1 cap1) := La1_6.cell 0
  have hB6 := bel_trans hB5 hs6
  have z6 := hs6.size
  have s0_6 := s0_5.below hs6
  clear s0_5
  have x0_6 := x0_5.below hs6
  clear x0_5
  clear raw6
  clear hb6
  have dLa10 : (W6.alloc (.cells #[.slice (some ⟨bx1, 0, none⟩) len1 len1] 40)).cell? ⟨w.heap.size, 0, none⟩ = some (.slice a1 len1 cap1) := (La1_6.alloc _).cell 0
  go_wp2_with fail
  refine (i_CanPeel (reach x0_6.intsAt.1 ?hB) (by omega) (reach x1_6.intsAt.1 ?hB) (Nat.le_refl _) (by omega)).mono ?_
  case hB => exact (by repeat (first | (with_reducible exact Below.refl _ _) | (with_reducible assumption) | (with_reducible refine bel_alloc ?_ _) | (with_reducible refine bel_drew ?_) | (with_reducible refine below_drewN ?_ _) | (with_reducible refine bel_put ?_ (by first | exact Nat.le_refl _ | (simp; done) | (simp; omega)) _)))
  rintro e W7 ⟨gv0, rfl, raw70, hb7⟩
  clear dLa10
  rw [HR0.out] at raw70
  obtain ⟨gA0, gc0, rfl, _⟩ := raw70.ints
  have g0_7 := raw70.lower (base' := W6.heap.size + 1) (by first | exact Nat.le_refl _ | (simp; done) | (simp; omega))
  have ub_g0 := fun b hb => g0_7.block (b := b) hb
  have ap_g0_s0 := g0_7.apart s0_6 (by first | exact Nat.le_refl _ | exact Nat.le_succ _)
  have ap_g0_x0 := g0_7.apart x0_6 (by first | exact Nat.le_refl _ | exact Nat.le_succ _)
  have ap_g0_x1 := g0_7.apart x1_6 (by first | exact Nat.le_refl _ | exact Nat.le_succ _)
  have hs7 : Below W6.heap.size W6 W7 := bel_trans (by repeat (first | (with_reducible exact Below.refl _ _) | (with_reducible assumption) | (with_reducible refine bel_alloc ?_ _) | (with_reducible refine bel_drew ?_) | (with_reducible refine below_drewN ?_ _) | (with_reducible refine bel_put ?_ (by first | exact Nat.le_refl _ | (simp; done) | (simp; omega)) _))) hb7
  have Lx1_7 : Box W7 W6.heap.size 40 #[.slice (some ⟨bx1, 0, none⟩) len1 len1] := (Box.new _ _ _).below hb7 (by simp)
  have zLx1 := Lx1_7.size
  have La1_7 := La1_6.below hs7 La1_6.size
  clear La1_6 cLa10
  have cLa10 : W7.cell? ⟨w.heap.size, 0, none⟩ = some (.slice a1 len1 cap1) := La1_7.cell 0
  have cLx10 : W7.cell? ⟨W6.heap.size, 0, none⟩ = some (.slice (some ⟨bx1, 0, none⟩) len1 len1) := Lx1_7.cell 0
  have hB7 := bel_trans hB6 hs7
  have z7 := hs7.size
  have s0_7 := s0_6.below hs7
  clear s0_6
  have x0_7 := x0_6.below hs7
  clear x0_6
  have x1_7 := x1_6.below hs7
  clear x1_6
  clear raw70
  clear hb7
  go_wp2_with fail
  refine (l_eqIntS (reach g0_7.intsAt.1 ?hB) (reach s0_7.intsAt.1 ?hB) (by simp only [maxLen]; omega) (by simp only [maxLen]; omega)).mono ?_
  case hB => exact (by repeat (first | (with_reducible exact Below.refl _ _) | (with_reducible assumption) | (with_reducible refine bel_alloc ?_ _) | (with_reducible refine bel_drew ?_) | (with_reducible refine below_drewN ?_ _) | (with_reducible refine bel_put ?_ (by first | exact Nat.le_refl _ | (simp; done) | (simp; omega)) _)))
  rintro e W8 ⟨rfl, hb8⟩
  have hs8 : Below W7.heap.size W7 W8 := bel_trans (by repeat (first | (with_reducible exact Below.refl _ _) | (with_reducible assumption) | (with_reducible refine bel_alloc ?_ _) | (with_reducible refine bel_drew ?_) | (with_reducible refine below_drewN ?_ _) | (with_reducible refine bel_put ?_ (by first | exact Nat.le_refl _ | (simp; done) | (simp; omega)) _))) hb8
  have La1_8 := La1_7.below hs8 La1_7.size
  clear La1_7 cLa10
  have Lx1_8 := Lx1_7.below hs8 Lx1_7.size
  clear Lx1_7 cLx10
  have cLa10 : W8.cell? ⟨w.heap.size, 0, none⟩ = some (.slice a1 len1 cap1) := La1_8.cell 0
  have cLx10 : W8.cell? ⟨W6.heap.size, 0, none⟩ = some (.slice (some ⟨bx1, 0, none⟩) len1 len1) := Lx1_8.cell 0
  have hB8 := bel_trans hB7 hs8
  have z8 := hs8.size
  have s0_8 := s0_7.below hs8
  clear s0_7
  have x0_8 := x0_7.below hs8
  clear x0_7
  have x1_8 := x1_7.below hs8
  clear x1_7
  have g0_8 := g0_7.below hs8
  clear g0_7
  clear hb8
  go_wp2_with fail
  refine (l_toIntS' (reach (reach hl0 hB8) ?hB) (by omega)).mono ?_
  case hB => exact (by repeat (first | (with_reducible exact Below.refl _ _) | (with_reducible assumption) | (with_reducible refine bel_alloc ?_ _) | (with_reducible refine bel_drew ?_) | (with_reducible refine below_drewN ?_ _) | (with_reducible refine bel_put ?_ (by first | exact Nat.le_refl _ | (simp; done) | (simp; omega)) _)))
  rintro e W9 ⟨by0, rfl, raw9, hb9⟩
  have y0_9 := raw9.lower (base' := W8.heap.size) (by first | exact Nat.le_refl _ | (simp; done) | (simp; omega))
  have ub_y0 := fun b hb => y0_9.block (b := b) hb
  have ap_y0_s0 := y0_9.apart s0_8 (by first | exact Nat.le_refl _ | exact Nat.le_succ _)
  have ap_y0_x0 := y0_9.apart x0_8 (by first | exact Nat.le_refl _ | exact Nat.le_succ _)
  have ap_y0_x1 := y0_9.apart x1_8 (by first | exact Nat.le_refl _ | exact Nat.le_succ _)
  have ap_y0_g0 := y0_9.apart g0_8 (by first | exact Nat.le_refl _ | exact Nat.le_succ _)
  have hs9 : Below W8.heap.size W8 W9 := bel_trans (by repeat (first | (with_reducible exact Below.refl _ _) | (with_reducible assumption) | (with_reducible refine bel_alloc ?_ _) | (with_reducible refine bel_drew ?_) | (with_reducible refine below_drewN ?_ _) | (with_reducible refine bel_put ?_ (by first | exact Nat.le_refl _ | (simp; done) | (simp; omega)) _))) hb9
  have La1_9 := La1_8.below hs9 La1_8.size
  clear La1_8 cLa10
  have Lx1_9 := Lx1_8.below hs9 Lx1_8.size
  clear Lx1_8 cLx10
  have cLa10 : W9.cell? ⟨w.heap.size, 0, none⟩ = some (.slice a1 len1 cap1) := La1_9.cell 0
  have cLx10 : W9.cell? ⟨W6.heap.size, 0, none⟩ = some (.slice (some ⟨bx1, 0, none⟩) len1 len1) := Lx1_9.cell 0
  have hB9 := bel_trans hB8 hs9
  have z9 := hs9.size
  have s0_9 := s0_8.below hs9
  clear s0_8
  have x0_9 := x0_8.below hs9
  clear x0_8
  have x1_9 := x1_8.below hs9
  clear x1_8
  have g0_9 := g0_8.below hs9
  clear g0_8
  clear raw9
  clear hb9
  go_wp2_with fail
  refine (l_eqIntS (reach x0_9.intsAt.1 ?hB) (reach y0_9.intsAt.1 ?hB) (by simp only [maxLen]; omega) (by simp only [maxLen]; omega)).mono ?_
  case hB => exact (by repeat (first | (with_reducible exact Below.refl _ _) | (with_reducible assumption) | (with_reducible refine bel_alloc ?_ _) | (with_reducible refine bel_drew ?_) | (with_reducible refine below_drewN ?_ _) | (with_reducible refine bel_put ?_ (by first | exact Nat.le_refl _ | (simp; done) | (simp; omega)) _)))
  rintro e W10 ⟨rfl, hb10⟩
  have hs10 : Below W9.heap.size W9 W10 := bel_trans (by repeat (first | (with_reducible exact Below.refl _ _) | (with_reducible assumption) | (with_reducible refine bel_alloc ?_ _) | (with_reducible refine bel_drew ?_) | (with_reducible refine below_drewN ?_ _) | (with_reducible refine bel_put ?_ (by first | exact Nat.le_refl _ | (simp; done) | (simp; omega)) _))) hb10
  have La1_10 := La1_9.below hs10 La1_9.size
  clear La1_9 cLa10
  have Lx1_10 := Lx1_9.below hs10 Lx1_9.size
  clear Lx1_9 cLx10
  have cLa10 : W10.cell? ⟨w.heap.size, 0, none⟩ = some (.slice a1 len1 cap1) := La1_10.cell 0
  have cLx10 : W10.cell? ⟨W6.heap.size, 0, none⟩ = some (.slice (some ⟨bx1, 0, none⟩) len1 len1) := Lx1_10.cell 0
  have hB10 := bel_trans hB9 hs10
  have z10 := hs10.size
  have s0_10 := s0_9.below hs10
  clear s0_9
  have x0_10 := x0_9.below hs10
  clear x0_9
  have x1_10 := x1_9.below hs10
  clear x1_9
  have g0_10 := g0_9.below hs10
  clear g0_9
  have y0_10 := y0_9.below hs10
  clear y0_9
  clear hb10
  clear y0_10
  go_wp2_with fail
  go_region_held3 (fun w' => w'.cell? ⟨W6.heap.size, 0, none⟩ = some (.slice (some ⟨bx1, 0, none⟩) len1 len1) ∧ w'.cell? ⟨w.heap.size, 0, none⟩ = some (.slice a1 len1 cap1)) (first | (exact ⟨cLx10, cLa10⟩) | (exact ⟨cell_bel hs12 cLx10, cell_bel hs12 cLa10⟩) | (exact ⟨cell_bel hs11 cLx10, cell_bel hs11 cLa10⟩) | go_keep)
    (first
      | (go_at_call 18; refine (l_toCell (reach (reach hl1 hB10) (by repeat (first | (with_reducible exact Below.refl _ _) | (with_reducible assumption) | (with_reducible refine bel_alloc ?_ _) | (with_reducible refine bel_drew ?_) | (with_reducible refine below_drewN ?_ _) | (with_reducible refine bel_put ?_ (by first | exact Nat.le_refl _ | (simp; done) | (simp; omega)) _)))) (by omega)).mono ?_; rintro e W11 ⟨by1, rfl, raw11, hb11⟩; have hs11 : Below W10.heap.size W10 W11 := bel_trans (by repeat (first | (with_reducible exact Below.refl _ _) | (with_reducible assumption) | (with_reducible refine bel_alloc ?_ _) | (with_reducible refine bel_drew ?_) | (with_reducible refine below_drewN ?_ _) | (with_reducible refine bel_put ?_ (by first | exact Nat.le_refl _ | (simp; done) | (simp; omega)) _))) hb11)
      | (go_at_call 20; refine (l_eqCell (reach (x1_10.below hs11).intsAt.1 (by repeat (first | (with_reducible exact Below.refl _ _) | (with_reducible assumption) | (with_reducible refine bel_alloc ?_ _) | (with_reducible refine bel_drew ?_) | (with_reducible refine below_drewN ?_ _) | (with_reducible refine bel_put ?_ (by first | exact Nat.le_refl _ | (simp; done) | (simp; omega)) _)))) (reach raw11.intsAt.1 (by repeat (first | (with_reducible exact Below.refl _ _) | (with_reducible assumption) | (with_reducible refine bel_alloc ?_ _) | (with_reducible refine bel_drew ?_) | (with_reducible refine below_drewN ?_ _) | (with_reducible refine bel_put ?_ (by first | exact Nat.le_refl _ | (simp; done) | (simp; omega)) _)))) (by simp only [maxLen]; omega) (by simp only [maxLen]; omega)).mono ?_; rintro e W12 ⟨rfl, hb12⟩; have hs12 : Below W10.heap.size W10 W12 := bel_trans hs11 (bel_trans (by repeat (first | (with_reducible exact Below.refl _ _) | (with_reducible assumption) | (with_reducible refine bel_alloc ?_ _) | (with_reducible refine bel_drew ?_) | (with_reducible refine below_drewN ?_ _) | (with_reducible refine bel_put ?_ (by first | exact Nat.le_refl _ | (simp; done) | (simp; omega)) _))) hb12)))
  clear raw11 hb11 hb12 hs11
  have La1_12 := La1_10.below hs12 La1_10.size
  clear La1_10 cLa10
  have Lx1_12 := Lx1_10.below hs12 Lx1_10.size
  clear Lx1_10 cLx10
  have cLa10 : W12.cell? ⟨w.heap.size, 0, none⟩ = some (.slice a1 len1 cap1) := La1_12.cell 0
  have cLx10 : W12.cell? ⟨W6.heap.size, 0, none⟩ = some (.slice (some ⟨bx1, 0, none⟩) len1 len1) := Lx1_12.cell 0
  have hB12 := bel_trans hB10 hs12
  have z12 := hs12.size
  have s0_12 := s0_10.below hs12
  clear s0_10
  have x0_12 := x0_10.below hs12
  clear x0_10
  have x1_12 := x1_10.below hs12
  clear x1_10
  have g0_12 := g0_10.below hs12
  clear g0_10
  go_wp2_with fail
  refine (l_markIntS 1 x0_12 (by omega) (by omega)).mono ?_
  rintro e W13 ⟨rfl, x0_13, hg13⟩
  have hB13 : Below w.heap.size w W13 := below_mark hB12 x0_12 hg13 (by omega)
  have La1_13 := La1_12.grown hg13 (fun e => by have := ub_x0 _ e.symm; omega)
  clear La1_12 cLa10
  have Lx1_13 := Lx1_12.grown hg13 (fun e => by have := ub_x0 _ e.symm; omega)
  clear Lx1_12 cLx10
  have cLa10 : W13.cell? ⟨w.heap.size, 0, none⟩ = some (.slice a1 len1 cap1) := La1_13.cell 0
  have cLx10 : W13.cell? ⟨W6.heap.size, 0, none⟩ = some (.slice (some ⟨bx1, 0, none⟩) len1 len1) := Lx1_13.cell 0
  have z13 := hg13.size
  have s0_13 := s0_12.kept hg13 (by first | exact ap_s0_x0 | exact apart_symm ap_x0_s0)
  clear s0_12
  have x1_13 := x1_12.kept hg13 (by first | exact ap_x1_x0 | exact apart_symm ap_x0_x1)
  clear x1_12
  have g0_13 := g0_12.kept hg13 (by first | exact ap_g0_x0 | exact apart_symm ap_x0_g0)
  clear g0_12
  clear x0_12
  go_wp2_with fail
  refine (l_markCell (1 + l0.length) x1_13 (by omega) (by omega)).mono ?_
  rintro e W14 ⟨rfl, x1_14, hg14⟩
  have hB14 : Below w.heap.size w W14 := below_mark hB13 x1_13 hg14 (by omega)
  have La1_14 := La1_13.grown hg14 (fun e => by have := ub_x1 _ e.symm; omega)
  clear La1_13 cLa10
  have Lx1_14 := Lx1_13.grown hg14 (fun e => by have := ub_x1 _ e.symm; omega)
  clear Lx1_13 cLx10
  have cLa10 : W14.cell? ⟨w.heap.size, 0, none⟩ = some (.slice a1 len1 cap1) := La1_14.cell 0
  have cLx10 : W14.cell? ⟨W6.heap.size, 0, none⟩ = some (.slice (some ⟨bx1, 0, none⟩) len1 len1) := Lx1_14.cell 0
  have z14 := hg14.size
  have s0_14 := s0_13.kept hg14 (by first | exact ap_s0_x1 | exact apart_symm ap_x1_s0)
  clear s0_13
  have x0_14 := x0_13.kept hg14 (by first | exact ap_x0_x1 | exact apart_symm ap_x1_x0)
  clear x0_13
  have g0_14 := g0_13.kept hg14 (by first | exact ap_g0_x1 | exact apart_symm ap_x1_g0)
  clear g0_13
  clear x1_13
  clear x0_14
  clear x1_14
  go_wp2_with fail
  refine (l_eqIntS (reach g0_14.intsAt.1 ?hB) (reach s0_14.intsAt.1 ?hB) (by simp only [maxLen]; omega) (by simp only [maxLen]; omega)).mono ?_
  case hB => exact (by repeat (first | (with_reducible exact Below.refl _ _) | (with_reducible assumption) | (with_reducible refine bel_alloc ?_ _) | (with_reducible refine bel_drew ?_) | (with_reducible refine below_drewN ?_ _) | (with_reducible refine bel_put ?_ (by first | exact Nat.le_refl _ | (simp; done) | (simp; omega)) _)))
  rintro e W15 ⟨rfl, hb15⟩
  have hs15 : Below W14.heap.size W14 W15 := bel_trans (by repeat (first | (with_reducible exact Below.refl _ _) | (with_reducible assumption) | (with_reducible refine bel_alloc ?_ _) | (with_reducible refine bel_drew ?_) | (with_reducible refine below_drewN ?_ _) | (with_reducible refine bel_put ?_ (by first | exact Nat.le_refl _ | (simp; done) | (simp; omega)) _))) hb15
  have La1_15 := La1_14.below hs15 La1_14.size
  clear La1_14 cLa10
  have Lx1_15 := Lx1_14.below hs15 Lx1_14.size
  clear Lx1_14 cLx10
  have cLa10 : W15.cell? ⟨w.heap.size, 0, none⟩ = some (.slice a1 len1 cap1) := La1_15.cell 0
  have cLx10 : W15.cell? ⟨W6.heap.size, 0, none⟩ = some (.slice (some ⟨bx1, 0, none⟩) len1 len1) := Lx1_15.cell 0
  have hB15 := bel_trans hB14 hs15
  have z15 := hs15.size
  have s0_15 := s0_14.below hs15
  clear s0_14
  have g0_15 := g0_14.below hs15
  clear g0_14
  clear hb15
  go_wp2_with fail
  refine (l_markIntS 1 g0_15 (by omega) (by omega)).mono ?_
  rintro e W16 ⟨rfl, g0_16, hg16⟩
  have hB16 : Below w.heap.size w W16 := below_mark hB15 g0_15 hg16 (by omega)
  have La1_16 := La1_15.grown hg16 (fun e => by have := ub_g0 _ e.symm; omega)
  clear La1_15 cLa10
  have Lx1_16 := Lx1_15.grown hg16 (fun e => by have := ub_g0 _ e.symm; omega)
  clear Lx1_15 cLx10
  have cLa10 : W16.cell? ⟨w.heap.size, 0, none⟩ = some (.slice a1 len1 cap1) := La1_16.cell 0
  have cLx10 : W16.cell? ⟨W6.heap.size, 0, none⟩ = some (.slice (some ⟨bx1, 0, none⟩) len1 len1) := Lx1_16.cell 0
  have z16 := hg16.size
  have s0_16 := s0_15.kept hg16 (by first | exact ap_s0_g0 | exact apart_symm ap_g0_s0)
  clear s0_15
  clear g0_15
  go_wp2_with fail
  refine ((l_heldIntS 1 (reach g0_16.intsAt.1 ?hB) (by omega) (by omega)).mono to_below0).mono ?_
  case hB => exact (by repeat (first | (with_reducible exact Below.refl _ _) | (with_reducible assumption) | (with_reducible refine bel_alloc ?_ _) | (with_reducible refine bel_drew ?_) | (with_reducible refine below_drewN ?_ _) | (with_reducible refine bel_put ?_ (by first | exact Nat.le_refl _ | (simp; done) | (simp; omega)) _)))
  rintro e W17 ⟨rfl, hb17⟩
  have hs17 : Below W16.heap.size W16 W17 := bel_trans (by repeat (first | (with_reducible exact Below.refl _ _) | (with_reducible assumption) | (with_reducible refine bel_alloc ?_ _) | (with_reducible refine bel_drew ?_) | (with_reducible refine below_drewN ?_ _) | (with_reducible refine bel_put ?_ (by first | exact Nat.le_refl _ | (simp; done) | (simp; omega)) _))) hb17
  have La1_17 := La1_16.below hs17 La1_16.size
  clear La1_16 cLa10
  have Lx1_17 := Lx1_16.below hs17 Lx1_16.size
  clear Lx1_16 cLx10
  have cLa10 : W17.cell? ⟨w.heap.size, 0, none⟩ = some (.slice a1 len1 cap1) := La1_17.cell 0
  have cLx10 : W17.cell? ⟨W6.heap.size, 0, none⟩ = some (.slice (some ⟨bx1, 0, none⟩) len1 len1) := Lx1_17.cell 0
  have hB17 := bel_trans hB16 hs17
  have z17 := hs17.size
  have s0_17 := s0_16.below hs17
  clear s0_16
  have g0_17 := g0_16.below hs17
  clear g0_16
  clear hb17
  go_wp2_with fail
  go_region_held3 (fun w' => w'.cell? ⟨w.heap.size, 0, none⟩ = some (.slice a1 len1 cap1) ∧ w'.cell? ⟨W6.heap.size, 0, none⟩ = some (.slice (some ⟨bx1, 0, none⟩) len1 len1)) (first | (exact ⟨cLa10, cLx10⟩) | (exact ⟨cell_bel (bel_trans (bel_trans hs18 hs19) hs20) cLa10, cell_bel (bel_trans (bel_trans hs18 hs19) hs20) cLx10⟩) | (exact ⟨cell_bel (bel_trans hs18 hs19) cLa10, cell_bel (bel_trans hs18 hs19) cLx10⟩) | (exact ⟨cell_bel hs18 cLa10, cell_bel hs18 cLx10⟩) | go_keep)
    (first
      | (go_at_call 22; refine (l_toIntS' (reach (reach hl0 hB17) (by repeat (first | (with_reducible exact Below.refl _ _) | (with_reducible assumption) | (with_reducible refine bel_alloc ?_ _) | (with_reducible refine bel_drew ?_) | (with_reducible refine below_drewN ?_ _) | (with_reducible refine bel_put ?_ (by first | exact Nat.le_refl _ | (simp; done) | (simp; omega)) _)))) (by omega)).mono ?_; rintro e W18 ⟨by0, rfl, raw18, hb18⟩; have hs18 : Below W17.heap.size W17 W18 := bel_trans (by repeat (first | (with_reducible exact Below.refl _ _) | (with_reducible assumption) | (with_reducible refine bel_alloc ?_ _) | (with_reducible refine bel_drew ?_) | (with_reducible refine below_drewN ?_ _) | (with_reducible refine bel_put ?_ (by first | exact Nat.le_refl _ | (simp; done) | (simp; omega)) _))) hb18)
      | (go_at_call 18; refine (l_toCell (reach (reach hl1 (bel_trans hB17 hs18)) (by repeat (first | (with_reducible exact Below.refl _ _) | (with_reducible assumption) | (with_reducible refine bel_alloc ?_ _) | (with_reducible refine bel_drew ?_) | (with_reducible refine below_drewN ?_ _) | (with_reducible refine bel_put ?_ (by first | exact Nat.le_refl _ | (simp; done) | (simp; omega)) _)))) (by omega)).mono ?_; rintro e W19 ⟨by1, rfl, raw19, hb19⟩; have hs19 : Below W18.heap.size W18 W19 := bel_trans (by repeat (first | (with_reducible exact Below.refl _ _) | (with_reducible assumption) | (with_reducible refine bel_alloc ?_ _) | (with_reducible refine bel_drew ?_) | (with_reducible refine below_drewN ?_ _) | (with_reducible refine bel_put ?_ (by first | exact Nat.le_refl _ | (simp; done) | (simp; omega)) _))) hb19)
      | (go_at_call 23; refine (i_CanPeel (reach (raw18.below hs19).intsAt.1 (by repeat (first | (with_reducible exact Below.refl _ _) | (with_reducible assumption) | (with_reducible refine bel_alloc ?_ _) | (with_reducible refine bel_drew ?_) | (with_reducible refine below_drewN ?_ _) | (with_reducible refine bel_put ?_ (by first | exact Nat.le_refl _ | (simp; done) | (simp; omega)) _)))) (by omega) (reach raw19.intsAt.1 (by repeat (first | (with_reducible exact Below.refl _ _) | (with_reducible assumption) | (with_reducible refine bel_alloc ?_ _) | (with_reducible refine bel_drew ?_) | (with_reducible refine below_drewN ?_ _) | (with_reducible refine bel_put ?_ (by first | exact Nat.le_refl _ | (simp; done) | (simp; omega)) _)))) (Nat.le_refl _) (by omega)).mono ?_; rintro e W20 ⟨hv0, rfl, raw200, hb20⟩; have hs20 : Below W19.heap.size W19 W20 := bel_trans (by repeat (first | (with_reducible exact Below.refl _ _) | (with_reducible assumption) | (with_reducible refine bel_alloc ?_ _) | (with_reducible refine bel_drew ?_) | (with_reducible refine below_drewN ?_ _) | (with_reducible refine bel_put ?_ (by first | exact Nat.le_refl _ | (simp; done) | (simp; omega)) _))) hb20))
  have y0_18 := raw18.lower (base' := W17.heap.size) (by first | exact Nat.le_refl _ | (simp; done) | (simp; omega))
  have ub_y0 := fun b hb => y0_18.block (b := b) hb
  have ap_y0_s0 := y0_18.apart s0_17 (by first | exact Nat.le_refl _ | exact Nat.le_succ _)
  have ap_y0_g0 := y0_18.apart g0_17 (by first | exact Nat.le_refl _ | exact Nat.le_succ _)
  have La1_18 := La1_17.below hs18 La1_17.size
  clear La1_17 cLa10
  have Lx1_18 := Lx1_17.below hs18 Lx1_17.size
  clear Lx1_17 cLx10
  have cLa10 : W18.cell? ⟨w.heap.size, 0, none⟩ = some (.slice a1 len1 cap1) := La1_18.cell 0
  have cLx10 : W18.cell? ⟨W6.heap.size, 0, none⟩ = some (.slice (some ⟨bx1, 0, none⟩) len1 len1) := Lx1_18.cell 0
  have hB18 := bel_trans hB17 hs18
  have z18 := hs18.size
  have s0_18 := s0_17.below hs18
  clear s0_17
  have g0_18 := g0_17.below hs18
  clear g0_17
  clear raw18
  clear hb18
  have y1_19 := raw19.lower (base' := W18.heap.size) (by first | exact Nat.le_refl _ | (simp; done) | (simp; omega))
  have ub_y1 := fun b hb => y1_19.block (b := b) hb
  have ap_y1_s0 := y1_19.apart s0_18 (by first | exact Nat.le_refl _ | exact Nat.le_succ _)
  have ap_y1_g0 := y1_19.apart g0_18 (by first | exact Nat.le_refl _ | exact Nat.le_succ _)
  have ap_y1_y0 := y1_19.apart y0_18 (by first | exact Nat.le_refl _ | exact Nat.le_succ _)
  have La1_19 := La1_18.below hs19 La1_18.size
  clear La1_18 cLa10
  have Lx1_19 := Lx1_18.below hs19 Lx1_18.size
  clear Lx1_18 cLx10
  have cLa10 : W19.cell? ⟨w.heap.size, 0, none⟩ = some (.slice a1 len1 cap1) := La1_19.cell 0
  have cLx10 : W19.cell? ⟨W6.heap.size, 0, none⟩ = some (.slice (some ⟨bx1, 0, none⟩) len1 len1) := Lx1_19.cell 0
  have hB19 := bel_trans hB18 hs19
  have z19 := hs19.size
  have s0_19 := s0_18.below hs19
  clear s0_18
  have g0_19 := g0_18.below hs19
  clear g0_18
  have y0_19 := y0_18.below hs19
  clear y0_18
  clear raw19
  clear hb19
  rw [HR0.out] at raw200
  obtain ⟨hA0, hc0, rfl, _⟩ := raw200.ints
  have h0_20 := raw200.lower (base' := W19.heap.size) (by first | exact Nat.le_refl _ | (simp; done) | (simp; omega))
  have ub_h0 := fun b hb => h0_20.block (b := b) hb
  have ap_h0_s0 := h0_20.apart s0_19 (by first | exact Nat.le_refl _ | exact Nat.le_succ _)
  have ap_h0_g0 := h0_20.apart g0_19 (by first | exact Nat.le_refl _ | exact Nat.le_succ _)
  have ap_h0_y0 := h0_20.apart y0_19 (by first | exact Nat.le_refl _ | exact Nat.le_succ _)
  have ap_h0_y1 := h0_20.apart y1_19 (by first | exact Nat.le_refl _ | exact Nat.le_succ _)
  have La1_20 := La1_19.below hs20 La1_19.size
  clear La1_19 cLa10
  have Lx1_20 := Lx1_19.below hs20 Lx1_19.size
  clear Lx1_19 cLx10
  have cLa10 : W20.cell? ⟨w.heap.size, 0, none⟩ = some (.slice a1 len1 cap1) := La1_20.cell 0
  have cLx10 : W20.cell? ⟨W6.heap.size, 0, none⟩ = some (.slice (some ⟨bx1, 0, none⟩) len1 len1) := Lx1_20.cell 0
  have hB20 := bel_trans hB19 hs20
  have z20 := hs20.size
  have s0_20 := s0_19.below hs20
  clear s0_19
  have g0_20 := g0_19.below hs20
  clear g0_19
  have y0_20 := y0_19.below hs20
  clear y0_19
  have y1_20 := y1_19.below hs20
  clear y1_19
  clear raw200
  clear hb20
  clear y0_20
  clear y1_20
  go_wp2_with fail
  refine (l_eqIntS (reach h0_20.intsAt.1 ?hB) (reach s0_20.intsAt.1 ?hB) (by simp only [maxLen]; omega) (by simp only [maxLen]; omega)).mono ?_
  case hB => exact (by repeat (first | (with_reducible exact Below.refl _ _) | (with_reducible assumption) | (with_reducible refine bel_alloc ?_ _) | (with_reducible refine bel_drew ?_) | (with_reducible refine below_drewN ?_ _) | (with_reducible refine bel_put ?_ (by first | exact Nat.le_refl _ | (simp; done) | (simp; omega)) _)))
  rintro e W21 ⟨rfl, hb21⟩
  have hs21 : Below W20.heap.size W20 W21 := bel_trans (by repeat (first | (with_reducible exact Below.refl _ _) | (with_reducible assumption) | (with_reducible refine bel_alloc ?_ _) | (with_reducible refine bel_drew ?_) | (with_reducible refine below_drewN ?_ _) | (with_reducible refine bel_put ?_ (by first | exact Nat.le_refl _ | (simp; done) | (simp; omega)) _))) hb21
  have La1_21 := La1_20.below hs21 La1_20.size
  clear La1_20 cLa10
  have Lx1_21 := Lx1_20.below hs21 Lx1_20.size
  clear Lx1_20 cLx10
  have cLa10 : W21.cell? ⟨w.heap.size, 0, none⟩ = some (.slice a1 len1 cap1) := La1_21.cell 0
  have cLx10 : W21.cell? ⟨W6.heap.size, 0, none⟩ = some (.slice (some ⟨bx1, 0, none⟩) len1 len1) := Lx1_21.cell 0
  have hB21 := bel_trans hB20 hs21
  have z21 := hs21.size
  have s0_21 := s0_20.below hs21
  clear s0_20
  have g0_21 := g0_20.below hs21
  clear g0_20
  have h0_21 := h0_20.below hs21
  clear h0_20
  clear hb21
  go_wp2_with fail
  refine ((l_heldIntS 1 (reach g0_21.intsAt.1 ?hB) (by omega) (by omega)).mono to_below0).mono ?_
  case hB => exact (by repeat (first | (with_reducible exact Below.refl _ _) | (with_reducible assumption) | (with_reducible refine bel_alloc ?_ _) | (with_reducible refine bel_drew ?_) | (with_reducible refine below_drewN ?_ _) | (with_reducible refine bel_put ?_ (by first | exact Nat.le_refl _ | (simp; done) | (simp; omega)) _)))
  rintro e W22 ⟨rfl, hb22⟩
  have hs22 : Below W21.heap.size W21 W22 := bel_trans (by repeat (first | (with_reducible exact Below.refl _ _) | (with_reducible assumption) | (with_reducible refine bel_alloc ?_ _) | (with_reducible refine bel_drew ?_) | (with_reducible refine below_drewN ?_ _) | (with_reducible refine bel_put ?_ (by first | exact Nat.le_refl _ | (simp; done) | (simp; omega)) _))) hb22
  have La1_22 := La1_21.below hs22 La1_21.size
  clear La1_21 cLa10
  have Lx1_22 := Lx1_21.below hs22 Lx1_21.size
  clear Lx1_21 cLx10
  have cLa10 : W22.cell? ⟨w.heap.size, 0, none⟩ = some (.slice a1 len1 cap1) := La1_22.cell 0
  have cLx10 : W22.cell? ⟨W6.heap.size, 0, none⟩ = some (.slice (some ⟨bx1, 0, none⟩) len1 len1) := Lx1_22.cell 0
  have hB22 := bel_trans hB21 hs22
  have z22 := hs22.size
  have s0_22 := s0_21.below hs22
  clear s0_21
  have g0_22 := g0_21.below hs22
  clear g0_21
  have h0_22 := h0_21.below hs22
  clear h0_21
  clear hb22
  go_wp2_with fail
  go_ret
  exact ⟨rfl, hB22⟩

/-! ### THE ROW's STEP -/
set_option maxHeartbeats 400000 in
set_option maxRecDepth 100000 in
theorem lifted (os : Os) (started : os.Started) (H : Type) (enc : TypeId × Value → H) :
    ReturnsInHanded {} Try.checked os 5 .any (Rows.fnExactCanPeelSpec.pre6 enc Try.prog Try.f5 Rows.fnExactCanPeelRow.domain false) (Rows.fnExactCanPeelSpec.post enc Try.prog Try.f5 false true false false) := by
  refine returnsInHanded_of_change (C := Try.checked) own started (by kernel_rfl) Try.func5
    (ChangeSpec.witness6 (enc := enc) (C := Try.checked) false ⟨#[], #[.slice none 0 0, .agg #[.slice none 0 0]], []⟩ 8 (by kernel_rfl) (by kernel_rfl) (by kernel_rfl) (by kernel_rfl)) ?_
  intro W base args ds gs before hval0 hW hcnd _
  have hval : ∀ (j : Nat) t v, Try.f5.params[j]? = some t → args[j]? = some v → Value.okWide Try.prog W .any base t v := hval0
  have hW' := hW
  obtain ⟨p, q, hA0, hV, rfl, hfz, hnd⟩ := hW
  have hA : DataW.TrodAll enc Try.prog W 0 (fun _ => true) true Try.f5.params.toList args.toList ds p := hA0
  rw [Try.params5] at hA hval
  obtain ⟨v0, vs0, d0, ds0, p0, q0, hargs, rfl, rfl, h0, r0⟩ := trodAll_cons hA
  obtain ⟨v1, vs1, d1, ds1, p1, q1, rfl, rfl, rfl, h1, r1⟩ := trodAll_cons r0
  obtain ⟨rfl, rfl, rfl⟩ := trodAll_nil r1
  obtain rfl : args = #[v0, v1] := by cases args; simp_all
  obtain ⟨rfl, rfl⟩ := trodVars_none hV
  obtain ⟨a0, len0, cap0, rfl⟩ := okWide_slice Try.underlying25 (hval 0 25 v0 rfl rfl)
  have k0 := h0
  have lt0 : ∀ x ∈ p0, x.block < W.heap.size := by obtain ⟨m, hm⟩ := k0; exact DataW.trod_lt m _ _ _ hm
  obtain ⟨z0, w0⟩ : ∃ zs, IsRow .i64 W a0 len0 cap0 zs := by
    obtain ⟨fuel, hf⟩ := h0
    rcases open_ints Try.underlying25 Try.underlying3 (by kernel_rfl) hf with ⟨hcs, _⟩ | ⟨x, l, c, zs, hcs, _, hl, hm, hz, _, hcell, hwz⟩
    · simp [Value.cells] at hcs
      obtain ⟨rfl, rfl, rfl⟩ := hcs
      exact ⟨[], .inl ⟨rfl, rfl, rfl, rfl⟩⟩
    · simp [Value.cells] at hcs
      obtain ⟨rfl, rfl, rfl⟩ := hcs
      exact ⟨zs, .inr ⟨_, rfl, hl, hm, by simpa using hz, hcell, hwz⟩⟩
  obtain ⟨cs1, rfl, hsz1⟩ := okWide_struct Try.underlying37 (hval 1 37 v1 rfl rfl)
  have k1 := h1
  have lt1 : ∀ x ∈ p1, x.block < W.heap.size := by obtain ⟨m, hm⟩ := k1; exact DataW.trod_lt m _ _ _ hm
  have one1 : Try.prog.cellsOf 37 = 1 := by kernel_rfl
  have onef1 : Try.prog.cellsOf 22 = 1 := by kernel_rfl
  obtain ⟨c1, rfl⟩ := array_one (hsz1.trans one1)
  obtain ⟨a1, len1, cap1, z1, rfl, w1⟩ : ∃ a n c zs, c1 = .slice a n c ∧ IsRow .u8 W a n c zs := by
    obtain ⟨fuel, hf0⟩ := h1
    obtain ⟨y0, fuel', _, _, hf1⟩ := trod_struct1 Try.underlying37 hf0
    have hf : DataW.trod enc Try.prog W 0 (fun _ => true) true fuel' 22 [c1] = some y0 := by simpa [Value.cells, onef1] using hf1
    rcases open_ints Try.underlying22 Try.underlying5 (by kernel_rfl) hf with ⟨hcs, _⟩ | ⟨x, l, c, zs, hcs, _, hl, hm, hz, _, hcell, hwz⟩
    · simp at hcs
      exact ⟨none, 0, 0, [], hcs, .inl ⟨rfl, rfl, rfl, rfl⟩⟩
    · simp at hcs
      exact ⟨some x, l, c, zs, hcs, .inr ⟨_, rfl, hl, hm, by simpa using hz, hcell, hwz⟩⟩
  clear hA0 hval0
  refine (walk a0 len0 cap0 z0 a1 len1 cap1 z1 W w0 w1).mono fun e W' ⟨he, bel⟩ => ?_
  subst he
  exact ⟨_, rfl, _, _, _, [], _, [], hW', trodAll_mk1 (shut_bool Try.underlying4 _), (trodAll_cons_mk (Below.trod laidOut (by kernel_rfl) (of_decide_eq_true (by kernel_rfl)) k0 bel lt0) (trodAll_cons_mk (Below.trod laidOut (by kernel_rfl) (of_decide_eq_true (by kernel_rfl)) k1 bel lt1) trodAll_mk0)), rfl, bel.frame _, fun h => by cases h⟩

theorem over : Rows.fnExactCanPeelRow.holds Try.pinned (OpenSpec.ofChange Rows.fnExactCanPeelSpec) :=
  OpenClaim.holds_of_wide 5 Try.f5 rfl rfl rfl rfl rfl rfl rfl ⟨rfl, rfl, rfl, rfl, rfl⟩ rfl rfl rfl rfl rfl (by kernel_rfl) Try.func5 (by kernel_rfl)
    (of_decide_eq_true (by kernel_rfl)) (by unfold Func.isWrapper; first | (rw [if_pos (by decide +kernel)]; kernel_rfl) | (rw [if_neg (by decide +kernel)]; exact ⟨rfl, rfl⟩))
    (fun os started H enc _ => lifted os started H enc)

theorem proved : Rows.FnExactCanPeelSaid := over
#print axioms proved
end Go.Proofs.Ytjehcmmbbjidkaa.fnExactCanPeel
