/-
  Fragments: when one is in order; contracts of PieceOk, of both sides.
-/
import Derived.Test.YtpapkonejkdkhaaMk
namespace Go.Proofs.Ytpapkonejkdkhaa
set_option maxRecDepth 100000
set_option linter.unusedVariables false
set_option linter.unusedSimpArgs false
open Go.ChangeShapes Go.WideShapes Go.ChangeAt Go.RowKit
/-- A fragment in order: its number, place, total, and so many bytes. -/
def PcN (i a t : Int) (n : Nat) : Prop := 0 ≤ i ∧ i ≤ 255 ∧ t ≤ 8 ∧ 0 ≤ a ∧ a < t ∧ n ≤ 20 ∧ (a < t - 1 → n = 20) ∧ (a = t - 1 → 0 < n ∨ t = 1)
instance (i a t : Int) (n : Nat) : Decidable (PcN i a t n) := by unfold PcN; infer_instance
def PcOk (p : DPiece) : Prop := PcN p.1 p.2.1 p.2.2.1 p.2.2.2.length
instance (p : DPiece) : Decidable (PcOk p) := by unfold PcOk; infer_instance
set_option maxHeartbeats 1000000 in
theorem s_PieceOkN (w : World) (A3 : Option Addr) (n3 c3 : Nat) (x0 x1 x2 : Int) (b : Bool) (rg1 : -9223372036854775808 ≤ x2 ∧ x2 ≤ 9223372036854775807) (T : PcN x0 x1 x2 n3 → b = true) (F : ¬ PcN x0 x1 x2 n3 → b = false) :
    Calls Try.prog 72 #[.agg #[.int .i64 x0, .int .i64 x1, .int .i64 x2, .slice A3 n3 c3]] w fun e w' => e = .returned (.bool b) ∧ Below w.heap.size w w' := by
  unfold PcN at T F
  by_cases h1 : x0 < 0
  · have := F (by omega); subst this; clear F T
    go_enter Try.func72, Try.ntmps72
    go_wp2
    go_ret
    exact ⟨rfl, (by repeat (first | (with_reducible exact Below.refl _ _) | (with_reducible assumption) | (with_reducible refine bel_alloc ?_ _) | (with_reducible refine bel_drew ?_) | (with_reducible refine below_drewN ?_ _) | (with_reducible refine bel_put ?_ (by first | exact Nat.le_refl _ | (simp; done) | (simp; omega)) _)))⟩
  by_cases h2 : 255 < x0
  · have := F (by omega); subst this; clear F T
    go_enter Try.func72, Try.ntmps72
    go_wp2
    go_ret
    exact ⟨rfl, (by repeat (first | (with_reducible exact Below.refl _ _) | (with_reducible assumption) | (with_reducible refine bel_alloc ?_ _) | (with_reducible refine bel_drew ?_) | (with_reducible refine below_drewN ?_ _) | (with_reducible refine bel_put ?_ (by first | exact Nat.le_refl _ | (simp; done) | (simp; omega)) _)))⟩
  by_cases h3 : x2 < 1
  · have := F (by omega); subst this; clear F T
    go_enter Try.func72, Try.ntmps72
    go_wp2
    go_ret
    exact ⟨rfl, (by repeat (first | (with_reducible exact Below.refl _ _) | (with_reducible assumption) | (with_reducible refine bel_alloc ?_ _) | (with_reducible refine bel_drew ?_) | (with_reducible refine below_drewN ?_ _) | (with_reducible refine bel_put ?_ (by first | exact Nat.le_refl _ | (simp; done) | (simp; omega)) _)))⟩
  by_cases h4 : 8 < x2
  · have := F (by omega); subst this; clear F T
    go_enter Try.func72, Try.ntmps72
    go_wp2
    go_ret
    exact ⟨rfl, (by repeat (first | (with_reducible exact Below.refl _ _) | (with_reducible assumption) | (with_reducible refine bel_alloc ?_ _) | (with_reducible refine bel_drew ?_) | (with_reducible refine below_drewN ?_ _) | (with_reducible refine bel_put ?_ (by first | exact Nat.le_refl _ | (simp; done) | (simp; omega)) _)))⟩
  by_cases h5 : x1 < 0
  · have := F (by omega); subst this; clear F T
    go_enter Try.func72, Try.ntmps72
    go_wp2
    go_ret
    exact ⟨rfl, (by repeat (first | (with_reducible exact Below.refl _ _) | (with_reducible assumption) | (with_reducible refine bel_alloc ?_ _) | (with_reducible refine bel_drew ?_) | (with_reducible refine below_drewN ?_ _) | (with_reducible refine bel_put ?_ (by first | exact Nat.le_refl _ | (simp; done) | (simp; omega)) _)))⟩
  by_cases h6 : x2 ≤ x1
  · have := F (by omega); subst this; clear F T
    go_enter Try.func72, Try.ntmps72
    go_wp2
    go_ret
    exact ⟨rfl, (by repeat (first | (with_reducible exact Below.refl _ _) | (with_reducible assumption) | (with_reducible refine bel_alloc ?_ _) | (with_reducible refine bel_drew ?_) | (with_reducible refine below_drewN ?_ _) | (with_reducible refine bel_put ?_ (by first | exact Nat.le_refl _ | (simp; done) | (simp; omega)) _)))⟩
  by_cases h7 : 20 < n3
  · have := F (by omega); subst this; clear F T
    have q : (20 : Int) < n3 := by omega
    go_enter Try.func72, Try.ntmps72
    go_wp2
    go_ret
    exact ⟨rfl, (by repeat (first | (with_reducible exact Below.refl _ _) | (with_reducible assumption) | (with_reducible refine bel_alloc ?_ _) | (with_reducible refine bel_drew ?_) | (with_reducible refine below_drewN ?_ _) | (with_reducible refine bel_put ?_ (by first | exact Nat.le_refl _ | (simp; done) | (simp; omega)) _)))⟩
  have q7 : ¬ (20 : Int) < n3 := by omega
  by_cases h8 : x1 < x2 - 1
  · by_cases h9 : n3 = 20
    · have := T (by omega); subst this h9; clear F T
      go_enter Try.func72, Try.ntmps72
      go_wp2
      go_ret
      exact ⟨rfl, (by repeat (first | (with_reducible exact Below.refl _ _) | (with_reducible assumption) | (with_reducible refine bel_alloc ?_ _) | (with_reducible refine bel_drew ?_) | (with_reducible refine below_drewN ?_ _) | (with_reducible refine bel_put ?_ (by first | exact Nat.le_refl _ | (simp; done) | (simp; omega)) _)))⟩
    · have := F (by omega); subst this; clear F T
      have q9 : ((n3 : Int) == 20) = false := by simp; omega
      go_enter Try.func72, Try.ntmps72
      go_wp2
      go_ret
      exact ⟨by first | (simp; done) | (simp; omega), (by repeat (first | (with_reducible exact Below.refl _ _) | (with_reducible assumption) | (with_reducible refine bel_alloc ?_ _) | (with_reducible refine bel_drew ?_) | (with_reducible refine below_drewN ?_ _) | (with_reducible refine bel_put ?_ (by first | exact Nat.le_refl _ | (simp; done) | (simp; omega)) _)))⟩
  · by_cases h9 : 0 < n3
    · have := T (by omega); subst this; clear F T
      have q9 : (0 : Int) < n3 := by omega
      go_enter Try.func72, Try.ntmps72
      go_wp2
      go_ret
      exact ⟨rfl, (by repeat (first | (with_reducible exact Below.refl _ _) | (with_reducible assumption) | (with_reducible refine bel_alloc ?_ _) | (with_reducible refine bel_drew ?_) | (with_reducible refine below_drewN ?_ _) | (with_reducible refine bel_put ?_ (by first | exact Nat.le_refl _ | (simp; done) | (simp; omega)) _)))⟩
    · have q9 : ¬ (0 : Int) < n3 := by omega
      by_cases h10 : x2 = 1
      · have := T (by omega); subst this h10; clear F T
        go_enter Try.func72, Try.ntmps72
        go_wp2
        go_ret
        exact ⟨rfl, (by repeat (first | (with_reducible exact Below.refl _ _) | (with_reducible assumption) | (with_reducible refine bel_alloc ?_ _) | (with_reducible refine bel_drew ?_) | (with_reducible refine below_drewN ?_ _) | (with_reducible refine bel_put ?_ (by first | exact Nat.le_refl _ | (simp; done) | (simp; omega)) _)))⟩
      · have := F (by omega); subst this; clear F T
        have q10 : (x2 == 1) = false := by simpa using h10
        go_enter Try.func72, Try.ntmps72
        go_wp2
        go_ret
        exact ⟨by first | (simp; done) | (simp; omega), (by repeat (first | (with_reducible exact Below.refl _ _) | (with_reducible assumption) | (with_reducible refine bel_alloc ?_ _) | (with_reducible refine bel_drew ?_) | (with_reducible refine below_drewN ?_ _) | (with_reducible refine bel_put ?_ (by first | exact Nat.le_refl _ | (simp; done) | (simp; omega)) _)))⟩
theorem s_PieceOk {w : World} {cs : List Value} {p : DPiece} (h : tPiece.R w w.heap.size cs p) (hz : szPiece p ≤ 1048576) :
    Calls Try.prog 72 #[.agg cs.toArray] w fun e w' => e = .returned (.bool (decide (PcOk p))) ∧ Below w.heap.size w w' := by
  obtain ⟨A3, n3, c3, rfl, hi0, hi1, hi2, ha3, hb3, hl3, hr3⟩ := openPiece h
  have rg := i64_rg hi2
  exact s_PieceOkN w A3 n3 c3 _ _ _ _ ⟨by omega, by omega⟩ (fun hh => decide_eq_true (by unfold PcOk; rw [hl3]; exact hh)) (fun hh => decide_eq_false (by unfold PcOk; rw [hl3]; exact hh))
theorem i_isId_t (x : Int) (w : World) (h1 : 0 ≤ x) (h2 : x ≤ 255) : Calls Try.prog 112 #[.int .i64 x] w fun e w' => e = .returned (.bool true) ∧ w = w' := by
  go_enter Try.func112, Try.ntmps112
  go_wp2
  go_ret
  exact ⟨rfl, rfl⟩
theorem i_isId_f (x : Int) (w : World) (h : ¬ (0 ≤ x ∧ x ≤ 255)) : Calls Try.prog 112 #[.int .i64 x] w fun e w' => e = .returned (.bool false) ∧ w = w' := by
  by_cases h1 : x < 0
  · clear h
    go_enter Try.func112, Try.ntmps112
    go_wp2
    go_ret
    exact ⟨rfl, rfl⟩
  · have h2 : 255 < x := by omega
    clear h
    go_enter Try.func112, Try.ntmps112
    go_wp2
    go_ret
    exact ⟨ret_bool (by simp; omega), rfl⟩
set_option maxHeartbeats 1000000 in
theorem i_PieceOkN (w : World) (A3 : Option Addr) (n3 c3 : Nat) (x0 x1 x2 : Int) (b : Bool) (rg1 : -9223372036854775808 ≤ x2 ∧ x2 ≤ 9223372036854775807) (T : PcN x0 x1 x2 n3 → b = true) (F : ¬ PcN x0 x1 x2 n3 → b = false) :
    Calls Try.prog 150 #[.agg #[.int .i64 x0, .int .i64 x1, .int .i64 x2, .slice A3 n3 c3]] w fun e w' => e = .returned (.bool b) ∧ Below w.heap.size w w' := by
  unfold PcN at T F
  by_cases h1 : ¬ (0 ≤ x0 ∧ x0 ≤ 255)
  · have := F (by omega); subst this; clear F T
    go_enter Try.func150, Try.ntmps150
    go_wp2_with (go_at_call 112; refine (i_isId_f _ _ (by omega)).mono ?_; rintro e w' ⟨rfl, rfl⟩)
    go_ret
    exact ⟨rfl, (by repeat (first | (with_reducible exact Below.refl _ _) | (with_reducible assumption) | (with_reducible refine bel_alloc ?_ _) | (with_reducible refine bel_drew ?_) | (with_reducible refine below_drewN ?_ _) | (with_reducible refine bel_put ?_ (by first | exact Nat.le_refl _ | (simp; done) | (simp; omega)) _)))⟩
  by_cases h4 : 8 < x2
  · have := F (by omega); subst this; clear F T
    go_enter Try.func150, Try.ntmps150
    go_wp2_with (go_at_call 112; refine (i_isId_t _ _ (by omega) (by omega)).mono ?_; rintro e w' ⟨rfl, rfl⟩)
    go_ret
    exact ⟨rfl, (by repeat (first | (with_reducible exact Below.refl _ _) | (with_reducible assumption) | (with_reducible refine bel_alloc ?_ _) | (with_reducible refine bel_drew ?_) | (with_reducible refine below_drewN ?_ _) | (with_reducible refine bel_put ?_ (by first | exact Nat.le_refl _ | (simp; done) | (simp; omega)) _)))⟩
  by_cases h5 : x1 < 0
  · have := F (by omega); subst this; clear F T
    go_enter Try.func150, Try.ntmps150
    go_wp2_with (go_at_call 112; refine (i_isId_t _ _ (by omega) (by omega)).mono ?_; rintro e w' ⟨rfl, rfl⟩)
    go_ret
    exact ⟨rfl, (by repeat (first | (with_reducible exact Below.refl _ _) | (with_reducible assumption) | (with_reducible refine bel_alloc ?_ _) | (with_reducible refine bel_drew ?_) | (with_reducible refine below_drewN ?_ _) | (with_reducible refine bel_put ?_ (by first | exact Nat.le_refl _ | (simp; done) | (simp; omega)) _)))⟩
  by_cases h6 : x2 ≤ x1
  · have := F (by omega); subst this; clear F T
    go_enter Try.func150, Try.ntmps150
    go_wp2_with (go_at_call 112; refine (i_isId_t _ _ (by omega) (by omega)).mono ?_; rintro e w' ⟨rfl, rfl⟩)
    go_ret
    exact ⟨rfl, (by repeat (first | (with_reducible exact Below.refl _ _) | (with_reducible assumption) | (with_reducible refine bel_alloc ?_ _) | (with_reducible refine bel_drew ?_) | (with_reducible refine below_drewN ?_ _) | (with_reducible refine bel_put ?_ (by first | exact Nat.le_refl _ | (simp; done) | (simp; omega)) _)))⟩
  by_cases h8 : x1 < x2 - 1
  · by_cases h9 : n3 = 20
    · have := T (by omega); subst this; clear F T; subst h9
      go_enter Try.func150, Try.ntmps150
      go_wp2_with (go_at_call 112; refine (i_isId_t _ _ (by omega) (by omega)).mono ?_; rintro e w' ⟨rfl, rfl⟩)
      go_ret
      exact ⟨rfl, (by repeat (first | (with_reducible exact Below.refl _ _) | (with_reducible assumption) | (with_reducible refine bel_alloc ?_ _) | (with_reducible refine bel_drew ?_) | (with_reducible refine below_drewN ?_ _) | (with_reducible refine bel_put ?_ (by first | exact Nat.le_refl _ | (simp; done) | (simp; omega)) _)))⟩
    · have := F (by omega); subst this; clear F T
      have q9 : ((n3 : Int) == 20) = false := by simp; omega
      go_enter Try.func150, Try.ntmps150
      go_wp2_with (go_at_call 112; refine (i_isId_t _ _ (by omega) (by omega)).mono ?_; rintro e w' ⟨rfl, rfl⟩)
      go_ret
      exact ⟨by first | (simp; done) | (simp; omega), (by repeat (first | (with_reducible exact Below.refl _ _) | (with_reducible assumption) | (with_reducible refine bel_alloc ?_ _) | (with_reducible refine bel_drew ?_) | (with_reducible refine below_drewN ?_ _) | (with_reducible refine bel_put ?_ (by first | exact Nat.le_refl _ | (simp; done) | (simp; omega)) _)))⟩
  · by_cases h7 : 20 < n3
    · have := F (by omega); subst this; clear F T
      have q : ¬ (n3 : Int) ≤ 20 := by omega
      go_enter Try.func150, Try.ntmps150
      go_wp2_with (go_at_call 112; refine (i_isId_t _ _ (by omega) (by omega)).mono ?_; rintro e w' ⟨rfl, rfl⟩)
      go_ret
      exact ⟨rfl, (by repeat (first | (with_reducible exact Below.refl _ _) | (with_reducible assumption) | (with_reducible refine bel_alloc ?_ _) | (with_reducible refine bel_drew ?_) | (with_reducible refine below_drewN ?_ _) | (with_reducible refine bel_put ?_ (by first | exact Nat.le_refl _ | (simp; done) | (simp; omega)) _)))⟩
    have q7 : (n3 : Int) ≤ 20 := by omega
    by_cases h9 : 0 < n3
    · have := T (by omega); subst this; clear F T
      have q9 : (0 : Int) < n3 := by omega
      go_enter Try.func150, Try.ntmps150
      go_wp2_with (go_at_call 112; refine (i_isId_t _ _ (by omega) (by omega)).mono ?_; rintro e w' ⟨rfl, rfl⟩)
      go_ret
      exact ⟨rfl, (by repeat (first | (with_reducible exact Below.refl _ _) | (with_reducible assumption) | (with_reducible refine bel_alloc ?_ _) | (with_reducible refine bel_drew ?_) | (with_reducible refine below_drewN ?_ _) | (with_reducible refine bel_put ?_ (by first | exact Nat.le_refl _ | (simp; done) | (simp; omega)) _)))⟩
    · have q9 : ¬ (0 : Int) < n3 := by omega
      by_cases h10 : x2 = 1
      · have := T (by omega); subst this; clear F T; subst h10
        go_enter Try.func150, Try.ntmps150
        go_wp2_with (go_at_call 112; refine (i_isId_t _ _ (by omega) (by omega)).mono ?_; rintro e w' ⟨rfl, rfl⟩)
        go_ret
        exact ⟨rfl, (by repeat (first | (with_reducible exact Below.refl _ _) | (with_reducible assumption) | (with_reducible refine bel_alloc ?_ _) | (with_reducible refine bel_drew ?_) | (with_reducible refine below_drewN ?_ _) | (with_reducible refine bel_put ?_ (by first | exact Nat.le_refl _ | (simp; done) | (simp; omega)) _)))⟩
      · have := F (by omega); subst this; clear F T
        have q10 : (x2 == 1) = false := by simpa using h10
        go_enter Try.func150, Try.ntmps150
        go_wp2_with (go_at_call 112; refine (i_isId_t _ _ (by omega) (by omega)).mono ?_; rintro e w' ⟨rfl, rfl⟩)
        go_ret
        exact ⟨by first | (simp; done) | (simp; omega), (by repeat (first | (with_reducible exact Below.refl _ _) | (with_reducible assumption) | (with_reducible refine bel_alloc ?_ _) | (with_reducible refine bel_drew ?_) | (with_reducible refine below_drewN ?_ _) | (with_reducible refine bel_put ?_ (by first | exact Nat.le_refl _ | (simp; done) | (simp; omega)) _)))⟩
theorem i_PieceOk {w : World} {cs : List Value} {p : DPiece} (h : tPiece.R w w.heap.size cs p) (hz : szPiece p ≤ 1048576) :
    Calls Try.prog 150 #[.agg cs.toArray] w fun e w' => e = .returned (.bool (decide (PcOk p))) ∧ Below w.heap.size w w' := by
  obtain ⟨A3, n3, c3, rfl, hi0, hi1, hi2, ha3, hb3, hl3, hr3⟩ := openPiece h
  have rg := i64_rg hi2
  exact i_PieceOkN w A3 n3 c3 _ _ _ _ ⟨by omega, by omega⟩ (fun hh => decide_eq_true (by unfold PcOk; rw [hl3]; exact hh)) (fun hh => decide_eq_false (by unfold PcOk; rw [hl3]; exact hh))
end Go.Proofs.Ytpapkonejkdkhaa
