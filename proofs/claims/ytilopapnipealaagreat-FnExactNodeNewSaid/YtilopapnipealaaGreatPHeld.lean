/-
  Cells in a pool: when one is in order; contracts of HeldOk, of both sides.
-/
import Derived.Test.YtilopapnipealaaGreatMk
namespace Go.Proofs.YtilopapnipealaaGreat
set_option maxRecDepth 100000
set_option linter.unusedVariables false
set_option linter.unusedSimpArgs false
open Go.ChangeShapes Go.WideShapes Go.ChangeAt Go.RowKit
/-- A held cell in order: its next node, its time, and so many bytes. -/
def HdN (a d : Int) (n : Nat) : Prop := 0 ≤ a ∧ a < 8 ∧ 0 ≤ d ∧ d ≤ 65535 ∧ n = 80
instance (a d : Int) (n : Nat) : Decidable (HdN a d n) := by unfold HdN; infer_instance
def HdOk (p : DHeld) : Prop := HdN p.1 p.2.1 p.2.2.length
instance (p : DHeld) : Decidable (HdOk p) := by unfold HdOk; infer_instance
theorem sh_CellOk_t (A : Option Addr) (c : Nat) (w : World) :
    Calls Tryz.prog 160 #[.agg #[.slice A 80 c]] w fun e w' => e = .returned (.bool true) ∧ Below w.heap.size w w' := by
  go_enter Tryz.func160, Tryz.ntmps160
  go_wp2
  go_ret
  exact ⟨rfl, (by repeat (first | (with_reducible exact Below.refl _ _) | (with_reducible assumption) | (with_reducible refine bel_alloc ?_ _) | (with_reducible refine bel_drew ?_) | (with_reducible refine below_drewN ?_ _) | (with_reducible refine bel_put ?_ (by first | exact Nat.le_refl _ | (simp; done) | (simp; omega)) _)))⟩
theorem sh_CellOk_f (A : Option Addr) (n c : Nat) (w : World) (h : ¬ n = 80) :
    Calls Tryz.prog 160 #[.agg #[.slice A n c]] w fun e w' => e = .returned (.bool false) ∧ Below w.heap.size w w' := by
  have q : ((n : Int) == 80) = false := by simp; omega
  go_enter Tryz.func160, Tryz.ntmps160
  go_wp2
  go_ret
  exact ⟨ret_bool (by first | exact q | (simp; done) | (simp; omega)), (by repeat (first | (with_reducible exact Below.refl _ _) | (with_reducible assumption) | (with_reducible refine bel_alloc ?_ _) | (with_reducible refine bel_drew ?_) | (with_reducible refine below_drewN ?_ _) | (with_reducible refine bel_put ?_ (by first | exact Nat.le_refl _ | (simp; done) | (simp; omega)) _)))⟩
theorem s_HeldOkN (w : World) (A2 : Option Addr) (n2 c2 : Nat) (x0 x1 : Int) (b : Bool) (T : HdN x0 x1 n2 → b = true) (F : ¬ HdN x0 x1 n2 → b = false) :
    Calls Tryz.prog 103 #[.agg #[.int .i64 x0, .int .i64 x1, .slice A2 n2 c2]] w fun e w' => e = .returned (.bool b) ∧ Below w.heap.size w w' := by
  unfold HdN at T F
  by_cases h1 : x0 < 0
  · have := F (by omega); subst this; clear F T
    go_enter Tryz.func103, Tryz.ntmps103
    go_wp2
    go_ret
    exact ⟨rfl, (by repeat (first | (with_reducible exact Below.refl _ _) | (with_reducible assumption) | (with_reducible refine bel_alloc ?_ _) | (with_reducible refine bel_drew ?_) | (with_reducible refine below_drewN ?_ _) | (with_reducible refine bel_put ?_ (by first | exact Nat.le_refl _ | (simp; done) | (simp; omega)) _)))⟩
  by_cases h2 : 8 ≤ x0
  · have := F (by omega); subst this; clear F T
    go_enter Tryz.func103, Tryz.ntmps103
    go_wp2
    go_ret
    exact ⟨rfl, (by repeat (first | (with_reducible exact Below.refl _ _) | (with_reducible assumption) | (with_reducible refine bel_alloc ?_ _) | (with_reducible refine bel_drew ?_) | (with_reducible refine below_drewN ?_ _) | (with_reducible refine bel_put ?_ (by first | exact Nat.le_refl _ | (simp; done) | (simp; omega)) _)))⟩
  by_cases h3 : x1 < 0
  · have := F (by omega); subst this; clear F T
    go_enter Tryz.func103, Tryz.ntmps103
    go_wp2
    go_ret
    exact ⟨rfl, (by repeat (first | (with_reducible exact Below.refl _ _) | (with_reducible assumption) | (with_reducible refine bel_alloc ?_ _) | (with_reducible refine bel_drew ?_) | (with_reducible refine below_drewN ?_ _) | (with_reducible refine bel_put ?_ (by first | exact Nat.le_refl _ | (simp; done) | (simp; omega)) _)))⟩
  by_cases h4 : 65535 < x1
  · have := F (by omega); subst this; clear F T
    go_enter Tryz.func103, Tryz.ntmps103
    go_wp2
    go_ret
    exact ⟨rfl, (by repeat (first | (with_reducible exact Below.refl _ _) | (with_reducible assumption) | (with_reducible refine bel_alloc ?_ _) | (with_reducible refine bel_drew ?_) | (with_reducible refine below_drewN ?_ _) | (with_reducible refine bel_put ?_ (by first | exact Nat.le_refl _ | (simp; done) | (simp; omega)) _)))⟩
  by_cases h5 : n2 = 80
  · have := T (by omega); subst this; clear F T; subst h5
    go_enter Tryz.func103, Tryz.ntmps103
    go_wp2_with ((go_at_call 160; refine (sh_CellOk_t _ _ _).mono ?_; rintro e w1 ⟨rfl, hb1⟩))
    go_ret
    exact ⟨rfl, bel_trans (by repeat (first | (with_reducible exact Below.refl _ _) | (with_reducible assumption) | (with_reducible refine bel_alloc ?_ _) | (with_reducible refine bel_drew ?_) | (with_reducible refine below_drewN ?_ _) | (with_reducible refine bel_put ?_ (by first | exact Nat.le_refl _ | (simp; done) | (simp; omega)) _))) hb1⟩
  · have := F (by omega); subst this; clear F T
    go_enter Tryz.func103, Tryz.ntmps103
    go_wp2_with ((go_at_call 160; refine (sh_CellOk_f _ _ _ _ (by omega)).mono ?_; rintro e w1 ⟨rfl, hb1⟩))
    go_ret
    exact ⟨rfl, bel_trans (by repeat (first | (with_reducible exact Below.refl _ _) | (with_reducible assumption) | (with_reducible refine bel_alloc ?_ _) | (with_reducible refine bel_drew ?_) | (with_reducible refine below_drewN ?_ _) | (with_reducible refine bel_put ?_ (by first | exact Nat.le_refl _ | (simp; done) | (simp; omega)) _))) hb1⟩
theorem s_HeldOkR {w : World} {cs : List Value} {p : DHeld} (h : tHeld.R w w.heap.size cs p) :
    Calls Tryz.prog 103 #[.agg cs.toArray] w fun e w' => e = .returned (.bool (decide (HdOk p))) ∧ Below w.heap.size w w' := by
  obtain ⟨A2, n2, c2, rfl, hi0, hi1, ha2, hb2, hl2, hr2⟩ := openHeld h
  exact s_HeldOkN w A2 n2 c2 _ _ _ (fun hh => decide_eq_true (by unfold HdOk; rw [hl2]; exact hh)) (fun hh => decide_eq_false (by unfold HdOk; rw [hl2]; exact hh))
theorem s_HeldOk {w : World} {cs : List Value} {p : DHeld} (h : tHeld.R w w.heap.size cs p) (hz : szHeld p ≤ 1048576) :
    Calls Tryz.prog 103 #[.agg cs.toArray] w fun e w' => e = .returned (.bool (decide (HdOk p))) ∧ Below w.heap.size w w' := by
  obtain ⟨A2, n2, c2, rfl, hi0, hi1, ha2, hb2, hl2, hr2⟩ := openHeld h
  exact s_HeldOkN w A2 n2 c2 _ _ _ (fun hh => decide_eq_true (by unfold HdOk; rw [hl2]; exact hh)) (fun hh => decide_eq_false (by unfold HdOk; rw [hl2]; exact hh))
theorem ih_CellOk_t (A : Option Addr) (c : Nat) (w : World) :
    Calls Tryz.prog 162 #[.agg #[.slice A 80 c]] w fun e w' => e = .returned (.bool true) ∧ Below w.heap.size w w' := by
  go_enter Tryz.func162, Tryz.ntmps162
  go_wp2
  go_ret
  exact ⟨rfl, (by repeat (first | (with_reducible exact Below.refl _ _) | (with_reducible assumption) | (with_reducible refine bel_alloc ?_ _) | (with_reducible refine bel_drew ?_) | (with_reducible refine below_drewN ?_ _) | (with_reducible refine bel_put ?_ (by first | exact Nat.le_refl _ | (simp; done) | (simp; omega)) _)))⟩
theorem ih_CellOk_f (A : Option Addr) (n c : Nat) (w : World) (h : ¬ n = 80) :
    Calls Tryz.prog 162 #[.agg #[.slice A n c]] w fun e w' => e = .returned (.bool false) ∧ Below w.heap.size w w' := by
  have q : ((n : Int) == 80) = false := by simp; omega
  go_enter Tryz.func162, Tryz.ntmps162
  go_wp2
  go_ret
  exact ⟨ret_bool (by first | exact q | (simp; done) | (simp; omega)), (by repeat (first | (with_reducible exact Below.refl _ _) | (with_reducible assumption) | (with_reducible refine bel_alloc ?_ _) | (with_reducible refine bel_drew ?_) | (with_reducible refine below_drewN ?_ _) | (with_reducible refine bel_put ?_ (by first | exact Nat.le_refl _ | (simp; done) | (simp; omega)) _)))⟩
theorem ih_isNode_t (x : Int) (w : World) (h1 : 0 ≤ x) (h2 : x < 8) : Calls Tryz.prog 55 #[.int .i64 x] w fun e w' => e = .returned (.bool true) ∧ w = w' := by
  go_enter Tryz.func55, Tryz.ntmps55
  go_wp2
  go_ret
  exact ⟨ret_bool (by first | (simp; done) | (simp; omega)), rfl⟩
theorem ih_isNode_f (x : Int) (w : World) (h : ¬ (0 ≤ x ∧ x < 8)) : Calls Tryz.prog 55 #[.int .i64 x] w fun e w' => e = .returned (.bool false) ∧ w = w' := by
  by_cases h1 : x < 0
  · clear h
    go_enter Tryz.func55, Tryz.ntmps55
    go_wp2
    go_ret
    exact ⟨rfl, rfl⟩
  · have h2 : 8 ≤ x := by omega
    clear h
    go_enter Tryz.func55, Tryz.ntmps55
    go_wp2
    go_ret
    exact ⟨ret_bool (by first | (simp; done) | (simp; omega)), rfl⟩
theorem ih_isDue_t (x : Int) (w : World) (h1 : 0 ≤ x) (h2 : x ≤ 65535) : Calls Tryz.prog 81 #[.int .i64 x] w fun e w' => e = .returned (.bool true) ∧ w = w' := by
  go_enter Tryz.func81, Tryz.ntmps81
  go_wp2
  go_ret
  exact ⟨ret_bool (by first | (simp; done) | (simp; omega)), rfl⟩
theorem ih_isDue_f (x : Int) (w : World) (h : ¬ (0 ≤ x ∧ x ≤ 65535)) : Calls Tryz.prog 81 #[.int .i64 x] w fun e w' => e = .returned (.bool false) ∧ w = w' := by
  by_cases h1 : x < 0
  · clear h
    go_enter Tryz.func81, Tryz.ntmps81
    go_wp2
    go_ret
    exact ⟨rfl, rfl⟩
  · have h2 : 65535 < x := by omega
    clear h
    go_enter Tryz.func81, Tryz.ntmps81
    go_wp2
    go_ret
    exact ⟨ret_bool (by first | (simp; done) | (simp; omega)), rfl⟩
theorem i_HeldOkN (w : World) (A2 : Option Addr) (n2 c2 : Nat) (x0 x1 : Int) (b : Bool) (T : HdN x0 x1 n2 → b = true) (F : ¬ HdN x0 x1 n2 → b = false) :
    Calls Tryz.prog 108 #[.agg #[.int .i64 x0, .int .i64 x1, .slice A2 n2 c2]] w fun e w' => e = .returned (.bool b) ∧ Below w.heap.size w w' := by
  unfold HdN at T F
  by_cases h1 : ¬ (0 ≤ x0 ∧ x0 < 8)
  · have := F (by omega); subst this; clear F T
    go_enter Tryz.func108, Tryz.ntmps108
    go_wp2_with ((go_at_call 55; refine (ih_isNode_f _ _ (by omega)).mono ?_; rintro e w' ⟨rfl, rfl⟩))
    go_ret
    exact ⟨rfl, (by repeat (first | (with_reducible exact Below.refl _ _) | (with_reducible assumption) | (with_reducible refine bel_alloc ?_ _) | (with_reducible refine bel_drew ?_) | (with_reducible refine below_drewN ?_ _) | (with_reducible refine bel_put ?_ (by first | exact Nat.le_refl _ | (simp; done) | (simp; omega)) _)))⟩
  by_cases h3 : ¬ (0 ≤ x1 ∧ x1 ≤ 65535)
  · have := F (by omega); subst this; clear F T
    go_enter Tryz.func108, Tryz.ntmps108
    go_wp2_with (first
        | (go_at_call 55; refine (ih_isNode_t _ _ (by omega) (by omega)).mono ?_; rintro e w' ⟨rfl, rfl⟩)
        | (go_at_call 81; refine (ih_isDue_f _ _ (by omega)).mono ?_; rintro e w' ⟨rfl, rfl⟩))
    go_ret
    exact ⟨rfl, (by repeat (first | (with_reducible exact Below.refl _ _) | (with_reducible assumption) | (with_reducible refine bel_alloc ?_ _) | (with_reducible refine bel_drew ?_) | (with_reducible refine below_drewN ?_ _) | (with_reducible refine bel_put ?_ (by first | exact Nat.le_refl _ | (simp; done) | (simp; omega)) _)))⟩
  by_cases h5 : n2 = 80
  · have := T (by omega); subst this; clear F T; subst h5
    go_enter Tryz.func108, Tryz.ntmps108
    go_wp2_with (first
        | (go_at_call 55; refine (ih_isNode_t _ _ (by omega) (by omega)).mono ?_; rintro e w' ⟨rfl, rfl⟩)
        | (go_at_call 81; refine (ih_isDue_t _ _ (by omega) (by omega)).mono ?_; rintro e w' ⟨rfl, rfl⟩)
        | (go_at_call 162; refine (ih_CellOk_t _ _ _).mono ?_; rintro e w1 ⟨rfl, hb1⟩))
    go_ret
    exact ⟨rfl, bel_trans (by repeat (first | (with_reducible exact Below.refl _ _) | (with_reducible assumption) | (with_reducible refine bel_alloc ?_ _) | (with_reducible refine bel_drew ?_) | (with_reducible refine below_drewN ?_ _) | (with_reducible refine bel_put ?_ (by first | exact Nat.le_refl _ | (simp; done) | (simp; omega)) _))) hb1⟩
  · have := F (by omega); subst this; clear F T
    go_enter Tryz.func108, Tryz.ntmps108
    go_wp2_with (first
        | (go_at_call 55; refine (ih_isNode_t _ _ (by omega) (by omega)).mono ?_; rintro e w' ⟨rfl, rfl⟩)
        | (go_at_call 81; refine (ih_isDue_t _ _ (by omega) (by omega)).mono ?_; rintro e w' ⟨rfl, rfl⟩)
        | (go_at_call 162; refine (ih_CellOk_f _ _ _ _ (by omega)).mono ?_; rintro e w1 ⟨rfl, hb1⟩))
    go_ret
    exact ⟨rfl, bel_trans (by repeat (first | (with_reducible exact Below.refl _ _) | (with_reducible assumption) | (with_reducible refine bel_alloc ?_ _) | (with_reducible refine bel_drew ?_) | (with_reducible refine below_drewN ?_ _) | (with_reducible refine bel_put ?_ (by first | exact Nat.le_refl _ | (simp; done) | (simp; omega)) _))) hb1⟩
theorem i_HeldOkR {w : World} {cs : List Value} {p : DHeld} (h : tHeld.R w w.heap.size cs p) :
    Calls Tryz.prog 108 #[.agg cs.toArray] w fun e w' => e = .returned (.bool (decide (HdOk p))) ∧ Below w.heap.size w w' := by
  obtain ⟨A2, n2, c2, rfl, hi0, hi1, ha2, hb2, hl2, hr2⟩ := openHeld h
  exact i_HeldOkN w A2 n2 c2 _ _ _ (fun hh => decide_eq_true (by unfold HdOk; rw [hl2]; exact hh)) (fun hh => decide_eq_false (by unfold HdOk; rw [hl2]; exact hh))
theorem i_HeldOk {w : World} {cs : List Value} {p : DHeld} (h : tHeld.R w w.heap.size cs p) (hz : szHeld p ≤ 1048576) :
    Calls Tryz.prog 108 #[.agg cs.toArray] w fun e w' => e = .returned (.bool (decide (HdOk p))) ∧ Below w.heap.size w w' := by
  obtain ⟨A2, n2, c2, rfl, hi0, hi1, ha2, hb2, hl2, hr2⟩ := openHeld h
  exact i_HeldOkN w A2 n2 c2 _ _ _ (fun hh => decide_eq_true (by unfold HdOk; rw [hl2]; exact hh)) (fun hh => decide_eq_false (by unfold HdOk; rw [hl2]; exact hh))
end Go.Proofs.YtilopapnipealaaGreat
