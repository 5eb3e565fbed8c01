/-
  Contracts of the model's functions of chapter 1.
-/
import Derived.Test.YtlakanajcabejabRows
import Derived.Test.YtlakanajcabejabFld
import Derived.WalkKit
import Derived.ProofKit
import Derived.OpenShut
import Derived.Lib.Hide
namespace Go.Proofs.Ytlakanajcabejab
open Go.ChangeShapes Go.WideShapes Go.ChangeAt Go.RowKit
open Fld

theorem ret_i64 {a b : Int} (h : a = b) : Ending.returned (.int .i64 a) = .returned (.int .i64 b) := by rw [h]
theorem ret_bool {a b : Bool} (h : a = b) : Ending.returned (.bool a) = .returned (.bool b) := by rw [h]

theorem s_FOk_t (a : Int) (w : World) (h : Ok a) :
    Calls Try.prog 18 #[.int .i64 a] w fun e w' => e = .returned (.bool true) ∧ w = w' := by
  have h1 := h.lo
  have h2 := h.hi
  go_enter Try.func18, Try.ntmps18
  go_wp2
  go_ret
  exact ⟨rfl, rfl⟩
theorem s_FOk_f (a : Int) (w : World) (h : Bad a) :
    Calls Try.prog 18 #[.int .i64 a] w fun e w' => e = .returned (.bool false) ∧ w = w' := by
  by_cases h1 : 0 ≤ a
  · have h2 : ¬ a < 2147483647 := fun x => h ⟨h1, x⟩
    go_enter Try.func18, Try.ntmps18
    go_wp2
    go_ret
    exact ⟨rfl, rfl⟩
  · go_enter Try.func18, Try.ntmps18
    go_wp2
    go_ret
    exact ⟨rfl, rfl⟩
theorem s_FOk (a : Int) (w : World) :
    Calls Try.prog 18 #[.int .i64 a] w fun e w' => e = .returned (.bool (fok a)) ∧ w = w' := by
  rcases ok_or a with h | h
  · exact (s_FOk_t a w h).mono fun e w' hh => ⟨by rw [fok_t h]; exact hh.1, hh.2⟩
  · exact (s_FOk_f a w h).mono fun e w' hh => ⟨by rw [fok_f h]; exact hh.1, hh.2⟩
theorem s_mul (a b : Int) (w : World) (h1 : 0 ≤ a) (h2 : a < 2147483647) (h3 : 0 ≤ b) (h4 : b < 2147483647) :
    Calls Try.prog 23 #[.int .i64 a, .int .i64 b] w fun e w' => e = .returned (.int .i64 (mulP a b)) ∧ w = w' := by
  obtain ⟨hb, hb'⟩ := mul_bd h1 h2 h3 h4
  go_enter Try.func23, Try.ntmps23
  go_wp2
  go_ret
  exact ⟨rfl, rfl⟩
theorem s_pow (a n : Int) (w : World) (h1 : 0 ≤ a) (h2 : a < 2147483647) (h3 : 0 ≤ n) (h4 : n ≤ 9223372036854775807) :
    Calls Try.prog 24 #[.int .i64 a, .int .i64 n] w fun e w' => e = .returned (.int .i64 (powP a n.toNat)) ∧ w = w' := by
  go_enter Try.func24, Try.ntmps24
  go_wp2
  go_loop [0, 1, 5] (fun x m r => ∃ (x' r' : Int) (k : Nat), x = .int .i64 x' ∧ m = .int .i64 k ∧ r = .int .i64 r' ∧ 0 ≤ x' ∧ x' < 2147483647 ∧ 0 ≤ r' ∧ r' < 2147483647 ∧ (k : Int) ≤ 9223372036854775807 ∧ pw r' x' k = powP a n.toNat)
    (fun _ m _ => (intOf m).toNat)
  case atStart => exact ⟨a, 1, n.toNat, rfl, by rw [Int.toNat_of_nonneg h3], rfl, h1, h2, by omega, by omega, by omega, pw_start⟩
  case round =>
    obtain ⟨x', r', k, rfl, rfl, rfl, hx1, hx2, hr1, hr2, hk, he⟩ := hrel
    have HE := Lib.hid he
    clear he
    by_cases hz : k = 0
    · subst hz
      go_wp2
      go_ret
      exact ⟨ret_i64 (by rw [← HE.out, pw_end hr1 hr2]), rfl⟩
    · have hp : 0 < k := by omega
      by_cases ho : k % 2 = 1
      · have HO := Lib.hid (pw_odd r' x' k ho)
        have g1 := mulP_rg r' x'
        have g2 := mulP_rg x' x'
        go_wp2_with (go_at_call 23; refine (s_mul _ _ _ (by assumption) (by assumption) (by assumption) (by assumption)).mono ?_; rintro e w' ⟨rfl, rfl⟩)
        go_round
        case rel => exact ⟨_, _, k / 2, rfl, by go_num, rfl, g2.1, g2.2, g1.1, g1.2, by omega, by rw [HO.out, HE.out]⟩
        case measure => simp [intOf]; omega
      · have HO := Lib.hid (pw_even r' x' k (by omega))
        have g2 := mulP_rg x' x'
        go_wp2_with (go_at_call 23; refine (s_mul _ _ _ (by assumption) (by assumption) (by assumption) (by assumption)).mono ?_; rintro e w' ⟨rfl, rfl⟩)
        go_round
        case rel => exact ⟨_, _, k / 2, rfl, by go_num, rfl, g2.1, g2.2, hr1, hr2, by omega, by rw [HO.out, HE.out]⟩
        case measure => simp [intOf]; omega
theorem s_FNeg (a : Int) (w : World) :
    Calls Try.prog 7 #[.int .i64 a] w fun e w' => e = .returned (.int .i64 (fneg a)) ∧ w = w' := by
  rcases ok_or a with h | h
  · have H := Lib.hid (fneg_t h)
    have h1 := h.lo; have h2 := h.hi
    go_enter Try.func7, Try.ntmps7
    go_wp2_with (first | (go_at_call 18; with_reducible refine (s_FOk_t _ _ (by assumption)).mono ?_; rintro e w' ⟨rfl, rfl⟩) | (go_at_call 18; with_reducible refine (s_FOk_f _ _ (by assumption)).mono ?_; rintro e w' ⟨rfl, rfl⟩))
    go_ret
    exact ⟨ret_i64 H.out.symm, rfl⟩
  · have H := Lib.hid (fneg_f h)
    go_enter Try.func7, Try.ntmps7
    go_wp2_with (first | (go_at_call 18; with_reducible refine (s_FOk_t _ _ (by assumption)).mono ?_; rintro e w' ⟨rfl, rfl⟩) | (go_at_call 18; with_reducible refine (s_FOk_f _ _ (by assumption)).mono ?_; rintro e w' ⟨rfl, rfl⟩))
    go_ret
    exact ⟨ret_i64 H.out.symm, rfl⟩
theorem s_FSub (a b : Int) (w : World) :
    Calls Try.prog 9 #[.int .i64 a, .int .i64 b] w fun e w' => e = .returned (.int .i64 (fsub a b)) ∧ w = w' := by
  rcases ok_or a with h | h
  · rcases ok_or b with g | g
    · have H := Lib.hid (fsub_t h g)
      have h1 := h.lo; have h2 := h.hi; have g1 := g.lo; have g2 := g.hi
      go_enter Try.func9, Try.ntmps9
      go_wp2_with (first | (go_at_call 18; with_reducible refine (s_FOk_t _ _ (by assumption)).mono ?_; rintro e w' ⟨rfl, rfl⟩) | (go_at_call 18; with_reducible refine (s_FOk_f _ _ (by assumption)).mono ?_; rintro e w' ⟨rfl, rfl⟩))
      go_ret
      exact ⟨ret_i64 H.out.symm, rfl⟩
    · have H := Lib.hid (fsub_r (a := a) g)
      go_enter Try.func9, Try.ntmps9
      go_wp2_with (first | (go_at_call 18; with_reducible refine (s_FOk_t _ _ (by assumption)).mono ?_; rintro e w' ⟨rfl, rfl⟩) | (go_at_call 18; with_reducible refine (s_FOk_f _ _ (by assumption)).mono ?_; rintro e w' ⟨rfl, rfl⟩))
      go_ret
      exact ⟨ret_i64 H.out.symm, rfl⟩
  · have H := Lib.hid (fsub_l (b := b) h)
    go_enter Try.func9, Try.ntmps9
    go_wp2_with (first | (go_at_call 18; with_reducible refine (s_FOk_t _ _ (by assumption)).mono ?_; rintro e w' ⟨rfl, rfl⟩) | (go_at_call 18; with_reducible refine (s_FOk_f _ _ (by assumption)).mono ?_; rintro e w' ⟨rfl, rfl⟩))
    go_ret
    exact ⟨ret_i64 H.out.symm, rfl⟩
theorem s_FDiv (a b : Int) (w : World) :
    Calls Try.prog 11 #[.int .i64 a, .int .i64 b] w fun e w' => e = .returned (.int .i64 (fdiv a b)) ∧ w = w' := by
  rcases ok_or a with h | h
  · rcases ok_or b with g | g
    · by_cases gz : b = 0
      · subst gz
        have H := Lib.hid ((fdiv_t h g).trans (by rw [inv_zero, mulP_zero]))
        go_enter Try.func11, Try.ntmps11
        go_wp2_with (first | (go_at_call 18; with_reducible refine (s_FOk_t _ _ (by assumption)).mono ?_; rintro e w' ⟨rfl, rfl⟩) | (go_at_call 18; with_reducible refine (s_FOk_f _ _ (by assumption)).mono ?_; rintro e w' ⟨rfl, rfl⟩))
        go_ret
        exact ⟨ret_i64 H.out.symm, rfl⟩
      · have H := Lib.hid (fdiv_t h g)
        have h1 := h.lo; have h2 := h.hi; have g1 := g.lo; have g2 := g.hi
        have gb : (b == 0) = false := by simpa using gz
        have r1 := powP_rg b 2147483645
        clear gz
        go_enter Try.func11, Try.ntmps11
        go_wp2_with (first | (go_at_call 18; with_reducible refine (s_FOk_t _ _ (by assumption)).mono ?_; rintro e w' ⟨rfl, rfl⟩) | (go_at_call 18; with_reducible refine (s_FOk_f _ _ (by assumption)).mono ?_; rintro e w' ⟨rfl, rfl⟩) | (go_at_call 24; refine (s_pow _ _ _ (by assumption) (by assumption) (by omega) (by omega)).mono ?_; rintro e w' ⟨rfl, rfl⟩) | (go_at_call 23; refine (s_mul _ _ _ (by assumption) (by assumption) (powP_rg _ _).1 (powP_rg _ _).2).mono ?_; rintro e w' ⟨rfl, rfl⟩))
        go_ret
        exact ⟨ret_i64 H.out.symm, rfl⟩
    · have H := Lib.hid (fdiv_r (a := a) g)
      go_enter Try.func11, Try.ntmps11
      go_wp2_with (first | (go_at_call 18; with_reducible refine (s_FOk_t _ _ (by assumption)).mono ?_; rintro e w' ⟨rfl, rfl⟩) | (go_at_call 18; with_reducible refine (s_FOk_f _ _ (by assumption)).mono ?_; rintro e w' ⟨rfl, rfl⟩))
      go_ret
      exact ⟨ret_i64 H.out.symm, rfl⟩
  · have H := Lib.hid (fdiv_l (b := b) h)
    go_enter Try.func11, Try.ntmps11
    go_wp2_with (first | (go_at_call 18; with_reducible refine (s_FOk_t _ _ (by assumption)).mono ?_; rintro e w' ⟨rfl, rfl⟩) | (go_at_call 18; with_reducible refine (s_FOk_f _ _ (by assumption)).mono ?_; rintro e w' ⟨rfl, rfl⟩))
    go_ret
    exact ⟨ret_i64 H.out.symm, rfl⟩
end Go.Proofs.Ytlakanajcabejab
