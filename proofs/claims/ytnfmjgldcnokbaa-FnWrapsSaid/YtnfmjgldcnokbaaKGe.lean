/-
  SpecOne: texts joined.
-/
import Derived.Test.YtnfmjgldcnokbaaKGa
import Derived.Test.YtnfmjgldcnokbaaRows
import Derived.Lib.Hide
import Derived.OpenShut
import Derived.ProofKit
import Derived.WalkKit
namespace Go.Proofs.Ytnfmjgldcnokbaa
set_option maxRecDepth 100000
open Go.ChangeShapes Go.WideShapes Go.ChangeAt Go.RowKit
open Fld

theorem ret_i64 {a b : Int} (h : a = b) : Ending.returned (.int .i64 a) = .returned (.int .i64 b) := by rw [h]
theorem ret_bool {a b : Bool} (h : a = b) : Ending.returned (.bool a) = .returned (.bool b) := by rw [h]

theorem s_mul (a b : Int) (w : World) (h1 : 0 ≤ a) (h2 : a < 2147483647) (h3 : 0 ≤ b) (h4 : b < 2147483647) :
    Calls Try.prog 86 #[.int .i64 a, .int .i64 b] w fun e w' => e = .returned (.int .i64 (mulP a b)) ∧ w = w' := by
  obtain ⟨hb, hb'⟩ := mul_bd h1 h2 h3 h4
  go_enter Try.func86, Try.ntmps86
  go_wp2
  go_ret
  exact ⟨rfl, rfl⟩
theorem s_pow (a n : Int) (w : World) (h1 : 0 ≤ a) (h2 : a < 2147483647) (h3 : 0 ≤ n) (h4 : n ≤ 9223372036854775807) :
    Calls Try.prog 83 #[.int .i64 a, .int .i64 n] w fun e w' => e = .returned (.int .i64 (powP a n.toNat)) ∧ w = w' := by
  go_enter Try.func83, Try.ntmps83
  go_wp2
  go_loop [0, 1, 5] (fun x m r => ∃ (x' r' : Int) (k : Nat), x = .int .i64 x' ∧ m = .int .i64 k ∧ r = .int .i64 r' ∧ 0 ≤ x' ∧ x' < 2147483647 ∧ 0 ≤ r' ∧ r' < 2147483647 ∧ (k : Int) ≤ 9223372036854775807 ∧ pw r' x' k = powP a n.toNat)
    (fun _ m _ => (intOf m).toNat)
  case atStart => exact ⟨a, 1, n.toNat, rfl, by rw [Int.toNat_of_nonneg h3], rfl, h1, h2, by omega, by omega, by omega, pw_start⟩
  case round =>
    obtain ⟨x', r', k, rfl, rfl, rfl, hx1, hx2, hr1, hr2, hk, he⟩ := hrel
    have HE := Lib.hid he
    clear he
    by_cases hz : k = 0
    · subst hz
      go_wp2
      go_ret
      exact ⟨ret_i64 (by rw [← HE.out, pw_end hr1 hr2]), rfl⟩
    · have hp : 0 < k := by omega
      by_cases ho : k % 2 = 1
      · have HO := Lib.hid (pw_odd r' x' k ho)
        have g1 := mulP_rg r' x'
        have g2 := mulP_rg x' x'
        go_wp2_with (go_at_call 86; refine (s_mul _ _ _ (by assumption) (by assumption) (by assumption) (by assumption)).mono ?_; rintro e w' ⟨rfl, rfl⟩)
        go_round
        case rel => exact ⟨_, _, k / 2, rfl, by go_num, rfl, g2.1, g2.2, g1.1, g1.2, by omega, by rw [HO.out, HE.out]⟩
        case measure => simp [intOf]; omega
      · have HO := Lib.hid (pw_even r' x' k (by omega))
        have g2 := mulP_rg x' x'
        go_wp2_with (go_at_call 86; refine (s_mul _ _ _ (by assumption) (by assumption) (by assumption) (by assumption)).mono ?_; rintro e w' ⟨rfl, rfl⟩)
        go_round
        case rel => exact ⟨_, _, k / 2, rfl, by go_num, rfl, g2.1, g2.2, hr1, hr2, by omega, by rw [HO.out, HE.out]⟩
        case measure => simp [intOf]; omega
theorem s_sec_t (a : Int) (w : World) (h : Sec a) :
    Calls Try.prog 87 #[.int .i64 a] w fun e w' => e = .returned (.bool true) ∧ w = w' := by
  have h1 := h.lo
  have h2 := h.hi
  go_enter Try.func87, Try.ntmps87
  go_wp2
  go_ret
  exact ⟨ret_bool (by simp; try omega), rfl⟩
theorem s_sec_f (a : Int) (w : World) (h : NoSec a) :
    Calls Try.prog 87 #[.int .i64 a] w fun e w' => e = .returned (.bool false) ∧ w = w' := by
  by_cases h1 : 1 ≤ a
  · have h2 : ¬ a < 2147483646 := fun x => h ⟨h1, x⟩
    go_enter Try.func87, Try.ntmps87
    go_wp2
    go_ret
    exact ⟨ret_bool (by simp; try omega), rfl⟩
  · go_enter Try.func87, Try.ntmps87
    go_wp2
    go_ret
    exact ⟨ret_bool (by simp; try omega), rfl⟩
theorem s_pub_t (a : Int) (w : World) (h : Pub a) :
    Calls Try.prog 93 #[.int .i64 a] w fun e w' => e = .returned (.bool true) ∧ w = w' := by
  have h1 := h.lo
  have h2 := h.hi
  go_enter Try.func93, Try.ntmps93
  go_wp2
  go_ret
  exact ⟨ret_bool (by simp; try omega), rfl⟩
theorem s_pub_f (a : Int) (w : World) (h : NoPub a) :
    Calls Try.prog 93 #[.int .i64 a] w fun e w' => e = .returned (.bool false) ∧ w = w' := by
  by_cases h1 : 2 ≤ a
  · have h2 : ¬ a < 2147483646 := fun x => h ⟨h1, x⟩
    go_enter Try.func93, Try.ntmps93
    go_wp2
    go_ret
    exact ⟨ret_bool (by simp; try omega), rfl⟩
  · go_enter Try.func93, Try.ntmps93
    go_wp2
    go_ret
    exact ⟨ret_bool (by simp; try omega), rfl⟩
theorem s_PubOf (a : Int) (w : World) :
    Calls Try.prog 45 #[.int .i64 a] w fun e w' => e = .returned (.int .i64 (pubOf a)) ∧ w = w' := by
  rcases sec_or a with h | h
  · have H := Lib.hid (pubOf_t h)
    have h1 := h.lo; have h2 := h.hi
    go_enter Try.func45, Try.ntmps45
    go_wp2_with (first | (go_at_call 87; with_reducible refine (s_sec_t _ _ (by assumption)).mono ?_; rintro e w' ⟨rfl, rfl⟩) | (go_at_call 87; with_reducible refine (s_sec_f _ _ (by assumption)).mono ?_; rintro e w' ⟨rfl, rfl⟩) | (go_at_call 83; refine (s_pow _ _ _ (by omega) (by omega) (by omega) (by omega)).mono ?_; rintro e w' ⟨rfl, rfl⟩))
    go_ret
    exact ⟨ret_i64 H.out.symm, rfl⟩
  · have H := Lib.hid (pubOf_f h)
    go_enter Try.func45, Try.ntmps45
    go_wp2_with (first | (go_at_call 87; with_reducible refine (s_sec_t _ _ (by assumption)).mono ?_; rintro e w' ⟨rfl, rfl⟩) | (go_at_call 87; with_reducible refine (s_sec_f _ _ (by assumption)).mono ?_; rintro e w' ⟨rfl, rfl⟩))
    go_ret
    exact ⟨ret_i64 H.out.symm, rfl⟩
theorem s_key (a l : Int) (w : World) (h1 : 0 ≤ a) (h2 : a < 2147483647) (h3 : 0 ≤ l) (h4 : l ≤ 99) :
    Calls Try.prog 122 #[.int .i64 a, .int .i64 l] w fun e w' => e = .returned (.int .i64 (keyP a l)) ∧ w = w' := by
  have H := Lib.hid (keyP_way a l)
  have r1 := mulP_rg ((a + l * 7919 + 1) % 2147483647) 48271
  have r2 := mulP_rg ((mulP ((a + l * 7919 + 1) % 2147483647) 48271 + l + 17) % 2147483647) 69621
  go_enter Try.func122, Try.ntmps122
  go_wp2_with (go_at_call 86; refine (s_mul _ _ _ (by omega) (by omega) (by omega) (by omega)).mono ?_; rintro e w' ⟨rfl, rfl⟩)
  go_ret
  exact ⟨ret_i64 H.out, rfl⟩
end Go.Proofs.Ytnfmjgldcnokbaa
