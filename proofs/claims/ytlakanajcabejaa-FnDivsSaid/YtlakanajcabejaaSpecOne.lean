/-
  Contracts of the model's functions of chapter 1.
-/
import Derived.Test.YtlakanajcabejaaRows
import Derived.Test.YtlakanajcabejaaFld
import Derived.WalkKit
import Derived.ProofKit
import Derived.OpenShut
import Derived.Lib.Hide
namespace Go.Proofs.Ytlakanajcabejaa
open Go.ChangeShapes Go.WideShapes Go.ChangeAt Go.RowKit
open Fld

theorem ret_i64 {a b : Int} (h : a = b) : Ending.returned (.int .i64 a) = .returned (.int .i64 b) := by rw [h]
theorem ret_bool {a b : Bool} (h : a = b) : Ending.returned (.bool a) = .returned (.bool b) := by rw [h]

theorem s_FOk_t (a : Int) (w : World) (h : Ok a) :
    Calls Try.prog 18 #[.int .i64 a] w fun e w' => e = .returned (.bool true) ∧ w = w' := by
  have h1 := h.lo
  have h2 := h.hi
  go_enter Try.func18, Try.ntmps18
  go_wp2
  go_ret
  exact ⟨rfl, rfl⟩
theorem s_FOk_f (a : Int) (w : World) (h : Bad a) :
    Calls Try.prog 18 #[.int .i64 a] w fun e w' => e = .returned (.bool false) ∧ w = w' := by
  by_cases h1 : 0 ≤ a
  · have h2 : ¬ a < 2147483647 := fun x => h ⟨h1, x⟩
    go_enter Try.func18, Try.ntmps18
    go_wp2
    go_ret
    exact ⟨rfl, rfl⟩
  · go_enter Try.func18, Try.ntmps18
    go_wp2
    go_ret
    exact ⟨rfl, rfl⟩
theorem s_FOk (a : Int) (w : World) :
    Calls Try.prog 18 #[.int .i64 a] w fun e w' => e = .returned (.bool (fok a)) ∧ w = w' := by
  rcases ok_or a with h | h
  · exact (s_FOk_t a w h).mono fun e w' hh => ⟨by rw [fok_t h]; exact hh.1, hh.2⟩
  · exact (s_FOk_f a w h).mono fun e w' hh => ⟨by rw [fok_f h]; exact hh.1, hh.2⟩
theorem s_mul (a b : Int) (w : World) (h1 : 0 ≤ a) (h2 : a < 2147483647) (h3 : 0 ≤ b) (h4 : b < 2147483647) :
    Calls Try.prog 57 #[.int .i64 a, .int .i64 b] w fun e w' => e = .returned (.int .i64 (mulP a b)) ∧ w = w' := by
  obtain ⟨hb, hb'⟩ := mul_bd h1 h2 h3 h4
  go_enter Try.func57, Try.ntmps57
  go_wp2
  go_ret
  exact ⟨rfl, rfl⟩
theorem s_pow (a n : Int) (w : World) (h1 : 0 ≤ a) (h2 : a < 2147483647) (h3 : 0 ≤ n) (h4 : n ≤ 9223372036854775807) :
    Calls Try.prog 58 #[.int .i64 a, .int .i64 n] w fun e w' => e = .returned (.int .i64 (powP a n.toNat)) ∧ w = w' := by
  go_enter Try.func58, Try.ntmps58
  go_wp2
  go_loop [0, 1, 5] (fun x m r => ∃ (x' r' : Int) (k : Nat), x = .int .i64 x' ∧ m = .int .i64 k ∧ r = .int .i64 r' ∧ 0 ≤ x' ∧ x' < 2147483647 ∧ 0 ≤ r' ∧ r' < 2147483647 ∧ (k : Int) ≤ 9223372036854775807 ∧ pw r' x' k = powP a n.toNat)
    (fun _ m _ => (intOf m).toNat)
  case atStart => exact ⟨a, 1, n.toNat, rfl, by rw [Int.toNat_of_nonneg h3], rfl, h1, h2, by omega, by omega, by omega, pw_start⟩
  case round =>
    obtain ⟨x', r', k, rfl, rfl, rfl, hx1, hx2, hr1, hr2, hk, he⟩ := hrel
    have HE := Lib.hid he
    clear he
    by_cases hz : k = 0
    · subst hz
      go_wp2
      go_ret
      exact ⟨ret_i64 (by rw [← HE.out, pw_end hr1 hr2]), rfl⟩
    · have hp : 0 < k := by omega
      by_cases ho : k % 2 = 1
      · have HO := Lib.hid (pw_odd r' x' k ho)
        have g1 := mulP_rg r' x'
        have g2 := mulP_rg x' x'
        go_wp2_with (go_at_call 57; refine (s_mul _ _ _ (by assumption) (by assumption) (by assumption) (by assumption)).mono ?_; rintro e w' ⟨rfl, rfl⟩)
        go_round
        case rel => exact ⟨_, _, k / 2, rfl, by go_num, rfl, g2.1, g2.2, g1.1, g1.2, by omega, by rw [HO.out, HE.out]⟩
        case measure => simp [intOf]; omega
      · have HO := Lib.hid (pw_even r' x' k (by omega))
        have g2 := mulP_rg x' x'
        go_wp2_with (go_at_call 57; refine (s_mul _ _ _ (by assumption) (by assumption) (by assumption) (by assumption)).mono ?_; rintro e w' ⟨rfl, rfl⟩)
        go_round
        case rel => exact ⟨_, _, k / 2, rfl, by go_num, rfl, g2.1, g2.2, hr1, hr2, by omega, by rw [HO.out, HE.out]⟩
        case measure => simp [intOf]; omega
theorem s_FAdd (a b : Int) (w : World) :
    Calls Try.prog 35 #[.int .i64 a, .int .i64 b] w fun e w' => e = .returned (.int .i64 (fadd a b)) ∧ w = w' := by
  rcases ok_or a with h | h
  · rcases ok_or b with g | g
    · have H := Lib.hid (fadd_t h g)
      have h1 := h.lo; have h2 := h.hi; have g1 := g.lo; have g2 := g.hi
      go_enter Try.func35, Try.ntmps35
      go_wp2_with (first | (go_at_call 18; with_reducible refine (s_FOk_t _ _ (by assumption)).mono ?_; rintro e w' ⟨rfl, rfl⟩) | (go_at_call 18; with_reducible refine (s_FOk_f _ _ (by assumption)).mono ?_; rintro e w' ⟨rfl, rfl⟩))
      go_ret
      exact ⟨ret_i64 H.out.symm, rfl⟩
    · have H := Lib.hid (fadd_r (a := a) g)
      go_enter Try.func35, Try.ntmps35
      go_wp2_with (first | (go_at_call 18; with_reducible refine (s_FOk_t _ _ (by assumption)).mono ?_; rintro e w' ⟨rfl, rfl⟩) | (go_at_call 18; with_reducible refine (s_FOk_f _ _ (by assumption)).mono ?_; rintro e w' ⟨rfl, rfl⟩))
      go_ret
      exact ⟨ret_i64 H.out.symm, rfl⟩
  · have H := Lib.hid (fadd_l (b := b) h)
    go_enter Try.func35, Try.ntmps35
    go_wp2_with (first | (go_at_call 18; with_reducible refine (s_FOk_t _ _ (by assumption)).mono ?_; rintro e w' ⟨rfl, rfl⟩) | (go_at_call 18; with_reducible refine (s_FOk_f _ _ (by assumption)).mono ?_; rintro e w' ⟨rfl, rfl⟩))
    go_ret
    exact ⟨ret_i64 H.out.symm, rfl⟩
theorem s_FMul (a b : Int) (w : World) :
    Calls Try.prog 36 #[.int .i64 a, .int .i64 b] w fun e w' => e = .returned (.int .i64 (fmul a b)) ∧ w = w' := by
  rcases ok_or a with h | h
  · rcases ok_or b with g | g
    · have H := Lib.hid (fmul_t h g)
      have h1 := h.lo; have h2 := h.hi; have g1 := g.lo; have g2 := g.hi
      go_enter Try.func36, Try.ntmps36
      go_wp2_with (first | (go_at_call 18; with_reducible refine (s_FOk_t _ _ (by assumption)).mono ?_; rintro e w' ⟨rfl, rfl⟩) | (go_at_call 18; with_reducible refine (s_FOk_f _ _ (by assumption)).mono ?_; rintro e w' ⟨rfl, rfl⟩) | (go_at_call 57; refine (s_mul _ _ _ (by assumption) (by assumption) (by assumption) (by assumption) ).mono ?_; rintro e w' ⟨rfl, rfl⟩))
      go_ret
      exact ⟨ret_i64 H.out.symm, rfl⟩
    · have H := Lib.hid (fmul_r (a := a) g)
      go_enter Try.func36, Try.ntmps36
      go_wp2_with (first | (go_at_call 18; with_reducible refine (s_FOk_t _ _ (by assumption)).mono ?_; rintro e w' ⟨rfl, rfl⟩) | (go_at_call 18; with_reducible refine (s_FOk_f _ _ (by assumption)).mono ?_; rintro e w' ⟨rfl, rfl⟩) | (go_at_call 57; refine (s_mul _ _ _ (by assumption) (by assumption) (by assumption) (by assumption) ).mono ?_; rintro e w' ⟨rfl, rfl⟩))
      go_ret
      exact ⟨ret_i64 H.out.symm, rfl⟩
  · have H := Lib.hid (fmul_l (b := b) h)
    go_enter Try.func36, Try.ntmps36
    go_wp2_with (first | (go_at_call 18; with_reducible refine (s_FOk_t _ _ (by assumption)).mono ?_; rintro e w' ⟨rfl, rfl⟩) | (go_at_call 18; with_reducible refine (s_FOk_f _ _ (by assumption)).mono ?_; rintro e w' ⟨rfl, rfl⟩) | (go_at_call 57; refine (s_mul _ _ _ (by assumption) (by assumption) (by assumption) (by assumption) ).mono ?_; rintro e w' ⟨rfl, rfl⟩))
    go_ret
    exact ⟨ret_i64 H.out.symm, rfl⟩
theorem s_FPow (a n : Int) (w : World) (hn : n ≤ 9223372036854775807) :
    Calls Try.prog 37 #[.int .i64 a, .int .i64 n] w fun e w' => e = .returned (.int .i64 (fpow a n)) ∧ w = w' := by
  rcases ok_or a with h | h
  · by_cases g : 0 ≤ n
    · have H := Lib.hid (fpow_t h g)
      have h1 := h.lo; have h2 := h.hi
      go_enter Try.func37, Try.ntmps37
      go_wp2_with (first | (go_at_call 18; with_reducible refine (s_FOk_t _ _ (by assumption)).mono ?_; rintro e w' ⟨rfl, rfl⟩) | (go_at_call 18; with_reducible refine (s_FOk_f _ _ (by assumption)).mono ?_; rintro e w' ⟨rfl, rfl⟩) | (go_at_call 58; refine (s_pow _ _ _ (by assumption) (by assumption) (by assumption) (by assumption)).mono ?_; rintro e w' ⟨rfl, rfl⟩))
      go_ret
      exact ⟨ret_i64 H.out.symm, rfl⟩
    · have H := Lib.hid (fpow_r (a := a) g)
      go_enter Try.func37, Try.ntmps37
      go_wp2_with (first | (go_at_call 18; with_reducible refine (s_FOk_t _ _ (by assumption)).mono ?_; rintro e w' ⟨rfl, rfl⟩) | (go_at_call 18; with_reducible refine (s_FOk_f _ _ (by assumption)).mono ?_; rintro e w' ⟨rfl, rfl⟩))
      go_ret
      exact ⟨ret_i64 H.out.symm, rfl⟩
  · have H := Lib.hid (fpow_l (n := n) h)
    go_enter Try.func37, Try.ntmps37
    go_wp2_with (first | (go_at_call 18; with_reducible refine (s_FOk_t _ _ (by assumption)).mono ?_; rintro e w' ⟨rfl, rfl⟩) | (go_at_call 18; with_reducible refine (s_FOk_f _ _ (by assumption)).mono ?_; rintro e w' ⟨rfl, rfl⟩))
    go_ret
    exact ⟨ret_i64 H.out.symm, rfl⟩
theorem s_FInv (a : Int) (w : World) :
    Calls Try.prog 38 #[.int .i64 a] w fun e w' => e = .returned (.int .i64 (finv a)) ∧ w = w' := by
  rcases ok_or a with h | h
  · by_cases g : a = 0
    · subst g
      have H := Lib.hid ((finv_t h).trans inv_zero)
      go_enter Try.func38, Try.ntmps38
      go_wp2_with (first | (go_at_call 18; with_reducible refine (s_FOk_t _ _ (by assumption)).mono ?_; rintro e w' ⟨rfl, rfl⟩) | (go_at_call 18; with_reducible refine (s_FOk_f _ _ (by assumption)).mono ?_; rintro e w' ⟨rfl, rfl⟩))
      go_ret
      exact ⟨ret_i64 H.out.symm, rfl⟩
    · have H := Lib.hid (finv_t h)
      have h1 := h.lo; have h2 := h.hi
      have gb : (a == 0) = false := by simpa using g
      clear g
      go_enter Try.func38, Try.ntmps38
      go_wp2_with (first | (go_at_call 18; with_reducible refine (s_FOk_t _ _ (by assumption)).mono ?_; rintro e w' ⟨rfl, rfl⟩) | (go_at_call 18; with_reducible refine (s_FOk_f _ _ (by assumption)).mono ?_; rintro e w' ⟨rfl, rfl⟩) | (go_at_call 58; refine (s_pow _ _ _ (by assumption) (by assumption) (by omega) (by omega)).mono ?_; rintro e w' ⟨rfl, rfl⟩))
      go_ret
      exact ⟨ret_i64 H.out.symm, rfl⟩
  · have H := Lib.hid (finv_f h)
    go_enter Try.func38, Try.ntmps38
    go_wp2_with (first | (go_at_call 18; with_reducible refine (s_FOk_t _ _ (by assumption)).mono ?_; rintro e w' ⟨rfl, rfl⟩) | (go_at_call 18; with_reducible refine (s_FOk_f _ _ (by assumption)).mono ?_; rintro e w' ⟨rfl, rfl⟩))
    go_ret
    exact ⟨ret_i64 H.out.symm, rfl⟩
theorem s_sec_t (a : Int) (w : World) (h : Sec a) :
    Calls Try.prog 59 #[.int .i64 a] w fun e w' => e = .returned (.bool true) ∧ w = w' := by
  have h1 := h.lo
  have h2 := h.hi
  go_enter Try.func59, Try.ntmps59
  go_wp2
  go_ret
  exact ⟨ret_bool (by simp; try omega), rfl⟩
theorem s_sec_f (a : Int) (w : World) (h : NoSec a) :
    Calls Try.prog 59 #[.int .i64 a] w fun e w' => e = .returned (.bool false) ∧ w = w' := by
  by_cases h1 : 1 ≤ a
  · have h2 : ¬ a < 2147483646 := fun x => h ⟨h1, x⟩
    go_enter Try.func59, Try.ntmps59
    go_wp2
    go_ret
    exact ⟨ret_bool (by simp; try omega), rfl⟩
  · go_enter Try.func59, Try.ntmps59
    go_wp2
    go_ret
    exact ⟨ret_bool (by simp; try omega), rfl⟩
theorem s_pub_t (a : Int) (w : World) (h : Pub a) :
    Calls Try.prog 60 #[.int .i64 a] w fun e w' => e = .returned (.bool true) ∧ w = w' := by
  have h1 := h.lo
  have h2 := h.hi
  go_enter Try.func60, Try.ntmps60
  go_wp2
  go_ret
  exact ⟨ret_bool (by simp; try omega), rfl⟩
theorem s_pub_f (a : Int) (w : World) (h : NoPub a) :
    Calls Try.prog 60 #[.int .i64 a] w fun e w' => e = .returned (.bool false) ∧ w = w' := by
  by_cases h1 : 2 ≤ a
  · have h2 : ¬ a < 2147483646 := fun x => h ⟨h1, x⟩
    go_enter Try.func60, Try.ntmps60
    go_wp2
    go_ret
    exact ⟨ret_bool (by simp; try omega), rfl⟩
  · go_enter Try.func60, Try.ntmps60
    go_wp2
    go_ret
    exact ⟨ret_bool (by simp; try omega), rfl⟩
theorem s_PubOf (a : Int) (w : World) :
    Calls Try.prog 39 #[.int .i64 a] w fun e w' => e = .returned (.int .i64 (pubOf a)) ∧ w = w' := by
  rcases sec_or a with h | h
  · have H := Lib.hid (pubOf_t h)
    have h1 := h.lo; have h2 := h.hi
    go_enter Try.func39, Try.ntmps39
    go_wp2_with (first | (go_at_call 59; with_reducible refine (s_sec_t _ _ (by assumption)).mono ?_; rintro e w' ⟨rfl, rfl⟩) | (go_at_call 59; with_reducible refine (s_sec_f _ _ (by assumption)).mono ?_; rintro e w' ⟨rfl, rfl⟩) | (go_at_call 58; refine (s_pow _ _ _ (by omega) (by omega) (by omega) (by omega)).mono ?_; rintro e w' ⟨rfl, rfl⟩))
    go_ret
    exact ⟨ret_i64 H.out.symm, rfl⟩
  · have H := Lib.hid (pubOf_f h)
    go_enter Try.func39, Try.ntmps39
    go_wp2_with (first | (go_at_call 59; with_reducible refine (s_sec_t _ _ (by assumption)).mono ?_; rintro e w' ⟨rfl, rfl⟩) | (go_at_call 59; with_reducible refine (s_sec_f _ _ (by assumption)).mono ?_; rintro e w' ⟨rfl, rfl⟩))
    go_ret
    exact ⟨ret_i64 H.out.symm, rfl⟩
theorem s_Shared (a b : Int) (w : World) :
    Calls Try.prog 40 #[.int .i64 a, .int .i64 b] w fun e w' => e = .returned (.int .i64 (shared a b)) ∧ w = w' := by
  rcases sec_or a with h | h
  · rcases pub_or b with g | g
    · have H := Lib.hid (shared_t h g)
      have h1 := h.lo; have h2 := h.hi; have g1 := g.lo; have g2 := g.hi
      go_enter Try.func40, Try.ntmps40
      go_wp2_with (first | (go_at_call 59; with_reducible refine (s_sec_t _ _ (by assumption)).mono ?_; rintro e w' ⟨rfl, rfl⟩) | (go_at_call 59; with_reducible refine (s_sec_f _ _ (by assumption)).mono ?_; rintro e w' ⟨rfl, rfl⟩) | (go_at_call 60; with_reducible refine (s_pub_t _ _ (by assumption)).mono ?_; rintro e w' ⟨rfl, rfl⟩) | (go_at_call 60; with_reducible refine (s_pub_f _ _ (by assumption)).mono ?_; rintro e w' ⟨rfl, rfl⟩) | (go_at_call 58; refine (s_pow _ _ _ (by omega) (by omega) (by omega) (by omega)).mono ?_; rintro e w' ⟨rfl, rfl⟩))
      go_ret
      exact ⟨ret_i64 H.out.symm, rfl⟩
    · have H := Lib.hid (shared_r (a := a) g)
      go_enter Try.func40, Try.ntmps40
      go_wp2_with (first | (go_at_call 59; with_reducible refine (s_sec_t _ _ (by assumption)).mono ?_; rintro e w' ⟨rfl, rfl⟩) | (go_at_call 59; with_reducible refine (s_sec_f _ _ (by assumption)).mono ?_; rintro e w' ⟨rfl, rfl⟩) | (go_at_call 60; with_reducible refine (s_pub_t _ _ (by assumption)).mono ?_; rintro e w' ⟨rfl, rfl⟩) | (go_at_call 60; with_reducible refine (s_pub_f _ _ (by assumption)).mono ?_; rintro e w' ⟨rfl, rfl⟩))
      go_ret
      exact ⟨ret_i64 H.out.symm, rfl⟩
  · have H := Lib.hid (shared_l (b := b) h)
    go_enter Try.func40, Try.ntmps40
    go_wp2_with (first | (go_at_call 59; with_reducible refine (s_sec_t _ _ (by assumption)).mono ?_; rintro e w' ⟨rfl, rfl⟩) | (go_at_call 59; with_reducible refine (s_sec_f _ _ (by assumption)).mono ?_; rintro e w' ⟨rfl, rfl⟩))
    go_ret
    exact ⟨ret_i64 H.out.symm, rfl⟩
theorem s_key (a l : Int) (w : World) (h1 : 0 ≤ a) (h2 : a < 2147483647) (h3 : 0 ≤ l) (h4 : l ≤ 99) :
    Calls Try.prog 61 #[.int .i64 a, .int .i64 l] w fun e w' => e = .returned (.int .i64 (keyP a l)) ∧ w = w' := by
  have H := Lib.hid (keyP_way a l)
  have r1 := mulP_rg ((a + l * 7919 + 1) % 2147483647) 48271
  have r2 := mulP_rg ((mulP ((a + l * 7919 + 1) % 2147483647) 48271 + l + 17) % 2147483647) 69621
  go_enter Try.func61, Try.ntmps61
  go_wp2_with (go_at_call 57; refine (s_mul _ _ _ (by omega) (by omega) (by omega) (by omega)).mono ?_; rintro e w' ⟨rfl, rfl⟩)
  go_ret
  exact ⟨ret_i64 H.out, rfl⟩
theorem s_KeyOf (a l : Int) (w : World) :
    Calls Try.prog 41 #[.int .i64 a, .int .i64 l] w fun e w' => e = .returned (.int .i64 (fkey a l)) ∧ w = w' := by
  rcases ok_or a with h | h
  · by_cases g1 : 0 ≤ l
    · by_cases g2 : l ≤ 99
      · have H := Lib.hid (fkey_t h ⟨g1, g2⟩)
        have h1 := h.lo; have h2 := h.hi
        go_enter Try.func41, Try.ntmps41
        go_wp2_with (first | (go_at_call 18; with_reducible refine (s_FOk_t _ _ (by assumption)).mono ?_; rintro e w' ⟨rfl, rfl⟩) | (go_at_call 18; with_reducible refine (s_FOk_f _ _ (by assumption)).mono ?_; rintro e w' ⟨rfl, rfl⟩) | (go_at_call 61; refine (s_key _ _ _ (by assumption) (by assumption) (by assumption) (by assumption)).mono ?_; rintro e w' ⟨rfl, rfl⟩))
        go_ret
        exact ⟨ret_i64 H.out.symm, rfl⟩
      · have H := Lib.hid (fkey_r (a := a) (b := l) fun x => g2 x.2)
        go_enter Try.func41, Try.ntmps41
        go_wp2_with (first | (go_at_call 18; with_reducible refine (s_FOk_t _ _ (by assumption)).mono ?_; rintro e w' ⟨rfl, rfl⟩) | (go_at_call 18; with_reducible refine (s_FOk_f _ _ (by assumption)).mono ?_; rintro e w' ⟨rfl, rfl⟩))
        go_ret
        exact ⟨ret_i64 H.out.symm, rfl⟩
    · have H := Lib.hid (fkey_r (a := a) (b := l) fun x => g1 x.1)
      go_enter Try.func41, Try.ntmps41
      go_wp2_with (first | (go_at_call 18; with_reducible refine (s_FOk_t _ _ (by assumption)).mono ?_; rintro e w' ⟨rfl, rfl⟩) | (go_at_call 18; with_reducible refine (s_FOk_f _ _ (by assumption)).mono ?_; rintro e w' ⟨rfl, rfl⟩))
      go_ret
      exact ⟨ret_i64 H.out.symm, rfl⟩
  · have H := Lib.hid (fkey_l (b := l) h)
    go_enter Try.func41, Try.ntmps41
    go_wp2_with (first | (go_at_call 18; with_reducible refine (s_FOk_t _ _ (by assumption)).mono ?_; rintro e w' ⟨rfl, rfl⟩) | (go_at_call 18; with_reducible refine (s_FOk_f _ _ (by assumption)).mono ?_; rintro e w' ⟨rfl, rfl⟩))
    go_ret
    exact ⟨ret_i64 H.out.symm, rfl⟩
end Go.Proofs.Ytlakanajcabejaa
