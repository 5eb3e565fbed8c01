/-
  ImplOne: texts joined.
-/
import Derived.Test.YtnfmjgldcnokbaaKGe
import Derived.ScopeJumps
import Derived.WalkMore
namespace Go.Proofs.Ytnfmjgldcnokbaa
set_option maxRecDepth 100000
open Go.ChangeShapes Go.WideShapes Go.ChangeAt Go.RowKit
open Fld

theorem i_mul (a b : Int) (w : World) (h1 : 0 ≤ a) (h2 : a < 2147483647) (h3 : 0 ≤ b) (h4 : b < 2147483647) :
    Calls Try.prog 126 #[.int .i64 a, .int .i64 b] w fun e w' => e = .returned (.int .i64 (mulP a b)) ∧ w = w' := by
  obtain ⟨hb, hb'⟩ := mul_bd h1 h2 h3 h4
  go_enter Try.func126, Try.ntmps126
  go_wp2
  go_ret
  exact ⟨rfl, rfl⟩
theorem i_pow (a n : Int) (w : World) (h1 : 0 ≤ a) (h2 : a < 2147483647) (h3 : 0 ≤ n) (h4 : n ≤ 9223372036854775807) :
    Calls Try.prog 101 #[.int .i64 a, .int .i64 n] w fun e w' => e = .returned (.int .i64 (powP a n.toNat)) ∧ w = w' := by
  go_enter Try.func101, Try.ntmps101
  go_wp2
  refine wp_scope_jumps 0 (fun a' w' => w = w' ∧ ∃ u0 u1 u2 u3 u4 u6 u7 u8 u9 u10 u11 u12 u13 u14 u15 u16 u17 u18 u19 : Value, a' = { tmps := #[u0, u1, u2, u3, u4, .int .i64 (powP a n.toNat), u6, u7, u8, u9, u10, u11, u12, u13, u14, u15, u16, u17, u18, u19], defers := [] }) (fun _ _ => 0) rfl ?_ ?_
  · go_wp2
    go_loop [0, 1, 5] (fun x m r => ∃ (x' r' : Int) (k : Nat), x = .int .i64 x' ∧ m = .int .i64 k ∧ r = .int .i64 r' ∧ 0 ≤ x' ∧ x' < 2147483647 ∧ 0 ≤ r' ∧ r' < 2147483647 ∧ (k : Int) ≤ 9223372036854775807 ∧ pw r' x' k = powP a n.toNat)
      (fun _ m _ => (intOf m).toNat)
    case atStart => exact ⟨a, 1, n.toNat, rfl, by rw [Int.toNat_of_nonneg h3], rfl, h1, h2, by omega, by omega, by omega, pw_start⟩
    case round =>
      obtain ⟨x', r', k, rfl, rfl, rfl, hx1, hx2, hr1, hr2, hk, he⟩ := hrel
      have HE := Lib.hid he
      clear he
      have g1 := mulP_rg r' x'
      have g2 := mulP_rg x' x'
      by_cases hz : k = 0
      · subst hz
        have HF := Lib.hid (HE.out.symm.trans (pw_end hr1 hr2))
        go_wp2
        go_step3
        refine ⟨rfl, rfl, ?_⟩
        rw [HF.out]
        exact ⟨_, _, _, _, _, _, _, _, _, _, _, _, _, _, _, _, _, _, _, rfl⟩
      · by_cases ho1 : k = 1
        · subst ho1
          have HF := Lib.hid (HE.out.symm.trans (pw_one hx1 hx2))
          go_wp2_with (go_at_call 126; refine (i_mul _ _ _ (by assumption) (by assumption) (by assumption) (by assumption)).mono ?_; rintro e w' ⟨rfl, rfl⟩)
          go_step3
          refine ⟨rfl, rfl, ?_⟩
          rw [HF.out]
          exact ⟨_, _, _, _, _, _, _, _, _, _, _, _, _, _, _, _, _, _, _, rfl⟩
        · have hp : 1 < k := by omega
          by_cases ho : k % 2 = 1
          · have HO := Lib.hid (pw_odd r' x' k ho)
            go_wp2_with (go_at_call 126; refine (i_mul _ _ _ (by assumption) (by assumption) (by assumption) (by assumption)).mono ?_; rintro e w' ⟨rfl, rfl⟩)
            go_round
            case rel => exact ⟨_, _, k / 2, rfl, by go_num, rfl, g2.1, g2.2, g1.1, g1.2, by omega, by rw [HO.out, HE.out]⟩
            case measure => simp [intOf]; omega
          · have HO := Lib.hid (pw_even r' x' k (by omega))
            go_wp2_with (go_at_call 126; refine (i_mul _ _ _ (by assumption) (by assumption) (by assumption) (by assumption)).mono ?_; rintro e w' ⟨rfl, rfl⟩)
            go_round
            case rel => exact ⟨_, _, k / 2, rfl, by go_num, rfl, g2.1, g2.2, hr1, hr2, by omega, by rw [HO.out, HE.out]⟩
            case measure => simp [intOf]; omega
  · rintro a' w' ⟨rfl, u0, u1, u2, u3, u4, u6, u7, u8, u9, u10, u11, u12, u13, u14, u15, u16, u17, u18, u19, rfl⟩
    go_wp2
    simp only [Exit.jump]
    go_ret
    exact ⟨rfl, rfl⟩
theorem i_FOk_t (a : Int) (w : World) (h : Ok a) :
    Calls Try.prog 99 #[.int .i64 a] w fun e w' => e = .returned (.bool true) ∧ w = w' := by
  have h1 := h.lo
  have h2 := h.hi
  go_enter Try.func99, Try.ntmps99
  go_wp2
  go_ret
  exact ⟨rfl, rfl⟩
theorem i_FOk_f (a : Int) (w : World) (h : Bad a) :
    Calls Try.prog 99 #[.int .i64 a] w fun e w' => e = .returned (.bool false) ∧ w = w' := by
  by_cases h1 : 0 ≤ a
  · have h2 : ¬ a < 2147483647 := fun x => h ⟨h1, x⟩
    go_enter Try.func99, Try.ntmps99
    go_wp2
    go_ret
    exact ⟨rfl, rfl⟩
  · go_enter Try.func99, Try.ntmps99
    go_wp2
    go_ret
    exact ⟨rfl, rfl⟩
theorem i_sec_t (a : Int) (w : World) (h : Sec a) :
    Calls Try.prog 64 #[.int .i64 a] w fun e w' => e = .returned (.bool true) ∧ w = w' := by
  have h1 := h.lo
  have h2 := h.hi
  go_enter Try.func64, Try.ntmps64
  go_wp2
  go_ret
  exact ⟨ret_bool (by simp; try omega), rfl⟩
theorem i_sec_f (a : Int) (w : World) (h : NoSec a) :
    Calls Try.prog 64 #[.int .i64 a] w fun e w' => e = .returned (.bool false) ∧ w = w' := by
  by_cases h1 : 1 ≤ a
  · have h2 : ¬ a < 2147483646 := fun x => h ⟨h1, x⟩
    go_enter Try.func64, Try.ntmps64
    go_wp2
    go_ret
    exact ⟨ret_bool (by simp; try omega), rfl⟩
  · go_enter Try.func64, Try.ntmps64
    go_wp2
    go_ret
    exact ⟨ret_bool (by simp; try omega), rfl⟩
theorem i_pub_t (a : Int) (w : World) (h : Pub a) :
    Calls Try.prog 47 #[.int .i64 a] w fun e w' => e = .returned (.bool true) ∧ w = w' := by
  have h1 := h.lo
  have h2 := h.hi
  go_enter Try.func47, Try.ntmps47
  go_wp2
  go_ret
  exact ⟨ret_bool (by simp; try omega), rfl⟩
theorem i_pub_f (a : Int) (w : World) (h : NoPub a) :
    Calls Try.prog 47 #[.int .i64 a] w fun e w' => e = .returned (.bool false) ∧ w = w' := by
  by_cases h1 : 2 ≤ a
  · have h2 : ¬ a < 2147483646 := fun x => h ⟨h1, x⟩
    go_enter Try.func47, Try.ntmps47
    go_wp2
    go_ret
    exact ⟨ret_bool (by simp; try omega), rfl⟩
  · go_enter Try.func47, Try.ntmps47
    go_wp2
    go_ret
    exact ⟨ret_bool (by simp; try omega), rfl⟩
theorem i_add (a b : Int) (w : World) (h1 : 0 ≤ a) (h2 : a < 2147483647) (h3 : 0 ≤ b) (h4 : b < 2147483647) :
    Calls Try.prog 125 #[.int .i64 a, .int .i64 b] w fun e w' => e = .returned (.int .i64 (addP a b)) ∧ w = w' := by
  go_enter Try.func125, Try.ntmps125
  go_wp2
  go_ret
  exact ⟨rfl, rfl⟩
theorem i_key (a l : Int) (w : World) (h1 : 0 ≤ a) (h2 : a < 2147483647) (h3 : 0 ≤ l) (h4 : l ≤ 99) :
    Calls Try.prog 100 #[.int .i64 a, .int .i64 l] w fun e w' => e = .returned (.int .i64 (keyP a l)) ∧ w = w' := by
  have H := Lib.hid (keyP_el a l)
  have r1 := mulP_rg l 7919
  have r2 := addP_rg a (mulP l 7919)
  have r3 := addP_rg (addP a (mulP l 7919)) 1
  have r4 := mulP_rg (addP (addP a (mulP l 7919)) 1) 48271
  have r5 := addP_rg (mulP (addP (addP a (mulP l 7919)) 1) 48271) l
  have r6 := addP_rg (addP (mulP (addP (addP a (mulP l 7919)) 1) 48271) l) 17
  have r7 := mulP_rg (addP (addP (mulP (addP (addP a (mulP l 7919)) 1) 48271) l) 17) 69621
  go_enter Try.func100, Try.ntmps100
  go_wp2_with (first | (go_at_call 126; refine (i_mul _ _ _ (by omega) (by omega) (by omega) (by omega)).mono ?_; rintro e w' ⟨rfl, rfl⟩) | (go_at_call 125; refine (i_add _ _ _ (by omega) (by omega) (by omega) (by omega)).mono ?_; rintro e w' ⟨rfl, rfl⟩))
  go_ret
  exact ⟨ret_i64 H.out, rfl⟩
theorem i_PubOf (a : Int) (w : World) :
    Calls Try.prog 88 #[.int .i64 a] w fun e w' => e = .returned (.int .i64 (pubOf a)) ∧ w = w' := by
  rcases sec_or a with h | h
  · have H := Lib.hid (pubOf_t h)
    have h1 := h.lo; have h2 := h.hi
    go_enter Try.func88, Try.ntmps88
    go_wp2_with (first | (go_at_call 64; with_reducible refine (i_sec_t _ _ (by assumption)).mono ?_; rintro e w' ⟨rfl, rfl⟩) | (go_at_call 64; with_reducible refine (i_sec_f _ _ (by assumption)).mono ?_; rintro e w' ⟨rfl, rfl⟩) | (go_at_call 101; refine (i_pow _ _ _ (by omega) (by omega) (by omega) (by omega)).mono ?_; rintro e w' ⟨rfl, rfl⟩))
    go_ret
    exact ⟨ret_i64 H.out.symm, rfl⟩
  · have H := Lib.hid (pubOf_f h)
    go_enter Try.func88, Try.ntmps88
    go_wp2_with (first | (go_at_call 64; with_reducible refine (i_sec_t _ _ (by assumption)).mono ?_; rintro e w' ⟨rfl, rfl⟩) | (go_at_call 64; with_reducible refine (i_sec_f _ _ (by assumption)).mono ?_; rintro e w' ⟨rfl, rfl⟩))
    go_ret
    exact ⟨ret_i64 H.out.symm, rfl⟩
theorem i_Shared (a b : Int) (w : World) :
    Calls Try.prog 67 #[.int .i64 a, .int .i64 b] w fun e w' => e = .returned (.int .i64 (shared a b)) ∧ w = w' := by
  rcases sec_or a with h | h
  · rcases pub_or b with g | g
    · have H := Lib.hid (shared_t h g)
      have h1 := h.lo; have h2 := h.hi; have g1 := g.lo; have g2 := g.hi
      go_enter Try.func67, Try.ntmps67
      go_wp2_with (first | (go_at_call 64; with_reducible refine (i_sec_t _ _ (by assumption)).mono ?_; rintro e w' ⟨rfl, rfl⟩) | (go_at_call 64; with_reducible refine (i_sec_f _ _ (by assumption)).mono ?_; rintro e w' ⟨rfl, rfl⟩) | (go_at_call 47; with_reducible refine (i_pub_t _ _ (by assumption)).mono ?_; rintro e w' ⟨rfl, rfl⟩) | (go_at_call 47; with_reducible refine (i_pub_f _ _ (by assumption)).mono ?_; rintro e w' ⟨rfl, rfl⟩) | (go_at_call 101; refine (i_pow _ _ _ (by omega) (by omega) (by omega) (by omega)).mono ?_; rintro e w' ⟨rfl, rfl⟩))
      go_ret
      exact ⟨ret_i64 H.out.symm, rfl⟩
    · have H := Lib.hid (shared_r (a := a) g)
      go_enter Try.func67, Try.ntmps67
      go_wp2_with (first | (go_at_call 64; with_reducible refine (i_sec_t _ _ (by assumption)).mono ?_; rintro e w' ⟨rfl, rfl⟩) | (go_at_call 64; with_reducible refine (i_sec_f _ _ (by assumption)).mono ?_; rintro e w' ⟨rfl, rfl⟩) | (go_at_call 47; with_reducible refine (i_pub_t _ _ (by assumption)).mono ?_; rintro e w' ⟨rfl, rfl⟩) | (go_at_call 47; with_reducible refine (i_pub_f _ _ (by assumption)).mono ?_; rintro e w' ⟨rfl, rfl⟩))
      go_ret
      exact ⟨ret_i64 H.out.symm, rfl⟩
  · have H := Lib.hid (shared_l (b := b) h)
    go_enter Try.func67, Try.ntmps67
    go_wp2_with (first | (go_at_call 64; with_reducible refine (i_sec_t _ _ (by assumption)).mono ?_; rintro e w' ⟨rfl, rfl⟩) | (go_at_call 64; with_reducible refine (i_sec_f _ _ (by assumption)).mono ?_; rintro e w' ⟨rfl, rfl⟩))
    go_ret
    exact ⟨ret_i64 H.out.symm, rfl⟩
theorem i_KeyOf (a l : Int) (w : World) :
    Calls Try.prog 66 #[.int .i64 a, .int .i64 l] w fun e w' => e = .returned (.int .i64 (fkey a l)) ∧ w = w' := by
  rcases ok_or a with h | h
  · by_cases g1 : 0 ≤ l
    · by_cases g2 : l ≤ 99
      · have H := Lib.hid (fkey_t h ⟨g1, g2⟩)
        have h1 := h.lo; have h2 := h.hi
        go_enter Try.func66, Try.ntmps66
        go_wp2_with (first | (go_at_call 99; with_reducible refine (i_FOk_t _ _ (by assumption)).mono ?_; rintro e w' ⟨rfl, rfl⟩) | (go_at_call 99; with_reducible refine (i_FOk_f _ _ (by assumption)).mono ?_; rintro e w' ⟨rfl, rfl⟩) | (go_at_call 100; refine (i_key _ _ _ (by assumption) (by assumption) (by assumption) (by assumption)).mono ?_; rintro e w' ⟨rfl, rfl⟩))
        go_ret
        exact ⟨ret_i64 H.out.symm, rfl⟩
      · have H := Lib.hid (fkey_r (a := a) (b := l) fun x => g2 x.2)
        go_enter Try.func66, Try.ntmps66
        go_wp2_with (first | (go_at_call 99; with_reducible refine (i_FOk_t _ _ (by assumption)).mono ?_; rintro e w' ⟨rfl, rfl⟩) | (go_at_call 99; with_reducible refine (i_FOk_f _ _ (by assumption)).mono ?_; rintro e w' ⟨rfl, rfl⟩))
        go_ret
        exact ⟨ret_i64 H.out.symm, rfl⟩
    · have H := Lib.hid (fkey_r (a := a) (b := l) fun x => g1 x.1)
      go_enter Try.func66, Try.ntmps66
      go_wp2_with (first | (go_at_call 99; with_reducible refine (i_FOk_t _ _ (by assumption)).mono ?_; rintro e w' ⟨rfl, rfl⟩) | (go_at_call 99; with_reducible refine (i_FOk_f _ _ (by assumption)).mono ?_; rintro e w' ⟨rfl, rfl⟩))
      go_ret
      exact ⟨ret_i64 H.out.symm, rfl⟩
  · have H := Lib.hid (fkey_l (b := l) h)
    go_enter Try.func66, Try.ntmps66
    go_wp2_with (first | (go_at_call 99; with_reducible refine (i_FOk_t _ _ (by assumption)).mono ?_; rintro e w' ⟨rfl, rfl⟩) | (go_at_call 99; with_reducible refine (i_FOk_f _ _ (by assumption)).mono ?_; rintro e w' ⟨rfl, rfl⟩))
    go_ret
    exact ⟨ret_i64 H.out.symm, rfl⟩
end Go.Proofs.Ytnfmjgldcnokbaa
