/-
  Contracts of the program's functions of chapter 1.
-/
import Derived.Test.YtfjolhpimcmmlaaSpecOne
import Derived.WalkMore
import Derived.ScopeJumps
namespace Go.Proofs.Ytfjolhpimcmmlaa
open Go.ChangeShapes Go.WideShapes Go.ChangeAt Go.RowKit
open Fld

theorem i_mul (a b : Int) (w : World) (h1 : 0 ≤ a) (h2 : a < 2147483647) (h3 : 0 ≤ b) (h4 : b < 2147483647) :
    Calls Try.prog 71 #[.int .i64 a, .int .i64 b] w fun e w' => e = .returned (.int .i64 (mulP a b)) ∧ w = w' := by
  obtain ⟨hb, hb'⟩ := mul_bd h1 h2 h3 h4
  go_enter Try.func71, Try.ntmps71
  go_wp2
  go_ret
  exact ⟨rfl, rfl⟩
theorem i_FOk_t (a : Int) (w : World) (h : Ok a) :
    Calls Try.prog 27 #[.int .i64 a] w fun e w' => e = .returned (.bool true) ∧ w = w' := by
  have h1 := h.lo
  have h2 := h.hi
  go_enter Try.func27, Try.ntmps27
  go_wp2
  go_ret
  exact ⟨rfl, rfl⟩
theorem i_FOk_f (a : Int) (w : World) (h : Bad a) :
    Calls Try.prog 27 #[.int .i64 a] w fun e w' => e = .returned (.bool false) ∧ w = w' := by
  by_cases h1 : 0 ≤ a
  · have h2 : ¬ a < 2147483647 := fun x => h ⟨h1, x⟩
    go_enter Try.func27, Try.ntmps27
    go_wp2
    go_ret
    exact ⟨rfl, rfl⟩
  · go_enter Try.func27, Try.ntmps27
    go_wp2
    go_ret
    exact ⟨rfl, rfl⟩
theorem i_FOk (a : Int) (w : World) :
    Calls Try.prog 27 #[.int .i64 a] w fun e w' => e = .returned (.bool (fok a)) ∧ w = w' := by
  rcases ok_or a with h | h
  · exact (i_FOk_t a w h).mono fun e w' hh => ⟨by rw [fok_t h]; exact hh.1, hh.2⟩
  · exact (i_FOk_f a w h).mono fun e w' hh => ⟨by rw [fok_f h]; exact hh.1, hh.2⟩
theorem i_add (a b : Int) (w : World) (h1 : 0 ≤ a) (h2 : a < 2147483647) (h3 : 0 ≤ b) (h4 : b < 2147483647) :
    Calls Try.prog 70 #[.int .i64 a, .int .i64 b] w fun e w' => e = .returned (.int .i64 (addP a b)) ∧ w = w' := by
  go_enter Try.func70, Try.ntmps70
  go_wp2
  go_ret
  exact ⟨rfl, rfl⟩
theorem i_key (a l : Int) (w : World) (h1 : 0 ≤ a) (h2 : a < 2147483647) (h3 : 0 ≤ l) (h4 : l ≤ 99) :
    Calls Try.prog 56 #[.int .i64 a, .int .i64 l] w fun e w' => e = .returned (.int .i64 (keyP a l)) ∧ w = w' := by
  have H := Lib.hid (keyP_el a l)
  have r1 := mulP_rg l 7919
  have r2 := addP_rg a (mulP l 7919)
  have r3 := addP_rg (addP a (mulP l 7919)) 1
  have r4 := mulP_rg (addP (addP a (mulP l 7919)) 1) 48271
  have r5 := addP_rg (mulP (addP (addP a (mulP l 7919)) 1) 48271) l
  have r6 := addP_rg (addP (mulP (addP (addP a (mulP l 7919)) 1) 48271) l) 17
  have r7 := mulP_rg (addP (addP (mulP (addP (addP a (mulP l 7919)) 1) 48271) l) 17) 69621
  go_enter Try.func56, Try.ntmps56
  go_wp2_with (first | (go_at_call 71; refine (i_mul _ _ _ (by omega) (by omega) (by omega) (by omega)).mono ?_; rintro e w' ⟨rfl, rfl⟩) | (go_at_call 70; refine (i_add _ _ _ (by omega) (by omega) (by omega) (by omega)).mono ?_; rintro e w' ⟨rfl, rfl⟩))
  go_ret
  exact ⟨ret_i64 H.out, rfl⟩
end Go.Proofs.Ytfjolhpimcmmlaa
