/-
  ImplOne: texts joined.
-/
import Derived.Test.YtblcfncjghkegaaPGe
import Derived.ScopeJumps
import Derived.WalkMore
namespace Go.Proofs.Ytblcfncjghkegaa
set_option maxRecDepth 100000
open Go.ChangeShapes Go.WideShapes Go.ChangeAt Go.RowKit
open Fld

theorem i_FOk_t (a : Int) (w : World) (h : Ok a) :
    Calls Try.prog 39 #[.int .i64 a] w fun e w' => e = .returned (.bool true) ∧ w = w' := by
  have h1 := h.lo
  have h2 := h.hi
  go_enter Try.func39, Try.ntmps39
  go_wp2
  go_ret
  exact ⟨rfl, rfl⟩
theorem i_FOk_f (a : Int) (w : World) (h : Bad a) :
    Calls Try.prog 39 #[.int .i64 a] w fun e w' => e = .returned (.bool false) ∧ w = w' := by
  by_cases h1 : 0 ≤ a
  · have h2 : ¬ a < 2147483647 := fun x => h ⟨h1, x⟩
    go_enter Try.func39, Try.ntmps39
    go_wp2
    go_ret
    exact ⟨rfl, rfl⟩
  · go_enter Try.func39, Try.ntmps39
    go_wp2
    go_ret
    exact ⟨rfl, rfl⟩
theorem i_FOk (a : Int) (w : World) :
    Calls Try.prog 39 #[.int .i64 a] w fun e w' => e = .returned (.bool (fok a)) ∧ w = w' := by
  rcases ok_or a with h | h
  · exact (i_FOk_t a w h).mono fun e w' hh => ⟨by rw [fok_t h]; exact hh.1, hh.2⟩
  · exact (i_FOk_f a w h).mono fun e w' hh => ⟨by rw [fok_f h]; exact hh.1, hh.2⟩
end Go.Proofs.Ytblcfncjghkegaa
