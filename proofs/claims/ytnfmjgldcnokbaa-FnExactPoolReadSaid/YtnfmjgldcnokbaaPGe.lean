/-
  ImplOne: texts joined.
-/
import Derived.Test.YtnfmjgldcnokbaaPGd
import Derived.ScopeJumps
import Derived.WalkMore
namespace Go.Proofs.Ytnfmjgldcnokbaa
set_option maxRecDepth 100000
open Go.ChangeShapes Go.WideShapes Go.ChangeAt Go.RowKit
open Fld

theorem i_FOk_t (a : Int) (w : World) (h : Ok a) :
    Calls Try.prog 99 #[.int .i64 a] w fun e w' => e = .returned (.bool true) ∧ w = w' := by
  have h1 := h.lo
  have h2 := h.hi
  go_enter Try.func99, Try.ntmps99
  go_wp2
  go_ret
  exact ⟨rfl, rfl⟩
theorem i_FOk_f (a : Int) (w : World) (h : Bad a) :
    Calls Try.prog 99 #[.int .i64 a] w fun e w' => e = .returned (.bool false) ∧ w = w' := by
  by_cases h1 : 0 ≤ a
  · have h2 : ¬ a < 2147483647 := fun x => h ⟨h1, x⟩
    go_enter Try.func99, Try.ntmps99
    go_wp2
    go_ret
    exact ⟨rfl, rfl⟩
  · go_enter Try.func99, Try.ntmps99
    go_wp2
    go_ret
    exact ⟨rfl, rfl⟩
end Go.Proofs.Ytnfmjgldcnokbaa
