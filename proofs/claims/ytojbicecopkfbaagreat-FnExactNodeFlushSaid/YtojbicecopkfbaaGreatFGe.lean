/-
  SpecOne: texts joined.
-/
import Derived.Test.YtojbicecopkfbaaGreatFGa
import Derived.Test.YtojbicecopkfbaaGreatRows
import Derived.Lib.Hide
import Derived.OpenShut
import Derived.ProofKit
import Derived.WalkKit
namespace Go.Proofs.YtojbicecopkfbaaGreat
set_option maxRecDepth 100000
open Go.ChangeShapes Go.WideShapes Go.ChangeAt Go.RowKit
open Fld

theorem ret_bool {a b : Bool} (h : a = b) : Ending.returned (.bool a) = .returned (.bool b) := by rw [h]

theorem s_FOk_t (a : Int) (w : World) (h : Ok a) :
    Calls Tryz.prog 188 #[.int .i64 a] w fun e w' => e = .returned (.bool true) ∧ w = w' := by
  have h1 := h.lo
  have h2 := h.hi
  go_enter Tryz.func188, Tryz.ntmps188
  go_wp2
  go_ret
  exact ⟨rfl, rfl⟩
theorem s_FOk_f (a : Int) (w : World) (h : Bad a) :
    Calls Tryz.prog 188 #[.int .i64 a] w fun e w' => e = .returned (.bool false) ∧ w = w' := by
  by_cases h1 : 0 ≤ a
  · have h2 : ¬ a < 2147483647 := fun x => h ⟨h1, x⟩
    go_enter Tryz.func188, Tryz.ntmps188
    go_wp2
    go_ret
    exact ⟨rfl, rfl⟩
  · go_enter Tryz.func188, Tryz.ntmps188
    go_wp2
    go_ret
    exact ⟨rfl, rfl⟩
theorem s_sec_t (a : Int) (w : World) (h : Sec a) :
    Calls Tryz.prog 129 #[.int .i64 a] w fun e w' => e = .returned (.bool true) ∧ w = w' := by
  have h1 := h.lo
  have h2 := h.hi
  go_enter Tryz.func129, Tryz.ntmps129
  go_wp2
  go_ret
  exact ⟨ret_bool (by simp; try omega), rfl⟩
theorem s_sec_f (a : Int) (w : World) (h : NoSec a) :
    Calls Tryz.prog 129 #[.int .i64 a] w fun e w' => e = .returned (.bool false) ∧ w = w' := by
  by_cases h1 : 1 ≤ a
  · have h2 : ¬ a < 2147483646 := fun x => h ⟨h1, x⟩
    go_enter Tryz.func129, Tryz.ntmps129
    go_wp2
    go_ret
    exact ⟨ret_bool (by simp; try omega), rfl⟩
  · go_enter Tryz.func129, Tryz.ntmps129
    go_wp2
    go_ret
    exact ⟨ret_bool (by simp; try omega), rfl⟩
end Go.Proofs.YtojbicecopkfbaaGreat
