/-
  ImplPeel, Way: texts joined.
-/
import Derived.Test.YtojbicecopkfbaaWGj
import Derived.Test.YtojbicecopkfbaaWGm
import Derived.Defers
import Derived.Laws.Pointers
import Derived.Recover
import Derived.WalkSmall
namespace Go.Proofs.Ytojbicecopkfbaa
set_option maxRecDepth 100000
set_option linter.unusedSimpArgs false
open Go.ChangeShapes Go.WideShapes Go.ChangeAt Go.RowKit
open Fld
attribute [local go_sem ↓] Go.wp_at_zero Go.wp_at_succ

theorem i_exit_next (v : Value) (w : World) : Calls Try.prog 225 #[.agg #[v]] w fun e w' => e = .returned (.int .i64 255) ∧ Below w.heap.size w w' := by
  go_enter Try.func225, Try.ntmps225
  go_wp2
  go_ret
  exact ⟨rfl, (belx)⟩
theorem i_relay_next (y : Int) (A : Option Addr) (n c : Nat) (w : World) : Calls Try.prog 227 #[.agg #[.int .i64 y, .slice A n c]] w fun e w' => e = .returned (.int .i64 y) ∧ Below w.heap.size w w' := by
  go_enter Try.func227, Try.ntmps227
  go_wp2
  go_ret
  exact ⟨rfl, (belx)⟩
end Go.Proofs.Ytojbicecopkfbaa
namespace Go.Proofs.Ytojbicecopkfbaa
open Fld

/-! ### peeling a cell that is one -/
/-! ### who has what it takes -/
def CanF (S c : List Int) : Prop := S.length = 8 ∧ Secs S ∧ c.length = 80
instance (S c : List Int) : Decidable (CanF S c) := by unfold CanF; infer_instance
theorem Secs.at_ {S : List Int} (h : Secs S) {i : Nat} (hi : i < S.length) : LaySec (S.getD i 0) := by
  rw [getD_lt hi]; exact h _ (List.getElem_mem _)
theorem secs_take {S : List Int} {k : Nat} (h : Secs (S.take k)) (hk : k < S.length) (h1 : LaySec (S.getD k 0)) : Secs (S.take (k + 1)) := by
  rw [List.take_succ_eq_append_getElem hk]
  intro x hx
  rcases List.mem_append.1 hx with h' | h'
  · exact h x h'
  · rw [List.mem_singleton] at h'; rw [h']; rwa [getD_lt hk] at h1

/-! ### who can peel -/
/-! ### who is reached -/
/-! ### following a route -/
def FolOk (S route c : List Int) : Prop := Route route ∧ CanF S c
instance (S route c : List Int) : Decidable (FolOk S route c) := by unfold FolOk; infer_instance
end Go.Proofs.Ytojbicecopkfbaa
