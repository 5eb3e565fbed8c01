/-
  What the row of FnExactNodeBytes says of the program as a whole, part by part.
-/
import Derived.Test.YtelbckpplckofaaGreatRows
import Derived.JoinedOf
namespace Go.Proofs.YtelbckpplckofaaGreat
set_option maxRecDepth 1000000
theorem named_fnExactNodeBytes : Tryz.pinned.checked.prog.funcNamed Rows.fnExactNodeBytesRow.func = some 4 := by kernel_rfl
set_option maxHeartbeats 64000000 in
theorem closed_fnExactNodeBytes : joinedFacts Tryz.pinned.checked.prog 4 Tryz.f4 Rows.fnExactNodeBytesSpec Rows.fnExactNodeBytesRow = true := by
  unfold joinedFacts
  repeat' (with_reducible refine (Bool.and_eq_true_iff).mpr ⟨?_, ?_⟩)
  all_goals (as_aux_lemma => kernel_rfl)
end Go.Proofs.YtelbckpplckofaaGreat
