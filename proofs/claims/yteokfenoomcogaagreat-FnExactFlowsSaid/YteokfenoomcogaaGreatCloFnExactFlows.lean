/-
  What the row of FnExactFlows says of the program as a whole, part by part.
-/
import Derived.Test.YteokfenoomcogaaGreatRows
import Derived.JoinedOf
namespace Go.Proofs.YteokfenoomcogaaGreat
set_option maxRecDepth 1000000
theorem named_fnExactFlows : Tryz.pinned.checked.prog.funcNamed Rows.fnExactFlowsRow.func = some 8 := by kernel_rfl
set_option maxHeartbeats 64000000 in
theorem closed_fnExactFlows : joinedFacts Tryz.pinned.checked.prog 8 Tryz.f8 Rows.fnExactFlowsSpec Rows.fnExactFlowsRow = true := by
  unfold joinedFacts
  repeat' (with_reducible refine (Bool.and_eq_true_iff).mpr ⟨?_, ?_⟩)
  all_goals (as_aux_lemma => kernel_rfl)
end Go.Proofs.YteokfenoomcogaaGreat
