/-
  What the row of FnExactResting says of the program as a whole, part by part.
-/
import Derived.Test.YteokfenoomcogaaGreatRows
import Derived.JoinedOf
namespace Go.Proofs.YteokfenoomcogaaGreat
set_option maxRecDepth 1000000
theorem named_fnExactResting : Tryz.pinned.checked.prog.funcNamed Rows.fnExactRestingRow.func = some 6 := by kernel_rfl
set_option maxHeartbeats 64000000 in
theorem closed_fnExactResting : joinedFacts Tryz.pinned.checked.prog 6 Tryz.f6 Rows.fnExactRestingSpec Rows.fnExactRestingRow = true := by
  unfold joinedFacts
  repeat' (with_reducible refine (Bool.and_eq_true_iff).mpr ⟨?_, ?_⟩)
  all_goals (as_aux_lemma => kernel_rfl)
end Go.Proofs.YteokfenoomcogaaGreat
