/-
  What the row of FnExactNetOk says of the program as a whole, part by part.
-/
import Derived.Test.YteokfenoomcogaaGreatRows
import Derived.JoinedOf
namespace Go.Proofs.YteokfenoomcogaaGreat
set_option maxRecDepth 1000000
theorem named_fnExactNetOk : Tryz.pinned.checked.prog.funcNamed Rows.fnExactNetOkRow.func = some 3 := by kernel_rfl
set_option maxHeartbeats 64000000 in
theorem closed_fnExactNetOk : joinedFacts Tryz.pinned.checked.prog 3 Tryz.f3 Rows.fnExactNetOkSpec Rows.fnExactNetOkRow = true := by
  unfold joinedFacts
  repeat' (with_reducible refine (Bool.and_eq_true_iff).mpr ⟨?_, ?_⟩)
  all_goals (as_aux_lemma => kernel_rfl)
end Go.Proofs.YteokfenoomcogaaGreat
