/-
  What the row of FnExactArrived says of the program as a whole, part by part.
-/
import Derived.Test.YteokfenoomcogaaGreatRows
import Derived.JoinedOf
namespace Go.Proofs.YteokfenoomcogaaGreat
set_option maxRecDepth 1000000
theorem named_fnExactArrived : Tryz.pinned.checked.prog.funcNamed Rows.fnExactArrivedRow.func = some 10 := by kernel_rfl
set_option maxHeartbeats 64000000 in
theorem closed_fnExactArrived : joinedFacts Tryz.pinned.checked.prog 10 Tryz.f10 Rows.fnExactArrivedSpec Rows.fnExactArrivedRow = true := by
  unfold joinedFacts
  repeat' (with_reducible refine (Bool.and_eq_true_iff).mpr ⟨?_, ?_⟩)
  all_goals (as_aux_lemma => kernel_rfl)
end Go.Proofs.YteokfenoomcogaaGreat
