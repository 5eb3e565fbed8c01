/-
  What the row of FnExactCmdOk says of the program as a whole, part by part.
-/
import Derived.Test.YtcljjdmfnniobaaGreatRows
import Derived.JoinedOf
namespace Go.Proofs.YtcljjdmfnniobaaGreat
set_option maxRecDepth 1000000
theorem named_fnExactCmdOk : Tryz.pinned.checked.prog.funcNamed Rows.fnExactCmdOkRow.func = some 3 := by kernel_rfl
set_option maxHeartbeats 64000000 in
theorem closed_fnExactCmdOk : joinedFacts Tryz.pinned.checked.prog 3 Tryz.f3 Rows.fnExactCmdOkSpec Rows.fnExactCmdOkRow = true := by
  unfold joinedFacts
  repeat' (with_reducible refine (Bool.and_eq_true_iff).mpr ⟨?_, ?_⟩)
  all_goals (as_aux_lemma => kernel_rfl)
end Go.Proofs.YtcljjdmfnniobaaGreat
