/-
  What the row of FnExactFlush says of the program as a whole, part by part.
-/
import Derived.Test.YtojbicecopkfbaaRows
import Derived.JoinedOf
namespace Go.Proofs.Ytojbicecopkfbaa
set_option maxRecDepth 1000000
theorem named_fnExactFlush : Try.pinned.checked.prog.funcNamed Rows.fnExactFlushRow.func = some 5 := by kernel_rfl
set_option maxHeartbeats 64000000 in
theorem closed_fnExactFlush : joinedFacts Try.pinned.checked.prog 5 Try.f5 Rows.fnExactFlushSpec Rows.fnExactFlushRow = true := by
  unfold joinedFacts
  repeat' (with_reducible refine (Bool.and_eq_true_iff).mpr ⟨?_, ?_⟩)
  all_goals (as_aux_lemma => kernel_rfl)
end Go.Proofs.Ytojbicecopkfbaa
