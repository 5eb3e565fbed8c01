/-
  What the row of FnDesks says of the program as a whole, part by part.
-/
import Derived.Test.YtaabmaoldhoinaaGreatRows
import Derived.JoinedOf
namespace Go.Proofs.YtaabmaoldhoinaaGreat
set_option maxRecDepth 1000000
theorem named_fnDesks : Tryz.pinned.checked.prog.funcNamed Rows.fnDesksRow.func = some 5 := by kernel_rfl
set_option maxHeartbeats 64000000 in
theorem closed_fnDesks : joinedFacts Tryz.pinned.checked.prog 5 Tryz.f5 Rows.fnDesksSpec Rows.fnDesksRow = true := by
  unfold joinedFacts
  repeat' (with_reducible refine (Bool.and_eq_true_iff).mpr ⟨?_, ?_⟩)
  all_goals (as_aux_lemma => kernel_rfl)
end Go.Proofs.YtaabmaoldhoinaaGreat
