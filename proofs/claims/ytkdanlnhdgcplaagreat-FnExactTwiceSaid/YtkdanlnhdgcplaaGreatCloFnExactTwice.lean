/-
  What the row of FnExactTwice says of the program as a whole, part by part.
-/
import Derived.Test.YtkdanlnhdgcplaaGreatRows
import Derived.JoinedOf
namespace Go.Proofs.YtkdanlnhdgcplaaGreat
set_option maxRecDepth 1000000
theorem named_fnExactTwice : Tryz.pinned.checked.prog.funcNamed Rows.fnExactTwiceRow.func = some 4 := by kernel_rfl
set_option maxHeartbeats 64000000 in
theorem closed_fnExactTwice : joinedFacts Tryz.pinned.checked.prog 4 Tryz.f4 Rows.fnExactTwiceSpec Rows.fnExactTwiceRow = true := by
  unfold joinedFacts
  repeat' (with_reducible refine (Bool.and_eq_true_iff).mpr ⟨?_, ?_⟩)
  all_goals (as_aux_lemma => kernel_rfl)
end Go.Proofs.YtkdanlnhdgcplaaGreat
