/-
  What the row of FnExactTakePiece says of the program as a whole, part by part.
-/
import Derived.Test.YtaabmaoldhoinaaGreatRows
import Derived.JoinedOf
namespace Go.Proofs.YtaabmaoldhoinaaGreat
set_option maxRecDepth 1000000
theorem named_fnExactTakePiece : Tryz.pinned.checked.prog.funcNamed Rows.fnExactTakePieceRow.func = some 3 := by kernel_rfl
set_option maxHeartbeats 64000000 in
theorem closed_fnExactTakePiece : joinedFacts Tryz.pinned.checked.prog 3 Tryz.f3 Rows.fnExactTakePieceSpec Rows.fnExactTakePieceRow = true := by
  unfold joinedFacts
  repeat' (with_reducible refine (Bool.and_eq_true_iff).mpr ⟨?_, ?_⟩)
  all_goals (as_aux_lemma => kernel_rfl)
end Go.Proofs.YtaabmaoldhoinaaGreat
