/-
  PD5: texts joined.
-/
import Derived.Test.YteokfenoomcogaaGreatQGm
namespace Go.Proofs.YteokfenoomcogaaGreat
set_option linter.unusedVariables false
open Fld
/-! ### Forget -/
/-! ### Expire -/
/-! ### Admit -/
def AdOk (p : DPool) (h : DHeld) (tag : Int) : Prop := PlOk p ∧ HdOk h ∧ Ok tag
instance (p : DPool) (h : DHeld) (tag : Int) : Decidable (AdOk p h tag) := by unfold AdOk; infer_instance
end Go.Proofs.YteokfenoomcogaaGreat
