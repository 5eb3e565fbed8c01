/-
  Cip: texts joined.
-/
import Derived.Test.YteokfenoomcogaaGreatKGa
import Derived.Test.YteokfenoomcogaaGreatKGb
import Derived.Laws.BitsAllLaws
namespace Go.Proofs.YteokfenoomcogaaGreat
open Fld

/-! ### bytes -/
theorem getD_lt {l : List Int} {i : Nat} (h : i < l.length) : l.getD i 0 = l[i] := by rw [List.getD_eq_getElem?_getD, List.getElem?_eq_getElem h]; rfl
theorem ext_getD {l r : List Int} (hl : l.length = r.length) (h : ∀ i, i < l.length → l.getD i 0 = r.getD i 0) : l = r := by
  apply List.ext_getElem hl
  intro i h1 h2
  rw [← getD_lt h1, ← getD_lt h2]; exact h i h1
/-! ### the key stream -/
/-! ### the code -/
/-! ### sealing -/
end Go.Proofs.YteokfenoomcogaaGreat
