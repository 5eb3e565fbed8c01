/-
  Rows whose elements have numbers of their own.
-/
import Derived.Test.YtpapkonejkdkhaaMk
namespace Go.Proofs.Ytpapkonejkdkhaa
set_option linter.unusedVariables false
open Go.RowKit
def ixOf : Value → Nat | .int _ x => x.toNat | _ => 0
/-- No two have the same number. -/
def Apart {α : Type} (f : α → Int) (r : List α) : Prop := ∀ (i j : Nat) (a b : α), i < j → r[i]? = some a → r[j]? = some b → f a ≠ f b
theorem Apart.take {α : Type} {f : α → Int} {r : List α} (h : Apart f r) {j : Nat} {a : α} (ha : r[j]? = some a) : ∀ b ∈ r.take j, f b ≠ f a := by
  intro b hb
  obtain ⟨i, hi, rfl⟩ := List.getElem_of_mem hb
  rw [List.length_take] at hi
  exact h i j _ _ (by omega) (by rw [List.getElem_take]; exact List.getElem?_eq_getElem (by omega)) ha
theorem take_snoc {α : Type} {r : List α} {j : Nat} {a : α} (ha : r[j]? = some a) : r.take (j + 1) = r.take j ++ [a] := by
  rw [List.take_add_one, ha]; rfl
end Go.Proofs.Ytpapkonejkdkhaa
