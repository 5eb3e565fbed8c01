/-
  Routes: contracts of both sides' RouteOk.
-/
import Derived.Test.YtjehcmmbbjidkaaSpecThree
import Derived.Test.YtjehcmmbbjidkaaEvery
import Derived.Test.YtjehcmmbbjidkaaShelf
import Derived.Lib.RowBridge
import Derived.Lib.SlBuf
namespace Go.Proofs.Ytjehcmmbbjidkaa
set_option maxRecDepth 100000
set_option linter.unusedSimpArgs false
set_option linter.unusedVariables false
open Go.ChangeShapes Go.WideShapes Go.ChangeAt Go.RowKit
open Fld
attribute [local go_sem ↓] Go.wp_at_zero Go.wp_at_succ

theorem getBang (l : List Int) (j : Nat) : l.toArray[j]! = l.getD j 0 := by
  simp [List.getD_eq_getElem?_getD]
theorem compact_len (l : List Int) : (Go.Lib.compact l).length = l.length ↔ ∀ i, i < l.length - 1 → l.getD i 0 ≠ l.getD (i + 1) 0 := by
  unfold Go.Lib.compact Go.Lib.compactUpTo
  rw [List.length_map]
  have h := List.length_filter_eq_length_iff (p := Go.Lib.keeps l.toArray) (l := List.range l.length)
  rw [List.length_range] at h
  rw [h]
  constructor
  · intro h i hi e
    have := h (i + 1) (List.mem_range.2 (by omega))
    simp only [Go.Lib.keeps, decide_eq_true_eq, getBang, Nat.add_sub_cancel] at this
    rcases this with h' | h'
    · omega
    · exact h' e.symm
  · intro h j hj
    have hj := List.mem_range.1 hj
    simp only [Go.Lib.keeps, decide_eq_true_eq, getBang]
    by_cases h0 : j = 0
    · exact .inl h0
    · have := h (j - 1) (by omega)
      rw [show j - 1 + 1 = j by omega] at this
      exact .inr this.symm
theorem route_iff {l : List Int} (h1 : 1 ≤ l.length) (h4 : l.length ≤ 4) (hn : ∀ x ∈ l, 0 ≤ x ∧ x < 8) : decide (Route l) = decide ((Go.Lib.compact l).length = l.length) := by
  rw [decide_eq_decide, compact_len]
  exact ⟨fun h => h.2.2, fun h => ⟨⟨h1, h4⟩, hn, h⟩⟩
end Go.Proofs.Ytjehcmmbbjidkaa
