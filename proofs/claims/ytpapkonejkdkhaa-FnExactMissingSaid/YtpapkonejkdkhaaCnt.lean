/-
  How many things there are for each of eight nodes.
-/
import Derived.Test.YtpapkonejkdkhaaAll
namespace Go.Proofs.Ytpapkonejkdkhaa
set_option linter.unusedVariables false
open Go.RowKit
section
variable {α : Type} (f : α → Int)
def cntF (l : List α) : List Int := l.foldl (fun c h => c.set (f h).toNat (c.getD (f h).toNat 0 + 1)) [0, 0, 0, 0, 0, 0, 0, 0]
theorem cntF_len (l : List α) : (cntF f l).length = 8 := by
  have : ∀ (l : List α) (c : List Int), (l.foldl (fun c h => c.set (f h).toNat (c.getD (f h).toNat 0 + 1)) c).length = c.length := by
    intro l
    induction l with
    | nil => intro c; rfl
    | cons a l ih => intro c; rw [List.foldl_cons, ih, List.length_set]
  exact this l _
theorem cntF_sn {l : List α} {j : Nat} {a : α} (h : l[j]? = some a) : cntF f (l.take (j + 1)) = (cntF f (l.take j)).set (f a).toNat ((cntF f (l.take j)).getD (f a).toNat 0 + 1) := by
  rw [take_sn h]; unfold cntF; rw [List.foldl_append]; rfl
theorem cntF_le (l : List α) : ∀ x ∈ cntF f l, 0 ≤ x ∧ x ≤ l.length := by
  have : ∀ (l : List α) (c : List Int) (n : Nat), (∀ x ∈ c, 0 ≤ x ∧ x ≤ n) → ∀ x ∈ l.foldl (fun c h => c.set (f h).toNat (c.getD (f h).toNat 0 + 1)) c, 0 ≤ x ∧ x ≤ (n + l.length : Nat) := by
    intro l
    induction l with
    | nil => intro c n h; exact h
    | cons a l ih =>
      intro c n h
      rw [List.foldl_cons, List.length_cons, show n + (l.length + 1) = n + 1 + l.length by omega]
      refine ih _ _ fun x hx => ?_
      rcases List.mem_or_eq_of_mem_set hx with h' | rfl
      · have := h x h'; omega
      · by_cases hl : (f a).toNat < c.length
        · have := h (c.getD (f a).toNat 0) (by rw [List.getD_eq_getElem?_getD, List.getElem?_eq_getElem hl]; exact List.getElem_mem hl)
          omega
        · rw [List.getD_eq_getElem?_getD, List.getElem?_eq_none (by omega)]
          simp only [Option.getD_none]
          omega
  have h2 := this l [0, 0, 0, 0, 0, 0, 0, 0] 0 (by simp)
  intro x hx
  have := h2 x hx
  omega
/-- Eight zeros that have just been laid. -/
theorem cntF_own {w : World} {g : Nat} {t : TypeId} (h : w.rowIs g t 8 (fun _ => .int .i64 0)) : Own .i64 t w g (.slice (some ⟨g, 0, none⟩) 8 8) (cntF f []) :=
  Own.of_row (h.congr fun j hj => by rcases (by omega : j = 0 ∨ j = 1 ∨ j = 2 ∨ j = 3 ∨ j = 4 ∨ j = 5 ∨ j = 6 ∨ j = 7) with rfl | rfl | rfl | rfl | rfl | rfl | rfl | rfl <;> rfl) rfl (by simp only [maxLen]; omega) (Nat.le_refl _) (fun x hx => by
    have := cntF_le f [] x hx
    exact WalkArith.wf_i64 ⟨by simp at this; omega, by simp at this; omega⟩)
end
end Go.Proofs.Ytpapkonejkdkhaa
