/-
  What a desk is asked: contracts of IsDone, OpenIds, Lacking, of both sides.
-/
import Derived.Test.YtilopapnipealaaGreatPDesk
namespace Go.Proofs.YtilopapnipealaaGreat
set_option maxRecDepth 100000
set_option linter.unusedVariables false
set_option linter.unusedSimpArgs false
open Go.ChangeShapes Go.WideShapes Go.ChangeAt Go.RowKit
noncomputable def fDone (p : DDesk) (x : Int) : Bool := decide (DkOk p) && decide (x ∈ p.2)
theorem fDone_f {p : DDesk} {x : Int} (h : ¬ DkOk p) : fDone p x = false := by unfold fDone; rw [decide_eq_false h]; rfl
theorem fDone_t {p : DDesk} {x : Int} (h : DkOk p) : fDone p x = decide (x ∈ p.2) := by unfold fDone; rw [decide_eq_true h]; rfl
noncomputable def fOpen (p : DDesk) : List Int := if DkOk p then p.1.map fun a => a.1 else []
theorem fOpen_t {p : DDesk} (h : DkOk p) : fOpen p = p.1.map fun a => a.1 := if_pos h
theorem fOpen_f {p : DDesk} (h : ¬ DkOk p) : fOpen p = [] := if_neg h
theorem fOpen_le (p : DDesk) : (fOpen p).length ≤ 6 := by
  unfold fOpen
  split
  · rename_i h; rw [List.length_map]; exact h.1
  · simp
def lk (a : DWhole) : Int := a.2.1 - (a.2.2.2.length : Int)
def lackL (l : List DWhole) : Int := l.foldl (fun n a => n + lk a) 0
theorem lackL_sn {l : List DWhole} {j : Nat} {a : DWhole} (h : l[j]? = some a) : lackL (l.take (j + 1)) = lackL (l.take j) + lk a := by
  rw [take_sn h]; unfold lackL; rw [List.foldl_append]; rfl
theorem wh_rg {a : DWhole} (h : WhN a) : 1 ≤ a.2.2.2.length ∧ (a.2.2.2.length : Int) < a.2.1 ∧ a.2.1 ≤ 8 := by
  obtain ⟨-, ⟨h1, h2⟩, h3, -⟩ := h
  refine ⟨h1, h2, ?_⟩
  have hm := List.getElem_mem (l := a.2.2.2) (n := 0) (by omega)
  obtain ⟨k1, -, k3⟩ := h3 _ hm
  unfold PcOk PcN at k1
  omega
theorem lackL_rg {l : List DWhole} (h : ∀ a ∈ l, WhN a) : 0 ≤ lackL l ∧ lackL l ≤ 8 * (l.length : Int) := by
  have : ∀ (l : List DWhole) (n : Int), (∀ a ∈ l, WhN a) → n ≤ l.foldl (fun n a => n + lk a) n ∧ l.foldl (fun n a => n + lk a) n ≤ n + 8 * (l.length : Int) := by
    intro l
    induction l with
    | nil => intro n _; simp
    | cons a l ih =>
      intro n hl
      have ha := wh_rg (hl a (by simp))
      have := ih (n + lk a) (fun x hx => hl x (by simp [hx]))
      rw [List.foldl_cons, List.length_cons]
      unfold lk at *
      omega
  have := this l 0 h
  unfold lackL
  omega
noncomputable def fLack (p : DDesk) : Int := if DkOk p then lackL p.1 else -1
theorem fLack_t {p : DDesk} (h : DkOk p) : fLack p = lackL p.1 := if_pos h
theorem fLack_f {p : DDesk} (h : ¬ DkOk p) : fLack p = -1 := if_neg h
theorem one_sl {w : World} {A : Option Addr} {n c : Nat} {l : List Int} (h : tIs.R w w.heap.size [.slice A n c] l) : Ints .i64 w w.heap.size A n l := (slR_ints h).1
end Go.Proofs.YtilopapnipealaaGreat
