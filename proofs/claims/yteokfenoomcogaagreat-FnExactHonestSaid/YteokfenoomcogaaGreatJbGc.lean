/-
  GrowC: texts joined.
-/
import Derived.Test.YteokfenoomcogaaGreatJbGb
import Derived.Test.YteokfenoomcogaaGreatKGc
import Derived.Test.YteokfenoomcogaaGreatKGf
import Derived.Test.YteokfenoomcogaaGreatKGg
import Derived.Test.YteokfenoomcogaaGreatKGh
import Derived.Test.YteokfenoomcogaaGreatKGi
import Derived.Test.YteokfenoomcogaaGreatKGl
import Derived.Test.YteokfenoomcogaaGreatRows
import Derived.BigQuiet
import Derived.Deep.Draws
import Derived.Deep.OwnRows
import Derived.Deep.QuietTactic
import Derived.Deep.RegionHeld3
import Derived.Laws.MakeOwn
import Derived.Lib.Hide
import Derived.Maps.AppendAt
import Derived.OpenShut
import Derived.Outline
import Derived.ProofKit
import Derived.WalkKit
namespace Go.Proofs.YteokfenoomcogaaGreat
set_option linter.unusedVariables false
open Go.RowKit
section
variable {α : Type} {t : Ty α} {e e' : TypeId} {w w' : World} {base base' B n c : Nat} {A : Option Addr} {v v' : Value} {l l' : List α}
theorem GrowR.src (h : GrowR t e w base B v l) (h1 : ∀ es a, t.R w B es a → ∀ u ∈ es, u.oneCell' = true) :
    ∃ (css : List (List Value)) (A : Option Addr) (c : Nat), v = .slice A l.length c ∧ css.length = l.length ∧ (∀ (i : Nat) (a : α) (es : List Value), l[i]? = some a → css[i]? = some es → t.R w B es a) ∧ Src w t.k A l.length css.flatten ∧ ∀ u ∈ css.flatten, u.oneCell' = true := by
  obtain ⟨css, k1, k2, k5⟩ := h
  have hk : ∀ es ∈ css, es.length = t.k := fun es hes => by
    obtain ⟨i', hi', rfl⟩ := List.getElem_of_mem hes
    exact t.lenR (k5 i' _ _ (List.getElem?_eq_getElem (by omega)) (List.getElem?_eq_getElem hi'))
  have hone : ∀ u ∈ css.flatten, u.oneCell' = true := fun u hu => by
    obtain ⟨es, hes, hu⟩ := List.mem_flatten.1 hu
    obtain ⟨i, hi, rfl⟩ := List.getElem_of_mem hes
    exact h1 _ _ (k5 i _ _ (List.getElem?_eq_getElem (by omega)) (List.getElem?_eq_getElem hi)) u hu
  rcases k1.2 with ⟨rfl, h0⟩ | ⟨g, cap, cur, rfl, hb, hg, hn, hm, hs, ht⟩
  · have : l = [] := List.eq_nil_of_length_eq_zero h0
    subst this
    have : css = [] := List.eq_nil_of_length_eq_zero (by rw [k2]; rfl)
    subst this
    exact ⟨[], none, 0, rfl, rfl, fun i a es hi => by simp at hi, ⟨by simp, fun h => absurd h (by simp)⟩, fun u hu => by simp at hu⟩
  · refine ⟨css, some ⟨g, 0, none⟩, cap, rfl, k2, k5, ⟨by rw [flat_len hk, k2], fun _ => ⟨g, 0, rfl, fun j u hj => ?_⟩⟩, hone⟩
    have hj2 : j < l.length * t.k := by rw [← k2, ← flat_len hk]; exact (List.getElem?_eq_some_iff.1 hj).1
    rw [Nat.zero_add, Box.cell (t := e) hg, ← hj, ← ht, List.getElem?_take, if_pos hj2]
    simp
/-- What an append of a call's own row sees, and what it leaves. -/
theorem GrowR.cat (h : GrowR t e w base B v l) (hr : GrowR t e' w base' B v' l') (h1 : ∀ es a, t.R w B es a → ∀ u ∈ es, u.oneCell' = true) (hb : B ≤ base) (hw : B ≤ w.heap.size) :
    ∃ (xs news : List Value) (A : Option Addr) (c : Nat), v' = .slice A l'.length c ∧ w.ownsRow base e t.k v l.length xs ∧ Src w t.k A l'.length news ∧ (∀ u ∈ news, u.oneCell' = true) ∧
      ∀ w3 v1, w3.ownsRow base e t.k v1 (l.length + l'.length) (xs ++ news) → w.grownBy w3 v.ownBlock → GrowR t e w3 base B v1 (l ++ l') := by
  obtain ⟨css2, A, c, rfl, k1, k2, k3, k4⟩ := hr.src h1
  obtain ⟨css, g1, g2, g5⟩ := h
  have hown := fun b hb => g1.lt b hb
  refine ⟨css.flatten, css2.flatten, A, c, rfl, g1, k3, k4, fun w3 v1 q5 q6 => ⟨css ++ css2, ?_, by simp [g2, k1], ?_⟩⟩
  · rw [List.length_append, List.flatten_append]
    exact q5
  · have keep : ∀ b, b < B → w3.heap[b]? = w.heap[b]? := fun b hlt => q6.block b (by omega) fun e => by have := (hown b e.symm).1; omega
    intro i b cs r1 r2
    by_cases hi : i < l.length
    · rw [List.getElem?_append_left hi] at r1
      rw [List.getElem?_append_left (by omega)] at r2
      exact t.keep (g5 i b cs r1 r2) keep
    · rw [List.getElem?_append_right (by omega)] at r1
      rw [List.getElem?_append_right (by omega), g2] at r2
      exact t.keep (k2 _ b cs r1 r2) keep
end
end Go.Proofs.YteokfenoomcogaaGreat
