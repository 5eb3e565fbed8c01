/-
  Mp: texts joined.
-/
import Derived.Test.YtkdanlnhdgcplaaGreatFGa
import Derived.Lib.SlKeysI
import Derived.Maps.OwnSet
namespace Go.Proofs.YtkdanlnhdgcplaaGreat
set_option linter.unusedVariables false
open Go.RowKit
section MapsOpen
open Go.Maps

abbrev MD := DataW Value
def mR (v : Value) : Option (MD × List MemPlace) := some (.held v, [])
abbrev mK (k : Int) : Lit := .int .i64 k
theorem mK_ne {a b : Int} (h : a ≠ b) : mK a ≠ mK b := fun e => by injection e with _ e; exact h e
theorem mK_key (a : Int) : WideAt.IsKeyLit (mK a) := trivial
structure MapW {α : Type} (t : Ty α) (id : α → Int) (w : World) (B : Nat) (D : MD) (l : List α) : Prop where
 tidy : Tidy D
 there : ∀ a ∈ l, ∃ es, (∀ z, D.atKey (mK (id a)) z = .held (.agg (List.toArray es))) ∧ t.R w B es a
 has1 : ∀ a ∈ l, has D (mK (id a)) = true
 has0 : ∀ k, (∀ a ∈ l, id a ≠ k) → has D (mK k) = false
section
variable {α : Type} {t : Ty α} {id : α → Int} {w w' : World} {B B' : Nat} {D : MD} {l l' : List α} {a : α} {es : List Value}
theorem MapW.nil (t : Ty α) (id : α → Int) (w : World) (B : Nat) : MapW t id w B (.map []) [] :=
 ⟨tidy_empty, fun a h => absurd h (by simp), fun a h => absurd h (by simp), fun k _ => rfl⟩
theorem MapW.keep (h : MapW t id w B D l) (hk : ∀ b, b < B → w'.heap[b]? = w.heap[b]?) : MapW t id w' B D l :=
 ⟨h.tidy, fun a ha => by obtain ⟨es, h1, h2⟩ := h.there a ha; exact ⟨es, h1, t.keep h2 hk⟩, h.has1, h.has0⟩
theorem MapW.up (h : MapW t id w B D l) (hB : B ≤ B') : MapW t id w B' D l :=
 ⟨h.tidy, fun a ha => by obtain ⟨es, h1, h2⟩ := h.there a ha; exact ⟨es, h1, t.up h2 hB⟩, h.has1, h.has0⟩
theorem MapW.put (h : MapW t id w B D l) (hR : t.R w B es a) : MapW t id w B (D.put (mK (id a)) (.held (.agg es.toArray))) (l.filter (fun b => decide (id b ≠ id a)) ++ [a]) := by
 refine ⟨h.tidy.put (mK_key _) _, fun b hb => ?_, fun b hb => ?_, fun k hk => ?_⟩
 ·rcases List.mem_append.1 hb with hb | hb
  ·obtain ⟨hb1, hb2⟩ := List.mem_filter.1 hb
   obtain ⟨es', h1, h2⟩ := h.there b hb1
   exact ⟨es', fun z => by rw [atKey_put_other (mK_ne (of_decide_eq_true hb2))]; exact h1 z, h2⟩
  ·rw [List.mem_singleton] at hb
   subst hb
   exact ⟨es, fun z => atKey_put_same h.tidy.isMap (mK_key _) _ z, hR⟩
 ·rcases List.mem_append.1 hb with hb | hb
  ·obtain ⟨hb1, hb2⟩ := List.mem_filter.1 hb
   rw [has_put_other (mK_ne (of_decide_eq_true hb2))]
   exact h.has1 b hb1
  ·rw [List.mem_singleton] at hb
   subst hb
   exact has_put_same h.tidy.isMap (mK_key _) _
 ·have hka : k ≠ id a := fun e => hk a (by simp) e.symm
  rw [has_put_other (mK_ne hka)]
  exact h.has0 k fun b hb e => hk b (List.mem_append.2 (.inl (List.mem_filter.2 ⟨hb, decide_eq_true (fun e' => hka (e.symm.trans e'))⟩))) e
end
end MapsOpen
end Go.Proofs.YtkdanlnhdgcplaaGreat
