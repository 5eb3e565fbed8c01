/-
  Mp: texts joined.
-/
import Derived.Test.YtaabmaoldhoinaaGreatVGa
import Derived.Lib.SlKeysI
import Derived.Maps.OwnSet
namespace Go.Proofs.YtaabmaoldhoinaaGreat
set_option linter.unusedVariables false
open Go.RowKit
section MapsOpen
open Go.Maps

abbrev MD := DataW Value
def mR (v : Value) : Option (MD × List MemPlace) := some (.held v, [])
abbrev mK (k : Int) : Lit := .int .i64 k
theorem mK_ne {a b : Int} (h : a ≠ b) : mK a ≠ mK b := fun e => by injection e with _ e; exact h e
theorem mK_key (a : Int) : WideAt.IsKeyLit (mK a) := trivial
/-- The map's datum D holds the elements l by their numbers. -/
structure MapW {α : Type} (t : Ty α) (id : α → Int) (w : World) (B : Nat) (D : MD) (l : List α) : Prop where
  tidy : Tidy D
  there : ∀ a ∈ l, ∃ es, (∀ z, D.atKey (mK (id a)) z = .held (.agg (List.toArray es))) ∧ t.R w B es a
  has1 : ∀ a ∈ l, has D (mK (id a)) = true
  has0 : ∀ k, (∀ a ∈ l, id a ≠ k) → has D (mK k) = false
section
variable {α : Type} {t : Ty α} {id : α → Int} {w w' : World} {B B' : Nat} {D : MD} {l l' : List α} {a : α} {es : List Value}
theorem MapW.nil (t : Ty α) (id : α → Int) (w : World) (B : Nat) : MapW t id w B (.map []) [] :=
  ⟨tidy_empty, fun a h => absurd h (by simp), fun a h => absurd h (by simp), fun k _ => rfl⟩
theorem MapW.keep (h : MapW t id w B D l) (hk : ∀ b, b < B → w'.heap[b]? = w.heap[b]?) : MapW t id w' B D l :=
  ⟨h.tidy, fun a ha => by obtain ⟨es, h1, h2⟩ := h.there a ha; exact ⟨es, h1, t.keep h2 hk⟩, h.has1, h.has0⟩
theorem MapW.up (h : MapW t id w B D l) (hB : B ≤ B') : MapW t id w B' D l :=
  ⟨h.tidy, fun a ha => by obtain ⟨es, h1, h2⟩ := h.there a ha; exact ⟨es, h1, t.up h2 hB⟩, h.has1, h.has0⟩
theorem MapW.mem (h : MapW t id w B D l) (hm : ∀ a, a ∈ l' ↔ a ∈ l) : MapW t id w B D l' :=
  ⟨h.tidy, fun a ha => h.there a ((hm a).1 ha), fun a ha => h.has1 a ((hm a).1 ha), fun k hk => h.has0 k fun a ha => hk a ((hm a).2 ha)⟩
theorem MapW.put (h : MapW t id w B D l) (hR : t.R w B es a) : MapW t id w B (D.put (mK (id a)) (.held (.agg es.toArray))) (l.filter (fun b => decide (id b ≠ id a)) ++ [a]) := by
  refine ⟨h.tidy.put (mK_key _) _, fun b hb => ?_, fun b hb => ?_, fun k hk => ?_⟩
  · rcases List.mem_append.1 hb with hb | hb
    · obtain ⟨hb1, hb2⟩ := List.mem_filter.1 hb
      obtain ⟨es', h1, h2⟩ := h.there b hb1
      exact ⟨es', fun z => by rw [atKey_put_other (mK_ne (of_decide_eq_true hb2))]; exact h1 z, h2⟩
    · rw [List.mem_singleton] at hb
      subst hb
      exact ⟨es, fun z => atKey_put_same h.tidy.isMap (mK_key _) _ z, hR⟩
  · rcases List.mem_append.1 hb with hb | hb
    · obtain ⟨hb1, hb2⟩ := List.mem_filter.1 hb
      rw [has_put_other (mK_ne (of_decide_eq_true hb2))]
      exact h.has1 b hb1
    · rw [List.mem_singleton] at hb
      subst hb
      exact has_put_same h.tidy.isMap (mK_key _) _
  · have hka : k ≠ id a := fun e => hk a (by simp) e.symm
    rw [has_put_other (mK_ne hka)]
    exact h.has0 k fun b hb e => hk b (List.mem_append.2 (.inl (List.mem_filter.2 ⟨hb, decide_eq_true (fun e' => hka (e.symm.trans e'))⟩))) e
theorem MapW.putNew (h : MapW t id w B D l) (hR : t.R w B es a) (hn : ∀ b ∈ l, id b ≠ id a) : MapW t id w B (D.put (mK (id a)) (.held (.agg es.toArray))) (l ++ [a]) := by
  have := h.put hR
  rwa [List.filter_eq_self.2 (fun b hb => decide_eq_true (hn b hb))] at this
theorem MapW.del (h : MapW t id w B D l) (k : Int) : MapW t id w B (D.del (mK k)) (l.filter (fun b => decide (id b ≠ k))) := by
  refine ⟨h.tidy.del _, fun b hb => ?_, fun b hb => ?_, fun k' hk => ?_⟩
  · obtain ⟨hb1, hb2⟩ := List.mem_filter.1 hb
    obtain ⟨es', h1, h2⟩ := h.there b hb1
    exact ⟨es', fun z => by rw [atKey_del_other (mK_ne (of_decide_eq_true hb2))]; exact h1 z, h2⟩
  · obtain ⟨hb1, hb2⟩ := List.mem_filter.1 hb
    rw [has_del_other (mK_ne (of_decide_eq_true hb2))]
    exact h.has1 b hb1
  · by_cases he : k' = k
    · subst he
      exact has_del_same
    · rw [has_del_other (mK_ne he)]
      exact h.has0 k' fun b hb e => hk b (List.mem_filter.2 ⟨hb, decide_eq_true (fun e' => he (e.symm.trans e'))⟩) e
/-- A look-up by number: the element, or the zero value. -/
theorem MapW.look {P : Program} {T K E : TypeId} {z : Value} {b n : Nat} (h : MapW t id w B D l) (hown : w.ownsMap P K mR b n D) (hK : P.underlying K = some (.int .i64)) (hT : P.underlying T = some (.map K E)) (hz : (zeroValue E).run P w = .ok z w) {i : Int} (hi : (Lit.int .i64 i).wf = true) :
    ∃ v, (Instr.lookup T (.map (some b)) (.int .i64 i) false).run P w = .ok v w ∧ ((∃ a es, a ∈ l ∧ id a = i ∧ v = .agg (List.toArray es) ∧ t.R w B es a) ∨ ((∀ a ∈ l, id a ≠ i) ∧ v = z)) := by
  obtain ⟨v, ps, hrun, hv⟩ := hown.lookup (int_keyed hK) hT hz (zd := .held z) (zp := []) rfl (keyOf_int_mk hK hi)
  refine ⟨v, hrun, ?_⟩
  have hv' : (DataW.held v : MD) = D.atKey (mK i) (.held z) := by
    have := congrArg (fun o => o.map Prod.fst) hv
    simpa [mR] using this
  by_cases hx : ∃ a ∈ l, id a = i
  · obtain ⟨a, ha, hai⟩ := hx
    obtain ⟨es, h1, h2⟩ := h.there a ha
    rw [hai] at h1
    rw [h1] at hv'
    injection hv' with hv'
    exact .inl ⟨a, es, ha, hai, hv', h2⟩
  · have h0 : ∀ a ∈ l, id a ≠ i := fun a ha e => hx ⟨a, ha, e⟩
    rw [atKey_of_not_has (h.has0 i h0)] at hv'
    injection hv' with hv'
    exact .inr ⟨h0, hv'⟩
end
end MapsOpen
end Go.Proofs.YtaabmaoldhoinaaGreat
