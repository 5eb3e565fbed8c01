/-
  LgP: texts joined.
-/
import Derived.Test.YtkdanlnhdgcplaaGreatFGe
import Derived.Test.YtkdanlnhdgcplaaGreatFMKeys
import Derived.Maps.RangeWalk
namespace Go.Proofs.YtkdanlnhdgcplaaGreat
set_option linter.unusedVariables false
open Go.RowKit
section MapsOpen
open Go.Maps
/-! ### sorted keys -/
theorem asc_pw {l : List Int} (h : Asc l) : l.Pairwise (fun a b => a < b) := by
 rw [List.pairwise_iff_getElem]
 intro i j hi hj hij
 have := asc_lt h i j hij hj
 rwa [List.getD_eq_getElem?_getD, List.getD_eq_getElem?_getD, List.getElem?_eq_getElem hi, List.getElem?_eq_getElem hj] at this
/-! ### a map while it is gone through -/
theorem MapW.came {α : Type} {t : Ty α} {id : α → Int} {w : World} {B : Nat} {D : MD} {l : List α} (h : MapW t id w B D l) {k : Int} {c : Value} (hat : ∀ zd, D.atKey (mK k) zd = .held c) :
  ∃ a es, a ∈ l ∧ id a = k ∧ c = .agg (List.toArray es) ∧ t.R w B es a := by
 by_cases hx : ∃ a ∈ l, id a = k
 ·obtain ⟨a, ha, rfl⟩ := hx
  obtain ⟨es, h1, h2⟩ := h.there a ha
  have := (hat .nil).symm.trans (h1 .nil)
  injection this with this
  exact ⟨a, es, ha, rfl, this, h2⟩
 ·have h0 := h.has0 k fun a ha e => hx ⟨a, ha, e⟩
  have e1 : D.atKey (mK k) .nil = .nil := by rw [atKey_of_not_has h0]
  have := e1.symm.trans (hat .nil)
  cases this
theorem MapW.size {α : Type} {t : Ty α} {id : α → Int} {w w0 : World} {B b n : Nat} {D : MD} {l : List α} {P : Program} {K : TypeId} (h : MapW t id w B D l) (hown : w0.ownsMap P K mR b n D) (hK : P.underlying K = some (.int .i64)) (hn : (l.map id).Nodup) :
  Maps.size D = l.length := by
 have h1 := (h.keys hown hK hn).1.length_eq
 rw [List.length_map] at h1
 rw [← h1]
 obtain ⟨es, rfl, -, -⟩ := owns_kind hown hK
 show es.length = (List.map _ es).length
 rw [List.length_map]
end MapsOpen
end Go.Proofs.YtkdanlnhdgcplaaGreat
