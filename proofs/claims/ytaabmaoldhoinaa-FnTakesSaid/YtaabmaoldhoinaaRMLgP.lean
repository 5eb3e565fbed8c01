/-
  LgP: texts joined.
-/
import Derived.Test.YtaabmaoldhoinaaRGb
import Derived.Test.YtaabmaoldhoinaaRMKeys
import Derived.Maps.RangeWalk
namespace Go.Proofs.Ytaabmaoldhoinaa
set_option linter.unusedVariables false
open Go.RowKit
section MapsOpen
open Go.Maps
def dkZ : DDesk := ([], [])
/-! ### sorted keys -/
theorem asc_pw {l : List Int} (h : Asc l) : l.Pairwise (fun a b => a < b) := by
  rw [List.pairwise_iff_getElem]
  intro i j hi hj hij
  have := asc_lt h i j hij hj
  rwa [List.getD_eq_getElem?_getD, List.getD_eq_getElem?_getD, List.getElem?_eq_getElem hi, List.getElem?_eq_getElem hj] at this
theorem asc_nodup {l : List Int} (h : Asc l) : l.Nodup := (asc_pw h).imp fun h' e => by omega
/-- What is sorted of the numbers of an ascending list is that list. -/
theorem asc_sorted {l m : List Int} (h : Asc l) (hp : m.Perm l) : m.mergeSort (fun x y => decide (x ≤ y)) = l := by
  refine List.Perm.eq_of_pairwise (le := fun a b : Int => a ≤ b) ?_ ?_ ?_ ((List.mergeSort_perm _ _).trans hp)
  · intro a b _ _ h1 h2; omega
  · have := List.pairwise_mergeSort (le := fun x y : Int => decide (x ≤ y)) (fun a b c h1 h2 => by simp at *; omega) (fun a b => by simp; omega) m
    exact this.imp fun h' => of_decide_eq_true h'
  · exact (asc_pw h).imp fun h' => by omega
theorem asc_filter {l : List DWhole} (q : DWhole → Bool) (h : Asc (l.map fun a => a.1)) : Asc ((l.filter q).map fun a => a.1) := by
  have h1 : ((l.filter q).map fun a : DWhole => a.1).Pairwise (fun a b => a < b) := by
    rw [List.pairwise_map]
    exact List.Pairwise.filter q (List.pairwise_map.1 (asc_pw h))
  intro i hi
  rw [List.pairwise_iff_getElem] at h1
  have := h1 i (i + 1) (by omega) hi (by omega)
  rwa [List.getD_eq_getElem?_getD, List.getD_eq_getElem?_getD, List.getElem?_eq_getElem hi, List.getElem?_eq_getElem (by omega)]
theorem asc_one {l : List DWhole} (h : Asc (l.map fun a => a.1)) {a b : DWhole} (ha : a ∈ l) (hb : b ∈ l) (e : a.1 = b.1) : a = b := by
  obtain ⟨i, hi, rfl⟩ := List.getElem_of_mem ha
  obtain ⟨j, hj, rfl⟩ := List.getElem_of_mem hb
  have h1 := List.nodup_iff_pairwise_ne.1 (asc_nodup h)
  rcases Nat.lt_trichotomy i j with h' | h' | h'
  · exact absurd e (by have := List.pairwise_iff_getElem.1 h1 i j (by simpa using hi) (by simpa using hj) h'; simpa using this)
  · subst h'; rfl
  · exact absurd e.symm (by have := List.pairwise_iff_getElem.1 h1 j i (by simpa using hj) (by simpa using hi) h'; simpa using this)
/-! ### a map while it is gone through -/
/-- What has come out of the map is one of its elements. -/
theorem MapW.came {α : Type} {t : Ty α} {id : α → Int} {w : World} {B : Nat} {D : MD} {l : List α} (h : MapW t id w B D l) {k : Int} {c : Value} (hat : ∀ zd, D.atKey (mK k) zd = .held c) :
    ∃ a es, a ∈ l ∧ id a = k ∧ c = .agg (List.toArray es) ∧ t.R w B es a := by
  by_cases hx : ∃ a ∈ l, id a = k
  · obtain ⟨a, ha, rfl⟩ := hx
    obtain ⟨es, h1, h2⟩ := h.there a ha
    have := (hat .nil).symm.trans (h1 .nil)
    injection this with this
    exact ⟨a, es, ha, rfl, this, h2⟩
  · have h0 := h.has0 k fun a ha e => hx ⟨a, ha, e⟩
    have e1 : D.atKey (mK k) .nil = .nil := by rw [atKey_of_not_has h0]
    have := e1.symm.trans (hat .nil)
    cases this
theorem MapW.size {α : Type} {t : Ty α} {id : α → Int} {w w0 : World} {B b n : Nat} {D : MD} {l : List α} {P : Program} {K : TypeId} (h : MapW t id w B D l) (hown : w0.ownsMap P K mR b n D) (hK : P.underlying K = some (.int .i64)) (hn : (l.map id).Nodup) :
    Maps.size D = l.length := by
  have h1 := (h.keys hown hK hn).1.length_eq
  rw [List.length_map] at h1
  rw [← h1]
  obtain ⟨es, rfl, -, -⟩ := owns_kind hown hK
  show es.length = (List.map _ es).length
  rw [List.length_map]
end MapsOpen
end Go.Proofs.Ytaabmaoldhoinaa
