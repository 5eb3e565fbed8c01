/-
  LgP: texts joined.
-/
import Derived.Test.YtaabmaoldhoinaaGreatVGb
import Derived.Test.YtaabmaoldhoinaaGreatVMKeys
import Derived.Maps.RangeWalk
namespace Go.Proofs.YtaabmaoldhoinaaGreat
set_option linter.unusedVariables false
open Go.RowKit
section MapsOpen
open Go.Maps
def dkZ : DDesk := ([], [])
def lgf (now : Int) (l : List DWhole) : List DWhole := l.filter fun h => decide (now < h.2.2.1)
theorem lgf_t {x : Int} {l : List DWhole} {j : Nat} {a : DWhole} (h : l[j]? = some a) (ha : x < a.2.2.1) : lgf x (l.take (j + 1)) = lgf x (l.take j) ++ [a] := by
  unfold lgf; rw [take_snoc h, List.filter_append, List.filter_cons_of_pos (by simpa using ha)]; rfl
theorem lgf_f {x : Int} {l : List DWhole} {j : Nat} {a : DWhole} (h : l[j]? = some a) (ha : ¬ x < a.2.2.1) : lgf x (l.take (j + 1)) = lgf x (l.take j) := by
  unfold lgf; rw [take_snoc h, List.filter_append, List.filter_cons_of_neg (by simpa using ha)]; simp
theorem lgf_len (x : Int) (l : List DWhole) : (lgf x l).length ≤ l.length := List.length_filter_le _ _
theorem lgf_sz (x : Int) (l : List DWhole) : rsz szWhole (lgf x l) ≤ rsz szWhole l := by
  induction l with
  | nil => exact Nat.le_refl _
  | cons a l ih =>
    unfold lgf rsz at *
    by_cases ha : x < a.2.2.1
    · rw [List.filter_cons_of_pos (by simpa using ha)]; simp only [List.length_cons, rsum]; omega
    · rw [List.filter_cons_of_neg (by simpa using ha)]; simp only [List.length_cons, rsum]; omega
noncomputable def fLg (p : DDesk) (now : Int) : DDesk := if DkOk p then (lgf now p.1, p.2) else dkZ
noncomputable def fLgN (p : DDesk) (now : Int) : Int := if DkOk p then (p.1.length : Int) - ((lgf now p.1).length : Int) else -1
theorem fLg_t {p : DDesk} {x : Int} (h : DkOk p) : fLg p x = (lgf x p.1, p.2) := if_pos h
theorem fLg_f {p : DDesk} {x : Int} (h : ¬ DkOk p) : fLg p x = dkZ := if_neg h
theorem fLgN_t {p : DDesk} {x : Int} (h : DkOk p) : fLgN p x = (p.1.length : Int) - ((lgf x p.1).length : Int) := if_pos h
theorem fLgN_f {p : DDesk} {x : Int} (h : ¬ DkOk p) : fLgN p x = -1 := if_neg h
theorem fLg_sz (p : DDesk) (x : Int) : szDesk (fLg p x) ≤ szDesk p := by
  unfold fLg
  split
  · have := lgf_sz x p.1; simp only [szDesk]; omega
  · simp [szDesk, dkZ, rsz, rsum]
/-! ### sorted keys -/
theorem asc_pw {l : List Int} (h : Asc l) : l.Pairwise (fun a b => a < b) := by
  rw [List.pairwise_iff_getElem]
  intro i j hi hj hij
  have := asc_lt h i j hij hj
  rwa [List.getD_eq_getElem?_getD, List.getD_eq_getElem?_getD, List.getElem?_eq_getElem hi, List.getElem?_eq_getElem hj] at this
theorem asc_nodup {l : List Int} (h : Asc l) : l.Nodup := (asc_pw h).imp fun h' e => by omega
/-- What is sorted of the numbers of an ascending list is that list. -/
theorem asc_sorted {l m : List Int} (h : Asc l) (hp : m.Perm l) : m.mergeSort (fun x y => decide (x ≤ y)) = l := by
  refine List.Perm.eq_of_pairwise (le := fun a b : Int => a ≤ b) ?_ ?_ ?_ ((List.mergeSort_perm _ _).trans hp)
  · intro a b _ _ h1 h2; omega
  · have := List.pairwise_mergeSort (le := fun x y : Int => decide (x ≤ y)) (fun a b c h1 h2 => by simp at *; omega) (fun a b => by simp; omega) m
    exact this.imp fun h' => of_decide_eq_true h'
  · exact (asc_pw h).imp fun h' => by omega
theorem asc_filter {l : List DWhole} (q : DWhole → Bool) (h : Asc (l.map fun a => a.1)) : Asc ((l.filter q).map fun a => a.1) := by
  have h1 : ((l.filter q).map fun a : DWhole => a.1).Pairwise (fun a b => a < b) := by
    rw [List.pairwise_map]
    exact List.Pairwise.filter q (List.pairwise_map.1 (asc_pw h))
  intro i hi
  rw [List.pairwise_iff_getElem] at h1
  have := h1 i (i + 1) (by omega) hi (by omega)
  rwa [List.getD_eq_getElem?_getD, List.getD_eq_getElem?_getD, List.getElem?_eq_getElem hi, List.getElem?_eq_getElem (by omega)]
theorem asc_one {l : List DWhole} (h : Asc (l.map fun a => a.1)) {a b : DWhole} (ha : a ∈ l) (hb : b ∈ l) (e : a.1 = b.1) : a = b := by
  obtain ⟨i, hi, rfl⟩ := List.getElem_of_mem ha
  obtain ⟨j, hj, rfl⟩ := List.getElem_of_mem hb
  have h1 := List.nodup_iff_pairwise_ne.1 (asc_nodup h)
  rcases Nat.lt_trichotomy i j with h' | h' | h'
  · exact absurd e (by have := List.pairwise_iff_getElem.1 h1 i j (by simpa using hi) (by simpa using hj) h'; simpa using this)
  · subst h'; rfl
  · exact absurd e.symm (by have := List.pairwise_iff_getElem.1 h1 j i (by simpa using hj) (by simpa using hi) h'; simpa using this)
/-! ### a map while it is gone through -/
def lgl (x : Int) (left : Lit → Bool) (l : List DWhole) : List DWhole := l.filter fun a => decide (x < a.2.2.1) || left (mK a.1)
theorem lgl_start {t : Ty DWhole} {w : World} {B : Nat} {D : MD} {l : List DWhole} (x : Int) (h : MapW t (fun a => a.1) w B D l) : lgl x (has D) l = l :=
  List.filter_eq_self.2 fun a ha => by rw [h.has1 a ha]; simp
theorem lgl_end {x : Int} {left : Lit → Bool} (hl : ∀ k, left k = false) (l : List DWhole) : lgl x left l = lgf x l :=
  List.filter_congr fun a _ => by rw [hl]; simp
theorem lgl_mem {x : Int} {left : Lit → Bool} {l : List DWhole} {a : DWhole} (h : a ∈ lgl x left l) : a ∈ l := (List.mem_filter.1 h).1
theorem same_t {k : Int} : (mK k).sameKey (mK k) = true := WideAt.sameKey_self (mK_key k)
theorem same_f {i k : Int} (h : i ≠ k) : (mK i).sameKey (mK k) = false := by
  cases hs : (mK i).sameKey (mK k) with
  | false => rfl
  | true => exact absurd ((WideAt.sameKey_iff (mK_key k)).1 hs) (mK_ne h)
theorem lgl_stay {x : Int} {left : Lit → Bool} {l : List DWhole} {k : Int} (h : ∀ a ∈ l, a.1 = k → x < a.2.2.1) : lgl x (fun z => left z && !z.sameKey (mK k)) l = lgl x left l :=
  List.filter_congr fun a ha => by
    by_cases e : a.1 = k
    · simp [h a ha e]
    · simp [same_f e]
theorem lgl_gone {x : Int} {left : Lit → Bool} {l : List DWhole} {k : Int} (h : ∀ a ∈ l, a.1 = k → ¬ x < a.2.2.1) : lgl x (fun z => left z && !z.sameKey (mK k)) l = (lgl x left l).filter (fun b => decide (b.1 ≠ k)) := by
  unfold lgl
  rw [List.filter_filter]
  refine List.filter_congr fun a ha => ?_
  by_cases e : a.1 = k
  · subst e; simp [h a ha rfl, same_t]
  · simp [same_f e, e]
/-- What has come out of the map is one of its elements. -/
theorem MapW.came {α : Type} {t : Ty α} {id : α → Int} {w : World} {B : Nat} {D : MD} {l : List α} (h : MapW t id w B D l) {k : Int} {c : Value} (hat : ∀ zd, D.atKey (mK k) zd = .held c) :
    ∃ a es, a ∈ l ∧ id a = k ∧ c = .agg (List.toArray es) ∧ t.R w B es a := by
  by_cases hx : ∃ a ∈ l, id a = k
  · obtain ⟨a, ha, rfl⟩ := hx
    obtain ⟨es, h1, h2⟩ := h.there a ha
    have := (hat .nil).symm.trans (h1 .nil)
    injection this with this
    exact ⟨a, es, ha, rfl, this, h2⟩
  · have h0 := h.has0 k fun a ha e => hx ⟨a, ha, e⟩
    have e1 : D.atKey (mK k) .nil = .nil := by rw [atKey_of_not_has h0]
    have := e1.symm.trans (hat .nil)
    cases this
theorem MapW.size {α : Type} {t : Ty α} {id : α → Int} {w w0 : World} {B b n : Nat} {D : MD} {l : List α} {P : Program} {K : TypeId} (h : MapW t id w B D l) (hown : w0.ownsMap P K mR b n D) (hK : P.underlying K = some (.int .i64)) (hn : (l.map id).Nodup) :
    Maps.size D = l.length := by
  have h1 := (h.keys hown hK hn).1.length_eq
  rw [List.length_map] at h1
  rw [← h1]
  obtain ⟨es, rfl, -, -⟩ := owns_kind hown hK
  show es.length = (List.map _ es).length
  rw [List.length_map]
end MapsOpen
end Go.Proofs.YtaabmaoldhoinaaGreat
