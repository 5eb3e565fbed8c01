/-
  Nodes in order, in plain words.
-/
import Derived.Test.YtilopapnipealaaGreatPDk
import Derived.Test.YtilopapnipealaaGreatPPool
import Derived.Test.YtilopapnipealaaGreatAll
namespace Go.Proofs.YtilopapnipealaaGreat
set_option linter.unusedVariables false
open Fld
/-- What came whole: short enough, and its names are just the done ones. -/
def NdGot (got : List DLetter) (done : List Int) : Prop := (∀ l ∈ got, l.2.length ≤ 160) ∧ (got.map fun l => l.1).Perm done
/-- A node in order. -/
def NdOk (p : DNode) : Prop := (0 ≤ p.1 ∧ p.1 < 8) ∧ Sec p.2.1 ∧ PlOk p.2.2.1 ∧ DkOk p.2.2.2.1 ∧ NdGot p.2.2.2.2 p.2.2.2.1.2
noncomputable instance (p : DNode) : Decidable (NdOk p) := Classical.propDecidable _
noncomputable instance (l : List DLetter) (d : List Int) : Decidable (NdGot l d) := Classical.propDecidable _
/-- Distinct, all of them there, and as many: the same. -/
theorem perm_of_sub : ∀ (l d : List Int), l.Nodup → (∀ x ∈ l, x ∈ d) → d.length ≤ l.length → l.Perm d
  | [], d, _, _, h => by
    have : d = [] := List.eq_nil_of_length_eq_zero (by simpa using h)
    rw [this]
  | a :: l, d, hn, hs, hl => by
    have ha := hs a (by simp)
    refine List.Perm.trans (List.Perm.cons a ?_) (List.perm_cons_erase ha).symm
    rw [List.nodup_cons] at hn
    refine perm_of_sub l (d.erase a) hn.2 (fun x hx => ?_) ?_
    · refine (List.mem_erase_of_ne ?_).2 (hs x (by simp [hx]))
      rintro rfl; exact hn.1 hx
    · have := List.length_erase_of_mem ha
      simp at hl; omega
theorem asc_pair : ∀ {l : List Int}, Asc l → l.Pairwise (· < ·) := by
  intro l h
  have key : ∀ d i, i + d + 1 < l.length → l.getD i 0 < l.getD (i + d + 1) 0 := by
    intro d
    induction d with
    | zero => intro i hi; exact h i hi
    | succ d ih =>
      intro i hi
      have h1 := ih i (by omega)
      have h2 := h (i + d + 1) (by omega)
      rw [show i + (d + 1) + 1 = i + d + 1 + 1 by omega]
      omega
  rw [List.pairwise_iff_getElem]
  intro i j hi hj hij
  have := key (j - i - 1) i (by omega)
  rw [show i + (j - i - 1) + 1 = j by omega] at this
  rwa [List.getD_eq_getElem?_getD, List.getD_eq_getElem?_getD, List.getElem?_eq_getElem hi, List.getElem?_eq_getElem hj] at this
theorem asc_nodup {l : List Int} (h : Asc l) : l.Nodup := (asc_pair h).imp fun h => by omega
/-- Sorted names are the done ones just where they are the same. -/
theorem sorted_iff {l d : List Int} (h : Asc d) : l.mergeSort (fun x y => decide (x ≤ y)) = d ↔ l.Perm d := by
  constructor
  · rintro rfl; exact (List.mergeSort_perm l _).symm
  · intro hp
    refine List.Perm.eq_of_pairwise (le := fun x y : Int => x ≤ y) (fun a b _ _ h1 h2 => by omega) ?_ ?_ ((List.mergeSort_perm l _).trans hp)
    · refine (List.pairwise_mergeSort (le := fun x y : Int => decide (x ≤ y)) (fun a b c h1 h2 => by simp at *; omega) (fun a b => by simp; omega) l).imp fun h => by simpa using h
    · exact (asc_pair h).imp fun h => by omega
/-- The first k letters: each of the done ones, short enough, none twice. -/
def LtK (got : List DLetter) (done : List Int) (k : Nat) : Prop := (∀ l ∈ got.take k, l.1 ∈ done ∧ l.2.length ≤ 160) ∧ ((got.take k).map fun l => l.1).Nodup
theorem LtK.zero {got : List DLetter} {done : List Int} : LtK got done 0 := ⟨al0, by simp⟩
theorem LtK.succ {got : List DLetter} {done : List Int} {k : Nat} {a : DLetter} (h : LtK got done k) (hl : got[k]? = some a) (h1 : a.1 ∈ done) (h2 : a.2.length ≤ 160) (h3 : ∀ b ∈ got.take k, b.1 ≠ a.1) : LtK got done (k + 1) := by
  refine ⟨alS h.1 hl ⟨h1, h2⟩, ?_⟩
  rw [take_sn hl, List.map_append, List.nodup_append]
  refine ⟨h.2, by simp, fun x hx y hy e => ?_⟩
  simp only [List.map_cons, List.map_nil, List.mem_singleton] at hy
  obtain ⟨b, hb, rfl⟩ := List.mem_map.1 hx
  exact h3 b hb (e.trans hy)
theorem LtK.done {got : List DLetter} {done : List Int} {k : Nat} (h : LtK got done k) (hk : got.length ≤ k) (hl : got.length = done.length) : NdGot got done := by
  have h1 := h.1; have h2 := h.2
  rw [List.take_of_length_le hk] at h1 h2
  refine ⟨fun l hl => (h1 l hl).2, perm_of_sub _ _ h2 (fun x hx => ?_) (by rw [List.length_map]; omega)⟩
  obtain ⟨l, hl, rfl⟩ := List.mem_map.1 hx
  exact (h1 l hl).1
theorem NdGot.len {got : List DLetter} {done : List Int} (h : NdGot got done) : got.length = done.length := by
  have := h.2.length_eq; rwa [List.length_map] at this
theorem NdGot.has {got : List DLetter} {done : List Int} (h : NdGot got done) {l : DLetter} (hl : l ∈ got) : l.1 ∈ done := h.2.mem_iff.1 (List.mem_map.2 ⟨l, hl, rfl⟩)
theorem NdGot.nodup {got : List DLetter} {done : List Int} (h : NdGot got done) (hd : Asc done) : (got.map fun l => l.1).Nodup := h.2.nodup_iff.2 (asc_nodup hd)
theorem nd_ne {got : List DLetter} {k i : Nat} {a b : DLetter} (h : (got.map fun l => l.1).Nodup) (hk : k < i) (ha : got[i]? = some a) (hb : got[k]? = some b) : b.1 ≠ a.1 := by
  intro e
  rw [List.nodup_iff_pairwise_ne, List.pairwise_iff_getElem] at h
  have hi := (List.getElem?_eq_some_iff.1 ha).1
  refine h k i (by rw [List.length_map]; omega) (by rw [List.length_map]; exact hi) hk ?_
  rw [List.getElem_map, List.getElem_map, (List.getElem?_eq_some_iff.1 ha).2, (List.getElem?_eq_some_iff.1 hb).2, e]
end Go.Proofs.YtilopapnipealaaGreat
