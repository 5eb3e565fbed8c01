/-
  Following a route: contracts of Follow of both sides.
-/
import Derived.Test.YtpapkonejkdkhaaReach
import Derived.Test.YtpapkonejkdkhaaPNil
namespace Go.Proofs.Ytpapkonejkdkhaa
open Go.ChangeShapes Go.WideShapes Go.ChangeAt Go.RowKit
open Fld
set_option maxRecDepth 100000
set_option linter.unusedVariables false
set_option linter.unusedSimpArgs false
theorem fol_nxt {R : List Int} {k : Nat} (hk : k < R.length) : (R.drop 1 ++ [255]).getD k 0 = (R.drop (k + 1)).getD 0 255 := by
  rw [List.getD_eq_getElem?_getD, List.getD_eq_getElem?_getD, List.getElem?_drop]
  by_cases h : k + 1 < R.length
  · rw [List.getElem?_append_left (by rw [List.length_drop]; omega), List.getElem?_drop, Nat.add_comm 1 k, Nat.add_zero, List.getElem?_eq_getElem h]
    rfl
  · have e : k = (R.drop 1).length := by rw [List.length_drop]; omega
    rw [List.getElem?_eq_none (l := R) (by omega), e, List.getElem?_append_right (Nat.le_refl _)]
    simp
theorem Ints.tailK {K : IntKind} {w : World} {B n b off : Nat} {l : List Int} (h : Ints K w B (some ⟨b, off, none⟩) n l) (i : Nat) (hi : i ≤ n) : Ints K w B (some ⟨b, off + i, none⟩) (n - i) (l.drop i) := by
  refine ⟨by rw [List.length_drop, h.1], fun h0 => ?_, fun x hx => h.2.2 x (List.mem_of_mem_drop hx)⟩
  obtain ⟨b', off', e, hlt, hcell⟩ := h.2.1 (by omega)
  injection e with e
  injection e with e1 e2 _
  subst e1 e2
  refine ⟨b, off + i, rfl, hlt, fun j hj => ?_⟩
  have := hcell (i + j) (by omega)
  rw [Nat.add_assoc, this, List.getD_eq_getElem?_getD, List.getD_eq_getElem?_getD, List.getElem?_drop]
theorem fol_cons {R : List Int} {k : Nat} (hk : k < R.length) : R.drop k = R.getD k 0 :: R.drop (k + 1) := by
  rw [List.drop_eq_getElem_cons hk, List.getD_eq_getElem?_getD, List.getElem?_eq_getElem hk]
  rfl
theorem ppeel_load_nil {s : Int} {c pad : List Int} (h : (ppeel s c pad).1.next ≠ 255) : (ppeel s c pad).1.load = [] := by
  by_cases hpe : peels s c
  · rw [ppeel_t hpe] at h ⊢
    exact if_neg h
  · rw [ppeel_f hpe]; rfl
/-- One hop of a route: what is left to follow. -/
theorem fol_step {S R c : List Int} {k p : Nat} {r : Pel × Bool} (hk : k < R.length) (hp : R.getD k 0 = (p : Int)) (hr : ppeel (S.getD p 0) c zer = r) :
    folL S (R.drop k) c = if r.2 = true ∧ r.1.next = (R.drop (k + 1)).getD 0 255 then (if k + 1 = R.length then (r.1.load, true) else folL S (R.drop (k + 1)) r.1.cell) else ([], false) := by
  rw [fol_cons hk, hp]
  show (if (ppeel (S.getD (p : Int).toNat 0) c zer).2 = true ∧ (ppeel (S.getD (p : Int).toNat 0) c zer).1.next = (R.drop (k + 1)).getD 0 255 then _ else _) = _
  rw [show ((p : Int)).toNat = p from rfl, hr]
  by_cases h : r.2 = true ∧ r.1.next = (R.drop (k + 1)).getD 0 255
  · rw [if_pos h, if_pos h]
    by_cases h' : k + 1 = R.length
    · have e : R.drop (k + 1) = [] := List.drop_eq_nil_of_le (by omega)
      rw [if_pos h', if_pos e]
    · have e : R.drop (k + 1) ≠ [] := fun e => h' (by have := congrArg List.length e; rw [List.length_drop] at this; simp at this; omega)
      rw [if_neg h', if_neg e]
  · rw [if_neg h, if_neg h]
theorem fol_mid {R : List Int} (hR : ∀ x ∈ R, 0 ≤ x ∧ x < 8) {k : Nat} (hk : k + 1 < R.length) : 0 ≤ (R.drop (k + 1)).getD 0 255 ∧ (R.drop (k + 1)).getD 0 255 < 8 := by
  rw [List.getD_eq_getElem?_getD, List.getElem?_drop, Nat.add_zero, List.getElem?_eq_getElem hk]
  exact hR _ (List.getElem_mem _)
end Go.Proofs.Ytpapkonejkdkhaa
