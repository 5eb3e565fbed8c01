/-
  What the laws' functions count and write, of a row of things: sums, marks, the first i marked.
-/
import Derived.Test.YtcljjdmfnniobaaGreatRd
namespace Go.Proofs.YtcljjdmfnniobaaGreat
set_option linter.unusedVariables false
section
variable {α : Type}
/-- The sum of c over l. -/
def rsum (c : α → Nat) : List α → Nat
  | [] => 0
  | a :: l => c a + rsum c l
/-- Each marked, from k on, each with what its elders count behind k. -/
def rmk (c : α → Nat) (m : Int → α → α) : Int → List α → List α
  | _, [] => []
  | k, a :: l => m k a :: rmk c m (k + c a) l
/-- The first i marked. -/
def rpart (c : α → Nat) (m : Int → α → α) (k : Int) (l : List α) (i : Nat) : List α := rmk c m k (l.take i) ++ l.drop i
/-- The size of a row: one an element, and what they count. -/
def rsz (s : α → Nat) (l : List α) : Nat := l.length + rsum s l
variable {c s : α → Nat} {m : Int → α → α} {k : Int} {l l' : List α} {i : Nat} {a : α}
theorem rsum_app : rsum c (l ++ l') = rsum c l + rsum c l' := by
  induction l with
  | nil => simp [rsum]
  | cons b l ih => simp only [List.cons_append, rsum, ih]; omega
theorem rsum_take_le (c : α → Nat) (l : List α) (i : Nat) : rsum c (l.take i) ≤ rsum c l := by
  have h := rsum_app (c := c) (l := l.take i) (l' := l.drop i)
  rw [List.take_append_drop] at h; omega
theorem take_sn (h : l[i]? = some a) : l.take (i + 1) = l.take i ++ [a] := by
  rw [List.take_add_one, h]; rfl
theorem rsum_sn (h : l[i]? = some a) : rsum c (l.take (i + 1)) = rsum c (l.take i) + c a := by
  rw [take_sn h, rsum_app]; simp [rsum]
theorem rsum_at (h : l[i]? = some a) : rsum c (l.take i) + c a ≤ rsum c l := by
  rw [← rsum_sn h]; exact rsum_take_le _ _ _
theorem rsum_zero : rsum c (l.take 0) = 0 := by simp [rsum]
theorem rsum_all (h : l.length ≤ i) : rsum c (l.take i) = rsum c l := by rw [List.take_of_length_le h]
theorem rmk_len (k : Int) (l : List α) : (rmk c m k l).length = l.length := by
  induction l generalizing k with
  | nil => rfl
  | cons b l ih => simp [rmk, ih]
theorem rmk_app : rmk c m k (l ++ l') = rmk c m k l ++ rmk c m (k + rsum c l) l' := by
  induction l generalizing k with
  | nil => simp [rmk, rsum]
  | cons b l ih =>
    simp only [List.cons_append, rmk, rsum, ih]
    rw [show k + ((c b + rsum c l : Nat) : Int) = k + (c b : Int) + (rsum c l : Int) by omega]
theorem rmk_at (h : l[i]? = some a) : (rmk c m k l)[i]? = some (m (k + rsum c (l.take i)) a) := by
  induction l generalizing k i with
  | nil => simp at h
  | cons b l ih =>
    cases i with
    | zero => simp only [List.getElem?_cons_zero, Option.some.injEq] at h; subst h; simp [rmk, rsum]
    | succ i =>
      simp only [List.getElem?_cons_succ] at h
      simp only [rmk, List.getElem?_cons_succ, List.take_succ_cons, rsum, ih h]
      rw [show k + ((c b + rsum c (l.take i) : Nat) : Int) = k + (c b : Int) + (rsum c (l.take i) : Int) by omega]
theorem rpart_zero : rpart c m k l 0 = l := by simp [rpart, rmk]
theorem rpart_all (h : l.length ≤ i) : rpart c m k l i = rmk c m k l := by
  unfold rpart; rw [List.take_of_length_le h, List.drop_eq_nil_of_le h, List.append_nil]
theorem rpart_len : (rpart c m k l i).length = l.length := by
  unfold rpart; rw [List.length_append, rmk_len, List.length_take, List.length_drop]; omega
theorem rpart_at (h : l[i]? = some a) : (rpart c m k l i)[i]? = some a := by
  have hi := (List.getElem?_eq_some_iff.1 h).1
  unfold rpart
  rw [List.getElem?_append_right (by rw [rmk_len, List.length_take]; omega), rmk_len, List.length_take, Nat.min_eq_left (by omega), Nat.sub_self, List.getElem?_drop, Nat.add_zero, h]
theorem rpart_set (h : l[i]? = some a) : (rpart c m k l i).set i (m (k + rsum c (l.take i)) a) = rpart c m k l (i + 1) := by
  have hi := (List.getElem?_eq_some_iff.1 h).1
  have hl : (rmk c m k (l.take i)).length = i := by rw [rmk_len, List.length_take]; omega
  unfold rpart
  rw [List.set_append_right _ _ (by omega), hl, Nat.sub_self, take_sn h, rmk_app, List.append_assoc]
  congr 1
  have e : l.drop i = a :: l.drop (i + 1) := by
    rw [List.drop_eq_getElem_cons hi]
    have := List.getElem?_eq_getElem hi
    rw [h] at this
    rw [← Option.some.inj this]
  rw [e]
  simp [rmk]
theorem rsz_le (l : List α) : l.length ≤ rsz s l := by unfold rsz; omega
theorem rsz_nil : rsz s [] = 0 := rfl
/-- What is counted is at most M times the size. -/
theorem rsum_M {M : Nat} (h : ∀ a, c a ≤ M + M * s a) (l : List α) : rsum c l ≤ M * rsz s l := by
  induction l with
  | nil => simp [rsum]
  | cons b l ih =>
    have := h b
    simp only [rsum, rsz, List.length_cons] at ih ⊢
    rw [Nat.mul_add] at ih
    rw [Nat.mul_add, Nat.mul_add, Nat.mul_add]
    omega
/-- The size of the first i elements, the rest's count of one each not yet. -/
theorem rsz_step (h : l[i]? = some a) : l.length + rsum s (l.take i) + s a ≤ rsz s l := by
  have := rsum_at (c := s) h; unfold rsz; omega
end
end Go.Proofs.YtcljjdmfnniobaaGreat
