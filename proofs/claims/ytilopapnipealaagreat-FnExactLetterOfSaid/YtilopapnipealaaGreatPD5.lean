/-
  What becomes of a pool, in plain words: forgetting, expiring, admitting.
-/
import Derived.Test.YtilopapnipealaaGreatPPool
namespace Go.Proofs.YtilopapnipealaaGreat
set_option linter.unusedVariables false
open Fld
def plZ : DPool := ([], [])
/-! ### Forget -/
def fgt (k : Nat) (l : List Int) : List Int := l.drop (l.length - k)
def fForget (p : DPool) (k : Int) : DPool := if PlOk p ∧ 0 ≤ k then (p.1, fgt k.toNat p.2) else plZ
theorem fForget_t {p : DPool} {k : Int} (h : PlOk p) (hk : 0 ≤ k) : fForget p k = (p.1, fgt k.toNat p.2) := if_pos ⟨h, hk⟩
theorem fForget_f {p : DPool} {k : Int} (h : ¬ (PlOk p ∧ 0 ≤ k)) : fForget p k = plZ := if_neg h
theorem fgt_len (k : Nat) (l : List Int) : (fgt k l).length = min k l.length := by unfold fgt; rw [List.length_drop]; omega
theorem fgt_all {k : Nat} {l : List Int} (h : l.length ≤ k) : fgt k l = l := by unfold fgt; rw [Nat.sub_eq_zero_of_le h]; rfl
theorem fForget_sz (p : DPool) (k : Int) : szPool (fForget p k) ≤ szPool p := by
  unfold fForget
  split
  · simp only [szPool, fgt_len]; omega
  · simp [szPool, plZ, rsz, rsum]
/-! ### Expire -/
def exf (now : Int) (l : List DHeld) : List DHeld := l.filter fun h => decide (now < h.2.1)
theorem exf_t {x : Int} {l : List DHeld} {j : Nat} {a : DHeld} (h : l[j]? = some a) (ha : x < a.2.1) : exf x (l.take (j + 1)) = exf x (l.take j) ++ [a] := by
  unfold exf; rw [take_sn h, List.filter_append, List.filter_cons_of_pos (by simpa using ha)]; rfl
theorem exf_f {x : Int} {l : List DHeld} {j : Nat} {a : DHeld} (h : l[j]? = some a) (ha : ¬ x < a.2.1) : exf x (l.take (j + 1)) = exf x (l.take j) := by
  unfold exf; rw [take_sn h, List.filter_append, List.filter_cons_of_neg (by simpa using ha)]; simp
theorem exf_len (x : Int) (l : List DHeld) : (exf x l).length ≤ l.length := List.length_filter_le _ _
theorem exf_sz (x : Int) (l : List DHeld) : rsz szHeld (exf x l) ≤ rsz szHeld l := by
  induction l with
  | nil => exact Nat.le_refl _
  | cons a l ih =>
    unfold exf rsz at *
    by_cases ha : x < a.2.1
    · rw [List.filter_cons_of_pos (by simpa using ha)]; simp only [List.length_cons, rsum]; omega
    · rw [List.filter_cons_of_neg (by simpa using ha)]; simp only [List.length_cons, rsum]; omega
def fExp (p : DPool) (now : Int) : DPool := if PlOk p then (exf now p.1, p.2) else plZ
def fExpN (p : DPool) (now : Int) : Int := if PlOk p then (p.1.length : Int) - ((exf now p.1).length : Int) else -1
theorem fExp_t {p : DPool} {x : Int} (h : PlOk p) : fExp p x = (exf x p.1, p.2) := if_pos h
theorem fExp_f {p : DPool} {x : Int} (h : ¬ PlOk p) : fExp p x = plZ := if_neg h
theorem fExpN_t {p : DPool} {x : Int} (h : PlOk p) : fExpN p x = (p.1.length : Int) - ((exf x p.1).length : Int) := if_pos h
theorem fExpN_f {p : DPool} {x : Int} (h : ¬ PlOk p) : fExpN p x = -1 := if_neg h
theorem fExp_sz (p : DPool) (x : Int) : szPool (fExp p x) ≤ szPool p := by
  unfold fExp
  split
  · have := exf_sz x p.1; simp only [szPool]; omega
  · simp [szPool, plZ, rsz, rsum]
/-! ### Admit -/
/-- 0: the tag is new and there is room; -1: it was seen; -2: no room. -/
def recN (l : List Int) (tag : Int) : Int := if tag ∈ l then -1 else if l.length = 60 then -2 else 0
def AdOk (p : DPool) (h : DHeld) (tag : Int) : Prop := PlOk p ∧ HdOk h ∧ Ok tag
instance (p : DPool) (h : DHeld) (tag : Int) : Decidable (AdOk p h tag) := by unfold AdOk; infer_instance
def fAdmN (p : DPool) (h : DHeld) (tag : Int) : Int := if AdOk p h tag then (if p.1.length = 12 then -2 else recN p.2 tag) else -3
def fAdm (p : DPool) (h : DHeld) (tag : Int) : DPool := if AdOk p h tag then (if p.1.length = 12 ∨ ¬ recN p.2 tag = 0 then p else (p.1 ++ [h], p.2 ++ [tag])) else plZ
theorem recN_le (l : List Int) (tag : Int) : recN l tag = 0 ∨ recN l tag = -1 ∨ recN l tag = -2 := by unfold recN; split; omega; split <;> omega
theorem recN_seen {l : List Int} {tag : Int} (h : tag ∈ l) : recN l tag = -1 := if_pos h
theorem recN_full {l : List Int} {tag : Int} (h : ¬ tag ∈ l) (h2 : l.length = 60) : recN l tag = -2 := by unfold recN; rw [if_neg h, if_pos h2]
theorem recN_ok {l : List Int} {tag : Int} (h : ¬ tag ∈ l) (h2 : ¬ l.length = 60) : recN l tag = 0 := by unfold recN; rw [if_neg h, if_neg h2]
theorem fAdm_f {p : DPool} {h : DHeld} {tag : Int} (hn : ¬ AdOk p h tag) : fAdm p h tag = plZ := if_neg hn
theorem fAdmN_f {p : DPool} {h : DHeld} {tag : Int} (hn : ¬ AdOk p h tag) : fAdmN p h tag = -3 := if_neg hn
theorem fAdm_full {p : DPool} {h : DHeld} {tag : Int} (ho : AdOk p h tag) (h2 : p.1.length = 12) : fAdm p h tag = p := by unfold fAdm; rw [if_pos ho, if_pos (.inl h2)]
theorem fAdmN_full {p : DPool} {h : DHeld} {tag : Int} (ho : AdOk p h tag) (h2 : p.1.length = 12) : fAdmN p h tag = -2 := by unfold fAdmN; rw [if_pos ho, if_pos h2]
theorem fAdm_no {p : DPool} {h : DHeld} {tag : Int} (ho : AdOk p h tag) (h2 : ¬ recN p.2 tag = 0) : fAdm p h tag = p := by unfold fAdm; rw [if_pos ho, if_pos (.inr h2)]
theorem fAdmN_no {p : DPool} {h : DHeld} {tag : Int} (ho : AdOk p h tag) (h2 : ¬ p.1.length = 12) : fAdmN p h tag = recN p.2 tag := by unfold fAdmN; rw [if_pos ho, if_neg h2]
theorem fAdm_ok {p : DPool} {h : DHeld} {tag : Int} (ho : AdOk p h tag) (h1 : ¬ p.1.length = 12) (h2 : recN p.2 tag = 0) : fAdm p h tag = (p.1 ++ [h], p.2 ++ [tag]) := by
  unfold fAdm; rw [if_pos ho, if_neg (by rintro (x | x); exact h1 x; exact x h2)]
theorem rsz_app {α : Type} {s : α → Nat} (l l' : List α) : rsz s (l ++ l') = rsz s l + rsz s l' := by unfold rsz; rw [rsum_app, List.length_append]; omega
theorem fAdm_sz (p : DPool) (h : DHeld) (tag : Int) : szPool (fAdm p h tag) ≤ szPool p + szHeld h + 2 := by
  unfold fAdm
  split
  · split
    · omega
    · simp only [szPool, rsz_app, List.length_append]; simp [rsz, rsum]; omega
  · simp [szPool, plZ, rsz, rsum]
end Go.Proofs.YtilopapnipealaaGreat
