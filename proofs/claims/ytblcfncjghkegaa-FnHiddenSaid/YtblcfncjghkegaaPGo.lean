/-
  FlP: texts joined.
-/
import Derived.Test.YtblcfncjghkegaaPGb
import Derived.Test.YtblcfncjghkegaaPGl
namespace Go.Proofs.Ytblcfncjghkegaa
set_option linter.unusedVariables false
open Fld
def hdZ : DHeld := (0, 0, [])
def FlOk (p : DPool) (x : Int) : Prop := PlOk p ∧ (1 ≤ x ∧ x ≤ 12)
instance (p : DPool) (x : Int) : Decidable (FlOk p x) := by unfold FlOk; infer_instance
def pmut (l : List DHeld) (o : List Int) : List DHeld := o.map fun i => (l[i.toNat]?).getD hdZ
theorem pmut_len (l : List DHeld) (o : List Int) : (pmut l o).length = o.length := by simp [pmut]
theorem pmut_snoc {l : List DHeld} {o : List Int} {j : Nat} {a : DHeld} {m : Nat} (hj : j < o.length) (hm : o.getD j 0 = (m : Int)) (ha : l[m]? = some a) : pmut l (o.take (j + 1)) = pmut l (o.take j) ++ [a] := by
  unfold pmut
  rw [take_snocI hj, List.map_append, List.map_singleton, hm, Int.toNat_natCast, ha]
  rfl
def fFlP (p : DPool) (x : Int) (d : List Int) : DPool := if FlOk p x then (if (p.1.length : Int) < x ∨ shufU d p.1.length < 0 then p else ([], p.2)) else plZ
def fFlL (p : DPool) (x : Int) (d : List Int) : List DHeld := if FlOk p x ∧ ¬ ((p.1.length : Int) < x ∨ shufU d p.1.length < 0) then pmut p.1 (shufL d p.1.length) else []
def fFlN (p : DPool) (x : Int) (d : List Int) : Int := if FlOk p x then (if (p.1.length : Int) < x then 0 else shufU d p.1.length) else -2
theorem fl_bad {p : DPool} {x : Int} {d : List Int} (h : ¬ FlOk p x) : fFlP p x d = plZ ∧ fFlL p x d = [] ∧ fFlN p x d = -2 := by
  unfold fFlP fFlL fFlN; rw [if_neg h, if_neg fun y => h y.1, if_neg h]; exact ⟨rfl, rfl, rfl⟩
theorem fl_few {p : DPool} {x : Int} {d : List Int} (h : FlOk p x) (h2 : (p.1.length : Int) < x) : fFlP p x d = p ∧ fFlL p x d = [] ∧ fFlN p x d = 0 := by
  unfold fFlP fFlL fFlN; rw [if_pos h, if_pos h, if_pos h2, if_pos (.inl h2), if_neg fun y => y.2 (.inl h2)]; exact ⟨rfl, rfl, rfl⟩
theorem fl_fs {p : DPool} {d : List Int} (h : p.1.length ≤ 12) : fshuf d (p.1.length : Int) = shuf d (p.1.length - 1) (iota p.1.length) 0 := by
  rw [fshuf_t ⟨by omega, by omega⟩, Int.toNat_natCast]
theorem fl_no {p : DPool} {x : Int} {d : List Int} (h : FlOk p x) (h2 : ¬ (p.1.length : Int) < x) (hs : shuf d (p.1.length - 1) (iota p.1.length) 0 = none) : fFlP p x d = p ∧ fFlL p x d = [] ∧ fFlN p x d = -1 := by
  have e := shufU_f ((fl_fs (d := d) h.1.1.1).trans hs)
  unfold fFlP fFlL fFlN; rw [if_pos h, if_pos h, if_neg h2, e, if_pos (.inr (by omega)), if_neg fun y => y.2 (.inr (by omega))]; exact ⟨rfl, rfl, rfl⟩
theorem fl_yes {p : DPool} {x : Int} {d L : List Int} {U : Nat} (h : FlOk p x) (h2 : ¬ (p.1.length : Int) < x) (hs : shuf d (p.1.length - 1) (iota p.1.length) 0 = some (L, U)) : fFlP p x d = ([], p.2) ∧ fFlL p x d = pmut p.1 L ∧ fFlN p x d = U := by
  have e := shufU_t ((fl_fs (d := d) h.1.1.1).trans hs)
  have e2 := shufL_t ((fl_fs (d := d) h.1.1.1).trans hs)
  have hn : ¬ ((p.1.length : Int) < x ∨ ((U : Nat) : Int) < 0) := by rintro (y | y); exact h2 y; omega
  unfold fFlP fFlL fFlN; rw [if_pos h, if_pos h, if_neg h2, e, e2, if_neg hn, if_pos ⟨h, hn⟩]; exact ⟨rfl, rfl, rfl⟩
/-- A drawn order's places. -/
theorem ord_place {d L : List Int} {n U : Nat} (hd : Bytes d) (hs : shuf d (n - 1) (iota n) 0 = some (L, U)) : L.length = n ∧ ∀ j, j < n → ∃ m : Nat, m < n ∧ L.getD j 0 = (m : Int) := by
  have hp := (shuf_all hd hs).1
  have hl : L.length = n := by rw [hp.length_eq, iota_len]
  refine ⟨hl, fun j hj => ?_⟩
  have hm : L.getD j 0 ∈ iota n := hp.mem_iff.1 (by rw [List.getD_eq_getElem?_getD, List.getElem?_eq_getElem (by omega)]; exact List.getElem_mem _)
  have := mem_iota.1 hm
  exact ⟨(L.getD j 0).toNat, by omega, by omega⟩
end Go.Proofs.Ytblcfncjghkegaa
