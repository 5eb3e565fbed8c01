/-
  RdP: texts joined.
-/
import Derived.Test.YtnfmjgldcnokbaaPGb
import Derived.Test.YtnfmjgldcnokbaaPX0
namespace Go.Proofs.Ytnfmjgldcnokbaa
set_option linter.unusedVariables false
open Fld
def heldOf (d : List Int) : DHeld := (d.getD 0 0, d.getD 1 0 * 256 + d.getD 2 0, (d.drop 3).take 80)
def rdL (l : List Int) (k : Nat) : List DHeld := (List.range k).map fun j => heldOf (l.drop (2 + 83 * j))
def rdT (l : List Int) (n k : Nat) : List Int := (List.range k).map fun j => get4 (l.drop (2 + 83 * n + 4 * j))
def rdN (l : List Int) : Nat := (l.getD 0 0).toNat
def rdM (l : List Int) : Nat := (l.getD 1 0).toNat
def rdP (l : List Int) : DPool := (rdL l (rdN l), rdT l (rdN l) (rdM l))
def rdSz (l : List Int) : Nat := 2 + 83 * rdN l + 4 * rdM l
def RdOk (l : List Int) : Prop := (2 ≤ l.length ∧ l.length = rdSz l) ∧ PlOk (rdP l)
instance (l : List Int) : Decidable (RdOk l) := by unfold RdOk; infer_instance
def fRd (l : List Int) : DPool := if RdOk l then rdP l else plZ
theorem fRd_t {l : List Int} (h : RdOk l) : fRd l = rdP l := if_pos h
theorem fRd_f {l : List Int} (h : ¬ RdOk l) : fRd l = plZ := if_neg h
theorem rdL_len (l : List Int) (k : Nat) : (rdL l k).length = k := by simp [rdL]
theorem rdT_len (l : List Int) (n k : Nat) : (rdT l n k).length = k := by simp [rdT]
theorem rdL_snoc (l : List Int) (k : Nat) : rdL l (k + 1) = rdL l k ++ [heldOf (l.drop (2 + 83 * k))] := by simp [rdL, List.range_succ]
theorem rdT_snoc (l : List Int) (n k : Nat) : rdT l n (k + 1) = rdT l n k ++ [get4 (l.drop (2 + 83 * n + 4 * k))] := by simp [rdT, List.range_succ]
theorem rdL_sz (l : List Int) (k : Nat) : rsz szHeld (rdL l k) ≤ 81 * k := by
  induction k with
  | zero => simp [rdL, rsz, rsum]
  | succ k ih =>
    have h : szHeld (heldOf (l.drop (2 + 83 * k))) ≤ 80 := by
      show (((l.drop (2 + 83 * k)).drop 3).take 80).length ≤ 80
      rw [List.length_take]; omega
    rw [rdL_snoc]
    unfold rsz at ih ⊢
    rw [rsum_app, List.length_append]
    simp only [rsum, List.length_cons, List.length_nil]
    omega
theorem rdP_sz (l : List Int) : szPool (rdP l) ≤ 81 * rdN l + rdM l := by
  have h := rdL_sz l (rdN l)
  have h2 := rdT_len l (rdN l) (rdM l)
  show rsz szHeld (rdL l (rdN l)) + (rdT l (rdN l) (rdM l)).length ≤ _
  omega
theorem fRd_sz (l : List Int) : szPool (fRd l) ≤ l.length := by
  unfold fRd
  split
  · rename_i h
    have h1 := rdP_sz l
    have h2 := h.1.2
    unfold rdSz at h2
    omega
  · simp [szPool, plZ, rsz, rsum]
end Go.Proofs.Ytnfmjgldcnokbaa
