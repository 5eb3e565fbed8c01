/-
  TwP: texts joined.
-/
import Derived.Test.YtkdanlnhdgcplaaGreatFMFgH
namespace Go.Proofs.YtkdanlnhdgcplaaGreat
set_option linter.unusedVariables false
open Fld
noncomputable def fTw (p : DNet) (i : Int) : DNet := if NtAt p i then (if Room p then fTr p (p.2.2.2.2.1.getD i.toNat (0, [])) else p) else zNet
noncomputable def fTwB (p : DNet) (i : Int) : Bool := decide (NtAt p i ∧ Room p)
theorem at_ml {p : DNet} {i : Int} (h : NtAt p i) : MlOk (p.2.2.2.2.1.getD i.toNat (0, [])) := by
 have hi : i.toNat < p.2.2.2.2.1.length := by have h1 := h.2.1; have h2 := h.2.2; omega
 rw [List.getD_eq_getElem?_getD, List.getElem?_eq_getElem hi]
 exact h.1.2.2.2.1 _ (List.getElem_mem hi)
theorem fTw_sz (p : DNet) (i : Int) : szNet (fTw p i) ≤ 1000000 := by
 unfold fTw
 split
 ·rename_i h
  split
  ·rename_i hr; exact ntOk_sz (fTr_ok h.1 (at_ml h) hr)
  ·exact ntOk_sz h.1
 ·show 0 + 0 + 0 + 0 ≤ _; omega
end Go.Proofs.YtkdanlnhdgcplaaGreat
