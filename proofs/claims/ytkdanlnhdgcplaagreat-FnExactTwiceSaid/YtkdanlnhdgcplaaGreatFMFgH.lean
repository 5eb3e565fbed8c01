/-
  FgH: texts joined.
-/
import Derived.Test.YtkdanlnhdgcplaaGreatFGb
import Derived.Test.YtkdanlnhdgcplaaGreatFGf
import Derived.Test.YtkdanlnhdgcplaaGreatFMFgS
import Derived.Test.YtkdanlnhdgcplaaGreatFMPNetS
import Derived.Test.YtkdanlnhdgcplaaGreatFMPNn
namespace Go.Proofs.YtkdanlnhdgcplaaGreat
set_option maxRecDepth 100000
set_option linter.unusedVariables false
set_option linter.unusedSimpArgs false
open Go.ChangeShapes Go.WideShapes Go.ChangeAt Go.RowKit
open Fld
theorem rsz_all {α : Type} {s : α → Nat} {l : List α} {m : Nat} (h : ∀ a ∈ l, s a ≤ m) : rsz s l ≤ (m + 1) * l.length := by
 induction l with
 | nil => simp [rsz, rsum]
 | cons a l ih =>
  have h1 := ih fun x hx => h x (List.mem_cons_of_mem _ hx)
  have h2 := h a List.mem_cons_self
  unfold rsz at h1 ⊢
  rw [rsum, List.length_cons, Nat.mul_succ]; omega
theorem ntOk_sz {p : DNet} (h : NtOk p) : szNet p ≤ 1000000 := by
 obtain ⟨-, ⟨l1, l2, l3⟩, ⟨l4, hn⟩, hm, hg, hs, -⟩ := h
 have h1 := rsz_all (s := szNode) (l := p.2.2.2.1) (m := 60000) (fun a ha => by
  obtain ⟨i, hi, rfl⟩ := List.getElem_of_mem ha
  obtain ⟨s1, s2, s3, s4⟩ := ndOk_sz (hn i _ (List.getElem?_eq_getElem hi)).1
  unfold szNode; omega)
 have h2 := rsz_all (s := szMail) (l := p.2.2.2.2.1) (m := 80) (fun a ha => by have := (hm a ha).2; show a.2.length ≤ 80; omega)
 have h3 := rsz_all (s := szSent) (l := p.2.2.2.2.2.1) (m := 160) (fun a ha => (hs a ha).2.2)
 have h4 := rsz_all (s := szGlance) (l := p.2.2.2.2.2.2) (m := 0) (fun a ha => Nat.le_refl _)
 unfold szNet
 omega
theorem fTr_ok {p : DNet} {m : DMail} (h : NtOk p) (hm : MlOk m) (hr : Room p) : NtOk (fTr p m) := by
 obtain ⟨h1, ⟨l1, l2, l3⟩, h4, h5, h6, h7⟩ := h
 refine ⟨h1, ⟨by show (p.2.2.2.2.1 ++ [m]).length ≤ 60; rw [List.length_append]; exact hr.1, l2, by show (p.2.2.2.2.2.2 ++ [(p.1, m.1)]).length ≤ 500; rw [List.length_append]; exact hr.2⟩, h4, fun a ha => ?_, fun a ha => ?_, h7⟩
 ·rcases List.mem_append.1 ha with h' | h'
  ·exact h5 a h'
  ·rw [List.mem_singleton.1 h']; exact hm
 ·rcases List.mem_append.1 ha with h' | h'
  ·exact h6 a h'
  ·rw [List.mem_singleton.1 h']; exact ⟨⟨h1.1.1, Int.le_refl _⟩, hm.1⟩
theorem fFg_sz (p : DNet) (m : DMail) : szNet (fFg p m) ≤ 1000000 := by
 unfold fFg
 split
 ·rename_i h
  split
  ·rename_i hr; exact ntOk_sz (fTr_ok h.1 h.2 hr)
  ·exact ntOk_sz h.1
 ·show 0 + 0 + 0 + 0 ≤ _; omega
end Go.Proofs.YtkdanlnhdgcplaaGreat
