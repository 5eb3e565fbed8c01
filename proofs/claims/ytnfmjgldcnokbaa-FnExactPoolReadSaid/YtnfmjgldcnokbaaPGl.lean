/-
  PFgt5: texts joined.
-/
import Derived.Test.YtnfmjgldcnokbaaPX0
namespace Go.Proofs.Ytnfmjgldcnokbaa
set_option maxRecDepth 100000
set_option linter.unusedVariables false
set_option linter.unusedSimpArgs false
open Go.ChangeShapes Go.WideShapes Go.ChangeAt Go.RowKit
open Fld
theorem plzO {w : World} : tPool.O w [.slice none 0 0, .slice none 0 0] plZ [] := by
  obtain ⟨F, h, rfl⟩ := makeOPool (w := w) (p := plZ) (v0 := .slice none 0 0) (v1 := .slice none 0 0) (F0 := []) (F1 := []) (.inl ⟨none, 0, rfl, by omega, rfl, rfl⟩) nilO
  exact h
/-- A result's two cells, stored into its block. -/
theorem put2_O {w : World} {g : Nat} {v0 v1 : Value} {p : DPool} {F : List Nat} (h : tPool.O w [v0, v1] p F) (hg : g ∉ F) : tPool.O ((w.setCell ⟨g, 0, none⟩ v0).setCell ⟨g, 1, none⟩ v1) [v0, v1] p F :=
  Ty.far3 (t := tPool) (Ty.far3 (t := tPool) h (p := ⟨g, 0, none⟩) hg v0) (p := ⟨g, 1, none⟩) hg v1
end Go.Proofs.Ytnfmjgldcnokbaa
