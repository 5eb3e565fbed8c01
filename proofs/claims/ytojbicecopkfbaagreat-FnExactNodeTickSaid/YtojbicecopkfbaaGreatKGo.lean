/-
  LgO: texts joined.
-/
import Derived.Test.YtojbicecopkfbaaGreatKGn
import Derived.Test.YtojbicecopkfbaaGreatKX0
namespace Go.Proofs.YtojbicecopkfbaaGreat
set_option linter.unusedVariables false
open Go.RowKit
theorem dkzO {w : World} : tDesk.O w [.slice none 0 0, .slice none 0 0] dkZ [] := by
  obtain ⟨F, h, rfl⟩ := makeODesk (w := w) (p := dkZ) (v0 := .slice none 0 0) (v1 := .slice none 0 0) (F0 := []) (F1 := []) (.inl ⟨none, 0, rfl, by omega, rfl, rfl⟩) nilO
  exact h
theorem put2D_O {w : World} {g : Nat} {v0 v1 : Value} {p : DDesk} {F : List Nat} (h : tDesk.O w [v0, v1] p F) (hg : g ∉ F) : tDesk.O ((w.setCell ⟨g, 0, none⟩ v0).setCell ⟨g, 1, none⟩ v1) [v0, v1] p F :=
  Ty.far3 (t := tDesk) (Ty.far3 (t := tDesk) h (p := ⟨g, 0, none⟩) hg v0) (p := ⟨g, 1, none⟩) hg v1
end Go.Proofs.YtojbicecopkfbaaGreat
