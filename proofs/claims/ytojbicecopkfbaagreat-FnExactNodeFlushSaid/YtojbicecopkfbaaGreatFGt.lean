/-
  TkP: texts joined.
-/
import Derived.Test.YtojbicecopkfbaaGreatFGm
import Derived.Test.YtojbicecopkfbaaGreatFGs
import Derived.Test.YtojbicecopkfbaaGreatFMLgP
import Derived.Test.YtojbicecopkfbaaGreatFX0
namespace Go.Proofs.YtojbicecopkfbaaGreat
set_option linter.unusedVariables false
open Go.ChangeShapes Go.WideShapes Go.ChangeAt Go.RowKit
def TkOk (p : DNode) (x : Int) : Prop := NdOk p ∧ (0 ≤ x ∧ x ≤ 60000)
noncomputable instance (p : DNode) (x : Int) : Decidable (TkOk p x) := Classical.propDecidable _
theorem Ty.far7 {α : Type} {t : Ty α} {w : World} {cs : List Value} {a : α} {F : List Nat} (h : t.O w cs a F) {g : Nat} (hg : g ∉ F) (u0 u1 u2 u3 u4 u5 u6 : Value) :
    t.O (((((((w.setCell ⟨g, 0, none⟩ u0).setCell ⟨g, 1, none⟩ u1).setCell ⟨g, 2, none⟩ u2).setCell ⟨g, 3, none⟩ u3).setCell ⟨g, 4, none⟩ u4).setCell ⟨g, 5, none⟩ u5).setCell ⟨g, 6, none⟩ u6) cs a F :=
  Ty.far3 (Ty.far3 (Ty.far3 (Ty.far3 (Ty.far3 (Ty.far3 (Ty.far3 h (p := ⟨g, 0, none⟩) hg u0) (p := ⟨g, 1, none⟩) hg u1) (p := ⟨g, 2, none⟩) hg u2) (p := ⟨g, 3, none⟩) hg u3) (p := ⟨g, 4, none⟩) hg u4) (p := ⟨g, 5, none⟩) hg u5) (p := ⟨g, 6, none⟩) hg u6
theorem bel_put7 {a w : World} (h : Below a.heap.size a w) {g : Nat} (hg : a.heap.size ≤ g) (u0 u1 u2 u3 u4 u5 u6 : Value) :
    Below a.heap.size a (((((((w.setCell ⟨g, 0, none⟩ u0).setCell ⟨g, 1, none⟩ u1).setCell ⟨g, 2, none⟩ u2).setCell ⟨g, 3, none⟩ u3).setCell ⟨g, 4, none⟩ u4).setCell ⟨g, 5, none⟩ u5).setCell ⟨g, 6, none⟩ u6) :=
  bel_put (bel_put (bel_put (bel_put (bel_put (bel_put (bel_put h hg _) hg _) hg _) hg _) hg _) hg _) hg _
theorem fmakeNodeR {w : World} {B : Nat} {p : DNode} {v2 v3 v4 v5 v6 : Value} (h0 : (Lit.int .i64 p.1).wf = true) (h1 : (Lit.int .i64 p.2.1).wf = true) (h2 : tPool.R w B [v2, v3] p.2.2.1) (h4 : tDesk.R w B [v4, v5] p.2.2.2.1) (h6 : tLetter.row.R w B [v6] p.2.2.2.2) : tNode.R w B [.int .i64 p.1, .int .i64 p.2.1, v2, v3, v4, v5, v6] p :=
  ⟨_, _, rfl, ⟨rfl, h0⟩, ⟨_, _, rfl, ⟨rfl, h1⟩, ⟨_, _, rfl, h2, ⟨_, _, rfl, h4, h6⟩⟩⟩⟩
end Go.Proofs.YtojbicecopkfbaaGreat
