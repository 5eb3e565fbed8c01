/-
  PNode3: texts joined.
-/
import Derived.Test.YtojbicecopkfbaaGreatFGk
import Derived.Test.YtojbicecopkfbaaGreatFMPDeskT
import Derived.Test.YtojbicecopkfbaaGreatFMPNodeI
import Derived.Test.YtojbicecopkfbaaGreatFX0
namespace Go.Proofs.YtojbicecopkfbaaGreat
set_option maxRecDepth 100000
set_option linter.unusedVariables false
set_option linter.unusedSimpArgs false
open Go.ChangeShapes Go.WideShapes Go.ChangeAt Go.RowKit
open Fld
theorem nilRowO {α : Type} {t : Ty α} {w : World} : t.row.O w [.slice none 0 0] [] [] := .inl ⟨none, 0, rfl, by omega, rfl, rfl⟩

def NwOk (i s : Int) : Prop := (0 ≤ i ∧ i < 8) ∧ Sec s
noncomputable instance (i s : Int) : Decidable (NwOk i s) := Classical.propDecidable _
def nwN (i s : Int) : DNode := (i, s, ([], []), ([], []), [])
theorem nwO {w : World} {i s : Int} (hi : (Lit.int .i64 i).wf = true) (hs : (Lit.int .i64 s).wf = true) : tNode.O w [.int .i64 i, .int .i64 s, .slice none 0 0, .slice none 0 0, .slice none 0 0, .slice none 0 0, .slice none 0 0] (nwN i s) [] :=
  fmakeONode (G2 := []) (G4 := []) (G6 := []) (p := nwN i s) hi hs ⟨_, _, [], [], rfl, rfl, nilRowO, nilO⟩ ⟨_, _, [], [], rfl, rfl, nilRowO, nilO⟩ nilRowO
end Go.Proofs.YtojbicecopkfbaaGreat
