/-
  PNn: texts joined.
-/
import Derived.Test.YtkdanlnhdgcplaaGreatFGb
import Derived.Test.YtkdanlnhdgcplaaGreatFGe
import Derived.Test.YtkdanlnhdgcplaaGreatFGf
import Derived.Test.YtkdanlnhdgcplaaGreatFGg
import Derived.Test.YtkdanlnhdgcplaaGreatFMCpM
import Derived.Test.YtkdanlnhdgcplaaGreatFX1
namespace Go.Proofs.YtkdanlnhdgcplaaGreat
set_option maxRecDepth 100000
set_option linter.unusedVariables false
set_option linter.unusedSimpArgs false
open Go.ChangeShapes Go.WideShapes Go.ChangeAt Go.RowKit
open Fld
theorem wf0 : (Lit.int .i64 0).wf = true := rfl
theorem zNetO {w : World} : tNet.O w [.int .i64 0, .int .i64 0, .int .i64 0, .slice none 0 0, .slice none 0 0, .slice none 0 0, .slice none 0 0] zNet [] := by
 obtain ⟨F, hF, e⟩ := makeONet (w := w) (p := zNet) (v3 := .slice none 0 0) (v4 := .slice none 0 0) (v5 := .slice none 0 0) (v6 := .slice none 0 0) (F3 := []) (F4 := []) (F5 := []) (F6 := []) wf0 wf0 wf0 nilRowO nilRowO nilRowO nilRowO
 rw [e] at hF
 exact hF
end Go.Proofs.YtkdanlnhdgcplaaGreat
