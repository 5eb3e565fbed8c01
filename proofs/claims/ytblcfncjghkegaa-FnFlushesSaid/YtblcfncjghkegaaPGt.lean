/-
  DrawWr: texts joined.
-/
import Derived.Test.YtblcfncjghkegaaPGl
import Derived.Test.YtblcfncjghkegaaPGs
namespace Go.Proofs.Ytblcfncjghkegaa
set_option maxRecDepth 100000
set_option linter.unusedVariables false
set_option linter.unusedSimpArgs false
open Go.ChangeShapes Go.WideShapes Go.ChangeAt Go.RowKit
open Fld
theorem three_cells (w : World) (t : TypeId) (x0 x1 x2 : Int) : ∀ i, i < 3 → (w.alloc (.cells #[.int .i64 x0, .int .i64 x1, .int .i64 x2] t)).cell? ⟨w.heap.size, 0 + i, none⟩ = some (.int .i64 ([x0, x1, x2].getD i 0)) := by
  intro i hi
  rw [(Box.new w t _).cell]
  match i, hi with
  | 0, _ => rfl
  | 1, _ => rfl
  | 2, _ => rfl
theorem own_R' {K : IntKind} {e : TypeId} {w : World} {base : Nat} {v : Value} {l : List Int} (h : Own K e w base v l) : (tSl K).R w w.heap.size [v] l := by
  obtain ⟨F, hF, -⟩ := h.tSl
  exact (tSl K).read hF
end Go.Proofs.Ytblcfncjghkegaa
