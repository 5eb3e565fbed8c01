/-
  Contracts of the model's layers of chapter 3: the small functions.
-/
import Derived.Test.YtcljjdmfnniobaaGreatSpecTwo
import Derived.Test.YtcljjdmfnniobaaGreatOnion
import Derived.Test.YtcljjdmfnniobaaGreatCell
namespace Go.Proofs.YtcljjdmfnniobaaGreat
set_option maxRecDepth 100000
open Go.ChangeShapes Go.WideShapes Go.ChangeAt Go.RowKit
open Fld
attribute [local go_sem ↓] Go.wp_at_zero Go.wp_at_succ

theorem empty_row (w : World) (t : TypeId) : (w.alloc (.cells #[] t)).ownsRow w.heap.size t 1 (.slice (some ⟨w.heap.size, 0, none⟩) 0 0) 0 [] :=
  ⟨rfl, .inr ⟨w.heap.size, 0, #[], rfl, Nat.le_refl _, heap_alloc_new w _, Nat.le_refl _, by simp only [maxLen]; omega, rfl, rfl⟩⟩
end Go.Proofs.YtcljjdmfnniobaaGreat
