/-
  Contracts of the draws for the orders of chapter 2.
-/
import Derived.Test.YtjehcmmbbjidkaaDrawTwo
import Derived.Test.YtjehcmmbbjidkaaSpecOrd
namespace Go.Proofs.Ytjehcmmbbjidkaa
open Go.ChangeShapes Go.WideShapes Go.ChangeAt Go.RowKit

theorem eight_cells (w : World) (t : TypeId) (x0 x1 x2 x3 x4 x5 x6 x7 : Int) : ∀ i, i < 8 → (w.alloc (.cells #[.int .i64 x0, .int .i64 x1, .int .i64 x2, .int .i64 x3, .int .i64 x4, .int .i64 x5, .int .i64 x6, .int .i64 x7] t)).cell? ⟨w.heap.size, 0 + i, none⟩ = some (.int .i64 ([x0, x1, x2, x3, x4, x5, x6, x7].getD i 0)) := by
  intro i hi
  rw [(Box.new w t _).cell]
  match i, hi with
  | 0, _ => rfl
  | 1, _ => rfl
  | 2, _ => rfl
  | 3, _ => rfl
  | 4, _ => rfl
  | 5, _ => rfl
  | 6, _ => rfl
  | 7, _ => rfl
/-- What lies above the cursor lies as it lay when the cursor has moved on. -/
theorem Own.past {k : IntKind} {e : TypeId} {w w' : World} {g : Nat} {v : Value} {l : List Int} (h : Own k e w (g + 1) v l) (hG : w.grownBy w' (some g)) : Own k e w' (g + 1) v l :=
  h.kept hG (.inr (fun e => by have := (h.block e).1; omega))
set_option maxHeartbeats 1000000 in
theorem d_Shuffle {w : World} {n c : Nat} {A : Option Addr} {l : List Int} (hl : Ints .u8 w w.heap.size A n l) (hn : n ≤ 140737488355328) :
    Calls Try.prog 8 #[.slice A n c] w fun e w' => ∃ v l' y, e = .returned (.tuple #[v, .int .i64 y]) ∧ y ∈ ([0, 1, 2, 3, 5, 8, 65, -1] : List Int) ∧ Own .u8 5 w' w.heap.size v l' ∧ l'.length ≤ 14 ∧ Below w.heap.size w w' := by
  go_enter Try.func8, Try.ntmps8
  go_wp2_with fail
  refine (k_New hl hn).mono ?_
  rintro e w1 ⟨g, rfl, hg, hC1, hB1⟩
  go_wp2_with fail
  refine (k_some 14 hC1 hB1 hg (by omega) (by omega)).mono ?_
  rintro e w4 ⟨v, l', rfl, hO4, hlen, hC4, hB4⟩
  have hs4 := hC4.size
  go_wp2_with fail
  refine (k_Pick (w4.alloc (.cells #[.int .i64 0, .int .i64 1, .int .i64 2, .int .i64 3, .int .i64 5, .int .i64 8, .int .i64 65, .int .i64 (-1)] 3)) (hC4.alloc _) (gb_self _ g) ⟨_, 0, rfl, Nat.ne_of_gt hs4, by simp, eight_cells w4 3 0 1 2 3 5 8 65 (-1)⟩ (by omega) (by omega) rfl).mono ?_
  rintro e w6 ⟨y, rfl, hy, hC6, hG6⟩
  have hB6 := below_gb2 (hB4.alloc hB4.size _) hg hG6
  have hO6 := (hO4.alloc _).past hG6
  go_wp2_with fail
  go_ret2
  exact ⟨_, _, _, rfl, hy, hO6.lower (by omega), by omega, hB6⟩
end Go.Proofs.Ytjehcmmbbjidkaa
