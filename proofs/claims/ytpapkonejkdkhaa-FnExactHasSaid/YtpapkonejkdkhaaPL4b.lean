/-
  The bytes of a piece: contract of the model's l4bytes.
-/
import Derived.Test.YtpapkonejkdkhaaPPiece
namespace Go.Proofs.Ytpapkonejkdkhaa
set_option maxRecDepth 100000
set_option linter.unusedVariables false
set_option linter.unusedSimpArgs false
open Go.ChangeShapes Go.WideShapes Go.ChangeAt Go.RowKit
theorem three_row (w : World) (t : TypeId) (u v x : Value) : (w.alloc (.cells #[u, v, x] t)).ownsRow w.heap.size t 1 (.slice (some ⟨w.heap.size, 0, none⟩) 3 3) 3 [u, v, x] :=
  ⟨rfl, .inr ⟨w.heap.size, 3, #[u, v, x], rfl, Nat.le_refl _, heap_alloc_new w _, Nat.le_refl _, by simp only [maxLen]; omega, rfl, rfl⟩⟩
set_option maxHeartbeats 400000 in
theorem s_l4bytes {w : World} {A3 : Option Addr} {n3 c3 : Nat} {x0 x1 x2 : Int} {l3 : List Int} (h0 : 0 ≤ x0 ∧ x0 ≤ 255) (h1 : 0 ≤ x1 ∧ x1 ≤ 255) (h2 : 0 ≤ x2 ∧ x2 ≤ 255) (hn : n3 ≤ 1048576) (hl : Ints .u8 w w.heap.size A3 n3 l3) :
    Calls Try.prog 73 #[.agg #[.int .i64 x0, .int .i64 x1, .int .i64 x2, .slice A3 n3 c3]] w fun e w' => ∃ v, e = .returned v ∧ Own .u8 5 w' w.heap.size v (x0 :: x1 :: x2 :: l3) ∧ Below w.heap.size w w' := by
  obtain ⟨i0, hi0, hz0, hz1, hz2⟩ := info_parts info_cb
  have HL := Lib.hid hl.1
  go_enter Try.func73, Try.ntmps73
  have hrow : ((w.alloc (.cells #[.int .i64 x0, .int .i64 x1, .int .i64 x2, .slice A3 n3 c3] 63)).alloc (.cells #[.int .u8 x0, .int .u8 x1, .int .u8 x2] 5)).ownsRow (w.heap.size + 1) 5 1 (.slice (some ⟨w.heap.size + 1, 0, none⟩) 3 3) 3 [.int .u8 x0, .int .u8 x1, .int .u8 x2] := by
    simpa using three_row (w.alloc (.cells #[.int .i64 x0, .int .i64 x1, .int .i64 x2, .slice A3 n3 c3] 63)) 5 (.int .u8 x0) (.int .u8 x1) (.int .u8 x2)
  have hsrc : Src ((w.alloc (.cells #[.int .i64 x0, .int .i64 x1, .int .i64 x2, .slice A3 n3 c3] 63)).alloc (.cells #[.int .u8 x0, .int .u8 x1, .int .u8 x2] 5)) 1 A3 n3 (l3.map (Value.int .u8)) := Src.of_ints (reach hl (by repeat (first | (with_reducible exact Below.refl _ _) | (with_reducible assumption) | (with_reducible refine bel_alloc ?_ _) | (with_reducible refine bel_drew ?_) | (with_reducible refine below_drewN ?_ _) | (with_reducible refine bel_put ?_ (by first | exact Nat.le_refl _ | (simp; done) | (simp; omega)) _))))
  go_wp2_with (at_builtin; refine wpList_app _ rfl (.tmp 12) (.tmp 14) _ rfl (w.heap.size + 1) 5 i0 _ 1 1 Try.underlying22 hi0 hz0 hz1 hz2 rfl (by omega) _ _ _ rfl hrow _ n3 c3 (l3.map (Value.int .u8)) rfl hsrc (one_ints _ _) (by simp only [maxLen]; omega) (by omega) (by simp; done) ?_; intro v1 w1 hown hgr hat)
  go_ret
  refine ⟨v1, rfl, Own.lower (base := w.heap.size + 1) (Own.of (n := 3 + n3) (by simpa using hown) ?_) (by omega), Below.grown (by repeat (first | (with_reducible exact Below.refl _ _) | (with_reducible assumption) | (with_reducible refine bel_alloc ?_ _) | (with_reducible refine bel_drew ?_) | (with_reducible refine below_drewN ?_ _) | (with_reducible refine bel_put ?_ (by first | exact Nat.le_refl _ | (simp; done) | (simp; omega)) _))) hgr (by simp; omega) fun b hb => ?_⟩
  · intro y hy
    simp only [List.mem_cons] at hy
    rcases hy with rfl | rfl | rfl | hy
    · exact WalkArith.wf_u8 h0
    · exact WalkArith.wf_u8 h1
    · exact WalkArith.wf_u8 h2
    · exact hl.2.2 y hy
  · have e := Option.some.inj (show some (w.heap.size + 1) = some b from hb)
    omega
end Go.Proofs.Ytpapkonejkdkhaa
