/-
  Contracts of the draws for the orders of chapter 2.
-/
import Derived.Test.YtfjolhpimcmmlaaDrawTwo
import Derived.Test.YtfjolhpimcmmlaaSpecOrd
namespace Go.Proofs.Ytfjolhpimcmmlaa
open Go.ChangeShapes Go.WideShapes Go.ChangeAt Go.RowKit

theorem eight_cells (w : World) (t : TypeId) (x0 x1 x2 x3 x4 x5 x6 x7 : Int) : ∀ i, i < 8 → (w.alloc (.cells #[.int .i64 x0, .int .i64 x1, .int .i64 x2, .int .i64 x3, .int .i64 x4, .int .i64 x5, .int .i64 x6, .int .i64 x7] t)).cell? ⟨w.heap.size, 0 + i, none⟩ = some (.int .i64 ([x0, x1, x2, x3, x4, x5, x6, x7].getD i 0)) := by
  intro i hi
  rw [(Box.new w t _).cell]
  match i, hi with
  | 0, _ => rfl
  | 1, _ => rfl
  | 2, _ => rfl
  | 3, _ => rfl
  | 4, _ => rfl
  | 5, _ => rfl
  | 6, _ => rfl
  | 7, _ => rfl
/-- What lies above the cursor lies as it lay when the cursor has moved on. -/
theorem Own.past {k : IntKind} {e : TypeId} {w w' : World} {g : Nat} {v : Value} {l : List Int} (h : Own k e w (g + 1) v l) (hG : w.grownBy w' (some g)) : Own k e w' (g + 1) v l :=
  h.kept hG (.inr (fun e => by have := (h.block e).1; omega))
set_option maxHeartbeats 1000000 in
theorem d_Below {w : World} {n c : Nat} {A : Option Addr} {l : List Int} (hl : Ints .u8 w w.heap.size A n l) (hn : n ≤ 140737488355328) :
    Calls Try.prog 28 #[.slice A n c] w fun e w' => ∃ v l' y, e = .returned (.tuple #[v, .int .i64 y]) ∧ y ∈ ([1, 2, 3, 10, 100, 256, 257, 0] : List Int) ∧ Own .u8 5 w' w.heap.size v l' ∧ l'.length ≤ 6 ∧ Below w.heap.size w w' := by
  obtain ⟨i0, hi0, hz0, hz1, hz2⟩ := info_parts info_by
  go_enter Try.func28, Try.ntmps28
  go_wp2_with fail
  refine (k_New hl hn).mono ?_
  rintro e w1 ⟨g, rfl, hg, hC1, hB1⟩
  go_wp2_with fail
  refine (k_some 4 hC1 hB1 hg (by omega) (by omega)).mono ?_
  rintro e w3 ⟨v, l', rfl, hO, hlen, hC3, hB3⟩
  go_wp2_with fail
  refine (k_Once w3 3 hC3 (gb_self w3 g) (by omega) (by omega)).mono ?_
  rintro e w4 ⟨b, rfl, hC4, hG4⟩
  have hB4 := below_gb2 hB3 hg hG4
  have hO4 := hO.past hG4
  have hs4 := hC4.size
  cases b with
  | true =>
    obtain ⟨A4, c4, rfl, _, hI4, _⟩ := hO4.ints
    go_wp2_with (first
      | (at_builtin; refine wpList_app _ rfl (.tmp 12) (.tmp 13) _ rfl (g + 1) 5 i0 _ 1 1 Try.underlying22 hi0 hz0 hz1 hz2 rfl (by omega) _ 2 _ rfl ((Own.of (n := 2) (l := [255, 254]) (two_row w4 5 (.int .u8 255) (.int .u8 254)) (by intro z hz; simp only [List.mem_cons, List.not_mem_nil, or_false] at hz; rcases hz with rfl | rfl <;> decide)).lower (by omega)).1 A4 l'.length c4 _ rfl (Src.of_ints (hI4.alloc (Nat.le_refl _) _)) (one_ints _ _) (by simp only [maxLen]; omega) (by omega) (by simp; omega) ?_; intro v5 w5 hown hgr hat)
      | fail)
    have hgr' : (w4.alloc (.cells #[.int .u8 255, .int .u8 254] 5)).grownBy w5 (some w4.heap.size) := hgr
    have hg45 : w4.grownBy w5 (some w4.heap.size) := gb_trans (gb_alloc (World.grownBy.refl w4 _) _) hgr'
    have hB45 : Below w4.heap.size w4 w5 := gb_below hg45 (Nat.le_refl _) (Nat.le_refl _)
    have hO5 : Own .u8 5 w5 (g + 1) v5 ([255, 254] ++ l') := own_app (l := [255, 254]) (by have := hown; exact this) (by intro z hz; simp only [List.mem_cons, List.not_mem_nil, or_false] at hz; omega) hI4.bytes
    have hC5 := hC4.below hB45 hs4
    have hB5 := hB4.trans (hB45.mono hB4.size)
    have hs5 := hC5.size
    refine (k_Pick (w5.alloc (.cells #[.int .i64 1, .int .i64 2, .int .i64 3, .int .i64 10, .int .i64 100, .int .i64 256, .int .i64 257, .int .i64 0] 3)) (hC5.alloc _) (gb_self _ g) ⟨_, 0, rfl, Nat.ne_of_gt hs5, by simp, eight_cells w5 3 1 2 3 10 100 256 257 0⟩ (by omega) (by omega) rfl).mono ?_
    rintro e w6 ⟨y, rfl, hy, hC6, hG6⟩
    have hB6 := below_gb2 (hB5.alloc hB5.size _) hg hG6
    have hO6 := (hO5.alloc _).past hG6
    go_wp2_with fail
    go_ret2
    exact ⟨_, _, _, rfl, hy, hO6.lower (by omega), by simp; omega, hB6⟩
  | false =>
    go_wp2_with fail
    refine (k_Pick (w4.alloc (.cells #[.int .i64 1, .int .i64 2, .int .i64 3, .int .i64 10, .int .i64 100, .int .i64 256, .int .i64 257, .int .i64 0] 3)) (hC4.alloc _) (gb_self _ g) ⟨_, 0, rfl, Nat.ne_of_gt hs4, by simp, eight_cells w4 3 1 2 3 10 100 256 257 0⟩ (by omega) (by omega) rfl).mono ?_
    rintro e w6 ⟨y, rfl, hy, hC6, hG6⟩
    have hB6 := below_gb2 (hB4.alloc hB4.size _) hg hG6
    have hO6 := (hO4.alloc _).past hG6
    go_wp2_with fail
    go_ret2
    exact ⟨_, _, _, rfl, hy, hO6.lower (by omega), by omega, hB6⟩
set_option maxHeartbeats 1000000 in
theorem d_Shuffle {w : World} {n c : Nat} {A : Option Addr} {l : List Int} (hl : Ints .u8 w w.heap.size A n l) (hn : n ≤ 140737488355328) :
    Calls Try.prog 30 #[.slice A n c] w fun e w' => ∃ v l' y, e = .returned (.tuple #[v, .int .i64 y]) ∧ y ∈ ([0, 1, 2, 3, 5, 8, 65, -1] : List Int) ∧ Own .u8 5 w' w.heap.size v l' ∧ l'.length ≤ 14 ∧ Below w.heap.size w w' := by
  go_enter Try.func30, Try.ntmps30
  go_wp2_with fail
  refine (k_New hl hn).mono ?_
  rintro e w1 ⟨g, rfl, hg, hC1, hB1⟩
  go_wp2_with fail
  refine (k_some 14 hC1 hB1 hg (by omega) (by omega)).mono ?_
  rintro e w4 ⟨v, l', rfl, hO4, hlen, hC4, hB4⟩
  have hs4 := hC4.size
  go_wp2_with fail
  refine (k_Pick (w4.alloc (.cells #[.int .i64 0, .int .i64 1, .int .i64 2, .int .i64 3, .int .i64 5, .int .i64 8, .int .i64 65, .int .i64 (-1)] 3)) (hC4.alloc _) (gb_self _ g) ⟨_, 0, rfl, Nat.ne_of_gt hs4, by simp, eight_cells w4 3 0 1 2 3 5 8 65 (-1)⟩ (by omega) (by omega) rfl).mono ?_
  rintro e w6 ⟨y, rfl, hy, hC6, hG6⟩
  have hB6 := below_gb2 (hB4.alloc hB4.size _) hg hG6
  have hO6 := (hO4.alloc _).past hG6
  go_wp2_with fail
  go_ret2
  exact ⟨_, _, _, rfl, hy, hO6.lower (by omega), by omega, hB6⟩
end Go.Proofs.Ytfjolhpimcmmlaa
