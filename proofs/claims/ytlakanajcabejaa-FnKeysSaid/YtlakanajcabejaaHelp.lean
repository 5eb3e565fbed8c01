/-
  Contracts of the small functions that the laws share.
-/
import Derived.Test.YtlakanajcabejaaApp
import Derived.Test.YtlakanajcabejaaDrawOne
namespace Go.Proofs.Ytlakanajcabejaa
open Go.ChangeShapes Go.WideShapes Go.ChangeAt Go.RowKit

theorem info_u8 : (Try.prog.info? 5).map (fun i => (i.zero, i.size, i.bytes)) = some (some (.int .u8 0), 1, 1) := by kernel_rfl
theorem l_more {w : World} {n c : Nat} {A : Option Addr} {l : List Int} (k : Int) (hl : Ints .u8 w w.heap.size A n l) (hn : n ≤ 140737488351232) (h0 : 0 ≤ k) (h1 : k ≤ 30) :
    Calls Try.prog 27 #[.slice A n c, .int .i64 k] w fun e w' => ∃ A' c' l', e = .returned (.slice A' (n + 2) c') ∧ Ints .u8 w' w'.heap.size A' (n + 2) l' ∧ Below w.heap.size w w' := by
  obtain ⟨i0, hi0, hz0, hz1, hz2⟩ := info_parts info_u8
  go_enter Try.func27, Try.ntmps27
  go_wp2_with (at_builtin; refine wpList_app _ rfl (.tmp 10) (.tmp 11) _ rfl w.heap.size 5 i0 _ 1 1 Try.underlying22 hi0 hz0 hz1 hz2 rfl (by omega) _ 2 _ rfl (two_row _ _ _ _) A n c _ rfl (Src.of_ints (hl.alloc (Nat.le_refl _) _)) (one_ints _ _) (by simp only [maxLen]; omega) (by omega) (by simp) ?_; intro v1 w1 hown hg hat)
  go_ret
  have hO : Own .u8 5 w1 w.heap.size v1 ([k, k * 7] ++ l) := Own.of (n := 2 + n) (by simpa using hown) (by
    intro x hx
    rcases List.mem_append.1 hx with h | h
    · simp at h; rcases h with rfl | rfl <;> exact WalkArith.wf_u8 (by omega)
    · exact hl.2.2 x h)
  obtain ⟨A', c', e1, _, hI, _⟩ := hO.ints
  have hlen : ([k, k * 7] ++ l).length = n + 2 := by simp [hl.1]
  rw [hlen] at e1 hI
  refine ⟨A', c', _, by rw [← e1]; rfl, hI, ?_⟩
  exact ((Below.refl _ _).alloc (Nat.le_refl _) _).trans (gb_below hg (by simp) (Nat.le_refl _))
end Go.Proofs.Ytlakanajcabejaa
