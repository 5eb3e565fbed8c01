/-
  Contracts of the draws of chapter 2.
-/
import Derived.Test.YtjehcmmbbjidkaaDraw
import Derived.Test.YtjehcmmbbjidkaaSpecTwo
namespace Go.Proofs.Ytjehcmmbbjidkaa
open Go.ChangeShapes Go.WideShapes Go.ChangeAt Go.RowKit

/-- A drawn key: it may be none. -/
def KeyD (x : Int) : Prop := -1 ≤ x ∧ x ≤ 2147483647
theorem below_gb2 {a w w' : World} {g : Nat} (h : Below a.heap.size a w) (hg : a.heap.size ≤ g) (hG : w.grownBy w' (some g)) : Below a.heap.size a w' :=
  h.trans (gb_below hG h.size hg)
theorem seven_cells (w : World) (t : TypeId) (x0 x1 x2 x3 x4 x5 x6 : Int) : ∀ i, i < 7 → (w.alloc (.cells #[.int .i64 x0, .int .i64 x1, .int .i64 x2, .int .i64 x3, .int .i64 x4, .int .i64 x5, .int .i64 x6] t)).cell? ⟨w.heap.size, 0 + i, none⟩ = some (.int .i64 ([x0, x1, x2, x3, x4, x5, x6].getD i 0)) := by
  intro i hi
  rw [(Box.new w t _).cell]
  match i, hi with
  | 0, _ => rfl
  | 1, _ => rfl
  | 2, _ => rfl
  | 3, _ => rfl
  | 4, _ => rfl
  | 5, _ => rfl
  | 6, _ => rfl
theorem seven_mem {x y z : Int} (h : x ∈ [0, 1, 2147483646, 2147483647, -1, y, z]) (h1 : 0 ≤ y) (h2 : y < 1073741824) (h3 : 0 ≤ z) (h4 : z < 1073741824) : KeyD x := by
  simp only [List.mem_cons, List.not_mem_nil, or_false] at h
  unfold KeyD; omega
theorem k_Once (a : World) {w : World} {g n c : Nat} {A : Option Addr} {l : List Int} (m : Int) (h : Curs w g A n c l) (hG : a.grownBy w (some g)) (h1 : 1 ≤ m) (h2 : m ≤ 9223372036854775807) :
    Calls Try.prog 38 #[.pointer (some ⟨g, 0, none⟩), .int .i64 m] w fun e w' => ∃ b : Bool, e = .returned (.bool b) ∧ Curs w' g A n c l ∧ a.grownBy w' (some g) := by
  go_enter Try.func38, Try.ntmps38
  go_wp2_with (go_at_call 53; refine (k_Below a _ h hG h1 h2).mono ?_; rintro e w1 ⟨x, rfl, hx0, hx1, hC1, hG1⟩)
  go_ret
  exact ⟨_, rfl, hC1, hG1⟩
set_option maxHeartbeats 1000000 in
/-- Some drawn bytes: in new memory, above the cursor. -/
theorem k_some {w0 w : World} {g n c : Nat} {A : Option Addr} {l : List Int} (m : Int) (h : Curs w g A n c l) (hB : Below w0.heap.size w0 w) (hg : w0.heap.size ≤ g) (h0 : 0 ≤ m) (h1 : m ≤ 200) :
    Calls Try.prog 33 #[.pointer (some ⟨g, 0, none⟩), .int .i64 m] w fun e w' => ∃ v l', e = .returned v ∧ Own .u8 5 w' (g + 1) v l' ∧ (l'.length : Int) ≤ m ∧ Curs w' g A n c l ∧ Below w0.heap.size w0 w' := by
  obtain ⟨i0, hi0, hz0, hz1, hz2⟩ := info_parts info_by
  go_enter Try.func33, Try.ntmps33
  go_wp2_with (go_at_call 53; refine (k_Below w _ h (gb_self w g) (by omega) (by omega)).mono ?_; rintro e w1 ⟨x, rfl, hx0, hx1, hC1, hG1⟩; obtain ⟨p, rfl⟩ := Int.eq_ofNat_of_zero_le hx0)
  have hB1 := below_gb2 hB hg hG1
  go_loopw [5, 7] (fun v i wr => ∃ (k : Nat) (l' : List Int), k ≤ p ∧ i = .int .i64 k ∧ l'.length = k ∧ Own .u8 5 wr (g + 1) v l' ∧ Curs wr g A n c l ∧ Below w0.heap.size w0 wr) (fun _ i _ => p - (intOf i).toNat)
  case atStart => exact ⟨0, [], by omega, rfl, rfl, Own.nil _ _ _ _, hC1, hB1⟩
  case round =>
    obtain ⟨k, l', hk, rfl, hlen, hO, hC, hBr⟩ := hrel
    have HL := Lib.hid hlen
    clear hlen
    by_cases hlt : k < p
    · go_wp2_with (first
        | (go_at_call 37; refine (k_Byte hC).mono ?_; rintro e w2 ⟨y, rfl, hy0, hy1, hC2, hG2⟩; have hO2 := hO.kept hG2 (.inr (fun e => by have := (hO.block e).1; omega)))
        | (at_builtin; refine wpList_app _ rfl (.tmp 17) (.tmp 21) _ rfl (g + 1) 5 i0 _ 1 1 Try.underlying22 hi0 hz0 hz1 hz2 rfl (by omega) _ _ _ rfl (hO2.1.alloc _) _ 1 1 [.int .u8 y] rfl (Src.one _ _ _) (one_int _ _) (by simp only [maxLen]; rw [HL.out]; omega) (by rw [HL.out]; omega) (by simp; have := hC2.size; omega) ?_; intro v1 w3 hown hgr hat))
      have hs := hC2.size
      have hBg : Below (g + 1) (w2.alloc (.cells #[.int .u8 y] 5)) w3 := (Below.refl _ _).grown hgr (by simp; omega) (fun b hb => (hO2.block hb).1)
      go_roundw
      case rel => exact ⟨k + 1, l' ++ [y], by omega, by go_num, by rw [List.length_append, HL.out]; rfl, own_snoc hO2 hown rfl (by omega), (hC2.alloc _).below hBg (by omega), ((below_gb2 hBr hg hG2).alloc (below_gb2 hBr hg hG2).size _).trans (hBg.mono (by omega))⟩
      case measure => simp [intOf]; omega
    · obtain rfl : k = p := by omega
      go_wp2
      go_ret
      exact ⟨_, _, rfl, hO, by rw [HL.out]; omega, hC, hBr⟩
theorem sum400 (p : Nat) : Value.int .i64 (400 + (p : Int)) = .int .i64 ((400 + p : Nat) : Int) := by simp
theorem zeros_own {w : World} {g n base : Nat} {t : TypeId} (h : w.rowIs g t n (fun _ => .int .u8 0)) (hn : n ≤ 1000) (hb : base ≤ g) : Own .u8 t w base (.slice (some ⟨g, 0, none⟩) n n) (List.replicate n 0) :=
  Own.of_row (h.congr fun j hj => by rw [List.getD_eq_getElem?_getD, List.getElem?_replicate, if_pos hj]; rfl) (by simp) (by simp only [maxLen]; omega) hb (fun x hx => by rw [(List.mem_replicate.1 hx).2]; decide)
end Go.Proofs.Ytjehcmmbbjidkaa
