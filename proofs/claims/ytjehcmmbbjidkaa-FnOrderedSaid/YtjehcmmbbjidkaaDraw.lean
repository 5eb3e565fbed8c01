/-
  Contracts of the model's draws: the cursor, its bytes, its numbers.
-/
import Derived.Test.YtjehcmmbbjidkaaRows
import Derived.Test.YtjehcmmbbjidkaaMem
import Derived.WalkKit
import Derived.ProofKit
import Derived.OpenShut
import Derived.Lib.Hide
import Derived.Deep.QuietTactic
import Derived.BigQuiet
namespace Go.Proofs.Ytjehcmmbbjidkaa
open Go.ChangeShapes Go.WideShapes Go.ChangeAt Go.RowKit

theorem and255 (a : Int) : 0 ≤ bits .and .i64 a 255 ∧ bits .and .i64 a 255 ≤ 255 := by
  show 0 ≤ IntKind.i64.wrap ((BitVec.ofInt 64 a &&& BitVec.ofInt 64 255).toNat : Int) ∧ IntKind.i64.wrap ((BitVec.ofInt 64 a &&& BitVec.ofInt 64 255).toNat : Int) ≤ 255
  rw [BitVec.toNat_and]
  have h : (BitVec.ofInt 64 a).toNat &&& (BitVec.ofInt 64 255).toNat ≤ 255 := Nat.and_le_right
  rw [IntKind.wrap_i64]
  omega

/-- The cursor in block g, over n bytes at A. -/
def Cur (w : World) (g : Nat) (A : Option Addr) (n c : Nat) : Prop :=
  ∃ (i h : Int), 0 ≤ i ∧ i ≤ n ∧ Box w g 81 #[.slice A n c, .int .i64 i, .int .i64 h]

theorem cur2 {w : World} {g t : Nat} {x y z : Value} (h : Box w g t #[x, y, z]) (u : Value) : Box (w.setCell ⟨g, 2, none⟩ u) g t #[x, y, u] := h.put 2 u
theorem cur1 {w : World} {g t : Nat} {x z : Value} {y : Value} (h : Box w g t #[x, y, z]) (u : Value) : Box (w.setCell ⟨g, 1, none⟩ u) g t #[x, u, z] := h.put 1 u

set_option maxHeartbeats 1000000 in
theorem c_Byte (w : World) (g : Nat) (A : Option Addr) (n c : Nat) (l : List Int) (hc : Cur w g A n c) (hl : Ints .u8 w g A n l) (hn : n ≤ 140737488355328) :
    Calls Try.prog 37 #[.pointer (some ⟨g, 0, none⟩)] w fun e w' => ∃ x : Int, e = .returned (.int .i64 x) ∧ 0 ≤ x ∧ x ≤ 255 ∧ Cur w' g A n c ∧ w.grownBy w' (some g) := by
  obtain ⟨i0, h, hi0, hi, hb⟩ := hc
  obtain ⟨i, rfl⟩ := Int.eq_ofNat_of_zero_le hi0
  have c0 := hb.cell 0
  have c1 := hb.cell 1
  have c2 := hb.cell 2
  have f1 := hb.frozen 1
  have f2 := hb.frozen 2
  simp at c0 c1 c2
  by_cases hlt : i < n
  · obtain ⟨b, off, rfl, hab, hac, haw⟩ := hl.at_ hlt
    have hbg : ¬ b = g := by omega
    have hgb : ¬ g = b := by omega
    go_enter Try.func37, Try.ntmps37
    go_wp2
    go_quiet (fail)
    go_wp2
    go_quiet (fail)
    go_wp2
    go_quiet (fail)
    go_wp2
    go_ret
    generalize wrap64 (wrap64 (h * 6364136223846793005) + 1442695040888963407) = hh
    refine ⟨_, rfl, ?_⟩
    refine ⟨(and255 _).1, (and255 _).2, ?_, ?_⟩
    · refine ⟨_, _, ?_, ?_, cur1 ((cur2 hb _).drewN _) _⟩ <;> omega
    · exact gb_put (gb_drewN (gb_put (World.grownBy.refl w _) _ _) _) _ _
  · go_enter Try.func37, Try.ntmps37
    go_wp2
    go_quiet (fail)
    go_wp2
    go_quiet (fail)
    go_wp2
    go_ret
    exact ⟨_, rfl, (and255 _).1, (and255 _).2, ⟨_, _, hi0, hi, ((cur2 hb _).drewN _).drewN _⟩, gb_drewN (gb_drewN (gb_put (World.grownBy.refl w _) _ _) _) _⟩

/-- The cursor in block g and the bytes that it reads. -/
def Curs (w : World) (g : Nat) (A : Option Addr) (n c : Nat) (l : List Int) : Prop := Cur w g A n c ∧ Ints .u8 w g A n l ∧ n ≤ 140737488355328
theorem Curs.size {w : World} {g n c : Nat} {A : Option Addr} {l : List Int} (h : Curs w g A n c l) : g < w.heap.size := by
  obtain ⟨⟨_, _, _, _, hb⟩, _⟩ := h; exact hb.size
theorem Curs.below {w w' : World} {g n c : Nat} {A : Option Addr} {l : List Int} (h : Curs w g A n c l) {B : Nat} (hB : Below B w w') (hg : g < B) : Curs w' g A n c l := by
  obtain ⟨⟨i, x, h0, h1, hb⟩, hi, hs⟩ := h
  exact ⟨⟨i, x, h0, h1, hb.below hB hg⟩, hi.below (hB.mono (by omega)), hs⟩
theorem Curs.drewN {w : World} {g n c : Nat} {A : Option Addr} {l : List Int} (h : Curs w g A n c l) (m : Nat) : Curs (w.drewN m) g A n c l := h
theorem Curs.alloc {w : World} {g n c : Nat} {A : Option Addr} {l : List Int} (h : Curs w g A n c l) (o : Obj) : Curs (w.alloc o) g A n c l :=
  h.below ((Below.refl w.heap.size w).alloc (Nat.le_refl _) o) h.size

theorem k_Byte {w : World} {g n c : Nat} {A : Option Addr} {l : List Int} (h : Curs w g A n c l) :
    Calls Try.prog 37 #[.pointer (some ⟨g, 0, none⟩)] w fun e w' => ∃ x : Int, e = .returned (.int .i64 x) ∧ 0 ≤ x ∧ x ≤ 255 ∧ Curs w' g A n c l ∧ w.grownBy w' (some g) := by
  obtain ⟨hc, hl, hn⟩ := h
  have hs : g < w.heap.size := Curs.size ⟨hc, hl, hn⟩
  refine (c_Byte w g A n c l hc hl hn).mono ?_
  rintro e w' ⟨x, rfl, h0, h1, hc', hG⟩
  exact ⟨x, rfl, h0, h1, ⟨hc', hl.grown hG (by omega) (Nat.le_refl _), hn⟩, hG⟩

theorem gb_self (w : World) (g : Nat) : w.grownBy w (some g) := World.grownBy.refl w _
theorem k_Byte_from (a : World) {w : World} {g n c : Nat} {A : Option Addr} {l : List Int} (h : Curs w g A n c l) (hG : a.grownBy w (some g)) :
    Calls Try.prog 37 #[.pointer (some ⟨g, 0, none⟩)] w fun e w' => ∃ x : Int, e = .returned (.int .i64 x) ∧ 0 ≤ x ∧ x ≤ 255 ∧ Curs w' g A n c l ∧ a.grownBy w' (some g) := by
  refine (k_Byte h).mono ?_
  rintro e w' ⟨x, rfl, h0, h1, hc, hG'⟩
  exact ⟨x, rfl, h0, h1, hc, gb_trans hG hG'⟩

set_option maxHeartbeats 1000000 in
theorem k_Below (a : World) {w : World} {g n c : Nat} {A : Option Addr} {l : List Int} (m : Int) (h : Curs w g A n c l) (hG : a.grownBy w (some g)) (h1 : 1 ≤ m) (h2 : m ≤ 9223372036854775807) :
    Calls Try.prog 53 #[.pointer (some ⟨g, 0, none⟩), .int .i64 m] w fun e w' => ∃ x : Int, e = .returned (.int .i64 x) ∧ 0 ≤ x ∧ x < m ∧ Curs w' g A n c l ∧ a.grownBy w' (some g) := by
  by_cases hs : m ≤ 256
  · go_enter Try.func53, Try.ntmps53
    go_wp2_with (go_at_call 37; refine (k_Byte_from a (by assumption) (by assumption)).mono ?_; rintro e w1 ⟨x, rfl, hx0, hx1, hC1, hG1⟩)
    go_ret
    exact ⟨_, rfl, Int.emod_nonneg _ (by omega), Int.emod_lt_of_pos _ (by omega), by assumption, by assumption⟩
  · go_enter Try.func53, Try.ntmps53
    go_wp2_with (go_at_call 37; refine (k_Byte_from a (by assumption) (by assumption)).mono ?_; rintro e w1 ⟨x1, rfl, hx10, hx11, hC1, hG1⟩)
    go_ret
    exact ⟨_, rfl, Int.emod_nonneg _ (by omega), Int.emod_lt_of_pos _ (by omega), by assumption, by assumption⟩
theorem k_Below0 {w : World} {g : Nat} (m : Int) (h1 : m ≤ 0) :
    Calls Try.prog 53 #[.pointer (some ⟨g, 0, none⟩), .int .i64 m] w fun e w' => e = .returned (.int .i64 0) ∧ w = w' := by
  go_enter Try.func53, Try.ntmps53
  go_wp2
  go_ret
  exact ⟨rfl, rfl⟩

set_option maxRecDepth 100000 in
set_option maxHeartbeats 1000000 in
/-- A new cursor: it lies in a new block, the only one. -/
theorem k_New {w : World} {n c : Nat} {A : Option Addr} {l : List Int} (hl : Ints .u8 w w.heap.size A n l) (hn : n ≤ 140737488355328) :
    Calls Try.prog 32 #[.slice A n c] w fun e w' => ∃ g : Nat, e = .returned (.pointer (some ⟨g, 0, none⟩)) ∧ w.heap.size ≤ g ∧ Curs w' g A n c l ∧ Below w.heap.size w w' := by
  go_enter Try.func32, Try.ntmps32
  go_wp2
  go_loop [3, 4] (fun h i => ∃ (k : Nat) (x : Int), k ≤ n ∧ i = .int .i64 k ∧ h = .int .i64 x) (fun _ i => n - (intOf i).toNat)
  case atStart => exact ⟨0, _, by omega, rfl, rfl⟩
  case round =>
    obtain ⟨k, x, hk, rfl, rfl⟩ := hrel
    by_cases hlt : k < n
    · obtain ⟨b, off, rfl, hb, hcell, hwf⟩ := hl.at_ hlt
      by_cases h4 : k < 4000
      · go_wp2
        go_round
        case rel => exact ⟨k + 1, _, by omega, by go_num, rfl⟩
        case measure => simp [intOf]; omega
      · go_wp2
        go_ret
        exact ⟨_, rfl, Nat.le_refl _, ⟨⟨0, x, by omega, by omega, Box.new _ _ _⟩, hl.alloc (Nat.le_refl _) _, hn⟩, (Below.refl _ _).alloc (Nat.le_refl _) _⟩
    · go_wp2
      go_ret
      exact ⟨_, rfl, Nat.le_refl _, ⟨⟨0, x, by omega, by omega, Box.new _ _ _⟩, hl.alloc (Nat.le_refl _) _, hn⟩, (Below.refl _ _).alloc (Nat.le_refl _) _⟩

/-- Which element: the list lies in one block below or above the cursor's. -/
theorem k_Pick (a : World) {w : World} {g n c : Nat} {A : Option Addr} {l : List Int} {L : Option Addr} {m d : Nat} {zs : List Int} (h : Curs w g A n c l) (hG : a.grownBy w (some g))
    (hz : ∃ b off, L = some ⟨b, off, none⟩ ∧ b ≠ g ∧ b < w.heap.size ∧ ∀ i, i < m → w.cell? ⟨b, off + i, none⟩ = some (.int .i64 (zs.getD i 0))) (hm : 0 < m) (hm2 : m ≤ 65536) (hm3 : zs.length = m) :
    Calls Try.prog 34 #[.pointer (some ⟨g, 0, none⟩), .slice L m d] w fun e w' => ∃ x : Int, e = .returned (.int .i64 x) ∧ x ∈ zs ∧ Curs w' g A n c l ∧ a.grownBy w' (some g) := by
  obtain ⟨b, off, rfl, hbg, hbs, hc⟩ := hz
  go_enter Try.func34, Try.ntmps34
  go_wp2_with (go_at_call 53; refine (k_Below w _ h (gb_self w g) (by omega) (by omega)).mono ?_; rintro e w1 ⟨x, rfl, hx0, hx1, hC1, hG1⟩; obtain ⟨i, rfl⟩ := Int.eq_ofNat_of_zero_le hx0; have hcell := (World.cell?_of_block (a := ⟨b, off + i, none⟩) (hG1.block b hbs (fun e => hbg (by injection e)))).trans (hc i (by omega)))
  go_ret
  refine ⟨_, rfl, ?_, by assumption, gb_trans hG (by assumption)⟩
  rw [List.getElem?_eq_getElem (by omega), Option.getD_some]
  exact List.getElem_mem _
end Go.Proofs.Ytjehcmmbbjidkaa
