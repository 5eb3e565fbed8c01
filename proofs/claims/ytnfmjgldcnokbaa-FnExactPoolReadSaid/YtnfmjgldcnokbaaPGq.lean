/-
  ImplThree: texts joined.
-/
import Derived.Test.YtnfmjgldcnokbaaPGb
import Derived.Test.YtnfmjgldcnokbaaPGe
import Derived.Test.YtnfmjgldcnokbaaPGg
import Derived.Test.YtnfmjgldcnokbaaPGj
import Derived.CallsIn
import Derived.Laws.BytesArg
import Derived.Lib.AppendZerosOnto
import Derived.Lib.Bytes
import Derived.Lib.SliceRun
import Derived.LoopIn
import Derived.LoopN
import Derived.LoopNIn
import Derived.OwnWalkIn
import Derived.RangeFuncBound
import Derived.RangeFuncBox
import Derived.RangeFuncCalls
import Derived.RangeFuncFrom
import Derived.RangeFuncLeaves
import Derived.RangeFuncNested
import Derived.Shelf.Abstract
import Derived.Shelf.Bytes.SlSmallAll
import Derived.Shelf.RegionOpen
import Derived.StillTactics
import Derived.StillTail
import Derived.TacticsInMore
namespace Go.Proofs.Ytnfmjgldcnokbaa
set_option maxRecDepth 100000
open Go.ChangeShapes Go.WideShapes Go.ChangeAt Go.RowKit
open Fld
attribute [local go_sem ↓] Go.wp_at_zero Go.wp_at_succ

def num (l : List Int) : Int := l.foldl (fun n d => n * 256 + d) 0
theorem num_snoc (l : List Int) (x : Int) : num (l ++ [x]) = num l * 256 + x := by simp [num]
theorem num_rg : ∀ {l : List Int}, Bytes l → l.length ≤ 4 → 0 ≤ num l ∧ num l < 4294967296
  | [], _, _ => by simp [num]
  | [a], h, _ => by have := h a (by simp); simp [num]; omega
  | [a, b], h, _ => by have := h a (by simp); have := h b (by simp); simp [num]; omega
  | [a, b, c], h, _ => by have := h a (by simp); have := h b (by simp); have := h c (by simp); simp [num]; omega
  | [a, b, c, d], h, _ => by have := h a (by simp); have := h b (by simp); have := h c (by simp); have := h d (by simp); simp [num]; omega
theorem i_number {w : World} {B n c : Nat} {A : Option Addr} {l : List Int} (hl : Ints .u8 w B A n l) (hn : n ≤ 4) :
    Calls Try.prog 74 #[.slice A n c] w fun e w' => e = .returned (.int .i64 (num l)) ∧ w = w' := by
  have HL := Lib.hid hl.1
  have hby := hl.bytes
  go_enter Try.func74, Try.ntmps74
  go_wp2_with fail
  go_loop [3, 8] (fun x i => ∃ j : Nat, j ≤ n ∧ i = .int .i64 j ∧ x = .int .i64 (num (l.take j))) (fun _ i => n - (intOf i).toNat)
  case atStart => exact ⟨0, by omega, rfl, rfl⟩
  case round =>
    obtain ⟨j, hj, rfl, rfl⟩ := hrel
    by_cases hlt : j < n
    · obtain ⟨b, off, rfl, _, hcell, _⟩ := hl.at_ hlt
      have HS := Lib.hid (show num (l.take (j + 1)) = num (l.take j) * 256 + l.getD j 0 by rw [List.take_succ_eq_append_getElem (by rw [HL.out]; exact hlt), num_snoc, getD_lt (by rw [HL.out]; exact hlt)])
      have bx := hby.at_ j
      have bn := num_rg (hby.take j) (by rw [List.length_take]; omega)
      obtain ⟨x, hx⟩ : ∃ x, l.getD j 0 = x := ⟨_, rfl⟩
      rw [hx] at hcell bx
      have HX := Lib.hid hx
      clear hx
      obtain ⟨y, hy⟩ : ∃ y, num (l.take j) = y := ⟨_, rfl⟩
      rw [hy] at bn
      rw [hy]
      have HY := Lib.hid hy
      clear hy
      have i1 : IntKind.i64.wrap (y * 256) = y * 256 := IntWalk.i64_in _ (by omega)
      have i2 : IntKind.i64.wrap (y * 256 + x) = y * 256 + x := IntWalk.i64_in _ (by omega)
      go_wp2
      go_round
      case rel => exact ⟨j + 1, by omega, by go_num, by rw [HS.out, HX.out, HY.out]⟩
      case measure => simp [intOf]; omega
    · obtain rfl : j = n := by omega
      have HE := Lib.hid (show num (l.take j) = num l by rw [← HL.out, List.take_length])
      go_wp2
      go_ret
      exact ⟨ret_i64 HE.out, rfl⟩
end Go.Proofs.Ytnfmjgldcnokbaa
