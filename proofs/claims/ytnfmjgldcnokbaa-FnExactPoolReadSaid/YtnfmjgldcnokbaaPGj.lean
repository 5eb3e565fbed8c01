/-
  SpecTwo: texts joined.
-/
import Derived.Test.YtnfmjgldcnokbaaPGb
import Derived.Test.YtnfmjgldcnokbaaPGd
import Derived.Test.YtnfmjgldcnokbaaPGf
import Derived.BigQuiet
import Derived.Deep.DrawnRows
import Derived.Deep.QuietTactic
import Derived.Deep.RegionHeld3
import Derived.Outline
namespace Go.Proofs.Ytnfmjgldcnokbaa
set_option maxRecDepth 100000
open Go.ChangeShapes Go.WideShapes Go.ChangeAt Go.RowKit
open Fld
attribute [local go_sem ↓] Go.wp_at_zero Go.wp_at_succ

theorem Ints.bytes {w : World} {B n : Nat} {A : Option Addr} {l : List Int} (h : Ints .u8 w B A n l) : Bytes l := fun x hx => by
  have := h.2.2 x hx
  simp [Lit.wf] at this
  have e1 : IntKind.u8.min = 0 := by decide
  have e2 : IntKind.u8.max = 255 := by decide
  omega
theorem Own.not {k : IntKind} {e : TypeId} {w : World} {base b : Nat} {v : Value} {l : List Int} (h : Own k e w base v l) (hb : b < base) : some b ≠ v.ownBlock := fun e => by
  have := (h.block e.symm).1; omega

theorem Src.four (w : World) (t : TypeId) (x0 x1 x2 x3 : Int) : Src (w.alloc (.cells #[.int .u8 x0, .int .u8 x1, .int .u8 x2, .int .u8 x3] t)) 1 (some ⟨w.heap.size, 0, none⟩) 4 ([x0, x1, x2, x3].map (Value.int .u8)) := by
  refine ⟨rfl, fun _ => ⟨_, 0, rfl, fun j v hj => ?_⟩⟩
  rw [(Box.new w t _).cell]
  match j, hj with
  | 0, hj => exact hj
  | 1, hj => exact hj
  | 2, hj => exact hj
  | 3, hj => exact hj
theorem s_get {w : World} {B n c : Nat} {A : Option Addr} {l : List Int} (hl : Ints .u8 w B A n l) (hn : 4 ≤ n) (hm : n ≤ 140737488355328) :
    Calls Try.prog 102 #[.slice A n c] w fun e w' => e = .returned (.int .i64 (get4 l)) ∧ ∃ q, w' = w.drewN q := by
  obtain ⟨b, off, rfl, hb, hc⟩ := hl.2.1 (by omega)
  have hby := hl.bytes
  have c0 := hc 0 (by omega)
  have c1 := hc 1 (by omega)
  have c2 := hc 2 (by omega)
  have c3 := hc 3 (by omega)
  have b0 := hby.at_ 0; have b1 := hby.at_ 1; have b2 := hby.at_ 2; have b3 := hby.at_ 3
  obtain ⟨x0, h0⟩ : ∃ x, l.getD 0 0 = x := ⟨_, rfl⟩
  obtain ⟨x1, h1⟩ : ∃ x, l.getD 1 0 = x := ⟨_, rfl⟩
  obtain ⟨x2, h2⟩ : ∃ x, l.getD 2 0 = x := ⟨_, rfl⟩
  obtain ⟨x3, h3⟩ : ∃ x, l.getD 3 0 = x := ⟨_, rfl⟩
  have HG := Lib.hid (show get4 l = x0 * 16777216 + x1 * 65536 + x2 * 256 + x3 by unfold get4; rw [h0, h1, h2, h3])
  rw [h0] at c0 b0; rw [h1] at c1 b1; rw [h2] at c2 b2; rw [h3] at c3 b3
  rw [Nat.add_zero] at c0
  clear h0 h1 h2 h3 hc
  go_enter Try.func102, Try.ntmps102
  go_wp2
  go_quiet (fail)
  go_wp2
  go_ret
  refine ⟨ret_i64 ?_, _, rfl⟩
  rw [HG.out]
theorem Ints.tail {w : World} {B n b off : Nat} {l : List Int} (h : Ints .u8 w B (some ⟨b, off, none⟩) n l) (m : Nat) (hm : m ≤ n) : Ints .u8 w B (some ⟨b, off + m, none⟩) (n - m) (l.drop m) := by
  refine ⟨by rw [List.length_drop, h.1], fun h0 => ?_, fun x hx => h.2.2 x (List.mem_of_mem_drop hx)⟩
  obtain ⟨b', off', e, hb, hc⟩ := h.2.1 (by omega)
  simp only [Option.some.injEq, Addr.mk.injEq, and_true] at e
  obtain ⟨rfl, rfl⟩ := e
  refine ⟨b, off + m, rfl, hb, fun i hi => ?_⟩
  rw [getD_drop, Nat.add_assoc]
  exact hc (m + i) (by omega)
end Go.Proofs.Ytnfmjgldcnokbaa
