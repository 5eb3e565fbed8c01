/-
  Contracts of the draws of chapter 1.
-/
import Derived.Test.YtlakanajcabejaaDraw
namespace Go.Proofs.Ytlakanajcabejaa
open Go.ChangeShapes Go.WideShapes Go.ChangeAt Go.RowKit

/-- A number that is not great. -/
def Sm (x : Int) : Prop := -1 ≤ x ∧ x ≤ 2147483647
theorem below_gb {a w w' : World} {g : Nat} (h : Below a.heap.size a w) (hg : a.heap.size ≤ g) (hG : w.grownBy w' (some g)) : Below a.heap.size a w' :=
  h.trans (gb_below hG h.size hg)
theorem k_draw' {w0 w : World} {g n c : Nat} {A : Option Addr} {l : List Int} (h : Curs w g A n c l) (hb : Below w0.heap.size w0 w) (hg : w0.heap.size ≤ g) :
    Calls Try.prog 51 #[.pointer (some ⟨g, 0, none⟩)] w fun e w' => ∃ x : Int, e = .returned (.int .i64 x) ∧ Sm x ∧ Curs w' g A n c l ∧ Below w0.heap.size w0 w' := by
  refine (k_draw w h (gb_self w g)).mono ?_
  rintro e w' ⟨x, rfl, h1, h2, hC, hG⟩
  exact ⟨x, rfl, ⟨h1, h2⟩, hC, below_gb hb hg hG⟩
theorem d_FAdd {w : World} {n c : Nat} {A : Option Addr} {l : List Int} (hl : Ints .u8 w w.heap.size A n l) (hn : n ≤ 140737488355328) :
    Calls Try.prog 42 #[.slice A n c] w fun e w' => ∃ x y : Int, e = .returned (.tuple #[.int .i64 x, .int .i64 y]) ∧ Sm x ∧ Sm y ∧ Below w.heap.size w w' := by
  go_enter Try.func42, Try.ntmps42
  go_wp2_with (first
    | (go_at_call 50; refine (k_New hl hn).mono ?_; rintro e w1 ⟨g, rfl, hg, hC, hB⟩)
    | (go_at_call 51; refine (k_draw' (by assumption) (by assumption) hg).mono ?_; rintro e w1 ⟨x, rfl, hx, hC1, hB1⟩))
  go_ret2
  exact ⟨_, _, rfl, by assumption, by assumption, by assumption⟩
theorem d_FMul {w : World} {n c : Nat} {A : Option Addr} {l : List Int} (hl : Ints .u8 w w.heap.size A n l) (hn : n ≤ 140737488355328) :
    Calls Try.prog 15 #[.slice A n c] w fun e w' => ∃ x y : Int, e = .returned (.tuple #[.int .i64 x, .int .i64 y]) ∧ Sm x ∧ Sm y ∧ Below w.heap.size w w' := by
  go_enter Try.func15, Try.ntmps15
  go_wp2_with (go_at_call 42; refine (d_FAdd hl hn).mono ?_; rintro e w1 ⟨x, y, rfl, hx, hy, hB⟩)
  go_ret2
  exact ⟨_, _, rfl, hx, hy, hB⟩
theorem d_Shared {w : World} {n c : Nat} {A : Option Addr} {l : List Int} (hl : Ints .u8 w w.heap.size A n l) (hn : n ≤ 140737488355328) :
    Calls Try.prog 23 #[.slice A n c] w fun e w' => ∃ x y : Int, e = .returned (.tuple #[.int .i64 x, .int .i64 y]) ∧ Sm x ∧ Sm y ∧ Below w.heap.size w w' := by
  go_enter Try.func23, Try.ntmps23
  go_wp2_with (go_at_call 42; refine (d_FAdd hl hn).mono ?_; rintro e w1 ⟨x, y, rfl, hx, hy, hB⟩)
  go_ret2
  exact ⟨_, _, rfl, hx, hy, hB⟩
theorem d_FDiv {w : World} {n c : Nat} {A : Option Addr} {l : List Int} (hl : Ints .u8 w w.heap.size A n l) (hn : n ≤ 140737488355328) :
    Calls Try.prog 29 #[.slice A n c] w fun e w' => ∃ x y : Int, e = .returned (.tuple #[.int .i64 x, .int .i64 y]) ∧ Sm x ∧ Sm y ∧ Below w.heap.size w w' := by
  go_enter Try.func29, Try.ntmps29
  go_wp2_with (go_at_call 42; refine (d_FAdd hl hn).mono ?_; rintro e w1 ⟨x, y, rfl, hx, hy, hB⟩)
  go_ret2
  exact ⟨_, _, rfl, hx, hy, hB⟩
theorem six_cells (w : World) (t : TypeId) (x0 x1 x2 x3 x4 x5 : Int) : ∀ i, i < 6 → (w.alloc (.cells #[.int .i64 x0, .int .i64 x1, .int .i64 x2, .int .i64 x3, .int .i64 x4, .int .i64 x5] t)).cell? ⟨w.heap.size, 0 + i, none⟩ = some (.int .i64 ([x0, x1, x2, x3, x4, x5].getD i 0)) := by
  intro i hi
  rw [(Box.new w t _).cell]
  match i, hi with
  | 0, _ => rfl
  | 1, _ => rfl
  | 2, _ => rfl
  | 3, _ => rfl
  | 4, _ => rfl
  | 5, _ => rfl
theorem d_KeyOf {w : World} {n c : Nat} {A : Option Addr} {l : List Int} (hl : Ints .u8 w w.heap.size A n l) (hn : n ≤ 140737488355328) :
    Calls Try.prog 26 #[.slice A n c] w fun e w' => ∃ x y : Int, e = .returned (.tuple #[.int .i64 x, .int .i64 y]) ∧ Sm x ∧ y ∈ ([0, 1, 2, 99, 100, -1] : List Int) ∧ Below w.heap.size w w' := by
  go_enter Try.func26, Try.ntmps26
  go_wp2_with (first
    | (go_at_call 50; refine (k_New hl hn).mono ?_; rintro e w1 ⟨g, rfl, hg, hC, hB⟩)
    | (go_at_call 51; refine (k_draw' hC hB hg).mono ?_; rintro e w2 ⟨x, rfl, hx, hC1, hB1⟩)
    | (go_at_call 52; refine (k_Pick _ (Curs.alloc hC1 _) (gb_self _ g) ⟨_, 0, rfl, Nat.ne_of_gt (Curs.size hC1), by simp, six_cells _ _ _ _ _ _ _ _⟩ (by omega) (by omega) rfl).mono ?_; rintro e w3 ⟨y, rfl, hy, hC2, hG2⟩))
  go_ret2
  exact ⟨_, _, rfl, hx, hy, below_gb (hB1.alloc hB1.size _) hg hG2⟩
theorem d_Powers {w : World} {n c : Nat} {A : Option Addr} {l : List Int} (hl : Ints .u8 w w.heap.size A n l) (hn : n ≤ 140737488355328) :
    Calls Try.prog 34 #[.slice A n c] w fun e w' => ∃ x y : Int, e = .returned (.tuple #[.int .i64 x, .int .i64 y]) ∧ Sm x ∧ y ∈ ([0, 1, 5, 64, 65, -1] : List Int) ∧ Below w.heap.size w w' := by
  go_enter Try.func34, Try.ntmps34
  go_wp2_with (first
    | (go_at_call 50; refine (k_New hl hn).mono ?_; rintro e w1 ⟨g, rfl, hg, hC, hB⟩)
    | (go_at_call 51; refine (k_draw' hC hB hg).mono ?_; rintro e w2 ⟨x, rfl, hx, hC1, hB1⟩)
    | (go_at_call 52; refine (k_Pick _ (Curs.alloc hC1 _) (gb_self _ g) ⟨_, 0, rfl, Nat.ne_of_gt (Curs.size hC1), by simp, six_cells _ _ _ _ _ _ _ _⟩ (by omega) (by omega) rfl).mono ?_; rintro e w3 ⟨y, rfl, hy, hC2, hG2⟩))
  go_ret2
  exact ⟨_, _, rfl, hx, hy, below_gb (hB1.alloc hB1.size _) hg hG2⟩
end Go.Proofs.Ytlakanajcabejaa
