/-
  Mem, Draw, App, Mark, Copy, Rd, Dat, Row, Grow, Ty, GrowM, Fld, SpecOne, Cell, Mk, PHeld, PPool, PD5, Sn, PNil, POwn, PMv5, Blk, LPieceS, LWholeS, GrowN, All: texts joined.
-/
import Derived.Test.YtaabmaoldhoinaaGreatRows
import Derived.BigQuiet
import Derived.Deep.Draws
import Derived.Deep.OwnRows
import Derived.Deep.QuietTactic
import Derived.Deep.RegionHeld3
import Derived.Laws.MakeOwn
import Derived.Lib.Hide
import Derived.Maps.AppendAt
import Derived.OpenShut
import Derived.Outline
import Derived.ProofKit
import Derived.ScopeJumps
import Derived.WalkKit
import Derived.WalkMore
namespace Go.Proofs.YtaabmaoldhoinaaGreat
open Go.RowKit

/-- Block g holds just these cells, of element type t, none of them frozen. -/
def Box (w : World) (g : Nat) (t : TypeId) (cs : Array Value) : Prop := w.heap[g]? = some (.cells cs t (0, 0))

section
variable {w w' : World} {g : Nat} {t : TypeId} {cs : Array Value}
theorem Box.size (h : Box w g t cs) : g < w.heap.size := by
  unfold Box at h
  by_cases hl : g < w.heap.size
  · exact hl
  · rw [Array.getElem?_eq_none (by omega)] at h; cases h
theorem Box.cell (h : Box w g t cs) (i : Nat) : w.cell? ⟨g, i, none⟩ = cs[i]? := cell_of_row w g i cs t (0, 0) h
theorem Box.frozen (h : Box w g t cs) (i : Nat) : w.frozen? ⟨g, i, none⟩ = false := by
  unfold Box at h; simp [World.frozen?, h]
theorem Box.same (h : Box w g t cs) (e : w'.heap[g]? = w.heap[g]?) : Box w' g t cs := e.trans h
theorem Box.drewN (h : Box w g t cs) (n : Nat) : Box (w.drewN n) g t cs := h
theorem Box.drew (h : Box w g t cs) : Box w.drew g t cs := h
theorem Box.new (w : World) (t : TypeId) (cs : Array Value) : Box (w.alloc (.cells cs t)) w.heap.size t cs := heap_alloc_new w _
theorem Box.alloc (h : Box w g t cs) (o : Obj) : Box (w.alloc o) g t cs := h.same (Below.heap_alloc w o g h.size)
theorem Box.put (h : Box w g t cs) (i : Nat) (u : Value) : Box (w.setCell ⟨g, i, none⟩ u) g t (cs.setIfInBounds i u) := by
  unfold Box at h ⊢; simp [World.setCell, Array.getElem?_modify, h]
theorem Box.far (h : Box w g t cs) {p : Addr} (hp : g ≠ p.block) (u : Value) : Box (w.setCell p u) g t cs := h.same (Below.heap_setCell w p u g hp)
theorem Box.below {B : Nat} (h : Box w g t cs) (hb : Below B w w') (hg : g < B) : Box w' g t cs := h.same (hb.block g hg)
theorem Box.grown {row : Option Nat} (h : Box w g t cs) (hb : w.grownBy w' row) (hg : some g ≠ row) : Box w' g t cs := h.same (hb.block g h.size hg)
end

/-! ### what a call has changed: 'grownBy' with the one block that it may have written -/
section
variable {a w w' : World} {row : Option Nat}
theorem gb_drewN (h : a.grownBy w row) (n : Nat) : a.grownBy (w.drewN n) row := ⟨h.os, h.tape, h.output, h.size, h.block⟩
theorem gb_drew (h : a.grownBy w row) : a.grownBy w.drew row := ⟨h.os, h.tape, h.output, h.size, h.block⟩
theorem gb_alloc (h : a.grownBy w row) (o : Obj) : a.grownBy (w.alloc o) row :=
  ⟨h.os, h.tape, h.output, Nat.le_trans h.size (by simp), fun i hi hn => (Below.heap_alloc w o i (Nat.lt_of_lt_of_le hi h.size)).trans (h.block i hi hn)⟩
theorem gb_put {g : Nat} (h : a.grownBy w (some g)) (j : Nat) (u : Value) : a.grownBy (w.setCell ⟨g, j, none⟩ u) (some g) :=
  ⟨h.os, h.tape, h.output, by simpa [World.setCell] using h.size, fun i hi hn => (Below.heap_setCell w ⟨g, j, none⟩ u i (fun e => hn (by rw [e]))).trans (h.block i hi hn)⟩
theorem gb_trans {b c : World} (h : a.grownBy b row) (k : b.grownBy c row) : a.grownBy c row :=
  ⟨k.os.trans h.os, k.tape.trans h.tape, k.output.trans h.output, Nat.le_trans h.size k.size, fun i hi hn => (k.block i (Nat.lt_of_lt_of_le hi h.size) hn).trans (h.block i hi hn)⟩
theorem gb_below {B g : Nat} (h : w.grownBy w' (some g)) (hB : B ≤ w.heap.size) (hg : B ≤ g) : Below B w w' :=
  ⟨h.os, h.tape, h.output, h.size, fun k hk => h.block k (by omega) (fun e => by injection e; omega)⟩
theorem below_drewN {B : Nat} (h : Below B a w) (n : Nat) : Below B a (w.drewN n) := ⟨h.os, h.tape, h.output, h.size, h.block⟩
theorem below_grownBy (h : Below a.heap.size a w) : a.grownBy w row := ⟨h.os, h.tape, h.output, h.size, fun k hk _ => h.block k hk⟩
end

/-- The slice value '.slice A n c' holds the n integers l, of kind k, below block B. -/
def Ints (k : IntKind) (w : World) (B : Nat) (A : Option Addr) (n : Nat) (l : List Int) : Prop :=
  l.length = n ∧ (0 < n → ∃ b off, A = some ⟨b, off, none⟩ ∧ b < B ∧ ∀ i, i < n → w.cell? ⟨b, off + i, none⟩ = some (.int k (l.getD i 0))) ∧ ∀ x ∈ l, (Lit.int k x).wf = true
theorem wf_getD {k : IntKind} {l : List Int} (h : ∀ x ∈ l, (Lit.int k x).wf = true) {i : Nat} (hi : i < l.length) : (Lit.int k (l.getD i 0)).wf = true := by
  apply h
  rw [List.getD_eq_getElem?_getD, List.getElem?_eq_getElem hi, Option.getD_some]
  exact List.getElem_mem _
section
variable {k : IntKind} {w w' : World} {B n : Nat} {A : Option Addr} {l : List Int}
theorem Ints.nil : Ints k w B A 0 [] := ⟨rfl, fun h => absurd h (by omega), fun _ h => by cases h⟩
theorem Ints.at_ {i : Nat} (h : Ints k w B A n l) (hi : i < n) : ∃ b off, A = some ⟨b, off, none⟩ ∧ b < B ∧ w.cell? ⟨b, off + i, none⟩ = some (.int k (l.getD i 0)) ∧ (Lit.int k (l.getD i 0)).wf = true := by
  obtain ⟨b, off, e, hb, hc⟩ := h.2.1 (by omega)
  exact ⟨b, off, e, hb, hc i hi, wf_getD h.2.2 (by have := h.1; omega)⟩
theorem Ints.keep (h : Ints k w B A n l) (hk : ∀ b, b < B → w'.heap[b]? = w.heap[b]?) : Ints k w' B A n l :=
  ⟨h.1, fun hn => by
    obtain ⟨b, off, e, hb, hc⟩ := h.2.1 hn
    exact ⟨b, off, e, hb, fun i hi => (World.cell?_of_block (hk _ hb)).trans (hc i hi)⟩, h.2.2⟩
theorem Ints.below (h : Ints k w B A n l) (hb : Below B w w') : Ints k w' B A n l := h.keep hb.block
theorem Ints.grown (h : Ints k w B A n l) {g : Nat} (hb : w.grownBy w' (some g)) (hB : B ≤ w.heap.size) (hg : B ≤ g) : Ints k w' B A n l := h.below (gb_below hb hB hg)
theorem Ints.drewN (h : Ints k w B A n l) (m : Nat) : Ints k (w.drewN m) B A n l := h
theorem Ints.drew (h : Ints k w B A n l) : Ints k w.drew B A n l := h
theorem Ints.alloc (h : Ints k w B A n l) (hB : B ≤ w.heap.size) (o : Obj) : Ints k (w.alloc o) B A n l := h.keep fun b hb => Below.heap_alloc w o b (by omega)
theorem Ints.up {B' : Nat} (h : Ints k w B A n l) (hB : B ≤ B') : Ints k w B' A n l :=
  ⟨h.1, fun hn => by
    obtain ⟨b, off, e, hb, hc⟩ := h.2.1 hn
    exact ⟨b, off, e, by omega, hc⟩, h.2.2⟩
/-- What the frame of a law tells of a slice that came in. -/
theorem Ints.ofRow {x : Addr} {zs : List Int} {m : Nat} (hm : m ≤ zs.length) (hc : ∀ i, i < zs.length → w.cell? (x.add i) = some (.int k (zs.getD i 0))) (hw : ∀ n ∈ zs, (Lit.int k n).wf = true) :
    Ints k w w.heap.size (some x) m (zs.take m) := by
  refine ⟨by rw [List.length_take]; omega, fun h0 => ?_, fun y hy => hw y (List.mem_of_mem_take hy)⟩
  obtain ⟨b, off, rfl, hcell⟩ := ints_at hc (by omega)
  refine ⟨b, off, rfl, ?_, fun i hi => ?_⟩
  · have := hcell 0 (by omega)
    exact World.block_lt_of_cell? w _ this
  · rw [hcell i (by omega), List.getD_eq_getElem?_getD, List.getD_eq_getElem?_getD, List.getElem?_take, if_pos hi]
end
end Go.Proofs.YtaabmaoldhoinaaGreat
namespace Go.Proofs.YtaabmaoldhoinaaGreat
open Go.ChangeShapes Go.WideShapes Go.ChangeAt Go.RowKit

theorem and255 (a : Int) : 0 ≤ bits .and .i64 a 255 ∧ bits .and .i64 a 255 ≤ 255 := by
  show 0 ≤ IntKind.i64.wrap ((BitVec.ofInt 64 a &&& BitVec.ofInt 64 255).toNat : Int) ∧ IntKind.i64.wrap ((BitVec.ofInt 64 a &&& BitVec.ofInt 64 255).toNat : Int) ≤ 255
  rw [BitVec.toNat_and]
  have h : (BitVec.ofInt 64 a).toNat &&& (BitVec.ofInt 64 255).toNat ≤ 255 := Nat.and_le_right
  rw [IntKind.wrap_i64]
  omega

/-- The cursor in block g, over n bytes at A. -/
def Cur (w : World) (g : Nat) (A : Option Addr) (n c : Nat) : Prop :=
  ∃ (i h : Int), 0 ≤ i ∧ i ≤ n ∧ Box w g 131 #[.slice A n c, .int .i64 i, .int .i64 h]

theorem cur2 {w : World} {g t : Nat} {x y z : Value} (h : Box w g t #[x, y, z]) (u : Value) : Box (w.setCell ⟨g, 2, none⟩ u) g t #[x, y, u] := h.put 2 u
theorem cur1 {w : World} {g t : Nat} {x z : Value} {y : Value} (h : Box w g t #[x, y, z]) (u : Value) : Box (w.setCell ⟨g, 1, none⟩ u) g t #[x, u, z] := h.put 1 u

set_option maxHeartbeats 1000000 in
theorem c_Byte (w : World) (g : Nat) (A : Option Addr) (n c : Nat) (l : List Int) (hc : Cur w g A n c) (hl : Ints .u8 w g A n l) (hn : n ≤ 140737488355328) :
    Calls Tryz.prog 111 #[.pointer (some ⟨g, 0, none⟩)] w fun e w' => ∃ x : Int, e = .returned (.int .i64 x) ∧ 0 ≤ x ∧ x ≤ 255 ∧ Cur w' g A n c ∧ w.grownBy w' (some g) := by
  obtain ⟨i0, h, hi0, hi, hb⟩ := hc
  obtain ⟨i, rfl⟩ := Int.eq_ofNat_of_zero_le hi0
  have c0 := hb.cell 0
  have c1 := hb.cell 1
  have c2 := hb.cell 2
  have f1 := hb.frozen 1
  have f2 := hb.frozen 2
  simp at c0 c1 c2
  by_cases hlt : i < n
  · obtain ⟨b, off, rfl, hab, hac, haw⟩ := hl.at_ hlt
    have hbg : ¬ b = g := by omega
    have hgb : ¬ g = b := by omega
    go_enter Tryz.func111, Tryz.ntmps111
    go_wp2
    go_quiet (fail)
    go_wp2
    go_quiet (fail)
    go_wp2
    go_quiet (fail)
    go_wp2
    go_ret
    generalize wrap64 (wrap64 (h * 6364136223846793005) + 1442695040888963407) = hh
    refine ⟨_, rfl, ?_⟩
    refine ⟨(and255 _).1, (and255 _).2, ?_, ?_⟩
    · refine ⟨_, _, ?_, ?_, cur1 ((cur2 hb _).drewN _) _⟩ <;> omega
    · exact gb_put (gb_drewN (gb_put (World.grownBy.refl w _) _ _) _) _ _
  · go_enter Tryz.func111, Tryz.ntmps111
    go_wp2
    go_quiet (fail)
    go_wp2
    go_quiet (fail)
    go_wp2
    go_ret
    exact ⟨_, rfl, (and255 _).1, (and255 _).2, ⟨_, _, hi0, hi, ((cur2 hb _).drewN _).drewN _⟩, gb_drewN (gb_drewN (gb_put (World.grownBy.refl w _) _ _) _) _⟩

/-- The cursor in block g and the bytes that it reads. -/
def Curs (w : World) (g : Nat) (A : Option Addr) (n c : Nat) (l : List Int) : Prop := Cur w g A n c ∧ Ints .u8 w g A n l ∧ n ≤ 140737488355328
theorem Curs.size {w : World} {g n c : Nat} {A : Option Addr} {l : List Int} (h : Curs w g A n c l) : g < w.heap.size := by
  obtain ⟨⟨_, _, _, _, hb⟩, _⟩ := h; exact hb.size
theorem Curs.below {w w' : World} {g n c : Nat} {A : Option Addr} {l : List Int} (h : Curs w g A n c l) {B : Nat} (hB : Below B w w') (hg : g < B) : Curs w' g A n c l := by
  obtain ⟨⟨i, x, h0, h1, hb⟩, hi, hs⟩ := h
  exact ⟨⟨i, x, h0, h1, hb.below hB hg⟩, hi.below (hB.mono (by omega)), hs⟩
theorem Curs.drewN {w : World} {g n c : Nat} {A : Option Addr} {l : List Int} (h : Curs w g A n c l) (m : Nat) : Curs (w.drewN m) g A n c l := h
theorem Curs.alloc {w : World} {g n c : Nat} {A : Option Addr} {l : List Int} (h : Curs w g A n c l) (o : Obj) : Curs (w.alloc o) g A n c l :=
  h.below ((Below.refl w.heap.size w).alloc (Nat.le_refl _) o) h.size

theorem k_Byte {w : World} {g n c : Nat} {A : Option Addr} {l : List Int} (h : Curs w g A n c l) :
    Calls Tryz.prog 111 #[.pointer (some ⟨g, 0, none⟩)] w fun e w' => ∃ x : Int, e = .returned (.int .i64 x) ∧ 0 ≤ x ∧ x ≤ 255 ∧ Curs w' g A n c l ∧ w.grownBy w' (some g) := by
  obtain ⟨hc, hl, hn⟩ := h
  have hs : g < w.heap.size := Curs.size ⟨hc, hl, hn⟩
  refine (c_Byte w g A n c l hc hl hn).mono ?_
  rintro e w' ⟨x, rfl, h0, h1, hc', hG⟩
  exact ⟨x, rfl, h0, h1, ⟨hc', hl.grown hG (by omega) (Nat.le_refl _), hn⟩, hG⟩

theorem gb_self (w : World) (g : Nat) : w.grownBy w (some g) := World.grownBy.refl w _
theorem k_Byte_from (a : World) {w : World} {g n c : Nat} {A : Option Addr} {l : List Int} (h : Curs w g A n c l) (hG : a.grownBy w (some g)) :
    Calls Tryz.prog 111 #[.pointer (some ⟨g, 0, none⟩)] w fun e w' => ∃ x : Int, e = .returned (.int .i64 x) ∧ 0 ≤ x ∧ x ≤ 255 ∧ Curs w' g A n c l ∧ a.grownBy w' (some g) := by
  refine (k_Byte h).mono ?_
  rintro e w' ⟨x, rfl, h0, h1, hc, hG'⟩
  exact ⟨x, rfl, h0, h1, hc, gb_trans hG hG'⟩

set_option maxHeartbeats 1000000 in
theorem k_Below (a : World) {w : World} {g n c : Nat} {A : Option Addr} {l : List Int} (m : Int) (h : Curs w g A n c l) (hG : a.grownBy w (some g)) (h1 : 1 ≤ m) (h2 : m ≤ 9223372036854775807) :
    Calls Tryz.prog 105 #[.pointer (some ⟨g, 0, none⟩), .int .i64 m] w fun e w' => ∃ x : Int, e = .returned (.int .i64 x) ∧ 0 ≤ x ∧ x < m ∧ Curs w' g A n c l ∧ a.grownBy w' (some g) := by
  by_cases hs : m ≤ 256
  · go_enter Tryz.func105, Tryz.ntmps105
    go_wp2_with (go_at_call 111; refine (k_Byte_from a (by assumption) (by assumption)).mono ?_; rintro e w1 ⟨x, rfl, hx0, hx1, hC1, hG1⟩)
    go_ret
    exact ⟨_, rfl, Int.emod_nonneg _ (by omega), Int.emod_lt_of_pos _ (by omega), by assumption, by assumption⟩
  · go_enter Tryz.func105, Tryz.ntmps105
    go_wp2_with (go_at_call 111; refine (k_Byte_from a (by assumption) (by assumption)).mono ?_; rintro e w1 ⟨x1, rfl, hx10, hx11, hC1, hG1⟩)
    go_ret
    exact ⟨_, rfl, Int.emod_nonneg _ (by omega), Int.emod_lt_of_pos _ (by omega), by assumption, by assumption⟩
set_option maxRecDepth 100000 in
set_option maxHeartbeats 1000000 in
/-- A new cursor: it lies in a new block, the only one. -/
theorem k_New {w : World} {n c : Nat} {A : Option Addr} {l : List Int} (hl : Ints .u8 w w.heap.size A n l) (hn : n ≤ 140737488355328) :
    Calls Tryz.prog 62 #[.slice A n c] w fun e w' => ∃ g : Nat, e = .returned (.pointer (some ⟨g, 0, none⟩)) ∧ w.heap.size ≤ g ∧ Curs w' g A n c l ∧ Below w.heap.size w w' := by
  go_enter Tryz.func62, Tryz.ntmps62
  go_wp2
  go_loop [3, 4] (fun h i => ∃ (k : Nat) (x : Int), k ≤ n ∧ i = .int .i64 k ∧ h = .int .i64 x) (fun _ i => n - (RowKit.intOf i).toNat)
  case atStart => exact ⟨0, _, by omega, rfl, rfl⟩
  case round =>
    obtain ⟨k, x, hk, rfl, rfl⟩ := hrel
    by_cases hlt : k < n
    · obtain ⟨b, off, rfl, hb, hcell, hwf⟩ := hl.at_ hlt
      by_cases h4 : k < 4000
      · go_wp2
        go_round
        case rel => exact ⟨k + 1, _, by omega, by go_num, rfl⟩
        case measure => simp [RowKit.intOf]; omega
      · go_wp2
        go_ret
        exact ⟨_, rfl, Nat.le_refl _, ⟨⟨0, x, by omega, by omega, Box.new _ _ _⟩, hl.alloc (Nat.le_refl _) _, hn⟩, (Below.refl _ _).alloc (Nat.le_refl _) _⟩
    · go_wp2
      go_ret
      exact ⟨_, rfl, Nat.le_refl _, ⟨⟨0, x, by omega, by omega, Box.new _ _ _⟩, hl.alloc (Nat.le_refl _) _, hn⟩, (Below.refl _ _).alloc (Nat.le_refl _) _⟩

/-- Which element: the list lies in one block below or above the cursor's. -/
theorem k_Pick (a : World) {w : World} {g n c : Nat} {A : Option Addr} {l : List Int} {L : Option Addr} {m d : Nat} {zs : List Int} (h : Curs w g A n c l) (hG : a.grownBy w (some g))
    (hz : ∃ b off, L = some ⟨b, off, none⟩ ∧ b ≠ g ∧ b < w.heap.size ∧ ∀ i, i < m → w.cell? ⟨b, off + i, none⟩ = some (.int .i64 (zs.getD i 0))) (hm : 0 < m) (hm2 : m ≤ 65536) (hm3 : zs.length = m) :
    Calls Tryz.prog 64 #[.pointer (some ⟨g, 0, none⟩), .slice L m d] w fun e w' => ∃ x : Int, e = .returned (.int .i64 x) ∧ x ∈ zs ∧ Curs w' g A n c l ∧ a.grownBy w' (some g) := by
  obtain ⟨b, off, rfl, hbg, hbs, hc⟩ := hz
  go_enter Tryz.func64, Tryz.ntmps64
  go_wp2_with (go_at_call 105; refine (k_Below w _ h (gb_self w g) (by omega) (by omega)).mono ?_; rintro e w1 ⟨x, rfl, hx0, hx1, hC1, hG1⟩; obtain ⟨i, rfl⟩ := Int.eq_ofNat_of_zero_le hx0; have hcell := (World.cell?_of_block (a := ⟨b, off + i, none⟩) (hG1.block b hbs (fun e => hbg (by injection e)))).trans (hc i (by omega)))
  go_ret
  refine ⟨_, rfl, ?_, by assumption, gb_trans hG (by assumption)⟩
  rw [List.getElem?_eq_getElem (by omega), Option.getD_some]
  exact List.getElem_mem _
end Go.Proofs.YtaabmaoldhoinaaGreat
namespace Go.Proofs.YtaabmaoldhoinaaGreat
open Go.ChangeShapes Go.WideShapes Go.ChangeAt Go.RowKit

/-- The slice '.slice A m c' holds the cells 'news' (of m elements), wherever it lies. -/
def Src (w : World) (size : Nat) (A : Option Addr) (m : Nat) (news : List Value) : Prop :=
  news.length = m * size ∧ (0 < m → ∃ b off, A = some ⟨b, off, none⟩ ∧ ∀ j u, news[j]? = some u → w.cell? ⟨b, off + j, none⟩ = some u)
theorem Src.nil (w : World) (size : Nat) (A : Option Addr) : Src w size A 0 [] := ⟨by simp, fun h => absurd h (by omega)⟩
theorem Src.of_ints {k : IntKind} {w : World} {B n : Nat} {A : Option Addr} {l : List Int} (h : Ints k w B A n l) : Src w 1 A n (l.map (Value.int k)) := by
  refine ⟨by rw [List.length_map, h.1]; omega, fun h0 => ?_⟩
  obtain ⟨b, off, e, _, hc⟩ := h.2.1 h0
  refine ⟨b, off, e, fun j u hu => ?_⟩
  rw [List.getElem?_map, Option.map_eq_some_iff] at hu
  obtain ⟨x, hx, rfl⟩ := hu
  obtain ⟨hj, hx'⟩ := List.getElem?_eq_some_iff.1 hx
  rw [hc j (by have := h.1; omega), List.getD_eq_getElem?_getD, hx, Option.getD_some]
/-- One cell that has just been laid. -/
theorem Src.one (w : World) (t : TypeId) (u : Value) : Src (w.alloc (.cells #[u] t)) 1 (some ⟨w.heap.size, 0, none⟩) 1 [u] := by
  refine ⟨rfl, fun _ => ⟨_, 0, rfl, fun j v hj => ?_⟩⟩
  match j, hj with
  | 0, hj => rw [(Box.new w t _).cell]; exact hj

section
variable {P : Program} (w : World)
theorem run_app_nil (base : Nat) (t ty e : TypeId) (i : TypeInfo) (size : Nat) (ht : P.underlying t = some (.slice e)) (hi : P.info? e = some i)
    (v : Value) (n : Nat) (xs : List Value) (hown : w.ownsRow base e size v n xs) (c : Nat) : (Builtin.append_ #[t, t] ty #[v, .slice none 0 c]).run P w = .ok v w := by
  rcases hown.2 with ⟨rfl, rfl⟩ | ⟨g, cap, cur, rfl, _, _, hnc, _⟩ <;>
    simp [Builtin.append_, run_underlying ht, sizeOf, typeInfo, Builtin.lenOf, Builtin.firstCells, storeCells, *]

theorem run_app (base : Nat) (t ty e : TypeId) (i : TypeInfo) (z : Value) (size bytes : Nat) (ht : P.underlying t = some (.slice e)) (hi : P.info? e = some i) (hz : i.zero = some z)
    (hsize : i.size = size) (hby : i.bytes = bytes) (hzs : z.cells.size = size) (hsz : 0 < size)
    (v : Value) (n : Nat) (xs : List Value) (hown : w.ownsRow base e size v n xs)
    (A : Option Addr) (m c : Nat) (news : List Value) (hr : Src w size A m news) (h1 : ∀ u ∈ news, u.oneCell' = true)
    (h63 : n + m ≤ maxLen) (hbytes : (n + m) * bytes ≤ 140737488355328) (hbase : base ≤ w.heap.size) :
    ∃ v' w', (Builtin.append_ #[t, t] ty #[v, .slice A m c]).run P w = .ok v' w' ∧ w'.ownsRow base e size v' (n + m) (xs ++ news) ∧ w.grownBy w' v.ownBlock ∧
      (v'.ownBlock = v.ownBlock ∨ v'.ownBlock = some w.heap.size) := by
  by_cases hm : m = 0
  · subst hm
    have hn : news = [] := List.eq_nil_of_length_eq_zero (by simpa using hr.1)
    subst hn
    cases A with
    | none => exact ⟨v, w, run_app_nil w base t ty e i size ht hi v n xs hown c, by simpa using hown, World.grownBy.refl w _, .inl rfl⟩
    | some ad =>
      obtain ⟨v', w', hrun, h2, h3, _, h5⟩ := run_append_own_at (P := P) w base t ty e i z size bytes ht hi hz hsize hby hzs hsz v n xs hown ad 0 c [] hr.1 (by simp) h1 h63 hbytes hbase
      exact ⟨v', w', hrun, h2, h3, h5⟩
  · obtain ⟨b, off, rfl, hc⟩ := hr.2 (by omega)
    obtain ⟨v', w', hrun, h2, h3, _, h5⟩ := run_append_own_at (P := P) w base t ty e i z size bytes ht hi hz hsize hby hzs hsz v n xs hown ⟨b, off, none⟩ m c news hr.1
      (fun j u hu => by rw [Go.WideShapes.add_plain]; exact hc j u hu) h1 h63 hbytes hbase
    exact ⟨v', w', hrun, h2, h3, h5⟩

theorem wp_app {o : Oper} {a : Act} {K : Act → World → Prop} {Q : Exit → Act → World → Prop} (s x : Operand) (t : TypeId)
    (ho : o.op = .call { callee := .builtin .append, args := #[s, x], argTypes := #[t, t] })
    (base : Nat) (e : TypeId) (i : TypeInfo) (z : Value) (size bytes : Nat) (ht : P.underlying t = some (.slice e)) (hi : P.info? e = some i) (hz : i.zero = some z)
    (hsize : i.size = size) (hby : i.bytes = bytes) (hzs : z.cells.size = size) (hsz : 0 < size)
    (v : Value) (n : Nat) (xs : List Value) (hs : a.eval s = v) (hown : w.ownsRow base e size v n xs)
    (A : Option Addr) (m c : Nat) (news : List Value) (hx : a.eval x = .slice A m c) (hr : Src w size A m news) (h1 : ∀ u ∈ news, u.oneCell' = true)
    (h63 : n + m ≤ maxLen) (hbytes : (n + m) * bytes ≤ 140737488355328) (hbase : base ≤ w.heap.size)
    (h : ∀ v' w', w'.ownsRow base e size v' (n + m) (xs ++ news) → w.grownBy w' v.ownBlock → (v'.ownBlock = v.ownBlock ∨ v'.ownBlock = some w.heap.size) → K (a.put o.dst v') w') : o.wp P a w K Q := by
  obtain ⟨v', w', hrun, h2, h3, h4⟩ := run_app (P := P) w base t o.type e i z size bytes ht hi hz hsize hby hzs hsz v n xs hown A m c news hr h1 h63 hbytes hbase
  unfold Oper.wp execOp
  simp only [ho, resolve, invoke, builtin, Sem.run_bind, Sem.run_pure, Result.andThen_ok, List.map_toArray, List.map_cons, List.map_nil, hs, hx, hrun]
  exact h v' w' h2 h3 h4

theorem wpList_app {ops : Array Oper} {rest : List Oper} {o : Oper} {a : Act} {Q : Exit → Act → World → Prop} (hgd : o.guard = none) (s x : Operand) (t : TypeId)
    (ho : o.op = .call { callee := .builtin .append, args := #[s, x], argTypes := #[t, t] })
    (base : Nat) (e : TypeId) (i : TypeInfo) (z : Value) (size bytes : Nat) (ht : P.underlying t = some (.slice e)) (hi : P.info? e = some i) (hz : i.zero = some z)
    (hsize : i.size = size) (hby : i.bytes = bytes) (hzs : z.cells.size = size) (hsz : 0 < size)
    (v : Value) (n : Nat) (xs : List Value) (hs : a.eval s = v) (hown : w.ownsRow base e size v n xs)
    (A : Option Addr) (m c : Nat) (news : List Value) (hx : a.eval x = .slice A m c) (hr : Src w size A m news) (h1 : ∀ u ∈ news, u.oneCell' = true)
    (h63 : n + m ≤ maxLen) (hbytes : (n + m) * bytes ≤ 140737488355328) (hbase : base ≤ w.heap.size)
    (h : ∀ v' w', w'.ownsRow base e size v' (n + m) (xs ++ news) → w.grownBy w' v.ownBlock → (v'.ownBlock = v.ownBlock ∨ v'.ownBlock = some w.heap.size) → wpList P ops Q rest (a.put o.dst v') w') : wpList P ops Q (o :: rest) a w :=
  wpList_plain hgd fun _ hK => wp_app w s x t ho base e i z size bytes ht hi hz hsize hby hzs hsz v n xs hs hown A m c news hx hr h1 h63 hbytes hbase fun v' w' h2 h3 h4 => hK _ _ (h v' w' h2 h3 h4)
end

theorem one_ints (k : IntKind) (l : List Int) : ∀ u ∈ l.map (Value.int k), u.oneCell' = true := by
  intro u hu
  rw [List.mem_map] at hu
  obtain ⟨x, _, rfl⟩ := hu
  rfl

theorem one_int (k : IntKind) (x : Int) : ∀ u ∈ [Value.int k x], u.oneCell' = true := by
  intro u hu
  rw [List.mem_singleton] at hu
  rw [hu]; rfl
/-- The value v is a slice of the call's own that holds the integers l: its block is from base on. -/
def Own (k : IntKind) (e : TypeId) (w : World) (base : Nat) (v : Value) (l : List Int) : Prop := w.ownsRow base e 1 v l.length (l.map (Value.int k)) ∧ ∀ x ∈ l, (Lit.int k x).wf = true
theorem Own.of {k : IntKind} {e : TypeId} {w : World} {base n : Nat} {v : Value} {l : List Int} (h : w.ownsRow base e 1 v n (l.map (Value.int k))) (hw : ∀ x ∈ l, (Lit.int k x).wf = true) : Own k e w base v l := by
  have hn : l.length = n := by have := h.1; simpa using this
  subst hn
  exact ⟨h, hw⟩
theorem Own.nil (k : IntKind) (e : TypeId) (w : World) (base : Nat) : Own k e w base (.slice none 0 0) [] := ⟨World.ownsRow_nil _ _ _ _, by simp⟩
theorem Own.ints {k : IntKind} {e : TypeId} {w : World} {base : Nat} {v : Value} {l : List Int} (h : Own k e w base v l) :
    ∃ A c, v = .slice A l.length c ∧ l.length ≤ c ∧ Ints k w w.heap.size A l.length l ∧ (∀ b, v.ownBlock = some b → base ≤ b ∧ b < w.heap.size) := by
  obtain ⟨h, hw⟩ := h
  have hlt := h.lt
  have hcells := @World.ownsRow.cells _ _ _ _ _ _ _ h
  rcases h.2 with ⟨rfl, h0⟩ | ⟨g, cap, cur, rfl, hb, hg, hn, hm, hs, ht⟩
  · have : l = [] := List.eq_nil_of_length_eq_zero h0
    subst this
    exact ⟨none, 0, rfl, Nat.le_refl _, Ints.nil, hlt⟩
  · refine ⟨_, cap, rfl, hn, ⟨rfl, fun h0 => ⟨g, 0, rfl, (hlt g rfl).2, fun i hi => ?_⟩, hw⟩, hlt⟩
    have hh := hcells (g := g) rfl i (.int k (l.getD i 0)) (by rw [List.getElem?_map, List.getD_eq_getElem?_getD, List.getElem?_eq_getElem hi]; rfl)
    rwa [Go.WideShapes.add_plain] at hh

theorem Own.intsAt {k : IntKind} {e : TypeId} {w : World} {base n c : Nat} {A : Option Addr} {l : List Int} (h : Own k e w base (.slice A n c) l) : Ints k w w.heap.size A n l ∧ l.length = n := by
  obtain ⟨A', c', h1, _, h2, _⟩ := h.ints
  injection h1 with e1 e2 e3
  subst e1 e2
  exact ⟨h2, rfl⟩
theorem Own.block {k : IntKind} {e : TypeId} {w : World} {base b : Nat} {v : Value} {l : List Int} (h : Own k e w base v l) (hb : v.ownBlock = some b) : base ≤ b ∧ b < w.heap.size := h.1.lt b hb
theorem Own.kept {k : IntKind} {e : TypeId} {w w' : World} {base : Nat} {v : Value} {l : List Int} {row : Option Nat} (h : Own k e w base v l) (hg : w.grownBy w' row) (hr : v.ownBlock = none ∨ v.ownBlock ≠ row) : Own k e w' base v l := ⟨h.1.kept hg hr, h.2⟩
theorem Own.below {k : IntKind} {e : TypeId} {w w' : World} {base : Nat} {v : Value} {l : List Int} (h : Own k e w base v l) (hb : Below w.heap.size w w') : Own k e w' base v l :=
  h.kept (row := none) ⟨hb.os, hb.tape, hb.output, hb.size, fun j hj _ => hb.block j hj⟩ (by cases hv : v.ownBlock <;> simp)
theorem Own.alloc {k : IntKind} {e : TypeId} {w : World} {base : Nat} {v : Value} {l : List Int} (h : Own k e w base v l) (o : Obj) : Own k e (w.alloc o) base v l := h.below ((Below.refl _ _).alloc (Nat.le_refl _) o)
theorem Own.drewN {k : IntKind} {e : TypeId} {w : World} {base : Nat} {v : Value} {l : List Int} (h : Own k e w base v l) (m : Nat) : Own k e (w.drewN m) base v l := h
theorem Own.lower {k : IntKind} {e : TypeId} {w : World} {base base' : Nat} {v : Value} {l : List Int} (h : Own k e w base v l) (hb : base' ≤ base) : Own k e w base' v l := by
  obtain ⟨⟨h1, h2⟩, h3⟩ := h
  refine ⟨⟨h1, ?_⟩, h3⟩
  rcases h2 with h2 | ⟨g, cap, cur, hv, hg, r⟩
  · exact .inl h2
  · exact .inr ⟨g, cap, cur, hv, by omega, r⟩
/-- The cells of an own row: what the walk reads and where it may write. -/
theorem Own.row {k : IntKind} {e : TypeId} {w : World} {base : Nat} {v : Value} {l : List Int} (h : Own k e w base v l) (hn : 0 < l.length) :
    ∃ g c, v = .slice (some ⟨g, 0, none⟩) l.length c ∧ l.length ≤ c ∧ c ≤ maxLen ∧ base ≤ g ∧ g < w.heap.size ∧ (∀ i, i < l.length → w.cell? ⟨g, i, none⟩ = some (.int k (l.getD i 0))) ∧ (∀ i, w.frozen? ⟨g, i, none⟩ = false) := by
  obtain ⟨⟨h1, h2⟩, h3⟩ := h
  rcases h2 with ⟨_, h0⟩ | ⟨g, cap, cur, rfl, hb, hg, hn', hm, hs, ht⟩
  · omega
  · refine ⟨g, cap, rfl, hn', hm, hb, (Box.size hg), fun i hi => ?_, fun i => Box.frozen hg i⟩
    have h4 : (l.map (Value.int k))[i]? = some (.int k (l.getD i 0)) := by rw [List.getElem?_map, List.getD_eq_getElem?_getD, List.getElem?_eq_getElem hi]; rfl
    rw [Box.cell hg i, ← h4, ← ht, List.getElem?_take, if_pos (by omega)]
    simp
theorem Own.shape {k : IntKind} {e : TypeId} {w : World} {base : Nat} {v : Value} {l : List Int} (h : Own k e w base v l) : ∃ A c, v = .slice A l.length c ∧ l.length ≤ maxLen := by
  obtain ⟨⟨h1, h2⟩, h3⟩ := h
  rcases h2 with ⟨rfl, h0⟩ | ⟨g, cap, cur, rfl, hb, hg, hn', hm, hs, ht⟩
  · exact ⟨none, 0, by rw [h0], by rw [h0]; simp [maxLen]⟩
  · exact ⟨_, cap, rfl, by omega⟩
theorem Own.put {k : IntKind} {e : TypeId} {w : World} {base g c : Nat} {l : List Int} (h : Own k e w base (.slice (some ⟨g, 0, none⟩) l.length c) l) (i : Nat) (x : Int) (hx : (Lit.int k x).wf = true) :
    Own k e (w.setCell ⟨g, i, none⟩ (.int k x)) base (.slice (some ⟨g, 0, none⟩) l.length c) (l.set i x) := by
  refine ⟨?_, fun y hy => ?_⟩
  · rw [List.length_set, List.map_set]; exact (h.1.stored i _).1
  · rcases List.mem_or_eq_of_mem_set hy with h' | rfl
    · exact h.2 y h'
    · exact hx
/-- A row that is known cell by cell is the call's own slice. -/
theorem Own.of_row {k : IntKind} {e : TypeId} {w : World} {base g n : Nat} {l : List Int} (h : w.rowIs g e n (fun j => .int k (l.getD j 0))) (hl : l.length = n) (hm : n ≤ maxLen) (hb : base ≤ g) (hw : ∀ x ∈ l, (Lit.int k x).wf = true) :
    Own k e w base (.slice (some ⟨g, 0, none⟩) n n) l := by
  subst hl
  obtain ⟨cs, h1, h2, h3⟩ := h
  refine ⟨⟨by simp, .inr ⟨g, l.length, cs, rfl, hb, h1, Nat.le_refl _, hm, by rw [h2]; omega, ?_⟩⟩, hw⟩
  apply List.ext_getElem?
  intro j
  rw [List.getElem?_take, List.getElem?_map]
  by_cases hj : j < l.length
  · rw [if_pos (by omega)]
    have h4 : cs[j]? = some (Value.int k (l.getD j 0)) := h3 j hj
    rw [List.getD_eq_getElem?_getD, List.getElem?_eq_getElem hj] at h4
    rw [List.getElem?_eq_getElem hj]
    simpa using h4
  · rw [if_neg (by omega), List.getElem?_eq_none (by omega)]; rfl

theorem wpList_mk {P : Program} (w : World) {ops : Array Oper} {rest : List Oper} {o : Oper} {a : Act} {Q : Exit → Act → World → Prop}
    (hg : o.guard = none) (l c : Operand) (t : TypeId) (hop : o.op = Op.makeSlice t l c)
    (e : TypeId) (i : TypeInfo) (z : Value) (h1 : P.underlying t = some (.slice e)) (h2 : P.info? e = some i) (h3 : i.zero = some z) (hzc : z.cells = #[z]) (h4 : i.size = 1)
    (n : Nat) (hl : a.eval l = .int .i64 n) (hc : a.eval c = .int .i64 n) (b2 : i.bytes * n ≤ 281474976710656) (b3 : n ≤ maxLen)
    (hK : ∀ w', w'.rowIs w.heap.size e n (fun _ => z) → Below w.heap.size w w' → w.heap.size < w'.heap.size → wpList P ops Q rest (a.put o.dst (.slice (some ⟨w.heap.size, 0, none⟩) n n)) w') :
    wpList P ops Q (o :: rest) a w := by
  refine wpList_plain hg fun K hK' => ?_
  have hrun := run_make (P := P) w t e i z h1 h2 h3 .i64 .i64 n n (by omega) (Int.le_refl _) (by omega) (by simp only [maxLen] at b3; omega)
  simp only [Int.toNat_natCast, h4, Nat.mul_one, hzc] at hrun
  unfold Oper.wp
  simp [execOp, hop, hl, hc, hrun, Result.andThen]
  exact hK' _ _ (hK _ (World.rowIs_made w z n e) ((Below.refl _ _).alloc (Nat.le_refl _) _) (by simp))
end Go.Proofs.YtaabmaoldhoinaaGreat
namespace Go.Proofs.YtaabmaoldhoinaaGreat
open Go.ChangeShapes Go.WideShapes Go.ChangeAt Go.RowKit
/-- The marks k, k + 1, .. of n integers; of n bytes. -/
def marks (k : Int) (n : Nat) : List Int := (List.range n).map fun i : Nat => k + (i : Int)
end Go.Proofs.YtaabmaoldhoinaaGreat
namespace Go.Proofs.YtaabmaoldhoinaaGreat
open Go.ChangeShapes Go.WideShapes Go.ChangeAt Go.RowKit

theorem Own.apart {k k' : IntKind} {e e' : TypeId} {w w1 : World} {base base' : Nat} {v v' : Value} {l l' : List Int} (hx : Own k e w base v l) (hy : Own k' e' w1 base' v' l') (hle : w1.heap.size ≤ base) : v.ownBlock = none ∨ v.ownBlock ≠ v'.ownBlock := by
  cases hv : v.ownBlock with
  | none => exact .inl rfl
  | some b =>
    refine .inr fun h => ?_
    have h1 := (hx.block hv).1
    have h2 := (hy.block h.symm).2
    omega
theorem i64_rg {x : Int} (h : (Lit.int .i64 x).wf = true) : -9223372036854775808 ≤ x ∧ x ≤ 9223372036854775807 := by
  simp [Lit.wf] at h
  have e1 : IntKind.i64.min = -9223372036854775808 := by decide
  have e2 : IntKind.i64.max = 9223372036854775807 := by decide
  omega
theorem info_cb : (Tryz.prog.info? 5).map (fun i => (i.zero, i.size, i.bytes)) = some (some (.int .u8 0), 1, 1) := by kernel_rfl
theorem info_ci : (Tryz.prog.info? 3).map (fun i => (i.zero, i.size, i.bytes)) = some (some (.int .i64 0), 1, 8) := by kernel_rfl
end Go.Proofs.YtaabmaoldhoinaaGreat
namespace Go.Proofs.YtaabmaoldhoinaaGreat
set_option linter.unusedVariables false
open Go.RowKit

/-- w' is w with new blocks, and what is written of the old lies in the blocks F. -/
structure Only (F : List Nat) (w w' : World) : Prop where
  os : w'.os = w.os
  tape : w'.tape = w.tape
  output : w'.output = w.output
  size : w.heap.size ≤ w'.heap.size
  block : ∀ b, b < w.heap.size → b ∉ F → w'.heap[b]? = w.heap[b]?
section
variable {F G : List Nat} {a b c w w' : World} {B : Nat}
theorem Only.refl (F : List Nat) (w : World) : Only F w w := ⟨rfl, rfl, rfl, Nat.le_refl _, fun _ _ _ => rfl⟩
theorem Only.trans (h : Only F a b) (k : Only F b c) : Only F a c :=
  ⟨k.os.trans h.os, k.tape.trans h.tape, k.output.trans h.output, Nat.le_trans h.size k.size, fun i hi hn => (k.block i (Nat.lt_of_lt_of_le hi h.size) hn).trans (h.block i hi hn)⟩
theorem Only.mono (h : Only F a b) (hs : ∀ x ∈ F, x ∈ G) : Only G a b := ⟨h.os, h.tape, h.output, h.size, fun i hi hn => h.block i hi fun hx => hn (hs _ hx)⟩
theorem Only.drewN (h : Only F a w) (n : Nat) : Only F a (w.drewN n) := ⟨h.os, h.tape, h.output, h.size, h.block⟩
theorem Only.drew (h : Only F a w) : Only F a w.drew := ⟨h.os, h.tape, h.output, h.size, h.block⟩
theorem Only.alloc (h : Only F a w) (o : Obj) : Only F a (w.alloc o) :=
  ⟨h.os, h.tape, h.output, Nat.le_trans h.size (by simp), fun i hi hn => (Below.heap_alloc w o i (Nat.lt_of_lt_of_le hi h.size)).trans (h.block i hi hn)⟩
theorem Only.put (h : Only F a w) {p : Addr} (hp : p.block ∈ F ∨ a.heap.size ≤ p.block) (u : Value) : Only F a (w.setCell p u) :=
  ⟨h.os, h.tape, h.output, by simpa [World.setCell] using h.size, fun i hi hn => (Below.heap_setCell w p u i (by
    rintro rfl
    rcases hp with hp | hp
    · exact hn hp
    · omega)).trans (h.block i hi hn)⟩
theorem Only.below (h : Only F a w) (hF : ∀ f ∈ F, B ≤ f) (hB : B ≤ a.heap.size) : Below B a w :=
  ⟨h.os, h.tape, h.output, h.size, fun k hk => h.block k (by omega) fun hx => by have := hF k hx; omega⟩
theorem Only.nil (h : Only [] a w) : Below a.heap.size a w := h.below (fun f hf => absurd hf (by simp)) (Nat.le_refl _)
/-- Below a, then a write into what is newer than a. -/
theorem Only.since (h : Below a.heap.size a w) (k : Only F w w') (hF : ∀ f ∈ F, a.heap.size ≤ f) : Below a.heap.size a w' :=
  h.trans (k.below hF h.size)
end

/-- How a type's data lie in memory. 'R w B cs a': the cells cs read as a, all below block B. 'O w cs a F': they are a call's own; their blocks are F, not frozen. -/
structure Ty (α : Type) where
  k : Nat
  R : World → Nat → List Value → α → Prop
  O : World → List Value → α → List Nat → Prop
  lenR : ∀ {w B cs a}, R w B cs a → cs.length = k
  lenO : ∀ {w cs a F}, O w cs a F → cs.length = k
  keep : ∀ {w w' B cs a}, R w B cs a → (∀ b, b < B → w'.heap[b]? = w.heap[b]?) → R w' B cs a
  up : ∀ {w B B' cs a}, R w B cs a → B ≤ B' → R w B' cs a
  kept : ∀ {w w' cs a F}, O w cs a F → (∀ f ∈ F, w'.heap[f]? = w.heap[f]?) → O w' cs a F
  lt : ∀ {w cs a F}, O w cs a F → ∀ f ∈ F, f < w.heap.size
  read : ∀ {w cs a F}, O w cs a F → R w w.heap.size cs a
section
variable {α β : Type} {t : Ty α} {w w' : World} {B B' : Nat} {cs : List Value} {a : α} {F G : List Nat}
theorem Ty.reach (h : t.R w w.heap.size cs a) (hB : Below w.heap.size w w') : t.R w' w'.heap.size cs a := t.up (t.keep h hB.block) hB.size
theorem Ty.below (h : t.O w cs a F) (hB : Below w.heap.size w w') : t.O w' cs a F := t.kept h fun f hf => hB.block f (t.lt h f hf)
theorem Ty.only (h : t.O w cs a F) (hG : Only G w w') (hd : ∀ f ∈ F, f ∉ G) : t.O w' cs a F := t.kept h fun f hf => hG.block f (t.lt h f hf) (hd f hf)
/-- All of F is new since the world of B blocks, none twice. -/
def New (B : Nat) (F : List Nat) : Prop := F.Nodup ∧ ∀ f ∈ F, B ≤ f
theorem New.nil (B : Nat) : New B [] := ⟨List.nodup_nil, fun f hf => absurd hf (by simp)⟩
theorem New.lower (h : New B F) (hB : B' ≤ B) : New B' F := ⟨h.1, fun f hf => Nat.le_trans hB (h.2 f hf)⟩
theorem New.app (h : New B F) (k : New B' G) (hB : B ≤ B') (hF : ∀ f ∈ F, f < B') : New B (F ++ G) := by
  refine ⟨List.nodup_append.2 ⟨h.1, k.1, fun x hx y hy e => ?_⟩, fun f hf => ?_⟩
  · have h1 := hF x hx; have h2 := k.2 y hy; omega
  · rcases List.mem_append.1 hf with h' | h'
    · exact h.2 f h'
    · exact Nat.le_trans hB (k.2 f h')
theorem New.apart (h : New B F) (hG : ∀ f ∈ G, f < B) : ∀ f ∈ F, f ∉ G := fun f hf hx => by have := h.2 f hf; have := hG f hx; omega
end

/-! ### numbers -/
def tInt : Ty Int where
  k := 1
  R := fun _ _ cs x => cs = [.int .i64 x] ∧ (Lit.int .i64 x).wf = true
  O := fun _ cs x F => cs = [.int .i64 x] ∧ (Lit.int .i64 x).wf = true ∧ F = []
  lenR := fun h => by rw [h.1]; rfl
  lenO := fun h => by rw [h.1]; rfl
  keep := fun h _ => h
  up := fun h _ => h
  kept := fun h _ => h
  lt := fun h f hf => by rw [h.2.2] at hf; exact absurd hf (by simp)
  read := fun h => ⟨h.1, h.2.1⟩

/-! ### slices of numbers -/
def sliceR (K : IntKind) (w : World) (B : Nat) (cs : List Value) (l : List Int) : Prop := ∃ A n c, cs = [.slice A n c] ∧ n ≤ c ∧ c ≤ 9223372036854775807 ∧ Ints K w B A n l
def sliceO (K : IntKind) (w : World) (cs : List Value) (l : List Int) (F : List Nat) : Prop :=
  (∃ A c, cs = [.slice A 0 c] ∧ c ≤ 9223372036854775807 ∧ l = [] ∧ F = []) ∨
  ∃ g off c cur t, cs = [.slice (some ⟨g, off, none⟩) l.length c] ∧ 0 < l.length ∧ l.length ≤ c ∧ c ≤ 9223372036854775807 ∧ w.heap[g]? = some (.cells cur t (0, 0)) ∧ (∀ i, i < l.length → cur[off + i]? = some (.int K (l.getD i 0))) ∧ (∀ x ∈ l, (Lit.int K x).wf = true) ∧ F = [g]
theorem sliceO.read {K : IntKind} {w : World} {cs : List Value} {l : List Int} {F : List Nat} (h : sliceO K w cs l F) : sliceR K w w.heap.size cs l := by
  rcases h with ⟨A, c, h1, h2, rfl, _⟩ | ⟨g, off, c, cur, t, h1, h2, h3, h4, h5, h6, h7, _⟩
  · exact ⟨A, 0, c, h1, Nat.zero_le _, h2, Ints.nil⟩
  · refine ⟨_, _, c, h1, h3, h4, rfl, fun _ => ⟨g, off, rfl, Box.size (t := t) h5, fun i hi => ?_⟩, h7⟩
    rw [Box.cell (t := t) h5]; exact h6 i hi
def tSl (K : IntKind) : Ty (List Int) where
  k := 1
  R := sliceR K
  O := sliceO K
  lenR := fun h => by obtain ⟨A, n, c, h1, _⟩ := h; rw [h1]; rfl
  lenO := fun h => by rcases h with ⟨A, c, h1, _⟩ | ⟨g, off, c, cur, t, h1, _⟩ <;> rw [h1] <;> rfl
  keep := fun h hk => by obtain ⟨A, n, c, h1, h2, h3, h4⟩ := h; exact ⟨A, n, c, h1, h2, h3, h4.keep hk⟩
  up := fun h hB => by obtain ⟨A, n, c, h1, h2, h3, h4⟩ := h; exact ⟨A, n, c, h1, h2, h3, h4.up hB⟩
  kept := fun h hk => by
    rcases h with h | ⟨g, off, c, cur, t, h1, h2, h3, h4, h5, h6, h7, rfl⟩
    · exact .inl h
    · exact .inr ⟨g, off, c, cur, t, h1, h2, h3, h4, (hk g (by simp)).trans h5, h6, h7, rfl⟩
  lt := fun h f hf => by
    rcases h with ⟨A, c, _, _, _, rfl⟩ | ⟨g, off, c, cur, t, h1, h2, h3, h4, h5, h6, h7, rfl⟩
    · exact absurd hf (by simp)
    · rw [List.mem_singleton] at hf; rw [hf]; exact Box.size (t := t) h5
  read := sliceO.read
abbrev tBy : Ty (List Int) := tSl .u8
abbrev tIs : Ty (List Int) := tSl .i64
/-- An own slice in the words of the earlier texts. -/
theorem Own.tSl {K : IntKind} {e : TypeId} {w : World} {base : Nat} {v : Value} {l : List Int} (h : Own K e w base v l) : ∃ F, (tSl K).O w [v] l F ∧ New base F := by
  rcases h.1.2 with ⟨rfl, h0⟩ | ⟨g, cap, cur, rfl, hb, hg, hn, hm, hs, ht⟩
  · have : l = [] := List.eq_nil_of_length_eq_zero h0
    subst this
    exact ⟨[], .inl ⟨none, 0, rfl, by omega, rfl, rfl⟩, New.nil _⟩
  · by_cases h0 : l.length = 0
    · have : l = [] := List.eq_nil_of_length_eq_zero h0
      subst this
      exact ⟨[], .inl ⟨_, cap, rfl, hm, rfl, rfl⟩, New.nil _⟩
    · refine ⟨[g], .inr ⟨g, 0, cap, cur, e, rfl, by omega, hn, hm, hg, fun i hi => ?_, h.2, rfl⟩, ⟨by simp, fun f hf => by rw [List.mem_singleton] at hf; omega⟩⟩
      have h4 : (l.map (Value.int K))[i]? = some (.int K (l.getD i 0)) := by rw [List.getElem?_map, List.getD_eq_getElem?_getD, List.getElem?_eq_getElem hi]; rfl
      rw [← h4, ← ht, List.getElem?_take, if_pos (by omega), Nat.zero_add]
      simp
/-! ### structs -/
def Ty.prod {α β : Type} (s : Ty α) (t : Ty β) : Ty (α × β) where
  k := s.k + t.k
  R := fun w B cs p => ∃ c1 c2, cs = c1 ++ c2 ∧ s.R w B c1 p.1 ∧ t.R w B c2 p.2
  O := fun w cs p F => ∃ c1 c2 F1 F2, cs = c1 ++ c2 ∧ F = F1 ++ F2 ∧ s.O w c1 p.1 F1 ∧ t.O w c2 p.2 F2
  lenR := fun h => by obtain ⟨c1, c2, rfl, h1, h2⟩ := h; rw [List.length_append, s.lenR h1, t.lenR h2]
  lenO := fun h => by obtain ⟨c1, c2, F1, F2, rfl, rfl, h1, h2⟩ := h; rw [List.length_append, s.lenO h1, t.lenO h2]
  keep := fun h hk => by obtain ⟨c1, c2, rfl, h1, h2⟩ := h; exact ⟨c1, c2, rfl, s.keep h1 hk, t.keep h2 hk⟩
  up := fun h hB => by obtain ⟨c1, c2, rfl, h1, h2⟩ := h; exact ⟨c1, c2, rfl, s.up h1 hB, t.up h2 hB⟩
  kept := fun h hk => by
    obtain ⟨c1, c2, F1, F2, rfl, rfl, h1, h2⟩ := h
    exact ⟨c1, c2, F1, F2, rfl, rfl, s.kept h1 fun f hf => hk f (List.mem_append.2 (.inl hf)), t.kept h2 fun f hf => hk f (List.mem_append.2 (.inr hf))⟩
  lt := fun h f hf => by
    obtain ⟨c1, c2, F1, F2, rfl, rfl, h1, h2⟩ := h
    rcases List.mem_append.1 hf with h' | h'
    · exact s.lt h1 f h'
    · exact t.lt h2 f h'
  read := fun h => by obtain ⟨c1, c2, F1, F2, rfl, rfl, h1, h2⟩ := h; exact ⟨c1, c2, rfl, s.read h1, t.read h2⟩

/-! ### slices of structs -/
def Ty.rowR {α : Type} (t : Ty α) (w : World) (B : Nat) (cs : List Value) (l : List α) : Prop :=
  ∃ A n c, cs = [.slice A n c] ∧ n ≤ c ∧ c ≤ 9223372036854775807 ∧ l.length = n ∧ (0 < n → ∃ b off, A = some ⟨b, off, none⟩ ∧ b < B ∧
    ∀ i a, l[i]? = some a → ∃ es, (∀ j, j < t.k → w.cell? ⟨b, off + i * t.k + j, none⟩ = es[j]?) ∧ t.R w B es a)
def Ty.rowO {α : Type} (t : Ty α) (w : World) (cs : List Value) (l : List α) (F : List Nat) : Prop :=
  (∃ A c, cs = [.slice A 0 c] ∧ c ≤ 9223372036854775807 ∧ l = [] ∧ F = []) ∨
  ∃ (g off c : Nat) (cur : Array Value) (e : TypeId) (Fs : List (List Nat)), cs = [.slice (some ⟨g, off, none⟩) l.length c] ∧ 0 < l.length ∧ l.length ≤ c ∧ c ≤ 9223372036854775807 ∧ w.heap[g]? = some (.cells cur e (0, 0)) ∧ Fs.length = l.length ∧ F = g :: Fs.flatten ∧
    ∀ i a Fi, l[i]? = some a → Fs[i]? = some Fi → ∃ es, (∀ j, j < t.k → cur[off + i * t.k + j]? = es[j]?) ∧ t.O w es a Fi
theorem mem_flat {Fs : List (List Nat)} {i : Nat} {Fi : List Nat} (h : Fs[i]? = some Fi) {f : Nat} (hf : f ∈ Fi) : f ∈ Fs.flatten :=
  List.mem_flatten.2 ⟨Fi, List.mem_of_getElem? h, hf⟩
theorem Ty.rowO_read {α : Type} {t : Ty α} {w : World} {cs : List Value} {l : List α} {F : List Nat} (h : t.rowO w cs l F) : t.rowR w w.heap.size cs l := by
  rcases h with ⟨A, c, h1, h2, rfl, _⟩ | ⟨g, off, c, cur, e, Fs, h1, h2, h3, h4, h5, h6, h7, h8⟩
  · exact ⟨A, 0, c, h1, Nat.zero_le _, h2, rfl, fun h => absurd h (by omega)⟩
  · refine ⟨_, _, c, h1, h3, h4, rfl, fun _ => ⟨g, off, rfl, Box.size (t := e) h5, fun i a hi => ?_⟩⟩
    have hl : i < Fs.length := by rw [h6]; exact (List.getElem?_eq_some_iff.1 hi).1
    obtain ⟨es, k1, k2⟩ := h8 i a _ hi (List.getElem?_eq_getElem hl)
    exact ⟨es, fun j hj => by rw [Box.cell (t := e) h5]; exact k1 j hj, t.read k2⟩
def Ty.row {α : Type} (t : Ty α) : Ty (List α) where
  k := 1
  R := t.rowR
  O := t.rowO
  lenR := fun h => by obtain ⟨A, n, c, h1, _⟩ := h; rw [h1]; rfl
  lenO := fun h => by rcases h with ⟨A, c, h1, _⟩ | ⟨g, off, c, cur, e, Fs, h1, _⟩ <;> rw [h1] <;> rfl
  keep := fun h hk => by
    obtain ⟨A, n, c, h1, h2, h3, h4, h5⟩ := h
    refine ⟨A, n, c, h1, h2, h3, h4, fun h0 => ?_⟩
    obtain ⟨b, off, e, hb, hc⟩ := h5 h0
    refine ⟨b, off, e, hb, fun i a hi => ?_⟩
    obtain ⟨es, k1, k2⟩ := hc i a hi
    exact ⟨es, fun j hj => (World.cell?_of_block (hk _ hb)).trans (k1 j hj), t.keep k2 hk⟩
  up := fun h hB => by
    obtain ⟨A, n, c, h1, h2, h3, h4, h5⟩ := h
    refine ⟨A, n, c, h1, h2, h3, h4, fun h0 => ?_⟩
    obtain ⟨b, off, e, hb, hc⟩ := h5 h0
    refine ⟨b, off, e, Nat.lt_of_lt_of_le hb hB, fun i a hi => ?_⟩
    obtain ⟨es, k1, k2⟩ := hc i a hi
    exact ⟨es, k1, t.up k2 hB⟩
  kept := fun h hk => by
    rcases h with h | ⟨g, off, c, cur, e, Fs, h1, h2, h3, h4, h5, h6, rfl, h8⟩
    · exact .inl h
    · refine .inr ⟨g, off, c, cur, e, Fs, h1, h2, h3, h4, (hk g (by simp)).trans h5, h6, rfl, fun i a Fi hi hF => ?_⟩
      obtain ⟨es, k1, k2⟩ := h8 i a Fi hi hF
      exact ⟨es, k1, t.kept k2 fun f hf => hk f (List.mem_cons_of_mem _ (mem_flat hF hf))⟩
  lt := fun h f hf => by
    rcases h with ⟨A, c, _, _, _, rfl⟩ | ⟨g, off, c, cur, e, Fs, h1, h2, h3, h4, h5, h6, rfl, h8⟩
    · exact absurd hf (by simp)
    · rcases List.mem_cons.1 hf with rfl | hf
      · exact Box.size (t := e) h5
      · obtain ⟨Fi, hFi, hfi⟩ := List.mem_flatten.1 hf
        obtain ⟨i, hi, e1⟩ := List.getElem_of_mem hFi
        have hi' : i < _ := h6 ▸ hi
        obtain ⟨es, _, k2⟩ := h8 i _ Fi (List.getElem?_eq_getElem hi') (by rw [List.getElem?_eq_getElem hi, e1])
        exact t.lt k2 f hfi
  read := Ty.rowO_read
end Go.Proofs.YtaabmaoldhoinaaGreat
namespace Go.Proofs.YtaabmaoldhoinaaGreat
set_option linter.unusedVariables false
section
variable {α : Type}
/-- The sum of c over l. -/
def rsum (c : α → Nat) : List α → Nat
  | [] => 0
  | a :: l => c a + rsum c l
/-- The size of a row: one an element, and what they count. -/
def rsz (s : α → Nat) (l : List α) : Nat := l.length + rsum s l
variable {c s : α → Nat} {m : Int → α → α} {k : Int} {l l' : List α} {i : Nat} {a : α}
theorem rsum_app : rsum c (l ++ l') = rsum c l + rsum c l' := by
  induction l with
  | nil => simp [rsum]
  | cons b l ih => simp only [List.cons_append, rsum, ih]; omega
theorem rsum_take_le (c : α → Nat) (l : List α) (i : Nat) : rsum c (l.take i) ≤ rsum c l := by
  have h := rsum_app (c := c) (l := l.take i) (l' := l.drop i)
  rw [List.take_append_drop] at h; omega
theorem take_sn (h : l[i]? = some a) : l.take (i + 1) = l.take i ++ [a] := by
  rw [List.take_add_one, h]; rfl
theorem rsum_sn (h : l[i]? = some a) : rsum c (l.take (i + 1)) = rsum c (l.take i) + c a := by
  rw [take_sn h, rsum_app]; simp [rsum]
theorem rsum_at (h : l[i]? = some a) : rsum c (l.take i) + c a ≤ rsum c l := by
  rw [← rsum_sn h]; exact rsum_take_le _ _ _
theorem rsz_le (l : List α) : l.length ≤ rsz s l := by unfold rsz; omega
/-- The size of the first i elements, the rest's count of one each not yet. -/
theorem rsz_step (h : l[i]? = some a) : l.length + rsum s (l.take i) + s a ≤ rsz s l := by
  have := rsum_at (c := s) h; unfold rsz; omega
end
end Go.Proofs.YtaabmaoldhoinaaGreat
namespace Go.Proofs.YtaabmaoldhoinaaGreat
set_option linter.unusedVariables false
open Go.RowKit
section
variable {α : Type} {t : Ty α} {w w' : World} {B n c i K : Nat} {A : Option Addr} {v : Value} {l : List α} {a a' : α} {F Fi G : List Nat} {es es' : List Value}

theorem rowR_len (h : t.rowR w B [.slice A n c] l) : l.length = n ∧ n ≤ c ∧ c ≤ 9223372036854775807 := by
  obtain ⟨A', n', c', h1, h2, h3, h4, _⟩ := h
  injection h1 with h1 _
  injection h1 with e1 e2 e3
  subst e1 e2 e3
  exact ⟨h4, h2, h3⟩
theorem rowR_at (h : t.rowR w B [.slice A n c] l) (hi : i < n) (hK : t.k = K) : ∃ a b off es, l[i]? = some a ∧ A = some ⟨b, off, none⟩ ∧ b < B ∧ (∀ j, j < K → w.cell? ⟨b, off + i * K + j, none⟩ = es[j]?) ∧ t.R w B es a := by
  obtain ⟨A', n', c', h1, h2, h3, h4, h5⟩ := h
  injection h1 with h1 _
  injection h1 with e1 e2 e3
  subst e1 e2 e3 hK
  obtain ⟨b, off, e, hb, hc⟩ := h5 (by omega)
  have hl : l[i]? = some (l[i]'(by omega)) := List.getElem?_eq_getElem (by omega)
  obtain ⟨es, k1, k2⟩ := hc i _ hl
  exact ⟨_, b, off, es, hl, e, hb, k1, k2⟩
/-- The i-th part of a list of blocks is apart from the others and from g. -/
theorem flat_apart {g : Nat} {Fs : List (List Nat)} (h : (g :: Fs.flatten).Nodup) {i j : Nat} {Fi Fj : List Nat} (hi : Fs[i]? = some Fi) (hj : Fs[j]? = some Fj) (hne : i ≠ j) : ∀ f ∈ Fi, f ∉ Fj := by
  induction Fs generalizing i j with
  | nil => simp at hi
  | cons F0 Fs ih =>
    simp only [List.flatten_cons] at h
    rw [List.nodup_cons] at h
    obtain ⟨h0, h1⟩ := h
    rw [List.nodup_append] at h1
    obtain ⟨h1, h2, h3⟩ := h1
    have h4 : (g :: Fs.flatten).Nodup := List.nodup_cons.2 ⟨fun hx => h0 (List.mem_append.2 (.inr hx)), h2⟩
    intro f hf hg
    cases i with
    | zero =>
      cases j with
      | zero => exact hne rfl
      | succ j =>
        simp at hi hj; subst hi
        exact h3 f hf f (mem_flat hj hg) rfl
    | succ i =>
      cases j with
      | zero =>
        simp at hi hj; subst hj
        exact h3 f hg f (mem_flat hi hf) rfl
      | succ j =>
        simp at hi hj
        exact ih h4 hi hj (fun e => hne (by rw [e])) f hf hg
/-- One element of an own row: its cells; its blocks; and what puts it back, changed. -/
theorem rowO_at (h : t.rowO w [.slice A n c] l F) (hF : F.Nodup) (hl : l[i]? = some a) (hK : t.k = K) :
    ∃ g off cur e es Fi, A = some ⟨g, off, none⟩ ∧ w.heap[g]? = some (.cells cur e (0, 0)) ∧ (∀ j, j < K → cur[off + i * K + j]? = es[j]?) ∧ t.O w es a Fi ∧ g ∈ F ∧ g ∉ Fi ∧ (∀ f ∈ Fi, f ∈ F) ∧ Fi.Nodup ∧
      ∀ w' cur' es' a', w'.heap[g]? = some (.cells cur' e (0, 0)) → (∀ j, j < K → cur'[off + i * K + j]? = es'[j]?) → (∀ q, (∀ j, j < K → q ≠ off + i * K + j) → cur'[q]? = cur[q]?) →
        t.O w' es' a' Fi → (∀ f ∈ F, f ≠ g → f ∉ Fi → w'.heap[f]? = w.heap[f]?) → t.rowO w' [.slice A n c] (l.set i a') F := by
  subst hK
  have hi : i < l.length := (List.getElem?_eq_some_iff.1 hl).1
  rcases h with ⟨A', c', h1, h2, rfl, _⟩ | ⟨g, off, c', cur, e, Fs, h1, h2, h3, h4, h5, h6, rfl, h8⟩
  · simp at hl
  · injection h1 with h1 _
    injection h1 with e1 e2 e3
    subst e1 e2 e3
    have hl' : i < Fs.length := by omega
    have hFi : Fs[i]? = some (Fs[i]'hl') := List.getElem?_eq_getElem hl'
    obtain ⟨es, k1, k2⟩ := h8 i a _ hl hFi
    have hgF : g ∉ Fs.flatten := (List.nodup_cons.1 hF).1
    have hnd : (Fs[i]'hl').Nodup := (List.pairwise_flatten.1 (List.nodup_cons.1 hF).2).1 _ (List.getElem_mem _)
    refine ⟨g, off, cur, e, es, Fs[i]'hl', rfl, h5, k1, k2, List.mem_cons_self, fun hx => hgF (mem_flat hFi hx), fun f hf => List.mem_cons_of_mem _ (mem_flat hFi hf), hnd, ?_⟩
    intro w' cur' es' a' m1 m2 m3 m4 m5
    refine .inr ⟨g, off, c, cur', e, Fs, by rw [List.length_set], by rw [List.length_set]; omega, by rw [List.length_set]; omega, h4, m1, by rw [List.length_set]; omega, rfl, ?_⟩
    intro i' a2 Fi2 q1 q2
    by_cases hii : i' = i
    · subst hii
      rw [List.getElem?_set_self (by omega)] at q1
      injection q1 with q1
      subst q1
      rw [hFi] at q2
      injection q2 with q2
      subst q2
      exact ⟨es', m2, m4⟩
    · rw [List.getElem?_set_ne (fun e => hii e.symm)] at q1
      obtain ⟨es2, p1, p2⟩ := h8 i' a2 Fi2 q1 q2
      refine ⟨es2, fun j hj => ?_, t.kept p2 fun f hf => ?_⟩
      · rw [m3 _ fun j' hj' => ?_]
        · exact p1 j hj
        · intro hq
          have : i' * t.k + j = i * t.k + j' := by omega
          rcases Nat.lt_or_gt_of_ne hii with hlt | hlt
          · have : (i' + 1) * t.k ≤ i * t.k := Nat.mul_le_mul_right _ hlt
            rw [Nat.succ_mul] at this; omega
          · have : (i + 1) * t.k ≤ i' * t.k := Nat.mul_le_mul_right _ hlt
            rw [Nat.succ_mul] at this; omega
      · exact m5 f (List.mem_cons_of_mem _ (mem_flat q2 hf)) (fun e => hgF (e ▸ mem_flat q2 hf)) (flat_apart hF q2 hFi hii f hf)
end
/-! ### cells written one behind the other -/
def puts (w : World) (g off : Nat) : List Value → World
  | [] => w
  | v :: vs => puts (w.setCell ⟨g, off, none⟩ v) g (off + 1) vs
theorem puts_far {w : World} {g off b : Nat} {vs : List Value} (h : b ≠ g) : (puts w g off vs).heap[b]? = w.heap[b]? := by
  induction vs generalizing w off with
  | nil => rfl
  | cons v vs ih => exact ih.trans (Below.heap_setCell w ⟨g, off, none⟩ v b h)
theorem puts_heap {w : World} {g off : Nat} {vs : List Value} {cur : Array Value} {e : TypeId} (h : w.heap[g]? = some (.cells cur e (0, 0))) :
    ∃ cur', (puts w g off vs).heap[g]? = some (.cells cur' e (0, 0)) ∧ cur'.size = cur.size ∧ (∀ q, q < off ∨ off + vs.length ≤ q → cur'[q]? = cur[q]?) ∧ (∀ j, j < vs.length → off + j < cur.size → cur'[off + j]? = vs[j]?) := by
  induction vs generalizing w off cur with
  | nil => exact ⟨cur, h, rfl, fun _ _ => rfl, fun j hj => absurd hj (by simp)⟩
  | cons v vs ih =>
    obtain ⟨cur', h1, h2, h3, h4⟩ := ih (off := off + 1) (Box.put (t := e) h off v)
    refine ⟨cur', h1, by rw [h2]; simp, fun q hq => ?_, fun j hj hs => ?_⟩
    · simp only [List.length_cons] at hq
      rw [h3 q (by omega), Array.getElem?_setIfInBounds, if_neg (by omega)]
    · simp only [List.length_cons] at hj
      cases j with
      | zero =>
        rw [h3 _ (by omega), Array.getElem?_setIfInBounds, if_pos (by omega), if_pos (by omega)]; rfl
      | succ j =>
        have := h4 j (by omega) (by simp; omega)
        rw [show off + (j + 1) = off + 1 + j by omega, this]; rfl
theorem below_puts {B : Nat} {a w : World} {g off : Nat} {vs : List Value} (h : Below B a w) (hg : B ≤ g) : Below B a (puts w g off vs) := by
  induction vs generalizing w off with
  | nil => exact h
  | cons v vs ih => exact ih (h.setCell hg v)
section
variable {α : Type}
/-- Block g has room for n things; the first ones are l, a call's own. -/
def Fill (t : Ty α) (w : World) (g : Nat) (e : TypeId) (n : Nat) (l : List α) (F : List Nat) : Prop :=
  ∃ (cur : Array Value) (Fs : List (List Nat)), w.heap[g]? = some (.cells cur e (0, 0)) ∧ cur.size = n * t.k ∧ l.length ≤ n ∧ Fs.length = l.length ∧ F = Fs.flatten ∧
    ∀ i a Fi, l[i]? = some a → Fs[i]? = some Fi → ∃ es, (∀ j, j < t.k → cur[i * t.k + j]? = es[j]?) ∧ t.O w es a Fi
variable {t : Ty α} {w w' : World} {g n : Nat} {e : TypeId} {l : List α} {F Fa : List Nat} {a : α} {es : List Value}
theorem Fill.start {cur : Array Value} (h : w.heap[g]? = some (.cells cur e (0, 0))) (hs : cur.size = n * t.k) : Fill t w g e n [] [] :=
  ⟨cur, [], h, hs, Nat.zero_le _, rfl, rfl, fun i a Fi hi => by simp at hi⟩
theorem Fill.cell (h : Fill t w g e n l F) (hl : l.length < n) {j K : Nat} (hK : t.k = K) (hj : j < K) : ∃ u, w.cell? ⟨g, l.length * K + j, none⟩ = some u := by
  subst hK
  obtain ⟨cur, Fs, h1, h2, _⟩ := h
  have : (l.length + 1) * t.k ≤ n * t.k := Nat.mul_le_mul_right _ hl
  rw [Nat.succ_mul] at this
  rw [Box.cell (t := e) h1, Array.getElem?_eq_getElem (by omega)]
  exact ⟨_, rfl⟩
theorem Fill.frozen (h : Fill t w g e n l F) (q : Nat) : w.frozen? ⟨g, q, none⟩ = false := by
  obtain ⟨cur, Fs, h1, _⟩ := h
  exact Box.frozen (t := e) h1 q
theorem Fill.keep (h : Fill t w g e n l F) (hg : w'.heap[g]? = w.heap[g]?) (hF : ∀ f ∈ F, w'.heap[f]? = w.heap[f]?) : Fill t w' g e n l F := by
  obtain ⟨cur, Fs, h1, h2, h3, h4, rfl, h6⟩ := h
  refine ⟨cur, Fs, hg.trans h1, h2, h3, h4, rfl, fun i a Fi hi hf => ?_⟩
  obtain ⟨es, k1, k2⟩ := h6 i a Fi hi hf
  exact ⟨es, k1, t.kept k2 fun f hff => hF f (mem_flat hf hff)⟩
theorem Fill.size (h : Fill t w g e n l F) : g < w.heap.size := by
  obtain ⟨cur, Fs, h1, _⟩ := h
  exact Box.size (t := e) h1
theorem Fill.lt (h : Fill t w g e n l F) : ∀ f ∈ F, f < w.heap.size := by
  obtain ⟨cur, Fs, h1, h2, h3, h4, rfl, h6⟩ := h
  intro f hf
  obtain ⟨Fi, hFi, hfi⟩ := List.mem_flatten.1 hf
  obtain ⟨i, hi, e1⟩ := List.getElem_of_mem hFi
  have hi' : i < l.length := h4 ▸ hi
  obtain ⟨es, _, k2⟩ := h6 i _ Fi (List.getElem?_eq_getElem hi') (by rw [List.getElem?_eq_getElem hi, e1])
  exact t.lt k2 f hfi
theorem Fill.below (h : Fill t w g e n l F) (hB : Below w.heap.size w w') : Fill t w' g e n l F := h.keep (hB.block g h.size) fun f hf => hB.block f (h.lt f hf)
theorem Fill.push (h : Fill t w g e n l F) (hl : l.length < n) (hO : t.O w es a Fa) (hg : g ∉ F) (hga : g ∉ Fa) {K : Nat} (hK : t.k = K) : Fill t (puts w g (l.length * K) es) g e n (l ++ [a]) (F ++ Fa) := by
  subst hK
  obtain ⟨cur, Fs, h1, h2, h3, h4, rfl, h6⟩ := h
  obtain ⟨cur', k1, k2, k3, k4⟩ := puts_heap (off := l.length * t.k) (vs := es) h1
  have hes := t.lenO hO
  have hn : (l.length + 1) * t.k ≤ n * t.k := Nat.mul_le_mul_right _ hl
  rw [Nat.succ_mul] at hn
  refine ⟨cur', Fs ++ [Fa], k1, k2.trans h2, by simp; omega, by simp [h4], by simp, fun i b Fi hi hf => ?_⟩
  by_cases hii : i < l.length
  · rw [List.getElem?_append_left hii] at hi
    rw [List.getElem?_append_left (by omega)] at hf
    obtain ⟨es2, m1, m2⟩ := h6 i b Fi hi hf
    have : (i + 1) * t.k ≤ l.length * t.k := Nat.mul_le_mul_right _ hii
    rw [Nat.succ_mul] at this
    exact ⟨es2, fun j hj => by rw [k3 _ (by omega)]; exact m1 j hj, t.kept m2 fun f hff => puts_far fun e => hg (e ▸ mem_flat hf hff)⟩
  · rw [List.getElem?_append_right (by omega)] at hi
    rw [List.getElem?_append_right (by omega)] at hf
    have hi0 : i - l.length = 0 := by
      have := (List.getElem?_eq_some_iff.1 hi).1
      simp at this; omega
    rw [hi0] at hi
    rw [h4, hi0] at hf
    simp at hi hf
    subst hi hf
    obtain rfl : i = l.length := by omega
    exact ⟨es, fun j hj => k4 j (by omega) (by omega), t.kept hO fun f hff => puts_far fun e => hga (e ▸ hff)⟩
theorem Fill.done (h : Fill t w g e n l F) (hl : l.length = n) (hm : n ≤ 9223372036854775807) : ∃ F', t.rowO w [.slice (some ⟨g, 0, none⟩) l.length n] l F' ∧ (F' = [] ∨ F' = g :: F) := by
  obtain ⟨cur, Fs, h1, h2, h3, h4, rfl, h6⟩ := h
  by_cases h0 : 0 < l.length
  · exact ⟨g :: Fs.flatten, .inr ⟨g, 0, n, cur, e, Fs, rfl, h0, by omega, hm, h1, h4, rfl, fun i a Fi hi hf => by simpa using h6 i a Fi hi hf⟩, .inr rfl⟩
  · have : l = [] := List.eq_nil_of_length_eq_zero (by omega)
    subst this
    exact ⟨[], .inl ⟨_, n, rfl, hm, rfl, rfl⟩, .inl rfl⟩
theorem New.cons {B : Nat} {F F' : List Nat} (h : New (B + 1) F) (h' : F' = [] ∨ F' = B :: F) : New B F' := by
  rcases h' with rfl | rfl
  · exact New.nil _
  · exact ⟨List.nodup_cons.2 ⟨fun hx => by have := h.2 _ hx; omega, h.1⟩, fun f hf => by rcases List.mem_cons.1 hf with rfl | hf; exact Nat.le_refl _; have := h.2 _ hf; omega⟩
theorem New.not {B g : Nat} {F : List Nat} (h : New B F) (hg : g < B) : g ∉ F := fun hx => by have := h.2 _ hx; omega
theorem New.sub {B : Nat} {F G : List Nat} (h : New B F) (hs : ∀ f ∈ G, f ∈ F) (hn : G.Nodup) : New B G := ⟨hn, fun f hf => h.2 f (hs f hf)⟩
end
theorem wpList_mkS {P : Program} (w : World) {ops : Array Oper} {rest : List Oper} {o : Oper} {a : Act} {Q : Exit → Act → World → Prop}
    (hg : o.guard = none) (l c : Operand) (t : TypeId) (hop : o.op = Op.makeSlice t l c)
    (e : TypeId) (i : TypeInfo) (z : Value) (K : Nat) (h1 : P.underlying t = some (.slice e)) (h2 : P.info? e = some i) (h3 : i.zero = some z) (h4 : i.size = K)
    (n : Nat) (hl : a.eval l = .int .i64 n) (hc : a.eval c = .int .i64 n) (b2 : i.bytes * n ≤ 281474976710656) (b3 : n ≤ maxLen)
    (hK : ∀ w' cur, w'.heap[w.heap.size]? = some (.cells cur e (0, 0)) → cur.size = n * K → Below w.heap.size w w' → w.heap.size < w'.heap.size → wpList P ops Q rest (a.put o.dst (.slice (some ⟨w.heap.size, 0, none⟩) n n)) w') :
    wpList P ops Q (o :: rest) a w := by
  refine wpList_plain hg fun K' hK' => ?_
  have hrun := run_make (P := P) w t e i z h1 h2 h3 .i64 .i64 n n (by omega) (Int.le_refl _) (by omega) (by simp only [maxLen] at b3; omega)
  simp only [Int.toNat_natCast, h4] at hrun
  unfold Oper.wp
  simp [execOp, hop, hl, hc, hrun, Result.andThen]
  exact hK' _ _ (hK _ _ (heap_alloc_new w _) (by simp [madeCells]) ((Below.refl _ _).alloc (Nat.le_refl _) _) (by simp))
end Go.Proofs.YtaabmaoldhoinaaGreat
namespace Go.Proofs.YtaabmaoldhoinaaGreat
set_option linter.unusedVariables false
open Go.RowKit
theorem flat_at {css : List (List Value)} {k : Nat} (h : ∀ es ∈ css, es.length = k) {i j : Nat} {es : List Value} (hi : css[i]? = some es) (hj : j < k) : css.flatten[i * k + j]? = es[j]? := by
  induction css generalizing i with
  | nil => simp at hi
  | cons c0 css ih =>
    have h0 := h c0 (by simp)
    rw [List.flatten_cons]
    cases i with
    | zero =>
      simp at hi
      subst hi
      rw [Nat.zero_mul, Nat.zero_add, List.getElem?_append_left (by omega)]
    | succ i =>
      simp at hi
      rw [Nat.succ_mul, List.getElem?_append_right (by omega), show i * k + k + j - c0.length = i * k + j by omega]
      exact ih (fun es hes => h es (by simp [hes])) hi
theorem flat_len {css : List (List Value)} {k : Nat} (h : ∀ es ∈ css, es.length = k) : css.flatten.length = css.length * k := by
  induction css with
  | nil => simp
  | cons c0 css ih =>
    rw [List.flatten_cons, List.length_append, h c0 (by simp), ih (fun es hes => h es (by simp [hes])), List.length_cons, Nat.succ_mul]; omega
section
variable {α : Type} {t : Ty α} {e : TypeId} {w w' : World} {base : Nat} {v : Value} {l : List α} {F : List Nat}
def GrowO (t : Ty α) (e : TypeId) (w : World) (base : Nat) (v : Value) (l : List α) (F : List Nat) : Prop :=
  (∃ (css : List (List Value)) (Fs : List (List Nat)), w.ownsRow base e t.k v l.length css.flatten ∧ css.length = l.length ∧ Fs.length = l.length ∧ F = Fs.flatten ∧
    ∀ (i : Nat) (a : α) (es : List Value) (Fi : List Nat), l[i]? = some a → css[i]? = some es → Fs[i]? = some Fi → t.O w es a Fi) ∧ New base F ∧ ∀ b, v.ownBlock = some b → b ∉ F
theorem GrowO.nil : GrowO t e w base (.slice none 0 0) [] [] :=
  ⟨⟨[], [], ⟨by simp, .inl ⟨rfl, rfl⟩⟩, rfl, rfl, rfl, fun i a es Fi h => by simp at h⟩, New.nil _, fun b h => by simp [Value.ownBlock] at h⟩
theorem GrowO.lt (h : GrowO t e w base v l F) : ∀ f ∈ F, f < w.heap.size := by
  obtain ⟨⟨css, Fs, h1, h2, h3, rfl, h5⟩, _, _⟩ := h
  intro f hf
  obtain ⟨Fi, hFi, hfi⟩ := List.mem_flatten.1 hf
  obtain ⟨i, hi, e1⟩ := List.getElem_of_mem hFi
  have hl : i < l.length := by omega
  have hc : i < css.length := by omega
  exact t.lt (h5 i _ _ Fi (List.getElem?_eq_getElem hl) (List.getElem?_eq_getElem hc) (by rw [List.getElem?_eq_getElem hi, e1])) f hfi
theorem GrowO.below (h : GrowO t e w base v l F) (hB : Below w.heap.size w w') : GrowO t e w' base v l F := by
  obtain ⟨⟨css, Fs, h1, h2, h3, h4, h5⟩, h6, h7⟩ := h
  exact ⟨⟨css, Fs, h1.kept (row := none) (below_grownBy hB) (by cases v.ownBlock <;> simp), h2, h3, h4, fun i a es Fi q1 q2 q3 => Ty.below (h5 i a es Fi q1 q2 q3) hB⟩, h6, h7⟩
theorem GrowO.new (h : GrowO t e w base v l F) : New base F := h.2.1
/-- What an append sees, and what it leaves. -/
theorem GrowO.row (h : GrowO t e w base v l F) : ∃ xs, w.ownsRow base e t.k v l.length xs ∧
    ∀ w3 v1 a es Fa, t.O w es a Fa → New base Fa → (∀ f ∈ Fa, f ∉ F) → (∀ b, v.ownBlock = some b → b ∉ Fa) → w3.ownsRow base e t.k v1 (l.length + 1) (xs ++ es) → w.grownBy w3 v.ownBlock →
      (v1.ownBlock = v.ownBlock ∨ v1.ownBlock = some w.heap.size) → GrowO t e w3 base v1 (l ++ [a]) (F ++ Fa) := by
  have hlt := h.lt
  obtain ⟨⟨css, Fs, h1, h2, h3, rfl, h5⟩, h6, h7⟩ := h
  refine ⟨css.flatten, h1, fun w3 v1 a es Fa q1 q2 q3 q4 q5 q6 q7 => ⟨⟨css ++ [es], Fs ++ [Fa], ?_, by simp [h2], by simp [h3], by simp, ?_⟩, ?_, ?_⟩⟩
  · rw [List.length_append, List.flatten_append]
    simpa using q5
  · intro i b cs Fi r1 r2 r3
    by_cases hi : i < l.length
    · rw [List.getElem?_append_left hi] at r1
      rw [List.getElem?_append_left (by omega)] at r2
      rw [List.getElem?_append_left (by omega)] at r3
      have hO := h5 i b cs Fi r1 r2 r3
      exact t.kept hO fun f hf => q6.block f (t.lt hO f hf) fun e => h7 f e.symm (mem_flat r3 hf)
    · rw [List.getElem?_append_right (by omega)] at r1
      have hi0 : i - l.length = 0 := by
        have := (List.getElem?_eq_some_iff.1 r1).1
        simp at this; omega
      rw [hi0] at r1
      rw [List.getElem?_append_right (by omega), h2, hi0] at r2
      rw [List.getElem?_append_right (by omega), h3, hi0] at r3
      simp at r1 r2 r3
      subst r1 r2 r3
      exact t.kept q1 fun f hf => q6.block f (t.lt q1 f hf) fun e => q4 f e.symm hf
  · refine ⟨List.nodup_append.2 ⟨h6.1, q2.1, fun x hx y hy e => ?_⟩, fun f hf => ?_⟩
    · subst e; exact q3 x hy hx
    · rcases List.mem_append.1 hf with h' | h'
      · exact h6.2 f h'
      · exact q2.2 f h'
  · intro b hb hx
    rcases q7 with q7 | q7
    · rw [q7] at hb
      rcases List.mem_append.1 hx with h' | h'
      · exact h7 b hb h'
      · exact q4 b hb h'
    · rw [q7] at hb
      injection hb with hb
      subst hb
      rcases List.mem_append.1 hx with h' | h'
      · have := hlt _ h'; omega
      · have := t.lt q1 _ h'; omega
theorem GrowO.done (h : GrowO t e w base v l F) : ∃ A c F', v = .slice A l.length c ∧ t.row.O w [.slice A l.length c] l F' ∧ New base F' := by
  obtain ⟨⟨css, Fs, h1, h2, h3, rfl, h5⟩, h6, h7⟩ := h
  rcases h1.2 with ⟨rfl, h0⟩ | ⟨g, cap, cur, rfl, hb, hg, hn, hm, hs, ht⟩
  · have : l = [] := List.eq_nil_of_length_eq_zero h0
    subst this
    exact ⟨none, 0, [], rfl, .inl ⟨none, 0, rfl, by omega, rfl, rfl⟩, New.nil _⟩
  · by_cases h0 : 0 < l.length
    · refine ⟨_, cap, g :: Fs.flatten, rfl, .inr ⟨g, 0, cap, cur, e, Fs, rfl, h0, hn, by simp only [maxLen] at hm; omega, hg, h3, rfl, fun i a Fi q1 q2 => ?_⟩, List.nodup_cons.2 ⟨h7 g rfl, h6.1⟩, fun f hf => ?_⟩
      · have hi : i < l.length := (List.getElem?_eq_some_iff.1 q1).1
        have hc : css[i]? = some (css[i]'(by omega)) := List.getElem?_eq_getElem (by omega)
        refine ⟨_, fun j hj => ?_, h5 i a _ Fi q1 hc q2⟩
        have hlen : ∀ es ∈ css, es.length = t.k := fun es hes => by
          obtain ⟨i', hi', rfl⟩ := List.getElem_of_mem hes
          exact t.lenO (h5 i' _ _ _ (List.getElem?_eq_getElem (by omega)) (List.getElem?_eq_getElem hi') (List.getElem?_eq_getElem (by omega)))
        have hb2 : (i + 1) * t.k ≤ l.length * t.k := Nat.mul_le_mul_right _ hi
        rw [Nat.succ_mul] at hb2
        rw [← flat_at hlen hc hj, ← ht, List.getElem?_take, if_pos (by omega)]
        simp
      · rcases List.mem_cons.1 hf with rfl | hf
        · exact hb
        · exact h6.2 f hf
    · have : l = [] := List.eq_nil_of_length_eq_zero (by omega)
      subst this
      exact ⟨_, cap, [], rfl, .inl ⟨_, cap, rfl, by simp only [maxLen] at hm; omega, rfl, rfl⟩, New.nil _⟩
end
section
variable {α : Type} {t : Ty α} {e : TypeId} {w w' : World} {base B : Nat} {v : Value} {l : List α}
/-- A row of a call's own whose elements read below B: what they hold may be another's. -/
def GrowR (t : Ty α) (e : TypeId) (w : World) (base B : Nat) (v : Value) (l : List α) : Prop :=
  ∃ (css : List (List Value)), w.ownsRow base e t.k v l.length css.flatten ∧ css.length = l.length ∧ ∀ (i : Nat) (a : α) (es : List Value), l[i]? = some a → css[i]? = some es → t.R w B es a
theorem GrowR.nil : GrowR t e w base B (.slice none 0 0) [] := ⟨[], ⟨by simp, .inl ⟨rfl, rfl⟩⟩, rfl, fun i a es h => by simp at h⟩
theorem GrowR.below (h : GrowR t e w base B v l) (hB : Below w.heap.size w w') (hb : B ≤ w.heap.size) : GrowR t e w' base B v l := by
  obtain ⟨css, h1, h2, h5⟩ := h
  exact ⟨css, h1.kept (row := none) (below_grownBy hB) (by cases v.ownBlock <;> simp), h2, fun i a es q1 q2 => t.keep (h5 i a es q1 q2) fun b hlt => hB.block b (by omega)⟩
theorem GrowR.row (h : GrowR t e w base B v l) (hb : B ≤ base) (hw : B ≤ w.heap.size) : ∃ xs, w.ownsRow base e t.k v l.length xs ∧
    ∀ w3 v1 a es, t.R w B es a → w3.ownsRow base e t.k v1 (l.length + 1) (xs ++ es) → w.grownBy w3 v.ownBlock → GrowR t e w3 base B v1 (l ++ [a]) := by
  obtain ⟨css, h1, h2, h5⟩ := h
  have hown := fun b hb => h1.lt b hb
  refine ⟨css.flatten, h1, fun w3 v1 a es q1 q5 q6 => ⟨css ++ [es], ?_, by simp [h2], ?_⟩⟩
  · rw [List.length_append, List.flatten_append]
    simpa using q5
  · have keep : ∀ b, b < B → w3.heap[b]? = w.heap[b]? := fun b hlt => q6.block b (by omega) fun e => by have := (hown b e.symm).1; omega
    intro i b cs r1 r2
    by_cases hi : i < l.length
    · rw [List.getElem?_append_left hi] at r1
      rw [List.getElem?_append_left (by omega)] at r2
      exact t.keep (h5 i b cs r1 r2) keep
    · rw [List.getElem?_append_right (by omega)] at r1
      have hi0 : i - l.length = 0 := by
        have := (List.getElem?_eq_some_iff.1 r1).1
        simp at this; omega
      rw [hi0] at r1
      rw [List.getElem?_append_right (by omega), h2, hi0] at r2
      simp at r1 r2
      subst r1 r2
      exact t.keep q1 keep
theorem GrowR.done (h : GrowR t e w base B v l) (hw : B ≤ w.heap.size) : ∃ A c, v = .slice A l.length c ∧ t.row.R w w.heap.size [.slice A l.length c] l := by
  obtain ⟨css, h1, h2, h5⟩ := h
  rcases h1.2 with ⟨rfl, h0⟩ | ⟨g, cap, cur, rfl, hb, hg, hn, hm, hs, ht⟩
  · have : l = [] := List.eq_nil_of_length_eq_zero h0
    subst this
    exact ⟨none, 0, rfl, none, 0, 0, rfl, Nat.le_refl _, by omega, rfl, fun h => absurd h (by omega)⟩
  · refine ⟨_, cap, rfl, _, l.length, cap, rfl, hn, by simp only [maxLen] at hm; omega, rfl, fun _ => ⟨g, 0, rfl, Box.size (t := e) hg, fun i a q1 => ?_⟩⟩
    have hi : i < l.length := (List.getElem?_eq_some_iff.1 q1).1
    have hc : css[i]? = some (css[i]'(by omega)) := List.getElem?_eq_getElem (by omega)
    refine ⟨_, fun j hj => ?_, t.up (h5 i a _ q1 hc) hw⟩
    have hlen : ∀ es ∈ css, es.length = t.k := fun es hes => by
      obtain ⟨i', hi', rfl⟩ := List.getElem_of_mem hes
      exact t.lenR (h5 i' _ _ (List.getElem?_eq_getElem (by omega)) (List.getElem?_eq_getElem hi'))
    have hb2 : (i + 1) * t.k ≤ l.length * t.k := Nat.mul_le_mul_right _ hi
    rw [Nat.succ_mul] at hb2
    rw [Box.cell (t := e) hg, ← flat_at hlen hc hj, ← ht, List.getElem?_take, if_pos (by omega)]
    simp
end
/-- The cells of one struct that have just been laid, as what an append takes in. -/
theorem Src.of_box (w : World) (t : TypeId) (es : List Value) {K : Nat} (hK : es.length = K) : Src (w.alloc (.cells es.toArray t)) K (some ⟨w.heap.size, 0, none⟩) 1 es := by
  refine ⟨by omega, fun _ => ⟨_, 0, rfl, fun j u hj => ?_⟩⟩
  rw [Nat.zero_add, (Box.new w t es.toArray).cell]
  simpa using hj
end Go.Proofs.YtaabmaoldhoinaaGreat
namespace Go.Proofs.YtaabmaoldhoinaaGreat
set_option linter.unusedVariables false
open Go.RowKit
theorem tInt.mk {w : World} {B : Nat} {x : Int} (h : (Lit.int .i64 x).wf = true) : tInt.R w B [.int .i64 x] x := ⟨rfl, h⟩
theorem sl_one {K : IntKind} {w : World} {B : Nat} {cs : List Value} {l : List Int} (h : (tSl K).R w B cs l) : ∃ A n c, cs = [.slice A n c] ∧ n ≤ c ∧ c ≤ 9223372036854775807 ∧ Ints K w B A n l := h
theorem slO_one {K : IntKind} {w : World} {cs : List Value} {l : List Int} {F : List Nat} (h : (tSl K).O w cs l F) : ∃ A c, cs = [.slice A l.length c] ∧ l.length ≤ c ∧ c ≤ 9223372036854775807 := by
  rcases h with ⟨A, c, h1, h2, rfl, _⟩ | ⟨g, off, c, cur, t, h1, h2, h3, h4, _⟩
  · exact ⟨A, c, h1, Nat.zero_le _, h2⟩
  · exact ⟨_, c, h1, h3, h4⟩
theorem row_one {α : Type} {t : Ty α} {w : World} {B : Nat} {cs : List Value} {l : List α} (h : t.row.R w B cs l) : ∃ A n c, cs = [.slice A n c] ∧ n ≤ c ∧ c ≤ 9223372036854775807 ∧ l.length = n := by
  obtain ⟨A, n, c, h1, h2, h3, h4, _⟩ := h
  exact ⟨A, n, c, h1, h2, h3, h4⟩
theorem rowO_one {α : Type} {t : Ty α} {w : World} {cs : List Value} {l : List α} {F : List Nat} (h : t.row.O w cs l F) : ∃ A c, cs = [.slice A l.length c] ∧ l.length ≤ c ∧ c ≤ 9223372036854775807 := by
  rcases h with ⟨A, c, h1, h2, rfl, _⟩ | ⟨g, off, c, cur, e, Fs, h1, h2, h3, h4, _⟩
  · exact ⟨A, c, h1, Nat.zero_le _, h2⟩
  · exact ⟨_, c, h1, h3, h4⟩

/-! ### Cell -/
abbrev DCell := List Int
def szCell (p : DCell) : Nat := (p).length
/-! ### Peeled -/
/-! ### Piece -/
abbrev DPiece := Int × Int × Int × List Int
abbrev tPiece : Ty DPiece := tInt.prod (tInt.prod (tInt.prod (tBy)))
def szPiece (p : DPiece) : Nat := (p.2.2.2).length
theorem openPiece {w : World} {B : Nat} {cs : List Value} {p : DPiece} (h : tPiece.R w B cs p) : ∃ A3 n3 c3, cs = [.int .i64 (p.1), .int .i64 (p.2.1), .int .i64 (p.2.2.1), .slice A3 n3 c3] ∧ (Lit.int .i64 (p.1)).wf = true ∧ (Lit.int .i64 (p.2.1)).wf = true ∧ (Lit.int .i64 (p.2.2.1)).wf = true ∧ n3 ≤ c3 ∧ c3 ≤ 9223372036854775807 ∧ (p.2.2.2).length = n3 ∧ tBy.R w B [.slice A3 n3 c3] (p.2.2.2) := by
  obtain ⟨ca1, cb1, rfl, ha1, hb1⟩ := h
  obtain ⟨rfl, hi2⟩ := ha1
  obtain ⟨ca3, cb3, rfl, ha3, hb3⟩ := hb1
  obtain ⟨rfl, hi4⟩ := ha3
  obtain ⟨ca5, cb5, rfl, ha5, hb5⟩ := hb3
  obtain ⟨rfl, hi6⟩ := ha5
  obtain ⟨A7, n7, c7, rfl, he7, hf7, hg7⟩ := sl_one hb5
  exact ⟨A7, n7, c7, rfl, hi2, hi4, hi6, he7, hf7, hg7.1, ⟨A7, n7, c7, rfl, he7, hf7, hg7⟩⟩
theorem makePiece {w : World} {B : Nat} {p : DPiece} {v3 : Value} (h0 : (Lit.int .i64 (p.1)).wf = true) (h1 : (Lit.int .i64 (p.2.1)).wf = true) (h2 : (Lit.int .i64 (p.2.2.1)).wf = true) (h3 : tBy.R w B [v3] (p.2.2.2)) : tPiece.R w B [.int .i64 (p.1), .int .i64 (p.2.1), .int .i64 (p.2.2.1), v3] p := ⟨_, _, rfl, ⟨rfl, h0⟩, ⟨_, _, rfl, ⟨rfl, h1⟩, ⟨_, _, rfl, ⟨rfl, h2⟩, h3⟩⟩⟩
theorem openOPiece {w : World} {cs : List Value} {p : DPiece} {F : List Nat} (h : tPiece.O w cs p F) : ∃ A3 c3 F3, cs = [.int .i64 (p.1), .int .i64 (p.2.1), .int .i64 (p.2.2.1), .slice A3 (p.2.2.2).length c3] ∧ F = F3 ∧ (Lit.int .i64 (p.1)).wf = true ∧ (Lit.int .i64 (p.2.1)).wf = true ∧ (Lit.int .i64 (p.2.2.1)).wf = true ∧ (p.2.2.2).length ≤ c3 ∧ c3 ≤ 9223372036854775807 ∧ tBy.O w [.slice A3 (p.2.2.2).length c3] (p.2.2.2) F3 := by
  obtain ⟨ca1, cb1, Fa1, Fb1, rfl, rfl, ha1, hb1⟩ := h
  obtain ⟨rfl, hi2, rfl⟩ := ha1
  obtain ⟨ca3, cb3, Fa3, Fb3, rfl, rfl, ha3, hb3⟩ := hb1
  obtain ⟨rfl, hi4, rfl⟩ := ha3
  obtain ⟨ca5, cb5, Fa5, Fb5, rfl, rfl, ha5, hb5⟩ := hb3
  obtain ⟨rfl, hi6, rfl⟩ := ha5
  have hr7 := hb5
  obtain ⟨A7, c7, rfl, he7, hf7⟩ := slO_one hb5
  exact ⟨A7, c7, Fb5, rfl, by simp, hi2, hi4, hi6, he7, hf7, hr7⟩
theorem makeOPiece {w : World} {p : DPiece} {v3 : Value} {F3 : List Nat} (h0 : (Lit.int .i64 (p.1)).wf = true) (h1 : (Lit.int .i64 (p.2.1)).wf = true) (h2 : (Lit.int .i64 (p.2.2.1)).wf = true) (h3 : tBy.O w [v3] (p.2.2.2) F3) : ∃ F, tPiece.O w [.int .i64 (p.1), .int .i64 (p.2.1), .int .i64 (p.2.2.1), v3] p F ∧ F = F3 := ⟨_, ⟨_, _, _, _, rfl, rfl, ⟨rfl, h0, rfl⟩, ⟨_, _, _, _, rfl, rfl, ⟨rfl, h1, rfl⟩, ⟨_, _, _, _, rfl, rfl, ⟨rfl, h2, rfl⟩, h3⟩⟩⟩, by simp⟩
/-! ### Whole -/
abbrev DWhole := Int × Int × Int × List DPiece
abbrev tWhole : Ty DWhole := tInt.prod (tInt.prod (tInt.prod (tPiece.row)))
def szWhole (p : DWhole) : Nat := rsz szPiece (p.2.2.2)
theorem openWhole {w : World} {B : Nat} {cs : List Value} {p : DWhole} (h : tWhole.R w B cs p) : ∃ A3 n3 c3, cs = [.int .i64 (p.1), .int .i64 (p.2.1), .int .i64 (p.2.2.1), .slice A3 n3 c3] ∧ (Lit.int .i64 (p.1)).wf = true ∧ (Lit.int .i64 (p.2.1)).wf = true ∧ (Lit.int .i64 (p.2.2.1)).wf = true ∧ n3 ≤ c3 ∧ c3 ≤ 9223372036854775807 ∧ (p.2.2.2).length = n3 ∧ tPiece.row.R w B [.slice A3 n3 c3] (p.2.2.2) := by
  obtain ⟨ca1, cb1, rfl, ha1, hb1⟩ := h
  obtain ⟨rfl, hi2⟩ := ha1
  obtain ⟨ca3, cb3, rfl, ha3, hb3⟩ := hb1
  obtain ⟨rfl, hi4⟩ := ha3
  obtain ⟨ca5, cb5, rfl, ha5, hb5⟩ := hb3
  obtain ⟨rfl, hi6⟩ := ha5
  have hr7 := hb5
  obtain ⟨A7, n7, c7, rfl, he7, hf7, hg7⟩ := row_one hb5
  exact ⟨A7, n7, c7, rfl, hi2, hi4, hi6, he7, hf7, hg7, hr7⟩
theorem makeWhole {w : World} {B : Nat} {p : DWhole} {v3 : Value} (h0 : (Lit.int .i64 (p.1)).wf = true) (h1 : (Lit.int .i64 (p.2.1)).wf = true) (h2 : (Lit.int .i64 (p.2.2.1)).wf = true) (h3 : tPiece.row.R w B [v3] (p.2.2.2)) : tWhole.R w B [.int .i64 (p.1), .int .i64 (p.2.1), .int .i64 (p.2.2.1), v3] p := ⟨_, _, rfl, ⟨rfl, h0⟩, ⟨_, _, rfl, ⟨rfl, h1⟩, ⟨_, _, rfl, ⟨rfl, h2⟩, h3⟩⟩⟩
theorem openOWhole {w : World} {cs : List Value} {p : DWhole} {F : List Nat} (h : tWhole.O w cs p F) : ∃ A3 c3 F3, cs = [.int .i64 (p.1), .int .i64 (p.2.1), .int .i64 (p.2.2.1), .slice A3 (p.2.2.2).length c3] ∧ F = F3 ∧ (Lit.int .i64 (p.1)).wf = true ∧ (Lit.int .i64 (p.2.1)).wf = true ∧ (Lit.int .i64 (p.2.2.1)).wf = true ∧ (p.2.2.2).length ≤ c3 ∧ c3 ≤ 9223372036854775807 ∧ tPiece.row.O w [.slice A3 (p.2.2.2).length c3] (p.2.2.2) F3 := by
  obtain ⟨ca1, cb1, Fa1, Fb1, rfl, rfl, ha1, hb1⟩ := h
  obtain ⟨rfl, hi2, rfl⟩ := ha1
  obtain ⟨ca3, cb3, Fa3, Fb3, rfl, rfl, ha3, hb3⟩ := hb1
  obtain ⟨rfl, hi4, rfl⟩ := ha3
  obtain ⟨ca5, cb5, Fa5, Fb5, rfl, rfl, ha5, hb5⟩ := hb3
  obtain ⟨rfl, hi6, rfl⟩ := ha5
  have hr7 := hb5
  obtain ⟨A7, c7, rfl, he7, hf7⟩ := rowO_one hb5
  exact ⟨A7, c7, Fb5, rfl, by simp, hi2, hi4, hi6, he7, hf7, hr7⟩
theorem makeOWhole {w : World} {p : DWhole} {v3 : Value} {F3 : List Nat} (h0 : (Lit.int .i64 (p.1)).wf = true) (h1 : (Lit.int .i64 (p.2.1)).wf = true) (h2 : (Lit.int .i64 (p.2.2.1)).wf = true) (h3 : tPiece.row.O w [v3] (p.2.2.2) F3) : ∃ F, tWhole.O w [.int .i64 (p.1), .int .i64 (p.2.1), .int .i64 (p.2.2.1), v3] p F ∧ F = F3 := ⟨_, ⟨_, _, _, _, rfl, rfl, ⟨rfl, h0, rfl⟩, ⟨_, _, _, _, rfl, rfl, ⟨rfl, h1, rfl⟩, ⟨_, _, _, _, rfl, rfl, ⟨rfl, h2, rfl⟩, h3⟩⟩⟩, by simp⟩
/-! ### Desk -/
abbrev DDesk := List DWhole × List Int
abbrev tDesk : Ty DDesk := tWhole.row.prod (tIs)
def szDesk (p : DDesk) : Nat := rsz szWhole (p.1) + (p.2).length
theorem openDesk {w : World} {B : Nat} {cs : List Value} {p : DDesk} (h : tDesk.R w B cs p) : ∃ A0 n0 c0 A1 n1 c1, cs = [.slice A0 n0 c0, .slice A1 n1 c1] ∧ n0 ≤ c0 ∧ c0 ≤ 9223372036854775807 ∧ (p.1).length = n0 ∧ tWhole.row.R w B [.slice A0 n0 c0] (p.1) ∧ n1 ≤ c1 ∧ c1 ≤ 9223372036854775807 ∧ (p.2).length = n1 ∧ tIs.R w B [.slice A1 n1 c1] (p.2) := by
  obtain ⟨ca1, cb1, rfl, ha1, hb1⟩ := h
  have hr2 := ha1
  obtain ⟨A2, n2, c2, rfl, he2, hf2, hg2⟩ := row_one ha1
  obtain ⟨A3, n3, c3, rfl, he3, hf3, hg3⟩ := sl_one hb1
  exact ⟨A2, n2, c2, A3, n3, c3, rfl, he2, hf2, hg2, hr2, he3, hf3, hg3.1, ⟨A3, n3, c3, rfl, he3, hf3, hg3⟩⟩
theorem makeDesk {w : World} {B : Nat} {p : DDesk} {v0 v1 : Value} (h0 : tWhole.row.R w B [v0] (p.1)) (h1 : tIs.R w B [v1] (p.2)) : tDesk.R w B [v0, v1] p := ⟨_, _, rfl, h0, h1⟩
theorem openODesk {w : World} {cs : List Value} {p : DDesk} {F : List Nat} (h : tDesk.O w cs p F) : ∃ A0 c0 F0 A1 c1 F1, cs = [.slice A0 (p.1).length c0, .slice A1 (p.2).length c1] ∧ F = F0 ++ F1 ∧ (p.1).length ≤ c0 ∧ c0 ≤ 9223372036854775807 ∧ tWhole.row.O w [.slice A0 (p.1).length c0] (p.1) F0 ∧ (p.2).length ≤ c1 ∧ c1 ≤ 9223372036854775807 ∧ tIs.O w [.slice A1 (p.2).length c1] (p.2) F1 := by
  obtain ⟨ca1, cb1, Fa1, Fb1, rfl, rfl, ha1, hb1⟩ := h
  have hr2 := ha1
  obtain ⟨A2, c2, rfl, he2, hf2⟩ := rowO_one ha1
  have hr3 := hb1
  obtain ⟨A3, c3, rfl, he3, hf3⟩ := slO_one hb1
  exact ⟨A2, c2, Fa1, A3, c3, Fb1, rfl, by simp, he2, hf2, hr2, he3, hf3, hr3⟩
theorem makeODesk {w : World} {p : DDesk} {v0 v1 : Value} {F0 F1 : List Nat} (h0 : tWhole.row.O w [v0] (p.1) F0) (h1 : tIs.O w [v1] (p.2) F1) : ∃ F, tDesk.O w [v0, v1] p F ∧ F = F0 ++ F1 := ⟨_, ⟨_, _, _, _, rfl, rfl, h0, h1⟩, by simp⟩
/-! ### Held -/
abbrev DHeld := Int × Int × DCell
/-! ### Pool -/
abbrev DPool := List DHeld × List Int
/-! ### Letter -/
/-! ### Node -/
/-! ### Mail -/
/-! ### Sent -/
/-! ### Glance -/
/-! ### Net -/
/-! ### Cmd -/
end Go.Proofs.YtaabmaoldhoinaaGreat
namespace Go.Proofs.YtaabmaoldhoinaaGreat
set_option linter.unusedVariables false
open Go.RowKit
section
variable {α : Type} {t : Ty α} {e : TypeId} {w w' : World} {base B n c : Nat} {A : Option Addr} {v : Value} {l l' : List α}
/-- The cells of a row that reads, as what an append takes in. -/
theorem row_src (h : t.row.R w B [.slice A n c] l) (h1 : ∀ es a, t.R w B es a → ∀ u ∈ es, u.oneCell' = true) :
    ∃ css : List (List Value), css.length = l.length ∧ (∀ (i : Nat) (a : α) (es : List Value), l[i]? = some a → css[i]? = some es → t.R w B es a) ∧ Src w t.k A n css.flatten ∧ ∀ u ∈ css.flatten, u.oneCell' = true := by
  obtain ⟨A', n', c', e1, h2, h3, h4, h5⟩ := h
  injection e1 with e1 _
  injection e1 with e1 e2 e3
  subst e1 e2 e3
  by_cases h0 : 0 < n
  · obtain ⟨b, off, rfl, hb, hc⟩ := h5 h0
    have hx : ∀ i, i < l.length → ∃ es, (∀ j, j < t.k → w.cell? ⟨b, off + i * t.k + j, none⟩ = es[j]?) ∧ ∀ a, l[i]? = some a → t.R w B es a := fun i hi => by
      obtain ⟨es, k1, k2⟩ := hc i _ (List.getElem?_eq_getElem hi)
      exact ⟨es, k1, fun a ha => by rw [List.getElem?_eq_getElem hi] at ha; injection ha with ha; rw [← ha]; exact k2⟩
    obtain ⟨css, hcs⟩ : ∃ css, css = (List.range l.length).pmap (fun i hi => (hx i hi).choose) (fun i hi => List.mem_range.1 hi) := ⟨_, rfl⟩
    have hlen : css.length = l.length := by rw [hcs]; simp
    have hat : ∀ i es, css[i]? = some es → ∃ hi : i < l.length, es = (hx i hi).choose := fun i es hi => by
      rw [hcs, List.getElem?_pmap] at hi
      by_cases hl : i < l.length
      · refine ⟨hl, ?_⟩
        simp [List.getElem?_range hl] at hi
        exact hi.symm
      · simp [List.getElem?_eq_none (show (List.range l.length).length ≤ i by simp; omega)] at hi
    have hk : ∀ es ∈ css, es.length = t.k := fun es hes => by
      obtain ⟨i, hi, rfl⟩ := List.getElem_of_mem hes
      obtain ⟨hl, e⟩ := hat i _ (List.getElem?_eq_getElem hi)
      exact t.lenR (B := B) ((congrArg (fun x => t.R w B x _) e).mpr ((hx i hl).choose_spec.2 _ (List.getElem?_eq_getElem hl)))
    refine ⟨css, hlen, fun i a es hi he => ?_, ⟨by rw [flat_len hk, hlen, h4], fun _ => ⟨b, off, rfl, fun j u hj => ?_⟩⟩, fun u hu => ?_⟩
    · obtain ⟨hl, rfl⟩ := hat i es he
      exact (hx i hl).choose_spec.2 a hi
    · have hj2 : j < css.length * t.k := by rw [← flat_len hk]; exact (List.getElem?_eq_some_iff.1 hj).1
      have hkp : 0 < t.k := by
        rcases Nat.eq_zero_or_pos t.k with h | h
        · rw [h] at hj2; omega
        · exact h
      have hq : j / t.k < css.length := (Nat.div_lt_iff_lt_mul hkp).2 hj2
      have hr : j % t.k < t.k := Nat.mod_lt _ hkp
      have e0 : j / t.k * t.k + j % t.k = j := by rw [Nat.mul_comm]; exact Nat.div_add_mod _ _
      have h6 := flat_at hk (List.getElem?_eq_getElem hq) hr
      rw [e0, hj] at h6
      obtain ⟨hl, e⟩ := hat (j / t.k) _ (List.getElem?_eq_getElem hq)
      have h7 := (hx _ hl).choose_spec.1 _ hr
      rw [← e, ← h6, Nat.add_assoc, e0] at h7
      exact h7
    · obtain ⟨es, hes, hu⟩ := List.mem_flatten.1 hu
      obtain ⟨i, hi, rfl⟩ := List.getElem_of_mem hes
      obtain ⟨hl, e⟩ := hat i _ (List.getElem?_eq_getElem hi)
      exact h1 _ _ ((congrArg (fun x => t.R w B x _) e).mpr ((hx i hl).choose_spec.2 _ (List.getElem?_eq_getElem hl))) u hu
  · have hl : l = [] := List.eq_nil_of_length_eq_zero (by omega)
    subst hl
    obtain rfl : n = 0 := by omega
    exact ⟨[], rfl, fun i a es hi => by simp at hi, ⟨by simp, fun h => absurd h h0⟩, fun u hu => by simp at hu⟩
/-- What an append of a whole row sees, and what it leaves. -/
theorem GrowR.rows (h : GrowR t e w base B v l) (hr : t.row.R w B [.slice A n c] l') (h1 : ∀ es a, t.R w B es a → ∀ u ∈ es, u.oneCell' = true) (hb : B ≤ base) (hw : B ≤ w.heap.size) :
    ∃ xs news, w.ownsRow base e t.k v l.length xs ∧ Src w t.k A n news ∧ (∀ u ∈ news, u.oneCell' = true) ∧
      ∀ w3 v1, w3.ownsRow base e t.k v1 (l.length + n) (xs ++ news) → w.grownBy w3 v.ownBlock → GrowR t e w3 base B v1 (l ++ l') := by
  obtain ⟨css2, k1, k2, k3, k4⟩ := row_src hr h1
  have hn : l'.length = n := (rowR_len hr).1
  obtain ⟨css, g1, g2, g5⟩ := h
  have hown := fun b hb => g1.lt b hb
  refine ⟨css.flatten, css2.flatten, g1, k3, k4, fun w3 v1 q5 q6 => ⟨css ++ css2, ?_, by simp [g2, k1], ?_⟩⟩
  · rw [List.length_append, List.flatten_append, hn]
    exact q5
  · have keep : ∀ b, b < B → w3.heap[b]? = w.heap[b]? := fun b hlt => q6.block b (by omega) fun e => by have := (hown b e.symm).1; omega
    intro i b cs r1 r2
    by_cases hi : i < l.length
    · rw [List.getElem?_append_left hi] at r1
      rw [List.getElem?_append_left (by omega)] at r2
      exact t.keep (g5 i b cs r1 r2) keep
    · rw [List.getElem?_append_right (by omega)] at r1
      rw [List.getElem?_append_right (by omega), g2] at r2
      exact t.keep (k2 _ b cs r1 r2) keep
end
theorem step_app5 {P : Program} (w : World) {ops : Array Oper} {o : Oper} {a : Act} {K : Act → World → Prop} {Q : Exit → Act → World → Prop} {E : Prop} (hgd : o.guard = none) (s x : Operand) (t : TypeId)
    (ho : o.op = .call { callee := .builtin .append, args := #[s, x], argTypes := #[t, t] })
    (base : Nat) (e : TypeId) (i : TypeInfo) (z : Value) (size bytes : Nat) (ht : P.underlying t = some (.slice e)) (hi : P.info? e = some i) (hz : i.zero = some z)
    (hsize : i.size = size) (hby : i.bytes = bytes) (hzs : z.cells.size = size) (hsz : 0 < size)
    (v : Value) (n : Nat) (xs : List Value) (hs : a.eval s = v) (hown : w.ownsRow base e size v n xs)
    (A : Option Addr) (m c : Nat) (news : List Value) (hx : a.eval x = .slice A m c) (hr : Src w size A m news) (h1 : ∀ u ∈ news, u.oneCell' = true)
    (h63 : n + m ≤ maxLen) (hbytes : (n + m) * bytes ≤ 140737488355328) (hbase : base ≤ w.heap.size)
    (h : ∀ v' w', w'.ownsRow base e size v' (n + m) (xs ++ news) → w.grownBy w' v.ownBlock → (v'.ownBlock = v.ownBlock ∨ v'.ownBlock = some w.heap.size) → K (a.put o.dst v') w') :
    if Region.wanted o (yielded ops a.tmps) = true then Oper.wp P o a w K Q else E := by
  have hw : Region.wanted o (yielded ops a.tmps) = true := by simp [Region.wanted, hgd]
  rw [if_pos hw]
  exact wp_app w s x t ho base e i z size bytes ht hi hz hsize hby hzs hsz v n xs hs hown A m c news hx hr h1 h63 hbytes hbase h
/-- A struct's cells in a block, as what an append takes in. -/
theorem Src.of_boxed {w : World} {g : Nat} {e : TypeId} {es : List Value} {K : Nat} (hb : Box w g e es.toArray) (hK : es.length = K) : Src w K (some ⟨g, 0, none⟩) 1 es := by
  refine ⟨by omega, fun _ => ⟨_, 0, rfl, fun j u hj => ?_⟩⟩
  rw [Nat.zero_add, hb.cell]
  simpa using hj
section
variable {α : Type} {t : Ty α} {e : TypeId} {w w' : World} {base B n c : Nat} {v : Value} {l : List α} {F : List Nat}
theorem GrowR.own (h : GrowR t e w base B v l) : ∀ b, v.ownBlock = some b → base ≤ b ∧ b < w.heap.size := fun b hb => by
  obtain ⟨css, h1, _⟩ := h; exact h1.lt b hb
theorem GrowR.put (h : GrowR t e w base B v l) {p : Addr} (h1 : p.block < base) (h2 : B ≤ p.block) (u : Value) : GrowR t e (w.setCell p u) base B v l := by
  obtain ⟨css, k1, k2, k5⟩ := h
  refine ⟨css, k1.kept (row := some p.block) ⟨rfl, rfl, rfl, by simp [World.setCell], fun i hi hn => Below.heap_setCell w p u i (fun e => hn (by rw [e]))⟩ ?_, k2, fun i a es q1 q2 => t.keep (k5 i a es q1 q2) fun b hlt => Below.heap_setCell w p u b (by omega)⟩
  refine .inr fun e => ?_
  have := (k1.lt _ e).1
  omega
theorem GrowR.shape (h : GrowR t e w base B v l) : ∃ A c, v = .slice A l.length c := by
  obtain ⟨css, h1, _⟩ := h
  rcases h1.2 with ⟨rfl, h0⟩ | ⟨g, cap, cur, rfl, _⟩
  · exact ⟨none, 0, by rw [h0]⟩
  · exact ⟨_, cap, rfl⟩
theorem GrowO.shape (h : GrowO t e w base v l F) : ∃ A c, v = .slice A l.length c := by
  obtain ⟨⟨css, Fs, h1, _⟩, _⟩ := h
  rcases h1.2 with ⟨rfl, h0⟩ | ⟨g, cap, cur, rfl, _⟩
  · exact ⟨none, 0, by rw [h0]⟩
  · exact ⟨_, cap, rfl⟩
theorem GrowR.shapeN (h : GrowR t e w base B v l) : ∃ A n c, v = .slice A n c ∧ n = l.length := by
  obtain ⟨A, c, rfl⟩ := h.shape; exact ⟨A, _, c, rfl, rfl⟩
theorem GrowR.doneAs {A : Option Addr} (h : GrowR t e w base B (.slice A n c) l) (hw : B ≤ w.heap.size) : t.row.R w w.heap.size [.slice A n c] l := by
  obtain ⟨A', c', e1, h2⟩ := h.done hw
  injection e1 with e1 e2 e3
  subst e1 e2 e3
  exact h2
theorem GrowO.shapeN (h : GrowO t e w base v l F) : ∃ A n c, v = .slice A n c ∧ n = l.length := by
  obtain ⟨A, c, rfl⟩ := h.shape; exact ⟨A, _, c, rfl, rfl⟩
theorem GrowO.own (h : GrowO t e w base v l F) : ∀ b, v.ownBlock = some b → base ≤ b ∧ b < w.heap.size := fun b hb => by
  obtain ⟨⟨css, Fs, h1, _⟩, _⟩ := h; exact h1.lt b hb
variable {P : Program} {ops : Array Oper} {rest : List Oper} {o : Oper} {a : Act} {K : Act → World → Prop} {Q : Exit → Act → World → Prop} {E : Prop}
/-- One struct more behind a row that reads: the step of a drawn region. -/
theorem GrowR.step (hgd : o.guard = none) (s x : Operand) (ty : TypeId) (ho : o.op = .call { callee := .builtin .append, args := #[s, x], argTypes := #[ty, ty] })
    (i : TypeInfo) (z : Value) (size bytes : Nat) (ht : P.underlying ty = some (.slice e)) (hi : P.info? e = some i) (hz : i.zero = some z) (hsize : i.size = size) (hby : i.bytes = bytes) (hzs : z.cells.size = size) (hsz : 0 < size) (hk : t.k = size)
    (hs : a.eval s = v) (hG : GrowR t e w base B v l) (g : Nat) (es : List Value) (el : α) (hx : a.eval x = .slice (some ⟨g, 0, none⟩) 1 1) (hb : Box w g e es.toArray) (hR : t.R w B es el) (h1 : ∀ u ∈ es, u.oneCell' = true)
    (hB : B ≤ base) (hw : base ≤ w.heap.size) (h63 : l.length + 1 ≤ maxLen) (hbytes : (l.length + 1) * bytes ≤ 140737488355328)
    (h : ∀ v' w', GrowR t e w' base B v' (l ++ [el]) → w.grownBy w' v.ownBlock → K (a.put o.dst v') w') :
    if Region.wanted o (yielded ops a.tmps) = true then Oper.wp P o a w K Q else E := by
  subst hk
  obtain ⟨xs, hrow, hpush⟩ := hG.row hB (Nat.le_trans hB hw)
  exact step_app5 w hgd s x ty ho base e i z t.k bytes ht hi hz hsize hby hzs hsz v l.length xs hs hrow _ 1 1 es hx (Src.of_boxed hb (t.lenR hR)) h1 h63 hbytes hw fun v' w' q1 q2 _ => h v' w' (hpush w' v' el es hR q1 q2) q2
/-- The same in a plain region. -/
theorem GrowR.push (hgd : o.guard = none) (s x : Operand) (ty : TypeId) (ho : o.op = .call { callee := .builtin .append, args := #[s, x], argTypes := #[ty, ty] })
    (i : TypeInfo) (z : Value) (size bytes : Nat) (ht : P.underlying ty = some (.slice e)) (hi : P.info? e = some i) (hz : i.zero = some z) (hsize : i.size = size) (hby : i.bytes = bytes) (hzs : z.cells.size = size) (hsz : 0 < size) (hk : t.k = size)
    (hs : a.eval s = v) (hG : GrowR t e w base B v l) (g : Nat) (es : List Value) (el : α) (hx : a.eval x = .slice (some ⟨g, 0, none⟩) 1 1) (hb : Box w g e es.toArray) (hR : t.R w B es el) (h1 : ∀ u ∈ es, u.oneCell' = true)
    (hB : B ≤ base) (hw : base ≤ w.heap.size) (h63 : l.length + 1 ≤ maxLen) (hbytes : (l.length + 1) * bytes ≤ 140737488355328)
    (h : ∀ v' w', GrowR t e w' base B v' (l ++ [el]) → w.grownBy w' v.ownBlock → wpList P ops Q rest (a.put o.dst v') w') : wpList P ops Q (o :: rest) a w := by
  subst hk
  obtain ⟨xs, hrow, hpush⟩ := hG.row hB (Nat.le_trans hB hw)
  exact wpList_app w hgd s x ty ho base e i z t.k bytes ht hi hz hsize hby hzs hsz v l.length xs hs hrow _ 1 1 es hx (Src.of_boxed hb (t.lenR hR)) h1 h63 hbytes hw fun v' w' q1 q2 _ => h v' w' (hpush w' v' el es hR q1 q2) q2
/-- A whole row behind a row, both read: the step of a drawn region. -/
theorem GrowR.stepRow (hgd : o.guard = none) (s x : Operand) (ty : TypeId) (ho : o.op = .call { callee := .builtin .append, args := #[s, x], argTypes := #[ty, ty] })
    (i : TypeInfo) (z : Value) (size bytes : Nat) (ht : P.underlying ty = some (.slice e)) (hi : P.info? e = some i) (hz : i.zero = some z) (hsize : i.size = size) (hby : i.bytes = bytes) (hzs : z.cells.size = size) (hsz : 0 < size) (hk : t.k = size)
    (hs : a.eval s = v) (hG : GrowR t e w base B v l) {A : Option Addr} {l' : List α} (hx : a.eval x = .slice A n c) (hr : t.row.R w B [.slice A n c] l') (h1 : ∀ es a, t.R w B es a → ∀ u ∈ es, u.oneCell' = true)
    (hB : B ≤ base) (hw : base ≤ w.heap.size) (h63 : l.length + n ≤ maxLen) (hbytes : (l.length + n) * bytes ≤ 140737488355328)
    (h : ∀ v' w', GrowR t e w' base B v' (l ++ l') → w.grownBy w' v.ownBlock → K (a.put o.dst v') w') :
    if Region.wanted o (yielded ops a.tmps) = true then Oper.wp P o a w K Q else E := by
  subst hk
  obtain ⟨xs, news, hrow, hsrc, h1', hpush⟩ := hG.rows hr h1 hB (Nat.le_trans hB hw)
  exact step_app5 w hgd s x ty ho base e i z t.k bytes ht hi hz hsize hby hzs hsz v l.length xs hs hrow A n c news hx hsrc h1' h63 hbytes hw fun v' w' q1 q2 _ => h v' w' (hpush w' v' q1 q2) q2
/-- The same in a plain region. -/
theorem GrowR.pushRow (hgd : o.guard = none) (s x : Operand) (ty : TypeId) (ho : o.op = .call { callee := .builtin .append, args := #[s, x], argTypes := #[ty, ty] })
    (i : TypeInfo) (z : Value) (size bytes : Nat) (ht : P.underlying ty = some (.slice e)) (hi : P.info? e = some i) (hz : i.zero = some z) (hsize : i.size = size) (hby : i.bytes = bytes) (hzs : z.cells.size = size) (hsz : 0 < size) (hk : t.k = size)
    (hs : a.eval s = v) (hG : GrowR t e w base B v l) {A : Option Addr} {l' : List α} (hx : a.eval x = .slice A n c) (hr : t.row.R w B [.slice A n c] l') (h1 : ∀ es a, t.R w B es a → ∀ u ∈ es, u.oneCell' = true)
    (hB : B ≤ base) (hw : base ≤ w.heap.size) (h63 : l.length + n ≤ maxLen) (hbytes : (l.length + n) * bytes ≤ 140737488355328)
    (h : ∀ v' w', GrowR t e w' base B v' (l ++ l') → w.grownBy w' v.ownBlock → wpList P ops Q rest (a.put o.dst v') w') : wpList P ops Q (o :: rest) a w := by
  subst hk
  obtain ⟨xs, news, hrow, hsrc, h1', hpush⟩ := hG.rows hr h1 hB (Nat.le_trans hB hw)
  exact wpList_app w hgd s x ty ho base e i z t.k bytes ht hi hz hsize hby hzs hsz v l.length xs hs hrow A n c news hx hsrc h1' h63 hbytes hw fun v' w' q1 q2 _ => h v' w' (hpush w' v' q1 q2) q2
/-- One struct more behind a call's own row, each owning what it holds: the step of a drawn region. -/
theorem GrowO.step (hgd : o.guard = none) (s x : Operand) (ty : TypeId) (ho : o.op = .call { callee := .builtin .append, args := #[s, x], argTypes := #[ty, ty] })
    (i : TypeInfo) (z : Value) (size bytes : Nat) (ht : P.underlying ty = some (.slice e)) (hi : P.info? e = some i) (hz : i.zero = some z) (hsize : i.size = size) (hby : i.bytes = bytes) (hzs : z.cells.size = size) (hsz : 0 < size) (hk : t.k = size)
    (hs : a.eval s = v) (hG : GrowO t e w base v l F) (g : Nat) (es : List Value) (el : α) {Fa : List Nat} (hx : a.eval x = .slice (some ⟨g, 0, none⟩) 1 1) (hb : Box w g e es.toArray) (hO : t.O w es el Fa) (hN : New base Fa) (hd : ∀ f ∈ Fa, f ∉ F) (hv : ∀ b, v.ownBlock = some b → b ∉ Fa) (h1 : ∀ u ∈ es, u.oneCell' = true)
    (hw : base ≤ w.heap.size) (h63 : l.length + 1 ≤ maxLen) (hbytes : (l.length + 1) * bytes ≤ 140737488355328)
    (h : ∀ v' w', GrowO t e w' base v' (l ++ [el]) (F ++ Fa) → w.grownBy w' v.ownBlock → K (a.put o.dst v') w') :
    if Region.wanted o (yielded ops a.tmps) = true then Oper.wp P o a w K Q else E := by
  subst hk
  obtain ⟨xs, hrow, hpush⟩ := hG.row
  exact step_app5 w hgd s x ty ho base e i z t.k bytes ht hi hz hsize hby hzs hsz v l.length xs hs hrow _ 1 1 es hx (Src.of_boxed hb (t.lenO hO)) h1 h63 hbytes hw fun v' w' q1 q2 q3 => h v' w' (hpush w' v' el es Fa hO hN hd hv q1 q2 q3) q2
/-- The same in a plain region. -/
theorem GrowO.push (hgd : o.guard = none) (s x : Operand) (ty : TypeId) (ho : o.op = .call { callee := .builtin .append, args := #[s, x], argTypes := #[ty, ty] })
    (i : TypeInfo) (z : Value) (size bytes : Nat) (ht : P.underlying ty = some (.slice e)) (hi : P.info? e = some i) (hz : i.zero = some z) (hsize : i.size = size) (hby : i.bytes = bytes) (hzs : z.cells.size = size) (hsz : 0 < size) (hk : t.k = size)
    (hs : a.eval s = v) (hG : GrowO t e w base v l F) (g : Nat) (es : List Value) (el : α) {Fa : List Nat} (hx : a.eval x = .slice (some ⟨g, 0, none⟩) 1 1) (hb : Box w g e es.toArray) (hO : t.O w es el Fa) (hN : New base Fa) (hd : ∀ f ∈ Fa, f ∉ F) (hv : ∀ b, v.ownBlock = some b → b ∉ Fa) (h1 : ∀ u ∈ es, u.oneCell' = true)
    (hw : base ≤ w.heap.size) (h63 : l.length + 1 ≤ maxLen) (hbytes : (l.length + 1) * bytes ≤ 140737488355328)
    (h : ∀ v' w', GrowO t e w' base v' (l ++ [el]) (F ++ Fa) → w.grownBy w' v.ownBlock → wpList P ops Q rest (a.put o.dst v') w') : wpList P ops Q (o :: rest) a w := by
  subst hk
  obtain ⟨xs, hrow, hpush⟩ := hG.row
  exact wpList_app w hgd s x ty ho base e i z t.k bytes ht hi hz hsize hby hzs hsz v l.length xs hs hrow _ 1 1 es hx (Src.of_boxed hb (t.lenO hO)) h1 h63 hbytes hw fun v' w' q1 q2 q3 => h v' w' (hpush w' v' el es Fa hO hN hd hv q1 q2 q3) q2
end
end Go.Proofs.YtaabmaoldhoinaaGreat
namespace Go.Proofs.YtaabmaoldhoinaaGreat.Fld

/-! ### Fermat's little theorem, for any p that is coprime to all smaller numbers -/
def ch : Nat → Nat → Nat
  | _, 0 => 1
  | 0, _ + 1 => 0
  | n + 1, k + 1 => ch n k + ch n (k + 1)

def S (a n : Nat) : Nat → Nat
  | 0 => 0
  | m + 1 => S a n m + ch n m * a ^ m
def Prim (p : Nat) : Prop := 2 ≤ p ∧ ∀ k, 0 < k → k < p → Nat.Coprime p k

/-! ### 2147483647 is prime -/
def nd (p : Nat) : Nat → Bool
  | 0 => true
  | n + 1 => p % (n + 2) != 0 && nd p n
theorem nd_at (p : Nat) : ∀ n, nd p n = true → ∀ d, 2 ≤ d → d < n + 2 → p % d ≠ 0
  | 0, _, d, h1, h2 => by omega
  | n + 1, h, d, h1, h2 => by
    simp only [nd, Bool.and_eq_true, bne_iff_ne] at h
    by_cases e : d = n + 2
    · rw [e]; exact h.1
    · exact nd_at p n h.2 d h1 (by omega)

theorem prim_of (p m : Nat) (h2 : 2 ≤ p) (hnd : nd p m = true) (hm : p < (m + 2) * (m + 2)) : Prim p := by
  refine ⟨h2, fun k h0 h1 => ?_⟩
  have hd1 : Nat.gcd p k ∣ p := Nat.gcd_dvd_left p k
  have hd2 : Nat.gcd p k ≤ k := Nat.gcd_le_right p h0
  have hd0 : 0 < Nat.gcd p k := Nat.gcd_pos_of_pos_right p h0
  show Nat.gcd p k = 1
  generalize Nat.gcd p k = d at *
  obtain ⟨e, he⟩ := hd1
  by_cases hd : d = 1
  · exact hd
  exfalso
  have he0 : e ≠ 0 := by intro h; rw [h] at he; omega
  have he1 : e ≠ 1 := by intro h; rw [h] at he; omega
  by_cases hc : d < m + 2
  · exact nd_at p m hnd d (by omega) hc (by rw [he]; exact Nat.mul_mod_right d e)
  · by_cases hc2 : e < m + 2
    · exact nd_at p m hnd e (by omega) hc2 (by rw [he]; exact Nat.mul_mod_left d e)
    · have : (m + 2) * (m + 2) ≤ d * e := Nat.mul_le_mul (by omega) (by omega)
      omega

theorem prime : Prim 2147483647 := prim_of 2147483647 46340 (by omega) (by decide +kernel) (by omega)

/-! ### the field's operations as the program's contracts have them -/
def addP (a b : Int) : Int := (a + b) % 2147483647
def mulP (a b : Int) : Int := a * b % 2147483647
def powP (a : Int) (n : Nat) : Int := a ^ n % 2147483647
def keyP (s l : Int) : Int := (((s + 7919 * l + 1) * 48271 % 2147483647 + l + 17) * 69621 % 2147483647 + s) % 2147483647

/-! ### what each function of chapter 1 answers -/
def Ok (a : Int) : Prop := 0 ≤ a ∧ a < 2147483647
def Sec (n : Int) : Prop := 1 ≤ n ∧ n < 2147483646
def Pub (n : Int) : Prop := 2 ≤ n ∧ n < 2147483646
def Lab (n : Int) : Prop := 0 ≤ n ∧ n ≤ 99
theorem Ok.lo {a : Int} (h : Ok a) : 0 ≤ a := h.1
theorem Ok.hi {a : Int} (h : Ok a) : a < 2147483647 := h.2
theorem Sec.lo {a : Int} (h : Sec a) : 1 ≤ a := h.1
theorem Sec.hi {a : Int} (h : Sec a) : a < 2147483646 := h.2
theorem Pub.lo {a : Int} (h : Pub a) : 2 ≤ a := h.1
theorem Pub.hi {a : Int} (h : Pub a) : a < 2147483646 := h.2
theorem Lab.lo {a : Int} (h : Lab a) : 0 ≤ a := h.1
theorem Lab.hi {a : Int} (h : Lab a) : a ≤ 99 := h.2
def shared (s p : Int) : Int := if (1 ≤ s ∧ s < 2147483646) ∧ (2 ≤ p ∧ p < 2147483646) then powP p s.toNat else -1
/-! ### a list of powers -/
end Go.Proofs.YtaabmaoldhoinaaGreat.Fld
namespace Go.Proofs.YtaabmaoldhoinaaGreat
set_option maxRecDepth 100000
open Go.ChangeShapes Go.WideShapes Go.ChangeAt Go.RowKit
open Fld

theorem ret_bool {a b : Bool} (h : a = b) : Ending.returned (.bool a) = .returned (.bool b) := by rw [h]

end Go.Proofs.YtaabmaoldhoinaaGreat
namespace Go.Proofs.YtaabmaoldhoinaaGreat
set_option maxRecDepth 100000
open Go.ChangeShapes Go.WideShapes Go.ChangeAt Go.RowKit

theorem bel_alloc {w w' : World} (h : Below w.heap.size w w') (o : Obj) : Below w.heap.size w (w'.alloc o) := h.alloc h.size o
theorem bel_put {w w' : World} (h : Below w.heap.size w w') {p : Addr} (hp : w.heap.size ≤ p.block) (u : Value) : Below w.heap.size w (w'.setCell p u) := h.setCell hp u
theorem bel_drew {w w' : World} (h : Below w.heap.size w w') : Below w.heap.size w w'.drew := h.drew
theorem belx {w w' : World} (h : Below w.heap.size w w' := by repeat (first | (with_reducible exact Below.refl _ _) | (with_reducible assumption) | (with_reducible refine bel_alloc ?_ _) | (with_reducible refine bel_drew ?_) | (with_reducible refine below_drewN ?_ _) | (with_reducible refine bel_put ?_ (by first | exact Nat.le_refl _ | (simp; done) | (simp; omega)) _))) : Below w.heap.size w w' := h
theorem qa_ {α : Type} (l : List α) (i : Nat) (a : α) : l.toArray.setIfInBounds i a = (l.set i a).toArray := List.setIfInBounds_toArray ..
theorem qb_ {α : Type} (a : α) (xs : List α) (b : α) : (a :: xs).set 0 b = b :: xs := rfl
theorem qc_ {α : Type} (a : α) (xs : List α) (n : Nat) (b : α) : (a :: xs).set (n + 1) b = a :: xs.set n b := rfl
theorem bel_trans {a w w' : World} (h : Below a.heap.size a w) (h' : Below w.heap.size w w') : Below a.heap.size a w' := h.trans (h'.mono h.size)
theorem reach {k : IntKind} {w w' : World} {A : Option Addr} {n : Nat} {l : List Int} (h : Ints k w w.heap.size A n l) (hB : Below w.heap.size w w') : Ints k w' w'.heap.size A n l := (h.below hB).up hB.size
theorem getDtk {l : List Int} {n i : Nat} (h : i < n) : (l.take n).getD i 0 = l.getD i 0 := by
  rw [List.getD_eq_getElem?_getD, List.getElem?_take, if_pos h, List.getD_eq_getElem?_getD]
theorem Ints.head {k : IntKind} {w : World} {B n : Nat} {A : Option Addr} {l : List Int} (h : Ints k w B A n l) (m : Nat) (hm : m ≤ n) : Ints k w B A m (l.take m) := by
  refine ⟨by rw [List.length_take, h.1]; omega, fun h0 => ?_, fun x hx => h.2.2 x (List.mem_of_mem_take hx)⟩
  obtain ⟨b, off, e, hb, hc⟩ := h.2.1 (by omega)
  exact ⟨b, off, e, hb, fun i hi => by rw [Go.Proofs.YtaabmaoldhoinaaGreat.getDtk hi]; exact hc i (by omega)⟩
theorem Own.far {k : IntKind} {e : TypeId} {w : World} {base g : Nat} {v : Value} {l : List Int} (h : Own k e w base v l) (hg : g < base) (j : Nat) (u : Value) : Own k e (w.setCell ⟨g, j, none⟩ u) base v l :=
  h.kept (gb_put (World.grownBy.refl _ _) j u) (by
    cases hv : v.ownBlock with
    | none => exact .inl rfl
    | some b => exact .inr (fun e => by have := (h.block hv).1; injection e; omega))
theorem cell_bel {w w' : World} {b o : Nat} {v : Value} (h : Below w.heap.size w w') (hc : w.cell? ⟨b, o, none⟩ = some v) : w'.cell? ⟨b, o, none⟩ = some v :=
  (World.cell?_of_block (h.block b (World.block_lt_of_cell? w _ hc))).trans hc
end Go.Proofs.YtaabmaoldhoinaaGreat
namespace Go.Proofs.YtaabmaoldhoinaaGreat
open Go.ChangeShapes Go.WideShapes Go.ChangeAt Go.RowKit
theorem sliceO.row {K : IntKind} {w : World} {n c : Nat} {A : Option Addr} {l : List Int} {F : List Nat} (h : sliceO K w [.slice A n c] l F) (hn : 0 < n) :
    ∃ g off, A = some ⟨g, off, none⟩ ∧ l.length = n ∧ n ≤ c ∧ c ≤ 9223372036854775807 ∧ (∀ i, i < n → w.cell? ⟨g, off + i, none⟩ = some (.int K (l.getD i 0))) ∧ (∀ i, w.frozen? ⟨g, i, none⟩ = false) ∧ F = [g] ∧ g < w.heap.size := by
  rcases h with ⟨A, c, h1, h2, rfl, _⟩ | ⟨g, off, c, cur, t, h1, h2, h3, h4, h5, h6, h7, rfl⟩
  · injection h1 with h1 _; injection h1 with _ e2 _; omega
  · injection h1 with h1 _; injection h1 with e1 e2 e3
    subst e1 e2 e3
    exact ⟨g, off, rfl, rfl, h3, h4, fun i hi => by rw [Box.cell (t := t) h5]; exact h6 i hi, fun i => Box.frozen (t := t) h5 i, rfl, Box.size (t := t) h5⟩
theorem sliceO.len {K : IntKind} {w : World} {n c : Nat} {A : Option Addr} {l : List Int} {F : List Nat} (h : sliceO K w [.slice A n c] l F) : l.length = n ∧ n ≤ c ∧ c ≤ 9223372036854775807 := by
  rcases h with ⟨A, c, h1, h2, rfl, _⟩ | ⟨g, off, c, cur, t, h1, h2, h3, h4, h5, h6, h7, rfl⟩
  · injection h1 with h1 _; injection h1 with _ e2 e3; subst e2 e3; exact ⟨rfl, Nat.zero_le _, h2⟩
  · injection h1 with h1 _; injection h1 with e1 e2 e3
    subst e1 e2 e3
    exact ⟨rfl, h3, h4⟩
theorem sliceO.put {K : IntKind} {w : World} {n c g off : Nat} {l : List Int} {F : List Nat} (h : sliceO K w [.slice (some ⟨g, off, none⟩) n c] l F) {i : Nat} (hi : i < n) {x : Int} (hx : (Lit.int K x).wf = true) :
    sliceO K (w.setCell ⟨g, off + i, none⟩ (.int K x)) [.slice (some ⟨g, off, none⟩) n c] (l.set i x) F := by
  rcases h with ⟨A, c, h1, h2, rfl, _⟩ | ⟨g, off, c, cur, t, h1, h2, h3, h4, h5, h6, h7, rfl⟩
  · injection h1 with h1 _; injection h1 with _ e2 _; omega
  · injection h1 with h1 _; injection h1 with e1 e2 e3
    injection e1 with e1
    injection e1 with e1 e4
    subst e1 e2 e3 e4
    have hb : off + i < cur.size := by
      have := h6 i hi
      by_cases hl : off + i < cur.size
      · exact hl
      · rw [Array.getElem?_eq_none (by omega)] at this; cases this
    refine .inr ⟨g, off, c, _, t, by rw [List.length_set], by rw [List.length_set]; omega, by rw [List.length_set]; omega, h4, Box.put (t := t) h5 (off + i) _, fun j hj => ?_, fun y hy => ?_, rfl⟩
    · rw [List.length_set] at hj
      rw [Array.getElem?_setIfInBounds]
      by_cases hij : off + i = off + j
      · have : i = j := by omega
        subst this
        rw [if_pos rfl, if_pos hb, List.getD_eq_getElem?_getD, List.getElem?_set_self hj]; rfl
      · rw [if_neg hij, h6 j hj, List.getD_eq_getElem?_getD, List.getD_eq_getElem?_getD, List.getElem?_set_ne (by omega)]
    · rcases List.mem_or_eq_of_mem_set hy with h' | rfl
      · exact h7 y h'
      · exact hx
theorem sliceO.nilO {K : IntKind} {w : World} {n c : Nat} {A : Option Addr} {F : List Nat} (h : sliceO K w [.slice A n c] [] F) : n = 0 ∧ F = [] := by
  rcases h with ⟨A, c, h1, h2, _, rfl⟩ | ⟨g, off, c, cur, t, h1, h2, _⟩
  · injection h1 with h1 _; injection h1 with _ e2 _; exact ⟨e2, rfl⟩
  · simp at h2
/-- A slice that reads, as integers. -/
theorem slR_ints {K : IntKind} {w : World} {B n c : Nat} {A : Option Addr} {l : List Int} (h : (tSl K).R w B [.slice A n c] l) : Ints K w B A n l ∧ n ≤ c ∧ c ≤ 9223372036854775807 := by
  obtain ⟨A', n', c', h1, h2, h3, h4⟩ := h
  injection h1 with h1 _; injection h1 with e1 e2 e3
  subst e1 e2 e3
  exact ⟨h4, h2, h3⟩
theorem ints_slR {K : IntKind} {w : World} {B n c : Nat} {A : Option Addr} {l : List Int} (h : Ints K w B A n l) (h1 : n ≤ c) (h2 : c ≤ 9223372036854775807) : (tSl K).R w B [.slice A n c] l := ⟨A, n, c, rfl, h1, h2, h⟩
theorem ret_int {a b : Int} (h : a = b) : Ending.returned (.int .i64 a) = .returned (.int .i64 b) := by rw [h]
theorem Ty.far {α : Type} {t : Ty α} {w : World} {cs : List Value} {a : α} {F : List Nat} {B : Nat} (h : t.O w cs a F) (hN : New B F) {p : Addr} (hp : p.block < B) (u : Value) : t.O (w.setCell p u) cs a F :=
  t.kept h fun f hf => Below.heap_setCell w p u f (by rintro rfl; have := hN.2 _ hf; omega)
/-- A cell of an element, behind what left the old blocks alone. -/
theorem cell_at {w w' : World} {b o : Nat} {v : Value} (hB : Below w.heap.size w w') (hb : b < w.heap.size) (h : w.cell? ⟨b, o, none⟩ = some v) : w'.cell? ⟨b, o, none⟩ = some v :=
  (World.cell?_of_block (hB.block b hb)).trans h
theorem New.only {B : Nat} {F : List Nat} (h : New B F) : F.Nodup := h.1
end Go.Proofs.YtaabmaoldhoinaaGreat
namespace Go.Proofs.YtaabmaoldhoinaaGreat
set_option maxRecDepth 100000
set_option linter.unusedVariables false
set_option linter.unusedSimpArgs false
open Go.ChangeShapes Go.WideShapes Go.ChangeAt Go.RowKit
/-- A held cell in order: its next node, its time, and so many bytes. -/
def HdN (a d : Int) (n : Nat) : Prop := 0 ≤ a ∧ a < 8 ∧ 0 ≤ d ∧ d ≤ 65535 ∧ n = 80
instance (a d : Int) (n : Nat) : Decidable (HdN a d n) := by unfold HdN; infer_instance
def HdOk (p : DHeld) : Prop := HdN p.1 p.2.1 p.2.2.length
instance (p : DHeld) : Decidable (HdOk p) := by unfold HdOk; infer_instance
end Go.Proofs.YtaabmaoldhoinaaGreat
namespace Go.Proofs.YtaabmaoldhoinaaGreat
set_option maxRecDepth 100000
set_option linter.unusedVariables false
set_option linter.unusedSimpArgs false
open Go.ChangeShapes Go.WideShapes Go.ChangeAt Go.RowKit
open Fld
instance (a : Int) : Decidable (Ok a) := by unfold Ok; infer_instance
/-- A pool in order. -/
def PlOk (p : DPool) : Prop := (p.1.length ≤ 12 ∧ p.2.length ≤ 60) ∧ (∀ h ∈ p.1, HdOk h) ∧ (∀ x ∈ p.2, Ok x) ∧ p.2.Nodup
instance (p : DPool) : Decidable (PlOk p) := by unfold PlOk; infer_instance
section
variable {α : Type} {P : α → Prop} {l : List α} {a : α} {j : Nat}
theorem all_zero : ∀ h ∈ l.take 0, P h := fun h hh => absurd hh (by simp)
theorem all_sn (h : ∀ x ∈ l.take j, P x) (hl : l[j]? = some a) (ha : P a) : ∀ x ∈ l.take (j + 1), P x := by
  rw [take_sn hl]
  intro x hx
  rcases List.mem_append.1 hx with h' | h'
  · exact h x h'
  · rw [List.mem_singleton] at h'; rw [h']; exact ha
theorem all_end (h : ∀ x ∈ l.take j, P x) (hj : l.length ≤ j) : ∀ x ∈ l, P x := by rwa [List.take_of_length_le hj] at h
theorem mem_at (hl : l[j]? = some a) : a ∈ l := List.mem_of_getElem? hl
end
theorem get_at {l : List Int} {n j : Nat} (h : l.length = n) (hj : j < n) : l[j]? = some (l.getD j 0) := by
  rw [List.getD_eq_getElem?_getD, List.getElem?_eq_getElem (by omega)]; rfl
theorem s_l4has {w : World} {B n c : Nat} {A : Option Addr} {l : List Int} (x : Int) (hl : Ints .i64 w B A n l) (hn : n ≤ 17592186043904) :
    Calls Tryz.prog 67 #[.slice A n c, .int .i64 x] w fun e w' => e = .returned (.bool (decide (x ∈ l))) ∧ w = w' := by
  have HL := Lib.hid hl.1
  go_enter Tryz.func67, Tryz.ntmps67
  go_wp2_with fail
  go_loop [5] (fun i => ∃ j : Nat, j ≤ n ∧ i = .int .i64 j ∧ ∀ y ∈ l.take j, y ≠ x) (fun i => n - (RowKit.intOf i).toNat)
  case atStart => exact ⟨0, by omega, rfl, all_zero⟩
  case round =>
    obtain ⟨j, hj, rfl, hG⟩ := hrel
    have HG := Lib.hid hG
    clear hG
    by_cases hlt : j < n
    · obtain ⟨b, off, rfl, hb, hcell, hwf⟩ := hl.at_ hlt
      have HA := Lib.hid (get_at HL.out hlt)
      obtain ⟨y, hy⟩ : ∃ y, l.getD j 0 = y := ⟨_, rfl⟩
      rw [hy] at hcell HA
      clear hy hwf
      by_cases he : y = x
      · subst he
        have HR := Lib.hid (show decide (y ∈ l) = true from decide_eq_true (mem_at HA.out))
        go_wp2
        go_ret
        exact ⟨ret_bool HR.out.symm, rfl⟩
      · have q : (y == x) = false := by simpa using he
        have HN := Lib.hid he
        clear he
        go_wp2
        go_round
        case rel => exact ⟨j + 1, by omega, by go_num, all_sn HG.out HA.out HN.out⟩
        case measure => simp [RowKit.intOf]; omega
    · obtain rfl : j = n := by omega
      have HR := Lib.hid (show decide (x ∈ l) = false from decide_eq_false fun hx => all_end HG.out (Nat.le_of_eq HL.out) x hx rfl)
      go_wp2
      go_ret
      exact ⟨ret_bool HR.out.symm, rfl⟩
end Go.Proofs.YtaabmaoldhoinaaGreat
namespace Go.Proofs.YtaabmaoldhoinaaGreat
set_option linter.unusedVariables false
open Fld
/-! ### Forget -/
/-! ### Expire -/
/-! ### Admit -/
def AdOk (p : DPool) (h : DHeld) (tag : Int) : Prop := PlOk p ∧ HdOk h ∧ Ok tag
instance (p : DPool) (h : DHeld) (tag : Int) : Decidable (AdOk p h tag) := by unfold AdOk; infer_instance
end Go.Proofs.YtaabmaoldhoinaaGreat
namespace Go.Proofs.YtaabmaoldhoinaaGreat
open Go.RowKit

theorem wf_i64 {x : Int} (h1 : -9223372036854775808 ≤ x) (h2 : x ≤ 9223372036854775807) : (Lit.int .i64 x).wf = true := WalkArith.wf_i64 ⟨by omega, by omega⟩
theorem own_sn {k : IntKind} {e : TypeId} {w w1 : World} {base : Nat} {v v1 : Value} {l l' : List Int} {x : Int} (h : Own k e w base v l) (h1 : w1.ownsRow base e 1 v1 (l.length + 1) (l.map (Value.int k) ++ [.int k x])) (hl : l' = l ++ [x]) (hx : (Lit.int k x).wf = true) : Own k e w1 base v1 l' := by
  subst hl
  refine Own.of (n := l.length + 1) (by simpa using h1) fun y hy => ?_
  rcases List.mem_append.1 hy with h' | h'
  · exact h.2 y h'
  · rw [List.mem_singleton] at h'; rw [h']; exact hx
theorem below_sn {k : IntKind} {e : TypeId} {w wr w1 : World} {base : Nat} {v : Value} {l : List Int} {o : Obj} (hB : Below w.heap.size w wr) (h : Own k e wr base v l) (hb : w.heap.size ≤ base) (hg : (wr.alloc o).grownBy w1 v.ownBlock) : Below w.heap.size w w1 :=
  (hB.alloc hB.size o).grown hg (by simp; have := hB.size; omega) fun b hb' => by have := (h.1.lt b hb').1; omega
theorem box_sn {k : IntKind} {e : TypeId} {wr w1 : World} {base g : Nat} {t : TypeId} {cs : Array Value} {v : Value} {l : List Int} {o : Obj} (hX : Box wr g t cs) (h : Own k e wr base v l) (hb : g < base) (hg : (wr.alloc o).grownBy w1 v.ownBlock) : Box w1 g t cs :=
  (hX.alloc o).grown hg fun e => by have := (h.1.lt g e.symm).1; omega
end Go.Proofs.YtaabmaoldhoinaaGreat
namespace Go.Proofs.YtaabmaoldhoinaaGreat
open Go.RowKit
theorem own_slice {K : IntKind} {e : TypeId} {w : World} {base : Nat} {v : Value} {l : List Int} (h : Own K e w base v l) : ∃ A c F, v = .slice A l.length c ∧ (tSl K).O w [.slice A l.length c] l F ∧ New base F := by
  obtain ⟨F, hF, hN⟩ := h.tSl
  obtain ⟨A, c, e1, _, _⟩ := slO_one hF
  injection e1 with e1 _
  subst e1
  exact ⟨A, c, F, rfl, hF, hN⟩
theorem nilO {K : IntKind} {w : World} : (tSl K).O w [.slice none 0 0] [] [] := .inl ⟨none, 0, rfl, by omega, rfl, rfl⟩
end Go.Proofs.YtaabmaoldhoinaaGreat
namespace Go.Proofs.YtaabmaoldhoinaaGreat
set_option maxRecDepth 100000
set_option linter.unusedVariables false
set_option linter.unusedSimpArgs false
open Go.ChangeShapes Go.WideShapes Go.ChangeAt Go.RowKit
open Fld
theorem empty9 (w : World) (t : TypeId) : (w.alloc (.cells #[] t)).ownsRow w.heap.size t 1 (.slice (some ⟨w.heap.size, 0, none⟩) 0 0) 0 [] :=
  ⟨rfl, .inr ⟨w.heap.size, 0, #[], rfl, Nat.le_refl _, heap_alloc_new w _, Nat.le_refl _, by simp only [maxLen]; omega, rfl, rfl⟩⟩
theorem Ty.far3 {α : Type} {t : Ty α} {w : World} {cs : List Value} {a : α} {F : List Nat} (h : t.O w cs a F) {p : Addr} (hp : p.block ∉ F) (u : Value) : t.O (w.setCell p u) cs a F :=
  t.kept h fun f hf => Below.heap_setCell w p u f (by rintro rfl; exact hp hf)
theorem i_copiedB5 {w : World} {n c : Nat} {A : Option Addr} {l : List Int} (hl : Ints .u8 w w.heap.size A n l) (hn : n ≤ 1048576) :
    Calls Tryz.prog 82 #[.slice A n c] w fun e w' => ∃ v, e = .returned v ∧ Own .u8 5 w' w.heap.size v l ∧ Below w.heap.size w w' := by
  obtain ⟨i0, hi0, hz0, hz1, hz2⟩ := info_parts info_cb
  go_enter Tryz.func82, Tryz.ntmps82
  go_wp2_with (at_builtin; refine wpList_app _ rfl _ (.tmp 3) _ rfl w.heap.size 5 i0 _ 1 1 Tryz.underlying26 hi0 hz0 hz1 hz2 rfl (by omega) (.slice none 0 0) 0 [] rfl (World.ownsRow_nil _ _ _ _) _ n c (l.map (Value.int .u8)) rfl (Src.of_ints hl) (one_ints _ _) (by simp only [maxLen]; omega) (by omega) (Nat.le_refl _) ?_; intro v1 w1 hown hgr hat)
  go_ret
  exact ⟨v1, rfl, Own.of (n := 0 + n) (by simpa using hown) hl.2.2, Below.grown (Below.refl _ _) hgr (Nat.le_refl _) fun b hb => by simp [Value.ownBlock] at hb⟩
end Go.Proofs.YtaabmaoldhoinaaGreat
namespace Go.Proofs.YtaabmaoldhoinaaGreat
set_option maxRecDepth 100000
set_option linter.unusedVariables false
set_option linter.unusedSimpArgs false
open Go.ChangeShapes Go.WideShapes Go.ChangeAt Go.RowKit
open Fld
theorem slO_own {K : IntKind} {w : World} {v : Value} {l : List Int} {F : List Nat} (h : (tSl K).O w [v] l F) : ∀ f ∈ F, v.ownBlock = some f := by
  intro f hf
  rcases h with ⟨A, c, _, _, _, rfl⟩ | ⟨g, off, c, cur, t, h1, h2, h3, h4, h5, h6, h7, rfl⟩
  · exact absurd hf (by simp)
  · injection h1 with h1 _
    rw [List.mem_singleton] at hf
    rw [h1, hf]; rfl
/-- What an append of integers leaves of another's blocks. -/
theorem own_past {α : Type} {t : Ty α} {w w' : World} {cs : List Value} {a : α} {F : List Nat} {row : Option Nat} (h : t.O w cs a F) (hg : w.grownBy w' row) (hr : ∀ b, row = some b → b ∉ F) : t.O w' cs a F :=
  t.kept h fun f hf => hg.block f (t.lt h f hf) fun e => hr f e.symm hf
theorem new_pair {B : Nat} {F G : List Nat} (hF : New B F) (hG : New B G) (hd : ∀ f ∈ F, f ∉ G) : New B (F ++ G) :=
  ⟨List.nodup_append.2 ⟨hF.1, hG.1, fun x hx y hy e => hd x hx (e ▸ hy)⟩, fun f hf => by
    rcases List.mem_append.1 hf with h | h
    · exact hF.2 f h
    · exact hG.2 f h⟩
theorem i_copiedI5 {w : World} {n c : Nat} {A : Option Addr} {l : List Int} (hl : Ints .i64 w w.heap.size A n l) (hn : n ≤ 1048576) :
    Calls Tryz.prog 52 #[.slice A n c] w fun e w' => ∃ v, e = .returned v ∧ Own .i64 3 w' w.heap.size v l ∧ Below w.heap.size w w' := by
  obtain ⟨i0, hi0, hz0, hz1, hz2⟩ := info_parts info_ci
  go_enter Tryz.func52, Tryz.ntmps52
  go_wp2_with (at_builtin; refine wpList_app _ rfl _ (.tmp 3) _ rfl w.heap.size 3 i0 _ 1 8 Tryz.underlying23 hi0 hz0 hz1 hz2 rfl (by omega) (.slice none 0 0) 0 [] rfl (World.ownsRow_nil _ _ _ _) _ n c (l.map (Value.int .i64)) rfl (Src.of_ints hl) (one_ints _ _) (by simp only [maxLen]; omega) (by omega) (Nat.le_refl _) ?_; intro v1 w1 hown hgr hat)
  go_ret
  exact ⟨v1, rfl, Own.of (n := 0 + n) (by simpa using hown) hl.2.2, Below.grown (Below.refl _ _) hgr (Nat.le_refl _) fun b hb => by simp [Value.ownBlock] at hb⟩

end Go.Proofs.YtaabmaoldhoinaaGreat
namespace Go.Proofs.YtaabmaoldhoinaaGreat
set_option linter.unusedVariables false
open Go.RowKit
/-- The blocks of a row and of what its elements own. -/
def Blk (v : Value) (F : List Nat) (b : Nat) : Prop := v.ownBlock = some b ∨ b ∈ F
section
variable {α : Type} {t : Ty α} {e : TypeId} {w w' : World} {base B : Nat} {v : Value} {l : List α} {F : List Nat}
theorem GrowO.lower (h : GrowO t e w base v l F) (hb : B ≤ base) : GrowO t e w B v l F := by
  obtain ⟨⟨css, Fs, k1, k2, k3, k4, k5⟩, k6, k7⟩ := h
  exact ⟨⟨css, Fs, ⟨k1.1, k1.2.imp id (fun ⟨g, cap, cur, e1, hg, r⟩ => ⟨g, cap, cur, e1, Nat.le_trans hb hg, r⟩)⟩, k2, k3, k4, k5⟩, k6.lower hb, k7⟩
theorem GrowO.blk (h : GrowO t e w base v l F) : ∀ b, Blk v F b → base ≤ b ∧ b < w.heap.size := fun b hb => by
  rcases hb with hb | hb
  · exact h.own b hb
  · exact ⟨h.2.1.2 b hb, h.lt b hb⟩
/-- The row's blocks, when it is done growing. -/
theorem GrowO.done2 (h : GrowO t e w base v l F) : ∃ A c F', v = .slice A l.length c ∧ t.row.O w [.slice A l.length c] l F' ∧ F'.Nodup ∧ ∀ f ∈ F', Blk v F f := by
  obtain ⟨⟨css, Fs, h1, h2, h3, rfl, h5⟩, h6, h7⟩ := h
  rcases h1.2 with ⟨rfl, h0⟩ | ⟨g, cap, cur, rfl, hb, hg, hn, hm, hs, ht⟩
  · have : l = [] := List.eq_nil_of_length_eq_zero h0
    subst this
    exact ⟨none, 0, [], rfl, .inl ⟨none, 0, rfl, by omega, rfl, rfl⟩, List.nodup_nil, fun f hf => by simp at hf⟩
  · by_cases h0 : 0 < l.length
    · refine ⟨_, cap, g :: Fs.flatten, rfl, .inr ⟨g, 0, cap, cur, e, Fs, rfl, h0, hn, by simp only [maxLen] at hm; omega, hg, h3, rfl, fun i a Fi q1 q2 => ?_⟩, List.nodup_cons.2 ⟨h7 g rfl, h6.1⟩, fun f hf => ?_⟩
      · have hi : i < l.length := (List.getElem?_eq_some_iff.1 q1).1
        have hc : css[i]? = some (css[i]'(by omega)) := List.getElem?_eq_getElem (by omega)
        refine ⟨_, fun j hj => ?_, h5 i a _ Fi q1 hc q2⟩
        have hlen : ∀ es ∈ css, es.length = t.k := fun es hes => by
          obtain ⟨i', hi', rfl⟩ := List.getElem_of_mem hes
          exact t.lenO (h5 i' _ _ _ (List.getElem?_eq_getElem (by omega)) (List.getElem?_eq_getElem hi') (List.getElem?_eq_getElem (by omega)))
        have hb2 : (i + 1) * t.k ≤ l.length * t.k := Nat.mul_le_mul_right _ hi
        rw [Nat.succ_mul] at hb2
        rw [← flat_at hlen hc hj, ← ht, List.getElem?_take, if_pos (by omega)]
        simp
      · rcases List.mem_cons.1 hf with rfl | hf
        · exact .inl rfl
        · exact .inr hf
    · have : l = [] := List.eq_nil_of_length_eq_zero (by omega)
      subst this
      exact ⟨_, cap, [], rfl, .inl ⟨_, cap, rfl, by simp only [maxLen] at hm; omega, rfl, rfl⟩, List.nodup_nil, fun f hf => by simp at hf⟩
end
section
variable {α : Type} {t : Ty α} {e : TypeId} {w w' : World} {base B : Nat} {v : Value} {l : List α} {F : List Nat}
/-- A row stays where another one grows. -/
theorem GrowO.past {row : Option Nat} (h : GrowO t e w base v l F) (hg : w.grownBy w' row) (hr : ∀ b, row = some b → ¬ Blk v F b) : GrowO t e w' base v l F := by
  have hlt := h.lt
  obtain ⟨⟨css, Fs, k1, k2, k3, rfl, k5⟩, k6, k7⟩ := h
  refine ⟨⟨css, Fs, k1.kept (row := row) hg ?_, k2, k3, rfl, fun i a es Fi q1 q2 q3 => own_past (k5 i a es Fi q1 q2 q3) hg fun b hb hx => hr b hb (.inr (mem_flat q3 hx))⟩, k6, k7⟩
  cases hv : v.ownBlock with
  | none => exact .inl rfl
  | some b => exact .inr fun e => hr b e.symm (.inl hv)
end
theorem GrowO.noBox {α : Type} {t : Ty α} {e T : TypeId} {w : World} {base pb : Nat} {v : Value} {l : List α} {F : List Nat} {cs : Array Value} (h : GrowO t e w base v l F) (hb : Box w pb T cs) (hT : T ≠ e) : v.ownBlock ≠ some pb := by
  intro ho
  obtain ⟨⟨css, Fs, k1, -⟩, -⟩ := h
  rcases k1.2 with ⟨rfl, -⟩ | ⟨g, cap, cur, rfl, -, hg, -⟩
  · cases ho
  · injection ho with ho
    have ho' : g = pb := ho
    subst ho'
    unfold Box at hb
    rw [hg] at hb
    injection hb with hb
    injection hb with _ hb _
    exact hT hb.symm
theorem GrowO.off {α : Type} {t : Ty α} {e : TypeId} {w : World} {base b i : Nat} {v : Value} {l : List α} {F : List Nat} (h : GrowO t e w base v l F) (hb : ¬ Blk v F b) (u : Value) : GrowO t e (w.setCell ⟨b, i, none⟩ u) base v l F :=
  h.past (gb_put (gb_self w b) i u) (fun x hx => by injection hx with hx; rw [← hx]; exact hb)
end Go.Proofs.YtaabmaoldhoinaaGreat
namespace Go.Proofs.YtaabmaoldhoinaaGreat
set_option maxRecDepth 100000
set_option linter.unusedVariables false
set_option linter.unusedSimpArgs false
open Go.ChangeShapes Go.WideShapes Go.ChangeAt Go.RowKit
theorem info_Piece : (Tryz.prog.info? 37).map (fun i => (i.zero, i.size, i.bytes)) = some (some (.agg #[.int .i64 0, .int .i64 0, .int .i64 0, .slice none 0 0]), 4, 48) := by kernel_rfl
end Go.Proofs.YtaabmaoldhoinaaGreat
namespace Go.Proofs.YtaabmaoldhoinaaGreat
set_option maxRecDepth 100000
set_option linter.unusedVariables false
set_option linter.unusedSimpArgs false
open Go.ChangeShapes Go.WideShapes Go.ChangeAt Go.RowKit
theorem info_Whole : (Tryz.prog.info? 53).map (fun i => (i.zero, i.size, i.bytes)) = some (some (.agg #[.int .i64 0, .int .i64 0, .int .i64 0, .slice none 0 0]), 4, 48) := by kernel_rfl
end Go.Proofs.YtaabmaoldhoinaaGreat
namespace Go.Proofs.YtaabmaoldhoinaaGreat
set_option linter.unusedVariables false
open Go.RowKit
section
variable {α : Type} {t : Ty α} {e : TypeId} {w w' : World} {base B n c : Nat} {v : Value} {l : List α}
theorem GrowR.empty (hb : base ≤ w.heap.size) : GrowR t e (w.alloc (.cells #[] e)) base B (.slice (some ⟨w.heap.size, 0, none⟩) 0 0) [] :=
  ⟨[], ⟨by simp, .inr ⟨w.heap.size, 0, #[], rfl, hb, heap_alloc_new w _, Nat.le_refl _, by simp only [maxLen]; omega, by simp, by simp⟩⟩, rfl, fun i a es h => by simp at h⟩
theorem GrowR.drew (h : GrowR t e w base B v l) (hw : B ≤ w.heap.size) : GrowR t e w.drew base B v l := by
  obtain ⟨css, k1, k2, k5⟩ := h
  exact ⟨css, k1.kept (row := none) (gb_drew (World.grownBy.refl _ _)) (by cases v.ownBlock <;> simp), k2, fun i a es q1 q2 => t.keep (k5 i a es q1 q2) fun b hb => rfl⟩
end
section
variable {k : IntKind} {e : TypeId} {w w' : World} {base B n c : Nat} {v : Value} {l : List Int}
theorem Own.empty (hb : base ≤ w.heap.size) : Own k e (w.alloc (.cells #[] e)) base (.slice (some ⟨w.heap.size, 0, none⟩) 0 0) [] :=
  ⟨⟨by simp, .inr ⟨w.heap.size, 0, #[], rfl, hb, heap_alloc_new w _, Nat.le_refl _, by simp only [maxLen]; omega, by simp, by simp⟩⟩, by simp⟩
theorem Own.drew (h : Own k e w base v l) : Own k e w.drew base v l := ⟨h.1.kept (row := none) (gb_drew (World.grownBy.refl _ _)) (by cases v.ownBlock <;> simp), h.2⟩
theorem Own.shapeN (h : Own k e w base v l) : ∃ A n c, v = .slice A n c ∧ n = l.length := by
  obtain ⟨A, c, rfl, _⟩ := h.shape; exact ⟨A, _, c, rfl, rfl⟩
variable {P : Program} {ops : Array Oper} {rest : List Oper} {o : Oper} {a : Act} {K : Act → World → Prop} {Q : Exit → Act → World → Prop} {E : Prop}
/-- Integers behind a call's own slice, out of one that reads: the step of a drawn region. -/
theorem Own.stepRow (hgd : o.guard = none) (s x : Operand) (ty : TypeId) (ho : o.op = .call { callee := .builtin .append, args := #[s, x], argTypes := #[ty, ty] })
    (i : TypeInfo) (z : Value) (bytes : Nat) (ht : P.underlying ty = some (.slice e)) (hi : P.info? e = some i) (hz : i.zero = some z) (hsize : i.size = 1) (hby : i.bytes = bytes) (hzs : z.cells.size = 1)
    (hs : a.eval s = v) (hG : Own k e w base v l) {A : Option Addr} {l' : List Int} (hx : a.eval x = .slice A n c) (hr : Ints k w B A n l')
    (hw : base ≤ w.heap.size) (h63 : l.length + n ≤ maxLen) (hbytes : (l.length + n) * bytes ≤ 140737488355328)
    (h : ∀ v' w', Own k e w' base v' (l ++ l') → w.grownBy w' v.ownBlock → (v'.ownBlock = v.ownBlock ∨ v'.ownBlock = some w.heap.size) → K (a.put o.dst v') w') :
    if Region.wanted o (yielded ops a.tmps) = true then Oper.wp P o a w K Q else E :=
  step_app5 w hgd s x ty ho base e i z 1 bytes ht hi hz hsize hby hzs (by omega) v l.length _ hs hG.1 A n c (l'.map (Value.int k)) hx (Src.of_ints hr) (one_ints _ _) h63 hbytes hw fun v' w' q1 q2 q3 =>
    h v' w' (Own.of (n := l.length + n) (by rw [List.map_append]; exact q1) fun y hy => by
      rcases List.mem_append.1 hy with h' | h'
      · exact hG.2 y h'
      · exact hr.2.2 y h') q2 q3
theorem Own.pushRow (hgd : o.guard = none) (s x : Operand) (ty : TypeId) (ho : o.op = .call { callee := .builtin .append, args := #[s, x], argTypes := #[ty, ty] })
    (i : TypeInfo) (z : Value) (bytes : Nat) (ht : P.underlying ty = some (.slice e)) (hi : P.info? e = some i) (hz : i.zero = some z) (hsize : i.size = 1) (hby : i.bytes = bytes) (hzs : z.cells.size = 1)
    (hs : a.eval s = v) (hG : Own k e w base v l) {A : Option Addr} {l' : List Int} (hx : a.eval x = .slice A n c) (hr : Ints k w B A n l')
    (hw : base ≤ w.heap.size) (h63 : l.length + n ≤ maxLen) (hbytes : (l.length + n) * bytes ≤ 140737488355328)
    (h : ∀ v' w', Own k e w' base v' (l ++ l') → w.grownBy w' v.ownBlock → (v'.ownBlock = v.ownBlock ∨ v'.ownBlock = some w.heap.size) → wpList P ops Q rest (a.put o.dst v') w') : wpList P ops Q (o :: rest) a w :=
  wpList_app w hgd s x ty ho base e i z 1 bytes ht hi hz hsize hby hzs (by omega) v l.length _ hs hG.1 A n c (l'.map (Value.int k)) hx (Src.of_ints hr) (one_ints _ _) h63 hbytes hw fun v' w' q1 q2 q3 =>
    h v' w' (Own.of (n := l.length + n) (by rw [List.map_append]; exact q1) fun y hy => by
      rcases List.mem_append.1 hy with h' | h'
      · exact hG.2 y h'
      · exact hr.2.2 y h') q2 q3
/-- One cell in a block reads as a slice of one. -/
theorem Ints.boxed {g : Nat} {u : Int} (hb : Box w g e #[.int k u]) (hu : (Lit.int k u).wf = true) : Ints k w w.heap.size (some ⟨g, 0, none⟩) 1 [u] := by
  refine ⟨rfl, fun _ => ⟨g, 0, rfl, hb.size, fun i hi => ?_⟩, fun x hx => by rw [List.mem_singleton] at hx; rw [hx]; exact hu⟩
  obtain rfl : i = 0 := by omega
  rw [hb.cell]; rfl
end
end Go.Proofs.YtaabmaoldhoinaaGreat
namespace Go.Proofs.YtaabmaoldhoinaaGreat
set_option maxRecDepth 100000
set_option linter.unusedVariables false
set_option linter.unusedSimpArgs false
open Go.ChangeShapes Go.WideShapes Go.ChangeAt Go.RowKit
section
variable {α : Type} {P : α → Prop} {p : α → Bool} {f : α → Int} {l : List α} {a : α} {j : Nat}
theorem al0 : ∀ h ∈ l.take 0, P h := fun h hh => absurd hh (by simp)
theorem alS (h : ∀ x ∈ l.take j, P x) (hl : l[j]? = some a) (ha : P a) : ∀ x ∈ l.take (j + 1), P x := by
  rw [take_sn hl]
  intro x hx
  rcases List.mem_append.1 hx with h' | h'
  · exact h x h'
  · rw [List.mem_singleton] at h'; rw [h']; exact ha
theorem alE (h : ∀ x ∈ l.take j, P x) (hj : l.length ≤ j) : ∀ x ∈ l, P x := by rwa [List.take_of_length_le hj] at h
theorem alMem (hl : l[j]? = some a) : a ∈ l := List.mem_of_getElem? hl
theorem alF (hl : l[j]? = some a) (h : p a = false) : l.all p = false := List.all_eq_false.2 ⟨a, alMem hl, by rw [h]; decide⟩
theorem alT (h : ∀ x ∈ l.take j, p x = true) (hj : l.length ≤ j) : l.all p = true := List.all_eq_true.2 (alE h hj)
theorem mapS (hl : l[j]? = some a) : (l.take (j + 1)).map f = (l.take j).map f ++ [f a] := by rw [take_sn hl, List.map_append]; rfl
theorem mapLen (hn : j ≤ l.length) : ((l.take j).map f).length = j := by rw [List.length_map, List.length_take]; omega
theorem alDec [∀ x, Decidable (P x)] (h : ∀ x ∈ l, P x) : (l.all fun x => decide (P x)) = true := List.all_eq_true.2 fun x hx => decide_eq_true (h x hx)
theorem alDecF [∀ x, Decidable (P x)] (h : ¬ ∀ x ∈ l, P x) : (l.all fun x => decide (P x)) = false := Bool.eq_false_iff.2 fun hh => h fun x hx => of_decide_eq_true (List.all_eq_true.1 hh x hx)
end
theorem atI {l : List Int} {n j : Nat} (h : l.length = n) (hj : j < n) : l[j]? = some (l.getD j 0) := by
  rw [List.getD_eq_getElem?_getD, List.getElem?_eq_getElem (by omega)]; rfl
/-- every over whatever function of numbers. -/
theorem i_everyI {w : World} {B n c : Nat} {A : Option Addr} {l : List Int} (F : Nat) (p : Int → Bool) (hE : ∀ (x : Int) (w : World), Sem.run Tryz.prog (callFunc F #[Value.int .i64 x]) w = .ok (.enter F #[Value.int .i64 x]) w) (hF : ∀ (x : Int) (w : World), Calls Tryz.prog F #[.int .i64 x] w fun e w' => e = .returned (.bool (p x)) ∧ w = w') (hl : Ints .i64 w B A n l) (hn : n ≤ 17592186043904) :
    Calls Tryz.prog 69 #[.slice A n c, .func (.func F) #[] #[]] w fun e w' => e = .returned (.bool (l.all p)) ∧ w = w' := by
  have HL := Lib.hid hl.1
  have HF := Lib.hid hF
  have HE := Lib.hid hE
  clear hF hE
  go_enter Tryz.func69, Tryz.ntmps69
  go_wp2_with fail
  go_loopw [9] (fun i wr => ∃ k : Nat, k ≤ n ∧ i = .int .i64 k ∧ (∀ x ∈ l.take k, p x = true) ∧ wr = w) (fun i _ => n - (RowKit.intOf i).toNat)
  case atStart => exact ⟨0, by omega, rfl, al0, rfl⟩
  case round =>
    obtain ⟨k, hk, rfl, hG, rfl⟩ := hrel
    have HG := Lib.hid hG
    clear hG
    by_cases hlt : k < n
    · obtain ⟨b, off, rfl, hb, hcell, hwf⟩ := hl.at_ hlt
      have HA := Lib.hid (atI HL.out hlt)
      obtain ⟨x, hx⟩ : ∃ x, l.getD k 0 = x := ⟨_, rfl⟩
      rw [hx] at hcell HA
      clear hx hwf
      have q2 : (k : Int) < (n : Int) := by omega
      go_wp2_with fail
      rw [HE.out, Oper.upon_enter]
      refine (HF.out x _).mono ?_
      rintro e w' ⟨rfl, rfl⟩
      obtain ⟨d, hd⟩ : ∃ d, p x = d := ⟨_, rfl⟩
      rw [hd]
      have HD := Lib.hid hd
      clear hd
      cases d
      · have HR := Lib.hid (alF HA.out HD.out)
        go_wp2
        go_ret
        exact ⟨ret_bool HR.out.symm, rfl⟩
      · go_wp2
        go_roundw
        case rel => exact ⟨k + 1, by omega, by go_num, alS HG.out HA.out HD.out, trivial⟩
        case measure => simp [RowKit.intOf]; omega
    · obtain rfl : k = n := by omega
      have q2 : ¬ (k : Int) < (k : Int) := by omega
      have HR := Lib.hid (alT HG.out (Nat.le_of_eq HL.out))
      go_wp2
      go_ret
      exact ⟨ret_bool HR.out.symm, rfl⟩
end Go.Proofs.YtaabmaoldhoinaaGreat
