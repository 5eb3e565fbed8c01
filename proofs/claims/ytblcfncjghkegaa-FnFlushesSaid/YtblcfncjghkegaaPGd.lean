/-
  Mem: texts joined.
-/
import Derived.Deep.Draws
import Derived.Lib.Hide
import Derived.OpenShut
import Derived.ProofKit
import Derived.WalkKit
namespace Go.Proofs.Ytblcfncjghkegaa
open Go.RowKit

/-- Block g holds just these cells, of element type t, none of them frozen. -/
def Box (w : World) (g : Nat) (t : TypeId) (cs : Array Value) : Prop := w.heap[g]? = some (.cells cs t (0, 0))

section
variable {w w' : World} {g : Nat} {t : TypeId} {cs : Array Value}
theorem Box.size (h : Box w g t cs) : g < w.heap.size := by
  unfold Box at h
  by_cases hl : g < w.heap.size
  · exact hl
  · rw [Array.getElem?_eq_none (by omega)] at h; cases h
theorem Box.cell (h : Box w g t cs) (i : Nat) : w.cell? ⟨g, i, none⟩ = cs[i]? := cell_of_row w g i cs t (0, 0) h
theorem Box.frozen (h : Box w g t cs) (i : Nat) : w.frozen? ⟨g, i, none⟩ = false := by
  unfold Box at h; simp [World.frozen?, h]
theorem Box.same (h : Box w g t cs) (e : w'.heap[g]? = w.heap[g]?) : Box w' g t cs := e.trans h
theorem Box.drewN (h : Box w g t cs) (n : Nat) : Box (w.drewN n) g t cs := h
theorem Box.drew (h : Box w g t cs) : Box w.drew g t cs := h
theorem Box.new (w : World) (t : TypeId) (cs : Array Value) : Box (w.alloc (.cells cs t)) w.heap.size t cs := heap_alloc_new w _
theorem Box.alloc (h : Box w g t cs) (o : Obj) : Box (w.alloc o) g t cs := h.same (Below.heap_alloc w o g h.size)
theorem Box.put (h : Box w g t cs) (i : Nat) (u : Value) : Box (w.setCell ⟨g, i, none⟩ u) g t (cs.setIfInBounds i u) := by
  unfold Box at h ⊢; simp [World.setCell, Array.getElem?_modify, h]
theorem Box.far (h : Box w g t cs) {p : Addr} (hp : g ≠ p.block) (u : Value) : Box (w.setCell p u) g t cs := h.same (Below.heap_setCell w p u g hp)
theorem Box.below {B : Nat} (h : Box w g t cs) (hb : Below B w w') (hg : g < B) : Box w' g t cs := h.same (hb.block g hg)
theorem Box.grown {row : Option Nat} (h : Box w g t cs) (hb : w.grownBy w' row) (hg : some g ≠ row) : Box w' g t cs := h.same (hb.block g h.size hg)
end

/-! ### what a call has changed: 'grownBy' with the one block that it may have written -/
section
variable {a w w' : World} {row : Option Nat}
theorem gb_drewN (h : a.grownBy w row) (n : Nat) : a.grownBy (w.drewN n) row := ⟨h.os, h.tape, h.output, h.size, h.block⟩
theorem gb_drew (h : a.grownBy w row) : a.grownBy w.drew row := ⟨h.os, h.tape, h.output, h.size, h.block⟩
theorem gb_alloc (h : a.grownBy w row) (o : Obj) : a.grownBy (w.alloc o) row :=
  ⟨h.os, h.tape, h.output, Nat.le_trans h.size (by simp), fun i hi hn => (Below.heap_alloc w o i (Nat.lt_of_lt_of_le hi h.size)).trans (h.block i hi hn)⟩
theorem gb_put {g : Nat} (h : a.grownBy w (some g)) (j : Nat) (u : Value) : a.grownBy (w.setCell ⟨g, j, none⟩ u) (some g) :=
  ⟨h.os, h.tape, h.output, by simpa [World.setCell] using h.size, fun i hi hn => (Below.heap_setCell w ⟨g, j, none⟩ u i (fun e => hn (by rw [e]))).trans (h.block i hi hn)⟩
theorem gb_trans {b c : World} (h : a.grownBy b row) (k : b.grownBy c row) : a.grownBy c row :=
  ⟨k.os.trans h.os, k.tape.trans h.tape, k.output.trans h.output, Nat.le_trans h.size k.size, fun i hi hn => (k.block i (Nat.lt_of_lt_of_le hi h.size) hn).trans (h.block i hi hn)⟩
theorem gb_below {B g : Nat} (h : w.grownBy w' (some g)) (hB : B ≤ w.heap.size) (hg : B ≤ g) : Below B w w' :=
  ⟨h.os, h.tape, h.output, h.size, fun k hk => h.block k (by omega) (fun e => by injection e; omega)⟩
theorem below_drewN {B : Nat} (h : Below B a w) (n : Nat) : Below B a (w.drewN n) := ⟨h.os, h.tape, h.output, h.size, h.block⟩
theorem below_grownBy (h : Below a.heap.size a w) : a.grownBy w row := ⟨h.os, h.tape, h.output, h.size, fun k hk _ => h.block k hk⟩
end

/-- The slice value '.slice A n c' holds the n integers l, of kind k, below block B. -/
def Ints (k : IntKind) (w : World) (B : Nat) (A : Option Addr) (n : Nat) (l : List Int) : Prop :=
  l.length = n ∧ (0 < n → ∃ b off, A = some ⟨b, off, none⟩ ∧ b < B ∧ ∀ i, i < n → w.cell? ⟨b, off + i, none⟩ = some (.int k (l.getD i 0))) ∧ ∀ x ∈ l, (Lit.int k x).wf = true
theorem wf_getD {k : IntKind} {l : List Int} (h : ∀ x ∈ l, (Lit.int k x).wf = true) {i : Nat} (hi : i < l.length) : (Lit.int k (l.getD i 0)).wf = true := by
  apply h
  rw [List.getD_eq_getElem?_getD, List.getElem?_eq_getElem hi, Option.getD_some]
  exact List.getElem_mem _
section
variable {k : IntKind} {w w' : World} {B n : Nat} {A : Option Addr} {l : List Int}
theorem Ints.nil : Ints k w B A 0 [] := ⟨rfl, fun h => absurd h (by omega), fun _ h => by cases h⟩
theorem Ints.at_ {i : Nat} (h : Ints k w B A n l) (hi : i < n) : ∃ b off, A = some ⟨b, off, none⟩ ∧ b < B ∧ w.cell? ⟨b, off + i, none⟩ = some (.int k (l.getD i 0)) ∧ (Lit.int k (l.getD i 0)).wf = true := by
  obtain ⟨b, off, e, hb, hc⟩ := h.2.1 (by omega)
  exact ⟨b, off, e, hb, hc i hi, wf_getD h.2.2 (by have := h.1; omega)⟩
theorem Ints.keep (h : Ints k w B A n l) (hk : ∀ b, b < B → w'.heap[b]? = w.heap[b]?) : Ints k w' B A n l :=
  ⟨h.1, fun hn => by
    obtain ⟨b, off, e, hb, hc⟩ := h.2.1 hn
    exact ⟨b, off, e, hb, fun i hi => (World.cell?_of_block (hk _ hb)).trans (hc i hi)⟩, h.2.2⟩
theorem Ints.below (h : Ints k w B A n l) (hb : Below B w w') : Ints k w' B A n l := h.keep hb.block
theorem Ints.grown (h : Ints k w B A n l) {g : Nat} (hb : w.grownBy w' (some g)) (hB : B ≤ w.heap.size) (hg : B ≤ g) : Ints k w' B A n l := h.below (gb_below hb hB hg)
theorem Ints.drewN (h : Ints k w B A n l) (m : Nat) : Ints k (w.drewN m) B A n l := h
theorem Ints.drew (h : Ints k w B A n l) : Ints k w.drew B A n l := h
theorem Ints.alloc (h : Ints k w B A n l) (hB : B ≤ w.heap.size) (o : Obj) : Ints k (w.alloc o) B A n l := h.keep fun b hb => Below.heap_alloc w o b (by omega)
theorem Ints.up {B' : Nat} (h : Ints k w B A n l) (hB : B ≤ B') : Ints k w B' A n l :=
  ⟨h.1, fun hn => by
    obtain ⟨b, off, e, hb, hc⟩ := h.2.1 hn
    exact ⟨b, off, e, by omega, hc⟩, h.2.2⟩
/-- What the frame of a law tells of a slice that came in. -/
theorem Ints.ofRow {x : Addr} {zs : List Int} {m : Nat} (hm : m ≤ zs.length) (hc : ∀ i, i < zs.length → w.cell? (x.add i) = some (.int k (zs.getD i 0))) (hw : ∀ n ∈ zs, (Lit.int k n).wf = true) :
    Ints k w w.heap.size (some x) m (zs.take m) := by
  refine ⟨by rw [List.length_take]; omega, fun h0 => ?_, fun y hy => hw y (List.mem_of_mem_take hy)⟩
  obtain ⟨b, off, rfl, hcell⟩ := ints_at hc (by omega)
  refine ⟨b, off, rfl, ?_, fun i hi => ?_⟩
  · have := hcell 0 (by omega)
    exact World.block_lt_of_cell? w _ this
  · rw [hcell i (by omega), List.getD_eq_getElem?_getD, List.getD_eq_getElem?_getD, List.getElem?_take, if_pos hi]
end
/-- A call that leaves the world alone, inside a region whose order is open. -/
theorem q_same {P : Program} {f : FuncId} {args : Array Value} {w : World} {n : Nat} {v : Value}
    (h : ∀ W, Calls P f args W fun e w' => e = .returned v ∧ W = w') : Calls P f args (w.drewN n) fun e w'' => e = .returned v ∧ ∃ m, w'' = w.drewN m :=
  (h _).mono fun _ _ ⟨he, hw⟩ => ⟨he, n, hw.symm⟩
end Go.Proofs.Ytblcfncjghkegaa
