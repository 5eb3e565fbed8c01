/-
  Mem, App, Mark, Copy, Rd, Dat, Row, Ty, Fld, SpecOne, Cell, Mk, LPiece: texts joined.
-/
import Derived.Test.YtelbckpplckofaaGreatRows
import Derived.BigQuiet
import Derived.Deep.Draws
import Derived.Deep.OwnRows
import Derived.Deep.QuietTactic
import Derived.Laws.MakeOwn
import Derived.Lib.Hide
import Derived.Maps.AppendAt
import Derived.OpenShut
import Derived.Outline
import Derived.ProofKit
import Derived.WalkKit
namespace Go.Proofs.YtelbckpplckofaaGreat
open Go.RowKit

/-- Block g holds just these cells, of element type t, none of them frozen. -/
def Box (w : World) (g : Nat) (t : TypeId) (cs : Array Value) : Prop := w.heap[g]? = some (.cells cs t (0, 0))

section
variable {w w' : World} {g : Nat} {t : TypeId} {cs : Array Value}
theorem Box.size (h : Box w g t cs) : g < w.heap.size := by
  unfold Box at h
  by_cases hl : g < w.heap.size
  · exact hl
  · rw [Array.getElem?_eq_none (by omega)] at h; cases h
theorem Box.cell (h : Box w g t cs) (i : Nat) : w.cell? ⟨g, i, none⟩ = cs[i]? := cell_of_row w g i cs t (0, 0) h
theorem Box.frozen (h : Box w g t cs) (i : Nat) : w.frozen? ⟨g, i, none⟩ = false := by
  unfold Box at h; simp [World.frozen?, h]
theorem Box.same (h : Box w g t cs) (e : w'.heap[g]? = w.heap[g]?) : Box w' g t cs := e.trans h
theorem Box.drewN (h : Box w g t cs) (n : Nat) : Box (w.drewN n) g t cs := h
theorem Box.drew (h : Box w g t cs) : Box w.drew g t cs := h
theorem Box.new (w : World) (t : TypeId) (cs : Array Value) : Box (w.alloc (.cells cs t)) w.heap.size t cs := heap_alloc_new w _
theorem Box.alloc (h : Box w g t cs) (o : Obj) : Box (w.alloc o) g t cs := h.same (Below.heap_alloc w o g h.size)
theorem Box.put (h : Box w g t cs) (i : Nat) (u : Value) : Box (w.setCell ⟨g, i, none⟩ u) g t (cs.setIfInBounds i u) := by
  unfold Box at h ⊢; simp [World.setCell, Array.getElem?_modify, h]
theorem Box.far (h : Box w g t cs) {p : Addr} (hp : g ≠ p.block) (u : Value) : Box (w.setCell p u) g t cs := h.same (Below.heap_setCell w p u g hp)
theorem Box.below {B : Nat} (h : Box w g t cs) (hb : Below B w w') (hg : g < B) : Box w' g t cs := h.same (hb.block g hg)
theorem Box.grown {row : Option Nat} (h : Box w g t cs) (hb : w.grownBy w' row) (hg : some g ≠ row) : Box w' g t cs := h.same (hb.block g h.size hg)
end

/-! ### what a call has changed: 'grownBy' with the one block that it may have written -/
section
variable {a w w' : World} {row : Option Nat}
theorem gb_drew (h : a.grownBy w row) : a.grownBy w.drew row := ⟨h.os, h.tape, h.output, h.size, h.block⟩
theorem gb_put {g : Nat} (h : a.grownBy w (some g)) (j : Nat) (u : Value) : a.grownBy (w.setCell ⟨g, j, none⟩ u) (some g) :=
  ⟨h.os, h.tape, h.output, by simpa [World.setCell] using h.size, fun i hi hn => (Below.heap_setCell w ⟨g, j, none⟩ u i (fun e => hn (by rw [e]))).trans (h.block i hi hn)⟩
theorem gb_below {B g : Nat} (h : w.grownBy w' (some g)) (hB : B ≤ w.heap.size) (hg : B ≤ g) : Below B w w' :=
  ⟨h.os, h.tape, h.output, h.size, fun k hk => h.block k (by omega) (fun e => by injection e; omega)⟩
theorem below_drewN {B : Nat} (h : Below B a w) (n : Nat) : Below B a (w.drewN n) := ⟨h.os, h.tape, h.output, h.size, h.block⟩
theorem below_grownBy (h : Below a.heap.size a w) : a.grownBy w row := ⟨h.os, h.tape, h.output, h.size, fun k hk _ => h.block k hk⟩
end

/-- The slice value '.slice A n c' holds the n integers l, of kind k, below block B. -/
def Ints (k : IntKind) (w : World) (B : Nat) (A : Option Addr) (n : Nat) (l : List Int) : Prop :=
  l.length = n ∧ (0 < n → ∃ b off, A = some ⟨b, off, none⟩ ∧ b < B ∧ ∀ i, i < n → w.cell? ⟨b, off + i, none⟩ = some (.int k (l.getD i 0))) ∧ ∀ x ∈ l, (Lit.int k x).wf = true
theorem wf_getD {k : IntKind} {l : List Int} (h : ∀ x ∈ l, (Lit.int k x).wf = true) {i : Nat} (hi : i < l.length) : (Lit.int k (l.getD i 0)).wf = true := by
  apply h
  rw [List.getD_eq_getElem?_getD, List.getElem?_eq_getElem hi, Option.getD_some]
  exact List.getElem_mem _
section
variable {k : IntKind} {w w' : World} {B n : Nat} {A : Option Addr} {l : List Int}
theorem Ints.nil : Ints k w B A 0 [] := ⟨rfl, fun h => absurd h (by omega), fun _ h => by cases h⟩
theorem Ints.at_ {i : Nat} (h : Ints k w B A n l) (hi : i < n) : ∃ b off, A = some ⟨b, off, none⟩ ∧ b < B ∧ w.cell? ⟨b, off + i, none⟩ = some (.int k (l.getD i 0)) ∧ (Lit.int k (l.getD i 0)).wf = true := by
  obtain ⟨b, off, e, hb, hc⟩ := h.2.1 (by omega)
  exact ⟨b, off, e, hb, hc i hi, wf_getD h.2.2 (by have := h.1; omega)⟩
theorem Ints.keep (h : Ints k w B A n l) (hk : ∀ b, b < B → w'.heap[b]? = w.heap[b]?) : Ints k w' B A n l :=
  ⟨h.1, fun hn => by
    obtain ⟨b, off, e, hb, hc⟩ := h.2.1 hn
    exact ⟨b, off, e, hb, fun i hi => (World.cell?_of_block (hk _ hb)).trans (hc i hi)⟩, h.2.2⟩
theorem Ints.below (h : Ints k w B A n l) (hb : Below B w w') : Ints k w' B A n l := h.keep hb.block
theorem Ints.grown (h : Ints k w B A n l) {g : Nat} (hb : w.grownBy w' (some g)) (hB : B ≤ w.heap.size) (hg : B ≤ g) : Ints k w' B A n l := h.below (gb_below hb hB hg)
theorem Ints.drewN (h : Ints k w B A n l) (m : Nat) : Ints k (w.drewN m) B A n l := h
theorem Ints.drew (h : Ints k w B A n l) : Ints k w.drew B A n l := h
theorem Ints.alloc (h : Ints k w B A n l) (hB : B ≤ w.heap.size) (o : Obj) : Ints k (w.alloc o) B A n l := h.keep fun b hb => Below.heap_alloc w o b (by omega)
theorem Ints.up {B' : Nat} (h : Ints k w B A n l) (hB : B ≤ B') : Ints k w B' A n l :=
  ⟨h.1, fun hn => by
    obtain ⟨b, off, e, hb, hc⟩ := h.2.1 hn
    exact ⟨b, off, e, by omega, hc⟩, h.2.2⟩
/-- What the frame of a law tells of a slice that came in. -/
theorem Ints.ofRow {x : Addr} {zs : List Int} {m : Nat} (hm : m ≤ zs.length) (hc : ∀ i, i < zs.length → w.cell? (x.add i) = some (.int k (zs.getD i 0))) (hw : ∀ n ∈ zs, (Lit.int k n).wf = true) :
    Ints k w w.heap.size (some x) m (zs.take m) := by
  refine ⟨by rw [List.length_take]; omega, fun h0 => ?_, fun y hy => hw y (List.mem_of_mem_take hy)⟩
  obtain ⟨b, off, rfl, hcell⟩ := ints_at hc (by omega)
  refine ⟨b, off, rfl, ?_, fun i hi => ?_⟩
  · have := hcell 0 (by omega)
    exact World.block_lt_of_cell? w _ this
  · rw [hcell i (by omega), List.getD_eq_getElem?_getD, List.getD_eq_getElem?_getD, List.getElem?_take, if_pos hi]
end
/-- A call that leaves the world alone, inside a region whose order is open. -/
theorem q_same {P : Program} {f : FuncId} {args : Array Value} {w : World} {n : Nat} {v : Value}
    (h : ∀ W, Calls P f args W fun e w' => e = .returned v ∧ W = w') : Calls P f args (w.drewN n) fun e w'' => e = .returned v ∧ ∃ m, w'' = w.drewN m :=
  (h _).mono fun _ _ ⟨he, hw⟩ => ⟨he, n, hw.symm⟩
end Go.Proofs.YtelbckpplckofaaGreat
namespace Go.Proofs.YtelbckpplckofaaGreat
open Go.ChangeShapes Go.WideShapes Go.ChangeAt Go.RowKit

/-- The slice '.slice A m c' holds the cells 'news' (of m elements), wherever it lies. -/
def Src (w : World) (size : Nat) (A : Option Addr) (m : Nat) (news : List Value) : Prop :=
  news.length = m * size ∧ (0 < m → ∃ b off, A = some ⟨b, off, none⟩ ∧ ∀ j u, news[j]? = some u → w.cell? ⟨b, off + j, none⟩ = some u)
theorem Src.nil (w : World) (size : Nat) (A : Option Addr) : Src w size A 0 [] := ⟨by simp, fun h => absurd h (by omega)⟩
theorem Src.of_ints {k : IntKind} {w : World} {B n : Nat} {A : Option Addr} {l : List Int} (h : Ints k w B A n l) : Src w 1 A n (l.map (Value.int k)) := by
  refine ⟨by rw [List.length_map, h.1]; omega, fun h0 => ?_⟩
  obtain ⟨b, off, e, _, hc⟩ := h.2.1 h0
  refine ⟨b, off, e, fun j u hu => ?_⟩
  rw [List.getElem?_map, Option.map_eq_some_iff] at hu
  obtain ⟨x, hx, rfl⟩ := hu
  obtain ⟨hj, hx'⟩ := List.getElem?_eq_some_iff.1 hx
  rw [hc j (by have := h.1; omega), List.getD_eq_getElem?_getD, hx, Option.getD_some]
/-- One cell that has just been laid. -/
theorem Src.one (w : World) (t : TypeId) (u : Value) : Src (w.alloc (.cells #[u] t)) 1 (some ⟨w.heap.size, 0, none⟩) 1 [u] := by
  refine ⟨rfl, fun _ => ⟨_, 0, rfl, fun j v hj => ?_⟩⟩
  match j, hj with
  | 0, hj => rw [(Box.new w t _).cell]; exact hj

section
variable {P : Program} (w : World)
theorem run_app_nil (base : Nat) (t ty e : TypeId) (i : TypeInfo) (size : Nat) (ht : P.underlying t = some (.slice e)) (hi : P.info? e = some i)
    (v : Value) (n : Nat) (xs : List Value) (hown : w.ownsRow base e size v n xs) (c : Nat) : (Builtin.append_ #[t, t] ty #[v, .slice none 0 c]).run P w = .ok v w := by
  rcases hown.2 with ⟨rfl, rfl⟩ | ⟨g, cap, cur, rfl, _, _, hnc, _⟩ <;>
    simp [Builtin.append_, run_underlying ht, sizeOf, typeInfo, Builtin.lenOf, Builtin.firstCells, storeCells, *]

theorem run_app (base : Nat) (t ty e : TypeId) (i : TypeInfo) (z : Value) (size bytes : Nat) (ht : P.underlying t = some (.slice e)) (hi : P.info? e = some i) (hz : i.zero = some z)
    (hsize : i.size = size) (hby : i.bytes = bytes) (hzs : z.cells.size = size) (hsz : 0 < size)
    (v : Value) (n : Nat) (xs : List Value) (hown : w.ownsRow base e size v n xs)
    (A : Option Addr) (m c : Nat) (news : List Value) (hr : Src w size A m news) (h1 : ∀ u ∈ news, u.oneCell' = true)
    (h63 : n + m ≤ maxLen) (hbytes : (n + m) * bytes ≤ 140737488355328) (hbase : base ≤ w.heap.size) :
    ∃ v' w', (Builtin.append_ #[t, t] ty #[v, .slice A m c]).run P w = .ok v' w' ∧ w'.ownsRow base e size v' (n + m) (xs ++ news) ∧ w.grownBy w' v.ownBlock ∧
      (v'.ownBlock = v.ownBlock ∨ v'.ownBlock = some w.heap.size) := by
  by_cases hm : m = 0
  · subst hm
    have hn : news = [] := List.eq_nil_of_length_eq_zero (by simpa using hr.1)
    subst hn
    cases A with
    | none => exact ⟨v, w, run_app_nil w base t ty e i size ht hi v n xs hown c, by simpa using hown, World.grownBy.refl w _, .inl rfl⟩
    | some ad =>
      obtain ⟨v', w', hrun, h2, h3, _, h5⟩ := run_append_own_at (P := P) w base t ty e i z size bytes ht hi hz hsize hby hzs hsz v n xs hown ad 0 c [] hr.1 (by simp) h1 h63 hbytes hbase
      exact ⟨v', w', hrun, h2, h3, h5⟩
  · obtain ⟨b, off, rfl, hc⟩ := hr.2 (by omega)
    obtain ⟨v', w', hrun, h2, h3, _, h5⟩ := run_append_own_at (P := P) w base t ty e i z size bytes ht hi hz hsize hby hzs hsz v n xs hown ⟨b, off, none⟩ m c news hr.1
      (fun j u hu => by rw [Go.WideShapes.add_plain]; exact hc j u hu) h1 h63 hbytes hbase
    exact ⟨v', w', hrun, h2, h3, h5⟩

theorem wp_app {o : Oper} {a : Act} {K : Act → World → Prop} {Q : Exit → Act → World → Prop} (s x : Operand) (t : TypeId)
    (ho : o.op = .call { callee := .builtin .append, args := #[s, x], argTypes := #[t, t] })
    (base : Nat) (e : TypeId) (i : TypeInfo) (z : Value) (size bytes : Nat) (ht : P.underlying t = some (.slice e)) (hi : P.info? e = some i) (hz : i.zero = some z)
    (hsize : i.size = size) (hby : i.bytes = bytes) (hzs : z.cells.size = size) (hsz : 0 < size)
    (v : Value) (n : Nat) (xs : List Value) (hs : a.eval s = v) (hown : w.ownsRow base e size v n xs)
    (A : Option Addr) (m c : Nat) (news : List Value) (hx : a.eval x = .slice A m c) (hr : Src w size A m news) (h1 : ∀ u ∈ news, u.oneCell' = true)
    (h63 : n + m ≤ maxLen) (hbytes : (n + m) * bytes ≤ 140737488355328) (hbase : base ≤ w.heap.size)
    (h : ∀ v' w', w'.ownsRow base e size v' (n + m) (xs ++ news) → w.grownBy w' v.ownBlock → (v'.ownBlock = v.ownBlock ∨ v'.ownBlock = some w.heap.size) → K (a.put o.dst v') w') : o.wp P a w K Q := by
  obtain ⟨v', w', hrun, h2, h3, h4⟩ := run_app (P := P) w base t o.type e i z size bytes ht hi hz hsize hby hzs hsz v n xs hown A m c news hr h1 h63 hbytes hbase
  unfold Oper.wp execOp
  simp only [ho, resolve, invoke, builtin, Sem.run_bind, Sem.run_pure, Result.andThen_ok, List.map_toArray, List.map_cons, List.map_nil, hs, hx, hrun]
  exact h v' w' h2 h3 h4

theorem wpList_app {ops : Array Oper} {rest : List Oper} {o : Oper} {a : Act} {Q : Exit → Act → World → Prop} (hgd : o.guard = none) (s x : Operand) (t : TypeId)
    (ho : o.op = .call { callee := .builtin .append, args := #[s, x], argTypes := #[t, t] })
    (base : Nat) (e : TypeId) (i : TypeInfo) (z : Value) (size bytes : Nat) (ht : P.underlying t = some (.slice e)) (hi : P.info? e = some i) (hz : i.zero = some z)
    (hsize : i.size = size) (hby : i.bytes = bytes) (hzs : z.cells.size = size) (hsz : 0 < size)
    (v : Value) (n : Nat) (xs : List Value) (hs : a.eval s = v) (hown : w.ownsRow base e size v n xs)
    (A : Option Addr) (m c : Nat) (news : List Value) (hx : a.eval x = .slice A m c) (hr : Src w size A m news) (h1 : ∀ u ∈ news, u.oneCell' = true)
    (h63 : n + m ≤ maxLen) (hbytes : (n + m) * bytes ≤ 140737488355328) (hbase : base ≤ w.heap.size)
    (h : ∀ v' w', w'.ownsRow base e size v' (n + m) (xs ++ news) → w.grownBy w' v.ownBlock → (v'.ownBlock = v.ownBlock ∨ v'.ownBlock = some w.heap.size) → wpList P ops Q rest (a.put o.dst v') w') : wpList P ops Q (o :: rest) a w :=
  wpList_plain hgd fun _ hK => wp_app w s x t ho base e i z size bytes ht hi hz hsize hby hzs hsz v n xs hs hown A m c news hx hr h1 h63 hbytes hbase fun v' w' h2 h3 h4 => hK _ _ (h v' w' h2 h3 h4)
end

theorem one_ints (k : IntKind) (l : List Int) : ∀ u ∈ l.map (Value.int k), u.oneCell' = true := by
  intro u hu
  rw [List.mem_map] at hu
  obtain ⟨x, _, rfl⟩ := hu
  rfl

theorem one_int (k : IntKind) (x : Int) : ∀ u ∈ [Value.int k x], u.oneCell' = true := by
  intro u hu
  rw [List.mem_singleton] at hu
  rw [hu]; rfl
/-- The value v is a slice of the call's own that holds the integers l: its block is from base on. -/
def Own (k : IntKind) (e : TypeId) (w : World) (base : Nat) (v : Value) (l : List Int) : Prop := w.ownsRow base e 1 v l.length (l.map (Value.int k)) ∧ ∀ x ∈ l, (Lit.int k x).wf = true
theorem Own.of {k : IntKind} {e : TypeId} {w : World} {base n : Nat} {v : Value} {l : List Int} (h : w.ownsRow base e 1 v n (l.map (Value.int k))) (hw : ∀ x ∈ l, (Lit.int k x).wf = true) : Own k e w base v l := by
  have hn : l.length = n := by have := h.1; simpa using this
  subst hn
  exact ⟨h, hw⟩
theorem Own.nil (k : IntKind) (e : TypeId) (w : World) (base : Nat) : Own k e w base (.slice none 0 0) [] := ⟨World.ownsRow_nil _ _ _ _, by simp⟩
theorem Own.ints {k : IntKind} {e : TypeId} {w : World} {base : Nat} {v : Value} {l : List Int} (h : Own k e w base v l) :
    ∃ A c, v = .slice A l.length c ∧ l.length ≤ c ∧ Ints k w w.heap.size A l.length l ∧ (∀ b, v.ownBlock = some b → base ≤ b ∧ b < w.heap.size) := by
  obtain ⟨h, hw⟩ := h
  have hlt := h.lt
  have hcells := @World.ownsRow.cells _ _ _ _ _ _ _ h
  rcases h.2 with ⟨rfl, h0⟩ | ⟨g, cap, cur, rfl, hb, hg, hn, hm, hs, ht⟩
  · have : l = [] := List.eq_nil_of_length_eq_zero h0
    subst this
    exact ⟨none, 0, rfl, Nat.le_refl _, Ints.nil, hlt⟩
  · refine ⟨_, cap, rfl, hn, ⟨rfl, fun h0 => ⟨g, 0, rfl, (hlt g rfl).2, fun i hi => ?_⟩, hw⟩, hlt⟩
    have hh := hcells (g := g) rfl i (.int k (l.getD i 0)) (by rw [List.getElem?_map, List.getD_eq_getElem?_getD, List.getElem?_eq_getElem hi]; rfl)
    rwa [Go.WideShapes.add_plain] at hh

theorem Own.intsAt {k : IntKind} {e : TypeId} {w : World} {base n c : Nat} {A : Option Addr} {l : List Int} (h : Own k e w base (.slice A n c) l) : Ints k w w.heap.size A n l ∧ l.length = n := by
  obtain ⟨A', c', h1, _, h2, _⟩ := h.ints
  injection h1 with e1 e2 e3
  subst e1 e2
  exact ⟨h2, rfl⟩
theorem Own.block {k : IntKind} {e : TypeId} {w : World} {base b : Nat} {v : Value} {l : List Int} (h : Own k e w base v l) (hb : v.ownBlock = some b) : base ≤ b ∧ b < w.heap.size := h.1.lt b hb
theorem Own.kept {k : IntKind} {e : TypeId} {w w' : World} {base : Nat} {v : Value} {l : List Int} {row : Option Nat} (h : Own k e w base v l) (hg : w.grownBy w' row) (hr : v.ownBlock = none ∨ v.ownBlock ≠ row) : Own k e w' base v l := ⟨h.1.kept hg hr, h.2⟩
theorem Own.below {k : IntKind} {e : TypeId} {w w' : World} {base : Nat} {v : Value} {l : List Int} (h : Own k e w base v l) (hb : Below w.heap.size w w') : Own k e w' base v l :=
  h.kept (row := none) ⟨hb.os, hb.tape, hb.output, hb.size, fun j hj _ => hb.block j hj⟩ (by cases hv : v.ownBlock <;> simp)
theorem Own.alloc {k : IntKind} {e : TypeId} {w : World} {base : Nat} {v : Value} {l : List Int} (h : Own k e w base v l) (o : Obj) : Own k e (w.alloc o) base v l := h.below ((Below.refl _ _).alloc (Nat.le_refl _) o)
theorem Own.drewN {k : IntKind} {e : TypeId} {w : World} {base : Nat} {v : Value} {l : List Int} (h : Own k e w base v l) (m : Nat) : Own k e (w.drewN m) base v l := h
theorem Own.lower {k : IntKind} {e : TypeId} {w : World} {base base' : Nat} {v : Value} {l : List Int} (h : Own k e w base v l) (hb : base' ≤ base) : Own k e w base' v l := by
  obtain ⟨⟨h1, h2⟩, h3⟩ := h
  refine ⟨⟨h1, ?_⟩, h3⟩
  rcases h2 with h2 | ⟨g, cap, cur, hv, hg, r⟩
  · exact .inl h2
  · exact .inr ⟨g, cap, cur, hv, by omega, r⟩
/-- The cells of an own row: what the walk reads and where it may write. -/
theorem Own.row {k : IntKind} {e : TypeId} {w : World} {base : Nat} {v : Value} {l : List Int} (h : Own k e w base v l) (hn : 0 < l.length) :
    ∃ g c, v = .slice (some ⟨g, 0, none⟩) l.length c ∧ l.length ≤ c ∧ c ≤ maxLen ∧ base ≤ g ∧ g < w.heap.size ∧ (∀ i, i < l.length → w.cell? ⟨g, i, none⟩ = some (.int k (l.getD i 0))) ∧ (∀ i, w.frozen? ⟨g, i, none⟩ = false) := by
  obtain ⟨⟨h1, h2⟩, h3⟩ := h
  rcases h2 with ⟨_, h0⟩ | ⟨g, cap, cur, rfl, hb, hg, hn', hm, hs, ht⟩
  · omega
  · refine ⟨g, cap, rfl, hn', hm, hb, (Box.size hg), fun i hi => ?_, fun i => Box.frozen hg i⟩
    have h4 : (l.map (Value.int k))[i]? = some (.int k (l.getD i 0)) := by rw [List.getElem?_map, List.getD_eq_getElem?_getD, List.getElem?_eq_getElem hi]; rfl
    rw [Box.cell hg i, ← h4, ← ht, List.getElem?_take, if_pos (by omega)]
    simp
theorem Own.shape {k : IntKind} {e : TypeId} {w : World} {base : Nat} {v : Value} {l : List Int} (h : Own k e w base v l) : ∃ A c, v = .slice A l.length c ∧ l.length ≤ maxLen := by
  obtain ⟨⟨h1, h2⟩, h3⟩ := h
  rcases h2 with ⟨rfl, h0⟩ | ⟨g, cap, cur, rfl, hb, hg, hn', hm, hs, ht⟩
  · exact ⟨none, 0, by rw [h0], by rw [h0]; simp [maxLen]⟩
  · exact ⟨_, cap, rfl, by omega⟩
theorem Own.put {k : IntKind} {e : TypeId} {w : World} {base g c : Nat} {l : List Int} (h : Own k e w base (.slice (some ⟨g, 0, none⟩) l.length c) l) (i : Nat) (x : Int) (hx : (Lit.int k x).wf = true) :
    Own k e (w.setCell ⟨g, i, none⟩ (.int k x)) base (.slice (some ⟨g, 0, none⟩) l.length c) (l.set i x) := by
  refine ⟨?_, fun y hy => ?_⟩
  · rw [List.length_set, List.map_set]; exact (h.1.stored i _).1
  · rcases List.mem_or_eq_of_mem_set hy with h' | rfl
    · exact h.2 y h'
    · exact hx
/-- A row that is known cell by cell is the call's own slice. -/
theorem Own.of_row {k : IntKind} {e : TypeId} {w : World} {base g n : Nat} {l : List Int} (h : w.rowIs g e n (fun j => .int k (l.getD j 0))) (hl : l.length = n) (hm : n ≤ maxLen) (hb : base ≤ g) (hw : ∀ x ∈ l, (Lit.int k x).wf = true) :
    Own k e w base (.slice (some ⟨g, 0, none⟩) n n) l := by
  subst hl
  obtain ⟨cs, h1, h2, h3⟩ := h
  refine ⟨⟨by simp, .inr ⟨g, l.length, cs, rfl, hb, h1, Nat.le_refl _, hm, by rw [h2]; omega, ?_⟩⟩, hw⟩
  apply List.ext_getElem?
  intro j
  rw [List.getElem?_take, List.getElem?_map]
  by_cases hj : j < l.length
  · rw [if_pos (by omega)]
    have h4 : cs[j]? = some (Value.int k (l.getD j 0)) := h3 j hj
    rw [List.getD_eq_getElem?_getD, List.getElem?_eq_getElem hj] at h4
    rw [List.getElem?_eq_getElem hj]
    simpa using h4
  · rw [if_neg (by omega), List.getElem?_eq_none (by omega)]; rfl

theorem wpList_mk {P : Program} (w : World) {ops : Array Oper} {rest : List Oper} {o : Oper} {a : Act} {Q : Exit → Act → World → Prop}
    (hg : o.guard = none) (l c : Operand) (t : TypeId) (hop : o.op = Op.makeSlice t l c)
    (e : TypeId) (i : TypeInfo) (z : Value) (h1 : P.underlying t = some (.slice e)) (h2 : P.info? e = some i) (h3 : i.zero = some z) (hzc : z.cells = #[z]) (h4 : i.size = 1)
    (n : Nat) (hl : a.eval l = .int .i64 n) (hc : a.eval c = .int .i64 n) (b2 : i.bytes * n ≤ 281474976710656) (b3 : n ≤ maxLen)
    (hK : ∀ w', w'.rowIs w.heap.size e n (fun _ => z) → Below w.heap.size w w' → w.heap.size < w'.heap.size → wpList P ops Q rest (a.put o.dst (.slice (some ⟨w.heap.size, 0, none⟩) n n)) w') :
    wpList P ops Q (o :: rest) a w := by
  refine wpList_plain hg fun K hK' => ?_
  have hrun := run_make (P := P) w t e i z h1 h2 h3 .i64 .i64 n n (by omega) (Int.le_refl _) (by omega) (by simp only [maxLen] at b3; omega)
  simp only [Int.toNat_natCast, h4, Nat.mul_one, hzc] at hrun
  unfold Oper.wp
  simp [execOp, hop, hl, hc, hrun, Result.andThen]
  exact hK' _ _ (hK _ (World.rowIs_made w z n e) ((Below.refl _ _).alloc (Nat.le_refl _) _) (by simp))
end Go.Proofs.YtelbckpplckofaaGreat
namespace Go.Proofs.YtelbckpplckofaaGreat
open Go.ChangeShapes Go.WideShapes Go.ChangeAt Go.RowKit
/-- The first j of l, turned into f 0, f 1, .. -/
def mks (f : Nat → Int) (l : List Int) (j : Nat) : List Int := (List.range l.length).map fun i => if i < j then f i else l.getD i 0
theorem mks_len (f : Nat → Int) (l : List Int) (j : Nat) : (mks f l j).length = l.length := by simp [mks]
theorem mks_zero (f : Nat → Int) (l : List Int) : mks f l 0 = l := by
  apply List.ext_getElem (mks_len _ _ _)
  intro i h1 h2
  simp [mks, List.getElem_map, h2]
theorem mks_set (f : Nat → Int) (l : List Int) (j : Nat) : (mks f l j).set j (f j) = mks f l (j + 1) := by
  apply List.ext_getElem (by simp [mks])
  intro i h1 h2
  rw [List.getElem_set]
  by_cases h : j = i
  · subst h; simp [mks]
  · rw [if_neg h]
    simp only [mks, List.getElem_map, List.getElem_range]
    by_cases h3 : i < j
    · rw [if_pos h3, if_pos (by omega)]
    · rw [if_neg h3, if_neg (by omega)]
theorem mks_all (f : Nat → Int) (l : List Int) : mks f l l.length = (List.range l.length).map f := by
  unfold mks
  apply List.map_congr_left
  intro i hi
  rw [if_pos (List.mem_range.1 hi)]
/-- The marks k, k + 1, .. of n integers; of n bytes. -/
def marks (k : Int) (n : Nat) : List Int := (List.range n).map fun i : Nat => k + (i : Int)
def marks8 (k : Int) (n : Nat) : List Int := (List.range n).map fun i : Nat => (k + (i : Int)) % 256
theorem marks8_len (k : Int) (n : Nat) : (marks8 k n).length = n := by simp [marks8]
theorem marks8_at {k : Int} {n i : Nat} (h : i < n) : (marks8 k n).getD i 0 = (k + i) % 256 := by
  rw [List.getD_eq_getElem?_getD, marks8, List.getElem?_map, List.getElem?_range h]; rfl
theorem own_mem {k : IntKind} {e : TypeId} {w w' : World} {v : Value} {base : Nat} {l : List Int} (h : Own k e w base v l) (h' : w.grownBy w' v.ownBlock) (hb : base ≤ w.heap.size) : Below base w w' :=
  (Below.refl _ _).grown h' hb fun _ hb => (h.block hb).1

set_option maxHeartbeats 400000 in
theorem l_eqIntS {w : World} {B n m c d : Nat} {A A' : Option Addr} {l l' : List Int} (h : Ints .i64 w B A n l) (h' : Ints .i64 w B A' m l') (hn : n ≤ maxLen) (hm : m ≤ maxLen) :
    Calls Tryz.prog 90 #[.slice A n c, .slice A' m d] w fun e w' => e = .returned (.bool (decide (l = l'))) ∧ Below w.heap.size w w' := by
  unfold maxLen at hn hm
  by_cases hlen : n = m
  · subst hlen
    go_enter Tryz.func90, Tryz.ntmps90
    go_wp2
    go_loopw [5] (fun i wr => ∃ k : Nat, k ≤ n ∧ i = .int .i64 k ∧ (∀ j, j < k → l.getD j 0 = l'.getD j 0) ∧ ∃ q, wr = w.drewN q) (fun i _ => n - (RowKit.intOf i).toNat)
    case atStart => exact ⟨0, by omega, rfl, fun j hj => by omega, 0, rfl⟩
    case round =>
      obtain ⟨k, hk, rfl, hall, q, rfl⟩ := hrel
      have HA := Lib.hid hall
      clear hall
      by_cases hlt : k < n
      · obtain ⟨b, off, rfl, _, hc, hwf⟩ := h.at_ hlt
        obtain ⟨b', off', rfl, _, hc', hwf'⟩ := h'.at_ hlt
        by_cases heq : l.getD k 0 = l'.getD k 0
        · rw [← heq] at hc'
          have HE := Lib.hid heq
          clear heq
          obtain ⟨x, hx⟩ : ∃ x, l.getD k 0 = x := ⟨_, rfl⟩
          rw [hx] at hc hc'
          clear hx hwf hwf'
          go_wp2
          go_quiet (fail)
          go_wp2
          go_roundw
          case rel => exact ⟨k + 1, by omega, by go_num, fun j hj => by
            rcases Nat.lt_succ_iff_lt_or_eq.1 hj with h1 | rfl
            · exact HA.out j h1
            · exact HE.out, _, rfl⟩
          case measure => simp [RowKit.intOf]; omega
        · have hne : (l.getD k 0 == l'.getD k 0) = false := by simpa using heq
          have HF := Lib.hid (show decide (l = l') = false from by simp; intro e; rw [e] at heq; exact heq rfl)
          clear heq
          obtain ⟨x, hx⟩ : ∃ x, l.getD k 0 = x := ⟨_, rfl⟩
          obtain ⟨y, hy⟩ : ∃ y, l'.getD k 0 = y := ⟨_, rfl⟩
          rw [hx] at hc hne
          rw [hy] at hc' hne
          have hne2 : (x != y) = true := by simp [bne, hne]
          clear hx hy hwf hwf'
          go_wp2
          go_quiet (fail)
          go_wp2
          go_ret
          exact ⟨by rw [HF.out]; rfl, below_drewN (below_drewN (Below.refl _ _) _) _⟩
      · obtain rfl : k = n := by omega
        have HT := Lib.hid (show decide (l = l') = true from by
          simp
          apply List.ext_getElem (by rw [h.1, h'.1])
          intro j h1 h2
          have := HA.out j (by rw [← h.1]; exact h1)
          rw [List.getD_eq_getElem?_getD, List.getD_eq_getElem?_getD, List.getElem?_eq_getElem h1, List.getElem?_eq_getElem h2] at this
          exact this)
        go_wp2
        go_ret
        exact ⟨by rw [HT.out]; rfl, below_drewN (Below.refl _ _) _⟩
  · have HF := Lib.hid (show decide (l = l') = false from by simp; intro e; exact hlen (by rw [← h.1, ← h'.1, e]))
    have hb : ((n : Int) == (m : Int)) = false := by simp; omega
    have hb2 : ((n : Int) != (m : Int)) = true := by simp; omega
    clear hlen
    go_enter Tryz.func90, Tryz.ntmps90
    go_wp2
    go_ret
    exact ⟨by rw [HF.out]; rfl, Below.refl _ _⟩
set_option maxHeartbeats 400000 in
theorem l_eqByteS {w : World} {B n m c d : Nat} {A A' : Option Addr} {l l' : List Int} (h : Ints .u8 w B A n l) (h' : Ints .u8 w B A' m l') (hn : n ≤ maxLen) (hm : m ≤ maxLen) :
    Calls Tryz.prog 14 #[.slice A n c, .slice A' m d] w fun e w' => e = .returned (.bool (decide (l = l'))) ∧ Below w.heap.size w w' := by
  unfold maxLen at hn hm
  by_cases hlen : n = m
  · subst hlen
    go_enter Tryz.func14, Tryz.ntmps14
    go_wp2
    go_loopw [5] (fun i wr => ∃ k : Nat, k ≤ n ∧ i = .int .i64 k ∧ (∀ j, j < k → l.getD j 0 = l'.getD j 0) ∧ ∃ q, wr = w.drewN q) (fun i _ => n - (RowKit.intOf i).toNat)
    case atStart => exact ⟨0, by omega, rfl, fun j hj => by omega, 0, rfl⟩
    case round =>
      obtain ⟨k, hk, rfl, hall, q, rfl⟩ := hrel
      have HA := Lib.hid hall
      clear hall
      by_cases hlt : k < n
      · obtain ⟨b, off, rfl, _, hc, hwf⟩ := h.at_ hlt
        obtain ⟨b', off', rfl, _, hc', hwf'⟩ := h'.at_ hlt
        by_cases heq : l.getD k 0 = l'.getD k 0
        · rw [← heq] at hc'
          have HE := Lib.hid heq
          clear heq
          obtain ⟨x, hx⟩ : ∃ x, l.getD k 0 = x := ⟨_, rfl⟩
          rw [hx] at hc hc'
          clear hx hwf hwf'
          go_wp2
          go_quiet (fail)
          go_wp2
          go_roundw
          case rel => exact ⟨k + 1, by omega, by go_num, fun j hj => by
            rcases Nat.lt_succ_iff_lt_or_eq.1 hj with h1 | rfl
            · exact HA.out j h1
            · exact HE.out, _, rfl⟩
          case measure => simp [RowKit.intOf]; omega
        · have hne : (l.getD k 0 == l'.getD k 0) = false := by simpa using heq
          have HF := Lib.hid (show decide (l = l') = false from by simp; intro e; rw [e] at heq; exact heq rfl)
          clear heq
          obtain ⟨x, hx⟩ : ∃ x, l.getD k 0 = x := ⟨_, rfl⟩
          obtain ⟨y, hy⟩ : ∃ y, l'.getD k 0 = y := ⟨_, rfl⟩
          rw [hx] at hc hne
          rw [hy] at hc' hne
          have hne2 : (x != y) = true := by simp [bne, hne]
          clear hx hy hwf hwf'
          go_wp2
          go_quiet (fail)
          go_wp2
          go_ret
          exact ⟨by rw [HF.out]; rfl, below_drewN (below_drewN (Below.refl _ _) _) _⟩
      · obtain rfl : k = n := by omega
        have HT := Lib.hid (show decide (l = l') = true from by
          simp
          apply List.ext_getElem (by rw [h.1, h'.1])
          intro j h1 h2
          have := HA.out j (by rw [← h.1]; exact h1)
          rw [List.getD_eq_getElem?_getD, List.getD_eq_getElem?_getD, List.getElem?_eq_getElem h1, List.getElem?_eq_getElem h2] at this
          exact this)
        go_wp2
        go_ret
        exact ⟨by rw [HT.out]; rfl, below_drewN (Below.refl _ _) _⟩
  · have HF := Lib.hid (show decide (l = l') = false from by simp; intro e; exact hlen (by rw [← h.1, ← h'.1, e]))
    have hb : ((n : Int) == (m : Int)) = false := by simp; omega
    have hb2 : ((n : Int) != (m : Int)) = true := by simp; omega
    clear hlen
    go_enter Tryz.func14, Tryz.ntmps14
    go_wp2
    go_ret
    exact ⟨by rw [HF.out]; rfl, Below.refl _ _⟩
set_option maxHeartbeats 400000 in
theorem l_heldByteS {w : World} {B n c : Nat} {A : Option Addr} (k : Int) (h : Ints .u8 w B A n (marks8 k n)) (h0 : 0 ≤ k) (hk : k + n ≤ 4611686018427387904) :
    Calls Tryz.prog 21 #[.slice A n c, .int .i64 k] w fun e w' => e = .returned (.int .i64 (k + n)) ∧ w = w' := by
  go_enter Tryz.func21, Tryz.ntmps21
  go_wp2
  go_loop [1, 5] (fun x i => ∃ j : Nat, j ≤ n ∧ x = .int .i64 (k + j) ∧ i = .int .i64 j) (fun _ i => n - (RowKit.intOf i).toNat)
  case atStart => exact ⟨0, by omega, by go_num, rfl⟩
  case round =>
    obtain ⟨j, hj, rfl, rfl⟩ := hrel
    by_cases hlt : j < n
    · obtain ⟨b, off, rfl, _, hc, _⟩ := h.at_ hlt
      rw [marks8_at hlt] at hc
      have hb1 : ((k + (j : Int)) != (k + (j : Int))) = false := by simp
      go_wp2
      go_round
      case rel => exact ⟨j + 1, by omega, by go_num, by go_num⟩
      case measure => simp [RowKit.intOf]; omega
    · obtain rfl : j = n := by omega
      go_wp2
      go_ret
      exact ⟨rfl, rfl⟩
end Go.Proofs.YtelbckpplckofaaGreat
namespace Go.Proofs.YtelbckpplckofaaGreat
open Go.ChangeShapes Go.WideShapes Go.ChangeAt Go.RowKit

theorem Own.apart {k k' : IntKind} {e e' : TypeId} {w w1 : World} {base base' : Nat} {v v' : Value} {l l' : List Int} (hx : Own k e w base v l) (hy : Own k' e' w1 base' v' l') (hle : w1.heap.size ≤ base) : v.ownBlock = none ∨ v.ownBlock ≠ v'.ownBlock := by
  cases hv : v.ownBlock with
  | none => exact .inl rfl
  | some b =>
    refine .inr fun h => ?_
    have h1 := (hx.block hv).1
    have h2 := (hy.block h.symm).2
    omega
theorem copy_step {K : IntKind} {l : List Int} {k j : Nat} {x : Int} (hx : l.getD k 0 = x) : (if j = k then Value.int K x else .int K (if j < k then l.getD j 0 else 0)) = .int K (if j < k + 1 then l.getD j 0 else 0) := by
  by_cases h : j = k
  · subst h; rw [if_pos rfl, if_pos (by omega), hx]
  · by_cases h2 : j < k
    · simp [h, h2, Nat.lt_succ_of_lt h2]
    · simp [h, h2, show ¬ j < k + 1 by omega]
theorem i64_rg {x : Int} (h : (Lit.int .i64 x).wf = true) : -9223372036854775808 ≤ x ∧ x ≤ 9223372036854775807 := by
  simp [Lit.wf] at h
  have e1 : IntKind.i64.min = -9223372036854775808 := by decide
  have e2 : IntKind.i64.max = 9223372036854775807 := by decide
  omega
theorem info_cb : (Tryz.prog.info? 5).map (fun i => (i.zero, i.size, i.bytes)) = some (some (.int .u8 0), 1, 1) := by kernel_rfl
theorem l_toByteS {w : World} {n c : Nat} {A : Option Addr} {l : List Int} (hl : Ints .u8 w w.heap.size A n l) (hn : n ≤ 140737488351232) :
    Calls Tryz.prog 10 #[.slice A n c] w fun e w' => e = .returned (.slice (some ⟨w.heap.size, 0, none⟩) n n) ∧ Own .u8 5 w' w.heap.size (.slice (some ⟨w.heap.size, 0, none⟩) n n) l ∧ Below w.heap.size w w' := by
  obtain ⟨i0, hi0, hz0, hz1, hz2⟩ := info_parts info_cb
  have HL := Lib.hid hl.1
  have HW := Lib.hid hl.2.2
  go_enter Tryz.func10, Tryz.ntmps10
  go_wp2_with (at_make; refine wpList_mk _ rfl (.tmp 6) (.tmp 6) _ rfl 5 i0 _ Tryz.underlying32 hi0 hz0 rfl hz1 n rfl rfl (by rw [hz2]; omega) (by simp only [maxLen]; omega) ?_; intro w1 hrow hB1 hsz)
  go_loopw [4] (fun i wr => ∃ k : Nat, k ≤ n ∧ i = .int .i64 k ∧ wr.rowIs w.heap.size 5 n (fun j => .int .u8 (if j < k then l.getD j 0 else 0)) ∧ Below w.heap.size w wr) (fun i _ => n - (RowKit.intOf i).toNat)
  case atStart => exact ⟨0, by omega, rfl, hrow.congr fun j _ => rfl, hB1⟩
  case round =>
    obtain ⟨k, hk, rfl, hO, hB⟩ := hrel
    by_cases hlt : k < n
    · obtain ⟨b, off, rfl, _, hc, _⟩ := (hl.below hB).at_ hlt
      have hcell := hO.cell hlt
      have hfz := hO.frozen k
      obtain ⟨x, hx⟩ : ∃ x, l.getD k 0 = x := ⟨_, rfl⟩
      rw [hx] at hc
      have HX := Lib.hid hx
      clear hx
      go_wp2
      go_roundw
      case rel => exact ⟨k + 1, by omega, by go_num, (hO.set k _).congr fun j _ => copy_step HX.out, hB.setCell (Nat.le_refl _) _⟩
      case measure => simp [RowKit.intOf]; omega
    · obtain rfl : k = n := by omega
      go_wp2
      go_ret
      refine ⟨rfl, Own.of_row (hO.congr fun j hj => by rw [if_pos hj]) HL.out (by simp only [maxLen]; omega) (Nat.le_refl _) HW.out, hB⟩
theorem info_ci : (Tryz.prog.info? 3).map (fun i => (i.zero, i.size, i.bytes)) = some (some (.int .i64 0), 1, 8) := by kernel_rfl
theorem l_toIntS {w : World} {n c : Nat} {A : Option Addr} {l : List Int} (hl : Ints .i64 w w.heap.size A n l) (hn : n ≤ 17592186043904) :
    Calls Tryz.prog 74 #[.slice A n c] w fun e w' => e = .returned (.slice (some ⟨w.heap.size, 0, none⟩) n n) ∧ Own .i64 3 w' w.heap.size (.slice (some ⟨w.heap.size, 0, none⟩) n n) l ∧ Below w.heap.size w w' := by
  obtain ⟨i0, hi0, hz0, hz1, hz2⟩ := info_parts info_ci
  have HL := Lib.hid hl.1
  have HW := Lib.hid hl.2.2
  go_enter Tryz.func74, Tryz.ntmps74
  go_wp2_with (at_make; refine wpList_mk _ rfl (.tmp 6) (.tmp 6) _ rfl 3 i0 _ Tryz.underlying23 hi0 hz0 rfl hz1 n rfl rfl (by rw [hz2]; omega) (by simp only [maxLen]; omega) ?_; intro w1 hrow hB1 hsz)
  go_loopw [4] (fun i wr => ∃ k : Nat, k ≤ n ∧ i = .int .i64 k ∧ wr.rowIs w.heap.size 3 n (fun j => .int .i64 (if j < k then l.getD j 0 else 0)) ∧ Below w.heap.size w wr) (fun i _ => n - (RowKit.intOf i).toNat)
  case atStart => exact ⟨0, by omega, rfl, hrow.congr fun j _ => rfl, hB1⟩
  case round =>
    obtain ⟨k, hk, rfl, hO, hB⟩ := hrel
    by_cases hlt : k < n
    · obtain ⟨b, off, rfl, _, hc, _⟩ := (hl.below hB).at_ hlt
      have hcell := hO.cell hlt
      have hfz := hO.frozen k
      obtain ⟨x, hx⟩ : ∃ x, l.getD k 0 = x := ⟨_, rfl⟩
      rw [hx] at hc
      have HX := Lib.hid hx
      clear hx
      go_wp2
      go_roundw
      case rel => exact ⟨k + 1, by omega, by go_num, (hO.set k _).congr fun j _ => copy_step HX.out, hB.setCell (Nat.le_refl _) _⟩
      case measure => simp [RowKit.intOf]; omega
    · obtain rfl : k = n := by omega
      go_wp2
      go_ret
      refine ⟨rfl, Own.of_row (hO.congr fun j hj => by rw [if_pos hj]) HL.out (by simp only [maxLen]; omega) (Nat.le_refl _) HW.out, hB⟩
end Go.Proofs.YtelbckpplckofaaGreat
namespace Go.Proofs.YtelbckpplckofaaGreat
set_option linter.unusedVariables false
open Go.RowKit

/-- w' is w with new blocks, and what is written of the old lies in the blocks F. -/
structure Only (F : List Nat) (w w' : World) : Prop where
  os : w'.os = w.os
  tape : w'.tape = w.tape
  output : w'.output = w.output
  size : w.heap.size ≤ w'.heap.size
  block : ∀ b, b < w.heap.size → b ∉ F → w'.heap[b]? = w.heap[b]?
section
variable {F G : List Nat} {a b c w w' : World} {B : Nat}
theorem Only.refl (F : List Nat) (w : World) : Only F w w := ⟨rfl, rfl, rfl, Nat.le_refl _, fun _ _ _ => rfl⟩
theorem Only.trans (h : Only F a b) (k : Only F b c) : Only F a c :=
  ⟨k.os.trans h.os, k.tape.trans h.tape, k.output.trans h.output, Nat.le_trans h.size k.size, fun i hi hn => (k.block i (Nat.lt_of_lt_of_le hi h.size) hn).trans (h.block i hi hn)⟩
theorem Only.mono (h : Only F a b) (hs : ∀ x ∈ F, x ∈ G) : Only G a b := ⟨h.os, h.tape, h.output, h.size, fun i hi hn => h.block i hi fun hx => hn (hs _ hx)⟩
theorem Only.drewN (h : Only F a w) (n : Nat) : Only F a (w.drewN n) := ⟨h.os, h.tape, h.output, h.size, h.block⟩
theorem Only.drew (h : Only F a w) : Only F a w.drew := ⟨h.os, h.tape, h.output, h.size, h.block⟩
theorem Only.alloc (h : Only F a w) (o : Obj) : Only F a (w.alloc o) :=
  ⟨h.os, h.tape, h.output, Nat.le_trans h.size (by simp), fun i hi hn => (Below.heap_alloc w o i (Nat.lt_of_lt_of_le hi h.size)).trans (h.block i hi hn)⟩
theorem Only.put (h : Only F a w) {p : Addr} (hp : p.block ∈ F ∨ a.heap.size ≤ p.block) (u : Value) : Only F a (w.setCell p u) :=
  ⟨h.os, h.tape, h.output, by simpa [World.setCell] using h.size, fun i hi hn => (Below.heap_setCell w p u i (by
    rintro rfl
    rcases hp with hp | hp
    · exact hn hp
    · omega)).trans (h.block i hi hn)⟩
theorem Only.below (h : Only F a w) (hF : ∀ f ∈ F, B ≤ f) (hB : B ≤ a.heap.size) : Below B a w :=
  ⟨h.os, h.tape, h.output, h.size, fun k hk => h.block k (by omega) fun hx => by have := hF k hx; omega⟩
theorem Only.nil (h : Only [] a w) : Below a.heap.size a w := h.below (fun f hf => absurd hf (by simp)) (Nat.le_refl _)
/-- Below a, then a write into what is newer than a. -/
theorem Only.since (h : Below a.heap.size a w) (k : Only F w w') (hF : ∀ f ∈ F, a.heap.size ≤ f) : Below a.heap.size a w' :=
  h.trans (k.below hF h.size)
end

/-- How a type's data lie in memory. 'R w B cs a': the cells cs read as a, all below block B. 'O w cs a F': they are a call's own; their blocks are F, not frozen. -/
structure Ty (α : Type) where
  k : Nat
  R : World → Nat → List Value → α → Prop
  O : World → List Value → α → List Nat → Prop
  lenR : ∀ {w B cs a}, R w B cs a → cs.length = k
  lenO : ∀ {w cs a F}, O w cs a F → cs.length = k
  keep : ∀ {w w' B cs a}, R w B cs a → (∀ b, b < B → w'.heap[b]? = w.heap[b]?) → R w' B cs a
  up : ∀ {w B B' cs a}, R w B cs a → B ≤ B' → R w B' cs a
  kept : ∀ {w w' cs a F}, O w cs a F → (∀ f ∈ F, w'.heap[f]? = w.heap[f]?) → O w' cs a F
  lt : ∀ {w cs a F}, O w cs a F → ∀ f ∈ F, f < w.heap.size
  read : ∀ {w cs a F}, O w cs a F → R w w.heap.size cs a
section
variable {α β : Type} {t : Ty α} {w w' : World} {B B' : Nat} {cs : List Value} {a : α} {F G : List Nat}
theorem Ty.reach (h : t.R w w.heap.size cs a) (hB : Below w.heap.size w w') : t.R w' w'.heap.size cs a := t.up (t.keep h hB.block) hB.size
theorem Ty.below (h : t.O w cs a F) (hB : Below w.heap.size w w') : t.O w' cs a F := t.kept h fun f hf => hB.block f (t.lt h f hf)
theorem Ty.only (h : t.O w cs a F) (hG : Only G w w') (hd : ∀ f ∈ F, f ∉ G) : t.O w' cs a F := t.kept h fun f hf => hG.block f (t.lt h f hf) (hd f hf)
/-- All of F is new since the world of B blocks, none twice. -/
def New (B : Nat) (F : List Nat) : Prop := F.Nodup ∧ ∀ f ∈ F, B ≤ f
theorem New.nil (B : Nat) : New B [] := ⟨List.nodup_nil, fun f hf => absurd hf (by simp)⟩
theorem New.lower (h : New B F) (hB : B' ≤ B) : New B' F := ⟨h.1, fun f hf => Nat.le_trans hB (h.2 f hf)⟩
theorem New.app (h : New B F) (k : New B' G) (hB : B ≤ B') (hF : ∀ f ∈ F, f < B') : New B (F ++ G) := by
  refine ⟨List.nodup_append.2 ⟨h.1, k.1, fun x hx y hy e => ?_⟩, fun f hf => ?_⟩
  · have h1 := hF x hx; have h2 := k.2 y hy; omega
  · rcases List.mem_append.1 hf with h' | h'
    · exact h.2 f h'
    · exact Nat.le_trans hB (k.2 f h')
theorem New.apart (h : New B F) (hG : ∀ f ∈ G, f < B) : ∀ f ∈ F, f ∉ G := fun f hf hx => by have := h.2 f hf; have := hG f hx; omega
end

/-! ### numbers -/
def tInt : Ty Int where
  k := 1
  R := fun _ _ cs x => cs = [.int .i64 x] ∧ (Lit.int .i64 x).wf = true
  O := fun _ cs x F => cs = [.int .i64 x] ∧ (Lit.int .i64 x).wf = true ∧ F = []
  lenR := fun h => by rw [h.1]; rfl
  lenO := fun h => by rw [h.1]; rfl
  keep := fun h _ => h
  up := fun h _ => h
  kept := fun h _ => h
  lt := fun h f hf => by rw [h.2.2] at hf; exact absurd hf (by simp)
  read := fun h => ⟨h.1, h.2.1⟩

/-! ### slices of numbers -/
def sliceR (K : IntKind) (w : World) (B : Nat) (cs : List Value) (l : List Int) : Prop := ∃ A n c, cs = [.slice A n c] ∧ n ≤ c ∧ c ≤ 9223372036854775807 ∧ Ints K w B A n l
def sliceO (K : IntKind) (w : World) (cs : List Value) (l : List Int) (F : List Nat) : Prop :=
  (∃ A c, cs = [.slice A 0 c] ∧ c ≤ 9223372036854775807 ∧ l = [] ∧ F = []) ∨
  ∃ g off c cur t, cs = [.slice (some ⟨g, off, none⟩) l.length c] ∧ 0 < l.length ∧ l.length ≤ c ∧ c ≤ 9223372036854775807 ∧ w.heap[g]? = some (.cells cur t (0, 0)) ∧ (∀ i, i < l.length → cur[off + i]? = some (.int K (l.getD i 0))) ∧ (∀ x ∈ l, (Lit.int K x).wf = true) ∧ F = [g]
theorem sliceO.read {K : IntKind} {w : World} {cs : List Value} {l : List Int} {F : List Nat} (h : sliceO K w cs l F) : sliceR K w w.heap.size cs l := by
  rcases h with ⟨A, c, h1, h2, rfl, _⟩ | ⟨g, off, c, cur, t, h1, h2, h3, h4, h5, h6, h7, _⟩
  · exact ⟨A, 0, c, h1, Nat.zero_le _, h2, Ints.nil⟩
  · refine ⟨_, _, c, h1, h3, h4, rfl, fun _ => ⟨g, off, rfl, Box.size (t := t) h5, fun i hi => ?_⟩, h7⟩
    rw [Box.cell (t := t) h5]; exact h6 i hi
def tSl (K : IntKind) : Ty (List Int) where
  k := 1
  R := sliceR K
  O := sliceO K
  lenR := fun h => by obtain ⟨A, n, c, h1, _⟩ := h; rw [h1]; rfl
  lenO := fun h => by rcases h with ⟨A, c, h1, _⟩ | ⟨g, off, c, cur, t, h1, _⟩ <;> rw [h1] <;> rfl
  keep := fun h hk => by obtain ⟨A, n, c, h1, h2, h3, h4⟩ := h; exact ⟨A, n, c, h1, h2, h3, h4.keep hk⟩
  up := fun h hB => by obtain ⟨A, n, c, h1, h2, h3, h4⟩ := h; exact ⟨A, n, c, h1, h2, h3, h4.up hB⟩
  kept := fun h hk => by
    rcases h with h | ⟨g, off, c, cur, t, h1, h2, h3, h4, h5, h6, h7, rfl⟩
    · exact .inl h
    · exact .inr ⟨g, off, c, cur, t, h1, h2, h3, h4, (hk g (by simp)).trans h5, h6, h7, rfl⟩
  lt := fun h f hf => by
    rcases h with ⟨A, c, _, _, _, rfl⟩ | ⟨g, off, c, cur, t, h1, h2, h3, h4, h5, h6, h7, rfl⟩
    · exact absurd hf (by simp)
    · rw [List.mem_singleton] at hf; rw [hf]; exact Box.size (t := t) h5
  read := sliceO.read
abbrev tBy : Ty (List Int) := tSl .u8
abbrev tIs : Ty (List Int) := tSl .i64
/-- An own slice in the words of the earlier texts. -/
theorem Own.tSl {K : IntKind} {e : TypeId} {w : World} {base : Nat} {v : Value} {l : List Int} (h : Own K e w base v l) : ∃ F, (tSl K).O w [v] l F ∧ New base F := by
  rcases h.1.2 with ⟨rfl, h0⟩ | ⟨g, cap, cur, rfl, hb, hg, hn, hm, hs, ht⟩
  · have : l = [] := List.eq_nil_of_length_eq_zero h0
    subst this
    exact ⟨[], .inl ⟨none, 0, rfl, by omega, rfl, rfl⟩, New.nil _⟩
  · by_cases h0 : l.length = 0
    · have : l = [] := List.eq_nil_of_length_eq_zero h0
      subst this
      exact ⟨[], .inl ⟨_, cap, rfl, hm, rfl, rfl⟩, New.nil _⟩
    · refine ⟨[g], .inr ⟨g, 0, cap, cur, e, rfl, by omega, hn, hm, hg, fun i hi => ?_, h.2, rfl⟩, ⟨by simp, fun f hf => by rw [List.mem_singleton] at hf; omega⟩⟩
      have h4 : (l.map (Value.int K))[i]? = some (.int K (l.getD i 0)) := by rw [List.getElem?_map, List.getD_eq_getElem?_getD, List.getElem?_eq_getElem hi]; rfl
      rw [← h4, ← ht, List.getElem?_take, if_pos (by omega), Nat.zero_add]
      simp
/-! ### structs -/
def Ty.prod {α β : Type} (s : Ty α) (t : Ty β) : Ty (α × β) where
  k := s.k + t.k
  R := fun w B cs p => ∃ c1 c2, cs = c1 ++ c2 ∧ s.R w B c1 p.1 ∧ t.R w B c2 p.2
  O := fun w cs p F => ∃ c1 c2 F1 F2, cs = c1 ++ c2 ∧ F = F1 ++ F2 ∧ s.O w c1 p.1 F1 ∧ t.O w c2 p.2 F2
  lenR := fun h => by obtain ⟨c1, c2, rfl, h1, h2⟩ := h; rw [List.length_append, s.lenR h1, t.lenR h2]
  lenO := fun h => by obtain ⟨c1, c2, F1, F2, rfl, rfl, h1, h2⟩ := h; rw [List.length_append, s.lenO h1, t.lenO h2]
  keep := fun h hk => by obtain ⟨c1, c2, rfl, h1, h2⟩ := h; exact ⟨c1, c2, rfl, s.keep h1 hk, t.keep h2 hk⟩
  up := fun h hB => by obtain ⟨c1, c2, rfl, h1, h2⟩ := h; exact ⟨c1, c2, rfl, s.up h1 hB, t.up h2 hB⟩
  kept := fun h hk => by
    obtain ⟨c1, c2, F1, F2, rfl, rfl, h1, h2⟩ := h
    exact ⟨c1, c2, F1, F2, rfl, rfl, s.kept h1 fun f hf => hk f (List.mem_append.2 (.inl hf)), t.kept h2 fun f hf => hk f (List.mem_append.2 (.inr hf))⟩
  lt := fun h f hf => by
    obtain ⟨c1, c2, F1, F2, rfl, rfl, h1, h2⟩ := h
    rcases List.mem_append.1 hf with h' | h'
    · exact s.lt h1 f h'
    · exact t.lt h2 f h'
  read := fun h => by obtain ⟨c1, c2, F1, F2, rfl, rfl, h1, h2⟩ := h; exact ⟨c1, c2, rfl, s.read h1, t.read h2⟩

/-! ### slices of structs -/
def Ty.rowR {α : Type} (t : Ty α) (w : World) (B : Nat) (cs : List Value) (l : List α) : Prop :=
  ∃ A n c, cs = [.slice A n c] ∧ n ≤ c ∧ c ≤ 9223372036854775807 ∧ l.length = n ∧ (0 < n → ∃ b off, A = some ⟨b, off, none⟩ ∧ b < B ∧
    ∀ i a, l[i]? = some a → ∃ es, (∀ j, j < t.k → w.cell? ⟨b, off + i * t.k + j, none⟩ = es[j]?) ∧ t.R w B es a)
def Ty.rowO {α : Type} (t : Ty α) (w : World) (cs : List Value) (l : List α) (F : List Nat) : Prop :=
  (∃ A c, cs = [.slice A 0 c] ∧ c ≤ 9223372036854775807 ∧ l = [] ∧ F = []) ∨
  ∃ (g off c : Nat) (cur : Array Value) (e : TypeId) (Fs : List (List Nat)), cs = [.slice (some ⟨g, off, none⟩) l.length c] ∧ 0 < l.length ∧ l.length ≤ c ∧ c ≤ 9223372036854775807 ∧ w.heap[g]? = some (.cells cur e (0, 0)) ∧ Fs.length = l.length ∧ F = g :: Fs.flatten ∧
    ∀ i a Fi, l[i]? = some a → Fs[i]? = some Fi → ∃ es, (∀ j, j < t.k → cur[off + i * t.k + j]? = es[j]?) ∧ t.O w es a Fi
theorem mem_flat {Fs : List (List Nat)} {i : Nat} {Fi : List Nat} (h : Fs[i]? = some Fi) {f : Nat} (hf : f ∈ Fi) : f ∈ Fs.flatten :=
  List.mem_flatten.2 ⟨Fi, List.mem_of_getElem? h, hf⟩
theorem Ty.rowO_read {α : Type} {t : Ty α} {w : World} {cs : List Value} {l : List α} {F : List Nat} (h : t.rowO w cs l F) : t.rowR w w.heap.size cs l := by
  rcases h with ⟨A, c, h1, h2, rfl, _⟩ | ⟨g, off, c, cur, e, Fs, h1, h2, h3, h4, h5, h6, h7, h8⟩
  · exact ⟨A, 0, c, h1, Nat.zero_le _, h2, rfl, fun h => absurd h (by omega)⟩
  · refine ⟨_, _, c, h1, h3, h4, rfl, fun _ => ⟨g, off, rfl, Box.size (t := e) h5, fun i a hi => ?_⟩⟩
    have hl : i < Fs.length := by rw [h6]; exact (List.getElem?_eq_some_iff.1 hi).1
    obtain ⟨es, k1, k2⟩ := h8 i a _ hi (List.getElem?_eq_getElem hl)
    exact ⟨es, fun j hj => by rw [Box.cell (t := e) h5]; exact k1 j hj, t.read k2⟩
def Ty.row {α : Type} (t : Ty α) : Ty (List α) where
  k := 1
  R := t.rowR
  O := t.rowO
  lenR := fun h => by obtain ⟨A, n, c, h1, _⟩ := h; rw [h1]; rfl
  lenO := fun h => by rcases h with ⟨A, c, h1, _⟩ | ⟨g, off, c, cur, e, Fs, h1, _⟩ <;> rw [h1] <;> rfl
  keep := fun h hk => by
    obtain ⟨A, n, c, h1, h2, h3, h4, h5⟩ := h
    refine ⟨A, n, c, h1, h2, h3, h4, fun h0 => ?_⟩
    obtain ⟨b, off, e, hb, hc⟩ := h5 h0
    refine ⟨b, off, e, hb, fun i a hi => ?_⟩
    obtain ⟨es, k1, k2⟩ := hc i a hi
    exact ⟨es, fun j hj => (World.cell?_of_block (hk _ hb)).trans (k1 j hj), t.keep k2 hk⟩
  up := fun h hB => by
    obtain ⟨A, n, c, h1, h2, h3, h4, h5⟩ := h
    refine ⟨A, n, c, h1, h2, h3, h4, fun h0 => ?_⟩
    obtain ⟨b, off, e, hb, hc⟩ := h5 h0
    refine ⟨b, off, e, Nat.lt_of_lt_of_le hb hB, fun i a hi => ?_⟩
    obtain ⟨es, k1, k2⟩ := hc i a hi
    exact ⟨es, k1, t.up k2 hB⟩
  kept := fun h hk => by
    rcases h with h | ⟨g, off, c, cur, e, Fs, h1, h2, h3, h4, h5, h6, rfl, h8⟩
    · exact .inl h
    · refine .inr ⟨g, off, c, cur, e, Fs, h1, h2, h3, h4, (hk g (by simp)).trans h5, h6, rfl, fun i a Fi hi hF => ?_⟩
      obtain ⟨es, k1, k2⟩ := h8 i a Fi hi hF
      exact ⟨es, k1, t.kept k2 fun f hf => hk f (List.mem_cons_of_mem _ (mem_flat hF hf))⟩
  lt := fun h f hf => by
    rcases h with ⟨A, c, _, _, _, rfl⟩ | ⟨g, off, c, cur, e, Fs, h1, h2, h3, h4, h5, h6, rfl, h8⟩
    · exact absurd hf (by simp)
    · rcases List.mem_cons.1 hf with rfl | hf
      · exact Box.size (t := e) h5
      · obtain ⟨Fi, hFi, hfi⟩ := List.mem_flatten.1 hf
        obtain ⟨i, hi, e1⟩ := List.getElem_of_mem hFi
        have hi' : i < _ := h6 ▸ hi
        obtain ⟨es, _, k2⟩ := h8 i _ Fi (List.getElem?_eq_getElem hi') (by rw [List.getElem?_eq_getElem hi, e1])
        exact t.lt k2 f hfi
  read := Ty.rowO_read
end Go.Proofs.YtelbckpplckofaaGreat
namespace Go.Proofs.YtelbckpplckofaaGreat
set_option linter.unusedVariables false
section
variable {α : Type}
/-- The sum of c over l. -/
def rsum (c : α → Nat) : List α → Nat
  | [] => 0
  | a :: l => c a + rsum c l
/-- Each marked, from k on, each with what its elders count behind k. -/
def rmk (c : α → Nat) (m : Int → α → α) : Int → List α → List α
  | _, [] => []
  | k, a :: l => m k a :: rmk c m (k + c a) l
/-- The first i marked. -/
def rpart (c : α → Nat) (m : Int → α → α) (k : Int) (l : List α) (i : Nat) : List α := rmk c m k (l.take i) ++ l.drop i
/-- The size of a row: one an element, and what they count. -/
def rsz (s : α → Nat) (l : List α) : Nat := l.length + rsum s l
variable {c s : α → Nat} {m : Int → α → α} {k : Int} {l l' : List α} {i : Nat} {a : α}
theorem rsum_app : rsum c (l ++ l') = rsum c l + rsum c l' := by
  induction l with
  | nil => simp [rsum]
  | cons b l ih => simp only [List.cons_append, rsum, ih]; omega
theorem rsum_take_le (c : α → Nat) (l : List α) (i : Nat) : rsum c (l.take i) ≤ rsum c l := by
  have h := rsum_app (c := c) (l := l.take i) (l' := l.drop i)
  rw [List.take_append_drop] at h; omega
theorem take_sn (h : l[i]? = some a) : l.take (i + 1) = l.take i ++ [a] := by
  rw [List.take_add_one, h]; rfl
theorem rsum_sn (h : l[i]? = some a) : rsum c (l.take (i + 1)) = rsum c (l.take i) + c a := by
  rw [take_sn h, rsum_app]; simp [rsum]
theorem rsum_at (h : l[i]? = some a) : rsum c (l.take i) + c a ≤ rsum c l := by
  rw [← rsum_sn h]; exact rsum_take_le _ _ _
theorem rsum_zero : rsum c (l.take 0) = 0 := by simp [rsum]
theorem rsum_all (h : l.length ≤ i) : rsum c (l.take i) = rsum c l := by rw [List.take_of_length_le h]
theorem rmk_len (k : Int) (l : List α) : (rmk c m k l).length = l.length := by
  induction l generalizing k with
  | nil => rfl
  | cons b l ih => simp [rmk, ih]
theorem rmk_app : rmk c m k (l ++ l') = rmk c m k l ++ rmk c m (k + rsum c l) l' := by
  induction l generalizing k with
  | nil => simp [rmk, rsum]
  | cons b l ih =>
    simp only [List.cons_append, rmk, rsum, ih]
    rw [show k + ((c b + rsum c l : Nat) : Int) = k + (c b : Int) + (rsum c l : Int) by omega]
theorem rpart_zero : rpart c m k l 0 = l := by simp [rpart, rmk]
theorem rpart_all (h : l.length ≤ i) : rpart c m k l i = rmk c m k l := by
  unfold rpart; rw [List.take_of_length_le h, List.drop_eq_nil_of_le h, List.append_nil]
theorem rpart_at (h : l[i]? = some a) : (rpart c m k l i)[i]? = some a := by
  have hi := (List.getElem?_eq_some_iff.1 h).1
  unfold rpart
  rw [List.getElem?_append_right (by rw [rmk_len, List.length_take]; omega), rmk_len, List.length_take, Nat.min_eq_left (by omega), Nat.sub_self, List.getElem?_drop, Nat.add_zero, h]
theorem rpart_set (h : l[i]? = some a) : (rpart c m k l i).set i (m (k + rsum c (l.take i)) a) = rpart c m k l (i + 1) := by
  have hi := (List.getElem?_eq_some_iff.1 h).1
  have hl : (rmk c m k (l.take i)).length = i := by rw [rmk_len, List.length_take]; omega
  unfold rpart
  rw [List.set_append_right _ _ (by omega), hl, Nat.sub_self, take_sn h, rmk_app, List.append_assoc]
  congr 1
  have e : l.drop i = a :: l.drop (i + 1) := by
    rw [List.drop_eq_getElem_cons hi]
    have := List.getElem?_eq_getElem hi
    rw [h] at this
    rw [← Option.some.inj this]
  rw [e]
  simp [rmk]
theorem rsz_le (l : List α) : l.length ≤ rsz s l := by unfold rsz; omega
/-- What is counted is at most M times the size. -/
theorem rsum_M {M : Nat} (h : ∀ a, c a ≤ M + M * s a) (l : List α) : rsum c l ≤ M * rsz s l := by
  induction l with
  | nil => simp [rsum]
  | cons b l ih =>
    have := h b
    simp only [rsum, rsz, List.length_cons] at ih ⊢
    rw [Nat.mul_add] at ih
    rw [Nat.mul_add, Nat.mul_add, Nat.mul_add]
    omega
/-- The size of the first i elements, the rest's count of one each not yet. -/
theorem rsz_step (h : l[i]? = some a) : l.length + rsum s (l.take i) + s a ≤ rsz s l := by
  have := rsum_at (c := s) h; unfold rsz; omega
end
end Go.Proofs.YtelbckpplckofaaGreat
namespace Go.Proofs.YtelbckpplckofaaGreat
set_option linter.unusedVariables false
open Go.RowKit
section
variable {α : Type} {t : Ty α} {w w' : World} {B n c i K : Nat} {A : Option Addr} {v : Value} {l : List α} {a a' : α} {F Fi G : List Nat} {es es' : List Value}

theorem rowR_len (h : t.rowR w B [.slice A n c] l) : l.length = n ∧ n ≤ c ∧ c ≤ 9223372036854775807 := by
  obtain ⟨A', n', c', h1, h2, h3, h4, _⟩ := h
  injection h1 with h1 _
  injection h1 with e1 e2 e3
  subst e1 e2 e3
  exact ⟨h4, h2, h3⟩
theorem rowR_at (h : t.rowR w B [.slice A n c] l) (hi : i < n) (hK : t.k = K) : ∃ a b off es, l[i]? = some a ∧ A = some ⟨b, off, none⟩ ∧ b < B ∧ (∀ j, j < K → w.cell? ⟨b, off + i * K + j, none⟩ = es[j]?) ∧ t.R w B es a := by
  obtain ⟨A', n', c', h1, h2, h3, h4, h5⟩ := h
  injection h1 with h1 _
  injection h1 with e1 e2 e3
  subst e1 e2 e3 hK
  obtain ⟨b, off, e, hb, hc⟩ := h5 (by omega)
  have hl : l[i]? = some (l[i]'(by omega)) := List.getElem?_eq_getElem (by omega)
  obtain ⟨es, k1, k2⟩ := hc i _ hl
  exact ⟨_, b, off, es, hl, e, hb, k1, k2⟩
theorem rowO_shape (h : t.rowO w [v] l F) : ∃ A c, v = .slice A l.length c ∧ l.length ≤ c ∧ c ≤ 9223372036854775807 := by
  rcases h with ⟨A, c, h1, h2, rfl, _⟩ | ⟨g, off, c, cur, e, Fs, h1, h2, h3, h4, _⟩
  · injection h1 with h1 _; exact ⟨A, c, h1, Nat.zero_le _, h2⟩
  · injection h1 with h1 _; exact ⟨_, c, h1, h3, h4⟩
/-- The i-th part of a list of blocks is apart from the others and from g. -/
theorem flat_apart {g : Nat} {Fs : List (List Nat)} (h : (g :: Fs.flatten).Nodup) {i j : Nat} {Fi Fj : List Nat} (hi : Fs[i]? = some Fi) (hj : Fs[j]? = some Fj) (hne : i ≠ j) : ∀ f ∈ Fi, f ∉ Fj := by
  induction Fs generalizing i j with
  | nil => simp at hi
  | cons F0 Fs ih =>
    simp only [List.flatten_cons] at h
    rw [List.nodup_cons] at h
    obtain ⟨h0, h1⟩ := h
    rw [List.nodup_append] at h1
    obtain ⟨h1, h2, h3⟩ := h1
    have h4 : (g :: Fs.flatten).Nodup := List.nodup_cons.2 ⟨fun hx => h0 (List.mem_append.2 (.inr hx)), h2⟩
    intro f hf hg
    cases i with
    | zero =>
      cases j with
      | zero => exact hne rfl
      | succ j =>
        simp at hi hj; subst hi
        exact h3 f hf f (mem_flat hj hg) rfl
    | succ i =>
      cases j with
      | zero =>
        simp at hi hj; subst hj
        exact h3 f hg f (mem_flat hi hf) rfl
      | succ j =>
        simp at hi hj
        exact ih h4 hi hj (fun e => hne (by rw [e])) f hf hg
/-- One element of an own row: its cells; its blocks; and what puts it back, changed. -/
theorem rowO_at (h : t.rowO w [.slice A n c] l F) (hF : F.Nodup) (hl : l[i]? = some a) (hK : t.k = K) :
    ∃ g off cur e es Fi, A = some ⟨g, off, none⟩ ∧ w.heap[g]? = some (.cells cur e (0, 0)) ∧ (∀ j, j < K → cur[off + i * K + j]? = es[j]?) ∧ t.O w es a Fi ∧ g ∈ F ∧ g ∉ Fi ∧ (∀ f ∈ Fi, f ∈ F) ∧ Fi.Nodup ∧
      ∀ w' cur' es' a', w'.heap[g]? = some (.cells cur' e (0, 0)) → (∀ j, j < K → cur'[off + i * K + j]? = es'[j]?) → (∀ q, (∀ j, j < K → q ≠ off + i * K + j) → cur'[q]? = cur[q]?) →
        t.O w' es' a' Fi → (∀ f ∈ F, f ≠ g → f ∉ Fi → w'.heap[f]? = w.heap[f]?) → t.rowO w' [.slice A n c] (l.set i a') F := by
  subst hK
  have hi : i < l.length := (List.getElem?_eq_some_iff.1 hl).1
  rcases h with ⟨A', c', h1, h2, rfl, _⟩ | ⟨g, off, c', cur, e, Fs, h1, h2, h3, h4, h5, h6, rfl, h8⟩
  · simp at hl
  · injection h1 with h1 _
    injection h1 with e1 e2 e3
    subst e1 e2 e3
    have hl' : i < Fs.length := by omega
    have hFi : Fs[i]? = some (Fs[i]'hl') := List.getElem?_eq_getElem hl'
    obtain ⟨es, k1, k2⟩ := h8 i a _ hl hFi
    have hgF : g ∉ Fs.flatten := (List.nodup_cons.1 hF).1
    have hnd : (Fs[i]'hl').Nodup := (List.pairwise_flatten.1 (List.nodup_cons.1 hF).2).1 _ (List.getElem_mem _)
    refine ⟨g, off, cur, e, es, Fs[i]'hl', rfl, h5, k1, k2, List.mem_cons_self, fun hx => hgF (mem_flat hFi hx), fun f hf => List.mem_cons_of_mem _ (mem_flat hFi hf), hnd, ?_⟩
    intro w' cur' es' a' m1 m2 m3 m4 m5
    refine .inr ⟨g, off, c, cur', e, Fs, by rw [List.length_set], by rw [List.length_set]; omega, by rw [List.length_set]; omega, h4, m1, by rw [List.length_set]; omega, rfl, ?_⟩
    intro i' a2 Fi2 q1 q2
    by_cases hii : i' = i
    · subst hii
      rw [List.getElem?_set_self (by omega)] at q1
      injection q1 with q1
      subst q1
      rw [hFi] at q2
      injection q2 with q2
      subst q2
      exact ⟨es', m2, m4⟩
    · rw [List.getElem?_set_ne (fun e => hii e.symm)] at q1
      obtain ⟨es2, p1, p2⟩ := h8 i' a2 Fi2 q1 q2
      refine ⟨es2, fun j hj => ?_, t.kept p2 fun f hf => ?_⟩
      · rw [m3 _ fun j' hj' => ?_]
        · exact p1 j hj
        · intro hq
          have : i' * t.k + j = i * t.k + j' := by omega
          rcases Nat.lt_or_gt_of_ne hii with hlt | hlt
          · have : (i' + 1) * t.k ≤ i * t.k := Nat.mul_le_mul_right _ hlt
            rw [Nat.succ_mul] at this; omega
          · have : (i + 1) * t.k ≤ i' * t.k := Nat.mul_le_mul_right _ hlt
            rw [Nat.succ_mul] at this; omega
      · exact m5 f (List.mem_cons_of_mem _ (mem_flat q2 hf)) (fun e => hgF (e ▸ mem_flat q2 hf)) (flat_apart hF q2 hFi hii f hf)
end
/-! ### cells written one behind the other -/
def puts (w : World) (g off : Nat) : List Value → World
  | [] => w
  | v :: vs => puts (w.setCell ⟨g, off, none⟩ v) g (off + 1) vs
theorem puts_far {w : World} {g off b : Nat} {vs : List Value} (h : b ≠ g) : (puts w g off vs).heap[b]? = w.heap[b]? := by
  induction vs generalizing w off with
  | nil => rfl
  | cons v vs ih => exact ih.trans (Below.heap_setCell w ⟨g, off, none⟩ v b h)
theorem puts_heap {w : World} {g off : Nat} {vs : List Value} {cur : Array Value} {e : TypeId} (h : w.heap[g]? = some (.cells cur e (0, 0))) :
    ∃ cur', (puts w g off vs).heap[g]? = some (.cells cur' e (0, 0)) ∧ cur'.size = cur.size ∧ (∀ q, q < off ∨ off + vs.length ≤ q → cur'[q]? = cur[q]?) ∧ (∀ j, j < vs.length → off + j < cur.size → cur'[off + j]? = vs[j]?) := by
  induction vs generalizing w off cur with
  | nil => exact ⟨cur, h, rfl, fun _ _ => rfl, fun j hj => absurd hj (by simp)⟩
  | cons v vs ih =>
    obtain ⟨cur', h1, h2, h3, h4⟩ := ih (off := off + 1) (Box.put (t := e) h off v)
    refine ⟨cur', h1, by rw [h2]; simp, fun q hq => ?_, fun j hj hs => ?_⟩
    · simp only [List.length_cons] at hq
      rw [h3 q (by omega), Array.getElem?_setIfInBounds, if_neg (by omega)]
    · simp only [List.length_cons] at hj
      cases j with
      | zero =>
        rw [h3 _ (by omega), Array.getElem?_setIfInBounds, if_pos (by omega), if_pos (by omega)]; rfl
      | succ j =>
        have := h4 j (by omega) (by simp; omega)
        rw [show off + (j + 1) = off + 1 + j by omega, this]; rfl
theorem below_puts {B : Nat} {a w : World} {g off : Nat} {vs : List Value} (h : Below B a w) (hg : B ≤ g) : Below B a (puts w g off vs) := by
  induction vs generalizing w off with
  | nil => exact h
  | cons v vs ih => exact ih (h.setCell hg v)
theorem only_puts {F : List Nat} {a w : World} {g off : Nat} {vs : List Value} (h : Only F a w) (hg : g ∈ F) : Only F a (puts w g off vs) := by
  induction vs generalizing w off with
  | nil => exact h
  | cons v vs ih => exact ih (h.put (.inl hg) v)
theorem size_puts {w : World} {g off : Nat} {vs : List Value} : (puts w g off vs).heap.size = w.heap.size := by
  induction vs generalizing w off with
  | nil => rfl
  | cons v vs ih => exact ih.trans (by simp [World.setCell])
section
variable {α : Type}
/-- Block g has room for n things; the first ones are l, a call's own. -/
def Fill (t : Ty α) (w : World) (g : Nat) (e : TypeId) (n : Nat) (l : List α) (F : List Nat) : Prop :=
  ∃ (cur : Array Value) (Fs : List (List Nat)), w.heap[g]? = some (.cells cur e (0, 0)) ∧ cur.size = n * t.k ∧ l.length ≤ n ∧ Fs.length = l.length ∧ F = Fs.flatten ∧
    ∀ i a Fi, l[i]? = some a → Fs[i]? = some Fi → ∃ es, (∀ j, j < t.k → cur[i * t.k + j]? = es[j]?) ∧ t.O w es a Fi
variable {t : Ty α} {w w' : World} {g n : Nat} {e : TypeId} {l : List α} {F Fa : List Nat} {a : α} {es : List Value}
theorem Fill.start {cur : Array Value} (h : w.heap[g]? = some (.cells cur e (0, 0))) (hs : cur.size = n * t.k) : Fill t w g e n [] [] :=
  ⟨cur, [], h, hs, Nat.zero_le _, rfl, rfl, fun i a Fi hi => by simp at hi⟩
theorem Fill.cell (h : Fill t w g e n l F) (hl : l.length < n) {j K : Nat} (hK : t.k = K) (hj : j < K) : ∃ u, w.cell? ⟨g, l.length * K + j, none⟩ = some u := by
  subst hK
  obtain ⟨cur, Fs, h1, h2, _⟩ := h
  have : (l.length + 1) * t.k ≤ n * t.k := Nat.mul_le_mul_right _ hl
  rw [Nat.succ_mul] at this
  rw [Box.cell (t := e) h1, Array.getElem?_eq_getElem (by omega)]
  exact ⟨_, rfl⟩
theorem Fill.frozen (h : Fill t w g e n l F) (q : Nat) : w.frozen? ⟨g, q, none⟩ = false := by
  obtain ⟨cur, Fs, h1, _⟩ := h
  exact Box.frozen (t := e) h1 q
theorem Fill.keep (h : Fill t w g e n l F) (hg : w'.heap[g]? = w.heap[g]?) (hF : ∀ f ∈ F, w'.heap[f]? = w.heap[f]?) : Fill t w' g e n l F := by
  obtain ⟨cur, Fs, h1, h2, h3, h4, rfl, h6⟩ := h
  refine ⟨cur, Fs, hg.trans h1, h2, h3, h4, rfl, fun i a Fi hi hf => ?_⟩
  obtain ⟨es, k1, k2⟩ := h6 i a Fi hi hf
  exact ⟨es, k1, t.kept k2 fun f hff => hF f (mem_flat hf hff)⟩
theorem Fill.size (h : Fill t w g e n l F) : g < w.heap.size := by
  obtain ⟨cur, Fs, h1, _⟩ := h
  exact Box.size (t := e) h1
theorem Fill.lt (h : Fill t w g e n l F) : ∀ f ∈ F, f < w.heap.size := by
  obtain ⟨cur, Fs, h1, h2, h3, h4, rfl, h6⟩ := h
  intro f hf
  obtain ⟨Fi, hFi, hfi⟩ := List.mem_flatten.1 hf
  obtain ⟨i, hi, e1⟩ := List.getElem_of_mem hFi
  have hi' : i < l.length := h4 ▸ hi
  obtain ⟨es, _, k2⟩ := h6 i _ Fi (List.getElem?_eq_getElem hi') (by rw [List.getElem?_eq_getElem hi, e1])
  exact t.lt k2 f hfi
theorem Fill.below (h : Fill t w g e n l F) (hB : Below w.heap.size w w') : Fill t w' g e n l F := h.keep (hB.block g h.size) fun f hf => hB.block f (h.lt f hf)
theorem Fill.push (h : Fill t w g e n l F) (hl : l.length < n) (hO : t.O w es a Fa) (hg : g ∉ F) (hga : g ∉ Fa) {K : Nat} (hK : t.k = K) : Fill t (puts w g (l.length * K) es) g e n (l ++ [a]) (F ++ Fa) := by
  subst hK
  obtain ⟨cur, Fs, h1, h2, h3, h4, rfl, h6⟩ := h
  obtain ⟨cur', k1, k2, k3, k4⟩ := puts_heap (off := l.length * t.k) (vs := es) h1
  have hes := t.lenO hO
  have hn : (l.length + 1) * t.k ≤ n * t.k := Nat.mul_le_mul_right _ hl
  rw [Nat.succ_mul] at hn
  refine ⟨cur', Fs ++ [Fa], k1, k2.trans h2, by simp; omega, by simp [h4], by simp, fun i b Fi hi hf => ?_⟩
  by_cases hii : i < l.length
  · rw [List.getElem?_append_left hii] at hi
    rw [List.getElem?_append_left (by omega)] at hf
    obtain ⟨es2, m1, m2⟩ := h6 i b Fi hi hf
    have : (i + 1) * t.k ≤ l.length * t.k := Nat.mul_le_mul_right _ hii
    rw [Nat.succ_mul] at this
    exact ⟨es2, fun j hj => by rw [k3 _ (by omega)]; exact m1 j hj, t.kept m2 fun f hff => puts_far fun e => hg (e ▸ mem_flat hf hff)⟩
  · rw [List.getElem?_append_right (by omega)] at hi
    rw [List.getElem?_append_right (by omega)] at hf
    have hi0 : i - l.length = 0 := by
      have := (List.getElem?_eq_some_iff.1 hi).1
      simp at this; omega
    rw [hi0] at hi
    rw [h4, hi0] at hf
    simp at hi hf
    subst hi hf
    obtain rfl : i = l.length := by omega
    exact ⟨es, fun j hj => k4 j (by omega) (by omega), t.kept hO fun f hff => puts_far fun e => hga (e ▸ hff)⟩
theorem Fill.done (h : Fill t w g e n l F) (hl : l.length = n) (hm : n ≤ 9223372036854775807) : ∃ F', t.rowO w [.slice (some ⟨g, 0, none⟩) l.length n] l F' ∧ (F' = [] ∨ F' = g :: F) := by
  obtain ⟨cur, Fs, h1, h2, h3, h4, rfl, h6⟩ := h
  by_cases h0 : 0 < l.length
  · exact ⟨g :: Fs.flatten, .inr ⟨g, 0, n, cur, e, Fs, rfl, h0, by omega, hm, h1, h4, rfl, fun i a Fi hi hf => by simpa using h6 i a Fi hi hf⟩, .inr rfl⟩
  · have : l = [] := List.eq_nil_of_length_eq_zero (by omega)
    subst this
    exact ⟨[], .inl ⟨_, n, rfl, hm, rfl, rfl⟩, .inl rfl⟩
theorem New.cons {B : Nat} {F F' : List Nat} (h : New (B + 1) F) (h' : F' = [] ∨ F' = B :: F) : New B F' := by
  rcases h' with rfl | rfl
  · exact New.nil _
  · exact ⟨List.nodup_cons.2 ⟨fun hx => by have := h.2 _ hx; omega, h.1⟩, fun f hf => by rcases List.mem_cons.1 hf with rfl | hf; exact Nat.le_refl _; have := h.2 _ hf; omega⟩
theorem New.not {B g : Nat} {F : List Nat} (h : New B F) (hg : g < B) : g ∉ F := fun hx => by have := h.2 _ hx; omega
theorem New.sub {B : Nat} {F G : List Nat} (h : New B F) (hs : ∀ f ∈ G, f ∈ F) (hn : G.Nodup) : New B G := ⟨hn, fun f hf => h.2 f (hs f hf)⟩
end
theorem wpList_mkS {P : Program} (w : World) {ops : Array Oper} {rest : List Oper} {o : Oper} {a : Act} {Q : Exit → Act → World → Prop}
    (hg : o.guard = none) (l c : Operand) (t : TypeId) (hop : o.op = Op.makeSlice t l c)
    (e : TypeId) (i : TypeInfo) (z : Value) (K : Nat) (h1 : P.underlying t = some (.slice e)) (h2 : P.info? e = some i) (h3 : i.zero = some z) (h4 : i.size = K)
    (n : Nat) (hl : a.eval l = .int .i64 n) (hc : a.eval c = .int .i64 n) (b2 : i.bytes * n ≤ 281474976710656) (b3 : n ≤ maxLen)
    (hK : ∀ w' cur, w'.heap[w.heap.size]? = some (.cells cur e (0, 0)) → cur.size = n * K → Below w.heap.size w w' → w.heap.size < w'.heap.size → wpList P ops Q rest (a.put o.dst (.slice (some ⟨w.heap.size, 0, none⟩) n n)) w') :
    wpList P ops Q (o :: rest) a w := by
  refine wpList_plain hg fun K' hK' => ?_
  have hrun := run_make (P := P) w t e i z h1 h2 h3 .i64 .i64 n n (by omega) (Int.le_refl _) (by omega) (by simp only [maxLen] at b3; omega)
  simp only [Int.toNat_natCast, h4] at hrun
  unfold Oper.wp
  simp [execOp, hop, hl, hc, hrun, Result.andThen]
  exact hK' _ _ (hK _ _ (heap_alloc_new w _) (by simp [madeCells]) ((Below.refl _ _).alloc (Nat.le_refl _) _) (by simp))
end Go.Proofs.YtelbckpplckofaaGreat
namespace Go.Proofs.YtelbckpplckofaaGreat
set_option linter.unusedVariables false
open Go.RowKit
theorem tInt.mk {w : World} {B : Nat} {x : Int} (h : (Lit.int .i64 x).wf = true) : tInt.R w B [.int .i64 x] x := ⟨rfl, h⟩
theorem sl_one {K : IntKind} {w : World} {B : Nat} {cs : List Value} {l : List Int} (h : (tSl K).R w B cs l) : ∃ A n c, cs = [.slice A n c] ∧ n ≤ c ∧ c ≤ 9223372036854775807 ∧ Ints K w B A n l := h
theorem slO_one {K : IntKind} {w : World} {cs : List Value} {l : List Int} {F : List Nat} (h : (tSl K).O w cs l F) : ∃ A c, cs = [.slice A l.length c] ∧ l.length ≤ c ∧ c ≤ 9223372036854775807 := by
  rcases h with ⟨A, c, h1, h2, rfl, _⟩ | ⟨g, off, c, cur, t, h1, h2, h3, h4, _⟩
  · exact ⟨A, c, h1, Nat.zero_le _, h2⟩
  · exact ⟨_, c, h1, h3, h4⟩
theorem row_one {α : Type} {t : Ty α} {w : World} {B : Nat} {cs : List Value} {l : List α} (h : t.row.R w B cs l) : ∃ A n c, cs = [.slice A n c] ∧ n ≤ c ∧ c ≤ 9223372036854775807 ∧ l.length = n := by
  obtain ⟨A, n, c, h1, h2, h3, h4, _⟩ := h
  exact ⟨A, n, c, h1, h2, h3, h4⟩
theorem rowO_one {α : Type} {t : Ty α} {w : World} {cs : List Value} {l : List α} {F : List Nat} (h : t.row.O w cs l F) : ∃ A c, cs = [.slice A l.length c] ∧ l.length ≤ c ∧ c ≤ 9223372036854775807 := by
  rcases h with ⟨A, c, h1, h2, rfl, _⟩ | ⟨g, off, c, cur, e, Fs, h1, h2, h3, h4, _⟩
  · exact ⟨A, c, h1, Nat.zero_le _, h2⟩
  · exact ⟨_, c, h1, h3, h4⟩

/-! ### Cell -/
abbrev DCell := List Int
abbrev tCell : Ty DCell := tBy
def szCell (p : DCell) : Nat := (p).length
theorem openCell {w : World} {B : Nat} {cs : List Value} {p : DCell} (h : tCell.R w B cs p) : ∃ A0 n0 c0, cs = [.slice A0 n0 c0] ∧ n0 ≤ c0 ∧ c0 ≤ 9223372036854775807 ∧ (p).length = n0 ∧ tBy.R w B [.slice A0 n0 c0] (p) := by
  obtain ⟨A1, n1, c1, rfl, he1, hf1, hg1⟩ := sl_one h
  exact ⟨A1, n1, c1, rfl, he1, hf1, hg1.1, ⟨A1, n1, c1, rfl, he1, hf1, hg1⟩⟩
theorem makeCell {w : World} {B : Nat} {p : DCell} {v0 : Value} (h0 : tBy.R w B [v0] (p)) : tCell.R w B [v0] p := h0
theorem openOCell {w : World} {cs : List Value} {p : DCell} {F : List Nat} (h : tCell.O w cs p F) : ∃ A0 c0 F0, cs = [.slice A0 (p).length c0] ∧ F = F0 ∧ (p).length ≤ c0 ∧ c0 ≤ 9223372036854775807 ∧ tBy.O w [.slice A0 (p).length c0] (p) F0 := by
  have hr1 := h
  obtain ⟨A1, c1, rfl, he1, hf1⟩ := slO_one h
  exact ⟨A1, c1, F, rfl, by simp, he1, hf1, hr1⟩
theorem makeOCell {w : World} {p : DCell} {v0 : Value} {F0 : List Nat} (h0 : tBy.O w [v0] (p) F0) : ∃ F, tCell.O w [v0] p F ∧ F = F0 := ⟨_, h0, by simp⟩
/-! ### Peeled -/
/-! ### Piece -/
abbrev DPiece := Int × Int × Int × List Int
abbrev tPiece : Ty DPiece := tInt.prod (tInt.prod (tInt.prod (tBy)))
def szPiece (p : DPiece) : Nat := (p.2.2.2).length
def rcPiece (p : DPiece) : Nat := 1 + 1 + 1 + (p.2.2.2).length
def rmPiece (k : Int) (p : DPiece) : DPiece := (k, k + 1, k + 1 + 1, marks8 (k + 1 + 1 + 1) (p.2.2.2).length)
theorem rcPiece_le (p : DPiece) : rcPiece p ≤ 5 + 5 * szPiece p := by
  simp only [rcPiece, szPiece]
  omega
theorem openPiece {w : World} {B : Nat} {cs : List Value} {p : DPiece} (h : tPiece.R w B cs p) : ∃ A3 n3 c3, cs = [.int .i64 (p.1), .int .i64 (p.2.1), .int .i64 (p.2.2.1), .slice A3 n3 c3] ∧ (Lit.int .i64 (p.1)).wf = true ∧ (Lit.int .i64 (p.2.1)).wf = true ∧ (Lit.int .i64 (p.2.2.1)).wf = true ∧ n3 ≤ c3 ∧ c3 ≤ 9223372036854775807 ∧ (p.2.2.2).length = n3 ∧ tBy.R w B [.slice A3 n3 c3] (p.2.2.2) := by
  obtain ⟨ca1, cb1, rfl, ha1, hb1⟩ := h
  obtain ⟨rfl, hi2⟩ := ha1
  obtain ⟨ca3, cb3, rfl, ha3, hb3⟩ := hb1
  obtain ⟨rfl, hi4⟩ := ha3
  obtain ⟨ca5, cb5, rfl, ha5, hb5⟩ := hb3
  obtain ⟨rfl, hi6⟩ := ha5
  obtain ⟨A7, n7, c7, rfl, he7, hf7, hg7⟩ := sl_one hb5
  exact ⟨A7, n7, c7, rfl, hi2, hi4, hi6, he7, hf7, hg7.1, ⟨A7, n7, c7, rfl, he7, hf7, hg7⟩⟩
theorem openOPiece {w : World} {cs : List Value} {p : DPiece} {F : List Nat} (h : tPiece.O w cs p F) : ∃ A3 c3 F3, cs = [.int .i64 (p.1), .int .i64 (p.2.1), .int .i64 (p.2.2.1), .slice A3 (p.2.2.2).length c3] ∧ F = F3 ∧ (Lit.int .i64 (p.1)).wf = true ∧ (Lit.int .i64 (p.2.1)).wf = true ∧ (Lit.int .i64 (p.2.2.1)).wf = true ∧ (p.2.2.2).length ≤ c3 ∧ c3 ≤ 9223372036854775807 ∧ tBy.O w [.slice A3 (p.2.2.2).length c3] (p.2.2.2) F3 := by
  obtain ⟨ca1, cb1, Fa1, Fb1, rfl, rfl, ha1, hb1⟩ := h
  obtain ⟨rfl, hi2, rfl⟩ := ha1
  obtain ⟨ca3, cb3, Fa3, Fb3, rfl, rfl, ha3, hb3⟩ := hb1
  obtain ⟨rfl, hi4, rfl⟩ := ha3
  obtain ⟨ca5, cb5, Fa5, Fb5, rfl, rfl, ha5, hb5⟩ := hb3
  obtain ⟨rfl, hi6, rfl⟩ := ha5
  have hr7 := hb5
  obtain ⟨A7, c7, rfl, he7, hf7⟩ := slO_one hb5
  exact ⟨A7, c7, Fb5, rfl, by simp, hi2, hi4, hi6, he7, hf7, hr7⟩
theorem makeOPiece {w : World} {p : DPiece} {v3 : Value} {F3 : List Nat} (h0 : (Lit.int .i64 (p.1)).wf = true) (h1 : (Lit.int .i64 (p.2.1)).wf = true) (h2 : (Lit.int .i64 (p.2.2.1)).wf = true) (h3 : tBy.O w [v3] (p.2.2.2) F3) : ∃ F, tPiece.O w [.int .i64 (p.1), .int .i64 (p.2.1), .int .i64 (p.2.2.1), v3] p F ∧ F = F3 := ⟨_, ⟨_, _, _, _, rfl, rfl, ⟨rfl, h0, rfl⟩, ⟨_, _, _, _, rfl, rfl, ⟨rfl, h1, rfl⟩, ⟨_, _, _, _, rfl, rfl, ⟨rfl, h2, rfl⟩, h3⟩⟩⟩, by simp⟩
/-! ### Whole -/
abbrev DWhole := Int × Int × Int × List DPiece
abbrev tWhole : Ty DWhole := tInt.prod (tInt.prod (tInt.prod (tPiece.row)))
def szWhole (p : DWhole) : Nat := rsz szPiece (p.2.2.2)
def rcWhole (p : DWhole) : Nat := 1 + 1 + 1 + rsum rcPiece (p.2.2.2)
def rmWhole (k : Int) (p : DWhole) : DWhole := (k, k + 1, k + 1 + 1, rmk rcPiece rmPiece (k + 1 + 1 + 1) (p.2.2.2))
theorem rcWhole_le (p : DWhole) : rcWhole p ≤ 5 + 5 * szWhole p := by
  have h3 := rsum_M (c := rcPiece) (s := szPiece) (M := 5) rcPiece_le (p.2.2.2)
  simp only [rcWhole, szWhole]
  omega
theorem openWhole {w : World} {B : Nat} {cs : List Value} {p : DWhole} (h : tWhole.R w B cs p) : ∃ A3 n3 c3, cs = [.int .i64 (p.1), .int .i64 (p.2.1), .int .i64 (p.2.2.1), .slice A3 n3 c3] ∧ (Lit.int .i64 (p.1)).wf = true ∧ (Lit.int .i64 (p.2.1)).wf = true ∧ (Lit.int .i64 (p.2.2.1)).wf = true ∧ n3 ≤ c3 ∧ c3 ≤ 9223372036854775807 ∧ (p.2.2.2).length = n3 ∧ tPiece.row.R w B [.slice A3 n3 c3] (p.2.2.2) := by
  obtain ⟨ca1, cb1, rfl, ha1, hb1⟩ := h
  obtain ⟨rfl, hi2⟩ := ha1
  obtain ⟨ca3, cb3, rfl, ha3, hb3⟩ := hb1
  obtain ⟨rfl, hi4⟩ := ha3
  obtain ⟨ca5, cb5, rfl, ha5, hb5⟩ := hb3
  obtain ⟨rfl, hi6⟩ := ha5
  have hr7 := hb5
  obtain ⟨A7, n7, c7, rfl, he7, hf7, hg7⟩ := row_one hb5
  exact ⟨A7, n7, c7, rfl, hi2, hi4, hi6, he7, hf7, hg7, hr7⟩
theorem openOWhole {w : World} {cs : List Value} {p : DWhole} {F : List Nat} (h : tWhole.O w cs p F) : ∃ A3 c3 F3, cs = [.int .i64 (p.1), .int .i64 (p.2.1), .int .i64 (p.2.2.1), .slice A3 (p.2.2.2).length c3] ∧ F = F3 ∧ (Lit.int .i64 (p.1)).wf = true ∧ (Lit.int .i64 (p.2.1)).wf = true ∧ (Lit.int .i64 (p.2.2.1)).wf = true ∧ (p.2.2.2).length ≤ c3 ∧ c3 ≤ 9223372036854775807 ∧ tPiece.row.O w [.slice A3 (p.2.2.2).length c3] (p.2.2.2) F3 := by
  obtain ⟨ca1, cb1, Fa1, Fb1, rfl, rfl, ha1, hb1⟩ := h
  obtain ⟨rfl, hi2, rfl⟩ := ha1
  obtain ⟨ca3, cb3, Fa3, Fb3, rfl, rfl, ha3, hb3⟩ := hb1
  obtain ⟨rfl, hi4, rfl⟩ := ha3
  obtain ⟨ca5, cb5, Fa5, Fb5, rfl, rfl, ha5, hb5⟩ := hb3
  obtain ⟨rfl, hi6, rfl⟩ := ha5
  have hr7 := hb5
  obtain ⟨A7, c7, rfl, he7, hf7⟩ := rowO_one hb5
  exact ⟨A7, c7, Fb5, rfl, by simp, hi2, hi4, hi6, he7, hf7, hr7⟩
theorem makeOWhole {w : World} {p : DWhole} {v3 : Value} {F3 : List Nat} (h0 : (Lit.int .i64 (p.1)).wf = true) (h1 : (Lit.int .i64 (p.2.1)).wf = true) (h2 : (Lit.int .i64 (p.2.2.1)).wf = true) (h3 : tPiece.row.O w [v3] (p.2.2.2) F3) : ∃ F, tWhole.O w [.int .i64 (p.1), .int .i64 (p.2.1), .int .i64 (p.2.2.1), v3] p F ∧ F = F3 := ⟨_, ⟨_, _, _, _, rfl, rfl, ⟨rfl, h0, rfl⟩, ⟨_, _, _, _, rfl, rfl, ⟨rfl, h1, rfl⟩, ⟨_, _, _, _, rfl, rfl, ⟨rfl, h2, rfl⟩, h3⟩⟩⟩, by simp⟩
/-! ### Desk -/
abbrev DDesk := List DWhole × List Int
abbrev tDesk : Ty DDesk := tWhole.row.prod (tIs)
def szDesk (p : DDesk) : Nat := rsz szWhole (p.1) + (p.2).length
def cntDesk (p : DDesk) : Nat := rsum rcWhole (p.1) + (p.2).length
def mkDesk (k : Int) (p : DDesk) : DDesk := (rmk rcWhole rmWhole (k) (p.1), marks (k + ((rsum rcWhole (p.1) : Nat) : Int)) (p.2).length)
theorem openDesk {w : World} {B : Nat} {cs : List Value} {p : DDesk} (h : tDesk.R w B cs p) : ∃ A0 n0 c0 A1 n1 c1, cs = [.slice A0 n0 c0, .slice A1 n1 c1] ∧ n0 ≤ c0 ∧ c0 ≤ 9223372036854775807 ∧ (p.1).length = n0 ∧ tWhole.row.R w B [.slice A0 n0 c0] (p.1) ∧ n1 ≤ c1 ∧ c1 ≤ 9223372036854775807 ∧ (p.2).length = n1 ∧ tIs.R w B [.slice A1 n1 c1] (p.2) := by
  obtain ⟨ca1, cb1, rfl, ha1, hb1⟩ := h
  have hr2 := ha1
  obtain ⟨A2, n2, c2, rfl, he2, hf2, hg2⟩ := row_one ha1
  obtain ⟨A3, n3, c3, rfl, he3, hf3, hg3⟩ := sl_one hb1
  exact ⟨A2, n2, c2, A3, n3, c3, rfl, he2, hf2, hg2, hr2, he3, hf3, hg3.1, ⟨A3, n3, c3, rfl, he3, hf3, hg3⟩⟩
theorem makeDesk {w : World} {B : Nat} {p : DDesk} {v0 v1 : Value} (h0 : tWhole.row.R w B [v0] (p.1)) (h1 : tIs.R w B [v1] (p.2)) : tDesk.R w B [v0, v1] p := ⟨_, _, rfl, h0, h1⟩
theorem openODesk {w : World} {cs : List Value} {p : DDesk} {F : List Nat} (h : tDesk.O w cs p F) : ∃ A0 c0 F0 A1 c1 F1, cs = [.slice A0 (p.1).length c0, .slice A1 (p.2).length c1] ∧ F = F0 ++ F1 ∧ (p.1).length ≤ c0 ∧ c0 ≤ 9223372036854775807 ∧ tWhole.row.O w [.slice A0 (p.1).length c0] (p.1) F0 ∧ (p.2).length ≤ c1 ∧ c1 ≤ 9223372036854775807 ∧ tIs.O w [.slice A1 (p.2).length c1] (p.2) F1 := by
  obtain ⟨ca1, cb1, Fa1, Fb1, rfl, rfl, ha1, hb1⟩ := h
  have hr2 := ha1
  obtain ⟨A2, c2, rfl, he2, hf2⟩ := rowO_one ha1
  have hr3 := hb1
  obtain ⟨A3, c3, rfl, he3, hf3⟩ := slO_one hb1
  exact ⟨A2, c2, Fa1, A3, c3, Fb1, rfl, by simp, he2, hf2, hr2, he3, hf3, hr3⟩
theorem makeODesk {w : World} {p : DDesk} {v0 v1 : Value} {F0 F1 : List Nat} (h0 : tWhole.row.O w [v0] (p.1) F0) (h1 : tIs.O w [v1] (p.2) F1) : ∃ F, tDesk.O w [v0, v1] p F ∧ F = F0 ++ F1 := ⟨_, ⟨_, _, _, _, rfl, rfl, h0, h1⟩, by simp⟩
/-! ### Held -/
abbrev DHeld := Int × Int × DCell
abbrev tHeld : Ty DHeld := tInt.prod (tInt.prod (tCell))
def szHeld (p : DHeld) : Nat := szCell (p.2.2)
def rcHeld (p : DHeld) : Nat := 1 + 1 + (p.2.2).length
def rmHeld (k : Int) (p : DHeld) : DHeld := (k, k + 1, marks8 (k + 1 + 1) (p.2.2).length)
theorem rcHeld_le (p : DHeld) : rcHeld p ≤ 5 + 5 * szHeld p := by
  simp only [rcHeld, szHeld, szCell]
  omega
theorem openHeld {w : World} {B : Nat} {cs : List Value} {p : DHeld} (h : tHeld.R w B cs p) : ∃ A2 n2 c2, cs = [.int .i64 (p.1), .int .i64 (p.2.1), .slice A2 n2 c2] ∧ (Lit.int .i64 (p.1)).wf = true ∧ (Lit.int .i64 (p.2.1)).wf = true ∧ n2 ≤ c2 ∧ c2 ≤ 9223372036854775807 ∧ (p.2.2).length = n2 ∧ tBy.R w B [.slice A2 n2 c2] (p.2.2) := by
  obtain ⟨ca1, cb1, rfl, ha1, hb1⟩ := h
  obtain ⟨rfl, hi2⟩ := ha1
  obtain ⟨ca3, cb3, rfl, ha3, hb3⟩ := hb1
  obtain ⟨rfl, hi4⟩ := ha3
  obtain ⟨A5, n5, c5, rfl, he5, hf5, hg5⟩ := sl_one hb3
  exact ⟨A5, n5, c5, rfl, hi2, hi4, he5, hf5, hg5.1, ⟨A5, n5, c5, rfl, he5, hf5, hg5⟩⟩
theorem openOHeld {w : World} {cs : List Value} {p : DHeld} {F : List Nat} (h : tHeld.O w cs p F) : ∃ A2 c2 F2, cs = [.int .i64 (p.1), .int .i64 (p.2.1), .slice A2 (p.2.2).length c2] ∧ F = F2 ∧ (Lit.int .i64 (p.1)).wf = true ∧ (Lit.int .i64 (p.2.1)).wf = true ∧ (p.2.2).length ≤ c2 ∧ c2 ≤ 9223372036854775807 ∧ tBy.O w [.slice A2 (p.2.2).length c2] (p.2.2) F2 := by
  obtain ⟨ca1, cb1, Fa1, Fb1, rfl, rfl, ha1, hb1⟩ := h
  obtain ⟨rfl, hi2, rfl⟩ := ha1
  obtain ⟨ca3, cb3, Fa3, Fb3, rfl, rfl, ha3, hb3⟩ := hb1
  obtain ⟨rfl, hi4, rfl⟩ := ha3
  have hr5 := hb3
  obtain ⟨A5, c5, rfl, he5, hf5⟩ := slO_one hb3
  exact ⟨A5, c5, Fb3, rfl, by simp, hi2, hi4, he5, hf5, hr5⟩
theorem makeOHeld {w : World} {p : DHeld} {v2 : Value} {F2 : List Nat} (h0 : (Lit.int .i64 (p.1)).wf = true) (h1 : (Lit.int .i64 (p.2.1)).wf = true) (h2 : tBy.O w [v2] (p.2.2) F2) : ∃ F, tHeld.O w [.int .i64 (p.1), .int .i64 (p.2.1), v2] p F ∧ F = F2 := ⟨_, ⟨_, _, _, _, rfl, rfl, ⟨rfl, h0, rfl⟩, ⟨_, _, _, _, rfl, rfl, ⟨rfl, h1, rfl⟩, h2⟩⟩, by simp⟩
/-! ### Pool -/
abbrev DPool := List DHeld × List Int
abbrev tPool : Ty DPool := tHeld.row.prod (tIs)
def szPool (p : DPool) : Nat := rsz szHeld (p.1) + (p.2).length
def cntPool (p : DPool) : Nat := rsum rcHeld (p.1) + (p.2).length
def mkPool (k : Int) (p : DPool) : DPool := (rmk rcHeld rmHeld (k) (p.1), marks (k + ((rsum rcHeld (p.1) : Nat) : Int)) (p.2).length)
theorem openPool {w : World} {B : Nat} {cs : List Value} {p : DPool} (h : tPool.R w B cs p) : ∃ A0 n0 c0 A1 n1 c1, cs = [.slice A0 n0 c0, .slice A1 n1 c1] ∧ n0 ≤ c0 ∧ c0 ≤ 9223372036854775807 ∧ (p.1).length = n0 ∧ tHeld.row.R w B [.slice A0 n0 c0] (p.1) ∧ n1 ≤ c1 ∧ c1 ≤ 9223372036854775807 ∧ (p.2).length = n1 ∧ tIs.R w B [.slice A1 n1 c1] (p.2) := by
  obtain ⟨ca1, cb1, rfl, ha1, hb1⟩ := h
  have hr2 := ha1
  obtain ⟨A2, n2, c2, rfl, he2, hf2, hg2⟩ := row_one ha1
  obtain ⟨A3, n3, c3, rfl, he3, hf3, hg3⟩ := sl_one hb1
  exact ⟨A2, n2, c2, A3, n3, c3, rfl, he2, hf2, hg2, hr2, he3, hf3, hg3.1, ⟨A3, n3, c3, rfl, he3, hf3, hg3⟩⟩
theorem makePool {w : World} {B : Nat} {p : DPool} {v0 v1 : Value} (h0 : tHeld.row.R w B [v0] (p.1)) (h1 : tIs.R w B [v1] (p.2)) : tPool.R w B [v0, v1] p := ⟨_, _, rfl, h0, h1⟩
theorem openOPool {w : World} {cs : List Value} {p : DPool} {F : List Nat} (h : tPool.O w cs p F) : ∃ A0 c0 F0 A1 c1 F1, cs = [.slice A0 (p.1).length c0, .slice A1 (p.2).length c1] ∧ F = F0 ++ F1 ∧ (p.1).length ≤ c0 ∧ c0 ≤ 9223372036854775807 ∧ tHeld.row.O w [.slice A0 (p.1).length c0] (p.1) F0 ∧ (p.2).length ≤ c1 ∧ c1 ≤ 9223372036854775807 ∧ tIs.O w [.slice A1 (p.2).length c1] (p.2) F1 := by
  obtain ⟨ca1, cb1, Fa1, Fb1, rfl, rfl, ha1, hb1⟩ := h
  have hr2 := ha1
  obtain ⟨A2, c2, rfl, he2, hf2⟩ := rowO_one ha1
  have hr3 := hb1
  obtain ⟨A3, c3, rfl, he3, hf3⟩ := slO_one hb1
  exact ⟨A2, c2, Fa1, A3, c3, Fb1, rfl, by simp, he2, hf2, hr2, he3, hf3, hr3⟩
theorem makeOPool {w : World} {p : DPool} {v0 v1 : Value} {F0 F1 : List Nat} (h0 : tHeld.row.O w [v0] (p.1) F0) (h1 : tIs.O w [v1] (p.2) F1) : ∃ F, tPool.O w [v0, v1] p F ∧ F = F0 ++ F1 := ⟨_, ⟨_, _, _, _, rfl, rfl, h0, h1⟩, by simp⟩
/-! ### Letter -/
abbrev DLetter := Int × List Int
abbrev tLetter : Ty DLetter := tInt.prod (tBy)
def szLetter (p : DLetter) : Nat := (p.2).length
def rcLetter (p : DLetter) : Nat := 1 + (p.2).length
def rmLetter (k : Int) (p : DLetter) : DLetter := (k, marks8 (k + 1) (p.2).length)
theorem rcLetter_le (p : DLetter) : rcLetter p ≤ 5 + 5 * szLetter p := by
  simp only [rcLetter, szLetter]
  omega
theorem openLetter {w : World} {B : Nat} {cs : List Value} {p : DLetter} (h : tLetter.R w B cs p) : ∃ A1 n1 c1, cs = [.int .i64 (p.1), .slice A1 n1 c1] ∧ (Lit.int .i64 (p.1)).wf = true ∧ n1 ≤ c1 ∧ c1 ≤ 9223372036854775807 ∧ (p.2).length = n1 ∧ tBy.R w B [.slice A1 n1 c1] (p.2) := by
  obtain ⟨ca1, cb1, rfl, ha1, hb1⟩ := h
  obtain ⟨rfl, hi2⟩ := ha1
  obtain ⟨A3, n3, c3, rfl, he3, hf3, hg3⟩ := sl_one hb1
  exact ⟨A3, n3, c3, rfl, hi2, he3, hf3, hg3.1, ⟨A3, n3, c3, rfl, he3, hf3, hg3⟩⟩
theorem openOLetter {w : World} {cs : List Value} {p : DLetter} {F : List Nat} (h : tLetter.O w cs p F) : ∃ A1 c1 F1, cs = [.int .i64 (p.1), .slice A1 (p.2).length c1] ∧ F = F1 ∧ (Lit.int .i64 (p.1)).wf = true ∧ (p.2).length ≤ c1 ∧ c1 ≤ 9223372036854775807 ∧ tBy.O w [.slice A1 (p.2).length c1] (p.2) F1 := by
  obtain ⟨ca1, cb1, Fa1, Fb1, rfl, rfl, ha1, hb1⟩ := h
  obtain ⟨rfl, hi2, rfl⟩ := ha1
  have hr3 := hb1
  obtain ⟨A3, c3, rfl, he3, hf3⟩ := slO_one hb1
  exact ⟨A3, c3, Fb1, rfl, by simp, hi2, he3, hf3, hr3⟩
theorem makeOLetter {w : World} {p : DLetter} {v1 : Value} {F1 : List Nat} (h0 : (Lit.int .i64 (p.1)).wf = true) (h1 : tBy.O w [v1] (p.2) F1) : ∃ F, tLetter.O w [.int .i64 (p.1), v1] p F ∧ F = F1 := ⟨_, ⟨_, _, _, _, rfl, rfl, ⟨rfl, h0, rfl⟩, h1⟩, by simp⟩
/-! ### Node -/
abbrev DNode := Int × Int × DPool × DDesk × List DLetter
abbrev tNode : Ty DNode := tInt.prod (tInt.prod (tPool.prod (tDesk.prod (tLetter.row))))
def szNode (p : DNode) : Nat := szPool (p.2.2.1) + szDesk (p.2.2.2.1) + rsz szLetter (p.2.2.2.2)
def cntNode (p : DNode) : Nat := cntPool (p.2.2.1) + cntDesk (p.2.2.2.1) + rsum rcLetter (p.2.2.2.2)
def mkNode (k : Int) (p : DNode) : DNode := (p.1, p.2.1, mkPool (k) (p.2.2.1), mkDesk (k + ((cntPool (p.2.2.1) : Nat) : Int)) (p.2.2.2.1), rmk rcLetter rmLetter (k + ((cntPool (p.2.2.1) : Nat) : Int) + ((cntDesk (p.2.2.2.1) : Nat) : Int)) (p.2.2.2.2))
theorem cntNode_le (p : DNode) : cntNode p ≤ 5 * szNode p := by
  have h2 := rsum_M (c := rcHeld) (s := szHeld) (M := 5) rcHeld_le (p.2.2.1.1)
  have h4 := rsum_M (c := rcWhole) (s := szWhole) (M := 5) rcWhole_le (p.2.2.2.1.1)
  have h6 := rsum_M (c := rcLetter) (s := szLetter) (M := 5) rcLetter_le (p.2.2.2.2)
  simp only [cntNode, cntPool, cntDesk, szNode, szPool, szDesk]
  omega
theorem openNode {w : World} {B : Nat} {cs : List Value} {p : DNode} (h : tNode.R w B cs p) : ∃ A2 n2 c2 A3 n3 c3 A4 n4 c4 A5 n5 c5 A6 n6 c6, cs = [.int .i64 (p.1), .int .i64 (p.2.1), .slice A2 n2 c2, .slice A3 n3 c3, .slice A4 n4 c4, .slice A5 n5 c5, .slice A6 n6 c6] ∧ (Lit.int .i64 (p.1)).wf = true ∧ (Lit.int .i64 (p.2.1)).wf = true ∧ n2 ≤ c2 ∧ c2 ≤ 9223372036854775807 ∧ (p.2.2.1.1).length = n2 ∧ tHeld.row.R w B [.slice A2 n2 c2] (p.2.2.1.1) ∧ n3 ≤ c3 ∧ c3 ≤ 9223372036854775807 ∧ (p.2.2.1.2).length = n3 ∧ tIs.R w B [.slice A3 n3 c3] (p.2.2.1.2) ∧ n4 ≤ c4 ∧ c4 ≤ 9223372036854775807 ∧ (p.2.2.2.1.1).length = n4 ∧ tWhole.row.R w B [.slice A4 n4 c4] (p.2.2.2.1.1) ∧ n5 ≤ c5 ∧ c5 ≤ 9223372036854775807 ∧ (p.2.2.2.1.2).length = n5 ∧ tIs.R w B [.slice A5 n5 c5] (p.2.2.2.1.2) ∧ n6 ≤ c6 ∧ c6 ≤ 9223372036854775807 ∧ (p.2.2.2.2).length = n6 ∧ tLetter.row.R w B [.slice A6 n6 c6] (p.2.2.2.2) := by
  obtain ⟨ca1, cb1, rfl, ha1, hb1⟩ := h
  obtain ⟨rfl, hi2⟩ := ha1
  obtain ⟨ca3, cb3, rfl, ha3, hb3⟩ := hb1
  obtain ⟨rfl, hi4⟩ := ha3
  obtain ⟨ca5, cb5, rfl, ha5, hb5⟩ := hb3
  obtain ⟨ca6, cb6, rfl, ha6, hb6⟩ := ha5
  have hr7 := ha6
  obtain ⟨A7, n7, c7, rfl, he7, hf7, hg7⟩ := row_one ha6
  obtain ⟨A8, n8, c8, rfl, he8, hf8, hg8⟩ := sl_one hb6
  obtain ⟨ca9, cb9, rfl, ha9, hb9⟩ := hb5
  obtain ⟨ca10, cb10, rfl, ha10, hb10⟩ := ha9
  have hr11 := ha10
  obtain ⟨A11, n11, c11, rfl, he11, hf11, hg11⟩ := row_one ha10
  obtain ⟨A12, n12, c12, rfl, he12, hf12, hg12⟩ := sl_one hb10
  have hr13 := hb9
  obtain ⟨A13, n13, c13, rfl, he13, hf13, hg13⟩ := row_one hb9
  exact ⟨A7, n7, c7, A8, n8, c8, A11, n11, c11, A12, n12, c12, A13, n13, c13, rfl, hi2, hi4, he7, hf7, hg7, hr7, he8, hf8, hg8.1, ⟨A8, n8, c8, rfl, he8, hf8, hg8⟩, he11, hf11, hg11, hr11, he12, hf12, hg12.1, ⟨A12, n12, c12, rfl, he12, hf12, hg12⟩, he13, hf13, hg13, hr13⟩
theorem openONode {w : World} {cs : List Value} {p : DNode} {F : List Nat} (h : tNode.O w cs p F) : ∃ A2 c2 F2 A3 c3 F3 A4 c4 F4 A5 c5 F5 A6 c6 F6, cs = [.int .i64 (p.1), .int .i64 (p.2.1), .slice A2 (p.2.2.1.1).length c2, .slice A3 (p.2.2.1.2).length c3, .slice A4 (p.2.2.2.1.1).length c4, .slice A5 (p.2.2.2.1.2).length c5, .slice A6 (p.2.2.2.2).length c6] ∧ F = F2 ++ F3 ++ F4 ++ F5 ++ F6 ∧ (Lit.int .i64 (p.1)).wf = true ∧ (Lit.int .i64 (p.2.1)).wf = true ∧ (p.2.2.1.1).length ≤ c2 ∧ c2 ≤ 9223372036854775807 ∧ tHeld.row.O w [.slice A2 (p.2.2.1.1).length c2] (p.2.2.1.1) F2 ∧ (p.2.2.1.2).length ≤ c3 ∧ c3 ≤ 9223372036854775807 ∧ tIs.O w [.slice A3 (p.2.2.1.2).length c3] (p.2.2.1.2) F3 ∧ (p.2.2.2.1.1).length ≤ c4 ∧ c4 ≤ 9223372036854775807 ∧ tWhole.row.O w [.slice A4 (p.2.2.2.1.1).length c4] (p.2.2.2.1.1) F4 ∧ (p.2.2.2.1.2).length ≤ c5 ∧ c5 ≤ 9223372036854775807 ∧ tIs.O w [.slice A5 (p.2.2.2.1.2).length c5] (p.2.2.2.1.2) F5 ∧ (p.2.2.2.2).length ≤ c6 ∧ c6 ≤ 9223372036854775807 ∧ tLetter.row.O w [.slice A6 (p.2.2.2.2).length c6] (p.2.2.2.2) F6 := by
  obtain ⟨ca1, cb1, Fa1, Fb1, rfl, rfl, ha1, hb1⟩ := h
  obtain ⟨rfl, hi2, rfl⟩ := ha1
  obtain ⟨ca3, cb3, Fa3, Fb3, rfl, rfl, ha3, hb3⟩ := hb1
  obtain ⟨rfl, hi4, rfl⟩ := ha3
  obtain ⟨ca5, cb5, Fa5, Fb5, rfl, rfl, ha5, hb5⟩ := hb3
  obtain ⟨ca6, cb6, Fa6, Fb6, rfl, rfl, ha6, hb6⟩ := ha5
  have hr7 := ha6
  obtain ⟨A7, c7, rfl, he7, hf7⟩ := rowO_one ha6
  have hr8 := hb6
  obtain ⟨A8, c8, rfl, he8, hf8⟩ := slO_one hb6
  obtain ⟨ca9, cb9, Fa9, Fb9, rfl, rfl, ha9, hb9⟩ := hb5
  obtain ⟨ca10, cb10, Fa10, Fb10, rfl, rfl, ha10, hb10⟩ := ha9
  have hr11 := ha10
  obtain ⟨A11, c11, rfl, he11, hf11⟩ := rowO_one ha10
  have hr12 := hb10
  obtain ⟨A12, c12, rfl, he12, hf12⟩ := slO_one hb10
  have hr13 := hb9
  obtain ⟨A13, c13, rfl, he13, hf13⟩ := rowO_one hb9
  exact ⟨A7, c7, Fa6, A8, c8, Fb6, A11, c11, Fa10, A12, c12, Fb10, A13, c13, Fb9, rfl, by simp, hi2, hi4, he7, hf7, hr7, he8, hf8, hr8, he11, hf11, hr11, he12, hf12, hr12, he13, hf13, hr13⟩
theorem makeONode {w : World} {p : DNode} {v2 v3 v4 v5 v6 : Value} {F2 F3 F4 F5 F6 : List Nat} (h0 : (Lit.int .i64 (p.1)).wf = true) (h1 : (Lit.int .i64 (p.2.1)).wf = true) (h2 : tHeld.row.O w [v2] (p.2.2.1.1) F2) (h3 : tIs.O w [v3] (p.2.2.1.2) F3) (h4 : tWhole.row.O w [v4] (p.2.2.2.1.1) F4) (h5 : tIs.O w [v5] (p.2.2.2.1.2) F5) (h6 : tLetter.row.O w [v6] (p.2.2.2.2) F6) : ∃ F, tNode.O w [.int .i64 (p.1), .int .i64 (p.2.1), v2, v3, v4, v5, v6] p F ∧ F = F2 ++ F3 ++ F4 ++ F5 ++ F6 := ⟨_, ⟨_, _, _, _, rfl, rfl, ⟨rfl, h0, rfl⟩, ⟨_, _, _, _, rfl, rfl, ⟨rfl, h1, rfl⟩, ⟨_, _, _, _, rfl, rfl, ⟨_, _, _, _, rfl, rfl, h2, h3⟩, ⟨_, _, _, _, rfl, rfl, ⟨_, _, _, _, rfl, rfl, h4, h5⟩, h6⟩⟩⟩⟩, by simp⟩
/-! ### Mail -/
/-! ### Sent -/
/-! ### Glance -/
/-! ### Net -/
/-! ### Cmd -/
end Go.Proofs.YtelbckpplckofaaGreat
namespace Go.Proofs.YtelbckpplckofaaGreat.Fld

/-! ### Fermat's little theorem, for any p that is coprime to all smaller numbers -/
def ch : Nat → Nat → Nat
  | _, 0 => 1
  | 0, _ + 1 => 0
  | n + 1, k + 1 => ch n k + ch n (k + 1)

def S (a n : Nat) : Nat → Nat
  | 0 => 0
  | m + 1 => S a n m + ch n m * a ^ m
def Prim (p : Nat) : Prop := 2 ≤ p ∧ ∀ k, 0 < k → k < p → Nat.Coprime p k

/-! ### 2147483647 is prime -/
def nd (p : Nat) : Nat → Bool
  | 0 => true
  | n + 1 => p % (n + 2) != 0 && nd p n
theorem nd_at (p : Nat) : ∀ n, nd p n = true → ∀ d, 2 ≤ d → d < n + 2 → p % d ≠ 0
  | 0, _, d, h1, h2 => by omega
  | n + 1, h, d, h1, h2 => by
    simp only [nd, Bool.and_eq_true, bne_iff_ne] at h
    by_cases e : d = n + 2
    · rw [e]; exact h.1
    · exact nd_at p n h.2 d h1 (by omega)

theorem prim_of (p m : Nat) (h2 : 2 ≤ p) (hnd : nd p m = true) (hm : p < (m + 2) * (m + 2)) : Prim p := by
  refine ⟨h2, fun k h0 h1 => ?_⟩
  have hd1 : Nat.gcd p k ∣ p := Nat.gcd_dvd_left p k
  have hd2 : Nat.gcd p k ≤ k := Nat.gcd_le_right p h0
  have hd0 : 0 < Nat.gcd p k := Nat.gcd_pos_of_pos_right p h0
  show Nat.gcd p k = 1
  generalize Nat.gcd p k = d at *
  obtain ⟨e, he⟩ := hd1
  by_cases hd : d = 1
  · exact hd
  exfalso
  have he0 : e ≠ 0 := by intro h; rw [h] at he; omega
  have he1 : e ≠ 1 := by intro h; rw [h] at he; omega
  by_cases hc : d < m + 2
  · exact nd_at p m hnd d (by omega) hc (by rw [he]; exact Nat.mul_mod_right d e)
  · by_cases hc2 : e < m + 2
    · exact nd_at p m hnd e (by omega) hc2 (by rw [he]; exact Nat.mul_mod_left d e)
    · have : (m + 2) * (m + 2) ≤ d * e := Nat.mul_le_mul (by omega) (by omega)
      omega

theorem prime : Prim 2147483647 := prim_of 2147483647 46340 (by omega) (by decide +kernel) (by omega)

/-! ### the field's operations as the program's contracts have them -/
def addP (a b : Int) : Int := (a + b) % 2147483647
def mulP (a b : Int) : Int := a * b % 2147483647
def powP (a : Int) (n : Nat) : Int := a ^ n % 2147483647
def keyP (s l : Int) : Int := (((s + 7919 * l + 1) * 48271 % 2147483647 + l + 17) * 69621 % 2147483647 + s) % 2147483647

/-! ### what each function of chapter 1 answers -/
def Ok (a : Int) : Prop := 0 ≤ a ∧ a < 2147483647
def Bad (a : Int) : Prop := ¬ (0 ≤ a ∧ a < 2147483647)
def Sec (n : Int) : Prop := 1 ≤ n ∧ n < 2147483646
def NoSec (n : Int) : Prop := ¬ (1 ≤ n ∧ n < 2147483646)
def Pub (n : Int) : Prop := 2 ≤ n ∧ n < 2147483646
def Lab (n : Int) : Prop := 0 ≤ n ∧ n ≤ 99
theorem Ok.lo {a : Int} (h : Ok a) : 0 ≤ a := h.1
theorem Ok.hi {a : Int} (h : Ok a) : a < 2147483647 := h.2
theorem Sec.lo {a : Int} (h : Sec a) : 1 ≤ a := h.1
theorem Sec.hi {a : Int} (h : Sec a) : a < 2147483646 := h.2
theorem Pub.lo {a : Int} (h : Pub a) : 2 ≤ a := h.1
theorem Pub.hi {a : Int} (h : Pub a) : a < 2147483646 := h.2
theorem Lab.lo {a : Int} (h : Lab a) : 0 ≤ a := h.1
theorem Lab.hi {a : Int} (h : Lab a) : a ≤ 99 := h.2
def shared (s p : Int) : Int := if (1 ≤ s ∧ s < 2147483646) ∧ (2 ≤ p ∧ p < 2147483646) then powP p s.toNat else -1
/-! ### a list of powers -/
end Go.Proofs.YtelbckpplckofaaGreat.Fld
namespace Go.Proofs.YtelbckpplckofaaGreat
set_option maxRecDepth 100000
open Go.ChangeShapes Go.WideShapes Go.ChangeAt Go.RowKit
open Fld

theorem ret_bool {a b : Bool} (h : a = b) : Ending.returned (.bool a) = .returned (.bool b) := by rw [h]

theorem s_FOk_t (a : Int) (w : World) (h : Ok a) :
    Calls Tryz.prog 111 #[.int .i64 a] w fun e w' => e = .returned (.bool true) ∧ w = w' := by
  have h1 := h.lo
  have h2 := h.hi
  go_enter Tryz.func111, Tryz.ntmps111
  go_wp2
  go_ret
  exact ⟨rfl, rfl⟩
theorem s_FOk_f (a : Int) (w : World) (h : Bad a) :
    Calls Tryz.prog 111 #[.int .i64 a] w fun e w' => e = .returned (.bool false) ∧ w = w' := by
  by_cases h1 : 0 ≤ a
  · have h2 : ¬ a < 2147483647 := fun x => h ⟨h1, x⟩
    go_enter Tryz.func111, Tryz.ntmps111
    go_wp2
    go_ret
    exact ⟨rfl, rfl⟩
  · go_enter Tryz.func111, Tryz.ntmps111
    go_wp2
    go_ret
    exact ⟨rfl, rfl⟩
theorem s_sec_t (a : Int) (w : World) (h : Sec a) :
    Calls Tryz.prog 63 #[.int .i64 a] w fun e w' => e = .returned (.bool true) ∧ w = w' := by
  have h1 := h.lo
  have h2 := h.hi
  go_enter Tryz.func63, Tryz.ntmps63
  go_wp2
  go_ret
  exact ⟨ret_bool (by simp; try omega), rfl⟩
theorem s_sec_f (a : Int) (w : World) (h : NoSec a) :
    Calls Tryz.prog 63 #[.int .i64 a] w fun e w' => e = .returned (.bool false) ∧ w = w' := by
  by_cases h1 : 1 ≤ a
  · have h2 : ¬ a < 2147483646 := fun x => h ⟨h1, x⟩
    go_enter Tryz.func63, Tryz.ntmps63
    go_wp2
    go_ret
    exact ⟨ret_bool (by simp; try omega), rfl⟩
  · go_enter Tryz.func63, Tryz.ntmps63
    go_wp2
    go_ret
    exact ⟨ret_bool (by simp; try omega), rfl⟩
end Go.Proofs.YtelbckpplckofaaGreat
namespace Go.Proofs.YtelbckpplckofaaGreat
set_option maxRecDepth 100000
open Go.ChangeShapes Go.WideShapes Go.ChangeAt Go.RowKit

theorem bel_alloc {w w' : World} (h : Below w.heap.size w w') (o : Obj) : Below w.heap.size w (w'.alloc o) := h.alloc h.size o
theorem bel_put {w w' : World} (h : Below w.heap.size w w') {p : Addr} (hp : w.heap.size ≤ p.block) (u : Value) : Below w.heap.size w (w'.setCell p u) := h.setCell hp u
theorem bel_drew {w w' : World} (h : Below w.heap.size w w') : Below w.heap.size w w'.drew := h.drew
theorem belx {w w' : World} (h : Below w.heap.size w w' := by repeat (first | (with_reducible exact Below.refl _ _) | (with_reducible assumption) | (with_reducible refine bel_alloc ?_ _) | (with_reducible refine bel_drew ?_) | (with_reducible refine below_drewN ?_ _) | (with_reducible refine bel_put ?_ (by first | exact Nat.le_refl _ | (simp; done) | (simp; omega)) _))) : Below w.heap.size w w' := h
theorem qa_ {α : Type} (l : List α) (i : Nat) (a : α) : l.toArray.setIfInBounds i a = (l.set i a).toArray := List.setIfInBounds_toArray ..
theorem qb_ {α : Type} (a : α) (xs : List α) (b : α) : (a :: xs).set 0 b = b :: xs := rfl
theorem qc_ {α : Type} (a : α) (xs : List α) (n : Nat) (b : α) : (a :: xs).set (n + 1) b = a :: xs.set n b := rfl
theorem bel_trans {a w w' : World} (h : Below a.heap.size a w) (h' : Below w.heap.size w w') : Below a.heap.size a w' := h.trans (h'.mono h.size)
theorem reach {k : IntKind} {w w' : World} {A : Option Addr} {n : Nat} {l : List Int} (h : Ints k w w.heap.size A n l) (hB : Below w.heap.size w w') : Ints k w' w'.heap.size A n l := (h.below hB).up hB.size
theorem getDtk {l : List Int} {n i : Nat} (h : i < n) : (l.take n).getD i 0 = l.getD i 0 := by
  rw [List.getD_eq_getElem?_getD, List.getElem?_take, if_pos h, List.getD_eq_getElem?_getD]
theorem Ints.head {k : IntKind} {w : World} {B n : Nat} {A : Option Addr} {l : List Int} (h : Ints k w B A n l) (m : Nat) (hm : m ≤ n) : Ints k w B A m (l.take m) := by
  refine ⟨by rw [List.length_take, h.1]; omega, fun h0 => ?_, fun x hx => h.2.2 x (List.mem_of_mem_take hx)⟩
  obtain ⟨b, off, e, hb, hc⟩ := h.2.1 (by omega)
  exact ⟨b, off, e, hb, fun i hi => by rw [Go.Proofs.YtelbckpplckofaaGreat.getDtk hi]; exact hc i (by omega)⟩
theorem Own.far {k : IntKind} {e : TypeId} {w : World} {base g : Nat} {v : Value} {l : List Int} (h : Own k e w base v l) (hg : g < base) (j : Nat) (u : Value) : Own k e (w.setCell ⟨g, j, none⟩ u) base v l :=
  h.kept (gb_put (World.grownBy.refl _ _) j u) (by
    cases hv : v.ownBlock with
    | none => exact .inl rfl
    | some b => exact .inr (fun e => by have := (h.block hv).1; injection e; omega))
theorem cell_bel {w w' : World} {b o : Nat} {v : Value} (h : Below w.heap.size w w') (hc : w.cell? ⟨b, o, none⟩ = some v) : w'.cell? ⟨b, o, none⟩ = some v :=
  (World.cell?_of_block (h.block b (World.block_lt_of_cell? w _ hc))).trans hc
theorem l_toByteS' {w : World} {n c : Nat} {A : Option Addr} {l : List Int} (hl : Ints .u8 w w.heap.size A n l) (hn : n ≤ 140737488351232) :
    Calls Tryz.prog 10 #[.slice A n c] w fun e w' => ∃ b, e = .returned (.slice (some ⟨b, 0, none⟩) n n) ∧ Own .u8 5 w' w.heap.size (.slice (some ⟨b, 0, none⟩) n n) l ∧ Below w.heap.size w w' :=
  (l_toByteS hl hn).mono fun _ _ h => ⟨_, h⟩
theorem l_toIntS' {w : World} {n c : Nat} {A : Option Addr} {l : List Int} (hl : Ints .i64 w w.heap.size A n l) (hn : n ≤ 17592186043904) :
    Calls Tryz.prog 74 #[.slice A n c] w fun e w' => ∃ b, e = .returned (.slice (some ⟨b, 0, none⟩) n n) ∧ Own .i64 3 w' w.heap.size (.slice (some ⟨b, 0, none⟩) n n) l ∧ Below w.heap.size w w' :=
  (l_toIntS hl hn).mono fun _ _ h => ⟨_, h⟩
end Go.Proofs.YtelbckpplckofaaGreat
namespace Go.Proofs.YtelbckpplckofaaGreat
open Go.ChangeShapes Go.WideShapes Go.ChangeAt Go.RowKit
theorem sliceO.row {K : IntKind} {w : World} {n c : Nat} {A : Option Addr} {l : List Int} {F : List Nat} (h : sliceO K w [.slice A n c] l F) (hn : 0 < n) :
    ∃ g off, A = some ⟨g, off, none⟩ ∧ l.length = n ∧ n ≤ c ∧ c ≤ 9223372036854775807 ∧ (∀ i, i < n → w.cell? ⟨g, off + i, none⟩ = some (.int K (l.getD i 0))) ∧ (∀ i, w.frozen? ⟨g, i, none⟩ = false) ∧ F = [g] ∧ g < w.heap.size := by
  rcases h with ⟨A, c, h1, h2, rfl, _⟩ | ⟨g, off, c, cur, t, h1, h2, h3, h4, h5, h6, h7, rfl⟩
  · injection h1 with h1 _; injection h1 with _ e2 _; omega
  · injection h1 with h1 _; injection h1 with e1 e2 e3
    subst e1 e2 e3
    exact ⟨g, off, rfl, rfl, h3, h4, fun i hi => by rw [Box.cell (t := t) h5]; exact h6 i hi, fun i => Box.frozen (t := t) h5 i, rfl, Box.size (t := t) h5⟩
theorem sliceO.len {K : IntKind} {w : World} {n c : Nat} {A : Option Addr} {l : List Int} {F : List Nat} (h : sliceO K w [.slice A n c] l F) : l.length = n ∧ n ≤ c ∧ c ≤ 9223372036854775807 := by
  rcases h with ⟨A, c, h1, h2, rfl, _⟩ | ⟨g, off, c, cur, t, h1, h2, h3, h4, h5, h6, h7, rfl⟩
  · injection h1 with h1 _; injection h1 with _ e2 e3; subst e2 e3; exact ⟨rfl, Nat.zero_le _, h2⟩
  · injection h1 with h1 _; injection h1 with e1 e2 e3
    subst e1 e2 e3
    exact ⟨rfl, h3, h4⟩
theorem sliceO.put {K : IntKind} {w : World} {n c g off : Nat} {l : List Int} {F : List Nat} (h : sliceO K w [.slice (some ⟨g, off, none⟩) n c] l F) {i : Nat} (hi : i < n) {x : Int} (hx : (Lit.int K x).wf = true) :
    sliceO K (w.setCell ⟨g, off + i, none⟩ (.int K x)) [.slice (some ⟨g, off, none⟩) n c] (l.set i x) F := by
  rcases h with ⟨A, c, h1, h2, rfl, _⟩ | ⟨g, off, c, cur, t, h1, h2, h3, h4, h5, h6, h7, rfl⟩
  · injection h1 with h1 _; injection h1 with _ e2 _; omega
  · injection h1 with h1 _; injection h1 with e1 e2 e3
    injection e1 with e1
    injection e1 with e1 e4
    subst e1 e2 e3 e4
    have hb : off + i < cur.size := by
      have := h6 i hi
      by_cases hl : off + i < cur.size
      · exact hl
      · rw [Array.getElem?_eq_none (by omega)] at this; cases this
    refine .inr ⟨g, off, c, _, t, by rw [List.length_set], by rw [List.length_set]; omega, by rw [List.length_set]; omega, h4, Box.put (t := t) h5 (off + i) _, fun j hj => ?_, fun y hy => ?_, rfl⟩
    · rw [List.length_set] at hj
      rw [Array.getElem?_setIfInBounds]
      by_cases hij : off + i = off + j
      · have : i = j := by omega
        subst this
        rw [if_pos rfl, if_pos hb, List.getD_eq_getElem?_getD, List.getElem?_set_self hj]; rfl
      · rw [if_neg hij, h6 j hj, List.getD_eq_getElem?_getD, List.getD_eq_getElem?_getD, List.getElem?_set_ne (by omega)]
    · rcases List.mem_or_eq_of_mem_set hy with h' | rfl
      · exact h7 y h'
      · exact hx
theorem sliceO.nilO {K : IntKind} {w : World} {n c : Nat} {A : Option Addr} {F : List Nat} (h : sliceO K w [.slice A n c] [] F) : n = 0 ∧ F = [] := by
  rcases h with ⟨A, c, h1, h2, _, rfl⟩ | ⟨g, off, c, cur, t, h1, h2, _⟩
  · injection h1 with h1 _; injection h1 with _ e2 _; exact ⟨e2, rfl⟩
  · simp at h2
theorem only_set {F : List Nat} {a w : World} {g : Nat} (h : Only F a w) (hg : g ∈ F) (j : Nat) (u : Value) : Only F a (w.setCell ⟨g, j, none⟩ u) := h.put (.inl hg) u
/-- A slice that reads, as integers. -/
theorem slR_ints {K : IntKind} {w : World} {B n c : Nat} {A : Option Addr} {l : List Int} (h : (tSl K).R w B [.slice A n c] l) : Ints K w B A n l ∧ n ≤ c ∧ c ≤ 9223372036854775807 := by
  obtain ⟨A', n', c', h1, h2, h3, h4⟩ := h
  injection h1 with h1 _; injection h1 with e1 e2 e3
  subst e1 e2 e3
  exact ⟨h4, h2, h3⟩
theorem ret_int {a b : Int} (h : a = b) : Ending.returned (.int .i64 a) = .returned (.int .i64 b) := by rw [h]
theorem Ty.far {α : Type} {t : Ty α} {w : World} {cs : List Value} {a : α} {F : List Nat} {B : Nat} (h : t.O w cs a F) (hN : New B F) {p : Addr} (hp : p.block < B) (u : Value) : t.O (w.setCell p u) cs a F :=
  t.kept h fun f hf => Below.heap_setCell w p u f (by rintro rfl; have := hN.2 _ hf; omega)
/-- A cell of an element, behind what left the old blocks alone. -/
theorem cell_at {w w' : World} {b o : Nat} {v : Value} (hB : Below w.heap.size w w') (hb : b < w.heap.size) (h : w.cell? ⟨b, o, none⟩ = some v) : w'.cell? ⟨b, o, none⟩ = some v :=
  (World.cell?_of_block (hB.block b hb)).trans h
theorem New.only {B : Nat} {F : List Nat} (h : New B F) : F.Nodup := h.1
set_option maxHeartbeats 400000 in
theorem o_markIntS {w : World} {n c : Nat} {A : Option Addr} {l : List Int} {F : List Nat} (k : Int) (h : (tSl .i64).O w [.slice A n c] l F) (h0 : 0 ≤ k) (hk : k + l.length ≤ 4611686018427387904) :
    Calls Tryz.prog 94 #[.slice A n c, .int .i64 k] w fun e w' => e = .returned (.int .i64 (k + l.length)) ∧ (tSl .i64).O w' [.slice A n c] (marks k l.length) F ∧ Only F w w' := by
  by_cases hz : l.length = 0
  · have hl : l = [] := List.eq_nil_of_length_eq_zero hz
    subst hl
    obtain ⟨rfl, rfl⟩ := sliceO.nilO h
    clear hz
    go_enter Tryz.func94, Tryz.ntmps94
    go_wp2
    go_loop [1, 5] (fun x i => x = .int .i64 k ∧ i = .int .i64 0) (fun _ _ => 0)
    case atStart => exact ⟨rfl, rfl⟩
    case round =>
      obtain ⟨rfl, rfl⟩ := hrel
      go_wp2
      go_ret
      exact ⟨by simp, h, Only.refl _ _⟩
  · obtain ⟨hn, hnc, hcm⟩ := sliceO.len h
    have HN := Lib.hid hn
    obtain ⟨g, off, rfl, _, _, _, _, _, rfl, hgs⟩ := sliceO.row h (by omega)
    have HZ := Lib.hid (mks_zero (fun i : Nat => k + (i : Int)) l)
    rw [hn] at hk hz
    rw [hn]
    clear hn
    go_enter Tryz.func94, Tryz.ntmps94
    go_wp2
    go_loopw [1, 5] (fun x i wr => ∃ j : Nat, j ≤ n ∧ x = .int .i64 (k + j) ∧ i = .int .i64 j ∧ sliceO .i64 wr [.slice (some ⟨g, off, none⟩) n c] (mks (fun i : Nat => k + (i : Int)) l j) [g] ∧ Only [g] w wr) (fun _ i _ => n - (RowKit.intOf i).toNat)
    case atStart => exact ⟨0, by omega, by go_num, rfl, by rw [HZ.out]; exact h, Only.refl _ _⟩
    case round =>
      obtain ⟨j, hj, rfl, rfl, hO, hG⟩ := hrel
      by_cases hlt : j < n
      · have HS := Lib.hid (mks_set (fun i : Nat => k + (i : Int)) l j)
        obtain ⟨g', off', e1, _, _, _, hcell, hfz, _, _⟩ := sliceO.row hO (by omega)
        simp only [Option.some.injEq, Addr.mk.injEq, and_true] at e1
        obtain ⟨rfl, rfl⟩ := e1
        have hc1 := hcell j (by omega)
        have hf1 := hfz (off + j)
        have hP := sliceO.put hO hlt (x := k + (j : Int)) (WalkArith.wf_i64 (by omega))
        rw [HS.out] at hP
        clear hcell hfz
        go_wp2
        go_roundw
        case rel => exact ⟨j + 1, by omega, by go_num, by go_num, hP, only_set hG (by simp) _ _⟩
        case measure => simp [RowKit.intOf]; omega
      · obtain rfl : j = n := by omega
        have HA := Lib.hid (show mks (fun i : Nat => k + (i : Int)) l j = marks k j from by rw [← HN.out]; exact mks_all _ _)
        go_wp2
        go_ret
        exact ⟨rfl, by rw [← HA.out]; exact hO, hG⟩
theorem o_eqIntS {w : World} {B n m c d : Nat} {A A' : Option Addr} {l : List Int} (h : (tSl .i64).R w B [.slice A n c] l) (h' : (tSl .i64).R w B [.slice A' m d] l) :
    Calls Tryz.prog 90 #[.slice A n c, .slice A' m d] w fun e w' => e = .returned (.bool true) ∧ Below w.heap.size w w' := by
  have h1 := slR_ints h
  have h2 := slR_ints h'
  refine (l_eqIntS h1.1 h2.1 (by simp only [maxLen]; omega) (by simp only [maxLen]; omega)).mono fun e w' hh => ⟨by rw [hh.1]; simp, hh.2⟩
theorem o_toIntS {w : World} {n c : Nat} {A : Option Addr} {l : List Int} (h : (tSl .i64).R w w.heap.size [.slice A n c] l) (hn : l.length ≤ 1048576) :
    Calls Tryz.prog 74 #[.slice A n c] w fun e w' => ∃ A' c' F, e = .returned (.slice A' l.length c') ∧ (tSl .i64).O w' [.slice A' l.length c'] l F ∧ New w.heap.size F ∧ Below w.heap.size w w' := by
  have h1 := (slR_ints h).1
  have e1 := h1.1
  refine (l_toIntS' h1 (by omega)).mono ?_
  rintro e w' ⟨b, rfl, hO, hB⟩
  obtain ⟨F, hF, hN⟩ := hO.tSl
  rw [← e1] at hF
  exact ⟨_, _, F, by rw [← e1], hF, hN, hB⟩
theorem o_szIntS_t {w : World} {B n c : Nat} {A : Option Addr} {l : List Int} {k : Int} (h : (tSl .i64).R w B [.slice A n c] l) (h1 : 0 ≤ k) (h2 : k ≤ 1048576) (h3 : (l.length : Int) ≤ k) :
    Calls Tryz.prog 60 #[.slice A n c, .int .i64 k] w fun e w' => e = .returned (.int .i64 (k - l.length)) ∧ Below w.heap.size w w' := by
  have e1 := (slR_ints h).1.1
  rw [e1] at h3 ⊢
  have d : decide (k - (n : Int) < 0) = false := by simp; omega
  clear h e1
  go_enter Tryz.func60, Tryz.ntmps60
  go_wp2
  go_ret
  exact ⟨rfl, (belx)⟩
theorem o_szIntS_f {w : World} {B n c : Nat} {A : Option Addr} {l : List Int} {k : Int} (h : (tSl .i64).R w B [.slice A n c] l) (h1 : 0 ≤ k) (h2 : k ≤ 1048576) (h3 : ¬ (l.length : Int) ≤ k) :
    Calls Tryz.prog 60 #[.slice A n c, .int .i64 k] w fun e w' => e = .returned (.int .i64 (-1)) ∧ Below w.heap.size w w' := by
  have hh := slR_ints h
  have e1 := hh.1.1
  have hn : n ≤ 9223372036854775807 := by omega
  rw [e1] at h3
  have d : decide (k - (n : Int) < 0) = true := by simp; omega
  clear h e1 hh
  go_enter Tryz.func60, Tryz.ntmps60
  go_wp2
  go_ret
  exact ⟨rfl, (belx)⟩
set_option maxHeartbeats 400000 in
theorem o_markByteS {w : World} {n c : Nat} {A : Option Addr} {l : List Int} {F : List Nat} (k : Int) (h : (tSl .u8).O w [.slice A n c] l F) (h0 : 0 ≤ k) (hk : k + l.length ≤ 4611686018427387904) :
    Calls Tryz.prog 17 #[.slice A n c, .int .i64 k] w fun e w' => e = .returned (.int .i64 (k + l.length)) ∧ (tSl .u8).O w' [.slice A n c] (marks8 k l.length) F ∧ Only F w w' := by
  by_cases hz : l.length = 0
  · have hl : l = [] := List.eq_nil_of_length_eq_zero hz
    subst hl
    obtain ⟨rfl, rfl⟩ := sliceO.nilO h
    clear hz
    go_enter Tryz.func17, Tryz.ntmps17
    go_wp2
    go_loop [1, 5] (fun x i => x = .int .i64 k ∧ i = .int .i64 0) (fun _ _ => 0)
    case atStart => exact ⟨rfl, rfl⟩
    case round =>
      obtain ⟨rfl, rfl⟩ := hrel
      go_wp2
      go_ret
      exact ⟨by simp, h, Only.refl _ _⟩
  · obtain ⟨hn, hnc, hcm⟩ := sliceO.len h
    have HN := Lib.hid hn
    obtain ⟨g, off, rfl, _, _, _, _, _, rfl, hgs⟩ := sliceO.row h (by omega)
    have HZ := Lib.hid (mks_zero (fun i : Nat => (k + (i : Int)) % 256) l)
    rw [hn] at hk hz
    rw [hn]
    clear hn
    go_enter Tryz.func17, Tryz.ntmps17
    go_wp2
    go_loopw [1, 5] (fun x i wr => ∃ j : Nat, j ≤ n ∧ x = .int .i64 (k + j) ∧ i = .int .i64 j ∧ sliceO .u8 wr [.slice (some ⟨g, off, none⟩) n c] (mks (fun i : Nat => (k + (i : Int)) % 256) l j) [g] ∧ Only [g] w wr) (fun _ i _ => n - (RowKit.intOf i).toNat)
    case atStart => exact ⟨0, by omega, by go_num, rfl, by rw [HZ.out]; exact h, Only.refl _ _⟩
    case round =>
      obtain ⟨j, hj, rfl, rfl, hO, hG⟩ := hrel
      by_cases hlt : j < n
      · have HS := Lib.hid (mks_set (fun i : Nat => (k + (i : Int)) % 256) l j)
        obtain ⟨g', off', e1, _, _, _, hcell, hfz, _, _⟩ := sliceO.row hO (by omega)
        simp only [Option.some.injEq, Addr.mk.injEq, and_true] at e1
        obtain ⟨rfl, rfl⟩ := e1
        have hc1 := hcell j (by omega)
        have hf1 := hfz (off + j)
        have hP := sliceO.put hO hlt (x := (k + (j : Int)) % 256) (WalkArith.wf_u8 (by omega))
        rw [HS.out] at hP
        clear hcell hfz
        go_wp2
        go_roundw
        case rel => exact ⟨j + 1, by omega, by go_num, by go_num, hP, only_set hG (by simp) _ _⟩
        case measure => simp [RowKit.intOf]; omega
      · obtain rfl : j = n := by omega
        have HA := Lib.hid (show mks (fun i : Nat => (k + (i : Int)) % 256) l j = marks8 k j from by rw [← HN.out]; exact mks_all _ _)
        go_wp2
        go_ret
        exact ⟨rfl, by rw [← HA.out]; exact hO, hG⟩
theorem o_heldByteS {w : World} {B n c : Nat} {A : Option Addr} (k : Int) {l : List Int} (h : (tSl .u8).R w B [.slice A n c] (marks8 k l.length)) (h0 : 0 ≤ k) (hk : k + l.length ≤ 4611686018427387904) :
    Calls Tryz.prog 21 #[.slice A n c, .int .i64 k] w fun e w' => e = .returned (.int .i64 (k + l.length)) ∧ Below w.heap.size w w' := by
  have h1 := (slR_ints h).1
  have hn : l.length = n := by have := h1.1; rwa [marks8_len] at this
  rw [hn] at h1 hk ⊢
  exact (l_heldByteS k h1 h0 hk).mono fun e w' hh => ⟨hh.1, hh.2 ▸ Below.refl _ _⟩
theorem o_eqByteS {w : World} {B n m c d : Nat} {A A' : Option Addr} {l : List Int} (h : (tSl .u8).R w B [.slice A n c] l) (h' : (tSl .u8).R w B [.slice A' m d] l) :
    Calls Tryz.prog 14 #[.slice A n c, .slice A' m d] w fun e w' => e = .returned (.bool true) ∧ Below w.heap.size w w' := by
  have h1 := slR_ints h
  have h2 := slR_ints h'
  refine (l_eqByteS h1.1 h2.1 (by simp only [maxLen]; omega) (by simp only [maxLen]; omega)).mono fun e w' hh => ⟨by rw [hh.1]; simp, hh.2⟩
theorem o_toByteS {w : World} {n c : Nat} {A : Option Addr} {l : List Int} (h : (tSl .u8).R w w.heap.size [.slice A n c] l) (hn : l.length ≤ 1048576) :
    Calls Tryz.prog 10 #[.slice A n c] w fun e w' => ∃ A' c' F, e = .returned (.slice A' l.length c') ∧ (tSl .u8).O w' [.slice A' l.length c'] l F ∧ New w.heap.size F ∧ Below w.heap.size w w' := by
  have h1 := (slR_ints h).1
  have e1 := h1.1
  refine (l_toByteS' h1 (by omega)).mono ?_
  rintro e w' ⟨b, rfl, hO, hB⟩
  obtain ⟨F, hF, hN⟩ := hO.tSl
  rw [← e1] at hF
  exact ⟨_, _, F, by rw [← e1], hF, hN, hB⟩
theorem o_szByteS_t {w : World} {B n c : Nat} {A : Option Addr} {l : List Int} {k : Int} (h : (tSl .u8).R w B [.slice A n c] l) (h1 : 0 ≤ k) (h2 : k ≤ 1048576) (h3 : (l.length : Int) ≤ k) :
    Calls Tryz.prog 25 #[.slice A n c, .int .i64 k] w fun e w' => e = .returned (.int .i64 (k - l.length)) ∧ Below w.heap.size w w' := by
  have e1 := (slR_ints h).1.1
  rw [e1] at h3 ⊢
  have d : decide (k - (n : Int) < 0) = false := by simp; omega
  clear h e1
  go_enter Tryz.func25, Tryz.ntmps25
  go_wp2
  go_ret
  exact ⟨rfl, (belx)⟩
theorem o_szByteS_f {w : World} {B n c : Nat} {A : Option Addr} {l : List Int} {k : Int} (h : (tSl .u8).R w B [.slice A n c] l) (h1 : 0 ≤ k) (h2 : k ≤ 1048576) (h3 : ¬ (l.length : Int) ≤ k) :
    Calls Tryz.prog 25 #[.slice A n c, .int .i64 k] w fun e w' => e = .returned (.int .i64 (-1)) ∧ Below w.heap.size w w' := by
  have hh := slR_ints h
  have e1 := hh.1.1
  have hn : n ≤ 9223372036854775807 := by omega
  rw [e1] at h3
  have d : decide (k - (n : Int) < 0) = true := by simp; omega
  clear h e1 hh
  go_enter Tryz.func25, Tryz.ntmps25
  go_wp2
  go_ret
  exact ⟨rfl, (belx)⟩
end Go.Proofs.YtelbckpplckofaaGreat
namespace Go.Proofs.YtelbckpplckofaaGreat
set_option maxRecDepth 100000
set_option linter.unusedVariables false
set_option linter.unusedSimpArgs false
open Go.ChangeShapes Go.WideShapes Go.ChangeAt Go.RowKit
theorem o_szPiece_t {w : World} {cs : List Value} {p : DPiece} {k : Int} (h : tPiece.R w w.heap.size cs p) (h1 : 0 ≤ k) (h2 : k ≤ 1048576) (h3 : (szPiece p : Int) ≤ k) :
    Calls Tryz.prog 209 #[.agg cs.toArray, .int .i64 k] w fun e w' => e = .returned (.int .i64 (k - szPiece p)) ∧ Below w.heap.size w w' := by
  obtain ⟨A3, n3, c3, rfl, hi0, hi1, hi2, ha3, hb3, hl3, hr3⟩ := openPiece h
  obtain ⟨x0, x1, x2, l3⟩ := p
  try dsimp only [szPiece] at *
  subst hl3
  have d0 : decide (k - ((l3.length : Nat) : Int) < 0) = false := by simp; omega
  go_enter Tryz.func209, Tryz.ntmps209
  go_wp2_with fail
  refine (o_szByteS_t (tBy.reach hr3 ?hB) (by omega) (by omega) (by omega)).mono ?_
  case hB => exact (belx)
  rintro e w1 ⟨rfl, hb1⟩
  have hB1 : Below w.heap.size w w1 := bel_trans (belx) hb1
  have P1 : Box w1 w.heap.size 232 #[.int .i64 x0, .int .i64 x1, .int .i64 x2, .slice A3 l3.length c3] := (Box.new _ _ _).below hb1 (by first | (simp; done) | (simp; omega))
  go_wp2
  go_ret
  exact ⟨ret_int (by omega), hB1⟩
theorem o_szPiece_f {w : World} {cs : List Value} {p : DPiece} {k : Int} (h : tPiece.R w w.heap.size cs p) (h1 : 0 ≤ k) (h2 : k ≤ 1048576) (h3 : ¬ (szPiece p : Int) ≤ k) :
    Calls Tryz.prog 209 #[.agg cs.toArray, .int .i64 k] w fun e w' => e = .returned (.int .i64 (-1)) ∧ Below w.heap.size w w' := by
  obtain ⟨A3, n3, c3, rfl, hi0, hi1, hi2, ha3, hb3, hl3, hr3⟩ := openPiece h
  obtain ⟨x0, x1, x2, l3⟩ := p
  try dsimp only [szPiece] at *
  subst hl3
  go_enter Tryz.func209, Tryz.ntmps209
  go_wp2_with fail
  refine (o_szByteS_f (tBy.reach hr3 ?hB) (by omega) (by omega) (by omega)).mono ?_
  case hB => exact (belx)
  rintro e w1 ⟨rfl, hb1⟩
  have hB1 : Below w.heap.size w w1 := bel_trans (belx) hb1
  have P1 : Box w1 w.heap.size 232 #[.int .i64 x0, .int .i64 x1, .int .i64 x2, .slice A3 l3.length c3] := (Box.new _ _ _).below hb1 (by first | (simp; done) | (simp; omega))
  go_wp2
  go_ret
  exact ⟨rfl, hB1⟩
set_option maxHeartbeats 400000 in
theorem o_toPiece {w : World} {cs : List Value} {p : DPiece} (h : tPiece.R w w.heap.size cs p) (hn : szPiece p ≤ 1048576) :
    Calls Tryz.prog 210 #[.agg cs.toArray] w fun e w' => ∃ cs' F, e = .returned (.agg cs'.toArray) ∧ tPiece.O w' cs' p F ∧ New w.heap.size F ∧ Below w.heap.size w w' := by
  obtain ⟨A3, n3, c3, rfl, hi0, hi1, hi2, ha3, hb3, hl3, hr3⟩ := openPiece h
  obtain ⟨x0, x1, x2, l3⟩ := p
  try dsimp only [szPiece] at *
  subst hl3
  go_enter Tryz.func210, Tryz.ntmps210
  go_wp2_with fail
  refine (o_toByteS (tBy.reach hr3 ?hB) (by omega)).mono ?_
  case hB => exact (belx)
  rintro e w1 ⟨B3, d3, F3, rfl, o3, hN1, hb1⟩
  have z1 : w.heap.size + 3 ≤ w1.heap.size := by have := hb1.size; simpa using this
  have hB1 : Below w.heap.size w w1 := bel_trans (belx) hb1
  have R1 : Box w1 (w.heap.size + 1) 141 #[.int .i64 0, .int .i64 0, .int .i64 0, .slice none 0 0] := Box.below (Box.alloc (by simpa using Box.new (w.alloc _) 141 #[.int .i64 0, .int .i64 0, .int .i64 0, .slice none 0 0]) _) hb1 (by first | (simp; done) | (simp; omega))
  have L1 : Box w1 (w.heap.size + 1 + 1) 141 #[.int .i64 x0, .int .i64 x1, .int .i64 x2, .slice none 0 0] := Box.below (by simpa using Box.new ((w.alloc _).alloc _) 141 #[.int .i64 x0, .int .i64 x1, .int .i64 x2, .slice none 0 0]) hb1 (by first | (simp; done) | (simp; omega))
  have P1 : Box w1 w.heap.size 232 #[.int .i64 x0, .int .i64 x1, .int .i64 x2, .slice A3 l3.length c3] := Box.below (((Box.new w 232 #[.int .i64 x0, .int .i64 x1, .int .i64 x2, .slice A3 l3.length c3]).alloc _).alloc _) hb1 (by first | (simp; done) | (simp; omega))
  have hM1 : New (w.heap.size + 3) (F3) := hN1.lower (by simp)
  clear hN1
  have y1 : ∀ f ∈ F3, f < w1.heap.size := by intro f hf; exact tBy.lt o3 f hf
  have kr1_0 := R1.cell 0; have fr1_0 := R1.frozen 0; have kl1_0 := L1.cell 0; have fl1_0 := L1.frozen 0; have kp1_0 := P1.cell 0
  have kr1_1 := R1.cell 1; have fr1_1 := R1.frozen 1; have kl1_1 := L1.cell 1; have fl1_1 := L1.frozen 1; have kp1_1 := P1.cell 1
  have kr1_2 := R1.cell 2; have fr1_2 := R1.frozen 2; have kl1_2 := L1.cell 2; have fl1_2 := L1.frozen 2; have kp1_2 := P1.cell 2
  have kr1_3 := R1.cell 3; have fr1_3 := R1.frozen 3; have kl1_3 := L1.cell 3; have fl1_3 := L1.frozen 3; have kp1_3 := P1.cell 3
  go_wp2
  have RR := (((((R1.far (p := ⟨w.heap.size + 1 + 1, 3, none⟩) (by first | (simp; done) | (simp; omega)) (.slice B3 l3.length d3)).put 0 (.int .i64 x0)).put 1 (.int .i64 x1)).put 2 (.int .i64 x2)).put 3 (.slice B3 l3.length d3))
  have e0 := RR.cell 0
  have e1 := RR.cell 1
  have e2 := RR.cell 2
  have e3 := RR.cell 3
  have u3 := (Ty.far (t := tBy) (Ty.far (t := tBy) (Ty.far (t := tBy) (Ty.far (t := tBy) (Ty.far (t := tBy) o3 hM1 (p := ⟨w.heap.size + 1 + 1, 3, none⟩) (by first | (simp; done) | (simp; omega)) (.slice B3 l3.length d3)) hM1 (p := ⟨w.heap.size + 1, 0, none⟩) (by first | (simp; done) | (simp; omega)) (.int .i64 x0)) hM1 (p := ⟨w.heap.size + 1, 1, none⟩) (by first | (simp; done) | (simp; omega)) (.int .i64 x1)) hM1 (p := ⟨w.heap.size + 1, 2, none⟩) (by first | (simp; done) | (simp; omega)) (.int .i64 x2)) hM1 (p := ⟨w.heap.size + 1, 3, none⟩) (by first | (simp; done) | (simp; omega)) (.slice B3 l3.length d3))
  obtain ⟨F, hF, hFe⟩ := makeOPiece (p := (x0, x1, x2, l3)) hi0 hi1 hi2 u3
  refine bodyPost_ret (v := .agg #[.int .i64 x0, .int .i64 x1, .int .i64 x2, .slice B3 l3.length d3]) (by simp [results, Tryz.results210, go_sem, e0, e1, e2, e3]) rfl ⟨_, F, rfl, hF, ?_, ?_⟩
  · rw [hFe]
    exact New.lower (B := w.heap.size + 3) (by exact hM1) (by omega)
  · exact (bel_put (bel_put (bel_put (bel_put (bel_put hB1 (by first | (simp; done) | (simp; omega)) _) (by first | (simp; done) | (simp; omega)) _) (by first | (simp; done) | (simp; omega)) _) (by first | (simp; done) | (simp; omega)) _) (by first | (simp; done) | (simp; omega)) _)
theorem o_eqPiece {w : World} {cs cs' : List Value} {p : DPiece} (h : tPiece.R w w.heap.size cs p) (h' : tPiece.R w w.heap.size cs' p) :
    Calls Tryz.prog 227 #[.agg cs.toArray, .agg cs'.toArray] w fun e w' => e = .returned (.bool true) ∧ Below w.heap.size w w' := by
  obtain ⟨A3, n3, c3, rfl, hi0, hi1, hi2, ha3, hb3, hl3, hr3⟩ := openPiece h
  obtain ⟨A3', n3', c3', rfl, hi0', hi1', hi2', ha3', hb3', hl3', hr3'⟩ := openPiece h'
  obtain ⟨x0, x1, x2, l3⟩ := p
  try dsimp only at *
  subst hl3
  subst hl3'
  have q0 : (x0 != x0) = false := by simp
  have q1 : (x1 != x1) = false := by simp
  have q2 : (x2 != x2) = false := by simp
  go_enter Tryz.func227, Tryz.ntmps227
  go_wp2_with fail
  refine (o_eqByteS (tBy.reach hr3 ?hB) (tBy.reach hr3' ?hB)).mono ?_
  case hB => exact (belx)
  rintro e w1 ⟨rfl, hb1⟩
  have hB1 : Below w.heap.size w w1 := bel_trans (belx) hb1
  have P1 : Box w1 w.heap.size 141 #[.int .i64 x0, .int .i64 x1, .int .i64 x2, .slice A3 l3.length c3] := ((Box.new _ _ _).alloc _).below hb1 (by first | (simp; done) | (simp; omega))
  have Q1 : Box w1 (w.heap.size + 1) 141 #[.int .i64 x0, .int .i64 x1, .int .i64 x2, .slice A3' l3.length c3'] := Box.below (by simpa using Box.new (w.alloc _) 141 #[.int .i64 x0, .int .i64 x1, .int .i64 x2, .slice A3' l3.length c3']) hb1 (by first | (simp; done) | (simp; omega))
  go_wp2
  go_ret
  exact ⟨rfl, hB1⟩
end Go.Proofs.YtelbckpplckofaaGreat
