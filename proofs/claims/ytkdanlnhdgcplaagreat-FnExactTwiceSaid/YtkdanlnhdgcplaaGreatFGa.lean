/-
  Shr, Mem, App, Mark, Copy, Fld, SpecOne, Cell, Rd, Dat, Row, Ty, Mk, Sn, All, Cip: texts joined.
-/
import Derived.Test.YtkdanlnhdgcplaaGreatProg
import Derived.Test.YtkdanlnhdgcplaaGreatRows
import Derived.BigQuiet
import Derived.Deep.Draws
import Derived.Deep.OwnRows
import Derived.Deep.QuietTactic
import Derived.Laws.BitsAllLaws
import Derived.Laws.MakeOwn
import Derived.Lib.Hide
import Derived.Maps.AppendAt
import Derived.OpenShut
import Derived.Outline
import Derived.ProofKit
import Derived.WalkKit
namespace Go.Proofs.YtkdanlnhdgcplaaGreat
set_option linter.unusedVariables false
open Go.RowKit
abbrev Bel (w w' : World) : Prop := Below w.heap.size w w'
theorem lex {p : Prop} (h : p := by first | exact Nat.le_refl _ | (simp; done) | (simp; omega)) : p := h
theorem lez {p : Prop} (h : p := by first | (simp; done) | (simp; omega)) : p := h
theorem ley {p : Prop} (h : p := by first | omega | (simp; done) | (simp; omega) | (show _ ≤ (World.alloc _ _).heap.size; simp) | (show _ ≤ (World.alloc _ _).heap.size; simp; omega)) : p := h
theorem lew {p : Prop} (h : p := by first | exact Nat.le_refl _ | omega | (simp; done) | (simp; omega)) : p := h
theorem lev {p : Prop} (h : p := by first | rfl | (simp [Value.cells]; done)) : p := h
end Go.Proofs.YtkdanlnhdgcplaaGreat
namespace Go.Proofs.YtkdanlnhdgcplaaGreat
open Go.RowKit

def Box (w : World) (g : Nat) (t : TypeId) (cs : Array Value) : Prop := w.heap[g]? = some (.cells cs t (0, 0))

section
variable {w w' : World} {g : Nat} {t : TypeId} {cs : Array Value}
theorem Box.size (h : Box w g t cs) : g < w.heap.size := by
 unfold Box at h
 by_cases hl : g < w.heap.size
 ·exact hl
 ·rw [Array.getElem?_eq_none (by omega)] at h; cases h
theorem Box.cell (h : Box w g t cs) (i : Nat) : w.cell? ⟨g, i, none⟩ = cs[i]? := cell_of_row w g i cs t (0, 0) h
theorem Box.frozen (h : Box w g t cs) (i : Nat) : w.frozen? ⟨g, i, none⟩ = false := by
 unfold Box at h; simp [World.frozen?, h]
theorem Box.same (h : Box w g t cs) (e : w'.heap[g]? = w.heap[g]?) : Box w' g t cs := e.trans h
theorem Box.drewN (h : Box w g t cs) (n : Nat) : Box (w.drewN n) g t cs := h
theorem Box.drew (h : Box w g t cs) : Box w.drew g t cs := h
theorem Box.new (w : World) (t : TypeId) (cs : Array Value) : Box (w.alloc (.cells cs t)) w.heap.size t cs := heap_alloc_new w _
theorem Box.alloc (h : Box w g t cs) (o : Obj) : Box (w.alloc o) g t cs := h.same (Below.heap_alloc w o g h.size)
theorem Box.put (h : Box w g t cs) (i : Nat) (u : Value) : Box (w.setCell ⟨g, i, none⟩ u) g t (cs.setIfInBounds i u) := by
 unfold Box at h ⊢; simp [World.setCell, Array.getElem?_modify, h]
theorem Box.far (h : Box w g t cs) {p : Addr} (hp : g ≠ p.block) (u : Value) : Box (w.setCell p u) g t cs := h.same (Below.heap_setCell w p u g hp)
theorem Box.below {B : Nat} (h : Box w g t cs) (hb : Below B w w') (hg : g < B) : Box w' g t cs := h.same (hb.block g hg)
theorem Box.grown {row : Option Nat} (h : Box w g t cs) (hb : w.grownBy w' row) (hg : some g ≠ row) : Box w' g t cs := h.same (hb.block g h.size hg)
end

/-! ### what a call has changed: 'grownBy' with the one block that it may have written -/
section
variable {a w w' : World} {row : Option Nat}
theorem gb_drew (h : a.grownBy w row) : a.grownBy w.drew row := ⟨h.os, h.tape, h.output, h.size, h.block⟩
theorem gb_put {g : Nat} (h : a.grownBy w (some g)) (j : Nat) (u : Value) : a.grownBy (w.setCell ⟨g, j, none⟩ u) (some g) :=
 ⟨h.os, h.tape, h.output, by simpa [World.setCell] using h.size, fun i hi hn => (Below.heap_setCell w ⟨g, j, none⟩ u i (fun e => hn (by rw [e]))).trans (h.block i hi hn)⟩
theorem gb_below {B g : Nat} (h : w.grownBy w' (some g)) (hB : B ≤ w.heap.size) (hg : B ≤ g) : Below B w w' :=
 ⟨h.os, h.tape, h.output, h.size, fun k hk => h.block k (by omega) (fun e => by injection e; omega)⟩
theorem below_drewN {B : Nat} (h : Below B a w) (n : Nat) : Below B a (w.drewN n) := ⟨h.os, h.tape, h.output, h.size, h.block⟩
theorem below_grownBy (h : Bel a w) : a.grownBy w row := ⟨h.os, h.tape, h.output, h.size, fun k hk _ => h.block k hk⟩
end

def Ints (k : IntKind) (w : World) (B : Nat) (A : Option Addr) (n : Nat) (l : List Int) : Prop :=
 l.length = n ∧ (0 < n → ∃ b off, A = some ⟨b, off, none⟩ ∧ b < B ∧ ∀ i, i < n → w.cell? ⟨b, off + i, none⟩ = some (.int k (l.getD i 0))) ∧ ∀ x ∈ l, (Lit.int k x).wf = true
theorem wf_getD {k : IntKind} {l : List Int} (h : ∀ x ∈ l, (Lit.int k x).wf = true) {i : Nat} (hi : i < l.length) : (Lit.int k (l.getD i 0)).wf = true := by
 apply h
 rw [List.getD_eq_getElem?_getD, List.getElem?_eq_getElem hi, Option.getD_some]
 exact List.getElem_mem _
section
variable {k : IntKind} {w w' : World} {B n : Nat} {A : Option Addr} {l : List Int}
theorem Ints.nil : Ints k w B A 0 [] := ⟨rfl, fun h => absurd h (by omega), fun _ h => by cases h⟩
theorem Ints.at_ {i : Nat} (h : Ints k w B A n l) (hi : i < n) : ∃ b off, A = some ⟨b, off, none⟩ ∧ b < B ∧ w.cell? ⟨b, off + i, none⟩ = some (.int k (l.getD i 0)) ∧ (Lit.int k (l.getD i 0)).wf = true := by
 obtain ⟨b, off, e, hb, hc⟩ := h.2.1 (by omega)
 exact ⟨b, off, e, hb, hc i hi, wf_getD h.2.2 (by have := h.1; omega)⟩
theorem Ints.keep (h : Ints k w B A n l) (hk : ∀ b, b < B → w'.heap[b]? = w.heap[b]?) : Ints k w' B A n l :=
 ⟨h.1, fun hn => by
  obtain ⟨b, off, e, hb, hc⟩ := h.2.1 hn
  exact ⟨b, off, e, hb, fun i hi => (World.cell?_of_block (hk _ hb)).trans (hc i hi)⟩, h.2.2⟩
theorem Ints.below (h : Ints k w B A n l) (hb : Below B w w') : Ints k w' B A n l := h.keep hb.block
theorem Ints.grown (h : Ints k w B A n l) {g : Nat} (hb : w.grownBy w' (some g)) (hB : B ≤ w.heap.size) (hg : B ≤ g) : Ints k w' B A n l := h.below (gb_below hb hB hg)
theorem Ints.drewN (h : Ints k w B A n l) (m : Nat) : Ints k (w.drewN m) B A n l := h
theorem Ints.drew (h : Ints k w B A n l) : Ints k w.drew B A n l := h
theorem Ints.alloc (h : Ints k w B A n l) (hB : B ≤ w.heap.size) (o : Obj) : Ints k (w.alloc o) B A n l := h.keep fun b hb => Below.heap_alloc w o b (by omega)
theorem Ints.up {B' : Nat} (h : Ints k w B A n l) (hB : B ≤ B') : Ints k w B' A n l :=
 ⟨h.1, fun hn => by
  obtain ⟨b, off, e, hb, hc⟩ := h.2.1 hn
  exact ⟨b, off, e, by omega, hc⟩, h.2.2⟩
theorem Ints.ofRow {x : Addr} {zs : List Int} {m : Nat} (hm : m ≤ zs.length) (hc : ∀ i, i < zs.length → w.cell? (x.add i) = some (.int k (zs.getD i 0))) (hw : ∀ n ∈ zs, (Lit.int k n).wf = true) :
  Ints k w w.heap.size (some x) m (zs.take m) := by
 refine ⟨by rw [List.length_take]; omega, fun h0 => ?_, fun y hy => hw y (List.mem_of_mem_take hy)⟩
 obtain ⟨b, off, rfl, hcell⟩ := ints_at hc (by omega)
 refine ⟨b, off, rfl, ?_, fun i hi => ?_⟩
 ·have := hcell 0 (by omega)
  exact World.block_lt_of_cell? w _ this
 ·rw [hcell i (by omega), List.getD_eq_getElem?_getD, List.getD_eq_getElem?_getD, List.getElem?_take, if_pos hi]
end
theorem q_same {P : Program} {f : FuncId} {args : Array Value} {w : World} {n : Nat} {v : Value}
  (h : ∀ W, Calls P f args W fun e w' => e = .returned v ∧ W = w') : Calls P f args (w.drewN n) fun e w'' => e = .returned v ∧ ∃ m, w'' = w.drewN m :=
 (h _).mono fun _ _ ⟨he, hw⟩ => ⟨he, n, hw.symm⟩
end Go.Proofs.YtkdanlnhdgcplaaGreat
namespace Go.Proofs.YtkdanlnhdgcplaaGreat
open Go.ChangeShapes Go.WideShapes Go.ChangeAt Go.RowKit

def Src (w : World) (size : Nat) (A : Option Addr) (m : Nat) (news : List Value) : Prop :=
 news.length = m * size ∧ (0 < m → ∃ b off, A = some ⟨b, off, none⟩ ∧ ∀ j u, news[j]? = some u → w.cell? ⟨b, off + j, none⟩ = some u)
theorem Src.nil (w : World) (size : Nat) (A : Option Addr) : Src w size A 0 [] := ⟨by simp, fun h => absurd h (by omega)⟩
theorem Src.of_ints {k : IntKind} {w : World} {B n : Nat} {A : Option Addr} {l : List Int} (h : Ints k w B A n l) : Src w 1 A n (l.map (Value.int k)) := by
 refine ⟨by rw [List.length_map, h.1]; omega, fun h0 => ?_⟩
 obtain ⟨b, off, e, _, hc⟩ := h.2.1 h0
 refine ⟨b, off, e, fun j u hu => ?_⟩
 rw [List.getElem?_map, Option.map_eq_some_iff] at hu
 obtain ⟨x, hx, rfl⟩ := hu
 obtain ⟨hj, hx'⟩ := List.getElem?_eq_some_iff.1 hx
 rw [hc j (by have := h.1; omega), List.getD_eq_getElem?_getD, hx, Option.getD_some]
theorem Src.one (w : World) (t : TypeId) (u : Value) : Src (w.alloc (.cells #[u] t)) 1 (some ⟨w.heap.size, 0, none⟩) 1 [u] := by
 refine ⟨rfl, fun _ => ⟨_, 0, rfl, fun j v hj => ?_⟩⟩
 match j, hj with
 | 0, hj => rw [(Box.new w t _).cell]; exact hj

section
variable {P : Program} (w : World)
theorem run_app_nil (base : Nat) (t ty e : TypeId) (i : TypeInfo) (size : Nat) (ht : P.underlying t = some (.slice e)) (hi : P.info? e = some i)
  (v : Value) (n : Nat) (xs : List Value) (hown : w.ownsRow base e size v n xs) (c : Nat) : (Builtin.append_ #[t, t] ty #[v, .slice none 0 c]).run P w = .ok v w := by
 rcases hown.2 with ⟨rfl, rfl⟩ | ⟨g, cap, cur, rfl, _, _, hnc, _⟩ <;>
  simp [Builtin.append_, run_underlying ht, sizeOf, typeInfo, Builtin.lenOf, Builtin.firstCells, storeCells, *]

theorem run_app (base : Nat) (t ty e : TypeId) (i : TypeInfo) (z : Value) (size bytes : Nat) (ht : P.underlying t = some (.slice e)) (hi : P.info? e = some i) (hz : i.zero = some z)
  (hsize : i.size = size) (hby : i.bytes = bytes) (hzs : z.cells.size = size) (hsz : 0 < size)
  (v : Value) (n : Nat) (xs : List Value) (hown : w.ownsRow base e size v n xs)
  (A : Option Addr) (m c : Nat) (news : List Value) (hr : Src w size A m news) (h1 : ∀ u ∈ news, u.oneCell' = true)
  (h63 : n + m ≤ maxLen) (hbytes : (n + m) * bytes ≤ 140737488355328) (hbase : base ≤ w.heap.size) :
  ∃ v' w', (Builtin.append_ #[t, t] ty #[v, .slice A m c]).run P w = .ok v' w' ∧ w'.ownsRow base e size v' (n + m) (xs ++ news) ∧ w.grownBy w' v.ownBlock ∧
   (v'.ownBlock = v.ownBlock ∨ v'.ownBlock = some w.heap.size) := by
 by_cases hm : m = 0
 ·subst hm
  have hn : news = [] := List.eq_nil_of_length_eq_zero (by simpa using hr.1)
  subst hn
  cases A with
  | none => exact ⟨v, w, run_app_nil w base t ty e i size ht hi v n xs hown c, by simpa using hown, World.grownBy.refl w _, .inl rfl⟩
  | some ad =>
   obtain ⟨v', w', hrun, h2, h3, _, h5⟩ := run_append_own_at (P := P) w base t ty e i z size bytes ht hi hz hsize hby hzs hsz v n xs hown ad 0 c [] hr.1 (by simp) h1 h63 hbytes hbase
   exact ⟨v', w', hrun, h2, h3, h5⟩
 ·obtain ⟨b, off, rfl, hc⟩ := hr.2 (by omega)
  obtain ⟨v', w', hrun, h2, h3, _, h5⟩ := run_append_own_at (P := P) w base t ty e i z size bytes ht hi hz hsize hby hzs hsz v n xs hown ⟨b, off, none⟩ m c news hr.1
   (fun j u hu => by rw [Go.WideShapes.add_plain]; exact hc j u hu) h1 h63 hbytes hbase
  exact ⟨v', w', hrun, h2, h3, h5⟩

theorem wp_app {o : Oper} {a : Act} {K : Act → World → Prop} {Q : Exit → Act → World → Prop} (s x : Operand) (t : TypeId)
  (ho : o.op = .call { callee := .builtin .append, args := #[s, x], argTypes := #[t, t] })
  (base : Nat) (e : TypeId) (i : TypeInfo) (z : Value) (size bytes : Nat) (ht : P.underlying t = some (.slice e)) (hi : P.info? e = some i) (hz : i.zero = some z)
  (hsize : i.size = size) (hby : i.bytes = bytes) (hzs : z.cells.size = size) (hsz : 0 < size)
  (v : Value) (n : Nat) (xs : List Value) (hs : a.eval s = v) (hown : w.ownsRow base e size v n xs)
  (A : Option Addr) (m c : Nat) (news : List Value) (hx : a.eval x = .slice A m c) (hr : Src w size A m news) (h1 : ∀ u ∈ news, u.oneCell' = true)
  (h63 : n + m ≤ maxLen) (hbytes : (n + m) * bytes ≤ 140737488355328) (hbase : base ≤ w.heap.size)
  (h : ∀ v' w', w'.ownsRow base e size v' (n + m) (xs ++ news) → w.grownBy w' v.ownBlock → (v'.ownBlock = v.ownBlock ∨ v'.ownBlock = some w.heap.size) → K (a.put o.dst v') w') : o.wp P a w K Q := by
 obtain ⟨v', w', hrun, h2, h3, h4⟩ := run_app (P := P) w base t o.type e i z size bytes ht hi hz hsize hby hzs hsz v n xs hown A m c news hr h1 h63 hbytes hbase
 unfold Oper.wp execOp
 simp only [ho, resolve, invoke, builtin, Sem.run_bind, Sem.run_pure, Result.andThen_ok, List.map_toArray, List.map_cons, List.map_nil, hs, hx, hrun]
 exact h v' w' h2 h3 h4

theorem wpList_app {ops : Array Oper} {rest : List Oper} {o : Oper} {a : Act} {Q : Exit → Act → World → Prop} (hgd : o.guard = none) (s x : Operand) (t : TypeId)
  (ho : o.op = .call { callee := .builtin .append, args := #[s, x], argTypes := #[t, t] })
  (base : Nat) (e : TypeId) (i : TypeInfo) (z : Value) (size bytes : Nat) (ht : P.underlying t = some (.slice e)) (hi : P.info? e = some i) (hz : i.zero = some z)
  (hsize : i.size = size) (hby : i.bytes = bytes) (hzs : z.cells.size = size) (hsz : 0 < size)
  (v : Value) (n : Nat) (xs : List Value) (hs : a.eval s = v) (hown : w.ownsRow base e size v n xs)
  (A : Option Addr) (m c : Nat) (news : List Value) (hx : a.eval x = .slice A m c) (hr : Src w size A m news) (h1 : ∀ u ∈ news, u.oneCell' = true)
  (h63 : n + m ≤ maxLen) (hbytes : (n + m) * bytes ≤ 140737488355328) (hbase : base ≤ w.heap.size)
  (h : ∀ v' w', w'.ownsRow base e size v' (n + m) (xs ++ news) → w.grownBy w' v.ownBlock → (v'.ownBlock = v.ownBlock ∨ v'.ownBlock = some w.heap.size) → wpList P ops Q rest (a.put o.dst v') w') : wpList P ops Q (o :: rest) a w :=
 wpList_plain hgd fun _ hK => wp_app w s x t ho base e i z size bytes ht hi hz hsize hby hzs hsz v n xs hs hown A m c news hx hr h1 h63 hbytes hbase fun v' w' h2 h3 h4 => hK _ _ (h v' w' h2 h3 h4)
end

theorem one_ints (k : IntKind) (l : List Int) : ∀ u ∈ l.map (Value.int k), u.oneCell' = true := by
 intro u hu
 rw [List.mem_map] at hu
 obtain ⟨x, _, rfl⟩ := hu
 rfl

theorem one_int (k : IntKind) (x : Int) : ∀ u ∈ [Value.int k x], u.oneCell' = true := by
 intro u hu
 rw [List.mem_singleton] at hu
 rw [hu]; rfl
def Own (k : IntKind) (e : TypeId) (w : World) (base : Nat) (v : Value) (l : List Int) : Prop := w.ownsRow base e 1 v l.length (l.map (Value.int k)) ∧ ∀ x ∈ l, (Lit.int k x).wf = true
theorem Own.of {k : IntKind} {e : TypeId} {w : World} {base n : Nat} {v : Value} {l : List Int} (h : w.ownsRow base e 1 v n (l.map (Value.int k))) (hw : ∀ x ∈ l, (Lit.int k x).wf = true) : Own k e w base v l := by
 have hn : l.length = n := by have := h.1; simpa using this
 subst hn
 exact ⟨h, hw⟩
theorem Own.nil (k : IntKind) (e : TypeId) (w : World) (base : Nat) : Own k e w base (.slice none 0 0) [] := ⟨World.ownsRow_nil _ _ _ _, by simp⟩
theorem Own.ints {k : IntKind} {e : TypeId} {w : World} {base : Nat} {v : Value} {l : List Int} (h : Own k e w base v l) :
  ∃ A c, v = .slice A l.length c ∧ l.length ≤ c ∧ Ints k w w.heap.size A l.length l ∧ (∀ b, v.ownBlock = some b → base ≤ b ∧ b < w.heap.size) := by
 obtain ⟨h, hw⟩ := h
 have hlt := h.lt
 have hcells := @World.ownsRow.cells _ _ _ _ _ _ _ h
 rcases h.2 with ⟨rfl, h0⟩ | ⟨g, cap, cur, rfl, hb, hg, hn, hm, hs, ht⟩
 ·have : l = [] := List.eq_nil_of_length_eq_zero h0
  subst this
  exact ⟨none, 0, rfl, Nat.le_refl _, Ints.nil, hlt⟩
 ·refine ⟨_, cap, rfl, hn, ⟨rfl, fun h0 => ⟨g, 0, rfl, (hlt g rfl).2, fun i hi => ?_⟩, hw⟩, hlt⟩
  have hh := hcells (g := g) rfl i (.int k (l.getD i 0)) (by rw [List.getElem?_map, List.getD_eq_getElem?_getD, List.getElem?_eq_getElem hi]; rfl)
  rwa [Go.WideShapes.add_plain] at hh

theorem Own.block {k : IntKind} {e : TypeId} {w : World} {base b : Nat} {v : Value} {l : List Int} (h : Own k e w base v l) (hb : v.ownBlock = some b) : base ≤ b ∧ b < w.heap.size := h.1.lt b hb
theorem Own.kept {k : IntKind} {e : TypeId} {w w' : World} {base : Nat} {v : Value} {l : List Int} {row : Option Nat} (h : Own k e w base v l) (hg : w.grownBy w' row) (hr : v.ownBlock = none ∨ v.ownBlock ≠ row) : Own k e w' base v l := ⟨h.1.kept hg hr, h.2⟩
theorem Own.below {k : IntKind} {e : TypeId} {w w' : World} {base : Nat} {v : Value} {l : List Int} (h : Own k e w base v l) (hb : Bel w w') : Own k e w' base v l :=
 h.kept (row := none) ⟨hb.os, hb.tape, hb.output, hb.size, fun j hj _ => hb.block j hj⟩ (by cases hv : v.ownBlock <;> simp)
theorem Own.alloc {k : IntKind} {e : TypeId} {w : World} {base : Nat} {v : Value} {l : List Int} (h : Own k e w base v l) (o : Obj) : Own k e (w.alloc o) base v l := h.below ((Below.refl _ _).alloc (Nat.le_refl _) o)
theorem Own.drewN {k : IntKind} {e : TypeId} {w : World} {base : Nat} {v : Value} {l : List Int} (h : Own k e w base v l) (m : Nat) : Own k e (w.drewN m) base v l := h
theorem Own.lower {k : IntKind} {e : TypeId} {w : World} {base base' : Nat} {v : Value} {l : List Int} (h : Own k e w base v l) (hb : base' ≤ base) : Own k e w base' v l := by
 obtain ⟨⟨h1, h2⟩, h3⟩ := h
 refine ⟨⟨h1, ?_⟩, h3⟩
 rcases h2 with h2 | ⟨g, cap, cur, hv, hg, r⟩
 ·exact .inl h2
 ·exact .inr ⟨g, cap, cur, hv, by omega, r⟩
theorem Own.row {k : IntKind} {e : TypeId} {w : World} {base : Nat} {v : Value} {l : List Int} (h : Own k e w base v l) (hn : 0 < l.length) :
  ∃ g c, v = .slice (some ⟨g, 0, none⟩) l.length c ∧ l.length ≤ c ∧ c ≤ maxLen ∧ base ≤ g ∧ g < w.heap.size ∧ (∀ i, i < l.length → w.cell? ⟨g, i, none⟩ = some (.int k (l.getD i 0))) ∧ (∀ i, w.frozen? ⟨g, i, none⟩ = false) := by
 obtain ⟨⟨h1, h2⟩, h3⟩ := h
 rcases h2 with ⟨_, h0⟩ | ⟨g, cap, cur, rfl, hb, hg, hn', hm, hs, ht⟩
 ·omega
 ·refine ⟨g, cap, rfl, hn', hm, hb, (Box.size hg), fun i hi => ?_, fun i => Box.frozen hg i⟩
  have h4 : (l.map (Value.int k))[i]? = some (.int k (l.getD i 0)) := by rw [List.getElem?_map, List.getD_eq_getElem?_getD, List.getElem?_eq_getElem hi]; rfl
  rw [Box.cell hg i, ← h4, ← ht, List.getElem?_take, if_pos (by omega)]
  simp
theorem Own.shape {k : IntKind} {e : TypeId} {w : World} {base : Nat} {v : Value} {l : List Int} (h : Own k e w base v l) : ∃ A c, v = .slice A l.length c ∧ l.length ≤ maxLen := by
 obtain ⟨⟨h1, h2⟩, h3⟩ := h
 rcases h2 with ⟨rfl, h0⟩ | ⟨g, cap, cur, rfl, hb, hg, hn', hm, hs, ht⟩
 ·exact ⟨none, 0, by rw [h0], by rw [h0]; simp [maxLen]⟩
 ·exact ⟨_, cap, rfl, by omega⟩
theorem Own.put {k : IntKind} {e : TypeId} {w : World} {base g c : Nat} {l : List Int} (h : Own k e w base (.slice (some ⟨g, 0, none⟩) l.length c) l) (i : Nat) (x : Int) (hx : (Lit.int k x).wf = true) :
  Own k e (w.setCell ⟨g, i, none⟩ (.int k x)) base (.slice (some ⟨g, 0, none⟩) l.length c) (l.set i x) := by
 refine ⟨?_, fun y hy => ?_⟩
 ·rw [List.length_set, List.map_set]; exact (h.1.stored i _).1
 ·rcases List.mem_or_eq_of_mem_set hy with h' | rfl
  ·exact h.2 y h'
  ·exact hx
theorem Own.of_row {k : IntKind} {e : TypeId} {w : World} {base g n : Nat} {l : List Int} (h : w.rowIs g e n (fun j => .int k (l.getD j 0))) (hl : l.length = n) (hm : n ≤ maxLen) (hb : base ≤ g) (hw : ∀ x ∈ l, (Lit.int k x).wf = true) :
  Own k e w base (.slice (some ⟨g, 0, none⟩) n n) l := by
 subst hl
 obtain ⟨cs, h1, h2, h3⟩ := h
 refine ⟨⟨by simp, .inr ⟨g, l.length, cs, rfl, hb, h1, Nat.le_refl _, hm, by rw [h2]; omega, ?_⟩⟩, hw⟩
 apply List.ext_getElem?
 intro j
 rw [List.getElem?_take, List.getElem?_map]
 by_cases hj : j < l.length
 ·rw [if_pos (by omega)]
  have h4 : cs[j]? = some (Value.int k (l.getD j 0)) := h3 j hj
  rw [List.getD_eq_getElem?_getD, List.getElem?_eq_getElem hj] at h4
  rw [List.getElem?_eq_getElem hj]
  simpa using h4
 ·rw [if_neg (by omega), List.getElem?_eq_none (by omega)]; rfl

theorem wpList_mk {P : Program} (w : World) {ops : Array Oper} {rest : List Oper} {o : Oper} {a : Act} {Q : Exit → Act → World → Prop}
  (hg : o.guard = none) (l c : Operand) (t : TypeId) (hop : o.op = Op.makeSlice t l c)
  (e : TypeId) (i : TypeInfo) (z : Value) (h1 : P.underlying t = some (.slice e)) (h2 : P.info? e = some i) (h3 : i.zero = some z) (hzc : z.cells = #[z]) (h4 : i.size = 1)
  (n : Nat) (hl : a.eval l = .int .i64 n) (hc : a.eval c = .int .i64 n) (b2 : i.bytes * n ≤ 281474976710656) (b3 : n ≤ maxLen)
  (hK : ∀ w', w'.rowIs w.heap.size e n (fun _ => z) → Bel w w' → w.heap.size < w'.heap.size → wpList P ops Q rest (a.put o.dst (.slice (some ⟨w.heap.size, 0, none⟩) n n)) w') :
  wpList P ops Q (o :: rest) a w := by
 refine wpList_plain hg fun K hK' => ?_
 have hrun := run_make (P := P) w t e i z h1 h2 h3 .i64 .i64 n n (by omega) (Int.le_refl _) (by omega) (by simp only [maxLen] at b3; omega)
 simp only [Int.toNat_natCast, h4, Nat.mul_one, hzc] at hrun
 unfold Oper.wp
 simp [execOp, hop, hl, hc, hrun, Result.andThen]
 exact hK' _ _ (hK _ (World.rowIs_made w z n e) ((Below.refl _ _).alloc (Nat.le_refl _) _) (by simp))
end Go.Proofs.YtkdanlnhdgcplaaGreat
namespace Go.Proofs.YtkdanlnhdgcplaaGreat
open Go.ChangeShapes Go.WideShapes Go.ChangeAt Go.RowKit
def mks (f : Nat → Int) (l : List Int) (j : Nat) : List Int := (List.range l.length).map fun i => if i < j then f i else l.getD i 0
theorem mks_len (f : Nat → Int) (l : List Int) (j : Nat) : (mks f l j).length = l.length := by simp [mks]
theorem mks_zero (f : Nat → Int) (l : List Int) : mks f l 0 = l := by
 apply List.ext_getElem (mks_len _ _ _)
 intro i h1 h2
 simp [mks, List.getElem_map, h2]
theorem mks_set (f : Nat → Int) (l : List Int) (j : Nat) : (mks f l j).set j (f j) = mks f l (j + 1) := by
 apply List.ext_getElem (by simp [mks])
 intro i h1 h2
 rw [List.getElem_set]
 by_cases h : j = i
 ·subst h; simp [mks]
 ·rw [if_neg h]
  simp only [mks, List.getElem_map, List.getElem_range]
  by_cases h3 : i < j
  ·rw [if_pos h3, if_pos (by omega)]
  ·rw [if_neg h3, if_neg (by omega)]
theorem mks_all (f : Nat → Int) (l : List Int) : mks f l l.length = (List.range l.length).map f := by
 unfold mks
 apply List.map_congr_left
 intro i hi
 rw [if_pos (List.mem_range.1 hi)]
def marks (k : Int) (n : Nat) : List Int := (List.range n).map fun i : Nat => k + (i : Int)
def marks8 (k : Int) (n : Nat) : List Int := (List.range n).map fun i : Nat => (k + (i : Int)) % 256
theorem marks_len (k : Int) (n : Nat) : (marks k n).length = n := by simp [marks]
theorem marks8_len (k : Int) (n : Nat) : (marks8 k n).length = n := by simp [marks8]
theorem marks_at {k : Int} {n i : Nat} (h : i < n) : (marks k n).getD i 0 = k + i := by
 rw [List.getD_eq_getElem?_getD, marks, List.getElem?_map, List.getElem?_range h]; rfl
theorem marks8_at {k : Int} {n i : Nat} (h : i < n) : (marks8 k n).getD i 0 = (k + i) % 256 := by
 rw [List.getD_eq_getElem?_getD, marks8, List.getElem?_map, List.getElem?_range h]; rfl
theorem own_mem {k : IntKind} {e : TypeId} {w w' : World} {v : Value} {base : Nat} {l : List Int} (h : Own k e w base v l) (h' : w.grownBy w' v.ownBlock) (hb : base ≤ w.heap.size) : Below base w w' :=
 (Below.refl _ _).grown h' hb fun _ hb => (h.block hb).1

set_option maxHeartbeats 400000 in
theorem l_eqIntS {w : World} {B n m c d : Nat} {A A' : Option Addr} {l l' : List Int} (h : Ints .i64 w B A n l) (h' : Ints .i64 w B A' m l') (hn : n ≤ maxLen) (hm : m ≤ maxLen) :
  Calls Tryz.prog 151 #[.slice A n c, .slice A' m d] w fun e w' => e = .returned (.bool (decide (l = l'))) ∧ Bel w w' := by
 unfold maxLen at hn hm
 by_cases hlen : n = m
 ·subst hlen
  go_enter Tryz.func151, Tryz.ntmps151
  go_wp2
  go_loopw [5] (fun i wr => ∃ k : Nat, k ≤ n ∧ i = .int .i64 k ∧ (∀ j, j < k → l.getD j 0 = l'.getD j 0) ∧ ∃ q, wr = w.drewN q) (fun i _ => n - (RowKit.intOf i).toNat)
  case atStart => exact ⟨0, by omega, rfl, fun j hj => by omega, 0, rfl⟩
  case round =>
   obtain ⟨k, hk, rfl, hall, q, rfl⟩ := hrel
   have HA := Lib.hid hall
   clear hall
   by_cases hlt : k < n
   ·obtain ⟨b, off, rfl, _, hc, hwf⟩ := h.at_ hlt
    obtain ⟨b', off', rfl, _, hc', hwf'⟩ := h'.at_ hlt
    by_cases heq : l.getD k 0 = l'.getD k 0
    ·rw [← heq] at hc'
     have HE := Lib.hid heq
     clear heq
     obtain ⟨x, hx⟩ : ∃ x, l.getD k 0 = x := ⟨_, rfl⟩
     rw [hx] at hc hc'
     clear hx hwf hwf'
     go_wp2
     go_quiet (fail)
     go_wp2
     go_roundw
     case rel => exact ⟨k + 1, by omega, by go_num, fun j hj => by
      rcases Nat.lt_succ_iff_lt_or_eq.1 hj with h1 | rfl
      ·exact HA.out j h1
      ·exact HE.out, _, rfl⟩
     case measure => simp [RowKit.intOf]; omega
    ·have hne : (l.getD k 0 == l'.getD k 0) = false := by simpa using heq
     have HF := Lib.hid (show decide (l = l') = false from by simp; intro e; rw [e] at heq; exact heq rfl)
     clear heq
     obtain ⟨x, hx⟩ : ∃ x, l.getD k 0 = x := ⟨_, rfl⟩
     obtain ⟨y, hy⟩ : ∃ y, l'.getD k 0 = y := ⟨_, rfl⟩
     rw [hx] at hc hne
     rw [hy] at hc' hne
     have hne2 : (x != y) = true := by simp [bne, hne]
     clear hx hy hwf hwf'
     go_wp2
     go_quiet (fail)
     go_wp2
     go_ret
     exact ⟨by rw [HF.out]; rfl, below_drewN (below_drewN (Below.refl _ _) _) _⟩
   ·obtain rfl : k = n := by omega
    have HT := Lib.hid (show decide (l = l') = true from by
     simp
     apply List.ext_getElem (by rw [h.1, h'.1])
     intro j h1 h2
     have := HA.out j (by rw [← h.1]; exact h1)
     rw [List.getD_eq_getElem?_getD, List.getD_eq_getElem?_getD, List.getElem?_eq_getElem h1, List.getElem?_eq_getElem h2] at this
     exact this)
    go_wp2
    go_ret
    exact ⟨by rw [HT.out]; rfl, below_drewN (Below.refl _ _) _⟩
 ·have HF := Lib.hid (show decide (l = l') = false from by simp; intro e; exact hlen (by rw [← h.1, ← h'.1, e]))
  have hb : ((n : Int) == (m : Int)) = false := by simp; omega
  have hb2 : ((n : Int) != (m : Int)) = true := by simp; omega
  clear hlen
  go_enter Tryz.func151, Tryz.ntmps151
  go_wp2
  go_ret
  exact ⟨by rw [HF.out]; rfl, Below.refl _ _⟩
set_option maxHeartbeats 400000 in
theorem l_heldIntS {w : World} {B n c : Nat} {A : Option Addr} (k : Int) (h : Ints .i64 w B A n (marks k n)) (h0 : 0 ≤ k) (hk : k + n ≤ 4611686018427387904) :
  Calls Tryz.prog 81 #[.slice A n c, .int .i64 k] w fun e w' => e = .returned (.int .i64 (k + n)) ∧ w = w' := by
 go_enter Tryz.func81, Tryz.ntmps81
 go_wp2
 go_loop [1, 5] (fun x i => ∃ j : Nat, j ≤ n ∧ x = .int .i64 (k + j) ∧ i = .int .i64 j) (fun _ i => n - (RowKit.intOf i).toNat)
 case atStart => exact ⟨0, by omega, by go_num, rfl⟩
 case round =>
  obtain ⟨j, hj, rfl, rfl⟩ := hrel
  by_cases hlt : j < n
  ·obtain ⟨b, off, rfl, _, hc, _⟩ := h.at_ hlt
   rw [marks_at hlt] at hc
   have hb1 : ((k + (j : Int)) != (k + (j : Int))) = false := by simp
   go_wp2
   go_round
   case rel => exact ⟨j + 1, by omega, by go_num, by go_num⟩
   case measure => simp [RowKit.intOf]; omega
  ·obtain rfl : j = n := by omega
   go_wp2
   go_ret
   exact ⟨rfl, rfl⟩
set_option maxHeartbeats 400000 in
theorem l_eqByteS {w : World} {B n m c d : Nat} {A A' : Option Addr} {l l' : List Int} (h : Ints .u8 w B A n l) (h' : Ints .u8 w B A' m l') (hn : n ≤ maxLen) (hm : m ≤ maxLen) :
  Calls Tryz.prog 11 #[.slice A n c, .slice A' m d] w fun e w' => e = .returned (.bool (decide (l = l'))) ∧ Bel w w' := by
 unfold maxLen at hn hm
 by_cases hlen : n = m
 ·subst hlen
  go_enter Tryz.func11, Tryz.ntmps11
  go_wp2
  go_loopw [5] (fun i wr => ∃ k : Nat, k ≤ n ∧ i = .int .i64 k ∧ (∀ j, j < k → l.getD j 0 = l'.getD j 0) ∧ ∃ q, wr = w.drewN q) (fun i _ => n - (RowKit.intOf i).toNat)
  case atStart => exact ⟨0, by omega, rfl, fun j hj => by omega, 0, rfl⟩
  case round =>
   obtain ⟨k, hk, rfl, hall, q, rfl⟩ := hrel
   have HA := Lib.hid hall
   clear hall
   by_cases hlt : k < n
   ·obtain ⟨b, off, rfl, _, hc, hwf⟩ := h.at_ hlt
    obtain ⟨b', off', rfl, _, hc', hwf'⟩ := h'.at_ hlt
    by_cases heq : l.getD k 0 = l'.getD k 0
    ·rw [← heq] at hc'
     have HE := Lib.hid heq
     clear heq
     obtain ⟨x, hx⟩ : ∃ x, l.getD k 0 = x := ⟨_, rfl⟩
     rw [hx] at hc hc'
     clear hx hwf hwf'
     go_wp2
     go_quiet (fail)
     go_wp2
     go_roundw
     case rel => exact ⟨k + 1, by omega, by go_num, fun j hj => by
      rcases Nat.lt_succ_iff_lt_or_eq.1 hj with h1 | rfl
      ·exact HA.out j h1
      ·exact HE.out, _, rfl⟩
     case measure => simp [RowKit.intOf]; omega
    ·have hne : (l.getD k 0 == l'.getD k 0) = false := by simpa using heq
     have HF := Lib.hid (show decide (l = l') = false from by simp; intro e; rw [e] at heq; exact heq rfl)
     clear heq
     obtain ⟨x, hx⟩ : ∃ x, l.getD k 0 = x := ⟨_, rfl⟩
     obtain ⟨y, hy⟩ : ∃ y, l'.getD k 0 = y := ⟨_, rfl⟩
     rw [hx] at hc hne
     rw [hy] at hc' hne
     have hne2 : (x != y) = true := by simp [bne, hne]
     clear hx hy hwf hwf'
     go_wp2
     go_quiet (fail)
     go_wp2
     go_ret
     exact ⟨by rw [HF.out]; rfl, below_drewN (below_drewN (Below.refl _ _) _) _⟩
   ·obtain rfl : k = n := by omega
    have HT := Lib.hid (show decide (l = l') = true from by
     simp
     apply List.ext_getElem (by rw [h.1, h'.1])
     intro j h1 h2
     have := HA.out j (by rw [← h.1]; exact h1)
     rw [List.getD_eq_getElem?_getD, List.getD_eq_getElem?_getD, List.getElem?_eq_getElem h1, List.getElem?_eq_getElem h2] at this
     exact this)
    go_wp2
    go_ret
    exact ⟨by rw [HT.out]; rfl, below_drewN (Below.refl _ _) _⟩
 ·have HF := Lib.hid (show decide (l = l') = false from by simp; intro e; exact hlen (by rw [← h.1, ← h'.1, e]))
  have hb : ((n : Int) == (m : Int)) = false := by simp; omega
  have hb2 : ((n : Int) != (m : Int)) = true := by simp; omega
  clear hlen
  go_enter Tryz.func11, Tryz.ntmps11
  go_wp2
  go_ret
  exact ⟨by rw [HF.out]; rfl, Below.refl _ _⟩
set_option maxHeartbeats 400000 in
theorem l_heldByteS {w : World} {B n c : Nat} {A : Option Addr} (k : Int) (h : Ints .u8 w B A n (marks8 k n)) (h0 : 0 ≤ k) (hk : k + n ≤ 4611686018427387904) :
  Calls Tryz.prog 84 #[.slice A n c, .int .i64 k] w fun e w' => e = .returned (.int .i64 (k + n)) ∧ w = w' := by
 go_enter Tryz.func84, Tryz.ntmps84
 go_wp2
 go_loop [1, 5] (fun x i => ∃ j : Nat, j ≤ n ∧ x = .int .i64 (k + j) ∧ i = .int .i64 j) (fun _ i => n - (RowKit.intOf i).toNat)
 case atStart => exact ⟨0, by omega, by go_num, rfl⟩
 case round =>
  obtain ⟨j, hj, rfl, rfl⟩ := hrel
  by_cases hlt : j < n
  ·obtain ⟨b, off, rfl, _, hc, _⟩ := h.at_ hlt
   rw [marks8_at hlt] at hc
   have hb1 : ((k + (j : Int)) != (k + (j : Int))) = false := by simp
   go_wp2
   go_round
   case rel => exact ⟨j + 1, by omega, by go_num, by go_num⟩
   case measure => simp [RowKit.intOf]; omega
  ·obtain rfl : j = n := by omega
   go_wp2
   go_ret
   exact ⟨rfl, rfl⟩
end Go.Proofs.YtkdanlnhdgcplaaGreat
namespace Go.Proofs.YtkdanlnhdgcplaaGreat
open Go.ChangeShapes Go.WideShapes Go.ChangeAt Go.RowKit

theorem Own.apart {k k' : IntKind} {e e' : TypeId} {w w1 : World} {base base' : Nat} {v v' : Value} {l l' : List Int} (hx : Own k e w base v l) (hy : Own k' e' w1 base' v' l') (hle : w1.heap.size ≤ base) : v.ownBlock = none ∨ v.ownBlock ≠ v'.ownBlock := by
 cases hv : v.ownBlock with
 | none => exact .inl rfl
 | some b =>
  refine .inr fun h => ?_
  have h1 := (hx.block hv).1
  have h2 := (hy.block h.symm).2
  omega
theorem copy_step {K : IntKind} {l : List Int} {k j : Nat} {x : Int} (hx : l.getD k 0 = x) : (if j = k then Value.int K x else .int K (if j < k then l.getD j 0 else 0)) = .int K (if j < k + 1 then l.getD j 0 else 0) := by
 by_cases h : j = k
 ·subst h; rw [if_pos rfl, if_pos (by omega), hx]
 ·by_cases h2 : j < k
  ·simp [h, h2, Nat.lt_succ_of_lt h2]
  ·simp [h, h2, show ¬ j < k + 1 by omega]
theorem i64_rg {x : Int} (h : (Lit.int .i64 x).wf = true) : -9223372036854775808 ≤ x ∧ x ≤ 9223372036854775807 := by
 simp [Lit.wf] at h
 have e1 : IntKind.i64.min = -9223372036854775808 := by decide
 have e2 : IntKind.i64.max = 9223372036854775807 := by decide
 omega
theorem info_cb : (Tryz.prog.info? 5).map (fun i => (i.zero, i.size, i.bytes)) = some (some (.int .u8 0), 1, 1) := by kernel_rfl
theorem l_toByteS {w : World} {n c : Nat} {A : Option Addr} {l : List Int} (hl : Ints .u8 w w.heap.size A n l) (hn : n ≤ 140737488351232) :
  Calls Tryz.prog 8 #[.slice A n c] w fun e w' => e = .returned (.slice (some ⟨w.heap.size, 0, none⟩) n n) ∧ Own .u8 5 w' w.heap.size (.slice (some ⟨w.heap.size, 0, none⟩) n n) l ∧ Bel w w' := by
 obtain ⟨i0, hi0, hz0, hz1, hz2⟩ := info_parts info_cb
 have HL := Lib.hid hl.1
 have HW := Lib.hid hl.2.2
 go_enter Tryz.func8, Tryz.ntmps8
 go_wp2_with (at_make; refine wpList_mk _ rfl (.tmp 6) (.tmp 6) _ rfl 5 i0 _ Tryz.underlying28 hi0 hz0 rfl hz1 n rfl rfl (by rw [hz2]; omega) (by simp only [maxLen]; omega) ?_; intro w1 hrow hB1 hsz)
 go_loopw [4] (fun i wr => ∃ k : Nat, k ≤ n ∧ i = .int .i64 k ∧ wr.rowIs w.heap.size 5 n (fun j => .int .u8 (if j < k then l.getD j 0 else 0)) ∧ Bel w wr) (fun i _ => n - (RowKit.intOf i).toNat)
 case atStart => exact ⟨0, by omega, rfl, hrow.congr fun j _ => rfl, hB1⟩
 case round =>
  obtain ⟨k, hk, rfl, hO, hB⟩ := hrel
  by_cases hlt : k < n
  ·obtain ⟨b, off, rfl, _, hc, _⟩ := (hl.below hB).at_ hlt
   have hcell := hO.cell hlt
   have hfz := hO.frozen k
   obtain ⟨x, hx⟩ : ∃ x, l.getD k 0 = x := ⟨_, rfl⟩
   rw [hx] at hc
   have HX := Lib.hid hx
   clear hx
   go_wp2
   go_roundw
   case rel => exact ⟨k + 1, by omega, by go_num, (hO.set k _).congr fun j _ => copy_step HX.out, hB.setCell (Nat.le_refl _) _⟩
   case measure => simp [RowKit.intOf]; omega
  ·obtain rfl : k = n := by omega
   go_wp2
   go_ret
   refine ⟨rfl, Own.of_row (hO.congr fun j hj => by rw [if_pos hj]) HL.out (by simp only [maxLen]; omega) (Nat.le_refl _) HW.out, hB⟩
theorem info_ci : (Tryz.prog.info? 3).map (fun i => (i.zero, i.size, i.bytes)) = some (some (.int .i64 0), 1, 8) := by kernel_rfl
theorem l_toIntS {w : World} {n c : Nat} {A : Option Addr} {l : List Int} (hl : Ints .i64 w w.heap.size A n l) (hn : n ≤ 17592186043904) :
  Calls Tryz.prog 135 #[.slice A n c] w fun e w' => e = .returned (.slice (some ⟨w.heap.size, 0, none⟩) n n) ∧ Own .i64 3 w' w.heap.size (.slice (some ⟨w.heap.size, 0, none⟩) n n) l ∧ Bel w w' := by
 obtain ⟨i0, hi0, hz0, hz1, hz2⟩ := info_parts info_ci
 have HL := Lib.hid hl.1
 have HW := Lib.hid hl.2.2
 go_enter Tryz.func135, Tryz.ntmps135
 go_wp2_with (at_make; refine wpList_mk _ rfl (.tmp 6) (.tmp 6) _ rfl 3 i0 _ Tryz.underlying82 hi0 hz0 rfl hz1 n rfl rfl (by rw [hz2]; omega) (by simp only [maxLen]; omega) ?_; intro w1 hrow hB1 hsz)
 go_loopw [4] (fun i wr => ∃ k : Nat, k ≤ n ∧ i = .int .i64 k ∧ wr.rowIs w.heap.size 3 n (fun j => .int .i64 (if j < k then l.getD j 0 else 0)) ∧ Bel w wr) (fun i _ => n - (RowKit.intOf i).toNat)
 case atStart => exact ⟨0, by omega, rfl, hrow.congr fun j _ => rfl, hB1⟩
 case round =>
  obtain ⟨k, hk, rfl, hO, hB⟩ := hrel
  by_cases hlt : k < n
  ·obtain ⟨b, off, rfl, _, hc, _⟩ := (hl.below hB).at_ hlt
   have hcell := hO.cell hlt
   have hfz := hO.frozen k
   obtain ⟨x, hx⟩ : ∃ x, l.getD k 0 = x := ⟨_, rfl⟩
   rw [hx] at hc
   have HX := Lib.hid hx
   clear hx
   go_wp2
   go_roundw
   case rel => exact ⟨k + 1, by omega, by go_num, (hO.set k _).congr fun j _ => copy_step HX.out, hB.setCell (Nat.le_refl _) _⟩
   case measure => simp [RowKit.intOf]; omega
  ·obtain rfl : k = n := by omega
   go_wp2
   go_ret
   refine ⟨rfl, Own.of_row (hO.congr fun j hj => by rw [if_pos hj]) HL.out (by simp only [maxLen]; omega) (Nat.le_refl _) HW.out, hB⟩
end Go.Proofs.YtkdanlnhdgcplaaGreat
namespace Go.Proofs.YtkdanlnhdgcplaaGreat.Fld

/-! ### Fermat's little theorem, for any p that is coprime to all smaller numbers -/
def ch : Nat → Nat → Nat
 | _, 0 => 1
 | 0, _ + 1 => 0
 | n + 1, k + 1 => ch n k + ch n (k + 1)

def S (a n : Nat) : Nat → Nat
 | 0 => 0
 | m + 1 => S a n m + ch n m * a ^ m
def Prim (p : Nat) : Prop := 2 ≤ p ∧ ∀ k, 0 < k → k < p → Nat.Coprime p k

/-! ### 2147483647 is prime -/
def nd (p : Nat) : Nat → Bool
 | 0 => true
 | n + 1 => p % (n + 2) != 0 && nd p n
theorem nd_at (p : Nat) : ∀ n, nd p n = true → ∀ d, 2 ≤ d → d < n + 2 → p % d ≠ 0
 | 0, _, d, h1, h2 => by omega
 | n + 1, h, d, h1, h2 => by
  simp only [nd, Bool.and_eq_true, bne_iff_ne] at h
  by_cases e : d = n + 2
  ·rw [e]; exact h.1
  ·exact nd_at p n h.2 d h1 (by omega)

theorem prim_of (p m : Nat) (h2 : 2 ≤ p) (hnd : nd p m = true) (hm : p < (m + 2) * (m + 2)) : Prim p := by
 refine ⟨h2, fun k h0 h1 => ?_⟩
 have hd1 : Nat.gcd p k ∣ p := Nat.gcd_dvd_left p k
 have hd2 : Nat.gcd p k ≤ k := Nat.gcd_le_right p h0
 have hd0 : 0 < Nat.gcd p k := Nat.gcd_pos_of_pos_right p h0
 show Nat.gcd p k = 1
 generalize Nat.gcd p k = d at *
 obtain ⟨e, he⟩ := hd1
 by_cases hd : d = 1
 ·exact hd
 exfalso
 have he0 : e ≠ 0 := by intro h; rw [h] at he; omega
 have he1 : e ≠ 1 := by intro h; rw [h] at he; omega
 by_cases hc : d < m + 2
 ·exact nd_at p m hnd d (by omega) hc (by rw [he]; exact Nat.mul_mod_right d e)
 ·by_cases hc2 : e < m + 2
  ·exact nd_at p m hnd e (by omega) hc2 (by rw [he]; exact Nat.mul_mod_left d e)
  ·have : (m + 2) * (m + 2) ≤ d * e := Nat.mul_le_mul (by omega) (by omega)
   omega

theorem prime : Prim 2147483647 := prim_of 2147483647 46340 (by omega) (by decide +kernel) (by omega)

/-! ### the field's operations as the program's contracts have them -/
def addP (a b : Int) : Int := (a + b) % 2147483647
def mulP (a b : Int) : Int := a * b % 2147483647
def powP (a : Int) (n : Nat) : Int := a ^ n % 2147483647
def keyP (s l : Int) : Int := (((s + 7919 * l + 1) * 48271 % 2147483647 + l + 17) * 69621 % 2147483647 + s) % 2147483647

theorem mulP_rg (a b : Int) : 0 ≤ mulP a b ∧ mulP a b < 2147483647 := by unfold mulP; omega
theorem powP_rg (a : Int) (n : Nat) : 0 ≤ powP a n ∧ powP a n < 2147483647 := by unfold powP; omega
theorem mul_bd {a b : Int} (h1 : 0 ≤ a) (h2 : a < 2147483647) (h3 : 0 ≤ b) (h4 : b < 2147483647) : 0 ≤ a * b ∧ a * b ≤ 4611686014132420609 := by
 refine ⟨Int.mul_nonneg h1 h3, ?_⟩
 have : a * b ≤ 2147483647 * 2147483647 := Int.mul_le_mul (by omega) (by omega) h3 (by omega)
 omega

theorem mulP_comm (a b : Int) : mulP a b = mulP b a := by unfold mulP; rw [Int.mul_comm]
theorem mulP_mod_l (a b : Int) : mulP (a % 2147483647) b = mulP a b := by
 unfold mulP; rw [Int.mul_emod, Int.emod_emod, ← Int.mul_emod]
theorem mulP_mod_r (a b : Int) : mulP a (b % 2147483647) = mulP a b := by
 unfold mulP; rw [Int.mul_emod, Int.emod_emod, ← Int.mul_emod]
theorem mulP_assoc (a b c : Int) : mulP (mulP a b) c = mulP a (mulP b c) := by
 show mulP (a * b % 2147483647) c = mulP a (b * c % 2147483647)
 rw [mulP_mod_l, mulP_mod_r]; unfold mulP; rw [Int.mul_assoc]
theorem mulP_one {a : Int} (h1 : 0 ≤ a) (h2 : a < 2147483647) : mulP a 1 = a := by unfold mulP; omega
theorem one_mulP {a : Int} (h1 : 0 ≤ a) (h2 : a < 2147483647) : mulP 1 a = a := by unfold mulP; omega
theorem powP_zero (a : Int) : powP a 0 = 1 := by simp [powP]
theorem powP_succ (a : Int) (n : Nat) : powP a (n + 1) = mulP (powP a n) a := by
 unfold powP; rw [mulP_mod_l, Int.pow_succ]; rfl
theorem powP_mod (a : Int) : ∀ n, powP (a % 2147483647) n = powP a n
 | 0 => by simp [powP]
 | n + 1 => by rw [powP_succ, powP_succ, powP_mod a n, mulP_mod_r]
def pw (r a : Int) (n : Nat) : Int := mulP r (powP a n)
theorem pw_start {a : Int} {n : Nat} : pw 1 a n = powP a n := by
 unfold pw; exact one_mulP (powP_rg _ _).1 (powP_rg _ _).2
theorem pw_end {r a : Int} (h1 : 0 ≤ r) (h2 : r < 2147483647) : pw r a 0 = r := by
 unfold pw; rw [powP_zero]; exact mulP_one h1 h2
theorem sq (a : Int) (k : Nat) : powP (mulP a a) k = powP a (k + k) := by
 show powP (a * a % 2147483647) k = _
 rw [powP_mod]
 have : a * a = a ^ 2 := by grind
 rw [this]; unfold powP; rw [← Int.pow_mul, show 2 * k = k + k from by omega]
theorem pw_even (r a : Int) (n : Nat) (h : n % 2 = 0) : pw r (mulP a a) (n / 2) = pw r a n := by
 unfold pw; rw [sq, show n / 2 + n / 2 = n from by omega]
theorem pw_odd (r a : Int) (n : Nat) (h : n % 2 = 1) : pw (mulP r a) (mulP a a) (n / 2) = pw r a n := by
 unfold pw; rw [sq, mulP_assoc]
 have e : n = n / 2 + n / 2 + 1 := by omega
 have : mulP a (powP a (n / 2 + n / 2)) = powP a n := by
  rw [mulP_comm, ← powP_succ, ← e]
 rw [this]

/-! ### what each function of chapter 1 answers -/
def Ok (a : Int) : Prop := 0 ≤ a ∧ a < 2147483647
def Bad (a : Int) : Prop := ¬ (0 ≤ a ∧ a < 2147483647)
def Sec (n : Int) : Prop := 1 ≤ n ∧ n < 2147483646
def NoSec (n : Int) : Prop := ¬ (1 ≤ n ∧ n < 2147483646)
def Pub (n : Int) : Prop := 2 ≤ n ∧ n < 2147483646
def Lab (n : Int) : Prop := 0 ≤ n ∧ n ≤ 99
theorem Ok.lo {a : Int} (h : Ok a) : 0 ≤ a := h.1
theorem Ok.hi {a : Int} (h : Ok a) : a < 2147483647 := h.2
theorem Sec.lo {a : Int} (h : Sec a) : 1 ≤ a := h.1
theorem Sec.hi {a : Int} (h : Sec a) : a < 2147483646 := h.2
theorem Pub.lo {a : Int} (h : Pub a) : 2 ≤ a := h.1
theorem Pub.hi {a : Int} (h : Pub a) : a < 2147483646 := h.2
theorem Lab.lo {a : Int} (h : Lab a) : 0 ≤ a := h.1
theorem Lab.hi {a : Int} (h : Lab a) : a ≤ 99 := h.2
def shared (s p : Int) : Int := if (1 ≤ s ∧ s < 2147483646) ∧ (2 ≤ p ∧ p < 2147483646) then powP p s.toNat else -1
/-! ### a list of powers -/
end Go.Proofs.YtkdanlnhdgcplaaGreat.Fld
namespace Go.Proofs.YtkdanlnhdgcplaaGreat
set_option maxRecDepth 100000
open Go.ChangeShapes Go.WideShapes Go.ChangeAt Go.RowKit
open Fld

theorem ret_i64 {a b : Int} (h : a = b) : Ending.returned (.int .i64 a) = .returned (.int .i64 b) := by rw [h]
theorem ret_bool {a b : Bool} (h : a = b) : Ending.returned (.bool a) = .returned (.bool b) := by rw [h]

theorem s_FOk_t (a : Int) (w : World) (h : Ok a) :
  Calls Tryz.prog 130 #[.int .i64 a] w fun e w' => e = .returned (.bool true) ∧ w = w' := by
 have h1 := h.lo
 have h2 := h.hi
 go_enter Tryz.func130, Tryz.ntmps130
 go_wp2
 go_ret
 exact ⟨rfl, rfl⟩
theorem s_FOk_f (a : Int) (w : World) (h : Bad a) :
  Calls Tryz.prog 130 #[.int .i64 a] w fun e w' => e = .returned (.bool false) ∧ w = w' := by
 by_cases h1 : 0 ≤ a
 ·have h2 : ¬ a < 2147483647 := fun x => h ⟨h1, x⟩
  go_enter Tryz.func130, Tryz.ntmps130
  go_wp2
  go_ret
  exact ⟨rfl, rfl⟩
 ·go_enter Tryz.func130, Tryz.ntmps130
  go_wp2
  go_ret
  exact ⟨rfl, rfl⟩
theorem s_mul (a b : Int) (w : World) (h1 : 0 ≤ a) (h2 : a < 2147483647) (h3 : 0 ≤ b) (h4 : b < 2147483647) :
  Calls Tryz.prog 128 #[.int .i64 a, .int .i64 b] w fun e w' => e = .returned (.int .i64 (mulP a b)) ∧ w = w' := by
 obtain ⟨hb, hb'⟩ := mul_bd h1 h2 h3 h4
 go_enter Tryz.func128, Tryz.ntmps128
 go_wp2
 go_ret
 exact ⟨rfl, rfl⟩
theorem s_pow (a n : Int) (w : World) (h1 : 0 ≤ a) (h2 : a < 2147483647) (h3 : 0 ≤ n) (h4 : n ≤ 9223372036854775807) :
  Calls Tryz.prog 91 #[.int .i64 a, .int .i64 n] w fun e w' => e = .returned (.int .i64 (powP a n.toNat)) ∧ w = w' := by
 go_enter Tryz.func91, Tryz.ntmps91
 go_wp2
 go_loop [0, 1, 5] (fun x m r => ∃ (x' r' : Int) (k : Nat), x = .int .i64 x' ∧ m = .int .i64 k ∧ r = .int .i64 r' ∧ 0 ≤ x' ∧ x' < 2147483647 ∧ 0 ≤ r' ∧ r' < 2147483647 ∧ (k : Int) ≤ 9223372036854775807 ∧ pw r' x' k = powP a n.toNat)
  (fun _ m _ => (RowKit.intOf m).toNat)
 case atStart => exact ⟨a, 1, n.toNat, rfl, by rw [Int.toNat_of_nonneg h3], rfl, h1, h2, by omega, by omega, by omega, pw_start⟩
 case round =>
  obtain ⟨x', r', k, rfl, rfl, rfl, hx1, hx2, hr1, hr2, hk, he⟩ := hrel
  have HE := Lib.hid he
  clear he
  by_cases hz : k = 0
  ·subst hz
   go_wp2
   go_ret
   exact ⟨ret_i64 (by rw [← HE.out, pw_end hr1 hr2]), rfl⟩
  ·have hp : 0 < k := by omega
   by_cases ho : k % 2 = 1
   ·have HO := Lib.hid (pw_odd r' x' k ho)
    have g1 := mulP_rg r' x'
    have g2 := mulP_rg x' x'
    go_wp2_with (go_at_call 128; refine (s_mul _ _ _ (by assumption) (by assumption) (by assumption) (by assumption)).mono ?_; rintro e w' ⟨rfl, rfl⟩)
    go_round
    case rel => exact ⟨_, _, k / 2, rfl, by go_num, rfl, g2.1, g2.2, g1.1, g1.2, by omega, by rw [HO.out, HE.out]⟩
    case measure => simp [RowKit.intOf]; omega
   ·have HO := Lib.hid (pw_even r' x' k (by omega))
    have g2 := mulP_rg x' x'
    go_wp2_with (go_at_call 128; refine (s_mul _ _ _ (by assumption) (by assumption) (by assumption) (by assumption)).mono ?_; rintro e w' ⟨rfl, rfl⟩)
    go_round
    case rel => exact ⟨_, _, k / 2, rfl, by go_num, rfl, g2.1, g2.2, hr1, hr2, by omega, by rw [HO.out, HE.out]⟩
    case measure => simp [RowKit.intOf]; omega
theorem s_sec_t (a : Int) (w : World) (h : Sec a) :
  Calls Tryz.prog 92 #[.int .i64 a] w fun e w' => e = .returned (.bool true) ∧ w = w' := by
 have h1 := h.lo
 have h2 := h.hi
 go_enter Tryz.func92, Tryz.ntmps92
 go_wp2
 go_ret
 exact ⟨ret_bool (by simp; try omega), rfl⟩
theorem s_sec_f (a : Int) (w : World) (h : NoSec a) :
  Calls Tryz.prog 92 #[.int .i64 a] w fun e w' => e = .returned (.bool false) ∧ w = w' := by
 by_cases h1 : 1 ≤ a
 ·have h2 : ¬ a < 2147483646 := fun x => h ⟨h1, x⟩
  go_enter Tryz.func92, Tryz.ntmps92
  go_wp2
  go_ret
  exact ⟨ret_bool (by simp; try omega), rfl⟩
 ·go_enter Tryz.func92, Tryz.ntmps92
  go_wp2
  go_ret
  exact ⟨ret_bool (by simp; try omega), rfl⟩
end Go.Proofs.YtkdanlnhdgcplaaGreat
namespace Go.Proofs.YtkdanlnhdgcplaaGreat
set_option maxRecDepth 100000
open Go.ChangeShapes Go.WideShapes Go.ChangeAt Go.RowKit

theorem bel_alloc {w w' : World} (h : Bel w w') (o : Obj) : Bel w (w'.alloc o) := h.alloc h.size o
theorem bel_put {w w' : World} (h : Bel w w') {p : Addr} (hp : w.heap.size ≤ p.block) (u : Value) : Bel w (w'.setCell p u) := h.setCell hp u
theorem bel_drew {w w' : World} (h : Bel w w') : Bel w w'.drew := h.drew
theorem belx {w w' : World} (h : Below w.heap.size w w' := by repeat (first | (with_reducible exact Below.refl _ _) | (with_reducible assumption) | (with_reducible refine bel_alloc ?_ _) | (with_reducible refine bel_drew ?_) | (with_reducible refine below_drewN ?_ _) | (with_reducible refine bel_put ?_ (by first | exact Nat.le_refl _ | (simp; done) | (simp; omega)) _))) : Below w.heap.size w w' := h
theorem qa_ {α : Type} (l : List α) (i : Nat) (a : α) : l.toArray.setIfInBounds i a = (l.set i a).toArray := List.setIfInBounds_toArray ..
theorem qb_ {α : Type} (a : α) (xs : List α) (b : α) : (a :: xs).set 0 b = b :: xs := rfl
theorem qc_ {α : Type} (a : α) (xs : List α) (n : Nat) (b : α) : (a :: xs).set (n + 1) b = a :: xs.set n b := rfl
theorem bel_trans {a w w' : World} (h : Bel a w) (h' : Bel w w') : Bel a w' := h.trans (h'.mono h.size)
theorem reach {k : IntKind} {w w' : World} {A : Option Addr} {n : Nat} {l : List Int} (h : Ints k w w.heap.size A n l) (hB : Bel w w') : Ints k w' w'.heap.size A n l := (h.below hB).up hB.size
theorem getDtk {l : List Int} {n i : Nat} (h : i < n) : (l.take n).getD i 0 = l.getD i 0 := by
 rw [List.getD_eq_getElem?_getD, List.getElem?_take, if_pos h, List.getD_eq_getElem?_getD]
theorem Ints.head {k : IntKind} {w : World} {B n : Nat} {A : Option Addr} {l : List Int} (h : Ints k w B A n l) (m : Nat) (hm : m ≤ n) : Ints k w B A m (l.take m) := by
 refine ⟨by rw [List.length_take, h.1]; omega, fun h0 => ?_, fun x hx => h.2.2 x (List.mem_of_mem_take hx)⟩
 obtain ⟨b, off, e, hb, hc⟩ := h.2.1 (by omega)
 exact ⟨b, off, e, hb, fun i hi => by rw [Go.Proofs.YtkdanlnhdgcplaaGreat.getDtk hi]; exact hc i (by omega)⟩
theorem Own.far {k : IntKind} {e : TypeId} {w : World} {base g : Nat} {v : Value} {l : List Int} (h : Own k e w base v l) (hg : g < base) (j : Nat) (u : Value) : Own k e (w.setCell ⟨g, j, none⟩ u) base v l :=
 h.kept (gb_put (World.grownBy.refl _ _) j u) (by
  cases hv : v.ownBlock with
  | none => exact .inl rfl
  | some b => exact .inr (fun e => by have := (h.block hv).1; injection e; omega))
theorem cell_bel {w w' : World} {b o : Nat} {v : Value} (h : Bel w w') (hc : w.cell? ⟨b, o, none⟩ = some v) : w'.cell? ⟨b, o, none⟩ = some v :=
 (World.cell?_of_block (h.block b (World.block_lt_of_cell? w _ hc))).trans hc
theorem l_toByteS' {w : World} {n c : Nat} {A : Option Addr} {l : List Int} (hl : Ints .u8 w w.heap.size A n l) (hn : n ≤ 140737488351232) :
  Calls Tryz.prog 8 #[.slice A n c] w fun e w' => ∃ b, e = .returned (.slice (some ⟨b, 0, none⟩) n n) ∧ Own .u8 5 w' w.heap.size (.slice (some ⟨b, 0, none⟩) n n) l ∧ Bel w w' :=
 (l_toByteS hl hn).mono fun _ _ h => ⟨_, h⟩
theorem l_toIntS' {w : World} {n c : Nat} {A : Option Addr} {l : List Int} (hl : Ints .i64 w w.heap.size A n l) (hn : n ≤ 17592186043904) :
  Calls Tryz.prog 135 #[.slice A n c] w fun e w' => ∃ b, e = .returned (.slice (some ⟨b, 0, none⟩) n n) ∧ Own .i64 3 w' w.heap.size (.slice (some ⟨b, 0, none⟩) n n) l ∧ Bel w w' :=
 (l_toIntS hl hn).mono fun _ _ h => ⟨_, h⟩
end Go.Proofs.YtkdanlnhdgcplaaGreat
namespace Go.Proofs.YtkdanlnhdgcplaaGreat
set_option linter.unusedVariables false
open Go.RowKit

structure Only (F : List Nat) (w w' : World) : Prop where
 os : w'.os = w.os
 tape : w'.tape = w.tape
 output : w'.output = w.output
 size : w.heap.size ≤ w'.heap.size
 block : ∀ b, b < w.heap.size → b ∉ F → w'.heap[b]? = w.heap[b]?
section
variable {F G : List Nat} {a b c w w' : World} {B : Nat}
theorem Only.refl (F : List Nat) (w : World) : Only F w w := ⟨rfl, rfl, rfl, Nat.le_refl _, fun _ _ _ => rfl⟩
theorem Only.trans (h : Only F a b) (k : Only F b c) : Only F a c :=
 ⟨k.os.trans h.os, k.tape.trans h.tape, k.output.trans h.output, Nat.le_trans h.size k.size, fun i hi hn => (k.block i (Nat.lt_of_lt_of_le hi h.size) hn).trans (h.block i hi hn)⟩
theorem Only.mono (h : Only F a b) (hs : ∀ x ∈ F, x ∈ G) : Only G a b := ⟨h.os, h.tape, h.output, h.size, fun i hi hn => h.block i hi fun hx => hn (hs _ hx)⟩
theorem Only.drewN (h : Only F a w) (n : Nat) : Only F a (w.drewN n) := ⟨h.os, h.tape, h.output, h.size, h.block⟩
theorem Only.drew (h : Only F a w) : Only F a w.drew := ⟨h.os, h.tape, h.output, h.size, h.block⟩
theorem Only.alloc (h : Only F a w) (o : Obj) : Only F a (w.alloc o) :=
 ⟨h.os, h.tape, h.output, Nat.le_trans h.size (by simp), fun i hi hn => (Below.heap_alloc w o i (Nat.lt_of_lt_of_le hi h.size)).trans (h.block i hi hn)⟩
theorem Only.put (h : Only F a w) {p : Addr} (hp : p.block ∈ F ∨ a.heap.size ≤ p.block) (u : Value) : Only F a (w.setCell p u) :=
 ⟨h.os, h.tape, h.output, by simpa [World.setCell] using h.size, fun i hi hn => (Below.heap_setCell w p u i (by
  rintro rfl
  rcases hp with hp | hp
  ·exact hn hp
  ·omega)).trans (h.block i hi hn)⟩
theorem Only.below (h : Only F a w) (hF : ∀ f ∈ F, B ≤ f) (hB : B ≤ a.heap.size) : Below B a w :=
 ⟨h.os, h.tape, h.output, h.size, fun k hk => h.block k (by omega) fun hx => by have := hF k hx; omega⟩
theorem Only.nil (h : Only [] a w) : Bel a w := h.below (fun f hf => absurd hf (by simp)) (Nat.le_refl _)
theorem Only.since (h : Bel a w) (k : Only F w w') (hF : ∀ f ∈ F, a.heap.size ≤ f) : Bel a w' :=
 h.trans (k.below hF h.size)
end

structure Ty (α : Type) where
 k : Nat
 R : World → Nat → List Value → α → Prop
 O : World → List Value → α → List Nat → Prop
 lenR : ∀ {w B cs a}, R w B cs a → cs.length = k
 lenO : ∀ {w cs a F}, O w cs a F → cs.length = k
 keep : ∀ {w w' B cs a}, R w B cs a → (∀ b, b < B → w'.heap[b]? = w.heap[b]?) → R w' B cs a
 up : ∀ {w B B' cs a}, R w B cs a → B ≤ B' → R w B' cs a
 kept : ∀ {w w' cs a F}, O w cs a F → (∀ f ∈ F, w'.heap[f]? = w.heap[f]?) → O w' cs a F
 lt : ∀ {w cs a F}, O w cs a F → ∀ f ∈ F, f < w.heap.size
 read : ∀ {w cs a F}, O w cs a F → R w w.heap.size cs a
section
variable {α β : Type} {t : Ty α} {w w' : World} {B B' : Nat} {cs : List Value} {a : α} {F G : List Nat}
theorem Ty.reach (h : t.R w w.heap.size cs a) (hB : Bel w w') : t.R w' w'.heap.size cs a := t.up (t.keep h hB.block) hB.size
theorem Ty.below (h : t.O w cs a F) (hB : Bel w w') : t.O w' cs a F := t.kept h fun f hf => hB.block f (t.lt h f hf)
theorem Ty.only (h : t.O w cs a F) (hG : Only G w w') (hd : ∀ f ∈ F, f ∉ G) : t.O w' cs a F := t.kept h fun f hf => hG.block f (t.lt h f hf) (hd f hf)
def New (B : Nat) (F : List Nat) : Prop := F.Nodup ∧ ∀ f ∈ F, B ≤ f
theorem New.nil (B : Nat) : New B [] := ⟨List.nodup_nil, fun f hf => absurd hf (by simp)⟩
theorem New.lower (h : New B F) (hB : B' ≤ B) : New B' F := ⟨h.1, fun f hf => Nat.le_trans hB (h.2 f hf)⟩
theorem New.app (h : New B F) (k : New B' G) (hB : B ≤ B') (hF : ∀ f ∈ F, f < B') : New B (F ++ G) := by
 refine ⟨List.nodup_append.2 ⟨h.1, k.1, fun x hx y hy e => ?_⟩, fun f hf => ?_⟩
 ·have h1 := hF x hx; have h2 := k.2 y hy; omega
 ·rcases List.mem_append.1 hf with h' | h'
  ·exact h.2 f h'
  ·exact Nat.le_trans hB (k.2 f h')
theorem New.apart (h : New B F) (hG : ∀ f ∈ G, f < B) : ∀ f ∈ F, f ∉ G := fun f hf hx => by have := h.2 f hf; have := hG f hx; omega
end

/-! ### numbers -/
def tInt : Ty Int where
 k := 1
 R := fun _ _ cs x => cs = [.int .i64 x] ∧ (Lit.int .i64 x).wf = true
 O := fun _ cs x F => cs = [.int .i64 x] ∧ (Lit.int .i64 x).wf = true ∧ F = []
 lenR := fun h => by rw [h.1]; rfl
 lenO := fun h => by rw [h.1]; rfl
 keep := fun h _ => h
 up := fun h _ => h
 kept := fun h _ => h
 lt := fun h f hf => by rw [h.2.2] at hf; exact absurd hf (by simp)
 read := fun h => ⟨h.1, h.2.1⟩

/-! ### slices of numbers -/
def sliceR (K : IntKind) (w : World) (B : Nat) (cs : List Value) (l : List Int) : Prop := ∃ A n c, cs = [.slice A n c] ∧ n ≤ c ∧ c ≤ 9223372036854775807 ∧ Ints K w B A n l
def sliceO (K : IntKind) (w : World) (cs : List Value) (l : List Int) (F : List Nat) : Prop :=
 (∃ A c, cs = [.slice A 0 c] ∧ c ≤ 9223372036854775807 ∧ l = [] ∧ F = []) ∨
 ∃ g off c cur t, cs = [.slice (some ⟨g, off, none⟩) l.length c] ∧ 0 < l.length ∧ l.length ≤ c ∧ c ≤ 9223372036854775807 ∧ w.heap[g]? = some (.cells cur t (0, 0)) ∧ (∀ i, i < l.length → cur[off + i]? = some (.int K (l.getD i 0))) ∧ (∀ x ∈ l, (Lit.int K x).wf = true) ∧ F = [g]
theorem sliceO.read {K : IntKind} {w : World} {cs : List Value} {l : List Int} {F : List Nat} (h : sliceO K w cs l F) : sliceR K w w.heap.size cs l := by
 rcases h with ⟨A, c, h1, h2, rfl, _⟩ | ⟨g, off, c, cur, t, h1, h2, h3, h4, h5, h6, h7, _⟩
 ·exact ⟨A, 0, c, h1, Nat.zero_le _, h2, Ints.nil⟩
 ·refine ⟨_, _, c, h1, h3, h4, rfl, fun _ => ⟨g, off, rfl, Box.size (t := t) h5, fun i hi => ?_⟩, h7⟩
  rw [Box.cell (t := t) h5]; exact h6 i hi
def tSl (K : IntKind) : Ty (List Int) where
 k := 1
 R := sliceR K
 O := sliceO K
 lenR := fun h => by obtain ⟨A, n, c, h1, _⟩ := h; rw [h1]; rfl
 lenO := fun h => by rcases h with ⟨A, c, h1, _⟩ | ⟨g, off, c, cur, t, h1, _⟩ <;> rw [h1] <;> rfl
 keep := fun h hk => by obtain ⟨A, n, c, h1, h2, h3, h4⟩ := h; exact ⟨A, n, c, h1, h2, h3, h4.keep hk⟩
 up := fun h hB => by obtain ⟨A, n, c, h1, h2, h3, h4⟩ := h; exact ⟨A, n, c, h1, h2, h3, h4.up hB⟩
 kept := fun h hk => by
  rcases h with h | ⟨g, off, c, cur, t, h1, h2, h3, h4, h5, h6, h7, rfl⟩
  ·exact .inl h
  ·exact .inr ⟨g, off, c, cur, t, h1, h2, h3, h4, (hk g (by simp)).trans h5, h6, h7, rfl⟩
 lt := fun h f hf => by
  rcases h with ⟨A, c, _, _, _, rfl⟩ | ⟨g, off, c, cur, t, h1, h2, h3, h4, h5, h6, h7, rfl⟩
  ·exact absurd hf (by simp)
  ·rw [List.mem_singleton] at hf; rw [hf]; exact Box.size (t := t) h5
 read := sliceO.read
abbrev tBy : Ty (List Int) := tSl .u8
abbrev tIs : Ty (List Int) := tSl .i64
theorem Own.tSl {K : IntKind} {e : TypeId} {w : World} {base : Nat} {v : Value} {l : List Int} (h : Own K e w base v l) : ∃ F, (tSl K).O w [v] l F ∧ New base F := by
 rcases h.1.2 with ⟨rfl, h0⟩ | ⟨g, cap, cur, rfl, hb, hg, hn, hm, hs, ht⟩
 ·have : l = [] := List.eq_nil_of_length_eq_zero h0
  subst this
  exact ⟨[], .inl ⟨none, 0, rfl, by omega, rfl, rfl⟩, New.nil _⟩
 ·by_cases h0 : l.length = 0
  ·have : l = [] := List.eq_nil_of_length_eq_zero h0
   subst this
   exact ⟨[], .inl ⟨_, cap, rfl, hm, rfl, rfl⟩, New.nil _⟩
  ·refine ⟨[g], .inr ⟨g, 0, cap, cur, e, rfl, by omega, hn, hm, hg, fun i hi => ?_, h.2, rfl⟩, ⟨by simp, fun f hf => by rw [List.mem_singleton] at hf; omega⟩⟩
   have h4 : (l.map (Value.int K))[i]? = some (.int K (l.getD i 0)) := by rw [List.getElem?_map, List.getD_eq_getElem?_getD, List.getElem?_eq_getElem hi]; rfl
   rw [← h4, ← ht, List.getElem?_take, if_pos (by omega), Nat.zero_add]
   simp
/-! ### structs -/
def Ty.prod {α β : Type} (s : Ty α) (t : Ty β) : Ty (α × β) where
 k := s.k + t.k
 R := fun w B cs p => ∃ c1 c2, cs = c1 ++ c2 ∧ s.R w B c1 p.1 ∧ t.R w B c2 p.2
 O := fun w cs p F => ∃ c1 c2 F1 F2, cs = c1 ++ c2 ∧ F = F1 ++ F2 ∧ s.O w c1 p.1 F1 ∧ t.O w c2 p.2 F2
 lenR := fun h => by obtain ⟨c1, c2, rfl, h1, h2⟩ := h; rw [List.length_append, s.lenR h1, t.lenR h2]
 lenO := fun h => by obtain ⟨c1, c2, F1, F2, rfl, rfl, h1, h2⟩ := h; rw [List.length_append, s.lenO h1, t.lenO h2]
 keep := fun h hk => by obtain ⟨c1, c2, rfl, h1, h2⟩ := h; exact ⟨c1, c2, rfl, s.keep h1 hk, t.keep h2 hk⟩
 up := fun h hB => by obtain ⟨c1, c2, rfl, h1, h2⟩ := h; exact ⟨c1, c2, rfl, s.up h1 hB, t.up h2 hB⟩
 kept := fun h hk => by
  obtain ⟨c1, c2, F1, F2, rfl, rfl, h1, h2⟩ := h
  exact ⟨c1, c2, F1, F2, rfl, rfl, s.kept h1 fun f hf => hk f (List.mem_append.2 (.inl hf)), t.kept h2 fun f hf => hk f (List.mem_append.2 (.inr hf))⟩
 lt := fun h f hf => by
  obtain ⟨c1, c2, F1, F2, rfl, rfl, h1, h2⟩ := h
  rcases List.mem_append.1 hf with h' | h'
  ·exact s.lt h1 f h'
  ·exact t.lt h2 f h'
 read := fun h => by obtain ⟨c1, c2, F1, F2, rfl, rfl, h1, h2⟩ := h; exact ⟨c1, c2, rfl, s.read h1, t.read h2⟩

/-! ### slices of structs -/
def Ty.rowR {α : Type} (t : Ty α) (w : World) (B : Nat) (cs : List Value) (l : List α) : Prop :=
 ∃ A n c, cs = [.slice A n c] ∧ n ≤ c ∧ c ≤ 9223372036854775807 ∧ l.length = n ∧ (0 < n → ∃ b off, A = some ⟨b, off, none⟩ ∧ b < B ∧
  ∀ i a, l[i]? = some a → ∃ es, (∀ j, j < t.k → w.cell? ⟨b, off + i * t.k + j, none⟩ = es[j]?) ∧ t.R w B es a)
def Ty.rowO {α : Type} (t : Ty α) (w : World) (cs : List Value) (l : List α) (F : List Nat) : Prop :=
 (∃ A c, cs = [.slice A 0 c] ∧ c ≤ 9223372036854775807 ∧ l = [] ∧ F = []) ∨
 ∃ (g off c : Nat) (cur : Array Value) (e : TypeId) (Fs : List (List Nat)), cs = [.slice (some ⟨g, off, none⟩) l.length c] ∧ 0 < l.length ∧ l.length ≤ c ∧ c ≤ 9223372036854775807 ∧ w.heap[g]? = some (.cells cur e (0, 0)) ∧ Fs.length = l.length ∧ F = g :: Fs.flatten ∧
  ∀ i a Fi, l[i]? = some a → Fs[i]? = some Fi → ∃ es, (∀ j, j < t.k → cur[off + i * t.k + j]? = es[j]?) ∧ t.O w es a Fi
theorem mem_flat {Fs : List (List Nat)} {i : Nat} {Fi : List Nat} (h : Fs[i]? = some Fi) {f : Nat} (hf : f ∈ Fi) : f ∈ Fs.flatten :=
 List.mem_flatten.2 ⟨Fi, List.mem_of_getElem? h, hf⟩
theorem Ty.rowO_read {α : Type} {t : Ty α} {w : World} {cs : List Value} {l : List α} {F : List Nat} (h : t.rowO w cs l F) : t.rowR w w.heap.size cs l := by
 rcases h with ⟨A, c, h1, h2, rfl, _⟩ | ⟨g, off, c, cur, e, Fs, h1, h2, h3, h4, h5, h6, h7, h8⟩
 ·exact ⟨A, 0, c, h1, Nat.zero_le _, h2, rfl, fun h => absurd h (by omega)⟩
 ·refine ⟨_, _, c, h1, h3, h4, rfl, fun _ => ⟨g, off, rfl, Box.size (t := e) h5, fun i a hi => ?_⟩⟩
  have hl : i < Fs.length := by rw [h6]; exact (List.getElem?_eq_some_iff.1 hi).1
  obtain ⟨es, k1, k2⟩ := h8 i a _ hi (List.getElem?_eq_getElem hl)
  exact ⟨es, fun j hj => by rw [Box.cell (t := e) h5]; exact k1 j hj, t.read k2⟩
def Ty.row {α : Type} (t : Ty α) : Ty (List α) where
 k := 1
 R := t.rowR
 O := t.rowO
 lenR := fun h => by obtain ⟨A, n, c, h1, _⟩ := h; rw [h1]; rfl
 lenO := fun h => by rcases h with ⟨A, c, h1, _⟩ | ⟨g, off, c, cur, e, Fs, h1, _⟩ <;> rw [h1] <;> rfl
 keep := fun h hk => by
  obtain ⟨A, n, c, h1, h2, h3, h4, h5⟩ := h
  refine ⟨A, n, c, h1, h2, h3, h4, fun h0 => ?_⟩
  obtain ⟨b, off, e, hb, hc⟩ := h5 h0
  refine ⟨b, off, e, hb, fun i a hi => ?_⟩
  obtain ⟨es, k1, k2⟩ := hc i a hi
  exact ⟨es, fun j hj => (World.cell?_of_block (hk _ hb)).trans (k1 j hj), t.keep k2 hk⟩
 up := fun h hB => by
  obtain ⟨A, n, c, h1, h2, h3, h4, h5⟩ := h
  refine ⟨A, n, c, h1, h2, h3, h4, fun h0 => ?_⟩
  obtain ⟨b, off, e, hb, hc⟩ := h5 h0
  refine ⟨b, off, e, Nat.lt_of_lt_of_le hb hB, fun i a hi => ?_⟩
  obtain ⟨es, k1, k2⟩ := hc i a hi
  exact ⟨es, k1, t.up k2 hB⟩
 kept := fun h hk => by
  rcases h with h | ⟨g, off, c, cur, e, Fs, h1, h2, h3, h4, h5, h6, rfl, h8⟩
  ·exact .inl h
  ·refine .inr ⟨g, off, c, cur, e, Fs, h1, h2, h3, h4, (hk g (by simp)).trans h5, h6, rfl, fun i a Fi hi hF => ?_⟩
   obtain ⟨es, k1, k2⟩ := h8 i a Fi hi hF
   exact ⟨es, k1, t.kept k2 fun f hf => hk f (List.mem_cons_of_mem _ (mem_flat hF hf))⟩
 lt := fun h f hf => by
  rcases h with ⟨A, c, _, _, _, rfl⟩ | ⟨g, off, c, cur, e, Fs, h1, h2, h3, h4, h5, h6, rfl, h8⟩
  ·exact absurd hf (by simp)
  ·rcases List.mem_cons.1 hf with rfl | hf
   ·exact Box.size (t := e) h5
   ·obtain ⟨Fi, hFi, hfi⟩ := List.mem_flatten.1 hf
    obtain ⟨i, hi, e1⟩ := List.getElem_of_mem hFi
    have hi' : i < _ := h6 ▸ hi
    obtain ⟨es, _, k2⟩ := h8 i _ Fi (List.getElem?_eq_getElem hi') (by rw [List.getElem?_eq_getElem hi, e1])
    exact t.lt k2 f hfi
 read := Ty.rowO_read
end Go.Proofs.YtkdanlnhdgcplaaGreat
namespace Go.Proofs.YtkdanlnhdgcplaaGreat
set_option linter.unusedVariables false
section
variable {α : Type}
def rsum (c : α → Nat) : List α → Nat
 | [] => 0
 | a :: l => c a + rsum c l
def rmk (c : α → Nat) (m : Int → α → α) : Int → List α → List α
 | _, [] => []
 | k, a :: l => m k a :: rmk c m (k + c a) l
def rpart (c : α → Nat) (m : Int → α → α) (k : Int) (l : List α) (i : Nat) : List α := rmk c m k (l.take i) ++ l.drop i
def rsz (s : α → Nat) (l : List α) : Nat := l.length + rsum s l
variable {c s : α → Nat} {m : Int → α → α} {k : Int} {l l' : List α} {i : Nat} {a : α}
theorem rsum_app : rsum c (l ++ l') = rsum c l + rsum c l' := by
 induction l with
 | nil => simp [rsum]
 | cons b l ih => simp only [List.cons_append, rsum, ih]; omega
theorem rsum_take_le (c : α → Nat) (l : List α) (i : Nat) : rsum c (l.take i) ≤ rsum c l := by
 have h := rsum_app (c := c) (l := l.take i) (l' := l.drop i)
 rw [List.take_append_drop] at h; omega
theorem take_sn (h : l[i]? = some a) : l.take (i + 1) = l.take i ++ [a] := by
 rw [List.take_add_one, h]; rfl
theorem rsum_sn (h : l[i]? = some a) : rsum c (l.take (i + 1)) = rsum c (l.take i) + c a := by
 rw [take_sn h, rsum_app]; simp [rsum]
theorem rsum_at (h : l[i]? = some a) : rsum c (l.take i) + c a ≤ rsum c l := by
 rw [← rsum_sn h]; exact rsum_take_le _ _ _
theorem rsum_zero : rsum c (l.take 0) = 0 := by simp [rsum]
theorem rsum_all (h : l.length ≤ i) : rsum c (l.take i) = rsum c l := by rw [List.take_of_length_le h]
theorem rmk_len (k : Int) (l : List α) : (rmk c m k l).length = l.length := by
 induction l generalizing k with
 | nil => rfl
 | cons b l ih => simp [rmk, ih]
theorem rmk_app : rmk c m k (l ++ l') = rmk c m k l ++ rmk c m (k + rsum c l) l' := by
 induction l generalizing k with
 | nil => simp [rmk, rsum]
 | cons b l ih =>
  simp only [List.cons_append, rmk, rsum, ih]
  rw [show k + ((c b + rsum c l : Nat) : Int) = k + (c b : Int) + (rsum c l : Int) by omega]
theorem rmk_at (h : l[i]? = some a) : (rmk c m k l)[i]? = some (m (k + rsum c (l.take i)) a) := by
 induction l generalizing k i with
 | nil => simp at h
 | cons b l ih =>
  cases i with
  | zero => simp only [List.getElem?_cons_zero, Option.some.injEq] at h; subst h; simp [rmk, rsum]
  | succ i =>
   simp only [List.getElem?_cons_succ] at h
   simp only [rmk, List.getElem?_cons_succ, List.take_succ_cons, rsum, ih h]
   rw [show k + ((c b + rsum c (l.take i) : Nat) : Int) = k + (c b : Int) + (rsum c (l.take i) : Int) by omega]
theorem rpart_zero : rpart c m k l 0 = l := by simp [rpart, rmk]
theorem rpart_all (h : l.length ≤ i) : rpart c m k l i = rmk c m k l := by
 unfold rpart; rw [List.take_of_length_le h, List.drop_eq_nil_of_le h, List.append_nil]
theorem rpart_at (h : l[i]? = some a) : (rpart c m k l i)[i]? = some a := by
 have hi := (List.getElem?_eq_some_iff.1 h).1
 unfold rpart
 rw [List.getElem?_append_right (by rw [rmk_len, List.length_take]; omega), rmk_len, List.length_take, Nat.min_eq_left (by omega), Nat.sub_self, List.getElem?_drop, Nat.add_zero, h]
theorem rpart_set (h : l[i]? = some a) : (rpart c m k l i).set i (m (k + rsum c (l.take i)) a) = rpart c m k l (i + 1) := by
 have hi := (List.getElem?_eq_some_iff.1 h).1
 have hl : (rmk c m k (l.take i)).length = i := by rw [rmk_len, List.length_take]; omega
 unfold rpart
 rw [List.set_append_right _ _ (by omega), hl, Nat.sub_self, take_sn h, rmk_app, List.append_assoc]
 congr 1
 have e : l.drop i = a :: l.drop (i + 1) := by
  rw [List.drop_eq_getElem_cons hi]
  have := List.getElem?_eq_getElem hi
  rw [h] at this
  rw [← Option.some.inj this]
 rw [e]
 simp [rmk]
theorem rsz_le (l : List α) : l.length ≤ rsz s l := by unfold rsz; omega
theorem rsum_M {M : Nat} (h : ∀ a, c a ≤ M + M * s a) (l : List α) : rsum c l ≤ M * rsz s l := by
 induction l with
 | nil => simp [rsum]
 | cons b l ih =>
  have := h b
  simp only [rsum, rsz, List.length_cons] at ih ⊢
  rw [Nat.mul_add] at ih
  rw [Nat.mul_add, Nat.mul_add, Nat.mul_add]
  omega
theorem rsz_step (h : l[i]? = some a) : l.length + rsum s (l.take i) + s a ≤ rsz s l := by
 have := rsum_at (c := s) h; unfold rsz; omega
end
end Go.Proofs.YtkdanlnhdgcplaaGreat
namespace Go.Proofs.YtkdanlnhdgcplaaGreat
set_option linter.unusedVariables false
open Go.RowKit
section
variable {α : Type} {t : Ty α} {w w' : World} {B n c i K : Nat} {A : Option Addr} {v : Value} {l : List α} {a a' : α} {F Fi G : List Nat} {es es' : List Value}

theorem rowR_len (h : t.rowR w B [.slice A n c] l) : l.length = n ∧ n ≤ c ∧ c ≤ 9223372036854775807 := by
 obtain ⟨A', n', c', h1, h2, h3, h4, _⟩ := h
 injection h1 with h1 _
 injection h1 with e1 e2 e3
 subst e1 e2 e3
 exact ⟨h4, h2, h3⟩
theorem rowR_at (h : t.rowR w B [.slice A n c] l) (hi : i < n) (hK : t.k = K) : ∃ a b off es, l[i]? = some a ∧ A = some ⟨b, off, none⟩ ∧ b < B ∧ (∀ j, j < K → w.cell? ⟨b, off + i * K + j, none⟩ = es[j]?) ∧ t.R w B es a := by
 obtain ⟨A', n', c', h1, h2, h3, h4, h5⟩ := h
 injection h1 with h1 _
 injection h1 with e1 e2 e3
 subst e1 e2 e3 hK
 obtain ⟨b, off, e, hb, hc⟩ := h5 (by omega)
 have hl : l[i]? = some (l[i]'(by omega)) := List.getElem?_eq_getElem (by omega)
 obtain ⟨es, k1, k2⟩ := hc i _ hl
 exact ⟨_, b, off, es, hl, e, hb, k1, k2⟩
theorem rowO_shape (h : t.rowO w [v] l F) : ∃ A c, v = .slice A l.length c ∧ l.length ≤ c ∧ c ≤ 9223372036854775807 := by
 rcases h with ⟨A, c, h1, h2, rfl, _⟩ | ⟨g, off, c, cur, e, Fs, h1, h2, h3, h4, _⟩
 ·injection h1 with h1 _; exact ⟨A, c, h1, Nat.zero_le _, h2⟩
 ·injection h1 with h1 _; exact ⟨_, c, h1, h3, h4⟩
theorem flat_apart {g : Nat} {Fs : List (List Nat)} (h : (g :: Fs.flatten).Nodup) {i j : Nat} {Fi Fj : List Nat} (hi : Fs[i]? = some Fi) (hj : Fs[j]? = some Fj) (hne : i ≠ j) : ∀ f ∈ Fi, f ∉ Fj := by
 induction Fs generalizing i j with
 | nil => simp at hi
 | cons F0 Fs ih =>
  simp only [List.flatten_cons] at h
  rw [List.nodup_cons] at h
  obtain ⟨h0, h1⟩ := h
  rw [List.nodup_append] at h1
  obtain ⟨h1, h2, h3⟩ := h1
  have h4 : (g :: Fs.flatten).Nodup := List.nodup_cons.2 ⟨fun hx => h0 (List.mem_append.2 (.inr hx)), h2⟩
  intro f hf hg
  cases i with
  | zero =>
   cases j with
   | zero => exact hne rfl
   | succ j =>
    simp at hi hj; subst hi
    exact h3 f hf f (mem_flat hj hg) rfl
  | succ i =>
   cases j with
   | zero =>
    simp at hi hj; subst hj
    exact h3 f hg f (mem_flat hi hf) rfl
   | succ j =>
    simp at hi hj
    exact ih h4 hi hj (fun e => hne (by rw [e])) f hf hg
theorem rowO_at (h : t.rowO w [.slice A n c] l F) (hF : F.Nodup) (hl : l[i]? = some a) (hK : t.k = K) :
  ∃ g off cur e es Fi, A = some ⟨g, off, none⟩ ∧ w.heap[g]? = some (.cells cur e (0, 0)) ∧ (∀ j, j < K → cur[off + i * K + j]? = es[j]?) ∧ t.O w es a Fi ∧ g ∈ F ∧ g ∉ Fi ∧ (∀ f ∈ Fi, f ∈ F) ∧ Fi.Nodup ∧
   ∀ w' cur' es' a', w'.heap[g]? = some (.cells cur' e (0, 0)) → (∀ j, j < K → cur'[off + i * K + j]? = es'[j]?) → (∀ q, (∀ j, j < K → q ≠ off + i * K + j) → cur'[q]? = cur[q]?) →
    t.O w' es' a' Fi → (∀ f ∈ F, f ≠ g → f ∉ Fi → w'.heap[f]? = w.heap[f]?) → t.rowO w' [.slice A n c] (l.set i a') F := by
 subst hK
 have hi : i < l.length := (List.getElem?_eq_some_iff.1 hl).1
 rcases h with ⟨A', c', h1, h2, rfl, _⟩ | ⟨g, off, c', cur, e, Fs, h1, h2, h3, h4, h5, h6, rfl, h8⟩
 ·simp at hl
 ·injection h1 with h1 _
  injection h1 with e1 e2 e3
  subst e1 e2 e3
  have hl' : i < Fs.length := by omega
  have hFi : Fs[i]? = some (Fs[i]'hl') := List.getElem?_eq_getElem hl'
  obtain ⟨es, k1, k2⟩ := h8 i a _ hl hFi
  have hgF : g ∉ Fs.flatten := (List.nodup_cons.1 hF).1
  have hnd : (Fs[i]'hl').Nodup := (List.pairwise_flatten.1 (List.nodup_cons.1 hF).2).1 _ (List.getElem_mem _)
  refine ⟨g, off, cur, e, es, Fs[i]'hl', rfl, h5, k1, k2, List.mem_cons_self, fun hx => hgF (mem_flat hFi hx), fun f hf => List.mem_cons_of_mem _ (mem_flat hFi hf), hnd, ?_⟩
  intro w' cur' es' a' m1 m2 m3 m4 m5
  refine .inr ⟨g, off, c, cur', e, Fs, by rw [List.length_set], by rw [List.length_set]; omega, by rw [List.length_set]; omega, h4, m1, by rw [List.length_set]; omega, rfl, ?_⟩
  intro i' a2 Fi2 q1 q2
  by_cases hii : i' = i
  ·subst hii
   rw [List.getElem?_set_self (by omega)] at q1
   injection q1 with q1
   subst q1
   rw [hFi] at q2
   injection q2 with q2
   subst q2
   exact ⟨es', m2, m4⟩
  ·rw [List.getElem?_set_ne (fun e => hii e.symm)] at q1
   obtain ⟨es2, p1, p2⟩ := h8 i' a2 Fi2 q1 q2
   refine ⟨es2, fun j hj => ?_, t.kept p2 fun f hf => ?_⟩
   ·rw [m3 _ fun j' hj' => ?_]
    ·exact p1 j hj
    ·intro hq
     have : i' * t.k + j = i * t.k + j' := by omega
     rcases Nat.lt_or_gt_of_ne hii with hlt | hlt
     ·have : (i' + 1) * t.k ≤ i * t.k := Nat.mul_le_mul_right _ hlt
      rw [Nat.succ_mul] at this; omega
     ·have : (i + 1) * t.k ≤ i' * t.k := Nat.mul_le_mul_right _ hlt
      rw [Nat.succ_mul] at this; omega
   ·exact m5 f (List.mem_cons_of_mem _ (mem_flat q2 hf)) (fun e => hgF (e ▸ mem_flat q2 hf)) (flat_apart hF q2 hFi hii f hf)
end
/-! ### cells written one behind the other -/
def puts (w : World) (g off : Nat) : List Value → World
 | [] => w
 | v :: vs => puts (w.setCell ⟨g, off, none⟩ v) g (off + 1) vs
theorem puts_far {w : World} {g off b : Nat} {vs : List Value} (h : b ≠ g) : (puts w g off vs).heap[b]? = w.heap[b]? := by
 induction vs generalizing w off with
 | nil => rfl
 | cons v vs ih => exact ih.trans (Below.heap_setCell w ⟨g, off, none⟩ v b h)
theorem puts_heap {w : World} {g off : Nat} {vs : List Value} {cur : Array Value} {e : TypeId} (h : w.heap[g]? = some (.cells cur e (0, 0))) :
  ∃ cur', (puts w g off vs).heap[g]? = some (.cells cur' e (0, 0)) ∧ cur'.size = cur.size ∧ (∀ q, q < off ∨ off + vs.length ≤ q → cur'[q]? = cur[q]?) ∧ (∀ j, j < vs.length → off + j < cur.size → cur'[off + j]? = vs[j]?) := by
 induction vs generalizing w off cur with
 | nil => exact ⟨cur, h, rfl, fun _ _ => rfl, fun j hj => absurd hj (by simp)⟩
 | cons v vs ih =>
  obtain ⟨cur', h1, h2, h3, h4⟩ := ih (off := off + 1) (Box.put (t := e) h off v)
  refine ⟨cur', h1, by rw [h2]; simp, fun q hq => ?_, fun j hj hs => ?_⟩
  ·simp only [List.length_cons] at hq
   rw [h3 q (by omega), Array.getElem?_setIfInBounds, if_neg (by omega)]
  ·simp only [List.length_cons] at hj
   cases j with
   | zero =>
    rw [h3 _ (by omega), Array.getElem?_setIfInBounds, if_pos (by omega), if_pos (by omega)]; rfl
   | succ j =>
    have := h4 j (by omega) (by simp; omega)
    rw [show off + (j + 1) = off + 1 + j by omega, this]; rfl
theorem below_puts {B : Nat} {a w : World} {g off : Nat} {vs : List Value} (h : Below B a w) (hg : B ≤ g) : Below B a (puts w g off vs) := by
 induction vs generalizing w off with
 | nil => exact h
 | cons v vs ih => exact ih (h.setCell hg v)
theorem only_puts {F : List Nat} {a w : World} {g off : Nat} {vs : List Value} (h : Only F a w) (hg : g ∈ F) : Only F a (puts w g off vs) := by
 induction vs generalizing w off with
 | nil => exact h
 | cons v vs ih => exact ih (h.put (.inl hg) v)
theorem size_puts {w : World} {g off : Nat} {vs : List Value} : (puts w g off vs).heap.size = w.heap.size := by
 induction vs generalizing w off with
 | nil => rfl
 | cons v vs ih => exact ih.trans (by simp [World.setCell])
section
variable {α : Type}
def Fill (t : Ty α) (w : World) (g : Nat) (e : TypeId) (n : Nat) (l : List α) (F : List Nat) : Prop :=
 ∃ (cur : Array Value) (Fs : List (List Nat)), w.heap[g]? = some (.cells cur e (0, 0)) ∧ cur.size = n * t.k ∧ l.length ≤ n ∧ Fs.length = l.length ∧ F = Fs.flatten ∧
  ∀ i a Fi, l[i]? = some a → Fs[i]? = some Fi → ∃ es, (∀ j, j < t.k → cur[i * t.k + j]? = es[j]?) ∧ t.O w es a Fi
variable {t : Ty α} {w w' : World} {g n : Nat} {e : TypeId} {l : List α} {F Fa : List Nat} {a : α} {es : List Value}
theorem Fill.start {cur : Array Value} (h : w.heap[g]? = some (.cells cur e (0, 0))) (hs : cur.size = n * t.k) : Fill t w g e n [] [] :=
 ⟨cur, [], h, hs, Nat.zero_le _, rfl, rfl, fun i a Fi hi => by simp at hi⟩
theorem Fill.cell (h : Fill t w g e n l F) (hl : l.length < n) {j K : Nat} (hK : t.k = K) (hj : j < K) : ∃ u, w.cell? ⟨g, l.length * K + j, none⟩ = some u := by
 subst hK
 obtain ⟨cur, Fs, h1, h2, _⟩ := h
 have : (l.length + 1) * t.k ≤ n * t.k := Nat.mul_le_mul_right _ hl
 rw [Nat.succ_mul] at this
 rw [Box.cell (t := e) h1, Array.getElem?_eq_getElem (by omega)]
 exact ⟨_, rfl⟩
theorem Fill.frozen (h : Fill t w g e n l F) (q : Nat) : w.frozen? ⟨g, q, none⟩ = false := by
 obtain ⟨cur, Fs, h1, _⟩ := h
 exact Box.frozen (t := e) h1 q
theorem Fill.keep (h : Fill t w g e n l F) (hg : w'.heap[g]? = w.heap[g]?) (hF : ∀ f ∈ F, w'.heap[f]? = w.heap[f]?) : Fill t w' g e n l F := by
 obtain ⟨cur, Fs, h1, h2, h3, h4, rfl, h6⟩ := h
 refine ⟨cur, Fs, hg.trans h1, h2, h3, h4, rfl, fun i a Fi hi hf => ?_⟩
 obtain ⟨es, k1, k2⟩ := h6 i a Fi hi hf
 exact ⟨es, k1, t.kept k2 fun f hff => hF f (mem_flat hf hff)⟩
theorem Fill.size (h : Fill t w g e n l F) : g < w.heap.size := by
 obtain ⟨cur, Fs, h1, _⟩ := h
 exact Box.size (t := e) h1
theorem Fill.lt (h : Fill t w g e n l F) : ∀ f ∈ F, f < w.heap.size := by
 obtain ⟨cur, Fs, h1, h2, h3, h4, rfl, h6⟩ := h
 intro f hf
 obtain ⟨Fi, hFi, hfi⟩ := List.mem_flatten.1 hf
 obtain ⟨i, hi, e1⟩ := List.getElem_of_mem hFi
 have hi' : i < l.length := h4 ▸ hi
 obtain ⟨es, _, k2⟩ := h6 i _ Fi (List.getElem?_eq_getElem hi') (by rw [List.getElem?_eq_getElem hi, e1])
 exact t.lt k2 f hfi
theorem Fill.below (h : Fill t w g e n l F) (hB : Bel w w') : Fill t w' g e n l F := h.keep (hB.block g h.size) fun f hf => hB.block f (h.lt f hf)
theorem Fill.push (h : Fill t w g e n l F) (hl : l.length < n) (hO : t.O w es a Fa) (hg : g ∉ F) (hga : g ∉ Fa) {K : Nat} (hK : t.k = K) : Fill t (puts w g (l.length * K) es) g e n (l ++ [a]) (F ++ Fa) := by
 subst hK
 obtain ⟨cur, Fs, h1, h2, h3, h4, rfl, h6⟩ := h
 obtain ⟨cur', k1, k2, k3, k4⟩ := puts_heap (off := l.length * t.k) (vs := es) h1
 have hes := t.lenO hO
 have hn : (l.length + 1) * t.k ≤ n * t.k := Nat.mul_le_mul_right _ hl
 rw [Nat.succ_mul] at hn
 refine ⟨cur', Fs ++ [Fa], k1, k2.trans h2, by simp; omega, by simp [h4], by simp, fun i b Fi hi hf => ?_⟩
 by_cases hii : i < l.length
 ·rw [List.getElem?_append_left hii] at hi
  rw [List.getElem?_append_left (by omega)] at hf
  obtain ⟨es2, m1, m2⟩ := h6 i b Fi hi hf
  have : (i + 1) * t.k ≤ l.length * t.k := Nat.mul_le_mul_right _ hii
  rw [Nat.succ_mul] at this
  exact ⟨es2, fun j hj => by rw [k3 _ (by omega)]; exact m1 j hj, t.kept m2 fun f hff => puts_far fun e => hg (e ▸ mem_flat hf hff)⟩
 ·rw [List.getElem?_append_right (by omega)] at hi
  rw [List.getElem?_append_right (by omega)] at hf
  have hi0 : i - l.length = 0 := by
   have := (List.getElem?_eq_some_iff.1 hi).1
   simp at this; omega
  rw [hi0] at hi
  rw [h4, hi0] at hf
  simp at hi hf
  subst hi hf
  obtain rfl : i = l.length := by omega
  exact ⟨es, fun j hj => k4 j (by omega) (by omega), t.kept hO fun f hff => puts_far fun e => hga (e ▸ hff)⟩
theorem Fill.done (h : Fill t w g e n l F) (hl : l.length = n) (hm : n ≤ 9223372036854775807) : ∃ F', t.rowO w [.slice (some ⟨g, 0, none⟩) l.length n] l F' ∧ (F' = [] ∨ F' = g :: F) := by
 obtain ⟨cur, Fs, h1, h2, h3, h4, rfl, h6⟩ := h
 by_cases h0 : 0 < l.length
 ·exact ⟨g :: Fs.flatten, .inr ⟨g, 0, n, cur, e, Fs, rfl, h0, by omega, hm, h1, h4, rfl, fun i a Fi hi hf => by simpa using h6 i a Fi hi hf⟩, .inr rfl⟩
 ·have : l = [] := List.eq_nil_of_length_eq_zero (by omega)
  subst this
  exact ⟨[], .inl ⟨_, n, rfl, hm, rfl, rfl⟩, .inl rfl⟩
theorem New.cons {B : Nat} {F F' : List Nat} (h : New (B + 1) F) (h' : F' = [] ∨ F' = B :: F) : New B F' := by
 rcases h' with rfl | rfl
 ·exact New.nil _
 ·exact ⟨List.nodup_cons.2 ⟨fun hx => by have := h.2 _ hx; omega, h.1⟩, fun f hf => by rcases List.mem_cons.1 hf with rfl | hf; exact Nat.le_refl _; have := h.2 _ hf; omega⟩
theorem New.not {B g : Nat} {F : List Nat} (h : New B F) (hg : g < B) : g ∉ F := fun hx => by have := h.2 _ hx; omega
theorem New.sub {B : Nat} {F G : List Nat} (h : New B F) (hs : ∀ f ∈ G, f ∈ F) (hn : G.Nodup) : New B G := ⟨hn, fun f hf => h.2 f (hs f hf)⟩
end
theorem wpList_mkS {P : Program} (w : World) {ops : Array Oper} {rest : List Oper} {o : Oper} {a : Act} {Q : Exit → Act → World → Prop}
  (hg : o.guard = none) (l c : Operand) (t : TypeId) (hop : o.op = Op.makeSlice t l c)
  (e : TypeId) (i : TypeInfo) (z : Value) (K : Nat) (h1 : P.underlying t = some (.slice e)) (h2 : P.info? e = some i) (h3 : i.zero = some z) (h4 : i.size = K)
  (n : Nat) (hl : a.eval l = .int .i64 n) (hc : a.eval c = .int .i64 n) (b2 : i.bytes * n ≤ 281474976710656) (b3 : n ≤ maxLen)
  (hK : ∀ w' cur, w'.heap[w.heap.size]? = some (.cells cur e (0, 0)) → cur.size = n * K → Bel w w' → w.heap.size < w'.heap.size → wpList P ops Q rest (a.put o.dst (.slice (some ⟨w.heap.size, 0, none⟩) n n)) w') :
  wpList P ops Q (o :: rest) a w := by
 refine wpList_plain hg fun K' hK' => ?_
 have hrun := run_make (P := P) w t e i z h1 h2 h3 .i64 .i64 n n (by omega) (Int.le_refl _) (by omega) (by simp only [maxLen] at b3; omega)
 simp only [Int.toNat_natCast, h4] at hrun
 unfold Oper.wp
 simp [execOp, hop, hl, hc, hrun, Result.andThen]
 exact hK' _ _ (hK _ _ (heap_alloc_new w _) (by simp [madeCells]) ((Below.refl _ _).alloc (Nat.le_refl _) _) (by simp))
end Go.Proofs.YtkdanlnhdgcplaaGreat
namespace Go.Proofs.YtkdanlnhdgcplaaGreat
set_option linter.unusedVariables false
open Go.RowKit
theorem tInt.mk {w : World} {B : Nat} {x : Int} (h : (Lit.int .i64 x).wf = true) : tInt.R w B [.int .i64 x] x := ⟨rfl, h⟩
theorem sl_one {K : IntKind} {w : World} {B : Nat} {cs : List Value} {l : List Int} (h : (tSl K).R w B cs l) : ∃ A n c, cs = [.slice A n c] ∧ n ≤ c ∧ c ≤ 9223372036854775807 ∧ Ints K w B A n l := h
theorem slO_one {K : IntKind} {w : World} {cs : List Value} {l : List Int} {F : List Nat} (h : (tSl K).O w cs l F) : ∃ A c, cs = [.slice A l.length c] ∧ l.length ≤ c ∧ c ≤ 9223372036854775807 := by
 rcases h with ⟨A, c, h1, h2, rfl, _⟩ | ⟨g, off, c, cur, t, h1, h2, h3, h4, _⟩
 ·exact ⟨A, c, h1, Nat.zero_le _, h2⟩
 ·exact ⟨_, c, h1, h3, h4⟩
theorem row_one {α : Type} {t : Ty α} {w : World} {B : Nat} {cs : List Value} {l : List α} (h : t.row.R w B cs l) : ∃ A n c, cs = [.slice A n c] ∧ n ≤ c ∧ c ≤ 9223372036854775807 ∧ l.length = n := by
 obtain ⟨A, n, c, h1, h2, h3, h4, _⟩ := h
 exact ⟨A, n, c, h1, h2, h3, h4⟩
theorem rowO_one {α : Type} {t : Ty α} {w : World} {cs : List Value} {l : List α} {F : List Nat} (h : t.row.O w cs l F) : ∃ A c, cs = [.slice A l.length c] ∧ l.length ≤ c ∧ c ≤ 9223372036854775807 := by
 rcases h with ⟨A, c, h1, h2, rfl, _⟩ | ⟨g, off, c, cur, e, Fs, h1, h2, h3, h4, _⟩
 ·exact ⟨A, c, h1, Nat.zero_le _, h2⟩
 ·exact ⟨_, c, h1, h3, h4⟩

/-! ### Cell -/
abbrev DCell := List Int
abbrev tCell : Ty DCell := tBy
def szCell (p : DCell) : Nat := (p).length
theorem openCell {w : World} {B : Nat} {cs : List Value} {p : DCell} (h : tCell.R w B cs p) : ∃ A0 n0 c0, cs = [.slice A0 n0 c0] ∧ n0 ≤ c0 ∧ c0 ≤ 9223372036854775807 ∧ (p).length = n0 ∧ tBy.R w B [.slice A0 n0 c0] (p) := by
 obtain ⟨A1, n1, c1, rfl, he1, hf1, hg1⟩ := sl_one h
 exact ⟨A1, n1, c1, rfl, he1, hf1, hg1.1, ⟨A1, n1, c1, rfl, he1, hf1, hg1⟩⟩
theorem makeCell {w : World} {B : Nat} {p : DCell} {v0 : Value} (h0 : tBy.R w B [v0] (p)) : tCell.R w B [v0] p := h0
theorem openOCell {w : World} {cs : List Value} {p : DCell} {F : List Nat} (h : tCell.O w cs p F) : ∃ A0 c0 F0, cs = [.slice A0 (p).length c0] ∧ F = F0 ∧ (p).length ≤ c0 ∧ c0 ≤ 9223372036854775807 ∧ tBy.O w [.slice A0 (p).length c0] (p) F0 := by
 have hr1 := h
 obtain ⟨A1, c1, rfl, he1, hf1⟩ := slO_one h
 exact ⟨A1, c1, F, rfl, by simp, he1, hf1, hr1⟩
theorem makeOCell {w : World} {p : DCell} {v0 : Value} {F0 : List Nat} (h0 : tBy.O w [v0] (p) F0) : ∃ F, tCell.O w [v0] p F ∧ F = F0 := ⟨_, h0, by simp⟩
/-! ### Peeled -/
/-! ### Piece -/
abbrev DPiece := Int × Int × Int × List Int
abbrev tPiece : Ty DPiece := tInt.prod (tInt.prod (tInt.prod (tBy)))
def szPiece (p : DPiece) : Nat := (p.2.2.2).length
def rcPiece (p : DPiece) : Nat := 1 + 1 + 1 + (p.2.2.2).length
def rmPiece (k : Int) (p : DPiece) : DPiece := (k, k + 1, k + 1 + 1, marks8 (k + 1 + 1 + 1) (p.2.2.2).length)
theorem rcPiece_le (p : DPiece) : rcPiece p ≤ 5 + 5 * szPiece p := by
 simp only [rcPiece, szPiece]
 omega
theorem openPiece {w : World} {B : Nat} {cs : List Value} {p : DPiece} (h : tPiece.R w B cs p) : ∃ A3 n3 c3, cs = [.int .i64 (p.1), .int .i64 (p.2.1), .int .i64 (p.2.2.1), .slice A3 n3 c3] ∧ (Lit.int .i64 (p.1)).wf = true ∧ (Lit.int .i64 (p.2.1)).wf = true ∧ (Lit.int .i64 (p.2.2.1)).wf = true ∧ n3 ≤ c3 ∧ c3 ≤ 9223372036854775807 ∧ (p.2.2.2).length = n3 ∧ tBy.R w B [.slice A3 n3 c3] (p.2.2.2) := by
 obtain ⟨ca1, cb1, rfl, ha1, hb1⟩ := h
 obtain ⟨rfl, hi2⟩ := ha1
 obtain ⟨ca3, cb3, rfl, ha3, hb3⟩ := hb1
 obtain ⟨rfl, hi4⟩ := ha3
 obtain ⟨ca5, cb5, rfl, ha5, hb5⟩ := hb3
 obtain ⟨rfl, hi6⟩ := ha5
 obtain ⟨A7, n7, c7, rfl, he7, hf7, hg7⟩ := sl_one hb5
 exact ⟨A7, n7, c7, rfl, hi2, hi4, hi6, he7, hf7, hg7.1, ⟨A7, n7, c7, rfl, he7, hf7, hg7⟩⟩
theorem openOPiece {w : World} {cs : List Value} {p : DPiece} {F : List Nat} (h : tPiece.O w cs p F) : ∃ A3 c3 F3, cs = [.int .i64 (p.1), .int .i64 (p.2.1), .int .i64 (p.2.2.1), .slice A3 (p.2.2.2).length c3] ∧ F = F3 ∧ (Lit.int .i64 (p.1)).wf = true ∧ (Lit.int .i64 (p.2.1)).wf = true ∧ (Lit.int .i64 (p.2.2.1)).wf = true ∧ (p.2.2.2).length ≤ c3 ∧ c3 ≤ 9223372036854775807 ∧ tBy.O w [.slice A3 (p.2.2.2).length c3] (p.2.2.2) F3 := by
 obtain ⟨ca1, cb1, Fa1, Fb1, rfl, rfl, ha1, hb1⟩ := h
 obtain ⟨rfl, hi2, rfl⟩ := ha1
 obtain ⟨ca3, cb3, Fa3, Fb3, rfl, rfl, ha3, hb3⟩ := hb1
 obtain ⟨rfl, hi4, rfl⟩ := ha3
 obtain ⟨ca5, cb5, Fa5, Fb5, rfl, rfl, ha5, hb5⟩ := hb3
 obtain ⟨rfl, hi6, rfl⟩ := ha5
 have hr7 := hb5
 obtain ⟨A7, c7, rfl, he7, hf7⟩ := slO_one hb5
 exact ⟨A7, c7, Fb5, rfl, by simp, hi2, hi4, hi6, he7, hf7, hr7⟩
theorem makeOPiece {w : World} {p : DPiece} {v3 : Value} {F3 : List Nat} (h0 : (Lit.int .i64 (p.1)).wf = true) (h1 : (Lit.int .i64 (p.2.1)).wf = true) (h2 : (Lit.int .i64 (p.2.2.1)).wf = true) (h3 : tBy.O w [v3] (p.2.2.2) F3) : ∃ F, tPiece.O w [.int .i64 (p.1), .int .i64 (p.2.1), .int .i64 (p.2.2.1), v3] p F ∧ F = F3 := ⟨_, ⟨_, _, _, _, rfl, rfl, ⟨rfl, h0, rfl⟩, ⟨_, _, _, _, rfl, rfl, ⟨rfl, h1, rfl⟩, ⟨_, _, _, _, rfl, rfl, ⟨rfl, h2, rfl⟩, h3⟩⟩⟩, by simp⟩
/-! ### Whole -/
abbrev DWhole := Int × Int × Int × List DPiece
abbrev tWhole : Ty DWhole := tInt.prod (tInt.prod (tInt.prod (tPiece.row)))
def szWhole (p : DWhole) : Nat := rsz szPiece (p.2.2.2)
def rcWhole (p : DWhole) : Nat := 1 + 1 + 1 + rsum rcPiece (p.2.2.2)
def rmWhole (k : Int) (p : DWhole) : DWhole := (k, k + 1, k + 1 + 1, rmk rcPiece rmPiece (k + 1 + 1 + 1) (p.2.2.2))
theorem rcWhole_le (p : DWhole) : rcWhole p ≤ 5 + 5 * szWhole p := by
 have h3 := rsum_M (c := rcPiece) (s := szPiece) (M := 5) rcPiece_le (p.2.2.2)
 simp only [rcWhole, szWhole]
 omega
theorem openWhole {w : World} {B : Nat} {cs : List Value} {p : DWhole} (h : tWhole.R w B cs p) : ∃ A3 n3 c3, cs = [.int .i64 (p.1), .int .i64 (p.2.1), .int .i64 (p.2.2.1), .slice A3 n3 c3] ∧ (Lit.int .i64 (p.1)).wf = true ∧ (Lit.int .i64 (p.2.1)).wf = true ∧ (Lit.int .i64 (p.2.2.1)).wf = true ∧ n3 ≤ c3 ∧ c3 ≤ 9223372036854775807 ∧ (p.2.2.2).length = n3 ∧ tPiece.row.R w B [.slice A3 n3 c3] (p.2.2.2) := by
 obtain ⟨ca1, cb1, rfl, ha1, hb1⟩ := h
 obtain ⟨rfl, hi2⟩ := ha1
 obtain ⟨ca3, cb3, rfl, ha3, hb3⟩ := hb1
 obtain ⟨rfl, hi4⟩ := ha3
 obtain ⟨ca5, cb5, rfl, ha5, hb5⟩ := hb3
 obtain ⟨rfl, hi6⟩ := ha5
 have hr7 := hb5
 obtain ⟨A7, n7, c7, rfl, he7, hf7, hg7⟩ := row_one hb5
 exact ⟨A7, n7, c7, rfl, hi2, hi4, hi6, he7, hf7, hg7, hr7⟩
theorem openOWhole {w : World} {cs : List Value} {p : DWhole} {F : List Nat} (h : tWhole.O w cs p F) : ∃ A3 c3 F3, cs = [.int .i64 (p.1), .int .i64 (p.2.1), .int .i64 (p.2.2.1), .slice A3 (p.2.2.2).length c3] ∧ F = F3 ∧ (Lit.int .i64 (p.1)).wf = true ∧ (Lit.int .i64 (p.2.1)).wf = true ∧ (Lit.int .i64 (p.2.2.1)).wf = true ∧ (p.2.2.2).length ≤ c3 ∧ c3 ≤ 9223372036854775807 ∧ tPiece.row.O w [.slice A3 (p.2.2.2).length c3] (p.2.2.2) F3 := by
 obtain ⟨ca1, cb1, Fa1, Fb1, rfl, rfl, ha1, hb1⟩ := h
 obtain ⟨rfl, hi2, rfl⟩ := ha1
 obtain ⟨ca3, cb3, Fa3, Fb3, rfl, rfl, ha3, hb3⟩ := hb1
 obtain ⟨rfl, hi4, rfl⟩ := ha3
 obtain ⟨ca5, cb5, Fa5, Fb5, rfl, rfl, ha5, hb5⟩ := hb3
 obtain ⟨rfl, hi6, rfl⟩ := ha5
 have hr7 := hb5
 obtain ⟨A7, c7, rfl, he7, hf7⟩ := rowO_one hb5
 exact ⟨A7, c7, Fb5, rfl, by simp, hi2, hi4, hi6, he7, hf7, hr7⟩
theorem makeOWhole {w : World} {p : DWhole} {v3 : Value} {F3 : List Nat} (h0 : (Lit.int .i64 (p.1)).wf = true) (h1 : (Lit.int .i64 (p.2.1)).wf = true) (h2 : (Lit.int .i64 (p.2.2.1)).wf = true) (h3 : tPiece.row.O w [v3] (p.2.2.2) F3) : ∃ F, tWhole.O w [.int .i64 (p.1), .int .i64 (p.2.1), .int .i64 (p.2.2.1), v3] p F ∧ F = F3 := ⟨_, ⟨_, _, _, _, rfl, rfl, ⟨rfl, h0, rfl⟩, ⟨_, _, _, _, rfl, rfl, ⟨rfl, h1, rfl⟩, ⟨_, _, _, _, rfl, rfl, ⟨rfl, h2, rfl⟩, h3⟩⟩⟩, by simp⟩
/-! ### Desk -/
abbrev DDesk := List DWhole × List Int
abbrev tDesk : Ty DDesk := tWhole.row.prod (tIs)
def szDesk (p : DDesk) : Nat := rsz szWhole (p.1) + (p.2).length
theorem openDesk {w : World} {B : Nat} {cs : List Value} {p : DDesk} (h : tDesk.R w B cs p) : ∃ A0 n0 c0 A1 n1 c1, cs = [.slice A0 n0 c0, .slice A1 n1 c1] ∧ n0 ≤ c0 ∧ c0 ≤ 9223372036854775807 ∧ (p.1).length = n0 ∧ tWhole.row.R w B [.slice A0 n0 c0] (p.1) ∧ n1 ≤ c1 ∧ c1 ≤ 9223372036854775807 ∧ (p.2).length = n1 ∧ tIs.R w B [.slice A1 n1 c1] (p.2) := by
 obtain ⟨ca1, cb1, rfl, ha1, hb1⟩ := h
 have hr2 := ha1
 obtain ⟨A2, n2, c2, rfl, he2, hf2, hg2⟩ := row_one ha1
 obtain ⟨A3, n3, c3, rfl, he3, hf3, hg3⟩ := sl_one hb1
 exact ⟨A2, n2, c2, A3, n3, c3, rfl, he2, hf2, hg2, hr2, he3, hf3, hg3.1, ⟨A3, n3, c3, rfl, he3, hf3, hg3⟩⟩
theorem makeDesk {w : World} {B : Nat} {p : DDesk} {v0 v1 : Value} (h0 : tWhole.row.R w B [v0] (p.1)) (h1 : tIs.R w B [v1] (p.2)) : tDesk.R w B [v0, v1] p := ⟨_, _, rfl, h0, h1⟩
theorem openODesk {w : World} {cs : List Value} {p : DDesk} {F : List Nat} (h : tDesk.O w cs p F) : ∃ A0 c0 F0 A1 c1 F1, cs = [.slice A0 (p.1).length c0, .slice A1 (p.2).length c1] ∧ F = F0 ++ F1 ∧ (p.1).length ≤ c0 ∧ c0 ≤ 9223372036854775807 ∧ tWhole.row.O w [.slice A0 (p.1).length c0] (p.1) F0 ∧ (p.2).length ≤ c1 ∧ c1 ≤ 9223372036854775807 ∧ tIs.O w [.slice A1 (p.2).length c1] (p.2) F1 := by
 obtain ⟨ca1, cb1, Fa1, Fb1, rfl, rfl, ha1, hb1⟩ := h
 have hr2 := ha1
 obtain ⟨A2, c2, rfl, he2, hf2⟩ := rowO_one ha1
 have hr3 := hb1
 obtain ⟨A3, c3, rfl, he3, hf3⟩ := slO_one hb1
 exact ⟨A2, c2, Fa1, A3, c3, Fb1, rfl, by simp, he2, hf2, hr2, he3, hf3, hr3⟩
theorem makeODesk {w : World} {p : DDesk} {v0 v1 : Value} {F0 F1 : List Nat} (h0 : tWhole.row.O w [v0] (p.1) F0) (h1 : tIs.O w [v1] (p.2) F1) : ∃ F, tDesk.O w [v0, v1] p F ∧ F = F0 ++ F1 := ⟨_, ⟨_, _, _, _, rfl, rfl, h0, h1⟩, by simp⟩
/-! ### Held -/
abbrev DHeld := Int × Int × DCell
abbrev tHeld : Ty DHeld := tInt.prod (tInt.prod (tCell))
def szHeld (p : DHeld) : Nat := szCell (p.2.2)
def rcHeld (p : DHeld) : Nat := 1 + 1 + (p.2.2).length
def rmHeld (k : Int) (p : DHeld) : DHeld := (k, k + 1, marks8 (k + 1 + 1) (p.2.2).length)
theorem rcHeld_le (p : DHeld) : rcHeld p ≤ 5 + 5 * szHeld p := by
 simp only [rcHeld, szHeld, szCell]
 omega
theorem openHeld {w : World} {B : Nat} {cs : List Value} {p : DHeld} (h : tHeld.R w B cs p) : ∃ A2 n2 c2, cs = [.int .i64 (p.1), .int .i64 (p.2.1), .slice A2 n2 c2] ∧ (Lit.int .i64 (p.1)).wf = true ∧ (Lit.int .i64 (p.2.1)).wf = true ∧ n2 ≤ c2 ∧ c2 ≤ 9223372036854775807 ∧ (p.2.2).length = n2 ∧ tBy.R w B [.slice A2 n2 c2] (p.2.2) := by
 obtain ⟨ca1, cb1, rfl, ha1, hb1⟩ := h
 obtain ⟨rfl, hi2⟩ := ha1
 obtain ⟨ca3, cb3, rfl, ha3, hb3⟩ := hb1
 obtain ⟨rfl, hi4⟩ := ha3
 obtain ⟨A5, n5, c5, rfl, he5, hf5, hg5⟩ := sl_one hb3
 exact ⟨A5, n5, c5, rfl, hi2, hi4, he5, hf5, hg5.1, ⟨A5, n5, c5, rfl, he5, hf5, hg5⟩⟩
theorem openOHeld {w : World} {cs : List Value} {p : DHeld} {F : List Nat} (h : tHeld.O w cs p F) : ∃ A2 c2 F2, cs = [.int .i64 (p.1), .int .i64 (p.2.1), .slice A2 (p.2.2).length c2] ∧ F = F2 ∧ (Lit.int .i64 (p.1)).wf = true ∧ (Lit.int .i64 (p.2.1)).wf = true ∧ (p.2.2).length ≤ c2 ∧ c2 ≤ 9223372036854775807 ∧ tBy.O w [.slice A2 (p.2.2).length c2] (p.2.2) F2 := by
 obtain ⟨ca1, cb1, Fa1, Fb1, rfl, rfl, ha1, hb1⟩ := h
 obtain ⟨rfl, hi2, rfl⟩ := ha1
 obtain ⟨ca3, cb3, Fa3, Fb3, rfl, rfl, ha3, hb3⟩ := hb1
 obtain ⟨rfl, hi4, rfl⟩ := ha3
 have hr5 := hb3
 obtain ⟨A5, c5, rfl, he5, hf5⟩ := slO_one hb3
 exact ⟨A5, c5, Fb3, rfl, by simp, hi2, hi4, he5, hf5, hr5⟩
theorem makeOHeld {w : World} {p : DHeld} {v2 : Value} {F2 : List Nat} (h0 : (Lit.int .i64 (p.1)).wf = true) (h1 : (Lit.int .i64 (p.2.1)).wf = true) (h2 : tBy.O w [v2] (p.2.2) F2) : ∃ F, tHeld.O w [.int .i64 (p.1), .int .i64 (p.2.1), v2] p F ∧ F = F2 := ⟨_, ⟨_, _, _, _, rfl, rfl, ⟨rfl, h0, rfl⟩, ⟨_, _, _, _, rfl, rfl, ⟨rfl, h1, rfl⟩, h2⟩⟩, by simp⟩
/-! ### Pool -/
abbrev DPool := List DHeld × List Int
abbrev tPool : Ty DPool := tHeld.row.prod (tIs)
def szPool (p : DPool) : Nat := rsz szHeld (p.1) + (p.2).length
theorem openPool {w : World} {B : Nat} {cs : List Value} {p : DPool} (h : tPool.R w B cs p) : ∃ A0 n0 c0 A1 n1 c1, cs = [.slice A0 n0 c0, .slice A1 n1 c1] ∧ n0 ≤ c0 ∧ c0 ≤ 9223372036854775807 ∧ (p.1).length = n0 ∧ tHeld.row.R w B [.slice A0 n0 c0] (p.1) ∧ n1 ≤ c1 ∧ c1 ≤ 9223372036854775807 ∧ (p.2).length = n1 ∧ tIs.R w B [.slice A1 n1 c1] (p.2) := by
 obtain ⟨ca1, cb1, rfl, ha1, hb1⟩ := h
 have hr2 := ha1
 obtain ⟨A2, n2, c2, rfl, he2, hf2, hg2⟩ := row_one ha1
 obtain ⟨A3, n3, c3, rfl, he3, hf3, hg3⟩ := sl_one hb1
 exact ⟨A2, n2, c2, A3, n3, c3, rfl, he2, hf2, hg2, hr2, he3, hf3, hg3.1, ⟨A3, n3, c3, rfl, he3, hf3, hg3⟩⟩
theorem makePool {w : World} {B : Nat} {p : DPool} {v0 v1 : Value} (h0 : tHeld.row.R w B [v0] (p.1)) (h1 : tIs.R w B [v1] (p.2)) : tPool.R w B [v0, v1] p := ⟨_, _, rfl, h0, h1⟩
theorem openOPool {w : World} {cs : List Value} {p : DPool} {F : List Nat} (h : tPool.O w cs p F) : ∃ A0 c0 F0 A1 c1 F1, cs = [.slice A0 (p.1).length c0, .slice A1 (p.2).length c1] ∧ F = F0 ++ F1 ∧ (p.1).length ≤ c0 ∧ c0 ≤ 9223372036854775807 ∧ tHeld.row.O w [.slice A0 (p.1).length c0] (p.1) F0 ∧ (p.2).length ≤ c1 ∧ c1 ≤ 9223372036854775807 ∧ tIs.O w [.slice A1 (p.2).length c1] (p.2) F1 := by
 obtain ⟨ca1, cb1, Fa1, Fb1, rfl, rfl, ha1, hb1⟩ := h
 have hr2 := ha1
 obtain ⟨A2, c2, rfl, he2, hf2⟩ := rowO_one ha1
 have hr3 := hb1
 obtain ⟨A3, c3, rfl, he3, hf3⟩ := slO_one hb1
 exact ⟨A2, c2, Fa1, A3, c3, Fb1, rfl, by simp, he2, hf2, hr2, he3, hf3, hr3⟩
theorem makeOPool {w : World} {p : DPool} {v0 v1 : Value} {F0 F1 : List Nat} (h0 : tHeld.row.O w [v0] (p.1) F0) (h1 : tIs.O w [v1] (p.2) F1) : ∃ F, tPool.O w [v0, v1] p F ∧ F = F0 ++ F1 := ⟨_, ⟨_, _, _, _, rfl, rfl, h0, h1⟩, by simp⟩
/-! ### Letter -/
abbrev DLetter := Int × List Int
abbrev tLetter : Ty DLetter := tInt.prod (tBy)
def szLetter (p : DLetter) : Nat := (p.2).length
def rcLetter (p : DLetter) : Nat := 1 + (p.2).length
def rmLetter (k : Int) (p : DLetter) : DLetter := (k, marks8 (k + 1) (p.2).length)
theorem rcLetter_le (p : DLetter) : rcLetter p ≤ 5 + 5 * szLetter p := by
 simp only [rcLetter, szLetter]
 omega
theorem openLetter {w : World} {B : Nat} {cs : List Value} {p : DLetter} (h : tLetter.R w B cs p) : ∃ A1 n1 c1, cs = [.int .i64 (p.1), .slice A1 n1 c1] ∧ (Lit.int .i64 (p.1)).wf = true ∧ n1 ≤ c1 ∧ c1 ≤ 9223372036854775807 ∧ (p.2).length = n1 ∧ tBy.R w B [.slice A1 n1 c1] (p.2) := by
 obtain ⟨ca1, cb1, rfl, ha1, hb1⟩ := h
 obtain ⟨rfl, hi2⟩ := ha1
 obtain ⟨A3, n3, c3, rfl, he3, hf3, hg3⟩ := sl_one hb1
 exact ⟨A3, n3, c3, rfl, hi2, he3, hf3, hg3.1, ⟨A3, n3, c3, rfl, he3, hf3, hg3⟩⟩
theorem openOLetter {w : World} {cs : List Value} {p : DLetter} {F : List Nat} (h : tLetter.O w cs p F) : ∃ A1 c1 F1, cs = [.int .i64 (p.1), .slice A1 (p.2).length c1] ∧ F = F1 ∧ (Lit.int .i64 (p.1)).wf = true ∧ (p.2).length ≤ c1 ∧ c1 ≤ 9223372036854775807 ∧ tBy.O w [.slice A1 (p.2).length c1] (p.2) F1 := by
 obtain ⟨ca1, cb1, Fa1, Fb1, rfl, rfl, ha1, hb1⟩ := h
 obtain ⟨rfl, hi2, rfl⟩ := ha1
 have hr3 := hb1
 obtain ⟨A3, c3, rfl, he3, hf3⟩ := slO_one hb1
 exact ⟨A3, c3, Fb1, rfl, by simp, hi2, he3, hf3, hr3⟩
theorem makeOLetter {w : World} {p : DLetter} {v1 : Value} {F1 : List Nat} (h0 : (Lit.int .i64 (p.1)).wf = true) (h1 : tBy.O w [v1] (p.2) F1) : ∃ F, tLetter.O w [.int .i64 (p.1), v1] p F ∧ F = F1 := ⟨_, ⟨_, _, _, _, rfl, rfl, ⟨rfl, h0, rfl⟩, h1⟩, by simp⟩
/-! ### Node -/
abbrev DNode := Int × Int × DPool × DDesk × List DLetter
abbrev tNode : Ty DNode := tInt.prod (tInt.prod (tPool.prod (tDesk.prod (tLetter.row))))
def szNode (p : DNode) : Nat := szPool (p.2.2.1) + szDesk (p.2.2.2.1) + rsz szLetter (p.2.2.2.2)
def rcNode (p : DNode) : Nat := 1 + 1 + rsum rcHeld (p.2.2.1.1) + (p.2.2.1.2).length + rsum rcWhole (p.2.2.2.1.1) + (p.2.2.2.1.2).length + rsum rcLetter (p.2.2.2.2)
def rmNode (k : Int) (p : DNode) : DNode := (k, k + 1, (rmk rcHeld rmHeld (k + 1 + 1) (p.2.2.1.1), marks (k + 1 + 1 + ((rsum rcHeld (p.2.2.1.1) : Nat) : Int)) (p.2.2.1.2).length), (rmk rcWhole rmWhole (k + 1 + 1 + ((rsum rcHeld (p.2.2.1.1) : Nat) : Int) + (((p.2.2.1.2).length : Nat) : Int)) (p.2.2.2.1.1), marks (k + 1 + 1 + ((rsum rcHeld (p.2.2.1.1) : Nat) : Int) + (((p.2.2.1.2).length : Nat) : Int) + ((rsum rcWhole (p.2.2.2.1.1) : Nat) : Int)) (p.2.2.2.1.2).length), rmk rcLetter rmLetter (k + 1 + 1 + ((rsum rcHeld (p.2.2.1.1) : Nat) : Int) + (((p.2.2.1.2).length : Nat) : Int) + ((rsum rcWhole (p.2.2.2.1.1) : Nat) : Int) + (((p.2.2.2.1.2).length : Nat) : Int)) (p.2.2.2.2))
theorem rcNode_le (p : DNode) : rcNode p ≤ 5 + 5 * szNode p := by
 have h2 := rsum_M (c := rcHeld) (s := szHeld) (M := 5) rcHeld_le (p.2.2.1.1)
 have h4 := rsum_M (c := rcWhole) (s := szWhole) (M := 5) rcWhole_le (p.2.2.2.1.1)
 have h6 := rsum_M (c := rcLetter) (s := szLetter) (M := 5) rcLetter_le (p.2.2.2.2)
 simp only [rcNode, szNode, szPool, szDesk]
 omega
theorem openNode {w : World} {B : Nat} {cs : List Value} {p : DNode} (h : tNode.R w B cs p) : ∃ A2 n2 c2 A3 n3 c3 A4 n4 c4 A5 n5 c5 A6 n6 c6, cs = [.int .i64 (p.1), .int .i64 (p.2.1), .slice A2 n2 c2, .slice A3 n3 c3, .slice A4 n4 c4, .slice A5 n5 c5, .slice A6 n6 c6] ∧ (Lit.int .i64 (p.1)).wf = true ∧ (Lit.int .i64 (p.2.1)).wf = true ∧ n2 ≤ c2 ∧ c2 ≤ 9223372036854775807 ∧ (p.2.2.1.1).length = n2 ∧ tHeld.row.R w B [.slice A2 n2 c2] (p.2.2.1.1) ∧ n3 ≤ c3 ∧ c3 ≤ 9223372036854775807 ∧ (p.2.2.1.2).length = n3 ∧ tIs.R w B [.slice A3 n3 c3] (p.2.2.1.2) ∧ n4 ≤ c4 ∧ c4 ≤ 9223372036854775807 ∧ (p.2.2.2.1.1).length = n4 ∧ tWhole.row.R w B [.slice A4 n4 c4] (p.2.2.2.1.1) ∧ n5 ≤ c5 ∧ c5 ≤ 9223372036854775807 ∧ (p.2.2.2.1.2).length = n5 ∧ tIs.R w B [.slice A5 n5 c5] (p.2.2.2.1.2) ∧ n6 ≤ c6 ∧ c6 ≤ 9223372036854775807 ∧ (p.2.2.2.2).length = n6 ∧ tLetter.row.R w B [.slice A6 n6 c6] (p.2.2.2.2) := by
 obtain ⟨ca1, cb1, rfl, ha1, hb1⟩ := h
 obtain ⟨rfl, hi2⟩ := ha1
 obtain ⟨ca3, cb3, rfl, ha3, hb3⟩ := hb1
 obtain ⟨rfl, hi4⟩ := ha3
 obtain ⟨ca5, cb5, rfl, ha5, hb5⟩ := hb3
 obtain ⟨ca6, cb6, rfl, ha6, hb6⟩ := ha5
 have hr7 := ha6
 obtain ⟨A7, n7, c7, rfl, he7, hf7, hg7⟩ := row_one ha6
 obtain ⟨A8, n8, c8, rfl, he8, hf8, hg8⟩ := sl_one hb6
 obtain ⟨ca9, cb9, rfl, ha9, hb9⟩ := hb5
 obtain ⟨ca10, cb10, rfl, ha10, hb10⟩ := ha9
 have hr11 := ha10
 obtain ⟨A11, n11, c11, rfl, he11, hf11, hg11⟩ := row_one ha10
 obtain ⟨A12, n12, c12, rfl, he12, hf12, hg12⟩ := sl_one hb10
 have hr13 := hb9
 obtain ⟨A13, n13, c13, rfl, he13, hf13, hg13⟩ := row_one hb9
 exact ⟨A7, n7, c7, A8, n8, c8, A11, n11, c11, A12, n12, c12, A13, n13, c13, rfl, hi2, hi4, he7, hf7, hg7, hr7, he8, hf8, hg8.1, ⟨A8, n8, c8, rfl, he8, hf8, hg8⟩, he11, hf11, hg11, hr11, he12, hf12, hg12.1, ⟨A12, n12, c12, rfl, he12, hf12, hg12⟩, he13, hf13, hg13, hr13⟩
theorem openONode {w : World} {cs : List Value} {p : DNode} {F : List Nat} (h : tNode.O w cs p F) : ∃ A2 c2 F2 A3 c3 F3 A4 c4 F4 A5 c5 F5 A6 c6 F6, cs = [.int .i64 (p.1), .int .i64 (p.2.1), .slice A2 (p.2.2.1.1).length c2, .slice A3 (p.2.2.1.2).length c3, .slice A4 (p.2.2.2.1.1).length c4, .slice A5 (p.2.2.2.1.2).length c5, .slice A6 (p.2.2.2.2).length c6] ∧ F = F2 ++ F3 ++ F4 ++ F5 ++ F6 ∧ (Lit.int .i64 (p.1)).wf = true ∧ (Lit.int .i64 (p.2.1)).wf = true ∧ (p.2.2.1.1).length ≤ c2 ∧ c2 ≤ 9223372036854775807 ∧ tHeld.row.O w [.slice A2 (p.2.2.1.1).length c2] (p.2.2.1.1) F2 ∧ (p.2.2.1.2).length ≤ c3 ∧ c3 ≤ 9223372036854775807 ∧ tIs.O w [.slice A3 (p.2.2.1.2).length c3] (p.2.2.1.2) F3 ∧ (p.2.2.2.1.1).length ≤ c4 ∧ c4 ≤ 9223372036854775807 ∧ tWhole.row.O w [.slice A4 (p.2.2.2.1.1).length c4] (p.2.2.2.1.1) F4 ∧ (p.2.2.2.1.2).length ≤ c5 ∧ c5 ≤ 9223372036854775807 ∧ tIs.O w [.slice A5 (p.2.2.2.1.2).length c5] (p.2.2.2.1.2) F5 ∧ (p.2.2.2.2).length ≤ c6 ∧ c6 ≤ 9223372036854775807 ∧ tLetter.row.O w [.slice A6 (p.2.2.2.2).length c6] (p.2.2.2.2) F6 := by
 obtain ⟨ca1, cb1, Fa1, Fb1, rfl, rfl, ha1, hb1⟩ := h
 obtain ⟨rfl, hi2, rfl⟩ := ha1
 obtain ⟨ca3, cb3, Fa3, Fb3, rfl, rfl, ha3, hb3⟩ := hb1
 obtain ⟨rfl, hi4, rfl⟩ := ha3
 obtain ⟨ca5, cb5, Fa5, Fb5, rfl, rfl, ha5, hb5⟩ := hb3
 obtain ⟨ca6, cb6, Fa6, Fb6, rfl, rfl, ha6, hb6⟩ := ha5
 have hr7 := ha6
 obtain ⟨A7, c7, rfl, he7, hf7⟩ := rowO_one ha6
 have hr8 := hb6
 obtain ⟨A8, c8, rfl, he8, hf8⟩ := slO_one hb6
 obtain ⟨ca9, cb9, Fa9, Fb9, rfl, rfl, ha9, hb9⟩ := hb5
 obtain ⟨ca10, cb10, Fa10, Fb10, rfl, rfl, ha10, hb10⟩ := ha9
 have hr11 := ha10
 obtain ⟨A11, c11, rfl, he11, hf11⟩ := rowO_one ha10
 have hr12 := hb10
 obtain ⟨A12, c12, rfl, he12, hf12⟩ := slO_one hb10
 have hr13 := hb9
 obtain ⟨A13, c13, rfl, he13, hf13⟩ := rowO_one hb9
 exact ⟨A7, c7, Fa6, A8, c8, Fb6, A11, c11, Fa10, A12, c12, Fb10, A13, c13, Fb9, rfl, by simp, hi2, hi4, he7, hf7, hr7, he8, hf8, hr8, he11, hf11, hr11, he12, hf12, hr12, he13, hf13, hr13⟩
theorem makeONode {w : World} {p : DNode} {v2 v3 v4 v5 v6 : Value} {F2 F3 F4 F5 F6 : List Nat} (h0 : (Lit.int .i64 (p.1)).wf = true) (h1 : (Lit.int .i64 (p.2.1)).wf = true) (h2 : tHeld.row.O w [v2] (p.2.2.1.1) F2) (h3 : tIs.O w [v3] (p.2.2.1.2) F3) (h4 : tWhole.row.O w [v4] (p.2.2.2.1.1) F4) (h5 : tIs.O w [v5] (p.2.2.2.1.2) F5) (h6 : tLetter.row.O w [v6] (p.2.2.2.2) F6) : ∃ F, tNode.O w [.int .i64 (p.1), .int .i64 (p.2.1), v2, v3, v4, v5, v6] p F ∧ F = F2 ++ F3 ++ F4 ++ F5 ++ F6 := ⟨_, ⟨_, _, _, _, rfl, rfl, ⟨rfl, h0, rfl⟩, ⟨_, _, _, _, rfl, rfl, ⟨rfl, h1, rfl⟩, ⟨_, _, _, _, rfl, rfl, ⟨_, _, _, _, rfl, rfl, h2, h3⟩, ⟨_, _, _, _, rfl, rfl, ⟨_, _, _, _, rfl, rfl, h4, h5⟩, h6⟩⟩⟩⟩, by simp⟩
/-! ### Mail -/
abbrev DMail := Int × DCell
abbrev tMail : Ty DMail := tInt.prod (tCell)
def szMail (p : DMail) : Nat := szCell (p.2)
def rcMail (p : DMail) : Nat := 1 + (p.2).length
def rmMail (k : Int) (p : DMail) : DMail := (k, marks8 (k + 1) (p.2).length)
theorem rcMail_le (p : DMail) : rcMail p ≤ 5 + 5 * szMail p := by
 simp only [rcMail, szMail, szCell]
 omega
theorem openMail {w : World} {B : Nat} {cs : List Value} {p : DMail} (h : tMail.R w B cs p) : ∃ A1 n1 c1, cs = [.int .i64 (p.1), .slice A1 n1 c1] ∧ (Lit.int .i64 (p.1)).wf = true ∧ n1 ≤ c1 ∧ c1 ≤ 9223372036854775807 ∧ (p.2).length = n1 ∧ tBy.R w B [.slice A1 n1 c1] (p.2) := by
 obtain ⟨ca1, cb1, rfl, ha1, hb1⟩ := h
 obtain ⟨rfl, hi2⟩ := ha1
 obtain ⟨A3, n3, c3, rfl, he3, hf3, hg3⟩ := sl_one hb1
 exact ⟨A3, n3, c3, rfl, hi2, he3, hf3, hg3.1, ⟨A3, n3, c3, rfl, he3, hf3, hg3⟩⟩
theorem makeMail {w : World} {B : Nat} {p : DMail} {v1 : Value} (h0 : (Lit.int .i64 (p.1)).wf = true) (h1 : tBy.R w B [v1] (p.2)) : tMail.R w B [.int .i64 (p.1), v1] p := ⟨_, _, rfl, ⟨rfl, h0⟩, h1⟩
theorem openOMail {w : World} {cs : List Value} {p : DMail} {F : List Nat} (h : tMail.O w cs p F) : ∃ A1 c1 F1, cs = [.int .i64 (p.1), .slice A1 (p.2).length c1] ∧ F = F1 ∧ (Lit.int .i64 (p.1)).wf = true ∧ (p.2).length ≤ c1 ∧ c1 ≤ 9223372036854775807 ∧ tBy.O w [.slice A1 (p.2).length c1] (p.2) F1 := by
 obtain ⟨ca1, cb1, Fa1, Fb1, rfl, rfl, ha1, hb1⟩ := h
 obtain ⟨rfl, hi2, rfl⟩ := ha1
 have hr3 := hb1
 obtain ⟨A3, c3, rfl, he3, hf3⟩ := slO_one hb1
 exact ⟨A3, c3, Fb1, rfl, by simp, hi2, he3, hf3, hr3⟩
theorem makeOMail {w : World} {p : DMail} {v1 : Value} {F1 : List Nat} (h0 : (Lit.int .i64 (p.1)).wf = true) (h1 : tBy.O w [v1] (p.2) F1) : ∃ F, tMail.O w [.int .i64 (p.1), v1] p F ∧ F = F1 := ⟨_, ⟨_, _, _, _, rfl, rfl, ⟨rfl, h0, rfl⟩, h1⟩, by simp⟩
/-! ### Sent -/
abbrev DSent := Int × Int × List Int
abbrev tSent : Ty DSent := tInt.prod (tInt.prod (tBy))
def szSent (p : DSent) : Nat := (p.2.2).length
def rcSent (p : DSent) : Nat := 1 + 1 + (p.2.2).length
def rmSent (k : Int) (p : DSent) : DSent := (k, k + 1, marks8 (k + 1 + 1) (p.2.2).length)
theorem rcSent_le (p : DSent) : rcSent p ≤ 5 + 5 * szSent p := by
 simp only [rcSent, szSent]
 omega
theorem openSent {w : World} {B : Nat} {cs : List Value} {p : DSent} (h : tSent.R w B cs p) : ∃ A2 n2 c2, cs = [.int .i64 (p.1), .int .i64 (p.2.1), .slice A2 n2 c2] ∧ (Lit.int .i64 (p.1)).wf = true ∧ (Lit.int .i64 (p.2.1)).wf = true ∧ n2 ≤ c2 ∧ c2 ≤ 9223372036854775807 ∧ (p.2.2).length = n2 ∧ tBy.R w B [.slice A2 n2 c2] (p.2.2) := by
 obtain ⟨ca1, cb1, rfl, ha1, hb1⟩ := h
 obtain ⟨rfl, hi2⟩ := ha1
 obtain ⟨ca3, cb3, rfl, ha3, hb3⟩ := hb1
 obtain ⟨rfl, hi4⟩ := ha3
 obtain ⟨A5, n5, c5, rfl, he5, hf5, hg5⟩ := sl_one hb3
 exact ⟨A5, n5, c5, rfl, hi2, hi4, he5, hf5, hg5.1, ⟨A5, n5, c5, rfl, he5, hf5, hg5⟩⟩
theorem openOSent {w : World} {cs : List Value} {p : DSent} {F : List Nat} (h : tSent.O w cs p F) : ∃ A2 c2 F2, cs = [.int .i64 (p.1), .int .i64 (p.2.1), .slice A2 (p.2.2).length c2] ∧ F = F2 ∧ (Lit.int .i64 (p.1)).wf = true ∧ (Lit.int .i64 (p.2.1)).wf = true ∧ (p.2.2).length ≤ c2 ∧ c2 ≤ 9223372036854775807 ∧ tBy.O w [.slice A2 (p.2.2).length c2] (p.2.2) F2 := by
 obtain ⟨ca1, cb1, Fa1, Fb1, rfl, rfl, ha1, hb1⟩ := h
 obtain ⟨rfl, hi2, rfl⟩ := ha1
 obtain ⟨ca3, cb3, Fa3, Fb3, rfl, rfl, ha3, hb3⟩ := hb1
 obtain ⟨rfl, hi4, rfl⟩ := ha3
 have hr5 := hb3
 obtain ⟨A5, c5, rfl, he5, hf5⟩ := slO_one hb3
 exact ⟨A5, c5, Fb3, rfl, by simp, hi2, hi4, he5, hf5, hr5⟩
theorem makeOSent {w : World} {p : DSent} {v2 : Value} {F2 : List Nat} (h0 : (Lit.int .i64 (p.1)).wf = true) (h1 : (Lit.int .i64 (p.2.1)).wf = true) (h2 : tBy.O w [v2] (p.2.2) F2) : ∃ F, tSent.O w [.int .i64 (p.1), .int .i64 (p.2.1), v2] p F ∧ F = F2 := ⟨_, ⟨_, _, _, _, rfl, rfl, ⟨rfl, h0, rfl⟩, ⟨_, _, _, _, rfl, rfl, ⟨rfl, h1, rfl⟩, h2⟩⟩, by simp⟩
/-! ### Glance -/
abbrev DGlance := Int × Int
abbrev tGlance : Ty DGlance := tInt.prod (tInt)
def szGlance (p : DGlance) : Nat := 0
def rcGlance (p : DGlance) : Nat := 1 + 1
def rmGlance (k : Int) (p : DGlance) : DGlance := (k, k + 1)
theorem rcGlance_le (p : DGlance) : rcGlance p ≤ 5 + 5 * szGlance p := by
 simp only [rcGlance, szGlance]
 omega
theorem openGlance {w : World} {B : Nat} {cs : List Value} {p : DGlance} (h : tGlance.R w B cs p) : cs = [.int .i64 (p.1), .int .i64 (p.2)] ∧ (Lit.int .i64 (p.1)).wf = true ∧ (Lit.int .i64 (p.2)).wf = true := by
 obtain ⟨ca1, cb1, rfl, ha1, hb1⟩ := h
 obtain ⟨rfl, hi2⟩ := ha1
 obtain ⟨rfl, hi3⟩ := hb1
 exact ⟨rfl, hi2, hi3⟩
theorem makeGlance {w : World} {B : Nat} {p : DGlance} (h0 : (Lit.int .i64 (p.1)).wf = true) (h1 : (Lit.int .i64 (p.2)).wf = true) : tGlance.R w B [.int .i64 (p.1), .int .i64 (p.2)] p := ⟨_, _, rfl, ⟨rfl, h0⟩, ⟨rfl, h1⟩⟩
theorem openOGlance {w : World} {cs : List Value} {p : DGlance} {F : List Nat} (h : tGlance.O w cs p F) : cs = [.int .i64 (p.1), .int .i64 (p.2)] ∧ F = [] ∧ (Lit.int .i64 (p.1)).wf = true ∧ (Lit.int .i64 (p.2)).wf = true := by
 obtain ⟨ca1, cb1, Fa1, Fb1, rfl, rfl, ha1, hb1⟩ := h
 obtain ⟨rfl, hi2, rfl⟩ := ha1
 obtain ⟨rfl, hi3, rfl⟩ := hb1
 exact ⟨rfl, by simp, hi2, hi3⟩
theorem makeOGlance {w : World} {p : DGlance} (h0 : (Lit.int .i64 (p.1)).wf = true) (h1 : (Lit.int .i64 (p.2)).wf = true) : ∃ F, tGlance.O w [.int .i64 (p.1), .int .i64 (p.2)] p F ∧ F = [] := ⟨_, ⟨_, _, _, _, rfl, rfl, ⟨rfl, h0, rfl⟩, ⟨rfl, h1, rfl⟩⟩, by simp⟩
/-! ### Net -/
abbrev DNet := Int × Int × Int × List DNode × List DMail × List DSent × List DGlance
abbrev tNet : Ty DNet := tInt.prod (tInt.prod (tInt.prod (tNode.row.prod (tMail.row.prod (tSent.row.prod (tGlance.row))))))
def szNet (p : DNet) : Nat := rsz szNode (p.2.2.2.1) + rsz szMail (p.2.2.2.2.1) + rsz szSent (p.2.2.2.2.2.1) + rsz szGlance (p.2.2.2.2.2.2)
def cntNet (p : DNet) : Nat := rsum rcNode (p.2.2.2.1) + rsum rcMail (p.2.2.2.2.1) + rsum rcSent (p.2.2.2.2.2.1) + rsum rcGlance (p.2.2.2.2.2.2)
def mkNet (k : Int) (p : DNet) : DNet := (p.1, p.2.1, p.2.2.1, rmk rcNode rmNode (k) (p.2.2.2.1), rmk rcMail rmMail (k + ((rsum rcNode (p.2.2.2.1) : Nat) : Int)) (p.2.2.2.2.1), rmk rcSent rmSent (k + ((rsum rcNode (p.2.2.2.1) : Nat) : Int) + ((rsum rcMail (p.2.2.2.2.1) : Nat) : Int)) (p.2.2.2.2.2.1), rmk rcGlance rmGlance (k + ((rsum rcNode (p.2.2.2.1) : Nat) : Int) + ((rsum rcMail (p.2.2.2.2.1) : Nat) : Int) + ((rsum rcSent (p.2.2.2.2.2.1) : Nat) : Int)) (p.2.2.2.2.2.2))
theorem cntNet_le (p : DNet) : cntNet p ≤ 5 * szNet p := by
 have h3 := rsum_M (c := rcNode) (s := szNode) (M := 5) rcNode_le (p.2.2.2.1)
 have h4 := rsum_M (c := rcMail) (s := szMail) (M := 5) rcMail_le (p.2.2.2.2.1)
 have h5 := rsum_M (c := rcSent) (s := szSent) (M := 5) rcSent_le (p.2.2.2.2.2.1)
 have h6 := rsum_M (c := rcGlance) (s := szGlance) (M := 5) rcGlance_le (p.2.2.2.2.2.2)
 simp only [cntNet, szNet]
 omega
theorem openNet {w : World} {B : Nat} {cs : List Value} {p : DNet} (h : tNet.R w B cs p) : ∃ A3 n3 c3 A4 n4 c4 A5 n5 c5 A6 n6 c6, cs = [.int .i64 (p.1), .int .i64 (p.2.1), .int .i64 (p.2.2.1), .slice A3 n3 c3, .slice A4 n4 c4, .slice A5 n5 c5, .slice A6 n6 c6] ∧ (Lit.int .i64 (p.1)).wf = true ∧ (Lit.int .i64 (p.2.1)).wf = true ∧ (Lit.int .i64 (p.2.2.1)).wf = true ∧ n3 ≤ c3 ∧ c3 ≤ 9223372036854775807 ∧ (p.2.2.2.1).length = n3 ∧ tNode.row.R w B [.slice A3 n3 c3] (p.2.2.2.1) ∧ n4 ≤ c4 ∧ c4 ≤ 9223372036854775807 ∧ (p.2.2.2.2.1).length = n4 ∧ tMail.row.R w B [.slice A4 n4 c4] (p.2.2.2.2.1) ∧ n5 ≤ c5 ∧ c5 ≤ 9223372036854775807 ∧ (p.2.2.2.2.2.1).length = n5 ∧ tSent.row.R w B [.slice A5 n5 c5] (p.2.2.2.2.2.1) ∧ n6 ≤ c6 ∧ c6 ≤ 9223372036854775807 ∧ (p.2.2.2.2.2.2).length = n6 ∧ tGlance.row.R w B [.slice A6 n6 c6] (p.2.2.2.2.2.2) := by
 obtain ⟨ca1, cb1, rfl, ha1, hb1⟩ := h
 obtain ⟨rfl, hi2⟩ := ha1
 obtain ⟨ca3, cb3, rfl, ha3, hb3⟩ := hb1
 obtain ⟨rfl, hi4⟩ := ha3
 obtain ⟨ca5, cb5, rfl, ha5, hb5⟩ := hb3
 obtain ⟨rfl, hi6⟩ := ha5
 obtain ⟨ca7, cb7, rfl, ha7, hb7⟩ := hb5
 have hr8 := ha7
 obtain ⟨A8, n8, c8, rfl, he8, hf8, hg8⟩ := row_one ha7
 obtain ⟨ca9, cb9, rfl, ha9, hb9⟩ := hb7
 have hr10 := ha9
 obtain ⟨A10, n10, c10, rfl, he10, hf10, hg10⟩ := row_one ha9
 obtain ⟨ca11, cb11, rfl, ha11, hb11⟩ := hb9
 have hr12 := ha11
 obtain ⟨A12, n12, c12, rfl, he12, hf12, hg12⟩ := row_one ha11
 have hr13 := hb11
 obtain ⟨A13, n13, c13, rfl, he13, hf13, hg13⟩ := row_one hb11
 exact ⟨A8, n8, c8, A10, n10, c10, A12, n12, c12, A13, n13, c13, rfl, hi2, hi4, hi6, he8, hf8, hg8, hr8, he10, hf10, hg10, hr10, he12, hf12, hg12, hr12, he13, hf13, hg13, hr13⟩
theorem makeNet {w : World} {B : Nat} {p : DNet} {v3 v4 v5 v6 : Value} (h0 : (Lit.int .i64 (p.1)).wf = true) (h1 : (Lit.int .i64 (p.2.1)).wf = true) (h2 : (Lit.int .i64 (p.2.2.1)).wf = true) (h3 : tNode.row.R w B [v3] (p.2.2.2.1)) (h4 : tMail.row.R w B [v4] (p.2.2.2.2.1)) (h5 : tSent.row.R w B [v5] (p.2.2.2.2.2.1)) (h6 : tGlance.row.R w B [v6] (p.2.2.2.2.2.2)) : tNet.R w B [.int .i64 (p.1), .int .i64 (p.2.1), .int .i64 (p.2.2.1), v3, v4, v5, v6] p := ⟨_, _, rfl, ⟨rfl, h0⟩, ⟨_, _, rfl, ⟨rfl, h1⟩, ⟨_, _, rfl, ⟨rfl, h2⟩, ⟨_, _, rfl, h3, ⟨_, _, rfl, h4, ⟨_, _, rfl, h5, h6⟩⟩⟩⟩⟩⟩
theorem openONet {w : World} {cs : List Value} {p : DNet} {F : List Nat} (h : tNet.O w cs p F) : ∃ A3 c3 F3 A4 c4 F4 A5 c5 F5 A6 c6 F6, cs = [.int .i64 (p.1), .int .i64 (p.2.1), .int .i64 (p.2.2.1), .slice A3 (p.2.2.2.1).length c3, .slice A4 (p.2.2.2.2.1).length c4, .slice A5 (p.2.2.2.2.2.1).length c5, .slice A6 (p.2.2.2.2.2.2).length c6] ∧ F = F3 ++ F4 ++ F5 ++ F6 ∧ (Lit.int .i64 (p.1)).wf = true ∧ (Lit.int .i64 (p.2.1)).wf = true ∧ (Lit.int .i64 (p.2.2.1)).wf = true ∧ (p.2.2.2.1).length ≤ c3 ∧ c3 ≤ 9223372036854775807 ∧ tNode.row.O w [.slice A3 (p.2.2.2.1).length c3] (p.2.2.2.1) F3 ∧ (p.2.2.2.2.1).length ≤ c4 ∧ c4 ≤ 9223372036854775807 ∧ tMail.row.O w [.slice A4 (p.2.2.2.2.1).length c4] (p.2.2.2.2.1) F4 ∧ (p.2.2.2.2.2.1).length ≤ c5 ∧ c5 ≤ 9223372036854775807 ∧ tSent.row.O w [.slice A5 (p.2.2.2.2.2.1).length c5] (p.2.2.2.2.2.1) F5 ∧ (p.2.2.2.2.2.2).length ≤ c6 ∧ c6 ≤ 9223372036854775807 ∧ tGlance.row.O w [.slice A6 (p.2.2.2.2.2.2).length c6] (p.2.2.2.2.2.2) F6 := by
 obtain ⟨ca1, cb1, Fa1, Fb1, rfl, rfl, ha1, hb1⟩ := h
 obtain ⟨rfl, hi2, rfl⟩ := ha1
 obtain ⟨ca3, cb3, Fa3, Fb3, rfl, rfl, ha3, hb3⟩ := hb1
 obtain ⟨rfl, hi4, rfl⟩ := ha3
 obtain ⟨ca5, cb5, Fa5, Fb5, rfl, rfl, ha5, hb5⟩ := hb3
 obtain ⟨rfl, hi6, rfl⟩ := ha5
 obtain ⟨ca7, cb7, Fa7, Fb7, rfl, rfl, ha7, hb7⟩ := hb5
 have hr8 := ha7
 obtain ⟨A8, c8, rfl, he8, hf8⟩ := rowO_one ha7
 obtain ⟨ca9, cb9, Fa9, Fb9, rfl, rfl, ha9, hb9⟩ := hb7
 have hr10 := ha9
 obtain ⟨A10, c10, rfl, he10, hf10⟩ := rowO_one ha9
 obtain ⟨ca11, cb11, Fa11, Fb11, rfl, rfl, ha11, hb11⟩ := hb9
 have hr12 := ha11
 obtain ⟨A12, c12, rfl, he12, hf12⟩ := rowO_one ha11
 have hr13 := hb11
 obtain ⟨A13, c13, rfl, he13, hf13⟩ := rowO_one hb11
 exact ⟨A8, c8, Fa7, A10, c10, Fa9, A12, c12, Fa11, A13, c13, Fb11, rfl, by simp, hi2, hi4, hi6, he8, hf8, hr8, he10, hf10, hr10, he12, hf12, hr12, he13, hf13, hr13⟩
theorem makeONet {w : World} {p : DNet} {v3 v4 v5 v6 : Value} {F3 F4 F5 F6 : List Nat} (h0 : (Lit.int .i64 (p.1)).wf = true) (h1 : (Lit.int .i64 (p.2.1)).wf = true) (h2 : (Lit.int .i64 (p.2.2.1)).wf = true) (h3 : tNode.row.O w [v3] (p.2.2.2.1) F3) (h4 : tMail.row.O w [v4] (p.2.2.2.2.1) F4) (h5 : tSent.row.O w [v5] (p.2.2.2.2.2.1) F5) (h6 : tGlance.row.O w [v6] (p.2.2.2.2.2.2) F6) : ∃ F, tNet.O w [.int .i64 (p.1), .int .i64 (p.2.1), .int .i64 (p.2.2.1), v3, v4, v5, v6] p F ∧ F = F3 ++ F4 ++ F5 ++ F6 := ⟨_, ⟨_, _, _, _, rfl, rfl, ⟨rfl, h0, rfl⟩, ⟨_, _, _, _, rfl, rfl, ⟨rfl, h1, rfl⟩, ⟨_, _, _, _, rfl, rfl, ⟨rfl, h2, rfl⟩, ⟨_, _, _, _, rfl, rfl, h3, ⟨_, _, _, _, rfl, rfl, h4, ⟨_, _, _, _, rfl, rfl, h5, h6⟩⟩⟩⟩⟩⟩, by simp⟩
/-! ### Cmd -/
end Go.Proofs.YtkdanlnhdgcplaaGreat
namespace Go.Proofs.YtkdanlnhdgcplaaGreat
open Go.ChangeShapes Go.WideShapes Go.ChangeAt Go.RowKit
theorem sliceO.row {K : IntKind} {w : World} {n c : Nat} {A : Option Addr} {l : List Int} {F : List Nat} (h : sliceO K w [.slice A n c] l F) (hn : 0 < n) :
  ∃ g off, A = some ⟨g, off, none⟩ ∧ l.length = n ∧ n ≤ c ∧ c ≤ 9223372036854775807 ∧ (∀ i, i < n → w.cell? ⟨g, off + i, none⟩ = some (.int K (l.getD i 0))) ∧ (∀ i, w.frozen? ⟨g, i, none⟩ = false) ∧ F = [g] ∧ g < w.heap.size := by
 rcases h with ⟨A, c, h1, h2, rfl, _⟩ | ⟨g, off, c, cur, t, h1, h2, h3, h4, h5, h6, h7, rfl⟩
 ·injection h1 with h1 _; injection h1 with _ e2 _; omega
 ·injection h1 with h1 _; injection h1 with e1 e2 e3
  subst e1 e2 e3
  exact ⟨g, off, rfl, rfl, h3, h4, fun i hi => by rw [Box.cell (t := t) h5]; exact h6 i hi, fun i => Box.frozen (t := t) h5 i, rfl, Box.size (t := t) h5⟩
theorem sliceO.len {K : IntKind} {w : World} {n c : Nat} {A : Option Addr} {l : List Int} {F : List Nat} (h : sliceO K w [.slice A n c] l F) : l.length = n ∧ n ≤ c ∧ c ≤ 9223372036854775807 := by
 rcases h with ⟨A, c, h1, h2, rfl, _⟩ | ⟨g, off, c, cur, t, h1, h2, h3, h4, h5, h6, h7, rfl⟩
 ·injection h1 with h1 _; injection h1 with _ e2 e3; subst e2 e3; exact ⟨rfl, Nat.zero_le _, h2⟩
 ·injection h1 with h1 _; injection h1 with e1 e2 e3
  subst e1 e2 e3
  exact ⟨rfl, h3, h4⟩
theorem sliceO.put {K : IntKind} {w : World} {n c g off : Nat} {l : List Int} {F : List Nat} (h : sliceO K w [.slice (some ⟨g, off, none⟩) n c] l F) {i : Nat} (hi : i < n) {x : Int} (hx : (Lit.int K x).wf = true) :
  sliceO K (w.setCell ⟨g, off + i, none⟩ (.int K x)) [.slice (some ⟨g, off, none⟩) n c] (l.set i x) F := by
 rcases h with ⟨A, c, h1, h2, rfl, _⟩ | ⟨g, off, c, cur, t, h1, h2, h3, h4, h5, h6, h7, rfl⟩
 ·injection h1 with h1 _; injection h1 with _ e2 _; omega
 ·injection h1 with h1 _; injection h1 with e1 e2 e3
  injection e1 with e1
  injection e1 with e1 e4
  subst e1 e2 e3 e4
  have hb : off + i < cur.size := by
   have := h6 i hi
   by_cases hl : off + i < cur.size
   ·exact hl
   ·rw [Array.getElem?_eq_none (by omega)] at this; cases this
  refine .inr ⟨g, off, c, _, t, by rw [List.length_set], by rw [List.length_set]; omega, by rw [List.length_set]; omega, h4, Box.put (t := t) h5 (off + i) _, fun j hj => ?_, fun y hy => ?_, rfl⟩
  ·rw [List.length_set] at hj
   rw [Array.getElem?_setIfInBounds]
   by_cases hij : off + i = off + j
   ·have : i = j := by omega
    subst this
    rw [if_pos rfl, if_pos hb, List.getD_eq_getElem?_getD, List.getElem?_set_self hj]; rfl
   ·rw [if_neg hij, h6 j hj, List.getD_eq_getElem?_getD, List.getD_eq_getElem?_getD, List.getElem?_set_ne (by omega)]
  ·rcases List.mem_or_eq_of_mem_set hy with h' | rfl
   ·exact h7 y h'
   ·exact hx
theorem sliceO.nilO {K : IntKind} {w : World} {n c : Nat} {A : Option Addr} {F : List Nat} (h : sliceO K w [.slice A n c] [] F) : n = 0 ∧ F = [] := by
 rcases h with ⟨A, c, h1, h2, _, rfl⟩ | ⟨g, off, c, cur, t, h1, h2, _⟩
 ·injection h1 with h1 _; injection h1 with _ e2 _; exact ⟨e2, rfl⟩
 ·simp at h2
theorem only_set {F : List Nat} {a w : World} {g : Nat} (h : Only F a w) (hg : g ∈ F) (j : Nat) (u : Value) : Only F a (w.setCell ⟨g, j, none⟩ u) := h.put (.inl hg) u
theorem slR_ints {K : IntKind} {w : World} {B n c : Nat} {A : Option Addr} {l : List Int} (h : (tSl K).R w B [.slice A n c] l) : Ints K w B A n l ∧ n ≤ c ∧ c ≤ 9223372036854775807 := by
 obtain ⟨A', n', c', h1, h2, h3, h4⟩ := h
 injection h1 with h1 _; injection h1 with e1 e2 e3
 subst e1 e2 e3
 exact ⟨h4, h2, h3⟩
theorem ret_int {a b : Int} (h : a = b) : Ending.returned (.int .i64 a) = .returned (.int .i64 b) := by rw [h]
theorem Ty.far {α : Type} {t : Ty α} {w : World} {cs : List Value} {a : α} {F : List Nat} {B : Nat} (h : t.O w cs a F) (hN : New B F) {p : Addr} (hp : p.block < B) (u : Value) : t.O (w.setCell p u) cs a F :=
 t.kept h fun f hf => Below.heap_setCell w p u f (by rintro rfl; have := hN.2 _ hf; omega)
theorem cell_at {w w' : World} {b o : Nat} {v : Value} (hB : Bel w w') (hb : b < w.heap.size) (h : w.cell? ⟨b, o, none⟩ = some v) : w'.cell? ⟨b, o, none⟩ = some v :=
 (World.cell?_of_block (hB.block b hb)).trans h
theorem New.only {B : Nat} {F : List Nat} (h : New B F) : F.Nodup := h.1
set_option maxHeartbeats 400000 in
theorem o_markIntS {w : World} {n c : Nat} {A : Option Addr} {l : List Int} {F : List Nat} (k : Int) (h : (tSl .i64).O w [.slice A n c] l F) (h0 : 0 ≤ k) (hk : k + l.length ≤ 4611686018427387904) :
  Calls Tryz.prog 77 #[.slice A n c, .int .i64 k] w fun e w' => e = .returned (.int .i64 (k + l.length)) ∧ (tSl .i64).O w' [.slice A n c] (marks k l.length) F ∧ Only F w w' := by
 by_cases hz : l.length = 0
 ·have hl : l = [] := List.eq_nil_of_length_eq_zero hz
  subst hl
  obtain ⟨rfl, rfl⟩ := sliceO.nilO h
  clear hz
  go_enter Tryz.func77, Tryz.ntmps77
  go_wp2
  go_loop [1, 5] (fun x i => x = .int .i64 k ∧ i = .int .i64 0) (fun _ _ => 0)
  case atStart => exact ⟨rfl, rfl⟩
  case round =>
   obtain ⟨rfl, rfl⟩ := hrel
   go_wp2
   go_ret
   exact ⟨by simp, h, Only.refl _ _⟩
 ·obtain ⟨hn, hnc, hcm⟩ := sliceO.len h
  have HN := Lib.hid hn
  obtain ⟨g, off, rfl, _, _, _, _, _, rfl, hgs⟩ := sliceO.row h (by omega)
  have HZ := Lib.hid (mks_zero (fun i : Nat => k + (i : Int)) l)
  rw [hn] at hk hz
  rw [hn]
  clear hn
  go_enter Tryz.func77, Tryz.ntmps77
  go_wp2
  go_loopw [1, 5] (fun x i wr => ∃ j : Nat, j ≤ n ∧ x = .int .i64 (k + j) ∧ i = .int .i64 j ∧ sliceO .i64 wr [.slice (some ⟨g, off, none⟩) n c] (mks (fun i : Nat => k + (i : Int)) l j) [g] ∧ Only [g] w wr) (fun _ i _ => n - (RowKit.intOf i).toNat)
  case atStart => exact ⟨0, by omega, by go_num, rfl, by rw [HZ.out]; exact h, Only.refl _ _⟩
  case round =>
   obtain ⟨j, hj, rfl, rfl, hO, hG⟩ := hrel
   by_cases hlt : j < n
   ·have HS := Lib.hid (mks_set (fun i : Nat => k + (i : Int)) l j)
    obtain ⟨g', off', e1, _, _, _, hcell, hfz, _, _⟩ := sliceO.row hO (by omega)
    simp only [Option.some.injEq, Addr.mk.injEq, and_true] at e1
    obtain ⟨rfl, rfl⟩ := e1
    have hc1 := hcell j (by omega)
    have hf1 := hfz (off + j)
    have hP := sliceO.put hO hlt (x := k + (j : Int)) (WalkArith.wf_i64 (by omega))
    rw [HS.out] at hP
    clear hcell hfz
    go_wp2
    go_roundw
    case rel => exact ⟨j + 1, by omega, by go_num, by go_num, hP, only_set hG (by simp) _ _⟩
    case measure => simp [RowKit.intOf]; omega
   ·obtain rfl : j = n := by omega
    have HA := Lib.hid (show mks (fun i : Nat => k + (i : Int)) l j = marks k j from by rw [← HN.out]; exact mks_all _ _)
    go_wp2
    go_ret
    exact ⟨rfl, by rw [← HA.out]; exact hO, hG⟩
theorem o_heldIntS {w : World} {B n c : Nat} {A : Option Addr} (k : Int) {l : List Int} (h : (tSl .i64).R w B [.slice A n c] (marks k l.length)) (h0 : 0 ≤ k) (hk : k + l.length ≤ 4611686018427387904) :
  Calls Tryz.prog 81 #[.slice A n c, .int .i64 k] w fun e w' => e = .returned (.int .i64 (k + l.length)) ∧ Bel w w' := by
 have h1 := (slR_ints h).1
 have hn : l.length = n := by have := h1.1; rwa [marks_len] at this
 rw [hn] at h1 hk ⊢
 exact (l_heldIntS k h1 h0 hk).mono fun e w' hh => ⟨hh.1, hh.2 ▸ Below.refl _ _⟩
theorem o_eqIntS {w : World} {B n m c d : Nat} {A A' : Option Addr} {l : List Int} (h : (tSl .i64).R w B [.slice A n c] l) (h' : (tSl .i64).R w B [.slice A' m d] l) :
  Calls Tryz.prog 151 #[.slice A n c, .slice A' m d] w fun e w' => e = .returned (.bool true) ∧ Bel w w' := by
 have h1 := slR_ints h
 have h2 := slR_ints h'
 refine (l_eqIntS h1.1 h2.1 (by simp only [maxLen]; omega) (by simp only [maxLen]; omega)).mono fun e w' hh => ⟨by rw [hh.1]; simp, hh.2⟩
theorem o_toIntS {w : World} {n c : Nat} {A : Option Addr} {l : List Int} (h : (tSl .i64).R w w.heap.size [.slice A n c] l) (hn : l.length ≤ 1048576) :
  Calls Tryz.prog 135 #[.slice A n c] w fun e w' => ∃ A' c' F, e = .returned (.slice A' l.length c') ∧ (tSl .i64).O w' [.slice A' l.length c'] l F ∧ New w.heap.size F ∧ Bel w w' := by
 have h1 := (slR_ints h).1
 have e1 := h1.1
 refine (l_toIntS' h1 (by omega)).mono ?_
 rintro e w' ⟨b, rfl, hO, hB⟩
 obtain ⟨F, hF, hN⟩ := hO.tSl
 rw [← e1] at hF
 exact ⟨_, _, F, by rw [← e1], hF, hN, hB⟩
theorem o_szIntS_t {w : World} {B n c : Nat} {A : Option Addr} {l : List Int} {k : Int} (h : (tSl .i64).R w B [.slice A n c] l) (h1 : 0 ≤ k) (h2 : k ≤ 1048576) (h3 : (l.length : Int) ≤ k) :
  Calls Tryz.prog 125 #[.slice A n c, .int .i64 k] w fun e w' => e = .returned (.int .i64 (k - l.length)) ∧ Bel w w' := by
 have e1 := (slR_ints h).1.1
 rw [e1] at h3 ⊢
 have d : decide (k - (n : Int) < 0) = false := by simp; omega
 clear h e1
 go_enter Tryz.func125, Tryz.ntmps125
 go_wp2
 go_ret
 exact ⟨rfl, (belx)⟩
theorem o_szIntS_f {w : World} {B n c : Nat} {A : Option Addr} {l : List Int} {k : Int} (h : (tSl .i64).R w B [.slice A n c] l) (h1 : 0 ≤ k) (h2 : k ≤ 1048576) (h3 : ¬ (l.length : Int) ≤ k) :
  Calls Tryz.prog 125 #[.slice A n c, .int .i64 k] w fun e w' => e = .returned (.int .i64 (-1)) ∧ Bel w w' := by
 have hh := slR_ints h
 have e1 := hh.1.1
 have hn : n ≤ 9223372036854775807 := by omega
 rw [e1] at h3
 have d : decide (k - (n : Int) < 0) = true := by simp; omega
 clear h e1 hh
 go_enter Tryz.func125, Tryz.ntmps125
 go_wp2
 go_ret
 exact ⟨rfl, (belx)⟩
set_option maxHeartbeats 400000 in
theorem o_markByteS {w : World} {n c : Nat} {A : Option Addr} {l : List Int} {F : List Nat} (k : Int) (h : (tSl .u8).O w [.slice A n c] l F) (h0 : 0 ≤ k) (hk : k + l.length ≤ 4611686018427387904) :
  Calls Tryz.prog 13 #[.slice A n c, .int .i64 k] w fun e w' => e = .returned (.int .i64 (k + l.length)) ∧ (tSl .u8).O w' [.slice A n c] (marks8 k l.length) F ∧ Only F w w' := by
 by_cases hz : l.length = 0
 ·have hl : l = [] := List.eq_nil_of_length_eq_zero hz
  subst hl
  obtain ⟨rfl, rfl⟩ := sliceO.nilO h
  clear hz
  go_enter Tryz.func13, Tryz.ntmps13
  go_wp2
  go_loop [1, 5] (fun x i => x = .int .i64 k ∧ i = .int .i64 0) (fun _ _ => 0)
  case atStart => exact ⟨rfl, rfl⟩
  case round =>
   obtain ⟨rfl, rfl⟩ := hrel
   go_wp2
   go_ret
   exact ⟨by simp, h, Only.refl _ _⟩
 ·obtain ⟨hn, hnc, hcm⟩ := sliceO.len h
  have HN := Lib.hid hn
  obtain ⟨g, off, rfl, _, _, _, _, _, rfl, hgs⟩ := sliceO.row h (by omega)
  have HZ := Lib.hid (mks_zero (fun i : Nat => (k + (i : Int)) % 256) l)
  rw [hn] at hk hz
  rw [hn]
  clear hn
  go_enter Tryz.func13, Tryz.ntmps13
  go_wp2
  go_loopw [1, 5] (fun x i wr => ∃ j : Nat, j ≤ n ∧ x = .int .i64 (k + j) ∧ i = .int .i64 j ∧ sliceO .u8 wr [.slice (some ⟨g, off, none⟩) n c] (mks (fun i : Nat => (k + (i : Int)) % 256) l j) [g] ∧ Only [g] w wr) (fun _ i _ => n - (RowKit.intOf i).toNat)
  case atStart => exact ⟨0, by omega, by go_num, rfl, by rw [HZ.out]; exact h, Only.refl _ _⟩
  case round =>
   obtain ⟨j, hj, rfl, rfl, hO, hG⟩ := hrel
   by_cases hlt : j < n
   ·have HS := Lib.hid (mks_set (fun i : Nat => (k + (i : Int)) % 256) l j)
    obtain ⟨g', off', e1, _, _, _, hcell, hfz, _, _⟩ := sliceO.row hO (by omega)
    simp only [Option.some.injEq, Addr.mk.injEq, and_true] at e1
    obtain ⟨rfl, rfl⟩ := e1
    have hc1 := hcell j (by omega)
    have hf1 := hfz (off + j)
    have hP := sliceO.put hO hlt (x := (k + (j : Int)) % 256) (WalkArith.wf_u8 (by omega))
    rw [HS.out] at hP
    clear hcell hfz
    go_wp2
    go_roundw
    case rel => exact ⟨j + 1, by omega, by go_num, by go_num, hP, only_set hG (by simp) _ _⟩
    case measure => simp [RowKit.intOf]; omega
   ·obtain rfl : j = n := by omega
    have HA := Lib.hid (show mks (fun i : Nat => (k + (i : Int)) % 256) l j = marks8 k j from by rw [← HN.out]; exact mks_all _ _)
    go_wp2
    go_ret
    exact ⟨rfl, by rw [← HA.out]; exact hO, hG⟩
theorem o_heldByteS {w : World} {B n c : Nat} {A : Option Addr} (k : Int) {l : List Int} (h : (tSl .u8).R w B [.slice A n c] (marks8 k l.length)) (h0 : 0 ≤ k) (hk : k + l.length ≤ 4611686018427387904) :
  Calls Tryz.prog 84 #[.slice A n c, .int .i64 k] w fun e w' => e = .returned (.int .i64 (k + l.length)) ∧ Bel w w' := by
 have h1 := (slR_ints h).1
 have hn : l.length = n := by have := h1.1; rwa [marks8_len] at this
 rw [hn] at h1 hk ⊢
 exact (l_heldByteS k h1 h0 hk).mono fun e w' hh => ⟨hh.1, hh.2 ▸ Below.refl _ _⟩
theorem o_eqByteS {w : World} {B n m c d : Nat} {A A' : Option Addr} {l : List Int} (h : (tSl .u8).R w B [.slice A n c] l) (h' : (tSl .u8).R w B [.slice A' m d] l) :
  Calls Tryz.prog 11 #[.slice A n c, .slice A' m d] w fun e w' => e = .returned (.bool true) ∧ Bel w w' := by
 have h1 := slR_ints h
 have h2 := slR_ints h'
 refine (l_eqByteS h1.1 h2.1 (by simp only [maxLen]; omega) (by simp only [maxLen]; omega)).mono fun e w' hh => ⟨by rw [hh.1]; simp, hh.2⟩
theorem o_toByteS {w : World} {n c : Nat} {A : Option Addr} {l : List Int} (h : (tSl .u8).R w w.heap.size [.slice A n c] l) (hn : l.length ≤ 1048576) :
  Calls Tryz.prog 8 #[.slice A n c] w fun e w' => ∃ A' c' F, e = .returned (.slice A' l.length c') ∧ (tSl .u8).O w' [.slice A' l.length c'] l F ∧ New w.heap.size F ∧ Bel w w' := by
 have h1 := (slR_ints h).1
 have e1 := h1.1
 refine (l_toByteS' h1 (by omega)).mono ?_
 rintro e w' ⟨b, rfl, hO, hB⟩
 obtain ⟨F, hF, hN⟩ := hO.tSl
 rw [← e1] at hF
 exact ⟨_, _, F, by rw [← e1], hF, hN, hB⟩
theorem o_szByteS_t {w : World} {B n c : Nat} {A : Option Addr} {l : List Int} {k : Int} (h : (tSl .u8).R w B [.slice A n c] l) (h1 : 0 ≤ k) (h2 : k ≤ 1048576) (h3 : (l.length : Int) ≤ k) :
  Calls Tryz.prog 90 #[.slice A n c, .int .i64 k] w fun e w' => e = .returned (.int .i64 (k - l.length)) ∧ Bel w w' := by
 have e1 := (slR_ints h).1.1
 rw [e1] at h3 ⊢
 have d : decide (k - (n : Int) < 0) = false := by simp; omega
 clear h e1
 go_enter Tryz.func90, Tryz.ntmps90
 go_wp2
 go_ret
 exact ⟨rfl, (belx)⟩
theorem o_szByteS_f {w : World} {B n c : Nat} {A : Option Addr} {l : List Int} {k : Int} (h : (tSl .u8).R w B [.slice A n c] l) (h1 : 0 ≤ k) (h2 : k ≤ 1048576) (h3 : ¬ (l.length : Int) ≤ k) :
  Calls Tryz.prog 90 #[.slice A n c, .int .i64 k] w fun e w' => e = .returned (.int .i64 (-1)) ∧ Bel w w' := by
 have hh := slR_ints h
 have e1 := hh.1.1
 have hn : n ≤ 9223372036854775807 := by omega
 rw [e1] at h3
 have d : decide (k - (n : Int) < 0) = true := by simp; omega
 clear h e1 hh
 go_enter Tryz.func90, Tryz.ntmps90
 go_wp2
 go_ret
 exact ⟨rfl, (belx)⟩
end Go.Proofs.YtkdanlnhdgcplaaGreat
namespace Go.Proofs.YtkdanlnhdgcplaaGreat
open Go.RowKit

theorem wf_i64 {x : Int} (h1 : -9223372036854775808 ≤ x) (h2 : x ≤ 9223372036854775807) : (Lit.int .i64 x).wf = true := WalkArith.wf_i64 ⟨by omega, by omega⟩
theorem own_sn {k : IntKind} {e : TypeId} {w w1 : World} {base : Nat} {v v1 : Value} {l l' : List Int} {x : Int} (h : Own k e w base v l) (h1 : w1.ownsRow base e 1 v1 (l.length + 1) (l.map (Value.int k) ++ [.int k x])) (hl : l' = l ++ [x]) (hx : (Lit.int k x).wf = true) : Own k e w1 base v1 l' := by
 subst hl
 refine Own.of (n := l.length + 1) (by simpa using h1) fun y hy => ?_
 rcases List.mem_append.1 hy with h' | h'
 ·exact h.2 y h'
 ·rw [List.mem_singleton] at h'; rw [h']; exact hx
theorem below_sn {k : IntKind} {e : TypeId} {w wr w1 : World} {base : Nat} {v : Value} {l : List Int} {o : Obj} (hB : Bel w wr) (h : Own k e wr base v l) (hb : w.heap.size ≤ base) (hg : (wr.alloc o).grownBy w1 v.ownBlock) : Bel w w1 :=
 (hB.alloc hB.size o).grown hg (by simp; have := hB.size; omega) fun b hb' => by have := (h.1.lt b hb').1; omega
end Go.Proofs.YtkdanlnhdgcplaaGreat
namespace Go.Proofs.YtkdanlnhdgcplaaGreat
set_option maxRecDepth 100000
set_option linter.unusedVariables false
set_option linter.unusedSimpArgs false
open Go.ChangeShapes Go.WideShapes Go.ChangeAt Go.RowKit
section
variable {α : Type} {P : α → Prop} {p : α → Bool} {f : α → Int} {l : List α} {a : α} {j : Nat}
theorem al0 : ∀ h ∈ l.take 0, P h := fun h hh => absurd hh (by simp)
theorem alS (h : ∀ x ∈ l.take j, P x) (hl : l[j]? = some a) (ha : P a) : ∀ x ∈ l.take (j + 1), P x := by
 rw [take_sn hl]
 intro x hx
 rcases List.mem_append.1 hx with h' | h'
 ·exact h x h'
 ·rw [List.mem_singleton] at h'; rw [h']; exact ha
theorem alE (h : ∀ x ∈ l.take j, P x) (hj : l.length ≤ j) : ∀ x ∈ l, P x := by rwa [List.take_of_length_le hj] at h
theorem alMem (hl : l[j]? = some a) : a ∈ l := List.mem_of_getElem? hl
theorem alF (hl : l[j]? = some a) (h : p a = false) : l.all p = false := List.all_eq_false.2 ⟨a, alMem hl, by rw [h]; decide⟩
theorem alT (h : ∀ x ∈ l.take j, p x = true) (hj : l.length ≤ j) : l.all p = true := List.all_eq_true.2 (alE h hj)
theorem mapS (hl : l[j]? = some a) : (l.take (j + 1)).map f = (l.take j).map f ++ [f a] := by rw [take_sn hl, List.map_append]; rfl
theorem mapLen (hn : j ≤ l.length) : ((l.take j).map f).length = j := by rw [List.length_map, List.length_take]; omega
theorem alDec [∀ x, Decidable (P x)] (h : ∀ x ∈ l, P x) : (l.all fun x => decide (P x)) = true := List.all_eq_true.2 fun x hx => decide_eq_true (h x hx)
theorem alDecF [∀ x, Decidable (P x)] (h : ¬ ∀ x ∈ l, P x) : (l.all fun x => decide (P x)) = false := Bool.eq_false_iff.2 fun hh => h fun x hx => of_decide_eq_true (List.all_eq_true.1 hh x hx)
end
theorem atI {l : List Int} {n j : Nat} (h : l.length = n) (hj : j < n) : l[j]? = some (l.getD j 0) := by
 rw [List.getD_eq_getElem?_getD, List.getElem?_eq_getElem (by omega)]; rfl
theorem i_everyI {w : World} {B n c : Nat} {A : Option Addr} {l : List Int} (F : Nat) (p : Int → Bool) (hE : ∀ (x : Int) (w : World), Sem.run Tryz.prog (callFunc F #[Value.int .i64 x]) w = .ok (.enter F #[Value.int .i64 x]) w) (hF : ∀ (x : Int) (w : World), Calls Tryz.prog F #[.int .i64 x] w fun e w' => e = .returned (.bool (p x)) ∧ w = w') (hl : Ints .i64 w B A n l) (hn : n ≤ 17592186043904) :
  Calls Tryz.prog 163 #[.slice A n c, .func (.func F) #[] #[]] w fun e w' => e = .returned (.bool (l.all p)) ∧ w = w' := by
 have HL := Lib.hid hl.1
 have HF := Lib.hid hF
 have HE := Lib.hid hE
 clear hF hE
 go_enter Tryz.func163, Tryz.ntmps163
 go_wp2_with fail
 go_loopw [9] (fun i wr => ∃ k : Nat, k ≤ n ∧ i = .int .i64 k ∧ (∀ x ∈ l.take k, p x = true) ∧ wr = w) (fun i _ => n - (RowKit.intOf i).toNat)
 case atStart => exact ⟨0, by omega, rfl, al0, rfl⟩
 case round =>
  obtain ⟨k, hk, rfl, hG, rfl⟩ := hrel
  have HG := Lib.hid hG
  clear hG
  by_cases hlt : k < n
  ·obtain ⟨b, off, rfl, hb, hcell, hwf⟩ := hl.at_ hlt
   have HA := Lib.hid (atI HL.out hlt)
   obtain ⟨x, hx⟩ : ∃ x, l.getD k 0 = x := ⟨_, rfl⟩
   rw [hx] at hcell HA
   clear hx hwf
   have q2 : (k : Int) < (n : Int) := by omega
   go_wp2_with fail
   rw [HE.out, Oper.upon_enter]
   refine (HF.out x _).mono ?_
   rintro e w' ⟨rfl, rfl⟩
   obtain ⟨d, hd⟩ : ∃ d, p x = d := ⟨_, rfl⟩
   rw [hd]
   have HD := Lib.hid hd
   clear hd
   cases d
   ·have HR := Lib.hid (alF HA.out HD.out)
    go_wp2
    go_ret
    exact ⟨ret_bool HR.out.symm, rfl⟩
   ·go_wp2
    go_roundw
    case rel => exact ⟨k + 1, by omega, by go_num, alS HG.out HA.out HD.out, trivial⟩
    case measure => simp [RowKit.intOf]; omega
  ·obtain rfl : k = n := by omega
   have q2 : ¬ (k : Int) < (k : Int) := by omega
   have HR := Lib.hid (alT HG.out (Nat.le_of_eq HL.out))
   go_wp2
   go_ret
   exact ⟨ret_bool HR.out.symm, rfl⟩
end Go.Proofs.YtkdanlnhdgcplaaGreat
namespace Go.Proofs.YtkdanlnhdgcplaaGreat
open Fld

/-! ### bytes -/
def Bytes (l : List Int) : Prop := ∀ x ∈ l, 0 ≤ x ∧ x < 256
theorem Bytes.at_ {l : List Int} (h : Bytes l) (i : Nat) : 0 ≤ l.getD i 0 ∧ l.getD i 0 < 256 := by
 rw [List.getD_eq_getElem?_getD]
 by_cases hi : i < l.length
 ·rw [List.getElem?_eq_getElem hi, Option.getD_some]; exact h _ (List.getElem_mem _)
 ·rw [List.getElem?_eq_none (by omega)]; exact ⟨Int.le_refl _, by decide⟩
theorem Bytes.take {l : List Int} (h : Bytes l) (n : Nat) : Bytes (l.take n) := fun x hx => h x (List.mem_of_mem_take hx)
theorem Bytes.drop {l : List Int} (h : Bytes l) (n : Nat) : Bytes (l.drop n) := fun x hx => h x (List.mem_of_mem_drop hx)
theorem Bytes.app {l r : List Int} (h : Bytes l) (h' : Bytes r) : Bytes (l ++ r) := fun x hx => (List.mem_append.1 hx).elim (h x) (h' x)
theorem Bytes.set {l : List Int} (h : Bytes l) (i : Nat) {x : Int} (hx : 0 ≤ x ∧ x < 256) : Bytes (l.set i x) := fun y hy => by
 rcases List.mem_or_eq_of_mem_set hy with h' | rfl
 ·exact h y h'
 ·exact hx
theorem getD_drop (l : List Int) (n i : Nat) : (l.drop n).getD i 0 = l.getD (n + i) 0 := by
 rw [List.getD_eq_getElem?_getD, List.getElem?_drop, List.getD_eq_getElem?_getD]
/-! ### the key stream -/
def strY (k i : Int) : Int := mulP ((mulP ((k + i * 7919 + 3) % 2147483647) 48271 + k + i + 1) % 2147483647) 16807
def strB (k i : Int) : Int := strY k i / 256 % 256
def xorn (k : Int) (l : List Int) (j : Nat) : List Int := (List.range j).map fun i : Nat => bits .xor .u8 (l.getD i 0) (strB k i)
def xorl (k : Int) (l : List Int) : List Int := xorn k l l.length
/-! ### the code -/
def macR (k : Int) : Int := 1 + keyP k 71 % 2147483646
def macN (r n : Int) (l : List Int) (j : Nat) : Int := (l.take j).foldl (fun n b => addP (addP (mulP n r) b) 1) n
def macV (k : Int) (l : List Int) : Int := macN (macR k) (l.length + 1) l l.length
def mac (k : Int) (l : List Int) : Int := addP (mulP (macV k l) (macR k)) (keyP k 72)
/-! ### sealing -/
def four (n : Int) : List Int := [n / 16777216 % 256, n / 65536 % 256, n / 256 % 256, n % 256]
def get4 (l : List Int) : Int := l.getD 0 0 * 16777216 + l.getD 1 0 * 65536 + l.getD 2 0 * 256 + l.getD 3 0
def openL (k : Int) (l : List Int) : List Int := xorl (keyP k 1) (l.drop 4)
def opens (k : Int) (l : List Int) : Prop := 4 ≤ l.length ∧ get4 l = mac (keyP k 2) (l.drop 4)
instance (k : Int) (l : List Int) : Decidable (opens k l) := by unfold opens; infer_instance
end Go.Proofs.YtkdanlnhdgcplaaGreat
