/-
  App, Draw: texts joined.
-/
import Derived.Test.YtblcfncjghkegaaPGd
import Derived.Test.YtblcfncjghkegaaRows
import Derived.BigQuiet
import Derived.Deep.OwnRows
import Derived.Deep.QuietTactic
import Derived.Lib.Hide
import Derived.Maps.AppendAt
import Derived.OpenShut
import Derived.ProofKit
import Derived.WalkKit
namespace Go.Proofs.Ytblcfncjghkegaa
open Go.ChangeShapes Go.WideShapes Go.ChangeAt Go.RowKit

/-- The slice '.slice A m c' holds the cells 'news' (of m elements), wherever it lies. -/
def Src (w : World) (size : Nat) (A : Option Addr) (m : Nat) (news : List Value) : Prop :=
  news.length = m * size ∧ (0 < m → ∃ b off, A = some ⟨b, off, none⟩ ∧ ∀ j u, news[j]? = some u → w.cell? ⟨b, off + j, none⟩ = some u)
theorem Src.nil (w : World) (size : Nat) (A : Option Addr) : Src w size A 0 [] := ⟨by simp, fun h => absurd h (by omega)⟩
theorem Src.of_ints {k : IntKind} {w : World} {B n : Nat} {A : Option Addr} {l : List Int} (h : Ints k w B A n l) : Src w 1 A n (l.map (Value.int k)) := by
  refine ⟨by rw [List.length_map, h.1]; omega, fun h0 => ?_⟩
  obtain ⟨b, off, e, _, hc⟩ := h.2.1 h0
  refine ⟨b, off, e, fun j u hu => ?_⟩
  rw [List.getElem?_map, Option.map_eq_some_iff] at hu
  obtain ⟨x, hx, rfl⟩ := hu
  obtain ⟨hj, hx'⟩ := List.getElem?_eq_some_iff.1 hx
  rw [hc j (by have := h.1; omega), List.getD_eq_getElem?_getD, hx, Option.getD_some]
/-- One cell that has just been laid. -/
theorem Src.one (w : World) (t : TypeId) (u : Value) : Src (w.alloc (.cells #[u] t)) 1 (some ⟨w.heap.size, 0, none⟩) 1 [u] := by
  refine ⟨rfl, fun _ => ⟨_, 0, rfl, fun j v hj => ?_⟩⟩
  match j, hj with
  | 0, hj => rw [(Box.new w t _).cell]; exact hj

section
variable {P : Program} (w : World)
theorem run_app_nil (base : Nat) (t ty e : TypeId) (i : TypeInfo) (size : Nat) (ht : P.underlying t = some (.slice e)) (hi : P.info? e = some i)
    (v : Value) (n : Nat) (xs : List Value) (hown : w.ownsRow base e size v n xs) (c : Nat) : (Builtin.append_ #[t, t] ty #[v, .slice none 0 c]).run P w = .ok v w := by
  rcases hown.2 with ⟨rfl, rfl⟩ | ⟨g, cap, cur, rfl, _, _, hnc, _⟩ <;>
    simp [Builtin.append_, run_underlying ht, sizeOf, typeInfo, Builtin.lenOf, Builtin.firstCells, storeCells, *]

theorem run_app (base : Nat) (t ty e : TypeId) (i : TypeInfo) (z : Value) (size bytes : Nat) (ht : P.underlying t = some (.slice e)) (hi : P.info? e = some i) (hz : i.zero = some z)
    (hsize : i.size = size) (hby : i.bytes = bytes) (hzs : z.cells.size = size) (hsz : 0 < size)
    (v : Value) (n : Nat) (xs : List Value) (hown : w.ownsRow base e size v n xs)
    (A : Option Addr) (m c : Nat) (news : List Value) (hr : Src w size A m news) (h1 : ∀ u ∈ news, u.oneCell' = true)
    (h63 : n + m ≤ maxLen) (hbytes : (n + m) * bytes ≤ 140737488355328) (hbase : base ≤ w.heap.size) :
    ∃ v' w', (Builtin.append_ #[t, t] ty #[v, .slice A m c]).run P w = .ok v' w' ∧ w'.ownsRow base e size v' (n + m) (xs ++ news) ∧ w.grownBy w' v.ownBlock ∧
      (v'.ownBlock = v.ownBlock ∨ v'.ownBlock = some w.heap.size) := by
  by_cases hm : m = 0
  · subst hm
    have hn : news = [] := List.eq_nil_of_length_eq_zero (by simpa using hr.1)
    subst hn
    cases A with
    | none => exact ⟨v, w, run_app_nil w base t ty e i size ht hi v n xs hown c, by simpa using hown, World.grownBy.refl w _, .inl rfl⟩
    | some ad =>
      obtain ⟨v', w', hrun, h2, h3, _, h5⟩ := run_append_own_at (P := P) w base t ty e i z size bytes ht hi hz hsize hby hzs hsz v n xs hown ad 0 c [] hr.1 (by simp) h1 h63 hbytes hbase
      exact ⟨v', w', hrun, h2, h3, h5⟩
  · obtain ⟨b, off, rfl, hc⟩ := hr.2 (by omega)
    obtain ⟨v', w', hrun, h2, h3, _, h5⟩ := run_append_own_at (P := P) w base t ty e i z size bytes ht hi hz hsize hby hzs hsz v n xs hown ⟨b, off, none⟩ m c news hr.1
      (fun j u hu => by rw [Go.WideShapes.add_plain]; exact hc j u hu) h1 h63 hbytes hbase
    exact ⟨v', w', hrun, h2, h3, h5⟩

theorem wp_app {o : Oper} {a : Act} {K : Act → World → Prop} {Q : Exit → Act → World → Prop} (s x : Operand) (t : TypeId)
    (ho : o.op = .call { callee := .builtin .append, args := #[s, x], argTypes := #[t, t] })
    (base : Nat) (e : TypeId) (i : TypeInfo) (z : Value) (size bytes : Nat) (ht : P.underlying t = some (.slice e)) (hi : P.info? e = some i) (hz : i.zero = some z)
    (hsize : i.size = size) (hby : i.bytes = bytes) (hzs : z.cells.size = size) (hsz : 0 < size)
    (v : Value) (n : Nat) (xs : List Value) (hs : a.eval s = v) (hown : w.ownsRow base e size v n xs)
    (A : Option Addr) (m c : Nat) (news : List Value) (hx : a.eval x = .slice A m c) (hr : Src w size A m news) (h1 : ∀ u ∈ news, u.oneCell' = true)
    (h63 : n + m ≤ maxLen) (hbytes : (n + m) * bytes ≤ 140737488355328) (hbase : base ≤ w.heap.size)
    (h : ∀ v' w', w'.ownsRow base e size v' (n + m) (xs ++ news) → w.grownBy w' v.ownBlock → (v'.ownBlock = v.ownBlock ∨ v'.ownBlock = some w.heap.size) → K (a.put o.dst v') w') : o.wp P a w K Q := by
  obtain ⟨v', w', hrun, h2, h3, h4⟩ := run_app (P := P) w base t o.type e i z size bytes ht hi hz hsize hby hzs hsz v n xs hown A m c news hr h1 h63 hbytes hbase
  unfold Oper.wp execOp
  simp only [ho, resolve, invoke, builtin, Sem.run_bind, Sem.run_pure, Result.andThen_ok, List.map_toArray, List.map_cons, List.map_nil, hs, hx, hrun]
  exact h v' w' h2 h3 h4

theorem wpList_app {ops : Array Oper} {rest : List Oper} {o : Oper} {a : Act} {Q : Exit → Act → World → Prop} (hgd : o.guard = none) (s x : Operand) (t : TypeId)
    (ho : o.op = .call { callee := .builtin .append, args := #[s, x], argTypes := #[t, t] })
    (base : Nat) (e : TypeId) (i : TypeInfo) (z : Value) (size bytes : Nat) (ht : P.underlying t = some (.slice e)) (hi : P.info? e = some i) (hz : i.zero = some z)
    (hsize : i.size = size) (hby : i.bytes = bytes) (hzs : z.cells.size = size) (hsz : 0 < size)
    (v : Value) (n : Nat) (xs : List Value) (hs : a.eval s = v) (hown : w.ownsRow base e size v n xs)
    (A : Option Addr) (m c : Nat) (news : List Value) (hx : a.eval x = .slice A m c) (hr : Src w size A m news) (h1 : ∀ u ∈ news, u.oneCell' = true)
    (h63 : n + m ≤ maxLen) (hbytes : (n + m) * bytes ≤ 140737488355328) (hbase : base ≤ w.heap.size)
    (h : ∀ v' w', w'.ownsRow base e size v' (n + m) (xs ++ news) → w.grownBy w' v.ownBlock → (v'.ownBlock = v.ownBlock ∨ v'.ownBlock = some w.heap.size) → wpList P ops Q rest (a.put o.dst v') w') : wpList P ops Q (o :: rest) a w :=
  wpList_plain hgd fun _ hK => wp_app w s x t ho base e i z size bytes ht hi hz hsize hby hzs hsz v n xs hs hown A m c news hx hr h1 h63 hbytes hbase fun v' w' h2 h3 h4 => hK _ _ (h v' w' h2 h3 h4)
end

theorem one_ints (k : IntKind) (l : List Int) : ∀ u ∈ l.map (Value.int k), u.oneCell' = true := by
  intro u hu
  rw [List.mem_map] at hu
  obtain ⟨x, _, rfl⟩ := hu
  rfl

theorem one_int (k : IntKind) (x : Int) : ∀ u ∈ [Value.int k x], u.oneCell' = true := by
  intro u hu
  rw [List.mem_singleton] at hu
  rw [hu]; rfl
/-- The value v is a slice of the call's own that holds the integers l: its block is from base on. -/
def Own (k : IntKind) (e : TypeId) (w : World) (base : Nat) (v : Value) (l : List Int) : Prop := w.ownsRow base e 1 v l.length (l.map (Value.int k)) ∧ ∀ x ∈ l, (Lit.int k x).wf = true
theorem Own.of {k : IntKind} {e : TypeId} {w : World} {base n : Nat} {v : Value} {l : List Int} (h : w.ownsRow base e 1 v n (l.map (Value.int k))) (hw : ∀ x ∈ l, (Lit.int k x).wf = true) : Own k e w base v l := by
  have hn : l.length = n := by have := h.1; simpa using this
  subst hn
  exact ⟨h, hw⟩
theorem Own.nil (k : IntKind) (e : TypeId) (w : World) (base : Nat) : Own k e w base (.slice none 0 0) [] := ⟨World.ownsRow_nil _ _ _ _, by simp⟩
theorem Own.ints {k : IntKind} {e : TypeId} {w : World} {base : Nat} {v : Value} {l : List Int} (h : Own k e w base v l) :
    ∃ A c, v = .slice A l.length c ∧ l.length ≤ c ∧ Ints k w w.heap.size A l.length l ∧ (∀ b, v.ownBlock = some b → base ≤ b ∧ b < w.heap.size) := by
  obtain ⟨h, hw⟩ := h
  have hlt := h.lt
  have hcells := @World.ownsRow.cells _ _ _ _ _ _ _ h
  rcases h.2 with ⟨rfl, h0⟩ | ⟨g, cap, cur, rfl, hb, hg, hn, hm, hs, ht⟩
  · have : l = [] := List.eq_nil_of_length_eq_zero h0
    subst this
    exact ⟨none, 0, rfl, Nat.le_refl _, Ints.nil, hlt⟩
  · refine ⟨_, cap, rfl, hn, ⟨rfl, fun h0 => ⟨g, 0, rfl, (hlt g rfl).2, fun i hi => ?_⟩, hw⟩, hlt⟩
    have hh := hcells (g := g) rfl i (.int k (l.getD i 0)) (by rw [List.getElem?_map, List.getD_eq_getElem?_getD, List.getElem?_eq_getElem hi]; rfl)
    rwa [Go.WideShapes.add_plain] at hh

theorem Own.intsAt {k : IntKind} {e : TypeId} {w : World} {base n c : Nat} {A : Option Addr} {l : List Int} (h : Own k e w base (.slice A n c) l) : Ints k w w.heap.size A n l ∧ l.length = n := by
  obtain ⟨A', c', h1, _, h2, _⟩ := h.ints
  injection h1 with e1 e2 e3
  subst e1 e2
  exact ⟨h2, rfl⟩
theorem Own.block {k : IntKind} {e : TypeId} {w : World} {base b : Nat} {v : Value} {l : List Int} (h : Own k e w base v l) (hb : v.ownBlock = some b) : base ≤ b ∧ b < w.heap.size := h.1.lt b hb
theorem Own.kept {k : IntKind} {e : TypeId} {w w' : World} {base : Nat} {v : Value} {l : List Int} {row : Option Nat} (h : Own k e w base v l) (hg : w.grownBy w' row) (hr : v.ownBlock = none ∨ v.ownBlock ≠ row) : Own k e w' base v l := ⟨h.1.kept hg hr, h.2⟩
theorem Own.below {k : IntKind} {e : TypeId} {w w' : World} {base : Nat} {v : Value} {l : List Int} (h : Own k e w base v l) (hb : Below w.heap.size w w') : Own k e w' base v l :=
  h.kept (row := none) ⟨hb.os, hb.tape, hb.output, hb.size, fun j hj _ => hb.block j hj⟩ (by cases hv : v.ownBlock <;> simp)
theorem Own.alloc {k : IntKind} {e : TypeId} {w : World} {base : Nat} {v : Value} {l : List Int} (h : Own k e w base v l) (o : Obj) : Own k e (w.alloc o) base v l := h.below ((Below.refl _ _).alloc (Nat.le_refl _) o)
theorem Own.drewN {k : IntKind} {e : TypeId} {w : World} {base : Nat} {v : Value} {l : List Int} (h : Own k e w base v l) (m : Nat) : Own k e (w.drewN m) base v l := h
theorem Own.lower {k : IntKind} {e : TypeId} {w : World} {base base' : Nat} {v : Value} {l : List Int} (h : Own k e w base v l) (hb : base' ≤ base) : Own k e w base' v l := by
  obtain ⟨⟨h1, h2⟩, h3⟩ := h
  refine ⟨⟨h1, ?_⟩, h3⟩
  rcases h2 with h2 | ⟨g, cap, cur, hv, hg, r⟩
  · exact .inl h2
  · exact .inr ⟨g, cap, cur, hv, by omega, r⟩
/-- The cells of an own row: what the walk reads and where it may write. -/
theorem Own.row {k : IntKind} {e : TypeId} {w : World} {base : Nat} {v : Value} {l : List Int} (h : Own k e w base v l) (hn : 0 < l.length) :
    ∃ g c, v = .slice (some ⟨g, 0, none⟩) l.length c ∧ l.length ≤ c ∧ c ≤ maxLen ∧ base ≤ g ∧ g < w.heap.size ∧ (∀ i, i < l.length → w.cell? ⟨g, i, none⟩ = some (.int k (l.getD i 0))) ∧ (∀ i, w.frozen? ⟨g, i, none⟩ = false) := by
  obtain ⟨⟨h1, h2⟩, h3⟩ := h
  rcases h2 with ⟨_, h0⟩ | ⟨g, cap, cur, rfl, hb, hg, hn', hm, hs, ht⟩
  · omega
  · refine ⟨g, cap, rfl, hn', hm, hb, (Box.size hg), fun i hi => ?_, fun i => Box.frozen hg i⟩
    have h4 : (l.map (Value.int k))[i]? = some (.int k (l.getD i 0)) := by rw [List.getElem?_map, List.getD_eq_getElem?_getD, List.getElem?_eq_getElem hi]; rfl
    rw [Box.cell hg i, ← h4, ← ht, List.getElem?_take, if_pos (by omega)]
    simp
theorem Own.shape {k : IntKind} {e : TypeId} {w : World} {base : Nat} {v : Value} {l : List Int} (h : Own k e w base v l) : ∃ A c, v = .slice A l.length c ∧ l.length ≤ maxLen := by
  obtain ⟨⟨h1, h2⟩, h3⟩ := h
  rcases h2 with ⟨rfl, h0⟩ | ⟨g, cap, cur, rfl, hb, hg, hn', hm, hs, ht⟩
  · exact ⟨none, 0, by rw [h0], by rw [h0]; simp [maxLen]⟩
  · exact ⟨_, cap, rfl, by omega⟩
theorem Own.put {k : IntKind} {e : TypeId} {w : World} {base g c : Nat} {l : List Int} (h : Own k e w base (.slice (some ⟨g, 0, none⟩) l.length c) l) (i : Nat) (x : Int) (hx : (Lit.int k x).wf = true) :
    Own k e (w.setCell ⟨g, i, none⟩ (.int k x)) base (.slice (some ⟨g, 0, none⟩) l.length c) (l.set i x) := by
  refine ⟨?_, fun y hy => ?_⟩
  · rw [List.length_set, List.map_set]; exact (h.1.stored i _).1
  · rcases List.mem_or_eq_of_mem_set hy with h' | rfl
    · exact h.2 y h'
    · exact hx
/-- A row that is known cell by cell is the call's own slice. -/
theorem Own.of_row {k : IntKind} {e : TypeId} {w : World} {base g n : Nat} {l : List Int} (h : w.rowIs g e n (fun j => .int k (l.getD j 0))) (hl : l.length = n) (hm : n ≤ maxLen) (hb : base ≤ g) (hw : ∀ x ∈ l, (Lit.int k x).wf = true) :
    Own k e w base (.slice (some ⟨g, 0, none⟩) n n) l := by
  subst hl
  obtain ⟨cs, h1, h2, h3⟩ := h
  refine ⟨⟨by simp, .inr ⟨g, l.length, cs, rfl, hb, h1, Nat.le_refl _, hm, by rw [h2]; omega, ?_⟩⟩, hw⟩
  apply List.ext_getElem?
  intro j
  rw [List.getElem?_take, List.getElem?_map]
  by_cases hj : j < l.length
  · rw [if_pos (by omega)]
    have h4 : cs[j]? = some (Value.int k (l.getD j 0)) := h3 j hj
    rw [List.getD_eq_getElem?_getD, List.getElem?_eq_getElem hj] at h4
    rw [List.getElem?_eq_getElem hj]
    simpa using h4
  · rw [if_neg (by omega), List.getElem?_eq_none (by omega)]; rfl

theorem wpList_mk {P : Program} (w : World) {ops : Array Oper} {rest : List Oper} {o : Oper} {a : Act} {Q : Exit → Act → World → Prop}
    (hg : o.guard = none) (l c : Operand) (t : TypeId) (hop : o.op = Op.makeSlice t l c)
    (e : TypeId) (i : TypeInfo) (z : Value) (h1 : P.underlying t = some (.slice e)) (h2 : P.info? e = some i) (h3 : i.zero = some z) (hzc : z.cells = #[z]) (h4 : i.size = 1)
    (n : Nat) (hl : a.eval l = .int .i64 n) (hc : a.eval c = .int .i64 n) (b2 : i.bytes * n ≤ 281474976710656) (b3 : n ≤ maxLen)
    (hK : ∀ w', w'.rowIs w.heap.size e n (fun _ => z) → Below w.heap.size w w' → w.heap.size < w'.heap.size → wpList P ops Q rest (a.put o.dst (.slice (some ⟨w.heap.size, 0, none⟩) n n)) w') :
    wpList P ops Q (o :: rest) a w := by
  refine wpList_plain hg fun K hK' => ?_
  have hrun := run_make (P := P) w t e i z h1 h2 h3 .i64 .i64 n n (by omega) (Int.le_refl _) (by omega) (by simp only [maxLen] at b3; omega)
  simp only [Int.toNat_natCast, h4, Nat.mul_one, hzc] at hrun
  unfold Oper.wp
  simp [execOp, hop, hl, hc, hrun, Result.andThen]
  exact hK' _ _ (hK _ (World.rowIs_made w z n e) ((Below.refl _ _).alloc (Nat.le_refl _) _) (by simp))
end Go.Proofs.Ytblcfncjghkegaa
namespace Go.Proofs.Ytblcfncjghkegaa
open Go.ChangeShapes Go.WideShapes Go.ChangeAt Go.RowKit

theorem and255 (a : Int) : 0 ≤ bits .and .i64 a 255 ∧ bits .and .i64 a 255 ≤ 255 := by
  show 0 ≤ IntKind.i64.wrap ((BitVec.ofInt 64 a &&& BitVec.ofInt 64 255).toNat : Int) ∧ IntKind.i64.wrap ((BitVec.ofInt 64 a &&& BitVec.ofInt 64 255).toNat : Int) ≤ 255
  rw [BitVec.toNat_and]
  have h : (BitVec.ofInt 64 a).toNat &&& (BitVec.ofInt 64 255).toNat ≤ 255 := Nat.and_le_right
  rw [IntKind.wrap_i64]
  omega

/-- The cursor in block g, over n bytes at A. -/
def Cur (w : World) (g : Nat) (A : Option Addr) (n c : Nat) : Prop :=
  ∃ (i h : Int), 0 ≤ i ∧ i ≤ n ∧ Box w g 108 #[.slice A n c, .int .i64 i, .int .i64 h]

theorem cur2 {w : World} {g t : Nat} {x y z : Value} (h : Box w g t #[x, y, z]) (u : Value) : Box (w.setCell ⟨g, 2, none⟩ u) g t #[x, y, u] := h.put 2 u
theorem cur1 {w : World} {g t : Nat} {x z : Value} {y : Value} (h : Box w g t #[x, y, z]) (u : Value) : Box (w.setCell ⟨g, 1, none⟩ u) g t #[x, u, z] := h.put 1 u

set_option maxHeartbeats 1000000 in
theorem c_Byte (w : World) (g : Nat) (A : Option Addr) (n c : Nat) (l : List Int) (hc : Cur w g A n c) (hl : Ints .u8 w g A n l) (hn : n ≤ 140737488355328) :
    Calls Try.prog 76 #[.pointer (some ⟨g, 0, none⟩)] w fun e w' => ∃ x : Int, e = .returned (.int .i64 x) ∧ 0 ≤ x ∧ x ≤ 255 ∧ Cur w' g A n c ∧ w.grownBy w' (some g) := by
  obtain ⟨i0, h, hi0, hi, hb⟩ := hc
  obtain ⟨i, rfl⟩ := Int.eq_ofNat_of_zero_le hi0
  have c0 := hb.cell 0
  have c1 := hb.cell 1
  have c2 := hb.cell 2
  have f1 := hb.frozen 1
  have f2 := hb.frozen 2
  simp at c0 c1 c2
  by_cases hlt : i < n
  · obtain ⟨b, off, rfl, hab, hac, haw⟩ := hl.at_ hlt
    have hbg : ¬ b = g := by omega
    have hgb : ¬ g = b := by omega
    go_enter Try.func76, Try.ntmps76
    go_wp2
    go_quiet (fail)
    go_wp2
    go_quiet (fail)
    go_wp2
    go_quiet (fail)
    go_wp2
    go_ret
    generalize wrap64 (wrap64 (h * 6364136223846793005) + 1442695040888963407) = hh
    refine ⟨_, rfl, ?_⟩
    refine ⟨(and255 _).1, (and255 _).2, ?_, ?_⟩
    · refine ⟨_, _, ?_, ?_, cur1 ((cur2 hb _).drewN _) _⟩ <;> omega
    · exact gb_put (gb_drewN (gb_put (World.grownBy.refl w _) _ _) _) _ _
  · go_enter Try.func76, Try.ntmps76
    go_wp2
    go_quiet (fail)
    go_wp2
    go_quiet (fail)
    go_wp2
    go_ret
    exact ⟨_, rfl, (and255 _).1, (and255 _).2, ⟨_, _, hi0, hi, ((cur2 hb _).drewN _).drewN _⟩, gb_drewN (gb_drewN (gb_put (World.grownBy.refl w _) _ _) _) _⟩

/-- The cursor in block g and the bytes that it reads. -/
def Curs (w : World) (g : Nat) (A : Option Addr) (n c : Nat) (l : List Int) : Prop := Cur w g A n c ∧ Ints .u8 w g A n l ∧ n ≤ 140737488355328
theorem Curs.size {w : World} {g n c : Nat} {A : Option Addr} {l : List Int} (h : Curs w g A n c l) : g < w.heap.size := by
  obtain ⟨⟨_, _, _, _, hb⟩, _⟩ := h; exact hb.size
theorem Curs.below {w w' : World} {g n c : Nat} {A : Option Addr} {l : List Int} (h : Curs w g A n c l) {B : Nat} (hB : Below B w w') (hg : g < B) : Curs w' g A n c l := by
  obtain ⟨⟨i, x, h0, h1, hb⟩, hi, hs⟩ := h
  exact ⟨⟨i, x, h0, h1, hb.below hB hg⟩, hi.below (hB.mono (by omega)), hs⟩
theorem Curs.drewN {w : World} {g n c : Nat} {A : Option Addr} {l : List Int} (h : Curs w g A n c l) (m : Nat) : Curs (w.drewN m) g A n c l := h
theorem Curs.alloc {w : World} {g n c : Nat} {A : Option Addr} {l : List Int} (h : Curs w g A n c l) (o : Obj) : Curs (w.alloc o) g A n c l :=
  h.below ((Below.refl w.heap.size w).alloc (Nat.le_refl _) o) h.size

theorem k_Byte {w : World} {g n c : Nat} {A : Option Addr} {l : List Int} (h : Curs w g A n c l) :
    Calls Try.prog 76 #[.pointer (some ⟨g, 0, none⟩)] w fun e w' => ∃ x : Int, e = .returned (.int .i64 x) ∧ 0 ≤ x ∧ x ≤ 255 ∧ Curs w' g A n c l ∧ w.grownBy w' (some g) := by
  obtain ⟨hc, hl, hn⟩ := h
  have hs : g < w.heap.size := Curs.size ⟨hc, hl, hn⟩
  refine (c_Byte w g A n c l hc hl hn).mono ?_
  rintro e w' ⟨x, rfl, h0, h1, hc', hG⟩
  exact ⟨x, rfl, h0, h1, ⟨hc', hl.grown hG (by omega) (Nat.le_refl _), hn⟩, hG⟩

theorem gb_self (w : World) (g : Nat) : w.grownBy w (some g) := World.grownBy.refl w _
theorem k_Byte_from (a : World) {w : World} {g n c : Nat} {A : Option Addr} {l : List Int} (h : Curs w g A n c l) (hG : a.grownBy w (some g)) :
    Calls Try.prog 76 #[.pointer (some ⟨g, 0, none⟩)] w fun e w' => ∃ x : Int, e = .returned (.int .i64 x) ∧ 0 ≤ x ∧ x ≤ 255 ∧ Curs w' g A n c l ∧ a.grownBy w' (some g) := by
  refine (k_Byte h).mono ?_
  rintro e w' ⟨x, rfl, h0, h1, hc, hG'⟩
  exact ⟨x, rfl, h0, h1, hc, gb_trans hG hG'⟩

set_option maxHeartbeats 1000000 in
theorem k_Below (a : World) {w : World} {g n c : Nat} {A : Option Addr} {l : List Int} (m : Int) (h : Curs w g A n c l) (hG : a.grownBy w (some g)) (h1 : 1 ≤ m) (h2 : m ≤ 9223372036854775807) :
    Calls Try.prog 38 #[.pointer (some ⟨g, 0, none⟩), .int .i64 m] w fun e w' => ∃ x : Int, e = .returned (.int .i64 x) ∧ 0 ≤ x ∧ x < m ∧ Curs w' g A n c l ∧ a.grownBy w' (some g) := by
  by_cases hs : m ≤ 256
  · go_enter Try.func38, Try.ntmps38
    go_wp2_with (go_at_call 76; refine (k_Byte_from a (by assumption) (by assumption)).mono ?_; rintro e w1 ⟨x, rfl, hx0, hx1, hC1, hG1⟩)
    go_ret
    exact ⟨_, rfl, Int.emod_nonneg _ (by omega), Int.emod_lt_of_pos _ (by omega), by assumption, by assumption⟩
  · go_enter Try.func38, Try.ntmps38
    go_wp2_with (go_at_call 76; refine (k_Byte_from a (by assumption) (by assumption)).mono ?_; rintro e w1 ⟨x1, rfl, hx10, hx11, hC1, hG1⟩)
    go_ret
    exact ⟨_, rfl, Int.emod_nonneg _ (by omega), Int.emod_lt_of_pos _ (by omega), by assumption, by assumption⟩
set_option maxRecDepth 100000 in
set_option maxHeartbeats 1000000 in
/-- A new cursor: it lies in a new block, the only one. -/
theorem k_New {w : World} {n c : Nat} {A : Option Addr} {l : List Int} (hl : Ints .u8 w w.heap.size A n l) (hn : n ≤ 140737488355328) :
    Calls Try.prog 34 #[.slice A n c] w fun e w' => ∃ g : Nat, e = .returned (.pointer (some ⟨g, 0, none⟩)) ∧ w.heap.size ≤ g ∧ Curs w' g A n c l ∧ Below w.heap.size w w' := by
  go_enter Try.func34, Try.ntmps34
  go_wp2
  go_loop [3, 4] (fun h i => ∃ (k : Nat) (x : Int), k ≤ n ∧ i = .int .i64 k ∧ h = .int .i64 x) (fun _ i => n - (intOf i).toNat)
  case atStart => exact ⟨0, _, by omega, rfl, rfl⟩
  case round =>
    obtain ⟨k, x, hk, rfl, rfl⟩ := hrel
    by_cases hlt : k < n
    · obtain ⟨b, off, rfl, hb, hcell, hwf⟩ := hl.at_ hlt
      by_cases h4 : k < 4000
      · go_wp2
        go_round
        case rel => exact ⟨k + 1, _, by omega, by go_num, rfl⟩
        case measure => simp [intOf]; omega
      · go_wp2
        go_ret
        exact ⟨_, rfl, Nat.le_refl _, ⟨⟨0, x, by omega, by omega, Box.new _ _ _⟩, hl.alloc (Nat.le_refl _) _, hn⟩, (Below.refl _ _).alloc (Nat.le_refl _) _⟩
    · go_wp2
      go_ret
      exact ⟨_, rfl, Nat.le_refl _, ⟨⟨0, x, by omega, by omega, Box.new _ _ _⟩, hl.alloc (Nat.le_refl _) _, hn⟩, (Below.refl _ _).alloc (Nat.le_refl _) _⟩

/-- Which element: the list lies in one block below or above the cursor's. -/
theorem k_Pick (a : World) {w : World} {g n c : Nat} {A : Option Addr} {l : List Int} {L : Option Addr} {m d : Nat} {zs : List Int} (h : Curs w g A n c l) (hG : a.grownBy w (some g))
    (hz : ∃ b off, L = some ⟨b, off, none⟩ ∧ b ≠ g ∧ b < w.heap.size ∧ ∀ i, i < m → w.cell? ⟨b, off + i, none⟩ = some (.int .i64 (zs.getD i 0))) (hm : 0 < m) (hm2 : m ≤ 65536) (hm3 : zs.length = m) :
    Calls Try.prog 37 #[.pointer (some ⟨g, 0, none⟩), .slice L m d] w fun e w' => ∃ x : Int, e = .returned (.int .i64 x) ∧ x ∈ zs ∧ Curs w' g A n c l ∧ a.grownBy w' (some g) := by
  obtain ⟨b, off, rfl, hbg, hbs, hc⟩ := hz
  go_enter Try.func37, Try.ntmps37
  go_wp2_with (go_at_call 38; refine (k_Below w _ h (gb_self w g) (by omega) (by omega)).mono ?_; rintro e w1 ⟨x, rfl, hx0, hx1, hC1, hG1⟩; obtain ⟨i, rfl⟩ := Int.eq_ofNat_of_zero_le hx0; have hcell := (World.cell?_of_block (a := ⟨b, off + i, none⟩) (hG1.block b hbs (fun e => hbg (by injection e)))).trans (hc i (by omega)))
  go_ret
  refine ⟨_, rfl, ?_, by assumption, gb_trans hG (by assumption)⟩
  rw [List.getElem?_eq_getElem (by omega), Option.getD_some]
  exact List.getElem_mem _
end Go.Proofs.Ytblcfncjghkegaa
