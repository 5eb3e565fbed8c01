/-
  GrowM, GrowN, LHeldS, Xt: texts joined.
-/
import Derived.Test.YtblcfncjghkegaaPGg
import Derived.Test.YtblcfncjghkegaaPGi
import Derived.Deep.RegionHeld3
namespace Go.Proofs.Ytblcfncjghkegaa
set_option linter.unusedVariables false
open Go.RowKit
section
variable {α : Type} {t : Ty α} {e : TypeId} {w w' : World} {base B n c : Nat} {A : Option Addr} {v : Value} {l l' : List α}
/-- The cells of a row that reads, as what an append takes in. -/
theorem row_src (h : t.row.R w B [.slice A n c] l) (h1 : ∀ es a, t.R w B es a → ∀ u ∈ es, u.oneCell' = true) :
    ∃ css : List (List Value), css.length = l.length ∧ (∀ (i : Nat) (a : α) (es : List Value), l[i]? = some a → css[i]? = some es → t.R w B es a) ∧ Src w t.k A n css.flatten ∧ ∀ u ∈ css.flatten, u.oneCell' = true := by
  obtain ⟨A', n', c', e1, h2, h3, h4, h5⟩ := h
  injection e1 with e1 _
  injection e1 with e1 e2 e3
  subst e1 e2 e3
  by_cases h0 : 0 < n
  · obtain ⟨b, off, rfl, hb, hc⟩ := h5 h0
    have hx : ∀ i, i < l.length → ∃ es, (∀ j, j < t.k → w.cell? ⟨b, off + i * t.k + j, none⟩ = es[j]?) ∧ ∀ a, l[i]? = some a → t.R w B es a := fun i hi => by
      obtain ⟨es, k1, k2⟩ := hc i _ (List.getElem?_eq_getElem hi)
      exact ⟨es, k1, fun a ha => by rw [List.getElem?_eq_getElem hi] at ha; injection ha with ha; rw [← ha]; exact k2⟩
    obtain ⟨css, hcs⟩ : ∃ css, css = (List.range l.length).pmap (fun i hi => (hx i hi).choose) (fun i hi => List.mem_range.1 hi) := ⟨_, rfl⟩
    have hlen : css.length = l.length := by rw [hcs]; simp
    have hat : ∀ i es, css[i]? = some es → ∃ hi : i < l.length, es = (hx i hi).choose := fun i es hi => by
      rw [hcs, List.getElem?_pmap] at hi
      by_cases hl : i < l.length
      · refine ⟨hl, ?_⟩
        simp [List.getElem?_range hl] at hi
        exact hi.symm
      · simp [List.getElem?_eq_none (show (List.range l.length).length ≤ i by simp; omega)] at hi
    have hk : ∀ es ∈ css, es.length = t.k := fun es hes => by
      obtain ⟨i, hi, rfl⟩ := List.getElem_of_mem hes
      obtain ⟨hl, e⟩ := hat i _ (List.getElem?_eq_getElem hi)
      exact t.lenR (B := B) ((congrArg (fun x => t.R w B x _) e).mpr ((hx i hl).choose_spec.2 _ (List.getElem?_eq_getElem hl)))
    refine ⟨css, hlen, fun i a es hi he => ?_, ⟨by rw [flat_len hk, hlen, h4], fun _ => ⟨b, off, rfl, fun j u hj => ?_⟩⟩, fun u hu => ?_⟩
    · obtain ⟨hl, rfl⟩ := hat i es he
      exact (hx i hl).choose_spec.2 a hi
    · have hj2 : j < css.length * t.k := by rw [← flat_len hk]; exact (List.getElem?_eq_some_iff.1 hj).1
      have hkp : 0 < t.k := by
        rcases Nat.eq_zero_or_pos t.k with h | h
        · rw [h] at hj2; omega
        · exact h
      have hq : j / t.k < css.length := (Nat.div_lt_iff_lt_mul hkp).2 hj2
      have hr : j % t.k < t.k := Nat.mod_lt _ hkp
      have e0 : j / t.k * t.k + j % t.k = j := by rw [Nat.mul_comm]; exact Nat.div_add_mod _ _
      have h6 := flat_at hk (List.getElem?_eq_getElem hq) hr
      rw [e0, hj] at h6
      obtain ⟨hl, e⟩ := hat (j / t.k) _ (List.getElem?_eq_getElem hq)
      have h7 := (hx _ hl).choose_spec.1 _ hr
      rw [← e, ← h6, Nat.add_assoc, e0] at h7
      exact h7
    · obtain ⟨es, hes, hu⟩ := List.mem_flatten.1 hu
      obtain ⟨i, hi, rfl⟩ := List.getElem_of_mem hes
      obtain ⟨hl, e⟩ := hat i _ (List.getElem?_eq_getElem hi)
      exact h1 _ _ ((congrArg (fun x => t.R w B x _) e).mpr ((hx i hl).choose_spec.2 _ (List.getElem?_eq_getElem hl))) u hu
  · have hl : l = [] := List.eq_nil_of_length_eq_zero (by omega)
    subst hl
    obtain rfl : n = 0 := by omega
    exact ⟨[], rfl, fun i a es hi => by simp at hi, ⟨by simp, fun h => absurd h h0⟩, fun u hu => by simp at hu⟩
/-- What an append of a whole row sees, and what it leaves. -/
theorem GrowR.rows (h : GrowR t e w base B v l) (hr : t.row.R w B [.slice A n c] l') (h1 : ∀ es a, t.R w B es a → ∀ u ∈ es, u.oneCell' = true) (hb : B ≤ base) (hw : B ≤ w.heap.size) :
    ∃ xs news, w.ownsRow base e t.k v l.length xs ∧ Src w t.k A n news ∧ (∀ u ∈ news, u.oneCell' = true) ∧
      ∀ w3 v1, w3.ownsRow base e t.k v1 (l.length + n) (xs ++ news) → w.grownBy w3 v.ownBlock → GrowR t e w3 base B v1 (l ++ l') := by
  obtain ⟨css2, k1, k2, k3, k4⟩ := row_src hr h1
  have hn : l'.length = n := (rowR_len hr).1
  obtain ⟨css, g1, g2, g5⟩ := h
  have hown := fun b hb => g1.lt b hb
  refine ⟨css.flatten, css2.flatten, g1, k3, k4, fun w3 v1 q5 q6 => ⟨css ++ css2, ?_, by simp [g2, k1], ?_⟩⟩
  · rw [List.length_append, List.flatten_append, hn]
    exact q5
  · have keep : ∀ b, b < B → w3.heap[b]? = w.heap[b]? := fun b hlt => q6.block b (by omega) fun e => by have := (hown b e.symm).1; omega
    intro i b cs r1 r2
    by_cases hi : i < l.length
    · rw [List.getElem?_append_left hi] at r1
      rw [List.getElem?_append_left (by omega)] at r2
      exact t.keep (g5 i b cs r1 r2) keep
    · rw [List.getElem?_append_right (by omega)] at r1
      rw [List.getElem?_append_right (by omega), g2] at r2
      exact t.keep (k2 _ b cs r1 r2) keep
end
theorem one_cells_Held {w : World} {B : Nat} : ∀ es a, tHeld.R w B es a → ∀ u ∈ es, u.oneCell' = true := fun es a h u hu => by
  obtain ⟨A2, n2, c2, rfl, -, -, -, -, -, -⟩ := openHeld h
  simp only [List.mem_cons, List.not_mem_nil, or_false] at hu
  rcases hu with rfl | rfl | rfl <;> rfl
theorem step_app5 {P : Program} (w : World) {ops : Array Oper} {o : Oper} {a : Act} {K : Act → World → Prop} {Q : Exit → Act → World → Prop} {E : Prop} (hgd : o.guard = none) (s x : Operand) (t : TypeId)
    (ho : o.op = .call { callee := .builtin .append, args := #[s, x], argTypes := #[t, t] })
    (base : Nat) (e : TypeId) (i : TypeInfo) (z : Value) (size bytes : Nat) (ht : P.underlying t = some (.slice e)) (hi : P.info? e = some i) (hz : i.zero = some z)
    (hsize : i.size = size) (hby : i.bytes = bytes) (hzs : z.cells.size = size) (hsz : 0 < size)
    (v : Value) (n : Nat) (xs : List Value) (hs : a.eval s = v) (hown : w.ownsRow base e size v n xs)
    (A : Option Addr) (m c : Nat) (news : List Value) (hx : a.eval x = .slice A m c) (hr : Src w size A m news) (h1 : ∀ u ∈ news, u.oneCell' = true)
    (h63 : n + m ≤ maxLen) (hbytes : (n + m) * bytes ≤ 140737488355328) (hbase : base ≤ w.heap.size)
    (h : ∀ v' w', w'.ownsRow base e size v' (n + m) (xs ++ news) → w.grownBy w' v.ownBlock → (v'.ownBlock = v.ownBlock ∨ v'.ownBlock = some w.heap.size) → K (a.put o.dst v') w') :
    if Region.wanted o (yielded ops a.tmps) = true then Oper.wp P o a w K Q else E := by
  have hw : Region.wanted o (yielded ops a.tmps) = true := by simp [Region.wanted, hgd]
  rw [if_pos hw]
  exact wp_app w s x t ho base e i z size bytes ht hi hz hsize hby hzs hsz v n xs hs hown A m c news hx hr h1 h63 hbytes hbase h
/-- A struct's cells in a block, as what an append takes in. -/
theorem Src.of_boxed {w : World} {g : Nat} {e : TypeId} {es : List Value} {K : Nat} (hb : Box w g e es.toArray) (hK : es.length = K) : Src w K (some ⟨g, 0, none⟩) 1 es := by
  refine ⟨by omega, fun _ => ⟨_, 0, rfl, fun j u hj => ?_⟩⟩
  rw [Nat.zero_add, hb.cell]
  simpa using hj
section
variable {α : Type} {t : Ty α} {e : TypeId} {w w' : World} {base B n c : Nat} {v : Value} {l : List α} {F : List Nat}
theorem GrowR.own (h : GrowR t e w base B v l) : ∀ b, v.ownBlock = some b → base ≤ b ∧ b < w.heap.size := fun b hb => by
  obtain ⟨css, h1, _⟩ := h; exact h1.lt b hb
theorem GrowR.put (h : GrowR t e w base B v l) {p : Addr} (h1 : p.block < base) (h2 : B ≤ p.block) (u : Value) : GrowR t e (w.setCell p u) base B v l := by
  obtain ⟨css, k1, k2, k5⟩ := h
  refine ⟨css, k1.kept (row := some p.block) ⟨rfl, rfl, rfl, by simp [World.setCell], fun i hi hn => Below.heap_setCell w p u i (fun e => hn (by rw [e]))⟩ ?_, k2, fun i a es q1 q2 => t.keep (k5 i a es q1 q2) fun b hlt => Below.heap_setCell w p u b (by omega)⟩
  refine .inr fun e => ?_
  have := (k1.lt _ e).1
  omega
theorem GrowR.shape (h : GrowR t e w base B v l) : ∃ A c, v = .slice A l.length c := by
  obtain ⟨css, h1, _⟩ := h
  rcases h1.2 with ⟨rfl, h0⟩ | ⟨g, cap, cur, rfl, _⟩
  · exact ⟨none, 0, by rw [h0]⟩
  · exact ⟨_, cap, rfl⟩
theorem GrowO.shape (h : GrowO t e w base v l F) : ∃ A c, v = .slice A l.length c := by
  obtain ⟨⟨css, Fs, h1, _⟩, _⟩ := h
  rcases h1.2 with ⟨rfl, h0⟩ | ⟨g, cap, cur, rfl, _⟩
  · exact ⟨none, 0, by rw [h0]⟩
  · exact ⟨_, cap, rfl⟩
theorem GrowR.shapeN (h : GrowR t e w base B v l) : ∃ A n c, v = .slice A n c ∧ n = l.length := by
  obtain ⟨A, c, rfl⟩ := h.shape; exact ⟨A, _, c, rfl, rfl⟩
theorem GrowR.doneAs {A : Option Addr} (h : GrowR t e w base B (.slice A n c) l) (hw : B ≤ w.heap.size) : t.row.R w w.heap.size [.slice A n c] l := by
  obtain ⟨A', c', e1, h2⟩ := h.done hw
  injection e1 with e1 e2 e3
  subst e1 e2 e3
  exact h2
theorem GrowO.shapeN (h : GrowO t e w base v l F) : ∃ A n c, v = .slice A n c ∧ n = l.length := by
  obtain ⟨A, c, rfl⟩ := h.shape; exact ⟨A, _, c, rfl, rfl⟩
theorem GrowO.own (h : GrowO t e w base v l F) : ∀ b, v.ownBlock = some b → base ≤ b ∧ b < w.heap.size := fun b hb => by
  obtain ⟨⟨css, Fs, h1, _⟩, _⟩ := h; exact h1.lt b hb
variable {P : Program} {ops : Array Oper} {rest : List Oper} {o : Oper} {a : Act} {K : Act → World → Prop} {Q : Exit → Act → World → Prop} {E : Prop}
/-- One struct more behind a row that reads: the step of a drawn region. -/
theorem GrowR.step (hgd : o.guard = none) (s x : Operand) (ty : TypeId) (ho : o.op = .call { callee := .builtin .append, args := #[s, x], argTypes := #[ty, ty] })
    (i : TypeInfo) (z : Value) (size bytes : Nat) (ht : P.underlying ty = some (.slice e)) (hi : P.info? e = some i) (hz : i.zero = some z) (hsize : i.size = size) (hby : i.bytes = bytes) (hzs : z.cells.size = size) (hsz : 0 < size) (hk : t.k = size)
    (hs : a.eval s = v) (hG : GrowR t e w base B v l) (g : Nat) (es : List Value) (el : α) (hx : a.eval x = .slice (some ⟨g, 0, none⟩) 1 1) (hb : Box w g e es.toArray) (hR : t.R w B es el) (h1 : ∀ u ∈ es, u.oneCell' = true)
    (hB : B ≤ base) (hw : base ≤ w.heap.size) (h63 : l.length + 1 ≤ maxLen) (hbytes : (l.length + 1) * bytes ≤ 140737488355328)
    (h : ∀ v' w', GrowR t e w' base B v' (l ++ [el]) → w.grownBy w' v.ownBlock → K (a.put o.dst v') w') :
    if Region.wanted o (yielded ops a.tmps) = true then Oper.wp P o a w K Q else E := by
  subst hk
  obtain ⟨xs, hrow, hpush⟩ := hG.row hB (Nat.le_trans hB hw)
  exact step_app5 w hgd s x ty ho base e i z t.k bytes ht hi hz hsize hby hzs hsz v l.length xs hs hrow _ 1 1 es hx (Src.of_boxed hb (t.lenR hR)) h1 h63 hbytes hw fun v' w' q1 q2 _ => h v' w' (hpush w' v' el es hR q1 q2) q2
/-- A whole row behind a row, both read: the step of a drawn region. -/
theorem GrowR.stepRow (hgd : o.guard = none) (s x : Operand) (ty : TypeId) (ho : o.op = .call { callee := .builtin .append, args := #[s, x], argTypes := #[ty, ty] })
    (i : TypeInfo) (z : Value) (size bytes : Nat) (ht : P.underlying ty = some (.slice e)) (hi : P.info? e = some i) (hz : i.zero = some z) (hsize : i.size = size) (hby : i.bytes = bytes) (hzs : z.cells.size = size) (hsz : 0 < size) (hk : t.k = size)
    (hs : a.eval s = v) (hG : GrowR t e w base B v l) {A : Option Addr} {l' : List α} (hx : a.eval x = .slice A n c) (hr : t.row.R w B [.slice A n c] l') (h1 : ∀ es a, t.R w B es a → ∀ u ∈ es, u.oneCell' = true)
    (hB : B ≤ base) (hw : base ≤ w.heap.size) (h63 : l.length + n ≤ maxLen) (hbytes : (l.length + n) * bytes ≤ 140737488355328)
    (h : ∀ v' w', GrowR t e w' base B v' (l ++ l') → w.grownBy w' v.ownBlock → K (a.put o.dst v') w') :
    if Region.wanted o (yielded ops a.tmps) = true then Oper.wp P o a w K Q else E := by
  subst hk
  obtain ⟨xs, news, hrow, hsrc, h1', hpush⟩ := hG.rows hr h1 hB (Nat.le_trans hB hw)
  exact step_app5 w hgd s x ty ho base e i z t.k bytes ht hi hz hsize hby hzs hsz v l.length xs hs hrow A n c news hx hsrc h1' h63 hbytes hw fun v' w' q1 q2 _ => h v' w' (hpush w' v' q1 q2) q2
/-- The same in a plain region. -/
theorem GrowR.pushRow (hgd : o.guard = none) (s x : Operand) (ty : TypeId) (ho : o.op = .call { callee := .builtin .append, args := #[s, x], argTypes := #[ty, ty] })
    (i : TypeInfo) (z : Value) (size bytes : Nat) (ht : P.underlying ty = some (.slice e)) (hi : P.info? e = some i) (hz : i.zero = some z) (hsize : i.size = size) (hby : i.bytes = bytes) (hzs : z.cells.size = size) (hsz : 0 < size) (hk : t.k = size)
    (hs : a.eval s = v) (hG : GrowR t e w base B v l) {A : Option Addr} {l' : List α} (hx : a.eval x = .slice A n c) (hr : t.row.R w B [.slice A n c] l') (h1 : ∀ es a, t.R w B es a → ∀ u ∈ es, u.oneCell' = true)
    (hB : B ≤ base) (hw : base ≤ w.heap.size) (h63 : l.length + n ≤ maxLen) (hbytes : (l.length + n) * bytes ≤ 140737488355328)
    (h : ∀ v' w', GrowR t e w' base B v' (l ++ l') → w.grownBy w' v.ownBlock → wpList P ops Q rest (a.put o.dst v') w') : wpList P ops Q (o :: rest) a w := by
  subst hk
  obtain ⟨xs, news, hrow, hsrc, h1', hpush⟩ := hG.rows hr h1 hB (Nat.le_trans hB hw)
  exact wpList_app w hgd s x ty ho base e i z t.k bytes ht hi hz hsize hby hzs hsz v l.length xs hs hrow A n c news hx hsrc h1' h63 hbytes hw fun v' w' q1 q2 _ => h v' w' (hpush w' v' q1 q2) q2
/-- One struct more behind a call's own row, each owning what it holds: the step of a drawn region. -/
theorem GrowO.step (hgd : o.guard = none) (s x : Operand) (ty : TypeId) (ho : o.op = .call { callee := .builtin .append, args := #[s, x], argTypes := #[ty, ty] })
    (i : TypeInfo) (z : Value) (size bytes : Nat) (ht : P.underlying ty = some (.slice e)) (hi : P.info? e = some i) (hz : i.zero = some z) (hsize : i.size = size) (hby : i.bytes = bytes) (hzs : z.cells.size = size) (hsz : 0 < size) (hk : t.k = size)
    (hs : a.eval s = v) (hG : GrowO t e w base v l F) (g : Nat) (es : List Value) (el : α) {Fa : List Nat} (hx : a.eval x = .slice (some ⟨g, 0, none⟩) 1 1) (hb : Box w g e es.toArray) (hO : t.O w es el Fa) (hN : New base Fa) (hd : ∀ f ∈ Fa, f ∉ F) (hv : ∀ b, v.ownBlock = some b → b ∉ Fa) (h1 : ∀ u ∈ es, u.oneCell' = true)
    (hw : base ≤ w.heap.size) (h63 : l.length + 1 ≤ maxLen) (hbytes : (l.length + 1) * bytes ≤ 140737488355328)
    (h : ∀ v' w', GrowO t e w' base v' (l ++ [el]) (F ++ Fa) → w.grownBy w' v.ownBlock → K (a.put o.dst v') w') :
    if Region.wanted o (yielded ops a.tmps) = true then Oper.wp P o a w K Q else E := by
  subst hk
  obtain ⟨xs, hrow, hpush⟩ := hG.row
  exact step_app5 w hgd s x ty ho base e i z t.k bytes ht hi hz hsize hby hzs hsz v l.length xs hs hrow _ 1 1 es hx (Src.of_boxed hb (t.lenO hO)) h1 h63 hbytes hw fun v' w' q1 q2 q3 => h v' w' (hpush w' v' el es Fa hO hN hd hv q1 q2 q3) q2
end
end Go.Proofs.Ytblcfncjghkegaa
namespace Go.Proofs.Ytblcfncjghkegaa
set_option linter.unusedVariables false
open Go.RowKit
section
variable {α : Type} {t : Ty α} {e : TypeId} {w w' : World} {base B n c : Nat} {v : Value} {l : List α}
theorem GrowR.empty (hb : base ≤ w.heap.size) : GrowR t e (w.alloc (.cells #[] e)) base B (.slice (some ⟨w.heap.size, 0, none⟩) 0 0) [] :=
  ⟨[], ⟨by simp, .inr ⟨w.heap.size, 0, #[], rfl, hb, heap_alloc_new w _, Nat.le_refl _, by simp only [maxLen]; omega, by simp, by simp⟩⟩, rfl, fun i a es h => by simp at h⟩
theorem GrowR.drew (h : GrowR t e w base B v l) (hw : B ≤ w.heap.size) : GrowR t e w.drew base B v l := by
  obtain ⟨css, k1, k2, k5⟩ := h
  exact ⟨css, k1.kept (row := none) (gb_drew (World.grownBy.refl _ _)) (by cases v.ownBlock <;> simp), k2, fun i a es q1 q2 => t.keep (k5 i a es q1 q2) fun b hb => rfl⟩
end
section
variable {k : IntKind} {e : TypeId} {w w' : World} {base B n c : Nat} {v : Value} {l : List Int}
theorem Own.empty (hb : base ≤ w.heap.size) : Own k e (w.alloc (.cells #[] e)) base (.slice (some ⟨w.heap.size, 0, none⟩) 0 0) [] :=
  ⟨⟨by simp, .inr ⟨w.heap.size, 0, #[], rfl, hb, heap_alloc_new w _, Nat.le_refl _, by simp only [maxLen]; omega, by simp, by simp⟩⟩, by simp⟩
theorem Own.drew (h : Own k e w base v l) : Own k e w.drew base v l := ⟨h.1.kept (row := none) (gb_drew (World.grownBy.refl _ _)) (by cases v.ownBlock <;> simp), h.2⟩
theorem Own.shapeN (h : Own k e w base v l) : ∃ A n c, v = .slice A n c ∧ n = l.length := by
  obtain ⟨A, c, rfl, _⟩ := h.shape; exact ⟨A, _, c, rfl, rfl⟩
variable {P : Program} {ops : Array Oper} {rest : List Oper} {o : Oper} {a : Act} {K : Act → World → Prop} {Q : Exit → Act → World → Prop} {E : Prop}
/-- Integers behind a call's own slice, out of one that reads: the step of a drawn region. -/
theorem Own.stepRow (hgd : o.guard = none) (s x : Operand) (ty : TypeId) (ho : o.op = .call { callee := .builtin .append, args := #[s, x], argTypes := #[ty, ty] })
    (i : TypeInfo) (z : Value) (bytes : Nat) (ht : P.underlying ty = some (.slice e)) (hi : P.info? e = some i) (hz : i.zero = some z) (hsize : i.size = 1) (hby : i.bytes = bytes) (hzs : z.cells.size = 1)
    (hs : a.eval s = v) (hG : Own k e w base v l) {A : Option Addr} {l' : List Int} (hx : a.eval x = .slice A n c) (hr : Ints k w B A n l')
    (hw : base ≤ w.heap.size) (h63 : l.length + n ≤ maxLen) (hbytes : (l.length + n) * bytes ≤ 140737488355328)
    (h : ∀ v' w', Own k e w' base v' (l ++ l') → w.grownBy w' v.ownBlock → (v'.ownBlock = v.ownBlock ∨ v'.ownBlock = some w.heap.size) → K (a.put o.dst v') w') :
    if Region.wanted o (yielded ops a.tmps) = true then Oper.wp P o a w K Q else E :=
  step_app5 w hgd s x ty ho base e i z 1 bytes ht hi hz hsize hby hzs (by omega) v l.length _ hs hG.1 A n c (l'.map (Value.int k)) hx (Src.of_ints hr) (one_ints _ _) h63 hbytes hw fun v' w' q1 q2 q3 =>
    h v' w' (Own.of (n := l.length + n) (by rw [List.map_append]; exact q1) fun y hy => by
      rcases List.mem_append.1 hy with h' | h'
      · exact hG.2 y h'
      · exact hr.2.2 y h') q2 q3
theorem Own.pushRow (hgd : o.guard = none) (s x : Operand) (ty : TypeId) (ho : o.op = .call { callee := .builtin .append, args := #[s, x], argTypes := #[ty, ty] })
    (i : TypeInfo) (z : Value) (bytes : Nat) (ht : P.underlying ty = some (.slice e)) (hi : P.info? e = some i) (hz : i.zero = some z) (hsize : i.size = 1) (hby : i.bytes = bytes) (hzs : z.cells.size = 1)
    (hs : a.eval s = v) (hG : Own k e w base v l) {A : Option Addr} {l' : List Int} (hx : a.eval x = .slice A n c) (hr : Ints k w B A n l')
    (hw : base ≤ w.heap.size) (h63 : l.length + n ≤ maxLen) (hbytes : (l.length + n) * bytes ≤ 140737488355328)
    (h : ∀ v' w', Own k e w' base v' (l ++ l') → w.grownBy w' v.ownBlock → (v'.ownBlock = v.ownBlock ∨ v'.ownBlock = some w.heap.size) → wpList P ops Q rest (a.put o.dst v') w') : wpList P ops Q (o :: rest) a w :=
  wpList_app w hgd s x ty ho base e i z 1 bytes ht hi hz hsize hby hzs (by omega) v l.length _ hs hG.1 A n c (l'.map (Value.int k)) hx (Src.of_ints hr) (one_ints _ _) h63 hbytes hw fun v' w' q1 q2 q3 =>
    h v' w' (Own.of (n := l.length + n) (by rw [List.map_append]; exact q1) fun y hy => by
      rcases List.mem_append.1 hy with h' | h'
      · exact hG.2 y h'
      · exact hr.2.2 y h') q2 q3
/-- One cell in a block reads as a slice of one. -/
theorem Ints.boxed {g : Nat} {u : Int} (hb : Box w g e #[.int k u]) (hu : (Lit.int k u).wf = true) : Ints k w w.heap.size (some ⟨g, 0, none⟩) 1 [u] := by
  refine ⟨rfl, fun _ => ⟨g, 0, rfl, hb.size, fun i hi => ?_⟩, fun x hx => by rw [List.mem_singleton] at hx; rw [hx]; exact hu⟩
  obtain rfl : i = 0 := by omega
  rw [hb.cell]; rfl
end
end Go.Proofs.Ytblcfncjghkegaa
namespace Go.Proofs.Ytblcfncjghkegaa
set_option maxRecDepth 100000
set_option linter.unusedVariables false
set_option linter.unusedSimpArgs false
open Go.ChangeShapes Go.WideShapes Go.ChangeAt Go.RowKit
theorem info_Held : (Try.prog.info? 30).map (fun i => (i.zero, i.size, i.bytes)) = some (some (.agg #[.int .i64 0, .int .i64 0, .slice none 0 0]), 3, 40) := by kernel_rfl
end Go.Proofs.Ytblcfncjghkegaa
namespace Go.Proofs.Ytblcfncjghkegaa
set_option linter.unusedVariables false
open Go.RowKit
/-- Two worlds are alike in the blocks from K on, up to B. -/
def Alike (K B : Nat) (w w' : World) : Prop := ∀ b, K ≤ b → b < B → w'.heap[b]? = w.heap[b]?
theorem Alike.below {K B : Nat} {w w' : World} (h : Below B w w') : Alike K B w w' := fun b _ hb => h.block b hb
theorem Alike.grown {K B g : Nat} {w w' : World} (h : w.grownBy w' (some g)) (hg : g < K) (hB : B ≤ w.heap.size) : Alike K B w w' := fun b h1 h2 => h.block b (by omega) (fun e => by injection e with e; omega)
theorem Alike.put {K B : Nat} (w : World) {p : Addr} (hp : p.block < K) (u : Value) : Alike K B w (w.setCell p u) := fun b h1 _ => Below.heap_setCell w p u b (by omega)
section
variable {α : Type} {t : Ty α} {w w' : World} {K K' B B' : Nat} {cs : List Value} {a : α}
def XT (K : Nat) (t : Ty α) : Ty α where
  k := t.k
  R := fun w B cs a => ∀ w', Alike K B w w' → t.R w' B cs a
  O := fun _ _ _ _ => False
  lenR := fun h => t.lenR (h _ (fun _ _ _ => rfl))
  lenO := fun h => h.elim
  keep := fun h hk w' ha => h w' (fun b h1 h2 => (ha b h1 h2).trans (hk b h2))
  up := fun h hB w' ha => t.up (h w' (fun b h1 h2 => ha b h1 (Nat.lt_of_lt_of_le h2 hB))) hB
  kept := fun h => h.elim
  lt := fun h => h.elim
  read := fun h => h.elim
theorem xt_R (h : (XT K t).R w B cs a) : t.R w B cs a := h w (fun _ _ _ => rfl)
theorem xt_keep (h : (XT K t).R w B cs a) (ha : Alike K B w w') : (XT K t).R w' B cs a := fun w2 h2 => h w2 (fun b h1 h3 => (h2 b h1 h3).trans (ha b h1 h3))
theorem xt_low (h : (XT K t).R w B cs a) (hK : K' ≤ K) : (XT K' t).R w B cs a := fun w2 h2 => h w2 (fun b h1 h3 => h2 b (Nat.le_trans hK h1) h3)
theorem xt_at (h : (XT K t).R w w.heap.size cs a) (ha : Alike K w.heap.size w w') (hs : w.heap.size ≤ w'.heap.size) : (XT K t).R w' w'.heap.size cs a := (XT K t).up (xt_keep h ha) hs
/-- A row that hangs on no block below K, nor do its elements. -/
def RowX (K : Nat) (t : Ty α) (w : World) (v : Value) (l : List α) : Prop := (XT K t).row.R w w.heap.size [v] l ∧ (0 < l.length → ∀ b, v.ownBlock = some b → K ≤ b)
theorem RowX.nil (K : Nat) (t : Ty α) (w : World) : RowX K t w (.slice none 0 0) [] := ⟨⟨none, 0, 0, rfl, Nat.le_refl _, by omega, rfl, fun h => absurd h (by omega)⟩, fun h => absurd h (by simp)⟩
theorem RowX.below {v : Value} {l : List α} (h : RowX K t w v l) (hB : Below w.heap.size w w') : RowX K t w' v l := ⟨(XT K t).row.reach h.1 hB, h.2⟩
theorem RowX.at {v : Value} {l : List α} (h : RowX K t w v l) (ha : Alike K w.heap.size w w') (hs : w.heap.size ≤ w'.heap.size) : RowX K t w' v l := by
  obtain ⟨⟨A, n, c, e, h1, h2, h3, h4⟩, h5⟩ := h
  refine ⟨⟨A, n, c, e, h1, h2, h3, fun h0 => ?_⟩, h5⟩
  obtain ⟨b, off, rfl, hb, hc⟩ := h4 h0
  injection e with e _
  have hne : K ≤ b := h5 (by omega) b (by rw [e]; rfl)
  refine ⟨b, off, rfl, Nat.lt_of_lt_of_le hb hs, fun i a' ha' => ?_⟩
  obtain ⟨es, k1, k2⟩ := hc i a' ha'
  refine ⟨es, fun j hj => ?_, xt_at k2 ha hs⟩
  rw [← k1 j hj]
  exact World.cell?_of_block (ha b hne hb)
theorem RowX.plain {v : Value} {l : List α} (h : RowX K t w v l) : t.row.R w w.heap.size [v] l := by
  obtain ⟨⟨A, n, c, e, h1, h2, h3, h4⟩, -⟩ := h
  refine ⟨A, n, c, e, h1, h2, h3, fun h0 => ?_⟩
  obtain ⟨b, off, e1, hb, hc⟩ := h4 h0
  refine ⟨b, off, e1, hb, fun i a' ha => ?_⟩
  obtain ⟨es, k1, k2⟩ := hc i a' ha
  exact ⟨es, k1, xt_R k2⟩
theorem RowX.low {v : Value} {l : List α} (h : RowX K t w v l) (hK : K' ≤ K) : RowX K' t w v l := by
  obtain ⟨⟨A, n, c, e, h1, h2, h3, h4⟩, h5⟩ := h
  refine ⟨⟨A, n, c, e, h1, h2, h3, fun h0 => ?_⟩, fun h0 b hb => Nat.le_trans hK (h5 h0 b hb)⟩
  obtain ⟨b, off, e1, hb, hc⟩ := h4 h0
  refine ⟨b, off, e1, hb, fun i a' ha => ?_⟩
  obtain ⟨es, k1, k2⟩ := hc i a' ha
  exact ⟨es, k1, xt_low k2 hK⟩
theorem rowX_O {v : Value} {l : List α} {F : List Nat} (hx : ∀ es a Fi, t.O w es a Fi → (∀ f ∈ Fi, K ≤ f) → (XT K t).R w w.heap.size es a) (h : t.row.O w [v] l F) (hF : ∀ f ∈ F, K ≤ f) : RowX K t w v l := by
  rcases h with ⟨A, c, e, hc, rfl, rfl⟩ | ⟨gg, off, c, cur, et, Fs, e, h0, h2, h3, hg, h4, rfl, h6⟩
  · exact ⟨⟨A, 0, c, e, Nat.zero_le _, hc, rfl, fun h => absurd h (by omega)⟩, fun h => absurd h (by simp)⟩
  · have hlt := Box.size (t := et) hg
    refine ⟨⟨_, _, c, e, h2, h3, rfl, fun _ => ⟨gg, off, rfl, hlt, fun i a' ha => ?_⟩⟩, fun _ b hb => ?_⟩
    · have hi : i < l.length := (List.getElem?_eq_some_iff.1 ha).1
      obtain ⟨es, k1, k2⟩ := h6 i a' (Fs[i]'(by omega)) ha (List.getElem?_eq_getElem (by omega))
      refine ⟨es, fun j hj => by rw [Box.cell (t := et) hg]; exact k1 j hj, hx _ _ _ k2 (fun f hf => hF f (List.mem_cons_of_mem _ (mem_flat (List.getElem?_eq_getElem (by omega)) hf)))⟩
    · injection e with e _
      rw [e] at hb
      injection hb with hb
      rw [← hb]
      exact hF gg List.mem_cons_self
end
theorem slX_O {K : IntKind} {w : World} {g : Nat} {cs : List Value} {l : List Int} {F : List Nat} (h : (tSl K).O w cs l F) (hF : ∀ f ∈ F, g ≤ f) : (XT g (tSl K)).R w w.heap.size cs l := by
  intro w' ha
  rcases h with ⟨A, c, e, hc, rfl, rfl⟩ | ⟨gg, off, c, cur, et, e, h0, h2, h3, hg, h4, h5, rfl⟩
  · exact ⟨A, 0, c, e, Nat.zero_le _, hc, Ints.nil⟩
  · have hlt := Box.size (t := et) hg
    have hg' : Box w' gg et cur := (ha gg (hF gg (by simp)) hlt).trans hg
    exact ⟨_, _, c, e, h2, h3, rfl, fun _ => ⟨gg, off, rfl, hlt, fun i hi => by rw [hg'.cell]; exact h4 i hi⟩, h5⟩
theorem slX_own {K : IntKind} {e : TypeId} {w : World} {base g : Nat} {v : Value} {l : List Int} (h : Own K e w base v l) (hb : g ≤ base) : (XT g (tSl K)).R w w.heap.size [v] l := by
  obtain ⟨F, hF, hN⟩ := h.tSl
  exact slX_O hF (fun f hf => Nat.le_trans hb (hN.2 f hf))
theorem slX_nil {K : IntKind} (g : Nat) (w : World) : (XT g (tSl K)).R w w.heap.size [.slice none 0 0] [] := fun w' _ => ⟨none, 0, 0, rfl, Nat.le_refl _, by omega, Ints.nil⟩
end Go.Proofs.Ytblcfncjghkegaa
