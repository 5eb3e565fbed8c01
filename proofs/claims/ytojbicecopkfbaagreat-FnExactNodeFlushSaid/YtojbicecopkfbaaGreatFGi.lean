/-
  Row, Ty, Mk, LByA, LCell, LHeld, LPiece, LLetter, Grow, PHeld, PNil, Op0, PPiece, PDk, PMisP, All, EvPiece, EvWhole, EvLetter: texts joined.
-/
import Derived.Test.YtojbicecopkfbaaGreatFGh
import Derived.Laws.MakeOwn
namespace Go.Proofs.YtojbicecopkfbaaGreat
set_option linter.unusedVariables false
open Go.RowKit
section
variable {α : Type} {t : Ty α} {w w' : World} {B n c i K : Nat} {A : Option Addr} {v : Value} {l : List α} {a a' : α} {F Fi G : List Nat} {es es' : List Value}

theorem rowR_len (h : t.rowR w B [.slice A n c] l) : l.length = n ∧ n ≤ c ∧ c ≤ 9223372036854775807 := by
  obtain ⟨A', n', c', h1, h2, h3, h4, _⟩ := h
  injection h1 with h1 _
  injection h1 with e1 e2 e3
  subst e1 e2 e3
  exact ⟨h4, h2, h3⟩
theorem rowR_at (h : t.rowR w B [.slice A n c] l) (hi : i < n) (hK : t.k = K) : ∃ a b off es, l[i]? = some a ∧ A = some ⟨b, off, none⟩ ∧ b < B ∧ (∀ j, j < K → w.cell? ⟨b, off + i * K + j, none⟩ = es[j]?) ∧ t.R w B es a := by
  obtain ⟨A', n', c', h1, h2, h3, h4, h5⟩ := h
  injection h1 with h1 _
  injection h1 with e1 e2 e3
  subst e1 e2 e3 hK
  obtain ⟨b, off, e, hb, hc⟩ := h5 (by omega)
  have hl : l[i]? = some (l[i]'(by omega)) := List.getElem?_eq_getElem (by omega)
  obtain ⟨es, k1, k2⟩ := hc i _ hl
  exact ⟨_, b, off, es, hl, e, hb, k1, k2⟩
theorem rowO_shape (h : t.rowO w [v] l F) : ∃ A c, v = .slice A l.length c ∧ l.length ≤ c ∧ c ≤ 9223372036854775807 := by
  rcases h with ⟨A, c, h1, h2, rfl, _⟩ | ⟨g, off, c, cur, e, Fs, h1, h2, h3, h4, _⟩
  · injection h1 with h1 _; exact ⟨A, c, h1, Nat.zero_le _, h2⟩
  · injection h1 with h1 _; exact ⟨_, c, h1, h3, h4⟩
/-- The i-th part of a list of blocks is apart from the others and from g. -/
theorem flat_apart {g : Nat} {Fs : List (List Nat)} (h : (g :: Fs.flatten).Nodup) {i j : Nat} {Fi Fj : List Nat} (hi : Fs[i]? = some Fi) (hj : Fs[j]? = some Fj) (hne : i ≠ j) : ∀ f ∈ Fi, f ∉ Fj := by
  induction Fs generalizing i j with
  | nil => simp at hi
  | cons F0 Fs ih =>
    simp only [List.flatten_cons] at h
    rw [List.nodup_cons] at h
    obtain ⟨h0, h1⟩ := h
    rw [List.nodup_append] at h1
    obtain ⟨h1, h2, h3⟩ := h1
    have h4 : (g :: Fs.flatten).Nodup := List.nodup_cons.2 ⟨fun hx => h0 (List.mem_append.2 (.inr hx)), h2⟩
    intro f hf hg
    cases i with
    | zero =>
      cases j with
      | zero => exact hne rfl
      | succ j =>
        simp at hi hj; subst hi
        exact h3 f hf f (mem_flat hj hg) rfl
    | succ i =>
      cases j with
      | zero =>
        simp at hi hj; subst hj
        exact h3 f hg f (mem_flat hi hf) rfl
      | succ j =>
        simp at hi hj
        exact ih h4 hi hj (fun e => hne (by rw [e])) f hf hg
/-- One element of an own row: its cells; its blocks; and what puts it back, changed. -/
theorem rowO_at (h : t.rowO w [.slice A n c] l F) (hF : F.Nodup) (hl : l[i]? = some a) (hK : t.k = K) :
    ∃ g off cur e es Fi, A = some ⟨g, off, none⟩ ∧ w.heap[g]? = some (.cells cur e (0, 0)) ∧ (∀ j, j < K → cur[off + i * K + j]? = es[j]?) ∧ t.O w es a Fi ∧ g ∈ F ∧ g ∉ Fi ∧ (∀ f ∈ Fi, f ∈ F) ∧ Fi.Nodup ∧
      ∀ w' cur' es' a', w'.heap[g]? = some (.cells cur' e (0, 0)) → (∀ j, j < K → cur'[off + i * K + j]? = es'[j]?) → (∀ q, (∀ j, j < K → q ≠ off + i * K + j) → cur'[q]? = cur[q]?) →
        t.O w' es' a' Fi → (∀ f ∈ F, f ≠ g → f ∉ Fi → w'.heap[f]? = w.heap[f]?) → t.rowO w' [.slice A n c] (l.set i a') F := by
  subst hK
  have hi : i < l.length := (List.getElem?_eq_some_iff.1 hl).1
  rcases h with ⟨A', c', h1, h2, rfl, _⟩ | ⟨g, off, c', cur, e, Fs, h1, h2, h3, h4, h5, h6, rfl, h8⟩
  · simp at hl
  · injection h1 with h1 _
    injection h1 with e1 e2 e3
    subst e1 e2 e3
    have hl' : i < Fs.length := by omega
    have hFi : Fs[i]? = some (Fs[i]'hl') := List.getElem?_eq_getElem hl'
    obtain ⟨es, k1, k2⟩ := h8 i a _ hl hFi
    have hgF : g ∉ Fs.flatten := (List.nodup_cons.1 hF).1
    have hnd : (Fs[i]'hl').Nodup := (List.pairwise_flatten.1 (List.nodup_cons.1 hF).2).1 _ (List.getElem_mem _)
    refine ⟨g, off, cur, e, es, Fs[i]'hl', rfl, h5, k1, k2, List.mem_cons_self, fun hx => hgF (mem_flat hFi hx), fun f hf => List.mem_cons_of_mem _ (mem_flat hFi hf), hnd, ?_⟩
    intro w' cur' es' a' m1 m2 m3 m4 m5
    refine .inr ⟨g, off, c, cur', e, Fs, by rw [List.length_set], by rw [List.length_set]; omega, by rw [List.length_set]; omega, h4, m1, by rw [List.length_set]; omega, rfl, ?_⟩
    intro i' a2 Fi2 q1 q2
    by_cases hii : i' = i
    · subst hii
      rw [List.getElem?_set_self (by omega)] at q1
      injection q1 with q1
      subst q1
      rw [hFi] at q2
      injection q2 with q2
      subst q2
      exact ⟨es', m2, m4⟩
    · rw [List.getElem?_set_ne (fun e => hii e.symm)] at q1
      obtain ⟨es2, p1, p2⟩ := h8 i' a2 Fi2 q1 q2
      refine ⟨es2, fun j hj => ?_, t.kept p2 fun f hf => ?_⟩
      · rw [m3 _ fun j' hj' => ?_]
        · exact p1 j hj
        · intro hq
          have : i' * t.k + j = i * t.k + j' := by omega
          rcases Nat.lt_or_gt_of_ne hii with hlt | hlt
          · have : (i' + 1) * t.k ≤ i * t.k := Nat.mul_le_mul_right _ hlt
            rw [Nat.succ_mul] at this; omega
          · have : (i + 1) * t.k ≤ i' * t.k := Nat.mul_le_mul_right _ hlt
            rw [Nat.succ_mul] at this; omega
      · exact m5 f (List.mem_cons_of_mem _ (mem_flat q2 hf)) (fun e => hgF (e ▸ mem_flat q2 hf)) (flat_apart hF q2 hFi hii f hf)
end
/-! ### cells written one behind the other -/
def puts (w : World) (g off : Nat) : List Value → World
  | [] => w
  | v :: vs => puts (w.setCell ⟨g, off, none⟩ v) g (off + 1) vs
theorem puts_far {w : World} {g off b : Nat} {vs : List Value} (h : b ≠ g) : (puts w g off vs).heap[b]? = w.heap[b]? := by
  induction vs generalizing w off with
  | nil => rfl
  | cons v vs ih => exact ih.trans (Below.heap_setCell w ⟨g, off, none⟩ v b h)
theorem puts_heap {w : World} {g off : Nat} {vs : List Value} {cur : Array Value} {e : TypeId} (h : w.heap[g]? = some (.cells cur e (0, 0))) :
    ∃ cur', (puts w g off vs).heap[g]? = some (.cells cur' e (0, 0)) ∧ cur'.size = cur.size ∧ (∀ q, q < off ∨ off + vs.length ≤ q → cur'[q]? = cur[q]?) ∧ (∀ j, j < vs.length → off + j < cur.size → cur'[off + j]? = vs[j]?) := by
  induction vs generalizing w off cur with
  | nil => exact ⟨cur, h, rfl, fun _ _ => rfl, fun j hj => absurd hj (by simp)⟩
  | cons v vs ih =>
    obtain ⟨cur', h1, h2, h3, h4⟩ := ih (off := off + 1) (Box.put (t := e) h off v)
    refine ⟨cur', h1, by rw [h2]; simp, fun q hq => ?_, fun j hj hs => ?_⟩
    · simp only [List.length_cons] at hq
      rw [h3 q (by omega), Array.getElem?_setIfInBounds, if_neg (by omega)]
    · simp only [List.length_cons] at hj
      cases j with
      | zero =>
        rw [h3 _ (by omega), Array.getElem?_setIfInBounds, if_pos (by omega), if_pos (by omega)]; rfl
      | succ j =>
        have := h4 j (by omega) (by simp; omega)
        rw [show off + (j + 1) = off + 1 + j by omega, this]; rfl
theorem below_puts {B : Nat} {a w : World} {g off : Nat} {vs : List Value} (h : Below B a w) (hg : B ≤ g) : Below B a (puts w g off vs) := by
  induction vs generalizing w off with
  | nil => exact h
  | cons v vs ih => exact ih (h.setCell hg v)
theorem only_puts {F : List Nat} {a w : World} {g off : Nat} {vs : List Value} (h : Only F a w) (hg : g ∈ F) : Only F a (puts w g off vs) := by
  induction vs generalizing w off with
  | nil => exact h
  | cons v vs ih => exact ih (h.put (.inl hg) v)
theorem size_puts {w : World} {g off : Nat} {vs : List Value} : (puts w g off vs).heap.size = w.heap.size := by
  induction vs generalizing w off with
  | nil => rfl
  | cons v vs ih => exact ih.trans (by simp [World.setCell])
section
variable {α : Type}
/-- Block g has room for n things; the first ones are l, a call's own. -/
def Fill (t : Ty α) (w : World) (g : Nat) (e : TypeId) (n : Nat) (l : List α) (F : List Nat) : Prop :=
  ∃ (cur : Array Value) (Fs : List (List Nat)), w.heap[g]? = some (.cells cur e (0, 0)) ∧ cur.size = n * t.k ∧ l.length ≤ n ∧ Fs.length = l.length ∧ F = Fs.flatten ∧
    ∀ i a Fi, l[i]? = some a → Fs[i]? = some Fi → ∃ es, (∀ j, j < t.k → cur[i * t.k + j]? = es[j]?) ∧ t.O w es a Fi
variable {t : Ty α} {w w' : World} {g n : Nat} {e : TypeId} {l : List α} {F Fa : List Nat} {a : α} {es : List Value}
theorem Fill.start {cur : Array Value} (h : w.heap[g]? = some (.cells cur e (0, 0))) (hs : cur.size = n * t.k) : Fill t w g e n [] [] :=
  ⟨cur, [], h, hs, Nat.zero_le _, rfl, rfl, fun i a Fi hi => by simp at hi⟩
theorem Fill.cell (h : Fill t w g e n l F) (hl : l.length < n) {j K : Nat} (hK : t.k = K) (hj : j < K) : ∃ u, w.cell? ⟨g, l.length * K + j, none⟩ = some u := by
  subst hK
  obtain ⟨cur, Fs, h1, h2, _⟩ := h
  have : (l.length + 1) * t.k ≤ n * t.k := Nat.mul_le_mul_right _ hl
  rw [Nat.succ_mul] at this
  rw [Box.cell (t := e) h1, Array.getElem?_eq_getElem (by omega)]
  exact ⟨_, rfl⟩
theorem Fill.frozen (h : Fill t w g e n l F) (q : Nat) : w.frozen? ⟨g, q, none⟩ = false := by
  obtain ⟨cur, Fs, h1, _⟩ := h
  exact Box.frozen (t := e) h1 q
theorem Fill.keep (h : Fill t w g e n l F) (hg : w'.heap[g]? = w.heap[g]?) (hF : ∀ f ∈ F, w'.heap[f]? = w.heap[f]?) : Fill t w' g e n l F := by
  obtain ⟨cur, Fs, h1, h2, h3, h4, rfl, h6⟩ := h
  refine ⟨cur, Fs, hg.trans h1, h2, h3, h4, rfl, fun i a Fi hi hf => ?_⟩
  obtain ⟨es, k1, k2⟩ := h6 i a Fi hi hf
  exact ⟨es, k1, t.kept k2 fun f hff => hF f (mem_flat hf hff)⟩
theorem Fill.size (h : Fill t w g e n l F) : g < w.heap.size := by
  obtain ⟨cur, Fs, h1, _⟩ := h
  exact Box.size (t := e) h1
theorem Fill.lt (h : Fill t w g e n l F) : ∀ f ∈ F, f < w.heap.size := by
  obtain ⟨cur, Fs, h1, h2, h3, h4, rfl, h6⟩ := h
  intro f hf
  obtain ⟨Fi, hFi, hfi⟩ := List.mem_flatten.1 hf
  obtain ⟨i, hi, e1⟩ := List.getElem_of_mem hFi
  have hi' : i < l.length := h4 ▸ hi
  obtain ⟨es, _, k2⟩ := h6 i _ Fi (List.getElem?_eq_getElem hi') (by rw [List.getElem?_eq_getElem hi, e1])
  exact t.lt k2 f hfi
theorem Fill.below (h : Fill t w g e n l F) (hB : Below w.heap.size w w') : Fill t w' g e n l F := h.keep (hB.block g h.size) fun f hf => hB.block f (h.lt f hf)
theorem Fill.push (h : Fill t w g e n l F) (hl : l.length < n) (hO : t.O w es a Fa) (hg : g ∉ F) (hga : g ∉ Fa) {K : Nat} (hK : t.k = K) : Fill t (puts w g (l.length * K) es) g e n (l ++ [a]) (F ++ Fa) := by
  subst hK
  obtain ⟨cur, Fs, h1, h2, h3, h4, rfl, h6⟩ := h
  obtain ⟨cur', k1, k2, k3, k4⟩ := puts_heap (off := l.length * t.k) (vs := es) h1
  have hes := t.lenO hO
  have hn : (l.length + 1) * t.k ≤ n * t.k := Nat.mul_le_mul_right _ hl
  rw [Nat.succ_mul] at hn
  refine ⟨cur', Fs ++ [Fa], k1, k2.trans h2, by simp; omega, by simp [h4], by simp, fun i b Fi hi hf => ?_⟩
  by_cases hii : i < l.length
  · rw [List.getElem?_append_left hii] at hi
    rw [List.getElem?_append_left (by omega)] at hf
    obtain ⟨es2, m1, m2⟩ := h6 i b Fi hi hf
    have : (i + 1) * t.k ≤ l.length * t.k := Nat.mul_le_mul_right _ hii
    rw [Nat.succ_mul] at this
    exact ⟨es2, fun j hj => by rw [k3 _ (by omega)]; exact m1 j hj, t.kept m2 fun f hff => puts_far fun e => hg (e ▸ mem_flat hf hff)⟩
  · rw [List.getElem?_append_right (by omega)] at hi
    rw [List.getElem?_append_right (by omega)] at hf
    have hi0 : i - l.length = 0 := by
      have := (List.getElem?_eq_some_iff.1 hi).1
      simp at this; omega
    rw [hi0] at hi
    rw [h4, hi0] at hf
    simp at hi hf
    subst hi hf
    obtain rfl : i = l.length := by omega
    exact ⟨es, fun j hj => k4 j (by omega) (by omega), t.kept hO fun f hff => puts_far fun e => hga (e ▸ hff)⟩
theorem Fill.done (h : Fill t w g e n l F) (hl : l.length = n) (hm : n ≤ 9223372036854775807) : ∃ F', t.rowO w [.slice (some ⟨g, 0, none⟩) l.length n] l F' ∧ (F' = [] ∨ F' = g :: F) := by
  obtain ⟨cur, Fs, h1, h2, h3, h4, rfl, h6⟩ := h
  by_cases h0 : 0 < l.length
  · exact ⟨g :: Fs.flatten, .inr ⟨g, 0, n, cur, e, Fs, rfl, h0, by omega, hm, h1, h4, rfl, fun i a Fi hi hf => by simpa using h6 i a Fi hi hf⟩, .inr rfl⟩
  · have : l = [] := List.eq_nil_of_length_eq_zero (by omega)
    subst this
    exact ⟨[], .inl ⟨_, n, rfl, hm, rfl, rfl⟩, .inl rfl⟩
theorem New.cons {B : Nat} {F F' : List Nat} (h : New (B + 1) F) (h' : F' = [] ∨ F' = B :: F) : New B F' := by
  rcases h' with rfl | rfl
  · exact New.nil _
  · exact ⟨List.nodup_cons.2 ⟨fun hx => by have := h.2 _ hx; omega, h.1⟩, fun f hf => by rcases List.mem_cons.1 hf with rfl | hf; exact Nat.le_refl _; have := h.2 _ hf; omega⟩
theorem New.not {B g : Nat} {F : List Nat} (h : New B F) (hg : g < B) : g ∉ F := fun hx => by have := h.2 _ hx; omega
theorem New.sub {B : Nat} {F G : List Nat} (h : New B F) (hs : ∀ f ∈ G, f ∈ F) (hn : G.Nodup) : New B G := ⟨hn, fun f hf => h.2 f (hs f hf)⟩
end
theorem wpList_mkS {P : Program} (w : World) {ops : Array Oper} {rest : List Oper} {o : Oper} {a : Act} {Q : Exit → Act → World → Prop}
    (hg : o.guard = none) (l c : Operand) (t : TypeId) (hop : o.op = Op.makeSlice t l c)
    (e : TypeId) (i : TypeInfo) (z : Value) (K : Nat) (h1 : P.underlying t = some (.slice e)) (h2 : P.info? e = some i) (h3 : i.zero = some z) (h4 : i.size = K)
    (n : Nat) (hl : a.eval l = .int .i64 n) (hc : a.eval c = .int .i64 n) (b2 : i.bytes * n ≤ 281474976710656) (b3 : n ≤ maxLen)
    (hK : ∀ w' cur, w'.heap[w.heap.size]? = some (.cells cur e (0, 0)) → cur.size = n * K → Below w.heap.size w w' → w.heap.size < w'.heap.size → wpList P ops Q rest (a.put o.dst (.slice (some ⟨w.heap.size, 0, none⟩) n n)) w') :
    wpList P ops Q (o :: rest) a w := by
  refine wpList_plain hg fun K' hK' => ?_
  have hrun := run_make (P := P) w t e i z h1 h2 h3 .i64 .i64 n n (by omega) (Int.le_refl _) (by omega) (by simp only [maxLen] at b3; omega)
  simp only [Int.toNat_natCast, h4] at hrun
  unfold Oper.wp
  simp [execOp, hop, hl, hc, hrun, Result.andThen]
  exact hK' _ _ (hK _ _ (heap_alloc_new w _) (by simp [madeCells]) ((Below.refl _ _).alloc (Nat.le_refl _) _) (by simp))
end Go.Proofs.YtojbicecopkfbaaGreat
namespace Go.Proofs.YtojbicecopkfbaaGreat
set_option linter.unusedVariables false
open Go.RowKit
theorem tInt.mk {w : World} {B : Nat} {x : Int} (h : (Lit.int .i64 x).wf = true) : tInt.R w B [.int .i64 x] x := ⟨rfl, h⟩
theorem sl_one {K : IntKind} {w : World} {B : Nat} {cs : List Value} {l : List Int} (h : (tSl K).R w B cs l) : ∃ A n c, cs = [.slice A n c] ∧ n ≤ c ∧ c ≤ 9223372036854775807 ∧ Ints K w B A n l := h
theorem slO_one {K : IntKind} {w : World} {cs : List Value} {l : List Int} {F : List Nat} (h : (tSl K).O w cs l F) : ∃ A c, cs = [.slice A l.length c] ∧ l.length ≤ c ∧ c ≤ 9223372036854775807 := by
  rcases h with ⟨A, c, h1, h2, rfl, _⟩ | ⟨g, off, c, cur, t, h1, h2, h3, h4, _⟩
  · exact ⟨A, c, h1, Nat.zero_le _, h2⟩
  · exact ⟨_, c, h1, h3, h4⟩
theorem row_one {α : Type} {t : Ty α} {w : World} {B : Nat} {cs : List Value} {l : List α} (h : t.row.R w B cs l) : ∃ A n c, cs = [.slice A n c] ∧ n ≤ c ∧ c ≤ 9223372036854775807 ∧ l.length = n := by
  obtain ⟨A, n, c, h1, h2, h3, h4, _⟩ := h
  exact ⟨A, n, c, h1, h2, h3, h4⟩
theorem rowO_one {α : Type} {t : Ty α} {w : World} {cs : List Value} {l : List α} {F : List Nat} (h : t.row.O w cs l F) : ∃ A c, cs = [.slice A l.length c] ∧ l.length ≤ c ∧ c ≤ 9223372036854775807 := by
  rcases h with ⟨A, c, h1, h2, rfl, _⟩ | ⟨g, off, c, cur, e, Fs, h1, h2, h3, h4, _⟩
  · exact ⟨A, c, h1, Nat.zero_le _, h2⟩
  · exact ⟨_, c, h1, h3, h4⟩

/-! ### Cell -/
abbrev DCell := List Int
abbrev tCell : Ty DCell := tBy
def szCell (p : DCell) : Nat := (p).length
theorem openCell {w : World} {B : Nat} {cs : List Value} {p : DCell} (h : tCell.R w B cs p) : ∃ A0 n0 c0, cs = [.slice A0 n0 c0] ∧ n0 ≤ c0 ∧ c0 ≤ 9223372036854775807 ∧ (p).length = n0 ∧ tBy.R w B [.slice A0 n0 c0] (p) := by
  obtain ⟨A1, n1, c1, rfl, he1, hf1, hg1⟩ := sl_one h
  exact ⟨A1, n1, c1, rfl, he1, hf1, hg1.1, ⟨A1, n1, c1, rfl, he1, hf1, hg1⟩⟩
theorem makeCell {w : World} {B : Nat} {p : DCell} {v0 : Value} (h0 : tBy.R w B [v0] (p)) : tCell.R w B [v0] p := h0
theorem openOCell {w : World} {cs : List Value} {p : DCell} {F : List Nat} (h : tCell.O w cs p F) : ∃ A0 c0 F0, cs = [.slice A0 (p).length c0] ∧ F = F0 ∧ (p).length ≤ c0 ∧ c0 ≤ 9223372036854775807 ∧ tBy.O w [.slice A0 (p).length c0] (p) F0 := by
  have hr1 := h
  obtain ⟨A1, c1, rfl, he1, hf1⟩ := slO_one h
  exact ⟨A1, c1, F, rfl, by simp, he1, hf1, hr1⟩
theorem makeOCell {w : World} {p : DCell} {v0 : Value} {F0 : List Nat} (h0 : tBy.O w [v0] (p) F0) : ∃ F, tCell.O w [v0] p F ∧ F = F0 := ⟨_, h0, by simp⟩
/-! ### Peeled -/
/-! ### Piece -/
abbrev DPiece := Int × Int × Int × List Int
abbrev tPiece : Ty DPiece := tInt.prod (tInt.prod (tInt.prod (tBy)))
def szPiece (p : DPiece) : Nat := (p.2.2.2).length
def rcPiece (p : DPiece) : Nat := 1 + 1 + 1 + (p.2.2.2).length
def rmPiece (k : Int) (p : DPiece) : DPiece := (k, k + 1, k + 1 + 1, marks8 (k + 1 + 1 + 1) (p.2.2.2).length)
theorem rcPiece_le (p : DPiece) : rcPiece p ≤ 5 + 5 * szPiece p := by
  simp only [rcPiece, szPiece]
  omega
theorem openPiece {w : World} {B : Nat} {cs : List Value} {p : DPiece} (h : tPiece.R w B cs p) : ∃ A3 n3 c3, cs = [.int .i64 (p.1), .int .i64 (p.2.1), .int .i64 (p.2.2.1), .slice A3 n3 c3] ∧ (Lit.int .i64 (p.1)).wf = true ∧ (Lit.int .i64 (p.2.1)).wf = true ∧ (Lit.int .i64 (p.2.2.1)).wf = true ∧ n3 ≤ c3 ∧ c3 ≤ 9223372036854775807 ∧ (p.2.2.2).length = n3 ∧ tBy.R w B [.slice A3 n3 c3] (p.2.2.2) := by
  obtain ⟨ca1, cb1, rfl, ha1, hb1⟩ := h
  obtain ⟨rfl, hi2⟩ := ha1
  obtain ⟨ca3, cb3, rfl, ha3, hb3⟩ := hb1
  obtain ⟨rfl, hi4⟩ := ha3
  obtain ⟨ca5, cb5, rfl, ha5, hb5⟩ := hb3
  obtain ⟨rfl, hi6⟩ := ha5
  obtain ⟨A7, n7, c7, rfl, he7, hf7, hg7⟩ := sl_one hb5
  exact ⟨A7, n7, c7, rfl, hi2, hi4, hi6, he7, hf7, hg7.1, ⟨A7, n7, c7, rfl, he7, hf7, hg7⟩⟩
theorem openOPiece {w : World} {cs : List Value} {p : DPiece} {F : List Nat} (h : tPiece.O w cs p F) : ∃ A3 c3 F3, cs = [.int .i64 (p.1), .int .i64 (p.2.1), .int .i64 (p.2.2.1), .slice A3 (p.2.2.2).length c3] ∧ F = F3 ∧ (Lit.int .i64 (p.1)).wf = true ∧ (Lit.int .i64 (p.2.1)).wf = true ∧ (Lit.int .i64 (p.2.2.1)).wf = true ∧ (p.2.2.2).length ≤ c3 ∧ c3 ≤ 9223372036854775807 ∧ tBy.O w [.slice A3 (p.2.2.2).length c3] (p.2.2.2) F3 := by
  obtain ⟨ca1, cb1, Fa1, Fb1, rfl, rfl, ha1, hb1⟩ := h
  obtain ⟨rfl, hi2, rfl⟩ := ha1
  obtain ⟨ca3, cb3, Fa3, Fb3, rfl, rfl, ha3, hb3⟩ := hb1
  obtain ⟨rfl, hi4, rfl⟩ := ha3
  obtain ⟨ca5, cb5, Fa5, Fb5, rfl, rfl, ha5, hb5⟩ := hb3
  obtain ⟨rfl, hi6, rfl⟩ := ha5
  have hr7 := hb5
  obtain ⟨A7, c7, rfl, he7, hf7⟩ := slO_one hb5
  exact ⟨A7, c7, Fb5, rfl, by simp, hi2, hi4, hi6, he7, hf7, hr7⟩
theorem makeOPiece {w : World} {p : DPiece} {v3 : Value} {F3 : List Nat} (h0 : (Lit.int .i64 (p.1)).wf = true) (h1 : (Lit.int .i64 (p.2.1)).wf = true) (h2 : (Lit.int .i64 (p.2.2.1)).wf = true) (h3 : tBy.O w [v3] (p.2.2.2) F3) : ∃ F, tPiece.O w [.int .i64 (p.1), .int .i64 (p.2.1), .int .i64 (p.2.2.1), v3] p F ∧ F = F3 := ⟨_, ⟨_, _, _, _, rfl, rfl, ⟨rfl, h0, rfl⟩, ⟨_, _, _, _, rfl, rfl, ⟨rfl, h1, rfl⟩, ⟨_, _, _, _, rfl, rfl, ⟨rfl, h2, rfl⟩, h3⟩⟩⟩, by simp⟩
/-! ### Whole -/
abbrev DWhole := Int × Int × Int × List DPiece
abbrev tWhole : Ty DWhole := tInt.prod (tInt.prod (tInt.prod (tPiece.row)))
def szWhole (p : DWhole) : Nat := rsz szPiece (p.2.2.2)
def rcWhole (p : DWhole) : Nat := 1 + 1 + 1 + rsum rcPiece (p.2.2.2)
def rmWhole (k : Int) (p : DWhole) : DWhole := (k, k + 1, k + 1 + 1, rmk rcPiece rmPiece (k + 1 + 1 + 1) (p.2.2.2))
theorem rcWhole_le (p : DWhole) : rcWhole p ≤ 5 + 5 * szWhole p := by
  have h3 := rsum_M (c := rcPiece) (s := szPiece) (M := 5) rcPiece_le (p.2.2.2)
  simp only [rcWhole, szWhole]
  omega
theorem openWhole {w : World} {B : Nat} {cs : List Value} {p : DWhole} (h : tWhole.R w B cs p) : ∃ A3 n3 c3, cs = [.int .i64 (p.1), .int .i64 (p.2.1), .int .i64 (p.2.2.1), .slice A3 n3 c3] ∧ (Lit.int .i64 (p.1)).wf = true ∧ (Lit.int .i64 (p.2.1)).wf = true ∧ (Lit.int .i64 (p.2.2.1)).wf = true ∧ n3 ≤ c3 ∧ c3 ≤ 9223372036854775807 ∧ (p.2.2.2).length = n3 ∧ tPiece.row.R w B [.slice A3 n3 c3] (p.2.2.2) := by
  obtain ⟨ca1, cb1, rfl, ha1, hb1⟩ := h
  obtain ⟨rfl, hi2⟩ := ha1
  obtain ⟨ca3, cb3, rfl, ha3, hb3⟩ := hb1
  obtain ⟨rfl, hi4⟩ := ha3
  obtain ⟨ca5, cb5, rfl, ha5, hb5⟩ := hb3
  obtain ⟨rfl, hi6⟩ := ha5
  have hr7 := hb5
  obtain ⟨A7, n7, c7, rfl, he7, hf7, hg7⟩ := row_one hb5
  exact ⟨A7, n7, c7, rfl, hi2, hi4, hi6, he7, hf7, hg7, hr7⟩
theorem openOWhole {w : World} {cs : List Value} {p : DWhole} {F : List Nat} (h : tWhole.O w cs p F) : ∃ A3 c3 F3, cs = [.int .i64 (p.1), .int .i64 (p.2.1), .int .i64 (p.2.2.1), .slice A3 (p.2.2.2).length c3] ∧ F = F3 ∧ (Lit.int .i64 (p.1)).wf = true ∧ (Lit.int .i64 (p.2.1)).wf = true ∧ (Lit.int .i64 (p.2.2.1)).wf = true ∧ (p.2.2.2).length ≤ c3 ∧ c3 ≤ 9223372036854775807 ∧ tPiece.row.O w [.slice A3 (p.2.2.2).length c3] (p.2.2.2) F3 := by
  obtain ⟨ca1, cb1, Fa1, Fb1, rfl, rfl, ha1, hb1⟩ := h
  obtain ⟨rfl, hi2, rfl⟩ := ha1
  obtain ⟨ca3, cb3, Fa3, Fb3, rfl, rfl, ha3, hb3⟩ := hb1
  obtain ⟨rfl, hi4, rfl⟩ := ha3
  obtain ⟨ca5, cb5, Fa5, Fb5, rfl, rfl, ha5, hb5⟩ := hb3
  obtain ⟨rfl, hi6, rfl⟩ := ha5
  have hr7 := hb5
  obtain ⟨A7, c7, rfl, he7, hf7⟩ := rowO_one hb5
  exact ⟨A7, c7, Fb5, rfl, by simp, hi2, hi4, hi6, he7, hf7, hr7⟩
theorem makeOWhole {w : World} {p : DWhole} {v3 : Value} {F3 : List Nat} (h0 : (Lit.int .i64 (p.1)).wf = true) (h1 : (Lit.int .i64 (p.2.1)).wf = true) (h2 : (Lit.int .i64 (p.2.2.1)).wf = true) (h3 : tPiece.row.O w [v3] (p.2.2.2) F3) : ∃ F, tWhole.O w [.int .i64 (p.1), .int .i64 (p.2.1), .int .i64 (p.2.2.1), v3] p F ∧ F = F3 := ⟨_, ⟨_, _, _, _, rfl, rfl, ⟨rfl, h0, rfl⟩, ⟨_, _, _, _, rfl, rfl, ⟨rfl, h1, rfl⟩, ⟨_, _, _, _, rfl, rfl, ⟨rfl, h2, rfl⟩, h3⟩⟩⟩, by simp⟩
/-! ### Desk -/
abbrev DDesk := List DWhole × List Int
abbrev tDesk : Ty DDesk := tWhole.row.prod (tIs)
def szDesk (p : DDesk) : Nat := rsz szWhole (p.1) + (p.2).length
def cntDesk (p : DDesk) : Nat := rsum rcWhole (p.1) + (p.2).length
def mkDesk (k : Int) (p : DDesk) : DDesk := (rmk rcWhole rmWhole (k) (p.1), marks (k + ((rsum rcWhole (p.1) : Nat) : Int)) (p.2).length)
theorem openDesk {w : World} {B : Nat} {cs : List Value} {p : DDesk} (h : tDesk.R w B cs p) : ∃ A0 n0 c0 A1 n1 c1, cs = [.slice A0 n0 c0, .slice A1 n1 c1] ∧ n0 ≤ c0 ∧ c0 ≤ 9223372036854775807 ∧ (p.1).length = n0 ∧ tWhole.row.R w B [.slice A0 n0 c0] (p.1) ∧ n1 ≤ c1 ∧ c1 ≤ 9223372036854775807 ∧ (p.2).length = n1 ∧ tIs.R w B [.slice A1 n1 c1] (p.2) := by
  obtain ⟨ca1, cb1, rfl, ha1, hb1⟩ := h
  have hr2 := ha1
  obtain ⟨A2, n2, c2, rfl, he2, hf2, hg2⟩ := row_one ha1
  obtain ⟨A3, n3, c3, rfl, he3, hf3, hg3⟩ := sl_one hb1
  exact ⟨A2, n2, c2, A3, n3, c3, rfl, he2, hf2, hg2, hr2, he3, hf3, hg3.1, ⟨A3, n3, c3, rfl, he3, hf3, hg3⟩⟩
theorem makeDesk {w : World} {B : Nat} {p : DDesk} {v0 v1 : Value} (h0 : tWhole.row.R w B [v0] (p.1)) (h1 : tIs.R w B [v1] (p.2)) : tDesk.R w B [v0, v1] p := ⟨_, _, rfl, h0, h1⟩
theorem openODesk {w : World} {cs : List Value} {p : DDesk} {F : List Nat} (h : tDesk.O w cs p F) : ∃ A0 c0 F0 A1 c1 F1, cs = [.slice A0 (p.1).length c0, .slice A1 (p.2).length c1] ∧ F = F0 ++ F1 ∧ (p.1).length ≤ c0 ∧ c0 ≤ 9223372036854775807 ∧ tWhole.row.O w [.slice A0 (p.1).length c0] (p.1) F0 ∧ (p.2).length ≤ c1 ∧ c1 ≤ 9223372036854775807 ∧ tIs.O w [.slice A1 (p.2).length c1] (p.2) F1 := by
  obtain ⟨ca1, cb1, Fa1, Fb1, rfl, rfl, ha1, hb1⟩ := h
  have hr2 := ha1
  obtain ⟨A2, c2, rfl, he2, hf2⟩ := rowO_one ha1
  have hr3 := hb1
  obtain ⟨A3, c3, rfl, he3, hf3⟩ := slO_one hb1
  exact ⟨A2, c2, Fa1, A3, c3, Fb1, rfl, by simp, he2, hf2, hr2, he3, hf3, hr3⟩
theorem makeODesk {w : World} {p : DDesk} {v0 v1 : Value} {F0 F1 : List Nat} (h0 : tWhole.row.O w [v0] (p.1) F0) (h1 : tIs.O w [v1] (p.2) F1) : ∃ F, tDesk.O w [v0, v1] p F ∧ F = F0 ++ F1 := ⟨_, ⟨_, _, _, _, rfl, rfl, h0, h1⟩, by simp⟩
/-! ### Held -/
abbrev DHeld := Int × Int × DCell
abbrev tHeld : Ty DHeld := tInt.prod (tInt.prod (tCell))
def szHeld (p : DHeld) : Nat := szCell (p.2.2)
def rcHeld (p : DHeld) : Nat := 1 + 1 + (p.2.2).length
def rmHeld (k : Int) (p : DHeld) : DHeld := (k, k + 1, marks8 (k + 1 + 1) (p.2.2).length)
theorem rcHeld_le (p : DHeld) : rcHeld p ≤ 5 + 5 * szHeld p := by
  simp only [rcHeld, szHeld, szCell]
  omega
theorem openHeld {w : World} {B : Nat} {cs : List Value} {p : DHeld} (h : tHeld.R w B cs p) : ∃ A2 n2 c2, cs = [.int .i64 (p.1), .int .i64 (p.2.1), .slice A2 n2 c2] ∧ (Lit.int .i64 (p.1)).wf = true ∧ (Lit.int .i64 (p.2.1)).wf = true ∧ n2 ≤ c2 ∧ c2 ≤ 9223372036854775807 ∧ (p.2.2).length = n2 ∧ tBy.R w B [.slice A2 n2 c2] (p.2.2) := by
  obtain ⟨ca1, cb1, rfl, ha1, hb1⟩ := h
  obtain ⟨rfl, hi2⟩ := ha1
  obtain ⟨ca3, cb3, rfl, ha3, hb3⟩ := hb1
  obtain ⟨rfl, hi4⟩ := ha3
  obtain ⟨A5, n5, c5, rfl, he5, hf5, hg5⟩ := sl_one hb3
  exact ⟨A5, n5, c5, rfl, hi2, hi4, he5, hf5, hg5.1, ⟨A5, n5, c5, rfl, he5, hf5, hg5⟩⟩
theorem openOHeld {w : World} {cs : List Value} {p : DHeld} {F : List Nat} (h : tHeld.O w cs p F) : ∃ A2 c2 F2, cs = [.int .i64 (p.1), .int .i64 (p.2.1), .slice A2 (p.2.2).length c2] ∧ F = F2 ∧ (Lit.int .i64 (p.1)).wf = true ∧ (Lit.int .i64 (p.2.1)).wf = true ∧ (p.2.2).length ≤ c2 ∧ c2 ≤ 9223372036854775807 ∧ tBy.O w [.slice A2 (p.2.2).length c2] (p.2.2) F2 := by
  obtain ⟨ca1, cb1, Fa1, Fb1, rfl, rfl, ha1, hb1⟩ := h
  obtain ⟨rfl, hi2, rfl⟩ := ha1
  obtain ⟨ca3, cb3, Fa3, Fb3, rfl, rfl, ha3, hb3⟩ := hb1
  obtain ⟨rfl, hi4, rfl⟩ := ha3
  have hr5 := hb3
  obtain ⟨A5, c5, rfl, he5, hf5⟩ := slO_one hb3
  exact ⟨A5, c5, Fb3, rfl, by simp, hi2, hi4, he5, hf5, hr5⟩
theorem makeOHeld {w : World} {p : DHeld} {v2 : Value} {F2 : List Nat} (h0 : (Lit.int .i64 (p.1)).wf = true) (h1 : (Lit.int .i64 (p.2.1)).wf = true) (h2 : tBy.O w [v2] (p.2.2) F2) : ∃ F, tHeld.O w [.int .i64 (p.1), .int .i64 (p.2.1), v2] p F ∧ F = F2 := ⟨_, ⟨_, _, _, _, rfl, rfl, ⟨rfl, h0, rfl⟩, ⟨_, _, _, _, rfl, rfl, ⟨rfl, h1, rfl⟩, h2⟩⟩, by simp⟩
/-! ### Pool -/
abbrev DPool := List DHeld × List Int
abbrev tPool : Ty DPool := tHeld.row.prod (tIs)
def szPool (p : DPool) : Nat := rsz szHeld (p.1) + (p.2).length
def cntPool (p : DPool) : Nat := rsum rcHeld (p.1) + (p.2).length
def mkPool (k : Int) (p : DPool) : DPool := (rmk rcHeld rmHeld (k) (p.1), marks (k + ((rsum rcHeld (p.1) : Nat) : Int)) (p.2).length)
theorem openPool {w : World} {B : Nat} {cs : List Value} {p : DPool} (h : tPool.R w B cs p) : ∃ A0 n0 c0 A1 n1 c1, cs = [.slice A0 n0 c0, .slice A1 n1 c1] ∧ n0 ≤ c0 ∧ c0 ≤ 9223372036854775807 ∧ (p.1).length = n0 ∧ tHeld.row.R w B [.slice A0 n0 c0] (p.1) ∧ n1 ≤ c1 ∧ c1 ≤ 9223372036854775807 ∧ (p.2).length = n1 ∧ tIs.R w B [.slice A1 n1 c1] (p.2) := by
  obtain ⟨ca1, cb1, rfl, ha1, hb1⟩ := h
  have hr2 := ha1
  obtain ⟨A2, n2, c2, rfl, he2, hf2, hg2⟩ := row_one ha1
  obtain ⟨A3, n3, c3, rfl, he3, hf3, hg3⟩ := sl_one hb1
  exact ⟨A2, n2, c2, A3, n3, c3, rfl, he2, hf2, hg2, hr2, he3, hf3, hg3.1, ⟨A3, n3, c3, rfl, he3, hf3, hg3⟩⟩
theorem makePool {w : World} {B : Nat} {p : DPool} {v0 v1 : Value} (h0 : tHeld.row.R w B [v0] (p.1)) (h1 : tIs.R w B [v1] (p.2)) : tPool.R w B [v0, v1] p := ⟨_, _, rfl, h0, h1⟩
theorem openOPool {w : World} {cs : List Value} {p : DPool} {F : List Nat} (h : tPool.O w cs p F) : ∃ A0 c0 F0 A1 c1 F1, cs = [.slice A0 (p.1).length c0, .slice A1 (p.2).length c1] ∧ F = F0 ++ F1 ∧ (p.1).length ≤ c0 ∧ c0 ≤ 9223372036854775807 ∧ tHeld.row.O w [.slice A0 (p.1).length c0] (p.1) F0 ∧ (p.2).length ≤ c1 ∧ c1 ≤ 9223372036854775807 ∧ tIs.O w [.slice A1 (p.2).length c1] (p.2) F1 := by
  obtain ⟨ca1, cb1, Fa1, Fb1, rfl, rfl, ha1, hb1⟩ := h
  have hr2 := ha1
  obtain ⟨A2, c2, rfl, he2, hf2⟩ := rowO_one ha1
  have hr3 := hb1
  obtain ⟨A3, c3, rfl, he3, hf3⟩ := slO_one hb1
  exact ⟨A2, c2, Fa1, A3, c3, Fb1, rfl, by simp, he2, hf2, hr2, he3, hf3, hr3⟩
theorem makeOPool {w : World} {p : DPool} {v0 v1 : Value} {F0 F1 : List Nat} (h0 : tHeld.row.O w [v0] (p.1) F0) (h1 : tIs.O w [v1] (p.2) F1) : ∃ F, tPool.O w [v0, v1] p F ∧ F = F0 ++ F1 := ⟨_, ⟨_, _, _, _, rfl, rfl, h0, h1⟩, by simp⟩
/-! ### Letter -/
abbrev DLetter := Int × List Int
abbrev tLetter : Ty DLetter := tInt.prod (tBy)
def szLetter (p : DLetter) : Nat := (p.2).length
def rcLetter (p : DLetter) : Nat := 1 + (p.2).length
def rmLetter (k : Int) (p : DLetter) : DLetter := (k, marks8 (k + 1) (p.2).length)
theorem rcLetter_le (p : DLetter) : rcLetter p ≤ 5 + 5 * szLetter p := by
  simp only [rcLetter, szLetter]
  omega
theorem openLetter {w : World} {B : Nat} {cs : List Value} {p : DLetter} (h : tLetter.R w B cs p) : ∃ A1 n1 c1, cs = [.int .i64 (p.1), .slice A1 n1 c1] ∧ (Lit.int .i64 (p.1)).wf = true ∧ n1 ≤ c1 ∧ c1 ≤ 9223372036854775807 ∧ (p.2).length = n1 ∧ tBy.R w B [.slice A1 n1 c1] (p.2) := by
  obtain ⟨ca1, cb1, rfl, ha1, hb1⟩ := h
  obtain ⟨rfl, hi2⟩ := ha1
  obtain ⟨A3, n3, c3, rfl, he3, hf3, hg3⟩ := sl_one hb1
  exact ⟨A3, n3, c3, rfl, hi2, he3, hf3, hg3.1, ⟨A3, n3, c3, rfl, he3, hf3, hg3⟩⟩
theorem openOLetter {w : World} {cs : List Value} {p : DLetter} {F : List Nat} (h : tLetter.O w cs p F) : ∃ A1 c1 F1, cs = [.int .i64 (p.1), .slice A1 (p.2).length c1] ∧ F = F1 ∧ (Lit.int .i64 (p.1)).wf = true ∧ (p.2).length ≤ c1 ∧ c1 ≤ 9223372036854775807 ∧ tBy.O w [.slice A1 (p.2).length c1] (p.2) F1 := by
  obtain ⟨ca1, cb1, Fa1, Fb1, rfl, rfl, ha1, hb1⟩ := h
  obtain ⟨rfl, hi2, rfl⟩ := ha1
  have hr3 := hb1
  obtain ⟨A3, c3, rfl, he3, hf3⟩ := slO_one hb1
  exact ⟨A3, c3, Fb1, rfl, by simp, hi2, he3, hf3, hr3⟩
theorem makeOLetter {w : World} {p : DLetter} {v1 : Value} {F1 : List Nat} (h0 : (Lit.int .i64 (p.1)).wf = true) (h1 : tBy.O w [v1] (p.2) F1) : ∃ F, tLetter.O w [.int .i64 (p.1), v1] p F ∧ F = F1 := ⟨_, ⟨_, _, _, _, rfl, rfl, ⟨rfl, h0, rfl⟩, h1⟩, by simp⟩
/-! ### Node -/
abbrev DNode := Int × Int × DPool × DDesk × List DLetter
abbrev tNode : Ty DNode := tInt.prod (tInt.prod (tPool.prod (tDesk.prod (tLetter.row))))
def szNode (p : DNode) : Nat := szPool (p.2.2.1) + szDesk (p.2.2.2.1) + rsz szLetter (p.2.2.2.2)
def cntNode (p : DNode) : Nat := cntPool (p.2.2.1) + cntDesk (p.2.2.2.1) + rsum rcLetter (p.2.2.2.2)
def mkNode (k : Int) (p : DNode) : DNode := (p.1, p.2.1, mkPool (k) (p.2.2.1), mkDesk (k + ((cntPool (p.2.2.1) : Nat) : Int)) (p.2.2.2.1), rmk rcLetter rmLetter (k + ((cntPool (p.2.2.1) : Nat) : Int) + ((cntDesk (p.2.2.2.1) : Nat) : Int)) (p.2.2.2.2))
theorem cntNode_le (p : DNode) : cntNode p ≤ 5 * szNode p := by
  have h2 := rsum_M (c := rcHeld) (s := szHeld) (M := 5) rcHeld_le (p.2.2.1.1)
  have h4 := rsum_M (c := rcWhole) (s := szWhole) (M := 5) rcWhole_le (p.2.2.2.1.1)
  have h6 := rsum_M (c := rcLetter) (s := szLetter) (M := 5) rcLetter_le (p.2.2.2.2)
  simp only [cntNode, cntPool, cntDesk, szNode, szPool, szDesk]
  omega
theorem openNode {w : World} {B : Nat} {cs : List Value} {p : DNode} (h : tNode.R w B cs p) : ∃ A2 n2 c2 A3 n3 c3 A4 n4 c4 A5 n5 c5 A6 n6 c6, cs = [.int .i64 (p.1), .int .i64 (p.2.1), .slice A2 n2 c2, .slice A3 n3 c3, .slice A4 n4 c4, .slice A5 n5 c5, .slice A6 n6 c6] ∧ (Lit.int .i64 (p.1)).wf = true ∧ (Lit.int .i64 (p.2.1)).wf = true ∧ n2 ≤ c2 ∧ c2 ≤ 9223372036854775807 ∧ (p.2.2.1.1).length = n2 ∧ tHeld.row.R w B [.slice A2 n2 c2] (p.2.2.1.1) ∧ n3 ≤ c3 ∧ c3 ≤ 9223372036854775807 ∧ (p.2.2.1.2).length = n3 ∧ tIs.R w B [.slice A3 n3 c3] (p.2.2.1.2) ∧ n4 ≤ c4 ∧ c4 ≤ 9223372036854775807 ∧ (p.2.2.2.1.1).length = n4 ∧ tWhole.row.R w B [.slice A4 n4 c4] (p.2.2.2.1.1) ∧ n5 ≤ c5 ∧ c5 ≤ 9223372036854775807 ∧ (p.2.2.2.1.2).length = n5 ∧ tIs.R w B [.slice A5 n5 c5] (p.2.2.2.1.2) ∧ n6 ≤ c6 ∧ c6 ≤ 9223372036854775807 ∧ (p.2.2.2.2).length = n6 ∧ tLetter.row.R w B [.slice A6 n6 c6] (p.2.2.2.2) := by
  obtain ⟨ca1, cb1, rfl, ha1, hb1⟩ := h
  obtain ⟨rfl, hi2⟩ := ha1
  obtain ⟨ca3, cb3, rfl, ha3, hb3⟩ := hb1
  obtain ⟨rfl, hi4⟩ := ha3
  obtain ⟨ca5, cb5, rfl, ha5, hb5⟩ := hb3
  obtain ⟨ca6, cb6, rfl, ha6, hb6⟩ := ha5
  have hr7 := ha6
  obtain ⟨A7, n7, c7, rfl, he7, hf7, hg7⟩ := row_one ha6
  obtain ⟨A8, n8, c8, rfl, he8, hf8, hg8⟩ := sl_one hb6
  obtain ⟨ca9, cb9, rfl, ha9, hb9⟩ := hb5
  obtain ⟨ca10, cb10, rfl, ha10, hb10⟩ := ha9
  have hr11 := ha10
  obtain ⟨A11, n11, c11, rfl, he11, hf11, hg11⟩ := row_one ha10
  obtain ⟨A12, n12, c12, rfl, he12, hf12, hg12⟩ := sl_one hb10
  have hr13 := hb9
  obtain ⟨A13, n13, c13, rfl, he13, hf13, hg13⟩ := row_one hb9
  exact ⟨A7, n7, c7, A8, n8, c8, A11, n11, c11, A12, n12, c12, A13, n13, c13, rfl, hi2, hi4, he7, hf7, hg7, hr7, he8, hf8, hg8.1, ⟨A8, n8, c8, rfl, he8, hf8, hg8⟩, he11, hf11, hg11, hr11, he12, hf12, hg12.1, ⟨A12, n12, c12, rfl, he12, hf12, hg12⟩, he13, hf13, hg13, hr13⟩
theorem openONode {w : World} {cs : List Value} {p : DNode} {F : List Nat} (h : tNode.O w cs p F) : ∃ A2 c2 F2 A3 c3 F3 A4 c4 F4 A5 c5 F5 A6 c6 F6, cs = [.int .i64 (p.1), .int .i64 (p.2.1), .slice A2 (p.2.2.1.1).length c2, .slice A3 (p.2.2.1.2).length c3, .slice A4 (p.2.2.2.1.1).length c4, .slice A5 (p.2.2.2.1.2).length c5, .slice A6 (p.2.2.2.2).length c6] ∧ F = F2 ++ F3 ++ F4 ++ F5 ++ F6 ∧ (Lit.int .i64 (p.1)).wf = true ∧ (Lit.int .i64 (p.2.1)).wf = true ∧ (p.2.2.1.1).length ≤ c2 ∧ c2 ≤ 9223372036854775807 ∧ tHeld.row.O w [.slice A2 (p.2.2.1.1).length c2] (p.2.2.1.1) F2 ∧ (p.2.2.1.2).length ≤ c3 ∧ c3 ≤ 9223372036854775807 ∧ tIs.O w [.slice A3 (p.2.2.1.2).length c3] (p.2.2.1.2) F3 ∧ (p.2.2.2.1.1).length ≤ c4 ∧ c4 ≤ 9223372036854775807 ∧ tWhole.row.O w [.slice A4 (p.2.2.2.1.1).length c4] (p.2.2.2.1.1) F4 ∧ (p.2.2.2.1.2).length ≤ c5 ∧ c5 ≤ 9223372036854775807 ∧ tIs.O w [.slice A5 (p.2.2.2.1.2).length c5] (p.2.2.2.1.2) F5 ∧ (p.2.2.2.2).length ≤ c6 ∧ c6 ≤ 9223372036854775807 ∧ tLetter.row.O w [.slice A6 (p.2.2.2.2).length c6] (p.2.2.2.2) F6 := by
  obtain ⟨ca1, cb1, Fa1, Fb1, rfl, rfl, ha1, hb1⟩ := h
  obtain ⟨rfl, hi2, rfl⟩ := ha1
  obtain ⟨ca3, cb3, Fa3, Fb3, rfl, rfl, ha3, hb3⟩ := hb1
  obtain ⟨rfl, hi4, rfl⟩ := ha3
  obtain ⟨ca5, cb5, Fa5, Fb5, rfl, rfl, ha5, hb5⟩ := hb3
  obtain ⟨ca6, cb6, Fa6, Fb6, rfl, rfl, ha6, hb6⟩ := ha5
  have hr7 := ha6
  obtain ⟨A7, c7, rfl, he7, hf7⟩ := rowO_one ha6
  have hr8 := hb6
  obtain ⟨A8, c8, rfl, he8, hf8⟩ := slO_one hb6
  obtain ⟨ca9, cb9, Fa9, Fb9, rfl, rfl, ha9, hb9⟩ := hb5
  obtain ⟨ca10, cb10, Fa10, Fb10, rfl, rfl, ha10, hb10⟩ := ha9
  have hr11 := ha10
  obtain ⟨A11, c11, rfl, he11, hf11⟩ := rowO_one ha10
  have hr12 := hb10
  obtain ⟨A12, c12, rfl, he12, hf12⟩ := slO_one hb10
  have hr13 := hb9
  obtain ⟨A13, c13, rfl, he13, hf13⟩ := rowO_one hb9
  exact ⟨A7, c7, Fa6, A8, c8, Fb6, A11, c11, Fa10, A12, c12, Fb10, A13, c13, Fb9, rfl, by simp, hi2, hi4, he7, hf7, hr7, he8, hf8, hr8, he11, hf11, hr11, he12, hf12, hr12, he13, hf13, hr13⟩
theorem makeONode {w : World} {p : DNode} {v2 v3 v4 v5 v6 : Value} {F2 F3 F4 F5 F6 : List Nat} (h0 : (Lit.int .i64 (p.1)).wf = true) (h1 : (Lit.int .i64 (p.2.1)).wf = true) (h2 : tHeld.row.O w [v2] (p.2.2.1.1) F2) (h3 : tIs.O w [v3] (p.2.2.1.2) F3) (h4 : tWhole.row.O w [v4] (p.2.2.2.1.1) F4) (h5 : tIs.O w [v5] (p.2.2.2.1.2) F5) (h6 : tLetter.row.O w [v6] (p.2.2.2.2) F6) : ∃ F, tNode.O w [.int .i64 (p.1), .int .i64 (p.2.1), v2, v3, v4, v5, v6] p F ∧ F = F2 ++ F3 ++ F4 ++ F5 ++ F6 := ⟨_, ⟨_, _, _, _, rfl, rfl, ⟨rfl, h0, rfl⟩, ⟨_, _, _, _, rfl, rfl, ⟨rfl, h1, rfl⟩, ⟨_, _, _, _, rfl, rfl, ⟨_, _, _, _, rfl, rfl, h2, h3⟩, ⟨_, _, _, _, rfl, rfl, ⟨_, _, _, _, rfl, rfl, h4, h5⟩, h6⟩⟩⟩⟩, by simp⟩
/-! ### Mail -/
/-! ### Sent -/
/-! ### Glance -/
/-! ### Net -/
/-! ### Cmd -/
end Go.Proofs.YtojbicecopkfbaaGreat
namespace Go.Proofs.YtojbicecopkfbaaGreat
open Go.ChangeShapes Go.WideShapes Go.ChangeAt Go.RowKit
theorem sliceO.row {K : IntKind} {w : World} {n c : Nat} {A : Option Addr} {l : List Int} {F : List Nat} (h : sliceO K w [.slice A n c] l F) (hn : 0 < n) :
    ∃ g off, A = some ⟨g, off, none⟩ ∧ l.length = n ∧ n ≤ c ∧ c ≤ 9223372036854775807 ∧ (∀ i, i < n → w.cell? ⟨g, off + i, none⟩ = some (.int K (l.getD i 0))) ∧ (∀ i, w.frozen? ⟨g, i, none⟩ = false) ∧ F = [g] ∧ g < w.heap.size := by
  rcases h with ⟨A, c, h1, h2, rfl, _⟩ | ⟨g, off, c, cur, t, h1, h2, h3, h4, h5, h6, h7, rfl⟩
  · injection h1 with h1 _; injection h1 with _ e2 _; omega
  · injection h1 with h1 _; injection h1 with e1 e2 e3
    subst e1 e2 e3
    exact ⟨g, off, rfl, rfl, h3, h4, fun i hi => by rw [Box.cell (t := t) h5]; exact h6 i hi, fun i => Box.frozen (t := t) h5 i, rfl, Box.size (t := t) h5⟩
theorem sliceO.len {K : IntKind} {w : World} {n c : Nat} {A : Option Addr} {l : List Int} {F : List Nat} (h : sliceO K w [.slice A n c] l F) : l.length = n ∧ n ≤ c ∧ c ≤ 9223372036854775807 := by
  rcases h with ⟨A, c, h1, h2, rfl, _⟩ | ⟨g, off, c, cur, t, h1, h2, h3, h4, h5, h6, h7, rfl⟩
  · injection h1 with h1 _; injection h1 with _ e2 e3; subst e2 e3; exact ⟨rfl, Nat.zero_le _, h2⟩
  · injection h1 with h1 _; injection h1 with e1 e2 e3
    subst e1 e2 e3
    exact ⟨rfl, h3, h4⟩
theorem sliceO.put {K : IntKind} {w : World} {n c g off : Nat} {l : List Int} {F : List Nat} (h : sliceO K w [.slice (some ⟨g, off, none⟩) n c] l F) {i : Nat} (hi : i < n) {x : Int} (hx : (Lit.int K x).wf = true) :
    sliceO K (w.setCell ⟨g, off + i, none⟩ (.int K x)) [.slice (some ⟨g, off, none⟩) n c] (l.set i x) F := by
  rcases h with ⟨A, c, h1, h2, rfl, _⟩ | ⟨g, off, c, cur, t, h1, h2, h3, h4, h5, h6, h7, rfl⟩
  · injection h1 with h1 _; injection h1 with _ e2 _; omega
  · injection h1 with h1 _; injection h1 with e1 e2 e3
    injection e1 with e1
    injection e1 with e1 e4
    subst e1 e2 e3 e4
    have hb : off + i < cur.size := by
      have := h6 i hi
      by_cases hl : off + i < cur.size
      · exact hl
      · rw [Array.getElem?_eq_none (by omega)] at this; cases this
    refine .inr ⟨g, off, c, _, t, by rw [List.length_set], by rw [List.length_set]; omega, by rw [List.length_set]; omega, h4, Box.put (t := t) h5 (off + i) _, fun j hj => ?_, fun y hy => ?_, rfl⟩
    · rw [List.length_set] at hj
      rw [Array.getElem?_setIfInBounds]
      by_cases hij : off + i = off + j
      · have : i = j := by omega
        subst this
        rw [if_pos rfl, if_pos hb, List.getD_eq_getElem?_getD, List.getElem?_set_self hj]; rfl
      · rw [if_neg hij, h6 j hj, List.getD_eq_getElem?_getD, List.getD_eq_getElem?_getD, List.getElem?_set_ne (by omega)]
    · rcases List.mem_or_eq_of_mem_set hy with h' | rfl
      · exact h7 y h'
      · exact hx
theorem sliceO.nilO {K : IntKind} {w : World} {n c : Nat} {A : Option Addr} {F : List Nat} (h : sliceO K w [.slice A n c] [] F) : n = 0 ∧ F = [] := by
  rcases h with ⟨A, c, h1, h2, _, rfl⟩ | ⟨g, off, c, cur, t, h1, h2, _⟩
  · injection h1 with h1 _; injection h1 with _ e2 _; exact ⟨e2, rfl⟩
  · simp at h2
theorem only_set {F : List Nat} {a w : World} {g : Nat} (h : Only F a w) (hg : g ∈ F) (j : Nat) (u : Value) : Only F a (w.setCell ⟨g, j, none⟩ u) := h.put (.inl hg) u
/-- A slice that reads, as integers. -/
theorem slR_ints {K : IntKind} {w : World} {B n c : Nat} {A : Option Addr} {l : List Int} (h : (tSl K).R w B [.slice A n c] l) : Ints K w B A n l ∧ n ≤ c ∧ c ≤ 9223372036854775807 := by
  obtain ⟨A', n', c', h1, h2, h3, h4⟩ := h
  injection h1 with h1 _; injection h1 with e1 e2 e3
  subst e1 e2 e3
  exact ⟨h4, h2, h3⟩
theorem ret_int {a b : Int} (h : a = b) : Ending.returned (.int .i64 a) = .returned (.int .i64 b) := by rw [h]
theorem Ty.far {α : Type} {t : Ty α} {w : World} {cs : List Value} {a : α} {F : List Nat} {B : Nat} (h : t.O w cs a F) (hN : New B F) {p : Addr} (hp : p.block < B) (u : Value) : t.O (w.setCell p u) cs a F :=
  t.kept h fun f hf => Below.heap_setCell w p u f (by rintro rfl; have := hN.2 _ hf; omega)
/-- A cell of an element, behind what left the old blocks alone. -/
theorem cell_at {w w' : World} {b o : Nat} {v : Value} (hB : Below w.heap.size w w') (hb : b < w.heap.size) (h : w.cell? ⟨b, o, none⟩ = some v) : w'.cell? ⟨b, o, none⟩ = some v :=
  (World.cell?_of_block (hB.block b hb)).trans h
theorem New.only {B : Nat} {F : List Nat} (h : New B F) : F.Nodup := h.1
set_option maxHeartbeats 400000 in
theorem o_markIntS {w : World} {n c : Nat} {A : Option Addr} {l : List Int} {F : List Nat} (k : Int) (h : (tSl .i64).O w [.slice A n c] l F) (h0 : 0 ≤ k) (hk : k + l.length ≤ 4611686018427387904) :
    Calls Tryz.prog 61 #[.slice A n c, .int .i64 k] w fun e w' => e = .returned (.int .i64 (k + l.length)) ∧ (tSl .i64).O w' [.slice A n c] (marks k l.length) F ∧ Only F w w' := by
  by_cases hz : l.length = 0
  · have hl : l = [] := List.eq_nil_of_length_eq_zero hz
    subst hl
    obtain ⟨rfl, rfl⟩ := sliceO.nilO h
    clear hz
    go_enter Tryz.func61, Tryz.ntmps61
    go_wp2
    go_loop [1, 5] (fun x i => x = .int .i64 k ∧ i = .int .i64 0) (fun _ _ => 0)
    case atStart => exact ⟨rfl, rfl⟩
    case round =>
      obtain ⟨rfl, rfl⟩ := hrel
      go_wp2
      go_ret
      exact ⟨by simp, h, Only.refl _ _⟩
  · obtain ⟨hn, hnc, hcm⟩ := sliceO.len h
    have HN := Lib.hid hn
    obtain ⟨g, off, rfl, _, _, _, _, _, rfl, hgs⟩ := sliceO.row h (by omega)
    have HZ := Lib.hid (mks_zero (fun i : Nat => k + (i : Int)) l)
    rw [hn] at hk hz
    rw [hn]
    clear hn
    go_enter Tryz.func61, Tryz.ntmps61
    go_wp2
    go_loopw [1, 5] (fun x i wr => ∃ j : Nat, j ≤ n ∧ x = .int .i64 (k + j) ∧ i = .int .i64 j ∧ sliceO .i64 wr [.slice (some ⟨g, off, none⟩) n c] (mks (fun i : Nat => k + (i : Int)) l j) [g] ∧ Only [g] w wr) (fun _ i _ => n - (intOf i).toNat)
    case atStart => exact ⟨0, by omega, by go_num, rfl, by rw [HZ.out]; exact h, Only.refl _ _⟩
    case round =>
      obtain ⟨j, hj, rfl, rfl, hO, hG⟩ := hrel
      by_cases hlt : j < n
      · have HS := Lib.hid (mks_set (fun i : Nat => k + (i : Int)) l j)
        obtain ⟨g', off', e1, _, _, _, hcell, hfz, _, _⟩ := sliceO.row hO (by omega)
        simp only [Option.some.injEq, Addr.mk.injEq, and_true] at e1
        obtain ⟨rfl, rfl⟩ := e1
        have hc1 := hcell j (by omega)
        have hf1 := hfz (off + j)
        have hP := sliceO.put hO hlt (x := k + (j : Int)) (WalkArith.wf_i64 (by omega))
        rw [HS.out] at hP
        clear hcell hfz
        go_wp2
        go_roundw
        case rel => exact ⟨j + 1, by omega, by go_num, by go_num, hP, only_set hG (by simp) _ _⟩
        case measure => simp [intOf]; omega
      · obtain rfl : j = n := by omega
        have HA := Lib.hid (show mks (fun i : Nat => k + (i : Int)) l j = marks k j from by rw [← HN.out]; exact mks_all _ _)
        go_wp2
        go_ret
        exact ⟨rfl, by rw [← HA.out]; exact hO, hG⟩
theorem o_heldIntS {w : World} {B n c : Nat} {A : Option Addr} (k : Int) {l : List Int} (h : (tSl .i64).R w B [.slice A n c] (marks k l.length)) (h0 : 0 ≤ k) (hk : k + l.length ≤ 4611686018427387904) :
    Calls Tryz.prog 63 #[.slice A n c, .int .i64 k] w fun e w' => e = .returned (.int .i64 (k + l.length)) ∧ Below w.heap.size w w' := by
  have h1 := (slR_ints h).1
  have hn : l.length = n := by have := h1.1; rwa [marks_len] at this
  rw [hn] at h1 hk ⊢
  exact (l_heldIntS k h1 h0 hk).mono fun e w' hh => ⟨hh.1, hh.2 ▸ Below.refl _ _⟩
theorem o_eqIntS {w : World} {B n m c d : Nat} {A A' : Option Addr} {l : List Int} (h : (tSl .i64).R w B [.slice A n c] l) (h' : (tSl .i64).R w B [.slice A' m d] l) :
    Calls Tryz.prog 59 #[.slice A n c, .slice A' m d] w fun e w' => e = .returned (.bool true) ∧ Below w.heap.size w w' := by
  have h1 := slR_ints h
  have h2 := slR_ints h'
  refine (l_eqIntS h1.1 h2.1 (by simp only [maxLen]; omega) (by simp only [maxLen]; omega)).mono fun e w' hh => ⟨by rw [hh.1]; simp, hh.2⟩
theorem o_toIntS {w : World} {n c : Nat} {A : Option Addr} {l : List Int} (h : (tSl .i64).R w w.heap.size [.slice A n c] l) (hn : l.length ≤ 1048576) :
    Calls Tryz.prog 44 #[.slice A n c] w fun e w' => ∃ A' c' F, e = .returned (.slice A' l.length c') ∧ (tSl .i64).O w' [.slice A' l.length c'] l F ∧ New w.heap.size F ∧ Below w.heap.size w w' := by
  have h1 := (slR_ints h).1
  have e1 := h1.1
  refine (l_toIntS' h1 (by omega)).mono ?_
  rintro e w' ⟨b, rfl, hO, hB⟩
  obtain ⟨F, hF, hN⟩ := hO.tSl
  rw [← e1] at hF
  exact ⟨_, _, F, by rw [← e1], hF, hN, hB⟩
theorem o_szIntS_t {w : World} {B n c : Nat} {A : Option Addr} {l : List Int} {k : Int} (h : (tSl .i64).R w B [.slice A n c] l) (h1 : 0 ≤ k) (h2 : k ≤ 1048576) (h3 : (l.length : Int) ≤ k) :
    Calls Tryz.prog 37 #[.slice A n c, .int .i64 k] w fun e w' => e = .returned (.int .i64 (k - l.length)) ∧ Below w.heap.size w w' := by
  have e1 := (slR_ints h).1.1
  rw [e1] at h3 ⊢
  have d : decide (k - (n : Int) < 0) = false := by simp; omega
  clear h e1
  go_enter Tryz.func37, Tryz.ntmps37
  go_wp2
  go_ret
  exact ⟨rfl, (belx)⟩
theorem o_szIntS_f {w : World} {B n c : Nat} {A : Option Addr} {l : List Int} {k : Int} (h : (tSl .i64).R w B [.slice A n c] l) (h1 : 0 ≤ k) (h2 : k ≤ 1048576) (h3 : ¬ (l.length : Int) ≤ k) :
    Calls Tryz.prog 37 #[.slice A n c, .int .i64 k] w fun e w' => e = .returned (.int .i64 (-1)) ∧ Below w.heap.size w w' := by
  have hh := slR_ints h
  have e1 := hh.1.1
  have hn : n ≤ 9223372036854775807 := by omega
  rw [e1] at h3
  have d : decide (k - (n : Int) < 0) = true := by simp; omega
  clear h e1 hh
  go_enter Tryz.func37, Tryz.ntmps37
  go_wp2
  go_ret
  exact ⟨rfl, (belx)⟩
set_option maxHeartbeats 400000 in
theorem o_markByteS {w : World} {n c : Nat} {A : Option Addr} {l : List Int} {F : List Nat} (k : Int) (h : (tSl .u8).O w [.slice A n c] l F) (h0 : 0 ≤ k) (hk : k + l.length ≤ 4611686018427387904) :
    Calls Tryz.prog 18 #[.slice A n c, .int .i64 k] w fun e w' => e = .returned (.int .i64 (k + l.length)) ∧ (tSl .u8).O w' [.slice A n c] (marks8 k l.length) F ∧ Only F w w' := by
  by_cases hz : l.length = 0
  · have hl : l = [] := List.eq_nil_of_length_eq_zero hz
    subst hl
    obtain ⟨rfl, rfl⟩ := sliceO.nilO h
    clear hz
    go_enter Tryz.func18, Tryz.ntmps18
    go_wp2
    go_loop [1, 5] (fun x i => x = .int .i64 k ∧ i = .int .i64 0) (fun _ _ => 0)
    case atStart => exact ⟨rfl, rfl⟩
    case round =>
      obtain ⟨rfl, rfl⟩ := hrel
      go_wp2
      go_ret
      exact ⟨by simp, h, Only.refl _ _⟩
  · obtain ⟨hn, hnc, hcm⟩ := sliceO.len h
    have HN := Lib.hid hn
    obtain ⟨g, off, rfl, _, _, _, _, _, rfl, hgs⟩ := sliceO.row h (by omega)
    have HZ := Lib.hid (mks_zero (fun i : Nat => (k + (i : Int)) % 256) l)
    rw [hn] at hk hz
    rw [hn]
    clear hn
    go_enter Tryz.func18, Tryz.ntmps18
    go_wp2
    go_loopw [1, 5] (fun x i wr => ∃ j : Nat, j ≤ n ∧ x = .int .i64 (k + j) ∧ i = .int .i64 j ∧ sliceO .u8 wr [.slice (some ⟨g, off, none⟩) n c] (mks (fun i : Nat => (k + (i : Int)) % 256) l j) [g] ∧ Only [g] w wr) (fun _ i _ => n - (intOf i).toNat)
    case atStart => exact ⟨0, by omega, by go_num, rfl, by rw [HZ.out]; exact h, Only.refl _ _⟩
    case round =>
      obtain ⟨j, hj, rfl, rfl, hO, hG⟩ := hrel
      by_cases hlt : j < n
      · have HS := Lib.hid (mks_set (fun i : Nat => (k + (i : Int)) % 256) l j)
        obtain ⟨g', off', e1, _, _, _, hcell, hfz, _, _⟩ := sliceO.row hO (by omega)
        simp only [Option.some.injEq, Addr.mk.injEq, and_true] at e1
        obtain ⟨rfl, rfl⟩ := e1
        have hc1 := hcell j (by omega)
        have hf1 := hfz (off + j)
        have hP := sliceO.put hO hlt (x := (k + (j : Int)) % 256) (WalkArith.wf_u8 (by omega))
        rw [HS.out] at hP
        clear hcell hfz
        go_wp2
        go_roundw
        case rel => exact ⟨j + 1, by omega, by go_num, by go_num, hP, only_set hG (by simp) _ _⟩
        case measure => simp [intOf]; omega
      · obtain rfl : j = n := by omega
        have HA := Lib.hid (show mks (fun i : Nat => (k + (i : Int)) % 256) l j = marks8 k j from by rw [← HN.out]; exact mks_all _ _)
        go_wp2
        go_ret
        exact ⟨rfl, by rw [← HA.out]; exact hO, hG⟩
theorem o_heldByteS {w : World} {B n c : Nat} {A : Option Addr} (k : Int) {l : List Int} (h : (tSl .u8).R w B [.slice A n c] (marks8 k l.length)) (h0 : 0 ≤ k) (hk : k + l.length ≤ 4611686018427387904) :
    Calls Tryz.prog 20 #[.slice A n c, .int .i64 k] w fun e w' => e = .returned (.int .i64 (k + l.length)) ∧ Below w.heap.size w w' := by
  have h1 := (slR_ints h).1
  have hn : l.length = n := by have := h1.1; rwa [marks8_len] at this
  rw [hn] at h1 hk ⊢
  exact (l_heldByteS k h1 h0 hk).mono fun e w' hh => ⟨hh.1, hh.2 ▸ Below.refl _ _⟩
theorem o_eqByteS {w : World} {B n m c d : Nat} {A A' : Option Addr} {l : List Int} (h : (tSl .u8).R w B [.slice A n c] l) (h' : (tSl .u8).R w B [.slice A' m d] l) :
    Calls Tryz.prog 14 #[.slice A n c, .slice A' m d] w fun e w' => e = .returned (.bool true) ∧ Below w.heap.size w w' := by
  have h1 := slR_ints h
  have h2 := slR_ints h'
  refine (l_eqByteS h1.1 h2.1 (by simp only [maxLen]; omega) (by simp only [maxLen]; omega)).mono fun e w' hh => ⟨by rw [hh.1]; simp, hh.2⟩
theorem o_toByteS {w : World} {n c : Nat} {A : Option Addr} {l : List Int} (h : (tSl .u8).R w w.heap.size [.slice A n c] l) (hn : l.length ≤ 1048576) :
    Calls Tryz.prog 29 #[.slice A n c] w fun e w' => ∃ A' c' F, e = .returned (.slice A' l.length c') ∧ (tSl .u8).O w' [.slice A' l.length c'] l F ∧ New w.heap.size F ∧ Below w.heap.size w w' := by
  have h1 := (slR_ints h).1
  have e1 := h1.1
  refine (l_toByteS' h1 (by omega)).mono ?_
  rintro e w' ⟨b, rfl, hO, hB⟩
  obtain ⟨F, hF, hN⟩ := hO.tSl
  rw [← e1] at hF
  exact ⟨_, _, F, by rw [← e1], hF, hN, hB⟩
theorem o_szByteS_t {w : World} {B n c : Nat} {A : Option Addr} {l : List Int} {k : Int} (h : (tSl .u8).R w B [.slice A n c] l) (h1 : 0 ≤ k) (h2 : k ≤ 1048576) (h3 : (l.length : Int) ≤ k) :
    Calls Tryz.prog 38 #[.slice A n c, .int .i64 k] w fun e w' => e = .returned (.int .i64 (k - l.length)) ∧ Below w.heap.size w w' := by
  have e1 := (slR_ints h).1.1
  rw [e1] at h3 ⊢
  have d : decide (k - (n : Int) < 0) = false := by simp; omega
  clear h e1
  go_enter Tryz.func38, Tryz.ntmps38
  go_wp2
  go_ret
  exact ⟨rfl, (belx)⟩
theorem o_szByteS_f {w : World} {B n c : Nat} {A : Option Addr} {l : List Int} {k : Int} (h : (tSl .u8).R w B [.slice A n c] l) (h1 : 0 ≤ k) (h2 : k ≤ 1048576) (h3 : ¬ (l.length : Int) ≤ k) :
    Calls Tryz.prog 38 #[.slice A n c, .int .i64 k] w fun e w' => e = .returned (.int .i64 (-1)) ∧ Below w.heap.size w w' := by
  have hh := slR_ints h
  have e1 := hh.1.1
  have hn : n ≤ 9223372036854775807 := by omega
  rw [e1] at h3
  have d : decide (k - (n : Int) < 0) = true := by simp; omega
  clear h e1 hh
  go_enter Tryz.func38, Tryz.ntmps38
  go_wp2
  go_ret
  exact ⟨rfl, (belx)⟩
end Go.Proofs.YtojbicecopkfbaaGreat
namespace Go.Proofs.YtojbicecopkfbaaGreat
open Go.ChangeShapes Go.WideShapes Go.ChangeAt Go.RowKit
open Fld
theorem o_toByteSA {w : World} {n c : Nat} {A : Option Addr} {l : List Int} (h : (tSl .u8).R w w.heap.size [.slice A n c] l) (hn : l.length ≤ 1048576) :
    Calls Tryz.prog 29 #[.slice A n c] w fun e w' => ∃ A' c' F, e = .returned (.slice A' l.length c') ∧ (tSl .u8).O w' [.slice A' l.length c'] l F ∧ New w.heap.size F ∧ ((A' = none ∧ c' = 0) ∨ ∃ b off, A' = some ⟨b, off, none⟩) ∧ Below w.heap.size w w' := by
  have h1 := (slR_ints h).1
  have e1 := h1.1
  refine (l_toByteS' h1 (by omega)).mono ?_
  rintro e w' ⟨b, rfl, hO, hB⟩
  obtain ⟨F, hF, hN⟩ := hO.tSl
  rw [← e1] at hF
  exact ⟨_, _, F, by rw [← e1], hF, hN, .inr ⟨_, _, rfl⟩, hB⟩
end Go.Proofs.YtojbicecopkfbaaGreat
namespace Go.Proofs.YtojbicecopkfbaaGreat
set_option maxRecDepth 100000
set_option linter.unusedVariables false
set_option linter.unusedSimpArgs false
open Go.ChangeShapes Go.WideShapes Go.ChangeAt Go.RowKit
theorem o_szCell_t {w : World} {cs : List Value} {l0 : DCell} {k : Int} (h : tCell.R w w.heap.size cs l0) (h1 : 0 ≤ k) (h2 : k ≤ 1048576) (h3 : (szCell l0 : Int) ≤ k) :
    Calls Tryz.prog 221 #[.agg cs.toArray, .int .i64 k] w fun e w' => e = .returned (.int .i64 (k - szCell l0)) ∧ Below w.heap.size w w' := by
  obtain ⟨A0, n0, c0, rfl, ha0, hb0, hl0, hr0⟩ := openCell h
  try dsimp only [szCell] at *
  subst hl0
  have d0 : decide (k - ((l0.length : Nat) : Int) < 0) = false := by simp; omega
  go_enter Tryz.func221, Tryz.ntmps221
  go_wp2_with fail
  refine (o_szByteS_t (tBy.reach hr0 ?hB) (by omega) (by omega) (by omega)).mono ?_
  case hB => exact (belx)
  rintro e w1 ⟨rfl, hb1⟩
  have hB1 : Below w.heap.size w w1 := bel_trans (belx) hb1
  have P1 : Box w1 w.heap.size 218 #[.slice A0 l0.length c0] := (Box.new _ _ _).below hb1 (by first | (simp; done) | (simp; omega))
  go_wp2
  go_ret
  exact ⟨ret_int (by omega), hB1⟩
theorem o_szCell_f {w : World} {cs : List Value} {l0 : DCell} {k : Int} (h : tCell.R w w.heap.size cs l0) (h1 : 0 ≤ k) (h2 : k ≤ 1048576) (h3 : ¬ (szCell l0 : Int) ≤ k) :
    Calls Tryz.prog 221 #[.agg cs.toArray, .int .i64 k] w fun e w' => e = .returned (.int .i64 (-1)) ∧ Below w.heap.size w w' := by
  obtain ⟨A0, n0, c0, rfl, ha0, hb0, hl0, hr0⟩ := openCell h
  try dsimp only [szCell] at *
  subst hl0
  go_enter Tryz.func221, Tryz.ntmps221
  go_wp2_with fail
  refine (o_szByteS_f (tBy.reach hr0 ?hB) (by omega) (by omega) (by omega)).mono ?_
  case hB => exact (belx)
  rintro e w1 ⟨rfl, hb1⟩
  have hB1 : Below w.heap.size w w1 := bel_trans (belx) hb1
  have P1 : Box w1 w.heap.size 218 #[.slice A0 l0.length c0] := (Box.new _ _ _).below hb1 (by first | (simp; done) | (simp; omega))
  go_wp2
  go_ret
  exact ⟨rfl, hB1⟩
set_option maxHeartbeats 400000 in
theorem o_toCell {w : World} {cs : List Value} {l0 : DCell} (h : tCell.R w w.heap.size cs l0) (hn : szCell l0 ≤ 1048576) :
    Calls Tryz.prog 223 #[.agg cs.toArray] w fun e w' => ∃ cs' F, e = .returned (.agg cs'.toArray) ∧ tCell.O w' cs' l0 F ∧ New w.heap.size F ∧ Below w.heap.size w w' := by
  obtain ⟨A0, n0, c0, rfl, ha0, hb0, hl0, hr0⟩ := openCell h
  try dsimp only [szCell] at *
  subst hl0
  go_enter Tryz.func223, Tryz.ntmps223
  go_wp2_with fail
  refine (o_toByteS (tBy.reach hr0 ?hB) (by omega)).mono ?_
  case hB => exact (belx)
  rintro e w1 ⟨B0, d0, F0, rfl, o0, hN1, hb1⟩
  have z1 : w.heap.size + 3 ≤ w1.heap.size := by have := hb1.size; simpa using this
  have hB1 : Below w.heap.size w w1 := bel_trans (belx) hb1
  have R1 : Box w1 (w.heap.size + 1) 119 #[.slice none 0 0] := Box.below (Box.alloc (by simpa using Box.new (w.alloc _) 119 #[.slice none 0 0]) _) hb1 (by first | (simp; done) | (simp; omega))
  have L1 : Box w1 (w.heap.size + 1 + 1) 119 #[.slice none 0 0] := Box.below (by simpa using Box.new ((w.alloc _).alloc _) 119 #[.slice none 0 0]) hb1 (by first | (simp; done) | (simp; omega))
  have P1 : Box w1 w.heap.size 218 #[.slice A0 l0.length c0] := Box.below (((Box.new w 218 #[.slice A0 l0.length c0]).alloc _).alloc _) hb1 (by first | (simp; done) | (simp; omega))
  have hM1 : New (w.heap.size + 3) (F0) := hN1.lower (by simp)
  clear hN1
  have y1 : ∀ f ∈ F0, f < w1.heap.size := by intro f hf; exact tBy.lt o0 f hf
  have kr1_0 := R1.cell 0; have fr1_0 := R1.frozen 0; have kl1_0 := L1.cell 0; have fl1_0 := L1.frozen 0; have kp1_0 := P1.cell 0
  go_wp2
  have RR := ((R1.far (p := ⟨w.heap.size + 1 + 1, 0, none⟩) (by first | (simp; done) | (simp; omega)) (.slice B0 l0.length d0)).put 0 (.slice B0 l0.length d0))
  have e0 := RR.cell 0
  have u0 := (Ty.far (t := tBy) (Ty.far (t := tBy) o0 hM1 (p := ⟨w.heap.size + 1 + 1, 0, none⟩) (by first | (simp; done) | (simp; omega)) (.slice B0 l0.length d0)) hM1 (p := ⟨w.heap.size + 1, 0, none⟩) (by first | (simp; done) | (simp; omega)) (.slice B0 l0.length d0))
  obtain ⟨F, hF, hFe⟩ := makeOCell (p := l0) u0
  refine bodyPost_ret (v := .agg #[.slice B0 l0.length d0]) (by simp [results, Tryz.results223, go_sem, e0]) rfl ⟨_, F, rfl, hF, ?_, ?_⟩
  · rw [hFe]
    exact New.lower (B := w.heap.size + 3) (by exact hM1) (by omega)
  · exact (bel_put (bel_put hB1 (by first | (simp; done) | (simp; omega)) _) (by first | (simp; done) | (simp; omega)) _)
theorem o_eqCell {w : World} {cs cs' : List Value} {l0 : DCell} (h : tCell.R w w.heap.size cs l0) (h' : tCell.R w w.heap.size cs' l0) :
    Calls Tryz.prog 155 #[.agg cs.toArray, .agg cs'.toArray] w fun e w' => e = .returned (.bool true) ∧ Below w.heap.size w w' := by
  obtain ⟨A0, n0, c0, rfl, ha0, hb0, hl0, hr0⟩ := openCell h
  obtain ⟨A0', n0', c0', rfl, ha0', hb0', hl0', hr0'⟩ := openCell h'
  skip
  try dsimp only at *
  subst hl0
  subst hl0'
  go_enter Tryz.func155, Tryz.ntmps155
  go_wp2_with fail
  refine (o_eqByteS (tBy.reach hr0 ?hB) (tBy.reach hr0' ?hB)).mono ?_
  case hB => exact (belx)
  rintro e w1 ⟨rfl, hb1⟩
  have hB1 : Below w.heap.size w w1 := bel_trans (belx) hb1
  have P1 : Box w1 w.heap.size 119 #[.slice A0 l0.length c0] := ((Box.new _ _ _).alloc _).below hb1 (by first | (simp; done) | (simp; omega))
  have Q1 : Box w1 (w.heap.size + 1) 119 #[.slice A0' l0.length c0'] := Box.below (by simpa using Box.new (w.alloc _) 119 #[.slice A0' l0.length c0']) hb1 (by first | (simp; done) | (simp; omega))
  go_wp2
  go_ret
  exact ⟨rfl, hB1⟩
end Go.Proofs.YtojbicecopkfbaaGreat
namespace Go.Proofs.YtojbicecopkfbaaGreat
set_option maxRecDepth 100000
set_option linter.unusedVariables false
set_option linter.unusedSimpArgs false
open Go.ChangeShapes Go.WideShapes Go.ChangeAt Go.RowKit
theorem o_szHeld_t {w : World} {cs : List Value} {p : DHeld} {k : Int} (h : tHeld.R w w.heap.size cs p) (h1 : 0 ≤ k) (h2 : k ≤ 1048576) (h3 : (szHeld p : Int) ≤ k) :
    Calls Tryz.prog 186 #[.agg cs.toArray, .int .i64 k] w fun e w' => e = .returned (.int .i64 (k - szHeld p)) ∧ Below w.heap.size w w' := by
  obtain ⟨A2, n2, c2, rfl, hi0, hi1, ha2, hb2, hl2, hr2⟩ := openHeld h
  obtain ⟨x0, x1, l2⟩ := p
  try dsimp only [szHeld] at *
  subst hl2
  have d0 : decide (k - ((szCell l2 : Nat) : Int) < 0) = false := by simp; omega
  go_enter Tryz.func186, Tryz.ntmps186
  go_wp2_with fail
  refine (o_szCell_t (tCell.reach (makeCell (p := l2) hr2) ?hB) (by omega) (by omega) (by omega)).mono ?_
  case hB => exact (belx)
  rintro e w1 ⟨rfl, hb1⟩
  have hB1 : Below w.heap.size w w1 := bel_trans (belx) hb1
  have P1 : Box w1 w.heap.size 220 #[.int .i64 x0, .int .i64 x1, .slice A2 l2.length c2] := (Box.new _ _ _).below hb1 (by first | (simp; done) | (simp; omega))
  go_wp2
  go_ret
  exact ⟨ret_int (by omega), hB1⟩
theorem o_szHeld_f {w : World} {cs : List Value} {p : DHeld} {k : Int} (h : tHeld.R w w.heap.size cs p) (h1 : 0 ≤ k) (h2 : k ≤ 1048576) (h3 : ¬ (szHeld p : Int) ≤ k) :
    Calls Tryz.prog 186 #[.agg cs.toArray, .int .i64 k] w fun e w' => e = .returned (.int .i64 (-1)) ∧ Below w.heap.size w w' := by
  obtain ⟨A2, n2, c2, rfl, hi0, hi1, ha2, hb2, hl2, hr2⟩ := openHeld h
  obtain ⟨x0, x1, l2⟩ := p
  try dsimp only [szHeld] at *
  subst hl2
  go_enter Tryz.func186, Tryz.ntmps186
  go_wp2_with fail
  refine (o_szCell_f (tCell.reach (makeCell (p := l2) hr2) ?hB) (by omega) (by omega) (by omega)).mono ?_
  case hB => exact (belx)
  rintro e w1 ⟨rfl, hb1⟩
  have hB1 : Below w.heap.size w w1 := bel_trans (belx) hb1
  have P1 : Box w1 w.heap.size 220 #[.int .i64 x0, .int .i64 x1, .slice A2 l2.length c2] := (Box.new _ _ _).below hb1 (by first | (simp; done) | (simp; omega))
  go_wp2
  go_ret
  exact ⟨rfl, hB1⟩
set_option maxHeartbeats 400000 in
theorem o_toHeld {w : World} {cs : List Value} {p : DHeld} (h : tHeld.R w w.heap.size cs p) (hn : szHeld p ≤ 1048576) :
    Calls Tryz.prog 189 #[.agg cs.toArray] w fun e w' => ∃ cs' F, e = .returned (.agg cs'.toArray) ∧ tHeld.O w' cs' p F ∧ New w.heap.size F ∧ Below w.heap.size w w' := by
  obtain ⟨A2, n2, c2, rfl, hi0, hi1, ha2, hb2, hl2, hr2⟩ := openHeld h
  obtain ⟨x0, x1, l2⟩ := p
  try dsimp only [szHeld] at *
  subst hl2
  go_enter Tryz.func189, Tryz.ntmps189
  go_wp2_with fail
  refine (o_toCell (tCell.reach (makeCell (p := l2) hr2) ?hB) (by omega)).mono ?_
  case hB => exact (belx)
  rintro e w1 ⟨cs1, G1, rfl, hO1, hN1, hb1⟩
  obtain ⟨B2, d2, F2, rfl, hGe1, _, _, o2⟩ := openOCell hO1
  try dsimp only at *
  subst G1
  have z1 : w.heap.size + 3 ≤ w1.heap.size := by have := hb1.size; simpa using this
  have hB1 : Below w.heap.size w w1 := bel_trans (belx) hb1
  have R1 : Box w1 (w.heap.size + 1) 121 #[.int .i64 0, .int .i64 0, .slice none 0 0] := Box.below (Box.alloc (by simpa using Box.new (w.alloc _) 121 #[.int .i64 0, .int .i64 0, .slice none 0 0]) _) hb1 (by first | (simp; done) | (simp; omega))
  have L1 : Box w1 (w.heap.size + 1 + 1) 121 #[.int .i64 x0, .int .i64 x1, .slice none 0 0] := Box.below (by simpa using Box.new ((w.alloc _).alloc _) 121 #[.int .i64 x0, .int .i64 x1, .slice none 0 0]) hb1 (by first | (simp; done) | (simp; omega))
  have P1 : Box w1 w.heap.size 220 #[.int .i64 x0, .int .i64 x1, .slice A2 l2.length c2] := Box.below (((Box.new w 220 #[.int .i64 x0, .int .i64 x1, .slice A2 l2.length c2]).alloc _).alloc _) hb1 (by first | (simp; done) | (simp; omega))
  have hM1 : New (w.heap.size + 3) (F2) := hN1.lower (by simp)
  clear hN1
  have y1 : ∀ f ∈ F2, f < w1.heap.size := by intro f hf; exact tBy.lt o2 f hf
  have kr1_0 := R1.cell 0; have fr1_0 := R1.frozen 0; have kl1_0 := L1.cell 0; have fl1_0 := L1.frozen 0; have kp1_0 := P1.cell 0
  have kr1_1 := R1.cell 1; have fr1_1 := R1.frozen 1; have kl1_1 := L1.cell 1; have fl1_1 := L1.frozen 1; have kp1_1 := P1.cell 1
  have kr1_2 := R1.cell 2; have fr1_2 := R1.frozen 2; have kl1_2 := L1.cell 2; have fl1_2 := L1.frozen 2; have kp1_2 := P1.cell 2
  go_wp2
  have RR := ((((R1.far (p := ⟨w.heap.size + 1 + 1, 2, none⟩) (by first | (simp; done) | (simp; omega)) (.slice B2 l2.length d2)).put 0 (.int .i64 x0)).put 1 (.int .i64 x1)).put 2 (.slice B2 l2.length d2))
  have e0 := RR.cell 0
  have e1 := RR.cell 1
  have e2 := RR.cell 2
  have u2 := (Ty.far (t := tBy) (Ty.far (t := tBy) (Ty.far (t := tBy) (Ty.far (t := tBy) o2 hM1 (p := ⟨w.heap.size + 1 + 1, 2, none⟩) (by first | (simp; done) | (simp; omega)) (.slice B2 l2.length d2)) hM1 (p := ⟨w.heap.size + 1, 0, none⟩) (by first | (simp; done) | (simp; omega)) (.int .i64 x0)) hM1 (p := ⟨w.heap.size + 1, 1, none⟩) (by first | (simp; done) | (simp; omega)) (.int .i64 x1)) hM1 (p := ⟨w.heap.size + 1, 2, none⟩) (by first | (simp; done) | (simp; omega)) (.slice B2 l2.length d2))
  obtain ⟨F, hF, hFe⟩ := makeOHeld (p := (x0, x1, l2)) hi0 hi1 u2
  refine bodyPost_ret (v := .agg #[.int .i64 x0, .int .i64 x1, .slice B2 l2.length d2]) (by simp [results, Tryz.results189, go_sem, e0, e1, e2]) rfl ⟨_, F, rfl, hF, ?_, ?_⟩
  · rw [hFe]
    exact New.lower (B := w.heap.size + 3) (by exact hM1) (by omega)
  · exact (bel_put (bel_put (bel_put (bel_put hB1 (by first | (simp; done) | (simp; omega)) _) (by first | (simp; done) | (simp; omega)) _) (by first | (simp; done) | (simp; omega)) _) (by first | (simp; done) | (simp; omega)) _)
theorem o_eqHeld {w : World} {cs cs' : List Value} {p : DHeld} (h : tHeld.R w w.heap.size cs p) (h' : tHeld.R w w.heap.size cs' p) :
    Calls Tryz.prog 87 #[.agg cs.toArray, .agg cs'.toArray] w fun e w' => e = .returned (.bool true) ∧ Below w.heap.size w w' := by
  obtain ⟨A2, n2, c2, rfl, hi0, hi1, ha2, hb2, hl2, hr2⟩ := openHeld h
  obtain ⟨A2', n2', c2', rfl, hi0', hi1', ha2', hb2', hl2', hr2'⟩ := openHeld h'
  obtain ⟨x0, x1, l2⟩ := p
  try dsimp only at *
  subst hl2
  subst hl2'
  have q0 : (x0 != x0) = false := by simp
  have q1 : (x1 != x1) = false := by simp
  go_enter Tryz.func87, Tryz.ntmps87
  go_wp2_with fail
  refine (o_eqCell (tCell.reach (makeCell (p := l2) hr2) ?hB) (tCell.reach (makeCell (p := l2) hr2') ?hB)).mono ?_
  case hB => exact (belx)
  rintro e w1 ⟨rfl, hb1⟩
  have hB1 : Below w.heap.size w w1 := bel_trans (belx) hb1
  have P1 : Box w1 w.heap.size 121 #[.int .i64 x0, .int .i64 x1, .slice A2 l2.length c2] := ((Box.new _ _ _).alloc _).below hb1 (by first | (simp; done) | (simp; omega))
  have Q1 : Box w1 (w.heap.size + 1) 121 #[.int .i64 x0, .int .i64 x1, .slice A2' l2.length c2'] := Box.below (by simpa using Box.new (w.alloc _) 121 #[.int .i64 x0, .int .i64 x1, .slice A2' l2.length c2']) hb1 (by first | (simp; done) | (simp; omega))
  go_wp2
  go_ret
  exact ⟨rfl, hB1⟩
end Go.Proofs.YtojbicecopkfbaaGreat
namespace Go.Proofs.YtojbicecopkfbaaGreat
set_option maxRecDepth 100000
set_option linter.unusedVariables false
set_option linter.unusedSimpArgs false
open Go.ChangeShapes Go.WideShapes Go.ChangeAt Go.RowKit
theorem o_szPiece_t {w : World} {cs : List Value} {p : DPiece} {k : Int} (h : tPiece.R w w.heap.size cs p) (h1 : 0 ≤ k) (h2 : k ≤ 1048576) (h3 : (szPiece p : Int) ≤ k) :
    Calls Tryz.prog 8 #[.agg cs.toArray, .int .i64 k] w fun e w' => e = .returned (.int .i64 (k - szPiece p)) ∧ Below w.heap.size w w' := by
  obtain ⟨A3, n3, c3, rfl, hi0, hi1, hi2, ha3, hb3, hl3, hr3⟩ := openPiece h
  obtain ⟨x0, x1, x2, l3⟩ := p
  try dsimp only [szPiece] at *
  subst hl3
  have d0 : decide (k - ((l3.length : Nat) : Int) < 0) = false := by simp; omega
  go_enter Tryz.func8, Tryz.ntmps8
  go_wp2_with fail
  refine (o_szByteS_t (tBy.reach hr3 ?hB) (by omega) (by omega) (by omega)).mono ?_
  case hB => exact (belx)
  rintro e w1 ⟨rfl, hb1⟩
  have hB1 : Below w.heap.size w w1 := bel_trans (belx) hb1
  have P1 : Box w1 w.heap.size 28 #[.int .i64 x0, .int .i64 x1, .int .i64 x2, .slice A3 l3.length c3] := (Box.new _ _ _).below hb1 (by first | (simp; done) | (simp; omega))
  go_wp2
  go_ret
  exact ⟨ret_int (by omega), hB1⟩
theorem o_szPiece_f {w : World} {cs : List Value} {p : DPiece} {k : Int} (h : tPiece.R w w.heap.size cs p) (h1 : 0 ≤ k) (h2 : k ≤ 1048576) (h3 : ¬ (szPiece p : Int) ≤ k) :
    Calls Tryz.prog 8 #[.agg cs.toArray, .int .i64 k] w fun e w' => e = .returned (.int .i64 (-1)) ∧ Below w.heap.size w w' := by
  obtain ⟨A3, n3, c3, rfl, hi0, hi1, hi2, ha3, hb3, hl3, hr3⟩ := openPiece h
  obtain ⟨x0, x1, x2, l3⟩ := p
  try dsimp only [szPiece] at *
  subst hl3
  go_enter Tryz.func8, Tryz.ntmps8
  go_wp2_with fail
  refine (o_szByteS_f (tBy.reach hr3 ?hB) (by omega) (by omega) (by omega)).mono ?_
  case hB => exact (belx)
  rintro e w1 ⟨rfl, hb1⟩
  have hB1 : Below w.heap.size w w1 := bel_trans (belx) hb1
  have P1 : Box w1 w.heap.size 28 #[.int .i64 x0, .int .i64 x1, .int .i64 x2, .slice A3 l3.length c3] := (Box.new _ _ _).below hb1 (by first | (simp; done) | (simp; omega))
  go_wp2
  go_ret
  exact ⟨rfl, hB1⟩
set_option maxHeartbeats 400000 in
theorem o_toPiece {w : World} {cs : List Value} {p : DPiece} (h : tPiece.R w w.heap.size cs p) (hn : szPiece p ≤ 1048576) :
    Calls Tryz.prog 11 #[.agg cs.toArray] w fun e w' => ∃ cs' F, e = .returned (.agg cs'.toArray) ∧ tPiece.O w' cs' p F ∧ New w.heap.size F ∧ Below w.heap.size w w' := by
  obtain ⟨A3, n3, c3, rfl, hi0, hi1, hi2, ha3, hb3, hl3, hr3⟩ := openPiece h
  obtain ⟨x0, x1, x2, l3⟩ := p
  try dsimp only [szPiece] at *
  subst hl3
  go_enter Tryz.func11, Tryz.ntmps11
  go_wp2_with fail
  refine (o_toByteS (tBy.reach hr3 ?hB) (by omega)).mono ?_
  case hB => exact (belx)
  rintro e w1 ⟨B3, d3, F3, rfl, o3, hN1, hb1⟩
  have z1 : w.heap.size + 3 ≤ w1.heap.size := by have := hb1.size; simpa using this
  have hB1 : Below w.heap.size w w1 := bel_trans (belx) hb1
  have R1 : Box w1 (w.heap.size + 1) 37 #[.int .i64 0, .int .i64 0, .int .i64 0, .slice none 0 0] := Box.below (Box.alloc (by simpa using Box.new (w.alloc _) 37 #[.int .i64 0, .int .i64 0, .int .i64 0, .slice none 0 0]) _) hb1 (by first | (simp; done) | (simp; omega))
  have L1 : Box w1 (w.heap.size + 1 + 1) 37 #[.int .i64 x0, .int .i64 x1, .int .i64 x2, .slice none 0 0] := Box.below (by simpa using Box.new ((w.alloc _).alloc _) 37 #[.int .i64 x0, .int .i64 x1, .int .i64 x2, .slice none 0 0]) hb1 (by first | (simp; done) | (simp; omega))
  have P1 : Box w1 w.heap.size 28 #[.int .i64 x0, .int .i64 x1, .int .i64 x2, .slice A3 l3.length c3] := Box.below (((Box.new w 28 #[.int .i64 x0, .int .i64 x1, .int .i64 x2, .slice A3 l3.length c3]).alloc _).alloc _) hb1 (by first | (simp; done) | (simp; omega))
  have hM1 : New (w.heap.size + 3) (F3) := hN1.lower (by simp)
  clear hN1
  have y1 : ∀ f ∈ F3, f < w1.heap.size := by intro f hf; exact tBy.lt o3 f hf
  have kr1_0 := R1.cell 0; have fr1_0 := R1.frozen 0; have kl1_0 := L1.cell 0; have fl1_0 := L1.frozen 0; have kp1_0 := P1.cell 0
  have kr1_1 := R1.cell 1; have fr1_1 := R1.frozen 1; have kl1_1 := L1.cell 1; have fl1_1 := L1.frozen 1; have kp1_1 := P1.cell 1
  have kr1_2 := R1.cell 2; have fr1_2 := R1.frozen 2; have kl1_2 := L1.cell 2; have fl1_2 := L1.frozen 2; have kp1_2 := P1.cell 2
  have kr1_3 := R1.cell 3; have fr1_3 := R1.frozen 3; have kl1_3 := L1.cell 3; have fl1_3 := L1.frozen 3; have kp1_3 := P1.cell 3
  go_wp2
  have RR := (((((R1.far (p := ⟨w.heap.size + 1 + 1, 3, none⟩) (by first | (simp; done) | (simp; omega)) (.slice B3 l3.length d3)).put 0 (.int .i64 x0)).put 1 (.int .i64 x1)).put 2 (.int .i64 x2)).put 3 (.slice B3 l3.length d3))
  have e0 := RR.cell 0
  have e1 := RR.cell 1
  have e2 := RR.cell 2
  have e3 := RR.cell 3
  have u3 := (Ty.far (t := tBy) (Ty.far (t := tBy) (Ty.far (t := tBy) (Ty.far (t := tBy) (Ty.far (t := tBy) o3 hM1 (p := ⟨w.heap.size + 1 + 1, 3, none⟩) (by first | (simp; done) | (simp; omega)) (.slice B3 l3.length d3)) hM1 (p := ⟨w.heap.size + 1, 0, none⟩) (by first | (simp; done) | (simp; omega)) (.int .i64 x0)) hM1 (p := ⟨w.heap.size + 1, 1, none⟩) (by first | (simp; done) | (simp; omega)) (.int .i64 x1)) hM1 (p := ⟨w.heap.size + 1, 2, none⟩) (by first | (simp; done) | (simp; omega)) (.int .i64 x2)) hM1 (p := ⟨w.heap.size + 1, 3, none⟩) (by first | (simp; done) | (simp; omega)) (.slice B3 l3.length d3))
  obtain ⟨F, hF, hFe⟩ := makeOPiece (p := (x0, x1, x2, l3)) hi0 hi1 hi2 u3
  refine bodyPost_ret (v := .agg #[.int .i64 x0, .int .i64 x1, .int .i64 x2, .slice B3 l3.length d3]) (by simp [results, Tryz.results11, go_sem, e0, e1, e2, e3]) rfl ⟨_, F, rfl, hF, ?_, ?_⟩
  · rw [hFe]
    exact New.lower (B := w.heap.size + 3) (by exact hM1) (by omega)
  · exact (bel_put (bel_put (bel_put (bel_put (bel_put hB1 (by first | (simp; done) | (simp; omega)) _) (by first | (simp; done) | (simp; omega)) _) (by first | (simp; done) | (simp; omega)) _) (by first | (simp; done) | (simp; omega)) _) (by first | (simp; done) | (simp; omega)) _)
theorem o_eqPiece {w : World} {cs cs' : List Value} {p : DPiece} (h : tPiece.R w w.heap.size cs p) (h' : tPiece.R w w.heap.size cs' p) :
    Calls Tryz.prog 15 #[.agg cs.toArray, .agg cs'.toArray] w fun e w' => e = .returned (.bool true) ∧ Below w.heap.size w w' := by
  obtain ⟨A3, n3, c3, rfl, hi0, hi1, hi2, ha3, hb3, hl3, hr3⟩ := openPiece h
  obtain ⟨A3', n3', c3', rfl, hi0', hi1', hi2', ha3', hb3', hl3', hr3'⟩ := openPiece h'
  obtain ⟨x0, x1, x2, l3⟩ := p
  try dsimp only at *
  subst hl3
  subst hl3'
  have q0 : (x0 != x0) = false := by simp
  have q1 : (x1 != x1) = false := by simp
  have q2 : (x2 != x2) = false := by simp
  go_enter Tryz.func15, Tryz.ntmps15
  go_wp2_with fail
  refine (o_eqByteS (tBy.reach hr3 ?hB) (tBy.reach hr3' ?hB)).mono ?_
  case hB => exact (belx)
  rintro e w1 ⟨rfl, hb1⟩
  have hB1 : Below w.heap.size w w1 := bel_trans (belx) hb1
  have P1 : Box w1 w.heap.size 37 #[.int .i64 x0, .int .i64 x1, .int .i64 x2, .slice A3 l3.length c3] := ((Box.new _ _ _).alloc _).below hb1 (by first | (simp; done) | (simp; omega))
  have Q1 : Box w1 (w.heap.size + 1) 37 #[.int .i64 x0, .int .i64 x1, .int .i64 x2, .slice A3' l3.length c3'] := Box.below (by simpa using Box.new (w.alloc _) 37 #[.int .i64 x0, .int .i64 x1, .int .i64 x2, .slice A3' l3.length c3']) hb1 (by first | (simp; done) | (simp; omega))
  go_wp2
  go_ret
  exact ⟨rfl, hB1⟩
end Go.Proofs.YtojbicecopkfbaaGreat
namespace Go.Proofs.YtojbicecopkfbaaGreat
set_option maxRecDepth 100000
set_option linter.unusedVariables false
set_option linter.unusedSimpArgs false
open Go.ChangeShapes Go.WideShapes Go.ChangeAt Go.RowKit
theorem o_szLetter_t {w : World} {cs : List Value} {p : DLetter} {k : Int} (h : tLetter.R w w.heap.size cs p) (h1 : 0 ≤ k) (h2 : k ≤ 1048576) (h3 : (szLetter p : Int) ≤ k) :
    Calls Tryz.prog 128 #[.agg cs.toArray, .int .i64 k] w fun e w' => e = .returned (.int .i64 (k - szLetter p)) ∧ Below w.heap.size w w' := by
  obtain ⟨A1, n1, c1, rfl, hi0, ha1, hb1, hl1, hr1⟩ := openLetter h
  obtain ⟨x0, l1⟩ := p
  try dsimp only [szLetter] at *
  subst hl1
  have d0 : decide (k - ((l1.length : Nat) : Int) < 0) = false := by simp; omega
  go_enter Tryz.func128, Tryz.ntmps128
  go_wp2_with fail
  refine (o_szByteS_t (tBy.reach hr1 ?hB) (by omega) (by omega) (by omega)).mono ?_
  case hB => exact (belx)
  rintro e w1 ⟨rfl, hb1⟩
  have hB1 : Below w.heap.size w w1 := bel_trans (belx) hb1
  have P1 : Box w1 w.heap.size 165 #[.int .i64 x0, .slice A1 l1.length c1] := (Box.new _ _ _).below hb1 (by first | (simp; done) | (simp; omega))
  go_wp2
  go_ret
  exact ⟨ret_int (by omega), hB1⟩
theorem o_szLetter_f {w : World} {cs : List Value} {p : DLetter} {k : Int} (h : tLetter.R w w.heap.size cs p) (h1 : 0 ≤ k) (h2 : k ≤ 1048576) (h3 : ¬ (szLetter p : Int) ≤ k) :
    Calls Tryz.prog 128 #[.agg cs.toArray, .int .i64 k] w fun e w' => e = .returned (.int .i64 (-1)) ∧ Below w.heap.size w w' := by
  obtain ⟨A1, n1, c1, rfl, hi0, ha1, hb1, hl1, hr1⟩ := openLetter h
  obtain ⟨x0, l1⟩ := p
  try dsimp only [szLetter] at *
  subst hl1
  go_enter Tryz.func128, Tryz.ntmps128
  go_wp2_with fail
  refine (o_szByteS_f (tBy.reach hr1 ?hB) (by omega) (by omega) (by omega)).mono ?_
  case hB => exact (belx)
  rintro e w1 ⟨rfl, hb1⟩
  have hB1 : Below w.heap.size w w1 := bel_trans (belx) hb1
  have P1 : Box w1 w.heap.size 165 #[.int .i64 x0, .slice A1 l1.length c1] := (Box.new _ _ _).below hb1 (by first | (simp; done) | (simp; omega))
  go_wp2
  go_ret
  exact ⟨rfl, hB1⟩
set_option maxHeartbeats 400000 in
theorem o_toLetter {w : World} {cs : List Value} {p : DLetter} (h : tLetter.R w w.heap.size cs p) (hn : szLetter p ≤ 1048576) :
    Calls Tryz.prog 135 #[.agg cs.toArray] w fun e w' => ∃ cs' F, e = .returned (.agg cs'.toArray) ∧ tLetter.O w' cs' p F ∧ New w.heap.size F ∧ Below w.heap.size w w' := by
  obtain ⟨A1, n1, c1, rfl, hi0, ha1, hb1, hl1, hr1⟩ := openLetter h
  obtain ⟨x0, l1⟩ := p
  try dsimp only [szLetter] at *
  subst hl1
  go_enter Tryz.func135, Tryz.ntmps135
  go_wp2_with fail
  refine (o_toByteS (tBy.reach hr1 ?hB) (by omega)).mono ?_
  case hB => exact (belx)
  rintro e w1 ⟨B1, d1, F1, rfl, o1, hN1, hb1⟩
  have z1 : w.heap.size + 3 ≤ w1.heap.size := by have := hb1.size; simpa using this
  have hB1 : Below w.heap.size w w1 := bel_trans (belx) hb1
  have R1 : Box w1 (w.heap.size + 1) 130 #[.int .i64 0, .slice none 0 0] := Box.below (Box.alloc (by simpa using Box.new (w.alloc _) 130 #[.int .i64 0, .slice none 0 0]) _) hb1 (by first | (simp; done) | (simp; omega))
  have L1 : Box w1 (w.heap.size + 1 + 1) 130 #[.int .i64 x0, .slice none 0 0] := Box.below (by simpa using Box.new ((w.alloc _).alloc _) 130 #[.int .i64 x0, .slice none 0 0]) hb1 (by first | (simp; done) | (simp; omega))
  have P1 : Box w1 w.heap.size 165 #[.int .i64 x0, .slice A1 l1.length c1] := Box.below (((Box.new w 165 #[.int .i64 x0, .slice A1 l1.length c1]).alloc _).alloc _) hb1 (by first | (simp; done) | (simp; omega))
  have hM1 : New (w.heap.size + 3) (F1) := hN1.lower (by simp)
  clear hN1
  have y1 : ∀ f ∈ F1, f < w1.heap.size := by intro f hf; exact tBy.lt o1 f hf
  have kr1_0 := R1.cell 0; have fr1_0 := R1.frozen 0; have kl1_0 := L1.cell 0; have fl1_0 := L1.frozen 0; have kp1_0 := P1.cell 0
  have kr1_1 := R1.cell 1; have fr1_1 := R1.frozen 1; have kl1_1 := L1.cell 1; have fl1_1 := L1.frozen 1; have kp1_1 := P1.cell 1
  go_wp2
  have RR := (((R1.far (p := ⟨w.heap.size + 1 + 1, 1, none⟩) (by first | (simp; done) | (simp; omega)) (.slice B1 l1.length d1)).put 0 (.int .i64 x0)).put 1 (.slice B1 l1.length d1))
  have e0 := RR.cell 0
  have e1 := RR.cell 1
  have u1 := (Ty.far (t := tBy) (Ty.far (t := tBy) (Ty.far (t := tBy) o1 hM1 (p := ⟨w.heap.size + 1 + 1, 1, none⟩) (by first | (simp; done) | (simp; omega)) (.slice B1 l1.length d1)) hM1 (p := ⟨w.heap.size + 1, 0, none⟩) (by first | (simp; done) | (simp; omega)) (.int .i64 x0)) hM1 (p := ⟨w.heap.size + 1, 1, none⟩) (by first | (simp; done) | (simp; omega)) (.slice B1 l1.length d1))
  obtain ⟨F, hF, hFe⟩ := makeOLetter (p := (x0, l1)) hi0 u1
  refine bodyPost_ret (v := .agg #[.int .i64 x0, .slice B1 l1.length d1]) (by simp [results, Tryz.results135, go_sem, e0, e1]) rfl ⟨_, F, rfl, hF, ?_, ?_⟩
  · rw [hFe]
    exact New.lower (B := w.heap.size + 3) (by exact hM1) (by omega)
  · exact (bel_put (bel_put (bel_put hB1 (by first | (simp; done) | (simp; omega)) _) (by first | (simp; done) | (simp; omega)) _) (by first | (simp; done) | (simp; omega)) _)
theorem o_eqLetter {w : World} {cs cs' : List Value} {p : DLetter} (h : tLetter.R w w.heap.size cs p) (h' : tLetter.R w w.heap.size cs' p) :
    Calls Tryz.prog 151 #[.agg cs.toArray, .agg cs'.toArray] w fun e w' => e = .returned (.bool true) ∧ Below w.heap.size w w' := by
  obtain ⟨A1, n1, c1, rfl, hi0, ha1, hb1, hl1, hr1⟩ := openLetter h
  obtain ⟨A1', n1', c1', rfl, hi0', ha1', hb1', hl1', hr1'⟩ := openLetter h'
  obtain ⟨x0, l1⟩ := p
  try dsimp only at *
  subst hl1
  subst hl1'
  have q0 : (x0 != x0) = false := by simp
  go_enter Tryz.func151, Tryz.ntmps151
  go_wp2_with fail
  refine (o_eqByteS (tBy.reach hr1 ?hB) (tBy.reach hr1' ?hB)).mono ?_
  case hB => exact (belx)
  rintro e w1 ⟨rfl, hb1⟩
  have hB1 : Below w.heap.size w w1 := bel_trans (belx) hb1
  have P1 : Box w1 w.heap.size 130 #[.int .i64 x0, .slice A1 l1.length c1] := ((Box.new _ _ _).alloc _).below hb1 (by first | (simp; done) | (simp; omega))
  have Q1 : Box w1 (w.heap.size + 1) 130 #[.int .i64 x0, .slice A1' l1.length c1'] := Box.below (by simpa using Box.new (w.alloc _) 130 #[.int .i64 x0, .slice A1' l1.length c1']) hb1 (by first | (simp; done) | (simp; omega))
  go_wp2
  go_ret
  exact ⟨rfl, hB1⟩
end Go.Proofs.YtojbicecopkfbaaGreat
namespace Go.Proofs.YtojbicecopkfbaaGreat
set_option linter.unusedVariables false
open Go.RowKit
theorem flat_at {css : List (List Value)} {k : Nat} (h : ∀ es ∈ css, es.length = k) {i j : Nat} {es : List Value} (hi : css[i]? = some es) (hj : j < k) : css.flatten[i * k + j]? = es[j]? := by
  induction css generalizing i with
  | nil => simp at hi
  | cons c0 css ih =>
    have h0 := h c0 (by simp)
    rw [List.flatten_cons]
    cases i with
    | zero =>
      simp at hi
      subst hi
      rw [Nat.zero_mul, Nat.zero_add, List.getElem?_append_left (by omega)]
    | succ i =>
      simp at hi
      rw [Nat.succ_mul, List.getElem?_append_right (by omega), show i * k + k + j - c0.length = i * k + j by omega]
      exact ih (fun es hes => h es (by simp [hes])) hi
theorem flat_len {css : List (List Value)} {k : Nat} (h : ∀ es ∈ css, es.length = k) : css.flatten.length = css.length * k := by
  induction css with
  | nil => simp
  | cons c0 css ih =>
    rw [List.flatten_cons, List.length_append, h c0 (by simp), ih (fun es hes => h es (by simp [hes])), List.length_cons, Nat.succ_mul]; omega
section
variable {α : Type} {t : Ty α} {e : TypeId} {w w' : World} {base : Nat} {v : Value} {l : List α} {F : List Nat}
def GrowO (t : Ty α) (e : TypeId) (w : World) (base : Nat) (v : Value) (l : List α) (F : List Nat) : Prop :=
  (∃ (css : List (List Value)) (Fs : List (List Nat)), w.ownsRow base e t.k v l.length css.flatten ∧ css.length = l.length ∧ Fs.length = l.length ∧ F = Fs.flatten ∧
    ∀ (i : Nat) (a : α) (es : List Value) (Fi : List Nat), l[i]? = some a → css[i]? = some es → Fs[i]? = some Fi → t.O w es a Fi) ∧ New base F ∧ ∀ b, v.ownBlock = some b → b ∉ F
theorem GrowO.nil : GrowO t e w base (.slice none 0 0) [] [] :=
  ⟨⟨[], [], ⟨by simp, .inl ⟨rfl, rfl⟩⟩, rfl, rfl, rfl, fun i a es Fi h => by simp at h⟩, New.nil _, fun b h => by simp [Value.ownBlock] at h⟩
theorem GrowO.lt (h : GrowO t e w base v l F) : ∀ f ∈ F, f < w.heap.size := by
  obtain ⟨⟨css, Fs, h1, h2, h3, rfl, h5⟩, _, _⟩ := h
  intro f hf
  obtain ⟨Fi, hFi, hfi⟩ := List.mem_flatten.1 hf
  obtain ⟨i, hi, e1⟩ := List.getElem_of_mem hFi
  have hl : i < l.length := by omega
  have hc : i < css.length := by omega
  exact t.lt (h5 i _ _ Fi (List.getElem?_eq_getElem hl) (List.getElem?_eq_getElem hc) (by rw [List.getElem?_eq_getElem hi, e1])) f hfi
theorem GrowO.below (h : GrowO t e w base v l F) (hB : Below w.heap.size w w') : GrowO t e w' base v l F := by
  obtain ⟨⟨css, Fs, h1, h2, h3, h4, h5⟩, h6, h7⟩ := h
  exact ⟨⟨css, Fs, h1.kept (row := none) (below_grownBy hB) (by cases v.ownBlock <;> simp), h2, h3, h4, fun i a es Fi q1 q2 q3 => Ty.below (h5 i a es Fi q1 q2 q3) hB⟩, h6, h7⟩
theorem GrowO.new (h : GrowO t e w base v l F) : New base F := h.2.1
/-- What an append sees, and what it leaves. -/
theorem GrowO.row (h : GrowO t e w base v l F) : ∃ xs, w.ownsRow base e t.k v l.length xs ∧
    ∀ w3 v1 a es Fa, t.O w es a Fa → New base Fa → (∀ f ∈ Fa, f ∉ F) → (∀ b, v.ownBlock = some b → b ∉ Fa) → w3.ownsRow base e t.k v1 (l.length + 1) (xs ++ es) → w.grownBy w3 v.ownBlock →
      (v1.ownBlock = v.ownBlock ∨ v1.ownBlock = some w.heap.size) → GrowO t e w3 base v1 (l ++ [a]) (F ++ Fa) := by
  have hlt := h.lt
  obtain ⟨⟨css, Fs, h1, h2, h3, rfl, h5⟩, h6, h7⟩ := h
  refine ⟨css.flatten, h1, fun w3 v1 a es Fa q1 q2 q3 q4 q5 q6 q7 => ⟨⟨css ++ [es], Fs ++ [Fa], ?_, by simp [h2], by simp [h3], by simp, ?_⟩, ?_, ?_⟩⟩
  · rw [List.length_append, List.flatten_append]
    simpa using q5
  · intro i b cs Fi r1 r2 r3
    by_cases hi : i < l.length
    · rw [List.getElem?_append_left hi] at r1
      rw [List.getElem?_append_left (by omega)] at r2
      rw [List.getElem?_append_left (by omega)] at r3
      have hO := h5 i b cs Fi r1 r2 r3
      exact t.kept hO fun f hf => q6.block f (t.lt hO f hf) fun e => h7 f e.symm (mem_flat r3 hf)
    · rw [List.getElem?_append_right (by omega)] at r1
      have hi0 : i - l.length = 0 := by
        have := (List.getElem?_eq_some_iff.1 r1).1
        simp at this; omega
      rw [hi0] at r1
      rw [List.getElem?_append_right (by omega), h2, hi0] at r2
      rw [List.getElem?_append_right (by omega), h3, hi0] at r3
      simp at r1 r2 r3
      subst r1 r2 r3
      exact t.kept q1 fun f hf => q6.block f (t.lt q1 f hf) fun e => q4 f e.symm hf
  · refine ⟨List.nodup_append.2 ⟨h6.1, q2.1, fun x hx y hy e => ?_⟩, fun f hf => ?_⟩
    · subst e; exact q3 x hy hx
    · rcases List.mem_append.1 hf with h' | h'
      · exact h6.2 f h'
      · exact q2.2 f h'
  · intro b hb hx
    rcases q7 with q7 | q7
    · rw [q7] at hb
      rcases List.mem_append.1 hx with h' | h'
      · exact h7 b hb h'
      · exact q4 b hb h'
    · rw [q7] at hb
      injection hb with hb
      subst hb
      rcases List.mem_append.1 hx with h' | h'
      · have := hlt _ h'; omega
      · have := t.lt q1 _ h'; omega
theorem GrowO.done (h : GrowO t e w base v l F) : ∃ A c F', v = .slice A l.length c ∧ t.row.O w [.slice A l.length c] l F' ∧ New base F' := by
  obtain ⟨⟨css, Fs, h1, h2, h3, rfl, h5⟩, h6, h7⟩ := h
  rcases h1.2 with ⟨rfl, h0⟩ | ⟨g, cap, cur, rfl, hb, hg, hn, hm, hs, ht⟩
  · have : l = [] := List.eq_nil_of_length_eq_zero h0
    subst this
    exact ⟨none, 0, [], rfl, .inl ⟨none, 0, rfl, by omega, rfl, rfl⟩, New.nil _⟩
  · by_cases h0 : 0 < l.length
    · refine ⟨_, cap, g :: Fs.flatten, rfl, .inr ⟨g, 0, cap, cur, e, Fs, rfl, h0, hn, by simp only [maxLen] at hm; omega, hg, h3, rfl, fun i a Fi q1 q2 => ?_⟩, List.nodup_cons.2 ⟨h7 g rfl, h6.1⟩, fun f hf => ?_⟩
      · have hi : i < l.length := (List.getElem?_eq_some_iff.1 q1).1
        have hc : css[i]? = some (css[i]'(by omega)) := List.getElem?_eq_getElem (by omega)
        refine ⟨_, fun j hj => ?_, h5 i a _ Fi q1 hc q2⟩
        have hlen : ∀ es ∈ css, es.length = t.k := fun es hes => by
          obtain ⟨i', hi', rfl⟩ := List.getElem_of_mem hes
          exact t.lenO (h5 i' _ _ _ (List.getElem?_eq_getElem (by omega)) (List.getElem?_eq_getElem hi') (List.getElem?_eq_getElem (by omega)))
        have hb2 : (i + 1) * t.k ≤ l.length * t.k := Nat.mul_le_mul_right _ hi
        rw [Nat.succ_mul] at hb2
        rw [← flat_at hlen hc hj, ← ht, List.getElem?_take, if_pos (by omega)]
        simp
      · rcases List.mem_cons.1 hf with rfl | hf
        · exact hb
        · exact h6.2 f hf
    · have : l = [] := List.eq_nil_of_length_eq_zero (by omega)
      subst this
      exact ⟨_, cap, [], rfl, .inl ⟨_, cap, rfl, by simp only [maxLen] at hm; omega, rfl, rfl⟩, New.nil _⟩
end
section
variable {α : Type} {t : Ty α} {e : TypeId} {w w' : World} {base B : Nat} {v : Value} {l : List α}
/-- A row of a call's own whose elements read below B: what they hold may be another's. -/
def GrowR (t : Ty α) (e : TypeId) (w : World) (base B : Nat) (v : Value) (l : List α) : Prop :=
  ∃ (css : List (List Value)), w.ownsRow base e t.k v l.length css.flatten ∧ css.length = l.length ∧ ∀ (i : Nat) (a : α) (es : List Value), l[i]? = some a → css[i]? = some es → t.R w B es a
theorem GrowR.nil : GrowR t e w base B (.slice none 0 0) [] := ⟨[], ⟨by simp, .inl ⟨rfl, rfl⟩⟩, rfl, fun i a es h => by simp at h⟩
theorem GrowR.below (h : GrowR t e w base B v l) (hB : Below w.heap.size w w') (hb : B ≤ w.heap.size) : GrowR t e w' base B v l := by
  obtain ⟨css, h1, h2, h5⟩ := h
  exact ⟨css, h1.kept (row := none) (below_grownBy hB) (by cases v.ownBlock <;> simp), h2, fun i a es q1 q2 => t.keep (h5 i a es q1 q2) fun b hlt => hB.block b (by omega)⟩
theorem GrowR.row (h : GrowR t e w base B v l) (hb : B ≤ base) (hw : B ≤ w.heap.size) : ∃ xs, w.ownsRow base e t.k v l.length xs ∧
    ∀ w3 v1 a es, t.R w B es a → w3.ownsRow base e t.k v1 (l.length + 1) (xs ++ es) → w.grownBy w3 v.ownBlock → GrowR t e w3 base B v1 (l ++ [a]) := by
  obtain ⟨css, h1, h2, h5⟩ := h
  have hown := fun b hb => h1.lt b hb
  refine ⟨css.flatten, h1, fun w3 v1 a es q1 q5 q6 => ⟨css ++ [es], ?_, by simp [h2], ?_⟩⟩
  · rw [List.length_append, List.flatten_append]
    simpa using q5
  · have keep : ∀ b, b < B → w3.heap[b]? = w.heap[b]? := fun b hlt => q6.block b (by omega) fun e => by have := (hown b e.symm).1; omega
    intro i b cs r1 r2
    by_cases hi : i < l.length
    · rw [List.getElem?_append_left hi] at r1
      rw [List.getElem?_append_left (by omega)] at r2
      exact t.keep (h5 i b cs r1 r2) keep
    · rw [List.getElem?_append_right (by omega)] at r1
      have hi0 : i - l.length = 0 := by
        have := (List.getElem?_eq_some_iff.1 r1).1
        simp at this; omega
      rw [hi0] at r1
      rw [List.getElem?_append_right (by omega), h2, hi0] at r2
      simp at r1 r2
      subst r1 r2
      exact t.keep q1 keep
theorem GrowR.done (h : GrowR t e w base B v l) (hw : B ≤ w.heap.size) : ∃ A c, v = .slice A l.length c ∧ t.row.R w w.heap.size [.slice A l.length c] l := by
  obtain ⟨css, h1, h2, h5⟩ := h
  rcases h1.2 with ⟨rfl, h0⟩ | ⟨g, cap, cur, rfl, hb, hg, hn, hm, hs, ht⟩
  · have : l = [] := List.eq_nil_of_length_eq_zero h0
    subst this
    exact ⟨none, 0, rfl, none, 0, 0, rfl, Nat.le_refl _, by omega, rfl, fun h => absurd h (by omega)⟩
  · refine ⟨_, cap, rfl, _, l.length, cap, rfl, hn, by simp only [maxLen] at hm; omega, rfl, fun _ => ⟨g, 0, rfl, Box.size (t := e) hg, fun i a q1 => ?_⟩⟩
    have hi : i < l.length := (List.getElem?_eq_some_iff.1 q1).1
    have hc : css[i]? = some (css[i]'(by omega)) := List.getElem?_eq_getElem (by omega)
    refine ⟨_, fun j hj => ?_, t.up (h5 i a _ q1 hc) hw⟩
    have hlen : ∀ es ∈ css, es.length = t.k := fun es hes => by
      obtain ⟨i', hi', rfl⟩ := List.getElem_of_mem hes
      exact t.lenR (h5 i' _ _ (List.getElem?_eq_getElem (by omega)) (List.getElem?_eq_getElem hi'))
    have hb2 : (i + 1) * t.k ≤ l.length * t.k := Nat.mul_le_mul_right _ hi
    rw [Nat.succ_mul] at hb2
    rw [Box.cell (t := e) hg, ← flat_at hlen hc hj, ← ht, List.getElem?_take, if_pos (by omega)]
    simp
end
/-- The cells of one struct that have just been laid, as what an append takes in. -/
theorem Src.of_box (w : World) (t : TypeId) (es : List Value) {K : Nat} (hK : es.length = K) : Src (w.alloc (.cells es.toArray t)) K (some ⟨w.heap.size, 0, none⟩) 1 es := by
  refine ⟨by omega, fun _ => ⟨_, 0, rfl, fun j u hj => ?_⟩⟩
  rw [Nat.zero_add, (Box.new w t es.toArray).cell]
  simpa using hj
end Go.Proofs.YtojbicecopkfbaaGreat
namespace Go.Proofs.YtojbicecopkfbaaGreat
set_option maxRecDepth 100000
set_option linter.unusedVariables false
set_option linter.unusedSimpArgs false
open Go.ChangeShapes Go.WideShapes Go.ChangeAt Go.RowKit
/-- A held cell in order: its next node, its time, and so many bytes. -/
def HdN (a d : Int) (n : Nat) : Prop := 0 ≤ a ∧ a < 8 ∧ 0 ≤ d ∧ d ≤ 65535 ∧ n = 80
instance (a d : Int) (n : Nat) : Decidable (HdN a d n) := by unfold HdN; infer_instance
def HdOk (p : DHeld) : Prop := HdN p.1 p.2.1 p.2.2.length
instance (p : DHeld) : Decidable (HdOk p) := by unfold HdOk; infer_instance
theorem sh_CellOk_t (A : Option Addr) (c : Nat) (w : World) :
    Calls Tryz.prog 222 #[.agg #[.slice A 80 c]] w fun e w' => e = .returned (.bool true) ∧ Below w.heap.size w w' := by
  go_enter Tryz.func222, Tryz.ntmps222
  go_wp2
  go_ret
  exact ⟨rfl, (belx)⟩
theorem sh_CellOk_f (A : Option Addr) (n c : Nat) (w : World) (h : ¬ n = 80) :
    Calls Tryz.prog 222 #[.agg #[.slice A n c]] w fun e w' => e = .returned (.bool false) ∧ Below w.heap.size w w' := by
  have q : ((n : Int) == 80) = false := by simp; omega
  go_enter Tryz.func222, Tryz.ntmps222
  go_wp2
  go_ret
  exact ⟨ret_bool (by first | exact q | (simp; done) | (simp; omega)), (belx)⟩
theorem s_HeldOkN (w : World) (A2 : Option Addr) (n2 c2 : Nat) (x0 x1 : Int) (b : Bool) (T : HdN x0 x1 n2 → b = true) (F : ¬ HdN x0 x1 n2 → b = false) :
    Calls Tryz.prog 187 #[.agg #[.int .i64 x0, .int .i64 x1, .slice A2 n2 c2]] w fun e w' => e = .returned (.bool b) ∧ Below w.heap.size w w' := by
  unfold HdN at T F
  by_cases h1 : x0 < 0
  · have := F (by omega); subst this; clear F T
    go_enter Tryz.func187, Tryz.ntmps187
    go_wp2
    go_ret
    exact ⟨rfl, (belx)⟩
  by_cases h2 : 8 ≤ x0
  · have := F (by omega); subst this; clear F T
    go_enter Tryz.func187, Tryz.ntmps187
    go_wp2
    go_ret
    exact ⟨rfl, (belx)⟩
  by_cases h3 : x1 < 0
  · have := F (by omega); subst this; clear F T
    go_enter Tryz.func187, Tryz.ntmps187
    go_wp2
    go_ret
    exact ⟨rfl, (belx)⟩
  by_cases h4 : 65535 < x1
  · have := F (by omega); subst this; clear F T
    go_enter Tryz.func187, Tryz.ntmps187
    go_wp2
    go_ret
    exact ⟨rfl, (belx)⟩
  by_cases h5 : n2 = 80
  · have := T (by omega); subst this; clear F T; subst h5
    go_enter Tryz.func187, Tryz.ntmps187
    go_wp2_with ((go_at_call 222; refine (sh_CellOk_t _ _ _).mono ?_; rintro e w1 ⟨rfl, hb1⟩))
    go_ret
    exact ⟨rfl, bel_trans (belx) hb1⟩
  · have := F (by omega); subst this; clear F T
    go_enter Tryz.func187, Tryz.ntmps187
    go_wp2_with ((go_at_call 222; refine (sh_CellOk_f _ _ _ _ (by omega)).mono ?_; rintro e w1 ⟨rfl, hb1⟩))
    go_ret
    exact ⟨rfl, bel_trans (belx) hb1⟩
theorem s_HeldOkR {w : World} {cs : List Value} {p : DHeld} (h : tHeld.R w w.heap.size cs p) :
    Calls Tryz.prog 187 #[.agg cs.toArray] w fun e w' => e = .returned (.bool (decide (HdOk p))) ∧ Below w.heap.size w w' := by
  obtain ⟨A2, n2, c2, rfl, hi0, hi1, ha2, hb2, hl2, hr2⟩ := openHeld h
  exact s_HeldOkN w A2 n2 c2 _ _ _ (fun hh => decide_eq_true (by unfold HdOk; rw [hl2]; exact hh)) (fun hh => decide_eq_false (by unfold HdOk; rw [hl2]; exact hh))
theorem ih_CellOk_t (A : Option Addr) (c : Nat) (w : World) :
    Calls Tryz.prog 224 #[.agg #[.slice A 80 c]] w fun e w' => e = .returned (.bool true) ∧ Below w.heap.size w w' := by
  go_enter Tryz.func224, Tryz.ntmps224
  go_wp2
  go_ret
  exact ⟨rfl, (belx)⟩
theorem ih_CellOk_f (A : Option Addr) (n c : Nat) (w : World) (h : ¬ n = 80) :
    Calls Tryz.prog 224 #[.agg #[.slice A n c]] w fun e w' => e = .returned (.bool false) ∧ Below w.heap.size w w' := by
  have q : ((n : Int) == 80) = false := by simp; omega
  go_enter Tryz.func224, Tryz.ntmps224
  go_wp2
  go_ret
  exact ⟨ret_bool (by first | exact q | (simp; done) | (simp; omega)), (belx)⟩
theorem ih_isNode_t (x : Int) (w : World) (h1 : 0 ≤ x) (h2 : x < 8) : Calls Tryz.prog 136 #[.int .i64 x] w fun e w' => e = .returned (.bool true) ∧ w = w' := by
  go_enter Tryz.func136, Tryz.ntmps136
  go_wp2
  go_ret
  exact ⟨ret_bool (by first | (simp; done) | (simp; omega)), rfl⟩
theorem ih_isNode_f (x : Int) (w : World) (h : ¬ (0 ≤ x ∧ x < 8)) : Calls Tryz.prog 136 #[.int .i64 x] w fun e w' => e = .returned (.bool false) ∧ w = w' := by
  by_cases h1 : x < 0
  · clear h
    go_enter Tryz.func136, Tryz.ntmps136
    go_wp2
    go_ret
    exact ⟨rfl, rfl⟩
  · have h2 : 8 ≤ x := by omega
    clear h
    go_enter Tryz.func136, Tryz.ntmps136
    go_wp2
    go_ret
    exact ⟨ret_bool (by first | (simp; done) | (simp; omega)), rfl⟩
theorem ih_isDue_t (x : Int) (w : World) (h1 : 0 ≤ x) (h2 : x ≤ 65535) : Calls Tryz.prog 47 #[.int .i64 x] w fun e w' => e = .returned (.bool true) ∧ w = w' := by
  go_enter Tryz.func47, Tryz.ntmps47
  go_wp2
  go_ret
  exact ⟨ret_bool (by first | (simp; done) | (simp; omega)), rfl⟩
theorem ih_isDue_f (x : Int) (w : World) (h : ¬ (0 ≤ x ∧ x ≤ 65535)) : Calls Tryz.prog 47 #[.int .i64 x] w fun e w' => e = .returned (.bool false) ∧ w = w' := by
  by_cases h1 : x < 0
  · clear h
    go_enter Tryz.func47, Tryz.ntmps47
    go_wp2
    go_ret
    exact ⟨rfl, rfl⟩
  · have h2 : 65535 < x := by omega
    clear h
    go_enter Tryz.func47, Tryz.ntmps47
    go_wp2
    go_ret
    exact ⟨ret_bool (by first | (simp; done) | (simp; omega)), rfl⟩
theorem i_HeldOkN (w : World) (A2 : Option Addr) (n2 c2 : Nat) (x0 x1 : Int) (b : Bool) (T : HdN x0 x1 n2 → b = true) (F : ¬ HdN x0 x1 n2 → b = false) :
    Calls Tryz.prog 191 #[.agg #[.int .i64 x0, .int .i64 x1, .slice A2 n2 c2]] w fun e w' => e = .returned (.bool b) ∧ Below w.heap.size w w' := by
  unfold HdN at T F
  by_cases h1 : ¬ (0 ≤ x0 ∧ x0 < 8)
  · have := F (by omega); subst this; clear F T
    go_enter Tryz.func191, Tryz.ntmps191
    go_wp2_with ((go_at_call 136; refine (ih_isNode_f _ _ (by omega)).mono ?_; rintro e w' ⟨rfl, rfl⟩))
    go_ret
    exact ⟨rfl, (belx)⟩
  by_cases h3 : ¬ (0 ≤ x1 ∧ x1 ≤ 65535)
  · have := F (by omega); subst this; clear F T
    go_enter Tryz.func191, Tryz.ntmps191
    go_wp2_with (first
        | (go_at_call 136; refine (ih_isNode_t _ _ (by omega) (by omega)).mono ?_; rintro e w' ⟨rfl, rfl⟩)
        | (go_at_call 47; refine (ih_isDue_f _ _ (by omega)).mono ?_; rintro e w' ⟨rfl, rfl⟩))
    go_ret
    exact ⟨rfl, (belx)⟩
  by_cases h5 : n2 = 80
  · have := T (by omega); subst this; clear F T; subst h5
    go_enter Tryz.func191, Tryz.ntmps191
    go_wp2_with (first
        | (go_at_call 136; refine (ih_isNode_t _ _ (by omega) (by omega)).mono ?_; rintro e w' ⟨rfl, rfl⟩)
        | (go_at_call 47; refine (ih_isDue_t _ _ (by omega) (by omega)).mono ?_; rintro e w' ⟨rfl, rfl⟩)
        | (go_at_call 224; refine (ih_CellOk_t _ _ _).mono ?_; rintro e w1 ⟨rfl, hb1⟩))
    go_ret
    exact ⟨rfl, bel_trans (belx) hb1⟩
  · have := F (by omega); subst this; clear F T
    go_enter Tryz.func191, Tryz.ntmps191
    go_wp2_with (first
        | (go_at_call 136; refine (ih_isNode_t _ _ (by omega) (by omega)).mono ?_; rintro e w' ⟨rfl, rfl⟩)
        | (go_at_call 47; refine (ih_isDue_t _ _ (by omega) (by omega)).mono ?_; rintro e w' ⟨rfl, rfl⟩)
        | (go_at_call 224; refine (ih_CellOk_f _ _ _ _ (by omega)).mono ?_; rintro e w1 ⟨rfl, hb1⟩))
    go_ret
    exact ⟨rfl, bel_trans (belx) hb1⟩
theorem i_HeldOkR {w : World} {cs : List Value} {p : DHeld} (h : tHeld.R w w.heap.size cs p) :
    Calls Tryz.prog 191 #[.agg cs.toArray] w fun e w' => e = .returned (.bool (decide (HdOk p))) ∧ Below w.heap.size w w' := by
  obtain ⟨A2, n2, c2, rfl, hi0, hi1, ha2, hb2, hl2, hr2⟩ := openHeld h
  exact i_HeldOkN w A2 n2 c2 _ _ _ (fun hh => decide_eq_true (by unfold HdOk; rw [hl2]; exact hh)) (fun hh => decide_eq_false (by unfold HdOk; rw [hl2]; exact hh))
end Go.Proofs.YtojbicecopkfbaaGreat
namespace Go.Proofs.YtojbicecopkfbaaGreat
open Go.RowKit
theorem own_slice {K : IntKind} {e : TypeId} {w : World} {base : Nat} {v : Value} {l : List Int} (h : Own K e w base v l) : ∃ A c F, v = .slice A l.length c ∧ (tSl K).O w [.slice A l.length c] l F ∧ New base F := by
  obtain ⟨F, hF, hN⟩ := h.tSl
  obtain ⟨A, c, e1, _, _⟩ := slO_one hF
  injection e1 with e1 _
  subst e1
  exact ⟨A, c, F, rfl, hF, hN⟩
theorem nilO {K : IntKind} {w : World} : (tSl K).O w [.slice none 0 0] [] [] := .inl ⟨none, 0, rfl, by omega, rfl, rfl⟩
end Go.Proofs.YtojbicecopkfbaaGreat
namespace Go.Proofs.YtojbicecopkfbaaGreat
set_option linter.unusedVariables false
open Go.RowKit
/-- No two have the same number. -/
def Apart {α : Type} (f : α → Int) (r : List α) : Prop := ∀ (i j : Nat) (a b : α), i < j → r[i]? = some a → r[j]? = some b → f a ≠ f b
theorem Apart.take {α : Type} {f : α → Int} {r : List α} (h : Apart f r) {j : Nat} {a : α} (ha : r[j]? = some a) : ∀ b ∈ r.take j, f b ≠ f a := by
  intro b hb
  obtain ⟨i, hi, rfl⟩ := List.getElem_of_mem hb
  rw [List.length_take] at hi
  exact h i j _ _ (by omega) (by rw [List.getElem_take]; exact List.getElem?_eq_getElem (by omega)) ha
end Go.Proofs.YtojbicecopkfbaaGreat
namespace Go.Proofs.YtojbicecopkfbaaGreat
set_option maxRecDepth 100000
set_option linter.unusedVariables false
set_option linter.unusedSimpArgs false
open Go.ChangeShapes Go.WideShapes Go.ChangeAt Go.RowKit
/-- A fragment in order: its number, place, total, and so many bytes. -/
def PcN (i a t : Int) (n : Nat) : Prop := 0 ≤ i ∧ i ≤ 255 ∧ t ≤ 8 ∧ 0 ≤ a ∧ a < t ∧ n ≤ 20 ∧ (a < t - 1 → n = 20) ∧ (a = t - 1 → 0 < n ∨ t = 1)
instance (i a t : Int) (n : Nat) : Decidable (PcN i a t n) := by unfold PcN; infer_instance
def PcOk (p : DPiece) : Prop := PcN p.1 p.2.1 p.2.2.1 p.2.2.2.length
instance (p : DPiece) : Decidable (PcOk p) := by unfold PcOk; infer_instance
set_option maxHeartbeats 1000000 in
theorem s_PieceOkN (w : World) (A3 : Option Addr) (n3 c3 : Nat) (x0 x1 x2 : Int) (b : Bool) (rg1 : -9223372036854775808 ≤ x2 ∧ x2 ≤ 9223372036854775807) (T : PcN x0 x1 x2 n3 → b = true) (F : ¬ PcN x0 x1 x2 n3 → b = false) :
    Calls Tryz.prog 40 #[.agg #[.int .i64 x0, .int .i64 x1, .int .i64 x2, .slice A3 n3 c3]] w fun e w' => e = .returned (.bool b) ∧ Below w.heap.size w w' := by
  unfold PcN at T F
  by_cases h1 : x0 < 0
  · have := F (by omega); subst this; clear F T
    go_enter Tryz.func40, Tryz.ntmps40
    go_wp2
    go_ret
    exact ⟨rfl, (belx)⟩
  by_cases h2 : 255 < x0
  · have := F (by omega); subst this; clear F T
    go_enter Tryz.func40, Tryz.ntmps40
    go_wp2
    go_ret
    exact ⟨rfl, (belx)⟩
  by_cases h3 : x2 < 1
  · have := F (by omega); subst this; clear F T
    go_enter Tryz.func40, Tryz.ntmps40
    go_wp2
    go_ret
    exact ⟨rfl, (belx)⟩
  by_cases h4 : 8 < x2
  · have := F (by omega); subst this; clear F T
    go_enter Tryz.func40, Tryz.ntmps40
    go_wp2
    go_ret
    exact ⟨rfl, (belx)⟩
  by_cases h5 : x1 < 0
  · have := F (by omega); subst this; clear F T
    go_enter Tryz.func40, Tryz.ntmps40
    go_wp2
    go_ret
    exact ⟨rfl, (belx)⟩
  by_cases h6 : x2 ≤ x1
  · have := F (by omega); subst this; clear F T
    go_enter Tryz.func40, Tryz.ntmps40
    go_wp2
    go_ret
    exact ⟨rfl, (belx)⟩
  by_cases h7 : 20 < n3
  · have := F (by omega); subst this; clear F T
    have q : (20 : Int) < n3 := by omega
    go_enter Tryz.func40, Tryz.ntmps40
    go_wp2
    go_ret
    exact ⟨rfl, (belx)⟩
  have q7 : ¬ (20 : Int) < n3 := by omega
  by_cases h8 : x1 < x2 - 1
  · by_cases h9 : n3 = 20
    · have := T (by omega); subst this h9; clear F T
      go_enter Tryz.func40, Tryz.ntmps40
      go_wp2
      go_ret
      exact ⟨rfl, (belx)⟩
    · have := F (by omega); subst this; clear F T
      have q9 : ((n3 : Int) == 20) = false := by simp; omega
      go_enter Tryz.func40, Tryz.ntmps40
      go_wp2
      go_ret
      exact ⟨by first | (simp; done) | (simp; omega), (belx)⟩
  · by_cases h9 : 0 < n3
    · have := T (by omega); subst this; clear F T
      have q9 : (0 : Int) < n3 := by omega
      go_enter Tryz.func40, Tryz.ntmps40
      go_wp2
      go_ret
      exact ⟨rfl, (belx)⟩
    · have q9 : ¬ (0 : Int) < n3 := by omega
      by_cases h10 : x2 = 1
      · have := T (by omega); subst this h10; clear F T
        go_enter Tryz.func40, Tryz.ntmps40
        go_wp2
        go_ret
        exact ⟨rfl, (belx)⟩
      · have := F (by omega); subst this; clear F T
        have q10 : (x2 == 1) = false := by simpa using h10
        go_enter Tryz.func40, Tryz.ntmps40
        go_wp2
        go_ret
        exact ⟨by first | (simp; done) | (simp; omega), (belx)⟩
theorem s_PieceOk {w : World} {cs : List Value} {p : DPiece} (h : tPiece.R w w.heap.size cs p) (hz : szPiece p ≤ 1048576) :
    Calls Tryz.prog 40 #[.agg cs.toArray] w fun e w' => e = .returned (.bool (decide (PcOk p))) ∧ Below w.heap.size w w' := by
  obtain ⟨A3, n3, c3, rfl, hi0, hi1, hi2, ha3, hb3, hl3, hr3⟩ := openPiece h
  have rg := i64_rg hi2
  exact s_PieceOkN w A3 n3 c3 _ _ _ _ ⟨by omega, by omega⟩ (fun hh => decide_eq_true (by unfold PcOk; rw [hl3]; exact hh)) (fun hh => decide_eq_false (by unfold PcOk; rw [hl3]; exact hh))
theorem i_isId_t (x : Int) (w : World) (h1 : 0 ≤ x) (h2 : x ≤ 255) : Calls Tryz.prog 105 #[.int .i64 x] w fun e w' => e = .returned (.bool true) ∧ w = w' := by
  go_enter Tryz.func105, Tryz.ntmps105
  go_wp2
  go_ret
  exact ⟨rfl, rfl⟩
theorem i_isId_f (x : Int) (w : World) (h : ¬ (0 ≤ x ∧ x ≤ 255)) : Calls Tryz.prog 105 #[.int .i64 x] w fun e w' => e = .returned (.bool false) ∧ w = w' := by
  by_cases h1 : x < 0
  · clear h
    go_enter Tryz.func105, Tryz.ntmps105
    go_wp2
    go_ret
    exact ⟨rfl, rfl⟩
  · have h2 : 255 < x := by omega
    clear h
    go_enter Tryz.func105, Tryz.ntmps105
    go_wp2
    go_ret
    exact ⟨ret_bool (by simp; omega), rfl⟩
set_option maxHeartbeats 1000000 in
theorem i_PieceOkN (w : World) (A3 : Option Addr) (n3 c3 : Nat) (x0 x1 x2 : Int) (b : Bool) (rg1 : -9223372036854775808 ≤ x2 ∧ x2 ≤ 9223372036854775807) (T : PcN x0 x1 x2 n3 → b = true) (F : ¬ PcN x0 x1 x2 n3 → b = false) :
    Calls Tryz.prog 46 #[.agg #[.int .i64 x0, .int .i64 x1, .int .i64 x2, .slice A3 n3 c3]] w fun e w' => e = .returned (.bool b) ∧ Below w.heap.size w w' := by
  unfold PcN at T F
  by_cases h1 : ¬ (0 ≤ x0 ∧ x0 ≤ 255)
  · have := F (by omega); subst this; clear F T
    go_enter Tryz.func46, Tryz.ntmps46
    go_wp2_with (go_at_call 105; refine (i_isId_f _ _ (by omega)).mono ?_; rintro e w' ⟨rfl, rfl⟩)
    go_ret
    exact ⟨rfl, (belx)⟩
  by_cases h4 : 8 < x2
  · have := F (by omega); subst this; clear F T
    go_enter Tryz.func46, Tryz.ntmps46
    go_wp2_with (go_at_call 105; refine (i_isId_t _ _ (by omega) (by omega)).mono ?_; rintro e w' ⟨rfl, rfl⟩)
    go_ret
    exact ⟨rfl, (belx)⟩
  by_cases h5 : x1 < 0
  · have := F (by omega); subst this; clear F T
    go_enter Tryz.func46, Tryz.ntmps46
    go_wp2_with (go_at_call 105; refine (i_isId_t _ _ (by omega) (by omega)).mono ?_; rintro e w' ⟨rfl, rfl⟩)
    go_ret
    exact ⟨rfl, (belx)⟩
  by_cases h6 : x2 ≤ x1
  · have := F (by omega); subst this; clear F T
    go_enter Tryz.func46, Tryz.ntmps46
    go_wp2_with (go_at_call 105; refine (i_isId_t _ _ (by omega) (by omega)).mono ?_; rintro e w' ⟨rfl, rfl⟩)
    go_ret
    exact ⟨rfl, (belx)⟩
  by_cases h8 : x1 < x2 - 1
  · by_cases h9 : n3 = 20
    · have := T (by omega); subst this; clear F T; subst h9
      go_enter Tryz.func46, Tryz.ntmps46
      go_wp2_with (go_at_call 105; refine (i_isId_t _ _ (by omega) (by omega)).mono ?_; rintro e w' ⟨rfl, rfl⟩)
      go_ret
      exact ⟨rfl, (belx)⟩
    · have := F (by omega); subst this; clear F T
      have q9 : ((n3 : Int) == 20) = false := by simp; omega
      go_enter Tryz.func46, Tryz.ntmps46
      go_wp2_with (go_at_call 105; refine (i_isId_t _ _ (by omega) (by omega)).mono ?_; rintro e w' ⟨rfl, rfl⟩)
      go_ret
      exact ⟨by first | (simp; done) | (simp; omega), (belx)⟩
  · by_cases h7 : 20 < n3
    · have := F (by omega); subst this; clear F T
      have q : ¬ (n3 : Int) ≤ 20 := by omega
      go_enter Tryz.func46, Tryz.ntmps46
      go_wp2_with (go_at_call 105; refine (i_isId_t _ _ (by omega) (by omega)).mono ?_; rintro e w' ⟨rfl, rfl⟩)
      go_ret
      exact ⟨rfl, (belx)⟩
    have q7 : (n3 : Int) ≤ 20 := by omega
    by_cases h9 : 0 < n3
    · have := T (by omega); subst this; clear F T
      have q9 : (0 : Int) < n3 := by omega
      go_enter Tryz.func46, Tryz.ntmps46
      go_wp2_with (go_at_call 105; refine (i_isId_t _ _ (by omega) (by omega)).mono ?_; rintro e w' ⟨rfl, rfl⟩)
      go_ret
      exact ⟨rfl, (belx)⟩
    · have q9 : ¬ (0 : Int) < n3 := by omega
      by_cases h10 : x2 = 1
      · have := T (by omega); subst this; clear F T; subst h10
        go_enter Tryz.func46, Tryz.ntmps46
        go_wp2_with (go_at_call 105; refine (i_isId_t _ _ (by omega) (by omega)).mono ?_; rintro e w' ⟨rfl, rfl⟩)
        go_ret
        exact ⟨rfl, (belx)⟩
      · have := F (by omega); subst this; clear F T
        have q10 : (x2 == 1) = false := by simpa using h10
        go_enter Tryz.func46, Tryz.ntmps46
        go_wp2_with (go_at_call 105; refine (i_isId_t _ _ (by omega) (by omega)).mono ?_; rintro e w' ⟨rfl, rfl⟩)
        go_ret
        exact ⟨by first | (simp; done) | (simp; omega), (belx)⟩
theorem i_PieceOk {w : World} {cs : List Value} {p : DPiece} (h : tPiece.R w w.heap.size cs p) (hz : szPiece p ≤ 1048576) :
    Calls Tryz.prog 46 #[.agg cs.toArray] w fun e w' => e = .returned (.bool (decide (PcOk p))) ∧ Below w.heap.size w w' := by
  obtain ⟨A3, n3, c3, rfl, hi0, hi1, hi2, ha3, hb3, hl3, hr3⟩ := openPiece h
  have rg := i64_rg hi2
  exact i_PieceOkN w A3 n3 c3 _ _ _ _ ⟨by omega, by omega⟩ (fun hh => decide_eq_true (by unfold PcOk; rw [hl3]; exact hh)) (fun hh => decide_eq_false (by unfold PcOk; rw [hl3]; exact hh))
end Go.Proofs.YtojbicecopkfbaaGreat
namespace Go.Proofs.YtojbicecopkfbaaGreat
set_option linter.unusedVariables false
/-- Ascending. -/
def Asc (l : List Int) : Prop := ∀ i, i + 1 < l.length → l.getD i 0 < l.getD (i + 1) 0
/-- A message that lacks something. -/
def WhN (w : DWhole) : Prop := (0 ≤ w.2.2.1 ∧ w.2.2.1 ≤ 65535) ∧ (1 ≤ w.2.2.2.length ∧ (w.2.2.2.length : Int) < w.2.1) ∧ (∀ p ∈ w.2.2.2, PcOk p ∧ p.1 = w.1 ∧ p.2.2.1 = w.2.1) ∧ Asc (w.2.2.2.map fun p => p.2.1)
/-- A desk in order. -/
def DkOk (d : DDesk) : Prop := d.1.length ≤ 6 ∧ (∀ x ∈ d.2, 0 ≤ x ∧ x ≤ 255) ∧ Asc d.2 ∧ Asc (d.1.map fun w => w.1) ∧ ∀ w ∈ d.1, WhN w ∧ w.1 ∉ d.2
noncomputable instance (w : DWhole) : Decidable (WhN w) := Classical.propDecidable _
noncomputable instance (d : DDesk) : Decidable (DkOk d) := Classical.propDecidable _
theorem map_at {α : Type} {f : α → Int} {l : List α} {i : Nat} {a : α} (h : l[i]? = some a) : (l.map f).getD i 0 = f a := by
  rw [List.getD_eq_getElem?_getD, List.getElem?_map, h]; rfl
theorem asc_ge {l : List Int} (h : Asc l) (h0 : ∀ x ∈ l, 0 ≤ x) : ∀ i, i < l.length → (i : Int) ≤ l.getD i 0 := by
  intro i
  induction i with
  | zero =>
    intro hi
    have : l.getD 0 0 ∈ l := by rw [List.getD_eq_getElem?_getD, List.getElem?_eq_getElem hi]; exact List.getElem_mem _
    simpa using h0 _ this
  | succ i ih =>
    intro hi
    have := h i hi
    have := ih (by omega)
    omega
theorem asc_len {l : List Int} (h : Asc l) (h0 : ∀ x ∈ l, 0 ≤ x ∧ x ≤ 255) : l.length ≤ 256 := by
  by_cases hl : l.length ≤ 256
  · exact hl
  · have h1 := asc_ge h (fun x hx => (h0 x hx).1) 256 (by omega)
    have h2 : l.getD 256 0 ∈ l := by rw [List.getD_eq_getElem?_getD, List.getElem?_eq_getElem (by omega)]; exact List.getElem_mem _
    have := (h0 _ h2).2
    omega
/-- The first k numbers are names, ascending. -/
def DnK (l : List Int) (k : Nat) : Prop := ∀ i, i < k → (0 ≤ l.getD i 0 ∧ l.getD i 0 ≤ 255) ∧ ∀ q, i = q + 1 → l.getD q 0 < l.getD i 0
theorem DnK.zero {l : List Int} : DnK l 0 := fun i h => absurd h (by omega)
theorem DnK.succ {l : List Int} {k : Nat} (h : DnK l k) (h1 : 0 ≤ l.getD k 0) (h2 : l.getD k 0 ≤ 255) (h3 : ∀ q, k = q + 1 → l.getD q 0 < l.getD k 0) : DnK l (k + 1) := fun i hi => by
  rcases Nat.lt_succ_iff_lt_or_eq.1 hi with h' | rfl
  · exact h i h'
  · exact ⟨⟨h1, h2⟩, h3⟩
theorem DnK.done {l : List Int} {k : Nat} (h : DnK l k) (hk : l.length ≤ k) : (∀ x ∈ l, 0 ≤ x ∧ x ≤ 255) ∧ Asc l := by
  refine ⟨fun x hx => ?_, fun i hi => (h (i + 1) (by omega)).2 i rfl⟩
  obtain ⟨i, hi, rfl⟩ := List.getElem_of_mem hx
  have := (h i (by omega)).1
  rwa [List.getD_eq_getElem?_getD, List.getElem?_eq_getElem hi] at this
/-- The first k things: each meets P, and f ascends. -/
def RwK {α : Type} (P : α → Prop) (f : α → Int) (l : List α) (k : Nat) : Prop := ∀ i a, i < k → l[i]? = some a → P a ∧ ∀ q b, i = q + 1 → l[q]? = some b → f b < f a
theorem RwK.zero {α : Type} {P : α → Prop} {f : α → Int} {l : List α} : RwK P f l 0 := fun i a h => absurd h (by omega)
theorem RwK.succ {α : Type} {P : α → Prop} {f : α → Int} {l : List α} {k : Nat} {a : α} (h : RwK P f l k) (hl : l[k]? = some a) (hP : P a) (h3 : ∀ q b, k = q + 1 → l[q]? = some b → f b < f a) : RwK P f l (k + 1) := fun i x hi hx => by
  rcases Nat.lt_succ_iff_lt_or_eq.1 hi with h' | rfl
  · exact h i x h' hx
  · rw [hl] at hx; injection hx with hx; subst hx; exact ⟨hP, h3⟩
theorem RwK.done {α : Type} {P : α → Prop} {f : α → Int} {l : List α} {k : Nat} (h : RwK P f l k) (hk : l.length ≤ k) : (∀ a ∈ l, P a) ∧ Asc (l.map f) := by
  refine ⟨fun a ha => ?_, fun i hi => ?_⟩
  · obtain ⟨i, hi, rfl⟩ := List.getElem_of_mem ha
    exact (h i _ (by omega) (List.getElem?_eq_getElem hi)).1
  · rw [List.length_map] at hi
    rw [map_at (List.getElem?_eq_getElem (show i < l.length by omega)), map_at (List.getElem?_eq_getElem hi)]
    exact (h (i + 1) _ (by omega) (List.getElem?_eq_getElem hi)).2 i _ rfl (List.getElem?_eq_getElem (by omega))
theorem asc_at {α : Type} {f : α → Int} {l : List α} {q : Nat} {a b : α} (h : Asc (l.map f)) (ha : l[q + 1]? = some a) (hb : l[q]? = some b) : f b < f a := by
  have hq := (List.getElem?_eq_some_iff.1 ha).1
  have := h q (by rw [List.length_map]; exact hq)
  rwa [map_at ha, map_at hb] at this
end Go.Proofs.YtojbicecopkfbaaGreat
namespace Go.Proofs.YtojbicecopkfbaaGreat
set_option linter.unusedVariables false
theorem asc_lt {l : List Int} (h : Asc l) : ∀ i j, i < j → j < l.length → l.getD i 0 < l.getD j 0 := by
  intro i j hij
  induction j with
  | zero => omega
  | succ j ih =>
    intro hj
    have h1 := h j hj
    rcases Nat.lt_succ_iff_lt_or_eq.1 hij with h' | rfl
    · have := ih h' (by omega); omega
    · exact h1
end Go.Proofs.YtojbicecopkfbaaGreat
namespace Go.Proofs.YtojbicecopkfbaaGreat
set_option maxRecDepth 100000
set_option linter.unusedVariables false
set_option linter.unusedSimpArgs false
open Go.ChangeShapes Go.WideShapes Go.ChangeAt Go.RowKit
section
variable {α : Type} {P : α → Prop} {p : α → Bool} {f : α → Int} {l : List α} {a : α} {j : Nat}
theorem al0 : ∀ h ∈ l.take 0, P h := fun h hh => absurd hh (by simp)
theorem alS (h : ∀ x ∈ l.take j, P x) (hl : l[j]? = some a) (ha : P a) : ∀ x ∈ l.take (j + 1), P x := by
  rw [take_sn hl]
  intro x hx
  rcases List.mem_append.1 hx with h' | h'
  · exact h x h'
  · rw [List.mem_singleton] at h'; rw [h']; exact ha
theorem alE (h : ∀ x ∈ l.take j, P x) (hj : l.length ≤ j) : ∀ x ∈ l, P x := by rwa [List.take_of_length_le hj] at h
theorem alMem (hl : l[j]? = some a) : a ∈ l := List.mem_of_getElem? hl
theorem alF (hl : l[j]? = some a) (h : p a = false) : l.all p = false := List.all_eq_false.2 ⟨a, alMem hl, by rw [h]; decide⟩
theorem alT (h : ∀ x ∈ l.take j, p x = true) (hj : l.length ≤ j) : l.all p = true := List.all_eq_true.2 (alE h hj)
theorem mapS (hl : l[j]? = some a) : (l.take (j + 1)).map f = (l.take j).map f ++ [f a] := by rw [take_sn hl, List.map_append]; rfl
theorem mapLen (hn : j ≤ l.length) : ((l.take j).map f).length = j := by rw [List.length_map, List.length_take]; omega
theorem alDec [∀ x, Decidable (P x)] (h : ∀ x ∈ l, P x) : (l.all fun x => decide (P x)) = true := List.all_eq_true.2 fun x hx => decide_eq_true (h x hx)
theorem alDecF [∀ x, Decidable (P x)] (h : ¬ ∀ x ∈ l, P x) : (l.all fun x => decide (P x)) = false := Bool.eq_false_iff.2 fun hh => h fun x hx => of_decide_eq_true (List.all_eq_true.1 hh x hx)
end
theorem atI {l : List Int} {n j : Nat} (h : l.length = n) (hj : j < n) : l[j]? = some (l.getD j 0) := by
  rw [List.getD_eq_getElem?_getD, List.getElem?_eq_getElem (by omega)]; rfl
/-- every over whatever function of numbers. -/
theorem i_everyI {w : World} {B n c : Nat} {A : Option Addr} {l : List Int} (F : Nat) (p : Int → Bool) (hE : ∀ (x : Int) (w : World), Sem.run Tryz.prog (callFunc F #[Value.int .i64 x]) w = .ok (.enter F #[Value.int .i64 x]) w) (hF : ∀ (x : Int) (w : World), Calls Tryz.prog F #[.int .i64 x] w fun e w' => e = .returned (.bool (p x)) ∧ w = w') (hl : Ints .i64 w B A n l) (hn : n ≤ 17592186043904) :
    Calls Tryz.prog 104 #[.slice A n c, .func (.func F) #[] #[]] w fun e w' => e = .returned (.bool (l.all p)) ∧ w = w' := by
  have HL := Lib.hid hl.1
  have HF := Lib.hid hF
  have HE := Lib.hid hE
  clear hF hE
  go_enter Tryz.func104, Tryz.ntmps104
  go_wp2_with fail
  go_loopw [9] (fun i wr => ∃ k : Nat, k ≤ n ∧ i = .int .i64 k ∧ (∀ x ∈ l.take k, p x = true) ∧ wr = w) (fun i _ => n - (intOf i).toNat)
  case atStart => exact ⟨0, by omega, rfl, al0, rfl⟩
  case round =>
    obtain ⟨k, hk, rfl, hG, rfl⟩ := hrel
    have HG := Lib.hid hG
    clear hG
    by_cases hlt : k < n
    · obtain ⟨b, off, rfl, hb, hcell, hwf⟩ := hl.at_ hlt
      have HA := Lib.hid (atI HL.out hlt)
      obtain ⟨x, hx⟩ : ∃ x, l.getD k 0 = x := ⟨_, rfl⟩
      rw [hx] at hcell HA
      clear hx hwf
      have q2 : (k : Int) < (n : Int) := by omega
      go_wp2_with fail
      rw [HE.out, Oper.upon_enter]
      refine (HF.out x _).mono ?_
      rintro e w' ⟨rfl, rfl⟩
      obtain ⟨d, hd⟩ : ∃ d, p x = d := ⟨_, rfl⟩
      rw [hd]
      have HD := Lib.hid hd
      clear hd
      cases d
      · have HR := Lib.hid (alF HA.out HD.out)
        go_wp2
        go_ret
        exact ⟨ret_bool HR.out.symm, rfl⟩
      · go_wp2
        go_roundw
        case rel => exact ⟨k + 1, by omega, by go_num, alS HG.out HA.out HD.out, trivial⟩
        case measure => simp [intOf]; omega
    · obtain rfl : k = n := by omega
      have q2 : ¬ (k : Int) < (k : Int) := by omega
      have HR := Lib.hid (alT HG.out (Nat.le_of_eq HL.out))
      go_wp2
      go_ret
      exact ⟨ret_bool HR.out.symm, rfl⟩
end Go.Proofs.YtojbicecopkfbaaGreat
namespace Go.Proofs.YtojbicecopkfbaaGreat
set_option maxRecDepth 100000
set_option linter.unusedVariables false
set_option linter.unusedSimpArgs false
open Go.ChangeShapes Go.WideShapes Go.ChangeAt Go.RowKit
set_option maxHeartbeats 400000 in
theorem i_evryPieceV {w : World} {n c : Nat} {A : Option Addr} {l : List DPiece} (F : Nat) (V : Value) (p : DPiece → Bool) (hE : ∀ (cs : Array Value) (w : World), Sem.run Tryz.prog (callFunc F #[Value.agg cs, V]) w = .ok (.enter F #[Value.agg cs, V]) w)
    (hF : ∀ (i : Nat) (a : DPiece) (w' : World) (cs : List Value), l[i]? = some a → Below w.heap.size w w' → tPiece.R w' w'.heap.size cs a → Calls Tryz.prog F #[.agg cs.toArray, V] w' fun e w2 => e = .returned (.bool (p a)) ∧ Below w'.heap.size w' w2)
    (hl : tPiece.row.R w w.heap.size [.slice A n c] l) (hn : n ≤ 17592186043904) :
    Calls Tryz.prog 166 #[.slice A n c, .func (.func F) #[] #[V]] w fun e w' => e = .returned (.bool (l.all p)) ∧ Below w.heap.size w w' := by
  obtain ⟨e0, _, _⟩ := rowR_len hl
  have HL := Lib.hid e0
  have HF := Lib.hid hF
  have HE := Lib.hid hE
  clear e0 hF hE
  go_enter Tryz.func166, Tryz.ntmps166
  go_wp2_with fail
  go_loopw [9] (fun i wr => ∃ j : Nat, j ≤ n ∧ i = .int .i64 j ∧ Below w.heap.size w wr ∧ ∀ h ∈ l.take j, p h = true) (fun i _ => n - (intOf i).toNat)
  case atStart => exact ⟨0, by omega, rfl, (belx), al0⟩
  case round =>
    obtain ⟨j, hj, rfl, hB, hG⟩ := hrel
    have HG := Lib.hid hG
    clear hG
    by_cases hlt : j < n
    · obtain ⟨a, b', off, es, hl2, rfl, hb, hes, hR⟩ := rowR_at (K := 4) hl hlt rfl
      have HA := Lib.hid hl2
      clear hl2
      have hRk := hR
      obtain ⟨A2, n2, c2, rfl, -, -, -, -, -, -, -⟩ := openPiece hR
      have e0 : wr.cell? ⟨b', off + j * 4, none⟩ = some (.int .i64 a.1) := cell_at hB hb (hes 0 (by omega))
      have e1 : wr.cell? ⟨b', off + j * 4 + 1, none⟩ = some (.int .i64 a.2.1) := cell_at hB hb (hes 1 (by omega))
      have e2 : wr.cell? ⟨b', off + j * 4 + 2, none⟩ = some (.int .i64 a.2.2.1) := cell_at hB hb (hes 2 (by omega))
      have e3 : wr.cell? ⟨b', off + j * 4 + 3, none⟩ = some (.slice A2 n2 c2) := cell_at hB hb (hes 3 (by omega))
      clear hes
      go_wp2_with fail
      rw [HE.out, Oper.upon_enter]
      refine (HF.out j a _ _ HA.out ?hB (tPiece.reach hRk ?hB2)).mono ?_
      case hB => exact bel_trans (a := w) hB (belx)
      case hB2 => exact bel_trans (a := w) hB (belx)
      rintro e w1 ⟨rfl, hb1⟩
      have hB1 : Below w.heap.size w w1 := bel_trans (bel_trans (a := w) hB (belx)) hb1
      obtain ⟨d, hd⟩ : ∃ d, p a = d := ⟨_, rfl⟩
      rw [hd]
      have HD := Lib.hid hd
      clear hd
      cases d
      · have HR := Lib.hid (alF HA.out HD.out)
        go_wp2
        go_ret
        exact ⟨ret_bool HR.out.symm, hB1⟩
      · go_wp2
        go_roundw
        case rel => exact ⟨j + 1, by omega, by go_num, hB1, alS HG.out HA.out HD.out⟩
        case measure => simp [intOf]; omega
    · obtain rfl : n = j := by omega
      have HR := Lib.hid (alT HG.out (Nat.le_of_eq HL.out))
      go_wp2
      go_ret
      exact ⟨ret_bool HR.out.symm, hB⟩
set_option maxHeartbeats 1000000 in
theorem i_eachPieceI {w : World} {n c : Nat} {A : Option Addr} {l : List DPiece} (F : Nat) (f : DPiece → Int) (hE : ∀ (cs : Array Value) (w : World), Sem.run Tryz.prog (callFunc F #[Value.agg cs]) w = .ok (.enter F #[Value.agg cs]) w)
    (hF : ∀ (i : Nat) (a : DPiece) (w' : World) (cs : List Value), l[i]? = some a → Below w.heap.size w w' → tPiece.R w' w'.heap.size cs a → Calls Tryz.prog F #[.agg cs.toArray] w' fun e w2 => e = .returned (.int .i64 (f a)) ∧ Below w'.heap.size w' w2)
    (hW : ∀ a ∈ l, (Lit.int .i64 (f a)).wf = true) (hl : tPiece.row.R w w.heap.size [.slice A n c] l) (hn : n ≤ 1048576) :
    Calls Tryz.prog 113 #[.slice A n c, .func (.func F) #[] #[]] w fun e w' => ∃ v, e = .returned v ∧ Own .i64 3 w' w.heap.size v (l.map f) ∧ Below w.heap.size w w' := by
  obtain ⟨i0, hi0, hz0, hz1, hz2⟩ := info_parts info_ci
  obtain ⟨e0, _, _⟩ := rowR_len hl
  have HL := Lib.hid e0
  have HF := Lib.hid hF
  have HE := Lib.hid hE
  have HW := Lib.hid hW
  clear e0 hF hE hW
  go_enter Tryz.func113, Tryz.ntmps113
  go_wp2_with fail
  go_loopw [5, 10] (fun v i wr => ∃ j : Nat, j ≤ n ∧ i = .int .i64 j ∧ Own .i64 3 wr w.heap.size v ((l.take j).map f) ∧ Below w.heap.size w wr) (fun _ i _ => n - (intOf i).toNat)
  case atStart => exact ⟨0, by omega, rfl, Own.nil _ _ _ _, (belx)⟩
  case round =>
    obtain ⟨j, hj, rfl, hO, hB⟩ := hrel
    by_cases hlt : j < n
    · obtain ⟨a, b', off, es, hl2, rfl, hb, hes, hR⟩ := rowR_at (K := 4) hl hlt rfl
      have HA := Lib.hid hl2
      have HS := Lib.hid (mapS (f := f) hl2)
      have HLN := Lib.hid (mapLen (f := f) (l := l) (j := j) (by rw [HL.out]; exact hj))
      have HI := Lib.hid (HW.out a (alMem hl2))
      clear hl2
      have hRk := hR
      obtain ⟨A2, n2, c2, rfl, -, -, -, -, -, -, -⟩ := openPiece hR
      have e0 : wr.cell? ⟨b', off + j * 4, none⟩ = some (.int .i64 a.1) := cell_at hB hb (hes 0 (by omega))
      have e1 : wr.cell? ⟨b', off + j * 4 + 1, none⟩ = some (.int .i64 a.2.1) := cell_at hB hb (hes 1 (by omega))
      have e2 : wr.cell? ⟨b', off + j * 4 + 2, none⟩ = some (.int .i64 a.2.2.1) := cell_at hB hb (hes 2 (by omega))
      have e3 : wr.cell? ⟨b', off + j * 4 + 3, none⟩ = some (.slice A2 n2 c2) := cell_at hB hb (hes 3 (by omega))
      clear hes hR
      go_wp2_with fail
      rw [HE.out, Oper.upon_enter]
      refine (HF.out j a _ _ HA.out ?hB (tPiece.reach hRk ?hB2)).mono ?_
      case hB => exact bel_trans (a := w) hB (belx)
      case hB2 => exact bel_trans (a := w) hB (belx)
      rintro e w1 ⟨rfl, hb1⟩
      obtain ⟨y, hy⟩ : ∃ y, f a = y := ⟨_, rfl⟩
      rw [hy] at HS HI
      rw [hy]
      clear hy
      have hs1 : Below wr.heap.size wr w1 := bel_trans (belx) hb1
      have hO2 := hO.below hs1
      have zz := hs1.size
      have zw := hB.size
      have hlen2 := HLN.out
      go_wp2_with (at_builtin; refine wpList_app _ rfl (.tmp 14) (.tmp 18) _ rfl w.heap.size 3 i0 _ 1 8 Tryz.underlying23 hi0 hz0 hz1 hz2 rfl (by omega) _ _ _ rfl (hO2.1.alloc _) _ 1 1 [.int .i64 y] rfl (Src.one _ _ _) (one_int _ _) (by simp only [maxLen]; omega) (by omega) (by simp; omega) ?_; intro v1 w3 hown hgr hat)
      go_roundw
      case rel => exact ⟨j + 1, by omega, by go_num, own_sn hO2 hown HS.out HI.out, below_sn (hB.trans (hs1.mono hB.size)) hO2 (Nat.le_refl _) hgr⟩
      case measure => simp [intOf]; omega
    · obtain rfl : n = j := by omega
      have HA := Lib.hid (show l.take n = l from List.take_of_length_le (Nat.le_of_eq HL.out))
      rw [HA.out] at hO
      go_wp2
      go_ret
      exact ⟨_, rfl, hO, hB⟩
end Go.Proofs.YtojbicecopkfbaaGreat
namespace Go.Proofs.YtojbicecopkfbaaGreat
set_option maxRecDepth 100000
set_option linter.unusedVariables false
set_option linter.unusedSimpArgs false
open Go.ChangeShapes Go.WideShapes Go.ChangeAt Go.RowKit
set_option maxHeartbeats 400000 in
theorem i_evryWholeV {w : World} {n c : Nat} {A : Option Addr} {l : List DWhole} (F : Nat) (V : Value) (p : DWhole → Bool) (hE : ∀ (cs : Array Value) (w : World), Sem.run Tryz.prog (callFunc F #[Value.agg cs, V]) w = .ok (.enter F #[Value.agg cs, V]) w)
    (hF : ∀ (i : Nat) (a : DWhole) (w' : World) (cs : List Value), l[i]? = some a → Below w.heap.size w w' → tWhole.R w' w'.heap.size cs a → Calls Tryz.prog F #[.agg cs.toArray, V] w' fun e w2 => e = .returned (.bool (p a)) ∧ Below w'.heap.size w' w2)
    (hl : tWhole.row.R w w.heap.size [.slice A n c] l) (hn : n ≤ 17592186043904) :
    Calls Tryz.prog 109 #[.slice A n c, .func (.func F) #[] #[V]] w fun e w' => e = .returned (.bool (l.all p)) ∧ Below w.heap.size w w' := by
  obtain ⟨e0, _, _⟩ := rowR_len hl
  have HL := Lib.hid e0
  have HF := Lib.hid hF
  have HE := Lib.hid hE
  clear e0 hF hE
  go_enter Tryz.func109, Tryz.ntmps109
  go_wp2_with fail
  go_loopw [9] (fun i wr => ∃ j : Nat, j ≤ n ∧ i = .int .i64 j ∧ Below w.heap.size w wr ∧ ∀ h ∈ l.take j, p h = true) (fun i _ => n - (intOf i).toNat)
  case atStart => exact ⟨0, by omega, rfl, (belx), al0⟩
  case round =>
    obtain ⟨j, hj, rfl, hB, hG⟩ := hrel
    have HG := Lib.hid hG
    clear hG
    by_cases hlt : j < n
    · obtain ⟨a, b', off, es, hl2, rfl, hb, hes, hR⟩ := rowR_at (K := 4) hl hlt rfl
      have HA := Lib.hid hl2
      clear hl2
      have hRk := hR
      obtain ⟨A2, n2, c2, rfl, -, -, -, -, -, -, -⟩ := openWhole hR
      have e0 : wr.cell? ⟨b', off + j * 4, none⟩ = some (.int .i64 a.1) := cell_at hB hb (hes 0 (by omega))
      have e1 : wr.cell? ⟨b', off + j * 4 + 1, none⟩ = some (.int .i64 a.2.1) := cell_at hB hb (hes 1 (by omega))
      have e2 : wr.cell? ⟨b', off + j * 4 + 2, none⟩ = some (.int .i64 a.2.2.1) := cell_at hB hb (hes 2 (by omega))
      have e3 : wr.cell? ⟨b', off + j * 4 + 3, none⟩ = some (.slice A2 n2 c2) := cell_at hB hb (hes 3 (by omega))
      clear hes
      go_wp2_with fail
      rw [HE.out, Oper.upon_enter]
      refine (HF.out j a _ _ HA.out ?hB (tWhole.reach hRk ?hB2)).mono ?_
      case hB => exact bel_trans (a := w) hB (belx)
      case hB2 => exact bel_trans (a := w) hB (belx)
      rintro e w1 ⟨rfl, hb1⟩
      have hB1 : Below w.heap.size w w1 := bel_trans (bel_trans (a := w) hB (belx)) hb1
      obtain ⟨d, hd⟩ : ∃ d, p a = d := ⟨_, rfl⟩
      rw [hd]
      have HD := Lib.hid hd
      clear hd
      cases d
      · have HR := Lib.hid (alF HA.out HD.out)
        go_wp2
        go_ret
        exact ⟨ret_bool HR.out.symm, hB1⟩
      · go_wp2
        go_roundw
        case rel => exact ⟨j + 1, by omega, by go_num, hB1, alS HG.out HA.out HD.out⟩
        case measure => simp [intOf]; omega
    · obtain rfl : n = j := by omega
      have HR := Lib.hid (alT HG.out (Nat.le_of_eq HL.out))
      go_wp2
      go_ret
      exact ⟨ret_bool HR.out.symm, hB⟩
set_option maxHeartbeats 1000000 in
theorem i_eachWholeI {w : World} {n c : Nat} {A : Option Addr} {l : List DWhole} (F : Nat) (f : DWhole → Int) (hE : ∀ (cs : Array Value) (w : World), Sem.run Tryz.prog (callFunc F #[Value.agg cs]) w = .ok (.enter F #[Value.agg cs]) w)
    (hF : ∀ (i : Nat) (a : DWhole) (w' : World) (cs : List Value), l[i]? = some a → Below w.heap.size w w' → tWhole.R w' w'.heap.size cs a → Calls Tryz.prog F #[.agg cs.toArray] w' fun e w2 => e = .returned (.int .i64 (f a)) ∧ Below w'.heap.size w' w2)
    (hW : ∀ a ∈ l, (Lit.int .i64 (f a)).wf = true) (hl : tWhole.row.R w w.heap.size [.slice A n c] l) (hn : n ≤ 1048576) :
    Calls Tryz.prog 107 #[.slice A n c, .func (.func F) #[] #[]] w fun e w' => ∃ v, e = .returned v ∧ Own .i64 3 w' w.heap.size v (l.map f) ∧ Below w.heap.size w w' := by
  obtain ⟨i0, hi0, hz0, hz1, hz2⟩ := info_parts info_ci
  obtain ⟨e0, _, _⟩ := rowR_len hl
  have HL := Lib.hid e0
  have HF := Lib.hid hF
  have HE := Lib.hid hE
  have HW := Lib.hid hW
  clear e0 hF hE hW
  go_enter Tryz.func107, Tryz.ntmps107
  go_wp2_with fail
  go_loopw [5, 10] (fun v i wr => ∃ j : Nat, j ≤ n ∧ i = .int .i64 j ∧ Own .i64 3 wr w.heap.size v ((l.take j).map f) ∧ Below w.heap.size w wr) (fun _ i _ => n - (intOf i).toNat)
  case atStart => exact ⟨0, by omega, rfl, Own.nil _ _ _ _, (belx)⟩
  case round =>
    obtain ⟨j, hj, rfl, hO, hB⟩ := hrel
    by_cases hlt : j < n
    · obtain ⟨a, b', off, es, hl2, rfl, hb, hes, hR⟩ := rowR_at (K := 4) hl hlt rfl
      have HA := Lib.hid hl2
      have HS := Lib.hid (mapS (f := f) hl2)
      have HLN := Lib.hid (mapLen (f := f) (l := l) (j := j) (by rw [HL.out]; exact hj))
      have HI := Lib.hid (HW.out a (alMem hl2))
      clear hl2
      have hRk := hR
      obtain ⟨A2, n2, c2, rfl, -, -, -, -, -, -, -⟩ := openWhole hR
      have e0 : wr.cell? ⟨b', off + j * 4, none⟩ = some (.int .i64 a.1) := cell_at hB hb (hes 0 (by omega))
      have e1 : wr.cell? ⟨b', off + j * 4 + 1, none⟩ = some (.int .i64 a.2.1) := cell_at hB hb (hes 1 (by omega))
      have e2 : wr.cell? ⟨b', off + j * 4 + 2, none⟩ = some (.int .i64 a.2.2.1) := cell_at hB hb (hes 2 (by omega))
      have e3 : wr.cell? ⟨b', off + j * 4 + 3, none⟩ = some (.slice A2 n2 c2) := cell_at hB hb (hes 3 (by omega))
      clear hes hR
      go_wp2_with fail
      rw [HE.out, Oper.upon_enter]
      refine (HF.out j a _ _ HA.out ?hB (tWhole.reach hRk ?hB2)).mono ?_
      case hB => exact bel_trans (a := w) hB (belx)
      case hB2 => exact bel_trans (a := w) hB (belx)
      rintro e w1 ⟨rfl, hb1⟩
      obtain ⟨y, hy⟩ : ∃ y, f a = y := ⟨_, rfl⟩
      rw [hy] at HS HI
      rw [hy]
      clear hy
      have hs1 : Below wr.heap.size wr w1 := bel_trans (belx) hb1
      have hO2 := hO.below hs1
      have zz := hs1.size
      have zw := hB.size
      have hlen2 := HLN.out
      go_wp2_with (at_builtin; refine wpList_app _ rfl (.tmp 14) (.tmp 18) _ rfl w.heap.size 3 i0 _ 1 8 Tryz.underlying23 hi0 hz0 hz1 hz2 rfl (by omega) _ _ _ rfl (hO2.1.alloc _) _ 1 1 [.int .i64 y] rfl (Src.one _ _ _) (one_int _ _) (by simp only [maxLen]; omega) (by omega) (by simp; omega) ?_; intro v1 w3 hown hgr hat)
      go_roundw
      case rel => exact ⟨j + 1, by omega, by go_num, own_sn hO2 hown HS.out HI.out, below_sn (hB.trans (hs1.mono hB.size)) hO2 (Nat.le_refl _) hgr⟩
      case measure => simp [intOf]; omega
    · obtain rfl : n = j := by omega
      have HA := Lib.hid (show l.take n = l from List.take_of_length_le (Nat.le_of_eq HL.out))
      rw [HA.out] at hO
      go_wp2
      go_ret
      exact ⟨_, rfl, hO, hB⟩
end Go.Proofs.YtojbicecopkfbaaGreat
namespace Go.Proofs.YtojbicecopkfbaaGreat
set_option maxRecDepth 100000
set_option linter.unusedVariables false
set_option linter.unusedSimpArgs false
open Go.ChangeShapes Go.WideShapes Go.ChangeAt Go.RowKit
set_option maxHeartbeats 400000 in
theorem i_evryLetter {w : World} {n c : Nat} {A : Option Addr} {l : List DLetter} (F : Nat) (p : DLetter → Bool) (hE : ∀ (cs : Array Value) (w : World), Sem.run Tryz.prog (callFunc F #[Value.agg cs]) w = .ok (.enter F #[Value.agg cs]) w)
    (hF : ∀ (i : Nat) (a : DLetter) (w' : World) (cs : List Value), l[i]? = some a → Below w.heap.size w w' → tLetter.R w' w'.heap.size cs a → Calls Tryz.prog F #[.agg cs.toArray] w' fun e w2 => e = .returned (.bool (p a)) ∧ Below w'.heap.size w' w2)
    (hl : tLetter.row.R w w.heap.size [.slice A n c] l) (hn : n ≤ 17592186043904) :
    Calls Tryz.prog 139 #[.slice A n c, .func (.func F) #[] #[]] w fun e w' => e = .returned (.bool (l.all p)) ∧ Below w.heap.size w w' := by
  obtain ⟨e0, _, _⟩ := rowR_len hl
  have HL := Lib.hid e0
  have HF := Lib.hid hF
  have HE := Lib.hid hE
  clear e0 hF hE
  go_enter Tryz.func139, Tryz.ntmps139
  go_wp2_with fail
  go_loopw [9] (fun i wr => ∃ j : Nat, j ≤ n ∧ i = .int .i64 j ∧ Below w.heap.size w wr ∧ ∀ h ∈ l.take j, p h = true) (fun i _ => n - (intOf i).toNat)
  case atStart => exact ⟨0, by omega, rfl, (belx), al0⟩
  case round =>
    obtain ⟨j, hj, rfl, hB, hG⟩ := hrel
    have HG := Lib.hid hG
    clear hG
    by_cases hlt : j < n
    · obtain ⟨a, b', off, es, hl2, rfl, hb, hes, hR⟩ := rowR_at (K := 2) hl hlt rfl
      have HA := Lib.hid hl2
      clear hl2
      have hRk := hR
      obtain ⟨A2, n2, c2, rfl, -, -, -, -, -⟩ := openLetter hR
      have e0 : wr.cell? ⟨b', off + j * 2, none⟩ = some (.int .i64 a.1) := cell_at hB hb (hes 0 (by omega))
      have e1 : wr.cell? ⟨b', off + j * 2 + 1, none⟩ = some (.slice A2 n2 c2) := cell_at hB hb (hes 1 (by omega))
      clear hes
      go_wp2_with fail
      rw [HE.out, Oper.upon_enter]
      refine (HF.out j a _ _ HA.out ?hB (tLetter.reach hRk ?hB2)).mono ?_
      case hB => exact bel_trans (a := w) hB (belx)
      case hB2 => exact bel_trans (a := w) hB (belx)
      rintro e w1 ⟨rfl, hb1⟩
      have hB1 : Below w.heap.size w w1 := bel_trans (bel_trans (a := w) hB (belx)) hb1
      obtain ⟨d, hd⟩ : ∃ d, p a = d := ⟨_, rfl⟩
      rw [hd]
      have HD := Lib.hid hd
      clear hd
      cases d
      · have HR := Lib.hid (alF HA.out HD.out)
        go_wp2
        go_ret
        exact ⟨ret_bool HR.out.symm, hB1⟩
      · go_wp2
        go_roundw
        case rel => exact ⟨j + 1, by omega, by go_num, hB1, alS HG.out HA.out HD.out⟩
        case measure => simp [intOf]; omega
    · obtain rfl : n = j := by omega
      have HR := Lib.hid (alT HG.out (Nat.le_of_eq HL.out))
      go_wp2
      go_ret
      exact ⟨ret_bool HR.out.symm, hB⟩
set_option maxHeartbeats 1000000 in
theorem i_eachLetterI {w : World} {n c : Nat} {A : Option Addr} {l : List DLetter} (F : Nat) (f : DLetter → Int) (hE : ∀ (cs : Array Value) (w : World), Sem.run Tryz.prog (callFunc F #[Value.agg cs]) w = .ok (.enter F #[Value.agg cs]) w)
    (hF : ∀ (i : Nat) (a : DLetter) (w' : World) (cs : List Value), l[i]? = some a → Below w.heap.size w w' → tLetter.R w' w'.heap.size cs a → Calls Tryz.prog F #[.agg cs.toArray] w' fun e w2 => e = .returned (.int .i64 (f a)) ∧ Below w'.heap.size w' w2)
    (hW : ∀ a ∈ l, (Lit.int .i64 (f a)).wf = true) (hl : tLetter.row.R w w.heap.size [.slice A n c] l) (hn : n ≤ 1048576) :
    Calls Tryz.prog 196 #[.slice A n c, .func (.func F) #[] #[]] w fun e w' => ∃ v, e = .returned v ∧ Own .i64 3 w' w.heap.size v (l.map f) ∧ Below w.heap.size w w' := by
  obtain ⟨i0, hi0, hz0, hz1, hz2⟩ := info_parts info_ci
  obtain ⟨e0, _, _⟩ := rowR_len hl
  have HL := Lib.hid e0
  have HF := Lib.hid hF
  have HE := Lib.hid hE
  have HW := Lib.hid hW
  clear e0 hF hE hW
  go_enter Tryz.func196, Tryz.ntmps196
  go_wp2_with fail
  go_loopw [5, 10] (fun v i wr => ∃ j : Nat, j ≤ n ∧ i = .int .i64 j ∧ Own .i64 3 wr w.heap.size v ((l.take j).map f) ∧ Below w.heap.size w wr) (fun _ i _ => n - (intOf i).toNat)
  case atStart => exact ⟨0, by omega, rfl, Own.nil _ _ _ _, (belx)⟩
  case round =>
    obtain ⟨j, hj, rfl, hO, hB⟩ := hrel
    by_cases hlt : j < n
    · obtain ⟨a, b', off, es, hl2, rfl, hb, hes, hR⟩ := rowR_at (K := 2) hl hlt rfl
      have HA := Lib.hid hl2
      have HS := Lib.hid (mapS (f := f) hl2)
      have HLN := Lib.hid (mapLen (f := f) (l := l) (j := j) (by rw [HL.out]; exact hj))
      have HI := Lib.hid (HW.out a (alMem hl2))
      clear hl2
      have hRk := hR
      obtain ⟨A2, n2, c2, rfl, -, -, -, -, -⟩ := openLetter hR
      have e0 : wr.cell? ⟨b', off + j * 2, none⟩ = some (.int .i64 a.1) := cell_at hB hb (hes 0 (by omega))
      have e1 : wr.cell? ⟨b', off + j * 2 + 1, none⟩ = some (.slice A2 n2 c2) := cell_at hB hb (hes 1 (by omega))
      clear hes hR
      go_wp2_with fail
      rw [HE.out, Oper.upon_enter]
      refine (HF.out j a _ _ HA.out ?hB (tLetter.reach hRk ?hB2)).mono ?_
      case hB => exact bel_trans (a := w) hB (belx)
      case hB2 => exact bel_trans (a := w) hB (belx)
      rintro e w1 ⟨rfl, hb1⟩
      obtain ⟨y, hy⟩ : ∃ y, f a = y := ⟨_, rfl⟩
      rw [hy] at HS HI
      rw [hy]
      clear hy
      have hs1 : Below wr.heap.size wr w1 := bel_trans (belx) hb1
      have hO2 := hO.below hs1
      have zz := hs1.size
      have zw := hB.size
      have hlen2 := HLN.out
      go_wp2_with (at_builtin; refine wpList_app _ rfl (.tmp 14) (.tmp 18) _ rfl w.heap.size 3 i0 _ 1 8 Tryz.underlying23 hi0 hz0 hz1 hz2 rfl (by omega) _ _ _ rfl (hO2.1.alloc _) _ 1 1 [.int .i64 y] rfl (Src.one _ _ _) (one_int _ _) (by simp only [maxLen]; omega) (by omega) (by simp; omega) ?_; intro v1 w3 hown hgr hat)
      go_roundw
      case rel => exact ⟨j + 1, by omega, by go_num, own_sn hO2 hown HS.out HI.out, below_sn (hB.trans (hs1.mono hB.size)) hO2 (Nat.le_refl _) hgr⟩
      case measure => simp [intOf]; omega
    · obtain rfl : n = j := by omega
      have HA := Lib.hid (show l.take n = l from List.take_of_length_le (Nat.le_of_eq HL.out))
      rw [HA.out] at hO
      go_wp2
      go_ret
      exact ⟨_, rfl, hO, hB⟩
end Go.Proofs.YtojbicecopkfbaaGreat
