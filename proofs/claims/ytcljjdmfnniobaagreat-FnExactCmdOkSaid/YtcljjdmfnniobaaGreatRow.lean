/-
  Rows of structs: one element read; one cell of an element written; an element changed from within; a row filled from its head.
-/
import Derived.Test.YtcljjdmfnniobaaGreatDat
import Derived.Laws.MakeOwn
namespace Go.Proofs.YtcljjdmfnniobaaGreat
set_option linter.unusedVariables false
open Go.RowKit
section
variable {α : Type} {t : Ty α} {w w' : World} {B n c i K : Nat} {A : Option Addr} {v : Value} {l : List α} {a a' : α} {F Fi G : List Nat} {es es' : List Value}

theorem rowR_len (h : t.rowR w B [.slice A n c] l) : l.length = n ∧ n ≤ c ∧ c ≤ 9223372036854775807 := by
  obtain ⟨A', n', c', h1, h2, h3, h4, _⟩ := h
  injection h1 with h1 _
  injection h1 with e1 e2 e3
  subst e1 e2 e3
  exact ⟨h4, h2, h3⟩
theorem rowR_at (h : t.rowR w B [.slice A n c] l) (hi : i < n) (hK : t.k = K) : ∃ a b off es, l[i]? = some a ∧ A = some ⟨b, off, none⟩ ∧ b < B ∧ (∀ j, j < K → w.cell? ⟨b, off + i * K + j, none⟩ = es[j]?) ∧ t.R w B es a := by
  obtain ⟨A', n', c', h1, h2, h3, h4, h5⟩ := h
  injection h1 with h1 _
  injection h1 with e1 e2 e3
  subst e1 e2 e3 hK
  obtain ⟨b, off, e, hb, hc⟩ := h5 (by omega)
  have hl : l[i]? = some (l[i]'(by omega)) := List.getElem?_eq_getElem (by omega)
  obtain ⟨es, k1, k2⟩ := hc i _ hl
  exact ⟨_, b, off, es, hl, e, hb, k1, k2⟩
theorem rowO_shape (h : t.rowO w [v] l F) : ∃ A c, v = .slice A l.length c ∧ l.length ≤ c ∧ c ≤ 9223372036854775807 := by
  rcases h with ⟨A, c, h1, h2, rfl, _⟩ | ⟨g, off, c, cur, e, Fs, h1, h2, h3, h4, _⟩
  · injection h1 with h1 _; exact ⟨A, c, h1, Nat.zero_le _, h2⟩
  · injection h1 with h1 _; exact ⟨_, c, h1, h3, h4⟩
/-- The i-th part of a list of blocks is apart from the others and from g. -/
theorem flat_apart {g : Nat} {Fs : List (List Nat)} (h : (g :: Fs.flatten).Nodup) {i j : Nat} {Fi Fj : List Nat} (hi : Fs[i]? = some Fi) (hj : Fs[j]? = some Fj) (hne : i ≠ j) : ∀ f ∈ Fi, f ∉ Fj := by
  induction Fs generalizing i j with
  | nil => simp at hi
  | cons F0 Fs ih =>
    simp only [List.flatten_cons] at h
    rw [List.nodup_cons] at h
    obtain ⟨h0, h1⟩ := h
    rw [List.nodup_append] at h1
    obtain ⟨h1, h2, h3⟩ := h1
    have h4 : (g :: Fs.flatten).Nodup := List.nodup_cons.2 ⟨fun hx => h0 (List.mem_append.2 (.inr hx)), h2⟩
    intro f hf hg
    cases i with
    | zero =>
      cases j with
      | zero => exact hne rfl
      | succ j =>
        simp at hi hj; subst hi
        exact h3 f hf f (mem_flat hj hg) rfl
    | succ i =>
      cases j with
      | zero =>
        simp at hi hj; subst hj
        exact h3 f hg f (mem_flat hi hf) rfl
      | succ j =>
        simp at hi hj
        exact ih h4 hi hj (fun e => hne (by rw [e])) f hf hg
/-- One element of an own row: its cells; its blocks; and what puts it back, changed. -/
theorem rowO_at (h : t.rowO w [.slice A n c] l F) (hF : F.Nodup) (hl : l[i]? = some a) (hK : t.k = K) :
    ∃ g off cur e es Fi, A = some ⟨g, off, none⟩ ∧ w.heap[g]? = some (.cells cur e (0, 0)) ∧ (∀ j, j < K → cur[off + i * K + j]? = es[j]?) ∧ t.O w es a Fi ∧ g ∈ F ∧ g ∉ Fi ∧ (∀ f ∈ Fi, f ∈ F) ∧ Fi.Nodup ∧
      ∀ w' cur' es' a', w'.heap[g]? = some (.cells cur' e (0, 0)) → (∀ j, j < K → cur'[off + i * K + j]? = es'[j]?) → (∀ q, (∀ j, j < K → q ≠ off + i * K + j) → cur'[q]? = cur[q]?) →
        t.O w' es' a' Fi → (∀ f ∈ F, f ≠ g → f ∉ Fi → w'.heap[f]? = w.heap[f]?) → t.rowO w' [.slice A n c] (l.set i a') F := by
  subst hK
  have hi : i < l.length := (List.getElem?_eq_some_iff.1 hl).1
  rcases h with ⟨A', c', h1, h2, rfl, _⟩ | ⟨g, off, c', cur, e, Fs, h1, h2, h3, h4, h5, h6, rfl, h8⟩
  · simp at hl
  · injection h1 with h1 _
    injection h1 with e1 e2 e3
    subst e1 e2 e3
    have hl' : i < Fs.length := by omega
    have hFi : Fs[i]? = some (Fs[i]'hl') := List.getElem?_eq_getElem hl'
    obtain ⟨es, k1, k2⟩ := h8 i a _ hl hFi
    have hgF : g ∉ Fs.flatten := (List.nodup_cons.1 hF).1
    have hnd : (Fs[i]'hl').Nodup := (List.pairwise_flatten.1 (List.nodup_cons.1 hF).2).1 _ (List.getElem_mem _)
    refine ⟨g, off, cur, e, es, Fs[i]'hl', rfl, h5, k1, k2, List.mem_cons_self, fun hx => hgF (mem_flat hFi hx), fun f hf => List.mem_cons_of_mem _ (mem_flat hFi hf), hnd, ?_⟩
    intro w' cur' es' a' m1 m2 m3 m4 m5
    refine .inr ⟨g, off, c, cur', e, Fs, by rw [List.length_set], by rw [List.length_set]; omega, by rw [List.length_set]; omega, h4, m1, by rw [List.length_set]; omega, rfl, ?_⟩
    intro i' a2 Fi2 q1 q2
    by_cases hii : i' = i
    · subst hii
      rw [List.getElem?_set_self (by omega)] at q1
      injection q1 with q1
      subst q1
      rw [hFi] at q2
      injection q2 with q2
      subst q2
      exact ⟨es', m2, m4⟩
    · rw [List.getElem?_set_ne (fun e => hii e.symm)] at q1
      obtain ⟨es2, p1, p2⟩ := h8 i' a2 Fi2 q1 q2
      refine ⟨es2, fun j hj => ?_, t.kept p2 fun f hf => ?_⟩
      · rw [m3 _ fun j' hj' => ?_]
        · exact p1 j hj
        · intro hq
          have : i' * t.k + j = i * t.k + j' := by omega
          rcases Nat.lt_or_gt_of_ne hii with hlt | hlt
          · have : (i' + 1) * t.k ≤ i * t.k := Nat.mul_le_mul_right _ hlt
            rw [Nat.succ_mul] at this; omega
          · have : (i + 1) * t.k ≤ i' * t.k := Nat.mul_le_mul_right _ hlt
            rw [Nat.succ_mul] at this; omega
      · exact m5 f (List.mem_cons_of_mem _ (mem_flat q2 hf)) (fun e => hgF (e ▸ mem_flat q2 hf)) (flat_apart hF q2 hFi hii f hf)
end
/-! ### cells written one behind the other -/
def puts (w : World) (g off : Nat) : List Value → World
  | [] => w
  | v :: vs => puts (w.setCell ⟨g, off, none⟩ v) g (off + 1) vs
theorem puts_far {w : World} {g off b : Nat} {vs : List Value} (h : b ≠ g) : (puts w g off vs).heap[b]? = w.heap[b]? := by
  induction vs generalizing w off with
  | nil => rfl
  | cons v vs ih => exact ih.trans (Below.heap_setCell w ⟨g, off, none⟩ v b h)
theorem puts_heap {w : World} {g off : Nat} {vs : List Value} {cur : Array Value} {e : TypeId} (h : w.heap[g]? = some (.cells cur e (0, 0))) :
    ∃ cur', (puts w g off vs).heap[g]? = some (.cells cur' e (0, 0)) ∧ cur'.size = cur.size ∧ (∀ q, q < off ∨ off + vs.length ≤ q → cur'[q]? = cur[q]?) ∧ (∀ j, j < vs.length → off + j < cur.size → cur'[off + j]? = vs[j]?) := by
  induction vs generalizing w off cur with
  | nil => exact ⟨cur, h, rfl, fun _ _ => rfl, fun j hj => absurd hj (by simp)⟩
  | cons v vs ih =>
    obtain ⟨cur', h1, h2, h3, h4⟩ := ih (off := off + 1) (Box.put (t := e) h off v)
    refine ⟨cur', h1, by rw [h2]; simp, fun q hq => ?_, fun j hj hs => ?_⟩
    · simp only [List.length_cons] at hq
      rw [h3 q (by omega), Array.getElem?_setIfInBounds, if_neg (by omega)]
    · simp only [List.length_cons] at hj
      cases j with
      | zero =>
        rw [h3 _ (by omega), Array.getElem?_setIfInBounds, if_pos (by omega), if_pos (by omega)]; rfl
      | succ j =>
        have := h4 j (by omega) (by simp; omega)
        rw [show off + (j + 1) = off + 1 + j by omega, this]; rfl
theorem below_puts {B : Nat} {a w : World} {g off : Nat} {vs : List Value} (h : Below B a w) (hg : B ≤ g) : Below B a (puts w g off vs) := by
  induction vs generalizing w off with
  | nil => exact h
  | cons v vs ih => exact ih (h.setCell hg v)
theorem only_puts {F : List Nat} {a w : World} {g off : Nat} {vs : List Value} (h : Only F a w) (hg : g ∈ F) : Only F a (puts w g off vs) := by
  induction vs generalizing w off with
  | nil => exact h
  | cons v vs ih => exact ih (h.put (.inl hg) v)
theorem size_puts {w : World} {g off : Nat} {vs : List Value} : (puts w g off vs).heap.size = w.heap.size := by
  induction vs generalizing w off with
  | nil => rfl
  | cons v vs ih => exact ih.trans (by simp [World.setCell])
section
variable {α : Type}
/-- Block g has room for n things; the first ones are l, a call's own. -/
def Fill (t : Ty α) (w : World) (g : Nat) (e : TypeId) (n : Nat) (l : List α) (F : List Nat) : Prop :=
  ∃ (cur : Array Value) (Fs : List (List Nat)), w.heap[g]? = some (.cells cur e (0, 0)) ∧ cur.size = n * t.k ∧ l.length ≤ n ∧ Fs.length = l.length ∧ F = Fs.flatten ∧
    ∀ i a Fi, l[i]? = some a → Fs[i]? = some Fi → ∃ es, (∀ j, j < t.k → cur[i * t.k + j]? = es[j]?) ∧ t.O w es a Fi
variable {t : Ty α} {w w' : World} {g n : Nat} {e : TypeId} {l : List α} {F Fa : List Nat} {a : α} {es : List Value}
theorem Fill.start {cur : Array Value} (h : w.heap[g]? = some (.cells cur e (0, 0))) (hs : cur.size = n * t.k) : Fill t w g e n [] [] :=
  ⟨cur, [], h, hs, Nat.zero_le _, rfl, rfl, fun i a Fi hi => by simp at hi⟩
theorem Fill.cell (h : Fill t w g e n l F) (hl : l.length < n) {j K : Nat} (hK : t.k = K) (hj : j < K) : ∃ u, w.cell? ⟨g, l.length * K + j, none⟩ = some u := by
  subst hK
  obtain ⟨cur, Fs, h1, h2, _⟩ := h
  have : (l.length + 1) * t.k ≤ n * t.k := Nat.mul_le_mul_right _ hl
  rw [Nat.succ_mul] at this
  rw [Box.cell (t := e) h1, Array.getElem?_eq_getElem (by omega)]
  exact ⟨_, rfl⟩
theorem Fill.frozen (h : Fill t w g e n l F) (q : Nat) : w.frozen? ⟨g, q, none⟩ = false := by
  obtain ⟨cur, Fs, h1, _⟩ := h
  exact Box.frozen (t := e) h1 q
theorem Fill.keep (h : Fill t w g e n l F) (hg : w'.heap[g]? = w.heap[g]?) (hF : ∀ f ∈ F, w'.heap[f]? = w.heap[f]?) : Fill t w' g e n l F := by
  obtain ⟨cur, Fs, h1, h2, h3, h4, rfl, h6⟩ := h
  refine ⟨cur, Fs, hg.trans h1, h2, h3, h4, rfl, fun i a Fi hi hf => ?_⟩
  obtain ⟨es, k1, k2⟩ := h6 i a Fi hi hf
  exact ⟨es, k1, t.kept k2 fun f hff => hF f (mem_flat hf hff)⟩
theorem Fill.size (h : Fill t w g e n l F) : g < w.heap.size := by
  obtain ⟨cur, Fs, h1, _⟩ := h
  exact Box.size (t := e) h1
theorem Fill.lt (h : Fill t w g e n l F) : ∀ f ∈ F, f < w.heap.size := by
  obtain ⟨cur, Fs, h1, h2, h3, h4, rfl, h6⟩ := h
  intro f hf
  obtain ⟨Fi, hFi, hfi⟩ := List.mem_flatten.1 hf
  obtain ⟨i, hi, e1⟩ := List.getElem_of_mem hFi
  have hi' : i < l.length := h4 ▸ hi
  obtain ⟨es, _, k2⟩ := h6 i _ Fi (List.getElem?_eq_getElem hi') (by rw [List.getElem?_eq_getElem hi, e1])
  exact t.lt k2 f hfi
theorem Fill.below (h : Fill t w g e n l F) (hB : Below w.heap.size w w') : Fill t w' g e n l F := h.keep (hB.block g h.size) fun f hf => hB.block f (h.lt f hf)
theorem Fill.push (h : Fill t w g e n l F) (hl : l.length < n) (hO : t.O w es a Fa) (hg : g ∉ F) (hga : g ∉ Fa) {K : Nat} (hK : t.k = K) : Fill t (puts w g (l.length * K) es) g e n (l ++ [a]) (F ++ Fa) := by
  subst hK
  obtain ⟨cur, Fs, h1, h2, h3, h4, rfl, h6⟩ := h
  obtain ⟨cur', k1, k2, k3, k4⟩ := puts_heap (off := l.length * t.k) (vs := es) h1
  have hes := t.lenO hO
  have hn : (l.length + 1) * t.k ≤ n * t.k := Nat.mul_le_mul_right _ hl
  rw [Nat.succ_mul] at hn
  refine ⟨cur', Fs ++ [Fa], k1, k2.trans h2, by simp; omega, by simp [h4], by simp, fun i b Fi hi hf => ?_⟩
  by_cases hii : i < l.length
  · rw [List.getElem?_append_left hii] at hi
    rw [List.getElem?_append_left (by omega)] at hf
    obtain ⟨es2, m1, m2⟩ := h6 i b Fi hi hf
    have : (i + 1) * t.k ≤ l.length * t.k := Nat.mul_le_mul_right _ hii
    rw [Nat.succ_mul] at this
    exact ⟨es2, fun j hj => by rw [k3 _ (by omega)]; exact m1 j hj, t.kept m2 fun f hff => puts_far fun e => hg (e ▸ mem_flat hf hff)⟩
  · rw [List.getElem?_append_right (by omega)] at hi
    rw [List.getElem?_append_right (by omega)] at hf
    have hi0 : i - l.length = 0 := by
      have := (List.getElem?_eq_some_iff.1 hi).1
      simp at this; omega
    rw [hi0] at hi
    rw [h4, hi0] at hf
    simp at hi hf
    subst hi hf
    obtain rfl : i = l.length := by omega
    exact ⟨es, fun j hj => k4 j (by omega) (by omega), t.kept hO fun f hff => puts_far fun e => hga (e ▸ hff)⟩
theorem Fill.done (h : Fill t w g e n l F) (hl : l.length = n) (hm : n ≤ 9223372036854775807) : ∃ F', t.rowO w [.slice (some ⟨g, 0, none⟩) l.length n] l F' ∧ (F' = [] ∨ F' = g :: F) := by
  obtain ⟨cur, Fs, h1, h2, h3, h4, rfl, h6⟩ := h
  by_cases h0 : 0 < l.length
  · exact ⟨g :: Fs.flatten, .inr ⟨g, 0, n, cur, e, Fs, rfl, h0, by omega, hm, h1, h4, rfl, fun i a Fi hi hf => by simpa using h6 i a Fi hi hf⟩, .inr rfl⟩
  · have : l = [] := List.eq_nil_of_length_eq_zero (by omega)
    subst this
    exact ⟨[], .inl ⟨_, n, rfl, hm, rfl, rfl⟩, .inl rfl⟩
theorem New.cons {B : Nat} {F F' : List Nat} (h : New (B + 1) F) (h' : F' = [] ∨ F' = B :: F) : New B F' := by
  rcases h' with rfl | rfl
  · exact New.nil _
  · exact ⟨List.nodup_cons.2 ⟨fun hx => by have := h.2 _ hx; omega, h.1⟩, fun f hf => by rcases List.mem_cons.1 hf with rfl | hf; exact Nat.le_refl _; have := h.2 _ hf; omega⟩
theorem New.not {B g : Nat} {F : List Nat} (h : New B F) (hg : g < B) : g ∉ F := fun hx => by have := h.2 _ hx; omega
theorem New.sub {B : Nat} {F G : List Nat} (h : New B F) (hs : ∀ f ∈ G, f ∈ F) (hn : G.Nodup) : New B G := ⟨hn, fun f hf => h.2 f (hs f hf)⟩
end
theorem wpList_mkS {P : Program} (w : World) {ops : Array Oper} {rest : List Oper} {o : Oper} {a : Act} {Q : Exit → Act → World → Prop}
    (hg : o.guard = none) (l c : Operand) (t : TypeId) (hop : o.op = Op.makeSlice t l c)
    (e : TypeId) (i : TypeInfo) (z : Value) (K : Nat) (h1 : P.underlying t = some (.slice e)) (h2 : P.info? e = some i) (h3 : i.zero = some z) (h4 : i.size = K)
    (n : Nat) (hl : a.eval l = .int .i64 n) (hc : a.eval c = .int .i64 n) (b2 : i.bytes * n ≤ 281474976710656) (b3 : n ≤ maxLen)
    (hK : ∀ w' cur, w'.heap[w.heap.size]? = some (.cells cur e (0, 0)) → cur.size = n * K → Below w.heap.size w w' → w.heap.size < w'.heap.size → wpList P ops Q rest (a.put o.dst (.slice (some ⟨w.heap.size, 0, none⟩) n n)) w') :
    wpList P ops Q (o :: rest) a w := by
  refine wpList_plain hg fun K' hK' => ?_
  have hrun := run_make (P := P) w t e i z h1 h2 h3 .i64 .i64 n n (by omega) (Int.le_refl _) (by omega) (by simp only [maxLen] at b3; omega)
  simp only [Int.toNat_natCast, h4] at hrun
  unfold Oper.wp
  simp [execOp, hop, hl, hc, hrun, Result.andThen]
  exact hK' _ _ (hK _ _ (heap_alloc_new w _) (by simp [madeCells]) ((Below.refl _ _).alloc (Nat.le_refl _) _) (by simp))
end Go.Proofs.YtcljjdmfnniobaaGreat
