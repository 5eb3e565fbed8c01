/-
  Grow, GrowM, GrowN, Ext, AppB, PPiece, PDk, ImplOne, PHeld, PPool, Nd, Nt, FgP, LGlance, LGlanceS, LCell, LMail: texts joined.
-/
import Derived.Test.YtkdanlnhdgcplaaGreatFGa
import Derived.BigQuiet
import Derived.Deep.QuietTactic
import Derived.Deep.RegionHeld3
import Derived.Outline
import Derived.ScopeJumps
import Derived.WalkMore
namespace Go.Proofs.YtkdanlnhdgcplaaGreat
set_option linter.unusedVariables false
open Go.RowKit
theorem flat_at {css : List (List Value)} {k : Nat} (h : ∀ es ∈ css, es.length = k) {i j : Nat} {es : List Value} (hi : css[i]? = some es) (hj : j < k) : css.flatten[i * k + j]? = es[j]? := by
 induction css generalizing i with
 | nil => simp at hi
 | cons c0 css ih =>
  have h0 := h c0 (by simp)
  rw [List.flatten_cons]
  cases i with
  | zero =>
   simp at hi
   subst hi
   rw [Nat.zero_mul, Nat.zero_add, List.getElem?_append_left (by omega)]
  | succ i =>
   simp at hi
   rw [Nat.succ_mul, List.getElem?_append_right (by omega), show i * k + k + j - c0.length = i * k + j by omega]
   exact ih (fun es hes => h es (by simp [hes])) hi
theorem flat_len {css : List (List Value)} {k : Nat} (h : ∀ es ∈ css, es.length = k) : css.flatten.length = css.length * k := by
 induction css with
 | nil => simp
 | cons c0 css ih =>
  rw [List.flatten_cons, List.length_append, h c0 (by simp), ih (fun es hes => h es (by simp [hes])), List.length_cons, Nat.succ_mul]; omega
section
variable {α : Type} {t : Ty α} {e : TypeId} {w w' : World} {base : Nat} {v : Value} {l : List α} {F : List Nat}
def GrowO (t : Ty α) (e : TypeId) (w : World) (base : Nat) (v : Value) (l : List α) (F : List Nat) : Prop :=
 (∃ (css : List (List Value)) (Fs : List (List Nat)), w.ownsRow base e t.k v l.length css.flatten ∧ css.length = l.length ∧ Fs.length = l.length ∧ F = Fs.flatten ∧
  ∀ (i : Nat) (a : α) (es : List Value) (Fi : List Nat), l[i]? = some a → css[i]? = some es → Fs[i]? = some Fi → t.O w es a Fi) ∧ New base F ∧ ∀ b, v.ownBlock = some b → b ∉ F
theorem GrowO.nil : GrowO t e w base (.slice none 0 0) [] [] :=
 ⟨⟨[], [], ⟨by simp, .inl ⟨rfl, rfl⟩⟩, rfl, rfl, rfl, fun i a es Fi h => by simp at h⟩, New.nil _, fun b h => by simp [Value.ownBlock] at h⟩
theorem GrowO.lt (h : GrowO t e w base v l F) : ∀ f ∈ F, f < w.heap.size := by
 obtain ⟨⟨css, Fs, h1, h2, h3, rfl, h5⟩, _, _⟩ := h
 intro f hf
 obtain ⟨Fi, hFi, hfi⟩ := List.mem_flatten.1 hf
 obtain ⟨i, hi, e1⟩ := List.getElem_of_mem hFi
 have hl : i < l.length := by omega
 have hc : i < css.length := by omega
 exact t.lt (h5 i _ _ Fi (List.getElem?_eq_getElem hl) (List.getElem?_eq_getElem hc) (by rw [List.getElem?_eq_getElem hi, e1])) f hfi
theorem GrowO.below (h : GrowO t e w base v l F) (hB : Bel w w') : GrowO t e w' base v l F := by
 obtain ⟨⟨css, Fs, h1, h2, h3, h4, h5⟩, h6, h7⟩ := h
 exact ⟨⟨css, Fs, h1.kept (row := none) (below_grownBy hB) (by cases v.ownBlock <;> simp), h2, h3, h4, fun i a es Fi q1 q2 q3 => Ty.below (h5 i a es Fi q1 q2 q3) hB⟩, h6, h7⟩
theorem GrowO.new (h : GrowO t e w base v l F) : New base F := h.2.1
theorem GrowO.row (h : GrowO t e w base v l F) : ∃ xs, w.ownsRow base e t.k v l.length xs ∧
  ∀ w3 v1 a es Fa, t.O w es a Fa → New base Fa → (∀ f ∈ Fa, f ∉ F) → (∀ b, v.ownBlock = some b → b ∉ Fa) → w3.ownsRow base e t.k v1 (l.length + 1) (xs ++ es) → w.grownBy w3 v.ownBlock →
   (v1.ownBlock = v.ownBlock ∨ v1.ownBlock = some w.heap.size) → GrowO t e w3 base v1 (l ++ [a]) (F ++ Fa) := by
 have hlt := h.lt
 obtain ⟨⟨css, Fs, h1, h2, h3, rfl, h5⟩, h6, h7⟩ := h
 refine ⟨css.flatten, h1, fun w3 v1 a es Fa q1 q2 q3 q4 q5 q6 q7 => ⟨⟨css ++ [es], Fs ++ [Fa], ?_, by simp [h2], by simp [h3], by simp, ?_⟩, ?_, ?_⟩⟩
 ·rw [List.length_append, List.flatten_append]
  simpa using q5
 ·intro i b cs Fi r1 r2 r3
  by_cases hi : i < l.length
  ·rw [List.getElem?_append_left hi] at r1
   rw [List.getElem?_append_left (by omega)] at r2
   rw [List.getElem?_append_left (by omega)] at r3
   have hO := h5 i b cs Fi r1 r2 r3
   exact t.kept hO fun f hf => q6.block f (t.lt hO f hf) fun e => h7 f e.symm (mem_flat r3 hf)
  ·rw [List.getElem?_append_right (by omega)] at r1
   have hi0 : i - l.length = 0 := by
    have := (List.getElem?_eq_some_iff.1 r1).1
    simp at this; omega
   rw [hi0] at r1
   rw [List.getElem?_append_right (by omega), h2, hi0] at r2
   rw [List.getElem?_append_right (by omega), h3, hi0] at r3
   simp at r1 r2 r3
   subst r1 r2 r3
   exact t.kept q1 fun f hf => q6.block f (t.lt q1 f hf) fun e => q4 f e.symm hf
 ·refine ⟨List.nodup_append.2 ⟨h6.1, q2.1, fun x hx y hy e => ?_⟩, fun f hf => ?_⟩
  ·subst e; exact q3 x hy hx
  ·rcases List.mem_append.1 hf with h' | h'
   ·exact h6.2 f h'
   ·exact q2.2 f h'
 ·intro b hb hx
  rcases q7 with q7 | q7
  ·rw [q7] at hb
   rcases List.mem_append.1 hx with h' | h'
   ·exact h7 b hb h'
   ·exact q4 b hb h'
  ·rw [q7] at hb
   injection hb with hb
   subst hb
   rcases List.mem_append.1 hx with h' | h'
   ·have := hlt _ h'; omega
   ·have := t.lt q1 _ h'; omega
theorem GrowO.done (h : GrowO t e w base v l F) : ∃ A c F', v = .slice A l.length c ∧ t.row.O w [.slice A l.length c] l F' ∧ New base F' := by
 obtain ⟨⟨css, Fs, h1, h2, h3, rfl, h5⟩, h6, h7⟩ := h
 rcases h1.2 with ⟨rfl, h0⟩ | ⟨g, cap, cur, rfl, hb, hg, hn, hm, hs, ht⟩
 ·have : l = [] := List.eq_nil_of_length_eq_zero h0
  subst this
  exact ⟨none, 0, [], rfl, .inl ⟨none, 0, rfl, by omega, rfl, rfl⟩, New.nil _⟩
 ·by_cases h0 : 0 < l.length
  ·refine ⟨_, cap, g :: Fs.flatten, rfl, .inr ⟨g, 0, cap, cur, e, Fs, rfl, h0, hn, by simp only [maxLen] at hm; omega, hg, h3, rfl, fun i a Fi q1 q2 => ?_⟩, List.nodup_cons.2 ⟨h7 g rfl, h6.1⟩, fun f hf => ?_⟩
   ·have hi : i < l.length := (List.getElem?_eq_some_iff.1 q1).1
    have hc : css[i]? = some (css[i]'(by omega)) := List.getElem?_eq_getElem (by omega)
    refine ⟨_, fun j hj => ?_, h5 i a _ Fi q1 hc q2⟩
    have hlen : ∀ es ∈ css, es.length = t.k := fun es hes => by
     obtain ⟨i', hi', rfl⟩ := List.getElem_of_mem hes
     exact t.lenO (h5 i' _ _ _ (List.getElem?_eq_getElem (by omega)) (List.getElem?_eq_getElem hi') (List.getElem?_eq_getElem (by omega)))
    have hb2 : (i + 1) * t.k ≤ l.length * t.k := Nat.mul_le_mul_right _ hi
    rw [Nat.succ_mul] at hb2
    rw [← flat_at hlen hc hj, ← ht, List.getElem?_take, if_pos (by omega)]
    simp
   ·rcases List.mem_cons.1 hf with rfl | hf
    ·exact hb
    ·exact h6.2 f hf
  ·have : l = [] := List.eq_nil_of_length_eq_zero (by omega)
   subst this
   exact ⟨_, cap, [], rfl, .inl ⟨_, cap, rfl, by simp only [maxLen] at hm; omega, rfl, rfl⟩, New.nil _⟩
end
section
variable {α : Type} {t : Ty α} {e : TypeId} {w w' : World} {base B : Nat} {v : Value} {l : List α}
def GrowR (t : Ty α) (e : TypeId) (w : World) (base B : Nat) (v : Value) (l : List α) : Prop :=
 ∃ (css : List (List Value)), w.ownsRow base e t.k v l.length css.flatten ∧ css.length = l.length ∧ ∀ (i : Nat) (a : α) (es : List Value), l[i]? = some a → css[i]? = some es → t.R w B es a
theorem GrowR.nil : GrowR t e w base B (.slice none 0 0) [] := ⟨[], ⟨by simp, .inl ⟨rfl, rfl⟩⟩, rfl, fun i a es h => by simp at h⟩
theorem GrowR.below (h : GrowR t e w base B v l) (hB : Bel w w') (hb : B ≤ w.heap.size) : GrowR t e w' base B v l := by
 obtain ⟨css, h1, h2, h5⟩ := h
 exact ⟨css, h1.kept (row := none) (below_grownBy hB) (by cases v.ownBlock <;> simp), h2, fun i a es q1 q2 => t.keep (h5 i a es q1 q2) fun b hlt => hB.block b (by omega)⟩
theorem GrowR.row (h : GrowR t e w base B v l) (hb : B ≤ base) (hw : B ≤ w.heap.size) : ∃ xs, w.ownsRow base e t.k v l.length xs ∧
  ∀ w3 v1 a es, t.R w B es a → w3.ownsRow base e t.k v1 (l.length + 1) (xs ++ es) → w.grownBy w3 v.ownBlock → GrowR t e w3 base B v1 (l ++ [a]) := by
 obtain ⟨css, h1, h2, h5⟩ := h
 have hown := fun b hb => h1.lt b hb
 refine ⟨css.flatten, h1, fun w3 v1 a es q1 q5 q6 => ⟨css ++ [es], ?_, by simp [h2], ?_⟩⟩
 ·rw [List.length_append, List.flatten_append]
  simpa using q5
 ·have keep : ∀ b, b < B → w3.heap[b]? = w.heap[b]? := fun b hlt => q6.block b (by omega) fun e => by have := (hown b e.symm).1; omega
  intro i b cs r1 r2
  by_cases hi : i < l.length
  ·rw [List.getElem?_append_left hi] at r1
   rw [List.getElem?_append_left (by omega)] at r2
   exact t.keep (h5 i b cs r1 r2) keep
  ·rw [List.getElem?_append_right (by omega)] at r1
   have hi0 : i - l.length = 0 := by
    have := (List.getElem?_eq_some_iff.1 r1).1
    simp at this; omega
   rw [hi0] at r1
   rw [List.getElem?_append_right (by omega), h2, hi0] at r2
   simp at r1 r2
   subst r1 r2
   exact t.keep q1 keep
theorem GrowR.done (h : GrowR t e w base B v l) (hw : B ≤ w.heap.size) : ∃ A c, v = .slice A l.length c ∧ t.row.R w w.heap.size [.slice A l.length c] l := by
 obtain ⟨css, h1, h2, h5⟩ := h
 rcases h1.2 with ⟨rfl, h0⟩ | ⟨g, cap, cur, rfl, hb, hg, hn, hm, hs, ht⟩
 ·have : l = [] := List.eq_nil_of_length_eq_zero h0
  subst this
  exact ⟨none, 0, rfl, none, 0, 0, rfl, Nat.le_refl _, by omega, rfl, fun h => absurd h (by omega)⟩
 ·refine ⟨_, cap, rfl, _, l.length, cap, rfl, hn, by simp only [maxLen] at hm; omega, rfl, fun _ => ⟨g, 0, rfl, Box.size (t := e) hg, fun i a q1 => ?_⟩⟩
  have hi : i < l.length := (List.getElem?_eq_some_iff.1 q1).1
  have hc : css[i]? = some (css[i]'(by omega)) := List.getElem?_eq_getElem (by omega)
  refine ⟨_, fun j hj => ?_, t.up (h5 i a _ q1 hc) hw⟩
  have hlen : ∀ es ∈ css, es.length = t.k := fun es hes => by
   obtain ⟨i', hi', rfl⟩ := List.getElem_of_mem hes
   exact t.lenR (h5 i' _ _ (List.getElem?_eq_getElem (by omega)) (List.getElem?_eq_getElem hi'))
  have hb2 : (i + 1) * t.k ≤ l.length * t.k := Nat.mul_le_mul_right _ hi
  rw [Nat.succ_mul] at hb2
  rw [Box.cell (t := e) hg, ← flat_at hlen hc hj, ← ht, List.getElem?_take, if_pos (by omega)]
  simp
end
theorem Src.of_box (w : World) (t : TypeId) (es : List Value) {K : Nat} (hK : es.length = K) : Src (w.alloc (.cells es.toArray t)) K (some ⟨w.heap.size, 0, none⟩) 1 es := by
 refine ⟨by omega, fun _ => ⟨_, 0, rfl, fun j u hj => ?_⟩⟩
 rw [Nat.zero_add, (Box.new w t es.toArray).cell]
 simpa using hj
end Go.Proofs.YtkdanlnhdgcplaaGreat
namespace Go.Proofs.YtkdanlnhdgcplaaGreat
set_option linter.unusedVariables false
open Go.RowKit
section
variable {α : Type} {t : Ty α} {e : TypeId} {w w' : World} {base B n c : Nat} {A : Option Addr} {v : Value} {l l' : List α}
theorem row_src (h : t.row.R w B [.slice A n c] l) (h1 : ∀ es a, t.R w B es a → ∀ u ∈ es, u.oneCell' = true) :
  ∃ css : List (List Value), css.length = l.length ∧ (∀ (i : Nat) (a : α) (es : List Value), l[i]? = some a → css[i]? = some es → t.R w B es a) ∧ Src w t.k A n css.flatten ∧ ∀ u ∈ css.flatten, u.oneCell' = true := by
 obtain ⟨A', n', c', e1, h2, h3, h4, h5⟩ := h
 injection e1 with e1 _
 injection e1 with e1 e2 e3
 subst e1 e2 e3
 by_cases h0 : 0 < n
 ·obtain ⟨b, off, rfl, hb, hc⟩ := h5 h0
  have hx : ∀ i, i < l.length → ∃ es, (∀ j, j < t.k → w.cell? ⟨b, off + i * t.k + j, none⟩ = es[j]?) ∧ ∀ a, l[i]? = some a → t.R w B es a := fun i hi => by
   obtain ⟨es, k1, k2⟩ := hc i _ (List.getElem?_eq_getElem hi)
   exact ⟨es, k1, fun a ha => by rw [List.getElem?_eq_getElem hi] at ha; injection ha with ha; rw [← ha]; exact k2⟩
  obtain ⟨css, hcs⟩ : ∃ css, css = (List.range l.length).pmap (fun i hi => (hx i hi).choose) (fun i hi => List.mem_range.1 hi) := ⟨_, rfl⟩
  have hlen : css.length = l.length := by rw [hcs]; simp
  have hat : ∀ i es, css[i]? = some es → ∃ hi : i < l.length, es = (hx i hi).choose := fun i es hi => by
   rw [hcs, List.getElem?_pmap] at hi
   by_cases hl : i < l.length
   ·refine ⟨hl, ?_⟩
    simp [List.getElem?_range hl] at hi
    exact hi.symm
   ·simp [List.getElem?_eq_none (show (List.range l.length).length ≤ i by simp; omega)] at hi
  have hk : ∀ es ∈ css, es.length = t.k := fun es hes => by
   obtain ⟨i, hi, rfl⟩ := List.getElem_of_mem hes
   obtain ⟨hl, e⟩ := hat i _ (List.getElem?_eq_getElem hi)
   exact t.lenR (B := B) ((congrArg (fun x => t.R w B x _) e).mpr ((hx i hl).choose_spec.2 _ (List.getElem?_eq_getElem hl)))
  refine ⟨css, hlen, fun i a es hi he => ?_, ⟨by rw [flat_len hk, hlen, h4], fun _ => ⟨b, off, rfl, fun j u hj => ?_⟩⟩, fun u hu => ?_⟩
  ·obtain ⟨hl, rfl⟩ := hat i es he
   exact (hx i hl).choose_spec.2 a hi
  ·have hj2 : j < css.length * t.k := by rw [← flat_len hk]; exact (List.getElem?_eq_some_iff.1 hj).1
   have hkp : 0 < t.k := by
    rcases Nat.eq_zero_or_pos t.k with h | h
    ·rw [h] at hj2; omega
    ·exact h
   have hq : j / t.k < css.length := (Nat.div_lt_iff_lt_mul hkp).2 hj2
   have hr : j % t.k < t.k := Nat.mod_lt _ hkp
   have e0 : j / t.k * t.k + j % t.k = j := by rw [Nat.mul_comm]; exact Nat.div_add_mod _ _
   have h6 := flat_at hk (List.getElem?_eq_getElem hq) hr
   rw [e0, hj] at h6
   obtain ⟨hl, e⟩ := hat (j / t.k) _ (List.getElem?_eq_getElem hq)
   have h7 := (hx _ hl).choose_spec.1 _ hr
   rw [← e, ← h6, Nat.add_assoc, e0] at h7
   exact h7
  ·obtain ⟨es, hes, hu⟩ := List.mem_flatten.1 hu
   obtain ⟨i, hi, rfl⟩ := List.getElem_of_mem hes
   obtain ⟨hl, e⟩ := hat i _ (List.getElem?_eq_getElem hi)
   exact h1 _ _ ((congrArg (fun x => t.R w B x _) e).mpr ((hx i hl).choose_spec.2 _ (List.getElem?_eq_getElem hl))) u hu
 ·have hl : l = [] := List.eq_nil_of_length_eq_zero (by omega)
  subst hl
  obtain rfl : n = 0 := by omega
  exact ⟨[], rfl, fun i a es hi => by simp at hi, ⟨by simp, fun h => absurd h h0⟩, fun u hu => by simp at hu⟩
theorem GrowR.rows (h : GrowR t e w base B v l) (hr : t.row.R w B [.slice A n c] l') (h1 : ∀ es a, t.R w B es a → ∀ u ∈ es, u.oneCell' = true) (hb : B ≤ base) (hw : B ≤ w.heap.size) :
  ∃ xs news, w.ownsRow base e t.k v l.length xs ∧ Src w t.k A n news ∧ (∀ u ∈ news, u.oneCell' = true) ∧
   ∀ w3 v1, w3.ownsRow base e t.k v1 (l.length + n) (xs ++ news) → w.grownBy w3 v.ownBlock → GrowR t e w3 base B v1 (l ++ l') := by
 obtain ⟨css2, k1, k2, k3, k4⟩ := row_src hr h1
 have hn : l'.length = n := (rowR_len hr).1
 obtain ⟨css, g1, g2, g5⟩ := h
 have hown := fun b hb => g1.lt b hb
 refine ⟨css.flatten, css2.flatten, g1, k3, k4, fun w3 v1 q5 q6 => ⟨css ++ css2, ?_, by simp [g2, k1], ?_⟩⟩
 ·rw [List.length_append, List.flatten_append, hn]
  exact q5
 ·have keep : ∀ b, b < B → w3.heap[b]? = w.heap[b]? := fun b hlt => q6.block b (by omega) fun e => by have := (hown b e.symm).1; omega
  intro i b cs r1 r2
  by_cases hi : i < l.length
  ·rw [List.getElem?_append_left hi] at r1
   rw [List.getElem?_append_left (by omega)] at r2
   exact t.keep (g5 i b cs r1 r2) keep
  ·rw [List.getElem?_append_right (by omega)] at r1
   rw [List.getElem?_append_right (by omega), g2] at r2
   exact t.keep (k2 _ b cs r1 r2) keep
end
theorem step_app5 {P : Program} (w : World) {ops : Array Oper} {o : Oper} {a : Act} {K : Act → World → Prop} {Q : Exit → Act → World → Prop} {E : Prop} (hgd : o.guard = none) (s x : Operand) (t : TypeId)
  (ho : o.op = .call { callee := .builtin .append, args := #[s, x], argTypes := #[t, t] })
  (base : Nat) (e : TypeId) (i : TypeInfo) (z : Value) (size bytes : Nat) (ht : P.underlying t = some (.slice e)) (hi : P.info? e = some i) (hz : i.zero = some z)
  (hsize : i.size = size) (hby : i.bytes = bytes) (hzs : z.cells.size = size) (hsz : 0 < size)
  (v : Value) (n : Nat) (xs : List Value) (hs : a.eval s = v) (hown : w.ownsRow base e size v n xs)
  (A : Option Addr) (m c : Nat) (news : List Value) (hx : a.eval x = .slice A m c) (hr : Src w size A m news) (h1 : ∀ u ∈ news, u.oneCell' = true)
  (h63 : n + m ≤ maxLen) (hbytes : (n + m) * bytes ≤ 140737488355328) (hbase : base ≤ w.heap.size)
  (h : ∀ v' w', w'.ownsRow base e size v' (n + m) (xs ++ news) → w.grownBy w' v.ownBlock → (v'.ownBlock = v.ownBlock ∨ v'.ownBlock = some w.heap.size) → K (a.put o.dst v') w') :
  if Region.wanted o (yielded ops a.tmps) = true then Oper.wp P o a w K Q else E := by
 have hw : Region.wanted o (yielded ops a.tmps) = true := by simp [Region.wanted, hgd]
 rw [if_pos hw]
 exact wp_app w s x t ho base e i z size bytes ht hi hz hsize hby hzs hsz v n xs hs hown A m c news hx hr h1 h63 hbytes hbase h
theorem Src.of_boxed {w : World} {g : Nat} {e : TypeId} {es : List Value} {K : Nat} (hb : Box w g e es.toArray) (hK : es.length = K) : Src w K (some ⟨g, 0, none⟩) 1 es := by
 refine ⟨by omega, fun _ => ⟨_, 0, rfl, fun j u hj => ?_⟩⟩
 rw [Nat.zero_add, hb.cell]
 simpa using hj
section
variable {α : Type} {t : Ty α} {e : TypeId} {w w' : World} {base B n c : Nat} {v : Value} {l : List α} {F : List Nat}
theorem GrowR.own (h : GrowR t e w base B v l) : ∀ b, v.ownBlock = some b → base ≤ b ∧ b < w.heap.size := fun b hb => by
 obtain ⟨css, h1, _⟩ := h; exact h1.lt b hb
theorem GrowR.put (h : GrowR t e w base B v l) {p : Addr} (h1 : p.block < base) (h2 : B ≤ p.block) (u : Value) : GrowR t e (w.setCell p u) base B v l := by
 obtain ⟨css, k1, k2, k5⟩ := h
 refine ⟨css, k1.kept (row := some p.block) ⟨rfl, rfl, rfl, by simp [World.setCell], fun i hi hn => Below.heap_setCell w p u i (fun e => hn (by rw [e]))⟩ ?_, k2, fun i a es q1 q2 => t.keep (k5 i a es q1 q2) fun b hlt => Below.heap_setCell w p u b (by omega)⟩
 refine .inr fun e => ?_
 have := (k1.lt _ e).1
 omega
theorem GrowR.shape (h : GrowR t e w base B v l) : ∃ A c, v = .slice A l.length c := by
 obtain ⟨css, h1, _⟩ := h
 rcases h1.2 with ⟨rfl, h0⟩ | ⟨g, cap, cur, rfl, _⟩
 ·exact ⟨none, 0, by rw [h0]⟩
 ·exact ⟨_, cap, rfl⟩
theorem GrowO.shape (h : GrowO t e w base v l F) : ∃ A c, v = .slice A l.length c := by
 obtain ⟨⟨css, Fs, h1, _⟩, _⟩ := h
 rcases h1.2 with ⟨rfl, h0⟩ | ⟨g, cap, cur, rfl, _⟩
 ·exact ⟨none, 0, by rw [h0]⟩
 ·exact ⟨_, cap, rfl⟩
theorem GrowR.shapeN (h : GrowR t e w base B v l) : ∃ A n c, v = .slice A n c ∧ n = l.length := by
 obtain ⟨A, c, rfl⟩ := h.shape; exact ⟨A, _, c, rfl, rfl⟩
theorem GrowR.doneAs {A : Option Addr} (h : GrowR t e w base B (.slice A n c) l) (hw : B ≤ w.heap.size) : t.row.R w w.heap.size [.slice A n c] l := by
 obtain ⟨A', c', e1, h2⟩ := h.done hw
 injection e1 with e1 e2 e3
 subst e1 e2 e3
 exact h2
theorem GrowO.shapeN (h : GrowO t e w base v l F) : ∃ A n c, v = .slice A n c ∧ n = l.length := by
 obtain ⟨A, c, rfl⟩ := h.shape; exact ⟨A, _, c, rfl, rfl⟩
theorem GrowO.own (h : GrowO t e w base v l F) : ∀ b, v.ownBlock = some b → base ≤ b ∧ b < w.heap.size := fun b hb => by
 obtain ⟨⟨css, Fs, h1, _⟩, _⟩ := h; exact h1.lt b hb
variable {P : Program} {ops : Array Oper} {rest : List Oper} {o : Oper} {a : Act} {K : Act → World → Prop} {Q : Exit → Act → World → Prop} {E : Prop}
theorem GrowR.step (hgd : o.guard = none) (s x : Operand) (ty : TypeId) (ho : o.op = .call { callee := .builtin .append, args := #[s, x], argTypes := #[ty, ty] })
  (i : TypeInfo) (z : Value) (size bytes : Nat) (ht : P.underlying ty = some (.slice e)) (hi : P.info? e = some i) (hz : i.zero = some z) (hsize : i.size = size) (hby : i.bytes = bytes) (hzs : z.cells.size = size) (hsz : 0 < size) (hk : t.k = size)
  (hs : a.eval s = v) (hG : GrowR t e w base B v l) (g : Nat) (es : List Value) (el : α) (hx : a.eval x = .slice (some ⟨g, 0, none⟩) 1 1) (hb : Box w g e es.toArray) (hR : t.R w B es el) (h1 : ∀ u ∈ es, u.oneCell' = true)
  (hB : B ≤ base) (hw : base ≤ w.heap.size) (h63 : l.length + 1 ≤ maxLen) (hbytes : (l.length + 1) * bytes ≤ 140737488355328)
  (h : ∀ v' w', GrowR t e w' base B v' (l ++ [el]) → w.grownBy w' v.ownBlock → K (a.put o.dst v') w') :
  if Region.wanted o (yielded ops a.tmps) = true then Oper.wp P o a w K Q else E := by
 subst hk
 obtain ⟨xs, hrow, hpush⟩ := hG.row hB (Nat.le_trans hB hw)
 exact step_app5 w hgd s x ty ho base e i z t.k bytes ht hi hz hsize hby hzs hsz v l.length xs hs hrow _ 1 1 es hx (Src.of_boxed hb (t.lenR hR)) h1 h63 hbytes hw fun v' w' q1 q2 _ => h v' w' (hpush w' v' el es hR q1 q2) q2
theorem GrowR.push (hgd : o.guard = none) (s x : Operand) (ty : TypeId) (ho : o.op = .call { callee := .builtin .append, args := #[s, x], argTypes := #[ty, ty] })
  (i : TypeInfo) (z : Value) (size bytes : Nat) (ht : P.underlying ty = some (.slice e)) (hi : P.info? e = some i) (hz : i.zero = some z) (hsize : i.size = size) (hby : i.bytes = bytes) (hzs : z.cells.size = size) (hsz : 0 < size) (hk : t.k = size)
  (hs : a.eval s = v) (hG : GrowR t e w base B v l) (g : Nat) (es : List Value) (el : α) (hx : a.eval x = .slice (some ⟨g, 0, none⟩) 1 1) (hb : Box w g e es.toArray) (hR : t.R w B es el) (h1 : ∀ u ∈ es, u.oneCell' = true)
  (hB : B ≤ base) (hw : base ≤ w.heap.size) (h63 : l.length + 1 ≤ maxLen) (hbytes : (l.length + 1) * bytes ≤ 140737488355328)
  (h : ∀ v' w', GrowR t e w' base B v' (l ++ [el]) → w.grownBy w' v.ownBlock → wpList P ops Q rest (a.put o.dst v') w') : wpList P ops Q (o :: rest) a w := by
 subst hk
 obtain ⟨xs, hrow, hpush⟩ := hG.row hB (Nat.le_trans hB hw)
 exact wpList_app w hgd s x ty ho base e i z t.k bytes ht hi hz hsize hby hzs hsz v l.length xs hs hrow _ 1 1 es hx (Src.of_boxed hb (t.lenR hR)) h1 h63 hbytes hw fun v' w' q1 q2 _ => h v' w' (hpush w' v' el es hR q1 q2) q2
theorem GrowR.stepRow (hgd : o.guard = none) (s x : Operand) (ty : TypeId) (ho : o.op = .call { callee := .builtin .append, args := #[s, x], argTypes := #[ty, ty] })
  (i : TypeInfo) (z : Value) (size bytes : Nat) (ht : P.underlying ty = some (.slice e)) (hi : P.info? e = some i) (hz : i.zero = some z) (hsize : i.size = size) (hby : i.bytes = bytes) (hzs : z.cells.size = size) (hsz : 0 < size) (hk : t.k = size)
  (hs : a.eval s = v) (hG : GrowR t e w base B v l) {A : Option Addr} {l' : List α} (hx : a.eval x = .slice A n c) (hr : t.row.R w B [.slice A n c] l') (h1 : ∀ es a, t.R w B es a → ∀ u ∈ es, u.oneCell' = true)
  (hB : B ≤ base) (hw : base ≤ w.heap.size) (h63 : l.length + n ≤ maxLen) (hbytes : (l.length + n) * bytes ≤ 140737488355328)
  (h : ∀ v' w', GrowR t e w' base B v' (l ++ l') → w.grownBy w' v.ownBlock → K (a.put o.dst v') w') :
  if Region.wanted o (yielded ops a.tmps) = true then Oper.wp P o a w K Q else E := by
 subst hk
 obtain ⟨xs, news, hrow, hsrc, h1', hpush⟩ := hG.rows hr h1 hB (Nat.le_trans hB hw)
 exact step_app5 w hgd s x ty ho base e i z t.k bytes ht hi hz hsize hby hzs hsz v l.length xs hs hrow A n c news hx hsrc h1' h63 hbytes hw fun v' w' q1 q2 _ => h v' w' (hpush w' v' q1 q2) q2
theorem GrowO.step (hgd : o.guard = none) (s x : Operand) (ty : TypeId) (ho : o.op = .call { callee := .builtin .append, args := #[s, x], argTypes := #[ty, ty] })
  (i : TypeInfo) (z : Value) (size bytes : Nat) (ht : P.underlying ty = some (.slice e)) (hi : P.info? e = some i) (hz : i.zero = some z) (hsize : i.size = size) (hby : i.bytes = bytes) (hzs : z.cells.size = size) (hsz : 0 < size) (hk : t.k = size)
  (hs : a.eval s = v) (hG : GrowO t e w base v l F) (g : Nat) (es : List Value) (el : α) {Fa : List Nat} (hx : a.eval x = .slice (some ⟨g, 0, none⟩) 1 1) (hb : Box w g e es.toArray) (hO : t.O w es el Fa) (hN : New base Fa) (hd : ∀ f ∈ Fa, f ∉ F) (hv : ∀ b, v.ownBlock = some b → b ∉ Fa) (h1 : ∀ u ∈ es, u.oneCell' = true)
  (hw : base ≤ w.heap.size) (h63 : l.length + 1 ≤ maxLen) (hbytes : (l.length + 1) * bytes ≤ 140737488355328)
  (h : ∀ v' w', GrowO t e w' base v' (l ++ [el]) (F ++ Fa) → w.grownBy w' v.ownBlock → K (a.put o.dst v') w') :
  if Region.wanted o (yielded ops a.tmps) = true then Oper.wp P o a w K Q else E := by
 subst hk
 obtain ⟨xs, hrow, hpush⟩ := hG.row
 exact step_app5 w hgd s x ty ho base e i z t.k bytes ht hi hz hsize hby hzs hsz v l.length xs hs hrow _ 1 1 es hx (Src.of_boxed hb (t.lenO hO)) h1 h63 hbytes hw fun v' w' q1 q2 q3 => h v' w' (hpush w' v' el es Fa hO hN hd hv q1 q2 q3) q2
theorem GrowO.push (hgd : o.guard = none) (s x : Operand) (ty : TypeId) (ho : o.op = .call { callee := .builtin .append, args := #[s, x], argTypes := #[ty, ty] })
  (i : TypeInfo) (z : Value) (size bytes : Nat) (ht : P.underlying ty = some (.slice e)) (hi : P.info? e = some i) (hz : i.zero = some z) (hsize : i.size = size) (hby : i.bytes = bytes) (hzs : z.cells.size = size) (hsz : 0 < size) (hk : t.k = size)
  (hs : a.eval s = v) (hG : GrowO t e w base v l F) (g : Nat) (es : List Value) (el : α) {Fa : List Nat} (hx : a.eval x = .slice (some ⟨g, 0, none⟩) 1 1) (hb : Box w g e es.toArray) (hO : t.O w es el Fa) (hN : New base Fa) (hd : ∀ f ∈ Fa, f ∉ F) (hv : ∀ b, v.ownBlock = some b → b ∉ Fa) (h1 : ∀ u ∈ es, u.oneCell' = true)
  (hw : base ≤ w.heap.size) (h63 : l.length + 1 ≤ maxLen) (hbytes : (l.length + 1) * bytes ≤ 140737488355328)
  (h : ∀ v' w', GrowO t e w' base v' (l ++ [el]) (F ++ Fa) → w.grownBy w' v.ownBlock → wpList P ops Q rest (a.put o.dst v') w') : wpList P ops Q (o :: rest) a w := by
 subst hk
 obtain ⟨xs, hrow, hpush⟩ := hG.row
 exact wpList_app w hgd s x ty ho base e i z t.k bytes ht hi hz hsize hby hzs hsz v l.length xs hs hrow _ 1 1 es hx (Src.of_boxed hb (t.lenO hO)) h1 h63 hbytes hw fun v' w' q1 q2 q3 => h v' w' (hpush w' v' el es Fa hO hN hd hv q1 q2 q3) q2
end
end Go.Proofs.YtkdanlnhdgcplaaGreat
namespace Go.Proofs.YtkdanlnhdgcplaaGreat
set_option linter.unusedVariables false
open Go.RowKit
section
variable {α : Type} {t : Ty α} {e : TypeId} {w w' : World} {base B n c : Nat} {v : Value} {l : List α}
theorem GrowR.empty (hb : base ≤ w.heap.size) : GrowR t e (w.alloc (.cells #[] e)) base B (.slice (some ⟨w.heap.size, 0, none⟩) 0 0) [] :=
 ⟨[], ⟨by simp, .inr ⟨w.heap.size, 0, #[], rfl, hb, heap_alloc_new w _, Nat.le_refl _, by simp only [maxLen]; omega, by simp, by simp⟩⟩, rfl, fun i a es h => by simp at h⟩
theorem GrowR.drew (h : GrowR t e w base B v l) (hw : B ≤ w.heap.size) : GrowR t e w.drew base B v l := by
 obtain ⟨css, k1, k2, k5⟩ := h
 exact ⟨css, k1.kept (row := none) (gb_drew (World.grownBy.refl _ _)) (by cases v.ownBlock <;> simp), k2, fun i a es q1 q2 => t.keep (k5 i a es q1 q2) fun b hb => rfl⟩
end
section
variable {k : IntKind} {e : TypeId} {w w' : World} {base B n c : Nat} {v : Value} {l : List Int}
theorem Own.empty (hb : base ≤ w.heap.size) : Own k e (w.alloc (.cells #[] e)) base (.slice (some ⟨w.heap.size, 0, none⟩) 0 0) [] :=
 ⟨⟨by simp, .inr ⟨w.heap.size, 0, #[], rfl, hb, heap_alloc_new w _, Nat.le_refl _, by simp only [maxLen]; omega, by simp, by simp⟩⟩, by simp⟩
theorem Own.drew (h : Own k e w base v l) : Own k e w.drew base v l := ⟨h.1.kept (row := none) (gb_drew (World.grownBy.refl _ _)) (by cases v.ownBlock <;> simp), h.2⟩
theorem Own.shapeN (h : Own k e w base v l) : ∃ A n c, v = .slice A n c ∧ n = l.length := by
 obtain ⟨A, c, rfl, _⟩ := h.shape; exact ⟨A, _, c, rfl, rfl⟩
variable {P : Program} {ops : Array Oper} {rest : List Oper} {o : Oper} {a : Act} {K : Act → World → Prop} {Q : Exit → Act → World → Prop} {E : Prop}
theorem Own.stepRow (hgd : o.guard = none) (s x : Operand) (ty : TypeId) (ho : o.op = .call { callee := .builtin .append, args := #[s, x], argTypes := #[ty, ty] })
  (i : TypeInfo) (z : Value) (bytes : Nat) (ht : P.underlying ty = some (.slice e)) (hi : P.info? e = some i) (hz : i.zero = some z) (hsize : i.size = 1) (hby : i.bytes = bytes) (hzs : z.cells.size = 1)
  (hs : a.eval s = v) (hG : Own k e w base v l) {A : Option Addr} {l' : List Int} (hx : a.eval x = .slice A n c) (hr : Ints k w B A n l')
  (hw : base ≤ w.heap.size) (h63 : l.length + n ≤ maxLen) (hbytes : (l.length + n) * bytes ≤ 140737488355328)
  (h : ∀ v' w', Own k e w' base v' (l ++ l') → w.grownBy w' v.ownBlock → (v'.ownBlock = v.ownBlock ∨ v'.ownBlock = some w.heap.size) → K (a.put o.dst v') w') :
  if Region.wanted o (yielded ops a.tmps) = true then Oper.wp P o a w K Q else E :=
 step_app5 w hgd s x ty ho base e i z 1 bytes ht hi hz hsize hby hzs (by omega) v l.length _ hs hG.1 A n c (l'.map (Value.int k)) hx (Src.of_ints hr) (one_ints _ _) h63 hbytes hw fun v' w' q1 q2 q3 =>
  h v' w' (Own.of (n := l.length + n) (by rw [List.map_append]; exact q1) fun y hy => by
   rcases List.mem_append.1 hy with h' | h'
   ·exact hG.2 y h'
   ·exact hr.2.2 y h') q2 q3
end
end Go.Proofs.YtkdanlnhdgcplaaGreat
namespace Go.Proofs.YtkdanlnhdgcplaaGreat
set_option maxRecDepth 100000
set_option linter.unusedVariables false
set_option linter.unusedSimpArgs false
open Go.ChangeShapes Go.WideShapes Go.ChangeAt Go.RowKit
def Ext (w : World) (v : Value) (w' : World) (v' : Value) : Prop := w.grownBy w' v.ownBlock ∧ (v'.ownBlock = v.ownBlock ∨ ∃ b, v'.ownBlock = some b ∧ w.heap.size ≤ b)
section
variable {w w' w1 w2 : World} {v v' v1 v2 : Value} {B g : Nat} {t : TypeId} {cs : Array Value}
theorem Ext.refl (w : World) (v : Value) : Ext w v w v := ⟨World.grownBy.refl _ _, .inl rfl⟩
theorem Ext.trans (h : Ext w v w1 v1) (k : Ext w1 v1 w2 v2) : Ext w v w2 v2 := by
 refine ⟨⟨k.1.os.trans h.1.os, k.1.tape.trans h.1.tape, k.1.output.trans h.1.output, Nat.le_trans h.1.size k.1.size, fun i hi hn => ?_⟩, ?_⟩
 ·refine (k.1.block i (Nat.lt_of_lt_of_le hi h.1.size) ?_).trans (h.1.block i hi hn)
  intro e
  rcases h.2 with h2 | ⟨b, h2, h3⟩
  ·exact hn (e.trans h2)
  ·rw [h2] at e; injection e with e; omega
 ·rcases k.2 with k2 | ⟨b, k2, k3⟩
  ·rcases h.2 with h2 | ⟨b, h2, h3⟩
   ·exact .inl (k2.trans h2)
   ·exact .inr ⟨b, k2.trans h2, h3⟩
  ·exact .inr ⟨b, k2, Nat.le_trans h.1.size k3⟩
theorem Ext.of (h : Bel w w') : Ext w v w' v := ⟨below_grownBy h, .inl rfl⟩
theorem Ext.app (h : Ext w v w1 v1) (hB : Bel w1 w2) (hg : w2.grownBy w' v1.ownBlock) (ha : v'.ownBlock = v1.ownBlock ∨ v'.ownBlock = some w2.heap.size) : Ext w v w' v' :=
 h.trans ((Ext.of hB).trans ⟨hg, ha.imp id fun e => ⟨_, e, Nat.le_refl _⟩⟩)
theorem Ext.box (h : Ext w v w' v') (hb : Box w g t cs) (hn : v.ownBlock ≠ some g) : Box w' g t cs := hb.grown h.1 (fun e => hn e.symm)
theorem Ext.not (h : Ext w v w' v') (hg : g < w.heap.size) (hn : v.ownBlock ≠ some g) : v'.ownBlock ≠ some g := fun e => by
 rcases h.2 with h2 | ⟨b, h2, h3⟩
 ·exact hn (h2.symm.trans e)
 ·rw [h2] at e; injection e with e; omega
theorem Ext.below (h : Ext w v w' v') (hB : B ≤ w.heap.size) (hv : ∀ b, v.ownBlock = some b → B ≤ b) : Below B w w' :=
 ⟨h.1.os, h.1.tape, h.1.output, h.1.size, fun k hk => h.1.block k (by omega) fun e => by have := hv k e.symm; omega⟩
end
theorem Src.cells (w : World) (t : TypeId) (us : List Value) : Src (w.alloc (.cells us.toArray t)) 1 (some ⟨w.heap.size, 0, none⟩) us.length us := by
 refine ⟨by simp, fun _ => ⟨_, 0, rfl, fun j u hj => ?_⟩⟩
 rw [Nat.zero_add, (Box.new w t _).cell]
 simpa using hj
end Go.Proofs.YtkdanlnhdgcplaaGreat
namespace Go.Proofs.YtkdanlnhdgcplaaGreat
set_option linter.unusedVariables false
open Go.RowKit
section
variable {k : IntKind} {e ty : TypeId} {w V : World} {base B B' n c : Nat} {v : Value} {l l' : List Int} {A : Option Addr}
variable {P : Program} {ops : Array Oper} {rest : List Oper} {o : Oper} {a : Act} {K : Act → World → Prop} {Q : Exit → Act → World → Prop} {E : Prop} {i : TypeInfo} {z : Value}
theorem Own.stepB (s x : Operand) (ht : P.underlying ty = some (.slice e)) (hi : P.info? e = some i) (hz : i.zero = some z) (hsize : i.size = 1) (hby : i.bytes ≤ 8)
  (hs : a.eval s = v) (hG : Own k e w base v l) (hx : a.eval x = .slice A n c) (hr : Ints k w B A n l') (hV : Below B' V w) (hw : base ≤ w.heap.size) (hB : B' ≤ base) (h63 : l.length + n ≤ 1000000)
  (h : ∀ v' w', Own k e w' base v' (l ++ l') → Below B' V w' → Ext w v w' v' → K (a.put o.dst v') w')
  (hgd : o.guard = none := by rfl) (ho : o.op = .call { callee := .builtin .append, args := #[s, x], argTypes := #[ty, ty] } := by rfl) (hzs : z.cells.size = 1 := by rfl) :
  if Region.wanted o (yielded ops a.tmps) = true then Oper.wp P o a w K Q else E :=
 Own.stepRow hgd s x ty ho i z i.bytes ht hi hz hsize rfl hzs hs hG hx hr hw (by unfold maxLen; omega) (by have := Nat.mul_le_mul h63 hby; omega) fun v' w' q1 q2 q3 =>
  h v' w' q1 (hV.grown q2 (Nat.le_trans hB hw) fun b hb => Nat.le_trans hB (hG.block hb).1) ⟨q2, q3.imp id fun e => ⟨_, e, Nat.le_refl _⟩⟩
theorem Own.appB (s x : Operand) (ht : P.underlying ty = some (.slice e)) (hi : P.info? e = some i) (hz : i.zero = some z) (hsize : i.size = 1) (hby : i.bytes ≤ 8)
  (hG : Own k e w base v l) (hr : Ints k w B A n l') (hV : Below B' V w) (hw : base ≤ w.heap.size) (hB : B' ≤ base) (h63 : l.length + n ≤ 1000000)
  (h : ∀ v' w', Own k e w' base v' (l ++ l') → Below B' V w' → Ext w v w' v' → wpList P ops Q rest (a.put o.dst v') w')
  (hgd : o.guard = none := by rfl) (ho : o.op = .call { callee := .builtin .append, args := #[s, x], argTypes := #[ty, ty] } := by rfl) (hzs : z.cells.size = 1 := by rfl) (hs : a.eval s = v := by rfl) (hx : a.eval x = .slice A n c := by rfl) :
  wpList P ops Q (o :: rest) a w :=
 wpList_app w hgd s x ty ho base e i z 1 i.bytes ht hi hz hsize rfl hzs (by omega) v l.length _ hs hG.1 A n c (l'.map (Value.int k)) hx (Src.of_ints hr) (one_ints _ _) (by unfold maxLen; omega) (by have := Nat.mul_le_mul h63 hby; omega) hw fun v' w' q1 q2 q3 =>
  h v' w' (Own.of (n := l.length + n) (by rw [List.map_append]; exact q1) fun y hy => by
   rcases List.mem_append.1 hy with h' | h'
   ·exact hG.2 y h'
   ·exact hr.2.2 y h') (hV.grown q2 (Nat.le_trans hB hw) fun b hb => Nat.le_trans hB (hG.block hb).1) ⟨q2, q3.imp id fun e => ⟨_, e, Nat.le_refl _⟩⟩
end
end Go.Proofs.YtkdanlnhdgcplaaGreat
namespace Go.Proofs.YtkdanlnhdgcplaaGreat
set_option maxRecDepth 100000
set_option linter.unusedVariables false
set_option linter.unusedSimpArgs false
open Go.ChangeShapes Go.WideShapes Go.ChangeAt Go.RowKit
def PcN (i a t : Int) (n : Nat) : Prop := 0 ≤ i ∧ i ≤ 255 ∧ t ≤ 8 ∧ 0 ≤ a ∧ a < t ∧ n ≤ 20 ∧ (a < t - 1 → n = 20) ∧ (a = t - 1 → 0 < n ∨ t = 1)
instance (i a t : Int) (n : Nat) : Decidable (PcN i a t n) := by unfold PcN; infer_instance
def PcOk (p : DPiece) : Prop := PcN p.1 p.2.1 p.2.2.1 p.2.2.2.length
instance (p : DPiece) : Decidable (PcOk p) := by unfold PcOk; infer_instance
set_option maxHeartbeats 1000000 in
theorem s_PieceOkN (w : World) (A3 : Option Addr) (n3 c3 : Nat) (x0 x1 x2 : Int) (b : Bool) (rg1 : -9223372036854775808 ≤ x2 ∧ x2 ≤ 9223372036854775807) (T : PcN x0 x1 x2 n3 → b = true) (F : ¬ PcN x0 x1 x2 n3 → b = false) :
  Calls Tryz.prog 131 #[.agg #[.int .i64 x0, .int .i64 x1, .int .i64 x2, .slice A3 n3 c3]] w fun e w' => e = .returned (.bool b) ∧ Bel w w' := by
 unfold PcN at T F
 by_cases h1 : x0 < 0
 ·have := F (by omega); subst this; clear F T
  go_enter Tryz.func131, Tryz.ntmps131
  go_wp2
  go_ret
  exact ⟨rfl, (belx)⟩
 by_cases h2 : 255 < x0
 ·have := F (by omega); subst this; clear F T
  go_enter Tryz.func131, Tryz.ntmps131
  go_wp2
  go_ret
  exact ⟨rfl, (belx)⟩
 by_cases h3 : x2 < 1
 ·have := F (by omega); subst this; clear F T
  go_enter Tryz.func131, Tryz.ntmps131
  go_wp2
  go_ret
  exact ⟨rfl, (belx)⟩
 by_cases h4 : 8 < x2
 ·have := F (by omega); subst this; clear F T
  go_enter Tryz.func131, Tryz.ntmps131
  go_wp2
  go_ret
  exact ⟨rfl, (belx)⟩
 by_cases h5 : x1 < 0
 ·have := F (by omega); subst this; clear F T
  go_enter Tryz.func131, Tryz.ntmps131
  go_wp2
  go_ret
  exact ⟨rfl, (belx)⟩
 by_cases h6 : x2 ≤ x1
 ·have := F (by omega); subst this; clear F T
  go_enter Tryz.func131, Tryz.ntmps131
  go_wp2
  go_ret
  exact ⟨rfl, (belx)⟩
 by_cases h7 : 20 < n3
 ·have := F (by omega); subst this; clear F T
  have q : (20 : Int) < n3 := by omega
  go_enter Tryz.func131, Tryz.ntmps131
  go_wp2
  go_ret
  exact ⟨rfl, (belx)⟩
 have q7 : ¬ (20 : Int) < n3 := by omega
 by_cases h8 : x1 < x2 - 1
 ·by_cases h9 : n3 = 20
  ·have := T (by omega); subst this h9; clear F T
   go_enter Tryz.func131, Tryz.ntmps131
   go_wp2
   go_ret
   exact ⟨rfl, (belx)⟩
  ·have := F (by omega); subst this; clear F T
   have q9 : ((n3 : Int) == 20) = false := by simp; omega
   go_enter Tryz.func131, Tryz.ntmps131
   go_wp2
   go_ret
   exact ⟨by first | (simp; done) | (simp; omega), (belx)⟩
 ·by_cases h9 : 0 < n3
  ·have := T (by omega); subst this; clear F T
   have q9 : (0 : Int) < n3 := by omega
   go_enter Tryz.func131, Tryz.ntmps131
   go_wp2
   go_ret
   exact ⟨rfl, (belx)⟩
  ·have q9 : ¬ (0 : Int) < n3 := by omega
   by_cases h10 : x2 = 1
   ·have := T (by omega); subst this h10; clear F T
    go_enter Tryz.func131, Tryz.ntmps131
    go_wp2
    go_ret
    exact ⟨rfl, (belx)⟩
   ·have := F (by omega); subst this; clear F T
    have q10 : (x2 == 1) = false := by simpa using h10
    go_enter Tryz.func131, Tryz.ntmps131
    go_wp2
    go_ret
    exact ⟨by first | (simp; done) | (simp; omega), (belx)⟩
theorem s_PieceOk {w : World} {cs : List Value} {p : DPiece} (h : tPiece.R w w.heap.size cs p) (hz : szPiece p ≤ 1048576) :
  Calls Tryz.prog 131 #[.agg cs.toArray] w fun e w' => e = .returned (.bool (decide (PcOk p))) ∧ Bel w w' := by
 obtain ⟨A3, n3, c3, rfl, hi0, hi1, hi2, ha3, hb3, hl3, hr3⟩ := openPiece h
 have rg := i64_rg hi2
 exact s_PieceOkN w A3 n3 c3 _ _ _ _ ⟨by omega, by omega⟩ (fun hh => decide_eq_true (by unfold PcOk; rw [hl3]; exact hh)) (fun hh => decide_eq_false (by unfold PcOk; rw [hl3]; exact hh))
theorem i_isId_t (x : Int) (w : World) (h1 : 0 ≤ x) (h2 : x ≤ 255) : Calls Tryz.prog 104 #[.int .i64 x] w fun e w' => e = .returned (.bool true) ∧ w = w' := by
 go_enter Tryz.func104, Tryz.ntmps104
 go_wp2
 go_ret
 exact ⟨rfl, rfl⟩
theorem i_isId_f (x : Int) (w : World) (h : ¬ (0 ≤ x ∧ x ≤ 255)) : Calls Tryz.prog 104 #[.int .i64 x] w fun e w' => e = .returned (.bool false) ∧ w = w' := by
 by_cases h1 : x < 0
 ·clear h
  go_enter Tryz.func104, Tryz.ntmps104
  go_wp2
  go_ret
  exact ⟨rfl, rfl⟩
 ·have h2 : 255 < x := by omega
  clear h
  go_enter Tryz.func104, Tryz.ntmps104
  go_wp2
  go_ret
  exact ⟨ret_bool (by simp; omega), rfl⟩
set_option maxHeartbeats 1000000 in
theorem i_PieceOkN (w : World) (A3 : Option Addr) (n3 c3 : Nat) (x0 x1 x2 : Int) (b : Bool) (rg1 : -9223372036854775808 ≤ x2 ∧ x2 ≤ 9223372036854775807) (T : PcN x0 x1 x2 n3 → b = true) (F : ¬ PcN x0 x1 x2 n3 → b = false) :
  Calls Tryz.prog 198 #[.agg #[.int .i64 x0, .int .i64 x1, .int .i64 x2, .slice A3 n3 c3]] w fun e w' => e = .returned (.bool b) ∧ Bel w w' := by
 unfold PcN at T F
 by_cases h1 : ¬ (0 ≤ x0 ∧ x0 ≤ 255)
 ·have := F (by omega); subst this; clear F T
  go_enter Tryz.func198, Tryz.ntmps198
  go_wp2_with (go_at_call 104; refine (i_isId_f _ _ (by omega)).mono ?_; rintro e w' ⟨rfl, rfl⟩)
  go_ret
  exact ⟨rfl, (belx)⟩
 by_cases h4 : 8 < x2
 ·have := F (by omega); subst this; clear F T
  go_enter Tryz.func198, Tryz.ntmps198
  go_wp2_with (go_at_call 104; refine (i_isId_t _ _ (by omega) (by omega)).mono ?_; rintro e w' ⟨rfl, rfl⟩)
  go_ret
  exact ⟨rfl, (belx)⟩
 by_cases h5 : x1 < 0
 ·have := F (by omega); subst this; clear F T
  go_enter Tryz.func198, Tryz.ntmps198
  go_wp2_with (go_at_call 104; refine (i_isId_t _ _ (by omega) (by omega)).mono ?_; rintro e w' ⟨rfl, rfl⟩)
  go_ret
  exact ⟨rfl, (belx)⟩
 by_cases h6 : x2 ≤ x1
 ·have := F (by omega); subst this; clear F T
  go_enter Tryz.func198, Tryz.ntmps198
  go_wp2_with (go_at_call 104; refine (i_isId_t _ _ (by omega) (by omega)).mono ?_; rintro e w' ⟨rfl, rfl⟩)
  go_ret
  exact ⟨rfl, (belx)⟩
 by_cases h8 : x1 < x2 - 1
 ·by_cases h9 : n3 = 20
  ·have := T (by omega); subst this; clear F T; subst h9
   go_enter Tryz.func198, Tryz.ntmps198
   go_wp2_with (go_at_call 104; refine (i_isId_t _ _ (by omega) (by omega)).mono ?_; rintro e w' ⟨rfl, rfl⟩)
   go_ret
   exact ⟨rfl, (belx)⟩
  ·have := F (by omega); subst this; clear F T
   have q9 : ((n3 : Int) == 20) = false := by simp; omega
   go_enter Tryz.func198, Tryz.ntmps198
   go_wp2_with (go_at_call 104; refine (i_isId_t _ _ (by omega) (by omega)).mono ?_; rintro e w' ⟨rfl, rfl⟩)
   go_ret
   exact ⟨by first | (simp; done) | (simp; omega), (belx)⟩
 ·by_cases h7 : 20 < n3
  ·have := F (by omega); subst this; clear F T
   have q : ¬ (n3 : Int) ≤ 20 := by omega
   go_enter Tryz.func198, Tryz.ntmps198
   go_wp2_with (go_at_call 104; refine (i_isId_t _ _ (by omega) (by omega)).mono ?_; rintro e w' ⟨rfl, rfl⟩)
   go_ret
   exact ⟨rfl, (belx)⟩
  have q7 : (n3 : Int) ≤ 20 := by omega
  by_cases h9 : 0 < n3
  ·have := T (by omega); subst this; clear F T
   have q9 : (0 : Int) < n3 := by omega
   go_enter Tryz.func198, Tryz.ntmps198
   go_wp2_with (go_at_call 104; refine (i_isId_t _ _ (by omega) (by omega)).mono ?_; rintro e w' ⟨rfl, rfl⟩)
   go_ret
   exact ⟨rfl, (belx)⟩
  ·have q9 : ¬ (0 : Int) < n3 := by omega
   by_cases h10 : x2 = 1
   ·have := T (by omega); subst this; clear F T; subst h10
    go_enter Tryz.func198, Tryz.ntmps198
    go_wp2_with (go_at_call 104; refine (i_isId_t _ _ (by omega) (by omega)).mono ?_; rintro e w' ⟨rfl, rfl⟩)
    go_ret
    exact ⟨rfl, (belx)⟩
   ·have := F (by omega); subst this; clear F T
    have q10 : (x2 == 1) = false := by simpa using h10
    go_enter Tryz.func198, Tryz.ntmps198
    go_wp2_with (go_at_call 104; refine (i_isId_t _ _ (by omega) (by omega)).mono ?_; rintro e w' ⟨rfl, rfl⟩)
    go_ret
    exact ⟨by first | (simp; done) | (simp; omega), (belx)⟩
theorem i_PieceOk {w : World} {cs : List Value} {p : DPiece} (h : tPiece.R w w.heap.size cs p) (hz : szPiece p ≤ 1048576) :
  Calls Tryz.prog 198 #[.agg cs.toArray] w fun e w' => e = .returned (.bool (decide (PcOk p))) ∧ Bel w w' := by
 obtain ⟨A3, n3, c3, rfl, hi0, hi1, hi2, ha3, hb3, hl3, hr3⟩ := openPiece h
 have rg := i64_rg hi2
 exact i_PieceOkN w A3 n3 c3 _ _ _ _ ⟨by omega, by omega⟩ (fun hh => decide_eq_true (by unfold PcOk; rw [hl3]; exact hh)) (fun hh => decide_eq_false (by unfold PcOk; rw [hl3]; exact hh))
end Go.Proofs.YtkdanlnhdgcplaaGreat
namespace Go.Proofs.YtkdanlnhdgcplaaGreat
set_option linter.unusedVariables false
def Asc (l : List Int) : Prop := ∀ i, i + 1 < l.length → l.getD i 0 < l.getD (i + 1) 0
def WhN (w : DWhole) : Prop := (0 ≤ w.2.2.1 ∧ w.2.2.1 ≤ 65535) ∧ (1 ≤ w.2.2.2.length ∧ (w.2.2.2.length : Int) < w.2.1) ∧ (∀ p ∈ w.2.2.2, PcOk p ∧ p.1 = w.1 ∧ p.2.2.1 = w.2.1) ∧ Asc (w.2.2.2.map fun p => p.2.1)
def DkOk (d : DDesk) : Prop := d.1.length ≤ 6 ∧ (∀ x ∈ d.2, 0 ≤ x ∧ x ≤ 255) ∧ Asc d.2 ∧ Asc (d.1.map fun w => w.1) ∧ ∀ w ∈ d.1, WhN w ∧ w.1 ∉ d.2
noncomputable instance (w : DWhole) : Decidable (WhN w) := Classical.propDecidable _
noncomputable instance (d : DDesk) : Decidable (DkOk d) := Classical.propDecidable _
theorem map_at {α : Type} {f : α → Int} {l : List α} {i : Nat} {a : α} (h : l[i]? = some a) : (l.map f).getD i 0 = f a := by
 rw [List.getD_eq_getElem?_getD, List.getElem?_map, h]; rfl
theorem asc_ge {l : List Int} (h : Asc l) (h0 : ∀ x ∈ l, 0 ≤ x) : ∀ i, i < l.length → (i : Int) ≤ l.getD i 0 := by
 intro i
 induction i with
 | zero =>
  intro hi
  have : l.getD 0 0 ∈ l := by rw [List.getD_eq_getElem?_getD, List.getElem?_eq_getElem hi]; exact List.getElem_mem _
  simpa using h0 _ this
 | succ i ih =>
  intro hi
  have := h i hi
  have := ih (by omega)
  omega
theorem asc_len {l : List Int} (h : Asc l) (h0 : ∀ x ∈ l, 0 ≤ x ∧ x ≤ 255) : l.length ≤ 256 := by
 by_cases hl : l.length ≤ 256
 ·exact hl
 ·have h1 := asc_ge h (fun x hx => (h0 x hx).1) 256 (by omega)
  have h2 : l.getD 256 0 ∈ l := by rw [List.getD_eq_getElem?_getD, List.getElem?_eq_getElem (by omega)]; exact List.getElem_mem _
  have := (h0 _ h2).2
  omega
def DnK (l : List Int) (k : Nat) : Prop := ∀ i, i < k → (0 ≤ l.getD i 0 ∧ l.getD i 0 ≤ 255) ∧ ∀ q, i = q + 1 → l.getD q 0 < l.getD i 0
theorem DnK.zero {l : List Int} : DnK l 0 := fun i h => absurd h (by omega)
theorem DnK.succ {l : List Int} {k : Nat} (h : DnK l k) (h1 : 0 ≤ l.getD k 0) (h2 : l.getD k 0 ≤ 255) (h3 : ∀ q, k = q + 1 → l.getD q 0 < l.getD k 0) : DnK l (k + 1) := fun i hi => by
 rcases Nat.lt_succ_iff_lt_or_eq.1 hi with h' | rfl
 ·exact h i h'
 ·exact ⟨⟨h1, h2⟩, h3⟩
theorem DnK.done {l : List Int} {k : Nat} (h : DnK l k) (hk : l.length ≤ k) : (∀ x ∈ l, 0 ≤ x ∧ x ≤ 255) ∧ Asc l := by
 refine ⟨fun x hx => ?_, fun i hi => (h (i + 1) (by omega)).2 i rfl⟩
 obtain ⟨i, hi, rfl⟩ := List.getElem_of_mem hx
 have := (h i (by omega)).1
 rwa [List.getD_eq_getElem?_getD, List.getElem?_eq_getElem hi] at this
def RwK {α : Type} (P : α → Prop) (f : α → Int) (l : List α) (k : Nat) : Prop := ∀ i a, i < k → l[i]? = some a → P a ∧ ∀ q b, i = q + 1 → l[q]? = some b → f b < f a
theorem RwK.zero {α : Type} {P : α → Prop} {f : α → Int} {l : List α} : RwK P f l 0 := fun i a h => absurd h (by omega)
theorem RwK.succ {α : Type} {P : α → Prop} {f : α → Int} {l : List α} {k : Nat} {a : α} (h : RwK P f l k) (hl : l[k]? = some a) (hP : P a) (h3 : ∀ q b, k = q + 1 → l[q]? = some b → f b < f a) : RwK P f l (k + 1) := fun i x hi hx => by
 rcases Nat.lt_succ_iff_lt_or_eq.1 hi with h' | rfl
 ·exact h i x h' hx
 ·rw [hl] at hx; injection hx with hx; subst hx; exact ⟨hP, h3⟩
theorem RwK.done {α : Type} {P : α → Prop} {f : α → Int} {l : List α} {k : Nat} (h : RwK P f l k) (hk : l.length ≤ k) : (∀ a ∈ l, P a) ∧ Asc (l.map f) := by
 refine ⟨fun a ha => ?_, fun i hi => ?_⟩
 ·obtain ⟨i, hi, rfl⟩ := List.getElem_of_mem ha
  exact (h i _ (by omega) (List.getElem?_eq_getElem hi)).1
 ·rw [List.length_map] at hi
  rw [map_at (List.getElem?_eq_getElem (show i < l.length by omega)), map_at (List.getElem?_eq_getElem hi)]
  exact (h (i + 1) _ (by omega) (List.getElem?_eq_getElem hi)).2 i _ rfl (List.getElem?_eq_getElem (by omega))
theorem asc_at {α : Type} {f : α → Int} {l : List α} {q : Nat} {a b : α} (h : Asc (l.map f)) (ha : l[q + 1]? = some a) (hb : l[q]? = some b) : f b < f a := by
 have hq := (List.getElem?_eq_some_iff.1 ha).1
 have := h q (by rw [List.length_map]; exact hq)
 rwa [map_at ha, map_at hb] at this
end Go.Proofs.YtkdanlnhdgcplaaGreat
namespace Go.Proofs.YtkdanlnhdgcplaaGreat
set_option maxRecDepth 100000
open Go.ChangeShapes Go.WideShapes Go.ChangeAt Go.RowKit
open Fld

theorem i_FOk_t (a : Int) (w : World) (h : Ok a) :
  Calls Tryz.prog 164 #[.int .i64 a] w fun e w' => e = .returned (.bool true) ∧ w = w' := by
 have h1 := h.lo
 have h2 := h.hi
 go_enter Tryz.func164, Tryz.ntmps164
 go_wp2
 go_ret
 exact ⟨rfl, rfl⟩
theorem i_FOk_f (a : Int) (w : World) (h : Bad a) :
  Calls Tryz.prog 164 #[.int .i64 a] w fun e w' => e = .returned (.bool false) ∧ w = w' := by
 by_cases h1 : 0 ≤ a
 ·have h2 : ¬ a < 2147483647 := fun x => h ⟨h1, x⟩
  go_enter Tryz.func164, Tryz.ntmps164
  go_wp2
  go_ret
  exact ⟨rfl, rfl⟩
 ·go_enter Tryz.func164, Tryz.ntmps164
  go_wp2
  go_ret
  exact ⟨rfl, rfl⟩
theorem i_sec_t (a : Int) (w : World) (h : Sec a) :
  Calls Tryz.prog 138 #[.int .i64 a] w fun e w' => e = .returned (.bool true) ∧ w = w' := by
 have h1 := h.lo
 have h2 := h.hi
 go_enter Tryz.func138, Tryz.ntmps138
 go_wp2
 go_ret
 exact ⟨ret_bool (by simp; try omega), rfl⟩
theorem i_sec_f (a : Int) (w : World) (h : NoSec a) :
  Calls Tryz.prog 138 #[.int .i64 a] w fun e w' => e = .returned (.bool false) ∧ w = w' := by
 by_cases h1 : 1 ≤ a
 ·have h2 : ¬ a < 2147483646 := fun x => h ⟨h1, x⟩
  go_enter Tryz.func138, Tryz.ntmps138
  go_wp2
  go_ret
  exact ⟨ret_bool (by simp; try omega), rfl⟩
 ·go_enter Tryz.func138, Tryz.ntmps138
  go_wp2
  go_ret
  exact ⟨ret_bool (by simp; try omega), rfl⟩
end Go.Proofs.YtkdanlnhdgcplaaGreat
namespace Go.Proofs.YtkdanlnhdgcplaaGreat
set_option maxRecDepth 100000
set_option linter.unusedVariables false
set_option linter.unusedSimpArgs false
open Go.ChangeShapes Go.WideShapes Go.ChangeAt Go.RowKit
def HdN (a d : Int) (n : Nat) : Prop := 0 ≤ a ∧ a < 8 ∧ 0 ≤ d ∧ d ≤ 65535 ∧ n = 80
instance (a d : Int) (n : Nat) : Decidable (HdN a d n) := by unfold HdN; infer_instance
def HdOk (p : DHeld) : Prop := HdN p.1 p.2.1 p.2.2.length
instance (p : DHeld) : Decidable (HdOk p) := by unfold HdOk; infer_instance
theorem sh_CellOk_t (A : Option Addr) (c : Nat) (w : World) :
  Calls Tryz.prog 51 #[.agg #[.slice A 80 c]] w fun e w' => e = .returned (.bool true) ∧ Bel w w' := by
 go_enter Tryz.func51, Tryz.ntmps51
 go_wp2
 go_ret
 exact ⟨rfl, (belx)⟩
theorem sh_CellOk_f (A : Option Addr) (n c : Nat) (w : World) (h : ¬ n = 80) :
  Calls Tryz.prog 51 #[.agg #[.slice A n c]] w fun e w' => e = .returned (.bool false) ∧ Bel w w' := by
 have q : ((n : Int) == 80) = false := by simp; omega
 go_enter Tryz.func51, Tryz.ntmps51
 go_wp2
 go_ret
 exact ⟨ret_bool (by first | exact q | (simp; done) | (simp; omega)), (belx)⟩
theorem s_HeldOkN (w : World) (A2 : Option Addr) (n2 c2 : Nat) (x0 x1 : Int) (b : Bool) (T : HdN x0 x1 n2 → b = true) (F : ¬ HdN x0 x1 n2 → b = false) :
  Calls Tryz.prog 129 #[.agg #[.int .i64 x0, .int .i64 x1, .slice A2 n2 c2]] w fun e w' => e = .returned (.bool b) ∧ Bel w w' := by
 unfold HdN at T F
 by_cases h1 : x0 < 0
 ·have := F (by omega); subst this; clear F T
  go_enter Tryz.func129, Tryz.ntmps129
  go_wp2
  go_ret
  exact ⟨rfl, (belx)⟩
 by_cases h2 : 8 ≤ x0
 ·have := F (by omega); subst this; clear F T
  go_enter Tryz.func129, Tryz.ntmps129
  go_wp2
  go_ret
  exact ⟨rfl, (belx)⟩
 by_cases h3 : x1 < 0
 ·have := F (by omega); subst this; clear F T
  go_enter Tryz.func129, Tryz.ntmps129
  go_wp2
  go_ret
  exact ⟨rfl, (belx)⟩
 by_cases h4 : 65535 < x1
 ·have := F (by omega); subst this; clear F T
  go_enter Tryz.func129, Tryz.ntmps129
  go_wp2
  go_ret
  exact ⟨rfl, (belx)⟩
 by_cases h5 : n2 = 80
 ·have := T (by omega); subst this; clear F T; subst h5
  go_enter Tryz.func129, Tryz.ntmps129
  go_wp2_with ((go_at_call 51; refine (sh_CellOk_t _ _ _).mono ?_; rintro e w1 ⟨rfl, hb1⟩))
  go_ret
  exact ⟨rfl, bel_trans (belx) hb1⟩
 ·have := F (by omega); subst this; clear F T
  go_enter Tryz.func129, Tryz.ntmps129
  go_wp2_with ((go_at_call 51; refine (sh_CellOk_f _ _ _ _ (by omega)).mono ?_; rintro e w1 ⟨rfl, hb1⟩))
  go_ret
  exact ⟨rfl, bel_trans (belx) hb1⟩
theorem s_HeldOkR {w : World} {cs : List Value} {p : DHeld} (h : tHeld.R w w.heap.size cs p) :
  Calls Tryz.prog 129 #[.agg cs.toArray] w fun e w' => e = .returned (.bool (decide (HdOk p))) ∧ Bel w w' := by
 obtain ⟨A2, n2, c2, rfl, hi0, hi1, ha2, hb2, hl2, hr2⟩ := openHeld h
 exact s_HeldOkN w A2 n2 c2 _ _ _ (fun hh => decide_eq_true (by unfold HdOk; rw [hl2]; exact hh)) (fun hh => decide_eq_false (by unfold HdOk; rw [hl2]; exact hh))
theorem ih_CellOk_t (A : Option Addr) (c : Nat) (w : World) :
  Calls Tryz.prog 68 #[.agg #[.slice A 80 c]] w fun e w' => e = .returned (.bool true) ∧ Bel w w' := by
 go_enter Tryz.func68, Tryz.ntmps68
 go_wp2
 go_ret
 exact ⟨rfl, (belx)⟩
theorem ih_CellOk_f (A : Option Addr) (n c : Nat) (w : World) (h : ¬ n = 80) :
  Calls Tryz.prog 68 #[.agg #[.slice A n c]] w fun e w' => e = .returned (.bool false) ∧ Bel w w' := by
 have q : ((n : Int) == 80) = false := by simp; omega
 go_enter Tryz.func68, Tryz.ntmps68
 go_wp2
 go_ret
 exact ⟨ret_bool (by first | exact q | (simp; done) | (simp; omega)), (belx)⟩
theorem ih_isNode_t (x : Int) (w : World) (h1 : 0 ≤ x) (h2 : x < 8) : Calls Tryz.prog 67 #[.int .i64 x] w fun e w' => e = .returned (.bool true) ∧ w = w' := by
 go_enter Tryz.func67, Tryz.ntmps67
 go_wp2
 go_ret
 exact ⟨ret_bool lez, rfl⟩
theorem ih_isNode_f (x : Int) (w : World) (h : ¬ (0 ≤ x ∧ x < 8)) : Calls Tryz.prog 67 #[.int .i64 x] w fun e w' => e = .returned (.bool false) ∧ w = w' := by
 by_cases h1 : x < 0
 ·clear h
  go_enter Tryz.func67, Tryz.ntmps67
  go_wp2
  go_ret
  exact ⟨rfl, rfl⟩
 ·have h2 : 8 ≤ x := by omega
  clear h
  go_enter Tryz.func67, Tryz.ntmps67
  go_wp2
  go_ret
  exact ⟨ret_bool lez, rfl⟩
theorem ih_isDue_t (x : Int) (w : World) (h1 : 0 ≤ x) (h2 : x ≤ 65535) : Calls Tryz.prog 194 #[.int .i64 x] w fun e w' => e = .returned (.bool true) ∧ w = w' := by
 go_enter Tryz.func194, Tryz.ntmps194
 go_wp2
 go_ret
 exact ⟨ret_bool lez, rfl⟩
theorem ih_isDue_f (x : Int) (w : World) (h : ¬ (0 ≤ x ∧ x ≤ 65535)) : Calls Tryz.prog 194 #[.int .i64 x] w fun e w' => e = .returned (.bool false) ∧ w = w' := by
 by_cases h1 : x < 0
 ·clear h
  go_enter Tryz.func194, Tryz.ntmps194
  go_wp2
  go_ret
  exact ⟨rfl, rfl⟩
 ·have h2 : 65535 < x := by omega
  clear h
  go_enter Tryz.func194, Tryz.ntmps194
  go_wp2
  go_ret
  exact ⟨ret_bool lez, rfl⟩
theorem i_HeldOkN (w : World) (A2 : Option Addr) (n2 c2 : Nat) (x0 x1 : Int) (b : Bool) (T : HdN x0 x1 n2 → b = true) (F : ¬ HdN x0 x1 n2 → b = false) :
  Calls Tryz.prog 162 #[.agg #[.int .i64 x0, .int .i64 x1, .slice A2 n2 c2]] w fun e w' => e = .returned (.bool b) ∧ Bel w w' := by
 unfold HdN at T F
 by_cases h1 : ¬ (0 ≤ x0 ∧ x0 < 8)
 ·have := F (by omega); subst this; clear F T
  go_enter Tryz.func162, Tryz.ntmps162
  go_wp2_with ((go_at_call 67; refine (ih_isNode_f _ _ (by omega)).mono ?_; rintro e w' ⟨rfl, rfl⟩))
  go_ret
  exact ⟨rfl, (belx)⟩
 by_cases h3 : ¬ (0 ≤ x1 ∧ x1 ≤ 65535)
 ·have := F (by omega); subst this; clear F T
  go_enter Tryz.func162, Tryz.ntmps162
  go_wp2_with (first
    | (go_at_call 67; refine (ih_isNode_t _ _ (by omega) (by omega)).mono ?_; rintro e w' ⟨rfl, rfl⟩)
    | (go_at_call 194; refine (ih_isDue_f _ _ (by omega)).mono ?_; rintro e w' ⟨rfl, rfl⟩))
  go_ret
  exact ⟨rfl, (belx)⟩
 by_cases h5 : n2 = 80
 ·have := T (by omega); subst this; clear F T; subst h5
  go_enter Tryz.func162, Tryz.ntmps162
  go_wp2_with (first
    | (go_at_call 67; refine (ih_isNode_t _ _ (by omega) (by omega)).mono ?_; rintro e w' ⟨rfl, rfl⟩)
    | (go_at_call 194; refine (ih_isDue_t _ _ (by omega) (by omega)).mono ?_; rintro e w' ⟨rfl, rfl⟩)
    | (go_at_call 68; refine (ih_CellOk_t _ _ _).mono ?_; rintro e w1 ⟨rfl, hb1⟩))
  go_ret
  exact ⟨rfl, bel_trans (belx) hb1⟩
 ·have := F (by omega); subst this; clear F T
  go_enter Tryz.func162, Tryz.ntmps162
  go_wp2_with (first
    | (go_at_call 67; refine (ih_isNode_t _ _ (by omega) (by omega)).mono ?_; rintro e w' ⟨rfl, rfl⟩)
    | (go_at_call 194; refine (ih_isDue_t _ _ (by omega) (by omega)).mono ?_; rintro e w' ⟨rfl, rfl⟩)
    | (go_at_call 68; refine (ih_CellOk_f _ _ _ _ (by omega)).mono ?_; rintro e w1 ⟨rfl, hb1⟩))
  go_ret
  exact ⟨rfl, bel_trans (belx) hb1⟩
theorem i_HeldOkR {w : World} {cs : List Value} {p : DHeld} (h : tHeld.R w w.heap.size cs p) :
  Calls Tryz.prog 162 #[.agg cs.toArray] w fun e w' => e = .returned (.bool (decide (HdOk p))) ∧ Bel w w' := by
 obtain ⟨A2, n2, c2, rfl, hi0, hi1, ha2, hb2, hl2, hr2⟩ := openHeld h
 exact i_HeldOkN w A2 n2 c2 _ _ _ (fun hh => decide_eq_true (by unfold HdOk; rw [hl2]; exact hh)) (fun hh => decide_eq_false (by unfold HdOk; rw [hl2]; exact hh))
end Go.Proofs.YtkdanlnhdgcplaaGreat
namespace Go.Proofs.YtkdanlnhdgcplaaGreat
set_option maxRecDepth 100000
set_option linter.unusedVariables false
set_option linter.unusedSimpArgs false
open Go.ChangeShapes Go.WideShapes Go.ChangeAt Go.RowKit
open Fld
instance (a : Int) : Decidable (Ok a) := by unfold Ok; infer_instance
def PlOk (p : DPool) : Prop := (p.1.length ≤ 12 ∧ p.2.length ≤ 60) ∧ (∀ h ∈ p.1, HdOk h) ∧ (∀ x ∈ p.2, Ok x) ∧ p.2.Nodup
instance (p : DPool) : Decidable (PlOk p) := by unfold PlOk; infer_instance
section
variable {α : Type} {P : α → Prop} {l : List α} {a : α} {j : Nat}
theorem all_zero : ∀ h ∈ l.take 0, P h := fun h hh => absurd hh (by simp)
theorem all_sn (h : ∀ x ∈ l.take j, P x) (hl : l[j]? = some a) (ha : P a) : ∀ x ∈ l.take (j + 1), P x := by
 rw [take_sn hl]
 intro x hx
 rcases List.mem_append.1 hx with h' | h'
 ·exact h x h'
 ·rw [List.mem_singleton] at h'; rw [h']; exact ha
theorem all_end (h : ∀ x ∈ l.take j, P x) (hj : l.length ≤ j) : ∀ x ∈ l, P x := by rwa [List.take_of_length_le hj] at h
theorem nd_sn (h : (l.take j).Nodup) (hl : l[j]? = some a) (ha : a ∉ l.take j) : (l.take (j + 1)).Nodup := by
 rw [take_sn hl, List.nodup_append]
 refine ⟨h, by simp, fun x hx y hy e => ?_⟩
 rw [List.mem_singleton] at hy
 subst hy e
 exact ha hx
theorem nd_end (h : (l.take j).Nodup) (hj : l.length ≤ j) : l.Nodup := by rwa [List.take_of_length_le hj] at h
theorem nd_no (hl : l[j]? = some a) (ha : a ∈ l.take j) : ¬ l.Nodup := by
 intro h
 have h2 : (l.take (j + 1)).Nodup := h.sublist (List.take_sublist _ _)
 rw [take_sn hl, List.nodup_append] at h2
 exact h2.2.2 a ha a (by simp) rfl
theorem mem_at (hl : l[j]? = some a) : a ∈ l := List.mem_of_getElem? hl
end
theorem get_at {l : List Int} {n j : Nat} (h : l.length = n) (hj : j < n) : l[j]? = some (l.getD j 0) := by
 rw [List.getD_eq_getElem?_getD, List.getElem?_eq_getElem (by omega)]; rfl
theorem s_l4has {w : World} {B n c : Nat} {A : Option Addr} {l : List Int} (x : Int) (hl : Ints .i64 w B A n l) (hn : n ≤ 17592186043904) :
  Calls Tryz.prog 95 #[.slice A n c, .int .i64 x] w fun e w' => e = .returned (.bool (decide (x ∈ l))) ∧ w = w' := by
 have HL := Lib.hid hl.1
 go_enter Tryz.func95, Tryz.ntmps95
 go_wp2_with fail
 go_loop [5] (fun i => ∃ j : Nat, j ≤ n ∧ i = .int .i64 j ∧ ∀ y ∈ l.take j, y ≠ x) (fun i => n - (RowKit.intOf i).toNat)
 case atStart => exact ⟨0, by omega, rfl, all_zero⟩
 case round =>
  obtain ⟨j, hj, rfl, hG⟩ := hrel
  have HG := Lib.hid hG
  clear hG
  by_cases hlt : j < n
  ·obtain ⟨b, off, rfl, hb, hcell, hwf⟩ := hl.at_ hlt
   have HA := Lib.hid (get_at HL.out hlt)
   obtain ⟨y, hy⟩ : ∃ y, l.getD j 0 = y := ⟨_, rfl⟩
   rw [hy] at hcell HA
   clear hy hwf
   by_cases he : y = x
   ·subst he
    have HR := Lib.hid (show decide (y ∈ l) = true from decide_eq_true (mem_at HA.out))
    go_wp2
    go_ret
    exact ⟨ret_bool HR.out.symm, rfl⟩
   ·have q : (y == x) = false := by simpa using he
    have HN := Lib.hid he
    clear he
    go_wp2
    go_round
    case rel => exact ⟨j + 1, by omega, by go_num, all_sn HG.out HA.out HN.out⟩
    case measure => simp [RowKit.intOf]; omega
  ·obtain rfl : j = n := by omega
   have HR := Lib.hid (show decide (x ∈ l) = false from decide_eq_false fun hx => all_end HG.out (Nat.le_of_eq HL.out) x hx rfl)
   go_wp2
   go_ret
   exact ⟨ret_bool HR.out.symm, rfl⟩
set_option maxHeartbeats 2000000 in
theorem s_PoolOkN {w : World} {A0 A1 : Option Addr} {n0 c0 n1 c1 : Nat} {r0 : List DHeld} {l1 : List Int} (b : Bool) (T : PlOk (r0, l1) → b = true) (F : ¬ PlOk (r0, l1) → b = false)
  (h0 : tHeld.row.R w w.heap.size [.slice A0 n0 c0] r0) (h1 : tIs.R w w.heap.size [.slice A1 n1 c1] l1) :
  Calls Tryz.prog 93 #[.agg #[.slice A0 n0 c0, .slice A1 n1 c1]] w fun e w' => e = .returned (.bool b) ∧ Bel w w' := by
 obtain ⟨e0, hnc0, hcm0⟩ := rowR_len h0
 have hl1 := (slR_ints h1).1
 have hcc := (slR_ints h1).2
 have E0 := Lib.hid e0
 have E1 := Lib.hid hl1.1
 have HT := Lib.hid T
 have HF := Lib.hid F
 clear T F e0 h1
 by_cases g0 : n0 ≤ 12
 rotate_left
 ·obtain rfl := HF.out (fun h => by have := h.1.1; have := E0.out; dsimp only at *; omega)
  have q : (12 : Int) < (n0 : Int) := by omega
  clear HT HF
  go_enter Tryz.func93, Tryz.ntmps93
  go_wp2
  go_ret
  exact ⟨rfl, (belx)⟩
 have q0 : ¬ (12 : Int) < (n0 : Int) := by omega
 by_cases g1 : n1 ≤ 60
 rotate_left
 ·obtain rfl := HF.out (fun h => by have := h.1.2; have := E1.out; dsimp only at *; omega)
  have q : (60 : Int) < (n1 : Int) := by omega
  clear HT HF
  go_enter Tryz.func93, Tryz.ntmps93
  go_wp2
  go_ret
  exact ⟨rfl, (belx)⟩
 have q1 : ¬ (60 : Int) < (n1 : Int) := by omega
 go_enter Tryz.func93, Tryz.ntmps93
 go_wp2_with fail
 go_loopw [3] (fun i wr => ∃ j : Nat, j ≤ n0 ∧ i = .int .i64 j ∧ Bel w wr ∧ Box wr w.heap.size 103 #[.slice A0 n0 c0, .slice A1 n1 c1] ∧ ∀ h ∈ r0.take j, HdOk h) (fun i _ => n0 - (RowKit.intOf i).toNat)
 case atStart => exact ⟨0, by omega, rfl, (belx), Box.new _ _ _, all_zero⟩
 case round =>
  obtain ⟨j, hj, rfl, hB, hX, hG⟩ := hrel
  have HG := Lib.hid hG
  clear hG
  have k0 := hX.cell 0
  have k1 := hX.cell 1
  by_cases hlt : j < n0
  ·obtain ⟨a, b', off, es, hl, rfl, hb, hes, hR⟩ := rowR_at (K := 3) h0 hlt rfl
   have HA := Lib.hid hl
   clear hl
   obtain ⟨A2, n2, c2, rfl, -, -, -, -, -, -⟩ := openHeld hR
   have e0 : wr.cell? ⟨b', off + j * 3, none⟩ = some (.int .i64 a.1) := cell_at hB hb (hes 0 (by omega))
   have e1 : wr.cell? ⟨b', off + j * 3 + 1, none⟩ = some (.int .i64 a.2.1) := cell_at hB hb (hes 1 (by omega))
   have e2 : wr.cell? ⟨b', off + j * 3 + 2, none⟩ = some (.slice A2 n2 c2) := cell_at hB hb (hes 2 (by omega))
   clear hes
   go_wp2_with fail
   refine (s_HeldOkR (tHeld.reach hR ?hB)).mono ?_
   case hB => exact (belx)
   rintro e w1 ⟨rfl, hb1⟩
   by_cases ha : HdOk a
   ·rw [decide_eq_true ha]
    have HN := Lib.hid ha
    clear ha
    go_wp2
    go_roundw
    case rel => exact ⟨j + 1, by omega, by go_num, bel_trans hB hb1, hX.below hb1 hX.size, all_sn HG.out HA.out HN.out⟩
    case measure => simp [RowKit.intOf]; omega
   ·rw [decide_eq_false ha]
    obtain rfl := HF.out (fun h => ha (h.2.1 a (mem_at HA.out)))
    clear ha
    go_wp2
    go_ret
    exact ⟨rfl, bel_trans hB hb1⟩
  ·have HG0 := Lib.hid (all_end HG.out (by rw [E0.out]; omega))
   obtain rfl : n0 = j := by omega
   clear hlt HG
   go_wp2_with fail
   go_loopw [4] (fun i wr => ∃ j : Nat, j ≤ n1 ∧ i = .int .i64 j ∧ Bel w wr ∧ Box wr w.heap.size 103 #[.slice A0 n0 c0, .slice A1 n1 c1] ∧ (∀ x ∈ l1.take j, Ok x) ∧ (l1.take j).Nodup) (fun i _ => n1 - (RowKit.intOf i).toNat)
   case atStart => exact ⟨0, by omega, rfl, hB, hX, all_zero, by simp⟩
   case round =>
    clear k0 k1 hB hX
    obtain ⟨i, hi, rfl, hB, hX, hO, hD⟩ := hrel
    have HO := Lib.hid hO
    have HD := Lib.hid hD
    clear hO hD
    have k0 := hX.cell 0
    have k1 := hX.cell 1
    by_cases hlt : i < n1
    ·obtain ⟨b', off, rfl, hb, hcell, hwf⟩ := (hl1.below hB).at_ hlt
     have HA := Lib.hid (get_at E1.out hlt)
     have hsl : Ints .i64 wr w.heap.size (some ⟨b', off, none⟩) i (l1.take i) := (hl1.below hB).head i (by omega)
     obtain ⟨y, hy⟩ : ∃ y, l1.getD i 0 = y := ⟨_, rfl⟩
     rw [hy] at hcell HA
     clear hy hwf
     have i1 : (i : Int) < (n1 : Int) := by omega
     have i2 : (i : Int) ≤ (c1 : Int) := by omega
     by_cases ho : Ok y
     ·by_cases hm : y ∈ l1.take i
      ·obtain rfl := HF.out (fun h => nd_no HA.out hm h.2.2.2)
       have HM := Lib.hid (decide_eq_true hm)
       clear hm HT HF
       go_wp2_with fail
       go_region_held3 (fun w' => w'.cell? ⟨w.heap.size, 1, none⟩ = some (.slice (some ⟨b', off, none⟩) n1 c1) ∧ w'.cell? ⟨b', off + i, none⟩ = some (.int .i64 y)) (first | (exact ⟨k1, hcell⟩) | go_keep)
        (first
         | (go_at_call 130; refine (s_FOk_t y _ ho).mono ?_; rintro e w' ⟨rfl, rfl⟩)
         | (go_at_call 95; refine (s_l4has y hsl.drew (by omega)).mono ?_; rintro e w' ⟨rfl, rfl⟩; rw [HM.out]))
       go_wp2
       go_ret
       exact ⟨rfl, (belx)⟩
      ·have HM := Lib.hid (decide_eq_false hm)
       have HN := Lib.hid hm
       have HK := Lib.hid ho
       clear hm
       go_wp2_with fail
       go_region_held3 (fun w' => w'.cell? ⟨w.heap.size, 1, none⟩ = some (.slice (some ⟨b', off, none⟩) n1 c1) ∧ w'.cell? ⟨b', off + i, none⟩ = some (.int .i64 y)) (first | (exact ⟨k1, hcell⟩) | go_keep)
        (first
         | (go_at_call 130; refine (s_FOk_t y _ ho).mono ?_; rintro e w' ⟨rfl, rfl⟩)
         | (go_at_call 95; refine (s_l4has y hsl.drew (by omega)).mono ?_; rintro e w' ⟨rfl, rfl⟩; rw [HM.out]))
       go_wp2
       go_roundw
       case rel => exact ⟨i + 1, by omega, by go_num, (belx), hX.same rfl, all_sn HO.out HA.out HK.out, nd_sn HD.out HA.out HN.out⟩
       case measure => simp [RowKit.intOf]; omega
     ·obtain rfl := HF.out (fun h => ho (h.2.2.1 y (mem_at HA.out)))
      clear HT HF
      go_wp2_with fail
      go_quiet ((go_at_call 130; exact q_same (fun W => s_FOk_f y W ho)))
      go_wp2
      go_ret
      exact ⟨rfl, below_drewN hB _⟩
    ·have hi1 : i = n1 := by omega
     obtain rfl := HT.out ⟨⟨by have := E0.out; dsimp only; omega, by have := E1.out; dsimp only; omega⟩, HG0.out, all_end HO.out (by rw [E1.out]; omega), nd_end HD.out (by rw [E1.out]; omega)⟩
     go_wp2
     go_ret
     exact ⟨rfl, hB⟩
theorem s_PoolOk {w : World} {cs : List Value} {p : DPool} (h : tPool.R w w.heap.size cs p) (hz : szPool p ≤ 1048576) :
  Calls Tryz.prog 93 #[.agg cs.toArray] w fun e w' => e = .returned (.bool (decide (PlOk p))) ∧ Bel w w' := by
 obtain ⟨A0, n0, c0, A1, n1, c1, rfl, -, -, -, hr0, -, -, -, hr1⟩ := openPool h
 exact s_PoolOkN _ (fun hh => decide_eq_true hh) (fun hh => decide_eq_false hh) hr0 hr1
theorem i_Index_t {w : World} {B n c : Nat} {A : Option Addr} {l : List Int} (x : Int) (hl : Ints .i64 w B A n l) (hn : n ≤ 17592186043904) (hx : x ∈ l) :
  Calls Tryz.prog 177 #[.slice A n c, .int .i64 x] w fun e w' => (∃ k : Nat, e = .returned (.int .i64 k) ∧ k < 17592186043904) ∧ w = w' := by
 have HL := Lib.hid hl.1
 go_enter Tryz.func177, Tryz.ntmps177
 go_wp2_with fail
 go_loop [8] (fun i => ∃ j : Nat, j ≤ n ∧ i = .int .i64 j ∧ ∀ y ∈ l.take j, y ≠ x) (fun i => n - (RowKit.intOf i).toNat)
 case atStart => exact ⟨0, by omega, rfl, all_zero⟩
 case round =>
  obtain ⟨j, hj, rfl, hG⟩ := hrel
  have HG := Lib.hid hG
  clear hG
  by_cases hlt : j < n
  ·obtain ⟨b, off, rfl, hb, hcell, hwf⟩ := hl.at_ hlt
   have HA := Lib.hid (get_at HL.out hlt)
   obtain ⟨y, hy⟩ : ∃ y, l.getD j 0 = y := ⟨_, rfl⟩
   rw [hy] at hcell HA
   clear hy hwf
   by_cases he : x = y
   ·subst he
    go_wp2
    go_ret
    exact ⟨⟨j, rfl, by omega⟩, rfl⟩
   ·have q : (x == y) = false := by simpa using he
    have HN := Lib.hid (fun e : y = x => he e.symm)
    clear he
    go_wp2
    go_round
    case rel => exact ⟨j + 1, by omega, by go_num, all_sn HG.out HA.out HN.out⟩
    case measure => simp [RowKit.intOf]; omega
  ·exact absurd rfl (all_end HG.out (by rw [HL.out]; omega) x hx)
theorem i_Index_f {w : World} {B n c : Nat} {A : Option Addr} {l : List Int} (x : Int) (hl : Ints .i64 w B A n l) (hn : n ≤ 17592186043904) (hx : x ∉ l) :
  Calls Tryz.prog 177 #[.slice A n c, .int .i64 x] w fun e w' => e = .returned (.int .i64 (-1)) ∧ w = w' := by
 have HL := Lib.hid hl.1
 have HX := Lib.hid hx
 clear hx
 go_enter Tryz.func177, Tryz.ntmps177
 go_wp2_with fail
 go_loop [8] (fun i => ∃ j : Nat, j ≤ n ∧ i = .int .i64 j) (fun i => n - (RowKit.intOf i).toNat)
 case atStart => exact ⟨0, by omega, rfl⟩
 case round =>
  obtain ⟨j, hj, rfl⟩ := hrel
  by_cases hlt : j < n
  ·obtain ⟨b, off, rfl, hb, hcell, hwf⟩ := hl.at_ hlt
   have HA := Lib.hid (get_at HL.out hlt)
   obtain ⟨y, hy⟩ : ∃ y, l.getD j 0 = y := ⟨_, rfl⟩
   rw [hy] at hcell HA
   clear hy hwf
   have q : (x == y) = false := by simp; rintro rfl; exact HX.out (mem_at HA.out)
   go_wp2
   go_round
   case rel => exact ⟨j + 1, by omega, by go_num⟩
   case measure => simp [RowKit.intOf]; omega
  ·obtain rfl : n = j := by omega
   go_wp2
   go_ret
   exact ⟨rfl, rfl⟩
theorem i_has {w : World} {B n c : Nat} {A : Option Addr} {l : List Int} (x : Int) (hl : Ints .i64 w B A n l) (hn : n ≤ 17592186043904) :
  Calls Tryz.prog 107 #[.slice A n c, .int .i64 x] w fun e w' => e = .returned (.bool (decide (x ∈ l))) ∧ w = w' := by
 by_cases hx : x ∈ l
 ·have HR := Lib.hid (show decide (x ∈ l) = true from decide_eq_true hx)
  have hc : Calls Tryz.prog 145 #[.slice A n c, .int .i64 x] w fun e w' => e = .returned (.bool true) ∧ w = w' := by
   go_enter Tryz.func145, Tryz.ntmps145
   go_wp2_with fail
   refine (i_Index_t x hl hn hx).mono ?_
   rintro e w' ⟨⟨k, rfl, hk⟩, rfl⟩
   go_wp2
   go_ret
   exact ⟨ret_bool lez, rfl⟩
  have HC := Lib.hid hc
  clear hx hc
  go_enter Tryz.func107, Tryz.ntmps107
  go_wp2_with fail
  refine HC.out.mono ?_
  rintro e w' ⟨rfl, rfl⟩
  go_wp2
  go_ret
  exact ⟨ret_bool HR.out.symm, rfl⟩
 ·have HR := Lib.hid (show decide (x ∈ l) = false from decide_eq_false hx)
  have hc : Calls Tryz.prog 145 #[.slice A n c, .int .i64 x] w fun e w' => e = .returned (.bool false) ∧ w = w' := by
   go_enter Tryz.func145, Tryz.ntmps145
   go_wp2_with fail
   refine (i_Index_f x hl hn hx).mono ?_
   rintro e w' ⟨rfl, rfl⟩
   go_wp2
   go_ret
   exact ⟨rfl, rfl⟩
  have HC := Lib.hid hc
  clear hx hc
  go_enter Tryz.func107, Tryz.ntmps107
  go_wp2_with fail
  refine HC.out.mono ?_
  rintro e w' ⟨rfl, rfl⟩
  go_wp2
  go_ret
  exact ⟨ret_bool HR.out.symm, rfl⟩
theorem i_isDistinct {w : World} {B n c : Nat} {A : Option Addr} {l : List Int} (hl : Ints .i64 w B A n l) (hn : n ≤ 17592186043904) (hnc : n ≤ c) (hc : c ≤ 9223372036854775807) :
  Calls Tryz.prog 66 #[.slice A n c] w fun e w' => e = .returned (.bool (decide l.Nodup)) ∧ w = w' := by
 have HL := Lib.hid hl.1
 go_enter Tryz.func66, Tryz.ntmps66
 go_wp2_with fail
 go_loop [7] (fun i => ∃ j : Nat, j ≤ n ∧ i = .int .i64 j ∧ (l.take j).Nodup) (fun i => n - (RowKit.intOf i).toNat)
 case atStart => exact ⟨0, by omega, rfl, by simp⟩
 case round =>
  obtain ⟨j, hj, rfl, hD⟩ := hrel
  have HD := Lib.hid hD
  clear hD
  by_cases hlt : j < n
  ·obtain ⟨b, off, rfl, hb, hcell, hwf⟩ := hl.at_ hlt
   have HA := Lib.hid (get_at HL.out hlt)
   have hsl : Ints .i64 w B (some ⟨b, off, none⟩) j (l.take j) := hl.head j (by omega)
   obtain ⟨y, hy⟩ : ∃ y, l.getD j 0 = y := ⟨_, rfl⟩
   rw [hy] at hcell HA
   clear hy hwf
   have i2 : (j : Int) ≤ (c : Int) := by omega
   by_cases hm : y ∈ l.take j
   ·have HM := Lib.hid (decide_eq_true hm)
    have HR := Lib.hid (show decide l.Nodup = false from decide_eq_false (nd_no HA.out hm))
    clear hm
    go_wp2_with (go_at_call 107; refine (i_has y hsl (by omega)).mono ?_; rintro e w' ⟨rfl, rfl⟩; rw [HM.out])
    go_ret
    exact ⟨ret_bool HR.out.symm, rfl⟩
   ·have HM := Lib.hid (decide_eq_false hm)
    have HN := Lib.hid hm
    clear hm
    go_wp2_with (go_at_call 107; refine (i_has y hsl (by omega)).mono ?_; rintro e w' ⟨rfl, rfl⟩; rw [HM.out])
    go_round
    case rel => exact ⟨j + 1, by omega, by go_num, nd_sn HD.out HA.out HN.out⟩
    case measure => simp [RowKit.intOf]; omega
  ·obtain rfl : n = j := by omega
   have HR := Lib.hid (show decide l.Nodup = true from decide_eq_true (nd_end HD.out (Nat.le_of_eq HL.out)))
   go_wp2
   go_ret
   exact ⟨ret_bool HR.out.symm, rfl⟩
set_option maxHeartbeats 400000 in
theorem i_everyHeld {w : World} {n c : Nat} {A : Option Addr} {l : List DHeld} (hl : tHeld.row.R w w.heap.size [.slice A n c] l) (hn : n ≤ 17592186043904) :
  Calls Tryz.prog 161 #[.slice A n c, .func (.func 162) #[] #[]] w fun e w' => e = .returned (.bool (l.all fun h => decide (HdOk h))) ∧ Bel w w' := by
 obtain ⟨e0, _, _⟩ := rowR_len hl
 have HL := Lib.hid e0
 clear e0
 go_enter Tryz.func161, Tryz.ntmps161
 go_wp2_with fail
 go_loopw [9] (fun i wr => ∃ j : Nat, j ≤ n ∧ i = .int .i64 j ∧ Bel w wr ∧ ∀ h ∈ l.take j, HdOk h) (fun i _ => n - (RowKit.intOf i).toNat)
 case atStart => exact ⟨0, by omega, rfl, (belx), all_zero⟩
 case round =>
  obtain ⟨j, hj, rfl, hB, hG⟩ := hrel
  have HG := Lib.hid hG
  clear hG
  by_cases hlt : j < n
  ·obtain ⟨a, b', off, es, hl2, rfl, hb, hes, hR⟩ := rowR_at (K := 3) hl hlt rfl
   have HA := Lib.hid hl2
   clear hl2
   obtain ⟨A2, n2, c2, rfl, -, -, -, -, -, -⟩ := openHeld hR
   have e0 : wr.cell? ⟨b', off + j * 3, none⟩ = some (.int .i64 a.1) := cell_at hB hb (hes 0 (by omega))
   have e1 : wr.cell? ⟨b', off + j * 3 + 1, none⟩ = some (.int .i64 a.2.1) := cell_at hB hb (hes 1 (by omega))
   have e2 : wr.cell? ⟨b', off + j * 3 + 2, none⟩ = some (.slice A2 n2 c2) := cell_at hB hb (hes 2 (by omega))
   clear hes
   go_wp2_with fail
   first | (rw [show ∀ cs w, Sem.run Tryz.prog (callFunc 162 #[Value.agg cs]) w = .ok (.enter 162 #[Value.agg cs]) w from fun _ _ => rfl, Oper.upon_enter]) | skip
   refine (i_HeldOkR (tHeld.reach hR ?hB)).mono ?_
   case hB => exact bel_trans (a := w) hB (belx)
   rintro e w1 ⟨rfl, hb1⟩
   have hB1 : Bel w w1 := bel_trans (belx) hb1
   by_cases ha : HdOk a
   ·rw [decide_eq_true ha]
    have HN := Lib.hid ha
    clear ha
    go_wp2
    go_roundw
    case rel => exact ⟨j + 1, by omega, by go_num, hB1, all_sn HG.out HA.out HN.out⟩
    case measure => simp [RowKit.intOf]; omega
   ·rw [decide_eq_false ha]
    have HR := Lib.hid (show (l.all fun h => decide (HdOk h)) = false from List.all_eq_false.2 ⟨a, mem_at HA.out, by simpa using ha⟩)
    clear ha
    go_wp2
    go_ret
    exact ⟨ret_bool HR.out.symm, hB1⟩
  ·obtain rfl : n = j := by omega
   have HR := Lib.hid (show (l.all fun h => decide (HdOk h)) = true from List.all_eq_true.2 fun h hh => decide_eq_true (all_end HG.out (Nat.le_of_eq HL.out) h hh))
   go_wp2
   go_ret
   exact ⟨ret_bool HR.out.symm, hB⟩
theorem i_everyFOk {w : World} {B n c : Nat} {A : Option Addr} {l : List Int} (hl : Ints .i64 w B A n l) (hn : n ≤ 17592186043904) :
  Calls Tryz.prog 163 #[.slice A n c, .func (.func 164) #[] #[]] w fun e w' => e = .returned (.bool (l.all fun x => decide (Ok x))) ∧ w = w' := by
 have HL := Lib.hid hl.1
 go_enter Tryz.func163, Tryz.ntmps163
 go_wp2_with fail
 go_loop [9] (fun i => ∃ j : Nat, j ≤ n ∧ i = .int .i64 j ∧ ∀ x ∈ l.take j, Ok x) (fun i => n - (RowKit.intOf i).toNat)
 case atStart => exact ⟨0, by omega, rfl, all_zero⟩
 case round =>
  obtain ⟨j, hj, rfl, hG⟩ := hrel
  have HG := Lib.hid hG
  clear hG
  by_cases hlt : j < n
  ·obtain ⟨b, off, rfl, hb, hcell, hwf⟩ := hl.at_ hlt
   have HA := Lib.hid (get_at HL.out hlt)
   obtain ⟨y, hy⟩ : ∃ y, l.getD j 0 = y := ⟨_, rfl⟩
   rw [hy] at hcell HA
   clear hy hwf
   have q2 : (j : Int) < (n : Int) := by omega
   by_cases ha : Ok y
   ·have HN := Lib.hid ha
    go_wp2_with fail
    first | (rw [show ∀ (x : Int) w, Sem.run Tryz.prog (callFunc 164 #[Value.int .i64 x]) w = .ok (.enter 164 #[Value.int .i64 x]) w from fun _ _ => rfl, Oper.upon_enter]) | skip
    refine (i_FOk_t _ _ ha).mono ?_
    rintro e w' ⟨rfl, rfl⟩
    clear ha
    go_wp2
    go_round
    case rel => exact ⟨j + 1, by omega, by go_num, all_sn HG.out HA.out HN.out⟩
    case measure => simp [RowKit.intOf]; omega
   ·have HR := Lib.hid (show (l.all fun x => decide (Ok x)) = false from List.all_eq_false.2 ⟨y, mem_at HA.out, by simpa using ha⟩)
    go_wp2_with fail
    first | (rw [show ∀ (x : Int) w, Sem.run Tryz.prog (callFunc 164 #[Value.int .i64 x]) w = .ok (.enter 164 #[Value.int .i64 x]) w from fun _ _ => rfl, Oper.upon_enter]) | skip
    refine (i_FOk_f _ _ ha).mono ?_
    rintro e w' ⟨rfl, rfl⟩
    clear ha
    go_wp2
    go_ret
    exact ⟨ret_bool HR.out.symm, rfl⟩
  ·obtain rfl : n = j := by omega
   have HR := Lib.hid (show (l.all fun x => decide (Ok x)) = true from List.all_eq_true.2 fun h hh => decide_eq_true (all_end HG.out (Nat.le_of_eq HL.out) h hh))
   go_wp2
   go_ret
   exact ⟨ret_bool HR.out.symm, rfl⟩
theorem i_tags (A0 A1 : Option Addr) (n0 c0 n1 c1 : Nat) (w : World) : Calls Tryz.prog 165 #[.agg #[.slice A0 n0 c0, .slice A1 n1 c1]] w fun e w' => e = .returned (.slice A1 n1 c1) ∧ Bel w w' := by
 go_enter Tryz.func165, Tryz.ntmps165
 go_wp2
 go_ret
 exact ⟨rfl, (belx)⟩
set_option maxHeartbeats 2000000 in
theorem i_PoolOkN {w : World} {A0 A1 : Option Addr} {n0 c0 n1 c1 : Nat} {r0 : List DHeld} {l1 : List Int} (b : Bool) (T : PlOk (r0, l1) → b = true) (F : ¬ PlOk (r0, l1) → b = false)
  (h0 : tHeld.row.R w w.heap.size [.slice A0 n0 c0] r0) (h1 : tIs.R w w.heap.size [.slice A1 n1 c1] l1) :
  Calls Tryz.prog 139 #[.agg #[.slice A0 n0 c0, .slice A1 n1 c1]] w fun e w' => e = .returned (.bool b) ∧ Bel w w' := by
 obtain ⟨e0, hnc0, hcm0⟩ := rowR_len h0
 have hl1 := (slR_ints h1).1
 have hcc := (slR_ints h1).2
 have E0 := Lib.hid e0
 have E1 := Lib.hid hl1.1
 clear e0 h1
 by_cases g0 : n0 ≤ 12
 rotate_left
 ·obtain rfl := F (fun h => by have := h.1.1; have := E0.out; dsimp only at *; omega)
  have q : ¬ (n0 : Int) ≤ 12 := by omega
  clear T F
  go_enter Tryz.func139, Tryz.ntmps139
  go_wp2
  go_ret
  exact ⟨rfl, (belx)⟩
 have q0 : (n0 : Int) ≤ 12 := by omega
 by_cases g1 : n1 ≤ 60
 rotate_left
 ·obtain rfl := F (fun h => by have := h.1.2; have := E1.out; dsimp only at *; omega)
  have q : ¬ (n1 : Int) ≤ 60 := by omega
  clear T F
  go_enter Tryz.func139, Tryz.ntmps139
  go_wp2
  go_ret
  exact ⟨rfl, (belx)⟩
 have q1 : (n1 : Int) ≤ 60 := by omega
 by_cases a0 : ∀ h ∈ r0, HdOk h
 rotate_left
 ·obtain rfl := F (fun h => a0 h.2.1)
  have HA0 := Lib.hid (show (r0.all fun h => decide (HdOk h)) = false from Bool.eq_false_iff.2 fun h => a0 fun x hx => of_decide_eq_true (List.all_eq_true.1 h x hx))
  clear T F a0
  go_enter Tryz.func139, Tryz.ntmps139
  go_wp2_with fail
  refine (i_everyHeld (tHeld.row.reach h0 ?hB) (by omega)).mono ?_
  case hB => exact (belx)
  rintro e w1 ⟨rfl, hb1⟩
  rw [HA0.out]
  have X1 : Box w1 w.heap.size 103 #[.slice A0 n0 c0, .slice A1 n1 c1] := (Box.new _ _ _).below hb1 (by simp)
  have k0 := X1.cell 0
  have k1 := X1.cell 1
  have hB1 : Bel w w1 := bel_trans (belx) hb1
  go_wp2
  go_ret
  exact ⟨rfl, hB1⟩
 have HA0 := Lib.hid (show (r0.all fun h => decide (HdOk h)) = true from List.all_eq_true.2 fun x hx => decide_eq_true (a0 x hx))
 by_cases a1 : ∀ x ∈ l1, Ok x
 rotate_left
 ·obtain rfl := F (fun h => a1 h.2.2.1)
  have HA1 := Lib.hid (show (l1.all fun x => decide (Ok x)) = false from Bool.eq_false_iff.2 fun h => a1 fun x hx => of_decide_eq_true (List.all_eq_true.1 h x hx))
  clear T F a0 a1
  go_enter Tryz.func139, Tryz.ntmps139
  go_wp2_with fail
  refine (i_everyHeld (tHeld.row.reach h0 ?hB) (by omega)).mono ?_
  case hB => exact (belx)
  rintro e w1 ⟨rfl, hb1⟩
  rw [HA0.out]
  have X1 : Box w1 w.heap.size 103 #[.slice A0 n0 c0, .slice A1 n1 c1] := (Box.new _ _ _).below hb1 (by simp)
  have k0 := X1.cell 0
  have k1 := X1.cell 1
  have hB1 : Bel w w1 := bel_trans (belx) hb1
  go_wp2_with fail
  refine (i_everyFOk (reach hl1 hB1) (by omega)).mono ?_
  rintro e w2 ⟨rfl, rfl⟩
  rw [HA1.out]
  go_wp2
  go_ret
  exact ⟨rfl, hB1⟩
 have HA1 := Lib.hid (show (l1.all fun x => decide (Ok x)) = true from List.all_eq_true.2 fun x hx => decide_eq_true (a1 x hx))
 by_cases a2 : l1.Nodup
 rotate_left
 ·obtain rfl := F (fun h => a2 h.2.2.2)
  have HA2 := Lib.hid (decide_eq_false a2)
  clear T F a0 a1 a2
  go_enter Tryz.func139, Tryz.ntmps139
  go_wp2_with fail
  refine (i_everyHeld (tHeld.row.reach h0 ?hB) (by omega)).mono ?_
  case hB => exact (belx)
  rintro e w1 ⟨rfl, hb1⟩
  rw [HA0.out]
  have X1 : Box w1 w.heap.size 103 #[.slice A0 n0 c0, .slice A1 n1 c1] := (Box.new _ _ _).below hb1 (by simp)
  have k0 := X1.cell 0
  have k1 := X1.cell 1
  have hB1 : Bel w w1 := bel_trans (belx) hb1
  go_wp2_with fail
  refine (i_everyFOk (reach hl1 hB1) (by omega)).mono ?_
  rintro e w2 ⟨rfl, rfl⟩
  rw [HA1.out]
  go_wp2_with fail
  refine (i_tags _ _ _ _ _ _ _).mono ?_
  rintro e w2 ⟨rfl, hb2⟩
  have hB2 : Bel w w2 := bel_trans hB1 hb2
  go_wp2_with fail
  refine (i_isDistinct (reach hl1 hB2) (by omega) (by omega) (by omega)).mono ?_
  rintro e w3 ⟨rfl, rfl⟩
  rw [HA2.out]
  go_wp2
  go_ret
  exact ⟨rfl, hB2⟩
 have HA2 := Lib.hid (decide_eq_true a2)
 obtain rfl := T ⟨⟨by have := E0.out; dsimp only; omega, by have := E1.out; dsimp only; omega⟩, a0, a1, a2⟩
 clear T F a0 a1 a2
 go_enter Tryz.func139, Tryz.ntmps139
 go_wp2_with fail
 refine (i_everyHeld (tHeld.row.reach h0 ?hB) (by omega)).mono ?_
 case hB => exact (belx)
 rintro e w1 ⟨rfl, hb1⟩
 rw [HA0.out]
 have X1 : Box w1 w.heap.size 103 #[.slice A0 n0 c0, .slice A1 n1 c1] := (Box.new _ _ _).below hb1 (by simp)
 have k0 := X1.cell 0
 have k1 := X1.cell 1
 have hB1 : Bel w w1 := bel_trans (belx) hb1
 go_wp2_with fail
 refine (i_everyFOk (reach hl1 hB1) (by omega)).mono ?_
 rintro e w2 ⟨rfl, rfl⟩
 rw [HA1.out]
 go_wp2_with fail
 refine (i_tags _ _ _ _ _ _ _).mono ?_
 rintro e w2 ⟨rfl, hb2⟩
 have hB2 : Bel w w2 := bel_trans hB1 hb2
 go_wp2_with fail
 refine (i_isDistinct (reach hl1 hB2) (by omega) (by omega) (by omega)).mono ?_
 rintro e w3 ⟨rfl, rfl⟩
 rw [HA2.out]
 go_wp2
 go_ret
 exact ⟨rfl, hB2⟩
theorem i_PoolOk {w : World} {cs : List Value} {p : DPool} (h : tPool.R w w.heap.size cs p) (hz : szPool p ≤ 1048576) :
  Calls Tryz.prog 139 #[.agg cs.toArray] w fun e w' => e = .returned (.bool (decide (PlOk p))) ∧ Bel w w' := by
 obtain ⟨A0, n0, c0, A1, n1, c1, rfl, -, -, -, hr0, -, -, -, hr1⟩ := openPool h
 exact i_PoolOkN _ (fun hh => decide_eq_true hh) (fun hh => decide_eq_false hh) hr0 hr1
end Go.Proofs.YtkdanlnhdgcplaaGreat
namespace Go.Proofs.YtkdanlnhdgcplaaGreat
set_option linter.unusedVariables false
open Fld
def NdGot (got : List DLetter) (done : List Int) : Prop := (∀ l ∈ got, l.2.length ≤ 160) ∧ (got.map fun l => l.1).Perm done
def NdOk (p : DNode) : Prop := (0 ≤ p.1 ∧ p.1 < 8) ∧ Sec p.2.1 ∧ PlOk p.2.2.1 ∧ DkOk p.2.2.2.1 ∧ NdGot p.2.2.2.2 p.2.2.2.1.2
noncomputable instance (p : DNode) : Decidable (NdOk p) := Classical.propDecidable _
noncomputable instance (l : List DLetter) (d : List Int) : Decidable (NdGot l d) := Classical.propDecidable _
theorem perm_of_sub : ∀ (l d : List Int), l.Nodup → (∀ x ∈ l, x ∈ d) → d.length ≤ l.length → l.Perm d
 | [], d, _, _, h => by
  have : d = [] := List.eq_nil_of_length_eq_zero (by simpa using h)
  rw [this]
 | a :: l, d, hn, hs, hl => by
  have ha := hs a (by simp)
  refine List.Perm.trans (List.Perm.cons a ?_) (List.perm_cons_erase ha).symm
  rw [List.nodup_cons] at hn
  refine perm_of_sub l (d.erase a) hn.2 (fun x hx => ?_) ?_
  ·refine (List.mem_erase_of_ne ?_).2 (hs x (by simp [hx]))
   rintro rfl; exact hn.1 hx
  ·have := List.length_erase_of_mem ha
   simp at hl; omega
theorem asc_pair : ∀ {l : List Int}, Asc l → l.Pairwise (· < ·) := by
 intro l h
 have key : ∀ d i, i + d + 1 < l.length → l.getD i 0 < l.getD (i + d + 1) 0 := by
  intro d
  induction d with
  | zero => intro i hi; exact h i hi
  | succ d ih =>
   intro i hi
   have h1 := ih i (by omega)
   have h2 := h (i + d + 1) (by omega)
   rw [show i + (d + 1) + 1 = i + d + 1 + 1 by omega]
   omega
 rw [List.pairwise_iff_getElem]
 intro i j hi hj hij
 have := key (j - i - 1) i (by omega)
 rw [show i + (j - i - 1) + 1 = j by omega] at this
 rwa [List.getD_eq_getElem?_getD, List.getD_eq_getElem?_getD, List.getElem?_eq_getElem hi, List.getElem?_eq_getElem hj] at this
theorem asc_nodupN {l : List Int} (h : Asc l) : l.Nodup := (asc_pair h).imp fun h => by omega
theorem sorted_iff {l d : List Int} (h : Asc d) : l.mergeSort (fun x y => decide (x ≤ y)) = d ↔ l.Perm d := by
 constructor
 ·rintro rfl; exact (List.mergeSort_perm l _).symm
 ·intro hp
  refine List.Perm.eq_of_pairwise (le := fun x y : Int => x ≤ y) (fun a b _ _ h1 h2 => by omega) ?_ ?_ ((List.mergeSort_perm l _).trans hp)
  ·refine (List.pairwise_mergeSort (le := fun x y : Int => decide (x ≤ y)) (fun a b c h1 h2 => by simp at *; omega) (fun a b => by simp; omega) l).imp fun h => by simpa using h
  ·exact (asc_pair h).imp fun h => by omega
def LtK (got : List DLetter) (done : List Int) (k : Nat) : Prop := (∀ l ∈ got.take k, l.1 ∈ done ∧ l.2.length ≤ 160) ∧ ((got.take k).map fun l => l.1).Nodup
theorem LtK.zero {got : List DLetter} {done : List Int} : LtK got done 0 := ⟨al0, by simp⟩
theorem LtK.succ {got : List DLetter} {done : List Int} {k : Nat} {a : DLetter} (h : LtK got done k) (hl : got[k]? = some a) (h1 : a.1 ∈ done) (h2 : a.2.length ≤ 160) (h3 : ∀ b ∈ got.take k, b.1 ≠ a.1) : LtK got done (k + 1) := by
 refine ⟨alS h.1 hl ⟨h1, h2⟩, ?_⟩
 rw [take_sn hl, List.map_append, List.nodup_append]
 refine ⟨h.2, by simp, fun x hx y hy e => ?_⟩
 simp only [List.map_cons, List.map_nil, List.mem_singleton] at hy
 obtain ⟨b, hb, rfl⟩ := List.mem_map.1 hx
 exact h3 b hb (e.trans hy)
theorem LtK.done {got : List DLetter} {done : List Int} {k : Nat} (h : LtK got done k) (hk : got.length ≤ k) (hl : got.length = done.length) : NdGot got done := by
 have h1 := h.1; have h2 := h.2
 rw [List.take_of_length_le hk] at h1 h2
 refine ⟨fun l hl => (h1 l hl).2, perm_of_sub _ _ h2 (fun x hx => ?_) (by rw [List.length_map]; omega)⟩
 obtain ⟨l, hl, rfl⟩ := List.mem_map.1 hx
 exact (h1 l hl).1
theorem NdGot.len {got : List DLetter} {done : List Int} (h : NdGot got done) : got.length = done.length := by
 have := h.2.length_eq; rwa [List.length_map] at this
theorem NdGot.has {got : List DLetter} {done : List Int} (h : NdGot got done) {l : DLetter} (hl : l ∈ got) : l.1 ∈ done := h.2.mem_iff.1 (List.mem_map.2 ⟨l, hl, rfl⟩)
theorem NdGot.nodup {got : List DLetter} {done : List Int} (h : NdGot got done) (hd : Asc done) : (got.map fun l => l.1).Nodup := h.2.nodup_iff.2 (asc_nodupN hd)
theorem nd_ne {got : List DLetter} {k i : Nat} {a b : DLetter} (h : (got.map fun l => l.1).Nodup) (hk : k < i) (ha : got[i]? = some a) (hb : got[k]? = some b) : b.1 ≠ a.1 := by
 intro e
 rw [List.nodup_iff_pairwise_ne, List.pairwise_iff_getElem] at h
 have hi := (List.getElem?_eq_some_iff.1 ha).1
 refine h k i (by rw [List.length_map]; omega) (by rw [List.length_map]; exact hi) hk ?_
 rw [List.getElem_map, List.getElem_map, (List.getElem?_eq_some_iff.1 ha).2, (List.getElem?_eq_some_iff.1 hb).2, e]
end Go.Proofs.YtkdanlnhdgcplaaGreat
namespace Go.Proofs.YtkdanlnhdgcplaaGreat
set_option linter.unusedVariables false
open Fld
def nsec (seed i : Int) : Int := 1 + (1009 * seed + 7919 * i + 12345) % 1000000000
def secL (seed : Int) : List Int := (List.range 8).map fun i : Nat => nsec seed i
theorem secL_at {seed : Int} {i : Nat} (h : i < 8) : (secL seed).getD i 0 = nsec seed i := by
 simp [secL, List.getD_eq_getElem?_getD, h]
def NdAt (seed : Int) (i : Nat) (a : DNode) : Prop := NdOk a ∧ a.1 = (i : Int) ∧ a.2.1 = nsec seed i
def MlOk (m : DMail) : Prop := (0 ≤ m.1 ∧ m.1 < 8) ∧ m.2.length = 80
def SnOk (s : DSent) : Prop := (0 ≤ s.1 ∧ s.1 ≤ 255) ∧ (0 ≤ s.2.1 ∧ s.2.1 < 8) ∧ s.2.2.length ≤ 160
def GlOk (now : Int) (g : DGlance) : Prop := (0 ≤ g.1 ∧ g.1 ≤ now) ∧ 0 ≤ g.2 ∧ g.2 < 8
instance (m : DMail) : Decidable (MlOk m) := by unfold MlOk; infer_instance
instance (m : DSent) : Decidable (SnOk m) := by unfold SnOk; infer_instance
instance (n : Int) (m : DGlance) : Decidable (GlOk n m) := by unfold GlOk; infer_instance
noncomputable instance (s : Int) (i : Nat) (a : DNode) : Decidable (NdAt s i a) := Classical.propDecidable _
def NdsOk (seed : Int) (l : List DNode) : Prop := l.length = 8 ∧ ∀ i a, l[i]? = some a → NdAt seed i a
noncomputable instance (s : Int) (l : List DNode) : Decidable (NdsOk s l) := Classical.propDecidable _
def NtOk (p : DNet) : Prop :=
 ((0 ≤ p.1 ∧ p.1 ≤ 50000) ∧ (0 ≤ p.2.1 ∧ p.2.1 ≤ 1000) ∧ 0 ≤ p.2.2.1 ∧ p.2.2.1 ≤ 20000) ∧
 (p.2.2.2.2.1.length ≤ 60 ∧ p.2.2.2.2.2.1.length ≤ 20 ∧ p.2.2.2.2.2.2.length ≤ 500) ∧
 NdsOk p.2.1 p.2.2.2.1 ∧ (∀ m ∈ p.2.2.2.2.1, MlOk m) ∧ (∀ g ∈ p.2.2.2.2.2.2, GlOk p.1 g) ∧ (∀ s ∈ p.2.2.2.2.2.1, SnOk s) ∧ (p.2.2.2.2.2.1.map fun s => s.1).Nodup
noncomputable instance (p : DNet) : Decidable (NtOk p) := Classical.propDecidable _
section
variable {α : Type} {P : Nat → α → Prop} {l : List α} {k : Nat} {a : α}
def Ix (P : Nat → α → Prop) (l : List α) (k : Nat) : Prop := ∀ i a, i < k → l[i]? = some a → P i a
theorem Ix.zero : Ix P l 0 := fun i a h => absurd h (by omega)
theorem Ix.succ (h : Ix P l k) (hl : l[k]? = some a) (hP : P k a) : Ix P l (k + 1) := fun i b hi hb => by
 rcases Nat.lt_succ_iff_lt_or_eq.1 hi with h' | rfl
 ·exact h i b h' hb
 ·rw [hl] at hb; injection hb with hb; subst hb; exact hP
theorem Ix.all (h : Ix P l k) (hk : l.length ≤ k) : ∀ i a, l[i]? = some a → P i a := fun i a ha => h i a (by have := (List.getElem?_eq_some_iff.1 ha).1; omega) ha
end
def sAt (l : List DSent) (x : Int) : Int := match l.findIdx? (fun s => s.1 == x) with
 | some i => (i : Int)
 | none => -1
theorem sAt_hit {l : List DSent} {x : Int} {j : Nat} {a : DSent} (hn : ∀ c ∈ l.take j, c.1 ≠ x) (ha : l[j]? = some a) (hx : a.1 = x) : sAt l x = j := by
 have e : l.findIdx? (fun s => s.1 == x) = some j := by
  have hj := (List.getElem?_eq_some_iff.1 ha)
  obtain ⟨hj, rfl⟩ := hj
  rw [List.findIdx?_eq_some_iff_getElem]
  refine ⟨hj, by simp [hx], fun i hi => ?_⟩
  have hi' : i < l.length := by omega
  have hm : l[i] ∈ l.take j := List.mem_take_iff_getElem.2 ⟨i, by omega, rfl⟩
  simpa using hn _ hm
 unfold sAt; rw [e]
theorem sAt_miss {l : List DSent} {x : Int} (hn : ∀ c ∈ l, c.1 ≠ x) : sAt l x = -1 := by
 have e : l.findIdx? (fun s => s.1 == x) = none := by rw [List.findIdx?_eq_none_iff]; intro c hc; simpa using hn c hc
 unfold sAt; rw [e]
theorem sAt_cases (l : List DSent) (x : Int) : (∃ (j : Nat) (a : DSent), l[j]? = some a ∧ a.1 = x ∧ sAt l x = (j : Int) ∧ ∀ c ∈ l.take j, c.1 ≠ x) ∨ ((∀ c ∈ l, c.1 ≠ x) ∧ sAt l x = -1) := by
 by_cases h : ∀ c ∈ l, c.1 ≠ x
 ·exact .inr ⟨h, sAt_miss h⟩
 ·left
  cases e : l.findIdx? (fun s => s.1 == x) with
  | none => rw [List.findIdx?_eq_none_iff] at e; exact absurd (fun c hc => by simpa using e c hc) h
  | some j =>
   obtain ⟨hj, h1, h2⟩ := List.findIdx?_eq_some_iff_getElem.1 e
   have h3 : ∀ c ∈ l.take j, c.1 ≠ x := fun c hc => by
    obtain ⟨i, hi, rfl⟩ := List.mem_take_iff_getElem.1 hc
    simpa using h2 i (by omega)
   exact ⟨j, l[j], List.getElem?_eq_getElem hj, by simpa using h1, sAt_hit h3 (List.getElem?_eq_getElem hj) (by simpa using h1), h3⟩
theorem sAt_ge {l : List DSent} {x : Int} : 0 ≤ sAt l x ↔ x ∈ l.map fun s => s.1 := by
 rcases sAt_cases l x with ⟨j, a, h1, h2, h3, _⟩ | ⟨h1, h2⟩
 ·rw [h3]; exact ⟨fun _ => List.mem_map.2 ⟨a, List.mem_of_getElem? h1, h2⟩, fun _ => by omega⟩
 ·rw [h2]; exact ⟨fun h => by omega, fun h => by obtain ⟨c, hc, e⟩ := List.mem_map.1 h; exact absurd e (h1 c hc)⟩
def SnK (l : List DSent) (k : Nat) : Prop := (∀ s ∈ l.take k, SnOk s) ∧ ((l.take k).map fun s => s.1).Nodup
theorem SnK.zero {l : List DSent} : SnK l 0 := ⟨al0, by simp⟩
theorem SnK.succ {l : List DSent} {k : Nat} {a : DSent} (h : SnK l k) (hl : l[k]? = some a) (h1 : SnOk a) (h2 : a.1 ∉ (l.take k).map fun s => s.1) : SnK l (k + 1) := by
 refine ⟨alS h.1 hl h1, ?_⟩
 rw [take_sn hl, List.map_append, List.nodup_append]
 refine ⟨h.2, by simp, fun x hx y hy e => ?_⟩
 simp only [List.map_cons, List.map_nil, List.mem_singleton] at hy
 subst hy; subst e
 exact h2 hx
theorem SnK.all {l : List DSent} {k : Nat} (h : SnK l k) (hk : l.length ≤ k) : (∀ s ∈ l, SnOk s) ∧ (l.map fun s => s.1).Nodup := by
 have h1 := h.1; have h2 := h.2
 rw [List.take_of_length_le hk] at h1 h2
 exact ⟨h1, h2⟩
theorem sn_dup {l : List DSent} {k : Nat} {a : DSent} (hl : l[k]? = some a) (h : a.1 ∈ (l.take k).map fun s => s.1) : ¬ (l.map fun s => s.1).Nodup := fun hn => by
 have h2 : ((l.take (k + 1)).map fun s => s.1).Nodup := hn.sublist ((List.take_sublist _ _).map _)
 rw [take_sn hl, List.map_append, List.nodup_append] at h2
 exact h2.2.2 _ h _ (by simp) rfl
end Go.Proofs.YtkdanlnhdgcplaaGreat
namespace Go.Proofs.YtkdanlnhdgcplaaGreat
set_option linter.unusedVariables false
def zNet : DNet := (0, 0, 0, [], [], [], [])
def fTr (d : DNet) (m : DMail) : DNet := (d.1, d.2.1, d.2.2.1, d.2.2.2.1, d.2.2.2.2.1 ++ [m], d.2.2.2.2.2.1, d.2.2.2.2.2.2 ++ [(d.1, m.1)])
def Room (d : DNet) : Prop := d.2.2.2.2.1.length + 1 ≤ 60 ∧ d.2.2.2.2.2.2.length + 1 ≤ 500
instance (d : DNet) : Decidable (Room d) := by unfold Room; infer_instance
noncomputable def fFg (p : DNet) (m : DMail) : DNet := if NtOk p ∧ MlOk m then (if Room p then fTr p m else p) else zNet
noncomputable def fFgB (p : DNet) (m : DMail) : Bool := decide (NtOk p ∧ MlOk m ∧ Room p)
end Go.Proofs.YtkdanlnhdgcplaaGreat
namespace Go.Proofs.YtkdanlnhdgcplaaGreat
set_option maxRecDepth 100000
set_option linter.unusedVariables false
set_option linter.unusedSimpArgs false
open Go.ChangeShapes Go.WideShapes Go.ChangeAt Go.RowKit
set_option maxHeartbeats 400000 in
theorem o_toGlance {w : World} {cs : List Value} {p : DGlance} (h : tGlance.R w w.heap.size cs p) (hn : szGlance p ≤ 1048576) :
  Calls Tryz.prog 57 #[.agg cs.toArray] w fun e w' => ∃ cs' F, e = .returned (.agg cs'.toArray) ∧ tGlance.O w' cs' p F ∧ New w.heap.size F ∧ Bel w w' := by
 obtain ⟨rfl, hi0, hi1⟩ := openGlance h
 obtain ⟨x0, x1⟩ := p
 try dsimp only [szGlance] at *
 go_enter Tryz.func57, Tryz.ntmps57
 go_wp2
 have R0 : Box (((w.alloc (.cells #[.int .i64 x0, .int .i64 x1] 119)).alloc (.cells #[.int .i64 x0, .int .i64 x1] 113)).alloc (.cells #[.int .i64 x0, .int .i64 x1] 113)) (w.heap.size + 1) 113 #[.int .i64 x0, .int .i64 x1] := Box.alloc (by simpa using Box.new (w.alloc _) 113 #[.int .i64 x0, .int .i64 x1]) _
 have e0 := R0.cell 0
 have e1 := R0.cell 1
 refine bodyPost_ret (v := .agg #[.int .i64 x0, .int .i64 x1]) (by simp [results, Tryz.results57, go_sem, e0, e1]) rfl ⟨[.int .i64 x0, .int .i64 x1], [], rfl, (by obtain ⟨F, hF, hFe⟩ := makeOGlance (p := (x0, x1)) hi0 hi1; subst hFe; exact hF), New.nil _, (belx)⟩
theorem o_eqGlance {w : World} {cs cs' : List Value} {p : DGlance} (h : tGlance.R w w.heap.size cs p) (h' : tGlance.R w w.heap.size cs' p) :
  Calls Tryz.prog 75 #[.agg cs.toArray, .agg cs'.toArray] w fun e w' => e = .returned (.bool true) ∧ Bel w w' := by
 obtain ⟨rfl, hi0, hi1⟩ := openGlance h
 obtain ⟨rfl, hi0', hi1'⟩ := openGlance h'
 obtain ⟨x0, x1⟩ := p
 try dsimp only at *
 have q0 : (x0 != x0) = false := by simp
 have q1 : (x1 != x1) = false := by simp
 go_enter Tryz.func75, Tryz.ntmps75
 go_wp2
 go_ret
 exact ⟨rfl, (belx)⟩
end Go.Proofs.YtkdanlnhdgcplaaGreat
namespace Go.Proofs.YtkdanlnhdgcplaaGreat
set_option maxRecDepth 100000
set_option linter.unusedVariables false
set_option linter.unusedSimpArgs false
open Go.ChangeShapes Go.WideShapes Go.ChangeAt Go.RowKit
theorem o_szGlanceS_t {w : World} {n c : Nat} {A : Option Addr} {l : List DGlance} {k : Int} (h : tGlance.row.R w w.heap.size [.slice A n c] l) (h1 : 0 ≤ k) (h2 : k ≤ 1048576) (h3 : (rsz szGlance l : Int) ≤ k) :
  Calls Tryz.prog 20 #[.slice A n c, .int .i64 k] w fun e w' => e = .returned (.int .i64 (k - rsz szGlance l)) ∧ Bel w w' := by
 obtain ⟨hln, hnc, hcm⟩ := rowR_len h
 obtain ⟨s, hs⟩ : ∃ s, rsum szGlance l = s := ⟨_, rfl⟩
 have hz : rsz szGlance l = n + s := by unfold rsz; rw [hln, hs]
 rw [hz] at h3 ⊢
 have HLN := Lib.hid hln
 have HS := Lib.hid hs
 clear hz hln hs
 have d : decide (k - (n : Int) < 0) = false := by simp; omega
 go_enter Tryz.func20, Tryz.ntmps20
 go_wp2_with fail
 have hz0 : s = 0 := by
  have hh : ∀ l : List DGlance, rsum szGlance l = 0 := fun l => by induction l with | nil => rfl | cons a l ih => simp only [rsum, szGlance, ih]
  rw [← HS.out]; exact hh l
 go_ret
 exact ⟨ret_int (by omega), (belx)⟩
theorem o_szGlanceS_f {w : World} {n c : Nat} {A : Option Addr} {l : List DGlance} {k : Int} (h : tGlance.row.R w w.heap.size [.slice A n c] l) (h1 : 0 ≤ k) (h2 : k ≤ 1048576) (h3 : ¬ (rsz szGlance l : Int) ≤ k) :
  Calls Tryz.prog 20 #[.slice A n c, .int .i64 k] w fun e w' => e = .returned (.int .i64 (-1)) ∧ Bel w w' := by
 obtain ⟨hln, hnc, hcm⟩ := rowR_len h
 obtain ⟨s, hs⟩ : ∃ s, rsum szGlance l = s := ⟨_, rfl⟩
 have hz : rsz szGlance l = n + s := by unfold rsz; rw [hln, hs]
 rw [hz] at h3
 have HLN := Lib.hid hln
 have HS := Lib.hid hs
 clear hz hln hs
 by_cases hnk : k < (n : Int)
 ·have d : decide (k - (n : Int) < 0) = true := by simp; omega
  go_enter Tryz.func20, Tryz.ntmps20
  go_wp2
  go_ret
  exact ⟨rfl, (belx)⟩
 have d : decide (k - (n : Int) < 0) = false := by simp; omega
 go_enter Tryz.func20, Tryz.ntmps20
 go_wp2_with fail
 have hz0 : s = 0 := by
  have hh : ∀ l : List DGlance, rsum szGlance l = 0 := fun l => by induction l with | nil => rfl | cons a l ih => simp only [rsum, szGlance, ih]
  rw [← HS.out]; exact hh l
 exact absurd h3 (by omega)
theorem info_Glance : (Tryz.prog.info? 113).map (fun i => (i.zero, i.size, i.bytes)) = some (some (.agg #[.int .i64 0, .int .i64 0]), 2, 16) := by kernel_rfl
set_option maxHeartbeats 800000 in
theorem o_toGlanceS {w : World} {n c : Nat} {A : Option Addr} {l : List DGlance} (h : tGlance.row.R w w.heap.size [.slice A n c] l) (hz : rsz szGlance l ≤ 1048576) :
  Calls Tryz.prog 27 #[.slice A n c] w fun e w' => ∃ A' c' F, e = .returned (.slice A' l.length c') ∧ tGlance.row.O w' [.slice A' l.length c'] l F ∧ New w.heap.size F ∧ Bel w w' := by
 obtain ⟨i0, hi0, hz0, hz1, hz2⟩ := info_parts info_Glance
 obtain ⟨hln, hnc, hcm⟩ := rowR_len h
 have hn : n ≤ 1048576 := by have := rsz_le (s := szGlance) l; omega
 have HLN := Lib.hid hln
 have HZ := Lib.hid hz
 clear hln hz
 go_enter Tryz.func27, Tryz.ntmps27
 go_wp2_with (at_make; refine wpList_mkS _ rfl (.tmp 6) (.tmp 6) _ rfl 113 i0 _ 2 Tryz.underlying33 hi0 hz0 hz1 n rfl rfl (by rw [hz2]; omega) (by simp only [maxLen]; omega) ?_; intro w1 cur hcur hsz hB1 hgr)
 go_loopw [4] (fun i wr => ∃ j : Nat, j ≤ n ∧ i = .int .i64 j ∧ Bel w wr ∧ ∃ F, Fill tGlance wr w.heap.size 113 n (l.take j) F ∧ New (w.heap.size + 1) F) (fun i _ => n - (RowKit.intOf i).toNat)
 case atStart => exact ⟨0, by omega, rfl, hB1, [], Fill.start hcur hsz, New.nil _⟩
 case round =>
  obtain ⟨j, hj, rfl, hB, F, hf, hN⟩ := hrel
  by_cases hlt : j < n
  ·obtain ⟨a, b, off, es, hl, rfl, hb, hes, hR⟩ := rowR_at (K := 2) h hlt rfl
   have HT := Lib.hid (take_sn hl)
   have HLT := Lib.hid (show (l.take j).length = j from by rw [List.length_take, HLN.out]; omega)
   have hsa : szGlance a ≤ 1048576 := by have := rsz_step (s := szGlance) hl; have := HZ.out; omega
   obtain ⟨rfl, hi0, hi1⟩ := openGlance hR
   have e0 : wr.cell? ⟨b, off + j * 2, none⟩ = some (.int .i64 (a.1)) := cell_at hB hb (hes 0 (by omega))
   have e1 : wr.cell? ⟨b, off + j * 2 + 1, none⟩ = some (.int .i64 (a.2)) := cell_at hB hb (hes 1 (by omega))
   clear hes
   have hgs := hf.size
   go_wp2_with fail
   refine (o_toGlance (tGlance.reach hR ?hB) hsa).mono ?_
   case hB => exact (belx)
   rintro e w2 ⟨cs2, F2, rfl, hO2, hN2, hb2⟩
   obtain ⟨rfl, hFe, _, _⟩ := openOGlance hO2
   clear hFe
   have hf2 := hf.below hb2
   have hsz2 := hb2.size
   have hP := Fill.push (K := 2) hf2 (by rw [HLT.out]; exact hlt) hO2 (hN.not (by omega)) (hN2.not hgs) rfl
   rw [HLT.out, ← HT.out] at hP
   have hM : New (w.heap.size + 1) (F ++ F2) := New.app hN hN2 (by omega) hf.lt
   obtain ⟨u0, k0⟩ := hf2.cell (K := 2) (j := 0) (by rw [HLT.out]; exact hlt) rfl (by omega)
   rw [HLT.out] at k0
   replace k0 : w2.cell? ⟨w.heap.size, j * 2, none⟩ = some u0 := k0
   have f0 := hf2.frozen (j * 2)
   obtain ⟨u1, k1⟩ := hf2.cell (K := 2) (j := 1) (by rw [HLT.out]; exact hlt) rfl (by omega)
   rw [HLT.out] at k1
   replace k1 : w2.cell? ⟨w.heap.size, j * 2 + 1, none⟩ = some u1 := k1
   have f1 := hf2.frozen (j * 2 + 1)
   go_wp2
   go_roundw
   case rel => exact ⟨j + 1, by omega, by go_num, below_puts (bel_trans hB hb2) (Nat.le_refl _) (off := j * 2) (vs := [.int .i64 (a.1), .int .i64 (a.2)]), _, hP, hM⟩
   case measure => simp [RowKit.intOf]; omega
  ·obtain rfl : j = n := by omega
   have HA := Lib.hid (show l.take j = l from by rw [List.take_of_length_le (Nat.le_of_eq HLN.out)])
   rw [HA.out] at hf
   obtain ⟨F2, hF2, hor⟩ := hf.done HLN.out (by omega)
   have HN := Lib.hid HLN.out
   go_wp2
   go_ret
   refine ⟨some ⟨w.heap.size, 0, none⟩, j, F2, ?_, hF2, hN.cons hor, hB⟩
   rw [HN.out]
   rfl
set_option maxHeartbeats 800000 in
theorem o_eqGlanceS {w : World} {n m c d : Nat} {A A' : Option Addr} {l : List DGlance} (h : tGlance.row.R w w.heap.size [.slice A n c] l) (h' : tGlance.row.R w w.heap.size [.slice A' m d] l) :
  Calls Tryz.prog 35 #[.slice A n c, .slice A' m d] w fun e w' => e = .returned (.bool true) ∧ Bel w w' := by
 obtain ⟨hln, hnc, hcm⟩ := rowR_len h
 obtain ⟨hln', hnc', hcm'⟩ := rowR_len h'
 obtain rfl : m = n := by omega
 have HLN := Lib.hid hln
 clear hln hln'
 go_enter Tryz.func35, Tryz.ntmps35
 go_wp2_with fail
 go_loopw [5] (fun i wr => ∃ j : Nat, j ≤ m ∧ i = .int .i64 j ∧ Bel w wr) (fun i _ => m - (RowKit.intOf i).toNat)
 case atStart => exact ⟨0, by omega, rfl, (belx)⟩
 case round =>
  obtain ⟨j, hj, rfl, hB⟩ := hrel
  by_cases hlt : j < m
  ·obtain ⟨a, b, off, es, hl, rfl, hb, hes, hR⟩ := rowR_at (K := 2) h hlt rfl
   obtain ⟨a', b', off', es', hl', rfl, hb', hes', hR'⟩ := rowR_at (K := 2) h' hlt rfl
   obtain rfl : a = a' := by rw [hl] at hl'; exact Option.some.inj hl'
   clear hl hl'
   obtain ⟨rfl, hi0, hi1⟩ := openGlance hR
   obtain ⟨rfl, hi0', hi1'⟩ := openGlance hR'
   have e0 : wr.cell? ⟨b, off + j * 2, none⟩ = some (.int .i64 (a.1)) := cell_at hB hb (hes 0 (by omega))
   have e1 : wr.cell? ⟨b, off + j * 2 + 1, none⟩ = some (.int .i64 (a.2)) := cell_at hB hb (hes 1 (by omega))
   have e0' : wr.cell? ⟨b', off' + j * 2, none⟩ = some (.int .i64 (a.1)) := cell_at hB hb' (hes' 0 (by omega))
   have e1' : wr.cell? ⟨b', off' + j * 2 + 1, none⟩ = some (.int .i64 (a.2)) := cell_at hB hb' (hes' 1 (by omega))
   clear hes hes'
   go_wp2_with fail
   go_region_held3 (fun w' => w'.cell? ⟨b, off + j * 2, none⟩ = some (.int .i64 (a.1)) ∧ w'.cell? ⟨b, off + j * 2 + 1, none⟩ = some (.int .i64 (a.2)) ∧ w'.cell? ⟨b', off' + j * 2, none⟩ = some (.int .i64 (a.1)) ∧ w'.cell? ⟨b', off' + j * 2 + 1, none⟩ = some (.int .i64 (a.2))) (first | (exact ⟨e0, e1, e0', e1'⟩) | (exact ⟨cell_bel hs2 e0, cell_bel hs2 e1, cell_bel hs2 e0', cell_bel hs2 e1'⟩) | go_keep)
    ((go_at_call 75; refine (o_eqGlance (tGlance.reach hR (belx)) (tGlance.reach hR' (belx))).mono ?_; rintro e w2 ⟨rfl, hb2⟩; have hs2 : Bel wr w2 := bel_trans (belx) hb2))
   go_wp2
   go_roundw
   case rel => exact ⟨j + 1, by omega, by go_num, bel_trans hB hs2⟩
   case measure => simp [RowKit.intOf]; omega
  ·obtain rfl : j = m := by omega
   go_wp2
   go_ret
   exact ⟨rfl, hB⟩
set_option maxHeartbeats 1000000 in
theorem o_markGlanceS {w : World} {n c : Nat} {A : Option Addr} {l : List DGlance} {F : List Nat} (k : Int) (h : tGlance.row.O w [.slice A n c] l F) (hF : F.Nodup) (h0 : 0 ≤ k) (hk : k + rsum rcGlance l ≤ 4611686018427387904) :
  Calls Tryz.prog 39 #[.slice A n c, .int .i64 k] w fun e w' => e = .returned (.int .i64 (k + rsum rcGlance l)) ∧ tGlance.row.O w' [.slice A n c] (rmk rcGlance rmGlance k l) F ∧ Only F w w' := by
 obtain ⟨_, _, hsh, hnc, hcm⟩ := rowO_shape h
 have hln : l.length = n := by injection hsh with _ e2 _; exact e2.symm
 have hnc2 : n ≤ 9223372036854775807 := by omega
 clear hsh hnc hcm
 obtain ⟨s, hs⟩ : ∃ s, rsum rcGlance l = s := ⟨_, rfl⟩
 rw [hs] at hk ⊢
 have HLN := Lib.hid hln
 have HS := Lib.hid hs
 clear hln hs
 go_enter Tryz.func39, Tryz.ntmps39
 go_wp2
 go_loopw [1, 5] (fun x i wr => ∃ j : Nat, j ≤ n ∧ x = .int .i64 (k + (rsum rcGlance (l.take j) : Nat)) ∧ i = .int .i64 j ∧ tGlance.row.O wr [.slice A n c] (rpart rcGlance rmGlance k l j) F ∧ Only F w wr) (fun _ i _ => n - (RowKit.intOf i).toNat)
 case atStart => exact ⟨0, by omega, by rw [rsum_zero]; go_num, rfl, by rw [rpart_zero]; exact h, Only.refl _ _⟩
 case round =>
  obtain ⟨j, hj, rfl, rfl, hO, hG⟩ := hrel
  by_cases hlt : j < n
  ·obtain ⟨a, hl⟩ : ∃ a, l[j]? = some a := ⟨_, List.getElem?_eq_getElem (by rw [HLN.out]; exact hlt)⟩
   have HP := Lib.hid (rpart_set (c := rcGlance) (m := rmGlance) (k := k) hl)
   have hat := rpart_at (c := rcGlance) (m := rmGlance) (k := k) hl
   have hsa := rsum_at (c := rcGlance) hl
   have hsn := rsum_sn (c := rcGlance) hl
   rw [HS.out] at hsa
   obtain ⟨q, hq⟩ : ∃ q, rsum rcGlance (l.take j) = q := ⟨_, rfl⟩
   obtain ⟨q', hq'⟩ : ∃ q, rsum rcGlance (l.take (j + 1)) = q := ⟨_, rfl⟩
   rw [hq] at hsa hsn
   rw [hq'] at hsn
   rw [hq]
   have HQ := Lib.hid hq'
   have HQ2 := Lib.hid hq
   clear hq hq'
   dsimp only [rcGlance] at hsa hsn
   obtain ⟨g, off, cur, et, es, Fi, rfl, hcur, hes, hOe, hgF, hgi, hFi, hnd, hback⟩ := rowO_at (K := 2) hO hF hat rfl
   obtain ⟨rfl, hFe, hi0, hi1⟩ := openOGlance hOe
   subst Fi
   obtain ⟨x0, x1⟩ := a
   dsimp only at *
   have e0 : wr.cell? ⟨g, off + j * 2, none⟩ = some (.int .i64 x0) := by rw [Box.cell (t := et) hcur]; exact hes 0 (by omega)
   have f0 : wr.frozen? ⟨g, off + j * 2, none⟩ = false := Box.frozen (t := et) hcur _
   have e1 : wr.cell? ⟨g, off + j * 2 + 1, none⟩ = some (.int .i64 x1) := by rw [Box.cell (t := et) hcur]; exact hes 1 (by omega)
   have f1 : wr.frozen? ⟨g, off + j * 2 + 1, none⟩ = false := Box.frozen (t := et) hcur _
   obtain ⟨cur1, hX0, hcs, hun, hval⟩ := puts_heap (off := off + j * 2) (vs := [.int .i64 (k + (q : Int)), .int .i64 (k + (q : Int) + 1)]) hcur
   dsimp only [List.length_cons, List.length_nil] at hun hval
   have hcz : ∀ i, i < 2 → off + j * 2 + i < cur.size := fun i hi => by
    by_cases hh : off + j * 2 + i < cur.size
    ·exact hh
    ·have := hes i hi; rw [Array.getElem?_eq_none (by omega)] at this; rcases (by omega : i = 0 ∨ i = 1) with rfl | rfl <;> simp at this
   have hgz : g < (puts wr g (off + j * 2) [.int .i64 (k + (q : Int)), .int .i64 (k + (q : Int) + 1)]).heap.size := by rw [size_puts]; exact Box.size (t := et) hcur
   have OG0 : Only F w (puts wr g (off + j * 2) [.int .i64 (k + (q : Int)), .int .i64 (k + (q : Int) + 1)]) := only_puts hG hgF
   have hk0 : ∀ f, f ≠ g → (puts wr g (off + j * 2) [.int .i64 (k + (q : Int)), .int .i64 (k + (q : Int) + 1)]).heap[f]? = wr.heap[f]? := fun f hf => puts_far hf
   have hzz : (puts wr g (off + j * 2) [.int .i64 (k + (q : Int)), .int .i64 (k + (q : Int) + 1)]).heap.size = wr.heap.size := size_puts
   obtain ⟨W0, hW0⟩ : ∃ W0, puts wr g (off + j * 2) [.int .i64 (k + (q : Int)), .int .i64 (k + (q : Int) + 1)] = W0 := ⟨_, rfl⟩
   rw [hW0] at hX0 hgz OG0 hk0 hzz
   have Z0 : wr.heap.size ≤ W0.heap.size := Nat.le_of_eq hzz.symm
   have hX : W0.heap[g]? = some (.cells cur1 et (0, 0)) := hX0
   have HW0 := Lib.hid hW0
   go_wp2_with fail
   have wf0 : (Lit.int .i64 (k + (q : Int))).wf = true := WalkArith.wf_i64 (by omega)
   have wf1 : (Lit.int .i64 (k + (q : Int) + 1)).wf = true := WalkArith.wf_i64 (by omega)
   obtain ⟨F2, hF2, hF2e⟩ := makeOGlance (w := W0) (p := rmGlance (k + (q : Int)) (x0, x1)) wf0 wf1
   subst hF2e
   have hfin := hback W0 cur1 [.int .i64 (k + (q : Int)), .int .i64 (k + (q : Int) + 1)] (rmGlance (k + (q : Int)) (x0, x1)) hX (by
    intro i hi
    rcases (by omega : i = 0 ∨ i = 1) with rfl | rfl
    ·exact hval 0 (by omega) (hcz 0 (by omega))
    ·exact hval 1 (by omega) (hcz 1 (by omega))) (by
    intro q2 hq2
    refine hun q2 ?_
    rcases Nat.lt_or_ge q2 (off + j * 2) with h1 | h1
    ·exact .inl h1
    ·rcases Nat.lt_or_ge q2 (off + j * 2 + 2) with h2 | h2
     ·exact absurd (by omega) (hq2 (q2 - (off + j * 2)) (by omega))
     ·exact .inr (by omega)) hF2 (by
    intro f hf h1 h2
    skip
    have hfz : f < wr.heap.size := (tGlance.row).lt hO f hf
    exact (hk0 f h1))
   have HPq := HP.out
   rw [HQ2.out] at HPq
   rw [HPq] at hfin
   clear HPq
   have hWe : _ = W0 := HW0.out
   go_roundw
   case rel => exact ⟨j + 1, by omega, by rw [HQ.out]; go_num, by go_num, by rw [← HW0.out] at hfin; exact hfin, by rw [← HW0.out] at OG0; exact OG0⟩
   case measure => simp [RowKit.intOf]; omega
  ·obtain rfl : j = n := by omega
   have HA := Lib.hid (show rsum rcGlance (l.take j) = s from by rw [rsum_all (Nat.le_of_eq HLN.out)]; exact HS.out)
   rw [HA.out]
   rw [rpart_all (Nat.le_of_eq HLN.out)] at hO
   go_wp2
   go_ret
   exact ⟨rfl, hO, hG⟩
set_option maxHeartbeats 1000000 in
theorem o_heldGlanceS {w : World} {n c : Nat} {A : Option Addr} {l : List DGlance} (k : Int) (h : tGlance.row.R w w.heap.size [.slice A n c] (rmk rcGlance rmGlance k l)) (h0 : 0 ≤ k) (hk : k + rsum rcGlance l ≤ 4611686018427387904) :
  Calls Tryz.prog 43 #[.slice A n c, .int .i64 k] w fun e w' => e = .returned (.int .i64 (k + rsum rcGlance l)) ∧ Bel w w' := by
 obtain ⟨hln, hnc, hcm⟩ := rowR_len h
 rw [rmk_len] at hln
 obtain ⟨s, hs⟩ : ∃ s, rsum rcGlance l = s := ⟨_, rfl⟩
 rw [hs] at hk ⊢
 have HLN := Lib.hid hln
 have HS := Lib.hid hs
 clear hln hs
 go_enter Tryz.func43, Tryz.ntmps43
 go_wp2
 go_loopw [1, 5] (fun x i wr => ∃ j : Nat, j ≤ n ∧ x = .int .i64 (k + (rsum rcGlance (l.take j) : Nat)) ∧ i = .int .i64 j ∧ Bel w wr) (fun _ i _ => n - (RowKit.intOf i).toNat)
 case atStart => exact ⟨0, by omega, by rw [rsum_zero]; go_num, rfl, (belx)⟩
 case round =>
  obtain ⟨j, hj, rfl, rfl, hB⟩ := hrel
  by_cases hlt : j < n
  ·obtain ⟨a, hl⟩ : ∃ a, l[j]? = some a := ⟨_, List.getElem?_eq_getElem (by rw [HLN.out]; exact hlt)⟩
   obtain ⟨a2, b, off, es, hl2, rfl, hb, hes, hR⟩ := rowR_at (K := 2) h hlt rfl
   have hat := rmk_at (c := rcGlance) (m := rmGlance) (k := k) hl
   obtain rfl : _ = a2 := Option.some.inj (hat.symm.trans hl2)
   clear hl2 hat
   have hsa := rsum_at (c := rcGlance) hl
   have hsn := rsum_sn (c := rcGlance) hl
   rw [HS.out] at hsa
   obtain ⟨q, hq⟩ : ∃ q, rsum rcGlance (l.take j) = q := ⟨_, rfl⟩
   obtain ⟨q', hq'⟩ : ∃ q, rsum rcGlance (l.take (j + 1)) = q := ⟨_, rfl⟩
   rw [hq] at hsa hsn
   rw [hq'] at hsn
   rw [hq] at hR ⊢
   have HQ := Lib.hid hq'
   clear hq hq'
   dsimp only [rcGlance] at hsa hsn
   obtain ⟨rfl, hi0, hi1⟩ := openGlance hR
   obtain ⟨x0, x1⟩ := a
   dsimp only [rmGlance] at *
   have q0 : ((k + (q : Int) : Int) != k + (q : Int)) = false := by simp
   have q1 : ((k + (q : Int) + 1 : Int) != k + (q : Int) + 1) = false := by simp
   have e0 : wr.cell? ⟨b, off + j * 2, none⟩ = some (.int .i64 (k + (q : Int))) := cell_at hB hb (hes 0 (by omega))
   have e1 : wr.cell? ⟨b, off + j * 2 + 1, none⟩ = some (.int .i64 (k + (q : Int) + 1)) := cell_at hB hb (hes 1 (by omega))
   go_wp2
   go_roundw
   case rel => exact ⟨j + 1, by omega, by rw [HQ.out]; go_num, by go_num, hB⟩
   case measure => simp [RowKit.intOf]; omega
  ·obtain rfl : j = n := by omega
   have HA := Lib.hid (show rsum rcGlance (l.take j) = s from by rw [rsum_all (Nat.le_of_eq HLN.out)]; exact HS.out)
   rw [HA.out]
   go_wp2
   go_ret
   exact ⟨rfl, hB⟩
end Go.Proofs.YtkdanlnhdgcplaaGreat
namespace Go.Proofs.YtkdanlnhdgcplaaGreat
set_option maxRecDepth 100000
set_option linter.unusedVariables false
set_option linter.unusedSimpArgs false
open Go.ChangeShapes Go.WideShapes Go.ChangeAt Go.RowKit
theorem o_szCell_t {w : World} {cs : List Value} {l0 : DCell} {k : Int} (h : tCell.R w w.heap.size cs l0) (h1 : 0 ≤ k) (h2 : k ≤ 1048576) (h3 : (szCell l0 : Int) ≤ k) :
  Calls Tryz.prog 89 #[.agg cs.toArray, .int .i64 k] w fun e w' => e = .returned (.int .i64 (k - szCell l0)) ∧ Bel w w' := by
 obtain ⟨A0, n0, c0, rfl, ha0, hb0, hl0, hr0⟩ := openCell h
 try dsimp only [szCell] at *
 subst hl0
 have d0 : decide (k - ((l0.length : Nat) : Int) < 0) = false := by simp; omega
 go_enter Tryz.func89, Tryz.ntmps89
 go_wp2_with fail
 refine (o_szByteS_t (tBy.reach hr0 ?hB) (by omega) (by omega) (by omega)).mono ?_
 case hB => exact (belx)
 rintro e w1 ⟨rfl, hb1⟩
 have hB1 : Bel w w1 := bel_trans (belx) hb1
 have P1 : Box w1 w.heap.size 92 #[.slice A0 l0.length c0] := (Box.new _ _ _).below hb1 lez
 go_wp2
 go_ret
 exact ⟨ret_int (by omega), hB1⟩
theorem o_szCell_f {w : World} {cs : List Value} {l0 : DCell} {k : Int} (h : tCell.R w w.heap.size cs l0) (h1 : 0 ≤ k) (h2 : k ≤ 1048576) (h3 : ¬ (szCell l0 : Int) ≤ k) :
  Calls Tryz.prog 89 #[.agg cs.toArray, .int .i64 k] w fun e w' => e = .returned (.int .i64 (-1)) ∧ Bel w w' := by
 obtain ⟨A0, n0, c0, rfl, ha0, hb0, hl0, hr0⟩ := openCell h
 try dsimp only [szCell] at *
 subst hl0
 go_enter Tryz.func89, Tryz.ntmps89
 go_wp2_with fail
 refine (o_szByteS_f (tBy.reach hr0 ?hB) (by omega) (by omega) (by omega)).mono ?_
 case hB => exact (belx)
 rintro e w1 ⟨rfl, hb1⟩
 have hB1 : Bel w w1 := bel_trans (belx) hb1
 have P1 : Box w1 w.heap.size 92 #[.slice A0 l0.length c0] := (Box.new _ _ _).below hb1 lez
 go_wp2
 go_ret
 exact ⟨rfl, hB1⟩
set_option maxHeartbeats 400000 in
theorem o_toCell {w : World} {cs : List Value} {l0 : DCell} (h : tCell.R w w.heap.size cs l0) (hn : szCell l0 ≤ 1048576) :
  Calls Tryz.prog 101 #[.agg cs.toArray] w fun e w' => ∃ cs' F, e = .returned (.agg cs'.toArray) ∧ tCell.O w' cs' l0 F ∧ New w.heap.size F ∧ Bel w w' := by
 obtain ⟨A0, n0, c0, rfl, ha0, hb0, hl0, hr0⟩ := openCell h
 try dsimp only [szCell] at *
 subst hl0
 go_enter Tryz.func101, Tryz.ntmps101
 go_wp2_with fail
 refine (o_toByteS (tBy.reach hr0 ?hB) (by omega)).mono ?_
 case hB => exact (belx)
 rintro e w1 ⟨B0, d0, F0, rfl, o0, hN1, hb1⟩
 have z1 : w.heap.size + 3 ≤ w1.heap.size := by have := hb1.size; simpa using this
 have hB1 : Bel w w1 := bel_trans (belx) hb1
 have R1 : Box w1 (w.heap.size + 1) 56 #[.slice none 0 0] := Box.below (Box.alloc (by simpa using Box.new (w.alloc _) 56 #[.slice none 0 0]) _) hb1 lez
 have L1 : Box w1 (w.heap.size + 1 + 1) 56 #[.slice none 0 0] := Box.below (by simpa using Box.new ((w.alloc _).alloc _) 56 #[.slice none 0 0]) hb1 lez
 have P1 : Box w1 w.heap.size 92 #[.slice A0 l0.length c0] := Box.below (((Box.new w 92 #[.slice A0 l0.length c0]).alloc _).alloc _) hb1 lez
 have hM1 : New (w.heap.size + 3) (F0) := hN1.lower (by simp)
 clear hN1
 have y1 : ∀ f ∈ F0, f < w1.heap.size := by intro f hf; exact tBy.lt o0 f hf
 have kr1_0 := R1.cell 0; have fr1_0 := R1.frozen 0; have kl1_0 := L1.cell 0; have fl1_0 := L1.frozen 0; have kp1_0 := P1.cell 0
 go_wp2
 have RR := ((R1.far (p := ⟨w.heap.size + 1 + 1, 0, none⟩) lez (.slice B0 l0.length d0)).put 0 (.slice B0 l0.length d0))
 have e0 := RR.cell 0
 have u0 := (Ty.far (t := tBy) (Ty.far (t := tBy) o0 hM1 (p := ⟨w.heap.size + 1 + 1, 0, none⟩) lez (.slice B0 l0.length d0)) hM1 (p := ⟨w.heap.size + 1, 0, none⟩) lez (.slice B0 l0.length d0))
 obtain ⟨F, hF, hFe⟩ := makeOCell (p := l0) u0
 refine bodyPost_ret (v := .agg #[.slice B0 l0.length d0]) (by simp [results, Tryz.results101, go_sem, e0]) rfl ⟨_, F, rfl, hF, ?_, ?_⟩
 ·rw [hFe]
  exact New.lower (B := w.heap.size + 3) (by exact hM1) (by omega)
 ·exact (bel_put (bel_put hB1 lez _) lez _)
theorem o_eqCell {w : World} {cs cs' : List Value} {l0 : DCell} (h : tCell.R w w.heap.size cs l0) (h' : tCell.R w w.heap.size cs' l0) :
  Calls Tryz.prog 118 #[.agg cs.toArray, .agg cs'.toArray] w fun e w' => e = .returned (.bool true) ∧ Bel w w' := by
 obtain ⟨A0, n0, c0, rfl, ha0, hb0, hl0, hr0⟩ := openCell h
 obtain ⟨A0', n0', c0', rfl, ha0', hb0', hl0', hr0'⟩ := openCell h'
 skip
 try dsimp only at *
 subst hl0
 subst hl0'
 go_enter Tryz.func118, Tryz.ntmps118
 go_wp2_with fail
 refine (o_eqByteS (tBy.reach hr0 ?hB) (tBy.reach hr0' ?hB)).mono ?_
 case hB => exact (belx)
 rintro e w1 ⟨rfl, hb1⟩
 have hB1 : Bel w w1 := bel_trans (belx) hb1
 have P1 : Box w1 w.heap.size 56 #[.slice A0 l0.length c0] := ((Box.new _ _ _).alloc _).below hb1 lez
 have Q1 : Box w1 (w.heap.size + 1) 56 #[.slice A0' l0.length c0'] := Box.below (by simpa using Box.new (w.alloc _) 56 #[.slice A0' l0.length c0']) hb1 lez
 go_wp2
 go_ret
 exact ⟨rfl, hB1⟩
end Go.Proofs.YtkdanlnhdgcplaaGreat
namespace Go.Proofs.YtkdanlnhdgcplaaGreat
set_option maxRecDepth 100000
set_option linter.unusedVariables false
set_option linter.unusedSimpArgs false
open Go.ChangeShapes Go.WideShapes Go.ChangeAt Go.RowKit
theorem o_szMail_t {w : World} {cs : List Value} {p : DMail} {k : Int} (h : tMail.R w w.heap.size cs p) (h1 : 0 ≤ k) (h2 : k ≤ 1048576) (h3 : (szMail p : Int) ≤ k) :
  Calls Tryz.prog 47 #[.agg cs.toArray, .int .i64 k] w fun e w' => e = .returned (.int .i64 (k - szMail p)) ∧ Bel w w' := by
 obtain ⟨A1, n1, c1, rfl, hi0, ha1, hb1, hl1, hr1⟩ := openMail h
 obtain ⟨x0, l1⟩ := p
 try dsimp only [szMail] at *
 subst hl1
 have d0 : decide (k - ((szCell l1 : Nat) : Int) < 0) = false := by simp; omega
 go_enter Tryz.func47, Tryz.ntmps47
 go_wp2_with fail
 refine (o_szCell_t (tCell.reach (makeCell (p := l1) hr1) ?hB) (by omega) (by omega) (by omega)).mono ?_
 case hB => exact (belx)
 rintro e w1 ⟨rfl, hb1⟩
 have hB1 : Bel w w1 := bel_trans (belx) hb1
 have P1 : Box w1 w.heap.size 94 #[.int .i64 x0, .slice A1 l1.length c1] := (Box.new _ _ _).below hb1 lez
 go_wp2
 go_ret
 exact ⟨ret_int (by omega), hB1⟩
theorem o_szMail_f {w : World} {cs : List Value} {p : DMail} {k : Int} (h : tMail.R w w.heap.size cs p) (h1 : 0 ≤ k) (h2 : k ≤ 1048576) (h3 : ¬ (szMail p : Int) ≤ k) :
  Calls Tryz.prog 47 #[.agg cs.toArray, .int .i64 k] w fun e w' => e = .returned (.int .i64 (-1)) ∧ Bel w w' := by
 obtain ⟨A1, n1, c1, rfl, hi0, ha1, hb1, hl1, hr1⟩ := openMail h
 obtain ⟨x0, l1⟩ := p
 try dsimp only [szMail] at *
 subst hl1
 go_enter Tryz.func47, Tryz.ntmps47
 go_wp2_with fail
 refine (o_szCell_f (tCell.reach (makeCell (p := l1) hr1) ?hB) (by omega) (by omega) (by omega)).mono ?_
 case hB => exact (belx)
 rintro e w1 ⟨rfl, hb1⟩
 have hB1 : Bel w w1 := bel_trans (belx) hb1
 have P1 : Box w1 w.heap.size 94 #[.int .i64 x0, .slice A1 l1.length c1] := (Box.new _ _ _).below hb1 lez
 go_wp2
 go_ret
 exact ⟨rfl, hB1⟩
set_option maxHeartbeats 400000 in
theorem o_toMail {w : World} {cs : List Value} {p : DMail} (h : tMail.R w w.heap.size cs p) (hn : szMail p ≤ 1048576) :
  Calls Tryz.prog 55 #[.agg cs.toArray] w fun e w' => ∃ cs' F, e = .returned (.agg cs'.toArray) ∧ tMail.O w' cs' p F ∧ New w.heap.size F ∧ Bel w w' := by
 obtain ⟨A1, n1, c1, rfl, hi0, ha1, hb1, hl1, hr1⟩ := openMail h
 obtain ⟨x0, l1⟩ := p
 try dsimp only [szMail] at *
 subst hl1
 go_enter Tryz.func55, Tryz.ntmps55
 go_wp2_with fail
 refine (o_toCell (tCell.reach (makeCell (p := l1) hr1) ?hB) (by omega)).mono ?_
 case hB => exact (belx)
 rintro e w1 ⟨cs1, G1, rfl, hO1, hN1, hb1⟩
 obtain ⟨B1, d1, F1, rfl, hGe1, _, _, o1⟩ := openOCell hO1
 try dsimp only at *
 subst G1
 have z1 : w.heap.size + 3 ≤ w1.heap.size := by have := hb1.size; simpa using this
 have hB1 : Bel w w1 := bel_trans (belx) hb1
 have R1 : Box w1 (w.heap.size + 1) 62 #[.int .i64 0, .slice none 0 0] := Box.below (Box.alloc (by simpa using Box.new (w.alloc _) 62 #[.int .i64 0, .slice none 0 0]) _) hb1 lez
 have L1 : Box w1 (w.heap.size + 1 + 1) 62 #[.int .i64 x0, .slice none 0 0] := Box.below (by simpa using Box.new ((w.alloc _).alloc _) 62 #[.int .i64 x0, .slice none 0 0]) hb1 lez
 have P1 : Box w1 w.heap.size 94 #[.int .i64 x0, .slice A1 l1.length c1] := Box.below (((Box.new w 94 #[.int .i64 x0, .slice A1 l1.length c1]).alloc _).alloc _) hb1 lez
 have hM1 : New (w.heap.size + 3) (F1) := hN1.lower (by simp)
 clear hN1
 have y1 : ∀ f ∈ F1, f < w1.heap.size := by intro f hf; exact tBy.lt o1 f hf
 have kr1_0 := R1.cell 0; have fr1_0 := R1.frozen 0; have kl1_0 := L1.cell 0; have fl1_0 := L1.frozen 0; have kp1_0 := P1.cell 0
 have kr1_1 := R1.cell 1; have fr1_1 := R1.frozen 1; have kl1_1 := L1.cell 1; have fl1_1 := L1.frozen 1; have kp1_1 := P1.cell 1
 go_wp2
 have RR := (((R1.far (p := ⟨w.heap.size + 1 + 1, 1, none⟩) lez (.slice B1 l1.length d1)).put 0 (.int .i64 x0)).put 1 (.slice B1 l1.length d1))
 have e0 := RR.cell 0
 have e1 := RR.cell 1
 have u1 := (Ty.far (t := tBy) (Ty.far (t := tBy) (Ty.far (t := tBy) o1 hM1 (p := ⟨w.heap.size + 1 + 1, 1, none⟩) lez (.slice B1 l1.length d1)) hM1 (p := ⟨w.heap.size + 1, 0, none⟩) lez (.int .i64 x0)) hM1 (p := ⟨w.heap.size + 1, 1, none⟩) lez (.slice B1 l1.length d1))
 obtain ⟨F, hF, hFe⟩ := makeOMail (p := (x0, l1)) hi0 u1
 refine bodyPost_ret (v := .agg #[.int .i64 x0, .slice B1 l1.length d1]) (by simp [results, Tryz.results55, go_sem, e0, e1]) rfl ⟨_, F, rfl, hF, ?_, ?_⟩
 ·rw [hFe]
  exact New.lower (B := w.heap.size + 3) (by exact hM1) (by omega)
 ·exact (bel_put (bel_put (bel_put hB1 lez _) lez _) lez _)
theorem o_eqMail {w : World} {cs cs' : List Value} {p : DMail} (h : tMail.R w w.heap.size cs p) (h' : tMail.R w w.heap.size cs' p) :
  Calls Tryz.prog 73 #[.agg cs.toArray, .agg cs'.toArray] w fun e w' => e = .returned (.bool true) ∧ Bel w w' := by
 obtain ⟨A1, n1, c1, rfl, hi0, ha1, hb1, hl1, hr1⟩ := openMail h
 obtain ⟨A1', n1', c1', rfl, hi0', ha1', hb1', hl1', hr1'⟩ := openMail h'
 obtain ⟨x0, l1⟩ := p
 try dsimp only at *
 subst hl1
 subst hl1'
 have q0 : (x0 != x0) = false := by simp
 go_enter Tryz.func73, Tryz.ntmps73
 go_wp2_with fail
 refine (o_eqCell (tCell.reach (makeCell (p := l1) hr1) ?hB) (tCell.reach (makeCell (p := l1) hr1') ?hB)).mono ?_
 case hB => exact (belx)
 rintro e w1 ⟨rfl, hb1⟩
 have hB1 : Bel w w1 := bel_trans (belx) hb1
 have P1 : Box w1 w.heap.size 62 #[.int .i64 x0, .slice A1 l1.length c1] := ((Box.new _ _ _).alloc _).below hb1 lez
 have Q1 : Box w1 (w.heap.size + 1) 62 #[.int .i64 x0, .slice A1' l1.length c1'] := Box.below (by simpa using Box.new (w.alloc _) 62 #[.int .i64 x0, .slice A1' l1.length c1']) hb1 lez
 go_wp2
 go_ret
 exact ⟨rfl, hB1⟩
end Go.Proofs.YtkdanlnhdgcplaaGreat
