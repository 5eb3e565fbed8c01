/-
  Mark, Copy, Cell, Rd, Dat, Sn: texts joined.
-/
import Derived.Test.YtblcfncjghkegaaPGe
import Derived.Test.YtblcfncjghkegaaPGg
import Derived.BigQuiet
import Derived.Deep.QuietTactic
import Derived.Outline
namespace Go.Proofs.Ytblcfncjghkegaa
open Go.ChangeShapes Go.WideShapes Go.ChangeAt Go.RowKit
/-- The marks k, k + 1, .. of n integers; of n bytes. -/
def marks (k : Int) (n : Nat) : List Int := (List.range n).map fun i : Nat => k + (i : Int)
end Go.Proofs.Ytblcfncjghkegaa
namespace Go.Proofs.Ytblcfncjghkegaa
open Go.ChangeShapes Go.WideShapes Go.ChangeAt Go.RowKit

theorem Own.apart {k k' : IntKind} {e e' : TypeId} {w w1 : World} {base base' : Nat} {v v' : Value} {l l' : List Int} (hx : Own k e w base v l) (hy : Own k' e' w1 base' v' l') (hle : w1.heap.size ≤ base) : v.ownBlock = none ∨ v.ownBlock ≠ v'.ownBlock := by
  cases hv : v.ownBlock with
  | none => exact .inl rfl
  | some b =>
    refine .inr fun h => ?_
    have h1 := (hx.block hv).1
    have h2 := (hy.block h.symm).2
    omega
theorem info_cb : (Try.prog.info? 5).map (fun i => (i.zero, i.size, i.bytes)) = some (some (.int .u8 0), 1, 1) := by kernel_rfl
theorem info_ci : (Try.prog.info? 3).map (fun i => (i.zero, i.size, i.bytes)) = some (some (.int .i64 0), 1, 8) := by kernel_rfl
end Go.Proofs.Ytblcfncjghkegaa
namespace Go.Proofs.Ytblcfncjghkegaa
set_option maxRecDepth 100000
open Go.ChangeShapes Go.WideShapes Go.ChangeAt Go.RowKit

theorem bel_alloc {w w' : World} (h : Below w.heap.size w w') (o : Obj) : Below w.heap.size w (w'.alloc o) := h.alloc h.size o
theorem bel_put {w w' : World} (h : Below w.heap.size w w') {p : Addr} (hp : w.heap.size ≤ p.block) (u : Value) : Below w.heap.size w (w'.setCell p u) := h.setCell hp u
theorem bel_drew {w w' : World} (h : Below w.heap.size w w') : Below w.heap.size w w'.drew := h.drew
theorem belx {w w' : World} (h : Below w.heap.size w w' := by repeat (first | (with_reducible exact Below.refl _ _) | (with_reducible assumption) | (with_reducible refine bel_alloc ?_ _) | (with_reducible refine bel_drew ?_) | (with_reducible refine below_drewN ?_ _) | (with_reducible refine bel_put ?_ (by first | exact Nat.le_refl _ | (simp; done) | (simp; omega)) _))) : Below w.heap.size w w' := h
theorem qa_ {α : Type} (l : List α) (i : Nat) (a : α) : l.toArray.setIfInBounds i a = (l.set i a).toArray := List.setIfInBounds_toArray ..
theorem qb_ {α : Type} (a : α) (xs : List α) (b : α) : (a :: xs).set 0 b = b :: xs := rfl
theorem qc_ {α : Type} (a : α) (xs : List α) (n : Nat) (b : α) : (a :: xs).set (n + 1) b = a :: xs.set n b := rfl
theorem bel_trans {a w w' : World} (h : Below a.heap.size a w) (h' : Below w.heap.size w w') : Below a.heap.size a w' := h.trans (h'.mono h.size)
theorem reach {k : IntKind} {w w' : World} {A : Option Addr} {n : Nat} {l : List Int} (h : Ints k w w.heap.size A n l) (hB : Below w.heap.size w w') : Ints k w' w'.heap.size A n l := (h.below hB).up hB.size
theorem getDtk {l : List Int} {n i : Nat} (h : i < n) : (l.take n).getD i 0 = l.getD i 0 := by
  rw [List.getD_eq_getElem?_getD, List.getElem?_take, if_pos h, List.getD_eq_getElem?_getD]
theorem Ints.head {k : IntKind} {w : World} {B n : Nat} {A : Option Addr} {l : List Int} (h : Ints k w B A n l) (m : Nat) (hm : m ≤ n) : Ints k w B A m (l.take m) := by
  refine ⟨by rw [List.length_take, h.1]; omega, fun h0 => ?_, fun x hx => h.2.2 x (List.mem_of_mem_take hx)⟩
  obtain ⟨b, off, e, hb, hc⟩ := h.2.1 (by omega)
  exact ⟨b, off, e, hb, fun i hi => by rw [Go.Proofs.Ytblcfncjghkegaa.getDtk hi]; exact hc i (by omega)⟩
theorem Own.far {k : IntKind} {e : TypeId} {w : World} {base g : Nat} {v : Value} {l : List Int} (h : Own k e w base v l) (hg : g < base) (j : Nat) (u : Value) : Own k e (w.setCell ⟨g, j, none⟩ u) base v l :=
  h.kept (gb_put (World.grownBy.refl _ _) j u) (by
    cases hv : v.ownBlock with
    | none => exact .inl rfl
    | some b => exact .inr (fun e => by have := (h.block hv).1; injection e; omega))
theorem cell_bel {w w' : World} {b o : Nat} {v : Value} (h : Below w.heap.size w w') (hc : w.cell? ⟨b, o, none⟩ = some v) : w'.cell? ⟨b, o, none⟩ = some v :=
  (World.cell?_of_block (h.block b (World.block_lt_of_cell? w _ hc))).trans hc
end Go.Proofs.Ytblcfncjghkegaa
namespace Go.Proofs.Ytblcfncjghkegaa
set_option linter.unusedVariables false
open Go.RowKit

/-- w' is w with new blocks, and what is written of the old lies in the blocks F. -/
structure Only (F : List Nat) (w w' : World) : Prop where
  os : w'.os = w.os
  tape : w'.tape = w.tape
  output : w'.output = w.output
  size : w.heap.size ≤ w'.heap.size
  block : ∀ b, b < w.heap.size → b ∉ F → w'.heap[b]? = w.heap[b]?
section
variable {F G : List Nat} {a b c w w' : World} {B : Nat}
theorem Only.refl (F : List Nat) (w : World) : Only F w w := ⟨rfl, rfl, rfl, Nat.le_refl _, fun _ _ _ => rfl⟩
theorem Only.trans (h : Only F a b) (k : Only F b c) : Only F a c :=
  ⟨k.os.trans h.os, k.tape.trans h.tape, k.output.trans h.output, Nat.le_trans h.size k.size, fun i hi hn => (k.block i (Nat.lt_of_lt_of_le hi h.size) hn).trans (h.block i hi hn)⟩
theorem Only.mono (h : Only F a b) (hs : ∀ x ∈ F, x ∈ G) : Only G a b := ⟨h.os, h.tape, h.output, h.size, fun i hi hn => h.block i hi fun hx => hn (hs _ hx)⟩
theorem Only.drewN (h : Only F a w) (n : Nat) : Only F a (w.drewN n) := ⟨h.os, h.tape, h.output, h.size, h.block⟩
theorem Only.drew (h : Only F a w) : Only F a w.drew := ⟨h.os, h.tape, h.output, h.size, h.block⟩
theorem Only.alloc (h : Only F a w) (o : Obj) : Only F a (w.alloc o) :=
  ⟨h.os, h.tape, h.output, Nat.le_trans h.size (by simp), fun i hi hn => (Below.heap_alloc w o i (Nat.lt_of_lt_of_le hi h.size)).trans (h.block i hi hn)⟩
theorem Only.put (h : Only F a w) {p : Addr} (hp : p.block ∈ F ∨ a.heap.size ≤ p.block) (u : Value) : Only F a (w.setCell p u) :=
  ⟨h.os, h.tape, h.output, by simpa [World.setCell] using h.size, fun i hi hn => (Below.heap_setCell w p u i (by
    rintro rfl
    rcases hp with hp | hp
    · exact hn hp
    · omega)).trans (h.block i hi hn)⟩
theorem Only.below (h : Only F a w) (hF : ∀ f ∈ F, B ≤ f) (hB : B ≤ a.heap.size) : Below B a w :=
  ⟨h.os, h.tape, h.output, h.size, fun k hk => h.block k (by omega) fun hx => by have := hF k hx; omega⟩
theorem Only.nil (h : Only [] a w) : Below a.heap.size a w := h.below (fun f hf => absurd hf (by simp)) (Nat.le_refl _)
/-- Below a, then a write into what is newer than a. -/
theorem Only.since (h : Below a.heap.size a w) (k : Only F w w') (hF : ∀ f ∈ F, a.heap.size ≤ f) : Below a.heap.size a w' :=
  h.trans (k.below hF h.size)
end

/-- How a type's data lie in memory. 'R w B cs a': the cells cs read as a, all below block B. 'O w cs a F': they are a call's own; their blocks are F, not frozen. -/
structure Ty (α : Type) where
  k : Nat
  R : World → Nat → List Value → α → Prop
  O : World → List Value → α → List Nat → Prop
  lenR : ∀ {w B cs a}, R w B cs a → cs.length = k
  lenO : ∀ {w cs a F}, O w cs a F → cs.length = k
  keep : ∀ {w w' B cs a}, R w B cs a → (∀ b, b < B → w'.heap[b]? = w.heap[b]?) → R w' B cs a
  up : ∀ {w B B' cs a}, R w B cs a → B ≤ B' → R w B' cs a
  kept : ∀ {w w' cs a F}, O w cs a F → (∀ f ∈ F, w'.heap[f]? = w.heap[f]?) → O w' cs a F
  lt : ∀ {w cs a F}, O w cs a F → ∀ f ∈ F, f < w.heap.size
  read : ∀ {w cs a F}, O w cs a F → R w w.heap.size cs a
section
variable {α β : Type} {t : Ty α} {w w' : World} {B B' : Nat} {cs : List Value} {a : α} {F G : List Nat}
theorem Ty.reach (h : t.R w w.heap.size cs a) (hB : Below w.heap.size w w') : t.R w' w'.heap.size cs a := t.up (t.keep h hB.block) hB.size
theorem Ty.below (h : t.O w cs a F) (hB : Below w.heap.size w w') : t.O w' cs a F := t.kept h fun f hf => hB.block f (t.lt h f hf)
theorem Ty.only (h : t.O w cs a F) (hG : Only G w w') (hd : ∀ f ∈ F, f ∉ G) : t.O w' cs a F := t.kept h fun f hf => hG.block f (t.lt h f hf) (hd f hf)
/-- All of F is new since the world of B blocks, none twice. -/
def New (B : Nat) (F : List Nat) : Prop := F.Nodup ∧ ∀ f ∈ F, B ≤ f
theorem New.nil (B : Nat) : New B [] := ⟨List.nodup_nil, fun f hf => absurd hf (by simp)⟩
theorem New.lower (h : New B F) (hB : B' ≤ B) : New B' F := ⟨h.1, fun f hf => Nat.le_trans hB (h.2 f hf)⟩
theorem New.app (h : New B F) (k : New B' G) (hB : B ≤ B') (hF : ∀ f ∈ F, f < B') : New B (F ++ G) := by
  refine ⟨List.nodup_append.2 ⟨h.1, k.1, fun x hx y hy e => ?_⟩, fun f hf => ?_⟩
  · have h1 := hF x hx; have h2 := k.2 y hy; omega
  · rcases List.mem_append.1 hf with h' | h'
    · exact h.2 f h'
    · exact Nat.le_trans hB (k.2 f h')
theorem New.apart (h : New B F) (hG : ∀ f ∈ G, f < B) : ∀ f ∈ F, f ∉ G := fun f hf hx => by have := h.2 f hf; have := hG f hx; omega
end

/-! ### numbers -/
def tInt : Ty Int where
  k := 1
  R := fun _ _ cs x => cs = [.int .i64 x] ∧ (Lit.int .i64 x).wf = true
  O := fun _ cs x F => cs = [.int .i64 x] ∧ (Lit.int .i64 x).wf = true ∧ F = []
  lenR := fun h => by rw [h.1]; rfl
  lenO := fun h => by rw [h.1]; rfl
  keep := fun h _ => h
  up := fun h _ => h
  kept := fun h _ => h
  lt := fun h f hf => by rw [h.2.2] at hf; exact absurd hf (by simp)
  read := fun h => ⟨h.1, h.2.1⟩

/-! ### slices of numbers -/
def sliceR (K : IntKind) (w : World) (B : Nat) (cs : List Value) (l : List Int) : Prop := ∃ A n c, cs = [.slice A n c] ∧ n ≤ c ∧ c ≤ 9223372036854775807 ∧ Ints K w B A n l
def sliceO (K : IntKind) (w : World) (cs : List Value) (l : List Int) (F : List Nat) : Prop :=
  (∃ A c, cs = [.slice A 0 c] ∧ c ≤ 9223372036854775807 ∧ l = [] ∧ F = []) ∨
  ∃ g off c cur t, cs = [.slice (some ⟨g, off, none⟩) l.length c] ∧ 0 < l.length ∧ l.length ≤ c ∧ c ≤ 9223372036854775807 ∧ w.heap[g]? = some (.cells cur t (0, 0)) ∧ (∀ i, i < l.length → cur[off + i]? = some (.int K (l.getD i 0))) ∧ (∀ x ∈ l, (Lit.int K x).wf = true) ∧ F = [g]
theorem sliceO.read {K : IntKind} {w : World} {cs : List Value} {l : List Int} {F : List Nat} (h : sliceO K w cs l F) : sliceR K w w.heap.size cs l := by
  rcases h with ⟨A, c, h1, h2, rfl, _⟩ | ⟨g, off, c, cur, t, h1, h2, h3, h4, h5, h6, h7, _⟩
  · exact ⟨A, 0, c, h1, Nat.zero_le _, h2, Ints.nil⟩
  · refine ⟨_, _, c, h1, h3, h4, rfl, fun _ => ⟨g, off, rfl, Box.size (t := t) h5, fun i hi => ?_⟩, h7⟩
    rw [Box.cell (t := t) h5]; exact h6 i hi
def tSl (K : IntKind) : Ty (List Int) where
  k := 1
  R := sliceR K
  O := sliceO K
  lenR := fun h => by obtain ⟨A, n, c, h1, _⟩ := h; rw [h1]; rfl
  lenO := fun h => by rcases h with ⟨A, c, h1, _⟩ | ⟨g, off, c, cur, t, h1, _⟩ <;> rw [h1] <;> rfl
  keep := fun h hk => by obtain ⟨A, n, c, h1, h2, h3, h4⟩ := h; exact ⟨A, n, c, h1, h2, h3, h4.keep hk⟩
  up := fun h hB => by obtain ⟨A, n, c, h1, h2, h3, h4⟩ := h; exact ⟨A, n, c, h1, h2, h3, h4.up hB⟩
  kept := fun h hk => by
    rcases h with h | ⟨g, off, c, cur, t, h1, h2, h3, h4, h5, h6, h7, rfl⟩
    · exact .inl h
    · exact .inr ⟨g, off, c, cur, t, h1, h2, h3, h4, (hk g (by simp)).trans h5, h6, h7, rfl⟩
  lt := fun h f hf => by
    rcases h with ⟨A, c, _, _, _, rfl⟩ | ⟨g, off, c, cur, t, h1, h2, h3, h4, h5, h6, h7, rfl⟩
    · exact absurd hf (by simp)
    · rw [List.mem_singleton] at hf; rw [hf]; exact Box.size (t := t) h5
  read := sliceO.read
abbrev tBy : Ty (List Int) := tSl .u8
abbrev tIs : Ty (List Int) := tSl .i64
/-- An own slice in the words of the earlier texts. -/
theorem Own.tSl {K : IntKind} {e : TypeId} {w : World} {base : Nat} {v : Value} {l : List Int} (h : Own K e w base v l) : ∃ F, (tSl K).O w [v] l F ∧ New base F := by
  rcases h.1.2 with ⟨rfl, h0⟩ | ⟨g, cap, cur, rfl, hb, hg, hn, hm, hs, ht⟩
  · have : l = [] := List.eq_nil_of_length_eq_zero h0
    subst this
    exact ⟨[], .inl ⟨none, 0, rfl, by omega, rfl, rfl⟩, New.nil _⟩
  · by_cases h0 : l.length = 0
    · have : l = [] := List.eq_nil_of_length_eq_zero h0
      subst this
      exact ⟨[], .inl ⟨_, cap, rfl, hm, rfl, rfl⟩, New.nil _⟩
    · refine ⟨[g], .inr ⟨g, 0, cap, cur, e, rfl, by omega, hn, hm, hg, fun i hi => ?_, h.2, rfl⟩, ⟨by simp, fun f hf => by rw [List.mem_singleton] at hf; omega⟩⟩
      have h4 : (l.map (Value.int K))[i]? = some (.int K (l.getD i 0)) := by rw [List.getElem?_map, List.getD_eq_getElem?_getD, List.getElem?_eq_getElem hi]; rfl
      rw [← h4, ← ht, List.getElem?_take, if_pos (by omega), Nat.zero_add]
      simp
/-! ### structs -/
def Ty.prod {α β : Type} (s : Ty α) (t : Ty β) : Ty (α × β) where
  k := s.k + t.k
  R := fun w B cs p => ∃ c1 c2, cs = c1 ++ c2 ∧ s.R w B c1 p.1 ∧ t.R w B c2 p.2
  O := fun w cs p F => ∃ c1 c2 F1 F2, cs = c1 ++ c2 ∧ F = F1 ++ F2 ∧ s.O w c1 p.1 F1 ∧ t.O w c2 p.2 F2
  lenR := fun h => by obtain ⟨c1, c2, rfl, h1, h2⟩ := h; rw [List.length_append, s.lenR h1, t.lenR h2]
  lenO := fun h => by obtain ⟨c1, c2, F1, F2, rfl, rfl, h1, h2⟩ := h; rw [List.length_append, s.lenO h1, t.lenO h2]
  keep := fun h hk => by obtain ⟨c1, c2, rfl, h1, h2⟩ := h; exact ⟨c1, c2, rfl, s.keep h1 hk, t.keep h2 hk⟩
  up := fun h hB => by obtain ⟨c1, c2, rfl, h1, h2⟩ := h; exact ⟨c1, c2, rfl, s.up h1 hB, t.up h2 hB⟩
  kept := fun h hk => by
    obtain ⟨c1, c2, F1, F2, rfl, rfl, h1, h2⟩ := h
    exact ⟨c1, c2, F1, F2, rfl, rfl, s.kept h1 fun f hf => hk f (List.mem_append.2 (.inl hf)), t.kept h2 fun f hf => hk f (List.mem_append.2 (.inr hf))⟩
  lt := fun h f hf => by
    obtain ⟨c1, c2, F1, F2, rfl, rfl, h1, h2⟩ := h
    rcases List.mem_append.1 hf with h' | h'
    · exact s.lt h1 f h'
    · exact t.lt h2 f h'
  read := fun h => by obtain ⟨c1, c2, F1, F2, rfl, rfl, h1, h2⟩ := h; exact ⟨c1, c2, rfl, s.read h1, t.read h2⟩

/-! ### slices of structs -/
def Ty.rowR {α : Type} (t : Ty α) (w : World) (B : Nat) (cs : List Value) (l : List α) : Prop :=
  ∃ A n c, cs = [.slice A n c] ∧ n ≤ c ∧ c ≤ 9223372036854775807 ∧ l.length = n ∧ (0 < n → ∃ b off, A = some ⟨b, off, none⟩ ∧ b < B ∧
    ∀ i a, l[i]? = some a → ∃ es, (∀ j, j < t.k → w.cell? ⟨b, off + i * t.k + j, none⟩ = es[j]?) ∧ t.R w B es a)
def Ty.rowO {α : Type} (t : Ty α) (w : World) (cs : List Value) (l : List α) (F : List Nat) : Prop :=
  (∃ A c, cs = [.slice A 0 c] ∧ c ≤ 9223372036854775807 ∧ l = [] ∧ F = []) ∨
  ∃ (g off c : Nat) (cur : Array Value) (e : TypeId) (Fs : List (List Nat)), cs = [.slice (some ⟨g, off, none⟩) l.length c] ∧ 0 < l.length ∧ l.length ≤ c ∧ c ≤ 9223372036854775807 ∧ w.heap[g]? = some (.cells cur e (0, 0)) ∧ Fs.length = l.length ∧ F = g :: Fs.flatten ∧
    ∀ i a Fi, l[i]? = some a → Fs[i]? = some Fi → ∃ es, (∀ j, j < t.k → cur[off + i * t.k + j]? = es[j]?) ∧ t.O w es a Fi
theorem mem_flat {Fs : List (List Nat)} {i : Nat} {Fi : List Nat} (h : Fs[i]? = some Fi) {f : Nat} (hf : f ∈ Fi) : f ∈ Fs.flatten :=
  List.mem_flatten.2 ⟨Fi, List.mem_of_getElem? h, hf⟩
theorem Ty.rowO_read {α : Type} {t : Ty α} {w : World} {cs : List Value} {l : List α} {F : List Nat} (h : t.rowO w cs l F) : t.rowR w w.heap.size cs l := by
  rcases h with ⟨A, c, h1, h2, rfl, _⟩ | ⟨g, off, c, cur, e, Fs, h1, h2, h3, h4, h5, h6, h7, h8⟩
  · exact ⟨A, 0, c, h1, Nat.zero_le _, h2, rfl, fun h => absurd h (by omega)⟩
  · refine ⟨_, _, c, h1, h3, h4, rfl, fun _ => ⟨g, off, rfl, Box.size (t := e) h5, fun i a hi => ?_⟩⟩
    have hl : i < Fs.length := by rw [h6]; exact (List.getElem?_eq_some_iff.1 hi).1
    obtain ⟨es, k1, k2⟩ := h8 i a _ hi (List.getElem?_eq_getElem hl)
    exact ⟨es, fun j hj => by rw [Box.cell (t := e) h5]; exact k1 j hj, t.read k2⟩
def Ty.row {α : Type} (t : Ty α) : Ty (List α) where
  k := 1
  R := t.rowR
  O := t.rowO
  lenR := fun h => by obtain ⟨A, n, c, h1, _⟩ := h; rw [h1]; rfl
  lenO := fun h => by rcases h with ⟨A, c, h1, _⟩ | ⟨g, off, c, cur, e, Fs, h1, _⟩ <;> rw [h1] <;> rfl
  keep := fun h hk => by
    obtain ⟨A, n, c, h1, h2, h3, h4, h5⟩ := h
    refine ⟨A, n, c, h1, h2, h3, h4, fun h0 => ?_⟩
    obtain ⟨b, off, e, hb, hc⟩ := h5 h0
    refine ⟨b, off, e, hb, fun i a hi => ?_⟩
    obtain ⟨es, k1, k2⟩ := hc i a hi
    exact ⟨es, fun j hj => (World.cell?_of_block (hk _ hb)).trans (k1 j hj), t.keep k2 hk⟩
  up := fun h hB => by
    obtain ⟨A, n, c, h1, h2, h3, h4, h5⟩ := h
    refine ⟨A, n, c, h1, h2, h3, h4, fun h0 => ?_⟩
    obtain ⟨b, off, e, hb, hc⟩ := h5 h0
    refine ⟨b, off, e, Nat.lt_of_lt_of_le hb hB, fun i a hi => ?_⟩
    obtain ⟨es, k1, k2⟩ := hc i a hi
    exact ⟨es, k1, t.up k2 hB⟩
  kept := fun h hk => by
    rcases h with h | ⟨g, off, c, cur, e, Fs, h1, h2, h3, h4, h5, h6, rfl, h8⟩
    · exact .inl h
    · refine .inr ⟨g, off, c, cur, e, Fs, h1, h2, h3, h4, (hk g (by simp)).trans h5, h6, rfl, fun i a Fi hi hF => ?_⟩
      obtain ⟨es, k1, k2⟩ := h8 i a Fi hi hF
      exact ⟨es, k1, t.kept k2 fun f hf => hk f (List.mem_cons_of_mem _ (mem_flat hF hf))⟩
  lt := fun h f hf => by
    rcases h with ⟨A, c, _, _, _, rfl⟩ | ⟨g, off, c, cur, e, Fs, h1, h2, h3, h4, h5, h6, rfl, h8⟩
    · exact absurd hf (by simp)
    · rcases List.mem_cons.1 hf with rfl | hf
      · exact Box.size (t := e) h5
      · obtain ⟨Fi, hFi, hfi⟩ := List.mem_flatten.1 hf
        obtain ⟨i, hi, e1⟩ := List.getElem_of_mem hFi
        have hi' : i < _ := h6 ▸ hi
        obtain ⟨es, _, k2⟩ := h8 i _ Fi (List.getElem?_eq_getElem hi') (by rw [List.getElem?_eq_getElem hi, e1])
        exact t.lt k2 f hfi
  read := Ty.rowO_read
end Go.Proofs.Ytblcfncjghkegaa
namespace Go.Proofs.Ytblcfncjghkegaa
set_option linter.unusedVariables false
section
variable {α : Type}
/-- The sum of c over l. -/
def rsum (c : α → Nat) : List α → Nat
  | [] => 0
  | a :: l => c a + rsum c l
/-- The size of a row: one an element, and what they count. -/
def rsz (s : α → Nat) (l : List α) : Nat := l.length + rsum s l
variable {c s : α → Nat} {m : Int → α → α} {k : Int} {l l' : List α} {i : Nat} {a : α}
theorem rsum_app : rsum c (l ++ l') = rsum c l + rsum c l' := by
  induction l with
  | nil => simp [rsum]
  | cons b l ih => simp only [List.cons_append, rsum, ih]; omega
theorem rsum_take_le (c : α → Nat) (l : List α) (i : Nat) : rsum c (l.take i) ≤ rsum c l := by
  have h := rsum_app (c := c) (l := l.take i) (l' := l.drop i)
  rw [List.take_append_drop] at h; omega
theorem take_sn (h : l[i]? = some a) : l.take (i + 1) = l.take i ++ [a] := by
  rw [List.take_add_one, h]; rfl
theorem rsum_sn (h : l[i]? = some a) : rsum c (l.take (i + 1)) = rsum c (l.take i) + c a := by
  rw [take_sn h, rsum_app]; simp [rsum]
theorem rsum_at (h : l[i]? = some a) : rsum c (l.take i) + c a ≤ rsum c l := by
  rw [← rsum_sn h]; exact rsum_take_le _ _ _
theorem rsz_le (l : List α) : l.length ≤ rsz s l := by unfold rsz; omega
/-- The size of the first i elements, the rest's count of one each not yet. -/
theorem rsz_step (h : l[i]? = some a) : l.length + rsum s (l.take i) + s a ≤ rsz s l := by
  have := rsum_at (c := s) h; unfold rsz; omega
end
end Go.Proofs.Ytblcfncjghkegaa
namespace Go.Proofs.Ytblcfncjghkegaa
open Go.RowKit

theorem wf_i64 {x : Int} (h1 : -9223372036854775808 ≤ x) (h2 : x ≤ 9223372036854775807) : (Lit.int .i64 x).wf = true := WalkArith.wf_i64 ⟨by omega, by omega⟩
theorem own_sn {k : IntKind} {e : TypeId} {w w1 : World} {base : Nat} {v v1 : Value} {l l' : List Int} {x : Int} (h : Own k e w base v l) (h1 : w1.ownsRow base e 1 v1 (l.length + 1) (l.map (Value.int k) ++ [.int k x])) (hl : l' = l ++ [x]) (hx : (Lit.int k x).wf = true) : Own k e w1 base v1 l' := by
  subst hl
  refine Own.of (n := l.length + 1) (by simpa using h1) fun y hy => ?_
  rcases List.mem_append.1 hy with h' | h'
  · exact h.2 y h'
  · rw [List.mem_singleton] at h'; rw [h']; exact hx
end Go.Proofs.Ytblcfncjghkegaa
