/-
  A slice value that is read; what is peeled, as both sides answer it.
-/
import Derived.Test.YtjehcmmbbjidkaaOnion
import Derived.Test.YtjehcmmbbjidkaaCell
import Derived.Test.YtjehcmmbbjidkaaSpecTwo
namespace Go.Proofs.Ytjehcmmbbjidkaa
open Go.ChangeShapes Go.WideShapes Go.ChangeAt Go.RowKit
open Fld

/-- The slice value v holds the bytes l. -/
def Reads (w : World) (v : Value) (l : List Int) : Prop := ∃ A n c, v = .slice A n c ∧ n ≤ c ∧ c ≤ 9223372036854775807 ∧ Ints .u8 w w.heap.size A n l
theorem Reads.nil (w : World) : Reads w (.slice none 0 0) [] := ⟨none, 0, 0, rfl, Nat.le_refl _, by omega, Ints.nil⟩
theorem Reads.below {w w' : World} {v : Value} {l : List Int} (h : Reads w v l) (hB : Below w.heap.size w w') : Reads w' v l := by
  obtain ⟨A, n, c, h1, h2, h3, h4⟩ := h
  exact ⟨A, n, c, h1, h2, h3, (h4.below hB).up hB.size⟩
theorem Own.cap {k : IntKind} {e : TypeId} {w : World} {base : Nat} {v : Value} {l : List Int} (h : Own k e w base v l) : ∃ A c, v = .slice A l.length c ∧ l.length ≤ c ∧ c ≤ 9223372036854775807 ∧ Ints k w w.heap.size A l.length l := by
  obtain ⟨A, c, rfl, h1, h2, _⟩ := h.ints
  refine ⟨A, c, rfl, h1, ?_, h2⟩
  rcases h.1.2 with ⟨e, _⟩ | ⟨g, cap, cur, e, _, _, _, hm, _⟩
  · injection e with _ _ e3; omega
  · injection e with _ _ e3; rw [e3]; exact hm
theorem Own.reads {e : TypeId} {w : World} {base : Nat} {v : Value} {l : List Int} (h : Own .u8 e w base v l) : Reads w v l := by
  obtain ⟨A, c, rfl, h1, h2, h3⟩ := h.cap
  exact ⟨A, _, c, rfl, h1, h2, h3⟩
/-- What l3peel answers. -/
def ppeel (s : Int) (c pad : List Int) : Pel × Bool := if peels s c then (peelV s c pad, true) else (Pel.zero, false)
theorem ppeel_t {s : Int} {c pad : List Int} (h : peels s c) : ppeel s c pad = (peelV s c pad, true) := if_pos h
theorem ppeel_f {s : Int} {c pad : List Int} (h : ¬ peels s c) : ppeel s c pad = (Pel.zero, false) := if_neg h

theorem Own.away {k : IntKind} {e : TypeId} {w : World} {base g : Nat} {v : Value} {l : List Int} (h : Own k e w base v l) (hg : ∀ b, v.ownBlock = some b → b ≠ g) (j : Nat) (u : Value) : Own k e (w.setCell ⟨g, j, none⟩ u) base v l :=
  h.kept (gb_put (World.grownBy.refl _ _) j u) (by
    cases hv : v.ownBlock with
    | none => exact .inl rfl
    | some b => exact .inr (fun e => by injection e with e; exact hg b hv e))
theorem Own.readsTail {e : TypeId} {w : World} {base g n c : Nat} {l : List Int} (h : Own .u8 e w base (.slice (some ⟨g, 0, none⟩) n c) l) (h4 : 4 ≤ n) : Reads w (.slice (some ⟨g, 4, none⟩) (n - 4) (c - 4)) (l.drop 4) := by
  obtain ⟨A, c', e1, h1, h2, h3⟩ := h.cap
  injection e1 with e1 e2 e3
  subst e1 e2 e3
  refine ⟨_, _, _, rfl, by omega, by omega, ?_⟩
  have := h3.tail 4 h4
  rwa [Nat.zero_add] at this
theorem Own.readsEnd {e : TypeId} {w : World} {base n c : Nat} {A A' : Option Addr} {l : List Int} (h : Own .u8 e w base (.slice A n c) l) (h4 : 4 = n) : Reads w (.slice A' 0 0) (l.drop 4) := by
  have hl := h.intsAt.2
  have : l.drop 4 = [] := List.drop_eq_nil_of_le (by omega)
  rw [this]
  exact ⟨_, _, _, rfl, Nat.le_refl _, by omega, ⟨rfl, fun h => absurd h (by omega), by simp⟩⟩
/-- The slice value v holds the bytes l, in a block from B on. -/
def ReadsF (B : Nat) (w : World) (v : Value) (l : List Int) : Prop := ∃ A n c, v = .slice A n c ∧ n ≤ c ∧ c ≤ 9223372036854775807 ∧ Ints .u8 w w.heap.size A n l ∧ ∀ a, A = some a → B ≤ a.block
theorem ReadsF.reads {B : Nat} {w : World} {v : Value} {l : List Int} (h : ReadsF B w v l) : Reads w v l := by
  obtain ⟨A, n, c, h1, h2, h3, h4, _⟩ := h
  exact ⟨A, n, c, h1, h2, h3, h4⟩
theorem ReadsF.below {B : Nat} {w w' : World} {v : Value} {l : List Int} (h : ReadsF B w v l) (hB : Below w.heap.size w w') : ReadsF B w' v l := by
  obtain ⟨A, n, c, h1, h2, h3, h4, h5⟩ := h
  exact ⟨A, n, c, h1, h2, h3, (h4.below hB).up hB.size, h5⟩
theorem ReadsF.put {B g : Nat} {w : World} {v : Value} {l : List Int} (h : ReadsF B w v l) (hg : g < B) (j : Nat) (u : Value) : ReadsF B (w.setCell ⟨g, j, none⟩ u) v l := by
  obtain ⟨A, n, c, h1, h2, h3, h4, h5⟩ := h
  refine ⟨A, n, c, h1, h2, h3, ⟨h4.1, fun hn => ?_, h4.2.2⟩, h5⟩
  obtain ⟨b, off, e, hb, hc⟩ := h4.2.1 hn
  have hne : g ≠ b := by have := h5 _ e; simp only at this; omega
  refine ⟨b, off, e, by simpa [World.setCell] using hb, fun i hi => ?_⟩
  exact (World.cell?_of_block (a := ⟨b, off + i, none⟩) (Below.heap_setCell w ⟨g, j, none⟩ u b (fun e => hne e.symm))).trans (hc i hi)
theorem Own.readsTailF {e : TypeId} {w : World} {base g n c B : Nat} {l : List Int} (h : Own .u8 e w base (.slice (some ⟨g, 0, none⟩) n c) l) (h4 : 4 ≤ n) (hB : B ≤ base) : ReadsF B w (.slice (some ⟨g, 4, none⟩) (n - 4) (c - 4)) (l.drop 4) := by
  obtain ⟨A, n', c', e1, h1, h2, h3⟩ := h.readsTail h4
  refine ⟨A, n', c', e1, h1, h2, h3, fun a ha => ?_⟩
  injection e1 with e1 _ _
  rw [← e1] at ha
  injection ha with ha
  rw [← ha]
  have := (h.block (b := g) rfl).1
  show B ≤ g
  omega
theorem Own.readsEndF {e : TypeId} {w : World} {base g n c B : Nat} {l : List Int} (h : Own .u8 e w base (.slice (some ⟨g, 0, none⟩) n c) l) (h4 : 4 = n) (hB : B ≤ base) : ReadsF B w (.slice (some ⟨g, 0, none⟩) 0 0) (l.drop 4) := by
  obtain ⟨A, n', c', e1, h1, h2, h3⟩ := h.readsEnd (A' := some ⟨g, 0, none⟩) h4
  refine ⟨A, n', c', e1, h1, h2, h3, fun a ha => ?_⟩
  injection e1 with e1 _ _
  rw [← e1] at ha
  injection ha with ha
  rw [← ha]
  have := (h.block (b := g) rfl).1
  show B ≤ g
  omega
theorem Own.readsF {e : TypeId} {w : World} {base B : Nat} {v : Value} {l : List Int} (h : Own .u8 e w base v l) (hB : B ≤ base) : ReadsF B w v l := by
  obtain ⟨A, c, rfl, h1, h2, h3⟩ := h.cap
  refine ⟨A, _, c, rfl, h1, h2, h3, fun a ha => ?_⟩
  subst ha
  have := (h.block (b := a.block) rfl).1
  omega
theorem ReadsF.nil (B : Nat) (w : World) : ReadsF B w (.slice none 0 0) [] := ⟨none, 0, 0, rfl, Nat.le_refl _, by omega, Ints.nil, fun a h => by cases h⟩
theorem ReadsF.lower {B B' : Nat} {w : World} {v : Value} {l : List Int} (h : ReadsF B w v l) (hB : B' ≤ B) : ReadsF B' w v l := by
  obtain ⟨A, n, c, h1, h2, h3, h4, h5⟩ := h
  exact ⟨A, n, c, h1, h2, h3, h4, fun a ha => Nat.le_trans hB (h5 a ha)⟩
end Go.Proofs.Ytjehcmmbbjidkaa
