/-
  A slice value that is read; what is peeled, as both sides answer it.
-/
import Derived.Test.YtpapkonejkdkhaaOnion
import Derived.Test.YtpapkonejkdkhaaCell
import Derived.Test.YtpapkonejkdkhaaSpecTwo
import Derived.Test.YtpapkonejkdkhaaRd
namespace Go.Proofs.Ytpapkonejkdkhaa
open Go.ChangeShapes Go.WideShapes Go.ChangeAt Go.RowKit
open Fld

/-- The slice value v holds the bytes l. -/
def Reads (w : World) (v : Value) (l : List Int) : Prop := ∃ A n c, v = .slice A n c ∧ n ≤ c ∧ c ≤ 9223372036854775807 ∧ Ints .u8 w w.heap.size A n l
theorem Reads.nil (w : World) : Reads w (.slice none 0 0) [] := ⟨none, 0, 0, rfl, Nat.le_refl _, by omega, Ints.nil⟩
theorem Reads.below {w w' : World} {v : Value} {l : List Int} (h : Reads w v l) (hB : Below w.heap.size w w') : Reads w' v l := by
  obtain ⟨A, n, c, h1, h2, h3, h4⟩ := h
  exact ⟨A, n, c, h1, h2, h3, (h4.below hB).up hB.size⟩
theorem Own.cap {k : IntKind} {e : TypeId} {w : World} {base : Nat} {v : Value} {l : List Int} (h : Own k e w base v l) : ∃ A c, v = .slice A l.length c ∧ l.length ≤ c ∧ c ≤ 9223372036854775807 ∧ Ints k w w.heap.size A l.length l := by
  obtain ⟨A, c, rfl, h1, h2, _⟩ := h.ints
  refine ⟨A, c, rfl, h1, ?_, h2⟩
  rcases h.1.2 with ⟨e, _⟩ | ⟨g, cap, cur, e, _, _, _, hm, _⟩
  · injection e with _ _ e3; omega
  · injection e with _ _ e3; rw [e3]; exact hm
theorem Own.reads {e : TypeId} {w : World} {base : Nat} {v : Value} {l : List Int} (h : Own .u8 e w base v l) : Reads w v l := by
  obtain ⟨A, c, rfl, h1, h2, h3⟩ := h.cap
  exact ⟨A, _, c, rfl, h1, h2, h3⟩
/-- What l3peel answers. -/
def ppeel (s : Int) (c pad : List Int) : Pel × Bool := if peels s c then (peelV s c pad, true) else (Pel.zero, false)
theorem ppeel_t {s : Int} {c pad : List Int} (h : peels s c) : ppeel s c pad = (peelV s c pad, true) := if_pos h
theorem ppeel_f {s : Int} {c pad : List Int} (h : ¬ peels s c) : ppeel s c pad = (Pel.zero, false) := if_neg h

theorem Own.away {k : IntKind} {e : TypeId} {w : World} {base g : Nat} {v : Value} {l : List Int} (h : Own k e w base v l) (hg : ∀ b, v.ownBlock = some b → b ≠ g) (j : Nat) (u : Value) : Own k e (w.setCell ⟨g, j, none⟩ u) base v l :=
  h.kept (gb_put (World.grownBy.refl _ _) j u) (by
    cases hv : v.ownBlock with
    | none => exact .inl rfl
    | some b => exact .inr (fun e => by injection e with e; exact hg b hv e))
theorem Own.readsTail {e : TypeId} {w : World} {base g n c : Nat} {l : List Int} (h : Own .u8 e w base (.slice (some ⟨g, 0, none⟩) n c) l) (h4 : 4 ≤ n) : Reads w (.slice (some ⟨g, 4, none⟩) (n - 4) (c - 4)) (l.drop 4) := by
  obtain ⟨A, c', e1, h1, h2, h3⟩ := h.cap
  injection e1 with e1 e2 e3
  subst e1 e2 e3
  refine ⟨_, _, _, rfl, by omega, by omega, ?_⟩
  have := h3.tail 4 h4
  rwa [Nat.zero_add] at this
theorem Own.readsEnd {e : TypeId} {w : World} {base n c : Nat} {A A' : Option Addr} {l : List Int} (h : Own .u8 e w base (.slice A n c) l) (h4 : 4 = n) : Reads w (.slice A' 0 0) (l.drop 4) := by
  have hl := h.intsAt.2
  have : l.drop 4 = [] := List.drop_eq_nil_of_le (by omega)
  rw [this]
  exact ⟨_, _, _, rfl, Nat.le_refl _, by omega, ⟨rfl, fun h => absurd h (by omega), by simp⟩⟩
/-- The slice value v holds the bytes l, in a block from B on, and owns them. -/
def ReadsF (B : Nat) (w : World) (v : Value) (l : List Int) : Prop := ∃ A n c, v = .slice A n c ∧ n ≤ c ∧ c ≤ 9223372036854775807 ∧ Ints .u8 w w.heap.size A n l ∧ (∀ a, A = some a → B ≤ a.block) ∧ ∃ F, tBy.O w [v] l F ∧ New B F
theorem ReadsF.reads {B : Nat} {w : World} {v : Value} {l : List Int} (h : ReadsF B w v l) : Reads w v l := by
  obtain ⟨A, n, c, h1, h2, h3, h4, _⟩ := h
  exact ⟨A, n, c, h1, h2, h3, h4⟩
theorem ReadsF.own {B : Nat} {w : World} {v : Value} {l : List Int} (h : ReadsF B w v l) : ∃ F, tBy.O w [v] l F ∧ New B F := by
  obtain ⟨A, n, c, h1, h2, h3, h4, _, h5⟩ := h
  exact h5
theorem ReadsF.below {B : Nat} {w w' : World} {v : Value} {l : List Int} (h : ReadsF B w v l) (hB : Below w.heap.size w w') : ReadsF B w' v l := by
  obtain ⟨A, n, c, h1, h2, h3, h4, h5, F, h6, h7⟩ := h
  exact ⟨A, n, c, h1, h2, h3, (h4.below hB).up hB.size, h5, F, Ty.below (t := tBy) h6 hB, h7⟩
theorem ReadsF.put {B g : Nat} {w : World} {v : Value} {l : List Int} (h : ReadsF B w v l) (hg : g < B) (j : Nat) (u : Value) : ReadsF B (w.setCell ⟨g, j, none⟩ u) v l := by
  obtain ⟨A, n, c, h1, h2, h3, h4, h5, F, h6, h7⟩ := h
  refine ⟨A, n, c, h1, h2, h3, ⟨h4.1, fun hn => ?_, h4.2.2⟩, h5, F, tBy.kept h6 (fun f hf => Below.heap_setCell w ⟨g, j, none⟩ u f (fun e => by have := h7.2 f hf; have e' : f = g := e; omega)), h7⟩
  obtain ⟨b, off, e, hb, hc⟩ := h4.2.1 hn
  have hne : g ≠ b := by have := h5 _ e; simp only at this; omega
  refine ⟨b, off, e, by simpa [World.setCell] using hb, fun i hi => ?_⟩
  exact (World.cell?_of_block (a := ⟨b, off + i, none⟩) (Below.heap_setCell w ⟨g, j, none⟩ u b (fun e => hne e.symm))).trans (hc i hi)
theorem Own.readsTailF {e : TypeId} {w : World} {base g n c B : Nat} {l : List Int} (h : Own .u8 e w base (.slice (some ⟨g, 0, none⟩) n c) l) (h4 : 4 ≤ n) (hB : B ≤ base) : ReadsF B w (.slice (some ⟨g, 4, none⟩) (n - 4) (c - 4)) (l.drop 4) := by
  obtain ⟨A, n', c', e1, h1, h2, h3⟩ := h.readsTail h4
  have hown : ∃ F, tBy.O w [.slice (some ⟨g, 4, none⟩) (n - 4) (c - 4)] (l.drop 4) F ∧ New B F := by
    have hb := (h.block (b := g) rfl).1
    have hl : l.length = n := h.intsAt.2
    obtain ⟨F, hO, hF⟩ := h.tSl
    rcases hO with ⟨A1, c1, q1, q2, q3, q4⟩ | ⟨g1, off, c1, cur, t, q1, q2, q3, q4, q5, q6, q7, q8⟩
    · subst q3
      have : n = 0 := by rw [← hl]; rfl
      omega
    · injection q1 with q1 _
      injection q1 with q1 _ q1c
      injection q1 with q1
      injection q1 with q1a q1b _
      subst q1a q1b q1c
      by_cases h5 : 4 = n
      · have hd : l.drop 4 = [] := List.drop_eq_nil_of_le (by omega)
        rw [hd, ← h5]
        exact ⟨[], .inl ⟨_, _, rfl, by omega, rfl, rfl⟩, New.nil _⟩
      · refine ⟨[g], .inr ⟨g, 4, c - 4, cur, t, by rw [List.length_drop, hl], by rw [List.length_drop]; omega, by rw [List.length_drop]; omega, by omega, q5, fun i hi => ?_, fun x hx => q7 x (List.mem_of_mem_drop hx), rfl⟩, ⟨by simp, fun f hf => by rw [List.mem_singleton] at hf; omega⟩⟩
        have := q6 (4 + i) (by rw [List.length_drop] at hi; omega)
        rw [Nat.zero_add] at this
        rw [this, List.getD_eq_getElem?_getD, List.getD_eq_getElem?_getD, List.getElem?_drop]
  refine ⟨A, n', c', e1, h1, h2, h3, fun a ha => ?_, hown⟩
  injection e1 with e1 _ _
  rw [← e1] at ha
  injection ha with ha
  rw [← ha]
  have := (h.block (b := g) rfl).1
  show B ≤ g
  omega
theorem Own.readsEndF {e : TypeId} {w : World} {base g n c B : Nat} {l : List Int} (h : Own .u8 e w base (.slice (some ⟨g, 0, none⟩) n c) l) (h4 : 4 = n) (hB : B ≤ base) : ReadsF B w (.slice (some ⟨g, 0, none⟩) 0 0) (l.drop 4) := by
  obtain ⟨A, n', c', e1, h1, h2, h3⟩ := h.readsEnd (A' := some ⟨g, 0, none⟩) h4
  have hd : l.drop 4 = [] := List.drop_eq_nil_of_le (by have := h.intsAt.2; omega)
  refine ⟨A, n', c', e1, h1, h2, h3, fun a ha => ?_, [], by rw [hd]; exact .inl ⟨_, _, rfl, by omega, rfl, rfl⟩, New.nil _⟩
  injection e1 with e1 _ _
  rw [← e1] at ha
  injection ha with ha
  rw [← ha]
  have := (h.block (b := g) rfl).1
  show B ≤ g
  omega
theorem Own.readsF {e : TypeId} {w : World} {base B : Nat} {v : Value} {l : List Int} (h : Own .u8 e w base v l) (hB : B ≤ base) : ReadsF B w v l := by
  obtain ⟨F, hO, hF⟩ := h.tSl
  obtain ⟨A, c, rfl, h1, h2, h3⟩ := h.cap
  refine ⟨A, _, c, rfl, h1, h2, h3, fun a ha => ?_, F, hO, hF.lower hB⟩
  subst ha
  have := (h.block (b := a.block) rfl).1
  omega
theorem ReadsF.nil (B : Nat) (w : World) : ReadsF B w (.slice none 0 0) [] := ⟨none, 0, 0, rfl, Nat.le_refl _, by omega, Ints.nil, (fun a h => by cases h), [], .inl ⟨_, _, rfl, by omega, rfl, rfl⟩, New.nil _⟩
theorem ReadsF.lower {B B' : Nat} {w : World} {v : Value} {l : List Int} (h : ReadsF B w v l) (hB : B' ≤ B) : ReadsF B' w v l := by
  obtain ⟨A, n, c, h1, h2, h3, h4, h5, F, h6, h7⟩ := h
  exact ⟨A, n, c, h1, h2, h3, h4, fun a ha => Nat.le_trans hB (h5 a ha), F, h6, h7.lower hB⟩
/-- An own slice that is empty owns no block. -/
theorem ownNil {w : World} {v : Value} {F : List Nat} (h : tBy.O w [v] [] F) : F = [] := by
  rcases h with ⟨_, _, _, _, _, h⟩ | ⟨_, _, _, _, _, _, h, _⟩
  · exact h
  · exact absurd h (by simp)
end Go.Proofs.Ytpapkonejkdkhaa
