/-
  Row, Ty, Mk: texts joined.
-/
import Derived.Test.YtnfmjgldcnokbaaKGh
import Derived.Laws.MakeOwn
namespace Go.Proofs.Ytnfmjgldcnokbaa
set_option linter.unusedVariables false
open Go.RowKit
section
variable {α : Type} {t : Ty α} {w w' : World} {B n c i K : Nat} {A : Option Addr} {v : Value} {l : List α} {a a' : α} {F Fi G : List Nat} {es es' : List Value}

end
/-! ### cells written one behind the other -/
section
variable {α : Type}
/-- Block g has room for n things; the first ones are l, a call's own. -/
def Fill (t : Ty α) (w : World) (g : Nat) (e : TypeId) (n : Nat) (l : List α) (F : List Nat) : Prop :=
  ∃ (cur : Array Value) (Fs : List (List Nat)), w.heap[g]? = some (.cells cur e (0, 0)) ∧ cur.size = n * t.k ∧ l.length ≤ n ∧ Fs.length = l.length ∧ F = Fs.flatten ∧
    ∀ i a Fi, l[i]? = some a → Fs[i]? = some Fi → ∃ es, (∀ j, j < t.k → cur[i * t.k + j]? = es[j]?) ∧ t.O w es a Fi
variable {t : Ty α} {w w' : World} {g n : Nat} {e : TypeId} {l : List α} {F Fa : List Nat} {a : α} {es : List Value}
theorem Fill.cell (h : Fill t w g e n l F) (hl : l.length < n) {j K : Nat} (hK : t.k = K) (hj : j < K) : ∃ u, w.cell? ⟨g, l.length * K + j, none⟩ = some u := by
  subst hK
  obtain ⟨cur, Fs, h1, h2, _⟩ := h
  have : (l.length + 1) * t.k ≤ n * t.k := Nat.mul_le_mul_right _ hl
  rw [Nat.succ_mul] at this
  rw [Box.cell (t := e) h1, Array.getElem?_eq_getElem (by omega)]
  exact ⟨_, rfl⟩
theorem Fill.frozen (h : Fill t w g e n l F) (q : Nat) : w.frozen? ⟨g, q, none⟩ = false := by
  obtain ⟨cur, Fs, h1, _⟩ := h
  exact Box.frozen (t := e) h1 q
theorem Fill.keep (h : Fill t w g e n l F) (hg : w'.heap[g]? = w.heap[g]?) (hF : ∀ f ∈ F, w'.heap[f]? = w.heap[f]?) : Fill t w' g e n l F := by
  obtain ⟨cur, Fs, h1, h2, h3, h4, rfl, h6⟩ := h
  refine ⟨cur, Fs, hg.trans h1, h2, h3, h4, rfl, fun i a Fi hi hf => ?_⟩
  obtain ⟨es, k1, k2⟩ := h6 i a Fi hi hf
  exact ⟨es, k1, t.kept k2 fun f hff => hF f (mem_flat hf hff)⟩
theorem Fill.size (h : Fill t w g e n l F) : g < w.heap.size := by
  obtain ⟨cur, Fs, h1, _⟩ := h
  exact Box.size (t := e) h1
theorem Fill.lt (h : Fill t w g e n l F) : ∀ f ∈ F, f < w.heap.size := by
  obtain ⟨cur, Fs, h1, h2, h3, h4, rfl, h6⟩ := h
  intro f hf
  obtain ⟨Fi, hFi, hfi⟩ := List.mem_flatten.1 hf
  obtain ⟨i, hi, e1⟩ := List.getElem_of_mem hFi
  have hi' : i < l.length := h4 ▸ hi
  obtain ⟨es, _, k2⟩ := h6 i _ Fi (List.getElem?_eq_getElem hi') (by rw [List.getElem?_eq_getElem hi, e1])
  exact t.lt k2 f hfi
theorem Fill.below (h : Fill t w g e n l F) (hB : Below w.heap.size w w') : Fill t w' g e n l F := h.keep (hB.block g h.size) fun f hf => hB.block f (h.lt f hf)
theorem Fill.done (h : Fill t w g e n l F) (hl : l.length = n) (hm : n ≤ 9223372036854775807) : ∃ F', t.rowO w [.slice (some ⟨g, 0, none⟩) l.length n] l F' ∧ (F' = [] ∨ F' = g :: F) := by
  obtain ⟨cur, Fs, h1, h2, h3, h4, rfl, h6⟩ := h
  by_cases h0 : 0 < l.length
  · exact ⟨g :: Fs.flatten, .inr ⟨g, 0, n, cur, e, Fs, rfl, h0, by omega, hm, h1, h4, rfl, fun i a Fi hi hf => by simpa using h6 i a Fi hi hf⟩, .inr rfl⟩
  · have : l = [] := List.eq_nil_of_length_eq_zero (by omega)
    subst this
    exact ⟨[], .inl ⟨_, n, rfl, hm, rfl, rfl⟩, .inl rfl⟩
theorem New.cons {B : Nat} {F F' : List Nat} (h : New (B + 1) F) (h' : F' = [] ∨ F' = B :: F) : New B F' := by
  rcases h' with rfl | rfl
  · exact New.nil _
  · exact ⟨List.nodup_cons.2 ⟨fun hx => by have := h.2 _ hx; omega, h.1⟩, fun f hf => by rcases List.mem_cons.1 hf with rfl | hf; exact Nat.le_refl _; have := h.2 _ hf; omega⟩
theorem New.not {B g : Nat} {F : List Nat} (h : New B F) (hg : g < B) : g ∉ F := fun hx => by have := h.2 _ hx; omega
end
end Go.Proofs.Ytnfmjgldcnokbaa
namespace Go.Proofs.Ytnfmjgldcnokbaa
set_option linter.unusedVariables false
open Go.RowKit
theorem tInt.mk {w : World} {B : Nat} {x : Int} (h : (Lit.int .i64 x).wf = true) : tInt.R w B [.int .i64 x] x := ⟨rfl, h⟩
theorem sl_one {K : IntKind} {w : World} {B : Nat} {cs : List Value} {l : List Int} (h : (tSl K).R w B cs l) : ∃ A n c, cs = [.slice A n c] ∧ n ≤ c ∧ c ≤ 9223372036854775807 ∧ Ints K w B A n l := h
theorem slO_one {K : IntKind} {w : World} {cs : List Value} {l : List Int} {F : List Nat} (h : (tSl K).O w cs l F) : ∃ A c, cs = [.slice A l.length c] ∧ l.length ≤ c ∧ c ≤ 9223372036854775807 := by
  rcases h with ⟨A, c, h1, h2, rfl, _⟩ | ⟨g, off, c, cur, t, h1, h2, h3, h4, _⟩
  · exact ⟨A, c, h1, Nat.zero_le _, h2⟩
  · exact ⟨_, c, h1, h3, h4⟩
/-! ### Cell -/
abbrev DCell := List Int
abbrev tCell : Ty DCell := tBy
def szCell (p : DCell) : Nat := (p).length
/-! ### Peeled -/
abbrev DPeeled := Int × Int × Int × List Int × DCell
abbrev tPeeled : Ty DPeeled := tInt.prod (tInt.prod (tInt.prod (tBy.prod (tCell))))
theorem openPeeled {w : World} {B : Nat} {cs : List Value} {p : DPeeled} (h : tPeeled.R w B cs p) : ∃ A3 n3 c3 A4 n4 c4, cs = [.int .i64 (p.1), .int .i64 (p.2.1), .int .i64 (p.2.2.1), .slice A3 n3 c3, .slice A4 n4 c4] ∧ (Lit.int .i64 (p.1)).wf = true ∧ (Lit.int .i64 (p.2.1)).wf = true ∧ (Lit.int .i64 (p.2.2.1)).wf = true ∧ n3 ≤ c3 ∧ c3 ≤ 9223372036854775807 ∧ (p.2.2.2.1).length = n3 ∧ tBy.R w B [.slice A3 n3 c3] (p.2.2.2.1) ∧ n4 ≤ c4 ∧ c4 ≤ 9223372036854775807 ∧ (p.2.2.2.2).length = n4 ∧ tBy.R w B [.slice A4 n4 c4] (p.2.2.2.2) := by
  obtain ⟨ca1, cb1, rfl, ha1, hb1⟩ := h
  obtain ⟨rfl, hi2⟩ := ha1
  obtain ⟨ca3, cb3, rfl, ha3, hb3⟩ := hb1
  obtain ⟨rfl, hi4⟩ := ha3
  obtain ⟨ca5, cb5, rfl, ha5, hb5⟩ := hb3
  obtain ⟨rfl, hi6⟩ := ha5
  obtain ⟨ca7, cb7, rfl, ha7, hb7⟩ := hb5
  obtain ⟨A8, n8, c8, rfl, he8, hf8, hg8⟩ := sl_one ha7
  obtain ⟨A9, n9, c9, rfl, he9, hf9, hg9⟩ := sl_one hb7
  exact ⟨A8, n8, c8, A9, n9, c9, rfl, hi2, hi4, hi6, he8, hf8, hg8.1, ⟨A8, n8, c8, rfl, he8, hf8, hg8⟩, he9, hf9, hg9.1, ⟨A9, n9, c9, rfl, he9, hf9, hg9⟩⟩
theorem makeOPeeled {w : World} {p : DPeeled} {v3 v4 : Value} {F3 F4 : List Nat} (h0 : (Lit.int .i64 (p.1)).wf = true) (h1 : (Lit.int .i64 (p.2.1)).wf = true) (h2 : (Lit.int .i64 (p.2.2.1)).wf = true) (h3 : tBy.O w [v3] (p.2.2.2.1) F3) (h4 : tBy.O w [v4] (p.2.2.2.2) F4) : ∃ F, tPeeled.O w [.int .i64 (p.1), .int .i64 (p.2.1), .int .i64 (p.2.2.1), v3, v4] p F ∧ F = F3 ++ F4 := ⟨_, ⟨_, _, _, _, rfl, rfl, ⟨rfl, h0, rfl⟩, ⟨_, _, _, _, rfl, rfl, ⟨rfl, h1, rfl⟩, ⟨_, _, _, _, rfl, rfl, ⟨rfl, h2, rfl⟩, ⟨_, _, _, _, rfl, rfl, h3, h4⟩⟩⟩⟩, by simp⟩
/-! ### Piece -/
/-! ### Whole -/
/-! ### Desk -/
/-! ### Held -/
/-! ### Pool -/
/-! ### Letter -/
/-! ### Node -/
/-! ### Mail -/
/-! ### Sent -/
/-! ### Glance -/
/-! ### Net -/
/-! ### Cmd -/
end Go.Proofs.Ytnfmjgldcnokbaa
namespace Go.Proofs.Ytnfmjgldcnokbaa
open Go.ChangeShapes Go.WideShapes Go.ChangeAt Go.RowKit
theorem sliceO.row {K : IntKind} {w : World} {n c : Nat} {A : Option Addr} {l : List Int} {F : List Nat} (h : sliceO K w [.slice A n c] l F) (hn : 0 < n) :
    ∃ g off, A = some ⟨g, off, none⟩ ∧ l.length = n ∧ n ≤ c ∧ c ≤ 9223372036854775807 ∧ (∀ i, i < n → w.cell? ⟨g, off + i, none⟩ = some (.int K (l.getD i 0))) ∧ (∀ i, w.frozen? ⟨g, i, none⟩ = false) ∧ F = [g] ∧ g < w.heap.size := by
  rcases h with ⟨A, c, h1, h2, rfl, _⟩ | ⟨g, off, c, cur, t, h1, h2, h3, h4, h5, h6, h7, rfl⟩
  · injection h1 with h1 _; injection h1 with _ e2 _; omega
  · injection h1 with h1 _; injection h1 with e1 e2 e3
    subst e1 e2 e3
    exact ⟨g, off, rfl, rfl, h3, h4, fun i hi => by rw [Box.cell (t := t) h5]; exact h6 i hi, fun i => Box.frozen (t := t) h5 i, rfl, Box.size (t := t) h5⟩
theorem sliceO.len {K : IntKind} {w : World} {n c : Nat} {A : Option Addr} {l : List Int} {F : List Nat} (h : sliceO K w [.slice A n c] l F) : l.length = n ∧ n ≤ c ∧ c ≤ 9223372036854775807 := by
  rcases h with ⟨A, c, h1, h2, rfl, _⟩ | ⟨g, off, c, cur, t, h1, h2, h3, h4, h5, h6, h7, rfl⟩
  · injection h1 with h1 _; injection h1 with _ e2 e3; subst e2 e3; exact ⟨rfl, Nat.zero_le _, h2⟩
  · injection h1 with h1 _; injection h1 with e1 e2 e3
    subst e1 e2 e3
    exact ⟨rfl, h3, h4⟩
theorem sliceO.put {K : IntKind} {w : World} {n c g off : Nat} {l : List Int} {F : List Nat} (h : sliceO K w [.slice (some ⟨g, off, none⟩) n c] l F) {i : Nat} (hi : i < n) {x : Int} (hx : (Lit.int K x).wf = true) :
    sliceO K (w.setCell ⟨g, off + i, none⟩ (.int K x)) [.slice (some ⟨g, off, none⟩) n c] (l.set i x) F := by
  rcases h with ⟨A, c, h1, h2, rfl, _⟩ | ⟨g, off, c, cur, t, h1, h2, h3, h4, h5, h6, h7, rfl⟩
  · injection h1 with h1 _; injection h1 with _ e2 _; omega
  · injection h1 with h1 _; injection h1 with e1 e2 e3
    injection e1 with e1
    injection e1 with e1 e4
    subst e1 e2 e3 e4
    have hb : off + i < cur.size := by
      have := h6 i hi
      by_cases hl : off + i < cur.size
      · exact hl
      · rw [Array.getElem?_eq_none (by omega)] at this; cases this
    refine .inr ⟨g, off, c, _, t, by rw [List.length_set], by rw [List.length_set]; omega, by rw [List.length_set]; omega, h4, Box.put (t := t) h5 (off + i) _, fun j hj => ?_, fun y hy => ?_, rfl⟩
    · rw [List.length_set] at hj
      rw [Array.getElem?_setIfInBounds]
      by_cases hij : off + i = off + j
      · have : i = j := by omega
        subst this
        rw [if_pos rfl, if_pos hb, List.getD_eq_getElem?_getD, List.getElem?_set_self hj]; rfl
      · rw [if_neg hij, h6 j hj, List.getD_eq_getElem?_getD, List.getD_eq_getElem?_getD, List.getElem?_set_ne (by omega)]
    · rcases List.mem_or_eq_of_mem_set hy with h' | rfl
      · exact h7 y h'
      · exact hx
/-- A slice that reads, as integers. -/
theorem slR_ints {K : IntKind} {w : World} {B n c : Nat} {A : Option Addr} {l : List Int} (h : (tSl K).R w B [.slice A n c] l) : Ints K w B A n l ∧ n ≤ c ∧ c ≤ 9223372036854775807 := by
  obtain ⟨A', n', c', h1, h2, h3, h4⟩ := h
  injection h1 with h1 _; injection h1 with e1 e2 e3
  subst e1 e2 e3
  exact ⟨h4, h2, h3⟩
theorem ints_slR {K : IntKind} {w : World} {B n c : Nat} {A : Option Addr} {l : List Int} (h : Ints K w B A n l) (h1 : n ≤ c) (h2 : c ≤ 9223372036854775807) : (tSl K).R w B [.slice A n c] l := ⟨A, n, c, rfl, h1, h2, h⟩
theorem Ty.far {α : Type} {t : Ty α} {w : World} {cs : List Value} {a : α} {F : List Nat} {B : Nat} (h : t.O w cs a F) (hN : New B F) {p : Addr} (hp : p.block < B) (u : Value) : t.O (w.setCell p u) cs a F :=
  t.kept h fun f hf => Below.heap_setCell w p u f (by rintro rfl; have := hN.2 _ hf; omega)
/-- A cell of an element, behind what left the old blocks alone. -/
theorem cell_at {w w' : World} {b o : Nat} {v : Value} (hB : Below w.heap.size w w') (hb : b < w.heap.size) (h : w.cell? ⟨b, o, none⟩ = some v) : w'.cell? ⟨b, o, none⟩ = some v :=
  (World.cell?_of_block (hB.block b hb)).trans h
theorem New.only {B : Nat} {F : List Nat} (h : New B F) : F.Nodup := h.1
end Go.Proofs.Ytnfmjgldcnokbaa
