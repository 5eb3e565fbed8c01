/-
  Row, Ty, Mk, PHeld, PNil, Grow, All: texts joined.
-/
import Derived.Test.YtblcfncjghkegaaPGh
import Derived.Laws.MakeOwn
namespace Go.Proofs.Ytblcfncjghkegaa
set_option linter.unusedVariables false
open Go.RowKit
section
variable {α : Type} {t : Ty α} {w w' : World} {B n c i K : Nat} {A : Option Addr} {v : Value} {l : List α} {a a' : α} {F Fi G : List Nat} {es es' : List Value}

theorem rowR_len (h : t.rowR w B [.slice A n c] l) : l.length = n ∧ n ≤ c ∧ c ≤ 9223372036854775807 := by
  obtain ⟨A', n', c', h1, h2, h3, h4, _⟩ := h
  injection h1 with h1 _
  injection h1 with e1 e2 e3
  subst e1 e2 e3
  exact ⟨h4, h2, h3⟩
theorem rowR_at (h : t.rowR w B [.slice A n c] l) (hi : i < n) (hK : t.k = K) : ∃ a b off es, l[i]? = some a ∧ A = some ⟨b, off, none⟩ ∧ b < B ∧ (∀ j, j < K → w.cell? ⟨b, off + i * K + j, none⟩ = es[j]?) ∧ t.R w B es a := by
  obtain ⟨A', n', c', h1, h2, h3, h4, h5⟩ := h
  injection h1 with h1 _
  injection h1 with e1 e2 e3
  subst e1 e2 e3 hK
  obtain ⟨b, off, e, hb, hc⟩ := h5 (by omega)
  have hl : l[i]? = some (l[i]'(by omega)) := List.getElem?_eq_getElem (by omega)
  obtain ⟨es, k1, k2⟩ := hc i _ hl
  exact ⟨_, b, off, es, hl, e, hb, k1, k2⟩
end
/-! ### cells written one behind the other -/
section
variable {α : Type}
/-- Block g has room for n things; the first ones are l, a call's own. -/
def Fill (t : Ty α) (w : World) (g : Nat) (e : TypeId) (n : Nat) (l : List α) (F : List Nat) : Prop :=
  ∃ (cur : Array Value) (Fs : List (List Nat)), w.heap[g]? = some (.cells cur e (0, 0)) ∧ cur.size = n * t.k ∧ l.length ≤ n ∧ Fs.length = l.length ∧ F = Fs.flatten ∧
    ∀ i a Fi, l[i]? = some a → Fs[i]? = some Fi → ∃ es, (∀ j, j < t.k → cur[i * t.k + j]? = es[j]?) ∧ t.O w es a Fi
variable {t : Ty α} {w w' : World} {g n : Nat} {e : TypeId} {l : List α} {F Fa : List Nat} {a : α} {es : List Value}
theorem Fill.cell (h : Fill t w g e n l F) (hl : l.length < n) {j K : Nat} (hK : t.k = K) (hj : j < K) : ∃ u, w.cell? ⟨g, l.length * K + j, none⟩ = some u := by
  subst hK
  obtain ⟨cur, Fs, h1, h2, _⟩ := h
  have : (l.length + 1) * t.k ≤ n * t.k := Nat.mul_le_mul_right _ hl
  rw [Nat.succ_mul] at this
  rw [Box.cell (t := e) h1, Array.getElem?_eq_getElem (by omega)]
  exact ⟨_, rfl⟩
theorem Fill.frozen (h : Fill t w g e n l F) (q : Nat) : w.frozen? ⟨g, q, none⟩ = false := by
  obtain ⟨cur, Fs, h1, _⟩ := h
  exact Box.frozen (t := e) h1 q
theorem Fill.keep (h : Fill t w g e n l F) (hg : w'.heap[g]? = w.heap[g]?) (hF : ∀ f ∈ F, w'.heap[f]? = w.heap[f]?) : Fill t w' g e n l F := by
  obtain ⟨cur, Fs, h1, h2, h3, h4, rfl, h6⟩ := h
  refine ⟨cur, Fs, hg.trans h1, h2, h3, h4, rfl, fun i a Fi hi hf => ?_⟩
  obtain ⟨es, k1, k2⟩ := h6 i a Fi hi hf
  exact ⟨es, k1, t.kept k2 fun f hff => hF f (mem_flat hf hff)⟩
theorem Fill.size (h : Fill t w g e n l F) : g < w.heap.size := by
  obtain ⟨cur, Fs, h1, _⟩ := h
  exact Box.size (t := e) h1
theorem Fill.lt (h : Fill t w g e n l F) : ∀ f ∈ F, f < w.heap.size := by
  obtain ⟨cur, Fs, h1, h2, h3, h4, rfl, h6⟩ := h
  intro f hf
  obtain ⟨Fi, hFi, hfi⟩ := List.mem_flatten.1 hf
  obtain ⟨i, hi, e1⟩ := List.getElem_of_mem hFi
  have hi' : i < l.length := h4 ▸ hi
  obtain ⟨es, _, k2⟩ := h6 i _ Fi (List.getElem?_eq_getElem hi') (by rw [List.getElem?_eq_getElem hi, e1])
  exact t.lt k2 f hfi
theorem Fill.below (h : Fill t w g e n l F) (hB : Below w.heap.size w w') : Fill t w' g e n l F := h.keep (hB.block g h.size) fun f hf => hB.block f (h.lt f hf)
theorem Fill.done (h : Fill t w g e n l F) (hl : l.length = n) (hm : n ≤ 9223372036854775807) : ∃ F', t.rowO w [.slice (some ⟨g, 0, none⟩) l.length n] l F' ∧ (F' = [] ∨ F' = g :: F) := by
  obtain ⟨cur, Fs, h1, h2, h3, h4, rfl, h6⟩ := h
  by_cases h0 : 0 < l.length
  · exact ⟨g :: Fs.flatten, .inr ⟨g, 0, n, cur, e, Fs, rfl, h0, by omega, hm, h1, h4, rfl, fun i a Fi hi hf => by simpa using h6 i a Fi hi hf⟩, .inr rfl⟩
  · have : l = [] := List.eq_nil_of_length_eq_zero (by omega)
    subst this
    exact ⟨[], .inl ⟨_, n, rfl, hm, rfl, rfl⟩, .inl rfl⟩
theorem New.cons {B : Nat} {F F' : List Nat} (h : New (B + 1) F) (h' : F' = [] ∨ F' = B :: F) : New B F' := by
  rcases h' with rfl | rfl
  · exact New.nil _
  · exact ⟨List.nodup_cons.2 ⟨fun hx => by have := h.2 _ hx; omega, h.1⟩, fun f hf => by rcases List.mem_cons.1 hf with rfl | hf; exact Nat.le_refl _; have := h.2 _ hf; omega⟩
theorem New.not {B g : Nat} {F : List Nat} (h : New B F) (hg : g < B) : g ∉ F := fun hx => by have := h.2 _ hx; omega
end
end Go.Proofs.Ytblcfncjghkegaa
namespace Go.Proofs.Ytblcfncjghkegaa
set_option linter.unusedVariables false
open Go.RowKit
theorem tInt.mk {w : World} {B : Nat} {x : Int} (h : (Lit.int .i64 x).wf = true) : tInt.R w B [.int .i64 x] x := ⟨rfl, h⟩
theorem sl_one {K : IntKind} {w : World} {B : Nat} {cs : List Value} {l : List Int} (h : (tSl K).R w B cs l) : ∃ A n c, cs = [.slice A n c] ∧ n ≤ c ∧ c ≤ 9223372036854775807 ∧ Ints K w B A n l := h
theorem slO_one {K : IntKind} {w : World} {cs : List Value} {l : List Int} {F : List Nat} (h : (tSl K).O w cs l F) : ∃ A c, cs = [.slice A l.length c] ∧ l.length ≤ c ∧ c ≤ 9223372036854775807 := by
  rcases h with ⟨A, c, h1, h2, rfl, _⟩ | ⟨g, off, c, cur, t, h1, h2, h3, h4, _⟩
  · exact ⟨A, c, h1, Nat.zero_le _, h2⟩
  · exact ⟨_, c, h1, h3, h4⟩
theorem row_one {α : Type} {t : Ty α} {w : World} {B : Nat} {cs : List Value} {l : List α} (h : t.row.R w B cs l) : ∃ A n c, cs = [.slice A n c] ∧ n ≤ c ∧ c ≤ 9223372036854775807 ∧ l.length = n := by
  obtain ⟨A, n, c, h1, h2, h3, h4, _⟩ := h
  exact ⟨A, n, c, h1, h2, h3, h4⟩
theorem rowO_one {α : Type} {t : Ty α} {w : World} {cs : List Value} {l : List α} {F : List Nat} (h : t.row.O w cs l F) : ∃ A c, cs = [.slice A l.length c] ∧ l.length ≤ c ∧ c ≤ 9223372036854775807 := by
  rcases h with ⟨A, c, h1, h2, rfl, _⟩ | ⟨g, off, c, cur, e, Fs, h1, h2, h3, h4, _⟩
  · exact ⟨A, c, h1, Nat.zero_le _, h2⟩
  · exact ⟨_, c, h1, h3, h4⟩

/-! ### Cell -/
abbrev DCell := List Int
abbrev tCell : Ty DCell := tBy
def szCell (p : DCell) : Nat := (p).length
/-! ### Peeled -/
/-! ### Piece -/
/-! ### Whole -/
/-! ### Desk -/
/-! ### Held -/
abbrev DHeld := Int × Int × DCell
abbrev tHeld : Ty DHeld := tInt.prod (tInt.prod (tCell))
def szHeld (p : DHeld) : Nat := szCell (p.2.2)
theorem openHeld {w : World} {B : Nat} {cs : List Value} {p : DHeld} (h : tHeld.R w B cs p) : ∃ A2 n2 c2, cs = [.int .i64 (p.1), .int .i64 (p.2.1), .slice A2 n2 c2] ∧ (Lit.int .i64 (p.1)).wf = true ∧ (Lit.int .i64 (p.2.1)).wf = true ∧ n2 ≤ c2 ∧ c2 ≤ 9223372036854775807 ∧ (p.2.2).length = n2 ∧ tBy.R w B [.slice A2 n2 c2] (p.2.2) := by
  obtain ⟨ca1, cb1, rfl, ha1, hb1⟩ := h
  obtain ⟨rfl, hi2⟩ := ha1
  obtain ⟨ca3, cb3, rfl, ha3, hb3⟩ := hb1
  obtain ⟨rfl, hi4⟩ := ha3
  obtain ⟨A5, n5, c5, rfl, he5, hf5, hg5⟩ := sl_one hb3
  exact ⟨A5, n5, c5, rfl, hi2, hi4, he5, hf5, hg5.1, ⟨A5, n5, c5, rfl, he5, hf5, hg5⟩⟩
theorem makeHeld {w : World} {B : Nat} {p : DHeld} {v2 : Value} (h0 : (Lit.int .i64 (p.1)).wf = true) (h1 : (Lit.int .i64 (p.2.1)).wf = true) (h2 : tBy.R w B [v2] (p.2.2)) : tHeld.R w B [.int .i64 (p.1), .int .i64 (p.2.1), v2] p := ⟨_, _, rfl, ⟨rfl, h0⟩, ⟨_, _, rfl, ⟨rfl, h1⟩, h2⟩⟩
theorem makeOHeld {w : World} {p : DHeld} {v2 : Value} {F2 : List Nat} (h0 : (Lit.int .i64 (p.1)).wf = true) (h1 : (Lit.int .i64 (p.2.1)).wf = true) (h2 : tBy.O w [v2] (p.2.2) F2) : ∃ F, tHeld.O w [.int .i64 (p.1), .int .i64 (p.2.1), v2] p F ∧ F = F2 := ⟨_, ⟨_, _, _, _, rfl, rfl, ⟨rfl, h0, rfl⟩, ⟨_, _, _, _, rfl, rfl, ⟨rfl, h1, rfl⟩, h2⟩⟩, by simp⟩
/-! ### Pool -/
abbrev DPool := List DHeld × List Int
abbrev tPool : Ty DPool := tHeld.row.prod (tIs)
def szPool (p : DPool) : Nat := rsz szHeld (p.1) + (p.2).length
theorem openPool {w : World} {B : Nat} {cs : List Value} {p : DPool} (h : tPool.R w B cs p) : ∃ A0 n0 c0 A1 n1 c1, cs = [.slice A0 n0 c0, .slice A1 n1 c1] ∧ n0 ≤ c0 ∧ c0 ≤ 9223372036854775807 ∧ (p.1).length = n0 ∧ tHeld.row.R w B [.slice A0 n0 c0] (p.1) ∧ n1 ≤ c1 ∧ c1 ≤ 9223372036854775807 ∧ (p.2).length = n1 ∧ tIs.R w B [.slice A1 n1 c1] (p.2) := by
  obtain ⟨ca1, cb1, rfl, ha1, hb1⟩ := h
  have hr2 := ha1
  obtain ⟨A2, n2, c2, rfl, he2, hf2, hg2⟩ := row_one ha1
  obtain ⟨A3, n3, c3, rfl, he3, hf3, hg3⟩ := sl_one hb1
  exact ⟨A2, n2, c2, A3, n3, c3, rfl, he2, hf2, hg2, hr2, he3, hf3, hg3.1, ⟨A3, n3, c3, rfl, he3, hf3, hg3⟩⟩
theorem makePool {w : World} {B : Nat} {p : DPool} {v0 v1 : Value} (h0 : tHeld.row.R w B [v0] (p.1)) (h1 : tIs.R w B [v1] (p.2)) : tPool.R w B [v0, v1] p := ⟨_, _, rfl, h0, h1⟩
theorem openOPool {w : World} {cs : List Value} {p : DPool} {F : List Nat} (h : tPool.O w cs p F) : ∃ A0 c0 F0 A1 c1 F1, cs = [.slice A0 (p.1).length c0, .slice A1 (p.2).length c1] ∧ F = F0 ++ F1 ∧ (p.1).length ≤ c0 ∧ c0 ≤ 9223372036854775807 ∧ tHeld.row.O w [.slice A0 (p.1).length c0] (p.1) F0 ∧ (p.2).length ≤ c1 ∧ c1 ≤ 9223372036854775807 ∧ tIs.O w [.slice A1 (p.2).length c1] (p.2) F1 := by
  obtain ⟨ca1, cb1, Fa1, Fb1, rfl, rfl, ha1, hb1⟩ := h
  have hr2 := ha1
  obtain ⟨A2, c2, rfl, he2, hf2⟩ := rowO_one ha1
  have hr3 := hb1
  obtain ⟨A3, c3, rfl, he3, hf3⟩ := slO_one hb1
  exact ⟨A2, c2, Fa1, A3, c3, Fb1, rfl, by simp, he2, hf2, hr2, he3, hf3, hr3⟩
theorem makeOPool {w : World} {p : DPool} {v0 v1 : Value} {F0 F1 : List Nat} (h0 : tHeld.row.O w [v0] (p.1) F0) (h1 : tIs.O w [v1] (p.2) F1) : ∃ F, tPool.O w [v0, v1] p F ∧ F = F0 ++ F1 := ⟨_, ⟨_, _, _, _, rfl, rfl, h0, h1⟩, by simp⟩
/-! ### Letter -/
/-! ### Node -/
/-! ### Mail -/
/-! ### Sent -/
/-! ### Glance -/
/-! ### Net -/
/-! ### Cmd -/
end Go.Proofs.Ytblcfncjghkegaa
namespace Go.Proofs.Ytblcfncjghkegaa
open Go.ChangeShapes Go.WideShapes Go.ChangeAt Go.RowKit
theorem sliceO.row {K : IntKind} {w : World} {n c : Nat} {A : Option Addr} {l : List Int} {F : List Nat} (h : sliceO K w [.slice A n c] l F) (hn : 0 < n) :
    ∃ g off, A = some ⟨g, off, none⟩ ∧ l.length = n ∧ n ≤ c ∧ c ≤ 9223372036854775807 ∧ (∀ i, i < n → w.cell? ⟨g, off + i, none⟩ = some (.int K (l.getD i 0))) ∧ (∀ i, w.frozen? ⟨g, i, none⟩ = false) ∧ F = [g] ∧ g < w.heap.size := by
  rcases h with ⟨A, c, h1, h2, rfl, _⟩ | ⟨g, off, c, cur, t, h1, h2, h3, h4, h5, h6, h7, rfl⟩
  · injection h1 with h1 _; injection h1 with _ e2 _; omega
  · injection h1 with h1 _; injection h1 with e1 e2 e3
    subst e1 e2 e3
    exact ⟨g, off, rfl, rfl, h3, h4, fun i hi => by rw [Box.cell (t := t) h5]; exact h6 i hi, fun i => Box.frozen (t := t) h5 i, rfl, Box.size (t := t) h5⟩
theorem sliceO.len {K : IntKind} {w : World} {n c : Nat} {A : Option Addr} {l : List Int} {F : List Nat} (h : sliceO K w [.slice A n c] l F) : l.length = n ∧ n ≤ c ∧ c ≤ 9223372036854775807 := by
  rcases h with ⟨A, c, h1, h2, rfl, _⟩ | ⟨g, off, c, cur, t, h1, h2, h3, h4, h5, h6, h7, rfl⟩
  · injection h1 with h1 _; injection h1 with _ e2 e3; subst e2 e3; exact ⟨rfl, Nat.zero_le _, h2⟩
  · injection h1 with h1 _; injection h1 with e1 e2 e3
    subst e1 e2 e3
    exact ⟨rfl, h3, h4⟩
theorem sliceO.put {K : IntKind} {w : World} {n c g off : Nat} {l : List Int} {F : List Nat} (h : sliceO K w [.slice (some ⟨g, off, none⟩) n c] l F) {i : Nat} (hi : i < n) {x : Int} (hx : (Lit.int K x).wf = true) :
    sliceO K (w.setCell ⟨g, off + i, none⟩ (.int K x)) [.slice (some ⟨g, off, none⟩) n c] (l.set i x) F := by
  rcases h with ⟨A, c, h1, h2, rfl, _⟩ | ⟨g, off, c, cur, t, h1, h2, h3, h4, h5, h6, h7, rfl⟩
  · injection h1 with h1 _; injection h1 with _ e2 _; omega
  · injection h1 with h1 _; injection h1 with e1 e2 e3
    injection e1 with e1
    injection e1 with e1 e4
    subst e1 e2 e3 e4
    have hb : off + i < cur.size := by
      have := h6 i hi
      by_cases hl : off + i < cur.size
      · exact hl
      · rw [Array.getElem?_eq_none (by omega)] at this; cases this
    refine .inr ⟨g, off, c, _, t, by rw [List.length_set], by rw [List.length_set]; omega, by rw [List.length_set]; omega, h4, Box.put (t := t) h5 (off + i) _, fun j hj => ?_, fun y hy => ?_, rfl⟩
    · rw [List.length_set] at hj
      rw [Array.getElem?_setIfInBounds]
      by_cases hij : off + i = off + j
      · have : i = j := by omega
        subst this
        rw [if_pos rfl, if_pos hb, List.getD_eq_getElem?_getD, List.getElem?_set_self hj]; rfl
      · rw [if_neg hij, h6 j hj, List.getD_eq_getElem?_getD, List.getD_eq_getElem?_getD, List.getElem?_set_ne (by omega)]
    · rcases List.mem_or_eq_of_mem_set hy with h' | rfl
      · exact h7 y h'
      · exact hx
theorem sliceO.nilO {K : IntKind} {w : World} {n c : Nat} {A : Option Addr} {F : List Nat} (h : sliceO K w [.slice A n c] [] F) : n = 0 ∧ F = [] := by
  rcases h with ⟨A, c, h1, h2, _, rfl⟩ | ⟨g, off, c, cur, t, h1, h2, _⟩
  · injection h1 with h1 _; injection h1 with _ e2 _; exact ⟨e2, rfl⟩
  · simp at h2
/-- A slice that reads, as integers. -/
theorem slR_ints {K : IntKind} {w : World} {B n c : Nat} {A : Option Addr} {l : List Int} (h : (tSl K).R w B [.slice A n c] l) : Ints K w B A n l ∧ n ≤ c ∧ c ≤ 9223372036854775807 := by
  obtain ⟨A', n', c', h1, h2, h3, h4⟩ := h
  injection h1 with h1 _; injection h1 with e1 e2 e3
  subst e1 e2 e3
  exact ⟨h4, h2, h3⟩
theorem Ty.far {α : Type} {t : Ty α} {w : World} {cs : List Value} {a : α} {F : List Nat} {B : Nat} (h : t.O w cs a F) (hN : New B F) {p : Addr} (hp : p.block < B) (u : Value) : t.O (w.setCell p u) cs a F :=
  t.kept h fun f hf => Below.heap_setCell w p u f (by rintro rfl; have := hN.2 _ hf; omega)
/-- A cell of an element, behind what left the old blocks alone. -/
theorem cell_at {w w' : World} {b o : Nat} {v : Value} (hB : Below w.heap.size w w') (hb : b < w.heap.size) (h : w.cell? ⟨b, o, none⟩ = some v) : w'.cell? ⟨b, o, none⟩ = some v :=
  (World.cell?_of_block (hB.block b hb)).trans h
theorem New.only {B : Nat} {F : List Nat} (h : New B F) : F.Nodup := h.1
end Go.Proofs.Ytblcfncjghkegaa
namespace Go.Proofs.Ytblcfncjghkegaa
set_option maxRecDepth 100000
set_option linter.unusedVariables false
set_option linter.unusedSimpArgs false
open Go.ChangeShapes Go.WideShapes Go.ChangeAt Go.RowKit
/-- A held cell in order: its next node, its time, and so many bytes. -/
def HdN (a d : Int) (n : Nat) : Prop := 0 ≤ a ∧ a < 8 ∧ 0 ≤ d ∧ d ≤ 65535 ∧ n = 80
instance (a d : Int) (n : Nat) : Decidable (HdN a d n) := by unfold HdN; infer_instance
def HdOk (p : DHeld) : Prop := HdN p.1 p.2.1 p.2.2.length
instance (p : DHeld) : Decidable (HdOk p) := by unfold HdOk; infer_instance
theorem sh_CellOk_t (A : Option Addr) (c : Nat) (w : World) :
    Calls Try.prog 90 #[.agg #[.slice A 80 c]] w fun e w' => e = .returned (.bool true) ∧ Below w.heap.size w w' := by
  go_enter Try.func90, Try.ntmps90
  go_wp2
  go_ret
  exact ⟨rfl, (belx)⟩
theorem sh_CellOk_f (A : Option Addr) (n c : Nat) (w : World) (h : ¬ n = 80) :
    Calls Try.prog 90 #[.agg #[.slice A n c]] w fun e w' => e = .returned (.bool false) ∧ Below w.heap.size w w' := by
  have q : ((n : Int) == 80) = false := by simp; omega
  go_enter Try.func90, Try.ntmps90
  go_wp2
  go_ret
  exact ⟨ret_bool (by first | exact q | (simp; done) | (simp; omega)), (belx)⟩
theorem s_HeldOkN (w : World) (A2 : Option Addr) (n2 c2 : Nat) (x0 x1 : Int) (b : Bool) (T : HdN x0 x1 n2 → b = true) (F : ¬ HdN x0 x1 n2 → b = false) :
    Calls Try.prog 55 #[.agg #[.int .i64 x0, .int .i64 x1, .slice A2 n2 c2]] w fun e w' => e = .returned (.bool b) ∧ Below w.heap.size w w' := by
  unfold HdN at T F
  by_cases h1 : x0 < 0
  · have := F (by omega); subst this; clear F T
    go_enter Try.func55, Try.ntmps55
    go_wp2
    go_ret
    exact ⟨rfl, (belx)⟩
  by_cases h2 : 8 ≤ x0
  · have := F (by omega); subst this; clear F T
    go_enter Try.func55, Try.ntmps55
    go_wp2
    go_ret
    exact ⟨rfl, (belx)⟩
  by_cases h3 : x1 < 0
  · have := F (by omega); subst this; clear F T
    go_enter Try.func55, Try.ntmps55
    go_wp2
    go_ret
    exact ⟨rfl, (belx)⟩
  by_cases h4 : 65535 < x1
  · have := F (by omega); subst this; clear F T
    go_enter Try.func55, Try.ntmps55
    go_wp2
    go_ret
    exact ⟨rfl, (belx)⟩
  by_cases h5 : n2 = 80
  · have := T (by omega); subst this; clear F T; subst h5
    go_enter Try.func55, Try.ntmps55
    go_wp2_with ((go_at_call 90; refine (sh_CellOk_t _ _ _).mono ?_; rintro e w1 ⟨rfl, hb1⟩))
    go_ret
    exact ⟨rfl, bel_trans (belx) hb1⟩
  · have := F (by omega); subst this; clear F T
    go_enter Try.func55, Try.ntmps55
    go_wp2_with ((go_at_call 90; refine (sh_CellOk_f _ _ _ _ (by omega)).mono ?_; rintro e w1 ⟨rfl, hb1⟩))
    go_ret
    exact ⟨rfl, bel_trans (belx) hb1⟩
theorem s_HeldOkR {w : World} {cs : List Value} {p : DHeld} (h : tHeld.R w w.heap.size cs p) :
    Calls Try.prog 55 #[.agg cs.toArray] w fun e w' => e = .returned (.bool (decide (HdOk p))) ∧ Below w.heap.size w w' := by
  obtain ⟨A2, n2, c2, rfl, hi0, hi1, ha2, hb2, hl2, hr2⟩ := openHeld h
  exact s_HeldOkN w A2 n2 c2 _ _ _ (fun hh => decide_eq_true (by unfold HdOk; rw [hl2]; exact hh)) (fun hh => decide_eq_false (by unfold HdOk; rw [hl2]; exact hh))
theorem ih_CellOk_t (A : Option Addr) (c : Nat) (w : World) :
    Calls Try.prog 51 #[.agg #[.slice A 80 c]] w fun e w' => e = .returned (.bool true) ∧ Below w.heap.size w w' := by
  go_enter Try.func51, Try.ntmps51
  go_wp2
  go_ret
  exact ⟨rfl, (belx)⟩
theorem ih_CellOk_f (A : Option Addr) (n c : Nat) (w : World) (h : ¬ n = 80) :
    Calls Try.prog 51 #[.agg #[.slice A n c]] w fun e w' => e = .returned (.bool false) ∧ Below w.heap.size w w' := by
  have q : ((n : Int) == 80) = false := by simp; omega
  go_enter Try.func51, Try.ntmps51
  go_wp2
  go_ret
  exact ⟨ret_bool (by first | exact q | (simp; done) | (simp; omega)), (belx)⟩
theorem ih_isNode_t (x : Int) (w : World) (h1 : 0 ≤ x) (h2 : x < 8) : Calls Try.prog 49 #[.int .i64 x] w fun e w' => e = .returned (.bool true) ∧ w = w' := by
  go_enter Try.func49, Try.ntmps49
  go_wp2
  go_ret
  exact ⟨ret_bool (by first | (simp; done) | (simp; omega)), rfl⟩
theorem ih_isNode_f (x : Int) (w : World) (h : ¬ (0 ≤ x ∧ x < 8)) : Calls Try.prog 49 #[.int .i64 x] w fun e w' => e = .returned (.bool false) ∧ w = w' := by
  by_cases h1 : x < 0
  · clear h
    go_enter Try.func49, Try.ntmps49
    go_wp2
    go_ret
    exact ⟨rfl, rfl⟩
  · have h2 : 8 ≤ x := by omega
    clear h
    go_enter Try.func49, Try.ntmps49
    go_wp2
    go_ret
    exact ⟨ret_bool (by first | (simp; done) | (simp; omega)), rfl⟩
theorem ih_isDue_t (x : Int) (w : World) (h1 : 0 ≤ x) (h2 : x ≤ 65535) : Calls Try.prog 50 #[.int .i64 x] w fun e w' => e = .returned (.bool true) ∧ w = w' := by
  go_enter Try.func50, Try.ntmps50
  go_wp2
  go_ret
  exact ⟨ret_bool (by first | (simp; done) | (simp; omega)), rfl⟩
theorem ih_isDue_f (x : Int) (w : World) (h : ¬ (0 ≤ x ∧ x ≤ 65535)) : Calls Try.prog 50 #[.int .i64 x] w fun e w' => e = .returned (.bool false) ∧ w = w' := by
  by_cases h1 : x < 0
  · clear h
    go_enter Try.func50, Try.ntmps50
    go_wp2
    go_ret
    exact ⟨rfl, rfl⟩
  · have h2 : 65535 < x := by omega
    clear h
    go_enter Try.func50, Try.ntmps50
    go_wp2
    go_ret
    exact ⟨ret_bool (by first | (simp; done) | (simp; omega)), rfl⟩
theorem i_HeldOkN (w : World) (A2 : Option Addr) (n2 c2 : Nat) (x0 x1 : Int) (b : Bool) (T : HdN x0 x1 n2 → b = true) (F : ¬ HdN x0 x1 n2 → b = false) :
    Calls Try.prog 15 #[.agg #[.int .i64 x0, .int .i64 x1, .slice A2 n2 c2]] w fun e w' => e = .returned (.bool b) ∧ Below w.heap.size w w' := by
  unfold HdN at T F
  by_cases h1 : ¬ (0 ≤ x0 ∧ x0 < 8)
  · have := F (by omega); subst this; clear F T
    go_enter Try.func15, Try.ntmps15
    go_wp2_with ((go_at_call 49; refine (ih_isNode_f _ _ (by omega)).mono ?_; rintro e w' ⟨rfl, rfl⟩))
    go_ret
    exact ⟨rfl, (belx)⟩
  by_cases h3 : ¬ (0 ≤ x1 ∧ x1 ≤ 65535)
  · have := F (by omega); subst this; clear F T
    go_enter Try.func15, Try.ntmps15
    go_wp2_with (first
        | (go_at_call 49; refine (ih_isNode_t _ _ (by omega) (by omega)).mono ?_; rintro e w' ⟨rfl, rfl⟩)
        | (go_at_call 50; refine (ih_isDue_f _ _ (by omega)).mono ?_; rintro e w' ⟨rfl, rfl⟩))
    go_ret
    exact ⟨rfl, (belx)⟩
  by_cases h5 : n2 = 80
  · have := T (by omega); subst this; clear F T; subst h5
    go_enter Try.func15, Try.ntmps15
    go_wp2_with (first
        | (go_at_call 49; refine (ih_isNode_t _ _ (by omega) (by omega)).mono ?_; rintro e w' ⟨rfl, rfl⟩)
        | (go_at_call 50; refine (ih_isDue_t _ _ (by omega) (by omega)).mono ?_; rintro e w' ⟨rfl, rfl⟩)
        | (go_at_call 51; refine (ih_CellOk_t _ _ _).mono ?_; rintro e w1 ⟨rfl, hb1⟩))
    go_ret
    exact ⟨rfl, bel_trans (belx) hb1⟩
  · have := F (by omega); subst this; clear F T
    go_enter Try.func15, Try.ntmps15
    go_wp2_with (first
        | (go_at_call 49; refine (ih_isNode_t _ _ (by omega) (by omega)).mono ?_; rintro e w' ⟨rfl, rfl⟩)
        | (go_at_call 50; refine (ih_isDue_t _ _ (by omega) (by omega)).mono ?_; rintro e w' ⟨rfl, rfl⟩)
        | (go_at_call 51; refine (ih_CellOk_f _ _ _ _ (by omega)).mono ?_; rintro e w1 ⟨rfl, hb1⟩))
    go_ret
    exact ⟨rfl, bel_trans (belx) hb1⟩
theorem i_HeldOkR {w : World} {cs : List Value} {p : DHeld} (h : tHeld.R w w.heap.size cs p) :
    Calls Try.prog 15 #[.agg cs.toArray] w fun e w' => e = .returned (.bool (decide (HdOk p))) ∧ Below w.heap.size w w' := by
  obtain ⟨A2, n2, c2, rfl, hi0, hi1, ha2, hb2, hl2, hr2⟩ := openHeld h
  exact i_HeldOkN w A2 n2 c2 _ _ _ (fun hh => decide_eq_true (by unfold HdOk; rw [hl2]; exact hh)) (fun hh => decide_eq_false (by unfold HdOk; rw [hl2]; exact hh))
theorem i_HeldOk {w : World} {cs : List Value} {p : DHeld} (h : tHeld.R w w.heap.size cs p) (hz : szHeld p ≤ 1048576) :
    Calls Try.prog 15 #[.agg cs.toArray] w fun e w' => e = .returned (.bool (decide (HdOk p))) ∧ Below w.heap.size w w' := by
  obtain ⟨A2, n2, c2, rfl, hi0, hi1, ha2, hb2, hl2, hr2⟩ := openHeld h
  exact i_HeldOkN w A2 n2 c2 _ _ _ (fun hh => decide_eq_true (by unfold HdOk; rw [hl2]; exact hh)) (fun hh => decide_eq_false (by unfold HdOk; rw [hl2]; exact hh))
end Go.Proofs.Ytblcfncjghkegaa
namespace Go.Proofs.Ytblcfncjghkegaa
open Go.RowKit
theorem own_slice {K : IntKind} {e : TypeId} {w : World} {base : Nat} {v : Value} {l : List Int} (h : Own K e w base v l) : ∃ A c F, v = .slice A l.length c ∧ (tSl K).O w [.slice A l.length c] l F ∧ New base F := by
  obtain ⟨F, hF, hN⟩ := h.tSl
  obtain ⟨A, c, e1, _, _⟩ := slO_one hF
  injection e1 with e1 _
  subst e1
  exact ⟨A, c, F, rfl, hF, hN⟩
theorem nilR {K : IntKind} {w : World} {B : Nat} : (tSl K).R w B [.slice none 0 0] [] := ⟨none, 0, 0, rfl, Nat.le_refl _, by omega, Ints.nil⟩
theorem nilO {K : IntKind} {w : World} : (tSl K).O w [.slice none 0 0] [] [] := .inl ⟨none, 0, rfl, by omega, rfl, rfl⟩
end Go.Proofs.Ytblcfncjghkegaa
namespace Go.Proofs.Ytblcfncjghkegaa
set_option linter.unusedVariables false
open Go.RowKit
theorem flat_at {css : List (List Value)} {k : Nat} (h : ∀ es ∈ css, es.length = k) {i j : Nat} {es : List Value} (hi : css[i]? = some es) (hj : j < k) : css.flatten[i * k + j]? = es[j]? := by
  induction css generalizing i with
  | nil => simp at hi
  | cons c0 css ih =>
    have h0 := h c0 (by simp)
    rw [List.flatten_cons]
    cases i with
    | zero =>
      simp at hi
      subst hi
      rw [Nat.zero_mul, Nat.zero_add, List.getElem?_append_left (by omega)]
    | succ i =>
      simp at hi
      rw [Nat.succ_mul, List.getElem?_append_right (by omega), show i * k + k + j - c0.length = i * k + j by omega]
      exact ih (fun es hes => h es (by simp [hes])) hi
theorem flat_len {css : List (List Value)} {k : Nat} (h : ∀ es ∈ css, es.length = k) : css.flatten.length = css.length * k := by
  induction css with
  | nil => simp
  | cons c0 css ih =>
    rw [List.flatten_cons, List.length_append, h c0 (by simp), ih (fun es hes => h es (by simp [hes])), List.length_cons, Nat.succ_mul]; omega
section
variable {α : Type} {t : Ty α} {e : TypeId} {w w' : World} {base : Nat} {v : Value} {l : List α} {F : List Nat}
def GrowO (t : Ty α) (e : TypeId) (w : World) (base : Nat) (v : Value) (l : List α) (F : List Nat) : Prop :=
  (∃ (css : List (List Value)) (Fs : List (List Nat)), w.ownsRow base e t.k v l.length css.flatten ∧ css.length = l.length ∧ Fs.length = l.length ∧ F = Fs.flatten ∧
    ∀ (i : Nat) (a : α) (es : List Value) (Fi : List Nat), l[i]? = some a → css[i]? = some es → Fs[i]? = some Fi → t.O w es a Fi) ∧ New base F ∧ ∀ b, v.ownBlock = some b → b ∉ F
theorem GrowO.nil : GrowO t e w base (.slice none 0 0) [] [] :=
  ⟨⟨[], [], ⟨by simp, .inl ⟨rfl, rfl⟩⟩, rfl, rfl, rfl, fun i a es Fi h => by simp at h⟩, New.nil _, fun b h => by simp [Value.ownBlock] at h⟩
theorem GrowO.lt (h : GrowO t e w base v l F) : ∀ f ∈ F, f < w.heap.size := by
  obtain ⟨⟨css, Fs, h1, h2, h3, rfl, h5⟩, _, _⟩ := h
  intro f hf
  obtain ⟨Fi, hFi, hfi⟩ := List.mem_flatten.1 hf
  obtain ⟨i, hi, e1⟩ := List.getElem_of_mem hFi
  have hl : i < l.length := by omega
  have hc : i < css.length := by omega
  exact t.lt (h5 i _ _ Fi (List.getElem?_eq_getElem hl) (List.getElem?_eq_getElem hc) (by rw [List.getElem?_eq_getElem hi, e1])) f hfi
theorem GrowO.below (h : GrowO t e w base v l F) (hB : Below w.heap.size w w') : GrowO t e w' base v l F := by
  obtain ⟨⟨css, Fs, h1, h2, h3, h4, h5⟩, h6, h7⟩ := h
  exact ⟨⟨css, Fs, h1.kept (row := none) (below_grownBy hB) (by cases v.ownBlock <;> simp), h2, h3, h4, fun i a es Fi q1 q2 q3 => Ty.below (h5 i a es Fi q1 q2 q3) hB⟩, h6, h7⟩
theorem GrowO.new (h : GrowO t e w base v l F) : New base F := h.2.1
/-- What an append sees, and what it leaves. -/
theorem GrowO.row (h : GrowO t e w base v l F) : ∃ xs, w.ownsRow base e t.k v l.length xs ∧
    ∀ w3 v1 a es Fa, t.O w es a Fa → New base Fa → (∀ f ∈ Fa, f ∉ F) → (∀ b, v.ownBlock = some b → b ∉ Fa) → w3.ownsRow base e t.k v1 (l.length + 1) (xs ++ es) → w.grownBy w3 v.ownBlock →
      (v1.ownBlock = v.ownBlock ∨ v1.ownBlock = some w.heap.size) → GrowO t e w3 base v1 (l ++ [a]) (F ++ Fa) := by
  have hlt := h.lt
  obtain ⟨⟨css, Fs, h1, h2, h3, rfl, h5⟩, h6, h7⟩ := h
  refine ⟨css.flatten, h1, fun w3 v1 a es Fa q1 q2 q3 q4 q5 q6 q7 => ⟨⟨css ++ [es], Fs ++ [Fa], ?_, by simp [h2], by simp [h3], by simp, ?_⟩, ?_, ?_⟩⟩
  · rw [List.length_append, List.flatten_append]
    simpa using q5
  · intro i b cs Fi r1 r2 r3
    by_cases hi : i < l.length
    · rw [List.getElem?_append_left hi] at r1
      rw [List.getElem?_append_left (by omega)] at r2
      rw [List.getElem?_append_left (by omega)] at r3
      have hO := h5 i b cs Fi r1 r2 r3
      exact t.kept hO fun f hf => q6.block f (t.lt hO f hf) fun e => h7 f e.symm (mem_flat r3 hf)
    · rw [List.getElem?_append_right (by omega)] at r1
      have hi0 : i - l.length = 0 := by
        have := (List.getElem?_eq_some_iff.1 r1).1
        simp at this; omega
      rw [hi0] at r1
      rw [List.getElem?_append_right (by omega), h2, hi0] at r2
      rw [List.getElem?_append_right (by omega), h3, hi0] at r3
      simp at r1 r2 r3
      subst r1 r2 r3
      exact t.kept q1 fun f hf => q6.block f (t.lt q1 f hf) fun e => q4 f e.symm hf
  · refine ⟨List.nodup_append.2 ⟨h6.1, q2.1, fun x hx y hy e => ?_⟩, fun f hf => ?_⟩
    · subst e; exact q3 x hy hx
    · rcases List.mem_append.1 hf with h' | h'
      · exact h6.2 f h'
      · exact q2.2 f h'
  · intro b hb hx
    rcases q7 with q7 | q7
    · rw [q7] at hb
      rcases List.mem_append.1 hx with h' | h'
      · exact h7 b hb h'
      · exact q4 b hb h'
    · rw [q7] at hb
      injection hb with hb
      subst hb
      rcases List.mem_append.1 hx with h' | h'
      · have := hlt _ h'; omega
      · have := t.lt q1 _ h'; omega
theorem GrowO.done (h : GrowO t e w base v l F) : ∃ A c F', v = .slice A l.length c ∧ t.row.O w [.slice A l.length c] l F' ∧ New base F' := by
  obtain ⟨⟨css, Fs, h1, h2, h3, rfl, h5⟩, h6, h7⟩ := h
  rcases h1.2 with ⟨rfl, h0⟩ | ⟨g, cap, cur, rfl, hb, hg, hn, hm, hs, ht⟩
  · have : l = [] := List.eq_nil_of_length_eq_zero h0
    subst this
    exact ⟨none, 0, [], rfl, .inl ⟨none, 0, rfl, by omega, rfl, rfl⟩, New.nil _⟩
  · by_cases h0 : 0 < l.length
    · refine ⟨_, cap, g :: Fs.flatten, rfl, .inr ⟨g, 0, cap, cur, e, Fs, rfl, h0, hn, by simp only [maxLen] at hm; omega, hg, h3, rfl, fun i a Fi q1 q2 => ?_⟩, List.nodup_cons.2 ⟨h7 g rfl, h6.1⟩, fun f hf => ?_⟩
      · have hi : i < l.length := (List.getElem?_eq_some_iff.1 q1).1
        have hc : css[i]? = some (css[i]'(by omega)) := List.getElem?_eq_getElem (by omega)
        refine ⟨_, fun j hj => ?_, h5 i a _ Fi q1 hc q2⟩
        have hlen : ∀ es ∈ css, es.length = t.k := fun es hes => by
          obtain ⟨i', hi', rfl⟩ := List.getElem_of_mem hes
          exact t.lenO (h5 i' _ _ _ (List.getElem?_eq_getElem (by omega)) (List.getElem?_eq_getElem hi') (List.getElem?_eq_getElem (by omega)))
        have hb2 : (i + 1) * t.k ≤ l.length * t.k := Nat.mul_le_mul_right _ hi
        rw [Nat.succ_mul] at hb2
        rw [← flat_at hlen hc hj, ← ht, List.getElem?_take, if_pos (by omega)]
        simp
      · rcases List.mem_cons.1 hf with rfl | hf
        · exact hb
        · exact h6.2 f hf
    · have : l = [] := List.eq_nil_of_length_eq_zero (by omega)
      subst this
      exact ⟨_, cap, [], rfl, .inl ⟨_, cap, rfl, by simp only [maxLen] at hm; omega, rfl, rfl⟩, New.nil _⟩
end
section
variable {α : Type} {t : Ty α} {e : TypeId} {w w' : World} {base B : Nat} {v : Value} {l : List α}
/-- A row of a call's own whose elements read below B: what they hold may be another's. -/
def GrowR (t : Ty α) (e : TypeId) (w : World) (base B : Nat) (v : Value) (l : List α) : Prop :=
  ∃ (css : List (List Value)), w.ownsRow base e t.k v l.length css.flatten ∧ css.length = l.length ∧ ∀ (i : Nat) (a : α) (es : List Value), l[i]? = some a → css[i]? = some es → t.R w B es a
theorem GrowR.nil : GrowR t e w base B (.slice none 0 0) [] := ⟨[], ⟨by simp, .inl ⟨rfl, rfl⟩⟩, rfl, fun i a es h => by simp at h⟩
theorem GrowR.below (h : GrowR t e w base B v l) (hB : Below w.heap.size w w') (hb : B ≤ w.heap.size) : GrowR t e w' base B v l := by
  obtain ⟨css, h1, h2, h5⟩ := h
  exact ⟨css, h1.kept (row := none) (below_grownBy hB) (by cases v.ownBlock <;> simp), h2, fun i a es q1 q2 => t.keep (h5 i a es q1 q2) fun b hlt => hB.block b (by omega)⟩
theorem GrowR.row (h : GrowR t e w base B v l) (hb : B ≤ base) (hw : B ≤ w.heap.size) : ∃ xs, w.ownsRow base e t.k v l.length xs ∧
    ∀ w3 v1 a es, t.R w B es a → w3.ownsRow base e t.k v1 (l.length + 1) (xs ++ es) → w.grownBy w3 v.ownBlock → GrowR t e w3 base B v1 (l ++ [a]) := by
  obtain ⟨css, h1, h2, h5⟩ := h
  have hown := fun b hb => h1.lt b hb
  refine ⟨css.flatten, h1, fun w3 v1 a es q1 q5 q6 => ⟨css ++ [es], ?_, by simp [h2], ?_⟩⟩
  · rw [List.length_append, List.flatten_append]
    simpa using q5
  · have keep : ∀ b, b < B → w3.heap[b]? = w.heap[b]? := fun b hlt => q6.block b (by omega) fun e => by have := (hown b e.symm).1; omega
    intro i b cs r1 r2
    by_cases hi : i < l.length
    · rw [List.getElem?_append_left hi] at r1
      rw [List.getElem?_append_left (by omega)] at r2
      exact t.keep (h5 i b cs r1 r2) keep
    · rw [List.getElem?_append_right (by omega)] at r1
      have hi0 : i - l.length = 0 := by
        have := (List.getElem?_eq_some_iff.1 r1).1
        simp at this; omega
      rw [hi0] at r1
      rw [List.getElem?_append_right (by omega), h2, hi0] at r2
      simp at r1 r2
      subst r1 r2
      exact t.keep q1 keep
theorem GrowR.done (h : GrowR t e w base B v l) (hw : B ≤ w.heap.size) : ∃ A c, v = .slice A l.length c ∧ t.row.R w w.heap.size [.slice A l.length c] l := by
  obtain ⟨css, h1, h2, h5⟩ := h
  rcases h1.2 with ⟨rfl, h0⟩ | ⟨g, cap, cur, rfl, hb, hg, hn, hm, hs, ht⟩
  · have : l = [] := List.eq_nil_of_length_eq_zero h0
    subst this
    exact ⟨none, 0, rfl, none, 0, 0, rfl, Nat.le_refl _, by omega, rfl, fun h => absurd h (by omega)⟩
  · refine ⟨_, cap, rfl, _, l.length, cap, rfl, hn, by simp only [maxLen] at hm; omega, rfl, fun _ => ⟨g, 0, rfl, Box.size (t := e) hg, fun i a q1 => ?_⟩⟩
    have hi : i < l.length := (List.getElem?_eq_some_iff.1 q1).1
    have hc : css[i]? = some (css[i]'(by omega)) := List.getElem?_eq_getElem (by omega)
    refine ⟨_, fun j hj => ?_, t.up (h5 i a _ q1 hc) hw⟩
    have hlen : ∀ es ∈ css, es.length = t.k := fun es hes => by
      obtain ⟨i', hi', rfl⟩ := List.getElem_of_mem hes
      exact t.lenR (h5 i' _ _ (List.getElem?_eq_getElem (by omega)) (List.getElem?_eq_getElem hi'))
    have hb2 : (i + 1) * t.k ≤ l.length * t.k := Nat.mul_le_mul_right _ hi
    rw [Nat.succ_mul] at hb2
    rw [Box.cell (t := e) hg, ← flat_at hlen hc hj, ← ht, List.getElem?_take, if_pos (by omega)]
    simp
end
/-- The cells of one struct that have just been laid, as what an append takes in. -/
theorem Src.of_box (w : World) (t : TypeId) (es : List Value) {K : Nat} (hK : es.length = K) : Src (w.alloc (.cells es.toArray t)) K (some ⟨w.heap.size, 0, none⟩) 1 es := by
  refine ⟨by omega, fun _ => ⟨_, 0, rfl, fun j u hj => ?_⟩⟩
  rw [Nat.zero_add, (Box.new w t es.toArray).cell]
  simpa using hj
end Go.Proofs.Ytblcfncjghkegaa
namespace Go.Proofs.Ytblcfncjghkegaa
set_option maxRecDepth 100000
set_option linter.unusedVariables false
set_option linter.unusedSimpArgs false
open Go.ChangeShapes Go.WideShapes Go.ChangeAt Go.RowKit
section
variable {α : Type} {P : α → Prop} {p : α → Bool} {f : α → Int} {l : List α} {a : α} {j : Nat}
theorem alMem (hl : l[j]? = some a) : a ∈ l := List.mem_of_getElem? hl
end
theorem atI {l : List Int} {n j : Nat} (h : l.length = n) (hj : j < n) : l[j]? = some (l.getD j 0) := by
  rw [List.getD_eq_getElem?_getD, List.getElem?_eq_getElem (by omega)]; rfl
end Go.Proofs.Ytblcfncjghkegaa
