/-
  Marks on a call's own slice of numbers, wherever in its block it begins; are they still there; the laws' copies and comparisons as readings.
-/
import Derived.Test.YtcljjdmfnniobaaGreatTy
import Derived.Test.YtcljjdmfnniobaaGreatCell
namespace Go.Proofs.YtcljjdmfnniobaaGreat
open Go.ChangeShapes Go.WideShapes Go.ChangeAt Go.RowKit
theorem sliceO.row {K : IntKind} {w : World} {n c : Nat} {A : Option Addr} {l : List Int} {F : List Nat} (h : sliceO K w [.slice A n c] l F) (hn : 0 < n) :
    ∃ g off, A = some ⟨g, off, none⟩ ∧ l.length = n ∧ n ≤ c ∧ c ≤ 9223372036854775807 ∧ (∀ i, i < n → w.cell? ⟨g, off + i, none⟩ = some (.int K (l.getD i 0))) ∧ (∀ i, w.frozen? ⟨g, i, none⟩ = false) ∧ F = [g] ∧ g < w.heap.size := by
  rcases h with ⟨A, c, h1, h2, rfl, _⟩ | ⟨g, off, c, cur, t, h1, h2, h3, h4, h5, h6, h7, rfl⟩
  · injection h1 with h1 _; injection h1 with _ e2 _; omega
  · injection h1 with h1 _; injection h1 with e1 e2 e3
    subst e1 e2 e3
    exact ⟨g, off, rfl, rfl, h3, h4, fun i hi => by rw [Box.cell (t := t) h5]; exact h6 i hi, fun i => Box.frozen (t := t) h5 i, rfl, Box.size (t := t) h5⟩
theorem sliceO.len {K : IntKind} {w : World} {n c : Nat} {A : Option Addr} {l : List Int} {F : List Nat} (h : sliceO K w [.slice A n c] l F) : l.length = n ∧ n ≤ c ∧ c ≤ 9223372036854775807 := by
  rcases h with ⟨A, c, h1, h2, rfl, _⟩ | ⟨g, off, c, cur, t, h1, h2, h3, h4, h5, h6, h7, rfl⟩
  · injection h1 with h1 _; injection h1 with _ e2 e3; subst e2 e3; exact ⟨rfl, Nat.zero_le _, h2⟩
  · injection h1 with h1 _; injection h1 with e1 e2 e3
    subst e1 e2 e3
    exact ⟨rfl, h3, h4⟩
theorem sliceO.put {K : IntKind} {w : World} {n c g off : Nat} {l : List Int} {F : List Nat} (h : sliceO K w [.slice (some ⟨g, off, none⟩) n c] l F) {i : Nat} (hi : i < n) {x : Int} (hx : (Lit.int K x).wf = true) :
    sliceO K (w.setCell ⟨g, off + i, none⟩ (.int K x)) [.slice (some ⟨g, off, none⟩) n c] (l.set i x) F := by
  rcases h with ⟨A, c, h1, h2, rfl, _⟩ | ⟨g, off, c, cur, t, h1, h2, h3, h4, h5, h6, h7, rfl⟩
  · injection h1 with h1 _; injection h1 with _ e2 _; omega
  · injection h1 with h1 _; injection h1 with e1 e2 e3
    injection e1 with e1
    injection e1 with e1 e4
    subst e1 e2 e3 e4
    have hb : off + i < cur.size := by
      have := h6 i hi
      by_cases hl : off + i < cur.size
      · exact hl
      · rw [Array.getElem?_eq_none (by omega)] at this; cases this
    refine .inr ⟨g, off, c, _, t, by rw [List.length_set], by rw [List.length_set]; omega, by rw [List.length_set]; omega, h4, Box.put (t := t) h5 (off + i) _, fun j hj => ?_, fun y hy => ?_, rfl⟩
    · rw [List.length_set] at hj
      rw [Array.getElem?_setIfInBounds]
      by_cases hij : off + i = off + j
      · have : i = j := by omega
        subst this
        rw [if_pos rfl, if_pos hb, List.getD_eq_getElem?_getD, List.getElem?_set_self hj]; rfl
      · rw [if_neg hij, h6 j hj, List.getD_eq_getElem?_getD, List.getD_eq_getElem?_getD, List.getElem?_set_ne (by omega)]
    · rcases List.mem_or_eq_of_mem_set hy with h' | rfl
      · exact h7 y h'
      · exact hx
theorem sliceO.nilO {K : IntKind} {w : World} {n c : Nat} {A : Option Addr} {F : List Nat} (h : sliceO K w [.slice A n c] [] F) : n = 0 ∧ F = [] := by
  rcases h with ⟨A, c, h1, h2, _, rfl⟩ | ⟨g, off, c, cur, t, h1, h2, _⟩
  · injection h1 with h1 _; injection h1 with _ e2 _; exact ⟨e2, rfl⟩
  · simp at h2
theorem only_set {F : List Nat} {a w : World} {g : Nat} (h : Only F a w) (hg : g ∈ F) (j : Nat) (u : Value) : Only F a (w.setCell ⟨g, j, none⟩ u) := h.put (.inl hg) u
/-- A slice that reads, as integers. -/
theorem slR_ints {K : IntKind} {w : World} {B n c : Nat} {A : Option Addr} {l : List Int} (h : (tSl K).R w B [.slice A n c] l) : Ints K w B A n l ∧ n ≤ c ∧ c ≤ 9223372036854775807 := by
  obtain ⟨A', n', c', h1, h2, h3, h4⟩ := h
  injection h1 with h1 _; injection h1 with e1 e2 e3
  subst e1 e2 e3
  exact ⟨h4, h2, h3⟩
theorem ints_slR {K : IntKind} {w : World} {B n c : Nat} {A : Option Addr} {l : List Int} (h : Ints K w B A n l) (h1 : n ≤ c) (h2 : c ≤ 9223372036854775807) : (tSl K).R w B [.slice A n c] l := ⟨A, n, c, rfl, h1, h2, h⟩
theorem ret_int {a b : Int} (h : a = b) : Ending.returned (.int .i64 a) = .returned (.int .i64 b) := by rw [h]
theorem Ty.far {α : Type} {t : Ty α} {w : World} {cs : List Value} {a : α} {F : List Nat} {B : Nat} (h : t.O w cs a F) (hN : New B F) {p : Addr} (hp : p.block < B) (u : Value) : t.O (w.setCell p u) cs a F :=
  t.kept h fun f hf => Below.heap_setCell w p u f (by rintro rfl; have := hN.2 _ hf; omega)
/-- A cell of an element, behind what left the old blocks alone. -/
theorem cell_at {w w' : World} {b o : Nat} {v : Value} (hB : Below w.heap.size w w') (hb : b < w.heap.size) (h : w.cell? ⟨b, o, none⟩ = some v) : w'.cell? ⟨b, o, none⟩ = some v :=
  (World.cell?_of_block (hB.block b hb)).trans h
theorem New.only {B : Nat} {F : List Nat} (h : New B F) : F.Nodup := h.1
theorem o_eqIntS {w : World} {B n m c d : Nat} {A A' : Option Addr} {l : List Int} (h : (tSl .i64).R w B [.slice A n c] l) (h' : (tSl .i64).R w B [.slice A' m d] l) :
    Calls Tryz.prog 16 #[.slice A n c, .slice A' m d] w fun e w' => e = .returned (.bool true) ∧ Below w.heap.size w w' := by
  have h1 := slR_ints h
  have h2 := slR_ints h'
  refine (l_eqIntS h1.1 h2.1 (by simp only [maxLen]; omega) (by simp only [maxLen]; omega)).mono fun e w' hh => ⟨by rw [hh.1]; simp, hh.2⟩
theorem o_toIntS {w : World} {n c : Nat} {A : Option Addr} {l : List Int} (h : (tSl .i64).R w w.heap.size [.slice A n c] l) (hn : l.length ≤ 1048576) :
    Calls Tryz.prog 12 #[.slice A n c] w fun e w' => ∃ A' c' F, e = .returned (.slice A' l.length c') ∧ (tSl .i64).O w' [.slice A' l.length c'] l F ∧ New w.heap.size F ∧ Below w.heap.size w w' := by
  have h1 := (slR_ints h).1
  have e1 := h1.1
  refine (l_toIntS' h1 (by omega)).mono ?_
  rintro e w' ⟨b, rfl, hO, hB⟩
  obtain ⟨F, hF, hN⟩ := hO.tSl
  rw [← e1] at hF
  exact ⟨_, _, F, by rw [← e1], hF, hN, hB⟩
theorem o_szIntS_t {w : World} {B n c : Nat} {A : Option Addr} {l : List Int} {k : Int} (h : (tSl .i64).R w B [.slice A n c] l) (h1 : 0 ≤ k) (h2 : k ≤ 1048576) (h3 : (l.length : Int) ≤ k) :
    Calls Tryz.prog 9 #[.slice A n c, .int .i64 k] w fun e w' => e = .returned (.int .i64 (k - l.length)) ∧ Below w.heap.size w w' := by
  have e1 := (slR_ints h).1.1
  rw [e1] at h3 ⊢
  have d : decide (k - (n : Int) < 0) = false := by simp; omega
  clear h e1
  go_enter Tryz.func9, Tryz.ntmps9
  go_wp2
  go_ret
  exact ⟨rfl, (by repeat (first | (with_reducible exact Below.refl _ _) | (with_reducible assumption) | (with_reducible refine bel_alloc ?_ _) | (with_reducible refine bel_drew ?_) | (with_reducible refine below_drewN ?_ _) | (with_reducible refine bel_put ?_ (by first | exact Nat.le_refl _ | (simp; done) | (simp; omega)) _)))⟩
theorem o_szIntS_f {w : World} {B n c : Nat} {A : Option Addr} {l : List Int} {k : Int} (h : (tSl .i64).R w B [.slice A n c] l) (h1 : 0 ≤ k) (h2 : k ≤ 1048576) (h3 : ¬ (l.length : Int) ≤ k) :
    Calls Tryz.prog 9 #[.slice A n c, .int .i64 k] w fun e w' => e = .returned (.int .i64 (-1)) ∧ Below w.heap.size w w' := by
  have hh := slR_ints h
  have e1 := hh.1.1
  have hn : n ≤ 9223372036854775807 := by omega
  rw [e1] at h3
  have d : decide (k - (n : Int) < 0) = true := by simp; omega
  clear h e1 hh
  go_enter Tryz.func9, Tryz.ntmps9
  go_wp2
  go_ret
  exact ⟨rfl, (by repeat (first | (with_reducible exact Below.refl _ _) | (with_reducible assumption) | (with_reducible refine bel_alloc ?_ _) | (with_reducible refine bel_drew ?_) | (with_reducible refine below_drewN ?_ _) | (with_reducible refine bel_put ?_ (by first | exact Nat.le_refl _ | (simp; done) | (simp; omega)) _)))⟩
theorem o_eqByteS {w : World} {B n m c d : Nat} {A A' : Option Addr} {l : List Int} (h : (tSl .u8).R w B [.slice A n c] l) (h' : (tSl .u8).R w B [.slice A' m d] l) :
    Calls Tryz.prog 17 #[.slice A n c, .slice A' m d] w fun e w' => e = .returned (.bool true) ∧ Below w.heap.size w w' := by
  have h1 := slR_ints h
  have h2 := slR_ints h'
  refine (l_eqByteS h1.1 h2.1 (by simp only [maxLen]; omega) (by simp only [maxLen]; omega)).mono fun e w' hh => ⟨by rw [hh.1]; simp, hh.2⟩
theorem o_toByteS {w : World} {n c : Nat} {A : Option Addr} {l : List Int} (h : (tSl .u8).R w w.heap.size [.slice A n c] l) (hn : l.length ≤ 1048576) :
    Calls Tryz.prog 13 #[.slice A n c] w fun e w' => ∃ A' c' F, e = .returned (.slice A' l.length c') ∧ (tSl .u8).O w' [.slice A' l.length c'] l F ∧ New w.heap.size F ∧ Below w.heap.size w w' := by
  have h1 := (slR_ints h).1
  have e1 := h1.1
  refine (l_toByteS' h1 (by omega)).mono ?_
  rintro e w' ⟨b, rfl, hO, hB⟩
  obtain ⟨F, hF, hN⟩ := hO.tSl
  rw [← e1] at hF
  exact ⟨_, _, F, by rw [← e1], hF, hN, hB⟩
theorem o_szByteS_t {w : World} {B n c : Nat} {A : Option Addr} {l : List Int} {k : Int} (h : (tSl .u8).R w B [.slice A n c] l) (h1 : 0 ≤ k) (h2 : k ≤ 1048576) (h3 : (l.length : Int) ≤ k) :
    Calls Tryz.prog 10 #[.slice A n c, .int .i64 k] w fun e w' => e = .returned (.int .i64 (k - l.length)) ∧ Below w.heap.size w w' := by
  have e1 := (slR_ints h).1.1
  rw [e1] at h3 ⊢
  have d : decide (k - (n : Int) < 0) = false := by simp; omega
  clear h e1
  go_enter Tryz.func10, Tryz.ntmps10
  go_wp2
  go_ret
  exact ⟨rfl, (by repeat (first | (with_reducible exact Below.refl _ _) | (with_reducible assumption) | (with_reducible refine bel_alloc ?_ _) | (with_reducible refine bel_drew ?_) | (with_reducible refine below_drewN ?_ _) | (with_reducible refine bel_put ?_ (by first | exact Nat.le_refl _ | (simp; done) | (simp; omega)) _)))⟩
theorem o_szByteS_f {w : World} {B n c : Nat} {A : Option Addr} {l : List Int} {k : Int} (h : (tSl .u8).R w B [.slice A n c] l) (h1 : 0 ≤ k) (h2 : k ≤ 1048576) (h3 : ¬ (l.length : Int) ≤ k) :
    Calls Tryz.prog 10 #[.slice A n c, .int .i64 k] w fun e w' => e = .returned (.int .i64 (-1)) ∧ Below w.heap.size w w' := by
  have hh := slR_ints h
  have e1 := hh.1.1
  have hn : n ≤ 9223372036854775807 := by omega
  rw [e1] at h3
  have d : decide (k - (n : Int) < 0) = true := by simp; omega
  clear h e1 hh
  go_enter Tryz.func10, Tryz.ntmps10
  go_wp2
  go_ret
  exact ⟨rfl, (by repeat (first | (with_reducible exact Below.refl _ _) | (with_reducible assumption) | (with_reducible refine bel_alloc ?_ _) | (with_reducible refine bel_drew ?_) | (with_reducible refine below_drewN ?_ _) | (with_reducible refine bel_put ?_ (by first | exact Nat.le_refl _ | (simp; done) | (simp; omega)) _)))⟩
end Go.Proofs.YtcljjdmfnniobaaGreat
