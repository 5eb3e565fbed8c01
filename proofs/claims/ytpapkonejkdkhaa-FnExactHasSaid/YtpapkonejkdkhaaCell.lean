/-
  Contracts of the laws' functions on cells: are they small enough; copies; are they alike; marks.
-/
import Derived.Test.YtpapkonejkdkhaaCopy
import Derived.Test.YtpapkonejkdkhaaSpecOne
namespace Go.Proofs.Ytpapkonejkdkhaa
set_option maxRecDepth 100000
open Go.ChangeShapes Go.WideShapes Go.ChangeAt Go.RowKit

theorem l_szByteS_t (A : Option Addr) (n c : Nat) (k : Int) (w : World) (h1 : 0 ≤ k) (h2 : k ≤ 1048576) (h : (n : Int) ≤ k) :
    Calls Try.prog 47 #[.slice A n c, .int .i64 k] w fun e w' => e = .returned (.int .i64 (k - n)) ∧ w = w' := by
  have d : decide (k - (n : Int) < 0) = false := by simp; omega
  go_enter Try.func47, Try.ntmps47
  go_wp2
  go_ret
  exact ⟨rfl, rfl⟩
theorem l_szByteS_f (A : Option Addr) (n c : Nat) (k : Int) (w : World) (hn : n ≤ 9223372036854775807) (h1 : 0 ≤ k) (h2 : k ≤ 1048576) (h : ¬ (n : Int) ≤ k) :
    Calls Try.prog 47 #[.slice A n c, .int .i64 k] w fun e w' => e = .returned (.int .i64 (-1)) ∧ w = w' := by
  have d : decide (k - (n : Int) < 0) = true := by simp; omega
  go_enter Try.func47, Try.ntmps47
  go_wp2
  go_ret
  exact ⟨rfl, rfl⟩
theorem bel_alloc {w w' : World} (h : Below w.heap.size w w') (o : Obj) : Below w.heap.size w (w'.alloc o) := h.alloc h.size o
theorem bel_put {w w' : World} (h : Below w.heap.size w w') {p : Addr} (hp : w.heap.size ≤ p.block) (u : Value) : Below w.heap.size w (w'.setCell p u) := h.setCell hp u
theorem bel_drew {w w' : World} (h : Below w.heap.size w w') : Below w.heap.size w w'.drew := h.drew
theorem bel_trans {a w w' : World} (h : Below a.heap.size a w) (h' : Below w.heap.size w w') : Below a.heap.size a w' := h.trans (h'.mono h.size)
theorem reach {k : IntKind} {w w' : World} {A : Option Addr} {n : Nat} {l : List Int} (h : Ints k w w.heap.size A n l) (hB : Below w.heap.size w w') : Ints k w' w'.heap.size A n l := (h.below hB).up hB.size
theorem getDtk {l : List Int} {n i : Nat} (h : i < n) : (l.take n).getD i 0 = l.getD i 0 := by
  rw [List.getD_eq_getElem?_getD, List.getElem?_take, if_pos h, List.getD_eq_getElem?_getD]
theorem Ints.head {k : IntKind} {w : World} {B n : Nat} {A : Option Addr} {l : List Int} (h : Ints k w B A n l) (m : Nat) (hm : m ≤ n) : Ints k w B A m (l.take m) := by
  refine ⟨by rw [List.length_take, h.1]; omega, fun h0 => ?_, fun x hx => h.2.2 x (List.mem_of_mem_take hx)⟩
  obtain ⟨b, off, e, hb, hc⟩ := h.2.1 (by omega)
  exact ⟨b, off, e, hb, fun i hi => by rw [Go.Proofs.Ytpapkonejkdkhaa.getDtk hi]; exact hc i (by omega)⟩
theorem Own.far {k : IntKind} {e : TypeId} {w : World} {base g : Nat} {v : Value} {l : List Int} (h : Own k e w base v l) (hg : g < base) (j : Nat) (u : Value) : Own k e (w.setCell ⟨g, j, none⟩ u) base v l :=
  h.kept (gb_put (World.grownBy.refl _ _) j u) (by
    cases hv : v.ownBlock with
    | none => exact .inl rfl
    | some b => exact .inr (fun e => by have := (h.block hv).1; injection e; omega))
theorem cell_bel {w w' : World} {b o : Nat} {v : Value} (h : Below w.heap.size w w') (hc : w.cell? ⟨b, o, none⟩ = some v) : w'.cell? ⟨b, o, none⟩ = some v :=
  (World.cell?_of_block (h.block b (World.block_lt_of_cell? w _ hc))).trans hc
theorem l_szCell_t (A : Option Addr) (n c : Nat) (k : Int) (w : World) (h1 : 0 ≤ k) (h2 : k ≤ 1048576) (h : (n : Int) ≤ k) :
    Calls Try.prog 10 #[.agg #[.slice A n c], .int .i64 k] w fun e w' => e = .returned (.int .i64 (k - n)) ∧ Below w.heap.size w w' := by
  have d : decide (k - (n : Int) < 0) = false := by simp; omega
  go_enter Try.func10, Try.ntmps10
  go_wp2_with fail
  refine (l_szByteS_t _ _ _ _ _ h1 h2 h).mono ?_
  rintro e w' ⟨rfl, rfl⟩
  go_wp2
  go_ret
  exact ⟨rfl, (by repeat (first | (with_reducible exact Below.refl _ _) | (with_reducible assumption) | (with_reducible refine bel_alloc ?_ _) | (with_reducible refine bel_drew ?_) | (with_reducible refine below_drewN ?_ _) | (with_reducible refine bel_put ?_ (by first | exact Nat.le_refl _ | (simp; done) | (simp; omega)) _)))⟩
theorem l_szCell_f (A : Option Addr) (n c : Nat) (k : Int) (w : World) (hn : n ≤ 9223372036854775807) (h1 : 0 ≤ k) (h2 : k ≤ 1048576) (h : ¬ (n : Int) ≤ k) :
    Calls Try.prog 10 #[.agg #[.slice A n c], .int .i64 k] w fun e w' => e = .returned (.int .i64 (-1)) ∧ Below w.heap.size w w' := by
  go_enter Try.func10, Try.ntmps10
  go_wp2_with fail
  refine (l_szByteS_f _ _ _ _ _ hn h1 h2 (by omega)).mono ?_
  rintro e w' ⟨rfl, rfl⟩
  go_wp2
  go_ret
  exact ⟨rfl, (by repeat (first | (with_reducible exact Below.refl _ _) | (with_reducible assumption) | (with_reducible refine bel_alloc ?_ _) | (with_reducible refine bel_drew ?_) | (with_reducible refine below_drewN ?_ _) | (with_reducible refine bel_put ?_ (by first | exact Nat.le_refl _ | (simp; done) | (simp; omega)) _)))⟩
theorem l_toByteS' {w : World} {n c : Nat} {A : Option Addr} {l : List Int} (hl : Ints .u8 w w.heap.size A n l) (hn : n ≤ 140737488351232) :
    Calls Try.prog 13 #[.slice A n c] w fun e w' => ∃ b, e = .returned (.slice (some ⟨b, 0, none⟩) n n) ∧ Own .u8 5 w' w.heap.size (.slice (some ⟨b, 0, none⟩) n n) l ∧ Below w.heap.size w w' :=
  (l_toByteS hl hn).mono fun _ _ h => ⟨_, h⟩
theorem l_toIntS' {w : World} {n c : Nat} {A : Option Addr} {l : List Int} (hl : Ints .i64 w w.heap.size A n l) (hn : n ≤ 17592186043904) :
    Calls Try.prog 23 #[.slice A n c] w fun e w' => ∃ b, e = .returned (.slice (some ⟨b, 0, none⟩) n n) ∧ Own .i64 3 w' w.heap.size (.slice (some ⟨b, 0, none⟩) n n) l ∧ Below w.heap.size w w' :=
  (l_toIntS hl hn).mono fun _ _ h => ⟨_, h⟩
theorem l_toCell {w : World} {n c : Nat} {A : Option Addr} {l : List Int} (hl : Ints .u8 w w.heap.size A n l) (hn : n ≤ 140737488351232) :
    Calls Try.prog 12 #[.agg #[.slice A n c]] w fun e w' => ∃ b, e = .returned (.agg #[.slice (some ⟨b, 0, none⟩) n n]) ∧ Own .u8 5 w' w.heap.size (.slice (some ⟨b, 0, none⟩) n n) l ∧ Below w.heap.size w w' := by
  go_enter Try.func12, Try.ntmps12
  go_wp2_with fail
  refine (l_toByteS (reach hl ?hB) hn).mono ?_
  case hB => exact (by repeat (first | (with_reducible exact Below.refl _ _) | (with_reducible assumption) | (with_reducible refine bel_alloc ?_ _) | (with_reducible refine bel_drew ?_) | (with_reducible refine below_drewN ?_ _) | (with_reducible refine bel_put ?_ (by first | exact Nat.le_refl _ | (simp; done) | (simp; omega)) _)))
  rintro e w1 ⟨rfl, hO, hB⟩
  have b1 : Box w1 (w.heap.size + 1) 26 #[.slice none 0 0] := (Box.alloc (by have := Box.new (w.alloc (.cells #[.slice A n c] 24)) 26 #[.slice none 0 0]; simpa using this) _).below hB (by simp)
  have b2 : Box w1 (w.heap.size + 1 + 1) 26 #[.slice none 0 0] := Box.below (by have := Box.new ((w.alloc (.cells #[.slice A n c] 24)).alloc (.cells #[.slice none 0 0] 26)) 26 #[.slice none 0 0]; simpa using this) hB (by simp)
  have c1 := b1.cell 0; have f1 := b1.frozen 0; have c2 := b2.cell 0; have f2 := b2.frozen 0
  go_wp2
  have e := ((b1.far (p := ⟨w.heap.size + 1 + 1, 0, none⟩) (by simp) (.slice (some ⟨w.heap.size + 1 + 1 + 1, 0, none⟩) n n)).put 0 (.slice (some ⟨w.heap.size + 1 + 1 + 1, 0, none⟩) n n)).cell 0
  refine bodyPost_ret (v := .agg #[.slice (some ⟨w.heap.size + 1 + 1 + 1, 0, none⟩) n n]) (by simp [results, Try.results12, go_sem, e]) rfl ⟨_, rfl, ?_, ?_⟩
  · have h2 := hO.far (g := w.heap.size + 1 + 1) (by simp) 0 (.slice (some ⟨w.heap.size + 1 + 1 + 1, 0, none⟩) n n)
    have h3 := h2.far (g := w.heap.size + 1) (by simp) 0 (.slice (some ⟨w.heap.size + 1 + 1 + 1, 0, none⟩) n n)
    have h4 := h3.lower (base' := w.heap.size) (by simp; omega)
    simpa using h4
  · exact bel_put (bel_put (bel_trans (by repeat (first | (with_reducible exact Below.refl _ _) | (with_reducible assumption) | (with_reducible refine bel_alloc ?_ _) | (with_reducible refine bel_drew ?_) | (with_reducible refine below_drewN ?_ _) | (with_reducible refine bel_put ?_ (by first | exact Nat.le_refl _ | (simp; done) | (simp; omega)) _))) hB) (by simp; omega) _) (by simp) _
theorem l_eqCell {w : World} {n m c d : Nat} {A A' : Option Addr} {l l' : List Int} (h : Ints .u8 w w.heap.size A n l) (h' : Ints .u8 w w.heap.size A' m l') (hn : n ≤ maxLen) (hm : m ≤ maxLen) :
    Calls Try.prog 16 #[.agg #[.slice A n c], .agg #[.slice A' m d]] w fun e w' => e = .returned (.bool (decide (l = l'))) ∧ Below w.heap.size w w' := by
  by_cases heq : l = l'
  · have HD := Lib.hid (show decide (l = l') = true by simpa using heq)
    go_enter Try.func16, Try.ntmps16
    go_wp2_with fail
    refine (l_eqByteS (reach h ?hB) (reach h' ?hB) hn hm).mono ?_
    case hB => exact (by repeat (first | (with_reducible exact Below.refl _ _) | (with_reducible assumption) | (with_reducible refine bel_alloc ?_ _) | (with_reducible refine bel_drew ?_) | (with_reducible refine below_drewN ?_ _) | (with_reducible refine bel_put ?_ (by first | exact Nat.le_refl _ | (simp; done) | (simp; omega)) _)))
    rintro e w1 ⟨rfl, hB⟩
    rw [HD.out]
    go_wp2
    go_ret
    exact ⟨ret_bool HD.out.symm, bel_trans (by repeat (first | (with_reducible exact Below.refl _ _) | (with_reducible assumption) | (with_reducible refine bel_alloc ?_ _) | (with_reducible refine bel_drew ?_) | (with_reducible refine below_drewN ?_ _) | (with_reducible refine bel_put ?_ (by first | exact Nat.le_refl _ | (simp; done) | (simp; omega)) _))) hB⟩
  · have HD := Lib.hid (show decide (l = l') = false by simpa using heq)
    go_enter Try.func16, Try.ntmps16
    go_wp2_with fail
    refine (l_eqByteS (reach h ?hB) (reach h' ?hB) hn hm).mono ?_
    case hB => exact (by repeat (first | (with_reducible exact Below.refl _ _) | (with_reducible assumption) | (with_reducible refine bel_alloc ?_ _) | (with_reducible refine bel_drew ?_) | (with_reducible refine below_drewN ?_ _) | (with_reducible refine bel_put ?_ (by first | exact Nat.le_refl _ | (simp; done) | (simp; omega)) _)))
    rintro e w1 ⟨rfl, hB⟩
    rw [HD.out]
    go_wp2
    go_ret
    exact ⟨ret_bool HD.out.symm, bel_trans (by repeat (first | (with_reducible exact Below.refl _ _) | (with_reducible assumption) | (with_reducible refine bel_alloc ?_ _) | (with_reducible refine bel_drew ?_) | (with_reducible refine below_drewN ?_ _) | (with_reducible refine bel_put ?_ (by first | exact Nat.le_refl _ | (simp; done) | (simp; omega)) _))) hB⟩
theorem l_markCell {w : World} {base : Nat} {v : Value} {l : List Int} (k : Int) (h : Own .u8 5 w base v l) (h0 : 0 ≤ k) (hk : k + l.length ≤ 4611686018427387904) :
    Calls Try.prog 18 #[.agg #[v], .int .i64 k] w fun e w' => e = .returned (.int .i64 (k + l.length)) ∧ Own .u8 5 w' base v (marks8 k l.length) ∧ w.grownBy w' v.ownBlock := by
  go_enter Try.func18, Try.ntmps18
  go_wp2_with fail
  refine (l_markByteS k (h.alloc _) h0 hk).mono ?_
  rintro e w1 ⟨rfl, hO, hB⟩
  go_wp2
  go_ret
  exact ⟨rfl, hO, gb_trans (gb_alloc (World.grownBy.refl _ _) _) hB⟩
theorem l_heldCell {w : World} {n c : Nat} {A : Option Addr} (k : Int) (h : Ints .u8 w w.heap.size A n (marks8 k n)) (h0 : 0 ≤ k) (hk : k + n ≤ 4611686018427387904) :
    Calls Try.prog 59 #[.agg #[.slice A n c], .int .i64 k] w fun e w' => e = .returned (.int .i64 (k + n)) ∧ Below w.heap.size w w' := by
  have d : decide (k + (n : Int) < 0) = false := by simp; omega
  go_enter Try.func59, Try.ntmps59
  go_wp2_with fail
  refine (l_heldByteS k (reach h ?hB) h0 hk).mono ?_
  case hB => exact (by repeat (first | (with_reducible exact Below.refl _ _) | (with_reducible assumption) | (with_reducible refine bel_alloc ?_ _) | (with_reducible refine bel_drew ?_) | (with_reducible refine below_drewN ?_ _) | (with_reducible refine bel_put ?_ (by first | exact Nat.le_refl _ | (simp; done) | (simp; omega)) _)))
  rintro e w1 ⟨rfl, rfl⟩
  go_wp2
  go_ret
  exact ⟨rfl, (by repeat (first | (with_reducible exact Below.refl _ _) | (with_reducible assumption) | (with_reducible refine bel_alloc ?_ _) | (with_reducible refine bel_drew ?_) | (with_reducible refine below_drewN ?_ _) | (with_reducible refine bel_put ?_ (by first | exact Nat.le_refl _ | (simp; done) | (simp; omega)) _)))⟩
end Go.Proofs.Ytpapkonejkdkhaa
