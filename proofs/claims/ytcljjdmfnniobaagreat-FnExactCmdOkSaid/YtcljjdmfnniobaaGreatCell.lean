/-
  Contracts of the laws' functions on cells: are they small enough; copies; are they alike; marks.
-/
import Derived.Test.YtcljjdmfnniobaaGreatCopy
import Derived.Test.YtcljjdmfnniobaaGreatSpecOne
namespace Go.Proofs.YtcljjdmfnniobaaGreat
set_option maxRecDepth 100000
open Go.ChangeShapes Go.WideShapes Go.ChangeAt Go.RowKit

theorem l_szByteS_t (A : Option Addr) (n c : Nat) (k : Int) (w : World) (h1 : 0 ≤ k) (h2 : k ≤ 1048576) (h : (n : Int) ≤ k) :
    Calls Tryz.prog 10 #[.slice A n c, .int .i64 k] w fun e w' => e = .returned (.int .i64 (k - n)) ∧ w = w' := by
  have d : decide (k - (n : Int) < 0) = false := by simp; omega
  go_enter Tryz.func10, Tryz.ntmps10
  go_wp2
  go_ret
  exact ⟨rfl, rfl⟩
theorem l_szByteS_f (A : Option Addr) (n c : Nat) (k : Int) (w : World) (hn : n ≤ 9223372036854775807) (h1 : 0 ≤ k) (h2 : k ≤ 1048576) (h : ¬ (n : Int) ≤ k) :
    Calls Tryz.prog 10 #[.slice A n c, .int .i64 k] w fun e w' => e = .returned (.int .i64 (-1)) ∧ w = w' := by
  have d : decide (k - (n : Int) < 0) = true := by simp; omega
  go_enter Tryz.func10, Tryz.ntmps10
  go_wp2
  go_ret
  exact ⟨rfl, rfl⟩
theorem bel_alloc {w w' : World} (h : Below w.heap.size w w') (o : Obj) : Below w.heap.size w (w'.alloc o) := h.alloc h.size o
theorem bel_put {w w' : World} (h : Below w.heap.size w w') {p : Addr} (hp : w.heap.size ≤ p.block) (u : Value) : Below w.heap.size w (w'.setCell p u) := h.setCell hp u
theorem bel_drew {w w' : World} (h : Below w.heap.size w w') : Below w.heap.size w w'.drew := h.drew
theorem bel_trans {a w w' : World} (h : Below a.heap.size a w) (h' : Below w.heap.size w w') : Below a.heap.size a w' := h.trans (h'.mono h.size)
theorem reach {k : IntKind} {w w' : World} {A : Option Addr} {n : Nat} {l : List Int} (h : Ints k w w.heap.size A n l) (hB : Below w.heap.size w w') : Ints k w' w'.heap.size A n l := (h.below hB).up hB.size
theorem getDtk {l : List Int} {n i : Nat} (h : i < n) : (l.take n).getD i 0 = l.getD i 0 := by
  rw [List.getD_eq_getElem?_getD, List.getElem?_take, if_pos h, List.getD_eq_getElem?_getD]
theorem Ints.head {k : IntKind} {w : World} {B n : Nat} {A : Option Addr} {l : List Int} (h : Ints k w B A n l) (m : Nat) (hm : m ≤ n) : Ints k w B A m (l.take m) := by
  refine ⟨by rw [List.length_take, h.1]; omega, fun h0 => ?_, fun x hx => h.2.2 x (List.mem_of_mem_take hx)⟩
  obtain ⟨b, off, e, hb, hc⟩ := h.2.1 (by omega)
  exact ⟨b, off, e, hb, fun i hi => by rw [Go.Proofs.YtcljjdmfnniobaaGreat.getDtk hi]; exact hc i (by omega)⟩
theorem Own.far {k : IntKind} {e : TypeId} {w : World} {base g : Nat} {v : Value} {l : List Int} (h : Own k e w base v l) (hg : g < base) (j : Nat) (u : Value) : Own k e (w.setCell ⟨g, j, none⟩ u) base v l :=
  h.kept (gb_put (World.grownBy.refl _ _) j u) (by
    cases hv : v.ownBlock with
    | none => exact .inl rfl
    | some b => exact .inr (fun e => by have := (h.block hv).1; injection e; omega))
theorem cell_bel {w w' : World} {b o : Nat} {v : Value} (h : Below w.heap.size w w') (hc : w.cell? ⟨b, o, none⟩ = some v) : w'.cell? ⟨b, o, none⟩ = some v :=
  (World.cell?_of_block (h.block b (World.block_lt_of_cell? w _ hc))).trans hc
theorem l_toByteS' {w : World} {n c : Nat} {A : Option Addr} {l : List Int} (hl : Ints .u8 w w.heap.size A n l) (hn : n ≤ 140737488351232) :
    Calls Tryz.prog 13 #[.slice A n c] w fun e w' => ∃ b, e = .returned (.slice (some ⟨b, 0, none⟩) n n) ∧ Own .u8 5 w' w.heap.size (.slice (some ⟨b, 0, none⟩) n n) l ∧ Below w.heap.size w w' :=
  (l_toByteS hl hn).mono fun _ _ h => ⟨_, h⟩
theorem l_toIntS' {w : World} {n c : Nat} {A : Option Addr} {l : List Int} (hl : Ints .i64 w w.heap.size A n l) (hn : n ≤ 17592186043904) :
    Calls Tryz.prog 12 #[.slice A n c] w fun e w' => ∃ b, e = .returned (.slice (some ⟨b, 0, none⟩) n n) ∧ Own .i64 3 w' w.heap.size (.slice (some ⟨b, 0, none⟩) n n) l ∧ Below w.heap.size w w' :=
  (l_toIntS hl hn).mono fun _ _ h => ⟨_, h⟩
end Go.Proofs.YtcljjdmfnniobaaGreat
