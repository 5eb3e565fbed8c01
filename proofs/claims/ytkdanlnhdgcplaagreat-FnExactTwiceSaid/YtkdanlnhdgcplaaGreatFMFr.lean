/-
  Fr: texts joined.
-/
import Derived.Test.YtkdanlnhdgcplaaGreatFGa
import Derived.ChangeArms
import Derived.ChangeSlices
import Derived.Deep.Slices
namespace Go.Proofs.YtkdanlnhdgcplaaGreat
set_option linter.unusedVariables false
open Go.RowKit Go.ChangeShapes Go.WideShapes Go.ChangeAt Go.Deep
theorem add_add (a : Addr) (m j : Nat) : (a.add m).add j = a.add (m + j) := by
 unfold Addr.add
 by_cases h1 : m = 0 <;> by_cases h2 : j = 0 <;> simp [h1, h2, Nat.add_assoc]
theorem list_1 {cs : List Value} (h : cs.length = 1) : ∃ v0, cs = [v0] := by
 match cs, h with
 | [v0], _ => exact ⟨v0, rfl⟩
theorem list_2 {cs : List Value} (h : cs.length = 2) : ∃ v0 v1, cs = [v0, v1] := by
 match cs, h with
 | [v0, v1], _ => exact ⟨v0, v1, rfl⟩
theorem list_3 {cs : List Value} (h : cs.length = 3) : ∃ v0 v1 v2, cs = [v0, v1, v2] := by
 match cs, h with
 | [v0, v1, v2], _ => exact ⟨v0, v1, v2, rfl⟩
theorem list_4 {cs : List Value} (h : cs.length = 4) : ∃ v0 v1 v2 v3, cs = [v0, v1, v2, v3] := by
 match cs, h with
 | [v0, v1, v2, v3], _ => exact ⟨v0, v1, v2, v3, rfl⟩
theorem list_5 {cs : List Value} (h : cs.length = 5) : ∃ v0 v1 v2 v3 v4, cs = [v0, v1, v2, v3, v4] := by
 match cs, h with
 | [v0, v1, v2, v3, v4], _ => exact ⟨v0, v1, v2, v3, v4, rfl⟩
theorem list_7 {cs : List Value} (h : cs.length = 7) : ∃ v0 v1 v2 v3 v4 v5 v6, cs = [v0, v1, v2, v3, v4, v5, v6] := by
 match cs, h with
 | [v0, v1, v2, v3, v4, v5, v6], _ => exact ⟨v0, v1, v2, v3, v4, v5, v6, rfl⟩
section
variable {H : Type} {enc : TypeId × Value → H} {w : World} {fuel : Nat} {cs : List Value} {x : DataW H × List MemPlace}
def FrR {α : Type} (enc : TypeId × Value → H) (w : World) (T : TypeId) (t : Ty α) : Prop := ∀ fuel cs x, DataW.trod enc Tryz.prog w 0 (fun _ => true) true fuel T cs = some x → ∃ a, t.R w w.heap.size cs a
theorem frR_int {T : TypeId} (ht : Tryz.prog.underlying T = some (.int .i64)) : FrR enc w T tInt := fun _ _ _ h => by
 obtain ⟨n, rfl, _, hw⟩ := DataW.trod_int ht h
 exact ⟨n, rfl, hw⟩
theorem frR_sl {T E : TypeId} {K : IntKind} (ht : Tryz.prog.underlying T = some (.slice E)) (he : Tryz.prog.underlying E = some (.int K)) (hc : Tryz.prog.cellsOf E = 1) : FrR enc w T (tSl K) := fun _ _ _ h => by
 rcases open_ints ht he hc h with ⟨rfl, _⟩ | ⟨a, len, cap, zs, rfl, _, hl, hm, hz, _, hcell, hw⟩
 ·exact ⟨[], none, 0, 0, rfl, Nat.le_refl _, by omega, Ints.nil⟩
 ·have hz' : zs.length = cap := by simpa using hz
  exact ⟨_, _, len, cap, rfl, hl, by simp only [maxLen] at hm; omega, Ints.ofRow (by omega) hcell hw⟩
theorem frR_row {α : Type} {T E : TypeId} {t : Ty α} {K : Nat} (ht : Tryz.prog.underlying T = some (.slice E)) (hc : Tryz.prog.cellsOf E = K) (hK : t.k = K) (hk : 0 < K) (hE : FrR enc w E t) : FrR enc w T t.row := fun _ _ _ h => by
 subst hK
 rcases open_slice ht h with ⟨rfl, _⟩ | ⟨a, len, cap, m, n, D, Pl, rfl, _, hl, hm, hmm, _, hx⟩
 ·exact ⟨[], none, 0, 0, rfl, Nat.le_refl _, by omega, rfl, fun h => absurd h (by omega)⟩
 ·rw [hc] at hx
  have hm2 : m = cap := by simpa using hmm
  subst hm2
  have hx2 : ∀ i, i < len → ∃ q : α, ∃ es, (∀ j, j < t.k → w.cell? (a.add (i * t.k + j)) = es[j]?) ∧ es.length = t.k ∧ t.R w w.heap.size es q := fun i hi => by
   obtain ⟨es, h1, h2⟩ := hx i (by omega)
   obtain ⟨_, hlen, hce⟩ := World.cells?_some h1
   obtain ⟨q, hq⟩ := hE _ _ _ h2
   refine ⟨q, es, fun j hj => ?_, hlen, hq⟩
   have := hce j hj
   rwa [add_add] at this
  by_cases h0 : 0 < len
  ·obtain ⟨b, off, spot⟩ := a
   have hspot : spot = none := by
    obtain ⟨q, es, h1, h2, _⟩ := hx2 0 h0
    have h3 := h1 0 hk
    rw [List.getElem?_eq_getElem (by omega)] at h3
    simpa [Addr.add] using World.cell?_spot h3
   subst hspot
   have hb : b < w.heap.size := by
    obtain ⟨q, es, h1, h2, _⟩ := hx2 0 h0
    have h3 := h1 0 hk
    rw [List.getElem?_eq_getElem (by omega), Go.WideShapes.add_plain] at h3
    exact World.block_lt_of_cell? w _ h3
   refine ⟨(List.range len).pmap (fun i hi => (hx2 i hi).choose) (fun i hi => List.mem_range.1 hi), _, len, m, rfl, hl, by simp only [maxLen] at hm; omega, by simp, fun _ => ⟨b, off, rfl, hb, fun i q hq => ?_⟩⟩
   rw [List.getElem?_pmap] at hq
   have hi : i < len := by
    by_cases hi : i < len
    ·exact hi
    ·simp [List.getElem?_eq_none (show (List.range len).length ≤ i by simp; omega)] at hq
   simp [List.getElem?_range hi] at hq
   subst hq
   obtain ⟨es, h1, h2, h3⟩ := (hx2 i hi).choose_spec
   exact ⟨es, fun j hj => by have := h1 j hj; rw [Go.WideShapes.add_plain] at this; rw [← this, Nat.add_assoc], h3⟩
  ·have : len = 0 := by omega
   subst this
   exact ⟨[], _, 0, m, rfl, Nat.zero_le _, by simp only [maxLen] at hm; omega, rfl, fun h => absurd h (by omega)⟩
theorem frR_by : FrR enc w 28 tBy := frR_sl Tryz.underlying28 Tryz.underlying5 (by kernel_rfl)
theorem frR_is : FrR enc w 82 tIs := frR_sl Tryz.underlying82 Tryz.underlying3 (by kernel_rfl)
theorem cells_Cell : Tryz.prog.cellsOf 92 = 1 := by kernel_rfl
theorem frR_Cell : FrR enc w 92 tCell := fun _ cs _ h => by
 obtain ⟨xs, n, _, _, hl, hlen, hf⟩ := DataW.trod_struct Tryz.underlying92 h
 rw [cells_Cell] at hl
 obtain ⟨v0, rfl⟩ := list_1 hl
 have g0 : DataW.trod enc Tryz.prog w 0 (fun _ => true) true n 28 (List.take (Tryz.prog.cellsOf 28) (List.drop 0 [v0])) = xs[0]? := hf 0 _ rfl
 rw [(by kernel_rfl : Tryz.prog.cellsOf 28 = 1)] at g0
 rw [List.getElem?_eq_getElem (by rw [hlen]; exact (by decide : 0 < 1))] at g0
 obtain ⟨p0, r0⟩ := frR_by _ [v0] _ g0
 exact ⟨p0, r0⟩
theorem cells_Piece : Tryz.prog.cellsOf 266 = 4 := by kernel_rfl
theorem frR_Piece : FrR enc w 266 tPiece := fun _ cs _ h => by
 obtain ⟨xs, n, _, _, hl, hlen, hf⟩ := DataW.trod_struct Tryz.underlying266 h
 rw [cells_Piece] at hl
 obtain ⟨v0, v1, v2, v3, rfl⟩ := list_4 hl
 have g0 : DataW.trod enc Tryz.prog w 0 (fun _ => true) true n 3 (List.take (Tryz.prog.cellsOf 3) (List.drop 0 [v0, v1, v2, v3])) = xs[0]? := hf 0 _ rfl
 rw [(by kernel_rfl : Tryz.prog.cellsOf 3 = 1)] at g0
 rw [List.getElem?_eq_getElem (by rw [hlen]; exact (by decide : 0 < 4))] at g0
 obtain ⟨p0, r0⟩ := (frR_int Tryz.underlying3) _ [v0] _ g0
 have g1 : DataW.trod enc Tryz.prog w 0 (fun _ => true) true n 3 (List.take (Tryz.prog.cellsOf 3) (List.drop 1 [v0, v1, v2, v3])) = xs[1]? := hf 1 _ rfl
 rw [(by kernel_rfl : Tryz.prog.cellsOf 3 = 1)] at g1
 rw [List.getElem?_eq_getElem (by rw [hlen]; exact (by decide : 1 < 4))] at g1
 obtain ⟨p1, r1⟩ := (frR_int Tryz.underlying3) _ [v1] _ g1
 have g2 : DataW.trod enc Tryz.prog w 0 (fun _ => true) true n 3 (List.take (Tryz.prog.cellsOf 3) (List.drop 2 [v0, v1, v2, v3])) = xs[2]? := hf 2 _ rfl
 rw [(by kernel_rfl : Tryz.prog.cellsOf 3 = 1)] at g2
 rw [List.getElem?_eq_getElem (by rw [hlen]; exact (by decide : 2 < 4))] at g2
 obtain ⟨p2, r2⟩ := (frR_int Tryz.underlying3) _ [v2] _ g2
 have g3 : DataW.trod enc Tryz.prog w 0 (fun _ => true) true n 28 (List.take (Tryz.prog.cellsOf 28) (List.drop 3 [v0, v1, v2, v3])) = xs[3]? := hf 3 _ rfl
 rw [(by kernel_rfl : Tryz.prog.cellsOf 28 = 1)] at g3
 rw [List.getElem?_eq_getElem (by rw [hlen]; exact (by decide : 3 < 4))] at g3
 obtain ⟨p3, r3⟩ := frR_by _ [v3] _ g3
 exact ⟨(p0, (p1, (p2, p3))), ⟨_, _, rfl, r0, ⟨_, _, rfl, r1, ⟨_, _, rfl, r2, r3⟩⟩⟩⟩
theorem frR_PieceS : FrR enc w 214 tPiece.row := frR_row (K := 4) Tryz.underlying214 cells_Piece rfl (by omega) frR_Piece
theorem cells_Whole : Tryz.prog.cellsOf 216 = 4 := by kernel_rfl
theorem frR_Whole : FrR enc w 216 tWhole := fun _ cs _ h => by
 obtain ⟨xs, n, _, _, hl, hlen, hf⟩ := DataW.trod_struct Tryz.underlying216 h
 rw [cells_Whole] at hl
 obtain ⟨v0, v1, v2, v3, rfl⟩ := list_4 hl
 have g0 : DataW.trod enc Tryz.prog w 0 (fun _ => true) true n 3 (List.take (Tryz.prog.cellsOf 3) (List.drop 0 [v0, v1, v2, v3])) = xs[0]? := hf 0 _ rfl
 rw [(by kernel_rfl : Tryz.prog.cellsOf 3 = 1)] at g0
 rw [List.getElem?_eq_getElem (by rw [hlen]; exact (by decide : 0 < 4))] at g0
 obtain ⟨p0, r0⟩ := (frR_int Tryz.underlying3) _ [v0] _ g0
 have g1 : DataW.trod enc Tryz.prog w 0 (fun _ => true) true n 3 (List.take (Tryz.prog.cellsOf 3) (List.drop 1 [v0, v1, v2, v3])) = xs[1]? := hf 1 _ rfl
 rw [(by kernel_rfl : Tryz.prog.cellsOf 3 = 1)] at g1
 rw [List.getElem?_eq_getElem (by rw [hlen]; exact (by decide : 1 < 4))] at g1
 obtain ⟨p1, r1⟩ := (frR_int Tryz.underlying3) _ [v1] _ g1
 have g2 : DataW.trod enc Tryz.prog w 0 (fun _ => true) true n 3 (List.take (Tryz.prog.cellsOf 3) (List.drop 2 [v0, v1, v2, v3])) = xs[2]? := hf 2 _ rfl
 rw [(by kernel_rfl : Tryz.prog.cellsOf 3 = 1)] at g2
 rw [List.getElem?_eq_getElem (by rw [hlen]; exact (by decide : 2 < 4))] at g2
 obtain ⟨p2, r2⟩ := (frR_int Tryz.underlying3) _ [v2] _ g2
 have g3 : DataW.trod enc Tryz.prog w 0 (fun _ => true) true n 214 (List.take (Tryz.prog.cellsOf 214) (List.drop 3 [v0, v1, v2, v3])) = xs[3]? := hf 3 _ rfl
 rw [(by kernel_rfl : Tryz.prog.cellsOf 214 = 1)] at g3
 rw [List.getElem?_eq_getElem (by rw [hlen]; exact (by decide : 3 < 4))] at g3
 obtain ⟨p3, r3⟩ := frR_PieceS _ [v3] _ g3
 exact ⟨(p0, (p1, (p2, p3))), ⟨_, _, rfl, r0, ⟨_, _, rfl, r1, ⟨_, _, rfl, r2, r3⟩⟩⟩⟩
theorem frR_WholeS : FrR enc w 85 tWhole.row := frR_row (K := 4) Tryz.underlying85 cells_Whole rfl (by omega) frR_Whole
theorem cells_Desk : Tryz.prog.cellsOf 87 = 2 := by kernel_rfl
theorem frR_Desk : FrR enc w 87 tDesk := fun _ cs _ h => by
 obtain ⟨xs, n, _, _, hl, hlen, hf⟩ := DataW.trod_struct Tryz.underlying87 h
 rw [cells_Desk] at hl
 obtain ⟨v0, v1, rfl⟩ := list_2 hl
 have g0 : DataW.trod enc Tryz.prog w 0 (fun _ => true) true n 85 (List.take (Tryz.prog.cellsOf 85) (List.drop 0 [v0, v1])) = xs[0]? := hf 0 _ rfl
 rw [(by kernel_rfl : Tryz.prog.cellsOf 85 = 1)] at g0
 rw [List.getElem?_eq_getElem (by rw [hlen]; exact (by decide : 0 < 2))] at g0
 obtain ⟨p0, r0⟩ := frR_WholeS _ [v0] _ g0
 have g1 : DataW.trod enc Tryz.prog w 0 (fun _ => true) true n 82 (List.take (Tryz.prog.cellsOf 82) (List.drop 1 [v0, v1])) = xs[1]? := hf 1 _ rfl
 rw [(by kernel_rfl : Tryz.prog.cellsOf 82 = 1)] at g1
 rw [List.getElem?_eq_getElem (by rw [hlen]; exact (by decide : 1 < 2))] at g1
 obtain ⟨p1, r1⟩ := frR_is _ [v1] _ g1
 exact ⟨(p0, p1), ⟨_, _, rfl, r0, r1⟩⟩
theorem cells_Held : Tryz.prog.cellsOf 212 = 3 := by kernel_rfl
theorem frR_Held : FrR enc w 212 tHeld := fun _ cs _ h => by
 obtain ⟨xs, n, _, _, hl, hlen, hf⟩ := DataW.trod_struct Tryz.underlying212 h
 rw [cells_Held] at hl
 obtain ⟨v0, v1, v2, rfl⟩ := list_3 hl
 have g0 : DataW.trod enc Tryz.prog w 0 (fun _ => true) true n 3 (List.take (Tryz.prog.cellsOf 3) (List.drop 0 [v0, v1, v2])) = xs[0]? := hf 0 _ rfl
 rw [(by kernel_rfl : Tryz.prog.cellsOf 3 = 1)] at g0
 rw [List.getElem?_eq_getElem (by rw [hlen]; exact (by decide : 0 < 3))] at g0
 obtain ⟨p0, r0⟩ := (frR_int Tryz.underlying3) _ [v0] _ g0
 have g1 : DataW.trod enc Tryz.prog w 0 (fun _ => true) true n 3 (List.take (Tryz.prog.cellsOf 3) (List.drop 1 [v0, v1, v2])) = xs[1]? := hf 1 _ rfl
 rw [(by kernel_rfl : Tryz.prog.cellsOf 3 = 1)] at g1
 rw [List.getElem?_eq_getElem (by rw [hlen]; exact (by decide : 1 < 3))] at g1
 obtain ⟨p1, r1⟩ := (frR_int Tryz.underlying3) _ [v1] _ g1
 have g2 : DataW.trod enc Tryz.prog w 0 (fun _ => true) true n 92 (List.take (Tryz.prog.cellsOf 92) (List.drop 2 [v0, v1, v2])) = xs[2]? := hf 2 _ rfl
 rw [(by kernel_rfl : Tryz.prog.cellsOf 92 = 1)] at g2
 rw [List.getElem?_eq_getElem (by rw [hlen]; exact (by decide : 2 < 3))] at g2
 obtain ⟨p2, r2⟩ := frR_Cell _ [v2] _ g2
 exact ⟨(p0, (p1, p2)), ⟨_, _, rfl, r0, ⟨_, _, rfl, r1, r2⟩⟩⟩
theorem frR_HeldS : FrR enc w 81 tHeld.row := frR_row (K := 3) Tryz.underlying81 cells_Held rfl (by omega) frR_Held
theorem cells_Pool : Tryz.prog.cellsOf 84 = 2 := by kernel_rfl
theorem frR_Pool : FrR enc w 84 tPool := fun _ cs _ h => by
 obtain ⟨xs, n, _, _, hl, hlen, hf⟩ := DataW.trod_struct Tryz.underlying84 h
 rw [cells_Pool] at hl
 obtain ⟨v0, v1, rfl⟩ := list_2 hl
 have g0 : DataW.trod enc Tryz.prog w 0 (fun _ => true) true n 81 (List.take (Tryz.prog.cellsOf 81) (List.drop 0 [v0, v1])) = xs[0]? := hf 0 _ rfl
 rw [(by kernel_rfl : Tryz.prog.cellsOf 81 = 1)] at g0
 rw [List.getElem?_eq_getElem (by rw [hlen]; exact (by decide : 0 < 2))] at g0
 obtain ⟨p0, r0⟩ := frR_HeldS _ [v0] _ g0
 have g1 : DataW.trod enc Tryz.prog w 0 (fun _ => true) true n 82 (List.take (Tryz.prog.cellsOf 82) (List.drop 1 [v0, v1])) = xs[1]? := hf 1 _ rfl
 rw [(by kernel_rfl : Tryz.prog.cellsOf 82 = 1)] at g1
 rw [List.getElem?_eq_getElem (by rw [hlen]; exact (by decide : 1 < 2))] at g1
 obtain ⟨p1, r1⟩ := frR_is _ [v1] _ g1
 exact ⟨(p0, p1), ⟨_, _, rfl, r0, r1⟩⟩
theorem cells_Letter : Tryz.prog.cellsOf 182 = 2 := by kernel_rfl
theorem frR_Letter : FrR enc w 182 tLetter := fun _ cs _ h => by
 obtain ⟨xs, n, _, _, hl, hlen, hf⟩ := DataW.trod_struct Tryz.underlying182 h
 rw [cells_Letter] at hl
 obtain ⟨v0, v1, rfl⟩ := list_2 hl
 have g0 : DataW.trod enc Tryz.prog w 0 (fun _ => true) true n 3 (List.take (Tryz.prog.cellsOf 3) (List.drop 0 [v0, v1])) = xs[0]? := hf 0 _ rfl
 rw [(by kernel_rfl : Tryz.prog.cellsOf 3 = 1)] at g0
 rw [List.getElem?_eq_getElem (by rw [hlen]; exact (by decide : 0 < 2))] at g0
 obtain ⟨p0, r0⟩ := (frR_int Tryz.underlying3) _ [v0] _ g0
 have g1 : DataW.trod enc Tryz.prog w 0 (fun _ => true) true n 28 (List.take (Tryz.prog.cellsOf 28) (List.drop 1 [v0, v1])) = xs[1]? := hf 1 _ rfl
 rw [(by kernel_rfl : Tryz.prog.cellsOf 28 = 1)] at g1
 rw [List.getElem?_eq_getElem (by rw [hlen]; exact (by decide : 1 < 2))] at g1
 obtain ⟨p1, r1⟩ := frR_by _ [v1] _ g1
 exact ⟨(p0, p1), ⟨_, _, rfl, r0, r1⟩⟩
theorem frR_LetterS : FrR enc w 88 tLetter.row := frR_row (K := 2) Tryz.underlying88 cells_Letter rfl (by omega) frR_Letter
theorem cells_Node : Tryz.prog.cellsOf 90 = 7 := by kernel_rfl
theorem frR_Node : FrR enc w 90 tNode := fun _ cs _ h => by
 obtain ⟨xs, n, _, _, hl, hlen, hf⟩ := DataW.trod_struct Tryz.underlying90 h
 rw [cells_Node] at hl
 obtain ⟨v0, v1, v2, v3, v4, v5, v6, rfl⟩ := list_7 hl
 have g0 : DataW.trod enc Tryz.prog w 0 (fun _ => true) true n 3 (List.take (Tryz.prog.cellsOf 3) (List.drop 0 [v0, v1, v2, v3, v4, v5, v6])) = xs[0]? := hf 0 _ rfl
 rw [(by kernel_rfl : Tryz.prog.cellsOf 3 = 1)] at g0
 rw [List.getElem?_eq_getElem (by rw [hlen]; exact (by decide : 0 < 5))] at g0
 obtain ⟨p0, r0⟩ := (frR_int Tryz.underlying3) _ [v0] _ g0
 have g1 : DataW.trod enc Tryz.prog w 0 (fun _ => true) true n 3 (List.take (Tryz.prog.cellsOf 3) (List.drop 1 [v0, v1, v2, v3, v4, v5, v6])) = xs[1]? := hf 1 _ rfl
 rw [(by kernel_rfl : Tryz.prog.cellsOf 3 = 1)] at g1
 rw [List.getElem?_eq_getElem (by rw [hlen]; exact (by decide : 1 < 5))] at g1
 obtain ⟨p1, r1⟩ := (frR_int Tryz.underlying3) _ [v1] _ g1
 have g2 : DataW.trod enc Tryz.prog w 0 (fun _ => true) true n 84 (List.take (Tryz.prog.cellsOf 84) (List.drop 2 [v0, v1, v2, v3, v4, v5, v6])) = xs[2]? := hf 2 _ rfl
 rw [(by kernel_rfl : Tryz.prog.cellsOf 84 = 2)] at g2
 rw [List.getElem?_eq_getElem (by rw [hlen]; exact (by decide : 2 < 5))] at g2
 obtain ⟨p2, r2⟩ := frR_Pool _ [v2, v3] _ g2
 have g3 : DataW.trod enc Tryz.prog w 0 (fun _ => true) true n 87 (List.take (Tryz.prog.cellsOf 87) (List.drop 4 [v0, v1, v2, v3, v4, v5, v6])) = xs[3]? := hf 3 _ rfl
 rw [(by kernel_rfl : Tryz.prog.cellsOf 87 = 2)] at g3
 rw [List.getElem?_eq_getElem (by rw [hlen]; exact (by decide : 3 < 5))] at g3
 obtain ⟨p3, r3⟩ := frR_Desk _ [v4, v5] _ g3
 have g4 : DataW.trod enc Tryz.prog w 0 (fun _ => true) true n 88 (List.take (Tryz.prog.cellsOf 88) (List.drop 6 [v0, v1, v2, v3, v4, v5, v6])) = xs[4]? := hf 4 _ rfl
 rw [(by kernel_rfl : Tryz.prog.cellsOf 88 = 1)] at g4
 rw [List.getElem?_eq_getElem (by rw [hlen]; exact (by decide : 4 < 5))] at g4
 obtain ⟨p4, r4⟩ := frR_LetterS _ [v6] _ g4
 exact ⟨(p0, (p1, (p2, (p3, p4)))), ⟨_, _, rfl, r0, ⟨_, _, rfl, r1, ⟨_, _, rfl, r2, ⟨_, _, rfl, r3, r4⟩⟩⟩⟩⟩
theorem frR_NodeS : FrR enc w 22 tNode.row := frR_row (K := 7) Tryz.underlying22 cells_Node rfl (by omega) frR_Node
theorem cells_Mail : Tryz.prog.cellsOf 94 = 2 := by kernel_rfl
theorem frR_Mail : FrR enc w 94 tMail := fun _ cs _ h => by
 obtain ⟨xs, n, _, _, hl, hlen, hf⟩ := DataW.trod_struct Tryz.underlying94 h
 rw [cells_Mail] at hl
 obtain ⟨v0, v1, rfl⟩ := list_2 hl
 have g0 : DataW.trod enc Tryz.prog w 0 (fun _ => true) true n 3 (List.take (Tryz.prog.cellsOf 3) (List.drop 0 [v0, v1])) = xs[0]? := hf 0 _ rfl
 rw [(by kernel_rfl : Tryz.prog.cellsOf 3 = 1)] at g0
 rw [List.getElem?_eq_getElem (by rw [hlen]; exact (by decide : 0 < 2))] at g0
 obtain ⟨p0, r0⟩ := (frR_int Tryz.underlying3) _ [v0] _ g0
 have g1 : DataW.trod enc Tryz.prog w 0 (fun _ => true) true n 92 (List.take (Tryz.prog.cellsOf 92) (List.drop 1 [v0, v1])) = xs[1]? := hf 1 _ rfl
 rw [(by kernel_rfl : Tryz.prog.cellsOf 92 = 1)] at g1
 rw [List.getElem?_eq_getElem (by rw [hlen]; exact (by decide : 1 < 2))] at g1
 obtain ⟨p1, r1⟩ := frR_Cell _ [v1] _ g1
 exact ⟨(p0, p1), ⟨_, _, rfl, r0, r1⟩⟩
theorem frR_MailS : FrR enc w 23 tMail.row := frR_row (K := 2) Tryz.underlying23 cells_Mail rfl (by omega) frR_Mail
theorem cells_Sent : Tryz.prog.cellsOf 97 = 3 := by kernel_rfl
theorem frR_Sent : FrR enc w 97 tSent := fun _ cs _ h => by
 obtain ⟨xs, n, _, _, hl, hlen, hf⟩ := DataW.trod_struct Tryz.underlying97 h
 rw [cells_Sent] at hl
 obtain ⟨v0, v1, v2, rfl⟩ := list_3 hl
 have g0 : DataW.trod enc Tryz.prog w 0 (fun _ => true) true n 3 (List.take (Tryz.prog.cellsOf 3) (List.drop 0 [v0, v1, v2])) = xs[0]? := hf 0 _ rfl
 rw [(by kernel_rfl : Tryz.prog.cellsOf 3 = 1)] at g0
 rw [List.getElem?_eq_getElem (by rw [hlen]; exact (by decide : 0 < 3))] at g0
 obtain ⟨p0, r0⟩ := (frR_int Tryz.underlying3) _ [v0] _ g0
 have g1 : DataW.trod enc Tryz.prog w 0 (fun _ => true) true n 3 (List.take (Tryz.prog.cellsOf 3) (List.drop 1 [v0, v1, v2])) = xs[1]? := hf 1 _ rfl
 rw [(by kernel_rfl : Tryz.prog.cellsOf 3 = 1)] at g1
 rw [List.getElem?_eq_getElem (by rw [hlen]; exact (by decide : 1 < 3))] at g1
 obtain ⟨p1, r1⟩ := (frR_int Tryz.underlying3) _ [v1] _ g1
 have g2 : DataW.trod enc Tryz.prog w 0 (fun _ => true) true n 28 (List.take (Tryz.prog.cellsOf 28) (List.drop 2 [v0, v1, v2])) = xs[2]? := hf 2 _ rfl
 rw [(by kernel_rfl : Tryz.prog.cellsOf 28 = 1)] at g2
 rw [List.getElem?_eq_getElem (by rw [hlen]; exact (by decide : 2 < 3))] at g2
 obtain ⟨p2, r2⟩ := frR_by _ [v2] _ g2
 exact ⟨(p0, (p1, p2)), ⟨_, _, rfl, r0, ⟨_, _, rfl, r1, r2⟩⟩⟩
theorem frR_SentS : FrR enc w 24 tSent.row := frR_row (K := 3) Tryz.underlying24 cells_Sent rfl (by omega) frR_Sent
theorem cells_Glance : Tryz.prog.cellsOf 119 = 2 := by kernel_rfl
theorem frR_Glance : FrR enc w 119 tGlance := fun _ cs _ h => by
 obtain ⟨xs, n, _, _, hl, hlen, hf⟩ := DataW.trod_struct Tryz.underlying119 h
 rw [cells_Glance] at hl
 obtain ⟨v0, v1, rfl⟩ := list_2 hl
 have g0 : DataW.trod enc Tryz.prog w 0 (fun _ => true) true n 3 (List.take (Tryz.prog.cellsOf 3) (List.drop 0 [v0, v1])) = xs[0]? := hf 0 _ rfl
 rw [(by kernel_rfl : Tryz.prog.cellsOf 3 = 1)] at g0
 rw [List.getElem?_eq_getElem (by rw [hlen]; exact (by decide : 0 < 2))] at g0
 obtain ⟨p0, r0⟩ := (frR_int Tryz.underlying3) _ [v0] _ g0
 have g1 : DataW.trod enc Tryz.prog w 0 (fun _ => true) true n 3 (List.take (Tryz.prog.cellsOf 3) (List.drop 1 [v0, v1])) = xs[1]? := hf 1 _ rfl
 rw [(by kernel_rfl : Tryz.prog.cellsOf 3 = 1)] at g1
 rw [List.getElem?_eq_getElem (by rw [hlen]; exact (by decide : 1 < 2))] at g1
 obtain ⟨p1, r1⟩ := (frR_int Tryz.underlying3) _ [v1] _ g1
 exact ⟨(p0, p1), ⟨_, _, rfl, r0, r1⟩⟩
theorem frR_GlanceS : FrR enc w 25 tGlance.row := frR_row (K := 2) Tryz.underlying25 cells_Glance rfl (by omega) frR_Glance
theorem cells_Net : Tryz.prog.cellsOf 27 = 7 := by kernel_rfl
theorem frR_Net : FrR enc w 27 tNet := fun _ cs _ h => by
 obtain ⟨xs, n, _, _, hl, hlen, hf⟩ := DataW.trod_struct Tryz.underlying27 h
 rw [cells_Net] at hl
 obtain ⟨v0, v1, v2, v3, v4, v5, v6, rfl⟩ := list_7 hl
 have g0 : DataW.trod enc Tryz.prog w 0 (fun _ => true) true n 3 (List.take (Tryz.prog.cellsOf 3) (List.drop 0 [v0, v1, v2, v3, v4, v5, v6])) = xs[0]? := hf 0 _ rfl
 rw [(by kernel_rfl : Tryz.prog.cellsOf 3 = 1)] at g0
 rw [List.getElem?_eq_getElem (by rw [hlen]; exact (by decide : 0 < 7))] at g0
 obtain ⟨p0, r0⟩ := (frR_int Tryz.underlying3) _ [v0] _ g0
 have g1 : DataW.trod enc Tryz.prog w 0 (fun _ => true) true n 3 (List.take (Tryz.prog.cellsOf 3) (List.drop 1 [v0, v1, v2, v3, v4, v5, v6])) = xs[1]? := hf 1 _ rfl
 rw [(by kernel_rfl : Tryz.prog.cellsOf 3 = 1)] at g1
 rw [List.getElem?_eq_getElem (by rw [hlen]; exact (by decide : 1 < 7))] at g1
 obtain ⟨p1, r1⟩ := (frR_int Tryz.underlying3) _ [v1] _ g1
 have g2 : DataW.trod enc Tryz.prog w 0 (fun _ => true) true n 3 (List.take (Tryz.prog.cellsOf 3) (List.drop 2 [v0, v1, v2, v3, v4, v5, v6])) = xs[2]? := hf 2 _ rfl
 rw [(by kernel_rfl : Tryz.prog.cellsOf 3 = 1)] at g2
 rw [List.getElem?_eq_getElem (by rw [hlen]; exact (by decide : 2 < 7))] at g2
 obtain ⟨p2, r2⟩ := (frR_int Tryz.underlying3) _ [v2] _ g2
 have g3 : DataW.trod enc Tryz.prog w 0 (fun _ => true) true n 22 (List.take (Tryz.prog.cellsOf 22) (List.drop 3 [v0, v1, v2, v3, v4, v5, v6])) = xs[3]? := hf 3 _ rfl
 rw [(by kernel_rfl : Tryz.prog.cellsOf 22 = 1)] at g3
 rw [List.getElem?_eq_getElem (by rw [hlen]; exact (by decide : 3 < 7))] at g3
 obtain ⟨p3, r3⟩ := frR_NodeS _ [v3] _ g3
 have g4 : DataW.trod enc Tryz.prog w 0 (fun _ => true) true n 23 (List.take (Tryz.prog.cellsOf 23) (List.drop 4 [v0, v1, v2, v3, v4, v5, v6])) = xs[4]? := hf 4 _ rfl
 rw [(by kernel_rfl : Tryz.prog.cellsOf 23 = 1)] at g4
 rw [List.getElem?_eq_getElem (by rw [hlen]; exact (by decide : 4 < 7))] at g4
 obtain ⟨p4, r4⟩ := frR_MailS _ [v4] _ g4
 have g5 : DataW.trod enc Tryz.prog w 0 (fun _ => true) true n 24 (List.take (Tryz.prog.cellsOf 24) (List.drop 5 [v0, v1, v2, v3, v4, v5, v6])) = xs[5]? := hf 5 _ rfl
 rw [(by kernel_rfl : Tryz.prog.cellsOf 24 = 1)] at g5
 rw [List.getElem?_eq_getElem (by rw [hlen]; exact (by decide : 5 < 7))] at g5
 obtain ⟨p5, r5⟩ := frR_SentS _ [v5] _ g5
 have g6 : DataW.trod enc Tryz.prog w 0 (fun _ => true) true n 25 (List.take (Tryz.prog.cellsOf 25) (List.drop 6 [v0, v1, v2, v3, v4, v5, v6])) = xs[6]? := hf 6 _ rfl
 rw [(by kernel_rfl : Tryz.prog.cellsOf 25 = 1)] at g6
 rw [List.getElem?_eq_getElem (by rw [hlen]; exact (by decide : 6 < 7))] at g6
 obtain ⟨p6, r6⟩ := frR_GlanceS _ [v6] _ g6
 exact ⟨(p0, (p1, (p2, (p3, (p4, (p5, p6)))))), ⟨_, _, rfl, r0, ⟨_, _, rfl, r1, ⟨_, _, rfl, r2, ⟨_, _, rfl, r3, ⟨_, _, rfl, r4, ⟨_, _, rfl, r5, r6⟩⟩⟩⟩⟩⟩⟩
end
end Go.Proofs.YtkdanlnhdgcplaaGreat
