/-
  PFlI: texts joined.
-/
import Derived.Test.YtblcfncjghkegaaPGj
import Derived.Test.YtblcfncjghkegaaPGl
import Derived.Test.YtblcfncjghkegaaPGo
import Derived.Test.YtblcfncjghkegaaPGp
import Derived.Laws.CopyOwn
namespace Go.Proofs.Ytblcfncjghkegaa
set_option maxRecDepth 100000
set_option linter.unusedVariables false
set_option linter.unusedSimpArgs false
open Go.ChangeShapes Go.WideShapes Go.ChangeAt Go.RowKit
open Fld
theorem twelve : ∀ (l : List Int), l.length = 12 → ∃ nz0 nz1 nz2 nz3 nz4 nz5 nz6 nz7 nz8 nz9 nz10 nz11, l = [nz0, nz1, nz2, nz3, nz4, nz5, nz6, nz7, nz8, nz9, nz10, nz11]
  | [nz0, nz1, nz2, nz3, nz4, nz5, nz6, nz7, nz8, nz9, nz10, nz11], _ => ⟨nz0, nz1, nz2, nz3, nz4, nz5, nz6, nz7, nz8, nz9, nz10, nz11, rfl⟩
theorem ints_byI {w : World} {B n : Nat} {A : Option Addr} {l : List Int} (h : Ints .u8 w B A n l) : Bytes l := fun x hx => by
  have := h.2.2 x hx
  simp [Lit.wf] at this
  have e1 : IntKind.u8.min = 0 := by decide
  have e2 : IntKind.u8.max = 255 := by decide
  omega
theorem copy12 {P : Program} {w : World} {g n m c : Nat} {A : Option Addr} {cur cs : List Value} {T : TypeId} (dT elem : TypeId) (hu : P.underlying dT = some (.slice elem)) (hsz : (P.info? elem).map (·.size) = some 1) (hg : Box w g T cur.toArray) (hn : cs.length = Nat.min n m) (hfit0 : 0 + cs.length ≤ cur.length) (h1 : ∀ v ∈ cs, v.oneCell' = true) (hpos : 0 < cs.length → ∃ ad, A = some ad ∧ ∀ j v, cs[j]? = some v → w.cell? (ad.add j) = some v) :
    ∃ w2, (Builtin.copy_ #[dT, dT] elem #[.slice (some ⟨g, 0, none⟩) m m, .slice A n c]).run P w = .ok (goInt cs.length) w2 ∧ Hid (Box w2 g T (splice cur 0 cs).toArray) ∧ Below g w w2 := by
  by_cases h0 : cs.length = 0
  · obtain rfl : cs = [] := List.eq_nil_of_length_eq_zero h0
    refine ⟨w, run_copy_none (P := P) w dT dT elem elem _ _ m m n c hu hsz (by simpa using hn.symm), ?_, Below.refl _ _⟩
    show Box _ _ _ _
    simpa [splice] using hg
  · obtain ⟨ad, rfl, hsrc⟩ := hpos (by omega)
    refine ⟨_, run_copy_row (P := P) w dT dT elem elem g 0 m m ad n c cur.toArray T cs hu hsz hg hn hsrc (by simpa using hfit0) h1, ?_, below_setRow (Below.refl _ _) (Nat.le_refl _) _⟩
    show Box _ _ _ _
    rw [show splice cur 0 cs = cur.take 0 ++ cs ++ cur.drop (0 + cs.length) from by simp [splice]]
    exact setRow_heap w g _ _ T _ hg
theorem i_isNeed (x : Int) (w : World) : Calls Try.prog 59 #[.int .i64 x] w fun e w' => e = .returned (.bool (decide (1 ≤ x ∧ x ≤ 12))) ∧ w = w' := by
  by_cases h1 : 1 ≤ x
  · by_cases h2 : x ≤ 12
    · have HR := Lib.hid (show decide (1 ≤ x ∧ x ≤ 12) = true from decide_eq_true ⟨h1, h2⟩)
      rw [HR.out]
      go_enter Try.func59, Try.ntmps59
      go_wp2
      go_ret
      exact ⟨by first | rfl | (simp; done) | (simp; omega), rfl⟩
    · have HR := Lib.hid (show decide (1 ≤ x ∧ x ≤ 12) = false from decide_eq_false fun h => h2 h.2)
      rw [HR.out]
      go_enter Try.func59, Try.ntmps59
      go_wp2
      go_ret
      exact ⟨by first | rfl | (simp; done) | (simp; omega), rfl⟩
  · have HR := Lib.hid (show decide (1 ≤ x ∧ x ≤ 12) = false from decide_eq_false fun h => h1 h.1)
    rw [HR.out]
    go_enter Try.func59, Try.ntmps59
    go_wp2
    go_ret
    exact ⟨by first | rfl | (simp; done) | (simp; omega), rfl⟩
set_option maxHeartbeats 2000000 in
theorem i_drawnOrder_f {w : World} {m c : Nat} {A : Option Addr} {d : List Int} (n : Nat) (hd : Ints .u8 w w.heap.size A m d) (hmc : m ≤ c) (hm : m ≤ 140737488355328) (hc : c ≤ 9223372036854775807) (hn : n ≤ 12) (hA : (A = none ∧ c = 0) ∨ ∃ b off, A = some ⟨b, off, none⟩) (hs : shuf d (n - 1) (iota n) 0 = none) :
    Calls Try.prog 60 #[.slice A m c, .int .i64 n] w fun e w' => ∃ V, e = .returned (.tuple #[.agg #[.int .i64 0, .int .i64 0, .int .i64 0, .int .i64 0, .int .i64 0, .int .i64 0, .int .i64 0, .int .i64 0, .int .i64 0, .int .i64 0, .int .i64 0, .int .i64 0], .int .i64 V]) ∧ V = -1 ∧ Below w.heap.size w w' := by
  have hsz : (Try.prog.info? 3).map (·.size) = some 1 := by kernel_rfl
  have B1 : Box ((w.alloc (.cells #[.int .i64 0, .int .i64 0, .int .i64 0, .int .i64 0, .int .i64 0, .int .i64 0, .int .i64 0, .int .i64 0, .int .i64 0, .int .i64 0, .int .i64 0, .int .i64 0] 83)).alloc (.cells #[.int .i64 0, .int .i64 0, .int .i64 0, .int .i64 0, .int .i64 0, .int .i64 0, .int .i64 0, .int .i64 0, .int .i64 0, .int .i64 0, .int .i64 0, .int .i64 0] 83)) w.heap.size 83 #[.int .i64 0, .int .i64 0, .int .i64 0, .int .i64 0, .int .i64 0, .int .i64 0, .int .i64 0, .int .i64 0, .int .i64 0, .int .i64 0, .int .i64 0, .int .i64 0] := (Box.new _ _ _).alloc _
  have B2 : Box ((w.alloc (.cells #[.int .i64 0, .int .i64 0, .int .i64 0, .int .i64 0, .int .i64 0, .int .i64 0, .int .i64 0, .int .i64 0, .int .i64 0, .int .i64 0, .int .i64 0, .int .i64 0] 83)).alloc (.cells #[.int .i64 0, .int .i64 0, .int .i64 0, .int .i64 0, .int .i64 0, .int .i64 0, .int .i64 0, .int .i64 0, .int .i64 0, .int .i64 0, .int .i64 0, .int .i64 0] 83)) (w.heap.size + 1) 83 #[.int .i64 0, .int .i64 0, .int .i64 0, .int .i64 0, .int .i64 0, .int .i64 0, .int .i64 0, .int .i64 0, .int .i64 0, .int .i64 0, .int .i64 0, .int .i64 0] := by simpa using Box.new (w.alloc (.cells #[.int .i64 0, .int .i64 0, .int .i64 0, .int .i64 0, .int .i64 0, .int .i64 0, .int .i64 0, .int .i64 0, .int .i64 0, .int .i64 0, .int .i64 0, .int .i64 0] 83)) 83 #[.int .i64 0, .int .i64 0, .int .i64 0, .int .i64 0, .int .i64 0, .int .i64 0, .int .i64 0, .int .i64 0, .int .i64 0, .int .i64 0, .int .i64 0, .int .i64 0]
  go_enter Try.func60, Try.ntmps60
  go_wp2_with fail
  refine (i_shuffle_f n (reach hd ?hB) hmc hm hc (by omega) hA hs).mono ?_
  case hB => exact (belx)
  rintro e w1 ⟨rfl, hb1⟩
  have R1 := B1.below hb1 B1.size
  have O1 := B2.below hb1 B2.size
  have hB1 : Below w.heap.size w w1 := bel_trans (belx) hb1
  have hcp := run_copy_none (P := Try.prog) w1 24 24 3 3 (some ⟨w.heap.size + 1, 0, none⟩) none 12 12 0 0 Try.underlying24 hsz rfl
  have y0 := O1.cell 0; have r0 := R1.cell 0; have f0 := R1.frozen 0
  have y1 := O1.cell 1; have r1 := R1.cell 1; have f1 := R1.frozen 1
  have y2 := O1.cell 2; have r2 := R1.cell 2; have f2 := R1.frozen 2
  have y3 := O1.cell 3; have r3 := R1.cell 3; have f3 := R1.frozen 3
  have y4 := O1.cell 4; have r4 := R1.cell 4; have f4 := R1.frozen 4
  have y5 := O1.cell 5; have r5 := R1.cell 5; have f5 := R1.frozen 5
  have y6 := O1.cell 6; have r6 := R1.cell 6; have f6 := R1.frozen 6
  have y7 := O1.cell 7; have r7 := R1.cell 7; have f7 := R1.frozen 7
  have y8 := O1.cell 8; have r8 := R1.cell 8; have f8 := R1.frozen 8
  have y9 := O1.cell 9; have r9 := R1.cell 9; have f9 := R1.frozen 9
  have y10 := O1.cell 10; have r10 := R1.cell 10; have f10 := R1.frozen 10
  have y11 := O1.cell 11; have r11 := R1.cell 11; have f11 := R1.frozen 11
  go_wp2
  have RR := ((((((((((((R1.put 0 (.int .i64 0)).put 1 (.int .i64 0)).put 2 (.int .i64 0)).put 3 (.int .i64 0)).put 4 (.int .i64 0)).put 5 (.int .i64 0)).put 6 (.int .i64 0)).put 7 (.int .i64 0)).put 8 (.int .i64 0)).put 9 (.int .i64 0)).put 10 (.int .i64 0)).put 11 (.int .i64 0))
  have e0 := RR.cell 0
  have e1 := RR.cell 1
  have e2 := RR.cell 2
  have e3 := RR.cell 3
  have e4 := RR.cell 4
  have e5 := RR.cell 5
  have e6 := RR.cell 6
  have e7 := RR.cell 7
  have e8 := RR.cell 8
  have e9 := RR.cell 9
  have e10 := RR.cell 10
  have e11 := RR.cell 11
  refine bodyPost_ret (v := .tuple #[.agg #[.int .i64 0, .int .i64 0, .int .i64 0, .int .i64 0, .int .i64 0, .int .i64 0, .int .i64 0, .int .i64 0, .int .i64 0, .int .i64 0, .int .i64 0, .int .i64 0], .int .i64 (-1)]) (by simp [results, Try.results60, go_sem, e0, e1, e2, e3, e4, e5, e6, e7, e8, e9, e10, e11]) rfl ⟨-1, rfl, rfl, ?_⟩
  exact (bel_put (bel_put (bel_put (bel_put (bel_put (bel_put (bel_put (bel_put (bel_put (bel_put (bel_put (bel_put hB1 (p := ⟨w.heap.size, 0, none⟩) (by show _ ≤ w.heap.size; omega) _) (p := ⟨w.heap.size, 1, none⟩) (by show _ ≤ w.heap.size; omega) _) (p := ⟨w.heap.size, 2, none⟩) (by show _ ≤ w.heap.size; omega) _) (p := ⟨w.heap.size, 3, none⟩) (by show _ ≤ w.heap.size; omega) _) (p := ⟨w.heap.size, 4, none⟩) (by show _ ≤ w.heap.size; omega) _) (p := ⟨w.heap.size, 5, none⟩) (by show _ ≤ w.heap.size; omega) _) (p := ⟨w.heap.size, 6, none⟩) (by show _ ≤ w.heap.size; omega) _) (p := ⟨w.heap.size, 7, none⟩) (by show _ ≤ w.heap.size; omega) _) (p := ⟨w.heap.size, 8, none⟩) (by show _ ≤ w.heap.size; omega) _) (p := ⟨w.heap.size, 9, none⟩) (by show _ ≤ w.heap.size; omega) _) (p := ⟨w.heap.size, 10, none⟩) (by show _ ≤ w.heap.size; omega) _) (p := ⟨w.heap.size, 11, none⟩) (by show _ ≤ w.heap.size; omega) _)
set_option maxHeartbeats 4000000 in
theorem i_drawnOrder_t {w : World} {m c : Nat} {A : Option Addr} {d L : List Int} {U : Nat} (n : Nat) (hd : Ints .u8 w w.heap.size A m d) (hmc : m ≤ c) (hm : m ≤ 140737488355328) (hc : c ≤ 9223372036854775807) (hn : n ≤ 12) (hs : shuf d (n - 1) (iota n) 0 = some (L, U)) :
    Calls Try.prog 60 #[.slice A m c, .int .i64 n] w fun e w' => ∃ nz0 nz1 nz2 nz3 nz4 nz5 nz6 nz7 nz8 nz9 nz10 nz11, e = .returned (.tuple #[.agg #[.int .i64 nz0, .int .i64 nz1, .int .i64 nz2, .int .i64 nz3, .int .i64 nz4, .int .i64 nz5, .int .i64 nz6, .int .i64 nz7, .int .i64 nz8, .int .i64 nz9, .int .i64 nz10, .int .i64 nz11], .int .i64 U]) ∧ [nz0, nz1, nz2, nz3, nz4, nz5, nz6, nz7, nz8, nz9, nz10, nz11].take n = L ∧ Below w.heap.size w w' := by
  have hsz : (Try.prog.info? 3).map (·.size) = some 1 := by kernel_rfl
  have HOP := Lib.hid (ord_place (ints_byI hd) hs)
  have B1 : Box ((w.alloc (.cells #[.int .i64 0, .int .i64 0, .int .i64 0, .int .i64 0, .int .i64 0, .int .i64 0, .int .i64 0, .int .i64 0, .int .i64 0, .int .i64 0, .int .i64 0, .int .i64 0] 83)).alloc (.cells #[.int .i64 0, .int .i64 0, .int .i64 0, .int .i64 0, .int .i64 0, .int .i64 0, .int .i64 0, .int .i64 0, .int .i64 0, .int .i64 0, .int .i64 0, .int .i64 0] 83)) w.heap.size 83 #[.int .i64 0, .int .i64 0, .int .i64 0, .int .i64 0, .int .i64 0, .int .i64 0, .int .i64 0, .int .i64 0, .int .i64 0, .int .i64 0, .int .i64 0, .int .i64 0] := (Box.new _ _ _).alloc _
  have B2 : Box ((w.alloc (.cells #[.int .i64 0, .int .i64 0, .int .i64 0, .int .i64 0, .int .i64 0, .int .i64 0, .int .i64 0, .int .i64 0, .int .i64 0, .int .i64 0, .int .i64 0, .int .i64 0] 83)).alloc (.cells #[.int .i64 0, .int .i64 0, .int .i64 0, .int .i64 0, .int .i64 0, .int .i64 0, .int .i64 0, .int .i64 0, .int .i64 0, .int .i64 0, .int .i64 0, .int .i64 0] 83)) (w.heap.size + 1) 83 #[.int .i64 0, .int .i64 0, .int .i64 0, .int .i64 0, .int .i64 0, .int .i64 0, .int .i64 0, .int .i64 0, .int .i64 0, .int .i64 0, .int .i64 0, .int .i64 0] := by simpa using Box.new (w.alloc (.cells #[.int .i64 0, .int .i64 0, .int .i64 0, .int .i64 0, .int .i64 0, .int .i64 0, .int .i64 0, .int .i64 0, .int .i64 0, .int .i64 0, .int .i64 0, .int .i64 0] 83)) 83 #[.int .i64 0, .int .i64 0, .int .i64 0, .int .i64 0, .int .i64 0, .int .i64 0, .int .i64 0, .int .i64 0, .int .i64 0, .int .i64 0, .int .i64 0, .int .i64 0]
  go_enter Try.func60, Try.ntmps60
  go_wp2_with fail
  refine (i_shuffle_t n (reach hd ?hB) hmc hm hc (by omega) hs).mono ?_
  case hB => exact (belx)
  rintro e w1 ⟨v, rfl, hOL, hb1⟩
  have R1 := B1.below hb1 B1.size
  have O1 := B2.below hb1 B2.size
  have hB1 : Below w.heap.size w w1 := bel_trans (belx) hb1
  have z1 : w.heap.size + 2 ≤ w1.heap.size := by have := hb1.size; simpa using this
  obtain ⟨Ao, co, rfl, -, hIo, -⟩ := hOL.ints
  obtain ⟨nL, hnL⟩ : ∃ n, L.length = n := ⟨_, rfl⟩
  have hnL0 : nL = n := by rw [← hnL]; exact HOP.out.1
  have hnL2 : nL ≤ 12 := by omega
  rw [hnL] at hIo ⊢
  have HNL := Lib.hid hnL
  have HN0 := Lib.hid hnL0
  obtain ⟨nz0, nz1, nz2, nz3, nz4, nz5, nz6, nz7, nz8, nz9, nz10, nz11, hz⟩ := twelve (L ++ List.replicate (12 - nL) 0) (by rw [List.length_append, List.length_replicate, hnL]; omega)
  have hspl : splice ([.int .i64 0, .int .i64 0, .int .i64 0, .int .i64 0, .int .i64 0, .int .i64 0, .int .i64 0, .int .i64 0, .int .i64 0, .int .i64 0, .int .i64 0, .int .i64 0] : List Value) 0 (L.map (Value.int .i64)) = [nz0, nz1, nz2, nz3, nz4, nz5, nz6, nz7, nz8, nz9, nz10, nz11].map (Value.int .i64) := by
    have e12 : ([.int .i64 0, .int .i64 0, .int .i64 0, .int .i64 0, .int .i64 0, .int .i64 0, .int .i64 0, .int .i64 0, .int .i64 0, .int .i64 0, .int .i64 0, .int .i64 0] : List Value) = List.replicate 12 (.int .i64 0) := rfl
    rw [← hz, e12]
    unfold splice
    rw [List.length_map, hnL, List.map_append, List.take_zero, List.nil_append, Nat.zero_add, List.drop_replicate, List.map_replicate]
  have hmin : (L.map (Value.int .i64)).length = Nat.min nL 12 := by rw [List.length_map, hnL]; exact (Nat.min_eq_left hnL2).symm
  have hfit : 0 + (L.map (Value.int .i64)).length ≤ ([.int .i64 0, .int .i64 0, .int .i64 0, .int .i64 0, .int .i64 0, .int .i64 0, .int .i64 0, .int .i64 0, .int .i64 0, .int .i64 0, .int .i64 0, .int .i64 0] : List Value).length := by rw [List.length_map, hnL]; show 0 + nL ≤ 12; omega
  have hpos : 0 < (L.map (Value.int .i64)).length → ∃ ad, Ao = some ad ∧ ∀ j v, (L.map (Value.int .i64))[j]? = some v → w1.cell? (ad.add j) = some v := fun h0 => by
    rw [List.length_map, hnL] at h0
    obtain ⟨b, off, e, -, hcs⟩ := hIo.2.1 h0
    refine ⟨⟨b, off, none⟩, e, fun j v hj => ?_⟩
    rw [List.getElem?_map] at hj
    cases hx : L[j]? with
    | none => rw [hx] at hj; cases hj
    | some y =>
      rw [hx] at hj
      have hjl : j < L.length := (List.getElem?_eq_some_iff.1 hx).1
      have h2 := hcs j (by omega)
      rw [List.getD_eq_getElem?_getD, hx] at h2
      rw [show Addr.add ⟨b, off, none⟩ j = ⟨b, off + j, none⟩ from by unfold Addr.add; split <;> simp_all]
      exact h2.trans hj
  have HTK := Lib.hid (show [nz0, nz1, nz2, nz3, nz4, nz5, nz6, nz7, nz8, nz9, nz10, nz11].take n = L from by rw [← hz, List.take_append_of_le_length (by omega), List.take_of_length_le (by omega)])
  clear hOL hz hnL hnL0 B1 B2
  obtain ⟨w2, hcp, hw2, hb2⟩ := copy12 24 3 Try.underlying24 hsz O1 hmin (hfit0 := hfit) (one_ints _ _) (A := Ao) (c := co) hpos
  have O2 : Box w2 (w.heap.size + 1) 83 #[.int .i64 nz0, .int .i64 nz1, .int .i64 nz2, .int .i64 nz3, .int .i64 nz4, .int .i64 nz5, .int .i64 nz6, .int .i64 nz7, .int .i64 nz8, .int .i64 nz9, .int .i64 nz10, .int .i64 nz11] := by
    have h2 := hw2.out
    rw [hspl] at h2
    exact h2
  have R2 : Box w2 w.heap.size 83 #[.int .i64 0, .int .i64 0, .int .i64 0, .int .i64 0, .int .i64 0, .int .i64 0, .int .i64 0, .int .i64 0, .int .i64 0, .int .i64 0, .int .i64 0, .int .i64 0] := Box.same R1 (hb2.block _ (by omega))
  have hB2 : Below w.heap.size w w2 := hB1.trans (hb2.mono (by omega))
  clear hw2 hspl hpos hfit hmin O1 R1
  have y0 := O2.cell 0; have r0 := R2.cell 0; have f0 := R2.frozen 0
  have y1 := O2.cell 1; have r1 := R2.cell 1; have f1 := R2.frozen 1
  have y2 := O2.cell 2; have r2 := R2.cell 2; have f2 := R2.frozen 2
  have y3 := O2.cell 3; have r3 := R2.cell 3; have f3 := R2.frozen 3
  have y4 := O2.cell 4; have r4 := R2.cell 4; have f4 := R2.frozen 4
  have y5 := O2.cell 5; have r5 := R2.cell 5; have f5 := R2.frozen 5
  have y6 := O2.cell 6; have r6 := R2.cell 6; have f6 := R2.frozen 6
  have y7 := O2.cell 7; have r7 := R2.cell 7; have f7 := R2.frozen 7
  have y8 := O2.cell 8; have r8 := R2.cell 8; have f8 := R2.frozen 8
  have y9 := O2.cell 9; have r9 := R2.cell 9; have f9 := R2.frozen 9
  have y10 := O2.cell 10; have r10 := R2.cell 10; have f10 := R2.frozen 10
  have y11 := O2.cell 11; have r11 := R2.cell 11; have f11 := R2.frozen 11
  go_wp2
  have RR := ((((((((((((R2.put 0 (.int .i64 nz0)).put 1 (.int .i64 nz1)).put 2 (.int .i64 nz2)).put 3 (.int .i64 nz3)).put 4 (.int .i64 nz4)).put 5 (.int .i64 nz5)).put 6 (.int .i64 nz6)).put 7 (.int .i64 nz7)).put 8 (.int .i64 nz8)).put 9 (.int .i64 nz9)).put 10 (.int .i64 nz10)).put 11 (.int .i64 nz11))
  have e0 := RR.cell 0
  have e1 := RR.cell 1
  have e2 := RR.cell 2
  have e3 := RR.cell 3
  have e4 := RR.cell 4
  have e5 := RR.cell 5
  have e6 := RR.cell 6
  have e7 := RR.cell 7
  have e8 := RR.cell 8
  have e9 := RR.cell 9
  have e10 := RR.cell 10
  have e11 := RR.cell 11
  refine bodyPost_ret (v := .tuple #[.agg #[.int .i64 nz0, .int .i64 nz1, .int .i64 nz2, .int .i64 nz3, .int .i64 nz4, .int .i64 nz5, .int .i64 nz6, .int .i64 nz7, .int .i64 nz8, .int .i64 nz9, .int .i64 nz10, .int .i64 nz11], .int .i64 U]) (by simp [results, Try.results60, go_sem, e0, e1, e2, e3, e4, e5, e6, e7, e8, e9, e10, e11]) rfl ⟨nz0, nz1, nz2, nz3, nz4, nz5, nz6, nz7, nz8, nz9, nz10, nz11, rfl, HTK.out, ?_⟩
  exact (bel_put (bel_put (bel_put (bel_put (bel_put (bel_put (bel_put (bel_put (bel_put (bel_put (bel_put (bel_put hB2 (p := ⟨w.heap.size, 0, none⟩) (by show _ ≤ w.heap.size; omega) _) (p := ⟨w.heap.size, 1, none⟩) (by show _ ≤ w.heap.size; omega) _) (p := ⟨w.heap.size, 2, none⟩) (by show _ ≤ w.heap.size; omega) _) (p := ⟨w.heap.size, 3, none⟩) (by show _ ≤ w.heap.size; omega) _) (p := ⟨w.heap.size, 4, none⟩) (by show _ ≤ w.heap.size; omega) _) (p := ⟨w.heap.size, 5, none⟩) (by show _ ≤ w.heap.size; omega) _) (p := ⟨w.heap.size, 6, none⟩) (by show _ ≤ w.heap.size; omega) _) (p := ⟨w.heap.size, 7, none⟩) (by show _ ≤ w.heap.size; omega) _) (p := ⟨w.heap.size, 8, none⟩) (by show _ ≤ w.heap.size; omega) _) (p := ⟨w.heap.size, 9, none⟩) (by show _ ≤ w.heap.size; omega) _) (p := ⟨w.heap.size, 10, none⟩) (by show _ ≤ w.heap.size; omega) _) (p := ⟨w.heap.size, 11, none⟩) (by show _ ≤ w.heap.size; omega) _)
set_option maxHeartbeats 2000000 in
theorem i_of1 {w : World} {A : Option Addr} {n c g m : Nat} {l : List DHeld} {a : DHeld} (hr : tHeld.row.R w w.heap.size [.slice A n c] l) (hg : w.cell? ⟨g, 0, none⟩ = some (.slice A n c)) (hm : m < n) (ha : l[m]? = some a) (hz : szHeld a ≤ 1048576) :
    Calls Try.prog 93 #[.int .i64 m, .pointer (some ⟨g, 0, none⟩)] w fun e w' => ∃ A' c' F, e = .returned (.agg #[.int .i64 a.1, .int .i64 a.2.1, .slice A' a.2.2.length c']) ∧ tHeld.O w' [.int .i64 a.1, .int .i64 a.2.1, .slice A' a.2.2.length c'] a F ∧ New w.heap.size F ∧ Below w.heap.size w w' := by
  obtain ⟨a0, b', off, es, hl2, rfl, hb, hes, hR⟩ := rowR_at (K := 3) hr hm rfl
  obtain rfl : a0 = a := Option.some.inj (hl2.symm.trans ha)
  obtain ⟨A2, n2, c2, rfl, h0, h1, -, -, -, h2⟩ := openHeld hR
  have hI := (slR_ints h2).1
  have hn2 : n2 ≤ 1048576 := by rw [← hI.1]; exact hz
  have e0 : w.cell? ⟨b', off + m * 3, none⟩ = some (.int .i64 a0.1) := hes 0 (by omega)
  have e1 : w.cell? ⟨b', off + m * 3 + 1, none⟩ = some (.int .i64 a0.2.1) := hes 1 (by omega)
  have e2 : w.cell? ⟨b', off + m * 3 + 2, none⟩ = some (.slice A2 n2 c2) := hes 2 (by omega)
  have g0 : (w.alloc (.cells #[.int .i64 0, .int .i64 0, .slice none 0 0] 30)).cell? ⟨g, 0, none⟩ = some (.slice (some ⟨b', off, none⟩) n c) := cell_bel (belx) hg
  have d0 := cell_bel (w' := w.alloc (.cells #[.int .i64 0, .int .i64 0, .slice none 0 0] 30)) (belx) e0
  have d1 := cell_bel (w' := w.alloc (.cells #[.int .i64 0, .int .i64 0, .slice none 0 0] 30)) (belx) e1
  have d2 := cell_bel (w' := w.alloc (.cells #[.int .i64 0, .int .i64 0, .slice none 0 0] 30)) (belx) e2
  have p1 : (0 : Int) ≤ (m : Int) := by omega
  have p2 : (m : Int) < (n : Int) := by omega
  clear hes hl2 ha hR hr
  go_enter Try.func93, Try.ntmps93
  go_wp2_with fail
  refine (i_HdCopy (reach hI ?hB) hn2).mono ?_
  case hB => exact (belx)
  rintro e w1 ⟨A', c', F, rfl, hO, hN, hb1⟩
  have R1 : Box w1 w.heap.size 30 #[.int .i64 0, .int .i64 0, .slice none 0 0] := Box.below (Box.new _ _ _) hb1 (by simp)
  have hB1 : Below w.heap.size w w1 := bel_trans (belx) hb1
  have hM : New (w.heap.size + 1) F := hN.lower (by simp)
  have r0 := R1.cell 0; have r1 := R1.cell 1; have r2 := R1.cell 2; have f0 := R1.frozen 0; have f1 := R1.frozen 1; have f2 := R1.frozen 2
  go_wp2
  have RR := ((R1.put 0 (.int .i64 a0.1)).put 1 (.int .i64 a0.2.1)).put 2 (.slice A' a0.2.2.length c')
  have y0 := RR.cell 0; have y1 := RR.cell 1; have y2 := RR.cell 2
  obtain ⟨Fx, hX, eF⟩ := makeOHeld (p := a0) h0 h1 (Ty.far (t := tBy) (Ty.far (t := tBy) (Ty.far (t := tBy) hO hM (p := ⟨w.heap.size, 0, none⟩) (by show w.heap.size < _; omega) (.int .i64 a0.1)) hM (p := ⟨w.heap.size, 1, none⟩) (by show w.heap.size < _; omega) (.int .i64 a0.2.1)) hM (p := ⟨w.heap.size, 2, none⟩) (by show w.heap.size < _; omega) (.slice A' a0.2.2.length c'))
  refine bodyPost_ret (v := .agg #[.int .i64 a0.1, .int .i64 a0.2.1, .slice A' a0.2.2.length c']) (by simp [results, Try.results93, go_sem, y0, y1, y2]) rfl ⟨A', c', Fx, rfl, hX, by subst eF; exact hM.lower (by omega), ?_⟩
  exact bel_put (bel_put (bel_put hB1 (Nat.le_refl _) _) (Nat.le_refl _) _) (Nat.le_refl _) _
set_option maxHeartbeats 2000000 in
theorem i_eachPm {w : World} {A Ao : Option Addr} {n c g co : Nat} {l : List DHeld} {L : List Int} (hr : tHeld.row.R w w.heap.size [.slice A n c] l) (hg : w.cell? ⟨g, 0, none⟩ = some (.slice A n c)) (hL : Ints .i64 w w.heap.size Ao n L) (hp : ∀ j, j < n → ∃ m : Nat, m < n ∧ L.getD j 0 = (m : Int)) (hz : rsz szHeld l ≤ 1048576) (hn : n ≤ 12) :
    Calls Try.prog 92 #[.slice Ao n co, .func (.func 93) #[] #[.pointer (some ⟨g, 0, none⟩)]] w fun e w' => ∃ A' c' F, e = .returned (.slice A' (pmut l L).length c') ∧ tHeld.row.O w' [.slice A' (pmut l L).length c'] (pmut l L) F ∧ New w.heap.size F ∧ Below w.heap.size w w' := by
  obtain ⟨i1, hj0, hj1, hj2, hj3⟩ := info_parts info_Held
  have HP := Lib.hid hp
  have HLN := Lib.hid hL.1
  have HSZ := Lib.hid (show ∀ (i : Nat) (a : DHeld), l[i]? = some a → szHeld a ≤ 1048576 from fun i a ha => by have := rsz_step (s := szHeld) ha; omega)
  have HRL := Lib.hid (rowR_len hr).1
  clear hp hz
  go_enter Try.func92, Try.ntmps92
  go_wp2_with fail
  go_loopw [5, 10] (fun v i wr => ∃ (j : Nat) (F : List Nat), j ≤ n ∧ i = .int .i64 j ∧ GrowO tHeld 30 wr w.heap.size v (pmut l (L.take j)) F ∧ Below w.heap.size w wr) (fun _ i _ => n - (intOf i).toNat)
  case atStart => exact ⟨0, [], by omega, rfl, GrowO.nil, (belx)⟩
  case round =>
    obtain ⟨j, F, hj, rfl, hG, hB⟩ := hrel
    by_cases hlt : j < n
    · obtain ⟨bo, offo, rfl, hbo, hoc0, -⟩ := hL.at_ hlt
      obtain ⟨m, hm, hmj⟩ := HP.out j hlt
      rw [hmj] at hoc0
      have hoc : wr.cell? ⟨bo, offo + j, none⟩ = some (.int .i64 (m : Int)) := cell_bel hB hoc0
      obtain ⟨a, hla⟩ : ∃ a, l[m]? = some a := ⟨_, List.getElem?_eq_getElem (by rw [HRL.out]; exact hm)⟩
      have HT := Lib.hid (pmut_snoc (l := l) (o := L) (j := j) (by rw [HLN.out]; exact hlt) hmj hla)
      have hsa := HSZ.out m a hla
      have hlf : (pmut l (L.take j)).length ≤ 12 := by rw [pmut_len, List.length_take]; omega
      have hgr : wr.cell? ⟨g, 0, none⟩ = some (.slice A n c) := cell_bel hB hg
      have HLA := Lib.hid hla
      have zB := hB.size
      have hOwn := fun b hb => (GrowO.row hG).choose_spec.1.lt b hb
      have hlt2 := hG.lt
      have p1 : (j : Int) < (n : Int) := by omega
      have p0 : (0 : Int) ≤ (j : Int) := by omega
      clear hla hmj hoc0
      go_wp2_with fail
      refine (i_of1 (tHeld.row.reach hr hB) hgr hm HLA.out hsa).mono ?_
      rintro e w1 ⟨oA, oc, Fd, rfl, hOd, hNd, hb1⟩
      go_wp2_with (at_builtin; have hBx : Below wr.heap.size wr (w1.alloc (.cells [.int .i64 a.1, .int .i64 a.2.1, .slice oA a.2.2.length oc].toArray 30)) := bel_alloc hb1 _; obtain ⟨xs, hrow, hpush⟩ := (hG.below hBx).row; have tz : (Value.agg #[Value.int .i64 0, Value.int .i64 0, Value.slice none 0 0]).cells.size = 3 := (by first | rfl | (simp [Value.cells]; done)); have t0 : ∀ u ∈ ([.int .i64 a.1, .int .i64 a.2.1, .slice oA a.2.2.length oc] : List Value), u.oneCell' = true := (one_held _ _ _ _ _); have t1 : (pmut l (L.take j)).length + 1 ≤ maxLen := (by simp only [maxLen]; omega); have t2 : ((pmut l (L.take j)).length + 1) * 40 ≤ 140737488355328 := (by omega); have t3 := hBx.size; have hS2 : Src (w1.alloc (.cells [.int .i64 a.1, .int .i64 a.2.1, .slice oA a.2.2.length oc].toArray 30)) 3 (some ⟨w1.heap.size, 0, none⟩) 1 [.int .i64 a.1, .int .i64 a.2.1, .slice oA a.2.2.length oc] := Src.of_box w1 30 [.int .i64 a.1, .int .i64 a.2.1, .slice oA a.2.2.length oc] (K := 3) rfl; refine wpList_app _ rfl (.tmp 14) (.tmp 18) _ rfl w.heap.size 30 i1 _ 3 40 Try.underlying23 hj0 hj1 hj2 hj3 tz (by omega) u5 _ xs rfl hrow _ 1 1 [.int .i64 a.1, .int .i64 a.2.1, .slice oA a.2.2.length oc] rfl hS2 t0 t1 t2 (by omega) ?_; intro v2 w2 hown2 hgr2 hat2; have hOel : tHeld.O (w1.alloc (.cells [.int .i64 a.1, .int .i64 a.2.1, .slice oA a.2.2.length oc].toArray 30)) [.int .i64 a.1, .int .i64 a.2.1, .slice oA a.2.2.length oc] a Fd := Ty.below (t := tHeld) hOd (belx); have hNel : New w.heap.size Fd := hNd.lower (by omega); have hdis : ∀ f ∈ Fd, f ∉ F := (fun f h1 h2 => by have := hNd.2 _ h1; have := hlt2 f h2; omega); have hod : ∀ b, u5.ownBlock = some b → b ∉ Fd := (fun b hb hx => by have := (hOwn b hb).2; have := hNd.2 _ hx; omega); have hfin := hpush w2 v2 a _ Fd hOel hNel hdis hod hown2 hgr2 hat2; have hBf : Below w.heap.size w w2 := Below.grown (w := (w1.alloc (.cells [.int .i64 a.1, .int .i64 a.2.1, .slice oA a.2.2.length oc].toArray 30))) (bel_trans hB hBx) hgr2 (by have := hBx.size; omega) (fun b hb => (hOwn b hb).1))
      go_roundw
      case rel => exact ⟨j + 1, _, by omega, by go_num, by rw [HT.out]; exact hfin, hBf⟩
      case measure => simp [intOf]; omega
    · obtain rfl : n = j := by omega
      have HA := Lib.hid (show L.take n = L from List.take_of_length_le (Nat.le_of_eq HLN.out))
      rw [HA.out] at hG
      obtain ⟨A3, c3, F3, rfl, hO3, hN3⟩ := hG.done
      have p1 : ¬ (n : Int) < (n : Int) := by omega
      go_wp2
      go_ret
      exact ⟨A3, c3, rfl, F3, hO3, hN3, hB⟩
set_option maxHeartbeats 2000000 in
theorem i_pof {w : World} {A : Option Addr} {n c : Nat} {l : List DHeld} {L : List Int} {nz0 nz1 nz2 nz3 nz4 nz5 nz6 nz7 nz8 nz9 nz10 nz11 : Int} (hr : tHeld.row.R w w.heap.size [.slice A n c] l) (hL : [nz0, nz1, nz2, nz3, nz4, nz5, nz6, nz7, nz8, nz9, nz10, nz11].take n = L) (hwf : ∀ x ∈ L, (Lit.int .i64 x).wf = true) (hp : ∀ j, j < n → ∃ m : Nat, m < n ∧ L.getD j 0 = (m : Int)) (hz : rsz szHeld l ≤ 1048576) (hn : n ≤ 12) :
    Calls Try.prog 62 #[.agg #[.int .i64 nz0, .int .i64 nz1, .int .i64 nz2, .int .i64 nz3, .int .i64 nz4, .int .i64 nz5, .int .i64 nz6, .int .i64 nz7, .int .i64 nz8, .int .i64 nz9, .int .i64 nz10, .int .i64 nz11], .slice A n c] w fun e w' => ∃ A' c' F, e = .returned (.slice A' (pmut l L).length c') ∧ tHeld.row.O w' [.slice A' (pmut l L).length c'] (pmut l L) F ∧ New w.heap.size F ∧ Below w.heap.size w w' := by
  have B1 : Box ((w.alloc (.cells #[.int .i64 nz0, .int .i64 nz1, .int .i64 nz2, .int .i64 nz3, .int .i64 nz4, .int .i64 nz5, .int .i64 nz6, .int .i64 nz7, .int .i64 nz8, .int .i64 nz9, .int .i64 nz10, .int .i64 nz11] 83)).alloc (.cells #[.slice A n c] 23)) w.heap.size 83 #[.int .i64 nz0, .int .i64 nz1, .int .i64 nz2, .int .i64 nz3, .int .i64 nz4, .int .i64 nz5, .int .i64 nz6, .int .i64 nz7, .int .i64 nz8, .int .i64 nz9, .int .i64 nz10, .int .i64 nz11] := (Box.new _ _ _).alloc _
  have B2 : Box ((w.alloc (.cells #[.int .i64 nz0, .int .i64 nz1, .int .i64 nz2, .int .i64 nz3, .int .i64 nz4, .int .i64 nz5, .int .i64 nz6, .int .i64 nz7, .int .i64 nz8, .int .i64 nz9, .int .i64 nz10, .int .i64 nz11] 83)).alloc (.cells #[.slice A n c] 23)) (w.heap.size + 1) 23 #[.slice A n c] := by simpa using Box.new (w.alloc (.cells #[.int .i64 nz0, .int .i64 nz1, .int .i64 nz2, .int .i64 nz3, .int .i64 nz4, .int .i64 nz5, .int .i64 nz6, .int .i64 nz7, .int .i64 nz8, .int .i64 nz9, .int .i64 nz10, .int .i64 nz11] 83)) 23 #[.slice A n c]
  have hmf : ∀ (fn : Fn) (first cap : Array Value) (w : World), (Instr.makeFunc fn first cap).run Try.prog w = .ok (.func fn first cap) w := fun _ _ _ _ => rfl
  have hI : Ints .i64 ((w.alloc (.cells #[.int .i64 nz0, .int .i64 nz1, .int .i64 nz2, .int .i64 nz3, .int .i64 nz4, .int .i64 nz5, .int .i64 nz6, .int .i64 nz7, .int .i64 nz8, .int .i64 nz9, .int .i64 nz10, .int .i64 nz11] 83)).alloc (.cells #[.slice A n c] 23)) ((w.alloc (.cells #[.int .i64 nz0, .int .i64 nz1, .int .i64 nz2, .int .i64 nz3, .int .i64 nz4, .int .i64 nz5, .int .i64 nz6, .int .i64 nz7, .int .i64 nz8, .int .i64 nz9, .int .i64 nz10, .int .i64 nz11] 83)).alloc (.cells #[.slice A n c] 23)).heap.size (some ⟨w.heap.size, 0, none⟩) n L := by
    have hlen : L.length = n := by rw [← hL, List.length_take]; show min n 12 = n; exact Nat.min_eq_left hn
    refine ⟨hlen, fun _ => ⟨w.heap.size, 0, rfl, B1.size, fun i hi => ?_⟩, hwf⟩
    rw [Nat.zero_add, B1.cell i]
    have h1 : #[.int .i64 nz0, .int .i64 nz1, .int .i64 nz2, .int .i64 nz3, .int .i64 nz4, .int .i64 nz5, .int .i64 nz6, .int .i64 nz7, .int .i64 nz8, .int .i64 nz9, .int .i64 nz10, .int .i64 nz11][i]? = ([nz0, nz1, nz2, nz3, nz4, nz5, nz6, nz7, nz8, nz9, nz10, nz11].map (Value.int .i64))[i]? := by
      rw [← Array.getElem?_toList]; rfl
    rw [h1, List.getElem?_map]
    have h2 : L.getD i 0 = ([nz0, nz1, nz2, nz3, nz4, nz5, nz6, nz7, nz8, nz9, nz10, nz11])[i]?.getD 0 := by rw [← hL, List.getD_eq_getElem?_getD, List.getElem?_take, if_pos hi]
    have h3 : ∃ y, ([nz0, nz1, nz2, nz3, nz4, nz5, nz6, nz7, nz8, nz9, nz10, nz11])[i]? = some y := ⟨_, List.getElem?_eq_getElem (by show i < 12; omega)⟩
    obtain ⟨y, hy⟩ := h3
    rw [h2, hy]
    rfl
  have hIo := Lib.hid hI
  have HP := Lib.hid hp
  have q1 : (0 : Int) ≤ (n : Int) := by omega
  have q2 : (n : Int) ≤ 12 := by omega
  have q3 : ¬ (12 : Int) < (n : Int) := by omega
  have x0 := B2.cell 0
  clear hL hwf hI hp
  go_enter Try.func62, Try.ntmps62
  go_wp2_with fail
  refine (i_eachPm (tHeld.row.reach hr ?hB) (B2.cell 0) hIo.out HP.out hz hn).mono ?_
  case hB => exact (belx)
  rintro e w1 ⟨A', c', F, rfl, hO, hN, hb1⟩
  go_wp2
  go_ret
  exact ⟨A', c', F, rfl, hO, hN.lower (by simp; omega), bel_trans (belx) hb1⟩
theorem nilRwOI {w : World} : tHeld.row.O w [.slice none 0 0] [] [] := .inl ⟨none, 0, rfl, by omega, rfl, rfl⟩
set_option maxHeartbeats 4000000 in
theorem i_Flush {w : World} {cs : List Value} {p : DPool} {x : Int} {A3 : Option Addr} {n3 c3 : Nat} {d : List Int} (h : tPool.R w w.heap.size cs p) (hz : szPool p ≤ 1048576) (hw : (Lit.int .i64 x).wf = true) (hd : tBy.R w w.heap.size [.slice A3 n3 c3] d) (hzd : d.length ≤ 1048576) (hA3 : (A3 = none ∧ c3 = 0) ∨ ∃ b off, A3 = some ⟨b, off, none⟩) :
    Calls Try.prog 23 #[.agg cs.toArray, .int .i64 x, .slice A3 n3 c3] w fun e w' => ∃ cs' A c F1 F2, e = .returned (.tuple #[.agg cs'.toArray, .slice A (fFlL p x d).length c, .int .i64 (fFlN p x d)]) ∧ tPool.O w' cs' (fFlP p x d) F1 ∧ tHeld.row.O w' [.slice A (fFlL p x d).length c] (fFlL p x d) F2 ∧ New w.heap.size (F1 ++ F2) ∧ Below w.heap.size w w' := by
  obtain ⟨A0, n0, c0, A1, n1, c1, rfl, -, -, e0, hr0, -, -, -, hr1⟩ := openPool h
  obtain ⟨hI3, hc3, hm3⟩ := slR_ints hd
  have hn3 : n3 ≤ 140737488355328 := by have := hI3.1; omega
  by_cases hp : PlOk p
  rotate_left
  · obtain ⟨f1, f2, f3⟩ := fl_bad (p := p) (x := x) (d := d) (fun y => hp y.1)
    have HP := Lib.hid (decide_eq_false hp)
    rw [f1, f2, f3]
    clear hp f1 f2 f3
    go_enter Try.func23, Try.ntmps23
    go_wp2_with fail
    refine (i_PoolOk (tPool.reach h ?hB) hz).mono ?_
    case hB => exact (belx)
    rintro e w1 ⟨rfl, hb1⟩
    rw [HP.out]
    have X1 : Box w1 w.heap.size 26 #[.slice A0 n0 c0, .slice A1 n1 c1] := Box.below ((Box.new w _ _).alloc _) hb1 (by simp; omega)
    have Y1 : Box w1 (w.heap.size + 1) 26 #[.slice none 0 0, .slice none 0 0] := Box.below (by simpa using Box.new (w.alloc _) 26 #[.slice none 0 0, .slice none 0 0]) hb1 (by simp)
    have x0 := X1.cell 0; have x1 := X1.cell 1
    have y0 := Y1.cell 0; have y1 := Y1.cell 1; have y2 := Y1.frozen 0; have y3 := Y1.frozen 1
    have hB1 : Below w.heap.size w w1 := bel_trans (belx) hb1
    have z1 : w.heap.size + 2 ≤ w1.heap.size := by have := hb1.size; simpa using this
    clear hb1
    go_wp2
    have RR := (Y1.put 0 (.slice none 0 0)).put 1 (.slice none 0 0)
    have e0 := RR.cell 0; have e1 := RR.cell 1
    refine bodyPost_ret (v := .tuple #[.agg #[.slice none 0 0, .slice none 0 0], .slice none 0 0, .int .i64 (-2)]) (by simp [results, Try.results23, go_sem, e0, e1]) rfl ⟨[.slice none 0 0, .slice none 0 0], none, 0, [], [], rfl, plzO, nilRwOI, New.nil _, ?_⟩
    exact bel_put (bel_put hB1 (by simp) _) (by simp) _
  have HP := Lib.hid (decide_eq_true hp)
  by_cases hxq : 1 ≤ x ∧ x ≤ 12
  rotate_left
  · obtain ⟨f1, f2, f3⟩ := fl_bad (p := p) (x := x) (d := d) (fun y => hxq y.2)
    have HQ := Lib.hid (decide_eq_false hxq)
    rw [f1, f2, f3]
    clear hp f1 f2 f3 hxq
    go_enter Try.func23, Try.ntmps23
    go_wp2_with fail
    refine (i_PoolOk (tPool.reach h ?hB) hz).mono ?_
    case hB => exact (belx)
    rintro e w1 ⟨rfl, hb1⟩
    rw [HP.out]
    have X1 : Box w1 w.heap.size 26 #[.slice A0 n0 c0, .slice A1 n1 c1] := Box.below ((Box.new w _ _).alloc _) hb1 (by simp; omega)
    have Y1 : Box w1 (w.heap.size + 1) 26 #[.slice none 0 0, .slice none 0 0] := Box.below (by simpa using Box.new (w.alloc _) 26 #[.slice none 0 0, .slice none 0 0]) hb1 (by simp)
    have x0 := X1.cell 0; have x1 := X1.cell 1
    have y0 := Y1.cell 0; have y1 := Y1.cell 1; have y2 := Y1.frozen 0; have y3 := Y1.frozen 1
    have hB1 : Below w.heap.size w w1 := bel_trans (belx) hb1
    have z1 : w.heap.size + 2 ≤ w1.heap.size := by have := hb1.size; simpa using this
    clear hb1
    go_wp2_with fail
    refine (i_isNeed x _).mono ?_
    rintro e w' ⟨rfl, rfl⟩
    rw [HQ.out]
    go_wp2
    have RR := (Y1.put 0 (.slice none 0 0)).put 1 (.slice none 0 0)
    have e0 := RR.cell 0; have e1 := RR.cell 1
    refine bodyPost_ret (v := .tuple #[.agg #[.slice none 0 0, .slice none 0 0], .slice none 0 0, .int .i64 (-2)]) (by simp [results, Try.results23, go_sem, e0, e1]) rfl ⟨[.slice none 0 0, .slice none 0 0], none, 0, [], [], rfl, plzO, nilRwOI, New.nil _, ?_⟩
    exact bel_put (bel_put hB1 (by simp) _) (by simp) _
  have HQ := Lib.hid (decide_eq_true hxq)
  have hfo : FlOk p x := ⟨hp, hxq⟩
  have hn0 : n0 ≤ 12 := by have := hp.1.1; omega
  have hn1 : n1 ≤ 1048576 := by have := (slR_ints hr1).1.1; unfold szPool at hz; omega
  have hzz : rsz szHeld p.1 + p.2.length ≤ 1048576 := hz
  have hzH : rsz szHeld p.1 ≤ 1048576 := by omega
  by_cases hfew : (p.1.length : Int) < x
  · obtain ⟨f1, f2, f3⟩ := fl_few (d := d) hfo hfew
    rw [e0] at hfew
    rw [f1, f2, f3]
    clear hp f1 f2 f3 hfo e0 hxq
    go_enter Try.func23, Try.ntmps23
    go_wp2_with fail
    refine (i_PoolOk (tPool.reach h ?hB) hz).mono ?_
    case hB => exact (belx)
    rintro e w1 ⟨rfl, hb1⟩
    rw [HP.out]
    have X1 : Box w1 w.heap.size 26 #[.slice A0 n0 c0, .slice A1 n1 c1] := Box.below ((Box.new w _ _).alloc _) hb1 (by simp; omega)
    have Y1 : Box w1 (w.heap.size + 1) 26 #[.slice none 0 0, .slice none 0 0] := Box.below (by simpa using Box.new (w.alloc _) 26 #[.slice none 0 0, .slice none 0 0]) hb1 (by simp)
    have x0 := X1.cell 0; have x1 := X1.cell 1
    have y0 := Y1.cell 0; have y1 := Y1.cell 1; have y2 := Y1.frozen 0; have y3 := Y1.frozen 1
    have hB1 : Below w.heap.size w w1 := bel_trans (belx) hb1
    have z1 : w.heap.size + 2 ≤ w1.heap.size := by have := hb1.size; simpa using this
    clear hb1
    go_wp2_with fail
    refine (i_isNeed x _).mono ?_
    rintro e w' ⟨rfl, rfl⟩
    rw [HQ.out]
    go_wp2_with fail
    refine (i_PlCopy (tHeld.row.reach hr0 hB1) (tIs.reach hr1 hB1) hzz).mono ?_
    rintro e w9 ⟨B0, d0, B1, d1, F, rfl, hO, hN, hb9⟩
    have Y9 := Y1.below hb9 Y1.size
    have hB9 : Below w.heap.size w w9 := bel_trans hB1 hb9
    have hM : New (w.heap.size + 2) F := hN.lower (by omega)
    have q0 := Y9.cell 0; have q1 := Y9.cell 1; have g0 := Y9.frozen 0; have g1 := Y9.frozen 1
    go_wp2
    have RR := (Y9.put 0 (.slice B0 p.1.length d0)).put 1 (.slice B1 p.2.length d1)
    have e0 := RR.cell 0; have e1 := RR.cell 1
    refine bodyPost_ret (v := .tuple #[.agg #[.slice B0 p.1.length d0, .slice B1 p.2.length d1], .slice none 0 0, .int .i64 (0)]) (by simp [results, Try.results23, go_sem, e0, e1]) rfl ⟨[.slice B0 p.1.length d0, .slice B1 p.2.length d1], none, 0, F, [], rfl, put2_O hO (hM.not (by omega)), nilRwOI, by rw [List.append_nil]; exact hM.lower (by omega), ?_⟩
    exact bel_put (bel_put hB9 (by simp) _) (by simp) _
  cases hsh : shuf d (p.1.length - 1) (iota p.1.length) 0 with
  | none =>
    obtain ⟨f1, f2, f3⟩ := fl_no (d := d) hfo hfew hsh
    rw [e0] at hsh hfew
    have HSH := Lib.hid hsh
    rw [f1, f2, f3]
    clear hp f1 f2 f3 hfo e0 hxq hsh
    go_enter Try.func23, Try.ntmps23
    go_wp2_with fail
    refine (i_PoolOk (tPool.reach h ?hB) hz).mono ?_
    case hB => exact (belx)
    rintro e w1 ⟨rfl, hb1⟩
    rw [HP.out]
    have X1 : Box w1 w.heap.size 26 #[.slice A0 n0 c0, .slice A1 n1 c1] := Box.below ((Box.new w _ _).alloc _) hb1 (by simp; omega)
    have Y1 : Box w1 (w.heap.size + 1) 26 #[.slice none 0 0, .slice none 0 0] := Box.below (by simpa using Box.new (w.alloc _) 26 #[.slice none 0 0, .slice none 0 0]) hb1 (by simp)
    have x0 := X1.cell 0; have x1 := X1.cell 1
    have y0 := Y1.cell 0; have y1 := Y1.cell 1; have y2 := Y1.frozen 0; have y3 := Y1.frozen 1
    have hB1 : Below w.heap.size w w1 := bel_trans (belx) hb1
    have z1 : w.heap.size + 2 ≤ w1.heap.size := by have := hb1.size; simpa using this
    clear hb1
    go_wp2_with fail
    refine (i_isNeed x _).mono ?_
    rintro e w' ⟨rfl, rfl⟩
    rw [HQ.out]
    go_wp2_with fail
    refine (i_drawnOrder_f n0 (reach hI3 hB1) hc3 hn3 hm3 hn0 hA3 HSH.out).mono ?_
    rintro e w2 ⟨V, rfl, rfl, hb2⟩
    have X2 := X1.below hb2 X1.size
    have Y2 := Y1.below hb2 Y1.size
    have hB2 : Below w.heap.size w w2 := bel_trans hB1 hb2
    have z2 := hb2.size
    clear x0 x1 y0 y1 y2 y3
    have X3 := X2.alloc (.cells #[.int .i64 0, .int .i64 0, .int .i64 0, .int .i64 0, .int .i64 0, .int .i64 0, .int .i64 0, .int .i64 0, .int .i64 0, .int .i64 0, .int .i64 0, .int .i64 0] 83)
    have Y3 := Y2.alloc (.cells #[.int .i64 0, .int .i64 0, .int .i64 0, .int .i64 0, .int .i64 0, .int .i64 0, .int .i64 0, .int .i64 0, .int .i64 0, .int .i64 0, .int .i64 0, .int .i64 0] 83)
    have x0 := X3.cell 0; have x1 := X3.cell 1
    have hB3 : Below w.heap.size w (w2.alloc (.cells #[.int .i64 0, .int .i64 0, .int .i64 0, .int .i64 0, .int .i64 0, .int .i64 0, .int .i64 0, .int .i64 0, .int .i64 0, .int .i64 0, .int .i64 0, .int .i64 0] 83)) := bel_alloc hB2 _
    go_wp2_with fail
    refine (i_PlCopy (tHeld.row.reach hr0 hB3) (tIs.reach hr1 hB3) hzz).mono ?_
    rintro e w9 ⟨B0, d0, B1, d1, F, rfl, hO, hN, hb9⟩
    have Y9 := Y3.below hb9 Y3.size
    have hB9 : Below w.heap.size w w9 := bel_trans hB3 hb9
    have hM : New (w.heap.size + 2) F := hN.lower (by simp; omega)
    have q0 := Y9.cell 0; have q1 := Y9.cell 1; have g0 := Y9.frozen 0; have g1 := Y9.frozen 1
    go_wp2
    have RR := (Y9.put 0 (.slice B0 p.1.length d0)).put 1 (.slice B1 p.2.length d1)
    have e0 := RR.cell 0; have e1 := RR.cell 1
    refine bodyPost_ret (v := .tuple #[.agg #[.slice B0 p.1.length d0, .slice B1 p.2.length d1], .slice none 0 0, .int .i64 (-1)]) (by simp [results, Try.results23, go_sem, e0, e1]) rfl ⟨[.slice B0 p.1.length d0, .slice B1 p.2.length d1], none, 0, F, [], rfl, put2_O hO (hM.not (by omega)), nilRwOI, by rw [List.append_nil]; exact hM.lower (by omega), ?_⟩
    exact bel_put (bel_put hB9 (by simp) _) (by simp) _
  | some r =>
    obtain ⟨L, U⟩ := r
    obtain ⟨f1, f2, f3⟩ := fl_yes (d := d) hfo hfew hsh
    rw [e0] at hsh hfew
    have HSH := Lib.hid hsh
    have HOP := Lib.hid (ord_place (ints_byI hI3) hsh)
    have HWF := Lib.hid (show ∀ y ∈ L, (Lit.int .i64 y).wf = true from fun y hy => by
      have h1 := (shuf_all (ints_byI hI3) hsh).1.mem_iff.1 hy
      have h2 := mem_iota.1 h1
      exact wf_i64 (by omega) (by omega))
    rw [f1, f2, f3]
    clear hp f1 f2 f3 hfo e0 hxq hsh
    go_enter Try.func23, Try.ntmps23
    go_wp2_with fail
    refine (i_PoolOk (tPool.reach h ?hB) hz).mono ?_
    case hB => exact (belx)
    rintro e w1 ⟨rfl, hb1⟩
    rw [HP.out]
    have X1 : Box w1 w.heap.size 26 #[.slice A0 n0 c0, .slice A1 n1 c1] := Box.below ((Box.new w _ _).alloc _) hb1 (by simp; omega)
    have Y1 : Box w1 (w.heap.size + 1) 26 #[.slice none 0 0, .slice none 0 0] := Box.below (by simpa using Box.new (w.alloc _) 26 #[.slice none 0 0, .slice none 0 0]) hb1 (by simp)
    have x0 := X1.cell 0; have x1 := X1.cell 1
    have y0 := Y1.cell 0; have y1 := Y1.cell 1; have y2 := Y1.frozen 0; have y3 := Y1.frozen 1
    have hB1 : Below w.heap.size w w1 := bel_trans (belx) hb1
    have z1 : w.heap.size + 2 ≤ w1.heap.size := by have := hb1.size; simpa using this
    clear hb1
    go_wp2_with fail
    refine (i_isNeed x _).mono ?_
    rintro e w' ⟨rfl, rfl⟩
    rw [HQ.out]
    go_wp2_with fail
    refine (i_drawnOrder_t n0 (reach hI3 hB1) hc3 hn3 hm3 hn0 HSH.out).mono ?_
    rintro e w2 ⟨nz0, nz1, nz2, nz3, nz4, nz5, nz6, nz7, nz8, nz9, nz10, nz11, rfl, hTK, hb2⟩
    have HTK := Lib.hid hTK
    have X2 := X1.below hb2 X1.size
    have Y2 := Y1.below hb2 Y1.size
    have hB2 : Below w.heap.size w w2 := bel_trans hB1 hb2
    have z2 := hb2.size
    clear x0 x1 y0 y1 y2 y3 hTK
    have qU : ¬ (U : Int) < 0 := by omega
    have O4' : Box (w2.alloc (.cells #[.int .i64 nz0, .int .i64 nz1, .int .i64 nz2, .int .i64 nz3, .int .i64 nz4, .int .i64 nz5, .int .i64 nz6, .int .i64 nz7, .int .i64 nz8, .int .i64 nz9, .int .i64 nz10, .int .i64 nz11] 83)) w2.heap.size 83 #[.int .i64 nz0, .int .i64 nz1, .int .i64 nz2, .int .i64 nz3, .int .i64 nz4, .int .i64 nz5, .int .i64 nz6, .int .i64 nz7, .int .i64 nz8, .int .i64 nz9, .int .i64 nz10, .int .i64 nz11] := Box.new _ _ _
    have X4' := X2.alloc (.cells #[.int .i64 nz0, .int .i64 nz1, .int .i64 nz2, .int .i64 nz3, .int .i64 nz4, .int .i64 nz5, .int .i64 nz6, .int .i64 nz7, .int .i64 nz8, .int .i64 nz9, .int .i64 nz10, .int .i64 nz11] 83)
    have Y4' := Y2.alloc (.cells #[.int .i64 nz0, .int .i64 nz1, .int .i64 nz2, .int .i64 nz3, .int .i64 nz4, .int .i64 nz5, .int .i64 nz6, .int .i64 nz7, .int .i64 nz8, .int .i64 nz9, .int .i64 nz10, .int .i64 nz11] 83)
    have hB4' : Below w.heap.size w (w2.alloc (.cells #[.int .i64 nz0, .int .i64 nz1, .int .i64 nz2, .int .i64 nz3, .int .i64 nz4, .int .i64 nz5, .int .i64 nz6, .int .i64 nz7, .int .i64 nz8, .int .i64 nz9, .int .i64 nz10, .int .i64 nz11] 83)) := bel_alloc hB2 _
    have z4' : w2.heap.size < (w2.alloc (.cells #[.int .i64 nz0, .int .i64 nz1, .int .i64 nz2, .int .i64 nz3, .int .i64 nz4, .int .i64 nz5, .int .i64 nz6, .int .i64 nz7, .int .i64 nz8, .int .i64 nz9, .int .i64 nz10, .int .i64 nz11] 83)).heap.size := by simp
    go_wp2_with fail
    generalize hw4 : w2.alloc (.cells #[.int .i64 nz0, .int .i64 nz1, .int .i64 nz2, .int .i64 nz3, .int .i64 nz4, .int .i64 nz5, .int .i64 nz6, .int .i64 nz7, .int .i64 nz8, .int .i64 nz9, .int .i64 nz10, .int .i64 nz11] 83) = w4 at O4' X4' Y4' hB4' z4' ⊢
    have O4 := O4'
    have X4 := X4'
    have Y4 := Y4'
    have hB4 := hB4'
    generalize hob : w2.heap.size = ob at *
    have z4 : w.heap.size + 2 ≤ w4.heap.size := by omega
    have zob : w.heap.size + 2 ≤ ob := by omega
    clear hw4 hob O4' X4' Y4' hB4' X1 Y1 X2 Y2
    refine wp_region_held_drew (S := (fun w' => w'.cell? ⟨w.heap.size, 0, none⟩ = some (.slice A0 n0 c0) ∧ w'.cell? ⟨w.heap.size, 1, none⟩ = some (.slice A1 n1 c1) ∧ w'.cell? ⟨ob, 0, none⟩ = some (.int .i64 nz0) ∧ w'.cell? ⟨ob, 1, none⟩ = some (.int .i64 nz1) ∧ w'.cell? ⟨ob, 2, none⟩ = some (.int .i64 nz2) ∧ w'.cell? ⟨ob, 3, none⟩ = some (.int .i64 nz3) ∧ w'.cell? ⟨ob, 4, none⟩ = some (.int .i64 nz4) ∧ w'.cell? ⟨ob, 5, none⟩ = some (.int .i64 nz5) ∧ w'.cell? ⟨ob, 6, none⟩ = some (.int .i64 nz6) ∧ w'.cell? ⟨ob, 7, none⟩ = some (.int .i64 nz7) ∧ w'.cell? ⟨ob, 8, none⟩ = some (.int .i64 nz8) ∧ w'.cell? ⟨ob, 9, none⟩ = some (.int .i64 nz9) ∧ w'.cell? ⟨ob, 10, none⟩ = some (.int .i64 nz10) ∧ w'.cell? ⟨ob, 11, none⟩ = some (.int .i64 nz11))) (by kernel_rfl) (by exact ⟨X4.cell 0, X4.cell 1, O4.cell 0, O4.cell 1, O4.cell 2, O4.cell 3, O4.cell 4, O4.cell 5, O4.cell 6, O4.cell 7, O4.cell 8, O4.cell 9, O4.cell 10, O4.cell 11⟩) (fun hHeld => ?_)
    refine wpAnyH_take (i := 0) (oi := ⟨some 39, _, _, _, _, _⟩) (v := ?v1) rfl (by kernel_rfl) (by kernel_rfl) (by kernel_rfl) (fun _ _ _ h => h) (Or.inl ⟨by rfl, ?hy1⟩) (by assumption) ?_
    case hy1 => (intro w hSw; (try dsimp only at hSw); go_simp; try (with_reducible rfl))
    (try simp only [Act.put, qa_, qb_, qc_])
    refine wpAnyH_take (i := 1) (oi := ⟨some 40, _, _, _, _, _⟩) (v := ?v2) rfl (by kernel_rfl) (by kernel_rfl) (by kernel_rfl) (fun _ _ _ h => h) (Or.inl ⟨by rfl, ?hy2⟩) (by assumption) ?_
    case hy2 => (intro w hSw; (try dsimp only at hSw); go_simp; try (with_reducible rfl))
    (try simp only [Act.put, qa_, qb_, qc_])
    refine wpAnyH_take (i := 4) (oi := ⟨some 43, _, _, _, _, _⟩) (v := ?v3) rfl (by kernel_rfl) (by kernel_rfl) (by kernel_rfl) (fun _ _ _ h => h) (Or.inl ⟨by rfl, ?hy3⟩) (by assumption) ?_
    case hy3 => (intro w hSw; (try dsimp only at hSw); go_simp; try (with_reducible rfl))
    (try simp only [Act.put, qa_, qb_, qc_])
    refine wpAnyH_take (i := 5) (oi := ⟨some 44, _, _, _, _, _⟩) (v := ?v4) rfl (by kernel_rfl) (by kernel_rfl) (by kernel_rfl) (fun _ _ _ h => h) (Or.inl ⟨by rfl, ?hy4⟩) (by assumption) ?_
    case hy4 => (intro w hSw; (try dsimp only at hSw); go_simp; try (with_reducible rfl))
    (try simp only [Act.put, qa_, qb_, qc_])
    refine wpAnyH_take (i := 6) (oi := ⟨some 45, _, _, _, _, _⟩) (v := ?v5) rfl (by kernel_rfl) (by kernel_rfl) (by kernel_rfl) (fun _ _ _ h => h) (Or.inl ⟨by rfl, ?hy5⟩) (by assumption) ?_
    case hy5 => (intro w hSw; (try dsimp only at hSw); go_simp; try (with_reducible rfl))
    (try simp only [Act.put, qa_, qb_, qc_])
    refine wpAnyH_take (i := 8) (oi := ⟨some 47, _, _, _, _, _⟩) (v := ?v6) rfl (by kernel_rfl) (by kernel_rfl) (by kernel_rfl) (fun _ _ _ h => h) (Or.inl ⟨by rfl, ?hy6⟩) (by assumption) ?_
    case hy6 => (intro w hSw; (try dsimp only at hSw); go_simp; try (with_reducible rfl))
    (try simp only [Act.put, qa_, qb_, qc_])
    refine wpAnyH_ready (rs := [2]) (by kernel_rfl) (by simp) ?_
    refine AllReadyH.cons rfl (fun K hK => ?_) ?_
    · go_simp
      go_at_call 61
      refine (i_copiedI5 (slR_ints (tIs.reach hr1 (show Below w.heap.size w w4.drew from bel_drew hB4))).1 hn1).mono ?_
      rintro e w5 ⟨vT, rfl, hOT, hb5⟩
      obtain ⟨BT, dT, FT, rfl, hOTd, hNT⟩ := own_slice hOT
      clear hOT
      have hs5 : Below w4.heap.size w4 w5 := bel_trans (belx) hb5
      have hB5 : Below w.heap.size w w5 := bel_trans hB4 hs5
      have X5 := X4.below hs5 X4.size
      have O5 := O4.below hs5 O4.size
      have Y5 := Y4.below hs5 Y4.size
      go_wp2_with fail
      refine hK.out _ _ (by exact ⟨X5.cell 0, X5.cell 1, O5.cell 0, O5.cell 1, O5.cell 2, O5.cell 3, O5.cell 4, O5.cell 5, O5.cell 6, O5.cell 7, O5.cell 8, O5.cell 9, O5.cell 10, O5.cell 11⟩) (fun hHeld => ?_)
      clear hK K
      (try simp only [Act.put, qa_, qb_, qc_])
      refine wpAnyH_take (i := 3) (oi := ⟨some 42, _, _, _, _, _⟩) (v := ?v7) rfl (by kernel_rfl) (by kernel_rfl) (by kernel_rfl) (fun _ _ _ h => h) (Or.inl ⟨by rfl, ?hy7⟩) (by assumption) ?_
      case hy7 => (intro w hSw; (try dsimp only at hSw); go_simp; try (with_reducible rfl))
      (try simp only [Act.put, qa_, qb_, qc_])
      refine wpAnyH_ready (rs := [7]) (by kernel_rfl) (by simp) ?_
      refine AllReadyH.cons rfl (fun K hK => ?_) ?_
      · go_simp
        go_at_call 62
        refine (i_pof (tHeld.row.reach hr0 (show Below w.heap.size w w5 from hB5)) HTK.out HWF.out HOP.out.2 hzH hn0).mono ?_
        rintro e w6 ⟨BP, dP, FP, rfl, hOP, hNP, hb6⟩
        have hs6 : Below w4.heap.size w4 w6 := bel_trans hs5 hb6
        have hB6 : Below w.heap.size w w6 := bel_trans hB4 hs6
        have X6 := X4.below hs6 X4.size
        have O6 := O4.below hs6 O4.size
        have Y6 := Y4.below hs6 Y4.size
        have hOT6 := Ty.below (t := tIs) hOTd hb6
        have hOP6 := hOP
        have hdd : ∀ f ∈ FT, f ∉ FP := fun f h1 h2 => by have a1 := tIs.lt hOTd f h1; have a2 := hNP.2 f h2; omega
        have zz5 := hs5.size
        have hMM : New (w.heap.size + 2) (FT ++ FP) := new_pair (hNT.lower (by first | omega | (simp; omega) | (show _ ≤ w4.heap.size; omega))) (hNP.lower (by first | omega | (simp; omega) | (show _ ≤ w4.heap.size; omega))) hdd
        have X8 := (X6.far (p := ⟨w.heap.size + 1, 0, none⟩) (by show w.heap.size ≠ w.heap.size + 1; omega) (.slice none 0 0)).far (p := ⟨w.heap.size + 1, 1, none⟩) (by show w.heap.size ≠ w.heap.size + 1; omega) (.slice BT p.2.length dT)
        have O8 := (O6.far (p := ⟨w.heap.size + 1, 0, none⟩) (by show ob ≠ w.heap.size + 1; omega) (.slice none 0 0)).far (p := ⟨w.heap.size + 1, 1, none⟩) (by show ob ≠ w.heap.size + 1; omega) (.slice BT p.2.length dT)
        have q0 := Y6.cell 0; have q1 := Y6.cell 1; have g0 := Y6.frozen 0; have g1 := Y6.frozen 1
        go_wp2_with fail
        refine hK.out _ _ (by exact ⟨X6.cell 0, X6.cell 1, O6.cell 0, O6.cell 1, O6.cell 2, O6.cell 3, O6.cell 4, O6.cell 5, O6.cell 6, O6.cell 7, O6.cell 8, O6.cell 9, O6.cell 10, O6.cell 11⟩) (fun hHeld => ?_)
        clear hK K
        (try simp only [Act.put, qa_, qb_, qc_])
        refine wpAnyH_ready (rs := [9]) (by kernel_rfl) (by simp) ?_
        refine AllReadyH.cons rfl (fun K hK => ?_) ?_
        · go_simp
          refine hK.out _ _ (by exact ⟨X8.cell 0, X8.cell 1, O8.cell 0, O8.cell 1, O8.cell 2, O8.cell 3, O8.cell 4, O8.cell 5, O8.cell 6, O8.cell 7, O8.cell 8, O8.cell 9, O8.cell 10, O8.cell 11⟩) (fun hHeld => ?_)
          clear hK K
          (try simp only [Act.put, qa_, qb_, qc_])
          refine wpAnyH_take (i := 10) (oi := ⟨some 7, _, _, _, _, _⟩) (v := ?v8) rfl (by kernel_rfl) (by kernel_rfl) (by kernel_rfl) (fun _ _ _ h => h) (Or.inl ⟨by rfl, ?hy8⟩) (by assumption) ?_
          case hy8 => (intro w hSw; (try dsimp only at hSw); go_simp; try (with_reducible rfl))
          (try simp only [Act.put, qa_, qb_, qc_])
          refine wpAnyH_take (i := 11) (oi := ⟨some 8, _, _, _, _, _⟩) (v := ?v9) rfl (by kernel_rfl) (by kernel_rfl) (by kernel_rfl) (fun _ _ _ h => h) (Or.inl ⟨by rfl, ?hy9⟩) (by assumption) ?_
          case hy9 => (intro w hSw; (try dsimp only at hSw); go_simp; try (with_reducible rfl))
          (try simp only [Act.put, qa_, qb_, qc_])
          refine wpAnyH_done (by kernel_rfl) ?_ _
          go_wp2
          have RR := (Y6.put 0 (.slice none 0 0)).put 1 (.slice BT p.2.length dT)
          have e0 := RR.cell 0
          have e1 := RR.cell 1
          have u1 : w.heap.size + 1 ∉ FT ++ FP := hMM.not (by omega)
          have hX := put2_Pool (r0 := []) (l1 := p.2) (F0 := []) (F1 := FT) (g := w.heap.size + 1) (w := w6) nilRwOI hOT6 (fun hh => u1 (List.mem_append.2 (.inl (by simpa using hh))))
          have hY := Ty.far3 (t := tHeld.row) (Ty.far3 (t := tHeld.row) hOP6 (p := ⟨w.heap.size + 1, 0, none⟩) (fun hh => u1 (List.mem_append.2 (.inr hh))) (.slice none 0 0)) (p := ⟨w.heap.size + 1, 1, none⟩) (fun hh => u1 (List.mem_append.2 (.inr hh))) (.slice BT p.2.length dT)
          refine bodyPost_ret (v := .tuple #[.agg #[.slice none 0 0, .slice BT p.2.length dT], .slice BP (pmut p.1 L).length dP, .int .i64 (U : Int)]) (by simp [results, Try.results23, go_sem, e0, e1]) rfl ⟨[.slice none 0 0, .slice BT p.2.length dT], BP, dP, [] ++ FT, FP, rfl, hX, hY, hMM.lower (by omega), ?_⟩
          exact bel_put (bel_put hB6 (by simp) _) (by simp) _
        exact AllReadyH.nil
      exact AllReadyH.nil
    exact AllReadyH.nil
end Go.Proofs.Ytblcfncjghkegaa
