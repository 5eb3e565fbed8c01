/-
  TpS, TpA: texts joined.
-/
import Derived.Test.YtaabmaoldhoinaaGreatVGa
import Derived.Test.YtaabmaoldhoinaaGreatVGc
import Derived.Deep.Cut
import Derived.Deep.CutRange
import Derived.Deep.DeepCutAuto
import Derived.Deep.RegionHeld3
namespace Go.Proofs.YtaabmaoldhoinaaGreat
set_option maxRecDepth 100000
set_option linter.unusedVariables false
set_option linter.unusedSimpArgs false
open Go.ChangeShapes Go.WideShapes Go.ChangeAt Go.RowKit
open Fld
theorem getD_atI {l : List Int} {j : Nat} (h : j < l.length) : l[j]? = some (l.getD j 0) := by
  rw [List.getD_eq_getElem?_getD, List.getElem?_eq_getElem h]; rfl
set_option maxHeartbeats 2000000 in
theorem s_l4insert {w : World} {n c : Nat} {A : Option Addr} {l : List Int} {x : Int} (hl : Ints .i64 w w.heap.size A n l) (hn : n ≤ 1048576) (hx : (Lit.int .i64 x).wf = true) :
    Calls Tryz.prog 85 #[.slice A n c, .int .i64 x] w fun e w' => ∃ v, e = .returned v ∧ Own .i64 3 w' w.heap.size v (insI x l) ∧ Below w.heap.size w w' := by
  obtain ⟨ib, hi0, hz0, hz1, hz2⟩ := info_parts info_ci
  have HL := Lib.hid hl.1
  go_enter Tryz.func85, Tryz.ntmps85
  go_wp2_with fail
  go_loopw [5, 6, 7] (fun v p i wr => ∃ (j : Nat) (u : List Int), j ≤ n ∧ i = .int .i64 j ∧ Own .i64 3 wr w.heap.size v u ∧ u.length ≤ j + 1 ∧ ((p = .bool false ∧ u = l.take j ∧ ∀ b ∈ l.take j, ¬ x < b) ∨ (p = .bool true ∧ u = insI x (l.take j) ∧ ∃ b ∈ l.take j, x < b)) ∧ Below w.heap.size w wr) (fun _ _ i _ => n - ixOf i)
  case atStart => exact ⟨0, [], by omega, rfl, Own.nil _ _ _ _, by simp, .inl ⟨rfl, rfl, fun b hb => absurd hb (by simp)⟩, (belx)⟩
  case round =>
    obtain ⟨j, u, hj, rfl, hO, hul, hc, hB⟩ := hrel
    by_cases hlt : j < n
    · obtain ⟨b, off, rfl, hb, hc0, hwf⟩ := hl.at_ hlt
      have hcell := cell_at hB hb hc0
      have HC0 := Lib.hid hc0
      clear hc0
      have hl2 := getD_atI (l := l) (j := j) (by rw [HL.out]; exact hlt)
      obtain ⟨a, ha⟩ : ∃ a, l.getD j 0 = a := ⟨_, rfl⟩
      rw [ha] at hcell hl2 hwf HC0
      have j1 : (j : Int) < (n : Int) := by omega
      have HT := Lib.hid (take_snoc hl2)
      have ham : a ∈ l.take (j + 1) := by rw [HT.out]; simp
      have HAM := Lib.hid ham
      obtain ⟨A9, n9, c9, rfl, hn9⟩ := hO.shapeN
      have HN9 := Lib.hid hn9
      have hOwn := fun b hb => hO.block (b := b) hb
      have zr := hB.size
      clear ha ham hl2 hn9
      rcases hc with ⟨rfl, hu, hno⟩ | ⟨rfl, hu, hyes⟩
      · have HU := Lib.hid hu
        have HNO := Lib.hid hno
        have hul2 : u.length ≤ j := by rw [hu, List.length_take]; omega
        clear hu hno
        by_cases hxa : x < a
        · have HR := Lib.hid (insI_here HNO.out hxa)
          go_wp2_with (first
            | (at_builtin; refine Own.pushRow (by rfl) (.tmp 24) (.tmp 26) _ (by rfl) ib _ 8 Tryz.underlying23 hi0 hz0 hz1 hz2 (by rfl) (by rfl) (hO.below (show Below wr.heap.size wr (wr.alloc (.cells #[.int .i64 x] 3)) from (belx))) (by rfl) (Ints.boxed (Box.new wr 3 #[.int .i64 x]) hx) (by simp; omega) (by simp only [maxLen]; omega) (by omega) ?_; intro v2 w2 hO2 hgr2 hat2; have hB2 : Below w.heap.size w w2 := Below.grown (w := (wr.alloc (.cells #[.int .i64 x] 3))) (bel_alloc hB _) hgr2 (by simp; omega) (fun b hb => (hOwn b hb).1); have z2 := hgr2.size; have hcell2 := cell_at hB2 hb HC0.out)
            | (at_builtin; refine Own.pushRow (by rfl) (.tmp 28) (.tmp 33) _ (by rfl) ib _ 8 Tryz.underlying23 hi0 hz0 hz1 hz2 (by rfl) (by rfl) (hO2.below (show Below w2.heap.size w2 (w2.alloc (.cells #[.int .i64 a] 3)) from (belx))) (by rfl) (Ints.boxed (Box.new w2 3 #[.int .i64 a]) hwf) (by simp; simp at z2; omega) (by simp only [maxLen]; simp; omega) (by simp; omega) ?_; intro v3 w3 hO3 hgr3 hat3; have hOwn2 := fun b hb => hO2.block (b := b) hb; have hB3 : Below w.heap.size w w3 := Below.grown (w := (w2.alloc (.cells #[.int .i64 a] 3))) (bel_alloc hB2 _) hgr3 (by simp; simp at z2; omega) (fun b hb => (hOwn2 b hb).1)))
          go_roundw
          case rel => exact ⟨j + 1, _, by omega, by go_num, hO3, by simp; omega, .inr ⟨rfl, by rw [HU.out, HT.out, HR.out], a, HAM.out, hxa⟩, hB3⟩
          case measure => simp [ixOf]; omega
        · go_wp2_with (at_builtin; refine Own.pushRow (by rfl) (.tmp 28) (.tmp 33) _ (by rfl) ib _ 8 Tryz.underlying23 hi0 hz0 hz1 hz2 (by rfl) (by rfl) (hO.below (show Below wr.heap.size wr (wr.alloc (.cells #[.int .i64 a] 3)) from (belx))) (by rfl) (Ints.boxed (Box.new wr 3 #[.int .i64 a]) hwf) (by simp; omega) (by simp only [maxLen]; omega) (by omega) ?_; intro v2 w2 hO2 hgr2 hat2; have hB2 : Below w.heap.size w w2 := Below.grown (w := (wr.alloc (.cells #[.int .i64 a] 3))) (bel_alloc hB _) hgr2 (by simp; omega) (fun b hb => (hOwn b hb).1))
          go_roundw
          case rel => exact ⟨j + 1, _, by omega, by go_num, hO2, by simp; omega, .inl ⟨rfl, by rw [HU.out, HT.out], fun b hb => by rw [HT.out] at hb; rcases List.mem_append.1 hb with h' | h'; exact HNO.out b h'; rw [List.mem_singleton.1 h']; exact hxa⟩, hB2⟩
          case measure => simp [ixOf]; omega
      · have HU := Lib.hid hu
        have HYES := Lib.hid hyes
        have HR := Lib.hid (insI_past (a := a) hyes)
        clear hu hyes
        go_wp2_with (at_builtin; refine Own.pushRow (by rfl) (.tmp 28) (.tmp 33) _ (by rfl) ib _ 8 Tryz.underlying23 hi0 hz0 hz1 hz2 (by rfl) (by rfl) (hO.below (show Below wr.heap.size wr (wr.alloc (.cells #[.int .i64 a] 3)) from (belx))) (by rfl) (Ints.boxed (Box.new wr 3 #[.int .i64 a]) hwf) (by simp; omega) (by simp only [maxLen]; omega) (by omega) ?_; intro v2 w2 hO2 hgr2 hat2; have hB2 : Below w.heap.size w w2 := Below.grown (w := (wr.alloc (.cells #[.int .i64 a] 3))) (bel_alloc hB _) hgr2 (by simp; omega) (fun b hb => (hOwn b hb).1))
        go_roundw
        case rel => exact ⟨j + 1, _, by omega, by go_num, hO2, by simp; omega, .inr ⟨rfl, by rw [HU.out, HT.out, HR.out], by obtain ⟨b, hb, hxb⟩ := HYES.out; exact ⟨b, by rw [HT.out]; exact List.mem_append.2 (.inl hb), hxb⟩⟩, hB2⟩
        case measure => simp [ixOf]; omega
    · obtain rfl : n = j := by omega
      have HA := Lib.hid (show l.take n = l from List.take_of_length_le (Nat.le_of_eq HL.out))
      obtain ⟨A9, n9, c9, rfl, hn9⟩ := hO.shapeN
      have HN9 := Lib.hid hn9
      have hOwn := fun b hb => hO.block (b := b) hb
      have zr := hB.size
      clear hn9
      rcases hc with ⟨rfl, hu, hno⟩ | ⟨rfl, hu, hyes⟩
      · have HR := Lib.hid (insI_none hno)
        have HU := Lib.hid hu
        clear hno hu
        go_wp2_with (at_builtin; refine Own.pushRow (by rfl) (.tmp 37) (.tmp 39) _ (by rfl) ib _ 8 Tryz.underlying23 hi0 hz0 hz1 hz2 (by rfl) (by rfl) (hO.below (show Below wr.heap.size wr (wr.alloc (.cells #[.int .i64 x] 3)) from (belx))) (by rfl) (Ints.boxed (Box.new wr 3 #[.int .i64 x]) hx) (by simp; omega) (by simp only [maxLen]; omega) (by omega) ?_; intro v2 w2 hO2 hgr2 hat2; have hB2 : Below w.heap.size w w2 := Below.grown (w := (wr.alloc (.cells #[.int .i64 x] 3))) (bel_alloc hB _) hgr2 (by simp; omega) (fun b hb => (hOwn b hb).1))
        go_ret
        exact ⟨_, rfl, by have h := hO2; rw [HU.out, ← HR.out, HA.out] at h; exact h, hB2⟩
      · have HU := Lib.hid hu
        clear hu hyes
        go_wp2
        go_ret
        exact ⟨_, rfl, by have h := hO; rw [HU.out, HA.out] at h; exact h, hB⟩
theorem tkData_snoc {g : List DPiece} {j : Nat} {a : DPiece} (h : g[j]? = some a) : tkData (g.take (j + 1)) = tkData (g.take j) ++ a.2.2.2 := by
  unfold tkData; rw [take_snoc h, List.flatMap_append]; simp
set_option maxHeartbeats 2000000 in
theorem s_l4join {w : World} {kb n c : Nat} {A : Option Addr} {x0 x1 x2 : Int} {g : List DPiece} (hg : (RX kb (tPcX kb)).R w w.heap.size [.slice A n c] g) (hn : n ≤ 8) (hd : ∀ p ∈ g, p.2.2.2.length ≤ 20) :
    Calls Tryz.prog 86 #[.agg #[.int .i64 x0, .int .i64 x1, .int .i64 x2, .slice A n c]] w fun e w' => ∃ v, e = .returned v ∧ Own .u8 5 w' w.heap.size v (tkData g) ∧ Below w.heap.size w w' := by
  obtain ⟨ib, hi0, hz0, hz1, hz2⟩ := info_parts info_cb
  have HL := Lib.hid (rx_len hg).1
  have HD := Lib.hid hd
  clear hd
  go_enter Tryz.func86, Tryz.ntmps86
  go_wp2_with fail
  go_loopw [3, 4] (fun v i wr => ∃ (j : Nat), j ≤ n ∧ i = .int .i64 j ∧ Own .u8 5 wr (w.heap.size + 1) v (tkData (g.take j)) ∧ (tkData (g.take j)).length ≤ 20 * j ∧ Box wr w.heap.size 53 #[.int .i64 x0, .int .i64 x1, .int .i64 x2, .slice A n c] ∧ Below w.heap.size w wr) (fun _ i _ => n - ixOf i)
  case atStart => exact ⟨0, by omega, rfl, Own.nil _ _ _ _, by simp [tkData], Box.new _ _ _, (belx)⟩
  case round =>
    obtain ⟨j, hj, rfl, hO, hul, hX, hB⟩ := hrel
    have x3 := hX.cell 3
    have zX := hX.size
    by_cases hlt : j < n
    · obtain ⟨a, b', off, es, hl2, rfl, hb, hes, hR⟩ := rx_at (k := 4) hg hlt rfl
      have HT := Lib.hid (tkData_snoc hl2)
      have hda := HD.out a (List.mem_of_getElem? hl2)
      obtain ⟨A3, n3, c3, rfl, -, -, -, -, -, hl3, h3⟩ := openPiece (xt_R hR)
      have e3 : wr.cell? ⟨b', off + j * 4 + 3, none⟩ = some (.slice A3 n3 c3) := cell_at hB hb (hes 3 (by omega))
      have hI : Ints .u8 wr wr.heap.size A3 n3 a.2.2.2 := reach (slR_ints h3).1 hB
      have j1 : (j : Int) < (n : Int) := by omega
      have hn3 : n3 ≤ 20 := by omega
      obtain ⟨A9, n9, c9, rfl, hn9⟩ := hO.shapeN
      have HN9 := Lib.hid hn9
      have hOwn := fun b hb => hO.block (b := b) hb
      obtain ⟨u, hu⟩ : ∃ u, tkData (g.take j) = u := ⟨_, rfl⟩
      rw [hu] at hO HT hul
      have hl3' : a.2.2.2.length = n3 := hl3
      have HL3 := Lib.hid hl3'
      clear hl2 hes hR h3 hl3 hl3' hn9 hda hu
      go_wp2_with (at_builtin; refine Own.pushRow (by rfl) (.tmp 12) (.tmp 18) _ (by rfl) ib _ 1 Tryz.underlying26 hi0 hz0 hz1 hz2 (by rfl) (by rfl) hO (by rfl) hI (by omega) (by simp only [maxLen]; omega) (by omega) ?_; intro v2 w2 hO2 hgr2 hat2; have hB2 : Below w.heap.size w w2 := Below.grown hB hgr2 (by omega) (fun b hb => by have := (hOwn b hb).1; omega))
      have X2 := Box.grown hX hgr2 (fun e => by have := (hOwn _ e.symm).1; omega)
      go_roundw
      case rel => exact ⟨j + 1, by omega, by go_num, by rw [HT.out]; exact hO2, by rw [HT.out, List.length_append, HL3.out]; omega, X2, hB2⟩
      case measure => simp [ixOf]; omega
    · obtain rfl : n = j := by omega
      have HA := Lib.hid (show g.take n = g from List.take_of_length_le (Nat.le_of_eq HL.out))
      rw [HA.out] at hO
      go_wp2
      go_ret
      exact ⟨_, rfl, hO.lower (by omega), hB⟩
theorem asc_take_lt {α : Type} {f : α → Int} {l : List α} {j : Nat} {a : α} (h : l.Pairwise (fun a b => f a < f b)) (ha : l[j]? = some a) : ∀ b ∈ l.take j, f b < f a := by
  intro b hb
  obtain ⟨i, hi, rfl⟩ := List.getElem_of_mem hb
  rw [List.length_take] at hi
  obtain ⟨hj, rfl⟩ := List.getElem?_eq_some_iff.1 ha
  rw [List.getElem_take]
  exact List.pairwise_iff_getElem.1 h i j (by omega) hj (by omega)
set_option maxHeartbeats 8000000 in
theorem s_l4with {w : World} {kb B0 n c n7 c7 : Nat} {A A7 : Option Addr} {x0 x1 x2 y0 y1 y2 : Int} {g : List DPiece} {qd : List Int} (hB0 : B0 ≤ w.heap.size) (hg : (RX kb (tPcX kb)).R w B0 [.slice A n c] g) (hn : n ≤ 8) (hq : (tPcX kb).R w B0 [.int .i64 y0, .int .i64 y1, .int .i64 y2, .slice A7 n7 c7] (y0, y1, y2, qd)) (hasc : Asc (g.map pAt)) :
    Calls Tryz.prog 84 #[.agg #[.int .i64 x0, .int .i64 x1, .int .i64 x2, .slice A n c], .agg #[.int .i64 y0, .int .i64 y1, .int .i64 y2, .slice A7 n7 c7]] w fun e w' => Below w.heap.size w w' ∧
      ((∃ A' m' c', (x1 = y2 ∧ ∀ p ∈ g, p.2.1 ≠ y1) ∧ e = .returned (.tuple #[.agg #[.int .i64 x0, .int .i64 x1, .int .i64 x2, .slice A' m' c'], .bool true]) ∧ GrowR (tPcX kb) 37 w' w.heap.size B0 (.slice A' m' c') (insB pAt (y0, y1, y2, qd) g)) ∨
       ((x1 ≠ y2 ∨ ∃ p ∈ g, p.2.1 = y1) ∧ e = .returned (.tuple #[.agg #[.int .i64 x0, .int .i64 x1, .int .i64 x2, .slice A n c], .bool false]))) := by
  obtain ⟨i1, hj0, hj1, hj2, hj3⟩ := info_parts info_Piece
  have E0 := Lib.hid (rx_len hg).1
  have tz : (Value.agg #[Value.int .i64 0, Value.int .i64 0, Value.int .i64 0, Value.slice none 0 0]).cells.size = 4 := by first | rfl | (simp [Value.cells]; done)
  by_cases ht : x1 = y2
  rotate_left
  · have q1 : (y2 != x1) = true := by simpa using fun e : y2 = x1 => ht e.symm
    have HNE := Lib.hid ht
    have hne : ¬ y2 = x1 := fun e => ht e.symm
    clear ht
    have RR : Box (((w.alloc (.cells #[.int .i64 x0, .int .i64 x1, .int .i64 x2, .slice A n c] 53)).alloc (.cells #[.int .i64 y0, .int .i64 y1, .int .i64 y2, .slice A7 n7 c7] 37)).alloc (.cells #[.int .i64 x0, .int .i64 x1, .int .i64 x2, .slice A n c] 53)) (w.heap.size + 1 + 1) 53 #[.int .i64 x0, .int .i64 x1, .int .i64 x2, .slice A n c] := by simpa using Box.new ((w.alloc (.cells #[.int .i64 x0, .int .i64 x1, .int .i64 x2, .slice A n c] 53)).alloc (.cells #[.int .i64 y0, .int .i64 y1, .int .i64 y2, .slice A7 n7 c7] 37)) 53 #[.int .i64 x0, .int .i64 x1, .int .i64 x2, .slice A n c]
    go_enter Tryz.func84, Tryz.ntmps84
    go_wp2
    have s0 := RR.cell 0; have s1 := RR.cell 1; have s2 := RR.cell 2; have s3 := RR.cell 3
    refine bodyPost_ret (v := .tuple #[.agg #[.int .i64 x0, .int .i64 x1, .int .i64 x2, .slice A n c], .bool false]) (by simp [results, Tryz.results84, go_sem, s0, s1, s2, s3]) rfl ⟨?_, .inr ⟨.inl HNE.out, rfl⟩⟩
    exact (belx)
  subst ht
  have HASC := Lib.hid (asc_pairM (f := pAt) hasc)
  clear hasc
  have q2 : (x1 != x1) = false := by simp
  have PS0 : Box ((((w.alloc (.cells #[.int .i64 x0, .int .i64 x1, .int .i64 x2, .slice A n c] 53)).alloc (.cells #[.int .i64 y0, .int .i64 y1, .int .i64 x1, .slice A7 n7 c7] 37)).alloc (.cells #[.int .i64 0, .int .i64 0, .int .i64 0, .slice none 0 0] 53)).alloc (.cells #[.int .i64 x0, .int .i64 x1, .int .i64 x2, .slice none 0 0] 53)) w.heap.size 53 #[.int .i64 x0, .int .i64 x1, .int .i64 x2, .slice A n c] := (((Box.new w _ _).alloc _).alloc _).alloc _
  have PS1 : Box ((((w.alloc (.cells #[.int .i64 x0, .int .i64 x1, .int .i64 x2, .slice A n c] 53)).alloc (.cells #[.int .i64 y0, .int .i64 y1, .int .i64 x1, .slice A7 n7 c7] 37)).alloc (.cells #[.int .i64 0, .int .i64 0, .int .i64 0, .slice none 0 0] 53)).alloc (.cells #[.int .i64 x0, .int .i64 x1, .int .i64 x2, .slice none 0 0] 53)) (w.heap.size + 1) 37 #[.int .i64 y0, .int .i64 y1, .int .i64 x1, .slice A7 n7 c7] := Box.alloc (Box.alloc (by simpa using Box.new (w.alloc (.cells #[.int .i64 x0, .int .i64 x1, .int .i64 x2, .slice A n c] 53)) 37 #[.int .i64 y0, .int .i64 y1, .int .i64 x1, .slice A7 n7 c7]) _) _
  have PS2 : Box ((((w.alloc (.cells #[.int .i64 x0, .int .i64 x1, .int .i64 x2, .slice A n c] 53)).alloc (.cells #[.int .i64 y0, .int .i64 y1, .int .i64 x1, .slice A7 n7 c7] 37)).alloc (.cells #[.int .i64 0, .int .i64 0, .int .i64 0, .slice none 0 0] 53)).alloc (.cells #[.int .i64 x0, .int .i64 x1, .int .i64 x2, .slice none 0 0] 53)) (w.heap.size + 1 + 1) 53 #[.int .i64 0, .int .i64 0, .int .i64 0, .slice none 0 0] := Box.alloc (by simpa using Box.new ((w.alloc (.cells #[.int .i64 x0, .int .i64 x1, .int .i64 x2, .slice A n c] 53)).alloc (.cells #[.int .i64 y0, .int .i64 y1, .int .i64 x1, .slice A7 n7 c7] 37)) 53 #[.int .i64 0, .int .i64 0, .int .i64 0, .slice none 0 0]) _
  have PS3 : Box ((((w.alloc (.cells #[.int .i64 x0, .int .i64 x1, .int .i64 x2, .slice A n c] 53)).alloc (.cells #[.int .i64 y0, .int .i64 y1, .int .i64 x1, .slice A7 n7 c7] 37)).alloc (.cells #[.int .i64 0, .int .i64 0, .int .i64 0, .slice none 0 0] 53)).alloc (.cells #[.int .i64 x0, .int .i64 x1, .int .i64 x2, .slice none 0 0] 53)) (w.heap.size + 1 + 1 + 1) 53 #[.int .i64 x0, .int .i64 x1, .int .i64 x2, .slice none 0 0] := by simpa using Box.new (((w.alloc (.cells #[.int .i64 x0, .int .i64 x1, .int .i64 x2, .slice A n c] 53)).alloc (.cells #[.int .i64 y0, .int .i64 y1, .int .i64 x1, .slice A7 n7 c7] 37)).alloc (.cells #[.int .i64 0, .int .i64 0, .int .i64 0, .slice none 0 0] 53)) 53 #[.int .i64 x0, .int .i64 x1, .int .i64 x2, .slice none 0 0]
  go_enter Tryz.func84, Tryz.ntmps84
  go_wp2_with fail
  go_loopw [7, 8] (fun pv i wr => ∃ (j : Nat) (v : Value) (u : List DPiece), j ≤ n ∧ i = .int .i64 j ∧ Below w.heap.size w wr ∧ w.heap.size + 4 ≤ wr.heap.size ∧ Box wr w.heap.size 53 #[.int .i64 x0, .int .i64 x1, .int .i64 x2, .slice A n c] ∧ Box wr (w.heap.size + 1) 37 #[.int .i64 y0, .int .i64 y1, .int .i64 x1, .slice A7 n7 c7] ∧ Box wr (w.heap.size + 1 + 1) 53 #[.int .i64 0, .int .i64 0, .int .i64 0, .slice none 0 0] ∧ Box wr (w.heap.size + 1 + 1 + 1) 53 #[.int .i64 x0, .int .i64 x1, .int .i64 x2, v] ∧ GrowR (tPcX kb) 37 wr (w.heap.size + 4) B0 v u ∧ u.length ≤ j + 1 ∧ (∀ p ∈ g.take j, p.2.1 ≠ y1) ∧ ((pv = .bool false ∧ u = g.take j ∧ ∀ p ∈ g.take j, pAt p < y1) ∨ (pv = .bool true ∧ u = insB pAt (y0, y1, x1, qd) (g.take j) ∧ ∃ p ∈ g.take j, y1 < pAt p))) (fun _ i _ => n - ixOf i)
  case atStart => exact ⟨0, .slice none 0 0, [], by omega, rfl, (belx), by simp, PS0, PS1, PS2, PS3, GrowR.nil, by simp, fun p hp => absurd hp (by simp), .inl ⟨rfl, rfl, fun p hp => absurd hp (by simp)⟩⟩
  case round =>
    obtain ⟨j, v, u, hj, rfl, hB, hzr, P0, P1, P2, P3, hG, hul, hne, hc⟩ := hrel
    clear PS0 PS1 PS2 PS3
    have k3 : wr.cell? ⟨w.heap.size, 3, none⟩ = some (.slice A n c) := P0.cell 3
    have q1 : wr.cell? ⟨w.heap.size + 1, 1, none⟩ = some (.int .i64 y1) := P1.cell 1
    by_cases hlt : j < n
    · obtain ⟨⟨a0, a1, a2, ad⟩, b', off, es, hl2, rfl, hb0, hes, hR⟩ := rx_at (k := 4) hg hlt rfl
      have hb : b' < w.heap.size := by omega
      obtain ⟨A3, n3, c3, rfl, -, -, -, -, -, -, -⟩ := openPiece (xt_R hR)
      have e0 : wr.cell? ⟨b', off + j * 4, none⟩ = some (.int .i64 a0) := cell_at hB hb (hes 0 (by omega))
      have HE0 := Lib.hid (show w.cell? ⟨b', off + j * 4, none⟩ = some (.int .i64 a0) from hes 0 (by omega))
      have e1 : wr.cell? ⟨b', off + j * 4 + 1, none⟩ = some (.int .i64 a1) := cell_at hB hb (hes 1 (by omega))
      have HE1 := Lib.hid (show w.cell? ⟨b', off + j * 4 + 1, none⟩ = some (.int .i64 a1) from hes 1 (by omega))
      have e2 : wr.cell? ⟨b', off + j * 4 + 2, none⟩ = some (.int .i64 a2) := cell_at hB hb (hes 2 (by omega))
      have HE2 := Lib.hid (show w.cell? ⟨b', off + j * 4 + 2, none⟩ = some (.int .i64 a2) from hes 2 (by omega))
      have e3 : wr.cell? ⟨b', off + j * 4 + 3, none⟩ = some (.slice A3 n3 c3) := cell_at hB hb (hes 3 (by omega))
      have HE3 := Lib.hid (show w.cell? ⟨b', off + j * 4 + 3, none⟩ = some (.slice A3 n3 c3) from hes 3 (by omega))
      have HT := Lib.hid (take_snoc hl2)
      have HNE := Lib.hid hne
      have HU2 := Lib.hid (show u = g.take j → (u ++ [(y0, y1, x1, qd)]).length ≤ j + 1 from fun e => by rw [e, List.length_append, List.length_take]; simp; omega)
      have j1 : (j : Int) < (n : Int) := by omega
      clear hes
      by_cases he : a1 = y1
      · obtain rfl : y1 = a1 := he.symm
        have HF := Lib.hid (show ∃ p ∈ g, p.2.1 = y1 from ⟨(a0, y1, a2, ad), List.mem_of_getElem? hl2, rfl⟩)
        have HFM := Lib.hid hc
        clear hl2 hc hne
        go_wp2_with fail
        refine wp_region_held_drew (S := (fun w' => w'.cell? ⟨w.heap.size, 3, none⟩ = some (.slice (some ⟨b', off, none⟩) n c) ∧ w'.cell? ⟨b', off + j * 4 + 1, none⟩ = some (.int .i64 y1) ∧ w'.cell? ⟨w.heap.size + 1, 1, none⟩ = some (.int .i64 y1))) (by kernel_rfl) (by exact ⟨k3, e1, q1⟩) (fun hHeld => ?_)
        refine wpAnyH_take (i := 0) (oi := ⟨some 29, _, _, _, _, _⟩) (v := ?v1) rfl (by kernel_rfl) (by kernel_rfl) (by kernel_rfl) (fun _ _ _ h => h) (Or.inl ⟨by rfl, ?hy1⟩) (by assumption) ?_
        case hy1 => (intro w hSw; (try dsimp only at hSw); go_simp; try (with_reducible rfl))
        (try simp only [Act.put, qa_, qb_, qc_])
        refine wpAnyH_take (i := 1) (oi := ⟨some 30, _, _, _, _, _⟩) (v := ?v2) rfl (by kernel_rfl) (by kernel_rfl) (by kernel_rfl) (fun _ _ _ h => h) (Or.inl ⟨by rfl, ?hy2⟩) (by assumption) ?_
        case hy2 => (intro w hSw; (try dsimp only at hSw); go_simp; try (with_reducible rfl))
        (try simp only [Act.put, qa_, qb_, qc_])
        refine wpAnyH_take (i := 2) (oi := ⟨some 31, _, _, _, _, _⟩) (v := ?v3) rfl (by kernel_rfl) (by kernel_rfl) (by kernel_rfl) (fun _ _ _ h => h) (Or.inl ⟨by rfl, ?hy3⟩) (by assumption) ?_
        case hy3 => (intro w hSw; (try dsimp only at hSw); go_simp; try (with_reducible rfl))
        (try simp only [Act.put, qa_, qb_, qc_])
        refine wpAnyH_take (i := 3) (oi := ⟨some 32, _, _, _, _, _⟩) (v := ?v4) rfl (by kernel_rfl) (by kernel_rfl) (by kernel_rfl) (fun _ _ _ h => h) (Or.inl ⟨by rfl, ?hy4⟩) (by assumption) ?_
        case hy4 => (intro w hSw; (try dsimp only at hSw); go_simp; try (with_reducible rfl))
        (try simp only [Act.put, qa_, qb_, qc_])
        refine wpAnyH_take (i := 4) (oi := ⟨some 33, _, _, _, _, _⟩) (v := ?v5) rfl (by kernel_rfl) (by kernel_rfl) (by kernel_rfl) (fun _ _ _ h => h) (Or.inl ⟨by rfl, ?hy5⟩) (by assumption) ?_
        case hy5 => (intro w hSw; (try dsimp only at hSw); go_simp; try (with_reducible rfl))
        (try simp only [Act.put, qa_, qb_, qc_])
        refine wpAnyH_take (i := 5) (oi := ⟨some 34, _, _, _, _, _⟩) (v := ?v6) rfl (by kernel_rfl) (by kernel_rfl) (by kernel_rfl) (fun _ _ _ h => h) (Or.inl ⟨by rfl, ?hy6⟩) (by assumption) ?_
        case hy6 => (intro w hSw; (try dsimp only at hSw); go_simp; try (with_reducible rfl))
        (try simp only [Act.put, qa_, qb_, qc_])
        refine wpAnyH_take (i := 6) (oi := ⟨some 35, _, _, _, _, _⟩) (v := ?v7) rfl (by kernel_rfl) (by kernel_rfl) (by kernel_rfl) (fun _ _ _ h => h) (Or.inl ⟨by rfl, ?hy7⟩) (by assumption) ?_
        case hy7 => (intro w hSw; (try dsimp only at hSw); go_simp; try (with_reducible rfl))
        (try simp only [Act.put, qa_, qb_, qc_])
        refine wpAnyH_take (i := 7) (oi := ⟨some 36, _, _, _, _, _⟩) (v := ?v8) rfl (by kernel_rfl) (by kernel_rfl) (by kernel_rfl) (fun _ _ _ h => h) (Or.inl ⟨by rfl, ?hy8⟩) (by assumption) ?_
        case hy8 => (intro w hSw; (try dsimp only at hSw); go_simp; try (with_reducible rfl))
        (try simp only [Act.put, qa_, qb_, qc_])
        refine wpAnyH_take (i := 8) (oi := ⟨some 37, _, _, _, _, _⟩) (v := ?v9) rfl (by kernel_rfl) (by kernel_rfl) (by kernel_rfl) (fun _ _ _ h => h) (Or.inl ⟨by rfl, ?hy9⟩) (by assumption) ?_
        case hy9 => (intro w hSw; (try dsimp only at hSw); go_simp; try (with_reducible rfl))
        (try simp only [Act.put, qa_, qb_, qc_])
        refine wpAnyH_done (by kernel_rfl) ?_ _
        obtain ⟨wd, hwd⟩ : ∃ wd, wr.drew = wd := ⟨_, rfl⟩
        rw [hwd]
        have hBd : Below w.heap.size w wd := hwd ▸ bel_drew hB
        have D0 := hwd ▸ Box.drew P0
        have D1 := hwd ▸ Box.drew P1
        have D2 := hwd ▸ Box.drew P2
        have D3 := hwd ▸ Box.drew P3
        clear hwd
        have z0 := D0.cell 0; have z1 := D0.cell 1; have z2 := D0.cell 2; have z3 := D0.cell 3; have m0 := D2.cell 0; have m1 := D2.cell 1; have m2 := D2.cell 2; have m3 := D2.cell 3; have f0 := D2.frozen 0; have f1 := D2.frozen 1; have f2 := D2.frozen 2; have f3 := D2.frozen 3
        have R2 := D2
        go_wp2
        have RR := (((R2.put 0 (.int .i64 x0)).put 1 (.int .i64 x1)).put 2 (.int .i64 x2)).put 3 (.slice (some ⟨b', off, none⟩) n c)
        have s0 := RR.cell 0; have s1 := RR.cell 1; have s2 := RR.cell 2; have s3 := RR.cell 3
        refine bodyPost_ret (v := .tuple #[.agg #[.int .i64 x0, .int .i64 x1, .int .i64 x2, .slice (some ⟨b', off, none⟩) n c], .bool false]) (by simp [results, Tryz.results84, go_sem, s0, s1, s2, s3]) rfl ⟨?_, .inr ⟨.inr HF.out, rfl⟩⟩
        exact (bel_put (bel_put (bel_put (bel_put hBd (p := ⟨w.heap.size + 1 + 1, 0, none⟩) (by show _ ≤ w.heap.size + 1 + 1; omega) _) (p := ⟨w.heap.size + 1 + 1, 1, none⟩) (by show _ ≤ w.heap.size + 1 + 1; omega) _) (p := ⟨w.heap.size + 1 + 1, 2, none⟩) (by show _ ≤ w.heap.size + 1 + 1; omega) _) (p := ⟨w.heap.size + 1 + 1, 3, none⟩) (by show _ ≤ w.heap.size + 1 + 1; omega) _)
      · have qe : (a1 == y1) = false := by simpa using he
        have HE := Lib.hid he
        go_wp2_with fail
        refine wp_region_held_drew (S := (fun w' => w'.cell? ⟨w.heap.size, 3, none⟩ = some (.slice (some ⟨b', off, none⟩) n c) ∧ w'.cell? ⟨b', off + j * 4 + 1, none⟩ = some (.int .i64 a1) ∧ w'.cell? ⟨w.heap.size + 1, 1, none⟩ = some (.int .i64 y1))) (by kernel_rfl) (by exact ⟨k3, e1, q1⟩) (fun hHeld => ?_)
        refine wpAnyH_take (i := 0) (oi := ⟨some 29, _, _, _, _, _⟩) (v := ?v64) rfl (by kernel_rfl) (by kernel_rfl) (by kernel_rfl) (fun _ _ _ h => h) (Or.inl ⟨by rfl, ?hy64⟩) (by assumption) ?_
        case hy64 => (intro w hSw; (try dsimp only at hSw); go_simp; try (with_reducible rfl))
        (try simp only [Act.put, qa_, qb_, qc_])
        refine wpAnyH_take (i := 1) (oi := ⟨some 30, _, _, _, _, _⟩) (v := ?v65) rfl (by kernel_rfl) (by kernel_rfl) (by kernel_rfl) (fun _ _ _ h => h) (Or.inl ⟨by rfl, ?hy65⟩) (by assumption) ?_
        case hy65 => (intro w hSw; (try dsimp only at hSw); go_simp; try (with_reducible rfl))
        (try simp only [Act.put, qa_, qb_, qc_])
        refine wpAnyH_take (i := 2) (oi := ⟨some 31, _, _, _, _, _⟩) (v := ?v66) rfl (by kernel_rfl) (by kernel_rfl) (by kernel_rfl) (fun _ _ _ h => h) (Or.inl ⟨by rfl, ?hy66⟩) (by assumption) ?_
        case hy66 => (intro w hSw; (try dsimp only at hSw); go_simp; try (with_reducible rfl))
        (try simp only [Act.put, qa_, qb_, qc_])
        refine wpAnyH_take (i := 3) (oi := ⟨some 32, _, _, _, _, _⟩) (v := ?v67) rfl (by kernel_rfl) (by kernel_rfl) (by kernel_rfl) (fun _ _ _ h => h) (Or.inl ⟨by rfl, ?hy67⟩) (by assumption) ?_
        case hy67 => (intro w hSw; (try dsimp only at hSw); go_simp; try (with_reducible rfl))
        (try simp only [Act.put, qa_, qb_, qc_])
        refine wpAnyH_take (i := 4) (oi := ⟨some 33, _, _, _, _, _⟩) (v := ?v68) rfl (by kernel_rfl) (by kernel_rfl) (by kernel_rfl) (fun _ _ _ h => h) (Or.inl ⟨by rfl, ?hy68⟩) (by assumption) ?_
        case hy68 => (intro w hSw; (try dsimp only at hSw); go_simp; try (with_reducible rfl))
        (try simp only [Act.put, qa_, qb_, qc_])
        refine wpAnyH_take (i := 5) (oi := ⟨some 34, _, _, _, _, _⟩) (v := ?v69) rfl (by kernel_rfl) (by kernel_rfl) (by kernel_rfl) (fun _ _ _ h => h) (Or.inl ⟨by rfl, ?hy69⟩) (by assumption) ?_
        case hy69 => (intro w hSw; (try dsimp only at hSw); go_simp; try (with_reducible rfl))
        (try simp only [Act.put, qa_, qb_, qc_])
        refine wpAnyH_take (i := 6) (oi := ⟨some 35, _, _, _, _, _⟩) (v := ?v70) rfl (by kernel_rfl) (by kernel_rfl) (by kernel_rfl) (fun _ _ _ h => h) (Or.inl ⟨by rfl, ?hy70⟩) (by assumption) ?_
        case hy70 => (intro w hSw; (try dsimp only at hSw); go_simp; try (with_reducible rfl))
        (try simp only [Act.put, qa_, qb_, qc_])
        refine wpAnyH_take (i := 7) (oi := ⟨some 36, _, _, _, _, _⟩) (v := ?v71) rfl (by kernel_rfl) (by kernel_rfl) (by kernel_rfl) (fun _ _ _ h => h) (Or.inl ⟨by rfl, ?hy71⟩) (by assumption) ?_
        case hy71 => (intro w hSw; (try dsimp only at hSw); go_simp; try (with_reducible rfl))
        (try simp only [Act.put, qa_, qb_, qc_])
        refine wpAnyH_take (i := 8) (oi := ⟨some 37, _, _, _, _, _⟩) (v := ?v72) rfl (by kernel_rfl) (by kernel_rfl) (by kernel_rfl) (fun _ _ _ h => h) (Or.inl ⟨by rfl, ?hy72⟩) (by assumption) ?_
        case hy72 => (intro w hSw; (try dsimp only at hSw); go_simp; try (with_reducible rfl))
        (try simp only [Act.put, qa_, qb_, qc_])
        refine wpAnyH_done (by kernel_rfl) ?_ _
        go_wp2_with fail
        rcases hc with ⟨rfl, hu, hno⟩ | ⟨rfl, hu, hyes⟩
        · by_cases hgt : y1 < a1
          · have HNN := Lib.hid hno
            have HNX := Lib.hid (show ∀ p ∈ g.take (j + 1), p.2.1 ≠ y1 from fun p hp => by rw [HT.out] at hp; rcases List.mem_append.1 hp with h' | h'; exact HNE.out p h'; rw [List.mem_singleton.1 h']; exact HE.out)
            have HC1 := Lib.hid (show (u ++ [(y0, y1, x1, qd)]) ++ [(a0, a1, a2, ad)] = insB pAt (y0, y1, x1, qd) (g.take (j + 1)) from by rw [insB_step (f := pAt) (q := (y0, y1, x1, qd)) hl2 hgt, insB_none (f := pAt) (q := (y0, y1, x1, qd)) hno, hu])
            have HC2 := Lib.hid (show ∃ p ∈ g.take (j + 1), y1 < pAt p from ⟨(a0, a1, a2, ad), by rw [HT.out]; simp, hgt⟩)
            have hu2 := HU2.out hu
            clear hno hu hne hl2
            have dg : decide (y1 < a1) = true := decide_eq_true hgt
            go_wp2_with fail
            refine wp_region_held_drew (S := (fun w' => w'.cell? ⟨w.heap.size, 3, none⟩ = some (.slice (some ⟨b', off, none⟩) n c) ∧ w'.cell? ⟨b', off + j * 4 + 1, none⟩ = some (.int .i64 a1) ∧ w'.cell? ⟨w.heap.size + 1, 1, none⟩ = some (.int .i64 y1))) (by kernel_rfl) (by exact ⟨k3, e1, q1⟩) (fun hHeld => ?_)
            refine wpAnyH_take (i := 0) (oi := ⟨some 39, _, _, _, _, _⟩) (v := ?v39) rfl (by kernel_rfl) (by kernel_rfl) (by kernel_rfl) (fun _ _ _ h => h) (Or.inl ⟨by rfl, ?hy39⟩) (by assumption) ?_
            case hy39 => (intro w hSw; (try dsimp only at hSw); go_simp; try (with_reducible rfl))
            (try simp only [Act.put, qa_, qb_, qc_])
            refine wpAnyH_take (i := 1) (oi := ⟨some 40, _, _, _, _, _⟩) (v := ?v40) rfl (by kernel_rfl) (by kernel_rfl) (by kernel_rfl) (fun _ _ _ h => h) (Or.inl ⟨by rfl, ?hy40⟩) (by assumption) ?_
            case hy40 => (intro w hSw; (try dsimp only at hSw); go_simp; try (with_reducible rfl))
            (try simp only [Act.put, qa_, qb_, qc_])
            refine wpAnyH_take (i := 2) (oi := ⟨some 41, _, _, _, _, _⟩) (v := ?v41) rfl (by kernel_rfl) (by kernel_rfl) (by kernel_rfl) (fun _ _ _ h => h) (Or.inl ⟨by rfl, ?hy41⟩) (by assumption) ?_
            case hy41 => (intro w hSw; (try dsimp only at hSw); go_simp; try (with_reducible rfl))
            (try simp only [Act.put, qa_, qb_, qc_])
            refine wpAnyH_take (i := 3) (oi := ⟨some 42, _, _, _, _, _⟩) (v := ?v42) rfl (by kernel_rfl) (by kernel_rfl) (by kernel_rfl) (fun _ _ _ h => h) (Or.inl ⟨by rfl, ?hy42⟩) (by assumption) ?_
            case hy42 => (intro w hSw; (try dsimp only at hSw); go_simp; try (with_reducible rfl))
            (try simp only [Act.put, qa_, qb_, qc_])
            refine wpAnyH_take (i := 4) (oi := ⟨some 43, _, _, _, _, _⟩) (v := ?v43) rfl (by kernel_rfl) (by kernel_rfl) (by kernel_rfl) (fun _ _ _ h => h) (Or.inl ⟨by rfl, ?hy43⟩) (by assumption) ?_
            case hy43 => (intro w hSw; (try dsimp only at hSw); go_simp; try (with_reducible rfl))
            (try simp only [Act.put, qa_, qb_, qc_])
            refine wpAnyH_take (i := 5) (oi := ⟨some 44, _, _, _, _, _⟩) (v := ?v44) rfl (by kernel_rfl) (by kernel_rfl) (by kernel_rfl) (fun _ _ _ h => h) (Or.inl ⟨by rfl, ?hy44⟩) (by assumption) ?_
            case hy44 => (intro w hSw; (try dsimp only at hSw); go_simp; try (with_reducible rfl))
            (try simp only [Act.put, qa_, qb_, qc_])
            refine wpAnyH_take (i := 6) (oi := ⟨some 45, _, _, _, _, _⟩) (v := ?v45) rfl (by kernel_rfl) (by kernel_rfl) (by kernel_rfl) (fun _ _ _ h => h) (Or.inl ⟨by rfl, ?hy45⟩) (by assumption) ?_
            case hy45 => (intro w hSw; (try dsimp only at hSw); go_simp; try (with_reducible rfl))
            (try simp only [Act.put, qa_, qb_, qc_])
            refine wpAnyH_take (i := 7) (oi := ⟨some 46, _, _, _, _, _⟩) (v := ?v46) rfl (by kernel_rfl) (by kernel_rfl) (by kernel_rfl) (fun _ _ _ h => h) (Or.inl ⟨by rfl, ?hy46⟩) (by assumption) ?_
            case hy46 => (intro w hSw; (try dsimp only at hSw); go_simp; try (with_reducible rfl))
            (try simp only [Act.put, qa_, qb_, qc_])
            refine wpAnyH_take (i := 8) (oi := ⟨some 47, _, _, _, _, _⟩) (v := ?v47) rfl (by kernel_rfl) (by kernel_rfl) (by kernel_rfl) (fun _ _ _ h => h) (Or.inl ⟨by rfl, ?hy47⟩) (by assumption) ?_
            case hy47 => (intro w hSw; (try dsimp only at hSw); go_simp; try (with_reducible rfl))
            (try simp only [Act.put, qa_, qb_, qc_])
            refine wpAnyH_take (i := 9) (oi := ⟨some 48, _, _, _, _, _⟩) (v := ?v48) rfl (by kernel_rfl) (by kernel_rfl) (by kernel_rfl) (fun _ _ _ h => h) (Or.inl ⟨by rfl, ?hy48⟩) (by assumption) ?_
            case hy48 => (intro w hSw; (try dsimp only at hSw); go_simp; try (with_reducible rfl))
            (try simp only [Act.put, qa_, qb_, qc_])
            refine wpAnyH_take (i := 10) (oi := ⟨some 49, _, _, _, _, _⟩) (v := ?v49) rfl (by kernel_rfl) (by kernel_rfl) (by kernel_rfl) (fun _ _ _ h => h) (Or.inl ⟨by rfl, ?hy49⟩) (by assumption) ?_
            case hy49 => (intro w hSw; (try dsimp only at hSw); go_simp; try (with_reducible rfl))
            (try simp only [Act.put, qa_, qb_, qc_])
            refine wpAnyH_take (i := 11) (oi := ⟨some 50, _, _, _, _, _⟩) (v := ?v50) rfl (by kernel_rfl) (by kernel_rfl) (by kernel_rfl) (fun _ _ _ h => h) (Or.inl ⟨by rfl, ?hy50⟩) (by assumption) ?_
            case hy50 => (intro w hSw; (try dsimp only at hSw); go_simp; try (with_reducible rfl))
            (try simp only [Act.put, qa_, qb_, qc_])
            refine wpAnyH_take (i := 12) (oi := ⟨some 51, _, _, _, _, _⟩) (v := ?v51) rfl (by kernel_rfl) (by kernel_rfl) (by kernel_rfl) (fun _ _ _ h => h) (Or.inl ⟨by rfl, ?hy51⟩) (by assumption) ?_
            case hy51 => (intro w hSw; (try dsimp only at hSw); go_simp; try (with_reducible rfl))
            (try simp only [Act.put, qa_, qb_, qc_])
            refine wpAnyH_done (by kernel_rfl) ?_ _
            obtain ⟨wd, hwd⟩ : ∃ wd, wr.drew.drew = wd := ⟨_, rfl⟩
            rw [hwd]
            have hBd : Below w.heap.size w wd := hwd ▸ bel_drew (bel_drew hB)
            have D0 := hwd ▸ Box.drew (Box.drew P0)
            have D1 := hwd ▸ Box.drew (Box.drew P1)
            have D2 := hwd ▸ Box.drew (Box.drew P2)
            have D3 := hwd ▸ Box.drew (Box.drew P3)
            have hGd : GrowR (tPcX kb) 37 wd (w.heap.size + 4) B0 v u := hwd ▸ GrowR.drew (GrowR.drew hG (by omega)) (by show _ ≤ wr.heap.size; omega)
            have zd := hBd.size
            have zd4 := D3.size
            have hOwn := hGd.own
            have d1 := D1.cell 0; have d11 := D1.cell 1; have d12 := D1.cell 2; have d13 := D1.cell 3; have d33 := D3.cell 3; have d3f := D3.frozen 3
            clear hwd
            go_wp2_with (at_builtin; refine GrowR.push (t := tPcX kb) (e := 37) (w := (wd.alloc (.cells #[.int .i64 y0, .int .i64 y1, .int .i64 x1, .slice A7 n7 c7] 37))) (base := w.heap.size + 4) (B := B0) (by rfl) (.tmp 53) (.tmp 55) _ (by rfl) i1 _ 4 48 Tryz.underlying51 hj0 hj1 hj2 hj3 tz (by omega) rfl (by rfl) (hGd.below (belx) (by omega)) wd.heap.size [.int .i64 y0, .int .i64 y1, .int .i64 x1, .slice A7 n7 c7] (y0, y1, x1, qd) (by rfl) (Box.new wd _ _) ((tPcX kb).keep hq (fun b hb => (show Below w.heap.size w (wd.alloc (.cells #[.int .i64 y0, .int .i64 y1, .int .i64 x1, .slice A7 n7 c7] 37)) from bel_alloc hBd _).block b (by omega))) (by intro u hu; simp only [List.mem_cons, List.not_mem_nil, or_false] at hu; rcases hu with rfl | rfl | rfl | rfl <;> rfl) (by omega) (by simp; omega) (by simp only [maxLen]; omega) (by omega) ?_; intro v2 w2 hG2 hgr2; obtain ⟨A8, n8, c8, rfl, -⟩ := hG2.shapeN; have hBf : Below w.heap.size w w2 := Below.grown (w := (wd.alloc (.cells #[.int .i64 y0, .int .i64 y1, .int .i64 x1, .slice A7 n7 c7] 37))) (bel_alloc hBd _) hgr2 (by simp; omega) (fun b hb => by have := (hOwn b hb).1; omega); have r0 := Box.grown (w := (wd.alloc (.cells #[.int .i64 y0, .int .i64 y1, .int .i64 x1, .slice A7 n7 c7] 37))) (D0.alloc _) hgr2 (fun e => by have := (hOwn _ e.symm).1; omega); have r1 := Box.grown (w := (wd.alloc (.cells #[.int .i64 y0, .int .i64 y1, .int .i64 x1, .slice A7 n7 c7] 37))) (D1.alloc _) hgr2 (fun e => by have := (hOwn _ e.symm).1; omega); have r2 := Box.grown (w := (wd.alloc (.cells #[.int .i64 y0, .int .i64 y1, .int .i64 x1, .slice A7 n7 c7] 37))) (D2.alloc _) hgr2 (fun e => by have := (hOwn _ e.symm).1; omega); have r3 := Box.grown (w := (wd.alloc (.cells #[.int .i64 y0, .int .i64 y1, .int .i64 x1, .slice A7 n7 c7] 37))) (D3.alloc _) hgr2 (fun e => by have := (hOwn _ e.symm).1; omega); have y3 := r3.cell 3; have yf := r3.frozen 3; have r10 := r1.cell 0)
            obtain ⟨wq, hwq⟩ : ∃ wq, (w2.setCell ⟨w.heap.size + 1 + 1 + 1, 3, none⟩ (.slice A8 n8 c8)) = wq := ⟨_, rfl⟩
            rw [hwq]
            have hBq : Below w.heap.size w wq := hwq ▸ bel_put hBf (p := ⟨w.heap.size + 1 + 1 + 1, 3, none⟩) (by show _ ≤ w.heap.size + 1 + 1 + 1; omega) _
            have P0q : Box wq w.heap.size 53 #[.int .i64 x0, .int .i64 x1, .int .i64 x2, .slice (some ⟨b', off, none⟩) n c] := hwq ▸ r0.far (p := ⟨w.heap.size + 1 + 1 + 1, 3, none⟩) (by show w.heap.size ≠ w.heap.size + 1 + 1 + 1; omega) _
            have P1q : Box wq (w.heap.size + 1) 37 #[.int .i64 y0, .int .i64 y1, .int .i64 x1, .slice A7 n7 c7] := hwq ▸ r1.far (p := ⟨w.heap.size + 1 + 1 + 1, 3, none⟩) (by show w.heap.size + 1 ≠ w.heap.size + 1 + 1 + 1; omega) _
            have P2q : Box wq (w.heap.size + 1 + 1) 53 #[.int .i64 0, .int .i64 0, .int .i64 0, .slice none 0 0] := hwq ▸ r2.far (p := ⟨w.heap.size + 1 + 1 + 1, 3, none⟩) (by show w.heap.size + 1 + 1 ≠ w.heap.size + 1 + 1 + 1; omega) _
            have P3q : Box wq (w.heap.size + 1 + 1 + 1) 53 #[.int .i64 x0, .int .i64 x1, .int .i64 x2, (.slice A8 n8 c8)] := hwq ▸ r3.put 3 (.slice A8 n8 c8)
            have hGq : GrowR (tPcX kb) 37 wq (w.heap.size + 4) B0 (.slice A8 n8 c8) (u ++ [(y0, y1, x1, qd)]) := hwq ▸ hG2.put (p := ⟨w.heap.size + 1 + 1 + 1, 3, none⟩) (by show w.heap.size + 1 + 1 + 1 < _; omega) (by show _ ≤ w.heap.size + 1 + 1 + 1; omega) _
            have k3q := P0q.cell 3
            have e0q : wq.cell? ⟨b', off + j * 4, none⟩ = some (.int .i64 a0) := cell_at hBq hb HE0.out
            have e1q : wq.cell? ⟨b', off + j * 4 + 1, none⟩ = some (.int .i64 a1) := cell_at hBq hb HE1.out
            have e2q : wq.cell? ⟨b', off + j * 4 + 2, none⟩ = some (.int .i64 a2) := cell_at hBq hb HE2.out
            have e3q : wq.cell? ⟨b', off + j * 4 + 3, none⟩ = some (.slice A3 n3 c3) := cell_at hBq hb HE3.out
            have zq := hBq.size
            have zq4 := P3q.size
            have z9q := P3q.cell 3
            clear hwq hOwn
            clear hG P0 P1 P2 P3 hB k3 e0 e1 e2 e3 q1 D0 D1 D2 D3 hGd hBd d1 d11 d12 d13 d33 d3f r0 r1 r2 r3 y3 yf
            go_wp2_with fail
            have jk : (wq.alloc (.cells [.int .i64 a0, .int .i64 a1, .int .i64 a2, .slice A3 n3 c3].toArray 37)).cell? ⟨w.heap.size, 3, none⟩ = some (.slice (some ⟨b', off, none⟩) n c) := (P0q.alloc _).cell 3
            have j0 : (wq.alloc (.cells [.int .i64 a0, .int .i64 a1, .int .i64 a2, .slice A3 n3 c3].toArray 37)).cell? ⟨b', off + j * 4, none⟩ = some (.int .i64 a0) := cell_bel (w' := (wq.alloc (.cells [.int .i64 a0, .int .i64 a1, .int .i64 a2, .slice A3 n3 c3].toArray 37))) (belx) e0q
            have j1 : (wq.alloc (.cells [.int .i64 a0, .int .i64 a1, .int .i64 a2, .slice A3 n3 c3].toArray 37)).cell? ⟨b', off + j * 4 + 1, none⟩ = some (.int .i64 a1) := cell_bel (w' := (wq.alloc (.cells [.int .i64 a0, .int .i64 a1, .int .i64 a2, .slice A3 n3 c3].toArray 37))) (belx) e1q
            have j2 : (wq.alloc (.cells [.int .i64 a0, .int .i64 a1, .int .i64 a2, .slice A3 n3 c3].toArray 37)).cell? ⟨b', off + j * 4 + 2, none⟩ = some (.int .i64 a2) := cell_bel (w' := (wq.alloc (.cells [.int .i64 a0, .int .i64 a1, .int .i64 a2, .slice A3 n3 c3].toArray 37))) (belx) e2q
            have j3 : (wq.alloc (.cells [.int .i64 a0, .int .i64 a1, .int .i64 a2, .slice A3 n3 c3].toArray 37)).cell? ⟨b', off + j * 4 + 3, none⟩ = some (.slice A3 n3 c3) := cell_bel (w' := (wq.alloc (.cells [.int .i64 a0, .int .i64 a1, .int .i64 a2, .slice A3 n3 c3].toArray 37))) (belx) e3q
            have z8 : (wq.alloc (.cells [.int .i64 a0, .int .i64 a1, .int .i64 a2, .slice A3 n3 c3].toArray 37)).cell? ⟨w.heap.size + 1 + 1 + 1, 3, none⟩ = some (.slice A8 n8 c8) := (P3q.alloc _).cell 3
            have z8b : (wq.alloc (.cells #[.int .i64 a0, .int .i64 a1, .int .i64 a2, .slice A3 n3 c3] 37)).cell? ⟨w.heap.size + 1 + 1 + 1, 3, none⟩ = some (.slice A8 n8 c8) := (P3q.alloc _).cell 3
            have hOwn := hGq.own
            refine wp_region_held_drew (S := (fun w' => w'.cell? ⟨w.heap.size, 3, none⟩ = some (.slice (some ⟨b', off, none⟩) n c) ∧ w'.cell? ⟨b', off + j * 4, none⟩ = some (.int .i64 a0) ∧ w'.cell? ⟨b', off + j * 4 + 1, none⟩ = some (.int .i64 a1) ∧ w'.cell? ⟨b', off + j * 4 + 2, none⟩ = some (.int .i64 a2) ∧ w'.cell? ⟨b', off + j * 4 + 3, none⟩ = some (.slice A3 n3 c3))) (by kernel_rfl) (by first | exact ⟨k3q, e0q, e1q, e2q, e3q⟩ | go_keep) (fun hHeld => ?_)
            refine wpAnyH_take (i := 0) (oi := ⟨some 58, _, _, _, _, _⟩) (v := ?v31) rfl (by kernel_rfl) (by kernel_rfl) (by kernel_rfl) (fun _ _ _ h => h) (Or.inl ⟨by rfl, ?hy31⟩) (by assumption) ?_
            case hy31 => (intro w hSw; (try dsimp only at hSw); go_simp; try (with_reducible rfl))
            (try simp only [Act.put, qa_, qb_, qc_])
            refine wpAnyH_take (i := 2) (oi := ⟨some 60, _, _, _, _, _⟩) (v := ?v32) rfl (by kernel_rfl) (by kernel_rfl) (by kernel_rfl) (fun _ _ _ h => h) (Or.inl ⟨by rfl, ?hy32⟩) (by assumption) ?_
            case hy32 => (intro w hSw; (try dsimp only at hSw); go_simp; try (with_reducible rfl))
            (try simp only [Act.put, qa_, qb_, qc_])
            refine wpAnyH_take (i := 3) (oi := ⟨some 61, _, _, _, _, _⟩) (v := ?v33) rfl (by kernel_rfl) (by kernel_rfl) (by kernel_rfl) (fun _ _ _ h => h) (Or.inl ⟨by rfl, ?hy33⟩) (by assumption) ?_
            case hy33 => (intro w hSw; (try dsimp only at hSw); go_simp; try (with_reducible rfl))
            (try simp only [Act.put, qa_, qb_, qc_])
            refine wpAnyH_take (i := 4) (oi := ⟨some 62, _, _, _, _, _⟩) (v := ?v34) rfl (by kernel_rfl) (by kernel_rfl) (by kernel_rfl) (fun _ _ _ h => h) (Or.inl ⟨by rfl, ?hy34⟩) (by assumption) ?_
            case hy34 => (intro w hSw; (try dsimp only at hSw); go_simp; try (with_reducible rfl))
            (try simp only [Act.put, qa_, qb_, qc_])
            refine wpAnyH_take (i := 5) (oi := ⟨some 63, _, _, _, _, _⟩) (v := ?v35) rfl (by kernel_rfl) (by kernel_rfl) (by kernel_rfl) (fun _ _ _ h => h) (Or.inl ⟨by rfl, ?hy35⟩) (by assumption) ?_
            case hy35 => (intro w hSw; (try dsimp only at hSw); go_simp; try (with_reducible rfl))
            (try simp only [Act.put, qa_, qb_, qc_])
            refine wpAnyH_take (i := 6) (oi := ⟨some 64, _, _, _, _, _⟩) (v := ?v36) rfl (by kernel_rfl) (by kernel_rfl) (by kernel_rfl) (fun _ _ _ h => h) (Or.inl ⟨by rfl, ?hy36⟩) (by assumption) ?_
            case hy36 => (intro w hSw; (try dsimp only at hSw); go_simp; try (with_reducible rfl))
            (try simp only [Act.put, qa_, qb_, qc_])
            refine wpAnyH_ready (rs := [1, 7]) (by kernel_rfl) (by simp) ?_
            refine AllReadyH.cons rfl (fun K hK => ?_) ?_
            · go_simp
              refine hK.out _ _ (by first | exact ⟨k3q, e0q, e1q, e2q, e3q⟩ | go_keep) (fun hHeld => ?_)
              clear hK K
              (try simp only [Act.put, qa_, qb_, qc_])
              refine wpAnyH_ready (rs := [7]) (by kernel_rfl) (by simp) ?_
              refine AllReadyH.cons rfl (fun K hK => ?_) ?_
              · go_simp
                refine hK.out _ _ (by first | exact ⟨jk, j0, j1, j2, j3⟩ | go_keep) (fun hHeld => ?_)
                clear hK K
                (try simp only [Act.put, qa_, qb_, qc_])
                refine wpAnyH_ready (rs := [8]) (by kernel_rfl) (by simp) ?_
                refine AllReadyH.cons rfl (fun K hK => ?_) ?_
                · refine GrowR.step (t := tPcX kb) (e := 37) (w := (wq.alloc (.cells [.int .i64 a0, .int .i64 a1, .int .i64 a2, .slice A3 n3 c3].toArray 37)).drew) (base := w.heap.size + 4) (B := B0) (by rfl) (.tmp 59) (.tmp 65) _ (by rfl) i1 _ 4 48 Tryz.underlying51 hj0 hj1 hj2 hj3 tz (by omega) rfl (by rfl) (GrowR.drew (hGq.below (belx) (by omega)) (by simp; omega)) wq.heap.size [.int .i64 a0, .int .i64 a1, .int .i64 a2, .slice A3 n3 c3] (a0, a1, a2, ad) (by rfl) (Box.drew (Box.new wq _ _)) ((tPcX kb).keep hR (fun b hb => (show Below w.heap.size w ((wq.alloc (.cells [.int .i64 a0, .int .i64 a1, .int .i64 a2, .slice A3 n3 c3].toArray 37)).drew) from bel_drew (bel_alloc hBq _)).block b (by omega))) (by intro u hu; simp only [List.mem_cons, List.not_mem_nil, or_false] at hu; rcases hu with rfl | rfl | rfl | rfl <;> rfl) (by omega) (by show _ ≤ (World.alloc _ _).heap.size; simp; omega) (by simp only [maxLen]; omega) (by omega) ?_
                  intro v2 w2 hG2 hgr2
                  obtain ⟨A9, n9, c9, rfl, -⟩ := hG2.shapeN
                  have hBf : Below w.heap.size w w2 := Below.grown (w := (wq.alloc (.cells [.int .i64 a0, .int .i64 a1, .int .i64 a2, .slice A3 n3 c3].toArray 37)).drew) (bel_drew (bel_alloc hBq _)) hgr2 (by show _ ≤ (World.alloc _ _).heap.size; simp; omega) (fun b hb => by have := (hOwn b hb).1; omega)
                  have f2 : Box w2 w.heap.size 53 _ := Box.grown (Box.drew (P0q.alloc _)) hgr2 (fun e => by have := (hOwn _ e.symm).1; omega)
                  have g2 : Box w2 (w.heap.size + 1) 37 _ := Box.grown (Box.drew (P1q.alloc _)) hgr2 (fun e => by have := (hOwn _ e.symm).1; omega)
                  have h2 : Box w2 (w.heap.size + 1 + 1) 53 _ := Box.grown (Box.drew (P2q.alloc _)) hgr2 (fun e => by have := (hOwn _ e.symm).1; omega)
                  have m2 : Box w2 (w.heap.size + 1 + 1 + 1) 53 _ := Box.grown (Box.drew (P3q.alloc _)) hgr2 (fun e => by have := (hOwn _ e.symm).1; omega)
                  have y3 := m2.cell 3
                  have yf := m2.frozen 3
                  have zz2 : wq.heap.size + 1 ≤ w2.heap.size := by have h := hgr2.size; simpa using h
                  have hBs := bel_put hBf (p := ⟨w.heap.size + 1 + 1 + 1, 3, none⟩) (by show _ ≤ w.heap.size + 1 + 1 + 1; omega) (.slice A9 n9 c9)
                  have f9 := f2.far (p := ⟨w.heap.size + 1 + 1 + 1, 3, none⟩) (by show w.heap.size ≠ w.heap.size + 1 + 1 + 1; omega) (.slice A9 n9 c9)
                  have g9 := g2.far (p := ⟨w.heap.size + 1 + 1 + 1, 3, none⟩) (by show w.heap.size + 1 ≠ w.heap.size + 1 + 1 + 1; omega) (.slice A9 n9 c9)
                  have h9 := h2.far (p := ⟨w.heap.size + 1 + 1 + 1, 3, none⟩) (by show w.heap.size + 1 + 1 ≠ w.heap.size + 1 + 1 + 1; omega) (.slice A9 n9 c9)
                  have m9 := m2.put 3 (.slice A9 n9 c9)
                  have G9 := hG2.put (p := ⟨w.heap.size + 1 + 1 + 1, 3, none⟩) (by show w.heap.size + 1 + 1 + 1 < _; omega) (by show _ ≤ w.heap.size + 1 + 1 + 1; omega) (.slice A9 n9 c9)
                  refine hK.out _ _ (by exact ⟨f2.cell 3, cell_at hBf hb HE0.out, cell_at hBf hb HE1.out, cell_at hBf hb HE2.out, cell_at hBf hb HE3.out⟩) (fun hHeld => ?_)
                  clear hK K
                  (try simp only [Act.put, qa_, qb_, qc_])
                  refine wpAnyH_take (i := 9) (oi := ⟨some 67, _, _, _, _, _⟩) (v := ?v37) rfl (by kernel_rfl) (by kernel_rfl) (by kernel_rfl) (fun _ _ _ h => h) (Or.inl ⟨by rfl, ?hy37⟩) (by assumption) ?_
                  case hy37 => (intro w hSw; (try dsimp only at hSw); go_simp; try (with_reducible rfl))
                  (try simp only [Act.put, qa_, qb_, qc_])
                  refine wpAnyH_ready (rs := [10]) (by kernel_rfl) (by simp) ?_
                  refine AllReadyH.cons rfl (fun K hK => ?_) ?_
                  · go_simp
                    refine hK.out _ _ (by exact ⟨f9.cell 3, cell_at hBs hb HE0.out, cell_at hBs hb HE1.out, cell_at hBs hb HE2.out, cell_at hBs hb HE3.out⟩) (fun hHeld => ?_)
                    clear hK K
                    (try simp only [Act.put, qa_, qb_, qc_])
                    refine wpAnyH_done (by kernel_rfl) ?_ _
                    go_wp2
                    go_roundw
                    case rel => exact ⟨j + 1, .slice A9 n9 c9, _, by omega, by go_num, hBs, by simp [World.setCell]; omega, f9, g9, h9, m9, G9, by rw [List.length_append, List.length_singleton]; omega, HNX.out, .inr ⟨rfl, HC1.out, HC2.out⟩⟩
                    case measure => simp [ixOf]; omega
                  exact AllReadyH.nil
                exact AllReadyH.nil
              exact AllReadyH.nil
            refine AllReadyH.cons rfl (fun K hK => ?_) ?_
            · go_simp
              refine hK.out _ _ (by first | exact ⟨jk, j0, j1, j2, j3⟩ | go_keep) (fun hHeld => ?_)
              clear hK K
              (try simp only [Act.put, qa_, qb_, qc_])
              refine wpAnyH_ready (rs := [1]) (by kernel_rfl) (by simp) ?_
              refine AllReadyH.cons rfl (fun K hK => ?_) ?_
              · go_simp
                refine hK.out _ _ (by first | exact ⟨jk, j0, j1, j2, j3⟩ | go_keep) (fun hHeld => ?_)
                clear hK K
                (try simp only [Act.put, qa_, qb_, qc_])
                refine wpAnyH_ready (rs := [8]) (by kernel_rfl) (by simp) ?_
                refine AllReadyH.cons rfl (fun K hK => ?_) ?_
                · refine GrowR.step (t := tPcX kb) (e := 37) (w := (wq.alloc (.cells [.int .i64 a0, .int .i64 a1, .int .i64 a2, .slice A3 n3 c3].toArray 37)).drew) (base := w.heap.size + 4) (B := B0) (by rfl) (.tmp 59) (.tmp 65) _ (by rfl) i1 _ 4 48 Tryz.underlying51 hj0 hj1 hj2 hj3 tz (by omega) rfl (by rfl) (GrowR.drew (hGq.below (belx) (by omega)) (by simp; omega)) wq.heap.size [.int .i64 a0, .int .i64 a1, .int .i64 a2, .slice A3 n3 c3] (a0, a1, a2, ad) (by rfl) (Box.drew (Box.new wq _ _)) ((tPcX kb).keep hR (fun b hb => (show Below w.heap.size w ((wq.alloc (.cells [.int .i64 a0, .int .i64 a1, .int .i64 a2, .slice A3 n3 c3].toArray 37)).drew) from bel_drew (bel_alloc hBq _)).block b (by omega))) (by intro u hu; simp only [List.mem_cons, List.not_mem_nil, or_false] at hu; rcases hu with rfl | rfl | rfl | rfl <;> rfl) (by omega) (by show _ ≤ (World.alloc _ _).heap.size; simp; omega) (by simp only [maxLen]; omega) (by omega) ?_
                  intro v2 w2 hG2 hgr2
                  obtain ⟨A9, n9, c9, rfl, -⟩ := hG2.shapeN
                  have hBf : Below w.heap.size w w2 := Below.grown (w := (wq.alloc (.cells [.int .i64 a0, .int .i64 a1, .int .i64 a2, .slice A3 n3 c3].toArray 37)).drew) (bel_drew (bel_alloc hBq _)) hgr2 (by show _ ≤ (World.alloc _ _).heap.size; simp; omega) (fun b hb => by have := (hOwn b hb).1; omega)
                  have f2 : Box w2 w.heap.size 53 _ := Box.grown (Box.drew (P0q.alloc _)) hgr2 (fun e => by have := (hOwn _ e.symm).1; omega)
                  have g2 : Box w2 (w.heap.size + 1) 37 _ := Box.grown (Box.drew (P1q.alloc _)) hgr2 (fun e => by have := (hOwn _ e.symm).1; omega)
                  have h2 : Box w2 (w.heap.size + 1 + 1) 53 _ := Box.grown (Box.drew (P2q.alloc _)) hgr2 (fun e => by have := (hOwn _ e.symm).1; omega)
                  have m2 : Box w2 (w.heap.size + 1 + 1 + 1) 53 _ := Box.grown (Box.drew (P3q.alloc _)) hgr2 (fun e => by have := (hOwn _ e.symm).1; omega)
                  have y3 := m2.cell 3
                  have yf := m2.frozen 3
                  have zz2 : wq.heap.size + 1 ≤ w2.heap.size := by have h := hgr2.size; simpa using h
                  have hBs := bel_put hBf (p := ⟨w.heap.size + 1 + 1 + 1, 3, none⟩) (by show _ ≤ w.heap.size + 1 + 1 + 1; omega) (.slice A9 n9 c9)
                  have f9 := f2.far (p := ⟨w.heap.size + 1 + 1 + 1, 3, none⟩) (by show w.heap.size ≠ w.heap.size + 1 + 1 + 1; omega) (.slice A9 n9 c9)
                  have g9 := g2.far (p := ⟨w.heap.size + 1 + 1 + 1, 3, none⟩) (by show w.heap.size + 1 ≠ w.heap.size + 1 + 1 + 1; omega) (.slice A9 n9 c9)
                  have h9 := h2.far (p := ⟨w.heap.size + 1 + 1 + 1, 3, none⟩) (by show w.heap.size + 1 + 1 ≠ w.heap.size + 1 + 1 + 1; omega) (.slice A9 n9 c9)
                  have m9 := m2.put 3 (.slice A9 n9 c9)
                  have G9 := hG2.put (p := ⟨w.heap.size + 1 + 1 + 1, 3, none⟩) (by show w.heap.size + 1 + 1 + 1 < _; omega) (by show _ ≤ w.heap.size + 1 + 1 + 1; omega) (.slice A9 n9 c9)
                  refine hK.out _ _ (by exact ⟨f2.cell 3, cell_at hBf hb HE0.out, cell_at hBf hb HE1.out, cell_at hBf hb HE2.out, cell_at hBf hb HE3.out⟩) (fun hHeld => ?_)
                  clear hK K
                  (try simp only [Act.put, qa_, qb_, qc_])
                  refine wpAnyH_take (i := 9) (oi := ⟨some 67, _, _, _, _, _⟩) (v := ?v38) rfl (by kernel_rfl) (by kernel_rfl) (by kernel_rfl) (fun _ _ _ h => h) (Or.inl ⟨by rfl, ?hy38⟩) (by assumption) ?_
                  case hy38 => (intro w hSw; (try dsimp only at hSw); go_simp; try (with_reducible rfl))
                  (try simp only [Act.put, qa_, qb_, qc_])
                  refine wpAnyH_ready (rs := [10]) (by kernel_rfl) (by simp) ?_
                  refine AllReadyH.cons rfl (fun K hK => ?_) ?_
                  · go_simp
                    refine hK.out _ _ (by exact ⟨f9.cell 3, cell_at hBs hb HE0.out, cell_at hBs hb HE1.out, cell_at hBs hb HE2.out, cell_at hBs hb HE3.out⟩) (fun hHeld => ?_)
                    clear hK K
                    (try simp only [Act.put, qa_, qb_, qc_])
                    refine wpAnyH_done (by kernel_rfl) ?_ _
                    go_wp2
                    go_roundw
                    case rel => exact ⟨j + 1, .slice A9 n9 c9, _, by omega, by go_num, hBs, by simp [World.setCell]; omega, f9, g9, h9, m9, G9, by rw [List.length_append, List.length_singleton]; omega, HNX.out, .inr ⟨rfl, HC1.out, HC2.out⟩⟩
                    case measure => simp [ixOf]; omega
                  exact AllReadyH.nil
                exact AllReadyH.nil
              exact AllReadyH.nil
            exact AllReadyH.nil
          · have HNN := Lib.hid hno
            have HNX := Lib.hid (show ∀ p ∈ g.take (j + 1), p.2.1 ≠ y1 from fun p hp => by rw [HT.out] at hp; rcases List.mem_append.1 hp with h' | h'; exact HNE.out p h'; rw [List.mem_singleton.1 h']; exact HE.out)
            have HC1 := Lib.hid (show u ++ [(a0, a1, a2, ad)] = g.take (j + 1) from by rw [hu, HT.out])
            have HC2 := Lib.hid (show ∀ p ∈ g.take (j + 1), pAt p < y1 from fun p hp => by rw [HT.out] at hp; rcases List.mem_append.1 hp with h' | h'; exact hno p h'; rw [List.mem_singleton.1 h']; show a1 < y1; have := HE.out; omega)
            clear hno hu hne
            have dg : decide (y1 < a1) = false := decide_eq_false hgt
            go_wp2_with fail
            refine wp_region_held_drew (S := (fun w' => w'.cell? ⟨w.heap.size, 3, none⟩ = some (.slice (some ⟨b', off, none⟩) n c) ∧ w'.cell? ⟨b', off + j * 4 + 1, none⟩ = some (.int .i64 a1) ∧ w'.cell? ⟨w.heap.size + 1, 1, none⟩ = some (.int .i64 y1))) (by kernel_rfl) (by exact ⟨k3, e1, q1⟩) (fun hHeld => ?_)
            refine wpAnyH_take (i := 0) (oi := ⟨some 39, _, _, _, _, _⟩) (v := ?v18) rfl (by kernel_rfl) (by kernel_rfl) (by kernel_rfl) (fun _ _ _ h => h) (Or.inl ⟨by rfl, ?hy18⟩) (by assumption) ?_
            case hy18 => (intro w hSw; (try dsimp only at hSw); go_simp; try (with_reducible rfl))
            (try simp only [Act.put, qa_, qb_, qc_])
            refine wpAnyH_take (i := 1) (oi := ⟨some 40, _, _, _, _, _⟩) (v := ?v19) rfl (by kernel_rfl) (by kernel_rfl) (by kernel_rfl) (fun _ _ _ h => h) (Or.inl ⟨by rfl, ?hy19⟩) (by assumption) ?_
            case hy19 => (intro w hSw; (try dsimp only at hSw); go_simp; try (with_reducible rfl))
            (try simp only [Act.put, qa_, qb_, qc_])
            refine wpAnyH_take (i := 2) (oi := ⟨some 41, _, _, _, _, _⟩) (v := ?v20) rfl (by kernel_rfl) (by kernel_rfl) (by kernel_rfl) (fun _ _ _ h => h) (Or.inl ⟨by rfl, ?hy20⟩) (by assumption) ?_
            case hy20 => (intro w hSw; (try dsimp only at hSw); go_simp; try (with_reducible rfl))
            (try simp only [Act.put, qa_, qb_, qc_])
            refine wpAnyH_take (i := 3) (oi := ⟨some 42, _, _, _, _, _⟩) (v := ?v21) rfl (by kernel_rfl) (by kernel_rfl) (by kernel_rfl) (fun _ _ _ h => h) (Or.inl ⟨by rfl, ?hy21⟩) (by assumption) ?_
            case hy21 => (intro w hSw; (try dsimp only at hSw); go_simp; try (with_reducible rfl))
            (try simp only [Act.put, qa_, qb_, qc_])
            refine wpAnyH_take (i := 4) (oi := ⟨some 43, _, _, _, _, _⟩) (v := ?v22) rfl (by kernel_rfl) (by kernel_rfl) (by kernel_rfl) (fun _ _ _ h => h) (Or.inl ⟨by rfl, ?hy22⟩) (by assumption) ?_
            case hy22 => (intro w hSw; (try dsimp only at hSw); go_simp; try (with_reducible rfl))
            (try simp only [Act.put, qa_, qb_, qc_])
            refine wpAnyH_take (i := 5) (oi := ⟨some 44, _, _, _, _, _⟩) (v := ?v23) rfl (by kernel_rfl) (by kernel_rfl) (by kernel_rfl) (fun _ _ _ h => h) (Or.inl ⟨by rfl, ?hy23⟩) (by assumption) ?_
            case hy23 => (intro w hSw; (try dsimp only at hSw); go_simp; try (with_reducible rfl))
            (try simp only [Act.put, qa_, qb_, qc_])
            refine wpAnyH_take (i := 6) (oi := ⟨some 45, _, _, _, _, _⟩) (v := ?v24) rfl (by kernel_rfl) (by kernel_rfl) (by kernel_rfl) (fun _ _ _ h => h) (Or.inl ⟨by rfl, ?hy24⟩) (by assumption) ?_
            case hy24 => (intro w hSw; (try dsimp only at hSw); go_simp; try (with_reducible rfl))
            (try simp only [Act.put, qa_, qb_, qc_])
            refine wpAnyH_take (i := 7) (oi := ⟨some 46, _, _, _, _, _⟩) (v := ?v25) rfl (by kernel_rfl) (by kernel_rfl) (by kernel_rfl) (fun _ _ _ h => h) (Or.inl ⟨by rfl, ?hy25⟩) (by assumption) ?_
            case hy25 => (intro w hSw; (try dsimp only at hSw); go_simp; try (with_reducible rfl))
            (try simp only [Act.put, qa_, qb_, qc_])
            refine wpAnyH_take (i := 8) (oi := ⟨some 47, _, _, _, _, _⟩) (v := ?v26) rfl (by kernel_rfl) (by kernel_rfl) (by kernel_rfl) (fun _ _ _ h => h) (Or.inl ⟨by rfl, ?hy26⟩) (by assumption) ?_
            case hy26 => (intro w hSw; (try dsimp only at hSw); go_simp; try (with_reducible rfl))
            (try simp only [Act.put, qa_, qb_, qc_])
            refine wpAnyH_take (i := 9) (oi := ⟨some 48, _, _, _, _, _⟩) (v := ?v27) rfl (by kernel_rfl) (by kernel_rfl) (by kernel_rfl) (fun _ _ _ h => h) (Or.inl ⟨by rfl, ?hy27⟩) (by assumption) ?_
            case hy27 => (intro w hSw; (try dsimp only at hSw); go_simp; try (with_reducible rfl))
            (try simp only [Act.put, qa_, qb_, qc_])
            refine wpAnyH_take (i := 10) (oi := ⟨some 49, _, _, _, _, _⟩) (v := ?v28) rfl (by kernel_rfl) (by kernel_rfl) (by kernel_rfl) (fun _ _ _ h => h) (Or.inl ⟨by rfl, ?hy28⟩) (by assumption) ?_
            case hy28 => (intro w hSw; (try dsimp only at hSw); go_simp; try (with_reducible rfl))
            (try simp only [Act.put, qa_, qb_, qc_])
            refine wpAnyH_take (i := 11) (oi := ⟨some 50, _, _, _, _, _⟩) (v := ?v29) rfl (by kernel_rfl) (by kernel_rfl) (by kernel_rfl) (fun _ _ _ h => h) (Or.inl ⟨by rfl, ?hy29⟩) (by assumption) ?_
            case hy29 => (intro w hSw; (try dsimp only at hSw); go_simp; try (with_reducible rfl))
            (try simp only [Act.put, qa_, qb_, qc_])
            refine wpAnyH_take (i := 12) (oi := ⟨some 51, _, _, _, _, _⟩) (v := ?v30) rfl (by kernel_rfl) (by kernel_rfl) (by kernel_rfl) (fun _ _ _ h => h) (Or.inl ⟨by rfl, ?hy30⟩) (by assumption) ?_
            case hy30 => (intro w hSw; (try dsimp only at hSw); go_simp; try (with_reducible rfl))
            (try simp only [Act.put, qa_, qb_, qc_])
            refine wpAnyH_done (by kernel_rfl) ?_ _
            obtain ⟨wq, hwd⟩ : ∃ wq, wr.drew.drew = wq := ⟨_, rfl⟩
            rw [hwd]
            have hBq : Below w.heap.size w wq := hwd ▸ bel_drew (bel_drew hB)
            have P0q : Box wq w.heap.size 53 #[.int .i64 x0, .int .i64 x1, .int .i64 x2, .slice (some ⟨b', off, none⟩) n c] := hwd ▸ Box.drew (Box.drew P0)
            have P1q : Box wq (w.heap.size + 1) 37 #[.int .i64 y0, .int .i64 y1, .int .i64 x1, .slice A7 n7 c7] := hwd ▸ Box.drew (Box.drew P1)
            have P2q : Box wq (w.heap.size + 1 + 1) 53 #[.int .i64 0, .int .i64 0, .int .i64 0, .slice none 0 0] := hwd ▸ Box.drew (Box.drew P2)
            have P3q : Box wq (w.heap.size + 1 + 1 + 1) 53 #[.int .i64 x0, .int .i64 x1, .int .i64 x2, v] := hwd ▸ Box.drew (Box.drew P3)
            have hGq : GrowR (tPcX kb) 37 wq (w.heap.size + 4) B0 v (u) := hwd ▸ GrowR.drew (GrowR.drew hG (by omega)) (by show _ ≤ wr.heap.size; omega)
            have k3q := P0q.cell 3
            have e0q : wq.cell? ⟨b', off + j * 4, none⟩ = some (.int .i64 a0) := cell_at hBq hb HE0.out
            have e1q : wq.cell? ⟨b', off + j * 4 + 1, none⟩ = some (.int .i64 a1) := cell_at hBq hb HE1.out
            have e2q : wq.cell? ⟨b', off + j * 4 + 2, none⟩ = some (.int .i64 a2) := cell_at hBq hb HE2.out
            have e3q : wq.cell? ⟨b', off + j * 4 + 3, none⟩ = some (.slice A3 n3 c3) := cell_at hBq hb HE3.out
            have zq := hBq.size
            have zq4 := P3q.size
            have z9q := P3q.cell 3
            clear hwd
            clear hG P0 P1 P2 P3 hB k3 e0 e1 e2 e3 q1
            go_wp2_with fail
            have jk : (wq.alloc (.cells [.int .i64 a0, .int .i64 a1, .int .i64 a2, .slice A3 n3 c3].toArray 37)).cell? ⟨w.heap.size, 3, none⟩ = some (.slice (some ⟨b', off, none⟩) n c) := (P0q.alloc _).cell 3
            have j0 : (wq.alloc (.cells [.int .i64 a0, .int .i64 a1, .int .i64 a2, .slice A3 n3 c3].toArray 37)).cell? ⟨b', off + j * 4, none⟩ = some (.int .i64 a0) := cell_bel (w' := (wq.alloc (.cells [.int .i64 a0, .int .i64 a1, .int .i64 a2, .slice A3 n3 c3].toArray 37))) (belx) e0q
            have j1 : (wq.alloc (.cells [.int .i64 a0, .int .i64 a1, .int .i64 a2, .slice A3 n3 c3].toArray 37)).cell? ⟨b', off + j * 4 + 1, none⟩ = some (.int .i64 a1) := cell_bel (w' := (wq.alloc (.cells [.int .i64 a0, .int .i64 a1, .int .i64 a2, .slice A3 n3 c3].toArray 37))) (belx) e1q
            have j2 : (wq.alloc (.cells [.int .i64 a0, .int .i64 a1, .int .i64 a2, .slice A3 n3 c3].toArray 37)).cell? ⟨b', off + j * 4 + 2, none⟩ = some (.int .i64 a2) := cell_bel (w' := (wq.alloc (.cells [.int .i64 a0, .int .i64 a1, .int .i64 a2, .slice A3 n3 c3].toArray 37))) (belx) e2q
            have j3 : (wq.alloc (.cells [.int .i64 a0, .int .i64 a1, .int .i64 a2, .slice A3 n3 c3].toArray 37)).cell? ⟨b', off + j * 4 + 3, none⟩ = some (.slice A3 n3 c3) := cell_bel (w' := (wq.alloc (.cells [.int .i64 a0, .int .i64 a1, .int .i64 a2, .slice A3 n3 c3].toArray 37))) (belx) e3q
            have z8 : (wq.alloc (.cells [.int .i64 a0, .int .i64 a1, .int .i64 a2, .slice A3 n3 c3].toArray 37)).cell? ⟨w.heap.size + 1 + 1 + 1, 3, none⟩ = some (v) := (P3q.alloc _).cell 3
            have z8b : (wq.alloc (.cells #[.int .i64 a0, .int .i64 a1, .int .i64 a2, .slice A3 n3 c3] 37)).cell? ⟨w.heap.size + 1 + 1 + 1, 3, none⟩ = some (v) := (P3q.alloc _).cell 3
            have hOwn := hGq.own
            refine wp_region_held_drew (S := (fun w' => w'.cell? ⟨w.heap.size, 3, none⟩ = some (.slice (some ⟨b', off, none⟩) n c) ∧ w'.cell? ⟨b', off + j * 4, none⟩ = some (.int .i64 a0) ∧ w'.cell? ⟨b', off + j * 4 + 1, none⟩ = some (.int .i64 a1) ∧ w'.cell? ⟨b', off + j * 4 + 2, none⟩ = some (.int .i64 a2) ∧ w'.cell? ⟨b', off + j * 4 + 3, none⟩ = some (.slice A3 n3 c3))) (by kernel_rfl) (by first | exact ⟨k3q, e0q, e1q, e2q, e3q⟩ | go_keep) (fun hHeld => ?_)
            refine wpAnyH_take (i := 0) (oi := ⟨some 58, _, _, _, _, _⟩) (v := ?v10) rfl (by kernel_rfl) (by kernel_rfl) (by kernel_rfl) (fun _ _ _ h => h) (Or.inl ⟨by rfl, ?hy10⟩) (by assumption) ?_
            case hy10 => (intro w hSw; (try dsimp only at hSw); go_simp; try (with_reducible rfl))
            (try simp only [Act.put, qa_, qb_, qc_])
            refine wpAnyH_take (i := 2) (oi := ⟨some 60, _, _, _, _, _⟩) (v := ?v11) rfl (by kernel_rfl) (by kernel_rfl) (by kernel_rfl) (fun _ _ _ h => h) (Or.inl ⟨by rfl, ?hy11⟩) (by assumption) ?_
            case hy11 => (intro w hSw; (try dsimp only at hSw); go_simp; try (with_reducible rfl))
            (try simp only [Act.put, qa_, qb_, qc_])
            refine wpAnyH_take (i := 3) (oi := ⟨some 61, _, _, _, _, _⟩) (v := ?v12) rfl (by kernel_rfl) (by kernel_rfl) (by kernel_rfl) (fun _ _ _ h => h) (Or.inl ⟨by rfl, ?hy12⟩) (by assumption) ?_
            case hy12 => (intro w hSw; (try dsimp only at hSw); go_simp; try (with_reducible rfl))
            (try simp only [Act.put, qa_, qb_, qc_])
            refine wpAnyH_take (i := 4) (oi := ⟨some 62, _, _, _, _, _⟩) (v := ?v13) rfl (by kernel_rfl) (by kernel_rfl) (by kernel_rfl) (fun _ _ _ h => h) (Or.inl ⟨by rfl, ?hy13⟩) (by assumption) ?_
            case hy13 => (intro w hSw; (try dsimp only at hSw); go_simp; try (with_reducible rfl))
            (try simp only [Act.put, qa_, qb_, qc_])
            refine wpAnyH_take (i := 5) (oi := ⟨some 63, _, _, _, _, _⟩) (v := ?v14) rfl (by kernel_rfl) (by kernel_rfl) (by kernel_rfl) (fun _ _ _ h => h) (Or.inl ⟨by rfl, ?hy14⟩) (by assumption) ?_
            case hy14 => (intro w hSw; (try dsimp only at hSw); go_simp; try (with_reducible rfl))
            (try simp only [Act.put, qa_, qb_, qc_])
            refine wpAnyH_take (i := 6) (oi := ⟨some 64, _, _, _, _, _⟩) (v := ?v15) rfl (by kernel_rfl) (by kernel_rfl) (by kernel_rfl) (fun _ _ _ h => h) (Or.inl ⟨by rfl, ?hy15⟩) (by assumption) ?_
            case hy15 => (intro w hSw; (try dsimp only at hSw); go_simp; try (with_reducible rfl))
            (try simp only [Act.put, qa_, qb_, qc_])
            refine wpAnyH_ready (rs := [1, 7]) (by kernel_rfl) (by simp) ?_
            refine AllReadyH.cons rfl (fun K hK => ?_) ?_
            · go_simp
              refine hK.out _ _ (by first | exact ⟨k3q, e0q, e1q, e2q, e3q⟩ | go_keep) (fun hHeld => ?_)
              clear hK K
              (try simp only [Act.put, qa_, qb_, qc_])
              refine wpAnyH_ready (rs := [7]) (by kernel_rfl) (by simp) ?_
              refine AllReadyH.cons rfl (fun K hK => ?_) ?_
              · go_simp
                refine hK.out _ _ (by first | exact ⟨jk, j0, j1, j2, j3⟩ | go_keep) (fun hHeld => ?_)
                clear hK K
                (try simp only [Act.put, qa_, qb_, qc_])
                refine wpAnyH_ready (rs := [8]) (by kernel_rfl) (by simp) ?_
                refine AllReadyH.cons rfl (fun K hK => ?_) ?_
                · refine GrowR.step (t := tPcX kb) (e := 37) (w := (wq.alloc (.cells [.int .i64 a0, .int .i64 a1, .int .i64 a2, .slice A3 n3 c3].toArray 37)).drew) (base := w.heap.size + 4) (B := B0) (by rfl) (.tmp 59) (.tmp 65) _ (by rfl) i1 _ 4 48 Tryz.underlying51 hj0 hj1 hj2 hj3 tz (by omega) rfl (by rfl) (GrowR.drew (hGq.below (belx) (by omega)) (by simp; omega)) wq.heap.size [.int .i64 a0, .int .i64 a1, .int .i64 a2, .slice A3 n3 c3] (a0, a1, a2, ad) (by rfl) (Box.drew (Box.new wq _ _)) ((tPcX kb).keep hR (fun b hb => (show Below w.heap.size w ((wq.alloc (.cells [.int .i64 a0, .int .i64 a1, .int .i64 a2, .slice A3 n3 c3].toArray 37)).drew) from bel_drew (bel_alloc hBq _)).block b (by omega))) (by intro u hu; simp only [List.mem_cons, List.not_mem_nil, or_false] at hu; rcases hu with rfl | rfl | rfl | rfl <;> rfl) (by omega) (by show _ ≤ (World.alloc _ _).heap.size; simp; omega) (by simp only [maxLen]; omega) (by omega) ?_
                  intro v2 w2 hG2 hgr2
                  obtain ⟨A9, n9, c9, rfl, -⟩ := hG2.shapeN
                  have hBf : Below w.heap.size w w2 := Below.grown (w := (wq.alloc (.cells [.int .i64 a0, .int .i64 a1, .int .i64 a2, .slice A3 n3 c3].toArray 37)).drew) (bel_drew (bel_alloc hBq _)) hgr2 (by show _ ≤ (World.alloc _ _).heap.size; simp; omega) (fun b hb => by have := (hOwn b hb).1; omega)
                  have f2 : Box w2 w.heap.size 53 _ := Box.grown (Box.drew (P0q.alloc _)) hgr2 (fun e => by have := (hOwn _ e.symm).1; omega)
                  have g2 : Box w2 (w.heap.size + 1) 37 _ := Box.grown (Box.drew (P1q.alloc _)) hgr2 (fun e => by have := (hOwn _ e.symm).1; omega)
                  have h2 : Box w2 (w.heap.size + 1 + 1) 53 _ := Box.grown (Box.drew (P2q.alloc _)) hgr2 (fun e => by have := (hOwn _ e.symm).1; omega)
                  have m2 : Box w2 (w.heap.size + 1 + 1 + 1) 53 _ := Box.grown (Box.drew (P3q.alloc _)) hgr2 (fun e => by have := (hOwn _ e.symm).1; omega)
                  have y3 := m2.cell 3
                  have yf := m2.frozen 3
                  have zz2 : wq.heap.size + 1 ≤ w2.heap.size := by have h := hgr2.size; simpa using h
                  have hBs := bel_put hBf (p := ⟨w.heap.size + 1 + 1 + 1, 3, none⟩) (by show _ ≤ w.heap.size + 1 + 1 + 1; omega) (.slice A9 n9 c9)
                  have f9 := f2.far (p := ⟨w.heap.size + 1 + 1 + 1, 3, none⟩) (by show w.heap.size ≠ w.heap.size + 1 + 1 + 1; omega) (.slice A9 n9 c9)
                  have g9 := g2.far (p := ⟨w.heap.size + 1 + 1 + 1, 3, none⟩) (by show w.heap.size + 1 ≠ w.heap.size + 1 + 1 + 1; omega) (.slice A9 n9 c9)
                  have h9 := h2.far (p := ⟨w.heap.size + 1 + 1 + 1, 3, none⟩) (by show w.heap.size + 1 + 1 ≠ w.heap.size + 1 + 1 + 1; omega) (.slice A9 n9 c9)
                  have m9 := m2.put 3 (.slice A9 n9 c9)
                  have G9 := hG2.put (p := ⟨w.heap.size + 1 + 1 + 1, 3, none⟩) (by show w.heap.size + 1 + 1 + 1 < _; omega) (by show _ ≤ w.heap.size + 1 + 1 + 1; omega) (.slice A9 n9 c9)
                  refine hK.out _ _ (by exact ⟨f2.cell 3, cell_at hBf hb HE0.out, cell_at hBf hb HE1.out, cell_at hBf hb HE2.out, cell_at hBf hb HE3.out⟩) (fun hHeld => ?_)
                  clear hK K
                  (try simp only [Act.put, qa_, qb_, qc_])
                  refine wpAnyH_take (i := 9) (oi := ⟨some 67, _, _, _, _, _⟩) (v := ?v16) rfl (by kernel_rfl) (by kernel_rfl) (by kernel_rfl) (fun _ _ _ h => h) (Or.inl ⟨by rfl, ?hy16⟩) (by assumption) ?_
                  case hy16 => (intro w hSw; (try dsimp only at hSw); go_simp; try (with_reducible rfl))
                  (try simp only [Act.put, qa_, qb_, qc_])
                  refine wpAnyH_ready (rs := [10]) (by kernel_rfl) (by simp) ?_
                  refine AllReadyH.cons rfl (fun K hK => ?_) ?_
                  · go_simp
                    refine hK.out _ _ (by exact ⟨f9.cell 3, cell_at hBs hb HE0.out, cell_at hBs hb HE1.out, cell_at hBs hb HE2.out, cell_at hBs hb HE3.out⟩) (fun hHeld => ?_)
                    clear hK K
                    (try simp only [Act.put, qa_, qb_, qc_])
                    refine wpAnyH_done (by kernel_rfl) ?_ _
                    go_wp2
                    go_roundw
                    case rel => exact ⟨j + 1, .slice A9 n9 c9, _, by omega, by go_num, hBs, by simp [World.setCell]; omega, f9, g9, h9, m9, G9, by rw [List.length_append, List.length_singleton]; omega, HNX.out, .inl ⟨rfl, HC1.out, HC2.out⟩⟩
                    case measure => simp [ixOf]; omega
                  exact AllReadyH.nil
                exact AllReadyH.nil
              exact AllReadyH.nil
            refine AllReadyH.cons rfl (fun K hK => ?_) ?_
            · go_simp
              refine hK.out _ _ (by first | exact ⟨jk, j0, j1, j2, j3⟩ | go_keep) (fun hHeld => ?_)
              clear hK K
              (try simp only [Act.put, qa_, qb_, qc_])
              refine wpAnyH_ready (rs := [1]) (by kernel_rfl) (by simp) ?_
              refine AllReadyH.cons rfl (fun K hK => ?_) ?_
              · go_simp
                refine hK.out _ _ (by first | exact ⟨jk, j0, j1, j2, j3⟩ | go_keep) (fun hHeld => ?_)
                clear hK K
                (try simp only [Act.put, qa_, qb_, qc_])
                refine wpAnyH_ready (rs := [8]) (by kernel_rfl) (by simp) ?_
                refine AllReadyH.cons rfl (fun K hK => ?_) ?_
                · refine GrowR.step (t := tPcX kb) (e := 37) (w := (wq.alloc (.cells [.int .i64 a0, .int .i64 a1, .int .i64 a2, .slice A3 n3 c3].toArray 37)).drew) (base := w.heap.size + 4) (B := B0) (by rfl) (.tmp 59) (.tmp 65) _ (by rfl) i1 _ 4 48 Tryz.underlying51 hj0 hj1 hj2 hj3 tz (by omega) rfl (by rfl) (GrowR.drew (hGq.below (belx) (by omega)) (by simp; omega)) wq.heap.size [.int .i64 a0, .int .i64 a1, .int .i64 a2, .slice A3 n3 c3] (a0, a1, a2, ad) (by rfl) (Box.drew (Box.new wq _ _)) ((tPcX kb).keep hR (fun b hb => (show Below w.heap.size w ((wq.alloc (.cells [.int .i64 a0, .int .i64 a1, .int .i64 a2, .slice A3 n3 c3].toArray 37)).drew) from bel_drew (bel_alloc hBq _)).block b (by omega))) (by intro u hu; simp only [List.mem_cons, List.not_mem_nil, or_false] at hu; rcases hu with rfl | rfl | rfl | rfl <;> rfl) (by omega) (by show _ ≤ (World.alloc _ _).heap.size; simp; omega) (by simp only [maxLen]; omega) (by omega) ?_
                  intro v2 w2 hG2 hgr2
                  obtain ⟨A9, n9, c9, rfl, -⟩ := hG2.shapeN
                  have hBf : Below w.heap.size w w2 := Below.grown (w := (wq.alloc (.cells [.int .i64 a0, .int .i64 a1, .int .i64 a2, .slice A3 n3 c3].toArray 37)).drew) (bel_drew (bel_alloc hBq _)) hgr2 (by show _ ≤ (World.alloc _ _).heap.size; simp; omega) (fun b hb => by have := (hOwn b hb).1; omega)
                  have f2 : Box w2 w.heap.size 53 _ := Box.grown (Box.drew (P0q.alloc _)) hgr2 (fun e => by have := (hOwn _ e.symm).1; omega)
                  have g2 : Box w2 (w.heap.size + 1) 37 _ := Box.grown (Box.drew (P1q.alloc _)) hgr2 (fun e => by have := (hOwn _ e.symm).1; omega)
                  have h2 : Box w2 (w.heap.size + 1 + 1) 53 _ := Box.grown (Box.drew (P2q.alloc _)) hgr2 (fun e => by have := (hOwn _ e.symm).1; omega)
                  have m2 : Box w2 (w.heap.size + 1 + 1 + 1) 53 _ := Box.grown (Box.drew (P3q.alloc _)) hgr2 (fun e => by have := (hOwn _ e.symm).1; omega)
                  have y3 := m2.cell 3
                  have yf := m2.frozen 3
                  have zz2 : wq.heap.size + 1 ≤ w2.heap.size := by have h := hgr2.size; simpa using h
                  have hBs := bel_put hBf (p := ⟨w.heap.size + 1 + 1 + 1, 3, none⟩) (by show _ ≤ w.heap.size + 1 + 1 + 1; omega) (.slice A9 n9 c9)
                  have f9 := f2.far (p := ⟨w.heap.size + 1 + 1 + 1, 3, none⟩) (by show w.heap.size ≠ w.heap.size + 1 + 1 + 1; omega) (.slice A9 n9 c9)
                  have g9 := g2.far (p := ⟨w.heap.size + 1 + 1 + 1, 3, none⟩) (by show w.heap.size + 1 ≠ w.heap.size + 1 + 1 + 1; omega) (.slice A9 n9 c9)
                  have h9 := h2.far (p := ⟨w.heap.size + 1 + 1 + 1, 3, none⟩) (by show w.heap.size + 1 + 1 ≠ w.heap.size + 1 + 1 + 1; omega) (.slice A9 n9 c9)
                  have m9 := m2.put 3 (.slice A9 n9 c9)
                  have G9 := hG2.put (p := ⟨w.heap.size + 1 + 1 + 1, 3, none⟩) (by show w.heap.size + 1 + 1 + 1 < _; omega) (by show _ ≤ w.heap.size + 1 + 1 + 1; omega) (.slice A9 n9 c9)
                  refine hK.out _ _ (by exact ⟨f2.cell 3, cell_at hBf hb HE0.out, cell_at hBf hb HE1.out, cell_at hBf hb HE2.out, cell_at hBf hb HE3.out⟩) (fun hHeld => ?_)
                  clear hK K
                  (try simp only [Act.put, qa_, qb_, qc_])
                  refine wpAnyH_take (i := 9) (oi := ⟨some 67, _, _, _, _, _⟩) (v := ?v17) rfl (by kernel_rfl) (by kernel_rfl) (by kernel_rfl) (fun _ _ _ h => h) (Or.inl ⟨by rfl, ?hy17⟩) (by assumption) ?_
                  case hy17 => (intro w hSw; (try dsimp only at hSw); go_simp; try (with_reducible rfl))
                  (try simp only [Act.put, qa_, qb_, qc_])
                  refine wpAnyH_ready (rs := [10]) (by kernel_rfl) (by simp) ?_
                  refine AllReadyH.cons rfl (fun K hK => ?_) ?_
                  · go_simp
                    refine hK.out _ _ (by exact ⟨f9.cell 3, cell_at hBs hb HE0.out, cell_at hBs hb HE1.out, cell_at hBs hb HE2.out, cell_at hBs hb HE3.out⟩) (fun hHeld => ?_)
                    clear hK K
                    (try simp only [Act.put, qa_, qb_, qc_])
                    refine wpAnyH_done (by kernel_rfl) ?_ _
                    go_wp2
                    go_roundw
                    case rel => exact ⟨j + 1, .slice A9 n9 c9, _, by omega, by go_num, hBs, by simp [World.setCell]; omega, f9, g9, h9, m9, G9, by rw [List.length_append, List.length_singleton]; omega, HNX.out, .inl ⟨rfl, HC1.out, HC2.out⟩⟩
                    case measure => simp [ixOf]; omega
                  exact AllReadyH.nil
                exact AllReadyH.nil
              exact AllReadyH.nil
            exact AllReadyH.nil
        · have hlt1 : y1 < a1 := by obtain ⟨p, hp, hp1⟩ := hyes; have := asc_take_lt (f := pAt) HASC.out hl2 p hp; have e : pAt (a0, a1, a2, ad) = a1 := rfl; omega
          have HNX := Lib.hid (show ∀ p ∈ g.take (j + 1), p.2.1 ≠ y1 from fun p hp => by rw [HT.out] at hp; rcases List.mem_append.1 hp with h' | h'; exact HNE.out p h'; rw [List.mem_singleton.1 h']; exact HE.out)
          have HC1 := Lib.hid (show u ++ [(a0, a1, a2, ad)] = insB pAt (y0, y1, x1, qd) (g.take (j + 1)) from by rw [insB_step (f := pAt) (q := (y0, y1, x1, qd)) hl2 hlt1, hu])
          have HC2 := Lib.hid (show ∃ p ∈ g.take (j + 1), y1 < pAt p from ⟨(a0, a1, a2, ad), by rw [HT.out]; simp, hlt1⟩)
          clear hyes hu hne hl2 hlt1
          go_wp2_with fail
          refine wp_region_held_drew (S := (fun w' => w'.cell? ⟨w.heap.size, 3, none⟩ = some (.slice (some ⟨b', off, none⟩) n c) ∧ w'.cell? ⟨b', off + j * 4 + 1, none⟩ = some (.int .i64 a1) ∧ w'.cell? ⟨w.heap.size + 1, 1, none⟩ = some (.int .i64 y1))) (by kernel_rfl) (by exact ⟨k3, e1, q1⟩) (fun hHeld => ?_)
          refine wpAnyH_take (i := 0) (oi := ⟨some 39, _, _, _, _, _⟩) (v := ?v60) rfl (by kernel_rfl) (by kernel_rfl) (by kernel_rfl) (fun _ _ _ h => h) (Or.inl ⟨by rfl, ?hy60⟩) (by assumption) ?_
          case hy60 => (intro w hSw; (try dsimp only at hSw); go_simp; try (with_reducible rfl))
          (try simp only [Act.put, qa_, qb_, qc_])
          refine wpAnyH_take (i := 1) (oi := ⟨some 40, _, _, _, _, _⟩) (v := ?v61) rfl (by kernel_rfl) (by kernel_rfl) (by kernel_rfl) (fun _ _ _ h => h) (Or.inl ⟨by rfl, ?hy61⟩) (by assumption) ?_
          case hy61 => (intro w hSw; (try dsimp only at hSw); go_simp; try (with_reducible rfl))
          (try simp only [Act.put, qa_, qb_, qc_])
          refine wpAnyH_take (i := 2) (oi := ⟨some 41, _, _, _, _, _⟩) (v := ?v62) rfl (by kernel_rfl) (by kernel_rfl) (by kernel_rfl) (fun _ _ _ h => h) (Or.inl ⟨by rfl, ?hy62⟩) (by assumption) ?_
          case hy62 => (intro w hSw; (try dsimp only at hSw); go_simp; try (with_reducible rfl))
          (try simp only [Act.put, qa_, qb_, qc_])
          refine wpAnyH_take (i := 3) (oi := ⟨some 42, _, _, _, _, _⟩) (v := undef) rfl (by kernel_rfl) (by kernel_rfl) (by kernel_rfl) (fun _ _ _ h => h) (Or.inr ⟨by rfl, rfl⟩) (by assumption) ?_
          (try simp only [Act.put, qa_, qb_, qc_])
          refine wpAnyH_take (i := 4) (oi := ⟨some 43, _, _, _, _, _⟩) (v := undef) rfl (by kernel_rfl) (by kernel_rfl) (by kernel_rfl) (fun _ _ _ h => h) (Or.inr ⟨by rfl, rfl⟩) (by assumption) ?_
          (try simp only [Act.put, qa_, qb_, qc_])
          refine wpAnyH_take (i := 5) (oi := ⟨some 44, _, _, _, _, _⟩) (v := undef) rfl (by kernel_rfl) (by kernel_rfl) (by kernel_rfl) (fun _ _ _ h => h) (Or.inr ⟨by rfl, rfl⟩) (by assumption) ?_
          (try simp only [Act.put, qa_, qb_, qc_])
          refine wpAnyH_take (i := 6) (oi := ⟨some 45, _, _, _, _, _⟩) (v := undef) rfl (by kernel_rfl) (by kernel_rfl) (by kernel_rfl) (fun _ _ _ h => h) (Or.inr ⟨by rfl, rfl⟩) (by assumption) ?_
          (try simp only [Act.put, qa_, qb_, qc_])
          refine wpAnyH_take (i := 7) (oi := ⟨some 46, _, _, _, _, _⟩) (v := undef) rfl (by kernel_rfl) (by kernel_rfl) (by kernel_rfl) (fun _ _ _ h => h) (Or.inr ⟨by rfl, rfl⟩) (by assumption) ?_
          (try simp only [Act.put, qa_, qb_, qc_])
          refine wpAnyH_take (i := 8) (oi := ⟨some 47, _, _, _, _, _⟩) (v := undef) rfl (by kernel_rfl) (by kernel_rfl) (by kernel_rfl) (fun _ _ _ h => h) (Or.inr ⟨by rfl, rfl⟩) (by assumption) ?_
          (try simp only [Act.put, qa_, qb_, qc_])
          refine wpAnyH_take (i := 9) (oi := ⟨some 48, _, _, _, _, _⟩) (v := undef) rfl (by kernel_rfl) (by kernel_rfl) (by kernel_rfl) (fun _ _ _ h => h) (Or.inr ⟨by rfl, rfl⟩) (by assumption) ?_
          (try simp only [Act.put, qa_, qb_, qc_])
          refine wpAnyH_take (i := 10) (oi := ⟨some 49, _, _, _, _, _⟩) (v := undef) rfl (by kernel_rfl) (by kernel_rfl) (by kernel_rfl) (fun _ _ _ h => h) (Or.inr ⟨by rfl, rfl⟩) (by assumption) ?_
          (try simp only [Act.put, qa_, qb_, qc_])
          refine wpAnyH_take (i := 11) (oi := ⟨some 50, _, _, _, _, _⟩) (v := undef) rfl (by kernel_rfl) (by kernel_rfl) (by kernel_rfl) (fun _ _ _ h => h) (Or.inr ⟨by rfl, rfl⟩) (by assumption) ?_
          (try simp only [Act.put, qa_, qb_, qc_])
          refine wpAnyH_take (i := 12) (oi := ⟨some 51, _, _, _, _, _⟩) (v := ?v63) rfl (by kernel_rfl) (by kernel_rfl) (by kernel_rfl) (fun _ _ _ h => h) (Or.inl ⟨by rfl, ?hy63⟩) (by assumption) ?_
          case hy63 => (intro w hSw; (try dsimp only at hSw); go_simp; try (with_reducible rfl))
          (try simp only [Act.put, qa_, qb_, qc_])
          refine wpAnyH_done (by kernel_rfl) ?_ _
          obtain ⟨wq, hwd⟩ : ∃ wq, wr.drew.drew = wq := ⟨_, rfl⟩
          rw [hwd]
          have hBq : Below w.heap.size w wq := hwd ▸ bel_drew (bel_drew hB)
          have P0q : Box wq w.heap.size 53 #[.int .i64 x0, .int .i64 x1, .int .i64 x2, .slice (some ⟨b', off, none⟩) n c] := hwd ▸ Box.drew (Box.drew P0)
          have P1q : Box wq (w.heap.size + 1) 37 #[.int .i64 y0, .int .i64 y1, .int .i64 x1, .slice A7 n7 c7] := hwd ▸ Box.drew (Box.drew P1)
          have P2q : Box wq (w.heap.size + 1 + 1) 53 #[.int .i64 0, .int .i64 0, .int .i64 0, .slice none 0 0] := hwd ▸ Box.drew (Box.drew P2)
          have P3q : Box wq (w.heap.size + 1 + 1 + 1) 53 #[.int .i64 x0, .int .i64 x1, .int .i64 x2, v] := hwd ▸ Box.drew (Box.drew P3)
          have hGq : GrowR (tPcX kb) 37 wq (w.heap.size + 4) B0 v (u) := hwd ▸ GrowR.drew (GrowR.drew hG (by omega)) (by show _ ≤ wr.heap.size; omega)
          have k3q := P0q.cell 3
          have e0q : wq.cell? ⟨b', off + j * 4, none⟩ = some (.int .i64 a0) := cell_at hBq hb HE0.out
          have e1q : wq.cell? ⟨b', off + j * 4 + 1, none⟩ = some (.int .i64 a1) := cell_at hBq hb HE1.out
          have e2q : wq.cell? ⟨b', off + j * 4 + 2, none⟩ = some (.int .i64 a2) := cell_at hBq hb HE2.out
          have e3q : wq.cell? ⟨b', off + j * 4 + 3, none⟩ = some (.slice A3 n3 c3) := cell_at hBq hb HE3.out
          have zq := hBq.size
          have zq4 := P3q.size
          have z9q := P3q.cell 3
          clear hwd
          clear hG P0 P1 P2 P3 hB k3 e0 e1 e2 e3 q1
          go_wp2_with fail
          have jk : (wq.alloc (.cells [.int .i64 a0, .int .i64 a1, .int .i64 a2, .slice A3 n3 c3].toArray 37)).cell? ⟨w.heap.size, 3, none⟩ = some (.slice (some ⟨b', off, none⟩) n c) := (P0q.alloc _).cell 3
          have j0 : (wq.alloc (.cells [.int .i64 a0, .int .i64 a1, .int .i64 a2, .slice A3 n3 c3].toArray 37)).cell? ⟨b', off + j * 4, none⟩ = some (.int .i64 a0) := cell_bel (w' := (wq.alloc (.cells [.int .i64 a0, .int .i64 a1, .int .i64 a2, .slice A3 n3 c3].toArray 37))) (belx) e0q
          have j1 : (wq.alloc (.cells [.int .i64 a0, .int .i64 a1, .int .i64 a2, .slice A3 n3 c3].toArray 37)).cell? ⟨b', off + j * 4 + 1, none⟩ = some (.int .i64 a1) := cell_bel (w' := (wq.alloc (.cells [.int .i64 a0, .int .i64 a1, .int .i64 a2, .slice A3 n3 c3].toArray 37))) (belx) e1q
          have j2 : (wq.alloc (.cells [.int .i64 a0, .int .i64 a1, .int .i64 a2, .slice A3 n3 c3].toArray 37)).cell? ⟨b', off + j * 4 + 2, none⟩ = some (.int .i64 a2) := cell_bel (w' := (wq.alloc (.cells [.int .i64 a0, .int .i64 a1, .int .i64 a2, .slice A3 n3 c3].toArray 37))) (belx) e2q
          have j3 : (wq.alloc (.cells [.int .i64 a0, .int .i64 a1, .int .i64 a2, .slice A3 n3 c3].toArray 37)).cell? ⟨b', off + j * 4 + 3, none⟩ = some (.slice A3 n3 c3) := cell_bel (w' := (wq.alloc (.cells [.int .i64 a0, .int .i64 a1, .int .i64 a2, .slice A3 n3 c3].toArray 37))) (belx) e3q
          have z8 : (wq.alloc (.cells [.int .i64 a0, .int .i64 a1, .int .i64 a2, .slice A3 n3 c3].toArray 37)).cell? ⟨w.heap.size + 1 + 1 + 1, 3, none⟩ = some (v) := (P3q.alloc _).cell 3
          have z8b : (wq.alloc (.cells #[.int .i64 a0, .int .i64 a1, .int .i64 a2, .slice A3 n3 c3] 37)).cell? ⟨w.heap.size + 1 + 1 + 1, 3, none⟩ = some (v) := (P3q.alloc _).cell 3
          have hOwn := hGq.own
          refine wp_region_held_drew (S := (fun w' => w'.cell? ⟨w.heap.size, 3, none⟩ = some (.slice (some ⟨b', off, none⟩) n c) ∧ w'.cell? ⟨b', off + j * 4, none⟩ = some (.int .i64 a0) ∧ w'.cell? ⟨b', off + j * 4 + 1, none⟩ = some (.int .i64 a1) ∧ w'.cell? ⟨b', off + j * 4 + 2, none⟩ = some (.int .i64 a2) ∧ w'.cell? ⟨b', off + j * 4 + 3, none⟩ = some (.slice A3 n3 c3))) (by kernel_rfl) (by first | exact ⟨k3q, e0q, e1q, e2q, e3q⟩ | go_keep) (fun hHeld => ?_)
          refine wpAnyH_take (i := 0) (oi := ⟨some 58, _, _, _, _, _⟩) (v := ?v52) rfl (by kernel_rfl) (by kernel_rfl) (by kernel_rfl) (fun _ _ _ h => h) (Or.inl ⟨by rfl, ?hy52⟩) (by assumption) ?_
          case hy52 => (intro w hSw; (try dsimp only at hSw); go_simp; try (with_reducible rfl))
          (try simp only [Act.put, qa_, qb_, qc_])
          refine wpAnyH_take (i := 2) (oi := ⟨some 60, _, _, _, _, _⟩) (v := ?v53) rfl (by kernel_rfl) (by kernel_rfl) (by kernel_rfl) (fun _ _ _ h => h) (Or.inl ⟨by rfl, ?hy53⟩) (by assumption) ?_
          case hy53 => (intro w hSw; (try dsimp only at hSw); go_simp; try (with_reducible rfl))
          (try simp only [Act.put, qa_, qb_, qc_])
          refine wpAnyH_take (i := 3) (oi := ⟨some 61, _, _, _, _, _⟩) (v := ?v54) rfl (by kernel_rfl) (by kernel_rfl) (by kernel_rfl) (fun _ _ _ h => h) (Or.inl ⟨by rfl, ?hy54⟩) (by assumption) ?_
          case hy54 => (intro w hSw; (try dsimp only at hSw); go_simp; try (with_reducible rfl))
          (try simp only [Act.put, qa_, qb_, qc_])
          refine wpAnyH_take (i := 4) (oi := ⟨some 62, _, _, _, _, _⟩) (v := ?v55) rfl (by kernel_rfl) (by kernel_rfl) (by kernel_rfl) (fun _ _ _ h => h) (Or.inl ⟨by rfl, ?hy55⟩) (by assumption) ?_
          case hy55 => (intro w hSw; (try dsimp only at hSw); go_simp; try (with_reducible rfl))
          (try simp only [Act.put, qa_, qb_, qc_])
          refine wpAnyH_take (i := 5) (oi := ⟨some 63, _, _, _, _, _⟩) (v := ?v56) rfl (by kernel_rfl) (by kernel_rfl) (by kernel_rfl) (fun _ _ _ h => h) (Or.inl ⟨by rfl, ?hy56⟩) (by assumption) ?_
          case hy56 => (intro w hSw; (try dsimp only at hSw); go_simp; try (with_reducible rfl))
          (try simp only [Act.put, qa_, qb_, qc_])
          refine wpAnyH_take (i := 6) (oi := ⟨some 64, _, _, _, _, _⟩) (v := ?v57) rfl (by kernel_rfl) (by kernel_rfl) (by kernel_rfl) (fun _ _ _ h => h) (Or.inl ⟨by rfl, ?hy57⟩) (by assumption) ?_
          case hy57 => (intro w hSw; (try dsimp only at hSw); go_simp; try (with_reducible rfl))
          (try simp only [Act.put, qa_, qb_, qc_])
          refine wpAnyH_ready (rs := [1, 7]) (by kernel_rfl) (by simp) ?_
          refine AllReadyH.cons rfl (fun K hK => ?_) ?_
          · go_simp
            refine hK.out _ _ (by first | exact ⟨k3q, e0q, e1q, e2q, e3q⟩ | go_keep) (fun hHeld => ?_)
            clear hK K
            (try simp only [Act.put, qa_, qb_, qc_])
            refine wpAnyH_ready (rs := [7]) (by kernel_rfl) (by simp) ?_
            refine AllReadyH.cons rfl (fun K hK => ?_) ?_
            · go_simp
              refine hK.out _ _ (by first | exact ⟨jk, j0, j1, j2, j3⟩ | go_keep) (fun hHeld => ?_)
              clear hK K
              (try simp only [Act.put, qa_, qb_, qc_])
              refine wpAnyH_ready (rs := [8]) (by kernel_rfl) (by simp) ?_
              refine AllReadyH.cons rfl (fun K hK => ?_) ?_
              · refine GrowR.step (t := tPcX kb) (e := 37) (w := (wq.alloc (.cells [.int .i64 a0, .int .i64 a1, .int .i64 a2, .slice A3 n3 c3].toArray 37)).drew) (base := w.heap.size + 4) (B := B0) (by rfl) (.tmp 59) (.tmp 65) _ (by rfl) i1 _ 4 48 Tryz.underlying51 hj0 hj1 hj2 hj3 tz (by omega) rfl (by rfl) (GrowR.drew (hGq.below (belx) (by omega)) (by simp; omega)) wq.heap.size [.int .i64 a0, .int .i64 a1, .int .i64 a2, .slice A3 n3 c3] (a0, a1, a2, ad) (by rfl) (Box.drew (Box.new wq _ _)) ((tPcX kb).keep hR (fun b hb => (show Below w.heap.size w ((wq.alloc (.cells [.int .i64 a0, .int .i64 a1, .int .i64 a2, .slice A3 n3 c3].toArray 37)).drew) from bel_drew (bel_alloc hBq _)).block b (by omega))) (by intro u hu; simp only [List.mem_cons, List.not_mem_nil, or_false] at hu; rcases hu with rfl | rfl | rfl | rfl <;> rfl) (by omega) (by show _ ≤ (World.alloc _ _).heap.size; simp; omega) (by simp only [maxLen]; omega) (by omega) ?_
                intro v2 w2 hG2 hgr2
                obtain ⟨A9, n9, c9, rfl, -⟩ := hG2.shapeN
                have hBf : Below w.heap.size w w2 := Below.grown (w := (wq.alloc (.cells [.int .i64 a0, .int .i64 a1, .int .i64 a2, .slice A3 n3 c3].toArray 37)).drew) (bel_drew (bel_alloc hBq _)) hgr2 (by show _ ≤ (World.alloc _ _).heap.size; simp; omega) (fun b hb => by have := (hOwn b hb).1; omega)
                have f2 : Box w2 w.heap.size 53 _ := Box.grown (Box.drew (P0q.alloc _)) hgr2 (fun e => by have := (hOwn _ e.symm).1; omega)
                have g2 : Box w2 (w.heap.size + 1) 37 _ := Box.grown (Box.drew (P1q.alloc _)) hgr2 (fun e => by have := (hOwn _ e.symm).1; omega)
                have h2 : Box w2 (w.heap.size + 1 + 1) 53 _ := Box.grown (Box.drew (P2q.alloc _)) hgr2 (fun e => by have := (hOwn _ e.symm).1; omega)
                have m2 : Box w2 (w.heap.size + 1 + 1 + 1) 53 _ := Box.grown (Box.drew (P3q.alloc _)) hgr2 (fun e => by have := (hOwn _ e.symm).1; omega)
                have y3 := m2.cell 3
                have yf := m2.frozen 3
                have zz2 : wq.heap.size + 1 ≤ w2.heap.size := by have h := hgr2.size; simpa using h
                have hBs := bel_put hBf (p := ⟨w.heap.size + 1 + 1 + 1, 3, none⟩) (by show _ ≤ w.heap.size + 1 + 1 + 1; omega) (.slice A9 n9 c9)
                have f9 := f2.far (p := ⟨w.heap.size + 1 + 1 + 1, 3, none⟩) (by show w.heap.size ≠ w.heap.size + 1 + 1 + 1; omega) (.slice A9 n9 c9)
                have g9 := g2.far (p := ⟨w.heap.size + 1 + 1 + 1, 3, none⟩) (by show w.heap.size + 1 ≠ w.heap.size + 1 + 1 + 1; omega) (.slice A9 n9 c9)
                have h9 := h2.far (p := ⟨w.heap.size + 1 + 1 + 1, 3, none⟩) (by show w.heap.size + 1 + 1 ≠ w.heap.size + 1 + 1 + 1; omega) (.slice A9 n9 c9)
                have m9 := m2.put 3 (.slice A9 n9 c9)
                have G9 := hG2.put (p := ⟨w.heap.size + 1 + 1 + 1, 3, none⟩) (by show w.heap.size + 1 + 1 + 1 < _; omega) (by show _ ≤ w.heap.size + 1 + 1 + 1; omega) (.slice A9 n9 c9)
                refine hK.out _ _ (by exact ⟨f2.cell 3, cell_at hBf hb HE0.out, cell_at hBf hb HE1.out, cell_at hBf hb HE2.out, cell_at hBf hb HE3.out⟩) (fun hHeld => ?_)
                clear hK K
                (try simp only [Act.put, qa_, qb_, qc_])
                refine wpAnyH_take (i := 9) (oi := ⟨some 67, _, _, _, _, _⟩) (v := ?v58) rfl (by kernel_rfl) (by kernel_rfl) (by kernel_rfl) (fun _ _ _ h => h) (Or.inl ⟨by rfl, ?hy58⟩) (by assumption) ?_
                case hy58 => (intro w hSw; (try dsimp only at hSw); go_simp; try (with_reducible rfl))
                (try simp only [Act.put, qa_, qb_, qc_])
                refine wpAnyH_ready (rs := [10]) (by kernel_rfl) (by simp) ?_
                refine AllReadyH.cons rfl (fun K hK => ?_) ?_
                · go_simp
                  refine hK.out _ _ (by exact ⟨f9.cell 3, cell_at hBs hb HE0.out, cell_at hBs hb HE1.out, cell_at hBs hb HE2.out, cell_at hBs hb HE3.out⟩) (fun hHeld => ?_)
                  clear hK K
                  (try simp only [Act.put, qa_, qb_, qc_])
                  refine wpAnyH_done (by kernel_rfl) ?_ _
                  go_wp2
                  go_roundw
                  case rel => exact ⟨j + 1, .slice A9 n9 c9, _, by omega, by go_num, hBs, by simp [World.setCell]; omega, f9, g9, h9, m9, G9, by rw [List.length_append, List.length_singleton]; omega, HNX.out, .inr ⟨rfl, HC1.out, HC2.out⟩⟩
                  case measure => simp [ixOf]; omega
                exact AllReadyH.nil
              exact AllReadyH.nil
            exact AllReadyH.nil
          refine AllReadyH.cons rfl (fun K hK => ?_) ?_
          · go_simp
            refine hK.out _ _ (by first | exact ⟨jk, j0, j1, j2, j3⟩ | go_keep) (fun hHeld => ?_)
            clear hK K
            (try simp only [Act.put, qa_, qb_, qc_])
            refine wpAnyH_ready (rs := [1]) (by kernel_rfl) (by simp) ?_
            refine AllReadyH.cons rfl (fun K hK => ?_) ?_
            · go_simp
              refine hK.out _ _ (by first | exact ⟨jk, j0, j1, j2, j3⟩ | go_keep) (fun hHeld => ?_)
              clear hK K
              (try simp only [Act.put, qa_, qb_, qc_])
              refine wpAnyH_ready (rs := [8]) (by kernel_rfl) (by simp) ?_
              refine AllReadyH.cons rfl (fun K hK => ?_) ?_
              · refine GrowR.step (t := tPcX kb) (e := 37) (w := (wq.alloc (.cells [.int .i64 a0, .int .i64 a1, .int .i64 a2, .slice A3 n3 c3].toArray 37)).drew) (base := w.heap.size + 4) (B := B0) (by rfl) (.tmp 59) (.tmp 65) _ (by rfl) i1 _ 4 48 Tryz.underlying51 hj0 hj1 hj2 hj3 tz (by omega) rfl (by rfl) (GrowR.drew (hGq.below (belx) (by omega)) (by simp; omega)) wq.heap.size [.int .i64 a0, .int .i64 a1, .int .i64 a2, .slice A3 n3 c3] (a0, a1, a2, ad) (by rfl) (Box.drew (Box.new wq _ _)) ((tPcX kb).keep hR (fun b hb => (show Below w.heap.size w ((wq.alloc (.cells [.int .i64 a0, .int .i64 a1, .int .i64 a2, .slice A3 n3 c3].toArray 37)).drew) from bel_drew (bel_alloc hBq _)).block b (by omega))) (by intro u hu; simp only [List.mem_cons, List.not_mem_nil, or_false] at hu; rcases hu with rfl | rfl | rfl | rfl <;> rfl) (by omega) (by show _ ≤ (World.alloc _ _).heap.size; simp; omega) (by simp only [maxLen]; omega) (by omega) ?_
                intro v2 w2 hG2 hgr2
                obtain ⟨A9, n9, c9, rfl, -⟩ := hG2.shapeN
                have hBf : Below w.heap.size w w2 := Below.grown (w := (wq.alloc (.cells [.int .i64 a0, .int .i64 a1, .int .i64 a2, .slice A3 n3 c3].toArray 37)).drew) (bel_drew (bel_alloc hBq _)) hgr2 (by show _ ≤ (World.alloc _ _).heap.size; simp; omega) (fun b hb => by have := (hOwn b hb).1; omega)
                have f2 : Box w2 w.heap.size 53 _ := Box.grown (Box.drew (P0q.alloc _)) hgr2 (fun e => by have := (hOwn _ e.symm).1; omega)
                have g2 : Box w2 (w.heap.size + 1) 37 _ := Box.grown (Box.drew (P1q.alloc _)) hgr2 (fun e => by have := (hOwn _ e.symm).1; omega)
                have h2 : Box w2 (w.heap.size + 1 + 1) 53 _ := Box.grown (Box.drew (P2q.alloc _)) hgr2 (fun e => by have := (hOwn _ e.symm).1; omega)
                have m2 : Box w2 (w.heap.size + 1 + 1 + 1) 53 _ := Box.grown (Box.drew (P3q.alloc _)) hgr2 (fun e => by have := (hOwn _ e.symm).1; omega)
                have y3 := m2.cell 3
                have yf := m2.frozen 3
                have zz2 : wq.heap.size + 1 ≤ w2.heap.size := by have h := hgr2.size; simpa using h
                have hBs := bel_put hBf (p := ⟨w.heap.size + 1 + 1 + 1, 3, none⟩) (by show _ ≤ w.heap.size + 1 + 1 + 1; omega) (.slice A9 n9 c9)
                have f9 := f2.far (p := ⟨w.heap.size + 1 + 1 + 1, 3, none⟩) (by show w.heap.size ≠ w.heap.size + 1 + 1 + 1; omega) (.slice A9 n9 c9)
                have g9 := g2.far (p := ⟨w.heap.size + 1 + 1 + 1, 3, none⟩) (by show w.heap.size + 1 ≠ w.heap.size + 1 + 1 + 1; omega) (.slice A9 n9 c9)
                have h9 := h2.far (p := ⟨w.heap.size + 1 + 1 + 1, 3, none⟩) (by show w.heap.size + 1 + 1 ≠ w.heap.size + 1 + 1 + 1; omega) (.slice A9 n9 c9)
                have m9 := m2.put 3 (.slice A9 n9 c9)
                have G9 := hG2.put (p := ⟨w.heap.size + 1 + 1 + 1, 3, none⟩) (by show w.heap.size + 1 + 1 + 1 < _; omega) (by show _ ≤ w.heap.size + 1 + 1 + 1; omega) (.slice A9 n9 c9)
                refine hK.out _ _ (by exact ⟨f2.cell 3, cell_at hBf hb HE0.out, cell_at hBf hb HE1.out, cell_at hBf hb HE2.out, cell_at hBf hb HE3.out⟩) (fun hHeld => ?_)
                clear hK K
                (try simp only [Act.put, qa_, qb_, qc_])
                refine wpAnyH_take (i := 9) (oi := ⟨some 67, _, _, _, _, _⟩) (v := ?v59) rfl (by kernel_rfl) (by kernel_rfl) (by kernel_rfl) (fun _ _ _ h => h) (Or.inl ⟨by rfl, ?hy59⟩) (by assumption) ?_
                case hy59 => (intro w hSw; (try dsimp only at hSw); go_simp; try (with_reducible rfl))
                (try simp only [Act.put, qa_, qb_, qc_])
                refine wpAnyH_ready (rs := [10]) (by kernel_rfl) (by simp) ?_
                refine AllReadyH.cons rfl (fun K hK => ?_) ?_
                · go_simp
                  refine hK.out _ _ (by exact ⟨f9.cell 3, cell_at hBs hb HE0.out, cell_at hBs hb HE1.out, cell_at hBs hb HE2.out, cell_at hBs hb HE3.out⟩) (fun hHeld => ?_)
                  clear hK K
                  (try simp only [Act.put, qa_, qb_, qc_])
                  refine wpAnyH_done (by kernel_rfl) ?_ _
                  go_wp2
                  go_roundw
                  case rel => exact ⟨j + 1, .slice A9 n9 c9, _, by omega, by go_num, hBs, by simp [World.setCell]; omega, f9, g9, h9, m9, G9, by rw [List.length_append, List.length_singleton]; omega, HNX.out, .inr ⟨rfl, HC1.out, HC2.out⟩⟩
                  case measure => simp [ixOf]; omega
                exact AllReadyH.nil
              exact AllReadyH.nil
            exact AllReadyH.nil
          exact AllReadyH.nil
    · obtain rfl : n = j := by omega
      have HA := Lib.hid (show g.take n = g from List.take_of_length_le (Nat.le_of_eq E0.out))
      have HNX := Lib.hid (show ∀ p ∈ g, p.2.1 ≠ y1 from by have h := hne; rw [HA.out] at h; exact h)
      clear hne
      have zr4 := P3.size
      rcases hc with ⟨rfl, hu, hno⟩ | ⟨rfl, hu, hyes⟩
      · have HU := Lib.hid (show u ++ [(y0, y1, x1, qd)] = insB pAt (y0, y1, x1, qd) g by rw [HA.out] at hno hu; rw [insB_none (f := pAt) (q := (y0, y1, x1, qd)) hno, hu])
        have hOwn := hG.own
        have d1 := P1.cell 0; have d12 := P1.cell 2; have d13 := P1.cell 3; have d33 := P3.cell 3; have d3f := P3.frozen 3; have zr := hB.size
        clear hno hu
        go_wp2_with (at_builtin; refine GrowR.push (t := tPcX kb) (e := 37) (w := (wr.alloc (.cells #[.int .i64 y0, .int .i64 y1, .int .i64 x1, .slice A7 n7 c7] 37))) (base := w.heap.size + 4) (B := B0) (by rfl) (.tmp 71) (.tmp 73) _ (by rfl) i1 _ 4 48 Tryz.underlying51 hj0 hj1 hj2 hj3 tz (by omega) rfl (by rfl) (hG.below (belx) (by omega)) wr.heap.size [.int .i64 y0, .int .i64 y1, .int .i64 x1, .slice A7 n7 c7] (y0, y1, x1, qd) (by rfl) (Box.new wr _ _) ((tPcX kb).keep hq (fun b hb => (show Below w.heap.size w (wr.alloc (.cells #[.int .i64 y0, .int .i64 y1, .int .i64 x1, .slice A7 n7 c7] 37)) from bel_alloc hB _).block b (by omega))) (by intro u hu; simp only [List.mem_cons, List.not_mem_nil, or_false] at hu; rcases hu with rfl | rfl | rfl | rfl <;> rfl) (by omega) (by simp; omega) (by simp only [maxLen]; omega) (by omega) ?_; intro v2 w2 hG2 hgr2; obtain ⟨A8, n8, c8, rfl, -⟩ := hG2.shapeN; have hBf : Below w.heap.size w w2 := Below.grown (w := (wr.alloc (.cells #[.int .i64 y0, .int .i64 y1, .int .i64 x1, .slice A7 n7 c7] 37))) (bel_alloc hB _) hgr2 (by simp; omega) (fun b hb => by have := (hOwn b hb).1; omega); have r0 := Box.grown (w := (wr.alloc (.cells #[.int .i64 y0, .int .i64 y1, .int .i64 x1, .slice A7 n7 c7] 37))) (P0.alloc _) hgr2 (fun e => by have := (hOwn _ e.symm).1; omega); have r1 := Box.grown (w := (wr.alloc (.cells #[.int .i64 y0, .int .i64 y1, .int .i64 x1, .slice A7 n7 c7] 37))) (P1.alloc _) hgr2 (fun e => by have := (hOwn _ e.symm).1; omega); have r2 := Box.grown (w := (wr.alloc (.cells #[.int .i64 y0, .int .i64 y1, .int .i64 x1, .slice A7 n7 c7] 37))) (P2.alloc _) hgr2 (fun e => by have := (hOwn _ e.symm).1; omega); have r3 := Box.grown (w := (wr.alloc (.cells #[.int .i64 y0, .int .i64 y1, .int .i64 x1, .slice A7 n7 c7] 37))) (P3.alloc _) hgr2 (fun e => by have := (hOwn _ e.symm).1; omega); have y3 := r3.cell 3; have yf := r3.frozen 3; have r10 := r1.cell 0; have R2 := r2.far (p := ⟨w.heap.size + 1 + 1 + 1, 3, none⟩) (by show w.heap.size + 1 + 1 ≠ w.heap.size + 1 + 1 + 1; omega) (.slice A8 n8 c8); have R3 := r3.put 3 (.slice A8 n8 c8); have z0 := R3.cell 0; have z1 := R3.cell 1; have z2 := R3.cell 2; have z3 := R3.cell 3; have m0 := R2.cell 0; have m1 := R2.cell 1; have m2 := R2.cell 2; have m3 := R2.cell 3; have f0 := R2.frozen 0; have f1 := R2.frozen 1; have f2 := R2.frozen 2; have f3 := R2.frozen 3)
        have G8 := hG2.put (p := ⟨w.heap.size + 1 + 1 + 1, 3, none⟩) (by show w.heap.size + 1 + 1 + 1 < _; omega) (by show _ ≤ w.heap.size + 1 + 1 + 1; omega) (.slice A8 n8 c8)
        have B8 := bel_put hBf (p := ⟨w.heap.size + 1 + 1 + 1, 3, none⟩) (by show _ ≤ w.heap.size + 1 + 1 + 1; omega) (.slice A8 n8 c8)
        have zw2 := hBf.size
        go_wp2
        have RR := (((R2.put 0 (.int .i64 x0)).put 1 (.int .i64 x1)).put 2 (.int .i64 x2)).put 3 (.slice A8 n8 c8)
        have s0 := RR.cell 0; have s1 := RR.cell 1; have s2 := RR.cell 2; have s3 := RR.cell 3
        refine bodyPost_ret (v := .tuple #[.agg #[.int .i64 x0, .int .i64 x1, .int .i64 x2, .slice A8 n8 c8], .bool true]) (by simp [results, Tryz.results84, go_sem, s0, s1, s2, s3]) rfl ⟨?_, .inl ⟨A8, n8, c8, ⟨(by first | rfl | trivial), HNX.out⟩, rfl, ?_⟩⟩
        · exact (bel_put (bel_put (bel_put (bel_put B8 (p := ⟨w.heap.size + 1 + 1, 0, none⟩) (by show _ ≤ w.heap.size + 1 + 1; omega) _) (p := ⟨w.heap.size + 1 + 1, 1, none⟩) (by show _ ≤ w.heap.size + 1 + 1; omega) _) (p := ⟨w.heap.size + 1 + 1, 2, none⟩) (by show _ ≤ w.heap.size + 1 + 1; omega) _) (p := ⟨w.heap.size + 1 + 1, 3, none⟩) (by show _ ≤ w.heap.size + 1 + 1; omega) _)
        · rw [← HU.out]
          exact ((((((G8).put (p := ⟨w.heap.size + 1 + 1, 0, none⟩) (by show w.heap.size + 1 + 1 < _; omega) (by show _ ≤ w.heap.size + 1 + 1; omega) (.int .i64 x0)).put (p := ⟨w.heap.size + 1 + 1, 1, none⟩) (by show w.heap.size + 1 + 1 < _; omega) (by show _ ≤ w.heap.size + 1 + 1; omega) (.int .i64 x1)).put (p := ⟨w.heap.size + 1 + 1, 2, none⟩) (by show w.heap.size + 1 + 1 < _; omega) (by show _ ≤ w.heap.size + 1 + 1; omega) (.int .i64 x2)).put (p := ⟨w.heap.size + 1 + 1, 3, none⟩) (by show w.heap.size + 1 + 1 < _; omega) (by show _ ≤ w.heap.size + 1 + 1; omega) (.slice A8 n8 c8))).lower (by omega)
      · have HU := Lib.hid (show u = insB pAt (y0, y1, x1, qd) g by rw [HA.out] at hu; exact hu)
        obtain ⟨A8, n8, c8, rfl, -⟩ := hG.shapeN
        have R2 := P2
        have z0 := P3.cell 0; have z1 := P3.cell 1; have z2 := P3.cell 2; have z3 := P3.cell 3; have m0 := R2.cell 0; have m1 := R2.cell 1; have m2 := R2.cell 2; have m3 := R2.cell 3; have f0 := R2.frozen 0; have f1 := R2.frozen 1; have f2 := R2.frozen 2; have f3 := R2.frozen 3
        have zw2 := hB.size
        clear hyes hu
        go_wp2
        have RR := (((R2.put 0 (.int .i64 x0)).put 1 (.int .i64 x1)).put 2 (.int .i64 x2)).put 3 (.slice A8 n8 c8)
        have s0 := RR.cell 0; have s1 := RR.cell 1; have s2 := RR.cell 2; have s3 := RR.cell 3
        refine bodyPost_ret (v := .tuple #[.agg #[.int .i64 x0, .int .i64 x1, .int .i64 x2, .slice A8 n8 c8], .bool true]) (by simp [results, Tryz.results84, go_sem, s0, s1, s2, s3]) rfl ⟨?_, .inl ⟨A8, n8, c8, ⟨(by first | rfl | trivial), HNX.out⟩, rfl, ?_⟩⟩
        · exact (bel_put (bel_put (bel_put (bel_put hB (p := ⟨w.heap.size + 1 + 1, 0, none⟩) (by show _ ≤ w.heap.size + 1 + 1; omega) _) (p := ⟨w.heap.size + 1 + 1, 1, none⟩) (by show _ ≤ w.heap.size + 1 + 1; omega) _) (p := ⟨w.heap.size + 1 + 1, 2, none⟩) (by show _ ≤ w.heap.size + 1 + 1; omega) _) (p := ⟨w.heap.size + 1 + 1, 3, none⟩) (by show _ ≤ w.heap.size + 1 + 1; omega) _)
        · rw [← HU.out]
          exact ((((((hG).put (p := ⟨w.heap.size + 1 + 1, 0, none⟩) (by show w.heap.size + 1 + 1 < _; omega) (by show _ ≤ w.heap.size + 1 + 1; omega) (.int .i64 x0)).put (p := ⟨w.heap.size + 1 + 1, 1, none⟩) (by show w.heap.size + 1 + 1 < _; omega) (by show _ ≤ w.heap.size + 1 + 1; omega) (.int .i64 x1)).put (p := ⟨w.heap.size + 1 + 1, 2, none⟩) (by show w.heap.size + 1 + 1 < _; omega) (by show _ ≤ w.heap.size + 1 + 1; omega) (.int .i64 x2)).put (p := ⟨w.heap.size + 1 + 1, 3, none⟩) (by show w.heap.size + 1 + 1 < _; omega) (by show _ ≤ w.heap.size + 1 + 1; omega) (.slice A8 n8 c8))).lower (by omega)
end Go.Proofs.YtaabmaoldhoinaaGreat
namespace Go.Proofs.YtaabmaoldhoinaaGreat
set_option maxRecDepth 100000
set_option linter.unusedVariables false
set_option linter.unusedSimpArgs false
open Go.ChangeShapes Go.WideShapes Go.ChangeAt Go.RowKit
open Fld
theorem filt_take {l : List DWhole} {y : Int} {i : Nat} (h1 : ∀ a ∈ l.take i, a.1 < y) (h2 : ∀ a ∈ l.drop i, ¬ a.1 < y) : (l.filter fun a => decide (a.1 < y)) = l.take i := by
  conv => lhs; rw [← List.take_append_drop i l]
  rw [List.filter_append, List.filter_eq_self.2 (fun a ha => decide_eq_true (h1 a ha)), List.filter_eq_nil_iff.2 (fun a ha => by simpa using h2 a ha), List.append_nil]
theorem filt_drop {l : List DWhole} {y : Int} {i : Nat} (h1 : ∀ a ∈ l.take i, ¬ y < a.1) (h2 : ∀ a ∈ l.drop i, y < a.1) : (l.filter fun a => decide (y < a.1)) = l.drop i := by
  conv => lhs; rw [← List.take_append_drop i l]
  rw [List.filter_append, List.filter_eq_nil_iff.2 (fun a ha => by simpa using h1 a ha), List.filter_eq_self.2 (fun a ha => decide_eq_true (h2 a ha)), List.nil_append]
theorem filt_ne {l : List DWhole} {y : Int} (h : l.Pairwise (fun a b => a.1 < b.1)) : (l.filter fun a => decide (a.1 ≠ y)) = (l.filter fun a => decide (a.1 < y)) ++ l.filter fun a => decide (y < a.1) := by
  induction l with
  | nil => rfl
  | cons a l ih =>
    rw [List.pairwise_cons] at h
    rw [List.filter_cons, List.filter_cons, List.filter_cons, ih h.2]
    rcases Int.lt_trichotomy a.1 y with h1 | h1 | h1
    · rw [if_pos (by simp; omega), if_pos (by simpa using h1), if_neg (by simp; omega)]; rfl
    · rw [if_neg (by simpa using h1), if_neg (by simp; omega), if_neg (by simp; omega)]
    · rw [if_pos (by simp; omega), if_neg (by simp; omega), if_pos (by simpa using h1)]
      rw [List.filter_eq_nil_iff.2 (fun b hb => by have := h.1 b hb; simp; omega)]; rfl
theorem mem_takeW {l : List DWhole} {j i : Nat} {a : DWhole} (h : l[j]? = some a) (hj : j < i) : a ∈ l.take i := by
  have := (List.getElem?_eq_some_iff.1 h).1
  exact List.mem_of_getElem? (by rw [List.getElem?_take, if_pos hj]; exact h)
theorem mem_dropW {l : List DWhole} {j : Nat} {a : DWhole} (h : l[j]? = some a) : a ∈ l.drop j :=
  List.mem_of_getElem? (i := 0) (by rw [List.getElem?_drop]; exact h)
/-- The cells of a message that was read at the call's beginning, or of the one that has just been made. -/
def PW (kb : Nat) (w : World) (eW : List Value) (W : DWhole) (es : List Value) (a : DWhole) : Prop := (es.length = 4 ∧ ∀ u ∈ es, u.oneCell' = true) ∧ ((tWhX kb).R w w.heap.size es a ∨ (es = eW ∧ a = W))
abbrev tPW (kb : Nat) (w : World) (eW : List Value) (W : DWhole) : Ty DWhole := tFix 4 (PW kb w eW W) (fun _ _ h => h.1.1)
theorem PW_of {kb : Nat} {w : World} {eW : List Value} {W : DWhole} {es : List Value} {a : DWhole} (h : (tWhX kb).R w w.heap.size es a) : PW kb w eW W es a := by
  refine ⟨⟨(tWhX kb).lenR h, fun u hu => ?_⟩, .inl h⟩
  obtain ⟨A, n, c, rfl, -⟩ := openWhX h
  simp only [List.mem_cons, List.not_mem_nil, or_false] at hu
  rcases hu with rfl | rfl | rfl | rfl <;> rfl
theorem PW_new {kb : Nat} {w : World} {x0 x1 x2 : Int} {A : Option Addr} {n c : Nat} {W : DWhole} : PW kb w [.int .i64 x0, .int .i64 x1, .int .i64 x2, .slice A n c] W [.int .i64 x0, .int .i64 x1, .int .i64 x2, .slice A n c] W := by
  refine ⟨⟨rfl, fun u hu => ?_⟩, .inr ⟨rfl, rfl⟩⟩
  simp only [List.mem_cons, List.not_mem_nil, or_false] at hu
  rcases hu with rfl | rfl | rfl | rfl <;> rfl
theorem one_PW {kb : Nat} {w : World} {eW : List Value} {W : DWhole} {w' : World} {B : Nat} : ∀ es a, (tPW kb w eW W).R w' B es a → ∀ u ∈ es, u.oneCell' = true := fun es a h => h.1.2
theorem own_offT {K : IntKind} {e : TypeId} {w : World} {base : Nat} {v : Value} {l : List Int} (h : Own K e w base v l) {p : Addr} (hp : p.block < base) (u : Value) : Own K e (w.setCell p u) base v l :=
  ⟨h.1.kept (row := some p.block) ⟨rfl, rfl, rfl, by simp [World.setCell], fun i hi hn => Below.heap_setCell w p u i (fun e => hn (by rw [e]))⟩ (.inr fun e => by have := (h.1.lt _ e).1; omega), h.2⟩
/-- Where a name is, or would be, in a list that ascends. -/
theorem ids_at {l : List DWhole} (h : l.Pairwise (fun a b => a.1 < b.1)) (y : Int) : ∃ i, i ≤ l.length ∧ (∀ a ∈ l.take i, a.1 < y) ∧ (∀ a ∈ l.drop i, ¬ a.1 < y) := by
  induction l with
  | nil => exact ⟨0, Nat.le_refl _, by simp, by simp⟩
  | cons a l ih =>
    rw [List.pairwise_cons] at h
    by_cases ha : a.1 < y
    · obtain ⟨i, h1, h2, h3⟩ := ih h.2
      exact ⟨i + 1, by simpa using h1, fun b hb => by
        rw [List.take_succ_cons] at hb
        rcases List.mem_cons.1 hb with rfl | hb
        · exact ha
        · exact h2 b hb, fun b hb => h3 b (by simpa using hb)⟩
    · refine ⟨0, Nat.zero_le _, by simp, fun b hb => ?_⟩
      rcases List.mem_cons.1 hb with rfl | hb
      · exact ha
      · have := h.1 b hb; omega
set_option maxHeartbeats 1000000 in
theorem s_tk_done {w : World} {kb n0 c0 n1 c1 n7 c7 : Nat} {A0 A1 A7 : Option Addr} {y0 y1 y2 x : Int} {qd : List Int} {p : DDesk} (h0 : (RX kb (tWhX kb)).R w w.heap.size [.slice A0 n0 c0] p.1) (h1 : (XT kb tIs).R w w.heap.size [.slice A1 n1 c1] p.2) (hq : (tPcX kb).R w w.heap.size [.int .i64 y0, .int .i64 y1, .int .i64 y2, .slice A7 n7 c7] (y0, y1, y2, qd)) (hp : DkOk p) (hpc : PcOk (y0, y1, y2, qd)) (hx : 0 ≤ x ∧ x ≤ 65535) (hkb : kb ≤ w.heap.size) (hm : y0 ∈ p.2) :
    Calls Tryz.prog 39 #[.agg #[.slice A0 n0 c0, .slice A1 n1 c1], .agg #[.int .i64 y0, .int .i64 y1, .int .i64 y2, .slice A7 n7 c7], .int .i64 x] w fun e w' => ∃ v0 v1 vb, e = .returned (.tuple #[.agg #[v0, v1], vb, .int .i64 (-1)]) ∧ (RX kb (tWhX kb)).R w' w'.heap.size [v0] (p.1) ∧ (XT kb tIs).R w' w'.heap.size [v1] (p.2) ∧ (XT kb tBy).R w' w'.heap.size [vb] ([]) ∧ Below w.heap.size w w' := by
  have HM := Lib.hid (decide_eq_true hm)
  clear hm
  have hI1 := (slR_ints (xt_R h1)).1
  have E0 := Lib.hid (rx_len h0).1
  have hn0 : n0 ≤ 6 := by have := hp.1; have := (rx_len h0).1; omega
  have hn1 : n1 ≤ 256 := by have := asc_len hp.2.2.1 hp.2.1; have := hI1.1; omega
  obtain ⟨i1, hj0, hj1, hj2, hj3⟩ := info_parts info_Whole
  have P0 : Box (((w.alloc (.cells #[.slice A0 n0 c0, .slice A1 n1 c1] 33)).alloc (.cells #[.int .i64 y0, .int .i64 y1, .int .i64 y2, .slice A7 n7 c7] 37)).alloc (.cells #[.slice none 0 0, .slice none 0 0] 33)) w.heap.size 33 #[.slice A0 n0 c0, .slice A1 n1 c1] := ((Box.new w _ _).alloc _).alloc _
  have P1 : Box (((w.alloc (.cells #[.slice A0 n0 c0, .slice A1 n1 c1] 33)).alloc (.cells #[.int .i64 y0, .int .i64 y1, .int .i64 y2, .slice A7 n7 c7] 37)).alloc (.cells #[.slice none 0 0, .slice none 0 0] 33)) (w.heap.size + 1) 37 #[.int .i64 y0, .int .i64 y1, .int .i64 y2, .slice A7 n7 c7] := Box.alloc (by simpa using Box.new (w.alloc (.cells #[.slice A0 n0 c0, .slice A1 n1 c1] 33)) 37 #[.int .i64 y0, .int .i64 y1, .int .i64 y2, .slice A7 n7 c7]) _
  have P2 : Box (((w.alloc (.cells #[.slice A0 n0 c0, .slice A1 n1 c1] 33)).alloc (.cells #[.int .i64 y0, .int .i64 y1, .int .i64 y2, .slice A7 n7 c7] 37)).alloc (.cells #[.slice none 0 0, .slice none 0 0] 33)) (w.heap.size + 1 + 1) 33 #[.slice none 0 0, .slice none 0 0] := by simpa using Box.new ((w.alloc (.cells #[.slice A0 n0 c0, .slice A1 n1 c1] 33)).alloc (.cells #[.int .i64 y0, .int .i64 y1, .int .i64 y2, .slice A7 n7 c7] 37)) 33 #[.slice none 0 0, .slice none 0 0]
  have hB0 : Below w.heap.size w (((w.alloc (.cells #[.slice A0 n0 c0, .slice A1 n1 c1] 33)).alloc (.cells #[.int .i64 y0, .int .i64 y1, .int .i64 y2, .slice A7 n7 c7] 37)).alloc (.cells #[.slice none 0 0, .slice none 0 0] 33)) := (belx)
  go_enter Tryz.func39, Tryz.ntmps39
  go_wp2_with fail
  refine (s_l4has y0 (hI1.below (show Below w.heap.size w (((w.alloc (.cells #[.slice A0 n0 c0, .slice A1 n1 c1] 33)).alloc (.cells #[.int .i64 y0, .int .i64 y1, .int .i64 y2, .slice A7 n7 c7] 37)).alloc (.cells #[.slice none 0 0, .slice none 0 0] 33)) from (belx))) (by omega)).mono ?_
  rintro e w' ⟨rfl, rfl⟩
  rw [HM.out]
  go_wp2
  have RR : Box (((w.alloc (.cells #[.slice A0 n0 c0, .slice A1 n1 c1] 33)).alloc (.cells #[.int .i64 y0, .int .i64 y1, .int .i64 y2, .slice A7 n7 c7] 37)).alloc (.cells #[.slice A0 n0 c0, .slice A1 n1 c1] 33)) (w.heap.size + 1 + 1) 33 #[.slice A0 n0 c0, .slice A1 n1 c1] := by simpa using Box.new ((w.alloc (.cells #[.slice A0 n0 c0, .slice A1 n1 c1] 33)).alloc (.cells #[.int .i64 y0, .int .i64 y1, .int .i64 y2, .slice A7 n7 c7] 37)) 33 #[.slice A0 n0 c0, .slice A1 n1 c1]
  have s0 := RR.cell 0; have s1 := RR.cell 1
  have hBF : Below w.heap.size w (((w.alloc (.cells #[.slice A0 n0 c0, .slice A1 n1 c1] 33)).alloc (.cells #[.int .i64 y0, .int .i64 y1, .int .i64 y2, .slice A7 n7 c7] 37)).alloc (.cells #[.slice A0 n0 c0, .slice A1 n1 c1] 33)) := (belx)
  refine bodyPost_ret (v := .tuple #[.agg #[.slice A0 n0 c0, .slice A1 n1 c1], .slice none 0 0, .int .i64 (-1)]) (by simp [results, Tryz.results39, go_sem, s0, s1]) rfl ⟨_, _, _, rfl, (RX kb (tWhX kb)).reach h0 hBF, (XT kb tIs).reach h1 hBF, fun w' _ => ⟨none, 0, 0, rfl, Nat.le_refl _, by omega, Ints.nil⟩, hBF⟩
end Go.Proofs.YtaabmaoldhoinaaGreat
