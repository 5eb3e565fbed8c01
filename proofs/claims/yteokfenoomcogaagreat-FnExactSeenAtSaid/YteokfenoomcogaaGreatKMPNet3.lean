/-
  PNet3: texts joined.
-/
import Derived.Test.YteokfenoomcogaaGreatKGi
import Derived.Test.YteokfenoomcogaaGreatKMPNet2
namespace Go.Proofs.YteokfenoomcogaaGreat
set_option maxRecDepth 100000
set_option linter.unusedVariables false
set_option linter.unusedSimpArgs false
open Go.ChangeShapes Go.WideShapes Go.ChangeAt Go.RowKit
open Fld
def gfil (x : Int) (l : List DGlance) : List DGlance := l.filter fun g => decide (g.1 = x)
theorem gfil_t {x : Int} {l : List DGlance} {j : Nat} {a : DGlance} (h : l[j]? = some a) (ha : a.1 = x) : gfil x (l.take (j + 1)) = gfil x (l.take j) ++ [a] := by
  unfold gfil; rw [take_sn h, List.filter_append, List.filter_cons_of_pos (by simpa using ha)]; rfl
theorem gfil_f {x : Int} {l : List DGlance} {j : Nat} {a : DGlance} (h : l[j]? = some a) (ha : ¬ a.1 = x) : gfil x (l.take (j + 1)) = gfil x (l.take j) := by
  unfold gfil; rw [take_sn h, List.filter_append, List.filter_cons_of_neg (by simpa using ha)]; simp
theorem gfil_len (x : Int) (l : List DGlance) : (gfil x l).length ≤ l.length := List.length_filter_le _ _
theorem gfil_in {x : Int} {l : List DGlance} {a : DGlance} (h : a ∈ gfil x l) : a ∈ l := (List.mem_filter.1 h).1
theorem cntF_app {α : Type} (f : α → Int) (l : List α) (a : α) : cntF f (l ++ [a]) = (cntF f l).set (f a).toNat ((cntF f l).getD (f a).toNat 0 + 1) := by
  unfold cntF; rw [List.foldl_append]; rfl
noncomputable def fAt (p : DNet) (x : Int) : List Int := if NtOk p then cntF (fun g : DGlance => g.2) (gfil x p.2.2.2.2.2.2) else []
theorem fAt_t {p : DNet} {x : Int} (h : NtOk p) : fAt p x = cntF (fun g : DGlance => g.2) (gfil x p.2.2.2.2.2.2) := if_pos h
theorem fAt_f {p : DNet} {x : Int} (h : ¬ NtOk p) : fAt p x = [] := if_neg h
theorem fAt_le (p : DNet) (x : Int) : (fAt p x).length ≤ 8 := by
  unfold fAt
  split
  · rw [cntF_len]; exact Nat.le_refl _
  · simp
theorem one_glance (x0 x1 : Int) : ∀ u ∈ [Value.int .i64 x0, .int .i64 x1], u.oneCell' = true := by
  intro u hu
  simp only [List.mem_cons, List.not_mem_nil, or_false] at hu
  rcases hu with rfl | rfl <;> rfl
theorem i_SeenAt1 (g : Nat) (x0 x1 x : Int) (w : World) (hg : w.cell? ⟨g, 0, none⟩ = some (.int .i64 x)) :
    Calls Tryz.prog 82 #[.agg #[.int .i64 x0, .int .i64 x1], .pointer (some ⟨g, 0, none⟩)] w fun e w' => e = .returned (.bool (decide (x0 = x))) ∧ Below w.heap.size w w' := by
  have hg2 : (w.alloc (.cells #[.int .i64 x0, .int .i64 x1] 81)).cell? ⟨g, 0, none⟩ = some (.int .i64 x) := cell_bel (belx) hg
  by_cases h : x0 = x
  · have HR := Lib.hid (show decide (x0 = x) = true from decide_eq_true h)
    have q : (x0 == x) = true := by simpa using h
    clear h
    go_enter Tryz.func82, Tryz.ntmps82
    go_wp2
    go_ret
    exact ⟨ret_bool (by first | (rw [HR.out]; exact q) | exact HR.out.symm), (belx)⟩
  · have HR := Lib.hid (show decide (x0 = x) = false from decide_eq_false h)
    have q : (x0 == x) = false := by simpa using h
    clear h
    go_enter Tryz.func82, Tryz.ntmps82
    go_wp2
    go_ret
    exact ⟨ret_bool (by first | (rw [HR.out]; exact q) | exact HR.out.symm), (belx)⟩
set_option maxHeartbeats 2000000 in
theorem i_onlyAt {w : World} {n c g : Nat} {A : Option Addr} {l : List DGlance} {x : Int} (h : tGlance.row.R w w.heap.size [.slice A n c] l) (hn : n ≤ 1048576) (hg : w.cell? ⟨g, 0, none⟩ = some (.int .i64 x)) :
    Calls Tryz.prog 81 #[.slice A n c, .func (.func 82) #[] #[.pointer (some ⟨g, 0, none⟩)]] w fun e w' => ∃ A' c', e = .returned (.slice A' (gfil x l).length c') ∧ tGlance.row.R w' w'.heap.size [.slice A' (gfil x l).length c'] (gfil x l) ∧ Below w.heap.size w w' := by
  obtain ⟨i1, hj0, hj1, hj2, hj3⟩ := info_parts info_Glance
  obtain ⟨e0, _, _⟩ := rowR_len h
  have HL := Lib.hid e0
  have hgs : g < w.heap.size := World.block_lt_of_cell? w _ hg
  clear e0
  go_enter Tryz.func81, Tryz.ntmps81
  go_wp2_with fail
  go_loopw [5, 10] (fun v i wr => ∃ j : Nat, j ≤ n ∧ i = .int .i64 j ∧ GrowR tGlance 81 wr w.heap.size w.heap.size v (gfil x (l.take j)) ∧ Below w.heap.size w wr) (fun _ i _ => n - (intOf i).toNat)
  case atStart => exact ⟨0, by omega, rfl, GrowR.nil, (belx)⟩
  case round =>
    obtain ⟨j, hj, rfl, hG, hB⟩ := hrel
    by_cases hlt : j < n
    · obtain ⟨a, b', off, es, hl2, rfl, hb, hes, hR⟩ := rowR_at (K := 2) h hlt rfl
      obtain ⟨rfl, -, -⟩ := openGlance hR
      have e0 : wr.cell? ⟨b', off + j * 2, none⟩ = some (.int .i64 a.1) := cell_at hB hb (hes 0 (by omega))
      have e1 : wr.cell? ⟨b', off + j * 2 + 1, none⟩ = some (.int .i64 a.2) := cell_at hB hb (hes 1 (by omega))
      clear hes
      have hRr : tGlance.R wr w.heap.size [.int .i64 a.1, .int .i64 a.2] a := tGlance.keep hR hB.block
      have hgr : wr.cell? ⟨g, 0, none⟩ = some (.int .i64 x) := cell_bel hB hg
      have hgr2 : (wr.alloc (.cells #[.int .i64 a.1, .int .i64 a.2] 81)).cell? ⟨g, 0, none⟩ = some (.int .i64 x) := cell_bel (belx) hgr
      have hll : (gfil x (l.take j)).length ≤ n := by have := gfil_len x (l.take j); rw [List.length_take] at this; omega
      have zB := hB.size
      by_cases ha : a.1 = x
      · have HT := Lib.hid (gfil_t hl2 ha)
        have HD := Lib.hid (show decide (a.1 = x) = true from decide_eq_true ha)
        clear hl2 hR
        have hOwn := fun b hb => (GrowR.row hG (Nat.le_refl _) (by omega)).choose_spec.1.lt b hb
        have tz : (Value.agg #[Value.int .i64 0, Value.int .i64 0]).cells.size = 2 := by first | rfl | (simp [Value.cells]; done)
        have t0 := one_glance a.1 a.2
        have t1 : (gfil x (l.take j)).length + 1 ≤ maxLen := by simp only [maxLen]; omega
        have t2 : ((gfil x (l.take j)).length + 1) * 16 ≤ 140737488355328 := by omega
        clear ha
        go_wp2_with fail
        refine (i_SeenAt1 _ _ _ _ _ hgr2).mono ?_
        rintro e w1 ⟨rfl, hb1⟩
        rw [HD.out]
        have hs1 : Below wr.heap.size wr w1 := bel_trans (belx) hb1
        have X1 : Box w1 wr.heap.size 81 #[.int .i64 a.1, .int .i64 a.2] := (Box.new _ _ _).below hb1 (by simp)
        have x0 : w1.cell? ⟨wr.heap.size, 0, none⟩ = some (.int .i64 a.1) := X1.cell 0
        have x1 : w1.cell? ⟨wr.heap.size, 1, none⟩ = some (.int .i64 a.2) := X1.cell 1
        have hBx : Below wr.heap.size wr (w1.alloc (.cells [.int .i64 a.1, .int .i64 a.2].toArray 81)) := bel_alloc hs1 _
        obtain ⟨xs, hrow, hpush⟩ := (hG.below hBx (by omega)).row (Nat.le_refl _) (by have := hBx.size; omega)
        have hS2 : Src (w1.alloc (.cells [.int .i64 a.1, .int .i64 a.2].toArray 81)) 2 (some ⟨w1.heap.size, 0, none⟩) 1 [.int .i64 a.1, .int .i64 a.2] := Src.of_box w1 81 [.int .i64 a.1, .int .i64 a.2] (K := 2) rfl
        have t3 := hBx.size
        go_wp2_with (at_builtin; refine wpList_app _ rfl (.tmp 17) (.tmp 19) _ rfl w.heap.size 81 i1 _ 2 16 Tryz.underlying33 hj0 hj1 hj2 hj3 tz (by omega) u5 _ xs rfl hrow _ 1 1 [.int .i64 a.1, .int .i64 a.2] rfl hS2 t0 t1 t2 (by omega) ?_; intro v2 w2 hown2 hgr2' hat2)
        have hfin := hpush w2 v2 a _ (tGlance.keep hRr fun b hlt => hBx.block b (by omega)) hown2 hgr2'
        have hBf : Below w.heap.size w w2 := Below.grown (w := (w1.alloc (.cells [.int .i64 a.1, .int .i64 a.2].toArray 81))) (bel_trans hB hBx) hgr2' (by omega) (fun b hb => (hOwn b hb).1)
        go_roundw
        case rel => exact ⟨j + 1, by omega, by go_num, by rw [HT.out]; exact hfin, hBf⟩
        case measure => simp [intOf]; omega
      · have HT := Lib.hid (gfil_f hl2 ha)
        have HD := Lib.hid (show decide (a.1 = x) = false from decide_eq_false ha)
        clear hl2 hR ha
        go_wp2_with fail
        refine (i_SeenAt1 _ _ _ _ _ hgr2).mono ?_
        rintro e w1 ⟨rfl, hb1⟩
        rw [HD.out]
        have hs1 : Below wr.heap.size wr w1 := bel_trans (belx) hb1
        go_wp2
        go_roundw
        case rel => exact ⟨j + 1, by omega, by go_num, by rw [HT.out]; exact hG.below hs1 (by omega), bel_trans hB hs1⟩
        case measure => simp [intOf]; omega
    · obtain rfl : n = j := by omega
      have HA := Lib.hid (show l.take n = l from List.take_of_length_le (Nat.le_of_eq HL.out))
      rw [HA.out] at hG
      obtain ⟨A3, c3, rfl, hRf⟩ := hG.done hB.size
      go_wp2
      go_ret
      exact ⟨A3, c3, rfl, hRf, hB⟩
set_option maxHeartbeats 2000000 in
theorem i_SeenAt {w : World} {cs : List Value} {p : DNet} {x : Int} (h : tNet.R w w.heap.size cs p) (hz : szNet p ≤ 1048576) (hx : (Lit.int .i64 x).wf = true) :
    Calls Tryz.prog 29 #[.agg cs.toArray, .int .i64 x] w fun e w' => ∃ A c F, e = .returned (.slice A (fAt p x).length c) ∧ tIs.O w' [.slice A (fAt p x).length c] (fAt p x) F ∧ New w.heap.size F ∧ Below w.heap.size w w' := by
  obtain ⟨A3, n3, c3, A4, n4, c4, A5, n5, c5, A6, n6, c6, rfl, -, -, -, -, -, -, hN, -, -, -, hM, -, -, -, hS, -, -, -, hG⟩ := openNet h
  by_cases hp : NtOk p
  · have HP := Lib.hid (decide_eq_true hp)
    have hn6 : n6 ≤ 500 := by have := hp.2.1.2.2; have := (rowR_len hG).1; omega
    have HH := Lib.hid (show ∀ g ∈ gfil x p.2.2.2.2.2.2, 0 ≤ g.2 ∧ g.2 < 8 from fun g hg => (hp.2.2.2.2.1 g (gfil_in hg)).2)
    have hll : (gfil x p.2.2.2.2.2.2).length ≤ 500 := by have := gfil_len x p.2.2.2.2.2.2; have := (rowR_len hG).1; omega
    have HLL := Lib.hid hll
    rw [fAt_t hp]
    obtain ⟨C, hC⟩ : ∃ C, cntF (fun g : DGlance => g.2) (gfil x p.2.2.2.2.2.2) = C := ⟨_, rfl⟩
    have HC := Lib.hid hC
    have hCl : C.length = 8 := by rw [← hC]; exact cntF_len _ _
    rw [hC]
    clear hC hp hll
    obtain ⟨L, hL⟩ : ∃ L, gfil x p.2.2.2.2.2.2 = L := ⟨_, rfl⟩
    have HL := Lib.hid hL
    rw [hL] at HH HC HLL
    clear hL
    go_enter Tryz.func29, Tryz.ntmps29
    go_wp2_with fail
    refine (i_NetOk (tNet.reach h ?hB) hz).mono ?_
    case hB => exact (belx)
    rintro e w1 ⟨rfl, hb1⟩
    rw [HP.out]
    have X1 : Box w1 w.heap.size 35 #[.int .i64 p.1, .int .i64 p.2.1, .int .i64 p.2.2.1, .slice A3 n3 c3, .slice A4 n4 c4, .slice A5 n5 c5, .slice A6 n6 c6] := Box.below ((Box.new w _ _).alloc _) hb1 (by first | (simp; done) | (simp; omega))
    have Y1 : Box w1 (w.heap.size + 1) 3 #[.int .i64 x] := Box.below (by simpa using Box.new (w.alloc _) 3 #[.int .i64 x]) hb1 (by first | (simp; done) | (simp; omega))
    have k6 : w1.cell? ⟨w.heap.size, 6, none⟩ = some (.slice A6 n6 c6) := X1.cell 6
    have y0 : w1.cell? ⟨w.heap.size + 1, 0, none⟩ = some (.int .i64 x) := Y1.cell 0
    have hB1 : Below w.heap.size w w1 := bel_trans (belx) hb1
    clear hb1
    go_wp2_with fail
    refine (i_onlyAt (tGlance.row.reach hG hB1) (by omega) y0).mono ?_
    rw [HL.out]
    rintro e w2 ⟨A2, c2, rfl, hR2, hb2⟩
    have hB2 : Below w.heap.size w w2 := bel_trans hB1 hb2
    obtain ⟨m, hm⟩ : ∃ m, L.length = m := ⟨_, rfl⟩
    rw [hm] at hR2 HLL
    rw [hm]
    have hm5 := HLL.out
    clear hm
    go_wp2_with fail
    refine (i_perNodeGlance 83 (fun a => a.2) (fun _ _ => rfl) (fun i a w' cs ha hBw hR => i_GlTo hR) HH.out hR2 (by omega)).mono ?_
    rintro e w3 ⟨rfl, hO, hb3⟩
    rw [HC.out] at hO
    obtain ⟨A, c, F, ev, hO2, hNw⟩ := own_slice hO
    go_wp2
    go_ret
    exact ⟨A, c, F, by first | rfl | (rw [ev]; done) | (rw [← ev]; done) | (rw [hCl]; done) | (rw [hCl]; rfl), hO2, hNw.lower hB2.size, bel_trans hB2 hb3⟩
  · have HP := Lib.hid (decide_eq_false hp)
    rw [fAt_f hp]
    clear hp
    go_enter Tryz.func29, Tryz.ntmps29
    go_wp2_with fail
    refine (i_NetOk (tNet.reach h ?hB) hz).mono ?_
    case hB => exact (belx)
    rintro e w1 ⟨rfl, hb1⟩
    rw [HP.out]
    go_wp2
    go_ret
    exact ⟨none, 0, [], rfl, nilO, New.nil _, bel_trans (belx) hb1⟩
set_option maxHeartbeats 2000000 in
theorem s_SeenAt {w : World} {cs : List Value} {p : DNet} {x : Int} (h : tNet.R w w.heap.size cs p) (hz : szNet p ≤ 1048576) (hx : (Lit.int .i64 x).wf = true) :
    Calls Tryz.prog 28 #[.agg cs.toArray, .int .i64 x] w fun e w' => ∃ A c, e = .returned (.slice A (fAt p x).length c) ∧ tIs.R w' w'.heap.size [.slice A (fAt p x).length c] (fAt p x) ∧ Below w.heap.size w w' := by
  obtain ⟨A3, n3, c3, A4, n4, c4, A5, n5, c5, A6, n6, c6, rfl, -, -, -, -, -, -, hN, -, -, -, hM, -, -, -, hS, -, -, -, hG⟩ := openNet h
  by_cases hp : NtOk p
  · obtain ⟨i0, hi0, hz0, hz1, hz2⟩ := info_parts info_ci
    have HP := Lib.hid (decide_eq_true hp)
    have e6 := (rowR_len hG).1
    have hn6 : n6 ≤ 500 := by have := hp.2.1.2.2; omega
    have E6 := Lib.hid e6
    have HH := Lib.hid (show ∀ g ∈ p.2.2.2.2.2.2, 0 ≤ g.2 ∧ g.2 < 8 from fun g hg => (hp.2.2.2.2.1 g hg).2)
    rw [fAt_t hp]
    clear hp e6
    go_enter Tryz.func28, Tryz.ntmps28
    go_wp2_with fail
    refine (s_NetOk (tNet.reach h ?hB) hz).mono ?_
    case hB => exact (belx)
    rintro e w1 ⟨rfl, hb1⟩
    rw [HP.out]
    have X1 : Box w1 w.heap.size 35 #[.int .i64 p.1, .int .i64 p.2.1, .int .i64 p.2.2.1, .slice A3 n3 c3, .slice A4 n4 c4, .slice A5 n5 c5, .slice A6 n6 c6] := (Box.new _ _ _).below hb1 (by simp)
    have k6 : w1.cell? ⟨w.heap.size, 6, none⟩ = some (.slice A6 n6 c6) := X1.cell 6
    have hB1 : Below w.heap.size w w1 := bel_trans (belx) hb1
    have z1 : w.heap.size + 1 ≤ w1.heap.size := by have := hb1.size; simpa using this
    clear hb1
    go_wp2_with (at_make; refine wpList_mk _ rfl _ _ _ rfl 3 i0 _ Tryz.underlying41 hi0 hz0 rfl hz1 8 rfl rfl (by rw [hz2]; omega) (by simp only [maxLen]; omega) ?_; intro w2 hrow hB2 hsz; have X2 := X1.below hB2 X1.size; have k2 : w2.cell? ⟨w.heap.size, 6, none⟩ = some (.slice A6 n6 c6) := X2.cell 6)
    go_loopw [6] (fun i wr => ∃ j : Nat, j ≤ n6 ∧ i = .int .i64 j ∧ Own .i64 3 wr w1.heap.size (.slice (some ⟨w1.heap.size, 0, none⟩) 8 8) (cntF (fun g : DGlance => g.2) (gfil x (p.2.2.2.2.2.2.take j))) ∧ Below w.heap.size w wr ∧ Box wr w.heap.size 35 #[.int .i64 p.1, .int .i64 p.2.1, .int .i64 p.2.2.1, .slice A3 n3 c3, .slice A4 n4 c4, .slice A5 n5 c5, .slice A6 n6 c6]) (fun i _ => n6 - (intOf i).toNat)
    case atStart => exact ⟨0, by omega, rfl, cntF_own _ hrow, bel_trans hB1 hB2, X2⟩
    case round =>
      obtain ⟨j, hj, rfl, hO, hB, hX⟩ := hrel
      clear k6 k2
      have k6 : wr.cell? ⟨w.heap.size, 6, none⟩ = some (.slice A6 n6 c6) := hX.cell 6
      by_cases hlt : j < n6
      · obtain ⟨a, b', off, es, hl2, rfl, hb, hes, hR⟩ := rowR_at (K := 2) hG hlt rfl
        have HA := Lib.hid hl2
        obtain ⟨q1, q2⟩ := HH.out a (alMem hl2)
        clear hl2
        obtain ⟨rfl, -, -⟩ := openGlance hR
        have e0 : wr.cell? ⟨b', off + j * 2, none⟩ = some (.int .i64 a.1) := cell_at hB hb (hes 0 (by omega))
        have e1 : wr.cell? ⟨b', off + j * 2 + 1, none⟩ = some (.int .i64 a.2) := cell_at hB hb (hes 1 (by omega))
        clear hes hR
        by_cases ha : a.1 = x
        rotate_left
        · have HT := Lib.hid (gfil_f HA.out ha)
          have q : (a.1 == x) = false := by simp [ha]
          clear ha
          go_wp2
          go_roundw
          case rel => exact ⟨j + 1, by omega, by go_num, by rw [HT.out]; exact hO, hB, hX⟩
          case measure => simp [intOf]; omega
        have q : (a.1 == x) = true := by simp [ha]
        have HT := Lib.hid (gfil_t HA.out ha)
        have HS := Lib.hid (cntF_app (fun g : DGlance => g.2) (gfil x (p.2.2.2.2.2.2.take j)) a)
        clear ha
        obtain ⟨k, hk⟩ : ∃ k : Nat, a.2 = k := ⟨a.2.toNat, by omega⟩
        simp only [hk] at e1 HS q1 q2
        have HK := Lib.hid hk
        clear hk
        have hk8 : k < 8 := by omega
        obtain ⟨g, c', ev, _, _, _, hgz, hcell, hfz⟩ := hO.row (by rw [cntF_len]; omega)
        have hlen : (gfil x (p.2.2.2.2.2.2.take j)).length ≤ 500 := by have := gfil_len x (p.2.2.2.2.2.2.take j); rw [List.length_take, E6.out] at this; omega
        obtain ⟨C, hC⟩ : ∃ C, cntF (fun g : DGlance => g.2) (gfil x (p.2.2.2.2.2.2.take j)) = C := ⟨_, rfl⟩
        have hCl : C.length = 8 := by rw [← hC]; exact cntF_len _ _
        have hCr := cntF_le (fun g : DGlance => g.2) (gfil x (p.2.2.2.2.2.2.take j))
        rw [hC] at hO hcell hCr HS ev
        rw [hCl] at ev hcell
        injection ev with ev _ _
        injection ev with ev
        injection ev with ev _ _
        subst ev
        clear hC
        have hck := hcell k hk8
        have hfk := hfz k
        obtain ⟨z, hx⟩ : ∃ z, C.getD k 0 = z := ⟨_, rfl⟩
        have hxr : 0 ≤ z ∧ z ≤ 500 := by
          have h1 := hCr (C.getD k 0) (by rw [List.getD_eq_getElem?_getD, List.getElem?_eq_getElem (by omega)]; exact List.getElem_mem _)
          rw [hx] at h1; omega
        rw [hx] at hck
        have hO8 : Own .i64 3 wr w1.heap.size (.slice (some ⟨w1.heap.size, 0, none⟩) C.length 8) C := by rw [hCl]; exact hO
        have hP := hO8.put k (z + 1) (wf_i64 (by omega) (by omega))
        rw [hCl] at hP
        have hEq : cntF (fun g : DGlance => g.2) (gfil x (p.2.2.2.2.2.2.take (j + 1))) = C.set k (z + 1) := by rw [HT.out, HS.out, Int.toNat_natCast, hx]
        have HE := Lib.hid hEq
        clear hcell hfz hCr hx hEq hCl hlen
        go_wp2
        go_roundw
        case rel => exact ⟨j + 1, by omega, by go_num, by rw [HE.out]; exact hP, bel_put hB (by simp; omega) _, hX.far (by simp; omega) _⟩
        case measure => simp [intOf]; omega
      · obtain rfl : n6 = j := by omega
        have HA := Lib.hid (show p.2.2.2.2.2.2.take n6 = p.2.2.2.2.2.2 from List.take_of_length_le (Nat.le_of_eq E6.out))
        rw [HA.out] at hO
        have HL := Lib.hid (cntF_len (fun g : DGlance => g.2) (gfil x p.2.2.2.2.2.2))
        go_wp2
        go_ret
        obtain ⟨A, c, F, ev, hO2, hNw⟩ := own_slice hO
        exact ⟨A, c, by rw [← ev]; rw [HL.out] at *; rfl, tIs.read hO2, hB⟩
  · have HP := Lib.hid (decide_eq_false hp)
    rw [fAt_f hp]
    clear hp
    go_enter Tryz.func28, Tryz.ntmps28
    go_wp2_with fail
    refine (s_NetOk (tNet.reach h ?hB) hz).mono ?_
    case hB => exact (belx)
    rintro e w1 ⟨rfl, hb1⟩
    rw [HP.out]
    go_wp2
    go_ret
    exact ⟨none, 0, rfl, nilR, bel_trans (belx) hb1⟩
end Go.Proofs.YteokfenoomcogaaGreat
