/-
  DrawDt: texts joined.
-/
import Derived.Test.YtaabmaoldhoinaaGreatVGh
namespace Go.Proofs.YtaabmaoldhoinaaGreat
set_option maxRecDepth 100000
set_option linter.unusedVariables false
set_option linter.unusedSimpArgs false
open Go.ChangeShapes Go.WideShapes Go.ChangeAt Go.RowKit
open Fld
set_option maxHeartbeats 3000000 in
theorem d_TakePiece {w : World} {n c : Nat} {A : Option Addr} {l : List Int} (hl : Ints .u8 w w.heap.size A n l) (hn : n ≤ 140737488355328) :
    Calls Tryz.prog 26 #[.slice A n c] w fun e w' => ∃ v0 v1 p ch q x, e = .returned (.tuple #[.agg #[v0, v1], .agg ch.toArray, .int .i64 x]) ∧ tDesk.R w' w'.heap.size [v0, v1] p ∧ DkLim p ∧ tPiece.R w' w'.heap.size ch q ∧ PcLim q ∧ (-1 ≤ x ∧ x ≤ 65536) ∧ Below w.heap.size w w' := by
  have R0 : Box ((w.alloc (.cells #[.slice none 0 0, .slice none 0 0] 33)).alloc (.cells #[.int .i64 0, .int .i64 0, .int .i64 0, .slice none 0 0] 37)) w.heap.size 33 #[.slice none 0 0, .slice none 0 0] := (Box.new _ _ _).alloc _
  have Q0 : Box ((w.alloc (.cells #[.slice none 0 0, .slice none 0 0] 33)).alloc (.cells #[.int .i64 0, .int .i64 0, .int .i64 0, .slice none 0 0] 37)) (w.heap.size + 1) 37 #[.int .i64 0, .int .i64 0, .int .i64 0, .slice none 0 0] := by simpa using Box.new (w.alloc (.cells #[.slice none 0 0, .slice none 0 0] 33)) 37 #[.int .i64 0, .int .i64 0, .int .i64 0, .slice none 0 0]
  have hl0 : Ints .u8 ((w.alloc (.cells #[.slice none 0 0, .slice none 0 0] 33)).alloc (.cells #[.int .i64 0, .int .i64 0, .int .i64 0, .slice none 0 0] 37)) ((w.alloc (.cells #[.slice none 0 0, .slice none 0 0] 33)).alloc (.cells #[.int .i64 0, .int .i64 0, .int .i64 0, .slice none 0 0] 37)).heap.size A n l := reach hl (show Below w.heap.size w ((w.alloc (.cells #[.slice none 0 0, .slice none 0 0] 33)).alloc (.cells #[.int .i64 0, .int .i64 0, .int .i64 0, .slice none 0 0] 37)) from (belx))
  go_enter Tryz.func26, Tryz.ntmps26
  go_wp2_with fail
  refine (k_New hl0 hn).mono ?_
  rintro e w1 ⟨g, rfl, hg, hC1, hb1⟩
  have hB1 : Below w.heap.size w w1 := bel_trans (show Below w.heap.size w ((w.alloc (.cells #[.slice none 0 0, .slice none 0 0] 33)).alloc (.cells #[.int .i64 0, .int .i64 0, .int .i64 0, .slice none 0 0] 37)) from (belx)) hb1
  have R1 := R0.below hb1 (by rw [World.size_alloc, World.size_alloc]; omega)
  have Q1 := Q0.below hb1 (by rw [World.size_alloc, World.size_alloc]; omega)
  simp only [World.size_alloc] at hg
  have hgw : w.heap.size ≤ g := by omega
  have z1 := hC1.size
  have zW : w.heap.size < w1.heap.size := R1.size
  have zW1 : w.heap.size + 1 < w1.heap.size := Q1.size
  have hrg : some w.heap.size ≠ some g := fun e => by injection e with e; omega
  have hqg : some (w.heap.size + 1) ≠ some g := fun e => by injection e with e; omega
  go_wp2_with fail
  refine (k_bentDesk hC1).mono ?_
  rintro e w2 ⟨v0, v1, p, rfl, hX2, hlim, hC2, hG2⟩
  obtain ⟨A0, n0, c0, A1, n1, c1, e7, -, -, -, -⟩ := openDkX hX2
  simp only [List.cons.injEq, and_true] at e7
  obtain ⟨rfl, rfl⟩ := e7
  have R2 := R1.grown hG2 hrg
  have Q2 := Q1.grown hG2 hqg
  have hB2 := below_gb2 hB1 hgw hG2
  have z2 := hG2.size
  obtain ⟨db, hdb⟩ : ∃ db, w2.heap.size = db := ⟨_, rfl⟩
  obtain ⟨wx, hwx⟩ : ∃ wx, w2.alloc (.cells #[.slice A0 n0 c0, .slice A1 n1 c1] 33) = wx := ⟨_, rfl⟩
  have Rx : Box wx w.heap.size 33 #[.slice none 0 0, .slice none 0 0] := by rw [← hwx]; exact R2.alloc _
  have Qx : Box wx (w.heap.size + 1) 37 #[.int .i64 0, .int .i64 0, .int .i64 0, .slice none 0 0] := by rw [← hwx]; exact Q2.alloc _
  have Dx : Box wx db 33 #[.slice A0 n0 c0, .slice A1 n1 c1] := by rw [← hwx, ← hdb]; exact Box.new _ _ _
  have hXx : (tDkX w1.heap.size).R wx wx.heap.size [.slice A0 n0 c0, .slice A1 n1 c1] p := by rw [← hwx]; exact (tDkX w1.heap.size).reach hX2 (bel_alloc (Below.refl _ _) _)
  have hCx : Curs wx g A n c l := by rw [← hwx]; exact hC2.alloc _
  have hBx : Below w.heap.size w wx := by rw [← hwx]; exact bel_alloc hB2 _
  have zxw : w1.heap.size ≤ wx.heap.size := by rw [← hwx]; simp; omega
  have hdw : w.heap.size + 1 < db := by omega
  have hdg : some db ≠ some g := fun e => by injection e with e; omega
  have HCL := Lib.hid (show ∀ i, i < 6 → (wx.alloc (.cells #[.int .i64 0, .int .i64 9, .int .i64 65535, .int .i64 65536, .int .i64 (-1), .int .i64 30] 3)).cell? ⟨wx.heap.size, 0 + i, none⟩ = some (.int .i64 (([0, 9, 65535, 65536, -1, 30] : List Int).getD i 0)) from rowcells4 wx 3 [0, 9, 65535, 65536, -1, 30])
  have hlg : g < wx.heap.size := hCx.size
  have d0 := Dx.cell 0
  have d1 := Dx.cell 1
  go_wp2_with fail
  clear hdb hwx R2 Q2 hX2 hC2 hG2 hB2 R1 Q1 R0 Q0
  refine wp_region_held_drew (S := (fun w' => w'.cell? ⟨db, 0, none⟩ = some (.slice A0 n0 c0) ∧ w'.cell? ⟨db, 1, none⟩ = some (.slice A1 n1 c1))) (by kernel_rfl) (by exact ⟨Dx.cell 0, Dx.cell 1⟩) (fun hHeld => ?_)
  refine wpAnyH_take (i := 0) (oi := ⟨some 11, _, _, _, _, _⟩) (v := ?v34) rfl (by kernel_rfl) (by kernel_rfl) (by kernel_rfl) (fun _ _ _ h => h) (Or.inl ⟨by rfl, ?hy34⟩) (by assumption) ?_
  case hy34 => (intro w hSw; (try dsimp only at hSw); go_simp; try (with_reducible rfl))
  (try simp only [Act.put, qa_, qb_, qc_])
  refine wpAnyH_take (i := 1) (oi := ⟨some 12, _, _, _, _, _⟩) (v := ?v35) rfl (by kernel_rfl) (by kernel_rfl) (by kernel_rfl) (fun _ _ _ h => h) (Or.inl ⟨by rfl, ?hy35⟩) (by assumption) ?_
  case hy35 => (intro w hSw; (try dsimp only at hSw); go_simp; try (with_reducible rfl))
  (try simp only [Act.put, qa_, qb_, qc_])
  refine wpAnyH_take (i := 3) (oi := ⟨some 14, _, _, _, _, _⟩) (v := ?v36) rfl (by kernel_rfl) (by kernel_rfl) (by kernel_rfl) (fun _ _ _ h => h) (Or.inl ⟨by rfl, ?hy36⟩) (by assumption) ?_
  case hy36 => (intro w hSw; (try dsimp only at hSw); go_simp; try (with_reducible rfl))
  (try simp only [Act.put, qa_, qb_, qc_])
  refine wpAnyH_ready (rs := [2, 4]) (by kernel_rfl) (by simp) ?_
  refine AllReadyH.cons rfl (fun K hK => ?_) ?_
  · go_simp
    go_at_call 77
    refine (k_bentP (show Curs (wx.drew) g A n c l from hCx)).mono ?_
    rintro e w6 ⟨v6, q, rfl, hO0, hpl, hCb, hG0⟩
    have hO6 := hO0.lower (base' := w1.heap.size) (show w1.heap.size ≤ wx.heap.size from zxw)
    have hGb : wx.grownBy w6 (some g) := gb_trans (gb_drew (gb_self wx g)) hG0
    obtain ⟨A6, c6, rfl, -⟩ := hO6.shape
    obtain ⟨x0, x1, x2, qd⟩ := q
    dsimp only at hO6 ⊢
    obtain ⟨n6, hn6⟩ : ∃ m, qd.length = m := ⟨_, rfl⟩
    rw [hn6] at hO6 ⊢
    clear hn6
    have R6 := Rx.grown hGb hrg
    have Q6 := Qx.grown hGb hqg
    have D6 := Dx.grown hGb hdg
    have X6 := (firm_Dk w1.heap.size).at hXx (Alike.grown hGb z1 (Nat.le_refl _)) hGb.size
    have S6 := slX_own (g := w1.heap.size) hO6 (Nat.le_refl _)
    have hBx6 := below_gb2 hBx hgw hGb
    have zb := hGb.size
    go_wp2_with fail
    refine hK.out _ _ (by exact ⟨D6.cell 0, D6.cell 1⟩) (fun hHeld => ?_)
    clear hK K
    (try simp only [Act.put, qa_, qb_, qc_])
    refine wpAnyH_ready (rs := [4]) (by kernel_rfl) (by simp) ?_
    refine AllReadyH.cons rfl (fun K hK => ?_) ?_
    · go_simp
      refine hK.out _ _ (by exact ⟨(D6.alloc _).cell 0, (D6.alloc _).cell 1⟩) (fun hHeld => ?_)
      clear hK K
      (try simp only [Act.put, qa_, qb_, qc_])
      refine wpAnyH_ready (rs := [5]) (by kernel_rfl) (by simp) ?_
      refine AllReadyH.cons rfl (fun K hK => ?_) ?_
      · go_simp
        go_at_call 64
        have hcl : ∀ i, i < 6 → (w6.alloc (.cells #[.int .i64 0, .int .i64 9, .int .i64 65535, .int .i64 65536, .int .i64 (-1), .int .i64 30] 3)).cell? ⟨w6.heap.size, 0 + i, none⟩ = some (.int .i64 (([0, 9, 65535, 65536, -1, 30] : List Int).getD i 0)) := rowcells4 w6 3 [0, 9, 65535, 65536, -1, 30]
        have hCx : Curs (w6.alloc (.cells #[.int .i64 0, .int .i64 9, .int .i64 65535, .int .i64 65536, .int .i64 (-1), .int .i64 30] 3)) g A n c l := hCb.alloc _
        refine (k_Pick (L := some ⟨w6.heap.size, 0, none⟩) (m := 6) (d := 6) (zs := [0, 9, 65535, 65536, -1, 30]) (w6.alloc (.cells #[.int .i64 0, .int .i64 9, .int .i64 65535, .int .i64 65536, .int .i64 (-1), .int .i64 30] 3)) hCx (gb_self _ g) ⟨w6.heap.size, 0, rfl, by have := hCb.size; omega, by simp, hcl⟩ (by omega) (by omega) rfl).mono ?_
        rintro e wp ⟨x, rfl, hx, hCp, hGp0⟩
        have hGp : w6.grownBy wp (some g) := gb_trans (gb_alloc (gb_self w6 g) _) hGp0
        have hx2 : -1 ≤ x ∧ x ≤ 65536 := by simp only [List.mem_cons, List.not_mem_nil, or_false] at hx; omega
        have R7 := R6.grown hGp hrg
        have Q7 := Q6.grown hGp hqg
        have D7 := D6.grown hGp hdg
        have X7 := (firm_Dk w1.heap.size).at X6 (Alike.grown hGp z1 (Nat.le_refl _)) hGp.size
        have S7 := xt_at S6 (Alike.grown hGp z1 (Nat.le_refl _)) hGp.size
        have hB7 := below_gb2 hBx6 hgw hGp
        have y0 := R7.cell 0; have y1 := R7.cell 1; have f0 := R7.frozen 0; have f1 := R7.frozen 1
        clear hx hcl
        go_wp2_with fail
        refine hK.out _ _ (by exact ⟨D7.cell 0, D7.cell 1⟩) (fun hHeld => ?_)
        clear hK K
        (try simp only [Act.put, qa_, qb_, qc_])
        refine wpAnyH_ready (rs := [6]) (by kernel_rfl) (by simp) ?_
        refine AllReadyH.cons rfl (fun K hK => ?_) ?_
        · have R8 := (R7.put 0 (.slice A0 n0 c0)).put 1 (.slice A1 n1 c1)
          have Q8 := (Q7.far (p := ⟨w.heap.size, 0, none⟩) (by show w.heap.size + 1 ≠ w.heap.size; omega) (.slice A0 n0 c0)).far (p := ⟨w.heap.size, 1, none⟩) (by show w.heap.size + 1 ≠ w.heap.size; omega) (.slice A1 n1 c1)
          have D8 := (D7.far (p := ⟨w.heap.size, 0, none⟩) (by show db ≠ w.heap.size; omega) (.slice A0 n0 c0)).far (p := ⟨w.heap.size, 1, none⟩) (by show db ≠ w.heap.size; omega) (.slice A1 n1 c1)
          have X8 := (firm_Dk w1.heap.size).at ((firm_Dk w1.heap.size).at X7 (Alike.put wp (p := ⟨w.heap.size, 0, none⟩) zW (.slice A0 n0 c0)) (by simp [World.setCell])) (Alike.put _ (p := ⟨w.heap.size, 1, none⟩) zW (.slice A1 n1 c1)) (by simp [World.setCell])
          have S8 := xt_at (xt_at S7 (Alike.put wp (p := ⟨w.heap.size, 0, none⟩) zW (.slice A0 n0 c0)) (by simp [World.setCell])) (Alike.put _ (p := ⟨w.heap.size, 1, none⟩) zW (.slice A1 n1 c1)) (by simp [World.setCell])
          have hB8 := (hB7.setCell (p := ⟨w.heap.size, 0, none⟩) (Nat.le_refl _) (.slice A0 n0 c0)).setCell (p := ⟨w.heap.size, 1, none⟩) (Nat.le_refl _) (.slice A1 n1 c1)
          have q80 := Q8.cell 0; have q81 := Q8.cell 1; have q82 := Q8.cell 2; have q83 := Q8.cell 3; have qf0 := Q8.frozen 0; have qf1 := Q8.frozen 1; have qf2 := Q8.frozen 2; have qf3 := Q8.frozen 3
          go_simp
          refine hK.out _ _ (by exact ⟨D8.cell 0, D8.cell 1⟩) (fun hHeld => ?_)
          clear hK K
          (try simp only [Act.put, qa_, qb_, qc_])
          refine wpAnyH_ready (rs := [7]) (by kernel_rfl) (by simp) ?_
          refine AllReadyH.cons rfl (fun K hK => ?_) ?_
          · have R9 := ((((R8.far (p := ⟨w.heap.size + 1, 0, none⟩) (by show w.heap.size ≠ w.heap.size + 1; omega) (.int .i64 x0)).far (p := ⟨w.heap.size + 1, 1, none⟩) (by show w.heap.size ≠ w.heap.size + 1; omega) (.int .i64 x1)).far (p := ⟨w.heap.size + 1, 2, none⟩) (by show w.heap.size ≠ w.heap.size + 1; omega) (.int .i64 x2)).far (p := ⟨w.heap.size + 1, 3, none⟩) (by show w.heap.size ≠ w.heap.size + 1; omega) (.slice A6 n6 c6))
            have D9 := ((((D8.far (p := ⟨w.heap.size + 1, 0, none⟩) (by show db ≠ w.heap.size + 1; omega) (.int .i64 x0)).far (p := ⟨w.heap.size + 1, 1, none⟩) (by show db ≠ w.heap.size + 1; omega) (.int .i64 x1)).far (p := ⟨w.heap.size + 1, 2, none⟩) (by show db ≠ w.heap.size + 1; omega) (.int .i64 x2)).far (p := ⟨w.heap.size + 1, 3, none⟩) (by show db ≠ w.heap.size + 1; omega) (.slice A6 n6 c6))
            have X9 := ((firm_Dk w1.heap.size).at ((firm_Dk w1.heap.size).at ((firm_Dk w1.heap.size).at ((firm_Dk w1.heap.size).at X8 (Alike.put _ (p := ⟨w.heap.size + 1, 0, none⟩) zW1 (.int .i64 x0)) (by simp [World.setCell])) (Alike.put _ (p := ⟨w.heap.size + 1, 1, none⟩) zW1 (.int .i64 x1)) (by simp [World.setCell])) (Alike.put _ (p := ⟨w.heap.size + 1, 2, none⟩) zW1 (.int .i64 x2)) (by simp [World.setCell])) (Alike.put _ (p := ⟨w.heap.size + 1, 3, none⟩) zW1 (.slice A6 n6 c6)) (by simp [World.setCell]))
            have S9 := (xt_at (xt_at (xt_at (xt_at S8 (Alike.put _ (p := ⟨w.heap.size + 1, 0, none⟩) zW1 (.int .i64 x0)) (by simp [World.setCell])) (Alike.put _ (p := ⟨w.heap.size + 1, 1, none⟩) zW1 (.int .i64 x1)) (by simp [World.setCell])) (Alike.put _ (p := ⟨w.heap.size + 1, 2, none⟩) zW1 (.int .i64 x2)) (by simp [World.setCell])) (Alike.put _ (p := ⟨w.heap.size + 1, 3, none⟩) zW1 (.slice A6 n6 c6)) (by simp [World.setCell]))
            have hB9 := ((((hB8.setCell (p := ⟨w.heap.size + 1, 0, none⟩) (Nat.le_succ _) (.int .i64 x0)).setCell (p := ⟨w.heap.size + 1, 1, none⟩) (Nat.le_succ _) (.int .i64 x1)).setCell (p := ⟨w.heap.size + 1, 2, none⟩) (Nat.le_succ _) (.int .i64 x2)).setCell (p := ⟨w.heap.size + 1, 3, none⟩) (Nat.le_succ _) (.slice A6 n6 c6))
            have Q9 := ((((Q8.put 0 (.int .i64 x0)).put 1 (.int .i64 x1)).put 2 (.int .i64 x2)).put 3 (.slice A6 n6 c6))
            go_simp
            refine hK.out _ _ (by exact ⟨D9.cell 0, D9.cell 1⟩) (fun hHeld => ?_)
            clear hK K
            (try simp only [Act.put, qa_, qb_, qc_])
            refine wpAnyH_take (i := 8) (oi := ⟨some 4, _, _, _, _, _⟩) (v := ?v37) rfl (by kernel_rfl) (by kernel_rfl) (by kernel_rfl) (fun _ _ _ h => h) (Or.inl ⟨by rfl, ?hy37⟩) (by assumption) ?_
            case hy37 => (intro w hSw; (try dsimp only at hSw); go_simp; try (with_reducible rfl))
            (try simp only [Act.put, qa_, qb_, qc_])
            refine wpAnyH_done (by kernel_rfl) ?_ _
            go_wp2
            have e0 := R9.cell 0; have e1 := R9.cell 1; have e2 := Q9.cell 0; have e3 := Q9.cell 1; have e4 := Q9.cell 2; have e5 := Q9.cell 3
            obtain ⟨l0, l1, l2, l3⟩ := hpl
            dsimp only at l0 l1 l2 l3
            have wf0 : (Lit.int .i64 x0).wf = true := WalkArith.wf_i64 ⟨by omega, by omega⟩
            have wf1 : (Lit.int .i64 x1).wf = true := WalkArith.wf_i64 ⟨by omega, by omega⟩
            have wf2 : (Lit.int .i64 x2).wf = true := WalkArith.wf_i64 ⟨by omega, by omega⟩
            refine bodyPost_ret (v := .tuple #[.agg #[.slice A0 n0 c0, .slice A1 n1 c1], .agg #[.int .i64 x0, .int .i64 x1, .int .i64 x2, .slice A6 n6 c6], .int .i64 x]) (by simp [results, Tryz.results26, go_sem, e0, e1, e2, e3, e4, e5]) rfl ⟨_, _, p, [.int .i64 x0, .int .i64 x1, .int .i64 x2, .slice A6 n6 c6], (x0, x1, x2, qd), x, rfl, dkX_R X9, hlim, xt_R (pcX_of S9 wf0 wf1 wf2), ⟨l0, l1, l2, l3⟩, hx2, hB9⟩
          exact AllReadyH.nil
        exact AllReadyH.nil
      exact AllReadyH.nil
    exact AllReadyH.nil
  refine AllReadyH.cons rfl (fun K hK => ?_) ?_
  · go_simp
    refine hK.out _ _ (by exact ⟨(Dx.alloc _).cell 0, (Dx.alloc _).cell 1⟩) (fun hHeld => ?_)
    clear hK K
    (try simp only [Act.put, qa_, qb_, qc_])
    refine wpAnyH_ready (rs := [2]) (by kernel_rfl) (by simp) ?_
    refine AllReadyH.cons rfl (fun K hK => ?_) ?_
    · go_simp
      go_at_call 77
      refine (k_bentP (show Curs ((wx.alloc (.cells #[.int .i64 0, .int .i64 9, .int .i64 65535, .int .i64 65536, .int .i64 (-1), .int .i64 30] 3)).drew) g A n c l from hCx.alloc _)).mono ?_
      rintro e w6 ⟨v6, q, rfl, hO0, hpl, hCb, hG0⟩
      have hO6 := hO0.lower (base' := w1.heap.size) (Nat.le_trans zxw (Nat.le_of_lt (by show wx.heap.size < (World.alloc wx _).heap.size; simp)))
      have hGb : wx.grownBy w6 (some g) := gb_trans (gb_drew (gb_alloc (gb_self wx g) _)) hG0
      obtain ⟨A6, c6, rfl, -⟩ := hO6.shape
      obtain ⟨x0, x1, x2, qd⟩ := q
      dsimp only at hO6 ⊢
      obtain ⟨n6, hn6⟩ : ∃ m, qd.length = m := ⟨_, rfl⟩
      rw [hn6] at hO6 ⊢
      clear hn6
      have R6 := Rx.grown hGb hrg
      have Q6 := Qx.grown hGb hqg
      have D6 := Dx.grown hGb hdg
      have X6 := (firm_Dk w1.heap.size).at hXx (Alike.grown hGb z1 (Nat.le_refl _)) hGb.size
      have S6 := slX_own (g := w1.heap.size) hO6 (Nat.le_refl _)
      have hBx6 := below_gb2 hBx hgw hGb
      have zb := hGb.size
      have hGb : (wx.alloc (.cells #[.int .i64 0, .int .i64 9, .int .i64 65535, .int .i64 65536, .int .i64 (-1), .int .i64 30] 3)).grownBy w6 (some g) := gb_trans (gb_drew (gb_self _ g)) hG0
      have hlb : wx.heap.size < (wx.alloc (.cells #[.int .i64 0, .int .i64 9, .int .i64 65535, .int .i64 65536, .int .i64 (-1), .int .i64 30] 3)).heap.size := by rw [World.size_alloc]; omega
      go_wp2_with fail
      refine hK.out _ _ (by exact ⟨D6.cell 0, D6.cell 1⟩) (fun hHeld => ?_)
      clear hK K
      (try simp only [Act.put, qa_, qb_, qc_])
      refine wpAnyH_ready (rs := [5]) (by kernel_rfl) (by simp) ?_
      refine AllReadyH.cons rfl (fun K hK => ?_) ?_
      · go_simp
        go_at_call 64
        have hcl : ∀ i, i < 6 → w6.cell? ⟨wx.heap.size, 0 + i, none⟩ = some (.int .i64 (([0, 9, 65535, 65536, -1, 30] : List Int).getD i 0)) := fun i hi => (World.cell?_of_block (hGb.block wx.heap.size hlb (fun e => by injection e with e; omega))).trans (HCL.out i hi)
        refine (k_Pick (L := some ⟨wx.heap.size, 0, none⟩) (m := 6) (d := 6) (zs := [0, 9, 65535, 65536, -1, 30]) w6 hCb (gb_self _ g) ⟨wx.heap.size, 0, rfl, by omega, Nat.lt_of_lt_of_le hlb hGb.size, hcl⟩ (by omega) (by omega) rfl).mono ?_
        rintro e wp ⟨x, rfl, hx, hCp, hGp⟩
        have hx2 : -1 ≤ x ∧ x ≤ 65536 := by simp only [List.mem_cons, List.not_mem_nil, or_false] at hx; omega
        have R7 := R6.grown hGp hrg
        have Q7 := Q6.grown hGp hqg
        have D7 := D6.grown hGp hdg
        have X7 := (firm_Dk w1.heap.size).at X6 (Alike.grown hGp z1 (Nat.le_refl _)) hGp.size
        have S7 := xt_at S6 (Alike.grown hGp z1 (Nat.le_refl _)) hGp.size
        have hB7 := below_gb2 hBx6 hgw hGp
        have y0 := R7.cell 0; have y1 := R7.cell 1; have f0 := R7.frozen 0; have f1 := R7.frozen 1
        clear hx hcl
        go_wp2_with fail
        refine hK.out _ _ (by exact ⟨D7.cell 0, D7.cell 1⟩) (fun hHeld => ?_)
        clear hK K
        (try simp only [Act.put, qa_, qb_, qc_])
        refine wpAnyH_ready (rs := [6]) (by kernel_rfl) (by simp) ?_
        refine AllReadyH.cons rfl (fun K hK => ?_) ?_
        · have R8 := (R7.put 0 (.slice A0 n0 c0)).put 1 (.slice A1 n1 c1)
          have Q8 := (Q7.far (p := ⟨w.heap.size, 0, none⟩) (by show w.heap.size + 1 ≠ w.heap.size; omega) (.slice A0 n0 c0)).far (p := ⟨w.heap.size, 1, none⟩) (by show w.heap.size + 1 ≠ w.heap.size; omega) (.slice A1 n1 c1)
          have D8 := (D7.far (p := ⟨w.heap.size, 0, none⟩) (by show db ≠ w.heap.size; omega) (.slice A0 n0 c0)).far (p := ⟨w.heap.size, 1, none⟩) (by show db ≠ w.heap.size; omega) (.slice A1 n1 c1)
          have X8 := (firm_Dk w1.heap.size).at ((firm_Dk w1.heap.size).at X7 (Alike.put wp (p := ⟨w.heap.size, 0, none⟩) zW (.slice A0 n0 c0)) (by simp [World.setCell])) (Alike.put _ (p := ⟨w.heap.size, 1, none⟩) zW (.slice A1 n1 c1)) (by simp [World.setCell])
          have S8 := xt_at (xt_at S7 (Alike.put wp (p := ⟨w.heap.size, 0, none⟩) zW (.slice A0 n0 c0)) (by simp [World.setCell])) (Alike.put _ (p := ⟨w.heap.size, 1, none⟩) zW (.slice A1 n1 c1)) (by simp [World.setCell])
          have hB8 := (hB7.setCell (p := ⟨w.heap.size, 0, none⟩) (Nat.le_refl _) (.slice A0 n0 c0)).setCell (p := ⟨w.heap.size, 1, none⟩) (Nat.le_refl _) (.slice A1 n1 c1)
          have q80 := Q8.cell 0; have q81 := Q8.cell 1; have q82 := Q8.cell 2; have q83 := Q8.cell 3; have qf0 := Q8.frozen 0; have qf1 := Q8.frozen 1; have qf2 := Q8.frozen 2; have qf3 := Q8.frozen 3
          go_simp
          refine hK.out _ _ (by exact ⟨D8.cell 0, D8.cell 1⟩) (fun hHeld => ?_)
          clear hK K
          (try simp only [Act.put, qa_, qb_, qc_])
          refine wpAnyH_ready (rs := [7]) (by kernel_rfl) (by simp) ?_
          refine AllReadyH.cons rfl (fun K hK => ?_) ?_
          · have R9 := ((((R8.far (p := ⟨w.heap.size + 1, 0, none⟩) (by show w.heap.size ≠ w.heap.size + 1; omega) (.int .i64 x0)).far (p := ⟨w.heap.size + 1, 1, none⟩) (by show w.heap.size ≠ w.heap.size + 1; omega) (.int .i64 x1)).far (p := ⟨w.heap.size + 1, 2, none⟩) (by show w.heap.size ≠ w.heap.size + 1; omega) (.int .i64 x2)).far (p := ⟨w.heap.size + 1, 3, none⟩) (by show w.heap.size ≠ w.heap.size + 1; omega) (.slice A6 n6 c6))
            have D9 := ((((D8.far (p := ⟨w.heap.size + 1, 0, none⟩) (by show db ≠ w.heap.size + 1; omega) (.int .i64 x0)).far (p := ⟨w.heap.size + 1, 1, none⟩) (by show db ≠ w.heap.size + 1; omega) (.int .i64 x1)).far (p := ⟨w.heap.size + 1, 2, none⟩) (by show db ≠ w.heap.size + 1; omega) (.int .i64 x2)).far (p := ⟨w.heap.size + 1, 3, none⟩) (by show db ≠ w.heap.size + 1; omega) (.slice A6 n6 c6))
            have X9 := ((firm_Dk w1.heap.size).at ((firm_Dk w1.heap.size).at ((firm_Dk w1.heap.size).at ((firm_Dk w1.heap.size).at X8 (Alike.put _ (p := ⟨w.heap.size + 1, 0, none⟩) zW1 (.int .i64 x0)) (by simp [World.setCell])) (Alike.put _ (p := ⟨w.heap.size + 1, 1, none⟩) zW1 (.int .i64 x1)) (by simp [World.setCell])) (Alike.put _ (p := ⟨w.heap.size + 1, 2, none⟩) zW1 (.int .i64 x2)) (by simp [World.setCell])) (Alike.put _ (p := ⟨w.heap.size + 1, 3, none⟩) zW1 (.slice A6 n6 c6)) (by simp [World.setCell]))
            have S9 := (xt_at (xt_at (xt_at (xt_at S8 (Alike.put _ (p := ⟨w.heap.size + 1, 0, none⟩) zW1 (.int .i64 x0)) (by simp [World.setCell])) (Alike.put _ (p := ⟨w.heap.size + 1, 1, none⟩) zW1 (.int .i64 x1)) (by simp [World.setCell])) (Alike.put _ (p := ⟨w.heap.size + 1, 2, none⟩) zW1 (.int .i64 x2)) (by simp [World.setCell])) (Alike.put _ (p := ⟨w.heap.size + 1, 3, none⟩) zW1 (.slice A6 n6 c6)) (by simp [World.setCell]))
            have hB9 := ((((hB8.setCell (p := ⟨w.heap.size + 1, 0, none⟩) (Nat.le_succ _) (.int .i64 x0)).setCell (p := ⟨w.heap.size + 1, 1, none⟩) (Nat.le_succ _) (.int .i64 x1)).setCell (p := ⟨w.heap.size + 1, 2, none⟩) (Nat.le_succ _) (.int .i64 x2)).setCell (p := ⟨w.heap.size + 1, 3, none⟩) (Nat.le_succ _) (.slice A6 n6 c6))
            have Q9 := ((((Q8.put 0 (.int .i64 x0)).put 1 (.int .i64 x1)).put 2 (.int .i64 x2)).put 3 (.slice A6 n6 c6))
            go_simp
            refine hK.out _ _ (by exact ⟨D9.cell 0, D9.cell 1⟩) (fun hHeld => ?_)
            clear hK K
            (try simp only [Act.put, qa_, qb_, qc_])
            refine wpAnyH_take (i := 8) (oi := ⟨some 4, _, _, _, _, _⟩) (v := ?v38) rfl (by kernel_rfl) (by kernel_rfl) (by kernel_rfl) (fun _ _ _ h => h) (Or.inl ⟨by rfl, ?hy38⟩) (by assumption) ?_
            case hy38 => (intro w hSw; (try dsimp only at hSw); go_simp; try (with_reducible rfl))
            (try simp only [Act.put, qa_, qb_, qc_])
            refine wpAnyH_done (by kernel_rfl) ?_ _
            go_wp2
            have e0 := R9.cell 0; have e1 := R9.cell 1; have e2 := Q9.cell 0; have e3 := Q9.cell 1; have e4 := Q9.cell 2; have e5 := Q9.cell 3
            obtain ⟨l0, l1, l2, l3⟩ := hpl
            dsimp only at l0 l1 l2 l3
            have wf0 : (Lit.int .i64 x0).wf = true := WalkArith.wf_i64 ⟨by omega, by omega⟩
            have wf1 : (Lit.int .i64 x1).wf = true := WalkArith.wf_i64 ⟨by omega, by omega⟩
            have wf2 : (Lit.int .i64 x2).wf = true := WalkArith.wf_i64 ⟨by omega, by omega⟩
            refine bodyPost_ret (v := .tuple #[.agg #[.slice A0 n0 c0, .slice A1 n1 c1], .agg #[.int .i64 x0, .int .i64 x1, .int .i64 x2, .slice A6 n6 c6], .int .i64 x]) (by simp [results, Tryz.results26, go_sem, e0, e1, e2, e3, e4, e5]) rfl ⟨_, _, p, [.int .i64 x0, .int .i64 x1, .int .i64 x2, .slice A6 n6 c6], (x0, x1, x2, qd), x, rfl, dkX_R X9, hlim, xt_R (pcX_of S9 wf0 wf1 wf2), ⟨l0, l1, l2, l3⟩, hx2, hB9⟩
          exact AllReadyH.nil
        exact AllReadyH.nil
      exact AllReadyH.nil
    exact AllReadyH.nil
  exact AllReadyH.nil
end Go.Proofs.YtaabmaoldhoinaaGreat
