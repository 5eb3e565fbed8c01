/-
  PLgS: texts joined.
-/
import Derived.Test.YtojbicecopkfbaaGreatKGo
import Derived.Test.YtojbicecopkfbaaGreatKMPDeskT
import Derived.Test.YtojbicecopkfbaaGreatKX0
import Derived.Test.YtojbicecopkfbaaGreatKX1
namespace Go.Proofs.YtojbicecopkfbaaGreat
set_option maxRecDepth 100000
set_option linter.unusedVariables false
set_option linter.unusedSimpArgs false
open Go.ChangeShapes Go.WideShapes Go.ChangeAt Go.RowKit
set_option maxHeartbeats 4000000 in
theorem s_letgo4G {w : World} {B : Nat} {A0 A1 : Option Addr} {n0 c0 n1 c1 : Nat} {r0 : List DWhole} {x : Int} (hr0 : tWhole.row.R w B [.slice A0 n0 c0] r0) (hBw : B ≤ w.heap.size) (hn0 : n0 ≤ 12) (hx : (Lit.int .i64 x).wf = true) :
    Calls Tryz.prog 132 #[.agg #[.slice A0 n0 c0, .slice A1 n1 c1], .int .i64 x] w fun e w' => ∃ A c, e = .returned (.tuple #[.agg #[.slice A (lgf x r0).length c, .slice A1 n1 c1], .int .i64 ((n0 : Int) - ((lgf x r0).length : Int))]) ∧ GrowR tWhole 86 w' (w.heap.size + 3) B (.slice A (lgf x r0).length c) (lgf x r0) ∧ Below w.heap.size w w' := by
  obtain ⟨i1, hj0, hj1, hj2, hj3⟩ := info_parts info_Whole
  obtain ⟨e0, _, _⟩ := rowR_len hr0
  have E0 := Lib.hid e0
  have rgx := i64_rg hx
  clear e0
  go_enter Tryz.func132, Tryz.ntmps132
  go_wp2_with fail
  go_loopw [7] (fun i wr => ∃ (j : Nat) (v : Value), j ≤ n0 ∧ i = .int .i64 j ∧ Below w.heap.size w wr ∧ w.heap.size + 3 ≤ wr.heap.size ∧ Box wr w.heap.size 33 #[.slice A0 n0 c0, .slice A1 n1 c1] ∧ Box wr (w.heap.size + 1) 33 #[.slice none 0 0, .slice none 0 0] ∧ Box wr (w.heap.size + 1 + 1) 33 #[v, .slice A1 n1 c1] ∧ GrowR tWhole 86 wr (w.heap.size + 3) B v (lgf x (r0.take j))) (fun i _ => n0 - ixOf i)
  case atStart =>
    exact ⟨0, .slice none 0 0, by omega, rfl, (belx), by simp, ((Box.new w _ _).alloc _).alloc _, Box.alloc (by simpa using Box.new (w.alloc _) 33 #[.slice none 0 0, .slice none 0 0]) _, by simpa using Box.new ((w.alloc _).alloc _) 33 #[.slice none 0 0, .slice A1 n1 c1], GrowR.nil⟩
  case round =>
    obtain ⟨j, v, hj, rfl, hB, hzr, hX, hY, hZ, hG⟩ := hrel
    have k0 : wr.cell? ⟨w.heap.size, 0, none⟩ = some (.slice A0 n0 c0) := hX.cell 0
    have z0 : wr.cell? ⟨w.heap.size + 1 + 1, 0, none⟩ = some v := hZ.cell 0
    have z1 : wr.cell? ⟨w.heap.size + 1 + 1, 1, none⟩ = some (.slice A1 n1 c1) := hZ.cell 1
    have z2 := hZ.frozen 0; have z3 := hZ.frozen 1
    by_cases hlt : j < n0
    · obtain ⟨a, b', off, es, hl2, rfl, hbB, hes, hR⟩ := rowR_at (K := 4) hr0 hlt rfl
      have hb : b' < w.heap.size := Nat.lt_of_lt_of_le hbB hBw
      obtain ⟨A2, n2, c2, rfl, -, -, -, -, -, -⟩ := openWhole hR
      have e0 : wr.cell? ⟨b', off + j * 4, none⟩ = some (.int .i64 a.1) := cell_at hB hb (hes 0 (by omega))
      have e1 : wr.cell? ⟨b', off + j * 4 + 1, none⟩ = some (.int .i64 a.2.1) := cell_at hB hb (hes 1 (by omega))
      have e2 : wr.cell? ⟨b', off + j * 4 + 2, none⟩ = some (.int .i64 a.2.2.1) := cell_at hB hb (hes 2 (by omega))
      have e3 : wr.cell? ⟨b', off + j * 4 + 3, none⟩ = some (.slice A2 n2 c2) := cell_at hB hb (hes 3 (by omega))
      have HE0 := Lib.hid (show w.cell? ⟨b', off + j * 4, none⟩ = some (.int .i64 a.1) from hes 0 (by omega))
      have HE1 := Lib.hid (show w.cell? ⟨b', off + j * 4 + 1, none⟩ = some (.int .i64 a.2.1) from hes 1 (by omega))
      have HE2 := Lib.hid (show w.cell? ⟨b', off + j * 4 + 2, none⟩ = some (.int .i64 a.2.2.1) from hes 2 (by omega))
      have HE3 := Lib.hid (show w.cell? ⟨b', off + j * 4 + 3, none⟩ = some (.slice A2 n2 c2) from hes 3 (by omega))
      clear hes
      have hRr : tWhole.R wr B [.int .i64 a.1, .int .i64 a.2.1, .int .i64 a.2.2.1, .slice A2 n2 c2] a := tWhole.keep hR (fun b hb => hB.block b (by omega))
      have hlf : (lgf x (r0.take j)).length ≤ 12 := by have := lgf_len x (r0.take j); rw [List.length_take] at this; omega
      have i0 : (0 : Int) ≤ (j : Int) := by omega
      have i1' : (j : Int) < (n0 : Int) := by omega
      by_cases ha : x < a.2.2.1
      · have HT := Lib.hid (lgf_t hl2 ha)
        clear hl2 hR
        have tz : (Value.agg #[Value.int .i64 0, Value.int .i64 0, Value.int .i64 0, Value.slice none 0 0]).cells.size = 4 := by first | rfl | (simp [Value.cells]; done)
        have t0 : ∀ u ∈ ([.int .i64 a.1, .int .i64 a.2.1, .int .i64 a.2.2.1, .slice A2 n2 c2] : List Value), u.oneCell' = true := (by intro u hu; simp only [List.mem_cons, List.not_mem_nil, or_false] at hu; rcases hu with rfl | rfl | rfl | rfl <;> rfl)
        have hOwn := hG.own
        have z8 : (wr.alloc (.cells #[.int .i64 a.1, .int .i64 a.2.1, .int .i64 a.2.2.1, .slice A2 n2 c2] 86)).cell? ⟨w.heap.size + 1 + 1, 0, none⟩ = some v := (hZ.alloc _).cell 0
        have z9 : (wr.alloc (.cells [.int .i64 a.1, .int .i64 a.2.1, .int .i64 a.2.2.1, .slice A2 n2 c2].toArray 86)).cell? ⟨w.heap.size + 1 + 1, 0, none⟩ = some v := (hZ.alloc _).cell 0
        go_wp2_with fail
        have j0 : (wr.alloc (.cells [.int .i64 a.1, .int .i64 a.2.1, .int .i64 a.2.2.1, .slice A2 n2 c2].toArray 86)).cell? ⟨w.heap.size, 0, none⟩ = some (.slice (some ⟨b', off, none⟩) n0 c0) := (hX.alloc _).cell 0
        have j1 := cell_bel (w' := (wr.alloc (.cells [.int .i64 a.1, .int .i64 a.2.1, .int .i64 a.2.2.1, .slice A2 n2 c2].toArray 86))) (belx) e0
        have j2 := cell_bel (w' := (wr.alloc (.cells [.int .i64 a.1, .int .i64 a.2.1, .int .i64 a.2.2.1, .slice A2 n2 c2].toArray 86))) (belx) e1
        have j3 := cell_bel (w' := (wr.alloc (.cells [.int .i64 a.1, .int .i64 a.2.1, .int .i64 a.2.2.1, .slice A2 n2 c2].toArray 86))) (belx) e2
        have j4 := cell_bel (w' := (wr.alloc (.cells [.int .i64 a.1, .int .i64 a.2.1, .int .i64 a.2.2.1, .slice A2 n2 c2].toArray 86))) (belx) e3
        refine wp_region_held_drew (S := (fun w' => w'.cell? ⟨w.heap.size, 0, none⟩ = some (.slice (some ⟨b', off, none⟩) n0 c0) ∧ w'.cell? ⟨b', off + j * 4, none⟩ = some (.int .i64 a.1) ∧ w'.cell? ⟨b', off + j * 4 + 1, none⟩ = some (.int .i64 a.2.1) ∧ w'.cell? ⟨b', off + j * 4 + 2, none⟩ = some (.int .i64 a.2.2.1) ∧ w'.cell? ⟨b', off + j * 4 + 3, none⟩ = some (.slice A2 n2 c2))) (by kernel_rfl) (by first | exact ⟨k0, e0, e1, e2, e3⟩ | go_keep) (fun hHeld => ?_)
        refine wpAnyH_take (i := 0) (oi := ⟨some 26, _, _, _, _, _⟩) (v := ?v1) rfl (by kernel_rfl) (by kernel_rfl) (by kernel_rfl) (fun _ _ _ h => h) (Or.inl ⟨by rfl, ?hy1⟩) (by assumption) ?_
        case hy1 => (intro w hSw; (try dsimp only at hSw); go_simp; try (with_reducible rfl))
        (try simp only [Act.put, qa_, qb_, qc_])
        refine wpAnyH_take (i := 2) (oi := ⟨some 28, _, _, _, _, _⟩) (v := ?v2) rfl (by kernel_rfl) (by kernel_rfl) (by kernel_rfl) (fun _ _ _ h => h) (Or.inl ⟨by rfl, ?hy2⟩) (by assumption) ?_
        case hy2 => (intro w hSw; (try dsimp only at hSw); go_simp; try (with_reducible rfl))
        (try simp only [Act.put, qa_, qb_, qc_])
        refine wpAnyH_take (i := 3) (oi := ⟨some 29, _, _, _, _, _⟩) (v := ?v3) rfl (by kernel_rfl) (by kernel_rfl) (by kernel_rfl) (fun _ _ _ h => h) (Or.inl ⟨by rfl, ?hy3⟩) (by assumption) ?_
        case hy3 => (intro w hSw; (try dsimp only at hSw); go_simp; try (with_reducible rfl))
        (try simp only [Act.put, qa_, qb_, qc_])
        refine wpAnyH_take (i := 4) (oi := ⟨some 30, _, _, _, _, _⟩) (v := ?v4) rfl (by kernel_rfl) (by kernel_rfl) (by kernel_rfl) (fun _ _ _ h => h) (Or.inl ⟨by rfl, ?hy4⟩) (by assumption) ?_
        case hy4 => (intro w hSw; (try dsimp only at hSw); go_simp; try (with_reducible rfl))
        (try simp only [Act.put, qa_, qb_, qc_])
        refine wpAnyH_take (i := 5) (oi := ⟨some 31, _, _, _, _, _⟩) (v := ?v5) rfl (by kernel_rfl) (by kernel_rfl) (by kernel_rfl) (fun _ _ _ h => h) (Or.inl ⟨by rfl, ?hy5⟩) (by assumption) ?_
        case hy5 => (intro w hSw; (try dsimp only at hSw); go_simp; try (with_reducible rfl))
        (try simp only [Act.put, qa_, qb_, qc_])
        refine wpAnyH_take (i := 6) (oi := ⟨some 32, _, _, _, _, _⟩) (v := ?v6) rfl (by kernel_rfl) (by kernel_rfl) (by kernel_rfl) (fun _ _ _ h => h) (Or.inl ⟨by rfl, ?hy6⟩) (by assumption) ?_
        case hy6 => (intro w hSw; (try dsimp only at hSw); go_simp; try (with_reducible rfl))
        (try simp only [Act.put, qa_, qb_, qc_])
        refine wpAnyH_ready (rs := [1, 7]) (by kernel_rfl) (by simp) ?_
        refine AllReadyH.cons rfl (fun K hK => ?_) ?_
        · go_simp
          refine hK.out _ _ (by first | exact ⟨k0, e0, e1, e2, e3⟩ | go_keep) (fun hHeld => ?_)
          clear hK K
          (try simp only [Act.put, qa_, qb_, qc_])
          refine wpAnyH_ready (rs := [7]) (by kernel_rfl) (by simp) ?_
          refine AllReadyH.cons rfl (fun K hK => ?_) ?_
          · go_simp
            refine hK.out _ _ (by first | exact ⟨j0, j1, j2, j3, j4⟩ | go_keep) (fun hHeld => ?_)
            clear hK K
            (try simp only [Act.put, qa_, qb_, qc_])
            refine wpAnyH_ready (rs := [8]) (by kernel_rfl) (by simp) ?_
            refine AllReadyH.cons rfl (fun K hK => ?_) ?_
            · refine GrowR.step (t := tWhole) (e := 86) (w := (wr.alloc (.cells [.int .i64 a.1, .int .i64 a.2.1, .int .i64 a.2.2.1, .slice A2 n2 c2].toArray 86)).drew) (base := w.heap.size + 3) (B := B) (by rfl) (.tmp 27) (.tmp 33) _ (by rfl) i1 _ 4 48 Tryz.underlying31 hj0 hj1 hj2 hj3 tz (by omega) rfl (by rfl) (hG.below (belx) (by omega)) wr.heap.size [.int .i64 a.1, .int .i64 a.2.1, .int .i64 a.2.2.1, .slice A2 n2 c2] a (by rfl) (Box.drew (Box.new wr _ _)) (tWhole.keep hRr (fun b hb => (Below.heap_alloc wr _ b (by omega)))) t0 (by omega) (by show _ ≤ (World.alloc _ _).heap.size; simp; omega) (by simp only [maxLen]; omega) (by omega) ?_
              intro v2 w2 hG2 hgr2
              obtain ⟨A9, n9, c9, rfl, -⟩ := hG2.shapeN
              have hBf : Below w.heap.size w w2 := Below.grown (w := (wr.alloc (.cells [.int .i64 a.1, .int .i64 a.2.1, .int .i64 a.2.2.1, .slice A2 n2 c2].toArray 86)).drew) (bel_trans hB (belx)) hgr2 (by show _ ≤ (World.alloc _ _).heap.size; simp; omega) (fun b hb => by have := (hOwn b hb).1; omega)
              have X2 : Box w2 w.heap.size 33 _ := Box.grown (Box.drew (hX.alloc _)) hgr2 (fun e => by have := (hOwn _ e.symm).1; omega)
              have Y2 : Box w2 (w.heap.size + 1) 33 _ := Box.grown (Box.drew (hY.alloc _)) hgr2 (fun e => by have := (hOwn _ e.symm).1; omega)
              have Z2 : Box w2 (w.heap.size + 1 + 1) 33 _ := Box.grown (Box.drew (hZ.alloc _)) hgr2 (fun e => by have := (hOwn _ e.symm).1; omega)
              have y0 := Z2.cell 0
              have y1 := Z2.cell 1
              have y2 := Z2.frozen 0
              have y3 := Z2.frozen 1
              have x0 := X2.cell 0
              have hBs := bel_put hBf (p := ⟨w.heap.size + 1 + 1, 0, none⟩) (by show _ ≤ w.heap.size + 1 + 1; omega) (.slice A9 n9 c9)
              have x9 := (X2.far (p := ⟨w.heap.size + 1 + 1, 0, none⟩) (by show w.heap.size ≠ w.heap.size + 1 + 1; omega) (.slice A9 n9 c9)).cell 0
              refine hK.out _ _ (by exact ⟨x0, cell_at hBf hb HE0.out, cell_at hBf hb HE1.out, cell_at hBf hb HE2.out, cell_at hBf hb HE3.out⟩) (fun hHeld => ?_)
              clear hK K
              (try simp only [Act.put, qa_, qb_, qc_])
              refine wpAnyH_take (i := 9) (oi := ⟨some 35, _, _, _, _, _⟩) (v := ?v7) rfl (by kernel_rfl) (by kernel_rfl) (by kernel_rfl) (fun _ _ _ h => h) (Or.inl ⟨by rfl, ?hy7⟩) (by assumption) ?_
              case hy7 => (intro w hSw; (try dsimp only at hSw); go_simp; try (with_reducible rfl))
              (try simp only [Act.put, qa_, qb_, qc_])
              refine wpAnyH_ready (rs := [10]) (by kernel_rfl) (by simp) ?_
              refine AllReadyH.cons rfl (fun K hK => ?_) ?_
              · go_simp
                refine hK.out _ _ (by exact ⟨x9, cell_at hBs hb HE0.out, cell_at hBs hb HE1.out, cell_at hBs hb HE2.out, cell_at hBs hb HE3.out⟩) (fun hHeld => ?_)
                clear hK K
                (try simp only [Act.put, qa_, qb_, qc_])
                refine wpAnyH_done (by kernel_rfl) ?_ _
                go_wp2
                go_roundw
                case rel => exact ⟨j + 1, .slice A9 n9 c9, by omega, by go_num, bel_put hBf (by show _ ≤ w.heap.size + 1 + 1; omega) _, by have := hBf.size; have := hgr2.size; simp [World.setCell] at *; omega, X2.far (p := ⟨w.heap.size + 1 + 1, 0, none⟩) (by show w.heap.size ≠ w.heap.size + 1 + 1; omega) _, Y2.far (p := ⟨w.heap.size + 1 + 1, 0, none⟩) (by show w.heap.size + 1 ≠ w.heap.size + 1 + 1; omega) _, by simpa using Z2.put 0 (.slice A9 n9 c9), by rw [HT.out]; exact hG2.put (by show w.heap.size + 1 + 1 < _; omega) (by show _ ≤ w.heap.size + 1 + 1; omega) _⟩
                case measure => simp [ixOf]; omega
              exact AllReadyH.nil
            exact AllReadyH.nil
          exact AllReadyH.nil
        refine AllReadyH.cons rfl (fun K hK => ?_) ?_
        · go_simp
          refine hK.out _ _ (by first | exact ⟨j0, j1, j2, j3, j4⟩ | go_keep) (fun hHeld => ?_)
          clear hK K
          (try simp only [Act.put, qa_, qb_, qc_])
          refine wpAnyH_ready (rs := [1]) (by kernel_rfl) (by simp) ?_
          refine AllReadyH.cons rfl (fun K hK => ?_) ?_
          · go_simp
            refine hK.out _ _ (by first | exact ⟨j0, j1, j2, j3, j4⟩ | go_keep) (fun hHeld => ?_)
            clear hK K
            (try simp only [Act.put, qa_, qb_, qc_])
            refine wpAnyH_ready (rs := [8]) (by kernel_rfl) (by simp) ?_
            refine AllReadyH.cons rfl (fun K hK => ?_) ?_
            · refine GrowR.step (t := tWhole) (e := 86) (w := (wr.alloc (.cells [.int .i64 a.1, .int .i64 a.2.1, .int .i64 a.2.2.1, .slice A2 n2 c2].toArray 86)).drew) (base := w.heap.size + 3) (B := B) (by rfl) (.tmp 27) (.tmp 33) _ (by rfl) i1 _ 4 48 Tryz.underlying31 hj0 hj1 hj2 hj3 tz (by omega) rfl (by rfl) (hG.below (belx) (by omega)) wr.heap.size [.int .i64 a.1, .int .i64 a.2.1, .int .i64 a.2.2.1, .slice A2 n2 c2] a (by rfl) (Box.drew (Box.new wr _ _)) (tWhole.keep hRr (fun b hb => (Below.heap_alloc wr _ b (by omega)))) t0 (by omega) (by show _ ≤ (World.alloc _ _).heap.size; simp; omega) (by simp only [maxLen]; omega) (by omega) ?_
              intro v2 w2 hG2 hgr2
              obtain ⟨A9, n9, c9, rfl, -⟩ := hG2.shapeN
              have hBf : Below w.heap.size w w2 := Below.grown (w := (wr.alloc (.cells [.int .i64 a.1, .int .i64 a.2.1, .int .i64 a.2.2.1, .slice A2 n2 c2].toArray 86)).drew) (bel_trans hB (belx)) hgr2 (by show _ ≤ (World.alloc _ _).heap.size; simp; omega) (fun b hb => by have := (hOwn b hb).1; omega)
              have X2 : Box w2 w.heap.size 33 _ := Box.grown (Box.drew (hX.alloc _)) hgr2 (fun e => by have := (hOwn _ e.symm).1; omega)
              have Y2 : Box w2 (w.heap.size + 1) 33 _ := Box.grown (Box.drew (hY.alloc _)) hgr2 (fun e => by have := (hOwn _ e.symm).1; omega)
              have Z2 : Box w2 (w.heap.size + 1 + 1) 33 _ := Box.grown (Box.drew (hZ.alloc _)) hgr2 (fun e => by have := (hOwn _ e.symm).1; omega)
              have y0 := Z2.cell 0
              have y1 := Z2.cell 1
              have y2 := Z2.frozen 0
              have y3 := Z2.frozen 1
              have x0 := X2.cell 0
              have hBs := bel_put hBf (p := ⟨w.heap.size + 1 + 1, 0, none⟩) (by show _ ≤ w.heap.size + 1 + 1; omega) (.slice A9 n9 c9)
              have x9 := (X2.far (p := ⟨w.heap.size + 1 + 1, 0, none⟩) (by show w.heap.size ≠ w.heap.size + 1 + 1; omega) (.slice A9 n9 c9)).cell 0
              refine hK.out _ _ (by exact ⟨x0, cell_at hBf hb HE0.out, cell_at hBf hb HE1.out, cell_at hBf hb HE2.out, cell_at hBf hb HE3.out⟩) (fun hHeld => ?_)
              clear hK K
              (try simp only [Act.put, qa_, qb_, qc_])
              refine wpAnyH_take (i := 9) (oi := ⟨some 35, _, _, _, _, _⟩) (v := ?v8) rfl (by kernel_rfl) (by kernel_rfl) (by kernel_rfl) (fun _ _ _ h => h) (Or.inl ⟨by rfl, ?hy8⟩) (by assumption) ?_
              case hy8 => (intro w hSw; (try dsimp only at hSw); go_simp; try (with_reducible rfl))
              (try simp only [Act.put, qa_, qb_, qc_])
              refine wpAnyH_ready (rs := [10]) (by kernel_rfl) (by simp) ?_
              refine AllReadyH.cons rfl (fun K hK => ?_) ?_
              · go_simp
                refine hK.out _ _ (by exact ⟨x9, cell_at hBs hb HE0.out, cell_at hBs hb HE1.out, cell_at hBs hb HE2.out, cell_at hBs hb HE3.out⟩) (fun hHeld => ?_)
                clear hK K
                (try simp only [Act.put, qa_, qb_, qc_])
                refine wpAnyH_done (by kernel_rfl) ?_ _
                go_wp2
                go_roundw
                case rel => exact ⟨j + 1, .slice A9 n9 c9, by omega, by go_num, bel_put hBf (by show _ ≤ w.heap.size + 1 + 1; omega) _, by have := hBf.size; have := hgr2.size; simp [World.setCell] at *; omega, X2.far (p := ⟨w.heap.size + 1 + 1, 0, none⟩) (by show w.heap.size ≠ w.heap.size + 1 + 1; omega) _, Y2.far (p := ⟨w.heap.size + 1 + 1, 0, none⟩) (by show w.heap.size + 1 ≠ w.heap.size + 1 + 1; omega) _, by simpa using Z2.put 0 (.slice A9 n9 c9), by rw [HT.out]; exact hG2.put (by show w.heap.size + 1 + 1 < _; omega) (by show _ ≤ w.heap.size + 1 + 1; omega) _⟩
                case measure => simp [ixOf]; omega
              exact AllReadyH.nil
            exact AllReadyH.nil
          exact AllReadyH.nil
        exact AllReadyH.nil
      · have HT := Lib.hid (lgf_f hl2 ha)
        clear hl2 hR
        go_wp2
        go_roundw
        case rel => exact ⟨j + 1, v, by omega, by go_num, hB, hzr, hX, hY, hZ, by rw [HT.out]; exact hG⟩
        case measure => simp [ixOf]; omega
    · obtain rfl : n0 = j := by omega
      have HA := Lib.hid (show r0.take n0 = r0 from List.take_of_length_le (Nat.le_of_eq E0.out))
      rw [HA.out] at hG
      obtain ⟨A3, c3, rfl⟩ := hG.shape
      have z0 : wr.cell? ⟨w.heap.size + 1 + 1, 0, none⟩ = some (.slice A3 (lgf x r0).length c3) := hZ.cell 0
      have y0 := hY.cell 0; have y1 := hY.cell 1; have y2 := hY.frozen 0; have y3 := hY.frozen 1
      go_wp2_with fail
      go_region_held3 (fun w' => w'.cell? ⟨w.heap.size + 1 + 1, 0, none⟩ = some (.slice A3 (lgf x r0).length c3) ∧ w'.cell? ⟨w.heap.size + 1 + 1, 1, none⟩ = some (.slice A1 n1 c1) ∧ w'.cell? ⟨w.heap.size, 0, none⟩ = some (.slice A0 n0 c0)) (first | (exact ⟨z0, z1, k0⟩) | go_keep) (fail)
      have hwr : IntKind.i64.wrap ((n0 : Int) - ((lgf x r0).length : Int)) = (n0 : Int) - ((lgf x r0).length : Int) := IntWalk.i64_in _ (by have := lgf_len x r0; have := E0.out; omega)
      go_wp2
      have RR := ((hY.put 0 (.slice A3 (lgf x r0).length c3)).put 1 (.slice A1 n1 c1)).drew
      have e0 := RR.cell 0; have e1 := RR.cell 1
      have hG2 := (hG.put (p := ⟨w.heap.size + 1, 0, none⟩) (by show w.heap.size + 1 < _; omega) (by show _ ≤ w.heap.size + 1; omega) (.slice A3 (lgf x r0).length c3)).put (p := ⟨w.heap.size + 1, 1, none⟩) (by show w.heap.size + 1 < _; omega) (by show _ ≤ w.heap.size + 1; omega) (.slice A1 n1 c1)
      refine bodyPost_ret (v := .tuple #[.agg #[.slice A3 (lgf x r0).length c3, .slice A1 n1 c1], .int .i64 ((n0 : Int) - ((lgf x r0).length : Int))]) (by simp [results, Tryz.results132, go_sem, e0, e1, hwr]) rfl ⟨A3, c3, rfl, hG2.drew (by simp [World.setCell]; omega), ?_⟩
      exact bel_drew (bel_put (bel_put hB (by simp) _) (by simp) _)
end Go.Proofs.YtojbicecopkfbaaGreat
