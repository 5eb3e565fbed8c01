/-
  PFgt5, PExp5, Nd: texts joined.
-/
import Derived.Test.YtojbicecopkfbaaGreatKGh
import Derived.Test.YtojbicecopkfbaaGreatKGl
import Derived.Test.YtojbicecopkfbaaGreatKX0
namespace Go.Proofs.YtojbicecopkfbaaGreat
set_option maxRecDepth 100000
set_option linter.unusedVariables false
set_option linter.unusedSimpArgs false
open Go.ChangeShapes Go.WideShapes Go.ChangeAt Go.RowKit
open Fld
theorem plzO {w : World} : tPool.O w [.slice none 0 0, .slice none 0 0] plZ [] := by
  obtain ⟨F, h, rfl⟩ := makeOPool (w := w) (p := plZ) (v0 := .slice none 0 0) (v1 := .slice none 0 0) (F0 := []) (F1 := []) (.inl ⟨none, 0, rfl, by omega, rfl, rfl⟩) nilO
  exact h
/-- A result's two cells, stored into its block. -/
theorem put2_O {w : World} {g : Nat} {v0 v1 : Value} {p : DPool} {F : List Nat} (h : tPool.O w [v0, v1] p F) (hg : g ∉ F) : tPool.O ((w.setCell ⟨g, 0, none⟩ v0).setCell ⟨g, 1, none⟩ v1) [v0, v1] p F :=
  Ty.far3 (t := tPool) (Ty.far3 (t := tPool) h (p := ⟨g, 0, none⟩) hg v0) (p := ⟨g, 1, none⟩) hg v1
end Go.Proofs.YtojbicecopkfbaaGreat
namespace Go.Proofs.YtojbicecopkfbaaGreat
set_option maxRecDepth 100000
set_option linter.unusedVariables false
set_option linter.unusedSimpArgs false
open Go.ChangeShapes Go.WideShapes Go.ChangeAt Go.RowKit
open Fld
set_option maxHeartbeats 4000000 in
theorem s_expire5G {w : World} {B : Nat} {A0 A1 : Option Addr} {n0 c0 n1 c1 : Nat} {r0 : List DHeld} {x : Int} (hr0 : tHeld.row.R w B [.slice A0 n0 c0] r0) (hBw : B ≤ w.heap.size) (hn0 : n0 ≤ 12) (hx : (Lit.int .i64 x).wf = true) :
    Calls Tryz.prog 131 #[.agg #[.slice A0 n0 c0, .slice A1 n1 c1], .int .i64 x] w fun e w' => ∃ A c, e = .returned (.tuple #[.agg #[.slice A (exf x r0).length c, .slice A1 n1 c1], .int .i64 ((n0 : Int) - ((exf x r0).length : Int))]) ∧ GrowR tHeld 121 w' (w.heap.size + 3) B (.slice A (exf x r0).length c) (exf x r0) ∧ Below w.heap.size w w' := by
  obtain ⟨i1, hj0, hj1, hj2, hj3⟩ := info_parts info_Held
  obtain ⟨e0, _, _⟩ := rowR_len hr0
  have E0 := Lib.hid e0
  have rgx := i64_rg hx
  clear e0
  go_enter Tryz.func131, Tryz.ntmps131
  go_wp2_with fail
  go_loopw [7] (fun i wr => ∃ (j : Nat) (v : Value), j ≤ n0 ∧ i = .int .i64 j ∧ Below w.heap.size w wr ∧ w.heap.size + 3 ≤ wr.heap.size ∧ Box wr w.heap.size 55 #[.slice A0 n0 c0, .slice A1 n1 c1] ∧ Box wr (w.heap.size + 1) 55 #[.slice none 0 0, .slice none 0 0] ∧ Box wr (w.heap.size + 1 + 1) 55 #[v, .slice A1 n1 c1] ∧ GrowR tHeld 121 wr (w.heap.size + 3) B v (exf x (r0.take j))) (fun i _ => n0 - (intOf i).toNat)
  case atStart =>
    exact ⟨0, .slice none 0 0, by omega, rfl, (belx), by simp, ((Box.new w _ _).alloc _).alloc _, Box.alloc (by simpa using Box.new (w.alloc _) 55 #[.slice none 0 0, .slice none 0 0]) _, by simpa using Box.new ((w.alloc _).alloc _) 55 #[.slice none 0 0, .slice A1 n1 c1], GrowR.nil⟩
  case round =>
    obtain ⟨j, v, hj, rfl, hB, hzr, hX, hY, hZ, hG⟩ := hrel
    have k0 : wr.cell? ⟨w.heap.size, 0, none⟩ = some (.slice A0 n0 c0) := hX.cell 0
    have z0 : wr.cell? ⟨w.heap.size + 1 + 1, 0, none⟩ = some v := hZ.cell 0
    have z1 : wr.cell? ⟨w.heap.size + 1 + 1, 1, none⟩ = some (.slice A1 n1 c1) := hZ.cell 1
    have z2 := hZ.frozen 0; have z3 := hZ.frozen 1
    by_cases hlt : j < n0
    · obtain ⟨a, b', off, es, hl2, rfl, hbB, hes, hR⟩ := rowR_at (K := 3) hr0 hlt rfl
      have hb : b' < w.heap.size := Nat.lt_of_lt_of_le hbB hBw
      obtain ⟨A2, n2, c2, rfl, -, -, -, -, -, -⟩ := openHeld hR
      have e0 : wr.cell? ⟨b', off + j * 3, none⟩ = some (.int .i64 a.1) := cell_at hB hb (hes 0 (by omega))
      have e1 : wr.cell? ⟨b', off + j * 3 + 1, none⟩ = some (.int .i64 a.2.1) := cell_at hB hb (hes 1 (by omega))
      have e2 : wr.cell? ⟨b', off + j * 3 + 2, none⟩ = some (.slice A2 n2 c2) := cell_at hB hb (hes 2 (by omega))
      have HE0 := Lib.hid (show w.cell? ⟨b', off + j * 3, none⟩ = some (.int .i64 a.1) from hes 0 (by omega))
      have HE1 := Lib.hid (show w.cell? ⟨b', off + j * 3 + 1, none⟩ = some (.int .i64 a.2.1) from hes 1 (by omega))
      have HE2 := Lib.hid (show w.cell? ⟨b', off + j * 3 + 2, none⟩ = some (.slice A2 n2 c2) from hes 2 (by omega))
      clear hes
      have hRr : tHeld.R wr B [.int .i64 a.1, .int .i64 a.2.1, .slice A2 n2 c2] a := tHeld.keep hR (fun b hb => hB.block b (by omega))
      have hlf : (exf x (r0.take j)).length ≤ 12 := by have := exf_len x (r0.take j); rw [List.length_take] at this; omega
      have i0 : (0 : Int) ≤ (j : Int) := by omega
      have i1' : (j : Int) < (n0 : Int) := by omega
      by_cases ha : x < a.2.1
      · have HT := Lib.hid (exf_t hl2 ha)
        clear hl2 hR
        have tz : (Value.agg #[Value.int .i64 0, Value.int .i64 0, Value.slice none 0 0]).cells.size = 3 := by first | rfl | (simp [Value.cells]; done)
        have hOwn := hG.own
        have z8 : (wr.alloc (.cells #[.int .i64 a.1, .int .i64 a.2.1, .slice A2 n2 c2] 121)).cell? ⟨w.heap.size + 1 + 1, 0, none⟩ = some v := (hZ.alloc _).cell 0
        have z9 : (wr.alloc (.cells [.int .i64 a.1, .int .i64 a.2.1, .slice A2 n2 c2].toArray 121)).cell? ⟨w.heap.size + 1 + 1, 0, none⟩ = some v := (hZ.alloc _).cell 0
        go_wp2_with fail
        have j0 : (wr.alloc (.cells [.int .i64 a.1, .int .i64 a.2.1, .slice A2 n2 c2].toArray 121)).cell? ⟨w.heap.size, 0, none⟩ = some (.slice (some ⟨b', off, none⟩) n0 c0) := (hX.alloc _).cell 0
        have j1 := cell_bel (w' := wr.alloc (.cells [.int .i64 a.1, .int .i64 a.2.1, .slice A2 n2 c2].toArray 121)) (belx) e0
        have j2 := cell_bel (w' := wr.alloc (.cells [.int .i64 a.1, .int .i64 a.2.1, .slice A2 n2 c2].toArray 121)) (belx) e1
        have j3 := cell_bel (w' := wr.alloc (.cells [.int .i64 a.1, .int .i64 a.2.1, .slice A2 n2 c2].toArray 121)) (belx) e2
        refine wp_region_held_drew (S := (fun w' => w'.cell? ⟨w.heap.size, 0, none⟩ = some (.slice (some ⟨b', off, none⟩) n0 c0) ∧ w'.cell? ⟨b', off + j * 3, none⟩ = some (.int .i64 a.1) ∧ w'.cell? ⟨b', off + j * 3 + 1, none⟩ = some (.int .i64 a.2.1) ∧ w'.cell? ⟨b', off + j * 3 + 2, none⟩ = some (.slice A2 n2 c2))) (by kernel_rfl) (by first | exact ⟨k0, e0, e1, e2⟩ | go_keep) (fun hHeld => ?_)
        refine wpAnyH_take (i := 0) (v := ?v1) rfl (by kernel_rfl) (by kernel_rfl) (by kernel_rfl) (fun _ _ _ h => h) (Or.inl ⟨by rfl, ?hy1⟩) (by assumption) ?_
        case hy1 => (intro w hSw; (try dsimp only at hSw); go_simp; try (with_reducible rfl))
        (try simp only [Act.put, qa_, qb_, qc_])
        refine wpAnyH_take (i := 2) (v := ?v2) rfl (by kernel_rfl) (by kernel_rfl) (by kernel_rfl) (fun _ _ _ h => h) (Or.inl ⟨by rfl, ?hy2⟩) (by assumption) ?_
        case hy2 => (intro w hSw; (try dsimp only at hSw); go_simp; try (with_reducible rfl))
        (try simp only [Act.put, qa_, qb_, qc_])
        refine wpAnyH_take (i := 3) (v := ?v3) rfl (by kernel_rfl) (by kernel_rfl) (by kernel_rfl) (fun _ _ _ h => h) (Or.inl ⟨by rfl, ?hy3⟩) (by assumption) ?_
        case hy3 => (intro w hSw; (try dsimp only at hSw); go_simp; try (with_reducible rfl))
        (try simp only [Act.put, qa_, qb_, qc_])
        refine wpAnyH_take (i := 4) (v := ?v4) rfl (by kernel_rfl) (by kernel_rfl) (by kernel_rfl) (fun _ _ _ h => h) (Or.inl ⟨by rfl, ?hy4⟩) (by assumption) ?_
        case hy4 => (intro w hSw; (try dsimp only at hSw); go_simp; try (with_reducible rfl))
        (try simp only [Act.put, qa_, qb_, qc_])
        refine wpAnyH_take (i := 5) (v := ?v5) rfl (by kernel_rfl) (by kernel_rfl) (by kernel_rfl) (fun _ _ _ h => h) (Or.inl ⟨by rfl, ?hy5⟩) (by assumption) ?_
        case hy5 => (intro w hSw; (try dsimp only at hSw); go_simp; try (with_reducible rfl))
        (try simp only [Act.put, qa_, qb_, qc_])
        refine wpAnyH_take (i := 6) (v := ?v6) rfl (by kernel_rfl) (by kernel_rfl) (by kernel_rfl) (fun _ _ _ h => h) (Or.inl ⟨by rfl, ?hy6⟩) (by assumption) ?_
        case hy6 => (intro w hSw; (try dsimp only at hSw); go_simp; try (with_reducible rfl))
        (try simp only [Act.put, qa_, qb_, qc_])
        refine wpAnyH_ready (rs := [1, 7]) (by kernel_rfl) (by simp) ?_
        refine AllReadyH.cons rfl (fun K hK => ?_) ?_
        · go_simp
          refine hK.out _ _ (by first | exact ⟨k0, e0, e1, e2⟩ | go_keep) (fun hHeld => ?_)
          clear hK K
          (try simp only [Act.put, qa_, qb_, qc_])
          refine wpAnyH_ready (rs := [7]) (by kernel_rfl) (by simp) ?_
          refine AllReadyH.cons rfl (fun K hK => ?_) ?_
          · go_simp
            refine hK.out _ _ (by first | exact ⟨j0, j1, j2, j3⟩ | go_keep) (fun hHeld => ?_)
            clear hK K
            (try simp only [Act.put, qa_, qb_, qc_])
            refine wpAnyH_ready (rs := [8]) (by kernel_rfl) (by simp) ?_
            refine AllReadyH.cons rfl (fun K hK => ?_) ?_
            · refine GrowR.step (t := tHeld) (e := 121) (w := (wr.alloc (.cells [.int .i64 a.1, .int .i64 a.2.1, .slice A2 n2 c2].toArray 121)).drew) (base := w.heap.size + 3) (B := B) (by rfl) (.tmp 27) (.tmp 33) _ (by rfl) i1 _ 3 40 Tryz.underlying53 hj0 hj1 hj2 hj3 tz (by omega) rfl (by rfl) (hG.below (belx) (by omega)) wr.heap.size [.int .i64 a.1, .int .i64 a.2.1, .slice A2 n2 c2] a (by rfl) (Box.drew (Box.new wr _ _)) (tHeld.keep hRr (fun b hb => (Below.heap_alloc wr _ b (by omega)))) (one_held _ _ _ _ _) (by omega) (by show _ ≤ (World.alloc _ _).heap.size; simp; omega) (by simp only [maxLen]; omega) (by omega) ?_; intro v2 w2 hG2 hgr2; obtain ⟨A9, n9, c9, rfl, -⟩ := hG2.shapeN; have hBf : Below w.heap.size w w2 := Below.grown (w := (wr.alloc (.cells [.int .i64 a.1, .int .i64 a.2.1, .slice A2 n2 c2].toArray 121)).drew) (bel_trans hB (belx)) hgr2 (by show _ ≤ (World.alloc _ _).heap.size; simp; omega) (fun b hb => by have := (hOwn b hb).1; omega); have X2 : Box w2 w.heap.size 55 _ := Box.grown (Box.drew (hX.alloc _)) hgr2 (fun e => by have := (hOwn _ e.symm).1; omega); have Y2 : Box w2 (w.heap.size + 1) 55 _ := Box.grown (Box.drew (hY.alloc _)) hgr2 (fun e => by have := (hOwn _ e.symm).1; omega); have Z2 : Box w2 (w.heap.size + 1 + 1) 55 _ := Box.grown (Box.drew (hZ.alloc _)) hgr2 (fun e => by have := (hOwn _ e.symm).1; omega); have y0 := Z2.cell 0; have y1 := Z2.cell 1; have y2 := Z2.frozen 0; have y3 := Z2.frozen 1; have x0 := X2.cell 0; have hBs := bel_put hBf (p := ⟨w.heap.size + 1 + 1, 0, none⟩) (by show _ ≤ w.heap.size + 1 + 1; omega) (.slice A9 n9 c9); have x9 := (X2.far (p := ⟨w.heap.size + 1 + 1, 0, none⟩) (by show w.heap.size ≠ w.heap.size + 1 + 1; omega) (.slice A9 n9 c9)).cell 0
              refine hK.out _ _ (by exact ⟨x0, cell_at hBf hb HE0.out, cell_at hBf hb HE1.out, cell_at hBf hb HE2.out⟩) (fun hHeld => ?_)
              clear hK K
              (try simp only [Act.put, qa_, qb_, qc_])
              refine wpAnyH_take (i := 9) (v := ?v7) rfl (by kernel_rfl) (by kernel_rfl) (by kernel_rfl) (fun _ _ _ h => h) (Or.inl ⟨by rfl, ?hy7⟩) (by assumption) ?_
              case hy7 => (intro w hSw; (try dsimp only at hSw); go_simp; try (with_reducible rfl))
              (try simp only [Act.put, qa_, qb_, qc_])
              refine wpAnyH_ready (rs := [10]) (by kernel_rfl) (by simp) ?_
              refine AllReadyH.cons rfl (fun K hK => ?_) ?_
              · go_simp
                refine hK.out _ _ (by exact ⟨x9, cell_at hBs hb HE0.out, cell_at hBs hb HE1.out, cell_at hBs hb HE2.out⟩) (fun hHeld => ?_)
                clear hK K
                (try simp only [Act.put, qa_, qb_, qc_])
                refine wpAnyH_done (by kernel_rfl) ?_ _
                go_wp2
                go_roundw
                case rel => exact ⟨j + 1, .slice A9 n9 c9, by omega, by go_num, bel_put hBf (by show _ ≤ w.heap.size + 1 + 1; omega) _, by have := hBf.size; have := hgr2.size; simp [World.setCell] at *; omega, X2.far (p := ⟨w.heap.size + 1 + 1, 0, none⟩) (by show w.heap.size ≠ w.heap.size + 1 + 1; omega) _, Y2.far (p := ⟨w.heap.size + 1 + 1, 0, none⟩) (by show w.heap.size + 1 ≠ w.heap.size + 1 + 1; omega) _, by simpa using Z2.put 0 (.slice A9 n9 c9), by rw [HT.out]; exact hG2.put (by show w.heap.size + 1 + 1 < _; omega) (by show _ ≤ w.heap.size + 1 + 1; omega) _⟩
                case measure => simp [intOf]; omega
              exact AllReadyH.nil
            exact AllReadyH.nil
          exact AllReadyH.nil
        refine AllReadyH.cons rfl (fun K hK => ?_) ?_
        · go_simp
          refine hK.out _ _ (by first | exact ⟨j0, j1, j2, j3⟩ | go_keep) (fun hHeld => ?_)
          clear hK K
          (try simp only [Act.put, qa_, qb_, qc_])
          refine wpAnyH_ready (rs := [1]) (by kernel_rfl) (by simp) ?_
          refine AllReadyH.cons rfl (fun K hK => ?_) ?_
          · go_simp
            refine hK.out _ _ (by first | exact ⟨j0, j1, j2, j3⟩ | go_keep) (fun hHeld => ?_)
            clear hK K
            (try simp only [Act.put, qa_, qb_, qc_])
            refine wpAnyH_ready (rs := [8]) (by kernel_rfl) (by simp) ?_
            refine AllReadyH.cons rfl (fun K hK => ?_) ?_
            · refine GrowR.step (t := tHeld) (e := 121) (w := (wr.alloc (.cells [.int .i64 a.1, .int .i64 a.2.1, .slice A2 n2 c2].toArray 121)).drew) (base := w.heap.size + 3) (B := B) (by rfl) (.tmp 27) (.tmp 33) _ (by rfl) i1 _ 3 40 Tryz.underlying53 hj0 hj1 hj2 hj3 tz (by omega) rfl (by rfl) (hG.below (belx) (by omega)) wr.heap.size [.int .i64 a.1, .int .i64 a.2.1, .slice A2 n2 c2] a (by rfl) (Box.drew (Box.new wr _ _)) (tHeld.keep hRr (fun b hb => (Below.heap_alloc wr _ b (by omega)))) (one_held _ _ _ _ _) (by omega) (by show _ ≤ (World.alloc _ _).heap.size; simp; omega) (by simp only [maxLen]; omega) (by omega) ?_; intro v2 w2 hG2 hgr2; obtain ⟨A9, n9, c9, rfl, -⟩ := hG2.shapeN; have hBf : Below w.heap.size w w2 := Below.grown (w := (wr.alloc (.cells [.int .i64 a.1, .int .i64 a.2.1, .slice A2 n2 c2].toArray 121)).drew) (bel_trans hB (belx)) hgr2 (by show _ ≤ (World.alloc _ _).heap.size; simp; omega) (fun b hb => by have := (hOwn b hb).1; omega); have X2 : Box w2 w.heap.size 55 _ := Box.grown (Box.drew (hX.alloc _)) hgr2 (fun e => by have := (hOwn _ e.symm).1; omega); have Y2 : Box w2 (w.heap.size + 1) 55 _ := Box.grown (Box.drew (hY.alloc _)) hgr2 (fun e => by have := (hOwn _ e.symm).1; omega); have Z2 : Box w2 (w.heap.size + 1 + 1) 55 _ := Box.grown (Box.drew (hZ.alloc _)) hgr2 (fun e => by have := (hOwn _ e.symm).1; omega); have y0 := Z2.cell 0; have y1 := Z2.cell 1; have y2 := Z2.frozen 0; have y3 := Z2.frozen 1; have x0 := X2.cell 0; have hBs := bel_put hBf (p := ⟨w.heap.size + 1 + 1, 0, none⟩) (by show _ ≤ w.heap.size + 1 + 1; omega) (.slice A9 n9 c9); have x9 := (X2.far (p := ⟨w.heap.size + 1 + 1, 0, none⟩) (by show w.heap.size ≠ w.heap.size + 1 + 1; omega) (.slice A9 n9 c9)).cell 0
              refine hK.out _ _ (by exact ⟨x0, cell_at hBf hb HE0.out, cell_at hBf hb HE1.out, cell_at hBf hb HE2.out⟩) (fun hHeld => ?_)
              clear hK K
              (try simp only [Act.put, qa_, qb_, qc_])
              refine wpAnyH_take (i := 9) (v := ?v8) rfl (by kernel_rfl) (by kernel_rfl) (by kernel_rfl) (fun _ _ _ h => h) (Or.inl ⟨by rfl, ?hy8⟩) (by assumption) ?_
              case hy8 => (intro w hSw; (try dsimp only at hSw); go_simp; try (with_reducible rfl))
              (try simp only [Act.put, qa_, qb_, qc_])
              refine wpAnyH_ready (rs := [10]) (by kernel_rfl) (by simp) ?_
              refine AllReadyH.cons rfl (fun K hK => ?_) ?_
              · go_simp
                refine hK.out _ _ (by exact ⟨x9, cell_at hBs hb HE0.out, cell_at hBs hb HE1.out, cell_at hBs hb HE2.out⟩) (fun hHeld => ?_)
                clear hK K
                (try simp only [Act.put, qa_, qb_, qc_])
                refine wpAnyH_done (by kernel_rfl) ?_ _
                go_wp2
                go_roundw
                case rel => exact ⟨j + 1, .slice A9 n9 c9, by omega, by go_num, bel_put hBf (by show _ ≤ w.heap.size + 1 + 1; omega) _, by have := hBf.size; have := hgr2.size; simp [World.setCell] at *; omega, X2.far (p := ⟨w.heap.size + 1 + 1, 0, none⟩) (by show w.heap.size ≠ w.heap.size + 1 + 1; omega) _, Y2.far (p := ⟨w.heap.size + 1 + 1, 0, none⟩) (by show w.heap.size + 1 ≠ w.heap.size + 1 + 1; omega) _, by simpa using Z2.put 0 (.slice A9 n9 c9), by rw [HT.out]; exact hG2.put (by show w.heap.size + 1 + 1 < _; omega) (by show _ ≤ w.heap.size + 1 + 1; omega) _⟩
                case measure => simp [intOf]; omega
              exact AllReadyH.nil
            exact AllReadyH.nil
          exact AllReadyH.nil
        exact AllReadyH.nil
      · have HT := Lib.hid (exf_f hl2 ha)
        clear hl2 hR
        go_wp2
        go_roundw
        case rel => exact ⟨j + 1, v, by omega, by go_num, hB, hzr, hX, hY, hZ, by rw [HT.out]; exact hG⟩
        case measure => simp [intOf]; omega
    · obtain rfl : n0 = j := by omega
      have HA := Lib.hid (show r0.take n0 = r0 from List.take_of_length_le (Nat.le_of_eq E0.out))
      rw [HA.out] at hG
      obtain ⟨A3, c3, rfl⟩ := hG.shape
      have z0 : wr.cell? ⟨w.heap.size + 1 + 1, 0, none⟩ = some (.slice A3 (exf x r0).length c3) := hZ.cell 0
      have y0 := hY.cell 0; have y1 := hY.cell 1; have y2 := hY.frozen 0; have y3 := hY.frozen 1
      go_wp2_with fail
      go_region_held3 (fun w' => w'.cell? ⟨w.heap.size + 1 + 1, 0, none⟩ = some (.slice A3 (exf x r0).length c3) ∧ w'.cell? ⟨w.heap.size + 1 + 1, 1, none⟩ = some (.slice A1 n1 c1) ∧ w'.cell? ⟨w.heap.size, 0, none⟩ = some (.slice A0 n0 c0)) (first | (exact ⟨z0, z1, k0⟩) | go_keep) (fail)
      have hwr : IntKind.i64.wrap ((n0 : Int) - ((exf x r0).length : Int)) = (n0 : Int) - ((exf x r0).length : Int) := IntWalk.i64_in _ (by have := exf_len x r0; have := E0.out; omega)
      go_wp2
      have RR := ((hY.put 0 (.slice A3 (exf x r0).length c3)).put 1 (.slice A1 n1 c1)).drew
      have e0 := RR.cell 0; have e1 := RR.cell 1
      have hG2 := (hG.put (p := ⟨w.heap.size + 1, 0, none⟩) (by show w.heap.size + 1 < _; omega) (by show _ ≤ w.heap.size + 1; omega) (.slice A3 (exf x r0).length c3)).put (p := ⟨w.heap.size + 1, 1, none⟩) (by show w.heap.size + 1 < _; omega) (by show _ ≤ w.heap.size + 1; omega) (.slice A1 n1 c1)
      refine bodyPost_ret (v := .tuple #[.agg #[.slice A3 (exf x r0).length c3, .slice A1 n1 c1], .int .i64 ((n0 : Int) - ((exf x r0).length : Int))]) (by simp [results, Tryz.results131, go_sem, e0, e1, hwr]) rfl ⟨A3, c3, rfl, hG2.drew (by simp [World.setCell]; omega), ?_⟩
      exact bel_drew (bel_put (bel_put hB (by simp) _) (by simp) _)
theorem i_Exp1 (A2 : Option Addr) (n2 c2 g : Nat) (x0 x1 x : Int) (w : World) (hg : w.cell? ⟨g, 0, none⟩ = some (.int .i64 x)) :
    Calls Tryz.prog 144 #[.agg #[.int .i64 x0, .int .i64 x1, .slice A2 n2 c2], .pointer (some ⟨g, 0, none⟩)] w fun e w' => e = .returned (.bool (decide (x < x1))) ∧ Below w.heap.size w w' := by
  have hg2 : (w.alloc (.cells #[.int .i64 x0, .int .i64 x1, .slice A2 n2 c2] 121)).cell? ⟨g, 0, none⟩ = some (.int .i64 x) := cell_bel (belx) hg
  by_cases h : x < x1
  · have HR := Lib.hid (show decide (x < x1) = true from decide_eq_true h)
    go_enter Tryz.func144, Tryz.ntmps144
    go_wp2
    go_ret
    exact ⟨ret_bool (by first | exact HR.out.symm | (simp; exact h)), (belx)⟩
  · have HR := Lib.hid (show decide (x < x1) = false from decide_eq_false h)
    go_enter Tryz.func144, Tryz.ntmps144
    go_wp2
    go_ret
    exact ⟨ret_bool (by first | exact HR.out.symm | (simp; omega)), (belx)⟩
set_option maxHeartbeats 2000000 in
theorem i_onlyExp {w : World} {n c g : Nat} {A : Option Addr} {l : List DHeld} {x : Int} (h : tHeld.row.R w w.heap.size [.slice A n c] l) (hn : n ≤ 1048576) (hg : w.cell? ⟨g, 0, none⟩ = some (.int .i64 x)) :
    Calls Tryz.prog 143 #[.slice A n c, .func (.func 144) #[] #[.pointer (some ⟨g, 0, none⟩)]] w fun e w' => ∃ A' c', e = .returned (.slice A' (exf x l).length c') ∧ tHeld.row.R w' w'.heap.size [.slice A' (exf x l).length c'] (exf x l) ∧ Below w.heap.size w w' := by
  obtain ⟨i1, hj0, hj1, hj2, hj3⟩ := info_parts info_Held
  obtain ⟨e0, _, _⟩ := rowR_len h
  have HL := Lib.hid e0
  have hgs : g < w.heap.size := World.block_lt_of_cell? w _ hg
  clear e0
  go_enter Tryz.func143, Tryz.ntmps143
  go_wp2_with fail
  go_loopw [5, 10] (fun v i wr => ∃ j : Nat, j ≤ n ∧ i = .int .i64 j ∧ GrowR tHeld 121 wr w.heap.size w.heap.size v (exf x (l.take j)) ∧ Below w.heap.size w wr) (fun _ i _ => n - (intOf i).toNat)
  case atStart => exact ⟨0, by omega, rfl, GrowR.nil, (belx)⟩
  case round =>
    obtain ⟨j, hj, rfl, hG, hB⟩ := hrel
    by_cases hlt : j < n
    · obtain ⟨a, b', off, es, hl2, rfl, hb, hes, hR⟩ := rowR_at (K := 3) h hlt rfl
      obtain ⟨A2, n2, c2, rfl, -, -, -, -, -, -⟩ := openHeld hR
      have e0 : wr.cell? ⟨b', off + j * 3, none⟩ = some (.int .i64 a.1) := cell_at hB hb (hes 0 (by omega))
      have e1 : wr.cell? ⟨b', off + j * 3 + 1, none⟩ = some (.int .i64 a.2.1) := cell_at hB hb (hes 1 (by omega))
      have e2 : wr.cell? ⟨b', off + j * 3 + 2, none⟩ = some (.slice A2 n2 c2) := cell_at hB hb (hes 2 (by omega))
      clear hes
      have hRr : tHeld.R wr w.heap.size [.int .i64 a.1, .int .i64 a.2.1, .slice A2 n2 c2] a := tHeld.keep hR hB.block
      have hgr : wr.cell? ⟨g, 0, none⟩ = some (.int .i64 x) := cell_bel hB hg
      have hgr2 : (wr.alloc (.cells #[.int .i64 a.1, .int .i64 a.2.1, .slice A2 n2 c2] 121)).cell? ⟨g, 0, none⟩ = some (.int .i64 x) := cell_bel (belx) hgr
      have hll : (exf x (l.take j)).length ≤ n := by have := exf_len x (l.take j); rw [List.length_take] at this; omega
      have zB := hB.size
      by_cases ha : x < a.2.1
      · have HT := Lib.hid (exf_t hl2 ha)
        have HD := Lib.hid (show decide (x < a.2.1) = true from decide_eq_true ha)
        clear hl2 hR
        have hOwn := hG.own
        have tz : (Value.agg #[Value.int .i64 0, Value.int .i64 0, Value.slice none 0 0]).cells.size = 3 := by first | rfl | (simp [Value.cells]; done)
        clear ha
        go_wp2_with fail
        refine (i_Exp1 _ _ _ _ _ _ _ _ hgr2).mono ?_
        rintro e w1 ⟨rfl, hb1⟩
        rw [HD.out]
        have hs1 : Below wr.heap.size wr w1 := bel_trans (belx) hb1
        have X1 : Box w1 wr.heap.size 121 #[.int .i64 a.1, .int .i64 a.2.1, .slice A2 n2 c2] := (Box.new _ _ _).below hb1 (by simp)
        have x0 : w1.cell? ⟨wr.heap.size, 0, none⟩ = some (.int .i64 a.1) := X1.cell 0
        have x1 : w1.cell? ⟨wr.heap.size, 1, none⟩ = some (.int .i64 a.2.1) := X1.cell 1
        have x2 : w1.cell? ⟨wr.heap.size, 2, none⟩ = some (.slice A2 n2 c2) := X1.cell 2
        have hG1 := hG.below hs1 (by omega)
        have z1 := hs1.size
        have t1 : (exf x (l.take j)).length + 1 ≤ maxLen := by simp only [maxLen]; omega
        have t2 : ((exf x (l.take j)).length + 1) * 40 ≤ 140737488355328 := by omega
        have t3 : w.heap.size ≤ (w1.alloc (.cells [.int .i64 a.1, .int .i64 a.2.1, .slice A2 n2 c2].toArray 121)).heap.size := by simp; omega
        have t4 := tHeld.keep hRr (w' := w1.alloc (.cells [.int .i64 a.1, .int .i64 a.2.1, .slice A2 n2 c2].toArray 121)) (fun b hb => (Below.heap_alloc w1 _ b (by omega)).trans (hs1.block b (by omega)))
        have t5 := hG1.below (w' := w1.alloc (.cells [.int .i64 a.1, .int .i64 a.2.1, .slice A2 n2 c2].toArray 121)) (belx) (by omega)
        go_wp2_with (at_builtin; refine GrowR.push rfl (.tmp 17) (.tmp 19) _ rfl i1 _ 3 40 Tryz.underlying53 hj0 hj1 hj2 hj3 tz (by omega) rfl (by rfl) t5 w1.heap.size [.int .i64 a.1, .int .i64 a.2.1, .slice A2 n2 c2] a (by rfl) (Box.new w1 _ _) t4 (one_held _ _ _ _ _) (Nat.le_refl _) t3 t1 t2 ?_; intro v2 w2 hG2 hgr2')
        have hBf : Below w.heap.size w w2 := Below.grown (w := w1.alloc (.cells [.int .i64 a.1, .int .i64 a.2.1, .slice A2 n2 c2].toArray 121)) (bel_trans hB (bel_alloc hs1 _)) hgr2' (by simp; omega) (fun b hb => (hOwn b hb).1)
        go_roundw
        case rel => exact ⟨j + 1, by omega, by go_num, by rw [HT.out]; exact hG2, hBf⟩
        case measure => simp [intOf]; omega
      · have HT := Lib.hid (exf_f hl2 ha)
        have HD := Lib.hid (show decide (x < a.2.1) = false from decide_eq_false ha)
        clear hl2 hR ha
        go_wp2_with fail
        refine (i_Exp1 _ _ _ _ _ _ _ _ hgr2).mono ?_
        rintro e w1 ⟨rfl, hb1⟩
        rw [HD.out]
        have hs1 : Below wr.heap.size wr w1 := bel_trans (belx) hb1
        go_wp2
        go_roundw
        case rel => exact ⟨j + 1, by omega, by go_num, by rw [HT.out]; exact hG.below hs1 (by omega), bel_trans hB hs1⟩
        case measure => simp [intOf]; omega
    · obtain rfl : n = j := by omega
      have HA := Lib.hid (show l.take n = l from List.take_of_length_le (Nat.le_of_eq HL.out))
      rw [HA.out] at hG
      obtain ⟨A3, c3, rfl, hRf⟩ := hG.done hB.size
      go_wp2
      go_ret
      exact ⟨A3, c3, rfl, hRf, hB⟩
set_option maxHeartbeats 2000000 in
theorem i_Expire {w : World} {cs : List Value} {p : DPool} {x : Int} (h : tPool.R w w.heap.size cs p) (hz : szPool p ≤ 1048576) (hw : (Lit.int .i64 x).wf = true) :
    Calls Tryz.prog 74 #[.agg cs.toArray, .int .i64 x] w fun e w' => ∃ cs' F, e = .returned (.tuple #[.agg cs'.toArray, .int .i64 (fExpN p x)]) ∧ tPool.O w' cs' (fExp p x) F ∧ New w.heap.size F ∧ Below w.heap.size w w' := by
  obtain ⟨A0, n0, c0, A1, n1, c1, rfl, -, -, e0, hr0, -, -, -, hr1⟩ := openPool h
  by_cases hp : PlOk p
  rotate_left
  · have HP := Lib.hid (decide_eq_false hp)
    rw [fExp_f hp, fExpN_f hp]
    clear hp
    go_enter Tryz.func74, Tryz.ntmps74
    go_wp2_with fail
    refine (i_PoolOk (tPool.reach h ?hB) hz).mono ?_
    case hB => exact (belx)
    rintro e w1 ⟨rfl, hb1⟩
    rw [HP.out]
    have X1 : Box w1 w.heap.size 55 #[.slice A0 n0 c0, .slice A1 n1 c1] := Box.below (((Box.new w _ _).alloc _).alloc _) hb1 (by simp; omega)
    have K1 : Box w1 (w.heap.size + 1) 3 #[.int .i64 x] := Box.below (Box.alloc (by simpa using Box.new (w.alloc _) 3 #[.int .i64 x]) _) hb1 (by first | (simp; done) | (simp; omega))
    have Y1 : Box w1 (w.heap.size + 1 + 1) 55 #[.slice none 0 0, .slice none 0 0] := Box.below (by simpa using Box.new ((w.alloc _).alloc _) 55 #[.slice none 0 0, .slice none 0 0]) hb1 (by simp)
    have x0 : w1.cell? ⟨w.heap.size, 0, none⟩ = some (.slice A0 n0 c0) := X1.cell 0
    have x1 : w1.cell? ⟨w.heap.size, 1, none⟩ = some (.slice A1 n1 c1) := X1.cell 1
    have y0 := Y1.cell 0; have y1 := Y1.cell 1; have y2 := Y1.frozen 0; have y3 := Y1.frozen 1
    have hB1 : Below w.heap.size w w1 := bel_trans (belx) hb1
    have z1 : w.heap.size + 3 ≤ w1.heap.size := by have := hb1.size; simpa using this
    clear hb1
    go_wp2
    have RR := (Y1.put 0 (.slice none 0 0)).put 1 (.slice none 0 0)
    have e0 := RR.cell 0; have e1 := RR.cell 1
    refine bodyPost_ret (v := .tuple #[.agg #[.slice none 0 0, .slice none 0 0], .int .i64 (-1)]) (by simp [results, Tryz.results74, go_sem, e0, e1]) rfl ⟨[.slice none 0 0, .slice none 0 0], [], rfl, plzO, New.nil _, ?_⟩
    exact bel_put (bel_put hB1 (by show _ ≤ w.heap.size + 1 + 1; omega) _) (by show _ ≤ w.heap.size + 1 + 1; omega) _
  have HP := Lib.hid (decide_eq_true hp)
  rw [fExp_t hp, fExpN_t hp, e0]
  have hn0 : n0 ≤ 12 := by have := hp.1.1; omega
  have hz2 : rsz szHeld (exf x p.1) + p.2.length ≤ 1048576 := by have := exf_sz x p.1; unfold szPool at hz; omega
  have hle : (exf x p.1).length ≤ n0 := by have := exf_len x p.1; omega
  have hwr : IntKind.i64.wrap ((n0 : Int) - ((exf x p.1).length : Int)) = (n0 : Int) - ((exf x p.1).length : Int) := IntWalk.i64_in _ (by omega)
  clear hp e0
  go_enter Tryz.func74, Tryz.ntmps74
  go_wp2_with fail
  refine (i_PoolOk (tPool.reach h ?hB) hz).mono ?_
  case hB => exact (belx)
  rintro e w1 ⟨rfl, hb1⟩
  rw [HP.out]
  have X1 : Box w1 w.heap.size 55 #[.slice A0 n0 c0, .slice A1 n1 c1] := Box.below (((Box.new w _ _).alloc _).alloc _) hb1 (by simp; omega)
  have K1 : Box w1 (w.heap.size + 1) 3 #[.int .i64 x] := Box.below (Box.alloc (by simpa using Box.new (w.alloc _) 3 #[.int .i64 x]) _) hb1 (by first | (simp; done) | (simp; omega))
  have Y1 : Box w1 (w.heap.size + 1 + 1) 55 #[.slice none 0 0, .slice none 0 0] := Box.below (by simpa using Box.new ((w.alloc _).alloc _) 55 #[.slice none 0 0, .slice none 0 0]) hb1 (by simp)
  have x0 : w1.cell? ⟨w.heap.size, 0, none⟩ = some (.slice A0 n0 c0) := X1.cell 0
  have x1 : w1.cell? ⟨w.heap.size, 1, none⟩ = some (.slice A1 n1 c1) := X1.cell 1
  have y0 := Y1.cell 0; have y1 := Y1.cell 1; have y2 := Y1.frozen 0; have y3 := Y1.frozen 1
  have hB1 : Below w.heap.size w w1 := bel_trans (belx) hb1
  have z1 : w.heap.size + 3 ≤ w1.heap.size := by have := hb1.size; simpa using this
  clear hb1
  go_wp2_with fail
  refine (i_onlyExp (tHeld.row.reach hr0 hB1) (by omega) (K1.cell 0)).mono ?_
  rintro e w2 ⟨A3, c3, rfl, hR3, hb2⟩
  have X2 := X1.below hb2 X1.size
  have Y2 := Y1.below hb2 Y1.size
  have hB2 : Below w.heap.size w w2 := bel_trans hB1 hb2
  have z2 : w.heap.size + 3 ≤ w2.heap.size := Nat.le_trans z1 hb2.size
  clear y0 y1 y2 y3 x0 x1
  have x0 : w2.cell? ⟨w.heap.size, 0, none⟩ = some (.slice A0 n0 c0) := X2.cell 0
  have x1 : w2.cell? ⟨w.heap.size, 1, none⟩ = some (.slice A1 n1 c1) := X2.cell 1
  go_wp2_with fail
  go_region_held3 (fun w' => w'.cell? ⟨w.heap.size, 0, none⟩ = some (.slice A0 n0 c0) ∧ w'.cell? ⟨w.heap.size, 1, none⟩ = some (.slice A1 n1 c1)) (first | (exact ⟨x0, x1⟩) | (exact ⟨X3.cell 0, X3.cell 1⟩) | (exact ⟨X5.cell 0, X5.cell 1⟩) | go_keep)
    (first
      | (go_at_call 145; refine (i_PlCopy (tHeld.row.reach hR3 (belx)) (tIs.reach hr1 (bel_trans hB2 (belx))) hz2).mono ?_; rintro e w3 ⟨B0, d0, B1, d1, F, rfl, hO, hN, hb3⟩; have hs3 : Below w2.heap.size w2 w3 := bel_trans (belx) hb3; have X3 := X2.below hs3 X2.size; have X5 := (X3.far (p := ⟨w.heap.size + 1 + 1, 0, none⟩) (by show w.heap.size ≠ w.heap.size + 1 + 1; omega) (.slice B0 (exf x p.1).length d0)).far (p := ⟨w.heap.size + 1 + 1, 1, none⟩) (by show w.heap.size ≠ w.heap.size + 1 + 1; omega) (.slice B1 p.2.length d1); have Y3 := Y2.below hs3 Y2.size; have q0 := Y3.cell 0; have q1 := Y3.cell 1; have f0 := Y3.frozen 0; have f1 := Y3.frozen 1))
  have hM : New (w.heap.size + 3) F := hN.lower (by show _ ≤ w2.heap.size; omega)
  go_wp2
  have RR := (Y3.put 0 (.slice B0 (exf x p.1).length d0)).put 1 (.slice B1 p.2.length d1)
  have e0 := RR.cell 0; have e1 := RR.cell 1
  refine bodyPost_ret (v := .tuple #[.agg #[.slice B0 (exf x p.1).length d0, .slice B1 p.2.length d1], .int .i64 ((n0 : Int) - ((exf x p.1).length : Int))]) (by simp [results, Tryz.results74, go_sem, e0, e1, hwr]) rfl ⟨[.slice B0 (exf x p.1).length d0, .slice B1 p.2.length d1], F, rfl, put2_O hO (hM.not (by omega)), hM.lower (by omega), ?_⟩
  exact bel_put (bel_put (bel_trans hB2 hs3) (by show _ ≤ w.heap.size + 1 + 1; omega) _) (by show _ ≤ w.heap.size + 1 + 1; omega) _
end Go.Proofs.YtojbicecopkfbaaGreat
namespace Go.Proofs.YtojbicecopkfbaaGreat
set_option linter.unusedVariables false
open Fld
/-- What came whole: short enough, and its names are just the done ones. -/
def NdGot (got : List DLetter) (done : List Int) : Prop := (∀ l ∈ got, l.2.length ≤ 160) ∧ (got.map fun l => l.1).Perm done
/-- A node in order. -/
def NdOk (p : DNode) : Prop := (0 ≤ p.1 ∧ p.1 < 8) ∧ Sec p.2.1 ∧ PlOk p.2.2.1 ∧ DkOk p.2.2.2.1 ∧ NdGot p.2.2.2.2 p.2.2.2.1.2
noncomputable instance (p : DNode) : Decidable (NdOk p) := Classical.propDecidable _
noncomputable instance (l : List DLetter) (d : List Int) : Decidable (NdGot l d) := Classical.propDecidable _
/-- Distinct, all of them there, and as many: the same. -/
theorem perm_of_sub : ∀ (l d : List Int), l.Nodup → (∀ x ∈ l, x ∈ d) → d.length ≤ l.length → l.Perm d
  | [], d, _, _, h => by
    have : d = [] := List.eq_nil_of_length_eq_zero (by simpa using h)
    rw [this]
  | a :: l, d, hn, hs, hl => by
    have ha := hs a (by simp)
    refine List.Perm.trans (List.Perm.cons a ?_) (List.perm_cons_erase ha).symm
    rw [List.nodup_cons] at hn
    refine perm_of_sub l (d.erase a) hn.2 (fun x hx => ?_) ?_
    · refine (List.mem_erase_of_ne ?_).2 (hs x (by simp [hx]))
      rintro rfl; exact hn.1 hx
    · have := List.length_erase_of_mem ha
      simp at hl; omega
theorem asc_pair : ∀ {l : List Int}, Asc l → l.Pairwise (· < ·) := by
  intro l h
  have key : ∀ d i, i + d + 1 < l.length → l.getD i 0 < l.getD (i + d + 1) 0 := by
    intro d
    induction d with
    | zero => intro i hi; exact h i hi
    | succ d ih =>
      intro i hi
      have h1 := ih i (by omega)
      have h2 := h (i + d + 1) (by omega)
      rw [show i + (d + 1) + 1 = i + d + 1 + 1 by omega]
      omega
  rw [List.pairwise_iff_getElem]
  intro i j hi hj hij
  have := key (j - i - 1) i (by omega)
  rw [show i + (j - i - 1) + 1 = j by omega] at this
  rwa [List.getD_eq_getElem?_getD, List.getD_eq_getElem?_getD, List.getElem?_eq_getElem hi, List.getElem?_eq_getElem hj] at this
theorem asc_nodup {l : List Int} (h : Asc l) : l.Nodup := (asc_pair h).imp fun h => by omega
/-- Sorted names are the done ones just where they are the same. -/
theorem sorted_iff {l d : List Int} (h : Asc d) : l.mergeSort (fun x y => decide (x ≤ y)) = d ↔ l.Perm d := by
  constructor
  · rintro rfl; exact (List.mergeSort_perm l _).symm
  · intro hp
    refine List.Perm.eq_of_pairwise (le := fun x y : Int => x ≤ y) (fun a b _ _ h1 h2 => by omega) ?_ ?_ ((List.mergeSort_perm l _).trans hp)
    · refine (List.pairwise_mergeSort (le := fun x y : Int => decide (x ≤ y)) (fun a b c h1 h2 => by simp at *; omega) (fun a b => by simp; omega) l).imp fun h => by simpa using h
    · exact (asc_pair h).imp fun h => by omega
/-- The first k letters: each of the done ones, short enough, none twice. -/
def LtK (got : List DLetter) (done : List Int) (k : Nat) : Prop := (∀ l ∈ got.take k, l.1 ∈ done ∧ l.2.length ≤ 160) ∧ ((got.take k).map fun l => l.1).Nodup
theorem LtK.zero {got : List DLetter} {done : List Int} : LtK got done 0 := ⟨al0, by simp⟩
theorem LtK.succ {got : List DLetter} {done : List Int} {k : Nat} {a : DLetter} (h : LtK got done k) (hl : got[k]? = some a) (h1 : a.1 ∈ done) (h2 : a.2.length ≤ 160) (h3 : ∀ b ∈ got.take k, b.1 ≠ a.1) : LtK got done (k + 1) := by
  refine ⟨alS h.1 hl ⟨h1, h2⟩, ?_⟩
  rw [take_sn hl, List.map_append, List.nodup_append]
  refine ⟨h.2, by simp, fun x hx y hy e => ?_⟩
  simp only [List.map_cons, List.map_nil, List.mem_singleton] at hy
  obtain ⟨b, hb, rfl⟩ := List.mem_map.1 hx
  exact h3 b hb (e.trans hy)
theorem LtK.done {got : List DLetter} {done : List Int} {k : Nat} (h : LtK got done k) (hk : got.length ≤ k) (hl : got.length = done.length) : NdGot got done := by
  have h1 := h.1; have h2 := h.2
  rw [List.take_of_length_le hk] at h1 h2
  refine ⟨fun l hl => (h1 l hl).2, perm_of_sub _ _ h2 (fun x hx => ?_) (by rw [List.length_map]; omega)⟩
  obtain ⟨l, hl, rfl⟩ := List.mem_map.1 hx
  exact (h1 l hl).1
theorem NdGot.len {got : List DLetter} {done : List Int} (h : NdGot got done) : got.length = done.length := by
  have := h.2.length_eq; rwa [List.length_map] at this
theorem NdGot.has {got : List DLetter} {done : List Int} (h : NdGot got done) {l : DLetter} (hl : l ∈ got) : l.1 ∈ done := h.2.mem_iff.1 (List.mem_map.2 ⟨l, hl, rfl⟩)
theorem NdGot.nodup {got : List DLetter} {done : List Int} (h : NdGot got done) (hd : Asc done) : (got.map fun l => l.1).Nodup := h.2.nodup_iff.2 (asc_nodup hd)
theorem nd_ne {got : List DLetter} {k i : Nat} {a b : DLetter} (h : (got.map fun l => l.1).Nodup) (hk : k < i) (ha : got[i]? = some a) (hb : got[k]? = some b) : b.1 ≠ a.1 := by
  intro e
  rw [List.nodup_iff_pairwise_ne, List.pairwise_iff_getElem] at h
  have hi := (List.getElem?_eq_some_iff.1 ha).1
  refine h k i (by rw [List.length_map]; omega) (by rw [List.length_map]; exact hi) hk ?_
  rw [List.getElem_map, List.getElem_map, (List.getElem?_eq_some_iff.1 ha).2, (List.getElem?_eq_some_iff.1 hb).2, e]
end Go.Proofs.YtojbicecopkfbaaGreat
