/-
  TpM, TpQ: texts joined.
-/
import Derived.Test.YtaabmaoldhoinaaGreatVGc
import Derived.Test.YtaabmaoldhoinaaGreatVGd
import Derived.Deep.Cut
import Derived.Deep.CutRange
import Derived.Deep.DeepCutAuto
namespace Go.Proofs.YtaabmaoldhoinaaGreat
set_option maxRecDepth 100000
set_option linter.unusedVariables false
set_option linter.unusedSimpArgs false
open Go.ChangeShapes Go.WideShapes Go.ChangeAt Go.RowKit
open Fld
set_option maxHeartbeats 1600000 in
theorem s_tk_M_all {w : World} {kb n0 c0 n1 c1 n7 c7 : Nat} {A0 A1 A7 : Option Addr} {y0 y1 y2 x : Int} {qd : List Int} {p : DDesk} (h0 : (RX kb (tWhX kb)).R w w.heap.size [.slice A0 n0 c0] p.1) (h1 : (XT kb tIs).R w w.heap.size [.slice A1 n1 c1] p.2) (hq : (tPcX kb).R w w.heap.size [.int .i64 y0, .int .i64 y1, .int .i64 y2, .slice A7 n7 c7] (y0, y1, y2, qd)) (hp : DkOk p) (hpc : PcOk (y0, y1, y2, qd)) (hx : 0 ≤ x ∧ x ≤ 65535) (hkb : kb ≤ w.heap.size) {i0 : Nat} (hi0 : i0 ≤ n0) (hlo : ∀ a ∈ p.1.take i0, a.1 < y0) (hhi : ∀ a ∈ p.1.drop i0, y0 < a.1) (hm : y0 ∉ p.2) (hi1 : i0 < n0) {R : DDesk × List Int × Int} (hrd : ((insB pAt (y0, y1, y2, qd) ([] : List DPiece)).length : Int) = y2 → R = ((p.1.take i0 ++ p.1.drop i0, insI y0 p.2), tkData ([(y0, y1, y2, qd)]), (1 : Int))) (hrf : ¬ ((insB pAt (y0, y1, y2, qd) ([] : List DPiece)).length : Int) = y2 → 6 ≤ n0 → R = ((p.1, p.2), [], (-2 : Int))) (hrp : ¬ ((insB pAt (y0, y1, y2, qd) ([] : List DPiece)).length : Int) = y2 → ¬ 6 ≤ n0 → R = ((p.1.take i0 ++ (y0, y2, x, [(y0, y1, y2, qd)]) :: p.1.drop i0, p.2), [], (0 : Int))) :
    Calls Tryz.prog 39 #[.agg #[.slice A0 n0 c0, .slice A1 n1 c1], .agg #[.int .i64 y0, .int .i64 y1, .int .i64 y2, .slice A7 n7 c7], .int .i64 x] w fun e w' => ∃ v0 v1 vb, e = .returned (.tuple #[.agg #[v0, v1], vb, .int .i64 (R.2.2)]) ∧ (RX kb (tWhX kb)).R w' w'.heap.size [v0] (R.1.1) ∧ (XT kb tIs).R w' w'.heap.size [v1] (R.1.2) ∧ (XT kb tBy).R w' w'.heap.size [vb] (R.2.1) ∧ Below w.heap.size w w' := by
  have H1R := Lib.hid h1
  have HWY := Lib.hid (show (Lit.int .i64 y0).wf = true from by obtain ⟨_, _, _, e_, w0_, -⟩ := openPiece (xt_R hq); exact w0_)
  have HC0 := Lib.hid (rx_len h0).2.1
  have HC1 := Lib.hid (rx_len h0).2.2
  have HRD := Lib.hid hrd
  have HRP := Lib.hid hrp
  have HRF := Lib.hid hrf
  clear hrf
  clear hrd hrp
  have HWF := Lib.hid (show (Lit.int .i64 y0).wf = true ∧ (Lit.int .i64 y2).wf = true ∧ (Lit.int .i64 x).wf = true from by obtain ⟨_, _, _, e_, w0_, w1_, w2_, -⟩ := openPiece (xt_R hq); exact ⟨w0_, w2_, WalkArith.wf_i64 ⟨by omega, by omega⟩⟩)
  have HD20 := Lib.hid (show ∀ p ∈ insB pAt (y0, y1, y2, qd) ([] : List DPiece), p.2.2.2.length ≤ 20 from fun p_ hp_ => by rcases insB_mem.1 hp_ with rfl | ⟨h, _⟩; exact (pc_le8 hpc).2.2.1; exact absurd h (by simp))
  have HM := Lib.hid (decide_eq_false hm)
  have HMN := Lib.hid hm
  have hI1 := (slR_ints (xt_R h1)).1
  have E0 := Lib.hid (rx_len h0).1
  have hn0 : n0 ≤ 6 := by have := hp.1; have := (rx_len h0).1; omega
  have hn1 : n1 ≤ 256 := by have := asc_len hp.2.2.1 hp.2.1; have := hI1.1; omega
  obtain ⟨i1, hj0, hj1, hj2, hj3⟩ := info_parts info_Whole
  have P0 : Box (((w.alloc (.cells #[.slice A0 n0 c0, .slice A1 n1 c1] 33)).alloc (.cells #[.int .i64 y0, .int .i64 y1, .int .i64 y2, .slice A7 n7 c7] 37)).alloc (.cells #[.slice none 0 0, .slice none 0 0] 33)) w.heap.size 33 #[.slice A0 n0 c0, .slice A1 n1 c1] := ((Box.new w _ _).alloc _).alloc _
  have P1 : Box (((w.alloc (.cells #[.slice A0 n0 c0, .slice A1 n1 c1] 33)).alloc (.cells #[.int .i64 y0, .int .i64 y1, .int .i64 y2, .slice A7 n7 c7] 37)).alloc (.cells #[.slice none 0 0, .slice none 0 0] 33)) (w.heap.size + 1) 37 #[.int .i64 y0, .int .i64 y1, .int .i64 y2, .slice A7 n7 c7] := Box.alloc (by simpa using Box.new (w.alloc (.cells #[.slice A0 n0 c0, .slice A1 n1 c1] 33)) 37 #[.int .i64 y0, .int .i64 y1, .int .i64 y2, .slice A7 n7 c7]) _
  have P2 : Box (((w.alloc (.cells #[.slice A0 n0 c0, .slice A1 n1 c1] 33)).alloc (.cells #[.int .i64 y0, .int .i64 y1, .int .i64 y2, .slice A7 n7 c7] 37)).alloc (.cells #[.slice none 0 0, .slice none 0 0] 33)) (w.heap.size + 1 + 1) 33 #[.slice none 0 0, .slice none 0 0] := by simpa using Box.new ((w.alloc (.cells #[.slice A0 n0 c0, .slice A1 n1 c1] 33)).alloc (.cells #[.int .i64 y0, .int .i64 y1, .int .i64 y2, .slice A7 n7 c7] 37)) 33 #[.slice none 0 0, .slice none 0 0]
  have hB0 : Below w.heap.size w (((w.alloc (.cells #[.slice A0 n0 c0, .slice A1 n1 c1] 33)).alloc (.cells #[.int .i64 y0, .int .i64 y1, .int .i64 y2, .slice A7 n7 c7] 37)).alloc (.cells #[.slice none 0 0, .slice none 0 0] 33)) := (belx)
  have HLO := Lib.hid hlo
  have HHI := Lib.hid hhi
  have HP := Lib.hid hp
  have HPC := Lib.hid hpc
  clear hp hpc hlo hhi hm
  go_enter Tryz.func39, Tryz.ntmps39
  go_wp2_with fail
  refine (s_l4has y0 (hI1.below (show Below w.heap.size w (((w.alloc (.cells #[.slice A0 n0 c0, .slice A1 n1 c1] 33)).alloc (.cells #[.int .i64 y0, .int .i64 y1, .int .i64 y2, .slice A7 n7 c7] 37)).alloc (.cells #[.slice none 0 0, .slice none 0 0] 33)) from (belx))) (by omega)).mono ?_
  rintro e w' ⟨rfl, rfl⟩
  rw [HM.out]
  go_wp2_with fail
  go_loopw [9] (fun i wr => ∃ j : Nat, j ≤ i0 ∧ i = .int .i64 j ∧ Below w.heap.size w wr ∧ Box wr w.heap.size 33 #[.slice A0 n0 c0, .slice A1 n1 c1] ∧ Box wr (w.heap.size + 1) 37 #[.int .i64 y0, .int .i64 y1, .int .i64 y2, .slice A7 n7 c7] ∧ Box wr (w.heap.size + 1 + 1) 33 #[.slice none 0 0, .slice none 0 0]) (fun i _ => i0 - ixOf i)
  case atStart => exact ⟨0, by omega, rfl, (belx), P0, P1, P2⟩
  case round =>
    obtain ⟨j, hj, rfl, hB, B0, B1, B2⟩ := hrel
    clear P0 P1 P2
    have k0 : wr.cell? ⟨w.heap.size, 0, none⟩ = some (.slice A0 n0 c0) := B0.cell 0
    have q0 : wr.cell? ⟨w.heap.size + 1, 0, none⟩ = some (.int .i64 y0) := B1.cell 0
    by_cases hlt : j < i0
    · obtain ⟨⟨a0, a1, a2, ag⟩, b', off, es, hl2, rfl, hb, hes, hR⟩ := rx_at (k := 4) h0 (i := j) (by omega) rfl
      obtain ⟨A3, n3, c3, rfl, wa0, wa1, wa2, -, -, hl3, h3⟩ := openWhX hR
      have e0 : wr.cell? ⟨b', off + j * 4, none⟩ = some (.int .i64 a0) := cell_at hB hb (hes 0 (by omega))
      have HE0 := Lib.hid (show w.cell? ⟨b', off + j * 4, none⟩ = some (.int .i64 a0) from hes 0 (by omega))
      have HE1 := Lib.hid (show w.cell? ⟨b', off + j * 4 + 1, none⟩ = some (.int .i64 a1) from hes 1 (by omega))
      have HE2 := Lib.hid (show w.cell? ⟨b', off + j * 4 + 2, none⟩ = some (.int .i64 a2) from hes 2 (by omega))
      have HE3 := Lib.hid (show w.cell? ⟨b', off + j * 4 + 3, none⟩ = some (.slice A3 n3 c3) from hes 3 (by omega))
      have j1 : (j : Int) < (n0 : Int) := by omega
      clear hes
      have hid : a0 < y0 := HLO.out (a0, a1, a2, ag) (mem_takeW hl2 hlt)
      have dg : decide (a0 < y0) = true := decide_eq_true hid
      go_wp2_with fail
      refine wp_region_held_drew (S := (fun w' => w'.cell? ⟨w.heap.size, 0, none⟩ = some (.slice (some ⟨b', off, none⟩) n0 c0) ∧ w'.cell? ⟨b', off + j * 4, none⟩ = some (.int .i64 a0) ∧ w'.cell? ⟨w.heap.size + 1, 0, none⟩ = some (.int .i64 y0))) (by kernel_rfl) (by exact ⟨k0, e0, q0⟩) (fun hHeld => ?_)
      refine wpAnyH_take (i := 0) (oi := ⟨some 21, _, _, _, _, _⟩) (v := ?v112) rfl (by kernel_rfl) (by kernel_rfl) (by kernel_rfl) (fun _ _ _ h => h) (Or.inl ⟨by rfl, ?hy112⟩) (by assumption) ?_
      case hy112 => (intro w hSw; (try dsimp only at hSw); go_simp; try (with_reducible rfl))
      (try simp only [Act.put, qa_, qb_, qc_])
      refine wpAnyH_take (i := 1) (oi := ⟨some 22, _, _, _, _, _⟩) (v := ?v113) rfl (by kernel_rfl) (by kernel_rfl) (by kernel_rfl) (fun _ _ _ h => h) (Or.inl ⟨by rfl, ?hy113⟩) (by assumption) ?_
      case hy113 => (intro w hSw; (try dsimp only at hSw); go_simp; try (with_reducible rfl))
      (try simp only [Act.put, qa_, qb_, qc_])
      refine wpAnyH_take (i := 2) (oi := ⟨some 23, _, _, _, _, _⟩) (v := ?v114) rfl (by kernel_rfl) (by kernel_rfl) (by kernel_rfl) (fun _ _ _ h => h) (Or.inl ⟨by rfl, ?hy114⟩) (by assumption) ?_
      case hy114 => (intro w hSw; (try dsimp only at hSw); go_simp; try (with_reducible rfl))
      (try simp only [Act.put, qa_, qb_, qc_])
      refine wpAnyH_take (i := 3) (oi := ⟨some 24, _, _, _, _, _⟩) (v := ?v115) rfl (by kernel_rfl) (by kernel_rfl) (by kernel_rfl) (fun _ _ _ h => h) (Or.inl ⟨by rfl, ?hy115⟩) (by assumption) ?_
      case hy115 => (intro w hSw; (try dsimp only at hSw); go_simp; try (with_reducible rfl))
      (try simp only [Act.put, qa_, qb_, qc_])
      refine wpAnyH_take (i := 4) (oi := ⟨some 25, _, _, _, _, _⟩) (v := ?v116) rfl (by kernel_rfl) (by kernel_rfl) (by kernel_rfl) (fun _ _ _ h => h) (Or.inl ⟨by rfl, ?hy116⟩) (by assumption) ?_
      case hy116 => (intro w hSw; (try dsimp only at hSw); go_simp; try (with_reducible rfl))
      (try simp only [Act.put, qa_, qb_, qc_])
      refine wpAnyH_take (i := 5) (oi := ⟨some 26, _, _, _, _, _⟩) (v := ?v117) rfl (by kernel_rfl) (by kernel_rfl) (by kernel_rfl) (fun _ _ _ h => h) (Or.inl ⟨by rfl, ?hy117⟩) (by assumption) ?_
      case hy117 => (intro w hSw; (try dsimp only at hSw); go_simp; try (with_reducible rfl))
      (try simp only [Act.put, qa_, qb_, qc_])
      refine wpAnyH_take (i := 6) (oi := ⟨some 27, _, _, _, _, _⟩) (v := ?v118) rfl (by kernel_rfl) (by kernel_rfl) (by kernel_rfl) (fun _ _ _ h => h) (Or.inl ⟨by rfl, ?hy118⟩) (by assumption) ?_
      case hy118 => (intro w hSw; (try dsimp only at hSw); go_simp; try (with_reducible rfl))
      (try simp only [Act.put, qa_, qb_, qc_])
      refine wpAnyH_take (i := 7) (oi := ⟨some 28, _, _, _, _, _⟩) (v := ?v119) rfl (by kernel_rfl) (by kernel_rfl) (by kernel_rfl) (fun _ _ _ h => h) (Or.inl ⟨by rfl, ?hy119⟩) (by assumption) ?_
      case hy119 => (intro w hSw; (try dsimp only at hSw); go_simp; try (with_reducible rfl))
      (try simp only [Act.put, qa_, qb_, qc_])
      refine wpAnyH_take (i := 8) (oi := ⟨some 29, _, _, _, _, _⟩) (v := ?v120) rfl (by kernel_rfl) (by kernel_rfl) (by kernel_rfl) (fun _ _ _ h => h) (Or.inl ⟨by rfl, ?hy120⟩) (by assumption) ?_
      case hy120 => (intro w hSw; (try dsimp only at hSw); go_simp; try (with_reducible rfl))
      (try simp only [Act.put, qa_, qb_, qc_])
      refine wpAnyH_take (i := 9) (oi := ⟨some 30, _, _, _, _, _⟩) (v := ?v121) rfl (by kernel_rfl) (by kernel_rfl) (by kernel_rfl) (fun _ _ _ h => h) (Or.inl ⟨by rfl, ?hy121⟩) (by assumption) ?_
      case hy121 => (intro w hSw; (try dsimp only at hSw); go_simp; try (with_reducible rfl))
      (try simp only [Act.put, qa_, qb_, qc_])
      refine wpAnyH_take (i := 10) (oi := ⟨some 31, _, _, _, _, _⟩) (v := ?v122) rfl (by kernel_rfl) (by kernel_rfl) (by kernel_rfl) (fun _ _ _ h => h) (Or.inl ⟨by rfl, ?hy122⟩) (by assumption) ?_
      case hy122 => (intro w hSw; (try dsimp only at hSw); go_simp; try (with_reducible rfl))
      (try simp only [Act.put, qa_, qb_, qc_])
      refine wpAnyH_take (i := 11) (oi := ⟨some 32, _, _, _, _, _⟩) (v := ?v123) rfl (by kernel_rfl) (by kernel_rfl) (by kernel_rfl) (fun _ _ _ h => h) (Or.inl ⟨by rfl, ?hy123⟩) (by assumption) ?_
      case hy123 => (intro w hSw; (try dsimp only at hSw); go_simp; try (with_reducible rfl))
      (try simp only [Act.put, qa_, qb_, qc_])
      refine wpAnyH_take (i := 12) (oi := ⟨some 33, _, _, _, _, _⟩) (v := ?v124) rfl (by kernel_rfl) (by kernel_rfl) (by kernel_rfl) (fun _ _ _ h => h) (Or.inl ⟨by rfl, ?hy124⟩) (by assumption) ?_
      case hy124 => (intro w hSw; (try dsimp only at hSw); go_simp; try (with_reducible rfl))
      (try simp only [Act.put, qa_, qb_, qc_])
      refine wpAnyH_take (i := 13) (oi := ⟨some 34, _, _, _, _, _⟩) (v := ?v125) rfl (by kernel_rfl) (by kernel_rfl) (by kernel_rfl) (fun _ _ _ h => h) (Or.inl ⟨by rfl, ?hy125⟩) (by assumption) ?_
      case hy125 => (intro w hSw; (try dsimp only at hSw); go_simp; try (with_reducible rfl))
      (try simp only [Act.put, qa_, qb_, qc_])
      refine wpAnyH_take (i := 14) (oi := ⟨some 35, _, _, _, _, _⟩) (v := ?v126) rfl (by kernel_rfl) (by kernel_rfl) (by kernel_rfl) (fun _ _ _ h => h) (Or.inl ⟨by rfl, ?hy126⟩) (by assumption) ?_
      case hy126 => (intro w hSw; (try dsimp only at hSw); go_simp; try (with_reducible rfl))
      (try simp only [Act.put, qa_, qb_, qc_])
      refine wpAnyH_take (i := 15) (oi := ⟨some 36, _, _, _, _, _⟩) (v := ?v127) rfl (by kernel_rfl) (by kernel_rfl) (by kernel_rfl) (fun _ _ _ h => h) (Or.inl ⟨by rfl, ?hy127⟩) (by assumption) ?_
      case hy127 => (intro w hSw; (try dsimp only at hSw); go_simp; try (with_reducible rfl))
      (try simp only [Act.put, qa_, qb_, qc_])
      refine wpAnyH_done (by kernel_rfl) ?_ _
      go_wp2
      go_roundw
      case rel => exact ⟨j + 1, by omega, by go_num, bel_drew hB, Box.drew B0, Box.drew B1, Box.drew B2⟩
      case measure => simp [ixOf]; omega
    · obtain rfl : j = i0 := by omega
      obtain ⟨⟨a0, a1, a2, ag⟩, b', off, es, hl2, rfl, hb, hes, hR⟩ := rx_at (k := 4) h0 (i := j) (hi1) rfl
      obtain ⟨A3, n3, c3, rfl, wa0, wa1, wa2, -, -, hl3, h3⟩ := openWhX hR
      have e0 : wr.cell? ⟨b', off + j * 4, none⟩ = some (.int .i64 a0) := cell_at hB hb (hes 0 (by omega))
      have HE0 := Lib.hid (show w.cell? ⟨b', off + j * 4, none⟩ = some (.int .i64 a0) from hes 0 (by omega))
      have HE1 := Lib.hid (show w.cell? ⟨b', off + j * 4 + 1, none⟩ = some (.int .i64 a1) from hes 1 (by omega))
      have HE2 := Lib.hid (show w.cell? ⟨b', off + j * 4 + 2, none⟩ = some (.int .i64 a2) from hes 2 (by omega))
      have HE3 := Lib.hid (show w.cell? ⟨b', off + j * 4 + 3, none⟩ = some (.slice A3 n3 c3) from hes 3 (by omega))
      have j1 : (j : Int) < (n0 : Int) := by omega
      clear hes
      have hgt : y0 < a0 := HHI.out (a0, a1, a2, ag) (mem_dropW hl2)
      have dg : decide (a0 < y0) = false := decide_eq_false (by omega)
      have de : (a0 == y0) = false := by simp; omega
      go_wp2_with fail
      refine wp_region_held_drew (S := (fun w' => w'.cell? ⟨w.heap.size, 0, none⟩ = some (.slice (some ⟨b', off, none⟩) n0 c0) ∧ w'.cell? ⟨b', off + j * 4, none⟩ = some (.int .i64 a0) ∧ w'.cell? ⟨w.heap.size + 1, 0, none⟩ = some (.int .i64 y0))) (by kernel_rfl) (by exact ⟨k0, e0, q0⟩) (fun hHeld => ?_)
      refine wpAnyH_take (i := 0) (oi := ⟨some 21, _, _, _, _, _⟩) (v := ?v158) rfl (by kernel_rfl) (by kernel_rfl) (by kernel_rfl) (fun _ _ _ h => h) (Or.inl ⟨by rfl, ?hy158⟩) (by assumption) ?_
      case hy158 => (intro w hSw; (try dsimp only at hSw); go_simp; try (with_reducible rfl))
      (try simp only [Act.put, qa_, qb_, qc_])
      refine wpAnyH_take (i := 1) (oi := ⟨some 22, _, _, _, _, _⟩) (v := ?v159) rfl (by kernel_rfl) (by kernel_rfl) (by kernel_rfl) (fun _ _ _ h => h) (Or.inl ⟨by rfl, ?hy159⟩) (by assumption) ?_
      case hy159 => (intro w hSw; (try dsimp only at hSw); go_simp; try (with_reducible rfl))
      (try simp only [Act.put, qa_, qb_, qc_])
      refine wpAnyH_take (i := 2) (oi := ⟨some 23, _, _, _, _, _⟩) (v := ?v160) rfl (by kernel_rfl) (by kernel_rfl) (by kernel_rfl) (fun _ _ _ h => h) (Or.inl ⟨by rfl, ?hy160⟩) (by assumption) ?_
      case hy160 => (intro w hSw; (try dsimp only at hSw); go_simp; try (with_reducible rfl))
      (try simp only [Act.put, qa_, qb_, qc_])
      refine wpAnyH_take (i := 3) (oi := ⟨some 24, _, _, _, _, _⟩) (v := ?v161) rfl (by kernel_rfl) (by kernel_rfl) (by kernel_rfl) (fun _ _ _ h => h) (Or.inl ⟨by rfl, ?hy161⟩) (by assumption) ?_
      case hy161 => (intro w hSw; (try dsimp only at hSw); go_simp; try (with_reducible rfl))
      (try simp only [Act.put, qa_, qb_, qc_])
      refine wpAnyH_take (i := 4) (oi := ⟨some 25, _, _, _, _, _⟩) (v := ?v162) rfl (by kernel_rfl) (by kernel_rfl) (by kernel_rfl) (fun _ _ _ h => h) (Or.inl ⟨by rfl, ?hy162⟩) (by assumption) ?_
      case hy162 => (intro w hSw; (try dsimp only at hSw); go_simp; try (with_reducible rfl))
      (try simp only [Act.put, qa_, qb_, qc_])
      refine wpAnyH_take (i := 5) (oi := ⟨some 26, _, _, _, _, _⟩) (v := ?v163) rfl (by kernel_rfl) (by kernel_rfl) (by kernel_rfl) (fun _ _ _ h => h) (Or.inl ⟨by rfl, ?hy163⟩) (by assumption) ?_
      case hy163 => (intro w hSw; (try dsimp only at hSw); go_simp; try (with_reducible rfl))
      (try simp only [Act.put, qa_, qb_, qc_])
      refine wpAnyH_take (i := 6) (oi := ⟨some 27, _, _, _, _, _⟩) (v := ?v164) rfl (by kernel_rfl) (by kernel_rfl) (by kernel_rfl) (fun _ _ _ h => h) (Or.inl ⟨by rfl, ?hy164⟩) (by assumption) ?_
      case hy164 => (intro w hSw; (try dsimp only at hSw); go_simp; try (with_reducible rfl))
      (try simp only [Act.put, qa_, qb_, qc_])
      refine wpAnyH_take (i := 7) (oi := ⟨some 28, _, _, _, _, _⟩) (v := ?v165) rfl (by kernel_rfl) (by kernel_rfl) (by kernel_rfl) (fun _ _ _ h => h) (Or.inl ⟨by rfl, ?hy165⟩) (by assumption) ?_
      case hy165 => (intro w hSw; (try dsimp only at hSw); go_simp; try (with_reducible rfl))
      (try simp only [Act.put, qa_, qb_, qc_])
      refine wpAnyH_take (i := 8) (oi := ⟨some 29, _, _, _, _, _⟩) (v := ?v166) rfl (by kernel_rfl) (by kernel_rfl) (by kernel_rfl) (fun _ _ _ h => h) (Or.inl ⟨by rfl, ?hy166⟩) (by assumption) ?_
      case hy166 => (intro w hSw; (try dsimp only at hSw); go_simp; try (with_reducible rfl))
      (try simp only [Act.put, qa_, qb_, qc_])
      refine wpAnyH_take (i := 9) (oi := ⟨some 30, _, _, _, _, _⟩) (v := ?v167) rfl (by kernel_rfl) (by kernel_rfl) (by kernel_rfl) (fun _ _ _ h => h) (Or.inl ⟨by rfl, ?hy167⟩) (by assumption) ?_
      case hy167 => (intro w hSw; (try dsimp only at hSw); go_simp; try (with_reducible rfl))
      (try simp only [Act.put, qa_, qb_, qc_])
      refine wpAnyH_take (i := 10) (oi := ⟨some 31, _, _, _, _, _⟩) (v := ?v168) rfl (by kernel_rfl) (by kernel_rfl) (by kernel_rfl) (fun _ _ _ h => h) (Or.inl ⟨by rfl, ?hy168⟩) (by assumption) ?_
      case hy168 => (intro w hSw; (try dsimp only at hSw); go_simp; try (with_reducible rfl))
      (try simp only [Act.put, qa_, qb_, qc_])
      refine wpAnyH_take (i := 11) (oi := ⟨some 32, _, _, _, _, _⟩) (v := ?v169) rfl (by kernel_rfl) (by kernel_rfl) (by kernel_rfl) (fun _ _ _ h => h) (Or.inl ⟨by rfl, ?hy169⟩) (by assumption) ?_
      case hy169 => (intro w hSw; (try dsimp only at hSw); go_simp; try (with_reducible rfl))
      (try simp only [Act.put, qa_, qb_, qc_])
      refine wpAnyH_take (i := 12) (oi := ⟨some 33, _, _, _, _, _⟩) (v := ?v170) rfl (by kernel_rfl) (by kernel_rfl) (by kernel_rfl) (fun _ _ _ h => h) (Or.inl ⟨by rfl, ?hy170⟩) (by assumption) ?_
      case hy170 => (intro w hSw; (try dsimp only at hSw); go_simp; try (with_reducible rfl))
      (try simp only [Act.put, qa_, qb_, qc_])
      refine wpAnyH_take (i := 13) (oi := ⟨some 34, _, _, _, _, _⟩) (v := ?v171) rfl (by kernel_rfl) (by kernel_rfl) (by kernel_rfl) (fun _ _ _ h => h) (Or.inl ⟨by rfl, ?hy171⟩) (by assumption) ?_
      case hy171 => (intro w hSw; (try dsimp only at hSw); go_simp; try (with_reducible rfl))
      (try simp only [Act.put, qa_, qb_, qc_])
      refine wpAnyH_take (i := 14) (oi := ⟨some 35, _, _, _, _, _⟩) (v := ?v172) rfl (by kernel_rfl) (by kernel_rfl) (by kernel_rfl) (fun _ _ _ h => h) (Or.inl ⟨by rfl, ?hy172⟩) (by assumption) ?_
      case hy172 => (intro w hSw; (try dsimp only at hSw); go_simp; try (with_reducible rfl))
      (try simp only [Act.put, qa_, qb_, qc_])
      refine wpAnyH_take (i := 15) (oi := ⟨some 36, _, _, _, _, _⟩) (v := ?v173) rfl (by kernel_rfl) (by kernel_rfl) (by kernel_rfl) (fun _ _ _ h => h) (Or.inl ⟨by rfl, ?hy173⟩) (by assumption) ?_
      case hy173 => (intro w hSw; (try dsimp only at hSw); go_simp; try (with_reducible rfl))
      (try simp only [Act.put, qa_, qb_, qc_])
      refine wpAnyH_done (by kernel_rfl) ?_ _
      go_wp2_with fail
      refine wp_region_held_drew (S := (fun w' => w'.cell? ⟨w.heap.size, 0, none⟩ = some (.slice (some ⟨b', off, none⟩) n0 c0) ∧ w'.cell? ⟨b', off + j * 4, none⟩ = some (.int .i64 a0) ∧ w'.cell? ⟨w.heap.size + 1, 0, none⟩ = some (.int .i64 y0))) (by kernel_rfl) (by exact ⟨k0, e0, q0⟩) (fun hHeld => ?_)
      refine wpAnyH_take (i := 0) (oi := ⟨some 39, _, _, _, _, _⟩) (v := ?v141) rfl (by kernel_rfl) (by kernel_rfl) (by kernel_rfl) (fun _ _ _ h => h) (Or.inl ⟨by rfl, ?hy141⟩) (by assumption) ?_
      case hy141 => (intro w hSw; (try dsimp only at hSw); go_simp; try (with_reducible rfl))
      (try simp only [Act.put, qa_, qb_, qc_])
      refine wpAnyH_take (i := 1) (oi := ⟨some 40, _, _, _, _, _⟩) (v := ?v142) rfl (by kernel_rfl) (by kernel_rfl) (by kernel_rfl) (fun _ _ _ h => h) (Or.inl ⟨by rfl, ?hy142⟩) (by assumption) ?_
      case hy142 => (intro w hSw; (try dsimp only at hSw); go_simp; try (with_reducible rfl))
      (try simp only [Act.put, qa_, qb_, qc_])
      refine wpAnyH_take (i := 2) (oi := ⟨some 41, _, _, _, _, _⟩) (v := ?v143) rfl (by kernel_rfl) (by kernel_rfl) (by kernel_rfl) (fun _ _ _ h => h) (Or.inl ⟨by rfl, ?hy143⟩) (by assumption) ?_
      case hy143 => (intro w hSw; (try dsimp only at hSw); go_simp; try (with_reducible rfl))
      (try simp only [Act.put, qa_, qb_, qc_])
      refine wpAnyH_take (i := 3) (oi := ⟨some 42, _, _, _, _, _⟩) (v := ?v144) rfl (by kernel_rfl) (by kernel_rfl) (by kernel_rfl) (fun _ _ _ h => h) (Or.inl ⟨by rfl, ?hy144⟩) (by assumption) ?_
      case hy144 => (intro w hSw; (try dsimp only at hSw); go_simp; try (with_reducible rfl))
      (try simp only [Act.put, qa_, qb_, qc_])
      refine wpAnyH_take (i := 4) (oi := ⟨some 43, _, _, _, _, _⟩) (v := ?v145) rfl (by kernel_rfl) (by kernel_rfl) (by kernel_rfl) (fun _ _ _ h => h) (Or.inl ⟨by rfl, ?hy145⟩) (by assumption) ?_
      case hy145 => (intro w hSw; (try dsimp only at hSw); go_simp; try (with_reducible rfl))
      (try simp only [Act.put, qa_, qb_, qc_])
      refine wpAnyH_take (i := 5) (oi := ⟨some 44, _, _, _, _, _⟩) (v := ?v146) rfl (by kernel_rfl) (by kernel_rfl) (by kernel_rfl) (fun _ _ _ h => h) (Or.inl ⟨by rfl, ?hy146⟩) (by assumption) ?_
      case hy146 => (intro w hSw; (try dsimp only at hSw); go_simp; try (with_reducible rfl))
      (try simp only [Act.put, qa_, qb_, qc_])
      refine wpAnyH_take (i := 6) (oi := ⟨some 45, _, _, _, _, _⟩) (v := ?v147) rfl (by kernel_rfl) (by kernel_rfl) (by kernel_rfl) (fun _ _ _ h => h) (Or.inl ⟨by rfl, ?hy147⟩) (by assumption) ?_
      case hy147 => (intro w hSw; (try dsimp only at hSw); go_simp; try (with_reducible rfl))
      (try simp only [Act.put, qa_, qb_, qc_])
      refine wpAnyH_take (i := 7) (oi := ⟨some 46, _, _, _, _, _⟩) (v := ?v148) rfl (by kernel_rfl) (by kernel_rfl) (by kernel_rfl) (fun _ _ _ h => h) (Or.inl ⟨by rfl, ?hy148⟩) (by assumption) ?_
      case hy148 => (intro w hSw; (try dsimp only at hSw); go_simp; try (with_reducible rfl))
      (try simp only [Act.put, qa_, qb_, qc_])
      refine wpAnyH_take (i := 8) (oi := ⟨some 47, _, _, _, _, _⟩) (v := ?v149) rfl (by kernel_rfl) (by kernel_rfl) (by kernel_rfl) (fun _ _ _ h => h) (Or.inl ⟨by rfl, ?hy149⟩) (by assumption) ?_
      case hy149 => (intro w hSw; (try dsimp only at hSw); go_simp; try (with_reducible rfl))
      (try simp only [Act.put, qa_, qb_, qc_])
      refine wpAnyH_take (i := 9) (oi := ⟨some 48, _, _, _, _, _⟩) (v := ?v150) rfl (by kernel_rfl) (by kernel_rfl) (by kernel_rfl) (fun _ _ _ h => h) (Or.inl ⟨by rfl, ?hy150⟩) (by assumption) ?_
      case hy150 => (intro w hSw; (try dsimp only at hSw); go_simp; try (with_reducible rfl))
      (try simp only [Act.put, qa_, qb_, qc_])
      refine wpAnyH_take (i := 10) (oi := ⟨some 49, _, _, _, _, _⟩) (v := ?v151) rfl (by kernel_rfl) (by kernel_rfl) (by kernel_rfl) (fun _ _ _ h => h) (Or.inl ⟨by rfl, ?hy151⟩) (by assumption) ?_
      case hy151 => (intro w hSw; (try dsimp only at hSw); go_simp; try (with_reducible rfl))
      (try simp only [Act.put, qa_, qb_, qc_])
      refine wpAnyH_take (i := 11) (oi := ⟨some 50, _, _, _, _, _⟩) (v := ?v152) rfl (by kernel_rfl) (by kernel_rfl) (by kernel_rfl) (fun _ _ _ h => h) (Or.inl ⟨by rfl, ?hy152⟩) (by assumption) ?_
      case hy152 => (intro w hSw; (try dsimp only at hSw); go_simp; try (with_reducible rfl))
      (try simp only [Act.put, qa_, qb_, qc_])
      refine wpAnyH_take (i := 12) (oi := ⟨some 51, _, _, _, _, _⟩) (v := ?v153) rfl (by kernel_rfl) (by kernel_rfl) (by kernel_rfl) (fun _ _ _ h => h) (Or.inl ⟨by rfl, ?hy153⟩) (by assumption) ?_
      case hy153 => (intro w hSw; (try dsimp only at hSw); go_simp; try (with_reducible rfl))
      (try simp only [Act.put, qa_, qb_, qc_])
      refine wpAnyH_take (i := 13) (oi := ⟨some 52, _, _, _, _, _⟩) (v := ?v154) rfl (by kernel_rfl) (by kernel_rfl) (by kernel_rfl) (fun _ _ _ h => h) (Or.inl ⟨by rfl, ?hy154⟩) (by assumption) ?_
      case hy154 => (intro w hSw; (try dsimp only at hSw); go_simp; try (with_reducible rfl))
      (try simp only [Act.put, qa_, qb_, qc_])
      refine wpAnyH_take (i := 14) (oi := ⟨some 53, _, _, _, _, _⟩) (v := ?v155) rfl (by kernel_rfl) (by kernel_rfl) (by kernel_rfl) (fun _ _ _ h => h) (Or.inl ⟨by rfl, ?hy155⟩) (by assumption) ?_
      case hy155 => (intro w hSw; (try dsimp only at hSw); go_simp; try (with_reducible rfl))
      (try simp only [Act.put, qa_, qb_, qc_])
      refine wpAnyH_take (i := 15) (oi := ⟨some 54, _, _, _, _, _⟩) (v := ?v156) rfl (by kernel_rfl) (by kernel_rfl) (by kernel_rfl) (fun _ _ _ h => h) (Or.inl ⟨by rfl, ?hy156⟩) (by assumption) ?_
      case hy156 => (intro w hSw; (try dsimp only at hSw); go_simp; try (with_reducible rfl))
      (try simp only [Act.put, qa_, qb_, qc_])
      refine wpAnyH_take (i := 16) (oi := ⟨some 10, _, _, _, _, _⟩) (v := ?v157) rfl (by kernel_rfl) (by kernel_rfl) (by kernel_rfl) (fun _ _ _ h => h) (Or.inl ⟨by rfl, ?hy157⟩) (by assumption) ?_
      case hy157 => (intro w hSw; (try dsimp only at hSw); go_simp; try (with_reducible rfl))
      (try simp only [Act.put, qa_, qb_, qc_])
      refine wpAnyH_done (by kernel_rfl) ?_ _
      obtain ⟨wd, hwd⟩ : ∃ wd, wr.drew.drew = wd := ⟨_, rfl⟩
      rw [hwd]
      have hBd : Below w.heap.size w wd := hwd ▸ bel_drew (bel_drew hB)
      have D0 : Box wd w.heap.size 33 #[.slice (some ⟨b', off, none⟩) n0 c0, .slice A1 n1 c1] := hwd ▸ Box.drew (Box.drew B0)
      have D1 : Box wd (w.heap.size + 1) 37 #[.int .i64 y0, .int .i64 y1, .int .i64 y2, .slice A7 n7 c7] := hwd ▸ Box.drew (Box.drew B1)
      have D2 : Box wd (w.heap.size + 1 + 1) 33 #[.slice none 0 0, .slice none 0 0] := hwd ▸ Box.drew (Box.drew B2)
      clear hwd
      have d0 := D0.cell 0; have d1 := D0.cell 1; have p0 := D1.cell 0; have p1 := D1.cell 1; have p2 := D1.cell 2; have p3 := D1.cell 3
      have zd := hBd.size
      have zd2 := D2.size
      have D1x : Box (wd.alloc (.cells #[.int .i64 y0, .int .i64 y2, .int .i64 x, .slice none 0 0] 53)) (w.heap.size + 1) 37 #[.int .i64 y0, .int .i64 y1, .int .i64 y2, .slice A7 n7 c7] := D1.alloc _
      have p0x := D1x.cell 0; have p1x := D1x.cell 1; have p2x := D1x.cell 2; have p3x := D1x.cell 3
      clear hB B0 B1 B2 k0 q0 e0
      go_wp2_with fail
      refine (s_l4with (kb := kb) (B0 := w.heap.size) (w := (wd.alloc (.cells #[.int .i64 y0, .int .i64 y2, .int .i64 x, .slice none 0 0] 53))) (by simp; omega) (rx_nil kb _ _ _) (by omega) ((tPcX kb).keep hq (show Below w.heap.size w (wd.alloc (.cells #[.int .i64 y0, .int .i64 y2, .int .i64 x, .slice none 0 0] 53)) from bel_alloc hBd _).block) (fun i hi => absurd hi (by simp))).mono ?_
      rintro e w3 ⟨hb3, hres⟩
      have hB3 : Below w.heap.size w w3 := bel_trans (bel_alloc hBd _) (hb3.mono (by first | (simp; done) | (simp; omega)))
      have F0 := Box.below (D0.alloc (.cells #[.int .i64 y0, .int .i64 y2, .int .i64 x, .slice none 0 0] 53)) hb3 (by simp; omega)
      have F1 := Box.below (D1.alloc (.cells #[.int .i64 y0, .int .i64 y2, .int .i64 x, .slice none 0 0] 53)) hb3 (by simp; omega)
      have F2 := Box.below (D2.alloc (.cells #[.int .i64 y0, .int .i64 y2, .int .i64 x, .slice none 0 0] 53)) hb3 (by simp; omega)
      have FW : Box w3 wd.heap.size 53 #[.int .i64 y0, .int .i64 y2, .int .i64 x, .slice none 0 0] := Box.below (Box.new wd 53 #[.int .i64 y0, .int .i64 y2, .int .i64 x, .slice none 0 0]) hb3 (by simp)
      have fw0 := FW.cell 0; have fw1 := FW.cell 1; have fw2 := FW.cell 2; have fw3 := FW.cell 3; have ff0 := FW.frozen 0; have ff1 := FW.frozen 1; have ff2 := FW.frozen 2; have ff3 := FW.frozen 3
      have zw3 := hB3.size
      have zb3 : wd.heap.size + 1 ≤ w3.heap.size := by have h := hb3.size; simpa using h
      clear D0 D1 D2 D1x d0 d1 p0 p1 p2 p3 p0x p1x p2x p3x
      clear wa0 wa1 wa2
      rcases hres with ⟨A4, m4, c4, -, rfl, hR4⟩ | ⟨hbad, -⟩
      rotate_left
      · exact absurd hbad (by rintro (h | ⟨p, hp, h⟩); exact h rfl; exact absurd hp (by simp))
      have HM4 := Lib.hid (show m4 = ([(y0, y1, y2, qd)]).length by obtain ⟨_, n_, _, e_, h_⟩ := hR4.shapeN; injection e_ with _ e2; rw [e2]; exact h_)
      have G0 := ((((F0.far (p := ⟨wd.heap.size, 0, none⟩) (by show ¬ w.heap.size = wd.heap.size; omega) (.int .i64 y0)).far (p := ⟨wd.heap.size, 1, none⟩) (by show ¬ w.heap.size = wd.heap.size; omega) (.int .i64 y2)).far (p := ⟨wd.heap.size, 2, none⟩) (by show ¬ w.heap.size = wd.heap.size; omega) (.int .i64 x)).far (p := ⟨wd.heap.size, 3, none⟩) (by show ¬ w.heap.size = wd.heap.size; omega) (.slice A4 m4 c4))
      have G1 := ((((F1.far (p := ⟨wd.heap.size, 0, none⟩) (by show ¬ w.heap.size + 1 = wd.heap.size; omega) (.int .i64 y0)).far (p := ⟨wd.heap.size, 1, none⟩) (by show ¬ w.heap.size + 1 = wd.heap.size; omega) (.int .i64 y2)).far (p := ⟨wd.heap.size, 2, none⟩) (by show ¬ w.heap.size + 1 = wd.heap.size; omega) (.int .i64 x)).far (p := ⟨wd.heap.size, 3, none⟩) (by show ¬ w.heap.size + 1 = wd.heap.size; omega) (.slice A4 m4 c4))
      have G2 := ((((F2.far (p := ⟨wd.heap.size, 0, none⟩) (by show ¬ w.heap.size + 1 + 1 = wd.heap.size; omega) (.int .i64 y0)).far (p := ⟨wd.heap.size, 1, none⟩) (by show ¬ w.heap.size + 1 + 1 = wd.heap.size; omega) (.int .i64 y2)).far (p := ⟨wd.heap.size, 2, none⟩) (by show ¬ w.heap.size + 1 + 1 = wd.heap.size; omega) (.int .i64 x)).far (p := ⟨wd.heap.size, 3, none⟩) (by show ¬ w.heap.size + 1 + 1 = wd.heap.size; omega) (.slice A4 m4 c4))
      have GW : Box ((((w3.setCell ⟨wd.heap.size, 0, none⟩ (.int .i64 y0)).setCell ⟨wd.heap.size, 1, none⟩ (.int .i64 y2)).setCell ⟨wd.heap.size, 2, none⟩ (.int .i64 x)).setCell ⟨wd.heap.size, 3, none⟩ (.slice A4 m4 c4)) wd.heap.size 53 #[.int .i64 y0, .int .i64 y2, .int .i64 x, .slice A4 m4 c4] := ((((FW.put 0 (.int .i64 y0)).put 1 (.int .i64 y2)).put 2 (.int .i64 x)).put 3 (.slice A4 m4 c4))
      have GR := GrowR.lower (base' := wd.heap.size + 1) (((((hR4.put (p := ⟨wd.heap.size, 0, none⟩) (by show wd.heap.size < (World.alloc _ _).heap.size; simp) (by show _ ≤ wd.heap.size; omega) (.int .i64 y0)).put (p := ⟨wd.heap.size, 1, none⟩) (by show wd.heap.size < (World.alloc _ _).heap.size; simp) (by show _ ≤ wd.heap.size; omega) (.int .i64 y2)).put (p := ⟨wd.heap.size, 2, none⟩) (by show wd.heap.size < (World.alloc _ _).heap.size; simp) (by show _ ≤ wd.heap.size; omega) (.int .i64 x)).put (p := ⟨wd.heap.size, 3, none⟩) (by show wd.heap.size < (World.alloc _ _).heap.size; simp) (by show _ ≤ wd.heap.size; omega) (.slice A4 m4 c4))) (by simp)
      have GB := (bel_put (bel_put (bel_put (bel_put hB3 (p := ⟨wd.heap.size, 0, none⟩) (by show w.heap.size ≤ wd.heap.size; omega) (.int .i64 y0)) (p := ⟨wd.heap.size, 1, none⟩) (by show w.heap.size ≤ wd.heap.size; omega) (.int .i64 y2)) (p := ⟨wd.heap.size, 2, none⟩) (by show w.heap.size ≤ wd.heap.size; omega) (.int .i64 x)) (p := ⟨wd.heap.size, 3, none⟩) (by show w.heap.size ≤ wd.heap.size; omega) (.slice A4 m4 c4))
      have g0 := G0.cell 0; have g1 := G0.cell 1; have gw0 := GW.cell 0; have gw1 := GW.cell 1; have gw2 := GW.cell 2; have gw3 := GW.cell 3
      clear F0 F1 F2 FW hl2 hl3 h3 hR dg de
      clear hb3 hq h1
      have hc0 : ¬ c0 = j := by have := HC0.out; omega
      go_upto_region 13 with fail
      obtain ⟨wq, hwq⟩ : ∃ wq, ((((w3.setCell ⟨wd.heap.size, 0, none⟩ (.int .i64 y0)).setCell ⟨wd.heap.size, 1, none⟩ (.int .i64 y2)).setCell ⟨wd.heap.size, 2, none⟩ (.int .i64 x)).setCell ⟨wd.heap.size, 3, none⟩ (.slice A4 m4 c4)) = wq := ⟨_, rfl⟩
      rw [hwq] at G0 G1 G2 GW GR GB g0 g1 gw0 gw1 gw2 gw3 ⊢
      clear hwq hB3 fw0 fw1 fw2 fw3 ff0 ff1 ff2 ff3
      have ROW : (tPW kb w [.int .i64 y0, .int .i64 y2, .int .i64 x, .slice A4 m4 c4] (y0, y2, x, [(y0, y1, y2, qd)])).row.R w w.heap.size [.slice (some ⟨b', off, none⟩) n0 c0] p.1 := row_cast (s := tWhX kb) rfl (fun es a h => PW_of h) (rx_row h0)
      have zq := GB.size
      have zq2 := GW.size
      have HGR := Lib.hid GR
      clear GR
      go_cut [13] (fun t13 wc => (∃ Ar mr cr, t13 = .slice Ar mr cr ∧ mr = (p.1.drop j).length ∧ (tPW kb w [.int .i64 y0, .int .i64 y2, .int .i64 x, .slice A4 m4 c4] (y0, y2, x, [(y0, y1, y2, qd)])).row.R w w.heap.size [.slice Ar mr cr] (p.1.drop j)) ∧ wq = wc)
      case first =>
        go_wp2_with fail
        go_meet
        exact ⟨⟨_, _, _, rfl, by rw [List.length_drop, E0.out], (by have h := row_part (k := 4) (i := j) (m := n0 - (j)) (c' := c0 - (j)) ROW (by omega) (by have := HC0.out; omega) (by have := HC1.out; omega) rfl; rwa [List.take_of_length_le (by rw [List.length_drop, E0.out]; exact Nat.le_refl _)] at h)⟩, rfl⟩
      case rest =>
      obtain ⟨⟨Ar, mr, cr, rfl, hmr, hRE⟩, rfl⟩ := hcut
      have HMR := Lib.hid hmr
      clear hmr
      go_wp2_with fail
      have HEAD : (tPW kb w [.int .i64 y0, .int .i64 y2, .int .i64 x, .slice A4 m4 c4] (y0, y2, x, [(y0, y1, y2, qd)])).row.R w w.heap.size [(.slice (some ⟨b', off, none⟩) j c0)] (p.1.take j) := by have h := row_part (k := 4) (i := 0) (m := j) (c' := c0) ROW (by omega) (by have := HC0.out; omega) HC1.out rfl; simpa using h
      have hc00 : ¬ c0 = 0 := by have := HC0.out; omega
      have i0j : (j : Int) ≤ (c0 : Int) := by have := HC0.out; omega
      have tz : (Value.agg #[Value.int .i64 0, Value.int .i64 0, Value.int .i64 0, Value.slice none 0 0]).cells.size = 4 := by first | rfl | (simp [Value.cells]; done)
      have G0_ : Box wq (w.heap.size) 33 #[.slice (some ⟨b', off, none⟩) n0 c0, .slice A1 n1 c1] := G0
      have G1_ : Box wq (w.heap.size + 1) 37 #[.int .i64 y0, .int .i64 y1, .int .i64 y2, .slice A7 n7 c7] := G1
      have G2_ : Box wq (w.heap.size + 1 + 1) 33 #[.slice none 0 0, .slice none 0 0] := G2
      have GW_ : Box wq (wd.heap.size) 53 #[.int .i64 y0, .int .i64 y2, .int .i64 x, .slice A4 m4 c4] := GW
      have G0_E : Box (wq.alloc (.cells #[] 53)) (w.heap.size) 33 #[.slice (some ⟨b', off, none⟩) n0 c0, .slice A1 n1 c1] := (G0.alloc _)
      have G1_E : Box (wq.alloc (.cells #[] 53)) (w.heap.size + 1) 37 #[.int .i64 y0, .int .i64 y1, .int .i64 y2, .slice A7 n7 c7] := (G1.alloc _)
      have G2_E : Box (wq.alloc (.cells #[] 53)) (w.heap.size + 1 + 1) 33 #[.slice none 0 0, .slice none 0 0] := (G2.alloc _)
      have GW_E : Box (wq.alloc (.cells #[] 53)) (wd.heap.size) 53 #[.int .i64 y0, .int .i64 y2, .int .i64 x, .slice A4 m4 c4] := (GW.alloc _)
      have G0_V : Box (wq.alloc (.cells #[.slice none 0 0, .slice none 0 0] 33)) (w.heap.size) 33 #[.slice (some ⟨b', off, none⟩) n0 c0, .slice A1 n1 c1] := (G0.alloc _)
      have G1_V : Box (wq.alloc (.cells #[.slice none 0 0, .slice none 0 0] 33)) (w.heap.size + 1) 37 #[.int .i64 y0, .int .i64 y1, .int .i64 y2, .slice A7 n7 c7] := (G1.alloc _)
      have G2_V : Box (wq.alloc (.cells #[.slice none 0 0, .slice none 0 0] 33)) (w.heap.size + 1 + 1) 33 #[.slice none 0 0, .slice none 0 0] := (G2.alloc _)
      have GW_V : Box (wq.alloc (.cells #[.slice none 0 0, .slice none 0 0] 33)) (wd.heap.size) 53 #[.int .i64 y0, .int .i64 y2, .int .i64 x, .slice A4 m4 c4] := (GW.alloc _)
      have V_V : Box (wq.alloc (.cells #[.slice none 0 0, .slice none 0 0] 33)) (wq.heap.size) 33 #[.slice none 0 0, .slice none 0 0] := (by simpa using Box.new wq 33 #[.slice none 0 0, .slice none 0 0])
      have G0_EV : Box ((wq.alloc (.cells #[] 53)).alloc (.cells #[.slice none 0 0, .slice none 0 0] 33)) (w.heap.size) 33 #[.slice (some ⟨b', off, none⟩) n0 c0, .slice A1 n1 c1] := ((G0.alloc _).alloc _)
      have G1_EV : Box ((wq.alloc (.cells #[] 53)).alloc (.cells #[.slice none 0 0, .slice none 0 0] 33)) (w.heap.size + 1) 37 #[.int .i64 y0, .int .i64 y1, .int .i64 y2, .slice A7 n7 c7] := ((G1.alloc _).alloc _)
      have G2_EV : Box ((wq.alloc (.cells #[] 53)).alloc (.cells #[.slice none 0 0, .slice none 0 0] 33)) (w.heap.size + 1 + 1) 33 #[.slice none 0 0, .slice none 0 0] := ((G2.alloc _).alloc _)
      have GW_EV : Box ((wq.alloc (.cells #[] 53)).alloc (.cells #[.slice none 0 0, .slice none 0 0] 33)) (wd.heap.size) 53 #[.int .i64 y0, .int .i64 y2, .int .i64 x, .slice A4 m4 c4] := ((GW.alloc _).alloc _)
      have V_EV : Box ((wq.alloc (.cells #[] 53)).alloc (.cells #[.slice none 0 0, .slice none 0 0] 33)) (wq.heap.size + 1) 33 #[.slice none 0 0, .slice none 0 0] := (by simpa using Box.new (wq.alloc (.cells #[] 53)) 33 #[.slice none 0 0, .slice none 0 0])
      have G0_VE : Box ((wq.alloc (.cells #[.slice none 0 0, .slice none 0 0] 33)).alloc (.cells #[] 53)) (w.heap.size) 33 #[.slice (some ⟨b', off, none⟩) n0 c0, .slice A1 n1 c1] := ((G0.alloc _).alloc _)
      have G1_VE : Box ((wq.alloc (.cells #[.slice none 0 0, .slice none 0 0] 33)).alloc (.cells #[] 53)) (w.heap.size + 1) 37 #[.int .i64 y0, .int .i64 y1, .int .i64 y2, .slice A7 n7 c7] := ((G1.alloc _).alloc _)
      have G2_VE : Box ((wq.alloc (.cells #[.slice none 0 0, .slice none 0 0] 33)).alloc (.cells #[] 53)) (w.heap.size + 1 + 1) 33 #[.slice none 0 0, .slice none 0 0] := ((G2.alloc _).alloc _)
      have GW_VE : Box ((wq.alloc (.cells #[.slice none 0 0, .slice none 0 0] 33)).alloc (.cells #[] 53)) (wd.heap.size) 53 #[.int .i64 y0, .int .i64 y2, .int .i64 x, .slice A4 m4 c4] := ((GW.alloc _).alloc _)
      have V_VE : Box ((wq.alloc (.cells #[.slice none 0 0, .slice none 0 0] 33)).alloc (.cells #[] 53)) (wq.heap.size) 33 #[.slice none 0 0, .slice none 0 0] := (Box.alloc (show Box (wq.alloc (.cells #[.slice none 0 0, .slice none 0 0] 33)) (wq.heap.size) 33 #[.slice none 0 0, .slice none 0 0] from (by simpa using Box.new wq 33 #[.slice none 0 0, .slice none 0 0])) _)
      go_cut [14] (fun t14 wc => ∃ (ob : Nat) (A9 : Option Addr) (n9 c9 : Nat), t14 = .pointer (some ⟨ob, 0, none⟩) ∧ Box wc (w.heap.size) 33 #[.slice (some ⟨b', off, none⟩) n0 c0, .slice A1 n1 c1] ∧ Box wc (w.heap.size + 1) 37 #[.int .i64 y0, .int .i64 y1, .int .i64 y2, .slice A7 n7 c7] ∧ Box wc (w.heap.size + 1 + 1) 33 #[.slice none 0 0, .slice none 0 0] ∧ Box wc (wd.heap.size) 53 #[.int .i64 y0, .int .i64 y2, .int .i64 x, .slice A4 m4 c4] ∧ Box wc ob 33 #[.slice A9 n9 c9, .slice A1 n1 c1] ∧ GrowR (tPW kb w [.int .i64 y0, .int .i64 y2, .int .i64 x, .slice A4 m4 c4] (y0, y2, x, [(y0, y1, y2, qd)])) 53 wc wq.heap.size w.heap.size (.slice A9 n9 c9) (p.1.take j) ∧ (∀ b, (Value.slice A9 n9 c9).ownBlock = some b → b ≠ ob) ∧ wq.heap.size ≤ ob ∧ Below wq.heap.size wq wc)
      case first =>
        refine wp_region_held_drew (S := (fun w' => w'.cell? ⟨w.heap.size, 0, none⟩ = some (.slice (some ⟨b', off, none⟩) n0 c0) ∧ w'.cell? ⟨w.heap.size, 1, none⟩ = some (.slice A1 n1 c1))) (by kernel_rfl) (by exact ⟨G0_.cell 0, G0_.cell 1⟩) (fun hHeld => ?_)
        refine wpAnyH_take (i := 0) (oi := ⟨some 86, _, _, _, _, _⟩) (v := ?v128) rfl (by kernel_rfl) (by kernel_rfl) (by kernel_rfl) (fun _ _ _ h => h) (Or.inl ⟨by rfl, ?hy128⟩) (by assumption) ?_
        case hy128 => (intro w hSw; (try dsimp only at hSw); go_simp; try (with_reducible rfl))
        (try simp only [Act.put, qa_, qb_, qc_])
        refine wpAnyH_take (i := 1) (oi := ⟨some 87, _, _, _, _, _⟩) (v := ?v129) rfl (by kernel_rfl) (by kernel_rfl) (by kernel_rfl) (fun _ _ _ h => h) (Or.inl ⟨by rfl, ?hy129⟩) (by assumption) ?_
        case hy129 => (intro w hSw; (try dsimp only at hSw); go_simp; try (with_reducible rfl))
        (try simp only [Act.put, qa_, qb_, qc_])
        refine wpAnyH_take (i := 3) (oi := ⟨some 89, _, _, _, _, _⟩) (v := ?v130) rfl (by kernel_rfl) (by kernel_rfl) (by kernel_rfl) (fun _ _ _ h => h) (Or.inl ⟨by rfl, ?hy130⟩) (by assumption) ?_
        case hy130 => (intro w hSw; (try dsimp only at hSw); go_simp; try (with_reducible rfl))
        (try simp only [Act.put, qa_, qb_, qc_])
        refine wpAnyH_take (i := 4) (oi := ⟨some 90, _, _, _, _, _⟩) (v := ?v131) rfl (by kernel_rfl) (by kernel_rfl) (by kernel_rfl) (fun _ _ _ h => h) (Or.inl ⟨by rfl, ?hy131⟩) (by assumption) ?_
        case hy131 => (intro w hSw; (try dsimp only at hSw); go_simp; try (with_reducible rfl))
        (try simp only [Act.put, qa_, qb_, qc_])
        refine wpAnyH_take (i := 5) (oi := ⟨some 91, _, _, _, _, _⟩) (v := ?v132) rfl (by kernel_rfl) (by kernel_rfl) (by kernel_rfl) (fun _ _ _ h => h) (Or.inl ⟨by rfl, ?hy132⟩) (by assumption) ?_
        case hy132 => (intro w hSw; (try dsimp only at hSw); go_simp; try (with_reducible rfl))
        (try simp only [Act.put, qa_, qb_, qc_])
        refine wpAnyH_take (i := 6) (oi := ⟨some 92, _, _, _, _, _⟩) (v := ?v133) rfl (by kernel_rfl) (by kernel_rfl) (by kernel_rfl) (fun _ _ _ h => h) (Or.inl ⟨by rfl, ?hy133⟩) (by assumption) ?_
        case hy133 => (intro w hSw; (try dsimp only at hSw); go_simp; try (with_reducible rfl))
        (try simp only [Act.put, qa_, qb_, qc_])
        refine wpAnyH_ready (rs := [2, 9]) (by kernel_rfl) (by simp) ?_
        refine AllReadyH.cons rfl (fun K hK => ?_) ?_
        · go_simp
          refine hK.out _ _ (by exact ⟨G0_E.cell 0, G0_E.cell 1⟩) (fun hHeld => ?_)
          clear hK K
          (try simp only [Act.put, qa_, qb_, qc_])
          refine wpAnyH_ready (rs := [7, 9]) (by kernel_rfl) (by simp) ?_
          refine AllReadyH.cons rfl (fun K hK => ?_) ?_
          · have hE : GrowR (tPW kb w [.int .i64 y0, .int .i64 y2, .int .i64 x, .slice A4 m4 c4] (y0, y2, x, [(y0, y1, y2, qd)])) 53 ((wq.alloc (.cells #[] 53)).drew) wq.heap.size w.heap.size (.slice (some ⟨wq.heap.size, 0, none⟩) 0 0) [] := GrowR.drew (by simpa using (GrowR.empty (t := (tPW kb w [.int .i64 y0, .int .i64 y2, .int .i64 x, .slice A4 m4 c4] (y0, y2, x, [(y0, y1, y2, qd)]))) (e := 53) (w := wq) (base := wq.heap.size) (B := w.heap.size) (by first | (simp; done) | (simp; omega)))) (by first | (simp; omega) | omega)
            have hHD : (tPW kb w [.int .i64 y0, .int .i64 y2, .int .i64 x, .slice A4 m4 c4] (y0, y2, x, [(y0, y1, y2, qd)])).row.R ((wq.alloc (.cells #[] 53)).drew) w.heap.size [(.slice (some ⟨b', off, none⟩) j c0)] (p.1.take j) := (tPW kb w [.int .i64 y0, .int .i64 y2, .int .i64 x, .slice A4 m4 c4] (y0, y2, x, [(y0, y1, y2, qd)])).row.keep HEAD (fun b hb => (show Below w.heap.size w ((wq.alloc (.cells #[] 53)).drew) from bel_trans GB (belx)).block b hb)
            refine GrowR.stepRow (by rfl) (.tmp 88) (.tmp 92) _ (by rfl) i1 _ 4 48 Tryz.underlying31 hj0 hj1 hj2 hj3 tz (by omega) rfl (by rfl) hE (by rfl) hHD one_PW (by omega) (by first | (simp; done) | (simp; omega)) (by simp only [maxLen, List.length_nil]; omega) (by simp only [List.length_nil]; omega) ?_
            intro v3 wn hG3 hgr3
            obtain ⟨A9, n9, c9, rfl, hn9⟩ := hG3.shapeN
            have HN9 := Lib.hid hn9
            clear hn9
            have zn : wq.heap.size + 1 ≤ wn.heap.size := by have h := hgr3.size; simpa using h
            have hCn : Below wq.heap.size wq wn := Below.grown (w := (wq.alloc (.cells #[] 53)).drew) (belx) hgr3 (by first | (simp; done) | (simp; omega)) (fun b hb => by have e := Option.some.inj (show some (wq.heap.size) = some b from hb); omega)
            have H0 : Box wn (w.heap.size) 33 #[.slice (some ⟨b', off, none⟩) n0 c0, .slice A1 n1 c1] := Box.grown (w := (wq.alloc (.cells #[] 53)).drew) (Box.drew G0_E) hgr3 (fun e => by have e := Option.some.inj (show some (w.heap.size) = some (wq.heap.size) from e); omega)
            have H1 : Box wn (w.heap.size + 1) 37 #[.int .i64 y0, .int .i64 y1, .int .i64 y2, .slice A7 n7 c7] := Box.grown (w := (wq.alloc (.cells #[] 53)).drew) (Box.drew G1_E) hgr3 (fun e => by have e := Option.some.inj (show some (w.heap.size + 1) = some (wq.heap.size) from e); omega)
            have H2 : Box wn (w.heap.size + 1 + 1) 33 #[.slice none 0 0, .slice none 0 0] := Box.grown (w := (wq.alloc (.cells #[] 53)).drew) (Box.drew G2_E) hgr3 (fun e => by have e := Option.some.inj (show some (w.heap.size + 1 + 1) = some (wq.heap.size) from e); omega)
            have HW : Box wn (wd.heap.size) 53 #[.int .i64 y0, .int .i64 y2, .int .i64 x, .slice A4 m4 c4] := Box.grown (w := (wq.alloc (.cells #[] 53)).drew) (Box.drew GW_E) hgr3 (fun e => by have e := Option.some.inj (show some (wd.heap.size) = some (wq.heap.size) from e); omega)
            have hOwn := hG3.own
            refine hK.out _ _ (by exact ⟨H0.cell 0, H0.cell 1⟩) (fun hHeld => ?_)
            clear hK K
            (try simp only [Act.put, qa_, qb_, qc_])
            refine wpAnyH_take (i := 8) (oi := ⟨some 94, _, _, _, _, _⟩) (v := ?v134) rfl (by kernel_rfl) (by kernel_rfl) (by kernel_rfl) (fun _ _ _ h => h) (Or.inl ⟨by rfl, ?hy134⟩) (by assumption) ?_
            case hy134 => (intro w hSw; (try dsimp only at hSw); go_simp; try (with_reducible rfl))
            (try simp only [Act.put, qa_, qb_, qc_])
            refine wpAnyH_ready (rs := [9]) (by kernel_rfl) (by simp) ?_
            refine AllReadyH.cons rfl (fun K hK => ?_) ?_
            · go_simp
              refine hK.out _ _ (by exact ⟨(H0.alloc _).cell 0, (H0.alloc _).cell 1⟩) (fun hHeld => ?_)
              clear hK K
              (try simp only [Act.put, qa_, qb_, qc_])
              refine wpAnyH_ready (rs := [10]) (by kernel_rfl) (by simp) ?_
              refine AllReadyH.cons rfl (fun K hK => ?_) ?_
              · go_simp
                refine hK.out _ _ (by exact ⟨(H0.alloc _).cell 0, (H0.alloc _).cell 1⟩) (fun hHeld => ?_)
                clear hK K
                (try simp only [Act.put, qa_, qb_, qc_])
                refine wpAnyH_done (by kernel_rfl) ?_ _
                go_wp2_with fail
                go_meet
                exact ⟨wn.heap.size, A9, n9, c9, rfl, H0.alloc _, H1.alloc _, H2.alloc _, HW.alloc _, Box.new wn 33 _, hG3.below (belx) (by omega), fun b hb e => by have h1 := hOwn b hb; omega, by omega, bel_trans hCn (belx)⟩
              exact AllReadyH.nil
            exact AllReadyH.nil
          refine AllReadyH.cons rfl (fun K hK => ?_) ?_
          · go_simp
            refine hK.out _ _ (by exact ⟨G0_EV.cell 0, G0_EV.cell 1⟩) (fun hHeld => ?_)
            clear hK K
            (try simp only [Act.put, qa_, qb_, qc_])
            refine wpAnyH_ready (rs := [7]) (by kernel_rfl) (by simp) ?_
            refine AllReadyH.cons rfl (fun K hK => ?_) ?_
            · have hE : GrowR (tPW kb w [.int .i64 y0, .int .i64 y2, .int .i64 x, .slice A4 m4 c4] (y0, y2, x, [(y0, y1, y2, qd)])) 53 (((wq.alloc (.cells #[] 53)).alloc (.cells #[.slice none 0 0, .slice none 0 0] 33)).drew) wq.heap.size w.heap.size (.slice (some ⟨wq.heap.size, 0, none⟩) 0 0) [] := GrowR.drew (GrowR.below (by simpa using (GrowR.empty (t := (tPW kb w [.int .i64 y0, .int .i64 y2, .int .i64 x, .slice A4 m4 c4] (y0, y2, x, [(y0, y1, y2, qd)]))) (e := 53) (w := wq) (base := wq.heap.size) (B := w.heap.size) (by first | (simp; done) | (simp; omega)))) (belx) (by simp; omega)) (by first | (simp; omega) | omega)
              have hHD : (tPW kb w [.int .i64 y0, .int .i64 y2, .int .i64 x, .slice A4 m4 c4] (y0, y2, x, [(y0, y1, y2, qd)])).row.R (((wq.alloc (.cells #[] 53)).alloc (.cells #[.slice none 0 0, .slice none 0 0] 33)).drew) w.heap.size [(.slice (some ⟨b', off, none⟩) j c0)] (p.1.take j) := (tPW kb w [.int .i64 y0, .int .i64 y2, .int .i64 x, .slice A4 m4 c4] (y0, y2, x, [(y0, y1, y2, qd)])).row.keep HEAD (fun b hb => (show Below w.heap.size w (((wq.alloc (.cells #[] 53)).alloc (.cells #[.slice none 0 0, .slice none 0 0] 33)).drew) from bel_trans GB (belx)).block b hb)
              refine GrowR.stepRow (by rfl) (.tmp 88) (.tmp 92) _ (by rfl) i1 _ 4 48 Tryz.underlying31 hj0 hj1 hj2 hj3 tz (by omega) rfl (by rfl) hE (by rfl) hHD one_PW (by omega) (by first | (simp; done) | (simp; omega)) (by simp only [maxLen, List.length_nil]; omega) (by simp only [List.length_nil]; omega) ?_
              intro v3 wn hG3 hgr3
              obtain ⟨A9, n9, c9, rfl, hn9⟩ := hG3.shapeN
              have HN9 := Lib.hid hn9
              clear hn9
              have zn : wq.heap.size + 2 ≤ wn.heap.size := by have h := hgr3.size; simpa using h
              have hCn : Below wq.heap.size wq wn := Below.grown (w := ((wq.alloc (.cells #[] 53)).alloc (.cells #[.slice none 0 0, .slice none 0 0] 33)).drew) (belx) hgr3 (by first | (simp; done) | (simp; omega)) (fun b hb => by have e := Option.some.inj (show some (wq.heap.size) = some b from hb); omega)
              have H0 : Box wn (w.heap.size) 33 #[.slice (some ⟨b', off, none⟩) n0 c0, .slice A1 n1 c1] := Box.grown (w := ((wq.alloc (.cells #[] 53)).alloc (.cells #[.slice none 0 0, .slice none 0 0] 33)).drew) (Box.drew G0_EV) hgr3 (fun e => by have e := Option.some.inj (show some (w.heap.size) = some (wq.heap.size) from e); omega)
              have H1 : Box wn (w.heap.size + 1) 37 #[.int .i64 y0, .int .i64 y1, .int .i64 y2, .slice A7 n7 c7] := Box.grown (w := ((wq.alloc (.cells #[] 53)).alloc (.cells #[.slice none 0 0, .slice none 0 0] 33)).drew) (Box.drew G1_EV) hgr3 (fun e => by have e := Option.some.inj (show some (w.heap.size + 1) = some (wq.heap.size) from e); omega)
              have H2 : Box wn (w.heap.size + 1 + 1) 33 #[.slice none 0 0, .slice none 0 0] := Box.grown (w := ((wq.alloc (.cells #[] 53)).alloc (.cells #[.slice none 0 0, .slice none 0 0] 33)).drew) (Box.drew G2_EV) hgr3 (fun e => by have e := Option.some.inj (show some (w.heap.size + 1 + 1) = some (wq.heap.size) from e); omega)
              have HW : Box wn (wd.heap.size) 53 #[.int .i64 y0, .int .i64 y2, .int .i64 x, .slice A4 m4 c4] := Box.grown (w := ((wq.alloc (.cells #[] 53)).alloc (.cells #[.slice none 0 0, .slice none 0 0] 33)).drew) (Box.drew GW_EV) hgr3 (fun e => by have e := Option.some.inj (show some (wd.heap.size) = some (wq.heap.size) from e); omega)
              have hOwn := hG3.own
              have HV : Box wn (wq.heap.size + 1) 33 #[.slice none 0 0, .slice none 0 0] := Box.grown (w := ((wq.alloc (.cells #[] 53)).alloc (.cells #[.slice none 0 0, .slice none 0 0] 33)).drew) (Box.drew V_EV) hgr3 (fun e => by have e := Option.some.inj (show some (wq.heap.size + 1) = some (wq.heap.size) from e); omega)
              have v0 := HV.cell 0; have v1 := HV.cell 1; have vf0 := HV.frozen 0; have vf1 := HV.frozen 1
              have H9 := ((H0.far (p := ⟨wq.heap.size + 1, 0, none⟩) (by show ¬ w.heap.size = wq.heap.size + 1; omega) (.slice A9 n9 c9)).far (p := ⟨wq.heap.size + 1, 1, none⟩) (by show ¬ w.heap.size = wq.heap.size + 1; omega) (.slice A1 n1 c1))
              have hnv : ∀ b, (Value.slice A9 n9 c9).ownBlock = some b → b ≠ wq.heap.size + 1 := own_not_box HV hG3 (by rfl)
              refine hK.out _ _ (by exact ⟨H0.cell 0, H0.cell 1⟩) (fun hHeld => ?_)
              clear hK K
              (try simp only [Act.put, qa_, qb_, qc_])
              refine wpAnyH_take (i := 8) (oi := ⟨some 94, _, _, _, _, _⟩) (v := ?v135) rfl (by kernel_rfl) (by kernel_rfl) (by kernel_rfl) (fun _ _ _ h => h) (Or.inl ⟨by rfl, ?hy135⟩) (by assumption) ?_
              case hy135 => (intro w hSw; (try dsimp only at hSw); go_simp; try (with_reducible rfl))
              (try simp only [Act.put, qa_, qb_, qc_])
              refine wpAnyH_ready (rs := [10]) (by kernel_rfl) (by simp) ?_
              refine AllReadyH.cons rfl (fun K hK => ?_) ?_
              · go_simp
                refine hK.out _ _ (by exact ⟨H9.cell 0, H9.cell 1⟩) (fun hHeld => ?_)
                clear hK K
                (try simp only [Act.put, qa_, qb_, qc_])
                refine wpAnyH_done (by kernel_rfl) ?_ _
                go_wp2_with fail
                go_meet
                exact ⟨wq.heap.size + 1, A9, n9, c9, rfl, ((H0.far (p := ⟨wq.heap.size + 1, 0, none⟩) (by show ¬ w.heap.size = wq.heap.size + 1; omega) (.slice A9 n9 c9)).far (p := ⟨wq.heap.size + 1, 1, none⟩) (by show ¬ w.heap.size = wq.heap.size + 1; omega) (.slice A1 n1 c1)), ((H1.far (p := ⟨wq.heap.size + 1, 0, none⟩) (by show ¬ w.heap.size + 1 = wq.heap.size + 1; omega) (.slice A9 n9 c9)).far (p := ⟨wq.heap.size + 1, 1, none⟩) (by show ¬ w.heap.size + 1 = wq.heap.size + 1; omega) (.slice A1 n1 c1)), ((H2.far (p := ⟨wq.heap.size + 1, 0, none⟩) (by show ¬ w.heap.size + 1 + 1 = wq.heap.size + 1; omega) (.slice A9 n9 c9)).far (p := ⟨wq.heap.size + 1, 1, none⟩) (by show ¬ w.heap.size + 1 + 1 = wq.heap.size + 1; omega) (.slice A1 n1 c1)), ((HW.far (p := ⟨wq.heap.size + 1, 0, none⟩) (by show ¬ wd.heap.size = wq.heap.size + 1; omega) (.slice A9 n9 c9)).far (p := ⟨wq.heap.size + 1, 1, none⟩) (by show ¬ wd.heap.size = wq.heap.size + 1; omega) (.slice A1 n1 c1)), ((HV.put 0 (.slice A9 n9 c9)).put 1 (.slice A1 n1 c1)), ((hG3.putN (p := ⟨wq.heap.size + 1, 0, none⟩) hnv (by show _ ≤ wq.heap.size + 1; omega) (.slice A9 n9 c9)).putN (p := ⟨wq.heap.size + 1, 1, none⟩) hnv (by show _ ≤ wq.heap.size + 1; omega) (.slice A1 n1 c1)), hnv, by omega, (bel_put (bel_put hCn (p := ⟨wq.heap.size + 1, 0, none⟩) (by show wq.heap.size ≤ wq.heap.size + 1; omega) (.slice A9 n9 c9)) (p := ⟨wq.heap.size + 1, 1, none⟩) (by show wq.heap.size ≤ wq.heap.size + 1; omega) (.slice A1 n1 c1))⟩
              exact AllReadyH.nil
            exact AllReadyH.nil
          exact AllReadyH.nil
        refine AllReadyH.cons rfl (fun K hK => ?_) ?_
        · go_simp
          refine hK.out _ _ (by exact ⟨G0_V.cell 0, G0_V.cell 1⟩) (fun hHeld => ?_)
          clear hK K
          (try simp only [Act.put, qa_, qb_, qc_])
          refine wpAnyH_ready (rs := [2]) (by kernel_rfl) (by simp) ?_
          refine AllReadyH.cons rfl (fun K hK => ?_) ?_
          · go_simp
            refine hK.out _ _ (by exact ⟨G0_VE.cell 0, G0_VE.cell 1⟩) (fun hHeld => ?_)
            clear hK K
            (try simp only [Act.put, qa_, qb_, qc_])
            refine wpAnyH_ready (rs := [7]) (by kernel_rfl) (by simp) ?_
            refine AllReadyH.cons rfl (fun K hK => ?_) ?_
            · have hE : GrowR (tPW kb w [.int .i64 y0, .int .i64 y2, .int .i64 x, .slice A4 m4 c4] (y0, y2, x, [(y0, y1, y2, qd)])) 53 (((wq.alloc (.cells #[.slice none 0 0, .slice none 0 0] 33)).alloc (.cells #[] 53)).drew) wq.heap.size w.heap.size (.slice (some ⟨wq.heap.size + 1, 0, none⟩) 0 0) [] := GrowR.drew (by simpa using (GrowR.empty (t := (tPW kb w [.int .i64 y0, .int .i64 y2, .int .i64 x, .slice A4 m4 c4] (y0, y2, x, [(y0, y1, y2, qd)]))) (e := 53) (w := (wq.alloc (.cells #[.slice none 0 0, .slice none 0 0] 33))) (base := wq.heap.size) (B := w.heap.size) (by first | (simp; done) | (simp; omega)))) (by first | (simp; omega) | omega)
              have hHD : (tPW kb w [.int .i64 y0, .int .i64 y2, .int .i64 x, .slice A4 m4 c4] (y0, y2, x, [(y0, y1, y2, qd)])).row.R (((wq.alloc (.cells #[.slice none 0 0, .slice none 0 0] 33)).alloc (.cells #[] 53)).drew) w.heap.size [(.slice (some ⟨b', off, none⟩) j c0)] (p.1.take j) := (tPW kb w [.int .i64 y0, .int .i64 y2, .int .i64 x, .slice A4 m4 c4] (y0, y2, x, [(y0, y1, y2, qd)])).row.keep HEAD (fun b hb => (show Below w.heap.size w (((wq.alloc (.cells #[.slice none 0 0, .slice none 0 0] 33)).alloc (.cells #[] 53)).drew) from bel_trans GB (belx)).block b hb)
              refine GrowR.stepRow (by rfl) (.tmp 88) (.tmp 92) _ (by rfl) i1 _ 4 48 Tryz.underlying31 hj0 hj1 hj2 hj3 tz (by omega) rfl (by rfl) hE (by rfl) hHD one_PW (by omega) (by first | (simp; done) | (simp; omega)) (by simp only [maxLen, List.length_nil]; omega) (by simp only [List.length_nil]; omega) ?_
              intro v3 wn hG3 hgr3
              obtain ⟨A9, n9, c9, rfl, hn9⟩ := hG3.shapeN
              have HN9 := Lib.hid hn9
              clear hn9
              have zn : wq.heap.size + 2 ≤ wn.heap.size := by have h := hgr3.size; simpa using h
              have hCn : Below wq.heap.size wq wn := Below.grown (w := ((wq.alloc (.cells #[.slice none 0 0, .slice none 0 0] 33)).alloc (.cells #[] 53)).drew) (belx) hgr3 (by first | (simp; done) | (simp; omega)) (fun b hb => by have e := Option.some.inj (show some (wq.heap.size + 1) = some b from hb); omega)
              have H0 : Box wn (w.heap.size) 33 #[.slice (some ⟨b', off, none⟩) n0 c0, .slice A1 n1 c1] := Box.grown (w := ((wq.alloc (.cells #[.slice none 0 0, .slice none 0 0] 33)).alloc (.cells #[] 53)).drew) (Box.drew G0_VE) hgr3 (fun e => by have e := Option.some.inj (show some (w.heap.size) = some (wq.heap.size + 1) from e); omega)
              have H1 : Box wn (w.heap.size + 1) 37 #[.int .i64 y0, .int .i64 y1, .int .i64 y2, .slice A7 n7 c7] := Box.grown (w := ((wq.alloc (.cells #[.slice none 0 0, .slice none 0 0] 33)).alloc (.cells #[] 53)).drew) (Box.drew G1_VE) hgr3 (fun e => by have e := Option.some.inj (show some (w.heap.size + 1) = some (wq.heap.size + 1) from e); omega)
              have H2 : Box wn (w.heap.size + 1 + 1) 33 #[.slice none 0 0, .slice none 0 0] := Box.grown (w := ((wq.alloc (.cells #[.slice none 0 0, .slice none 0 0] 33)).alloc (.cells #[] 53)).drew) (Box.drew G2_VE) hgr3 (fun e => by have e := Option.some.inj (show some (w.heap.size + 1 + 1) = some (wq.heap.size + 1) from e); omega)
              have HW : Box wn (wd.heap.size) 53 #[.int .i64 y0, .int .i64 y2, .int .i64 x, .slice A4 m4 c4] := Box.grown (w := ((wq.alloc (.cells #[.slice none 0 0, .slice none 0 0] 33)).alloc (.cells #[] 53)).drew) (Box.drew GW_VE) hgr3 (fun e => by have e := Option.some.inj (show some (wd.heap.size) = some (wq.heap.size + 1) from e); omega)
              have hOwn := hG3.own
              have HV : Box wn (wq.heap.size) 33 #[.slice none 0 0, .slice none 0 0] := Box.grown (w := ((wq.alloc (.cells #[.slice none 0 0, .slice none 0 0] 33)).alloc (.cells #[] 53)).drew) (Box.drew V_VE) hgr3 (fun e => by have e := Option.some.inj (show some (wq.heap.size) = some (wq.heap.size + 1) from e); omega)
              have v0 := HV.cell 0; have v1 := HV.cell 1; have vf0 := HV.frozen 0; have vf1 := HV.frozen 1
              have H9 := ((H0.far (p := ⟨wq.heap.size, 0, none⟩) (by show ¬ w.heap.size = wq.heap.size; omega) (.slice A9 n9 c9)).far (p := ⟨wq.heap.size, 1, none⟩) (by show ¬ w.heap.size = wq.heap.size; omega) (.slice A1 n1 c1))
              have hnv : ∀ b, (Value.slice A9 n9 c9).ownBlock = some b → b ≠ wq.heap.size := own_not_box HV hG3 (by rfl)
              refine hK.out _ _ (by exact ⟨H0.cell 0, H0.cell 1⟩) (fun hHeld => ?_)
              clear hK K
              (try simp only [Act.put, qa_, qb_, qc_])
              refine wpAnyH_take (i := 8) (oi := ⟨some 94, _, _, _, _, _⟩) (v := ?v136) rfl (by kernel_rfl) (by kernel_rfl) (by kernel_rfl) (fun _ _ _ h => h) (Or.inl ⟨by rfl, ?hy136⟩) (by assumption) ?_
              case hy136 => (intro w hSw; (try dsimp only at hSw); go_simp; try (with_reducible rfl))
              (try simp only [Act.put, qa_, qb_, qc_])
              refine wpAnyH_ready (rs := [10]) (by kernel_rfl) (by simp) ?_
              refine AllReadyH.cons rfl (fun K hK => ?_) ?_
              · go_simp
                refine hK.out _ _ (by exact ⟨H9.cell 0, H9.cell 1⟩) (fun hHeld => ?_)
                clear hK K
                (try simp only [Act.put, qa_, qb_, qc_])
                refine wpAnyH_done (by kernel_rfl) ?_ _
                go_wp2_with fail
                go_meet
                exact ⟨wq.heap.size, A9, n9, c9, rfl, ((H0.far (p := ⟨wq.heap.size, 0, none⟩) (by show ¬ w.heap.size = wq.heap.size; omega) (.slice A9 n9 c9)).far (p := ⟨wq.heap.size, 1, none⟩) (by show ¬ w.heap.size = wq.heap.size; omega) (.slice A1 n1 c1)), ((H1.far (p := ⟨wq.heap.size, 0, none⟩) (by show ¬ w.heap.size + 1 = wq.heap.size; omega) (.slice A9 n9 c9)).far (p := ⟨wq.heap.size, 1, none⟩) (by show ¬ w.heap.size + 1 = wq.heap.size; omega) (.slice A1 n1 c1)), ((H2.far (p := ⟨wq.heap.size, 0, none⟩) (by show ¬ w.heap.size + 1 + 1 = wq.heap.size; omega) (.slice A9 n9 c9)).far (p := ⟨wq.heap.size, 1, none⟩) (by show ¬ w.heap.size + 1 + 1 = wq.heap.size; omega) (.slice A1 n1 c1)), ((HW.far (p := ⟨wq.heap.size, 0, none⟩) (by show ¬ wd.heap.size = wq.heap.size; omega) (.slice A9 n9 c9)).far (p := ⟨wq.heap.size, 1, none⟩) (by show ¬ wd.heap.size = wq.heap.size; omega) (.slice A1 n1 c1)), ((HV.put 0 (.slice A9 n9 c9)).put 1 (.slice A1 n1 c1)), ((hG3.putN (p := ⟨wq.heap.size, 0, none⟩) hnv (by show _ ≤ wq.heap.size; omega) (.slice A9 n9 c9)).putN (p := ⟨wq.heap.size, 1, none⟩) hnv (by show _ ≤ wq.heap.size; omega) (.slice A1 n1 c1)), hnv, by omega, (bel_put (bel_put hCn (p := ⟨wq.heap.size, 0, none⟩) (by show wq.heap.size ≤ wq.heap.size; omega) (.slice A9 n9 c9)) (p := ⟨wq.heap.size, 1, none⟩) (by show wq.heap.size ≤ wq.heap.size; omega) (.slice A1 n1 c1))⟩
              exact AllReadyH.nil
            exact AllReadyH.nil
          exact AllReadyH.nil
        exact AllReadyH.nil
      case rest =>
      obtain ⟨ob, A9, n9, c9, rfl, H0, H1, H2, HW, HO, hG9, hno, zob, hCn⟩ := hcut
      clear G0_E G1_E G2_E GW_E G0_V G1_V G2_V GW_V G0_EV G1_EV G2_EV GW_EV G0_VE G1_VE G2_VE GW_VE G0_ G1_ G2_ GW_ V_V V_EV V_VE HEAD g0 g1 gw0 gw1 gw2 gw3
      by_cases hdn : ((insB pAt (y0, y1, y2, qd) ([] : List DPiece)).length : Int) = y2
      · have HDN := Lib.hid hdn
        have HR := Lib.hid (HRD.out hdn)
        clear hdn
        have hbe : ((m4 : Int) == y2) = true := by rw [HM4.out, beq_iff_eq]; exact HDN.out
        have hBc : Below w.heap.size w wc := bel_trans GB hCn
        have zc := hCn.size
        have HM8 := Lib.hid (show m4 ≤ 8 by rw [HM4.out]; simp)
        obtain ⟨n9_, hn9⟩ : ∃ m, (p.1.take j).length = m := ⟨_, rfl⟩
        have HN9 : RowKit.Hid (n9 = (p.1.take j).length) := Lib.hid (by obtain ⟨_, n_, _, e_, h_⟩ := hG9.shapeN; injection e_ with _ e2; rw [e2]; exact h_)
        clear hn9
        have hl9 : n9 ≤ 6 := by rw [HN9.out, List.length_take]; omega
        have hlr : mr ≤ 6 := by rw [HMR.out]; rw [List.length_drop, E0.out]; omega
        have x0 := H0.cell 0; have x1 := H0.cell 1; have hw0 := HW.cell 0; have hw1 := HW.cell 1; have hw2 := HW.cell 2; have hw3 := HW.cell 3; have o0 := HO.cell 0; have o1 := HO.cell 1; have of0 := HO.frozen 0; have of1 := HO.frozen 1; have r0 := H2.cell 0; have r1 := H2.cell 1; have rf0 := H2.frozen 0; have rf1 := H2.frozen 1; have y0c := H1.cell 0
        have zo2 := HO.size
        have hREc : (tPW kb w [.int .i64 y0, .int .i64 y2, .int .i64 x, .slice A4 m4 c4] (y0, y2, x, [(y0, y1, y2, qd)])).row.R wc w.heap.size [.slice Ar mr cr] (p.1.drop j) := (tPW kb w [.int .i64 y0, .int .i64 y2, .int .i64 x, .slice A4 m4 c4] (y0, y2, x, [(y0, y1, y2, qd)])).row.keep hRE hBc.block
        go_wp2_with (at_builtin; refine GrowR.pushRow (t := (tPW kb w [.int .i64 y0, .int .i64 y2, .int .i64 x, .slice A4 m4 c4] (y0, y2, x, [(y0, y1, y2, qd)]))) (e := 53) (base := wq.heap.size) (B := w.heap.size) (by rfl) (.tmp 102) (.tmp 103) _ (by rfl) i1 _ 4 48 Tryz.underlying31 hj0 hj1 hj2 hj3 tz (by omega) rfl (by rfl) hG9 (by rfl) hREc one_PW (by omega) (by omega) (by simp only [maxLen]; rw [← HN9.out]; omega) (by rw [← HN9.out]; omega) ?_; intro v5 w5 hG5 hgr5; obtain ⟨A10, n10, c10, rfl, hn10⟩ := hG5.shapeN; have HN10 := Lib.hid hn10; clear hn10; have hQ5 : Below wq.heap.size wq w5 := Below.grown hCn hgr5 (by omega) (fun b hb => by have := (hG9.own b hb).1; omega); have KO : Box w5 ob 33 #[.slice A9 n9 c9, .slice A1 n1 c1] := Box.grown HO hgr5 (fun e => hno _ e.symm rfl); have z5 := hgr5.size; have ko0 := KO.cell 0; have ko1 := KO.cell 1; have kof0 := KO.frozen 0; have kof1 := KO.frozen 1; have hQ6 := bel_put hQ5 (p := ⟨ob, 0, none⟩) (by show _ ≤ ob; omega) (.slice A10 n10 c10); have M0 : Box (w5.setCell ⟨ob, 0, none⟩ (.slice A10 n10 c10)) (w.heap.size) 33 #[.slice (some ⟨b', off, none⟩) n0 c0, .slice A1 n1 c1] := Box.below G0 hQ6 G0.size; have M1 : Box (w5.setCell ⟨ob, 0, none⟩ (.slice A10 n10 c10)) (w.heap.size + 1) 37 #[.int .i64 y0, .int .i64 y1, .int .i64 y2, .slice A7 n7 c7] := Box.below G1 hQ6 G1.size; have M2 : Box (w5.setCell ⟨ob, 0, none⟩ (.slice A10 n10 c10)) (w.heap.size + 1 + 1) 33 #[.slice none 0 0, .slice none 0 0] := Box.below G2 hQ6 G2.size; have MW := Box.below GW hQ6 GW.size; have MO : Box (w5.setCell ⟨ob, 0, none⟩ (.slice A10 n10 c10)) ob 33 #[.slice A10 n10 c10, .slice A1 n1 c1] := KO.put 0 (.slice A10 n10 c10); have m00 := M0.cell 0; have m01 := M0.cell 1; have m10 := M1.cell 0; have m20 := M2.cell 0; have m21 := M2.cell 1; have mf0 := M2.frozen 0; have mf1 := M2.frozen 1; have mo0 := MO.cell 0; have mo1 := MO.cell 1; have mof0 := MO.frozen 0; have mof1 := MO.frozen 1; have mw0 := MW.cell 0; have mw1 := MW.cell 1; have mw2 := MW.cell 2; have mw3 := MW.cell 3; have hno5 : ∀ b, (Value.slice A10 n10 c10).ownBlock = some b → b ≠ ob := own_not_box KO hG5 (by rfl))
        have hB6 : Below w.heap.size w (w5.setCell ⟨ob, 0, none⟩ (.slice A10 n10 c10)) := bel_trans GB hQ6
        have zo6 := MO.size
        have G6 := hG5.putN (p := ⟨ob, 0, none⟩) hno5 (by show _ ≤ ob; omega) (.slice A10 n10 c10)
        refine (s_l4insert (reach hI1 hB6) (by omega) HWY.out).mono ?_
        rintro e w7 ⟨v7, rfl, hO7, hb7⟩
        obtain ⟨A11, n11, c11, rfl, -⟩ := hO7.shapeN
        have hQ7 := bel_trans hQ6 hb7
        have NO := MO.below hb7 MO.size
        have G7 := G6.below hb7 (by have := hB6.size; omega)
        have z7 := hb7.size
        have no0 := NO.cell 0; have no1 := NO.cell 1; have nof0 := NO.frozen 0; have nof1 := NO.frozen 1
        have hQ8 := bel_put hQ7 (p := ⟨ob, 1, none⟩) (by show _ ≤ ob; omega) (.slice A11 n11 c11)
        have Q2 : Box (w7.setCell ⟨ob, 1, none⟩ (.slice A11 n11 c11)) (w.heap.size + 1 + 1) 33 #[.slice none 0 0, .slice none 0 0] := Box.below G2 hQ8 G2.size
        have QW := Box.below GW hQ8 GW.size
        have QO : Box (w7.setCell ⟨ob, 1, none⟩ (.slice A11 n11 c11)) ob 33 #[.slice A10 n10 c10, .slice A11 n11 c11] := NO.put 1 (.slice A11 n11 c11)
        have O8 := own_offT hO7 (p := ⟨ob, 1, none⟩) (by show ob < _; omega) (.slice A11 n11 c11)
        have G8 := G7.putN (p := ⟨ob, 1, none⟩) hno5 (by show _ ≤ ob; omega) (.slice A11 n11 c11)
        have q20 := Q2.cell 0; have q21 := Q2.cell 1; have qf0 := Q2.frozen 0; have qf1 := Q2.frozen 1; have qo0 := QO.cell 0; have qo1 := QO.cell 1; have qw0 := QW.cell 0; have qw1 := QW.cell 1; have qw2 := QW.cell 2; have qw3 := QW.cell 3
        go_wp2_with fail
        refine wp_region_held_drew (S := (fun w' => w'.cell? ⟨ob, 0, none⟩ = some (.slice A10 n10 c10) ∧ w'.cell? ⟨ob, 1, none⟩ = some (.slice A11 n11 c11) ∧ w'.cell? ⟨wd.heap.size, 0, none⟩ = some (.int .i64 y0) ∧ w'.cell? ⟨wd.heap.size, 1, none⟩ = some (.int .i64 y2) ∧ w'.cell? ⟨wd.heap.size, 2, none⟩ = some (.int .i64 x) ∧ w'.cell? ⟨wd.heap.size, 3, none⟩ = some (.slice A4 m4 c4))) (by kernel_rfl) (by exact ⟨QO.cell 0, QO.cell 1, QW.cell 0, QW.cell 1, QW.cell 2, QW.cell 3⟩) (fun hHeld => ?_)
        refine wpAnyH_take (i := 0) (oi := ⟨some 112, _, _, _, _, _⟩) (v := ?v137) rfl (by kernel_rfl) (by kernel_rfl) (by kernel_rfl) (fun _ _ _ h => h) (Or.inl ⟨by rfl, ?hy137⟩) (by assumption) ?_
        case hy137 => (intro w hSw; (try dsimp only at hSw); go_simp; try (with_reducible rfl))
        (try simp only [Act.put, qa_, qb_, qc_])
        refine wpAnyH_take (i := 1) (oi := ⟨some 113, _, _, _, _, _⟩) (v := ?v138) rfl (by kernel_rfl) (by kernel_rfl) (by kernel_rfl) (fun _ _ _ h => h) (Or.inl ⟨by rfl, ?hy138⟩) (by assumption) ?_
        case hy138 => (intro w hSw; (try dsimp only at hSw); go_simp; try (with_reducible rfl))
        (try simp only [Act.put, qa_, qb_, qc_])
        refine wpAnyH_ready (rs := [2]) (by kernel_rfl) (by simp) ?_
        refine AllReadyH.cons rfl (fun K hK => ?_) ?_
        · go_simp
          go_at_call 86
          refine (s_l4join (kb := kb) (w := (w7.setCell ⟨ob, 1, none⟩ (.slice A11 n11 c11)).drew) (GrowR.doneX (GrowR.drew (HGR.out.below hQ8 (by omega)) (by have := hQ8.size; omega)) (by have := hQ8.size; show _ ≤ (w7.setCell ⟨ob, 1, none⟩ (.slice A11 n11 c11)).heap.size; omega) (by omega)) HM8.out HD20.out).mono ?_
          rintro e w9 ⟨v9, rfl, hO9, hb9⟩
          obtain ⟨A12, n12, c12, rfl, -⟩ := hO9.shapeN
          have hs9 : Below (w7.setCell ⟨ob, 1, none⟩ (.slice A11 n11 c11)).heap.size (w7.setCell ⟨ob, 1, none⟩ (.slice A11 n11 c11)) w9 := bel_trans (bel_drew (Below.refl _ _)) hb9
          have hQ9 := bel_trans hQ8 hs9
          have S2 := Q2.below hs9 Q2.size
          have SO := QO.below hs9 QO.size
          have SW := QW.below hs9 QW.size
          have O9 := O8.below hs9
          have G9b := G8.below hs9 (by have := hQ8.size; omega)
          have s20 := S2.cell 0; have s21 := S2.cell 1; have sf0 := S2.frozen 0; have sf1 := S2.frozen 1
          have TO := ((SO.far (p := ⟨w.heap.size + 1 + 1, 0, none⟩) (by show ¬ ob = w.heap.size + 1 + 1; omega) (.slice A10 n10 c10)).far (p := ⟨w.heap.size + 1 + 1, 1, none⟩) (by show ¬ ob = w.heap.size + 1 + 1; omega) (.slice A11 n11 c11))
          have TW_ := ((SW.far (p := ⟨w.heap.size + 1 + 1, 0, none⟩) (by show ¬ wd.heap.size = w.heap.size + 1 + 1; omega) (.slice A10 n10 c10)).far (p := ⟨w.heap.size + 1 + 1, 1, none⟩) (by show ¬ wd.heap.size = w.heap.size + 1 + 1; omega) (.slice A11 n11 c11))
          have RR := (S2.put 0 (.slice A10 n10 c10)).put 1 (.slice A11 n11 c11)
          have u0 := RR.cell 0; have u1 := RR.cell 1
          have hBF := (bel_put (bel_put (bel_trans GB hQ9) (p := ⟨w.heap.size + 1 + 1, 0, none⟩) (by show w.heap.size ≤ w.heap.size + 1 + 1; omega) (.slice A10 n10 c10)) (p := ⟨w.heap.size + 1 + 1, 1, none⟩) (by show w.heap.size ≤ w.heap.size + 1 + 1; omega) (.slice A11 n11 c11))
          go_wp2_with fail
          refine hK.out _ _ (by exact ⟨SO.cell 0, SO.cell 1, SW.cell 0, SW.cell 1, SW.cell 2, SW.cell 3⟩) (fun hHeld => ?_)
          clear hK K
          (try simp only [Act.put, qa_, qb_, qc_])
          refine wpAnyH_ready (rs := [3]) (by kernel_rfl) (by simp) ?_
          refine AllReadyH.cons rfl (fun K hK => ?_) ?_
          · go_simp
            refine hK.out _ _ (by exact ⟨TO.cell 0, TO.cell 1, TW_.cell 0, TW_.cell 1, TW_.cell 2, TW_.cell 3⟩) (fun hHeld => ?_)
            clear hK K
            (try simp only [Act.put, qa_, qb_, qc_])
            refine wpAnyH_take (i := 4) (oi := ⟨some 7, _, _, _, _, _⟩) (v := ?v139) rfl (by kernel_rfl) (by kernel_rfl) (by kernel_rfl) (fun _ _ _ h => h) (Or.inl ⟨by rfl, ?hy139⟩) (by assumption) ?_
            case hy139 => (intro w hSw; (try dsimp only at hSw); go_simp; try (with_reducible rfl))
            (try simp only [Act.put, qa_, qb_, qc_])
            refine wpAnyH_take (i := 5) (oi := ⟨some 8, _, _, _, _, _⟩) (v := ?v140) rfl (by kernel_rfl) (by kernel_rfl) (by kernel_rfl) (fun _ _ _ h => h) (Or.inl ⟨by rfl, ?hy140⟩) (by assumption) ?_
            case hy140 => (intro w hSw; (try dsimp only at hSw); go_simp; try (with_reducible rfl))
            (try simp only [Act.put, qa_, qb_, qc_])
            refine wpAnyH_done (by kernel_rfl) ?_ _
            go_wp2
            have zQ6 := hQ6.size
            have zQ8 := hQ8.size
            have zQ8d : wq.heap.size ≤ ((w7.setCell ⟨ob, 1, none⟩ (.slice A11 n11 c11)).drew).heap.size := hQ8.size
            have GX := ((G9b.put (p := ⟨w.heap.size + 1 + 1, 0, none⟩) (by show w.heap.size + 1 + 1 < _; omega) (by show _ ≤ w.heap.size + 1 + 1; omega) (.slice A10 n10 c10)).put (p := ⟨w.heap.size + 1 + 1, 1, none⟩) (by show w.heap.size + 1 + 1 < _; omega) (by show _ ≤ w.heap.size + 1 + 1; omega) (.slice A11 n11 c11))
            have GG := (((HGR.out.below hQ9 (by omega)).put (p := ⟨w.heap.size + 1 + 1, 0, none⟩) (by show w.heap.size + 1 + 1 < _; omega) (by show _ ≤ w.heap.size + 1 + 1; omega) (.slice A10 n10 c10)).put (p := ⟨w.heap.size + 1 + 1, 1, none⟩) (by show w.heap.size + 1 + 1 < _; omega) (by show _ ≤ w.heap.size + 1 + 1; omega) (.slice A11 n11 c11))
            have zF := hBF.size
            have zQ6 := hQ6.size
            have zQ8 := hQ8.size
            have zQ8d : wq.heap.size ≤ ((w7.setCell ⟨ob, 1, none⟩ (.slice A11 n11 c11)).drew).heap.size := hQ8.size
            refine bodyPost_ret (v := .tuple #[.agg #[.slice A10 n10 c10, .slice A11 n11 c11], .slice A12 n12 c12, .int .i64 1]) (by simp [results, Tryz.results39, go_sem, u0, u1]) rfl ⟨_, _, _, (by rw [HR.out]), by rw [HR.out]; exact rx_cast (s := (tPW kb w [.int .i64 y0, .int .i64 y2, .int .i64 x, .slice A4 m4 c4] (y0, y2, x, [(y0, y1, y2, qd)]))) (t := tWhX kb) rfl (fun es a h => by rcases h.2 with h | ⟨rfl, rfl⟩; exact (tWhX kb).reach h hBF; exact makeWhX (K := kb) (p := (y0, y2, x, [(y0, y1, y2, qd)])) HWF.out.1 HWF.out.2.1 HWF.out.2.2 (GG.doneX (K := kb) (by omega) (by omega))) (GX.doneX (K := kb) (by omega) (by omega)), by rw [HR.out]; exact slX_own (own_offT (own_offT O9 (p := ⟨w.heap.size + 1 + 1, 0, none⟩) (by show w.heap.size + 1 + 1 < _; omega) (.slice A10 n10 c10)) (p := ⟨w.heap.size + 1 + 1, 1, none⟩) (by show w.heap.size + 1 + 1 < _; omega) (.slice A11 n11 c11)) (by omega), by rw [HR.out]; exact slX_own (own_offT (own_offT hO9 (p := ⟨w.heap.size + 1 + 1, 0, none⟩) (by show w.heap.size + 1 + 1 < _; omega) (.slice A10 n10 c10)) (p := ⟨w.heap.size + 1 + 1, 1, none⟩) (by show w.heap.size + 1 + 1 < _; omega) (.slice A11 n11 c11)) (by omega), hBF⟩
          exact AllReadyH.nil
        exact AllReadyH.nil
      · by_cases hf : 6 ≤ n0
        · have HDN := Lib.hid hdn
          have HR := Lib.hid (HRF.out hdn hf)
          clear hdn
          have hbe : ((m4 : Int) == y2) = false := by rw [HM4.out, beq_eq_false_iff_ne]; exact HDN.out
          have hBc : Below w.heap.size w wc := bel_trans GB hCn
          have zc := hCn.size
          have HM8 := Lib.hid (show m4 ≤ 8 by rw [HM4.out]; simp)
          obtain ⟨n9_, hn9⟩ : ∃ m, (p.1.take j).length = m := ⟨_, rfl⟩
          have HN9 : RowKit.Hid (n9 = (p.1.take j).length) := Lib.hid (by obtain ⟨_, n_, _, e_, h_⟩ := hG9.shapeN; injection e_ with _ e2; rw [e2]; exact h_)
          clear hn9
          have hl9 : n9 ≤ 6 := by rw [HN9.out, List.length_take]; omega
          have hlr : mr ≤ 6 := by rw [HMR.out]; rw [List.length_drop, E0.out]; omega
          have x0 := H0.cell 0; have x1 := H0.cell 1; have hw0 := HW.cell 0; have hw1 := HW.cell 1; have hw2 := HW.cell 2; have hw3 := HW.cell 3; have o0 := HO.cell 0; have o1 := HO.cell 1; have of0 := HO.frozen 0; have of1 := HO.frozen 1; have r0 := H2.cell 0; have r1 := H2.cell 1; have rf0 := H2.frozen 0; have rf1 := H2.frozen 1; have y0c := H1.cell 0
          have zo2 := HO.size
          have hREc : (tPW kb w [.int .i64 y0, .int .i64 y2, .int .i64 x, .slice A4 m4 c4] (y0, y2, x, [(y0, y1, y2, qd)])).row.R wc w.heap.size [.slice Ar mr cr] (p.1.drop j) := (tPW kb w [.int .i64 y0, .int .i64 y2, .int .i64 x, .slice A4 m4 c4] (y0, y2, x, [(y0, y1, y2, qd)])).row.keep hRE hBc.block
          have hf1 : (6 : Int) ≤ (n0 : Int) := by omega
          go_wp2
          have RR := (H2.put 0 (.slice (some ⟨b', off, none⟩) n0 c0)).put 1 (.slice A1 n1 c1)
          have s0 := RR.cell 0; have s1 := RR.cell 1
          have hBF := (bel_put (bel_put hBc (p := ⟨w.heap.size + 1 + 1, 0, none⟩) (by show _ ≤ w.heap.size + 1 + 1; omega) (.slice (some ⟨b', off, none⟩) n0 c0)) (p := ⟨w.heap.size + 1 + 1, 1, none⟩) (by show _ ≤ w.heap.size + 1 + 1; omega) (.slice A1 n1 c1))
          refine bodyPost_ret (v := .tuple #[.agg #[.slice (some ⟨b', off, none⟩) n0 c0, .slice A1 n1 c1], .slice none 0 0, .int .i64 (-2)]) (by simp [results, Tryz.results39, go_sem, s0, s1]) rfl ⟨_, _, _, (by rw [HR.out]), (by rw [HR.out]; exact (RX kb (tWhX kb)).reach h0 hBF), (by rw [HR.out]; exact (XT kb tIs).reach H1R.out hBF), (by rw [HR.out]; exact fun w' _ => ⟨none, 0, 0, rfl, Nat.le_refl _, by omega, Ints.nil⟩), hBF⟩
        · have HDN := Lib.hid hdn
          have HR := Lib.hid (HRP.out hdn hf)
          clear hdn
          have hbe : ((m4 : Int) == y2) = false := by rw [HM4.out, beq_eq_false_iff_ne]; exact HDN.out
          have hBc : Below w.heap.size w wc := bel_trans GB hCn
          have zc := hCn.size
          have HM8 := Lib.hid (show m4 ≤ 8 by rw [HM4.out]; simp)
          obtain ⟨n9_, hn9⟩ : ∃ m, (p.1.take j).length = m := ⟨_, rfl⟩
          have HN9 : RowKit.Hid (n9 = (p.1.take j).length) := Lib.hid (by obtain ⟨_, n_, _, e_, h_⟩ := hG9.shapeN; injection e_ with _ e2; rw [e2]; exact h_)
          clear hn9
          have hl9 : n9 ≤ 6 := by rw [HN9.out, List.length_take]; omega
          have hlr : mr ≤ 6 := by rw [HMR.out]; rw [List.length_drop, E0.out]; omega
          have x0 := H0.cell 0; have x1 := H0.cell 1; have hw0 := HW.cell 0; have hw1 := HW.cell 1; have hw2 := HW.cell 2; have hw3 := HW.cell 3; have o0 := HO.cell 0; have o1 := HO.cell 1; have of0 := HO.frozen 0; have of1 := HO.frozen 1; have r0 := H2.cell 0; have r1 := H2.cell 1; have rf0 := H2.frozen 0; have rf1 := H2.frozen 1; have y0c := H1.cell 0
          have zo2 := HO.size
          have hREc : (tPW kb w [.int .i64 y0, .int .i64 y2, .int .i64 x, .slice A4 m4 c4] (y0, y2, x, [(y0, y1, y2, qd)])).row.R wc w.heap.size [.slice Ar mr cr] (p.1.drop j) := (tPW kb w [.int .i64 y0, .int .i64 y2, .int .i64 x, .slice A4 m4 c4] (y0, y2, x, [(y0, y1, y2, qd)])).row.keep hRE hBc.block
          have hOwn9 := hG9.own
          have hf1 : ¬ (6 : Int) ≤ (n0 : Int) := by omega
          go_wp2_with (first
            | (at_builtin; refine GrowR.push (t := (tPW kb w [.int .i64 y0, .int .i64 y2, .int .i64 x, .slice A4 m4 c4] (y0, y2, x, [(y0, y1, y2, qd)]))) (e := 53) (w := (wc.alloc (.cells #[.int .i64 y0, .int .i64 y2, .int .i64 x, .slice A4 m4 c4] 53))) (base := wq.heap.size) (B := w.heap.size) (by rfl) (.tmp 125) (.tmp 127) _ (by rfl) i1 _ 4 48 Tryz.underlying31 hj0 hj1 hj2 hj3 tz (by omega) rfl (by rfl) (hG9.below (belx) (by omega)) wc.heap.size [.int .i64 y0, .int .i64 y2, .int .i64 x, .slice A4 m4 c4] (y0, y2, x, [(y0, y1, y2, qd)]) (by rfl) (Box.new wc _ _) PW_new (by intro u hu; simp only [List.mem_cons, List.not_mem_nil, or_false] at hu; rcases hu with rfl | rfl | rfl | rfl <;> rfl) (by omega) (by simp; omega) (by simp only [maxLen]; rw [← HN9.out]; omega) (by rw [← HN9.out]; omega) ?_; intro v4 w4 hG4 hgr4; obtain ⟨A14, n14, c14, rfl, hn14⟩ := hG4.shapeN; have HN14 := Lib.hid hn14; clear hn14; have hQ4 : Below wq.heap.size wq w4 := Below.grown (w := (wc.alloc (.cells #[.int .i64 y0, .int .i64 y2, .int .i64 x, .slice A4 m4 c4] 53))) (bel_alloc hCn _) hgr4 (by simp; omega) (fun b hb => (hOwn9 b hb).1); have z4 : wc.heap.size + 1 ≤ w4.heap.size := (by have h := hgr4.size; simpa using h); have JO : Box w4 ob 33 #[.slice A9 n9 c9, .slice A1 n1 c1] := Box.grown (w := (wc.alloc (.cells #[.int .i64 y0, .int .i64 y2, .int .i64 x, .slice A4 m4 c4] 53))) (HO.alloc _) hgr4 (fun e => hno _ e.symm rfl); have hno4 : ∀ b, (Value.slice A14 n14 c14).ownBlock = some b → b ≠ ob := own_not_box JO hG4 (by rfl); have hRE4 : (tPW kb w [.int .i64 y0, .int .i64 y2, .int .i64 x, .slice A4 m4 c4] (y0, y2, x, [(y0, y1, y2, qd)])).row.R w4 w.heap.size [.slice Ar mr cr] (p.1.drop j) := (tPW kb w [.int .i64 y0, .int .i64 y2, .int .i64 x, .slice A4 m4 c4] (y0, y2, x, [(y0, y1, y2, qd)])).row.keep hRE (bel_trans GB hQ4).block; have jo0 := JO.cell 0)
            | (at_builtin; refine GrowR.pushRow (t := (tPW kb w [.int .i64 y0, .int .i64 y2, .int .i64 x, .slice A4 m4 c4] (y0, y2, x, [(y0, y1, y2, qd)]))) (e := 53) (base := wq.heap.size) (B := w.heap.size) (by rfl) (.tmp 128) (.tmp 129) _ (by rfl) i1 _ 4 48 Tryz.underlying31 hj0 hj1 hj2 hj3 tz (by omega) rfl (by rfl) hG4 (by rfl) hRE4 one_PW (by omega) (by omega) (by simp only [maxLen, List.length_append, List.length_singleton]; rw [← HN9.out]; omega) (by simp only [List.length_append, List.length_singleton]; rw [← HN9.out]; omega) ?_; intro v5 w5 hG5 hgr5; obtain ⟨A10, n10, c10, rfl, hn10⟩ := hG5.shapeN; have HN10 := Lib.hid hn10; clear hn10; have hQ5 : Below wq.heap.size wq w5 := Below.grown hQ4 hgr5 (by omega) (fun b hb => by have := (hG4.own b hb).1; omega); have KO : Box w5 ob 33 #[.slice A9 n9 c9, .slice A1 n1 c1] := Box.grown JO hgr5 (fun e => hno4 _ e.symm rfl); have z5 := hgr5.size; have ko0 := KO.cell 0; have ko1 := KO.cell 1; have kof0 := KO.frozen 0; have kof1 := KO.frozen 1; have hQ6 := bel_put hQ5 (p := ⟨ob, 0, none⟩) (by show _ ≤ ob; omega) (.slice A10 n10 c10); have M0 : Box (w5.setCell ⟨ob, 0, none⟩ (.slice A10 n10 c10)) (w.heap.size) 33 #[.slice (some ⟨b', off, none⟩) n0 c0, .slice A1 n1 c1] := Box.below G0 hQ6 G0.size; have M1 : Box (w5.setCell ⟨ob, 0, none⟩ (.slice A10 n10 c10)) (w.heap.size + 1) 37 #[.int .i64 y0, .int .i64 y1, .int .i64 y2, .slice A7 n7 c7] := Box.below G1 hQ6 G1.size; have M2 : Box (w5.setCell ⟨ob, 0, none⟩ (.slice A10 n10 c10)) (w.heap.size + 1 + 1) 33 #[.slice none 0 0, .slice none 0 0] := Box.below G2 hQ6 G2.size; have MW := Box.below GW hQ6 GW.size; have MO : Box (w5.setCell ⟨ob, 0, none⟩ (.slice A10 n10 c10)) ob 33 #[.slice A10 n10 c10, .slice A1 n1 c1] := KO.put 0 (.slice A10 n10 c10); have m00 := M0.cell 0; have m01 := M0.cell 1; have m10 := M1.cell 0; have m20 := M2.cell 0; have m21 := M2.cell 1; have mf0 := M2.frozen 0; have mf1 := M2.frozen 1; have mo0 := MO.cell 0; have mo1 := MO.cell 1; have mof0 := MO.frozen 0; have mof1 := MO.frozen 1; have mw0 := MW.cell 0; have mw1 := MW.cell 1; have mw2 := MW.cell 2; have mw3 := MW.cell 3; have hno5 : ∀ b, (Value.slice A10 n10 c10).ownBlock = some b → b ≠ ob := own_not_box KO hG5 (by rfl)))
          have G6 := hG5.putN (p := ⟨ob, 0, none⟩) hno5 (by show _ ≤ ob; omega) (.slice A10 n10 c10)
          have hBF := (bel_put (bel_put (bel_trans GB hQ6) (p := ⟨w.heap.size + 1 + 1, 0, none⟩) (by show w.heap.size ≤ w.heap.size + 1 + 1; omega) (.slice A10 n10 c10)) (p := ⟨w.heap.size + 1 + 1, 1, none⟩) (by show w.heap.size ≤ w.heap.size + 1 + 1; omega) (.slice A1 n1 c1))
          have zF := hBF.size
          have GX := ((G6.put (p := ⟨w.heap.size + 1 + 1, 0, none⟩) (by show w.heap.size + 1 + 1 < _; omega) (by show _ ≤ w.heap.size + 1 + 1; omega) (.slice A10 n10 c10)).put (p := ⟨w.heap.size + 1 + 1, 1, none⟩) (by show w.heap.size + 1 + 1 < _; omega) (by show _ ≤ w.heap.size + 1 + 1; omega) (.slice A1 n1 c1))
          rw [List.append_assoc] at GX
          have GG := (((HGR.out.below hQ6 (by omega)).put (p := ⟨w.heap.size + 1 + 1, 0, none⟩) (by show w.heap.size + 1 + 1 < _; omega) (by show _ ≤ w.heap.size + 1 + 1; omega) (.slice A10 n10 c10)).put (p := ⟨w.heap.size + 1 + 1, 1, none⟩) (by show w.heap.size + 1 + 1 < _; omega) (by show _ ≤ w.heap.size + 1 + 1; omega) (.slice A1 n1 c1))
          go_wp2
          have RR := (M2.put 0 (.slice A10 n10 c10)).put 1 (.slice A1 n1 c1)
          have u0 := RR.cell 0; have u1 := RR.cell 1
          refine bodyPost_ret (v := .tuple #[.agg #[.slice A10 n10 c10, .slice A1 n1 c1], .slice none 0 0, .int .i64 0]) (by simp [results, Tryz.results39, go_sem, u0, u1]) rfl ⟨_, _, _, (by rw [HR.out]), by rw [HR.out]; exact rx_cast (s := (tPW kb w [.int .i64 y0, .int .i64 y2, .int .i64 x, .slice A4 m4 c4] (y0, y2, x, [(y0, y1, y2, qd)]))) (t := tWhX kb) rfl (fun es a h => by rcases h.2 with h | ⟨rfl, rfl⟩; exact (tWhX kb).reach h hBF; exact makeWhX (K := kb) (p := (y0, y2, x, [(y0, y1, y2, qd)])) HWF.out.1 HWF.out.2.1 HWF.out.2.2 (GG.doneX (K := kb) (by omega) (by omega))) (GX.doneX (K := kb) (by omega) (by omega)), (by rw [HR.out]; exact (XT kb tIs).reach H1R.out hBF), (by rw [HR.out]; exact fun w' _ => ⟨none, 0, 0, rfl, Nat.le_refl _, by omega, Ints.nil⟩), hBF⟩
end Go.Proofs.YtaabmaoldhoinaaGreat
namespace Go.Proofs.YtaabmaoldhoinaaGreat
set_option linter.unusedVariables false
theorem tkT_old {d : DDesk} {q : DPiece} {x : Int} (h : TkOld d q) : tkT d q x = (d, [], -1) := if_pos h
theorem tkT_done {d : DDesk} {q : DPiece} {x : Int} (h : ¬ TkOld d q) (h1 : TkDone d q x) : tkT d q x = ((d.1.filter fun a => decide (a.1 ≠ q.1), insB id q.1 d.2), tkData (tkNew d q x).2.2.2, 1) := by
  unfold tkT; rw [if_neg h, if_pos h1]
theorem tkT_full {d : DDesk} {q : DPiece} {x : Int} (h : ¬ TkOld d q) (h1 : ¬ TkDone d q x) (h2 : TkFull d q) : tkT d q x = (d, [], -2) := by
  unfold tkT; rw [if_neg h, if_neg h1, if_pos h2]
theorem tkT_put {d : DDesk} {q : DPiece} {x : Int} (h : ¬ TkOld d q) (h1 : ¬ TkDone d q x) (h2 : ¬ TkFull d q) : tkT d q x = ((insB wId (tkNew d q x) d.1, d.2), [], 0) := by
  unfold tkT; rw [if_neg h, if_neg h1, if_neg h2]
end Go.Proofs.YtaabmaoldhoinaaGreat
