/-
  PNetS: texts joined.
-/
import Derived.Test.YteokfenoomcogaaGreatQGl
import Derived.Test.YteokfenoomcogaaGreatQGm
import Derived.Test.YteokfenoomcogaaGreatQMPNetI
import Derived.Test.YteokfenoomcogaaGreatQMPNodeS
import Derived.Deep.RegionHeld3
namespace Go.Proofs.YteokfenoomcogaaGreat
set_option maxRecDepth 100000
set_option linter.unusedVariables false
set_option linter.unusedSimpArgs false
open Go.ChangeShapes Go.WideShapes Go.ChangeAt Go.RowKit
open Fld
set_option maxHeartbeats 16000000 in
theorem s_NetOkN {w : World} {x0 x1 x2 : Int} {A3 A4 A5 A6 : Option Addr} {n3 c3 n4 c4 n5 c5 n6 c6 : Nat} {nds : List DNode} {bag : List DMail} {snt : List DSent} {sen : List DGlance} (b : Bool) (T : NtOk (x0, x1, x2, nds, bag, snt, sen) → b = true) (F : ¬ NtOk (x0, x1, x2, nds, bag, snt, sen) → b = false)
    (hN : tNode.row.R w w.heap.size [.slice A3 n3 c3] nds) (hM : tMail.row.R w w.heap.size [.slice A4 n4 c4] bag) (hS : tSent.row.R w w.heap.size [.slice A5 n5 c5] snt) (hG : tGlance.row.R w w.heap.size [.slice A6 n6 c6] sen) (hz : rsz szNode nds ≤ 1048576) :
    Calls Tryz.prog 14 #[.agg #[.int .i64 x0, .int .i64 x1, .int .i64 x2, .slice A3 n3 c3, .slice A4 n4 c4, .slice A5 n5 c5, .slice A6 n6 c6]] w fun e w' => e = .returned (.bool b) ∧ Below w.heap.size w w' := by
  have E3 := Lib.hid (rowR_len hN).1
  have E4 := Lib.hid (rowR_len hM).1
  have E5 := Lib.hid (rowR_len hS).1
  have E6 := Lib.hid (rowR_len hG).1
  have HT := Lib.hid T
  have HF := Lib.hid F
  have HSZ := Lib.hid hz
  clear T F hz
  by_cases g0 : x0 < 0
  · obtain rfl := HF.out (fun h => by have := h.1; dsimp only at this; omega)
    clear HT HF
    go_enter Tryz.func14, Tryz.ntmps14
    go_wp2
    go_ret
    exact ⟨rfl, (belx)⟩
  by_cases k0 : 50000 < x0
  · obtain rfl := HF.out (fun h => by have := h.1; dsimp only at this; omega)
    clear HT HF
    go_enter Tryz.func14, Tryz.ntmps14
    go_wp2
    go_ret
    exact ⟨rfl, (belx)⟩
  by_cases g1 : x1 < 0
  · obtain rfl := HF.out (fun h => by have := h.1; dsimp only at this; omega)
    clear HT HF
    go_enter Tryz.func14, Tryz.ntmps14
    go_wp2
    go_ret
    exact ⟨rfl, (belx)⟩
  by_cases k1 : 1000 < x1
  · obtain rfl := HF.out (fun h => by have := h.1; dsimp only at this; omega)
    clear HT HF
    go_enter Tryz.func14, Tryz.ntmps14
    go_wp2
    go_ret
    exact ⟨rfl, (belx)⟩
  by_cases g2 : x2 < 0
  · obtain rfl := HF.out (fun h => by have := h.1; dsimp only at this; omega)
    clear HT HF
    go_enter Tryz.func14, Tryz.ntmps14
    go_wp2
    go_ret
    exact ⟨rfl, (belx)⟩
  by_cases k2 : 20000 < x2
  · obtain rfl := HF.out (fun h => by have := h.1; dsimp only at this; omega)
    clear HT HF
    go_enter Tryz.func14, Tryz.ntmps14
    go_wp2
    go_ret
    exact ⟨rfl, (belx)⟩
  by_cases l3 : n3 = 8
  rotate_left
  · obtain rfl := HF.out (fun h => l3 (by have := h.2.2.1.1; have := E3.out; dsimp only at *; omega))
    have q3 : ((n3 : Int) != 8) = true := by simp; omega
    clear l3
    clear HT HF
    go_enter Tryz.func14, Tryz.ntmps14
    go_wp2
    go_ret
    exact ⟨rfl, (belx)⟩
  subst l3
  by_cases l4 : n4 ≤ 60
  rotate_left
  · obtain rfl := HF.out (fun h => l4 (by have := h.2.1.1; have := E4.out; dsimp only at *; omega))
    have q4 : (60 : Int) < (n4 : Int) := by omega
    clear HT HF
    go_enter Tryz.func14, Tryz.ntmps14
    go_wp2
    go_ret
    exact ⟨rfl, (belx)⟩
  have q4 : ¬ (60 : Int) < (n4 : Int) := by omega
  by_cases l5 : n5 ≤ 20
  rotate_left
  · obtain rfl := HF.out (fun h => l5 (by have := h.2.1.2.1; have := E5.out; dsimp only at *; omega))
    have q5 : (20 : Int) < (n5 : Int) := by omega
    clear HT HF
    go_enter Tryz.func14, Tryz.ntmps14
    go_wp2
    go_ret
    exact ⟨rfl, (belx)⟩
  have q5 : ¬ (20 : Int) < (n5 : Int) := by omega
  by_cases l6 : n6 ≤ 500
  rotate_left
  · obtain rfl := HF.out (fun h => l6 (by have := h.2.1.2.2; have := E6.out; dsimp only at *; omega))
    have q6 : (500 : Int) < (n6 : Int) := by omega
    clear HT HF
    go_enter Tryz.func14, Tryz.ntmps14
    go_wp2
    go_ret
    exact ⟨rfl, (belx)⟩
  have q6 : ¬ (500 : Int) < (n6 : Int) := by omega
  go_enter Tryz.func14, Tryz.ntmps14
  go_wp2_with fail
  refine (s_l3nodes (by omega) (by omega)).mono ?_
  rintro e w1 ⟨A, c, A', c', rfl, hI, -, hb1⟩
  obtain ⟨gs, os, rfl, hgs, hcs⟩ := hI.2.1 (by omega)
  clear hI
  have X1 : Box w1 w.heap.size 35 #[.int .i64 x0, .int .i64 x1, .int .i64 x2, .slice A3 8 c3, .slice A4 n4 c4, .slice A5 n5 c5, .slice A6 n6 c6] := (Box.new _ _ _).below hb1 (by simp)
  have hB1 : Below w.heap.size w w1 := bel_trans (belx) hb1
  have hN1 := tNode.row.reach hN hB1
  have hM1 := tMail.row.reach hM hB1
  have hS1 := tSent.row.reach hS hB1
  have hG1 := tGlance.row.reach hG hB1
  clear hN hM hS hG hb1
  go_wp2_with fail
  go_loopw [5] (fun i wr => ∃ j : Nat, j ≤ 8 ∧ i = .int .i64 j ∧ Below w1.heap.size w1 wr ∧ Ix (NdAt x1) nds j) (fun i _ => 8 - (intOf i).toNat)
  case atStart => exact ⟨0, by omega, rfl, (belx), Ix.zero⟩
  case round =>
    obtain ⟨j, hj, rfl, hB, hG⟩ := hrel
    have HG := Lib.hid hG
    clear hG
    have X := X1.below hB X1.size
    have kk : wr.cell? ⟨w.heap.size, 3, none⟩ = some (.slice A3 8 c3) := X.cell 3
    by_cases hlt : j < 8
    · obtain ⟨a, b', off, es, hl2, rfl, hb, hes, hR⟩ := rowR_at (K := 7) hN1 hlt rfl
      have HA := Lib.hid hl2
      have hza := nds_sz HSZ.out hl2
      have hRk := hR
      obtain ⟨B2, m2, d2, B3, m3, d3, B4, m4, d4, B5, m5, d5, B6, m6, d6, rfl, -⟩ := fopenNode hR
      obtain ⟨y0, hy0⟩ : ∃ y, a.1 = y := ⟨_, rfl⟩
      obtain ⟨y1, hy1⟩ : ∃ y, a.2.1 = y := ⟨_, rfl⟩
      rw [hy0, hy1] at hRk hes
      have HY0 := Lib.hid hy0
      have HY1 := Lib.hid hy1
      have h0 : w1.cell? ⟨b', off + j * 7, none⟩ = some (.int .i64 y0) := hes 0 (by omega)
      have u0 : wr.cell? ⟨b', off + j * 7, none⟩ = some (.int .i64 y0) := cell_at hB hb h0
      have h1 : w1.cell? ⟨b', off + j * 7 + 1, none⟩ = some (.int .i64 y1) := hes 1 (by omega)
      have u1 : wr.cell? ⟨b', off + j * 7 + 1, none⟩ = some (.int .i64 y1) := cell_at hB hb h1
      have h2 : w1.cell? ⟨b', off + j * 7 + 2, none⟩ = some (.slice B2 m2 d2) := hes 2 (by omega)
      have u2 : wr.cell? ⟨b', off + j * 7 + 2, none⟩ = some (.slice B2 m2 d2) := cell_at hB hb h2
      have h3 : w1.cell? ⟨b', off + j * 7 + 3, none⟩ = some (.slice B3 m3 d3) := hes 3 (by omega)
      have u3 : wr.cell? ⟨b', off + j * 7 + 3, none⟩ = some (.slice B3 m3 d3) := cell_at hB hb h3
      have h4 : w1.cell? ⟨b', off + j * 7 + 4, none⟩ = some (.slice B4 m4 d4) := hes 4 (by omega)
      have u4 : wr.cell? ⟨b', off + j * 7 + 4, none⟩ = some (.slice B4 m4 d4) := cell_at hB hb h4
      have h5 : w1.cell? ⟨b', off + j * 7 + 5, none⟩ = some (.slice B5 m5 d5) := hes 5 (by omega)
      have u5 : wr.cell? ⟨b', off + j * 7 + 5, none⟩ = some (.slice B5 m5 d5) := cell_at hB hb h5
      have h6 : w1.cell? ⟨b', off + j * 7 + 6, none⟩ = some (.slice B6 m6 d6) := hes 6 (by omega)
      have u6 : wr.cell? ⟨b', off + j * 7 + 6, none⟩ = some (.slice B6 m6 d6) := cell_at hB hb h6
      have u7 := kk
      have hz8 : w1.cell? ⟨gs, os + j, none⟩ = some (.int .i64 (nsec x1 j)) := by rw [← secL_at hlt]; exact hcs j hlt
      obtain ⟨z, hz⟩ : ∃ z, nsec x1 j = z := ⟨_, rfl⟩
      rw [hz] at hz8
      have HZ := Lib.hid hz
      have u8 : wr.cell? ⟨gs, os + j, none⟩ = some (.int .i64 z) := cell_at hB hgs hz8
      have i1 : (j : Int) < (8 : Int) := by omega
      clear hes hR hl2 hy0 hy1 hz
      by_cases g1 : NdOk a
      rotate_left
      · obtain rfl := HF.out (fun h => g1 (h.2.2.1.2 j a HA.out).1)
        have HND := Lib.hid (decide_eq_false g1)
        clear g1
        clear HT HF
        as_aux_lemma =>
          go_wp2_with fail
          refine wp_region_held_drew (S := (fun w' => w'.cell? ⟨b', off + j * 7, none⟩ = some (.int .i64 y0) ∧ w'.cell? ⟨b', off + j * 7 + 1, none⟩ = some (.int .i64 y1) ∧ w'.cell? ⟨b', off + j * 7 + 2, none⟩ = some (.slice B2 m2 d2) ∧ w'.cell? ⟨b', off + j * 7 + 3, none⟩ = some (.slice B3 m3 d3) ∧ w'.cell? ⟨b', off + j * 7 + 4, none⟩ = some (.slice B4 m4 d4) ∧ w'.cell? ⟨b', off + j * 7 + 5, none⟩ = some (.slice B5 m5 d5) ∧ w'.cell? ⟨b', off + j * 7 + 6, none⟩ = some (.slice B6 m6 d6) ∧ w'.cell? ⟨w.heap.size, 3, none⟩ = some (.slice (some ⟨b', off, none⟩) 8 c3) ∧ w'.cell? ⟨gs, os + j, none⟩ = some (.int .i64 z))) (by kernel_rfl) (by exact ⟨u0, u1, u2, u3, u4, u5, u6, u7, u8⟩) (fun hHeld => ?_)
          refine wpAnyH_take (i := 0) (oi := ⟨some 75, _, _, _, _, _⟩) (v := ?v1) rfl (by kernel_rfl) (by kernel_rfl) (by kernel_rfl) (fun _ _ _ h => h) (Or.inl ⟨by rfl, ?hy1⟩) (by assumption) ?_
          case hy1 => (intro w hSw; (try dsimp only at hSw); go_simp; try (with_reducible rfl))
          (try simp only [Act.put, qa_, qb_, qc_])
          refine wpAnyH_take (i := 1) (oi := ⟨some 76, _, _, _, _, _⟩) (v := ?v2) rfl (by kernel_rfl) (by kernel_rfl) (by kernel_rfl) (fun _ _ _ h => h) (Or.inl ⟨by rfl, ?hy2⟩) (by assumption) ?_
          case hy2 => (intro w hSw; (try dsimp only at hSw); go_simp; try (with_reducible rfl))
          (try simp only [Act.put, qa_, qb_, qc_])
          refine wpAnyH_take (i := 2) (oi := ⟨some 77, _, _, _, _, _⟩) (v := ?v3) rfl (by kernel_rfl) (by kernel_rfl) (by kernel_rfl) (fun _ _ _ h => h) (Or.inl ⟨by rfl, ?hy3⟩) (by assumption) ?_
          case hy3 => (intro w hSw; (try dsimp only at hSw); go_simp; try (with_reducible rfl))
          (try simp only [Act.put, qa_, qb_, qc_])
          refine wpAnyH_take (i := 3) (oi := ⟨some 78, _, _, _, _, _⟩) (v := ?v4) rfl (by kernel_rfl) (by kernel_rfl) (by kernel_rfl) (fun _ _ _ h => h) (Or.inl ⟨by rfl, ?hy4⟩) (by assumption) ?_
          case hy4 => (intro w hSw; (try dsimp only at hSw); go_simp; try (with_reducible rfl))
          (try simp only [Act.put, qa_, qb_, qc_])
          refine wpAnyH_take (i := 4) (oi := ⟨some 79, _, _, _, _, _⟩) (v := ?v5) rfl (by kernel_rfl) (by kernel_rfl) (by kernel_rfl) (fun _ _ _ h => h) (Or.inl ⟨by rfl, ?hy5⟩) (by assumption) ?_
          case hy5 => (intro w hSw; (try dsimp only at hSw); go_simp; try (with_reducible rfl))
          (try simp only [Act.put, qa_, qb_, qc_])
          refine wpAnyH_ready (rs := [5]) (by kernel_rfl) (by simp) ?_
          refine AllReadyH.cons rfl (fun K hK => ?_) ?_
          · go_simp
            go_at_call 49
            refine (s_NodeOk (tNode.reach (tNode.reach hRk hB) ?hBn) hza).mono ?_
            case hBn => exact (belx)
            rintro e w2 ⟨rfl, hb2⟩
            rw [HND.out]
            have hB2 : Below w1.heap.size w1 w2 := bel_trans hB (bel_trans (belx) hb2)
            have v0 : w2.cell? ⟨b', off + j * 7, none⟩ = some (.int .i64 y0) := cell_at hB2 hb h0
            have v1 : w2.cell? ⟨b', off + j * 7 + 1, none⟩ = some (.int .i64 y1) := cell_at hB2 hb h1
            have v2 : w2.cell? ⟨b', off + j * 7 + 2, none⟩ = some (.slice B2 m2 d2) := cell_at hB2 hb h2
            have v3 : w2.cell? ⟨b', off + j * 7 + 3, none⟩ = some (.slice B3 m3 d3) := cell_at hB2 hb h3
            have v4 : w2.cell? ⟨b', off + j * 7 + 4, none⟩ = some (.slice B4 m4 d4) := cell_at hB2 hb h4
            have v5 : w2.cell? ⟨b', off + j * 7 + 5, none⟩ = some (.slice B5 m5 d5) := cell_at hB2 hb h5
            have v6 : w2.cell? ⟨b', off + j * 7 + 6, none⟩ = some (.slice B6 m6 d6) := cell_at hB2 hb h6
            have v7 : w2.cell? ⟨w.heap.size, 3, none⟩ = some (.slice (some ⟨b', off, none⟩) 8 c3) := (X1.below hB2 X1.size).cell 3
            have v8 : w2.cell? ⟨gs, os + j, none⟩ = some (.int .i64 z) := cell_at hB2 hgs hz8
            go_wp2_with fail
            refine hK.out _ _ (by exact ⟨v0, v1, v2, v3, v4, v5, v6, v7, v8⟩) (fun hHeld => ?_)
            clear hK K
            (try simp only [Act.put, qa_, qb_, qc_])
            refine wpAnyH_take (i := 6) (oi := ⟨some 81, _, _, _, _, _⟩) (v := ?v6) rfl (by kernel_rfl) (by kernel_rfl) (by kernel_rfl) (fun _ _ _ h => h) (Or.inl ⟨by rfl, ?hy6⟩) (by assumption) ?_
            case hy6 => (intro w hSw; (try dsimp only at hSw); go_simp; try (with_reducible rfl))
            (try simp only [Act.put, qa_, qb_, qc_])
            refine wpAnyH_take (i := 7) (oi := ⟨some 82, _, _, _, _, _⟩) (v := ?v7) rfl (by kernel_rfl) (by kernel_rfl) (by kernel_rfl) (fun _ _ _ h => h) (Or.inl ⟨by rfl, ?hy7⟩) (by assumption) ?_
            case hy7 => (intro w hSw; (try dsimp only at hSw); go_simp; try (with_reducible rfl))
            (try simp only [Act.put, qa_, qb_, qc_])
            refine wpAnyH_take (i := 8) (oi := ⟨some 83, _, _, _, _, _⟩) (v := undef) rfl (by kernel_rfl) (by kernel_rfl) (by kernel_rfl) (fun _ _ _ h => h) (Or.inr ⟨by rfl, rfl⟩) (by assumption) ?_
            (try simp only [Act.put, qa_, qb_, qc_])
            refine wpAnyH_take (i := 9) (oi := ⟨some 84, _, _, _, _, _⟩) (v := undef) rfl (by kernel_rfl) (by kernel_rfl) (by kernel_rfl) (fun _ _ _ h => h) (Or.inr ⟨by rfl, rfl⟩) (by assumption) ?_
            (try simp only [Act.put, qa_, qb_, qc_])
            refine wpAnyH_take (i := 10) (oi := ⟨some 85, _, _, _, _, _⟩) (v := undef) rfl (by kernel_rfl) (by kernel_rfl) (by kernel_rfl) (fun _ _ _ h => h) (Or.inr ⟨by rfl, rfl⟩) (by assumption) ?_
            (try simp only [Act.put, qa_, qb_, qc_])
            refine wpAnyH_take (i := 11) (oi := ⟨some 86, _, _, _, _, _⟩) (v := undef) rfl (by kernel_rfl) (by kernel_rfl) (by kernel_rfl) (fun _ _ _ h => h) (Or.inr ⟨by rfl, rfl⟩) (by assumption) ?_
            (try simp only [Act.put, qa_, qb_, qc_])
            refine wpAnyH_take (i := 12) (oi := ⟨some 87, _, _, _, _, _⟩) (v := undef) rfl (by kernel_rfl) (by kernel_rfl) (by kernel_rfl) (fun _ _ _ h => h) (Or.inr ⟨by rfl, rfl⟩) (by assumption) ?_
            (try simp only [Act.put, qa_, qb_, qc_])
            refine wpAnyH_take (i := 13) (oi := ⟨some 88, _, _, _, _, _⟩) (v := undef) rfl (by kernel_rfl) (by kernel_rfl) (by kernel_rfl) (fun _ _ _ h => h) (Or.inr ⟨by rfl, rfl⟩) (by assumption) ?_
            (try simp only [Act.put, qa_, qb_, qc_])
            refine wpAnyH_take (i := 14) (oi := ⟨some 89, _, _, _, _, _⟩) (v := undef) rfl (by kernel_rfl) (by kernel_rfl) (by kernel_rfl) (fun _ _ _ h => h) (Or.inr ⟨by rfl, rfl⟩) (by assumption) ?_
            (try simp only [Act.put, qa_, qb_, qc_])
            refine wpAnyH_take (i := 15) (oi := ⟨some 90, _, _, _, _, _⟩) (v := undef) rfl (by kernel_rfl) (by kernel_rfl) (by kernel_rfl) (fun _ _ _ h => h) (Or.inr ⟨by rfl, rfl⟩) (by assumption) ?_
            (try simp only [Act.put, qa_, qb_, qc_])
            refine wpAnyH_take (i := 16) (oi := ⟨some 91, _, _, _, _, _⟩) (v := ?v8) rfl (by kernel_rfl) (by kernel_rfl) (by kernel_rfl) (fun _ _ _ h => h) (Or.inl ⟨by rfl, ?hy8⟩) (by assumption) ?_
            case hy8 => (intro w hSw; (try dsimp only at hSw); go_simp; try (with_reducible rfl))
            (try simp only [Act.put, qa_, qb_, qc_])
            refine wpAnyH_take (i := 17) (oi := ⟨some 92, _, _, _, _, _⟩) (v := ?v9) rfl (by kernel_rfl) (by kernel_rfl) (by kernel_rfl) (fun _ _ _ h => h) (Or.inl ⟨by rfl, ?hy9⟩) (by assumption) ?_
            case hy9 => (intro w hSw; (try dsimp only at hSw); go_simp; try (with_reducible rfl))
            (try simp only [Act.put, qa_, qb_, qc_])
            refine wpAnyH_take (i := 18) (oi := ⟨some 93, _, _, _, _, _⟩) (v := undef) rfl (by kernel_rfl) (by kernel_rfl) (by kernel_rfl) (fun _ _ _ h => h) (Or.inr ⟨by rfl, rfl⟩) (by assumption) ?_
            (try simp only [Act.put, qa_, qb_, qc_])
            refine wpAnyH_take (i := 19) (oi := ⟨some 94, _, _, _, _, _⟩) (v := undef) rfl (by kernel_rfl) (by kernel_rfl) (by kernel_rfl) (fun _ _ _ h => h) (Or.inr ⟨by rfl, rfl⟩) (by assumption) ?_
            (try simp only [Act.put, qa_, qb_, qc_])
            refine wpAnyH_take (i := 20) (oi := ⟨some 95, _, _, _, _, _⟩) (v := undef) rfl (by kernel_rfl) (by kernel_rfl) (by kernel_rfl) (fun _ _ _ h => h) (Or.inr ⟨by rfl, rfl⟩) (by assumption) ?_
            (try simp only [Act.put, qa_, qb_, qc_])
            refine wpAnyH_take (i := 21) (oi := ⟨some 96, _, _, _, _, _⟩) (v := undef) rfl (by kernel_rfl) (by kernel_rfl) (by kernel_rfl) (fun _ _ _ h => h) (Or.inr ⟨by rfl, rfl⟩) (by assumption) ?_
            (try simp only [Act.put, qa_, qb_, qc_])
            refine wpAnyH_take (i := 22) (oi := ⟨some 97, _, _, _, _, _⟩) (v := undef) rfl (by kernel_rfl) (by kernel_rfl) (by kernel_rfl) (fun _ _ _ h => h) (Or.inr ⟨by rfl, rfl⟩) (by assumption) ?_
            (try simp only [Act.put, qa_, qb_, qc_])
            refine wpAnyH_take (i := 23) (oi := ⟨some 98, _, _, _, _, _⟩) (v := undef) rfl (by kernel_rfl) (by kernel_rfl) (by kernel_rfl) (fun _ _ _ h => h) (Or.inr ⟨by rfl, rfl⟩) (by assumption) ?_
            (try simp only [Act.put, qa_, qb_, qc_])
            refine wpAnyH_take (i := 24) (oi := ⟨some 99, _, _, _, _, _⟩) (v := undef) rfl (by kernel_rfl) (by kernel_rfl) (by kernel_rfl) (fun _ _ _ h => h) (Or.inr ⟨by rfl, rfl⟩) (by assumption) ?_
            (try simp only [Act.put, qa_, qb_, qc_])
            refine wpAnyH_take (i := 25) (oi := ⟨some 100, _, _, _, _, _⟩) (v := undef) rfl (by kernel_rfl) (by kernel_rfl) (by kernel_rfl) (fun _ _ _ h => h) (Or.inr ⟨by rfl, rfl⟩) (by assumption) ?_
            (try simp only [Act.put, qa_, qb_, qc_])
            refine wpAnyH_take (i := 26) (oi := ⟨some 101, _, _, _, _, _⟩) (v := undef) rfl (by kernel_rfl) (by kernel_rfl) (by kernel_rfl) (fun _ _ _ h => h) (Or.inr ⟨by rfl, rfl⟩) (by assumption) ?_
            (try simp only [Act.put, qa_, qb_, qc_])
            refine wpAnyH_take (i := 27) (oi := ⟨some 102, _, _, _, _, _⟩) (v := undef) rfl (by kernel_rfl) (by kernel_rfl) (by kernel_rfl) (fun _ _ _ h => h) (Or.inr ⟨by rfl, rfl⟩) (by assumption) ?_
            (try simp only [Act.put, qa_, qb_, qc_])
            refine wpAnyH_take (i := 28) (oi := ⟨some 103, _, _, _, _, _⟩) (v := undef) rfl (by kernel_rfl) (by kernel_rfl) (by kernel_rfl) (fun _ _ _ h => h) (Or.inr ⟨by rfl, rfl⟩) (by assumption) ?_
            (try simp only [Act.put, qa_, qb_, qc_])
            refine wpAnyH_take (i := 29) (oi := ⟨some 104, _, _, _, _, _⟩) (v := ?v10) rfl (by kernel_rfl) (by kernel_rfl) (by kernel_rfl) (fun _ _ _ h => h) (Or.inl ⟨by rfl, ?hy10⟩) (by assumption) ?_
            case hy10 => (intro w hSw; (try dsimp only at hSw); go_simp; try (with_reducible rfl))
            (try simp only [Act.put, qa_, qb_, qc_])
            refine wpAnyH_done (by kernel_rfl) ?_ _
            go_wp2
            go_ret
            exact ⟨rfl, bel_trans hB1 hB2⟩
          exact AllReadyH.nil
      have HND := Lib.hid (decide_eq_true g1)
      have H1 := Lib.hid g1
      by_cases g2 : y0 = (j : Int)
      rotate_left
      · obtain rfl := HF.out (fun h => g2 (by rw [← HY0.out]; exact (h.2.2.1.2 j a HA.out).2.1))
        have q2 : (y0 != (j : Int)) = true := by simp [g2]
        clear g1 g2
        clear HT HF
        as_aux_lemma =>
          go_wp2_with fail
          refine wp_region_held_drew (S := (fun w' => w'.cell? ⟨b', off + j * 7, none⟩ = some (.int .i64 y0) ∧ w'.cell? ⟨b', off + j * 7 + 1, none⟩ = some (.int .i64 y1) ∧ w'.cell? ⟨b', off + j * 7 + 2, none⟩ = some (.slice B2 m2 d2) ∧ w'.cell? ⟨b', off + j * 7 + 3, none⟩ = some (.slice B3 m3 d3) ∧ w'.cell? ⟨b', off + j * 7 + 4, none⟩ = some (.slice B4 m4 d4) ∧ w'.cell? ⟨b', off + j * 7 + 5, none⟩ = some (.slice B5 m5 d5) ∧ w'.cell? ⟨b', off + j * 7 + 6, none⟩ = some (.slice B6 m6 d6) ∧ w'.cell? ⟨w.heap.size, 3, none⟩ = some (.slice (some ⟨b', off, none⟩) 8 c3) ∧ w'.cell? ⟨gs, os + j, none⟩ = some (.int .i64 z))) (by kernel_rfl) (by exact ⟨u0, u1, u2, u3, u4, u5, u6, u7, u8⟩) (fun hHeld => ?_)
          refine wpAnyH_take (i := 0) (oi := ⟨some 75, _, _, _, _, _⟩) (v := ?v11) rfl (by kernel_rfl) (by kernel_rfl) (by kernel_rfl) (fun _ _ _ h => h) (Or.inl ⟨by rfl, ?hy11⟩) (by assumption) ?_
          case hy11 => (intro w hSw; (try dsimp only at hSw); go_simp; try (with_reducible rfl))
          (try simp only [Act.put, qa_, qb_, qc_])
          refine wpAnyH_take (i := 1) (oi := ⟨some 76, _, _, _, _, _⟩) (v := ?v12) rfl (by kernel_rfl) (by kernel_rfl) (by kernel_rfl) (fun _ _ _ h => h) (Or.inl ⟨by rfl, ?hy12⟩) (by assumption) ?_
          case hy12 => (intro w hSw; (try dsimp only at hSw); go_simp; try (with_reducible rfl))
          (try simp only [Act.put, qa_, qb_, qc_])
          refine wpAnyH_take (i := 2) (oi := ⟨some 77, _, _, _, _, _⟩) (v := ?v13) rfl (by kernel_rfl) (by kernel_rfl) (by kernel_rfl) (fun _ _ _ h => h) (Or.inl ⟨by rfl, ?hy13⟩) (by assumption) ?_
          case hy13 => (intro w hSw; (try dsimp only at hSw); go_simp; try (with_reducible rfl))
          (try simp only [Act.put, qa_, qb_, qc_])
          refine wpAnyH_take (i := 3) (oi := ⟨some 78, _, _, _, _, _⟩) (v := ?v14) rfl (by kernel_rfl) (by kernel_rfl) (by kernel_rfl) (fun _ _ _ h => h) (Or.inl ⟨by rfl, ?hy14⟩) (by assumption) ?_
          case hy14 => (intro w hSw; (try dsimp only at hSw); go_simp; try (with_reducible rfl))
          (try simp only [Act.put, qa_, qb_, qc_])
          refine wpAnyH_take (i := 4) (oi := ⟨some 79, _, _, _, _, _⟩) (v := ?v15) rfl (by kernel_rfl) (by kernel_rfl) (by kernel_rfl) (fun _ _ _ h => h) (Or.inl ⟨by rfl, ?hy15⟩) (by assumption) ?_
          case hy15 => (intro w hSw; (try dsimp only at hSw); go_simp; try (with_reducible rfl))
          (try simp only [Act.put, qa_, qb_, qc_])
          refine wpAnyH_ready (rs := [5]) (by kernel_rfl) (by simp) ?_
          refine AllReadyH.cons rfl (fun K hK => ?_) ?_
          · go_simp
            go_at_call 49
            refine (s_NodeOk (tNode.reach (tNode.reach hRk hB) ?hBn) hza).mono ?_
            case hBn => exact (belx)
            rintro e w2 ⟨rfl, hb2⟩
            rw [HND.out]
            have hB2 : Below w1.heap.size w1 w2 := bel_trans hB (bel_trans (belx) hb2)
            have v0 : w2.cell? ⟨b', off + j * 7, none⟩ = some (.int .i64 y0) := cell_at hB2 hb h0
            have v1 : w2.cell? ⟨b', off + j * 7 + 1, none⟩ = some (.int .i64 y1) := cell_at hB2 hb h1
            have v2 : w2.cell? ⟨b', off + j * 7 + 2, none⟩ = some (.slice B2 m2 d2) := cell_at hB2 hb h2
            have v3 : w2.cell? ⟨b', off + j * 7 + 3, none⟩ = some (.slice B3 m3 d3) := cell_at hB2 hb h3
            have v4 : w2.cell? ⟨b', off + j * 7 + 4, none⟩ = some (.slice B4 m4 d4) := cell_at hB2 hb h4
            have v5 : w2.cell? ⟨b', off + j * 7 + 5, none⟩ = some (.slice B5 m5 d5) := cell_at hB2 hb h5
            have v6 : w2.cell? ⟨b', off + j * 7 + 6, none⟩ = some (.slice B6 m6 d6) := cell_at hB2 hb h6
            have v7 : w2.cell? ⟨w.heap.size, 3, none⟩ = some (.slice (some ⟨b', off, none⟩) 8 c3) := (X1.below hB2 X1.size).cell 3
            have v8 : w2.cell? ⟨gs, os + j, none⟩ = some (.int .i64 z) := cell_at hB2 hgs hz8
            go_wp2_with fail
            refine hK.out _ _ (by exact ⟨v0, v1, v2, v3, v4, v5, v6, v7, v8⟩) (fun hHeld => ?_)
            clear hK K
            (try simp only [Act.put, qa_, qb_, qc_])
            refine wpAnyH_take (i := 6) (oi := ⟨some 81, _, _, _, _, _⟩) (v := ?v16) rfl (by kernel_rfl) (by kernel_rfl) (by kernel_rfl) (fun _ _ _ h => h) (Or.inl ⟨by rfl, ?hy16⟩) (by assumption) ?_
            case hy16 => (intro w hSw; (try dsimp only at hSw); go_simp; try (with_reducible rfl))
            (try simp only [Act.put, qa_, qb_, qc_])
            refine wpAnyH_take (i := 7) (oi := ⟨some 82, _, _, _, _, _⟩) (v := ?v17) rfl (by kernel_rfl) (by kernel_rfl) (by kernel_rfl) (fun _ _ _ h => h) (Or.inl ⟨by rfl, ?hy17⟩) (by assumption) ?_
            case hy17 => (intro w hSw; (try dsimp only at hSw); go_simp; try (with_reducible rfl))
            (try simp only [Act.put, qa_, qb_, qc_])
            refine wpAnyH_take (i := 8) (oi := ⟨some 83, _, _, _, _, _⟩) (v := ?v18) rfl (by kernel_rfl) (by kernel_rfl) (by kernel_rfl) (fun _ _ _ h => h) (Or.inl ⟨by rfl, ?hy18⟩) (by assumption) ?_
            case hy18 => (intro w hSw; (try dsimp only at hSw); go_simp; try (with_reducible rfl))
            (try simp only [Act.put, qa_, qb_, qc_])
            refine wpAnyH_take (i := 9) (oi := ⟨some 84, _, _, _, _, _⟩) (v := ?v19) rfl (by kernel_rfl) (by kernel_rfl) (by kernel_rfl) (fun _ _ _ h => h) (Or.inl ⟨by rfl, ?hy19⟩) (by assumption) ?_
            case hy19 => (intro w hSw; (try dsimp only at hSw); go_simp; try (with_reducible rfl))
            (try simp only [Act.put, qa_, qb_, qc_])
            refine wpAnyH_take (i := 10) (oi := ⟨some 85, _, _, _, _, _⟩) (v := ?v20) rfl (by kernel_rfl) (by kernel_rfl) (by kernel_rfl) (fun _ _ _ h => h) (Or.inl ⟨by rfl, ?hy20⟩) (by assumption) ?_
            case hy20 => (intro w hSw; (try dsimp only at hSw); go_simp; try (with_reducible rfl))
            (try simp only [Act.put, qa_, qb_, qc_])
            refine wpAnyH_take (i := 11) (oi := ⟨some 86, _, _, _, _, _⟩) (v := ?v21) rfl (by kernel_rfl) (by kernel_rfl) (by kernel_rfl) (fun _ _ _ h => h) (Or.inl ⟨by rfl, ?hy21⟩) (by assumption) ?_
            case hy21 => (intro w hSw; (try dsimp only at hSw); go_simp; try (with_reducible rfl))
            (try simp only [Act.put, qa_, qb_, qc_])
            refine wpAnyH_take (i := 12) (oi := ⟨some 87, _, _, _, _, _⟩) (v := ?v22) rfl (by kernel_rfl) (by kernel_rfl) (by kernel_rfl) (fun _ _ _ h => h) (Or.inl ⟨by rfl, ?hy22⟩) (by assumption) ?_
            case hy22 => (intro w hSw; (try dsimp only at hSw); go_simp; try (with_reducible rfl))
            (try simp only [Act.put, qa_, qb_, qc_])
            refine wpAnyH_take (i := 13) (oi := ⟨some 88, _, _, _, _, _⟩) (v := ?v23) rfl (by kernel_rfl) (by kernel_rfl) (by kernel_rfl) (fun _ _ _ h => h) (Or.inl ⟨by rfl, ?hy23⟩) (by assumption) ?_
            case hy23 => (intro w hSw; (try dsimp only at hSw); go_simp; try (with_reducible rfl))
            (try simp only [Act.put, qa_, qb_, qc_])
            refine wpAnyH_take (i := 14) (oi := ⟨some 89, _, _, _, _, _⟩) (v := ?v24) rfl (by kernel_rfl) (by kernel_rfl) (by kernel_rfl) (fun _ _ _ h => h) (Or.inl ⟨by rfl, ?hy24⟩) (by assumption) ?_
            case hy24 => (intro w hSw; (try dsimp only at hSw); go_simp; try (with_reducible rfl))
            (try simp only [Act.put, qa_, qb_, qc_])
            refine wpAnyH_take (i := 15) (oi := ⟨some 90, _, _, _, _, _⟩) (v := ?v25) rfl (by kernel_rfl) (by kernel_rfl) (by kernel_rfl) (fun _ _ _ h => h) (Or.inl ⟨by rfl, ?hy25⟩) (by assumption) ?_
            case hy25 => (intro w hSw; (try dsimp only at hSw); go_simp; try (with_reducible rfl))
            (try simp only [Act.put, qa_, qb_, qc_])
            refine wpAnyH_take (i := 16) (oi := ⟨some 91, _, _, _, _, _⟩) (v := ?v26) rfl (by kernel_rfl) (by kernel_rfl) (by kernel_rfl) (fun _ _ _ h => h) (Or.inl ⟨by rfl, ?hy26⟩) (by assumption) ?_
            case hy26 => (intro w hSw; (try dsimp only at hSw); go_simp; try (with_reducible rfl))
            (try simp only [Act.put, qa_, qb_, qc_])
            refine wpAnyH_take (i := 17) (oi := ⟨some 92, _, _, _, _, _⟩) (v := ?v27) rfl (by kernel_rfl) (by kernel_rfl) (by kernel_rfl) (fun _ _ _ h => h) (Or.inl ⟨by rfl, ?hy27⟩) (by assumption) ?_
            case hy27 => (intro w hSw; (try dsimp only at hSw); go_simp; try (with_reducible rfl))
            (try simp only [Act.put, qa_, qb_, qc_])
            refine wpAnyH_take (i := 18) (oi := ⟨some 93, _, _, _, _, _⟩) (v := undef) rfl (by kernel_rfl) (by kernel_rfl) (by kernel_rfl) (fun _ _ _ h => h) (Or.inr ⟨by rfl, rfl⟩) (by assumption) ?_
            (try simp only [Act.put, qa_, qb_, qc_])
            refine wpAnyH_take (i := 19) (oi := ⟨some 94, _, _, _, _, _⟩) (v := undef) rfl (by kernel_rfl) (by kernel_rfl) (by kernel_rfl) (fun _ _ _ h => h) (Or.inr ⟨by rfl, rfl⟩) (by assumption) ?_
            (try simp only [Act.put, qa_, qb_, qc_])
            refine wpAnyH_take (i := 20) (oi := ⟨some 95, _, _, _, _, _⟩) (v := undef) rfl (by kernel_rfl) (by kernel_rfl) (by kernel_rfl) (fun _ _ _ h => h) (Or.inr ⟨by rfl, rfl⟩) (by assumption) ?_
            (try simp only [Act.put, qa_, qb_, qc_])
            refine wpAnyH_take (i := 21) (oi := ⟨some 96, _, _, _, _, _⟩) (v := undef) rfl (by kernel_rfl) (by kernel_rfl) (by kernel_rfl) (fun _ _ _ h => h) (Or.inr ⟨by rfl, rfl⟩) (by assumption) ?_
            (try simp only [Act.put, qa_, qb_, qc_])
            refine wpAnyH_take (i := 22) (oi := ⟨some 97, _, _, _, _, _⟩) (v := undef) rfl (by kernel_rfl) (by kernel_rfl) (by kernel_rfl) (fun _ _ _ h => h) (Or.inr ⟨by rfl, rfl⟩) (by assumption) ?_
            (try simp only [Act.put, qa_, qb_, qc_])
            refine wpAnyH_take (i := 23) (oi := ⟨some 98, _, _, _, _, _⟩) (v := undef) rfl (by kernel_rfl) (by kernel_rfl) (by kernel_rfl) (fun _ _ _ h => h) (Or.inr ⟨by rfl, rfl⟩) (by assumption) ?_
            (try simp only [Act.put, qa_, qb_, qc_])
            refine wpAnyH_take (i := 24) (oi := ⟨some 99, _, _, _, _, _⟩) (v := undef) rfl (by kernel_rfl) (by kernel_rfl) (by kernel_rfl) (fun _ _ _ h => h) (Or.inr ⟨by rfl, rfl⟩) (by assumption) ?_
            (try simp only [Act.put, qa_, qb_, qc_])
            refine wpAnyH_take (i := 25) (oi := ⟨some 100, _, _, _, _, _⟩) (v := undef) rfl (by kernel_rfl) (by kernel_rfl) (by kernel_rfl) (fun _ _ _ h => h) (Or.inr ⟨by rfl, rfl⟩) (by assumption) ?_
            (try simp only [Act.put, qa_, qb_, qc_])
            refine wpAnyH_take (i := 26) (oi := ⟨some 101, _, _, _, _, _⟩) (v := undef) rfl (by kernel_rfl) (by kernel_rfl) (by kernel_rfl) (fun _ _ _ h => h) (Or.inr ⟨by rfl, rfl⟩) (by assumption) ?_
            (try simp only [Act.put, qa_, qb_, qc_])
            refine wpAnyH_take (i := 27) (oi := ⟨some 102, _, _, _, _, _⟩) (v := undef) rfl (by kernel_rfl) (by kernel_rfl) (by kernel_rfl) (fun _ _ _ h => h) (Or.inr ⟨by rfl, rfl⟩) (by assumption) ?_
            (try simp only [Act.put, qa_, qb_, qc_])
            refine wpAnyH_take (i := 28) (oi := ⟨some 103, _, _, _, _, _⟩) (v := undef) rfl (by kernel_rfl) (by kernel_rfl) (by kernel_rfl) (fun _ _ _ h => h) (Or.inr ⟨by rfl, rfl⟩) (by assumption) ?_
            (try simp only [Act.put, qa_, qb_, qc_])
            refine wpAnyH_take (i := 29) (oi := ⟨some 104, _, _, _, _, _⟩) (v := ?v28) rfl (by kernel_rfl) (by kernel_rfl) (by kernel_rfl) (fun _ _ _ h => h) (Or.inl ⟨by rfl, ?hy28⟩) (by assumption) ?_
            case hy28 => (intro w hSw; (try dsimp only at hSw); go_simp; try (with_reducible rfl))
            (try simp only [Act.put, qa_, qb_, qc_])
            refine wpAnyH_done (by kernel_rfl) ?_ _
            go_wp2
            go_ret
            exact ⟨rfl, bel_trans hB1 hB2⟩
          exact AllReadyH.nil
      subst g2
      by_cases g4 : y1 = z
      rotate_left
      · obtain rfl := HF.out (fun h => g4 (by rw [← HY1.out, ← HZ.out]; exact (h.2.2.1.2 j a HA.out).2.2))
        have q3 : (y1 != z) = true := by simp [g4]
        clear g1 g4
        clear HT HF
        as_aux_lemma =>
          go_wp2_with fail
          refine wp_region_held_drew (S := (fun w' => w'.cell? ⟨b', off + j * 7, none⟩ = some (.int .i64 (j : Int)) ∧ w'.cell? ⟨b', off + j * 7 + 1, none⟩ = some (.int .i64 y1) ∧ w'.cell? ⟨b', off + j * 7 + 2, none⟩ = some (.slice B2 m2 d2) ∧ w'.cell? ⟨b', off + j * 7 + 3, none⟩ = some (.slice B3 m3 d3) ∧ w'.cell? ⟨b', off + j * 7 + 4, none⟩ = some (.slice B4 m4 d4) ∧ w'.cell? ⟨b', off + j * 7 + 5, none⟩ = some (.slice B5 m5 d5) ∧ w'.cell? ⟨b', off + j * 7 + 6, none⟩ = some (.slice B6 m6 d6) ∧ w'.cell? ⟨w.heap.size, 3, none⟩ = some (.slice (some ⟨b', off, none⟩) 8 c3) ∧ w'.cell? ⟨gs, os + j, none⟩ = some (.int .i64 z))) (by kernel_rfl) (by exact ⟨u0, u1, u2, u3, u4, u5, u6, u7, u8⟩) (fun hHeld => ?_)
          refine wpAnyH_take (i := 0) (oi := ⟨some 75, _, _, _, _, _⟩) (v := ?v29) rfl (by kernel_rfl) (by kernel_rfl) (by kernel_rfl) (fun _ _ _ h => h) (Or.inl ⟨by rfl, ?hy29⟩) (by assumption) ?_
          case hy29 => (intro w hSw; (try dsimp only at hSw); go_simp; try (with_reducible rfl))
          (try simp only [Act.put, qa_, qb_, qc_])
          refine wpAnyH_take (i := 1) (oi := ⟨some 76, _, _, _, _, _⟩) (v := ?v30) rfl (by kernel_rfl) (by kernel_rfl) (by kernel_rfl) (fun _ _ _ h => h) (Or.inl ⟨by rfl, ?hy30⟩) (by assumption) ?_
          case hy30 => (intro w hSw; (try dsimp only at hSw); go_simp; try (with_reducible rfl))
          (try simp only [Act.put, qa_, qb_, qc_])
          refine wpAnyH_take (i := 2) (oi := ⟨some 77, _, _, _, _, _⟩) (v := ?v31) rfl (by kernel_rfl) (by kernel_rfl) (by kernel_rfl) (fun _ _ _ h => h) (Or.inl ⟨by rfl, ?hy31⟩) (by assumption) ?_
          case hy31 => (intro w hSw; (try dsimp only at hSw); go_simp; try (with_reducible rfl))
          (try simp only [Act.put, qa_, qb_, qc_])
          refine wpAnyH_take (i := 3) (oi := ⟨some 78, _, _, _, _, _⟩) (v := ?v32) rfl (by kernel_rfl) (by kernel_rfl) (by kernel_rfl) (fun _ _ _ h => h) (Or.inl ⟨by rfl, ?hy32⟩) (by assumption) ?_
          case hy32 => (intro w hSw; (try dsimp only at hSw); go_simp; try (with_reducible rfl))
          (try simp only [Act.put, qa_, qb_, qc_])
          refine wpAnyH_take (i := 4) (oi := ⟨some 79, _, _, _, _, _⟩) (v := ?v33) rfl (by kernel_rfl) (by kernel_rfl) (by kernel_rfl) (fun _ _ _ h => h) (Or.inl ⟨by rfl, ?hy33⟩) (by assumption) ?_
          case hy33 => (intro w hSw; (try dsimp only at hSw); go_simp; try (with_reducible rfl))
          (try simp only [Act.put, qa_, qb_, qc_])
          refine wpAnyH_ready (rs := [5]) (by kernel_rfl) (by simp) ?_
          refine AllReadyH.cons rfl (fun K hK => ?_) ?_
          · go_simp
            go_at_call 49
            refine (s_NodeOk (tNode.reach (tNode.reach hRk hB) ?hBn) hza).mono ?_
            case hBn => exact (belx)
            rintro e w2 ⟨rfl, hb2⟩
            rw [HND.out]
            have hB2 : Below w1.heap.size w1 w2 := bel_trans hB (bel_trans (belx) hb2)
            have v0 : w2.cell? ⟨b', off + j * 7, none⟩ = some (.int .i64 (j : Int)) := cell_at hB2 hb h0
            have v1 : w2.cell? ⟨b', off + j * 7 + 1, none⟩ = some (.int .i64 y1) := cell_at hB2 hb h1
            have v2 : w2.cell? ⟨b', off + j * 7 + 2, none⟩ = some (.slice B2 m2 d2) := cell_at hB2 hb h2
            have v3 : w2.cell? ⟨b', off + j * 7 + 3, none⟩ = some (.slice B3 m3 d3) := cell_at hB2 hb h3
            have v4 : w2.cell? ⟨b', off + j * 7 + 4, none⟩ = some (.slice B4 m4 d4) := cell_at hB2 hb h4
            have v5 : w2.cell? ⟨b', off + j * 7 + 5, none⟩ = some (.slice B5 m5 d5) := cell_at hB2 hb h5
            have v6 : w2.cell? ⟨b', off + j * 7 + 6, none⟩ = some (.slice B6 m6 d6) := cell_at hB2 hb h6
            have v7 : w2.cell? ⟨w.heap.size, 3, none⟩ = some (.slice (some ⟨b', off, none⟩) 8 c3) := (X1.below hB2 X1.size).cell 3
            have v8 : w2.cell? ⟨gs, os + j, none⟩ = some (.int .i64 z) := cell_at hB2 hgs hz8
            go_wp2_with fail
            refine hK.out _ _ (by exact ⟨v0, v1, v2, v3, v4, v5, v6, v7, v8⟩) (fun hHeld => ?_)
            clear hK K
            (try simp only [Act.put, qa_, qb_, qc_])
            refine wpAnyH_take (i := 6) (oi := ⟨some 81, _, _, _, _, _⟩) (v := ?v34) rfl (by kernel_rfl) (by kernel_rfl) (by kernel_rfl) (fun _ _ _ h => h) (Or.inl ⟨by rfl, ?hy34⟩) (by assumption) ?_
            case hy34 => (intro w hSw; (try dsimp only at hSw); go_simp; try (with_reducible rfl))
            (try simp only [Act.put, qa_, qb_, qc_])
            refine wpAnyH_take (i := 7) (oi := ⟨some 82, _, _, _, _, _⟩) (v := ?v35) rfl (by kernel_rfl) (by kernel_rfl) (by kernel_rfl) (fun _ _ _ h => h) (Or.inl ⟨by rfl, ?hy35⟩) (by assumption) ?_
            case hy35 => (intro w hSw; (try dsimp only at hSw); go_simp; try (with_reducible rfl))
            (try simp only [Act.put, qa_, qb_, qc_])
            refine wpAnyH_take (i := 8) (oi := ⟨some 83, _, _, _, _, _⟩) (v := ?v36) rfl (by kernel_rfl) (by kernel_rfl) (by kernel_rfl) (fun _ _ _ h => h) (Or.inl ⟨by rfl, ?hy36⟩) (by assumption) ?_
            case hy36 => (intro w hSw; (try dsimp only at hSw); go_simp; try (with_reducible rfl))
            (try simp only [Act.put, qa_, qb_, qc_])
            refine wpAnyH_take (i := 9) (oi := ⟨some 84, _, _, _, _, _⟩) (v := ?v37) rfl (by kernel_rfl) (by kernel_rfl) (by kernel_rfl) (fun _ _ _ h => h) (Or.inl ⟨by rfl, ?hy37⟩) (by assumption) ?_
            case hy37 => (intro w hSw; (try dsimp only at hSw); go_simp; try (with_reducible rfl))
            (try simp only [Act.put, qa_, qb_, qc_])
            refine wpAnyH_take (i := 10) (oi := ⟨some 85, _, _, _, _, _⟩) (v := ?v38) rfl (by kernel_rfl) (by kernel_rfl) (by kernel_rfl) (fun _ _ _ h => h) (Or.inl ⟨by rfl, ?hy38⟩) (by assumption) ?_
            case hy38 => (intro w hSw; (try dsimp only at hSw); go_simp; try (with_reducible rfl))
            (try simp only [Act.put, qa_, qb_, qc_])
            refine wpAnyH_take (i := 11) (oi := ⟨some 86, _, _, _, _, _⟩) (v := ?v39) rfl (by kernel_rfl) (by kernel_rfl) (by kernel_rfl) (fun _ _ _ h => h) (Or.inl ⟨by rfl, ?hy39⟩) (by assumption) ?_
            case hy39 => (intro w hSw; (try dsimp only at hSw); go_simp; try (with_reducible rfl))
            (try simp only [Act.put, qa_, qb_, qc_])
            refine wpAnyH_take (i := 12) (oi := ⟨some 87, _, _, _, _, _⟩) (v := ?v40) rfl (by kernel_rfl) (by kernel_rfl) (by kernel_rfl) (fun _ _ _ h => h) (Or.inl ⟨by rfl, ?hy40⟩) (by assumption) ?_
            case hy40 => (intro w hSw; (try dsimp only at hSw); go_simp; try (with_reducible rfl))
            (try simp only [Act.put, qa_, qb_, qc_])
            refine wpAnyH_take (i := 13) (oi := ⟨some 88, _, _, _, _, _⟩) (v := ?v41) rfl (by kernel_rfl) (by kernel_rfl) (by kernel_rfl) (fun _ _ _ h => h) (Or.inl ⟨by rfl, ?hy41⟩) (by assumption) ?_
            case hy41 => (intro w hSw; (try dsimp only at hSw); go_simp; try (with_reducible rfl))
            (try simp only [Act.put, qa_, qb_, qc_])
            refine wpAnyH_take (i := 14) (oi := ⟨some 89, _, _, _, _, _⟩) (v := ?v42) rfl (by kernel_rfl) (by kernel_rfl) (by kernel_rfl) (fun _ _ _ h => h) (Or.inl ⟨by rfl, ?hy42⟩) (by assumption) ?_
            case hy42 => (intro w hSw; (try dsimp only at hSw); go_simp; try (with_reducible rfl))
            (try simp only [Act.put, qa_, qb_, qc_])
            refine wpAnyH_take (i := 15) (oi := ⟨some 90, _, _, _, _, _⟩) (v := ?v43) rfl (by kernel_rfl) (by kernel_rfl) (by kernel_rfl) (fun _ _ _ h => h) (Or.inl ⟨by rfl, ?hy43⟩) (by assumption) ?_
            case hy43 => (intro w hSw; (try dsimp only at hSw); go_simp; try (with_reducible rfl))
            (try simp only [Act.put, qa_, qb_, qc_])
            refine wpAnyH_take (i := 16) (oi := ⟨some 91, _, _, _, _, _⟩) (v := ?v44) rfl (by kernel_rfl) (by kernel_rfl) (by kernel_rfl) (fun _ _ _ h => h) (Or.inl ⟨by rfl, ?hy44⟩) (by assumption) ?_
            case hy44 => (intro w hSw; (try dsimp only at hSw); go_simp; try (with_reducible rfl))
            (try simp only [Act.put, qa_, qb_, qc_])
            refine wpAnyH_take (i := 17) (oi := ⟨some 92, _, _, _, _, _⟩) (v := ?v45) rfl (by kernel_rfl) (by kernel_rfl) (by kernel_rfl) (fun _ _ _ h => h) (Or.inl ⟨by rfl, ?hy45⟩) (by assumption) ?_
            case hy45 => (intro w hSw; (try dsimp only at hSw); go_simp; try (with_reducible rfl))
            (try simp only [Act.put, qa_, qb_, qc_])
            refine wpAnyH_take (i := 18) (oi := ⟨some 93, _, _, _, _, _⟩) (v := ?v46) rfl (by kernel_rfl) (by kernel_rfl) (by kernel_rfl) (fun _ _ _ h => h) (Or.inl ⟨by rfl, ?hy46⟩) (by assumption) ?_
            case hy46 => (intro w hSw; (try dsimp only at hSw); go_simp; try (with_reducible rfl))
            (try simp only [Act.put, qa_, qb_, qc_])
            refine wpAnyH_take (i := 19) (oi := ⟨some 94, _, _, _, _, _⟩) (v := ?v47) rfl (by kernel_rfl) (by kernel_rfl) (by kernel_rfl) (fun _ _ _ h => h) (Or.inl ⟨by rfl, ?hy47⟩) (by assumption) ?_
            case hy47 => (intro w hSw; (try dsimp only at hSw); go_simp; try (with_reducible rfl))
            (try simp only [Act.put, qa_, qb_, qc_])
            refine wpAnyH_take (i := 20) (oi := ⟨some 95, _, _, _, _, _⟩) (v := ?v48) rfl (by kernel_rfl) (by kernel_rfl) (by kernel_rfl) (fun _ _ _ h => h) (Or.inl ⟨by rfl, ?hy48⟩) (by assumption) ?_
            case hy48 => (intro w hSw; (try dsimp only at hSw); go_simp; try (with_reducible rfl))
            (try simp only [Act.put, qa_, qb_, qc_])
            refine wpAnyH_take (i := 21) (oi := ⟨some 96, _, _, _, _, _⟩) (v := ?v49) rfl (by kernel_rfl) (by kernel_rfl) (by kernel_rfl) (fun _ _ _ h => h) (Or.inl ⟨by rfl, ?hy49⟩) (by assumption) ?_
            case hy49 => (intro w hSw; (try dsimp only at hSw); go_simp; try (with_reducible rfl))
            (try simp only [Act.put, qa_, qb_, qc_])
            refine wpAnyH_take (i := 22) (oi := ⟨some 97, _, _, _, _, _⟩) (v := ?v50) rfl (by kernel_rfl) (by kernel_rfl) (by kernel_rfl) (fun _ _ _ h => h) (Or.inl ⟨by rfl, ?hy50⟩) (by assumption) ?_
            case hy50 => (intro w hSw; (try dsimp only at hSw); go_simp; try (with_reducible rfl))
            (try simp only [Act.put, qa_, qb_, qc_])
            refine wpAnyH_take (i := 23) (oi := ⟨some 98, _, _, _, _, _⟩) (v := ?v51) rfl (by kernel_rfl) (by kernel_rfl) (by kernel_rfl) (fun _ _ _ h => h) (Or.inl ⟨by rfl, ?hy51⟩) (by assumption) ?_
            case hy51 => (intro w hSw; (try dsimp only at hSw); go_simp; try (with_reducible rfl))
            (try simp only [Act.put, qa_, qb_, qc_])
            refine wpAnyH_take (i := 24) (oi := ⟨some 99, _, _, _, _, _⟩) (v := ?v52) rfl (by kernel_rfl) (by kernel_rfl) (by kernel_rfl) (fun _ _ _ h => h) (Or.inl ⟨by rfl, ?hy52⟩) (by assumption) ?_
            case hy52 => (intro w hSw; (try dsimp only at hSw); go_simp; try (with_reducible rfl))
            (try simp only [Act.put, qa_, qb_, qc_])
            refine wpAnyH_take (i := 25) (oi := ⟨some 100, _, _, _, _, _⟩) (v := ?v53) rfl (by kernel_rfl) (by kernel_rfl) (by kernel_rfl) (fun _ _ _ h => h) (Or.inl ⟨by rfl, ?hy53⟩) (by assumption) ?_
            case hy53 => (intro w hSw; (try dsimp only at hSw); go_simp; try (with_reducible rfl))
            (try simp only [Act.put, qa_, qb_, qc_])
            refine wpAnyH_take (i := 26) (oi := ⟨some 101, _, _, _, _, _⟩) (v := ?v54) rfl (by kernel_rfl) (by kernel_rfl) (by kernel_rfl) (fun _ _ _ h => h) (Or.inl ⟨by rfl, ?hy54⟩) (by assumption) ?_
            case hy54 => (intro w hSw; (try dsimp only at hSw); go_simp; try (with_reducible rfl))
            (try simp only [Act.put, qa_, qb_, qc_])
            refine wpAnyH_take (i := 27) (oi := ⟨some 102, _, _, _, _, _⟩) (v := ?v55) rfl (by kernel_rfl) (by kernel_rfl) (by kernel_rfl) (fun _ _ _ h => h) (Or.inl ⟨by rfl, ?hy55⟩) (by assumption) ?_
            case hy55 => (intro w hSw; (try dsimp only at hSw); go_simp; try (with_reducible rfl))
            (try simp only [Act.put, qa_, qb_, qc_])
            refine wpAnyH_take (i := 28) (oi := ⟨some 103, _, _, _, _, _⟩) (v := ?v56) rfl (by kernel_rfl) (by kernel_rfl) (by kernel_rfl) (fun _ _ _ h => h) (Or.inl ⟨by rfl, ?hy56⟩) (by assumption) ?_
            case hy56 => (intro w hSw; (try dsimp only at hSw); go_simp; try (with_reducible rfl))
            (try simp only [Act.put, qa_, qb_, qc_])
            refine wpAnyH_take (i := 29) (oi := ⟨some 104, _, _, _, _, _⟩) (v := ?v57) rfl (by kernel_rfl) (by kernel_rfl) (by kernel_rfl) (fun _ _ _ h => h) (Or.inl ⟨by rfl, ?hy57⟩) (by assumption) ?_
            case hy57 => (intro w hSw; (try dsimp only at hSw); go_simp; try (with_reducible rfl))
            (try simp only [Act.put, qa_, qb_, qc_])
            refine wpAnyH_done (by kernel_rfl) ?_ _
            go_wp2
            go_ret
            exact ⟨rfl, bel_trans hB1 hB2⟩
          exact AllReadyH.nil
      subst g4
      have HAT := Lib.hid (show NdAt x1 j a from ⟨H1.out, HY0.out, by rw [HY1.out, HZ.out]⟩)
      clear g1
      go_wp2_with fail
      refine wp_region_held_drew (S := (fun w' => w'.cell? ⟨b', off + j * 7, none⟩ = some (.int .i64 (j : Int)) ∧ w'.cell? ⟨b', off + j * 7 + 1, none⟩ = some (.int .i64 y1) ∧ w'.cell? ⟨b', off + j * 7 + 2, none⟩ = some (.slice B2 m2 d2) ∧ w'.cell? ⟨b', off + j * 7 + 3, none⟩ = some (.slice B3 m3 d3) ∧ w'.cell? ⟨b', off + j * 7 + 4, none⟩ = some (.slice B4 m4 d4) ∧ w'.cell? ⟨b', off + j * 7 + 5, none⟩ = some (.slice B5 m5 d5) ∧ w'.cell? ⟨b', off + j * 7 + 6, none⟩ = some (.slice B6 m6 d6) ∧ w'.cell? ⟨w.heap.size, 3, none⟩ = some (.slice (some ⟨b', off, none⟩) 8 c3) ∧ w'.cell? ⟨gs, os + j, none⟩ = some (.int .i64 y1))) (by kernel_rfl) (by exact ⟨u0, u1, u2, u3, u4, u5, u6, u7, u8⟩) (fun hHeld => ?_)
      refine wpAnyH_take (i := 0) (oi := ⟨some 75, _, _, _, _, _⟩) (v := ?v58) rfl (by kernel_rfl) (by kernel_rfl) (by kernel_rfl) (fun _ _ _ h => h) (Or.inl ⟨by rfl, ?hy58⟩) (by assumption) ?_
      case hy58 => (intro w hSw; (try dsimp only at hSw); go_simp; try (with_reducible rfl))
      (try simp only [Act.put, qa_, qb_, qc_])
      refine wpAnyH_take (i := 1) (oi := ⟨some 76, _, _, _, _, _⟩) (v := ?v59) rfl (by kernel_rfl) (by kernel_rfl) (by kernel_rfl) (fun _ _ _ h => h) (Or.inl ⟨by rfl, ?hy59⟩) (by assumption) ?_
      case hy59 => (intro w hSw; (try dsimp only at hSw); go_simp; try (with_reducible rfl))
      (try simp only [Act.put, qa_, qb_, qc_])
      refine wpAnyH_take (i := 2) (oi := ⟨some 77, _, _, _, _, _⟩) (v := ?v60) rfl (by kernel_rfl) (by kernel_rfl) (by kernel_rfl) (fun _ _ _ h => h) (Or.inl ⟨by rfl, ?hy60⟩) (by assumption) ?_
      case hy60 => (intro w hSw; (try dsimp only at hSw); go_simp; try (with_reducible rfl))
      (try simp only [Act.put, qa_, qb_, qc_])
      refine wpAnyH_take (i := 3) (oi := ⟨some 78, _, _, _, _, _⟩) (v := ?v61) rfl (by kernel_rfl) (by kernel_rfl) (by kernel_rfl) (fun _ _ _ h => h) (Or.inl ⟨by rfl, ?hy61⟩) (by assumption) ?_
      case hy61 => (intro w hSw; (try dsimp only at hSw); go_simp; try (with_reducible rfl))
      (try simp only [Act.put, qa_, qb_, qc_])
      refine wpAnyH_take (i := 4) (oi := ⟨some 79, _, _, _, _, _⟩) (v := ?v62) rfl (by kernel_rfl) (by kernel_rfl) (by kernel_rfl) (fun _ _ _ h => h) (Or.inl ⟨by rfl, ?hy62⟩) (by assumption) ?_
      case hy62 => (intro w hSw; (try dsimp only at hSw); go_simp; try (with_reducible rfl))
      (try simp only [Act.put, qa_, qb_, qc_])
      refine wpAnyH_ready (rs := [5]) (by kernel_rfl) (by simp) ?_
      refine AllReadyH.cons rfl (fun K hK => ?_) ?_
      · go_simp
        go_at_call 49
        refine (s_NodeOk (tNode.reach (tNode.reach hRk hB) ?hBn) hza).mono ?_
        case hBn => exact (belx)
        rintro e w2 ⟨rfl, hb2⟩
        rw [HND.out]
        have hB2 : Below w1.heap.size w1 w2 := bel_trans hB (bel_trans (belx) hb2)
        have v0 : w2.cell? ⟨b', off + j * 7, none⟩ = some (.int .i64 (j : Int)) := cell_at hB2 hb h0
        have v1 : w2.cell? ⟨b', off + j * 7 + 1, none⟩ = some (.int .i64 y1) := cell_at hB2 hb h1
        have v2 : w2.cell? ⟨b', off + j * 7 + 2, none⟩ = some (.slice B2 m2 d2) := cell_at hB2 hb h2
        have v3 : w2.cell? ⟨b', off + j * 7 + 3, none⟩ = some (.slice B3 m3 d3) := cell_at hB2 hb h3
        have v4 : w2.cell? ⟨b', off + j * 7 + 4, none⟩ = some (.slice B4 m4 d4) := cell_at hB2 hb h4
        have v5 : w2.cell? ⟨b', off + j * 7 + 5, none⟩ = some (.slice B5 m5 d5) := cell_at hB2 hb h5
        have v6 : w2.cell? ⟨b', off + j * 7 + 6, none⟩ = some (.slice B6 m6 d6) := cell_at hB2 hb h6
        have v7 : w2.cell? ⟨w.heap.size, 3, none⟩ = some (.slice (some ⟨b', off, none⟩) 8 c3) := (X1.below hB2 X1.size).cell 3
        have v8 : w2.cell? ⟨gs, os + j, none⟩ = some (.int .i64 y1) := cell_at hB2 hgs hz8
        go_wp2_with fail
        refine hK.out _ _ (by exact ⟨v0, v1, v2, v3, v4, v5, v6, v7, v8⟩) (fun hHeld => ?_)
        clear hK K
        (try simp only [Act.put, qa_, qb_, qc_])
        refine wpAnyH_take (i := 6) (oi := ⟨some 81, _, _, _, _, _⟩) (v := ?v63) rfl (by kernel_rfl) (by kernel_rfl) (by kernel_rfl) (fun _ _ _ h => h) (Or.inl ⟨by rfl, ?hy63⟩) (by assumption) ?_
        case hy63 => (intro w hSw; (try dsimp only at hSw); go_simp; try (with_reducible rfl))
        (try simp only [Act.put, qa_, qb_, qc_])
        refine wpAnyH_take (i := 7) (oi := ⟨some 82, _, _, _, _, _⟩) (v := ?v64) rfl (by kernel_rfl) (by kernel_rfl) (by kernel_rfl) (fun _ _ _ h => h) (Or.inl ⟨by rfl, ?hy64⟩) (by assumption) ?_
        case hy64 => (intro w hSw; (try dsimp only at hSw); go_simp; try (with_reducible rfl))
        (try simp only [Act.put, qa_, qb_, qc_])
        refine wpAnyH_take (i := 8) (oi := ⟨some 83, _, _, _, _, _⟩) (v := ?v65) rfl (by kernel_rfl) (by kernel_rfl) (by kernel_rfl) (fun _ _ _ h => h) (Or.inl ⟨by rfl, ?hy65⟩) (by assumption) ?_
        case hy65 => (intro w hSw; (try dsimp only at hSw); go_simp; try (with_reducible rfl))
        (try simp only [Act.put, qa_, qb_, qc_])
        refine wpAnyH_take (i := 9) (oi := ⟨some 84, _, _, _, _, _⟩) (v := ?v66) rfl (by kernel_rfl) (by kernel_rfl) (by kernel_rfl) (fun _ _ _ h => h) (Or.inl ⟨by rfl, ?hy66⟩) (by assumption) ?_
        case hy66 => (intro w hSw; (try dsimp only at hSw); go_simp; try (with_reducible rfl))
        (try simp only [Act.put, qa_, qb_, qc_])
        refine wpAnyH_take (i := 10) (oi := ⟨some 85, _, _, _, _, _⟩) (v := ?v67) rfl (by kernel_rfl) (by kernel_rfl) (by kernel_rfl) (fun _ _ _ h => h) (Or.inl ⟨by rfl, ?hy67⟩) (by assumption) ?_
        case hy67 => (intro w hSw; (try dsimp only at hSw); go_simp; try (with_reducible rfl))
        (try simp only [Act.put, qa_, qb_, qc_])
        refine wpAnyH_take (i := 11) (oi := ⟨some 86, _, _, _, _, _⟩) (v := ?v68) rfl (by kernel_rfl) (by kernel_rfl) (by kernel_rfl) (fun _ _ _ h => h) (Or.inl ⟨by rfl, ?hy68⟩) (by assumption) ?_
        case hy68 => (intro w hSw; (try dsimp only at hSw); go_simp; try (with_reducible rfl))
        (try simp only [Act.put, qa_, qb_, qc_])
        refine wpAnyH_take (i := 12) (oi := ⟨some 87, _, _, _, _, _⟩) (v := ?v69) rfl (by kernel_rfl) (by kernel_rfl) (by kernel_rfl) (fun _ _ _ h => h) (Or.inl ⟨by rfl, ?hy69⟩) (by assumption) ?_
        case hy69 => (intro w hSw; (try dsimp only at hSw); go_simp; try (with_reducible rfl))
        (try simp only [Act.put, qa_, qb_, qc_])
        refine wpAnyH_take (i := 13) (oi := ⟨some 88, _, _, _, _, _⟩) (v := ?v70) rfl (by kernel_rfl) (by kernel_rfl) (by kernel_rfl) (fun _ _ _ h => h) (Or.inl ⟨by rfl, ?hy70⟩) (by assumption) ?_
        case hy70 => (intro w hSw; (try dsimp only at hSw); go_simp; try (with_reducible rfl))
        (try simp only [Act.put, qa_, qb_, qc_])
        refine wpAnyH_take (i := 14) (oi := ⟨some 89, _, _, _, _, _⟩) (v := ?v71) rfl (by kernel_rfl) (by kernel_rfl) (by kernel_rfl) (fun _ _ _ h => h) (Or.inl ⟨by rfl, ?hy71⟩) (by assumption) ?_
        case hy71 => (intro w hSw; (try dsimp only at hSw); go_simp; try (with_reducible rfl))
        (try simp only [Act.put, qa_, qb_, qc_])
        refine wpAnyH_take (i := 15) (oi := ⟨some 90, _, _, _, _, _⟩) (v := ?v72) rfl (by kernel_rfl) (by kernel_rfl) (by kernel_rfl) (fun _ _ _ h => h) (Or.inl ⟨by rfl, ?hy72⟩) (by assumption) ?_
        case hy72 => (intro w hSw; (try dsimp only at hSw); go_simp; try (with_reducible rfl))
        (try simp only [Act.put, qa_, qb_, qc_])
        refine wpAnyH_take (i := 16) (oi := ⟨some 91, _, _, _, _, _⟩) (v := ?v73) rfl (by kernel_rfl) (by kernel_rfl) (by kernel_rfl) (fun _ _ _ h => h) (Or.inl ⟨by rfl, ?hy73⟩) (by assumption) ?_
        case hy73 => (intro w hSw; (try dsimp only at hSw); go_simp; try (with_reducible rfl))
        (try simp only [Act.put, qa_, qb_, qc_])
        refine wpAnyH_take (i := 17) (oi := ⟨some 92, _, _, _, _, _⟩) (v := ?v74) rfl (by kernel_rfl) (by kernel_rfl) (by kernel_rfl) (fun _ _ _ h => h) (Or.inl ⟨by rfl, ?hy74⟩) (by assumption) ?_
        case hy74 => (intro w hSw; (try dsimp only at hSw); go_simp; try (with_reducible rfl))
        (try simp only [Act.put, qa_, qb_, qc_])
        refine wpAnyH_take (i := 18) (oi := ⟨some 93, _, _, _, _, _⟩) (v := ?v75) rfl (by kernel_rfl) (by kernel_rfl) (by kernel_rfl) (fun _ _ _ h => h) (Or.inl ⟨by rfl, ?hy75⟩) (by assumption) ?_
        case hy75 => (intro w hSw; (try dsimp only at hSw); go_simp; try (with_reducible rfl))
        (try simp only [Act.put, qa_, qb_, qc_])
        refine wpAnyH_take (i := 19) (oi := ⟨some 94, _, _, _, _, _⟩) (v := ?v76) rfl (by kernel_rfl) (by kernel_rfl) (by kernel_rfl) (fun _ _ _ h => h) (Or.inl ⟨by rfl, ?hy76⟩) (by assumption) ?_
        case hy76 => (intro w hSw; (try dsimp only at hSw); go_simp; try (with_reducible rfl))
        (try simp only [Act.put, qa_, qb_, qc_])
        refine wpAnyH_take (i := 20) (oi := ⟨some 95, _, _, _, _, _⟩) (v := ?v77) rfl (by kernel_rfl) (by kernel_rfl) (by kernel_rfl) (fun _ _ _ h => h) (Or.inl ⟨by rfl, ?hy77⟩) (by assumption) ?_
        case hy77 => (intro w hSw; (try dsimp only at hSw); go_simp; try (with_reducible rfl))
        (try simp only [Act.put, qa_, qb_, qc_])
        refine wpAnyH_take (i := 21) (oi := ⟨some 96, _, _, _, _, _⟩) (v := ?v78) rfl (by kernel_rfl) (by kernel_rfl) (by kernel_rfl) (fun _ _ _ h => h) (Or.inl ⟨by rfl, ?hy78⟩) (by assumption) ?_
        case hy78 => (intro w hSw; (try dsimp only at hSw); go_simp; try (with_reducible rfl))
        (try simp only [Act.put, qa_, qb_, qc_])
        refine wpAnyH_take (i := 22) (oi := ⟨some 97, _, _, _, _, _⟩) (v := ?v79) rfl (by kernel_rfl) (by kernel_rfl) (by kernel_rfl) (fun _ _ _ h => h) (Or.inl ⟨by rfl, ?hy79⟩) (by assumption) ?_
        case hy79 => (intro w hSw; (try dsimp only at hSw); go_simp; try (with_reducible rfl))
        (try simp only [Act.put, qa_, qb_, qc_])
        refine wpAnyH_take (i := 23) (oi := ⟨some 98, _, _, _, _, _⟩) (v := ?v80) rfl (by kernel_rfl) (by kernel_rfl) (by kernel_rfl) (fun _ _ _ h => h) (Or.inl ⟨by rfl, ?hy80⟩) (by assumption) ?_
        case hy80 => (intro w hSw; (try dsimp only at hSw); go_simp; try (with_reducible rfl))
        (try simp only [Act.put, qa_, qb_, qc_])
        refine wpAnyH_take (i := 24) (oi := ⟨some 99, _, _, _, _, _⟩) (v := ?v81) rfl (by kernel_rfl) (by kernel_rfl) (by kernel_rfl) (fun _ _ _ h => h) (Or.inl ⟨by rfl, ?hy81⟩) (by assumption) ?_
        case hy81 => (intro w hSw; (try dsimp only at hSw); go_simp; try (with_reducible rfl))
        (try simp only [Act.put, qa_, qb_, qc_])
        refine wpAnyH_take (i := 25) (oi := ⟨some 100, _, _, _, _, _⟩) (v := ?v82) rfl (by kernel_rfl) (by kernel_rfl) (by kernel_rfl) (fun _ _ _ h => h) (Or.inl ⟨by rfl, ?hy82⟩) (by assumption) ?_
        case hy82 => (intro w hSw; (try dsimp only at hSw); go_simp; try (with_reducible rfl))
        (try simp only [Act.put, qa_, qb_, qc_])
        refine wpAnyH_take (i := 26) (oi := ⟨some 101, _, _, _, _, _⟩) (v := ?v83) rfl (by kernel_rfl) (by kernel_rfl) (by kernel_rfl) (fun _ _ _ h => h) (Or.inl ⟨by rfl, ?hy83⟩) (by assumption) ?_
        case hy83 => (intro w hSw; (try dsimp only at hSw); go_simp; try (with_reducible rfl))
        (try simp only [Act.put, qa_, qb_, qc_])
        refine wpAnyH_take (i := 27) (oi := ⟨some 102, _, _, _, _, _⟩) (v := ?v84) rfl (by kernel_rfl) (by kernel_rfl) (by kernel_rfl) (fun _ _ _ h => h) (Or.inl ⟨by rfl, ?hy84⟩) (by assumption) ?_
        case hy84 => (intro w hSw; (try dsimp only at hSw); go_simp; try (with_reducible rfl))
        (try simp only [Act.put, qa_, qb_, qc_])
        refine wpAnyH_take (i := 28) (oi := ⟨some 103, _, _, _, _, _⟩) (v := ?v85) rfl (by kernel_rfl) (by kernel_rfl) (by kernel_rfl) (fun _ _ _ h => h) (Or.inl ⟨by rfl, ?hy85⟩) (by assumption) ?_
        case hy85 => (intro w hSw; (try dsimp only at hSw); go_simp; try (with_reducible rfl))
        (try simp only [Act.put, qa_, qb_, qc_])
        refine wpAnyH_take (i := 29) (oi := ⟨some 104, _, _, _, _, _⟩) (v := ?v86) rfl (by kernel_rfl) (by kernel_rfl) (by kernel_rfl) (fun _ _ _ h => h) (Or.inl ⟨by rfl, ?hy86⟩) (by assumption) ?_
        case hy86 => (intro w hSw; (try dsimp only at hSw); go_simp; try (with_reducible rfl))
        (try simp only [Act.put, qa_, qb_, qc_])
        refine wpAnyH_done (by kernel_rfl) ?_ _
        go_wp2
        go_roundw
        case rel => exact ⟨j + 1, by omega, by go_num, hB2, Ix.succ HG.out HA.out HAT.out⟩
        case measure => simp [intOf]; omega
      exact AllReadyH.nil
    · obtain rfl : j = 8 := by omega
      have HN := Lib.hid (show NdsOk x1 nds from ⟨E3.out, Ix.all HG.out (by rw [E3.out]; exact Nat.le_refl _)⟩)
      clear X HG
      have k4 : wr.cell? ⟨w.heap.size, 4, none⟩ = some (.slice A4 n4 c4) := by have X := X1.below hB X1.size; exact X.cell 4
      go_wp2_with fail
      clear kk hlt
      go_loopw [6] (fun i wr => ∃ j : Nat, j ≤ n4 ∧ i = .int .i64 j ∧ Below w1.heap.size w1 wr ∧ ∀ m ∈ bag.take j, MlOk m) (fun i _ => n4 - (intOf i).toNat)
      case atStart => exact ⟨0, by omega, rfl, hB, al0⟩
      case round =>
        clear k4 hB
        obtain ⟨j, hj, rfl, hB, hG⟩ := hrel
        have HG := Lib.hid hG
        clear hG
        have X := X1.below hB X1.size
        have kk : wr.cell? ⟨w.heap.size, 4, none⟩ = some (.slice A4 n4 c4) := X.cell 4
        by_cases hlt : j < n4
        · obtain ⟨a, b', off, es, hl2, rfl, hb, hes, hR⟩ := rowR_at (K := 2) hM1 hlt rfl
          have HA := Lib.hid hl2
          obtain ⟨B1, m1, d1, rfl, -, -, -, hlm, -⟩ := openMail hR
          obtain ⟨y, hy⟩ : ∃ y, a.1 = y := ⟨_, rfl⟩
          rw [hy] at hes
          have HY := Lib.hid hy
          have HLM := Lib.hid hlm
          have u0 : wr.cell? ⟨b', off + j * 2, none⟩ = some (.int .i64 y) := cell_at hB hb (hes 0 (by omega))
          have u1 : wr.cell? ⟨b', off + j * 2 + 1, none⟩ = some (.slice B1 m1 d1) := cell_at hB hb (hes 1 (by omega))
          have i1 : (j : Int) < (n4 : Int) := by omega
          clear hes hR hl2 hy hlm
          by_cases g1 : y < 0
          · obtain rfl := HF.out (fun h => by have := (h.2.2.2.1 a (alMem HA.out)).1.1; have := HY.out; omega)
            clear HT HF
            go_wp2
            go_ret
            exact ⟨rfl, bel_trans hB1 hB⟩
          by_cases g2 : 8 ≤ y
          · obtain rfl := HF.out (fun h => by have := (h.2.2.2.1 a (alMem HA.out)).1.2; have := HY.out; omega)
            clear HT HF
            go_wp2
            go_ret
            exact ⟨rfl, bel_trans hB1 hB⟩
          by_cases g3 : m1 = 80
          rotate_left
          · obtain rfl := HF.out (fun h => g3 (by rw [← HLM.out]; exact (h.2.2.2.1 a (alMem HA.out)).2))
            have HLC := Lib.hid g3
            clear HT HF g3
            go_wp2_with fail
            refine (s_CellOk_f _ _ _ _ HLC.out).mono ?_
            rintro e w2 ⟨rfl, hb2⟩
            have hB2 : Below w1.heap.size w1 w2 := bel_trans hB (bel_trans (belx) hb2)
            go_wp2
            go_ret
            exact ⟨rfl, bel_trans hB1 hB2⟩
          have HLC := Lib.hid g3
          have HAT := Lib.hid (show MlOk a from ⟨⟨by have := HY.out; omega, by have := HY.out; omega⟩, by rw [HLM.out]; exact g3⟩)
          clear g3
          go_wp2_with fail
          refine (s_CellOk_t _ _ _ _ HLC.out).mono ?_
          rintro e w2 ⟨rfl, hb2⟩
          have hB2 : Below w1.heap.size w1 w2 := bel_trans hB (bel_trans (belx) hb2)
          go_wp2
          go_roundw
          case rel => first | exact ⟨j + 1, by omega, by go_num, hB2, alS HG.out HA.out HAT.out⟩ | ((repeat apply Exists.intro); exact ⟨⟨j + 1, by omega, by go_num, hB2, alS HG.out HA.out HAT.out⟩, rfl⟩)
          case measure => simp [intOf]; omega
        · obtain rfl : n4 = j := by omega
          have HM := Lib.hid (alE HG.out (Nat.le_of_eq E4.out))
          clear X HG
          have k5 : wr.cell? ⟨w.heap.size, 5, none⟩ = some (.slice A5 n5 c5) := by have X := X1.below hB X1.size; exact X.cell 5
          go_wp2_with fail
          clear kk hlt
          go_loopw [7] (fun i wr => ∃ j : Nat, j ≤ n5 ∧ i = .int .i64 j ∧ Below w1.heap.size w1 wr ∧ SnK snt j) (fun i _ => n5 - (intOf i).toNat)
          case atStart => exact ⟨0, by omega, rfl, hB, SnK.zero⟩
          case round =>
            clear k5 hB
            obtain ⟨j, hj, rfl, hB, hG⟩ := hrel
            have HG := Lib.hid hG
            clear hG
            have X := X1.below hB X1.size
            have kk : wr.cell? ⟨w.heap.size, 5, none⟩ = some (.slice A5 n5 c5) := X.cell 5
            by_cases hlt : j < n5
            · obtain ⟨a, b', off, es, hl2, rfl, hb, hes, hR⟩ := rowR_at (K := 3) hS1 hlt rfl
              have HA := Lib.hid hl2
              have hnc5 := (rowR_len hS1).2.1
              have hcc5 := (rowR_len hS1).2.2
              obtain ⟨B2, m2, d2, rfl, -, -, -, -, hlm, -⟩ := openSent hR
              obtain ⟨y, hy⟩ : ∃ y, a.1 = y := ⟨_, rfl⟩
              obtain ⟨z, hz⟩ : ∃ z, a.2.1 = z := ⟨_, rfl⟩
              rw [hy, hz] at hes
              have HY := Lib.hid hy
              have HZ := Lib.hid hz
              have HLM := Lib.hid hlm
              have u0 : wr.cell? ⟨b', off + j * 3, none⟩ = some (.int .i64 y) := cell_at hB hb (hes 0 (by omega))
              have u1 : wr.cell? ⟨b', off + j * 3 + 1, none⟩ = some (.int .i64 z) := cell_at hB hb (hes 1 (by omega))
              have u2 : wr.cell? ⟨b', off + j * 3 + 2, none⟩ = some (.slice B2 m2 d2) := cell_at hB hb (hes 2 (by omega))
              have i1 : (j : Int) < (n5 : Int) := by omega
              have i2 : j ≤ c5 := by omega
              clear hes hR hl2 hy hz hlm
              by_cases g1 : y < 0
              · obtain rfl := HF.out (fun h => by have := (h.2.2.2.2.2.1 a (alMem HA.out)).1.1; have := HY.out; omega)
                have dd0 : decide (y < 0) = true := by first | exact decide_eq_true g1 | (simp; omega)
                clear HT HF
                as_aux_lemma =>
                  go_wp2_with fail
                  have Y0 : Box (wr.alloc (.cells #[.int .i64 y, .int .i64 z, .slice B2 m2 d2] 78)) wr.heap.size 78 #[.int .i64 y, .int .i64 z, .slice B2 m2 d2] := Box.new _ _ _
                  have Z0 := X.alloc (.cells #[.int .i64 y, .int .i64 z, .slice B2 m2 d2] 78)
                  refine wp_region_held_drew (S := (fun w' => w'.cell? ⟨wr.heap.size, 0, none⟩ = some (.int .i64 y) ∧ w'.cell? ⟨wr.heap.size, 1, none⟩ = some (.int .i64 z) ∧ w'.cell? ⟨wr.heap.size, 2, none⟩ = some (.slice B2 m2 d2) ∧ w'.cell? ⟨w.heap.size, 5, none⟩ = some (.slice (some ⟨b', off, none⟩) n5 c5))) (by kernel_rfl) (by exact ⟨Y0.cell 0, Y0.cell 1, Y0.cell 2, Z0.cell 5⟩) (fun hHeld => ?_)
                  refine wpAnyH_take (i := 0) (oi := ⟨some 150, _, _, _, _, _⟩) (v := ?v87) rfl (by kernel_rfl) (by kernel_rfl) (by kernel_rfl) (fun _ _ _ h => h) (Or.inl ⟨by rfl, ?hy87⟩) (by assumption) ?_
                  case hy87 => (intro w hSw; (try dsimp only at hSw); go_simp; try (with_reducible rfl))
                  (try simp only [Act.put, qa_, qb_, qc_])
                  refine wpAnyH_take (i := 1) (oi := ⟨some 151, _, _, _, _, _⟩) (v := ?v88) rfl (by kernel_rfl) (by kernel_rfl) (by kernel_rfl) (fun _ _ _ h => h) (Or.inl ⟨by rfl, ?hy88⟩) (by assumption) ?_
                  case hy88 => (intro w hSw; (try dsimp only at hSw); go_simp; try (with_reducible rfl))
                  (try simp only [Act.put, qa_, qb_, qc_])
                  refine wpAnyH_take (i := 2) (oi := ⟨some 152, _, _, _, _, _⟩) (v := ?v89) rfl (by kernel_rfl) (by kernel_rfl) (by kernel_rfl) (fun _ _ _ h => h) (Or.inl ⟨by rfl, ?hy89⟩) (by assumption) ?_
                  case hy89 => (intro w hSw; (try dsimp only at hSw); go_simp; try (with_reducible rfl))
                  (try simp only [Act.put, qa_, qb_, qc_])
                  refine wpAnyH_take (i := 3) (oi := ⟨some 153, _, _, _, _, _⟩) (v := ?v90) rfl (by kernel_rfl) (by kernel_rfl) (by kernel_rfl) (fun _ _ _ h => h) (Or.inl ⟨by rfl, ?hy90⟩) (by assumption) ?_
                  case hy90 => (intro w hSw; (try dsimp only at hSw); go_simp; try (with_reducible rfl))
                  (try simp only [Act.put, qa_, qb_, qc_])
                  refine wpAnyH_take (i := 4) (oi := ⟨some 154, _, _, _, _, _⟩) (v := undef) rfl (by kernel_rfl) (by kernel_rfl) (by kernel_rfl) (fun _ _ _ h => h) (Or.inr ⟨by rfl, rfl⟩) (by assumption) ?_
                  (try simp only [Act.put, qa_, qb_, qc_])
                  refine wpAnyH_take (i := 5) (oi := ⟨some 155, _, _, _, _, _⟩) (v := undef) rfl (by kernel_rfl) (by kernel_rfl) (by kernel_rfl) (fun _ _ _ h => h) (Or.inr ⟨by rfl, rfl⟩) (by assumption) ?_
                  (try simp only [Act.put, qa_, qb_, qc_])
                  refine wpAnyH_take (i := 6) (oi := ⟨some 156, _, _, _, _, _⟩) (v := undef) rfl (by kernel_rfl) (by kernel_rfl) (by kernel_rfl) (fun _ _ _ h => h) (Or.inr ⟨by rfl, rfl⟩) (by assumption) ?_
                  (try simp only [Act.put, qa_, qb_, qc_])
                  refine wpAnyH_take (i := 7) (oi := ⟨some 157, _, _, _, _, _⟩) (v := ?v91) rfl (by kernel_rfl) (by kernel_rfl) (by kernel_rfl) (fun _ _ _ h => h) (Or.inl ⟨by rfl, ?hy91⟩) (by assumption) ?_
                  case hy91 => (intro w hSw; (try dsimp only at hSw); go_simp; try (with_reducible rfl))
                  (try simp only [Act.put, qa_, qb_, qc_])
                  refine wpAnyH_take (i := 8) (oi := ⟨some 158, _, _, _, _, _⟩) (v := ?v92) rfl (by kernel_rfl) (by kernel_rfl) (by kernel_rfl) (fun _ _ _ h => h) (Or.inl ⟨by rfl, ?hy92⟩) (by assumption) ?_
                  case hy92 => (intro w hSw; (try dsimp only at hSw); go_simp; try (with_reducible rfl))
                  (try simp only [Act.put, qa_, qb_, qc_])
                  refine wpAnyH_take (i := 9) (oi := ⟨some 159, _, _, _, _, _⟩) (v := undef) rfl (by kernel_rfl) (by kernel_rfl) (by kernel_rfl) (fun _ _ _ h => h) (Or.inr ⟨by rfl, rfl⟩) (by assumption) ?_
                  (try simp only [Act.put, qa_, qb_, qc_])
                  refine wpAnyH_take (i := 10) (oi := ⟨some 160, _, _, _, _, _⟩) (v := undef) rfl (by kernel_rfl) (by kernel_rfl) (by kernel_rfl) (fun _ _ _ h => h) (Or.inr ⟨by rfl, rfl⟩) (by assumption) ?_
                  (try simp only [Act.put, qa_, qb_, qc_])
                  refine wpAnyH_take (i := 11) (oi := ⟨some 161, _, _, _, _, _⟩) (v := undef) rfl (by kernel_rfl) (by kernel_rfl) (by kernel_rfl) (fun _ _ _ h => h) (Or.inr ⟨by rfl, rfl⟩) (by assumption) ?_
                  (try simp only [Act.put, qa_, qb_, qc_])
                  refine wpAnyH_take (i := 12) (oi := ⟨some 162, _, _, _, _, _⟩) (v := ?v93) rfl (by kernel_rfl) (by kernel_rfl) (by kernel_rfl) (fun _ _ _ h => h) (Or.inl ⟨by rfl, ?hy93⟩) (by assumption) ?_
                  case hy93 => (intro w hSw; (try dsimp only at hSw); go_simp; try (with_reducible rfl))
                  (try simp only [Act.put, qa_, qb_, qc_])
                  refine wpAnyH_take (i := 13) (oi := ⟨some 163, _, _, _, _, _⟩) (v := ?v94) rfl (by kernel_rfl) (by kernel_rfl) (by kernel_rfl) (fun _ _ _ h => h) (Or.inl ⟨by rfl, ?hy94⟩) (by assumption) ?_
                  case hy94 => (intro w hSw; (try dsimp only at hSw); go_simp; try (with_reducible rfl))
                  (try simp only [Act.put, qa_, qb_, qc_])
                  refine wpAnyH_take (i := 14) (oi := ⟨some 164, _, _, _, _, _⟩) (v := undef) rfl (by kernel_rfl) (by kernel_rfl) (by kernel_rfl) (fun _ _ _ h => h) (Or.inr ⟨by rfl, rfl⟩) (by assumption) ?_
                  (try simp only [Act.put, qa_, qb_, qc_])
                  refine wpAnyH_take (i := 15) (oi := ⟨some 165, _, _, _, _, _⟩) (v := undef) rfl (by kernel_rfl) (by kernel_rfl) (by kernel_rfl) (fun _ _ _ h => h) (Or.inr ⟨by rfl, rfl⟩) (by assumption) ?_
                  (try simp only [Act.put, qa_, qb_, qc_])
                  refine wpAnyH_take (i := 16) (oi := ⟨some 166, _, _, _, _, _⟩) (v := undef) rfl (by kernel_rfl) (by kernel_rfl) (by kernel_rfl) (fun _ _ _ h => h) (Or.inr ⟨by rfl, rfl⟩) (by assumption) ?_
                  (try simp only [Act.put, qa_, qb_, qc_])
                  refine wpAnyH_take (i := 17) (oi := ⟨some 167, _, _, _, _, _⟩) (v := ?v95) rfl (by kernel_rfl) (by kernel_rfl) (by kernel_rfl) (fun _ _ _ h => h) (Or.inl ⟨by rfl, ?hy95⟩) (by assumption) ?_
                  case hy95 => (intro w hSw; (try dsimp only at hSw); go_simp; try (with_reducible rfl))
                  (try simp only [Act.put, qa_, qb_, qc_])
                  refine wpAnyH_take (i := 18) (oi := ⟨some 168, _, _, _, _, _⟩) (v := ?v96) rfl (by kernel_rfl) (by kernel_rfl) (by kernel_rfl) (fun _ _ _ h => h) (Or.inl ⟨by rfl, ?hy96⟩) (by assumption) ?_
                  case hy96 => (intro w hSw; (try dsimp only at hSw); go_simp; try (with_reducible rfl))
                  (try simp only [Act.put, qa_, qb_, qc_])
                  refine wpAnyH_take (i := 19) (oi := ⟨some 169, _, _, _, _, _⟩) (v := undef) rfl (by kernel_rfl) (by kernel_rfl) (by kernel_rfl) (fun _ _ _ h => h) (Or.inr ⟨by rfl, rfl⟩) (by assumption) ?_
                  (try simp only [Act.put, qa_, qb_, qc_])
                  refine wpAnyH_take (i := 20) (oi := ⟨some 170, _, _, _, _, _⟩) (v := undef) rfl (by kernel_rfl) (by kernel_rfl) (by kernel_rfl) (fun _ _ _ h => h) (Or.inr ⟨by rfl, rfl⟩) (by assumption) ?_
                  (try simp only [Act.put, qa_, qb_, qc_])
                  refine wpAnyH_take (i := 21) (oi := ⟨some 171, _, _, _, _, _⟩) (v := undef) rfl (by kernel_rfl) (by kernel_rfl) (by kernel_rfl) (fun _ _ _ h => h) (Or.inr ⟨by rfl, rfl⟩) (by assumption) ?_
                  (try simp only [Act.put, qa_, qb_, qc_])
                  refine wpAnyH_take (i := 22) (oi := ⟨some 172, _, _, _, _, _⟩) (v := undef) rfl (by kernel_rfl) (by kernel_rfl) (by kernel_rfl) (fun _ _ _ h => h) (Or.inr ⟨by rfl, rfl⟩) (by assumption) ?_
                  (try simp only [Act.put, qa_, qb_, qc_])
                  refine wpAnyH_take (i := 23) (oi := ⟨some 173, _, _, _, _, _⟩) (v := ?v97) rfl (by kernel_rfl) (by kernel_rfl) (by kernel_rfl) (fun _ _ _ h => h) (Or.inl ⟨by rfl, ?hy97⟩) (by assumption) ?_
                  case hy97 => (intro w hSw; (try dsimp only at hSw); go_simp; try (with_reducible rfl))
                  (try simp only [Act.put, qa_, qb_, qc_])
                  refine wpAnyH_take (i := 24) (oi := ⟨some 174, _, _, _, _, _⟩) (v := ?v98) rfl (by kernel_rfl) (by kernel_rfl) (by kernel_rfl) (fun _ _ _ h => h) (Or.inl ⟨by rfl, ?hy98⟩) (by assumption) ?_
                  case hy98 => (intro w hSw; (try dsimp only at hSw); go_simp; try (with_reducible rfl))
                  (try simp only [Act.put, qa_, qb_, qc_])
                  refine wpAnyH_take (i := 25) (oi := ⟨some 175, _, _, _, _, _⟩) (v := undef) rfl (by kernel_rfl) (by kernel_rfl) (by kernel_rfl) (fun _ _ _ h => h) (Or.inr ⟨by rfl, rfl⟩) (by assumption) ?_
                  (try simp only [Act.put, qa_, qb_, qc_])
                  refine wpAnyH_take (i := 26) (oi := ⟨some 176, _, _, _, _, _⟩) (v := undef) rfl (by kernel_rfl) (by kernel_rfl) (by kernel_rfl) (fun _ _ _ h => h) (Or.inr ⟨by rfl, rfl⟩) (by assumption) ?_
                  (try simp only [Act.put, qa_, qb_, qc_])
                  refine wpAnyH_take (i := 27) (oi := ⟨some 177, _, _, _, _, _⟩) (v := undef) rfl (by kernel_rfl) (by kernel_rfl) (by kernel_rfl) (fun _ _ _ h => h) (Or.inr ⟨by rfl, rfl⟩) (by assumption) ?_
                  (try simp only [Act.put, qa_, qb_, qc_])
                  refine wpAnyH_take (i := 28) (oi := ⟨some 178, _, _, _, _, _⟩) (v := undef) rfl (by kernel_rfl) (by kernel_rfl) (by kernel_rfl) (fun _ _ _ h => h) (Or.inr ⟨by rfl, rfl⟩) (by assumption) ?_
                  (try simp only [Act.put, qa_, qb_, qc_])
                  refine wpAnyH_take (i := 29) (oi := ⟨some 179, _, _, _, _, _⟩) (v := undef) rfl (by kernel_rfl) (by kernel_rfl) (by kernel_rfl) (fun _ _ _ h => h) (Or.inr ⟨by rfl, rfl⟩) (by assumption) ?_
                  (try simp only [Act.put, qa_, qb_, qc_])
                  refine wpAnyH_take (i := 30) (oi := ⟨some 180, _, _, _, _, _⟩) (v := undef) rfl (by kernel_rfl) (by kernel_rfl) (by kernel_rfl) (fun _ _ _ h => h) (Or.inr ⟨by rfl, rfl⟩) (by assumption) ?_
                  (try simp only [Act.put, qa_, qb_, qc_])
                  refine wpAnyH_take (i := 31) (oi := ⟨some 181, _, _, _, _, _⟩) (v := undef) rfl (by kernel_rfl) (by kernel_rfl) (by kernel_rfl) (fun _ _ _ h => h) (Or.inr ⟨by rfl, rfl⟩) (by assumption) ?_
                  (try simp only [Act.put, qa_, qb_, qc_])
                  refine wpAnyH_take (i := 32) (oi := ⟨some 182, _, _, _, _, _⟩) (v := undef) rfl (by kernel_rfl) (by kernel_rfl) (by kernel_rfl) (fun _ _ _ h => h) (Or.inr ⟨by rfl, rfl⟩) (by assumption) ?_
                  (try simp only [Act.put, qa_, qb_, qc_])
                  refine wpAnyH_take (i := 33) (oi := ⟨some 183, _, _, _, _, _⟩) (v := ?v99) rfl (by kernel_rfl) (by kernel_rfl) (by kernel_rfl) (fun _ _ _ h => h) (Or.inl ⟨by rfl, ?hy99⟩) (by assumption) ?_
                  case hy99 => (intro w hSw; (try dsimp only at hSw); go_simp; try (with_reducible rfl))
                  (try simp only [Act.put, qa_, qb_, qc_])
                  refine wpAnyH_done (by kernel_rfl) ?_ _
                  go_wp2
                  go_ret
                  exact ⟨rfl, bel_trans hB1 (belx)⟩
              have dd0 : decide (y < 0) = false := by first | exact decide_eq_false g1 | (simp; omega)
              by_cases g2 : 255 < y
              · obtain rfl := HF.out (fun h => by have := (h.2.2.2.2.2.1 a (alMem HA.out)).1.2; have := HY.out; omega)
                have dd1 : decide (255 < y) = true := by first | exact decide_eq_true g2 | (simp; omega)
                clear HT HF
                as_aux_lemma =>
                  go_wp2_with fail
                  have Y0 : Box (wr.alloc (.cells #[.int .i64 y, .int .i64 z, .slice B2 m2 d2] 78)) wr.heap.size 78 #[.int .i64 y, .int .i64 z, .slice B2 m2 d2] := Box.new _ _ _
                  have Z0 := X.alloc (.cells #[.int .i64 y, .int .i64 z, .slice B2 m2 d2] 78)
                  refine wp_region_held_drew (S := (fun w' => w'.cell? ⟨wr.heap.size, 0, none⟩ = some (.int .i64 y) ∧ w'.cell? ⟨wr.heap.size, 1, none⟩ = some (.int .i64 z) ∧ w'.cell? ⟨wr.heap.size, 2, none⟩ = some (.slice B2 m2 d2) ∧ w'.cell? ⟨w.heap.size, 5, none⟩ = some (.slice (some ⟨b', off, none⟩) n5 c5))) (by kernel_rfl) (by exact ⟨Y0.cell 0, Y0.cell 1, Y0.cell 2, Z0.cell 5⟩) (fun hHeld => ?_)
                  refine wpAnyH_take (i := 0) (oi := ⟨some 150, _, _, _, _, _⟩) (v := ?v100) rfl (by kernel_rfl) (by kernel_rfl) (by kernel_rfl) (fun _ _ _ h => h) (Or.inl ⟨by rfl, ?hy100⟩) (by assumption) ?_
                  case hy100 => (intro w hSw; (try dsimp only at hSw); go_simp; try (with_reducible rfl))
                  (try simp only [Act.put, qa_, qb_, qc_])
                  refine wpAnyH_take (i := 1) (oi := ⟨some 151, _, _, _, _, _⟩) (v := ?v101) rfl (by kernel_rfl) (by kernel_rfl) (by kernel_rfl) (fun _ _ _ h => h) (Or.inl ⟨by rfl, ?hy101⟩) (by assumption) ?_
                  case hy101 => (intro w hSw; (try dsimp only at hSw); go_simp; try (with_reducible rfl))
                  (try simp only [Act.put, qa_, qb_, qc_])
                  refine wpAnyH_take (i := 2) (oi := ⟨some 152, _, _, _, _, _⟩) (v := ?v102) rfl (by kernel_rfl) (by kernel_rfl) (by kernel_rfl) (fun _ _ _ h => h) (Or.inl ⟨by rfl, ?hy102⟩) (by assumption) ?_
                  case hy102 => (intro w hSw; (try dsimp only at hSw); go_simp; try (with_reducible rfl))
                  (try simp only [Act.put, qa_, qb_, qc_])
                  refine wpAnyH_take (i := 3) (oi := ⟨some 153, _, _, _, _, _⟩) (v := ?v103) rfl (by kernel_rfl) (by kernel_rfl) (by kernel_rfl) (fun _ _ _ h => h) (Or.inl ⟨by rfl, ?hy103⟩) (by assumption) ?_
                  case hy103 => (intro w hSw; (try dsimp only at hSw); go_simp; try (with_reducible rfl))
                  (try simp only [Act.put, qa_, qb_, qc_])
                  refine wpAnyH_take (i := 4) (oi := ⟨some 154, _, _, _, _, _⟩) (v := ?v104) rfl (by kernel_rfl) (by kernel_rfl) (by kernel_rfl) (fun _ _ _ h => h) (Or.inl ⟨by rfl, ?hy104⟩) (by assumption) ?_
                  case hy104 => (intro w hSw; (try dsimp only at hSw); go_simp; try (with_reducible rfl))
                  (try simp only [Act.put, qa_, qb_, qc_])
                  refine wpAnyH_take (i := 5) (oi := ⟨some 155, _, _, _, _, _⟩) (v := ?v105) rfl (by kernel_rfl) (by kernel_rfl) (by kernel_rfl) (fun _ _ _ h => h) (Or.inl ⟨by rfl, ?hy105⟩) (by assumption) ?_
                  case hy105 => (intro w hSw; (try dsimp only at hSw); go_simp; try (with_reducible rfl))
                  (try simp only [Act.put, qa_, qb_, qc_])
                  refine wpAnyH_take (i := 6) (oi := ⟨some 156, _, _, _, _, _⟩) (v := ?v106) rfl (by kernel_rfl) (by kernel_rfl) (by kernel_rfl) (fun _ _ _ h => h) (Or.inl ⟨by rfl, ?hy106⟩) (by assumption) ?_
                  case hy106 => (intro w hSw; (try dsimp only at hSw); go_simp; try (with_reducible rfl))
                  (try simp only [Act.put, qa_, qb_, qc_])
                  refine wpAnyH_take (i := 7) (oi := ⟨some 157, _, _, _, _, _⟩) (v := ?v107) rfl (by kernel_rfl) (by kernel_rfl) (by kernel_rfl) (fun _ _ _ h => h) (Or.inl ⟨by rfl, ?hy107⟩) (by assumption) ?_
                  case hy107 => (intro w hSw; (try dsimp only at hSw); go_simp; try (with_reducible rfl))
                  (try simp only [Act.put, qa_, qb_, qc_])
                  refine wpAnyH_take (i := 8) (oi := ⟨some 158, _, _, _, _, _⟩) (v := ?v108) rfl (by kernel_rfl) (by kernel_rfl) (by kernel_rfl) (fun _ _ _ h => h) (Or.inl ⟨by rfl, ?hy108⟩) (by assumption) ?_
                  case hy108 => (intro w hSw; (try dsimp only at hSw); go_simp; try (with_reducible rfl))
                  (try simp only [Act.put, qa_, qb_, qc_])
                  refine wpAnyH_take (i := 9) (oi := ⟨some 159, _, _, _, _, _⟩) (v := undef) rfl (by kernel_rfl) (by kernel_rfl) (by kernel_rfl) (fun _ _ _ h => h) (Or.inr ⟨by rfl, rfl⟩) (by assumption) ?_
                  (try simp only [Act.put, qa_, qb_, qc_])
                  refine wpAnyH_take (i := 10) (oi := ⟨some 160, _, _, _, _, _⟩) (v := undef) rfl (by kernel_rfl) (by kernel_rfl) (by kernel_rfl) (fun _ _ _ h => h) (Or.inr ⟨by rfl, rfl⟩) (by assumption) ?_
                  (try simp only [Act.put, qa_, qb_, qc_])
                  refine wpAnyH_take (i := 11) (oi := ⟨some 161, _, _, _, _, _⟩) (v := undef) rfl (by kernel_rfl) (by kernel_rfl) (by kernel_rfl) (fun _ _ _ h => h) (Or.inr ⟨by rfl, rfl⟩) (by assumption) ?_
                  (try simp only [Act.put, qa_, qb_, qc_])
                  refine wpAnyH_take (i := 12) (oi := ⟨some 162, _, _, _, _, _⟩) (v := ?v109) rfl (by kernel_rfl) (by kernel_rfl) (by kernel_rfl) (fun _ _ _ h => h) (Or.inl ⟨by rfl, ?hy109⟩) (by assumption) ?_
                  case hy109 => (intro w hSw; (try dsimp only at hSw); go_simp; try (with_reducible rfl))
                  (try simp only [Act.put, qa_, qb_, qc_])
                  refine wpAnyH_take (i := 13) (oi := ⟨some 163, _, _, _, _, _⟩) (v := ?v110) rfl (by kernel_rfl) (by kernel_rfl) (by kernel_rfl) (fun _ _ _ h => h) (Or.inl ⟨by rfl, ?hy110⟩) (by assumption) ?_
                  case hy110 => (intro w hSw; (try dsimp only at hSw); go_simp; try (with_reducible rfl))
                  (try simp only [Act.put, qa_, qb_, qc_])
                  refine wpAnyH_take (i := 14) (oi := ⟨some 164, _, _, _, _, _⟩) (v := undef) rfl (by kernel_rfl) (by kernel_rfl) (by kernel_rfl) (fun _ _ _ h => h) (Or.inr ⟨by rfl, rfl⟩) (by assumption) ?_
                  (try simp only [Act.put, qa_, qb_, qc_])
                  refine wpAnyH_take (i := 15) (oi := ⟨some 165, _, _, _, _, _⟩) (v := undef) rfl (by kernel_rfl) (by kernel_rfl) (by kernel_rfl) (fun _ _ _ h => h) (Or.inr ⟨by rfl, rfl⟩) (by assumption) ?_
                  (try simp only [Act.put, qa_, qb_, qc_])
                  refine wpAnyH_take (i := 16) (oi := ⟨some 166, _, _, _, _, _⟩) (v := undef) rfl (by kernel_rfl) (by kernel_rfl) (by kernel_rfl) (fun _ _ _ h => h) (Or.inr ⟨by rfl, rfl⟩) (by assumption) ?_
                  (try simp only [Act.put, qa_, qb_, qc_])
                  refine wpAnyH_take (i := 17) (oi := ⟨some 167, _, _, _, _, _⟩) (v := ?v111) rfl (by kernel_rfl) (by kernel_rfl) (by kernel_rfl) (fun _ _ _ h => h) (Or.inl ⟨by rfl, ?hy111⟩) (by assumption) ?_
                  case hy111 => (intro w hSw; (try dsimp only at hSw); go_simp; try (with_reducible rfl))
                  (try simp only [Act.put, qa_, qb_, qc_])
                  refine wpAnyH_take (i := 18) (oi := ⟨some 168, _, _, _, _, _⟩) (v := ?v112) rfl (by kernel_rfl) (by kernel_rfl) (by kernel_rfl) (fun _ _ _ h => h) (Or.inl ⟨by rfl, ?hy112⟩) (by assumption) ?_
                  case hy112 => (intro w hSw; (try dsimp only at hSw); go_simp; try (with_reducible rfl))
                  (try simp only [Act.put, qa_, qb_, qc_])
                  refine wpAnyH_take (i := 19) (oi := ⟨some 169, _, _, _, _, _⟩) (v := undef) rfl (by kernel_rfl) (by kernel_rfl) (by kernel_rfl) (fun _ _ _ h => h) (Or.inr ⟨by rfl, rfl⟩) (by assumption) ?_
                  (try simp only [Act.put, qa_, qb_, qc_])
                  refine wpAnyH_take (i := 20) (oi := ⟨some 170, _, _, _, _, _⟩) (v := undef) rfl (by kernel_rfl) (by kernel_rfl) (by kernel_rfl) (fun _ _ _ h => h) (Or.inr ⟨by rfl, rfl⟩) (by assumption) ?_
                  (try simp only [Act.put, qa_, qb_, qc_])
                  refine wpAnyH_take (i := 21) (oi := ⟨some 171, _, _, _, _, _⟩) (v := undef) rfl (by kernel_rfl) (by kernel_rfl) (by kernel_rfl) (fun _ _ _ h => h) (Or.inr ⟨by rfl, rfl⟩) (by assumption) ?_
                  (try simp only [Act.put, qa_, qb_, qc_])
                  refine wpAnyH_take (i := 22) (oi := ⟨some 172, _, _, _, _, _⟩) (v := undef) rfl (by kernel_rfl) (by kernel_rfl) (by kernel_rfl) (fun _ _ _ h => h) (Or.inr ⟨by rfl, rfl⟩) (by assumption) ?_
                  (try simp only [Act.put, qa_, qb_, qc_])
                  refine wpAnyH_take (i := 23) (oi := ⟨some 173, _, _, _, _, _⟩) (v := ?v113) rfl (by kernel_rfl) (by kernel_rfl) (by kernel_rfl) (fun _ _ _ h => h) (Or.inl ⟨by rfl, ?hy113⟩) (by assumption) ?_
                  case hy113 => (intro w hSw; (try dsimp only at hSw); go_simp; try (with_reducible rfl))
                  (try simp only [Act.put, qa_, qb_, qc_])
                  refine wpAnyH_take (i := 24) (oi := ⟨some 174, _, _, _, _, _⟩) (v := ?v114) rfl (by kernel_rfl) (by kernel_rfl) (by kernel_rfl) (fun _ _ _ h => h) (Or.inl ⟨by rfl, ?hy114⟩) (by assumption) ?_
                  case hy114 => (intro w hSw; (try dsimp only at hSw); go_simp; try (with_reducible rfl))
                  (try simp only [Act.put, qa_, qb_, qc_])
                  refine wpAnyH_take (i := 25) (oi := ⟨some 175, _, _, _, _, _⟩) (v := undef) rfl (by kernel_rfl) (by kernel_rfl) (by kernel_rfl) (fun _ _ _ h => h) (Or.inr ⟨by rfl, rfl⟩) (by assumption) ?_
                  (try simp only [Act.put, qa_, qb_, qc_])
                  refine wpAnyH_take (i := 26) (oi := ⟨some 176, _, _, _, _, _⟩) (v := undef) rfl (by kernel_rfl) (by kernel_rfl) (by kernel_rfl) (fun _ _ _ h => h) (Or.inr ⟨by rfl, rfl⟩) (by assumption) ?_
                  (try simp only [Act.put, qa_, qb_, qc_])
                  refine wpAnyH_take (i := 27) (oi := ⟨some 177, _, _, _, _, _⟩) (v := undef) rfl (by kernel_rfl) (by kernel_rfl) (by kernel_rfl) (fun _ _ _ h => h) (Or.inr ⟨by rfl, rfl⟩) (by assumption) ?_
                  (try simp only [Act.put, qa_, qb_, qc_])
                  refine wpAnyH_take (i := 28) (oi := ⟨some 178, _, _, _, _, _⟩) (v := undef) rfl (by kernel_rfl) (by kernel_rfl) (by kernel_rfl) (fun _ _ _ h => h) (Or.inr ⟨by rfl, rfl⟩) (by assumption) ?_
                  (try simp only [Act.put, qa_, qb_, qc_])
                  refine wpAnyH_take (i := 29) (oi := ⟨some 179, _, _, _, _, _⟩) (v := undef) rfl (by kernel_rfl) (by kernel_rfl) (by kernel_rfl) (fun _ _ _ h => h) (Or.inr ⟨by rfl, rfl⟩) (by assumption) ?_
                  (try simp only [Act.put, qa_, qb_, qc_])
                  refine wpAnyH_take (i := 30) (oi := ⟨some 180, _, _, _, _, _⟩) (v := undef) rfl (by kernel_rfl) (by kernel_rfl) (by kernel_rfl) (fun _ _ _ h => h) (Or.inr ⟨by rfl, rfl⟩) (by assumption) ?_
                  (try simp only [Act.put, qa_, qb_, qc_])
                  refine wpAnyH_take (i := 31) (oi := ⟨some 181, _, _, _, _, _⟩) (v := undef) rfl (by kernel_rfl) (by kernel_rfl) (by kernel_rfl) (fun _ _ _ h => h) (Or.inr ⟨by rfl, rfl⟩) (by assumption) ?_
                  (try simp only [Act.put, qa_, qb_, qc_])
                  refine wpAnyH_take (i := 32) (oi := ⟨some 182, _, _, _, _, _⟩) (v := undef) rfl (by kernel_rfl) (by kernel_rfl) (by kernel_rfl) (fun _ _ _ h => h) (Or.inr ⟨by rfl, rfl⟩) (by assumption) ?_
                  (try simp only [Act.put, qa_, qb_, qc_])
                  refine wpAnyH_take (i := 33) (oi := ⟨some 183, _, _, _, _, _⟩) (v := ?v115) rfl (by kernel_rfl) (by kernel_rfl) (by kernel_rfl) (fun _ _ _ h => h) (Or.inl ⟨by rfl, ?hy115⟩) (by assumption) ?_
                  case hy115 => (intro w hSw; (try dsimp only at hSw); go_simp; try (with_reducible rfl))
                  (try simp only [Act.put, qa_, qb_, qc_])
                  refine wpAnyH_done (by kernel_rfl) ?_ _
                  go_wp2
                  go_ret
                  exact ⟨rfl, bel_trans hB1 (belx)⟩
              have dd1 : decide (255 < y) = false := by first | exact decide_eq_false g2 | (simp; omega)
              by_cases g3 : z < 0
              · obtain rfl := HF.out (fun h => by have := (h.2.2.2.2.2.1 a (alMem HA.out)).2.1.1; have := HZ.out; omega)
                have dd2 : decide (z < 0) = true := by first | exact decide_eq_true g3 | (simp; omega)
                clear HT HF
                as_aux_lemma =>
                  go_wp2_with fail
                  have Y0 : Box (wr.alloc (.cells #[.int .i64 y, .int .i64 z, .slice B2 m2 d2] 78)) wr.heap.size 78 #[.int .i64 y, .int .i64 z, .slice B2 m2 d2] := Box.new _ _ _
                  have Z0 := X.alloc (.cells #[.int .i64 y, .int .i64 z, .slice B2 m2 d2] 78)
                  refine wp_region_held_drew (S := (fun w' => w'.cell? ⟨wr.heap.size, 0, none⟩ = some (.int .i64 y) ∧ w'.cell? ⟨wr.heap.size, 1, none⟩ = some (.int .i64 z) ∧ w'.cell? ⟨wr.heap.size, 2, none⟩ = some (.slice B2 m2 d2) ∧ w'.cell? ⟨w.heap.size, 5, none⟩ = some (.slice (some ⟨b', off, none⟩) n5 c5))) (by kernel_rfl) (by exact ⟨Y0.cell 0, Y0.cell 1, Y0.cell 2, Z0.cell 5⟩) (fun hHeld => ?_)
                  refine wpAnyH_take (i := 0) (oi := ⟨some 150, _, _, _, _, _⟩) (v := ?v116) rfl (by kernel_rfl) (by kernel_rfl) (by kernel_rfl) (fun _ _ _ h => h) (Or.inl ⟨by rfl, ?hy116⟩) (by assumption) ?_
                  case hy116 => (intro w hSw; (try dsimp only at hSw); go_simp; try (with_reducible rfl))
                  (try simp only [Act.put, qa_, qb_, qc_])
                  refine wpAnyH_take (i := 1) (oi := ⟨some 151, _, _, _, _, _⟩) (v := ?v117) rfl (by kernel_rfl) (by kernel_rfl) (by kernel_rfl) (fun _ _ _ h => h) (Or.inl ⟨by rfl, ?hy117⟩) (by assumption) ?_
                  case hy117 => (intro w hSw; (try dsimp only at hSw); go_simp; try (with_reducible rfl))
                  (try simp only [Act.put, qa_, qb_, qc_])
                  refine wpAnyH_take (i := 2) (oi := ⟨some 152, _, _, _, _, _⟩) (v := ?v118) rfl (by kernel_rfl) (by kernel_rfl) (by kernel_rfl) (fun _ _ _ h => h) (Or.inl ⟨by rfl, ?hy118⟩) (by assumption) ?_
                  case hy118 => (intro w hSw; (try dsimp only at hSw); go_simp; try (with_reducible rfl))
                  (try simp only [Act.put, qa_, qb_, qc_])
                  refine wpAnyH_take (i := 3) (oi := ⟨some 153, _, _, _, _, _⟩) (v := ?v119) rfl (by kernel_rfl) (by kernel_rfl) (by kernel_rfl) (fun _ _ _ h => h) (Or.inl ⟨by rfl, ?hy119⟩) (by assumption) ?_
                  case hy119 => (intro w hSw; (try dsimp only at hSw); go_simp; try (with_reducible rfl))
                  (try simp only [Act.put, qa_, qb_, qc_])
                  refine wpAnyH_take (i := 4) (oi := ⟨some 154, _, _, _, _, _⟩) (v := ?v120) rfl (by kernel_rfl) (by kernel_rfl) (by kernel_rfl) (fun _ _ _ h => h) (Or.inl ⟨by rfl, ?hy120⟩) (by assumption) ?_
                  case hy120 => (intro w hSw; (try dsimp only at hSw); go_simp; try (with_reducible rfl))
                  (try simp only [Act.put, qa_, qb_, qc_])
                  refine wpAnyH_take (i := 5) (oi := ⟨some 155, _, _, _, _, _⟩) (v := ?v121) rfl (by kernel_rfl) (by kernel_rfl) (by kernel_rfl) (fun _ _ _ h => h) (Or.inl ⟨by rfl, ?hy121⟩) (by assumption) ?_
                  case hy121 => (intro w hSw; (try dsimp only at hSw); go_simp; try (with_reducible rfl))
                  (try simp only [Act.put, qa_, qb_, qc_])
                  refine wpAnyH_take (i := 6) (oi := ⟨some 156, _, _, _, _, _⟩) (v := ?v122) rfl (by kernel_rfl) (by kernel_rfl) (by kernel_rfl) (fun _ _ _ h => h) (Or.inl ⟨by rfl, ?hy122⟩) (by assumption) ?_
                  case hy122 => (intro w hSw; (try dsimp only at hSw); go_simp; try (with_reducible rfl))
                  (try simp only [Act.put, qa_, qb_, qc_])
                  refine wpAnyH_take (i := 7) (oi := ⟨some 157, _, _, _, _, _⟩) (v := ?v123) rfl (by kernel_rfl) (by kernel_rfl) (by kernel_rfl) (fun _ _ _ h => h) (Or.inl ⟨by rfl, ?hy123⟩) (by assumption) ?_
                  case hy123 => (intro w hSw; (try dsimp only at hSw); go_simp; try (with_reducible rfl))
                  (try simp only [Act.put, qa_, qb_, qc_])
                  refine wpAnyH_take (i := 8) (oi := ⟨some 158, _, _, _, _, _⟩) (v := ?v124) rfl (by kernel_rfl) (by kernel_rfl) (by kernel_rfl) (fun _ _ _ h => h) (Or.inl ⟨by rfl, ?hy124⟩) (by assumption) ?_
                  case hy124 => (intro w hSw; (try dsimp only at hSw); go_simp; try (with_reducible rfl))
                  (try simp only [Act.put, qa_, qb_, qc_])
                  refine wpAnyH_take (i := 9) (oi := ⟨some 159, _, _, _, _, _⟩) (v := ?v125) rfl (by kernel_rfl) (by kernel_rfl) (by kernel_rfl) (fun _ _ _ h => h) (Or.inl ⟨by rfl, ?hy125⟩) (by assumption) ?_
                  case hy125 => (intro w hSw; (try dsimp only at hSw); go_simp; try (with_reducible rfl))
                  (try simp only [Act.put, qa_, qb_, qc_])
                  refine wpAnyH_take (i := 10) (oi := ⟨some 160, _, _, _, _, _⟩) (v := ?v126) rfl (by kernel_rfl) (by kernel_rfl) (by kernel_rfl) (fun _ _ _ h => h) (Or.inl ⟨by rfl, ?hy126⟩) (by assumption) ?_
                  case hy126 => (intro w hSw; (try dsimp only at hSw); go_simp; try (with_reducible rfl))
                  (try simp only [Act.put, qa_, qb_, qc_])
                  refine wpAnyH_take (i := 11) (oi := ⟨some 161, _, _, _, _, _⟩) (v := ?v127) rfl (by kernel_rfl) (by kernel_rfl) (by kernel_rfl) (fun _ _ _ h => h) (Or.inl ⟨by rfl, ?hy127⟩) (by assumption) ?_
                  case hy127 => (intro w hSw; (try dsimp only at hSw); go_simp; try (with_reducible rfl))
                  (try simp only [Act.put, qa_, qb_, qc_])
                  refine wpAnyH_take (i := 12) (oi := ⟨some 162, _, _, _, _, _⟩) (v := ?v128) rfl (by kernel_rfl) (by kernel_rfl) (by kernel_rfl) (fun _ _ _ h => h) (Or.inl ⟨by rfl, ?hy128⟩) (by assumption) ?_
                  case hy128 => (intro w hSw; (try dsimp only at hSw); go_simp; try (with_reducible rfl))
                  (try simp only [Act.put, qa_, qb_, qc_])
                  refine wpAnyH_take (i := 13) (oi := ⟨some 163, _, _, _, _, _⟩) (v := ?v129) rfl (by kernel_rfl) (by kernel_rfl) (by kernel_rfl) (fun _ _ _ h => h) (Or.inl ⟨by rfl, ?hy129⟩) (by assumption) ?_
                  case hy129 => (intro w hSw; (try dsimp only at hSw); go_simp; try (with_reducible rfl))
                  (try simp only [Act.put, qa_, qb_, qc_])
                  refine wpAnyH_take (i := 14) (oi := ⟨some 164, _, _, _, _, _⟩) (v := undef) rfl (by kernel_rfl) (by kernel_rfl) (by kernel_rfl) (fun _ _ _ h => h) (Or.inr ⟨by rfl, rfl⟩) (by assumption) ?_
                  (try simp only [Act.put, qa_, qb_, qc_])
                  refine wpAnyH_take (i := 15) (oi := ⟨some 165, _, _, _, _, _⟩) (v := undef) rfl (by kernel_rfl) (by kernel_rfl) (by kernel_rfl) (fun _ _ _ h => h) (Or.inr ⟨by rfl, rfl⟩) (by assumption) ?_
                  (try simp only [Act.put, qa_, qb_, qc_])
                  refine wpAnyH_take (i := 16) (oi := ⟨some 166, _, _, _, _, _⟩) (v := undef) rfl (by kernel_rfl) (by kernel_rfl) (by kernel_rfl) (fun _ _ _ h => h) (Or.inr ⟨by rfl, rfl⟩) (by assumption) ?_
                  (try simp only [Act.put, qa_, qb_, qc_])
                  refine wpAnyH_take (i := 17) (oi := ⟨some 167, _, _, _, _, _⟩) (v := ?v130) rfl (by kernel_rfl) (by kernel_rfl) (by kernel_rfl) (fun _ _ _ h => h) (Or.inl ⟨by rfl, ?hy130⟩) (by assumption) ?_
                  case hy130 => (intro w hSw; (try dsimp only at hSw); go_simp; try (with_reducible rfl))
                  (try simp only [Act.put, qa_, qb_, qc_])
                  refine wpAnyH_take (i := 18) (oi := ⟨some 168, _, _, _, _, _⟩) (v := ?v131) rfl (by kernel_rfl) (by kernel_rfl) (by kernel_rfl) (fun _ _ _ h => h) (Or.inl ⟨by rfl, ?hy131⟩) (by assumption) ?_
                  case hy131 => (intro w hSw; (try dsimp only at hSw); go_simp; try (with_reducible rfl))
                  (try simp only [Act.put, qa_, qb_, qc_])
                  refine wpAnyH_take (i := 19) (oi := ⟨some 169, _, _, _, _, _⟩) (v := undef) rfl (by kernel_rfl) (by kernel_rfl) (by kernel_rfl) (fun _ _ _ h => h) (Or.inr ⟨by rfl, rfl⟩) (by assumption) ?_
                  (try simp only [Act.put, qa_, qb_, qc_])
                  refine wpAnyH_take (i := 20) (oi := ⟨some 170, _, _, _, _, _⟩) (v := undef) rfl (by kernel_rfl) (by kernel_rfl) (by kernel_rfl) (fun _ _ _ h => h) (Or.inr ⟨by rfl, rfl⟩) (by assumption) ?_
                  (try simp only [Act.put, qa_, qb_, qc_])
                  refine wpAnyH_take (i := 21) (oi := ⟨some 171, _, _, _, _, _⟩) (v := undef) rfl (by kernel_rfl) (by kernel_rfl) (by kernel_rfl) (fun _ _ _ h => h) (Or.inr ⟨by rfl, rfl⟩) (by assumption) ?_
                  (try simp only [Act.put, qa_, qb_, qc_])
                  refine wpAnyH_take (i := 22) (oi := ⟨some 172, _, _, _, _, _⟩) (v := undef) rfl (by kernel_rfl) (by kernel_rfl) (by kernel_rfl) (fun _ _ _ h => h) (Or.inr ⟨by rfl, rfl⟩) (by assumption) ?_
                  (try simp only [Act.put, qa_, qb_, qc_])
                  refine wpAnyH_take (i := 23) (oi := ⟨some 173, _, _, _, _, _⟩) (v := ?v132) rfl (by kernel_rfl) (by kernel_rfl) (by kernel_rfl) (fun _ _ _ h => h) (Or.inl ⟨by rfl, ?hy132⟩) (by assumption) ?_
                  case hy132 => (intro w hSw; (try dsimp only at hSw); go_simp; try (with_reducible rfl))
                  (try simp only [Act.put, qa_, qb_, qc_])
                  refine wpAnyH_take (i := 24) (oi := ⟨some 174, _, _, _, _, _⟩) (v := ?v133) rfl (by kernel_rfl) (by kernel_rfl) (by kernel_rfl) (fun _ _ _ h => h) (Or.inl ⟨by rfl, ?hy133⟩) (by assumption) ?_
                  case hy133 => (intro w hSw; (try dsimp only at hSw); go_simp; try (with_reducible rfl))
                  (try simp only [Act.put, qa_, qb_, qc_])
                  refine wpAnyH_take (i := 25) (oi := ⟨some 175, _, _, _, _, _⟩) (v := undef) rfl (by kernel_rfl) (by kernel_rfl) (by kernel_rfl) (fun _ _ _ h => h) (Or.inr ⟨by rfl, rfl⟩) (by assumption) ?_
                  (try simp only [Act.put, qa_, qb_, qc_])
                  refine wpAnyH_take (i := 26) (oi := ⟨some 176, _, _, _, _, _⟩) (v := undef) rfl (by kernel_rfl) (by kernel_rfl) (by kernel_rfl) (fun _ _ _ h => h) (Or.inr ⟨by rfl, rfl⟩) (by assumption) ?_
                  (try simp only [Act.put, qa_, qb_, qc_])
                  refine wpAnyH_take (i := 27) (oi := ⟨some 177, _, _, _, _, _⟩) (v := undef) rfl (by kernel_rfl) (by kernel_rfl) (by kernel_rfl) (fun _ _ _ h => h) (Or.inr ⟨by rfl, rfl⟩) (by assumption) ?_
                  (try simp only [Act.put, qa_, qb_, qc_])
                  refine wpAnyH_take (i := 28) (oi := ⟨some 178, _, _, _, _, _⟩) (v := undef) rfl (by kernel_rfl) (by kernel_rfl) (by kernel_rfl) (fun _ _ _ h => h) (Or.inr ⟨by rfl, rfl⟩) (by assumption) ?_
                  (try simp only [Act.put, qa_, qb_, qc_])
                  refine wpAnyH_take (i := 29) (oi := ⟨some 179, _, _, _, _, _⟩) (v := undef) rfl (by kernel_rfl) (by kernel_rfl) (by kernel_rfl) (fun _ _ _ h => h) (Or.inr ⟨by rfl, rfl⟩) (by assumption) ?_
                  (try simp only [Act.put, qa_, qb_, qc_])
                  refine wpAnyH_take (i := 30) (oi := ⟨some 180, _, _, _, _, _⟩) (v := undef) rfl (by kernel_rfl) (by kernel_rfl) (by kernel_rfl) (fun _ _ _ h => h) (Or.inr ⟨by rfl, rfl⟩) (by assumption) ?_
                  (try simp only [Act.put, qa_, qb_, qc_])
                  refine wpAnyH_take (i := 31) (oi := ⟨some 181, _, _, _, _, _⟩) (v := undef) rfl (by kernel_rfl) (by kernel_rfl) (by kernel_rfl) (fun _ _ _ h => h) (Or.inr ⟨by rfl, rfl⟩) (by assumption) ?_
                  (try simp only [Act.put, qa_, qb_, qc_])
                  refine wpAnyH_take (i := 32) (oi := ⟨some 182, _, _, _, _, _⟩) (v := undef) rfl (by kernel_rfl) (by kernel_rfl) (by kernel_rfl) (fun _ _ _ h => h) (Or.inr ⟨by rfl, rfl⟩) (by assumption) ?_
                  (try simp only [Act.put, qa_, qb_, qc_])
                  refine wpAnyH_take (i := 33) (oi := ⟨some 183, _, _, _, _, _⟩) (v := ?v134) rfl (by kernel_rfl) (by kernel_rfl) (by kernel_rfl) (fun _ _ _ h => h) (Or.inl ⟨by rfl, ?hy134⟩) (by assumption) ?_
                  case hy134 => (intro w hSw; (try dsimp only at hSw); go_simp; try (with_reducible rfl))
                  (try simp only [Act.put, qa_, qb_, qc_])
                  refine wpAnyH_done (by kernel_rfl) ?_ _
                  go_wp2
                  go_ret
                  exact ⟨rfl, bel_trans hB1 (belx)⟩
              have dd2 : decide (z < 0) = false := by first | exact decide_eq_false g3 | (simp; omega)
              by_cases g4 : 8 ≤ z
              · obtain rfl := HF.out (fun h => by have := (h.2.2.2.2.2.1 a (alMem HA.out)).2.1.2; have := HZ.out; omega)
                have dd3 : decide (8 ≤ z) = true := by first | exact decide_eq_true g4 | (simp; omega)
                clear HT HF
                as_aux_lemma =>
                  go_wp2_with fail
                  have Y0 : Box (wr.alloc (.cells #[.int .i64 y, .int .i64 z, .slice B2 m2 d2] 78)) wr.heap.size 78 #[.int .i64 y, .int .i64 z, .slice B2 m2 d2] := Box.new _ _ _
                  have Z0 := X.alloc (.cells #[.int .i64 y, .int .i64 z, .slice B2 m2 d2] 78)
                  refine wp_region_held_drew (S := (fun w' => w'.cell? ⟨wr.heap.size, 0, none⟩ = some (.int .i64 y) ∧ w'.cell? ⟨wr.heap.size, 1, none⟩ = some (.int .i64 z) ∧ w'.cell? ⟨wr.heap.size, 2, none⟩ = some (.slice B2 m2 d2) ∧ w'.cell? ⟨w.heap.size, 5, none⟩ = some (.slice (some ⟨b', off, none⟩) n5 c5))) (by kernel_rfl) (by exact ⟨Y0.cell 0, Y0.cell 1, Y0.cell 2, Z0.cell 5⟩) (fun hHeld => ?_)
                  refine wpAnyH_take (i := 0) (oi := ⟨some 150, _, _, _, _, _⟩) (v := ?v135) rfl (by kernel_rfl) (by kernel_rfl) (by kernel_rfl) (fun _ _ _ h => h) (Or.inl ⟨by rfl, ?hy135⟩) (by assumption) ?_
                  case hy135 => (intro w hSw; (try dsimp only at hSw); go_simp; try (with_reducible rfl))
                  (try simp only [Act.put, qa_, qb_, qc_])
                  refine wpAnyH_take (i := 1) (oi := ⟨some 151, _, _, _, _, _⟩) (v := ?v136) rfl (by kernel_rfl) (by kernel_rfl) (by kernel_rfl) (fun _ _ _ h => h) (Or.inl ⟨by rfl, ?hy136⟩) (by assumption) ?_
                  case hy136 => (intro w hSw; (try dsimp only at hSw); go_simp; try (with_reducible rfl))
                  (try simp only [Act.put, qa_, qb_, qc_])
                  refine wpAnyH_take (i := 2) (oi := ⟨some 152, _, _, _, _, _⟩) (v := ?v137) rfl (by kernel_rfl) (by kernel_rfl) (by kernel_rfl) (fun _ _ _ h => h) (Or.inl ⟨by rfl, ?hy137⟩) (by assumption) ?_
                  case hy137 => (intro w hSw; (try dsimp only at hSw); go_simp; try (with_reducible rfl))
                  (try simp only [Act.put, qa_, qb_, qc_])
                  refine wpAnyH_take (i := 3) (oi := ⟨some 153, _, _, _, _, _⟩) (v := ?v138) rfl (by kernel_rfl) (by kernel_rfl) (by kernel_rfl) (fun _ _ _ h => h) (Or.inl ⟨by rfl, ?hy138⟩) (by assumption) ?_
                  case hy138 => (intro w hSw; (try dsimp only at hSw); go_simp; try (with_reducible rfl))
                  (try simp only [Act.put, qa_, qb_, qc_])
                  refine wpAnyH_take (i := 4) (oi := ⟨some 154, _, _, _, _, _⟩) (v := ?v139) rfl (by kernel_rfl) (by kernel_rfl) (by kernel_rfl) (fun _ _ _ h => h) (Or.inl ⟨by rfl, ?hy139⟩) (by assumption) ?_
                  case hy139 => (intro w hSw; (try dsimp only at hSw); go_simp; try (with_reducible rfl))
                  (try simp only [Act.put, qa_, qb_, qc_])
                  refine wpAnyH_take (i := 5) (oi := ⟨some 155, _, _, _, _, _⟩) (v := ?v140) rfl (by kernel_rfl) (by kernel_rfl) (by kernel_rfl) (fun _ _ _ h => h) (Or.inl ⟨by rfl, ?hy140⟩) (by assumption) ?_
                  case hy140 => (intro w hSw; (try dsimp only at hSw); go_simp; try (with_reducible rfl))
                  (try simp only [Act.put, qa_, qb_, qc_])
                  refine wpAnyH_take (i := 6) (oi := ⟨some 156, _, _, _, _, _⟩) (v := ?v141) rfl (by kernel_rfl) (by kernel_rfl) (by kernel_rfl) (fun _ _ _ h => h) (Or.inl ⟨by rfl, ?hy141⟩) (by assumption) ?_
                  case hy141 => (intro w hSw; (try dsimp only at hSw); go_simp; try (with_reducible rfl))
                  (try simp only [Act.put, qa_, qb_, qc_])
                  refine wpAnyH_take (i := 7) (oi := ⟨some 157, _, _, _, _, _⟩) (v := ?v142) rfl (by kernel_rfl) (by kernel_rfl) (by kernel_rfl) (fun _ _ _ h => h) (Or.inl ⟨by rfl, ?hy142⟩) (by assumption) ?_
                  case hy142 => (intro w hSw; (try dsimp only at hSw); go_simp; try (with_reducible rfl))
                  (try simp only [Act.put, qa_, qb_, qc_])
                  refine wpAnyH_take (i := 8) (oi := ⟨some 158, _, _, _, _, _⟩) (v := ?v143) rfl (by kernel_rfl) (by kernel_rfl) (by kernel_rfl) (fun _ _ _ h => h) (Or.inl ⟨by rfl, ?hy143⟩) (by assumption) ?_
                  case hy143 => (intro w hSw; (try dsimp only at hSw); go_simp; try (with_reducible rfl))
                  (try simp only [Act.put, qa_, qb_, qc_])
                  refine wpAnyH_take (i := 9) (oi := ⟨some 159, _, _, _, _, _⟩) (v := ?v144) rfl (by kernel_rfl) (by kernel_rfl) (by kernel_rfl) (fun _ _ _ h => h) (Or.inl ⟨by rfl, ?hy144⟩) (by assumption) ?_
                  case hy144 => (intro w hSw; (try dsimp only at hSw); go_simp; try (with_reducible rfl))
                  (try simp only [Act.put, qa_, qb_, qc_])
                  refine wpAnyH_take (i := 10) (oi := ⟨some 160, _, _, _, _, _⟩) (v := ?v145) rfl (by kernel_rfl) (by kernel_rfl) (by kernel_rfl) (fun _ _ _ h => h) (Or.inl ⟨by rfl, ?hy145⟩) (by assumption) ?_
                  case hy145 => (intro w hSw; (try dsimp only at hSw); go_simp; try (with_reducible rfl))
                  (try simp only [Act.put, qa_, qb_, qc_])
                  refine wpAnyH_take (i := 11) (oi := ⟨some 161, _, _, _, _, _⟩) (v := ?v146) rfl (by kernel_rfl) (by kernel_rfl) (by kernel_rfl) (fun _ _ _ h => h) (Or.inl ⟨by rfl, ?hy146⟩) (by assumption) ?_
                  case hy146 => (intro w hSw; (try dsimp only at hSw); go_simp; try (with_reducible rfl))
                  (try simp only [Act.put, qa_, qb_, qc_])
                  refine wpAnyH_take (i := 12) (oi := ⟨some 162, _, _, _, _, _⟩) (v := ?v147) rfl (by kernel_rfl) (by kernel_rfl) (by kernel_rfl) (fun _ _ _ h => h) (Or.inl ⟨by rfl, ?hy147⟩) (by assumption) ?_
                  case hy147 => (intro w hSw; (try dsimp only at hSw); go_simp; try (with_reducible rfl))
                  (try simp only [Act.put, qa_, qb_, qc_])
                  refine wpAnyH_take (i := 13) (oi := ⟨some 163, _, _, _, _, _⟩) (v := ?v148) rfl (by kernel_rfl) (by kernel_rfl) (by kernel_rfl) (fun _ _ _ h => h) (Or.inl ⟨by rfl, ?hy148⟩) (by assumption) ?_
                  case hy148 => (intro w hSw; (try dsimp only at hSw); go_simp; try (with_reducible rfl))
                  (try simp only [Act.put, qa_, qb_, qc_])
                  refine wpAnyH_take (i := 14) (oi := ⟨some 164, _, _, _, _, _⟩) (v := ?v149) rfl (by kernel_rfl) (by kernel_rfl) (by kernel_rfl) (fun _ _ _ h => h) (Or.inl ⟨by rfl, ?hy149⟩) (by assumption) ?_
                  case hy149 => (intro w hSw; (try dsimp only at hSw); go_simp; try (with_reducible rfl))
                  (try simp only [Act.put, qa_, qb_, qc_])
                  refine wpAnyH_take (i := 15) (oi := ⟨some 165, _, _, _, _, _⟩) (v := ?v150) rfl (by kernel_rfl) (by kernel_rfl) (by kernel_rfl) (fun _ _ _ h => h) (Or.inl ⟨by rfl, ?hy150⟩) (by assumption) ?_
                  case hy150 => (intro w hSw; (try dsimp only at hSw); go_simp; try (with_reducible rfl))
                  (try simp only [Act.put, qa_, qb_, qc_])
                  refine wpAnyH_take (i := 16) (oi := ⟨some 166, _, _, _, _, _⟩) (v := ?v151) rfl (by kernel_rfl) (by kernel_rfl) (by kernel_rfl) (fun _ _ _ h => h) (Or.inl ⟨by rfl, ?hy151⟩) (by assumption) ?_
                  case hy151 => (intro w hSw; (try dsimp only at hSw); go_simp; try (with_reducible rfl))
                  (try simp only [Act.put, qa_, qb_, qc_])
                  refine wpAnyH_take (i := 17) (oi := ⟨some 167, _, _, _, _, _⟩) (v := ?v152) rfl (by kernel_rfl) (by kernel_rfl) (by kernel_rfl) (fun _ _ _ h => h) (Or.inl ⟨by rfl, ?hy152⟩) (by assumption) ?_
                  case hy152 => (intro w hSw; (try dsimp only at hSw); go_simp; try (with_reducible rfl))
                  (try simp only [Act.put, qa_, qb_, qc_])
                  refine wpAnyH_take (i := 18) (oi := ⟨some 168, _, _, _, _, _⟩) (v := ?v153) rfl (by kernel_rfl) (by kernel_rfl) (by kernel_rfl) (fun _ _ _ h => h) (Or.inl ⟨by rfl, ?hy153⟩) (by assumption) ?_
                  case hy153 => (intro w hSw; (try dsimp only at hSw); go_simp; try (with_reducible rfl))
                  (try simp only [Act.put, qa_, qb_, qc_])
                  refine wpAnyH_take (i := 19) (oi := ⟨some 169, _, _, _, _, _⟩) (v := undef) rfl (by kernel_rfl) (by kernel_rfl) (by kernel_rfl) (fun _ _ _ h => h) (Or.inr ⟨by rfl, rfl⟩) (by assumption) ?_
                  (try simp only [Act.put, qa_, qb_, qc_])
                  refine wpAnyH_take (i := 20) (oi := ⟨some 170, _, _, _, _, _⟩) (v := undef) rfl (by kernel_rfl) (by kernel_rfl) (by kernel_rfl) (fun _ _ _ h => h) (Or.inr ⟨by rfl, rfl⟩) (by assumption) ?_
                  (try simp only [Act.put, qa_, qb_, qc_])
                  refine wpAnyH_take (i := 21) (oi := ⟨some 171, _, _, _, _, _⟩) (v := undef) rfl (by kernel_rfl) (by kernel_rfl) (by kernel_rfl) (fun _ _ _ h => h) (Or.inr ⟨by rfl, rfl⟩) (by assumption) ?_
                  (try simp only [Act.put, qa_, qb_, qc_])
                  refine wpAnyH_take (i := 22) (oi := ⟨some 172, _, _, _, _, _⟩) (v := undef) rfl (by kernel_rfl) (by kernel_rfl) (by kernel_rfl) (fun _ _ _ h => h) (Or.inr ⟨by rfl, rfl⟩) (by assumption) ?_
                  (try simp only [Act.put, qa_, qb_, qc_])
                  refine wpAnyH_take (i := 23) (oi := ⟨some 173, _, _, _, _, _⟩) (v := ?v154) rfl (by kernel_rfl) (by kernel_rfl) (by kernel_rfl) (fun _ _ _ h => h) (Or.inl ⟨by rfl, ?hy154⟩) (by assumption) ?_
                  case hy154 => (intro w hSw; (try dsimp only at hSw); go_simp; try (with_reducible rfl))
                  (try simp only [Act.put, qa_, qb_, qc_])
                  refine wpAnyH_take (i := 24) (oi := ⟨some 174, _, _, _, _, _⟩) (v := ?v155) rfl (by kernel_rfl) (by kernel_rfl) (by kernel_rfl) (fun _ _ _ h => h) (Or.inl ⟨by rfl, ?hy155⟩) (by assumption) ?_
                  case hy155 => (intro w hSw; (try dsimp only at hSw); go_simp; try (with_reducible rfl))
                  (try simp only [Act.put, qa_, qb_, qc_])
                  refine wpAnyH_take (i := 25) (oi := ⟨some 175, _, _, _, _, _⟩) (v := undef) rfl (by kernel_rfl) (by kernel_rfl) (by kernel_rfl) (fun _ _ _ h => h) (Or.inr ⟨by rfl, rfl⟩) (by assumption) ?_
                  (try simp only [Act.put, qa_, qb_, qc_])
                  refine wpAnyH_take (i := 26) (oi := ⟨some 176, _, _, _, _, _⟩) (v := undef) rfl (by kernel_rfl) (by kernel_rfl) (by kernel_rfl) (fun _ _ _ h => h) (Or.inr ⟨by rfl, rfl⟩) (by assumption) ?_
                  (try simp only [Act.put, qa_, qb_, qc_])
                  refine wpAnyH_take (i := 27) (oi := ⟨some 177, _, _, _, _, _⟩) (v := undef) rfl (by kernel_rfl) (by kernel_rfl) (by kernel_rfl) (fun _ _ _ h => h) (Or.inr ⟨by rfl, rfl⟩) (by assumption) ?_
                  (try simp only [Act.put, qa_, qb_, qc_])
                  refine wpAnyH_take (i := 28) (oi := ⟨some 178, _, _, _, _, _⟩) (v := undef) rfl (by kernel_rfl) (by kernel_rfl) (by kernel_rfl) (fun _ _ _ h => h) (Or.inr ⟨by rfl, rfl⟩) (by assumption) ?_
                  (try simp only [Act.put, qa_, qb_, qc_])
                  refine wpAnyH_take (i := 29) (oi := ⟨some 179, _, _, _, _, _⟩) (v := undef) rfl (by kernel_rfl) (by kernel_rfl) (by kernel_rfl) (fun _ _ _ h => h) (Or.inr ⟨by rfl, rfl⟩) (by assumption) ?_
                  (try simp only [Act.put, qa_, qb_, qc_])
                  refine wpAnyH_take (i := 30) (oi := ⟨some 180, _, _, _, _, _⟩) (v := undef) rfl (by kernel_rfl) (by kernel_rfl) (by kernel_rfl) (fun _ _ _ h => h) (Or.inr ⟨by rfl, rfl⟩) (by assumption) ?_
                  (try simp only [Act.put, qa_, qb_, qc_])
                  refine wpAnyH_take (i := 31) (oi := ⟨some 181, _, _, _, _, _⟩) (v := undef) rfl (by kernel_rfl) (by kernel_rfl) (by kernel_rfl) (fun _ _ _ h => h) (Or.inr ⟨by rfl, rfl⟩) (by assumption) ?_
                  (try simp only [Act.put, qa_, qb_, qc_])
                  refine wpAnyH_take (i := 32) (oi := ⟨some 182, _, _, _, _, _⟩) (v := undef) rfl (by kernel_rfl) (by kernel_rfl) (by kernel_rfl) (fun _ _ _ h => h) (Or.inr ⟨by rfl, rfl⟩) (by assumption) ?_
                  (try simp only [Act.put, qa_, qb_, qc_])
                  refine wpAnyH_take (i := 33) (oi := ⟨some 183, _, _, _, _, _⟩) (v := ?v156) rfl (by kernel_rfl) (by kernel_rfl) (by kernel_rfl) (fun _ _ _ h => h) (Or.inl ⟨by rfl, ?hy156⟩) (by assumption) ?_
                  case hy156 => (intro w hSw; (try dsimp only at hSw); go_simp; try (with_reducible rfl))
                  (try simp only [Act.put, qa_, qb_, qc_])
                  refine wpAnyH_done (by kernel_rfl) ?_ _
                  go_wp2
                  go_ret
                  exact ⟨rfl, bel_trans hB1 (belx)⟩
              have dd3 : decide (8 ≤ z) = false := by first | exact decide_eq_false g4 | (simp; omega)
              by_cases g5 : 160 < m2
              · obtain rfl := HF.out (fun h => by have := (h.2.2.2.2.2.1 a (alMem HA.out)).2.2; have := HLM.out; omega)
                have q5 : (160 : Int) < (m2 : Int) := by omega
                have dd4 : decide ((160 : Int) < (m2 : Int)) = true := by first | exact decide_eq_true g5 | (simp; omega)
                clear HT HF
                as_aux_lemma =>
                  go_wp2_with fail
                  have Y0 : Box (wr.alloc (.cells #[.int .i64 y, .int .i64 z, .slice B2 m2 d2] 78)) wr.heap.size 78 #[.int .i64 y, .int .i64 z, .slice B2 m2 d2] := Box.new _ _ _
                  have Z0 := X.alloc (.cells #[.int .i64 y, .int .i64 z, .slice B2 m2 d2] 78)
                  refine wp_region_held_drew (S := (fun w' => w'.cell? ⟨wr.heap.size, 0, none⟩ = some (.int .i64 y) ∧ w'.cell? ⟨wr.heap.size, 1, none⟩ = some (.int .i64 z) ∧ w'.cell? ⟨wr.heap.size, 2, none⟩ = some (.slice B2 m2 d2) ∧ w'.cell? ⟨w.heap.size, 5, none⟩ = some (.slice (some ⟨b', off, none⟩) n5 c5))) (by kernel_rfl) (by exact ⟨Y0.cell 0, Y0.cell 1, Y0.cell 2, Z0.cell 5⟩) (fun hHeld => ?_)
                  refine wpAnyH_take (i := 0) (oi := ⟨some 150, _, _, _, _, _⟩) (v := ?v157) rfl (by kernel_rfl) (by kernel_rfl) (by kernel_rfl) (fun _ _ _ h => h) (Or.inl ⟨by rfl, ?hy157⟩) (by assumption) ?_
                  case hy157 => (intro w hSw; (try dsimp only at hSw); go_simp; try (with_reducible rfl))
                  (try simp only [Act.put, qa_, qb_, qc_])
                  refine wpAnyH_take (i := 1) (oi := ⟨some 151, _, _, _, _, _⟩) (v := ?v158) rfl (by kernel_rfl) (by kernel_rfl) (by kernel_rfl) (fun _ _ _ h => h) (Or.inl ⟨by rfl, ?hy158⟩) (by assumption) ?_
                  case hy158 => (intro w hSw; (try dsimp only at hSw); go_simp; try (with_reducible rfl))
                  (try simp only [Act.put, qa_, qb_, qc_])
                  refine wpAnyH_take (i := 2) (oi := ⟨some 152, _, _, _, _, _⟩) (v := ?v159) rfl (by kernel_rfl) (by kernel_rfl) (by kernel_rfl) (fun _ _ _ h => h) (Or.inl ⟨by rfl, ?hy159⟩) (by assumption) ?_
                  case hy159 => (intro w hSw; (try dsimp only at hSw); go_simp; try (with_reducible rfl))
                  (try simp only [Act.put, qa_, qb_, qc_])
                  refine wpAnyH_take (i := 3) (oi := ⟨some 153, _, _, _, _, _⟩) (v := ?v160) rfl (by kernel_rfl) (by kernel_rfl) (by kernel_rfl) (fun _ _ _ h => h) (Or.inl ⟨by rfl, ?hy160⟩) (by assumption) ?_
                  case hy160 => (intro w hSw; (try dsimp only at hSw); go_simp; try (with_reducible rfl))
                  (try simp only [Act.put, qa_, qb_, qc_])
                  refine wpAnyH_take (i := 4) (oi := ⟨some 154, _, _, _, _, _⟩) (v := ?v161) rfl (by kernel_rfl) (by kernel_rfl) (by kernel_rfl) (fun _ _ _ h => h) (Or.inl ⟨by rfl, ?hy161⟩) (by assumption) ?_
                  case hy161 => (intro w hSw; (try dsimp only at hSw); go_simp; try (with_reducible rfl))
                  (try simp only [Act.put, qa_, qb_, qc_])
                  refine wpAnyH_take (i := 5) (oi := ⟨some 155, _, _, _, _, _⟩) (v := ?v162) rfl (by kernel_rfl) (by kernel_rfl) (by kernel_rfl) (fun _ _ _ h => h) (Or.inl ⟨by rfl, ?hy162⟩) (by assumption) ?_
                  case hy162 => (intro w hSw; (try dsimp only at hSw); go_simp; try (with_reducible rfl))
                  (try simp only [Act.put, qa_, qb_, qc_])
                  refine wpAnyH_take (i := 6) (oi := ⟨some 156, _, _, _, _, _⟩) (v := ?v163) rfl (by kernel_rfl) (by kernel_rfl) (by kernel_rfl) (fun _ _ _ h => h) (Or.inl ⟨by rfl, ?hy163⟩) (by assumption) ?_
                  case hy163 => (intro w hSw; (try dsimp only at hSw); go_simp; try (with_reducible rfl))
                  (try simp only [Act.put, qa_, qb_, qc_])
                  refine wpAnyH_take (i := 7) (oi := ⟨some 157, _, _, _, _, _⟩) (v := ?v164) rfl (by kernel_rfl) (by kernel_rfl) (by kernel_rfl) (fun _ _ _ h => h) (Or.inl ⟨by rfl, ?hy164⟩) (by assumption) ?_
                  case hy164 => (intro w hSw; (try dsimp only at hSw); go_simp; try (with_reducible rfl))
                  (try simp only [Act.put, qa_, qb_, qc_])
                  refine wpAnyH_take (i := 8) (oi := ⟨some 158, _, _, _, _, _⟩) (v := ?v165) rfl (by kernel_rfl) (by kernel_rfl) (by kernel_rfl) (fun _ _ _ h => h) (Or.inl ⟨by rfl, ?hy165⟩) (by assumption) ?_
                  case hy165 => (intro w hSw; (try dsimp only at hSw); go_simp; try (with_reducible rfl))
                  (try simp only [Act.put, qa_, qb_, qc_])
                  refine wpAnyH_take (i := 9) (oi := ⟨some 159, _, _, _, _, _⟩) (v := ?v166) rfl (by kernel_rfl) (by kernel_rfl) (by kernel_rfl) (fun _ _ _ h => h) (Or.inl ⟨by rfl, ?hy166⟩) (by assumption) ?_
                  case hy166 => (intro w hSw; (try dsimp only at hSw); go_simp; try (with_reducible rfl))
                  (try simp only [Act.put, qa_, qb_, qc_])
                  refine wpAnyH_take (i := 10) (oi := ⟨some 160, _, _, _, _, _⟩) (v := ?v167) rfl (by kernel_rfl) (by kernel_rfl) (by kernel_rfl) (fun _ _ _ h => h) (Or.inl ⟨by rfl, ?hy167⟩) (by assumption) ?_
                  case hy167 => (intro w hSw; (try dsimp only at hSw); go_simp; try (with_reducible rfl))
                  (try simp only [Act.put, qa_, qb_, qc_])
                  refine wpAnyH_take (i := 11) (oi := ⟨some 161, _, _, _, _, _⟩) (v := ?v168) rfl (by kernel_rfl) (by kernel_rfl) (by kernel_rfl) (fun _ _ _ h => h) (Or.inl ⟨by rfl, ?hy168⟩) (by assumption) ?_
                  case hy168 => (intro w hSw; (try dsimp only at hSw); go_simp; try (with_reducible rfl))
                  (try simp only [Act.put, qa_, qb_, qc_])
                  refine wpAnyH_take (i := 12) (oi := ⟨some 162, _, _, _, _, _⟩) (v := ?v169) rfl (by kernel_rfl) (by kernel_rfl) (by kernel_rfl) (fun _ _ _ h => h) (Or.inl ⟨by rfl, ?hy169⟩) (by assumption) ?_
                  case hy169 => (intro w hSw; (try dsimp only at hSw); go_simp; try (with_reducible rfl))
                  (try simp only [Act.put, qa_, qb_, qc_])
                  refine wpAnyH_take (i := 13) (oi := ⟨some 163, _, _, _, _, _⟩) (v := ?v170) rfl (by kernel_rfl) (by kernel_rfl) (by kernel_rfl) (fun _ _ _ h => h) (Or.inl ⟨by rfl, ?hy170⟩) (by assumption) ?_
                  case hy170 => (intro w hSw; (try dsimp only at hSw); go_simp; try (with_reducible rfl))
                  (try simp only [Act.put, qa_, qb_, qc_])
                  refine wpAnyH_take (i := 14) (oi := ⟨some 164, _, _, _, _, _⟩) (v := ?v171) rfl (by kernel_rfl) (by kernel_rfl) (by kernel_rfl) (fun _ _ _ h => h) (Or.inl ⟨by rfl, ?hy171⟩) (by assumption) ?_
                  case hy171 => (intro w hSw; (try dsimp only at hSw); go_simp; try (with_reducible rfl))
                  (try simp only [Act.put, qa_, qb_, qc_])
                  refine wpAnyH_take (i := 15) (oi := ⟨some 165, _, _, _, _, _⟩) (v := ?v172) rfl (by kernel_rfl) (by kernel_rfl) (by kernel_rfl) (fun _ _ _ h => h) (Or.inl ⟨by rfl, ?hy172⟩) (by assumption) ?_
                  case hy172 => (intro w hSw; (try dsimp only at hSw); go_simp; try (with_reducible rfl))
                  (try simp only [Act.put, qa_, qb_, qc_])
                  refine wpAnyH_take (i := 16) (oi := ⟨some 166, _, _, _, _, _⟩) (v := ?v173) rfl (by kernel_rfl) (by kernel_rfl) (by kernel_rfl) (fun _ _ _ h => h) (Or.inl ⟨by rfl, ?hy173⟩) (by assumption) ?_
                  case hy173 => (intro w hSw; (try dsimp only at hSw); go_simp; try (with_reducible rfl))
                  (try simp only [Act.put, qa_, qb_, qc_])
                  refine wpAnyH_take (i := 17) (oi := ⟨some 167, _, _, _, _, _⟩) (v := ?v174) rfl (by kernel_rfl) (by kernel_rfl) (by kernel_rfl) (fun _ _ _ h => h) (Or.inl ⟨by rfl, ?hy174⟩) (by assumption) ?_
                  case hy174 => (intro w hSw; (try dsimp only at hSw); go_simp; try (with_reducible rfl))
                  (try simp only [Act.put, qa_, qb_, qc_])
                  refine wpAnyH_take (i := 18) (oi := ⟨some 168, _, _, _, _, _⟩) (v := ?v175) rfl (by kernel_rfl) (by kernel_rfl) (by kernel_rfl) (fun _ _ _ h => h) (Or.inl ⟨by rfl, ?hy175⟩) (by assumption) ?_
                  case hy175 => (intro w hSw; (try dsimp only at hSw); go_simp; try (with_reducible rfl))
                  (try simp only [Act.put, qa_, qb_, qc_])
                  refine wpAnyH_take (i := 19) (oi := ⟨some 169, _, _, _, _, _⟩) (v := ?v176) rfl (by kernel_rfl) (by kernel_rfl) (by kernel_rfl) (fun _ _ _ h => h) (Or.inl ⟨by rfl, ?hy176⟩) (by assumption) ?_
                  case hy176 => (intro w hSw; (try dsimp only at hSw); go_simp; try (with_reducible rfl))
                  (try simp only [Act.put, qa_, qb_, qc_])
                  refine wpAnyH_take (i := 20) (oi := ⟨some 170, _, _, _, _, _⟩) (v := ?v177) rfl (by kernel_rfl) (by kernel_rfl) (by kernel_rfl) (fun _ _ _ h => h) (Or.inl ⟨by rfl, ?hy177⟩) (by assumption) ?_
                  case hy177 => (intro w hSw; (try dsimp only at hSw); go_simp; try (with_reducible rfl))
                  (try simp only [Act.put, qa_, qb_, qc_])
                  refine wpAnyH_take (i := 21) (oi := ⟨some 171, _, _, _, _, _⟩) (v := ?v178) rfl (by kernel_rfl) (by kernel_rfl) (by kernel_rfl) (fun _ _ _ h => h) (Or.inl ⟨by rfl, ?hy178⟩) (by assumption) ?_
                  case hy178 => (intro w hSw; (try dsimp only at hSw); go_simp; try (with_reducible rfl))
                  (try simp only [Act.put, qa_, qb_, qc_])
                  refine wpAnyH_take (i := 22) (oi := ⟨some 172, _, _, _, _, _⟩) (v := ?v179) rfl (by kernel_rfl) (by kernel_rfl) (by kernel_rfl) (fun _ _ _ h => h) (Or.inl ⟨by rfl, ?hy179⟩) (by assumption) ?_
                  case hy179 => (intro w hSw; (try dsimp only at hSw); go_simp; try (with_reducible rfl))
                  (try simp only [Act.put, qa_, qb_, qc_])
                  refine wpAnyH_take (i := 23) (oi := ⟨some 173, _, _, _, _, _⟩) (v := ?v180) rfl (by kernel_rfl) (by kernel_rfl) (by kernel_rfl) (fun _ _ _ h => h) (Or.inl ⟨by rfl, ?hy180⟩) (by assumption) ?_
                  case hy180 => (intro w hSw; (try dsimp only at hSw); go_simp; try (with_reducible rfl))
                  (try simp only [Act.put, qa_, qb_, qc_])
                  refine wpAnyH_take (i := 24) (oi := ⟨some 174, _, _, _, _, _⟩) (v := ?v181) rfl (by kernel_rfl) (by kernel_rfl) (by kernel_rfl) (fun _ _ _ h => h) (Or.inl ⟨by rfl, ?hy181⟩) (by assumption) ?_
                  case hy181 => (intro w hSw; (try dsimp only at hSw); go_simp; try (with_reducible rfl))
                  (try simp only [Act.put, qa_, qb_, qc_])
                  refine wpAnyH_take (i := 25) (oi := ⟨some 175, _, _, _, _, _⟩) (v := undef) rfl (by kernel_rfl) (by kernel_rfl) (by kernel_rfl) (fun _ _ _ h => h) (Or.inr ⟨by rfl, rfl⟩) (by assumption) ?_
                  (try simp only [Act.put, qa_, qb_, qc_])
                  refine wpAnyH_take (i := 26) (oi := ⟨some 176, _, _, _, _, _⟩) (v := undef) rfl (by kernel_rfl) (by kernel_rfl) (by kernel_rfl) (fun _ _ _ h => h) (Or.inr ⟨by rfl, rfl⟩) (by assumption) ?_
                  (try simp only [Act.put, qa_, qb_, qc_])
                  refine wpAnyH_take (i := 27) (oi := ⟨some 177, _, _, _, _, _⟩) (v := undef) rfl (by kernel_rfl) (by kernel_rfl) (by kernel_rfl) (fun _ _ _ h => h) (Or.inr ⟨by rfl, rfl⟩) (by assumption) ?_
                  (try simp only [Act.put, qa_, qb_, qc_])
                  refine wpAnyH_take (i := 28) (oi := ⟨some 178, _, _, _, _, _⟩) (v := undef) rfl (by kernel_rfl) (by kernel_rfl) (by kernel_rfl) (fun _ _ _ h => h) (Or.inr ⟨by rfl, rfl⟩) (by assumption) ?_
                  (try simp only [Act.put, qa_, qb_, qc_])
                  refine wpAnyH_take (i := 29) (oi := ⟨some 179, _, _, _, _, _⟩) (v := undef) rfl (by kernel_rfl) (by kernel_rfl) (by kernel_rfl) (fun _ _ _ h => h) (Or.inr ⟨by rfl, rfl⟩) (by assumption) ?_
                  (try simp only [Act.put, qa_, qb_, qc_])
                  refine wpAnyH_take (i := 30) (oi := ⟨some 180, _, _, _, _, _⟩) (v := undef) rfl (by kernel_rfl) (by kernel_rfl) (by kernel_rfl) (fun _ _ _ h => h) (Or.inr ⟨by rfl, rfl⟩) (by assumption) ?_
                  (try simp only [Act.put, qa_, qb_, qc_])
                  refine wpAnyH_take (i := 31) (oi := ⟨some 181, _, _, _, _, _⟩) (v := undef) rfl (by kernel_rfl) (by kernel_rfl) (by kernel_rfl) (fun _ _ _ h => h) (Or.inr ⟨by rfl, rfl⟩) (by assumption) ?_
                  (try simp only [Act.put, qa_, qb_, qc_])
                  refine wpAnyH_take (i := 32) (oi := ⟨some 182, _, _, _, _, _⟩) (v := undef) rfl (by kernel_rfl) (by kernel_rfl) (by kernel_rfl) (fun _ _ _ h => h) (Or.inr ⟨by rfl, rfl⟩) (by assumption) ?_
                  (try simp only [Act.put, qa_, qb_, qc_])
                  refine wpAnyH_take (i := 33) (oi := ⟨some 183, _, _, _, _, _⟩) (v := ?v182) rfl (by kernel_rfl) (by kernel_rfl) (by kernel_rfl) (fun _ _ _ h => h) (Or.inl ⟨by rfl, ?hy182⟩) (by assumption) ?_
                  case hy182 => (intro w hSw; (try dsimp only at hSw); go_simp; try (with_reducible rfl))
                  (try simp only [Act.put, qa_, qb_, qc_])
                  refine wpAnyH_done (by kernel_rfl) ?_ _
                  go_wp2
                  go_ret
                  exact ⟨rfl, bel_trans hB1 (belx)⟩
              have dd4 : decide ((160 : Int) < (m2 : Int)) = false := by first | exact decide_eq_false g5 | (simp; omega)
              have q5 : ¬ (160 : Int) < (m2 : Int) := by omega
              obtain ⟨q, hq⟩ : ∃ q, sAt (snt.take j) y = q := ⟨_, rfl⟩
              have HQ := Lib.hid hq
              have hge := sAt_ge (l := snt.take j) (x := y)
              rw [hq] at hge
              have HGE := Lib.hid hge
              clear hq hge
              by_cases g6 : 0 ≤ q
              · obtain rfl := HF.out (fun h => sn_dup HA.out (by rw [HY.out]; exact HGE.out.1 g6) h.2.2.2.2.2.2)
                have dd5 : decide (0 ≤ q) = true := by first | exact decide_eq_true g6 | (simp; omega)
                clear HT HF
                as_aux_lemma =>
                  go_wp2_with fail
                  have Y0 : Box (wr.alloc (.cells #[.int .i64 y, .int .i64 z, .slice B2 m2 d2] 78)) wr.heap.size 78 #[.int .i64 y, .int .i64 z, .slice B2 m2 d2] := Box.new _ _ _
                  have Z0 := X.alloc (.cells #[.int .i64 y, .int .i64 z, .slice B2 m2 d2] 78)
                  refine wp_region_held_drew (S := (fun w' => w'.cell? ⟨wr.heap.size, 0, none⟩ = some (.int .i64 y) ∧ w'.cell? ⟨wr.heap.size, 1, none⟩ = some (.int .i64 z) ∧ w'.cell? ⟨wr.heap.size, 2, none⟩ = some (.slice B2 m2 d2) ∧ w'.cell? ⟨w.heap.size, 5, none⟩ = some (.slice (some ⟨b', off, none⟩) n5 c5))) (by kernel_rfl) (by exact ⟨Y0.cell 0, Y0.cell 1, Y0.cell 2, Z0.cell 5⟩) (fun hHeld => ?_)
                  refine wpAnyH_take (i := 0) (oi := ⟨some 150, _, _, _, _, _⟩) (v := ?v183) rfl (by kernel_rfl) (by kernel_rfl) (by kernel_rfl) (fun _ _ _ h => h) (Or.inl ⟨by rfl, ?hy183⟩) (by assumption) ?_
                  case hy183 => (intro w hSw; (try dsimp only at hSw); go_simp; try (with_reducible rfl))
                  (try simp only [Act.put, qa_, qb_, qc_])
                  refine wpAnyH_take (i := 1) (oi := ⟨some 151, _, _, _, _, _⟩) (v := ?v184) rfl (by kernel_rfl) (by kernel_rfl) (by kernel_rfl) (fun _ _ _ h => h) (Or.inl ⟨by rfl, ?hy184⟩) (by assumption) ?_
                  case hy184 => (intro w hSw; (try dsimp only at hSw); go_simp; try (with_reducible rfl))
                  (try simp only [Act.put, qa_, qb_, qc_])
                  refine wpAnyH_take (i := 2) (oi := ⟨some 152, _, _, _, _, _⟩) (v := ?v185) rfl (by kernel_rfl) (by kernel_rfl) (by kernel_rfl) (fun _ _ _ h => h) (Or.inl ⟨by rfl, ?hy185⟩) (by assumption) ?_
                  case hy185 => (intro w hSw; (try dsimp only at hSw); go_simp; try (with_reducible rfl))
                  (try simp only [Act.put, qa_, qb_, qc_])
                  refine wpAnyH_take (i := 3) (oi := ⟨some 153, _, _, _, _, _⟩) (v := ?v186) rfl (by kernel_rfl) (by kernel_rfl) (by kernel_rfl) (fun _ _ _ h => h) (Or.inl ⟨by rfl, ?hy186⟩) (by assumption) ?_
                  case hy186 => (intro w hSw; (try dsimp only at hSw); go_simp; try (with_reducible rfl))
                  (try simp only [Act.put, qa_, qb_, qc_])
                  refine wpAnyH_take (i := 4) (oi := ⟨some 154, _, _, _, _, _⟩) (v := ?v187) rfl (by kernel_rfl) (by kernel_rfl) (by kernel_rfl) (fun _ _ _ h => h) (Or.inl ⟨by rfl, ?hy187⟩) (by assumption) ?_
                  case hy187 => (intro w hSw; (try dsimp only at hSw); go_simp; try (with_reducible rfl))
                  (try simp only [Act.put, qa_, qb_, qc_])
                  refine wpAnyH_take (i := 5) (oi := ⟨some 155, _, _, _, _, _⟩) (v := ?v188) rfl (by kernel_rfl) (by kernel_rfl) (by kernel_rfl) (fun _ _ _ h => h) (Or.inl ⟨by rfl, ?hy188⟩) (by assumption) ?_
                  case hy188 => (intro w hSw; (try dsimp only at hSw); go_simp; try (with_reducible rfl))
                  (try simp only [Act.put, qa_, qb_, qc_])
                  refine wpAnyH_take (i := 6) (oi := ⟨some 156, _, _, _, _, _⟩) (v := ?v189) rfl (by kernel_rfl) (by kernel_rfl) (by kernel_rfl) (fun _ _ _ h => h) (Or.inl ⟨by rfl, ?hy189⟩) (by assumption) ?_
                  case hy189 => (intro w hSw; (try dsimp only at hSw); go_simp; try (with_reducible rfl))
                  (try simp only [Act.put, qa_, qb_, qc_])
                  refine wpAnyH_take (i := 7) (oi := ⟨some 157, _, _, _, _, _⟩) (v := ?v190) rfl (by kernel_rfl) (by kernel_rfl) (by kernel_rfl) (fun _ _ _ h => h) (Or.inl ⟨by rfl, ?hy190⟩) (by assumption) ?_
                  case hy190 => (intro w hSw; (try dsimp only at hSw); go_simp; try (with_reducible rfl))
                  (try simp only [Act.put, qa_, qb_, qc_])
                  refine wpAnyH_take (i := 8) (oi := ⟨some 158, _, _, _, _, _⟩) (v := ?v191) rfl (by kernel_rfl) (by kernel_rfl) (by kernel_rfl) (fun _ _ _ h => h) (Or.inl ⟨by rfl, ?hy191⟩) (by assumption) ?_
                  case hy191 => (intro w hSw; (try dsimp only at hSw); go_simp; try (with_reducible rfl))
                  (try simp only [Act.put, qa_, qb_, qc_])
                  refine wpAnyH_take (i := 9) (oi := ⟨some 159, _, _, _, _, _⟩) (v := ?v192) rfl (by kernel_rfl) (by kernel_rfl) (by kernel_rfl) (fun _ _ _ h => h) (Or.inl ⟨by rfl, ?hy192⟩) (by assumption) ?_
                  case hy192 => (intro w hSw; (try dsimp only at hSw); go_simp; try (with_reducible rfl))
                  (try simp only [Act.put, qa_, qb_, qc_])
                  refine wpAnyH_take (i := 10) (oi := ⟨some 160, _, _, _, _, _⟩) (v := ?v193) rfl (by kernel_rfl) (by kernel_rfl) (by kernel_rfl) (fun _ _ _ h => h) (Or.inl ⟨by rfl, ?hy193⟩) (by assumption) ?_
                  case hy193 => (intro w hSw; (try dsimp only at hSw); go_simp; try (with_reducible rfl))
                  (try simp only [Act.put, qa_, qb_, qc_])
                  refine wpAnyH_take (i := 11) (oi := ⟨some 161, _, _, _, _, _⟩) (v := ?v194) rfl (by kernel_rfl) (by kernel_rfl) (by kernel_rfl) (fun _ _ _ h => h) (Or.inl ⟨by rfl, ?hy194⟩) (by assumption) ?_
                  case hy194 => (intro w hSw; (try dsimp only at hSw); go_simp; try (with_reducible rfl))
                  (try simp only [Act.put, qa_, qb_, qc_])
                  refine wpAnyH_take (i := 12) (oi := ⟨some 162, _, _, _, _, _⟩) (v := ?v195) rfl (by kernel_rfl) (by kernel_rfl) (by kernel_rfl) (fun _ _ _ h => h) (Or.inl ⟨by rfl, ?hy195⟩) (by assumption) ?_
                  case hy195 => (intro w hSw; (try dsimp only at hSw); go_simp; try (with_reducible rfl))
                  (try simp only [Act.put, qa_, qb_, qc_])
                  refine wpAnyH_take (i := 13) (oi := ⟨some 163, _, _, _, _, _⟩) (v := ?v196) rfl (by kernel_rfl) (by kernel_rfl) (by kernel_rfl) (fun _ _ _ h => h) (Or.inl ⟨by rfl, ?hy196⟩) (by assumption) ?_
                  case hy196 => (intro w hSw; (try dsimp only at hSw); go_simp; try (with_reducible rfl))
                  (try simp only [Act.put, qa_, qb_, qc_])
                  refine wpAnyH_take (i := 14) (oi := ⟨some 164, _, _, _, _, _⟩) (v := ?v197) rfl (by kernel_rfl) (by kernel_rfl) (by kernel_rfl) (fun _ _ _ h => h) (Or.inl ⟨by rfl, ?hy197⟩) (by assumption) ?_
                  case hy197 => (intro w hSw; (try dsimp only at hSw); go_simp; try (with_reducible rfl))
                  (try simp only [Act.put, qa_, qb_, qc_])
                  refine wpAnyH_take (i := 15) (oi := ⟨some 165, _, _, _, _, _⟩) (v := ?v198) rfl (by kernel_rfl) (by kernel_rfl) (by kernel_rfl) (fun _ _ _ h => h) (Or.inl ⟨by rfl, ?hy198⟩) (by assumption) ?_
                  case hy198 => (intro w hSw; (try dsimp only at hSw); go_simp; try (with_reducible rfl))
                  (try simp only [Act.put, qa_, qb_, qc_])
                  refine wpAnyH_take (i := 16) (oi := ⟨some 166, _, _, _, _, _⟩) (v := ?v199) rfl (by kernel_rfl) (by kernel_rfl) (by kernel_rfl) (fun _ _ _ h => h) (Or.inl ⟨by rfl, ?hy199⟩) (by assumption) ?_
                  case hy199 => (intro w hSw; (try dsimp only at hSw); go_simp; try (with_reducible rfl))
                  (try simp only [Act.put, qa_, qb_, qc_])
                  refine wpAnyH_take (i := 17) (oi := ⟨some 167, _, _, _, _, _⟩) (v := ?v200) rfl (by kernel_rfl) (by kernel_rfl) (by kernel_rfl) (fun _ _ _ h => h) (Or.inl ⟨by rfl, ?hy200⟩) (by assumption) ?_
                  case hy200 => (intro w hSw; (try dsimp only at hSw); go_simp; try (with_reducible rfl))
                  (try simp only [Act.put, qa_, qb_, qc_])
                  refine wpAnyH_take (i := 18) (oi := ⟨some 168, _, _, _, _, _⟩) (v := ?v201) rfl (by kernel_rfl) (by kernel_rfl) (by kernel_rfl) (fun _ _ _ h => h) (Or.inl ⟨by rfl, ?hy201⟩) (by assumption) ?_
                  case hy201 => (intro w hSw; (try dsimp only at hSw); go_simp; try (with_reducible rfl))
                  (try simp only [Act.put, qa_, qb_, qc_])
                  refine wpAnyH_take (i := 19) (oi := ⟨some 169, _, _, _, _, _⟩) (v := ?v202) rfl (by kernel_rfl) (by kernel_rfl) (by kernel_rfl) (fun _ _ _ h => h) (Or.inl ⟨by rfl, ?hy202⟩) (by assumption) ?_
                  case hy202 => (intro w hSw; (try dsimp only at hSw); go_simp; try (with_reducible rfl))
                  (try simp only [Act.put, qa_, qb_, qc_])
                  refine wpAnyH_take (i := 20) (oi := ⟨some 170, _, _, _, _, _⟩) (v := ?v203) rfl (by kernel_rfl) (by kernel_rfl) (by kernel_rfl) (fun _ _ _ h => h) (Or.inl ⟨by rfl, ?hy203⟩) (by assumption) ?_
                  case hy203 => (intro w hSw; (try dsimp only at hSw); go_simp; try (with_reducible rfl))
                  (try simp only [Act.put, qa_, qb_, qc_])
                  refine wpAnyH_take (i := 21) (oi := ⟨some 171, _, _, _, _, _⟩) (v := ?v204) rfl (by kernel_rfl) (by kernel_rfl) (by kernel_rfl) (fun _ _ _ h => h) (Or.inl ⟨by rfl, ?hy204⟩) (by assumption) ?_
                  case hy204 => (intro w hSw; (try dsimp only at hSw); go_simp; try (with_reducible rfl))
                  (try simp only [Act.put, qa_, qb_, qc_])
                  refine wpAnyH_take (i := 22) (oi := ⟨some 172, _, _, _, _, _⟩) (v := ?v205) rfl (by kernel_rfl) (by kernel_rfl) (by kernel_rfl) (fun _ _ _ h => h) (Or.inl ⟨by rfl, ?hy205⟩) (by assumption) ?_
                  case hy205 => (intro w hSw; (try dsimp only at hSw); go_simp; try (with_reducible rfl))
                  (try simp only [Act.put, qa_, qb_, qc_])
                  refine wpAnyH_take (i := 23) (oi := ⟨some 173, _, _, _, _, _⟩) (v := ?v206) rfl (by kernel_rfl) (by kernel_rfl) (by kernel_rfl) (fun _ _ _ h => h) (Or.inl ⟨by rfl, ?hy206⟩) (by assumption) ?_
                  case hy206 => (intro w hSw; (try dsimp only at hSw); go_simp; try (with_reducible rfl))
                  (try simp only [Act.put, qa_, qb_, qc_])
                  refine wpAnyH_take (i := 24) (oi := ⟨some 174, _, _, _, _, _⟩) (v := ?v207) rfl (by kernel_rfl) (by kernel_rfl) (by kernel_rfl) (fun _ _ _ h => h) (Or.inl ⟨by rfl, ?hy207⟩) (by assumption) ?_
                  case hy207 => (intro w hSw; (try dsimp only at hSw); go_simp; try (with_reducible rfl))
                  (try simp only [Act.put, qa_, qb_, qc_])
                  refine wpAnyH_take (i := 25) (oi := ⟨some 175, _, _, _, _, _⟩) (v := ?v208) rfl (by kernel_rfl) (by kernel_rfl) (by kernel_rfl) (fun _ _ _ h => h) (Or.inl ⟨by rfl, ?hy208⟩) (by assumption) ?_
                  case hy208 => (intro w hSw; (try dsimp only at hSw); go_simp; try (with_reducible rfl))
                  (try simp only [Act.put, qa_, qb_, qc_])
                  refine wpAnyH_take (i := 26) (oi := ⟨some 176, _, _, _, _, _⟩) (v := ?v209) rfl (by kernel_rfl) (by kernel_rfl) (by kernel_rfl) (fun _ _ _ h => h) (Or.inl ⟨by rfl, ?hy209⟩) (by assumption) ?_
                  case hy209 => (intro w hSw; (try dsimp only at hSw); go_simp; try (with_reducible rfl))
                  (try simp only [Act.put, qa_, qb_, qc_])
                  refine wpAnyH_take (i := 27) (oi := ⟨some 177, _, _, _, _, _⟩) (v := ?v210) rfl (by kernel_rfl) (by kernel_rfl) (by kernel_rfl) (fun _ _ _ h => h) (Or.inl ⟨by rfl, ?hy210⟩) (by assumption) ?_
                  case hy210 => (intro w hSw; (try dsimp only at hSw); go_simp; try (with_reducible rfl))
                  (try simp only [Act.put, qa_, qb_, qc_])
                  refine wpAnyH_take (i := 28) (oi := ⟨some 178, _, _, _, _, _⟩) (v := ?v211) rfl (by kernel_rfl) (by kernel_rfl) (by kernel_rfl) (fun _ _ _ h => h) (Or.inl ⟨by rfl, ?hy211⟩) (by assumption) ?_
                  case hy211 => (intro w hSw; (try dsimp only at hSw); go_simp; try (with_reducible rfl))
                  (try simp only [Act.put, qa_, qb_, qc_])
                  refine wpAnyH_take (i := 29) (oi := ⟨some 179, _, _, _, _, _⟩) (v := ?v212) rfl (by kernel_rfl) (by kernel_rfl) (by kernel_rfl) (fun _ _ _ h => h) (Or.inl ⟨by rfl, ?hy212⟩) (by assumption) ?_
                  case hy212 => (intro w hSw; (try dsimp only at hSw); go_simp; try (with_reducible rfl))
                  (try simp only [Act.put, qa_, qb_, qc_])
                  refine wpAnyH_take (i := 30) (oi := ⟨some 180, _, _, _, _, _⟩) (v := ?v213) rfl (by kernel_rfl) (by kernel_rfl) (by kernel_rfl) (fun _ _ _ h => h) (Or.inl ⟨by rfl, ?hy213⟩) (by assumption) ?_
                  case hy213 => (intro w hSw; (try dsimp only at hSw); go_simp; try (with_reducible rfl))
                  (try simp only [Act.put, qa_, qb_, qc_])
                  refine wpAnyH_ready (rs := [31]) (by kernel_rfl) (by simp) ?_
                  refine AllReadyH.cons rfl (fun K hK => ?_) ?_
                  · go_simp
                    go_at_call 51
                    refine (s_l7sent _ (rowR_head (tSent.row.reach hS1 ?hBq) (by omega)) (by omega)).mono ?_
                    case hBq => exact (belx)
                    rintro e wq ⟨rfl, rfl⟩
                    rw [HQ.out]
                    go_wp2_with fail
                    refine hK.out _ _ (by exact ⟨Y0.cell 0, Y0.cell 1, Y0.cell 2, Z0.cell 5⟩) (fun hHeld => ?_)
                    clear hK K
                    (try simp only [Act.put, qa_, qb_, qc_])
                    refine wpAnyH_take (i := 32) (oi := ⟨some 182, _, _, _, _, _⟩) (v := ?v214) rfl (by kernel_rfl) (by kernel_rfl) (by kernel_rfl) (fun _ _ _ h => h) (Or.inl ⟨by rfl, ?hy214⟩) (by assumption) ?_
                    case hy214 => (intro w hSw; (try dsimp only at hSw); go_simp; try (with_reducible rfl))
                    (try simp only [Act.put, qa_, qb_, qc_])
                    refine wpAnyH_take (i := 33) (oi := ⟨some 183, _, _, _, _, _⟩) (v := ?v215) rfl (by kernel_rfl) (by kernel_rfl) (by kernel_rfl) (fun _ _ _ h => h) (Or.inl ⟨by rfl, ?hy215⟩) (by assumption) ?_
                    case hy215 => (intro w hSw; (try dsimp only at hSw); go_simp; try (with_reducible rfl))
                    (try simp only [Act.put, qa_, qb_, qc_])
                    refine wpAnyH_done (by kernel_rfl) ?_ _
                    go_wp2
                    go_ret
                    exact ⟨rfl, bel_trans hB1 (belx)⟩
                  exact AllReadyH.nil
              have dd5 : decide (0 ≤ q) = false := by first | exact decide_eq_false g6 | (simp; omega)
              have HAT := Lib.hid (show SnK snt (j + 1) from SnK.succ HG.out HA.out ⟨⟨by have := HY.out; omega, by have := HY.out; omega⟩, ⟨by have := HZ.out; omega, by have := HZ.out; omega⟩, by have := HLM.out; omega⟩ (fun hh => g6 (HGE.out.2 (by rw [← HY.out]; exact hh))))
              go_wp2_with fail
              have Y0 : Box (wr.alloc (.cells #[.int .i64 y, .int .i64 z, .slice B2 m2 d2] 78)) wr.heap.size 78 #[.int .i64 y, .int .i64 z, .slice B2 m2 d2] := Box.new _ _ _
              have Z0 := X.alloc (.cells #[.int .i64 y, .int .i64 z, .slice B2 m2 d2] 78)
              refine wp_region_held_drew (S := (fun w' => w'.cell? ⟨wr.heap.size, 0, none⟩ = some (.int .i64 y) ∧ w'.cell? ⟨wr.heap.size, 1, none⟩ = some (.int .i64 z) ∧ w'.cell? ⟨wr.heap.size, 2, none⟩ = some (.slice B2 m2 d2) ∧ w'.cell? ⟨w.heap.size, 5, none⟩ = some (.slice (some ⟨b', off, none⟩) n5 c5))) (by kernel_rfl) (by exact ⟨Y0.cell 0, Y0.cell 1, Y0.cell 2, Z0.cell 5⟩) (fun hHeld => ?_)
              refine wpAnyH_take (i := 0) (oi := ⟨some 150, _, _, _, _, _⟩) (v := ?v216) rfl (by kernel_rfl) (by kernel_rfl) (by kernel_rfl) (fun _ _ _ h => h) (Or.inl ⟨by rfl, ?hy216⟩) (by assumption) ?_
              case hy216 => (intro w hSw; (try dsimp only at hSw); go_simp; try (with_reducible rfl))
              (try simp only [Act.put, qa_, qb_, qc_])
              refine wpAnyH_take (i := 1) (oi := ⟨some 151, _, _, _, _, _⟩) (v := ?v217) rfl (by kernel_rfl) (by kernel_rfl) (by kernel_rfl) (fun _ _ _ h => h) (Or.inl ⟨by rfl, ?hy217⟩) (by assumption) ?_
              case hy217 => (intro w hSw; (try dsimp only at hSw); go_simp; try (with_reducible rfl))
              (try simp only [Act.put, qa_, qb_, qc_])
              refine wpAnyH_take (i := 2) (oi := ⟨some 152, _, _, _, _, _⟩) (v := ?v218) rfl (by kernel_rfl) (by kernel_rfl) (by kernel_rfl) (fun _ _ _ h => h) (Or.inl ⟨by rfl, ?hy218⟩) (by assumption) ?_
              case hy218 => (intro w hSw; (try dsimp only at hSw); go_simp; try (with_reducible rfl))
              (try simp only [Act.put, qa_, qb_, qc_])
              refine wpAnyH_take (i := 3) (oi := ⟨some 153, _, _, _, _, _⟩) (v := ?v219) rfl (by kernel_rfl) (by kernel_rfl) (by kernel_rfl) (fun _ _ _ h => h) (Or.inl ⟨by rfl, ?hy219⟩) (by assumption) ?_
              case hy219 => (intro w hSw; (try dsimp only at hSw); go_simp; try (with_reducible rfl))
              (try simp only [Act.put, qa_, qb_, qc_])
              refine wpAnyH_take (i := 4) (oi := ⟨some 154, _, _, _, _, _⟩) (v := ?v220) rfl (by kernel_rfl) (by kernel_rfl) (by kernel_rfl) (fun _ _ _ h => h) (Or.inl ⟨by rfl, ?hy220⟩) (by assumption) ?_
              case hy220 => (intro w hSw; (try dsimp only at hSw); go_simp; try (with_reducible rfl))
              (try simp only [Act.put, qa_, qb_, qc_])
              refine wpAnyH_take (i := 5) (oi := ⟨some 155, _, _, _, _, _⟩) (v := ?v221) rfl (by kernel_rfl) (by kernel_rfl) (by kernel_rfl) (fun _ _ _ h => h) (Or.inl ⟨by rfl, ?hy221⟩) (by assumption) ?_
              case hy221 => (intro w hSw; (try dsimp only at hSw); go_simp; try (with_reducible rfl))
              (try simp only [Act.put, qa_, qb_, qc_])
              refine wpAnyH_take (i := 6) (oi := ⟨some 156, _, _, _, _, _⟩) (v := ?v222) rfl (by kernel_rfl) (by kernel_rfl) (by kernel_rfl) (fun _ _ _ h => h) (Or.inl ⟨by rfl, ?hy222⟩) (by assumption) ?_
              case hy222 => (intro w hSw; (try dsimp only at hSw); go_simp; try (with_reducible rfl))
              (try simp only [Act.put, qa_, qb_, qc_])
              refine wpAnyH_take (i := 7) (oi := ⟨some 157, _, _, _, _, _⟩) (v := ?v223) rfl (by kernel_rfl) (by kernel_rfl) (by kernel_rfl) (fun _ _ _ h => h) (Or.inl ⟨by rfl, ?hy223⟩) (by assumption) ?_
              case hy223 => (intro w hSw; (try dsimp only at hSw); go_simp; try (with_reducible rfl))
              (try simp only [Act.put, qa_, qb_, qc_])
              refine wpAnyH_take (i := 8) (oi := ⟨some 158, _, _, _, _, _⟩) (v := ?v224) rfl (by kernel_rfl) (by kernel_rfl) (by kernel_rfl) (fun _ _ _ h => h) (Or.inl ⟨by rfl, ?hy224⟩) (by assumption) ?_
              case hy224 => (intro w hSw; (try dsimp only at hSw); go_simp; try (with_reducible rfl))
              (try simp only [Act.put, qa_, qb_, qc_])
              refine wpAnyH_take (i := 9) (oi := ⟨some 159, _, _, _, _, _⟩) (v := ?v225) rfl (by kernel_rfl) (by kernel_rfl) (by kernel_rfl) (fun _ _ _ h => h) (Or.inl ⟨by rfl, ?hy225⟩) (by assumption) ?_
              case hy225 => (intro w hSw; (try dsimp only at hSw); go_simp; try (with_reducible rfl))
              (try simp only [Act.put, qa_, qb_, qc_])
              refine wpAnyH_take (i := 10) (oi := ⟨some 160, _, _, _, _, _⟩) (v := ?v226) rfl (by kernel_rfl) (by kernel_rfl) (by kernel_rfl) (fun _ _ _ h => h) (Or.inl ⟨by rfl, ?hy226⟩) (by assumption) ?_
              case hy226 => (intro w hSw; (try dsimp only at hSw); go_simp; try (with_reducible rfl))
              (try simp only [Act.put, qa_, qb_, qc_])
              refine wpAnyH_take (i := 11) (oi := ⟨some 161, _, _, _, _, _⟩) (v := ?v227) rfl (by kernel_rfl) (by kernel_rfl) (by kernel_rfl) (fun _ _ _ h => h) (Or.inl ⟨by rfl, ?hy227⟩) (by assumption) ?_
              case hy227 => (intro w hSw; (try dsimp only at hSw); go_simp; try (with_reducible rfl))
              (try simp only [Act.put, qa_, qb_, qc_])
              refine wpAnyH_take (i := 12) (oi := ⟨some 162, _, _, _, _, _⟩) (v := ?v228) rfl (by kernel_rfl) (by kernel_rfl) (by kernel_rfl) (fun _ _ _ h => h) (Or.inl ⟨by rfl, ?hy228⟩) (by assumption) ?_
              case hy228 => (intro w hSw; (try dsimp only at hSw); go_simp; try (with_reducible rfl))
              (try simp only [Act.put, qa_, qb_, qc_])
              refine wpAnyH_take (i := 13) (oi := ⟨some 163, _, _, _, _, _⟩) (v := ?v229) rfl (by kernel_rfl) (by kernel_rfl) (by kernel_rfl) (fun _ _ _ h => h) (Or.inl ⟨by rfl, ?hy229⟩) (by assumption) ?_
              case hy229 => (intro w hSw; (try dsimp only at hSw); go_simp; try (with_reducible rfl))
              (try simp only [Act.put, qa_, qb_, qc_])
              refine wpAnyH_take (i := 14) (oi := ⟨some 164, _, _, _, _, _⟩) (v := ?v230) rfl (by kernel_rfl) (by kernel_rfl) (by kernel_rfl) (fun _ _ _ h => h) (Or.inl ⟨by rfl, ?hy230⟩) (by assumption) ?_
              case hy230 => (intro w hSw; (try dsimp only at hSw); go_simp; try (with_reducible rfl))
              (try simp only [Act.put, qa_, qb_, qc_])
              refine wpAnyH_take (i := 15) (oi := ⟨some 165, _, _, _, _, _⟩) (v := ?v231) rfl (by kernel_rfl) (by kernel_rfl) (by kernel_rfl) (fun _ _ _ h => h) (Or.inl ⟨by rfl, ?hy231⟩) (by assumption) ?_
              case hy231 => (intro w hSw; (try dsimp only at hSw); go_simp; try (with_reducible rfl))
              (try simp only [Act.put, qa_, qb_, qc_])
              refine wpAnyH_take (i := 16) (oi := ⟨some 166, _, _, _, _, _⟩) (v := ?v232) rfl (by kernel_rfl) (by kernel_rfl) (by kernel_rfl) (fun _ _ _ h => h) (Or.inl ⟨by rfl, ?hy232⟩) (by assumption) ?_
              case hy232 => (intro w hSw; (try dsimp only at hSw); go_simp; try (with_reducible rfl))
              (try simp only [Act.put, qa_, qb_, qc_])
              refine wpAnyH_take (i := 17) (oi := ⟨some 167, _, _, _, _, _⟩) (v := ?v233) rfl (by kernel_rfl) (by kernel_rfl) (by kernel_rfl) (fun _ _ _ h => h) (Or.inl ⟨by rfl, ?hy233⟩) (by assumption) ?_
              case hy233 => (intro w hSw; (try dsimp only at hSw); go_simp; try (with_reducible rfl))
              (try simp only [Act.put, qa_, qb_, qc_])
              refine wpAnyH_take (i := 18) (oi := ⟨some 168, _, _, _, _, _⟩) (v := ?v234) rfl (by kernel_rfl) (by kernel_rfl) (by kernel_rfl) (fun _ _ _ h => h) (Or.inl ⟨by rfl, ?hy234⟩) (by assumption) ?_
              case hy234 => (intro w hSw; (try dsimp only at hSw); go_simp; try (with_reducible rfl))
              (try simp only [Act.put, qa_, qb_, qc_])
              refine wpAnyH_take (i := 19) (oi := ⟨some 169, _, _, _, _, _⟩) (v := ?v235) rfl (by kernel_rfl) (by kernel_rfl) (by kernel_rfl) (fun _ _ _ h => h) (Or.inl ⟨by rfl, ?hy235⟩) (by assumption) ?_
              case hy235 => (intro w hSw; (try dsimp only at hSw); go_simp; try (with_reducible rfl))
              (try simp only [Act.put, qa_, qb_, qc_])
              refine wpAnyH_take (i := 20) (oi := ⟨some 170, _, _, _, _, _⟩) (v := ?v236) rfl (by kernel_rfl) (by kernel_rfl) (by kernel_rfl) (fun _ _ _ h => h) (Or.inl ⟨by rfl, ?hy236⟩) (by assumption) ?_
              case hy236 => (intro w hSw; (try dsimp only at hSw); go_simp; try (with_reducible rfl))
              (try simp only [Act.put, qa_, qb_, qc_])
              refine wpAnyH_take (i := 21) (oi := ⟨some 171, _, _, _, _, _⟩) (v := ?v237) rfl (by kernel_rfl) (by kernel_rfl) (by kernel_rfl) (fun _ _ _ h => h) (Or.inl ⟨by rfl, ?hy237⟩) (by assumption) ?_
              case hy237 => (intro w hSw; (try dsimp only at hSw); go_simp; try (with_reducible rfl))
              (try simp only [Act.put, qa_, qb_, qc_])
              refine wpAnyH_take (i := 22) (oi := ⟨some 172, _, _, _, _, _⟩) (v := ?v238) rfl (by kernel_rfl) (by kernel_rfl) (by kernel_rfl) (fun _ _ _ h => h) (Or.inl ⟨by rfl, ?hy238⟩) (by assumption) ?_
              case hy238 => (intro w hSw; (try dsimp only at hSw); go_simp; try (with_reducible rfl))
              (try simp only [Act.put, qa_, qb_, qc_])
              refine wpAnyH_take (i := 23) (oi := ⟨some 173, _, _, _, _, _⟩) (v := ?v239) rfl (by kernel_rfl) (by kernel_rfl) (by kernel_rfl) (fun _ _ _ h => h) (Or.inl ⟨by rfl, ?hy239⟩) (by assumption) ?_
              case hy239 => (intro w hSw; (try dsimp only at hSw); go_simp; try (with_reducible rfl))
              (try simp only [Act.put, qa_, qb_, qc_])
              refine wpAnyH_take (i := 24) (oi := ⟨some 174, _, _, _, _, _⟩) (v := ?v240) rfl (by kernel_rfl) (by kernel_rfl) (by kernel_rfl) (fun _ _ _ h => h) (Or.inl ⟨by rfl, ?hy240⟩) (by assumption) ?_
              case hy240 => (intro w hSw; (try dsimp only at hSw); go_simp; try (with_reducible rfl))
              (try simp only [Act.put, qa_, qb_, qc_])
              refine wpAnyH_take (i := 25) (oi := ⟨some 175, _, _, _, _, _⟩) (v := ?v241) rfl (by kernel_rfl) (by kernel_rfl) (by kernel_rfl) (fun _ _ _ h => h) (Or.inl ⟨by rfl, ?hy241⟩) (by assumption) ?_
              case hy241 => (intro w hSw; (try dsimp only at hSw); go_simp; try (with_reducible rfl))
              (try simp only [Act.put, qa_, qb_, qc_])
              refine wpAnyH_take (i := 26) (oi := ⟨some 176, _, _, _, _, _⟩) (v := ?v242) rfl (by kernel_rfl) (by kernel_rfl) (by kernel_rfl) (fun _ _ _ h => h) (Or.inl ⟨by rfl, ?hy242⟩) (by assumption) ?_
              case hy242 => (intro w hSw; (try dsimp only at hSw); go_simp; try (with_reducible rfl))
              (try simp only [Act.put, qa_, qb_, qc_])
              refine wpAnyH_take (i := 27) (oi := ⟨some 177, _, _, _, _, _⟩) (v := ?v243) rfl (by kernel_rfl) (by kernel_rfl) (by kernel_rfl) (fun _ _ _ h => h) (Or.inl ⟨by rfl, ?hy243⟩) (by assumption) ?_
              case hy243 => (intro w hSw; (try dsimp only at hSw); go_simp; try (with_reducible rfl))
              (try simp only [Act.put, qa_, qb_, qc_])
              refine wpAnyH_take (i := 28) (oi := ⟨some 178, _, _, _, _, _⟩) (v := ?v244) rfl (by kernel_rfl) (by kernel_rfl) (by kernel_rfl) (fun _ _ _ h => h) (Or.inl ⟨by rfl, ?hy244⟩) (by assumption) ?_
              case hy244 => (intro w hSw; (try dsimp only at hSw); go_simp; try (with_reducible rfl))
              (try simp only [Act.put, qa_, qb_, qc_])
              refine wpAnyH_take (i := 29) (oi := ⟨some 179, _, _, _, _, _⟩) (v := ?v245) rfl (by kernel_rfl) (by kernel_rfl) (by kernel_rfl) (fun _ _ _ h => h) (Or.inl ⟨by rfl, ?hy245⟩) (by assumption) ?_
              case hy245 => (intro w hSw; (try dsimp only at hSw); go_simp; try (with_reducible rfl))
              (try simp only [Act.put, qa_, qb_, qc_])
              refine wpAnyH_take (i := 30) (oi := ⟨some 180, _, _, _, _, _⟩) (v := ?v246) rfl (by kernel_rfl) (by kernel_rfl) (by kernel_rfl) (fun _ _ _ h => h) (Or.inl ⟨by rfl, ?hy246⟩) (by assumption) ?_
              case hy246 => (intro w hSw; (try dsimp only at hSw); go_simp; try (with_reducible rfl))
              (try simp only [Act.put, qa_, qb_, qc_])
              refine wpAnyH_ready (rs := [31]) (by kernel_rfl) (by simp) ?_
              refine AllReadyH.cons rfl (fun K hK => ?_) ?_
              · go_simp
                go_at_call 51
                refine (s_l7sent _ (rowR_head (tSent.row.reach hS1 ?hBq) (by omega)) (by omega)).mono ?_
                case hBq => exact (belx)
                rintro e wq ⟨rfl, rfl⟩
                rw [HQ.out]
                go_wp2_with fail
                refine hK.out _ _ (by exact ⟨Y0.cell 0, Y0.cell 1, Y0.cell 2, Z0.cell 5⟩) (fun hHeld => ?_)
                clear hK K
                (try simp only [Act.put, qa_, qb_, qc_])
                refine wpAnyH_take (i := 32) (oi := ⟨some 182, _, _, _, _, _⟩) (v := ?v247) rfl (by kernel_rfl) (by kernel_rfl) (by kernel_rfl) (fun _ _ _ h => h) (Or.inl ⟨by rfl, ?hy247⟩) (by assumption) ?_
                case hy247 => (intro w hSw; (try dsimp only at hSw); go_simp; try (with_reducible rfl))
                (try simp only [Act.put, qa_, qb_, qc_])
                refine wpAnyH_take (i := 33) (oi := ⟨some 183, _, _, _, _, _⟩) (v := ?v248) rfl (by kernel_rfl) (by kernel_rfl) (by kernel_rfl) (fun _ _ _ h => h) (Or.inl ⟨by rfl, ?hy248⟩) (by assumption) ?_
                case hy248 => (intro w hSw; (try dsimp only at hSw); go_simp; try (with_reducible rfl))
                (try simp only [Act.put, qa_, qb_, qc_])
                refine wpAnyH_done (by kernel_rfl) ?_ _
                go_wp2
                go_roundw
                case rel => first | exact ⟨j + 1, by omega, by go_num, (belx), HAT.out⟩ | ((repeat apply Exists.intro); exact ⟨⟨j + 1, by omega, by go_num, (belx), HAT.out⟩, rfl⟩)
                case measure => simp [intOf]; omega
              exact AllReadyH.nil
            · obtain rfl : n5 = j := by omega
              have HS := Lib.hid (SnK.all HG.out (Nat.le_of_eq E5.out))
              clear X HG
              have k6 : wr.cell? ⟨w.heap.size, 6, none⟩ = some (.slice A6 n6 c6) := by have X := X1.below hB X1.size; exact X.cell 6
              go_wp2_with fail
              clear kk hlt
              go_loopw [9] (fun i wr => ∃ j : Nat, j ≤ n6 ∧ i = .int .i64 j ∧ Below w1.heap.size w1 wr ∧ ∀ m ∈ sen.take j, GlOk x0 m) (fun i _ => n6 - (intOf i).toNat)
              case atStart => exact ⟨0, by omega, rfl, hB, al0⟩
              case round =>
                clear k6 hB
                obtain ⟨j, hj, rfl, hB, hG⟩ := hrel
                have HG := Lib.hid hG
                clear hG
                have X := X1.below hB X1.size
                have k0 : wr.cell? ⟨w.heap.size, 0, none⟩ = some (.int .i64 x0) := X.cell 0
                have kk : wr.cell? ⟨w.heap.size, 6, none⟩ = some (.slice A6 n6 c6) := X.cell 6
                by_cases hlt : j < n6
                · obtain ⟨a, b', off, es, hl2, rfl, hb, hes, hR⟩ := rowR_at (K := 2) hG1 hlt rfl
                  have HA := Lib.hid hl2
                  obtain ⟨rfl, -, -⟩ := openGlance hR
                  obtain ⟨y, hy⟩ : ∃ y, a.1 = y := ⟨_, rfl⟩
                  obtain ⟨z, hz⟩ : ∃ z, a.2 = z := ⟨_, rfl⟩
                  rw [hy, hz] at hes
                  have HY := Lib.hid hy
                  have HZ := Lib.hid hz
                  have u0 : wr.cell? ⟨b', off + j * 2, none⟩ = some (.int .i64 y) := cell_at hB hb (hes 0 (by omega))
                  have u1 : wr.cell? ⟨b', off + j * 2 + 1, none⟩ = some (.int .i64 z) := cell_at hB hb (hes 1 (by omega))
                  have i1 : (j : Int) < (n6 : Int) := by omega
                  have i2 : (0 : Int) ≤ (j : Int) := by omega
                  clear hes hR hl2 hy hz
                  by_cases g1 : y < 0
                  · obtain rfl := HF.out (fun h => by have := (h.2.2.2.2.1 a (alMem HA.out)).1.1; have := HY.out; have := HZ.out; (try dsimp only at *); omega)
                    have dd0 : decide (y < 0) = true := by first | exact decide_eq_true g1 | (simp; omega)
                    clear HT HF
                    as_aux_lemma =>
                      go_wp2_with fail
                      refine wp_region_held_drew (S := (fun w' => w'.cell? ⟨b', off + j * 2, none⟩ = some (.int .i64 y) ∧ w'.cell? ⟨b', off + j * 2 + 1, none⟩ = some (.int .i64 z) ∧ w'.cell? ⟨w.heap.size, 0, none⟩ = some (.int .i64 x0) ∧ w'.cell? ⟨w.heap.size, 6, none⟩ = some (.slice (some ⟨b', off, none⟩) n6 c6))) (by kernel_rfl) (by exact ⟨u0, u1, k0, kk⟩) (fun hHeld => ?_)
                      refine wpAnyH_take (i := 0) (oi := ⟨some 191, _, _, _, _, _⟩) (v := ?v249) rfl (by kernel_rfl) (by kernel_rfl) (by kernel_rfl) (fun _ _ _ h => h) (Or.inl ⟨by rfl, ?hy249⟩) (by assumption) ?_
                      case hy249 => (intro w hSw; (try dsimp only at hSw); go_simp; try (with_reducible rfl))
                      (try simp only [Act.put, qa_, qb_, qc_])
                      refine wpAnyH_take (i := 1) (oi := ⟨some 192, _, _, _, _, _⟩) (v := ?v250) rfl (by kernel_rfl) (by kernel_rfl) (by kernel_rfl) (fun _ _ _ h => h) (Or.inl ⟨by rfl, ?hy250⟩) (by assumption) ?_
                      case hy250 => (intro w hSw; (try dsimp only at hSw); go_simp; try (with_reducible rfl))
                      (try simp only [Act.put, qa_, qb_, qc_])
                      refine wpAnyH_take (i := 2) (oi := ⟨some 193, _, _, _, _, _⟩) (v := ?v251) rfl (by kernel_rfl) (by kernel_rfl) (by kernel_rfl) (fun _ _ _ h => h) (Or.inl ⟨by rfl, ?hy251⟩) (by assumption) ?_
                      case hy251 => (intro w hSw; (try dsimp only at hSw); go_simp; try (with_reducible rfl))
                      (try simp only [Act.put, qa_, qb_, qc_])
                      refine wpAnyH_take (i := 3) (oi := ⟨some 194, _, _, _, _, _⟩) (v := ?v252) rfl (by kernel_rfl) (by kernel_rfl) (by kernel_rfl) (fun _ _ _ h => h) (Or.inl ⟨by rfl, ?hy252⟩) (by assumption) ?_
                      case hy252 => (intro w hSw; (try dsimp only at hSw); go_simp; try (with_reducible rfl))
                      (try simp only [Act.put, qa_, qb_, qc_])
                      refine wpAnyH_take (i := 4) (oi := ⟨some 195, _, _, _, _, _⟩) (v := ?v253) rfl (by kernel_rfl) (by kernel_rfl) (by kernel_rfl) (fun _ _ _ h => h) (Or.inl ⟨by rfl, ?hy253⟩) (by assumption) ?_
                      case hy253 => (intro w hSw; (try dsimp only at hSw); go_simp; try (with_reducible rfl))
                      (try simp only [Act.put, qa_, qb_, qc_])
                      refine wpAnyH_take (i := 5) (oi := ⟨some 196, _, _, _, _, _⟩) (v := ?v254) rfl (by kernel_rfl) (by kernel_rfl) (by kernel_rfl) (fun _ _ _ h => h) (Or.inl ⟨by rfl, ?hy254⟩) (by assumption) ?_
                      case hy254 => (intro w hSw; (try dsimp only at hSw); go_simp; try (with_reducible rfl))
                      (try simp only [Act.put, qa_, qb_, qc_])
                      refine wpAnyH_take (i := 6) (oi := ⟨some 197, _, _, _, _, _⟩) (v := ?v255) rfl (by kernel_rfl) (by kernel_rfl) (by kernel_rfl) (fun _ _ _ h => h) (Or.inl ⟨by rfl, ?hy255⟩) (by assumption) ?_
                      case hy255 => (intro w hSw; (try dsimp only at hSw); go_simp; try (with_reducible rfl))
                      (try simp only [Act.put, qa_, qb_, qc_])
                      refine wpAnyH_take (i := 7) (oi := ⟨some 198, _, _, _, _, _⟩) (v := ?v256) rfl (by kernel_rfl) (by kernel_rfl) (by kernel_rfl) (fun _ _ _ h => h) (Or.inl ⟨by rfl, ?hy256⟩) (by assumption) ?_
                      case hy256 => (intro w hSw; (try dsimp only at hSw); go_simp; try (with_reducible rfl))
                      (try simp only [Act.put, qa_, qb_, qc_])
                      refine wpAnyH_take (i := 8) (oi := ⟨some 199, _, _, _, _, _⟩) (v := undef) rfl (by kernel_rfl) (by kernel_rfl) (by kernel_rfl) (fun _ _ _ h => h) (Or.inr ⟨by rfl, rfl⟩) (by assumption) ?_
                      (try simp only [Act.put, qa_, qb_, qc_])
                      refine wpAnyH_take (i := 9) (oi := ⟨some 200, _, _, _, _, _⟩) (v := undef) rfl (by kernel_rfl) (by kernel_rfl) (by kernel_rfl) (fun _ _ _ h => h) (Or.inr ⟨by rfl, rfl⟩) (by assumption) ?_
                      (try simp only [Act.put, qa_, qb_, qc_])
                      refine wpAnyH_take (i := 10) (oi := ⟨some 201, _, _, _, _, _⟩) (v := undef) rfl (by kernel_rfl) (by kernel_rfl) (by kernel_rfl) (fun _ _ _ h => h) (Or.inr ⟨by rfl, rfl⟩) (by assumption) ?_
                      (try simp only [Act.put, qa_, qb_, qc_])
                      refine wpAnyH_take (i := 11) (oi := ⟨some 202, _, _, _, _, _⟩) (v := undef) rfl (by kernel_rfl) (by kernel_rfl) (by kernel_rfl) (fun _ _ _ h => h) (Or.inr ⟨by rfl, rfl⟩) (by assumption) ?_
                      (try simp only [Act.put, qa_, qb_, qc_])
                      refine wpAnyH_take (i := 12) (oi := ⟨some 203, _, _, _, _, _⟩) (v := undef) rfl (by kernel_rfl) (by kernel_rfl) (by kernel_rfl) (fun _ _ _ h => h) (Or.inr ⟨by rfl, rfl⟩) (by assumption) ?_
                      (try simp only [Act.put, qa_, qb_, qc_])
                      refine wpAnyH_take (i := 13) (oi := ⟨some 204, _, _, _, _, _⟩) (v := undef) rfl (by kernel_rfl) (by kernel_rfl) (by kernel_rfl) (fun _ _ _ h => h) (Or.inr ⟨by rfl, rfl⟩) (by assumption) ?_
                      (try simp only [Act.put, qa_, qb_, qc_])
                      refine wpAnyH_take (i := 14) (oi := ⟨some 205, _, _, _, _, _⟩) (v := undef) rfl (by kernel_rfl) (by kernel_rfl) (by kernel_rfl) (fun _ _ _ h => h) (Or.inr ⟨by rfl, rfl⟩) (by assumption) ?_
                      (try simp only [Act.put, qa_, qb_, qc_])
                      refine wpAnyH_take (i := 15) (oi := ⟨some 206, _, _, _, _, _⟩) (v := undef) rfl (by kernel_rfl) (by kernel_rfl) (by kernel_rfl) (fun _ _ _ h => h) (Or.inr ⟨by rfl, rfl⟩) (by assumption) ?_
                      (try simp only [Act.put, qa_, qb_, qc_])
                      refine wpAnyH_take (i := 16) (oi := ⟨some 207, _, _, _, _, _⟩) (v := undef) rfl (by kernel_rfl) (by kernel_rfl) (by kernel_rfl) (fun _ _ _ h => h) (Or.inr ⟨by rfl, rfl⟩) (by assumption) ?_
                      (try simp only [Act.put, qa_, qb_, qc_])
                      refine wpAnyH_take (i := 17) (oi := ⟨some 208, _, _, _, _, _⟩) (v := ?v257) rfl (by kernel_rfl) (by kernel_rfl) (by kernel_rfl) (fun _ _ _ h => h) (Or.inl ⟨by rfl, ?hy257⟩) (by assumption) ?_
                      case hy257 => (intro w hSw; (try dsimp only at hSw); go_simp; try (with_reducible rfl))
                      (try simp only [Act.put, qa_, qb_, qc_])
                      refine wpAnyH_take (i := 18) (oi := ⟨some 209, _, _, _, _, _⟩) (v := ?v258) rfl (by kernel_rfl) (by kernel_rfl) (by kernel_rfl) (fun _ _ _ h => h) (Or.inl ⟨by rfl, ?hy258⟩) (by assumption) ?_
                      case hy258 => (intro w hSw; (try dsimp only at hSw); go_simp; try (with_reducible rfl))
                      (try simp only [Act.put, qa_, qb_, qc_])
                      refine wpAnyH_take (i := 19) (oi := ⟨some 210, _, _, _, _, _⟩) (v := undef) rfl (by kernel_rfl) (by kernel_rfl) (by kernel_rfl) (fun _ _ _ h => h) (Or.inr ⟨by rfl, rfl⟩) (by assumption) ?_
                      (try simp only [Act.put, qa_, qb_, qc_])
                      refine wpAnyH_take (i := 20) (oi := ⟨some 211, _, _, _, _, _⟩) (v := undef) rfl (by kernel_rfl) (by kernel_rfl) (by kernel_rfl) (fun _ _ _ h => h) (Or.inr ⟨by rfl, rfl⟩) (by assumption) ?_
                      (try simp only [Act.put, qa_, qb_, qc_])
                      refine wpAnyH_take (i := 21) (oi := ⟨some 212, _, _, _, _, _⟩) (v := undef) rfl (by kernel_rfl) (by kernel_rfl) (by kernel_rfl) (fun _ _ _ h => h) (Or.inr ⟨by rfl, rfl⟩) (by assumption) ?_
                      (try simp only [Act.put, qa_, qb_, qc_])
                      refine wpAnyH_take (i := 22) (oi := ⟨some 213, _, _, _, _, _⟩) (v := undef) rfl (by kernel_rfl) (by kernel_rfl) (by kernel_rfl) (fun _ _ _ h => h) (Or.inr ⟨by rfl, rfl⟩) (by assumption) ?_
                      (try simp only [Act.put, qa_, qb_, qc_])
                      refine wpAnyH_take (i := 23) (oi := ⟨some 214, _, _, _, _, _⟩) (v := undef) rfl (by kernel_rfl) (by kernel_rfl) (by kernel_rfl) (fun _ _ _ h => h) (Or.inr ⟨by rfl, rfl⟩) (by assumption) ?_
                      (try simp only [Act.put, qa_, qb_, qc_])
                      refine wpAnyH_take (i := 24) (oi := ⟨some 215, _, _, _, _, _⟩) (v := undef) rfl (by kernel_rfl) (by kernel_rfl) (by kernel_rfl) (fun _ _ _ h => h) (Or.inr ⟨by rfl, rfl⟩) (by assumption) ?_
                      (try simp only [Act.put, qa_, qb_, qc_])
                      refine wpAnyH_take (i := 25) (oi := ⟨some 216, _, _, _, _, _⟩) (v := undef) rfl (by kernel_rfl) (by kernel_rfl) (by kernel_rfl) (fun _ _ _ h => h) (Or.inr ⟨by rfl, rfl⟩) (by assumption) ?_
                      (try simp only [Act.put, qa_, qb_, qc_])
                      refine wpAnyH_take (i := 26) (oi := ⟨some 217, _, _, _, _, _⟩) (v := ?v259) rfl (by kernel_rfl) (by kernel_rfl) (by kernel_rfl) (fun _ _ _ h => h) (Or.inl ⟨by rfl, ?hy259⟩) (by assumption) ?_
                      case hy259 => (intro w hSw; (try dsimp only at hSw); go_simp; try (with_reducible rfl))
                      (try simp only [Act.put, qa_, qb_, qc_])
                      refine wpAnyH_take (i := 27) (oi := ⟨some 218, _, _, _, _, _⟩) (v := ?v260) rfl (by kernel_rfl) (by kernel_rfl) (by kernel_rfl) (fun _ _ _ h => h) (Or.inl ⟨by rfl, ?hy260⟩) (by assumption) ?_
                      case hy260 => (intro w hSw; (try dsimp only at hSw); go_simp; try (with_reducible rfl))
                      (try simp only [Act.put, qa_, qb_, qc_])
                      refine wpAnyH_take (i := 28) (oi := ⟨some 219, _, _, _, _, _⟩) (v := undef) rfl (by kernel_rfl) (by kernel_rfl) (by kernel_rfl) (fun _ _ _ h => h) (Or.inr ⟨by rfl, rfl⟩) (by assumption) ?_
                      (try simp only [Act.put, qa_, qb_, qc_])
                      refine wpAnyH_take (i := 29) (oi := ⟨some 220, _, _, _, _, _⟩) (v := undef) rfl (by kernel_rfl) (by kernel_rfl) (by kernel_rfl) (fun _ _ _ h => h) (Or.inr ⟨by rfl, rfl⟩) (by assumption) ?_
                      (try simp only [Act.put, qa_, qb_, qc_])
                      refine wpAnyH_take (i := 30) (oi := ⟨some 221, _, _, _, _, _⟩) (v := undef) rfl (by kernel_rfl) (by kernel_rfl) (by kernel_rfl) (fun _ _ _ h => h) (Or.inr ⟨by rfl, rfl⟩) (by assumption) ?_
                      (try simp only [Act.put, qa_, qb_, qc_])
                      refine wpAnyH_take (i := 31) (oi := ⟨some 222, _, _, _, _, _⟩) (v := undef) rfl (by kernel_rfl) (by kernel_rfl) (by kernel_rfl) (fun _ _ _ h => h) (Or.inr ⟨by rfl, rfl⟩) (by assumption) ?_
                      (try simp only [Act.put, qa_, qb_, qc_])
                      refine wpAnyH_take (i := 32) (oi := ⟨some 223, _, _, _, _, _⟩) (v := undef) rfl (by kernel_rfl) (by kernel_rfl) (by kernel_rfl) (fun _ _ _ h => h) (Or.inr ⟨by rfl, rfl⟩) (by assumption) ?_
                      (try simp only [Act.put, qa_, qb_, qc_])
                      refine wpAnyH_take (i := 33) (oi := ⟨some 224, _, _, _, _, _⟩) (v := undef) rfl (by kernel_rfl) (by kernel_rfl) (by kernel_rfl) (fun _ _ _ h => h) (Or.inr ⟨by rfl, rfl⟩) (by assumption) ?_
                      (try simp only [Act.put, qa_, qb_, qc_])
                      refine wpAnyH_take (i := 34) (oi := ⟨some 225, _, _, _, _, _⟩) (v := undef) rfl (by kernel_rfl) (by kernel_rfl) (by kernel_rfl) (fun _ _ _ h => h) (Or.inr ⟨by rfl, rfl⟩) (by assumption) ?_
                      (try simp only [Act.put, qa_, qb_, qc_])
                      refine wpAnyH_take (i := 35) (oi := ⟨some 226, _, _, _, _, _⟩) (v := ?v261) rfl (by kernel_rfl) (by kernel_rfl) (by kernel_rfl) (fun _ _ _ h => h) (Or.inl ⟨by rfl, ?hy261⟩) (by assumption) ?_
                      case hy261 => (intro w hSw; (try dsimp only at hSw); go_simp; try (with_reducible rfl))
                      (try simp only [Act.put, qa_, qb_, qc_])
                      refine wpAnyH_done (by kernel_rfl) ?_ _
                      go_wp2
                      go_ret
                      exact ⟨rfl, bel_trans hB1 (belx)⟩
                  have dd0 : decide (y < 0) = false := by first | exact decide_eq_false g1 | (simp; omega)
                  by_cases g2 : x0 < y
                  · obtain rfl := HF.out (fun h => by have := (h.2.2.2.2.1 a (alMem HA.out)).1.2; have := HY.out; have := HZ.out; (try dsimp only at *); omega)
                    have dd1 : decide (x0 < y) = true := by first | exact decide_eq_true g2 | (simp; omega)
                    clear HT HF
                    as_aux_lemma =>
                      go_wp2_with fail
                      refine wp_region_held_drew (S := (fun w' => w'.cell? ⟨b', off + j * 2, none⟩ = some (.int .i64 y) ∧ w'.cell? ⟨b', off + j * 2 + 1, none⟩ = some (.int .i64 z) ∧ w'.cell? ⟨w.heap.size, 0, none⟩ = some (.int .i64 x0) ∧ w'.cell? ⟨w.heap.size, 6, none⟩ = some (.slice (some ⟨b', off, none⟩) n6 c6))) (by kernel_rfl) (by exact ⟨u0, u1, k0, kk⟩) (fun hHeld => ?_)
                      refine wpAnyH_take (i := 0) (oi := ⟨some 191, _, _, _, _, _⟩) (v := ?v262) rfl (by kernel_rfl) (by kernel_rfl) (by kernel_rfl) (fun _ _ _ h => h) (Or.inl ⟨by rfl, ?hy262⟩) (by assumption) ?_
                      case hy262 => (intro w hSw; (try dsimp only at hSw); go_simp; try (with_reducible rfl))
                      (try simp only [Act.put, qa_, qb_, qc_])
                      refine wpAnyH_take (i := 1) (oi := ⟨some 192, _, _, _, _, _⟩) (v := ?v263) rfl (by kernel_rfl) (by kernel_rfl) (by kernel_rfl) (fun _ _ _ h => h) (Or.inl ⟨by rfl, ?hy263⟩) (by assumption) ?_
                      case hy263 => (intro w hSw; (try dsimp only at hSw); go_simp; try (with_reducible rfl))
                      (try simp only [Act.put, qa_, qb_, qc_])
                      refine wpAnyH_take (i := 2) (oi := ⟨some 193, _, _, _, _, _⟩) (v := ?v264) rfl (by kernel_rfl) (by kernel_rfl) (by kernel_rfl) (fun _ _ _ h => h) (Or.inl ⟨by rfl, ?hy264⟩) (by assumption) ?_
                      case hy264 => (intro w hSw; (try dsimp only at hSw); go_simp; try (with_reducible rfl))
                      (try simp only [Act.put, qa_, qb_, qc_])
                      refine wpAnyH_take (i := 3) (oi := ⟨some 194, _, _, _, _, _⟩) (v := ?v265) rfl (by kernel_rfl) (by kernel_rfl) (by kernel_rfl) (fun _ _ _ h => h) (Or.inl ⟨by rfl, ?hy265⟩) (by assumption) ?_
                      case hy265 => (intro w hSw; (try dsimp only at hSw); go_simp; try (with_reducible rfl))
                      (try simp only [Act.put, qa_, qb_, qc_])
                      refine wpAnyH_take (i := 4) (oi := ⟨some 195, _, _, _, _, _⟩) (v := ?v266) rfl (by kernel_rfl) (by kernel_rfl) (by kernel_rfl) (fun _ _ _ h => h) (Or.inl ⟨by rfl, ?hy266⟩) (by assumption) ?_
                      case hy266 => (intro w hSw; (try dsimp only at hSw); go_simp; try (with_reducible rfl))
                      (try simp only [Act.put, qa_, qb_, qc_])
                      refine wpAnyH_take (i := 5) (oi := ⟨some 196, _, _, _, _, _⟩) (v := ?v267) rfl (by kernel_rfl) (by kernel_rfl) (by kernel_rfl) (fun _ _ _ h => h) (Or.inl ⟨by rfl, ?hy267⟩) (by assumption) ?_
                      case hy267 => (intro w hSw; (try dsimp only at hSw); go_simp; try (with_reducible rfl))
                      (try simp only [Act.put, qa_, qb_, qc_])
                      refine wpAnyH_take (i := 6) (oi := ⟨some 197, _, _, _, _, _⟩) (v := ?v268) rfl (by kernel_rfl) (by kernel_rfl) (by kernel_rfl) (fun _ _ _ h => h) (Or.inl ⟨by rfl, ?hy268⟩) (by assumption) ?_
                      case hy268 => (intro w hSw; (try dsimp only at hSw); go_simp; try (with_reducible rfl))
                      (try simp only [Act.put, qa_, qb_, qc_])
                      refine wpAnyH_take (i := 7) (oi := ⟨some 198, _, _, _, _, _⟩) (v := ?v269) rfl (by kernel_rfl) (by kernel_rfl) (by kernel_rfl) (fun _ _ _ h => h) (Or.inl ⟨by rfl, ?hy269⟩) (by assumption) ?_
                      case hy269 => (intro w hSw; (try dsimp only at hSw); go_simp; try (with_reducible rfl))
                      (try simp only [Act.put, qa_, qb_, qc_])
                      refine wpAnyH_take (i := 8) (oi := ⟨some 199, _, _, _, _, _⟩) (v := ?v270) rfl (by kernel_rfl) (by kernel_rfl) (by kernel_rfl) (fun _ _ _ h => h) (Or.inl ⟨by rfl, ?hy270⟩) (by assumption) ?_
                      case hy270 => (intro w hSw; (try dsimp only at hSw); go_simp; try (with_reducible rfl))
                      (try simp only [Act.put, qa_, qb_, qc_])
                      refine wpAnyH_take (i := 9) (oi := ⟨some 200, _, _, _, _, _⟩) (v := ?v271) rfl (by kernel_rfl) (by kernel_rfl) (by kernel_rfl) (fun _ _ _ h => h) (Or.inl ⟨by rfl, ?hy271⟩) (by assumption) ?_
                      case hy271 => (intro w hSw; (try dsimp only at hSw); go_simp; try (with_reducible rfl))
                      (try simp only [Act.put, qa_, qb_, qc_])
                      refine wpAnyH_take (i := 10) (oi := ⟨some 201, _, _, _, _, _⟩) (v := ?v272) rfl (by kernel_rfl) (by kernel_rfl) (by kernel_rfl) (fun _ _ _ h => h) (Or.inl ⟨by rfl, ?hy272⟩) (by assumption) ?_
                      case hy272 => (intro w hSw; (try dsimp only at hSw); go_simp; try (with_reducible rfl))
                      (try simp only [Act.put, qa_, qb_, qc_])
                      refine wpAnyH_take (i := 11) (oi := ⟨some 202, _, _, _, _, _⟩) (v := ?v273) rfl (by kernel_rfl) (by kernel_rfl) (by kernel_rfl) (fun _ _ _ h => h) (Or.inl ⟨by rfl, ?hy273⟩) (by assumption) ?_
                      case hy273 => (intro w hSw; (try dsimp only at hSw); go_simp; try (with_reducible rfl))
                      (try simp only [Act.put, qa_, qb_, qc_])
                      refine wpAnyH_take (i := 12) (oi := ⟨some 203, _, _, _, _, _⟩) (v := ?v274) rfl (by kernel_rfl) (by kernel_rfl) (by kernel_rfl) (fun _ _ _ h => h) (Or.inl ⟨by rfl, ?hy274⟩) (by assumption) ?_
                      case hy274 => (intro w hSw; (try dsimp only at hSw); go_simp; try (with_reducible rfl))
                      (try simp only [Act.put, qa_, qb_, qc_])
                      refine wpAnyH_take (i := 13) (oi := ⟨some 204, _, _, _, _, _⟩) (v := ?v275) rfl (by kernel_rfl) (by kernel_rfl) (by kernel_rfl) (fun _ _ _ h => h) (Or.inl ⟨by rfl, ?hy275⟩) (by assumption) ?_
                      case hy275 => (intro w hSw; (try dsimp only at hSw); go_simp; try (with_reducible rfl))
                      (try simp only [Act.put, qa_, qb_, qc_])
                      refine wpAnyH_take (i := 14) (oi := ⟨some 205, _, _, _, _, _⟩) (v := ?v276) rfl (by kernel_rfl) (by kernel_rfl) (by kernel_rfl) (fun _ _ _ h => h) (Or.inl ⟨by rfl, ?hy276⟩) (by assumption) ?_
                      case hy276 => (intro w hSw; (try dsimp only at hSw); go_simp; try (with_reducible rfl))
                      (try simp only [Act.put, qa_, qb_, qc_])
                      refine wpAnyH_take (i := 15) (oi := ⟨some 206, _, _, _, _, _⟩) (v := ?v277) rfl (by kernel_rfl) (by kernel_rfl) (by kernel_rfl) (fun _ _ _ h => h) (Or.inl ⟨by rfl, ?hy277⟩) (by assumption) ?_
                      case hy277 => (intro w hSw; (try dsimp only at hSw); go_simp; try (with_reducible rfl))
                      (try simp only [Act.put, qa_, qb_, qc_])
                      refine wpAnyH_take (i := 16) (oi := ⟨some 207, _, _, _, _, _⟩) (v := ?v278) rfl (by kernel_rfl) (by kernel_rfl) (by kernel_rfl) (fun _ _ _ h => h) (Or.inl ⟨by rfl, ?hy278⟩) (by assumption) ?_
                      case hy278 => (intro w hSw; (try dsimp only at hSw); go_simp; try (with_reducible rfl))
                      (try simp only [Act.put, qa_, qb_, qc_])
                      refine wpAnyH_take (i := 17) (oi := ⟨some 208, _, _, _, _, _⟩) (v := ?v279) rfl (by kernel_rfl) (by kernel_rfl) (by kernel_rfl) (fun _ _ _ h => h) (Or.inl ⟨by rfl, ?hy279⟩) (by assumption) ?_
                      case hy279 => (intro w hSw; (try dsimp only at hSw); go_simp; try (with_reducible rfl))
                      (try simp only [Act.put, qa_, qb_, qc_])
                      refine wpAnyH_take (i := 18) (oi := ⟨some 209, _, _, _, _, _⟩) (v := ?v280) rfl (by kernel_rfl) (by kernel_rfl) (by kernel_rfl) (fun _ _ _ h => h) (Or.inl ⟨by rfl, ?hy280⟩) (by assumption) ?_
                      case hy280 => (intro w hSw; (try dsimp only at hSw); go_simp; try (with_reducible rfl))
                      (try simp only [Act.put, qa_, qb_, qc_])
                      refine wpAnyH_take (i := 19) (oi := ⟨some 210, _, _, _, _, _⟩) (v := undef) rfl (by kernel_rfl) (by kernel_rfl) (by kernel_rfl) (fun _ _ _ h => h) (Or.inr ⟨by rfl, rfl⟩) (by assumption) ?_
                      (try simp only [Act.put, qa_, qb_, qc_])
                      refine wpAnyH_take (i := 20) (oi := ⟨some 211, _, _, _, _, _⟩) (v := undef) rfl (by kernel_rfl) (by kernel_rfl) (by kernel_rfl) (fun _ _ _ h => h) (Or.inr ⟨by rfl, rfl⟩) (by assumption) ?_
                      (try simp only [Act.put, qa_, qb_, qc_])
                      refine wpAnyH_take (i := 21) (oi := ⟨some 212, _, _, _, _, _⟩) (v := undef) rfl (by kernel_rfl) (by kernel_rfl) (by kernel_rfl) (fun _ _ _ h => h) (Or.inr ⟨by rfl, rfl⟩) (by assumption) ?_
                      (try simp only [Act.put, qa_, qb_, qc_])
                      refine wpAnyH_take (i := 22) (oi := ⟨some 213, _, _, _, _, _⟩) (v := undef) rfl (by kernel_rfl) (by kernel_rfl) (by kernel_rfl) (fun _ _ _ h => h) (Or.inr ⟨by rfl, rfl⟩) (by assumption) ?_
                      (try simp only [Act.put, qa_, qb_, qc_])
                      refine wpAnyH_take (i := 23) (oi := ⟨some 214, _, _, _, _, _⟩) (v := undef) rfl (by kernel_rfl) (by kernel_rfl) (by kernel_rfl) (fun _ _ _ h => h) (Or.inr ⟨by rfl, rfl⟩) (by assumption) ?_
                      (try simp only [Act.put, qa_, qb_, qc_])
                      refine wpAnyH_take (i := 24) (oi := ⟨some 215, _, _, _, _, _⟩) (v := undef) rfl (by kernel_rfl) (by kernel_rfl) (by kernel_rfl) (fun _ _ _ h => h) (Or.inr ⟨by rfl, rfl⟩) (by assumption) ?_
                      (try simp only [Act.put, qa_, qb_, qc_])
                      refine wpAnyH_take (i := 25) (oi := ⟨some 216, _, _, _, _, _⟩) (v := undef) rfl (by kernel_rfl) (by kernel_rfl) (by kernel_rfl) (fun _ _ _ h => h) (Or.inr ⟨by rfl, rfl⟩) (by assumption) ?_
                      (try simp only [Act.put, qa_, qb_, qc_])
                      refine wpAnyH_take (i := 26) (oi := ⟨some 217, _, _, _, _, _⟩) (v := ?v281) rfl (by kernel_rfl) (by kernel_rfl) (by kernel_rfl) (fun _ _ _ h => h) (Or.inl ⟨by rfl, ?hy281⟩) (by assumption) ?_
                      case hy281 => (intro w hSw; (try dsimp only at hSw); go_simp; try (with_reducible rfl))
                      (try simp only [Act.put, qa_, qb_, qc_])
                      refine wpAnyH_take (i := 27) (oi := ⟨some 218, _, _, _, _, _⟩) (v := ?v282) rfl (by kernel_rfl) (by kernel_rfl) (by kernel_rfl) (fun _ _ _ h => h) (Or.inl ⟨by rfl, ?hy282⟩) (by assumption) ?_
                      case hy282 => (intro w hSw; (try dsimp only at hSw); go_simp; try (with_reducible rfl))
                      (try simp only [Act.put, qa_, qb_, qc_])
                      refine wpAnyH_take (i := 28) (oi := ⟨some 219, _, _, _, _, _⟩) (v := undef) rfl (by kernel_rfl) (by kernel_rfl) (by kernel_rfl) (fun _ _ _ h => h) (Or.inr ⟨by rfl, rfl⟩) (by assumption) ?_
                      (try simp only [Act.put, qa_, qb_, qc_])
                      refine wpAnyH_take (i := 29) (oi := ⟨some 220, _, _, _, _, _⟩) (v := undef) rfl (by kernel_rfl) (by kernel_rfl) (by kernel_rfl) (fun _ _ _ h => h) (Or.inr ⟨by rfl, rfl⟩) (by assumption) ?_
                      (try simp only [Act.put, qa_, qb_, qc_])
                      refine wpAnyH_take (i := 30) (oi := ⟨some 221, _, _, _, _, _⟩) (v := undef) rfl (by kernel_rfl) (by kernel_rfl) (by kernel_rfl) (fun _ _ _ h => h) (Or.inr ⟨by rfl, rfl⟩) (by assumption) ?_
                      (try simp only [Act.put, qa_, qb_, qc_])
                      refine wpAnyH_take (i := 31) (oi := ⟨some 222, _, _, _, _, _⟩) (v := undef) rfl (by kernel_rfl) (by kernel_rfl) (by kernel_rfl) (fun _ _ _ h => h) (Or.inr ⟨by rfl, rfl⟩) (by assumption) ?_
                      (try simp only [Act.put, qa_, qb_, qc_])
                      refine wpAnyH_take (i := 32) (oi := ⟨some 223, _, _, _, _, _⟩) (v := undef) rfl (by kernel_rfl) (by kernel_rfl) (by kernel_rfl) (fun _ _ _ h => h) (Or.inr ⟨by rfl, rfl⟩) (by assumption) ?_
                      (try simp only [Act.put, qa_, qb_, qc_])
                      refine wpAnyH_take (i := 33) (oi := ⟨some 224, _, _, _, _, _⟩) (v := undef) rfl (by kernel_rfl) (by kernel_rfl) (by kernel_rfl) (fun _ _ _ h => h) (Or.inr ⟨by rfl, rfl⟩) (by assumption) ?_
                      (try simp only [Act.put, qa_, qb_, qc_])
                      refine wpAnyH_take (i := 34) (oi := ⟨some 225, _, _, _, _, _⟩) (v := undef) rfl (by kernel_rfl) (by kernel_rfl) (by kernel_rfl) (fun _ _ _ h => h) (Or.inr ⟨by rfl, rfl⟩) (by assumption) ?_
                      (try simp only [Act.put, qa_, qb_, qc_])
                      refine wpAnyH_take (i := 35) (oi := ⟨some 226, _, _, _, _, _⟩) (v := ?v283) rfl (by kernel_rfl) (by kernel_rfl) (by kernel_rfl) (fun _ _ _ h => h) (Or.inl ⟨by rfl, ?hy283⟩) (by assumption) ?_
                      case hy283 => (intro w hSw; (try dsimp only at hSw); go_simp; try (with_reducible rfl))
                      (try simp only [Act.put, qa_, qb_, qc_])
                      refine wpAnyH_done (by kernel_rfl) ?_ _
                      go_wp2
                      go_ret
                      exact ⟨rfl, bel_trans hB1 (belx)⟩
                  have dd1 : decide (x0 < y) = false := by first | exact decide_eq_false g2 | (simp; omega)
                  by_cases g3 : z < 0
                  · obtain rfl := HF.out (fun h => by have := (h.2.2.2.2.1 a (alMem HA.out)).2.1; have := HY.out; have := HZ.out; (try dsimp only at *); omega)
                    have dd2 : decide (z < 0) = true := by first | exact decide_eq_true g3 | (simp; omega)
                    clear HT HF
                    as_aux_lemma =>
                      go_wp2_with fail
                      refine wp_region_held_drew (S := (fun w' => w'.cell? ⟨b', off + j * 2, none⟩ = some (.int .i64 y) ∧ w'.cell? ⟨b', off + j * 2 + 1, none⟩ = some (.int .i64 z) ∧ w'.cell? ⟨w.heap.size, 0, none⟩ = some (.int .i64 x0) ∧ w'.cell? ⟨w.heap.size, 6, none⟩ = some (.slice (some ⟨b', off, none⟩) n6 c6))) (by kernel_rfl) (by exact ⟨u0, u1, k0, kk⟩) (fun hHeld => ?_)
                      refine wpAnyH_take (i := 0) (oi := ⟨some 191, _, _, _, _, _⟩) (v := ?v284) rfl (by kernel_rfl) (by kernel_rfl) (by kernel_rfl) (fun _ _ _ h => h) (Or.inl ⟨by rfl, ?hy284⟩) (by assumption) ?_
                      case hy284 => (intro w hSw; (try dsimp only at hSw); go_simp; try (with_reducible rfl))
                      (try simp only [Act.put, qa_, qb_, qc_])
                      refine wpAnyH_take (i := 1) (oi := ⟨some 192, _, _, _, _, _⟩) (v := ?v285) rfl (by kernel_rfl) (by kernel_rfl) (by kernel_rfl) (fun _ _ _ h => h) (Or.inl ⟨by rfl, ?hy285⟩) (by assumption) ?_
                      case hy285 => (intro w hSw; (try dsimp only at hSw); go_simp; try (with_reducible rfl))
                      (try simp only [Act.put, qa_, qb_, qc_])
                      refine wpAnyH_take (i := 2) (oi := ⟨some 193, _, _, _, _, _⟩) (v := ?v286) rfl (by kernel_rfl) (by kernel_rfl) (by kernel_rfl) (fun _ _ _ h => h) (Or.inl ⟨by rfl, ?hy286⟩) (by assumption) ?_
                      case hy286 => (intro w hSw; (try dsimp only at hSw); go_simp; try (with_reducible rfl))
                      (try simp only [Act.put, qa_, qb_, qc_])
                      refine wpAnyH_take (i := 3) (oi := ⟨some 194, _, _, _, _, _⟩) (v := ?v287) rfl (by kernel_rfl) (by kernel_rfl) (by kernel_rfl) (fun _ _ _ h => h) (Or.inl ⟨by rfl, ?hy287⟩) (by assumption) ?_
                      case hy287 => (intro w hSw; (try dsimp only at hSw); go_simp; try (with_reducible rfl))
                      (try simp only [Act.put, qa_, qb_, qc_])
                      refine wpAnyH_take (i := 4) (oi := ⟨some 195, _, _, _, _, _⟩) (v := ?v288) rfl (by kernel_rfl) (by kernel_rfl) (by kernel_rfl) (fun _ _ _ h => h) (Or.inl ⟨by rfl, ?hy288⟩) (by assumption) ?_
                      case hy288 => (intro w hSw; (try dsimp only at hSw); go_simp; try (with_reducible rfl))
                      (try simp only [Act.put, qa_, qb_, qc_])
                      refine wpAnyH_take (i := 5) (oi := ⟨some 196, _, _, _, _, _⟩) (v := ?v289) rfl (by kernel_rfl) (by kernel_rfl) (by kernel_rfl) (fun _ _ _ h => h) (Or.inl ⟨by rfl, ?hy289⟩) (by assumption) ?_
                      case hy289 => (intro w hSw; (try dsimp only at hSw); go_simp; try (with_reducible rfl))
                      (try simp only [Act.put, qa_, qb_, qc_])
                      refine wpAnyH_take (i := 6) (oi := ⟨some 197, _, _, _, _, _⟩) (v := ?v290) rfl (by kernel_rfl) (by kernel_rfl) (by kernel_rfl) (fun _ _ _ h => h) (Or.inl ⟨by rfl, ?hy290⟩) (by assumption) ?_
                      case hy290 => (intro w hSw; (try dsimp only at hSw); go_simp; try (with_reducible rfl))
                      (try simp only [Act.put, qa_, qb_, qc_])
                      refine wpAnyH_take (i := 7) (oi := ⟨some 198, _, _, _, _, _⟩) (v := ?v291) rfl (by kernel_rfl) (by kernel_rfl) (by kernel_rfl) (fun _ _ _ h => h) (Or.inl ⟨by rfl, ?hy291⟩) (by assumption) ?_
                      case hy291 => (intro w hSw; (try dsimp only at hSw); go_simp; try (with_reducible rfl))
                      (try simp only [Act.put, qa_, qb_, qc_])
                      refine wpAnyH_take (i := 8) (oi := ⟨some 199, _, _, _, _, _⟩) (v := ?v292) rfl (by kernel_rfl) (by kernel_rfl) (by kernel_rfl) (fun _ _ _ h => h) (Or.inl ⟨by rfl, ?hy292⟩) (by assumption) ?_
                      case hy292 => (intro w hSw; (try dsimp only at hSw); go_simp; try (with_reducible rfl))
                      (try simp only [Act.put, qa_, qb_, qc_])
                      refine wpAnyH_take (i := 9) (oi := ⟨some 200, _, _, _, _, _⟩) (v := ?v293) rfl (by kernel_rfl) (by kernel_rfl) (by kernel_rfl) (fun _ _ _ h => h) (Or.inl ⟨by rfl, ?hy293⟩) (by assumption) ?_
                      case hy293 => (intro w hSw; (try dsimp only at hSw); go_simp; try (with_reducible rfl))
                      (try simp only [Act.put, qa_, qb_, qc_])
                      refine wpAnyH_take (i := 10) (oi := ⟨some 201, _, _, _, _, _⟩) (v := ?v294) rfl (by kernel_rfl) (by kernel_rfl) (by kernel_rfl) (fun _ _ _ h => h) (Or.inl ⟨by rfl, ?hy294⟩) (by assumption) ?_
                      case hy294 => (intro w hSw; (try dsimp only at hSw); go_simp; try (with_reducible rfl))
                      (try simp only [Act.put, qa_, qb_, qc_])
                      refine wpAnyH_take (i := 11) (oi := ⟨some 202, _, _, _, _, _⟩) (v := ?v295) rfl (by kernel_rfl) (by kernel_rfl) (by kernel_rfl) (fun _ _ _ h => h) (Or.inl ⟨by rfl, ?hy295⟩) (by assumption) ?_
                      case hy295 => (intro w hSw; (try dsimp only at hSw); go_simp; try (with_reducible rfl))
                      (try simp only [Act.put, qa_, qb_, qc_])
                      refine wpAnyH_take (i := 12) (oi := ⟨some 203, _, _, _, _, _⟩) (v := ?v296) rfl (by kernel_rfl) (by kernel_rfl) (by kernel_rfl) (fun _ _ _ h => h) (Or.inl ⟨by rfl, ?hy296⟩) (by assumption) ?_
                      case hy296 => (intro w hSw; (try dsimp only at hSw); go_simp; try (with_reducible rfl))
                      (try simp only [Act.put, qa_, qb_, qc_])
                      refine wpAnyH_take (i := 13) (oi := ⟨some 204, _, _, _, _, _⟩) (v := ?v297) rfl (by kernel_rfl) (by kernel_rfl) (by kernel_rfl) (fun _ _ _ h => h) (Or.inl ⟨by rfl, ?hy297⟩) (by assumption) ?_
                      case hy297 => (intro w hSw; (try dsimp only at hSw); go_simp; try (with_reducible rfl))
                      (try simp only [Act.put, qa_, qb_, qc_])
                      refine wpAnyH_take (i := 14) (oi := ⟨some 205, _, _, _, _, _⟩) (v := ?v298) rfl (by kernel_rfl) (by kernel_rfl) (by kernel_rfl) (fun _ _ _ h => h) (Or.inl ⟨by rfl, ?hy298⟩) (by assumption) ?_
                      case hy298 => (intro w hSw; (try dsimp only at hSw); go_simp; try (with_reducible rfl))
                      (try simp only [Act.put, qa_, qb_, qc_])
                      refine wpAnyH_take (i := 15) (oi := ⟨some 206, _, _, _, _, _⟩) (v := ?v299) rfl (by kernel_rfl) (by kernel_rfl) (by kernel_rfl) (fun _ _ _ h => h) (Or.inl ⟨by rfl, ?hy299⟩) (by assumption) ?_
                      case hy299 => (intro w hSw; (try dsimp only at hSw); go_simp; try (with_reducible rfl))
                      (try simp only [Act.put, qa_, qb_, qc_])
                      refine wpAnyH_take (i := 16) (oi := ⟨some 207, _, _, _, _, _⟩) (v := ?v300) rfl (by kernel_rfl) (by kernel_rfl) (by kernel_rfl) (fun _ _ _ h => h) (Or.inl ⟨by rfl, ?hy300⟩) (by assumption) ?_
                      case hy300 => (intro w hSw; (try dsimp only at hSw); go_simp; try (with_reducible rfl))
                      (try simp only [Act.put, qa_, qb_, qc_])
                      refine wpAnyH_take (i := 17) (oi := ⟨some 208, _, _, _, _, _⟩) (v := ?v301) rfl (by kernel_rfl) (by kernel_rfl) (by kernel_rfl) (fun _ _ _ h => h) (Or.inl ⟨by rfl, ?hy301⟩) (by assumption) ?_
                      case hy301 => (intro w hSw; (try dsimp only at hSw); go_simp; try (with_reducible rfl))
                      (try simp only [Act.put, qa_, qb_, qc_])
                      refine wpAnyH_take (i := 18) (oi := ⟨some 209, _, _, _, _, _⟩) (v := ?v302) rfl (by kernel_rfl) (by kernel_rfl) (by kernel_rfl) (fun _ _ _ h => h) (Or.inl ⟨by rfl, ?hy302⟩) (by assumption) ?_
                      case hy302 => (intro w hSw; (try dsimp only at hSw); go_simp; try (with_reducible rfl))
                      (try simp only [Act.put, qa_, qb_, qc_])
                      refine wpAnyH_take (i := 19) (oi := ⟨some 210, _, _, _, _, _⟩) (v := ?v303) rfl (by kernel_rfl) (by kernel_rfl) (by kernel_rfl) (fun _ _ _ h => h) (Or.inl ⟨by rfl, ?hy303⟩) (by assumption) ?_
                      case hy303 => (intro w hSw; (try dsimp only at hSw); go_simp; try (with_reducible rfl))
                      (try simp only [Act.put, qa_, qb_, qc_])
                      refine wpAnyH_take (i := 20) (oi := ⟨some 211, _, _, _, _, _⟩) (v := ?v304) rfl (by kernel_rfl) (by kernel_rfl) (by kernel_rfl) (fun _ _ _ h => h) (Or.inl ⟨by rfl, ?hy304⟩) (by assumption) ?_
                      case hy304 => (intro w hSw; (try dsimp only at hSw); go_simp; try (with_reducible rfl))
                      (try simp only [Act.put, qa_, qb_, qc_])
                      refine wpAnyH_take (i := 21) (oi := ⟨some 212, _, _, _, _, _⟩) (v := ?v305) rfl (by kernel_rfl) (by kernel_rfl) (by kernel_rfl) (fun _ _ _ h => h) (Or.inl ⟨by rfl, ?hy305⟩) (by assumption) ?_
                      case hy305 => (intro w hSw; (try dsimp only at hSw); go_simp; try (with_reducible rfl))
                      (try simp only [Act.put, qa_, qb_, qc_])
                      refine wpAnyH_take (i := 22) (oi := ⟨some 213, _, _, _, _, _⟩) (v := ?v306) rfl (by kernel_rfl) (by kernel_rfl) (by kernel_rfl) (fun _ _ _ h => h) (Or.inl ⟨by rfl, ?hy306⟩) (by assumption) ?_
                      case hy306 => (intro w hSw; (try dsimp only at hSw); go_simp; try (with_reducible rfl))
                      (try simp only [Act.put, qa_, qb_, qc_])
                      refine wpAnyH_take (i := 23) (oi := ⟨some 214, _, _, _, _, _⟩) (v := ?v307) rfl (by kernel_rfl) (by kernel_rfl) (by kernel_rfl) (fun _ _ _ h => h) (Or.inl ⟨by rfl, ?hy307⟩) (by assumption) ?_
                      case hy307 => (intro w hSw; (try dsimp only at hSw); go_simp; try (with_reducible rfl))
                      (try simp only [Act.put, qa_, qb_, qc_])
                      refine wpAnyH_take (i := 24) (oi := ⟨some 215, _, _, _, _, _⟩) (v := ?v308) rfl (by kernel_rfl) (by kernel_rfl) (by kernel_rfl) (fun _ _ _ h => h) (Or.inl ⟨by rfl, ?hy308⟩) (by assumption) ?_
                      case hy308 => (intro w hSw; (try dsimp only at hSw); go_simp; try (with_reducible rfl))
                      (try simp only [Act.put, qa_, qb_, qc_])
                      refine wpAnyH_take (i := 25) (oi := ⟨some 216, _, _, _, _, _⟩) (v := ?v309) rfl (by kernel_rfl) (by kernel_rfl) (by kernel_rfl) (fun _ _ _ h => h) (Or.inl ⟨by rfl, ?hy309⟩) (by assumption) ?_
                      case hy309 => (intro w hSw; (try dsimp only at hSw); go_simp; try (with_reducible rfl))
                      (try simp only [Act.put, qa_, qb_, qc_])
                      refine wpAnyH_take (i := 26) (oi := ⟨some 217, _, _, _, _, _⟩) (v := ?v310) rfl (by kernel_rfl) (by kernel_rfl) (by kernel_rfl) (fun _ _ _ h => h) (Or.inl ⟨by rfl, ?hy310⟩) (by assumption) ?_
                      case hy310 => (intro w hSw; (try dsimp only at hSw); go_simp; try (with_reducible rfl))
                      (try simp only [Act.put, qa_, qb_, qc_])
                      refine wpAnyH_take (i := 27) (oi := ⟨some 218, _, _, _, _, _⟩) (v := ?v311) rfl (by kernel_rfl) (by kernel_rfl) (by kernel_rfl) (fun _ _ _ h => h) (Or.inl ⟨by rfl, ?hy311⟩) (by assumption) ?_
                      case hy311 => (intro w hSw; (try dsimp only at hSw); go_simp; try (with_reducible rfl))
                      (try simp only [Act.put, qa_, qb_, qc_])
                      refine wpAnyH_take (i := 28) (oi := ⟨some 219, _, _, _, _, _⟩) (v := undef) rfl (by kernel_rfl) (by kernel_rfl) (by kernel_rfl) (fun _ _ _ h => h) (Or.inr ⟨by rfl, rfl⟩) (by assumption) ?_
                      (try simp only [Act.put, qa_, qb_, qc_])
                      refine wpAnyH_take (i := 29) (oi := ⟨some 220, _, _, _, _, _⟩) (v := undef) rfl (by kernel_rfl) (by kernel_rfl) (by kernel_rfl) (fun _ _ _ h => h) (Or.inr ⟨by rfl, rfl⟩) (by assumption) ?_
                      (try simp only [Act.put, qa_, qb_, qc_])
                      refine wpAnyH_take (i := 30) (oi := ⟨some 221, _, _, _, _, _⟩) (v := undef) rfl (by kernel_rfl) (by kernel_rfl) (by kernel_rfl) (fun _ _ _ h => h) (Or.inr ⟨by rfl, rfl⟩) (by assumption) ?_
                      (try simp only [Act.put, qa_, qb_, qc_])
                      refine wpAnyH_take (i := 31) (oi := ⟨some 222, _, _, _, _, _⟩) (v := undef) rfl (by kernel_rfl) (by kernel_rfl) (by kernel_rfl) (fun _ _ _ h => h) (Or.inr ⟨by rfl, rfl⟩) (by assumption) ?_
                      (try simp only [Act.put, qa_, qb_, qc_])
                      refine wpAnyH_take (i := 32) (oi := ⟨some 223, _, _, _, _, _⟩) (v := undef) rfl (by kernel_rfl) (by kernel_rfl) (by kernel_rfl) (fun _ _ _ h => h) (Or.inr ⟨by rfl, rfl⟩) (by assumption) ?_
                      (try simp only [Act.put, qa_, qb_, qc_])
                      refine wpAnyH_take (i := 33) (oi := ⟨some 224, _, _, _, _, _⟩) (v := undef) rfl (by kernel_rfl) (by kernel_rfl) (by kernel_rfl) (fun _ _ _ h => h) (Or.inr ⟨by rfl, rfl⟩) (by assumption) ?_
                      (try simp only [Act.put, qa_, qb_, qc_])
                      refine wpAnyH_take (i := 34) (oi := ⟨some 225, _, _, _, _, _⟩) (v := undef) rfl (by kernel_rfl) (by kernel_rfl) (by kernel_rfl) (fun _ _ _ h => h) (Or.inr ⟨by rfl, rfl⟩) (by assumption) ?_
                      (try simp only [Act.put, qa_, qb_, qc_])
                      refine wpAnyH_take (i := 35) (oi := ⟨some 226, _, _, _, _, _⟩) (v := ?v312) rfl (by kernel_rfl) (by kernel_rfl) (by kernel_rfl) (fun _ _ _ h => h) (Or.inl ⟨by rfl, ?hy312⟩) (by assumption) ?_
                      case hy312 => (intro w hSw; (try dsimp only at hSw); go_simp; try (with_reducible rfl))
                      (try simp only [Act.put, qa_, qb_, qc_])
                      refine wpAnyH_done (by kernel_rfl) ?_ _
                      go_wp2
                      go_ret
                      exact ⟨rfl, bel_trans hB1 (belx)⟩
                  have dd2 : decide (z < 0) = false := by first | exact decide_eq_false g3 | (simp; omega)
                  by_cases g4 : 8 ≤ z
                  · obtain rfl := HF.out (fun h => by have := (h.2.2.2.2.1 a (alMem HA.out)).2.2; have := HY.out; have := HZ.out; (try dsimp only at *); omega)
                    have dd3 : decide (8 ≤ z) = true := by first | exact decide_eq_true g4 | (simp; omega)
                    clear HT HF
                    as_aux_lemma =>
                      go_wp2_with fail
                      refine wp_region_held_drew (S := (fun w' => w'.cell? ⟨b', off + j * 2, none⟩ = some (.int .i64 y) ∧ w'.cell? ⟨b', off + j * 2 + 1, none⟩ = some (.int .i64 z) ∧ w'.cell? ⟨w.heap.size, 0, none⟩ = some (.int .i64 x0) ∧ w'.cell? ⟨w.heap.size, 6, none⟩ = some (.slice (some ⟨b', off, none⟩) n6 c6))) (by kernel_rfl) (by exact ⟨u0, u1, k0, kk⟩) (fun hHeld => ?_)
                      refine wpAnyH_take (i := 0) (oi := ⟨some 191, _, _, _, _, _⟩) (v := ?v313) rfl (by kernel_rfl) (by kernel_rfl) (by kernel_rfl) (fun _ _ _ h => h) (Or.inl ⟨by rfl, ?hy313⟩) (by assumption) ?_
                      case hy313 => (intro w hSw; (try dsimp only at hSw); go_simp; try (with_reducible rfl))
                      (try simp only [Act.put, qa_, qb_, qc_])
                      refine wpAnyH_take (i := 1) (oi := ⟨some 192, _, _, _, _, _⟩) (v := ?v314) rfl (by kernel_rfl) (by kernel_rfl) (by kernel_rfl) (fun _ _ _ h => h) (Or.inl ⟨by rfl, ?hy314⟩) (by assumption) ?_
                      case hy314 => (intro w hSw; (try dsimp only at hSw); go_simp; try (with_reducible rfl))
                      (try simp only [Act.put, qa_, qb_, qc_])
                      refine wpAnyH_take (i := 2) (oi := ⟨some 193, _, _, _, _, _⟩) (v := ?v315) rfl (by kernel_rfl) (by kernel_rfl) (by kernel_rfl) (fun _ _ _ h => h) (Or.inl ⟨by rfl, ?hy315⟩) (by assumption) ?_
                      case hy315 => (intro w hSw; (try dsimp only at hSw); go_simp; try (with_reducible rfl))
                      (try simp only [Act.put, qa_, qb_, qc_])
                      refine wpAnyH_take (i := 3) (oi := ⟨some 194, _, _, _, _, _⟩) (v := ?v316) rfl (by kernel_rfl) (by kernel_rfl) (by kernel_rfl) (fun _ _ _ h => h) (Or.inl ⟨by rfl, ?hy316⟩) (by assumption) ?_
                      case hy316 => (intro w hSw; (try dsimp only at hSw); go_simp; try (with_reducible rfl))
                      (try simp only [Act.put, qa_, qb_, qc_])
                      refine wpAnyH_take (i := 4) (oi := ⟨some 195, _, _, _, _, _⟩) (v := ?v317) rfl (by kernel_rfl) (by kernel_rfl) (by kernel_rfl) (fun _ _ _ h => h) (Or.inl ⟨by rfl, ?hy317⟩) (by assumption) ?_
                      case hy317 => (intro w hSw; (try dsimp only at hSw); go_simp; try (with_reducible rfl))
                      (try simp only [Act.put, qa_, qb_, qc_])
                      refine wpAnyH_take (i := 5) (oi := ⟨some 196, _, _, _, _, _⟩) (v := ?v318) rfl (by kernel_rfl) (by kernel_rfl) (by kernel_rfl) (fun _ _ _ h => h) (Or.inl ⟨by rfl, ?hy318⟩) (by assumption) ?_
                      case hy318 => (intro w hSw; (try dsimp only at hSw); go_simp; try (with_reducible rfl))
                      (try simp only [Act.put, qa_, qb_, qc_])
                      refine wpAnyH_take (i := 6) (oi := ⟨some 197, _, _, _, _, _⟩) (v := ?v319) rfl (by kernel_rfl) (by kernel_rfl) (by kernel_rfl) (fun _ _ _ h => h) (Or.inl ⟨by rfl, ?hy319⟩) (by assumption) ?_
                      case hy319 => (intro w hSw; (try dsimp only at hSw); go_simp; try (with_reducible rfl))
                      (try simp only [Act.put, qa_, qb_, qc_])
                      refine wpAnyH_take (i := 7) (oi := ⟨some 198, _, _, _, _, _⟩) (v := ?v320) rfl (by kernel_rfl) (by kernel_rfl) (by kernel_rfl) (fun _ _ _ h => h) (Or.inl ⟨by rfl, ?hy320⟩) (by assumption) ?_
                      case hy320 => (intro w hSw; (try dsimp only at hSw); go_simp; try (with_reducible rfl))
                      (try simp only [Act.put, qa_, qb_, qc_])
                      refine wpAnyH_take (i := 8) (oi := ⟨some 199, _, _, _, _, _⟩) (v := ?v321) rfl (by kernel_rfl) (by kernel_rfl) (by kernel_rfl) (fun _ _ _ h => h) (Or.inl ⟨by rfl, ?hy321⟩) (by assumption) ?_
                      case hy321 => (intro w hSw; (try dsimp only at hSw); go_simp; try (with_reducible rfl))
                      (try simp only [Act.put, qa_, qb_, qc_])
                      refine wpAnyH_take (i := 9) (oi := ⟨some 200, _, _, _, _, _⟩) (v := ?v322) rfl (by kernel_rfl) (by kernel_rfl) (by kernel_rfl) (fun _ _ _ h => h) (Or.inl ⟨by rfl, ?hy322⟩) (by assumption) ?_
                      case hy322 => (intro w hSw; (try dsimp only at hSw); go_simp; try (with_reducible rfl))
                      (try simp only [Act.put, qa_, qb_, qc_])
                      refine wpAnyH_take (i := 10) (oi := ⟨some 201, _, _, _, _, _⟩) (v := ?v323) rfl (by kernel_rfl) (by kernel_rfl) (by kernel_rfl) (fun _ _ _ h => h) (Or.inl ⟨by rfl, ?hy323⟩) (by assumption) ?_
                      case hy323 => (intro w hSw; (try dsimp only at hSw); go_simp; try (with_reducible rfl))
                      (try simp only [Act.put, qa_, qb_, qc_])
                      refine wpAnyH_take (i := 11) (oi := ⟨some 202, _, _, _, _, _⟩) (v := ?v324) rfl (by kernel_rfl) (by kernel_rfl) (by kernel_rfl) (fun _ _ _ h => h) (Or.inl ⟨by rfl, ?hy324⟩) (by assumption) ?_
                      case hy324 => (intro w hSw; (try dsimp only at hSw); go_simp; try (with_reducible rfl))
                      (try simp only [Act.put, qa_, qb_, qc_])
                      refine wpAnyH_take (i := 12) (oi := ⟨some 203, _, _, _, _, _⟩) (v := ?v325) rfl (by kernel_rfl) (by kernel_rfl) (by kernel_rfl) (fun _ _ _ h => h) (Or.inl ⟨by rfl, ?hy325⟩) (by assumption) ?_
                      case hy325 => (intro w hSw; (try dsimp only at hSw); go_simp; try (with_reducible rfl))
                      (try simp only [Act.put, qa_, qb_, qc_])
                      refine wpAnyH_take (i := 13) (oi := ⟨some 204, _, _, _, _, _⟩) (v := ?v326) rfl (by kernel_rfl) (by kernel_rfl) (by kernel_rfl) (fun _ _ _ h => h) (Or.inl ⟨by rfl, ?hy326⟩) (by assumption) ?_
                      case hy326 => (intro w hSw; (try dsimp only at hSw); go_simp; try (with_reducible rfl))
                      (try simp only [Act.put, qa_, qb_, qc_])
                      refine wpAnyH_take (i := 14) (oi := ⟨some 205, _, _, _, _, _⟩) (v := ?v327) rfl (by kernel_rfl) (by kernel_rfl) (by kernel_rfl) (fun _ _ _ h => h) (Or.inl ⟨by rfl, ?hy327⟩) (by assumption) ?_
                      case hy327 => (intro w hSw; (try dsimp only at hSw); go_simp; try (with_reducible rfl))
                      (try simp only [Act.put, qa_, qb_, qc_])
                      refine wpAnyH_take (i := 15) (oi := ⟨some 206, _, _, _, _, _⟩) (v := ?v328) rfl (by kernel_rfl) (by kernel_rfl) (by kernel_rfl) (fun _ _ _ h => h) (Or.inl ⟨by rfl, ?hy328⟩) (by assumption) ?_
                      case hy328 => (intro w hSw; (try dsimp only at hSw); go_simp; try (with_reducible rfl))
                      (try simp only [Act.put, qa_, qb_, qc_])
                      refine wpAnyH_take (i := 16) (oi := ⟨some 207, _, _, _, _, _⟩) (v := ?v329) rfl (by kernel_rfl) (by kernel_rfl) (by kernel_rfl) (fun _ _ _ h => h) (Or.inl ⟨by rfl, ?hy329⟩) (by assumption) ?_
                      case hy329 => (intro w hSw; (try dsimp only at hSw); go_simp; try (with_reducible rfl))
                      (try simp only [Act.put, qa_, qb_, qc_])
                      refine wpAnyH_take (i := 17) (oi := ⟨some 208, _, _, _, _, _⟩) (v := ?v330) rfl (by kernel_rfl) (by kernel_rfl) (by kernel_rfl) (fun _ _ _ h => h) (Or.inl ⟨by rfl, ?hy330⟩) (by assumption) ?_
                      case hy330 => (intro w hSw; (try dsimp only at hSw); go_simp; try (with_reducible rfl))
                      (try simp only [Act.put, qa_, qb_, qc_])
                      refine wpAnyH_take (i := 18) (oi := ⟨some 209, _, _, _, _, _⟩) (v := ?v331) rfl (by kernel_rfl) (by kernel_rfl) (by kernel_rfl) (fun _ _ _ h => h) (Or.inl ⟨by rfl, ?hy331⟩) (by assumption) ?_
                      case hy331 => (intro w hSw; (try dsimp only at hSw); go_simp; try (with_reducible rfl))
                      (try simp only [Act.put, qa_, qb_, qc_])
                      refine wpAnyH_take (i := 19) (oi := ⟨some 210, _, _, _, _, _⟩) (v := ?v332) rfl (by kernel_rfl) (by kernel_rfl) (by kernel_rfl) (fun _ _ _ h => h) (Or.inl ⟨by rfl, ?hy332⟩) (by assumption) ?_
                      case hy332 => (intro w hSw; (try dsimp only at hSw); go_simp; try (with_reducible rfl))
                      (try simp only [Act.put, qa_, qb_, qc_])
                      refine wpAnyH_take (i := 20) (oi := ⟨some 211, _, _, _, _, _⟩) (v := ?v333) rfl (by kernel_rfl) (by kernel_rfl) (by kernel_rfl) (fun _ _ _ h => h) (Or.inl ⟨by rfl, ?hy333⟩) (by assumption) ?_
                      case hy333 => (intro w hSw; (try dsimp only at hSw); go_simp; try (with_reducible rfl))
                      (try simp only [Act.put, qa_, qb_, qc_])
                      refine wpAnyH_take (i := 21) (oi := ⟨some 212, _, _, _, _, _⟩) (v := ?v334) rfl (by kernel_rfl) (by kernel_rfl) (by kernel_rfl) (fun _ _ _ h => h) (Or.inl ⟨by rfl, ?hy334⟩) (by assumption) ?_
                      case hy334 => (intro w hSw; (try dsimp only at hSw); go_simp; try (with_reducible rfl))
                      (try simp only [Act.put, qa_, qb_, qc_])
                      refine wpAnyH_take (i := 22) (oi := ⟨some 213, _, _, _, _, _⟩) (v := ?v335) rfl (by kernel_rfl) (by kernel_rfl) (by kernel_rfl) (fun _ _ _ h => h) (Or.inl ⟨by rfl, ?hy335⟩) (by assumption) ?_
                      case hy335 => (intro w hSw; (try dsimp only at hSw); go_simp; try (with_reducible rfl))
                      (try simp only [Act.put, qa_, qb_, qc_])
                      refine wpAnyH_take (i := 23) (oi := ⟨some 214, _, _, _, _, _⟩) (v := ?v336) rfl (by kernel_rfl) (by kernel_rfl) (by kernel_rfl) (fun _ _ _ h => h) (Or.inl ⟨by rfl, ?hy336⟩) (by assumption) ?_
                      case hy336 => (intro w hSw; (try dsimp only at hSw); go_simp; try (with_reducible rfl))
                      (try simp only [Act.put, qa_, qb_, qc_])
                      refine wpAnyH_take (i := 24) (oi := ⟨some 215, _, _, _, _, _⟩) (v := ?v337) rfl (by kernel_rfl) (by kernel_rfl) (by kernel_rfl) (fun _ _ _ h => h) (Or.inl ⟨by rfl, ?hy337⟩) (by assumption) ?_
                      case hy337 => (intro w hSw; (try dsimp only at hSw); go_simp; try (with_reducible rfl))
                      (try simp only [Act.put, qa_, qb_, qc_])
                      refine wpAnyH_take (i := 25) (oi := ⟨some 216, _, _, _, _, _⟩) (v := ?v338) rfl (by kernel_rfl) (by kernel_rfl) (by kernel_rfl) (fun _ _ _ h => h) (Or.inl ⟨by rfl, ?hy338⟩) (by assumption) ?_
                      case hy338 => (intro w hSw; (try dsimp only at hSw); go_simp; try (with_reducible rfl))
                      (try simp only [Act.put, qa_, qb_, qc_])
                      refine wpAnyH_take (i := 26) (oi := ⟨some 217, _, _, _, _, _⟩) (v := ?v339) rfl (by kernel_rfl) (by kernel_rfl) (by kernel_rfl) (fun _ _ _ h => h) (Or.inl ⟨by rfl, ?hy339⟩) (by assumption) ?_
                      case hy339 => (intro w hSw; (try dsimp only at hSw); go_simp; try (with_reducible rfl))
                      (try simp only [Act.put, qa_, qb_, qc_])
                      refine wpAnyH_take (i := 27) (oi := ⟨some 218, _, _, _, _, _⟩) (v := ?v340) rfl (by kernel_rfl) (by kernel_rfl) (by kernel_rfl) (fun _ _ _ h => h) (Or.inl ⟨by rfl, ?hy340⟩) (by assumption) ?_
                      case hy340 => (intro w hSw; (try dsimp only at hSw); go_simp; try (with_reducible rfl))
                      (try simp only [Act.put, qa_, qb_, qc_])
                      refine wpAnyH_take (i := 28) (oi := ⟨some 219, _, _, _, _, _⟩) (v := ?v341) rfl (by kernel_rfl) (by kernel_rfl) (by kernel_rfl) (fun _ _ _ h => h) (Or.inl ⟨by rfl, ?hy341⟩) (by assumption) ?_
                      case hy341 => (intro w hSw; (try dsimp only at hSw); go_simp; try (with_reducible rfl))
                      (try simp only [Act.put, qa_, qb_, qc_])
                      refine wpAnyH_take (i := 29) (oi := ⟨some 220, _, _, _, _, _⟩) (v := ?v342) rfl (by kernel_rfl) (by kernel_rfl) (by kernel_rfl) (fun _ _ _ h => h) (Or.inl ⟨by rfl, ?hy342⟩) (by assumption) ?_
                      case hy342 => (intro w hSw; (try dsimp only at hSw); go_simp; try (with_reducible rfl))
                      (try simp only [Act.put, qa_, qb_, qc_])
                      refine wpAnyH_take (i := 30) (oi := ⟨some 221, _, _, _, _, _⟩) (v := ?v343) rfl (by kernel_rfl) (by kernel_rfl) (by kernel_rfl) (fun _ _ _ h => h) (Or.inl ⟨by rfl, ?hy343⟩) (by assumption) ?_
                      case hy343 => (intro w hSw; (try dsimp only at hSw); go_simp; try (with_reducible rfl))
                      (try simp only [Act.put, qa_, qb_, qc_])
                      refine wpAnyH_take (i := 31) (oi := ⟨some 222, _, _, _, _, _⟩) (v := ?v344) rfl (by kernel_rfl) (by kernel_rfl) (by kernel_rfl) (fun _ _ _ h => h) (Or.inl ⟨by rfl, ?hy344⟩) (by assumption) ?_
                      case hy344 => (intro w hSw; (try dsimp only at hSw); go_simp; try (with_reducible rfl))
                      (try simp only [Act.put, qa_, qb_, qc_])
                      refine wpAnyH_take (i := 32) (oi := ⟨some 223, _, _, _, _, _⟩) (v := ?v345) rfl (by kernel_rfl) (by kernel_rfl) (by kernel_rfl) (fun _ _ _ h => h) (Or.inl ⟨by rfl, ?hy345⟩) (by assumption) ?_
                      case hy345 => (intro w hSw; (try dsimp only at hSw); go_simp; try (with_reducible rfl))
                      (try simp only [Act.put, qa_, qb_, qc_])
                      refine wpAnyH_take (i := 33) (oi := ⟨some 224, _, _, _, _, _⟩) (v := ?v346) rfl (by kernel_rfl) (by kernel_rfl) (by kernel_rfl) (fun _ _ _ h => h) (Or.inl ⟨by rfl, ?hy346⟩) (by assumption) ?_
                      case hy346 => (intro w hSw; (try dsimp only at hSw); go_simp; try (with_reducible rfl))
                      (try simp only [Act.put, qa_, qb_, qc_])
                      refine wpAnyH_take (i := 34) (oi := ⟨some 225, _, _, _, _, _⟩) (v := ?v347) rfl (by kernel_rfl) (by kernel_rfl) (by kernel_rfl) (fun _ _ _ h => h) (Or.inl ⟨by rfl, ?hy347⟩) (by assumption) ?_
                      case hy347 => (intro w hSw; (try dsimp only at hSw); go_simp; try (with_reducible rfl))
                      (try simp only [Act.put, qa_, qb_, qc_])
                      refine wpAnyH_take (i := 35) (oi := ⟨some 226, _, _, _, _, _⟩) (v := ?v348) rfl (by kernel_rfl) (by kernel_rfl) (by kernel_rfl) (fun _ _ _ h => h) (Or.inl ⟨by rfl, ?hy348⟩) (by assumption) ?_
                      case hy348 => (intro w hSw; (try dsimp only at hSw); go_simp; try (with_reducible rfl))
                      (try simp only [Act.put, qa_, qb_, qc_])
                      refine wpAnyH_done (by kernel_rfl) ?_ _
                      go_wp2
                      go_ret
                      exact ⟨rfl, bel_trans hB1 (belx)⟩
                  have dd3 : decide (8 ≤ z) = false := by first | exact decide_eq_false g4 | (simp; omega)
                  have HAT := Lib.hid (show GlOk x0 a from ⟨⟨by have := HY.out; omega, by have := HY.out; omega⟩, by have := HZ.out; omega, by have := HZ.out; omega⟩)
                  go_wp2_with fail
                  refine wp_region_held_drew (S := (fun w' => w'.cell? ⟨b', off + j * 2, none⟩ = some (.int .i64 y) ∧ w'.cell? ⟨b', off + j * 2 + 1, none⟩ = some (.int .i64 z) ∧ w'.cell? ⟨w.heap.size, 0, none⟩ = some (.int .i64 x0) ∧ w'.cell? ⟨w.heap.size, 6, none⟩ = some (.slice (some ⟨b', off, none⟩) n6 c6))) (by kernel_rfl) (by exact ⟨u0, u1, k0, kk⟩) (fun hHeld => ?_)
                  refine wpAnyH_take (i := 0) (oi := ⟨some 191, _, _, _, _, _⟩) (v := ?v349) rfl (by kernel_rfl) (by kernel_rfl) (by kernel_rfl) (fun _ _ _ h => h) (Or.inl ⟨by rfl, ?hy349⟩) (by assumption) ?_
                  case hy349 => (intro w hSw; (try dsimp only at hSw); go_simp; try (with_reducible rfl))
                  (try simp only [Act.put, qa_, qb_, qc_])
                  refine wpAnyH_take (i := 1) (oi := ⟨some 192, _, _, _, _, _⟩) (v := ?v350) rfl (by kernel_rfl) (by kernel_rfl) (by kernel_rfl) (fun _ _ _ h => h) (Or.inl ⟨by rfl, ?hy350⟩) (by assumption) ?_
                  case hy350 => (intro w hSw; (try dsimp only at hSw); go_simp; try (with_reducible rfl))
                  (try simp only [Act.put, qa_, qb_, qc_])
                  refine wpAnyH_take (i := 2) (oi := ⟨some 193, _, _, _, _, _⟩) (v := ?v351) rfl (by kernel_rfl) (by kernel_rfl) (by kernel_rfl) (fun _ _ _ h => h) (Or.inl ⟨by rfl, ?hy351⟩) (by assumption) ?_
                  case hy351 => (intro w hSw; (try dsimp only at hSw); go_simp; try (with_reducible rfl))
                  (try simp only [Act.put, qa_, qb_, qc_])
                  refine wpAnyH_take (i := 3) (oi := ⟨some 194, _, _, _, _, _⟩) (v := ?v352) rfl (by kernel_rfl) (by kernel_rfl) (by kernel_rfl) (fun _ _ _ h => h) (Or.inl ⟨by rfl, ?hy352⟩) (by assumption) ?_
                  case hy352 => (intro w hSw; (try dsimp only at hSw); go_simp; try (with_reducible rfl))
                  (try simp only [Act.put, qa_, qb_, qc_])
                  refine wpAnyH_take (i := 4) (oi := ⟨some 195, _, _, _, _, _⟩) (v := ?v353) rfl (by kernel_rfl) (by kernel_rfl) (by kernel_rfl) (fun _ _ _ h => h) (Or.inl ⟨by rfl, ?hy353⟩) (by assumption) ?_
                  case hy353 => (intro w hSw; (try dsimp only at hSw); go_simp; try (with_reducible rfl))
                  (try simp only [Act.put, qa_, qb_, qc_])
                  refine wpAnyH_take (i := 5) (oi := ⟨some 196, _, _, _, _, _⟩) (v := ?v354) rfl (by kernel_rfl) (by kernel_rfl) (by kernel_rfl) (fun _ _ _ h => h) (Or.inl ⟨by rfl, ?hy354⟩) (by assumption) ?_
                  case hy354 => (intro w hSw; (try dsimp only at hSw); go_simp; try (with_reducible rfl))
                  (try simp only [Act.put, qa_, qb_, qc_])
                  refine wpAnyH_take (i := 6) (oi := ⟨some 197, _, _, _, _, _⟩) (v := ?v355) rfl (by kernel_rfl) (by kernel_rfl) (by kernel_rfl) (fun _ _ _ h => h) (Or.inl ⟨by rfl, ?hy355⟩) (by assumption) ?_
                  case hy355 => (intro w hSw; (try dsimp only at hSw); go_simp; try (with_reducible rfl))
                  (try simp only [Act.put, qa_, qb_, qc_])
                  refine wpAnyH_take (i := 7) (oi := ⟨some 198, _, _, _, _, _⟩) (v := ?v356) rfl (by kernel_rfl) (by kernel_rfl) (by kernel_rfl) (fun _ _ _ h => h) (Or.inl ⟨by rfl, ?hy356⟩) (by assumption) ?_
                  case hy356 => (intro w hSw; (try dsimp only at hSw); go_simp; try (with_reducible rfl))
                  (try simp only [Act.put, qa_, qb_, qc_])
                  refine wpAnyH_take (i := 8) (oi := ⟨some 199, _, _, _, _, _⟩) (v := ?v357) rfl (by kernel_rfl) (by kernel_rfl) (by kernel_rfl) (fun _ _ _ h => h) (Or.inl ⟨by rfl, ?hy357⟩) (by assumption) ?_
                  case hy357 => (intro w hSw; (try dsimp only at hSw); go_simp; try (with_reducible rfl))
                  (try simp only [Act.put, qa_, qb_, qc_])
                  refine wpAnyH_take (i := 9) (oi := ⟨some 200, _, _, _, _, _⟩) (v := ?v358) rfl (by kernel_rfl) (by kernel_rfl) (by kernel_rfl) (fun _ _ _ h => h) (Or.inl ⟨by rfl, ?hy358⟩) (by assumption) ?_
                  case hy358 => (intro w hSw; (try dsimp only at hSw); go_simp; try (with_reducible rfl))
                  (try simp only [Act.put, qa_, qb_, qc_])
                  refine wpAnyH_take (i := 10) (oi := ⟨some 201, _, _, _, _, _⟩) (v := ?v359) rfl (by kernel_rfl) (by kernel_rfl) (by kernel_rfl) (fun _ _ _ h => h) (Or.inl ⟨by rfl, ?hy359⟩) (by assumption) ?_
                  case hy359 => (intro w hSw; (try dsimp only at hSw); go_simp; try (with_reducible rfl))
                  (try simp only [Act.put, qa_, qb_, qc_])
                  refine wpAnyH_take (i := 11) (oi := ⟨some 202, _, _, _, _, _⟩) (v := ?v360) rfl (by kernel_rfl) (by kernel_rfl) (by kernel_rfl) (fun _ _ _ h => h) (Or.inl ⟨by rfl, ?hy360⟩) (by assumption) ?_
                  case hy360 => (intro w hSw; (try dsimp only at hSw); go_simp; try (with_reducible rfl))
                  (try simp only [Act.put, qa_, qb_, qc_])
                  refine wpAnyH_take (i := 12) (oi := ⟨some 203, _, _, _, _, _⟩) (v := ?v361) rfl (by kernel_rfl) (by kernel_rfl) (by kernel_rfl) (fun _ _ _ h => h) (Or.inl ⟨by rfl, ?hy361⟩) (by assumption) ?_
                  case hy361 => (intro w hSw; (try dsimp only at hSw); go_simp; try (with_reducible rfl))
                  (try simp only [Act.put, qa_, qb_, qc_])
                  refine wpAnyH_take (i := 13) (oi := ⟨some 204, _, _, _, _, _⟩) (v := ?v362) rfl (by kernel_rfl) (by kernel_rfl) (by kernel_rfl) (fun _ _ _ h => h) (Or.inl ⟨by rfl, ?hy362⟩) (by assumption) ?_
                  case hy362 => (intro w hSw; (try dsimp only at hSw); go_simp; try (with_reducible rfl))
                  (try simp only [Act.put, qa_, qb_, qc_])
                  refine wpAnyH_take (i := 14) (oi := ⟨some 205, _, _, _, _, _⟩) (v := ?v363) rfl (by kernel_rfl) (by kernel_rfl) (by kernel_rfl) (fun _ _ _ h => h) (Or.inl ⟨by rfl, ?hy363⟩) (by assumption) ?_
                  case hy363 => (intro w hSw; (try dsimp only at hSw); go_simp; try (with_reducible rfl))
                  (try simp only [Act.put, qa_, qb_, qc_])
                  refine wpAnyH_take (i := 15) (oi := ⟨some 206, _, _, _, _, _⟩) (v := ?v364) rfl (by kernel_rfl) (by kernel_rfl) (by kernel_rfl) (fun _ _ _ h => h) (Or.inl ⟨by rfl, ?hy364⟩) (by assumption) ?_
                  case hy364 => (intro w hSw; (try dsimp only at hSw); go_simp; try (with_reducible rfl))
                  (try simp only [Act.put, qa_, qb_, qc_])
                  refine wpAnyH_take (i := 16) (oi := ⟨some 207, _, _, _, _, _⟩) (v := ?v365) rfl (by kernel_rfl) (by kernel_rfl) (by kernel_rfl) (fun _ _ _ h => h) (Or.inl ⟨by rfl, ?hy365⟩) (by assumption) ?_
                  case hy365 => (intro w hSw; (try dsimp only at hSw); go_simp; try (with_reducible rfl))
                  (try simp only [Act.put, qa_, qb_, qc_])
                  refine wpAnyH_take (i := 17) (oi := ⟨some 208, _, _, _, _, _⟩) (v := ?v366) rfl (by kernel_rfl) (by kernel_rfl) (by kernel_rfl) (fun _ _ _ h => h) (Or.inl ⟨by rfl, ?hy366⟩) (by assumption) ?_
                  case hy366 => (intro w hSw; (try dsimp only at hSw); go_simp; try (with_reducible rfl))
                  (try simp only [Act.put, qa_, qb_, qc_])
                  refine wpAnyH_take (i := 18) (oi := ⟨some 209, _, _, _, _, _⟩) (v := ?v367) rfl (by kernel_rfl) (by kernel_rfl) (by kernel_rfl) (fun _ _ _ h => h) (Or.inl ⟨by rfl, ?hy367⟩) (by assumption) ?_
                  case hy367 => (intro w hSw; (try dsimp only at hSw); go_simp; try (with_reducible rfl))
                  (try simp only [Act.put, qa_, qb_, qc_])
                  refine wpAnyH_take (i := 19) (oi := ⟨some 210, _, _, _, _, _⟩) (v := ?v368) rfl (by kernel_rfl) (by kernel_rfl) (by kernel_rfl) (fun _ _ _ h => h) (Or.inl ⟨by rfl, ?hy368⟩) (by assumption) ?_
                  case hy368 => (intro w hSw; (try dsimp only at hSw); go_simp; try (with_reducible rfl))
                  (try simp only [Act.put, qa_, qb_, qc_])
                  refine wpAnyH_take (i := 20) (oi := ⟨some 211, _, _, _, _, _⟩) (v := ?v369) rfl (by kernel_rfl) (by kernel_rfl) (by kernel_rfl) (fun _ _ _ h => h) (Or.inl ⟨by rfl, ?hy369⟩) (by assumption) ?_
                  case hy369 => (intro w hSw; (try dsimp only at hSw); go_simp; try (with_reducible rfl))
                  (try simp only [Act.put, qa_, qb_, qc_])
                  refine wpAnyH_take (i := 21) (oi := ⟨some 212, _, _, _, _, _⟩) (v := ?v370) rfl (by kernel_rfl) (by kernel_rfl) (by kernel_rfl) (fun _ _ _ h => h) (Or.inl ⟨by rfl, ?hy370⟩) (by assumption) ?_
                  case hy370 => (intro w hSw; (try dsimp only at hSw); go_simp; try (with_reducible rfl))
                  (try simp only [Act.put, qa_, qb_, qc_])
                  refine wpAnyH_take (i := 22) (oi := ⟨some 213, _, _, _, _, _⟩) (v := ?v371) rfl (by kernel_rfl) (by kernel_rfl) (by kernel_rfl) (fun _ _ _ h => h) (Or.inl ⟨by rfl, ?hy371⟩) (by assumption) ?_
                  case hy371 => (intro w hSw; (try dsimp only at hSw); go_simp; try (with_reducible rfl))
                  (try simp only [Act.put, qa_, qb_, qc_])
                  refine wpAnyH_take (i := 23) (oi := ⟨some 214, _, _, _, _, _⟩) (v := ?v372) rfl (by kernel_rfl) (by kernel_rfl) (by kernel_rfl) (fun _ _ _ h => h) (Or.inl ⟨by rfl, ?hy372⟩) (by assumption) ?_
                  case hy372 => (intro w hSw; (try dsimp only at hSw); go_simp; try (with_reducible rfl))
                  (try simp only [Act.put, qa_, qb_, qc_])
                  refine wpAnyH_take (i := 24) (oi := ⟨some 215, _, _, _, _, _⟩) (v := ?v373) rfl (by kernel_rfl) (by kernel_rfl) (by kernel_rfl) (fun _ _ _ h => h) (Or.inl ⟨by rfl, ?hy373⟩) (by assumption) ?_
                  case hy373 => (intro w hSw; (try dsimp only at hSw); go_simp; try (with_reducible rfl))
                  (try simp only [Act.put, qa_, qb_, qc_])
                  refine wpAnyH_take (i := 25) (oi := ⟨some 216, _, _, _, _, _⟩) (v := ?v374) rfl (by kernel_rfl) (by kernel_rfl) (by kernel_rfl) (fun _ _ _ h => h) (Or.inl ⟨by rfl, ?hy374⟩) (by assumption) ?_
                  case hy374 => (intro w hSw; (try dsimp only at hSw); go_simp; try (with_reducible rfl))
                  (try simp only [Act.put, qa_, qb_, qc_])
                  refine wpAnyH_take (i := 26) (oi := ⟨some 217, _, _, _, _, _⟩) (v := ?v375) rfl (by kernel_rfl) (by kernel_rfl) (by kernel_rfl) (fun _ _ _ h => h) (Or.inl ⟨by rfl, ?hy375⟩) (by assumption) ?_
                  case hy375 => (intro w hSw; (try dsimp only at hSw); go_simp; try (with_reducible rfl))
                  (try simp only [Act.put, qa_, qb_, qc_])
                  refine wpAnyH_take (i := 27) (oi := ⟨some 218, _, _, _, _, _⟩) (v := ?v376) rfl (by kernel_rfl) (by kernel_rfl) (by kernel_rfl) (fun _ _ _ h => h) (Or.inl ⟨by rfl, ?hy376⟩) (by assumption) ?_
                  case hy376 => (intro w hSw; (try dsimp only at hSw); go_simp; try (with_reducible rfl))
                  (try simp only [Act.put, qa_, qb_, qc_])
                  refine wpAnyH_take (i := 28) (oi := ⟨some 219, _, _, _, _, _⟩) (v := ?v377) rfl (by kernel_rfl) (by kernel_rfl) (by kernel_rfl) (fun _ _ _ h => h) (Or.inl ⟨by rfl, ?hy377⟩) (by assumption) ?_
                  case hy377 => (intro w hSw; (try dsimp only at hSw); go_simp; try (with_reducible rfl))
                  (try simp only [Act.put, qa_, qb_, qc_])
                  refine wpAnyH_take (i := 29) (oi := ⟨some 220, _, _, _, _, _⟩) (v := ?v378) rfl (by kernel_rfl) (by kernel_rfl) (by kernel_rfl) (fun _ _ _ h => h) (Or.inl ⟨by rfl, ?hy378⟩) (by assumption) ?_
                  case hy378 => (intro w hSw; (try dsimp only at hSw); go_simp; try (with_reducible rfl))
                  (try simp only [Act.put, qa_, qb_, qc_])
                  refine wpAnyH_take (i := 30) (oi := ⟨some 221, _, _, _, _, _⟩) (v := ?v379) rfl (by kernel_rfl) (by kernel_rfl) (by kernel_rfl) (fun _ _ _ h => h) (Or.inl ⟨by rfl, ?hy379⟩) (by assumption) ?_
                  case hy379 => (intro w hSw; (try dsimp only at hSw); go_simp; try (with_reducible rfl))
                  (try simp only [Act.put, qa_, qb_, qc_])
                  refine wpAnyH_take (i := 31) (oi := ⟨some 222, _, _, _, _, _⟩) (v := ?v380) rfl (by kernel_rfl) (by kernel_rfl) (by kernel_rfl) (fun _ _ _ h => h) (Or.inl ⟨by rfl, ?hy380⟩) (by assumption) ?_
                  case hy380 => (intro w hSw; (try dsimp only at hSw); go_simp; try (with_reducible rfl))
                  (try simp only [Act.put, qa_, qb_, qc_])
                  refine wpAnyH_take (i := 32) (oi := ⟨some 223, _, _, _, _, _⟩) (v := ?v381) rfl (by kernel_rfl) (by kernel_rfl) (by kernel_rfl) (fun _ _ _ h => h) (Or.inl ⟨by rfl, ?hy381⟩) (by assumption) ?_
                  case hy381 => (intro w hSw; (try dsimp only at hSw); go_simp; try (with_reducible rfl))
                  (try simp only [Act.put, qa_, qb_, qc_])
                  refine wpAnyH_take (i := 33) (oi := ⟨some 224, _, _, _, _, _⟩) (v := ?v382) rfl (by kernel_rfl) (by kernel_rfl) (by kernel_rfl) (fun _ _ _ h => h) (Or.inl ⟨by rfl, ?hy382⟩) (by assumption) ?_
                  case hy382 => (intro w hSw; (try dsimp only at hSw); go_simp; try (with_reducible rfl))
                  (try simp only [Act.put, qa_, qb_, qc_])
                  refine wpAnyH_take (i := 34) (oi := ⟨some 225, _, _, _, _, _⟩) (v := ?v383) rfl (by kernel_rfl) (by kernel_rfl) (by kernel_rfl) (fun _ _ _ h => h) (Or.inl ⟨by rfl, ?hy383⟩) (by assumption) ?_
                  case hy383 => (intro w hSw; (try dsimp only at hSw); go_simp; try (with_reducible rfl))
                  (try simp only [Act.put, qa_, qb_, qc_])
                  refine wpAnyH_take (i := 35) (oi := ⟨some 226, _, _, _, _, _⟩) (v := ?v384) rfl (by kernel_rfl) (by kernel_rfl) (by kernel_rfl) (fun _ _ _ h => h) (Or.inl ⟨by rfl, ?hy384⟩) (by assumption) ?_
                  case hy384 => (intro w hSw; (try dsimp only at hSw); go_simp; try (with_reducible rfl))
                  (try simp only [Act.put, qa_, qb_, qc_])
                  refine wpAnyH_done (by kernel_rfl) ?_ _
                  go_wp2
                  go_roundw
                  case rel => first | exact ⟨j + 1, by omega, by go_num, (belx), alS HG.out HA.out HAT.out⟩ | ((repeat apply Exists.intro); exact ⟨⟨j + 1, by omega, by go_num, (belx), alS HG.out HA.out HAT.out⟩, rfl⟩)
                  case measure => simp [intOf]; omega
                · obtain rfl : n6 = j := by omega
                  obtain rfl := HT.out ⟨⟨⟨by dsimp only; omega, by dsimp only; omega⟩, ⟨by dsimp only; omega, by dsimp only; omega⟩, by dsimp only; omega, by dsimp only; omega⟩, ⟨by rw [E4.out]; exact l4, by rw [E5.out]; exact l5, by rw [E6.out]; exact l6⟩, HN.out, HM.out, alE HG.out (Nat.le_of_eq E6.out), HS.out.1, HS.out.2⟩
                  clear HT HF
                  go_wp2
                  go_ret
                  exact ⟨rfl, bel_trans hB1 hB⟩
theorem s_NetOk {w : World} {cs : List Value} {p : DNet} (h : tNet.R w w.heap.size cs p) (hz : szNet p ≤ 1048576) :
    Calls Tryz.prog 14 #[.agg cs.toArray] w fun e w' => e = .returned (.bool (decide (NtOk p))) ∧ Below w.heap.size w w' := by
  obtain ⟨A3, n3, c3, A4, n4, c4, A5, n5, c5, A6, n6, c6, rfl, -, -, -, -, -, -, hN, -, -, -, hM, -, -, -, hS, -, -, -, hG⟩ := openNet h
  unfold szNet at hz
  have z1 : rsz szNode p.2.2.2.1 ≤ 1048576 := by omega
  exact s_NetOkN _ (fun hh => decide_eq_true hh) (fun hh => decide_eq_false hh) hN hM hS hG z1
end Go.Proofs.YteokfenoomcogaaGreat
