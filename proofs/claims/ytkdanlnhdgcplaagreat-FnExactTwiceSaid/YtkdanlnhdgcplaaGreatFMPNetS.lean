/-
  PNetS: texts joined.
-/
import Derived.Test.YtkdanlnhdgcplaaGreatFGa
import Derived.Test.YtkdanlnhdgcplaaGreatFGe
import Derived.Test.YtkdanlnhdgcplaaGreatFGf
import Derived.Test.YtkdanlnhdgcplaaGreatFGg
import Derived.Test.YtkdanlnhdgcplaaGreatFMPNetI
import Derived.Test.YtkdanlnhdgcplaaGreatFMPNodeS
import Derived.Deep.RegionHeld3
namespace Go.Proofs.YtkdanlnhdgcplaaGreat
set_option maxRecDepth 100000
set_option linter.unusedVariables false
set_option linter.unusedSimpArgs false
open Go.ChangeShapes Go.WideShapes Go.ChangeAt Go.RowKit
open Fld
set_option maxHeartbeats 16000000 in
theorem s_NetOkN {w : World} {x0 x1 x2 : Int} {A3 A4 A5 A6 : Option Addr} {n3 c3 n4 c4 n5 c5 n6 c6 : Nat} {nds : List DNode} {bag : List DMail} {snt : List DSent} {sen : List DGlance} (b : Bool) (T : NtOk (x0, x1, x2, nds, bag, snt, sen) → b = true) (F : ¬ NtOk (x0, x1, x2, nds, bag, snt, sen) → b = false)
  (hN : tNode.row.R w w.heap.size [.slice A3 n3 c3] nds) (hM : tMail.row.R w w.heap.size [.slice A4 n4 c4] bag) (hS : tSent.row.R w w.heap.size [.slice A5 n5 c5] snt) (hG : tGlance.row.R w w.heap.size [.slice A6 n6 c6] sen) (hz : rsz szNode nds ≤ 1048576) :
  Calls Tryz.prog 21 #[.agg #[.int .i64 x0, .int .i64 x1, .int .i64 x2, .slice A3 n3 c3, .slice A4 n4 c4, .slice A5 n5 c5, .slice A6 n6 c6]] w fun e w' => e = .returned (.bool b) ∧ Bel w w' := by
 have E3 := Lib.hid (rowR_len hN).1
 have E4 := Lib.hid (rowR_len hM).1
 have E5 := Lib.hid (rowR_len hS).1
 have E6 := Lib.hid (rowR_len hG).1
 have HT := Lib.hid T
 have HF := Lib.hid F
 have HSZ := Lib.hid hz
 clear T F hz
 by_cases g0 : x0 < 0
 ·obtain rfl := HF.out (fun h => by have := h.1; dsimp only at this; omega)
  clear HT HF
  go_enter Tryz.func21, Tryz.ntmps21
  go_wp2
  go_ret
  exact ⟨rfl, (belx)⟩
 by_cases k0 : 50000 < x0
 ·obtain rfl := HF.out (fun h => by have := h.1; dsimp only at this; omega)
  clear HT HF
  go_enter Tryz.func21, Tryz.ntmps21
  go_wp2
  go_ret
  exact ⟨rfl, (belx)⟩
 by_cases g1 : x1 < 0
 ·obtain rfl := HF.out (fun h => by have := h.1; dsimp only at this; omega)
  clear HT HF
  go_enter Tryz.func21, Tryz.ntmps21
  go_wp2
  go_ret
  exact ⟨rfl, (belx)⟩
 by_cases k1 : 1000 < x1
 ·obtain rfl := HF.out (fun h => by have := h.1; dsimp only at this; omega)
  clear HT HF
  go_enter Tryz.func21, Tryz.ntmps21
  go_wp2
  go_ret
  exact ⟨rfl, (belx)⟩
 by_cases g2 : x2 < 0
 ·obtain rfl := HF.out (fun h => by have := h.1; dsimp only at this; omega)
  clear HT HF
  go_enter Tryz.func21, Tryz.ntmps21
  go_wp2
  go_ret
  exact ⟨rfl, (belx)⟩
 by_cases k2 : 20000 < x2
 ·obtain rfl := HF.out (fun h => by have := h.1; dsimp only at this; omega)
  clear HT HF
  go_enter Tryz.func21, Tryz.ntmps21
  go_wp2
  go_ret
  exact ⟨rfl, (belx)⟩
 by_cases l3 : n3 = 8
 rotate_left
 ·obtain rfl := HF.out (fun h => l3 (by have := h.2.2.1.1; have := E3.out; dsimp only at *; omega))
  have q3 : ((n3 : Int) != 8) = true := by simp; omega
  clear l3
  clear HT HF
  go_enter Tryz.func21, Tryz.ntmps21
  go_wp2
  go_ret
  exact ⟨rfl, (belx)⟩
 subst l3
 by_cases l4 : n4 ≤ 60
 rotate_left
 ·obtain rfl := HF.out (fun h => l4 (by have := h.2.1.1; have := E4.out; dsimp only at *; omega))
  have q4 : (60 : Int) < (n4 : Int) := by omega
  clear HT HF
  go_enter Tryz.func21, Tryz.ntmps21
  go_wp2
  go_ret
  exact ⟨rfl, (belx)⟩
 have q4 : ¬ (60 : Int) < (n4 : Int) := by omega
 by_cases l5 : n5 ≤ 20
 rotate_left
 ·obtain rfl := HF.out (fun h => l5 (by have := h.2.1.2.1; have := E5.out; dsimp only at *; omega))
  have q5 : (20 : Int) < (n5 : Int) := by omega
  clear HT HF
  go_enter Tryz.func21, Tryz.ntmps21
  go_wp2
  go_ret
  exact ⟨rfl, (belx)⟩
 have q5 : ¬ (20 : Int) < (n5 : Int) := by omega
 by_cases l6 : n6 ≤ 500
 rotate_left
 ·obtain rfl := HF.out (fun h => l6 (by have := h.2.1.2.2; have := E6.out; dsimp only at *; omega))
  have q6 : (500 : Int) < (n6 : Int) := by omega
  clear HT HF
  go_enter Tryz.func21, Tryz.ntmps21
  go_wp2
  go_ret
  exact ⟨rfl, (belx)⟩
 have q6 : ¬ (500 : Int) < (n6 : Int) := by omega
 go_enter Tryz.func21, Tryz.ntmps21
 go_wp2_with fail
 refine (s_l3nodes (by omega) (by omega)).mono ?_
 rintro e w1 ⟨A, c, A', c', rfl, hI, -, hb1⟩
 obtain ⟨gs, os, rfl, hgs, hcs⟩ := hI.2.1 (by omega)
 clear hI
 have X1 : Box w1 w.heap.size 35 #[.int .i64 x0, .int .i64 x1, .int .i64 x2, .slice A3 8 c3, .slice A4 n4 c4, .slice A5 n5 c5, .slice A6 n6 c6] := (Box.new _ _ _).below hb1 (by simp)
 have hB1 : Bel w w1 := bel_trans (belx) hb1
 have hN1 := tNode.row.reach hN hB1
 have hM1 := tMail.row.reach hM hB1
 have hS1 := tSent.row.reach hS hB1
 have hG1 := tGlance.row.reach hG hB1
 clear hN hM hS hG hb1
 go_wp2_with fail
 go_loopw [5] (fun i wr => ∃ j : Nat, j ≤ 8 ∧ i = .int .i64 j ∧ Bel w1 wr ∧ Ix (NdAt x1) nds j) (fun i _ => 8 - (RowKit.intOf i).toNat)
 case atStart => exact ⟨0, by omega, rfl, (belx), Ix.zero⟩
 case round =>
  obtain ⟨j, hj, rfl, hB, hG⟩ := hrel
  have HG := Lib.hid hG
  clear hG
  have X := X1.below hB X1.size
  have kk := X.cell 3
  by_cases hlt : j < 8
  ·obtain ⟨a, b', off, es, hl2, rfl, hb, hes, hR⟩ := rowR_at (K := 7) hN1 hlt rfl
   have HA := Lib.hid hl2
   have hza := nds_sz HSZ.out hl2
   have hRk := hR
   obtain ⟨B2, m2, d2, B3, m3, d3, B4, m4, d4, B5, m5, d5, B6, m6, d6, rfl, -⟩ := fopenNode hR
   obtain ⟨y0, hy0⟩ : ∃ y, a.1 = y := ⟨_, rfl⟩
   obtain ⟨y1, hy1⟩ : ∃ y, a.2.1 = y := ⟨_, rfl⟩
   rw [hy0, hy1] at hRk hes
   have HY0 := Lib.hid hy0
   have HY1 := Lib.hid hy1
   have h0 : w1.cell? ⟨b', off + j * 7, none⟩ = some (.int .i64 y0) := hes 0 (by omega)
   have u0 : wr.cell? ⟨b', off + j * 7, none⟩ = some (.int .i64 y0) := cell_at hB hb h0
   have h1 : w1.cell? ⟨b', off + j * 7 + 1, none⟩ = some (.int .i64 y1) := hes 1 (by omega)
   have u1 : wr.cell? ⟨b', off + j * 7 + 1, none⟩ = some (.int .i64 y1) := cell_at hB hb h1
   have h2 : w1.cell? ⟨b', off + j * 7 + 2, none⟩ = some (.slice B2 m2 d2) := hes 2 (by omega)
   have u2 : wr.cell? ⟨b', off + j * 7 + 2, none⟩ = some (.slice B2 m2 d2) := cell_at hB hb h2
   have h3 : w1.cell? ⟨b', off + j * 7 + 3, none⟩ = some (.slice B3 m3 d3) := hes 3 (by omega)
   have u3 : wr.cell? ⟨b', off + j * 7 + 3, none⟩ = some (.slice B3 m3 d3) := cell_at hB hb h3
   have h4 : w1.cell? ⟨b', off + j * 7 + 4, none⟩ = some (.slice B4 m4 d4) := hes 4 (by omega)
   have u4 : wr.cell? ⟨b', off + j * 7 + 4, none⟩ = some (.slice B4 m4 d4) := cell_at hB hb h4
   have h5 : w1.cell? ⟨b', off + j * 7 + 5, none⟩ = some (.slice B5 m5 d5) := hes 5 (by omega)
   have u5 : wr.cell? ⟨b', off + j * 7 + 5, none⟩ = some (.slice B5 m5 d5) := cell_at hB hb h5
   have h6 : w1.cell? ⟨b', off + j * 7 + 6, none⟩ = some (.slice B6 m6 d6) := hes 6 (by omega)
   have u6 : wr.cell? ⟨b', off + j * 7 + 6, none⟩ = some (.slice B6 m6 d6) := cell_at hB hb h6
   have u7 := kk
   have hz8 : w1.cell? ⟨gs, os + j, none⟩ = some (.int .i64 (nsec x1 j)) := by rw [← secL_at hlt]; exact hcs j hlt
   obtain ⟨z, hz⟩ : ∃ z, nsec x1 j = z := ⟨_, rfl⟩
   rw [hz] at hz8
   have HZ := Lib.hid hz
   have u8 : wr.cell? ⟨gs, os + j, none⟩ = some (.int .i64 z) := cell_at hB hgs hz8
   have i1 : (j : Int) < (8 : Int) := by omega
   clear hes hR hl2 hy0 hy1 hz
   by_cases g1 : NdOk a
   rotate_left
   ·obtain rfl := HF.out (fun h => g1 (h.2.2.1.2 j a HA.out).1)
    have HND := Lib.hid (decide_eq_false g1)
    clear g1
    clear HT HF
    as_aux_lemma =>
     go_wp2_with fail
     refine wp_region_held_drew (S := (fun w' => w'.cell? ⟨b', off + j * 7, none⟩ = some (.int .i64 y0) ∧ w'.cell? ⟨b', off + j * 7 + 1, none⟩ = some (.int .i64 y1) ∧ w'.cell? ⟨b', off + j * 7 + 2, none⟩ = some (.slice B2 m2 d2) ∧ w'.cell? ⟨b', off + j * 7 + 3, none⟩ = some (.slice B3 m3 d3) ∧ w'.cell? ⟨b', off + j * 7 + 4, none⟩ = some (.slice B4 m4 d4) ∧ w'.cell? ⟨b', off + j * 7 + 5, none⟩ = some (.slice B5 m5 d5) ∧ w'.cell? ⟨b', off + j * 7 + 6, none⟩ = some (.slice B6 m6 d6) ∧ w'.cell? ⟨w.heap.size, 3, none⟩ = some (.slice (some ⟨b', off, none⟩) 8 c3) ∧ w'.cell? ⟨gs, os + j, none⟩ = some (.int .i64 z))) (by kernel_rfl) (by exact ⟨u0, u1, u2, u3, u4, u5, u6, u7, u8⟩) (fun hHeld => ?_)
     refine tkx 0 (some 75) ?_
     refine tkx 1 (some 76) ?_
     refine tkx 2 (some 77) ?_
     refine tkx 3 (some 78) ?_
     refine tkx 4 (some 79) ?_
     refine rdx [5] ?_
     refine rcx (fun K hK => ?_) ?_
     ·go_simp
      go_at_call 50
      refine (s_NodeOk (tNode.reach (tNode.reach hRk hB) ?hBn) hza).mono ?_
      case hBn => exact (belx)
      rintro e w2 ⟨rfl, hb2⟩
      rw [HND.out]
      have hB2 : Bel w1 w2 := bel_trans hB (bel_trans (belx) hb2)
      have v0 : w2.cell? ⟨b', off + j * 7, none⟩ = some (.int .i64 y0) := cell_at hB2 hb h0
      have v1 : w2.cell? ⟨b', off + j * 7 + 1, none⟩ = some (.int .i64 y1) := cell_at hB2 hb h1
      have v2 : w2.cell? ⟨b', off + j * 7 + 2, none⟩ = some (.slice B2 m2 d2) := cell_at hB2 hb h2
      have v3 : w2.cell? ⟨b', off + j * 7 + 3, none⟩ = some (.slice B3 m3 d3) := cell_at hB2 hb h3
      have v4 : w2.cell? ⟨b', off + j * 7 + 4, none⟩ = some (.slice B4 m4 d4) := cell_at hB2 hb h4
      have v5 : w2.cell? ⟨b', off + j * 7 + 5, none⟩ = some (.slice B5 m5 d5) := cell_at hB2 hb h5
      have v6 : w2.cell? ⟨b', off + j * 7 + 6, none⟩ = some (.slice B6 m6 d6) := cell_at hB2 hb h6
      have v7 := (X1.below hB2 X1.size).cell 3
      have v8 : w2.cell? ⟨gs, os + j, none⟩ = some (.int .i64 z) := cell_at hB2 hgs hz8
      go_wp2_with fail
      refine hK.out _ _ ⟨v0, v1, v2, v3, v4, v5, v6, v7, v8⟩ (fun hHeld => ?_)
      clear hK K
      (try simp only [Act.put, qa_, qb_, qc_])
      refine tkx 6 (some 81) ?_
      refine tkx 7 (some 82) ?_
      refine tkn 8 (some 83) ?_
      refine tkn 9 (some 84) ?_
      refine tkn 10 (some 85) ?_
      refine tkn 11 (some 86) ?_
      refine tkn 12 (some 87) ?_
      refine tkn 13 (some 88) ?_
      refine tkn 14 (some 89) ?_
      refine tkn 15 (some 90) ?_
      refine tkx 16 (some 91) ?_
      refine tkx 17 (some 92) ?_
      refine tkn 18 (some 93) ?_
      refine tkn 19 (some 94) ?_
      refine tkn 20 (some 95) ?_
      refine tkn 21 (some 96) ?_
      refine tkn 22 (some 97) ?_
      refine tkn 23 (some 98) ?_
      refine tkn 24 (some 99) ?_
      refine tkn 25 (some 100) ?_
      refine tkn 26 (some 101) ?_
      refine tkn 27 (some 102) ?_
      refine tkn 28 (some 103) ?_
      refine tkx 29 (some 104) ?_
      refine rex ?_ _
      go_wp2
      go_ret
      exact ⟨rfl, bel_trans hB1 hB2⟩
     exact AllReadyH.nil
   have HND := Lib.hid (decide_eq_true g1)
   have H1 := Lib.hid g1
   by_cases g2 : y0 = (j : Int)
   rotate_left
   ·obtain rfl := HF.out (fun h => g2 (by rw [← HY0.out]; exact (h.2.2.1.2 j a HA.out).2.1))
    have q2 : (y0 != (j : Int)) = true := by simp [g2]
    clear g1 g2
    clear HT HF
    as_aux_lemma =>
     go_wp2_with fail
     refine wp_region_held_drew (S := (fun w' => w'.cell? ⟨b', off + j * 7, none⟩ = some (.int .i64 y0) ∧ w'.cell? ⟨b', off + j * 7 + 1, none⟩ = some (.int .i64 y1) ∧ w'.cell? ⟨b', off + j * 7 + 2, none⟩ = some (.slice B2 m2 d2) ∧ w'.cell? ⟨b', off + j * 7 + 3, none⟩ = some (.slice B3 m3 d3) ∧ w'.cell? ⟨b', off + j * 7 + 4, none⟩ = some (.slice B4 m4 d4) ∧ w'.cell? ⟨b', off + j * 7 + 5, none⟩ = some (.slice B5 m5 d5) ∧ w'.cell? ⟨b', off + j * 7 + 6, none⟩ = some (.slice B6 m6 d6) ∧ w'.cell? ⟨w.heap.size, 3, none⟩ = some (.slice (some ⟨b', off, none⟩) 8 c3) ∧ w'.cell? ⟨gs, os + j, none⟩ = some (.int .i64 z))) (by kernel_rfl) (by exact ⟨u0, u1, u2, u3, u4, u5, u6, u7, u8⟩) (fun hHeld => ?_)
     refine tkx 0 (some 75) ?_
     refine tkx 1 (some 76) ?_
     refine tkx 2 (some 77) ?_
     refine tkx 3 (some 78) ?_
     refine tkx 4 (some 79) ?_
     refine rdx [5] ?_
     refine rcx (fun K hK => ?_) ?_
     ·go_simp
      go_at_call 50
      refine (s_NodeOk (tNode.reach (tNode.reach hRk hB) ?hBn) hza).mono ?_
      case hBn => exact (belx)
      rintro e w2 ⟨rfl, hb2⟩
      rw [HND.out]
      have hB2 : Bel w1 w2 := bel_trans hB (bel_trans (belx) hb2)
      have v0 : w2.cell? ⟨b', off + j * 7, none⟩ = some (.int .i64 y0) := cell_at hB2 hb h0
      have v1 : w2.cell? ⟨b', off + j * 7 + 1, none⟩ = some (.int .i64 y1) := cell_at hB2 hb h1
      have v2 : w2.cell? ⟨b', off + j * 7 + 2, none⟩ = some (.slice B2 m2 d2) := cell_at hB2 hb h2
      have v3 : w2.cell? ⟨b', off + j * 7 + 3, none⟩ = some (.slice B3 m3 d3) := cell_at hB2 hb h3
      have v4 : w2.cell? ⟨b', off + j * 7 + 4, none⟩ = some (.slice B4 m4 d4) := cell_at hB2 hb h4
      have v5 : w2.cell? ⟨b', off + j * 7 + 5, none⟩ = some (.slice B5 m5 d5) := cell_at hB2 hb h5
      have v6 : w2.cell? ⟨b', off + j * 7 + 6, none⟩ = some (.slice B6 m6 d6) := cell_at hB2 hb h6
      have v7 := (X1.below hB2 X1.size).cell 3
      have v8 : w2.cell? ⟨gs, os + j, none⟩ = some (.int .i64 z) := cell_at hB2 hgs hz8
      go_wp2_with fail
      refine hK.out _ _ ⟨v0, v1, v2, v3, v4, v5, v6, v7, v8⟩ (fun hHeld => ?_)
      clear hK K
      (try simp only [Act.put, qa_, qb_, qc_])
      refine tkx 6 (some 81) ?_
      refine tkx 7 (some 82) ?_
      refine tkx 8 (some 83) ?_
      refine tkx 9 (some 84) ?_
      refine tkx 10 (some 85) ?_
      refine tkx 11 (some 86) ?_
      refine tkx 12 (some 87) ?_
      refine tkx 13 (some 88) ?_
      refine tkx 14 (some 89) ?_
      refine tkx 15 (some 90) ?_
      refine tkx 16 (some 91) ?_
      refine tkx 17 (some 92) ?_
      refine tkn 18 (some 93) ?_
      refine tkn 19 (some 94) ?_
      refine tkn 20 (some 95) ?_
      refine tkn 21 (some 96) ?_
      refine tkn 22 (some 97) ?_
      refine tkn 23 (some 98) ?_
      refine tkn 24 (some 99) ?_
      refine tkn 25 (some 100) ?_
      refine tkn 26 (some 101) ?_
      refine tkn 27 (some 102) ?_
      refine tkn 28 (some 103) ?_
      refine tkx 29 (some 104) ?_
      refine rex ?_ _
      go_wp2
      go_ret
      exact ⟨rfl, bel_trans hB1 hB2⟩
     exact AllReadyH.nil
   subst g2
   by_cases g4 : y1 = z
   rotate_left
   ·obtain rfl := HF.out (fun h => g4 (by rw [← HY1.out, ← HZ.out]; exact (h.2.2.1.2 j a HA.out).2.2))
    have q3 : (y1 != z) = true := by simp [g4]
    clear g1 g4
    clear HT HF
    as_aux_lemma =>
     go_wp2_with fail
     refine wp_region_held_drew (S := (fun w' => w'.cell? ⟨b', off + j * 7, none⟩ = some (.int .i64 (j : Int)) ∧ w'.cell? ⟨b', off + j * 7 + 1, none⟩ = some (.int .i64 y1) ∧ w'.cell? ⟨b', off + j * 7 + 2, none⟩ = some (.slice B2 m2 d2) ∧ w'.cell? ⟨b', off + j * 7 + 3, none⟩ = some (.slice B3 m3 d3) ∧ w'.cell? ⟨b', off + j * 7 + 4, none⟩ = some (.slice B4 m4 d4) ∧ w'.cell? ⟨b', off + j * 7 + 5, none⟩ = some (.slice B5 m5 d5) ∧ w'.cell? ⟨b', off + j * 7 + 6, none⟩ = some (.slice B6 m6 d6) ∧ w'.cell? ⟨w.heap.size, 3, none⟩ = some (.slice (some ⟨b', off, none⟩) 8 c3) ∧ w'.cell? ⟨gs, os + j, none⟩ = some (.int .i64 z))) (by kernel_rfl) (by exact ⟨u0, u1, u2, u3, u4, u5, u6, u7, u8⟩) (fun hHeld => ?_)
     refine tkx 0 (some 75) ?_
     refine tkx 1 (some 76) ?_
     refine tkx 2 (some 77) ?_
     refine tkx 3 (some 78) ?_
     refine tkx 4 (some 79) ?_
     refine rdx [5] ?_
     refine rcx (fun K hK => ?_) ?_
     ·go_simp
      go_at_call 50
      refine (s_NodeOk (tNode.reach (tNode.reach hRk hB) ?hBn) hza).mono ?_
      case hBn => exact (belx)
      rintro e w2 ⟨rfl, hb2⟩
      rw [HND.out]
      have hB2 : Bel w1 w2 := bel_trans hB (bel_trans (belx) hb2)
      have v0 : w2.cell? ⟨b', off + j * 7, none⟩ = some (.int .i64 (j : Int)) := cell_at hB2 hb h0
      have v1 : w2.cell? ⟨b', off + j * 7 + 1, none⟩ = some (.int .i64 y1) := cell_at hB2 hb h1
      have v2 : w2.cell? ⟨b', off + j * 7 + 2, none⟩ = some (.slice B2 m2 d2) := cell_at hB2 hb h2
      have v3 : w2.cell? ⟨b', off + j * 7 + 3, none⟩ = some (.slice B3 m3 d3) := cell_at hB2 hb h3
      have v4 : w2.cell? ⟨b', off + j * 7 + 4, none⟩ = some (.slice B4 m4 d4) := cell_at hB2 hb h4
      have v5 : w2.cell? ⟨b', off + j * 7 + 5, none⟩ = some (.slice B5 m5 d5) := cell_at hB2 hb h5
      have v6 : w2.cell? ⟨b', off + j * 7 + 6, none⟩ = some (.slice B6 m6 d6) := cell_at hB2 hb h6
      have v7 := (X1.below hB2 X1.size).cell 3
      have v8 : w2.cell? ⟨gs, os + j, none⟩ = some (.int .i64 z) := cell_at hB2 hgs hz8
      go_wp2_with fail
      refine hK.out _ _ ⟨v0, v1, v2, v3, v4, v5, v6, v7, v8⟩ (fun hHeld => ?_)
      clear hK K
      (try simp only [Act.put, qa_, qb_, qc_])
      refine tkx 6 (some 81) ?_
      refine tkx 7 (some 82) ?_
      refine tkx 8 (some 83) ?_
      refine tkx 9 (some 84) ?_
      refine tkx 10 (some 85) ?_
      refine tkx 11 (some 86) ?_
      refine tkx 12 (some 87) ?_
      refine tkx 13 (some 88) ?_
      refine tkx 14 (some 89) ?_
      refine tkx 15 (some 90) ?_
      refine tkx 16 (some 91) ?_
      refine tkx 17 (some 92) ?_
      refine tkx 18 (some 93) ?_
      refine tkx 19 (some 94) ?_
      refine tkx 20 (some 95) ?_
      refine tkx 21 (some 96) ?_
      refine tkx 22 (some 97) ?_
      refine tkx 23 (some 98) ?_
      refine tkx 24 (some 99) ?_
      refine tkx 25 (some 100) ?_
      refine tkx 26 (some 101) ?_
      refine tkx 27 (some 102) ?_
      refine tkx 28 (some 103) ?_
      refine tkx 29 (some 104) ?_
      refine rex ?_ _
      go_wp2
      go_ret
      exact ⟨rfl, bel_trans hB1 hB2⟩
     exact AllReadyH.nil
   subst g4
   have HAT := Lib.hid (show NdAt x1 j a from ⟨H1.out, HY0.out, by rw [HY1.out, HZ.out]⟩)
   clear g1
   go_wp2_with fail
   refine wp_region_held_drew (S := (fun w' => w'.cell? ⟨b', off + j * 7, none⟩ = some (.int .i64 (j : Int)) ∧ w'.cell? ⟨b', off + j * 7 + 1, none⟩ = some (.int .i64 y1) ∧ w'.cell? ⟨b', off + j * 7 + 2, none⟩ = some (.slice B2 m2 d2) ∧ w'.cell? ⟨b', off + j * 7 + 3, none⟩ = some (.slice B3 m3 d3) ∧ w'.cell? ⟨b', off + j * 7 + 4, none⟩ = some (.slice B4 m4 d4) ∧ w'.cell? ⟨b', off + j * 7 + 5, none⟩ = some (.slice B5 m5 d5) ∧ w'.cell? ⟨b', off + j * 7 + 6, none⟩ = some (.slice B6 m6 d6) ∧ w'.cell? ⟨w.heap.size, 3, none⟩ = some (.slice (some ⟨b', off, none⟩) 8 c3) ∧ w'.cell? ⟨gs, os + j, none⟩ = some (.int .i64 y1))) (by kernel_rfl) (by exact ⟨u0, u1, u2, u3, u4, u5, u6, u7, u8⟩) (fun hHeld => ?_)
   refine tkx 0 (some 75) ?_
   refine tkx 1 (some 76) ?_
   refine tkx 2 (some 77) ?_
   refine tkx 3 (some 78) ?_
   refine tkx 4 (some 79) ?_
   refine rdx [5] ?_
   refine rcx (fun K hK => ?_) ?_
   ·go_simp
    go_at_call 50
    refine (s_NodeOk (tNode.reach (tNode.reach hRk hB) ?hBn) hza).mono ?_
    case hBn => exact (belx)
    rintro e w2 ⟨rfl, hb2⟩
    rw [HND.out]
    have hB2 : Bel w1 w2 := bel_trans hB (bel_trans (belx) hb2)
    have v0 : w2.cell? ⟨b', off + j * 7, none⟩ = some (.int .i64 (j : Int)) := cell_at hB2 hb h0
    have v1 : w2.cell? ⟨b', off + j * 7 + 1, none⟩ = some (.int .i64 y1) := cell_at hB2 hb h1
    have v2 : w2.cell? ⟨b', off + j * 7 + 2, none⟩ = some (.slice B2 m2 d2) := cell_at hB2 hb h2
    have v3 : w2.cell? ⟨b', off + j * 7 + 3, none⟩ = some (.slice B3 m3 d3) := cell_at hB2 hb h3
    have v4 : w2.cell? ⟨b', off + j * 7 + 4, none⟩ = some (.slice B4 m4 d4) := cell_at hB2 hb h4
    have v5 : w2.cell? ⟨b', off + j * 7 + 5, none⟩ = some (.slice B5 m5 d5) := cell_at hB2 hb h5
    have v6 : w2.cell? ⟨b', off + j * 7 + 6, none⟩ = some (.slice B6 m6 d6) := cell_at hB2 hb h6
    have v7 := (X1.below hB2 X1.size).cell 3
    have v8 : w2.cell? ⟨gs, os + j, none⟩ = some (.int .i64 y1) := cell_at hB2 hgs hz8
    go_wp2_with fail
    refine hK.out _ _ ⟨v0, v1, v2, v3, v4, v5, v6, v7, v8⟩ (fun hHeld => ?_)
    clear hK K
    (try simp only [Act.put, qa_, qb_, qc_])
    refine tkx 6 (some 81) ?_
    refine tkx 7 (some 82) ?_
    refine tkx 8 (some 83) ?_
    refine tkx 9 (some 84) ?_
    refine tkx 10 (some 85) ?_
    refine tkx 11 (some 86) ?_
    refine tkx 12 (some 87) ?_
    refine tkx 13 (some 88) ?_
    refine tkx 14 (some 89) ?_
    refine tkx 15 (some 90) ?_
    refine tkx 16 (some 91) ?_
    refine tkx 17 (some 92) ?_
    refine tkx 18 (some 93) ?_
    refine tkx 19 (some 94) ?_
    refine tkx 20 (some 95) ?_
    refine tkx 21 (some 96) ?_
    refine tkx 22 (some 97) ?_
    refine tkx 23 (some 98) ?_
    refine tkx 24 (some 99) ?_
    refine tkx 25 (some 100) ?_
    refine tkx 26 (some 101) ?_
    refine tkx 27 (some 102) ?_
    refine tkx 28 (some 103) ?_
    refine tkx 29 (some 104) ?_
    refine rex ?_ _
    go_wp2
    go_roundw
    case rel => exact ⟨j + 1, by omega, by go_num, hB2, Ix.succ HG.out HA.out HAT.out⟩
    case measure => simp [RowKit.intOf]; omega
   exact AllReadyH.nil
  ·obtain rfl : j = 8 := by omega
   have HN := Lib.hid (show NdsOk x1 nds from ⟨E3.out, Ix.all HG.out (by rw [E3.out]; exact Nat.le_refl _)⟩)
   clear X HG
   have k4 : wr.cell? ⟨w.heap.size, 4, none⟩ = some (.slice A4 n4 c4) := by have X := X1.below hB X1.size; exact X.cell 4
   go_wp2_with fail
   clear kk hlt
   go_loopw [6] (fun i wr => ∃ j : Nat, j ≤ n4 ∧ i = .int .i64 j ∧ Bel w1 wr ∧ ∀ m ∈ bag.take j, MlOk m) (fun i _ => n4 - (RowKit.intOf i).toNat)
   case atStart => exact ⟨0, by omega, rfl, hB, al0⟩
   case round =>
    clear k4 hB
    obtain ⟨j, hj, rfl, hB, hG⟩ := hrel
    have HG := Lib.hid hG
    clear hG
    have X := X1.below hB X1.size
    have kk := X.cell 4
    by_cases hlt : j < n4
    ·obtain ⟨a, b', off, es, hl2, rfl, hb, hes, hR⟩ := rowR_at (K := 2) hM1 hlt rfl
     have HA := Lib.hid hl2
     obtain ⟨B1, m1, d1, rfl, -, -, -, hlm, -⟩ := openMail hR
     obtain ⟨y, hy⟩ : ∃ y, a.1 = y := ⟨_, rfl⟩
     rw [hy] at hes
     have HY := Lib.hid hy
     have HLM := Lib.hid hlm
     have u0 : wr.cell? ⟨b', off + j * 2, none⟩ = some (.int .i64 y) := cell_at hB hb (hes 0 (by omega))
     have u1 : wr.cell? ⟨b', off + j * 2 + 1, none⟩ = some (.slice B1 m1 d1) := cell_at hB hb (hes 1 (by omega))
     have i1 : (j : Int) < (n4 : Int) := by omega
     clear hes hR hl2 hy hlm
     by_cases g1 : y < 0
     ·obtain rfl := HF.out (fun h => by have := (h.2.2.2.1 a (alMem HA.out)).1.1; have := HY.out; omega)
      clear HT HF
      go_wp2
      go_ret
      exact ⟨rfl, bel_trans hB1 hB⟩
     by_cases g2 : 8 ≤ y
     ·obtain rfl := HF.out (fun h => by have := (h.2.2.2.1 a (alMem HA.out)).1.2; have := HY.out; omega)
      clear HT HF
      go_wp2
      go_ret
      exact ⟨rfl, bel_trans hB1 hB⟩
     by_cases g3 : m1 = 80
     rotate_left
     ·obtain rfl := HF.out (fun h => g3 (by rw [← HLM.out]; exact (h.2.2.2.1 a (alMem HA.out)).2))
      have HLC := Lib.hid g3
      clear HT HF g3
      go_wp2_with fail
      refine (s_CellOk_f _ _ _ _ HLC.out).mono ?_
      rintro e w2 ⟨rfl, hb2⟩
      have hB2 : Bel w1 w2 := bel_trans hB (bel_trans (belx) hb2)
      go_wp2
      go_ret
      exact ⟨rfl, bel_trans hB1 hB2⟩
     have HLC := Lib.hid g3
     have HAT := Lib.hid (show MlOk a from ⟨⟨by have := HY.out; omega, by have := HY.out; omega⟩, by rw [HLM.out]; exact g3⟩)
     clear g3
     go_wp2_with fail
     refine (s_CellOk_t _ _ _ _ HLC.out).mono ?_
     rintro e w2 ⟨rfl, hb2⟩
     have hB2 : Bel w1 w2 := bel_trans hB (bel_trans (belx) hb2)
     go_wp2
     go_roundw
     case rel => first | exact ⟨j + 1, by omega, by go_num, hB2, alS HG.out HA.out HAT.out⟩ | ((repeat apply Exists.intro); exact ⟨⟨j + 1, by omega, by go_num, hB2, alS HG.out HA.out HAT.out⟩, rfl⟩)
     case measure => simp [RowKit.intOf]; omega
    ·obtain rfl : n4 = j := by omega
     have HM := Lib.hid (alE HG.out (Nat.le_of_eq E4.out))
     clear X HG
     have k5 : wr.cell? ⟨w.heap.size, 5, none⟩ = some (.slice A5 n5 c5) := by have X := X1.below hB X1.size; exact X.cell 5
     go_wp2_with fail
     clear kk hlt
     go_loopw [7] (fun i wr => ∃ j : Nat, j ≤ n5 ∧ i = .int .i64 j ∧ Bel w1 wr ∧ SnK snt j) (fun i _ => n5 - (RowKit.intOf i).toNat)
     case atStart => exact ⟨0, by omega, rfl, hB, SnK.zero⟩
     case round =>
      clear k5 hB
      obtain ⟨j, hj, rfl, hB, hG⟩ := hrel
      have HG := Lib.hid hG
      clear hG
      have X := X1.below hB X1.size
      have kk := X.cell 5
      by_cases hlt : j < n5
      ·obtain ⟨a, b', off, es, hl2, rfl, hb, hes, hR⟩ := rowR_at (K := 3) hS1 hlt rfl
       have HA := Lib.hid hl2
       have hnc5 := (rowR_len hS1).2.1
       have hcc5 := (rowR_len hS1).2.2
       obtain ⟨B2, m2, d2, rfl, -, -, -, -, hlm, -⟩ := openSent hR
       obtain ⟨y, hy⟩ : ∃ y, a.1 = y := ⟨_, rfl⟩
       obtain ⟨z, hz⟩ : ∃ z, a.2.1 = z := ⟨_, rfl⟩
       rw [hy, hz] at hes
       have HY := Lib.hid hy
       have HZ := Lib.hid hz
       have HLM := Lib.hid hlm
       have u0 : wr.cell? ⟨b', off + j * 3, none⟩ = some (.int .i64 y) := cell_at hB hb (hes 0 (by omega))
       have u1 : wr.cell? ⟨b', off + j * 3 + 1, none⟩ = some (.int .i64 z) := cell_at hB hb (hes 1 (by omega))
       have u2 : wr.cell? ⟨b', off + j * 3 + 2, none⟩ = some (.slice B2 m2 d2) := cell_at hB hb (hes 2 (by omega))
       have i1 : (j : Int) < (n5 : Int) := by omega
       have i2 : j ≤ c5 := by omega
       clear hes hR hl2 hy hz hlm
       by_cases g1 : y < 0
       ·obtain rfl := HF.out (fun h => by have := (h.2.2.2.2.2.1 a (alMem HA.out)).1.1; have := HY.out; omega)
        have dd0 : decide (y < 0) = true := by first | exact decide_eq_true g1 | (simp; omega)
        clear HT HF
        as_aux_lemma =>
         go_wp2_with fail
         have Y0 : Box (wr.alloc (.cells #[.int .i64 y, .int .i64 z, .slice B2 m2 d2] 111)) wr.heap.size 111 #[.int .i64 y, .int .i64 z, .slice B2 m2 d2] := Box.new _ _ _
         have Z0 := X.alloc (.cells #[.int .i64 y, .int .i64 z, .slice B2 m2 d2] 111)
         refine wp_region_held_drew (S := (fun w' => w'.cell? ⟨wr.heap.size, 0, none⟩ = some (.int .i64 y) ∧ w'.cell? ⟨wr.heap.size, 1, none⟩ = some (.int .i64 z) ∧ w'.cell? ⟨wr.heap.size, 2, none⟩ = some (.slice B2 m2 d2) ∧ w'.cell? ⟨w.heap.size, 5, none⟩ = some (.slice (some ⟨b', off, none⟩) n5 c5))) (by kernel_rfl) (by exact ⟨Y0.cell 0, Y0.cell 1, Y0.cell 2, Z0.cell 5⟩) (fun hHeld => ?_)
         refine tkx 0 (some 150) ?_
         refine tkx 1 (some 151) ?_
         refine tkx 2 (some 152) ?_
         refine tkx 3 (some 153) ?_
         refine tkn 4 (some 154) ?_
         refine tkn 5 (some 155) ?_
         refine tkn 6 (some 156) ?_
         refine tkx 7 (some 157) ?_
         refine tkx 8 (some 158) ?_
         refine tkn 9 (some 159) ?_
         refine tkn 10 (some 160) ?_
         refine tkn 11 (some 161) ?_
         refine tkx 12 (some 162) ?_
         refine tkx 13 (some 163) ?_
         refine tkn 14 (some 164) ?_
         refine tkn 15 (some 165) ?_
         refine tkn 16 (some 166) ?_
         refine tkx 17 (some 167) ?_
         refine tkx 18 (some 168) ?_
         refine tkn 19 (some 169) ?_
         refine tkn 20 (some 170) ?_
         refine tkn 21 (some 171) ?_
         refine tkn 22 (some 172) ?_
         refine tkx 23 (some 173) ?_
         refine tkx 24 (some 174) ?_
         refine tkn 25 (some 175) ?_
         refine tkn 26 (some 176) ?_
         refine tkn 27 (some 177) ?_
         refine tkn 28 (some 178) ?_
         refine tkn 29 (some 179) ?_
         refine tkn 30 (some 180) ?_
         refine tkn 31 (some 181) ?_
         refine tkn 32 (some 182) ?_
         refine tkx 33 (some 183) ?_
         refine rex ?_ _
         go_wp2
         go_ret
         exact ⟨rfl, bel_trans hB1 (belx)⟩
       have dd0 : decide (y < 0) = false := by first | exact decide_eq_false g1 | (simp; omega)
       by_cases g2 : 255 < y
       ·obtain rfl := HF.out (fun h => by have := (h.2.2.2.2.2.1 a (alMem HA.out)).1.2; have := HY.out; omega)
        have dd1 : decide (255 < y) = true := by first | exact decide_eq_true g2 | (simp; omega)
        clear HT HF
        as_aux_lemma =>
         go_wp2_with fail
         have Y0 : Box (wr.alloc (.cells #[.int .i64 y, .int .i64 z, .slice B2 m2 d2] 111)) wr.heap.size 111 #[.int .i64 y, .int .i64 z, .slice B2 m2 d2] := Box.new _ _ _
         have Z0 := X.alloc (.cells #[.int .i64 y, .int .i64 z, .slice B2 m2 d2] 111)
         refine wp_region_held_drew (S := (fun w' => w'.cell? ⟨wr.heap.size, 0, none⟩ = some (.int .i64 y) ∧ w'.cell? ⟨wr.heap.size, 1, none⟩ = some (.int .i64 z) ∧ w'.cell? ⟨wr.heap.size, 2, none⟩ = some (.slice B2 m2 d2) ∧ w'.cell? ⟨w.heap.size, 5, none⟩ = some (.slice (some ⟨b', off, none⟩) n5 c5))) (by kernel_rfl) (by exact ⟨Y0.cell 0, Y0.cell 1, Y0.cell 2, Z0.cell 5⟩) (fun hHeld => ?_)
         refine tkx 0 (some 150) ?_
         refine tkx 1 (some 151) ?_
         refine tkx 2 (some 152) ?_
         refine tkx 3 (some 153) ?_
         refine tkx 4 (some 154) ?_
         refine tkx 5 (some 155) ?_
         refine tkx 6 (some 156) ?_
         refine tkx 7 (some 157) ?_
         refine tkx 8 (some 158) ?_
         refine tkn 9 (some 159) ?_
         refine tkn 10 (some 160) ?_
         refine tkn 11 (some 161) ?_
         refine tkx 12 (some 162) ?_
         refine tkx 13 (some 163) ?_
         refine tkn 14 (some 164) ?_
         refine tkn 15 (some 165) ?_
         refine tkn 16 (some 166) ?_
         refine tkx 17 (some 167) ?_
         refine tkx 18 (some 168) ?_
         refine tkn 19 (some 169) ?_
         refine tkn 20 (some 170) ?_
         refine tkn 21 (some 171) ?_
         refine tkn 22 (some 172) ?_
         refine tkx 23 (some 173) ?_
         refine tkx 24 (some 174) ?_
         refine tkn 25 (some 175) ?_
         refine tkn 26 (some 176) ?_
         refine tkn 27 (some 177) ?_
         refine tkn 28 (some 178) ?_
         refine tkn 29 (some 179) ?_
         refine tkn 30 (some 180) ?_
         refine tkn 31 (some 181) ?_
         refine tkn 32 (some 182) ?_
         refine tkx 33 (some 183) ?_
         refine rex ?_ _
         go_wp2
         go_ret
         exact ⟨rfl, bel_trans hB1 (belx)⟩
       have dd1 : decide (255 < y) = false := by first | exact decide_eq_false g2 | (simp; omega)
       by_cases g3 : z < 0
       ·obtain rfl := HF.out (fun h => by have := (h.2.2.2.2.2.1 a (alMem HA.out)).2.1.1; have := HZ.out; omega)
        have dd2 : decide (z < 0) = true := by first | exact decide_eq_true g3 | (simp; omega)
        clear HT HF
        as_aux_lemma =>
         go_wp2_with fail
         have Y0 : Box (wr.alloc (.cells #[.int .i64 y, .int .i64 z, .slice B2 m2 d2] 111)) wr.heap.size 111 #[.int .i64 y, .int .i64 z, .slice B2 m2 d2] := Box.new _ _ _
         have Z0 := X.alloc (.cells #[.int .i64 y, .int .i64 z, .slice B2 m2 d2] 111)
         refine wp_region_held_drew (S := (fun w' => w'.cell? ⟨wr.heap.size, 0, none⟩ = some (.int .i64 y) ∧ w'.cell? ⟨wr.heap.size, 1, none⟩ = some (.int .i64 z) ∧ w'.cell? ⟨wr.heap.size, 2, none⟩ = some (.slice B2 m2 d2) ∧ w'.cell? ⟨w.heap.size, 5, none⟩ = some (.slice (some ⟨b', off, none⟩) n5 c5))) (by kernel_rfl) (by exact ⟨Y0.cell 0, Y0.cell 1, Y0.cell 2, Z0.cell 5⟩) (fun hHeld => ?_)
         refine tkx 0 (some 150) ?_
         refine tkx 1 (some 151) ?_
         refine tkx 2 (some 152) ?_
         refine tkx 3 (some 153) ?_
         refine tkx 4 (some 154) ?_
         refine tkx 5 (some 155) ?_
         refine tkx 6 (some 156) ?_
         refine tkx 7 (some 157) ?_
         refine tkx 8 (some 158) ?_
         refine tkx 9 (some 159) ?_
         refine tkx 10 (some 160) ?_
         refine tkx 11 (some 161) ?_
         refine tkx 12 (some 162) ?_
         refine tkx 13 (some 163) ?_
         refine tkn 14 (some 164) ?_
         refine tkn 15 (some 165) ?_
         refine tkn 16 (some 166) ?_
         refine tkx 17 (some 167) ?_
         refine tkx 18 (some 168) ?_
         refine tkn 19 (some 169) ?_
         refine tkn 20 (some 170) ?_
         refine tkn 21 (some 171) ?_
         refine tkn 22 (some 172) ?_
         refine tkx 23 (some 173) ?_
         refine tkx 24 (some 174) ?_
         refine tkn 25 (some 175) ?_
         refine tkn 26 (some 176) ?_
         refine tkn 27 (some 177) ?_
         refine tkn 28 (some 178) ?_
         refine tkn 29 (some 179) ?_
         refine tkn 30 (some 180) ?_
         refine tkn 31 (some 181) ?_
         refine tkn 32 (some 182) ?_
         refine tkx 33 (some 183) ?_
         refine rex ?_ _
         go_wp2
         go_ret
         exact ⟨rfl, bel_trans hB1 (belx)⟩
       have dd2 : decide (z < 0) = false := by first | exact decide_eq_false g3 | (simp; omega)
       by_cases g4 : 8 ≤ z
       ·obtain rfl := HF.out (fun h => by have := (h.2.2.2.2.2.1 a (alMem HA.out)).2.1.2; have := HZ.out; omega)
        have dd3 : decide (8 ≤ z) = true := by first | exact decide_eq_true g4 | (simp; omega)
        clear HT HF
        as_aux_lemma =>
         go_wp2_with fail
         have Y0 : Box (wr.alloc (.cells #[.int .i64 y, .int .i64 z, .slice B2 m2 d2] 111)) wr.heap.size 111 #[.int .i64 y, .int .i64 z, .slice B2 m2 d2] := Box.new _ _ _
         have Z0 := X.alloc (.cells #[.int .i64 y, .int .i64 z, .slice B2 m2 d2] 111)
         refine wp_region_held_drew (S := (fun w' => w'.cell? ⟨wr.heap.size, 0, none⟩ = some (.int .i64 y) ∧ w'.cell? ⟨wr.heap.size, 1, none⟩ = some (.int .i64 z) ∧ w'.cell? ⟨wr.heap.size, 2, none⟩ = some (.slice B2 m2 d2) ∧ w'.cell? ⟨w.heap.size, 5, none⟩ = some (.slice (some ⟨b', off, none⟩) n5 c5))) (by kernel_rfl) (by exact ⟨Y0.cell 0, Y0.cell 1, Y0.cell 2, Z0.cell 5⟩) (fun hHeld => ?_)
         refine tkx 0 (some 150) ?_
         refine tkx 1 (some 151) ?_
         refine tkx 2 (some 152) ?_
         refine tkx 3 (some 153) ?_
         refine tkx 4 (some 154) ?_
         refine tkx 5 (some 155) ?_
         refine tkx 6 (some 156) ?_
         refine tkx 7 (some 157) ?_
         refine tkx 8 (some 158) ?_
         refine tkx 9 (some 159) ?_
         refine tkx 10 (some 160) ?_
         refine tkx 11 (some 161) ?_
         refine tkx 12 (some 162) ?_
         refine tkx 13 (some 163) ?_
         refine tkx 14 (some 164) ?_
         refine tkx 15 (some 165) ?_
         refine tkx 16 (some 166) ?_
         refine tkx 17 (some 167) ?_
         refine tkx 18 (some 168) ?_
         refine tkn 19 (some 169) ?_
         refine tkn 20 (some 170) ?_
         refine tkn 21 (some 171) ?_
         refine tkn 22 (some 172) ?_
         refine tkx 23 (some 173) ?_
         refine tkx 24 (some 174) ?_
         refine tkn 25 (some 175) ?_
         refine tkn 26 (some 176) ?_
         refine tkn 27 (some 177) ?_
         refine tkn 28 (some 178) ?_
         refine tkn 29 (some 179) ?_
         refine tkn 30 (some 180) ?_
         refine tkn 31 (some 181) ?_
         refine tkn 32 (some 182) ?_
         refine tkx 33 (some 183) ?_
         refine rex ?_ _
         go_wp2
         go_ret
         exact ⟨rfl, bel_trans hB1 (belx)⟩
       have dd3 : decide (8 ≤ z) = false := by first | exact decide_eq_false g4 | (simp; omega)
       by_cases g5 : 160 < m2
       ·obtain rfl := HF.out (fun h => by have := (h.2.2.2.2.2.1 a (alMem HA.out)).2.2; have := HLM.out; omega)
        have q5 : (160 : Int) < (m2 : Int) := by omega
        have dd4 : decide ((160 : Int) < (m2 : Int)) = true := by first | exact decide_eq_true g5 | (simp; omega)
        clear HT HF
        as_aux_lemma =>
         go_wp2_with fail
         have Y0 : Box (wr.alloc (.cells #[.int .i64 y, .int .i64 z, .slice B2 m2 d2] 111)) wr.heap.size 111 #[.int .i64 y, .int .i64 z, .slice B2 m2 d2] := Box.new _ _ _
         have Z0 := X.alloc (.cells #[.int .i64 y, .int .i64 z, .slice B2 m2 d2] 111)
         refine wp_region_held_drew (S := (fun w' => w'.cell? ⟨wr.heap.size, 0, none⟩ = some (.int .i64 y) ∧ w'.cell? ⟨wr.heap.size, 1, none⟩ = some (.int .i64 z) ∧ w'.cell? ⟨wr.heap.size, 2, none⟩ = some (.slice B2 m2 d2) ∧ w'.cell? ⟨w.heap.size, 5, none⟩ = some (.slice (some ⟨b', off, none⟩) n5 c5))) (by kernel_rfl) (by exact ⟨Y0.cell 0, Y0.cell 1, Y0.cell 2, Z0.cell 5⟩) (fun hHeld => ?_)
         refine tkx 0 (some 150) ?_
         refine tkx 1 (some 151) ?_
         refine tkx 2 (some 152) ?_
         refine tkx 3 (some 153) ?_
         refine tkx 4 (some 154) ?_
         refine tkx 5 (some 155) ?_
         refine tkx 6 (some 156) ?_
         refine tkx 7 (some 157) ?_
         refine tkx 8 (some 158) ?_
         refine tkx 9 (some 159) ?_
         refine tkx 10 (some 160) ?_
         refine tkx 11 (some 161) ?_
         refine tkx 12 (some 162) ?_
         refine tkx 13 (some 163) ?_
         refine tkx 14 (some 164) ?_
         refine tkx 15 (some 165) ?_
         refine tkx 16 (some 166) ?_
         refine tkx 17 (some 167) ?_
         refine tkx 18 (some 168) ?_
         refine tkx 19 (some 169) ?_
         refine tkx 20 (some 170) ?_
         refine tkx 21 (some 171) ?_
         refine tkx 22 (some 172) ?_
         refine tkx 23 (some 173) ?_
         refine tkx 24 (some 174) ?_
         refine tkn 25 (some 175) ?_
         refine tkn 26 (some 176) ?_
         refine tkn 27 (some 177) ?_
         refine tkn 28 (some 178) ?_
         refine tkn 29 (some 179) ?_
         refine tkn 30 (some 180) ?_
         refine tkn 31 (some 181) ?_
         refine tkn 32 (some 182) ?_
         refine tkx 33 (some 183) ?_
         refine rex ?_ _
         go_wp2
         go_ret
         exact ⟨rfl, bel_trans hB1 (belx)⟩
       have dd4 : decide ((160 : Int) < (m2 : Int)) = false := by first | exact decide_eq_false g5 | (simp; omega)
       have q5 : ¬ (160 : Int) < (m2 : Int) := by omega
       obtain ⟨q, hq⟩ : ∃ q, sAt (snt.take j) y = q := ⟨_, rfl⟩
       have HQ := Lib.hid hq
       have hge := sAt_ge (l := snt.take j) (x := y)
       rw [hq] at hge
       have HGE := Lib.hid hge
       clear hq hge
       by_cases g6 : 0 ≤ q
       ·obtain rfl := HF.out (fun h => sn_dup HA.out (by rw [HY.out]; exact HGE.out.1 g6) h.2.2.2.2.2.2)
        have dd5 : decide (0 ≤ q) = true := by first | exact decide_eq_true g6 | (simp; omega)
        clear HT HF
        as_aux_lemma =>
         go_wp2_with fail
         have Y0 : Box (wr.alloc (.cells #[.int .i64 y, .int .i64 z, .slice B2 m2 d2] 111)) wr.heap.size 111 #[.int .i64 y, .int .i64 z, .slice B2 m2 d2] := Box.new _ _ _
         have Z0 := X.alloc (.cells #[.int .i64 y, .int .i64 z, .slice B2 m2 d2] 111)
         refine wp_region_held_drew (S := (fun w' => w'.cell? ⟨wr.heap.size, 0, none⟩ = some (.int .i64 y) ∧ w'.cell? ⟨wr.heap.size, 1, none⟩ = some (.int .i64 z) ∧ w'.cell? ⟨wr.heap.size, 2, none⟩ = some (.slice B2 m2 d2) ∧ w'.cell? ⟨w.heap.size, 5, none⟩ = some (.slice (some ⟨b', off, none⟩) n5 c5))) (by kernel_rfl) (by exact ⟨Y0.cell 0, Y0.cell 1, Y0.cell 2, Z0.cell 5⟩) (fun hHeld => ?_)
         refine tkx 0 (some 150) ?_
         refine tkx 1 (some 151) ?_
         refine tkx 2 (some 152) ?_
         refine tkx 3 (some 153) ?_
         refine tkx 4 (some 154) ?_
         refine tkx 5 (some 155) ?_
         refine tkx 6 (some 156) ?_
         refine tkx 7 (some 157) ?_
         refine tkx 8 (some 158) ?_
         refine tkx 9 (some 159) ?_
         refine tkx 10 (some 160) ?_
         refine tkx 11 (some 161) ?_
         refine tkx 12 (some 162) ?_
         refine tkx 13 (some 163) ?_
         refine tkx 14 (some 164) ?_
         refine tkx 15 (some 165) ?_
         refine tkx 16 (some 166) ?_
         refine tkx 17 (some 167) ?_
         refine tkx 18 (some 168) ?_
         refine tkx 19 (some 169) ?_
         refine tkx 20 (some 170) ?_
         refine tkx 21 (some 171) ?_
         refine tkx 22 (some 172) ?_
         refine tkx 23 (some 173) ?_
         refine tkx 24 (some 174) ?_
         refine tkx 25 (some 175) ?_
         refine tkx 26 (some 176) ?_
         refine tkx 27 (some 177) ?_
         refine tkx 28 (some 178) ?_
         refine tkx 29 (some 179) ?_
         refine tkx 30 (some 180) ?_
         refine rdx [31] ?_
         refine rcx (fun K hK => ?_) ?_
         ·go_simp
          go_at_call 52
          refine (s_l7sent _ (rowR_head (tSent.row.reach hS1 ?hBq) (by omega)) (by omega)).mono ?_
          case hBq => exact (belx)
          rintro e wq ⟨rfl, rfl⟩
          rw [HQ.out]
          go_wp2_with fail
          refine hK.out _ _ ⟨Y0.cell 0, Y0.cell 1, Y0.cell 2, Z0.cell 5⟩ (fun hHeld => ?_)
          clear hK K
          (try simp only [Act.put, qa_, qb_, qc_])
          refine tkx 32 (some 182) ?_
          refine tkx 33 (some 183) ?_
          refine rex ?_ _
          go_wp2
          go_ret
          exact ⟨rfl, bel_trans hB1 (belx)⟩
         exact AllReadyH.nil
       have dd5 : decide (0 ≤ q) = false := by first | exact decide_eq_false g6 | (simp; omega)
       have HAT := Lib.hid (show SnK snt (j + 1) from SnK.succ HG.out HA.out ⟨⟨by have := HY.out; omega, by have := HY.out; omega⟩, ⟨by have := HZ.out; omega, by have := HZ.out; omega⟩, by have := HLM.out; omega⟩ (fun hh => g6 (HGE.out.2 (by rw [← HY.out]; exact hh))))
       go_wp2_with fail
       have Y0 : Box (wr.alloc (.cells #[.int .i64 y, .int .i64 z, .slice B2 m2 d2] 111)) wr.heap.size 111 #[.int .i64 y, .int .i64 z, .slice B2 m2 d2] := Box.new _ _ _
       have Z0 := X.alloc (.cells #[.int .i64 y, .int .i64 z, .slice B2 m2 d2] 111)
       refine wp_region_held_drew (S := (fun w' => w'.cell? ⟨wr.heap.size, 0, none⟩ = some (.int .i64 y) ∧ w'.cell? ⟨wr.heap.size, 1, none⟩ = some (.int .i64 z) ∧ w'.cell? ⟨wr.heap.size, 2, none⟩ = some (.slice B2 m2 d2) ∧ w'.cell? ⟨w.heap.size, 5, none⟩ = some (.slice (some ⟨b', off, none⟩) n5 c5))) (by kernel_rfl) (by exact ⟨Y0.cell 0, Y0.cell 1, Y0.cell 2, Z0.cell 5⟩) (fun hHeld => ?_)
       refine tkx 0 (some 150) ?_
       refine tkx 1 (some 151) ?_
       refine tkx 2 (some 152) ?_
       refine tkx 3 (some 153) ?_
       refine tkx 4 (some 154) ?_
       refine tkx 5 (some 155) ?_
       refine tkx 6 (some 156) ?_
       refine tkx 7 (some 157) ?_
       refine tkx 8 (some 158) ?_
       refine tkx 9 (some 159) ?_
       refine tkx 10 (some 160) ?_
       refine tkx 11 (some 161) ?_
       refine tkx 12 (some 162) ?_
       refine tkx 13 (some 163) ?_
       refine tkx 14 (some 164) ?_
       refine tkx 15 (some 165) ?_
       refine tkx 16 (some 166) ?_
       refine tkx 17 (some 167) ?_
       refine tkx 18 (some 168) ?_
       refine tkx 19 (some 169) ?_
       refine tkx 20 (some 170) ?_
       refine tkx 21 (some 171) ?_
       refine tkx 22 (some 172) ?_
       refine tkx 23 (some 173) ?_
       refine tkx 24 (some 174) ?_
       refine tkx 25 (some 175) ?_
       refine tkx 26 (some 176) ?_
       refine tkx 27 (some 177) ?_
       refine tkx 28 (some 178) ?_
       refine tkx 29 (some 179) ?_
       refine tkx 30 (some 180) ?_
       refine rdx [31] ?_
       refine rcx (fun K hK => ?_) ?_
       ·go_simp
        go_at_call 52
        refine (s_l7sent _ (rowR_head (tSent.row.reach hS1 ?hBq) (by omega)) (by omega)).mono ?_
        case hBq => exact (belx)
        rintro e wq ⟨rfl, rfl⟩
        rw [HQ.out]
        go_wp2_with fail
        refine hK.out _ _ ⟨Y0.cell 0, Y0.cell 1, Y0.cell 2, Z0.cell 5⟩ (fun hHeld => ?_)
        clear hK K
        (try simp only [Act.put, qa_, qb_, qc_])
        refine tkx 32 (some 182) ?_
        refine tkx 33 (some 183) ?_
        refine rex ?_ _
        go_wp2
        go_roundw
        case rel => first | exact ⟨j + 1, by omega, by go_num, (belx), HAT.out⟩ | ((repeat apply Exists.intro); exact ⟨⟨j + 1, by omega, by go_num, (belx), HAT.out⟩, rfl⟩)
        case measure => simp [RowKit.intOf]; omega
       exact AllReadyH.nil
      ·obtain rfl : n5 = j := by omega
       have HS := Lib.hid (SnK.all HG.out (Nat.le_of_eq E5.out))
       clear X HG
       have k6 : wr.cell? ⟨w.heap.size, 6, none⟩ = some (.slice A6 n6 c6) := by have X := X1.below hB X1.size; exact X.cell 6
       go_wp2_with fail
       clear kk hlt
       go_loopw [9] (fun i wr => ∃ j : Nat, j ≤ n6 ∧ i = .int .i64 j ∧ Bel w1 wr ∧ ∀ m ∈ sen.take j, GlOk x0 m) (fun i _ => n6 - (RowKit.intOf i).toNat)
       case atStart => exact ⟨0, by omega, rfl, hB, al0⟩
       case round =>
        clear k6 hB
        obtain ⟨j, hj, rfl, hB, hG⟩ := hrel
        have HG := Lib.hid hG
        clear hG
        have X := X1.below hB X1.size
        have k0 := X.cell 0
        have kk := X.cell 6
        by_cases hlt : j < n6
        ·obtain ⟨a, b', off, es, hl2, rfl, hb, hes, hR⟩ := rowR_at (K := 2) hG1 hlt rfl
         have HA := Lib.hid hl2
         obtain ⟨rfl, -, -⟩ := openGlance hR
         obtain ⟨y, hy⟩ : ∃ y, a.1 = y := ⟨_, rfl⟩
         obtain ⟨z, hz⟩ : ∃ z, a.2 = z := ⟨_, rfl⟩
         rw [hy, hz] at hes
         have HY := Lib.hid hy
         have HZ := Lib.hid hz
         have u0 : wr.cell? ⟨b', off + j * 2, none⟩ = some (.int .i64 y) := cell_at hB hb (hes 0 (by omega))
         have u1 : wr.cell? ⟨b', off + j * 2 + 1, none⟩ = some (.int .i64 z) := cell_at hB hb (hes 1 (by omega))
         have i1 : (j : Int) < (n6 : Int) := by omega
         have i2 : (0 : Int) ≤ (j : Int) := by omega
         clear hes hR hl2 hy hz
         by_cases g1 : y < 0
         ·obtain rfl := HF.out (fun h => by have := (h.2.2.2.2.1 a (alMem HA.out)).1.1; have := HY.out; have := HZ.out; (try dsimp only at *); omega)
          have dd0 : decide (y < 0) = true := by first | exact decide_eq_true g1 | (simp; omega)
          clear HT HF
          as_aux_lemma =>
           go_wp2_with fail
           refine wp_region_held_drew (S := (fun w' => w'.cell? ⟨b', off + j * 2, none⟩ = some (.int .i64 y) ∧ w'.cell? ⟨b', off + j * 2 + 1, none⟩ = some (.int .i64 z) ∧ w'.cell? ⟨w.heap.size, 0, none⟩ = some (.int .i64 x0) ∧ w'.cell? ⟨w.heap.size, 6, none⟩ = some (.slice (some ⟨b', off, none⟩) n6 c6))) (by kernel_rfl) (by exact ⟨u0, u1, k0, kk⟩) (fun hHeld => ?_)
           refine tkx 0 (some 191) ?_
           refine tkx 1 (some 192) ?_
           refine tkx 2 (some 193) ?_
           refine tkx 3 (some 194) ?_
           refine tkx 4 (some 195) ?_
           refine tkx 5 (some 196) ?_
           refine tkx 6 (some 197) ?_
           refine tkx 7 (some 198) ?_
           refine tkn 8 (some 199) ?_
           refine tkn 9 (some 200) ?_
           refine tkn 10 (some 201) ?_
           refine tkn 11 (some 202) ?_
           refine tkn 12 (some 203) ?_
           refine tkn 13 (some 204) ?_
           refine tkn 14 (some 205) ?_
           refine tkn 15 (some 206) ?_
           refine tkn 16 (some 207) ?_
           refine tkx 17 (some 208) ?_
           refine tkx 18 (some 209) ?_
           refine tkn 19 (some 210) ?_
           refine tkn 20 (some 211) ?_
           refine tkn 21 (some 212) ?_
           refine tkn 22 (some 213) ?_
           refine tkn 23 (some 214) ?_
           refine tkn 24 (some 215) ?_
           refine tkn 25 (some 216) ?_
           refine tkx 26 (some 217) ?_
           refine tkx 27 (some 218) ?_
           refine tkn 28 (some 219) ?_
           refine tkn 29 (some 220) ?_
           refine tkn 30 (some 221) ?_
           refine tkn 31 (some 222) ?_
           refine tkn 32 (some 223) ?_
           refine tkn 33 (some 224) ?_
           refine tkn 34 (some 225) ?_
           refine tkx 35 (some 226) ?_
           refine rex ?_ _
           go_wp2
           go_ret
           exact ⟨rfl, bel_trans hB1 (belx)⟩
         have dd0 : decide (y < 0) = false := by first | exact decide_eq_false g1 | (simp; omega)
         by_cases g2 : x0 < y
         ·obtain rfl := HF.out (fun h => by have := (h.2.2.2.2.1 a (alMem HA.out)).1.2; have := HY.out; have := HZ.out; (try dsimp only at *); omega)
          have dd1 : decide (x0 < y) = true := by first | exact decide_eq_true g2 | (simp; omega)
          clear HT HF
          as_aux_lemma =>
           go_wp2_with fail
           refine wp_region_held_drew (S := (fun w' => w'.cell? ⟨b', off + j * 2, none⟩ = some (.int .i64 y) ∧ w'.cell? ⟨b', off + j * 2 + 1, none⟩ = some (.int .i64 z) ∧ w'.cell? ⟨w.heap.size, 0, none⟩ = some (.int .i64 x0) ∧ w'.cell? ⟨w.heap.size, 6, none⟩ = some (.slice (some ⟨b', off, none⟩) n6 c6))) (by kernel_rfl) (by exact ⟨u0, u1, k0, kk⟩) (fun hHeld => ?_)
           refine tkx 0 (some 191) ?_
           refine tkx 1 (some 192) ?_
           refine tkx 2 (some 193) ?_
           refine tkx 3 (some 194) ?_
           refine tkx 4 (some 195) ?_
           refine tkx 5 (some 196) ?_
           refine tkx 6 (some 197) ?_
           refine tkx 7 (some 198) ?_
           refine tkx 8 (some 199) ?_
           refine tkx 9 (some 200) ?_
           refine tkx 10 (some 201) ?_
           refine tkx 11 (some 202) ?_
           refine tkx 12 (some 203) ?_
           refine tkx 13 (some 204) ?_
           refine tkx 14 (some 205) ?_
           refine tkx 15 (some 206) ?_
           refine tkx 16 (some 207) ?_
           refine tkx 17 (some 208) ?_
           refine tkx 18 (some 209) ?_
           refine tkn 19 (some 210) ?_
           refine tkn 20 (some 211) ?_
           refine tkn 21 (some 212) ?_
           refine tkn 22 (some 213) ?_
           refine tkn 23 (some 214) ?_
           refine tkn 24 (some 215) ?_
           refine tkn 25 (some 216) ?_
           refine tkx 26 (some 217) ?_
           refine tkx 27 (some 218) ?_
           refine tkn 28 (some 219) ?_
           refine tkn 29 (some 220) ?_
           refine tkn 30 (some 221) ?_
           refine tkn 31 (some 222) ?_
           refine tkn 32 (some 223) ?_
           refine tkn 33 (some 224) ?_
           refine tkn 34 (some 225) ?_
           refine tkx 35 (some 226) ?_
           refine rex ?_ _
           go_wp2
           go_ret
           exact ⟨rfl, bel_trans hB1 (belx)⟩
         have dd1 : decide (x0 < y) = false := by first | exact decide_eq_false g2 | (simp; omega)
         by_cases g3 : z < 0
         ·obtain rfl := HF.out (fun h => by have := (h.2.2.2.2.1 a (alMem HA.out)).2.1; have := HY.out; have := HZ.out; (try dsimp only at *); omega)
          have dd2 : decide (z < 0) = true := by first | exact decide_eq_true g3 | (simp; omega)
          clear HT HF
          as_aux_lemma =>
           go_wp2_with fail
           refine wp_region_held_drew (S := (fun w' => w'.cell? ⟨b', off + j * 2, none⟩ = some (.int .i64 y) ∧ w'.cell? ⟨b', off + j * 2 + 1, none⟩ = some (.int .i64 z) ∧ w'.cell? ⟨w.heap.size, 0, none⟩ = some (.int .i64 x0) ∧ w'.cell? ⟨w.heap.size, 6, none⟩ = some (.slice (some ⟨b', off, none⟩) n6 c6))) (by kernel_rfl) (by exact ⟨u0, u1, k0, kk⟩) (fun hHeld => ?_)
           refine tkx 0 (some 191) ?_
           refine tkx 1 (some 192) ?_
           refine tkx 2 (some 193) ?_
           refine tkx 3 (some 194) ?_
           refine tkx 4 (some 195) ?_
           refine tkx 5 (some 196) ?_
           refine tkx 6 (some 197) ?_
           refine tkx 7 (some 198) ?_
           refine tkx 8 (some 199) ?_
           refine tkx 9 (some 200) ?_
           refine tkx 10 (some 201) ?_
           refine tkx 11 (some 202) ?_
           refine tkx 12 (some 203) ?_
           refine tkx 13 (some 204) ?_
           refine tkx 14 (some 205) ?_
           refine tkx 15 (some 206) ?_
           refine tkx 16 (some 207) ?_
           refine tkx 17 (some 208) ?_
           refine tkx 18 (some 209) ?_
           refine tkx 19 (some 210) ?_
           refine tkx 20 (some 211) ?_
           refine tkx 21 (some 212) ?_
           refine tkx 22 (some 213) ?_
           refine tkx 23 (some 214) ?_
           refine tkx 24 (some 215) ?_
           refine tkx 25 (some 216) ?_
           refine tkx 26 (some 217) ?_
           refine tkx 27 (some 218) ?_
           refine tkn 28 (some 219) ?_
           refine tkn 29 (some 220) ?_
           refine tkn 30 (some 221) ?_
           refine tkn 31 (some 222) ?_
           refine tkn 32 (some 223) ?_
           refine tkn 33 (some 224) ?_
           refine tkn 34 (some 225) ?_
           refine tkx 35 (some 226) ?_
           refine rex ?_ _
           go_wp2
           go_ret
           exact ⟨rfl, bel_trans hB1 (belx)⟩
         have dd2 : decide (z < 0) = false := by first | exact decide_eq_false g3 | (simp; omega)
         by_cases g4 : 8 ≤ z
         ·obtain rfl := HF.out (fun h => by have := (h.2.2.2.2.1 a (alMem HA.out)).2.2; have := HY.out; have := HZ.out; (try dsimp only at *); omega)
          have dd3 : decide (8 ≤ z) = true := by first | exact decide_eq_true g4 | (simp; omega)
          clear HT HF
          as_aux_lemma =>
           go_wp2_with fail
           refine wp_region_held_drew (S := (fun w' => w'.cell? ⟨b', off + j * 2, none⟩ = some (.int .i64 y) ∧ w'.cell? ⟨b', off + j * 2 + 1, none⟩ = some (.int .i64 z) ∧ w'.cell? ⟨w.heap.size, 0, none⟩ = some (.int .i64 x0) ∧ w'.cell? ⟨w.heap.size, 6, none⟩ = some (.slice (some ⟨b', off, none⟩) n6 c6))) (by kernel_rfl) (by exact ⟨u0, u1, k0, kk⟩) (fun hHeld => ?_)
           refine tkx 0 (some 191) ?_
           refine tkx 1 (some 192) ?_
           refine tkx 2 (some 193) ?_
           refine tkx 3 (some 194) ?_
           refine tkx 4 (some 195) ?_
           refine tkx 5 (some 196) ?_
           refine tkx 6 (some 197) ?_
           refine tkx 7 (some 198) ?_
           refine tkx 8 (some 199) ?_
           refine tkx 9 (some 200) ?_
           refine tkx 10 (some 201) ?_
           refine tkx 11 (some 202) ?_
           refine tkx 12 (some 203) ?_
           refine tkx 13 (some 204) ?_
           refine tkx 14 (some 205) ?_
           refine tkx 15 (some 206) ?_
           refine tkx 16 (some 207) ?_
           refine tkx 17 (some 208) ?_
           refine tkx 18 (some 209) ?_
           refine tkx 19 (some 210) ?_
           refine tkx 20 (some 211) ?_
           refine tkx 21 (some 212) ?_
           refine tkx 22 (some 213) ?_
           refine tkx 23 (some 214) ?_
           refine tkx 24 (some 215) ?_
           refine tkx 25 (some 216) ?_
           refine tkx 26 (some 217) ?_
           refine tkx 27 (some 218) ?_
           refine tkx 28 (some 219) ?_
           refine tkx 29 (some 220) ?_
           refine tkx 30 (some 221) ?_
           refine tkx 31 (some 222) ?_
           refine tkx 32 (some 223) ?_
           refine tkx 33 (some 224) ?_
           refine tkx 34 (some 225) ?_
           refine tkx 35 (some 226) ?_
           refine rex ?_ _
           go_wp2
           go_ret
           exact ⟨rfl, bel_trans hB1 (belx)⟩
         have dd3 : decide (8 ≤ z) = false := by first | exact decide_eq_false g4 | (simp; omega)
         have HAT := Lib.hid (show GlOk x0 a from ⟨⟨by have := HY.out; omega, by have := HY.out; omega⟩, by have := HZ.out; omega, by have := HZ.out; omega⟩)
         go_wp2_with fail
         refine wp_region_held_drew (S := (fun w' => w'.cell? ⟨b', off + j * 2, none⟩ = some (.int .i64 y) ∧ w'.cell? ⟨b', off + j * 2 + 1, none⟩ = some (.int .i64 z) ∧ w'.cell? ⟨w.heap.size, 0, none⟩ = some (.int .i64 x0) ∧ w'.cell? ⟨w.heap.size, 6, none⟩ = some (.slice (some ⟨b', off, none⟩) n6 c6))) (by kernel_rfl) (by exact ⟨u0, u1, k0, kk⟩) (fun hHeld => ?_)
         refine tkx 0 (some 191) ?_
         refine tkx 1 (some 192) ?_
         refine tkx 2 (some 193) ?_
         refine tkx 3 (some 194) ?_
         refine tkx 4 (some 195) ?_
         refine tkx 5 (some 196) ?_
         refine tkx 6 (some 197) ?_
         refine tkx 7 (some 198) ?_
         refine tkx 8 (some 199) ?_
         refine tkx 9 (some 200) ?_
         refine tkx 10 (some 201) ?_
         refine tkx 11 (some 202) ?_
         refine tkx 12 (some 203) ?_
         refine tkx 13 (some 204) ?_
         refine tkx 14 (some 205) ?_
         refine tkx 15 (some 206) ?_
         refine tkx 16 (some 207) ?_
         refine tkx 17 (some 208) ?_
         refine tkx 18 (some 209) ?_
         refine tkx 19 (some 210) ?_
         refine tkx 20 (some 211) ?_
         refine tkx 21 (some 212) ?_
         refine tkx 22 (some 213) ?_
         refine tkx 23 (some 214) ?_
         refine tkx 24 (some 215) ?_
         refine tkx 25 (some 216) ?_
         refine tkx 26 (some 217) ?_
         refine tkx 27 (some 218) ?_
         refine tkx 28 (some 219) ?_
         refine tkx 29 (some 220) ?_
         refine tkx 30 (some 221) ?_
         refine tkx 31 (some 222) ?_
         refine tkx 32 (some 223) ?_
         refine tkx 33 (some 224) ?_
         refine tkx 34 (some 225) ?_
         refine tkx 35 (some 226) ?_
         refine rex ?_ _
         go_wp2
         go_roundw
         case rel => first | exact ⟨j + 1, by omega, by go_num, (belx), alS HG.out HA.out HAT.out⟩ | ((repeat apply Exists.intro); exact ⟨⟨j + 1, by omega, by go_num, (belx), alS HG.out HA.out HAT.out⟩, rfl⟩)
         case measure => simp [RowKit.intOf]; omega
        ·obtain rfl : n6 = j := by omega
         obtain rfl := HT.out ⟨⟨⟨by dsimp only; omega, by dsimp only; omega⟩, ⟨by dsimp only; omega, by dsimp only; omega⟩, by dsimp only; omega, by dsimp only; omega⟩, ⟨by rw [E4.out]; exact l4, by rw [E5.out]; exact l5, by rw [E6.out]; exact l6⟩, HN.out, HM.out, alE HG.out (Nat.le_of_eq E6.out), HS.out.1, HS.out.2⟩
         clear HT HF
         go_wp2
         go_ret
         exact ⟨rfl, bel_trans hB1 hB⟩
theorem s_NetOk {w : World} {cs : List Value} {p : DNet} (h : tNet.R w w.heap.size cs p) (hz : szNet p ≤ 1048576) :
  Calls Tryz.prog 21 #[.agg cs.toArray] w fun e w' => e = .returned (.bool (decide (NtOk p))) ∧ Bel w w' := by
 obtain ⟨A3, n3, c3, A4, n4, c4, A5, n5, c5, A6, n6, c6, rfl, -, -, -, -, -, -, hN, -, -, -, hM, -, -, -, hS, -, -, -, hG⟩ := openNet h
 unfold szNet at hz
 have z1 : rsz szNode p.2.2.2.1 ≤ 1048576 := by omega
 exact s_NetOkN _ (fun hh => decide_eq_true hh) (fun hh => decide_eq_false hh) hN hM hS hG z1
end Go.Proofs.YtkdanlnhdgcplaaGreat
