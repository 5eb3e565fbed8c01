/-
  PNetI: texts joined.
-/
import Derived.Test.YtkdanlnhdgcplaaGreatFGa
import Derived.Test.YtkdanlnhdgcplaaGreatFGb
import Derived.Test.YtkdanlnhdgcplaaGreatFGe
import Derived.Test.YtkdanlnhdgcplaaGreatFGf
import Derived.Test.YtkdanlnhdgcplaaGreatFGg
import Derived.Test.YtkdanlnhdgcplaaGreatFMPNodeI
import Derived.Deep.RegionHeld3
namespace Go.Proofs.YtkdanlnhdgcplaaGreat
set_option maxRecDepth 100000
set_option linter.unusedVariables false
set_option linter.unusedSimpArgs false
open Go.ChangeShapes Go.WideShapes Go.ChangeAt Go.RowKit
open Fld
theorem own_cap {k : IntKind} {e : TypeId} {w : World} {base n c : Nat} {A : Option Addr} {l : List Int} (h : Own k e w base (.slice A n c) l) : c ≤ 9223372036854775807 := by
 obtain ⟨⟨h1, h2⟩, h3⟩ := h
 rcases h2 with ⟨h2, h0⟩ | ⟨g, cap, cur, h2, hb, hg, hn', hm, hs, ht⟩
 ·injection h2 with e1 e2 e3
  subst e3
  omega
 ·injection h2 with e1 e2 e3
  subst e3
  have : maxLen ≤ 9223372036854775807 := by decide
  omega
theorem nds_sz {l : List DNode} (hz : rsz szNode l ≤ 1048576) {j : Nat} {a : DNode} (h : l[j]? = some a) : szNode a ≤ 1048576 := by
 have := rsz_step (s := szNode) h; omega
set_option maxHeartbeats 16000000 in
theorem i_hasOwn {w : World} {x0 x1 x2 : Int} {A3 A4 A5 A6 : Option Addr} {n3 c3 n4 c4 n5 c5 n6 c6 : Nat} {nds : List DNode} (b : Bool) (T : NdsOk x1 nds → b = true) (F : ¬ NdsOk x1 nds → b = false) (h0 : 0 ≤ x1) (h1 : x1 ≤ 1000)
  (hN : tNode.row.R w w.heap.size [.slice A3 n3 c3] nds) (hz : rsz szNode nds ≤ 1048576) :
  Calls Tryz.prog 59 #[.agg #[.int .i64 x0, .int .i64 x1, .int .i64 x2, .slice A3 n3 c3, .slice A4 n4 c4, .slice A5 n5 c5, .slice A6 n6 c6]] w fun e w' => e = .returned (.bool b) ∧ Bel w w' := by
 have e3 := (rowR_len hN).1
 have hn3 : n3 ≤ 1048576 := by have := rsz_le (s := szNode) nds; omega
 have E3 := Lib.hid e3
 have HT := Lib.hid T
 have HF := Lib.hid F
 have HSZ := Lib.hid hz
 clear T F e3 hz
 go_enter Tryz.func59, Tryz.ntmps59
 go_wp2_with fail
 go_loopw [8] (fun i wr => ∃ j : Nat, j ≤ n3 ∧ i = .int .i64 j ∧ Bel w wr ∧ Box wr w.heap.size 35 #[.int .i64 x0, .int .i64 x1, .int .i64 x2, .slice A3 n3 c3, .slice A4 n4 c4, .slice A5 n5 c5, .slice A6 n6 c6] ∧ Ix (NdAt x1) nds j) (fun i _ => n3 - (RowKit.intOf i).toNat)
 case atStart => exact ⟨0, by omega, rfl, (belx), Box.new _ _ _, Ix.zero⟩
 case round =>
  obtain ⟨j, hj, rfl, hB, hX, hG⟩ := hrel
  have HG := Lib.hid hG
  clear hG
  have k1 := hX.cell 1
  have k3 := hX.cell 3
  by_cases hlt : j < n3
  ·obtain ⟨a, b', off, es, hl2, rfl, hb, hes, hR⟩ := rowR_at (K := 7) hN hlt rfl
   have HA := Lib.hid hl2
   have hza := nds_sz HSZ.out hl2
   have hRk := hR
   obtain ⟨B2, m2, d2, B3, m3, d3, B4, m4, d4, B5, m5, d5, B6, m6, d6, rfl, -⟩ := fopenNode hR
   obtain ⟨y0, hy0⟩ : ∃ y, a.1 = y := ⟨_, rfl⟩
   obtain ⟨y1, hy1⟩ : ∃ y, a.2.1 = y := ⟨_, rfl⟩
   rw [hy0, hy1] at hRk hes
   have HY0 := Lib.hid hy0
   have HY1 := Lib.hid hy1
   have u0 : wr.cell? ⟨b', off + j * 7, none⟩ = some (.int .i64 y0) := cell_at hB hb (hes 0 (by omega))
   have u1 : wr.cell? ⟨b', off + j * 7 + 1, none⟩ = some (.int .i64 y1) := cell_at hB hb (hes 1 (by omega))
   have u2 : wr.cell? ⟨b', off + j * 7 + 2, none⟩ = some (.slice B2 m2 d2) := cell_at hB hb (hes 2 (by omega))
   have u3 : wr.cell? ⟨b', off + j * 7 + 3, none⟩ = some (.slice B3 m3 d3) := cell_at hB hb (hes 3 (by omega))
   have u4 : wr.cell? ⟨b', off + j * 7 + 4, none⟩ = some (.slice B4 m4 d4) := cell_at hB hb (hes 4 (by omega))
   have u5 : wr.cell? ⟨b', off + j * 7 + 5, none⟩ = some (.slice B5 m5 d5) := cell_at hB hb (hes 5 (by omega))
   have u6 : wr.cell? ⟨b', off + j * 7 + 6, none⟩ = some (.slice B6 m6 d6) := cell_at hB hb (hes 6 (by omega))
   have i1 : (j : Int) < (n3 : Int) := by omega
   clear hes hR hl2 hy0 hy1
   by_cases g1 : NdOk a
   rotate_left
   ·obtain rfl := HF.out (fun h => g1 (h.2 j a HA.out).1)
    have HND := Lib.hid (decide_eq_false g1)
    clear HT HF g1
    as_aux_lemma =>
     go_wp2_with fail
     have Y0 : Box (wr.alloc (.cells #[.int .i64 y0, .int .i64 y1, .slice B2 m2 d2, .slice B3 m3 d3, .slice B4 m4 d4, .slice B5 m5 d5, .slice B6 m6 d6] 109)) wr.heap.size 109 #[.int .i64 y0, .int .i64 y1, .slice B2 m2 d2, .slice B3 m3 d3, .slice B4 m4 d4, .slice B5 m5 d5, .slice B6 m6 d6] := Box.new _ _ _
     have Z0 := hX.alloc (.cells #[.int .i64 y0, .int .i64 y1, .slice B2 m2 d2, .slice B3 m3 d3, .slice B4 m4 d4, .slice B5 m5 d5, .slice B6 m6 d6] 109)
     refine wp_region_held_drew (S := (fun w' => w'.cell? ⟨wr.heap.size, 0, none⟩ = some (.int .i64 y0) ∧ w'.cell? ⟨wr.heap.size, 1, none⟩ = some (.int .i64 y1) ∧ w'.cell? ⟨wr.heap.size, 2, none⟩ = some (.slice B2 m2 d2) ∧ w'.cell? ⟨wr.heap.size, 3, none⟩ = some (.slice B3 m3 d3) ∧ w'.cell? ⟨wr.heap.size, 4, none⟩ = some (.slice B4 m4 d4) ∧ w'.cell? ⟨wr.heap.size, 5, none⟩ = some (.slice B5 m5 d5) ∧ w'.cell? ⟨wr.heap.size, 6, none⟩ = some (.slice B6 m6 d6) ∧ w'.cell? ⟨w.heap.size, 1, none⟩ = some (.int .i64 x1))) (by kernel_rfl) (by exact ⟨Y0.cell 0, Y0.cell 1, Y0.cell 2, Y0.cell 3, Y0.cell 4, Y0.cell 5, Y0.cell 6, Z0.cell 1⟩) (fun hHeld => ?_)
     refine tkx 0 (some 13) ?_
     refine rdx [1] ?_
     refine rcx (fun K hK => ?_) ?_
     ·go_simp
      go_at_call 102
      refine (i_NodeOk (tNode.reach (tNode.reach hRk hB) ?hBn) hza).mono ?_
      case hBn => exact (belx)
      rintro e w1 ⟨rfl, hb1⟩
      rw [HND.out]
      have Y1 := Box.below (Box.drew Y0) hb1 (Box.drew Y0).size
      have Z1 := Box.below (Box.drew Z0) hb1 (Box.drew Z0).size
      have hB1 : Bel w w1 := bel_trans hB (bel_trans (belx) hb1)
      go_wp2_with fail
      refine hK.out _ _ ⟨Y1.cell 0, Y1.cell 1, Y1.cell 2, Y1.cell 3, Y1.cell 4, Y1.cell 5, Y1.cell 6, Z1.cell 1⟩ (fun hHeld => ?_)
      clear hK K
      (try simp only [Act.put, qa_, qb_, qc_])
      refine tkx 2 (some 15) ?_
      refine tkx 3 (some 16) ?_
      refine tkn 4 (some 17) ?_
      refine tkn 5 (some 18) ?_
      refine tkn 6 (some 19) ?_
      refine tkn 7 (some 20) ?_
      refine tkx 8 (some 21) ?_
      refine tkx 9 (some 22) ?_
      refine tkn 10 (some 23) ?_
      refine tkn 11 (some 24) ?_
      refine tkn 12 (some 25) ?_
      refine tkn 13 (some 26) ?_
      refine tkn 14 (some 27) ?_
      refine tkn 15 (some 28) ?_
      refine tkn 16 (some 29) ?_
      refine tkx 17 (some 30) ?_
      refine rex ?_ _
      go_wp2
      go_ret
      exact ⟨rfl, hB1⟩
     exact AllReadyH.nil
   have HND := Lib.hid (decide_eq_true g1)
   have HG1 := Lib.hid g1
   by_cases g2 : y0 = (j : Int)
   rotate_left
   ·obtain rfl := HF.out (fun h => g2 (by rw [← HY0.out]; exact (h.2 j a HA.out).2.1))
    have q2 : (y0 != (j : Int)) = true := by simp [g2]
    clear HT HF g1 g2
    as_aux_lemma =>
     go_wp2_with fail
     have Y0 : Box (wr.alloc (.cells #[.int .i64 y0, .int .i64 y1, .slice B2 m2 d2, .slice B3 m3 d3, .slice B4 m4 d4, .slice B5 m5 d5, .slice B6 m6 d6] 109)) wr.heap.size 109 #[.int .i64 y0, .int .i64 y1, .slice B2 m2 d2, .slice B3 m3 d3, .slice B4 m4 d4, .slice B5 m5 d5, .slice B6 m6 d6] := Box.new _ _ _
     have Z0 := hX.alloc (.cells #[.int .i64 y0, .int .i64 y1, .slice B2 m2 d2, .slice B3 m3 d3, .slice B4 m4 d4, .slice B5 m5 d5, .slice B6 m6 d6] 109)
     refine wp_region_held_drew (S := (fun w' => w'.cell? ⟨wr.heap.size, 0, none⟩ = some (.int .i64 y0) ∧ w'.cell? ⟨wr.heap.size, 1, none⟩ = some (.int .i64 y1) ∧ w'.cell? ⟨wr.heap.size, 2, none⟩ = some (.slice B2 m2 d2) ∧ w'.cell? ⟨wr.heap.size, 3, none⟩ = some (.slice B3 m3 d3) ∧ w'.cell? ⟨wr.heap.size, 4, none⟩ = some (.slice B4 m4 d4) ∧ w'.cell? ⟨wr.heap.size, 5, none⟩ = some (.slice B5 m5 d5) ∧ w'.cell? ⟨wr.heap.size, 6, none⟩ = some (.slice B6 m6 d6) ∧ w'.cell? ⟨w.heap.size, 1, none⟩ = some (.int .i64 x1))) (by kernel_rfl) (by exact ⟨Y0.cell 0, Y0.cell 1, Y0.cell 2, Y0.cell 3, Y0.cell 4, Y0.cell 5, Y0.cell 6, Z0.cell 1⟩) (fun hHeld => ?_)
     refine tkx 0 (some 13) ?_
     refine rdx [1] ?_
     refine rcx (fun K hK => ?_) ?_
     ·go_simp
      go_at_call 102
      refine (i_NodeOk (tNode.reach (tNode.reach hRk hB) ?hBn) hza).mono ?_
      case hBn => exact (belx)
      rintro e w1 ⟨rfl, hb1⟩
      rw [HND.out]
      have Y1 := Box.below (Box.drew Y0) hb1 (Box.drew Y0).size
      have Z1 := Box.below (Box.drew Z0) hb1 (Box.drew Z0).size
      have hB1 : Bel w w1 := bel_trans hB (bel_trans (belx) hb1)
      go_wp2_with fail
      refine hK.out _ _ ⟨Y1.cell 0, Y1.cell 1, Y1.cell 2, Y1.cell 3, Y1.cell 4, Y1.cell 5, Y1.cell 6, Z1.cell 1⟩ (fun hHeld => ?_)
      clear hK K
      (try simp only [Act.put, qa_, qb_, qc_])
      refine tkx 2 (some 15) ?_
      refine tkx 3 (some 16) ?_
      refine tkx 4 (some 17) ?_
      refine tkx 5 (some 18) ?_
      refine tkx 6 (some 19) ?_
      refine tkx 7 (some 20) ?_
      refine tkx 8 (some 21) ?_
      refine tkx 9 (some 22) ?_
      refine tkn 10 (some 23) ?_
      refine tkn 11 (some 24) ?_
      refine tkn 12 (some 25) ?_
      refine tkn 13 (some 26) ?_
      refine tkn 14 (some 27) ?_
      refine tkn 15 (some 28) ?_
      refine tkn 16 (some 29) ?_
      refine tkx 17 (some 30) ?_
      refine rex ?_ _
      go_wp2
      go_ret
      exact ⟨rfl, hB1⟩
     exact AllReadyH.nil
   subst g2
   have hj8 : j < 8 := by have := g1.1; have := HY0.out; omega
   clear g1
   obtain ⟨z, hz⟩ : ∃ z, nsec x1 j = z := ⟨_, rfl⟩
   have HZS := Lib.hid hz
   by_cases g3 : y1 = z
   rotate_left
   ·obtain rfl := HF.out (fun h => g3 (by rw [← HY1.out, ← hz]; exact (h.2 j a HA.out).2.2))
    have q3 : (y1 != z) = true := by simp [g3]
    clear HT HF g3 hz
    as_aux_lemma =>
     go_wp2_with fail
     have Y0 : Box (wr.alloc (.cells #[.int .i64 (j : Int), .int .i64 y1, .slice B2 m2 d2, .slice B3 m3 d3, .slice B4 m4 d4, .slice B5 m5 d5, .slice B6 m6 d6] 109)) wr.heap.size 109 #[.int .i64 (j : Int), .int .i64 y1, .slice B2 m2 d2, .slice B3 m3 d3, .slice B4 m4 d4, .slice B5 m5 d5, .slice B6 m6 d6] := Box.new _ _ _
     have Z0 := hX.alloc (.cells #[.int .i64 (j : Int), .int .i64 y1, .slice B2 m2 d2, .slice B3 m3 d3, .slice B4 m4 d4, .slice B5 m5 d5, .slice B6 m6 d6] 109)
     refine wp_region_held_drew (S := (fun w' => w'.cell? ⟨wr.heap.size, 0, none⟩ = some (.int .i64 (j : Int)) ∧ w'.cell? ⟨wr.heap.size, 1, none⟩ = some (.int .i64 y1) ∧ w'.cell? ⟨wr.heap.size, 2, none⟩ = some (.slice B2 m2 d2) ∧ w'.cell? ⟨wr.heap.size, 3, none⟩ = some (.slice B3 m3 d3) ∧ w'.cell? ⟨wr.heap.size, 4, none⟩ = some (.slice B4 m4 d4) ∧ w'.cell? ⟨wr.heap.size, 5, none⟩ = some (.slice B5 m5 d5) ∧ w'.cell? ⟨wr.heap.size, 6, none⟩ = some (.slice B6 m6 d6) ∧ w'.cell? ⟨w.heap.size, 1, none⟩ = some (.int .i64 x1))) (by kernel_rfl) (by exact ⟨Y0.cell 0, Y0.cell 1, Y0.cell 2, Y0.cell 3, Y0.cell 4, Y0.cell 5, Y0.cell 6, Z0.cell 1⟩) (fun hHeld => ?_)
     refine tkx 0 (some 13) ?_
     refine rdx [1] ?_
     refine rcx (fun K hK => ?_) ?_
     ·go_simp
      go_at_call 102
      refine (i_NodeOk (tNode.reach (tNode.reach hRk hB) ?hBn) hza).mono ?_
      case hBn => exact (belx)
      rintro e w1 ⟨rfl, hb1⟩
      rw [HND.out]
      have Y1 := Box.below (Box.drew Y0) hb1 (Box.drew Y0).size
      have Z1 := Box.below (Box.drew Z0) hb1 (Box.drew Z0).size
      have hB1 : Bel w w1 := bel_trans hB (bel_trans (belx) hb1)
      go_wp2_with fail
      refine hK.out _ _ ⟨Y1.cell 0, Y1.cell 1, Y1.cell 2, Y1.cell 3, Y1.cell 4, Y1.cell 5, Y1.cell 6, Z1.cell 1⟩ (fun hHeld => ?_)
      clear hK K
      (try simp only [Act.put, qa_, qb_, qc_])
      refine tkx 2 (some 15) ?_
      refine tkx 3 (some 16) ?_
      refine tkx 4 (some 17) ?_
      refine tkx 5 (some 18) ?_
      refine tkx 6 (some 19) ?_
      refine tkx 7 (some 20) ?_
      refine tkx 8 (some 21) ?_
      refine tkx 9 (some 22) ?_
      refine tkx 10 (some 23) ?_
      refine tkx 11 (some 24) ?_
      refine tkx 12 (some 25) ?_
      refine tkx 13 (some 26) ?_
      refine tkx 14 (some 27) ?_
      refine rdx [15] ?_
      refine rcx (fun K hK => ?_) ?_
      ·go_simp
       go_at_call 103
       refine (i_nodeSecret _ _ _ (by omega) (by omega) (by omega) (by omega)).mono ?_
       rintro e wq ⟨rfl, rfl⟩
       rw [HZS.out]
       go_wp2_with fail
       refine hK.out _ _ ⟨Y1.cell 0, Y1.cell 1, Y1.cell 2, Y1.cell 3, Y1.cell 4, Y1.cell 5, Y1.cell 6, Z1.cell 1⟩ (fun hHeld => ?_)
       clear hK K
       (try simp only [Act.put, qa_, qb_, qc_])
       refine tkx 16 (some 29) ?_
       refine tkx 17 (some 30) ?_
       refine rex ?_ _
       go_wp2
       go_ret
       exact ⟨rfl, hB1⟩
      exact AllReadyH.nil
     exact AllReadyH.nil
   subst g3
   have HAT := Lib.hid (show NdAt x1 j a from ⟨HG1.out, HY0.out, by rw [HY1.out, hz]⟩)
   clear hz
   go_wp2_with fail
   have Y0 : Box (wr.alloc (.cells #[.int .i64 (j : Int), .int .i64 y1, .slice B2 m2 d2, .slice B3 m3 d3, .slice B4 m4 d4, .slice B5 m5 d5, .slice B6 m6 d6] 109)) wr.heap.size 109 #[.int .i64 (j : Int), .int .i64 y1, .slice B2 m2 d2, .slice B3 m3 d3, .slice B4 m4 d4, .slice B5 m5 d5, .slice B6 m6 d6] := Box.new _ _ _
   have Z0 := hX.alloc (.cells #[.int .i64 (j : Int), .int .i64 y1, .slice B2 m2 d2, .slice B3 m3 d3, .slice B4 m4 d4, .slice B5 m5 d5, .slice B6 m6 d6] 109)
   refine wp_region_held_drew (S := (fun w' => w'.cell? ⟨wr.heap.size, 0, none⟩ = some (.int .i64 (j : Int)) ∧ w'.cell? ⟨wr.heap.size, 1, none⟩ = some (.int .i64 y1) ∧ w'.cell? ⟨wr.heap.size, 2, none⟩ = some (.slice B2 m2 d2) ∧ w'.cell? ⟨wr.heap.size, 3, none⟩ = some (.slice B3 m3 d3) ∧ w'.cell? ⟨wr.heap.size, 4, none⟩ = some (.slice B4 m4 d4) ∧ w'.cell? ⟨wr.heap.size, 5, none⟩ = some (.slice B5 m5 d5) ∧ w'.cell? ⟨wr.heap.size, 6, none⟩ = some (.slice B6 m6 d6) ∧ w'.cell? ⟨w.heap.size, 1, none⟩ = some (.int .i64 x1))) (by kernel_rfl) (by exact ⟨Y0.cell 0, Y0.cell 1, Y0.cell 2, Y0.cell 3, Y0.cell 4, Y0.cell 5, Y0.cell 6, Z0.cell 1⟩) (fun hHeld => ?_)
   refine tkx 0 (some 13) ?_
   refine rdx [1] ?_
   refine rcx (fun K hK => ?_) ?_
   ·go_simp
    go_at_call 102
    refine (i_NodeOk (tNode.reach (tNode.reach hRk hB) ?hBn) hza).mono ?_
    case hBn => exact (belx)
    rintro e w1 ⟨rfl, hb1⟩
    rw [HND.out]
    have Y1 := Box.below (Box.drew Y0) hb1 (Box.drew Y0).size
    have Z1 := Box.below (Box.drew Z0) hb1 (Box.drew Z0).size
    have hB1 : Bel w w1 := bel_trans hB (bel_trans (belx) hb1)
    go_wp2_with fail
    refine hK.out _ _ ⟨Y1.cell 0, Y1.cell 1, Y1.cell 2, Y1.cell 3, Y1.cell 4, Y1.cell 5, Y1.cell 6, Z1.cell 1⟩ (fun hHeld => ?_)
    clear hK K
    (try simp only [Act.put, qa_, qb_, qc_])
    refine tkx 2 (some 15) ?_
    refine tkx 3 (some 16) ?_
    refine tkx 4 (some 17) ?_
    refine tkx 5 (some 18) ?_
    refine tkx 6 (some 19) ?_
    refine tkx 7 (some 20) ?_
    refine tkx 8 (some 21) ?_
    refine tkx 9 (some 22) ?_
    refine tkx 10 (some 23) ?_
    refine tkx 11 (some 24) ?_
    refine tkx 12 (some 25) ?_
    refine tkx 13 (some 26) ?_
    refine tkx 14 (some 27) ?_
    refine rdx [15] ?_
    refine rcx (fun K hK => ?_) ?_
    ·go_simp
     go_at_call 103
     refine (i_nodeSecret _ _ _ (by omega) (by omega) (by omega) (by omega)).mono ?_
     rintro e wq ⟨rfl, rfl⟩
     rw [HZS.out]
     go_wp2_with fail
     refine hK.out _ _ ⟨Y1.cell 0, Y1.cell 1, Y1.cell 2, Y1.cell 3, Y1.cell 4, Y1.cell 5, Y1.cell 6, Z1.cell 1⟩ (fun hHeld => ?_)
     clear hK K
     (try simp only [Act.put, qa_, qb_, qc_])
     refine tkx 16 (some 29) ?_
     refine tkx 17 (some 30) ?_
     refine rex ?_ _
     go_wp2
     go_roundw
     case rel => exact ⟨j + 1, by omega, by go_num, hB1, Z1, Ix.succ HG.out HA.out HAT.out⟩
     case measure => simp [RowKit.intOf]; omega
    exact AllReadyH.nil
   exact AllReadyH.nil
  ·obtain rfl : n3 = j := by omega
   by_cases g : n3 = 8
   ·obtain rfl := HT.out ⟨by rw [E3.out]; exact g, Ix.all HG.out (by rw [E3.out]; exact Nat.le_refl _)⟩
    have q : ((n3 : Int) == 8) = true := by first | (simp [g]; done) | (simp [g]; omega)
    clear g HT HF
    go_wp2
    go_ret
    exact ⟨by first | rfl | exact ret_bool q, hB⟩
   ·obtain rfl := HF.out (fun h => g (by rw [← E3.out]; exact h.1))
    have q : ((n3 : Int) == 8) = false := by simp; omega
    clear g HT HF
    go_wp2
    go_ret
    exact ⟨by first | rfl | exact ret_bool q, hB⟩

theorem i_MlOk {w : World} {cs : List Value} {p : DMail} (h : tMail.R w w.heap.size cs p) :
  Calls Tryz.prog 29 #[.agg cs.toArray] w fun e w' => e = .returned (.bool (decide (MlOk p))) ∧ Bel w w' := by
 obtain ⟨A1, n1, c1, rfl, -, -, -, hl1, -⟩ := openMail h
 obtain ⟨y, hy⟩ : ∃ y, p.1 = y := ⟨_, rfl⟩
 have HY := Lib.hid hy
 have HL := Lib.hid hl1
 rw [hy]
 clear hl1 hy h
 by_cases g1 : 0 ≤ y ∧ y < 8
 rotate_left
 ·have HR := Lib.hid (show decide (MlOk p) = false from decide_eq_false fun h => g1 (by rw [← HY.out]; exact h.1))
  rw [HR.out]
  go_enter Tryz.func29, Tryz.ntmps29
  go_wp2_with fail
  refine (ih_isNode_f _ _ g1).mono ?_
  rintro e w' ⟨rfl, rfl⟩
  clear g1
  go_wp2
  go_ret
  exact ⟨rfl, (belx)⟩
 obtain ⟨g1, g2⟩ := g1
 by_cases g3 : n1 = 80
 ·have HR := Lib.hid (show decide (MlOk p) = true from decide_eq_true ⟨by rw [HY.out]; exact ⟨g1, g2⟩, by rw [HL.out]; exact g3⟩)
  rw [HR.out]
  subst g3
  go_enter Tryz.func29, Tryz.ntmps29
  go_wp2_with fail
  refine (ih_isNode_t _ _ g1 g2).mono ?_
  rintro e w' ⟨rfl, rfl⟩
  go_wp2_with fail
  refine (ih_CellOk_t _ _ _).mono ?_
  rintro e w1 ⟨rfl, hb1⟩
  go_wp2
  go_ret
  exact ⟨rfl, bel_trans (belx) hb1⟩
 ·have HR := Lib.hid (show decide (MlOk p) = false from decide_eq_false fun h => g3 (by rw [← HL.out]; exact h.2))
  rw [HR.out]
  have HG := Lib.hid g3
  clear g3
  go_enter Tryz.func29, Tryz.ntmps29
  go_wp2_with fail
  refine (ih_isNode_t _ _ g1 g2).mono ?_
  rintro e w' ⟨rfl, rfl⟩
  go_wp2_with fail
  refine (ih_CellOk_f _ _ _ _ HG.out).mono ?_
  rintro e w1 ⟨rfl, hb1⟩
  go_wp2
  go_ret
  exact ⟨rfl, bel_trans (belx) hb1⟩
theorem i_SnOk {w : World} {cs : List Value} {p : DSent} (h : tSent.R w w.heap.size cs p) :
  Calls Tryz.prog 64 #[.agg cs.toArray] w fun e w' => e = .returned (.bool (decide (SnOk p))) ∧ Bel w w' := by
 obtain ⟨A2, n2, c2, rfl, -, -, -, -, hl2, -⟩ := openSent h
 obtain ⟨y, hy⟩ : ∃ y, p.1 = y := ⟨_, rfl⟩
 obtain ⟨z, hz⟩ : ∃ z, p.2.1 = z := ⟨_, rfl⟩
 have HY := Lib.hid hy
 have HZ := Lib.hid hz
 have HL := Lib.hid hl2
 rw [hy, hz]
 clear hl2 hy hz h
 by_cases g1 : 0 ≤ y ∧ y ≤ 255
 rotate_left
 ·have HR := Lib.hid (show decide (SnOk p) = false from decide_eq_false fun h => g1 (by rw [← HY.out]; exact h.1))
  rw [HR.out]
  go_enter Tryz.func64, Tryz.ntmps64
  go_wp2_with fail
  refine (i_isId_f _ _ g1).mono ?_
  rintro e w' ⟨rfl, rfl⟩
  clear g1
  go_wp2
  go_ret
  exact ⟨rfl, (belx)⟩
 by_cases g2 : 0 ≤ z ∧ z < 8
 rotate_left
 ·have HR := Lib.hid (show decide (SnOk p) = false from decide_eq_false fun h => g2 (by rw [← HZ.out]; exact h.2.1))
  rw [HR.out]
  obtain ⟨g1, g3⟩ := g1
  go_enter Tryz.func64, Tryz.ntmps64
  go_wp2_with fail
  refine (i_isId_t _ _ g1 g3).mono ?_
  rintro e w' ⟨rfl, rfl⟩
  go_wp2_with fail
  refine (ih_isNode_f _ _ g2).mono ?_
  rintro e w' ⟨rfl, rfl⟩
  clear g2
  go_wp2
  go_ret
  exact ⟨rfl, (belx)⟩
 by_cases g4 : n2 ≤ 160
 ·have HR := Lib.hid (show decide (SnOk p) = true from decide_eq_true ⟨by rw [HY.out]; exact g1, by rw [HZ.out]; exact g2, by rw [HL.out]; exact g4⟩)
  rw [HR.out]
  have q : (n2 : Int) ≤ 160 := by omega
  go_enter Tryz.func64, Tryz.ntmps64
  go_wp2_with fail
  refine (i_isId_t _ _ g1.1 g1.2).mono ?_
  rintro e w' ⟨rfl, rfl⟩
  go_wp2_with fail
  refine (ih_isNode_t _ _ g2.1 g2.2).mono ?_
  rintro e w' ⟨rfl, rfl⟩
  go_wp2
  go_ret
  exact ⟨by first | rfl | exact ret_bool (decide_eq_true q) | (exact ret_bool (by simp; omega)), (belx)⟩
 ·have HR := Lib.hid (show decide (SnOk p) = false from decide_eq_false fun h => g4 (by rw [← HL.out]; exact h.2.2))
  rw [HR.out]
  have q : ¬ (n2 : Int) ≤ 160 := by omega
  go_enter Tryz.func64, Tryz.ntmps64
  go_wp2_with fail
  refine (i_isId_t _ _ g1.1 g1.2).mono ?_
  rintro e w' ⟨rfl, rfl⟩
  go_wp2_with fail
  refine (ih_isNode_t _ _ g2.1 g2.2).mono ?_
  rintro e w' ⟨rfl, rfl⟩
  go_wp2
  go_ret
  exact ⟨by first | rfl | exact ret_bool (decide_eq_false q) | (exact ret_bool (by simp; omega)), (belx)⟩
theorem i_couldSee {w : World} {cs : List Value} {p : DGlance} {x0 x1 x2 : Int} {A3 A4 A5 A6 : Option Addr} {n3 c3 n4 c4 n5 c5 n6 c6 : Nat} (h : tGlance.R w w.heap.size cs p) :
  Calls Tryz.prog 62 #[.agg #[.int .i64 x0, .int .i64 x1, .int .i64 x2, .slice A3 n3 c3, .slice A4 n4 c4, .slice A5 n5 c5, .slice A6 n6 c6], .agg cs.toArray] w fun e w' => e = .returned (.bool (decide (GlOk x0 p))) ∧ Bel w w' := by
 obtain ⟨rfl, -, -⟩ := openGlance h
 obtain ⟨y, hy⟩ : ∃ y, p.1 = y := ⟨_, rfl⟩
 obtain ⟨z, hz⟩ : ∃ z, p.2 = z := ⟨_, rfl⟩
 have HY := Lib.hid hy
 have HZ := Lib.hid hz
 rw [hy, hz]
 clear hy hz h
 by_cases g1 : 0 ≤ y ∧ y ≤ x0
 rotate_left
 ·have HR := Lib.hid (show decide (GlOk x0 p) = false from decide_eq_false fun h => g1 (by rw [← HY.out]; exact h.1))
  rw [HR.out]
  go_enter Tryz.func62, Tryz.ntmps62
  go_wp2_with fail
  refine (i_within_f _ _ _ g1).mono ?_
  rintro e w' ⟨rfl, rfl⟩
  clear g1
  go_wp2
  go_ret
  exact ⟨rfl, (belx)⟩
 by_cases g2 : 0 ≤ z ∧ z < 8
 ·have HR := Lib.hid (show decide (GlOk x0 p) = true from decide_eq_true ⟨by rw [HY.out]; exact g1, by rw [HZ.out]; exact g2⟩)
  rw [HR.out]
  go_enter Tryz.func62, Tryz.ntmps62
  go_wp2_with fail
  refine (i_within_t _ _ _ g1.1 g1.2).mono ?_
  rintro e w' ⟨rfl, rfl⟩
  go_wp2_with fail
  refine (ih_isNode_t _ _ g2.1 g2.2).mono ?_
  rintro e w' ⟨rfl, rfl⟩
  go_wp2
  go_ret
  exact ⟨rfl, (belx)⟩
 ·have HR := Lib.hid (show decide (GlOk x0 p) = false from decide_eq_false fun h => g2 (by rw [← HZ.out]; exact h.2))
  rw [HR.out]
  go_enter Tryz.func62, Tryz.ntmps62
  go_wp2_with fail
  refine (i_within_t _ _ _ g1.1 g1.2).mono ?_
  rintro e w' ⟨rfl, rfl⟩
  go_wp2_with fail
  refine (ih_isNode_f _ _ g2).mono ?_
  rintro e w' ⟨rfl, rfl⟩
  clear g2
  go_wp2
  go_ret
  exact ⟨rfl, (belx)⟩
theorem i_SnId {w : World} {cs : List Value} {p : DSent} (h : tSent.R w w.heap.size cs p) :
  Calls Tryz.prog 106 #[.agg cs.toArray] w fun e w' => e = .returned (.int .i64 p.1) ∧ Bel w w' := by
 obtain ⟨A2, n2, c2, rfl, -, -, -, -, -, -⟩ := openSent h
 go_enter Tryz.func106, Tryz.ntmps106
 go_wp2
 go_ret
 exact ⟨rfl, (belx)⟩
theorem sns_wf {w : World} {B n c : Nat} {A : Option Addr} {l : List DSent} (h : tSent.row.R w B [.slice A n c] l) : ∀ a ∈ l, (Lit.int .i64 a.1).wf = true := fun a ha => by
 obtain ⟨i, hi, rfl⟩ := List.getElem_of_mem ha
 have hln := (rowR_len h).1
 obtain ⟨a2, b, off, es, h1, -, -, -, hR⟩ := rowR_at (K := 3) h (show i < n by omega) rfl
 rw [List.getElem?_eq_getElem hi] at h1
 injection h1 with h1
 subst h1
 obtain ⟨A2, n2, c2, -, hw, -⟩ := openSent hR
 exact hw
theorem i_sentIds {w : World} {x0 x1 x2 : Int} {A3 A4 A5 A6 : Option Addr} {n3 c3 n4 c4 n5 c5 n6 c6 : Nat} {snt : List DSent} (hS : tSent.row.R w w.heap.size [.slice A5 n5 c5] snt) (hn : n5 ≤ 1048576) :
  Calls Tryz.prog 65 #[.agg #[.int .i64 x0, .int .i64 x1, .int .i64 x2, .slice A3 n3 c3, .slice A4 n4 c4, .slice A5 n5 c5, .slice A6 n6 c6]] w fun e w' => ∃ v, e = .returned v ∧ Own .i64 3 w' w.heap.size v (snt.map fun s => s.1) ∧ Bel w w' := by
 go_enter Tryz.func65, Tryz.ntmps65
 go_wp2_with fail
 refine (i_eachSentI 106 (fun s => s.1) (fun _ _ => rfl) (fun i a w' cs ha hB hR => i_SnId hR) (sns_wf hS) (tSent.row.reach hS ?hB) hn).mono ?_
 case hB => exact (belx)
 rintro e w1 ⟨v, rfl, hO, hB1⟩
 go_wp2
 go_ret
 exact ⟨v, rfl, hO.base (by simp), bel_trans (belx) hB1⟩

set_option maxHeartbeats 4000000 in
theorem i_NetOkN {w : World} {x0 x1 x2 : Int} {A3 A4 A5 A6 : Option Addr} {n3 c3 n4 c4 n5 c5 n6 c6 : Nat} {nds : List DNode} {bag : List DMail} {snt : List DSent} {sen : List DGlance} (b : Bool) (T : NtOk (x0, x1, x2, nds, bag, snt, sen) → b = true) (F : ¬ NtOk (x0, x1, x2, nds, bag, snt, sen) → b = false)
  (hN : tNode.row.R w w.heap.size [.slice A3 n3 c3] nds) (hM : tMail.row.R w w.heap.size [.slice A4 n4 c4] bag) (hS : tSent.row.R w w.heap.size [.slice A5 n5 c5] snt) (hG : tGlance.row.R w w.heap.size [.slice A6 n6 c6] sen) (hz : rsz szNode nds ≤ 1048576) :
  Calls Tryz.prog 28 #[.agg #[.int .i64 x0, .int .i64 x1, .int .i64 x2, .slice A3 n3 c3, .slice A4 n4 c4, .slice A5 n5 c5, .slice A6 n6 c6]] w fun e w' => e = .returned (.bool b) ∧ Bel w w' := by
 have E4 := Lib.hid (rowR_len hM).1
 have E5 := Lib.hid (rowR_len hS).1
 have E6 := Lib.hid (rowR_len hG).1
 have HT := Lib.hid T
 have HF := Lib.hid F
 clear T F
 by_cases h0 : 0 ≤ x0 ∧ x0 ≤ 50000
 rotate_left
 ·obtain rfl := HF.out (fun h => h0 h.1.1)
  clear HT HF
  go_enter Tryz.func28, Tryz.ntmps28
  go_wp2_with fail
  refine (i_within_f _ _ _ h0).mono ?_
  rintro e w' ⟨rfl, rfl⟩
  go_wp2
  go_ret
  exact ⟨rfl, (belx)⟩
 by_cases h1 : 0 ≤ x1 ∧ x1 ≤ 1000
 rotate_left
 ·obtain rfl := HF.out (fun h => h1 h.1.2.1)
  clear HT HF
  go_enter Tryz.func28, Tryz.ntmps28
  go_wp2_with fail
  refine (i_within_t _ _ _ h0.1 h0.2).mono ?_
  rintro e w' ⟨rfl, rfl⟩
  go_wp2_with fail
  refine (i_within_f _ _ _ h1).mono ?_
  rintro e w' ⟨rfl, rfl⟩
  go_wp2
  go_ret
  exact ⟨rfl, (belx)⟩
 by_cases h2 : 0 ≤ x2 ∧ x2 ≤ 20000
 rotate_left
 ·obtain rfl := HF.out (fun h => h2 h.1.2.2)
  clear HT HF
  go_enter Tryz.func28, Tryz.ntmps28
  go_wp2_with fail
  refine (i_within_t _ _ _ h0.1 h0.2).mono ?_
  rintro e w' ⟨rfl, rfl⟩
  go_wp2_with fail
  refine (i_within_t _ _ _ h1.1 h1.2).mono ?_
  rintro e w' ⟨rfl, rfl⟩
  go_wp2_with fail
  refine (i_within_f _ _ _ h2).mono ?_
  rintro e w' ⟨rfl, rfl⟩
  go_wp2
  go_ret
  exact ⟨rfl, (belx)⟩
 by_cases l4 : n4 ≤ 60
 rotate_left
 ·obtain rfl := HF.out (fun h => l4 (by have := h.2.1.1; have := E4.out; dsimp only at *; omega))
  have q4 : ¬ (n4 : Int) ≤ 60 := by omega
  clear HT HF
  go_enter Tryz.func28, Tryz.ntmps28
  go_wp2_with fail
  refine (i_within_t _ _ _ h0.1 h0.2).mono ?_
  rintro e w' ⟨rfl, rfl⟩
  go_wp2_with fail
  refine (i_within_t _ _ _ h1.1 h1.2).mono ?_
  rintro e w' ⟨rfl, rfl⟩
  go_wp2_with fail
  refine (i_within_t _ _ _ h2.1 h2.2).mono ?_
  rintro e w' ⟨rfl, rfl⟩
  go_wp2
  go_ret
  exact ⟨rfl, (belx)⟩
 have q4 : (n4 : Int) ≤ 60 := by omega
 by_cases l5 : n5 ≤ 20
 rotate_left
 ·obtain rfl := HF.out (fun h => l5 (by have := h.2.1.2.1; have := E5.out; dsimp only at *; omega))
  have q5 : ¬ (n5 : Int) ≤ 20 := by omega
  clear HT HF
  go_enter Tryz.func28, Tryz.ntmps28
  go_wp2_with fail
  refine (i_within_t _ _ _ h0.1 h0.2).mono ?_
  rintro e w' ⟨rfl, rfl⟩
  go_wp2_with fail
  refine (i_within_t _ _ _ h1.1 h1.2).mono ?_
  rintro e w' ⟨rfl, rfl⟩
  go_wp2_with fail
  refine (i_within_t _ _ _ h2.1 h2.2).mono ?_
  rintro e w' ⟨rfl, rfl⟩
  go_wp2
  go_ret
  exact ⟨rfl, (belx)⟩
 have q5 : (n5 : Int) ≤ 20 := by omega
 by_cases l6 : n6 ≤ 500
 rotate_left
 ·obtain rfl := HF.out (fun h => l6 (by have := h.2.1.2.2; have := E6.out; dsimp only at *; omega))
  have q6 : ¬ (n6 : Int) ≤ 500 := by omega
  clear HT HF
  go_enter Tryz.func28, Tryz.ntmps28
  go_wp2_with fail
  refine (i_within_t _ _ _ h0.1 h0.2).mono ?_
  rintro e w' ⟨rfl, rfl⟩
  go_wp2_with fail
  refine (i_within_t _ _ _ h1.1 h1.2).mono ?_
  rintro e w' ⟨rfl, rfl⟩
  go_wp2_with fail
  refine (i_within_t _ _ _ h2.1 h2.2).mono ?_
  rintro e w' ⟨rfl, rfl⟩
  go_wp2
  go_ret
  exact ⟨rfl, (belx)⟩
 have q6 : (n6 : Int) ≤ 500 := by omega
 by_cases g1 : NdsOk x1 nds
 rotate_left
 ·obtain rfl := HF.out (fun h => g1 h.2.2.1)
  have HN1 := Lib.hid (decide_eq_false g1)
  clear HT HF
  go_enter Tryz.func28, Tryz.ntmps28
  go_wp2_with fail
  refine (i_within_t _ _ _ h0.1 h0.2).mono ?_
  rintro e w' ⟨rfl, rfl⟩
  go_wp2_with fail
  refine (i_within_t _ _ _ h1.1 h1.2).mono ?_
  rintro e w' ⟨rfl, rfl⟩
  go_wp2_with fail
  refine (i_within_t _ _ _ h2.1 h2.2).mono ?_
  rintro e w' ⟨rfl, rfl⟩
  go_wp2_with fail
  refine (i_hasOwn (decide (NdsOk x1 nds)) (fun h => decide_eq_true h) (fun h => decide_eq_false h) h1.1 h1.2 (tNode.row.reach hN ?hB) hz).mono ?_
  case hB => exact (belx)
  rintro e w1 ⟨rfl, hb1⟩
  rw [HN1.out]
  have X1 : Box w1 w.heap.size 35 #[.int .i64 x0, .int .i64 x1, .int .i64 x2, .slice A3 n3 c3, .slice A4 n4 c4, .slice A5 n5 c5, .slice A6 n6 c6] := (Box.new _ _ _).below hb1 (by simp)
  have k0 := X1.cell 0
  have k1 := X1.cell 1
  have k2 := X1.cell 2
  have k3 := X1.cell 3
  have k4 := X1.cell 4
  have k5 := X1.cell 5
  have k6 := X1.cell 6
  have hB1 : Bel w w1 := bel_trans (belx) hb1
  go_wp2
  go_ret
  exact ⟨rfl, hB1⟩
 have HN1 := Lib.hid (decide_eq_true g1)
 by_cases g2 : ∀ m ∈ bag, MlOk m
 rotate_left
 ·obtain rfl := HF.out (fun h => g2 h.2.2.2.1)
  have HM1 := Lib.hid (show (bag.all fun m => decide (MlOk m)) = false from alDecF g2)
  clear HT HF
  go_enter Tryz.func28, Tryz.ntmps28
  go_wp2_with fail
  refine (i_within_t _ _ _ h0.1 h0.2).mono ?_
  rintro e w' ⟨rfl, rfl⟩
  go_wp2_with fail
  refine (i_within_t _ _ _ h1.1 h1.2).mono ?_
  rintro e w' ⟨rfl, rfl⟩
  go_wp2_with fail
  refine (i_within_t _ _ _ h2.1 h2.2).mono ?_
  rintro e w' ⟨rfl, rfl⟩
  go_wp2_with fail
  refine (i_hasOwn (decide (NdsOk x1 nds)) (fun h => decide_eq_true h) (fun h => decide_eq_false h) h1.1 h1.2 (tNode.row.reach hN ?hB) hz).mono ?_
  case hB => exact (belx)
  rintro e w1 ⟨rfl, hb1⟩
  rw [HN1.out]
  have X1 : Box w1 w.heap.size 35 #[.int .i64 x0, .int .i64 x1, .int .i64 x2, .slice A3 n3 c3, .slice A4 n4 c4, .slice A5 n5 c5, .slice A6 n6 c6] := (Box.new _ _ _).below hb1 (by simp)
  have k0 := X1.cell 0
  have k1 := X1.cell 1
  have k2 := X1.cell 2
  have k3 := X1.cell 3
  have k4 := X1.cell 4
  have k5 := X1.cell 5
  have k6 := X1.cell 6
  have hB1 : Bel w w1 := bel_trans (belx) hb1
  go_wp2_with fail
  refine (i_evryMail 29 (fun m => decide (MlOk m)) (fun _ _ => rfl) (fun i a w' cs ha hB hR => i_MlOk hR) (tMail.row.reach hM hB1) (by omega)).mono ?_
  rintro e w2 ⟨rfl, hb2⟩
  rw [HM1.out]
  have X2 : Box w2 w.heap.size 35 #[.int .i64 x0, .int .i64 x1, .int .i64 x2, .slice A3 n3 c3, .slice A4 n4 c4, .slice A5 n5 c5, .slice A6 n6 c6] := X1.below hb2 X1.size
  clear k0 k1 k2 k3 k4 k5 k6
  have k0 := X2.cell 0
  have k1 := X2.cell 1
  have k2 := X2.cell 2
  have k3 := X2.cell 3
  have k4 := X2.cell 4
  have k5 := X2.cell 5
  have k6 := X2.cell 6
  have hB2 : Bel w w2 := bel_trans hB1 hb2
  go_wp2
  go_ret
  exact ⟨rfl, hB2⟩
 have HM1 := Lib.hid (show (bag.all fun m => decide (MlOk m)) = true from alDec g2)
 by_cases g3 : ∀ m ∈ sen, GlOk x0 m
 rotate_left
 ·obtain rfl := HF.out (fun h => g3 h.2.2.2.2.1)
  have HG1 := Lib.hid (show (sen.all fun m => decide (GlOk x0 m)) = false from alDecF g3)
  clear HT HF
  go_enter Tryz.func28, Tryz.ntmps28
  go_wp2_with fail
  refine (i_within_t _ _ _ h0.1 h0.2).mono ?_
  rintro e w' ⟨rfl, rfl⟩
  go_wp2_with fail
  refine (i_within_t _ _ _ h1.1 h1.2).mono ?_
  rintro e w' ⟨rfl, rfl⟩
  go_wp2_with fail
  refine (i_within_t _ _ _ h2.1 h2.2).mono ?_
  rintro e w' ⟨rfl, rfl⟩
  go_wp2_with fail
  refine (i_hasOwn (decide (NdsOk x1 nds)) (fun h => decide_eq_true h) (fun h => decide_eq_false h) h1.1 h1.2 (tNode.row.reach hN ?hB) hz).mono ?_
  case hB => exact (belx)
  rintro e w1 ⟨rfl, hb1⟩
  rw [HN1.out]
  have X1 : Box w1 w.heap.size 35 #[.int .i64 x0, .int .i64 x1, .int .i64 x2, .slice A3 n3 c3, .slice A4 n4 c4, .slice A5 n5 c5, .slice A6 n6 c6] := (Box.new _ _ _).below hb1 (by simp)
  have k0 := X1.cell 0
  have k1 := X1.cell 1
  have k2 := X1.cell 2
  have k3 := X1.cell 3
  have k4 := X1.cell 4
  have k5 := X1.cell 5
  have k6 := X1.cell 6
  have hB1 : Bel w w1 := bel_trans (belx) hb1
  go_wp2_with fail
  refine (i_evryMail 29 (fun m => decide (MlOk m)) (fun _ _ => rfl) (fun i a w' cs ha hB hR => i_MlOk hR) (tMail.row.reach hM hB1) (by omega)).mono ?_
  rintro e w2 ⟨rfl, hb2⟩
  rw [HM1.out]
  have X2 : Box w2 w.heap.size 35 #[.int .i64 x0, .int .i64 x1, .int .i64 x2, .slice A3 n3 c3, .slice A4 n4 c4, .slice A5 n5 c5, .slice A6 n6 c6] := X1.below hb2 X1.size
  clear k0 k1 k2 k3 k4 k5 k6
  have k0 := X2.cell 0
  have k1 := X2.cell 1
  have k2 := X2.cell 2
  have k3 := X2.cell 3
  have k4 := X2.cell 4
  have k5 := X2.cell 5
  have k6 := X2.cell 6
  have hB2 : Bel w w2 := bel_trans hB1 hb2
  go_wp2_with fail
  refine (i_evryGlanceB 62 (.agg #[.int .i64 x0, .int .i64 x1, .int .i64 x2, .slice A3 n3 c3, .slice A4 n4 c4, .slice A5 n5 c5, .slice A6 n6 c6]) (fun m => decide (GlOk x0 m)) (fun _ _ => rfl) (fun i a w' cs ha hB hR => i_couldSee hR) (tGlance.row.reach hG hB2) (by omega)).mono ?_
  rintro e w3 ⟨rfl, hb3⟩
  rw [HG1.out]
  have X3 : Box w3 w.heap.size 35 #[.int .i64 x0, .int .i64 x1, .int .i64 x2, .slice A3 n3 c3, .slice A4 n4 c4, .slice A5 n5 c5, .slice A6 n6 c6] := X2.below hb3 X2.size
  clear k0 k1 k2 k3 k4 k5 k6
  have k0 := X3.cell 0
  have k1 := X3.cell 1
  have k2 := X3.cell 2
  have k3 := X3.cell 3
  have k4 := X3.cell 4
  have k5 := X3.cell 5
  have k6 := X3.cell 6
  have hB3 : Bel w w3 := bel_trans hB2 hb3
  go_wp2
  go_ret
  exact ⟨rfl, hB3⟩
 have HG1 := Lib.hid (show (sen.all fun m => decide (GlOk x0 m)) = true from alDec g3)
 by_cases g4 : ∀ m ∈ snt, SnOk m
 rotate_left
 ·obtain rfl := HF.out (fun h => g4 h.2.2.2.2.2.1)
  have HS1 := Lib.hid (show (snt.all fun m => decide (SnOk m)) = false from alDecF g4)
  clear HT HF
  go_enter Tryz.func28, Tryz.ntmps28
  go_wp2_with fail
  refine (i_within_t _ _ _ h0.1 h0.2).mono ?_
  rintro e w' ⟨rfl, rfl⟩
  go_wp2_with fail
  refine (i_within_t _ _ _ h1.1 h1.2).mono ?_
  rintro e w' ⟨rfl, rfl⟩
  go_wp2_with fail
  refine (i_within_t _ _ _ h2.1 h2.2).mono ?_
  rintro e w' ⟨rfl, rfl⟩
  go_wp2_with fail
  refine (i_hasOwn (decide (NdsOk x1 nds)) (fun h => decide_eq_true h) (fun h => decide_eq_false h) h1.1 h1.2 (tNode.row.reach hN ?hB) hz).mono ?_
  case hB => exact (belx)
  rintro e w1 ⟨rfl, hb1⟩
  rw [HN1.out]
  have X1 : Box w1 w.heap.size 35 #[.int .i64 x0, .int .i64 x1, .int .i64 x2, .slice A3 n3 c3, .slice A4 n4 c4, .slice A5 n5 c5, .slice A6 n6 c6] := (Box.new _ _ _).below hb1 (by simp)
  have k0 := X1.cell 0
  have k1 := X1.cell 1
  have k2 := X1.cell 2
  have k3 := X1.cell 3
  have k4 := X1.cell 4
  have k5 := X1.cell 5
  have k6 := X1.cell 6
  have hB1 : Bel w w1 := bel_trans (belx) hb1
  go_wp2_with fail
  refine (i_evryMail 29 (fun m => decide (MlOk m)) (fun _ _ => rfl) (fun i a w' cs ha hB hR => i_MlOk hR) (tMail.row.reach hM hB1) (by omega)).mono ?_
  rintro e w2 ⟨rfl, hb2⟩
  rw [HM1.out]
  have X2 : Box w2 w.heap.size 35 #[.int .i64 x0, .int .i64 x1, .int .i64 x2, .slice A3 n3 c3, .slice A4 n4 c4, .slice A5 n5 c5, .slice A6 n6 c6] := X1.below hb2 X1.size
  clear k0 k1 k2 k3 k4 k5 k6
  have k0 := X2.cell 0
  have k1 := X2.cell 1
  have k2 := X2.cell 2
  have k3 := X2.cell 3
  have k4 := X2.cell 4
  have k5 := X2.cell 5
  have k6 := X2.cell 6
  have hB2 : Bel w w2 := bel_trans hB1 hb2
  go_wp2_with fail
  refine (i_evryGlanceB 62 (.agg #[.int .i64 x0, .int .i64 x1, .int .i64 x2, .slice A3 n3 c3, .slice A4 n4 c4, .slice A5 n5 c5, .slice A6 n6 c6]) (fun m => decide (GlOk x0 m)) (fun _ _ => rfl) (fun i a w' cs ha hB hR => i_couldSee hR) (tGlance.row.reach hG hB2) (by omega)).mono ?_
  rintro e w3 ⟨rfl, hb3⟩
  rw [HG1.out]
  have X3 : Box w3 w.heap.size 35 #[.int .i64 x0, .int .i64 x1, .int .i64 x2, .slice A3 n3 c3, .slice A4 n4 c4, .slice A5 n5 c5, .slice A6 n6 c6] := X2.below hb3 X2.size
  clear k0 k1 k2 k3 k4 k5 k6
  have k0 := X3.cell 0
  have k1 := X3.cell 1
  have k2 := X3.cell 2
  have k3 := X3.cell 3
  have k4 := X3.cell 4
  have k5 := X3.cell 5
  have k6 := X3.cell 6
  have hB3 : Bel w w3 := bel_trans hB2 hb3
  go_wp2_with fail
  refine (i_evrySent 64 (fun m => decide (SnOk m)) (fun _ _ => rfl) (fun i a w' cs ha hB hR => i_SnOk hR) (tSent.row.reach hS hB3) (by omega)).mono ?_
  rintro e w4 ⟨rfl, hb4⟩
  rw [HS1.out]
  have X4 : Box w4 w.heap.size 35 #[.int .i64 x0, .int .i64 x1, .int .i64 x2, .slice A3 n3 c3, .slice A4 n4 c4, .slice A5 n5 c5, .slice A6 n6 c6] := X3.below hb4 X3.size
  clear k0 k1 k2 k3 k4 k5 k6
  have k0 := X4.cell 0
  have k1 := X4.cell 1
  have k2 := X4.cell 2
  have k3 := X4.cell 3
  have k4 := X4.cell 4
  have k5 := X4.cell 5
  have k6 := X4.cell 6
  have hB4 : Bel w w4 := bel_trans hB3 hb4
  go_wp2
  go_ret
  exact ⟨rfl, hB4⟩
 have HS1 := Lib.hid (show (snt.all fun m => decide (SnOk m)) = true from alDec g4)
 have HD1 := Lib.hid (show decide (snt.map fun s => s.1).Nodup = b from by
  by_cases g5 : (snt.map fun s => s.1).Nodup
  ·rw [HT.out ⟨⟨h0, h1, h2⟩, ⟨by rw [E4.out]; exact l4, by rw [E5.out]; exact l5, by rw [E6.out]; exact l6⟩, g1, g2, g3, g4, g5⟩]; exact decide_eq_true g5
  ·rw [HF.out (fun h => g5 h.2.2.2.2.2.2)]; exact decide_eq_false g5)
 clear HT HF g1 g2 g3 g4
 go_enter Tryz.func28, Tryz.ntmps28
 go_wp2_with fail
 refine (i_within_t _ _ _ h0.1 h0.2).mono ?_
 rintro e w' ⟨rfl, rfl⟩
 go_wp2_with fail
 refine (i_within_t _ _ _ h1.1 h1.2).mono ?_
 rintro e w' ⟨rfl, rfl⟩
 go_wp2_with fail
 refine (i_within_t _ _ _ h2.1 h2.2).mono ?_
 rintro e w' ⟨rfl, rfl⟩
 go_wp2_with fail
 refine (i_hasOwn (decide (NdsOk x1 nds)) (fun h => decide_eq_true h) (fun h => decide_eq_false h) h1.1 h1.2 (tNode.row.reach hN ?hB) hz).mono ?_
 case hB => exact (belx)
 rintro e w1 ⟨rfl, hb1⟩
 rw [HN1.out]
 have X1 : Box w1 w.heap.size 35 #[.int .i64 x0, .int .i64 x1, .int .i64 x2, .slice A3 n3 c3, .slice A4 n4 c4, .slice A5 n5 c5, .slice A6 n6 c6] := (Box.new _ _ _).below hb1 (by simp)
 have k0 := X1.cell 0
 have k1 := X1.cell 1
 have k2 := X1.cell 2
 have k3 := X1.cell 3
 have k4 := X1.cell 4
 have k5 := X1.cell 5
 have k6 := X1.cell 6
 have hB1 : Bel w w1 := bel_trans (belx) hb1
 go_wp2_with fail
 refine (i_evryMail 29 (fun m => decide (MlOk m)) (fun _ _ => rfl) (fun i a w' cs ha hB hR => i_MlOk hR) (tMail.row.reach hM hB1) (by omega)).mono ?_
 rintro e w2 ⟨rfl, hb2⟩
 rw [HM1.out]
 have X2 : Box w2 w.heap.size 35 #[.int .i64 x0, .int .i64 x1, .int .i64 x2, .slice A3 n3 c3, .slice A4 n4 c4, .slice A5 n5 c5, .slice A6 n6 c6] := X1.below hb2 X1.size
 clear k0 k1 k2 k3 k4 k5 k6
 have k0 := X2.cell 0
 have k1 := X2.cell 1
 have k2 := X2.cell 2
 have k3 := X2.cell 3
 have k4 := X2.cell 4
 have k5 := X2.cell 5
 have k6 := X2.cell 6
 have hB2 : Bel w w2 := bel_trans hB1 hb2
 go_wp2_with fail
 refine (i_evryGlanceB 62 (.agg #[.int .i64 x0, .int .i64 x1, .int .i64 x2, .slice A3 n3 c3, .slice A4 n4 c4, .slice A5 n5 c5, .slice A6 n6 c6]) (fun m => decide (GlOk x0 m)) (fun _ _ => rfl) (fun i a w' cs ha hB hR => i_couldSee hR) (tGlance.row.reach hG hB2) (by omega)).mono ?_
 rintro e w3 ⟨rfl, hb3⟩
 rw [HG1.out]
 have X3 : Box w3 w.heap.size 35 #[.int .i64 x0, .int .i64 x1, .int .i64 x2, .slice A3 n3 c3, .slice A4 n4 c4, .slice A5 n5 c5, .slice A6 n6 c6] := X2.below hb3 X2.size
 clear k0 k1 k2 k3 k4 k5 k6
 have k0 := X3.cell 0
 have k1 := X3.cell 1
 have k2 := X3.cell 2
 have k3 := X3.cell 3
 have k4 := X3.cell 4
 have k5 := X3.cell 5
 have k6 := X3.cell 6
 have hB3 : Bel w w3 := bel_trans hB2 hb3
 go_wp2_with fail
 refine (i_evrySent 64 (fun m => decide (SnOk m)) (fun _ _ => rfl) (fun i a w' cs ha hB hR => i_SnOk hR) (tSent.row.reach hS hB3) (by omega)).mono ?_
 rintro e w4 ⟨rfl, hb4⟩
 rw [HS1.out]
 have X4 : Box w4 w.heap.size 35 #[.int .i64 x0, .int .i64 x1, .int .i64 x2, .slice A3 n3 c3, .slice A4 n4 c4, .slice A5 n5 c5, .slice A6 n6 c6] := X3.below hb4 X3.size
 clear k0 k1 k2 k3 k4 k5 k6
 have k0 := X4.cell 0
 have k1 := X4.cell 1
 have k2 := X4.cell 2
 have k3 := X4.cell 3
 have k4 := X4.cell 4
 have k5 := X4.cell 5
 have k6 := X4.cell 6
 have hB4 : Bel w w4 := bel_trans hB3 hb4
 go_wp2_with fail
 refine (i_sentIds (tSent.row.reach hS hB4) (by omega)).mono ?_
 rintro e w5 ⟨v, rfl, hO, hb5⟩
 have hlen : (snt.map fun s => s.1).length = n5 := by rw [List.length_map]; exact E5.out
 obtain ⟨A, c, rfl, hac, hI, hcm⟩ := hO.ints
 have hcc := own_cap hO
 rw [hlen] at hI
 rw [hlen]
 have hB5 : Bel w w5 := bel_trans hB4 hb5
 obtain ⟨ids, hids⟩ : ∃ L, (snt.map fun s => s.1) = L := ⟨_, rfl⟩
 rw [hids] at hI
 have hDD : decide ids.Nodup = b := by rw [← hids]; exact HD1.out
 have HDD := Lib.hid hDD
 clear hids hDD hO
 go_wp2_with fail
 refine (i_isDistinct hI (by omega) (by omega) (by omega)).mono ?_
 rintro e w6 ⟨rfl, rfl⟩
 rw [HDD.out]
 go_wp2
 go_ret
 exact ⟨rfl, hB5⟩
theorem i_NetOk {w : World} {cs : List Value} {p : DNet} (h : tNet.R w w.heap.size cs p) (hz : szNet p ≤ 1048576) :
  Calls Tryz.prog 28 #[.agg cs.toArray] w fun e w' => e = .returned (.bool (decide (NtOk p))) ∧ Bel w w' := by
 obtain ⟨A3, n3, c3, A4, n4, c4, A5, n5, c5, A6, n6, c6, rfl, -, -, -, -, -, -, hN, -, -, -, hM, -, -, -, hS, -, -, -, hG⟩ := openNet h
 unfold szNet at hz
 have z1 : rsz szNode p.2.2.2.1 ≤ 1048576 := by omega
 exact i_NetOkN _ (fun hh => decide_eq_true hh) (fun hh => decide_eq_false hh) hN hM hS hG z1
end Go.Proofs.YtkdanlnhdgcplaaGreat
