/-
  PHn2, PHn3: texts joined.
-/
import Derived.Test.YteokfenoomcogaaGreatQGo
import Derived.Test.YteokfenoomcogaaGreatQMPNetS
import Derived.Test.YteokfenoomcogaaGreatQX1
namespace Go.Proofs.YteokfenoomcogaaGreat
set_option maxRecDepth 100000
set_option linter.unusedVariables false
set_option linter.unusedSimpArgs false
open Go.ChangeShapes Go.WideShapes Go.ChangeAt Go.RowKit
open Fld
theorem gotle8 {p : DNet} (h : NtOk p) : ∀ a ∈ p.2.2.2.1, a.2.2.2.2.length ≤ 256 := fun a ha => by
  obtain ⟨i, hi, rfl⟩ := List.getElem_of_mem ha
  have hk := (h.2.2.1.2 i _ (List.getElem?_eq_getElem hi)).1
  have h1 := hk.2.2.2.2.len
  have h2 := fIds_le (p.2.2.2.1[i])
  rw [fIds_t hk] at h2
  omega
set_option maxHeartbeats 2000000 in
theorem i_hasReceived {w : World} {x0 x1 x2 : Int} {A3 A4 A5 A6 : Option Addr} {n3 c3 n4 c4 n5 c5 n6 c6 : Nat} {nds : List DNode} {cs : List Value} {p : DSent} (hN : tNode.row.R w w.heap.size [.slice A3 n3 c3] nds) (h : tSent.R w w.heap.size cs p) (h0 : 0 ≤ p.2.1) (h1 : p.2.1 < (n3 : Int)) (hm : ∀ a ∈ nds, a.2.2.2.2.length ≤ 256) :
    Calls Tryz.prog 90 #[.agg #[.int .i64 x0, .int .i64 x1, .int .i64 x2, .slice A3 n3 c3, .slice A4 n4 c4, .slice A5 n5 c5, .slice A6 n6 c6], .agg cs.toArray] w fun e w' => e = .returned (.bool (rcvd nds p)) ∧ Below w.heap.size w w' := by
  obtain ⟨px, py, pl⟩ := p
  dsimp only at h0 h1
  obtain ⟨j, rfl⟩ : ∃ j : Nat, py = j := ⟨py.toNat, by omega⟩
  have hk := h
  obtain ⟨A7, n7, c7, rfl, -, -, -, -, -, -⟩ := openSent h
  dsimp only at hk ⊢
  have hjn : j < n3 := by omega
  obtain ⟨a, b', off, es, hl2, rfl, hb, hes, hR⟩ := rowR_at (K := 7) hN hjn rfl
  have hgl : a.2.2.2.2.length ≤ 1048576 := by have := hm a (alMem hl2); omega
  have HRV := Lib.hid (rcvd_at (s := ((px, (j : Int), pl) : DSent)) hl2)
  have hL9' : (recv a).length ≤ 1048576 := by unfold recv; rw [List.length_map]; exact hgl
  obtain ⟨L, hL⟩ : ∃ L, recv a = L := ⟨_, rfl⟩
  have HRC := Lib.hid hL
  rw [hL] at HRV hL9'
  have hL9 : L.length ≤ 1048576 := hL9'
  have HAS := Lib.hid (show (L.any fun a => decide (((px, (j : Int), pl) : DSent) = a)) = hasS L (px, (j : Int), pl) from rfl)
  rw [HRV.out]
  clear hL hl2 hm hL9'
  have hRk := hR
  obtain ⟨B2, m2, d2, B3, m3, d3, B4, m4, d4, B5, m5, d5, B6, m6, d6, rfl, -⟩ := fopenNode hR
  have X0 : Box ((w.alloc (.cells #[.int .i64 x0, .int .i64 x1, .int .i64 x2, .slice (some ⟨b', off, none⟩) n3 c3, .slice A4 n4 c4, .slice A5 n5 c5, .slice A6 n6 c6] 35)).alloc (.cells #[.int .i64 px, .int .i64 (j : Int), .slice A7 n7 c7] 78)) w.heap.size 35 #[.int .i64 x0, .int .i64 x1, .int .i64 x2, .slice (some ⟨b', off, none⟩) n3 c3, .slice A4 n4 c4, .slice A5 n5 c5, .slice A6 n6 c6] := (Box.new w _ _).alloc _
  have Y0 : Box ((w.alloc (.cells #[.int .i64 x0, .int .i64 x1, .int .i64 x2, .slice (some ⟨b', off, none⟩) n3 c3, .slice A4 n4 c4, .slice A5 n5 c5, .slice A6 n6 c6] 35)).alloc (.cells #[.int .i64 px, .int .i64 (j : Int), .slice A7 n7 c7] 78)) (w.heap.size + 1) 78 #[.int .i64 px, .int .i64 (j : Int), .slice A7 n7 c7] := by simpa using Box.new (w.alloc (.cells #[.int .i64 x0, .int .i64 x1, .int .i64 x2, .slice (some ⟨b', off, none⟩) n3 c3, .slice A4 n4 c4, .slice A5 n5 c5, .slice A6 n6 c6] 35)) 78 #[.int .i64 px, .int .i64 (j : Int), .slice A7 n7 c7]
  have k3 := X0.cell 3
  have s0 := Y0.cell 0
  have s1 := Y0.cell 1
  have s2 := Y0.cell 2
  have u00 : ((w.alloc (.cells #[.int .i64 x0, .int .i64 x1, .int .i64 x2, .slice (some ⟨b', off, none⟩) n3 c3, .slice A4 n4 c4, .slice A5 n5 c5, .slice A6 n6 c6] 35)).alloc (.cells #[.int .i64 px, .int .i64 (j : Int), .slice A7 n7 c7] 78)).cell? ⟨b', off + j * 7, none⟩ = some (.int .i64 a.1) := cell_at (show Below w.heap.size w ((w.alloc (.cells #[.int .i64 x0, .int .i64 x1, .int .i64 x2, .slice (some ⟨b', off, none⟩) n3 c3, .slice A4 n4 c4, .slice A5 n5 c5, .slice A6 n6 c6] 35)).alloc (.cells #[.int .i64 px, .int .i64 (j : Int), .slice A7 n7 c7] 78)) from (belx)) hb (hes 0 (by omega))
  have u01 : ((w.alloc (.cells #[.int .i64 x0, .int .i64 x1, .int .i64 x2, .slice (some ⟨b', off, none⟩) n3 c3, .slice A4 n4 c4, .slice A5 n5 c5, .slice A6 n6 c6] 35)).alloc (.cells #[.int .i64 px, .int .i64 (j : Int), .slice A7 n7 c7] 78)).cell? ⟨b', off + j * 7 + 1, none⟩ = some (.int .i64 a.2.1) := cell_at (show Below w.heap.size w ((w.alloc (.cells #[.int .i64 x0, .int .i64 x1, .int .i64 x2, .slice (some ⟨b', off, none⟩) n3 c3, .slice A4 n4 c4, .slice A5 n5 c5, .slice A6 n6 c6] 35)).alloc (.cells #[.int .i64 px, .int .i64 (j : Int), .slice A7 n7 c7] 78)) from (belx)) hb (hes 1 (by omega))
  have u02 : ((w.alloc (.cells #[.int .i64 x0, .int .i64 x1, .int .i64 x2, .slice (some ⟨b', off, none⟩) n3 c3, .slice A4 n4 c4, .slice A5 n5 c5, .slice A6 n6 c6] 35)).alloc (.cells #[.int .i64 px, .int .i64 (j : Int), .slice A7 n7 c7] 78)).cell? ⟨b', off + j * 7 + 2, none⟩ = some (.slice B2 m2 d2) := cell_at (show Below w.heap.size w ((w.alloc (.cells #[.int .i64 x0, .int .i64 x1, .int .i64 x2, .slice (some ⟨b', off, none⟩) n3 c3, .slice A4 n4 c4, .slice A5 n5 c5, .slice A6 n6 c6] 35)).alloc (.cells #[.int .i64 px, .int .i64 (j : Int), .slice A7 n7 c7] 78)) from (belx)) hb (hes 2 (by omega))
  have u03 : ((w.alloc (.cells #[.int .i64 x0, .int .i64 x1, .int .i64 x2, .slice (some ⟨b', off, none⟩) n3 c3, .slice A4 n4 c4, .slice A5 n5 c5, .slice A6 n6 c6] 35)).alloc (.cells #[.int .i64 px, .int .i64 (j : Int), .slice A7 n7 c7] 78)).cell? ⟨b', off + j * 7 + 3, none⟩ = some (.slice B3 m3 d3) := cell_at (show Below w.heap.size w ((w.alloc (.cells #[.int .i64 x0, .int .i64 x1, .int .i64 x2, .slice (some ⟨b', off, none⟩) n3 c3, .slice A4 n4 c4, .slice A5 n5 c5, .slice A6 n6 c6] 35)).alloc (.cells #[.int .i64 px, .int .i64 (j : Int), .slice A7 n7 c7] 78)) from (belx)) hb (hes 3 (by omega))
  have u04 : ((w.alloc (.cells #[.int .i64 x0, .int .i64 x1, .int .i64 x2, .slice (some ⟨b', off, none⟩) n3 c3, .slice A4 n4 c4, .slice A5 n5 c5, .slice A6 n6 c6] 35)).alloc (.cells #[.int .i64 px, .int .i64 (j : Int), .slice A7 n7 c7] 78)).cell? ⟨b', off + j * 7 + 4, none⟩ = some (.slice B4 m4 d4) := cell_at (show Below w.heap.size w ((w.alloc (.cells #[.int .i64 x0, .int .i64 x1, .int .i64 x2, .slice (some ⟨b', off, none⟩) n3 c3, .slice A4 n4 c4, .slice A5 n5 c5, .slice A6 n6 c6] 35)).alloc (.cells #[.int .i64 px, .int .i64 (j : Int), .slice A7 n7 c7] 78)) from (belx)) hb (hes 4 (by omega))
  have u05 : ((w.alloc (.cells #[.int .i64 x0, .int .i64 x1, .int .i64 x2, .slice (some ⟨b', off, none⟩) n3 c3, .slice A4 n4 c4, .slice A5 n5 c5, .slice A6 n6 c6] 35)).alloc (.cells #[.int .i64 px, .int .i64 (j : Int), .slice A7 n7 c7] 78)).cell? ⟨b', off + j * 7 + 5, none⟩ = some (.slice B5 m5 d5) := cell_at (show Below w.heap.size w ((w.alloc (.cells #[.int .i64 x0, .int .i64 x1, .int .i64 x2, .slice (some ⟨b', off, none⟩) n3 c3, .slice A4 n4 c4, .slice A5 n5 c5, .slice A6 n6 c6] 35)).alloc (.cells #[.int .i64 px, .int .i64 (j : Int), .slice A7 n7 c7] 78)) from (belx)) hb (hes 5 (by omega))
  have u06 : ((w.alloc (.cells #[.int .i64 x0, .int .i64 x1, .int .i64 x2, .slice (some ⟨b', off, none⟩) n3 c3, .slice A4 n4 c4, .slice A5 n5 c5, .slice A6 n6 c6] 35)).alloc (.cells #[.int .i64 px, .int .i64 (j : Int), .slice A7 n7 c7] 78)).cell? ⟨b', off + j * 7 + 6, none⟩ = some (.slice B6 m6 d6) := cell_at (show Below w.heap.size w ((w.alloc (.cells #[.int .i64 x0, .int .i64 x1, .int .i64 x2, .slice (some ⟨b', off, none⟩) n3 c3, .slice A4 n4 c4, .slice A5 n5 c5, .slice A6 n6 c6] 35)).alloc (.cells #[.int .i64 px, .int .i64 (j : Int), .slice A7 n7 c7] 78)) from (belx)) hb (hes 6 (by omega))
  have i1' : (j : Int) < (n3 : Int) := by omega
  go_enter Tryz.func90, Tryz.ntmps90
  clear h1 h0 HRV
  go_wp2_with fail
  refine wp_region_held_drew (S := (fun w' => w'.cell? ⟨w.heap.size, 3, none⟩ = some (.slice (some ⟨b', off, none⟩) n3 c3) ∧ w'.cell? ⟨w.heap.size + 1, 0, none⟩ = some (.int .i64 px) ∧ w'.cell? ⟨w.heap.size + 1, 1, none⟩ = some (.int .i64 (j : Int)) ∧ w'.cell? ⟨w.heap.size + 1, 2, none⟩ = some (.slice A7 n7 c7) ∧ w'.cell? ⟨b', off + j * 7, none⟩ = some (.int .i64 a.1) ∧ w'.cell? ⟨b', off + j * 7 + 1, none⟩ = some (.int .i64 a.2.1) ∧ w'.cell? ⟨b', off + j * 7 + 2, none⟩ = some (.slice B2 m2 d2) ∧ w'.cell? ⟨b', off + j * 7 + 3, none⟩ = some (.slice B3 m3 d3) ∧ w'.cell? ⟨b', off + j * 7 + 4, none⟩ = some (.slice B4 m4 d4) ∧ w'.cell? ⟨b', off + j * 7 + 5, none⟩ = some (.slice B5 m5 d5) ∧ w'.cell? ⟨b', off + j * 7 + 6, none⟩ = some (.slice B6 m6 d6))) (by kernel_rfl) (by exact ⟨X0.cell 3, Y0.cell 0, Y0.cell 1, Y0.cell 2, u00, u01, u02, u03, u04, u05, u06⟩) (fun hHeld => ?_)
  refine wpAnyH_take (i := 0) (oi := ⟨some 5, _, _, _, _, _⟩) (v := ?v14) rfl (by kernel_rfl) (by kernel_rfl) (by kernel_rfl) (fun _ _ _ h => h) (Or.inl ⟨by rfl, ?hy14⟩) (by assumption) ?_
  case hy14 => (intro w hSw; (try dsimp only at hSw); go_simp; try (with_reducible rfl))
  (try simp only [Act.put, qa_, qb_, qc_])
  refine wpAnyH_take (i := 1) (oi := ⟨some 6, _, _, _, _, _⟩) (v := ?v15) rfl (by kernel_rfl) (by kernel_rfl) (by kernel_rfl) (fun _ _ _ h => h) (Or.inl ⟨by rfl, ?hy15⟩) (by assumption) ?_
  case hy15 => (intro w hSw; (try dsimp only at hSw); go_simp; try (with_reducible rfl))
  (try simp only [Act.put, qa_, qb_, qc_])
  refine wpAnyH_take (i := 2) (oi := ⟨some 7, _, _, _, _, _⟩) (v := ?v16) rfl (by kernel_rfl) (by kernel_rfl) (by kernel_rfl) (fun _ _ _ h => h) (Or.inl ⟨by rfl, ?hy16⟩) (by assumption) ?_
  case hy16 => (intro w hSw; (try dsimp only at hSw); go_simp; try (with_reducible rfl))
  (try simp only [Act.put, qa_, qb_, qc_])
  refine wpAnyH_take (i := 3) (oi := ⟨some 8, _, _, _, _, _⟩) (v := ?v17) rfl (by kernel_rfl) (by kernel_rfl) (by kernel_rfl) (fun _ _ _ h => h) (Or.inl ⟨by rfl, ?hy17⟩) (by assumption) ?_
  case hy17 => (intro w hSw; (try dsimp only at hSw); go_simp; try (with_reducible rfl))
  (try simp only [Act.put, qa_, qb_, qc_])
  refine wpAnyH_take (i := 4) (oi := ⟨some 9, _, _, _, _, _⟩) (v := ?v18) rfl (by kernel_rfl) (by kernel_rfl) (by kernel_rfl) (fun _ _ _ h => h) (Or.inl ⟨by rfl, ?hy18⟩) (by assumption) ?_
  case hy18 => (intro w hSw; (try dsimp only at hSw); go_simp; try (with_reducible rfl))
  (try simp only [Act.put, qa_, qb_, qc_])
  refine wpAnyH_take (i := 5) (oi := ⟨some 10, _, _, _, _, _⟩) (v := ?v19) rfl (by kernel_rfl) (by kernel_rfl) (by kernel_rfl) (fun _ _ _ h => h) (Or.inl ⟨by rfl, ?hy19⟩) (by assumption) ?_
  case hy19 => (intro w hSw; (try dsimp only at hSw); go_simp; try (with_reducible rfl))
  (try simp only [Act.put, qa_, qb_, qc_])
  refine wpAnyH_take (i := 7) (oi := ⟨some 12, _, _, _, _, _⟩) (v := ?v20) rfl (by kernel_rfl) (by kernel_rfl) (by kernel_rfl) (fun _ _ _ h => h) (Or.inl ⟨by rfl, ?hy20⟩) (by assumption) ?_
  case hy20 => (intro w hSw; (try dsimp only at hSw); go_simp; try (with_reducible rfl))
  (try simp only [Act.put, qa_, qb_, qc_])
  refine wpAnyH_ready (rs := [6, 8]) (by kernel_rfl) (by simp) ?_
  refine AllReadyH.cons rfl (fun K hK => ?_) ?_
  · go_simp
    go_at_call 85
    refine (i_received (B := w.heap.size) (tNode.keep hRk (fun b hb => (show Below w.heap.size w (((w.alloc (.cells #[.int .i64 x0, .int .i64 x1, .int .i64 x2, .slice (some ⟨b', off, none⟩) n3 c3, .slice A4 n4 c4, .slice A5 n5 c5, .slice A6 n6 c6] 35)).alloc (.cells #[.int .i64 px, .int .i64 (j : Int), .slice A7 n7 c7] 78)).drew) from (belx)).block b hb)) (show Below w.heap.size w (((w.alloc (.cells #[.int .i64 x0, .int .i64 x1, .int .i64 x2, .slice (some ⟨b', off, none⟩) n3 c3, .slice A4 n4 c4, .slice A5 n5 c5, .slice A6 n6 c6] 35)).alloc (.cells #[.int .i64 px, .int .i64 (j : Int), .slice A7 n7 c7] 78)).drew) from (belx)).size hgl).mono ?_
    rintro e w1 ⟨v, rfl, hG1, hb1⟩
    rw [HRC.out] at hG1
    have hB1 : Below w.heap.size w w1 := bel_trans (show Below w.heap.size w (((w.alloc (.cells #[.int .i64 x0, .int .i64 x1, .int .i64 x2, .slice (some ⟨b', off, none⟩) n3 c3, .slice A4 n4 c4, .slice A5 n5 c5, .slice A6 n6 c6] 35)).alloc (.cells #[.int .i64 px, .int .i64 (j : Int), .slice A7 n7 c7] 78)).drew) from (belx)) hb1
    obtain ⟨A9, c9, rfl, hR9⟩ := hG1.done hB1.size
    have X1 := Box.below (Box.drew X0) hb1 (Box.drew X0).size
    have Y1 := Box.below (Box.drew Y0) hb1 (Box.drew Y0).size
    have u10 : w1.cell? ⟨b', off + j * 7, none⟩ = some (.int .i64 a.1) := cell_at hB1 hb (hes 0 (by omega))
    have u11 : w1.cell? ⟨b', off + j * 7 + 1, none⟩ = some (.int .i64 a.2.1) := cell_at hB1 hb (hes 1 (by omega))
    have u12 : w1.cell? ⟨b', off + j * 7 + 2, none⟩ = some (.slice B2 m2 d2) := cell_at hB1 hb (hes 2 (by omega))
    have u13 : w1.cell? ⟨b', off + j * 7 + 3, none⟩ = some (.slice B3 m3 d3) := cell_at hB1 hb (hes 3 (by omega))
    have u14 : w1.cell? ⟨b', off + j * 7 + 4, none⟩ = some (.slice B4 m4 d4) := cell_at hB1 hb (hes 4 (by omega))
    have u15 : w1.cell? ⟨b', off + j * 7 + 5, none⟩ = some (.slice B5 m5 d5) := cell_at hB1 hb (hes 5 (by omega))
    have u16 : w1.cell? ⟨b', off + j * 7 + 6, none⟩ = some (.slice B6 m6 d6) := cell_at hB1 hb (hes 6 (by omega))
    go_wp2_with fail
    refine hK.out _ _ (by exact ⟨X1.cell 3, Y1.cell 0, Y1.cell 1, Y1.cell 2, u10, u11, u12, u13, u14, u15, u16⟩) (fun hHeld => ?_)
    clear hK K
    (try simp only [Act.put, qa_, qb_, qc_])
    refine wpAnyH_ready (rs := [8]) (by kernel_rfl) (by simp) ?_
    refine AllReadyH.cons rfl (fun K hK => ?_) ?_
    · go_simp
      refine hK.out _ _ (by exact ⟨X1.cell 3, Y1.cell 0, Y1.cell 1, Y1.cell 2, u10, u11, u12, u13, u14, u15, u16⟩) (fun hHeld => ?_)
      clear hK K
      (try simp only [Act.put, qa_, qb_, qc_])
      refine wpAnyH_ready (rs := [9]) (by kernel_rfl) (by simp) ?_
      refine AllReadyH.cons rfl (fun K hK => ?_) ?_
      · go_simp
        go_at_call 88
        refine (i_conSentB 130 (.agg #[.int .i64 px, .int .i64 (j : Int), .slice A7 n7 c7]) (fun a => decide (((px, (j : Int), pl) : DSent) = a)) (fun _ _ => rfl) (fun i a w' cs ha hBw hR => i_SnEq (tSent.reach (tSent.reach hk ?hB3) hBw) hR) (tSent.row.reach hR9 ?hB4) hL9).mono ?_
        case hB3 => exact bel_trans hB1 (belx)
        case hB4 => exact (belx)
        rintro e w3 ⟨rfl, hb3⟩
        rw [HAS.out]
        have hs3 : Below w1.heap.size w1 w3 := bel_trans (belx) hb3
        have X3 := X1.below hs3 X1.size
        have Y3 := Y1.below hs3 Y1.size
        have hB3 : Below w.heap.size w w3 := bel_trans hB1 hs3
        have u30 : w3.cell? ⟨b', off + j * 7, none⟩ = some (.int .i64 a.1) := cell_at hB3 hb (hes 0 (by omega))
        have u31 : w3.cell? ⟨b', off + j * 7 + 1, none⟩ = some (.int .i64 a.2.1) := cell_at hB3 hb (hes 1 (by omega))
        have u32 : w3.cell? ⟨b', off + j * 7 + 2, none⟩ = some (.slice B2 m2 d2) := cell_at hB3 hb (hes 2 (by omega))
        have u33 : w3.cell? ⟨b', off + j * 7 + 3, none⟩ = some (.slice B3 m3 d3) := cell_at hB3 hb (hes 3 (by omega))
        have u34 : w3.cell? ⟨b', off + j * 7 + 4, none⟩ = some (.slice B4 m4 d4) := cell_at hB3 hb (hes 4 (by omega))
        have u35 : w3.cell? ⟨b', off + j * 7 + 5, none⟩ = some (.slice B5 m5 d5) := cell_at hB3 hb (hes 5 (by omega))
        have u36 : w3.cell? ⟨b', off + j * 7 + 6, none⟩ = some (.slice B6 m6 d6) := cell_at hB3 hb (hes 6 (by omega))
        go_wp2_with fail
        refine hK.out _ _ (by exact ⟨X3.cell 3, Y3.cell 0, Y3.cell 1, Y3.cell 2, u30, u31, u32, u33, u34, u35, u36⟩) (fun hHeld => ?_)
        clear hK K
        (try simp only [Act.put, qa_, qb_, qc_])
        refine wpAnyH_take (i := 10) (oi := ⟨some 4, _, _, _, _, _⟩) (v := ?v21) rfl (by kernel_rfl) (by kernel_rfl) (by kernel_rfl) (fun _ _ _ h => h) (Or.inl ⟨by rfl, ?hy21⟩) (by assumption) ?_
        case hy21 => (intro w hSw; (try dsimp only at hSw); go_simp; try (with_reducible rfl))
        (try simp only [Act.put, qa_, qb_, qc_])
        refine wpAnyH_done (by kernel_rfl) ?_ _
        go_wp2
        go_ret
        exact ⟨rfl, hB3⟩
      exact AllReadyH.nil
    exact AllReadyH.nil
  refine AllReadyH.cons rfl (fun K hK => ?_) ?_
  · go_simp
    refine hK.out _ _ (by exact ⟨X0.cell 3, Y0.cell 0, Y0.cell 1, Y0.cell 2, u00, u01, u02, u03, u04, u05, u06⟩) (fun hHeld => ?_)
    clear hK K
    (try simp only [Act.put, qa_, qb_, qc_])
    refine wpAnyH_ready (rs := [6]) (by kernel_rfl) (by simp) ?_
    refine AllReadyH.cons rfl (fun K hK => ?_) ?_
    · go_simp
      go_at_call 85
      refine (i_received (B := w.heap.size) (tNode.keep hRk (fun b hb => (show Below w.heap.size w (((w.alloc (.cells #[.int .i64 x0, .int .i64 x1, .int .i64 x2, .slice (some ⟨b', off, none⟩) n3 c3, .slice A4 n4 c4, .slice A5 n5 c5, .slice A6 n6 c6] 35)).alloc (.cells #[.int .i64 px, .int .i64 (j : Int), .slice A7 n7 c7] 78)).drew) from (belx)).block b hb)) (show Below w.heap.size w (((w.alloc (.cells #[.int .i64 x0, .int .i64 x1, .int .i64 x2, .slice (some ⟨b', off, none⟩) n3 c3, .slice A4 n4 c4, .slice A5 n5 c5, .slice A6 n6 c6] 35)).alloc (.cells #[.int .i64 px, .int .i64 (j : Int), .slice A7 n7 c7] 78)).drew) from (belx)).size hgl).mono ?_
      rintro e w1 ⟨v, rfl, hG1, hb1⟩
      rw [HRC.out] at hG1
      have hB1 : Below w.heap.size w w1 := bel_trans (show Below w.heap.size w (((w.alloc (.cells #[.int .i64 x0, .int .i64 x1, .int .i64 x2, .slice (some ⟨b', off, none⟩) n3 c3, .slice A4 n4 c4, .slice A5 n5 c5, .slice A6 n6 c6] 35)).alloc (.cells #[.int .i64 px, .int .i64 (j : Int), .slice A7 n7 c7] 78)).drew) from (belx)) hb1
      obtain ⟨A9, c9, rfl, hR9⟩ := hG1.done hB1.size
      have X1 := Box.below (Box.drew X0) hb1 (Box.drew X0).size
      have Y1 := Box.below (Box.drew Y0) hb1 (Box.drew Y0).size
      have u10 : w1.cell? ⟨b', off + j * 7, none⟩ = some (.int .i64 a.1) := cell_at hB1 hb (hes 0 (by omega))
      have u11 : w1.cell? ⟨b', off + j * 7 + 1, none⟩ = some (.int .i64 a.2.1) := cell_at hB1 hb (hes 1 (by omega))
      have u12 : w1.cell? ⟨b', off + j * 7 + 2, none⟩ = some (.slice B2 m2 d2) := cell_at hB1 hb (hes 2 (by omega))
      have u13 : w1.cell? ⟨b', off + j * 7 + 3, none⟩ = some (.slice B3 m3 d3) := cell_at hB1 hb (hes 3 (by omega))
      have u14 : w1.cell? ⟨b', off + j * 7 + 4, none⟩ = some (.slice B4 m4 d4) := cell_at hB1 hb (hes 4 (by omega))
      have u15 : w1.cell? ⟨b', off + j * 7 + 5, none⟩ = some (.slice B5 m5 d5) := cell_at hB1 hb (hes 5 (by omega))
      have u16 : w1.cell? ⟨b', off + j * 7 + 6, none⟩ = some (.slice B6 m6 d6) := cell_at hB1 hb (hes 6 (by omega))
      go_wp2_with fail
      refine hK.out _ _ (by exact ⟨X1.cell 3, Y1.cell 0, Y1.cell 1, Y1.cell 2, u10, u11, u12, u13, u14, u15, u16⟩) (fun hHeld => ?_)
      clear hK K
      (try simp only [Act.put, qa_, qb_, qc_])
      refine wpAnyH_ready (rs := [9]) (by kernel_rfl) (by simp) ?_
      refine AllReadyH.cons rfl (fun K hK => ?_) ?_
      · go_simp
        go_at_call 88
        refine (i_conSentB 130 (.agg #[.int .i64 px, .int .i64 (j : Int), .slice A7 n7 c7]) (fun a => decide (((px, (j : Int), pl) : DSent) = a)) (fun _ _ => rfl) (fun i a w' cs ha hBw hR => i_SnEq (tSent.reach (tSent.reach hk ?hB3) hBw) hR) (tSent.row.reach hR9 ?hB4) hL9).mono ?_
        case hB3 => exact bel_trans hB1 (belx)
        case hB4 => exact (belx)
        rintro e w3 ⟨rfl, hb3⟩
        rw [HAS.out]
        have hs3 : Below w1.heap.size w1 w3 := bel_trans (belx) hb3
        have X3 := X1.below hs3 X1.size
        have Y3 := Y1.below hs3 Y1.size
        have hB3 : Below w.heap.size w w3 := bel_trans hB1 hs3
        have u30 : w3.cell? ⟨b', off + j * 7, none⟩ = some (.int .i64 a.1) := cell_at hB3 hb (hes 0 (by omega))
        have u31 : w3.cell? ⟨b', off + j * 7 + 1, none⟩ = some (.int .i64 a.2.1) := cell_at hB3 hb (hes 1 (by omega))
        have u32 : w3.cell? ⟨b', off + j * 7 + 2, none⟩ = some (.slice B2 m2 d2) := cell_at hB3 hb (hes 2 (by omega))
        have u33 : w3.cell? ⟨b', off + j * 7 + 3, none⟩ = some (.slice B3 m3 d3) := cell_at hB3 hb (hes 3 (by omega))
        have u34 : w3.cell? ⟨b', off + j * 7 + 4, none⟩ = some (.slice B4 m4 d4) := cell_at hB3 hb (hes 4 (by omega))
        have u35 : w3.cell? ⟨b', off + j * 7 + 5, none⟩ = some (.slice B5 m5 d5) := cell_at hB3 hb (hes 5 (by omega))
        have u36 : w3.cell? ⟨b', off + j * 7 + 6, none⟩ = some (.slice B6 m6 d6) := cell_at hB3 hb (hes 6 (by omega))
        go_wp2_with fail
        refine hK.out _ _ (by exact ⟨X3.cell 3, Y3.cell 0, Y3.cell 1, Y3.cell 2, u30, u31, u32, u33, u34, u35, u36⟩) (fun hHeld => ?_)
        clear hK K
        (try simp only [Act.put, qa_, qb_, qc_])
        refine wpAnyH_take (i := 10) (oi := ⟨some 4, _, _, _, _, _⟩) (v := ?v22) rfl (by kernel_rfl) (by kernel_rfl) (by kernel_rfl) (fun _ _ _ h => h) (Or.inl ⟨by rfl, ?hy22⟩) (by assumption) ?_
        case hy22 => (intro w hSw; (try dsimp only at hSw); go_simp; try (with_reducible rfl))
        (try simp only [Act.put, qa_, qb_, qc_])
        refine wpAnyH_done (by kernel_rfl) ?_ _
        go_wp2
        go_ret
        exact ⟨rfl, hB3⟩
      exact AllReadyH.nil
    exact AllReadyH.nil
  exact AllReadyH.nil
set_option maxHeartbeats 2000000 in
theorem i_Arr1 {w : World} {g1 g2 : Nat} {x x0 x1 x2 : Int} {A3 A4 A5 A6 : Option Addr} {n3 c3 n4 c4 n5 c5 n6 c6 : Nat} {nds : List DNode} {cs : List Value} {p : DSent} (hN : tNode.row.R w w.heap.size [.slice A3 n3 c3] nds) (h : tSent.R w w.heap.size cs p) (h0 : 0 ≤ p.2.1) (h1 : p.2.1 < (n3 : Int)) (hm : ∀ a ∈ nds, a.2.2.2.2.length ≤ 256)
    (hx : w.cell? ⟨g1, 0, none⟩ = some (.int .i64 x)) (hb : Box w g2 35 #[.int .i64 x0, .int .i64 x1, .int .i64 x2, .slice A3 n3 c3, .slice A4 n4 c4, .slice A5 n5 c5, .slice A6 n6 c6]) :
    Calls Tryz.prog 89 #[.agg cs.toArray, .pointer (some ⟨g1, 0, none⟩), .pointer (some ⟨g2, 0, none⟩)] w fun e w' => e = .returned (.bool (decide (p.1 = x) && rcvd nds p)) ∧ Below w.heap.size w w' := by
  have hk := h
  obtain ⟨A7, n7, c7, rfl, -, -, -, -, -, -⟩ := openSent h
  have hx2 : (w.alloc (.cells #[.int .i64 p.1, .int .i64 p.2.1, .slice A7 n7 c7] 78)).cell? ⟨g1, 0, none⟩ = some (.int .i64 x) := cell_bel (belx) hx
  have hb2 := hb.alloc (.cells #[.int .i64 p.1, .int .i64 p.2.1, .slice A7 n7 c7] 78)
  have k0 := hb2.cell 0; have k1 := hb2.cell 1; have k2 := hb2.cell 2; have k3 := hb2.cell 3; have k4 := hb2.cell 4; have k5 := hb2.cell 5; have k6 := hb2.cell 6
  by_cases g : p.1 = x
  rotate_left
  · have HR := Lib.hid (show (decide (p.1 = x) && rcvd nds p) = false by rw [decide_eq_false g]; rfl)
    have q : (p.1 == x) = false := by simpa using g
    rw [HR.out]
    clear g
    go_enter Tryz.func89, Tryz.ntmps89
    go_wp2
    go_ret
    exact ⟨rfl, (belx)⟩
  have HR := Lib.hid (show (decide (p.1 = x) && rcvd nds p) = rcvd nds p by rw [decide_eq_true g]; rfl)
  have q : (p.1 == x) = true := by simpa using g
  rw [HR.out]
  clear g
  go_enter Tryz.func89, Tryz.ntmps89
  go_wp2_with fail
  refine (i_hasReceived (tNode.row.reach hN ?hBa) (tSent.reach hk ?hBb) h0 h1 hm).mono ?_
  case hBa => exact (belx)
  case hBb => exact (belx)
  rintro e w1 ⟨rfl, hb1⟩
  go_wp2
  go_ret
  exact ⟨rfl, bel_trans (belx) hb1⟩
set_option maxHeartbeats 2000000 in
theorem i_Arrived {w : World} {cs : List Value} {p : DNet} {x : Int} (h : tNet.R w w.heap.size cs p) (hz : szNet p ≤ 1048576) (hx : (Lit.int .i64 x).wf = true) :
    Calls Tryz.prog 35 #[.agg cs.toArray, .int .i64 x] w fun e w' => e = .returned (.bool (fArr p x)) ∧ Below w.heap.size w w' := by
  obtain ⟨A3, n3, c3, A4, n4, c4, A5, n5, c5, A6, n6, c6, rfl, -, -, -, -, -, -, hN, -, -, -, hM, -, -, -, hS, -, -, -, hG⟩ := openNet h
  by_cases hp : NtOk p
  rotate_left
  · have HP := Lib.hid (decide_eq_false hp)
    rw [fArr_f hp]
    clear hp
    go_enter Tryz.func35, Tryz.ntmps35
    go_wp2_with fail
    refine (i_NetOk (tNet.reach h ?hB) hz).mono ?_
    case hB => exact (belx)
    rintro e w1 ⟨rfl, hb1⟩
    rw [HP.out]
    go_wp2
    go_ret
    exact ⟨rfl, bel_trans (belx) hb1⟩
  have HP := Lib.hid (decide_eq_true hp)
  have hn5 : n5 ≤ 1048576 := by have := hp.2.1.2.1; have := (rowR_len hS).1; omega
  have h8 : 8 ≤ n3 := by have := hp.2.2.1.1; have := (rowR_len hN).1; omega
  have HGL := Lib.hid (gotle8 hp)
  have HSN := Lib.hid (show ∀ (i : Nat) (a : DSent), p.2.2.2.2.2.1[i]? = some a → 0 ≤ a.2.1 ∧ a.2.1 < (n3 : Int) from fun i a ha => by have := (hp.2.2.2.2.2.1 a (List.mem_of_getElem? ha)).2.1; omega)
  have HFA := Lib.hid (fArr_t (x := x) hp)
  obtain ⟨b, hb⟩ : ∃ b, fArr p x = b := ⟨_, rfl⟩
  have HB := Lib.hid hb
  rw [hb]
  clear hp hb
  go_enter Tryz.func35, Tryz.ntmps35
  go_wp2_with fail
  refine (i_NetOk (tNet.reach h ?hB) hz).mono ?_
  case hB => exact (belx)
  rintro e w1 ⟨rfl, hb1⟩
  rw [HP.out]
  have X1 : Box w1 w.heap.size 35 #[.int .i64 p.1, .int .i64 p.2.1, .int .i64 p.2.2.1, .slice A3 n3 c3, .slice A4 n4 c4, .slice A5 n5 c5, .slice A6 n6 c6] := Box.below ((Box.new w _ _).alloc _) hb1 (by first | (simp; done) | (simp; omega))
  have Y1 : Box w1 (w.heap.size + 1) 3 #[.int .i64 x] := Box.below (by simpa using Box.new (w.alloc _) 3 #[.int .i64 x]) hb1 (by first | (simp; done) | (simp; omega))
  have k0 := X1.cell 0; have k1 := X1.cell 1; have k2 := X1.cell 2; have k3 := X1.cell 3; have k4 := X1.cell 4; have k5 := X1.cell 5; have k6 := X1.cell 6
  have y0 := Y1.cell 0
  have hB1 : Below w.heap.size w w1 := bel_trans (belx) hb1
  clear hb1
  go_wp2_with fail
  refine (i_conSentW 89 (.pointer (some ⟨w.heap.size + 1, 0, none⟩)) (.pointer (some ⟨w.heap.size, 0, none⟩)) (fun s => decide (s.1 = x) && rcvd p.2.2.2.1 s) (fun _ _ => rfl) (fun i a w' cs ha hBw hR => i_Arr1 (tNode.row.reach (tNode.row.reach hN hB1) hBw) hR (HSN.out i a ha).1 (HSN.out i a ha).2 HGL.out ((Y1.below hBw Y1.size).cell 0) (X1.below hBw X1.size)) (tSent.row.reach hS hB1) hn5).mono ?_
  rintro e w2 ⟨rfl, hb2⟩
  go_wp2
  go_ret
  exact ⟨ret_bool (by rw [← HB.out, HFA.out]), bel_trans hB1 hb2⟩
end Go.Proofs.YteokfenoomcogaaGreat
namespace Go.Proofs.YteokfenoomcogaaGreat
set_option maxRecDepth 100000
set_option linter.unusedVariables false
set_option linter.unusedSimpArgs false
open Go.ChangeShapes Go.WideShapes Go.ChangeAt Go.RowKit
open Fld

set_option maxHeartbeats 4000000 in
theorem s_Arrived {w : World} {cs : List Value} {p : DNet} {x : Int} (h : tNet.R w w.heap.size cs p) (hz : szNet p ≤ 1048576) (hx : (Lit.int .i64 x).wf = true) :
    Calls Tryz.prog 34 #[.agg cs.toArray, .int .i64 x] w fun e w' => e = .returned (.bool (fArr p x)) ∧ Below w.heap.size w w' := by
  obtain ⟨A3, n3, c3, A4, n4, c4, A5, n5, c5, A6, n6, c6, rfl, -, -, -, -, -, -, hN, -, -, -, hM, -, -, -, hS, -, -, -, hG⟩ := openNet h
  by_cases hp : NtOk p
  rotate_left
  · have HP := Lib.hid (decide_eq_false hp)
    rw [fArr_f hp]
    clear hp
    go_enter Tryz.func34, Tryz.ntmps34
    go_wp2_with fail
    refine (s_NetOk (tNet.reach h ?hB) hz).mono ?_
    case hB => exact (belx)
    rintro e w1 ⟨rfl, hb1⟩
    rw [HP.out]
    go_wp2
    go_ret
    exact ⟨rfl, bel_trans (belx) hb1⟩
  have HP := Lib.hid (decide_eq_true hp)
  have HNT := Lib.hid hp
  have h8 : 8 ≤ n3 := by have := hp.2.2.1.1; have := (rowR_len hN).1; omega
  have hn3 : n3 ≤ 8 := by have := hp.2.2.1.1; have := (rowR_len hN).1; omega
  have hn5 : n5 ≤ 20 := by have := hp.2.1.2.1; have := (rowR_len hS).1; omega
  have E5 := Lib.hid (rowR_len hS).1
  have HSZ := Lib.hid (show rsz szNode p.2.2.2.1 ≤ 1048576 by unfold szNet at hz; omega)
  rw [fArr_t hp]
  obtain ⟨b, hb⟩ : ∃ b, (p.2.2.2.2.2.1.any fun s => decide (s.1 = x) && rcvd p.2.2.2.1 s) = b := ⟨_, rfl⟩
  have HB := Lib.hid hb
  rw [hb]
  clear hp hb
  go_enter Tryz.func34, Tryz.ntmps34
  go_wp2_with fail
  refine (s_NetOk (tNet.reach h ?hB) hz).mono ?_
  case hB => exact (belx)
  rintro e w1 ⟨rfl, hb1⟩
  rw [HP.out]
  have X1 : Box w1 w.heap.size 35 #[.int .i64 p.1, .int .i64 p.2.1, .int .i64 p.2.2.1, .slice A3 n3 c3, .slice A4 n4 c4, .slice A5 n5 c5, .slice A6 n6 c6] := (Box.new _ _ _).below hb1 (by simp)
  have hB1 : Below w.heap.size w w1 := bel_trans (belx) hb1
  have k5 := X1.cell 5
  clear hb1
  go_wp2_with fail
  refine (s_l7sent x (tSent.row.reach hS hB1) (by omega)).mono ?_
  rintro e w5 ⟨rfl, rfl⟩
  rcases sAt_cases p.2.2.2.2.2.1 x with ⟨t, s, hst, hs1, hsa, -⟩ | ⟨hno, hsa⟩
  rotate_left
  · rw [hsa]
    obtain rfl : b = false := by rw [← HB.out]; exact arr_no hno
    clear hsa hno
    go_wp2
    go_ret
    exact ⟨rfl, hB1⟩
  rw [hsa]
  have ht5 : t < n5 := by rw [← E5.out]; exact (List.getElem?_eq_some_iff.1 hst).1
  have hto := (HNT.out.2.2.2.2.2.1 s (List.mem_of_getElem? hst)).2.1
  obtain ⟨j, hj⟩ : ∃ j : Nat, s.2.1 = j := ⟨s.2.1.toNat, by omega⟩
  have hjn : j < n3 := by omega
  obtain ⟨a, b', off, es, hl2, rfl, hb, hes, hR⟩ := rowR_at (K := 7) hN hjn rfl
  have hza := nds_sz HSZ.out hl2
  have HAT := Lib.hid (arr_at HNT.out hst hs1 (by rw [hj]; exact hl2))
  obtain ⟨s', b3, off3, es3, hl3, rfl, hb3, hes3, hR3⟩ := rowR_at (K := 3) hS ht5 rfl
  obtain rfl : s = s' := by rw [hst] at hl3; exact Option.some.inj hl3
  obtain ⟨A8, n8, c8, rfl, -, -, -, -, -, hr8⟩ := openSent hR3
  have hI8 := (slR_ints hr8).1
  have za1 : w1.cell? ⟨b3, off3 + t * 3 + 1, none⟩ = some (.int .i64 (j : Int)) := by rw [← hj]; exact cell_at hB1 hb3 (hes3 1 (by omega))
  have za2 : w1.cell? ⟨b3, off3 + t * 3 + 2, none⟩ = some (.slice A8 n8 c8) := cell_at hB1 hb3 (hes3 2 (by omega))
  have hRk := hR
  obtain ⟨B2, m2, d2, B3, m3, d3, B4, m4, d4, B5, m5, d5, B6, m6, d6, rfl, -⟩ := fopenNode hR
  have na0 : w1.cell? ⟨b', off + j * 7, none⟩ = some (.int .i64 a.1) := cell_at hB1 hb (hes 0 (by omega))
  have na1 : w1.cell? ⟨b', off + j * 7 + 1, none⟩ = some (.int .i64 a.2.1) := cell_at hB1 hb (hes 1 (by omega))
  have na2 : w1.cell? ⟨b', off + j * 7 + 2, none⟩ = some (.slice B2 m2 d2) := cell_at hB1 hb (hes 2 (by omega))
  have na3 : w1.cell? ⟨b', off + j * 7 + 3, none⟩ = some (.slice B3 m3 d3) := cell_at hB1 hb (hes 3 (by omega))
  have na4 : w1.cell? ⟨b', off + j * 7 + 4, none⟩ = some (.slice B4 m4 d4) := cell_at hB1 hb (hes 4 (by omega))
  have na5 : w1.cell? ⟨b', off + j * 7 + 5, none⟩ = some (.slice B5 m5 d5) := cell_at hB1 hb (hes 5 (by omega))
  have na6 : w1.cell? ⟨b', off + j * 7 + 6, none⟩ = some (.slice B6 m6 d6) := cell_at hB1 hb (hes 6 (by omega))
  obtain ⟨d, hd⟩ : ∃ d, fLetB a x = d := ⟨_, rfl⟩
  obtain ⟨L, hL⟩ : ∃ L, fLet a x = L := ⟨_, rfl⟩
  have HLD := Lib.hid hd
  have HLL := Lib.hid hL
  rw [hd, hL] at HAT
  obtain rfl : b = (d && decide (L = s.2.2)) := by rw [← HB.out, HAT.out]
  have t0 : ¬ ((t : Int) < 0) := by omega
  have t1 : decide ((t : Int) < 0) = false := decide_eq_false t0
  have i3 : (t : Int) < (n5 : Int) := by omega
  have i4 : (j : Int) < (n3 : Int) := by omega
  have k3 := X1.cell 3
  have k5b := X1.cell 5
  clear hsa hst hs1 hl3 hes3 hR3 hR hes hl2 hd hL hto hj k5
  go_wp2_with fail
  refine wp_region_held_drew (S := (fun w' => w'.cell? ⟨w.heap.size, 3, none⟩ = some (.slice (some ⟨b', off, none⟩) n3 c3) ∧ w'.cell? ⟨w.heap.size, 5, none⟩ = some (.slice (some ⟨b3, off3, none⟩) n5 c5) ∧ w'.cell? ⟨b3, off3 + t * 3 + 1, none⟩ = some (.int .i64 (j : Int)) ∧ w'.cell? ⟨b', off + j * 7, none⟩ = some (.int .i64 a.1) ∧ w'.cell? ⟨b', off + j * 7 + 1, none⟩ = some (.int .i64 a.2.1) ∧ w'.cell? ⟨b', off + j * 7 + 2, none⟩ = some (.slice B2 m2 d2) ∧ w'.cell? ⟨b', off + j * 7 + 3, none⟩ = some (.slice B3 m3 d3) ∧ w'.cell? ⟨b', off + j * 7 + 4, none⟩ = some (.slice B4 m4 d4) ∧ w'.cell? ⟨b', off + j * 7 + 5, none⟩ = some (.slice B5 m5 d5) ∧ w'.cell? ⟨b', off + j * 7 + 6, none⟩ = some (.slice B6 m6 d6))) (by kernel_rfl) (by exact ⟨X1.cell 3, X1.cell 5, za1, na0, na1, na2, na3, na4, na5, na6⟩) (fun hHeld => ?_)
  refine wpAnyH_take (i := 0) (oi := ⟨some 18, _, _, _, _, _⟩) (v := ?v111) rfl (by kernel_rfl) (by kernel_rfl) (by kernel_rfl) (fun _ _ _ h => h) (Or.inl ⟨by rfl, ?hy111⟩) (by assumption) ?_
  case hy111 => (intro w hSw; (try dsimp only at hSw); go_simp; try (with_reducible rfl))
  (try simp only [Act.put, qa_, qb_, qc_])
  refine wpAnyH_take (i := 1) (oi := ⟨some 19, _, _, _, _, _⟩) (v := ?v112) rfl (by kernel_rfl) (by kernel_rfl) (by kernel_rfl) (fun _ _ _ h => h) (Or.inl ⟨by rfl, ?hy112⟩) (by assumption) ?_
  case hy112 => (intro w hSw; (try dsimp only at hSw); go_simp; try (with_reducible rfl))
  (try simp only [Act.put, qa_, qb_, qc_])
  refine wpAnyH_take (i := 2) (oi := ⟨some 20, _, _, _, _, _⟩) (v := ?v113) rfl (by kernel_rfl) (by kernel_rfl) (by kernel_rfl) (fun _ _ _ h => h) (Or.inl ⟨by rfl, ?hy113⟩) (by assumption) ?_
  case hy113 => (intro w hSw; (try dsimp only at hSw); go_simp; try (with_reducible rfl))
  (try simp only [Act.put, qa_, qb_, qc_])
  refine wpAnyH_take (i := 3) (oi := ⟨some 21, _, _, _, _, _⟩) (v := ?v114) rfl (by kernel_rfl) (by kernel_rfl) (by kernel_rfl) (fun _ _ _ h => h) (Or.inl ⟨by rfl, ?hy114⟩) (by assumption) ?_
  case hy114 => (intro w hSw; (try dsimp only at hSw); go_simp; try (with_reducible rfl))
  (try simp only [Act.put, qa_, qb_, qc_])
  refine wpAnyH_take (i := 4) (oi := ⟨some 22, _, _, _, _, _⟩) (v := ?v115) rfl (by kernel_rfl) (by kernel_rfl) (by kernel_rfl) (fun _ _ _ h => h) (Or.inl ⟨by rfl, ?hy115⟩) (by assumption) ?_
  case hy115 => (intro w hSw; (try dsimp only at hSw); go_simp; try (with_reducible rfl))
  (try simp only [Act.put, qa_, qb_, qc_])
  refine wpAnyH_take (i := 5) (oi := ⟨some 23, _, _, _, _, _⟩) (v := ?v116) rfl (by kernel_rfl) (by kernel_rfl) (by kernel_rfl) (fun _ _ _ h => h) (Or.inl ⟨by rfl, ?hy116⟩) (by assumption) ?_
  case hy116 => (intro w hSw; (try dsimp only at hSw); go_simp; try (with_reducible rfl))
  (try simp only [Act.put, qa_, qb_, qc_])
  refine wpAnyH_take (i := 6) (oi := ⟨some 24, _, _, _, _, _⟩) (v := ?v117) rfl (by kernel_rfl) (by kernel_rfl) (by kernel_rfl) (fun _ _ _ h => h) (Or.inl ⟨by rfl, ?hy117⟩) (by assumption) ?_
  case hy117 => (intro w hSw; (try dsimp only at hSw); go_simp; try (with_reducible rfl))
  (try simp only [Act.put, qa_, qb_, qc_])
  refine wpAnyH_take (i := 7) (oi := ⟨some 25, _, _, _, _, _⟩) (v := ?v118) rfl (by kernel_rfl) (by kernel_rfl) (by kernel_rfl) (fun _ _ _ h => h) (Or.inl ⟨by rfl, ?hy118⟩) (by assumption) ?_
  case hy118 => (intro w hSw; (try dsimp only at hSw); go_simp; try (with_reducible rfl))
  (try simp only [Act.put, qa_, qb_, qc_])
  refine wpAnyH_take (i := 8) (oi := ⟨some 26, _, _, _, _, _⟩) (v := ?v119) rfl (by kernel_rfl) (by kernel_rfl) (by kernel_rfl) (fun _ _ _ h => h) (Or.inl ⟨by rfl, ?hy119⟩) (by assumption) ?_
  case hy119 => (intro w hSw; (try dsimp only at hSw); go_simp; try (with_reducible rfl))
  (try simp only [Act.put, qa_, qb_, qc_])
  refine wpAnyH_take (i := 9) (oi := ⟨some 27, _, _, _, _, _⟩) (v := ?v120) rfl (by kernel_rfl) (by kernel_rfl) (by kernel_rfl) (fun _ _ _ h => h) (Or.inl ⟨by rfl, ?hy120⟩) (by assumption) ?_
  case hy120 => (intro w hSw; (try dsimp only at hSw); go_simp; try (with_reducible rfl))
  (try simp only [Act.put, qa_, qb_, qc_])
  refine wpAnyH_take (i := 10) (oi := ⟨some 28, _, _, _, _, _⟩) (v := ?v121) rfl (by kernel_rfl) (by kernel_rfl) (by kernel_rfl) (fun _ _ _ h => h) (Or.inl ⟨by rfl, ?hy121⟩) (by assumption) ?_
  case hy121 => (intro w hSw; (try dsimp only at hSw); go_simp; try (with_reducible rfl))
  (try simp only [Act.put, qa_, qb_, qc_])
  refine wpAnyH_ready (rs := [11]) (by kernel_rfl) (by simp) ?_
  refine AllReadyH.cons rfl (fun K hK => ?_) ?_
  · go_simp
    go_at_call 87
    refine (s_LetterOf (tNode.reach (tNode.reach hRk hB1) (belx)) hza hx).mono ?_
    rintro e w3 ⟨A9, c9, rfl, hr9, hb3x⟩
    rw [HLD.out, HLL.out]
    rw [HLL.out] at hr9
    have hs3 : Below w1.heap.size w1 w3 := bel_trans (show Below w1.heap.size w1 w1.drew from (belx)) hb3x
    have X3 := X1.below hs3 X1.size
    have hB3 : Below w.heap.size w w3 := bel_trans hB1 hs3
    have zb1 := cell_bel hs3 za1
    have zb2 := cell_bel hs3 za2
    have nb0 := cell_bel hs3 na0
    have nb1 := cell_bel hs3 na1
    have nb2 := cell_bel hs3 na2
    have nb3 := cell_bel hs3 na3
    have nb4 := cell_bel hs3 na4
    have nb5 := cell_bel hs3 na5
    have nb6 := cell_bel hs3 na6
    go_wp2_with fail
    refine hK.out _ _ (by exact ⟨X3.cell 3, X3.cell 5, zb1, nb0, nb1, nb2, nb3, nb4, nb5, nb6⟩) (fun hHeld => ?_)
    clear hK K
    (try simp only [Act.put, qa_, qb_, qc_])
    refine wpAnyH_take (i := 12) (oi := ⟨some 17, _, _, _, _, _⟩) (v := ?v122) rfl (by kernel_rfl) (by kernel_rfl) (by kernel_rfl) (fun _ _ _ h => h) (Or.inl ⟨by rfl, ?hy122⟩) (by assumption) ?_
    case hy122 => (intro w hSw; (try dsimp only at hSw); go_simp; try (with_reducible rfl))
    (try simp only [Act.put, qa_, qb_, qc_])
    refine wpAnyH_take (i := 13) (oi := ⟨some 30, _, _, _, _, _⟩) (v := ?v123) rfl (by kernel_rfl) (by kernel_rfl) (by kernel_rfl) (fun _ _ _ h => h) (Or.inl ⟨by rfl, ?hy123⟩) (by assumption) ?_
    case hy123 => (intro w hSw; (try dsimp only at hSw); go_simp; try (with_reducible rfl))
    (try simp only [Act.put, qa_, qb_, qc_])
    refine wpAnyH_take (i := 14) (oi := ⟨some 31, _, _, _, _, _⟩) (v := ?v124) rfl (by kernel_rfl) (by kernel_rfl) (by kernel_rfl) (fun _ _ _ h => h) (Or.inl ⟨by rfl, ?hy124⟩) (by assumption) ?_
    case hy124 => (intro w hSw; (try dsimp only at hSw); go_simp; try (with_reducible rfl))
    (try simp only [Act.put, qa_, qb_, qc_])
    refine wpAnyH_take (i := 15) (oi := ⟨some 6, _, _, _, _, _⟩) (v := ?v125) rfl (by kernel_rfl) (by kernel_rfl) (by kernel_rfl) (fun _ _ _ h => h) (Or.inl ⟨by rfl, ?hy125⟩) (by assumption) ?_
    case hy125 => (intro w hSw; (try dsimp only at hSw); go_simp; try (with_reducible rfl))
    (try simp only [Act.put, qa_, qb_, qc_])
    refine wpAnyH_take (i := 16) (oi := ⟨some 7, _, _, _, _, _⟩) (v := ?v126) rfl (by kernel_rfl) (by kernel_rfl) (by kernel_rfl) (fun _ _ _ h => h) (Or.inl ⟨by rfl, ?hy126⟩) (by assumption) ?_
    case hy126 => (intro w hSw; (try dsimp only at hSw); go_simp; try (with_reducible rfl))
    (try simp only [Act.put, qa_, qb_, qc_])
    refine wpAnyH_done (by kernel_rfl) ?_ _
    cases d
    · have HRB := Lib.hid (show false = (false && decide (L = s.2.2)) from rfl)
      go_wp2_with fail
      refine wp_region_held_drew (S := (fun _ => True)) (by kernel_rfl) (trivial) (fun hHeld => ?_)
      refine wpAnyH_take (i := 0) (oi := ⟨some 32, _, _, _, _, _⟩) (v := ?v93) rfl (by kernel_rfl) (by kernel_rfl) (by kernel_rfl) (fun _ _ _ h => h) (Or.inl ⟨by rfl, ?hy93⟩) (by assumption) ?_
      case hy93 => (intro w hSw; (try dsimp only at hSw); go_simp; try (with_reducible rfl))
      (try simp only [Act.put, qa_, qb_, qc_])
      refine wpAnyH_take (i := 1) (oi := ⟨some 33, _, _, _, _, _⟩) (v := ?v94) rfl (by kernel_rfl) (by kernel_rfl) (by kernel_rfl) (fun _ _ _ h => h) (Or.inl ⟨by rfl, ?hy94⟩) (by assumption) ?_
      case hy94 => (intro w hSw; (try dsimp only at hSw); go_simp; try (with_reducible rfl))
      (try simp only [Act.put, qa_, qb_, qc_])
      refine wpAnyH_take (i := 2) (oi := ⟨some 34, _, _, _, _, _⟩) (v := undef) rfl (by kernel_rfl) (by kernel_rfl) (by kernel_rfl) (fun _ _ _ h => h) (Or.inr ⟨by rfl, rfl⟩) (by assumption) ?_
      (try simp only [Act.put, qa_, qb_, qc_])
      refine wpAnyH_take (i := 3) (oi := ⟨some 35, _, _, _, _, _⟩) (v := undef) rfl (by kernel_rfl) (by kernel_rfl) (by kernel_rfl) (fun _ _ _ h => h) (Or.inr ⟨by rfl, rfl⟩) (by assumption) ?_
      (try simp only [Act.put, qa_, qb_, qc_])
      refine wpAnyH_take (i := 4) (oi := ⟨some 36, _, _, _, _, _⟩) (v := undef) rfl (by kernel_rfl) (by kernel_rfl) (by kernel_rfl) (fun _ _ _ h => h) (Or.inr ⟨by rfl, rfl⟩) (by assumption) ?_
      (try simp only [Act.put, qa_, qb_, qc_])
      refine wpAnyH_take (i := 5) (oi := ⟨some 37, _, _, _, _, _⟩) (v := undef) rfl (by kernel_rfl) (by kernel_rfl) (by kernel_rfl) (fun _ _ _ h => h) (Or.inr ⟨by rfl, rfl⟩) (by assumption) ?_
      (try simp only [Act.put, qa_, qb_, qc_])
      refine wpAnyH_take (i := 6) (oi := ⟨some 38, _, _, _, _, _⟩) (v := undef) rfl (by kernel_rfl) (by kernel_rfl) (by kernel_rfl) (fun _ _ _ h => h) (Or.inr ⟨by rfl, rfl⟩) (by assumption) ?_
      (try simp only [Act.put, qa_, qb_, qc_])
      refine wpAnyH_take (i := 7) (oi := ⟨some 39, _, _, _, _, _⟩) (v := undef) rfl (by kernel_rfl) (by kernel_rfl) (by kernel_rfl) (fun _ _ _ h => h) (Or.inr ⟨by rfl, rfl⟩) (by assumption) ?_
      (try simp only [Act.put, qa_, qb_, qc_])
      refine wpAnyH_take (i := 8) (oi := ⟨some 40, _, _, _, _, _⟩) (v := undef) rfl (by kernel_rfl) (by kernel_rfl) (by kernel_rfl) (fun _ _ _ h => h) (Or.inr ⟨by rfl, rfl⟩) (by assumption) ?_
      (try simp only [Act.put, qa_, qb_, qc_])
      refine wpAnyH_take (i := 9) (oi := ⟨some 41, _, _, _, _, _⟩) (v := undef) rfl (by kernel_rfl) (by kernel_rfl) (by kernel_rfl) (fun _ _ _ h => h) (Or.inr ⟨by rfl, rfl⟩) (by assumption) ?_
      (try simp only [Act.put, qa_, qb_, qc_])
      refine wpAnyH_take (i := 10) (oi := ⟨some 42, _, _, _, _, _⟩) (v := undef) rfl (by kernel_rfl) (by kernel_rfl) (by kernel_rfl) (fun _ _ _ h => h) (Or.inr ⟨by rfl, rfl⟩) (by assumption) ?_
      (try simp only [Act.put, qa_, qb_, qc_])
      refine wpAnyH_take (i := 11) (oi := ⟨some 43, _, _, _, _, _⟩) (v := undef) rfl (by kernel_rfl) (by kernel_rfl) (by kernel_rfl) (fun _ _ _ h => h) (Or.inr ⟨by rfl, rfl⟩) (by assumption) ?_
      (try simp only [Act.put, qa_, qb_, qc_])
      refine wpAnyH_take (i := 12) (oi := ⟨some 44, _, _, _, _, _⟩) (v := ?v95) rfl (by kernel_rfl) (by kernel_rfl) (by kernel_rfl) (fun _ _ _ h => h) (Or.inl ⟨by rfl, ?hy95⟩) (by assumption) ?_
      case hy95 => (intro w hSw; (try dsimp only at hSw); go_simp; try (with_reducible rfl))
      (try simp only [Act.put, qa_, qb_, qc_])
      refine wpAnyH_take (i := 13) (oi := ⟨some 4, _, _, _, _, _⟩) (v := ?v96) rfl (by kernel_rfl) (by kernel_rfl) (by kernel_rfl) (fun _ _ _ h => h) (Or.inl ⟨by rfl, ?hy96⟩) (by assumption) ?_
      case hy96 => (intro w hSw; (try dsimp only at hSw); go_simp; try (with_reducible rfl))
      (try simp only [Act.put, qa_, qb_, qc_])
      refine wpAnyH_done (by kernel_rfl) ?_ _
      go_wp2
      go_ret
      exact ⟨ret_bool HRB.out, bel_trans hB3 (belx)⟩
    · obtain ⟨s1, hs1'⟩ : ∃ s1, strOfNums s.2.2 = s1 := ⟨_, rfl⟩
      obtain ⟨s2, hs2'⟩ : ∃ s2, strOfNums L = s2 := ⟨_, rfl⟩
      have hI9 := (slR_ints hr9).1
      have g1 : (convert 50 9 (.slice A8 n8 c8)).run Tryz.prog (w3.drew) = .ok (.string s1) (w3.drew) := by rw [← hs1']; exact conv_bytesQ (reach hI8 (bel_trans hB3 (belx))) c8 _ _ _ Tryz.underlying50 Tryz.underlying5 Tryz.underlying9
      have g2 : (convert 50 9 (.slice A9 L.length c9)).run Tryz.prog (w3.drew) = .ok (.string s2) (w3.drew) := by rw [← hs2']; exact conv_bytesQ (reach hI9 (belx)) c9 _ _ _ Tryz.underlying50 Tryz.underlying5 Tryz.underlying9
      have HNQ := Lib.hid (nums_eqQ hI9.bytesQ hI8.bytesQ)
      rw [hs1', hs2'] at HNQ
      have HRB := Lib.hid (show (s2.toList == s1.toList) = (true && decide (L = s.2.2)) by rw [HNQ.out]; rfl)
      have y5 := X3.cell 5
      clear hs1' hs2'
      go_wp2_with fail
      refine wp_region_held_drew (S := (fun w' => w'.cell? ⟨w.heap.size, 5, none⟩ = some (.slice (some ⟨b3, off3, none⟩) n5 c5) ∧ w'.cell? ⟨b3, off3 + t * 3 + 2, none⟩ = some (.slice A8 n8 c8) ∧ (convert 50 9 (.slice A8 n8 c8)).run Tryz.prog w' = .ok (.string s1) w' ∧ (convert 50 9 (.slice A9 L.length c9)).run Tryz.prog w' = .ok (.string s2) w')) (by kernel_rfl) (by exact ⟨y5, zb2, g1, g2⟩) (fun hHeld => ?_)
      refine wpAnyH_take (i := 0) (oi := ⟨some 32, _, _, _, _, _⟩) (v := ?v97) rfl (by kernel_rfl) (by kernel_rfl) (by kernel_rfl) (fun _ _ _ h => h) (Or.inl ⟨by rfl, ?hy97⟩) (by assumption) ?_
      case hy97 => (intro w hSw; (try dsimp only at hSw); go_simp; try (with_reducible rfl))
      (try simp only [Act.put, qa_, qb_, qc_])
      refine wpAnyH_take (i := 1) (oi := ⟨some 33, _, _, _, _, _⟩) (v := ?v98) rfl (by kernel_rfl) (by kernel_rfl) (by kernel_rfl) (fun _ _ _ h => h) (Or.inl ⟨by rfl, ?hy98⟩) (by assumption) ?_
      case hy98 => (intro w hSw; (try dsimp only at hSw); go_simp; try (with_reducible rfl))
      (try simp only [Act.put, qa_, qb_, qc_])
      refine wpAnyH_take (i := 2) (oi := ⟨some 34, _, _, _, _, _⟩) (v := ?v99) rfl (by kernel_rfl) (by kernel_rfl) (by kernel_rfl) (fun _ _ _ h => h) (Or.inl ⟨by rfl, ?hy99⟩) (by assumption) ?_
      case hy99 => (intro w hSw; (try dsimp only at hSw); go_simp; try (with_reducible rfl))
      (try simp only [Act.put, qa_, qb_, qc_])
      refine wpAnyH_take (i := 3) (oi := ⟨some 35, _, _, _, _, _⟩) (v := ?v100) rfl (by kernel_rfl) (by kernel_rfl) (by kernel_rfl) (fun _ _ _ h => h) (Or.inl ⟨by rfl, ?hy100⟩) (by assumption) ?_
      case hy100 => (intro w hSw; (try dsimp only at hSw); go_simp; try (with_reducible rfl))
      (try simp only [Act.put, qa_, qb_, qc_])
      refine wpAnyH_take (i := 4) (oi := ⟨some 36, _, _, _, _, _⟩) (v := ?v101) rfl (by kernel_rfl) (by kernel_rfl) (by kernel_rfl) (fun _ _ _ h => h) (Or.inl ⟨by rfl, ?hy101⟩) (by assumption) ?_
      case hy101 => (intro w hSw; (try dsimp only at hSw); go_simp; try (with_reducible rfl))
      (try simp only [Act.put, qa_, qb_, qc_])
      refine wpAnyH_take (i := 5) (oi := ⟨some 37, _, _, _, _, _⟩) (v := ?v102) rfl (by kernel_rfl) (by kernel_rfl) (by kernel_rfl) (fun _ _ _ h => h) (Or.inl ⟨by rfl, ?hy102⟩) (by assumption) ?_
      case hy102 => (intro w hSw; (try dsimp only at hSw); go_simp; try (with_reducible rfl))
      (try simp only [Act.put, qa_, qb_, qc_])
      refine wpAnyH_take (i := 6) (oi := ⟨some 38, _, _, _, _, _⟩) (v := ?v103) rfl (by kernel_rfl) (by kernel_rfl) (by kernel_rfl) (fun _ _ _ h => h) (Or.inl ⟨by rfl, ?hy103⟩) (by assumption) ?_
      case hy103 => (intro w hSw; (try dsimp only at hSw); go_simp; try (with_reducible rfl))
      (try simp only [Act.put, qa_, qb_, qc_])
      refine wpAnyH_take (i := 7) (oi := ⟨some 39, _, _, _, _, _⟩) (v := ?v104) rfl (by kernel_rfl) (by kernel_rfl) (by kernel_rfl) (fun _ _ _ h => h) (Or.inl ⟨by rfl, ?hy104⟩) (by assumption) ?_
      case hy104 => (intro w hSw; (try dsimp only at hSw); go_simp; try (with_reducible rfl))
      (try simp only [Act.put, qa_, qb_, qc_])
      refine wpAnyH_take (i := 8) (oi := ⟨some 40, _, _, _, _, _⟩) (v := ?v105) rfl (by kernel_rfl) (by kernel_rfl) (by kernel_rfl) (fun _ _ _ h => h) (Or.inl ⟨by rfl, ?hy105⟩) (by assumption) ?_
      case hy105 => (intro w hSw; (try dsimp only at hSw); go_simp; try (with_reducible rfl))
      (try simp only [Act.put, qa_, qb_, qc_])
      refine wpAnyH_take (i := 9) (oi := ⟨some 41, _, _, _, _, _⟩) (v := ?v106) rfl (by kernel_rfl) (by kernel_rfl) (by kernel_rfl) (fun _ _ _ h => h) (Or.inl ⟨by rfl, ?hy106⟩) (by assumption) ?_
      case hy106 => (intro w hSw; (try dsimp only at hSw); go_simp; try (with_reducible rfl))
      (try simp only [Act.put, qa_, qb_, qc_])
      refine wpAnyH_take (i := 10) (oi := ⟨some 42, _, _, _, _, _⟩) (v := ?v107) rfl (by kernel_rfl) (by kernel_rfl) (by kernel_rfl) (fun _ _ _ h => h) (Or.inl ⟨by rfl, ?hy107⟩) (by assumption) ?_
      case hy107 => (intro w hSw; (try dsimp only at hSw); go_simp; try (with_reducible rfl))
      (try simp only [Act.put, qa_, qb_, qc_])
      refine wpAnyH_take (i := 11) (oi := ⟨some 43, _, _, _, _, _⟩) (v := ?v108) rfl (by kernel_rfl) (by kernel_rfl) (by kernel_rfl) (fun _ _ _ h => h) (Or.inl ⟨by rfl, ?hy108⟩) (by assumption) ?_
      case hy108 => (intro w hSw; (try dsimp only at hSw); go_simp; try (with_reducible rfl))
      (try simp only [Act.put, qa_, qb_, qc_])
      refine wpAnyH_take (i := 12) (oi := ⟨some 44, _, _, _, _, _⟩) (v := ?v109) rfl (by kernel_rfl) (by kernel_rfl) (by kernel_rfl) (fun _ _ _ h => h) (Or.inl ⟨by rfl, ?hy109⟩) (by assumption) ?_
      case hy109 => (intro w hSw; (try dsimp only at hSw); go_simp; try (with_reducible rfl))
      (try simp only [Act.put, qa_, qb_, qc_])
      refine wpAnyH_take (i := 13) (oi := ⟨some 4, _, _, _, _, _⟩) (v := ?v110) rfl (by kernel_rfl) (by kernel_rfl) (by kernel_rfl) (fun _ _ _ h => h) (Or.inl ⟨by rfl, ?hy110⟩) (by assumption) ?_
      case hy110 => (intro w hSw; (try dsimp only at hSw); go_simp; try (with_reducible rfl))
      (try simp only [Act.put, qa_, qb_, qc_])
      refine wpAnyH_done (by kernel_rfl) ?_ _
      go_wp2
      go_ret
      exact ⟨ret_bool HRB.out, bel_trans hB3 (belx)⟩
  exact AllReadyH.nil
end Go.Proofs.YteokfenoomcogaaGreat
