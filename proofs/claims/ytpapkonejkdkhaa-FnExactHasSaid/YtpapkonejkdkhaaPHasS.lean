/-
  Is a piece there: contract of Has of the model.
-/
import Derived.Test.YtpapkonejkdkhaaPHasP
import Derived.Test.YtpapkonejkdkhaaPDeskT
import Derived.Test.YtpapkonejkdkhaaPL4b
import Derived.Test.YtpapkonejkdkhaaBeq
import Derived.Deep.RegionHeld3
namespace Go.Proofs.Ytpapkonejkdkhaa
set_option maxRecDepth 100000
set_option linter.unusedVariables false
set_option linter.unusedSimpArgs false
open Go.ChangeShapes Go.WideShapes Go.ChangeAt Go.RowKit
open Fld
def pcL (p : DPiece) : List Int := p.1 :: p.2.1 :: p.2.2.1 :: p.2.2.2
theorem pcL_inj {p q : DPiece} (h : pcL p = pcL q) : p = q := by
  obtain ⟨a, b, c, d⟩ := p
  obtain ⟨a', b', c', d'⟩ := q
  unfold pcL at h
  simp only [List.cons.injEq] at h
  obtain ⟨rfl, rfl, rfl, rfl⟩ := h
  rfl
theorem pcL_bytes {p : DPiece} (h : (0 ≤ p.1 ∧ p.1 ≤ 255) ∧ (0 ≤ p.2.1 ∧ p.2.1 ≤ 255) ∧ (0 ≤ p.2.2.1 ∧ p.2.2.1 ≤ 255)) (hb : Bytes p.2.2.2) : Bytes (pcL p) := by
  intro x hx
  unfold pcL at hx
  simp only [List.mem_cons] at hx
  rcases hx with rfl | rfl | rfl | hx
  · omega
  · omega
  · omega
  · exact hb x hx
theorem pc_rg {p : DPiece} (h : PcOk p) : (0 ≤ p.1 ∧ p.1 ≤ 255) ∧ (0 ≤ p.2.1 ∧ p.2.1 ≤ 255) ∧ (0 ≤ p.2.2.1 ∧ p.2.2.1 ≤ 255) := by
  unfold PcOk PcN at h
  omega
theorem nin_sn {G : List DPiece} {k : Nat} {x q : DPiece} (h : G[k]? = some x) (h1 : ∀ y ∈ G.take k, y ≠ q) (h2 : x ≠ q) : ∀ y ∈ G.take (k + 1), y ≠ q := by
  rw [take_snoc h]
  intro y hy
  rcases List.mem_append.1 hy with h' | h'
  · exact h1 y h'
  · rw [List.mem_singleton] at h'; rw [h']; exact h2
set_option maxHeartbeats 4000000 in
theorem s_Has_t {w : World} {cs ch : List Value} {p : DDesk} {q : DPiece} (h : tDesk.R w w.heap.size cs p) (hz : szDesk p ≤ 1048576) (hq : tPiece.R w w.heap.size ch q) (hz2 : szPiece q ≤ 1048576) (hp : DkOk p) (hpc : PcOk q) :
    Calls Try.prog 35 #[.agg cs.toArray, .agg ch.toArray] w fun e w' => e = .returned (.bool (fHas p q)) ∧ Below w.heap.size w w' := by
  obtain ⟨A0, n0, c0, A1, n1, c1, rfl, -, -, -, hr0, -, -, -, hr1⟩ := openDesk h
  have hq' := hq
  obtain ⟨A7, n7, c7, rfl, hy0, hy1, hy2, ha7, hb7, hl7, h7⟩ := openPiece hq'
  clear hq'
  have HP := Lib.hid (decide_eq_true hp)
  have HPC := Lib.hid (decide_eq_true hpc)
  have HDK := Lib.hid hp
  have HPQ := Lib.hid hpc
  have hI7 := (slR_ints h7).1
  have HQB := Lib.hid (pc_rg hpc)
  have HQY := Lib.hid (pcL_bytes (pc_rg hpc) hI7.bytesQ)
  have hn7 : n7 ≤ 1048576 := by unfold szPiece at hz2; omega
  have hn0 : n0 ≤ 6 := by have := hp.1; have := (rowR_len hr0).1; omega
  have E0 := Lib.hid (rowR_len hr0).1
  have HWH := Lib.hid (fun a (ha : a ∈ p.1) => dk_wh hp ha)
  have HXP := Lib.hid (fun a (ha : a ∈ p.1) x (hx : x ∈ a.2.2.2) => (dk_pc hp ha hx).1)
  clear hp hpc
  have hk : ∀ W, Below ((w.alloc (.cells #[.slice A0 n0 c0, .slice A1 n1 c1] 61)).alloc (.cells #[.int .i64 q.1, .int .i64 q.2.1, .int .i64 q.2.2.1, .slice A7 n7 c7] 63)).heap.size ((w.alloc (.cells #[.slice A0 n0 c0, .slice A1 n1 c1] 61)).alloc (.cells #[.int .i64 q.1, .int .i64 q.2.1, .int .i64 q.2.2.1, .slice A7 n7 c7] 63)) W → (fun w' => w'.cell? ⟨w.heap.size, 0, none⟩ = some (.slice A0 n0 c0) ∧ w'.cell? ⟨w.heap.size, 1, none⟩ = some (.slice A1 n1 c1) ∧ w'.cell? ⟨w.heap.size + 1, 0, none⟩ = some (.int .i64 q.1) ∧ w'.cell? ⟨w.heap.size + 1, 1, none⟩ = some (.int .i64 q.2.1) ∧ w'.cell? ⟨w.heap.size + 1, 2, none⟩ = some (.int .i64 q.2.2.1) ∧ w'.cell? ⟨w.heap.size + 1, 3, none⟩ = some (.slice A7 n7 c7)) W := fun W hW => by
    have b1 : Box W w.heap.size 61 #[.slice A0 n0 c0, .slice A1 n1 c1] := ((Box.new w _ _).alloc _).below hW (by simp; omega)
    have b2 : Box W (w.heap.size + 1) 63 #[.int .i64 q.1, .int .i64 q.2.1, .int .i64 q.2.2.1, .slice A7 n7 c7] := Box.below (by simpa using Box.new (w.alloc (.cells #[.slice A0 n0 c0, .slice A1 n1 c1] 61)) 63 #[.int .i64 q.1, .int .i64 q.2.1, .int .i64 q.2.2.1, .slice A7 n7 c7]) hW (by simp)
    exact ⟨b1.cell 0, b1.cell 1, b2.cell 0, b2.cell 1, b2.cell 2, b2.cell 3⟩
  have hX0 : Below w.heap.size w ((w.alloc (.cells #[.slice A0 n0 c0, .slice A1 n1 c1] 61)).alloc (.cells #[.int .i64 q.1, .int .i64 q.2.1, .int .i64 q.2.2.1, .slice A7 n7 c7] 63)) := (by repeat (first | (with_reducible exact Below.refl _ _) | (with_reducible assumption) | (with_reducible refine bel_alloc ?_ _) | (with_reducible refine bel_drew ?_) | (with_reducible refine below_drewN ?_ _) | (with_reducible refine bel_put ?_ (by first | exact Nat.le_refl _ | (simp; done) | (simp; omega)) _)))
  go_enter Try.func35, Try.ntmps35
  go_wp2_with fail
  refine (s_DeskOk (tDesk.reach h ?hB) hz).mono ?_
  case hB => exact (by repeat (first | (with_reducible exact Below.refl _ _) | (with_reducible assumption) | (with_reducible refine bel_alloc ?_ _) | (with_reducible refine bel_drew ?_) | (with_reducible refine below_drewN ?_ _) | (with_reducible refine bel_put ?_ (by first | exact Nat.le_refl _ | (simp; done) | (simp; omega)) _)))
  rintro e w1 ⟨rfl, hb1⟩
  rw [HP.out]
  have hs1 : Below ((w.alloc (.cells #[.slice A0 n0 c0, .slice A1 n1 c1] 61)).alloc (.cells #[.int .i64 q.1, .int .i64 q.2.1, .int .i64 q.2.2.1, .slice A7 n7 c7] 63)).heap.size ((w.alloc (.cells #[.slice A0 n0 c0, .slice A1 n1 c1] 61)).alloc (.cells #[.int .i64 q.1, .int .i64 q.2.1, .int .i64 q.2.2.1, .slice A7 n7 c7] 63)) w1 := hb1
  obtain ⟨k0, k1, k2, k3, k4, k5⟩ := hk _ hs1
  go_wp2_with fail
  refine (s_PieceOk (tPiece.reach (tPiece.reach hq (bel_trans hX0 hs1)) ?hB) hz2).mono ?_
  case hB => exact (by repeat (first | (with_reducible exact Below.refl _ _) | (with_reducible assumption) | (with_reducible refine bel_alloc ?_ _) | (with_reducible refine bel_drew ?_) | (with_reducible refine below_drewN ?_ _) | (with_reducible refine bel_put ?_ (by first | exact Nat.le_refl _ | (simp; done) | (simp; omega)) _)))
  rintro e w2 ⟨rfl, hb2⟩
  rw [HPC.out]
  have hs2 : Below ((w.alloc (.cells #[.slice A0 n0 c0, .slice A1 n1 c1] 61)).alloc (.cells #[.int .i64 q.1, .int .i64 q.2.1, .int .i64 q.2.2.1, .slice A7 n7 c7] 63)).heap.size ((w.alloc (.cells #[.slice A0 n0 c0, .slice A1 n1 c1] 61)).alloc (.cells #[.int .i64 q.1, .int .i64 q.2.1, .int .i64 q.2.2.1, .slice A7 n7 c7] 63)) w2 := bel_trans hs1 (bel_trans (by repeat (first | (with_reducible exact Below.refl _ _) | (with_reducible assumption) | (with_reducible refine bel_alloc ?_ _) | (with_reducible refine bel_drew ?_) | (with_reducible refine below_drewN ?_ _) | (with_reducible refine bel_put ?_ (by first | exact Nat.le_refl _ | (simp; done) | (simp; omega)) _))) hb2)
  clear k0 k1 k2 k3 k4 k5
  obtain ⟨k0, k1, k2, k3, k4, k5⟩ := hk _ hs2
  go_wp2_with fail
  go_loopw [5] (fun i wr => ∃ j : Nat, j ≤ n0 ∧ i = .int .i64 j ∧ (∀ a ∈ p.1.take j, ∀ y ∈ a.2.2.2, y ≠ q) ∧ Below ((w.alloc (.cells #[.slice A0 n0 c0, .slice A1 n1 c1] 61)).alloc (.cells #[.int .i64 q.1, .int .i64 q.2.1, .int .i64 q.2.2.1, .slice A7 n7 c7] 63)).heap.size ((w.alloc (.cells #[.slice A0 n0 c0, .slice A1 n1 c1] 61)).alloc (.cells #[.int .i64 q.1, .int .i64 q.2.1, .int .i64 q.2.2.1, .slice A7 n7 c7] 63)) wr ∧ Below w.heap.size w wr) (fun i _ => n0 - ixOf i)
  case atStart => exact ⟨0, by omega, rfl, fun a ha => absurd ha (by simp), hs2, bel_trans hX0 hs2⟩
  case round =>
    obtain ⟨j, hj, rfl, hno, hBX, hB⟩ := hrel
    have HNO := Lib.hid hno
    clear hno
    obtain ⟨d0, d9, f0, f1, f2, f3⟩ := hk _ hBX
    by_cases hlt : j < n0
    · obtain ⟨a, b', off, es, hl2, rfl, hb, hes, hR⟩ := rowR_at (K := 4) hr0 hlt rfl
      have ham := List.mem_of_getElem? hl2
      have hwh := HWH.out a ham
      have HAM := Lib.hid ham
      have HTk := Lib.hid (take_snoc hl2)
      obtain ⟨A2, n2, c2, rfl, -, -, -, -, -, hl3, h3⟩ := openWhole hR
      have h4' : wr.cell? ⟨b', off + j * 4 + 3, none⟩ = some (.slice A2 n2 c2) := cell_at hB hb (hes 3 (by omega))
      have h4w : w.cell? ⟨b', off + j * 4 + 3, none⟩ = some (.slice A2 n2 c2) := hes 3 (by omega)
      have q1 : (j : Int) < (n0 : Int) := by omega
      have HL3 := Lib.hid hl3
      have hn2 : 0 < n2 ∧ n2 ≤ 8 := by omega
      obtain ⟨hn2p, hn28⟩ := hn2
      clear hes hR hl2 hwh ham hl3
      go_wp2_with fail
      go_loopw [6] (fun i wr => ∃ k : Nat, k ≤ n2 ∧ i = .int .i64 k ∧ (∀ y ∈ a.2.2.2.take k, y ≠ q) ∧ Below ((w.alloc (.cells #[.slice (some ⟨b', off, none⟩) n0 c0, .slice A1 n1 c1] 61)).alloc (.cells #[.int .i64 q.1, .int .i64 q.2.1, .int .i64 q.2.2.1, .slice A7 n7 c7] 63)).heap.size ((w.alloc (.cells #[.slice (some ⟨b', off, none⟩) n0 c0, .slice A1 n1 c1] 61)).alloc (.cells #[.int .i64 q.1, .int .i64 q.2.1, .int .i64 q.2.2.1, .slice A7 n7 c7] 63)) wr ∧ Below w.heap.size w wr) (fun i _ => n2 - ixOf i)
      case atStart => exact ⟨0, by omega, rfl, fun y hy => absurd hy (by simp), hBX, hB⟩
      case round =>
        clear d0 d9 f0 f1 f2 f3 h4'
        obtain ⟨k, hkk, rfl, hny, hBX, hB⟩ := hrel
        have HNY := Lib.hid hny
        clear hny
        obtain ⟨d0, d9, f0, f1, f2, f3⟩ := hk _ hBX
        have d1 : wr.cell? ⟨b', off + j * 4 + 3, none⟩ = some (.slice A2 n2 c2) := cell_at hB hb h4w
        by_cases hltk : k < n2
        · obtain ⟨x, b3, off3, es3, hl4, rfl, hb3, hes3, hR3⟩ := rowR_at (K := 4) h3 hltk rfl
          have HXM := Lib.hid (List.mem_of_getElem? hl4)
          have hxok := HXP.out a HAM.out x HXM.out
          obtain ⟨A4, n4, c4, rfl, -, -, -, -, -, hl5, h5⟩ := openPiece hR3
          have hI4 := (slR_ints h5).1
          have hn4 : n4 ≤ 20 := by unfold PcOk PcN at hxok; omega
          have HXB := Lib.hid (pc_rg hxok)
          have HXY := Lib.hid (pcL_bytes (pc_rg hxok) hI4.bytesQ)
          have e0 : wr.cell? ⟨b3, off3 + k * 4, none⟩ = some (.int .i64 x.1) := cell_at hB hb3 (hes3 0 (by omega))
          have e1 : wr.cell? ⟨b3, off3 + k * 4 + 1, none⟩ = some (.int .i64 x.2.1) := cell_at hB hb3 (hes3 1 (by omega))
          have e2 : wr.cell? ⟨b3, off3 + k * 4 + 2, none⟩ = some (.int .i64 x.2.2.1) := cell_at hB hb3 (hes3 2 (by omega))
          have e3 : wr.cell? ⟨b3, off3 + k * 4 + 3, none⟩ = some (.slice A4 n4 c4) := cell_at hB hb3 (hes3 3 (by omega))
          have HSN := Lib.hid (fun h2 => nin_sn hl4 HNY.out (q := q) h2)
          obtain ⟨L1, hL1⟩ : ∃ y, x.1 :: x.2.1 :: x.2.2.1 :: x.2.2.2 = y := ⟨_, rfl⟩
          obtain ⟨L2, hL2⟩ : ∃ y, q.1 :: q.2.1 :: q.2.2.1 :: q.2.2.2 = y := ⟨_, rfl⟩
          obtain ⟨s1, hs1'⟩ : ∃ y, strOfNums L1 = y := ⟨_, rfl⟩
          obtain ⟨s2, hs2'⟩ : ∃ y, strOfNums L2 = y := ⟨_, rfl⟩
          have hcmp : (s1.toList == s2.toList) = decide (x = q) := by
            rw [← hs1', ← hs2', nums_eqQ (by rw [← hL1]; exact HXY.out) (by rw [← hL2]; exact HQY.out), ← hL1, ← hL2]
            by_cases hxq : x = q
            · rw [decide_eq_true hxq, hxq]; simp
            · rw [decide_eq_false hxq]; exact decide_eq_false (fun e => hxq (pcL_inj e))
          have HL1 := Lib.hid hL1; have HL2 := Lib.hid hL2; have HS1 := Lib.hid hs1'; have HS2 := Lib.hid hs2'
          have q2 : (k : Int) < (n2 : Int) := by omega
          clear hes3 hR3 hl4 hl5 hL1 hL2 hs1' hs2' hxok h5 d9
          by_cases hxq : x = q
          · rw [decide_eq_true hxq] at hcmp
            have HR := Lib.hid (fHas_t ⟨HDK.out, HPQ.out, a, HAM.out, by rw [← hxq]; exact HXM.out⟩)
            clear hxq
            go_wp2_with fail
            refine wp_region_held_drew (S := (fun w' => w'.cell? ⟨w.heap.size, 0, none⟩ = some (.slice (some ⟨b', off, none⟩) n0 c0) ∧ w'.cell? ⟨b', off + j * 4 + 3, none⟩ = some (.slice (some ⟨b3, off3, none⟩) n2 c2) ∧ w'.cell? ⟨b3, off3 + k * 4, none⟩ = some (.int .i64 x.1) ∧ w'.cell? ⟨b3, off3 + k * 4 + 1, none⟩ = some (.int .i64 x.2.1) ∧ w'.cell? ⟨b3, off3 + k * 4 + 2, none⟩ = some (.int .i64 x.2.2.1) ∧ w'.cell? ⟨b3, off3 + k * 4 + 3, none⟩ = some (.slice A4 n4 c4) ∧ w'.cell? ⟨w.heap.size + 1, 0, none⟩ = some (.int .i64 q.1) ∧ w'.cell? ⟨w.heap.size + 1, 1, none⟩ = some (.int .i64 q.2.1) ∧ w'.cell? ⟨w.heap.size + 1, 2, none⟩ = some (.int .i64 q.2.2.1) ∧ w'.cell? ⟨w.heap.size + 1, 3, none⟩ = some (.slice A7 n7 c7))) (by kernel_rfl) (by exact ⟨d0, d1, e0, e1, e2, e3, f0, f1, f2, f3⟩) (fun hHeld => ?_)
            refine wpAnyH_take (i := 0) (oi := ⟨some 33, _, _, _, _, _⟩) (v := ?v1) rfl (by kernel_rfl) (by kernel_rfl) (by kernel_rfl) (fun _ _ _ h => h) (Or.inl ⟨by rfl, ?hy1⟩) (by assumption) ?_
            case hy1 => (intro w hSw; (try dsimp only at hSw); go_simp; try (with_reducible rfl))
            (try simp only [Act.put, List.setIfInBounds_toArray, List.set_cons_zero, List.set_cons_succ])
            refine wpAnyH_take (i := 1) (oi := ⟨some 34, _, _, _, _, _⟩) (v := ?v2) rfl (by kernel_rfl) (by kernel_rfl) (by kernel_rfl) (fun _ _ _ h => h) (Or.inl ⟨by rfl, ?hy2⟩) (by assumption) ?_
            case hy2 => (intro w hSw; (try dsimp only at hSw); go_simp; try (with_reducible rfl))
            (try simp only [Act.put, List.setIfInBounds_toArray, List.set_cons_zero, List.set_cons_succ])
            refine wpAnyH_take (i := 2) (oi := ⟨some 35, _, _, _, _, _⟩) (v := ?v3) rfl (by kernel_rfl) (by kernel_rfl) (by kernel_rfl) (fun _ _ _ h => h) (Or.inl ⟨by rfl, ?hy3⟩) (by assumption) ?_
            case hy3 => (intro w hSw; (try dsimp only at hSw); go_simp; try (with_reducible rfl))
            (try simp only [Act.put, List.setIfInBounds_toArray, List.set_cons_zero, List.set_cons_succ])
            refine wpAnyH_take (i := 3) (oi := ⟨some 36, _, _, _, _, _⟩) (v := ?v4) rfl (by kernel_rfl) (by kernel_rfl) (by kernel_rfl) (fun _ _ _ h => h) (Or.inl ⟨by rfl, ?hy4⟩) (by assumption) ?_
            case hy4 => (intro w hSw; (try dsimp only at hSw); go_simp; try (with_reducible rfl))
            (try simp only [Act.put, List.setIfInBounds_toArray, List.set_cons_zero, List.set_cons_succ])
            refine wpAnyH_take (i := 4) (oi := ⟨some 37, _, _, _, _, _⟩) (v := ?v5) rfl (by kernel_rfl) (by kernel_rfl) (by kernel_rfl) (fun _ _ _ h => h) (Or.inl ⟨by rfl, ?hy5⟩) (by assumption) ?_
            case hy5 => (intro w hSw; (try dsimp only at hSw); go_simp; try (with_reducible rfl))
            (try simp only [Act.put, List.setIfInBounds_toArray, List.set_cons_zero, List.set_cons_succ])
            refine wpAnyH_take (i := 5) (oi := ⟨some 38, _, _, _, _, _⟩) (v := ?v6) rfl (by kernel_rfl) (by kernel_rfl) (by kernel_rfl) (fun _ _ _ h => h) (Or.inl ⟨by rfl, ?hy6⟩) (by assumption) ?_
            case hy6 => (intro w hSw; (try dsimp only at hSw); go_simp; try (with_reducible rfl))
            (try simp only [Act.put, List.setIfInBounds_toArray, List.set_cons_zero, List.set_cons_succ])
            refine wpAnyH_take (i := 6) (oi := ⟨some 39, _, _, _, _, _⟩) (v := ?v7) rfl (by kernel_rfl) (by kernel_rfl) (by kernel_rfl) (fun _ _ _ h => h) (Or.inl ⟨by rfl, ?hy7⟩) (by assumption) ?_
            case hy7 => (intro w hSw; (try dsimp only at hSw); go_simp; try (with_reducible rfl))
            (try simp only [Act.put, List.setIfInBounds_toArray, List.set_cons_zero, List.set_cons_succ])
            refine wpAnyH_take (i := 7) (oi := ⟨some 40, _, _, _, _, _⟩) (v := ?v8) rfl (by kernel_rfl) (by kernel_rfl) (by kernel_rfl) (fun _ _ _ h => h) (Or.inl ⟨by rfl, ?hy8⟩) (by assumption) ?_
            case hy8 => (intro w hSw; (try dsimp only at hSw); go_simp; try (with_reducible rfl))
            (try simp only [Act.put, List.setIfInBounds_toArray, List.set_cons_zero, List.set_cons_succ])
            refine wpAnyH_take (i := 8) (oi := ⟨some 41, _, _, _, _, _⟩) (v := ?v9) rfl (by kernel_rfl) (by kernel_rfl) (by kernel_rfl) (fun _ _ _ h => h) (Or.inl ⟨by rfl, ?hy9⟩) (by assumption) ?_
            case hy9 => (intro w hSw; (try dsimp only at hSw); go_simp; try (with_reducible rfl))
            (try simp only [Act.put, List.setIfInBounds_toArray, List.set_cons_zero, List.set_cons_succ])
            refine wpAnyH_take (i := 11) (oi := ⟨some 44, _, _, _, _, _⟩) (v := ?v10) rfl (by kernel_rfl) (by kernel_rfl) (by kernel_rfl) (fun _ _ _ h => h) (Or.inl ⟨by rfl, ?hy10⟩) (by assumption) ?_
            case hy10 => (intro w hSw; (try dsimp only at hSw); go_simp; try (with_reducible rfl))
            (try simp only [Act.put, List.setIfInBounds_toArray, List.set_cons_zero, List.set_cons_succ])
            refine wpAnyH_ready (rs := [9]) (by kernel_rfl) (by simp) ?_
            refine AllReadyH.cons rfl (fun K hK => ?_) ?_
            · go_simp
              go_at_call 73
              refine (s_l4bytes HXB.out.1 HXB.out.2.1 HXB.out.2.2 (by omega) (reach (reach hI4 hB) (by repeat (first | (with_reducible exact Below.refl _ _) | (with_reducible assumption) | (with_reducible refine bel_alloc ?_ _) | (with_reducible refine bel_drew ?_) | (with_reducible refine below_drewN ?_ _) | (with_reducible refine bel_put ?_ (by first | exact Nat.le_refl _ | (simp; done) | (simp; omega)) _))))).mono ?_
              rintro e w2 ⟨v1, rfl, hO1, hb1⟩
              rw [HL1.out] at hO1
              obtain ⟨A5, c5, rfl, _, hI5, _⟩ := hO1.ints
              have hs2 : Below wr.heap.size wr w2 := bel_trans (by repeat (first | (with_reducible exact Below.refl _ _) | (with_reducible assumption) | (with_reducible refine bel_alloc ?_ _) | (with_reducible refine bel_drew ?_) | (with_reducible refine below_drewN ?_ _) | (with_reducible refine bel_put ?_ (by first | exact Nat.le_refl _ | (simp; done) | (simp; omega)) _))) hb1
              have hc1 : ∀ W, Below w2.heap.size w2 W → (convert 22 9 (.slice A5 L1.length c5)).run Try.prog W = .ok (.string s1) W := fun W hW => by rw [← HS1.out]; exact conv_bytesQ (reach hI5 hW) c5 22 5 9 Try.underlying22 Try.underlying5 Try.underlying9
              go_wp2_with fail
              refine hK.out _ _ (by exact ⟨cell_bel hs2 d0, cell_bel hs2 d1, cell_bel hs2 e0, cell_bel hs2 e1, cell_bel hs2 e2, cell_bel hs2 e3, cell_bel hs2 f0, cell_bel hs2 f1, cell_bel hs2 f2, cell_bel hs2 f3⟩) (fun hHeld => ?_)
              clear hK K
              (try simp only [Act.put, List.setIfInBounds_toArray, List.set_cons_zero, List.set_cons_succ])
              refine wpAnyH_ready (rs := [10, 12]) (by kernel_rfl) (by simp) ?_
              refine AllReadyH.cons rfl (fun K hK => ?_) ?_
              · have hcv := hc1 w2 (Below.refl _ _)
                go_simp
                refine hK.out _ _ (by exact ⟨cell_bel hs2 d0, cell_bel hs2 d1, cell_bel hs2 e0, cell_bel hs2 e1, cell_bel hs2 e2, cell_bel hs2 e3, cell_bel hs2 f0, cell_bel hs2 f1, cell_bel hs2 f2, cell_bel hs2 f3⟩) (fun hHeld => ?_)
                clear hK K
                (try simp only [Act.put, List.setIfInBounds_toArray, List.set_cons_zero, List.set_cons_succ])
                refine wpAnyH_ready (rs := [12]) (by kernel_rfl) (by simp) ?_
                refine AllReadyH.cons rfl (fun K hK => ?_) ?_
                · go_simp
                  go_at_call 73
                  refine (s_l4bytes HQB.out.1 HQB.out.2.1 HQB.out.2.2 (by omega) (reach (reach (reach hI7 hB) hs2) (by repeat (first | (with_reducible exact Below.refl _ _) | (with_reducible assumption) | (with_reducible refine bel_alloc ?_ _) | (with_reducible refine bel_drew ?_) | (with_reducible refine below_drewN ?_ _) | (with_reducible refine bel_put ?_ (by first | exact Nat.le_refl _ | (simp; done) | (simp; omega)) _))))).mono ?_
                  rintro e w3 ⟨v2, rfl, hO2, hb2⟩
                  rw [HL2.out] at hO2
                  obtain ⟨A6, c6, rfl, _, hI6, _⟩ := hO2.ints
                  have hs23 : Below w2.heap.size w2 w3 := bel_trans (by repeat (first | (with_reducible exact Below.refl _ _) | (with_reducible assumption) | (with_reducible refine bel_alloc ?_ _) | (with_reducible refine bel_drew ?_) | (with_reducible refine below_drewN ?_ _) | (with_reducible refine bel_put ?_ (by first | exact Nat.le_refl _ | (simp; done) | (simp; omega)) _))) hb2
                  have hs3 := bel_trans hs2 hs23
                  have hc2 : ∀ W, Below w3.heap.size w3 W → (convert 22 9 (.slice A6 L2.length c6)).run Try.prog W = .ok (.string s2) W := fun W hW => by rw [← HS2.out]; exact conv_bytesQ (reach hI6 hW) c6 22 5 9 Try.underlying22 Try.underlying5 Try.underlying9
                  go_wp2_with fail
                  refine hK.out _ _ (by exact ⟨cell_bel hs3 d0, cell_bel hs3 d1, cell_bel hs3 e0, cell_bel hs3 e1, cell_bel hs3 e2, cell_bel hs3 e3, cell_bel hs3 f0, cell_bel hs3 f1, cell_bel hs3 f2, cell_bel hs3 f3⟩) (fun hHeld => ?_)
                  clear hK K
                  (try simp only [Act.put, List.setIfInBounds_toArray, List.set_cons_zero, List.set_cons_succ])
                  refine wpAnyH_ready (rs := [13]) (by kernel_rfl) (by simp) ?_
                  refine AllReadyH.cons rfl (fun K hK => ?_) ?_
                  · have hcw := hc2 w3 (Below.refl _ _)
                    go_simp
                    refine hK.out _ _ (by exact ⟨cell_bel hs3 d0, cell_bel hs3 d1, cell_bel hs3 e0, cell_bel hs3 e1, cell_bel hs3 e2, cell_bel hs3 e3, cell_bel hs3 f0, cell_bel hs3 f1, cell_bel hs3 f2, cell_bel hs3 f3⟩) (fun hHeld => ?_)
                    clear hK K
                    (try simp only [Act.put, List.setIfInBounds_toArray, List.set_cons_zero, List.set_cons_succ])
                    refine wpAnyH_take (i := 14) (oi := ⟨some 47, _, _, _, _, _⟩) (v := ?v11) rfl (by kernel_rfl) (by kernel_rfl) (by kernel_rfl) (fun _ _ _ h => h) (Or.inl ⟨by rfl, ?hy11⟩) (by assumption) ?_
                    case hy11 => (intro w hSw; (try dsimp only at hSw); go_simp; try (with_reducible rfl))
                    (try simp only [Act.put, List.setIfInBounds_toArray, List.set_cons_zero, List.set_cons_succ])
                    refine wpAnyH_done (by kernel_rfl) ?_ _
                    go_wp2
                    go_ret
                    rw [HR.out]
                    exact ⟨by first | rfl | (simp; done), bel_trans hB hs3⟩
                  exact AllReadyH.nil
                exact AllReadyH.nil
              refine AllReadyH.cons rfl (fun K hK => ?_) ?_
              · go_simp
                go_at_call 73
                refine (s_l4bytes HQB.out.1 HQB.out.2.1 HQB.out.2.2 (by omega) (reach (reach (reach hI7 hB) hs2) (by repeat (first | (with_reducible exact Below.refl _ _) | (with_reducible assumption) | (with_reducible refine bel_alloc ?_ _) | (with_reducible refine bel_drew ?_) | (with_reducible refine below_drewN ?_ _) | (with_reducible refine bel_put ?_ (by first | exact Nat.le_refl _ | (simp; done) | (simp; omega)) _))))).mono ?_
                rintro e w3 ⟨v2, rfl, hO2, hb2⟩
                rw [HL2.out] at hO2
                obtain ⟨A6, c6, rfl, _, hI6, _⟩ := hO2.ints
                have hs23 : Below w2.heap.size w2 w3 := bel_trans (by repeat (first | (with_reducible exact Below.refl _ _) | (with_reducible assumption) | (with_reducible refine bel_alloc ?_ _) | (with_reducible refine bel_drew ?_) | (with_reducible refine below_drewN ?_ _) | (with_reducible refine bel_put ?_ (by first | exact Nat.le_refl _ | (simp; done) | (simp; omega)) _))) hb2
                have hs3 := bel_trans hs2 hs23
                have hc2 : ∀ W, Below w3.heap.size w3 W → (convert 22 9 (.slice A6 L2.length c6)).run Try.prog W = .ok (.string s2) W := fun W hW => by rw [← HS2.out]; exact conv_bytesQ (reach hI6 hW) c6 22 5 9 Try.underlying22 Try.underlying5 Try.underlying9
                go_wp2_with fail
                refine hK.out _ _ (by exact ⟨cell_bel hs3 d0, cell_bel hs3 d1, cell_bel hs3 e0, cell_bel hs3 e1, cell_bel hs3 e2, cell_bel hs3 e3, cell_bel hs3 f0, cell_bel hs3 f1, cell_bel hs3 f2, cell_bel hs3 f3⟩) (fun hHeld => ?_)
                clear hK K
                (try simp only [Act.put, List.setIfInBounds_toArray, List.set_cons_zero, List.set_cons_succ])
                refine wpAnyH_ready (rs := [10, 13]) (by kernel_rfl) (by simp) ?_
                refine AllReadyH.cons rfl (fun K hK => ?_) ?_
                · have hcv := hc1 w3 hs23
                  go_simp
                  refine hK.out _ _ (by exact ⟨cell_bel hs3 d0, cell_bel hs3 d1, cell_bel hs3 e0, cell_bel hs3 e1, cell_bel hs3 e2, cell_bel hs3 e3, cell_bel hs3 f0, cell_bel hs3 f1, cell_bel hs3 f2, cell_bel hs3 f3⟩) (fun hHeld => ?_)
                  clear hK K
                  (try simp only [Act.put, List.setIfInBounds_toArray, List.set_cons_zero, List.set_cons_succ])
                  refine wpAnyH_ready (rs := [13]) (by kernel_rfl) (by simp) ?_
                  refine AllReadyH.cons rfl (fun K hK => ?_) ?_
                  · have hcw := hc2 w3 (Below.refl _ _)
                    go_simp
                    refine hK.out _ _ (by exact ⟨cell_bel hs3 d0, cell_bel hs3 d1, cell_bel hs3 e0, cell_bel hs3 e1, cell_bel hs3 e2, cell_bel hs3 e3, cell_bel hs3 f0, cell_bel hs3 f1, cell_bel hs3 f2, cell_bel hs3 f3⟩) (fun hHeld => ?_)
                    clear hK K
                    (try simp only [Act.put, List.setIfInBounds_toArray, List.set_cons_zero, List.set_cons_succ])
                    refine wpAnyH_take (i := 14) (oi := ⟨some 47, _, _, _, _, _⟩) (v := ?v12) rfl (by kernel_rfl) (by kernel_rfl) (by kernel_rfl) (fun _ _ _ h => h) (Or.inl ⟨by rfl, ?hy12⟩) (by assumption) ?_
                    case hy12 => (intro w hSw; (try dsimp only at hSw); go_simp; try (with_reducible rfl))
                    (try simp only [Act.put, List.setIfInBounds_toArray, List.set_cons_zero, List.set_cons_succ])
                    refine wpAnyH_done (by kernel_rfl) ?_ _
                    go_wp2
                    go_ret
                    rw [HR.out]
                    exact ⟨by first | rfl | (simp; done), bel_trans hB hs3⟩
                  exact AllReadyH.nil
                refine AllReadyH.cons rfl (fun K hK => ?_) ?_
                · have hcw := hc2 w3 (Below.refl _ _)
                  go_simp
                  refine hK.out _ _ (by exact ⟨cell_bel hs3 d0, cell_bel hs3 d1, cell_bel hs3 e0, cell_bel hs3 e1, cell_bel hs3 e2, cell_bel hs3 e3, cell_bel hs3 f0, cell_bel hs3 f1, cell_bel hs3 f2, cell_bel hs3 f3⟩) (fun hHeld => ?_)
                  clear hK K
                  (try simp only [Act.put, List.setIfInBounds_toArray, List.set_cons_zero, List.set_cons_succ])
                  refine wpAnyH_ready (rs := [10]) (by kernel_rfl) (by simp) ?_
                  refine AllReadyH.cons rfl (fun K hK => ?_) ?_
                  · have hcv := hc1 w3 hs23
                    go_simp
                    refine hK.out _ _ (by exact ⟨cell_bel hs3 d0, cell_bel hs3 d1, cell_bel hs3 e0, cell_bel hs3 e1, cell_bel hs3 e2, cell_bel hs3 e3, cell_bel hs3 f0, cell_bel hs3 f1, cell_bel hs3 f2, cell_bel hs3 f3⟩) (fun hHeld => ?_)
                    clear hK K
                    (try simp only [Act.put, List.setIfInBounds_toArray, List.set_cons_zero, List.set_cons_succ])
                    refine wpAnyH_take (i := 14) (oi := ⟨some 47, _, _, _, _, _⟩) (v := ?v13) rfl (by kernel_rfl) (by kernel_rfl) (by kernel_rfl) (fun _ _ _ h => h) (Or.inl ⟨by rfl, ?hy13⟩) (by assumption) ?_
                    case hy13 => (intro w hSw; (try dsimp only at hSw); go_simp; try (with_reducible rfl))
                    (try simp only [Act.put, List.setIfInBounds_toArray, List.set_cons_zero, List.set_cons_succ])
                    refine wpAnyH_done (by kernel_rfl) ?_ _
                    go_wp2
                    go_ret
                    rw [HR.out]
                    exact ⟨by first | rfl | (simp; done), bel_trans hB hs3⟩
                  exact AllReadyH.nil
                exact AllReadyH.nil
              exact AllReadyH.nil
            exact AllReadyH.nil
          · rw [decide_eq_false hxq] at hcmp
            have HNX := Lib.hid (HSN.out hxq)
            clear hxq
            go_wp2_with fail
            refine wp_region_held_drew (S := (fun w' => w'.cell? ⟨w.heap.size, 0, none⟩ = some (.slice (some ⟨b', off, none⟩) n0 c0) ∧ w'.cell? ⟨b', off + j * 4 + 3, none⟩ = some (.slice (some ⟨b3, off3, none⟩) n2 c2) ∧ w'.cell? ⟨b3, off3 + k * 4, none⟩ = some (.int .i64 x.1) ∧ w'.cell? ⟨b3, off3 + k * 4 + 1, none⟩ = some (.int .i64 x.2.1) ∧ w'.cell? ⟨b3, off3 + k * 4 + 2, none⟩ = some (.int .i64 x.2.2.1) ∧ w'.cell? ⟨b3, off3 + k * 4 + 3, none⟩ = some (.slice A4 n4 c4) ∧ w'.cell? ⟨w.heap.size + 1, 0, none⟩ = some (.int .i64 q.1) ∧ w'.cell? ⟨w.heap.size + 1, 1, none⟩ = some (.int .i64 q.2.1) ∧ w'.cell? ⟨w.heap.size + 1, 2, none⟩ = some (.int .i64 q.2.2.1) ∧ w'.cell? ⟨w.heap.size + 1, 3, none⟩ = some (.slice A7 n7 c7))) (by kernel_rfl) (by exact ⟨d0, d1, e0, e1, e2, e3, f0, f1, f2, f3⟩) (fun hHeld => ?_)
            refine wpAnyH_take (i := 0) (oi := ⟨some 33, _, _, _, _, _⟩) (v := ?v14) rfl (by kernel_rfl) (by kernel_rfl) (by kernel_rfl) (fun _ _ _ h => h) (Or.inl ⟨by rfl, ?hy14⟩) (by assumption) ?_
            case hy14 => (intro w hSw; (try dsimp only at hSw); go_simp; try (with_reducible rfl))
            (try simp only [Act.put, List.setIfInBounds_toArray, List.set_cons_zero, List.set_cons_succ])
            refine wpAnyH_take (i := 1) (oi := ⟨some 34, _, _, _, _, _⟩) (v := ?v15) rfl (by kernel_rfl) (by kernel_rfl) (by kernel_rfl) (fun _ _ _ h => h) (Or.inl ⟨by rfl, ?hy15⟩) (by assumption) ?_
            case hy15 => (intro w hSw; (try dsimp only at hSw); go_simp; try (with_reducible rfl))
            (try simp only [Act.put, List.setIfInBounds_toArray, List.set_cons_zero, List.set_cons_succ])
            refine wpAnyH_take (i := 2) (oi := ⟨some 35, _, _, _, _, _⟩) (v := ?v16) rfl (by kernel_rfl) (by kernel_rfl) (by kernel_rfl) (fun _ _ _ h => h) (Or.inl ⟨by rfl, ?hy16⟩) (by assumption) ?_
            case hy16 => (intro w hSw; (try dsimp only at hSw); go_simp; try (with_reducible rfl))
            (try simp only [Act.put, List.setIfInBounds_toArray, List.set_cons_zero, List.set_cons_succ])
            refine wpAnyH_take (i := 3) (oi := ⟨some 36, _, _, _, _, _⟩) (v := ?v17) rfl (by kernel_rfl) (by kernel_rfl) (by kernel_rfl) (fun _ _ _ h => h) (Or.inl ⟨by rfl, ?hy17⟩) (by assumption) ?_
            case hy17 => (intro w hSw; (try dsimp only at hSw); go_simp; try (with_reducible rfl))
            (try simp only [Act.put, List.setIfInBounds_toArray, List.set_cons_zero, List.set_cons_succ])
            refine wpAnyH_take (i := 4) (oi := ⟨some 37, _, _, _, _, _⟩) (v := ?v18) rfl (by kernel_rfl) (by kernel_rfl) (by kernel_rfl) (fun _ _ _ h => h) (Or.inl ⟨by rfl, ?hy18⟩) (by assumption) ?_
            case hy18 => (intro w hSw; (try dsimp only at hSw); go_simp; try (with_reducible rfl))
            (try simp only [Act.put, List.setIfInBounds_toArray, List.set_cons_zero, List.set_cons_succ])
            refine wpAnyH_take (i := 5) (oi := ⟨some 38, _, _, _, _, _⟩) (v := ?v19) rfl (by kernel_rfl) (by kernel_rfl) (by kernel_rfl) (fun _ _ _ h => h) (Or.inl ⟨by rfl, ?hy19⟩) (by assumption) ?_
            case hy19 => (intro w hSw; (try dsimp only at hSw); go_simp; try (with_reducible rfl))
            (try simp only [Act.put, List.setIfInBounds_toArray, List.set_cons_zero, List.set_cons_succ])
            refine wpAnyH_take (i := 6) (oi := ⟨some 39, _, _, _, _, _⟩) (v := ?v20) rfl (by kernel_rfl) (by kernel_rfl) (by kernel_rfl) (fun _ _ _ h => h) (Or.inl ⟨by rfl, ?hy20⟩) (by assumption) ?_
            case hy20 => (intro w hSw; (try dsimp only at hSw); go_simp; try (with_reducible rfl))
            (try simp only [Act.put, List.setIfInBounds_toArray, List.set_cons_zero, List.set_cons_succ])
            refine wpAnyH_take (i := 7) (oi := ⟨some 40, _, _, _, _, _⟩) (v := ?v21) rfl (by kernel_rfl) (by kernel_rfl) (by kernel_rfl) (fun _ _ _ h => h) (Or.inl ⟨by rfl, ?hy21⟩) (by assumption) ?_
            case hy21 => (intro w hSw; (try dsimp only at hSw); go_simp; try (with_reducible rfl))
            (try simp only [Act.put, List.setIfInBounds_toArray, List.set_cons_zero, List.set_cons_succ])
            refine wpAnyH_take (i := 8) (oi := ⟨some 41, _, _, _, _, _⟩) (v := ?v22) rfl (by kernel_rfl) (by kernel_rfl) (by kernel_rfl) (fun _ _ _ h => h) (Or.inl ⟨by rfl, ?hy22⟩) (by assumption) ?_
            case hy22 => (intro w hSw; (try dsimp only at hSw); go_simp; try (with_reducible rfl))
            (try simp only [Act.put, List.setIfInBounds_toArray, List.set_cons_zero, List.set_cons_succ])
            refine wpAnyH_take (i := 11) (oi := ⟨some 44, _, _, _, _, _⟩) (v := ?v23) rfl (by kernel_rfl) (by kernel_rfl) (by kernel_rfl) (fun _ _ _ h => h) (Or.inl ⟨by rfl, ?hy23⟩) (by assumption) ?_
            case hy23 => (intro w hSw; (try dsimp only at hSw); go_simp; try (with_reducible rfl))
            (try simp only [Act.put, List.setIfInBounds_toArray, List.set_cons_zero, List.set_cons_succ])
            refine wpAnyH_ready (rs := [9]) (by kernel_rfl) (by simp) ?_
            refine AllReadyH.cons rfl (fun K hK => ?_) ?_
            · go_simp
              go_at_call 73
              refine (s_l4bytes HXB.out.1 HXB.out.2.1 HXB.out.2.2 (by omega) (reach (reach hI4 hB) (by repeat (first | (with_reducible exact Below.refl _ _) | (with_reducible assumption) | (with_reducible refine bel_alloc ?_ _) | (with_reducible refine bel_drew ?_) | (with_reducible refine below_drewN ?_ _) | (with_reducible refine bel_put ?_ (by first | exact Nat.le_refl _ | (simp; done) | (simp; omega)) _))))).mono ?_
              rintro e w2 ⟨v1, rfl, hO1, hb1⟩
              rw [HL1.out] at hO1
              obtain ⟨A5, c5, rfl, _, hI5, _⟩ := hO1.ints
              have hs2 : Below wr.heap.size wr w2 := bel_trans (by repeat (first | (with_reducible exact Below.refl _ _) | (with_reducible assumption) | (with_reducible refine bel_alloc ?_ _) | (with_reducible refine bel_drew ?_) | (with_reducible refine below_drewN ?_ _) | (with_reducible refine bel_put ?_ (by first | exact Nat.le_refl _ | (simp; done) | (simp; omega)) _))) hb1
              have hc1 : ∀ W, Below w2.heap.size w2 W → (convert 22 9 (.slice A5 L1.length c5)).run Try.prog W = .ok (.string s1) W := fun W hW => by rw [← HS1.out]; exact conv_bytesQ (reach hI5 hW) c5 22 5 9 Try.underlying22 Try.underlying5 Try.underlying9
              go_wp2_with fail
              refine hK.out _ _ (by exact ⟨cell_bel hs2 d0, cell_bel hs2 d1, cell_bel hs2 e0, cell_bel hs2 e1, cell_bel hs2 e2, cell_bel hs2 e3, cell_bel hs2 f0, cell_bel hs2 f1, cell_bel hs2 f2, cell_bel hs2 f3⟩) (fun hHeld => ?_)
              clear hK K
              (try simp only [Act.put, List.setIfInBounds_toArray, List.set_cons_zero, List.set_cons_succ])
              refine wpAnyH_ready (rs := [10, 12]) (by kernel_rfl) (by simp) ?_
              refine AllReadyH.cons rfl (fun K hK => ?_) ?_
              · have hcv := hc1 w2 (Below.refl _ _)
                go_simp
                refine hK.out _ _ (by exact ⟨cell_bel hs2 d0, cell_bel hs2 d1, cell_bel hs2 e0, cell_bel hs2 e1, cell_bel hs2 e2, cell_bel hs2 e3, cell_bel hs2 f0, cell_bel hs2 f1, cell_bel hs2 f2, cell_bel hs2 f3⟩) (fun hHeld => ?_)
                clear hK K
                (try simp only [Act.put, List.setIfInBounds_toArray, List.set_cons_zero, List.set_cons_succ])
                refine wpAnyH_ready (rs := [12]) (by kernel_rfl) (by simp) ?_
                refine AllReadyH.cons rfl (fun K hK => ?_) ?_
                · go_simp
                  go_at_call 73
                  refine (s_l4bytes HQB.out.1 HQB.out.2.1 HQB.out.2.2 (by omega) (reach (reach (reach hI7 hB) hs2) (by repeat (first | (with_reducible exact Below.refl _ _) | (with_reducible assumption) | (with_reducible refine bel_alloc ?_ _) | (with_reducible refine bel_drew ?_) | (with_reducible refine below_drewN ?_ _) | (with_reducible refine bel_put ?_ (by first | exact Nat.le_refl _ | (simp; done) | (simp; omega)) _))))).mono ?_
                  rintro e w3 ⟨v2, rfl, hO2, hb2⟩
                  rw [HL2.out] at hO2
                  obtain ⟨A6, c6, rfl, _, hI6, _⟩ := hO2.ints
                  have hs23 : Below w2.heap.size w2 w3 := bel_trans (by repeat (first | (with_reducible exact Below.refl _ _) | (with_reducible assumption) | (with_reducible refine bel_alloc ?_ _) | (with_reducible refine bel_drew ?_) | (with_reducible refine below_drewN ?_ _) | (with_reducible refine bel_put ?_ (by first | exact Nat.le_refl _ | (simp; done) | (simp; omega)) _))) hb2
                  have hs3 := bel_trans hs2 hs23
                  have hc2 : ∀ W, Below w3.heap.size w3 W → (convert 22 9 (.slice A6 L2.length c6)).run Try.prog W = .ok (.string s2) W := fun W hW => by rw [← HS2.out]; exact conv_bytesQ (reach hI6 hW) c6 22 5 9 Try.underlying22 Try.underlying5 Try.underlying9
                  go_wp2_with fail
                  refine hK.out _ _ (by exact ⟨cell_bel hs3 d0, cell_bel hs3 d1, cell_bel hs3 e0, cell_bel hs3 e1, cell_bel hs3 e2, cell_bel hs3 e3, cell_bel hs3 f0, cell_bel hs3 f1, cell_bel hs3 f2, cell_bel hs3 f3⟩) (fun hHeld => ?_)
                  clear hK K
                  (try simp only [Act.put, List.setIfInBounds_toArray, List.set_cons_zero, List.set_cons_succ])
                  refine wpAnyH_ready (rs := [13]) (by kernel_rfl) (by simp) ?_
                  refine AllReadyH.cons rfl (fun K hK => ?_) ?_
                  · have hcw := hc2 w3 (Below.refl _ _)
                    go_simp
                    refine hK.out _ _ (by exact ⟨cell_bel hs3 d0, cell_bel hs3 d1, cell_bel hs3 e0, cell_bel hs3 e1, cell_bel hs3 e2, cell_bel hs3 e3, cell_bel hs3 f0, cell_bel hs3 f1, cell_bel hs3 f2, cell_bel hs3 f3⟩) (fun hHeld => ?_)
                    clear hK K
                    (try simp only [Act.put, List.setIfInBounds_toArray, List.set_cons_zero, List.set_cons_succ])
                    refine wpAnyH_take (i := 14) (oi := ⟨some 47, _, _, _, _, _⟩) (v := ?v24) rfl (by kernel_rfl) (by kernel_rfl) (by kernel_rfl) (fun _ _ _ h => h) (Or.inl ⟨by rfl, ?hy24⟩) (by assumption) ?_
                    case hy24 => (intro w hSw; (try dsimp only at hSw); go_simp; try (with_reducible rfl))
                    (try simp only [Act.put, List.setIfInBounds_toArray, List.set_cons_zero, List.set_cons_succ])
                    refine wpAnyH_done (by kernel_rfl) ?_ _
                    go_wp2
                    go_roundw
                    case rel => exact ⟨k + 1, by omega, by go_num, fun y hy => HNX.out y hy, by first | exact bel_trans hBX hs3 | exact bel_drew (bel_trans hBX hs3), by first | exact bel_trans hB hs3 | exact bel_drew (bel_trans hB hs3)⟩
                    case measure => simp [ixOf]; omega
                  exact AllReadyH.nil
                exact AllReadyH.nil
              refine AllReadyH.cons rfl (fun K hK => ?_) ?_
              · go_simp
                go_at_call 73
                refine (s_l4bytes HQB.out.1 HQB.out.2.1 HQB.out.2.2 (by omega) (reach (reach (reach hI7 hB) hs2) (by repeat (first | (with_reducible exact Below.refl _ _) | (with_reducible assumption) | (with_reducible refine bel_alloc ?_ _) | (with_reducible refine bel_drew ?_) | (with_reducible refine below_drewN ?_ _) | (with_reducible refine bel_put ?_ (by first | exact Nat.le_refl _ | (simp; done) | (simp; omega)) _))))).mono ?_
                rintro e w3 ⟨v2, rfl, hO2, hb2⟩
                rw [HL2.out] at hO2
                obtain ⟨A6, c6, rfl, _, hI6, _⟩ := hO2.ints
                have hs23 : Below w2.heap.size w2 w3 := bel_trans (by repeat (first | (with_reducible exact Below.refl _ _) | (with_reducible assumption) | (with_reducible refine bel_alloc ?_ _) | (with_reducible refine bel_drew ?_) | (with_reducible refine below_drewN ?_ _) | (with_reducible refine bel_put ?_ (by first | exact Nat.le_refl _ | (simp; done) | (simp; omega)) _))) hb2
                have hs3 := bel_trans hs2 hs23
                have hc2 : ∀ W, Below w3.heap.size w3 W → (convert 22 9 (.slice A6 L2.length c6)).run Try.prog W = .ok (.string s2) W := fun W hW => by rw [← HS2.out]; exact conv_bytesQ (reach hI6 hW) c6 22 5 9 Try.underlying22 Try.underlying5 Try.underlying9
                go_wp2_with fail
                refine hK.out _ _ (by exact ⟨cell_bel hs3 d0, cell_bel hs3 d1, cell_bel hs3 e0, cell_bel hs3 e1, cell_bel hs3 e2, cell_bel hs3 e3, cell_bel hs3 f0, cell_bel hs3 f1, cell_bel hs3 f2, cell_bel hs3 f3⟩) (fun hHeld => ?_)
                clear hK K
                (try simp only [Act.put, List.setIfInBounds_toArray, List.set_cons_zero, List.set_cons_succ])
                refine wpAnyH_ready (rs := [10, 13]) (by kernel_rfl) (by simp) ?_
                refine AllReadyH.cons rfl (fun K hK => ?_) ?_
                · have hcv := hc1 w3 hs23
                  go_simp
                  refine hK.out _ _ (by exact ⟨cell_bel hs3 d0, cell_bel hs3 d1, cell_bel hs3 e0, cell_bel hs3 e1, cell_bel hs3 e2, cell_bel hs3 e3, cell_bel hs3 f0, cell_bel hs3 f1, cell_bel hs3 f2, cell_bel hs3 f3⟩) (fun hHeld => ?_)
                  clear hK K
                  (try simp only [Act.put, List.setIfInBounds_toArray, List.set_cons_zero, List.set_cons_succ])
                  refine wpAnyH_ready (rs := [13]) (by kernel_rfl) (by simp) ?_
                  refine AllReadyH.cons rfl (fun K hK => ?_) ?_
                  · have hcw := hc2 w3 (Below.refl _ _)
                    go_simp
                    refine hK.out _ _ (by exact ⟨cell_bel hs3 d0, cell_bel hs3 d1, cell_bel hs3 e0, cell_bel hs3 e1, cell_bel hs3 e2, cell_bel hs3 e3, cell_bel hs3 f0, cell_bel hs3 f1, cell_bel hs3 f2, cell_bel hs3 f3⟩) (fun hHeld => ?_)
                    clear hK K
                    (try simp only [Act.put, List.setIfInBounds_toArray, List.set_cons_zero, List.set_cons_succ])
                    refine wpAnyH_take (i := 14) (oi := ⟨some 47, _, _, _, _, _⟩) (v := ?v25) rfl (by kernel_rfl) (by kernel_rfl) (by kernel_rfl) (fun _ _ _ h => h) (Or.inl ⟨by rfl, ?hy25⟩) (by assumption) ?_
                    case hy25 => (intro w hSw; (try dsimp only at hSw); go_simp; try (with_reducible rfl))
                    (try simp only [Act.put, List.setIfInBounds_toArray, List.set_cons_zero, List.set_cons_succ])
                    refine wpAnyH_done (by kernel_rfl) ?_ _
                    go_wp2
                    go_roundw
                    case rel => exact ⟨k + 1, by omega, by go_num, fun y hy => HNX.out y hy, by first | exact bel_trans hBX hs3 | exact bel_drew (bel_trans hBX hs3), by first | exact bel_trans hB hs3 | exact bel_drew (bel_trans hB hs3)⟩
                    case measure => simp [ixOf]; omega
                  exact AllReadyH.nil
                refine AllReadyH.cons rfl (fun K hK => ?_) ?_
                · have hcw := hc2 w3 (Below.refl _ _)
                  go_simp
                  refine hK.out _ _ (by exact ⟨cell_bel hs3 d0, cell_bel hs3 d1, cell_bel hs3 e0, cell_bel hs3 e1, cell_bel hs3 e2, cell_bel hs3 e3, cell_bel hs3 f0, cell_bel hs3 f1, cell_bel hs3 f2, cell_bel hs3 f3⟩) (fun hHeld => ?_)
                  clear hK K
                  (try simp only [Act.put, List.setIfInBounds_toArray, List.set_cons_zero, List.set_cons_succ])
                  refine wpAnyH_ready (rs := [10]) (by kernel_rfl) (by simp) ?_
                  refine AllReadyH.cons rfl (fun K hK => ?_) ?_
                  · have hcv := hc1 w3 hs23
                    go_simp
                    refine hK.out _ _ (by exact ⟨cell_bel hs3 d0, cell_bel hs3 d1, cell_bel hs3 e0, cell_bel hs3 e1, cell_bel hs3 e2, cell_bel hs3 e3, cell_bel hs3 f0, cell_bel hs3 f1, cell_bel hs3 f2, cell_bel hs3 f3⟩) (fun hHeld => ?_)
                    clear hK K
                    (try simp only [Act.put, List.setIfInBounds_toArray, List.set_cons_zero, List.set_cons_succ])
                    refine wpAnyH_take (i := 14) (oi := ⟨some 47, _, _, _, _, _⟩) (v := ?v26) rfl (by kernel_rfl) (by kernel_rfl) (by kernel_rfl) (fun _ _ _ h => h) (Or.inl ⟨by rfl, ?hy26⟩) (by assumption) ?_
                    case hy26 => (intro w hSw; (try dsimp only at hSw); go_simp; try (with_reducible rfl))
                    (try simp only [Act.put, List.setIfInBounds_toArray, List.set_cons_zero, List.set_cons_succ])
                    refine wpAnyH_done (by kernel_rfl) ?_ _
                    go_wp2
                    go_roundw
                    case rel => exact ⟨k + 1, by omega, by go_num, fun y hy => HNX.out y hy, by first | exact bel_trans hBX hs3 | exact bel_drew (bel_trans hBX hs3), by first | exact bel_trans hB hs3 | exact bel_drew (bel_trans hB hs3)⟩
                    case measure => simp [ixOf]; omega
                  exact AllReadyH.nil
                exact AllReadyH.nil
              exact AllReadyH.nil
            exact AllReadyH.nil
        · obtain rfl : k = n2 := by omega
          have q2 : ¬ (k : Int) < (k : Int) := by omega
          have HNA := Lib.hid (show ∀ c ∈ p.1.take (j + 1), ∀ y ∈ c.2.2.2, y ≠ q from fun c hc => by
            rw [HTk.out] at hc
            rcases List.mem_append.1 hc with h' | h'
            · exact HNO.out c h'
            · rw [List.mem_singleton] at h'
              rw [h']
              have := HNY.out
              rwa [List.take_of_length_le (Nat.le_of_eq HL3.out)] at this)
          go_wp2
          go_roundw
          case rel => exact ⟨j + 1, by omega, by go_num, HNA.out, hBX, hB⟩
          case measure => simp [ixOf]; omega
    · obtain rfl : j = n0 := by omega
      have HR := Lib.hid (fHas_f (p := p) (q := q) fun hh => by
        obtain ⟨-, -, c, hc, hqc⟩ := hh
        exact HNO.out c (by rw [List.take_of_length_le (Nat.le_of_eq E0.out)]; exact hc) q hqc rfl)
      have q1 : ¬ (j : Int) < (j : Int) := by omega
      go_wp2
      go_ret
      rw [HR.out]
      exact ⟨rfl, hB⟩
theorem s_Has {w : World} {cs ch : List Value} {p : DDesk} {q : DPiece} (h : tDesk.R w w.heap.size cs p) (hz : szDesk p ≤ 1048576) (hq : tPiece.R w w.heap.size ch q) (hz2 : szPiece q ≤ 1048576) :
    Calls Try.prog 35 #[.agg cs.toArray, .agg ch.toArray] w fun e w' => e = .returned (.bool (fHas p q)) ∧ Below w.heap.size w w' := by
  by_cases hp : DkOk p
  · by_cases hpc : PcOk q
    · exact s_Has_t h hz hq hz2 hp hpc
    · have HP := Lib.hid (decide_eq_true hp)
      have HPC := Lib.hid (decide_eq_false hpc)
      have HF := Lib.hid (fHas_f (p := p) (q := q) fun hh => hpc hh.2.1)
      obtain ⟨A0, n0, c0, A1, n1, c1, rfl, -⟩ := openDesk h
      have hq' := hq
      obtain ⟨A7, n7, c7, rfl, -⟩ := openPiece hq'
      clear hq' hp hpc
      rw [HF.out]
      have hk : ∀ W, Below ((w.alloc (.cells #[.slice A0 n0 c0, .slice A1 n1 c1] 61)).alloc (.cells #[.int .i64 q.1, .int .i64 q.2.1, .int .i64 q.2.2.1, .slice A7 n7 c7] 63)).heap.size ((w.alloc (.cells #[.slice A0 n0 c0, .slice A1 n1 c1] 61)).alloc (.cells #[.int .i64 q.1, .int .i64 q.2.1, .int .i64 q.2.2.1, .slice A7 n7 c7] 63)) W → (fun w' => w'.cell? ⟨w.heap.size, 0, none⟩ = some (.slice A0 n0 c0) ∧ w'.cell? ⟨w.heap.size, 1, none⟩ = some (.slice A1 n1 c1) ∧ w'.cell? ⟨w.heap.size + 1, 0, none⟩ = some (.int .i64 q.1) ∧ w'.cell? ⟨w.heap.size + 1, 1, none⟩ = some (.int .i64 q.2.1) ∧ w'.cell? ⟨w.heap.size + 1, 2, none⟩ = some (.int .i64 q.2.2.1) ∧ w'.cell? ⟨w.heap.size + 1, 3, none⟩ = some (.slice A7 n7 c7)) W := fun W hW => by
        have b1 : Box W w.heap.size 61 #[.slice A0 n0 c0, .slice A1 n1 c1] := ((Box.new w _ _).alloc _).below hW (by simp; omega)
        have b2 : Box W (w.heap.size + 1) 63 #[.int .i64 q.1, .int .i64 q.2.1, .int .i64 q.2.2.1, .slice A7 n7 c7] := Box.below (by simpa using Box.new (w.alloc (.cells #[.slice A0 n0 c0, .slice A1 n1 c1] 61)) 63 #[.int .i64 q.1, .int .i64 q.2.1, .int .i64 q.2.2.1, .slice A7 n7 c7]) hW (by simp)
        exact ⟨b1.cell 0, b1.cell 1, b2.cell 0, b2.cell 1, b2.cell 2, b2.cell 3⟩
      have hX0 : Below w.heap.size w ((w.alloc (.cells #[.slice A0 n0 c0, .slice A1 n1 c1] 61)).alloc (.cells #[.int .i64 q.1, .int .i64 q.2.1, .int .i64 q.2.2.1, .slice A7 n7 c7] 63)) := (by repeat (first | (with_reducible exact Below.refl _ _) | (with_reducible assumption) | (with_reducible refine bel_alloc ?_ _) | (with_reducible refine bel_drew ?_) | (with_reducible refine below_drewN ?_ _) | (with_reducible refine bel_put ?_ (by first | exact Nat.le_refl _ | (simp; done) | (simp; omega)) _)))
      go_enter Try.func35, Try.ntmps35
      go_wp2_with fail
      refine (s_DeskOk (tDesk.reach h ?hB) hz).mono ?_
      case hB => exact (by repeat (first | (with_reducible exact Below.refl _ _) | (with_reducible assumption) | (with_reducible refine bel_alloc ?_ _) | (with_reducible refine bel_drew ?_) | (with_reducible refine below_drewN ?_ _) | (with_reducible refine bel_put ?_ (by first | exact Nat.le_refl _ | (simp; done) | (simp; omega)) _)))
      rintro e w1 ⟨rfl, hb1⟩
      rw [HP.out]
      have hs1 : Below ((w.alloc (.cells #[.slice A0 n0 c0, .slice A1 n1 c1] 61)).alloc (.cells #[.int .i64 q.1, .int .i64 q.2.1, .int .i64 q.2.2.1, .slice A7 n7 c7] 63)).heap.size ((w.alloc (.cells #[.slice A0 n0 c0, .slice A1 n1 c1] 61)).alloc (.cells #[.int .i64 q.1, .int .i64 q.2.1, .int .i64 q.2.2.1, .slice A7 n7 c7] 63)) w1 := hb1
      obtain ⟨k0, k1, k2, k3, k4, k5⟩ := hk _ hs1
      go_wp2_with fail
      refine (s_PieceOk (tPiece.reach (tPiece.reach hq (bel_trans hX0 hs1)) ?hB) hz2).mono ?_
      case hB => exact (by repeat (first | (with_reducible exact Below.refl _ _) | (with_reducible assumption) | (with_reducible refine bel_alloc ?_ _) | (with_reducible refine bel_drew ?_) | (with_reducible refine below_drewN ?_ _) | (with_reducible refine bel_put ?_ (by first | exact Nat.le_refl _ | (simp; done) | (simp; omega)) _)))
      rintro e w2 ⟨rfl, hb2⟩
      rw [HPC.out]
      go_wp2
      go_ret
      exact ⟨rfl, bel_trans hX0 (bel_trans hs1 (bel_trans (by repeat (first | (with_reducible exact Below.refl _ _) | (with_reducible assumption) | (with_reducible refine bel_alloc ?_ _) | (with_reducible refine bel_drew ?_) | (with_reducible refine below_drewN ?_ _) | (with_reducible refine bel_put ?_ (by first | exact Nat.le_refl _ | (simp; done) | (simp; omega)) _))) hb2))⟩
  · have HP := Lib.hid (decide_eq_false hp)
    have HF := Lib.hid (fHas_f (p := p) (q := q) fun hh => hp hh.1)
    obtain ⟨A0, n0, c0, A1, n1, c1, rfl, -⟩ := openDesk h
    have hq' := hq
    obtain ⟨A7, n7, c7, rfl, -⟩ := openPiece hq'
    clear hq' hp
    rw [HF.out]
    go_enter Try.func35, Try.ntmps35
    go_wp2_with fail
    refine (s_DeskOk (tDesk.reach h ?hB) hz).mono ?_
    case hB => exact (by repeat (first | (with_reducible exact Below.refl _ _) | (with_reducible assumption) | (with_reducible refine bel_alloc ?_ _) | (with_reducible refine bel_drew ?_) | (with_reducible refine below_drewN ?_ _) | (with_reducible refine bel_put ?_ (by first | exact Nat.le_refl _ | (simp; done) | (simp; omega)) _)))
    rintro e w1 ⟨rfl, hb1⟩
    rw [HP.out]
    go_wp2
    go_ret
    exact ⟨rfl, bel_trans (by repeat (first | (with_reducible exact Below.refl _ _) | (with_reducible assumption) | (with_reducible refine bel_alloc ?_ _) | (with_reducible refine bel_drew ?_) | (with_reducible refine below_drewN ?_ _) | (with_reducible refine bel_put ?_ (by first | exact Nat.le_refl _ | (simp; done) | (simp; omega)) _))) hb1⟩
end Go.Proofs.Ytpapkonejkdkhaa
