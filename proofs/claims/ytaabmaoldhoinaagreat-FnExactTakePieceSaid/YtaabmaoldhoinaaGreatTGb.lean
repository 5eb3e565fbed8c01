/-
  LWhole, LWholeS, LDesk, Sn, All, Cip, Grow, GrowM, GrowN, Ext, PHeld, PPool, PD5, PNil, POwn, PMv5, Op0, PPiece, PDk, PMisP: texts joined.
-/
import Derived.Test.YtaabmaoldhoinaaGreatTGa
import Derived.BigQuiet
import Derived.Deep.QuietTactic
import Derived.Deep.RegionHeld3
import Derived.Laws.BitsAllLaws
import Derived.Outline
import Derived.ScopeJumps
import Derived.WalkMore
namespace Go.Proofs.YtaabmaoldhoinaaGreat
set_option maxRecDepth 100000
set_option linter.unusedVariables false
set_option linter.unusedSimpArgs false
open Go.ChangeShapes Go.WideShapes Go.ChangeAt Go.RowKit
theorem o_szWhole_t {w : World} {cs : List Value} {p : DWhole} {k : Int} (h : tWhole.R w w.heap.size cs p) (h1 : 0 ≤ k) (h2 : k ≤ 1048576) (h3 : (szWhole p : Int) ≤ k) :
    Calls Tryz.prog 83 #[.agg cs.toArray, .int .i64 k] w fun e w' => e = .returned (.int .i64 (k - szWhole p)) ∧ Below w.heap.size w w' := by
  obtain ⟨A3, n3, c3, rfl, hi0, hi1, hi2, ha3, hb3, hl3, hr3⟩ := openWhole h
  obtain ⟨x0, x1, x2, r3⟩ := p
  try dsimp only [szWhole] at *
  subst hl3
  have d0 : decide (k - ((rsz szPiece r3 : Nat) : Int) < 0) = false := by simp; omega
  go_enter Tryz.func83, Tryz.ntmps83
  go_wp2_with fail
  refine (o_szPieceS_t (tPiece.row.reach hr3 ?hB) (by omega) (by omega) (by omega)).mono ?_
  case hB => exact (belx)
  rintro e w1 ⟨rfl, hb1⟩
  have hB1 : Below w.heap.size w w1 := bel_trans (belx) hb1
  have P1 : Box w1 w.heap.size 108 #[.int .i64 x0, .int .i64 x1, .int .i64 x2, .slice A3 r3.length c3] := (Box.new _ _ _).below hb1 (by first | (simp; done) | (simp; omega))
  go_wp2
  go_ret
  exact ⟨ret_int (by omega), hB1⟩
theorem o_szWhole_f {w : World} {cs : List Value} {p : DWhole} {k : Int} (h : tWhole.R w w.heap.size cs p) (h1 : 0 ≤ k) (h2 : k ≤ 1048576) (h3 : ¬ (szWhole p : Int) ≤ k) :
    Calls Tryz.prog 83 #[.agg cs.toArray, .int .i64 k] w fun e w' => e = .returned (.int .i64 (-1)) ∧ Below w.heap.size w w' := by
  obtain ⟨A3, n3, c3, rfl, hi0, hi1, hi2, ha3, hb3, hl3, hr3⟩ := openWhole h
  obtain ⟨x0, x1, x2, r3⟩ := p
  try dsimp only [szWhole] at *
  subst hl3
  go_enter Tryz.func83, Tryz.ntmps83
  go_wp2_with fail
  refine (o_szPieceS_f (tPiece.row.reach hr3 ?hB) (by omega) (by omega) (by omega)).mono ?_
  case hB => exact (belx)
  rintro e w1 ⟨rfl, hb1⟩
  have hB1 : Below w.heap.size w w1 := bel_trans (belx) hb1
  have P1 : Box w1 w.heap.size 108 #[.int .i64 x0, .int .i64 x1, .int .i64 x2, .slice A3 r3.length c3] := (Box.new _ _ _).below hb1 (by first | (simp; done) | (simp; omega))
  go_wp2
  go_ret
  exact ⟨rfl, hB1⟩
set_option maxHeartbeats 400000 in
theorem o_toWhole {w : World} {cs : List Value} {p : DWhole} (h : tWhole.R w w.heap.size cs p) (hn : szWhole p ≤ 1048576) :
    Calls Tryz.prog 88 #[.agg cs.toArray] w fun e w' => ∃ cs' F, e = .returned (.agg cs'.toArray) ∧ tWhole.O w' cs' p F ∧ New w.heap.size F ∧ Below w.heap.size w w' := by
  obtain ⟨A3, n3, c3, rfl, hi0, hi1, hi2, ha3, hb3, hl3, hr3⟩ := openWhole h
  obtain ⟨x0, x1, x2, r3⟩ := p
  try dsimp only [szWhole] at *
  subst hl3
  go_enter Tryz.func88, Tryz.ntmps88
  go_wp2_with fail
  refine (o_toPieceS (tPiece.row.reach hr3 ?hB) (by omega)).mono ?_
  case hB => exact (belx)
  rintro e w1 ⟨B3, d3, F3, rfl, o3, hN1, hb1⟩
  have z1 : w.heap.size + 3 ≤ w1.heap.size := by have := hb1.size; simpa using this
  have hB1 : Below w.heap.size w w1 := bel_trans (belx) hb1
  have R1 : Box w1 (w.heap.size + 1) 53 #[.int .i64 0, .int .i64 0, .int .i64 0, .slice none 0 0] := Box.below (Box.alloc (by simpa using Box.new (w.alloc _) 53 #[.int .i64 0, .int .i64 0, .int .i64 0, .slice none 0 0]) _) hb1 (by first | (simp; done) | (simp; omega))
  have L1 : Box w1 (w.heap.size + 1 + 1) 53 #[.int .i64 x0, .int .i64 x1, .int .i64 x2, .slice none 0 0] := Box.below (by simpa using Box.new ((w.alloc _).alloc _) 53 #[.int .i64 x0, .int .i64 x1, .int .i64 x2, .slice none 0 0]) hb1 (by first | (simp; done) | (simp; omega))
  have P1 : Box w1 w.heap.size 108 #[.int .i64 x0, .int .i64 x1, .int .i64 x2, .slice A3 r3.length c3] := Box.below (((Box.new w 108 #[.int .i64 x0, .int .i64 x1, .int .i64 x2, .slice A3 r3.length c3]).alloc _).alloc _) hb1 (by first | (simp; done) | (simp; omega))
  have hM1 : New (w.heap.size + 3) (F3) := hN1.lower (by simp)
  clear hN1
  have y1 : ∀ f ∈ F3, f < w1.heap.size := by intro f hf; exact tPiece.row.lt o3 f hf
  have kr1_0 := R1.cell 0; have fr1_0 := R1.frozen 0; have kl1_0 := L1.cell 0; have fl1_0 := L1.frozen 0; have kp1_0 := P1.cell 0
  have kr1_1 := R1.cell 1; have fr1_1 := R1.frozen 1; have kl1_1 := L1.cell 1; have fl1_1 := L1.frozen 1; have kp1_1 := P1.cell 1
  have kr1_2 := R1.cell 2; have fr1_2 := R1.frozen 2; have kl1_2 := L1.cell 2; have fl1_2 := L1.frozen 2; have kp1_2 := P1.cell 2
  have kr1_3 := R1.cell 3; have fr1_3 := R1.frozen 3; have kl1_3 := L1.cell 3; have fl1_3 := L1.frozen 3; have kp1_3 := P1.cell 3
  go_wp2
  have RR := (((((R1.far (p := ⟨w.heap.size + 1 + 1, 3, none⟩) (by first | (simp; done) | (simp; omega)) (.slice B3 r3.length d3)).put 0 (.int .i64 x0)).put 1 (.int .i64 x1)).put 2 (.int .i64 x2)).put 3 (.slice B3 r3.length d3))
  have e0 := RR.cell 0
  have e1 := RR.cell 1
  have e2 := RR.cell 2
  have e3 := RR.cell 3
  have u3 := (Ty.far (t := tPiece.row) (Ty.far (t := tPiece.row) (Ty.far (t := tPiece.row) (Ty.far (t := tPiece.row) (Ty.far (t := tPiece.row) o3 hM1 (p := ⟨w.heap.size + 1 + 1, 3, none⟩) (by first | (simp; done) | (simp; omega)) (.slice B3 r3.length d3)) hM1 (p := ⟨w.heap.size + 1, 0, none⟩) (by first | (simp; done) | (simp; omega)) (.int .i64 x0)) hM1 (p := ⟨w.heap.size + 1, 1, none⟩) (by first | (simp; done) | (simp; omega)) (.int .i64 x1)) hM1 (p := ⟨w.heap.size + 1, 2, none⟩) (by first | (simp; done) | (simp; omega)) (.int .i64 x2)) hM1 (p := ⟨w.heap.size + 1, 3, none⟩) (by first | (simp; done) | (simp; omega)) (.slice B3 r3.length d3))
  obtain ⟨F, hF, hFe⟩ := makeOWhole (p := (x0, x1, x2, r3)) hi0 hi1 hi2 u3
  refine bodyPost_ret (v := .agg #[.int .i64 x0, .int .i64 x1, .int .i64 x2, .slice B3 r3.length d3]) (by simp [results, Tryz.results88, go_sem, e0, e1, e2, e3]) rfl ⟨_, F, rfl, hF, ?_, ?_⟩
  · rw [hFe]
    exact New.lower (B := w.heap.size + 3) (by exact hM1) (by omega)
  · exact (bel_put (bel_put (bel_put (bel_put (bel_put hB1 (by first | (simp; done) | (simp; omega)) _) (by first | (simp; done) | (simp; omega)) _) (by first | (simp; done) | (simp; omega)) _) (by first | (simp; done) | (simp; omega)) _) (by first | (simp; done) | (simp; omega)) _)
theorem o_eqWhole {w : World} {cs cs' : List Value} {p : DWhole} (h : tWhole.R w w.heap.size cs p) (h' : tWhole.R w w.heap.size cs' p) :
    Calls Tryz.prog 101 #[.agg cs.toArray, .agg cs'.toArray] w fun e w' => e = .returned (.bool true) ∧ Below w.heap.size w w' := by
  obtain ⟨A3, n3, c3, rfl, hi0, hi1, hi2, ha3, hb3, hl3, hr3⟩ := openWhole h
  obtain ⟨A3', n3', c3', rfl, hi0', hi1', hi2', ha3', hb3', hl3', hr3'⟩ := openWhole h'
  obtain ⟨x0, x1, x2, r3⟩ := p
  try dsimp only at *
  subst hl3
  subst hl3'
  have q0 : (x0 != x0) = false := by simp
  have q1 : (x1 != x1) = false := by simp
  have q2 : (x2 != x2) = false := by simp
  go_enter Tryz.func101, Tryz.ntmps101
  go_wp2_with fail
  refine (o_eqPieceS (tPiece.row.reach hr3 ?hB) (tPiece.row.reach hr3' ?hB)).mono ?_
  case hB => exact (belx)
  rintro e w1 ⟨rfl, hb1⟩
  have hB1 : Below w.heap.size w w1 := bel_trans (belx) hb1
  have P1 : Box w1 w.heap.size 53 #[.int .i64 x0, .int .i64 x1, .int .i64 x2, .slice A3 r3.length c3] := ((Box.new _ _ _).alloc _).below hb1 (by first | (simp; done) | (simp; omega))
  have Q1 : Box w1 (w.heap.size + 1) 53 #[.int .i64 x0, .int .i64 x1, .int .i64 x2, .slice A3' r3.length c3'] := Box.below (by simpa using Box.new (w.alloc _) 53 #[.int .i64 x0, .int .i64 x1, .int .i64 x2, .slice A3' r3.length c3']) hb1 (by first | (simp; done) | (simp; omega))
  go_wp2
  go_ret
  exact ⟨rfl, hB1⟩
end Go.Proofs.YtaabmaoldhoinaaGreat
namespace Go.Proofs.YtaabmaoldhoinaaGreat
set_option maxRecDepth 100000
set_option linter.unusedVariables false
set_option linter.unusedSimpArgs false
open Go.ChangeShapes Go.WideShapes Go.ChangeAt Go.RowKit
theorem o_szWholeS_t {w : World} {n c : Nat} {A : Option Addr} {l : List DWhole} {k : Int} (h : tWhole.row.R w w.heap.size [.slice A n c] l) (h1 : 0 ≤ k) (h2 : k ≤ 1048576) (h3 : (rsz szWhole l : Int) ≤ k) :
    Calls Tryz.prog 35 #[.slice A n c, .int .i64 k] w fun e w' => e = .returned (.int .i64 (k - rsz szWhole l)) ∧ Below w.heap.size w w' := by
  obtain ⟨hln, hnc, hcm⟩ := rowR_len h
  obtain ⟨s, hs⟩ : ∃ s, rsum szWhole l = s := ⟨_, rfl⟩
  have hz : rsz szWhole l = n + s := by unfold rsz; rw [hln, hs]
  rw [hz] at h3 ⊢
  have HLN := Lib.hid hln
  have HS := Lib.hid hs
  clear hz hln hs
  have d : decide (k - (n : Int) < 0) = false := by simp; omega
  go_enter Tryz.func35, Tryz.ntmps35
  go_wp2_with fail
  go_loopw [1, 5] (fun x i wr => ∃ j : Nat, j ≤ n ∧ x = .int .i64 (k - n - (rsum szWhole (l.take j) : Nat)) ∧ i = .int .i64 j ∧ Below w.heap.size w wr) (fun _ i _ => n - (intOf i).toNat)
  case atStart => exact ⟨0, by omega, by rw [rsum_zero]; go_num, rfl, (belx)⟩
  case round =>
    obtain ⟨j, hj, rfl, rfl, hB⟩ := hrel
    by_cases hlt : j < n
    · obtain ⟨a, b, off, es, hl, rfl, hb, hes, hR⟩ := rowR_at (K := 4) h hlt rfl
      have hsa := rsum_at (c := szWhole) hl
      have hsn := rsum_sn (c := szWhole) hl
      rw [HS.out] at hsa
      obtain ⟨q, hq⟩ : ∃ q, rsum szWhole (l.take j) = q := ⟨_, rfl⟩
      obtain ⟨q', hq'⟩ : ∃ q, rsum szWhole (l.take (j + 1)) = q := ⟨_, rfl⟩
      rw [hq] at hsa hsn
      rw [hq'] at hsn
      rw [hq]
      have HQ := Lib.hid hq'
      clear hq hq'
      obtain ⟨A3, n3, c3, rfl, hi0, hi1, hi2, ha3, hb3, hl3, hr3⟩ := openWhole hR
      have e0 : wr.cell? ⟨b, off + j * 4, none⟩ = some (.int .i64 (a.1)) := cell_at hB hb (hes 0 (by omega))
      have e1 : wr.cell? ⟨b, off + j * 4 + 1, none⟩ = some (.int .i64 (a.2.1)) := cell_at hB hb (hes 1 (by omega))
      have e2 : wr.cell? ⟨b, off + j * 4 + 2, none⟩ = some (.int .i64 (a.2.2.1)) := cell_at hB hb (hes 2 (by omega))
      have e3 : wr.cell? ⟨b, off + j * 4 + 3, none⟩ = some (.slice A3 n3 c3) := cell_at hB hb (hes 3 (by omega))
      clear hes
      have d2 : decide (k - (n : Int) - q - (szWhole a : Nat) < 0) = false := by simp; omega
      go_wp2_with fail
      refine (o_szWhole_t (tWhole.reach hR ?hB) (by omega) (by omega) (by omega)).mono ?_
      case hB => exact (belx)
      rintro e w1 ⟨rfl, hb1⟩
      go_wp2
      go_roundw
      case rel => exact ⟨j + 1, by omega, by rw [HQ.out]; go_num, by go_num, bel_trans hB hb1⟩
      case measure => simp [intOf]; omega
    · obtain rfl : j = n := by omega
      have HA := Lib.hid (show rsum szWhole (l.take j) = s from by rw [rsum_all (Nat.le_of_eq HLN.out)]; exact HS.out)
      rw [HA.out]
      go_wp2
      go_ret
      exact ⟨ret_int (by omega), hB⟩
theorem o_szWholeS_f {w : World} {n c : Nat} {A : Option Addr} {l : List DWhole} {k : Int} (h : tWhole.row.R w w.heap.size [.slice A n c] l) (h1 : 0 ≤ k) (h2 : k ≤ 1048576) (h3 : ¬ (rsz szWhole l : Int) ≤ k) :
    Calls Tryz.prog 35 #[.slice A n c, .int .i64 k] w fun e w' => e = .returned (.int .i64 (-1)) ∧ Below w.heap.size w w' := by
  obtain ⟨hln, hnc, hcm⟩ := rowR_len h
  obtain ⟨s, hs⟩ : ∃ s, rsum szWhole l = s := ⟨_, rfl⟩
  have hz : rsz szWhole l = n + s := by unfold rsz; rw [hln, hs]
  rw [hz] at h3
  have HLN := Lib.hid hln
  have HS := Lib.hid hs
  clear hz hln hs
  by_cases hnk : k < (n : Int)
  · have d : decide (k - (n : Int) < 0) = true := by simp; omega
    go_enter Tryz.func35, Tryz.ntmps35
    go_wp2
    go_ret
    exact ⟨rfl, (belx)⟩
  have d : decide (k - (n : Int) < 0) = false := by simp; omega
  go_enter Tryz.func35, Tryz.ntmps35
  go_wp2_with fail
  go_loopw [1, 5] (fun x i wr => ∃ j : Nat, j ≤ n ∧ x = .int .i64 (k - n - (rsum szWhole (l.take j) : Nat)) ∧ i = .int .i64 j ∧ Below w.heap.size w wr ∧ (n : Int) + (rsum szWhole (l.take j) : Nat) ≤ k) (fun _ i _ => n - (intOf i).toNat)
  case atStart => exact ⟨0, by omega, by rw [rsum_zero]; go_num, rfl, (belx), by rw [rsum_zero]; omega⟩
  case round =>
    obtain ⟨j, hj, rfl, rfl, hB, hv⟩ := hrel
    by_cases hlt : j < n
    · obtain ⟨a, b, off, es, hl, rfl, hb, hes, hR⟩ := rowR_at (K := 4) h hlt rfl
      have hsa := rsum_at (c := szWhole) hl
      have hsn := rsum_sn (c := szWhole) hl
      rw [HS.out] at hsa
      obtain ⟨q, hq⟩ : ∃ q, rsum szWhole (l.take j) = q := ⟨_, rfl⟩
      obtain ⟨q', hq'⟩ : ∃ q, rsum szWhole (l.take (j + 1)) = q := ⟨_, rfl⟩
      rw [hq] at hsa hsn
      rw [hq'] at hsn
      rw [hq]
      have HQ := Lib.hid hq'
      rw [hq] at hv
      clear hq hq'
      obtain ⟨A3, n3, c3, rfl, hi0, hi1, hi2, ha3, hb3, hl3, hr3⟩ := openWhole hR
      have e0 : wr.cell? ⟨b, off + j * 4, none⟩ = some (.int .i64 (a.1)) := cell_at hB hb (hes 0 (by omega))
      have e1 : wr.cell? ⟨b, off + j * 4 + 1, none⟩ = some (.int .i64 (a.2.1)) := cell_at hB hb (hes 1 (by omega))
      have e2 : wr.cell? ⟨b, off + j * 4 + 2, none⟩ = some (.int .i64 (a.2.2.1)) := cell_at hB hb (hes 2 (by omega))
      have e3 : wr.cell? ⟨b, off + j * 4 + 3, none⟩ = some (.slice A3 n3 c3) := cell_at hB hb (hes 3 (by omega))
      clear hes
      by_cases hg : (n : Int) + q + (szWhole a : Nat) ≤ k
      · have d2 : decide (k - (n : Int) - q - (szWhole a : Nat) < 0) = false := by simp; omega
        go_wp2_with fail
        refine (o_szWhole_t (tWhole.reach hR ?hB) (by omega) (by omega) (by omega)).mono ?_
        case hB => exact (belx)
        rintro e w1 ⟨rfl, hb1⟩
        go_wp2
        go_roundw
        case rel => exact ⟨j + 1, by omega, by rw [HQ.out]; go_num, by go_num, bel_trans hB hb1, by rw [HQ.out]; omega⟩
        case measure => simp [intOf]; omega
      · go_wp2_with fail
        refine (o_szWhole_f (tWhole.reach hR ?hB) (by omega) (by omega) (by omega)).mono ?_
        case hB => exact (belx)
        rintro e w1 ⟨rfl, hb1⟩
        go_wp2
        go_ret
        exact ⟨rfl, bel_trans hB hb1⟩
    · obtain rfl : j = n := by omega
      have HA := Lib.hid (show rsum szWhole (l.take j) = s from by rw [rsum_all (Nat.le_of_eq HLN.out)]; exact HS.out)
      rw [HA.out] at hv
      exact absurd hv (by omega)
theorem info_Whole : (Tryz.prog.info? 53).map (fun i => (i.zero, i.size, i.bytes)) = some (some (.agg #[.int .i64 0, .int .i64 0, .int .i64 0, .slice none 0 0]), 4, 48) := by kernel_rfl
set_option maxHeartbeats 800000 in
theorem o_toWholeS {w : World} {n c : Nat} {A : Option Addr} {l : List DWhole} (h : tWhole.row.R w w.heap.size [.slice A n c] l) (hz : rsz szWhole l ≤ 1048576) :
    Calls Tryz.prog 41 #[.slice A n c] w fun e w' => ∃ A' c' F, e = .returned (.slice A' l.length c') ∧ tWhole.row.O w' [.slice A' l.length c'] l F ∧ New w.heap.size F ∧ Below w.heap.size w w' := by
  obtain ⟨i0, hi0, hz0, hz1, hz2⟩ := info_parts info_Whole
  obtain ⟨hln, hnc, hcm⟩ := rowR_len h
  have hn : n ≤ 1048576 := by have := rsz_le (s := szWhole) l; omega
  have HLN := Lib.hid hln
  have HZ := Lib.hid hz
  clear hln hz
  go_enter Tryz.func41, Tryz.ntmps41
  go_wp2_with (at_make; refine wpList_mkS _ rfl (.tmp 6) (.tmp 6) _ rfl 53 i0 _ 4 Tryz.underlying31 hi0 hz0 hz1 n rfl rfl (by rw [hz2]; omega) (by simp only [maxLen]; omega) ?_; intro w1 cur hcur hsz hB1 hgr)
  go_loopw [4] (fun i wr => ∃ j : Nat, j ≤ n ∧ i = .int .i64 j ∧ Below w.heap.size w wr ∧ ∃ F, Fill tWhole wr w.heap.size 53 n (l.take j) F ∧ New (w.heap.size + 1) F) (fun i _ => n - (intOf i).toNat)
  case atStart => exact ⟨0, by omega, rfl, hB1, [], Fill.start hcur hsz, New.nil _⟩
  case round =>
    obtain ⟨j, hj, rfl, hB, F, hf, hN⟩ := hrel
    by_cases hlt : j < n
    · obtain ⟨a, b, off, es, hl, rfl, hb, hes, hR⟩ := rowR_at (K := 4) h hlt rfl
      have HT := Lib.hid (take_sn hl)
      have HLT := Lib.hid (show (l.take j).length = j from by rw [List.length_take, HLN.out]; omega)
      have hsa : szWhole a ≤ 1048576 := by have := rsz_step (s := szWhole) hl; have := HZ.out; omega
      obtain ⟨A3, n3, c3, rfl, hi0, hi1, hi2, ha3, hb3, hl3, hr3⟩ := openWhole hR
      subst hl3
      have e0 : wr.cell? ⟨b, off + j * 4, none⟩ = some (.int .i64 (a.1)) := cell_at hB hb (hes 0 (by omega))
      have e1 : wr.cell? ⟨b, off + j * 4 + 1, none⟩ = some (.int .i64 (a.2.1)) := cell_at hB hb (hes 1 (by omega))
      have e2 : wr.cell? ⟨b, off + j * 4 + 2, none⟩ = some (.int .i64 (a.2.2.1)) := cell_at hB hb (hes 2 (by omega))
      have e3 : wr.cell? ⟨b, off + j * 4 + 3, none⟩ = some (.slice A3 (a.2.2.2).length c3) := cell_at hB hb (hes 3 (by omega))
      clear hes
      have hgs := hf.size
      go_wp2_with fail
      refine (o_toWhole (tWhole.reach hR ?hB) hsa).mono ?_
      case hB => exact (belx)
      rintro e w2 ⟨cs2, F2, rfl, hO2, hN2, hb2⟩
      obtain ⟨B3, d3, G3, rfl, hFe, _, _, _, _, _, _⟩ := openOWhole hO2
      clear hFe
      have hf2 := hf.below hb2
      have hsz2 := hb2.size
      have hP := Fill.push (K := 4) hf2 (by rw [HLT.out]; exact hlt) hO2 (hN.not (by omega)) (hN2.not hgs) rfl
      rw [HLT.out, ← HT.out] at hP
      have hM : New (w.heap.size + 1) (F ++ F2) := New.app hN hN2 (by omega) hf.lt
      obtain ⟨u0, k0⟩ := hf2.cell (K := 4) (j := 0) (by rw [HLT.out]; exact hlt) rfl (by omega)
      rw [HLT.out] at k0
      replace k0 : w2.cell? ⟨w.heap.size, j * 4, none⟩ = some u0 := k0
      have f0 := hf2.frozen (j * 4)
      obtain ⟨u1, k1⟩ := hf2.cell (K := 4) (j := 1) (by rw [HLT.out]; exact hlt) rfl (by omega)
      rw [HLT.out] at k1
      replace k1 : w2.cell? ⟨w.heap.size, j * 4 + 1, none⟩ = some u1 := k1
      have f1 := hf2.frozen (j * 4 + 1)
      obtain ⟨u2, k2⟩ := hf2.cell (K := 4) (j := 2) (by rw [HLT.out]; exact hlt) rfl (by omega)
      rw [HLT.out] at k2
      replace k2 : w2.cell? ⟨w.heap.size, j * 4 + 2, none⟩ = some u2 := k2
      have f2 := hf2.frozen (j * 4 + 2)
      obtain ⟨u3, k3⟩ := hf2.cell (K := 4) (j := 3) (by rw [HLT.out]; exact hlt) rfl (by omega)
      rw [HLT.out] at k3
      replace k3 : w2.cell? ⟨w.heap.size, j * 4 + 3, none⟩ = some u3 := k3
      have f3 := hf2.frozen (j * 4 + 3)
      go_wp2
      go_roundw
      case rel => exact ⟨j + 1, by omega, by go_num, below_puts (bel_trans hB hb2) (Nat.le_refl _) (off := j * 4) (vs := [.int .i64 (a.1), .int .i64 (a.2.1), .int .i64 (a.2.2.1), .slice B3 (a.2.2.2).length d3]), _, hP, hM⟩
      case measure => simp [intOf]; omega
    · obtain rfl : j = n := by omega
      have HA := Lib.hid (show l.take j = l from by rw [List.take_of_length_le (Nat.le_of_eq HLN.out)])
      rw [HA.out] at hf
      obtain ⟨F2, hF2, hor⟩ := hf.done HLN.out (by omega)
      have HN := Lib.hid HLN.out
      go_wp2
      go_ret
      refine ⟨some ⟨w.heap.size, 0, none⟩, j, F2, ?_, hF2, hN.cons hor, hB⟩
      rw [HN.out]
      rfl
set_option maxHeartbeats 800000 in
theorem o_eqWholeS {w : World} {n m c d : Nat} {A A' : Option Addr} {l : List DWhole} (h : tWhole.row.R w w.heap.size [.slice A n c] l) (h' : tWhole.row.R w w.heap.size [.slice A' m d] l) :
    Calls Tryz.prog 56 #[.slice A n c, .slice A' m d] w fun e w' => e = .returned (.bool true) ∧ Below w.heap.size w w' := by
  obtain ⟨hln, hnc, hcm⟩ := rowR_len h
  obtain ⟨hln', hnc', hcm'⟩ := rowR_len h'
  obtain rfl : m = n := by omega
  have HLN := Lib.hid hln
  clear hln hln'
  go_enter Tryz.func56, Tryz.ntmps56
  go_wp2_with fail
  go_loopw [5] (fun i wr => ∃ j : Nat, j ≤ m ∧ i = .int .i64 j ∧ Below w.heap.size w wr) (fun i _ => m - (intOf i).toNat)
  case atStart => exact ⟨0, by omega, rfl, (belx)⟩
  case round =>
    obtain ⟨j, hj, rfl, hB⟩ := hrel
    by_cases hlt : j < m
    · obtain ⟨a, b, off, es, hl, rfl, hb, hes, hR⟩ := rowR_at (K := 4) h hlt rfl
      obtain ⟨a', b', off', es', hl', rfl, hb', hes', hR'⟩ := rowR_at (K := 4) h' hlt rfl
      obtain rfl : a = a' := by rw [hl] at hl'; exact Option.some.inj hl'
      clear hl hl'
      obtain ⟨A3, n3, c3, rfl, hi0, hi1, hi2, ha3, hb3, hl3, hr3⟩ := openWhole hR
      obtain ⟨A3', n3', c3', rfl, hi0', hi1', hi2', ha3', hb3', hl3', hr3'⟩ := openWhole hR'
      subst hl3
      subst hl3'
      have e0 : wr.cell? ⟨b, off + j * 4, none⟩ = some (.int .i64 (a.1)) := cell_at hB hb (hes 0 (by omega))
      have e1 : wr.cell? ⟨b, off + j * 4 + 1, none⟩ = some (.int .i64 (a.2.1)) := cell_at hB hb (hes 1 (by omega))
      have e2 : wr.cell? ⟨b, off + j * 4 + 2, none⟩ = some (.int .i64 (a.2.2.1)) := cell_at hB hb (hes 2 (by omega))
      have e3 : wr.cell? ⟨b, off + j * 4 + 3, none⟩ = some (.slice A3 (a.2.2.2).length c3) := cell_at hB hb (hes 3 (by omega))
      have e0' : wr.cell? ⟨b', off' + j * 4, none⟩ = some (.int .i64 (a.1)) := cell_at hB hb' (hes' 0 (by omega))
      have e1' : wr.cell? ⟨b', off' + j * 4 + 1, none⟩ = some (.int .i64 (a.2.1)) := cell_at hB hb' (hes' 1 (by omega))
      have e2' : wr.cell? ⟨b', off' + j * 4 + 2, none⟩ = some (.int .i64 (a.2.2.1)) := cell_at hB hb' (hes' 2 (by omega))
      have e3' : wr.cell? ⟨b', off' + j * 4 + 3, none⟩ = some (.slice A3' (a.2.2.2).length c3') := cell_at hB hb' (hes' 3 (by omega))
      clear hes hes'
      go_wp2_with fail
      go_region_held3 (fun w' => w'.cell? ⟨b, off + j * 4, none⟩ = some (.int .i64 (a.1)) ∧ w'.cell? ⟨b, off + j * 4 + 1, none⟩ = some (.int .i64 (a.2.1)) ∧ w'.cell? ⟨b, off + j * 4 + 2, none⟩ = some (.int .i64 (a.2.2.1)) ∧ w'.cell? ⟨b, off + j * 4 + 3, none⟩ = some (.slice A3 (a.2.2.2).length c3) ∧ w'.cell? ⟨b', off' + j * 4, none⟩ = some (.int .i64 (a.1)) ∧ w'.cell? ⟨b', off' + j * 4 + 1, none⟩ = some (.int .i64 (a.2.1)) ∧ w'.cell? ⟨b', off' + j * 4 + 2, none⟩ = some (.int .i64 (a.2.2.1)) ∧ w'.cell? ⟨b', off' + j * 4 + 3, none⟩ = some (.slice A3' (a.2.2.2).length c3')) (first | (exact ⟨e0, e1, e2, e3, e0', e1', e2', e3'⟩) | (exact ⟨cell_bel hs2 e0, cell_bel hs2 e1, cell_bel hs2 e2, cell_bel hs2 e3, cell_bel hs2 e0', cell_bel hs2 e1', cell_bel hs2 e2', cell_bel hs2 e3'⟩) | go_keep)
        ((go_at_call 101; refine (o_eqWhole (tWhole.reach hR (belx)) (tWhole.reach hR' (belx))).mono ?_; rintro e w2 ⟨rfl, hb2⟩; have hs2 : Below wr.heap.size wr w2 := bel_trans (belx) hb2))
      go_wp2
      go_roundw
      case rel => exact ⟨j + 1, by omega, by go_num, bel_trans hB hs2⟩
      case measure => simp [intOf]; omega
    · obtain rfl : j = m := by omega
      go_wp2
      go_ret
      exact ⟨rfl, hB⟩
set_option maxHeartbeats 1000000 in
theorem o_markWholeS {w : World} {n c : Nat} {A : Option Addr} {l : List DWhole} {F : List Nat} (k : Int) (h : tWhole.row.O w [.slice A n c] l F) (hF : F.Nodup) (h0 : 0 ≤ k) (hk : k + rsum rcWhole l ≤ 4611686018427387904) :
    Calls Tryz.prog 58 #[.slice A n c, .int .i64 k] w fun e w' => e = .returned (.int .i64 (k + rsum rcWhole l)) ∧ tWhole.row.O w' [.slice A n c] (rmk rcWhole rmWhole k l) F ∧ Only F w w' := by
  obtain ⟨_, _, hsh, hnc, hcm⟩ := rowO_shape h
  have hln : l.length = n := by injection hsh with _ e2 _; exact e2.symm
  have hnc2 : n ≤ 9223372036854775807 := by omega
  clear hsh hnc hcm
  obtain ⟨s, hs⟩ : ∃ s, rsum rcWhole l = s := ⟨_, rfl⟩
  rw [hs] at hk ⊢
  have HLN := Lib.hid hln
  have HS := Lib.hid hs
  clear hln hs
  go_enter Tryz.func58, Tryz.ntmps58
  go_wp2
  go_loopw [1, 5] (fun x i wr => ∃ j : Nat, j ≤ n ∧ x = .int .i64 (k + (rsum rcWhole (l.take j) : Nat)) ∧ i = .int .i64 j ∧ tWhole.row.O wr [.slice A n c] (rpart rcWhole rmWhole k l j) F ∧ Only F w wr) (fun _ i _ => n - (intOf i).toNat)
  case atStart => exact ⟨0, by omega, by rw [rsum_zero]; go_num, rfl, by rw [rpart_zero]; exact h, Only.refl _ _⟩
  case round =>
    obtain ⟨j, hj, rfl, rfl, hO, hG⟩ := hrel
    by_cases hlt : j < n
    · obtain ⟨a, hl⟩ : ∃ a, l[j]? = some a := ⟨_, List.getElem?_eq_getElem (by rw [HLN.out]; exact hlt)⟩
      have HP := Lib.hid (rpart_set (c := rcWhole) (m := rmWhole) (k := k) hl)
      have hat := rpart_at (c := rcWhole) (m := rmWhole) (k := k) hl
      have hsa := rsum_at (c := rcWhole) hl
      have hsn := rsum_sn (c := rcWhole) hl
      rw [HS.out] at hsa
      obtain ⟨q, hq⟩ : ∃ q, rsum rcWhole (l.take j) = q := ⟨_, rfl⟩
      obtain ⟨q', hq'⟩ : ∃ q, rsum rcWhole (l.take (j + 1)) = q := ⟨_, rfl⟩
      rw [hq] at hsa hsn
      rw [hq'] at hsn
      rw [hq]
      have HQ := Lib.hid hq'
      have HQ2 := Lib.hid hq
      clear hq hq'
      dsimp only [rcWhole] at hsa hsn
      obtain ⟨g, off, cur, et, es, Fi, rfl, hcur, hes, hOe, hgF, hgi, hFi, hnd, hback⟩ := rowO_at (K := 4) hO hF hat rfl
      obtain ⟨A3, c3, F3, rfl, hFe, hi0, hi1, hi2, ha3, hb3, hr3⟩ := openOWhole hOe
      subst Fi
      obtain ⟨x0, x1, x2, r3⟩ := a
      dsimp only at *
      have e0 : wr.cell? ⟨g, off + j * 4, none⟩ = some (.int .i64 x0) := by rw [Box.cell (t := et) hcur]; exact hes 0 (by omega)
      have f0 : wr.frozen? ⟨g, off + j * 4, none⟩ = false := Box.frozen (t := et) hcur _
      have e1 : wr.cell? ⟨g, off + j * 4 + 1, none⟩ = some (.int .i64 x1) := by rw [Box.cell (t := et) hcur]; exact hes 1 (by omega)
      have f1 : wr.frozen? ⟨g, off + j * 4 + 1, none⟩ = false := Box.frozen (t := et) hcur _
      have e2 : wr.cell? ⟨g, off + j * 4 + 2, none⟩ = some (.int .i64 x2) := by rw [Box.cell (t := et) hcur]; exact hes 2 (by omega)
      have f2 : wr.frozen? ⟨g, off + j * 4 + 2, none⟩ = false := Box.frozen (t := et) hcur _
      have e3 : wr.cell? ⟨g, off + j * 4 + 3, none⟩ = some (.slice A3 r3.length c3) := by rw [Box.cell (t := et) hcur]; exact hes 3 (by omega)
      have f3 : wr.frozen? ⟨g, off + j * 4 + 3, none⟩ = false := Box.frozen (t := et) hcur _
      obtain ⟨cur1, hX0, hcs, hun, hval⟩ := puts_heap (off := off + j * 4) (vs := [.int .i64 (k + (q : Int)), .int .i64 (k + (q : Int) + 1), .int .i64 (k + (q : Int) + 1 + 1)]) hcur
      dsimp only [List.length_cons, List.length_nil] at hun hval
      have hcz : ∀ i, i < 4 → off + j * 4 + i < cur.size := fun i hi => by
        by_cases hh : off + j * 4 + i < cur.size
        · exact hh
        · have := hes i hi; rw [Array.getElem?_eq_none (by omega)] at this; rcases (by omega : i = 0 ∨ i = 1 ∨ i = 2 ∨ i = 3) with rfl | rfl | rfl | rfl <;> simp at this
      have hgz : g < (puts wr g (off + j * 4) [.int .i64 (k + (q : Int)), .int .i64 (k + (q : Int) + 1), .int .i64 (k + (q : Int) + 1 + 1)]).heap.size := by rw [size_puts]; exact Box.size (t := et) hcur
      have OG0 : Only F w (puts wr g (off + j * 4) [.int .i64 (k + (q : Int)), .int .i64 (k + (q : Int) + 1), .int .i64 (k + (q : Int) + 1 + 1)]) := only_puts hG hgF
      have hk0 : ∀ f, f ≠ g → (puts wr g (off + j * 4) [.int .i64 (k + (q : Int)), .int .i64 (k + (q : Int) + 1), .int .i64 (k + (q : Int) + 1 + 1)]).heap[f]? = wr.heap[f]? := fun f hf => puts_far hf
      have hzz : (puts wr g (off + j * 4) [.int .i64 (k + (q : Int)), .int .i64 (k + (q : Int) + 1), .int .i64 (k + (q : Int) + 1 + 1)]).heap.size = wr.heap.size := size_puts
      have y3 : ∀ f ∈ F3, f < wr.heap.size ∧ f ≠ g := fun f hf => ⟨(tPiece.row).lt hr3 f hf, fun e => hgi (by rw [← e]; simp [hf])⟩
      replace hr3 := (tPiece.row).kept (w' := puts wr g (off + j * 4) [.int .i64 (k + (q : Int)), .int .i64 (k + (q : Int) + 1), .int .i64 (k + (q : Int) + 1 + 1)]) hr3 (fun f hf => hk0 f (y3 f hf).2)
      have nd3 : F3.Nodup := hnd
      obtain ⟨W0, hW0⟩ : ∃ W0, puts wr g (off + j * 4) [.int .i64 (k + (q : Int)), .int .i64 (k + (q : Int) + 1), .int .i64 (k + (q : Int) + 1 + 1)] = W0 := ⟨_, rfl⟩
      rw [hW0] at hX0 hgz OG0 hk0 hzz hr3
      have Z0 : wr.heap.size ≤ W0.heap.size := Nat.le_of_eq hzz.symm
      have hX : W0.heap[g]? = some (.cells cur1 et (0, 0)) := hX0
      go_wp2_with fail
      have hWe : (((wr.setCell ⟨g, off + j * 4, none⟩ (.int .i64 (k + (q : Int)))).setCell ⟨g, off + j * 4 + 1, none⟩ (.int .i64 (k + (q : Int) + 1))).setCell ⟨g, off + j * 4 + 2, none⟩ (.int .i64 (k + (q : Int) + 1 + 1))) = W0 := hW0
      rw [hWe]
      refine (o_markPieceS (k + (q : Int) + 1 + 1 + 1) hr3 nd3 (by omega) (by omega)).mono ?_
      rintro e W1 ⟨rfl, hO3, hG3⟩
      have OG1 : Only F w W1 := OG0.trans (hG3.mono (fun f hf => hFi f (by simp [hf])))
      have Z1 : wr.heap.size ≤ W1.heap.size := Nat.le_trans Z0 hG3.size
      have hgz : g < W1.heap.size := Nat.lt_of_lt_of_le hgz hG3.size
      replace hX : W1.heap[g]? = some (.cells cur1 et (0, 0)) := (hG3.block g (by omega) (fun e => (y3 g e).2 rfl)).trans hX
      replace hr3 := hO3
      have wf0 : (Lit.int .i64 (k + (q : Int))).wf = true := WalkArith.wf_i64 (by omega)
      have wf1 : (Lit.int .i64 (k + (q : Int) + 1)).wf = true := WalkArith.wf_i64 (by omega)
      have wf2 : (Lit.int .i64 (k + (q : Int) + 1 + 1)).wf = true := WalkArith.wf_i64 (by omega)
      obtain ⟨F2, hF2, hF2e⟩ := makeOWhole (w := W1) (p := rmWhole (k + (q : Int)) (x0, x1, x2, r3)) wf0 wf1 wf2 hr3
      subst hF2e
      have hfin := hback W1 cur1 [.int .i64 (k + (q : Int)), .int .i64 (k + (q : Int) + 1), .int .i64 (k + (q : Int) + 1 + 1), .slice A3 r3.length c3] (rmWhole (k + (q : Int)) (x0, x1, x2, r3)) hX (by
        intro i hi
        rcases (by omega : i = 0 ∨ i = 1 ∨ i = 2 ∨ i = 3) with rfl | rfl | rfl | rfl
        · exact hval 0 (by omega) (hcz 0 (by omega))
        · exact hval 1 (by omega) (hcz 1 (by omega))
        · exact hval 2 (by omega) (hcz 2 (by omega))
        · rw [hun _ (by omega)]; exact hes 3 (by omega)) (by
        intro q2 hq2
        refine hun q2 ?_
        rcases Nat.lt_or_ge q2 (off + j * 4) with h1 | h1
        · exact .inl h1
        · rcases Nat.lt_or_ge q2 (off + j * 4 + 4) with h2 | h2
          · exact absurd (by omega) (hq2 (q2 - (off + j * 4)) (by omega))
          · exact .inr (by omega)) hF2 (by
        intro f hf h1 h2
        skip
        have hfz : f < wr.heap.size := (tWhole.row).lt hO f hf
        exact ((hG3.block f (by omega) h2).trans (hk0 f h1)))
      have HPq := HP.out
      rw [HQ2.out] at HPq
      rw [HPq] at hfin
      clear HPq
      go_wp2
      go_roundw
      case rel => exact ⟨j + 1, by omega, by rw [HQ.out]; go_num, by go_num, hfin, OG1⟩
      case measure => simp [intOf]; omega
    · obtain rfl : j = n := by omega
      have HA := Lib.hid (show rsum rcWhole (l.take j) = s from by rw [rsum_all (Nat.le_of_eq HLN.out)]; exact HS.out)
      rw [HA.out]
      rw [rpart_all (Nat.le_of_eq HLN.out)] at hO
      go_wp2
      go_ret
      exact ⟨rfl, hO, hG⟩
set_option maxHeartbeats 1000000 in
theorem o_heldWholeS {w : World} {n c : Nat} {A : Option Addr} {l : List DWhole} (k : Int) (h : tWhole.row.R w w.heap.size [.slice A n c] (rmk rcWhole rmWhole k l)) (h0 : 0 ≤ k) (hk : k + rsum rcWhole l ≤ 4611686018427387904) :
    Calls Tryz.prog 60 #[.slice A n c, .int .i64 k] w fun e w' => e = .returned (.int .i64 (k + rsum rcWhole l)) ∧ Below w.heap.size w w' := by
  obtain ⟨hln, hnc, hcm⟩ := rowR_len h
  rw [rmk_len] at hln
  obtain ⟨s, hs⟩ : ∃ s, rsum rcWhole l = s := ⟨_, rfl⟩
  rw [hs] at hk ⊢
  have HLN := Lib.hid hln
  have HS := Lib.hid hs
  clear hln hs
  go_enter Tryz.func60, Tryz.ntmps60
  go_wp2
  go_loopw [1, 5] (fun x i wr => ∃ j : Nat, j ≤ n ∧ x = .int .i64 (k + (rsum rcWhole (l.take j) : Nat)) ∧ i = .int .i64 j ∧ Below w.heap.size w wr) (fun _ i _ => n - (intOf i).toNat)
  case atStart => exact ⟨0, by omega, by rw [rsum_zero]; go_num, rfl, (belx)⟩
  case round =>
    obtain ⟨j, hj, rfl, rfl, hB⟩ := hrel
    by_cases hlt : j < n
    · obtain ⟨a, hl⟩ : ∃ a, l[j]? = some a := ⟨_, List.getElem?_eq_getElem (by rw [HLN.out]; exact hlt)⟩
      obtain ⟨a2, b, off, es, hl2, rfl, hb, hes, hR⟩ := rowR_at (K := 4) h hlt rfl
      have hat := rmk_at (c := rcWhole) (m := rmWhole) (k := k) hl
      obtain rfl : _ = a2 := Option.some.inj (hat.symm.trans hl2)
      clear hl2 hat
      have hsa := rsum_at (c := rcWhole) hl
      have hsn := rsum_sn (c := rcWhole) hl
      rw [HS.out] at hsa
      obtain ⟨q, hq⟩ : ∃ q, rsum rcWhole (l.take j) = q := ⟨_, rfl⟩
      obtain ⟨q', hq'⟩ : ∃ q, rsum rcWhole (l.take (j + 1)) = q := ⟨_, rfl⟩
      rw [hq] at hsa hsn
      rw [hq'] at hsn
      rw [hq] at hR ⊢
      have HQ := Lib.hid hq'
      clear hq hq'
      dsimp only [rcWhole] at hsa hsn
      obtain ⟨A3, n3, c3, rfl, hi0, hi1, hi2, ha3, hb3, hl3, hr3⟩ := openWhole hR
      obtain ⟨x0, x1, x2, r3⟩ := a
      dsimp only [rmWhole] at *
      have q0 : ((k + (q : Int) : Int) != k + (q : Int)) = false := by simp
      have q1 : ((k + (q : Int) + 1 : Int) != k + (q : Int) + 1) = false := by simp
      have q2 : ((k + (q : Int) + 1 + 1 : Int) != k + (q : Int) + 1 + 1) = false := by simp
      have e0 : wr.cell? ⟨b, off + j * 4, none⟩ = some (.int .i64 (k + (q : Int))) := cell_at hB hb (hes 0 (by omega))
      have e1 : wr.cell? ⟨b, off + j * 4 + 1, none⟩ = some (.int .i64 (k + (q : Int) + 1)) := cell_at hB hb (hes 1 (by omega))
      have e2 : wr.cell? ⟨b, off + j * 4 + 2, none⟩ = some (.int .i64 (k + (q : Int) + 1 + 1)) := cell_at hB hb (hes 2 (by omega))
      have e3 : wr.cell? ⟨b, off + j * 4 + 3, none⟩ = some (.slice A3 n3 c3) := cell_at hB hb (hes 3 (by omega))
      have d0 : decide (k + (q : Int) + 1 + 1 + 1 + ((rsum rcPiece r3 : Nat) : Int) < 0) = false := by simp; omega
      go_wp2_with fail
      refine (o_heldPieceS (k + (q : Int) + 1 + 1 + 1) ((tPiece.row).reach hr3 ?hB) (by omega) (by omega)).mono ?_
      case hB => exact (belx)
      rintro e w1 ⟨rfl, hb1⟩
      have hB1 : Below w.heap.size w w1 := bel_trans hB hb1
      have e3_1 : w1.cell? ⟨b, off + j * 4 + 3, none⟩ = some (.slice A3 n3 c3) := cell_at hB1 hb (hes 3 (by omega))
      go_wp2
      go_roundw
      case rel => exact ⟨j + 1, by omega, by rw [HQ.out]; go_num, by go_num, hB1⟩
      case measure => simp [intOf]; omega
    · obtain rfl : j = n := by omega
      have HA := Lib.hid (show rsum rcWhole (l.take j) = s from by rw [rsum_all (Nat.le_of_eq HLN.out)]; exact HS.out)
      rw [HA.out]
      go_wp2
      go_ret
      exact ⟨rfl, hB⟩
end Go.Proofs.YtaabmaoldhoinaaGreat
namespace Go.Proofs.YtaabmaoldhoinaaGreat
set_option maxRecDepth 100000
set_option linter.unusedVariables false
set_option linter.unusedSimpArgs false
open Go.ChangeShapes Go.WideShapes Go.ChangeAt Go.RowKit
theorem o_szDesk_t {w : World} {cs : List Value} {p : DDesk} {k : Int} (h : tDesk.R w w.heap.size cs p) (h1 : 0 ≤ k) (h2 : k ≤ 1048576) (h3 : (szDesk p : Int) ≤ k) :
    Calls Tryz.prog 6 #[.agg cs.toArray, .int .i64 k] w fun e w' => e = .returned (.int .i64 (k - szDesk p)) ∧ Below w.heap.size w w' := by
  obtain ⟨A0, n0, c0, A1, n1, c1, rfl, ha0, hb0, hl0, hr0, ha1, hb1, hl1, hr1⟩ := openDesk h
  obtain ⟨r0, l1⟩ := p
  try dsimp only [szDesk] at *
  subst hl0
  subst hl1
  have d0 : decide (k - ((rsz szWhole r0 : Nat) : Int) < 0) = false := by simp; omega
  have d1 : decide (k - ((rsz szWhole r0 : Nat) : Int) - ((l1.length : Nat) : Int) < 0) = false := by simp; omega
  go_enter Tryz.func6, Tryz.ntmps6
  go_wp2_with fail
  refine (o_szWholeS_t (tWhole.row.reach hr0 ?hB) (by omega) (by omega) (by omega)).mono ?_
  case hB => exact (belx)
  rintro e w1 ⟨rfl, hb1⟩
  have hB1 : Below w.heap.size w w1 := bel_trans (belx) hb1
  have P1 : Box w1 w.heap.size 25 #[.slice A0 r0.length c0, .slice A1 l1.length c1] := (Box.new _ _ _).below hb1 (by first | (simp; done) | (simp; omega))
  have e0_1 := P1.cell 1
  go_wp2_with fail
  refine (o_szIntS_t (tIs.reach hr1 ?hB) (by omega) (by omega) (by omega)).mono ?_
  case hB => exact (belx)
  rintro e w2 ⟨rfl, hb2⟩
  have hB2 : Below w.heap.size w w2 := bel_trans (belx) hb2
  have P2 := P1.below hb2 P1.size
  go_wp2
  go_ret
  exact ⟨ret_int (by omega), hB2⟩
theorem o_szDesk_f {w : World} {cs : List Value} {p : DDesk} {k : Int} (h : tDesk.R w w.heap.size cs p) (h1 : 0 ≤ k) (h2 : k ≤ 1048576) (h3 : ¬ (szDesk p : Int) ≤ k) :
    Calls Tryz.prog 6 #[.agg cs.toArray, .int .i64 k] w fun e w' => e = .returned (.int .i64 (-1)) ∧ Below w.heap.size w w' := by
  obtain ⟨A0, n0, c0, A1, n1, c1, rfl, ha0, hb0, hl0, hr0, ha1, hb1, hl1, hr1⟩ := openDesk h
  obtain ⟨r0, l1⟩ := p
  try dsimp only [szDesk] at *
  subst hl0
  subst hl1
  by_cases g0 : (((rsz szWhole r0) : Nat) : Int) ≤ k
  rotate_left
  · go_enter Tryz.func6, Tryz.ntmps6
    go_wp2_with fail
    refine (o_szWholeS_f (tWhole.row.reach hr0 ?hB) (by omega) (by omega) (by omega)).mono ?_
    case hB => exact (belx)
    rintro e w1 ⟨rfl, hb1⟩
    have hB1 : Below w.heap.size w w1 := bel_trans (belx) hb1
    have P1 : Box w1 w.heap.size 25 #[.slice A0 r0.length c0, .slice A1 l1.length c1] := (Box.new _ _ _).below hb1 (by first | (simp; done) | (simp; omega))
    go_wp2
    go_ret
    exact ⟨rfl, hB1⟩
  have d0 : decide (k - ((rsz szWhole r0 : Nat) : Int) < 0) = false := by simp; omega
  go_enter Tryz.func6, Tryz.ntmps6
  go_wp2_with fail
  refine (o_szWholeS_t (tWhole.row.reach hr0 ?hB) (by omega) (by omega) (by omega)).mono ?_
  case hB => exact (belx)
  rintro e w1 ⟨rfl, hb1⟩
  have hB1 : Below w.heap.size w w1 := bel_trans (belx) hb1
  have P1 : Box w1 w.heap.size 25 #[.slice A0 r0.length c0, .slice A1 l1.length c1] := (Box.new _ _ _).below hb1 (by first | (simp; done) | (simp; omega))
  have e0_1 := P1.cell 1
  go_wp2_with fail
  refine (o_szIntS_f (tIs.reach hr1 ?hB) (by omega) (by omega) (by omega)).mono ?_
  case hB => exact (belx)
  rintro e w2 ⟨rfl, hb2⟩
  have hB2 : Below w.heap.size w w2 := bel_trans (belx) hb2
  have P2 := P1.below hb2 P1.size
  go_wp2
  go_ret
  exact ⟨rfl, hB2⟩
set_option maxHeartbeats 400000 in
theorem o_toDesk {w : World} {cs : List Value} {p : DDesk} (h : tDesk.R w w.heap.size cs p) (hn : szDesk p ≤ 1048576) :
    Calls Tryz.prog 9 #[.agg cs.toArray] w fun e w' => ∃ cs' F, e = .returned (.agg cs'.toArray) ∧ tDesk.O w' cs' p F ∧ New w.heap.size F ∧ Below w.heap.size w w' := by
  obtain ⟨A0, n0, c0, A1, n1, c1, rfl, ha0, hb0, hl0, hr0, ha1, hb1, hl1, hr1⟩ := openDesk h
  obtain ⟨r0, l1⟩ := p
  try dsimp only [szDesk] at *
  subst hl0
  subst hl1
  go_enter Tryz.func9, Tryz.ntmps9
  go_wp2_with fail
  refine (o_toWholeS (tWhole.row.reach hr0 ?hB) (by omega)).mono ?_
  case hB => exact (belx)
  rintro e w1 ⟨B0, d0, F0, rfl, o0, hN1, hb1⟩
  have z1 : w.heap.size + 3 ≤ w1.heap.size := by have := hb1.size; simpa using this
  have hB1 : Below w.heap.size w w1 := bel_trans (belx) hb1
  have R1 : Box w1 (w.heap.size + 1) 33 #[.slice none 0 0, .slice none 0 0] := Box.below (Box.alloc (by simpa using Box.new (w.alloc _) 33 #[.slice none 0 0, .slice none 0 0]) _) hb1 (by first | (simp; done) | (simp; omega))
  have L1 : Box w1 (w.heap.size + 1 + 1) 33 #[.slice none 0 0, .slice none 0 0] := Box.below (by simpa using Box.new ((w.alloc _).alloc _) 33 #[.slice none 0 0, .slice none 0 0]) hb1 (by first | (simp; done) | (simp; omega))
  have P1 : Box w1 w.heap.size 25 #[.slice A0 r0.length c0, .slice A1 l1.length c1] := Box.below (((Box.new w 25 #[.slice A0 r0.length c0, .slice A1 l1.length c1]).alloc _).alloc _) hb1 (by first | (simp; done) | (simp; omega))
  have hM1 : New (w.heap.size + 3) (F0) := hN1.lower (by simp)
  clear hN1
  have y1 : ∀ f ∈ F0, f < w1.heap.size := by intro f hf; exact tWhole.row.lt o0 f hf
  have kr1_0 := R1.cell 0; have fr1_0 := R1.frozen 0; have kl1_0 := L1.cell 0; have fl1_0 := L1.frozen 0; have kp1_0 := P1.cell 0
  have kr1_1 := R1.cell 1; have fr1_1 := R1.frozen 1; have kl1_1 := L1.cell 1; have fl1_1 := L1.frozen 1; have kp1_1 := P1.cell 1
  go_wp2_with fail
  refine (o_toIntS (tIs.reach hr1 ?hB) (by omega)).mono ?_
  case hB => exact (belx)
  rintro e w2 ⟨B1, d1, F1, rfl, o1, hN2, hb2⟩
  have z2 : w.heap.size + 3 ≤ w2.heap.size := Nat.le_trans z1 (by have := hb2.size; simpa using this)
  have hB2 : Below w.heap.size w w2 := bel_trans (belx) hb2
  have R2 : Box w2 (w.heap.size + 1) 33 #[.slice none 0 0, .slice none 0 0] := Box.below (R1.far (p := ⟨w.heap.size + 1 + 1, 0, none⟩) (by first | (simp; done) | (simp; omega)) (.slice B0 r0.length d0)) hb2 (by first | (simp; done) | (simp; omega))
  have L2 : Box w2 (w.heap.size + 1 + 1) 33 #[.slice B0 r0.length d0, .slice none 0 0] := Box.below (by simpa using (L1.put 0 (.slice B0 r0.length d0))) hb2 (by first | (simp; done) | (simp; omega))
  have P2 : Box w2 w.heap.size 25 #[.slice A0 r0.length c0, .slice A1 l1.length c1] := Box.below (P1.far (p := ⟨w.heap.size + 1 + 1, 0, none⟩) (by first | (simp; done) | (simp; omega)) (.slice B0 r0.length d0)) hb2 (by first | (simp; done) | (simp; omega))
  replace o0 := Ty.below (t := tWhole.row) (Ty.far (t := tWhole.row) o0 hM1 (p := ⟨w.heap.size + 1 + 1, 0, none⟩) (by first | (simp; done) | (simp; omega)) (.slice B0 r0.length d0)) hb2
  have hM2 : New (w.heap.size + 3) (F1) := hN2.lower (by simp; omega)
  have hV2 : New w1.heap.size (F1) := hN2.lower (by first | (simp; done) | (simp; omega))
  have zz2 : w1.heap.size ≤ w2.heap.size := by have := hb2.size; simpa using this
  clear hN2
  have y2 : ∀ f ∈ F1, f < w2.heap.size := by intro f hf; exact tIs.lt o1 f hf
  have kr2_0 := R2.cell 0; have fr2_0 := R2.frozen 0; have kl2_0 := L2.cell 0; have fl2_0 := L2.frozen 0; have kp2_0 := P2.cell 0
  have kr2_1 := R2.cell 1; have fr2_1 := R2.frozen 1; have kl2_1 := L2.cell 1; have fl2_1 := L2.frozen 1; have kp2_1 := P2.cell 1
  go_wp2
  have RR := (((R2.far (p := ⟨w.heap.size + 1 + 1, 1, none⟩) (by first | (simp; done) | (simp; omega)) (.slice B1 l1.length d1)).put 0 (.slice B0 r0.length d0)).put 1 (.slice B1 l1.length d1))
  have e0 := RR.cell 0
  have e1 := RR.cell 1
  have u0 := (Ty.far (t := tWhole.row) (Ty.far (t := tWhole.row) (Ty.far (t := tWhole.row) o0 hM1 (p := ⟨w.heap.size + 1 + 1, 1, none⟩) (by first | (simp; done) | (simp; omega)) (.slice B1 l1.length d1)) hM1 (p := ⟨w.heap.size + 1, 0, none⟩) (by first | (simp; done) | (simp; omega)) (.slice B0 r0.length d0)) hM1 (p := ⟨w.heap.size + 1, 1, none⟩) (by first | (simp; done) | (simp; omega)) (.slice B1 l1.length d1))
  have u1 := (Ty.far (t := tIs) (Ty.far (t := tIs) (Ty.far (t := tIs) o1 hM2 (p := ⟨w.heap.size + 1 + 1, 1, none⟩) (by first | (simp; done) | (simp; omega)) (.slice B1 l1.length d1)) hM2 (p := ⟨w.heap.size + 1, 0, none⟩) (by first | (simp; done) | (simp; omega)) (.slice B0 r0.length d0)) hM2 (p := ⟨w.heap.size + 1, 1, none⟩) (by first | (simp; done) | (simp; omega)) (.slice B1 l1.length d1))
  obtain ⟨F, hF, hFe⟩ := makeODesk (p := (r0, l1)) u0 u1
  refine bodyPost_ret (v := .agg #[.slice B0 r0.length d0, .slice B1 l1.length d1]) (by simp [results, Tryz.results9, go_sem, e0, e1]) rfl ⟨_, F, rfl, hF, ?_, ?_⟩
  · rw [hFe]
    exact New.lower (B := w.heap.size + 3) (by exact (New.app hM1 hV2 (by omega) y1)) (by omega)
  · exact (bel_put (bel_put (bel_put hB2 (by first | (simp; done) | (simp; omega)) _) (by first | (simp; done) | (simp; omega)) _) (by first | (simp; done) | (simp; omega)) _)
theorem o_eqDesk {w : World} {cs cs' : List Value} {p : DDesk} (h : tDesk.R w w.heap.size cs p) (h' : tDesk.R w w.heap.size cs' p) :
    Calls Tryz.prog 12 #[.agg cs.toArray, .agg cs'.toArray] w fun e w' => e = .returned (.bool true) ∧ Below w.heap.size w w' := by
  obtain ⟨A0, n0, c0, A1, n1, c1, rfl, ha0, hb0, hl0, hr0, ha1, hb1, hl1, hr1⟩ := openDesk h
  obtain ⟨A0', n0', c0', A1', n1', c1', rfl, ha0', hb0', hl0', hr0', ha1', hb1', hl1', hr1'⟩ := openDesk h'
  obtain ⟨r0, l1⟩ := p
  try dsimp only at *
  subst hl0
  subst hl0'
  subst hl1
  subst hl1'
  go_enter Tryz.func12, Tryz.ntmps12
  go_wp2_with fail
  refine (o_eqWholeS (tWhole.row.reach hr0 ?hB) (tWhole.row.reach hr0' ?hB)).mono ?_
  case hB => exact (belx)
  rintro e w1 ⟨rfl, hb1⟩
  have hB1 : Below w.heap.size w w1 := bel_trans (belx) hb1
  have P1 : Box w1 w.heap.size 33 #[.slice A0 r0.length c0, .slice A1 l1.length c1] := ((Box.new _ _ _).alloc _).below hb1 (by first | (simp; done) | (simp; omega))
  have Q1 : Box w1 (w.heap.size + 1) 33 #[.slice A0' r0.length c0', .slice A1' l1.length c1'] := Box.below (by simpa using Box.new (w.alloc _) 33 #[.slice A0' r0.length c0', .slice A1' l1.length c1']) hb1 (by first | (simp; done) | (simp; omega))
  have e0_1 := P1.cell 1
  have e0_1q := Q1.cell 1
  go_wp2_with fail
  refine (o_eqIntS (tIs.reach hr1 ?hB) (tIs.reach hr1' ?hB)).mono ?_
  case hB => exact (belx)
  rintro e w2 ⟨rfl, hb2⟩
  have hB2 : Below w.heap.size w w2 := bel_trans (belx) hb2
  have P2 := P1.below hb2 P1.size
  have Q2 := Q1.below hb2 Q1.size
  go_wp2
  go_ret
  exact ⟨rfl, hB2⟩
theorem o_markDesk {w : World} {cs : List Value} {p : DDesk} {F : List Nat} (k : Int) (h : tDesk.O w cs p F) (hF : F.Nodup) (h0 : 0 ≤ k) (hk : k + cntDesk p ≤ 4611686018427387904) :
    Calls Tryz.prog 15 #[.agg cs.toArray, .int .i64 k] w fun e w' => e = .returned (.int .i64 (k + cntDesk p)) ∧ tDesk.O w' cs (mkDesk k p) F ∧ Only F w w' := by
  obtain ⟨A0, c0, F0, A1, c1, F1, rfl, hFe, ha0, hb0, hr0, ha1, hb1, hr1⟩ := openODesk h
  obtain ⟨r0, l1⟩ := p
  try dsimp only [cntDesk] at *
  subst F
  have nd0 : F0.Nodup := (List.nodup_append.1 hF).1
  have nd1 : F1.Nodup := (List.nodup_append.1 hF).2.1
  have ap0_1 : ∀ f ∈ F0, f ∉ F1 := fun f h1 h2 => (List.nodup_append.1 hF).2.2 f (by simp [h1]) f h2 rfl
  go_enter Tryz.func15, Tryz.ntmps15
  replace hr0 : tWhole.row.O (w.alloc (.cells #[.slice A0 r0.length c0, .slice A1 l1.length c1] 33)) _ _ _ := Ty.below hr0 (belx)
  replace hr1 : tIs.O (w.alloc (.cells #[.slice A0 r0.length c0, .slice A1 l1.length c1] 33)) _ _ _ := Ty.below hr1 (belx)
  have G0 : Only (F0 ++ F1) w (w.alloc (.cells #[.slice A0 r0.length c0, .slice A1 l1.length c1] 33)) := (Only.refl _ _).alloc _
  have P0 : Box (w.alloc (.cells #[.slice A0 r0.length c0, .slice A1 l1.length c1] 33)) w.heap.size 33 #[.slice A0 r0.length c0, .slice A1 l1.length c1] := Box.new _ _ _
  have y0 : ∀ f ∈ F0, f < w.heap.size := fun f hf => (tDesk).lt h f (by simp [hf])
  have y1 : ∀ f ∈ F1, f < w.heap.size := fun f hf => (tDesk).lt h f (by simp [hf])
  go_wp2_with fail
  refine (o_markWholeS (k) hr0 nd0 (by omega) (by omega)).mono ?_
  rintro e w1 ⟨rfl, hO1, hG1⟩
  have G1 := G0.trans (hG1.mono (by intro f hf; (try simp only [List.mem_append] at hf ⊢); first | assumption | (simp only [hf, true_or, or_true]) | (rcases hf with hf | hf <;> simp only [hf, true_or, or_true])))
  have P1 : Box w1 w.heap.size 33 #[.slice A0 r0.length c0, .slice A1 l1.length c1] := P0.same (hG1.block _ P0.size (by intro e; (try simp only [List.mem_append] at e); rcases e with e <;> first | (have := y0 _ e; omega)))
  have e1_0 := P1.cell 0
  have e1_1 := P1.cell 1
  replace hr1 := Ty.only hr1 hG1 (by intro f hf e; (try simp only [List.mem_append] at e); rcases e with e <;> first | exact ap0_1 f e hf)
  replace hr0 := hO1
  go_wp2_with fail
  refine (o_markIntS (k + ((rsum rcWhole r0 : Nat) : Int)) hr1 (by omega) (by omega)).mono ?_
  rintro e w2 ⟨rfl, hO2, hG2⟩
  have G2 := G1.trans (hG2.mono (by intro f hf; (try simp only [List.mem_append] at hf ⊢); first | assumption | (simp only [hf, true_or, or_true]) | (rcases hf with hf | hf <;> simp only [hf, true_or, or_true])))
  have P2 : Box w2 w.heap.size 33 #[.slice A0 r0.length c0, .slice A1 l1.length c1] := P1.same (hG2.block _ P1.size (by intro e; (try simp only [List.mem_append] at e); rcases e with e <;> first | (have := y1 _ e; omega)))
  have e2_0 := P2.cell 0
  have e2_1 := P2.cell 1
  replace hr0 := Ty.only hr0 hG2 (by intro f hf e; (try simp only [List.mem_append] at e); rcases e with e <;> first | exact ap0_1 f hf e)
  replace hr1 := hO2
  go_wp2
  go_ret
  obtain ⟨F2, hF2, hFe⟩ := makeODesk (p := mkDesk k (r0, l1)) hr0 hr1
  subst F2
  exact ⟨ret_int (by omega), hF2, G2⟩
theorem o_heldDesk {w : World} {cs : List Value} {p : DDesk} (k : Int) (h : tDesk.R w w.heap.size cs (mkDesk k p)) (h0 : 0 ≤ k) (hk : k + cntDesk p ≤ 4611686018427387904) :
    Calls Tryz.prog 18 #[.agg cs.toArray, .int .i64 k] w fun e w' => e = .returned (.int .i64 (k + cntDesk p)) ∧ Below w.heap.size w w' := by
  obtain ⟨A0, n0, c0, A1, n1, c1, rfl, ha0, hb0, hl0, hr0, ha1, hb1, hl1, hr1⟩ := openDesk h
  obtain ⟨r0, l1⟩ := p
  try dsimp only [cntDesk, mkDesk] at *
  have d0 : decide (k + ((rsum rcWhole r0 : Nat) : Int) < 0) = false := by simp; omega
  have d1 : decide (k + ((rsum rcWhole r0 : Nat) : Int) + ((l1.length : Nat) : Int) < 0) = false := by simp; omega
  go_enter Tryz.func18, Tryz.ntmps18
  go_wp2_with fail
  refine (o_heldWholeS (k) (tWhole.row.reach hr0 ?hB) (by omega) (by omega)).mono ?_
  case hB => exact (belx)
  rintro e w1 ⟨rfl, hb1⟩
  have hB1 : Below w.heap.size w w1 := bel_trans (belx) hb1
  have P1 : Box w1 w.heap.size 33 #[.slice A0 n0 c0, .slice A1 n1 c1] := (Box.new _ _ _).below hb1 (by first | (simp; done) | (simp; omega))
  have e0_1 := P1.cell 1
  go_wp2_with fail
  refine (o_heldIntS (k + ((rsum rcWhole r0 : Nat) : Int)) (tIs.reach hr1 ?hB) (by omega) (by omega)).mono ?_
  case hB => exact (belx)
  rintro e w2 ⟨rfl, hb2⟩
  have hB2 : Below w.heap.size w w2 := bel_trans (belx) hb2
  have P2 := P1.below hb2 P1.size
  go_wp2
  go_ret
  exact ⟨ret_int (by omega), hB2⟩
end Go.Proofs.YtaabmaoldhoinaaGreat
namespace Go.Proofs.YtaabmaoldhoinaaGreat
open Go.RowKit

theorem wf_i64 {x : Int} (h1 : -9223372036854775808 ≤ x) (h2 : x ≤ 9223372036854775807) : (Lit.int .i64 x).wf = true := WalkArith.wf_i64 ⟨by omega, by omega⟩
theorem own_sn {k : IntKind} {e : TypeId} {w w1 : World} {base : Nat} {v v1 : Value} {l l' : List Int} {x : Int} (h : Own k e w base v l) (h1 : w1.ownsRow base e 1 v1 (l.length + 1) (l.map (Value.int k) ++ [.int k x])) (hl : l' = l ++ [x]) (hx : (Lit.int k x).wf = true) : Own k e w1 base v1 l' := by
  subst hl
  refine Own.of (n := l.length + 1) (by simpa using h1) fun y hy => ?_
  rcases List.mem_append.1 hy with h' | h'
  · exact h.2 y h'
  · rw [List.mem_singleton] at h'; rw [h']; exact hx
theorem below_sn {k : IntKind} {e : TypeId} {w wr w1 : World} {base : Nat} {v : Value} {l : List Int} {o : Obj} (hB : Below w.heap.size w wr) (h : Own k e wr base v l) (hb : w.heap.size ≤ base) (hg : (wr.alloc o).grownBy w1 v.ownBlock) : Below w.heap.size w w1 :=
  (hB.alloc hB.size o).grown hg (by simp; have := hB.size; omega) fun b hb' => by have := (h.1.lt b hb').1; omega
end Go.Proofs.YtaabmaoldhoinaaGreat
namespace Go.Proofs.YtaabmaoldhoinaaGreat
set_option maxRecDepth 100000
set_option linter.unusedVariables false
set_option linter.unusedSimpArgs false
open Go.ChangeShapes Go.WideShapes Go.ChangeAt Go.RowKit
section
variable {α : Type} {P : α → Prop} {p : α → Bool} {f : α → Int} {l : List α} {a : α} {j : Nat}
theorem al0 : ∀ h ∈ l.take 0, P h := fun h hh => absurd hh (by simp)
theorem alS (h : ∀ x ∈ l.take j, P x) (hl : l[j]? = some a) (ha : P a) : ∀ x ∈ l.take (j + 1), P x := by
  rw [take_sn hl]
  intro x hx
  rcases List.mem_append.1 hx with h' | h'
  · exact h x h'
  · rw [List.mem_singleton] at h'; rw [h']; exact ha
theorem alE (h : ∀ x ∈ l.take j, P x) (hj : l.length ≤ j) : ∀ x ∈ l, P x := by rwa [List.take_of_length_le hj] at h
theorem alMem (hl : l[j]? = some a) : a ∈ l := List.mem_of_getElem? hl
theorem alF (hl : l[j]? = some a) (h : p a = false) : l.all p = false := List.all_eq_false.2 ⟨a, alMem hl, by rw [h]; decide⟩
theorem alT (h : ∀ x ∈ l.take j, p x = true) (hj : l.length ≤ j) : l.all p = true := List.all_eq_true.2 (alE h hj)
theorem mapS (hl : l[j]? = some a) : (l.take (j + 1)).map f = (l.take j).map f ++ [f a] := by rw [take_sn hl, List.map_append]; rfl
theorem mapLen (hn : j ≤ l.length) : ((l.take j).map f).length = j := by rw [List.length_map, List.length_take]; omega
theorem alDec [∀ x, Decidable (P x)] (h : ∀ x ∈ l, P x) : (l.all fun x => decide (P x)) = true := List.all_eq_true.2 fun x hx => decide_eq_true (h x hx)
theorem alDecF [∀ x, Decidable (P x)] (h : ¬ ∀ x ∈ l, P x) : (l.all fun x => decide (P x)) = false := Bool.eq_false_iff.2 fun hh => h fun x hx => of_decide_eq_true (List.all_eq_true.1 hh x hx)
end
theorem atI {l : List Int} {n j : Nat} (h : l.length = n) (hj : j < n) : l[j]? = some (l.getD j 0) := by
  rw [List.getD_eq_getElem?_getD, List.getElem?_eq_getElem (by omega)]; rfl
/-- every over whatever function of numbers. -/
theorem i_everyI {w : World} {B n c : Nat} {A : Option Addr} {l : List Int} (F : Nat) (p : Int → Bool) (hE : ∀ (x : Int) (w : World), Sem.run Tryz.prog (callFunc F #[Value.int .i64 x]) w = .ok (.enter F #[Value.int .i64 x]) w) (hF : ∀ (x : Int) (w : World), Calls Tryz.prog F #[.int .i64 x] w fun e w' => e = .returned (.bool (p x)) ∧ w = w') (hl : Ints .i64 w B A n l) (hn : n ≤ 17592186043904) :
    Calls Tryz.prog 69 #[.slice A n c, .func (.func F) #[] #[]] w fun e w' => e = .returned (.bool (l.all p)) ∧ w = w' := by
  have HL := Lib.hid hl.1
  have HF := Lib.hid hF
  have HE := Lib.hid hE
  clear hF hE
  go_enter Tryz.func69, Tryz.ntmps69
  go_wp2_with fail
  go_loopw [9] (fun i wr => ∃ k : Nat, k ≤ n ∧ i = .int .i64 k ∧ (∀ x ∈ l.take k, p x = true) ∧ wr = w) (fun i _ => n - (intOf i).toNat)
  case atStart => exact ⟨0, by omega, rfl, al0, rfl⟩
  case round =>
    obtain ⟨k, hk, rfl, hG, rfl⟩ := hrel
    have HG := Lib.hid hG
    clear hG
    by_cases hlt : k < n
    · obtain ⟨b, off, rfl, hb, hcell, hwf⟩ := hl.at_ hlt
      have HA := Lib.hid (atI HL.out hlt)
      obtain ⟨x, hx⟩ : ∃ x, l.getD k 0 = x := ⟨_, rfl⟩
      rw [hx] at hcell HA
      clear hx hwf
      have q2 : (k : Int) < (n : Int) := by omega
      go_wp2_with fail
      rw [HE.out, Oper.upon_enter]
      refine (HF.out x _).mono ?_
      rintro e w' ⟨rfl, rfl⟩
      obtain ⟨d, hd⟩ : ∃ d, p x = d := ⟨_, rfl⟩
      rw [hd]
      have HD := Lib.hid hd
      clear hd
      cases d
      · have HR := Lib.hid (alF HA.out HD.out)
        go_wp2
        go_ret
        exact ⟨ret_bool HR.out.symm, rfl⟩
      · go_wp2
        go_roundw
        case rel => exact ⟨k + 1, by omega, by go_num, alS HG.out HA.out HD.out, trivial⟩
        case measure => simp [intOf]; omega
    · obtain rfl : k = n := by omega
      have q2 : ¬ (k : Int) < (k : Int) := by omega
      have HR := Lib.hid (alT HG.out (Nat.le_of_eq HL.out))
      go_wp2
      go_ret
      exact ⟨ret_bool HR.out.symm, rfl⟩
end Go.Proofs.YtaabmaoldhoinaaGreat
namespace Go.Proofs.YtaabmaoldhoinaaGreat
open Fld

/-! ### bytes -/
def Bytes (l : List Int) : Prop := ∀ x ∈ l, 0 ≤ x ∧ x < 256
theorem Bytes.at_ {l : List Int} (h : Bytes l) (i : Nat) : 0 ≤ l.getD i 0 ∧ l.getD i 0 < 256 := by
  rw [List.getD_eq_getElem?_getD]
  by_cases hi : i < l.length
  · rw [List.getElem?_eq_getElem hi, Option.getD_some]; exact h _ (List.getElem_mem _)
  · rw [List.getElem?_eq_none (by omega)]; exact ⟨Int.le_refl _, by decide⟩
theorem Bytes.take {l : List Int} (h : Bytes l) (n : Nat) : Bytes (l.take n) := fun x hx => h x (List.mem_of_mem_take hx)
theorem Bytes.drop {l : List Int} (h : Bytes l) (n : Nat) : Bytes (l.drop n) := fun x hx => h x (List.mem_of_mem_drop hx)
theorem Bytes.app {l r : List Int} (h : Bytes l) (h' : Bytes r) : Bytes (l ++ r) := fun x hx => (List.mem_append.1 hx).elim (h x) (h' x)
theorem Bytes.set {l : List Int} (h : Bytes l) (i : Nat) {x : Int} (hx : 0 ≤ x ∧ x < 256) : Bytes (l.set i x) := fun y hy => by
  rcases List.mem_or_eq_of_mem_set hy with h' | rfl
  · exact h y h'
  · exact hx
/-! ### the key stream -/
/-! ### the code -/
def macR (k : Int) : Int := 1 + keyP k 71 % 2147483646
/-- What the code is when j bytes are over. -/
def macN (r n : Int) (l : List Int) (j : Nat) : Int := (l.take j).foldl (fun n b => addP (addP (mulP n r) b) 1) n
def macV (k : Int) (l : List Int) : Int := macN (macR k) (l.length + 1) l l.length
def mac (k : Int) (l : List Int) : Int := addP (mulP (macV k l) (macR k)) (keyP k 72)
/-! ### sealing -/
def get4 (l : List Int) : Int := l.getD 0 0 * 16777216 + l.getD 1 0 * 65536 + l.getD 2 0 * 256 + l.getD 3 0
def opens (k : Int) (l : List Int) : Prop := 4 ≤ l.length ∧ get4 l = mac (keyP k 2) (l.drop 4)
instance (k : Int) (l : List Int) : Decidable (opens k l) := by unfold opens; infer_instance
end Go.Proofs.YtaabmaoldhoinaaGreat
namespace Go.Proofs.YtaabmaoldhoinaaGreat
set_option linter.unusedVariables false
open Go.RowKit
theorem flat_at {css : List (List Value)} {k : Nat} (h : ∀ es ∈ css, es.length = k) {i j : Nat} {es : List Value} (hi : css[i]? = some es) (hj : j < k) : css.flatten[i * k + j]? = es[j]? := by
  induction css generalizing i with
  | nil => simp at hi
  | cons c0 css ih =>
    have h0 := h c0 (by simp)
    rw [List.flatten_cons]
    cases i with
    | zero =>
      simp at hi
      subst hi
      rw [Nat.zero_mul, Nat.zero_add, List.getElem?_append_left (by omega)]
    | succ i =>
      simp at hi
      rw [Nat.succ_mul, List.getElem?_append_right (by omega), show i * k + k + j - c0.length = i * k + j by omega]
      exact ih (fun es hes => h es (by simp [hes])) hi
theorem flat_len {css : List (List Value)} {k : Nat} (h : ∀ es ∈ css, es.length = k) : css.flatten.length = css.length * k := by
  induction css with
  | nil => simp
  | cons c0 css ih =>
    rw [List.flatten_cons, List.length_append, h c0 (by simp), ih (fun es hes => h es (by simp [hes])), List.length_cons, Nat.succ_mul]; omega
section
variable {α : Type} {t : Ty α} {e : TypeId} {w w' : World} {base : Nat} {v : Value} {l : List α} {F : List Nat}
def GrowO (t : Ty α) (e : TypeId) (w : World) (base : Nat) (v : Value) (l : List α) (F : List Nat) : Prop :=
  (∃ (css : List (List Value)) (Fs : List (List Nat)), w.ownsRow base e t.k v l.length css.flatten ∧ css.length = l.length ∧ Fs.length = l.length ∧ F = Fs.flatten ∧
    ∀ (i : Nat) (a : α) (es : List Value) (Fi : List Nat), l[i]? = some a → css[i]? = some es → Fs[i]? = some Fi → t.O w es a Fi) ∧ New base F ∧ ∀ b, v.ownBlock = some b → b ∉ F
theorem GrowO.nil : GrowO t e w base (.slice none 0 0) [] [] :=
  ⟨⟨[], [], ⟨by simp, .inl ⟨rfl, rfl⟩⟩, rfl, rfl, rfl, fun i a es Fi h => by simp at h⟩, New.nil _, fun b h => by simp [Value.ownBlock] at h⟩
theorem GrowO.lt (h : GrowO t e w base v l F) : ∀ f ∈ F, f < w.heap.size := by
  obtain ⟨⟨css, Fs, h1, h2, h3, rfl, h5⟩, _, _⟩ := h
  intro f hf
  obtain ⟨Fi, hFi, hfi⟩ := List.mem_flatten.1 hf
  obtain ⟨i, hi, e1⟩ := List.getElem_of_mem hFi
  have hl : i < l.length := by omega
  have hc : i < css.length := by omega
  exact t.lt (h5 i _ _ Fi (List.getElem?_eq_getElem hl) (List.getElem?_eq_getElem hc) (by rw [List.getElem?_eq_getElem hi, e1])) f hfi
theorem GrowO.below (h : GrowO t e w base v l F) (hB : Below w.heap.size w w') : GrowO t e w' base v l F := by
  obtain ⟨⟨css, Fs, h1, h2, h3, h4, h5⟩, h6, h7⟩ := h
  exact ⟨⟨css, Fs, h1.kept (row := none) (below_grownBy hB) (by cases v.ownBlock <;> simp), h2, h3, h4, fun i a es Fi q1 q2 q3 => Ty.below (h5 i a es Fi q1 q2 q3) hB⟩, h6, h7⟩
theorem GrowO.new (h : GrowO t e w base v l F) : New base F := h.2.1
/-- What an append sees, and what it leaves. -/
theorem GrowO.row (h : GrowO t e w base v l F) : ∃ xs, w.ownsRow base e t.k v l.length xs ∧
    ∀ w3 v1 a es Fa, t.O w es a Fa → New base Fa → (∀ f ∈ Fa, f ∉ F) → (∀ b, v.ownBlock = some b → b ∉ Fa) → w3.ownsRow base e t.k v1 (l.length + 1) (xs ++ es) → w.grownBy w3 v.ownBlock →
      (v1.ownBlock = v.ownBlock ∨ v1.ownBlock = some w.heap.size) → GrowO t e w3 base v1 (l ++ [a]) (F ++ Fa) := by
  have hlt := h.lt
  obtain ⟨⟨css, Fs, h1, h2, h3, rfl, h5⟩, h6, h7⟩ := h
  refine ⟨css.flatten, h1, fun w3 v1 a es Fa q1 q2 q3 q4 q5 q6 q7 => ⟨⟨css ++ [es], Fs ++ [Fa], ?_, by simp [h2], by simp [h3], by simp, ?_⟩, ?_, ?_⟩⟩
  · rw [List.length_append, List.flatten_append]
    simpa using q5
  · intro i b cs Fi r1 r2 r3
    by_cases hi : i < l.length
    · rw [List.getElem?_append_left hi] at r1
      rw [List.getElem?_append_left (by omega)] at r2
      rw [List.getElem?_append_left (by omega)] at r3
      have hO := h5 i b cs Fi r1 r2 r3
      exact t.kept hO fun f hf => q6.block f (t.lt hO f hf) fun e => h7 f e.symm (mem_flat r3 hf)
    · rw [List.getElem?_append_right (by omega)] at r1
      have hi0 : i - l.length = 0 := by
        have := (List.getElem?_eq_some_iff.1 r1).1
        simp at this; omega
      rw [hi0] at r1
      rw [List.getElem?_append_right (by omega), h2, hi0] at r2
      rw [List.getElem?_append_right (by omega), h3, hi0] at r3
      simp at r1 r2 r3
      subst r1 r2 r3
      exact t.kept q1 fun f hf => q6.block f (t.lt q1 f hf) fun e => q4 f e.symm hf
  · refine ⟨List.nodup_append.2 ⟨h6.1, q2.1, fun x hx y hy e => ?_⟩, fun f hf => ?_⟩
    · subst e; exact q3 x hy hx
    · rcases List.mem_append.1 hf with h' | h'
      · exact h6.2 f h'
      · exact q2.2 f h'
  · intro b hb hx
    rcases q7 with q7 | q7
    · rw [q7] at hb
      rcases List.mem_append.1 hx with h' | h'
      · exact h7 b hb h'
      · exact q4 b hb h'
    · rw [q7] at hb
      injection hb with hb
      subst hb
      rcases List.mem_append.1 hx with h' | h'
      · have := hlt _ h'; omega
      · have := t.lt q1 _ h'; omega
theorem GrowO.done (h : GrowO t e w base v l F) : ∃ A c F', v = .slice A l.length c ∧ t.row.O w [.slice A l.length c] l F' ∧ New base F' := by
  obtain ⟨⟨css, Fs, h1, h2, h3, rfl, h5⟩, h6, h7⟩ := h
  rcases h1.2 with ⟨rfl, h0⟩ | ⟨g, cap, cur, rfl, hb, hg, hn, hm, hs, ht⟩
  · have : l = [] := List.eq_nil_of_length_eq_zero h0
    subst this
    exact ⟨none, 0, [], rfl, .inl ⟨none, 0, rfl, by omega, rfl, rfl⟩, New.nil _⟩
  · by_cases h0 : 0 < l.length
    · refine ⟨_, cap, g :: Fs.flatten, rfl, .inr ⟨g, 0, cap, cur, e, Fs, rfl, h0, hn, by simp only [maxLen] at hm; omega, hg, h3, rfl, fun i a Fi q1 q2 => ?_⟩, List.nodup_cons.2 ⟨h7 g rfl, h6.1⟩, fun f hf => ?_⟩
      · have hi : i < l.length := (List.getElem?_eq_some_iff.1 q1).1
        have hc : css[i]? = some (css[i]'(by omega)) := List.getElem?_eq_getElem (by omega)
        refine ⟨_, fun j hj => ?_, h5 i a _ Fi q1 hc q2⟩
        have hlen : ∀ es ∈ css, es.length = t.k := fun es hes => by
          obtain ⟨i', hi', rfl⟩ := List.getElem_of_mem hes
          exact t.lenO (h5 i' _ _ _ (List.getElem?_eq_getElem (by omega)) (List.getElem?_eq_getElem hi') (List.getElem?_eq_getElem (by omega)))
        have hb2 : (i + 1) * t.k ≤ l.length * t.k := Nat.mul_le_mul_right _ hi
        rw [Nat.succ_mul] at hb2
        rw [← flat_at hlen hc hj, ← ht, List.getElem?_take, if_pos (by omega)]
        simp
      · rcases List.mem_cons.1 hf with rfl | hf
        · exact hb
        · exact h6.2 f hf
    · have : l = [] := List.eq_nil_of_length_eq_zero (by omega)
      subst this
      exact ⟨_, cap, [], rfl, .inl ⟨_, cap, rfl, by simp only [maxLen] at hm; omega, rfl, rfl⟩, New.nil _⟩
end
section
variable {α : Type} {t : Ty α} {e : TypeId} {w w' : World} {base B : Nat} {v : Value} {l : List α}
/-- A row of a call's own whose elements read below B: what they hold may be another's. -/
def GrowR (t : Ty α) (e : TypeId) (w : World) (base B : Nat) (v : Value) (l : List α) : Prop :=
  ∃ (css : List (List Value)), w.ownsRow base e t.k v l.length css.flatten ∧ css.length = l.length ∧ ∀ (i : Nat) (a : α) (es : List Value), l[i]? = some a → css[i]? = some es → t.R w B es a
theorem GrowR.nil : GrowR t e w base B (.slice none 0 0) [] := ⟨[], ⟨by simp, .inl ⟨rfl, rfl⟩⟩, rfl, fun i a es h => by simp at h⟩
theorem GrowR.below (h : GrowR t e w base B v l) (hB : Below w.heap.size w w') (hb : B ≤ w.heap.size) : GrowR t e w' base B v l := by
  obtain ⟨css, h1, h2, h5⟩ := h
  exact ⟨css, h1.kept (row := none) (below_grownBy hB) (by cases v.ownBlock <;> simp), h2, fun i a es q1 q2 => t.keep (h5 i a es q1 q2) fun b hlt => hB.block b (by omega)⟩
theorem GrowR.row (h : GrowR t e w base B v l) (hb : B ≤ base) (hw : B ≤ w.heap.size) : ∃ xs, w.ownsRow base e t.k v l.length xs ∧
    ∀ w3 v1 a es, t.R w B es a → w3.ownsRow base e t.k v1 (l.length + 1) (xs ++ es) → w.grownBy w3 v.ownBlock → GrowR t e w3 base B v1 (l ++ [a]) := by
  obtain ⟨css, h1, h2, h5⟩ := h
  have hown := fun b hb => h1.lt b hb
  refine ⟨css.flatten, h1, fun w3 v1 a es q1 q5 q6 => ⟨css ++ [es], ?_, by simp [h2], ?_⟩⟩
  · rw [List.length_append, List.flatten_append]
    simpa using q5
  · have keep : ∀ b, b < B → w3.heap[b]? = w.heap[b]? := fun b hlt => q6.block b (by omega) fun e => by have := (hown b e.symm).1; omega
    intro i b cs r1 r2
    by_cases hi : i < l.length
    · rw [List.getElem?_append_left hi] at r1
      rw [List.getElem?_append_left (by omega)] at r2
      exact t.keep (h5 i b cs r1 r2) keep
    · rw [List.getElem?_append_right (by omega)] at r1
      have hi0 : i - l.length = 0 := by
        have := (List.getElem?_eq_some_iff.1 r1).1
        simp at this; omega
      rw [hi0] at r1
      rw [List.getElem?_append_right (by omega), h2, hi0] at r2
      simp at r1 r2
      subst r1 r2
      exact t.keep q1 keep
theorem GrowR.done (h : GrowR t e w base B v l) (hw : B ≤ w.heap.size) : ∃ A c, v = .slice A l.length c ∧ t.row.R w w.heap.size [.slice A l.length c] l := by
  obtain ⟨css, h1, h2, h5⟩ := h
  rcases h1.2 with ⟨rfl, h0⟩ | ⟨g, cap, cur, rfl, hb, hg, hn, hm, hs, ht⟩
  · have : l = [] := List.eq_nil_of_length_eq_zero h0
    subst this
    exact ⟨none, 0, rfl, none, 0, 0, rfl, Nat.le_refl _, by omega, rfl, fun h => absurd h (by omega)⟩
  · refine ⟨_, cap, rfl, _, l.length, cap, rfl, hn, by simp only [maxLen] at hm; omega, rfl, fun _ => ⟨g, 0, rfl, Box.size (t := e) hg, fun i a q1 => ?_⟩⟩
    have hi : i < l.length := (List.getElem?_eq_some_iff.1 q1).1
    have hc : css[i]? = some (css[i]'(by omega)) := List.getElem?_eq_getElem (by omega)
    refine ⟨_, fun j hj => ?_, t.up (h5 i a _ q1 hc) hw⟩
    have hlen : ∀ es ∈ css, es.length = t.k := fun es hes => by
      obtain ⟨i', hi', rfl⟩ := List.getElem_of_mem hes
      exact t.lenR (h5 i' _ _ (List.getElem?_eq_getElem (by omega)) (List.getElem?_eq_getElem hi'))
    have hb2 : (i + 1) * t.k ≤ l.length * t.k := Nat.mul_le_mul_right _ hi
    rw [Nat.succ_mul] at hb2
    rw [Box.cell (t := e) hg, ← flat_at hlen hc hj, ← ht, List.getElem?_take, if_pos (by omega)]
    simp
end
/-- The cells of one struct that have just been laid, as what an append takes in. -/
theorem Src.of_box (w : World) (t : TypeId) (es : List Value) {K : Nat} (hK : es.length = K) : Src (w.alloc (.cells es.toArray t)) K (some ⟨w.heap.size, 0, none⟩) 1 es := by
  refine ⟨by omega, fun _ => ⟨_, 0, rfl, fun j u hj => ?_⟩⟩
  rw [Nat.zero_add, (Box.new w t es.toArray).cell]
  simpa using hj
end Go.Proofs.YtaabmaoldhoinaaGreat
namespace Go.Proofs.YtaabmaoldhoinaaGreat
set_option linter.unusedVariables false
open Go.RowKit
section
variable {α : Type} {t : Ty α} {e : TypeId} {w w' : World} {base B n c : Nat} {A : Option Addr} {v : Value} {l l' : List α}
/-- The cells of a row that reads, as what an append takes in. -/
theorem row_src (h : t.row.R w B [.slice A n c] l) (h1 : ∀ es a, t.R w B es a → ∀ u ∈ es, u.oneCell' = true) :
    ∃ css : List (List Value), css.length = l.length ∧ (∀ (i : Nat) (a : α) (es : List Value), l[i]? = some a → css[i]? = some es → t.R w B es a) ∧ Src w t.k A n css.flatten ∧ ∀ u ∈ css.flatten, u.oneCell' = true := by
  obtain ⟨A', n', c', e1, h2, h3, h4, h5⟩ := h
  injection e1 with e1 _
  injection e1 with e1 e2 e3
  subst e1 e2 e3
  by_cases h0 : 0 < n
  · obtain ⟨b, off, rfl, hb, hc⟩ := h5 h0
    have hx : ∀ i, i < l.length → ∃ es, (∀ j, j < t.k → w.cell? ⟨b, off + i * t.k + j, none⟩ = es[j]?) ∧ ∀ a, l[i]? = some a → t.R w B es a := fun i hi => by
      obtain ⟨es, k1, k2⟩ := hc i _ (List.getElem?_eq_getElem hi)
      exact ⟨es, k1, fun a ha => by rw [List.getElem?_eq_getElem hi] at ha; injection ha with ha; rw [← ha]; exact k2⟩
    obtain ⟨css, hcs⟩ : ∃ css, css = (List.range l.length).pmap (fun i hi => (hx i hi).choose) (fun i hi => List.mem_range.1 hi) := ⟨_, rfl⟩
    have hlen : css.length = l.length := by rw [hcs]; simp
    have hat : ∀ i es, css[i]? = some es → ∃ hi : i < l.length, es = (hx i hi).choose := fun i es hi => by
      rw [hcs, List.getElem?_pmap] at hi
      by_cases hl : i < l.length
      · refine ⟨hl, ?_⟩
        simp [List.getElem?_range hl] at hi
        exact hi.symm
      · simp [List.getElem?_eq_none (show (List.range l.length).length ≤ i by simp; omega)] at hi
    have hk : ∀ es ∈ css, es.length = t.k := fun es hes => by
      obtain ⟨i, hi, rfl⟩ := List.getElem_of_mem hes
      obtain ⟨hl, e⟩ := hat i _ (List.getElem?_eq_getElem hi)
      exact t.lenR (B := B) ((congrArg (fun x => t.R w B x _) e).mpr ((hx i hl).choose_spec.2 _ (List.getElem?_eq_getElem hl)))
    refine ⟨css, hlen, fun i a es hi he => ?_, ⟨by rw [flat_len hk, hlen, h4], fun _ => ⟨b, off, rfl, fun j u hj => ?_⟩⟩, fun u hu => ?_⟩
    · obtain ⟨hl, rfl⟩ := hat i es he
      exact (hx i hl).choose_spec.2 a hi
    · have hj2 : j < css.length * t.k := by rw [← flat_len hk]; exact (List.getElem?_eq_some_iff.1 hj).1
      have hkp : 0 < t.k := by
        rcases Nat.eq_zero_or_pos t.k with h | h
        · rw [h] at hj2; omega
        · exact h
      have hq : j / t.k < css.length := (Nat.div_lt_iff_lt_mul hkp).2 hj2
      have hr : j % t.k < t.k := Nat.mod_lt _ hkp
      have e0 : j / t.k * t.k + j % t.k = j := by rw [Nat.mul_comm]; exact Nat.div_add_mod _ _
      have h6 := flat_at hk (List.getElem?_eq_getElem hq) hr
      rw [e0, hj] at h6
      obtain ⟨hl, e⟩ := hat (j / t.k) _ (List.getElem?_eq_getElem hq)
      have h7 := (hx _ hl).choose_spec.1 _ hr
      rw [← e, ← h6, Nat.add_assoc, e0] at h7
      exact h7
    · obtain ⟨es, hes, hu⟩ := List.mem_flatten.1 hu
      obtain ⟨i, hi, rfl⟩ := List.getElem_of_mem hes
      obtain ⟨hl, e⟩ := hat i _ (List.getElem?_eq_getElem hi)
      exact h1 _ _ ((congrArg (fun x => t.R w B x _) e).mpr ((hx i hl).choose_spec.2 _ (List.getElem?_eq_getElem hl))) u hu
  · have hl : l = [] := List.eq_nil_of_length_eq_zero (by omega)
    subst hl
    obtain rfl : n = 0 := by omega
    exact ⟨[], rfl, fun i a es hi => by simp at hi, ⟨by simp, fun h => absurd h h0⟩, fun u hu => by simp at hu⟩
/-- What an append of a whole row sees, and what it leaves. -/
theorem GrowR.rows (h : GrowR t e w base B v l) (hr : t.row.R w B [.slice A n c] l') (h1 : ∀ es a, t.R w B es a → ∀ u ∈ es, u.oneCell' = true) (hb : B ≤ base) (hw : B ≤ w.heap.size) :
    ∃ xs news, w.ownsRow base e t.k v l.length xs ∧ Src w t.k A n news ∧ (∀ u ∈ news, u.oneCell' = true) ∧
      ∀ w3 v1, w3.ownsRow base e t.k v1 (l.length + n) (xs ++ news) → w.grownBy w3 v.ownBlock → GrowR t e w3 base B v1 (l ++ l') := by
  obtain ⟨css2, k1, k2, k3, k4⟩ := row_src hr h1
  have hn : l'.length = n := (rowR_len hr).1
  obtain ⟨css, g1, g2, g5⟩ := h
  have hown := fun b hb => g1.lt b hb
  refine ⟨css.flatten, css2.flatten, g1, k3, k4, fun w3 v1 q5 q6 => ⟨css ++ css2, ?_, by simp [g2, k1], ?_⟩⟩
  · rw [List.length_append, List.flatten_append, hn]
    exact q5
  · have keep : ∀ b, b < B → w3.heap[b]? = w.heap[b]? := fun b hlt => q6.block b (by omega) fun e => by have := (hown b e.symm).1; omega
    intro i b cs r1 r2
    by_cases hi : i < l.length
    · rw [List.getElem?_append_left hi] at r1
      rw [List.getElem?_append_left (by omega)] at r2
      exact t.keep (g5 i b cs r1 r2) keep
    · rw [List.getElem?_append_right (by omega)] at r1
      rw [List.getElem?_append_right (by omega), g2] at r2
      exact t.keep (k2 _ b cs r1 r2) keep
end
theorem step_app5 {P : Program} (w : World) {ops : Array Oper} {o : Oper} {a : Act} {K : Act → World → Prop} {Q : Exit → Act → World → Prop} {E : Prop} (hgd : o.guard = none) (s x : Operand) (t : TypeId)
    (ho : o.op = .call { callee := .builtin .append, args := #[s, x], argTypes := #[t, t] })
    (base : Nat) (e : TypeId) (i : TypeInfo) (z : Value) (size bytes : Nat) (ht : P.underlying t = some (.slice e)) (hi : P.info? e = some i) (hz : i.zero = some z)
    (hsize : i.size = size) (hby : i.bytes = bytes) (hzs : z.cells.size = size) (hsz : 0 < size)
    (v : Value) (n : Nat) (xs : List Value) (hs : a.eval s = v) (hown : w.ownsRow base e size v n xs)
    (A : Option Addr) (m c : Nat) (news : List Value) (hx : a.eval x = .slice A m c) (hr : Src w size A m news) (h1 : ∀ u ∈ news, u.oneCell' = true)
    (h63 : n + m ≤ maxLen) (hbytes : (n + m) * bytes ≤ 140737488355328) (hbase : base ≤ w.heap.size)
    (h : ∀ v' w', w'.ownsRow base e size v' (n + m) (xs ++ news) → w.grownBy w' v.ownBlock → (v'.ownBlock = v.ownBlock ∨ v'.ownBlock = some w.heap.size) → K (a.put o.dst v') w') :
    if Region.wanted o (yielded ops a.tmps) = true then Oper.wp P o a w K Q else E := by
  have hw : Region.wanted o (yielded ops a.tmps) = true := by simp [Region.wanted, hgd]
  rw [if_pos hw]
  exact wp_app w s x t ho base e i z size bytes ht hi hz hsize hby hzs hsz v n xs hs hown A m c news hx hr h1 h63 hbytes hbase h
/-- A struct's cells in a block, as what an append takes in. -/
theorem Src.of_boxed {w : World} {g : Nat} {e : TypeId} {es : List Value} {K : Nat} (hb : Box w g e es.toArray) (hK : es.length = K) : Src w K (some ⟨g, 0, none⟩) 1 es := by
  refine ⟨by omega, fun _ => ⟨_, 0, rfl, fun j u hj => ?_⟩⟩
  rw [Nat.zero_add, hb.cell]
  simpa using hj
section
variable {α : Type} {t : Ty α} {e : TypeId} {w w' : World} {base B n c : Nat} {v : Value} {l : List α} {F : List Nat}
theorem GrowR.own (h : GrowR t e w base B v l) : ∀ b, v.ownBlock = some b → base ≤ b ∧ b < w.heap.size := fun b hb => by
  obtain ⟨css, h1, _⟩ := h; exact h1.lt b hb
theorem GrowR.put (h : GrowR t e w base B v l) {p : Addr} (h1 : p.block < base) (h2 : B ≤ p.block) (u : Value) : GrowR t e (w.setCell p u) base B v l := by
  obtain ⟨css, k1, k2, k5⟩ := h
  refine ⟨css, k1.kept (row := some p.block) ⟨rfl, rfl, rfl, by simp [World.setCell], fun i hi hn => Below.heap_setCell w p u i (fun e => hn (by rw [e]))⟩ ?_, k2, fun i a es q1 q2 => t.keep (k5 i a es q1 q2) fun b hlt => Below.heap_setCell w p u b (by omega)⟩
  refine .inr fun e => ?_
  have := (k1.lt _ e).1
  omega
theorem GrowR.shape (h : GrowR t e w base B v l) : ∃ A c, v = .slice A l.length c := by
  obtain ⟨css, h1, _⟩ := h
  rcases h1.2 with ⟨rfl, h0⟩ | ⟨g, cap, cur, rfl, _⟩
  · exact ⟨none, 0, by rw [h0]⟩
  · exact ⟨_, cap, rfl⟩
theorem GrowO.shape (h : GrowO t e w base v l F) : ∃ A c, v = .slice A l.length c := by
  obtain ⟨⟨css, Fs, h1, _⟩, _⟩ := h
  rcases h1.2 with ⟨rfl, h0⟩ | ⟨g, cap, cur, rfl, _⟩
  · exact ⟨none, 0, by rw [h0]⟩
  · exact ⟨_, cap, rfl⟩
theorem GrowR.shapeN (h : GrowR t e w base B v l) : ∃ A n c, v = .slice A n c ∧ n = l.length := by
  obtain ⟨A, c, rfl⟩ := h.shape; exact ⟨A, _, c, rfl, rfl⟩
theorem GrowR.doneAs {A : Option Addr} (h : GrowR t e w base B (.slice A n c) l) (hw : B ≤ w.heap.size) : t.row.R w w.heap.size [.slice A n c] l := by
  obtain ⟨A', c', e1, h2⟩ := h.done hw
  injection e1 with e1 e2 e3
  subst e1 e2 e3
  exact h2
theorem GrowO.shapeN (h : GrowO t e w base v l F) : ∃ A n c, v = .slice A n c ∧ n = l.length := by
  obtain ⟨A, c, rfl⟩ := h.shape; exact ⟨A, _, c, rfl, rfl⟩
theorem GrowO.own (h : GrowO t e w base v l F) : ∀ b, v.ownBlock = some b → base ≤ b ∧ b < w.heap.size := fun b hb => by
  obtain ⟨⟨css, Fs, h1, _⟩, _⟩ := h; exact h1.lt b hb
variable {P : Program} {ops : Array Oper} {rest : List Oper} {o : Oper} {a : Act} {K : Act → World → Prop} {Q : Exit → Act → World → Prop} {E : Prop}
/-- One struct more behind a row that reads: the step of a drawn region. -/
theorem GrowR.step (hgd : o.guard = none) (s x : Operand) (ty : TypeId) (ho : o.op = .call { callee := .builtin .append, args := #[s, x], argTypes := #[ty, ty] })
    (i : TypeInfo) (z : Value) (size bytes : Nat) (ht : P.underlying ty = some (.slice e)) (hi : P.info? e = some i) (hz : i.zero = some z) (hsize : i.size = size) (hby : i.bytes = bytes) (hzs : z.cells.size = size) (hsz : 0 < size) (hk : t.k = size)
    (hs : a.eval s = v) (hG : GrowR t e w base B v l) (g : Nat) (es : List Value) (el : α) (hx : a.eval x = .slice (some ⟨g, 0, none⟩) 1 1) (hb : Box w g e es.toArray) (hR : t.R w B es el) (h1 : ∀ u ∈ es, u.oneCell' = true)
    (hB : B ≤ base) (hw : base ≤ w.heap.size) (h63 : l.length + 1 ≤ maxLen) (hbytes : (l.length + 1) * bytes ≤ 140737488355328)
    (h : ∀ v' w', GrowR t e w' base B v' (l ++ [el]) → w.grownBy w' v.ownBlock → K (a.put o.dst v') w') :
    if Region.wanted o (yielded ops a.tmps) = true then Oper.wp P o a w K Q else E := by
  subst hk
  obtain ⟨xs, hrow, hpush⟩ := hG.row hB (Nat.le_trans hB hw)
  exact step_app5 w hgd s x ty ho base e i z t.k bytes ht hi hz hsize hby hzs hsz v l.length xs hs hrow _ 1 1 es hx (Src.of_boxed hb (t.lenR hR)) h1 h63 hbytes hw fun v' w' q1 q2 _ => h v' w' (hpush w' v' el es hR q1 q2) q2
/-- The same in a plain region. -/
theorem GrowR.push (hgd : o.guard = none) (s x : Operand) (ty : TypeId) (ho : o.op = .call { callee := .builtin .append, args := #[s, x], argTypes := #[ty, ty] })
    (i : TypeInfo) (z : Value) (size bytes : Nat) (ht : P.underlying ty = some (.slice e)) (hi : P.info? e = some i) (hz : i.zero = some z) (hsize : i.size = size) (hby : i.bytes = bytes) (hzs : z.cells.size = size) (hsz : 0 < size) (hk : t.k = size)
    (hs : a.eval s = v) (hG : GrowR t e w base B v l) (g : Nat) (es : List Value) (el : α) (hx : a.eval x = .slice (some ⟨g, 0, none⟩) 1 1) (hb : Box w g e es.toArray) (hR : t.R w B es el) (h1 : ∀ u ∈ es, u.oneCell' = true)
    (hB : B ≤ base) (hw : base ≤ w.heap.size) (h63 : l.length + 1 ≤ maxLen) (hbytes : (l.length + 1) * bytes ≤ 140737488355328)
    (h : ∀ v' w', GrowR t e w' base B v' (l ++ [el]) → w.grownBy w' v.ownBlock → wpList P ops Q rest (a.put o.dst v') w') : wpList P ops Q (o :: rest) a w := by
  subst hk
  obtain ⟨xs, hrow, hpush⟩ := hG.row hB (Nat.le_trans hB hw)
  exact wpList_app w hgd s x ty ho base e i z t.k bytes ht hi hz hsize hby hzs hsz v l.length xs hs hrow _ 1 1 es hx (Src.of_boxed hb (t.lenR hR)) h1 h63 hbytes hw fun v' w' q1 q2 _ => h v' w' (hpush w' v' el es hR q1 q2) q2
/-- A whole row behind a row, both read: the step of a drawn region. -/
theorem GrowR.stepRow (hgd : o.guard = none) (s x : Operand) (ty : TypeId) (ho : o.op = .call { callee := .builtin .append, args := #[s, x], argTypes := #[ty, ty] })
    (i : TypeInfo) (z : Value) (size bytes : Nat) (ht : P.underlying ty = some (.slice e)) (hi : P.info? e = some i) (hz : i.zero = some z) (hsize : i.size = size) (hby : i.bytes = bytes) (hzs : z.cells.size = size) (hsz : 0 < size) (hk : t.k = size)
    (hs : a.eval s = v) (hG : GrowR t e w base B v l) {A : Option Addr} {l' : List α} (hx : a.eval x = .slice A n c) (hr : t.row.R w B [.slice A n c] l') (h1 : ∀ es a, t.R w B es a → ∀ u ∈ es, u.oneCell' = true)
    (hB : B ≤ base) (hw : base ≤ w.heap.size) (h63 : l.length + n ≤ maxLen) (hbytes : (l.length + n) * bytes ≤ 140737488355328)
    (h : ∀ v' w', GrowR t e w' base B v' (l ++ l') → w.grownBy w' v.ownBlock → K (a.put o.dst v') w') :
    if Region.wanted o (yielded ops a.tmps) = true then Oper.wp P o a w K Q else E := by
  subst hk
  obtain ⟨xs, news, hrow, hsrc, h1', hpush⟩ := hG.rows hr h1 hB (Nat.le_trans hB hw)
  exact step_app5 w hgd s x ty ho base e i z t.k bytes ht hi hz hsize hby hzs hsz v l.length xs hs hrow A n c news hx hsrc h1' h63 hbytes hw fun v' w' q1 q2 _ => h v' w' (hpush w' v' q1 q2) q2
/-- The same in a plain region. -/
theorem GrowR.pushRow (hgd : o.guard = none) (s x : Operand) (ty : TypeId) (ho : o.op = .call { callee := .builtin .append, args := #[s, x], argTypes := #[ty, ty] })
    (i : TypeInfo) (z : Value) (size bytes : Nat) (ht : P.underlying ty = some (.slice e)) (hi : P.info? e = some i) (hz : i.zero = some z) (hsize : i.size = size) (hby : i.bytes = bytes) (hzs : z.cells.size = size) (hsz : 0 < size) (hk : t.k = size)
    (hs : a.eval s = v) (hG : GrowR t e w base B v l) {A : Option Addr} {l' : List α} (hx : a.eval x = .slice A n c) (hr : t.row.R w B [.slice A n c] l') (h1 : ∀ es a, t.R w B es a → ∀ u ∈ es, u.oneCell' = true)
    (hB : B ≤ base) (hw : base ≤ w.heap.size) (h63 : l.length + n ≤ maxLen) (hbytes : (l.length + n) * bytes ≤ 140737488355328)
    (h : ∀ v' w', GrowR t e w' base B v' (l ++ l') → w.grownBy w' v.ownBlock → wpList P ops Q rest (a.put o.dst v') w') : wpList P ops Q (o :: rest) a w := by
  subst hk
  obtain ⟨xs, news, hrow, hsrc, h1', hpush⟩ := hG.rows hr h1 hB (Nat.le_trans hB hw)
  exact wpList_app w hgd s x ty ho base e i z t.k bytes ht hi hz hsize hby hzs hsz v l.length xs hs hrow A n c news hx hsrc h1' h63 hbytes hw fun v' w' q1 q2 _ => h v' w' (hpush w' v' q1 q2) q2
/-- One struct more behind a call's own row, each owning what it holds: the step of a drawn region. -/
theorem GrowO.step (hgd : o.guard = none) (s x : Operand) (ty : TypeId) (ho : o.op = .call { callee := .builtin .append, args := #[s, x], argTypes := #[ty, ty] })
    (i : TypeInfo) (z : Value) (size bytes : Nat) (ht : P.underlying ty = some (.slice e)) (hi : P.info? e = some i) (hz : i.zero = some z) (hsize : i.size = size) (hby : i.bytes = bytes) (hzs : z.cells.size = size) (hsz : 0 < size) (hk : t.k = size)
    (hs : a.eval s = v) (hG : GrowO t e w base v l F) (g : Nat) (es : List Value) (el : α) {Fa : List Nat} (hx : a.eval x = .slice (some ⟨g, 0, none⟩) 1 1) (hb : Box w g e es.toArray) (hO : t.O w es el Fa) (hN : New base Fa) (hd : ∀ f ∈ Fa, f ∉ F) (hv : ∀ b, v.ownBlock = some b → b ∉ Fa) (h1 : ∀ u ∈ es, u.oneCell' = true)
    (hw : base ≤ w.heap.size) (h63 : l.length + 1 ≤ maxLen) (hbytes : (l.length + 1) * bytes ≤ 140737488355328)
    (h : ∀ v' w', GrowO t e w' base v' (l ++ [el]) (F ++ Fa) → w.grownBy w' v.ownBlock → K (a.put o.dst v') w') :
    if Region.wanted o (yielded ops a.tmps) = true then Oper.wp P o a w K Q else E := by
  subst hk
  obtain ⟨xs, hrow, hpush⟩ := hG.row
  exact step_app5 w hgd s x ty ho base e i z t.k bytes ht hi hz hsize hby hzs hsz v l.length xs hs hrow _ 1 1 es hx (Src.of_boxed hb (t.lenO hO)) h1 h63 hbytes hw fun v' w' q1 q2 q3 => h v' w' (hpush w' v' el es Fa hO hN hd hv q1 q2 q3) q2
/-- The same in a plain region. -/
theorem GrowO.push (hgd : o.guard = none) (s x : Operand) (ty : TypeId) (ho : o.op = .call { callee := .builtin .append, args := #[s, x], argTypes := #[ty, ty] })
    (i : TypeInfo) (z : Value) (size bytes : Nat) (ht : P.underlying ty = some (.slice e)) (hi : P.info? e = some i) (hz : i.zero = some z) (hsize : i.size = size) (hby : i.bytes = bytes) (hzs : z.cells.size = size) (hsz : 0 < size) (hk : t.k = size)
    (hs : a.eval s = v) (hG : GrowO t e w base v l F) (g : Nat) (es : List Value) (el : α) {Fa : List Nat} (hx : a.eval x = .slice (some ⟨g, 0, none⟩) 1 1) (hb : Box w g e es.toArray) (hO : t.O w es el Fa) (hN : New base Fa) (hd : ∀ f ∈ Fa, f ∉ F) (hv : ∀ b, v.ownBlock = some b → b ∉ Fa) (h1 : ∀ u ∈ es, u.oneCell' = true)
    (hw : base ≤ w.heap.size) (h63 : l.length + 1 ≤ maxLen) (hbytes : (l.length + 1) * bytes ≤ 140737488355328)
    (h : ∀ v' w', GrowO t e w' base v' (l ++ [el]) (F ++ Fa) → w.grownBy w' v.ownBlock → wpList P ops Q rest (a.put o.dst v') w') : wpList P ops Q (o :: rest) a w := by
  subst hk
  obtain ⟨xs, hrow, hpush⟩ := hG.row
  exact wpList_app w hgd s x ty ho base e i z t.k bytes ht hi hz hsize hby hzs hsz v l.length xs hs hrow _ 1 1 es hx (Src.of_boxed hb (t.lenO hO)) h1 h63 hbytes hw fun v' w' q1 q2 q3 => h v' w' (hpush w' v' el es Fa hO hN hd hv q1 q2 q3) q2
end
end Go.Proofs.YtaabmaoldhoinaaGreat
namespace Go.Proofs.YtaabmaoldhoinaaGreat
set_option linter.unusedVariables false
open Go.RowKit
section
variable {α : Type} {t : Ty α} {e : TypeId} {w w' : World} {base B n c : Nat} {v : Value} {l : List α}
theorem GrowR.empty (hb : base ≤ w.heap.size) : GrowR t e (w.alloc (.cells #[] e)) base B (.slice (some ⟨w.heap.size, 0, none⟩) 0 0) [] :=
  ⟨[], ⟨by simp, .inr ⟨w.heap.size, 0, #[], rfl, hb, heap_alloc_new w _, Nat.le_refl _, by simp only [maxLen]; omega, by simp, by simp⟩⟩, rfl, fun i a es h => by simp at h⟩
theorem GrowR.drew (h : GrowR t e w base B v l) (hw : B ≤ w.heap.size) : GrowR t e w.drew base B v l := by
  obtain ⟨css, k1, k2, k5⟩ := h
  exact ⟨css, k1.kept (row := none) (gb_drew (World.grownBy.refl _ _)) (by cases v.ownBlock <;> simp), k2, fun i a es q1 q2 => t.keep (k5 i a es q1 q2) fun b hb => rfl⟩
end
section
variable {k : IntKind} {e : TypeId} {w w' : World} {base B n c : Nat} {v : Value} {l : List Int}
theorem Own.empty (hb : base ≤ w.heap.size) : Own k e (w.alloc (.cells #[] e)) base (.slice (some ⟨w.heap.size, 0, none⟩) 0 0) [] :=
  ⟨⟨by simp, .inr ⟨w.heap.size, 0, #[], rfl, hb, heap_alloc_new w _, Nat.le_refl _, by simp only [maxLen]; omega, by simp, by simp⟩⟩, by simp⟩
theorem Own.drew (h : Own k e w base v l) : Own k e w.drew base v l := ⟨h.1.kept (row := none) (gb_drew (World.grownBy.refl _ _)) (by cases v.ownBlock <;> simp), h.2⟩
theorem Own.shapeN (h : Own k e w base v l) : ∃ A n c, v = .slice A n c ∧ n = l.length := by
  obtain ⟨A, c, rfl, _⟩ := h.shape; exact ⟨A, _, c, rfl, rfl⟩
variable {P : Program} {ops : Array Oper} {rest : List Oper} {o : Oper} {a : Act} {K : Act → World → Prop} {Q : Exit → Act → World → Prop} {E : Prop}
/-- Integers behind a call's own slice, out of one that reads: the step of a drawn region. -/
theorem Own.stepRow (hgd : o.guard = none) (s x : Operand) (ty : TypeId) (ho : o.op = .call { callee := .builtin .append, args := #[s, x], argTypes := #[ty, ty] })
    (i : TypeInfo) (z : Value) (bytes : Nat) (ht : P.underlying ty = some (.slice e)) (hi : P.info? e = some i) (hz : i.zero = some z) (hsize : i.size = 1) (hby : i.bytes = bytes) (hzs : z.cells.size = 1)
    (hs : a.eval s = v) (hG : Own k e w base v l) {A : Option Addr} {l' : List Int} (hx : a.eval x = .slice A n c) (hr : Ints k w B A n l')
    (hw : base ≤ w.heap.size) (h63 : l.length + n ≤ maxLen) (hbytes : (l.length + n) * bytes ≤ 140737488355328)
    (h : ∀ v' w', Own k e w' base v' (l ++ l') → w.grownBy w' v.ownBlock → (v'.ownBlock = v.ownBlock ∨ v'.ownBlock = some w.heap.size) → K (a.put o.dst v') w') :
    if Region.wanted o (yielded ops a.tmps) = true then Oper.wp P o a w K Q else E :=
  step_app5 w hgd s x ty ho base e i z 1 bytes ht hi hz hsize hby hzs (by omega) v l.length _ hs hG.1 A n c (l'.map (Value.int k)) hx (Src.of_ints hr) (one_ints _ _) h63 hbytes hw fun v' w' q1 q2 q3 =>
    h v' w' (Own.of (n := l.length + n) (by rw [List.map_append]; exact q1) fun y hy => by
      rcases List.mem_append.1 hy with h' | h'
      · exact hG.2 y h'
      · exact hr.2.2 y h') q2 q3
theorem Own.pushRow (hgd : o.guard = none) (s x : Operand) (ty : TypeId) (ho : o.op = .call { callee := .builtin .append, args := #[s, x], argTypes := #[ty, ty] })
    (i : TypeInfo) (z : Value) (bytes : Nat) (ht : P.underlying ty = some (.slice e)) (hi : P.info? e = some i) (hz : i.zero = some z) (hsize : i.size = 1) (hby : i.bytes = bytes) (hzs : z.cells.size = 1)
    (hs : a.eval s = v) (hG : Own k e w base v l) {A : Option Addr} {l' : List Int} (hx : a.eval x = .slice A n c) (hr : Ints k w B A n l')
    (hw : base ≤ w.heap.size) (h63 : l.length + n ≤ maxLen) (hbytes : (l.length + n) * bytes ≤ 140737488355328)
    (h : ∀ v' w', Own k e w' base v' (l ++ l') → w.grownBy w' v.ownBlock → (v'.ownBlock = v.ownBlock ∨ v'.ownBlock = some w.heap.size) → wpList P ops Q rest (a.put o.dst v') w') : wpList P ops Q (o :: rest) a w :=
  wpList_app w hgd s x ty ho base e i z 1 bytes ht hi hz hsize hby hzs (by omega) v l.length _ hs hG.1 A n c (l'.map (Value.int k)) hx (Src.of_ints hr) (one_ints _ _) h63 hbytes hw fun v' w' q1 q2 q3 =>
    h v' w' (Own.of (n := l.length + n) (by rw [List.map_append]; exact q1) fun y hy => by
      rcases List.mem_append.1 hy with h' | h'
      · exact hG.2 y h'
      · exact hr.2.2 y h') q2 q3
/-- One cell in a block reads as a slice of one. -/
theorem Ints.boxed {g : Nat} {u : Int} (hb : Box w g e #[.int k u]) (hu : (Lit.int k u).wf = true) : Ints k w w.heap.size (some ⟨g, 0, none⟩) 1 [u] := by
  refine ⟨rfl, fun _ => ⟨g, 0, rfl, hb.size, fun i hi => ?_⟩, fun x hx => by rw [List.mem_singleton] at hx; rw [hx]; exact hu⟩
  obtain rfl : i = 0 := by omega
  rw [hb.cell]; rfl
end
end Go.Proofs.YtaabmaoldhoinaaGreat
namespace Go.Proofs.YtaabmaoldhoinaaGreat
set_option maxRecDepth 100000
set_option linter.unusedVariables false
set_option linter.unusedSimpArgs false
open Go.ChangeShapes Go.WideShapes Go.ChangeAt Go.RowKit
/-- From w with v to w' with v': beside v's own block nothing old has changed; v' has v's block or a new one. -/
def Ext (w : World) (v : Value) (w' : World) (v' : Value) : Prop := w.grownBy w' v.ownBlock ∧ (v'.ownBlock = v.ownBlock ∨ ∃ b, v'.ownBlock = some b ∧ w.heap.size ≤ b)
section
variable {w w' w1 w2 : World} {v v' v1 v2 : Value} {B g : Nat} {t : TypeId} {cs : Array Value}
theorem Ext.refl (w : World) (v : Value) : Ext w v w v := ⟨World.grownBy.refl _ _, .inl rfl⟩
theorem Ext.trans (h : Ext w v w1 v1) (k : Ext w1 v1 w2 v2) : Ext w v w2 v2 := by
  refine ⟨⟨k.1.os.trans h.1.os, k.1.tape.trans h.1.tape, k.1.output.trans h.1.output, Nat.le_trans h.1.size k.1.size, fun i hi hn => ?_⟩, ?_⟩
  · refine (k.1.block i (Nat.lt_of_lt_of_le hi h.1.size) ?_).trans (h.1.block i hi hn)
    intro e
    rcases h.2 with h2 | ⟨b, h2, h3⟩
    · exact hn (e.trans h2)
    · rw [h2] at e; injection e with e; omega
  · rcases k.2 with k2 | ⟨b, k2, k3⟩
    · rcases h.2 with h2 | ⟨b, h2, h3⟩
      · exact .inl (k2.trans h2)
      · exact .inr ⟨b, k2.trans h2, h3⟩
    · exact .inr ⟨b, k2, Nat.le_trans h.1.size k3⟩
theorem Ext.of (h : Below w.heap.size w w') : Ext w v w' v := ⟨below_grownBy h, .inl rfl⟩
theorem Ext.app (h : Ext w v w1 v1) (hB : Below w1.heap.size w1 w2) (hg : w2.grownBy w' v1.ownBlock) (ha : v'.ownBlock = v1.ownBlock ∨ v'.ownBlock = some w2.heap.size) : Ext w v w' v' :=
  h.trans ((Ext.of hB).trans ⟨hg, ha.imp id fun e => ⟨_, e, Nat.le_refl _⟩⟩)
theorem Ext.box (h : Ext w v w' v') (hb : Box w g t cs) (hn : v.ownBlock ≠ some g) : Box w' g t cs := hb.grown h.1 (fun e => hn e.symm)
theorem Ext.not (h : Ext w v w' v') (hg : g < w.heap.size) (hn : v.ownBlock ≠ some g) : v'.ownBlock ≠ some g := fun e => by
  rcases h.2 with h2 | ⟨b, h2, h3⟩
  · exact hn (h2.symm.trans e)
  · rw [h2] at e; injection e with e; omega
theorem Ext.below (h : Ext w v w' v') (hB : B ≤ w.heap.size) (hv : ∀ b, v.ownBlock = some b → B ≤ b) : Below B w w' :=
  ⟨h.1.os, h.1.tape, h.1.output, h.1.size, fun k hk => h.1.block k (by omega) fun e => by have := hv k e.symm; omega⟩
end
/-- Cells that have just been laid. -/
theorem Src.cells (w : World) (t : TypeId) (us : List Value) : Src (w.alloc (.cells us.toArray t)) 1 (some ⟨w.heap.size, 0, none⟩) us.length us := by
  refine ⟨by simp, fun _ => ⟨_, 0, rfl, fun j u hj => ?_⟩⟩
  rw [Nat.zero_add, (Box.new w t _).cell]
  simpa using hj
theorem flS {α : Type} {f : α → List Int} {l : List α} {j : Nat} {a : α} (hl : l[j]? = some a) : (l.take (j + 1)).flatMap f = (l.take j).flatMap f ++ f a := by
  rw [take_sn hl, List.flatMap_append]; simp
theorem flLe {α : Type} {f : α → List Int} {l : List α} {m : Nat} (h : ∀ a ∈ l, (f a).length ≤ m) (j : Nat) : ((l.take j).flatMap f).length ≤ m * l.length := by
  induction l generalizing j with
  | nil => simp
  | cons a l ih =>
    cases j with
    | zero => simp
    | succ j =>
      have := ih (fun x hx => h x (by simp [hx])) j
      have := h a (by simp)
      rw [List.take_succ_cons, List.flatMap_cons, List.length_append, List.length_cons, Nat.mul_succ]
      omega
theorem own_appN {K : IntKind} {e : TypeId} {w : World} {base n : Nat} {v : Value} {l r : List Int} (h : w.ownsRow base e 1 v (l.length + n) (l.map (Value.int K) ++ r.map (Value.int K))) (hn : r.length = n) (hl : ∀ x ∈ l, (Lit.int K x).wf = true) (hr : ∀ x ∈ r, (Lit.int K x).wf = true) : Own K e w base v (l ++ r) :=
  Own.of (n := l.length + n) (by rw [List.map_append]; exact h) fun x hx => by
    rcases List.mem_append.1 hx with h' | h'
    · exact hl x h'
    · exact hr x h'
end Go.Proofs.YtaabmaoldhoinaaGreat
namespace Go.Proofs.YtaabmaoldhoinaaGreat
set_option maxRecDepth 100000
set_option linter.unusedVariables false
set_option linter.unusedSimpArgs false
open Go.ChangeShapes Go.WideShapes Go.ChangeAt Go.RowKit
/-- A held cell in order: its next node, its time, and so many bytes. -/
def HdN (a d : Int) (n : Nat) : Prop := 0 ≤ a ∧ a < 8 ∧ 0 ≤ d ∧ d ≤ 65535 ∧ n = 80
instance (a d : Int) (n : Nat) : Decidable (HdN a d n) := by unfold HdN; infer_instance
def HdOk (p : DHeld) : Prop := HdN p.1 p.2.1 p.2.2.length
instance (p : DHeld) : Decidable (HdOk p) := by unfold HdOk; infer_instance
end Go.Proofs.YtaabmaoldhoinaaGreat
namespace Go.Proofs.YtaabmaoldhoinaaGreat
set_option maxRecDepth 100000
set_option linter.unusedVariables false
set_option linter.unusedSimpArgs false
open Go.ChangeShapes Go.WideShapes Go.ChangeAt Go.RowKit
open Fld
instance (a : Int) : Decidable (Ok a) := by unfold Ok; infer_instance
/-- A pool in order. -/
def PlOk (p : DPool) : Prop := (p.1.length ≤ 12 ∧ p.2.length ≤ 60) ∧ (∀ h ∈ p.1, HdOk h) ∧ (∀ x ∈ p.2, Ok x) ∧ p.2.Nodup
instance (p : DPool) : Decidable (PlOk p) := by unfold PlOk; infer_instance
section
variable {α : Type} {P : α → Prop} {l : List α} {a : α} {j : Nat}
theorem all_zero : ∀ h ∈ l.take 0, P h := fun h hh => absurd hh (by simp)
theorem all_sn (h : ∀ x ∈ l.take j, P x) (hl : l[j]? = some a) (ha : P a) : ∀ x ∈ l.take (j + 1), P x := by
  rw [take_sn hl]
  intro x hx
  rcases List.mem_append.1 hx with h' | h'
  · exact h x h'
  · rw [List.mem_singleton] at h'; rw [h']; exact ha
theorem all_end (h : ∀ x ∈ l.take j, P x) (hj : l.length ≤ j) : ∀ x ∈ l, P x := by rwa [List.take_of_length_le hj] at h
theorem mem_at (hl : l[j]? = some a) : a ∈ l := List.mem_of_getElem? hl
end
theorem get_at {l : List Int} {n j : Nat} (h : l.length = n) (hj : j < n) : l[j]? = some (l.getD j 0) := by
  rw [List.getD_eq_getElem?_getD, List.getElem?_eq_getElem (by omega)]; rfl
theorem s_l4has {w : World} {B n c : Nat} {A : Option Addr} {l : List Int} (x : Int) (hl : Ints .i64 w B A n l) (hn : n ≤ 17592186043904) :
    Calls Tryz.prog 67 #[.slice A n c, .int .i64 x] w fun e w' => e = .returned (.bool (decide (x ∈ l))) ∧ w = w' := by
  have HL := Lib.hid hl.1
  go_enter Tryz.func67, Tryz.ntmps67
  go_wp2_with fail
  go_loop [5] (fun i => ∃ j : Nat, j ≤ n ∧ i = .int .i64 j ∧ ∀ y ∈ l.take j, y ≠ x) (fun i => n - (intOf i).toNat)
  case atStart => exact ⟨0, by omega, rfl, all_zero⟩
  case round =>
    obtain ⟨j, hj, rfl, hG⟩ := hrel
    have HG := Lib.hid hG
    clear hG
    by_cases hlt : j < n
    · obtain ⟨b, off, rfl, hb, hcell, hwf⟩ := hl.at_ hlt
      have HA := Lib.hid (get_at HL.out hlt)
      obtain ⟨y, hy⟩ : ∃ y, l.getD j 0 = y := ⟨_, rfl⟩
      rw [hy] at hcell HA
      clear hy hwf
      by_cases he : y = x
      · subst he
        have HR := Lib.hid (show decide (y ∈ l) = true from decide_eq_true (mem_at HA.out))
        go_wp2
        go_ret
        exact ⟨ret_bool HR.out.symm, rfl⟩
      · have q : (y == x) = false := by simpa using he
        have HN := Lib.hid he
        clear he
        go_wp2
        go_round
        case rel => exact ⟨j + 1, by omega, by go_num, all_sn HG.out HA.out HN.out⟩
        case measure => simp [intOf]; omega
    · obtain rfl : j = n := by omega
      have HR := Lib.hid (show decide (x ∈ l) = false from decide_eq_false fun hx => all_end HG.out (Nat.le_of_eq HL.out) x hx rfl)
      go_wp2
      go_ret
      exact ⟨ret_bool HR.out.symm, rfl⟩
end Go.Proofs.YtaabmaoldhoinaaGreat
namespace Go.Proofs.YtaabmaoldhoinaaGreat
set_option linter.unusedVariables false
open Fld
/-! ### Forget -/
/-! ### Expire -/
/-! ### Admit -/
def AdOk (p : DPool) (h : DHeld) (tag : Int) : Prop := PlOk p ∧ HdOk h ∧ Ok tag
instance (p : DPool) (h : DHeld) (tag : Int) : Decidable (AdOk p h tag) := by unfold AdOk; infer_instance
end Go.Proofs.YtaabmaoldhoinaaGreat
namespace Go.Proofs.YtaabmaoldhoinaaGreat
open Go.RowKit
theorem own_slice {K : IntKind} {e : TypeId} {w : World} {base : Nat} {v : Value} {l : List Int} (h : Own K e w base v l) : ∃ A c F, v = .slice A l.length c ∧ (tSl K).O w [.slice A l.length c] l F ∧ New base F := by
  obtain ⟨F, hF, hN⟩ := h.tSl
  obtain ⟨A, c, e1, _, _⟩ := slO_one hF
  injection e1 with e1 _
  subst e1
  exact ⟨A, c, F, rfl, hF, hN⟩
theorem nilO {K : IntKind} {w : World} : (tSl K).O w [.slice none 0 0] [] [] := .inl ⟨none, 0, rfl, by omega, rfl, rfl⟩
end Go.Proofs.YtaabmaoldhoinaaGreat
namespace Go.Proofs.YtaabmaoldhoinaaGreat
set_option maxRecDepth 100000
set_option linter.unusedVariables false
set_option linter.unusedSimpArgs false
open Go.ChangeShapes Go.WideShapes Go.ChangeAt Go.RowKit
open Fld
theorem empty9 (w : World) (t : TypeId) : (w.alloc (.cells #[] t)).ownsRow w.heap.size t 1 (.slice (some ⟨w.heap.size, 0, none⟩) 0 0) 0 [] :=
  ⟨rfl, .inr ⟨w.heap.size, 0, #[], rfl, Nat.le_refl _, heap_alloc_new w _, Nat.le_refl _, by simp only [maxLen]; omega, rfl, rfl⟩⟩
theorem Ty.far3 {α : Type} {t : Ty α} {w : World} {cs : List Value} {a : α} {F : List Nat} (h : t.O w cs a F) {p : Addr} (hp : p.block ∉ F) (u : Value) : t.O (w.setCell p u) cs a F :=
  t.kept h fun f hf => Below.heap_setCell w p u f (by rintro rfl; exact hp hf)
theorem i_copiedB5 {w : World} {n c : Nat} {A : Option Addr} {l : List Int} (hl : Ints .u8 w w.heap.size A n l) (hn : n ≤ 1048576) :
    Calls Tryz.prog 82 #[.slice A n c] w fun e w' => ∃ v, e = .returned v ∧ Own .u8 5 w' w.heap.size v l ∧ Below w.heap.size w w' := by
  obtain ⟨i0, hi0, hz0, hz1, hz2⟩ := info_parts info_cb
  go_enter Tryz.func82, Tryz.ntmps82
  go_wp2_with (at_builtin; refine wpList_app _ rfl _ (.tmp 3) _ rfl w.heap.size 5 i0 _ 1 1 Tryz.underlying26 hi0 hz0 hz1 hz2 rfl (by omega) (.slice none 0 0) 0 [] rfl (World.ownsRow_nil _ _ _ _) _ n c (l.map (Value.int .u8)) rfl (Src.of_ints hl) (one_ints _ _) (by simp only [maxLen]; omega) (by omega) (Nat.le_refl _) ?_; intro v1 w1 hown hgr hat)
  go_ret
  exact ⟨v1, rfl, Own.of (n := 0 + n) (by simpa using hown) hl.2.2, Below.grown (Below.refl _ _) hgr (Nat.le_refl _) fun b hb => by simp [Value.ownBlock] at hb⟩
end Go.Proofs.YtaabmaoldhoinaaGreat
namespace Go.Proofs.YtaabmaoldhoinaaGreat
set_option maxRecDepth 100000
set_option linter.unusedVariables false
set_option linter.unusedSimpArgs false
open Go.ChangeShapes Go.WideShapes Go.ChangeAt Go.RowKit
open Fld
theorem slO_own {K : IntKind} {w : World} {v : Value} {l : List Int} {F : List Nat} (h : (tSl K).O w [v] l F) : ∀ f ∈ F, v.ownBlock = some f := by
  intro f hf
  rcases h with ⟨A, c, _, _, _, rfl⟩ | ⟨g, off, c, cur, t, h1, h2, h3, h4, h5, h6, h7, rfl⟩
  · exact absurd hf (by simp)
  · injection h1 with h1 _
    rw [List.mem_singleton] at hf
    rw [h1, hf]; rfl
/-- What an append of integers leaves of another's blocks. -/
theorem own_past {α : Type} {t : Ty α} {w w' : World} {cs : List Value} {a : α} {F : List Nat} {row : Option Nat} (h : t.O w cs a F) (hg : w.grownBy w' row) (hr : ∀ b, row = some b → b ∉ F) : t.O w' cs a F :=
  t.kept h fun f hf => hg.block f (t.lt h f hf) fun e => hr f e.symm hf
theorem new_pair {B : Nat} {F G : List Nat} (hF : New B F) (hG : New B G) (hd : ∀ f ∈ F, f ∉ G) : New B (F ++ G) :=
  ⟨List.nodup_append.2 ⟨hF.1, hG.1, fun x hx y hy e => hd x hx (e ▸ hy)⟩, fun f hf => by
    rcases List.mem_append.1 hf with h | h
    · exact hF.2 f h
    · exact hG.2 f h⟩
theorem i_copiedI5 {w : World} {n c : Nat} {A : Option Addr} {l : List Int} (hl : Ints .i64 w w.heap.size A n l) (hn : n ≤ 1048576) :
    Calls Tryz.prog 52 #[.slice A n c] w fun e w' => ∃ v, e = .returned v ∧ Own .i64 3 w' w.heap.size v l ∧ Below w.heap.size w w' := by
  obtain ⟨i0, hi0, hz0, hz1, hz2⟩ := info_parts info_ci
  go_enter Tryz.func52, Tryz.ntmps52
  go_wp2_with (at_builtin; refine wpList_app _ rfl _ (.tmp 3) _ rfl w.heap.size 3 i0 _ 1 8 Tryz.underlying23 hi0 hz0 hz1 hz2 rfl (by omega) (.slice none 0 0) 0 [] rfl (World.ownsRow_nil _ _ _ _) _ n c (l.map (Value.int .i64)) rfl (Src.of_ints hl) (one_ints _ _) (by simp only [maxLen]; omega) (by omega) (Nat.le_refl _) ?_; intro v1 w1 hown hgr hat)
  go_ret
  exact ⟨v1, rfl, Own.of (n := 0 + n) (by simpa using hown) hl.2.2, Below.grown (Below.refl _ _) hgr (Nat.le_refl _) fun b hb => by simp [Value.ownBlock] at hb⟩

end Go.Proofs.YtaabmaoldhoinaaGreat
namespace Go.Proofs.YtaabmaoldhoinaaGreat
set_option linter.unusedVariables false
open Go.RowKit
def ixOf : Value → Nat | .int _ x => x.toNat | _ => 0
/-- No two have the same number. -/
def Apart {α : Type} (f : α → Int) (r : List α) : Prop := ∀ (i j : Nat) (a b : α), i < j → r[i]? = some a → r[j]? = some b → f a ≠ f b
theorem Apart.take {α : Type} {f : α → Int} {r : List α} (h : Apart f r) {j : Nat} {a : α} (ha : r[j]? = some a) : ∀ b ∈ r.take j, f b ≠ f a := by
  intro b hb
  obtain ⟨i, hi, rfl⟩ := List.getElem_of_mem hb
  rw [List.length_take] at hi
  exact h i j _ _ (by omega) (by rw [List.getElem_take]; exact List.getElem?_eq_getElem (by omega)) ha
theorem take_snoc {α : Type} {r : List α} {j : Nat} {a : α} (ha : r[j]? = some a) : r.take (j + 1) = r.take j ++ [a] := by
  rw [List.take_add_one, ha]; rfl
end Go.Proofs.YtaabmaoldhoinaaGreat
namespace Go.Proofs.YtaabmaoldhoinaaGreat
set_option maxRecDepth 100000
set_option linter.unusedVariables false
set_option linter.unusedSimpArgs false
open Go.ChangeShapes Go.WideShapes Go.ChangeAt Go.RowKit
/-- A fragment in order: its number, place, total, and so many bytes. -/
def PcN (i a t : Int) (n : Nat) : Prop := 0 ≤ i ∧ i ≤ 255 ∧ t ≤ 8 ∧ 0 ≤ a ∧ a < t ∧ n ≤ 20 ∧ (a < t - 1 → n = 20) ∧ (a = t - 1 → 0 < n ∨ t = 1)
instance (i a t : Int) (n : Nat) : Decidable (PcN i a t n) := by unfold PcN; infer_instance
def PcOk (p : DPiece) : Prop := PcN p.1 p.2.1 p.2.2.1 p.2.2.2.length
instance (p : DPiece) : Decidable (PcOk p) := by unfold PcOk; infer_instance
set_option maxHeartbeats 1000000 in
theorem s_PieceOkN (w : World) (A3 : Option Addr) (n3 c3 : Nat) (x0 x1 x2 : Int) (b : Bool) (rg1 : -9223372036854775808 ≤ x2 ∧ x2 ≤ 9223372036854775807) (T : PcN x0 x1 x2 n3 → b = true) (F : ¬ PcN x0 x1 x2 n3 → b = false) :
    Calls Tryz.prog 38 #[.agg #[.int .i64 x0, .int .i64 x1, .int .i64 x2, .slice A3 n3 c3]] w fun e w' => e = .returned (.bool b) ∧ Below w.heap.size w w' := by
  unfold PcN at T F
  by_cases h1 : x0 < 0
  · have := F (by omega); subst this; clear F T
    go_enter Tryz.func38, Tryz.ntmps38
    go_wp2
    go_ret
    exact ⟨rfl, (belx)⟩
  by_cases h2 : 255 < x0
  · have := F (by omega); subst this; clear F T
    go_enter Tryz.func38, Tryz.ntmps38
    go_wp2
    go_ret
    exact ⟨rfl, (belx)⟩
  by_cases h3 : x2 < 1
  · have := F (by omega); subst this; clear F T
    go_enter Tryz.func38, Tryz.ntmps38
    go_wp2
    go_ret
    exact ⟨rfl, (belx)⟩
  by_cases h4 : 8 < x2
  · have := F (by omega); subst this; clear F T
    go_enter Tryz.func38, Tryz.ntmps38
    go_wp2
    go_ret
    exact ⟨rfl, (belx)⟩
  by_cases h5 : x1 < 0
  · have := F (by omega); subst this; clear F T
    go_enter Tryz.func38, Tryz.ntmps38
    go_wp2
    go_ret
    exact ⟨rfl, (belx)⟩
  by_cases h6 : x2 ≤ x1
  · have := F (by omega); subst this; clear F T
    go_enter Tryz.func38, Tryz.ntmps38
    go_wp2
    go_ret
    exact ⟨rfl, (belx)⟩
  by_cases h7 : 20 < n3
  · have := F (by omega); subst this; clear F T
    have q : (20 : Int) < n3 := by omega
    go_enter Tryz.func38, Tryz.ntmps38
    go_wp2
    go_ret
    exact ⟨rfl, (belx)⟩
  have q7 : ¬ (20 : Int) < n3 := by omega
  by_cases h8 : x1 < x2 - 1
  · by_cases h9 : n3 = 20
    · have := T (by omega); subst this h9; clear F T
      go_enter Tryz.func38, Tryz.ntmps38
      go_wp2
      go_ret
      exact ⟨rfl, (belx)⟩
    · have := F (by omega); subst this; clear F T
      have q9 : ((n3 : Int) == 20) = false := by simp; omega
      go_enter Tryz.func38, Tryz.ntmps38
      go_wp2
      go_ret
      exact ⟨by first | (simp; done) | (simp; omega), (belx)⟩
  · by_cases h9 : 0 < n3
    · have := T (by omega); subst this; clear F T
      have q9 : (0 : Int) < n3 := by omega
      go_enter Tryz.func38, Tryz.ntmps38
      go_wp2
      go_ret
      exact ⟨rfl, (belx)⟩
    · have q9 : ¬ (0 : Int) < n3 := by omega
      by_cases h10 : x2 = 1
      · have := T (by omega); subst this h10; clear F T
        go_enter Tryz.func38, Tryz.ntmps38
        go_wp2
        go_ret
        exact ⟨rfl, (belx)⟩
      · have := F (by omega); subst this; clear F T
        have q10 : (x2 == 1) = false := by simpa using h10
        go_enter Tryz.func38, Tryz.ntmps38
        go_wp2
        go_ret
        exact ⟨by first | (simp; done) | (simp; omega), (belx)⟩
theorem s_PieceOk {w : World} {cs : List Value} {p : DPiece} (h : tPiece.R w w.heap.size cs p) (hz : szPiece p ≤ 1048576) :
    Calls Tryz.prog 38 #[.agg cs.toArray] w fun e w' => e = .returned (.bool (decide (PcOk p))) ∧ Below w.heap.size w w' := by
  obtain ⟨A3, n3, c3, rfl, hi0, hi1, hi2, ha3, hb3, hl3, hr3⟩ := openPiece h
  have rg := i64_rg hi2
  exact s_PieceOkN w A3 n3 c3 _ _ _ _ ⟨by omega, by omega⟩ (fun hh => decide_eq_true (by unfold PcOk; rw [hl3]; exact hh)) (fun hh => decide_eq_false (by unfold PcOk; rw [hl3]; exact hh))
theorem i_isId_t (x : Int) (w : World) (h1 : 0 ≤ x) (h2 : x ≤ 255) : Calls Tryz.prog 70 #[.int .i64 x] w fun e w' => e = .returned (.bool true) ∧ w = w' := by
  go_enter Tryz.func70, Tryz.ntmps70
  go_wp2
  go_ret
  exact ⟨rfl, rfl⟩
theorem i_isId_f (x : Int) (w : World) (h : ¬ (0 ≤ x ∧ x ≤ 255)) : Calls Tryz.prog 70 #[.int .i64 x] w fun e w' => e = .returned (.bool false) ∧ w = w' := by
  by_cases h1 : x < 0
  · clear h
    go_enter Tryz.func70, Tryz.ntmps70
    go_wp2
    go_ret
    exact ⟨rfl, rfl⟩
  · have h2 : 255 < x := by omega
    clear h
    go_enter Tryz.func70, Tryz.ntmps70
    go_wp2
    go_ret
    exact ⟨ret_bool (by simp; omega), rfl⟩
set_option maxHeartbeats 1000000 in
theorem i_PieceOkN (w : World) (A3 : Option Addr) (n3 c3 : Nat) (x0 x1 x2 : Int) (b : Bool) (rg1 : -9223372036854775808 ≤ x2 ∧ x2 ≤ 9223372036854775807) (T : PcN x0 x1 x2 n3 → b = true) (F : ¬ PcN x0 x1 x2 n3 → b = false) :
    Calls Tryz.prog 44 #[.agg #[.int .i64 x0, .int .i64 x1, .int .i64 x2, .slice A3 n3 c3]] w fun e w' => e = .returned (.bool b) ∧ Below w.heap.size w w' := by
  unfold PcN at T F
  by_cases h1 : ¬ (0 ≤ x0 ∧ x0 ≤ 255)
  · have := F (by omega); subst this; clear F T
    go_enter Tryz.func44, Tryz.ntmps44
    go_wp2_with (go_at_call 70; refine (i_isId_f _ _ (by omega)).mono ?_; rintro e w' ⟨rfl, rfl⟩)
    go_ret
    exact ⟨rfl, (belx)⟩
  by_cases h4 : 8 < x2
  · have := F (by omega); subst this; clear F T
    go_enter Tryz.func44, Tryz.ntmps44
    go_wp2_with (go_at_call 70; refine (i_isId_t _ _ (by omega) (by omega)).mono ?_; rintro e w' ⟨rfl, rfl⟩)
    go_ret
    exact ⟨rfl, (belx)⟩
  by_cases h5 : x1 < 0
  · have := F (by omega); subst this; clear F T
    go_enter Tryz.func44, Tryz.ntmps44
    go_wp2_with (go_at_call 70; refine (i_isId_t _ _ (by omega) (by omega)).mono ?_; rintro e w' ⟨rfl, rfl⟩)
    go_ret
    exact ⟨rfl, (belx)⟩
  by_cases h6 : x2 ≤ x1
  · have := F (by omega); subst this; clear F T
    go_enter Tryz.func44, Tryz.ntmps44
    go_wp2_with (go_at_call 70; refine (i_isId_t _ _ (by omega) (by omega)).mono ?_; rintro e w' ⟨rfl, rfl⟩)
    go_ret
    exact ⟨rfl, (belx)⟩
  by_cases h8 : x1 < x2 - 1
  · by_cases h9 : n3 = 20
    · have := T (by omega); subst this; clear F T; subst h9
      go_enter Tryz.func44, Tryz.ntmps44
      go_wp2_with (go_at_call 70; refine (i_isId_t _ _ (by omega) (by omega)).mono ?_; rintro e w' ⟨rfl, rfl⟩)
      go_ret
      exact ⟨rfl, (belx)⟩
    · have := F (by omega); subst this; clear F T
      have q9 : ((n3 : Int) == 20) = false := by simp; omega
      go_enter Tryz.func44, Tryz.ntmps44
      go_wp2_with (go_at_call 70; refine (i_isId_t _ _ (by omega) (by omega)).mono ?_; rintro e w' ⟨rfl, rfl⟩)
      go_ret
      exact ⟨by first | (simp; done) | (simp; omega), (belx)⟩
  · by_cases h7 : 20 < n3
    · have := F (by omega); subst this; clear F T
      have q : ¬ (n3 : Int) ≤ 20 := by omega
      go_enter Tryz.func44, Tryz.ntmps44
      go_wp2_with (go_at_call 70; refine (i_isId_t _ _ (by omega) (by omega)).mono ?_; rintro e w' ⟨rfl, rfl⟩)
      go_ret
      exact ⟨rfl, (belx)⟩
    have q7 : (n3 : Int) ≤ 20 := by omega
    by_cases h9 : 0 < n3
    · have := T (by omega); subst this; clear F T
      have q9 : (0 : Int) < n3 := by omega
      go_enter Tryz.func44, Tryz.ntmps44
      go_wp2_with (go_at_call 70; refine (i_isId_t _ _ (by omega) (by omega)).mono ?_; rintro e w' ⟨rfl, rfl⟩)
      go_ret
      exact ⟨rfl, (belx)⟩
    · have q9 : ¬ (0 : Int) < n3 := by omega
      by_cases h10 : x2 = 1
      · have := T (by omega); subst this; clear F T; subst h10
        go_enter Tryz.func44, Tryz.ntmps44
        go_wp2_with (go_at_call 70; refine (i_isId_t _ _ (by omega) (by omega)).mono ?_; rintro e w' ⟨rfl, rfl⟩)
        go_ret
        exact ⟨rfl, (belx)⟩
      · have := F (by omega); subst this; clear F T
        have q10 : (x2 == 1) = false := by simpa using h10
        go_enter Tryz.func44, Tryz.ntmps44
        go_wp2_with (go_at_call 70; refine (i_isId_t _ _ (by omega) (by omega)).mono ?_; rintro e w' ⟨rfl, rfl⟩)
        go_ret
        exact ⟨by first | (simp; done) | (simp; omega), (belx)⟩
theorem i_PieceOk {w : World} {cs : List Value} {p : DPiece} (h : tPiece.R w w.heap.size cs p) (hz : szPiece p ≤ 1048576) :
    Calls Tryz.prog 44 #[.agg cs.toArray] w fun e w' => e = .returned (.bool (decide (PcOk p))) ∧ Below w.heap.size w w' := by
  obtain ⟨A3, n3, c3, rfl, hi0, hi1, hi2, ha3, hb3, hl3, hr3⟩ := openPiece h
  have rg := i64_rg hi2
  exact i_PieceOkN w A3 n3 c3 _ _ _ _ ⟨by omega, by omega⟩ (fun hh => decide_eq_true (by unfold PcOk; rw [hl3]; exact hh)) (fun hh => decide_eq_false (by unfold PcOk; rw [hl3]; exact hh))
end Go.Proofs.YtaabmaoldhoinaaGreat
namespace Go.Proofs.YtaabmaoldhoinaaGreat
set_option linter.unusedVariables false
/-- Ascending. -/
def Asc (l : List Int) : Prop := ∀ i, i + 1 < l.length → l.getD i 0 < l.getD (i + 1) 0
/-- A message that lacks something. -/
def WhN (w : DWhole) : Prop := (0 ≤ w.2.2.1 ∧ w.2.2.1 ≤ 65535) ∧ (1 ≤ w.2.2.2.length ∧ (w.2.2.2.length : Int) < w.2.1) ∧ (∀ p ∈ w.2.2.2, PcOk p ∧ p.1 = w.1 ∧ p.2.2.1 = w.2.1) ∧ Asc (w.2.2.2.map fun p => p.2.1)
/-- A desk in order. -/
def DkOk (d : DDesk) : Prop := d.1.length ≤ 6 ∧ (∀ x ∈ d.2, 0 ≤ x ∧ x ≤ 255) ∧ Asc d.2 ∧ Asc (d.1.map fun w => w.1) ∧ ∀ w ∈ d.1, WhN w ∧ w.1 ∉ d.2
noncomputable instance (w : DWhole) : Decidable (WhN w) := Classical.propDecidable _
noncomputable instance (d : DDesk) : Decidable (DkOk d) := Classical.propDecidable _
theorem map_at {α : Type} {f : α → Int} {l : List α} {i : Nat} {a : α} (h : l[i]? = some a) : (l.map f).getD i 0 = f a := by
  rw [List.getD_eq_getElem?_getD, List.getElem?_map, h]; rfl
theorem asc_ge {l : List Int} (h : Asc l) (h0 : ∀ x ∈ l, 0 ≤ x) : ∀ i, i < l.length → (i : Int) ≤ l.getD i 0 := by
  intro i
  induction i with
  | zero =>
    intro hi
    have : l.getD 0 0 ∈ l := by rw [List.getD_eq_getElem?_getD, List.getElem?_eq_getElem hi]; exact List.getElem_mem _
    simpa using h0 _ this
  | succ i ih =>
    intro hi
    have := h i hi
    have := ih (by omega)
    omega
theorem asc_len {l : List Int} (h : Asc l) (h0 : ∀ x ∈ l, 0 ≤ x ∧ x ≤ 255) : l.length ≤ 256 := by
  by_cases hl : l.length ≤ 256
  · exact hl
  · have h1 := asc_ge h (fun x hx => (h0 x hx).1) 256 (by omega)
    have h2 : l.getD 256 0 ∈ l := by rw [List.getD_eq_getElem?_getD, List.getElem?_eq_getElem (by omega)]; exact List.getElem_mem _
    have := (h0 _ h2).2
    omega
/-- The first k numbers are names, ascending. -/
def DnK (l : List Int) (k : Nat) : Prop := ∀ i, i < k → (0 ≤ l.getD i 0 ∧ l.getD i 0 ≤ 255) ∧ ∀ q, i = q + 1 → l.getD q 0 < l.getD i 0
theorem DnK.zero {l : List Int} : DnK l 0 := fun i h => absurd h (by omega)
theorem DnK.succ {l : List Int} {k : Nat} (h : DnK l k) (h1 : 0 ≤ l.getD k 0) (h2 : l.getD k 0 ≤ 255) (h3 : ∀ q, k = q + 1 → l.getD q 0 < l.getD k 0) : DnK l (k + 1) := fun i hi => by
  rcases Nat.lt_succ_iff_lt_or_eq.1 hi with h' | rfl
  · exact h i h'
  · exact ⟨⟨h1, h2⟩, h3⟩
theorem DnK.done {l : List Int} {k : Nat} (h : DnK l k) (hk : l.length ≤ k) : (∀ x ∈ l, 0 ≤ x ∧ x ≤ 255) ∧ Asc l := by
  refine ⟨fun x hx => ?_, fun i hi => (h (i + 1) (by omega)).2 i rfl⟩
  obtain ⟨i, hi, rfl⟩ := List.getElem_of_mem hx
  have := (h i (by omega)).1
  rwa [List.getD_eq_getElem?_getD, List.getElem?_eq_getElem hi] at this
/-- The first k things: each meets P, and f ascends. -/
def RwK {α : Type} (P : α → Prop) (f : α → Int) (l : List α) (k : Nat) : Prop := ∀ i a, i < k → l[i]? = some a → P a ∧ ∀ q b, i = q + 1 → l[q]? = some b → f b < f a
theorem RwK.zero {α : Type} {P : α → Prop} {f : α → Int} {l : List α} : RwK P f l 0 := fun i a h => absurd h (by omega)
theorem RwK.succ {α : Type} {P : α → Prop} {f : α → Int} {l : List α} {k : Nat} {a : α} (h : RwK P f l k) (hl : l[k]? = some a) (hP : P a) (h3 : ∀ q b, k = q + 1 → l[q]? = some b → f b < f a) : RwK P f l (k + 1) := fun i x hi hx => by
  rcases Nat.lt_succ_iff_lt_or_eq.1 hi with h' | rfl
  · exact h i x h' hx
  · rw [hl] at hx; injection hx with hx; subst hx; exact ⟨hP, h3⟩
theorem RwK.done {α : Type} {P : α → Prop} {f : α → Int} {l : List α} {k : Nat} (h : RwK P f l k) (hk : l.length ≤ k) : (∀ a ∈ l, P a) ∧ Asc (l.map f) := by
  refine ⟨fun a ha => ?_, fun i hi => ?_⟩
  · obtain ⟨i, hi, rfl⟩ := List.getElem_of_mem ha
    exact (h i _ (by omega) (List.getElem?_eq_getElem hi)).1
  · rw [List.length_map] at hi
    rw [map_at (List.getElem?_eq_getElem (show i < l.length by omega)), map_at (List.getElem?_eq_getElem hi)]
    exact (h (i + 1) _ (by omega) (List.getElem?_eq_getElem hi)).2 i _ rfl (List.getElem?_eq_getElem (by omega))
theorem asc_at {α : Type} {f : α → Int} {l : List α} {q : Nat} {a b : α} (h : Asc (l.map f)) (ha : l[q + 1]? = some a) (hb : l[q]? = some b) : f b < f a := by
  have hq := (List.getElem?_eq_some_iff.1 ha).1
  have := h q (by rw [List.length_map]; exact hq)
  rwa [map_at ha, map_at hb] at this
end Go.Proofs.YtaabmaoldhoinaaGreat
namespace Go.Proofs.YtaabmaoldhoinaaGreat
set_option linter.unusedVariables false
theorem asc_lt {l : List Int} (h : Asc l) : ∀ i j, i < j → j < l.length → l.getD i 0 < l.getD j 0 := by
  intro i j hij
  induction j with
  | zero => omega
  | succ j ih =>
    intro hj
    have h1 := h j hj
    rcases Nat.lt_succ_iff_lt_or_eq.1 hij with h' | rfl
    · have := ih h' (by omega); omega
    · exact h1
theorem dk_apart {p : DDesk} (h : DkOk p) : Apart (fun a : DWhole => a.1) p.1 := by
  intro i j a b hij ha hb
  have h1 := asc_lt h.2.2.2.1 i j hij (by rw [List.length_map]; exact (List.getElem?_eq_some_iff.1 hb).1)
  rw [map_at ha, map_at hb] at h1
  exact fun e => by have e' : a.1 = b.1 := e; have h1' : a.1 < b.1 := h1; omega
theorem dk_wh {p : DDesk} (h : DkOk p) {a : DWhole} (ha : a ∈ p.1) : 1 ≤ a.2.2.2.length ∧ (a.2.2.2.length : Int) < a.2.1 ∧ a.2.1 ≤ 8 := by
  obtain ⟨-, ⟨h1, h2⟩, h3, -⟩ := (h.2.2.2.2 a ha).1
  refine ⟨h1, h2, ?_⟩
  have hm := List.getElem_mem (l := a.2.2.2) (n := 0) (by omega)
  have h4 := h3 _ hm
  have h5 := h4.1.2.2.1
  omega
end Go.Proofs.YtaabmaoldhoinaaGreat
