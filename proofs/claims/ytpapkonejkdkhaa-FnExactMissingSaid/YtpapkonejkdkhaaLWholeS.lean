/-
  The laws' functions on rows of Whole.
-/
import Derived.Test.YtpapkonejkdkhaaLWhole
import Derived.Deep.RegionHeld3
namespace Go.Proofs.Ytpapkonejkdkhaa
set_option maxRecDepth 100000
set_option linter.unusedVariables false
set_option linter.unusedSimpArgs false
open Go.ChangeShapes Go.WideShapes Go.ChangeAt Go.RowKit
theorem o_szWholeS_t {w : World} {n c : Nat} {A : Option Addr} {l : List DWhole} {k : Int} (h : tWhole.row.R w w.heap.size [.slice A n c] l) (h1 : 0 ≤ k) (h2 : k ≤ 1048576) (h3 : (rsz szWhole l : Int) ≤ k) :
    Calls Try.prog 69 #[.slice A n c, .int .i64 k] w fun e w' => e = .returned (.int .i64 (k - rsz szWhole l)) ∧ Below w.heap.size w w' := by
  obtain ⟨hln, hnc, hcm⟩ := rowR_len h
  obtain ⟨s, hs⟩ : ∃ s, rsum szWhole l = s := ⟨_, rfl⟩
  have hz : rsz szWhole l = n + s := by unfold rsz; rw [hln, hs]
  rw [hz] at h3 ⊢
  have HLN := Lib.hid hln
  have HS := Lib.hid hs
  clear hz hln hs
  have d : decide (k - (n : Int) < 0) = false := by simp; omega
  go_enter Try.func69, Try.ntmps69
  go_wp2_with fail
  go_loopw [1, 5] (fun x i wr => ∃ j : Nat, j ≤ n ∧ x = .int .i64 (k - n - (rsum szWhole (l.take j) : Nat)) ∧ i = .int .i64 j ∧ Below w.heap.size w wr) (fun _ i _ => n - (intOf i).toNat)
  case atStart => exact ⟨0, by omega, by rw [rsum_zero]; go_num, rfl, (by repeat (first | (with_reducible exact Below.refl _ _) | (with_reducible assumption) | (with_reducible refine bel_alloc ?_ _) | (with_reducible refine bel_drew ?_) | (with_reducible refine below_drewN ?_ _) | (with_reducible refine bel_put ?_ (by first | exact Nat.le_refl _ | (simp; done) | (simp; omega)) _)))⟩
  case round =>
    obtain ⟨j, hj, rfl, rfl, hB⟩ := hrel
    by_cases hlt : j < n
    · obtain ⟨a, b, off, es, hl, rfl, hb, hes, hR⟩ := rowR_at (K := 4) h hlt rfl
      have hsa := rsum_at (c := szWhole) hl
      have hsn := rsum_sn (c := szWhole) hl
      rw [HS.out] at hsa
      obtain ⟨q, hq⟩ : ∃ q, rsum szWhole (l.take j) = q := ⟨_, rfl⟩
      obtain ⟨q', hq'⟩ : ∃ q, rsum szWhole (l.take (j + 1)) = q := ⟨_, rfl⟩
      rw [hq] at hsa hsn
      rw [hq'] at hsn
      rw [hq]
      have HQ := Lib.hid hq'
      clear hq hq'
      obtain ⟨A3, n3, c3, rfl, hi0, hi1, hi2, ha3, hb3, hl3, hr3⟩ := openWhole hR
      have e0 : wr.cell? ⟨b, off + j * 4, none⟩ = some (.int .i64 (a.1)) := cell_at hB hb (hes 0 (by omega))
      have e1 : wr.cell? ⟨b, off + j * 4 + 1, none⟩ = some (.int .i64 (a.2.1)) := cell_at hB hb (hes 1 (by omega))
      have e2 : wr.cell? ⟨b, off + j * 4 + 2, none⟩ = some (.int .i64 (a.2.2.1)) := cell_at hB hb (hes 2 (by omega))
      have e3 : wr.cell? ⟨b, off + j * 4 + 3, none⟩ = some (.slice A3 n3 c3) := cell_at hB hb (hes 3 (by omega))
      clear hes
      have d2 : decide (k - (n : Int) - q - (szWhole a : Nat) < 0) = false := by simp; omega
      go_wp2_with fail
      refine (o_szWhole_t (tWhole.reach hR ?hB) (by omega) (by omega) (by omega)).mono ?_
      case hB => exact (by repeat (first | (with_reducible exact Below.refl _ _) | (with_reducible assumption) | (with_reducible refine bel_alloc ?_ _) | (with_reducible refine bel_drew ?_) | (with_reducible refine below_drewN ?_ _) | (with_reducible refine bel_put ?_ (by first | exact Nat.le_refl _ | (simp; done) | (simp; omega)) _)))
      rintro e w1 ⟨rfl, hb1⟩
      go_wp2
      go_roundw
      case rel => exact ⟨j + 1, by omega, by rw [HQ.out]; go_num, by go_num, bel_trans hB hb1⟩
      case measure => simp [intOf]; omega
    · obtain rfl : j = n := by omega
      have HA := Lib.hid (show rsum szWhole (l.take j) = s from by rw [rsum_all (Nat.le_of_eq HLN.out)]; exact HS.out)
      rw [HA.out]
      go_wp2
      go_ret
      exact ⟨ret_int (by omega), hB⟩
theorem o_szWholeS_f {w : World} {n c : Nat} {A : Option Addr} {l : List DWhole} {k : Int} (h : tWhole.row.R w w.heap.size [.slice A n c] l) (h1 : 0 ≤ k) (h2 : k ≤ 1048576) (h3 : ¬ (rsz szWhole l : Int) ≤ k) :
    Calls Try.prog 69 #[.slice A n c, .int .i64 k] w fun e w' => e = .returned (.int .i64 (-1)) ∧ Below w.heap.size w w' := by
  obtain ⟨hln, hnc, hcm⟩ := rowR_len h
  obtain ⟨s, hs⟩ : ∃ s, rsum szWhole l = s := ⟨_, rfl⟩
  have hz : rsz szWhole l = n + s := by unfold rsz; rw [hln, hs]
  rw [hz] at h3
  have HLN := Lib.hid hln
  have HS := Lib.hid hs
  clear hz hln hs
  by_cases hnk : k < (n : Int)
  · have d : decide (k - (n : Int) < 0) = true := by simp; omega
    go_enter Try.func69, Try.ntmps69
    go_wp2
    go_ret
    exact ⟨rfl, (by repeat (first | (with_reducible exact Below.refl _ _) | (with_reducible assumption) | (with_reducible refine bel_alloc ?_ _) | (with_reducible refine bel_drew ?_) | (with_reducible refine below_drewN ?_ _) | (with_reducible refine bel_put ?_ (by first | exact Nat.le_refl _ | (simp; done) | (simp; omega)) _)))⟩
  have d : decide (k - (n : Int) < 0) = false := by simp; omega
  go_enter Try.func69, Try.ntmps69
  go_wp2_with fail
  go_loopw [1, 5] (fun x i wr => ∃ j : Nat, j ≤ n ∧ x = .int .i64 (k - n - (rsum szWhole (l.take j) : Nat)) ∧ i = .int .i64 j ∧ Below w.heap.size w wr ∧ (n : Int) + (rsum szWhole (l.take j) : Nat) ≤ k) (fun _ i _ => n - (intOf i).toNat)
  case atStart => exact ⟨0, by omega, by rw [rsum_zero]; go_num, rfl, (by repeat (first | (with_reducible exact Below.refl _ _) | (with_reducible assumption) | (with_reducible refine bel_alloc ?_ _) | (with_reducible refine bel_drew ?_) | (with_reducible refine below_drewN ?_ _) | (with_reducible refine bel_put ?_ (by first | exact Nat.le_refl _ | (simp; done) | (simp; omega)) _))), by rw [rsum_zero]; omega⟩
  case round =>
    obtain ⟨j, hj, rfl, rfl, hB, hv⟩ := hrel
    by_cases hlt : j < n
    · obtain ⟨a, b, off, es, hl, rfl, hb, hes, hR⟩ := rowR_at (K := 4) h hlt rfl
      have hsa := rsum_at (c := szWhole) hl
      have hsn := rsum_sn (c := szWhole) hl
      rw [HS.out] at hsa
      obtain ⟨q, hq⟩ : ∃ q, rsum szWhole (l.take j) = q := ⟨_, rfl⟩
      obtain ⟨q', hq'⟩ : ∃ q, rsum szWhole (l.take (j + 1)) = q := ⟨_, rfl⟩
      rw [hq] at hsa hsn
      rw [hq'] at hsn
      rw [hq]
      have HQ := Lib.hid hq'
      rw [hq] at hv
      clear hq hq'
      obtain ⟨A3, n3, c3, rfl, hi0, hi1, hi2, ha3, hb3, hl3, hr3⟩ := openWhole hR
      have e0 : wr.cell? ⟨b, off + j * 4, none⟩ = some (.int .i64 (a.1)) := cell_at hB hb (hes 0 (by omega))
      have e1 : wr.cell? ⟨b, off + j * 4 + 1, none⟩ = some (.int .i64 (a.2.1)) := cell_at hB hb (hes 1 (by omega))
      have e2 : wr.cell? ⟨b, off + j * 4 + 2, none⟩ = some (.int .i64 (a.2.2.1)) := cell_at hB hb (hes 2 (by omega))
      have e3 : wr.cell? ⟨b, off + j * 4 + 3, none⟩ = some (.slice A3 n3 c3) := cell_at hB hb (hes 3 (by omega))
      clear hes
      by_cases hg : (n : Int) + q + (szWhole a : Nat) ≤ k
      · have d2 : decide (k - (n : Int) - q - (szWhole a : Nat) < 0) = false := by simp; omega
        go_wp2_with fail
        refine (o_szWhole_t (tWhole.reach hR ?hB) (by omega) (by omega) (by omega)).mono ?_
        case hB => exact (by repeat (first | (with_reducible exact Below.refl _ _) | (with_reducible assumption) | (with_reducible refine bel_alloc ?_ _) | (with_reducible refine bel_drew ?_) | (with_reducible refine below_drewN ?_ _) | (with_reducible refine bel_put ?_ (by first | exact Nat.le_refl _ | (simp; done) | (simp; omega)) _)))
        rintro e w1 ⟨rfl, hb1⟩
        go_wp2
        go_roundw
        case rel => exact ⟨j + 1, by omega, by rw [HQ.out]; go_num, by go_num, bel_trans hB hb1, by rw [HQ.out]; omega⟩
        case measure => simp [intOf]; omega
      · go_wp2_with fail
        refine (o_szWhole_f (tWhole.reach hR ?hB) (by omega) (by omega) (by omega)).mono ?_
        case hB => exact (by repeat (first | (with_reducible exact Below.refl _ _) | (with_reducible assumption) | (with_reducible refine bel_alloc ?_ _) | (with_reducible refine bel_drew ?_) | (with_reducible refine below_drewN ?_ _) | (with_reducible refine bel_put ?_ (by first | exact Nat.le_refl _ | (simp; done) | (simp; omega)) _)))
        rintro e w1 ⟨rfl, hb1⟩
        go_wp2
        go_ret
        exact ⟨rfl, bel_trans hB hb1⟩
    · obtain rfl : j = n := by omega
      have HA := Lib.hid (show rsum szWhole (l.take j) = s from by rw [rsum_all (Nat.le_of_eq HLN.out)]; exact HS.out)
      rw [HA.out] at hv
      exact absurd hv (by omega)
theorem info_Whole : (Try.prog.info? 98).map (fun i => (i.zero, i.size, i.bytes)) = some (some (.agg #[.int .i64 0, .int .i64 0, .int .i64 0, .slice none 0 0]), 4, 48) := by kernel_rfl
set_option maxHeartbeats 800000 in
theorem o_toWholeS {w : World} {n c : Nat} {A : Option Addr} {l : List DWhole} (h : tWhole.row.R w w.heap.size [.slice A n c] l) (hz : rsz szWhole l ≤ 1048576) :
    Calls Try.prog 74 #[.slice A n c] w fun e w' => ∃ A' c' F, e = .returned (.slice A' l.length c') ∧ tWhole.row.O w' [.slice A' l.length c'] l F ∧ New w.heap.size F ∧ Below w.heap.size w w' := by
  obtain ⟨i0, hi0, hz0, hz1, hz2⟩ := info_parts info_Whole
  obtain ⟨hln, hnc, hcm⟩ := rowR_len h
  have hn : n ≤ 1048576 := by have := rsz_le (s := szWhole) l; omega
  have HLN := Lib.hid hln
  have HZ := Lib.hid hz
  clear hln hz
  go_enter Try.func74, Try.ntmps74
  go_wp2_with (at_make; refine wpList_mkS _ rfl (.tmp 6) (.tmp 6) _ rfl 98 i0 _ 4 Try.underlying59 hi0 hz0 hz1 n rfl rfl (by rw [hz2]; omega) (by simp only [maxLen]; omega) ?_; intro w1 cur hcur hsz hB1 hgr)
  go_loopw [4] (fun i wr => ∃ j : Nat, j ≤ n ∧ i = .int .i64 j ∧ Below w.heap.size w wr ∧ ∃ F, Fill tWhole wr w.heap.size 98 n (l.take j) F ∧ New (w.heap.size + 1) F) (fun i _ => n - (intOf i).toNat)
  case atStart => exact ⟨0, by omega, rfl, hB1, [], Fill.start hcur hsz, New.nil _⟩
  case round =>
    obtain ⟨j, hj, rfl, hB, F, hf, hN⟩ := hrel
    by_cases hlt : j < n
    · obtain ⟨a, b, off, es, hl, rfl, hb, hes, hR⟩ := rowR_at (K := 4) h hlt rfl
      have HT := Lib.hid (take_sn hl)
      have HLT := Lib.hid (show (l.take j).length = j from by rw [List.length_take, HLN.out]; omega)
      have hsa : szWhole a ≤ 1048576 := by have := rsz_step (s := szWhole) hl; have := HZ.out; omega
      obtain ⟨A3, n3, c3, rfl, hi0, hi1, hi2, ha3, hb3, hl3, hr3⟩ := openWhole hR
      subst hl3
      have e0 : wr.cell? ⟨b, off + j * 4, none⟩ = some (.int .i64 (a.1)) := cell_at hB hb (hes 0 (by omega))
      have e1 : wr.cell? ⟨b, off + j * 4 + 1, none⟩ = some (.int .i64 (a.2.1)) := cell_at hB hb (hes 1 (by omega))
      have e2 : wr.cell? ⟨b, off + j * 4 + 2, none⟩ = some (.int .i64 (a.2.2.1)) := cell_at hB hb (hes 2 (by omega))
      have e3 : wr.cell? ⟨b, off + j * 4 + 3, none⟩ = some (.slice A3 (a.2.2.2).length c3) := cell_at hB hb (hes 3 (by omega))
      clear hes
      have hgs := hf.size
      go_wp2_with fail
      refine (o_toWhole (tWhole.reach hR ?hB) hsa).mono ?_
      case hB => exact (by repeat (first | (with_reducible exact Below.refl _ _) | (with_reducible assumption) | (with_reducible refine bel_alloc ?_ _) | (with_reducible refine bel_drew ?_) | (with_reducible refine below_drewN ?_ _) | (with_reducible refine bel_put ?_ (by first | exact Nat.le_refl _ | (simp; done) | (simp; omega)) _)))
      rintro e w2 ⟨cs2, F2, rfl, hO2, hN2, hb2⟩
      obtain ⟨B3, d3, G3, rfl, hFe, _, _, _, _, _, _⟩ := openOWhole hO2
      clear hFe
      have hf2 := hf.below hb2
      have hsz2 := hb2.size
      have hP := Fill.push (K := 4) hf2 (by rw [HLT.out]; exact hlt) hO2 (hN.not (by omega)) (hN2.not hgs) rfl
      rw [HLT.out, ← HT.out] at hP
      have hM : New (w.heap.size + 1) (F ++ F2) := New.app hN hN2 (by omega) hf.lt
      obtain ⟨u0, k0⟩ := hf2.cell (K := 4) (j := 0) (by rw [HLT.out]; exact hlt) rfl (by omega)
      rw [HLT.out] at k0
      replace k0 : w2.cell? ⟨w.heap.size, j * 4, none⟩ = some u0 := k0
      have f0 := hf2.frozen (j * 4)
      obtain ⟨u1, k1⟩ := hf2.cell (K := 4) (j := 1) (by rw [HLT.out]; exact hlt) rfl (by omega)
      rw [HLT.out] at k1
      replace k1 : w2.cell? ⟨w.heap.size, j * 4 + 1, none⟩ = some u1 := k1
      have f1 := hf2.frozen (j * 4 + 1)
      obtain ⟨u2, k2⟩ := hf2.cell (K := 4) (j := 2) (by rw [HLT.out]; exact hlt) rfl (by omega)
      rw [HLT.out] at k2
      replace k2 : w2.cell? ⟨w.heap.size, j * 4 + 2, none⟩ = some u2 := k2
      have f2 := hf2.frozen (j * 4 + 2)
      obtain ⟨u3, k3⟩ := hf2.cell (K := 4) (j := 3) (by rw [HLT.out]; exact hlt) rfl (by omega)
      rw [HLT.out] at k3
      replace k3 : w2.cell? ⟨w.heap.size, j * 4 + 3, none⟩ = some u3 := k3
      have f3 := hf2.frozen (j * 4 + 3)
      go_wp2
      go_roundw
      case rel => exact ⟨j + 1, by omega, by go_num, below_puts (bel_trans hB hb2) (Nat.le_refl _) (off := j * 4) (vs := [.int .i64 (a.1), .int .i64 (a.2.1), .int .i64 (a.2.2.1), .slice B3 (a.2.2.2).length d3]), _, hP, hM⟩
      case measure => simp [intOf]; omega
    · obtain rfl : j = n := by omega
      have HA := Lib.hid (show l.take j = l from by rw [List.take_of_length_le (Nat.le_of_eq HLN.out)])
      rw [HA.out] at hf
      obtain ⟨F2, hF2, hor⟩ := hf.done HLN.out (by omega)
      have HN := Lib.hid HLN.out
      go_wp2
      go_ret
      refine ⟨some ⟨w.heap.size, 0, none⟩, j, F2, ?_, hF2, hN.cons hor, hB⟩
      rw [HN.out]
      rfl
set_option maxHeartbeats 800000 in
theorem o_eqWholeS {w : World} {n m c d : Nat} {A A' : Option Addr} {l : List DWhole} (h : tWhole.row.R w w.heap.size [.slice A n c] l) (h' : tWhole.row.R w w.heap.size [.slice A' m d] l) :
    Calls Try.prog 79 #[.slice A n c, .slice A' m d] w fun e w' => e = .returned (.bool true) ∧ Below w.heap.size w w' := by
  obtain ⟨hln, hnc, hcm⟩ := rowR_len h
  obtain ⟨hln', hnc', hcm'⟩ := rowR_len h'
  obtain rfl : m = n := by omega
  have HLN := Lib.hid hln
  clear hln hln'
  go_enter Try.func79, Try.ntmps79
  go_wp2_with fail
  go_loopw [5] (fun i wr => ∃ j : Nat, j ≤ m ∧ i = .int .i64 j ∧ Below w.heap.size w wr) (fun i _ => m - (intOf i).toNat)
  case atStart => exact ⟨0, by omega, rfl, (by repeat (first | (with_reducible exact Below.refl _ _) | (with_reducible assumption) | (with_reducible refine bel_alloc ?_ _) | (with_reducible refine bel_drew ?_) | (with_reducible refine below_drewN ?_ _) | (with_reducible refine bel_put ?_ (by first | exact Nat.le_refl _ | (simp; done) | (simp; omega)) _)))⟩
  case round =>
    obtain ⟨j, hj, rfl, hB⟩ := hrel
    by_cases hlt : j < m
    · obtain ⟨a, b, off, es, hl, rfl, hb, hes, hR⟩ := rowR_at (K := 4) h hlt rfl
      obtain ⟨a', b', off', es', hl', rfl, hb', hes', hR'⟩ := rowR_at (K := 4) h' hlt rfl
      obtain rfl : a = a' := by rw [hl] at hl'; exact Option.some.inj hl'
      clear hl hl'
      obtain ⟨A3, n3, c3, rfl, hi0, hi1, hi2, ha3, hb3, hl3, hr3⟩ := openWhole hR
      obtain ⟨A3', n3', c3', rfl, hi0', hi1', hi2', ha3', hb3', hl3', hr3'⟩ := openWhole hR'
      subst hl3
      subst hl3'
      have e0 : wr.cell? ⟨b, off + j * 4, none⟩ = some (.int .i64 (a.1)) := cell_at hB hb (hes 0 (by omega))
      have e1 : wr.cell? ⟨b, off + j * 4 + 1, none⟩ = some (.int .i64 (a.2.1)) := cell_at hB hb (hes 1 (by omega))
      have e2 : wr.cell? ⟨b, off + j * 4 + 2, none⟩ = some (.int .i64 (a.2.2.1)) := cell_at hB hb (hes 2 (by omega))
      have e3 : wr.cell? ⟨b, off + j * 4 + 3, none⟩ = some (.slice A3 (a.2.2.2).length c3) := cell_at hB hb (hes 3 (by omega))
      have e0' : wr.cell? ⟨b', off' + j * 4, none⟩ = some (.int .i64 (a.1)) := cell_at hB hb' (hes' 0 (by omega))
      have e1' : wr.cell? ⟨b', off' + j * 4 + 1, none⟩ = some (.int .i64 (a.2.1)) := cell_at hB hb' (hes' 1 (by omega))
      have e2' : wr.cell? ⟨b', off' + j * 4 + 2, none⟩ = some (.int .i64 (a.2.2.1)) := cell_at hB hb' (hes' 2 (by omega))
      have e3' : wr.cell? ⟨b', off' + j * 4 + 3, none⟩ = some (.slice A3' (a.2.2.2).length c3') := cell_at hB hb' (hes' 3 (by omega))
      clear hes hes'
      go_wp2_with fail
      go_region_held3 (fun w' => w'.cell? ⟨b, off + j * 4, none⟩ = some (.int .i64 (a.1)) ∧ w'.cell? ⟨b, off + j * 4 + 1, none⟩ = some (.int .i64 (a.2.1)) ∧ w'.cell? ⟨b, off + j * 4 + 2, none⟩ = some (.int .i64 (a.2.2.1)) ∧ w'.cell? ⟨b, off + j * 4 + 3, none⟩ = some (.slice A3 (a.2.2.2).length c3) ∧ w'.cell? ⟨b', off' + j * 4, none⟩ = some (.int .i64 (a.1)) ∧ w'.cell? ⟨b', off' + j * 4 + 1, none⟩ = some (.int .i64 (a.2.1)) ∧ w'.cell? ⟨b', off' + j * 4 + 2, none⟩ = some (.int .i64 (a.2.2.1)) ∧ w'.cell? ⟨b', off' + j * 4 + 3, none⟩ = some (.slice A3' (a.2.2.2).length c3')) (first | (exact ⟨e0, e1, e2, e3, e0', e1', e2', e3'⟩) | (exact ⟨cell_bel hs2 e0, cell_bel hs2 e1, cell_bel hs2 e2, cell_bel hs2 e3, cell_bel hs2 e0', cell_bel hs2 e1', cell_bel hs2 e2', cell_bel hs2 e3'⟩) | go_keep)
        ((go_at_call 122; refine (o_eqWhole (tWhole.reach hR (by repeat (first | (with_reducible exact Below.refl _ _) | (with_reducible assumption) | (with_reducible refine bel_alloc ?_ _) | (with_reducible refine bel_drew ?_) | (with_reducible refine below_drewN ?_ _) | (with_reducible refine bel_put ?_ (by first | exact Nat.le_refl _ | (simp; done) | (simp; omega)) _)))) (tWhole.reach hR' (by repeat (first | (with_reducible exact Below.refl _ _) | (with_reducible assumption) | (with_reducible refine bel_alloc ?_ _) | (with_reducible refine bel_drew ?_) | (with_reducible refine below_drewN ?_ _) | (with_reducible refine bel_put ?_ (by first | exact Nat.le_refl _ | (simp; done) | (simp; omega)) _))))).mono ?_; rintro e w2 ⟨rfl, hb2⟩; have hs2 : Below wr.heap.size wr w2 := bel_trans (by repeat (first | (with_reducible exact Below.refl _ _) | (with_reducible assumption) | (with_reducible refine bel_alloc ?_ _) | (with_reducible refine bel_drew ?_) | (with_reducible refine below_drewN ?_ _) | (with_reducible refine bel_put ?_ (by first | exact Nat.le_refl _ | (simp; done) | (simp; omega)) _))) hb2))
      go_wp2
      go_roundw
      case rel => exact ⟨j + 1, by omega, by go_num, bel_trans hB hs2⟩
      case measure => simp [intOf]; omega
    · obtain rfl : j = m := by omega
      go_wp2
      go_ret
      exact ⟨rfl, hB⟩
set_option maxHeartbeats 1000000 in
theorem o_markWholeS {w : World} {n c : Nat} {A : Option Addr} {l : List DWhole} {F : List Nat} (k : Int) (h : tWhole.row.O w [.slice A n c] l F) (hF : F.Nodup) (h0 : 0 ≤ k) (hk : k + rsum rcWhole l ≤ 4611686018427387904) :
    Calls Try.prog 81 #[.slice A n c, .int .i64 k] w fun e w' => e = .returned (.int .i64 (k + rsum rcWhole l)) ∧ tWhole.row.O w' [.slice A n c] (rmk rcWhole rmWhole k l) F ∧ Only F w w' := by
  obtain ⟨_, _, hsh, hnc, hcm⟩ := rowO_shape h
  have hln : l.length = n := by injection hsh with _ e2 _; exact e2.symm
  have hnc2 : n ≤ 9223372036854775807 := by omega
  clear hsh hnc hcm
  obtain ⟨s, hs⟩ : ∃ s, rsum rcWhole l = s := ⟨_, rfl⟩
  rw [hs] at hk ⊢
  have HLN := Lib.hid hln
  have HS := Lib.hid hs
  clear hln hs
  go_enter Try.func81, Try.ntmps81
  go_wp2
  go_loopw [1, 5] (fun x i wr => ∃ j : Nat, j ≤ n ∧ x = .int .i64 (k + (rsum rcWhole (l.take j) : Nat)) ∧ i = .int .i64 j ∧ tWhole.row.O wr [.slice A n c] (rpart rcWhole rmWhole k l j) F ∧ Only F w wr) (fun _ i _ => n - (intOf i).toNat)
  case atStart => exact ⟨0, by omega, by rw [rsum_zero]; go_num, rfl, by rw [rpart_zero]; exact h, Only.refl _ _⟩
  case round =>
    obtain ⟨j, hj, rfl, rfl, hO, hG⟩ := hrel
    by_cases hlt : j < n
    · obtain ⟨a, hl⟩ : ∃ a, l[j]? = some a := ⟨_, List.getElem?_eq_getElem (by rw [HLN.out]; exact hlt)⟩
      have HP := Lib.hid (rpart_set (c := rcWhole) (m := rmWhole) (k := k) hl)
      have hat := rpart_at (c := rcWhole) (m := rmWhole) (k := k) hl
      have hsa := rsum_at (c := rcWhole) hl
      have hsn := rsum_sn (c := rcWhole) hl
      rw [HS.out] at hsa
      obtain ⟨q, hq⟩ : ∃ q, rsum rcWhole (l.take j) = q := ⟨_, rfl⟩
      obtain ⟨q', hq'⟩ : ∃ q, rsum rcWhole (l.take (j + 1)) = q := ⟨_, rfl⟩
      rw [hq] at hsa hsn
      rw [hq'] at hsn
      rw [hq]
      have HQ := Lib.hid hq'
      have HQ2 := Lib.hid hq
      clear hq hq'
      dsimp only [rcWhole] at hsa hsn
      obtain ⟨g, off, cur, et, es, Fi, rfl, hcur, hes, hOe, hgF, hgi, hFi, hnd, hback⟩ := rowO_at (K := 4) hO hF hat rfl
      obtain ⟨A3, c3, F3, rfl, hFe, hi0, hi1, hi2, ha3, hb3, hr3⟩ := openOWhole hOe
      subst Fi
      obtain ⟨x0, x1, x2, r3⟩ := a
      dsimp only at *
      have e0 : wr.cell? ⟨g, off + j * 4, none⟩ = some (.int .i64 x0) := by rw [Box.cell (t := et) hcur]; exact hes 0 (by omega)
      have f0 : wr.frozen? ⟨g, off + j * 4, none⟩ = false := Box.frozen (t := et) hcur _
      have e1 : wr.cell? ⟨g, off + j * 4 + 1, none⟩ = some (.int .i64 x1) := by rw [Box.cell (t := et) hcur]; exact hes 1 (by omega)
      have f1 : wr.frozen? ⟨g, off + j * 4 + 1, none⟩ = false := Box.frozen (t := et) hcur _
      have e2 : wr.cell? ⟨g, off + j * 4 + 2, none⟩ = some (.int .i64 x2) := by rw [Box.cell (t := et) hcur]; exact hes 2 (by omega)
      have f2 : wr.frozen? ⟨g, off + j * 4 + 2, none⟩ = false := Box.frozen (t := et) hcur _
      have e3 : wr.cell? ⟨g, off + j * 4 + 3, none⟩ = some (.slice A3 r3.length c3) := by rw [Box.cell (t := et) hcur]; exact hes 3 (by omega)
      have f3 : wr.frozen? ⟨g, off + j * 4 + 3, none⟩ = false := Box.frozen (t := et) hcur _
      obtain ⟨cur1, hX0, hcs, hun, hval⟩ := puts_heap (off := off + j * 4) (vs := [.int .i64 (k + (q : Int)), .int .i64 (k + (q : Int) + 1), .int .i64 (k + (q : Int) + 1 + 1)]) hcur
      dsimp only [List.length_cons, List.length_nil] at hun hval
      have hcz : ∀ i, i < 4 → off + j * 4 + i < cur.size := fun i hi => by
        by_cases hh : off + j * 4 + i < cur.size
        · exact hh
        · have := hes i hi; rw [Array.getElem?_eq_none (by omega)] at this; rcases (by omega : i = 0 ∨ i = 1 ∨ i = 2 ∨ i = 3) with rfl | rfl | rfl | rfl <;> simp at this
      have hgz : g < (puts wr g (off + j * 4) [.int .i64 (k + (q : Int)), .int .i64 (k + (q : Int) + 1), .int .i64 (k + (q : Int) + 1 + 1)]).heap.size := by rw [size_puts]; exact Box.size (t := et) hcur
      have OG0 : Only F w (puts wr g (off + j * 4) [.int .i64 (k + (q : Int)), .int .i64 (k + (q : Int) + 1), .int .i64 (k + (q : Int) + 1 + 1)]) := only_puts hG hgF
      have hk0 : ∀ f, f ≠ g → (puts wr g (off + j * 4) [.int .i64 (k + (q : Int)), .int .i64 (k + (q : Int) + 1), .int .i64 (k + (q : Int) + 1 + 1)]).heap[f]? = wr.heap[f]? := fun f hf => puts_far hf
      have hzz : (puts wr g (off + j * 4) [.int .i64 (k + (q : Int)), .int .i64 (k + (q : Int) + 1), .int .i64 (k + (q : Int) + 1 + 1)]).heap.size = wr.heap.size := size_puts
      have y3 : ∀ f ∈ F3, f < wr.heap.size ∧ f ≠ g := fun f hf => ⟨(tPiece.row).lt hr3 f hf, fun e => hgi (by rw [← e]; simp [hf])⟩
      replace hr3 := (tPiece.row).kept (w' := puts wr g (off + j * 4) [.int .i64 (k + (q : Int)), .int .i64 (k + (q : Int) + 1), .int .i64 (k + (q : Int) + 1 + 1)]) hr3 (fun f hf => hk0 f (y3 f hf).2)
      have nd3 : F3.Nodup := hnd
      obtain ⟨W0, hW0⟩ : ∃ W0, puts wr g (off + j * 4) [.int .i64 (k + (q : Int)), .int .i64 (k + (q : Int) + 1), .int .i64 (k + (q : Int) + 1 + 1)] = W0 := ⟨_, rfl⟩
      rw [hW0] at hX0 hgz OG0 hk0 hzz hr3
      have Z0 : wr.heap.size ≤ W0.heap.size := Nat.le_of_eq hzz.symm
      have hX : W0.heap[g]? = some (.cells cur1 et (0, 0)) := hX0
      go_wp2_with fail
      have hWe : (((wr.setCell ⟨g, off + j * 4, none⟩ (.int .i64 (k + (q : Int)))).setCell ⟨g, off + j * 4 + 1, none⟩ (.int .i64 (k + (q : Int) + 1))).setCell ⟨g, off + j * 4 + 2, none⟩ (.int .i64 (k + (q : Int) + 1 + 1))) = W0 := hW0
      rw [hWe]
      refine (o_markPieceS (k + (q : Int) + 1 + 1 + 1) hr3 nd3 (by omega) (by omega)).mono ?_
      rintro e W1 ⟨rfl, hO3, hG3⟩
      have OG1 : Only F w W1 := OG0.trans (hG3.mono (fun f hf => hFi f (by simp [hf])))
      have Z1 : wr.heap.size ≤ W1.heap.size := Nat.le_trans Z0 hG3.size
      have hgz : g < W1.heap.size := Nat.lt_of_lt_of_le hgz hG3.size
      replace hX : W1.heap[g]? = some (.cells cur1 et (0, 0)) := (hG3.block g (by omega) (fun e => (y3 g e).2 rfl)).trans hX
      replace hr3 := hO3
      have wf0 : (Lit.int .i64 (k + (q : Int))).wf = true := WalkArith.wf_i64 (by omega)
      have wf1 : (Lit.int .i64 (k + (q : Int) + 1)).wf = true := WalkArith.wf_i64 (by omega)
      have wf2 : (Lit.int .i64 (k + (q : Int) + 1 + 1)).wf = true := WalkArith.wf_i64 (by omega)
      obtain ⟨F2, hF2, hF2e⟩ := makeOWhole (w := W1) (p := rmWhole (k + (q : Int)) (x0, x1, x2, r3)) wf0 wf1 wf2 hr3
      subst hF2e
      have hfin := hback W1 cur1 [.int .i64 (k + (q : Int)), .int .i64 (k + (q : Int) + 1), .int .i64 (k + (q : Int) + 1 + 1), .slice A3 r3.length c3] (rmWhole (k + (q : Int)) (x0, x1, x2, r3)) hX (by
        intro i hi
        rcases (by omega : i = 0 ∨ i = 1 ∨ i = 2 ∨ i = 3) with rfl | rfl | rfl | rfl
        · exact hval 0 (by omega) (hcz 0 (by omega))
        · exact hval 1 (by omega) (hcz 1 (by omega))
        · exact hval 2 (by omega) (hcz 2 (by omega))
        · rw [hun _ (by omega)]; exact hes 3 (by omega)) (by
        intro q2 hq2
        refine hun q2 ?_
        rcases Nat.lt_or_ge q2 (off + j * 4) with h1 | h1
        · exact .inl h1
        · rcases Nat.lt_or_ge q2 (off + j * 4 + 4) with h2 | h2
          · exact absurd (by omega) (hq2 (q2 - (off + j * 4)) (by omega))
          · exact .inr (by omega)) hF2 (by
        intro f hf h1 h2
        skip
        have hfz : f < wr.heap.size := (tWhole.row).lt hO f hf
        exact ((hG3.block f (by omega) h2).trans (hk0 f h1)))
      have HPq := HP.out
      rw [HQ2.out] at HPq
      rw [HPq] at hfin
      clear HPq
      go_wp2
      go_roundw
      case rel => exact ⟨j + 1, by omega, by rw [HQ.out]; go_num, by go_num, hfin, OG1⟩
      case measure => simp [intOf]; omega
    · obtain rfl : j = n := by omega
      have HA := Lib.hid (show rsum rcWhole (l.take j) = s from by rw [rsum_all (Nat.le_of_eq HLN.out)]; exact HS.out)
      rw [HA.out]
      rw [rpart_all (Nat.le_of_eq HLN.out)] at hO
      go_wp2
      go_ret
      exact ⟨rfl, hO, hG⟩
set_option maxHeartbeats 1000000 in
theorem o_heldWholeS {w : World} {n c : Nat} {A : Option Addr} {l : List DWhole} (k : Int) (h : tWhole.row.R w w.heap.size [.slice A n c] (rmk rcWhole rmWhole k l)) (h0 : 0 ≤ k) (hk : k + rsum rcWhole l ≤ 4611686018427387904) :
    Calls Try.prog 87 #[.slice A n c, .int .i64 k] w fun e w' => e = .returned (.int .i64 (k + rsum rcWhole l)) ∧ Below w.heap.size w w' := by
  obtain ⟨hln, hnc, hcm⟩ := rowR_len h
  rw [rmk_len] at hln
  obtain ⟨s, hs⟩ : ∃ s, rsum rcWhole l = s := ⟨_, rfl⟩
  rw [hs] at hk ⊢
  have HLN := Lib.hid hln
  have HS := Lib.hid hs
  clear hln hs
  go_enter Try.func87, Try.ntmps87
  go_wp2
  go_loopw [1, 5] (fun x i wr => ∃ j : Nat, j ≤ n ∧ x = .int .i64 (k + (rsum rcWhole (l.take j) : Nat)) ∧ i = .int .i64 j ∧ Below w.heap.size w wr) (fun _ i _ => n - (intOf i).toNat)
  case atStart => exact ⟨0, by omega, by rw [rsum_zero]; go_num, rfl, (by repeat (first | (with_reducible exact Below.refl _ _) | (with_reducible assumption) | (with_reducible refine bel_alloc ?_ _) | (with_reducible refine bel_drew ?_) | (with_reducible refine below_drewN ?_ _) | (with_reducible refine bel_put ?_ (by first | exact Nat.le_refl _ | (simp; done) | (simp; omega)) _)))⟩
  case round =>
    obtain ⟨j, hj, rfl, rfl, hB⟩ := hrel
    by_cases hlt : j < n
    · obtain ⟨a, hl⟩ : ∃ a, l[j]? = some a := ⟨_, List.getElem?_eq_getElem (by rw [HLN.out]; exact hlt)⟩
      obtain ⟨a2, b, off, es, hl2, rfl, hb, hes, hR⟩ := rowR_at (K := 4) h hlt rfl
      have hat := rmk_at (c := rcWhole) (m := rmWhole) (k := k) hl
      obtain rfl : _ = a2 := Option.some.inj (hat.symm.trans hl2)
      clear hl2 hat
      have hsa := rsum_at (c := rcWhole) hl
      have hsn := rsum_sn (c := rcWhole) hl
      rw [HS.out] at hsa
      obtain ⟨q, hq⟩ : ∃ q, rsum rcWhole (l.take j) = q := ⟨_, rfl⟩
      obtain ⟨q', hq'⟩ : ∃ q, rsum rcWhole (l.take (j + 1)) = q := ⟨_, rfl⟩
      rw [hq] at hsa hsn
      rw [hq'] at hsn
      rw [hq] at hR ⊢
      have HQ := Lib.hid hq'
      clear hq hq'
      dsimp only [rcWhole] at hsa hsn
      obtain ⟨A3, n3, c3, rfl, hi0, hi1, hi2, ha3, hb3, hl3, hr3⟩ := openWhole hR
      obtain ⟨x0, x1, x2, r3⟩ := a
      dsimp only [rmWhole] at *
      have q0 : ((k + (q : Int) : Int) != k + (q : Int)) = false := by simp
      have q1 : ((k + (q : Int) + 1 : Int) != k + (q : Int) + 1) = false := by simp
      have q2 : ((k + (q : Int) + 1 + 1 : Int) != k + (q : Int) + 1 + 1) = false := by simp
      have e0 : wr.cell? ⟨b, off + j * 4, none⟩ = some (.int .i64 (k + (q : Int))) := cell_at hB hb (hes 0 (by omega))
      have e1 : wr.cell? ⟨b, off + j * 4 + 1, none⟩ = some (.int .i64 (k + (q : Int) + 1)) := cell_at hB hb (hes 1 (by omega))
      have e2 : wr.cell? ⟨b, off + j * 4 + 2, none⟩ = some (.int .i64 (k + (q : Int) + 1 + 1)) := cell_at hB hb (hes 2 (by omega))
      have e3 : wr.cell? ⟨b, off + j * 4 + 3, none⟩ = some (.slice A3 n3 c3) := cell_at hB hb (hes 3 (by omega))
      have d0 : decide (k + (q : Int) + 1 + 1 + 1 + ((rsum rcPiece r3 : Nat) : Int) < 0) = false := by simp; omega
      go_wp2_with fail
      refine (o_heldPieceS (k + (q : Int) + 1 + 1 + 1) ((tPiece.row).reach hr3 ?hB) (by omega) (by omega)).mono ?_
      case hB => exact (by repeat (first | (with_reducible exact Below.refl _ _) | (with_reducible assumption) | (with_reducible refine bel_alloc ?_ _) | (with_reducible refine bel_drew ?_) | (with_reducible refine below_drewN ?_ _) | (with_reducible refine bel_put ?_ (by first | exact Nat.le_refl _ | (simp; done) | (simp; omega)) _)))
      rintro e w1 ⟨rfl, hb1⟩
      have hB1 : Below w.heap.size w w1 := bel_trans hB hb1
      have e3_1 : w1.cell? ⟨b, off + j * 4 + 3, none⟩ = some (.slice A3 n3 c3) := cell_at hB1 hb (hes 3 (by omega))
      go_wp2
      go_roundw
      case rel => exact ⟨j + 1, by omega, by rw [HQ.out]; go_num, by go_num, hB1⟩
      case measure => simp [intOf]; omega
    · obtain rfl : j = n := by omega
      have HA := Lib.hid (show rsum rcWhole (l.take j) = s from by rw [rsum_all (Nat.le_of_eq HLN.out)]; exact HS.out)
      rw [HA.out]
      go_wp2
      go_ret
      exact ⟨rfl, hB⟩
end Go.Proofs.Ytpapkonejkdkhaa
