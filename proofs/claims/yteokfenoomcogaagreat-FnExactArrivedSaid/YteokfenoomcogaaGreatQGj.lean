/-
  LGlanceS, LMailS, LPieceS, LWhole, LWholeS, LDesk, LLetterS, LHeldS, LPool, LNode: texts joined.
-/
import Derived.Test.YteokfenoomcogaaGreatQGh
import Derived.Deep.RegionHeld3
namespace Go.Proofs.YteokfenoomcogaaGreat
set_option maxRecDepth 100000
set_option linter.unusedVariables false
set_option linter.unusedSimpArgs false
open Go.ChangeShapes Go.WideShapes Go.ChangeAt Go.RowKit
theorem o_szGlanceS_t {w : World} {n c : Nat} {A : Option Addr} {l : List DGlance} {k : Int} (h : tGlance.row.R w w.heap.size [.slice A n c] l) (h1 : 0 ≤ k) (h2 : k ≤ 1048576) (h3 : (rsz szGlance l : Int) ≤ k) :
    Calls Tryz.prog 47 #[.slice A n c, .int .i64 k] w fun e w' => e = .returned (.int .i64 (k - rsz szGlance l)) ∧ Below w.heap.size w w' := by
  obtain ⟨hln, hnc, hcm⟩ := rowR_len h
  obtain ⟨s, hs⟩ : ∃ s, rsum szGlance l = s := ⟨_, rfl⟩
  have hz : rsz szGlance l = n + s := by unfold rsz; rw [hln, hs]
  rw [hz] at h3 ⊢
  have HLN := Lib.hid hln
  have HS := Lib.hid hs
  clear hz hln hs
  have d : decide (k - (n : Int) < 0) = false := by simp; omega
  go_enter Tryz.func47, Tryz.ntmps47
  go_wp2_with fail
  have hz0 : s = 0 := by
    have hh : ∀ l : List DGlance, rsum szGlance l = 0 := fun l => by induction l with | nil => rfl | cons a l ih => simp only [rsum, szGlance, ih]
    rw [← HS.out]; exact hh l
  go_ret
  exact ⟨ret_int (by omega), (belx)⟩
theorem o_szGlanceS_f {w : World} {n c : Nat} {A : Option Addr} {l : List DGlance} {k : Int} (h : tGlance.row.R w w.heap.size [.slice A n c] l) (h1 : 0 ≤ k) (h2 : k ≤ 1048576) (h3 : ¬ (rsz szGlance l : Int) ≤ k) :
    Calls Tryz.prog 47 #[.slice A n c, .int .i64 k] w fun e w' => e = .returned (.int .i64 (-1)) ∧ Below w.heap.size w w' := by
  obtain ⟨hln, hnc, hcm⟩ := rowR_len h
  obtain ⟨s, hs⟩ : ∃ s, rsum szGlance l = s := ⟨_, rfl⟩
  have hz : rsz szGlance l = n + s := by unfold rsz; rw [hln, hs]
  rw [hz] at h3
  have HLN := Lib.hid hln
  have HS := Lib.hid hs
  clear hz hln hs
  by_cases hnk : k < (n : Int)
  · have d : decide (k - (n : Int) < 0) = true := by simp; omega
    go_enter Tryz.func47, Tryz.ntmps47
    go_wp2
    go_ret
    exact ⟨rfl, (belx)⟩
  have d : decide (k - (n : Int) < 0) = false := by simp; omega
  go_enter Tryz.func47, Tryz.ntmps47
  go_wp2_with fail
  have hz0 : s = 0 := by
    have hh : ∀ l : List DGlance, rsum szGlance l = 0 := fun l => by induction l with | nil => rfl | cons a l ih => simp only [rsum, szGlance, ih]
    rw [← HS.out]; exact hh l
  exact absurd h3 (by omega)
theorem info_Glance : (Tryz.prog.info? 81).map (fun i => (i.zero, i.size, i.bytes)) = some (some (.agg #[.int .i64 0, .int .i64 0]), 2, 16) := by kernel_rfl
set_option maxHeartbeats 800000 in
theorem o_toGlanceS {w : World} {n c : Nat} {A : Option Addr} {l : List DGlance} (h : tGlance.row.R w w.heap.size [.slice A n c] l) (hz : rsz szGlance l ≤ 1048576) :
    Calls Tryz.prog 55 #[.slice A n c] w fun e w' => ∃ A' c' F, e = .returned (.slice A' l.length c') ∧ tGlance.row.O w' [.slice A' l.length c'] l F ∧ New w.heap.size F ∧ Below w.heap.size w w' := by
  obtain ⟨i0, hi0, hz0, hz1, hz2⟩ := info_parts info_Glance
  obtain ⟨hln, hnc, hcm⟩ := rowR_len h
  have hn : n ≤ 1048576 := by have := rsz_le (s := szGlance) l; omega
  have HLN := Lib.hid hln
  have HZ := Lib.hid hz
  clear hln hz
  go_enter Tryz.func55, Tryz.ntmps55
  go_wp2_with (at_make; refine wpList_mkS _ rfl (.tmp 6) (.tmp 6) _ rfl 81 i0 _ 2 Tryz.underlying33 hi0 hz0 hz1 n rfl rfl (by rw [hz2]; omega) (by simp only [maxLen]; omega) ?_; intro w1 cur hcur hsz hB1 hgr)
  go_loopw [4] (fun i wr => ∃ j : Nat, j ≤ n ∧ i = .int .i64 j ∧ Below w.heap.size w wr ∧ ∃ F, Fill tGlance wr w.heap.size 81 n (l.take j) F ∧ New (w.heap.size + 1) F) (fun i _ => n - (intOf i).toNat)
  case atStart => exact ⟨0, by omega, rfl, hB1, [], Fill.start hcur hsz, New.nil _⟩
  case round =>
    obtain ⟨j, hj, rfl, hB, F, hf, hN⟩ := hrel
    by_cases hlt : j < n
    · obtain ⟨a, b, off, es, hl, rfl, hb, hes, hR⟩ := rowR_at (K := 2) h hlt rfl
      have HT := Lib.hid (take_sn hl)
      have HLT := Lib.hid (show (l.take j).length = j from by rw [List.length_take, HLN.out]; omega)
      have hsa : szGlance a ≤ 1048576 := by have := rsz_step (s := szGlance) hl; have := HZ.out; omega
      obtain ⟨rfl, hi0, hi1⟩ := openGlance hR
      have e0 : wr.cell? ⟨b, off + j * 2, none⟩ = some (.int .i64 (a.1)) := cell_at hB hb (hes 0 (by omega))
      have e1 : wr.cell? ⟨b, off + j * 2 + 1, none⟩ = some (.int .i64 (a.2)) := cell_at hB hb (hes 1 (by omega))
      clear hes
      have hgs := hf.size
      go_wp2_with fail
      refine (o_toGlance (tGlance.reach hR ?hB) hsa).mono ?_
      case hB => exact (belx)
      rintro e w2 ⟨cs2, F2, rfl, hO2, hN2, hb2⟩
      obtain ⟨rfl, hFe, _, _⟩ := openOGlance hO2
      clear hFe
      have hf2 := hf.below hb2
      have hsz2 := hb2.size
      have hP := Fill.push (K := 2) hf2 (by rw [HLT.out]; exact hlt) hO2 (hN.not (by omega)) (hN2.not hgs) rfl
      rw [HLT.out, ← HT.out] at hP
      have hM : New (w.heap.size + 1) (F ++ F2) := New.app hN hN2 (by omega) hf.lt
      obtain ⟨u0, k0⟩ := hf2.cell (K := 2) (j := 0) (by rw [HLT.out]; exact hlt) rfl (by omega)
      rw [HLT.out] at k0
      replace k0 : w2.cell? ⟨w.heap.size, j * 2, none⟩ = some u0 := k0
      have f0 := hf2.frozen (j * 2)
      obtain ⟨u1, k1⟩ := hf2.cell (K := 2) (j := 1) (by rw [HLT.out]; exact hlt) rfl (by omega)
      rw [HLT.out] at k1
      replace k1 : w2.cell? ⟨w.heap.size, j * 2 + 1, none⟩ = some u1 := k1
      have f1 := hf2.frozen (j * 2 + 1)
      go_wp2
      go_roundw
      case rel => exact ⟨j + 1, by omega, by go_num, below_puts (bel_trans hB hb2) (Nat.le_refl _) (off := j * 2) (vs := [.int .i64 (a.1), .int .i64 (a.2)]), _, hP, hM⟩
      case measure => simp [intOf]; omega
    · obtain rfl : j = n := by omega
      have HA := Lib.hid (show l.take j = l from by rw [List.take_of_length_le (Nat.le_of_eq HLN.out)])
      rw [HA.out] at hf
      obtain ⟨F2, hF2, hor⟩ := hf.done HLN.out (by omega)
      have HN := Lib.hid HLN.out
      go_wp2
      go_ret
      refine ⟨some ⟨w.heap.size, 0, none⟩, j, F2, ?_, hF2, hN.cons hor, hB⟩
      rw [HN.out]
      rfl
set_option maxHeartbeats 800000 in
theorem o_eqGlanceS {w : World} {n m c d : Nat} {A A' : Option Addr} {l : List DGlance} (h : tGlance.row.R w w.heap.size [.slice A n c] l) (h' : tGlance.row.R w w.heap.size [.slice A' m d] l) :
    Calls Tryz.prog 69 #[.slice A n c, .slice A' m d] w fun e w' => e = .returned (.bool true) ∧ Below w.heap.size w w' := by
  obtain ⟨hln, hnc, hcm⟩ := rowR_len h
  obtain ⟨hln', hnc', hcm'⟩ := rowR_len h'
  obtain rfl : m = n := by omega
  have HLN := Lib.hid hln
  clear hln hln'
  go_enter Tryz.func69, Tryz.ntmps69
  go_wp2_with fail
  go_loopw [5] (fun i wr => ∃ j : Nat, j ≤ m ∧ i = .int .i64 j ∧ Below w.heap.size w wr) (fun i _ => m - (intOf i).toNat)
  case atStart => exact ⟨0, by omega, rfl, (belx)⟩
  case round =>
    obtain ⟨j, hj, rfl, hB⟩ := hrel
    by_cases hlt : j < m
    · obtain ⟨a, b, off, es, hl, rfl, hb, hes, hR⟩ := rowR_at (K := 2) h hlt rfl
      obtain ⟨a', b', off', es', hl', rfl, hb', hes', hR'⟩ := rowR_at (K := 2) h' hlt rfl
      obtain rfl : a = a' := by rw [hl] at hl'; exact Option.some.inj hl'
      clear hl hl'
      obtain ⟨rfl, hi0, hi1⟩ := openGlance hR
      obtain ⟨rfl, hi0', hi1'⟩ := openGlance hR'
      have e0 : wr.cell? ⟨b, off + j * 2, none⟩ = some (.int .i64 (a.1)) := cell_at hB hb (hes 0 (by omega))
      have e1 : wr.cell? ⟨b, off + j * 2 + 1, none⟩ = some (.int .i64 (a.2)) := cell_at hB hb (hes 1 (by omega))
      have e0' : wr.cell? ⟨b', off' + j * 2, none⟩ = some (.int .i64 (a.1)) := cell_at hB hb' (hes' 0 (by omega))
      have e1' : wr.cell? ⟨b', off' + j * 2 + 1, none⟩ = some (.int .i64 (a.2)) := cell_at hB hb' (hes' 1 (by omega))
      clear hes hes'
      go_wp2_with fail
      go_region_held3 (fun w' => w'.cell? ⟨b, off + j * 2, none⟩ = some (.int .i64 (a.1)) ∧ w'.cell? ⟨b, off + j * 2 + 1, none⟩ = some (.int .i64 (a.2)) ∧ w'.cell? ⟨b', off' + j * 2, none⟩ = some (.int .i64 (a.1)) ∧ w'.cell? ⟨b', off' + j * 2 + 1, none⟩ = some (.int .i64 (a.2))) (first | (exact ⟨e0, e1, e0', e1'⟩) | (exact ⟨cell_bel hs2 e0, cell_bel hs2 e1, cell_bel hs2 e0', cell_bel hs2 e1'⟩) | go_keep)
        ((go_at_call 123; refine (o_eqGlance (tGlance.reach hR (belx)) (tGlance.reach hR' (belx))).mono ?_; rintro e w2 ⟨rfl, hb2⟩; have hs2 : Below wr.heap.size wr w2 := bel_trans (belx) hb2))
      go_wp2
      go_roundw
      case rel => exact ⟨j + 1, by omega, by go_num, bel_trans hB hs2⟩
      case measure => simp [intOf]; omega
    · obtain rfl : j = m := by omega
      go_wp2
      go_ret
      exact ⟨rfl, hB⟩
end Go.Proofs.YteokfenoomcogaaGreat
namespace Go.Proofs.YteokfenoomcogaaGreat
set_option maxRecDepth 100000
set_option linter.unusedVariables false
set_option linter.unusedSimpArgs false
open Go.ChangeShapes Go.WideShapes Go.ChangeAt Go.RowKit
theorem o_szMailS_t {w : World} {n c : Nat} {A : Option Addr} {l : List DMail} {k : Int} (h : tMail.row.R w w.heap.size [.slice A n c] l) (h1 : 0 ≤ k) (h2 : k ≤ 1048576) (h3 : (rsz szMail l : Int) ≤ k) :
    Calls Tryz.prog 45 #[.slice A n c, .int .i64 k] w fun e w' => e = .returned (.int .i64 (k - rsz szMail l)) ∧ Below w.heap.size w w' := by
  obtain ⟨hln, hnc, hcm⟩ := rowR_len h
  obtain ⟨s, hs⟩ : ∃ s, rsum szMail l = s := ⟨_, rfl⟩
  have hz : rsz szMail l = n + s := by unfold rsz; rw [hln, hs]
  rw [hz] at h3 ⊢
  have HLN := Lib.hid hln
  have HS := Lib.hid hs
  clear hz hln hs
  have d : decide (k - (n : Int) < 0) = false := by simp; omega
  go_enter Tryz.func45, Tryz.ntmps45
  go_wp2_with fail
  go_loopw [1, 5] (fun x i wr => ∃ j : Nat, j ≤ n ∧ x = .int .i64 (k - n - (rsum szMail (l.take j) : Nat)) ∧ i = .int .i64 j ∧ Below w.heap.size w wr) (fun _ i _ => n - (intOf i).toNat)
  case atStart => exact ⟨0, by omega, by rw [rsum_zero]; go_num, rfl, (belx)⟩
  case round =>
    obtain ⟨j, hj, rfl, rfl, hB⟩ := hrel
    by_cases hlt : j < n
    · obtain ⟨a, b, off, es, hl, rfl, hb, hes, hR⟩ := rowR_at (K := 2) h hlt rfl
      have hsa := rsum_at (c := szMail) hl
      have hsn := rsum_sn (c := szMail) hl
      rw [HS.out] at hsa
      obtain ⟨q, hq⟩ : ∃ q, rsum szMail (l.take j) = q := ⟨_, rfl⟩
      obtain ⟨q', hq'⟩ : ∃ q, rsum szMail (l.take (j + 1)) = q := ⟨_, rfl⟩
      rw [hq] at hsa hsn
      rw [hq'] at hsn
      rw [hq]
      have HQ := Lib.hid hq'
      clear hq hq'
      obtain ⟨A1, n1, c1, rfl, hi0, ha1, hb1, hl1, hr1⟩ := openMail hR
      have e0 : wr.cell? ⟨b, off + j * 2, none⟩ = some (.int .i64 (a.1)) := cell_at hB hb (hes 0 (by omega))
      have e1 : wr.cell? ⟨b, off + j * 2 + 1, none⟩ = some (.slice A1 n1 c1) := cell_at hB hb (hes 1 (by omega))
      clear hes
      have d2 : decide (k - (n : Int) - q - (szMail a : Nat) < 0) = false := by simp; omega
      go_wp2_with fail
      refine (o_szMail_t (tMail.reach hR ?hB) (by omega) (by omega) (by omega)).mono ?_
      case hB => exact (belx)
      rintro e w1 ⟨rfl, hb1⟩
      go_wp2
      go_roundw
      case rel => exact ⟨j + 1, by omega, by rw [HQ.out]; go_num, by go_num, bel_trans hB hb1⟩
      case measure => simp [intOf]; omega
    · obtain rfl : j = n := by omega
      have HA := Lib.hid (show rsum szMail (l.take j) = s from by rw [rsum_all (Nat.le_of_eq HLN.out)]; exact HS.out)
      rw [HA.out]
      go_wp2
      go_ret
      exact ⟨ret_int (by omega), hB⟩
theorem o_szMailS_f {w : World} {n c : Nat} {A : Option Addr} {l : List DMail} {k : Int} (h : tMail.row.R w w.heap.size [.slice A n c] l) (h1 : 0 ≤ k) (h2 : k ≤ 1048576) (h3 : ¬ (rsz szMail l : Int) ≤ k) :
    Calls Tryz.prog 45 #[.slice A n c, .int .i64 k] w fun e w' => e = .returned (.int .i64 (-1)) ∧ Below w.heap.size w w' := by
  obtain ⟨hln, hnc, hcm⟩ := rowR_len h
  obtain ⟨s, hs⟩ : ∃ s, rsum szMail l = s := ⟨_, rfl⟩
  have hz : rsz szMail l = n + s := by unfold rsz; rw [hln, hs]
  rw [hz] at h3
  have HLN := Lib.hid hln
  have HS := Lib.hid hs
  clear hz hln hs
  by_cases hnk : k < (n : Int)
  · have d : decide (k - (n : Int) < 0) = true := by simp; omega
    go_enter Tryz.func45, Tryz.ntmps45
    go_wp2
    go_ret
    exact ⟨rfl, (belx)⟩
  have d : decide (k - (n : Int) < 0) = false := by simp; omega
  go_enter Tryz.func45, Tryz.ntmps45
  go_wp2_with fail
  go_loopw [1, 5] (fun x i wr => ∃ j : Nat, j ≤ n ∧ x = .int .i64 (k - n - (rsum szMail (l.take j) : Nat)) ∧ i = .int .i64 j ∧ Below w.heap.size w wr ∧ (n : Int) + (rsum szMail (l.take j) : Nat) ≤ k) (fun _ i _ => n - (intOf i).toNat)
  case atStart => exact ⟨0, by omega, by rw [rsum_zero]; go_num, rfl, (belx), by rw [rsum_zero]; omega⟩
  case round =>
    obtain ⟨j, hj, rfl, rfl, hB, hv⟩ := hrel
    by_cases hlt : j < n
    · obtain ⟨a, b, off, es, hl, rfl, hb, hes, hR⟩ := rowR_at (K := 2) h hlt rfl
      have hsa := rsum_at (c := szMail) hl
      have hsn := rsum_sn (c := szMail) hl
      rw [HS.out] at hsa
      obtain ⟨q, hq⟩ : ∃ q, rsum szMail (l.take j) = q := ⟨_, rfl⟩
      obtain ⟨q', hq'⟩ : ∃ q, rsum szMail (l.take (j + 1)) = q := ⟨_, rfl⟩
      rw [hq] at hsa hsn
      rw [hq'] at hsn
      rw [hq]
      have HQ := Lib.hid hq'
      rw [hq] at hv
      clear hq hq'
      obtain ⟨A1, n1, c1, rfl, hi0, ha1, hb1, hl1, hr1⟩ := openMail hR
      have e0 : wr.cell? ⟨b, off + j * 2, none⟩ = some (.int .i64 (a.1)) := cell_at hB hb (hes 0 (by omega))
      have e1 : wr.cell? ⟨b, off + j * 2 + 1, none⟩ = some (.slice A1 n1 c1) := cell_at hB hb (hes 1 (by omega))
      clear hes
      by_cases hg : (n : Int) + q + (szMail a : Nat) ≤ k
      · have d2 : decide (k - (n : Int) - q - (szMail a : Nat) < 0) = false := by simp; omega
        go_wp2_with fail
        refine (o_szMail_t (tMail.reach hR ?hB) (by omega) (by omega) (by omega)).mono ?_
        case hB => exact (belx)
        rintro e w1 ⟨rfl, hb1⟩
        go_wp2
        go_roundw
        case rel => exact ⟨j + 1, by omega, by rw [HQ.out]; go_num, by go_num, bel_trans hB hb1, by rw [HQ.out]; omega⟩
        case measure => simp [intOf]; omega
      · go_wp2_with fail
        refine (o_szMail_f (tMail.reach hR ?hB) (by omega) (by omega) (by omega)).mono ?_
        case hB => exact (belx)
        rintro e w1 ⟨rfl, hb1⟩
        go_wp2
        go_ret
        exact ⟨rfl, bel_trans hB hb1⟩
    · obtain rfl : j = n := by omega
      have HA := Lib.hid (show rsum szMail (l.take j) = s from by rw [rsum_all (Nat.le_of_eq HLN.out)]; exact HS.out)
      rw [HA.out] at hv
      exact absurd hv (by omega)
theorem info_Mail : (Tryz.prog.info? 75).map (fun i => (i.zero, i.size, i.bytes)) = some (some (.agg #[.int .i64 0, .slice none 0 0]), 2, 32) := by kernel_rfl
set_option maxHeartbeats 800000 in
theorem o_toMailS {w : World} {n c : Nat} {A : Option Addr} {l : List DMail} (h : tMail.row.R w w.heap.size [.slice A n c] l) (hz : rsz szMail l ≤ 1048576) :
    Calls Tryz.prog 53 #[.slice A n c] w fun e w' => ∃ A' c' F, e = .returned (.slice A' l.length c') ∧ tMail.row.O w' [.slice A' l.length c'] l F ∧ New w.heap.size F ∧ Below w.heap.size w w' := by
  obtain ⟨i0, hi0, hz0, hz1, hz2⟩ := info_parts info_Mail
  obtain ⟨hln, hnc, hcm⟩ := rowR_len h
  have hn : n ≤ 1048576 := by have := rsz_le (s := szMail) l; omega
  have HLN := Lib.hid hln
  have HZ := Lib.hid hz
  clear hln hz
  go_enter Tryz.func53, Tryz.ntmps53
  go_wp2_with (at_make; refine wpList_mkS _ rfl (.tmp 6) (.tmp 6) _ rfl 75 i0 _ 2 Tryz.underlying31 hi0 hz0 hz1 n rfl rfl (by rw [hz2]; omega) (by simp only [maxLen]; omega) ?_; intro w1 cur hcur hsz hB1 hgr)
  go_loopw [4] (fun i wr => ∃ j : Nat, j ≤ n ∧ i = .int .i64 j ∧ Below w.heap.size w wr ∧ ∃ F, Fill tMail wr w.heap.size 75 n (l.take j) F ∧ New (w.heap.size + 1) F) (fun i _ => n - (intOf i).toNat)
  case atStart => exact ⟨0, by omega, rfl, hB1, [], Fill.start hcur hsz, New.nil _⟩
  case round =>
    obtain ⟨j, hj, rfl, hB, F, hf, hN⟩ := hrel
    by_cases hlt : j < n
    · obtain ⟨a, b, off, es, hl, rfl, hb, hes, hR⟩ := rowR_at (K := 2) h hlt rfl
      have HT := Lib.hid (take_sn hl)
      have HLT := Lib.hid (show (l.take j).length = j from by rw [List.length_take, HLN.out]; omega)
      have hsa : szMail a ≤ 1048576 := by have := rsz_step (s := szMail) hl; have := HZ.out; omega
      obtain ⟨A1, n1, c1, rfl, hi0, ha1, hb1, hl1, hr1⟩ := openMail hR
      subst hl1
      have e0 : wr.cell? ⟨b, off + j * 2, none⟩ = some (.int .i64 (a.1)) := cell_at hB hb (hes 0 (by omega))
      have e1 : wr.cell? ⟨b, off + j * 2 + 1, none⟩ = some (.slice A1 (a.2).length c1) := cell_at hB hb (hes 1 (by omega))
      clear hes
      have hgs := hf.size
      go_wp2_with fail
      refine (o_toMail (tMail.reach hR ?hB) hsa).mono ?_
      case hB => exact (belx)
      rintro e w2 ⟨cs2, F2, rfl, hO2, hN2, hb2⟩
      obtain ⟨B1, d1, G1, rfl, hFe, _, _, _, _⟩ := openOMail hO2
      clear hFe
      have hf2 := hf.below hb2
      have hsz2 := hb2.size
      have hP := Fill.push (K := 2) hf2 (by rw [HLT.out]; exact hlt) hO2 (hN.not (by omega)) (hN2.not hgs) rfl
      rw [HLT.out, ← HT.out] at hP
      have hM : New (w.heap.size + 1) (F ++ F2) := New.app hN hN2 (by omega) hf.lt
      obtain ⟨u0, k0⟩ := hf2.cell (K := 2) (j := 0) (by rw [HLT.out]; exact hlt) rfl (by omega)
      rw [HLT.out] at k0
      replace k0 : w2.cell? ⟨w.heap.size, j * 2, none⟩ = some u0 := k0
      have f0 := hf2.frozen (j * 2)
      obtain ⟨u1, k1⟩ := hf2.cell (K := 2) (j := 1) (by rw [HLT.out]; exact hlt) rfl (by omega)
      rw [HLT.out] at k1
      replace k1 : w2.cell? ⟨w.heap.size, j * 2 + 1, none⟩ = some u1 := k1
      have f1 := hf2.frozen (j * 2 + 1)
      go_wp2
      go_roundw
      case rel => exact ⟨j + 1, by omega, by go_num, below_puts (bel_trans hB hb2) (Nat.le_refl _) (off := j * 2) (vs := [.int .i64 (a.1), .slice B1 (a.2).length d1]), _, hP, hM⟩
      case measure => simp [intOf]; omega
    · obtain rfl : j = n := by omega
      have HA := Lib.hid (show l.take j = l from by rw [List.take_of_length_le (Nat.le_of_eq HLN.out)])
      rw [HA.out] at hf
      obtain ⟨F2, hF2, hor⟩ := hf.done HLN.out (by omega)
      have HN := Lib.hid HLN.out
      go_wp2
      go_ret
      refine ⟨some ⟨w.heap.size, 0, none⟩, j, F2, ?_, hF2, hN.cons hor, hB⟩
      rw [HN.out]
      rfl
set_option maxHeartbeats 800000 in
theorem o_eqMailS {w : World} {n m c d : Nat} {A A' : Option Addr} {l : List DMail} (h : tMail.row.R w w.heap.size [.slice A n c] l) (h' : tMail.row.R w w.heap.size [.slice A' m d] l) :
    Calls Tryz.prog 67 #[.slice A n c, .slice A' m d] w fun e w' => e = .returned (.bool true) ∧ Below w.heap.size w w' := by
  obtain ⟨hln, hnc, hcm⟩ := rowR_len h
  obtain ⟨hln', hnc', hcm'⟩ := rowR_len h'
  obtain rfl : m = n := by omega
  have HLN := Lib.hid hln
  clear hln hln'
  go_enter Tryz.func67, Tryz.ntmps67
  go_wp2_with fail
  go_loopw [5] (fun i wr => ∃ j : Nat, j ≤ m ∧ i = .int .i64 j ∧ Below w.heap.size w wr) (fun i _ => m - (intOf i).toNat)
  case atStart => exact ⟨0, by omega, rfl, (belx)⟩
  case round =>
    obtain ⟨j, hj, rfl, hB⟩ := hrel
    by_cases hlt : j < m
    · obtain ⟨a, b, off, es, hl, rfl, hb, hes, hR⟩ := rowR_at (K := 2) h hlt rfl
      obtain ⟨a', b', off', es', hl', rfl, hb', hes', hR'⟩ := rowR_at (K := 2) h' hlt rfl
      obtain rfl : a = a' := by rw [hl] at hl'; exact Option.some.inj hl'
      clear hl hl'
      obtain ⟨A1, n1, c1, rfl, hi0, ha1, hb1, hl1, hr1⟩ := openMail hR
      obtain ⟨A1', n1', c1', rfl, hi0', ha1', hb1', hl1', hr1'⟩ := openMail hR'
      subst hl1
      subst hl1'
      have e0 : wr.cell? ⟨b, off + j * 2, none⟩ = some (.int .i64 (a.1)) := cell_at hB hb (hes 0 (by omega))
      have e1 : wr.cell? ⟨b, off + j * 2 + 1, none⟩ = some (.slice A1 (a.2).length c1) := cell_at hB hb (hes 1 (by omega))
      have e0' : wr.cell? ⟨b', off' + j * 2, none⟩ = some (.int .i64 (a.1)) := cell_at hB hb' (hes' 0 (by omega))
      have e1' : wr.cell? ⟨b', off' + j * 2 + 1, none⟩ = some (.slice A1' (a.2).length c1') := cell_at hB hb' (hes' 1 (by omega))
      clear hes hes'
      go_wp2_with fail
      go_region_held3 (fun w' => w'.cell? ⟨b, off + j * 2, none⟩ = some (.int .i64 (a.1)) ∧ w'.cell? ⟨b, off + j * 2 + 1, none⟩ = some (.slice A1 (a.2).length c1) ∧ w'.cell? ⟨b', off' + j * 2, none⟩ = some (.int .i64 (a.1)) ∧ w'.cell? ⟨b', off' + j * 2 + 1, none⟩ = some (.slice A1' (a.2).length c1')) (first | (exact ⟨e0, e1, e0', e1'⟩) | (exact ⟨cell_bel hs2 e0, cell_bel hs2 e1, cell_bel hs2 e0', cell_bel hs2 e1'⟩) | go_keep)
        ((go_at_call 121; refine (o_eqMail (tMail.reach hR (belx)) (tMail.reach hR' (belx))).mono ?_; rintro e w2 ⟨rfl, hb2⟩; have hs2 : Below wr.heap.size wr w2 := bel_trans (belx) hb2))
      go_wp2
      go_roundw
      case rel => exact ⟨j + 1, by omega, by go_num, bel_trans hB hs2⟩
      case measure => simp [intOf]; omega
    · obtain rfl : j = m := by omega
      go_wp2
      go_ret
      exact ⟨rfl, hB⟩
end Go.Proofs.YteokfenoomcogaaGreat
namespace Go.Proofs.YteokfenoomcogaaGreat
set_option maxRecDepth 100000
set_option linter.unusedVariables false
set_option linter.unusedSimpArgs false
open Go.ChangeShapes Go.WideShapes Go.ChangeAt Go.RowKit
theorem o_szPieceS_t {w : World} {n c : Nat} {A : Option Addr} {l : List DPiece} {k : Int} (h : tPiece.row.R w w.heap.size [.slice A n c] l) (h1 : 0 ≤ k) (h2 : k ≤ 1048576) (h3 : (rsz szPiece l : Int) ≤ k) :
    Calls Tryz.prog 233 #[.slice A n c, .int .i64 k] w fun e w' => e = .returned (.int .i64 (k - rsz szPiece l)) ∧ Below w.heap.size w w' := by
  obtain ⟨hln, hnc, hcm⟩ := rowR_len h
  obtain ⟨s, hs⟩ : ∃ s, rsum szPiece l = s := ⟨_, rfl⟩
  have hz : rsz szPiece l = n + s := by unfold rsz; rw [hln, hs]
  rw [hz] at h3 ⊢
  have HLN := Lib.hid hln
  have HS := Lib.hid hs
  clear hz hln hs
  have d : decide (k - (n : Int) < 0) = false := by simp; omega
  go_enter Tryz.func233, Tryz.ntmps233
  go_wp2_with fail
  go_loopw [1, 5] (fun x i wr => ∃ j : Nat, j ≤ n ∧ x = .int .i64 (k - n - (rsum szPiece (l.take j) : Nat)) ∧ i = .int .i64 j ∧ Below w.heap.size w wr) (fun _ i _ => n - (intOf i).toNat)
  case atStart => exact ⟨0, by omega, by rw [rsum_zero]; go_num, rfl, (belx)⟩
  case round =>
    obtain ⟨j, hj, rfl, rfl, hB⟩ := hrel
    by_cases hlt : j < n
    · obtain ⟨a, b, off, es, hl, rfl, hb, hes, hR⟩ := rowR_at (K := 4) h hlt rfl
      have hsa := rsum_at (c := szPiece) hl
      have hsn := rsum_sn (c := szPiece) hl
      rw [HS.out] at hsa
      obtain ⟨q, hq⟩ : ∃ q, rsum szPiece (l.take j) = q := ⟨_, rfl⟩
      obtain ⟨q', hq'⟩ : ∃ q, rsum szPiece (l.take (j + 1)) = q := ⟨_, rfl⟩
      rw [hq] at hsa hsn
      rw [hq'] at hsn
      rw [hq]
      have HQ := Lib.hid hq'
      clear hq hq'
      obtain ⟨A3, n3, c3, rfl, hi0, hi1, hi2, ha3, hb3, hl3, hr3⟩ := openPiece hR
      have e0 : wr.cell? ⟨b, off + j * 4, none⟩ = some (.int .i64 (a.1)) := cell_at hB hb (hes 0 (by omega))
      have e1 : wr.cell? ⟨b, off + j * 4 + 1, none⟩ = some (.int .i64 (a.2.1)) := cell_at hB hb (hes 1 (by omega))
      have e2 : wr.cell? ⟨b, off + j * 4 + 2, none⟩ = some (.int .i64 (a.2.2.1)) := cell_at hB hb (hes 2 (by omega))
      have e3 : wr.cell? ⟨b, off + j * 4 + 3, none⟩ = some (.slice A3 n3 c3) := cell_at hB hb (hes 3 (by omega))
      clear hes
      have d2 : decide (k - (n : Int) - q - (szPiece a : Nat) < 0) = false := by simp; omega
      go_wp2_with fail
      refine (o_szPiece_t (tPiece.reach hR ?hB) (by omega) (by omega) (by omega)).mono ?_
      case hB => exact (belx)
      rintro e w1 ⟨rfl, hb1⟩
      go_wp2
      go_roundw
      case rel => exact ⟨j + 1, by omega, by rw [HQ.out]; go_num, by go_num, bel_trans hB hb1⟩
      case measure => simp [intOf]; omega
    · obtain rfl : j = n := by omega
      have HA := Lib.hid (show rsum szPiece (l.take j) = s from by rw [rsum_all (Nat.le_of_eq HLN.out)]; exact HS.out)
      rw [HA.out]
      go_wp2
      go_ret
      exact ⟨ret_int (by omega), hB⟩
theorem o_szPieceS_f {w : World} {n c : Nat} {A : Option Addr} {l : List DPiece} {k : Int} (h : tPiece.row.R w w.heap.size [.slice A n c] l) (h1 : 0 ≤ k) (h2 : k ≤ 1048576) (h3 : ¬ (rsz szPiece l : Int) ≤ k) :
    Calls Tryz.prog 233 #[.slice A n c, .int .i64 k] w fun e w' => e = .returned (.int .i64 (-1)) ∧ Below w.heap.size w w' := by
  obtain ⟨hln, hnc, hcm⟩ := rowR_len h
  obtain ⟨s, hs⟩ : ∃ s, rsum szPiece l = s := ⟨_, rfl⟩
  have hz : rsz szPiece l = n + s := by unfold rsz; rw [hln, hs]
  rw [hz] at h3
  have HLN := Lib.hid hln
  have HS := Lib.hid hs
  clear hz hln hs
  by_cases hnk : k < (n : Int)
  · have d : decide (k - (n : Int) < 0) = true := by simp; omega
    go_enter Tryz.func233, Tryz.ntmps233
    go_wp2
    go_ret
    exact ⟨rfl, (belx)⟩
  have d : decide (k - (n : Int) < 0) = false := by simp; omega
  go_enter Tryz.func233, Tryz.ntmps233
  go_wp2_with fail
  go_loopw [1, 5] (fun x i wr => ∃ j : Nat, j ≤ n ∧ x = .int .i64 (k - n - (rsum szPiece (l.take j) : Nat)) ∧ i = .int .i64 j ∧ Below w.heap.size w wr ∧ (n : Int) + (rsum szPiece (l.take j) : Nat) ≤ k) (fun _ i _ => n - (intOf i).toNat)
  case atStart => exact ⟨0, by omega, by rw [rsum_zero]; go_num, rfl, (belx), by rw [rsum_zero]; omega⟩
  case round =>
    obtain ⟨j, hj, rfl, rfl, hB, hv⟩ := hrel
    by_cases hlt : j < n
    · obtain ⟨a, b, off, es, hl, rfl, hb, hes, hR⟩ := rowR_at (K := 4) h hlt rfl
      have hsa := rsum_at (c := szPiece) hl
      have hsn := rsum_sn (c := szPiece) hl
      rw [HS.out] at hsa
      obtain ⟨q, hq⟩ : ∃ q, rsum szPiece (l.take j) = q := ⟨_, rfl⟩
      obtain ⟨q', hq'⟩ : ∃ q, rsum szPiece (l.take (j + 1)) = q := ⟨_, rfl⟩
      rw [hq] at hsa hsn
      rw [hq'] at hsn
      rw [hq]
      have HQ := Lib.hid hq'
      rw [hq] at hv
      clear hq hq'
      obtain ⟨A3, n3, c3, rfl, hi0, hi1, hi2, ha3, hb3, hl3, hr3⟩ := openPiece hR
      have e0 : wr.cell? ⟨b, off + j * 4, none⟩ = some (.int .i64 (a.1)) := cell_at hB hb (hes 0 (by omega))
      have e1 : wr.cell? ⟨b, off + j * 4 + 1, none⟩ = some (.int .i64 (a.2.1)) := cell_at hB hb (hes 1 (by omega))
      have e2 : wr.cell? ⟨b, off + j * 4 + 2, none⟩ = some (.int .i64 (a.2.2.1)) := cell_at hB hb (hes 2 (by omega))
      have e3 : wr.cell? ⟨b, off + j * 4 + 3, none⟩ = some (.slice A3 n3 c3) := cell_at hB hb (hes 3 (by omega))
      clear hes
      by_cases hg : (n : Int) + q + (szPiece a : Nat) ≤ k
      · have d2 : decide (k - (n : Int) - q - (szPiece a : Nat) < 0) = false := by simp; omega
        go_wp2_with fail
        refine (o_szPiece_t (tPiece.reach hR ?hB) (by omega) (by omega) (by omega)).mono ?_
        case hB => exact (belx)
        rintro e w1 ⟨rfl, hb1⟩
        go_wp2
        go_roundw
        case rel => exact ⟨j + 1, by omega, by rw [HQ.out]; go_num, by go_num, bel_trans hB hb1, by rw [HQ.out]; omega⟩
        case measure => simp [intOf]; omega
      · go_wp2_with fail
        refine (o_szPiece_f (tPiece.reach hR ?hB) (by omega) (by omega) (by omega)).mono ?_
        case hB => exact (belx)
        rintro e w1 ⟨rfl, hb1⟩
        go_wp2
        go_ret
        exact ⟨rfl, bel_trans hB hb1⟩
    · obtain rfl : j = n := by omega
      have HA := Lib.hid (show rsum szPiece (l.take j) = s from by rw [rsum_all (Nat.le_of_eq HLN.out)]; exact HS.out)
      rw [HA.out] at hv
      exact absurd hv (by omega)
theorem info_Piece : (Tryz.prog.info? 179).map (fun i => (i.zero, i.size, i.bytes)) = some (some (.agg #[.int .i64 0, .int .i64 0, .int .i64 0, .slice none 0 0]), 4, 48) := by kernel_rfl
set_option maxHeartbeats 800000 in
theorem o_toPieceS {w : World} {n c : Nat} {A : Option Addr} {l : List DPiece} (h : tPiece.row.R w w.heap.size [.slice A n c] l) (hz : rsz szPiece l ≤ 1048576) :
    Calls Tryz.prog 234 #[.slice A n c] w fun e w' => ∃ A' c' F, e = .returned (.slice A' l.length c') ∧ tPiece.row.O w' [.slice A' l.length c'] l F ∧ New w.heap.size F ∧ Below w.heap.size w w' := by
  obtain ⟨i0, hi0, hz0, hz1, hz2⟩ := info_parts info_Piece
  obtain ⟨hln, hnc, hcm⟩ := rowR_len h
  have hn : n ≤ 1048576 := by have := rsz_le (s := szPiece) l; omega
  have HLN := Lib.hid hln
  have HZ := Lib.hid hz
  clear hln hz
  go_enter Tryz.func234, Tryz.ntmps234
  go_wp2_with (at_make; refine wpList_mkS _ rfl (.tmp 6) (.tmp 6) _ rfl 179 i0 _ 4 Tryz.underlying175 hi0 hz0 hz1 n rfl rfl (by rw [hz2]; omega) (by simp only [maxLen]; omega) ?_; intro w1 cur hcur hsz hB1 hgr)
  go_loopw [4] (fun i wr => ∃ j : Nat, j ≤ n ∧ i = .int .i64 j ∧ Below w.heap.size w wr ∧ ∃ F, Fill tPiece wr w.heap.size 179 n (l.take j) F ∧ New (w.heap.size + 1) F) (fun i _ => n - (intOf i).toNat)
  case atStart => exact ⟨0, by omega, rfl, hB1, [], Fill.start hcur hsz, New.nil _⟩
  case round =>
    obtain ⟨j, hj, rfl, hB, F, hf, hN⟩ := hrel
    by_cases hlt : j < n
    · obtain ⟨a, b, off, es, hl, rfl, hb, hes, hR⟩ := rowR_at (K := 4) h hlt rfl
      have HT := Lib.hid (take_sn hl)
      have HLT := Lib.hid (show (l.take j).length = j from by rw [List.length_take, HLN.out]; omega)
      have hsa : szPiece a ≤ 1048576 := by have := rsz_step (s := szPiece) hl; have := HZ.out; omega
      obtain ⟨A3, n3, c3, rfl, hi0, hi1, hi2, ha3, hb3, hl3, hr3⟩ := openPiece hR
      subst hl3
      have e0 : wr.cell? ⟨b, off + j * 4, none⟩ = some (.int .i64 (a.1)) := cell_at hB hb (hes 0 (by omega))
      have e1 : wr.cell? ⟨b, off + j * 4 + 1, none⟩ = some (.int .i64 (a.2.1)) := cell_at hB hb (hes 1 (by omega))
      have e2 : wr.cell? ⟨b, off + j * 4 + 2, none⟩ = some (.int .i64 (a.2.2.1)) := cell_at hB hb (hes 2 (by omega))
      have e3 : wr.cell? ⟨b, off + j * 4 + 3, none⟩ = some (.slice A3 (a.2.2.2).length c3) := cell_at hB hb (hes 3 (by omega))
      clear hes
      have hgs := hf.size
      go_wp2_with fail
      refine (o_toPiece (tPiece.reach hR ?hB) hsa).mono ?_
      case hB => exact (belx)
      rintro e w2 ⟨cs2, F2, rfl, hO2, hN2, hb2⟩
      obtain ⟨B3, d3, G3, rfl, hFe, _, _, _, _, _, _⟩ := openOPiece hO2
      clear hFe
      have hf2 := hf.below hb2
      have hsz2 := hb2.size
      have hP := Fill.push (K := 4) hf2 (by rw [HLT.out]; exact hlt) hO2 (hN.not (by omega)) (hN2.not hgs) rfl
      rw [HLT.out, ← HT.out] at hP
      have hM : New (w.heap.size + 1) (F ++ F2) := New.app hN hN2 (by omega) hf.lt
      obtain ⟨u0, k0⟩ := hf2.cell (K := 4) (j := 0) (by rw [HLT.out]; exact hlt) rfl (by omega)
      rw [HLT.out] at k0
      replace k0 : w2.cell? ⟨w.heap.size, j * 4, none⟩ = some u0 := k0
      have f0 := hf2.frozen (j * 4)
      obtain ⟨u1, k1⟩ := hf2.cell (K := 4) (j := 1) (by rw [HLT.out]; exact hlt) rfl (by omega)
      rw [HLT.out] at k1
      replace k1 : w2.cell? ⟨w.heap.size, j * 4 + 1, none⟩ = some u1 := k1
      have f1 := hf2.frozen (j * 4 + 1)
      obtain ⟨u2, k2⟩ := hf2.cell (K := 4) (j := 2) (by rw [HLT.out]; exact hlt) rfl (by omega)
      rw [HLT.out] at k2
      replace k2 : w2.cell? ⟨w.heap.size, j * 4 + 2, none⟩ = some u2 := k2
      have f2 := hf2.frozen (j * 4 + 2)
      obtain ⟨u3, k3⟩ := hf2.cell (K := 4) (j := 3) (by rw [HLT.out]; exact hlt) rfl (by omega)
      rw [HLT.out] at k3
      replace k3 : w2.cell? ⟨w.heap.size, j * 4 + 3, none⟩ = some u3 := k3
      have f3 := hf2.frozen (j * 4 + 3)
      go_wp2
      go_roundw
      case rel => exact ⟨j + 1, by omega, by go_num, below_puts (bel_trans hB hb2) (Nat.le_refl _) (off := j * 4) (vs := [.int .i64 (a.1), .int .i64 (a.2.1), .int .i64 (a.2.2.1), .slice B3 (a.2.2.2).length d3]), _, hP, hM⟩
      case measure => simp [intOf]; omega
    · obtain rfl : j = n := by omega
      have HA := Lib.hid (show l.take j = l from by rw [List.take_of_length_le (Nat.le_of_eq HLN.out)])
      rw [HA.out] at hf
      obtain ⟨F2, hF2, hor⟩ := hf.done HLN.out (by omega)
      have HN := Lib.hid HLN.out
      go_wp2
      go_ret
      refine ⟨some ⟨w.heap.size, 0, none⟩, j, F2, ?_, hF2, hN.cons hor, hB⟩
      rw [HN.out]
      rfl
set_option maxHeartbeats 800000 in
theorem o_eqPieceS {w : World} {n m c d : Nat} {A A' : Option Addr} {l : List DPiece} (h : tPiece.row.R w w.heap.size [.slice A n c] l) (h' : tPiece.row.R w w.heap.size [.slice A' m d] l) :
    Calls Tryz.prog 238 #[.slice A n c, .slice A' m d] w fun e w' => e = .returned (.bool true) ∧ Below w.heap.size w w' := by
  obtain ⟨hln, hnc, hcm⟩ := rowR_len h
  obtain ⟨hln', hnc', hcm'⟩ := rowR_len h'
  obtain rfl : m = n := by omega
  have HLN := Lib.hid hln
  clear hln hln'
  go_enter Tryz.func238, Tryz.ntmps238
  go_wp2_with fail
  go_loopw [5] (fun i wr => ∃ j : Nat, j ≤ m ∧ i = .int .i64 j ∧ Below w.heap.size w wr) (fun i _ => m - (intOf i).toNat)
  case atStart => exact ⟨0, by omega, rfl, (belx)⟩
  case round =>
    obtain ⟨j, hj, rfl, hB⟩ := hrel
    by_cases hlt : j < m
    · obtain ⟨a, b, off, es, hl, rfl, hb, hes, hR⟩ := rowR_at (K := 4) h hlt rfl
      obtain ⟨a', b', off', es', hl', rfl, hb', hes', hR'⟩ := rowR_at (K := 4) h' hlt rfl
      obtain rfl : a = a' := by rw [hl] at hl'; exact Option.some.inj hl'
      clear hl hl'
      obtain ⟨A3, n3, c3, rfl, hi0, hi1, hi2, ha3, hb3, hl3, hr3⟩ := openPiece hR
      obtain ⟨A3', n3', c3', rfl, hi0', hi1', hi2', ha3', hb3', hl3', hr3'⟩ := openPiece hR'
      subst hl3
      subst hl3'
      have e0 : wr.cell? ⟨b, off + j * 4, none⟩ = some (.int .i64 (a.1)) := cell_at hB hb (hes 0 (by omega))
      have e1 : wr.cell? ⟨b, off + j * 4 + 1, none⟩ = some (.int .i64 (a.2.1)) := cell_at hB hb (hes 1 (by omega))
      have e2 : wr.cell? ⟨b, off + j * 4 + 2, none⟩ = some (.int .i64 (a.2.2.1)) := cell_at hB hb (hes 2 (by omega))
      have e3 : wr.cell? ⟨b, off + j * 4 + 3, none⟩ = some (.slice A3 (a.2.2.2).length c3) := cell_at hB hb (hes 3 (by omega))
      have e0' : wr.cell? ⟨b', off' + j * 4, none⟩ = some (.int .i64 (a.1)) := cell_at hB hb' (hes' 0 (by omega))
      have e1' : wr.cell? ⟨b', off' + j * 4 + 1, none⟩ = some (.int .i64 (a.2.1)) := cell_at hB hb' (hes' 1 (by omega))
      have e2' : wr.cell? ⟨b', off' + j * 4 + 2, none⟩ = some (.int .i64 (a.2.2.1)) := cell_at hB hb' (hes' 2 (by omega))
      have e3' : wr.cell? ⟨b', off' + j * 4 + 3, none⟩ = some (.slice A3' (a.2.2.2).length c3') := cell_at hB hb' (hes' 3 (by omega))
      clear hes hes'
      go_wp2_with fail
      go_region_held3 (fun w' => w'.cell? ⟨b, off + j * 4, none⟩ = some (.int .i64 (a.1)) ∧ w'.cell? ⟨b, off + j * 4 + 1, none⟩ = some (.int .i64 (a.2.1)) ∧ w'.cell? ⟨b, off + j * 4 + 2, none⟩ = some (.int .i64 (a.2.2.1)) ∧ w'.cell? ⟨b, off + j * 4 + 3, none⟩ = some (.slice A3 (a.2.2.2).length c3) ∧ w'.cell? ⟨b', off' + j * 4, none⟩ = some (.int .i64 (a.1)) ∧ w'.cell? ⟨b', off' + j * 4 + 1, none⟩ = some (.int .i64 (a.2.1)) ∧ w'.cell? ⟨b', off' + j * 4 + 2, none⟩ = some (.int .i64 (a.2.2.1)) ∧ w'.cell? ⟨b', off' + j * 4 + 3, none⟩ = some (.slice A3' (a.2.2.2).length c3')) (first | (exact ⟨e0, e1, e2, e3, e0', e1', e2', e3'⟩) | (exact ⟨cell_bel hs2 e0, cell_bel hs2 e1, cell_bel hs2 e2, cell_bel hs2 e3, cell_bel hs2 e0', cell_bel hs2 e1', cell_bel hs2 e2', cell_bel hs2 e3'⟩) | go_keep)
        ((go_at_call 254; refine (o_eqPiece (tPiece.reach hR (belx)) (tPiece.reach hR' (belx))).mono ?_; rintro e w2 ⟨rfl, hb2⟩; have hs2 : Below wr.heap.size wr w2 := bel_trans (belx) hb2))
      go_wp2
      go_roundw
      case rel => exact ⟨j + 1, by omega, by go_num, bel_trans hB hs2⟩
      case measure => simp [intOf]; omega
    · obtain rfl : j = m := by omega
      go_wp2
      go_ret
      exact ⟨rfl, hB⟩
end Go.Proofs.YteokfenoomcogaaGreat
namespace Go.Proofs.YteokfenoomcogaaGreat
set_option maxRecDepth 100000
set_option linter.unusedVariables false
set_option linter.unusedSimpArgs false
open Go.ChangeShapes Go.WideShapes Go.ChangeAt Go.RowKit
theorem o_szWhole_t {w : World} {cs : List Value} {p : DWhole} {k : Int} (h : tWhole.R w w.heap.size cs p) (h1 : 0 ≤ k) (h2 : k ≤ 1048576) (h3 : (szWhole p : Int) ≤ k) :
    Calls Tryz.prog 212 #[.agg cs.toArray, .int .i64 k] w fun e w' => e = .returned (.int .i64 (k - szWhole p)) ∧ Below w.heap.size w w' := by
  obtain ⟨A3, n3, c3, rfl, hi0, hi1, hi2, ha3, hb3, hl3, hr3⟩ := openWhole h
  obtain ⟨x0, x1, x2, r3⟩ := p
  try dsimp only [szWhole] at *
  subst hl3
  have d0 : decide (k - ((rsz szPiece r3 : Nat) : Int) < 0) = false := by simp; omega
  go_enter Tryz.func212, Tryz.ntmps212
  go_wp2_with fail
  refine (o_szPieceS_t (tPiece.row.reach hr3 ?hB) (by omega) (by omega) (by omega)).mono ?_
  case hB => exact (belx)
  rintro e w1 ⟨rfl, hb1⟩
  have hB1 : Below w.heap.size w w1 := bel_trans (belx) hb1
  have P1 : Box w1 w.heap.size 242 #[.int .i64 x0, .int .i64 x1, .int .i64 x2, .slice A3 r3.length c3] := (Box.new _ _ _).below hb1 (by first | (simp; done) | (simp; omega))
  go_wp2
  go_ret
  exact ⟨ret_int (by omega), hB1⟩
theorem o_szWhole_f {w : World} {cs : List Value} {p : DWhole} {k : Int} (h : tWhole.R w w.heap.size cs p) (h1 : 0 ≤ k) (h2 : k ≤ 1048576) (h3 : ¬ (szWhole p : Int) ≤ k) :
    Calls Tryz.prog 212 #[.agg cs.toArray, .int .i64 k] w fun e w' => e = .returned (.int .i64 (-1)) ∧ Below w.heap.size w w' := by
  obtain ⟨A3, n3, c3, rfl, hi0, hi1, hi2, ha3, hb3, hl3, hr3⟩ := openWhole h
  obtain ⟨x0, x1, x2, r3⟩ := p
  try dsimp only [szWhole] at *
  subst hl3
  go_enter Tryz.func212, Tryz.ntmps212
  go_wp2_with fail
  refine (o_szPieceS_f (tPiece.row.reach hr3 ?hB) (by omega) (by omega) (by omega)).mono ?_
  case hB => exact (belx)
  rintro e w1 ⟨rfl, hb1⟩
  have hB1 : Below w.heap.size w w1 := bel_trans (belx) hb1
  have P1 : Box w1 w.heap.size 242 #[.int .i64 x0, .int .i64 x1, .int .i64 x2, .slice A3 r3.length c3] := (Box.new _ _ _).below hb1 (by first | (simp; done) | (simp; omega))
  go_wp2
  go_ret
  exact ⟨rfl, hB1⟩
set_option maxHeartbeats 400000 in
theorem o_toWhole {w : World} {cs : List Value} {p : DWhole} (h : tWhole.R w w.heap.size cs p) (hn : szWhole p ≤ 1048576) :
    Calls Tryz.prog 214 #[.agg cs.toArray] w fun e w' => ∃ cs' F, e = .returned (.agg cs'.toArray) ∧ tWhole.O w' cs' p F ∧ New w.heap.size F ∧ Below w.heap.size w w' := by
  obtain ⟨A3, n3, c3, rfl, hi0, hi1, hi2, ha3, hb3, hl3, hr3⟩ := openWhole h
  obtain ⟨x0, x1, x2, r3⟩ := p
  try dsimp only [szWhole] at *
  subst hl3
  go_enter Tryz.func214, Tryz.ntmps214
  go_wp2_with fail
  refine (o_toPieceS (tPiece.row.reach hr3 ?hB) (by omega)).mono ?_
  case hB => exact (belx)
  rintro e w1 ⟨B3, d3, F3, rfl, o3, hN1, hb1⟩
  have z1 : w.heap.size + 3 ≤ w1.heap.size := by have := hb1.size; simpa using this
  have hB1 : Below w.heap.size w w1 := bel_trans (belx) hb1
  have R1 : Box w1 (w.heap.size + 1) 177 #[.int .i64 0, .int .i64 0, .int .i64 0, .slice none 0 0] := Box.below (Box.alloc (by simpa using Box.new (w.alloc _) 177 #[.int .i64 0, .int .i64 0, .int .i64 0, .slice none 0 0]) _) hb1 (by first | (simp; done) | (simp; omega))
  have L1 : Box w1 (w.heap.size + 1 + 1) 177 #[.int .i64 x0, .int .i64 x1, .int .i64 x2, .slice none 0 0] := Box.below (by simpa using Box.new ((w.alloc _).alloc _) 177 #[.int .i64 x0, .int .i64 x1, .int .i64 x2, .slice none 0 0]) hb1 (by first | (simp; done) | (simp; omega))
  have P1 : Box w1 w.heap.size 242 #[.int .i64 x0, .int .i64 x1, .int .i64 x2, .slice A3 r3.length c3] := Box.below (((Box.new w 242 #[.int .i64 x0, .int .i64 x1, .int .i64 x2, .slice A3 r3.length c3]).alloc _).alloc _) hb1 (by first | (simp; done) | (simp; omega))
  have hM1 : New (w.heap.size + 3) (F3) := hN1.lower (by simp)
  clear hN1
  have y1 : ∀ f ∈ F3, f < w1.heap.size := by intro f hf; exact tPiece.row.lt o3 f hf
  have kr1_0 := R1.cell 0; have fr1_0 := R1.frozen 0; have kl1_0 := L1.cell 0; have fl1_0 := L1.frozen 0; have kp1_0 := P1.cell 0
  have kr1_1 := R1.cell 1; have fr1_1 := R1.frozen 1; have kl1_1 := L1.cell 1; have fl1_1 := L1.frozen 1; have kp1_1 := P1.cell 1
  have kr1_2 := R1.cell 2; have fr1_2 := R1.frozen 2; have kl1_2 := L1.cell 2; have fl1_2 := L1.frozen 2; have kp1_2 := P1.cell 2
  have kr1_3 := R1.cell 3; have fr1_3 := R1.frozen 3; have kl1_3 := L1.cell 3; have fl1_3 := L1.frozen 3; have kp1_3 := P1.cell 3
  go_wp2
  have RR := (((((R1.far (p := ⟨w.heap.size + 1 + 1, 3, none⟩) (by first | (simp; done) | (simp; omega)) (.slice B3 r3.length d3)).put 0 (.int .i64 x0)).put 1 (.int .i64 x1)).put 2 (.int .i64 x2)).put 3 (.slice B3 r3.length d3))
  have e0 := RR.cell 0
  have e1 := RR.cell 1
  have e2 := RR.cell 2
  have e3 := RR.cell 3
  have u3 := (Ty.far (t := tPiece.row) (Ty.far (t := tPiece.row) (Ty.far (t := tPiece.row) (Ty.far (t := tPiece.row) (Ty.far (t := tPiece.row) o3 hM1 (p := ⟨w.heap.size + 1 + 1, 3, none⟩) (by first | (simp; done) | (simp; omega)) (.slice B3 r3.length d3)) hM1 (p := ⟨w.heap.size + 1, 0, none⟩) (by first | (simp; done) | (simp; omega)) (.int .i64 x0)) hM1 (p := ⟨w.heap.size + 1, 1, none⟩) (by first | (simp; done) | (simp; omega)) (.int .i64 x1)) hM1 (p := ⟨w.heap.size + 1, 2, none⟩) (by first | (simp; done) | (simp; omega)) (.int .i64 x2)) hM1 (p := ⟨w.heap.size + 1, 3, none⟩) (by first | (simp; done) | (simp; omega)) (.slice B3 r3.length d3))
  obtain ⟨F, hF, hFe⟩ := makeOWhole (p := (x0, x1, x2, r3)) hi0 hi1 hi2 u3
  refine bodyPost_ret (v := .agg #[.int .i64 x0, .int .i64 x1, .int .i64 x2, .slice B3 r3.length d3]) (by simp [results, Tryz.results214, go_sem, e0, e1, e2, e3]) rfl ⟨_, F, rfl, hF, ?_, ?_⟩
  · rw [hFe]
    exact New.lower (B := w.heap.size + 3) (by exact hM1) (by omega)
  · exact (bel_put (bel_put (bel_put (bel_put (bel_put hB1 (by first | (simp; done) | (simp; omega)) _) (by first | (simp; done) | (simp; omega)) _) (by first | (simp; done) | (simp; omega)) _) (by first | (simp; done) | (simp; omega)) _) (by first | (simp; done) | (simp; omega)) _)
theorem o_eqWhole {w : World} {cs cs' : List Value} {p : DWhole} (h : tWhole.R w w.heap.size cs p) (h' : tWhole.R w w.heap.size cs' p) :
    Calls Tryz.prog 227 #[.agg cs.toArray, .agg cs'.toArray] w fun e w' => e = .returned (.bool true) ∧ Below w.heap.size w w' := by
  obtain ⟨A3, n3, c3, rfl, hi0, hi1, hi2, ha3, hb3, hl3, hr3⟩ := openWhole h
  obtain ⟨A3', n3', c3', rfl, hi0', hi1', hi2', ha3', hb3', hl3', hr3'⟩ := openWhole h'
  obtain ⟨x0, x1, x2, r3⟩ := p
  try dsimp only at *
  subst hl3
  subst hl3'
  have q0 : (x0 != x0) = false := by simp
  have q1 : (x1 != x1) = false := by simp
  have q2 : (x2 != x2) = false := by simp
  go_enter Tryz.func227, Tryz.ntmps227
  go_wp2_with fail
  refine (o_eqPieceS (tPiece.row.reach hr3 ?hB) (tPiece.row.reach hr3' ?hB)).mono ?_
  case hB => exact (belx)
  rintro e w1 ⟨rfl, hb1⟩
  have hB1 : Below w.heap.size w w1 := bel_trans (belx) hb1
  have P1 : Box w1 w.heap.size 177 #[.int .i64 x0, .int .i64 x1, .int .i64 x2, .slice A3 r3.length c3] := ((Box.new _ _ _).alloc _).below hb1 (by first | (simp; done) | (simp; omega))
  have Q1 : Box w1 (w.heap.size + 1) 177 #[.int .i64 x0, .int .i64 x1, .int .i64 x2, .slice A3' r3.length c3'] := Box.below (by simpa using Box.new (w.alloc _) 177 #[.int .i64 x0, .int .i64 x1, .int .i64 x2, .slice A3' r3.length c3']) hb1 (by first | (simp; done) | (simp; omega))
  go_wp2
  go_ret
  exact ⟨rfl, hB1⟩
end Go.Proofs.YteokfenoomcogaaGreat
namespace Go.Proofs.YteokfenoomcogaaGreat
set_option maxRecDepth 100000
set_option linter.unusedVariables false
set_option linter.unusedSimpArgs false
open Go.ChangeShapes Go.WideShapes Go.ChangeAt Go.RowKit
theorem o_szWholeS_t {w : World} {n c : Nat} {A : Option Addr} {l : List DWhole} {k : Int} (h : tWhole.row.R w w.heap.size [.slice A n c] l) (h1 : 0 ≤ k) (h2 : k ≤ 1048576) (h3 : (rsz szWhole l : Int) ≤ k) :
    Calls Tryz.prog 179 #[.slice A n c, .int .i64 k] w fun e w' => e = .returned (.int .i64 (k - rsz szWhole l)) ∧ Below w.heap.size w w' := by
  obtain ⟨hln, hnc, hcm⟩ := rowR_len h
  obtain ⟨s, hs⟩ : ∃ s, rsum szWhole l = s := ⟨_, rfl⟩
  have hz : rsz szWhole l = n + s := by unfold rsz; rw [hln, hs]
  rw [hz] at h3 ⊢
  have HLN := Lib.hid hln
  have HS := Lib.hid hs
  clear hz hln hs
  have d : decide (k - (n : Int) < 0) = false := by simp; omega
  go_enter Tryz.func179, Tryz.ntmps179
  go_wp2_with fail
  go_loopw [1, 5] (fun x i wr => ∃ j : Nat, j ≤ n ∧ x = .int .i64 (k - n - (rsum szWhole (l.take j) : Nat)) ∧ i = .int .i64 j ∧ Below w.heap.size w wr) (fun _ i _ => n - (intOf i).toNat)
  case atStart => exact ⟨0, by omega, by rw [rsum_zero]; go_num, rfl, (belx)⟩
  case round =>
    obtain ⟨j, hj, rfl, rfl, hB⟩ := hrel
    by_cases hlt : j < n
    · obtain ⟨a, b, off, es, hl, rfl, hb, hes, hR⟩ := rowR_at (K := 4) h hlt rfl
      have hsa := rsum_at (c := szWhole) hl
      have hsn := rsum_sn (c := szWhole) hl
      rw [HS.out] at hsa
      obtain ⟨q, hq⟩ : ∃ q, rsum szWhole (l.take j) = q := ⟨_, rfl⟩
      obtain ⟨q', hq'⟩ : ∃ q, rsum szWhole (l.take (j + 1)) = q := ⟨_, rfl⟩
      rw [hq] at hsa hsn
      rw [hq'] at hsn
      rw [hq]
      have HQ := Lib.hid hq'
      clear hq hq'
      obtain ⟨A3, n3, c3, rfl, hi0, hi1, hi2, ha3, hb3, hl3, hr3⟩ := openWhole hR
      have e0 : wr.cell? ⟨b, off + j * 4, none⟩ = some (.int .i64 (a.1)) := cell_at hB hb (hes 0 (by omega))
      have e1 : wr.cell? ⟨b, off + j * 4 + 1, none⟩ = some (.int .i64 (a.2.1)) := cell_at hB hb (hes 1 (by omega))
      have e2 : wr.cell? ⟨b, off + j * 4 + 2, none⟩ = some (.int .i64 (a.2.2.1)) := cell_at hB hb (hes 2 (by omega))
      have e3 : wr.cell? ⟨b, off + j * 4 + 3, none⟩ = some (.slice A3 n3 c3) := cell_at hB hb (hes 3 (by omega))
      clear hes
      have d2 : decide (k - (n : Int) - q - (szWhole a : Nat) < 0) = false := by simp; omega
      go_wp2_with fail
      refine (o_szWhole_t (tWhole.reach hR ?hB) (by omega) (by omega) (by omega)).mono ?_
      case hB => exact (belx)
      rintro e w1 ⟨rfl, hb1⟩
      go_wp2
      go_roundw
      case rel => exact ⟨j + 1, by omega, by rw [HQ.out]; go_num, by go_num, bel_trans hB hb1⟩
      case measure => simp [intOf]; omega
    · obtain rfl : j = n := by omega
      have HA := Lib.hid (show rsum szWhole (l.take j) = s from by rw [rsum_all (Nat.le_of_eq HLN.out)]; exact HS.out)
      rw [HA.out]
      go_wp2
      go_ret
      exact ⟨ret_int (by omega), hB⟩
theorem o_szWholeS_f {w : World} {n c : Nat} {A : Option Addr} {l : List DWhole} {k : Int} (h : tWhole.row.R w w.heap.size [.slice A n c] l) (h1 : 0 ≤ k) (h2 : k ≤ 1048576) (h3 : ¬ (rsz szWhole l : Int) ≤ k) :
    Calls Tryz.prog 179 #[.slice A n c, .int .i64 k] w fun e w' => e = .returned (.int .i64 (-1)) ∧ Below w.heap.size w w' := by
  obtain ⟨hln, hnc, hcm⟩ := rowR_len h
  obtain ⟨s, hs⟩ : ∃ s, rsum szWhole l = s := ⟨_, rfl⟩
  have hz : rsz szWhole l = n + s := by unfold rsz; rw [hln, hs]
  rw [hz] at h3
  have HLN := Lib.hid hln
  have HS := Lib.hid hs
  clear hz hln hs
  by_cases hnk : k < (n : Int)
  · have d : decide (k - (n : Int) < 0) = true := by simp; omega
    go_enter Tryz.func179, Tryz.ntmps179
    go_wp2
    go_ret
    exact ⟨rfl, (belx)⟩
  have d : decide (k - (n : Int) < 0) = false := by simp; omega
  go_enter Tryz.func179, Tryz.ntmps179
  go_wp2_with fail
  go_loopw [1, 5] (fun x i wr => ∃ j : Nat, j ≤ n ∧ x = .int .i64 (k - n - (rsum szWhole (l.take j) : Nat)) ∧ i = .int .i64 j ∧ Below w.heap.size w wr ∧ (n : Int) + (rsum szWhole (l.take j) : Nat) ≤ k) (fun _ i _ => n - (intOf i).toNat)
  case atStart => exact ⟨0, by omega, by rw [rsum_zero]; go_num, rfl, (belx), by rw [rsum_zero]; omega⟩
  case round =>
    obtain ⟨j, hj, rfl, rfl, hB, hv⟩ := hrel
    by_cases hlt : j < n
    · obtain ⟨a, b, off, es, hl, rfl, hb, hes, hR⟩ := rowR_at (K := 4) h hlt rfl
      have hsa := rsum_at (c := szWhole) hl
      have hsn := rsum_sn (c := szWhole) hl
      rw [HS.out] at hsa
      obtain ⟨q, hq⟩ : ∃ q, rsum szWhole (l.take j) = q := ⟨_, rfl⟩
      obtain ⟨q', hq'⟩ : ∃ q, rsum szWhole (l.take (j + 1)) = q := ⟨_, rfl⟩
      rw [hq] at hsa hsn
      rw [hq'] at hsn
      rw [hq]
      have HQ := Lib.hid hq'
      rw [hq] at hv
      clear hq hq'
      obtain ⟨A3, n3, c3, rfl, hi0, hi1, hi2, ha3, hb3, hl3, hr3⟩ := openWhole hR
      have e0 : wr.cell? ⟨b, off + j * 4, none⟩ = some (.int .i64 (a.1)) := cell_at hB hb (hes 0 (by omega))
      have e1 : wr.cell? ⟨b, off + j * 4 + 1, none⟩ = some (.int .i64 (a.2.1)) := cell_at hB hb (hes 1 (by omega))
      have e2 : wr.cell? ⟨b, off + j * 4 + 2, none⟩ = some (.int .i64 (a.2.2.1)) := cell_at hB hb (hes 2 (by omega))
      have e3 : wr.cell? ⟨b, off + j * 4 + 3, none⟩ = some (.slice A3 n3 c3) := cell_at hB hb (hes 3 (by omega))
      clear hes
      by_cases hg : (n : Int) + q + (szWhole a : Nat) ≤ k
      · have d2 : decide (k - (n : Int) - q - (szWhole a : Nat) < 0) = false := by simp; omega
        go_wp2_with fail
        refine (o_szWhole_t (tWhole.reach hR ?hB) (by omega) (by omega) (by omega)).mono ?_
        case hB => exact (belx)
        rintro e w1 ⟨rfl, hb1⟩
        go_wp2
        go_roundw
        case rel => exact ⟨j + 1, by omega, by rw [HQ.out]; go_num, by go_num, bel_trans hB hb1, by rw [HQ.out]; omega⟩
        case measure => simp [intOf]; omega
      · go_wp2_with fail
        refine (o_szWhole_f (tWhole.reach hR ?hB) (by omega) (by omega) (by omega)).mono ?_
        case hB => exact (belx)
        rintro e w1 ⟨rfl, hb1⟩
        go_wp2
        go_ret
        exact ⟨rfl, bel_trans hB hb1⟩
    · obtain rfl : j = n := by omega
      have HA := Lib.hid (show rsum szWhole (l.take j) = s from by rw [rsum_all (Nat.le_of_eq HLN.out)]; exact HS.out)
      rw [HA.out] at hv
      exact absurd hv (by omega)
theorem info_Whole : (Tryz.prog.info? 177).map (fun i => (i.zero, i.size, i.bytes)) = some (some (.agg #[.int .i64 0, .int .i64 0, .int .i64 0, .slice none 0 0]), 4, 48) := by kernel_rfl
set_option maxHeartbeats 800000 in
theorem o_toWholeS {w : World} {n c : Nat} {A : Option Addr} {l : List DWhole} (h : tWhole.row.R w w.heap.size [.slice A n c] l) (hz : rsz szWhole l ≤ 1048576) :
    Calls Tryz.prog 183 #[.slice A n c] w fun e w' => ∃ A' c' F, e = .returned (.slice A' l.length c') ∧ tWhole.row.O w' [.slice A' l.length c'] l F ∧ New w.heap.size F ∧ Below w.heap.size w w' := by
  obtain ⟨i0, hi0, hz0, hz1, hz2⟩ := info_parts info_Whole
  obtain ⟨hln, hnc, hcm⟩ := rowR_len h
  have hn : n ≤ 1048576 := by have := rsz_le (s := szWhole) l; omega
  have HLN := Lib.hid hln
  have HZ := Lib.hid hz
  clear hln hz
  go_enter Tryz.func183, Tryz.ntmps183
  go_wp2_with (at_make; refine wpList_mkS _ rfl (.tmp 6) (.tmp 6) _ rfl 177 i0 _ 4 Tryz.underlying66 hi0 hz0 hz1 n rfl rfl (by rw [hz2]; omega) (by simp only [maxLen]; omega) ?_; intro w1 cur hcur hsz hB1 hgr)
  go_loopw [4] (fun i wr => ∃ j : Nat, j ≤ n ∧ i = .int .i64 j ∧ Below w.heap.size w wr ∧ ∃ F, Fill tWhole wr w.heap.size 177 n (l.take j) F ∧ New (w.heap.size + 1) F) (fun i _ => n - (intOf i).toNat)
  case atStart => exact ⟨0, by omega, rfl, hB1, [], Fill.start hcur hsz, New.nil _⟩
  case round =>
    obtain ⟨j, hj, rfl, hB, F, hf, hN⟩ := hrel
    by_cases hlt : j < n
    · obtain ⟨a, b, off, es, hl, rfl, hb, hes, hR⟩ := rowR_at (K := 4) h hlt rfl
      have HT := Lib.hid (take_sn hl)
      have HLT := Lib.hid (show (l.take j).length = j from by rw [List.length_take, HLN.out]; omega)
      have hsa : szWhole a ≤ 1048576 := by have := rsz_step (s := szWhole) hl; have := HZ.out; omega
      obtain ⟨A3, n3, c3, rfl, hi0, hi1, hi2, ha3, hb3, hl3, hr3⟩ := openWhole hR
      subst hl3
      have e0 : wr.cell? ⟨b, off + j * 4, none⟩ = some (.int .i64 (a.1)) := cell_at hB hb (hes 0 (by omega))
      have e1 : wr.cell? ⟨b, off + j * 4 + 1, none⟩ = some (.int .i64 (a.2.1)) := cell_at hB hb (hes 1 (by omega))
      have e2 : wr.cell? ⟨b, off + j * 4 + 2, none⟩ = some (.int .i64 (a.2.2.1)) := cell_at hB hb (hes 2 (by omega))
      have e3 : wr.cell? ⟨b, off + j * 4 + 3, none⟩ = some (.slice A3 (a.2.2.2).length c3) := cell_at hB hb (hes 3 (by omega))
      clear hes
      have hgs := hf.size
      go_wp2_with fail
      refine (o_toWhole (tWhole.reach hR ?hB) hsa).mono ?_
      case hB => exact (belx)
      rintro e w2 ⟨cs2, F2, rfl, hO2, hN2, hb2⟩
      obtain ⟨B3, d3, G3, rfl, hFe, _, _, _, _, _, _⟩ := openOWhole hO2
      clear hFe
      have hf2 := hf.below hb2
      have hsz2 := hb2.size
      have hP := Fill.push (K := 4) hf2 (by rw [HLT.out]; exact hlt) hO2 (hN.not (by omega)) (hN2.not hgs) rfl
      rw [HLT.out, ← HT.out] at hP
      have hM : New (w.heap.size + 1) (F ++ F2) := New.app hN hN2 (by omega) hf.lt
      obtain ⟨u0, k0⟩ := hf2.cell (K := 4) (j := 0) (by rw [HLT.out]; exact hlt) rfl (by omega)
      rw [HLT.out] at k0
      replace k0 : w2.cell? ⟨w.heap.size, j * 4, none⟩ = some u0 := k0
      have f0 := hf2.frozen (j * 4)
      obtain ⟨u1, k1⟩ := hf2.cell (K := 4) (j := 1) (by rw [HLT.out]; exact hlt) rfl (by omega)
      rw [HLT.out] at k1
      replace k1 : w2.cell? ⟨w.heap.size, j * 4 + 1, none⟩ = some u1 := k1
      have f1 := hf2.frozen (j * 4 + 1)
      obtain ⟨u2, k2⟩ := hf2.cell (K := 4) (j := 2) (by rw [HLT.out]; exact hlt) rfl (by omega)
      rw [HLT.out] at k2
      replace k2 : w2.cell? ⟨w.heap.size, j * 4 + 2, none⟩ = some u2 := k2
      have f2 := hf2.frozen (j * 4 + 2)
      obtain ⟨u3, k3⟩ := hf2.cell (K := 4) (j := 3) (by rw [HLT.out]; exact hlt) rfl (by omega)
      rw [HLT.out] at k3
      replace k3 : w2.cell? ⟨w.heap.size, j * 4 + 3, none⟩ = some u3 := k3
      have f3 := hf2.frozen (j * 4 + 3)
      go_wp2
      go_roundw
      case rel => exact ⟨j + 1, by omega, by go_num, below_puts (bel_trans hB hb2) (Nat.le_refl _) (off := j * 4) (vs := [.int .i64 (a.1), .int .i64 (a.2.1), .int .i64 (a.2.2.1), .slice B3 (a.2.2.2).length d3]), _, hP, hM⟩
      case measure => simp [intOf]; omega
    · obtain rfl : j = n := by omega
      have HA := Lib.hid (show l.take j = l from by rw [List.take_of_length_le (Nat.le_of_eq HLN.out)])
      rw [HA.out] at hf
      obtain ⟨F2, hF2, hor⟩ := hf.done HLN.out (by omega)
      have HN := Lib.hid HLN.out
      go_wp2
      go_ret
      refine ⟨some ⟨w.heap.size, 0, none⟩, j, F2, ?_, hF2, hN.cons hor, hB⟩
      rw [HN.out]
      rfl
set_option maxHeartbeats 800000 in
theorem o_eqWholeS {w : World} {n m c d : Nat} {A A' : Option Addr} {l : List DWhole} (h : tWhole.row.R w w.heap.size [.slice A n c] l) (h' : tWhole.row.R w w.heap.size [.slice A' m d] l) :
    Calls Tryz.prog 203 #[.slice A n c, .slice A' m d] w fun e w' => e = .returned (.bool true) ∧ Below w.heap.size w w' := by
  obtain ⟨hln, hnc, hcm⟩ := rowR_len h
  obtain ⟨hln', hnc', hcm'⟩ := rowR_len h'
  obtain rfl : m = n := by omega
  have HLN := Lib.hid hln
  clear hln hln'
  go_enter Tryz.func203, Tryz.ntmps203
  go_wp2_with fail
  go_loopw [5] (fun i wr => ∃ j : Nat, j ≤ m ∧ i = .int .i64 j ∧ Below w.heap.size w wr) (fun i _ => m - (intOf i).toNat)
  case atStart => exact ⟨0, by omega, rfl, (belx)⟩
  case round =>
    obtain ⟨j, hj, rfl, hB⟩ := hrel
    by_cases hlt : j < m
    · obtain ⟨a, b, off, es, hl, rfl, hb, hes, hR⟩ := rowR_at (K := 4) h hlt rfl
      obtain ⟨a', b', off', es', hl', rfl, hb', hes', hR'⟩ := rowR_at (K := 4) h' hlt rfl
      obtain rfl : a = a' := by rw [hl] at hl'; exact Option.some.inj hl'
      clear hl hl'
      obtain ⟨A3, n3, c3, rfl, hi0, hi1, hi2, ha3, hb3, hl3, hr3⟩ := openWhole hR
      obtain ⟨A3', n3', c3', rfl, hi0', hi1', hi2', ha3', hb3', hl3', hr3'⟩ := openWhole hR'
      subst hl3
      subst hl3'
      have e0 : wr.cell? ⟨b, off + j * 4, none⟩ = some (.int .i64 (a.1)) := cell_at hB hb (hes 0 (by omega))
      have e1 : wr.cell? ⟨b, off + j * 4 + 1, none⟩ = some (.int .i64 (a.2.1)) := cell_at hB hb (hes 1 (by omega))
      have e2 : wr.cell? ⟨b, off + j * 4 + 2, none⟩ = some (.int .i64 (a.2.2.1)) := cell_at hB hb (hes 2 (by omega))
      have e3 : wr.cell? ⟨b, off + j * 4 + 3, none⟩ = some (.slice A3 (a.2.2.2).length c3) := cell_at hB hb (hes 3 (by omega))
      have e0' : wr.cell? ⟨b', off' + j * 4, none⟩ = some (.int .i64 (a.1)) := cell_at hB hb' (hes' 0 (by omega))
      have e1' : wr.cell? ⟨b', off' + j * 4 + 1, none⟩ = some (.int .i64 (a.2.1)) := cell_at hB hb' (hes' 1 (by omega))
      have e2' : wr.cell? ⟨b', off' + j * 4 + 2, none⟩ = some (.int .i64 (a.2.2.1)) := cell_at hB hb' (hes' 2 (by omega))
      have e3' : wr.cell? ⟨b', off' + j * 4 + 3, none⟩ = some (.slice A3' (a.2.2.2).length c3') := cell_at hB hb' (hes' 3 (by omega))
      clear hes hes'
      go_wp2_with fail
      go_region_held3 (fun w' => w'.cell? ⟨b, off + j * 4, none⟩ = some (.int .i64 (a.1)) ∧ w'.cell? ⟨b, off + j * 4 + 1, none⟩ = some (.int .i64 (a.2.1)) ∧ w'.cell? ⟨b, off + j * 4 + 2, none⟩ = some (.int .i64 (a.2.2.1)) ∧ w'.cell? ⟨b, off + j * 4 + 3, none⟩ = some (.slice A3 (a.2.2.2).length c3) ∧ w'.cell? ⟨b', off' + j * 4, none⟩ = some (.int .i64 (a.1)) ∧ w'.cell? ⟨b', off' + j * 4 + 1, none⟩ = some (.int .i64 (a.2.1)) ∧ w'.cell? ⟨b', off' + j * 4 + 2, none⟩ = some (.int .i64 (a.2.2.1)) ∧ w'.cell? ⟨b', off' + j * 4 + 3, none⟩ = some (.slice A3' (a.2.2.2).length c3')) (first | (exact ⟨e0, e1, e2, e3, e0', e1', e2', e3'⟩) | (exact ⟨cell_bel hs2 e0, cell_bel hs2 e1, cell_bel hs2 e2, cell_bel hs2 e3, cell_bel hs2 e0', cell_bel hs2 e1', cell_bel hs2 e2', cell_bel hs2 e3'⟩) | go_keep)
        ((go_at_call 227; refine (o_eqWhole (tWhole.reach hR (belx)) (tWhole.reach hR' (belx))).mono ?_; rintro e w2 ⟨rfl, hb2⟩; have hs2 : Below wr.heap.size wr w2 := bel_trans (belx) hb2))
      go_wp2
      go_roundw
      case rel => exact ⟨j + 1, by omega, by go_num, bel_trans hB hs2⟩
      case measure => simp [intOf]; omega
    · obtain rfl : j = m := by omega
      go_wp2
      go_ret
      exact ⟨rfl, hB⟩
end Go.Proofs.YteokfenoomcogaaGreat
namespace Go.Proofs.YteokfenoomcogaaGreat
set_option maxRecDepth 100000
set_option linter.unusedVariables false
set_option linter.unusedSimpArgs false
open Go.ChangeShapes Go.WideShapes Go.ChangeAt Go.RowKit
theorem o_szDesk_t {w : World} {cs : List Value} {p : DDesk} {k : Int} (h : tDesk.R w w.heap.size cs p) (h1 : 0 ≤ k) (h2 : k ≤ 1048576) (h3 : (szDesk p : Int) ≤ k) :
    Calls Tryz.prog 141 #[.agg cs.toArray, .int .i64 k] w fun e w' => e = .returned (.int .i64 (k - szDesk p)) ∧ Below w.heap.size w w' := by
  obtain ⟨A0, n0, c0, A1, n1, c1, rfl, ha0, hb0, hl0, hr0, ha1, hb1, hl1, hr1⟩ := openDesk h
  obtain ⟨r0, l1⟩ := p
  try dsimp only [szDesk] at *
  subst hl0
  subst hl1
  have d0 : decide (k - ((rsz szWhole r0 : Nat) : Int) < 0) = false := by simp; omega
  have d1 : decide (k - ((rsz szWhole r0 : Nat) : Int) - ((l1.length : Nat) : Int) < 0) = false := by simp; omega
  go_enter Tryz.func141, Tryz.ntmps141
  go_wp2_with fail
  refine (o_szWholeS_t (tWhole.row.reach hr0 ?hB) (by omega) (by omega) (by omega)).mono ?_
  case hB => exact (belx)
  rintro e w1 ⟨rfl, hb1⟩
  have hB1 : Below w.heap.size w w1 := bel_trans (belx) hb1
  have P1 : Box w1 w.heap.size 134 #[.slice A0 r0.length c0, .slice A1 l1.length c1] := (Box.new _ _ _).below hb1 (by first | (simp; done) | (simp; omega))
  have e0_1 := P1.cell 1
  go_wp2_with fail
  refine (o_szIntS_t (tIs.reach hr1 ?hB) (by omega) (by omega) (by omega)).mono ?_
  case hB => exact (belx)
  rintro e w2 ⟨rfl, hb2⟩
  have hB2 : Below w.heap.size w w2 := bel_trans (belx) hb2
  have P2 := P1.below hb2 P1.size
  go_wp2
  go_ret
  exact ⟨ret_int (by omega), hB2⟩
theorem o_szDesk_f {w : World} {cs : List Value} {p : DDesk} {k : Int} (h : tDesk.R w w.heap.size cs p) (h1 : 0 ≤ k) (h2 : k ≤ 1048576) (h3 : ¬ (szDesk p : Int) ≤ k) :
    Calls Tryz.prog 141 #[.agg cs.toArray, .int .i64 k] w fun e w' => e = .returned (.int .i64 (-1)) ∧ Below w.heap.size w w' := by
  obtain ⟨A0, n0, c0, A1, n1, c1, rfl, ha0, hb0, hl0, hr0, ha1, hb1, hl1, hr1⟩ := openDesk h
  obtain ⟨r0, l1⟩ := p
  try dsimp only [szDesk] at *
  subst hl0
  subst hl1
  by_cases g0 : (((rsz szWhole r0) : Nat) : Int) ≤ k
  rotate_left
  · go_enter Tryz.func141, Tryz.ntmps141
    go_wp2_with fail
    refine (o_szWholeS_f (tWhole.row.reach hr0 ?hB) (by omega) (by omega) (by omega)).mono ?_
    case hB => exact (belx)
    rintro e w1 ⟨rfl, hb1⟩
    have hB1 : Below w.heap.size w w1 := bel_trans (belx) hb1
    have P1 : Box w1 w.heap.size 134 #[.slice A0 r0.length c0, .slice A1 l1.length c1] := (Box.new _ _ _).below hb1 (by first | (simp; done) | (simp; omega))
    go_wp2
    go_ret
    exact ⟨rfl, hB1⟩
  have d0 : decide (k - ((rsz szWhole r0 : Nat) : Int) < 0) = false := by simp; omega
  go_enter Tryz.func141, Tryz.ntmps141
  go_wp2_with fail
  refine (o_szWholeS_t (tWhole.row.reach hr0 ?hB) (by omega) (by omega) (by omega)).mono ?_
  case hB => exact (belx)
  rintro e w1 ⟨rfl, hb1⟩
  have hB1 : Below w.heap.size w w1 := bel_trans (belx) hb1
  have P1 : Box w1 w.heap.size 134 #[.slice A0 r0.length c0, .slice A1 l1.length c1] := (Box.new _ _ _).below hb1 (by first | (simp; done) | (simp; omega))
  have e0_1 := P1.cell 1
  go_wp2_with fail
  refine (o_szIntS_f (tIs.reach hr1 ?hB) (by omega) (by omega) (by omega)).mono ?_
  case hB => exact (belx)
  rintro e w2 ⟨rfl, hb2⟩
  have hB2 : Below w.heap.size w w2 := bel_trans (belx) hb2
  have P2 := P1.below hb2 P1.size
  go_wp2
  go_ret
  exact ⟨rfl, hB2⟩
set_option maxHeartbeats 400000 in
theorem o_toDesk {w : World} {cs : List Value} {p : DDesk} (h : tDesk.R w w.heap.size cs p) (hn : szDesk p ≤ 1048576) :
    Calls Tryz.prog 150 #[.agg cs.toArray] w fun e w' => ∃ cs' F, e = .returned (.agg cs'.toArray) ∧ tDesk.O w' cs' p F ∧ New w.heap.size F ∧ Below w.heap.size w w' := by
  obtain ⟨A0, n0, c0, A1, n1, c1, rfl, ha0, hb0, hl0, hr0, ha1, hb1, hl1, hr1⟩ := openDesk h
  obtain ⟨r0, l1⟩ := p
  try dsimp only [szDesk] at *
  subst hl0
  subst hl1
  go_enter Tryz.func150, Tryz.ntmps150
  go_wp2_with fail
  refine (o_toWholeS (tWhole.row.reach hr0 ?hB) (by omega)).mono ?_
  case hB => exact (belx)
  rintro e w1 ⟨B0, d0, F0, rfl, o0, hN1, hb1⟩
  have z1 : w.heap.size + 3 ≤ w1.heap.size := by have := hb1.size; simpa using this
  have hB1 : Below w.heap.size w w1 := bel_trans (belx) hb1
  have R1 : Box w1 (w.heap.size + 1) 68 #[.slice none 0 0, .slice none 0 0] := Box.below (Box.alloc (by simpa using Box.new (w.alloc _) 68 #[.slice none 0 0, .slice none 0 0]) _) hb1 (by first | (simp; done) | (simp; omega))
  have L1 : Box w1 (w.heap.size + 1 + 1) 68 #[.slice none 0 0, .slice none 0 0] := Box.below (by simpa using Box.new ((w.alloc _).alloc _) 68 #[.slice none 0 0, .slice none 0 0]) hb1 (by first | (simp; done) | (simp; omega))
  have P1 : Box w1 w.heap.size 134 #[.slice A0 r0.length c0, .slice A1 l1.length c1] := Box.below (((Box.new w 134 #[.slice A0 r0.length c0, .slice A1 l1.length c1]).alloc _).alloc _) hb1 (by first | (simp; done) | (simp; omega))
  have hM1 : New (w.heap.size + 3) (F0) := hN1.lower (by simp)
  clear hN1
  have y1 : ∀ f ∈ F0, f < w1.heap.size := by intro f hf; exact tWhole.row.lt o0 f hf
  have kr1_0 := R1.cell 0; have fr1_0 := R1.frozen 0; have kl1_0 := L1.cell 0; have fl1_0 := L1.frozen 0; have kp1_0 := P1.cell 0
  have kr1_1 := R1.cell 1; have fr1_1 := R1.frozen 1; have kl1_1 := L1.cell 1; have fl1_1 := L1.frozen 1; have kp1_1 := P1.cell 1
  go_wp2_with fail
  refine (o_toIntS (tIs.reach hr1 ?hB) (by omega)).mono ?_
  case hB => exact (belx)
  rintro e w2 ⟨B1, d1, F1, rfl, o1, hN2, hb2⟩
  have z2 : w.heap.size + 3 ≤ w2.heap.size := Nat.le_trans z1 (by have := hb2.size; simpa using this)
  have hB2 : Below w.heap.size w w2 := bel_trans (belx) hb2
  have R2 : Box w2 (w.heap.size + 1) 68 #[.slice none 0 0, .slice none 0 0] := Box.below (R1.far (p := ⟨w.heap.size + 1 + 1, 0, none⟩) (by first | (simp; done) | (simp; omega)) (.slice B0 r0.length d0)) hb2 (by first | (simp; done) | (simp; omega))
  have L2 : Box w2 (w.heap.size + 1 + 1) 68 #[.slice B0 r0.length d0, .slice none 0 0] := Box.below (by simpa using (L1.put 0 (.slice B0 r0.length d0))) hb2 (by first | (simp; done) | (simp; omega))
  have P2 : Box w2 w.heap.size 134 #[.slice A0 r0.length c0, .slice A1 l1.length c1] := Box.below (P1.far (p := ⟨w.heap.size + 1 + 1, 0, none⟩) (by first | (simp; done) | (simp; omega)) (.slice B0 r0.length d0)) hb2 (by first | (simp; done) | (simp; omega))
  replace o0 := Ty.below (t := tWhole.row) (Ty.far (t := tWhole.row) o0 hM1 (p := ⟨w.heap.size + 1 + 1, 0, none⟩) (by first | (simp; done) | (simp; omega)) (.slice B0 r0.length d0)) hb2
  have hM2 : New (w.heap.size + 3) (F1) := hN2.lower (by simp; omega)
  have hV2 : New w1.heap.size (F1) := hN2.lower (by first | (simp; done) | (simp; omega))
  have zz2 : w1.heap.size ≤ w2.heap.size := by have := hb2.size; simpa using this
  clear hN2
  have y2 : ∀ f ∈ F1, f < w2.heap.size := by intro f hf; exact tIs.lt o1 f hf
  have kr2_0 := R2.cell 0; have fr2_0 := R2.frozen 0; have kl2_0 := L2.cell 0; have fl2_0 := L2.frozen 0; have kp2_0 := P2.cell 0
  have kr2_1 := R2.cell 1; have fr2_1 := R2.frozen 1; have kl2_1 := L2.cell 1; have fl2_1 := L2.frozen 1; have kp2_1 := P2.cell 1
  go_wp2
  have RR := (((R2.far (p := ⟨w.heap.size + 1 + 1, 1, none⟩) (by first | (simp; done) | (simp; omega)) (.slice B1 l1.length d1)).put 0 (.slice B0 r0.length d0)).put 1 (.slice B1 l1.length d1))
  have e0 := RR.cell 0
  have e1 := RR.cell 1
  have u0 := (Ty.far (t := tWhole.row) (Ty.far (t := tWhole.row) (Ty.far (t := tWhole.row) o0 hM1 (p := ⟨w.heap.size + 1 + 1, 1, none⟩) (by first | (simp; done) | (simp; omega)) (.slice B1 l1.length d1)) hM1 (p := ⟨w.heap.size + 1, 0, none⟩) (by first | (simp; done) | (simp; omega)) (.slice B0 r0.length d0)) hM1 (p := ⟨w.heap.size + 1, 1, none⟩) (by first | (simp; done) | (simp; omega)) (.slice B1 l1.length d1))
  have u1 := (Ty.far (t := tIs) (Ty.far (t := tIs) (Ty.far (t := tIs) o1 hM2 (p := ⟨w.heap.size + 1 + 1, 1, none⟩) (by first | (simp; done) | (simp; omega)) (.slice B1 l1.length d1)) hM2 (p := ⟨w.heap.size + 1, 0, none⟩) (by first | (simp; done) | (simp; omega)) (.slice B0 r0.length d0)) hM2 (p := ⟨w.heap.size + 1, 1, none⟩) (by first | (simp; done) | (simp; omega)) (.slice B1 l1.length d1))
  obtain ⟨F, hF, hFe⟩ := makeODesk (p := (r0, l1)) u0 u1
  refine bodyPost_ret (v := .agg #[.slice B0 r0.length d0, .slice B1 l1.length d1]) (by simp [results, Tryz.results150, go_sem, e0, e1]) rfl ⟨_, F, rfl, hF, ?_, ?_⟩
  · rw [hFe]
    exact New.lower (B := w.heap.size + 3) (by exact (New.app hM1 hV2 (by omega) y1)) (by omega)
  · exact (bel_put (bel_put (bel_put hB2 (by first | (simp; done) | (simp; omega)) _) (by first | (simp; done) | (simp; omega)) _) (by first | (simp; done) | (simp; omega)) _)
theorem o_eqDesk {w : World} {cs cs' : List Value} {p : DDesk} (h : tDesk.R w w.heap.size cs p) (h' : tDesk.R w w.heap.size cs' p) :
    Calls Tryz.prog 162 #[.agg cs.toArray, .agg cs'.toArray] w fun e w' => e = .returned (.bool true) ∧ Below w.heap.size w w' := by
  obtain ⟨A0, n0, c0, A1, n1, c1, rfl, ha0, hb0, hl0, hr0, ha1, hb1, hl1, hr1⟩ := openDesk h
  obtain ⟨A0', n0', c0', A1', n1', c1', rfl, ha0', hb0', hl0', hr0', ha1', hb1', hl1', hr1'⟩ := openDesk h'
  obtain ⟨r0, l1⟩ := p
  try dsimp only at *
  subst hl0
  subst hl0'
  subst hl1
  subst hl1'
  go_enter Tryz.func162, Tryz.ntmps162
  go_wp2_with fail
  refine (o_eqWholeS (tWhole.row.reach hr0 ?hB) (tWhole.row.reach hr0' ?hB)).mono ?_
  case hB => exact (belx)
  rintro e w1 ⟨rfl, hb1⟩
  have hB1 : Below w.heap.size w w1 := bel_trans (belx) hb1
  have P1 : Box w1 w.heap.size 68 #[.slice A0 r0.length c0, .slice A1 l1.length c1] := ((Box.new _ _ _).alloc _).below hb1 (by first | (simp; done) | (simp; omega))
  have Q1 : Box w1 (w.heap.size + 1) 68 #[.slice A0' r0.length c0', .slice A1' l1.length c1'] := Box.below (by simpa using Box.new (w.alloc _) 68 #[.slice A0' r0.length c0', .slice A1' l1.length c1']) hb1 (by first | (simp; done) | (simp; omega))
  have e0_1 := P1.cell 1
  have e0_1q := Q1.cell 1
  go_wp2_with fail
  refine (o_eqIntS (tIs.reach hr1 ?hB) (tIs.reach hr1' ?hB)).mono ?_
  case hB => exact (belx)
  rintro e w2 ⟨rfl, hb2⟩
  have hB2 : Below w.heap.size w w2 := bel_trans (belx) hb2
  have P2 := P1.below hb2 P1.size
  have Q2 := Q1.below hb2 Q1.size
  go_wp2
  go_ret
  exact ⟨rfl, hB2⟩
end Go.Proofs.YteokfenoomcogaaGreat
namespace Go.Proofs.YteokfenoomcogaaGreat
set_option maxRecDepth 100000
set_option linter.unusedVariables false
set_option linter.unusedSimpArgs false
open Go.ChangeShapes Go.WideShapes Go.ChangeAt Go.RowKit
theorem o_szLetterS_t {w : World} {n c : Nat} {A : Option Addr} {l : List DLetter} {k : Int} (h : tLetter.row.R w w.heap.size [.slice A n c] l) (h1 : 0 ≤ k) (h2 : k ≤ 1048576) (h3 : (rsz szLetter l : Int) ≤ k) :
    Calls Tryz.prog 142 #[.slice A n c, .int .i64 k] w fun e w' => e = .returned (.int .i64 (k - rsz szLetter l)) ∧ Below w.heap.size w w' := by
  obtain ⟨hln, hnc, hcm⟩ := rowR_len h
  obtain ⟨s, hs⟩ : ∃ s, rsum szLetter l = s := ⟨_, rfl⟩
  have hz : rsz szLetter l = n + s := by unfold rsz; rw [hln, hs]
  rw [hz] at h3 ⊢
  have HLN := Lib.hid hln
  have HS := Lib.hid hs
  clear hz hln hs
  have d : decide (k - (n : Int) < 0) = false := by simp; omega
  go_enter Tryz.func142, Tryz.ntmps142
  go_wp2_with fail
  go_loopw [1, 5] (fun x i wr => ∃ j : Nat, j ≤ n ∧ x = .int .i64 (k - n - (rsum szLetter (l.take j) : Nat)) ∧ i = .int .i64 j ∧ Below w.heap.size w wr) (fun _ i _ => n - (intOf i).toNat)
  case atStart => exact ⟨0, by omega, by rw [rsum_zero]; go_num, rfl, (belx)⟩
  case round =>
    obtain ⟨j, hj, rfl, rfl, hB⟩ := hrel
    by_cases hlt : j < n
    · obtain ⟨a, b, off, es, hl, rfl, hb, hes, hR⟩ := rowR_at (K := 2) h hlt rfl
      have hsa := rsum_at (c := szLetter) hl
      have hsn := rsum_sn (c := szLetter) hl
      rw [HS.out] at hsa
      obtain ⟨q, hq⟩ : ∃ q, rsum szLetter (l.take j) = q := ⟨_, rfl⟩
      obtain ⟨q', hq'⟩ : ∃ q, rsum szLetter (l.take (j + 1)) = q := ⟨_, rfl⟩
      rw [hq] at hsa hsn
      rw [hq'] at hsn
      rw [hq]
      have HQ := Lib.hid hq'
      clear hq hq'
      obtain ⟨A1, n1, c1, rfl, hi0, ha1, hb1, hl1, hr1⟩ := openLetter hR
      have e0 : wr.cell? ⟨b, off + j * 2, none⟩ = some (.int .i64 (a.1)) := cell_at hB hb (hes 0 (by omega))
      have e1 : wr.cell? ⟨b, off + j * 2 + 1, none⟩ = some (.slice A1 n1 c1) := cell_at hB hb (hes 1 (by omega))
      clear hes
      have d2 : decide (k - (n : Int) - q - (szLetter a : Nat) < 0) = false := by simp; omega
      go_wp2_with fail
      refine (o_szLetter_t (tLetter.reach hR ?hB) (by omega) (by omega) (by omega)).mono ?_
      case hB => exact (belx)
      rintro e w1 ⟨rfl, hb1⟩
      go_wp2
      go_roundw
      case rel => exact ⟨j + 1, by omega, by rw [HQ.out]; go_num, by go_num, bel_trans hB hb1⟩
      case measure => simp [intOf]; omega
    · obtain rfl : j = n := by omega
      have HA := Lib.hid (show rsum szLetter (l.take j) = s from by rw [rsum_all (Nat.le_of_eq HLN.out)]; exact HS.out)
      rw [HA.out]
      go_wp2
      go_ret
      exact ⟨ret_int (by omega), hB⟩
theorem o_szLetterS_f {w : World} {n c : Nat} {A : Option Addr} {l : List DLetter} {k : Int} (h : tLetter.row.R w w.heap.size [.slice A n c] l) (h1 : 0 ≤ k) (h2 : k ≤ 1048576) (h3 : ¬ (rsz szLetter l : Int) ≤ k) :
    Calls Tryz.prog 142 #[.slice A n c, .int .i64 k] w fun e w' => e = .returned (.int .i64 (-1)) ∧ Below w.heap.size w w' := by
  obtain ⟨hln, hnc, hcm⟩ := rowR_len h
  obtain ⟨s, hs⟩ : ∃ s, rsum szLetter l = s := ⟨_, rfl⟩
  have hz : rsz szLetter l = n + s := by unfold rsz; rw [hln, hs]
  rw [hz] at h3
  have HLN := Lib.hid hln
  have HS := Lib.hid hs
  clear hz hln hs
  by_cases hnk : k < (n : Int)
  · have d : decide (k - (n : Int) < 0) = true := by simp; omega
    go_enter Tryz.func142, Tryz.ntmps142
    go_wp2
    go_ret
    exact ⟨rfl, (belx)⟩
  have d : decide (k - (n : Int) < 0) = false := by simp; omega
  go_enter Tryz.func142, Tryz.ntmps142
  go_wp2_with fail
  go_loopw [1, 5] (fun x i wr => ∃ j : Nat, j ≤ n ∧ x = .int .i64 (k - n - (rsum szLetter (l.take j) : Nat)) ∧ i = .int .i64 j ∧ Below w.heap.size w wr ∧ (n : Int) + (rsum szLetter (l.take j) : Nat) ≤ k) (fun _ i _ => n - (intOf i).toNat)
  case atStart => exact ⟨0, by omega, by rw [rsum_zero]; go_num, rfl, (belx), by rw [rsum_zero]; omega⟩
  case round =>
    obtain ⟨j, hj, rfl, rfl, hB, hv⟩ := hrel
    by_cases hlt : j < n
    · obtain ⟨a, b, off, es, hl, rfl, hb, hes, hR⟩ := rowR_at (K := 2) h hlt rfl
      have hsa := rsum_at (c := szLetter) hl
      have hsn := rsum_sn (c := szLetter) hl
      rw [HS.out] at hsa
      obtain ⟨q, hq⟩ : ∃ q, rsum szLetter (l.take j) = q := ⟨_, rfl⟩
      obtain ⟨q', hq'⟩ : ∃ q, rsum szLetter (l.take (j + 1)) = q := ⟨_, rfl⟩
      rw [hq] at hsa hsn
      rw [hq'] at hsn
      rw [hq]
      have HQ := Lib.hid hq'
      rw [hq] at hv
      clear hq hq'
      obtain ⟨A1, n1, c1, rfl, hi0, ha1, hb1, hl1, hr1⟩ := openLetter hR
      have e0 : wr.cell? ⟨b, off + j * 2, none⟩ = some (.int .i64 (a.1)) := cell_at hB hb (hes 0 (by omega))
      have e1 : wr.cell? ⟨b, off + j * 2 + 1, none⟩ = some (.slice A1 n1 c1) := cell_at hB hb (hes 1 (by omega))
      clear hes
      by_cases hg : (n : Int) + q + (szLetter a : Nat) ≤ k
      · have d2 : decide (k - (n : Int) - q - (szLetter a : Nat) < 0) = false := by simp; omega
        go_wp2_with fail
        refine (o_szLetter_t (tLetter.reach hR ?hB) (by omega) (by omega) (by omega)).mono ?_
        case hB => exact (belx)
        rintro e w1 ⟨rfl, hb1⟩
        go_wp2
        go_roundw
        case rel => exact ⟨j + 1, by omega, by rw [HQ.out]; go_num, by go_num, bel_trans hB hb1, by rw [HQ.out]; omega⟩
        case measure => simp [intOf]; omega
      · go_wp2_with fail
        refine (o_szLetter_f (tLetter.reach hR ?hB) (by omega) (by omega) (by omega)).mono ?_
        case hB => exact (belx)
        rintro e w1 ⟨rfl, hb1⟩
        go_wp2
        go_ret
        exact ⟨rfl, bel_trans hB hb1⟩
    · obtain rfl : j = n := by omega
      have HA := Lib.hid (show rsum szLetter (l.take j) = s from by rw [rsum_all (Nat.le_of_eq HLN.out)]; exact HS.out)
      rw [HA.out] at hv
      exact absurd hv (by omega)
theorem info_Letter : (Tryz.prog.info? 111).map (fun i => (i.zero, i.size, i.bytes)) = some (some (.agg #[.int .i64 0, .slice none 0 0]), 2, 32) := by kernel_rfl
set_option maxHeartbeats 800000 in
theorem o_toLetterS {w : World} {n c : Nat} {A : Option Addr} {l : List DLetter} (h : tLetter.row.R w w.heap.size [.slice A n c] l) (hz : rsz szLetter l ≤ 1048576) :
    Calls Tryz.prog 151 #[.slice A n c] w fun e w' => ∃ A' c' F, e = .returned (.slice A' l.length c') ∧ tLetter.row.O w' [.slice A' l.length c'] l F ∧ New w.heap.size F ∧ Below w.heap.size w w' := by
  obtain ⟨i0, hi0, hz0, hz1, hz2⟩ := info_parts info_Letter
  obtain ⟨hln, hnc, hcm⟩ := rowR_len h
  have hn : n ≤ 1048576 := by have := rsz_le (s := szLetter) l; omega
  have HLN := Lib.hid hln
  have HZ := Lib.hid hz
  clear hln hz
  go_enter Tryz.func151, Tryz.ntmps151
  go_wp2_with (at_make; refine wpList_mkS _ rfl (.tmp 6) (.tmp 6) _ rfl 111 i0 _ 2 Tryz.underlying69 hi0 hz0 hz1 n rfl rfl (by rw [hz2]; omega) (by simp only [maxLen]; omega) ?_; intro w1 cur hcur hsz hB1 hgr)
  go_loopw [4] (fun i wr => ∃ j : Nat, j ≤ n ∧ i = .int .i64 j ∧ Below w.heap.size w wr ∧ ∃ F, Fill tLetter wr w.heap.size 111 n (l.take j) F ∧ New (w.heap.size + 1) F) (fun i _ => n - (intOf i).toNat)
  case atStart => exact ⟨0, by omega, rfl, hB1, [], Fill.start hcur hsz, New.nil _⟩
  case round =>
    obtain ⟨j, hj, rfl, hB, F, hf, hN⟩ := hrel
    by_cases hlt : j < n
    · obtain ⟨a, b, off, es, hl, rfl, hb, hes, hR⟩ := rowR_at (K := 2) h hlt rfl
      have HT := Lib.hid (take_sn hl)
      have HLT := Lib.hid (show (l.take j).length = j from by rw [List.length_take, HLN.out]; omega)
      have hsa : szLetter a ≤ 1048576 := by have := rsz_step (s := szLetter) hl; have := HZ.out; omega
      obtain ⟨A1, n1, c1, rfl, hi0, ha1, hb1, hl1, hr1⟩ := openLetter hR
      subst hl1
      have e0 : wr.cell? ⟨b, off + j * 2, none⟩ = some (.int .i64 (a.1)) := cell_at hB hb (hes 0 (by omega))
      have e1 : wr.cell? ⟨b, off + j * 2 + 1, none⟩ = some (.slice A1 (a.2).length c1) := cell_at hB hb (hes 1 (by omega))
      clear hes
      have hgs := hf.size
      go_wp2_with fail
      refine (o_toLetter (tLetter.reach hR ?hB) hsa).mono ?_
      case hB => exact (belx)
      rintro e w2 ⟨cs2, F2, rfl, hO2, hN2, hb2⟩
      obtain ⟨B1, d1, G1, rfl, hFe, _, _, _, _⟩ := openOLetter hO2
      clear hFe
      have hf2 := hf.below hb2
      have hsz2 := hb2.size
      have hP := Fill.push (K := 2) hf2 (by rw [HLT.out]; exact hlt) hO2 (hN.not (by omega)) (hN2.not hgs) rfl
      rw [HLT.out, ← HT.out] at hP
      have hM : New (w.heap.size + 1) (F ++ F2) := New.app hN hN2 (by omega) hf.lt
      obtain ⟨u0, k0⟩ := hf2.cell (K := 2) (j := 0) (by rw [HLT.out]; exact hlt) rfl (by omega)
      rw [HLT.out] at k0
      replace k0 : w2.cell? ⟨w.heap.size, j * 2, none⟩ = some u0 := k0
      have f0 := hf2.frozen (j * 2)
      obtain ⟨u1, k1⟩ := hf2.cell (K := 2) (j := 1) (by rw [HLT.out]; exact hlt) rfl (by omega)
      rw [HLT.out] at k1
      replace k1 : w2.cell? ⟨w.heap.size, j * 2 + 1, none⟩ = some u1 := k1
      have f1 := hf2.frozen (j * 2 + 1)
      go_wp2
      go_roundw
      case rel => exact ⟨j + 1, by omega, by go_num, below_puts (bel_trans hB hb2) (Nat.le_refl _) (off := j * 2) (vs := [.int .i64 (a.1), .slice B1 (a.2).length d1]), _, hP, hM⟩
      case measure => simp [intOf]; omega
    · obtain rfl : j = n := by omega
      have HA := Lib.hid (show l.take j = l from by rw [List.take_of_length_le (Nat.le_of_eq HLN.out)])
      rw [HA.out] at hf
      obtain ⟨F2, hF2, hor⟩ := hf.done HLN.out (by omega)
      have HN := Lib.hid HLN.out
      go_wp2
      go_ret
      refine ⟨some ⟨w.heap.size, 0, none⟩, j, F2, ?_, hF2, hN.cons hor, hB⟩
      rw [HN.out]
      rfl
set_option maxHeartbeats 800000 in
theorem o_eqLetterS {w : World} {n m c d : Nat} {A A' : Option Addr} {l : List DLetter} (h : tLetter.row.R w w.heap.size [.slice A n c] l) (h' : tLetter.row.R w w.heap.size [.slice A' m d] l) :
    Calls Tryz.prog 163 #[.slice A n c, .slice A' m d] w fun e w' => e = .returned (.bool true) ∧ Below w.heap.size w w' := by
  obtain ⟨hln, hnc, hcm⟩ := rowR_len h
  obtain ⟨hln', hnc', hcm'⟩ := rowR_len h'
  obtain rfl : m = n := by omega
  have HLN := Lib.hid hln
  clear hln hln'
  go_enter Tryz.func163, Tryz.ntmps163
  go_wp2_with fail
  go_loopw [5] (fun i wr => ∃ j : Nat, j ≤ m ∧ i = .int .i64 j ∧ Below w.heap.size w wr) (fun i _ => m - (intOf i).toNat)
  case atStart => exact ⟨0, by omega, rfl, (belx)⟩
  case round =>
    obtain ⟨j, hj, rfl, hB⟩ := hrel
    by_cases hlt : j < m
    · obtain ⟨a, b, off, es, hl, rfl, hb, hes, hR⟩ := rowR_at (K := 2) h hlt rfl
      obtain ⟨a', b', off', es', hl', rfl, hb', hes', hR'⟩ := rowR_at (K := 2) h' hlt rfl
      obtain rfl : a = a' := by rw [hl] at hl'; exact Option.some.inj hl'
      clear hl hl'
      obtain ⟨A1, n1, c1, rfl, hi0, ha1, hb1, hl1, hr1⟩ := openLetter hR
      obtain ⟨A1', n1', c1', rfl, hi0', ha1', hb1', hl1', hr1'⟩ := openLetter hR'
      subst hl1
      subst hl1'
      have e0 : wr.cell? ⟨b, off + j * 2, none⟩ = some (.int .i64 (a.1)) := cell_at hB hb (hes 0 (by omega))
      have e1 : wr.cell? ⟨b, off + j * 2 + 1, none⟩ = some (.slice A1 (a.2).length c1) := cell_at hB hb (hes 1 (by omega))
      have e0' : wr.cell? ⟨b', off' + j * 2, none⟩ = some (.int .i64 (a.1)) := cell_at hB hb' (hes' 0 (by omega))
      have e1' : wr.cell? ⟨b', off' + j * 2 + 1, none⟩ = some (.slice A1' (a.2).length c1') := cell_at hB hb' (hes' 1 (by omega))
      clear hes hes'
      go_wp2_with fail
      go_region_held3 (fun w' => w'.cell? ⟨b, off + j * 2, none⟩ = some (.int .i64 (a.1)) ∧ w'.cell? ⟨b, off + j * 2 + 1, none⟩ = some (.slice A1 (a.2).length c1) ∧ w'.cell? ⟨b', off' + j * 2, none⟩ = some (.int .i64 (a.1)) ∧ w'.cell? ⟨b', off' + j * 2 + 1, none⟩ = some (.slice A1' (a.2).length c1')) (first | (exact ⟨e0, e1, e0', e1'⟩) | (exact ⟨cell_bel hs2 e0, cell_bel hs2 e1, cell_bel hs2 e0', cell_bel hs2 e1'⟩) | go_keep)
        ((go_at_call 204; refine (o_eqLetter (tLetter.reach hR (belx)) (tLetter.reach hR' (belx))).mono ?_; rintro e w2 ⟨rfl, hb2⟩; have hs2 : Below wr.heap.size wr w2 := bel_trans (belx) hb2))
      go_wp2
      go_roundw
      case rel => exact ⟨j + 1, by omega, by go_num, bel_trans hB hs2⟩
      case measure => simp [intOf]; omega
    · obtain rfl : j = m := by omega
      go_wp2
      go_ret
      exact ⟨rfl, hB⟩
end Go.Proofs.YteokfenoomcogaaGreat
namespace Go.Proofs.YteokfenoomcogaaGreat
set_option maxRecDepth 100000
set_option linter.unusedVariables false
set_option linter.unusedSimpArgs false
open Go.ChangeShapes Go.WideShapes Go.ChangeAt Go.RowKit
theorem o_szHeldS_t {w : World} {n c : Nat} {A : Option Addr} {l : List DHeld} {k : Int} (h : tHeld.row.R w w.heap.size [.slice A n c] l) (h1 : 0 ≤ k) (h2 : k ≤ 1048576) (h3 : (rsz szHeld l : Int) ≤ k) :
    Calls Tryz.prog 177 #[.slice A n c, .int .i64 k] w fun e w' => e = .returned (.int .i64 (k - rsz szHeld l)) ∧ Below w.heap.size w w' := by
  obtain ⟨hln, hnc, hcm⟩ := rowR_len h
  obtain ⟨s, hs⟩ : ∃ s, rsum szHeld l = s := ⟨_, rfl⟩
  have hz : rsz szHeld l = n + s := by unfold rsz; rw [hln, hs]
  rw [hz] at h3 ⊢
  have HLN := Lib.hid hln
  have HS := Lib.hid hs
  clear hz hln hs
  have d : decide (k - (n : Int) < 0) = false := by simp; omega
  go_enter Tryz.func177, Tryz.ntmps177
  go_wp2_with fail
  go_loopw [1, 5] (fun x i wr => ∃ j : Nat, j ≤ n ∧ x = .int .i64 (k - n - (rsum szHeld (l.take j) : Nat)) ∧ i = .int .i64 j ∧ Below w.heap.size w wr) (fun _ i _ => n - (intOf i).toNat)
  case atStart => exact ⟨0, by omega, by rw [rsum_zero]; go_num, rfl, (belx)⟩
  case round =>
    obtain ⟨j, hj, rfl, rfl, hB⟩ := hrel
    by_cases hlt : j < n
    · obtain ⟨a, b, off, es, hl, rfl, hb, hes, hR⟩ := rowR_at (K := 3) h hlt rfl
      have hsa := rsum_at (c := szHeld) hl
      have hsn := rsum_sn (c := szHeld) hl
      rw [HS.out] at hsa
      obtain ⟨q, hq⟩ : ∃ q, rsum szHeld (l.take j) = q := ⟨_, rfl⟩
      obtain ⟨q', hq'⟩ : ∃ q, rsum szHeld (l.take (j + 1)) = q := ⟨_, rfl⟩
      rw [hq] at hsa hsn
      rw [hq'] at hsn
      rw [hq]
      have HQ := Lib.hid hq'
      clear hq hq'
      obtain ⟨A2, n2, c2, rfl, hi0, hi1, ha2, hb2, hl2, hr2⟩ := openHeld hR
      have e0 : wr.cell? ⟨b, off + j * 3, none⟩ = some (.int .i64 (a.1)) := cell_at hB hb (hes 0 (by omega))
      have e1 : wr.cell? ⟨b, off + j * 3 + 1, none⟩ = some (.int .i64 (a.2.1)) := cell_at hB hb (hes 1 (by omega))
      have e2 : wr.cell? ⟨b, off + j * 3 + 2, none⟩ = some (.slice A2 n2 c2) := cell_at hB hb (hes 2 (by omega))
      clear hes
      have d2 : decide (k - (n : Int) - q - (szHeld a : Nat) < 0) = false := by simp; omega
      go_wp2_with fail
      refine (o_szHeld_t (tHeld.reach hR ?hB) (by omega) (by omega) (by omega)).mono ?_
      case hB => exact (belx)
      rintro e w1 ⟨rfl, hb1⟩
      go_wp2
      go_roundw
      case rel => exact ⟨j + 1, by omega, by rw [HQ.out]; go_num, by go_num, bel_trans hB hb1⟩
      case measure => simp [intOf]; omega
    · obtain rfl : j = n := by omega
      have HA := Lib.hid (show rsum szHeld (l.take j) = s from by rw [rsum_all (Nat.le_of_eq HLN.out)]; exact HS.out)
      rw [HA.out]
      go_wp2
      go_ret
      exact ⟨ret_int (by omega), hB⟩
theorem o_szHeldS_f {w : World} {n c : Nat} {A : Option Addr} {l : List DHeld} {k : Int} (h : tHeld.row.R w w.heap.size [.slice A n c] l) (h1 : 0 ≤ k) (h2 : k ≤ 1048576) (h3 : ¬ (rsz szHeld l : Int) ≤ k) :
    Calls Tryz.prog 177 #[.slice A n c, .int .i64 k] w fun e w' => e = .returned (.int .i64 (-1)) ∧ Below w.heap.size w w' := by
  obtain ⟨hln, hnc, hcm⟩ := rowR_len h
  obtain ⟨s, hs⟩ : ∃ s, rsum szHeld l = s := ⟨_, rfl⟩
  have hz : rsz szHeld l = n + s := by unfold rsz; rw [hln, hs]
  rw [hz] at h3
  have HLN := Lib.hid hln
  have HS := Lib.hid hs
  clear hz hln hs
  by_cases hnk : k < (n : Int)
  · have d : decide (k - (n : Int) < 0) = true := by simp; omega
    go_enter Tryz.func177, Tryz.ntmps177
    go_wp2
    go_ret
    exact ⟨rfl, (belx)⟩
  have d : decide (k - (n : Int) < 0) = false := by simp; omega
  go_enter Tryz.func177, Tryz.ntmps177
  go_wp2_with fail
  go_loopw [1, 5] (fun x i wr => ∃ j : Nat, j ≤ n ∧ x = .int .i64 (k - n - (rsum szHeld (l.take j) : Nat)) ∧ i = .int .i64 j ∧ Below w.heap.size w wr ∧ (n : Int) + (rsum szHeld (l.take j) : Nat) ≤ k) (fun _ i _ => n - (intOf i).toNat)
  case atStart => exact ⟨0, by omega, by rw [rsum_zero]; go_num, rfl, (belx), by rw [rsum_zero]; omega⟩
  case round =>
    obtain ⟨j, hj, rfl, rfl, hB, hv⟩ := hrel
    by_cases hlt : j < n
    · obtain ⟨a, b, off, es, hl, rfl, hb, hes, hR⟩ := rowR_at (K := 3) h hlt rfl
      have hsa := rsum_at (c := szHeld) hl
      have hsn := rsum_sn (c := szHeld) hl
      rw [HS.out] at hsa
      obtain ⟨q, hq⟩ : ∃ q, rsum szHeld (l.take j) = q := ⟨_, rfl⟩
      obtain ⟨q', hq'⟩ : ∃ q, rsum szHeld (l.take (j + 1)) = q := ⟨_, rfl⟩
      rw [hq] at hsa hsn
      rw [hq'] at hsn
      rw [hq]
      have HQ := Lib.hid hq'
      rw [hq] at hv
      clear hq hq'
      obtain ⟨A2, n2, c2, rfl, hi0, hi1, ha2, hb2, hl2, hr2⟩ := openHeld hR
      have e0 : wr.cell? ⟨b, off + j * 3, none⟩ = some (.int .i64 (a.1)) := cell_at hB hb (hes 0 (by omega))
      have e1 : wr.cell? ⟨b, off + j * 3 + 1, none⟩ = some (.int .i64 (a.2.1)) := cell_at hB hb (hes 1 (by omega))
      have e2 : wr.cell? ⟨b, off + j * 3 + 2, none⟩ = some (.slice A2 n2 c2) := cell_at hB hb (hes 2 (by omega))
      clear hes
      by_cases hg : (n : Int) + q + (szHeld a : Nat) ≤ k
      · have d2 : decide (k - (n : Int) - q - (szHeld a : Nat) < 0) = false := by simp; omega
        go_wp2_with fail
        refine (o_szHeld_t (tHeld.reach hR ?hB) (by omega) (by omega) (by omega)).mono ?_
        case hB => exact (belx)
        rintro e w1 ⟨rfl, hb1⟩
        go_wp2
        go_roundw
        case rel => exact ⟨j + 1, by omega, by rw [HQ.out]; go_num, by go_num, bel_trans hB hb1, by rw [HQ.out]; omega⟩
        case measure => simp [intOf]; omega
      · go_wp2_with fail
        refine (o_szHeld_f (tHeld.reach hR ?hB) (by omega) (by omega) (by omega)).mono ?_
        case hB => exact (belx)
        rintro e w1 ⟨rfl, hb1⟩
        go_wp2
        go_ret
        exact ⟨rfl, bel_trans hB hb1⟩
    · obtain rfl : j = n := by omega
      have HA := Lib.hid (show rsum szHeld (l.take j) = s from by rw [rsum_all (Nat.le_of_eq HLN.out)]; exact HS.out)
      rw [HA.out] at hv
      exact absurd hv (by omega)
theorem info_Held : (Tryz.prog.info? 174).map (fun i => (i.zero, i.size, i.bytes)) = some (some (.agg #[.int .i64 0, .int .i64 0, .slice none 0 0]), 3, 40) := by kernel_rfl
set_option maxHeartbeats 800000 in
theorem o_toHeldS {w : World} {n c : Nat} {A : Option Addr} {l : List DHeld} (h : tHeld.row.R w w.heap.size [.slice A n c] l) (hz : rsz szHeld l ≤ 1048576) :
    Calls Tryz.prog 181 #[.slice A n c] w fun e w' => ∃ A' c' F, e = .returned (.slice A' l.length c') ∧ tHeld.row.O w' [.slice A' l.length c'] l F ∧ New w.heap.size F ∧ Below w.heap.size w w' := by
  obtain ⟨i0, hi0, hz0, hz1, hz2⟩ := info_parts info_Held
  obtain ⟨hln, hnc, hcm⟩ := rowR_len h
  have hn : n ≤ 1048576 := by have := rsz_le (s := szHeld) l; omega
  have HLN := Lib.hid hln
  have HZ := Lib.hid hz
  clear hln hz
  go_enter Tryz.func181, Tryz.ntmps181
  go_wp2_with (at_make; refine wpList_mkS _ rfl (.tmp 6) (.tmp 6) _ rfl 174 i0 _ 3 Tryz.underlying63 hi0 hz0 hz1 n rfl rfl (by rw [hz2]; omega) (by simp only [maxLen]; omega) ?_; intro w1 cur hcur hsz hB1 hgr)
  go_loopw [4] (fun i wr => ∃ j : Nat, j ≤ n ∧ i = .int .i64 j ∧ Below w.heap.size w wr ∧ ∃ F, Fill tHeld wr w.heap.size 174 n (l.take j) F ∧ New (w.heap.size + 1) F) (fun i _ => n - (intOf i).toNat)
  case atStart => exact ⟨0, by omega, rfl, hB1, [], Fill.start hcur hsz, New.nil _⟩
  case round =>
    obtain ⟨j, hj, rfl, hB, F, hf, hN⟩ := hrel
    by_cases hlt : j < n
    · obtain ⟨a, b, off, es, hl, rfl, hb, hes, hR⟩ := rowR_at (K := 3) h hlt rfl
      have HT := Lib.hid (take_sn hl)
      have HLT := Lib.hid (show (l.take j).length = j from by rw [List.length_take, HLN.out]; omega)
      have hsa : szHeld a ≤ 1048576 := by have := rsz_step (s := szHeld) hl; have := HZ.out; omega
      obtain ⟨A2, n2, c2, rfl, hi0, hi1, ha2, hb2, hl2, hr2⟩ := openHeld hR
      subst hl2
      have e0 : wr.cell? ⟨b, off + j * 3, none⟩ = some (.int .i64 (a.1)) := cell_at hB hb (hes 0 (by omega))
      have e1 : wr.cell? ⟨b, off + j * 3 + 1, none⟩ = some (.int .i64 (a.2.1)) := cell_at hB hb (hes 1 (by omega))
      have e2 : wr.cell? ⟨b, off + j * 3 + 2, none⟩ = some (.slice A2 (a.2.2).length c2) := cell_at hB hb (hes 2 (by omega))
      clear hes
      have hgs := hf.size
      go_wp2_with fail
      refine (o_toHeld (tHeld.reach hR ?hB) hsa).mono ?_
      case hB => exact (belx)
      rintro e w2 ⟨cs2, F2, rfl, hO2, hN2, hb2⟩
      obtain ⟨B2, d2, G2, rfl, hFe, _, _, _, _, _⟩ := openOHeld hO2
      clear hFe
      have hf2 := hf.below hb2
      have hsz2 := hb2.size
      have hP := Fill.push (K := 3) hf2 (by rw [HLT.out]; exact hlt) hO2 (hN.not (by omega)) (hN2.not hgs) rfl
      rw [HLT.out, ← HT.out] at hP
      have hM : New (w.heap.size + 1) (F ++ F2) := New.app hN hN2 (by omega) hf.lt
      obtain ⟨u0, k0⟩ := hf2.cell (K := 3) (j := 0) (by rw [HLT.out]; exact hlt) rfl (by omega)
      rw [HLT.out] at k0
      replace k0 : w2.cell? ⟨w.heap.size, j * 3, none⟩ = some u0 := k0
      have f0 := hf2.frozen (j * 3)
      obtain ⟨u1, k1⟩ := hf2.cell (K := 3) (j := 1) (by rw [HLT.out]; exact hlt) rfl (by omega)
      rw [HLT.out] at k1
      replace k1 : w2.cell? ⟨w.heap.size, j * 3 + 1, none⟩ = some u1 := k1
      have f1 := hf2.frozen (j * 3 + 1)
      obtain ⟨u2, k2⟩ := hf2.cell (K := 3) (j := 2) (by rw [HLT.out]; exact hlt) rfl (by omega)
      rw [HLT.out] at k2
      replace k2 : w2.cell? ⟨w.heap.size, j * 3 + 2, none⟩ = some u2 := k2
      have f2 := hf2.frozen (j * 3 + 2)
      go_wp2
      go_roundw
      case rel => exact ⟨j + 1, by omega, by go_num, below_puts (bel_trans hB hb2) (Nat.le_refl _) (off := j * 3) (vs := [.int .i64 (a.1), .int .i64 (a.2.1), .slice B2 (a.2.2).length d2]), _, hP, hM⟩
      case measure => simp [intOf]; omega
    · obtain rfl : j = n := by omega
      have HA := Lib.hid (show l.take j = l from by rw [List.take_of_length_le (Nat.le_of_eq HLN.out)])
      rw [HA.out] at hf
      obtain ⟨F2, hF2, hor⟩ := hf.done HLN.out (by omega)
      have HN := Lib.hid HLN.out
      go_wp2
      go_ret
      refine ⟨some ⟨w.heap.size, 0, none⟩, j, F2, ?_, hF2, hN.cons hor, hB⟩
      rw [HN.out]
      rfl
set_option maxHeartbeats 800000 in
theorem o_eqHeldS {w : World} {n m c d : Nat} {A A' : Option Addr} {l : List DHeld} (h : tHeld.row.R w w.heap.size [.slice A n c] l) (h' : tHeld.row.R w w.heap.size [.slice A' m d] l) :
    Calls Tryz.prog 202 #[.slice A n c, .slice A' m d] w fun e w' => e = .returned (.bool true) ∧ Below w.heap.size w w' := by
  obtain ⟨hln, hnc, hcm⟩ := rowR_len h
  obtain ⟨hln', hnc', hcm'⟩ := rowR_len h'
  obtain rfl : m = n := by omega
  have HLN := Lib.hid hln
  clear hln hln'
  go_enter Tryz.func202, Tryz.ntmps202
  go_wp2_with fail
  go_loopw [5] (fun i wr => ∃ j : Nat, j ≤ m ∧ i = .int .i64 j ∧ Below w.heap.size w wr) (fun i _ => m - (intOf i).toNat)
  case atStart => exact ⟨0, by omega, rfl, (belx)⟩
  case round =>
    obtain ⟨j, hj, rfl, hB⟩ := hrel
    by_cases hlt : j < m
    · obtain ⟨a, b, off, es, hl, rfl, hb, hes, hR⟩ := rowR_at (K := 3) h hlt rfl
      obtain ⟨a', b', off', es', hl', rfl, hb', hes', hR'⟩ := rowR_at (K := 3) h' hlt rfl
      obtain rfl : a = a' := by rw [hl] at hl'; exact Option.some.inj hl'
      clear hl hl'
      obtain ⟨A2, n2, c2, rfl, hi0, hi1, ha2, hb2, hl2, hr2⟩ := openHeld hR
      obtain ⟨A2', n2', c2', rfl, hi0', hi1', ha2', hb2', hl2', hr2'⟩ := openHeld hR'
      subst hl2
      subst hl2'
      have e0 : wr.cell? ⟨b, off + j * 3, none⟩ = some (.int .i64 (a.1)) := cell_at hB hb (hes 0 (by omega))
      have e1 : wr.cell? ⟨b, off + j * 3 + 1, none⟩ = some (.int .i64 (a.2.1)) := cell_at hB hb (hes 1 (by omega))
      have e2 : wr.cell? ⟨b, off + j * 3 + 2, none⟩ = some (.slice A2 (a.2.2).length c2) := cell_at hB hb (hes 2 (by omega))
      have e0' : wr.cell? ⟨b', off' + j * 3, none⟩ = some (.int .i64 (a.1)) := cell_at hB hb' (hes' 0 (by omega))
      have e1' : wr.cell? ⟨b', off' + j * 3 + 1, none⟩ = some (.int .i64 (a.2.1)) := cell_at hB hb' (hes' 1 (by omega))
      have e2' : wr.cell? ⟨b', off' + j * 3 + 2, none⟩ = some (.slice A2' (a.2.2).length c2') := cell_at hB hb' (hes' 2 (by omega))
      clear hes hes'
      go_wp2_with fail
      go_region_held3 (fun w' => w'.cell? ⟨b, off + j * 3, none⟩ = some (.int .i64 (a.1)) ∧ w'.cell? ⟨b, off + j * 3 + 1, none⟩ = some (.int .i64 (a.2.1)) ∧ w'.cell? ⟨b, off + j * 3 + 2, none⟩ = some (.slice A2 (a.2.2).length c2) ∧ w'.cell? ⟨b', off' + j * 3, none⟩ = some (.int .i64 (a.1)) ∧ w'.cell? ⟨b', off' + j * 3 + 1, none⟩ = some (.int .i64 (a.2.1)) ∧ w'.cell? ⟨b', off' + j * 3 + 2, none⟩ = some (.slice A2' (a.2.2).length c2')) (first | (exact ⟨e0, e1, e2, e0', e1', e2'⟩) | (exact ⟨cell_bel hs2 e0, cell_bel hs2 e1, cell_bel hs2 e2, cell_bel hs2 e0', cell_bel hs2 e1', cell_bel hs2 e2'⟩) | go_keep)
        ((go_at_call 226; refine (o_eqHeld (tHeld.reach hR (belx)) (tHeld.reach hR' (belx))).mono ?_; rintro e w2 ⟨rfl, hb2⟩; have hs2 : Below wr.heap.size wr w2 := bel_trans (belx) hb2))
      go_wp2
      go_roundw
      case rel => exact ⟨j + 1, by omega, by go_num, bel_trans hB hs2⟩
      case measure => simp [intOf]; omega
    · obtain rfl : j = m := by omega
      go_wp2
      go_ret
      exact ⟨rfl, hB⟩
end Go.Proofs.YteokfenoomcogaaGreat
namespace Go.Proofs.YteokfenoomcogaaGreat
set_option maxRecDepth 100000
set_option linter.unusedVariables false
set_option linter.unusedSimpArgs false
open Go.ChangeShapes Go.WideShapes Go.ChangeAt Go.RowKit
theorem o_szPool_t {w : World} {cs : List Value} {p : DPool} {k : Int} (h : tPool.R w w.heap.size cs p) (h1 : 0 ≤ k) (h2 : k ≤ 1048576) (h3 : (szPool p : Int) ≤ k) :
    Calls Tryz.prog 140 #[.agg cs.toArray, .int .i64 k] w fun e w' => e = .returned (.int .i64 (k - szPool p)) ∧ Below w.heap.size w w' := by
  obtain ⟨A0, n0, c0, A1, n1, c1, rfl, ha0, hb0, hl0, hr0, ha1, hb1, hl1, hr1⟩ := openPool h
  obtain ⟨r0, l1⟩ := p
  try dsimp only [szPool] at *
  subst hl0
  subst hl1
  have d0 : decide (k - ((rsz szHeld r0 : Nat) : Int) < 0) = false := by simp; omega
  have d1 : decide (k - ((rsz szHeld r0 : Nat) : Int) - ((l1.length : Nat) : Int) < 0) = false := by simp; omega
  go_enter Tryz.func140, Tryz.ntmps140
  go_wp2_with fail
  refine (o_szHeldS_t (tHeld.row.reach hr0 ?hB) (by omega) (by omega) (by omega)).mono ?_
  case hB => exact (belx)
  rintro e w1 ⟨rfl, hb1⟩
  have hB1 : Below w.heap.size w w1 := bel_trans (belx) hb1
  have P1 : Box w1 w.heap.size 131 #[.slice A0 r0.length c0, .slice A1 l1.length c1] := (Box.new _ _ _).below hb1 (by first | (simp; done) | (simp; omega))
  have e0_1 := P1.cell 1
  go_wp2_with fail
  refine (o_szIntS_t (tIs.reach hr1 ?hB) (by omega) (by omega) (by omega)).mono ?_
  case hB => exact (belx)
  rintro e w2 ⟨rfl, hb2⟩
  have hB2 : Below w.heap.size w w2 := bel_trans (belx) hb2
  have P2 := P1.below hb2 P1.size
  go_wp2
  go_ret
  exact ⟨ret_int (by omega), hB2⟩
theorem o_szPool_f {w : World} {cs : List Value} {p : DPool} {k : Int} (h : tPool.R w w.heap.size cs p) (h1 : 0 ≤ k) (h2 : k ≤ 1048576) (h3 : ¬ (szPool p : Int) ≤ k) :
    Calls Tryz.prog 140 #[.agg cs.toArray, .int .i64 k] w fun e w' => e = .returned (.int .i64 (-1)) ∧ Below w.heap.size w w' := by
  obtain ⟨A0, n0, c0, A1, n1, c1, rfl, ha0, hb0, hl0, hr0, ha1, hb1, hl1, hr1⟩ := openPool h
  obtain ⟨r0, l1⟩ := p
  try dsimp only [szPool] at *
  subst hl0
  subst hl1
  by_cases g0 : (((rsz szHeld r0) : Nat) : Int) ≤ k
  rotate_left
  · go_enter Tryz.func140, Tryz.ntmps140
    go_wp2_with fail
    refine (o_szHeldS_f (tHeld.row.reach hr0 ?hB) (by omega) (by omega) (by omega)).mono ?_
    case hB => exact (belx)
    rintro e w1 ⟨rfl, hb1⟩
    have hB1 : Below w.heap.size w w1 := bel_trans (belx) hb1
    have P1 : Box w1 w.heap.size 131 #[.slice A0 r0.length c0, .slice A1 l1.length c1] := (Box.new _ _ _).below hb1 (by first | (simp; done) | (simp; omega))
    go_wp2
    go_ret
    exact ⟨rfl, hB1⟩
  have d0 : decide (k - ((rsz szHeld r0 : Nat) : Int) < 0) = false := by simp; omega
  go_enter Tryz.func140, Tryz.ntmps140
  go_wp2_with fail
  refine (o_szHeldS_t (tHeld.row.reach hr0 ?hB) (by omega) (by omega) (by omega)).mono ?_
  case hB => exact (belx)
  rintro e w1 ⟨rfl, hb1⟩
  have hB1 : Below w.heap.size w w1 := bel_trans (belx) hb1
  have P1 : Box w1 w.heap.size 131 #[.slice A0 r0.length c0, .slice A1 l1.length c1] := (Box.new _ _ _).below hb1 (by first | (simp; done) | (simp; omega))
  have e0_1 := P1.cell 1
  go_wp2_with fail
  refine (o_szIntS_f (tIs.reach hr1 ?hB) (by omega) (by omega) (by omega)).mono ?_
  case hB => exact (belx)
  rintro e w2 ⟨rfl, hb2⟩
  have hB2 : Below w.heap.size w w2 := bel_trans (belx) hb2
  have P2 := P1.below hb2 P1.size
  go_wp2
  go_ret
  exact ⟨rfl, hB2⟩
set_option maxHeartbeats 400000 in
theorem o_toPool {w : World} {cs : List Value} {p : DPool} (h : tPool.R w w.heap.size cs p) (hn : szPool p ≤ 1048576) :
    Calls Tryz.prog 149 #[.agg cs.toArray] w fun e w' => ∃ cs' F, e = .returned (.agg cs'.toArray) ∧ tPool.O w' cs' p F ∧ New w.heap.size F ∧ Below w.heap.size w w' := by
  obtain ⟨A0, n0, c0, A1, n1, c1, rfl, ha0, hb0, hl0, hr0, ha1, hb1, hl1, hr1⟩ := openPool h
  obtain ⟨r0, l1⟩ := p
  try dsimp only [szPool] at *
  subst hl0
  subst hl1
  go_enter Tryz.func149, Tryz.ntmps149
  go_wp2_with fail
  refine (o_toHeldS (tHeld.row.reach hr0 ?hB) (by omega)).mono ?_
  case hB => exact (belx)
  rintro e w1 ⟨B0, d0, F0, rfl, o0, hN1, hb1⟩
  have z1 : w.heap.size + 3 ≤ w1.heap.size := by have := hb1.size; simpa using this
  have hB1 : Below w.heap.size w w1 := bel_trans (belx) hb1
  have R1 : Box w1 (w.heap.size + 1) 65 #[.slice none 0 0, .slice none 0 0] := Box.below (Box.alloc (by simpa using Box.new (w.alloc _) 65 #[.slice none 0 0, .slice none 0 0]) _) hb1 (by first | (simp; done) | (simp; omega))
  have L1 : Box w1 (w.heap.size + 1 + 1) 65 #[.slice none 0 0, .slice none 0 0] := Box.below (by simpa using Box.new ((w.alloc _).alloc _) 65 #[.slice none 0 0, .slice none 0 0]) hb1 (by first | (simp; done) | (simp; omega))
  have P1 : Box w1 w.heap.size 131 #[.slice A0 r0.length c0, .slice A1 l1.length c1] := Box.below (((Box.new w 131 #[.slice A0 r0.length c0, .slice A1 l1.length c1]).alloc _).alloc _) hb1 (by first | (simp; done) | (simp; omega))
  have hM1 : New (w.heap.size + 3) (F0) := hN1.lower (by simp)
  clear hN1
  have y1 : ∀ f ∈ F0, f < w1.heap.size := by intro f hf; exact tHeld.row.lt o0 f hf
  have kr1_0 := R1.cell 0; have fr1_0 := R1.frozen 0; have kl1_0 := L1.cell 0; have fl1_0 := L1.frozen 0; have kp1_0 := P1.cell 0
  have kr1_1 := R1.cell 1; have fr1_1 := R1.frozen 1; have kl1_1 := L1.cell 1; have fl1_1 := L1.frozen 1; have kp1_1 := P1.cell 1
  go_wp2_with fail
  refine (o_toIntS (tIs.reach hr1 ?hB) (by omega)).mono ?_
  case hB => exact (belx)
  rintro e w2 ⟨B1, d1, F1, rfl, o1, hN2, hb2⟩
  have z2 : w.heap.size + 3 ≤ w2.heap.size := Nat.le_trans z1 (by have := hb2.size; simpa using this)
  have hB2 : Below w.heap.size w w2 := bel_trans (belx) hb2
  have R2 : Box w2 (w.heap.size + 1) 65 #[.slice none 0 0, .slice none 0 0] := Box.below (R1.far (p := ⟨w.heap.size + 1 + 1, 0, none⟩) (by first | (simp; done) | (simp; omega)) (.slice B0 r0.length d0)) hb2 (by first | (simp; done) | (simp; omega))
  have L2 : Box w2 (w.heap.size + 1 + 1) 65 #[.slice B0 r0.length d0, .slice none 0 0] := Box.below (by simpa using (L1.put 0 (.slice B0 r0.length d0))) hb2 (by first | (simp; done) | (simp; omega))
  have P2 : Box w2 w.heap.size 131 #[.slice A0 r0.length c0, .slice A1 l1.length c1] := Box.below (P1.far (p := ⟨w.heap.size + 1 + 1, 0, none⟩) (by first | (simp; done) | (simp; omega)) (.slice B0 r0.length d0)) hb2 (by first | (simp; done) | (simp; omega))
  replace o0 := Ty.below (t := tHeld.row) (Ty.far (t := tHeld.row) o0 hM1 (p := ⟨w.heap.size + 1 + 1, 0, none⟩) (by first | (simp; done) | (simp; omega)) (.slice B0 r0.length d0)) hb2
  have hM2 : New (w.heap.size + 3) (F1) := hN2.lower (by simp; omega)
  have hV2 : New w1.heap.size (F1) := hN2.lower (by first | (simp; done) | (simp; omega))
  have zz2 : w1.heap.size ≤ w2.heap.size := by have := hb2.size; simpa using this
  clear hN2
  have y2 : ∀ f ∈ F1, f < w2.heap.size := by intro f hf; exact tIs.lt o1 f hf
  have kr2_0 := R2.cell 0; have fr2_0 := R2.frozen 0; have kl2_0 := L2.cell 0; have fl2_0 := L2.frozen 0; have kp2_0 := P2.cell 0
  have kr2_1 := R2.cell 1; have fr2_1 := R2.frozen 1; have kl2_1 := L2.cell 1; have fl2_1 := L2.frozen 1; have kp2_1 := P2.cell 1
  go_wp2
  have RR := (((R2.far (p := ⟨w.heap.size + 1 + 1, 1, none⟩) (by first | (simp; done) | (simp; omega)) (.slice B1 l1.length d1)).put 0 (.slice B0 r0.length d0)).put 1 (.slice B1 l1.length d1))
  have e0 := RR.cell 0
  have e1 := RR.cell 1
  have u0 := (Ty.far (t := tHeld.row) (Ty.far (t := tHeld.row) (Ty.far (t := tHeld.row) o0 hM1 (p := ⟨w.heap.size + 1 + 1, 1, none⟩) (by first | (simp; done) | (simp; omega)) (.slice B1 l1.length d1)) hM1 (p := ⟨w.heap.size + 1, 0, none⟩) (by first | (simp; done) | (simp; omega)) (.slice B0 r0.length d0)) hM1 (p := ⟨w.heap.size + 1, 1, none⟩) (by first | (simp; done) | (simp; omega)) (.slice B1 l1.length d1))
  have u1 := (Ty.far (t := tIs) (Ty.far (t := tIs) (Ty.far (t := tIs) o1 hM2 (p := ⟨w.heap.size + 1 + 1, 1, none⟩) (by first | (simp; done) | (simp; omega)) (.slice B1 l1.length d1)) hM2 (p := ⟨w.heap.size + 1, 0, none⟩) (by first | (simp; done) | (simp; omega)) (.slice B0 r0.length d0)) hM2 (p := ⟨w.heap.size + 1, 1, none⟩) (by first | (simp; done) | (simp; omega)) (.slice B1 l1.length d1))
  obtain ⟨F, hF, hFe⟩ := makeOPool (p := (r0, l1)) u0 u1
  refine bodyPost_ret (v := .agg #[.slice B0 r0.length d0, .slice B1 l1.length d1]) (by simp [results, Tryz.results149, go_sem, e0, e1]) rfl ⟨_, F, rfl, hF, ?_, ?_⟩
  · rw [hFe]
    exact New.lower (B := w.heap.size + 3) (by exact (New.app hM1 hV2 (by omega) y1)) (by omega)
  · exact (bel_put (bel_put (bel_put hB2 (by first | (simp; done) | (simp; omega)) _) (by first | (simp; done) | (simp; omega)) _) (by first | (simp; done) | (simp; omega)) _)
theorem o_eqPool {w : World} {cs cs' : List Value} {p : DPool} (h : tPool.R w w.heap.size cs p) (h' : tPool.R w w.heap.size cs' p) :
    Calls Tryz.prog 161 #[.agg cs.toArray, .agg cs'.toArray] w fun e w' => e = .returned (.bool true) ∧ Below w.heap.size w w' := by
  obtain ⟨A0, n0, c0, A1, n1, c1, rfl, ha0, hb0, hl0, hr0, ha1, hb1, hl1, hr1⟩ := openPool h
  obtain ⟨A0', n0', c0', A1', n1', c1', rfl, ha0', hb0', hl0', hr0', ha1', hb1', hl1', hr1'⟩ := openPool h'
  obtain ⟨r0, l1⟩ := p
  try dsimp only at *
  subst hl0
  subst hl0'
  subst hl1
  subst hl1'
  go_enter Tryz.func161, Tryz.ntmps161
  go_wp2_with fail
  refine (o_eqHeldS (tHeld.row.reach hr0 ?hB) (tHeld.row.reach hr0' ?hB)).mono ?_
  case hB => exact (belx)
  rintro e w1 ⟨rfl, hb1⟩
  have hB1 : Below w.heap.size w w1 := bel_trans (belx) hb1
  have P1 : Box w1 w.heap.size 65 #[.slice A0 r0.length c0, .slice A1 l1.length c1] := ((Box.new _ _ _).alloc _).below hb1 (by first | (simp; done) | (simp; omega))
  have Q1 : Box w1 (w.heap.size + 1) 65 #[.slice A0' r0.length c0', .slice A1' l1.length c1'] := Box.below (by simpa using Box.new (w.alloc _) 65 #[.slice A0' r0.length c0', .slice A1' l1.length c1']) hb1 (by first | (simp; done) | (simp; omega))
  have e0_1 := P1.cell 1
  have e0_1q := Q1.cell 1
  go_wp2_with fail
  refine (o_eqIntS (tIs.reach hr1 ?hB) (tIs.reach hr1' ?hB)).mono ?_
  case hB => exact (belx)
  rintro e w2 ⟨rfl, hb2⟩
  have hB2 : Below w.heap.size w w2 := bel_trans (belx) hb2
  have P2 := P1.below hb2 P1.size
  have Q2 := Q1.below hb2 Q1.size
  go_wp2
  go_ret
  exact ⟨rfl, hB2⟩
end Go.Proofs.YteokfenoomcogaaGreat
namespace Go.Proofs.YteokfenoomcogaaGreat
set_option maxRecDepth 100000
set_option linter.unusedVariables false
set_option linter.unusedSimpArgs false
open Go.ChangeShapes Go.WideShapes Go.ChangeAt Go.RowKit
theorem o_szNode_t {w : World} {cs : List Value} {p : DNode} {k : Int} (h : tNode.R w w.heap.size cs p) (h1 : 0 ≤ k) (h2 : k ≤ 1048576) (h3 : (szNode p : Int) ≤ k) :
    Calls Tryz.prog 102 #[.agg cs.toArray, .int .i64 k] w fun e w' => e = .returned (.int .i64 (k - szNode p)) ∧ Below w.heap.size w w' := by
  obtain ⟨A2, n2, c2, A3, n3, c3, A4, n4, c4, A5, n5, c5, A6, n6, c6, rfl, hi0, hi1, ha2, hb2, hl2, hr2, ha3, hb3, hl3, hr3, ha4, hb4, hl4, hr4, ha5, hb5, hl5, hr5, ha6, hb6, hl6, hr6⟩ := openNode h
  obtain ⟨x0, x1, ⟨r2, l3⟩, ⟨r4, l5⟩, r6⟩ := p
  try dsimp only [szNode] at *
  subst hl2
  subst hl3
  subst hl4
  subst hl5
  subst hl6
  have d0 : decide (k - ((szPool (r2, l3) : Nat) : Int) < 0) = false := by simp; omega
  have d1 : decide (k - ((szPool (r2, l3) : Nat) : Int) - ((szDesk (r4, l5) : Nat) : Int) < 0) = false := by simp; omega
  have d2 : decide (k - ((szPool (r2, l3) : Nat) : Int) - ((szDesk (r4, l5) : Nat) : Int) - ((rsz szLetter r6 : Nat) : Int) < 0) = false := by simp; omega
  go_enter Tryz.func102, Tryz.ntmps102
  go_wp2_with fail
  refine (o_szPool_t (tPool.reach (makePool (p := (r2, l3)) hr2 hr3) ?hB) (by omega) (by omega) (by omega)).mono ?_
  case hB => exact (belx)
  rintro e w1 ⟨rfl, hb1⟩
  have hB1 : Below w.heap.size w w1 := bel_trans (belx) hb1
  have P1 : Box w1 w.heap.size 137 #[.int .i64 x0, .int .i64 x1, .slice A2 r2.length c2, .slice A3 l3.length c3, .slice A4 r4.length c4, .slice A5 l5.length c5, .slice A6 r6.length c6] := (Box.new _ _ _).below hb1 (by first | (simp; done) | (simp; omega))
  have e0_4 := P1.cell 4
  have e0_5 := P1.cell 5
  go_wp2_with fail
  refine (o_szDesk_t (tDesk.reach (makeDesk (p := (r4, l5)) hr4 hr5) ?hB) (by omega) (by omega) (by omega)).mono ?_
  case hB => exact (belx)
  rintro e w2 ⟨rfl, hb2⟩
  have hB2 : Below w.heap.size w w2 := bel_trans (belx) hb2
  have P2 := P1.below hb2 P1.size
  have e1_6 := P2.cell 6
  go_wp2_with fail
  refine (o_szLetterS_t (tLetter.row.reach hr6 ?hB) (by omega) (by omega) (by omega)).mono ?_
  case hB => exact (belx)
  rintro e w3 ⟨rfl, hb3⟩
  have hB3 : Below w.heap.size w w3 := bel_trans (belx) hb3
  have P3 := P2.below hb3 P2.size
  go_wp2
  go_ret
  exact ⟨ret_int (by omega), hB3⟩
theorem o_szNode_f {w : World} {cs : List Value} {p : DNode} {k : Int} (h : tNode.R w w.heap.size cs p) (h1 : 0 ≤ k) (h2 : k ≤ 1048576) (h3 : ¬ (szNode p : Int) ≤ k) :
    Calls Tryz.prog 102 #[.agg cs.toArray, .int .i64 k] w fun e w' => e = .returned (.int .i64 (-1)) ∧ Below w.heap.size w w' := by
  obtain ⟨A2, n2, c2, A3, n3, c3, A4, n4, c4, A5, n5, c5, A6, n6, c6, rfl, hi0, hi1, ha2, hb2, hl2, hr2, ha3, hb3, hl3, hr3, ha4, hb4, hl4, hr4, ha5, hb5, hl5, hr5, ha6, hb6, hl6, hr6⟩ := openNode h
  obtain ⟨x0, x1, ⟨r2, l3⟩, ⟨r4, l5⟩, r6⟩ := p
  try dsimp only [szNode] at *
  subst hl2
  subst hl3
  subst hl4
  subst hl5
  subst hl6
  by_cases g0 : (((szPool (r2, l3)) : Nat) : Int) ≤ k
  rotate_left
  · go_enter Tryz.func102, Tryz.ntmps102
    go_wp2_with fail
    refine (o_szPool_f (tPool.reach (makePool (p := (r2, l3)) hr2 hr3) ?hB) (by omega) (by omega) (by omega)).mono ?_
    case hB => exact (belx)
    rintro e w1 ⟨rfl, hb1⟩
    have hB1 : Below w.heap.size w w1 := bel_trans (belx) hb1
    have P1 : Box w1 w.heap.size 137 #[.int .i64 x0, .int .i64 x1, .slice A2 r2.length c2, .slice A3 l3.length c3, .slice A4 r4.length c4, .slice A5 l5.length c5, .slice A6 r6.length c6] := (Box.new _ _ _).below hb1 (by first | (simp; done) | (simp; omega))
    go_wp2
    go_ret
    exact ⟨rfl, hB1⟩
  by_cases g1 : (((szPool (r2, l3) + szDesk (r4, l5)) : Nat) : Int) ≤ k
  rotate_left
  · have d0 : decide (k - ((szPool (r2, l3) : Nat) : Int) < 0) = false := by simp; omega
    go_enter Tryz.func102, Tryz.ntmps102
    go_wp2_with fail
    refine (o_szPool_t (tPool.reach (makePool (p := (r2, l3)) hr2 hr3) ?hB) (by omega) (by omega) (by omega)).mono ?_
    case hB => exact (belx)
    rintro e w1 ⟨rfl, hb1⟩
    have hB1 : Below w.heap.size w w1 := bel_trans (belx) hb1
    have P1 : Box w1 w.heap.size 137 #[.int .i64 x0, .int .i64 x1, .slice A2 r2.length c2, .slice A3 l3.length c3, .slice A4 r4.length c4, .slice A5 l5.length c5, .slice A6 r6.length c6] := (Box.new _ _ _).below hb1 (by first | (simp; done) | (simp; omega))
    have e0_4 := P1.cell 4
    have e0_5 := P1.cell 5
    go_wp2_with fail
    refine (o_szDesk_f (tDesk.reach (makeDesk (p := (r4, l5)) hr4 hr5) ?hB) (by omega) (by omega) (by omega)).mono ?_
    case hB => exact (belx)
    rintro e w2 ⟨rfl, hb2⟩
    have hB2 : Below w.heap.size w w2 := bel_trans (belx) hb2
    have P2 := P1.below hb2 P1.size
    go_wp2
    go_ret
    exact ⟨rfl, hB2⟩
  have d0 : decide (k - ((szPool (r2, l3) : Nat) : Int) < 0) = false := by simp; omega
  have d1 : decide (k - ((szPool (r2, l3) : Nat) : Int) - ((szDesk (r4, l5) : Nat) : Int) < 0) = false := by simp; omega
  go_enter Tryz.func102, Tryz.ntmps102
  go_wp2_with fail
  refine (o_szPool_t (tPool.reach (makePool (p := (r2, l3)) hr2 hr3) ?hB) (by omega) (by omega) (by omega)).mono ?_
  case hB => exact (belx)
  rintro e w1 ⟨rfl, hb1⟩
  have hB1 : Below w.heap.size w w1 := bel_trans (belx) hb1
  have P1 : Box w1 w.heap.size 137 #[.int .i64 x0, .int .i64 x1, .slice A2 r2.length c2, .slice A3 l3.length c3, .slice A4 r4.length c4, .slice A5 l5.length c5, .slice A6 r6.length c6] := (Box.new _ _ _).below hb1 (by first | (simp; done) | (simp; omega))
  have e0_4 := P1.cell 4
  have e0_5 := P1.cell 5
  go_wp2_with fail
  refine (o_szDesk_t (tDesk.reach (makeDesk (p := (r4, l5)) hr4 hr5) ?hB) (by omega) (by omega) (by omega)).mono ?_
  case hB => exact (belx)
  rintro e w2 ⟨rfl, hb2⟩
  have hB2 : Below w.heap.size w w2 := bel_trans (belx) hb2
  have P2 := P1.below hb2 P1.size
  have e1_6 := P2.cell 6
  go_wp2_with fail
  refine (o_szLetterS_f (tLetter.row.reach hr6 ?hB) (by omega) (by omega) (by omega)).mono ?_
  case hB => exact (belx)
  rintro e w3 ⟨rfl, hb3⟩
  have hB3 : Below w.heap.size w w3 := bel_trans (belx) hb3
  have P3 := P2.below hb3 P2.size
  go_wp2
  go_ret
  exact ⟨rfl, hB3⟩
set_option maxHeartbeats 400000 in
theorem o_toNode {w : World} {cs : List Value} {p : DNode} (h : tNode.R w w.heap.size cs p) (hn : szNode p ≤ 1048576) :
    Calls Tryz.prog 110 #[.agg cs.toArray] w fun e w' => ∃ cs' F, e = .returned (.agg cs'.toArray) ∧ tNode.O w' cs' p F ∧ New w.heap.size F ∧ Below w.heap.size w w' := by
  obtain ⟨A2, n2, c2, A3, n3, c3, A4, n4, c4, A5, n5, c5, A6, n6, c6, rfl, hi0, hi1, ha2, hb2, hl2, hr2, ha3, hb3, hl3, hr3, ha4, hb4, hl4, hr4, ha5, hb5, hl5, hr5, ha6, hb6, hl6, hr6⟩ := openNode h
  obtain ⟨x0, x1, ⟨r2, l3⟩, ⟨r4, l5⟩, r6⟩ := p
  try dsimp only [szNode] at *
  subst hl2
  subst hl3
  subst hl4
  subst hl5
  subst hl6
  go_enter Tryz.func110, Tryz.ntmps110
  go_wp2_with fail
  refine (o_toPool (tPool.reach (makePool (p := (r2, l3)) hr2 hr3) ?hB) (by omega)).mono ?_
  case hB => exact (belx)
  rintro e w1 ⟨cs1, G1, rfl, hO1, hN1, hb1⟩
  obtain ⟨B2, d2, F2, B3, d3, F3, rfl, hGe1, _, _, o2, _, _, o3⟩ := openOPool hO1
  try dsimp only at *
  subst G1
  have z1 : w.heap.size + 3 ≤ w1.heap.size := by have := hb1.size; simpa using this
  have hB1 : Below w.heap.size w w1 := bel_trans (belx) hb1
  have R1 : Box w1 (w.heap.size + 1) 71 #[.int .i64 0, .int .i64 0, .slice none 0 0, .slice none 0 0, .slice none 0 0, .slice none 0 0, .slice none 0 0] := Box.below (Box.alloc (by simpa using Box.new (w.alloc _) 71 #[.int .i64 0, .int .i64 0, .slice none 0 0, .slice none 0 0, .slice none 0 0, .slice none 0 0, .slice none 0 0]) _) hb1 (by first | (simp; done) | (simp; omega))
  have L1 : Box w1 (w.heap.size + 1 + 1) 71 #[.int .i64 x0, .int .i64 x1, .slice none 0 0, .slice none 0 0, .slice none 0 0, .slice none 0 0, .slice none 0 0] := Box.below (by simpa using Box.new ((w.alloc _).alloc _) 71 #[.int .i64 x0, .int .i64 x1, .slice none 0 0, .slice none 0 0, .slice none 0 0, .slice none 0 0, .slice none 0 0]) hb1 (by first | (simp; done) | (simp; omega))
  have P1 : Box w1 w.heap.size 137 #[.int .i64 x0, .int .i64 x1, .slice A2 r2.length c2, .slice A3 l3.length c3, .slice A4 r4.length c4, .slice A5 l5.length c5, .slice A6 r6.length c6] := Box.below (((Box.new w 137 #[.int .i64 x0, .int .i64 x1, .slice A2 r2.length c2, .slice A3 l3.length c3, .slice A4 r4.length c4, .slice A5 l5.length c5, .slice A6 r6.length c6]).alloc _).alloc _) hb1 (by first | (simp; done) | (simp; omega))
  have hM1 : New (w.heap.size + 3) (F2 ++ F3) := hN1.lower (by simp)
  clear hN1
  have hM1_2 : New (w.heap.size + 3) F2 := New.sub hM1 (by intro f hf; simp [hf]) (by have := hM1.1; simp only [List.nodup_append] at this; simp [this])
  have hM1_3 : New (w.heap.size + 3) F3 := New.sub hM1 (by intro f hf; simp [hf]) (by have := hM1.1; simp only [List.nodup_append] at this; simp [this])
  have y1 : ∀ f ∈ F2 ++ F3, f < w1.heap.size := by intro f hf; (try simp only [List.mem_append] at hf); rcases hf with hf | hf <;> first | exact (tHeld.row).lt o2 f hf | exact (tIs).lt o3 f hf
  have kr1_0 := R1.cell 0; have fr1_0 := R1.frozen 0; have kl1_0 := L1.cell 0; have fl1_0 := L1.frozen 0; have kp1_0 := P1.cell 0
  have kr1_1 := R1.cell 1; have fr1_1 := R1.frozen 1; have kl1_1 := L1.cell 1; have fl1_1 := L1.frozen 1; have kp1_1 := P1.cell 1
  have kr1_2 := R1.cell 2; have fr1_2 := R1.frozen 2; have kl1_2 := L1.cell 2; have fl1_2 := L1.frozen 2; have kp1_2 := P1.cell 2
  have kr1_3 := R1.cell 3; have fr1_3 := R1.frozen 3; have kl1_3 := L1.cell 3; have fl1_3 := L1.frozen 3; have kp1_3 := P1.cell 3
  have kr1_4 := R1.cell 4; have fr1_4 := R1.frozen 4; have kl1_4 := L1.cell 4; have fl1_4 := L1.frozen 4; have kp1_4 := P1.cell 4
  have kr1_5 := R1.cell 5; have fr1_5 := R1.frozen 5; have kl1_5 := L1.cell 5; have fl1_5 := L1.frozen 5; have kp1_5 := P1.cell 5
  have kr1_6 := R1.cell 6; have fr1_6 := R1.frozen 6; have kl1_6 := L1.cell 6; have fl1_6 := L1.frozen 6; have kp1_6 := P1.cell 6
  go_wp2_with fail
  refine (o_toDesk (tDesk.reach (makeDesk (p := (r4, l5)) hr4 hr5) ?hB) (by omega)).mono ?_
  case hB => exact (belx)
  rintro e w2 ⟨cs2, G2, rfl, hO2, hN2, hb2⟩
  obtain ⟨B4, d4, F4, B5, d5, F5, rfl, hGe2, _, _, o4, _, _, o5⟩ := openODesk hO2
  try dsimp only at *
  subst G2
  have z2 : w.heap.size + 3 ≤ w2.heap.size := Nat.le_trans z1 (by have := hb2.size; simpa using this)
  have hB2 : Below w.heap.size w w2 := bel_trans (belx) hb2
  have R2 : Box w2 (w.heap.size + 1) 71 #[.int .i64 0, .int .i64 0, .slice none 0 0, .slice none 0 0, .slice none 0 0, .slice none 0 0, .slice none 0 0] := Box.below ((R1.far (p := ⟨w.heap.size + 1 + 1, 2, none⟩) (by first | (simp; done) | (simp; omega)) (.slice B2 r2.length d2)).far (p := ⟨w.heap.size + 1 + 1, 3, none⟩) (by first | (simp; done) | (simp; omega)) (.slice B3 l3.length d3)) hb2 (by first | (simp; done) | (simp; omega))
  have L2 : Box w2 (w.heap.size + 1 + 1) 71 #[.int .i64 x0, .int .i64 x1, .slice B2 r2.length d2, .slice B3 l3.length d3, .slice none 0 0, .slice none 0 0, .slice none 0 0] := Box.below (by simpa using ((L1.put 2 (.slice B2 r2.length d2)).put 3 (.slice B3 l3.length d3))) hb2 (by first | (simp; done) | (simp; omega))
  have P2 : Box w2 w.heap.size 137 #[.int .i64 x0, .int .i64 x1, .slice A2 r2.length c2, .slice A3 l3.length c3, .slice A4 r4.length c4, .slice A5 l5.length c5, .slice A6 r6.length c6] := Box.below ((P1.far (p := ⟨w.heap.size + 1 + 1, 2, none⟩) (by first | (simp; done) | (simp; omega)) (.slice B2 r2.length d2)).far (p := ⟨w.heap.size + 1 + 1, 3, none⟩) (by first | (simp; done) | (simp; omega)) (.slice B3 l3.length d3)) hb2 (by first | (simp; done) | (simp; omega))
  replace o2 := Ty.below (t := tHeld.row) (Ty.far (t := tHeld.row) (Ty.far (t := tHeld.row) o2 hM1_2 (p := ⟨w.heap.size + 1 + 1, 2, none⟩) (by first | (simp; done) | (simp; omega)) (.slice B2 r2.length d2)) hM1_2 (p := ⟨w.heap.size + 1 + 1, 3, none⟩) (by first | (simp; done) | (simp; omega)) (.slice B3 l3.length d3)) hb2
  replace o3 := Ty.below (t := tIs) (Ty.far (t := tIs) (Ty.far (t := tIs) o3 hM1_3 (p := ⟨w.heap.size + 1 + 1, 2, none⟩) (by first | (simp; done) | (simp; omega)) (.slice B2 r2.length d2)) hM1_3 (p := ⟨w.heap.size + 1 + 1, 3, none⟩) (by first | (simp; done) | (simp; omega)) (.slice B3 l3.length d3)) hb2
  have hM2 : New (w.heap.size + 3) (F4 ++ F5) := hN2.lower (by simp; omega)
  have hV2 : New w1.heap.size (F4 ++ F5) := hN2.lower (by first | (simp; done) | (simp; omega))
  have zz2 : w1.heap.size ≤ w2.heap.size := by have := hb2.size; simpa using this
  clear hN2
  have hM2_4 : New (w.heap.size + 3) F4 := New.sub hM2 (by intro f hf; simp [hf]) (by have := hM2.1; simp only [List.nodup_append] at this; simp [this])
  have hM2_5 : New (w.heap.size + 3) F5 := New.sub hM2 (by intro f hf; simp [hf]) (by have := hM2.1; simp only [List.nodup_append] at this; simp [this])
  have y2 : ∀ f ∈ F4 ++ F5, f < w2.heap.size := by intro f hf; (try simp only [List.mem_append] at hf); rcases hf with hf | hf <;> first | exact (tWhole.row).lt o4 f hf | exact (tIs).lt o5 f hf
  have kr2_0 := R2.cell 0; have fr2_0 := R2.frozen 0; have kl2_0 := L2.cell 0; have fl2_0 := L2.frozen 0; have kp2_0 := P2.cell 0
  have kr2_1 := R2.cell 1; have fr2_1 := R2.frozen 1; have kl2_1 := L2.cell 1; have fl2_1 := L2.frozen 1; have kp2_1 := P2.cell 1
  have kr2_2 := R2.cell 2; have fr2_2 := R2.frozen 2; have kl2_2 := L2.cell 2; have fl2_2 := L2.frozen 2; have kp2_2 := P2.cell 2
  have kr2_3 := R2.cell 3; have fr2_3 := R2.frozen 3; have kl2_3 := L2.cell 3; have fl2_3 := L2.frozen 3; have kp2_3 := P2.cell 3
  have kr2_4 := R2.cell 4; have fr2_4 := R2.frozen 4; have kl2_4 := L2.cell 4; have fl2_4 := L2.frozen 4; have kp2_4 := P2.cell 4
  have kr2_5 := R2.cell 5; have fr2_5 := R2.frozen 5; have kl2_5 := L2.cell 5; have fl2_5 := L2.frozen 5; have kp2_5 := P2.cell 5
  have kr2_6 := R2.cell 6; have fr2_6 := R2.frozen 6; have kl2_6 := L2.cell 6; have fl2_6 := L2.frozen 6; have kp2_6 := P2.cell 6
  go_wp2_with fail
  refine (o_toLetterS (tLetter.row.reach hr6 ?hB) (by omega)).mono ?_
  case hB => exact (belx)
  rintro e w3 ⟨B6, d6, F6, rfl, o6, hN3, hb3⟩
  have z3 : w.heap.size + 3 ≤ w3.heap.size := Nat.le_trans z2 (by have := hb3.size; simpa using this)
  have hB3 : Below w.heap.size w w3 := bel_trans (belx) hb3
  have R3 : Box w3 (w.heap.size + 1) 71 #[.int .i64 0, .int .i64 0, .slice none 0 0, .slice none 0 0, .slice none 0 0, .slice none 0 0, .slice none 0 0] := Box.below ((R2.far (p := ⟨w.heap.size + 1 + 1, 4, none⟩) (by first | (simp; done) | (simp; omega)) (.slice B4 r4.length d4)).far (p := ⟨w.heap.size + 1 + 1, 5, none⟩) (by first | (simp; done) | (simp; omega)) (.slice B5 l5.length d5)) hb3 (by first | (simp; done) | (simp; omega))
  have L3 : Box w3 (w.heap.size + 1 + 1) 71 #[.int .i64 x0, .int .i64 x1, .slice B2 r2.length d2, .slice B3 l3.length d3, .slice B4 r4.length d4, .slice B5 l5.length d5, .slice none 0 0] := Box.below (by simpa using ((L2.put 4 (.slice B4 r4.length d4)).put 5 (.slice B5 l5.length d5))) hb3 (by first | (simp; done) | (simp; omega))
  have P3 : Box w3 w.heap.size 137 #[.int .i64 x0, .int .i64 x1, .slice A2 r2.length c2, .slice A3 l3.length c3, .slice A4 r4.length c4, .slice A5 l5.length c5, .slice A6 r6.length c6] := Box.below ((P2.far (p := ⟨w.heap.size + 1 + 1, 4, none⟩) (by first | (simp; done) | (simp; omega)) (.slice B4 r4.length d4)).far (p := ⟨w.heap.size + 1 + 1, 5, none⟩) (by first | (simp; done) | (simp; omega)) (.slice B5 l5.length d5)) hb3 (by first | (simp; done) | (simp; omega))
  replace o2 := Ty.below (t := tHeld.row) (Ty.far (t := tHeld.row) (Ty.far (t := tHeld.row) o2 hM1_2 (p := ⟨w.heap.size + 1 + 1, 4, none⟩) (by first | (simp; done) | (simp; omega)) (.slice B4 r4.length d4)) hM1_2 (p := ⟨w.heap.size + 1 + 1, 5, none⟩) (by first | (simp; done) | (simp; omega)) (.slice B5 l5.length d5)) hb3
  replace o3 := Ty.below (t := tIs) (Ty.far (t := tIs) (Ty.far (t := tIs) o3 hM1_3 (p := ⟨w.heap.size + 1 + 1, 4, none⟩) (by first | (simp; done) | (simp; omega)) (.slice B4 r4.length d4)) hM1_3 (p := ⟨w.heap.size + 1 + 1, 5, none⟩) (by first | (simp; done) | (simp; omega)) (.slice B5 l5.length d5)) hb3
  replace o4 := Ty.below (t := tWhole.row) (Ty.far (t := tWhole.row) (Ty.far (t := tWhole.row) o4 hM2_4 (p := ⟨w.heap.size + 1 + 1, 4, none⟩) (by first | (simp; done) | (simp; omega)) (.slice B4 r4.length d4)) hM2_4 (p := ⟨w.heap.size + 1 + 1, 5, none⟩) (by first | (simp; done) | (simp; omega)) (.slice B5 l5.length d5)) hb3
  replace o5 := Ty.below (t := tIs) (Ty.far (t := tIs) (Ty.far (t := tIs) o5 hM2_5 (p := ⟨w.heap.size + 1 + 1, 4, none⟩) (by first | (simp; done) | (simp; omega)) (.slice B4 r4.length d4)) hM2_5 (p := ⟨w.heap.size + 1 + 1, 5, none⟩) (by first | (simp; done) | (simp; omega)) (.slice B5 l5.length d5)) hb3
  have hM3 : New (w.heap.size + 3) (F6) := hN3.lower (by simp; omega)
  have hV3 : New w2.heap.size (F6) := hN3.lower (by first | (simp; done) | (simp; omega))
  have zz3 : w2.heap.size ≤ w3.heap.size := by have := hb3.size; simpa using this
  clear hN3
  have y3 : ∀ f ∈ F6, f < w3.heap.size := by intro f hf; exact tLetter.row.lt o6 f hf
  have kr3_0 := R3.cell 0; have fr3_0 := R3.frozen 0; have kl3_0 := L3.cell 0; have fl3_0 := L3.frozen 0; have kp3_0 := P3.cell 0
  have kr3_1 := R3.cell 1; have fr3_1 := R3.frozen 1; have kl3_1 := L3.cell 1; have fl3_1 := L3.frozen 1; have kp3_1 := P3.cell 1
  have kr3_2 := R3.cell 2; have fr3_2 := R3.frozen 2; have kl3_2 := L3.cell 2; have fl3_2 := L3.frozen 2; have kp3_2 := P3.cell 2
  have kr3_3 := R3.cell 3; have fr3_3 := R3.frozen 3; have kl3_3 := L3.cell 3; have fl3_3 := L3.frozen 3; have kp3_3 := P3.cell 3
  have kr3_4 := R3.cell 4; have fr3_4 := R3.frozen 4; have kl3_4 := L3.cell 4; have fl3_4 := L3.frozen 4; have kp3_4 := P3.cell 4
  have kr3_5 := R3.cell 5; have fr3_5 := R3.frozen 5; have kl3_5 := L3.cell 5; have fl3_5 := L3.frozen 5; have kp3_5 := P3.cell 5
  have kr3_6 := R3.cell 6; have fr3_6 := R3.frozen 6; have kl3_6 := L3.cell 6; have fl3_6 := L3.frozen 6; have kp3_6 := P3.cell 6
  go_wp2
  have RR := ((((((((R3.far (p := ⟨w.heap.size + 1 + 1, 6, none⟩) (by first | (simp; done) | (simp; omega)) (.slice B6 r6.length d6)).put 0 (.int .i64 x0)).put 1 (.int .i64 x1)).put 2 (.slice B2 r2.length d2)).put 3 (.slice B3 l3.length d3)).put 4 (.slice B4 r4.length d4)).put 5 (.slice B5 l5.length d5)).put 6 (.slice B6 r6.length d6))
  have e0 := RR.cell 0
  have e1 := RR.cell 1
  have e2 := RR.cell 2
  have e3 := RR.cell 3
  have e4 := RR.cell 4
  have e5 := RR.cell 5
  have e6 := RR.cell 6
  have u2 := (Ty.far (t := tHeld.row) (Ty.far (t := tHeld.row) (Ty.far (t := tHeld.row) (Ty.far (t := tHeld.row) (Ty.far (t := tHeld.row) (Ty.far (t := tHeld.row) (Ty.far (t := tHeld.row) (Ty.far (t := tHeld.row) o2 hM1_2 (p := ⟨w.heap.size + 1 + 1, 6, none⟩) (by first | (simp; done) | (simp; omega)) (.slice B6 r6.length d6)) hM1_2 (p := ⟨w.heap.size + 1, 0, none⟩) (by first | (simp; done) | (simp; omega)) (.int .i64 x0)) hM1_2 (p := ⟨w.heap.size + 1, 1, none⟩) (by first | (simp; done) | (simp; omega)) (.int .i64 x1)) hM1_2 (p := ⟨w.heap.size + 1, 2, none⟩) (by first | (simp; done) | (simp; omega)) (.slice B2 r2.length d2)) hM1_2 (p := ⟨w.heap.size + 1, 3, none⟩) (by first | (simp; done) | (simp; omega)) (.slice B3 l3.length d3)) hM1_2 (p := ⟨w.heap.size + 1, 4, none⟩) (by first | (simp; done) | (simp; omega)) (.slice B4 r4.length d4)) hM1_2 (p := ⟨w.heap.size + 1, 5, none⟩) (by first | (simp; done) | (simp; omega)) (.slice B5 l5.length d5)) hM1_2 (p := ⟨w.heap.size + 1, 6, none⟩) (by first | (simp; done) | (simp; omega)) (.slice B6 r6.length d6))
  have u3 := (Ty.far (t := tIs) (Ty.far (t := tIs) (Ty.far (t := tIs) (Ty.far (t := tIs) (Ty.far (t := tIs) (Ty.far (t := tIs) (Ty.far (t := tIs) (Ty.far (t := tIs) o3 hM1_3 (p := ⟨w.heap.size + 1 + 1, 6, none⟩) (by first | (simp; done) | (simp; omega)) (.slice B6 r6.length d6)) hM1_3 (p := ⟨w.heap.size + 1, 0, none⟩) (by first | (simp; done) | (simp; omega)) (.int .i64 x0)) hM1_3 (p := ⟨w.heap.size + 1, 1, none⟩) (by first | (simp; done) | (simp; omega)) (.int .i64 x1)) hM1_3 (p := ⟨w.heap.size + 1, 2, none⟩) (by first | (simp; done) | (simp; omega)) (.slice B2 r2.length d2)) hM1_3 (p := ⟨w.heap.size + 1, 3, none⟩) (by first | (simp; done) | (simp; omega)) (.slice B3 l3.length d3)) hM1_3 (p := ⟨w.heap.size + 1, 4, none⟩) (by first | (simp; done) | (simp; omega)) (.slice B4 r4.length d4)) hM1_3 (p := ⟨w.heap.size + 1, 5, none⟩) (by first | (simp; done) | (simp; omega)) (.slice B5 l5.length d5)) hM1_3 (p := ⟨w.heap.size + 1, 6, none⟩) (by first | (simp; done) | (simp; omega)) (.slice B6 r6.length d6))
  have u4 := (Ty.far (t := tWhole.row) (Ty.far (t := tWhole.row) (Ty.far (t := tWhole.row) (Ty.far (t := tWhole.row) (Ty.far (t := tWhole.row) (Ty.far (t := tWhole.row) (Ty.far (t := tWhole.row) (Ty.far (t := tWhole.row) o4 hM2_4 (p := ⟨w.heap.size + 1 + 1, 6, none⟩) (by first | (simp; done) | (simp; omega)) (.slice B6 r6.length d6)) hM2_4 (p := ⟨w.heap.size + 1, 0, none⟩) (by first | (simp; done) | (simp; omega)) (.int .i64 x0)) hM2_4 (p := ⟨w.heap.size + 1, 1, none⟩) (by first | (simp; done) | (simp; omega)) (.int .i64 x1)) hM2_4 (p := ⟨w.heap.size + 1, 2, none⟩) (by first | (simp; done) | (simp; omega)) (.slice B2 r2.length d2)) hM2_4 (p := ⟨w.heap.size + 1, 3, none⟩) (by first | (simp; done) | (simp; omega)) (.slice B3 l3.length d3)) hM2_4 (p := ⟨w.heap.size + 1, 4, none⟩) (by first | (simp; done) | (simp; omega)) (.slice B4 r4.length d4)) hM2_4 (p := ⟨w.heap.size + 1, 5, none⟩) (by first | (simp; done) | (simp; omega)) (.slice B5 l5.length d5)) hM2_4 (p := ⟨w.heap.size + 1, 6, none⟩) (by first | (simp; done) | (simp; omega)) (.slice B6 r6.length d6))
  have u5 := (Ty.far (t := tIs) (Ty.far (t := tIs) (Ty.far (t := tIs) (Ty.far (t := tIs) (Ty.far (t := tIs) (Ty.far (t := tIs) (Ty.far (t := tIs) (Ty.far (t := tIs) o5 hM2_5 (p := ⟨w.heap.size + 1 + 1, 6, none⟩) (by first | (simp; done) | (simp; omega)) (.slice B6 r6.length d6)) hM2_5 (p := ⟨w.heap.size + 1, 0, none⟩) (by first | (simp; done) | (simp; omega)) (.int .i64 x0)) hM2_5 (p := ⟨w.heap.size + 1, 1, none⟩) (by first | (simp; done) | (simp; omega)) (.int .i64 x1)) hM2_5 (p := ⟨w.heap.size + 1, 2, none⟩) (by first | (simp; done) | (simp; omega)) (.slice B2 r2.length d2)) hM2_5 (p := ⟨w.heap.size + 1, 3, none⟩) (by first | (simp; done) | (simp; omega)) (.slice B3 l3.length d3)) hM2_5 (p := ⟨w.heap.size + 1, 4, none⟩) (by first | (simp; done) | (simp; omega)) (.slice B4 r4.length d4)) hM2_5 (p := ⟨w.heap.size + 1, 5, none⟩) (by first | (simp; done) | (simp; omega)) (.slice B5 l5.length d5)) hM2_5 (p := ⟨w.heap.size + 1, 6, none⟩) (by first | (simp; done) | (simp; omega)) (.slice B6 r6.length d6))
  have u6 := (Ty.far (t := tLetter.row) (Ty.far (t := tLetter.row) (Ty.far (t := tLetter.row) (Ty.far (t := tLetter.row) (Ty.far (t := tLetter.row) (Ty.far (t := tLetter.row) (Ty.far (t := tLetter.row) (Ty.far (t := tLetter.row) o6 hM3 (p := ⟨w.heap.size + 1 + 1, 6, none⟩) (by first | (simp; done) | (simp; omega)) (.slice B6 r6.length d6)) hM3 (p := ⟨w.heap.size + 1, 0, none⟩) (by first | (simp; done) | (simp; omega)) (.int .i64 x0)) hM3 (p := ⟨w.heap.size + 1, 1, none⟩) (by first | (simp; done) | (simp; omega)) (.int .i64 x1)) hM3 (p := ⟨w.heap.size + 1, 2, none⟩) (by first | (simp; done) | (simp; omega)) (.slice B2 r2.length d2)) hM3 (p := ⟨w.heap.size + 1, 3, none⟩) (by first | (simp; done) | (simp; omega)) (.slice B3 l3.length d3)) hM3 (p := ⟨w.heap.size + 1, 4, none⟩) (by first | (simp; done) | (simp; omega)) (.slice B4 r4.length d4)) hM3 (p := ⟨w.heap.size + 1, 5, none⟩) (by first | (simp; done) | (simp; omega)) (.slice B5 l5.length d5)) hM3 (p := ⟨w.heap.size + 1, 6, none⟩) (by first | (simp; done) | (simp; omega)) (.slice B6 r6.length d6))
  obtain ⟨F, hF, hFe⟩ := makeONode (p := (x0, x1, (r2, l3), (r4, l5), r6)) hi0 hi1 u2 u3 u4 u5 u6
  refine bodyPost_ret (v := .agg #[.int .i64 x0, .int .i64 x1, .slice B2 r2.length d2, .slice B3 l3.length d3, .slice B4 r4.length d4, .slice B5 l5.length d5, .slice B6 r6.length d6]) (by simp [results, Tryz.results110, go_sem, e0, e1, e2, e3, e4, e5, e6]) rfl ⟨_, F, rfl, hF, ?_, ?_⟩
  · rw [hFe]
    exact New.lower (B := w.heap.size + 3) (by have hh := (New.app (New.app hM1 hV2 (by omega) y1) hV3 (by omega) (fun f hf => by rcases List.mem_append.1 hf with h | h; have := y1 f h; omega; exact y2 f h)); simp only [List.append_assoc] at hh ⊢; exact hh) (by omega)
  · exact (bel_put (bel_put (bel_put (bel_put (bel_put (bel_put (bel_put (bel_put hB3 (by first | (simp; done) | (simp; omega)) _) (by first | (simp; done) | (simp; omega)) _) (by first | (simp; done) | (simp; omega)) _) (by first | (simp; done) | (simp; omega)) _) (by first | (simp; done) | (simp; omega)) _) (by first | (simp; done) | (simp; omega)) _) (by first | (simp; done) | (simp; omega)) _) (by first | (simp; done) | (simp; omega)) _)
theorem o_eqNode {w : World} {cs cs' : List Value} {p : DNode} (h : tNode.R w w.heap.size cs p) (h' : tNode.R w w.heap.size cs' p) :
    Calls Tryz.prog 120 #[.agg cs.toArray, .agg cs'.toArray] w fun e w' => e = .returned (.bool true) ∧ Below w.heap.size w w' := by
  obtain ⟨A2, n2, c2, A3, n3, c3, A4, n4, c4, A5, n5, c5, A6, n6, c6, rfl, hi0, hi1, ha2, hb2, hl2, hr2, ha3, hb3, hl3, hr3, ha4, hb4, hl4, hr4, ha5, hb5, hl5, hr5, ha6, hb6, hl6, hr6⟩ := openNode h
  obtain ⟨A2', n2', c2', A3', n3', c3', A4', n4', c4', A5', n5', c5', A6', n6', c6', rfl, hi0', hi1', ha2', hb2', hl2', hr2', ha3', hb3', hl3', hr3', ha4', hb4', hl4', hr4', ha5', hb5', hl5', hr5', ha6', hb6', hl6', hr6'⟩ := openNode h'
  obtain ⟨x0, x1, ⟨r2, l3⟩, ⟨r4, l5⟩, r6⟩ := p
  try dsimp only at *
  subst hl2
  subst hl2'
  subst hl3
  subst hl3'
  subst hl4
  subst hl4'
  subst hl5
  subst hl5'
  subst hl6
  subst hl6'
  have q0 : (x0 != x0) = false := by simp
  have q1 : (x1 != x1) = false := by simp
  go_enter Tryz.func120, Tryz.ntmps120
  go_wp2_with fail
  refine (o_eqPool (tPool.reach (makePool (p := (r2, l3)) hr2 hr3) ?hB) (tPool.reach (makePool (p := (r2, l3)) hr2' hr3') ?hB)).mono ?_
  case hB => exact (belx)
  rintro e w1 ⟨rfl, hb1⟩
  have hB1 : Below w.heap.size w w1 := bel_trans (belx) hb1
  have P1 : Box w1 w.heap.size 71 #[.int .i64 x0, .int .i64 x1, .slice A2 r2.length c2, .slice A3 l3.length c3, .slice A4 r4.length c4, .slice A5 l5.length c5, .slice A6 r6.length c6] := ((Box.new _ _ _).alloc _).below hb1 (by first | (simp; done) | (simp; omega))
  have Q1 : Box w1 (w.heap.size + 1) 71 #[.int .i64 x0, .int .i64 x1, .slice A2' r2.length c2', .slice A3' l3.length c3', .slice A4' r4.length c4', .slice A5' l5.length c5', .slice A6' r6.length c6'] := Box.below (by simpa using Box.new (w.alloc _) 71 #[.int .i64 x0, .int .i64 x1, .slice A2' r2.length c2', .slice A3' l3.length c3', .slice A4' r4.length c4', .slice A5' l5.length c5', .slice A6' r6.length c6']) hb1 (by first | (simp; done) | (simp; omega))
  have e0_4 := P1.cell 4
  have e0_4q := Q1.cell 4
  have e0_5 := P1.cell 5
  have e0_5q := Q1.cell 5
  go_wp2_with fail
  refine (o_eqDesk (tDesk.reach (makeDesk (p := (r4, l5)) hr4 hr5) ?hB) (tDesk.reach (makeDesk (p := (r4, l5)) hr4' hr5') ?hB)).mono ?_
  case hB => exact (belx)
  rintro e w2 ⟨rfl, hb2⟩
  have hB2 : Below w.heap.size w w2 := bel_trans (belx) hb2
  have P2 := P1.below hb2 P1.size
  have Q2 := Q1.below hb2 Q1.size
  have e1_6 := P2.cell 6
  have e1_6q := Q2.cell 6
  go_wp2_with fail
  refine (o_eqLetterS (tLetter.row.reach hr6 ?hB) (tLetter.row.reach hr6' ?hB)).mono ?_
  case hB => exact (belx)
  rintro e w3 ⟨rfl, hb3⟩
  have hB3 : Below w.heap.size w w3 := bel_trans (belx) hb3
  have P3 := P2.below hb3 P2.size
  have Q3 := Q2.below hb3 Q2.size
  go_wp2
  go_ret
  exact ⟨rfl, hB3⟩
theorem fopenNode {w : World} {B : Nat} {cs : List Value} {p : DNode} (h : tNode.R w B cs p) : ∃ A2 n2 c2 A3 n3 c3 A4 n4 c4 A5 n5 c5 A6 n6 c6, cs = [.int .i64 (p.1), .int .i64 (p.2.1), .slice A2 n2 c2, .slice A3 n3 c3, .slice A4 n4 c4, .slice A5 n5 c5, .slice A6 n6 c6] ∧ (Lit.int .i64 (p.1)).wf = true ∧ (Lit.int .i64 (p.2.1)).wf = true ∧ (tPool).R w B [.slice A2 n2 c2, .slice A3 n3 c3] (p.2.2.1) ∧ (tDesk).R w B [.slice A4 n4 c4, .slice A5 n5 c5] (p.2.2.2.1) ∧ (tLetter.row).R w B [.slice A6 n6 c6] (p.2.2.2.2) := by
  obtain ⟨ca0, cb0, rfl, ha0, hb0⟩ := h
  obtain ⟨rfl, hi0⟩ := ha0
  obtain ⟨ca1, cb1, rfl, ha1, hb1⟩ := hb0
  obtain ⟨rfl, hi1⟩ := ha1
  obtain ⟨ca2, cb2, rfl, ha2, hb2⟩ := hb1
  have hk2 := ha2
  obtain ⟨A2, n2, c2, A3, n3, c3, rfl, -, -, -, -, -, -, -, -⟩ := openPool ha2
  obtain ⟨ca3, cb3, rfl, ha3, hb3⟩ := hb2
  have hk4 := ha3
  obtain ⟨A4, n4, c4, A5, n5, c5, rfl, -, -, -, -, -, -, -, -⟩ := openDesk ha3
  have hk6 := hb3
  obtain ⟨A6, n6, c6, rfl, -, -, -⟩ := row_one hb3
  exact ⟨A2, n2, c2, A3, n3, c3, A4, n4, c4, A5, n5, c5, A6, n6, c6, rfl, hi0, hi1, hk2, hk4, hk6⟩
end Go.Proofs.YteokfenoomcogaaGreat
