/-
  LPieceS, LWhole, LWholeS, LDesk, GrowM, PDeskI: texts joined.
-/
import Derived.Test.YtojbicecopkfbaaKGe
import Derived.Test.YtojbicecopkfbaaKGg
import Derived.BigQuiet
import Derived.Deep.QuietTactic
import Derived.Deep.RegionHeld3
namespace Go.Proofs.Ytojbicecopkfbaa
set_option maxRecDepth 100000
set_option linter.unusedVariables false
set_option linter.unusedSimpArgs false
open Go.ChangeShapes Go.WideShapes Go.ChangeAt Go.RowKit
theorem o_szPieceS_t {w : World} {n c : Nat} {A : Option Addr} {l : List DPiece} {k : Int} (h : tPiece.row.R w w.heap.size [.slice A n c] l) (h1 : 0 ≤ k) (h2 : k ≤ 1048576) (h3 : (rsz szPiece l : Int) ≤ k) :
    Calls Try.prog 138 #[.slice A n c, .int .i64 k] w fun e w' => e = .returned (.int .i64 (k - rsz szPiece l)) ∧ Below w.heap.size w w' := by
  obtain ⟨hln, hnc, hcm⟩ := rowR_len h
  obtain ⟨s, hs⟩ : ∃ s, rsum szPiece l = s := ⟨_, rfl⟩
  have hz : rsz szPiece l = n + s := by unfold rsz; rw [hln, hs]
  rw [hz] at h3 ⊢
  have HLN := Lib.hid hln
  have HS := Lib.hid hs
  clear hz hln hs
  have d : decide (k - (n : Int) < 0) = false := by simp; omega
  go_enter Try.func138, Try.ntmps138
  go_wp2_with fail
  go_loopw [1, 5] (fun x i wr => ∃ j : Nat, j ≤ n ∧ x = .int .i64 (k - n - (rsum szPiece (l.take j) : Nat)) ∧ i = .int .i64 j ∧ Below w.heap.size w wr) (fun _ i _ => n - (intOf i).toNat)
  case atStart => exact ⟨0, by omega, by rw [rsum_zero]; go_num, rfl, (belx)⟩
  case round =>
    obtain ⟨j, hj, rfl, rfl, hB⟩ := hrel
    by_cases hlt : j < n
    · obtain ⟨a, b, off, es, hl, rfl, hb, hes, hR⟩ := rowR_at (K := 4) h hlt rfl
      have hsa := rsum_at (c := szPiece) hl
      have hsn := rsum_sn (c := szPiece) hl
      rw [HS.out] at hsa
      obtain ⟨q, hq⟩ : ∃ q, rsum szPiece (l.take j) = q := ⟨_, rfl⟩
      obtain ⟨q', hq'⟩ : ∃ q, rsum szPiece (l.take (j + 1)) = q := ⟨_, rfl⟩
      rw [hq] at hsa hsn
      rw [hq'] at hsn
      rw [hq]
      have HQ := Lib.hid hq'
      clear hq hq'
      obtain ⟨A3, n3, c3, rfl, hi0, hi1, hi2, ha3, hb3, hl3, hr3⟩ := openPiece hR
      have e0 : wr.cell? ⟨b, off + j * 4, none⟩ = some (.int .i64 (a.1)) := cell_at hB hb (hes 0 (by omega))
      have e1 : wr.cell? ⟨b, off + j * 4 + 1, none⟩ = some (.int .i64 (a.2.1)) := cell_at hB hb (hes 1 (by omega))
      have e2 : wr.cell? ⟨b, off + j * 4 + 2, none⟩ = some (.int .i64 (a.2.2.1)) := cell_at hB hb (hes 2 (by omega))
      have e3 : wr.cell? ⟨b, off + j * 4 + 3, none⟩ = some (.slice A3 n3 c3) := cell_at hB hb (hes 3 (by omega))
      clear hes
      have d2 : decide (k - (n : Int) - q - (szPiece a : Nat) < 0) = false := by simp; omega
      go_wp2_with fail
      refine (o_szPiece_t (tPiece.reach hR ?hB) (by omega) (by omega) (by omega)).mono ?_
      case hB => exact (belx)
      rintro e w1 ⟨rfl, hb1⟩
      go_wp2
      go_roundw
      case rel => exact ⟨j + 1, by omega, by rw [HQ.out]; go_num, by go_num, bel_trans hB hb1⟩
      case measure => simp [intOf]; omega
    · obtain rfl : j = n := by omega
      have HA := Lib.hid (show rsum szPiece (l.take j) = s from by rw [rsum_all (Nat.le_of_eq HLN.out)]; exact HS.out)
      rw [HA.out]
      go_wp2
      go_ret
      exact ⟨ret_int (by omega), hB⟩
theorem o_szPieceS_f {w : World} {n c : Nat} {A : Option Addr} {l : List DPiece} {k : Int} (h : tPiece.row.R w w.heap.size [.slice A n c] l) (h1 : 0 ≤ k) (h2 : k ≤ 1048576) (h3 : ¬ (rsz szPiece l : Int) ≤ k) :
    Calls Try.prog 138 #[.slice A n c, .int .i64 k] w fun e w' => e = .returned (.int .i64 (-1)) ∧ Below w.heap.size w w' := by
  obtain ⟨hln, hnc, hcm⟩ := rowR_len h
  obtain ⟨s, hs⟩ : ∃ s, rsum szPiece l = s := ⟨_, rfl⟩
  have hz : rsz szPiece l = n + s := by unfold rsz; rw [hln, hs]
  rw [hz] at h3
  have HLN := Lib.hid hln
  have HS := Lib.hid hs
  clear hz hln hs
  by_cases hnk : k < (n : Int)
  · have d : decide (k - (n : Int) < 0) = true := by simp; omega
    go_enter Try.func138, Try.ntmps138
    go_wp2
    go_ret
    exact ⟨rfl, (belx)⟩
  have d : decide (k - (n : Int) < 0) = false := by simp; omega
  go_enter Try.func138, Try.ntmps138
  go_wp2_with fail
  go_loopw [1, 5] (fun x i wr => ∃ j : Nat, j ≤ n ∧ x = .int .i64 (k - n - (rsum szPiece (l.take j) : Nat)) ∧ i = .int .i64 j ∧ Below w.heap.size w wr ∧ (n : Int) + (rsum szPiece (l.take j) : Nat) ≤ k) (fun _ i _ => n - (intOf i).toNat)
  case atStart => exact ⟨0, by omega, by rw [rsum_zero]; go_num, rfl, (belx), by rw [rsum_zero]; omega⟩
  case round =>
    obtain ⟨j, hj, rfl, rfl, hB, hv⟩ := hrel
    by_cases hlt : j < n
    · obtain ⟨a, b, off, es, hl, rfl, hb, hes, hR⟩ := rowR_at (K := 4) h hlt rfl
      have hsa := rsum_at (c := szPiece) hl
      have hsn := rsum_sn (c := szPiece) hl
      rw [HS.out] at hsa
      obtain ⟨q, hq⟩ : ∃ q, rsum szPiece (l.take j) = q := ⟨_, rfl⟩
      obtain ⟨q', hq'⟩ : ∃ q, rsum szPiece (l.take (j + 1)) = q := ⟨_, rfl⟩
      rw [hq] at hsa hsn
      rw [hq'] at hsn
      rw [hq]
      have HQ := Lib.hid hq'
      rw [hq] at hv
      clear hq hq'
      obtain ⟨A3, n3, c3, rfl, hi0, hi1, hi2, ha3, hb3, hl3, hr3⟩ := openPiece hR
      have e0 : wr.cell? ⟨b, off + j * 4, none⟩ = some (.int .i64 (a.1)) := cell_at hB hb (hes 0 (by omega))
      have e1 : wr.cell? ⟨b, off + j * 4 + 1, none⟩ = some (.int .i64 (a.2.1)) := cell_at hB hb (hes 1 (by omega))
      have e2 : wr.cell? ⟨b, off + j * 4 + 2, none⟩ = some (.int .i64 (a.2.2.1)) := cell_at hB hb (hes 2 (by omega))
      have e3 : wr.cell? ⟨b, off + j * 4 + 3, none⟩ = some (.slice A3 n3 c3) := cell_at hB hb (hes 3 (by omega))
      clear hes
      by_cases hg : (n : Int) + q + (szPiece a : Nat) ≤ k
      · have d2 : decide (k - (n : Int) - q - (szPiece a : Nat) < 0) = false := by simp; omega
        go_wp2_with fail
        refine (o_szPiece_t (tPiece.reach hR ?hB) (by omega) (by omega) (by omega)).mono ?_
        case hB => exact (belx)
        rintro e w1 ⟨rfl, hb1⟩
        go_wp2
        go_roundw
        case rel => exact ⟨j + 1, by omega, by rw [HQ.out]; go_num, by go_num, bel_trans hB hb1, by rw [HQ.out]; omega⟩
        case measure => simp [intOf]; omega
      · go_wp2_with fail
        refine (o_szPiece_f (tPiece.reach hR ?hB) (by omega) (by omega) (by omega)).mono ?_
        case hB => exact (belx)
        rintro e w1 ⟨rfl, hb1⟩
        go_wp2
        go_ret
        exact ⟨rfl, bel_trans hB hb1⟩
    · obtain rfl : j = n := by omega
      have HA := Lib.hid (show rsum szPiece (l.take j) = s from by rw [rsum_all (Nat.le_of_eq HLN.out)]; exact HS.out)
      rw [HA.out] at hv
      exact absurd hv (by omega)
theorem info_Piece : (Try.prog.info? 123).map (fun i => (i.zero, i.size, i.bytes)) = some (some (.agg #[.int .i64 0, .int .i64 0, .int .i64 0, .slice none 0 0]), 4, 48) := by kernel_rfl
set_option maxHeartbeats 800000 in
theorem o_toPieceS {w : World} {n c : Nat} {A : Option Addr} {l : List DPiece} (h : tPiece.row.R w w.heap.size [.slice A n c] l) (hz : rsz szPiece l ≤ 1048576) :
    Calls Try.prog 139 #[.slice A n c] w fun e w' => ∃ A' c' F, e = .returned (.slice A' l.length c') ∧ tPiece.row.O w' [.slice A' l.length c'] l F ∧ New w.heap.size F ∧ Below w.heap.size w w' := by
  obtain ⟨i0, hi0, hz0, hz1, hz2⟩ := info_parts info_Piece
  obtain ⟨hln, hnc, hcm⟩ := rowR_len h
  have hn : n ≤ 1048576 := by have := rsz_le (s := szPiece) l; omega
  have HLN := Lib.hid hln
  have HZ := Lib.hid hz
  clear hln hz
  go_enter Try.func139, Try.ntmps139
  go_wp2_with (at_make; refine wpList_mkS _ rfl (.tmp 6) (.tmp 6) _ rfl 123 i0 _ 4 Try.underlying75 hi0 hz0 hz1 n rfl rfl (by rw [hz2]; omega) (by simp only [maxLen]; omega) ?_; intro w1 cur hcur hsz hB1 hgr)
  go_loopw [4] (fun i wr => ∃ j : Nat, j ≤ n ∧ i = .int .i64 j ∧ Below w.heap.size w wr ∧ ∃ F, Fill tPiece wr w.heap.size 123 n (l.take j) F ∧ New (w.heap.size + 1) F) (fun i _ => n - (intOf i).toNat)
  case atStart => exact ⟨0, by omega, rfl, hB1, [], Fill.start hcur hsz, New.nil _⟩
  case round =>
    obtain ⟨j, hj, rfl, hB, F, hf, hN⟩ := hrel
    by_cases hlt : j < n
    · obtain ⟨a, b, off, es, hl, rfl, hb, hes, hR⟩ := rowR_at (K := 4) h hlt rfl
      have HT := Lib.hid (take_sn hl)
      have HLT := Lib.hid (show (l.take j).length = j from by rw [List.length_take, HLN.out]; omega)
      have hsa : szPiece a ≤ 1048576 := by have := rsz_step (s := szPiece) hl; have := HZ.out; omega
      obtain ⟨A3, n3, c3, rfl, hi0, hi1, hi2, ha3, hb3, hl3, hr3⟩ := openPiece hR
      subst hl3
      have e0 : wr.cell? ⟨b, off + j * 4, none⟩ = some (.int .i64 (a.1)) := cell_at hB hb (hes 0 (by omega))
      have e1 : wr.cell? ⟨b, off + j * 4 + 1, none⟩ = some (.int .i64 (a.2.1)) := cell_at hB hb (hes 1 (by omega))
      have e2 : wr.cell? ⟨b, off + j * 4 + 2, none⟩ = some (.int .i64 (a.2.2.1)) := cell_at hB hb (hes 2 (by omega))
      have e3 : wr.cell? ⟨b, off + j * 4 + 3, none⟩ = some (.slice A3 (a.2.2.2).length c3) := cell_at hB hb (hes 3 (by omega))
      clear hes
      have hgs := hf.size
      go_wp2_with fail
      refine (o_toPiece (tPiece.reach hR ?hB) hsa).mono ?_
      case hB => exact (belx)
      rintro e w2 ⟨cs2, F2, rfl, hO2, hN2, hb2⟩
      obtain ⟨B3, d3, G3, rfl, hFe, _, _, _, _, _, _⟩ := openOPiece hO2
      clear hFe
      have hf2 := hf.below hb2
      have hsz2 := hb2.size
      have hP := Fill.push (K := 4) hf2 (by rw [HLT.out]; exact hlt) hO2 (hN.not (by omega)) (hN2.not hgs) rfl
      rw [HLT.out, ← HT.out] at hP
      have hM : New (w.heap.size + 1) (F ++ F2) := New.app hN hN2 (by omega) hf.lt
      obtain ⟨u0, k0⟩ := hf2.cell (K := 4) (j := 0) (by rw [HLT.out]; exact hlt) rfl (by omega)
      rw [HLT.out] at k0
      replace k0 : w2.cell? ⟨w.heap.size, j * 4, none⟩ = some u0 := k0
      have f0 := hf2.frozen (j * 4)
      obtain ⟨u1, k1⟩ := hf2.cell (K := 4) (j := 1) (by rw [HLT.out]; exact hlt) rfl (by omega)
      rw [HLT.out] at k1
      replace k1 : w2.cell? ⟨w.heap.size, j * 4 + 1, none⟩ = some u1 := k1
      have f1 := hf2.frozen (j * 4 + 1)
      obtain ⟨u2, k2⟩ := hf2.cell (K := 4) (j := 2) (by rw [HLT.out]; exact hlt) rfl (by omega)
      rw [HLT.out] at k2
      replace k2 : w2.cell? ⟨w.heap.size, j * 4 + 2, none⟩ = some u2 := k2
      have f2 := hf2.frozen (j * 4 + 2)
      obtain ⟨u3, k3⟩ := hf2.cell (K := 4) (j := 3) (by rw [HLT.out]; exact hlt) rfl (by omega)
      rw [HLT.out] at k3
      replace k3 : w2.cell? ⟨w.heap.size, j * 4 + 3, none⟩ = some u3 := k3
      have f3 := hf2.frozen (j * 4 + 3)
      go_wp2
      go_roundw
      case rel => exact ⟨j + 1, by omega, by go_num, below_puts (bel_trans hB hb2) (Nat.le_refl _) (off := j * 4) (vs := [.int .i64 (a.1), .int .i64 (a.2.1), .int .i64 (a.2.2.1), .slice B3 (a.2.2.2).length d3]), _, hP, hM⟩
      case measure => simp [intOf]; omega
    · obtain rfl : j = n := by omega
      have HA := Lib.hid (show l.take j = l from by rw [List.take_of_length_le (Nat.le_of_eq HLN.out)])
      rw [HA.out] at hf
      obtain ⟨F2, hF2, hor⟩ := hf.done HLN.out (by omega)
      have HN := Lib.hid HLN.out
      go_wp2
      go_ret
      refine ⟨some ⟨w.heap.size, 0, none⟩, j, F2, ?_, hF2, hN.cons hor, hB⟩
      rw [HN.out]
      rfl
set_option maxHeartbeats 800000 in
theorem o_eqPieceS {w : World} {n m c d : Nat} {A A' : Option Addr} {l : List DPiece} (h : tPiece.row.R w w.heap.size [.slice A n c] l) (h' : tPiece.row.R w w.heap.size [.slice A' m d] l) :
    Calls Try.prog 152 #[.slice A n c, .slice A' m d] w fun e w' => e = .returned (.bool true) ∧ Below w.heap.size w w' := by
  obtain ⟨hln, hnc, hcm⟩ := rowR_len h
  obtain ⟨hln', hnc', hcm'⟩ := rowR_len h'
  obtain rfl : m = n := by omega
  have HLN := Lib.hid hln
  clear hln hln'
  go_enter Try.func152, Try.ntmps152
  go_wp2_with fail
  go_loopw [5] (fun i wr => ∃ j : Nat, j ≤ m ∧ i = .int .i64 j ∧ Below w.heap.size w wr) (fun i _ => m - (intOf i).toNat)
  case atStart => exact ⟨0, by omega, rfl, (belx)⟩
  case round =>
    obtain ⟨j, hj, rfl, hB⟩ := hrel
    by_cases hlt : j < m
    · obtain ⟨a, b, off, es, hl, rfl, hb, hes, hR⟩ := rowR_at (K := 4) h hlt rfl
      obtain ⟨a', b', off', es', hl', rfl, hb', hes', hR'⟩ := rowR_at (K := 4) h' hlt rfl
      obtain rfl : a = a' := by rw [hl] at hl'; exact Option.some.inj hl'
      clear hl hl'
      obtain ⟨A3, n3, c3, rfl, hi0, hi1, hi2, ha3, hb3, hl3, hr3⟩ := openPiece hR
      obtain ⟨A3', n3', c3', rfl, hi0', hi1', hi2', ha3', hb3', hl3', hr3'⟩ := openPiece hR'
      subst hl3
      subst hl3'
      have e0 : wr.cell? ⟨b, off + j * 4, none⟩ = some (.int .i64 (a.1)) := cell_at hB hb (hes 0 (by omega))
      have e1 : wr.cell? ⟨b, off + j * 4 + 1, none⟩ = some (.int .i64 (a.2.1)) := cell_at hB hb (hes 1 (by omega))
      have e2 : wr.cell? ⟨b, off + j * 4 + 2, none⟩ = some (.int .i64 (a.2.2.1)) := cell_at hB hb (hes 2 (by omega))
      have e3 : wr.cell? ⟨b, off + j * 4 + 3, none⟩ = some (.slice A3 (a.2.2.2).length c3) := cell_at hB hb (hes 3 (by omega))
      have e0' : wr.cell? ⟨b', off' + j * 4, none⟩ = some (.int .i64 (a.1)) := cell_at hB hb' (hes' 0 (by omega))
      have e1' : wr.cell? ⟨b', off' + j * 4 + 1, none⟩ = some (.int .i64 (a.2.1)) := cell_at hB hb' (hes' 1 (by omega))
      have e2' : wr.cell? ⟨b', off' + j * 4 + 2, none⟩ = some (.int .i64 (a.2.2.1)) := cell_at hB hb' (hes' 2 (by omega))
      have e3' : wr.cell? ⟨b', off' + j * 4 + 3, none⟩ = some (.slice A3' (a.2.2.2).length c3') := cell_at hB hb' (hes' 3 (by omega))
      clear hes hes'
      go_wp2_with fail
      go_region_held3 (fun w' => w'.cell? ⟨b, off + j * 4, none⟩ = some (.int .i64 (a.1)) ∧ w'.cell? ⟨b, off + j * 4 + 1, none⟩ = some (.int .i64 (a.2.1)) ∧ w'.cell? ⟨b, off + j * 4 + 2, none⟩ = some (.int .i64 (a.2.2.1)) ∧ w'.cell? ⟨b, off + j * 4 + 3, none⟩ = some (.slice A3 (a.2.2.2).length c3) ∧ w'.cell? ⟨b', off' + j * 4, none⟩ = some (.int .i64 (a.1)) ∧ w'.cell? ⟨b', off' + j * 4 + 1, none⟩ = some (.int .i64 (a.2.1)) ∧ w'.cell? ⟨b', off' + j * 4 + 2, none⟩ = some (.int .i64 (a.2.2.1)) ∧ w'.cell? ⟨b', off' + j * 4 + 3, none⟩ = some (.slice A3' (a.2.2.2).length c3')) (first | (exact ⟨e0, e1, e2, e3, e0', e1', e2', e3'⟩) | (exact ⟨cell_bel hs2 e0, cell_bel hs2 e1, cell_bel hs2 e2, cell_bel hs2 e3, cell_bel hs2 e0', cell_bel hs2 e1', cell_bel hs2 e2', cell_bel hs2 e3'⟩) | go_keep)
        ((go_at_call 178; refine (o_eqPiece (tPiece.reach hR (belx)) (tPiece.reach hR' (belx))).mono ?_; rintro e w2 ⟨rfl, hb2⟩; have hs2 : Below wr.heap.size wr w2 := bel_trans (belx) hb2))
      go_wp2
      go_roundw
      case rel => exact ⟨j + 1, by omega, by go_num, bel_trans hB hs2⟩
      case measure => simp [intOf]; omega
    · obtain rfl : j = m := by omega
      go_wp2
      go_ret
      exact ⟨rfl, hB⟩
set_option maxHeartbeats 1000000 in
theorem o_markPieceS {w : World} {n c : Nat} {A : Option Addr} {l : List DPiece} {F : List Nat} (k : Int) (h : tPiece.row.O w [.slice A n c] l F) (hF : F.Nodup) (h0 : 0 ≤ k) (hk : k + rsum rcPiece l ≤ 4611686018427387904) :
    Calls Try.prog 101 #[.slice A n c, .int .i64 k] w fun e w' => e = .returned (.int .i64 (k + rsum rcPiece l)) ∧ tPiece.row.O w' [.slice A n c] (rmk rcPiece rmPiece k l) F ∧ Only F w w' := by
  obtain ⟨_, _, hsh, hnc, hcm⟩ := rowO_shape h
  have hln : l.length = n := by injection hsh with _ e2 _; exact e2.symm
  have hnc2 : n ≤ 9223372036854775807 := by omega
  clear hsh hnc hcm
  obtain ⟨s, hs⟩ : ∃ s, rsum rcPiece l = s := ⟨_, rfl⟩
  rw [hs] at hk ⊢
  have HLN := Lib.hid hln
  have HS := Lib.hid hs
  clear hln hs
  go_enter Try.func101, Try.ntmps101
  go_wp2
  go_loopw [1, 5] (fun x i wr => ∃ j : Nat, j ≤ n ∧ x = .int .i64 (k + (rsum rcPiece (l.take j) : Nat)) ∧ i = .int .i64 j ∧ tPiece.row.O wr [.slice A n c] (rpart rcPiece rmPiece k l j) F ∧ Only F w wr) (fun _ i _ => n - (intOf i).toNat)
  case atStart => exact ⟨0, by omega, by rw [rsum_zero]; go_num, rfl, by rw [rpart_zero]; exact h, Only.refl _ _⟩
  case round =>
    obtain ⟨j, hj, rfl, rfl, hO, hG⟩ := hrel
    by_cases hlt : j < n
    · obtain ⟨a, hl⟩ : ∃ a, l[j]? = some a := ⟨_, List.getElem?_eq_getElem (by rw [HLN.out]; exact hlt)⟩
      have HP := Lib.hid (rpart_set (c := rcPiece) (m := rmPiece) (k := k) hl)
      have hat := rpart_at (c := rcPiece) (m := rmPiece) (k := k) hl
      have hsa := rsum_at (c := rcPiece) hl
      have hsn := rsum_sn (c := rcPiece) hl
      rw [HS.out] at hsa
      obtain ⟨q, hq⟩ : ∃ q, rsum rcPiece (l.take j) = q := ⟨_, rfl⟩
      obtain ⟨q', hq'⟩ : ∃ q, rsum rcPiece (l.take (j + 1)) = q := ⟨_, rfl⟩
      rw [hq] at hsa hsn
      rw [hq'] at hsn
      rw [hq]
      have HQ := Lib.hid hq'
      have HQ2 := Lib.hid hq
      clear hq hq'
      dsimp only [rcPiece] at hsa hsn
      obtain ⟨g, off, cur, et, es, Fi, rfl, hcur, hes, hOe, hgF, hgi, hFi, hnd, hback⟩ := rowO_at (K := 4) hO hF hat rfl
      obtain ⟨A3, c3, F3, rfl, hFe, hi0, hi1, hi2, ha3, hb3, hr3⟩ := openOPiece hOe
      subst Fi
      obtain ⟨x0, x1, x2, l3⟩ := a
      dsimp only at *
      have e0 : wr.cell? ⟨g, off + j * 4, none⟩ = some (.int .i64 x0) := by rw [Box.cell (t := et) hcur]; exact hes 0 (by omega)
      have f0 : wr.frozen? ⟨g, off + j * 4, none⟩ = false := Box.frozen (t := et) hcur _
      have e1 : wr.cell? ⟨g, off + j * 4 + 1, none⟩ = some (.int .i64 x1) := by rw [Box.cell (t := et) hcur]; exact hes 1 (by omega)
      have f1 : wr.frozen? ⟨g, off + j * 4 + 1, none⟩ = false := Box.frozen (t := et) hcur _
      have e2 : wr.cell? ⟨g, off + j * 4 + 2, none⟩ = some (.int .i64 x2) := by rw [Box.cell (t := et) hcur]; exact hes 2 (by omega)
      have f2 : wr.frozen? ⟨g, off + j * 4 + 2, none⟩ = false := Box.frozen (t := et) hcur _
      have e3 : wr.cell? ⟨g, off + j * 4 + 3, none⟩ = some (.slice A3 l3.length c3) := by rw [Box.cell (t := et) hcur]; exact hes 3 (by omega)
      have f3 : wr.frozen? ⟨g, off + j * 4 + 3, none⟩ = false := Box.frozen (t := et) hcur _
      obtain ⟨cur1, hX0, hcs, hun, hval⟩ := puts_heap (off := off + j * 4) (vs := [.int .i64 (k + (q : Int)), .int .i64 (k + (q : Int) + 1), .int .i64 (k + (q : Int) + 1 + 1)]) hcur
      dsimp only [List.length_cons, List.length_nil] at hun hval
      have hcz : ∀ i, i < 4 → off + j * 4 + i < cur.size := fun i hi => by
        by_cases hh : off + j * 4 + i < cur.size
        · exact hh
        · have := hes i hi; rw [Array.getElem?_eq_none (by omega)] at this; rcases (by omega : i = 0 ∨ i = 1 ∨ i = 2 ∨ i = 3) with rfl | rfl | rfl | rfl <;> simp at this
      have hgz : g < (puts wr g (off + j * 4) [.int .i64 (k + (q : Int)), .int .i64 (k + (q : Int) + 1), .int .i64 (k + (q : Int) + 1 + 1)]).heap.size := by rw [size_puts]; exact Box.size (t := et) hcur
      have OG0 : Only F w (puts wr g (off + j * 4) [.int .i64 (k + (q : Int)), .int .i64 (k + (q : Int) + 1), .int .i64 (k + (q : Int) + 1 + 1)]) := only_puts hG hgF
      have hk0 : ∀ f, f ≠ g → (puts wr g (off + j * 4) [.int .i64 (k + (q : Int)), .int .i64 (k + (q : Int) + 1), .int .i64 (k + (q : Int) + 1 + 1)]).heap[f]? = wr.heap[f]? := fun f hf => puts_far hf
      have hzz : (puts wr g (off + j * 4) [.int .i64 (k + (q : Int)), .int .i64 (k + (q : Int) + 1), .int .i64 (k + (q : Int) + 1 + 1)]).heap.size = wr.heap.size := size_puts
      have y3 : ∀ f ∈ F3, f < wr.heap.size ∧ f ≠ g := fun f hf => ⟨(tBy).lt hr3 f hf, fun e => hgi (by rw [← e]; simp [hf])⟩
      replace hr3 := (tBy).kept (w' := puts wr g (off + j * 4) [.int .i64 (k + (q : Int)), .int .i64 (k + (q : Int) + 1), .int .i64 (k + (q : Int) + 1 + 1)]) hr3 (fun f hf => hk0 f (y3 f hf).2)
      have nd3 : F3.Nodup := hnd
      obtain ⟨W0, hW0⟩ : ∃ W0, puts wr g (off + j * 4) [.int .i64 (k + (q : Int)), .int .i64 (k + (q : Int) + 1), .int .i64 (k + (q : Int) + 1 + 1)] = W0 := ⟨_, rfl⟩
      rw [hW0] at hX0 hgz OG0 hk0 hzz hr3
      have Z0 : wr.heap.size ≤ W0.heap.size := Nat.le_of_eq hzz.symm
      have hX : W0.heap[g]? = some (.cells cur1 et (0, 0)) := hX0
      go_wp2_with fail
      have hWe : (((wr.setCell ⟨g, off + j * 4, none⟩ (.int .i64 (k + (q : Int)))).setCell ⟨g, off + j * 4 + 1, none⟩ (.int .i64 (k + (q : Int) + 1))).setCell ⟨g, off + j * 4 + 2, none⟩ (.int .i64 (k + (q : Int) + 1 + 1))) = W0 := hW0
      rw [hWe]
      refine (o_markByteS (k + (q : Int) + 1 + 1 + 1) hr3 (by omega) (by omega)).mono ?_
      rintro e W1 ⟨rfl, hO3, hG3⟩
      have OG1 : Only F w W1 := OG0.trans (hG3.mono (fun f hf => hFi f (by simp [hf])))
      have Z1 : wr.heap.size ≤ W1.heap.size := Nat.le_trans Z0 hG3.size
      have hgz : g < W1.heap.size := Nat.lt_of_lt_of_le hgz hG3.size
      replace hX : W1.heap[g]? = some (.cells cur1 et (0, 0)) := (hG3.block g (by omega) (fun e => (y3 g e).2 rfl)).trans hX
      replace hr3 := hO3
      have wf0 : (Lit.int .i64 (k + (q : Int))).wf = true := WalkArith.wf_i64 (by omega)
      have wf1 : (Lit.int .i64 (k + (q : Int) + 1)).wf = true := WalkArith.wf_i64 (by omega)
      have wf2 : (Lit.int .i64 (k + (q : Int) + 1 + 1)).wf = true := WalkArith.wf_i64 (by omega)
      obtain ⟨F2, hF2, hF2e⟩ := makeOPiece (w := W1) (p := rmPiece (k + (q : Int)) (x0, x1, x2, l3)) wf0 wf1 wf2 hr3
      subst hF2e
      have hfin := hback W1 cur1 [.int .i64 (k + (q : Int)), .int .i64 (k + (q : Int) + 1), .int .i64 (k + (q : Int) + 1 + 1), .slice A3 l3.length c3] (rmPiece (k + (q : Int)) (x0, x1, x2, l3)) hX (by
        intro i hi
        rcases (by omega : i = 0 ∨ i = 1 ∨ i = 2 ∨ i = 3) with rfl | rfl | rfl | rfl
        · exact hval 0 (by omega) (hcz 0 (by omega))
        · exact hval 1 (by omega) (hcz 1 (by omega))
        · exact hval 2 (by omega) (hcz 2 (by omega))
        · rw [hun _ (by omega)]; exact hes 3 (by omega)) (by
        intro q2 hq2
        refine hun q2 ?_
        rcases Nat.lt_or_ge q2 (off + j * 4) with h1 | h1
        · exact .inl h1
        · rcases Nat.lt_or_ge q2 (off + j * 4 + 4) with h2 | h2
          · exact absurd (by omega) (hq2 (q2 - (off + j * 4)) (by omega))
          · exact .inr (by omega)) hF2 (by
        intro f hf h1 h2
        skip
        have hfz : f < wr.heap.size := (tPiece.row).lt hO f hf
        exact ((hG3.block f (by omega) h2).trans (hk0 f h1)))
      have HPq := HP.out
      rw [HQ2.out] at HPq
      rw [HPq] at hfin
      clear HPq
      go_wp2
      go_roundw
      case rel => exact ⟨j + 1, by omega, by rw [HQ.out]; go_num, by go_num, hfin, OG1⟩
      case measure => simp [intOf]; omega
    · obtain rfl : j = n := by omega
      have HA := Lib.hid (show rsum rcPiece (l.take j) = s from by rw [rsum_all (Nat.le_of_eq HLN.out)]; exact HS.out)
      rw [HA.out]
      rw [rpart_all (Nat.le_of_eq HLN.out)] at hO
      go_wp2
      go_ret
      exact ⟨rfl, hO, hG⟩
set_option maxHeartbeats 1000000 in
theorem o_heldPieceS {w : World} {n c : Nat} {A : Option Addr} {l : List DPiece} (k : Int) (h : tPiece.row.R w w.heap.size [.slice A n c] (rmk rcPiece rmPiece k l)) (h0 : 0 ≤ k) (hk : k + rsum rcPiece l ≤ 4611686018427387904) :
    Calls Try.prog 102 #[.slice A n c, .int .i64 k] w fun e w' => e = .returned (.int .i64 (k + rsum rcPiece l)) ∧ Below w.heap.size w w' := by
  obtain ⟨hln, hnc, hcm⟩ := rowR_len h
  rw [rmk_len] at hln
  obtain ⟨s, hs⟩ : ∃ s, rsum rcPiece l = s := ⟨_, rfl⟩
  rw [hs] at hk ⊢
  have HLN := Lib.hid hln
  have HS := Lib.hid hs
  clear hln hs
  go_enter Try.func102, Try.ntmps102
  go_wp2
  go_loopw [1, 5] (fun x i wr => ∃ j : Nat, j ≤ n ∧ x = .int .i64 (k + (rsum rcPiece (l.take j) : Nat)) ∧ i = .int .i64 j ∧ Below w.heap.size w wr) (fun _ i _ => n - (intOf i).toNat)
  case atStart => exact ⟨0, by omega, by rw [rsum_zero]; go_num, rfl, (belx)⟩
  case round =>
    obtain ⟨j, hj, rfl, rfl, hB⟩ := hrel
    by_cases hlt : j < n
    · obtain ⟨a, hl⟩ : ∃ a, l[j]? = some a := ⟨_, List.getElem?_eq_getElem (by rw [HLN.out]; exact hlt)⟩
      obtain ⟨a2, b, off, es, hl2, rfl, hb, hes, hR⟩ := rowR_at (K := 4) h hlt rfl
      have hat := rmk_at (c := rcPiece) (m := rmPiece) (k := k) hl
      obtain rfl : _ = a2 := Option.some.inj (hat.symm.trans hl2)
      clear hl2 hat
      have hsa := rsum_at (c := rcPiece) hl
      have hsn := rsum_sn (c := rcPiece) hl
      rw [HS.out] at hsa
      obtain ⟨q, hq⟩ : ∃ q, rsum rcPiece (l.take j) = q := ⟨_, rfl⟩
      obtain ⟨q', hq'⟩ : ∃ q, rsum rcPiece (l.take (j + 1)) = q := ⟨_, rfl⟩
      rw [hq] at hsa hsn
      rw [hq'] at hsn
      rw [hq] at hR ⊢
      have HQ := Lib.hid hq'
      clear hq hq'
      dsimp only [rcPiece] at hsa hsn
      obtain ⟨A3, n3, c3, rfl, hi0, hi1, hi2, ha3, hb3, hl3, hr3⟩ := openPiece hR
      obtain ⟨x0, x1, x2, l3⟩ := a
      dsimp only [rmPiece] at *
      have q0 : ((k + (q : Int) : Int) != k + (q : Int)) = false := by simp
      have q1 : ((k + (q : Int) + 1 : Int) != k + (q : Int) + 1) = false := by simp
      have q2 : ((k + (q : Int) + 1 + 1 : Int) != k + (q : Int) + 1 + 1) = false := by simp
      have e0 : wr.cell? ⟨b, off + j * 4, none⟩ = some (.int .i64 (k + (q : Int))) := cell_at hB hb (hes 0 (by omega))
      have e1 : wr.cell? ⟨b, off + j * 4 + 1, none⟩ = some (.int .i64 (k + (q : Int) + 1)) := cell_at hB hb (hes 1 (by omega))
      have e2 : wr.cell? ⟨b, off + j * 4 + 2, none⟩ = some (.int .i64 (k + (q : Int) + 1 + 1)) := cell_at hB hb (hes 2 (by omega))
      have e3 : wr.cell? ⟨b, off + j * 4 + 3, none⟩ = some (.slice A3 n3 c3) := cell_at hB hb (hes 3 (by omega))
      have d0 : decide (k + (q : Int) + 1 + 1 + 1 + ((l3.length : Nat) : Int) < 0) = false := by simp; omega
      go_wp2_with fail
      refine (o_heldByteS (k + (q : Int) + 1 + 1 + 1) ((tBy).reach hr3 ?hB) (by omega) (by omega)).mono ?_
      case hB => exact (belx)
      rintro e w1 ⟨rfl, hb1⟩
      have hB1 : Below w.heap.size w w1 := bel_trans hB hb1
      have e3_1 : w1.cell? ⟨b, off + j * 4 + 3, none⟩ = some (.slice A3 n3 c3) := cell_at hB1 hb (hes 3 (by omega))
      go_wp2
      go_roundw
      case rel => exact ⟨j + 1, by omega, by rw [HQ.out]; go_num, by go_num, hB1⟩
      case measure => simp [intOf]; omega
    · obtain rfl : j = n := by omega
      have HA := Lib.hid (show rsum rcPiece (l.take j) = s from by rw [rsum_all (Nat.le_of_eq HLN.out)]; exact HS.out)
      rw [HA.out]
      go_wp2
      go_ret
      exact ⟨rfl, hB⟩
end Go.Proofs.Ytojbicecopkfbaa
namespace Go.Proofs.Ytojbicecopkfbaa
set_option maxRecDepth 100000
set_option linter.unusedVariables false
set_option linter.unusedSimpArgs false
open Go.ChangeShapes Go.WideShapes Go.ChangeAt Go.RowKit
theorem o_szWhole_t {w : World} {cs : List Value} {p : DWhole} {k : Int} (h : tWhole.R w w.heap.size cs p) (h1 : 0 ≤ k) (h2 : k ≤ 1048576) (h3 : (szWhole p : Int) ≤ k) :
    Calls Try.prog 84 #[.agg cs.toArray, .int .i64 k] w fun e w' => e = .returned (.int .i64 (k - szWhole p)) ∧ Below w.heap.size w w' := by
  obtain ⟨A3, n3, c3, rfl, hi0, hi1, hi2, ha3, hb3, hl3, hr3⟩ := openWhole h
  obtain ⟨x0, x1, x2, r3⟩ := p
  try dsimp only [szWhole] at *
  subst hl3
  have d0 : decide (k - ((rsz szPiece r3 : Nat) : Int) < 0) = false := by simp; omega
  go_enter Try.func84, Try.ntmps84
  go_wp2_with fail
  refine (o_szPieceS_t (tPiece.row.reach hr3 ?hB) (by omega) (by omega) (by omega)).mono ?_
  case hB => exact (belx)
  rintro e w1 ⟨rfl, hb1⟩
  have hB1 : Below w.heap.size w w1 := bel_trans (belx) hb1
  have P1 : Box w1 w.heap.size 120 #[.int .i64 x0, .int .i64 x1, .int .i64 x2, .slice A3 r3.length c3] := (Box.new _ _ _).below hb1 (by first | (simp; done) | (simp; omega))
  go_wp2
  go_ret
  exact ⟨ret_int (by omega), hB1⟩
theorem o_szWhole_f {w : World} {cs : List Value} {p : DWhole} {k : Int} (h : tWhole.R w w.heap.size cs p) (h1 : 0 ≤ k) (h2 : k ≤ 1048576) (h3 : ¬ (szWhole p : Int) ≤ k) :
    Calls Try.prog 84 #[.agg cs.toArray, .int .i64 k] w fun e w' => e = .returned (.int .i64 (-1)) ∧ Below w.heap.size w w' := by
  obtain ⟨A3, n3, c3, rfl, hi0, hi1, hi2, ha3, hb3, hl3, hr3⟩ := openWhole h
  obtain ⟨x0, x1, x2, r3⟩ := p
  try dsimp only [szWhole] at *
  subst hl3
  go_enter Try.func84, Try.ntmps84
  go_wp2_with fail
  refine (o_szPieceS_f (tPiece.row.reach hr3 ?hB) (by omega) (by omega) (by omega)).mono ?_
  case hB => exact (belx)
  rintro e w1 ⟨rfl, hb1⟩
  have hB1 : Below w.heap.size w w1 := bel_trans (belx) hb1
  have P1 : Box w1 w.heap.size 120 #[.int .i64 x0, .int .i64 x1, .int .i64 x2, .slice A3 r3.length c3] := (Box.new _ _ _).below hb1 (by first | (simp; done) | (simp; omega))
  go_wp2
  go_ret
  exact ⟨rfl, hB1⟩
set_option maxHeartbeats 400000 in
theorem o_toWhole {w : World} {cs : List Value} {p : DWhole} (h : tWhole.R w w.heap.size cs p) (hn : szWhole p ≤ 1048576) :
    Calls Try.prog 88 #[.agg cs.toArray] w fun e w' => ∃ cs' F, e = .returned (.agg cs'.toArray) ∧ tWhole.O w' cs' p F ∧ New w.heap.size F ∧ Below w.heap.size w w' := by
  obtain ⟨A3, n3, c3, rfl, hi0, hi1, hi2, ha3, hb3, hl3, hr3⟩ := openWhole h
  obtain ⟨x0, x1, x2, r3⟩ := p
  try dsimp only [szWhole] at *
  subst hl3
  go_enter Try.func88, Try.ntmps88
  go_wp2_with fail
  refine (o_toPieceS (tPiece.row.reach hr3 ?hB) (by omega)).mono ?_
  case hB => exact (belx)
  rintro e w1 ⟨B3, d3, F3, rfl, o3, hN1, hb1⟩
  have z1 : w.heap.size + 3 ≤ w1.heap.size := by have := hb1.size; simpa using this
  have hB1 : Below w.heap.size w w1 := bel_trans (belx) hb1
  have R1 : Box w1 (w.heap.size + 1) 77 #[.int .i64 0, .int .i64 0, .int .i64 0, .slice none 0 0] := Box.below (Box.alloc (by simpa using Box.new (w.alloc _) 77 #[.int .i64 0, .int .i64 0, .int .i64 0, .slice none 0 0]) _) hb1 (by first | (simp; done) | (simp; omega))
  have L1 : Box w1 (w.heap.size + 1 + 1) 77 #[.int .i64 x0, .int .i64 x1, .int .i64 x2, .slice none 0 0] := Box.below (by simpa using Box.new ((w.alloc _).alloc _) 77 #[.int .i64 x0, .int .i64 x1, .int .i64 x2, .slice none 0 0]) hb1 (by first | (simp; done) | (simp; omega))
  have P1 : Box w1 w.heap.size 120 #[.int .i64 x0, .int .i64 x1, .int .i64 x2, .slice A3 r3.length c3] := Box.below (((Box.new w 120 #[.int .i64 x0, .int .i64 x1, .int .i64 x2, .slice A3 r3.length c3]).alloc _).alloc _) hb1 (by first | (simp; done) | (simp; omega))
  have hM1 : New (w.heap.size + 3) (F3) := hN1.lower (by simp)
  clear hN1
  have y1 : ∀ f ∈ F3, f < w1.heap.size := by intro f hf; exact tPiece.row.lt o3 f hf
  have kr1_0 := R1.cell 0; have fr1_0 := R1.frozen 0; have kl1_0 := L1.cell 0; have fl1_0 := L1.frozen 0; have kp1_0 := P1.cell 0
  have kr1_1 := R1.cell 1; have fr1_1 := R1.frozen 1; have kl1_1 := L1.cell 1; have fl1_1 := L1.frozen 1; have kp1_1 := P1.cell 1
  have kr1_2 := R1.cell 2; have fr1_2 := R1.frozen 2; have kl1_2 := L1.cell 2; have fl1_2 := L1.frozen 2; have kp1_2 := P1.cell 2
  have kr1_3 := R1.cell 3; have fr1_3 := R1.frozen 3; have kl1_3 := L1.cell 3; have fl1_3 := L1.frozen 3; have kp1_3 := P1.cell 3
  go_wp2
  have RR := (((((R1.far (p := ⟨w.heap.size + 1 + 1, 3, none⟩) (by first | (simp; done) | (simp; omega)) (.slice B3 r3.length d3)).put 0 (.int .i64 x0)).put 1 (.int .i64 x1)).put 2 (.int .i64 x2)).put 3 (.slice B3 r3.length d3))
  have e0 := RR.cell 0
  have e1 := RR.cell 1
  have e2 := RR.cell 2
  have e3 := RR.cell 3
  have u3 := (Ty.far (t := tPiece.row) (Ty.far (t := tPiece.row) (Ty.far (t := tPiece.row) (Ty.far (t := tPiece.row) (Ty.far (t := tPiece.row) o3 hM1 (p := ⟨w.heap.size + 1 + 1, 3, none⟩) (by first | (simp; done) | (simp; omega)) (.slice B3 r3.length d3)) hM1 (p := ⟨w.heap.size + 1, 0, none⟩) (by first | (simp; done) | (simp; omega)) (.int .i64 x0)) hM1 (p := ⟨w.heap.size + 1, 1, none⟩) (by first | (simp; done) | (simp; omega)) (.int .i64 x1)) hM1 (p := ⟨w.heap.size + 1, 2, none⟩) (by first | (simp; done) | (simp; omega)) (.int .i64 x2)) hM1 (p := ⟨w.heap.size + 1, 3, none⟩) (by first | (simp; done) | (simp; omega)) (.slice B3 r3.length d3))
  obtain ⟨F, hF, hFe⟩ := makeOWhole (p := (x0, x1, x2, r3)) hi0 hi1 hi2 u3
  refine bodyPost_ret (v := .agg #[.int .i64 x0, .int .i64 x1, .int .i64 x2, .slice B3 r3.length d3]) (by simp [results, Try.results88, go_sem, e0, e1, e2, e3]) rfl ⟨_, F, rfl, hF, ?_, ?_⟩
  · rw [hFe]
    exact New.lower (B := w.heap.size + 3) (by exact hM1) (by omega)
  · exact (bel_put (bel_put (bel_put (bel_put (bel_put hB1 (by first | (simp; done) | (simp; omega)) _) (by first | (simp; done) | (simp; omega)) _) (by first | (simp; done) | (simp; omega)) _) (by first | (simp; done) | (simp; omega)) _) (by first | (simp; done) | (simp; omega)) _)
theorem o_eqWhole {w : World} {cs cs' : List Value} {p : DWhole} (h : tWhole.R w w.heap.size cs p) (h' : tWhole.R w w.heap.size cs' p) :
    Calls Try.prog 100 #[.agg cs.toArray, .agg cs'.toArray] w fun e w' => e = .returned (.bool true) ∧ Below w.heap.size w w' := by
  obtain ⟨A3, n3, c3, rfl, hi0, hi1, hi2, ha3, hb3, hl3, hr3⟩ := openWhole h
  obtain ⟨A3', n3', c3', rfl, hi0', hi1', hi2', ha3', hb3', hl3', hr3'⟩ := openWhole h'
  obtain ⟨x0, x1, x2, r3⟩ := p
  try dsimp only at *
  subst hl3
  subst hl3'
  have q0 : (x0 != x0) = false := by simp
  have q1 : (x1 != x1) = false := by simp
  have q2 : (x2 != x2) = false := by simp
  go_enter Try.func100, Try.ntmps100
  go_wp2_with fail
  refine (o_eqPieceS (tPiece.row.reach hr3 ?hB) (tPiece.row.reach hr3' ?hB)).mono ?_
  case hB => exact (belx)
  rintro e w1 ⟨rfl, hb1⟩
  have hB1 : Below w.heap.size w w1 := bel_trans (belx) hb1
  have P1 : Box w1 w.heap.size 77 #[.int .i64 x0, .int .i64 x1, .int .i64 x2, .slice A3 r3.length c3] := ((Box.new _ _ _).alloc _).below hb1 (by first | (simp; done) | (simp; omega))
  have Q1 : Box w1 (w.heap.size + 1) 77 #[.int .i64 x0, .int .i64 x1, .int .i64 x2, .slice A3' r3.length c3'] := Box.below (by simpa using Box.new (w.alloc _) 77 #[.int .i64 x0, .int .i64 x1, .int .i64 x2, .slice A3' r3.length c3']) hb1 (by first | (simp; done) | (simp; omega))
  go_wp2
  go_ret
  exact ⟨rfl, hB1⟩
end Go.Proofs.Ytojbicecopkfbaa
namespace Go.Proofs.Ytojbicecopkfbaa
set_option maxRecDepth 100000
set_option linter.unusedVariables false
set_option linter.unusedSimpArgs false
open Go.ChangeShapes Go.WideShapes Go.ChangeAt Go.RowKit
theorem o_szWholeS_t {w : World} {n c : Nat} {A : Option Addr} {l : List DWhole} {k : Int} (h : tWhole.row.R w w.heap.size [.slice A n c] l) (h1 : 0 ≤ k) (h2 : k ≤ 1048576) (h3 : (rsz szWhole l : Int) ≤ k) :
    Calls Try.prog 37 #[.slice A n c, .int .i64 k] w fun e w' => e = .returned (.int .i64 (k - rsz szWhole l)) ∧ Below w.heap.size w w' := by
  obtain ⟨hln, hnc, hcm⟩ := rowR_len h
  obtain ⟨s, hs⟩ : ∃ s, rsum szWhole l = s := ⟨_, rfl⟩
  have hz : rsz szWhole l = n + s := by unfold rsz; rw [hln, hs]
  rw [hz] at h3 ⊢
  have HLN := Lib.hid hln
  have HS := Lib.hid hs
  clear hz hln hs
  have d : decide (k - (n : Int) < 0) = false := by simp; omega
  go_enter Try.func37, Try.ntmps37
  go_wp2_with fail
  go_loopw [1, 5] (fun x i wr => ∃ j : Nat, j ≤ n ∧ x = .int .i64 (k - n - (rsum szWhole (l.take j) : Nat)) ∧ i = .int .i64 j ∧ Below w.heap.size w wr) (fun _ i _ => n - (intOf i).toNat)
  case atStart => exact ⟨0, by omega, by rw [rsum_zero]; go_num, rfl, (belx)⟩
  case round =>
    obtain ⟨j, hj, rfl, rfl, hB⟩ := hrel
    by_cases hlt : j < n
    · obtain ⟨a, b, off, es, hl, rfl, hb, hes, hR⟩ := rowR_at (K := 4) h hlt rfl
      have hsa := rsum_at (c := szWhole) hl
      have hsn := rsum_sn (c := szWhole) hl
      rw [HS.out] at hsa
      obtain ⟨q, hq⟩ : ∃ q, rsum szWhole (l.take j) = q := ⟨_, rfl⟩
      obtain ⟨q', hq'⟩ : ∃ q, rsum szWhole (l.take (j + 1)) = q := ⟨_, rfl⟩
      rw [hq] at hsa hsn
      rw [hq'] at hsn
      rw [hq]
      have HQ := Lib.hid hq'
      clear hq hq'
      obtain ⟨A3, n3, c3, rfl, hi0, hi1, hi2, ha3, hb3, hl3, hr3⟩ := openWhole hR
      have e0 : wr.cell? ⟨b, off + j * 4, none⟩ = some (.int .i64 (a.1)) := cell_at hB hb (hes 0 (by omega))
      have e1 : wr.cell? ⟨b, off + j * 4 + 1, none⟩ = some (.int .i64 (a.2.1)) := cell_at hB hb (hes 1 (by omega))
      have e2 : wr.cell? ⟨b, off + j * 4 + 2, none⟩ = some (.int .i64 (a.2.2.1)) := cell_at hB hb (hes 2 (by omega))
      have e3 : wr.cell? ⟨b, off + j * 4 + 3, none⟩ = some (.slice A3 n3 c3) := cell_at hB hb (hes 3 (by omega))
      clear hes
      have d2 : decide (k - (n : Int) - q - (szWhole a : Nat) < 0) = false := by simp; omega
      go_wp2_with fail
      refine (o_szWhole_t (tWhole.reach hR ?hB) (by omega) (by omega) (by omega)).mono ?_
      case hB => exact (belx)
      rintro e w1 ⟨rfl, hb1⟩
      go_wp2
      go_roundw
      case rel => exact ⟨j + 1, by omega, by rw [HQ.out]; go_num, by go_num, bel_trans hB hb1⟩
      case measure => simp [intOf]; omega
    · obtain rfl : j = n := by omega
      have HA := Lib.hid (show rsum szWhole (l.take j) = s from by rw [rsum_all (Nat.le_of_eq HLN.out)]; exact HS.out)
      rw [HA.out]
      go_wp2
      go_ret
      exact ⟨ret_int (by omega), hB⟩
theorem o_szWholeS_f {w : World} {n c : Nat} {A : Option Addr} {l : List DWhole} {k : Int} (h : tWhole.row.R w w.heap.size [.slice A n c] l) (h1 : 0 ≤ k) (h2 : k ≤ 1048576) (h3 : ¬ (rsz szWhole l : Int) ≤ k) :
    Calls Try.prog 37 #[.slice A n c, .int .i64 k] w fun e w' => e = .returned (.int .i64 (-1)) ∧ Below w.heap.size w w' := by
  obtain ⟨hln, hnc, hcm⟩ := rowR_len h
  obtain ⟨s, hs⟩ : ∃ s, rsum szWhole l = s := ⟨_, rfl⟩
  have hz : rsz szWhole l = n + s := by unfold rsz; rw [hln, hs]
  rw [hz] at h3
  have HLN := Lib.hid hln
  have HS := Lib.hid hs
  clear hz hln hs
  by_cases hnk : k < (n : Int)
  · have d : decide (k - (n : Int) < 0) = true := by simp; omega
    go_enter Try.func37, Try.ntmps37
    go_wp2
    go_ret
    exact ⟨rfl, (belx)⟩
  have d : decide (k - (n : Int) < 0) = false := by simp; omega
  go_enter Try.func37, Try.ntmps37
  go_wp2_with fail
  go_loopw [1, 5] (fun x i wr => ∃ j : Nat, j ≤ n ∧ x = .int .i64 (k - n - (rsum szWhole (l.take j) : Nat)) ∧ i = .int .i64 j ∧ Below w.heap.size w wr ∧ (n : Int) + (rsum szWhole (l.take j) : Nat) ≤ k) (fun _ i _ => n - (intOf i).toNat)
  case atStart => exact ⟨0, by omega, by rw [rsum_zero]; go_num, rfl, (belx), by rw [rsum_zero]; omega⟩
  case round =>
    obtain ⟨j, hj, rfl, rfl, hB, hv⟩ := hrel
    by_cases hlt : j < n
    · obtain ⟨a, b, off, es, hl, rfl, hb, hes, hR⟩ := rowR_at (K := 4) h hlt rfl
      have hsa := rsum_at (c := szWhole) hl
      have hsn := rsum_sn (c := szWhole) hl
      rw [HS.out] at hsa
      obtain ⟨q, hq⟩ : ∃ q, rsum szWhole (l.take j) = q := ⟨_, rfl⟩
      obtain ⟨q', hq'⟩ : ∃ q, rsum szWhole (l.take (j + 1)) = q := ⟨_, rfl⟩
      rw [hq] at hsa hsn
      rw [hq'] at hsn
      rw [hq]
      have HQ := Lib.hid hq'
      rw [hq] at hv
      clear hq hq'
      obtain ⟨A3, n3, c3, rfl, hi0, hi1, hi2, ha3, hb3, hl3, hr3⟩ := openWhole hR
      have e0 : wr.cell? ⟨b, off + j * 4, none⟩ = some (.int .i64 (a.1)) := cell_at hB hb (hes 0 (by omega))
      have e1 : wr.cell? ⟨b, off + j * 4 + 1, none⟩ = some (.int .i64 (a.2.1)) := cell_at hB hb (hes 1 (by omega))
      have e2 : wr.cell? ⟨b, off + j * 4 + 2, none⟩ = some (.int .i64 (a.2.2.1)) := cell_at hB hb (hes 2 (by omega))
      have e3 : wr.cell? ⟨b, off + j * 4 + 3, none⟩ = some (.slice A3 n3 c3) := cell_at hB hb (hes 3 (by omega))
      clear hes
      by_cases hg : (n : Int) + q + (szWhole a : Nat) ≤ k
      · have d2 : decide (k - (n : Int) - q - (szWhole a : Nat) < 0) = false := by simp; omega
        go_wp2_with fail
        refine (o_szWhole_t (tWhole.reach hR ?hB) (by omega) (by omega) (by omega)).mono ?_
        case hB => exact (belx)
        rintro e w1 ⟨rfl, hb1⟩
        go_wp2
        go_roundw
        case rel => exact ⟨j + 1, by omega, by rw [HQ.out]; go_num, by go_num, bel_trans hB hb1, by rw [HQ.out]; omega⟩
        case measure => simp [intOf]; omega
      · go_wp2_with fail
        refine (o_szWhole_f (tWhole.reach hR ?hB) (by omega) (by omega) (by omega)).mono ?_
        case hB => exact (belx)
        rintro e w1 ⟨rfl, hb1⟩
        go_wp2
        go_ret
        exact ⟨rfl, bel_trans hB hb1⟩
    · obtain rfl : j = n := by omega
      have HA := Lib.hid (show rsum szWhole (l.take j) = s from by rw [rsum_all (Nat.le_of_eq HLN.out)]; exact HS.out)
      rw [HA.out] at hv
      exact absurd hv (by omega)
theorem info_Whole : (Try.prog.info? 77).map (fun i => (i.zero, i.size, i.bytes)) = some (some (.agg #[.int .i64 0, .int .i64 0, .int .i64 0, .slice none 0 0]), 4, 48) := by kernel_rfl
set_option maxHeartbeats 800000 in
theorem o_toWholeS {w : World} {n c : Nat} {A : Option Addr} {l : List DWhole} (h : tWhole.row.R w w.heap.size [.slice A n c] l) (hz : rsz szWhole l ≤ 1048576) :
    Calls Try.prog 42 #[.slice A n c] w fun e w' => ∃ A' c' F, e = .returned (.slice A' l.length c') ∧ tWhole.row.O w' [.slice A' l.length c'] l F ∧ New w.heap.size F ∧ Below w.heap.size w w' := by
  obtain ⟨i0, hi0, hz0, hz1, hz2⟩ := info_parts info_Whole
  obtain ⟨hln, hnc, hcm⟩ := rowR_len h
  have hn : n ≤ 1048576 := by have := rsz_le (s := szWhole) l; omega
  have HLN := Lib.hid hln
  have HZ := Lib.hid hz
  clear hln hz
  go_enter Try.func42, Try.ntmps42
  go_wp2_with (at_make; refine wpList_mkS _ rfl (.tmp 6) (.tmp 6) _ rfl 77 i0 _ 4 Try.underlying27 hi0 hz0 hz1 n rfl rfl (by rw [hz2]; omega) (by simp only [maxLen]; omega) ?_; intro w1 cur hcur hsz hB1 hgr)
  go_loopw [4] (fun i wr => ∃ j : Nat, j ≤ n ∧ i = .int .i64 j ∧ Below w.heap.size w wr ∧ ∃ F, Fill tWhole wr w.heap.size 77 n (l.take j) F ∧ New (w.heap.size + 1) F) (fun i _ => n - (intOf i).toNat)
  case atStart => exact ⟨0, by omega, rfl, hB1, [], Fill.start hcur hsz, New.nil _⟩
  case round =>
    obtain ⟨j, hj, rfl, hB, F, hf, hN⟩ := hrel
    by_cases hlt : j < n
    · obtain ⟨a, b, off, es, hl, rfl, hb, hes, hR⟩ := rowR_at (K := 4) h hlt rfl
      have HT := Lib.hid (take_sn hl)
      have HLT := Lib.hid (show (l.take j).length = j from by rw [List.length_take, HLN.out]; omega)
      have hsa : szWhole a ≤ 1048576 := by have := rsz_step (s := szWhole) hl; have := HZ.out; omega
      obtain ⟨A3, n3, c3, rfl, hi0, hi1, hi2, ha3, hb3, hl3, hr3⟩ := openWhole hR
      subst hl3
      have e0 : wr.cell? ⟨b, off + j * 4, none⟩ = some (.int .i64 (a.1)) := cell_at hB hb (hes 0 (by omega))
      have e1 : wr.cell? ⟨b, off + j * 4 + 1, none⟩ = some (.int .i64 (a.2.1)) := cell_at hB hb (hes 1 (by omega))
      have e2 : wr.cell? ⟨b, off + j * 4 + 2, none⟩ = some (.int .i64 (a.2.2.1)) := cell_at hB hb (hes 2 (by omega))
      have e3 : wr.cell? ⟨b, off + j * 4 + 3, none⟩ = some (.slice A3 (a.2.2.2).length c3) := cell_at hB hb (hes 3 (by omega))
      clear hes
      have hgs := hf.size
      go_wp2_with fail
      refine (o_toWhole (tWhole.reach hR ?hB) hsa).mono ?_
      case hB => exact (belx)
      rintro e w2 ⟨cs2, F2, rfl, hO2, hN2, hb2⟩
      obtain ⟨B3, d3, G3, rfl, hFe, _, _, _, _, _, _⟩ := openOWhole hO2
      clear hFe
      have hf2 := hf.below hb2
      have hsz2 := hb2.size
      have hP := Fill.push (K := 4) hf2 (by rw [HLT.out]; exact hlt) hO2 (hN.not (by omega)) (hN2.not hgs) rfl
      rw [HLT.out, ← HT.out] at hP
      have hM : New (w.heap.size + 1) (F ++ F2) := New.app hN hN2 (by omega) hf.lt
      obtain ⟨u0, k0⟩ := hf2.cell (K := 4) (j := 0) (by rw [HLT.out]; exact hlt) rfl (by omega)
      rw [HLT.out] at k0
      replace k0 : w2.cell? ⟨w.heap.size, j * 4, none⟩ = some u0 := k0
      have f0 := hf2.frozen (j * 4)
      obtain ⟨u1, k1⟩ := hf2.cell (K := 4) (j := 1) (by rw [HLT.out]; exact hlt) rfl (by omega)
      rw [HLT.out] at k1
      replace k1 : w2.cell? ⟨w.heap.size, j * 4 + 1, none⟩ = some u1 := k1
      have f1 := hf2.frozen (j * 4 + 1)
      obtain ⟨u2, k2⟩ := hf2.cell (K := 4) (j := 2) (by rw [HLT.out]; exact hlt) rfl (by omega)
      rw [HLT.out] at k2
      replace k2 : w2.cell? ⟨w.heap.size, j * 4 + 2, none⟩ = some u2 := k2
      have f2 := hf2.frozen (j * 4 + 2)
      obtain ⟨u3, k3⟩ := hf2.cell (K := 4) (j := 3) (by rw [HLT.out]; exact hlt) rfl (by omega)
      rw [HLT.out] at k3
      replace k3 : w2.cell? ⟨w.heap.size, j * 4 + 3, none⟩ = some u3 := k3
      have f3 := hf2.frozen (j * 4 + 3)
      go_wp2
      go_roundw
      case rel => exact ⟨j + 1, by omega, by go_num, below_puts (bel_trans hB hb2) (Nat.le_refl _) (off := j * 4) (vs := [.int .i64 (a.1), .int .i64 (a.2.1), .int .i64 (a.2.2.1), .slice B3 (a.2.2.2).length d3]), _, hP, hM⟩
      case measure => simp [intOf]; omega
    · obtain rfl : j = n := by omega
      have HA := Lib.hid (show l.take j = l from by rw [List.take_of_length_le (Nat.le_of_eq HLN.out)])
      rw [HA.out] at hf
      obtain ⟨F2, hF2, hor⟩ := hf.done HLN.out (by omega)
      have HN := Lib.hid HLN.out
      go_wp2
      go_ret
      refine ⟨some ⟨w.heap.size, 0, none⟩, j, F2, ?_, hF2, hN.cons hor, hB⟩
      rw [HN.out]
      rfl
set_option maxHeartbeats 800000 in
theorem o_eqWholeS {w : World} {n m c d : Nat} {A A' : Option Addr} {l : List DWhole} (h : tWhole.row.R w w.heap.size [.slice A n c] l) (h' : tWhole.row.R w w.heap.size [.slice A' m d] l) :
    Calls Try.prog 48 #[.slice A n c, .slice A' m d] w fun e w' => e = .returned (.bool true) ∧ Below w.heap.size w w' := by
  obtain ⟨hln, hnc, hcm⟩ := rowR_len h
  obtain ⟨hln', hnc', hcm'⟩ := rowR_len h'
  obtain rfl : m = n := by omega
  have HLN := Lib.hid hln
  clear hln hln'
  go_enter Try.func48, Try.ntmps48
  go_wp2_with fail
  go_loopw [5] (fun i wr => ∃ j : Nat, j ≤ m ∧ i = .int .i64 j ∧ Below w.heap.size w wr) (fun i _ => m - (intOf i).toNat)
  case atStart => exact ⟨0, by omega, rfl, (belx)⟩
  case round =>
    obtain ⟨j, hj, rfl, hB⟩ := hrel
    by_cases hlt : j < m
    · obtain ⟨a, b, off, es, hl, rfl, hb, hes, hR⟩ := rowR_at (K := 4) h hlt rfl
      obtain ⟨a', b', off', es', hl', rfl, hb', hes', hR'⟩ := rowR_at (K := 4) h' hlt rfl
      obtain rfl : a = a' := by rw [hl] at hl'; exact Option.some.inj hl'
      clear hl hl'
      obtain ⟨A3, n3, c3, rfl, hi0, hi1, hi2, ha3, hb3, hl3, hr3⟩ := openWhole hR
      obtain ⟨A3', n3', c3', rfl, hi0', hi1', hi2', ha3', hb3', hl3', hr3'⟩ := openWhole hR'
      subst hl3
      subst hl3'
      have e0 : wr.cell? ⟨b, off + j * 4, none⟩ = some (.int .i64 (a.1)) := cell_at hB hb (hes 0 (by omega))
      have e1 : wr.cell? ⟨b, off + j * 4 + 1, none⟩ = some (.int .i64 (a.2.1)) := cell_at hB hb (hes 1 (by omega))
      have e2 : wr.cell? ⟨b, off + j * 4 + 2, none⟩ = some (.int .i64 (a.2.2.1)) := cell_at hB hb (hes 2 (by omega))
      have e3 : wr.cell? ⟨b, off + j * 4 + 3, none⟩ = some (.slice A3 (a.2.2.2).length c3) := cell_at hB hb (hes 3 (by omega))
      have e0' : wr.cell? ⟨b', off' + j * 4, none⟩ = some (.int .i64 (a.1)) := cell_at hB hb' (hes' 0 (by omega))
      have e1' : wr.cell? ⟨b', off' + j * 4 + 1, none⟩ = some (.int .i64 (a.2.1)) := cell_at hB hb' (hes' 1 (by omega))
      have e2' : wr.cell? ⟨b', off' + j * 4 + 2, none⟩ = some (.int .i64 (a.2.2.1)) := cell_at hB hb' (hes' 2 (by omega))
      have e3' : wr.cell? ⟨b', off' + j * 4 + 3, none⟩ = some (.slice A3' (a.2.2.2).length c3') := cell_at hB hb' (hes' 3 (by omega))
      clear hes hes'
      go_wp2_with fail
      go_region_held3 (fun w' => w'.cell? ⟨b, off + j * 4, none⟩ = some (.int .i64 (a.1)) ∧ w'.cell? ⟨b, off + j * 4 + 1, none⟩ = some (.int .i64 (a.2.1)) ∧ w'.cell? ⟨b, off + j * 4 + 2, none⟩ = some (.int .i64 (a.2.2.1)) ∧ w'.cell? ⟨b, off + j * 4 + 3, none⟩ = some (.slice A3 (a.2.2.2).length c3) ∧ w'.cell? ⟨b', off' + j * 4, none⟩ = some (.int .i64 (a.1)) ∧ w'.cell? ⟨b', off' + j * 4 + 1, none⟩ = some (.int .i64 (a.2.1)) ∧ w'.cell? ⟨b', off' + j * 4 + 2, none⟩ = some (.int .i64 (a.2.2.1)) ∧ w'.cell? ⟨b', off' + j * 4 + 3, none⟩ = some (.slice A3' (a.2.2.2).length c3')) (first | (exact ⟨e0, e1, e2, e3, e0', e1', e2', e3'⟩) | (exact ⟨cell_bel hs2 e0, cell_bel hs2 e1, cell_bel hs2 e2, cell_bel hs2 e3, cell_bel hs2 e0', cell_bel hs2 e1', cell_bel hs2 e2', cell_bel hs2 e3'⟩) | go_keep)
        ((go_at_call 100; refine (o_eqWhole (tWhole.reach hR (belx)) (tWhole.reach hR' (belx))).mono ?_; rintro e w2 ⟨rfl, hb2⟩; have hs2 : Below wr.heap.size wr w2 := bel_trans (belx) hb2))
      go_wp2
      go_roundw
      case rel => exact ⟨j + 1, by omega, by go_num, bel_trans hB hs2⟩
      case measure => simp [intOf]; omega
    · obtain rfl : j = m := by omega
      go_wp2
      go_ret
      exact ⟨rfl, hB⟩
set_option maxHeartbeats 1000000 in
theorem o_markWholeS {w : World} {n c : Nat} {A : Option Addr} {l : List DWhole} {F : List Nat} (k : Int) (h : tWhole.row.O w [.slice A n c] l F) (hF : F.Nodup) (h0 : 0 ≤ k) (hk : k + rsum rcWhole l ≤ 4611686018427387904) :
    Calls Try.prog 49 #[.slice A n c, .int .i64 k] w fun e w' => e = .returned (.int .i64 (k + rsum rcWhole l)) ∧ tWhole.row.O w' [.slice A n c] (rmk rcWhole rmWhole k l) F ∧ Only F w w' := by
  obtain ⟨_, _, hsh, hnc, hcm⟩ := rowO_shape h
  have hln : l.length = n := by injection hsh with _ e2 _; exact e2.symm
  have hnc2 : n ≤ 9223372036854775807 := by omega
  clear hsh hnc hcm
  obtain ⟨s, hs⟩ : ∃ s, rsum rcWhole l = s := ⟨_, rfl⟩
  rw [hs] at hk ⊢
  have HLN := Lib.hid hln
  have HS := Lib.hid hs
  clear hln hs
  go_enter Try.func49, Try.ntmps49
  go_wp2
  go_loopw [1, 5] (fun x i wr => ∃ j : Nat, j ≤ n ∧ x = .int .i64 (k + (rsum rcWhole (l.take j) : Nat)) ∧ i = .int .i64 j ∧ tWhole.row.O wr [.slice A n c] (rpart rcWhole rmWhole k l j) F ∧ Only F w wr) (fun _ i _ => n - (intOf i).toNat)
  case atStart => exact ⟨0, by omega, by rw [rsum_zero]; go_num, rfl, by rw [rpart_zero]; exact h, Only.refl _ _⟩
  case round =>
    obtain ⟨j, hj, rfl, rfl, hO, hG⟩ := hrel
    by_cases hlt : j < n
    · obtain ⟨a, hl⟩ : ∃ a, l[j]? = some a := ⟨_, List.getElem?_eq_getElem (by rw [HLN.out]; exact hlt)⟩
      have HP := Lib.hid (rpart_set (c := rcWhole) (m := rmWhole) (k := k) hl)
      have hat := rpart_at (c := rcWhole) (m := rmWhole) (k := k) hl
      have hsa := rsum_at (c := rcWhole) hl
      have hsn := rsum_sn (c := rcWhole) hl
      rw [HS.out] at hsa
      obtain ⟨q, hq⟩ : ∃ q, rsum rcWhole (l.take j) = q := ⟨_, rfl⟩
      obtain ⟨q', hq'⟩ : ∃ q, rsum rcWhole (l.take (j + 1)) = q := ⟨_, rfl⟩
      rw [hq] at hsa hsn
      rw [hq'] at hsn
      rw [hq]
      have HQ := Lib.hid hq'
      have HQ2 := Lib.hid hq
      clear hq hq'
      dsimp only [rcWhole] at hsa hsn
      obtain ⟨g, off, cur, et, es, Fi, rfl, hcur, hes, hOe, hgF, hgi, hFi, hnd, hback⟩ := rowO_at (K := 4) hO hF hat rfl
      obtain ⟨A3, c3, F3, rfl, hFe, hi0, hi1, hi2, ha3, hb3, hr3⟩ := openOWhole hOe
      subst Fi
      obtain ⟨x0, x1, x2, r3⟩ := a
      dsimp only at *
      have e0 : wr.cell? ⟨g, off + j * 4, none⟩ = some (.int .i64 x0) := by rw [Box.cell (t := et) hcur]; exact hes 0 (by omega)
      have f0 : wr.frozen? ⟨g, off + j * 4, none⟩ = false := Box.frozen (t := et) hcur _
      have e1 : wr.cell? ⟨g, off + j * 4 + 1, none⟩ = some (.int .i64 x1) := by rw [Box.cell (t := et) hcur]; exact hes 1 (by omega)
      have f1 : wr.frozen? ⟨g, off + j * 4 + 1, none⟩ = false := Box.frozen (t := et) hcur _
      have e2 : wr.cell? ⟨g, off + j * 4 + 2, none⟩ = some (.int .i64 x2) := by rw [Box.cell (t := et) hcur]; exact hes 2 (by omega)
      have f2 : wr.frozen? ⟨g, off + j * 4 + 2, none⟩ = false := Box.frozen (t := et) hcur _
      have e3 : wr.cell? ⟨g, off + j * 4 + 3, none⟩ = some (.slice A3 r3.length c3) := by rw [Box.cell (t := et) hcur]; exact hes 3 (by omega)
      have f3 : wr.frozen? ⟨g, off + j * 4 + 3, none⟩ = false := Box.frozen (t := et) hcur _
      obtain ⟨cur1, hX0, hcs, hun, hval⟩ := puts_heap (off := off + j * 4) (vs := [.int .i64 (k + (q : Int)), .int .i64 (k + (q : Int) + 1), .int .i64 (k + (q : Int) + 1 + 1)]) hcur
      dsimp only [List.length_cons, List.length_nil] at hun hval
      have hcz : ∀ i, i < 4 → off + j * 4 + i < cur.size := fun i hi => by
        by_cases hh : off + j * 4 + i < cur.size
        · exact hh
        · have := hes i hi; rw [Array.getElem?_eq_none (by omega)] at this; rcases (by omega : i = 0 ∨ i = 1 ∨ i = 2 ∨ i = 3) with rfl | rfl | rfl | rfl <;> simp at this
      have hgz : g < (puts wr g (off + j * 4) [.int .i64 (k + (q : Int)), .int .i64 (k + (q : Int) + 1), .int .i64 (k + (q : Int) + 1 + 1)]).heap.size := by rw [size_puts]; exact Box.size (t := et) hcur
      have OG0 : Only F w (puts wr g (off + j * 4) [.int .i64 (k + (q : Int)), .int .i64 (k + (q : Int) + 1), .int .i64 (k + (q : Int) + 1 + 1)]) := only_puts hG hgF
      have hk0 : ∀ f, f ≠ g → (puts wr g (off + j * 4) [.int .i64 (k + (q : Int)), .int .i64 (k + (q : Int) + 1), .int .i64 (k + (q : Int) + 1 + 1)]).heap[f]? = wr.heap[f]? := fun f hf => puts_far hf
      have hzz : (puts wr g (off + j * 4) [.int .i64 (k + (q : Int)), .int .i64 (k + (q : Int) + 1), .int .i64 (k + (q : Int) + 1 + 1)]).heap.size = wr.heap.size := size_puts
      have y3 : ∀ f ∈ F3, f < wr.heap.size ∧ f ≠ g := fun f hf => ⟨(tPiece.row).lt hr3 f hf, fun e => hgi (by rw [← e]; simp [hf])⟩
      replace hr3 := (tPiece.row).kept (w' := puts wr g (off + j * 4) [.int .i64 (k + (q : Int)), .int .i64 (k + (q : Int) + 1), .int .i64 (k + (q : Int) + 1 + 1)]) hr3 (fun f hf => hk0 f (y3 f hf).2)
      have nd3 : F3.Nodup := hnd
      obtain ⟨W0, hW0⟩ : ∃ W0, puts wr g (off + j * 4) [.int .i64 (k + (q : Int)), .int .i64 (k + (q : Int) + 1), .int .i64 (k + (q : Int) + 1 + 1)] = W0 := ⟨_, rfl⟩
      rw [hW0] at hX0 hgz OG0 hk0 hzz hr3
      have Z0 : wr.heap.size ≤ W0.heap.size := Nat.le_of_eq hzz.symm
      have hX : W0.heap[g]? = some (.cells cur1 et (0, 0)) := hX0
      go_wp2_with fail
      have hWe : (((wr.setCell ⟨g, off + j * 4, none⟩ (.int .i64 (k + (q : Int)))).setCell ⟨g, off + j * 4 + 1, none⟩ (.int .i64 (k + (q : Int) + 1))).setCell ⟨g, off + j * 4 + 2, none⟩ (.int .i64 (k + (q : Int) + 1 + 1))) = W0 := hW0
      rw [hWe]
      refine (o_markPieceS (k + (q : Int) + 1 + 1 + 1) hr3 nd3 (by omega) (by omega)).mono ?_
      rintro e W1 ⟨rfl, hO3, hG3⟩
      have OG1 : Only F w W1 := OG0.trans (hG3.mono (fun f hf => hFi f (by simp [hf])))
      have Z1 : wr.heap.size ≤ W1.heap.size := Nat.le_trans Z0 hG3.size
      have hgz : g < W1.heap.size := Nat.lt_of_lt_of_le hgz hG3.size
      replace hX : W1.heap[g]? = some (.cells cur1 et (0, 0)) := (hG3.block g (by omega) (fun e => (y3 g e).2 rfl)).trans hX
      replace hr3 := hO3
      have wf0 : (Lit.int .i64 (k + (q : Int))).wf = true := WalkArith.wf_i64 (by omega)
      have wf1 : (Lit.int .i64 (k + (q : Int) + 1)).wf = true := WalkArith.wf_i64 (by omega)
      have wf2 : (Lit.int .i64 (k + (q : Int) + 1 + 1)).wf = true := WalkArith.wf_i64 (by omega)
      obtain ⟨F2, hF2, hF2e⟩ := makeOWhole (w := W1) (p := rmWhole (k + (q : Int)) (x0, x1, x2, r3)) wf0 wf1 wf2 hr3
      subst hF2e
      have hfin := hback W1 cur1 [.int .i64 (k + (q : Int)), .int .i64 (k + (q : Int) + 1), .int .i64 (k + (q : Int) + 1 + 1), .slice A3 r3.length c3] (rmWhole (k + (q : Int)) (x0, x1, x2, r3)) hX (by
        intro i hi
        rcases (by omega : i = 0 ∨ i = 1 ∨ i = 2 ∨ i = 3) with rfl | rfl | rfl | rfl
        · exact hval 0 (by omega) (hcz 0 (by omega))
        · exact hval 1 (by omega) (hcz 1 (by omega))
        · exact hval 2 (by omega) (hcz 2 (by omega))
        · rw [hun _ (by omega)]; exact hes 3 (by omega)) (by
        intro q2 hq2
        refine hun q2 ?_
        rcases Nat.lt_or_ge q2 (off + j * 4) with h1 | h1
        · exact .inl h1
        · rcases Nat.lt_or_ge q2 (off + j * 4 + 4) with h2 | h2
          · exact absurd (by omega) (hq2 (q2 - (off + j * 4)) (by omega))
          · exact .inr (by omega)) hF2 (by
        intro f hf h1 h2
        skip
        have hfz : f < wr.heap.size := (tWhole.row).lt hO f hf
        exact ((hG3.block f (by omega) h2).trans (hk0 f h1)))
      have HPq := HP.out
      rw [HQ2.out] at HPq
      rw [HPq] at hfin
      clear HPq
      go_wp2
      go_roundw
      case rel => exact ⟨j + 1, by omega, by rw [HQ.out]; go_num, by go_num, hfin, OG1⟩
      case measure => simp [intOf]; omega
    · obtain rfl : j = n := by omega
      have HA := Lib.hid (show rsum rcWhole (l.take j) = s from by rw [rsum_all (Nat.le_of_eq HLN.out)]; exact HS.out)
      rw [HA.out]
      rw [rpart_all (Nat.le_of_eq HLN.out)] at hO
      go_wp2
      go_ret
      exact ⟨rfl, hO, hG⟩
set_option maxHeartbeats 1000000 in
theorem o_heldWholeS {w : World} {n c : Nat} {A : Option Addr} {l : List DWhole} (k : Int) (h : tWhole.row.R w w.heap.size [.slice A n c] (rmk rcWhole rmWhole k l)) (h0 : 0 ≤ k) (hk : k + rsum rcWhole l ≤ 4611686018427387904) :
    Calls Try.prog 50 #[.slice A n c, .int .i64 k] w fun e w' => e = .returned (.int .i64 (k + rsum rcWhole l)) ∧ Below w.heap.size w w' := by
  obtain ⟨hln, hnc, hcm⟩ := rowR_len h
  rw [rmk_len] at hln
  obtain ⟨s, hs⟩ : ∃ s, rsum rcWhole l = s := ⟨_, rfl⟩
  rw [hs] at hk ⊢
  have HLN := Lib.hid hln
  have HS := Lib.hid hs
  clear hln hs
  go_enter Try.func50, Try.ntmps50
  go_wp2
  go_loopw [1, 5] (fun x i wr => ∃ j : Nat, j ≤ n ∧ x = .int .i64 (k + (rsum rcWhole (l.take j) : Nat)) ∧ i = .int .i64 j ∧ Below w.heap.size w wr) (fun _ i _ => n - (intOf i).toNat)
  case atStart => exact ⟨0, by omega, by rw [rsum_zero]; go_num, rfl, (belx)⟩
  case round =>
    obtain ⟨j, hj, rfl, rfl, hB⟩ := hrel
    by_cases hlt : j < n
    · obtain ⟨a, hl⟩ : ∃ a, l[j]? = some a := ⟨_, List.getElem?_eq_getElem (by rw [HLN.out]; exact hlt)⟩
      obtain ⟨a2, b, off, es, hl2, rfl, hb, hes, hR⟩ := rowR_at (K := 4) h hlt rfl
      have hat := rmk_at (c := rcWhole) (m := rmWhole) (k := k) hl
      obtain rfl : _ = a2 := Option.some.inj (hat.symm.trans hl2)
      clear hl2 hat
      have hsa := rsum_at (c := rcWhole) hl
      have hsn := rsum_sn (c := rcWhole) hl
      rw [HS.out] at hsa
      obtain ⟨q, hq⟩ : ∃ q, rsum rcWhole (l.take j) = q := ⟨_, rfl⟩
      obtain ⟨q', hq'⟩ : ∃ q, rsum rcWhole (l.take (j + 1)) = q := ⟨_, rfl⟩
      rw [hq] at hsa hsn
      rw [hq'] at hsn
      rw [hq] at hR ⊢
      have HQ := Lib.hid hq'
      clear hq hq'
      dsimp only [rcWhole] at hsa hsn
      obtain ⟨A3, n3, c3, rfl, hi0, hi1, hi2, ha3, hb3, hl3, hr3⟩ := openWhole hR
      obtain ⟨x0, x1, x2, r3⟩ := a
      dsimp only [rmWhole] at *
      have q0 : ((k + (q : Int) : Int) != k + (q : Int)) = false := by simp
      have q1 : ((k + (q : Int) + 1 : Int) != k + (q : Int) + 1) = false := by simp
      have q2 : ((k + (q : Int) + 1 + 1 : Int) != k + (q : Int) + 1 + 1) = false := by simp
      have e0 : wr.cell? ⟨b, off + j * 4, none⟩ = some (.int .i64 (k + (q : Int))) := cell_at hB hb (hes 0 (by omega))
      have e1 : wr.cell? ⟨b, off + j * 4 + 1, none⟩ = some (.int .i64 (k + (q : Int) + 1)) := cell_at hB hb (hes 1 (by omega))
      have e2 : wr.cell? ⟨b, off + j * 4 + 2, none⟩ = some (.int .i64 (k + (q : Int) + 1 + 1)) := cell_at hB hb (hes 2 (by omega))
      have e3 : wr.cell? ⟨b, off + j * 4 + 3, none⟩ = some (.slice A3 n3 c3) := cell_at hB hb (hes 3 (by omega))
      have d0 : decide (k + (q : Int) + 1 + 1 + 1 + ((rsum rcPiece r3 : Nat) : Int) < 0) = false := by simp; omega
      go_wp2_with fail
      refine (o_heldPieceS (k + (q : Int) + 1 + 1 + 1) ((tPiece.row).reach hr3 ?hB) (by omega) (by omega)).mono ?_
      case hB => exact (belx)
      rintro e w1 ⟨rfl, hb1⟩
      have hB1 : Below w.heap.size w w1 := bel_trans hB hb1
      have e3_1 : w1.cell? ⟨b, off + j * 4 + 3, none⟩ = some (.slice A3 n3 c3) := cell_at hB1 hb (hes 3 (by omega))
      go_wp2
      go_roundw
      case rel => exact ⟨j + 1, by omega, by rw [HQ.out]; go_num, by go_num, hB1⟩
      case measure => simp [intOf]; omega
    · obtain rfl : j = n := by omega
      have HA := Lib.hid (show rsum rcWhole (l.take j) = s from by rw [rsum_all (Nat.le_of_eq HLN.out)]; exact HS.out)
      rw [HA.out]
      go_wp2
      go_ret
      exact ⟨rfl, hB⟩
end Go.Proofs.Ytojbicecopkfbaa
namespace Go.Proofs.Ytojbicecopkfbaa
set_option maxRecDepth 100000
set_option linter.unusedVariables false
set_option linter.unusedSimpArgs false
open Go.ChangeShapes Go.WideShapes Go.ChangeAt Go.RowKit
theorem o_szDesk_t {w : World} {cs : List Value} {p : DDesk} {k : Int} (h : tDesk.R w w.heap.size cs p) (h1 : 0 ≤ k) (h2 : k ≤ 1048576) (h3 : (szDesk p : Int) ≤ k) :
    Calls Try.prog 7 #[.agg cs.toArray, .int .i64 k] w fun e w' => e = .returned (.int .i64 (k - szDesk p)) ∧ Below w.heap.size w w' := by
  obtain ⟨A0, n0, c0, A1, n1, c1, rfl, ha0, hb0, hl0, hr0, ha1, hb1, hl1, hr1⟩ := openDesk h
  obtain ⟨r0, l1⟩ := p
  try dsimp only [szDesk] at *
  subst hl0
  subst hl1
  have d0 : decide (k - ((rsz szWhole r0 : Nat) : Int) < 0) = false := by simp; omega
  have d1 : decide (k - ((rsz szWhole r0 : Nat) : Int) - ((l1.length : Nat) : Int) < 0) = false := by simp; omega
  go_enter Try.func7, Try.ntmps7
  go_wp2_with fail
  refine (o_szWholeS_t (tWhole.row.reach hr0 ?hB) (by omega) (by omega) (by omega)).mono ?_
  case hB => exact (belx)
  rintro e w1 ⟨rfl, hb1⟩
  have hB1 : Below w.heap.size w w1 := bel_trans (belx) hb1
  have P1 : Box w1 w.heap.size 25 #[.slice A0 r0.length c0, .slice A1 l1.length c1] := (Box.new _ _ _).below hb1 (by first | (simp; done) | (simp; omega))
  have e0_1 := P1.cell 1
  go_wp2_with fail
  refine (o_szIntS_t (tIs.reach hr1 ?hB) (by omega) (by omega) (by omega)).mono ?_
  case hB => exact (belx)
  rintro e w2 ⟨rfl, hb2⟩
  have hB2 : Below w.heap.size w w2 := bel_trans (belx) hb2
  have P2 := P1.below hb2 P1.size
  go_wp2
  go_ret
  exact ⟨ret_int (by omega), hB2⟩
theorem o_szDesk_f {w : World} {cs : List Value} {p : DDesk} {k : Int} (h : tDesk.R w w.heap.size cs p) (h1 : 0 ≤ k) (h2 : k ≤ 1048576) (h3 : ¬ (szDesk p : Int) ≤ k) :
    Calls Try.prog 7 #[.agg cs.toArray, .int .i64 k] w fun e w' => e = .returned (.int .i64 (-1)) ∧ Below w.heap.size w w' := by
  obtain ⟨A0, n0, c0, A1, n1, c1, rfl, ha0, hb0, hl0, hr0, ha1, hb1, hl1, hr1⟩ := openDesk h
  obtain ⟨r0, l1⟩ := p
  try dsimp only [szDesk] at *
  subst hl0
  subst hl1
  by_cases g0 : (((rsz szWhole r0) : Nat) : Int) ≤ k
  rotate_left
  · go_enter Try.func7, Try.ntmps7
    go_wp2_with fail
    refine (o_szWholeS_f (tWhole.row.reach hr0 ?hB) (by omega) (by omega) (by omega)).mono ?_
    case hB => exact (belx)
    rintro e w1 ⟨rfl, hb1⟩
    have hB1 : Below w.heap.size w w1 := bel_trans (belx) hb1
    have P1 : Box w1 w.heap.size 25 #[.slice A0 r0.length c0, .slice A1 l1.length c1] := (Box.new _ _ _).below hb1 (by first | (simp; done) | (simp; omega))
    go_wp2
    go_ret
    exact ⟨rfl, hB1⟩
  have d0 : decide (k - ((rsz szWhole r0 : Nat) : Int) < 0) = false := by simp; omega
  go_enter Try.func7, Try.ntmps7
  go_wp2_with fail
  refine (o_szWholeS_t (tWhole.row.reach hr0 ?hB) (by omega) (by omega) (by omega)).mono ?_
  case hB => exact (belx)
  rintro e w1 ⟨rfl, hb1⟩
  have hB1 : Below w.heap.size w w1 := bel_trans (belx) hb1
  have P1 : Box w1 w.heap.size 25 #[.slice A0 r0.length c0, .slice A1 l1.length c1] := (Box.new _ _ _).below hb1 (by first | (simp; done) | (simp; omega))
  have e0_1 := P1.cell 1
  go_wp2_with fail
  refine (o_szIntS_f (tIs.reach hr1 ?hB) (by omega) (by omega) (by omega)).mono ?_
  case hB => exact (belx)
  rintro e w2 ⟨rfl, hb2⟩
  have hB2 : Below w.heap.size w w2 := bel_trans (belx) hb2
  have P2 := P1.below hb2 P1.size
  go_wp2
  go_ret
  exact ⟨rfl, hB2⟩
set_option maxHeartbeats 400000 in
theorem o_toDesk {w : World} {cs : List Value} {p : DDesk} (h : tDesk.R w w.heap.size cs p) (hn : szDesk p ≤ 1048576) :
    Calls Try.prog 9 #[.agg cs.toArray] w fun e w' => ∃ cs' F, e = .returned (.agg cs'.toArray) ∧ tDesk.O w' cs' p F ∧ New w.heap.size F ∧ Below w.heap.size w w' := by
  obtain ⟨A0, n0, c0, A1, n1, c1, rfl, ha0, hb0, hl0, hr0, ha1, hb1, hl1, hr1⟩ := openDesk h
  obtain ⟨r0, l1⟩ := p
  try dsimp only [szDesk] at *
  subst hl0
  subst hl1
  go_enter Try.func9, Try.ntmps9
  go_wp2_with fail
  refine (o_toWholeS (tWhole.row.reach hr0 ?hB) (by omega)).mono ?_
  case hB => exact (belx)
  rintro e w1 ⟨B0, d0, F0, rfl, o0, hN1, hb1⟩
  have z1 : w.heap.size + 3 ≤ w1.heap.size := by have := hb1.size; simpa using this
  have hB1 : Below w.heap.size w w1 := bel_trans (belx) hb1
  have R1 : Box w1 (w.heap.size + 1) 29 #[.slice none 0 0, .slice none 0 0] := Box.below (Box.alloc (by simpa using Box.new (w.alloc _) 29 #[.slice none 0 0, .slice none 0 0]) _) hb1 (by first | (simp; done) | (simp; omega))
  have L1 : Box w1 (w.heap.size + 1 + 1) 29 #[.slice none 0 0, .slice none 0 0] := Box.below (by simpa using Box.new ((w.alloc _).alloc _) 29 #[.slice none 0 0, .slice none 0 0]) hb1 (by first | (simp; done) | (simp; omega))
  have P1 : Box w1 w.heap.size 25 #[.slice A0 r0.length c0, .slice A1 l1.length c1] := Box.below (((Box.new w 25 #[.slice A0 r0.length c0, .slice A1 l1.length c1]).alloc _).alloc _) hb1 (by first | (simp; done) | (simp; omega))
  have hM1 : New (w.heap.size + 3) (F0) := hN1.lower (by simp)
  clear hN1
  have y1 : ∀ f ∈ F0, f < w1.heap.size := by intro f hf; exact tWhole.row.lt o0 f hf
  have kr1_0 := R1.cell 0; have fr1_0 := R1.frozen 0; have kl1_0 := L1.cell 0; have fl1_0 := L1.frozen 0; have kp1_0 := P1.cell 0
  have kr1_1 := R1.cell 1; have fr1_1 := R1.frozen 1; have kl1_1 := L1.cell 1; have fl1_1 := L1.frozen 1; have kp1_1 := P1.cell 1
  go_wp2_with fail
  refine (o_toIntS (tIs.reach hr1 ?hB) (by omega)).mono ?_
  case hB => exact (belx)
  rintro e w2 ⟨B1, d1, F1, rfl, o1, hN2, hb2⟩
  have z2 : w.heap.size + 3 ≤ w2.heap.size := Nat.le_trans z1 (by have := hb2.size; simpa using this)
  have hB2 : Below w.heap.size w w2 := bel_trans (belx) hb2
  have R2 : Box w2 (w.heap.size + 1) 29 #[.slice none 0 0, .slice none 0 0] := Box.below (R1.far (p := ⟨w.heap.size + 1 + 1, 0, none⟩) (by first | (simp; done) | (simp; omega)) (.slice B0 r0.length d0)) hb2 (by first | (simp; done) | (simp; omega))
  have L2 : Box w2 (w.heap.size + 1 + 1) 29 #[.slice B0 r0.length d0, .slice none 0 0] := Box.below (by simpa using (L1.put 0 (.slice B0 r0.length d0))) hb2 (by first | (simp; done) | (simp; omega))
  have P2 : Box w2 w.heap.size 25 #[.slice A0 r0.length c0, .slice A1 l1.length c1] := Box.below (P1.far (p := ⟨w.heap.size + 1 + 1, 0, none⟩) (by first | (simp; done) | (simp; omega)) (.slice B0 r0.length d0)) hb2 (by first | (simp; done) | (simp; omega))
  replace o0 := Ty.below (t := tWhole.row) (Ty.far (t := tWhole.row) o0 hM1 (p := ⟨w.heap.size + 1 + 1, 0, none⟩) (by first | (simp; done) | (simp; omega)) (.slice B0 r0.length d0)) hb2
  have hM2 : New (w.heap.size + 3) (F1) := hN2.lower (by simp; omega)
  have hV2 : New w1.heap.size (F1) := hN2.lower (by first | (simp; done) | (simp; omega))
  have zz2 : w1.heap.size ≤ w2.heap.size := by have := hb2.size; simpa using this
  clear hN2
  have y2 : ∀ f ∈ F1, f < w2.heap.size := by intro f hf; exact tIs.lt o1 f hf
  have kr2_0 := R2.cell 0; have fr2_0 := R2.frozen 0; have kl2_0 := L2.cell 0; have fl2_0 := L2.frozen 0; have kp2_0 := P2.cell 0
  have kr2_1 := R2.cell 1; have fr2_1 := R2.frozen 1; have kl2_1 := L2.cell 1; have fl2_1 := L2.frozen 1; have kp2_1 := P2.cell 1
  go_wp2
  have RR := (((R2.far (p := ⟨w.heap.size + 1 + 1, 1, none⟩) (by first | (simp; done) | (simp; omega)) (.slice B1 l1.length d1)).put 0 (.slice B0 r0.length d0)).put 1 (.slice B1 l1.length d1))
  have e0 := RR.cell 0
  have e1 := RR.cell 1
  have u0 := (Ty.far (t := tWhole.row) (Ty.far (t := tWhole.row) (Ty.far (t := tWhole.row) o0 hM1 (p := ⟨w.heap.size + 1 + 1, 1, none⟩) (by first | (simp; done) | (simp; omega)) (.slice B1 l1.length d1)) hM1 (p := ⟨w.heap.size + 1, 0, none⟩) (by first | (simp; done) | (simp; omega)) (.slice B0 r0.length d0)) hM1 (p := ⟨w.heap.size + 1, 1, none⟩) (by first | (simp; done) | (simp; omega)) (.slice B1 l1.length d1))
  have u1 := (Ty.far (t := tIs) (Ty.far (t := tIs) (Ty.far (t := tIs) o1 hM2 (p := ⟨w.heap.size + 1 + 1, 1, none⟩) (by first | (simp; done) | (simp; omega)) (.slice B1 l1.length d1)) hM2 (p := ⟨w.heap.size + 1, 0, none⟩) (by first | (simp; done) | (simp; omega)) (.slice B0 r0.length d0)) hM2 (p := ⟨w.heap.size + 1, 1, none⟩) (by first | (simp; done) | (simp; omega)) (.slice B1 l1.length d1))
  obtain ⟨F, hF, hFe⟩ := makeODesk (p := (r0, l1)) u0 u1
  refine bodyPost_ret (v := .agg #[.slice B0 r0.length d0, .slice B1 l1.length d1]) (by simp [results, Try.results9, go_sem, e0, e1]) rfl ⟨_, F, rfl, hF, ?_, ?_⟩
  · rw [hFe]
    exact New.lower (B := w.heap.size + 3) (by exact (New.app hM1 hV2 (by omega) y1)) (by omega)
  · exact (bel_put (bel_put (bel_put hB2 (by first | (simp; done) | (simp; omega)) _) (by first | (simp; done) | (simp; omega)) _) (by first | (simp; done) | (simp; omega)) _)
theorem o_eqDesk {w : World} {cs cs' : List Value} {p : DDesk} (h : tDesk.R w w.heap.size cs p) (h' : tDesk.R w w.heap.size cs' p) :
    Calls Try.prog 11 #[.agg cs.toArray, .agg cs'.toArray] w fun e w' => e = .returned (.bool true) ∧ Below w.heap.size w w' := by
  obtain ⟨A0, n0, c0, A1, n1, c1, rfl, ha0, hb0, hl0, hr0, ha1, hb1, hl1, hr1⟩ := openDesk h
  obtain ⟨A0', n0', c0', A1', n1', c1', rfl, ha0', hb0', hl0', hr0', ha1', hb1', hl1', hr1'⟩ := openDesk h'
  obtain ⟨r0, l1⟩ := p
  try dsimp only at *
  subst hl0
  subst hl0'
  subst hl1
  subst hl1'
  go_enter Try.func11, Try.ntmps11
  go_wp2_with fail
  refine (o_eqWholeS (tWhole.row.reach hr0 ?hB) (tWhole.row.reach hr0' ?hB)).mono ?_
  case hB => exact (belx)
  rintro e w1 ⟨rfl, hb1⟩
  have hB1 : Below w.heap.size w w1 := bel_trans (belx) hb1
  have P1 : Box w1 w.heap.size 29 #[.slice A0 r0.length c0, .slice A1 l1.length c1] := ((Box.new _ _ _).alloc _).below hb1 (by first | (simp; done) | (simp; omega))
  have Q1 : Box w1 (w.heap.size + 1) 29 #[.slice A0' r0.length c0', .slice A1' l1.length c1'] := Box.below (by simpa using Box.new (w.alloc _) 29 #[.slice A0' r0.length c0', .slice A1' l1.length c1']) hb1 (by first | (simp; done) | (simp; omega))
  have e0_1 := P1.cell 1
  have e0_1q := Q1.cell 1
  go_wp2_with fail
  refine (o_eqIntS (tIs.reach hr1 ?hB) (tIs.reach hr1' ?hB)).mono ?_
  case hB => exact (belx)
  rintro e w2 ⟨rfl, hb2⟩
  have hB2 : Below w.heap.size w w2 := bel_trans (belx) hb2
  have P2 := P1.below hb2 P1.size
  have Q2 := Q1.below hb2 Q1.size
  go_wp2
  go_ret
  exact ⟨rfl, hB2⟩
theorem o_markDesk {w : World} {cs : List Value} {p : DDesk} {F : List Nat} (k : Int) (h : tDesk.O w cs p F) (hF : F.Nodup) (h0 : 0 ≤ k) (hk : k + cntDesk p ≤ 4611686018427387904) :
    Calls Try.prog 12 #[.agg cs.toArray, .int .i64 k] w fun e w' => e = .returned (.int .i64 (k + cntDesk p)) ∧ tDesk.O w' cs (mkDesk k p) F ∧ Only F w w' := by
  obtain ⟨A0, c0, F0, A1, c1, F1, rfl, hFe, ha0, hb0, hr0, ha1, hb1, hr1⟩ := openODesk h
  obtain ⟨r0, l1⟩ := p
  try dsimp only [cntDesk] at *
  subst F
  have nd0 : F0.Nodup := (List.nodup_append.1 hF).1
  have nd1 : F1.Nodup := (List.nodup_append.1 hF).2.1
  have ap0_1 : ∀ f ∈ F0, f ∉ F1 := fun f h1 h2 => (List.nodup_append.1 hF).2.2 f (by simp [h1]) f h2 rfl
  go_enter Try.func12, Try.ntmps12
  replace hr0 : tWhole.row.O (w.alloc (.cells #[.slice A0 r0.length c0, .slice A1 l1.length c1] 29)) _ _ _ := Ty.below hr0 (belx)
  replace hr1 : tIs.O (w.alloc (.cells #[.slice A0 r0.length c0, .slice A1 l1.length c1] 29)) _ _ _ := Ty.below hr1 (belx)
  have G0 : Only (F0 ++ F1) w (w.alloc (.cells #[.slice A0 r0.length c0, .slice A1 l1.length c1] 29)) := (Only.refl _ _).alloc _
  have P0 : Box (w.alloc (.cells #[.slice A0 r0.length c0, .slice A1 l1.length c1] 29)) w.heap.size 29 #[.slice A0 r0.length c0, .slice A1 l1.length c1] := Box.new _ _ _
  have y0 : ∀ f ∈ F0, f < w.heap.size := fun f hf => (tDesk).lt h f (by simp [hf])
  have y1 : ∀ f ∈ F1, f < w.heap.size := fun f hf => (tDesk).lt h f (by simp [hf])
  go_wp2_with fail
  refine (o_markWholeS (k) hr0 nd0 (by omega) (by omega)).mono ?_
  rintro e w1 ⟨rfl, hO1, hG1⟩
  have G1 := G0.trans (hG1.mono (by intro f hf; (try simp only [List.mem_append] at hf ⊢); first | assumption | (simp only [hf, true_or, or_true]) | (rcases hf with hf | hf <;> simp only [hf, true_or, or_true])))
  have P1 : Box w1 w.heap.size 29 #[.slice A0 r0.length c0, .slice A1 l1.length c1] := P0.same (hG1.block _ P0.size (by intro e; (try simp only [List.mem_append] at e); rcases e with e <;> first | (have := y0 _ e; omega)))
  have e1_0 := P1.cell 0
  have e1_1 := P1.cell 1
  replace hr1 := Ty.only hr1 hG1 (by intro f hf e; (try simp only [List.mem_append] at e); rcases e with e <;> first | exact ap0_1 f e hf)
  replace hr0 := hO1
  go_wp2_with fail
  refine (o_markIntS (k + ((rsum rcWhole r0 : Nat) : Int)) hr1 (by omega) (by omega)).mono ?_
  rintro e w2 ⟨rfl, hO2, hG2⟩
  have G2 := G1.trans (hG2.mono (by intro f hf; (try simp only [List.mem_append] at hf ⊢); first | assumption | (simp only [hf, true_or, or_true]) | (rcases hf with hf | hf <;> simp only [hf, true_or, or_true])))
  have P2 : Box w2 w.heap.size 29 #[.slice A0 r0.length c0, .slice A1 l1.length c1] := P1.same (hG2.block _ P1.size (by intro e; (try simp only [List.mem_append] at e); rcases e with e <;> first | (have := y1 _ e; omega)))
  have e2_0 := P2.cell 0
  have e2_1 := P2.cell 1
  replace hr0 := Ty.only hr0 hG2 (by intro f hf e; (try simp only [List.mem_append] at e); rcases e with e <;> first | exact ap0_1 f hf e)
  replace hr1 := hO2
  go_wp2
  go_ret
  obtain ⟨F2, hF2, hFe⟩ := makeODesk (p := mkDesk k (r0, l1)) hr0 hr1
  subst F2
  exact ⟨ret_int (by omega), hF2, G2⟩
theorem o_heldDesk {w : World} {cs : List Value} {p : DDesk} (k : Int) (h : tDesk.R w w.heap.size cs (mkDesk k p)) (h0 : 0 ≤ k) (hk : k + cntDesk p ≤ 4611686018427387904) :
    Calls Try.prog 13 #[.agg cs.toArray, .int .i64 k] w fun e w' => e = .returned (.int .i64 (k + cntDesk p)) ∧ Below w.heap.size w w' := by
  obtain ⟨A0, n0, c0, A1, n1, c1, rfl, ha0, hb0, hl0, hr0, ha1, hb1, hl1, hr1⟩ := openDesk h
  obtain ⟨r0, l1⟩ := p
  try dsimp only [cntDesk, mkDesk] at *
  have d0 : decide (k + ((rsum rcWhole r0 : Nat) : Int) < 0) = false := by simp; omega
  have d1 : decide (k + ((rsum rcWhole r0 : Nat) : Int) + ((l1.length : Nat) : Int) < 0) = false := by simp; omega
  go_enter Try.func13, Try.ntmps13
  go_wp2_with fail
  refine (o_heldWholeS (k) (tWhole.row.reach hr0 ?hB) (by omega) (by omega)).mono ?_
  case hB => exact (belx)
  rintro e w1 ⟨rfl, hb1⟩
  have hB1 : Below w.heap.size w w1 := bel_trans (belx) hb1
  have P1 : Box w1 w.heap.size 29 #[.slice A0 n0 c0, .slice A1 n1 c1] := (Box.new _ _ _).below hb1 (by first | (simp; done) | (simp; omega))
  have e0_1 := P1.cell 1
  go_wp2_with fail
  refine (o_heldIntS (k + ((rsum rcWhole r0 : Nat) : Int)) (tIs.reach hr1 ?hB) (by omega) (by omega)).mono ?_
  case hB => exact (belx)
  rintro e w2 ⟨rfl, hb2⟩
  have hB2 : Below w.heap.size w w2 := bel_trans (belx) hb2
  have P2 := P1.below hb2 P1.size
  go_wp2
  go_ret
  exact ⟨ret_int (by omega), hB2⟩
end Go.Proofs.Ytojbicecopkfbaa
namespace Go.Proofs.Ytojbicecopkfbaa
set_option linter.unusedVariables false
open Go.RowKit
section
variable {α : Type} {t : Ty α} {e : TypeId} {w w' : World} {base B n c : Nat} {A : Option Addr} {v : Value} {l l' : List α}
/-- The cells of a row that reads, as what an append takes in. -/
theorem row_src (h : t.row.R w B [.slice A n c] l) (h1 : ∀ es a, t.R w B es a → ∀ u ∈ es, u.oneCell' = true) :
    ∃ css : List (List Value), css.length = l.length ∧ (∀ (i : Nat) (a : α) (es : List Value), l[i]? = some a → css[i]? = some es → t.R w B es a) ∧ Src w t.k A n css.flatten ∧ ∀ u ∈ css.flatten, u.oneCell' = true := by
  obtain ⟨A', n', c', e1, h2, h3, h4, h5⟩ := h
  injection e1 with e1 _
  injection e1 with e1 e2 e3
  subst e1 e2 e3
  by_cases h0 : 0 < n
  · obtain ⟨b, off, rfl, hb, hc⟩ := h5 h0
    have hx : ∀ i, i < l.length → ∃ es, (∀ j, j < t.k → w.cell? ⟨b, off + i * t.k + j, none⟩ = es[j]?) ∧ ∀ a, l[i]? = some a → t.R w B es a := fun i hi => by
      obtain ⟨es, k1, k2⟩ := hc i _ (List.getElem?_eq_getElem hi)
      exact ⟨es, k1, fun a ha => by rw [List.getElem?_eq_getElem hi] at ha; injection ha with ha; rw [← ha]; exact k2⟩
    obtain ⟨css, hcs⟩ : ∃ css, css = (List.range l.length).pmap (fun i hi => (hx i hi).choose) (fun i hi => List.mem_range.1 hi) := ⟨_, rfl⟩
    have hlen : css.length = l.length := by rw [hcs]; simp
    have hat : ∀ i es, css[i]? = some es → ∃ hi : i < l.length, es = (hx i hi).choose := fun i es hi => by
      rw [hcs, List.getElem?_pmap] at hi
      by_cases hl : i < l.length
      · refine ⟨hl, ?_⟩
        simp [List.getElem?_range hl] at hi
        exact hi.symm
      · simp [List.getElem?_eq_none (show (List.range l.length).length ≤ i by simp; omega)] at hi
    have hk : ∀ es ∈ css, es.length = t.k := fun es hes => by
      obtain ⟨i, hi, rfl⟩ := List.getElem_of_mem hes
      obtain ⟨hl, e⟩ := hat i _ (List.getElem?_eq_getElem hi)
      exact t.lenR (B := B) ((congrArg (fun x => t.R w B x _) e).mpr ((hx i hl).choose_spec.2 _ (List.getElem?_eq_getElem hl)))
    refine ⟨css, hlen, fun i a es hi he => ?_, ⟨by rw [flat_len hk, hlen, h4], fun _ => ⟨b, off, rfl, fun j u hj => ?_⟩⟩, fun u hu => ?_⟩
    · obtain ⟨hl, rfl⟩ := hat i es he
      exact (hx i hl).choose_spec.2 a hi
    · have hj2 : j < css.length * t.k := by rw [← flat_len hk]; exact (List.getElem?_eq_some_iff.1 hj).1
      have hkp : 0 < t.k := by
        rcases Nat.eq_zero_or_pos t.k with h | h
        · rw [h] at hj2; omega
        · exact h
      have hq : j / t.k < css.length := (Nat.div_lt_iff_lt_mul hkp).2 hj2
      have hr : j % t.k < t.k := Nat.mod_lt _ hkp
      have e0 : j / t.k * t.k + j % t.k = j := by rw [Nat.mul_comm]; exact Nat.div_add_mod _ _
      have h6 := flat_at hk (List.getElem?_eq_getElem hq) hr
      rw [e0, hj] at h6
      obtain ⟨hl, e⟩ := hat (j / t.k) _ (List.getElem?_eq_getElem hq)
      have h7 := (hx _ hl).choose_spec.1 _ hr
      rw [← e, ← h6, Nat.add_assoc, e0] at h7
      exact h7
    · obtain ⟨es, hes, hu⟩ := List.mem_flatten.1 hu
      obtain ⟨i, hi, rfl⟩ := List.getElem_of_mem hes
      obtain ⟨hl, e⟩ := hat i _ (List.getElem?_eq_getElem hi)
      exact h1 _ _ ((congrArg (fun x => t.R w B x _) e).mpr ((hx i hl).choose_spec.2 _ (List.getElem?_eq_getElem hl))) u hu
  · have hl : l = [] := List.eq_nil_of_length_eq_zero (by omega)
    subst hl
    obtain rfl : n = 0 := by omega
    exact ⟨[], rfl, fun i a es hi => by simp at hi, ⟨by simp, fun h => absurd h h0⟩, fun u hu => by simp at hu⟩
/-- What an append of a whole row sees, and what it leaves. -/
theorem GrowR.rows (h : GrowR t e w base B v l) (hr : t.row.R w B [.slice A n c] l') (h1 : ∀ es a, t.R w B es a → ∀ u ∈ es, u.oneCell' = true) (hb : B ≤ base) (hw : B ≤ w.heap.size) :
    ∃ xs news, w.ownsRow base e t.k v l.length xs ∧ Src w t.k A n news ∧ (∀ u ∈ news, u.oneCell' = true) ∧
      ∀ w3 v1, w3.ownsRow base e t.k v1 (l.length + n) (xs ++ news) → w.grownBy w3 v.ownBlock → GrowR t e w3 base B v1 (l ++ l') := by
  obtain ⟨css2, k1, k2, k3, k4⟩ := row_src hr h1
  have hn : l'.length = n := (rowR_len hr).1
  obtain ⟨css, g1, g2, g5⟩ := h
  have hown := fun b hb => g1.lt b hb
  refine ⟨css.flatten, css2.flatten, g1, k3, k4, fun w3 v1 q5 q6 => ⟨css ++ css2, ?_, by simp [g2, k1], ?_⟩⟩
  · rw [List.length_append, List.flatten_append, hn]
    exact q5
  · have keep : ∀ b, b < B → w3.heap[b]? = w.heap[b]? := fun b hlt => q6.block b (by omega) fun e => by have := (hown b e.symm).1; omega
    intro i b cs r1 r2
    by_cases hi : i < l.length
    · rw [List.getElem?_append_left hi] at r1
      rw [List.getElem?_append_left (by omega)] at r2
      exact t.keep (g5 i b cs r1 r2) keep
    · rw [List.getElem?_append_right (by omega)] at r1
      rw [List.getElem?_append_right (by omega), g2] at r2
      exact t.keep (k2 _ b cs r1 r2) keep
end
theorem step_app5 {P : Program} (w : World) {ops : Array Oper} {o : Oper} {a : Act} {K : Act → World → Prop} {Q : Exit → Act → World → Prop} {E : Prop} (hgd : o.guard = none) (s x : Operand) (t : TypeId)
    (ho : o.op = .call { callee := .builtin .append, args := #[s, x], argTypes := #[t, t] })
    (base : Nat) (e : TypeId) (i : TypeInfo) (z : Value) (size bytes : Nat) (ht : P.underlying t = some (.slice e)) (hi : P.info? e = some i) (hz : i.zero = some z)
    (hsize : i.size = size) (hby : i.bytes = bytes) (hzs : z.cells.size = size) (hsz : 0 < size)
    (v : Value) (n : Nat) (xs : List Value) (hs : a.eval s = v) (hown : w.ownsRow base e size v n xs)
    (A : Option Addr) (m c : Nat) (news : List Value) (hx : a.eval x = .slice A m c) (hr : Src w size A m news) (h1 : ∀ u ∈ news, u.oneCell' = true)
    (h63 : n + m ≤ maxLen) (hbytes : (n + m) * bytes ≤ 140737488355328) (hbase : base ≤ w.heap.size)
    (h : ∀ v' w', w'.ownsRow base e size v' (n + m) (xs ++ news) → w.grownBy w' v.ownBlock → (v'.ownBlock = v.ownBlock ∨ v'.ownBlock = some w.heap.size) → K (a.put o.dst v') w') :
    if Region.wanted o (yielded ops a.tmps) = true then Oper.wp P o a w K Q else E := by
  have hw : Region.wanted o (yielded ops a.tmps) = true := by simp [Region.wanted, hgd]
  rw [if_pos hw]
  exact wp_app w s x t ho base e i z size bytes ht hi hz hsize hby hzs hsz v n xs hs hown A m c news hx hr h1 h63 hbytes hbase h
/-- A struct's cells in a block, as what an append takes in. -/
theorem Src.of_boxed {w : World} {g : Nat} {e : TypeId} {es : List Value} {K : Nat} (hb : Box w g e es.toArray) (hK : es.length = K) : Src w K (some ⟨g, 0, none⟩) 1 es := by
  refine ⟨by omega, fun _ => ⟨_, 0, rfl, fun j u hj => ?_⟩⟩
  rw [Nat.zero_add, hb.cell]
  simpa using hj
section
variable {α : Type} {t : Ty α} {e : TypeId} {w w' : World} {base B n c : Nat} {v : Value} {l : List α} {F : List Nat}
theorem GrowR.own (h : GrowR t e w base B v l) : ∀ b, v.ownBlock = some b → base ≤ b ∧ b < w.heap.size := fun b hb => by
  obtain ⟨css, h1, _⟩ := h; exact h1.lt b hb
theorem GrowR.put (h : GrowR t e w base B v l) {p : Addr} (h1 : p.block < base) (h2 : B ≤ p.block) (u : Value) : GrowR t e (w.setCell p u) base B v l := by
  obtain ⟨css, k1, k2, k5⟩ := h
  refine ⟨css, k1.kept (row := some p.block) ⟨rfl, rfl, rfl, by simp [World.setCell], fun i hi hn => Below.heap_setCell w p u i (fun e => hn (by rw [e]))⟩ ?_, k2, fun i a es q1 q2 => t.keep (k5 i a es q1 q2) fun b hlt => Below.heap_setCell w p u b (by omega)⟩
  refine .inr fun e => ?_
  have := (k1.lt _ e).1
  omega
theorem GrowR.shape (h : GrowR t e w base B v l) : ∃ A c, v = .slice A l.length c := by
  obtain ⟨css, h1, _⟩ := h
  rcases h1.2 with ⟨rfl, h0⟩ | ⟨g, cap, cur, rfl, _⟩
  · exact ⟨none, 0, by rw [h0]⟩
  · exact ⟨_, cap, rfl⟩
theorem GrowO.shape (h : GrowO t e w base v l F) : ∃ A c, v = .slice A l.length c := by
  obtain ⟨⟨css, Fs, h1, _⟩, _⟩ := h
  rcases h1.2 with ⟨rfl, h0⟩ | ⟨g, cap, cur, rfl, _⟩
  · exact ⟨none, 0, by rw [h0]⟩
  · exact ⟨_, cap, rfl⟩
theorem GrowR.shapeN (h : GrowR t e w base B v l) : ∃ A n c, v = .slice A n c ∧ n = l.length := by
  obtain ⟨A, c, rfl⟩ := h.shape; exact ⟨A, _, c, rfl, rfl⟩
theorem GrowR.doneAs {A : Option Addr} (h : GrowR t e w base B (.slice A n c) l) (hw : B ≤ w.heap.size) : t.row.R w w.heap.size [.slice A n c] l := by
  obtain ⟨A', c', e1, h2⟩ := h.done hw
  injection e1 with e1 e2 e3
  subst e1 e2 e3
  exact h2
theorem GrowO.shapeN (h : GrowO t e w base v l F) : ∃ A n c, v = .slice A n c ∧ n = l.length := by
  obtain ⟨A, c, rfl⟩ := h.shape; exact ⟨A, _, c, rfl, rfl⟩
theorem GrowO.own (h : GrowO t e w base v l F) : ∀ b, v.ownBlock = some b → base ≤ b ∧ b < w.heap.size := fun b hb => by
  obtain ⟨⟨css, Fs, h1, _⟩, _⟩ := h; exact h1.lt b hb
variable {P : Program} {ops : Array Oper} {rest : List Oper} {o : Oper} {a : Act} {K : Act → World → Prop} {Q : Exit → Act → World → Prop} {E : Prop}
/-- One struct more behind a row that reads: the step of a drawn region. -/
theorem GrowR.step (hgd : o.guard = none) (s x : Operand) (ty : TypeId) (ho : o.op = .call { callee := .builtin .append, args := #[s, x], argTypes := #[ty, ty] })
    (i : TypeInfo) (z : Value) (size bytes : Nat) (ht : P.underlying ty = some (.slice e)) (hi : P.info? e = some i) (hz : i.zero = some z) (hsize : i.size = size) (hby : i.bytes = bytes) (hzs : z.cells.size = size) (hsz : 0 < size) (hk : t.k = size)
    (hs : a.eval s = v) (hG : GrowR t e w base B v l) (g : Nat) (es : List Value) (el : α) (hx : a.eval x = .slice (some ⟨g, 0, none⟩) 1 1) (hb : Box w g e es.toArray) (hR : t.R w B es el) (h1 : ∀ u ∈ es, u.oneCell' = true)
    (hB : B ≤ base) (hw : base ≤ w.heap.size) (h63 : l.length + 1 ≤ maxLen) (hbytes : (l.length + 1) * bytes ≤ 140737488355328)
    (h : ∀ v' w', GrowR t e w' base B v' (l ++ [el]) → w.grownBy w' v.ownBlock → K (a.put o.dst v') w') :
    if Region.wanted o (yielded ops a.tmps) = true then Oper.wp P o a w K Q else E := by
  subst hk
  obtain ⟨xs, hrow, hpush⟩ := hG.row hB (Nat.le_trans hB hw)
  exact step_app5 w hgd s x ty ho base e i z t.k bytes ht hi hz hsize hby hzs hsz v l.length xs hs hrow _ 1 1 es hx (Src.of_boxed hb (t.lenR hR)) h1 h63 hbytes hw fun v' w' q1 q2 _ => h v' w' (hpush w' v' el es hR q1 q2) q2
/-- The same in a plain region. -/
theorem GrowR.push (hgd : o.guard = none) (s x : Operand) (ty : TypeId) (ho : o.op = .call { callee := .builtin .append, args := #[s, x], argTypes := #[ty, ty] })
    (i : TypeInfo) (z : Value) (size bytes : Nat) (ht : P.underlying ty = some (.slice e)) (hi : P.info? e = some i) (hz : i.zero = some z) (hsize : i.size = size) (hby : i.bytes = bytes) (hzs : z.cells.size = size) (hsz : 0 < size) (hk : t.k = size)
    (hs : a.eval s = v) (hG : GrowR t e w base B v l) (g : Nat) (es : List Value) (el : α) (hx : a.eval x = .slice (some ⟨g, 0, none⟩) 1 1) (hb : Box w g e es.toArray) (hR : t.R w B es el) (h1 : ∀ u ∈ es, u.oneCell' = true)
    (hB : B ≤ base) (hw : base ≤ w.heap.size) (h63 : l.length + 1 ≤ maxLen) (hbytes : (l.length + 1) * bytes ≤ 140737488355328)
    (h : ∀ v' w', GrowR t e w' base B v' (l ++ [el]) → w.grownBy w' v.ownBlock → wpList P ops Q rest (a.put o.dst v') w') : wpList P ops Q (o :: rest) a w := by
  subst hk
  obtain ⟨xs, hrow, hpush⟩ := hG.row hB (Nat.le_trans hB hw)
  exact wpList_app w hgd s x ty ho base e i z t.k bytes ht hi hz hsize hby hzs hsz v l.length xs hs hrow _ 1 1 es hx (Src.of_boxed hb (t.lenR hR)) h1 h63 hbytes hw fun v' w' q1 q2 _ => h v' w' (hpush w' v' el es hR q1 q2) q2
/-- One struct more behind a call's own row, each owning what it holds: the step of a drawn region. -/
theorem GrowO.step (hgd : o.guard = none) (s x : Operand) (ty : TypeId) (ho : o.op = .call { callee := .builtin .append, args := #[s, x], argTypes := #[ty, ty] })
    (i : TypeInfo) (z : Value) (size bytes : Nat) (ht : P.underlying ty = some (.slice e)) (hi : P.info? e = some i) (hz : i.zero = some z) (hsize : i.size = size) (hby : i.bytes = bytes) (hzs : z.cells.size = size) (hsz : 0 < size) (hk : t.k = size)
    (hs : a.eval s = v) (hG : GrowO t e w base v l F) (g : Nat) (es : List Value) (el : α) {Fa : List Nat} (hx : a.eval x = .slice (some ⟨g, 0, none⟩) 1 1) (hb : Box w g e es.toArray) (hO : t.O w es el Fa) (hN : New base Fa) (hd : ∀ f ∈ Fa, f ∉ F) (hv : ∀ b, v.ownBlock = some b → b ∉ Fa) (h1 : ∀ u ∈ es, u.oneCell' = true)
    (hw : base ≤ w.heap.size) (h63 : l.length + 1 ≤ maxLen) (hbytes : (l.length + 1) * bytes ≤ 140737488355328)
    (h : ∀ v' w', GrowO t e w' base v' (l ++ [el]) (F ++ Fa) → w.grownBy w' v.ownBlock → K (a.put o.dst v') w') :
    if Region.wanted o (yielded ops a.tmps) = true then Oper.wp P o a w K Q else E := by
  subst hk
  obtain ⟨xs, hrow, hpush⟩ := hG.row
  exact step_app5 w hgd s x ty ho base e i z t.k bytes ht hi hz hsize hby hzs hsz v l.length xs hs hrow _ 1 1 es hx (Src.of_boxed hb (t.lenO hO)) h1 h63 hbytes hw fun v' w' q1 q2 q3 => h v' w' (hpush w' v' el es Fa hO hN hd hv q1 q2 q3) q2
/-- The same in a plain region. -/
theorem GrowO.push (hgd : o.guard = none) (s x : Operand) (ty : TypeId) (ho : o.op = .call { callee := .builtin .append, args := #[s, x], argTypes := #[ty, ty] })
    (i : TypeInfo) (z : Value) (size bytes : Nat) (ht : P.underlying ty = some (.slice e)) (hi : P.info? e = some i) (hz : i.zero = some z) (hsize : i.size = size) (hby : i.bytes = bytes) (hzs : z.cells.size = size) (hsz : 0 < size) (hk : t.k = size)
    (hs : a.eval s = v) (hG : GrowO t e w base v l F) (g : Nat) (es : List Value) (el : α) {Fa : List Nat} (hx : a.eval x = .slice (some ⟨g, 0, none⟩) 1 1) (hb : Box w g e es.toArray) (hO : t.O w es el Fa) (hN : New base Fa) (hd : ∀ f ∈ Fa, f ∉ F) (hv : ∀ b, v.ownBlock = some b → b ∉ Fa) (h1 : ∀ u ∈ es, u.oneCell' = true)
    (hw : base ≤ w.heap.size) (h63 : l.length + 1 ≤ maxLen) (hbytes : (l.length + 1) * bytes ≤ 140737488355328)
    (h : ∀ v' w', GrowO t e w' base v' (l ++ [el]) (F ++ Fa) → w.grownBy w' v.ownBlock → wpList P ops Q rest (a.put o.dst v') w') : wpList P ops Q (o :: rest) a w := by
  subst hk
  obtain ⟨xs, hrow, hpush⟩ := hG.row
  exact wpList_app w hgd s x ty ho base e i z t.k bytes ht hi hz hsize hby hzs hsz v l.length xs hs hrow _ 1 1 es hx (Src.of_boxed hb (t.lenO hO)) h1 h63 hbytes hw fun v' w' q1 q2 q3 => h v' w' (hpush w' v' el es Fa hO hN hd hv q1 q2 q3) q2
end
end Go.Proofs.Ytojbicecopkfbaa
namespace Go.Proofs.Ytojbicecopkfbaa
set_option maxRecDepth 100000
set_option linter.unusedVariables false
set_option linter.unusedSimpArgs false
open Go.ChangeShapes Go.WideShapes Go.ChangeAt Go.RowKit
theorem i_isAsc {w : World} {n c : Nat} {A : Option Addr} {l : List Int} (b : Bool) (T : Asc l → b = true) (F : ¬ Asc l → b = false) (hl : Ints .i64 w w.heap.size A n l) (hn : n ≤ 17592186043904) :
    Calls Try.prog 90 #[.slice A n c] w fun e w' => e = .returned (.bool b) ∧ Below w.heap.size w w' := by
  have HL := Lib.hid hl.1
  have HT := Lib.hid T
  have HF := Lib.hid F
  clear T F
  go_enter Try.func90, Try.ntmps90
  go_wp2_with fail
  go_loopw [3] (fun i wr => ∃ q : Nat, (q < n ∨ q = 0) ∧ i = .int .i64 ((q : Int) + 1) ∧ Below w.heap.size w wr ∧ ∀ x, x < q → l.getD x 0 < l.getD (x + 1) 0) (fun i _ => n - (intOf i).toNat)
  case atStart => exact ⟨0, .inr rfl, rfl, (belx), fun x h => absurd h (by omega)⟩
  case round =>
    obtain ⟨q, hq, rfl, hB, hG⟩ := hrel
    have HG := Lib.hid hG
    clear hG
    by_cases hlt : q + 1 < n
    · obtain ⟨bA, off, rfl, hb, hc⟩ := hl.2.1 (by omega)
      have u1 : wr.cell? ⟨bA, off + (q + 1), none⟩ = some (.int .i64 (l.getD (q + 1) 0)) := cell_at hB hb (hc (q + 1) hlt)
      have u0 : wr.cell? ⟨bA, off + q, none⟩ = some (.int .i64 (l.getD q 0)) := cell_at hB hb (hc q (by omega))
      obtain ⟨y, hy⟩ : ∃ y, l.getD (q + 1) 0 = y := ⟨_, rfl⟩
      obtain ⟨z, hz⟩ : ∃ z, l.getD q 0 = z := ⟨_, rfl⟩
      have HY := Lib.hid hy
      have HZ := Lib.hid hz
      rw [hy] at u1
      rw [hz] at u0
      clear hy hz hc
      have i1 : (q : Int) + 1 < (n : Int) := by omega
      have i2 : (0 : Int) ≤ (q : Int) := by omega
      have i3 : (q : Int) < (n : Int) := by omega
      have t1 : ((q : Int) + 1).toNat = q + 1 := by omega
      by_cases b2 : y ≤ z
      · obtain rfl := HF.out (fun h => by have := h q (by rw [HL.out]; exact hlt); rw [HY.out, HZ.out] at this; omega)
        have d2 : decide (y ≤ z) = true := decide_eq_true b2
        clear HT HF
        go_wp2_with fail
        go_quiet (fail)
        go_wp2
        go_ret
        exact ⟨rfl, below_drewN hB _⟩
      · have d2 : decide (y ≤ z) = false := decide_eq_false b2
        have HN := Lib.hid (show z < y by omega)
        go_wp2_with fail
        go_quiet (fail)
        go_wp2
        go_roundw
        case rel => exact ⟨q + 1, .inl hlt, by go_num, below_drewN hB _, fun x hx => by rcases Nat.lt_succ_iff_lt_or_eq.1 hx with h | rfl; exact HG.out x h; rw [HY.out, HZ.out]; exact HN.out⟩
        case measure => simp [intOf]; omega
    · obtain rfl := HT.out (fun i hi => HG.out i (by rw [HL.out] at hi; omega))
      have i1 : ¬ (q : Int) + 1 < (n : Int) := by omega
      clear HT HF
      go_wp2
      go_ret
      exact ⟨rfl, hB⟩
theorem i_isIdB (x : Int) (w : World) : Calls Try.prog 89 #[.int .i64 x] w fun e w' => e = .returned (.bool (decide (0 ≤ x ∧ x ≤ 255))) ∧ w = w' := by
  by_cases h : 0 ≤ x ∧ x ≤ 255
  · rw [decide_eq_true h]; exact i_isId_t x w h.1 h.2
  · rw [decide_eq_false h]; exact i_isId_f x w h
theorem i4_isDue_t (x : Int) (w : World) (h1 : 0 ≤ x) (h2 : x ≤ 65535) : Calls Try.prog 60 #[.int .i64 x] w fun e w' => e = .returned (.bool true) ∧ w = w' := by
  go_enter Try.func60, Try.ntmps60
  go_wp2
  go_ret
  exact ⟨ret_bool (by first | (simp; done) | (simp; omega)), rfl⟩
theorem i4_isDue_f (x : Int) (w : World) (h : ¬ (0 ≤ x ∧ x ≤ 65535)) : Calls Try.prog 60 #[.int .i64 x] w fun e w' => e = .returned (.bool false) ∧ w = w' := by
  by_cases h1 : x < 0
  · clear h
    go_enter Try.func60, Try.ntmps60
    go_wp2
    go_ret
    exact ⟨rfl, rfl⟩
  · have h2 : 65535 < x := by omega
    clear h
    go_enter Try.func60, Try.ntmps60
    go_wp2
    go_ret
    exact ⟨ret_bool (by first | (simp; done) | (simp; omega)), rfl⟩
theorem i_IndexI_t {w : World} {B n c : Nat} {A : Option Addr} {l : List Int} (x : Int) (hl : Ints .i64 w B A n l) (hn : n ≤ 17592186043904) (hx : x ∈ l) :
    Calls Try.prog 146 #[.slice A n c, .int .i64 x] w fun e w' => (∃ k : Nat, e = .returned (.int .i64 k) ∧ k < 17592186043904) ∧ w = w' := by
  have HL := Lib.hid hl.1
  go_enter Try.func146, Try.ntmps146
  go_wp2_with fail
  go_loop [8] (fun i => ∃ j : Nat, j ≤ n ∧ i = .int .i64 j ∧ ∀ y ∈ l.take j, y ≠ x) (fun i => n - (intOf i).toNat)
  case atStart => exact ⟨0, by omega, rfl, al0⟩
  case round =>
    obtain ⟨j, hj, rfl, hG⟩ := hrel
    have HG := Lib.hid hG
    clear hG
    by_cases hlt : j < n
    · obtain ⟨b, off, rfl, hb, hcell, hwf⟩ := hl.at_ hlt
      have HA := Lib.hid (atI HL.out hlt)
      obtain ⟨y, hy⟩ : ∃ y, l.getD j 0 = y := ⟨_, rfl⟩
      rw [hy] at hcell HA
      clear hy hwf
      by_cases he : x = y
      · subst he
        go_wp2
        go_ret
        exact ⟨⟨j, rfl, by omega⟩, rfl⟩
      · have q : (x == y) = false := by simpa using he
        have HN := Lib.hid (fun e : y = x => he e.symm)
        clear he
        go_wp2
        go_round
        case rel => exact ⟨j + 1, by omega, by go_num, alS HG.out HA.out HN.out⟩
        case measure => simp [intOf]; omega
    · exact absurd rfl (alE HG.out (by rw [HL.out]; omega) x hx)
theorem i_IndexI_f {w : World} {B n c : Nat} {A : Option Addr} {l : List Int} (x : Int) (hl : Ints .i64 w B A n l) (hn : n ≤ 17592186043904) (hx : x ∉ l) :
    Calls Try.prog 146 #[.slice A n c, .int .i64 x] w fun e w' => e = .returned (.int .i64 (-1)) ∧ w = w' := by
  have HL := Lib.hid hl.1
  have HX := Lib.hid hx
  clear hx
  go_enter Try.func146, Try.ntmps146
  go_wp2_with fail
  go_loop [8] (fun i => ∃ j : Nat, j ≤ n ∧ i = .int .i64 j) (fun i => n - (intOf i).toNat)
  case atStart => exact ⟨0, by omega, rfl⟩
  case round =>
    obtain ⟨j, hj, rfl⟩ := hrel
    by_cases hlt : j < n
    · obtain ⟨b, off, rfl, hb, hcell, hwf⟩ := hl.at_ hlt
      have HA := Lib.hid (atI HL.out hlt)
      obtain ⟨y, hy⟩ : ∃ y, l.getD j 0 = y := ⟨_, rfl⟩
      rw [hy] at hcell HA
      clear hy hwf
      have q : (x == y) = false := by simp; rintro rfl; exact HX.out (alMem HA.out)
      go_wp2
      go_round
      case rel => exact ⟨j + 1, by omega, by go_num⟩
      case measure => simp [intOf]; omega
    · obtain rfl : n = j := by omega
      go_wp2
      go_ret
      exact ⟨rfl, rfl⟩
theorem i_ContainsI {w : World} {B n c : Nat} {A : Option Addr} {l : List Int} (x : Int) (hl : Ints .i64 w B A n l) (hn : n ≤ 17592186043904) :
    Calls Try.prog 96 #[.slice A n c, .int .i64 x] w fun e w' => e = .returned (.bool (decide (x ∈ l))) ∧ w = w' := by
  by_cases hx : x ∈ l
  · have HR := Lib.hid (show decide (x ∈ l) = true from decide_eq_true hx)
    go_enter Try.func96, Try.ntmps96
    go_wp2_with fail
    refine (i_IndexI_t x hl hn hx).mono ?_
    rintro e w' ⟨⟨k, rfl, hk⟩, rfl⟩
    clear hx
    go_wp2
    go_ret
    exact ⟨ret_bool (by first | (rw [HR.out]; done) | (rw [HR.out]; simp; done) | (rw [HR.out]; simp; omega)), rfl⟩
  · have HR := Lib.hid (show decide (x ∈ l) = false from decide_eq_false hx)
    go_enter Try.func96, Try.ntmps96
    go_wp2_with fail
    refine (i_IndexI_f x hl hn hx).mono ?_
    rintro e w' ⟨rfl, rfl⟩
    clear hx
    go_wp2
    go_ret
    exact ⟨ret_bool HR.out.symm, rfl⟩
theorem i_PcAt {w : World} {cs : List Value} {p : DPiece} (h : tPiece.R w w.heap.size cs p) :
    Calls Try.prog 145 #[.agg cs.toArray] w fun e w' => e = .returned (.int .i64 p.2.1) ∧ Below w.heap.size w w' := by
  obtain ⟨A3, n3, c3, rfl, hi0, hi1, hi2, ha3, hb3, hl3, hr3⟩ := openPiece h
  go_enter Try.func145, Try.ntmps145
  go_wp2
  go_ret
  exact ⟨rfl, (belx)⟩
theorem i_lacking (A3 : Option Addr) (n3 c3 : Nat) (x0 x1 x2 y : Int) (w : World) (hy : IntKind.i64.wrap (x1 - (n3 : Int)) = y) :
    Calls Try.prog 140 #[.agg #[.int .i64 x0, .int .i64 x1, .int .i64 x2, .slice A3 n3 c3]] w fun e w' => e = .returned (.int .i64 y) ∧ Below w.heap.size w w' := by
  go_enter Try.func140, Try.ntmps140
  go_wp2
  go_ret
  exact ⟨rfl, (belx)⟩
/-- What isPartial asks of each fragment. -/
def pcW (x0 x1 : Int) (p : DPiece) : Bool := decide (PcOk p ∧ p.1 = x0 ∧ p.2.2.1 = x1)
theorem i_isPart1 {w : World} {g : Nat} {cs : List Value} {p : DPiece} {x0 x1 : Int} (h : tPiece.R w w.heap.size cs p) (hz : szPiece p ≤ 1048576) (hg0 : w.cell? ⟨g, 0, none⟩ = some (.int .i64 x0)) (hg1 : w.cell? ⟨g, 1, none⟩ = some (.int .i64 x1)) :
    Calls Try.prog 142 #[.agg cs.toArray, .pointer (some ⟨g, 0, none⟩)] w fun e w' => e = .returned (.bool (pcW x0 x1 p)) ∧ Below w.heap.size w w' := by
  obtain ⟨A3, n3, c3, rfl, -, -, -, -, -, -, -⟩ := openPiece h
  by_cases hp : PcOk p
  · have HP := Lib.hid (decide_eq_true hp)
    have step : ∀ (b : Bool), pcW x0 x1 p = b → Calls Try.prog 142 #[.agg #[.int .i64 p.1, .int .i64 p.2.1, .int .i64 p.2.2.1, .slice A3 n3 c3], .pointer (some ⟨g, 0, none⟩)] w fun e w' => e = .returned (.bool b) ∧ Below w.heap.size w w' := by
      intro b hb
      have HPW := Lib.hid hb
      clear hb
      by_cases h1 : p.1 = x0
      · by_cases h2 : p.2.2.1 = x1
        · obtain rfl : true = b := by rw [← HPW.out]; exact (decide_eq_true ⟨hp, h1, h2⟩).symm
          have d1 : (p.1 == x0) = true := by simpa using h1
          have d2 : (p.2.2.1 == x1) = true := by simpa using h2
          clear hp h1 h2
          go_enter Try.func142, Try.ntmps142
          go_wp2_with fail
          refine (i_PieceOk (tPiece.reach h ?hB) hz).mono ?_
          case hB => exact (belx)
          rintro e w1 ⟨rfl, hb1⟩
          rw [HP.out]
          have X1 := (Box.new w 123 #[.int .i64 p.1, .int .i64 p.2.1, .int .i64 p.2.2.1, .slice A3 n3 c3]).below hb1 (by simp)
          have x0' := X1.cell 0
          have x2' := X1.cell 2
          have hB1 : Below w.heap.size w w1 := bel_trans (belx) hb1
          have g0 := cell_bel hB1 hg0
          have g1 := cell_bel hB1 hg1
          go_wp2
          go_ret
          exact ⟨ret_bool (by first | exact d2 | (simp [d1, d2]; done)), hB1⟩
        · obtain rfl : false = b := by rw [← HPW.out]; exact (decide_eq_false fun h => h2 h.2.2).symm
          have d1 : (p.1 == x0) = true := by simpa using h1
          have d2 : (p.2.2.1 == x1) = false := by simpa using h2
          clear hp h1 h2
          go_enter Try.func142, Try.ntmps142
          go_wp2_with fail
          refine (i_PieceOk (tPiece.reach h ?hB) hz).mono ?_
          case hB => exact (belx)
          rintro e w1 ⟨rfl, hb1⟩
          rw [HP.out]
          have X1 := (Box.new w 123 #[.int .i64 p.1, .int .i64 p.2.1, .int .i64 p.2.2.1, .slice A3 n3 c3]).below hb1 (by simp)
          have x0' := X1.cell 0
          have x2' := X1.cell 2
          have hB1 : Below w.heap.size w w1 := bel_trans (belx) hb1
          have g0 := cell_bel hB1 hg0
          have g1 := cell_bel hB1 hg1
          go_wp2
          go_ret
          exact ⟨ret_bool (by first | exact d2 | (simp [d1, d2]; done)), hB1⟩
      · obtain rfl : false = b := by rw [← HPW.out]; exact (decide_eq_false fun h => h1 h.2.1).symm
        have d1 : (p.1 == x0) = false := by simpa using h1
        clear hp h1
        go_enter Try.func142, Try.ntmps142
        go_wp2_with fail
        refine (i_PieceOk (tPiece.reach h ?hB) hz).mono ?_
        case hB => exact (belx)
        rintro e w1 ⟨rfl, hb1⟩
        rw [HP.out]
        have X1 := (Box.new w 123 #[.int .i64 p.1, .int .i64 p.2.1, .int .i64 p.2.2.1, .slice A3 n3 c3]).below hb1 (by simp)
        have x0' := X1.cell 0
        have x2' := X1.cell 2
        have hB1 : Below w.heap.size w w1 := bel_trans (belx) hb1
        have g0 := cell_bel hB1 hg0
        have g1 := cell_bel hB1 hg1
        go_wp2
        go_ret
        exact ⟨rfl, hB1⟩
    exact step _ rfl
  · have HP := Lib.hid (decide_eq_false hp)
    have HR := Lib.hid (show pcW x0 x1 p = false from decide_eq_false fun h => hp h.1)
    rw [HR.out]
    clear hp
    go_enter Try.func142, Try.ntmps142
    go_wp2_with fail
    refine (i_PieceOk (tPiece.reach h ?hB) hz).mono ?_
    case hB => exact (belx)
    rintro e w1 ⟨rfl, hb1⟩
    rw [HP.out]
    go_wp2
    go_ret
    exact ⟨rfl, bel_trans (belx) hb1⟩
theorem pcs_sz {r : List DPiece} {i : Nat} {a : DPiece} (h : rsz szPiece r ≤ 1048576) (ha : r[i]? = some a) : szPiece a ≤ 1048576 := by
  have := rsz_step (s := szPiece) ha; omega
theorem pcs_wf {w : World} {B n c : Nat} {A : Option Addr} {r : List DPiece} (h : tPiece.row.R w B [.slice A n c] r) : ∀ a ∈ r, (Lit.int .i64 a.2.1).wf = true := by
  intro a ha
  obtain ⟨i, hi, rfl⟩ := List.getElem_of_mem ha
  obtain ⟨b, bb, off, es, hb, -, -, -, hR⟩ := rowR_at (K := 4) h (show i < n by have := (rowR_len h).1; omega) rfl
  rw [List.getElem?_eq_getElem hi] at hb
  injection hb with hb
  subst hb
  obtain ⟨A3, n3, c3, rfl, hi0, hi1, hi2, -, -, -, -⟩ := openPiece hR
  exact hi1
set_option maxHeartbeats 8000000 in
theorem i_isPartialN {w : World} {A3 : Option Addr} {n3 c3 : Nat} {x0 x1 x2 : Int} {r3 : List DPiece} (b : Bool) (T : WhN (x0, x1, x2, r3) → b = true) (F : ¬ WhN (x0, x1, x2, r3) → b = false)
    (rg1 : -9223372036854775808 ≤ x1 ∧ x1 ≤ 9223372036854775807) (h3 : tPiece.row.R w w.heap.size [.slice A3 n3 c3] r3) (hz : rsz szPiece r3 ≤ 1048576) :
    Calls Try.prog 95 #[.agg #[.int .i64 x0, .int .i64 x1, .int .i64 x2, .slice A3 n3 c3]] w fun e w' => e = .returned (.bool b) ∧ Below w.heap.size w w' := by
  obtain ⟨e0, hnc, hcm⟩ := rowR_len h3
  have hn : n3 ≤ 1048576 := by have := rsz_le (s := szPiece) r3; omega
  have HL := Lib.hid e0
  have HZ := Lib.hid hz
  have HT := Lib.hid T
  have HF := Lib.hid F
  have hwf := Lib.hid (pcs_wf h3)
  clear T F e0 hz
  by_cases hd : 0 ≤ x2 ∧ x2 ≤ 65535
  rotate_left
  · obtain rfl := HF.out (fun h => hd h.1)
    clear HT HF
    go_enter Try.func95, Try.ntmps95
    go_wp2_with (go_at_call 60; refine (i4_isDue_f _ _ hd).mono ?_; rintro e w' ⟨rfl, rfl⟩)
    go_ret
    exact ⟨rfl, (belx)⟩
  obtain ⟨hd1, hd2⟩ := hd
  by_cases hn0 : n3 = 0
  · subst hn0
    obtain rfl := HF.out (fun h => by have := h.2.1.1; have := HL.out; dsimp only at *; omega)
    clear HT HF
    go_enter Try.func95, Try.ntmps95
    go_wp2_with (go_at_call 60; refine (i4_isDue_t _ _ hd1 hd2).mono ?_; rintro e w' ⟨rfl, rfl⟩)
    go_ret
    exact ⟨rfl, (belx)⟩
  have q0 : (0 : Int) < (n3 : Int) := by omega
  by_cases hlow : x1 ≤ (n3 : Int)
  · obtain rfl := HF.out (fun h => by have := h.2.1.2; have := HL.out; dsimp only at *; omega)
    by_cases hov : -9223372036854775808 ≤ x1 - (n3 : Int)
    · obtain ⟨y, hy, hy0⟩ : ∃ y, IntKind.i64.wrap (x1 - (n3 : Int)) = y ∧ y ≤ 0 := ⟨_, IntWalk.i64_in _ (by omega), by omega⟩
      clear HT HF hlow hov
      go_enter Try.func95, Try.ntmps95
      go_wp2_with (first
        | (go_at_call 60; refine (i4_isDue_t _ _ hd1 hd2).mono ?_; rintro e w' ⟨rfl, rfl⟩)
        | (go_at_call 140; refine (i_lacking _ _ _ _ _ _ y _ hy).mono ?_; rintro e w1 ⟨rfl, hb1⟩; have X1 := (Box.new w 77 #[.int .i64 x0, .int .i64 x1, .int .i64 x2, .slice A3 n3 c3]).below hb1 (by simp); have k0 := X1.cell 0; have k1 := X1.cell 1; have k3 := X1.cell 3; have hB1 : Below w.heap.size w w1 := bel_trans (belx) hb1))
      go_ret
      exact ⟨rfl, hB1⟩
    · obtain ⟨y, hy, hy0⟩ : ∃ y, IntKind.i64.wrap (x1 - (n3 : Int)) = y ∧ 0 < y := ⟨x1 - (n3 : Int) + 18446744073709551616, by have hb64 : IntKind.i64.bits = 64 := rfl; simp only [IntKind.wrap, hb64]; simp; omega, by omega⟩
      have HE := Lib.hid (show (r3.all (pcW x0 x1)) = false from by
        obtain ⟨a, ha⟩ : ∃ a, r3[0]? = some a := ⟨_, List.getElem?_eq_getElem (by rw [HL.out]; omega)⟩
        exact alF ha (decide_eq_false fun h => by have h1 := h.1; have h2 := h.2.2; unfold PcOk PcN at h1; omega))
      clear HT HF hlow hov
      go_enter Try.func95, Try.ntmps95
      go_wp2_with (go_at_call 60; refine (i4_isDue_t _ _ hd1 hd2).mono ?_; rintro e w' ⟨rfl, rfl⟩)
      refine (i_lacking _ _ _ _ _ _ y _ hy).mono ?_
      rintro e w1 ⟨rfl, hb1⟩
      have X1 := (Box.new w 77 #[.int .i64 x0, .int .i64 x1, .int .i64 x2, .slice A3 n3 c3]).below hb1 (by simp)
      have k0 := X1.cell 0
      have k1 := X1.cell 1
      have k3 := X1.cell 3
      have hB1 : Below w.heap.size w w1 := bel_trans (belx) hb1
      go_wp2_with fail
      refine (i_evryPieceV 142 (.pointer (some ⟨w.heap.size, 0, none⟩)) (pcW x0 x1) (fun _ _ => rfl) (fun i a w' cs ha hBw hR => i_isPart1 hR (pcs_sz HZ.out ha) (cell_bel hBw k0) (cell_bel hBw k1)) (tPiece.row.reach h3 hB1) (by omega)).mono ?_
      rintro e w2 ⟨rfl, hb2⟩
      rw [HE.out]
      have X2 := X1.below hb2 X1.size
      have m3 := X2.cell 3
      have hB2 : Below w.heap.size w w2 := bel_trans hB1 hb2
      go_wp2
      go_ret
      exact ⟨rfl, hB2⟩
  obtain ⟨y, hy, hy0⟩ : ∃ y, IntKind.i64.wrap (x1 - (n3 : Int)) = y ∧ 0 < y := ⟨_, IntWalk.i64_in _ (by omega), by omega⟩
  by_cases ha : ∀ p ∈ r3, PcOk p ∧ p.1 = x0 ∧ p.2.2.1 = x1
  rotate_left
  · obtain rfl := HF.out (fun h => ha h.2.2.1)
    have HE := Lib.hid (show (r3.all (pcW x0 x1)) = false from alDecF ha)
    clear HT HF ha
    go_enter Try.func95, Try.ntmps95
    go_wp2_with (go_at_call 60; refine (i4_isDue_t _ _ hd1 hd2).mono ?_; rintro e w' ⟨rfl, rfl⟩)
    refine (i_lacking _ _ _ _ _ _ y _ hy).mono ?_
    rintro e w1 ⟨rfl, hb1⟩
    have X1 := (Box.new w 77 #[.int .i64 x0, .int .i64 x1, .int .i64 x2, .slice A3 n3 c3]).below hb1 (by simp)
    have k0 := X1.cell 0
    have k1 := X1.cell 1
    have k3 := X1.cell 3
    have hB1 : Below w.heap.size w w1 := bel_trans (belx) hb1
    go_wp2_with fail
    refine (i_evryPieceV 142 (.pointer (some ⟨w.heap.size, 0, none⟩)) (pcW x0 x1) (fun _ _ => rfl) (fun i a w' cs ha hBw hR => i_isPart1 hR (pcs_sz HZ.out ha) (cell_bel hBw k0) (cell_bel hBw k1)) (tPiece.row.reach h3 hB1) (by omega)).mono ?_
    rintro e w2 ⟨rfl, hb2⟩
    rw [HE.out]
    have X2 := X1.below hb2 X1.size
    have m3 := X2.cell 3
    have hB2 : Below w.heap.size w w2 := bel_trans hB1 hb2
    go_wp2
    go_ret
    exact ⟨rfl, hB2⟩
  have HE := Lib.hid (show (r3.all (pcW x0 x1)) = true from alDec ha)
  obtain ⟨ats, hats⟩ : ∃ L, (r3.map fun p => p.2.1) = L := ⟨_, rfl⟩
  have HATS := Lib.hid hats
  have HTA := Lib.hid (show Asc ats → b = true from fun h => HT.out ⟨⟨hd1, hd2⟩, ⟨by have := HL.out; dsimp only; omega, by have := HL.out; dsimp only; omega⟩, ha, by show Asc (r3.map fun p => p.2.1); rw [hats]; exact h⟩)
  have HFA := Lib.hid (show ¬ Asc ats → b = false from fun h => HF.out fun hh => h (by rw [← hats]; exact hh.2.2.2))
  have hl5 : ats.length ≤ 17592186043904 := by rw [← hats, List.length_map, HL.out]; omega
  clear HT HF ha hlow hats
  go_enter Try.func95, Try.ntmps95
  go_wp2_with (go_at_call 60; refine (i4_isDue_t _ _ hd1 hd2).mono ?_; rintro e w' ⟨rfl, rfl⟩)
  refine (i_lacking _ _ _ _ _ _ y _ hy).mono ?_
  rintro e w1 ⟨rfl, hb1⟩
  have X1 := (Box.new w 77 #[.int .i64 x0, .int .i64 x1, .int .i64 x2, .slice A3 n3 c3]).below hb1 (by simp)
  have k0 := X1.cell 0
  have k1 := X1.cell 1
  have k3 := X1.cell 3
  have hB1 : Below w.heap.size w w1 := bel_trans (belx) hb1
  go_wp2_with fail
  refine (i_evryPieceV 142 (.pointer (some ⟨w.heap.size, 0, none⟩)) (pcW x0 x1) (fun _ _ => rfl) (fun i a w' cs ha hBw hR => i_isPart1 hR (pcs_sz HZ.out ha) (cell_bel hBw k0) (cell_bel hBw k1)) (tPiece.row.reach h3 hB1) (by omega)).mono ?_
  rintro e w2 ⟨rfl, hb2⟩
  rw [HE.out]
  have X2 := X1.below hb2 X1.size
  have m3 := X2.cell 3
  have hB2 : Below w.heap.size w w2 := bel_trans hB1 hb2
  go_wp2_with fail
  refine (i_eachPieceI 145 (fun p => p.2.1) (fun _ _ => rfl) (fun i a w' cs ha hBw hR => i_PcAt hR) hwf.out (tPiece.row.reach h3 hB2) hn).mono ?_
  rintro e w3 ⟨v, rfl, hO, hb3⟩
  rw [HATS.out] at hO
  obtain ⟨A5, c5, rfl, hle5, hI5, -⟩ := hO.ints
  have hB3 : Below w.heap.size w w3 := bel_trans hB2 hb3
  go_wp2_with fail
  refine (i_isAsc b HTA.out HFA.out hI5 hl5).mono ?_
  rintro e w4 ⟨rfl, hb4⟩
  go_wp2
  go_ret
  exact ⟨rfl, bel_trans hB3 hb4⟩
theorem i_WhId {w : World} {cs : List Value} {p : DWhole} (h : tWhole.R w w.heap.size cs p) :
    Calls Try.prog 92 #[.agg cs.toArray] w fun e w' => e = .returned (.int .i64 p.1) ∧ Below w.heap.size w w' := by
  obtain ⟨A3, n3, c3, rfl, hi0, hi1, hi2, ha3, hb3, hl3, hr3⟩ := openWhole h
  go_enter Try.func92, Try.ntmps92
  go_wp2
  go_ret
  exact ⟨rfl, (belx)⟩
theorem whs_sz {r : List DWhole} {i : Nat} {a : DWhole} (h : rsz szWhole r ≤ 1048576) (ha : r[i]? = some a) : szWhole a ≤ 1048576 := by
  have := rsz_step (s := szWhole) ha; omega
theorem whs_wf {w : World} {B n c : Nat} {A : Option Addr} {r : List DWhole} (h : tWhole.row.R w B [.slice A n c] r) : ∀ a ∈ r, (Lit.int .i64 a.1).wf = true := by
  intro a ha
  obtain ⟨i, hi, rfl⟩ := List.getElem_of_mem ha
  obtain ⟨b, bb, off, es, hb, -, -, -, hR⟩ := rowR_at (K := 4) h (show i < n by have := (rowR_len h).1; omega) rfl
  rw [List.getElem?_eq_getElem hi] at hb
  injection hb with hb
  subst hb
  obtain ⟨A3, n3, c3, rfl, hi0, hi1, hi2, -, -, -, -⟩ := openWhole hR
  exact hi0
/-- What DeskOk asks of each message. -/
noncomputable def whB (l1 : List Int) (a : DWhole) : Bool := @decide (WhN a ∧ a.1 ∉ l1) (Classical.propDecidable _)
theorem whB_t {l1 : List Int} {a : DWhole} (h : WhN a ∧ a.1 ∉ l1) : whB l1 a = true := @decide_eq_true _ (Classical.propDecidable _) h
theorem whB_f {l1 : List Int} {a : DWhole} (h : ¬ (WhN a ∧ a.1 ∉ l1)) : whB l1 a = false := @decide_eq_false _ (Classical.propDecidable _) h
theorem i_DeskOk1 {w : World} {g n1 c1 : Nat} {A1 : Option Addr} {cs : List Value} {a : DWhole} {l1 : List Int} (h : tWhole.R w w.heap.size cs a) (hz : szWhole a ≤ 1048576) (hg1 : w.cell? ⟨g, 1, none⟩ = some (.slice A1 n1 c1)) (hl : Ints .i64 w w.heap.size A1 n1 l1) (hn : n1 ≤ 17592186043904) :
    Calls Try.prog 94 #[.agg cs.toArray, .pointer (some ⟨g, 0, none⟩)] w fun e w' => e = .returned (.bool (whB l1 a)) ∧ Below w.heap.size w w' := by
  obtain ⟨A3, n3, c3, rfl, hi0, hi1, hi2, ha3, hb3, hl3, hr3⟩ := openWhole h
  have rg1 := i64_rg hi1
  by_cases hp : WhN a
  · have step : ∀ (b : Bool), whB l1 a = b → Calls Try.prog 94 #[.agg #[.int .i64 a.1, .int .i64 a.2.1, .int .i64 a.2.2.1, .slice A3 n3 c3], .pointer (some ⟨g, 0, none⟩)] w fun e w' => e = .returned (.bool b) ∧ Below w.heap.size w w' := by
      intro b hb
      have HBB := Lib.hid hb
      have HPN := Lib.hid (show WhN (a.1, a.2.1, a.2.2.1, a.2.2.2) from hp)
      have HMM := Lib.hid (show (!decide (a.1 ∈ l1)) = b from by
        rw [← hb]
        by_cases hm : a.1 ∈ l1
        · rw [decide_eq_true hm, whB_f fun h => h.2 hm]; rfl
        · rw [decide_eq_false hm, whB_t ⟨hp, hm⟩]; rfl)
      clear hb hp
      go_enter Try.func94, Try.ntmps94
      go_wp2_with fail
      refine (i_isPartialN true (fun _ => rfl) (fun h => absurd HPN.out h) rg1 (tPiece.row.reach hr3 ?hB) hz).mono ?_
      case hB => exact (belx)
      rintro e w1 ⟨rfl, hb1⟩
      have X1 := (Box.new w 77 #[.int .i64 a.1, .int .i64 a.2.1, .int .i64 a.2.2.1, .slice A3 n3 c3]).below hb1 (by simp)
      have x0' := X1.cell 0
      have hB1 : Below w.heap.size w w1 := bel_trans (belx) hb1
      have g1 := cell_bel hB1 hg1
      go_wp2_with fail
      refine (i_ContainsI a.1 (reach hl hB1) hn).mono ?_
      rintro e w2 ⟨rfl, rfl⟩
      go_wp2
      go_ret
      exact ⟨ret_bool HMM.out, hB1⟩
    exact step _ rfl
  · have HR := Lib.hid (show whB l1 a = false from whB_f fun h => hp h.1)
    rw [HR.out]
    have HPN := Lib.hid (show ¬ WhN (a.1, a.2.1, a.2.2.1, a.2.2.2) from hp)
    clear hp
    go_enter Try.func94, Try.ntmps94
    go_wp2_with fail
    refine (i_isPartialN false (fun h => absurd h HPN.out) (fun _ => rfl) rg1 (tPiece.row.reach hr3 ?hB) hz).mono ?_
    case hB => exact (belx)
    rintro e w1 ⟨rfl, hb1⟩
    go_wp2
    go_ret
    exact ⟨rfl, bel_trans (belx) hb1⟩
set_option maxHeartbeats 2000000 in
theorem i_DeskOkN {w : World} {A0 A1 : Option Addr} {n0 c0 n1 c1 : Nat} {r0 : List DWhole} {l1 : List Int} (b : Bool) (T : DkOk (r0, l1) → b = true) (F : ¬ DkOk (r0, l1) → b = false)
    (h0 : tWhole.row.R w w.heap.size [.slice A0 n0 c0] r0) (h1 : tIs.R w w.heap.size [.slice A1 n1 c1] l1) (hsz : rsz szWhole r0 ≤ 1048576) (hn1 : n1 ≤ 1048576) :
    Calls Try.prog 43 #[.agg #[.slice A0 n0 c0, .slice A1 n1 c1]] w fun e w' => e = .returned (.bool b) ∧ Below w.heap.size w w' := by
  obtain ⟨e0, hnc0, hcm0⟩ := rowR_len h0
  have hl1 := (slR_ints h1).1
  have hn0 : n0 ≤ 1048576 := by have := rsz_le (s := szWhole) r0; omega
  have E0 := Lib.hid e0
  have E1 := Lib.hid hl1.1
  have HT := Lib.hid T
  have HF := Lib.hid F
  have HS0 := Lib.hid hsz
  have hwf := Lib.hid (whs_wf h0)
  clear T F e0 h1 hsz
  by_cases a0 : ∀ x ∈ l1, 0 ≤ x ∧ x ≤ 255
  rotate_left
  · obtain rfl := HF.out (fun h => a0 h.2.1)
    have HA0 := Lib.hid (show (l1.all fun x => decide (0 ≤ x ∧ x ≤ 255)) = false from alDecF a0)
    clear HT HF a0
    go_enter Try.func43, Try.ntmps43
    go_wp2_with fail
    refine (i_everyI 89 (fun x => decide (0 ≤ x ∧ x ≤ 255)) (fun x w => rfl) i_isIdB (reach hl1 ?hB) (by omega)).mono ?_
    case hB => exact (belx)
    rintro e w1 ⟨rfl, rfl⟩
    rw [HA0.out]
    go_wp2
    go_ret
    exact ⟨rfl, (belx)⟩
  have HA0 := Lib.hid (show (l1.all fun x => decide (0 ≤ x ∧ x ≤ 255)) = true from alDec a0)
  by_cases a1 : Asc l1
  rotate_left
  · obtain rfl := HF.out (fun h => a1 h.2.2.1)
    have HA1 := Lib.hid a1
    clear HT HF a0 a1
    go_enter Try.func43, Try.ntmps43
    go_wp2_with fail
    refine (i_everyI 89 (fun x => decide (0 ≤ x ∧ x ≤ 255)) (fun x w => rfl) i_isIdB (reach hl1 ?hB) (by omega)).mono ?_
    case hB => exact (belx)
    rintro e w1 ⟨rfl, rfl⟩
    rw [HA0.out]
    go_wp2_with fail
    refine (i_isAsc false (fun h => absurd h HA1.out) (fun _ => rfl) (reach hl1 ?hB) (by omega)).mono ?_
    case hB => exact (belx)
    rintro e w2 ⟨rfl, hb2⟩
    have X2 := (Box.new w 29 #[.slice A0 n0 c0, .slice A1 n1 c1]).below hb2 (by simp)
    have k0 := X2.cell 0
    have k1 := X2.cell 1
    have hB2 : Below w.heap.size w w2 := bel_trans (belx) hb2
    go_wp2
    go_ret
    exact ⟨rfl, hB2⟩
  have HA1 := Lib.hid a1
  by_cases g0 : n0 ≤ 6
  rotate_left
  · obtain rfl := HF.out (fun h => by have := h.1; have := E0.out; dsimp only at *; omega)
    have q : ¬ (n0 : Int) ≤ 6 := by omega
    clear HT HF a0 a1
    go_enter Try.func43, Try.ntmps43
    go_wp2_with fail
    refine (i_everyI 89 (fun x => decide (0 ≤ x ∧ x ≤ 255)) (fun x w => rfl) i_isIdB (reach hl1 ?hB) (by omega)).mono ?_
    case hB => exact (belx)
    rintro e w1 ⟨rfl, rfl⟩
    rw [HA0.out]
    go_wp2_with fail
    refine (i_isAsc true (fun _ => rfl) (fun h => absurd HA1.out h) (reach hl1 ?hB) (by omega)).mono ?_
    case hB => exact (belx)
    rintro e w2 ⟨rfl, hb2⟩
    have X2 := (Box.new w 29 #[.slice A0 n0 c0, .slice A1 n1 c1]).below hb2 (by simp)
    have k0 := X2.cell 0
    have k1 := X2.cell 1
    have hB2 : Below w.heap.size w w2 := bel_trans (belx) hb2
    go_wp2
    go_ret
    exact ⟨rfl, hB2⟩
  have q : (n0 : Int) ≤ 6 := by omega
  obtain ⟨ids, hids⟩ : ∃ L, (r0.map fun p => p.1) = L := ⟨_, rfl⟩
  have HIDS := Lib.hid hids
  have hl5 : ids.length ≤ 17592186043904 := by rw [← hids, List.length_map, E0.out]; omega
  by_cases a3 : Asc ids
  rotate_left
  · obtain rfl := HF.out (fun h => a3 (by rw [← hids]; exact h.2.2.2.1))
    have HA3 := Lib.hid a3
    clear HT HF a0 a1 a3 hids
    go_enter Try.func43, Try.ntmps43
    go_wp2_with fail
    refine (i_everyI 89 (fun x => decide (0 ≤ x ∧ x ≤ 255)) (fun x w => rfl) i_isIdB (reach hl1 ?hB) (by omega)).mono ?_
    case hB => exact (belx)
    rintro e w1 ⟨rfl, rfl⟩
    rw [HA0.out]
    go_wp2_with fail
    refine (i_isAsc true (fun _ => rfl) (fun h => absurd HA1.out h) (reach hl1 ?hB) (by omega)).mono ?_
    case hB => exact (belx)
    rintro e w2 ⟨rfl, hb2⟩
    have X2 := (Box.new w 29 #[.slice A0 n0 c0, .slice A1 n1 c1]).below hb2 (by simp)
    have k0 := X2.cell 0
    have k1 := X2.cell 1
    have hB2 : Below w.heap.size w w2 := bel_trans (belx) hb2
    go_wp2_with fail
    refine (i_eachWholeI 92 (fun p => p.1) (fun _ _ => rfl) (fun i a w' cs ha hBw hR => i_WhId hR) hwf.out (tWhole.row.reach h0 hB2) (by omega)).mono ?_
    rintro e w3 ⟨v, rfl, hO, hb3⟩
    rw [HIDS.out] at hO
    obtain ⟨A5, c5, rfl, hle5, hI5, -⟩ := hO.ints
    have hB3 : Below w.heap.size w w3 := bel_trans hB2 hb3
    have X3 := X2.below hb3 X2.size
    go_wp2_with fail
    refine (i_isAsc false (fun h => absurd h HA3.out) (fun _ => rfl) hI5 hl5).mono ?_
    rintro e w4 ⟨rfl, hb4⟩
    have X4 := X3.below hb4 X3.size
    clear k0 k1
    have k0 := X4.cell 0
    have k1 := X4.cell 1
    have hB4 : Below w.heap.size w w4 := bel_trans hB3 hb4
    go_wp2
    go_ret
    exact ⟨rfl, hB4⟩
  have HA3 := Lib.hid a3
  have HB := Lib.hid (show (r0.all (whB l1)) = b from by
    by_cases a4 : ∀ a ∈ r0, WhN a ∧ a.1 ∉ l1
    · rw [HT.out ⟨by have := E0.out; dsimp only; omega, a0, a1, by show Asc (r0.map fun p => p.1); rw [hids]; exact a3, a4⟩]; exact List.all_eq_true.2 fun x hx => whB_t (a4 x hx)
    · rw [HF.out (fun h => a4 h.2.2.2.2)]; exact Bool.eq_false_iff.2 fun hh => a4 fun x hx => Classical.byContradiction fun hc => by have := List.all_eq_true.1 hh x hx; rw [whB_f hc] at this; cases this)
  clear HT HF a0 a1 a3 hids
  go_enter Try.func43, Try.ntmps43
  go_wp2_with fail
  refine (i_everyI 89 (fun x => decide (0 ≤ x ∧ x ≤ 255)) (fun x w => rfl) i_isIdB (reach hl1 ?hB) (by omega)).mono ?_
  case hB => exact (belx)
  rintro e w1 ⟨rfl, rfl⟩
  rw [HA0.out]
  go_wp2_with fail
  refine (i_isAsc true (fun _ => rfl) (fun h => absurd HA1.out h) (reach hl1 ?hB) (by omega)).mono ?_
  case hB => exact (belx)
  rintro e w2 ⟨rfl, hb2⟩
  have X2 := (Box.new w 29 #[.slice A0 n0 c0, .slice A1 n1 c1]).below hb2 (by simp)
  have k0 := X2.cell 0
  have k1 := X2.cell 1
  have hB2 : Below w.heap.size w w2 := bel_trans (belx) hb2
  go_wp2_with fail
  refine (i_eachWholeI 92 (fun p => p.1) (fun _ _ => rfl) (fun i a w' cs ha hBw hR => i_WhId hR) hwf.out (tWhole.row.reach h0 hB2) (by omega)).mono ?_
  rintro e w3 ⟨v, rfl, hO, hb3⟩
  rw [HIDS.out] at hO
  obtain ⟨A5, c5, rfl, hle5, hI5, -⟩ := hO.ints
  have hB3 : Below w.heap.size w w3 := bel_trans hB2 hb3
  have X3 := X2.below hb3 X2.size
  go_wp2_with fail
  refine (i_isAsc true (fun _ => rfl) (fun h => absurd HA3.out h) hI5 hl5).mono ?_
  rintro e w4 ⟨rfl, hb4⟩
  have X4 := X3.below hb4 X3.size
  clear k0 k1
  have k0 := X4.cell 0
  have k1 := X4.cell 1
  have hB4 : Below w.heap.size w w4 := bel_trans hB3 hb4
  go_wp2_with fail
  refine (i_evryWholeV 94 (.pointer (some ⟨w.heap.size, 0, none⟩)) (whB l1) (fun _ _ => rfl) (fun i a w' cs ha hBw hR => i_DeskOk1 hR (whs_sz HS0.out ha) (cell_bel hBw k1) (reach hl1 (bel_trans hB4 hBw)) (by omega)) (tWhole.row.reach h0 hB4) (by omega)).mono ?_
  rintro e w5 ⟨rfl, hb5⟩
  rw [HB.out]
  go_wp2
  go_ret
  exact ⟨rfl, bel_trans hB4 hb5⟩
theorem i_DeskOk {w : World} {cs : List Value} {p : DDesk} (h : tDesk.R w w.heap.size cs p) (hz : szDesk p ≤ 1048576) :
    Calls Try.prog 43 #[.agg cs.toArray] w fun e w' => e = .returned (.bool (decide (DkOk p))) ∧ Below w.heap.size w w' := by
  obtain ⟨A0, n0, c0, A1, n1, c1, rfl, -, -, -, hr0, -, -, hn1, hr1⟩ := openDesk h
  unfold szDesk at hz
  exact i_DeskOkN _ (fun hh => decide_eq_true hh) (fun hh => decide_eq_false hh) hr0 hr1 (by omega) (by omega)
end Go.Proofs.Ytojbicecopkfbaa
