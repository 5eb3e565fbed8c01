/-
  LHeldS, LPool, LNode, LNodeS, LSent, LSentS: texts joined.
-/
import Derived.Test.YtkdanlnhdgcplaaGreatFGa
import Derived.Test.YtkdanlnhdgcplaaGreatFGc
import Derived.Deep.RegionHeld3
namespace Go.Proofs.YtkdanlnhdgcplaaGreat
set_option maxRecDepth 100000
set_option linter.unusedVariables false
set_option linter.unusedSimpArgs false
open Go.ChangeShapes Go.WideShapes Go.ChangeAt Go.RowKit
theorem o_szHeldS_t {w : World} {n c : Nat} {A : Option Addr} {l : List DHeld} {k : Int} (h : tHeld.row.R w w.heap.size [.slice A n c] l) (h1 : 0 ≤ k) (h2 : k ≤ 1048576) (h3 : (rsz szHeld l : Int) ≤ k) :
  Calls Tryz.prog 124 #[.slice A n c, .int .i64 k] w fun e w' => e = .returned (.int .i64 (k - rsz szHeld l)) ∧ Bel w w' := by
 obtain ⟨hln, hnc, hcm⟩ := rowR_len h
 obtain ⟨s, hs⟩ : ∃ s, rsum szHeld l = s := ⟨_, rfl⟩
 have hz : rsz szHeld l = n + s := by unfold rsz; rw [hln, hs]
 rw [hz] at h3 ⊢
 have HLN := Lib.hid hln
 have HS := Lib.hid hs
 clear hz hln hs
 have d : decide (k - (n : Int) < 0) = false := by simp; omega
 go_enter Tryz.func124, Tryz.ntmps124
 go_wp2_with fail
 go_loopw [1, 5] (fun x i wr => ∃ j : Nat, j ≤ n ∧ x = .int .i64 (k - n - (rsum szHeld (l.take j) : Nat)) ∧ i = .int .i64 j ∧ Bel w wr) (fun _ i _ => n - (RowKit.intOf i).toNat)
 case atStart => exact ⟨0, by omega, by rw [rsum_zero]; go_num, rfl, (belx)⟩
 case round =>
  obtain ⟨j, hj, rfl, rfl, hB⟩ := hrel
  by_cases hlt : j < n
  ·obtain ⟨a, b, off, es, hl, rfl, hb, hes, hR⟩ := rowR_at (K := 3) h hlt rfl
   have hsa := rsum_at (c := szHeld) hl
   have hsn := rsum_sn (c := szHeld) hl
   rw [HS.out] at hsa
   obtain ⟨q, hq⟩ : ∃ q, rsum szHeld (l.take j) = q := ⟨_, rfl⟩
   obtain ⟨q', hq'⟩ : ∃ q, rsum szHeld (l.take (j + 1)) = q := ⟨_, rfl⟩
   rw [hq] at hsa hsn
   rw [hq'] at hsn
   rw [hq]
   have HQ := Lib.hid hq'
   clear hq hq'
   obtain ⟨A2, n2, c2, rfl, hi0, hi1, ha2, hb2, hl2, hr2⟩ := openHeld hR
   have e0 : wr.cell? ⟨b, off + j * 3, none⟩ = some (.int .i64 (a.1)) := cell_at hB hb (hes 0 (by omega))
   have e1 : wr.cell? ⟨b, off + j * 3 + 1, none⟩ = some (.int .i64 (a.2.1)) := cell_at hB hb (hes 1 (by omega))
   have e2 : wr.cell? ⟨b, off + j * 3 + 2, none⟩ = some (.slice A2 n2 c2) := cell_at hB hb (hes 2 (by omega))
   clear hes
   have d2 : decide (k - (n : Int) - q - (szHeld a : Nat) < 0) = false := by simp; omega
   go_wp2_with fail
   refine (o_szHeld_t (tHeld.reach hR ?hB) (by omega) (by omega) (by omega)).mono ?_
   case hB => exact (belx)
   rintro e w1 ⟨rfl, hb1⟩
   go_wp2
   go_roundw
   case rel => exact ⟨j + 1, by omega, by rw [HQ.out]; go_num, by go_num, bel_trans hB hb1⟩
   case measure => simp [RowKit.intOf]; omega
  ·obtain rfl : j = n := by omega
   have HA := Lib.hid (show rsum szHeld (l.take j) = s from by rw [rsum_all (Nat.le_of_eq HLN.out)]; exact HS.out)
   rw [HA.out]
   go_wp2
   go_ret
   exact ⟨ret_int (by omega), hB⟩
theorem o_szHeldS_f {w : World} {n c : Nat} {A : Option Addr} {l : List DHeld} {k : Int} (h : tHeld.row.R w w.heap.size [.slice A n c] l) (h1 : 0 ≤ k) (h2 : k ≤ 1048576) (h3 : ¬ (rsz szHeld l : Int) ≤ k) :
  Calls Tryz.prog 124 #[.slice A n c, .int .i64 k] w fun e w' => e = .returned (.int .i64 (-1)) ∧ Bel w w' := by
 obtain ⟨hln, hnc, hcm⟩ := rowR_len h
 obtain ⟨s, hs⟩ : ∃ s, rsum szHeld l = s := ⟨_, rfl⟩
 have hz : rsz szHeld l = n + s := by unfold rsz; rw [hln, hs]
 rw [hz] at h3
 have HLN := Lib.hid hln
 have HS := Lib.hid hs
 clear hz hln hs
 by_cases hnk : k < (n : Int)
 ·have d : decide (k - (n : Int) < 0) = true := by simp; omega
  go_enter Tryz.func124, Tryz.ntmps124
  go_wp2
  go_ret
  exact ⟨rfl, (belx)⟩
 have d : decide (k - (n : Int) < 0) = false := by simp; omega
 go_enter Tryz.func124, Tryz.ntmps124
 go_wp2_with fail
 go_loopw [1, 5] (fun x i wr => ∃ j : Nat, j ≤ n ∧ x = .int .i64 (k - n - (rsum szHeld (l.take j) : Nat)) ∧ i = .int .i64 j ∧ Bel w wr ∧ (n : Int) + (rsum szHeld (l.take j) : Nat) ≤ k) (fun _ i _ => n - (RowKit.intOf i).toNat)
 case atStart => exact ⟨0, by omega, by rw [rsum_zero]; go_num, rfl, (belx), by rw [rsum_zero]; omega⟩
 case round =>
  obtain ⟨j, hj, rfl, rfl, hB, hv⟩ := hrel
  by_cases hlt : j < n
  ·obtain ⟨a, b, off, es, hl, rfl, hb, hes, hR⟩ := rowR_at (K := 3) h hlt rfl
   have hsa := rsum_at (c := szHeld) hl
   have hsn := rsum_sn (c := szHeld) hl
   rw [HS.out] at hsa
   obtain ⟨q, hq⟩ : ∃ q, rsum szHeld (l.take j) = q := ⟨_, rfl⟩
   obtain ⟨q', hq'⟩ : ∃ q, rsum szHeld (l.take (j + 1)) = q := ⟨_, rfl⟩
   rw [hq] at hsa hsn
   rw [hq'] at hsn
   rw [hq]
   have HQ := Lib.hid hq'
   rw [hq] at hv
   clear hq hq'
   obtain ⟨A2, n2, c2, rfl, hi0, hi1, ha2, hb2, hl2, hr2⟩ := openHeld hR
   have e0 : wr.cell? ⟨b, off + j * 3, none⟩ = some (.int .i64 (a.1)) := cell_at hB hb (hes 0 (by omega))
   have e1 : wr.cell? ⟨b, off + j * 3 + 1, none⟩ = some (.int .i64 (a.2.1)) := cell_at hB hb (hes 1 (by omega))
   have e2 : wr.cell? ⟨b, off + j * 3 + 2, none⟩ = some (.slice A2 n2 c2) := cell_at hB hb (hes 2 (by omega))
   clear hes
   by_cases hg : (n : Int) + q + (szHeld a : Nat) ≤ k
   ·have d2 : decide (k - (n : Int) - q - (szHeld a : Nat) < 0) = false := by simp; omega
    go_wp2_with fail
    refine (o_szHeld_t (tHeld.reach hR ?hB) (by omega) (by omega) (by omega)).mono ?_
    case hB => exact (belx)
    rintro e w1 ⟨rfl, hb1⟩
    go_wp2
    go_roundw
    case rel => exact ⟨j + 1, by omega, by rw [HQ.out]; go_num, by go_num, bel_trans hB hb1, by rw [HQ.out]; omega⟩
    case measure => simp [RowKit.intOf]; omega
   ·go_wp2_with fail
    refine (o_szHeld_f (tHeld.reach hR ?hB) (by omega) (by omega) (by omega)).mono ?_
    case hB => exact (belx)
    rintro e w1 ⟨rfl, hb1⟩
    go_wp2
    go_ret
    exact ⟨rfl, bel_trans hB hb1⟩
  ·obtain rfl : j = n := by omega
   have HA := Lib.hid (show rsum szHeld (l.take j) = s from by rw [rsum_all (Nat.le_of_eq HLN.out)]; exact HS.out)
   rw [HA.out] at hv
   exact absurd hv (by omega)
theorem info_Held : (Tryz.prog.info? 174).map (fun i => (i.zero, i.size, i.bytes)) = some (some (.agg #[.int .i64 0, .int .i64 0, .slice none 0 0]), 3, 40) := by kernel_rfl
set_option maxHeartbeats 800000 in
theorem o_toHeldS {w : World} {n c : Nat} {A : Option Addr} {l : List DHeld} (h : tHeld.row.R w w.heap.size [.slice A n c] l) (hz : rsz szHeld l ≤ 1048576) :
  Calls Tryz.prog 134 #[.slice A n c] w fun e w' => ∃ A' c' F, e = .returned (.slice A' l.length c') ∧ tHeld.row.O w' [.slice A' l.length c'] l F ∧ New w.heap.size F ∧ Bel w w' := by
 obtain ⟨i0, hi0, hz0, hz1, hz2⟩ := info_parts info_Held
 obtain ⟨hln, hnc, hcm⟩ := rowR_len h
 have hn : n ≤ 1048576 := by have := rsz_le (s := szHeld) l; omega
 have HLN := Lib.hid hln
 have HZ := Lib.hid hz
 clear hln hz
 go_enter Tryz.func134, Tryz.ntmps134
 go_wp2_with (at_make; refine wpList_mkS _ rfl (.tmp 6) (.tmp 6) _ rfl 174 i0 _ 3 Tryz.underlying101 hi0 hz0 hz1 n rfl rfl (by rw [hz2]; omega) (by simp only [maxLen]; omega) ?_; intro w1 cur hcur hsz hB1 hgr)
 go_loopw [4] (fun i wr => ∃ j : Nat, j ≤ n ∧ i = .int .i64 j ∧ Bel w wr ∧ ∃ F, Fill tHeld wr w.heap.size 174 n (l.take j) F ∧ New (w.heap.size + 1) F) (fun i _ => n - (RowKit.intOf i).toNat)
 case atStart => exact ⟨0, by omega, rfl, hB1, [], Fill.start hcur hsz, New.nil _⟩
 case round =>
  obtain ⟨j, hj, rfl, hB, F, hf, hN⟩ := hrel
  by_cases hlt : j < n
  ·obtain ⟨a, b, off, es, hl, rfl, hb, hes, hR⟩ := rowR_at (K := 3) h hlt rfl
   have HT := Lib.hid (take_sn hl)
   have HLT := Lib.hid (show (l.take j).length = j from by rw [List.length_take, HLN.out]; omega)
   have hsa : szHeld a ≤ 1048576 := by have := rsz_step (s := szHeld) hl; have := HZ.out; omega
   obtain ⟨A2, n2, c2, rfl, hi0, hi1, ha2, hb2, hl2, hr2⟩ := openHeld hR
   subst hl2
   have e0 : wr.cell? ⟨b, off + j * 3, none⟩ = some (.int .i64 (a.1)) := cell_at hB hb (hes 0 (by omega))
   have e1 : wr.cell? ⟨b, off + j * 3 + 1, none⟩ = some (.int .i64 (a.2.1)) := cell_at hB hb (hes 1 (by omega))
   have e2 : wr.cell? ⟨b, off + j * 3 + 2, none⟩ = some (.slice A2 (a.2.2).length c2) := cell_at hB hb (hes 2 (by omega))
   clear hes
   have hgs := hf.size
   go_wp2_with fail
   refine (o_toHeld (tHeld.reach hR ?hB) hsa).mono ?_
   case hB => exact (belx)
   rintro e w2 ⟨cs2, F2, rfl, hO2, hN2, hb2⟩
   obtain ⟨B2, d2, G2, rfl, hFe, _, _, _, _, _⟩ := openOHeld hO2
   clear hFe
   have hf2 := hf.below hb2
   have hsz2 := hb2.size
   have hP := Fill.push (K := 3) hf2 (by rw [HLT.out]; exact hlt) hO2 (hN.not (by omega)) (hN2.not hgs) rfl
   rw [HLT.out, ← HT.out] at hP
   have hM : New (w.heap.size + 1) (F ++ F2) := New.app hN hN2 (by omega) hf.lt
   obtain ⟨u0, k0⟩ := hf2.cell (K := 3) (j := 0) (by rw [HLT.out]; exact hlt) rfl (by omega)
   rw [HLT.out] at k0
   replace k0 : w2.cell? ⟨w.heap.size, j * 3, none⟩ = some u0 := k0
   have f0 := hf2.frozen (j * 3)
   obtain ⟨u1, k1⟩ := hf2.cell (K := 3) (j := 1) (by rw [HLT.out]; exact hlt) rfl (by omega)
   rw [HLT.out] at k1
   replace k1 : w2.cell? ⟨w.heap.size, j * 3 + 1, none⟩ = some u1 := k1
   have f1 := hf2.frozen (j * 3 + 1)
   obtain ⟨u2, k2⟩ := hf2.cell (K := 3) (j := 2) (by rw [HLT.out]; exact hlt) rfl (by omega)
   rw [HLT.out] at k2
   replace k2 : w2.cell? ⟨w.heap.size, j * 3 + 2, none⟩ = some u2 := k2
   have f2 := hf2.frozen (j * 3 + 2)
   go_wp2
   go_roundw
   case rel => exact ⟨j + 1, by omega, by go_num, below_puts (bel_trans hB hb2) (Nat.le_refl _) (off := j * 3) (vs := [.int .i64 (a.1), .int .i64 (a.2.1), .slice B2 (a.2.2).length d2]), _, hP, hM⟩
   case measure => simp [RowKit.intOf]; omega
  ·obtain rfl : j = n := by omega
   have HA := Lib.hid (show l.take j = l from by rw [List.take_of_length_le (Nat.le_of_eq HLN.out)])
   rw [HA.out] at hf
   obtain ⟨F2, hF2, hor⟩ := hf.done HLN.out (by omega)
   have HN := Lib.hid HLN.out
   go_wp2
   go_ret
   refine ⟨some ⟨w.heap.size, 0, none⟩, j, F2, ?_, hF2, hN.cons hor, hB⟩
   rw [HN.out]
   rfl
set_option maxHeartbeats 800000 in
theorem o_eqHeldS {w : World} {n m c d : Nat} {A A' : Option Addr} {l : List DHeld} (h : tHeld.row.R w w.heap.size [.slice A n c] l) (h' : tHeld.row.R w w.heap.size [.slice A' m d] l) :
  Calls Tryz.prog 150 #[.slice A n c, .slice A' m d] w fun e w' => e = .returned (.bool true) ∧ Bel w w' := by
 obtain ⟨hln, hnc, hcm⟩ := rowR_len h
 obtain ⟨hln', hnc', hcm'⟩ := rowR_len h'
 obtain rfl : m = n := by omega
 have HLN := Lib.hid hln
 clear hln hln'
 go_enter Tryz.func150, Tryz.ntmps150
 go_wp2_with fail
 go_loopw [5] (fun i wr => ∃ j : Nat, j ≤ m ∧ i = .int .i64 j ∧ Bel w wr) (fun i _ => m - (RowKit.intOf i).toNat)
 case atStart => exact ⟨0, by omega, rfl, (belx)⟩
 case round =>
  obtain ⟨j, hj, rfl, hB⟩ := hrel
  by_cases hlt : j < m
  ·obtain ⟨a, b, off, es, hl, rfl, hb, hes, hR⟩ := rowR_at (K := 3) h hlt rfl
   obtain ⟨a', b', off', es', hl', rfl, hb', hes', hR'⟩ := rowR_at (K := 3) h' hlt rfl
   obtain rfl : a = a' := by rw [hl] at hl'; exact Option.some.inj hl'
   clear hl hl'
   obtain ⟨A2, n2, c2, rfl, hi0, hi1, ha2, hb2, hl2, hr2⟩ := openHeld hR
   obtain ⟨A2', n2', c2', rfl, hi0', hi1', ha2', hb2', hl2', hr2'⟩ := openHeld hR'
   subst hl2
   subst hl2'
   have e0 : wr.cell? ⟨b, off + j * 3, none⟩ = some (.int .i64 (a.1)) := cell_at hB hb (hes 0 (by omega))
   have e1 : wr.cell? ⟨b, off + j * 3 + 1, none⟩ = some (.int .i64 (a.2.1)) := cell_at hB hb (hes 1 (by omega))
   have e2 : wr.cell? ⟨b, off + j * 3 + 2, none⟩ = some (.slice A2 (a.2.2).length c2) := cell_at hB hb (hes 2 (by omega))
   have e0' : wr.cell? ⟨b', off' + j * 3, none⟩ = some (.int .i64 (a.1)) := cell_at hB hb' (hes' 0 (by omega))
   have e1' : wr.cell? ⟨b', off' + j * 3 + 1, none⟩ = some (.int .i64 (a.2.1)) := cell_at hB hb' (hes' 1 (by omega))
   have e2' : wr.cell? ⟨b', off' + j * 3 + 2, none⟩ = some (.slice A2' (a.2.2).length c2') := cell_at hB hb' (hes' 2 (by omega))
   clear hes hes'
   go_wp2_with fail
   go_region_held3 (fun w' => w'.cell? ⟨b, off + j * 3, none⟩ = some (.int .i64 (a.1)) ∧ w'.cell? ⟨b, off + j * 3 + 1, none⟩ = some (.int .i64 (a.2.1)) ∧ w'.cell? ⟨b, off + j * 3 + 2, none⟩ = some (.slice A2 (a.2.2).length c2) ∧ w'.cell? ⟨b', off' + j * 3, none⟩ = some (.int .i64 (a.1)) ∧ w'.cell? ⟨b', off' + j * 3 + 1, none⟩ = some (.int .i64 (a.2.1)) ∧ w'.cell? ⟨b', off' + j * 3 + 2, none⟩ = some (.slice A2' (a.2.2).length c2')) (first | (exact ⟨e0, e1, e2, e0', e1', e2'⟩) | (exact ⟨cell_bel hs2 e0, cell_bel hs2 e1, cell_bel hs2 e2, cell_bel hs2 e0', cell_bel hs2 e1', cell_bel hs2 e2'⟩) | go_keep)
    ((go_at_call 183; refine (o_eqHeld (tHeld.reach hR (belx)) (tHeld.reach hR' (belx))).mono ?_; rintro e w2 ⟨rfl, hb2⟩; have hs2 : Bel wr w2 := bel_trans (belx) hb2))
   go_wp2
   go_roundw
   case rel => exact ⟨j + 1, by omega, by go_num, bel_trans hB hs2⟩
   case measure => simp [RowKit.intOf]; omega
  ·obtain rfl : j = m := by omega
   go_wp2
   go_ret
   exact ⟨rfl, hB⟩
set_option maxHeartbeats 1000000 in
theorem o_markHeldS {w : World} {n c : Nat} {A : Option Addr} {l : List DHeld} {F : List Nat} (k : Int) (h : tHeld.row.O w [.slice A n c] l F) (hF : F.Nodup) (h0 : 0 ≤ k) (hk : k + rsum rcHeld l ≤ 4611686018427387904) :
  Calls Tryz.prog 76 #[.slice A n c, .int .i64 k] w fun e w' => e = .returned (.int .i64 (k + rsum rcHeld l)) ∧ tHeld.row.O w' [.slice A n c] (rmk rcHeld rmHeld k l) F ∧ Only F w w' := by
 obtain ⟨_, _, hsh, hnc, hcm⟩ := rowO_shape h
 have hln : l.length = n := by injection hsh with _ e2 _; exact e2.symm
 have hnc2 : n ≤ 9223372036854775807 := by omega
 clear hsh hnc hcm
 obtain ⟨s, hs⟩ : ∃ s, rsum rcHeld l = s := ⟨_, rfl⟩
 rw [hs] at hk ⊢
 have HLN := Lib.hid hln
 have HS := Lib.hid hs
 clear hln hs
 go_enter Tryz.func76, Tryz.ntmps76
 go_wp2
 go_loopw [1, 5] (fun x i wr => ∃ j : Nat, j ≤ n ∧ x = .int .i64 (k + (rsum rcHeld (l.take j) : Nat)) ∧ i = .int .i64 j ∧ tHeld.row.O wr [.slice A n c] (rpart rcHeld rmHeld k l j) F ∧ Only F w wr) (fun _ i _ => n - (RowKit.intOf i).toNat)
 case atStart => exact ⟨0, by omega, by rw [rsum_zero]; go_num, rfl, by rw [rpart_zero]; exact h, Only.refl _ _⟩
 case round =>
  obtain ⟨j, hj, rfl, rfl, hO, hG⟩ := hrel
  by_cases hlt : j < n
  ·obtain ⟨a, hl⟩ : ∃ a, l[j]? = some a := ⟨_, List.getElem?_eq_getElem (by rw [HLN.out]; exact hlt)⟩
   have HP := Lib.hid (rpart_set (c := rcHeld) (m := rmHeld) (k := k) hl)
   have hat := rpart_at (c := rcHeld) (m := rmHeld) (k := k) hl
   have hsa := rsum_at (c := rcHeld) hl
   have hsn := rsum_sn (c := rcHeld) hl
   rw [HS.out] at hsa
   obtain ⟨q, hq⟩ : ∃ q, rsum rcHeld (l.take j) = q := ⟨_, rfl⟩
   obtain ⟨q', hq'⟩ : ∃ q, rsum rcHeld (l.take (j + 1)) = q := ⟨_, rfl⟩
   rw [hq] at hsa hsn
   rw [hq'] at hsn
   rw [hq]
   have HQ := Lib.hid hq'
   have HQ2 := Lib.hid hq
   clear hq hq'
   dsimp only [rcHeld] at hsa hsn
   obtain ⟨g, off, cur, et, es, Fi, rfl, hcur, hes, hOe, hgF, hgi, hFi, hnd, hback⟩ := rowO_at (K := 3) hO hF hat rfl
   obtain ⟨A2, c2, F2, rfl, hFe, hi0, hi1, ha2, hb2, hr2⟩ := openOHeld hOe
   subst Fi
   obtain ⟨x0, x1, l2⟩ := a
   dsimp only at *
   have e0 : wr.cell? ⟨g, off + j * 3, none⟩ = some (.int .i64 x0) := by rw [Box.cell (t := et) hcur]; exact hes 0 (by omega)
   have f0 : wr.frozen? ⟨g, off + j * 3, none⟩ = false := Box.frozen (t := et) hcur _
   have e1 : wr.cell? ⟨g, off + j * 3 + 1, none⟩ = some (.int .i64 x1) := by rw [Box.cell (t := et) hcur]; exact hes 1 (by omega)
   have f1 : wr.frozen? ⟨g, off + j * 3 + 1, none⟩ = false := Box.frozen (t := et) hcur _
   have e2 : wr.cell? ⟨g, off + j * 3 + 2, none⟩ = some (.slice A2 l2.length c2) := by rw [Box.cell (t := et) hcur]; exact hes 2 (by omega)
   have f2 : wr.frozen? ⟨g, off + j * 3 + 2, none⟩ = false := Box.frozen (t := et) hcur _
   obtain ⟨cur1, hX0, hcs, hun, hval⟩ := puts_heap (off := off + j * 3) (vs := [.int .i64 (k + (q : Int)), .int .i64 (k + (q : Int) + 1)]) hcur
   dsimp only [List.length_cons, List.length_nil] at hun hval
   have hcz : ∀ i, i < 3 → off + j * 3 + i < cur.size := fun i hi => by
    by_cases hh : off + j * 3 + i < cur.size
    ·exact hh
    ·have := hes i hi; rw [Array.getElem?_eq_none (by omega)] at this; rcases (by omega : i = 0 ∨ i = 1 ∨ i = 2) with rfl | rfl | rfl <;> simp at this
   have hgz : g < (puts wr g (off + j * 3) [.int .i64 (k + (q : Int)), .int .i64 (k + (q : Int) + 1)]).heap.size := by rw [size_puts]; exact Box.size (t := et) hcur
   have OG0 : Only F w (puts wr g (off + j * 3) [.int .i64 (k + (q : Int)), .int .i64 (k + (q : Int) + 1)]) := only_puts hG hgF
   have hk0 : ∀ f, f ≠ g → (puts wr g (off + j * 3) [.int .i64 (k + (q : Int)), .int .i64 (k + (q : Int) + 1)]).heap[f]? = wr.heap[f]? := fun f hf => puts_far hf
   have hzz : (puts wr g (off + j * 3) [.int .i64 (k + (q : Int)), .int .i64 (k + (q : Int) + 1)]).heap.size = wr.heap.size := size_puts
   have y2 : ∀ f ∈ F2, f < wr.heap.size ∧ f ≠ g := fun f hf => ⟨(tBy).lt hr2 f hf, fun e => hgi (by rw [← e]; simp [hf])⟩
   replace hr2 := (tBy).kept (w' := puts wr g (off + j * 3) [.int .i64 (k + (q : Int)), .int .i64 (k + (q : Int) + 1)]) hr2 (fun f hf => hk0 f (y2 f hf).2)
   have nd2 : F2.Nodup := hnd
   obtain ⟨W0, hW0⟩ : ∃ W0, puts wr g (off + j * 3) [.int .i64 (k + (q : Int)), .int .i64 (k + (q : Int) + 1)] = W0 := ⟨_, rfl⟩
   rw [hW0] at hX0 hgz OG0 hk0 hzz hr2
   have Z0 : wr.heap.size ≤ W0.heap.size := Nat.le_of_eq hzz.symm
   have hX : W0.heap[g]? = some (.cells cur1 et (0, 0)) := hX0
   go_wp2_with fail
   have hWe : ((wr.setCell ⟨g, off + j * 3, none⟩ (.int .i64 (k + (q : Int)))).setCell ⟨g, off + j * 3 + 1, none⟩ (.int .i64 (k + (q : Int) + 1))) = W0 := hW0
   rw [hWe]
   refine (o_markByteS (k + (q : Int) + 1 + 1) hr2 (by omega) (by omega)).mono ?_
   rintro e W1 ⟨rfl, hO2, hG2⟩
   have OG1 : Only F w W1 := OG0.trans (hG2.mono (fun f hf => hFi f (by simp [hf])))
   have Z1 : wr.heap.size ≤ W1.heap.size := Nat.le_trans Z0 hG2.size
   have hgz : g < W1.heap.size := Nat.lt_of_lt_of_le hgz hG2.size
   replace hX : W1.heap[g]? = some (.cells cur1 et (0, 0)) := (hG2.block g (by omega) (fun e => (y2 g e).2 rfl)).trans hX
   replace hr2 := hO2
   have wf0 : (Lit.int .i64 (k + (q : Int))).wf = true := WalkArith.wf_i64 (by omega)
   have wf1 : (Lit.int .i64 (k + (q : Int) + 1)).wf = true := WalkArith.wf_i64 (by omega)
   obtain ⟨F2, hF2, hF2e⟩ := makeOHeld (w := W1) (p := rmHeld (k + (q : Int)) (x0, x1, l2)) wf0 wf1 hr2
   subst hF2e
   have hfin := hback W1 cur1 [.int .i64 (k + (q : Int)), .int .i64 (k + (q : Int) + 1), .slice A2 l2.length c2] (rmHeld (k + (q : Int)) (x0, x1, l2)) hX (by
    intro i hi
    rcases (by omega : i = 0 ∨ i = 1 ∨ i = 2) with rfl | rfl | rfl
    ·exact hval 0 (by omega) (hcz 0 (by omega))
    ·exact hval 1 (by omega) (hcz 1 (by omega))
    ·rw [hun _ (by omega)]; exact hes 2 (by omega)) (by
    intro q2 hq2
    refine hun q2 ?_
    rcases Nat.lt_or_ge q2 (off + j * 3) with h1 | h1
    ·exact .inl h1
    ·rcases Nat.lt_or_ge q2 (off + j * 3 + 3) with h2 | h2
     ·exact absurd (by omega) (hq2 (q2 - (off + j * 3)) (by omega))
     ·exact .inr (by omega)) hF2 (by
    intro f hf h1 h2
    skip
    have hfz : f < wr.heap.size := (tHeld.row).lt hO f hf
    exact ((hG2.block f (by omega) h2).trans (hk0 f h1)))
   have HPq := HP.out
   rw [HQ2.out] at HPq
   rw [HPq] at hfin
   clear HPq
   go_wp2
   go_roundw
   case rel => exact ⟨j + 1, by omega, by rw [HQ.out]; go_num, by go_num, hfin, OG1⟩
   case measure => simp [RowKit.intOf]; omega
  ·obtain rfl : j = n := by omega
   have HA := Lib.hid (show rsum rcHeld (l.take j) = s from by rw [rsum_all (Nat.le_of_eq HLN.out)]; exact HS.out)
   rw [HA.out]
   rw [rpart_all (Nat.le_of_eq HLN.out)] at hO
   go_wp2
   go_ret
   exact ⟨rfl, hO, hG⟩
set_option maxHeartbeats 1000000 in
theorem o_heldHeldS {w : World} {n c : Nat} {A : Option Addr} {l : List DHeld} (k : Int) (h : tHeld.row.R w w.heap.size [.slice A n c] (rmk rcHeld rmHeld k l)) (h0 : 0 ≤ k) (hk : k + rsum rcHeld l ≤ 4611686018427387904) :
  Calls Tryz.prog 80 #[.slice A n c, .int .i64 k] w fun e w' => e = .returned (.int .i64 (k + rsum rcHeld l)) ∧ Bel w w' := by
 obtain ⟨hln, hnc, hcm⟩ := rowR_len h
 rw [rmk_len] at hln
 obtain ⟨s, hs⟩ : ∃ s, rsum rcHeld l = s := ⟨_, rfl⟩
 rw [hs] at hk ⊢
 have HLN := Lib.hid hln
 have HS := Lib.hid hs
 clear hln hs
 go_enter Tryz.func80, Tryz.ntmps80
 go_wp2
 go_loopw [1, 5] (fun x i wr => ∃ j : Nat, j ≤ n ∧ x = .int .i64 (k + (rsum rcHeld (l.take j) : Nat)) ∧ i = .int .i64 j ∧ Bel w wr) (fun _ i _ => n - (RowKit.intOf i).toNat)
 case atStart => exact ⟨0, by omega, by rw [rsum_zero]; go_num, rfl, (belx)⟩
 case round =>
  obtain ⟨j, hj, rfl, rfl, hB⟩ := hrel
  by_cases hlt : j < n
  ·obtain ⟨a, hl⟩ : ∃ a, l[j]? = some a := ⟨_, List.getElem?_eq_getElem (by rw [HLN.out]; exact hlt)⟩
   obtain ⟨a2, b, off, es, hl2, rfl, hb, hes, hR⟩ := rowR_at (K := 3) h hlt rfl
   have hat := rmk_at (c := rcHeld) (m := rmHeld) (k := k) hl
   obtain rfl : _ = a2 := Option.some.inj (hat.symm.trans hl2)
   clear hl2 hat
   have hsa := rsum_at (c := rcHeld) hl
   have hsn := rsum_sn (c := rcHeld) hl
   rw [HS.out] at hsa
   obtain ⟨q, hq⟩ : ∃ q, rsum rcHeld (l.take j) = q := ⟨_, rfl⟩
   obtain ⟨q', hq'⟩ : ∃ q, rsum rcHeld (l.take (j + 1)) = q := ⟨_, rfl⟩
   rw [hq] at hsa hsn
   rw [hq'] at hsn
   rw [hq] at hR ⊢
   have HQ := Lib.hid hq'
   clear hq hq'
   dsimp only [rcHeld] at hsa hsn
   obtain ⟨A2, n2, c2, rfl, hi0, hi1, ha2, hb2, hl2, hr2⟩ := openHeld hR
   obtain ⟨x0, x1, l2⟩ := a
   dsimp only [rmHeld] at *
   have q0 : ((k + (q : Int) : Int) != k + (q : Int)) = false := by simp
   have q1 : ((k + (q : Int) + 1 : Int) != k + (q : Int) + 1) = false := by simp
   have e0 : wr.cell? ⟨b, off + j * 3, none⟩ = some (.int .i64 (k + (q : Int))) := cell_at hB hb (hes 0 (by omega))
   have e1 : wr.cell? ⟨b, off + j * 3 + 1, none⟩ = some (.int .i64 (k + (q : Int) + 1)) := cell_at hB hb (hes 1 (by omega))
   have e2 : wr.cell? ⟨b, off + j * 3 + 2, none⟩ = some (.slice A2 n2 c2) := cell_at hB hb (hes 2 (by omega))
   have d0 : decide (k + (q : Int) + 1 + 1 + ((l2.length : Nat) : Int) < 0) = false := by simp; omega
   go_wp2_with fail
   refine (o_heldByteS (k + (q : Int) + 1 + 1) ((tBy).reach hr2 ?hB) (by omega) (by omega)).mono ?_
   case hB => exact (belx)
   rintro e w1 ⟨rfl, hb1⟩
   have hB1 : Bel w w1 := bel_trans hB hb1
   have e2_1 : w1.cell? ⟨b, off + j * 3 + 2, none⟩ = some (.slice A2 n2 c2) := cell_at hB1 hb (hes 2 (by omega))
   go_wp2
   go_roundw
   case rel => exact ⟨j + 1, by omega, by rw [HQ.out]; go_num, by go_num, hB1⟩
   case measure => simp [RowKit.intOf]; omega
  ·obtain rfl : j = n := by omega
   have HA := Lib.hid (show rsum rcHeld (l.take j) = s from by rw [rsum_all (Nat.le_of_eq HLN.out)]; exact HS.out)
   rw [HA.out]
   go_wp2
   go_ret
   exact ⟨rfl, hB⟩
end Go.Proofs.YtkdanlnhdgcplaaGreat
namespace Go.Proofs.YtkdanlnhdgcplaaGreat
set_option maxRecDepth 100000
set_option linter.unusedVariables false
set_option linter.unusedSimpArgs false
open Go.ChangeShapes Go.WideShapes Go.ChangeAt Go.RowKit
theorem o_szPool_t {w : World} {cs : List Value} {p : DPool} {k : Int} (h : tPool.R w w.heap.size cs p) (h1 : 0 ≤ k) (h2 : k ≤ 1048576) (h3 : (szPool p : Int) ≤ k) :
  Calls Tryz.prog 86 #[.agg cs.toArray, .int .i64 k] w fun e w' => e = .returned (.int .i64 (k - szPool p)) ∧ Bel w w' := by
 obtain ⟨A0, n0, c0, A1, n1, c1, rfl, ha0, hb0, hl0, hr0, ha1, hb1, hl1, hr1⟩ := openPool h
 obtain ⟨r0, l1⟩ := p
 try dsimp only [szPool] at *
 subst hl0
 subst hl1
 have d0 : decide (k - ((rsz szHeld r0 : Nat) : Int) < 0) = false := by simp; omega
 have d1 : decide (k - ((rsz szHeld r0 : Nat) : Int) - ((l1.length : Nat) : Int) < 0) = false := by simp; omega
 go_enter Tryz.func86, Tryz.ntmps86
 go_wp2_with fail
 refine (o_szHeldS_t (tHeld.row.reach hr0 ?hB) (by omega) (by omega) (by omega)).mono ?_
 case hB => exact (belx)
 rintro e w1 ⟨rfl, hb1⟩
 have hB1 : Bel w w1 := bel_trans (belx) hb1
 have P1 : Box w1 w.heap.size 84 #[.slice A0 r0.length c0, .slice A1 l1.length c1] := (Box.new _ _ _).below hb1 lez
 have e0_1 := P1.cell 1
 go_wp2_with fail
 refine (o_szIntS_t (tIs.reach hr1 ?hB) (by omega) (by omega) (by omega)).mono ?_
 case hB => exact (belx)
 rintro e w2 ⟨rfl, hb2⟩
 have hB2 : Bel w w2 := bel_trans (belx) hb2
 have P2 := P1.below hb2 P1.size
 go_wp2
 go_ret
 exact ⟨ret_int (by omega), hB2⟩
theorem o_szPool_f {w : World} {cs : List Value} {p : DPool} {k : Int} (h : tPool.R w w.heap.size cs p) (h1 : 0 ≤ k) (h2 : k ≤ 1048576) (h3 : ¬ (szPool p : Int) ≤ k) :
  Calls Tryz.prog 86 #[.agg cs.toArray, .int .i64 k] w fun e w' => e = .returned (.int .i64 (-1)) ∧ Bel w w' := by
 obtain ⟨A0, n0, c0, A1, n1, c1, rfl, ha0, hb0, hl0, hr0, ha1, hb1, hl1, hr1⟩ := openPool h
 obtain ⟨r0, l1⟩ := p
 try dsimp only [szPool] at *
 subst hl0
 subst hl1
 by_cases g0 : (((rsz szHeld r0) : Nat) : Int) ≤ k
 rotate_left
 ·go_enter Tryz.func86, Tryz.ntmps86
  go_wp2_with fail
  refine (o_szHeldS_f (tHeld.row.reach hr0 ?hB) (by omega) (by omega) (by omega)).mono ?_
  case hB => exact (belx)
  rintro e w1 ⟨rfl, hb1⟩
  have hB1 : Bel w w1 := bel_trans (belx) hb1
  have P1 : Box w1 w.heap.size 84 #[.slice A0 r0.length c0, .slice A1 l1.length c1] := (Box.new _ _ _).below hb1 lez
  go_wp2
  go_ret
  exact ⟨rfl, hB1⟩
 have d0 : decide (k - ((rsz szHeld r0 : Nat) : Int) < 0) = false := by simp; omega
 go_enter Tryz.func86, Tryz.ntmps86
 go_wp2_with fail
 refine (o_szHeldS_t (tHeld.row.reach hr0 ?hB) (by omega) (by omega) (by omega)).mono ?_
 case hB => exact (belx)
 rintro e w1 ⟨rfl, hb1⟩
 have hB1 : Bel w w1 := bel_trans (belx) hb1
 have P1 : Box w1 w.heap.size 84 #[.slice A0 r0.length c0, .slice A1 l1.length c1] := (Box.new _ _ _).below hb1 lez
 have e0_1 := P1.cell 1
 go_wp2_with fail
 refine (o_szIntS_f (tIs.reach hr1 ?hB) (by omega) (by omega) (by omega)).mono ?_
 case hB => exact (belx)
 rintro e w2 ⟨rfl, hb2⟩
 have hB2 : Bel w w2 := bel_trans (belx) hb2
 have P2 := P1.below hb2 P1.size
 go_wp2
 go_ret
 exact ⟨rfl, hB2⟩
set_option maxHeartbeats 400000 in
theorem o_toPool {w : World} {cs : List Value} {p : DPool} (h : tPool.R w w.heap.size cs p) (hn : szPool p ≤ 1048576) :
  Calls Tryz.prog 98 #[.agg cs.toArray] w fun e w' => ∃ cs' F, e = .returned (.agg cs'.toArray) ∧ tPool.O w' cs' p F ∧ New w.heap.size F ∧ Bel w w' := by
 obtain ⟨A0, n0, c0, A1, n1, c1, rfl, ha0, hb0, hl0, hr0, ha1, hb1, hl1, hr1⟩ := openPool h
 obtain ⟨r0, l1⟩ := p
 try dsimp only [szPool] at *
 subst hl0
 subst hl1
 go_enter Tryz.func98, Tryz.ntmps98
 go_wp2_with fail
 refine (o_toHeldS (tHeld.row.reach hr0 ?hB) (by omega)).mono ?_
 case hB => exact (belx)
 rintro e w1 ⟨B0, d0, F0, rfl, o0, hN1, hb1⟩
 have z1 : w.heap.size + 3 ≤ w1.heap.size := by have := hb1.size; simpa using this
 have hB1 : Bel w w1 := bel_trans (belx) hb1
 have R1 : Box w1 (w.heap.size + 1) 103 #[.slice none 0 0, .slice none 0 0] := Box.below (Box.alloc (by simpa using Box.new (w.alloc _) 103 #[.slice none 0 0, .slice none 0 0]) _) hb1 lez
 have L1 : Box w1 (w.heap.size + 1 + 1) 103 #[.slice none 0 0, .slice none 0 0] := Box.below (by simpa using Box.new ((w.alloc _).alloc _) 103 #[.slice none 0 0, .slice none 0 0]) hb1 lez
 have P1 : Box w1 w.heap.size 84 #[.slice A0 r0.length c0, .slice A1 l1.length c1] := Box.below (((Box.new w 84 #[.slice A0 r0.length c0, .slice A1 l1.length c1]).alloc _).alloc _) hb1 lez
 have hM1 : New (w.heap.size + 3) (F0) := hN1.lower (by simp)
 clear hN1
 have y1 : ∀ f ∈ F0, f < w1.heap.size := by intro f hf; exact tHeld.row.lt o0 f hf
 have kr1_0 := R1.cell 0; have fr1_0 := R1.frozen 0; have kl1_0 := L1.cell 0; have fl1_0 := L1.frozen 0; have kp1_0 := P1.cell 0
 have kr1_1 := R1.cell 1; have fr1_1 := R1.frozen 1; have kl1_1 := L1.cell 1; have fl1_1 := L1.frozen 1; have kp1_1 := P1.cell 1
 go_wp2_with fail
 refine (o_toIntS (tIs.reach hr1 ?hB) (by omega)).mono ?_
 case hB => exact (belx)
 rintro e w2 ⟨B1, d1, F1, rfl, o1, hN2, hb2⟩
 have z2 : w.heap.size + 3 ≤ w2.heap.size := Nat.le_trans z1 (by have := hb2.size; simpa using this)
 have hB2 : Bel w w2 := bel_trans (belx) hb2
 have R2 : Box w2 (w.heap.size + 1) 103 #[.slice none 0 0, .slice none 0 0] := Box.below (R1.far (p := ⟨w.heap.size + 1 + 1, 0, none⟩) lez (.slice B0 r0.length d0)) hb2 lez
 have L2 : Box w2 (w.heap.size + 1 + 1) 103 #[.slice B0 r0.length d0, .slice none 0 0] := Box.below (by simpa using (L1.put 0 (.slice B0 r0.length d0))) hb2 lez
 have P2 : Box w2 w.heap.size 84 #[.slice A0 r0.length c0, .slice A1 l1.length c1] := Box.below (P1.far (p := ⟨w.heap.size + 1 + 1, 0, none⟩) lez (.slice B0 r0.length d0)) hb2 lez
 replace o0 := Ty.below (t := tHeld.row) (Ty.far (t := tHeld.row) o0 hM1 (p := ⟨w.heap.size + 1 + 1, 0, none⟩) lez (.slice B0 r0.length d0)) hb2
 have hM2 : New (w.heap.size + 3) (F1) := hN2.lower (by simp; omega)
 have hV2 : New w1.heap.size (F1) := hN2.lower lez
 have zz2 : w1.heap.size ≤ w2.heap.size := by have := hb2.size; simpa using this
 clear hN2
 have y2 : ∀ f ∈ F1, f < w2.heap.size := by intro f hf; exact tIs.lt o1 f hf
 have kr2_0 := R2.cell 0; have fr2_0 := R2.frozen 0; have kl2_0 := L2.cell 0; have fl2_0 := L2.frozen 0; have kp2_0 := P2.cell 0
 have kr2_1 := R2.cell 1; have fr2_1 := R2.frozen 1; have kl2_1 := L2.cell 1; have fl2_1 := L2.frozen 1; have kp2_1 := P2.cell 1
 go_wp2
 have RR := (((R2.far (p := ⟨w.heap.size + 1 + 1, 1, none⟩) lez (.slice B1 l1.length d1)).put 0 (.slice B0 r0.length d0)).put 1 (.slice B1 l1.length d1))
 have e0 := RR.cell 0
 have e1 := RR.cell 1
 have u0 := (Ty.far (t := tHeld.row) (Ty.far (t := tHeld.row) (Ty.far (t := tHeld.row) o0 hM1 (p := ⟨w.heap.size + 1 + 1, 1, none⟩) lez (.slice B1 l1.length d1)) hM1 (p := ⟨w.heap.size + 1, 0, none⟩) lez (.slice B0 r0.length d0)) hM1 (p := ⟨w.heap.size + 1, 1, none⟩) lez (.slice B1 l1.length d1))
 have u1 := (Ty.far (t := tIs) (Ty.far (t := tIs) (Ty.far (t := tIs) o1 hM2 (p := ⟨w.heap.size + 1 + 1, 1, none⟩) lez (.slice B1 l1.length d1)) hM2 (p := ⟨w.heap.size + 1, 0, none⟩) lez (.slice B0 r0.length d0)) hM2 (p := ⟨w.heap.size + 1, 1, none⟩) lez (.slice B1 l1.length d1))
 obtain ⟨F, hF, hFe⟩ := makeOPool (p := (r0, l1)) u0 u1
 refine bodyPost_ret (v := .agg #[.slice B0 r0.length d0, .slice B1 l1.length d1]) (by simp [results, Tryz.results98, go_sem, e0, e1]) rfl ⟨_, F, rfl, hF, ?_, ?_⟩
 ·rw [hFe]
  exact New.lower (B := w.heap.size + 3) (by exact (New.app hM1 hV2 (by omega) y1)) (by omega)
 ·exact (bel_put (bel_put (bel_put hB2 lez _) lez _) lez _)
theorem o_eqPool {w : World} {cs cs' : List Value} {p : DPool} (h : tPool.R w w.heap.size cs p) (h' : tPool.R w w.heap.size cs' p) :
  Calls Tryz.prog 115 #[.agg cs.toArray, .agg cs'.toArray] w fun e w' => e = .returned (.bool true) ∧ Bel w w' := by
 obtain ⟨A0, n0, c0, A1, n1, c1, rfl, ha0, hb0, hl0, hr0, ha1, hb1, hl1, hr1⟩ := openPool h
 obtain ⟨A0', n0', c0', A1', n1', c1', rfl, ha0', hb0', hl0', hr0', ha1', hb1', hl1', hr1'⟩ := openPool h'
 obtain ⟨r0, l1⟩ := p
 try dsimp only at *
 subst hl0
 subst hl0'
 subst hl1
 subst hl1'
 go_enter Tryz.func115, Tryz.ntmps115
 go_wp2_with fail
 refine (o_eqHeldS (tHeld.row.reach hr0 ?hB) (tHeld.row.reach hr0' ?hB)).mono ?_
 case hB => exact (belx)
 rintro e w1 ⟨rfl, hb1⟩
 have hB1 : Bel w w1 := bel_trans (belx) hb1
 have P1 : Box w1 w.heap.size 103 #[.slice A0 r0.length c0, .slice A1 l1.length c1] := ((Box.new _ _ _).alloc _).below hb1 lez
 have Q1 : Box w1 (w.heap.size + 1) 103 #[.slice A0' r0.length c0', .slice A1' l1.length c1'] := Box.below (by simpa using Box.new (w.alloc _) 103 #[.slice A0' r0.length c0', .slice A1' l1.length c1']) hb1 lez
 have e0_1 := P1.cell 1
 have e0_1q := Q1.cell 1
 go_wp2_with fail
 refine (o_eqIntS (tIs.reach hr1 ?hB) (tIs.reach hr1' ?hB)).mono ?_
 case hB => exact (belx)
 rintro e w2 ⟨rfl, hb2⟩
 have hB2 : Bel w w2 := bel_trans (belx) hb2
 have P2 := P1.below hb2 P1.size
 have Q2 := Q1.below hb2 Q1.size
 go_wp2
 go_ret
 exact ⟨rfl, hB2⟩
end Go.Proofs.YtkdanlnhdgcplaaGreat
namespace Go.Proofs.YtkdanlnhdgcplaaGreat
set_option maxRecDepth 100000
set_option linter.unusedVariables false
set_option linter.unusedSimpArgs false
open Go.ChangeShapes Go.WideShapes Go.ChangeAt Go.RowKit
theorem o_szNode_t {w : World} {cs : List Value} {p : DNode} {k : Int} (h : tNode.R w w.heap.size cs p) (h1 : 0 ≤ k) (h2 : k ≤ 1048576) (h3 : (szNode p : Int) ≤ k) :
  Calls Tryz.prog 46 #[.agg cs.toArray, .int .i64 k] w fun e w' => e = .returned (.int .i64 (k - szNode p)) ∧ Bel w w' := by
 obtain ⟨A2, n2, c2, A3, n3, c3, A4, n4, c4, A5, n5, c5, A6, n6, c6, rfl, hi0, hi1, ha2, hb2, hl2, hr2, ha3, hb3, hl3, hr3, ha4, hb4, hl4, hr4, ha5, hb5, hl5, hr5, ha6, hb6, hl6, hr6⟩ := openNode h
 obtain ⟨x0, x1, ⟨r2, l3⟩, ⟨r4, l5⟩, r6⟩ := p
 try dsimp only [szNode] at *
 subst hl2
 subst hl3
 subst hl4
 subst hl5
 subst hl6
 have d0 : decide (k - ((szPool (r2, l3) : Nat) : Int) < 0) = false := by simp; omega
 have d1 : decide (k - ((szPool (r2, l3) : Nat) : Int) - ((szDesk (r4, l5) : Nat) : Int) < 0) = false := by simp; omega
 have d2 : decide (k - ((szPool (r2, l3) : Nat) : Int) - ((szDesk (r4, l5) : Nat) : Int) - ((rsz szLetter r6 : Nat) : Int) < 0) = false := by simp; omega
 go_enter Tryz.func46, Tryz.ntmps46
 go_wp2_with fail
 refine (o_szPool_t (tPool.reach (makePool (p := (r2, l3)) hr2 hr3) ?hB) (by omega) (by omega) (by omega)).mono ?_
 case hB => exact (belx)
 rintro e w1 ⟨rfl, hb1⟩
 have hB1 : Bel w w1 := bel_trans (belx) hb1
 have P1 : Box w1 w.heap.size 90 #[.int .i64 x0, .int .i64 x1, .slice A2 r2.length c2, .slice A3 l3.length c3, .slice A4 r4.length c4, .slice A5 l5.length c5, .slice A6 r6.length c6] := (Box.new _ _ _).below hb1 lez
 have e0_4 := P1.cell 4
 have e0_5 := P1.cell 5
 go_wp2_with fail
 refine (o_szDesk_t (tDesk.reach (makeDesk (p := (r4, l5)) hr4 hr5) ?hB) (by omega) (by omega) (by omega)).mono ?_
 case hB => exact (belx)
 rintro e w2 ⟨rfl, hb2⟩
 have hB2 : Bel w w2 := bel_trans (belx) hb2
 have P2 := P1.below hb2 P1.size
 have e1_6 := P2.cell 6
 go_wp2_with fail
 refine (o_szLetterS_t (tLetter.row.reach hr6 ?hB) (by omega) (by omega) (by omega)).mono ?_
 case hB => exact (belx)
 rintro e w3 ⟨rfl, hb3⟩
 have hB3 : Bel w w3 := bel_trans (belx) hb3
 have P3 := P2.below hb3 P2.size
 go_wp2
 go_ret
 exact ⟨ret_int (by omega), hB3⟩
theorem o_szNode_f {w : World} {cs : List Value} {p : DNode} {k : Int} (h : tNode.R w w.heap.size cs p) (h1 : 0 ≤ k) (h2 : k ≤ 1048576) (h3 : ¬ (szNode p : Int) ≤ k) :
  Calls Tryz.prog 46 #[.agg cs.toArray, .int .i64 k] w fun e w' => e = .returned (.int .i64 (-1)) ∧ Bel w w' := by
 obtain ⟨A2, n2, c2, A3, n3, c3, A4, n4, c4, A5, n5, c5, A6, n6, c6, rfl, hi0, hi1, ha2, hb2, hl2, hr2, ha3, hb3, hl3, hr3, ha4, hb4, hl4, hr4, ha5, hb5, hl5, hr5, ha6, hb6, hl6, hr6⟩ := openNode h
 obtain ⟨x0, x1, ⟨r2, l3⟩, ⟨r4, l5⟩, r6⟩ := p
 try dsimp only [szNode] at *
 subst hl2
 subst hl3
 subst hl4
 subst hl5
 subst hl6
 by_cases g0 : (((szPool (r2, l3)) : Nat) : Int) ≤ k
 rotate_left
 ·go_enter Tryz.func46, Tryz.ntmps46
  go_wp2_with fail
  refine (o_szPool_f (tPool.reach (makePool (p := (r2, l3)) hr2 hr3) ?hB) (by omega) (by omega) (by omega)).mono ?_
  case hB => exact (belx)
  rintro e w1 ⟨rfl, hb1⟩
  have hB1 : Bel w w1 := bel_trans (belx) hb1
  have P1 : Box w1 w.heap.size 90 #[.int .i64 x0, .int .i64 x1, .slice A2 r2.length c2, .slice A3 l3.length c3, .slice A4 r4.length c4, .slice A5 l5.length c5, .slice A6 r6.length c6] := (Box.new _ _ _).below hb1 lez
  go_wp2
  go_ret
  exact ⟨rfl, hB1⟩
 by_cases g1 : (((szPool (r2, l3) + szDesk (r4, l5)) : Nat) : Int) ≤ k
 rotate_left
 ·have d0 : decide (k - ((szPool (r2, l3) : Nat) : Int) < 0) = false := by simp; omega
  go_enter Tryz.func46, Tryz.ntmps46
  go_wp2_with fail
  refine (o_szPool_t (tPool.reach (makePool (p := (r2, l3)) hr2 hr3) ?hB) (by omega) (by omega) (by omega)).mono ?_
  case hB => exact (belx)
  rintro e w1 ⟨rfl, hb1⟩
  have hB1 : Bel w w1 := bel_trans (belx) hb1
  have P1 : Box w1 w.heap.size 90 #[.int .i64 x0, .int .i64 x1, .slice A2 r2.length c2, .slice A3 l3.length c3, .slice A4 r4.length c4, .slice A5 l5.length c5, .slice A6 r6.length c6] := (Box.new _ _ _).below hb1 lez
  have e0_4 := P1.cell 4
  have e0_5 := P1.cell 5
  go_wp2_with fail
  refine (o_szDesk_f (tDesk.reach (makeDesk (p := (r4, l5)) hr4 hr5) ?hB) (by omega) (by omega) (by omega)).mono ?_
  case hB => exact (belx)
  rintro e w2 ⟨rfl, hb2⟩
  have hB2 : Bel w w2 := bel_trans (belx) hb2
  have P2 := P1.below hb2 P1.size
  go_wp2
  go_ret
  exact ⟨rfl, hB2⟩
 have d0 : decide (k - ((szPool (r2, l3) : Nat) : Int) < 0) = false := by simp; omega
 have d1 : decide (k - ((szPool (r2, l3) : Nat) : Int) - ((szDesk (r4, l5) : Nat) : Int) < 0) = false := by simp; omega
 go_enter Tryz.func46, Tryz.ntmps46
 go_wp2_with fail
 refine (o_szPool_t (tPool.reach (makePool (p := (r2, l3)) hr2 hr3) ?hB) (by omega) (by omega) (by omega)).mono ?_
 case hB => exact (belx)
 rintro e w1 ⟨rfl, hb1⟩
 have hB1 : Bel w w1 := bel_trans (belx) hb1
 have P1 : Box w1 w.heap.size 90 #[.int .i64 x0, .int .i64 x1, .slice A2 r2.length c2, .slice A3 l3.length c3, .slice A4 r4.length c4, .slice A5 l5.length c5, .slice A6 r6.length c6] := (Box.new _ _ _).below hb1 lez
 have e0_4 := P1.cell 4
 have e0_5 := P1.cell 5
 go_wp2_with fail
 refine (o_szDesk_t (tDesk.reach (makeDesk (p := (r4, l5)) hr4 hr5) ?hB) (by omega) (by omega) (by omega)).mono ?_
 case hB => exact (belx)
 rintro e w2 ⟨rfl, hb2⟩
 have hB2 : Bel w w2 := bel_trans (belx) hb2
 have P2 := P1.below hb2 P1.size
 have e1_6 := P2.cell 6
 go_wp2_with fail
 refine (o_szLetterS_f (tLetter.row.reach hr6 ?hB) (by omega) (by omega) (by omega)).mono ?_
 case hB => exact (belx)
 rintro e w3 ⟨rfl, hb3⟩
 have hB3 : Bel w w3 := bel_trans (belx) hb3
 have P3 := P2.below hb3 P2.size
 go_wp2
 go_ret
 exact ⟨rfl, hB3⟩
set_option maxHeartbeats 400000 in
theorem o_toNode {w : World} {cs : List Value} {p : DNode} (h : tNode.R w w.heap.size cs p) (hn : szNode p ≤ 1048576) :
  Calls Tryz.prog 54 #[.agg cs.toArray] w fun e w' => ∃ cs' F, e = .returned (.agg cs'.toArray) ∧ tNode.O w' cs' p F ∧ New w.heap.size F ∧ Bel w w' := by
 obtain ⟨A2, n2, c2, A3, n3, c3, A4, n4, c4, A5, n5, c5, A6, n6, c6, rfl, hi0, hi1, ha2, hb2, hl2, hr2, ha3, hb3, hl3, hr3, ha4, hb4, hl4, hr4, ha5, hb5, hl5, hr5, ha6, hb6, hl6, hr6⟩ := openNode h
 obtain ⟨x0, x1, ⟨r2, l3⟩, ⟨r4, l5⟩, r6⟩ := p
 try dsimp only [szNode] at *
 subst hl2
 subst hl3
 subst hl4
 subst hl5
 subst hl6
 go_enter Tryz.func54, Tryz.ntmps54
 go_wp2_with fail
 refine (o_toPool (tPool.reach (makePool (p := (r2, l3)) hr2 hr3) ?hB) (by omega)).mono ?_
 case hB => exact (belx)
 rintro e w1 ⟨cs1, G1, rfl, hO1, hN1, hb1⟩
 obtain ⟨B2, d2, F2, B3, d3, F3, rfl, hGe1, _, _, o2, _, _, o3⟩ := openOPool hO1
 try dsimp only at *
 subst G1
 have z1 : w.heap.size + 3 ≤ w1.heap.size := by have := hb1.size; simpa using this
 have hB1 : Bel w w1 := bel_trans (belx) hb1
 have R1 : Box w1 (w.heap.size + 1) 109 #[.int .i64 0, .int .i64 0, .slice none 0 0, .slice none 0 0, .slice none 0 0, .slice none 0 0, .slice none 0 0] := Box.below (Box.alloc (by simpa using Box.new (w.alloc _) 109 #[.int .i64 0, .int .i64 0, .slice none 0 0, .slice none 0 0, .slice none 0 0, .slice none 0 0, .slice none 0 0]) _) hb1 lez
 have L1 : Box w1 (w.heap.size + 1 + 1) 109 #[.int .i64 x0, .int .i64 x1, .slice none 0 0, .slice none 0 0, .slice none 0 0, .slice none 0 0, .slice none 0 0] := Box.below (by simpa using Box.new ((w.alloc _).alloc _) 109 #[.int .i64 x0, .int .i64 x1, .slice none 0 0, .slice none 0 0, .slice none 0 0, .slice none 0 0, .slice none 0 0]) hb1 lez
 have P1 : Box w1 w.heap.size 90 #[.int .i64 x0, .int .i64 x1, .slice A2 r2.length c2, .slice A3 l3.length c3, .slice A4 r4.length c4, .slice A5 l5.length c5, .slice A6 r6.length c6] := Box.below (((Box.new w 90 #[.int .i64 x0, .int .i64 x1, .slice A2 r2.length c2, .slice A3 l3.length c3, .slice A4 r4.length c4, .slice A5 l5.length c5, .slice A6 r6.length c6]).alloc _).alloc _) hb1 lez
 have hM1 : New (w.heap.size + 3) (F2 ++ F3) := hN1.lower (by simp)
 clear hN1
 have hM1_2 : New (w.heap.size + 3) F2 := New.sub hM1 (by intro f hf; simp [hf]) (by have := hM1.1; simp only [List.nodup_append] at this; simp [this])
 have hM1_3 : New (w.heap.size + 3) F3 := New.sub hM1 (by intro f hf; simp [hf]) (by have := hM1.1; simp only [List.nodup_append] at this; simp [this])
 have y1 : ∀ f ∈ F2 ++ F3, f < w1.heap.size := by intro f hf; (try simp only [List.mem_append] at hf); rcases hf with hf | hf <;> first | exact (tHeld.row).lt o2 f hf | exact (tIs).lt o3 f hf
 have kr1_0 := R1.cell 0; have fr1_0 := R1.frozen 0; have kl1_0 := L1.cell 0; have fl1_0 := L1.frozen 0; have kp1_0 := P1.cell 0
 have kr1_1 := R1.cell 1; have fr1_1 := R1.frozen 1; have kl1_1 := L1.cell 1; have fl1_1 := L1.frozen 1; have kp1_1 := P1.cell 1
 have kr1_2 := R1.cell 2; have fr1_2 := R1.frozen 2; have kl1_2 := L1.cell 2; have fl1_2 := L1.frozen 2; have kp1_2 := P1.cell 2
 have kr1_3 := R1.cell 3; have fr1_3 := R1.frozen 3; have kl1_3 := L1.cell 3; have fl1_3 := L1.frozen 3; have kp1_3 := P1.cell 3
 have kr1_4 := R1.cell 4; have fr1_4 := R1.frozen 4; have kl1_4 := L1.cell 4; have fl1_4 := L1.frozen 4; have kp1_4 := P1.cell 4
 have kr1_5 := R1.cell 5; have fr1_5 := R1.frozen 5; have kl1_5 := L1.cell 5; have fl1_5 := L1.frozen 5; have kp1_5 := P1.cell 5
 have kr1_6 := R1.cell 6; have fr1_6 := R1.frozen 6; have kl1_6 := L1.cell 6; have fl1_6 := L1.frozen 6; have kp1_6 := P1.cell 6
 go_wp2_with fail
 refine (o_toDesk (tDesk.reach (makeDesk (p := (r4, l5)) hr4 hr5) ?hB) (by omega)).mono ?_
 case hB => exact (belx)
 rintro e w2 ⟨cs2, G2, rfl, hO2, hN2, hb2⟩
 obtain ⟨B4, d4, F4, B5, d5, F5, rfl, hGe2, _, _, o4, _, _, o5⟩ := openODesk hO2
 try dsimp only at *
 subst G2
 have z2 : w.heap.size + 3 ≤ w2.heap.size := Nat.le_trans z1 (by have := hb2.size; simpa using this)
 have hB2 : Bel w w2 := bel_trans (belx) hb2
 have R2 : Box w2 (w.heap.size + 1) 109 #[.int .i64 0, .int .i64 0, .slice none 0 0, .slice none 0 0, .slice none 0 0, .slice none 0 0, .slice none 0 0] := Box.below ((R1.far (p := ⟨w.heap.size + 1 + 1, 2, none⟩) lez (.slice B2 r2.length d2)).far (p := ⟨w.heap.size + 1 + 1, 3, none⟩) lez (.slice B3 l3.length d3)) hb2 lez
 have L2 : Box w2 (w.heap.size + 1 + 1) 109 #[.int .i64 x0, .int .i64 x1, .slice B2 r2.length d2, .slice B3 l3.length d3, .slice none 0 0, .slice none 0 0, .slice none 0 0] := Box.below (by simpa using ((L1.put 2 (.slice B2 r2.length d2)).put 3 (.slice B3 l3.length d3))) hb2 lez
 have P2 : Box w2 w.heap.size 90 #[.int .i64 x0, .int .i64 x1, .slice A2 r2.length c2, .slice A3 l3.length c3, .slice A4 r4.length c4, .slice A5 l5.length c5, .slice A6 r6.length c6] := Box.below ((P1.far (p := ⟨w.heap.size + 1 + 1, 2, none⟩) lez (.slice B2 r2.length d2)).far (p := ⟨w.heap.size + 1 + 1, 3, none⟩) lez (.slice B3 l3.length d3)) hb2 lez
 replace o2 := Ty.below (t := tHeld.row) (Ty.far (t := tHeld.row) (Ty.far (t := tHeld.row) o2 hM1_2 (p := ⟨w.heap.size + 1 + 1, 2, none⟩) lez (.slice B2 r2.length d2)) hM1_2 (p := ⟨w.heap.size + 1 + 1, 3, none⟩) lez (.slice B3 l3.length d3)) hb2
 replace o3 := Ty.below (t := tIs) (Ty.far (t := tIs) (Ty.far (t := tIs) o3 hM1_3 (p := ⟨w.heap.size + 1 + 1, 2, none⟩) lez (.slice B2 r2.length d2)) hM1_3 (p := ⟨w.heap.size + 1 + 1, 3, none⟩) lez (.slice B3 l3.length d3)) hb2
 have hM2 : New (w.heap.size + 3) (F4 ++ F5) := hN2.lower (by simp; omega)
 have hV2 : New w1.heap.size (F4 ++ F5) := hN2.lower lez
 have zz2 : w1.heap.size ≤ w2.heap.size := by have := hb2.size; simpa using this
 clear hN2
 have hM2_4 : New (w.heap.size + 3) F4 := New.sub hM2 (by intro f hf; simp [hf]) (by have := hM2.1; simp only [List.nodup_append] at this; simp [this])
 have hM2_5 : New (w.heap.size + 3) F5 := New.sub hM2 (by intro f hf; simp [hf]) (by have := hM2.1; simp only [List.nodup_append] at this; simp [this])
 have y2 : ∀ f ∈ F4 ++ F5, f < w2.heap.size := by intro f hf; (try simp only [List.mem_append] at hf); rcases hf with hf | hf <;> first | exact (tWhole.row).lt o4 f hf | exact (tIs).lt o5 f hf
 have kr2_0 := R2.cell 0; have fr2_0 := R2.frozen 0; have kl2_0 := L2.cell 0; have fl2_0 := L2.frozen 0; have kp2_0 := P2.cell 0
 have kr2_1 := R2.cell 1; have fr2_1 := R2.frozen 1; have kl2_1 := L2.cell 1; have fl2_1 := L2.frozen 1; have kp2_1 := P2.cell 1
 have kr2_2 := R2.cell 2; have fr2_2 := R2.frozen 2; have kl2_2 := L2.cell 2; have fl2_2 := L2.frozen 2; have kp2_2 := P2.cell 2
 have kr2_3 := R2.cell 3; have fr2_3 := R2.frozen 3; have kl2_3 := L2.cell 3; have fl2_3 := L2.frozen 3; have kp2_3 := P2.cell 3
 have kr2_4 := R2.cell 4; have fr2_4 := R2.frozen 4; have kl2_4 := L2.cell 4; have fl2_4 := L2.frozen 4; have kp2_4 := P2.cell 4
 have kr2_5 := R2.cell 5; have fr2_5 := R2.frozen 5; have kl2_5 := L2.cell 5; have fl2_5 := L2.frozen 5; have kp2_5 := P2.cell 5
 have kr2_6 := R2.cell 6; have fr2_6 := R2.frozen 6; have kl2_6 := L2.cell 6; have fl2_6 := L2.frozen 6; have kp2_6 := P2.cell 6
 go_wp2_with fail
 refine (o_toLetterS (tLetter.row.reach hr6 ?hB) (by omega)).mono ?_
 case hB => exact (belx)
 rintro e w3 ⟨B6, d6, F6, rfl, o6, hN3, hb3⟩
 have z3 : w.heap.size + 3 ≤ w3.heap.size := Nat.le_trans z2 (by have := hb3.size; simpa using this)
 have hB3 : Bel w w3 := bel_trans (belx) hb3
 have R3 : Box w3 (w.heap.size + 1) 109 #[.int .i64 0, .int .i64 0, .slice none 0 0, .slice none 0 0, .slice none 0 0, .slice none 0 0, .slice none 0 0] := Box.below ((R2.far (p := ⟨w.heap.size + 1 + 1, 4, none⟩) lez (.slice B4 r4.length d4)).far (p := ⟨w.heap.size + 1 + 1, 5, none⟩) lez (.slice B5 l5.length d5)) hb3 lez
 have L3 : Box w3 (w.heap.size + 1 + 1) 109 #[.int .i64 x0, .int .i64 x1, .slice B2 r2.length d2, .slice B3 l3.length d3, .slice B4 r4.length d4, .slice B5 l5.length d5, .slice none 0 0] := Box.below (by simpa using ((L2.put 4 (.slice B4 r4.length d4)).put 5 (.slice B5 l5.length d5))) hb3 lez
 have P3 : Box w3 w.heap.size 90 #[.int .i64 x0, .int .i64 x1, .slice A2 r2.length c2, .slice A3 l3.length c3, .slice A4 r4.length c4, .slice A5 l5.length c5, .slice A6 r6.length c6] := Box.below ((P2.far (p := ⟨w.heap.size + 1 + 1, 4, none⟩) lez (.slice B4 r4.length d4)).far (p := ⟨w.heap.size + 1 + 1, 5, none⟩) lez (.slice B5 l5.length d5)) hb3 lez
 replace o2 := Ty.below (t := tHeld.row) (Ty.far (t := tHeld.row) (Ty.far (t := tHeld.row) o2 hM1_2 (p := ⟨w.heap.size + 1 + 1, 4, none⟩) lez (.slice B4 r4.length d4)) hM1_2 (p := ⟨w.heap.size + 1 + 1, 5, none⟩) lez (.slice B5 l5.length d5)) hb3
 replace o3 := Ty.below (t := tIs) (Ty.far (t := tIs) (Ty.far (t := tIs) o3 hM1_3 (p := ⟨w.heap.size + 1 + 1, 4, none⟩) lez (.slice B4 r4.length d4)) hM1_3 (p := ⟨w.heap.size + 1 + 1, 5, none⟩) lez (.slice B5 l5.length d5)) hb3
 replace o4 := Ty.below (t := tWhole.row) (Ty.far (t := tWhole.row) (Ty.far (t := tWhole.row) o4 hM2_4 (p := ⟨w.heap.size + 1 + 1, 4, none⟩) lez (.slice B4 r4.length d4)) hM2_4 (p := ⟨w.heap.size + 1 + 1, 5, none⟩) lez (.slice B5 l5.length d5)) hb3
 replace o5 := Ty.below (t := tIs) (Ty.far (t := tIs) (Ty.far (t := tIs) o5 hM2_5 (p := ⟨w.heap.size + 1 + 1, 4, none⟩) lez (.slice B4 r4.length d4)) hM2_5 (p := ⟨w.heap.size + 1 + 1, 5, none⟩) lez (.slice B5 l5.length d5)) hb3
 have hM3 : New (w.heap.size + 3) (F6) := hN3.lower (by simp; omega)
 have hV3 : New w2.heap.size (F6) := hN3.lower lez
 have zz3 : w2.heap.size ≤ w3.heap.size := by have := hb3.size; simpa using this
 clear hN3
 have y3 : ∀ f ∈ F6, f < w3.heap.size := by intro f hf; exact tLetter.row.lt o6 f hf
 have kr3_0 := R3.cell 0; have fr3_0 := R3.frozen 0; have kl3_0 := L3.cell 0; have fl3_0 := L3.frozen 0; have kp3_0 := P3.cell 0
 have kr3_1 := R3.cell 1; have fr3_1 := R3.frozen 1; have kl3_1 := L3.cell 1; have fl3_1 := L3.frozen 1; have kp3_1 := P3.cell 1
 have kr3_2 := R3.cell 2; have fr3_2 := R3.frozen 2; have kl3_2 := L3.cell 2; have fl3_2 := L3.frozen 2; have kp3_2 := P3.cell 2
 have kr3_3 := R3.cell 3; have fr3_3 := R3.frozen 3; have kl3_3 := L3.cell 3; have fl3_3 := L3.frozen 3; have kp3_3 := P3.cell 3
 have kr3_4 := R3.cell 4; have fr3_4 := R3.frozen 4; have kl3_4 := L3.cell 4; have fl3_4 := L3.frozen 4; have kp3_4 := P3.cell 4
 have kr3_5 := R3.cell 5; have fr3_5 := R3.frozen 5; have kl3_5 := L3.cell 5; have fl3_5 := L3.frozen 5; have kp3_5 := P3.cell 5
 have kr3_6 := R3.cell 6; have fr3_6 := R3.frozen 6; have kl3_6 := L3.cell 6; have fl3_6 := L3.frozen 6; have kp3_6 := P3.cell 6
 go_wp2
 have RR := ((((((((R3.far (p := ⟨w.heap.size + 1 + 1, 6, none⟩) lez (.slice B6 r6.length d6)).put 0 (.int .i64 x0)).put 1 (.int .i64 x1)).put 2 (.slice B2 r2.length d2)).put 3 (.slice B3 l3.length d3)).put 4 (.slice B4 r4.length d4)).put 5 (.slice B5 l5.length d5)).put 6 (.slice B6 r6.length d6))
 have e0 := RR.cell 0
 have e1 := RR.cell 1
 have e2 := RR.cell 2
 have e3 := RR.cell 3
 have e4 := RR.cell 4
 have e5 := RR.cell 5
 have e6 := RR.cell 6
 have u2 := (Ty.far (t := tHeld.row) (Ty.far (t := tHeld.row) (Ty.far (t := tHeld.row) (Ty.far (t := tHeld.row) (Ty.far (t := tHeld.row) (Ty.far (t := tHeld.row) (Ty.far (t := tHeld.row) (Ty.far (t := tHeld.row) o2 hM1_2 (p := ⟨w.heap.size + 1 + 1, 6, none⟩) lez (.slice B6 r6.length d6)) hM1_2 (p := ⟨w.heap.size + 1, 0, none⟩) lez (.int .i64 x0)) hM1_2 (p := ⟨w.heap.size + 1, 1, none⟩) lez (.int .i64 x1)) hM1_2 (p := ⟨w.heap.size + 1, 2, none⟩) lez (.slice B2 r2.length d2)) hM1_2 (p := ⟨w.heap.size + 1, 3, none⟩) lez (.slice B3 l3.length d3)) hM1_2 (p := ⟨w.heap.size + 1, 4, none⟩) lez (.slice B4 r4.length d4)) hM1_2 (p := ⟨w.heap.size + 1, 5, none⟩) lez (.slice B5 l5.length d5)) hM1_2 (p := ⟨w.heap.size + 1, 6, none⟩) lez (.slice B6 r6.length d6))
 have u3 := (Ty.far (t := tIs) (Ty.far (t := tIs) (Ty.far (t := tIs) (Ty.far (t := tIs) (Ty.far (t := tIs) (Ty.far (t := tIs) (Ty.far (t := tIs) (Ty.far (t := tIs) o3 hM1_3 (p := ⟨w.heap.size + 1 + 1, 6, none⟩) lez (.slice B6 r6.length d6)) hM1_3 (p := ⟨w.heap.size + 1, 0, none⟩) lez (.int .i64 x0)) hM1_3 (p := ⟨w.heap.size + 1, 1, none⟩) lez (.int .i64 x1)) hM1_3 (p := ⟨w.heap.size + 1, 2, none⟩) lez (.slice B2 r2.length d2)) hM1_3 (p := ⟨w.heap.size + 1, 3, none⟩) lez (.slice B3 l3.length d3)) hM1_3 (p := ⟨w.heap.size + 1, 4, none⟩) lez (.slice B4 r4.length d4)) hM1_3 (p := ⟨w.heap.size + 1, 5, none⟩) lez (.slice B5 l5.length d5)) hM1_3 (p := ⟨w.heap.size + 1, 6, none⟩) lez (.slice B6 r6.length d6))
 have u4 := (Ty.far (t := tWhole.row) (Ty.far (t := tWhole.row) (Ty.far (t := tWhole.row) (Ty.far (t := tWhole.row) (Ty.far (t := tWhole.row) (Ty.far (t := tWhole.row) (Ty.far (t := tWhole.row) (Ty.far (t := tWhole.row) o4 hM2_4 (p := ⟨w.heap.size + 1 + 1, 6, none⟩) lez (.slice B6 r6.length d6)) hM2_4 (p := ⟨w.heap.size + 1, 0, none⟩) lez (.int .i64 x0)) hM2_4 (p := ⟨w.heap.size + 1, 1, none⟩) lez (.int .i64 x1)) hM2_4 (p := ⟨w.heap.size + 1, 2, none⟩) lez (.slice B2 r2.length d2)) hM2_4 (p := ⟨w.heap.size + 1, 3, none⟩) lez (.slice B3 l3.length d3)) hM2_4 (p := ⟨w.heap.size + 1, 4, none⟩) lez (.slice B4 r4.length d4)) hM2_4 (p := ⟨w.heap.size + 1, 5, none⟩) lez (.slice B5 l5.length d5)) hM2_4 (p := ⟨w.heap.size + 1, 6, none⟩) lez (.slice B6 r6.length d6))
 have u5 := (Ty.far (t := tIs) (Ty.far (t := tIs) (Ty.far (t := tIs) (Ty.far (t := tIs) (Ty.far (t := tIs) (Ty.far (t := tIs) (Ty.far (t := tIs) (Ty.far (t := tIs) o5 hM2_5 (p := ⟨w.heap.size + 1 + 1, 6, none⟩) lez (.slice B6 r6.length d6)) hM2_5 (p := ⟨w.heap.size + 1, 0, none⟩) lez (.int .i64 x0)) hM2_5 (p := ⟨w.heap.size + 1, 1, none⟩) lez (.int .i64 x1)) hM2_5 (p := ⟨w.heap.size + 1, 2, none⟩) lez (.slice B2 r2.length d2)) hM2_5 (p := ⟨w.heap.size + 1, 3, none⟩) lez (.slice B3 l3.length d3)) hM2_5 (p := ⟨w.heap.size + 1, 4, none⟩) lez (.slice B4 r4.length d4)) hM2_5 (p := ⟨w.heap.size + 1, 5, none⟩) lez (.slice B5 l5.length d5)) hM2_5 (p := ⟨w.heap.size + 1, 6, none⟩) lez (.slice B6 r6.length d6))
 have u6 := (Ty.far (t := tLetter.row) (Ty.far (t := tLetter.row) (Ty.far (t := tLetter.row) (Ty.far (t := tLetter.row) (Ty.far (t := tLetter.row) (Ty.far (t := tLetter.row) (Ty.far (t := tLetter.row) (Ty.far (t := tLetter.row) o6 hM3 (p := ⟨w.heap.size + 1 + 1, 6, none⟩) lez (.slice B6 r6.length d6)) hM3 (p := ⟨w.heap.size + 1, 0, none⟩) lez (.int .i64 x0)) hM3 (p := ⟨w.heap.size + 1, 1, none⟩) lez (.int .i64 x1)) hM3 (p := ⟨w.heap.size + 1, 2, none⟩) lez (.slice B2 r2.length d2)) hM3 (p := ⟨w.heap.size + 1, 3, none⟩) lez (.slice B3 l3.length d3)) hM3 (p := ⟨w.heap.size + 1, 4, none⟩) lez (.slice B4 r4.length d4)) hM3 (p := ⟨w.heap.size + 1, 5, none⟩) lez (.slice B5 l5.length d5)) hM3 (p := ⟨w.heap.size + 1, 6, none⟩) lez (.slice B6 r6.length d6))
 obtain ⟨F, hF, hFe⟩ := makeONode (p := (x0, x1, (r2, l3), (r4, l5), r6)) hi0 hi1 u2 u3 u4 u5 u6
 refine bodyPost_ret (v := .agg #[.int .i64 x0, .int .i64 x1, .slice B2 r2.length d2, .slice B3 l3.length d3, .slice B4 r4.length d4, .slice B5 l5.length d5, .slice B6 r6.length d6]) (by simp [results, Tryz.results54, go_sem, e0, e1, e2, e3, e4, e5, e6]) rfl ⟨_, F, rfl, hF, ?_, ?_⟩
 ·rw [hFe]
  exact New.lower (B := w.heap.size + 3) (by have hh := (New.app (New.app hM1 hV2 (by omega) y1) hV3 (by omega) (fun f hf => by rcases List.mem_append.1 hf with h | h; have := y1 f h; omega; exact y2 f h)); simp only [List.append_assoc] at hh ⊢; exact hh) (by omega)
 ·exact (bel_put (bel_put (bel_put (bel_put (bel_put (bel_put (bel_put (bel_put hB3 lez _) lez _) lez _) lez _) lez _) lez _) lez _) lez _)
theorem o_eqNode {w : World} {cs cs' : List Value} {p : DNode} (h : tNode.R w w.heap.size cs p) (h' : tNode.R w w.heap.size cs' p) :
  Calls Tryz.prog 72 #[.agg cs.toArray, .agg cs'.toArray] w fun e w' => e = .returned (.bool true) ∧ Bel w w' := by
 obtain ⟨A2, n2, c2, A3, n3, c3, A4, n4, c4, A5, n5, c5, A6, n6, c6, rfl, hi0, hi1, ha2, hb2, hl2, hr2, ha3, hb3, hl3, hr3, ha4, hb4, hl4, hr4, ha5, hb5, hl5, hr5, ha6, hb6, hl6, hr6⟩ := openNode h
 obtain ⟨A2', n2', c2', A3', n3', c3', A4', n4', c4', A5', n5', c5', A6', n6', c6', rfl, hi0', hi1', ha2', hb2', hl2', hr2', ha3', hb3', hl3', hr3', ha4', hb4', hl4', hr4', ha5', hb5', hl5', hr5', ha6', hb6', hl6', hr6'⟩ := openNode h'
 obtain ⟨x0, x1, ⟨r2, l3⟩, ⟨r4, l5⟩, r6⟩ := p
 try dsimp only at *
 subst hl2
 subst hl2'
 subst hl3
 subst hl3'
 subst hl4
 subst hl4'
 subst hl5
 subst hl5'
 subst hl6
 subst hl6'
 have q0 : (x0 != x0) = false := by simp
 have q1 : (x1 != x1) = false := by simp
 go_enter Tryz.func72, Tryz.ntmps72
 go_wp2_with fail
 refine (o_eqPool (tPool.reach (makePool (p := (r2, l3)) hr2 hr3) ?hB) (tPool.reach (makePool (p := (r2, l3)) hr2' hr3') ?hB)).mono ?_
 case hB => exact (belx)
 rintro e w1 ⟨rfl, hb1⟩
 have hB1 : Bel w w1 := bel_trans (belx) hb1
 have P1 : Box w1 w.heap.size 109 #[.int .i64 x0, .int .i64 x1, .slice A2 r2.length c2, .slice A3 l3.length c3, .slice A4 r4.length c4, .slice A5 l5.length c5, .slice A6 r6.length c6] := ((Box.new _ _ _).alloc _).below hb1 lez
 have Q1 : Box w1 (w.heap.size + 1) 109 #[.int .i64 x0, .int .i64 x1, .slice A2' r2.length c2', .slice A3' l3.length c3', .slice A4' r4.length c4', .slice A5' l5.length c5', .slice A6' r6.length c6'] := Box.below (by simpa using Box.new (w.alloc _) 109 #[.int .i64 x0, .int .i64 x1, .slice A2' r2.length c2', .slice A3' l3.length c3', .slice A4' r4.length c4', .slice A5' l5.length c5', .slice A6' r6.length c6']) hb1 lez
 have e0_4 := P1.cell 4
 have e0_4q := Q1.cell 4
 have e0_5 := P1.cell 5
 have e0_5q := Q1.cell 5
 go_wp2_with fail
 refine (o_eqDesk (tDesk.reach (makeDesk (p := (r4, l5)) hr4 hr5) ?hB) (tDesk.reach (makeDesk (p := (r4, l5)) hr4' hr5') ?hB)).mono ?_
 case hB => exact (belx)
 rintro e w2 ⟨rfl, hb2⟩
 have hB2 : Bel w w2 := bel_trans (belx) hb2
 have P2 := P1.below hb2 P1.size
 have Q2 := Q1.below hb2 Q1.size
 have e1_6 := P2.cell 6
 have e1_6q := Q2.cell 6
 go_wp2_with fail
 refine (o_eqLetterS (tLetter.row.reach hr6 ?hB) (tLetter.row.reach hr6' ?hB)).mono ?_
 case hB => exact (belx)
 rintro e w3 ⟨rfl, hb3⟩
 have hB3 : Bel w w3 := bel_trans (belx) hb3
 have P3 := P2.below hb3 P2.size
 have Q3 := Q2.below hb3 Q2.size
 go_wp2
 go_ret
 exact ⟨rfl, hB3⟩
theorem fopenONode {w : World} {cs : List Value} {p : DNode} {F : List Nat} (h : tNode.O w cs p F) : ∃ A2 c2 A3 c3 A4 c4 A5 c5 A6 c6 G2 G4 G6, cs = [.int .i64 (p.1), .int .i64 (p.2.1), .slice A2 ((p.2.2.1.1)).length c2, .slice A3 ((p.2.2.1.2)).length c3, .slice A4 ((p.2.2.2.1.1)).length c4, .slice A5 ((p.2.2.2.1.2)).length c5, .slice A6 ((p.2.2.2.2)).length c6] ∧ F = G2 ++ G4 ++ G6 ∧ (Lit.int .i64 (p.1)).wf = true ∧ (Lit.int .i64 (p.2.1)).wf = true ∧ (tPool).O w [.slice A2 ((p.2.2.1.1)).length c2, .slice A3 ((p.2.2.1.2)).length c3] (p.2.2.1) G2 ∧ (tDesk).O w [.slice A4 ((p.2.2.2.1.1)).length c4, .slice A5 ((p.2.2.2.1.2)).length c5] (p.2.2.2.1) G4 ∧ (tLetter.row).O w [.slice A6 ((p.2.2.2.2)).length c6] (p.2.2.2.2) G6 := by
 obtain ⟨ca0, cb0, Fa0, Fb0, rfl, rfl, ha0, hb0⟩ := h
 obtain ⟨ca1, cb1, Fa1, Fb1, rfl, rfl, ha1, hb1⟩ := hb0
 obtain ⟨ca2, cb2, Fa2, Fb2, rfl, rfl, ha2, hb2⟩ := hb1
 obtain ⟨ca3, cb3, Fa3, Fb3, rfl, rfl, ha3, hb3⟩ := hb2
 obtain ⟨rfl, hi0, rfl⟩ := ha0
 obtain ⟨rfl, hi1, rfl⟩ := ha1
 have hk2 := ha2
 obtain ⟨A2, c2, X2, A3, c3, X3, rfl, -, -, -, -, -, -, -⟩ := openOPool ha2
 have hk4 := ha3
 obtain ⟨A4, c4, X4, A5, c5, X5, rfl, -, -, -, -, -, -, -⟩ := openODesk ha3
 have hk6 := hb3
 obtain ⟨A6, c6, rfl, -, -⟩ := rowO_one hb3
 exact ⟨A2, c2, A3, c3, A4, c4, A5, c5, A6, c6, Fa2, Fa3, Fb3, rfl, by simp [List.append_assoc], hi0, hi1, hk2, hk4, hk6⟩
theorem fmakeONode {w : World} {p : DNode} {v2 v3 v4 v5 v6 : Value} {G2 G4 G6 : List Nat} (h0 : (Lit.int .i64 (p.1)).wf = true) (h1 : (Lit.int .i64 (p.2.1)).wf = true) (h2 : (tPool).O w [v2, v3] (p.2.2.1) G2) (h4 : (tDesk).O w [v4, v5] (p.2.2.2.1) G4) (h6 : (tLetter.row).O w [v6] (p.2.2.2.2) G6) : tNode.O w [.int .i64 (p.1), .int .i64 (p.2.1), v2, v3, v4, v5, v6] p (G2 ++ G4 ++ G6) := by
 have hh : ∃ F, tNode.O w [.int .i64 (p.1), .int .i64 (p.2.1), v2, v3, v4, v5, v6] p F ∧ F = G2 ++ G4 ++ G6 := ⟨_, ⟨_, _, _, _, rfl, rfl, ⟨rfl, h0, rfl⟩, ⟨_, _, _, _, rfl, rfl, ⟨rfl, h1, rfl⟩, ⟨_, _, _, _, rfl, rfl, h2, ⟨_, _, _, _, rfl, rfl, h4, h6⟩⟩⟩⟩, by simp [List.append_assoc]⟩
 obtain ⟨F, hF, rfl⟩ := hh
 exact hF
theorem fopenNode {w : World} {B : Nat} {cs : List Value} {p : DNode} (h : tNode.R w B cs p) : ∃ A2 n2 c2 A3 n3 c3 A4 n4 c4 A5 n5 c5 A6 n6 c6, cs = [.int .i64 (p.1), .int .i64 (p.2.1), .slice A2 n2 c2, .slice A3 n3 c3, .slice A4 n4 c4, .slice A5 n5 c5, .slice A6 n6 c6] ∧ (Lit.int .i64 (p.1)).wf = true ∧ (Lit.int .i64 (p.2.1)).wf = true ∧ (tPool).R w B [.slice A2 n2 c2, .slice A3 n3 c3] (p.2.2.1) ∧ (tDesk).R w B [.slice A4 n4 c4, .slice A5 n5 c5] (p.2.2.2.1) ∧ (tLetter.row).R w B [.slice A6 n6 c6] (p.2.2.2.2) := by
 obtain ⟨ca0, cb0, rfl, ha0, hb0⟩ := h
 obtain ⟨rfl, hi0⟩ := ha0
 obtain ⟨ca1, cb1, rfl, ha1, hb1⟩ := hb0
 obtain ⟨rfl, hi1⟩ := ha1
 obtain ⟨ca2, cb2, rfl, ha2, hb2⟩ := hb1
 have hk2 := ha2
 obtain ⟨A2, n2, c2, A3, n3, c3, rfl, -, -, -, -, -, -, -, -⟩ := openPool ha2
 obtain ⟨ca3, cb3, rfl, ha3, hb3⟩ := hb2
 have hk4 := ha3
 obtain ⟨A4, n4, c4, A5, n5, c5, rfl, -, -, -, -, -, -, -, -⟩ := openDesk ha3
 have hk6 := hb3
 obtain ⟨A6, n6, c6, rfl, -, -, -⟩ := row_one hb3
 exact ⟨A2, n2, c2, A3, n3, c3, A4, n4, c4, A5, n5, c5, A6, n6, c6, rfl, hi0, hi1, hk2, hk4, hk6⟩
end Go.Proofs.YtkdanlnhdgcplaaGreat
namespace Go.Proofs.YtkdanlnhdgcplaaGreat
set_option maxRecDepth 100000
set_option linter.unusedVariables false
set_option linter.unusedSimpArgs false
open Go.ChangeShapes Go.WideShapes Go.ChangeAt Go.RowKit
theorem o_szNodeS_t {w : World} {n c : Nat} {A : Option Addr} {l : List DNode} {k : Int} (h : tNode.row.R w w.heap.size [.slice A n c] l) (h1 : 0 ≤ k) (h2 : k ≤ 1048576) (h3 : (rsz szNode l : Int) ≤ k) :
  Calls Tryz.prog 17 #[.slice A n c, .int .i64 k] w fun e w' => e = .returned (.int .i64 (k - rsz szNode l)) ∧ Bel w w' := by
 obtain ⟨hln, hnc, hcm⟩ := rowR_len h
 obtain ⟨s, hs⟩ : ∃ s, rsum szNode l = s := ⟨_, rfl⟩
 have hz : rsz szNode l = n + s := by unfold rsz; rw [hln, hs]
 rw [hz] at h3 ⊢
 have HLN := Lib.hid hln
 have HS := Lib.hid hs
 clear hz hln hs
 have d : decide (k - (n : Int) < 0) = false := by simp; omega
 go_enter Tryz.func17, Tryz.ntmps17
 go_wp2_with fail
 go_loopw [1, 5] (fun x i wr => ∃ j : Nat, j ≤ n ∧ x = .int .i64 (k - n - (rsum szNode (l.take j) : Nat)) ∧ i = .int .i64 j ∧ Bel w wr) (fun _ i _ => n - (RowKit.intOf i).toNat)
 case atStart => exact ⟨0, by omega, by rw [rsum_zero]; go_num, rfl, (belx)⟩
 case round =>
  obtain ⟨j, hj, rfl, rfl, hB⟩ := hrel
  by_cases hlt : j < n
  ·obtain ⟨a, b, off, es, hl, rfl, hb, hes, hR⟩ := rowR_at (K := 7) h hlt rfl
   have hsa := rsum_at (c := szNode) hl
   have hsn := rsum_sn (c := szNode) hl
   rw [HS.out] at hsa
   obtain ⟨q, hq⟩ : ∃ q, rsum szNode (l.take j) = q := ⟨_, rfl⟩
   obtain ⟨q', hq'⟩ : ∃ q, rsum szNode (l.take (j + 1)) = q := ⟨_, rfl⟩
   rw [hq] at hsa hsn
   rw [hq'] at hsn
   rw [hq]
   have HQ := Lib.hid hq'
   clear hq hq'
   obtain ⟨A2, n2, c2, A3, n3, c3, A4, n4, c4, A5, n5, c5, A6, n6, c6, rfl, hi0, hi1, ha2, hb2, hl2, hr2, ha3, hb3, hl3, hr3, ha4, hb4, hl4, hr4, ha5, hb5, hl5, hr5, ha6, hb6, hl6, hr6⟩ := openNode hR
   have e0 : wr.cell? ⟨b, off + j * 7, none⟩ = some (.int .i64 (a.1)) := cell_at hB hb (hes 0 (by omega))
   have e1 : wr.cell? ⟨b, off + j * 7 + 1, none⟩ = some (.int .i64 (a.2.1)) := cell_at hB hb (hes 1 (by omega))
   have e2 : wr.cell? ⟨b, off + j * 7 + 2, none⟩ = some (.slice A2 n2 c2) := cell_at hB hb (hes 2 (by omega))
   have e3 : wr.cell? ⟨b, off + j * 7 + 3, none⟩ = some (.slice A3 n3 c3) := cell_at hB hb (hes 3 (by omega))
   have e4 : wr.cell? ⟨b, off + j * 7 + 4, none⟩ = some (.slice A4 n4 c4) := cell_at hB hb (hes 4 (by omega))
   have e5 : wr.cell? ⟨b, off + j * 7 + 5, none⟩ = some (.slice A5 n5 c5) := cell_at hB hb (hes 5 (by omega))
   have e6 : wr.cell? ⟨b, off + j * 7 + 6, none⟩ = some (.slice A6 n6 c6) := cell_at hB hb (hes 6 (by omega))
   clear hes
   have d2 : decide (k - (n : Int) - q - (szNode a : Nat) < 0) = false := by simp; omega
   go_wp2_with fail
   refine (o_szNode_t (tNode.reach hR ?hB) (by omega) (by omega) (by omega)).mono ?_
   case hB => exact (belx)
   rintro e w1 ⟨rfl, hb1⟩
   go_wp2
   go_roundw
   case rel => exact ⟨j + 1, by omega, by rw [HQ.out]; go_num, by go_num, bel_trans hB hb1⟩
   case measure => simp [RowKit.intOf]; omega
  ·obtain rfl : j = n := by omega
   have HA := Lib.hid (show rsum szNode (l.take j) = s from by rw [rsum_all (Nat.le_of_eq HLN.out)]; exact HS.out)
   rw [HA.out]
   go_wp2
   go_ret
   exact ⟨ret_int (by omega), hB⟩
theorem o_szNodeS_f {w : World} {n c : Nat} {A : Option Addr} {l : List DNode} {k : Int} (h : tNode.row.R w w.heap.size [.slice A n c] l) (h1 : 0 ≤ k) (h2 : k ≤ 1048576) (h3 : ¬ (rsz szNode l : Int) ≤ k) :
  Calls Tryz.prog 17 #[.slice A n c, .int .i64 k] w fun e w' => e = .returned (.int .i64 (-1)) ∧ Bel w w' := by
 obtain ⟨hln, hnc, hcm⟩ := rowR_len h
 obtain ⟨s, hs⟩ : ∃ s, rsum szNode l = s := ⟨_, rfl⟩
 have hz : rsz szNode l = n + s := by unfold rsz; rw [hln, hs]
 rw [hz] at h3
 have HLN := Lib.hid hln
 have HS := Lib.hid hs
 clear hz hln hs
 by_cases hnk : k < (n : Int)
 ·have d : decide (k - (n : Int) < 0) = true := by simp; omega
  go_enter Tryz.func17, Tryz.ntmps17
  go_wp2
  go_ret
  exact ⟨rfl, (belx)⟩
 have d : decide (k - (n : Int) < 0) = false := by simp; omega
 go_enter Tryz.func17, Tryz.ntmps17
 go_wp2_with fail
 go_loopw [1, 5] (fun x i wr => ∃ j : Nat, j ≤ n ∧ x = .int .i64 (k - n - (rsum szNode (l.take j) : Nat)) ∧ i = .int .i64 j ∧ Bel w wr ∧ (n : Int) + (rsum szNode (l.take j) : Nat) ≤ k) (fun _ i _ => n - (RowKit.intOf i).toNat)
 case atStart => exact ⟨0, by omega, by rw [rsum_zero]; go_num, rfl, (belx), by rw [rsum_zero]; omega⟩
 case round =>
  obtain ⟨j, hj, rfl, rfl, hB, hv⟩ := hrel
  by_cases hlt : j < n
  ·obtain ⟨a, b, off, es, hl, rfl, hb, hes, hR⟩ := rowR_at (K := 7) h hlt rfl
   have hsa := rsum_at (c := szNode) hl
   have hsn := rsum_sn (c := szNode) hl
   rw [HS.out] at hsa
   obtain ⟨q, hq⟩ : ∃ q, rsum szNode (l.take j) = q := ⟨_, rfl⟩
   obtain ⟨q', hq'⟩ : ∃ q, rsum szNode (l.take (j + 1)) = q := ⟨_, rfl⟩
   rw [hq] at hsa hsn
   rw [hq'] at hsn
   rw [hq]
   have HQ := Lib.hid hq'
   rw [hq] at hv
   clear hq hq'
   obtain ⟨A2, n2, c2, A3, n3, c3, A4, n4, c4, A5, n5, c5, A6, n6, c6, rfl, hi0, hi1, ha2, hb2, hl2, hr2, ha3, hb3, hl3, hr3, ha4, hb4, hl4, hr4, ha5, hb5, hl5, hr5, ha6, hb6, hl6, hr6⟩ := openNode hR
   have e0 : wr.cell? ⟨b, off + j * 7, none⟩ = some (.int .i64 (a.1)) := cell_at hB hb (hes 0 (by omega))
   have e1 : wr.cell? ⟨b, off + j * 7 + 1, none⟩ = some (.int .i64 (a.2.1)) := cell_at hB hb (hes 1 (by omega))
   have e2 : wr.cell? ⟨b, off + j * 7 + 2, none⟩ = some (.slice A2 n2 c2) := cell_at hB hb (hes 2 (by omega))
   have e3 : wr.cell? ⟨b, off + j * 7 + 3, none⟩ = some (.slice A3 n3 c3) := cell_at hB hb (hes 3 (by omega))
   have e4 : wr.cell? ⟨b, off + j * 7 + 4, none⟩ = some (.slice A4 n4 c4) := cell_at hB hb (hes 4 (by omega))
   have e5 : wr.cell? ⟨b, off + j * 7 + 5, none⟩ = some (.slice A5 n5 c5) := cell_at hB hb (hes 5 (by omega))
   have e6 : wr.cell? ⟨b, off + j * 7 + 6, none⟩ = some (.slice A6 n6 c6) := cell_at hB hb (hes 6 (by omega))
   clear hes
   by_cases hg : (n : Int) + q + (szNode a : Nat) ≤ k
   ·have d2 : decide (k - (n : Int) - q - (szNode a : Nat) < 0) = false := by simp; omega
    go_wp2_with fail
    refine (o_szNode_t (tNode.reach hR ?hB) (by omega) (by omega) (by omega)).mono ?_
    case hB => exact (belx)
    rintro e w1 ⟨rfl, hb1⟩
    go_wp2
    go_roundw
    case rel => exact ⟨j + 1, by omega, by rw [HQ.out]; go_num, by go_num, bel_trans hB hb1, by rw [HQ.out]; omega⟩
    case measure => simp [RowKit.intOf]; omega
   ·go_wp2_with fail
    refine (o_szNode_f (tNode.reach hR ?hB) (by omega) (by omega) (by omega)).mono ?_
    case hB => exact (belx)
    rintro e w1 ⟨rfl, hb1⟩
    go_wp2
    go_ret
    exact ⟨rfl, bel_trans hB hb1⟩
  ·obtain rfl : j = n := by omega
   have HA := Lib.hid (show rsum szNode (l.take j) = s from by rw [rsum_all (Nat.le_of_eq HLN.out)]; exact HS.out)
   rw [HA.out] at hv
   exact absurd hv (by omega)
theorem info_Node : (Tryz.prog.info? 109).map (fun i => (i.zero, i.size, i.bytes)) = some (some (.agg #[.int .i64 0, .int .i64 0, .slice none 0 0, .slice none 0 0, .slice none 0 0, .slice none 0 0, .slice none 0 0]), 7, 136) := by kernel_rfl
set_option maxHeartbeats 800000 in
theorem o_toNodeS {w : World} {n c : Nat} {A : Option Addr} {l : List DNode} (h : tNode.row.R w w.heap.size [.slice A n c] l) (hz : rsz szNode l ≤ 1048576) :
  Calls Tryz.prog 24 #[.slice A n c] w fun e w' => ∃ A' c' F, e = .returned (.slice A' l.length c') ∧ tNode.row.O w' [.slice A' l.length c'] l F ∧ New w.heap.size F ∧ Bel w w' := by
 obtain ⟨i0, hi0, hz0, hz1, hz2⟩ := info_parts info_Node
 obtain ⟨hln, hnc, hcm⟩ := rowR_len h
 have hn : n ≤ 1048576 := by have := rsz_le (s := szNode) l; omega
 have HLN := Lib.hid hln
 have HZ := Lib.hid hz
 clear hln hz
 go_enter Tryz.func24, Tryz.ntmps24
 go_wp2_with (at_make; refine wpList_mkS _ rfl (.tmp 6) (.tmp 6) _ rfl 109 i0 _ 7 Tryz.underlying30 hi0 hz0 hz1 n rfl rfl (by rw [hz2]; omega) (by simp only [maxLen]; omega) ?_; intro w1 cur hcur hsz hB1 hgr)
 go_loopw [4] (fun i wr => ∃ j : Nat, j ≤ n ∧ i = .int .i64 j ∧ Bel w wr ∧ ∃ F, Fill tNode wr w.heap.size 109 n (l.take j) F ∧ New (w.heap.size + 1) F) (fun i _ => n - (RowKit.intOf i).toNat)
 case atStart => exact ⟨0, by omega, rfl, hB1, [], Fill.start hcur hsz, New.nil _⟩
 case round =>
  obtain ⟨j, hj, rfl, hB, F, hf, hN⟩ := hrel
  by_cases hlt : j < n
  ·obtain ⟨a, b, off, es, hl, rfl, hb, hes, hR⟩ := rowR_at (K := 7) h hlt rfl
   have HT := Lib.hid (take_sn hl)
   have HLT := Lib.hid (show (l.take j).length = j from by rw [List.length_take, HLN.out]; omega)
   have hsa : szNode a ≤ 1048576 := by have := rsz_step (s := szNode) hl; have := HZ.out; omega
   obtain ⟨A2, n2, c2, A3, n3, c3, A4, n4, c4, A5, n5, c5, A6, n6, c6, rfl, hi0, hi1, ha2, hb2, hl2, hr2, ha3, hb3, hl3, hr3, ha4, hb4, hl4, hr4, ha5, hb5, hl5, hr5, ha6, hb6, hl6, hr6⟩ := openNode hR
   subst hl2
   subst hl3
   subst hl4
   subst hl5
   subst hl6
   have e0 : wr.cell? ⟨b, off + j * 7, none⟩ = some (.int .i64 (a.1)) := cell_at hB hb (hes 0 (by omega))
   have e1 : wr.cell? ⟨b, off + j * 7 + 1, none⟩ = some (.int .i64 (a.2.1)) := cell_at hB hb (hes 1 (by omega))
   have e2 : wr.cell? ⟨b, off + j * 7 + 2, none⟩ = some (.slice A2 (a.2.2.1.1).length c2) := cell_at hB hb (hes 2 (by omega))
   have e3 : wr.cell? ⟨b, off + j * 7 + 3, none⟩ = some (.slice A3 (a.2.2.1.2).length c3) := cell_at hB hb (hes 3 (by omega))
   have e4 : wr.cell? ⟨b, off + j * 7 + 4, none⟩ = some (.slice A4 (a.2.2.2.1.1).length c4) := cell_at hB hb (hes 4 (by omega))
   have e5 : wr.cell? ⟨b, off + j * 7 + 5, none⟩ = some (.slice A5 (a.2.2.2.1.2).length c5) := cell_at hB hb (hes 5 (by omega))
   have e6 : wr.cell? ⟨b, off + j * 7 + 6, none⟩ = some (.slice A6 (a.2.2.2.2).length c6) := cell_at hB hb (hes 6 (by omega))
   clear hes
   have hgs := hf.size
   go_wp2_with fail
   refine (o_toNode (tNode.reach hR ?hB) hsa).mono ?_
   case hB => exact (belx)
   rintro e w2 ⟨cs2, F2, rfl, hO2, hN2, hb2⟩
   obtain ⟨B2, d2, G2, B3, d3, G3, B4, d4, G4, B5, d5, G5, B6, d6, G6, rfl, hFe, _, _, _, _, _, _, _, _, _, _, _, _, _, _, _, _, _⟩ := openONode hO2
   clear hFe
   have hf2 := hf.below hb2
   have hsz2 := hb2.size
   have hP := Fill.push (K := 7) hf2 (by rw [HLT.out]; exact hlt) hO2 (hN.not (by omega)) (hN2.not hgs) rfl
   rw [HLT.out, ← HT.out] at hP
   have hM : New (w.heap.size + 1) (F ++ F2) := New.app hN hN2 (by omega) hf.lt
   obtain ⟨u0, k0⟩ := hf2.cell (K := 7) (j := 0) (by rw [HLT.out]; exact hlt) rfl (by omega)
   rw [HLT.out] at k0
   replace k0 : w2.cell? ⟨w.heap.size, j * 7, none⟩ = some u0 := k0
   have f0 := hf2.frozen (j * 7)
   obtain ⟨u1, k1⟩ := hf2.cell (K := 7) (j := 1) (by rw [HLT.out]; exact hlt) rfl (by omega)
   rw [HLT.out] at k1
   replace k1 : w2.cell? ⟨w.heap.size, j * 7 + 1, none⟩ = some u1 := k1
   have f1 := hf2.frozen (j * 7 + 1)
   obtain ⟨u2, k2⟩ := hf2.cell (K := 7) (j := 2) (by rw [HLT.out]; exact hlt) rfl (by omega)
   rw [HLT.out] at k2
   replace k2 : w2.cell? ⟨w.heap.size, j * 7 + 2, none⟩ = some u2 := k2
   have f2 := hf2.frozen (j * 7 + 2)
   obtain ⟨u3, k3⟩ := hf2.cell (K := 7) (j := 3) (by rw [HLT.out]; exact hlt) rfl (by omega)
   rw [HLT.out] at k3
   replace k3 : w2.cell? ⟨w.heap.size, j * 7 + 3, none⟩ = some u3 := k3
   have f3 := hf2.frozen (j * 7 + 3)
   obtain ⟨u4, k4⟩ := hf2.cell (K := 7) (j := 4) (by rw [HLT.out]; exact hlt) rfl (by omega)
   rw [HLT.out] at k4
   replace k4 : w2.cell? ⟨w.heap.size, j * 7 + 4, none⟩ = some u4 := k4
   have f4 := hf2.frozen (j * 7 + 4)
   obtain ⟨u5, k5⟩ := hf2.cell (K := 7) (j := 5) (by rw [HLT.out]; exact hlt) rfl (by omega)
   rw [HLT.out] at k5
   replace k5 : w2.cell? ⟨w.heap.size, j * 7 + 5, none⟩ = some u5 := k5
   have f5 := hf2.frozen (j * 7 + 5)
   obtain ⟨u6, k6⟩ := hf2.cell (K := 7) (j := 6) (by rw [HLT.out]; exact hlt) rfl (by omega)
   rw [HLT.out] at k6
   replace k6 : w2.cell? ⟨w.heap.size, j * 7 + 6, none⟩ = some u6 := k6
   have f6 := hf2.frozen (j * 7 + 6)
   go_wp2
   go_roundw
   case rel => exact ⟨j + 1, by omega, by go_num, below_puts (bel_trans hB hb2) (Nat.le_refl _) (off := j * 7) (vs := [.int .i64 (a.1), .int .i64 (a.2.1), .slice B2 (a.2.2.1.1).length d2, .slice B3 (a.2.2.1.2).length d3, .slice B4 (a.2.2.2.1.1).length d4, .slice B5 (a.2.2.2.1.2).length d5, .slice B6 (a.2.2.2.2).length d6]), _, hP, hM⟩
   case measure => simp [RowKit.intOf]; omega
  ·obtain rfl : j = n := by omega
   have HA := Lib.hid (show l.take j = l from by rw [List.take_of_length_le (Nat.le_of_eq HLN.out)])
   rw [HA.out] at hf
   obtain ⟨F2, hF2, hor⟩ := hf.done HLN.out (by omega)
   have HN := Lib.hid HLN.out
   go_wp2
   go_ret
   refine ⟨some ⟨w.heap.size, 0, none⟩, j, F2, ?_, hF2, hN.cons hor, hB⟩
   rw [HN.out]
   rfl
set_option maxHeartbeats 800000 in
theorem o_eqNodeS {w : World} {n m c d : Nat} {A A' : Option Addr} {l : List DNode} (h : tNode.row.R w w.heap.size [.slice A n c] l) (h' : tNode.row.R w w.heap.size [.slice A' m d] l) :
  Calls Tryz.prog 32 #[.slice A n c, .slice A' m d] w fun e w' => e = .returned (.bool true) ∧ Bel w w' := by
 obtain ⟨hln, hnc, hcm⟩ := rowR_len h
 obtain ⟨hln', hnc', hcm'⟩ := rowR_len h'
 obtain rfl : m = n := by omega
 have HLN := Lib.hid hln
 clear hln hln'
 go_enter Tryz.func32, Tryz.ntmps32
 go_wp2_with fail
 go_loopw [5] (fun i wr => ∃ j : Nat, j ≤ m ∧ i = .int .i64 j ∧ Bel w wr) (fun i _ => m - (RowKit.intOf i).toNat)
 case atStart => exact ⟨0, by omega, rfl, (belx)⟩
 case round =>
  obtain ⟨j, hj, rfl, hB⟩ := hrel
  by_cases hlt : j < m
  ·obtain ⟨a, b, off, es, hl, rfl, hb, hes, hR⟩ := rowR_at (K := 7) h hlt rfl
   obtain ⟨a', b', off', es', hl', rfl, hb', hes', hR'⟩ := rowR_at (K := 7) h' hlt rfl
   obtain rfl : a = a' := by rw [hl] at hl'; exact Option.some.inj hl'
   clear hl hl'
   obtain ⟨A2, n2, c2, A3, n3, c3, A4, n4, c4, A5, n5, c5, A6, n6, c6, rfl, hi0, hi1, ha2, hb2, hl2, hr2, ha3, hb3, hl3, hr3, ha4, hb4, hl4, hr4, ha5, hb5, hl5, hr5, ha6, hb6, hl6, hr6⟩ := openNode hR
   obtain ⟨A2', n2', c2', A3', n3', c3', A4', n4', c4', A5', n5', c5', A6', n6', c6', rfl, hi0', hi1', ha2', hb2', hl2', hr2', ha3', hb3', hl3', hr3', ha4', hb4', hl4', hr4', ha5', hb5', hl5', hr5', ha6', hb6', hl6', hr6'⟩ := openNode hR'
   subst hl2
   subst hl3
   subst hl4
   subst hl5
   subst hl6
   subst hl2'
   subst hl3'
   subst hl4'
   subst hl5'
   subst hl6'
   have e0 : wr.cell? ⟨b, off + j * 7, none⟩ = some (.int .i64 (a.1)) := cell_at hB hb (hes 0 (by omega))
   have e1 : wr.cell? ⟨b, off + j * 7 + 1, none⟩ = some (.int .i64 (a.2.1)) := cell_at hB hb (hes 1 (by omega))
   have e2 : wr.cell? ⟨b, off + j * 7 + 2, none⟩ = some (.slice A2 (a.2.2.1.1).length c2) := cell_at hB hb (hes 2 (by omega))
   have e3 : wr.cell? ⟨b, off + j * 7 + 3, none⟩ = some (.slice A3 (a.2.2.1.2).length c3) := cell_at hB hb (hes 3 (by omega))
   have e4 : wr.cell? ⟨b, off + j * 7 + 4, none⟩ = some (.slice A4 (a.2.2.2.1.1).length c4) := cell_at hB hb (hes 4 (by omega))
   have e5 : wr.cell? ⟨b, off + j * 7 + 5, none⟩ = some (.slice A5 (a.2.2.2.1.2).length c5) := cell_at hB hb (hes 5 (by omega))
   have e6 : wr.cell? ⟨b, off + j * 7 + 6, none⟩ = some (.slice A6 (a.2.2.2.2).length c6) := cell_at hB hb (hes 6 (by omega))
   have e0' : wr.cell? ⟨b', off' + j * 7, none⟩ = some (.int .i64 (a.1)) := cell_at hB hb' (hes' 0 (by omega))
   have e1' : wr.cell? ⟨b', off' + j * 7 + 1, none⟩ = some (.int .i64 (a.2.1)) := cell_at hB hb' (hes' 1 (by omega))
   have e2' : wr.cell? ⟨b', off' + j * 7 + 2, none⟩ = some (.slice A2' (a.2.2.1.1).length c2') := cell_at hB hb' (hes' 2 (by omega))
   have e3' : wr.cell? ⟨b', off' + j * 7 + 3, none⟩ = some (.slice A3' (a.2.2.1.2).length c3') := cell_at hB hb' (hes' 3 (by omega))
   have e4' : wr.cell? ⟨b', off' + j * 7 + 4, none⟩ = some (.slice A4' (a.2.2.2.1.1).length c4') := cell_at hB hb' (hes' 4 (by omega))
   have e5' : wr.cell? ⟨b', off' + j * 7 + 5, none⟩ = some (.slice A5' (a.2.2.2.1.2).length c5') := cell_at hB hb' (hes' 5 (by omega))
   have e6' : wr.cell? ⟨b', off' + j * 7 + 6, none⟩ = some (.slice A6' (a.2.2.2.2).length c6') := cell_at hB hb' (hes' 6 (by omega))
   clear hes hes'
   go_wp2_with fail
   go_region_held3 (fun w' => w'.cell? ⟨b, off + j * 7, none⟩ = some (.int .i64 (a.1)) ∧ w'.cell? ⟨b, off + j * 7 + 1, none⟩ = some (.int .i64 (a.2.1)) ∧ w'.cell? ⟨b, off + j * 7 + 2, none⟩ = some (.slice A2 (a.2.2.1.1).length c2) ∧ w'.cell? ⟨b, off + j * 7 + 3, none⟩ = some (.slice A3 (a.2.2.1.2).length c3) ∧ w'.cell? ⟨b, off + j * 7 + 4, none⟩ = some (.slice A4 (a.2.2.2.1.1).length c4) ∧ w'.cell? ⟨b, off + j * 7 + 5, none⟩ = some (.slice A5 (a.2.2.2.1.2).length c5) ∧ w'.cell? ⟨b, off + j * 7 + 6, none⟩ = some (.slice A6 (a.2.2.2.2).length c6) ∧ w'.cell? ⟨b', off' + j * 7, none⟩ = some (.int .i64 (a.1)) ∧ w'.cell? ⟨b', off' + j * 7 + 1, none⟩ = some (.int .i64 (a.2.1)) ∧ w'.cell? ⟨b', off' + j * 7 + 2, none⟩ = some (.slice A2' (a.2.2.1.1).length c2') ∧ w'.cell? ⟨b', off' + j * 7 + 3, none⟩ = some (.slice A3' (a.2.2.1.2).length c3') ∧ w'.cell? ⟨b', off' + j * 7 + 4, none⟩ = some (.slice A4' (a.2.2.2.1.1).length c4') ∧ w'.cell? ⟨b', off' + j * 7 + 5, none⟩ = some (.slice A5' (a.2.2.2.1.2).length c5') ∧ w'.cell? ⟨b', off' + j * 7 + 6, none⟩ = some (.slice A6' (a.2.2.2.2).length c6')) (first | (exact ⟨e0, e1, e2, e3, e4, e5, e6, e0', e1', e2', e3', e4', e5', e6'⟩) | (exact ⟨cell_bel hs2 e0, cell_bel hs2 e1, cell_bel hs2 e2, cell_bel hs2 e3, cell_bel hs2 e4, cell_bel hs2 e5, cell_bel hs2 e6, cell_bel hs2 e0', cell_bel hs2 e1', cell_bel hs2 e2', cell_bel hs2 e3', cell_bel hs2 e4', cell_bel hs2 e5', cell_bel hs2 e6'⟩) | go_keep)
    ((go_at_call 72; refine (o_eqNode (tNode.reach hR (belx)) (tNode.reach hR' (belx))).mono ?_; rintro e w2 ⟨rfl, hb2⟩; have hs2 : Bel wr w2 := bel_trans (belx) hb2))
   go_wp2
   go_roundw
   case rel => exact ⟨j + 1, by omega, by go_num, bel_trans hB hs2⟩
   case measure => simp [RowKit.intOf]; omega
  ·obtain rfl : j = m := by omega
   go_wp2
   go_ret
   exact ⟨rfl, hB⟩
set_option maxHeartbeats 1000000 in
theorem o_markNodeS {w : World} {n c : Nat} {A : Option Addr} {l : List DNode} {F : List Nat} (k : Int) (h : tNode.row.O w [.slice A n c] l F) (hF : F.Nodup) (h0 : 0 ≤ k) (hk : k + rsum rcNode l ≤ 4611686018427387904) :
  Calls Tryz.prog 36 #[.slice A n c, .int .i64 k] w fun e w' => e = .returned (.int .i64 (k + rsum rcNode l)) ∧ tNode.row.O w' [.slice A n c] (rmk rcNode rmNode k l) F ∧ Only F w w' := by
 obtain ⟨_, _, hsh, hnc, hcm⟩ := rowO_shape h
 have hln : l.length = n := by injection hsh with _ e2 _; exact e2.symm
 have hnc2 : n ≤ 9223372036854775807 := by omega
 clear hsh hnc hcm
 obtain ⟨s, hs⟩ : ∃ s, rsum rcNode l = s := ⟨_, rfl⟩
 rw [hs] at hk ⊢
 have HLN := Lib.hid hln
 have HS := Lib.hid hs
 clear hln hs
 go_enter Tryz.func36, Tryz.ntmps36
 go_wp2
 go_loopw [1, 5] (fun x i wr => ∃ j : Nat, j ≤ n ∧ x = .int .i64 (k + (rsum rcNode (l.take j) : Nat)) ∧ i = .int .i64 j ∧ tNode.row.O wr [.slice A n c] (rpart rcNode rmNode k l j) F ∧ Only F w wr) (fun _ i _ => n - (RowKit.intOf i).toNat)
 case atStart => exact ⟨0, by omega, by rw [rsum_zero]; go_num, rfl, by rw [rpart_zero]; exact h, Only.refl _ _⟩
 case round =>
  obtain ⟨j, hj, rfl, rfl, hO, hG⟩ := hrel
  by_cases hlt : j < n
  ·obtain ⟨a, hl⟩ : ∃ a, l[j]? = some a := ⟨_, List.getElem?_eq_getElem (by rw [HLN.out]; exact hlt)⟩
   have HP := Lib.hid (rpart_set (c := rcNode) (m := rmNode) (k := k) hl)
   have hat := rpart_at (c := rcNode) (m := rmNode) (k := k) hl
   have hsa := rsum_at (c := rcNode) hl
   have hsn := rsum_sn (c := rcNode) hl
   rw [HS.out] at hsa
   obtain ⟨q, hq⟩ : ∃ q, rsum rcNode (l.take j) = q := ⟨_, rfl⟩
   obtain ⟨q', hq'⟩ : ∃ q, rsum rcNode (l.take (j + 1)) = q := ⟨_, rfl⟩
   rw [hq] at hsa hsn
   rw [hq'] at hsn
   rw [hq]
   have HQ := Lib.hid hq'
   have HQ2 := Lib.hid hq
   clear hq hq'
   dsimp only [rcNode] at hsa hsn
   obtain ⟨g, off, cur, et, es, Fi, rfl, hcur, hes, hOe, hgF, hgi, hFi, hnd, hback⟩ := rowO_at (K := 7) hO hF hat rfl
   obtain ⟨A2, c2, F2, A3, c3, F3, A4, c4, F4, A5, c5, F5, A6, c6, F6, rfl, hFe, hi0, hi1, ha2, hb2, hr2, ha3, hb3, hr3, ha4, hb4, hr4, ha5, hb5, hr5, ha6, hb6, hr6⟩ := openONode hOe
   subst Fi
   obtain ⟨x0, x1, ⟨r2, l3⟩, ⟨r4, l5⟩, r6⟩ := a
   dsimp only at *
   have e0 : wr.cell? ⟨g, off + j * 7, none⟩ = some (.int .i64 x0) := by rw [Box.cell (t := et) hcur]; exact hes 0 (by omega)
   have f0 : wr.frozen? ⟨g, off + j * 7, none⟩ = false := Box.frozen (t := et) hcur _
   have e1 : wr.cell? ⟨g, off + j * 7 + 1, none⟩ = some (.int .i64 x1) := by rw [Box.cell (t := et) hcur]; exact hes 1 (by omega)
   have f1 : wr.frozen? ⟨g, off + j * 7 + 1, none⟩ = false := Box.frozen (t := et) hcur _
   have e2 : wr.cell? ⟨g, off + j * 7 + 2, none⟩ = some (.slice A2 r2.length c2) := by rw [Box.cell (t := et) hcur]; exact hes 2 (by omega)
   have f2 : wr.frozen? ⟨g, off + j * 7 + 2, none⟩ = false := Box.frozen (t := et) hcur _
   have e3 : wr.cell? ⟨g, off + j * 7 + 3, none⟩ = some (.slice A3 l3.length c3) := by rw [Box.cell (t := et) hcur]; exact hes 3 (by omega)
   have f3 : wr.frozen? ⟨g, off + j * 7 + 3, none⟩ = false := Box.frozen (t := et) hcur _
   have e4 : wr.cell? ⟨g, off + j * 7 + 4, none⟩ = some (.slice A4 r4.length c4) := by rw [Box.cell (t := et) hcur]; exact hes 4 (by omega)
   have f4 : wr.frozen? ⟨g, off + j * 7 + 4, none⟩ = false := Box.frozen (t := et) hcur _
   have e5 : wr.cell? ⟨g, off + j * 7 + 5, none⟩ = some (.slice A5 l5.length c5) := by rw [Box.cell (t := et) hcur]; exact hes 5 (by omega)
   have f5 : wr.frozen? ⟨g, off + j * 7 + 5, none⟩ = false := Box.frozen (t := et) hcur _
   have e6 : wr.cell? ⟨g, off + j * 7 + 6, none⟩ = some (.slice A6 r6.length c6) := by rw [Box.cell (t := et) hcur]; exact hes 6 (by omega)
   have f6 : wr.frozen? ⟨g, off + j * 7 + 6, none⟩ = false := Box.frozen (t := et) hcur _
   obtain ⟨cur1, hX0, hcs, hun, hval⟩ := puts_heap (off := off + j * 7) (vs := [.int .i64 (k + (q : Int)), .int .i64 (k + (q : Int) + 1)]) hcur
   dsimp only [List.length_cons, List.length_nil] at hun hval
   have hcz : ∀ i, i < 7 → off + j * 7 + i < cur.size := fun i hi => by
    by_cases hh : off + j * 7 + i < cur.size
    ·exact hh
    ·have := hes i hi; rw [Array.getElem?_eq_none (by omega)] at this; rcases (by omega : i = 0 ∨ i = 1 ∨ i = 2 ∨ i = 3 ∨ i = 4 ∨ i = 5 ∨ i = 6) with rfl | rfl | rfl | rfl | rfl | rfl | rfl <;> simp at this
   have hgz : g < (puts wr g (off + j * 7) [.int .i64 (k + (q : Int)), .int .i64 (k + (q : Int) + 1)]).heap.size := by rw [size_puts]; exact Box.size (t := et) hcur
   have OG0 : Only F w (puts wr g (off + j * 7) [.int .i64 (k + (q : Int)), .int .i64 (k + (q : Int) + 1)]) := only_puts hG hgF
   have hk0 : ∀ f, f ≠ g → (puts wr g (off + j * 7) [.int .i64 (k + (q : Int)), .int .i64 (k + (q : Int) + 1)]).heap[f]? = wr.heap[f]? := fun f hf => puts_far hf
   have hzz : (puts wr g (off + j * 7) [.int .i64 (k + (q : Int)), .int .i64 (k + (q : Int) + 1)]).heap.size = wr.heap.size := size_puts
   have y2 : ∀ f ∈ F2, f < wr.heap.size ∧ f ≠ g := fun f hf => ⟨(tHeld.row).lt hr2 f hf, fun e => hgi (by rw [← e]; simp [hf])⟩
   replace hr2 := (tHeld.row).kept (w' := puts wr g (off + j * 7) [.int .i64 (k + (q : Int)), .int .i64 (k + (q : Int) + 1)]) hr2 (fun f hf => hk0 f (y2 f hf).2)
   have y3 : ∀ f ∈ F3, f < wr.heap.size ∧ f ≠ g := fun f hf => ⟨(tIs).lt hr3 f hf, fun e => hgi (by rw [← e]; simp [hf])⟩
   replace hr3 := (tIs).kept (w' := puts wr g (off + j * 7) [.int .i64 (k + (q : Int)), .int .i64 (k + (q : Int) + 1)]) hr3 (fun f hf => hk0 f (y3 f hf).2)
   have y4 : ∀ f ∈ F4, f < wr.heap.size ∧ f ≠ g := fun f hf => ⟨(tWhole.row).lt hr4 f hf, fun e => hgi (by rw [← e]; simp [hf])⟩
   replace hr4 := (tWhole.row).kept (w' := puts wr g (off + j * 7) [.int .i64 (k + (q : Int)), .int .i64 (k + (q : Int) + 1)]) hr4 (fun f hf => hk0 f (y4 f hf).2)
   have y5 : ∀ f ∈ F5, f < wr.heap.size ∧ f ≠ g := fun f hf => ⟨(tIs).lt hr5 f hf, fun e => hgi (by rw [← e]; simp [hf])⟩
   replace hr5 := (tIs).kept (w' := puts wr g (off + j * 7) [.int .i64 (k + (q : Int)), .int .i64 (k + (q : Int) + 1)]) hr5 (fun f hf => hk0 f (y5 f hf).2)
   have y6 : ∀ f ∈ F6, f < wr.heap.size ∧ f ≠ g := fun f hf => ⟨(tLetter.row).lt hr6 f hf, fun e => hgi (by rw [← e]; simp [hf])⟩
   replace hr6 := (tLetter.row).kept (w' := puts wr g (off + j * 7) [.int .i64 (k + (q : Int)), .int .i64 (k + (q : Int) + 1)]) hr6 (fun f hf => hk0 f (y6 f hf).2)
   have nd2 : F2.Nodup := (List.nodup_append.1 (List.nodup_append.1 (List.nodup_append.1 (List.nodup_append.1 hnd).1).1).1).1
   have nd3 : F3.Nodup := (List.nodup_append.1 (List.nodup_append.1 (List.nodup_append.1 (List.nodup_append.1 hnd).1).1).1).2.1
   have ap2_3 : ∀ f ∈ F2, f ∉ F3 := fun f h1 h2 => (List.nodup_append.1 (List.nodup_append.1 (List.nodup_append.1 (List.nodup_append.1 hnd).1).1).1).2.2 f (by simp [h1]) f h2 rfl
   have nd4 : F4.Nodup := (List.nodup_append.1 (List.nodup_append.1 (List.nodup_append.1 hnd).1).1).2.1
   have ap2_4 : ∀ f ∈ F2, f ∉ F4 := fun f h1 h2 => (List.nodup_append.1 (List.nodup_append.1 (List.nodup_append.1 hnd).1).1).2.2 f (by simp [h1]) f h2 rfl
   have ap3_4 : ∀ f ∈ F3, f ∉ F4 := fun f h1 h2 => (List.nodup_append.1 (List.nodup_append.1 (List.nodup_append.1 hnd).1).1).2.2 f (by simp [h1]) f h2 rfl
   have nd5 : F5.Nodup := (List.nodup_append.1 (List.nodup_append.1 hnd).1).2.1
   have ap2_5 : ∀ f ∈ F2, f ∉ F5 := fun f h1 h2 => (List.nodup_append.1 (List.nodup_append.1 hnd).1).2.2 f (by simp [h1]) f h2 rfl
   have ap3_5 : ∀ f ∈ F3, f ∉ F5 := fun f h1 h2 => (List.nodup_append.1 (List.nodup_append.1 hnd).1).2.2 f (by simp [h1]) f h2 rfl
   have ap4_5 : ∀ f ∈ F4, f ∉ F5 := fun f h1 h2 => (List.nodup_append.1 (List.nodup_append.1 hnd).1).2.2 f (by simp [h1]) f h2 rfl
   have nd6 : F6.Nodup := (List.nodup_append.1 hnd).2.1
   have ap2_6 : ∀ f ∈ F2, f ∉ F6 := fun f h1 h2 => (List.nodup_append.1 hnd).2.2 f (by simp [h1]) f h2 rfl
   have ap3_6 : ∀ f ∈ F3, f ∉ F6 := fun f h1 h2 => (List.nodup_append.1 hnd).2.2 f (by simp [h1]) f h2 rfl
   have ap4_6 : ∀ f ∈ F4, f ∉ F6 := fun f h1 h2 => (List.nodup_append.1 hnd).2.2 f (by simp [h1]) f h2 rfl
   have ap5_6 : ∀ f ∈ F5, f ∉ F6 := fun f h1 h2 => (List.nodup_append.1 hnd).2.2 f (by simp [h1]) f h2 rfl
   obtain ⟨W0, hW0⟩ : ∃ W0, puts wr g (off + j * 7) [.int .i64 (k + (q : Int)), .int .i64 (k + (q : Int) + 1)] = W0 := ⟨_, rfl⟩
   rw [hW0] at hX0 hgz OG0 hk0 hzz hr2 hr3 hr4 hr5 hr6
   have Z0 : wr.heap.size ≤ W0.heap.size := Nat.le_of_eq hzz.symm
   have hX : W0.heap[g]? = some (.cells cur1 et (0, 0)) := hX0
   go_wp2_with fail
   have hWe : ((wr.setCell ⟨g, off + j * 7, none⟩ (.int .i64 (k + (q : Int)))).setCell ⟨g, off + j * 7 + 1, none⟩ (.int .i64 (k + (q : Int) + 1))) = W0 := hW0
   rw [hWe]
   refine (o_markHeldS (k + (q : Int) + 1 + 1) hr2 nd2 (by omega) (by omega)).mono ?_
   rintro e W1 ⟨rfl, hO2, hG2⟩
   have OG1 : Only F w W1 := OG0.trans (hG2.mono (fun f hf => hFi f (by simp [hf])))
   have Z1 : wr.heap.size ≤ W1.heap.size := Nat.le_trans Z0 hG2.size
   have hgz : g < W1.heap.size := Nat.lt_of_lt_of_le hgz hG2.size
   replace hX : W1.heap[g]? = some (.cells cur1 et (0, 0)) := (hG2.block g (by omega) (fun e => (y2 g e).2 rfl)).trans hX
   replace hr3 := Ty.only (t := tIs) hr3 hG2 (by intro f hf e; exact ap2_3 f e hf)
   replace hr4 := Ty.only (t := tWhole.row) hr4 hG2 (by intro f hf e; exact ap2_4 f e hf)
   replace hr5 := Ty.only (t := tIs) hr5 hG2 (by intro f hf e; exact ap2_5 f e hf)
   replace hr6 := Ty.only (t := tLetter.row) hr6 hG2 (by intro f hf e; exact ap2_6 f e hf)
   replace hr2 := hO2
   have e3 : W1.cell? ⟨g, off + j * 7 + 3, none⟩ = some (.slice A3 l3.length c3) := by rw [Box.cell (t := et) hX, hun _ (by omega)]; exact hes 3 (by omega)
   go_wp2_with fail
   refine (o_markIntS (k + (q : Int) + 1 + 1 + ((rsum rcHeld r2 : Nat) : Int)) hr3 (by omega) (by omega)).mono ?_
   rintro e W2 ⟨rfl, hO3, hG3⟩
   have OG2 : Only F w W2 := OG1.trans (hG3.mono (fun f hf => hFi f (by simp [hf])))
   have Z2 : wr.heap.size ≤ W2.heap.size := Nat.le_trans Z1 hG3.size
   have hgz : g < W2.heap.size := Nat.lt_of_lt_of_le hgz hG3.size
   replace hX : W2.heap[g]? = some (.cells cur1 et (0, 0)) := (hG3.block g (by omega) (fun e => (y3 g e).2 rfl)).trans hX
   replace hr2 := Ty.only (t := tHeld.row) hr2 hG3 (by intro f hf e; exact ap2_3 f hf e)
   replace hr4 := Ty.only (t := tWhole.row) hr4 hG3 (by intro f hf e; exact ap3_4 f e hf)
   replace hr5 := Ty.only (t := tIs) hr5 hG3 (by intro f hf e; exact ap3_5 f e hf)
   replace hr6 := Ty.only (t := tLetter.row) hr6 hG3 (by intro f hf e; exact ap3_6 f e hf)
   replace hr3 := hO3
   have e4 : W2.cell? ⟨g, off + j * 7 + 4, none⟩ = some (.slice A4 r4.length c4) := by rw [Box.cell (t := et) hX, hun _ (by omega)]; exact hes 4 (by omega)
   go_wp2_with fail
   refine (o_markWholeS (k + (q : Int) + 1 + 1 + ((rsum rcHeld r2 : Nat) : Int) + ((l3.length : Nat) : Int)) hr4 nd4 (by omega) (by omega)).mono ?_
   rintro e W3 ⟨rfl, hO4, hG4⟩
   have OG3 : Only F w W3 := OG2.trans (hG4.mono (fun f hf => hFi f (by simp [hf])))
   have Z3 : wr.heap.size ≤ W3.heap.size := Nat.le_trans Z2 hG4.size
   have hgz : g < W3.heap.size := Nat.lt_of_lt_of_le hgz hG4.size
   replace hX : W3.heap[g]? = some (.cells cur1 et (0, 0)) := (hG4.block g (by omega) (fun e => (y4 g e).2 rfl)).trans hX
   replace hr2 := Ty.only (t := tHeld.row) hr2 hG4 (by intro f hf e; exact ap2_4 f hf e)
   replace hr3 := Ty.only (t := tIs) hr3 hG4 (by intro f hf e; exact ap3_4 f hf e)
   replace hr5 := Ty.only (t := tIs) hr5 hG4 (by intro f hf e; exact ap4_5 f e hf)
   replace hr6 := Ty.only (t := tLetter.row) hr6 hG4 (by intro f hf e; exact ap4_6 f e hf)
   replace hr4 := hO4
   have e5 : W3.cell? ⟨g, off + j * 7 + 5, none⟩ = some (.slice A5 l5.length c5) := by rw [Box.cell (t := et) hX, hun _ (by omega)]; exact hes 5 (by omega)
   go_wp2_with fail
   refine (o_markIntS (k + (q : Int) + 1 + 1 + ((rsum rcHeld r2 : Nat) : Int) + ((l3.length : Nat) : Int) + ((rsum rcWhole r4 : Nat) : Int)) hr5 (by omega) (by omega)).mono ?_
   rintro e W4 ⟨rfl, hO5, hG5⟩
   have OG4 : Only F w W4 := OG3.trans (hG5.mono (fun f hf => hFi f (by simp [hf])))
   have Z4 : wr.heap.size ≤ W4.heap.size := Nat.le_trans Z3 hG5.size
   have hgz : g < W4.heap.size := Nat.lt_of_lt_of_le hgz hG5.size
   replace hX : W4.heap[g]? = some (.cells cur1 et (0, 0)) := (hG5.block g (by omega) (fun e => (y5 g e).2 rfl)).trans hX
   replace hr2 := Ty.only (t := tHeld.row) hr2 hG5 (by intro f hf e; exact ap2_5 f hf e)
   replace hr3 := Ty.only (t := tIs) hr3 hG5 (by intro f hf e; exact ap3_5 f hf e)
   replace hr4 := Ty.only (t := tWhole.row) hr4 hG5 (by intro f hf e; exact ap4_5 f hf e)
   replace hr6 := Ty.only (t := tLetter.row) hr6 hG5 (by intro f hf e; exact ap5_6 f e hf)
   replace hr5 := hO5
   have e6 : W4.cell? ⟨g, off + j * 7 + 6, none⟩ = some (.slice A6 r6.length c6) := by rw [Box.cell (t := et) hX, hun _ (by omega)]; exact hes 6 (by omega)
   go_wp2_with fail
   refine (o_markLetterS (k + (q : Int) + 1 + 1 + ((rsum rcHeld r2 : Nat) : Int) + ((l3.length : Nat) : Int) + ((rsum rcWhole r4 : Nat) : Int) + ((l5.length : Nat) : Int)) hr6 nd6 (by omega) (by omega)).mono ?_
   rintro e W5 ⟨rfl, hO6, hG6⟩
   have OG5 : Only F w W5 := OG4.trans (hG6.mono (fun f hf => hFi f (by simp [hf])))
   have Z5 : wr.heap.size ≤ W5.heap.size := Nat.le_trans Z4 hG6.size
   have hgz : g < W5.heap.size := Nat.lt_of_lt_of_le hgz hG6.size
   replace hX : W5.heap[g]? = some (.cells cur1 et (0, 0)) := (hG6.block g (by omega) (fun e => (y6 g e).2 rfl)).trans hX
   replace hr2 := Ty.only (t := tHeld.row) hr2 hG6 (by intro f hf e; exact ap2_6 f hf e)
   replace hr3 := Ty.only (t := tIs) hr3 hG6 (by intro f hf e; exact ap3_6 f hf e)
   replace hr4 := Ty.only (t := tWhole.row) hr4 hG6 (by intro f hf e; exact ap4_6 f hf e)
   replace hr5 := Ty.only (t := tIs) hr5 hG6 (by intro f hf e; exact ap5_6 f hf e)
   replace hr6 := hO6
   have wf0 : (Lit.int .i64 (k + (q : Int))).wf = true := WalkArith.wf_i64 (by omega)
   have wf1 : (Lit.int .i64 (k + (q : Int) + 1)).wf = true := WalkArith.wf_i64 (by omega)
   obtain ⟨F2, hF2, hF2e⟩ := makeONode (w := W5) (p := rmNode (k + (q : Int)) (x0, x1, (r2, l3), (r4, l5), r6)) wf0 wf1 hr2 hr3 hr4 hr5 hr6
   subst hF2e
   have hfin := hback W5 cur1 [.int .i64 (k + (q : Int)), .int .i64 (k + (q : Int) + 1), .slice A2 r2.length c2, .slice A3 l3.length c3, .slice A4 r4.length c4, .slice A5 l5.length c5, .slice A6 r6.length c6] (rmNode (k + (q : Int)) (x0, x1, (r2, l3), (r4, l5), r6)) hX (by
    intro i hi
    rcases (by omega : i = 0 ∨ i = 1 ∨ i = 2 ∨ i = 3 ∨ i = 4 ∨ i = 5 ∨ i = 6) with rfl | rfl | rfl | rfl | rfl | rfl | rfl
    ·exact hval 0 (by omega) (hcz 0 (by omega))
    ·exact hval 1 (by omega) (hcz 1 (by omega))
    ·rw [hun _ (by omega)]; exact hes 2 (by omega)
    ·rw [hun _ (by omega)]; exact hes 3 (by omega)
    ·rw [hun _ (by omega)]; exact hes 4 (by omega)
    ·rw [hun _ (by omega)]; exact hes 5 (by omega)
    ·rw [hun _ (by omega)]; exact hes 6 (by omega)) (by
    intro q2 hq2
    refine hun q2 ?_
    rcases Nat.lt_or_ge q2 (off + j * 7) with h1 | h1
    ·exact .inl h1
    ·rcases Nat.lt_or_ge q2 (off + j * 7 + 7) with h2 | h2
     ·exact absurd (by omega) (hq2 (q2 - (off + j * 7)) (by omega))
     ·exact .inr (by omega)) hF2 (by
    intro f hf h1 h2
    simp only [List.mem_append, not_or] at h2
    have hfz : f < wr.heap.size := (tNode.row).lt hO f hf
    exact ((hG6.block f (by omega) h2.2).trans ((hG5.block f (by omega) h2.1.2).trans ((hG4.block f (by omega) h2.1.1.2).trans ((hG3.block f (by omega) h2.1.1.1.2).trans ((hG2.block f (by omega) h2.1.1.1.1).trans (hk0 f h1)))))))
   have HPq := HP.out
   rw [HQ2.out] at HPq
   rw [HPq] at hfin
   clear HPq
   go_wp2
   go_roundw
   case rel => exact ⟨j + 1, by omega, by rw [HQ.out]; go_num, by go_num, hfin, OG5⟩
   case measure => simp [RowKit.intOf]; omega
  ·obtain rfl : j = n := by omega
   have HA := Lib.hid (show rsum rcNode (l.take j) = s from by rw [rsum_all (Nat.le_of_eq HLN.out)]; exact HS.out)
   rw [HA.out]
   rw [rpart_all (Nat.le_of_eq HLN.out)] at hO
   go_wp2
   go_ret
   exact ⟨rfl, hO, hG⟩
set_option maxHeartbeats 1000000 in
theorem o_heldNodeS {w : World} {n c : Nat} {A : Option Addr} {l : List DNode} (k : Int) (h : tNode.row.R w w.heap.size [.slice A n c] (rmk rcNode rmNode k l)) (h0 : 0 ≤ k) (hk : k + rsum rcNode l ≤ 4611686018427387904) :
  Calls Tryz.prog 40 #[.slice A n c, .int .i64 k] w fun e w' => e = .returned (.int .i64 (k + rsum rcNode l)) ∧ Bel w w' := by
 obtain ⟨hln, hnc, hcm⟩ := rowR_len h
 rw [rmk_len] at hln
 obtain ⟨s, hs⟩ : ∃ s, rsum rcNode l = s := ⟨_, rfl⟩
 rw [hs] at hk ⊢
 have HLN := Lib.hid hln
 have HS := Lib.hid hs
 clear hln hs
 go_enter Tryz.func40, Tryz.ntmps40
 go_wp2
 go_loopw [1, 5] (fun x i wr => ∃ j : Nat, j ≤ n ∧ x = .int .i64 (k + (rsum rcNode (l.take j) : Nat)) ∧ i = .int .i64 j ∧ Bel w wr) (fun _ i _ => n - (RowKit.intOf i).toNat)
 case atStart => exact ⟨0, by omega, by rw [rsum_zero]; go_num, rfl, (belx)⟩
 case round =>
  obtain ⟨j, hj, rfl, rfl, hB⟩ := hrel
  by_cases hlt : j < n
  ·obtain ⟨a, hl⟩ : ∃ a, l[j]? = some a := ⟨_, List.getElem?_eq_getElem (by rw [HLN.out]; exact hlt)⟩
   obtain ⟨a2, b, off, es, hl2, rfl, hb, hes, hR⟩ := rowR_at (K := 7) h hlt rfl
   have hat := rmk_at (c := rcNode) (m := rmNode) (k := k) hl
   obtain rfl : _ = a2 := Option.some.inj (hat.symm.trans hl2)
   clear hl2 hat
   have hsa := rsum_at (c := rcNode) hl
   have hsn := rsum_sn (c := rcNode) hl
   rw [HS.out] at hsa
   obtain ⟨q, hq⟩ : ∃ q, rsum rcNode (l.take j) = q := ⟨_, rfl⟩
   obtain ⟨q', hq'⟩ : ∃ q, rsum rcNode (l.take (j + 1)) = q := ⟨_, rfl⟩
   rw [hq] at hsa hsn
   rw [hq'] at hsn
   rw [hq] at hR ⊢
   have HQ := Lib.hid hq'
   clear hq hq'
   dsimp only [rcNode] at hsa hsn
   obtain ⟨A2, n2, c2, A3, n3, c3, A4, n4, c4, A5, n5, c5, A6, n6, c6, rfl, hi0, hi1, ha2, hb2, hl2, hr2, ha3, hb3, hl3, hr3, ha4, hb4, hl4, hr4, ha5, hb5, hl5, hr5, ha6, hb6, hl6, hr6⟩ := openNode hR
   obtain ⟨x0, x1, ⟨r2, l3⟩, ⟨r4, l5⟩, r6⟩ := a
   dsimp only [rmNode] at *
   have q0 : ((k + (q : Int) : Int) != k + (q : Int)) = false := by simp
   have q1 : ((k + (q : Int) + 1 : Int) != k + (q : Int) + 1) = false := by simp
   have e0 : wr.cell? ⟨b, off + j * 7, none⟩ = some (.int .i64 (k + (q : Int))) := cell_at hB hb (hes 0 (by omega))
   have e1 : wr.cell? ⟨b, off + j * 7 + 1, none⟩ = some (.int .i64 (k + (q : Int) + 1)) := cell_at hB hb (hes 1 (by omega))
   have e2 : wr.cell? ⟨b, off + j * 7 + 2, none⟩ = some (.slice A2 n2 c2) := cell_at hB hb (hes 2 (by omega))
   have e3 : wr.cell? ⟨b, off + j * 7 + 3, none⟩ = some (.slice A3 n3 c3) := cell_at hB hb (hes 3 (by omega))
   have e4 : wr.cell? ⟨b, off + j * 7 + 4, none⟩ = some (.slice A4 n4 c4) := cell_at hB hb (hes 4 (by omega))
   have e5 : wr.cell? ⟨b, off + j * 7 + 5, none⟩ = some (.slice A5 n5 c5) := cell_at hB hb (hes 5 (by omega))
   have e6 : wr.cell? ⟨b, off + j * 7 + 6, none⟩ = some (.slice A6 n6 c6) := cell_at hB hb (hes 6 (by omega))
   have d0 : decide (k + (q : Int) + 1 + 1 + ((rsum rcHeld r2 : Nat) : Int) < 0) = false := by simp; omega
   have d1 : decide (k + (q : Int) + 1 + 1 + ((rsum rcHeld r2 : Nat) : Int) + ((l3.length : Nat) : Int) < 0) = false := by simp; omega
   have d2 : decide (k + (q : Int) + 1 + 1 + ((rsum rcHeld r2 : Nat) : Int) + ((l3.length : Nat) : Int) + ((rsum rcWhole r4 : Nat) : Int) < 0) = false := by simp; omega
   have d3 : decide (k + (q : Int) + 1 + 1 + ((rsum rcHeld r2 : Nat) : Int) + ((l3.length : Nat) : Int) + ((rsum rcWhole r4 : Nat) : Int) + ((l5.length : Nat) : Int) < 0) = false := by simp; omega
   have d4 : decide (k + (q : Int) + 1 + 1 + ((rsum rcHeld r2 : Nat) : Int) + ((l3.length : Nat) : Int) + ((rsum rcWhole r4 : Nat) : Int) + ((l5.length : Nat) : Int) + ((rsum rcLetter r6 : Nat) : Int) < 0) = false := by simp; omega
   go_wp2_with fail
   refine (o_heldHeldS (k + (q : Int) + 1 + 1) ((tHeld.row).reach hr2 ?hB) (by omega) (by omega)).mono ?_
   case hB => exact (belx)
   rintro e w1 ⟨rfl, hb1⟩
   have hB1 : Bel w w1 := bel_trans hB hb1
   have e2_1 : w1.cell? ⟨b, off + j * 7 + 2, none⟩ = some (.slice A2 n2 c2) := cell_at hB1 hb (hes 2 (by omega))
   have e3_1 : w1.cell? ⟨b, off + j * 7 + 3, none⟩ = some (.slice A3 n3 c3) := cell_at hB1 hb (hes 3 (by omega))
   have e4_1 : w1.cell? ⟨b, off + j * 7 + 4, none⟩ = some (.slice A4 n4 c4) := cell_at hB1 hb (hes 4 (by omega))
   have e5_1 : w1.cell? ⟨b, off + j * 7 + 5, none⟩ = some (.slice A5 n5 c5) := cell_at hB1 hb (hes 5 (by omega))
   have e6_1 : w1.cell? ⟨b, off + j * 7 + 6, none⟩ = some (.slice A6 n6 c6) := cell_at hB1 hb (hes 6 (by omega))
   go_wp2_with fail
   refine (o_heldIntS (k + (q : Int) + 1 + 1 + ((rsum rcHeld r2 : Nat) : Int)) ((tIs).reach hr3 ?hB) (by omega) (by omega)).mono ?_
   case hB => exact (belx)
   rintro e w2 ⟨rfl, hb2⟩
   have hB2 : Bel w w2 := bel_trans hB1 hb2
   have e2_2 : w2.cell? ⟨b, off + j * 7 + 2, none⟩ = some (.slice A2 n2 c2) := cell_at hB2 hb (hes 2 (by omega))
   have e3_2 : w2.cell? ⟨b, off + j * 7 + 3, none⟩ = some (.slice A3 n3 c3) := cell_at hB2 hb (hes 3 (by omega))
   have e4_2 : w2.cell? ⟨b, off + j * 7 + 4, none⟩ = some (.slice A4 n4 c4) := cell_at hB2 hb (hes 4 (by omega))
   have e5_2 : w2.cell? ⟨b, off + j * 7 + 5, none⟩ = some (.slice A5 n5 c5) := cell_at hB2 hb (hes 5 (by omega))
   have e6_2 : w2.cell? ⟨b, off + j * 7 + 6, none⟩ = some (.slice A6 n6 c6) := cell_at hB2 hb (hes 6 (by omega))
   go_wp2_with fail
   refine (o_heldWholeS (k + (q : Int) + 1 + 1 + ((rsum rcHeld r2 : Nat) : Int) + ((l3.length : Nat) : Int)) ((tWhole.row).reach hr4 ?hB) (by omega) (by omega)).mono ?_
   case hB => exact (belx)
   rintro e w3 ⟨rfl, hb3⟩
   have hB3 : Bel w w3 := bel_trans hB2 hb3
   have e2_3 : w3.cell? ⟨b, off + j * 7 + 2, none⟩ = some (.slice A2 n2 c2) := cell_at hB3 hb (hes 2 (by omega))
   have e3_3 : w3.cell? ⟨b, off + j * 7 + 3, none⟩ = some (.slice A3 n3 c3) := cell_at hB3 hb (hes 3 (by omega))
   have e4_3 : w3.cell? ⟨b, off + j * 7 + 4, none⟩ = some (.slice A4 n4 c4) := cell_at hB3 hb (hes 4 (by omega))
   have e5_3 : w3.cell? ⟨b, off + j * 7 + 5, none⟩ = some (.slice A5 n5 c5) := cell_at hB3 hb (hes 5 (by omega))
   have e6_3 : w3.cell? ⟨b, off + j * 7 + 6, none⟩ = some (.slice A6 n6 c6) := cell_at hB3 hb (hes 6 (by omega))
   go_wp2_with fail
   refine (o_heldIntS (k + (q : Int) + 1 + 1 + ((rsum rcHeld r2 : Nat) : Int) + ((l3.length : Nat) : Int) + ((rsum rcWhole r4 : Nat) : Int)) ((tIs).reach hr5 ?hB) (by omega) (by omega)).mono ?_
   case hB => exact (belx)
   rintro e w4 ⟨rfl, hb4⟩
   have hB4 : Bel w w4 := bel_trans hB3 hb4
   have e2_4 : w4.cell? ⟨b, off + j * 7 + 2, none⟩ = some (.slice A2 n2 c2) := cell_at hB4 hb (hes 2 (by omega))
   have e3_4 : w4.cell? ⟨b, off + j * 7 + 3, none⟩ = some (.slice A3 n3 c3) := cell_at hB4 hb (hes 3 (by omega))
   have e4_4 : w4.cell? ⟨b, off + j * 7 + 4, none⟩ = some (.slice A4 n4 c4) := cell_at hB4 hb (hes 4 (by omega))
   have e5_4 : w4.cell? ⟨b, off + j * 7 + 5, none⟩ = some (.slice A5 n5 c5) := cell_at hB4 hb (hes 5 (by omega))
   have e6_4 : w4.cell? ⟨b, off + j * 7 + 6, none⟩ = some (.slice A6 n6 c6) := cell_at hB4 hb (hes 6 (by omega))
   go_wp2_with fail
   refine (o_heldLetterS (k + (q : Int) + 1 + 1 + ((rsum rcHeld r2 : Nat) : Int) + ((l3.length : Nat) : Int) + ((rsum rcWhole r4 : Nat) : Int) + ((l5.length : Nat) : Int)) ((tLetter.row).reach hr6 ?hB) (by omega) (by omega)).mono ?_
   case hB => exact (belx)
   rintro e w5 ⟨rfl, hb5⟩
   have hB5 : Bel w w5 := bel_trans hB4 hb5
   have e2_5 : w5.cell? ⟨b, off + j * 7 + 2, none⟩ = some (.slice A2 n2 c2) := cell_at hB5 hb (hes 2 (by omega))
   have e3_5 : w5.cell? ⟨b, off + j * 7 + 3, none⟩ = some (.slice A3 n3 c3) := cell_at hB5 hb (hes 3 (by omega))
   have e4_5 : w5.cell? ⟨b, off + j * 7 + 4, none⟩ = some (.slice A4 n4 c4) := cell_at hB5 hb (hes 4 (by omega))
   have e5_5 : w5.cell? ⟨b, off + j * 7 + 5, none⟩ = some (.slice A5 n5 c5) := cell_at hB5 hb (hes 5 (by omega))
   have e6_5 : w5.cell? ⟨b, off + j * 7 + 6, none⟩ = some (.slice A6 n6 c6) := cell_at hB5 hb (hes 6 (by omega))
   go_wp2
   go_roundw
   case rel => exact ⟨j + 1, by omega, by rw [HQ.out]; go_num, by go_num, hB5⟩
   case measure => simp [RowKit.intOf]; omega
  ·obtain rfl : j = n := by omega
   have HA := Lib.hid (show rsum rcNode (l.take j) = s from by rw [rsum_all (Nat.le_of_eq HLN.out)]; exact HS.out)
   rw [HA.out]
   go_wp2
   go_ret
   exact ⟨rfl, hB⟩
end Go.Proofs.YtkdanlnhdgcplaaGreat
namespace Go.Proofs.YtkdanlnhdgcplaaGreat
set_option maxRecDepth 100000
set_option linter.unusedVariables false
set_option linter.unusedSimpArgs false
open Go.ChangeShapes Go.WideShapes Go.ChangeAt Go.RowKit
theorem o_szSent_t {w : World} {cs : List Value} {p : DSent} {k : Int} (h : tSent.R w w.heap.size cs p) (h1 : 0 ≤ k) (h2 : k ≤ 1048576) (h3 : (szSent p : Int) ≤ k) :
  Calls Tryz.prog 48 #[.agg cs.toArray, .int .i64 k] w fun e w' => e = .returned (.int .i64 (k - szSent p)) ∧ Bel w w' := by
 obtain ⟨A2, n2, c2, rfl, hi0, hi1, ha2, hb2, hl2, hr2⟩ := openSent h
 obtain ⟨x0, x1, l2⟩ := p
 try dsimp only [szSent] at *
 subst hl2
 have d0 : decide (k - ((l2.length : Nat) : Int) < 0) = false := by simp; omega
 go_enter Tryz.func48, Tryz.ntmps48
 go_wp2_with fail
 refine (o_szByteS_t (tBy.reach hr2 ?hB) (by omega) (by omega) (by omega)).mono ?_
 case hB => exact (belx)
 rintro e w1 ⟨rfl, hb1⟩
 have hB1 : Bel w w1 := bel_trans (belx) hb1
 have P1 : Box w1 w.heap.size 97 #[.int .i64 x0, .int .i64 x1, .slice A2 l2.length c2] := (Box.new _ _ _).below hb1 lez
 go_wp2
 go_ret
 exact ⟨ret_int (by omega), hB1⟩
theorem o_szSent_f {w : World} {cs : List Value} {p : DSent} {k : Int} (h : tSent.R w w.heap.size cs p) (h1 : 0 ≤ k) (h2 : k ≤ 1048576) (h3 : ¬ (szSent p : Int) ≤ k) :
  Calls Tryz.prog 48 #[.agg cs.toArray, .int .i64 k] w fun e w' => e = .returned (.int .i64 (-1)) ∧ Bel w w' := by
 obtain ⟨A2, n2, c2, rfl, hi0, hi1, ha2, hb2, hl2, hr2⟩ := openSent h
 obtain ⟨x0, x1, l2⟩ := p
 try dsimp only [szSent] at *
 subst hl2
 go_enter Tryz.func48, Tryz.ntmps48
 go_wp2_with fail
 refine (o_szByteS_f (tBy.reach hr2 ?hB) (by omega) (by omega) (by omega)).mono ?_
 case hB => exact (belx)
 rintro e w1 ⟨rfl, hb1⟩
 have hB1 : Bel w w1 := bel_trans (belx) hb1
 have P1 : Box w1 w.heap.size 97 #[.int .i64 x0, .int .i64 x1, .slice A2 l2.length c2] := (Box.new _ _ _).below hb1 lez
 go_wp2
 go_ret
 exact ⟨rfl, hB1⟩
set_option maxHeartbeats 400000 in
theorem o_toSent {w : World} {cs : List Value} {p : DSent} (h : tSent.R w w.heap.size cs p) (hn : szSent p ≤ 1048576) :
  Calls Tryz.prog 56 #[.agg cs.toArray] w fun e w' => ∃ cs' F, e = .returned (.agg cs'.toArray) ∧ tSent.O w' cs' p F ∧ New w.heap.size F ∧ Bel w w' := by
 obtain ⟨A2, n2, c2, rfl, hi0, hi1, ha2, hb2, hl2, hr2⟩ := openSent h
 obtain ⟨x0, x1, l2⟩ := p
 try dsimp only [szSent] at *
 subst hl2
 go_enter Tryz.func56, Tryz.ntmps56
 go_wp2_with fail
 refine (o_toByteS (tBy.reach hr2 ?hB) (by omega)).mono ?_
 case hB => exact (belx)
 rintro e w1 ⟨B2, d2, F2, rfl, o2, hN1, hb1⟩
 have z1 : w.heap.size + 3 ≤ w1.heap.size := by have := hb1.size; simpa using this
 have hB1 : Bel w w1 := bel_trans (belx) hb1
 have R1 : Box w1 (w.heap.size + 1) 111 #[.int .i64 0, .int .i64 0, .slice none 0 0] := Box.below (Box.alloc (by simpa using Box.new (w.alloc _) 111 #[.int .i64 0, .int .i64 0, .slice none 0 0]) _) hb1 lez
 have L1 : Box w1 (w.heap.size + 1 + 1) 111 #[.int .i64 x0, .int .i64 x1, .slice none 0 0] := Box.below (by simpa using Box.new ((w.alloc _).alloc _) 111 #[.int .i64 x0, .int .i64 x1, .slice none 0 0]) hb1 lez
 have P1 : Box w1 w.heap.size 97 #[.int .i64 x0, .int .i64 x1, .slice A2 l2.length c2] := Box.below (((Box.new w 97 #[.int .i64 x0, .int .i64 x1, .slice A2 l2.length c2]).alloc _).alloc _) hb1 lez
 have hM1 : New (w.heap.size + 3) (F2) := hN1.lower (by simp)
 clear hN1
 have y1 : ∀ f ∈ F2, f < w1.heap.size := by intro f hf; exact tBy.lt o2 f hf
 have kr1_0 := R1.cell 0; have fr1_0 := R1.frozen 0; have kl1_0 := L1.cell 0; have fl1_0 := L1.frozen 0; have kp1_0 := P1.cell 0
 have kr1_1 := R1.cell 1; have fr1_1 := R1.frozen 1; have kl1_1 := L1.cell 1; have fl1_1 := L1.frozen 1; have kp1_1 := P1.cell 1
 have kr1_2 := R1.cell 2; have fr1_2 := R1.frozen 2; have kl1_2 := L1.cell 2; have fl1_2 := L1.frozen 2; have kp1_2 := P1.cell 2
 go_wp2
 have RR := ((((R1.far (p := ⟨w.heap.size + 1 + 1, 2, none⟩) lez (.slice B2 l2.length d2)).put 0 (.int .i64 x0)).put 1 (.int .i64 x1)).put 2 (.slice B2 l2.length d2))
 have e0 := RR.cell 0
 have e1 := RR.cell 1
 have e2 := RR.cell 2
 have u2 := (Ty.far (t := tBy) (Ty.far (t := tBy) (Ty.far (t := tBy) (Ty.far (t := tBy) o2 hM1 (p := ⟨w.heap.size + 1 + 1, 2, none⟩) lez (.slice B2 l2.length d2)) hM1 (p := ⟨w.heap.size + 1, 0, none⟩) lez (.int .i64 x0)) hM1 (p := ⟨w.heap.size + 1, 1, none⟩) lez (.int .i64 x1)) hM1 (p := ⟨w.heap.size + 1, 2, none⟩) lez (.slice B2 l2.length d2))
 obtain ⟨F, hF, hFe⟩ := makeOSent (p := (x0, x1, l2)) hi0 hi1 u2
 refine bodyPost_ret (v := .agg #[.int .i64 x0, .int .i64 x1, .slice B2 l2.length d2]) (by simp [results, Tryz.results56, go_sem, e0, e1, e2]) rfl ⟨_, F, rfl, hF, ?_, ?_⟩
 ·rw [hFe]
  exact New.lower (B := w.heap.size + 3) (by exact hM1) (by omega)
 ·exact (bel_put (bel_put (bel_put (bel_put hB1 lez _) lez _) lez _) lez _)
theorem o_eqSent {w : World} {cs cs' : List Value} {p : DSent} (h : tSent.R w w.heap.size cs p) (h' : tSent.R w w.heap.size cs' p) :
  Calls Tryz.prog 74 #[.agg cs.toArray, .agg cs'.toArray] w fun e w' => e = .returned (.bool true) ∧ Bel w w' := by
 obtain ⟨A2, n2, c2, rfl, hi0, hi1, ha2, hb2, hl2, hr2⟩ := openSent h
 obtain ⟨A2', n2', c2', rfl, hi0', hi1', ha2', hb2', hl2', hr2'⟩ := openSent h'
 obtain ⟨x0, x1, l2⟩ := p
 try dsimp only at *
 subst hl2
 subst hl2'
 have q0 : (x0 != x0) = false := by simp
 have q1 : (x1 != x1) = false := by simp
 go_enter Tryz.func74, Tryz.ntmps74
 go_wp2_with fail
 refine (o_eqByteS (tBy.reach hr2 ?hB) (tBy.reach hr2' ?hB)).mono ?_
 case hB => exact (belx)
 rintro e w1 ⟨rfl, hb1⟩
 have hB1 : Bel w w1 := bel_trans (belx) hb1
 have P1 : Box w1 w.heap.size 111 #[.int .i64 x0, .int .i64 x1, .slice A2 l2.length c2] := ((Box.new _ _ _).alloc _).below hb1 lez
 have Q1 : Box w1 (w.heap.size + 1) 111 #[.int .i64 x0, .int .i64 x1, .slice A2' l2.length c2'] := Box.below (by simpa using Box.new (w.alloc _) 111 #[.int .i64 x0, .int .i64 x1, .slice A2' l2.length c2']) hb1 lez
 go_wp2
 go_ret
 exact ⟨rfl, hB1⟩
end Go.Proofs.YtkdanlnhdgcplaaGreat
namespace Go.Proofs.YtkdanlnhdgcplaaGreat
set_option maxRecDepth 100000
set_option linter.unusedVariables false
set_option linter.unusedSimpArgs false
open Go.ChangeShapes Go.WideShapes Go.ChangeAt Go.RowKit
theorem o_szSentS_t {w : World} {n c : Nat} {A : Option Addr} {l : List DSent} {k : Int} (h : tSent.row.R w w.heap.size [.slice A n c] l) (h1 : 0 ≤ k) (h2 : k ≤ 1048576) (h3 : (rsz szSent l : Int) ≤ k) :
  Calls Tryz.prog 19 #[.slice A n c, .int .i64 k] w fun e w' => e = .returned (.int .i64 (k - rsz szSent l)) ∧ Bel w w' := by
 obtain ⟨hln, hnc, hcm⟩ := rowR_len h
 obtain ⟨s, hs⟩ : ∃ s, rsum szSent l = s := ⟨_, rfl⟩
 have hz : rsz szSent l = n + s := by unfold rsz; rw [hln, hs]
 rw [hz] at h3 ⊢
 have HLN := Lib.hid hln
 have HS := Lib.hid hs
 clear hz hln hs
 have d : decide (k - (n : Int) < 0) = false := by simp; omega
 go_enter Tryz.func19, Tryz.ntmps19
 go_wp2_with fail
 go_loopw [1, 5] (fun x i wr => ∃ j : Nat, j ≤ n ∧ x = .int .i64 (k - n - (rsum szSent (l.take j) : Nat)) ∧ i = .int .i64 j ∧ Bel w wr) (fun _ i _ => n - (RowKit.intOf i).toNat)
 case atStart => exact ⟨0, by omega, by rw [rsum_zero]; go_num, rfl, (belx)⟩
 case round =>
  obtain ⟨j, hj, rfl, rfl, hB⟩ := hrel
  by_cases hlt : j < n
  ·obtain ⟨a, b, off, es, hl, rfl, hb, hes, hR⟩ := rowR_at (K := 3) h hlt rfl
   have hsa := rsum_at (c := szSent) hl
   have hsn := rsum_sn (c := szSent) hl
   rw [HS.out] at hsa
   obtain ⟨q, hq⟩ : ∃ q, rsum szSent (l.take j) = q := ⟨_, rfl⟩
   obtain ⟨q', hq'⟩ : ∃ q, rsum szSent (l.take (j + 1)) = q := ⟨_, rfl⟩
   rw [hq] at hsa hsn
   rw [hq'] at hsn
   rw [hq]
   have HQ := Lib.hid hq'
   clear hq hq'
   obtain ⟨A2, n2, c2, rfl, hi0, hi1, ha2, hb2, hl2, hr2⟩ := openSent hR
   have e0 : wr.cell? ⟨b, off + j * 3, none⟩ = some (.int .i64 (a.1)) := cell_at hB hb (hes 0 (by omega))
   have e1 : wr.cell? ⟨b, off + j * 3 + 1, none⟩ = some (.int .i64 (a.2.1)) := cell_at hB hb (hes 1 (by omega))
   have e2 : wr.cell? ⟨b, off + j * 3 + 2, none⟩ = some (.slice A2 n2 c2) := cell_at hB hb (hes 2 (by omega))
   clear hes
   have d2 : decide (k - (n : Int) - q - (szSent a : Nat) < 0) = false := by simp; omega
   go_wp2_with fail
   refine (o_szSent_t (tSent.reach hR ?hB) (by omega) (by omega) (by omega)).mono ?_
   case hB => exact (belx)
   rintro e w1 ⟨rfl, hb1⟩
   go_wp2
   go_roundw
   case rel => exact ⟨j + 1, by omega, by rw [HQ.out]; go_num, by go_num, bel_trans hB hb1⟩
   case measure => simp [RowKit.intOf]; omega
  ·obtain rfl : j = n := by omega
   have HA := Lib.hid (show rsum szSent (l.take j) = s from by rw [rsum_all (Nat.le_of_eq HLN.out)]; exact HS.out)
   rw [HA.out]
   go_wp2
   go_ret
   exact ⟨ret_int (by omega), hB⟩
theorem o_szSentS_f {w : World} {n c : Nat} {A : Option Addr} {l : List DSent} {k : Int} (h : tSent.row.R w w.heap.size [.slice A n c] l) (h1 : 0 ≤ k) (h2 : k ≤ 1048576) (h3 : ¬ (rsz szSent l : Int) ≤ k) :
  Calls Tryz.prog 19 #[.slice A n c, .int .i64 k] w fun e w' => e = .returned (.int .i64 (-1)) ∧ Bel w w' := by
 obtain ⟨hln, hnc, hcm⟩ := rowR_len h
 obtain ⟨s, hs⟩ : ∃ s, rsum szSent l = s := ⟨_, rfl⟩
 have hz : rsz szSent l = n + s := by unfold rsz; rw [hln, hs]
 rw [hz] at h3
 have HLN := Lib.hid hln
 have HS := Lib.hid hs
 clear hz hln hs
 by_cases hnk : k < (n : Int)
 ·have d : decide (k - (n : Int) < 0) = true := by simp; omega
  go_enter Tryz.func19, Tryz.ntmps19
  go_wp2
  go_ret
  exact ⟨rfl, (belx)⟩
 have d : decide (k - (n : Int) < 0) = false := by simp; omega
 go_enter Tryz.func19, Tryz.ntmps19
 go_wp2_with fail
 go_loopw [1, 5] (fun x i wr => ∃ j : Nat, j ≤ n ∧ x = .int .i64 (k - n - (rsum szSent (l.take j) : Nat)) ∧ i = .int .i64 j ∧ Bel w wr ∧ (n : Int) + (rsum szSent (l.take j) : Nat) ≤ k) (fun _ i _ => n - (RowKit.intOf i).toNat)
 case atStart => exact ⟨0, by omega, by rw [rsum_zero]; go_num, rfl, (belx), by rw [rsum_zero]; omega⟩
 case round =>
  obtain ⟨j, hj, rfl, rfl, hB, hv⟩ := hrel
  by_cases hlt : j < n
  ·obtain ⟨a, b, off, es, hl, rfl, hb, hes, hR⟩ := rowR_at (K := 3) h hlt rfl
   have hsa := rsum_at (c := szSent) hl
   have hsn := rsum_sn (c := szSent) hl
   rw [HS.out] at hsa
   obtain ⟨q, hq⟩ : ∃ q, rsum szSent (l.take j) = q := ⟨_, rfl⟩
   obtain ⟨q', hq'⟩ : ∃ q, rsum szSent (l.take (j + 1)) = q := ⟨_, rfl⟩
   rw [hq] at hsa hsn
   rw [hq'] at hsn
   rw [hq]
   have HQ := Lib.hid hq'
   rw [hq] at hv
   clear hq hq'
   obtain ⟨A2, n2, c2, rfl, hi0, hi1, ha2, hb2, hl2, hr2⟩ := openSent hR
   have e0 : wr.cell? ⟨b, off + j * 3, none⟩ = some (.int .i64 (a.1)) := cell_at hB hb (hes 0 (by omega))
   have e1 : wr.cell? ⟨b, off + j * 3 + 1, none⟩ = some (.int .i64 (a.2.1)) := cell_at hB hb (hes 1 (by omega))
   have e2 : wr.cell? ⟨b, off + j * 3 + 2, none⟩ = some (.slice A2 n2 c2) := cell_at hB hb (hes 2 (by omega))
   clear hes
   by_cases hg : (n : Int) + q + (szSent a : Nat) ≤ k
   ·have d2 : decide (k - (n : Int) - q - (szSent a : Nat) < 0) = false := by simp; omega
    go_wp2_with fail
    refine (o_szSent_t (tSent.reach hR ?hB) (by omega) (by omega) (by omega)).mono ?_
    case hB => exact (belx)
    rintro e w1 ⟨rfl, hb1⟩
    go_wp2
    go_roundw
    case rel => exact ⟨j + 1, by omega, by rw [HQ.out]; go_num, by go_num, bel_trans hB hb1, by rw [HQ.out]; omega⟩
    case measure => simp [RowKit.intOf]; omega
   ·go_wp2_with fail
    refine (o_szSent_f (tSent.reach hR ?hB) (by omega) (by omega) (by omega)).mono ?_
    case hB => exact (belx)
    rintro e w1 ⟨rfl, hb1⟩
    go_wp2
    go_ret
    exact ⟨rfl, bel_trans hB hb1⟩
  ·obtain rfl : j = n := by omega
   have HA := Lib.hid (show rsum szSent (l.take j) = s from by rw [rsum_all (Nat.le_of_eq HLN.out)]; exact HS.out)
   rw [HA.out] at hv
   exact absurd hv (by omega)
theorem info_Sent : (Tryz.prog.info? 111).map (fun i => (i.zero, i.size, i.bytes)) = some (some (.agg #[.int .i64 0, .int .i64 0, .slice none 0 0]), 3, 40) := by kernel_rfl
set_option maxHeartbeats 800000 in
theorem o_toSentS {w : World} {n c : Nat} {A : Option Addr} {l : List DSent} (h : tSent.row.R w w.heap.size [.slice A n c] l) (hz : rsz szSent l ≤ 1048576) :
  Calls Tryz.prog 26 #[.slice A n c] w fun e w' => ∃ A' c' F, e = .returned (.slice A' l.length c') ∧ tSent.row.O w' [.slice A' l.length c'] l F ∧ New w.heap.size F ∧ Bel w w' := by
 obtain ⟨i0, hi0, hz0, hz1, hz2⟩ := info_parts info_Sent
 obtain ⟨hln, hnc, hcm⟩ := rowR_len h
 have hn : n ≤ 1048576 := by have := rsz_le (s := szSent) l; omega
 have HLN := Lib.hid hln
 have HZ := Lib.hid hz
 clear hln hz
 go_enter Tryz.func26, Tryz.ntmps26
 go_wp2_with (at_make; refine wpList_mkS _ rfl (.tmp 6) (.tmp 6) _ rfl 111 i0 _ 3 Tryz.underlying32 hi0 hz0 hz1 n rfl rfl (by rw [hz2]; omega) (by simp only [maxLen]; omega) ?_; intro w1 cur hcur hsz hB1 hgr)
 go_loopw [4] (fun i wr => ∃ j : Nat, j ≤ n ∧ i = .int .i64 j ∧ Bel w wr ∧ ∃ F, Fill tSent wr w.heap.size 111 n (l.take j) F ∧ New (w.heap.size + 1) F) (fun i _ => n - (RowKit.intOf i).toNat)
 case atStart => exact ⟨0, by omega, rfl, hB1, [], Fill.start hcur hsz, New.nil _⟩
 case round =>
  obtain ⟨j, hj, rfl, hB, F, hf, hN⟩ := hrel
  by_cases hlt : j < n
  ·obtain ⟨a, b, off, es, hl, rfl, hb, hes, hR⟩ := rowR_at (K := 3) h hlt rfl
   have HT := Lib.hid (take_sn hl)
   have HLT := Lib.hid (show (l.take j).length = j from by rw [List.length_take, HLN.out]; omega)
   have hsa : szSent a ≤ 1048576 := by have := rsz_step (s := szSent) hl; have := HZ.out; omega
   obtain ⟨A2, n2, c2, rfl, hi0, hi1, ha2, hb2, hl2, hr2⟩ := openSent hR
   subst hl2
   have e0 : wr.cell? ⟨b, off + j * 3, none⟩ = some (.int .i64 (a.1)) := cell_at hB hb (hes 0 (by omega))
   have e1 : wr.cell? ⟨b, off + j * 3 + 1, none⟩ = some (.int .i64 (a.2.1)) := cell_at hB hb (hes 1 (by omega))
   have e2 : wr.cell? ⟨b, off + j * 3 + 2, none⟩ = some (.slice A2 (a.2.2).length c2) := cell_at hB hb (hes 2 (by omega))
   clear hes
   have hgs := hf.size
   go_wp2_with fail
   refine (o_toSent (tSent.reach hR ?hB) hsa).mono ?_
   case hB => exact (belx)
   rintro e w2 ⟨cs2, F2, rfl, hO2, hN2, hb2⟩
   obtain ⟨B2, d2, G2, rfl, hFe, _, _, _, _, _⟩ := openOSent hO2
   clear hFe
   have hf2 := hf.below hb2
   have hsz2 := hb2.size
   have hP := Fill.push (K := 3) hf2 (by rw [HLT.out]; exact hlt) hO2 (hN.not (by omega)) (hN2.not hgs) rfl
   rw [HLT.out, ← HT.out] at hP
   have hM : New (w.heap.size + 1) (F ++ F2) := New.app hN hN2 (by omega) hf.lt
   obtain ⟨u0, k0⟩ := hf2.cell (K := 3) (j := 0) (by rw [HLT.out]; exact hlt) rfl (by omega)
   rw [HLT.out] at k0
   replace k0 : w2.cell? ⟨w.heap.size, j * 3, none⟩ = some u0 := k0
   have f0 := hf2.frozen (j * 3)
   obtain ⟨u1, k1⟩ := hf2.cell (K := 3) (j := 1) (by rw [HLT.out]; exact hlt) rfl (by omega)
   rw [HLT.out] at k1
   replace k1 : w2.cell? ⟨w.heap.size, j * 3 + 1, none⟩ = some u1 := k1
   have f1 := hf2.frozen (j * 3 + 1)
   obtain ⟨u2, k2⟩ := hf2.cell (K := 3) (j := 2) (by rw [HLT.out]; exact hlt) rfl (by omega)
   rw [HLT.out] at k2
   replace k2 : w2.cell? ⟨w.heap.size, j * 3 + 2, none⟩ = some u2 := k2
   have f2 := hf2.frozen (j * 3 + 2)
   go_wp2
   go_roundw
   case rel => exact ⟨j + 1, by omega, by go_num, below_puts (bel_trans hB hb2) (Nat.le_refl _) (off := j * 3) (vs := [.int .i64 (a.1), .int .i64 (a.2.1), .slice B2 (a.2.2).length d2]), _, hP, hM⟩
   case measure => simp [RowKit.intOf]; omega
  ·obtain rfl : j = n := by omega
   have HA := Lib.hid (show l.take j = l from by rw [List.take_of_length_le (Nat.le_of_eq HLN.out)])
   rw [HA.out] at hf
   obtain ⟨F2, hF2, hor⟩ := hf.done HLN.out (by omega)
   have HN := Lib.hid HLN.out
   go_wp2
   go_ret
   refine ⟨some ⟨w.heap.size, 0, none⟩, j, F2, ?_, hF2, hN.cons hor, hB⟩
   rw [HN.out]
   rfl
set_option maxHeartbeats 800000 in
theorem o_eqSentS {w : World} {n m c d : Nat} {A A' : Option Addr} {l : List DSent} (h : tSent.row.R w w.heap.size [.slice A n c] l) (h' : tSent.row.R w w.heap.size [.slice A' m d] l) :
  Calls Tryz.prog 34 #[.slice A n c, .slice A' m d] w fun e w' => e = .returned (.bool true) ∧ Bel w w' := by
 obtain ⟨hln, hnc, hcm⟩ := rowR_len h
 obtain ⟨hln', hnc', hcm'⟩ := rowR_len h'
 obtain rfl : m = n := by omega
 have HLN := Lib.hid hln
 clear hln hln'
 go_enter Tryz.func34, Tryz.ntmps34
 go_wp2_with fail
 go_loopw [5] (fun i wr => ∃ j : Nat, j ≤ m ∧ i = .int .i64 j ∧ Bel w wr) (fun i _ => m - (RowKit.intOf i).toNat)
 case atStart => exact ⟨0, by omega, rfl, (belx)⟩
 case round =>
  obtain ⟨j, hj, rfl, hB⟩ := hrel
  by_cases hlt : j < m
  ·obtain ⟨a, b, off, es, hl, rfl, hb, hes, hR⟩ := rowR_at (K := 3) h hlt rfl
   obtain ⟨a', b', off', es', hl', rfl, hb', hes', hR'⟩ := rowR_at (K := 3) h' hlt rfl
   obtain rfl : a = a' := by rw [hl] at hl'; exact Option.some.inj hl'
   clear hl hl'
   obtain ⟨A2, n2, c2, rfl, hi0, hi1, ha2, hb2, hl2, hr2⟩ := openSent hR
   obtain ⟨A2', n2', c2', rfl, hi0', hi1', ha2', hb2', hl2', hr2'⟩ := openSent hR'
   subst hl2
   subst hl2'
   have e0 : wr.cell? ⟨b, off + j * 3, none⟩ = some (.int .i64 (a.1)) := cell_at hB hb (hes 0 (by omega))
   have e1 : wr.cell? ⟨b, off + j * 3 + 1, none⟩ = some (.int .i64 (a.2.1)) := cell_at hB hb (hes 1 (by omega))
   have e2 : wr.cell? ⟨b, off + j * 3 + 2, none⟩ = some (.slice A2 (a.2.2).length c2) := cell_at hB hb (hes 2 (by omega))
   have e0' : wr.cell? ⟨b', off' + j * 3, none⟩ = some (.int .i64 (a.1)) := cell_at hB hb' (hes' 0 (by omega))
   have e1' : wr.cell? ⟨b', off' + j * 3 + 1, none⟩ = some (.int .i64 (a.2.1)) := cell_at hB hb' (hes' 1 (by omega))
   have e2' : wr.cell? ⟨b', off' + j * 3 + 2, none⟩ = some (.slice A2' (a.2.2).length c2') := cell_at hB hb' (hes' 2 (by omega))
   clear hes hes'
   go_wp2_with fail
   go_region_held3 (fun w' => w'.cell? ⟨b, off + j * 3, none⟩ = some (.int .i64 (a.1)) ∧ w'.cell? ⟨b, off + j * 3 + 1, none⟩ = some (.int .i64 (a.2.1)) ∧ w'.cell? ⟨b, off + j * 3 + 2, none⟩ = some (.slice A2 (a.2.2).length c2) ∧ w'.cell? ⟨b', off' + j * 3, none⟩ = some (.int .i64 (a.1)) ∧ w'.cell? ⟨b', off' + j * 3 + 1, none⟩ = some (.int .i64 (a.2.1)) ∧ w'.cell? ⟨b', off' + j * 3 + 2, none⟩ = some (.slice A2' (a.2.2).length c2')) (first | (exact ⟨e0, e1, e2, e0', e1', e2'⟩) | (exact ⟨cell_bel hs2 e0, cell_bel hs2 e1, cell_bel hs2 e2, cell_bel hs2 e0', cell_bel hs2 e1', cell_bel hs2 e2'⟩) | go_keep)
    ((go_at_call 74; refine (o_eqSent (tSent.reach hR (belx)) (tSent.reach hR' (belx))).mono ?_; rintro e w2 ⟨rfl, hb2⟩; have hs2 : Bel wr w2 := bel_trans (belx) hb2))
   go_wp2
   go_roundw
   case rel => exact ⟨j + 1, by omega, by go_num, bel_trans hB hs2⟩
   case measure => simp [RowKit.intOf]; omega
  ·obtain rfl : j = m := by omega
   go_wp2
   go_ret
   exact ⟨rfl, hB⟩
set_option maxHeartbeats 1000000 in
theorem o_markSentS {w : World} {n c : Nat} {A : Option Addr} {l : List DSent} {F : List Nat} (k : Int) (h : tSent.row.O w [.slice A n c] l F) (hF : F.Nodup) (h0 : 0 ≤ k) (hk : k + rsum rcSent l ≤ 4611686018427387904) :
  Calls Tryz.prog 38 #[.slice A n c, .int .i64 k] w fun e w' => e = .returned (.int .i64 (k + rsum rcSent l)) ∧ tSent.row.O w' [.slice A n c] (rmk rcSent rmSent k l) F ∧ Only F w w' := by
 obtain ⟨_, _, hsh, hnc, hcm⟩ := rowO_shape h
 have hln : l.length = n := by injection hsh with _ e2 _; exact e2.symm
 have hnc2 : n ≤ 9223372036854775807 := by omega
 clear hsh hnc hcm
 obtain ⟨s, hs⟩ : ∃ s, rsum rcSent l = s := ⟨_, rfl⟩
 rw [hs] at hk ⊢
 have HLN := Lib.hid hln
 have HS := Lib.hid hs
 clear hln hs
 go_enter Tryz.func38, Tryz.ntmps38
 go_wp2
 go_loopw [1, 5] (fun x i wr => ∃ j : Nat, j ≤ n ∧ x = .int .i64 (k + (rsum rcSent (l.take j) : Nat)) ∧ i = .int .i64 j ∧ tSent.row.O wr [.slice A n c] (rpart rcSent rmSent k l j) F ∧ Only F w wr) (fun _ i _ => n - (RowKit.intOf i).toNat)
 case atStart => exact ⟨0, by omega, by rw [rsum_zero]; go_num, rfl, by rw [rpart_zero]; exact h, Only.refl _ _⟩
 case round =>
  obtain ⟨j, hj, rfl, rfl, hO, hG⟩ := hrel
  by_cases hlt : j < n
  ·obtain ⟨a, hl⟩ : ∃ a, l[j]? = some a := ⟨_, List.getElem?_eq_getElem (by rw [HLN.out]; exact hlt)⟩
   have HP := Lib.hid (rpart_set (c := rcSent) (m := rmSent) (k := k) hl)
   have hat := rpart_at (c := rcSent) (m := rmSent) (k := k) hl
   have hsa := rsum_at (c := rcSent) hl
   have hsn := rsum_sn (c := rcSent) hl
   rw [HS.out] at hsa
   obtain ⟨q, hq⟩ : ∃ q, rsum rcSent (l.take j) = q := ⟨_, rfl⟩
   obtain ⟨q', hq'⟩ : ∃ q, rsum rcSent (l.take (j + 1)) = q := ⟨_, rfl⟩
   rw [hq] at hsa hsn
   rw [hq'] at hsn
   rw [hq]
   have HQ := Lib.hid hq'
   have HQ2 := Lib.hid hq
   clear hq hq'
   dsimp only [rcSent] at hsa hsn
   obtain ⟨g, off, cur, et, es, Fi, rfl, hcur, hes, hOe, hgF, hgi, hFi, hnd, hback⟩ := rowO_at (K := 3) hO hF hat rfl
   obtain ⟨A2, c2, F2, rfl, hFe, hi0, hi1, ha2, hb2, hr2⟩ := openOSent hOe
   subst Fi
   obtain ⟨x0, x1, l2⟩ := a
   dsimp only at *
   have e0 : wr.cell? ⟨g, off + j * 3, none⟩ = some (.int .i64 x0) := by rw [Box.cell (t := et) hcur]; exact hes 0 (by omega)
   have f0 : wr.frozen? ⟨g, off + j * 3, none⟩ = false := Box.frozen (t := et) hcur _
   have e1 : wr.cell? ⟨g, off + j * 3 + 1, none⟩ = some (.int .i64 x1) := by rw [Box.cell (t := et) hcur]; exact hes 1 (by omega)
   have f1 : wr.frozen? ⟨g, off + j * 3 + 1, none⟩ = false := Box.frozen (t := et) hcur _
   have e2 : wr.cell? ⟨g, off + j * 3 + 2, none⟩ = some (.slice A2 l2.length c2) := by rw [Box.cell (t := et) hcur]; exact hes 2 (by omega)
   have f2 : wr.frozen? ⟨g, off + j * 3 + 2, none⟩ = false := Box.frozen (t := et) hcur _
   obtain ⟨cur1, hX0, hcs, hun, hval⟩ := puts_heap (off := off + j * 3) (vs := [.int .i64 (k + (q : Int)), .int .i64 (k + (q : Int) + 1)]) hcur
   dsimp only [List.length_cons, List.length_nil] at hun hval
   have hcz : ∀ i, i < 3 → off + j * 3 + i < cur.size := fun i hi => by
    by_cases hh : off + j * 3 + i < cur.size
    ·exact hh
    ·have := hes i hi; rw [Array.getElem?_eq_none (by omega)] at this; rcases (by omega : i = 0 ∨ i = 1 ∨ i = 2) with rfl | rfl | rfl <;> simp at this
   have hgz : g < (puts wr g (off + j * 3) [.int .i64 (k + (q : Int)), .int .i64 (k + (q : Int) + 1)]).heap.size := by rw [size_puts]; exact Box.size (t := et) hcur
   have OG0 : Only F w (puts wr g (off + j * 3) [.int .i64 (k + (q : Int)), .int .i64 (k + (q : Int) + 1)]) := only_puts hG hgF
   have hk0 : ∀ f, f ≠ g → (puts wr g (off + j * 3) [.int .i64 (k + (q : Int)), .int .i64 (k + (q : Int) + 1)]).heap[f]? = wr.heap[f]? := fun f hf => puts_far hf
   have hzz : (puts wr g (off + j * 3) [.int .i64 (k + (q : Int)), .int .i64 (k + (q : Int) + 1)]).heap.size = wr.heap.size := size_puts
   have y2 : ∀ f ∈ F2, f < wr.heap.size ∧ f ≠ g := fun f hf => ⟨(tBy).lt hr2 f hf, fun e => hgi (by rw [← e]; simp [hf])⟩
   replace hr2 := (tBy).kept (w' := puts wr g (off + j * 3) [.int .i64 (k + (q : Int)), .int .i64 (k + (q : Int) + 1)]) hr2 (fun f hf => hk0 f (y2 f hf).2)
   have nd2 : F2.Nodup := hnd
   obtain ⟨W0, hW0⟩ : ∃ W0, puts wr g (off + j * 3) [.int .i64 (k + (q : Int)), .int .i64 (k + (q : Int) + 1)] = W0 := ⟨_, rfl⟩
   rw [hW0] at hX0 hgz OG0 hk0 hzz hr2
   have Z0 : wr.heap.size ≤ W0.heap.size := Nat.le_of_eq hzz.symm
   have hX : W0.heap[g]? = some (.cells cur1 et (0, 0)) := hX0
   go_wp2_with fail
   have hWe : ((wr.setCell ⟨g, off + j * 3, none⟩ (.int .i64 (k + (q : Int)))).setCell ⟨g, off + j * 3 + 1, none⟩ (.int .i64 (k + (q : Int) + 1))) = W0 := hW0
   rw [hWe]
   refine (o_markByteS (k + (q : Int) + 1 + 1) hr2 (by omega) (by omega)).mono ?_
   rintro e W1 ⟨rfl, hO2, hG2⟩
   have OG1 : Only F w W1 := OG0.trans (hG2.mono (fun f hf => hFi f (by simp [hf])))
   have Z1 : wr.heap.size ≤ W1.heap.size := Nat.le_trans Z0 hG2.size
   have hgz : g < W1.heap.size := Nat.lt_of_lt_of_le hgz hG2.size
   replace hX : W1.heap[g]? = some (.cells cur1 et (0, 0)) := (hG2.block g (by omega) (fun e => (y2 g e).2 rfl)).trans hX
   replace hr2 := hO2
   have wf0 : (Lit.int .i64 (k + (q : Int))).wf = true := WalkArith.wf_i64 (by omega)
   have wf1 : (Lit.int .i64 (k + (q : Int) + 1)).wf = true := WalkArith.wf_i64 (by omega)
   obtain ⟨F2, hF2, hF2e⟩ := makeOSent (w := W1) (p := rmSent (k + (q : Int)) (x0, x1, l2)) wf0 wf1 hr2
   subst hF2e
   have hfin := hback W1 cur1 [.int .i64 (k + (q : Int)), .int .i64 (k + (q : Int) + 1), .slice A2 l2.length c2] (rmSent (k + (q : Int)) (x0, x1, l2)) hX (by
    intro i hi
    rcases (by omega : i = 0 ∨ i = 1 ∨ i = 2) with rfl | rfl | rfl
    ·exact hval 0 (by omega) (hcz 0 (by omega))
    ·exact hval 1 (by omega) (hcz 1 (by omega))
    ·rw [hun _ (by omega)]; exact hes 2 (by omega)) (by
    intro q2 hq2
    refine hun q2 ?_
    rcases Nat.lt_or_ge q2 (off + j * 3) with h1 | h1
    ·exact .inl h1
    ·rcases Nat.lt_or_ge q2 (off + j * 3 + 3) with h2 | h2
     ·exact absurd (by omega) (hq2 (q2 - (off + j * 3)) (by omega))
     ·exact .inr (by omega)) hF2 (by
    intro f hf h1 h2
    skip
    have hfz : f < wr.heap.size := (tSent.row).lt hO f hf
    exact ((hG2.block f (by omega) h2).trans (hk0 f h1)))
   have HPq := HP.out
   rw [HQ2.out] at HPq
   rw [HPq] at hfin
   clear HPq
   go_wp2
   go_roundw
   case rel => exact ⟨j + 1, by omega, by rw [HQ.out]; go_num, by go_num, hfin, OG1⟩
   case measure => simp [RowKit.intOf]; omega
  ·obtain rfl : j = n := by omega
   have HA := Lib.hid (show rsum rcSent (l.take j) = s from by rw [rsum_all (Nat.le_of_eq HLN.out)]; exact HS.out)
   rw [HA.out]
   rw [rpart_all (Nat.le_of_eq HLN.out)] at hO
   go_wp2
   go_ret
   exact ⟨rfl, hO, hG⟩
set_option maxHeartbeats 1000000 in
theorem o_heldSentS {w : World} {n c : Nat} {A : Option Addr} {l : List DSent} (k : Int) (h : tSent.row.R w w.heap.size [.slice A n c] (rmk rcSent rmSent k l)) (h0 : 0 ≤ k) (hk : k + rsum rcSent l ≤ 4611686018427387904) :
  Calls Tryz.prog 42 #[.slice A n c, .int .i64 k] w fun e w' => e = .returned (.int .i64 (k + rsum rcSent l)) ∧ Bel w w' := by
 obtain ⟨hln, hnc, hcm⟩ := rowR_len h
 rw [rmk_len] at hln
 obtain ⟨s, hs⟩ : ∃ s, rsum rcSent l = s := ⟨_, rfl⟩
 rw [hs] at hk ⊢
 have HLN := Lib.hid hln
 have HS := Lib.hid hs
 clear hln hs
 go_enter Tryz.func42, Tryz.ntmps42
 go_wp2
 go_loopw [1, 5] (fun x i wr => ∃ j : Nat, j ≤ n ∧ x = .int .i64 (k + (rsum rcSent (l.take j) : Nat)) ∧ i = .int .i64 j ∧ Bel w wr) (fun _ i _ => n - (RowKit.intOf i).toNat)
 case atStart => exact ⟨0, by omega, by rw [rsum_zero]; go_num, rfl, (belx)⟩
 case round =>
  obtain ⟨j, hj, rfl, rfl, hB⟩ := hrel
  by_cases hlt : j < n
  ·obtain ⟨a, hl⟩ : ∃ a, l[j]? = some a := ⟨_, List.getElem?_eq_getElem (by rw [HLN.out]; exact hlt)⟩
   obtain ⟨a2, b, off, es, hl2, rfl, hb, hes, hR⟩ := rowR_at (K := 3) h hlt rfl
   have hat := rmk_at (c := rcSent) (m := rmSent) (k := k) hl
   obtain rfl : _ = a2 := Option.some.inj (hat.symm.trans hl2)
   clear hl2 hat
   have hsa := rsum_at (c := rcSent) hl
   have hsn := rsum_sn (c := rcSent) hl
   rw [HS.out] at hsa
   obtain ⟨q, hq⟩ : ∃ q, rsum rcSent (l.take j) = q := ⟨_, rfl⟩
   obtain ⟨q', hq'⟩ : ∃ q, rsum rcSent (l.take (j + 1)) = q := ⟨_, rfl⟩
   rw [hq] at hsa hsn
   rw [hq'] at hsn
   rw [hq] at hR ⊢
   have HQ := Lib.hid hq'
   clear hq hq'
   dsimp only [rcSent] at hsa hsn
   obtain ⟨A2, n2, c2, rfl, hi0, hi1, ha2, hb2, hl2, hr2⟩ := openSent hR
   obtain ⟨x0, x1, l2⟩ := a
   dsimp only [rmSent] at *
   have q0 : ((k + (q : Int) : Int) != k + (q : Int)) = false := by simp
   have q1 : ((k + (q : Int) + 1 : Int) != k + (q : Int) + 1) = false := by simp
   have e0 : wr.cell? ⟨b, off + j * 3, none⟩ = some (.int .i64 (k + (q : Int))) := cell_at hB hb (hes 0 (by omega))
   have e1 : wr.cell? ⟨b, off + j * 3 + 1, none⟩ = some (.int .i64 (k + (q : Int) + 1)) := cell_at hB hb (hes 1 (by omega))
   have e2 : wr.cell? ⟨b, off + j * 3 + 2, none⟩ = some (.slice A2 n2 c2) := cell_at hB hb (hes 2 (by omega))
   have d0 : decide (k + (q : Int) + 1 + 1 + ((l2.length : Nat) : Int) < 0) = false := by simp; omega
   go_wp2_with fail
   refine (o_heldByteS (k + (q : Int) + 1 + 1) ((tBy).reach hr2 ?hB) (by omega) (by omega)).mono ?_
   case hB => exact (belx)
   rintro e w1 ⟨rfl, hb1⟩
   have hB1 : Bel w w1 := bel_trans hB hb1
   have e2_1 : w1.cell? ⟨b, off + j * 3 + 2, none⟩ = some (.slice A2 n2 c2) := cell_at hB1 hb (hes 2 (by omega))
   go_wp2
   go_roundw
   case rel => exact ⟨j + 1, by omega, by rw [HQ.out]; go_num, by go_num, hB1⟩
   case measure => simp [RowKit.intOf]; omega
  ·obtain rfl : j = n := by omega
   have HA := Lib.hid (show rsum rcSent (l.take j) = s from by rw [rsum_all (Nat.le_of_eq HLN.out)]; exact HS.out)
   rw [HA.out]
   go_wp2
   go_ret
   exact ⟨rfl, hB⟩
end Go.Proofs.YtkdanlnhdgcplaaGreat
