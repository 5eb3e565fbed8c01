/-
  LMailS, LPiece, LPieceS, LWhole, LWholeS, LDesk, LLetter, LLetterS, LHeld: texts joined.
-/
import Derived.Test.YtkdanlnhdgcplaaGreatFGa
import Derived.Test.YtkdanlnhdgcplaaGreatFGb
import Derived.Deep.RegionHeld3
namespace Go.Proofs.YtkdanlnhdgcplaaGreat
set_option maxRecDepth 100000
set_option linter.unusedVariables false
set_option linter.unusedSimpArgs false
open Go.ChangeShapes Go.WideShapes Go.ChangeAt Go.RowKit
theorem o_szMailS_t {w : World} {n c : Nat} {A : Option Addr} {l : List DMail} {k : Int} (h : tMail.row.R w w.heap.size [.slice A n c] l) (h1 : 0 ≤ k) (h2 : k ≤ 1048576) (h3 : (rsz szMail l : Int) ≤ k) :
  Calls Tryz.prog 18 #[.slice A n c, .int .i64 k] w fun e w' => e = .returned (.int .i64 (k - rsz szMail l)) ∧ Bel w w' := by
 obtain ⟨hln, hnc, hcm⟩ := rowR_len h
 obtain ⟨s, hs⟩ : ∃ s, rsum szMail l = s := ⟨_, rfl⟩
 have hz : rsz szMail l = n + s := by unfold rsz; rw [hln, hs]
 rw [hz] at h3 ⊢
 have HLN := Lib.hid hln
 have HS := Lib.hid hs
 clear hz hln hs
 have d : decide (k - (n : Int) < 0) = false := by simp; omega
 go_enter Tryz.func18, Tryz.ntmps18
 go_wp2_with fail
 go_loopw [1, 5] (fun x i wr => ∃ j : Nat, j ≤ n ∧ x = .int .i64 (k - n - (rsum szMail (l.take j) : Nat)) ∧ i = .int .i64 j ∧ Bel w wr) (fun _ i _ => n - (RowKit.intOf i).toNat)
 case atStart => exact ⟨0, by omega, by rw [rsum_zero]; go_num, rfl, (belx)⟩
 case round =>
  obtain ⟨j, hj, rfl, rfl, hB⟩ := hrel
  by_cases hlt : j < n
  ·obtain ⟨a, b, off, es, hl, rfl, hb, hes, hR⟩ := rowR_at (K := 2) h hlt rfl
   have hsa := rsum_at (c := szMail) hl
   have hsn := rsum_sn (c := szMail) hl
   rw [HS.out] at hsa
   obtain ⟨q, hq⟩ : ∃ q, rsum szMail (l.take j) = q := ⟨_, rfl⟩
   obtain ⟨q', hq'⟩ : ∃ q, rsum szMail (l.take (j + 1)) = q := ⟨_, rfl⟩
   rw [hq] at hsa hsn
   rw [hq'] at hsn
   rw [hq]
   have HQ := Lib.hid hq'
   clear hq hq'
   obtain ⟨A1, n1, c1, rfl, hi0, ha1, hb1, hl1, hr1⟩ := openMail hR
   have e0 : wr.cell? ⟨b, off + j * 2, none⟩ = some (.int .i64 (a.1)) := cell_at hB hb (hes 0 (by omega))
   have e1 : wr.cell? ⟨b, off + j * 2 + 1, none⟩ = some (.slice A1 n1 c1) := cell_at hB hb (hes 1 (by omega))
   clear hes
   have d2 : decide (k - (n : Int) - q - (szMail a : Nat) < 0) = false := by simp; omega
   go_wp2_with fail
   refine (o_szMail_t (tMail.reach hR ?hB) (by omega) (by omega) (by omega)).mono ?_
   case hB => exact (belx)
   rintro e w1 ⟨rfl, hb1⟩
   go_wp2
   go_roundw
   case rel => exact ⟨j + 1, by omega, by rw [HQ.out]; go_num, by go_num, bel_trans hB hb1⟩
   case measure => simp [RowKit.intOf]; omega
  ·obtain rfl : j = n := by omega
   have HA := Lib.hid (show rsum szMail (l.take j) = s from by rw [rsum_all (Nat.le_of_eq HLN.out)]; exact HS.out)
   rw [HA.out]
   go_wp2
   go_ret
   exact ⟨ret_int (by omega), hB⟩
theorem o_szMailS_f {w : World} {n c : Nat} {A : Option Addr} {l : List DMail} {k : Int} (h : tMail.row.R w w.heap.size [.slice A n c] l) (h1 : 0 ≤ k) (h2 : k ≤ 1048576) (h3 : ¬ (rsz szMail l : Int) ≤ k) :
  Calls Tryz.prog 18 #[.slice A n c, .int .i64 k] w fun e w' => e = .returned (.int .i64 (-1)) ∧ Bel w w' := by
 obtain ⟨hln, hnc, hcm⟩ := rowR_len h
 obtain ⟨s, hs⟩ : ∃ s, rsum szMail l = s := ⟨_, rfl⟩
 have hz : rsz szMail l = n + s := by unfold rsz; rw [hln, hs]
 rw [hz] at h3
 have HLN := Lib.hid hln
 have HS := Lib.hid hs
 clear hz hln hs
 by_cases hnk : k < (n : Int)
 ·have d : decide (k - (n : Int) < 0) = true := by simp; omega
  go_enter Tryz.func18, Tryz.ntmps18
  go_wp2
  go_ret
  exact ⟨rfl, (belx)⟩
 have d : decide (k - (n : Int) < 0) = false := by simp; omega
 go_enter Tryz.func18, Tryz.ntmps18
 go_wp2_with fail
 go_loopw [1, 5] (fun x i wr => ∃ j : Nat, j ≤ n ∧ x = .int .i64 (k - n - (rsum szMail (l.take j) : Nat)) ∧ i = .int .i64 j ∧ Bel w wr ∧ (n : Int) + (rsum szMail (l.take j) : Nat) ≤ k) (fun _ i _ => n - (RowKit.intOf i).toNat)
 case atStart => exact ⟨0, by omega, by rw [rsum_zero]; go_num, rfl, (belx), by rw [rsum_zero]; omega⟩
 case round =>
  obtain ⟨j, hj, rfl, rfl, hB, hv⟩ := hrel
  by_cases hlt : j < n
  ·obtain ⟨a, b, off, es, hl, rfl, hb, hes, hR⟩ := rowR_at (K := 2) h hlt rfl
   have hsa := rsum_at (c := szMail) hl
   have hsn := rsum_sn (c := szMail) hl
   rw [HS.out] at hsa
   obtain ⟨q, hq⟩ : ∃ q, rsum szMail (l.take j) = q := ⟨_, rfl⟩
   obtain ⟨q', hq'⟩ : ∃ q, rsum szMail (l.take (j + 1)) = q := ⟨_, rfl⟩
   rw [hq] at hsa hsn
   rw [hq'] at hsn
   rw [hq]
   have HQ := Lib.hid hq'
   rw [hq] at hv
   clear hq hq'
   obtain ⟨A1, n1, c1, rfl, hi0, ha1, hb1, hl1, hr1⟩ := openMail hR
   have e0 : wr.cell? ⟨b, off + j * 2, none⟩ = some (.int .i64 (a.1)) := cell_at hB hb (hes 0 (by omega))
   have e1 : wr.cell? ⟨b, off + j * 2 + 1, none⟩ = some (.slice A1 n1 c1) := cell_at hB hb (hes 1 (by omega))
   clear hes
   by_cases hg : (n : Int) + q + (szMail a : Nat) ≤ k
   ·have d2 : decide (k - (n : Int) - q - (szMail a : Nat) < 0) = false := by simp; omega
    go_wp2_with fail
    refine (o_szMail_t (tMail.reach hR ?hB) (by omega) (by omega) (by omega)).mono ?_
    case hB => exact (belx)
    rintro e w1 ⟨rfl, hb1⟩
    go_wp2
    go_roundw
    case rel => exact ⟨j + 1, by omega, by rw [HQ.out]; go_num, by go_num, bel_trans hB hb1, by rw [HQ.out]; omega⟩
    case measure => simp [RowKit.intOf]; omega
   ·go_wp2_with fail
    refine (o_szMail_f (tMail.reach hR ?hB) (by omega) (by omega) (by omega)).mono ?_
    case hB => exact (belx)
    rintro e w1 ⟨rfl, hb1⟩
    go_wp2
    go_ret
    exact ⟨rfl, bel_trans hB hb1⟩
  ·obtain rfl : j = n := by omega
   have HA := Lib.hid (show rsum szMail (l.take j) = s from by rw [rsum_all (Nat.le_of_eq HLN.out)]; exact HS.out)
   rw [HA.out] at hv
   exact absurd hv (by omega)
theorem info_Mail : (Tryz.prog.info? 62).map (fun i => (i.zero, i.size, i.bytes)) = some (some (.agg #[.int .i64 0, .slice none 0 0]), 2, 32) := by kernel_rfl
set_option maxHeartbeats 800000 in
theorem o_toMailS {w : World} {n c : Nat} {A : Option Addr} {l : List DMail} (h : tMail.row.R w w.heap.size [.slice A n c] l) (hz : rsz szMail l ≤ 1048576) :
  Calls Tryz.prog 25 #[.slice A n c] w fun e w' => ∃ A' c' F, e = .returned (.slice A' l.length c') ∧ tMail.row.O w' [.slice A' l.length c'] l F ∧ New w.heap.size F ∧ Bel w w' := by
 obtain ⟨i0, hi0, hz0, hz1, hz2⟩ := info_parts info_Mail
 obtain ⟨hln, hnc, hcm⟩ := rowR_len h
 have hn : n ≤ 1048576 := by have := rsz_le (s := szMail) l; omega
 have HLN := Lib.hid hln
 have HZ := Lib.hid hz
 clear hln hz
 go_enter Tryz.func25, Tryz.ntmps25
 go_wp2_with (at_make; refine wpList_mkS _ rfl (.tmp 6) (.tmp 6) _ rfl 62 i0 _ 2 Tryz.underlying31 hi0 hz0 hz1 n rfl rfl (by rw [hz2]; omega) (by simp only [maxLen]; omega) ?_; intro w1 cur hcur hsz hB1 hgr)
 go_loopw [4] (fun i wr => ∃ j : Nat, j ≤ n ∧ i = .int .i64 j ∧ Bel w wr ∧ ∃ F, Fill tMail wr w.heap.size 62 n (l.take j) F ∧ New (w.heap.size + 1) F) (fun i _ => n - (RowKit.intOf i).toNat)
 case atStart => exact ⟨0, by omega, rfl, hB1, [], Fill.start hcur hsz, New.nil _⟩
 case round =>
  obtain ⟨j, hj, rfl, hB, F, hf, hN⟩ := hrel
  by_cases hlt : j < n
  ·obtain ⟨a, b, off, es, hl, rfl, hb, hes, hR⟩ := rowR_at (K := 2) h hlt rfl
   have HT := Lib.hid (take_sn hl)
   have HLT := Lib.hid (show (l.take j).length = j from by rw [List.length_take, HLN.out]; omega)
   have hsa : szMail a ≤ 1048576 := by have := rsz_step (s := szMail) hl; have := HZ.out; omega
   obtain ⟨A1, n1, c1, rfl, hi0, ha1, hb1, hl1, hr1⟩ := openMail hR
   subst hl1
   have e0 : wr.cell? ⟨b, off + j * 2, none⟩ = some (.int .i64 (a.1)) := cell_at hB hb (hes 0 (by omega))
   have e1 : wr.cell? ⟨b, off + j * 2 + 1, none⟩ = some (.slice A1 (a.2).length c1) := cell_at hB hb (hes 1 (by omega))
   clear hes
   have hgs := hf.size
   go_wp2_with fail
   refine (o_toMail (tMail.reach hR ?hB) hsa).mono ?_
   case hB => exact (belx)
   rintro e w2 ⟨cs2, F2, rfl, hO2, hN2, hb2⟩
   obtain ⟨B1, d1, G1, rfl, hFe, _, _, _, _⟩ := openOMail hO2
   clear hFe
   have hf2 := hf.below hb2
   have hsz2 := hb2.size
   have hP := Fill.push (K := 2) hf2 (by rw [HLT.out]; exact hlt) hO2 (hN.not (by omega)) (hN2.not hgs) rfl
   rw [HLT.out, ← HT.out] at hP
   have hM : New (w.heap.size + 1) (F ++ F2) := New.app hN hN2 (by omega) hf.lt
   obtain ⟨u0, k0⟩ := hf2.cell (K := 2) (j := 0) (by rw [HLT.out]; exact hlt) rfl (by omega)
   rw [HLT.out] at k0
   replace k0 : w2.cell? ⟨w.heap.size, j * 2, none⟩ = some u0 := k0
   have f0 := hf2.frozen (j * 2)
   obtain ⟨u1, k1⟩ := hf2.cell (K := 2) (j := 1) (by rw [HLT.out]; exact hlt) rfl (by omega)
   rw [HLT.out] at k1
   replace k1 : w2.cell? ⟨w.heap.size, j * 2 + 1, none⟩ = some u1 := k1
   have f1 := hf2.frozen (j * 2 + 1)
   go_wp2
   go_roundw
   case rel => exact ⟨j + 1, by omega, by go_num, below_puts (bel_trans hB hb2) (Nat.le_refl _) (off := j * 2) (vs := [.int .i64 (a.1), .slice B1 (a.2).length d1]), _, hP, hM⟩
   case measure => simp [RowKit.intOf]; omega
  ·obtain rfl : j = n := by omega
   have HA := Lib.hid (show l.take j = l from by rw [List.take_of_length_le (Nat.le_of_eq HLN.out)])
   rw [HA.out] at hf
   obtain ⟨F2, hF2, hor⟩ := hf.done HLN.out (by omega)
   have HN := Lib.hid HLN.out
   go_wp2
   go_ret
   refine ⟨some ⟨w.heap.size, 0, none⟩, j, F2, ?_, hF2, hN.cons hor, hB⟩
   rw [HN.out]
   rfl
set_option maxHeartbeats 800000 in
theorem o_eqMailS {w : World} {n m c d : Nat} {A A' : Option Addr} {l : List DMail} (h : tMail.row.R w w.heap.size [.slice A n c] l) (h' : tMail.row.R w w.heap.size [.slice A' m d] l) :
  Calls Tryz.prog 33 #[.slice A n c, .slice A' m d] w fun e w' => e = .returned (.bool true) ∧ Bel w w' := by
 obtain ⟨hln, hnc, hcm⟩ := rowR_len h
 obtain ⟨hln', hnc', hcm'⟩ := rowR_len h'
 obtain rfl : m = n := by omega
 have HLN := Lib.hid hln
 clear hln hln'
 go_enter Tryz.func33, Tryz.ntmps33
 go_wp2_with fail
 go_loopw [5] (fun i wr => ∃ j : Nat, j ≤ m ∧ i = .int .i64 j ∧ Bel w wr) (fun i _ => m - (RowKit.intOf i).toNat)
 case atStart => exact ⟨0, by omega, rfl, (belx)⟩
 case round =>
  obtain ⟨j, hj, rfl, hB⟩ := hrel
  by_cases hlt : j < m
  ·obtain ⟨a, b, off, es, hl, rfl, hb, hes, hR⟩ := rowR_at (K := 2) h hlt rfl
   obtain ⟨a', b', off', es', hl', rfl, hb', hes', hR'⟩ := rowR_at (K := 2) h' hlt rfl
   obtain rfl : a = a' := by rw [hl] at hl'; exact Option.some.inj hl'
   clear hl hl'
   obtain ⟨A1, n1, c1, rfl, hi0, ha1, hb1, hl1, hr1⟩ := openMail hR
   obtain ⟨A1', n1', c1', rfl, hi0', ha1', hb1', hl1', hr1'⟩ := openMail hR'
   subst hl1
   subst hl1'
   have e0 : wr.cell? ⟨b, off + j * 2, none⟩ = some (.int .i64 (a.1)) := cell_at hB hb (hes 0 (by omega))
   have e1 : wr.cell? ⟨b, off + j * 2 + 1, none⟩ = some (.slice A1 (a.2).length c1) := cell_at hB hb (hes 1 (by omega))
   have e0' : wr.cell? ⟨b', off' + j * 2, none⟩ = some (.int .i64 (a.1)) := cell_at hB hb' (hes' 0 (by omega))
   have e1' : wr.cell? ⟨b', off' + j * 2 + 1, none⟩ = some (.slice A1' (a.2).length c1') := cell_at hB hb' (hes' 1 (by omega))
   clear hes hes'
   go_wp2_with fail
   go_region_held3 (fun w' => w'.cell? ⟨b, off + j * 2, none⟩ = some (.int .i64 (a.1)) ∧ w'.cell? ⟨b, off + j * 2 + 1, none⟩ = some (.slice A1 (a.2).length c1) ∧ w'.cell? ⟨b', off' + j * 2, none⟩ = some (.int .i64 (a.1)) ∧ w'.cell? ⟨b', off' + j * 2 + 1, none⟩ = some (.slice A1' (a.2).length c1')) (first | (exact ⟨e0, e1, e0', e1'⟩) | (exact ⟨cell_bel hs2 e0, cell_bel hs2 e1, cell_bel hs2 e0', cell_bel hs2 e1'⟩) | go_keep)
    ((go_at_call 73; refine (o_eqMail (tMail.reach hR (belx)) (tMail.reach hR' (belx))).mono ?_; rintro e w2 ⟨rfl, hb2⟩; have hs2 : Bel wr w2 := bel_trans (belx) hb2))
   go_wp2
   go_roundw
   case rel => exact ⟨j + 1, by omega, by go_num, bel_trans hB hs2⟩
   case measure => simp [RowKit.intOf]; omega
  ·obtain rfl : j = m := by omega
   go_wp2
   go_ret
   exact ⟨rfl, hB⟩
set_option maxHeartbeats 1000000 in
theorem o_markMailS {w : World} {n c : Nat} {A : Option Addr} {l : List DMail} {F : List Nat} (k : Int) (h : tMail.row.O w [.slice A n c] l F) (hF : F.Nodup) (h0 : 0 ≤ k) (hk : k + rsum rcMail l ≤ 4611686018427387904) :
  Calls Tryz.prog 37 #[.slice A n c, .int .i64 k] w fun e w' => e = .returned (.int .i64 (k + rsum rcMail l)) ∧ tMail.row.O w' [.slice A n c] (rmk rcMail rmMail k l) F ∧ Only F w w' := by
 obtain ⟨_, _, hsh, hnc, hcm⟩ := rowO_shape h
 have hln : l.length = n := by injection hsh with _ e2 _; exact e2.symm
 have hnc2 : n ≤ 9223372036854775807 := by omega
 clear hsh hnc hcm
 obtain ⟨s, hs⟩ : ∃ s, rsum rcMail l = s := ⟨_, rfl⟩
 rw [hs] at hk ⊢
 have HLN := Lib.hid hln
 have HS := Lib.hid hs
 clear hln hs
 go_enter Tryz.func37, Tryz.ntmps37
 go_wp2
 go_loopw [1, 5] (fun x i wr => ∃ j : Nat, j ≤ n ∧ x = .int .i64 (k + (rsum rcMail (l.take j) : Nat)) ∧ i = .int .i64 j ∧ tMail.row.O wr [.slice A n c] (rpart rcMail rmMail k l j) F ∧ Only F w wr) (fun _ i _ => n - (RowKit.intOf i).toNat)
 case atStart => exact ⟨0, by omega, by rw [rsum_zero]; go_num, rfl, by rw [rpart_zero]; exact h, Only.refl _ _⟩
 case round =>
  obtain ⟨j, hj, rfl, rfl, hO, hG⟩ := hrel
  by_cases hlt : j < n
  ·obtain ⟨a, hl⟩ : ∃ a, l[j]? = some a := ⟨_, List.getElem?_eq_getElem (by rw [HLN.out]; exact hlt)⟩
   have HP := Lib.hid (rpart_set (c := rcMail) (m := rmMail) (k := k) hl)
   have hat := rpart_at (c := rcMail) (m := rmMail) (k := k) hl
   have hsa := rsum_at (c := rcMail) hl
   have hsn := rsum_sn (c := rcMail) hl
   rw [HS.out] at hsa
   obtain ⟨q, hq⟩ : ∃ q, rsum rcMail (l.take j) = q := ⟨_, rfl⟩
   obtain ⟨q', hq'⟩ : ∃ q, rsum rcMail (l.take (j + 1)) = q := ⟨_, rfl⟩
   rw [hq] at hsa hsn
   rw [hq'] at hsn
   rw [hq]
   have HQ := Lib.hid hq'
   have HQ2 := Lib.hid hq
   clear hq hq'
   dsimp only [rcMail] at hsa hsn
   obtain ⟨g, off, cur, et, es, Fi, rfl, hcur, hes, hOe, hgF, hgi, hFi, hnd, hback⟩ := rowO_at (K := 2) hO hF hat rfl
   obtain ⟨A1, c1, F1, rfl, hFe, hi0, ha1, hb1, hr1⟩ := openOMail hOe
   subst Fi
   obtain ⟨x0, l1⟩ := a
   dsimp only at *
   have e0 : wr.cell? ⟨g, off + j * 2, none⟩ = some (.int .i64 x0) := by rw [Box.cell (t := et) hcur]; exact hes 0 (by omega)
   have f0 : wr.frozen? ⟨g, off + j * 2, none⟩ = false := Box.frozen (t := et) hcur _
   have e1 : wr.cell? ⟨g, off + j * 2 + 1, none⟩ = some (.slice A1 l1.length c1) := by rw [Box.cell (t := et) hcur]; exact hes 1 (by omega)
   have f1 : wr.frozen? ⟨g, off + j * 2 + 1, none⟩ = false := Box.frozen (t := et) hcur _
   obtain ⟨cur1, hX0, hcs, hun, hval⟩ := puts_heap (off := off + j * 2) (vs := [.int .i64 (k + (q : Int))]) hcur
   dsimp only [List.length_cons, List.length_nil] at hun hval
   have hcz : ∀ i, i < 2 → off + j * 2 + i < cur.size := fun i hi => by
    by_cases hh : off + j * 2 + i < cur.size
    ·exact hh
    ·have := hes i hi; rw [Array.getElem?_eq_none (by omega)] at this; rcases (by omega : i = 0 ∨ i = 1) with rfl | rfl <;> simp at this
   have hgz : g < (puts wr g (off + j * 2) [.int .i64 (k + (q : Int))]).heap.size := by rw [size_puts]; exact Box.size (t := et) hcur
   have OG0 : Only F w (puts wr g (off + j * 2) [.int .i64 (k + (q : Int))]) := only_puts hG hgF
   have hk0 : ∀ f, f ≠ g → (puts wr g (off + j * 2) [.int .i64 (k + (q : Int))]).heap[f]? = wr.heap[f]? := fun f hf => puts_far hf
   have hzz : (puts wr g (off + j * 2) [.int .i64 (k + (q : Int))]).heap.size = wr.heap.size := size_puts
   have y1 : ∀ f ∈ F1, f < wr.heap.size ∧ f ≠ g := fun f hf => ⟨(tBy).lt hr1 f hf, fun e => hgi (by rw [← e]; simp [hf])⟩
   replace hr1 := (tBy).kept (w' := puts wr g (off + j * 2) [.int .i64 (k + (q : Int))]) hr1 (fun f hf => hk0 f (y1 f hf).2)
   have nd1 : F1.Nodup := hnd
   obtain ⟨W0, hW0⟩ : ∃ W0, puts wr g (off + j * 2) [.int .i64 (k + (q : Int))] = W0 := ⟨_, rfl⟩
   rw [hW0] at hX0 hgz OG0 hk0 hzz hr1
   have Z0 : wr.heap.size ≤ W0.heap.size := Nat.le_of_eq hzz.symm
   have hX : W0.heap[g]? = some (.cells cur1 et (0, 0)) := hX0
   go_wp2_with fail
   have hWe : (wr.setCell ⟨g, off + j * 2, none⟩ (.int .i64 (k + (q : Int)))) = W0 := hW0
   rw [hWe]
   refine (o_markByteS (k + (q : Int) + 1) hr1 (by omega) (by omega)).mono ?_
   rintro e W1 ⟨rfl, hO1, hG1⟩
   have OG1 : Only F w W1 := OG0.trans (hG1.mono (fun f hf => hFi f (by simp [hf])))
   have Z1 : wr.heap.size ≤ W1.heap.size := Nat.le_trans Z0 hG1.size
   have hgz : g < W1.heap.size := Nat.lt_of_lt_of_le hgz hG1.size
   replace hX : W1.heap[g]? = some (.cells cur1 et (0, 0)) := (hG1.block g (by omega) (fun e => (y1 g e).2 rfl)).trans hX
   replace hr1 := hO1
   have wf0 : (Lit.int .i64 (k + (q : Int))).wf = true := WalkArith.wf_i64 (by omega)
   obtain ⟨F2, hF2, hF2e⟩ := makeOMail (w := W1) (p := rmMail (k + (q : Int)) (x0, l1)) wf0 hr1
   subst hF2e
   have hfin := hback W1 cur1 [.int .i64 (k + (q : Int)), .slice A1 l1.length c1] (rmMail (k + (q : Int)) (x0, l1)) hX (by
    intro i hi
    rcases (by omega : i = 0 ∨ i = 1) with rfl | rfl
    ·exact hval 0 (by omega) (hcz 0 (by omega))
    ·rw [hun _ (by omega)]; exact hes 1 (by omega)) (by
    intro q2 hq2
    refine hun q2 ?_
    rcases Nat.lt_or_ge q2 (off + j * 2) with h1 | h1
    ·exact .inl h1
    ·rcases Nat.lt_or_ge q2 (off + j * 2 + 2) with h2 | h2
     ·exact absurd (by omega) (hq2 (q2 - (off + j * 2)) (by omega))
     ·exact .inr (by omega)) hF2 (by
    intro f hf h1 h2
    skip
    have hfz : f < wr.heap.size := (tMail.row).lt hO f hf
    exact ((hG1.block f (by omega) h2).trans (hk0 f h1)))
   have HPq := HP.out
   rw [HQ2.out] at HPq
   rw [HPq] at hfin
   clear HPq
   go_wp2
   go_roundw
   case rel => exact ⟨j + 1, by omega, by rw [HQ.out]; go_num, by go_num, hfin, OG1⟩
   case measure => simp [RowKit.intOf]; omega
  ·obtain rfl : j = n := by omega
   have HA := Lib.hid (show rsum rcMail (l.take j) = s from by rw [rsum_all (Nat.le_of_eq HLN.out)]; exact HS.out)
   rw [HA.out]
   rw [rpart_all (Nat.le_of_eq HLN.out)] at hO
   go_wp2
   go_ret
   exact ⟨rfl, hO, hG⟩
set_option maxHeartbeats 1000000 in
theorem o_heldMailS {w : World} {n c : Nat} {A : Option Addr} {l : List DMail} (k : Int) (h : tMail.row.R w w.heap.size [.slice A n c] (rmk rcMail rmMail k l)) (h0 : 0 ≤ k) (hk : k + rsum rcMail l ≤ 4611686018427387904) :
  Calls Tryz.prog 41 #[.slice A n c, .int .i64 k] w fun e w' => e = .returned (.int .i64 (k + rsum rcMail l)) ∧ Bel w w' := by
 obtain ⟨hln, hnc, hcm⟩ := rowR_len h
 rw [rmk_len] at hln
 obtain ⟨s, hs⟩ : ∃ s, rsum rcMail l = s := ⟨_, rfl⟩
 rw [hs] at hk ⊢
 have HLN := Lib.hid hln
 have HS := Lib.hid hs
 clear hln hs
 go_enter Tryz.func41, Tryz.ntmps41
 go_wp2
 go_loopw [1, 5] (fun x i wr => ∃ j : Nat, j ≤ n ∧ x = .int .i64 (k + (rsum rcMail (l.take j) : Nat)) ∧ i = .int .i64 j ∧ Bel w wr) (fun _ i _ => n - (RowKit.intOf i).toNat)
 case atStart => exact ⟨0, by omega, by rw [rsum_zero]; go_num, rfl, (belx)⟩
 case round =>
  obtain ⟨j, hj, rfl, rfl, hB⟩ := hrel
  by_cases hlt : j < n
  ·obtain ⟨a, hl⟩ : ∃ a, l[j]? = some a := ⟨_, List.getElem?_eq_getElem (by rw [HLN.out]; exact hlt)⟩
   obtain ⟨a2, b, off, es, hl2, rfl, hb, hes, hR⟩ := rowR_at (K := 2) h hlt rfl
   have hat := rmk_at (c := rcMail) (m := rmMail) (k := k) hl
   obtain rfl : _ = a2 := Option.some.inj (hat.symm.trans hl2)
   clear hl2 hat
   have hsa := rsum_at (c := rcMail) hl
   have hsn := rsum_sn (c := rcMail) hl
   rw [HS.out] at hsa
   obtain ⟨q, hq⟩ : ∃ q, rsum rcMail (l.take j) = q := ⟨_, rfl⟩
   obtain ⟨q', hq'⟩ : ∃ q, rsum rcMail (l.take (j + 1)) = q := ⟨_, rfl⟩
   rw [hq] at hsa hsn
   rw [hq'] at hsn
   rw [hq] at hR ⊢
   have HQ := Lib.hid hq'
   clear hq hq'
   dsimp only [rcMail] at hsa hsn
   obtain ⟨A1, n1, c1, rfl, hi0, ha1, hb1, hl1, hr1⟩ := openMail hR
   obtain ⟨x0, l1⟩ := a
   dsimp only [rmMail] at *
   have q0 : ((k + (q : Int) : Int) != k + (q : Int)) = false := by simp
   have e0 : wr.cell? ⟨b, off + j * 2, none⟩ = some (.int .i64 (k + (q : Int))) := cell_at hB hb (hes 0 (by omega))
   have e1 : wr.cell? ⟨b, off + j * 2 + 1, none⟩ = some (.slice A1 n1 c1) := cell_at hB hb (hes 1 (by omega))
   have d0 : decide (k + (q : Int) + 1 + ((l1.length : Nat) : Int) < 0) = false := by simp; omega
   go_wp2_with fail
   refine (o_heldByteS (k + (q : Int) + 1) ((tBy).reach hr1 ?hB) (by omega) (by omega)).mono ?_
   case hB => exact (belx)
   rintro e w1 ⟨rfl, hb1⟩
   have hB1 : Bel w w1 := bel_trans hB hb1
   have e1_1 : w1.cell? ⟨b, off + j * 2 + 1, none⟩ = some (.slice A1 n1 c1) := cell_at hB1 hb (hes 1 (by omega))
   go_wp2
   go_roundw
   case rel => exact ⟨j + 1, by omega, by rw [HQ.out]; go_num, by go_num, hB1⟩
   case measure => simp [RowKit.intOf]; omega
  ·obtain rfl : j = n := by omega
   have HA := Lib.hid (show rsum rcMail (l.take j) = s from by rw [rsum_all (Nat.le_of_eq HLN.out)]; exact HS.out)
   rw [HA.out]
   go_wp2
   go_ret
   exact ⟨rfl, hB⟩
end Go.Proofs.YtkdanlnhdgcplaaGreat
namespace Go.Proofs.YtkdanlnhdgcplaaGreat
set_option maxRecDepth 100000
set_option linter.unusedVariables false
set_option linter.unusedSimpArgs false
open Go.ChangeShapes Go.WideShapes Go.ChangeAt Go.RowKit
theorem o_szPiece_t {w : World} {cs : List Value} {p : DPiece} {k : Int} (h : tPiece.R w w.heap.size cs p) (h1 : 0 ≤ k) (h2 : k ≤ 1048576) (h3 : (szPiece p : Int) ≤ k) :
  Calls Tryz.prog 214 #[.agg cs.toArray, .int .i64 k] w fun e w' => e = .returned (.int .i64 (k - szPiece p)) ∧ Bel w w' := by
 obtain ⟨A3, n3, c3, rfl, hi0, hi1, hi2, ha3, hb3, hl3, hr3⟩ := openPiece h
 obtain ⟨x0, x1, x2, l3⟩ := p
 try dsimp only [szPiece] at *
 subst hl3
 have d0 : decide (k - ((l3.length : Nat) : Int) < 0) = false := by simp; omega
 go_enter Tryz.func214, Tryz.ntmps214
 go_wp2_with fail
 refine (o_szByteS_t (tBy.reach hr3 ?hB) (by omega) (by omega) (by omega)).mono ?_
 case hB => exact (belx)
 rintro e w1 ⟨rfl, hb1⟩
 have hB1 : Bel w w1 := bel_trans (belx) hb1
 have P1 : Box w1 w.heap.size 266 #[.int .i64 x0, .int .i64 x1, .int .i64 x2, .slice A3 l3.length c3] := (Box.new _ _ _).below hb1 lez
 go_wp2
 go_ret
 exact ⟨ret_int (by omega), hB1⟩
theorem o_szPiece_f {w : World} {cs : List Value} {p : DPiece} {k : Int} (h : tPiece.R w w.heap.size cs p) (h1 : 0 ≤ k) (h2 : k ≤ 1048576) (h3 : ¬ (szPiece p : Int) ≤ k) :
  Calls Tryz.prog 214 #[.agg cs.toArray, .int .i64 k] w fun e w' => e = .returned (.int .i64 (-1)) ∧ Bel w w' := by
 obtain ⟨A3, n3, c3, rfl, hi0, hi1, hi2, ha3, hb3, hl3, hr3⟩ := openPiece h
 obtain ⟨x0, x1, x2, l3⟩ := p
 try dsimp only [szPiece] at *
 subst hl3
 go_enter Tryz.func214, Tryz.ntmps214
 go_wp2_with fail
 refine (o_szByteS_f (tBy.reach hr3 ?hB) (by omega) (by omega) (by omega)).mono ?_
 case hB => exact (belx)
 rintro e w1 ⟨rfl, hb1⟩
 have hB1 : Bel w w1 := bel_trans (belx) hb1
 have P1 : Box w1 w.heap.size 266 #[.int .i64 x0, .int .i64 x1, .int .i64 x2, .slice A3 l3.length c3] := (Box.new _ _ _).below hb1 lez
 go_wp2
 go_ret
 exact ⟨rfl, hB1⟩
set_option maxHeartbeats 400000 in
theorem o_toPiece {w : World} {cs : List Value} {p : DPiece} (h : tPiece.R w w.heap.size cs p) (hn : szPiece p ≤ 1048576) :
  Calls Tryz.prog 215 #[.agg cs.toArray] w fun e w' => ∃ cs' F, e = .returned (.agg cs'.toArray) ∧ tPiece.O w' cs' p F ∧ New w.heap.size F ∧ Bel w w' := by
 obtain ⟨A3, n3, c3, rfl, hi0, hi1, hi2, ha3, hb3, hl3, hr3⟩ := openPiece h
 obtain ⟨x0, x1, x2, l3⟩ := p
 try dsimp only [szPiece] at *
 subst hl3
 go_enter Tryz.func215, Tryz.ntmps215
 go_wp2_with fail
 refine (o_toByteS (tBy.reach hr3 ?hB) (by omega)).mono ?_
 case hB => exact (belx)
 rintro e w1 ⟨B3, d3, F3, rfl, o3, hN1, hb1⟩
 have z1 : w.heap.size + 3 ≤ w1.heap.size := by have := hb1.size; simpa using this
 have hB1 : Bel w w1 := bel_trans (belx) hb1
 have R1 : Box w1 (w.heap.size + 1) 185 #[.int .i64 0, .int .i64 0, .int .i64 0, .slice none 0 0] := Box.below (Box.alloc (by simpa using Box.new (w.alloc _) 185 #[.int .i64 0, .int .i64 0, .int .i64 0, .slice none 0 0]) _) hb1 lez
 have L1 : Box w1 (w.heap.size + 1 + 1) 185 #[.int .i64 x0, .int .i64 x1, .int .i64 x2, .slice none 0 0] := Box.below (by simpa using Box.new ((w.alloc _).alloc _) 185 #[.int .i64 x0, .int .i64 x1, .int .i64 x2, .slice none 0 0]) hb1 lez
 have P1 : Box w1 w.heap.size 266 #[.int .i64 x0, .int .i64 x1, .int .i64 x2, .slice A3 l3.length c3] := Box.below (((Box.new w 266 #[.int .i64 x0, .int .i64 x1, .int .i64 x2, .slice A3 l3.length c3]).alloc _).alloc _) hb1 lez
 have hM1 : New (w.heap.size + 3) (F3) := hN1.lower (by simp)
 clear hN1
 have y1 : ∀ f ∈ F3, f < w1.heap.size := by intro f hf; exact tBy.lt o3 f hf
 have kr1_0 := R1.cell 0; have fr1_0 := R1.frozen 0; have kl1_0 := L1.cell 0; have fl1_0 := L1.frozen 0; have kp1_0 := P1.cell 0
 have kr1_1 := R1.cell 1; have fr1_1 := R1.frozen 1; have kl1_1 := L1.cell 1; have fl1_1 := L1.frozen 1; have kp1_1 := P1.cell 1
 have kr1_2 := R1.cell 2; have fr1_2 := R1.frozen 2; have kl1_2 := L1.cell 2; have fl1_2 := L1.frozen 2; have kp1_2 := P1.cell 2
 have kr1_3 := R1.cell 3; have fr1_3 := R1.frozen 3; have kl1_3 := L1.cell 3; have fl1_3 := L1.frozen 3; have kp1_3 := P1.cell 3
 go_wp2
 have RR := (((((R1.far (p := ⟨w.heap.size + 1 + 1, 3, none⟩) lez (.slice B3 l3.length d3)).put 0 (.int .i64 x0)).put 1 (.int .i64 x1)).put 2 (.int .i64 x2)).put 3 (.slice B3 l3.length d3))
 have e0 := RR.cell 0
 have e1 := RR.cell 1
 have e2 := RR.cell 2
 have e3 := RR.cell 3
 have u3 := (Ty.far (t := tBy) (Ty.far (t := tBy) (Ty.far (t := tBy) (Ty.far (t := tBy) (Ty.far (t := tBy) o3 hM1 (p := ⟨w.heap.size + 1 + 1, 3, none⟩) lez (.slice B3 l3.length d3)) hM1 (p := ⟨w.heap.size + 1, 0, none⟩) lez (.int .i64 x0)) hM1 (p := ⟨w.heap.size + 1, 1, none⟩) lez (.int .i64 x1)) hM1 (p := ⟨w.heap.size + 1, 2, none⟩) lez (.int .i64 x2)) hM1 (p := ⟨w.heap.size + 1, 3, none⟩) lez (.slice B3 l3.length d3))
 obtain ⟨F, hF, hFe⟩ := makeOPiece (p := (x0, x1, x2, l3)) hi0 hi1 hi2 u3
 refine bodyPost_ret (v := .agg #[.int .i64 x0, .int .i64 x1, .int .i64 x2, .slice B3 l3.length d3]) (by simp [results, Tryz.results215, go_sem, e0, e1, e2, e3]) rfl ⟨_, F, rfl, hF, ?_, ?_⟩
 ·rw [hFe]
  exact New.lower (B := w.heap.size + 3) (by exact hM1) (by omega)
 ·exact (bel_put (bel_put (bel_put (bel_put (bel_put hB1 lez _) lez _) lez _) lez _) lez _)
theorem o_eqPiece {w : World} {cs cs' : List Value} {p : DPiece} (h : tPiece.R w w.heap.size cs p) (h' : tPiece.R w w.heap.size cs' p) :
  Calls Tryz.prog 219 #[.agg cs.toArray, .agg cs'.toArray] w fun e w' => e = .returned (.bool true) ∧ Bel w w' := by
 obtain ⟨A3, n3, c3, rfl, hi0, hi1, hi2, ha3, hb3, hl3, hr3⟩ := openPiece h
 obtain ⟨A3', n3', c3', rfl, hi0', hi1', hi2', ha3', hb3', hl3', hr3'⟩ := openPiece h'
 obtain ⟨x0, x1, x2, l3⟩ := p
 try dsimp only at *
 subst hl3
 subst hl3'
 have q0 : (x0 != x0) = false := by simp
 have q1 : (x1 != x1) = false := by simp
 have q2 : (x2 != x2) = false := by simp
 go_enter Tryz.func219, Tryz.ntmps219
 go_wp2_with fail
 refine (o_eqByteS (tBy.reach hr3 ?hB) (tBy.reach hr3' ?hB)).mono ?_
 case hB => exact (belx)
 rintro e w1 ⟨rfl, hb1⟩
 have hB1 : Bel w w1 := bel_trans (belx) hb1
 have P1 : Box w1 w.heap.size 185 #[.int .i64 x0, .int .i64 x1, .int .i64 x2, .slice A3 l3.length c3] := ((Box.new _ _ _).alloc _).below hb1 lez
 have Q1 : Box w1 (w.heap.size + 1) 185 #[.int .i64 x0, .int .i64 x1, .int .i64 x2, .slice A3' l3.length c3'] := Box.below (by simpa using Box.new (w.alloc _) 185 #[.int .i64 x0, .int .i64 x1, .int .i64 x2, .slice A3' l3.length c3']) hb1 lez
 go_wp2
 go_ret
 exact ⟨rfl, hB1⟩
end Go.Proofs.YtkdanlnhdgcplaaGreat
namespace Go.Proofs.YtkdanlnhdgcplaaGreat
set_option maxRecDepth 100000
set_option linter.unusedVariables false
set_option linter.unusedSimpArgs false
open Go.ChangeShapes Go.WideShapes Go.ChangeAt Go.RowKit
theorem o_szPieceS_t {w : World} {n c : Nat} {A : Option Addr} {l : List DPiece} {k : Int} (h : tPiece.row.R w w.heap.size [.slice A n c] l) (h1 : 0 ≤ k) (h2 : k ≤ 1048576) (h3 : (rsz szPiece l : Int) ≤ k) :
  Calls Tryz.prog 192 #[.slice A n c, .int .i64 k] w fun e w' => e = .returned (.int .i64 (k - rsz szPiece l)) ∧ Bel w w' := by
 obtain ⟨hln, hnc, hcm⟩ := rowR_len h
 obtain ⟨s, hs⟩ : ∃ s, rsum szPiece l = s := ⟨_, rfl⟩
 have hz : rsz szPiece l = n + s := by unfold rsz; rw [hln, hs]
 rw [hz] at h3 ⊢
 have HLN := Lib.hid hln
 have HS := Lib.hid hs
 clear hz hln hs
 have d : decide (k - (n : Int) < 0) = false := by simp; omega
 go_enter Tryz.func192, Tryz.ntmps192
 go_wp2_with fail
 go_loopw [1, 5] (fun x i wr => ∃ j : Nat, j ≤ n ∧ x = .int .i64 (k - n - (rsum szPiece (l.take j) : Nat)) ∧ i = .int .i64 j ∧ Bel w wr) (fun _ i _ => n - (RowKit.intOf i).toNat)
 case atStart => exact ⟨0, by omega, by rw [rsum_zero]; go_num, rfl, (belx)⟩
 case round =>
  obtain ⟨j, hj, rfl, rfl, hB⟩ := hrel
  by_cases hlt : j < n
  ·obtain ⟨a, b, off, es, hl, rfl, hb, hes, hR⟩ := rowR_at (K := 4) h hlt rfl
   have hsa := rsum_at (c := szPiece) hl
   have hsn := rsum_sn (c := szPiece) hl
   rw [HS.out] at hsa
   obtain ⟨q, hq⟩ : ∃ q, rsum szPiece (l.take j) = q := ⟨_, rfl⟩
   obtain ⟨q', hq'⟩ : ∃ q, rsum szPiece (l.take (j + 1)) = q := ⟨_, rfl⟩
   rw [hq] at hsa hsn
   rw [hq'] at hsn
   rw [hq]
   have HQ := Lib.hid hq'
   clear hq hq'
   obtain ⟨A3, n3, c3, rfl, hi0, hi1, hi2, ha3, hb3, hl3, hr3⟩ := openPiece hR
   have e0 : wr.cell? ⟨b, off + j * 4, none⟩ = some (.int .i64 (a.1)) := cell_at hB hb (hes 0 (by omega))
   have e1 : wr.cell? ⟨b, off + j * 4 + 1, none⟩ = some (.int .i64 (a.2.1)) := cell_at hB hb (hes 1 (by omega))
   have e2 : wr.cell? ⟨b, off + j * 4 + 2, none⟩ = some (.int .i64 (a.2.2.1)) := cell_at hB hb (hes 2 (by omega))
   have e3 : wr.cell? ⟨b, off + j * 4 + 3, none⟩ = some (.slice A3 n3 c3) := cell_at hB hb (hes 3 (by omega))
   clear hes
   have d2 : decide (k - (n : Int) - q - (szPiece a : Nat) < 0) = false := by simp; omega
   go_wp2_with fail
   refine (o_szPiece_t (tPiece.reach hR ?hB) (by omega) (by omega) (by omega)).mono ?_
   case hB => exact (belx)
   rintro e w1 ⟨rfl, hb1⟩
   go_wp2
   go_roundw
   case rel => exact ⟨j + 1, by omega, by rw [HQ.out]; go_num, by go_num, bel_trans hB hb1⟩
   case measure => simp [RowKit.intOf]; omega
  ·obtain rfl : j = n := by omega
   have HA := Lib.hid (show rsum szPiece (l.take j) = s from by rw [rsum_all (Nat.le_of_eq HLN.out)]; exact HS.out)
   rw [HA.out]
   go_wp2
   go_ret
   exact ⟨ret_int (by omega), hB⟩
theorem o_szPieceS_f {w : World} {n c : Nat} {A : Option Addr} {l : List DPiece} {k : Int} (h : tPiece.row.R w w.heap.size [.slice A n c] l) (h1 : 0 ≤ k) (h2 : k ≤ 1048576) (h3 : ¬ (rsz szPiece l : Int) ≤ k) :
  Calls Tryz.prog 192 #[.slice A n c, .int .i64 k] w fun e w' => e = .returned (.int .i64 (-1)) ∧ Bel w w' := by
 obtain ⟨hln, hnc, hcm⟩ := rowR_len h
 obtain ⟨s, hs⟩ : ∃ s, rsum szPiece l = s := ⟨_, rfl⟩
 have hz : rsz szPiece l = n + s := by unfold rsz; rw [hln, hs]
 rw [hz] at h3
 have HLN := Lib.hid hln
 have HS := Lib.hid hs
 clear hz hln hs
 by_cases hnk : k < (n : Int)
 ·have d : decide (k - (n : Int) < 0) = true := by simp; omega
  go_enter Tryz.func192, Tryz.ntmps192
  go_wp2
  go_ret
  exact ⟨rfl, (belx)⟩
 have d : decide (k - (n : Int) < 0) = false := by simp; omega
 go_enter Tryz.func192, Tryz.ntmps192
 go_wp2_with fail
 go_loopw [1, 5] (fun x i wr => ∃ j : Nat, j ≤ n ∧ x = .int .i64 (k - n - (rsum szPiece (l.take j) : Nat)) ∧ i = .int .i64 j ∧ Bel w wr ∧ (n : Int) + (rsum szPiece (l.take j) : Nat) ≤ k) (fun _ i _ => n - (RowKit.intOf i).toNat)
 case atStart => exact ⟨0, by omega, by rw [rsum_zero]; go_num, rfl, (belx), by rw [rsum_zero]; omega⟩
 case round =>
  obtain ⟨j, hj, rfl, rfl, hB, hv⟩ := hrel
  by_cases hlt : j < n
  ·obtain ⟨a, b, off, es, hl, rfl, hb, hes, hR⟩ := rowR_at (K := 4) h hlt rfl
   have hsa := rsum_at (c := szPiece) hl
   have hsn := rsum_sn (c := szPiece) hl
   rw [HS.out] at hsa
   obtain ⟨q, hq⟩ : ∃ q, rsum szPiece (l.take j) = q := ⟨_, rfl⟩
   obtain ⟨q', hq'⟩ : ∃ q, rsum szPiece (l.take (j + 1)) = q := ⟨_, rfl⟩
   rw [hq] at hsa hsn
   rw [hq'] at hsn
   rw [hq]
   have HQ := Lib.hid hq'
   rw [hq] at hv
   clear hq hq'
   obtain ⟨A3, n3, c3, rfl, hi0, hi1, hi2, ha3, hb3, hl3, hr3⟩ := openPiece hR
   have e0 : wr.cell? ⟨b, off + j * 4, none⟩ = some (.int .i64 (a.1)) := cell_at hB hb (hes 0 (by omega))
   have e1 : wr.cell? ⟨b, off + j * 4 + 1, none⟩ = some (.int .i64 (a.2.1)) := cell_at hB hb (hes 1 (by omega))
   have e2 : wr.cell? ⟨b, off + j * 4 + 2, none⟩ = some (.int .i64 (a.2.2.1)) := cell_at hB hb (hes 2 (by omega))
   have e3 : wr.cell? ⟨b, off + j * 4 + 3, none⟩ = some (.slice A3 n3 c3) := cell_at hB hb (hes 3 (by omega))
   clear hes
   by_cases hg : (n : Int) + q + (szPiece a : Nat) ≤ k
   ·have d2 : decide (k - (n : Int) - q - (szPiece a : Nat) < 0) = false := by simp; omega
    go_wp2_with fail
    refine (o_szPiece_t (tPiece.reach hR ?hB) (by omega) (by omega) (by omega)).mono ?_
    case hB => exact (belx)
    rintro e w1 ⟨rfl, hb1⟩
    go_wp2
    go_roundw
    case rel => exact ⟨j + 1, by omega, by rw [HQ.out]; go_num, by go_num, bel_trans hB hb1, by rw [HQ.out]; omega⟩
    case measure => simp [RowKit.intOf]; omega
   ·go_wp2_with fail
    refine (o_szPiece_f (tPiece.reach hR ?hB) (by omega) (by omega) (by omega)).mono ?_
    case hB => exact (belx)
    rintro e w1 ⟨rfl, hb1⟩
    go_wp2
    go_ret
    exact ⟨rfl, bel_trans hB hb1⟩
  ·obtain rfl : j = n := by omega
   have HA := Lib.hid (show rsum szPiece (l.take j) = s from by rw [rsum_all (Nat.le_of_eq HLN.out)]; exact HS.out)
   rw [HA.out] at hv
   exact absurd hv (by omega)
theorem info_Piece : (Tryz.prog.info? 185).map (fun i => (i.zero, i.size, i.bytes)) = some (some (.agg #[.int .i64 0, .int .i64 0, .int .i64 0, .slice none 0 0]), 4, 48) := by kernel_rfl
set_option maxHeartbeats 800000 in
theorem o_toPieceS {w : World} {n c : Nat} {A : Option Addr} {l : List DPiece} (h : tPiece.row.R w w.heap.size [.slice A n c] l) (hz : rsz szPiece l ≤ 1048576) :
  Calls Tryz.prog 193 #[.slice A n c] w fun e w' => ∃ A' c' F, e = .returned (.slice A' l.length c') ∧ tPiece.row.O w' [.slice A' l.length c'] l F ∧ New w.heap.size F ∧ Bel w w' := by
 obtain ⟨i0, hi0, hz0, hz1, hz2⟩ := info_parts info_Piece
 obtain ⟨hln, hnc, hcm⟩ := rowR_len h
 have hn : n ≤ 1048576 := by have := rsz_le (s := szPiece) l; omega
 have HLN := Lib.hid hln
 have HZ := Lib.hid hz
 clear hln hz
 go_enter Tryz.func193, Tryz.ntmps193
 go_wp2_with (at_make; refine wpList_mkS _ rfl (.tmp 6) (.tmp 6) _ rfl 185 i0 _ 4 Tryz.underlying175 hi0 hz0 hz1 n rfl rfl (by rw [hz2]; omega) (by simp only [maxLen]; omega) ?_; intro w1 cur hcur hsz hB1 hgr)
 go_loopw [4] (fun i wr => ∃ j : Nat, j ≤ n ∧ i = .int .i64 j ∧ Bel w wr ∧ ∃ F, Fill tPiece wr w.heap.size 185 n (l.take j) F ∧ New (w.heap.size + 1) F) (fun i _ => n - (RowKit.intOf i).toNat)
 case atStart => exact ⟨0, by omega, rfl, hB1, [], Fill.start hcur hsz, New.nil _⟩
 case round =>
  obtain ⟨j, hj, rfl, hB, F, hf, hN⟩ := hrel
  by_cases hlt : j < n
  ·obtain ⟨a, b, off, es, hl, rfl, hb, hes, hR⟩ := rowR_at (K := 4) h hlt rfl
   have HT := Lib.hid (take_sn hl)
   have HLT := Lib.hid (show (l.take j).length = j from by rw [List.length_take, HLN.out]; omega)
   have hsa : szPiece a ≤ 1048576 := by have := rsz_step (s := szPiece) hl; have := HZ.out; omega
   obtain ⟨A3, n3, c3, rfl, hi0, hi1, hi2, ha3, hb3, hl3, hr3⟩ := openPiece hR
   subst hl3
   have e0 : wr.cell? ⟨b, off + j * 4, none⟩ = some (.int .i64 (a.1)) := cell_at hB hb (hes 0 (by omega))
   have e1 : wr.cell? ⟨b, off + j * 4 + 1, none⟩ = some (.int .i64 (a.2.1)) := cell_at hB hb (hes 1 (by omega))
   have e2 : wr.cell? ⟨b, off + j * 4 + 2, none⟩ = some (.int .i64 (a.2.2.1)) := cell_at hB hb (hes 2 (by omega))
   have e3 : wr.cell? ⟨b, off + j * 4 + 3, none⟩ = some (.slice A3 (a.2.2.2).length c3) := cell_at hB hb (hes 3 (by omega))
   clear hes
   have hgs := hf.size
   go_wp2_with fail
   refine (o_toPiece (tPiece.reach hR ?hB) hsa).mono ?_
   case hB => exact (belx)
   rintro e w2 ⟨cs2, F2, rfl, hO2, hN2, hb2⟩
   obtain ⟨B3, d3, G3, rfl, hFe, _, _, _, _, _, _⟩ := openOPiece hO2
   clear hFe
   have hf2 := hf.below hb2
   have hsz2 := hb2.size
   have hP := Fill.push (K := 4) hf2 (by rw [HLT.out]; exact hlt) hO2 (hN.not (by omega)) (hN2.not hgs) rfl
   rw [HLT.out, ← HT.out] at hP
   have hM : New (w.heap.size + 1) (F ++ F2) := New.app hN hN2 (by omega) hf.lt
   obtain ⟨u0, k0⟩ := hf2.cell (K := 4) (j := 0) (by rw [HLT.out]; exact hlt) rfl (by omega)
   rw [HLT.out] at k0
   replace k0 : w2.cell? ⟨w.heap.size, j * 4, none⟩ = some u0 := k0
   have f0 := hf2.frozen (j * 4)
   obtain ⟨u1, k1⟩ := hf2.cell (K := 4) (j := 1) (by rw [HLT.out]; exact hlt) rfl (by omega)
   rw [HLT.out] at k1
   replace k1 : w2.cell? ⟨w.heap.size, j * 4 + 1, none⟩ = some u1 := k1
   have f1 := hf2.frozen (j * 4 + 1)
   obtain ⟨u2, k2⟩ := hf2.cell (K := 4) (j := 2) (by rw [HLT.out]; exact hlt) rfl (by omega)
   rw [HLT.out] at k2
   replace k2 : w2.cell? ⟨w.heap.size, j * 4 + 2, none⟩ = some u2 := k2
   have f2 := hf2.frozen (j * 4 + 2)
   obtain ⟨u3, k3⟩ := hf2.cell (K := 4) (j := 3) (by rw [HLT.out]; exact hlt) rfl (by omega)
   rw [HLT.out] at k3
   replace k3 : w2.cell? ⟨w.heap.size, j * 4 + 3, none⟩ = some u3 := k3
   have f3 := hf2.frozen (j * 4 + 3)
   go_wp2
   go_roundw
   case rel => exact ⟨j + 1, by omega, by go_num, below_puts (bel_trans hB hb2) (Nat.le_refl _) (off := j * 4) (vs := [.int .i64 (a.1), .int .i64 (a.2.1), .int .i64 (a.2.2.1), .slice B3 (a.2.2.2).length d3]), _, hP, hM⟩
   case measure => simp [RowKit.intOf]; omega
  ·obtain rfl : j = n := by omega
   have HA := Lib.hid (show l.take j = l from by rw [List.take_of_length_le (Nat.le_of_eq HLN.out)])
   rw [HA.out] at hf
   obtain ⟨F2, hF2, hor⟩ := hf.done HLN.out (by omega)
   have HN := Lib.hid HLN.out
   go_wp2
   go_ret
   refine ⟨some ⟨w.heap.size, 0, none⟩, j, F2, ?_, hF2, hN.cons hor, hB⟩
   rw [HN.out]
   rfl
set_option maxHeartbeats 800000 in
theorem o_eqPieceS {w : World} {n m c d : Nat} {A A' : Option Addr} {l : List DPiece} (h : tPiece.row.R w w.heap.size [.slice A n c] l) (h' : tPiece.row.R w w.heap.size [.slice A' m d] l) :
  Calls Tryz.prog 207 #[.slice A n c, .slice A' m d] w fun e w' => e = .returned (.bool true) ∧ Bel w w' := by
 obtain ⟨hln, hnc, hcm⟩ := rowR_len h
 obtain ⟨hln', hnc', hcm'⟩ := rowR_len h'
 obtain rfl : m = n := by omega
 have HLN := Lib.hid hln
 clear hln hln'
 go_enter Tryz.func207, Tryz.ntmps207
 go_wp2_with fail
 go_loopw [5] (fun i wr => ∃ j : Nat, j ≤ m ∧ i = .int .i64 j ∧ Bel w wr) (fun i _ => m - (RowKit.intOf i).toNat)
 case atStart => exact ⟨0, by omega, rfl, (belx)⟩
 case round =>
  obtain ⟨j, hj, rfl, hB⟩ := hrel
  by_cases hlt : j < m
  ·obtain ⟨a, b, off, es, hl, rfl, hb, hes, hR⟩ := rowR_at (K := 4) h hlt rfl
   obtain ⟨a', b', off', es', hl', rfl, hb', hes', hR'⟩ := rowR_at (K := 4) h' hlt rfl
   obtain rfl : a = a' := by rw [hl] at hl'; exact Option.some.inj hl'
   clear hl hl'
   obtain ⟨A3, n3, c3, rfl, hi0, hi1, hi2, ha3, hb3, hl3, hr3⟩ := openPiece hR
   obtain ⟨A3', n3', c3', rfl, hi0', hi1', hi2', ha3', hb3', hl3', hr3'⟩ := openPiece hR'
   subst hl3
   subst hl3'
   have e0 : wr.cell? ⟨b, off + j * 4, none⟩ = some (.int .i64 (a.1)) := cell_at hB hb (hes 0 (by omega))
   have e1 : wr.cell? ⟨b, off + j * 4 + 1, none⟩ = some (.int .i64 (a.2.1)) := cell_at hB hb (hes 1 (by omega))
   have e2 : wr.cell? ⟨b, off + j * 4 + 2, none⟩ = some (.int .i64 (a.2.2.1)) := cell_at hB hb (hes 2 (by omega))
   have e3 : wr.cell? ⟨b, off + j * 4 + 3, none⟩ = some (.slice A3 (a.2.2.2).length c3) := cell_at hB hb (hes 3 (by omega))
   have e0' : wr.cell? ⟨b', off' + j * 4, none⟩ = some (.int .i64 (a.1)) := cell_at hB hb' (hes' 0 (by omega))
   have e1' : wr.cell? ⟨b', off' + j * 4 + 1, none⟩ = some (.int .i64 (a.2.1)) := cell_at hB hb' (hes' 1 (by omega))
   have e2' : wr.cell? ⟨b', off' + j * 4 + 2, none⟩ = some (.int .i64 (a.2.2.1)) := cell_at hB hb' (hes' 2 (by omega))
   have e3' : wr.cell? ⟨b', off' + j * 4 + 3, none⟩ = some (.slice A3' (a.2.2.2).length c3') := cell_at hB hb' (hes' 3 (by omega))
   clear hes hes'
   go_wp2_with fail
   go_region_held3 (fun w' => w'.cell? ⟨b, off + j * 4, none⟩ = some (.int .i64 (a.1)) ∧ w'.cell? ⟨b, off + j * 4 + 1, none⟩ = some (.int .i64 (a.2.1)) ∧ w'.cell? ⟨b, off + j * 4 + 2, none⟩ = some (.int .i64 (a.2.2.1)) ∧ w'.cell? ⟨b, off + j * 4 + 3, none⟩ = some (.slice A3 (a.2.2.2).length c3) ∧ w'.cell? ⟨b', off' + j * 4, none⟩ = some (.int .i64 (a.1)) ∧ w'.cell? ⟨b', off' + j * 4 + 1, none⟩ = some (.int .i64 (a.2.1)) ∧ w'.cell? ⟨b', off' + j * 4 + 2, none⟩ = some (.int .i64 (a.2.2.1)) ∧ w'.cell? ⟨b', off' + j * 4 + 3, none⟩ = some (.slice A3' (a.2.2.2).length c3')) (first | (exact ⟨e0, e1, e2, e3, e0', e1', e2', e3'⟩) | (exact ⟨cell_bel hs2 e0, cell_bel hs2 e1, cell_bel hs2 e2, cell_bel hs2 e3, cell_bel hs2 e0', cell_bel hs2 e1', cell_bel hs2 e2', cell_bel hs2 e3'⟩) | go_keep)
    ((go_at_call 219; refine (o_eqPiece (tPiece.reach hR (belx)) (tPiece.reach hR' (belx))).mono ?_; rintro e w2 ⟨rfl, hb2⟩; have hs2 : Bel wr w2 := bel_trans (belx) hb2))
   go_wp2
   go_roundw
   case rel => exact ⟨j + 1, by omega, by go_num, bel_trans hB hs2⟩
   case measure => simp [RowKit.intOf]; omega
  ·obtain rfl : j = m := by omega
   go_wp2
   go_ret
   exact ⟨rfl, hB⟩
set_option maxHeartbeats 1000000 in
theorem o_markPieceS {w : World} {n c : Nat} {A : Option Addr} {l : List DPiece} {F : List Nat} (k : Int) (h : tPiece.row.O w [.slice A n c] l F) (hF : F.Nodup) (h0 : 0 ≤ k) (hk : k + rsum rcPiece l ≤ 4611686018427387904) :
  Calls Tryz.prog 119 #[.slice A n c, .int .i64 k] w fun e w' => e = .returned (.int .i64 (k + rsum rcPiece l)) ∧ tPiece.row.O w' [.slice A n c] (rmk rcPiece rmPiece k l) F ∧ Only F w w' := by
 obtain ⟨_, _, hsh, hnc, hcm⟩ := rowO_shape h
 have hln : l.length = n := by injection hsh with _ e2 _; exact e2.symm
 have hnc2 : n ≤ 9223372036854775807 := by omega
 clear hsh hnc hcm
 obtain ⟨s, hs⟩ : ∃ s, rsum rcPiece l = s := ⟨_, rfl⟩
 rw [hs] at hk ⊢
 have HLN := Lib.hid hln
 have HS := Lib.hid hs
 clear hln hs
 go_enter Tryz.func119, Tryz.ntmps119
 go_wp2
 go_loopw [1, 5] (fun x i wr => ∃ j : Nat, j ≤ n ∧ x = .int .i64 (k + (rsum rcPiece (l.take j) : Nat)) ∧ i = .int .i64 j ∧ tPiece.row.O wr [.slice A n c] (rpart rcPiece rmPiece k l j) F ∧ Only F w wr) (fun _ i _ => n - (RowKit.intOf i).toNat)
 case atStart => exact ⟨0, by omega, by rw [rsum_zero]; go_num, rfl, by rw [rpart_zero]; exact h, Only.refl _ _⟩
 case round =>
  obtain ⟨j, hj, rfl, rfl, hO, hG⟩ := hrel
  by_cases hlt : j < n
  ·obtain ⟨a, hl⟩ : ∃ a, l[j]? = some a := ⟨_, List.getElem?_eq_getElem (by rw [HLN.out]; exact hlt)⟩
   have HP := Lib.hid (rpart_set (c := rcPiece) (m := rmPiece) (k := k) hl)
   have hat := rpart_at (c := rcPiece) (m := rmPiece) (k := k) hl
   have hsa := rsum_at (c := rcPiece) hl
   have hsn := rsum_sn (c := rcPiece) hl
   rw [HS.out] at hsa
   obtain ⟨q, hq⟩ : ∃ q, rsum rcPiece (l.take j) = q := ⟨_, rfl⟩
   obtain ⟨q', hq'⟩ : ∃ q, rsum rcPiece (l.take (j + 1)) = q := ⟨_, rfl⟩
   rw [hq] at hsa hsn
   rw [hq'] at hsn
   rw [hq]
   have HQ := Lib.hid hq'
   have HQ2 := Lib.hid hq
   clear hq hq'
   dsimp only [rcPiece] at hsa hsn
   obtain ⟨g, off, cur, et, es, Fi, rfl, hcur, hes, hOe, hgF, hgi, hFi, hnd, hback⟩ := rowO_at (K := 4) hO hF hat rfl
   obtain ⟨A3, c3, F3, rfl, hFe, hi0, hi1, hi2, ha3, hb3, hr3⟩ := openOPiece hOe
   subst Fi
   obtain ⟨x0, x1, x2, l3⟩ := a
   dsimp only at *
   have e0 : wr.cell? ⟨g, off + j * 4, none⟩ = some (.int .i64 x0) := by rw [Box.cell (t := et) hcur]; exact hes 0 (by omega)
   have f0 : wr.frozen? ⟨g, off + j * 4, none⟩ = false := Box.frozen (t := et) hcur _
   have e1 : wr.cell? ⟨g, off + j * 4 + 1, none⟩ = some (.int .i64 x1) := by rw [Box.cell (t := et) hcur]; exact hes 1 (by omega)
   have f1 : wr.frozen? ⟨g, off + j * 4 + 1, none⟩ = false := Box.frozen (t := et) hcur _
   have e2 : wr.cell? ⟨g, off + j * 4 + 2, none⟩ = some (.int .i64 x2) := by rw [Box.cell (t := et) hcur]; exact hes 2 (by omega)
   have f2 : wr.frozen? ⟨g, off + j * 4 + 2, none⟩ = false := Box.frozen (t := et) hcur _
   have e3 : wr.cell? ⟨g, off + j * 4 + 3, none⟩ = some (.slice A3 l3.length c3) := by rw [Box.cell (t := et) hcur]; exact hes 3 (by omega)
   have f3 : wr.frozen? ⟨g, off + j * 4 + 3, none⟩ = false := Box.frozen (t := et) hcur _
   obtain ⟨cur1, hX0, hcs, hun, hval⟩ := puts_heap (off := off + j * 4) (vs := [.int .i64 (k + (q : Int)), .int .i64 (k + (q : Int) + 1), .int .i64 (k + (q : Int) + 1 + 1)]) hcur
   dsimp only [List.length_cons, List.length_nil] at hun hval
   have hcz : ∀ i, i < 4 → off + j * 4 + i < cur.size := fun i hi => by
    by_cases hh : off + j * 4 + i < cur.size
    ·exact hh
    ·have := hes i hi; rw [Array.getElem?_eq_none (by omega)] at this; rcases (by omega : i = 0 ∨ i = 1 ∨ i = 2 ∨ i = 3) with rfl | rfl | rfl | rfl <;> simp at this
   have hgz : g < (puts wr g (off + j * 4) [.int .i64 (k + (q : Int)), .int .i64 (k + (q : Int) + 1), .int .i64 (k + (q : Int) + 1 + 1)]).heap.size := by rw [size_puts]; exact Box.size (t := et) hcur
   have OG0 : Only F w (puts wr g (off + j * 4) [.int .i64 (k + (q : Int)), .int .i64 (k + (q : Int) + 1), .int .i64 (k + (q : Int) + 1 + 1)]) := only_puts hG hgF
   have hk0 : ∀ f, f ≠ g → (puts wr g (off + j * 4) [.int .i64 (k + (q : Int)), .int .i64 (k + (q : Int) + 1), .int .i64 (k + (q : Int) + 1 + 1)]).heap[f]? = wr.heap[f]? := fun f hf => puts_far hf
   have hzz : (puts wr g (off + j * 4) [.int .i64 (k + (q : Int)), .int .i64 (k + (q : Int) + 1), .int .i64 (k + (q : Int) + 1 + 1)]).heap.size = wr.heap.size := size_puts
   have y3 : ∀ f ∈ F3, f < wr.heap.size ∧ f ≠ g := fun f hf => ⟨(tBy).lt hr3 f hf, fun e => hgi (by rw [← e]; simp [hf])⟩
   replace hr3 := (tBy).kept (w' := puts wr g (off + j * 4) [.int .i64 (k + (q : Int)), .int .i64 (k + (q : Int) + 1), .int .i64 (k + (q : Int) + 1 + 1)]) hr3 (fun f hf => hk0 f (y3 f hf).2)
   have nd3 : F3.Nodup := hnd
   obtain ⟨W0, hW0⟩ : ∃ W0, puts wr g (off + j * 4) [.int .i64 (k + (q : Int)), .int .i64 (k + (q : Int) + 1), .int .i64 (k + (q : Int) + 1 + 1)] = W0 := ⟨_, rfl⟩
   rw [hW0] at hX0 hgz OG0 hk0 hzz hr3
   have Z0 : wr.heap.size ≤ W0.heap.size := Nat.le_of_eq hzz.symm
   have hX : W0.heap[g]? = some (.cells cur1 et (0, 0)) := hX0
   go_wp2_with fail
   have hWe : (((wr.setCell ⟨g, off + j * 4, none⟩ (.int .i64 (k + (q : Int)))).setCell ⟨g, off + j * 4 + 1, none⟩ (.int .i64 (k + (q : Int) + 1))).setCell ⟨g, off + j * 4 + 2, none⟩ (.int .i64 (k + (q : Int) + 1 + 1))) = W0 := hW0
   rw [hWe]
   refine (o_markByteS (k + (q : Int) + 1 + 1 + 1) hr3 (by omega) (by omega)).mono ?_
   rintro e W1 ⟨rfl, hO3, hG3⟩
   have OG1 : Only F w W1 := OG0.trans (hG3.mono (fun f hf => hFi f (by simp [hf])))
   have Z1 : wr.heap.size ≤ W1.heap.size := Nat.le_trans Z0 hG3.size
   have hgz : g < W1.heap.size := Nat.lt_of_lt_of_le hgz hG3.size
   replace hX : W1.heap[g]? = some (.cells cur1 et (0, 0)) := (hG3.block g (by omega) (fun e => (y3 g e).2 rfl)).trans hX
   replace hr3 := hO3
   have wf0 : (Lit.int .i64 (k + (q : Int))).wf = true := WalkArith.wf_i64 (by omega)
   have wf1 : (Lit.int .i64 (k + (q : Int) + 1)).wf = true := WalkArith.wf_i64 (by omega)
   have wf2 : (Lit.int .i64 (k + (q : Int) + 1 + 1)).wf = true := WalkArith.wf_i64 (by omega)
   obtain ⟨F2, hF2, hF2e⟩ := makeOPiece (w := W1) (p := rmPiece (k + (q : Int)) (x0, x1, x2, l3)) wf0 wf1 wf2 hr3
   subst hF2e
   have hfin := hback W1 cur1 [.int .i64 (k + (q : Int)), .int .i64 (k + (q : Int) + 1), .int .i64 (k + (q : Int) + 1 + 1), .slice A3 l3.length c3] (rmPiece (k + (q : Int)) (x0, x1, x2, l3)) hX (by
    intro i hi
    rcases (by omega : i = 0 ∨ i = 1 ∨ i = 2 ∨ i = 3) with rfl | rfl | rfl | rfl
    ·exact hval 0 (by omega) (hcz 0 (by omega))
    ·exact hval 1 (by omega) (hcz 1 (by omega))
    ·exact hval 2 (by omega) (hcz 2 (by omega))
    ·rw [hun _ (by omega)]; exact hes 3 (by omega)) (by
    intro q2 hq2
    refine hun q2 ?_
    rcases Nat.lt_or_ge q2 (off + j * 4) with h1 | h1
    ·exact .inl h1
    ·rcases Nat.lt_or_ge q2 (off + j * 4 + 4) with h2 | h2
     ·exact absurd (by omega) (hq2 (q2 - (off + j * 4)) (by omega))
     ·exact .inr (by omega)) hF2 (by
    intro f hf h1 h2
    skip
    have hfz : f < wr.heap.size := (tPiece.row).lt hO f hf
    exact ((hG3.block f (by omega) h2).trans (hk0 f h1)))
   have HPq := HP.out
   rw [HQ2.out] at HPq
   rw [HPq] at hfin
   clear HPq
   go_wp2
   go_roundw
   case rel => exact ⟨j + 1, by omega, by rw [HQ.out]; go_num, by go_num, hfin, OG1⟩
   case measure => simp [RowKit.intOf]; omega
  ·obtain rfl : j = n := by omega
   have HA := Lib.hid (show rsum rcPiece (l.take j) = s from by rw [rsum_all (Nat.le_of_eq HLN.out)]; exact HS.out)
   rw [HA.out]
   rw [rpart_all (Nat.le_of_eq HLN.out)] at hO
   go_wp2
   go_ret
   exact ⟨rfl, hO, hG⟩
set_option maxHeartbeats 1000000 in
theorem o_heldPieceS {w : World} {n c : Nat} {A : Option Addr} {l : List DPiece} (k : Int) (h : tPiece.row.R w w.heap.size [.slice A n c] (rmk rcPiece rmPiece k l)) (h0 : 0 ≤ k) (hk : k + rsum rcPiece l ≤ 4611686018427387904) :
  Calls Tryz.prog 120 #[.slice A n c, .int .i64 k] w fun e w' => e = .returned (.int .i64 (k + rsum rcPiece l)) ∧ Bel w w' := by
 obtain ⟨hln, hnc, hcm⟩ := rowR_len h
 rw [rmk_len] at hln
 obtain ⟨s, hs⟩ : ∃ s, rsum rcPiece l = s := ⟨_, rfl⟩
 rw [hs] at hk ⊢
 have HLN := Lib.hid hln
 have HS := Lib.hid hs
 clear hln hs
 go_enter Tryz.func120, Tryz.ntmps120
 go_wp2
 go_loopw [1, 5] (fun x i wr => ∃ j : Nat, j ≤ n ∧ x = .int .i64 (k + (rsum rcPiece (l.take j) : Nat)) ∧ i = .int .i64 j ∧ Bel w wr) (fun _ i _ => n - (RowKit.intOf i).toNat)
 case atStart => exact ⟨0, by omega, by rw [rsum_zero]; go_num, rfl, (belx)⟩
 case round =>
  obtain ⟨j, hj, rfl, rfl, hB⟩ := hrel
  by_cases hlt : j < n
  ·obtain ⟨a, hl⟩ : ∃ a, l[j]? = some a := ⟨_, List.getElem?_eq_getElem (by rw [HLN.out]; exact hlt)⟩
   obtain ⟨a2, b, off, es, hl2, rfl, hb, hes, hR⟩ := rowR_at (K := 4) h hlt rfl
   have hat := rmk_at (c := rcPiece) (m := rmPiece) (k := k) hl
   obtain rfl : _ = a2 := Option.some.inj (hat.symm.trans hl2)
   clear hl2 hat
   have hsa := rsum_at (c := rcPiece) hl
   have hsn := rsum_sn (c := rcPiece) hl
   rw [HS.out] at hsa
   obtain ⟨q, hq⟩ : ∃ q, rsum rcPiece (l.take j) = q := ⟨_, rfl⟩
   obtain ⟨q', hq'⟩ : ∃ q, rsum rcPiece (l.take (j + 1)) = q := ⟨_, rfl⟩
   rw [hq] at hsa hsn
   rw [hq'] at hsn
   rw [hq] at hR ⊢
   have HQ := Lib.hid hq'
   clear hq hq'
   dsimp only [rcPiece] at hsa hsn
   obtain ⟨A3, n3, c3, rfl, hi0, hi1, hi2, ha3, hb3, hl3, hr3⟩ := openPiece hR
   obtain ⟨x0, x1, x2, l3⟩ := a
   dsimp only [rmPiece] at *
   have q0 : ((k + (q : Int) : Int) != k + (q : Int)) = false := by simp
   have q1 : ((k + (q : Int) + 1 : Int) != k + (q : Int) + 1) = false := by simp
   have q2 : ((k + (q : Int) + 1 + 1 : Int) != k + (q : Int) + 1 + 1) = false := by simp
   have e0 : wr.cell? ⟨b, off + j * 4, none⟩ = some (.int .i64 (k + (q : Int))) := cell_at hB hb (hes 0 (by omega))
   have e1 : wr.cell? ⟨b, off + j * 4 + 1, none⟩ = some (.int .i64 (k + (q : Int) + 1)) := cell_at hB hb (hes 1 (by omega))
   have e2 : wr.cell? ⟨b, off + j * 4 + 2, none⟩ = some (.int .i64 (k + (q : Int) + 1 + 1)) := cell_at hB hb (hes 2 (by omega))
   have e3 : wr.cell? ⟨b, off + j * 4 + 3, none⟩ = some (.slice A3 n3 c3) := cell_at hB hb (hes 3 (by omega))
   have d0 : decide (k + (q : Int) + 1 + 1 + 1 + ((l3.length : Nat) : Int) < 0) = false := by simp; omega
   go_wp2_with fail
   refine (o_heldByteS (k + (q : Int) + 1 + 1 + 1) ((tBy).reach hr3 ?hB) (by omega) (by omega)).mono ?_
   case hB => exact (belx)
   rintro e w1 ⟨rfl, hb1⟩
   have hB1 : Bel w w1 := bel_trans hB hb1
   have e3_1 : w1.cell? ⟨b, off + j * 4 + 3, none⟩ = some (.slice A3 n3 c3) := cell_at hB1 hb (hes 3 (by omega))
   go_wp2
   go_roundw
   case rel => exact ⟨j + 1, by omega, by rw [HQ.out]; go_num, by go_num, hB1⟩
   case measure => simp [RowKit.intOf]; omega
  ·obtain rfl : j = n := by omega
   have HA := Lib.hid (show rsum rcPiece (l.take j) = s from by rw [rsum_all (Nat.le_of_eq HLN.out)]; exact HS.out)
   rw [HA.out]
   go_wp2
   go_ret
   exact ⟨rfl, hB⟩
end Go.Proofs.YtkdanlnhdgcplaaGreat
namespace Go.Proofs.YtkdanlnhdgcplaaGreat
set_option maxRecDepth 100000
set_option linter.unusedVariables false
set_option linter.unusedSimpArgs false
open Go.ChangeShapes Go.WideShapes Go.ChangeAt Go.RowKit
theorem o_szWhole_t {w : World} {cs : List Value} {p : DWhole} {k : Int} (h : tWhole.R w w.heap.size cs p) (h1 : 0 ≤ k) (h2 : k ≤ 1048576) (h3 : (szWhole p : Int) ≤ k) :
  Calls Tryz.prog 158 #[.agg cs.toArray, .int .i64 k] w fun e w' => e = .returned (.int .i64 (k - szWhole p)) ∧ Bel w w' := by
 obtain ⟨A3, n3, c3, rfl, hi0, hi1, hi2, ha3, hb3, hl3, hr3⟩ := openWhole h
 obtain ⟨x0, x1, x2, r3⟩ := p
 try dsimp only [szWhole] at *
 subst hl3
 have d0 : decide (k - ((rsz szPiece r3 : Nat) : Int) < 0) = false := by simp; omega
 go_enter Tryz.func158, Tryz.ntmps158
 go_wp2_with fail
 refine (o_szPieceS_t (tPiece.row.reach hr3 ?hB) (by omega) (by omega) (by omega)).mono ?_
 case hB => exact (belx)
 rintro e w1 ⟨rfl, hb1⟩
 have hB1 : Bel w w1 := bel_trans (belx) hb1
 have P1 : Box w1 w.heap.size 216 #[.int .i64 x0, .int .i64 x1, .int .i64 x2, .slice A3 r3.length c3] := (Box.new _ _ _).below hb1 lez
 go_wp2
 go_ret
 exact ⟨ret_int (by omega), hB1⟩
theorem o_szWhole_f {w : World} {cs : List Value} {p : DWhole} {k : Int} (h : tWhole.R w w.heap.size cs p) (h1 : 0 ≤ k) (h2 : k ≤ 1048576) (h3 : ¬ (szWhole p : Int) ≤ k) :
  Calls Tryz.prog 158 #[.agg cs.toArray, .int .i64 k] w fun e w' => e = .returned (.int .i64 (-1)) ∧ Bel w w' := by
 obtain ⟨A3, n3, c3, rfl, hi0, hi1, hi2, ha3, hb3, hl3, hr3⟩ := openWhole h
 obtain ⟨x0, x1, x2, r3⟩ := p
 try dsimp only [szWhole] at *
 subst hl3
 go_enter Tryz.func158, Tryz.ntmps158
 go_wp2_with fail
 refine (o_szPieceS_f (tPiece.row.reach hr3 ?hB) (by omega) (by omega) (by omega)).mono ?_
 case hB => exact (belx)
 rintro e w1 ⟨rfl, hb1⟩
 have hB1 : Bel w w1 := bel_trans (belx) hb1
 have P1 : Box w1 w.heap.size 216 #[.int .i64 x0, .int .i64 x1, .int .i64 x2, .slice A3 r3.length c3] := (Box.new _ _ _).below hb1 lez
 go_wp2
 go_ret
 exact ⟨rfl, hB1⟩
set_option maxHeartbeats 400000 in
theorem o_toWhole {w : World} {cs : List Value} {p : DWhole} (h : tWhole.R w w.heap.size cs p) (hn : szWhole p ≤ 1048576) :
  Calls Tryz.prog 160 #[.agg cs.toArray] w fun e w' => ∃ cs' F, e = .returned (.agg cs'.toArray) ∧ tWhole.O w' cs' p F ∧ New w.heap.size F ∧ Bel w w' := by
 obtain ⟨A3, n3, c3, rfl, hi0, hi1, hi2, ha3, hb3, hl3, hr3⟩ := openWhole h
 obtain ⟨x0, x1, x2, r3⟩ := p
 try dsimp only [szWhole] at *
 subst hl3
 go_enter Tryz.func160, Tryz.ntmps160
 go_wp2_with fail
 refine (o_toPieceS (tPiece.row.reach hr3 ?hB) (by omega)).mono ?_
 case hB => exact (belx)
 rintro e w1 ⟨B3, d3, F3, rfl, o3, hN1, hb1⟩
 have z1 : w.heap.size + 3 ≤ w1.heap.size := by have := hb1.size; simpa using this
 have hB1 : Bel w w1 := bel_trans (belx) hb1
 have R1 : Box w1 (w.heap.size + 1) 177 #[.int .i64 0, .int .i64 0, .int .i64 0, .slice none 0 0] := Box.below (Box.alloc (by simpa using Box.new (w.alloc _) 177 #[.int .i64 0, .int .i64 0, .int .i64 0, .slice none 0 0]) _) hb1 lez
 have L1 : Box w1 (w.heap.size + 1 + 1) 177 #[.int .i64 x0, .int .i64 x1, .int .i64 x2, .slice none 0 0] := Box.below (by simpa using Box.new ((w.alloc _).alloc _) 177 #[.int .i64 x0, .int .i64 x1, .int .i64 x2, .slice none 0 0]) hb1 lez
 have P1 : Box w1 w.heap.size 216 #[.int .i64 x0, .int .i64 x1, .int .i64 x2, .slice A3 r3.length c3] := Box.below (((Box.new w 216 #[.int .i64 x0, .int .i64 x1, .int .i64 x2, .slice A3 r3.length c3]).alloc _).alloc _) hb1 lez
 have hM1 : New (w.heap.size + 3) (F3) := hN1.lower (by simp)
 clear hN1
 have y1 : ∀ f ∈ F3, f < w1.heap.size := by intro f hf; exact tPiece.row.lt o3 f hf
 have kr1_0 := R1.cell 0; have fr1_0 := R1.frozen 0; have kl1_0 := L1.cell 0; have fl1_0 := L1.frozen 0; have kp1_0 := P1.cell 0
 have kr1_1 := R1.cell 1; have fr1_1 := R1.frozen 1; have kl1_1 := L1.cell 1; have fl1_1 := L1.frozen 1; have kp1_1 := P1.cell 1
 have kr1_2 := R1.cell 2; have fr1_2 := R1.frozen 2; have kl1_2 := L1.cell 2; have fl1_2 := L1.frozen 2; have kp1_2 := P1.cell 2
 have kr1_3 := R1.cell 3; have fr1_3 := R1.frozen 3; have kl1_3 := L1.cell 3; have fl1_3 := L1.frozen 3; have kp1_3 := P1.cell 3
 go_wp2
 have RR := (((((R1.far (p := ⟨w.heap.size + 1 + 1, 3, none⟩) lez (.slice B3 r3.length d3)).put 0 (.int .i64 x0)).put 1 (.int .i64 x1)).put 2 (.int .i64 x2)).put 3 (.slice B3 r3.length d3))
 have e0 := RR.cell 0
 have e1 := RR.cell 1
 have e2 := RR.cell 2
 have e3 := RR.cell 3
 have u3 := (Ty.far (t := tPiece.row) (Ty.far (t := tPiece.row) (Ty.far (t := tPiece.row) (Ty.far (t := tPiece.row) (Ty.far (t := tPiece.row) o3 hM1 (p := ⟨w.heap.size + 1 + 1, 3, none⟩) lez (.slice B3 r3.length d3)) hM1 (p := ⟨w.heap.size + 1, 0, none⟩) lez (.int .i64 x0)) hM1 (p := ⟨w.heap.size + 1, 1, none⟩) lez (.int .i64 x1)) hM1 (p := ⟨w.heap.size + 1, 2, none⟩) lez (.int .i64 x2)) hM1 (p := ⟨w.heap.size + 1, 3, none⟩) lez (.slice B3 r3.length d3))
 obtain ⟨F, hF, hFe⟩ := makeOWhole (p := (x0, x1, x2, r3)) hi0 hi1 hi2 u3
 refine bodyPost_ret (v := .agg #[.int .i64 x0, .int .i64 x1, .int .i64 x2, .slice B3 r3.length d3]) (by simp [results, Tryz.results160, go_sem, e0, e1, e2, e3]) rfl ⟨_, F, rfl, hF, ?_, ?_⟩
 ·rw [hFe]
  exact New.lower (B := w.heap.size + 3) (by exact hM1) (by omega)
 ·exact (bel_put (bel_put (bel_put (bel_put (bel_put hB1 lez _) lez _) lez _) lez _) lez _)
theorem o_eqWhole {w : World} {cs cs' : List Value} {p : DWhole} (h : tWhole.R w w.heap.size cs p) (h' : tWhole.R w w.heap.size cs' p) :
  Calls Tryz.prog 184 #[.agg cs.toArray, .agg cs'.toArray] w fun e w' => e = .returned (.bool true) ∧ Bel w w' := by
 obtain ⟨A3, n3, c3, rfl, hi0, hi1, hi2, ha3, hb3, hl3, hr3⟩ := openWhole h
 obtain ⟨A3', n3', c3', rfl, hi0', hi1', hi2', ha3', hb3', hl3', hr3'⟩ := openWhole h'
 obtain ⟨x0, x1, x2, r3⟩ := p
 try dsimp only at *
 subst hl3
 subst hl3'
 have q0 : (x0 != x0) = false := by simp
 have q1 : (x1 != x1) = false := by simp
 have q2 : (x2 != x2) = false := by simp
 go_enter Tryz.func184, Tryz.ntmps184
 go_wp2_with fail
 refine (o_eqPieceS (tPiece.row.reach hr3 ?hB) (tPiece.row.reach hr3' ?hB)).mono ?_
 case hB => exact (belx)
 rintro e w1 ⟨rfl, hb1⟩
 have hB1 : Bel w w1 := bel_trans (belx) hb1
 have P1 : Box w1 w.heap.size 177 #[.int .i64 x0, .int .i64 x1, .int .i64 x2, .slice A3 r3.length c3] := ((Box.new _ _ _).alloc _).below hb1 lez
 have Q1 : Box w1 (w.heap.size + 1) 177 #[.int .i64 x0, .int .i64 x1, .int .i64 x2, .slice A3' r3.length c3'] := Box.below (by simpa using Box.new (w.alloc _) 177 #[.int .i64 x0, .int .i64 x1, .int .i64 x2, .slice A3' r3.length c3']) hb1 lez
 go_wp2
 go_ret
 exact ⟨rfl, hB1⟩
end Go.Proofs.YtkdanlnhdgcplaaGreat
namespace Go.Proofs.YtkdanlnhdgcplaaGreat
set_option maxRecDepth 100000
set_option linter.unusedVariables false
set_option linter.unusedSimpArgs false
open Go.ChangeShapes Go.WideShapes Go.ChangeAt Go.RowKit
theorem o_szWholeS_t {w : World} {n c : Nat} {A : Option Addr} {l : List DWhole} {k : Int} (h : tWhole.row.R w w.heap.size [.slice A n c] l) (h1 : 0 ≤ k) (h2 : k ≤ 1048576) (h3 : (rsz szWhole l : Int) ≤ k) :
  Calls Tryz.prog 126 #[.slice A n c, .int .i64 k] w fun e w' => e = .returned (.int .i64 (k - rsz szWhole l)) ∧ Bel w w' := by
 obtain ⟨hln, hnc, hcm⟩ := rowR_len h
 obtain ⟨s, hs⟩ : ∃ s, rsum szWhole l = s := ⟨_, rfl⟩
 have hz : rsz szWhole l = n + s := by unfold rsz; rw [hln, hs]
 rw [hz] at h3 ⊢
 have HLN := Lib.hid hln
 have HS := Lib.hid hs
 clear hz hln hs
 have d : decide (k - (n : Int) < 0) = false := by simp; omega
 go_enter Tryz.func126, Tryz.ntmps126
 go_wp2_with fail
 go_loopw [1, 5] (fun x i wr => ∃ j : Nat, j ≤ n ∧ x = .int .i64 (k - n - (rsum szWhole (l.take j) : Nat)) ∧ i = .int .i64 j ∧ Bel w wr) (fun _ i _ => n - (RowKit.intOf i).toNat)
 case atStart => exact ⟨0, by omega, by rw [rsum_zero]; go_num, rfl, (belx)⟩
 case round =>
  obtain ⟨j, hj, rfl, rfl, hB⟩ := hrel
  by_cases hlt : j < n
  ·obtain ⟨a, b, off, es, hl, rfl, hb, hes, hR⟩ := rowR_at (K := 4) h hlt rfl
   have hsa := rsum_at (c := szWhole) hl
   have hsn := rsum_sn (c := szWhole) hl
   rw [HS.out] at hsa
   obtain ⟨q, hq⟩ : ∃ q, rsum szWhole (l.take j) = q := ⟨_, rfl⟩
   obtain ⟨q', hq'⟩ : ∃ q, rsum szWhole (l.take (j + 1)) = q := ⟨_, rfl⟩
   rw [hq] at hsa hsn
   rw [hq'] at hsn
   rw [hq]
   have HQ := Lib.hid hq'
   clear hq hq'
   obtain ⟨A3, n3, c3, rfl, hi0, hi1, hi2, ha3, hb3, hl3, hr3⟩ := openWhole hR
   have e0 : wr.cell? ⟨b, off + j * 4, none⟩ = some (.int .i64 (a.1)) := cell_at hB hb (hes 0 (by omega))
   have e1 : wr.cell? ⟨b, off + j * 4 + 1, none⟩ = some (.int .i64 (a.2.1)) := cell_at hB hb (hes 1 (by omega))
   have e2 : wr.cell? ⟨b, off + j * 4 + 2, none⟩ = some (.int .i64 (a.2.2.1)) := cell_at hB hb (hes 2 (by omega))
   have e3 : wr.cell? ⟨b, off + j * 4 + 3, none⟩ = some (.slice A3 n3 c3) := cell_at hB hb (hes 3 (by omega))
   clear hes
   have d2 : decide (k - (n : Int) - q - (szWhole a : Nat) < 0) = false := by simp; omega
   go_wp2_with fail
   refine (o_szWhole_t (tWhole.reach hR ?hB) (by omega) (by omega) (by omega)).mono ?_
   case hB => exact (belx)
   rintro e w1 ⟨rfl, hb1⟩
   go_wp2
   go_roundw
   case rel => exact ⟨j + 1, by omega, by rw [HQ.out]; go_num, by go_num, bel_trans hB hb1⟩
   case measure => simp [RowKit.intOf]; omega
  ·obtain rfl : j = n := by omega
   have HA := Lib.hid (show rsum szWhole (l.take j) = s from by rw [rsum_all (Nat.le_of_eq HLN.out)]; exact HS.out)
   rw [HA.out]
   go_wp2
   go_ret
   exact ⟨ret_int (by omega), hB⟩
theorem o_szWholeS_f {w : World} {n c : Nat} {A : Option Addr} {l : List DWhole} {k : Int} (h : tWhole.row.R w w.heap.size [.slice A n c] l) (h1 : 0 ≤ k) (h2 : k ≤ 1048576) (h3 : ¬ (rsz szWhole l : Int) ≤ k) :
  Calls Tryz.prog 126 #[.slice A n c, .int .i64 k] w fun e w' => e = .returned (.int .i64 (-1)) ∧ Bel w w' := by
 obtain ⟨hln, hnc, hcm⟩ := rowR_len h
 obtain ⟨s, hs⟩ : ∃ s, rsum szWhole l = s := ⟨_, rfl⟩
 have hz : rsz szWhole l = n + s := by unfold rsz; rw [hln, hs]
 rw [hz] at h3
 have HLN := Lib.hid hln
 have HS := Lib.hid hs
 clear hz hln hs
 by_cases hnk : k < (n : Int)
 ·have d : decide (k - (n : Int) < 0) = true := by simp; omega
  go_enter Tryz.func126, Tryz.ntmps126
  go_wp2
  go_ret
  exact ⟨rfl, (belx)⟩
 have d : decide (k - (n : Int) < 0) = false := by simp; omega
 go_enter Tryz.func126, Tryz.ntmps126
 go_wp2_with fail
 go_loopw [1, 5] (fun x i wr => ∃ j : Nat, j ≤ n ∧ x = .int .i64 (k - n - (rsum szWhole (l.take j) : Nat)) ∧ i = .int .i64 j ∧ Bel w wr ∧ (n : Int) + (rsum szWhole (l.take j) : Nat) ≤ k) (fun _ i _ => n - (RowKit.intOf i).toNat)
 case atStart => exact ⟨0, by omega, by rw [rsum_zero]; go_num, rfl, (belx), by rw [rsum_zero]; omega⟩
 case round =>
  obtain ⟨j, hj, rfl, rfl, hB, hv⟩ := hrel
  by_cases hlt : j < n
  ·obtain ⟨a, b, off, es, hl, rfl, hb, hes, hR⟩ := rowR_at (K := 4) h hlt rfl
   have hsa := rsum_at (c := szWhole) hl
   have hsn := rsum_sn (c := szWhole) hl
   rw [HS.out] at hsa
   obtain ⟨q, hq⟩ : ∃ q, rsum szWhole (l.take j) = q := ⟨_, rfl⟩
   obtain ⟨q', hq'⟩ : ∃ q, rsum szWhole (l.take (j + 1)) = q := ⟨_, rfl⟩
   rw [hq] at hsa hsn
   rw [hq'] at hsn
   rw [hq]
   have HQ := Lib.hid hq'
   rw [hq] at hv
   clear hq hq'
   obtain ⟨A3, n3, c3, rfl, hi0, hi1, hi2, ha3, hb3, hl3, hr3⟩ := openWhole hR
   have e0 : wr.cell? ⟨b, off + j * 4, none⟩ = some (.int .i64 (a.1)) := cell_at hB hb (hes 0 (by omega))
   have e1 : wr.cell? ⟨b, off + j * 4 + 1, none⟩ = some (.int .i64 (a.2.1)) := cell_at hB hb (hes 1 (by omega))
   have e2 : wr.cell? ⟨b, off + j * 4 + 2, none⟩ = some (.int .i64 (a.2.2.1)) := cell_at hB hb (hes 2 (by omega))
   have e3 : wr.cell? ⟨b, off + j * 4 + 3, none⟩ = some (.slice A3 n3 c3) := cell_at hB hb (hes 3 (by omega))
   clear hes
   by_cases hg : (n : Int) + q + (szWhole a : Nat) ≤ k
   ·have d2 : decide (k - (n : Int) - q - (szWhole a : Nat) < 0) = false := by simp; omega
    go_wp2_with fail
    refine (o_szWhole_t (tWhole.reach hR ?hB) (by omega) (by omega) (by omega)).mono ?_
    case hB => exact (belx)
    rintro e w1 ⟨rfl, hb1⟩
    go_wp2
    go_roundw
    case rel => exact ⟨j + 1, by omega, by rw [HQ.out]; go_num, by go_num, bel_trans hB hb1, by rw [HQ.out]; omega⟩
    case measure => simp [RowKit.intOf]; omega
   ·go_wp2_with fail
    refine (o_szWhole_f (tWhole.reach hR ?hB) (by omega) (by omega) (by omega)).mono ?_
    case hB => exact (belx)
    rintro e w1 ⟨rfl, hb1⟩
    go_wp2
    go_ret
    exact ⟨rfl, bel_trans hB hb1⟩
  ·obtain rfl : j = n := by omega
   have HA := Lib.hid (show rsum szWhole (l.take j) = s from by rw [rsum_all (Nat.le_of_eq HLN.out)]; exact HS.out)
   rw [HA.out] at hv
   exact absurd hv (by omega)
theorem info_Whole : (Tryz.prog.info? 177).map (fun i => (i.zero, i.size, i.bytes)) = some (some (.agg #[.int .i64 0, .int .i64 0, .int .i64 0, .slice none 0 0]), 4, 48) := by kernel_rfl
set_option maxHeartbeats 800000 in
theorem o_toWholeS {w : World} {n c : Nat} {A : Option Addr} {l : List DWhole} (h : tWhole.row.R w w.heap.size [.slice A n c] l) (hz : rsz szWhole l ≤ 1048576) :
  Calls Tryz.prog 136 #[.slice A n c] w fun e w' => ∃ A' c' F, e = .returned (.slice A' l.length c') ∧ tWhole.row.O w' [.slice A' l.length c'] l F ∧ New w.heap.size F ∧ Bel w w' := by
 obtain ⟨i0, hi0, hz0, hz1, hz2⟩ := info_parts info_Whole
 obtain ⟨hln, hnc, hcm⟩ := rowR_len h
 have hn : n ≤ 1048576 := by have := rsz_le (s := szWhole) l; omega
 have HLN := Lib.hid hln
 have HZ := Lib.hid hz
 clear hln hz
 go_enter Tryz.func136, Tryz.ntmps136
 go_wp2_with (at_make; refine wpList_mkS _ rfl (.tmp 6) (.tmp 6) _ rfl 177 i0 _ 4 Tryz.underlying104 hi0 hz0 hz1 n rfl rfl (by rw [hz2]; omega) (by simp only [maxLen]; omega) ?_; intro w1 cur hcur hsz hB1 hgr)
 go_loopw [4] (fun i wr => ∃ j : Nat, j ≤ n ∧ i = .int .i64 j ∧ Bel w wr ∧ ∃ F, Fill tWhole wr w.heap.size 177 n (l.take j) F ∧ New (w.heap.size + 1) F) (fun i _ => n - (RowKit.intOf i).toNat)
 case atStart => exact ⟨0, by omega, rfl, hB1, [], Fill.start hcur hsz, New.nil _⟩
 case round =>
  obtain ⟨j, hj, rfl, hB, F, hf, hN⟩ := hrel
  by_cases hlt : j < n
  ·obtain ⟨a, b, off, es, hl, rfl, hb, hes, hR⟩ := rowR_at (K := 4) h hlt rfl
   have HT := Lib.hid (take_sn hl)
   have HLT := Lib.hid (show (l.take j).length = j from by rw [List.length_take, HLN.out]; omega)
   have hsa : szWhole a ≤ 1048576 := by have := rsz_step (s := szWhole) hl; have := HZ.out; omega
   obtain ⟨A3, n3, c3, rfl, hi0, hi1, hi2, ha3, hb3, hl3, hr3⟩ := openWhole hR
   subst hl3
   have e0 : wr.cell? ⟨b, off + j * 4, none⟩ = some (.int .i64 (a.1)) := cell_at hB hb (hes 0 (by omega))
   have e1 : wr.cell? ⟨b, off + j * 4 + 1, none⟩ = some (.int .i64 (a.2.1)) := cell_at hB hb (hes 1 (by omega))
   have e2 : wr.cell? ⟨b, off + j * 4 + 2, none⟩ = some (.int .i64 (a.2.2.1)) := cell_at hB hb (hes 2 (by omega))
   have e3 : wr.cell? ⟨b, off + j * 4 + 3, none⟩ = some (.slice A3 (a.2.2.2).length c3) := cell_at hB hb (hes 3 (by omega))
   clear hes
   have hgs := hf.size
   go_wp2_with fail
   refine (o_toWhole (tWhole.reach hR ?hB) hsa).mono ?_
   case hB => exact (belx)
   rintro e w2 ⟨cs2, F2, rfl, hO2, hN2, hb2⟩
   obtain ⟨B3, d3, G3, rfl, hFe, _, _, _, _, _, _⟩ := openOWhole hO2
   clear hFe
   have hf2 := hf.below hb2
   have hsz2 := hb2.size
   have hP := Fill.push (K := 4) hf2 (by rw [HLT.out]; exact hlt) hO2 (hN.not (by omega)) (hN2.not hgs) rfl
   rw [HLT.out, ← HT.out] at hP
   have hM : New (w.heap.size + 1) (F ++ F2) := New.app hN hN2 (by omega) hf.lt
   obtain ⟨u0, k0⟩ := hf2.cell (K := 4) (j := 0) (by rw [HLT.out]; exact hlt) rfl (by omega)
   rw [HLT.out] at k0
   replace k0 : w2.cell? ⟨w.heap.size, j * 4, none⟩ = some u0 := k0
   have f0 := hf2.frozen (j * 4)
   obtain ⟨u1, k1⟩ := hf2.cell (K := 4) (j := 1) (by rw [HLT.out]; exact hlt) rfl (by omega)
   rw [HLT.out] at k1
   replace k1 : w2.cell? ⟨w.heap.size, j * 4 + 1, none⟩ = some u1 := k1
   have f1 := hf2.frozen (j * 4 + 1)
   obtain ⟨u2, k2⟩ := hf2.cell (K := 4) (j := 2) (by rw [HLT.out]; exact hlt) rfl (by omega)
   rw [HLT.out] at k2
   replace k2 : w2.cell? ⟨w.heap.size, j * 4 + 2, none⟩ = some u2 := k2
   have f2 := hf2.frozen (j * 4 + 2)
   obtain ⟨u3, k3⟩ := hf2.cell (K := 4) (j := 3) (by rw [HLT.out]; exact hlt) rfl (by omega)
   rw [HLT.out] at k3
   replace k3 : w2.cell? ⟨w.heap.size, j * 4 + 3, none⟩ = some u3 := k3
   have f3 := hf2.frozen (j * 4 + 3)
   go_wp2
   go_roundw
   case rel => exact ⟨j + 1, by omega, by go_num, below_puts (bel_trans hB hb2) (Nat.le_refl _) (off := j * 4) (vs := [.int .i64 (a.1), .int .i64 (a.2.1), .int .i64 (a.2.2.1), .slice B3 (a.2.2.2).length d3]), _, hP, hM⟩
   case measure => simp [RowKit.intOf]; omega
  ·obtain rfl : j = n := by omega
   have HA := Lib.hid (show l.take j = l from by rw [List.take_of_length_le (Nat.le_of_eq HLN.out)])
   rw [HA.out] at hf
   obtain ⟨F2, hF2, hor⟩ := hf.done HLN.out (by omega)
   have HN := Lib.hid HLN.out
   go_wp2
   go_ret
   refine ⟨some ⟨w.heap.size, 0, none⟩, j, F2, ?_, hF2, hN.cons hor, hB⟩
   rw [HN.out]
   rfl
set_option maxHeartbeats 800000 in
theorem o_eqWholeS {w : World} {n m c d : Nat} {A A' : Option Addr} {l : List DWhole} (h : tWhole.row.R w w.heap.size [.slice A n c] l) (h' : tWhole.row.R w w.heap.size [.slice A' m d] l) :
  Calls Tryz.prog 152 #[.slice A n c, .slice A' m d] w fun e w' => e = .returned (.bool true) ∧ Bel w w' := by
 obtain ⟨hln, hnc, hcm⟩ := rowR_len h
 obtain ⟨hln', hnc', hcm'⟩ := rowR_len h'
 obtain rfl : m = n := by omega
 have HLN := Lib.hid hln
 clear hln hln'
 go_enter Tryz.func152, Tryz.ntmps152
 go_wp2_with fail
 go_loopw [5] (fun i wr => ∃ j : Nat, j ≤ m ∧ i = .int .i64 j ∧ Bel w wr) (fun i _ => m - (RowKit.intOf i).toNat)
 case atStart => exact ⟨0, by omega, rfl, (belx)⟩
 case round =>
  obtain ⟨j, hj, rfl, hB⟩ := hrel
  by_cases hlt : j < m
  ·obtain ⟨a, b, off, es, hl, rfl, hb, hes, hR⟩ := rowR_at (K := 4) h hlt rfl
   obtain ⟨a', b', off', es', hl', rfl, hb', hes', hR'⟩ := rowR_at (K := 4) h' hlt rfl
   obtain rfl : a = a' := by rw [hl] at hl'; exact Option.some.inj hl'
   clear hl hl'
   obtain ⟨A3, n3, c3, rfl, hi0, hi1, hi2, ha3, hb3, hl3, hr3⟩ := openWhole hR
   obtain ⟨A3', n3', c3', rfl, hi0', hi1', hi2', ha3', hb3', hl3', hr3'⟩ := openWhole hR'
   subst hl3
   subst hl3'
   have e0 : wr.cell? ⟨b, off + j * 4, none⟩ = some (.int .i64 (a.1)) := cell_at hB hb (hes 0 (by omega))
   have e1 : wr.cell? ⟨b, off + j * 4 + 1, none⟩ = some (.int .i64 (a.2.1)) := cell_at hB hb (hes 1 (by omega))
   have e2 : wr.cell? ⟨b, off + j * 4 + 2, none⟩ = some (.int .i64 (a.2.2.1)) := cell_at hB hb (hes 2 (by omega))
   have e3 : wr.cell? ⟨b, off + j * 4 + 3, none⟩ = some (.slice A3 (a.2.2.2).length c3) := cell_at hB hb (hes 3 (by omega))
   have e0' : wr.cell? ⟨b', off' + j * 4, none⟩ = some (.int .i64 (a.1)) := cell_at hB hb' (hes' 0 (by omega))
   have e1' : wr.cell? ⟨b', off' + j * 4 + 1, none⟩ = some (.int .i64 (a.2.1)) := cell_at hB hb' (hes' 1 (by omega))
   have e2' : wr.cell? ⟨b', off' + j * 4 + 2, none⟩ = some (.int .i64 (a.2.2.1)) := cell_at hB hb' (hes' 2 (by omega))
   have e3' : wr.cell? ⟨b', off' + j * 4 + 3, none⟩ = some (.slice A3' (a.2.2.2).length c3') := cell_at hB hb' (hes' 3 (by omega))
   clear hes hes'
   go_wp2_with fail
   go_region_held3 (fun w' => w'.cell? ⟨b, off + j * 4, none⟩ = some (.int .i64 (a.1)) ∧ w'.cell? ⟨b, off + j * 4 + 1, none⟩ = some (.int .i64 (a.2.1)) ∧ w'.cell? ⟨b, off + j * 4 + 2, none⟩ = some (.int .i64 (a.2.2.1)) ∧ w'.cell? ⟨b, off + j * 4 + 3, none⟩ = some (.slice A3 (a.2.2.2).length c3) ∧ w'.cell? ⟨b', off' + j * 4, none⟩ = some (.int .i64 (a.1)) ∧ w'.cell? ⟨b', off' + j * 4 + 1, none⟩ = some (.int .i64 (a.2.1)) ∧ w'.cell? ⟨b', off' + j * 4 + 2, none⟩ = some (.int .i64 (a.2.2.1)) ∧ w'.cell? ⟨b', off' + j * 4 + 3, none⟩ = some (.slice A3' (a.2.2.2).length c3')) (first | (exact ⟨e0, e1, e2, e3, e0', e1', e2', e3'⟩) | (exact ⟨cell_bel hs2 e0, cell_bel hs2 e1, cell_bel hs2 e2, cell_bel hs2 e3, cell_bel hs2 e0', cell_bel hs2 e1', cell_bel hs2 e2', cell_bel hs2 e3'⟩) | go_keep)
    ((go_at_call 184; refine (o_eqWhole (tWhole.reach hR (belx)) (tWhole.reach hR' (belx))).mono ?_; rintro e w2 ⟨rfl, hb2⟩; have hs2 : Bel wr w2 := bel_trans (belx) hb2))
   go_wp2
   go_roundw
   case rel => exact ⟨j + 1, by omega, by go_num, bel_trans hB hs2⟩
   case measure => simp [RowKit.intOf]; omega
  ·obtain rfl : j = m := by omega
   go_wp2
   go_ret
   exact ⟨rfl, hB⟩
set_option maxHeartbeats 1000000 in
theorem o_markWholeS {w : World} {n c : Nat} {A : Option Addr} {l : List DWhole} {F : List Nat} (k : Int) (h : tWhole.row.O w [.slice A n c] l F) (hF : F.Nodup) (h0 : 0 ≤ k) (hk : k + rsum rcWhole l ≤ 4611686018427387904) :
  Calls Tryz.prog 78 #[.slice A n c, .int .i64 k] w fun e w' => e = .returned (.int .i64 (k + rsum rcWhole l)) ∧ tWhole.row.O w' [.slice A n c] (rmk rcWhole rmWhole k l) F ∧ Only F w w' := by
 obtain ⟨_, _, hsh, hnc, hcm⟩ := rowO_shape h
 have hln : l.length = n := by injection hsh with _ e2 _; exact e2.symm
 have hnc2 : n ≤ 9223372036854775807 := by omega
 clear hsh hnc hcm
 obtain ⟨s, hs⟩ : ∃ s, rsum rcWhole l = s := ⟨_, rfl⟩
 rw [hs] at hk ⊢
 have HLN := Lib.hid hln
 have HS := Lib.hid hs
 clear hln hs
 go_enter Tryz.func78, Tryz.ntmps78
 go_wp2
 go_loopw [1, 5] (fun x i wr => ∃ j : Nat, j ≤ n ∧ x = .int .i64 (k + (rsum rcWhole (l.take j) : Nat)) ∧ i = .int .i64 j ∧ tWhole.row.O wr [.slice A n c] (rpart rcWhole rmWhole k l j) F ∧ Only F w wr) (fun _ i _ => n - (RowKit.intOf i).toNat)
 case atStart => exact ⟨0, by omega, by rw [rsum_zero]; go_num, rfl, by rw [rpart_zero]; exact h, Only.refl _ _⟩
 case round =>
  obtain ⟨j, hj, rfl, rfl, hO, hG⟩ := hrel
  by_cases hlt : j < n
  ·obtain ⟨a, hl⟩ : ∃ a, l[j]? = some a := ⟨_, List.getElem?_eq_getElem (by rw [HLN.out]; exact hlt)⟩
   have HP := Lib.hid (rpart_set (c := rcWhole) (m := rmWhole) (k := k) hl)
   have hat := rpart_at (c := rcWhole) (m := rmWhole) (k := k) hl
   have hsa := rsum_at (c := rcWhole) hl
   have hsn := rsum_sn (c := rcWhole) hl
   rw [HS.out] at hsa
   obtain ⟨q, hq⟩ : ∃ q, rsum rcWhole (l.take j) = q := ⟨_, rfl⟩
   obtain ⟨q', hq'⟩ : ∃ q, rsum rcWhole (l.take (j + 1)) = q := ⟨_, rfl⟩
   rw [hq] at hsa hsn
   rw [hq'] at hsn
   rw [hq]
   have HQ := Lib.hid hq'
   have HQ2 := Lib.hid hq
   clear hq hq'
   dsimp only [rcWhole] at hsa hsn
   obtain ⟨g, off, cur, et, es, Fi, rfl, hcur, hes, hOe, hgF, hgi, hFi, hnd, hback⟩ := rowO_at (K := 4) hO hF hat rfl
   obtain ⟨A3, c3, F3, rfl, hFe, hi0, hi1, hi2, ha3, hb3, hr3⟩ := openOWhole hOe
   subst Fi
   obtain ⟨x0, x1, x2, r3⟩ := a
   dsimp only at *
   have e0 : wr.cell? ⟨g, off + j * 4, none⟩ = some (.int .i64 x0) := by rw [Box.cell (t := et) hcur]; exact hes 0 (by omega)
   have f0 : wr.frozen? ⟨g, off + j * 4, none⟩ = false := Box.frozen (t := et) hcur _
   have e1 : wr.cell? ⟨g, off + j * 4 + 1, none⟩ = some (.int .i64 x1) := by rw [Box.cell (t := et) hcur]; exact hes 1 (by omega)
   have f1 : wr.frozen? ⟨g, off + j * 4 + 1, none⟩ = false := Box.frozen (t := et) hcur _
   have e2 : wr.cell? ⟨g, off + j * 4 + 2, none⟩ = some (.int .i64 x2) := by rw [Box.cell (t := et) hcur]; exact hes 2 (by omega)
   have f2 : wr.frozen? ⟨g, off + j * 4 + 2, none⟩ = false := Box.frozen (t := et) hcur _
   have e3 : wr.cell? ⟨g, off + j * 4 + 3, none⟩ = some (.slice A3 r3.length c3) := by rw [Box.cell (t := et) hcur]; exact hes 3 (by omega)
   have f3 : wr.frozen? ⟨g, off + j * 4 + 3, none⟩ = false := Box.frozen (t := et) hcur _
   obtain ⟨cur1, hX0, hcs, hun, hval⟩ := puts_heap (off := off + j * 4) (vs := [.int .i64 (k + (q : Int)), .int .i64 (k + (q : Int) + 1), .int .i64 (k + (q : Int) + 1 + 1)]) hcur
   dsimp only [List.length_cons, List.length_nil] at hun hval
   have hcz : ∀ i, i < 4 → off + j * 4 + i < cur.size := fun i hi => by
    by_cases hh : off + j * 4 + i < cur.size
    ·exact hh
    ·have := hes i hi; rw [Array.getElem?_eq_none (by omega)] at this; rcases (by omega : i = 0 ∨ i = 1 ∨ i = 2 ∨ i = 3) with rfl | rfl | rfl | rfl <;> simp at this
   have hgz : g < (puts wr g (off + j * 4) [.int .i64 (k + (q : Int)), .int .i64 (k + (q : Int) + 1), .int .i64 (k + (q : Int) + 1 + 1)]).heap.size := by rw [size_puts]; exact Box.size (t := et) hcur
   have OG0 : Only F w (puts wr g (off + j * 4) [.int .i64 (k + (q : Int)), .int .i64 (k + (q : Int) + 1), .int .i64 (k + (q : Int) + 1 + 1)]) := only_puts hG hgF
   have hk0 : ∀ f, f ≠ g → (puts wr g (off + j * 4) [.int .i64 (k + (q : Int)), .int .i64 (k + (q : Int) + 1), .int .i64 (k + (q : Int) + 1 + 1)]).heap[f]? = wr.heap[f]? := fun f hf => puts_far hf
   have hzz : (puts wr g (off + j * 4) [.int .i64 (k + (q : Int)), .int .i64 (k + (q : Int) + 1), .int .i64 (k + (q : Int) + 1 + 1)]).heap.size = wr.heap.size := size_puts
   have y3 : ∀ f ∈ F3, f < wr.heap.size ∧ f ≠ g := fun f hf => ⟨(tPiece.row).lt hr3 f hf, fun e => hgi (by rw [← e]; simp [hf])⟩
   replace hr3 := (tPiece.row).kept (w' := puts wr g (off + j * 4) [.int .i64 (k + (q : Int)), .int .i64 (k + (q : Int) + 1), .int .i64 (k + (q : Int) + 1 + 1)]) hr3 (fun f hf => hk0 f (y3 f hf).2)
   have nd3 : F3.Nodup := hnd
   obtain ⟨W0, hW0⟩ : ∃ W0, puts wr g (off + j * 4) [.int .i64 (k + (q : Int)), .int .i64 (k + (q : Int) + 1), .int .i64 (k + (q : Int) + 1 + 1)] = W0 := ⟨_, rfl⟩
   rw [hW0] at hX0 hgz OG0 hk0 hzz hr3
   have Z0 : wr.heap.size ≤ W0.heap.size := Nat.le_of_eq hzz.symm
   have hX : W0.heap[g]? = some (.cells cur1 et (0, 0)) := hX0
   go_wp2_with fail
   have hWe : (((wr.setCell ⟨g, off + j * 4, none⟩ (.int .i64 (k + (q : Int)))).setCell ⟨g, off + j * 4 + 1, none⟩ (.int .i64 (k + (q : Int) + 1))).setCell ⟨g, off + j * 4 + 2, none⟩ (.int .i64 (k + (q : Int) + 1 + 1))) = W0 := hW0
   rw [hWe]
   refine (o_markPieceS (k + (q : Int) + 1 + 1 + 1) hr3 nd3 (by omega) (by omega)).mono ?_
   rintro e W1 ⟨rfl, hO3, hG3⟩
   have OG1 : Only F w W1 := OG0.trans (hG3.mono (fun f hf => hFi f (by simp [hf])))
   have Z1 : wr.heap.size ≤ W1.heap.size := Nat.le_trans Z0 hG3.size
   have hgz : g < W1.heap.size := Nat.lt_of_lt_of_le hgz hG3.size
   replace hX : W1.heap[g]? = some (.cells cur1 et (0, 0)) := (hG3.block g (by omega) (fun e => (y3 g e).2 rfl)).trans hX
   replace hr3 := hO3
   have wf0 : (Lit.int .i64 (k + (q : Int))).wf = true := WalkArith.wf_i64 (by omega)
   have wf1 : (Lit.int .i64 (k + (q : Int) + 1)).wf = true := WalkArith.wf_i64 (by omega)
   have wf2 : (Lit.int .i64 (k + (q : Int) + 1 + 1)).wf = true := WalkArith.wf_i64 (by omega)
   obtain ⟨F2, hF2, hF2e⟩ := makeOWhole (w := W1) (p := rmWhole (k + (q : Int)) (x0, x1, x2, r3)) wf0 wf1 wf2 hr3
   subst hF2e
   have hfin := hback W1 cur1 [.int .i64 (k + (q : Int)), .int .i64 (k + (q : Int) + 1), .int .i64 (k + (q : Int) + 1 + 1), .slice A3 r3.length c3] (rmWhole (k + (q : Int)) (x0, x1, x2, r3)) hX (by
    intro i hi
    rcases (by omega : i = 0 ∨ i = 1 ∨ i = 2 ∨ i = 3) with rfl | rfl | rfl | rfl
    ·exact hval 0 (by omega) (hcz 0 (by omega))
    ·exact hval 1 (by omega) (hcz 1 (by omega))
    ·exact hval 2 (by omega) (hcz 2 (by omega))
    ·rw [hun _ (by omega)]; exact hes 3 (by omega)) (by
    intro q2 hq2
    refine hun q2 ?_
    rcases Nat.lt_or_ge q2 (off + j * 4) with h1 | h1
    ·exact .inl h1
    ·rcases Nat.lt_or_ge q2 (off + j * 4 + 4) with h2 | h2
     ·exact absurd (by omega) (hq2 (q2 - (off + j * 4)) (by omega))
     ·exact .inr (by omega)) hF2 (by
    intro f hf h1 h2
    skip
    have hfz : f < wr.heap.size := (tWhole.row).lt hO f hf
    exact ((hG3.block f (by omega) h2).trans (hk0 f h1)))
   have HPq := HP.out
   rw [HQ2.out] at HPq
   rw [HPq] at hfin
   clear HPq
   go_wp2
   go_roundw
   case rel => exact ⟨j + 1, by omega, by rw [HQ.out]; go_num, by go_num, hfin, OG1⟩
   case measure => simp [RowKit.intOf]; omega
  ·obtain rfl : j = n := by omega
   have HA := Lib.hid (show rsum rcWhole (l.take j) = s from by rw [rsum_all (Nat.le_of_eq HLN.out)]; exact HS.out)
   rw [HA.out]
   rw [rpart_all (Nat.le_of_eq HLN.out)] at hO
   go_wp2
   go_ret
   exact ⟨rfl, hO, hG⟩
set_option maxHeartbeats 1000000 in
theorem o_heldWholeS {w : World} {n c : Nat} {A : Option Addr} {l : List DWhole} (k : Int) (h : tWhole.row.R w w.heap.size [.slice A n c] (rmk rcWhole rmWhole k l)) (h0 : 0 ≤ k) (hk : k + rsum rcWhole l ≤ 4611686018427387904) :
  Calls Tryz.prog 82 #[.slice A n c, .int .i64 k] w fun e w' => e = .returned (.int .i64 (k + rsum rcWhole l)) ∧ Bel w w' := by
 obtain ⟨hln, hnc, hcm⟩ := rowR_len h
 rw [rmk_len] at hln
 obtain ⟨s, hs⟩ : ∃ s, rsum rcWhole l = s := ⟨_, rfl⟩
 rw [hs] at hk ⊢
 have HLN := Lib.hid hln
 have HS := Lib.hid hs
 clear hln hs
 go_enter Tryz.func82, Tryz.ntmps82
 go_wp2
 go_loopw [1, 5] (fun x i wr => ∃ j : Nat, j ≤ n ∧ x = .int .i64 (k + (rsum rcWhole (l.take j) : Nat)) ∧ i = .int .i64 j ∧ Bel w wr) (fun _ i _ => n - (RowKit.intOf i).toNat)
 case atStart => exact ⟨0, by omega, by rw [rsum_zero]; go_num, rfl, (belx)⟩
 case round =>
  obtain ⟨j, hj, rfl, rfl, hB⟩ := hrel
  by_cases hlt : j < n
  ·obtain ⟨a, hl⟩ : ∃ a, l[j]? = some a := ⟨_, List.getElem?_eq_getElem (by rw [HLN.out]; exact hlt)⟩
   obtain ⟨a2, b, off, es, hl2, rfl, hb, hes, hR⟩ := rowR_at (K := 4) h hlt rfl
   have hat := rmk_at (c := rcWhole) (m := rmWhole) (k := k) hl
   obtain rfl : _ = a2 := Option.some.inj (hat.symm.trans hl2)
   clear hl2 hat
   have hsa := rsum_at (c := rcWhole) hl
   have hsn := rsum_sn (c := rcWhole) hl
   rw [HS.out] at hsa
   obtain ⟨q, hq⟩ : ∃ q, rsum rcWhole (l.take j) = q := ⟨_, rfl⟩
   obtain ⟨q', hq'⟩ : ∃ q, rsum rcWhole (l.take (j + 1)) = q := ⟨_, rfl⟩
   rw [hq] at hsa hsn
   rw [hq'] at hsn
   rw [hq] at hR ⊢
   have HQ := Lib.hid hq'
   clear hq hq'
   dsimp only [rcWhole] at hsa hsn
   obtain ⟨A3, n3, c3, rfl, hi0, hi1, hi2, ha3, hb3, hl3, hr3⟩ := openWhole hR
   obtain ⟨x0, x1, x2, r3⟩ := a
   dsimp only [rmWhole] at *
   have q0 : ((k + (q : Int) : Int) != k + (q : Int)) = false := by simp
   have q1 : ((k + (q : Int) + 1 : Int) != k + (q : Int) + 1) = false := by simp
   have q2 : ((k + (q : Int) + 1 + 1 : Int) != k + (q : Int) + 1 + 1) = false := by simp
   have e0 : wr.cell? ⟨b, off + j * 4, none⟩ = some (.int .i64 (k + (q : Int))) := cell_at hB hb (hes 0 (by omega))
   have e1 : wr.cell? ⟨b, off + j * 4 + 1, none⟩ = some (.int .i64 (k + (q : Int) + 1)) := cell_at hB hb (hes 1 (by omega))
   have e2 : wr.cell? ⟨b, off + j * 4 + 2, none⟩ = some (.int .i64 (k + (q : Int) + 1 + 1)) := cell_at hB hb (hes 2 (by omega))
   have e3 : wr.cell? ⟨b, off + j * 4 + 3, none⟩ = some (.slice A3 n3 c3) := cell_at hB hb (hes 3 (by omega))
   have d0 : decide (k + (q : Int) + 1 + 1 + 1 + ((rsum rcPiece r3 : Nat) : Int) < 0) = false := by simp; omega
   go_wp2_with fail
   refine (o_heldPieceS (k + (q : Int) + 1 + 1 + 1) ((tPiece.row).reach hr3 ?hB) (by omega) (by omega)).mono ?_
   case hB => exact (belx)
   rintro e w1 ⟨rfl, hb1⟩
   have hB1 : Bel w w1 := bel_trans hB hb1
   have e3_1 : w1.cell? ⟨b, off + j * 4 + 3, none⟩ = some (.slice A3 n3 c3) := cell_at hB1 hb (hes 3 (by omega))
   go_wp2
   go_roundw
   case rel => exact ⟨j + 1, by omega, by rw [HQ.out]; go_num, by go_num, hB1⟩
   case measure => simp [RowKit.intOf]; omega
  ·obtain rfl : j = n := by omega
   have HA := Lib.hid (show rsum rcWhole (l.take j) = s from by rw [rsum_all (Nat.le_of_eq HLN.out)]; exact HS.out)
   rw [HA.out]
   go_wp2
   go_ret
   exact ⟨rfl, hB⟩
end Go.Proofs.YtkdanlnhdgcplaaGreat
namespace Go.Proofs.YtkdanlnhdgcplaaGreat
set_option maxRecDepth 100000
set_option linter.unusedVariables false
set_option linter.unusedSimpArgs false
open Go.ChangeShapes Go.WideShapes Go.ChangeAt Go.RowKit
theorem o_szDesk_t {w : World} {cs : List Value} {p : DDesk} {k : Int} (h : tDesk.R w w.heap.size cs p) (h1 : 0 ≤ k) (h2 : k ≤ 1048576) (h3 : (szDesk p : Int) ≤ k) :
  Calls Tryz.prog 87 #[.agg cs.toArray, .int .i64 k] w fun e w' => e = .returned (.int .i64 (k - szDesk p)) ∧ Bel w w' := by
 obtain ⟨A0, n0, c0, A1, n1, c1, rfl, ha0, hb0, hl0, hr0, ha1, hb1, hl1, hr1⟩ := openDesk h
 obtain ⟨r0, l1⟩ := p
 try dsimp only [szDesk] at *
 subst hl0
 subst hl1
 have d0 : decide (k - ((rsz szWhole r0 : Nat) : Int) < 0) = false := by simp; omega
 have d1 : decide (k - ((rsz szWhole r0 : Nat) : Int) - ((l1.length : Nat) : Int) < 0) = false := by simp; omega
 go_enter Tryz.func87, Tryz.ntmps87
 go_wp2_with fail
 refine (o_szWholeS_t (tWhole.row.reach hr0 ?hB) (by omega) (by omega) (by omega)).mono ?_
 case hB => exact (belx)
 rintro e w1 ⟨rfl, hb1⟩
 have hB1 : Bel w w1 := bel_trans (belx) hb1
 have P1 : Box w1 w.heap.size 87 #[.slice A0 r0.length c0, .slice A1 l1.length c1] := (Box.new _ _ _).below hb1 lez
 have e0_1 := P1.cell 1
 go_wp2_with fail
 refine (o_szIntS_t (tIs.reach hr1 ?hB) (by omega) (by omega) (by omega)).mono ?_
 case hB => exact (belx)
 rintro e w2 ⟨rfl, hb2⟩
 have hB2 : Bel w w2 := bel_trans (belx) hb2
 have P2 := P1.below hb2 P1.size
 go_wp2
 go_ret
 exact ⟨ret_int (by omega), hB2⟩
theorem o_szDesk_f {w : World} {cs : List Value} {p : DDesk} {k : Int} (h : tDesk.R w w.heap.size cs p) (h1 : 0 ≤ k) (h2 : k ≤ 1048576) (h3 : ¬ (szDesk p : Int) ≤ k) :
  Calls Tryz.prog 87 #[.agg cs.toArray, .int .i64 k] w fun e w' => e = .returned (.int .i64 (-1)) ∧ Bel w w' := by
 obtain ⟨A0, n0, c0, A1, n1, c1, rfl, ha0, hb0, hl0, hr0, ha1, hb1, hl1, hr1⟩ := openDesk h
 obtain ⟨r0, l1⟩ := p
 try dsimp only [szDesk] at *
 subst hl0
 subst hl1
 by_cases g0 : (((rsz szWhole r0) : Nat) : Int) ≤ k
 rotate_left
 ·go_enter Tryz.func87, Tryz.ntmps87
  go_wp2_with fail
  refine (o_szWholeS_f (tWhole.row.reach hr0 ?hB) (by omega) (by omega) (by omega)).mono ?_
  case hB => exact (belx)
  rintro e w1 ⟨rfl, hb1⟩
  have hB1 : Bel w w1 := bel_trans (belx) hb1
  have P1 : Box w1 w.heap.size 87 #[.slice A0 r0.length c0, .slice A1 l1.length c1] := (Box.new _ _ _).below hb1 lez
  go_wp2
  go_ret
  exact ⟨rfl, hB1⟩
 have d0 : decide (k - ((rsz szWhole r0 : Nat) : Int) < 0) = false := by simp; omega
 go_enter Tryz.func87, Tryz.ntmps87
 go_wp2_with fail
 refine (o_szWholeS_t (tWhole.row.reach hr0 ?hB) (by omega) (by omega) (by omega)).mono ?_
 case hB => exact (belx)
 rintro e w1 ⟨rfl, hb1⟩
 have hB1 : Bel w w1 := bel_trans (belx) hb1
 have P1 : Box w1 w.heap.size 87 #[.slice A0 r0.length c0, .slice A1 l1.length c1] := (Box.new _ _ _).below hb1 lez
 have e0_1 := P1.cell 1
 go_wp2_with fail
 refine (o_szIntS_f (tIs.reach hr1 ?hB) (by omega) (by omega) (by omega)).mono ?_
 case hB => exact (belx)
 rintro e w2 ⟨rfl, hb2⟩
 have hB2 : Bel w w2 := bel_trans (belx) hb2
 have P2 := P1.below hb2 P1.size
 go_wp2
 go_ret
 exact ⟨rfl, hB2⟩
set_option maxHeartbeats 400000 in
theorem o_toDesk {w : World} {cs : List Value} {p : DDesk} (h : tDesk.R w w.heap.size cs p) (hn : szDesk p ≤ 1048576) :
  Calls Tryz.prog 99 #[.agg cs.toArray] w fun e w' => ∃ cs' F, e = .returned (.agg cs'.toArray) ∧ tDesk.O w' cs' p F ∧ New w.heap.size F ∧ Bel w w' := by
 obtain ⟨A0, n0, c0, A1, n1, c1, rfl, ha0, hb0, hl0, hr0, ha1, hb1, hl1, hr1⟩ := openDesk h
 obtain ⟨r0, l1⟩ := p
 try dsimp only [szDesk] at *
 subst hl0
 subst hl1
 go_enter Tryz.func99, Tryz.ntmps99
 go_wp2_with fail
 refine (o_toWholeS (tWhole.row.reach hr0 ?hB) (by omega)).mono ?_
 case hB => exact (belx)
 rintro e w1 ⟨B0, d0, F0, rfl, o0, hN1, hb1⟩
 have z1 : w.heap.size + 3 ≤ w1.heap.size := by have := hb1.size; simpa using this
 have hB1 : Bel w w1 := bel_trans (belx) hb1
 have R1 : Box w1 (w.heap.size + 1) 106 #[.slice none 0 0, .slice none 0 0] := Box.below (Box.alloc (by simpa using Box.new (w.alloc _) 106 #[.slice none 0 0, .slice none 0 0]) _) hb1 lez
 have L1 : Box w1 (w.heap.size + 1 + 1) 106 #[.slice none 0 0, .slice none 0 0] := Box.below (by simpa using Box.new ((w.alloc _).alloc _) 106 #[.slice none 0 0, .slice none 0 0]) hb1 lez
 have P1 : Box w1 w.heap.size 87 #[.slice A0 r0.length c0, .slice A1 l1.length c1] := Box.below (((Box.new w 87 #[.slice A0 r0.length c0, .slice A1 l1.length c1]).alloc _).alloc _) hb1 lez
 have hM1 : New (w.heap.size + 3) (F0) := hN1.lower (by simp)
 clear hN1
 have y1 : ∀ f ∈ F0, f < w1.heap.size := by intro f hf; exact tWhole.row.lt o0 f hf
 have kr1_0 := R1.cell 0; have fr1_0 := R1.frozen 0; have kl1_0 := L1.cell 0; have fl1_0 := L1.frozen 0; have kp1_0 := P1.cell 0
 have kr1_1 := R1.cell 1; have fr1_1 := R1.frozen 1; have kl1_1 := L1.cell 1; have fl1_1 := L1.frozen 1; have kp1_1 := P1.cell 1
 go_wp2_with fail
 refine (o_toIntS (tIs.reach hr1 ?hB) (by omega)).mono ?_
 case hB => exact (belx)
 rintro e w2 ⟨B1, d1, F1, rfl, o1, hN2, hb2⟩
 have z2 : w.heap.size + 3 ≤ w2.heap.size := Nat.le_trans z1 (by have := hb2.size; simpa using this)
 have hB2 : Bel w w2 := bel_trans (belx) hb2
 have R2 : Box w2 (w.heap.size + 1) 106 #[.slice none 0 0, .slice none 0 0] := Box.below (R1.far (p := ⟨w.heap.size + 1 + 1, 0, none⟩) lez (.slice B0 r0.length d0)) hb2 lez
 have L2 : Box w2 (w.heap.size + 1 + 1) 106 #[.slice B0 r0.length d0, .slice none 0 0] := Box.below (by simpa using (L1.put 0 (.slice B0 r0.length d0))) hb2 lez
 have P2 : Box w2 w.heap.size 87 #[.slice A0 r0.length c0, .slice A1 l1.length c1] := Box.below (P1.far (p := ⟨w.heap.size + 1 + 1, 0, none⟩) lez (.slice B0 r0.length d0)) hb2 lez
 replace o0 := Ty.below (t := tWhole.row) (Ty.far (t := tWhole.row) o0 hM1 (p := ⟨w.heap.size + 1 + 1, 0, none⟩) lez (.slice B0 r0.length d0)) hb2
 have hM2 : New (w.heap.size + 3) (F1) := hN2.lower (by simp; omega)
 have hV2 : New w1.heap.size (F1) := hN2.lower lez
 have zz2 : w1.heap.size ≤ w2.heap.size := by have := hb2.size; simpa using this
 clear hN2
 have y2 : ∀ f ∈ F1, f < w2.heap.size := by intro f hf; exact tIs.lt o1 f hf
 have kr2_0 := R2.cell 0; have fr2_0 := R2.frozen 0; have kl2_0 := L2.cell 0; have fl2_0 := L2.frozen 0; have kp2_0 := P2.cell 0
 have kr2_1 := R2.cell 1; have fr2_1 := R2.frozen 1; have kl2_1 := L2.cell 1; have fl2_1 := L2.frozen 1; have kp2_1 := P2.cell 1
 go_wp2
 have RR := (((R2.far (p := ⟨w.heap.size + 1 + 1, 1, none⟩) lez (.slice B1 l1.length d1)).put 0 (.slice B0 r0.length d0)).put 1 (.slice B1 l1.length d1))
 have e0 := RR.cell 0
 have e1 := RR.cell 1
 have u0 := (Ty.far (t := tWhole.row) (Ty.far (t := tWhole.row) (Ty.far (t := tWhole.row) o0 hM1 (p := ⟨w.heap.size + 1 + 1, 1, none⟩) lez (.slice B1 l1.length d1)) hM1 (p := ⟨w.heap.size + 1, 0, none⟩) lez (.slice B0 r0.length d0)) hM1 (p := ⟨w.heap.size + 1, 1, none⟩) lez (.slice B1 l1.length d1))
 have u1 := (Ty.far (t := tIs) (Ty.far (t := tIs) (Ty.far (t := tIs) o1 hM2 (p := ⟨w.heap.size + 1 + 1, 1, none⟩) lez (.slice B1 l1.length d1)) hM2 (p := ⟨w.heap.size + 1, 0, none⟩) lez (.slice B0 r0.length d0)) hM2 (p := ⟨w.heap.size + 1, 1, none⟩) lez (.slice B1 l1.length d1))
 obtain ⟨F, hF, hFe⟩ := makeODesk (p := (r0, l1)) u0 u1
 refine bodyPost_ret (v := .agg #[.slice B0 r0.length d0, .slice B1 l1.length d1]) (by simp [results, Tryz.results99, go_sem, e0, e1]) rfl ⟨_, F, rfl, hF, ?_, ?_⟩
 ·rw [hFe]
  exact New.lower (B := w.heap.size + 3) (by exact (New.app hM1 hV2 (by omega) y1)) (by omega)
 ·exact (bel_put (bel_put (bel_put hB2 lez _) lez _) lez _)
theorem o_eqDesk {w : World} {cs cs' : List Value} {p : DDesk} (h : tDesk.R w w.heap.size cs p) (h' : tDesk.R w w.heap.size cs' p) :
  Calls Tryz.prog 116 #[.agg cs.toArray, .agg cs'.toArray] w fun e w' => e = .returned (.bool true) ∧ Bel w w' := by
 obtain ⟨A0, n0, c0, A1, n1, c1, rfl, ha0, hb0, hl0, hr0, ha1, hb1, hl1, hr1⟩ := openDesk h
 obtain ⟨A0', n0', c0', A1', n1', c1', rfl, ha0', hb0', hl0', hr0', ha1', hb1', hl1', hr1'⟩ := openDesk h'
 obtain ⟨r0, l1⟩ := p
 try dsimp only at *
 subst hl0
 subst hl0'
 subst hl1
 subst hl1'
 go_enter Tryz.func116, Tryz.ntmps116
 go_wp2_with fail
 refine (o_eqWholeS (tWhole.row.reach hr0 ?hB) (tWhole.row.reach hr0' ?hB)).mono ?_
 case hB => exact (belx)
 rintro e w1 ⟨rfl, hb1⟩
 have hB1 : Bel w w1 := bel_trans (belx) hb1
 have P1 : Box w1 w.heap.size 106 #[.slice A0 r0.length c0, .slice A1 l1.length c1] := ((Box.new _ _ _).alloc _).below hb1 lez
 have Q1 : Box w1 (w.heap.size + 1) 106 #[.slice A0' r0.length c0', .slice A1' l1.length c1'] := Box.below (by simpa using Box.new (w.alloc _) 106 #[.slice A0' r0.length c0', .slice A1' l1.length c1']) hb1 lez
 have e0_1 := P1.cell 1
 have e0_1q := Q1.cell 1
 go_wp2_with fail
 refine (o_eqIntS (tIs.reach hr1 ?hB) (tIs.reach hr1' ?hB)).mono ?_
 case hB => exact (belx)
 rintro e w2 ⟨rfl, hb2⟩
 have hB2 : Bel w w2 := bel_trans (belx) hb2
 have P2 := P1.below hb2 P1.size
 have Q2 := Q1.below hb2 Q1.size
 go_wp2
 go_ret
 exact ⟨rfl, hB2⟩
end Go.Proofs.YtkdanlnhdgcplaaGreat
namespace Go.Proofs.YtkdanlnhdgcplaaGreat
set_option maxRecDepth 100000
set_option linter.unusedVariables false
set_option linter.unusedSimpArgs false
open Go.ChangeShapes Go.WideShapes Go.ChangeAt Go.RowKit
theorem o_szLetter_t {w : World} {cs : List Value} {p : DLetter} {k : Int} (h : tLetter.R w w.heap.size cs p) (h1 : 0 ≤ k) (h2 : k ≤ 1048576) (h3 : (szLetter p : Int) ≤ k) :
  Calls Tryz.prog 127 #[.agg cs.toArray, .int .i64 k] w fun e w' => e = .returned (.int .i64 (k - szLetter p)) ∧ Bel w w' := by
 obtain ⟨A1, n1, c1, rfl, hi0, ha1, hb1, hl1, hr1⟩ := openLetter h
 obtain ⟨x0, l1⟩ := p
 try dsimp only [szLetter] at *
 subst hl1
 have d0 : decide (k - ((l1.length : Nat) : Int) < 0) = false := by simp; omega
 go_enter Tryz.func127, Tryz.ntmps127
 go_wp2_with fail
 refine (o_szByteS_t (tBy.reach hr1 ?hB) (by omega) (by omega) (by omega)).mono ?_
 case hB => exact (belx)
 rintro e w1 ⟨rfl, hb1⟩
 have hB1 : Bel w w1 := bel_trans (belx) hb1
 have P1 : Box w1 w.heap.size 182 #[.int .i64 x0, .slice A1 l1.length c1] := (Box.new _ _ _).below hb1 lez
 go_wp2
 go_ret
 exact ⟨ret_int (by omega), hB1⟩
theorem o_szLetter_f {w : World} {cs : List Value} {p : DLetter} {k : Int} (h : tLetter.R w w.heap.size cs p) (h1 : 0 ≤ k) (h2 : k ≤ 1048576) (h3 : ¬ (szLetter p : Int) ≤ k) :
  Calls Tryz.prog 127 #[.agg cs.toArray, .int .i64 k] w fun e w' => e = .returned (.int .i64 (-1)) ∧ Bel w w' := by
 obtain ⟨A1, n1, c1, rfl, hi0, ha1, hb1, hl1, hr1⟩ := openLetter h
 obtain ⟨x0, l1⟩ := p
 try dsimp only [szLetter] at *
 subst hl1
 go_enter Tryz.func127, Tryz.ntmps127
 go_wp2_with fail
 refine (o_szByteS_f (tBy.reach hr1 ?hB) (by omega) (by omega) (by omega)).mono ?_
 case hB => exact (belx)
 rintro e w1 ⟨rfl, hb1⟩
 have hB1 : Bel w w1 := bel_trans (belx) hb1
 have P1 : Box w1 w.heap.size 182 #[.int .i64 x0, .slice A1 l1.length c1] := (Box.new _ _ _).below hb1 lez
 go_wp2
 go_ret
 exact ⟨rfl, hB1⟩
set_option maxHeartbeats 400000 in
theorem o_toLetter {w : World} {cs : List Value} {p : DLetter} (h : tLetter.R w w.heap.size cs p) (hn : szLetter p ≤ 1048576) :
  Calls Tryz.prog 137 #[.agg cs.toArray] w fun e w' => ∃ cs' F, e = .returned (.agg cs'.toArray) ∧ tLetter.O w' cs' p F ∧ New w.heap.size F ∧ Bel w w' := by
 obtain ⟨A1, n1, c1, rfl, hi0, ha1, hb1, hl1, hr1⟩ := openLetter h
 obtain ⟨x0, l1⟩ := p
 try dsimp only [szLetter] at *
 subst hl1
 go_enter Tryz.func137, Tryz.ntmps137
 go_wp2_with fail
 refine (o_toByteS (tBy.reach hr1 ?hB) (by omega)).mono ?_
 case hB => exact (belx)
 rintro e w1 ⟨B1, d1, F1, rfl, o1, hN1, hb1⟩
 have z1 : w.heap.size + 3 ≤ w1.heap.size := by have := hb1.size; simpa using this
 have hB1 : Bel w w1 := bel_trans (belx) hb1
 have R1 : Box w1 (w.heap.size + 1) 151 #[.int .i64 0, .slice none 0 0] := Box.below (Box.alloc (by simpa using Box.new (w.alloc _) 151 #[.int .i64 0, .slice none 0 0]) _) hb1 lez
 have L1 : Box w1 (w.heap.size + 1 + 1) 151 #[.int .i64 x0, .slice none 0 0] := Box.below (by simpa using Box.new ((w.alloc _).alloc _) 151 #[.int .i64 x0, .slice none 0 0]) hb1 lez
 have P1 : Box w1 w.heap.size 182 #[.int .i64 x0, .slice A1 l1.length c1] := Box.below (((Box.new w 182 #[.int .i64 x0, .slice A1 l1.length c1]).alloc _).alloc _) hb1 lez
 have hM1 : New (w.heap.size + 3) (F1) := hN1.lower (by simp)
 clear hN1
 have y1 : ∀ f ∈ F1, f < w1.heap.size := by intro f hf; exact tBy.lt o1 f hf
 have kr1_0 := R1.cell 0; have fr1_0 := R1.frozen 0; have kl1_0 := L1.cell 0; have fl1_0 := L1.frozen 0; have kp1_0 := P1.cell 0
 have kr1_1 := R1.cell 1; have fr1_1 := R1.frozen 1; have kl1_1 := L1.cell 1; have fl1_1 := L1.frozen 1; have kp1_1 := P1.cell 1
 go_wp2
 have RR := (((R1.far (p := ⟨w.heap.size + 1 + 1, 1, none⟩) lez (.slice B1 l1.length d1)).put 0 (.int .i64 x0)).put 1 (.slice B1 l1.length d1))
 have e0 := RR.cell 0
 have e1 := RR.cell 1
 have u1 := (Ty.far (t := tBy) (Ty.far (t := tBy) (Ty.far (t := tBy) o1 hM1 (p := ⟨w.heap.size + 1 + 1, 1, none⟩) lez (.slice B1 l1.length d1)) hM1 (p := ⟨w.heap.size + 1, 0, none⟩) lez (.int .i64 x0)) hM1 (p := ⟨w.heap.size + 1, 1, none⟩) lez (.slice B1 l1.length d1))
 obtain ⟨F, hF, hFe⟩ := makeOLetter (p := (x0, l1)) hi0 u1
 refine bodyPost_ret (v := .agg #[.int .i64 x0, .slice B1 l1.length d1]) (by simp [results, Tryz.results137, go_sem, e0, e1]) rfl ⟨_, F, rfl, hF, ?_, ?_⟩
 ·rw [hFe]
  exact New.lower (B := w.heap.size + 3) (by exact hM1) (by omega)
 ·exact (bel_put (bel_put (bel_put hB1 lez _) lez _) lez _)
theorem o_eqLetter {w : World} {cs cs' : List Value} {p : DLetter} (h : tLetter.R w w.heap.size cs p) (h' : tLetter.R w w.heap.size cs' p) :
  Calls Tryz.prog 153 #[.agg cs.toArray, .agg cs'.toArray] w fun e w' => e = .returned (.bool true) ∧ Bel w w' := by
 obtain ⟨A1, n1, c1, rfl, hi0, ha1, hb1, hl1, hr1⟩ := openLetter h
 obtain ⟨A1', n1', c1', rfl, hi0', ha1', hb1', hl1', hr1'⟩ := openLetter h'
 obtain ⟨x0, l1⟩ := p
 try dsimp only at *
 subst hl1
 subst hl1'
 have q0 : (x0 != x0) = false := by simp
 go_enter Tryz.func153, Tryz.ntmps153
 go_wp2_with fail
 refine (o_eqByteS (tBy.reach hr1 ?hB) (tBy.reach hr1' ?hB)).mono ?_
 case hB => exact (belx)
 rintro e w1 ⟨rfl, hb1⟩
 have hB1 : Bel w w1 := bel_trans (belx) hb1
 have P1 : Box w1 w.heap.size 151 #[.int .i64 x0, .slice A1 l1.length c1] := ((Box.new _ _ _).alloc _).below hb1 lez
 have Q1 : Box w1 (w.heap.size + 1) 151 #[.int .i64 x0, .slice A1' l1.length c1'] := Box.below (by simpa using Box.new (w.alloc _) 151 #[.int .i64 x0, .slice A1' l1.length c1']) hb1 lez
 go_wp2
 go_ret
 exact ⟨rfl, hB1⟩
end Go.Proofs.YtkdanlnhdgcplaaGreat
namespace Go.Proofs.YtkdanlnhdgcplaaGreat
set_option maxRecDepth 100000
set_option linter.unusedVariables false
set_option linter.unusedSimpArgs false
open Go.ChangeShapes Go.WideShapes Go.ChangeAt Go.RowKit
theorem o_szLetterS_t {w : World} {n c : Nat} {A : Option Addr} {l : List DLetter} {k : Int} (h : tLetter.row.R w w.heap.size [.slice A n c] l) (h1 : 0 ≤ k) (h2 : k ≤ 1048576) (h3 : (rsz szLetter l : Int) ≤ k) :
  Calls Tryz.prog 88 #[.slice A n c, .int .i64 k] w fun e w' => e = .returned (.int .i64 (k - rsz szLetter l)) ∧ Bel w w' := by
 obtain ⟨hln, hnc, hcm⟩ := rowR_len h
 obtain ⟨s, hs⟩ : ∃ s, rsum szLetter l = s := ⟨_, rfl⟩
 have hz : rsz szLetter l = n + s := by unfold rsz; rw [hln, hs]
 rw [hz] at h3 ⊢
 have HLN := Lib.hid hln
 have HS := Lib.hid hs
 clear hz hln hs
 have d : decide (k - (n : Int) < 0) = false := by simp; omega
 go_enter Tryz.func88, Tryz.ntmps88
 go_wp2_with fail
 go_loopw [1, 5] (fun x i wr => ∃ j : Nat, j ≤ n ∧ x = .int .i64 (k - n - (rsum szLetter (l.take j) : Nat)) ∧ i = .int .i64 j ∧ Bel w wr) (fun _ i _ => n - (RowKit.intOf i).toNat)
 case atStart => exact ⟨0, by omega, by rw [rsum_zero]; go_num, rfl, (belx)⟩
 case round =>
  obtain ⟨j, hj, rfl, rfl, hB⟩ := hrel
  by_cases hlt : j < n
  ·obtain ⟨a, b, off, es, hl, rfl, hb, hes, hR⟩ := rowR_at (K := 2) h hlt rfl
   have hsa := rsum_at (c := szLetter) hl
   have hsn := rsum_sn (c := szLetter) hl
   rw [HS.out] at hsa
   obtain ⟨q, hq⟩ : ∃ q, rsum szLetter (l.take j) = q := ⟨_, rfl⟩
   obtain ⟨q', hq'⟩ : ∃ q, rsum szLetter (l.take (j + 1)) = q := ⟨_, rfl⟩
   rw [hq] at hsa hsn
   rw [hq'] at hsn
   rw [hq]
   have HQ := Lib.hid hq'
   clear hq hq'
   obtain ⟨A1, n1, c1, rfl, hi0, ha1, hb1, hl1, hr1⟩ := openLetter hR
   have e0 : wr.cell? ⟨b, off + j * 2, none⟩ = some (.int .i64 (a.1)) := cell_at hB hb (hes 0 (by omega))
   have e1 : wr.cell? ⟨b, off + j * 2 + 1, none⟩ = some (.slice A1 n1 c1) := cell_at hB hb (hes 1 (by omega))
   clear hes
   have d2 : decide (k - (n : Int) - q - (szLetter a : Nat) < 0) = false := by simp; omega
   go_wp2_with fail
   refine (o_szLetter_t (tLetter.reach hR ?hB) (by omega) (by omega) (by omega)).mono ?_
   case hB => exact (belx)
   rintro e w1 ⟨rfl, hb1⟩
   go_wp2
   go_roundw
   case rel => exact ⟨j + 1, by omega, by rw [HQ.out]; go_num, by go_num, bel_trans hB hb1⟩
   case measure => simp [RowKit.intOf]; omega
  ·obtain rfl : j = n := by omega
   have HA := Lib.hid (show rsum szLetter (l.take j) = s from by rw [rsum_all (Nat.le_of_eq HLN.out)]; exact HS.out)
   rw [HA.out]
   go_wp2
   go_ret
   exact ⟨ret_int (by omega), hB⟩
theorem o_szLetterS_f {w : World} {n c : Nat} {A : Option Addr} {l : List DLetter} {k : Int} (h : tLetter.row.R w w.heap.size [.slice A n c] l) (h1 : 0 ≤ k) (h2 : k ≤ 1048576) (h3 : ¬ (rsz szLetter l : Int) ≤ k) :
  Calls Tryz.prog 88 #[.slice A n c, .int .i64 k] w fun e w' => e = .returned (.int .i64 (-1)) ∧ Bel w w' := by
 obtain ⟨hln, hnc, hcm⟩ := rowR_len h
 obtain ⟨s, hs⟩ : ∃ s, rsum szLetter l = s := ⟨_, rfl⟩
 have hz : rsz szLetter l = n + s := by unfold rsz; rw [hln, hs]
 rw [hz] at h3
 have HLN := Lib.hid hln
 have HS := Lib.hid hs
 clear hz hln hs
 by_cases hnk : k < (n : Int)
 ·have d : decide (k - (n : Int) < 0) = true := by simp; omega
  go_enter Tryz.func88, Tryz.ntmps88
  go_wp2
  go_ret
  exact ⟨rfl, (belx)⟩
 have d : decide (k - (n : Int) < 0) = false := by simp; omega
 go_enter Tryz.func88, Tryz.ntmps88
 go_wp2_with fail
 go_loopw [1, 5] (fun x i wr => ∃ j : Nat, j ≤ n ∧ x = .int .i64 (k - n - (rsum szLetter (l.take j) : Nat)) ∧ i = .int .i64 j ∧ Bel w wr ∧ (n : Int) + (rsum szLetter (l.take j) : Nat) ≤ k) (fun _ i _ => n - (RowKit.intOf i).toNat)
 case atStart => exact ⟨0, by omega, by rw [rsum_zero]; go_num, rfl, (belx), by rw [rsum_zero]; omega⟩
 case round =>
  obtain ⟨j, hj, rfl, rfl, hB, hv⟩ := hrel
  by_cases hlt : j < n
  ·obtain ⟨a, b, off, es, hl, rfl, hb, hes, hR⟩ := rowR_at (K := 2) h hlt rfl
   have hsa := rsum_at (c := szLetter) hl
   have hsn := rsum_sn (c := szLetter) hl
   rw [HS.out] at hsa
   obtain ⟨q, hq⟩ : ∃ q, rsum szLetter (l.take j) = q := ⟨_, rfl⟩
   obtain ⟨q', hq'⟩ : ∃ q, rsum szLetter (l.take (j + 1)) = q := ⟨_, rfl⟩
   rw [hq] at hsa hsn
   rw [hq'] at hsn
   rw [hq]
   have HQ := Lib.hid hq'
   rw [hq] at hv
   clear hq hq'
   obtain ⟨A1, n1, c1, rfl, hi0, ha1, hb1, hl1, hr1⟩ := openLetter hR
   have e0 : wr.cell? ⟨b, off + j * 2, none⟩ = some (.int .i64 (a.1)) := cell_at hB hb (hes 0 (by omega))
   have e1 : wr.cell? ⟨b, off + j * 2 + 1, none⟩ = some (.slice A1 n1 c1) := cell_at hB hb (hes 1 (by omega))
   clear hes
   by_cases hg : (n : Int) + q + (szLetter a : Nat) ≤ k
   ·have d2 : decide (k - (n : Int) - q - (szLetter a : Nat) < 0) = false := by simp; omega
    go_wp2_with fail
    refine (o_szLetter_t (tLetter.reach hR ?hB) (by omega) (by omega) (by omega)).mono ?_
    case hB => exact (belx)
    rintro e w1 ⟨rfl, hb1⟩
    go_wp2
    go_roundw
    case rel => exact ⟨j + 1, by omega, by rw [HQ.out]; go_num, by go_num, bel_trans hB hb1, by rw [HQ.out]; omega⟩
    case measure => simp [RowKit.intOf]; omega
   ·go_wp2_with fail
    refine (o_szLetter_f (tLetter.reach hR ?hB) (by omega) (by omega) (by omega)).mono ?_
    case hB => exact (belx)
    rintro e w1 ⟨rfl, hb1⟩
    go_wp2
    go_ret
    exact ⟨rfl, bel_trans hB hb1⟩
  ·obtain rfl : j = n := by omega
   have HA := Lib.hid (show rsum szLetter (l.take j) = s from by rw [rsum_all (Nat.le_of_eq HLN.out)]; exact HS.out)
   rw [HA.out] at hv
   exact absurd hv (by omega)
theorem info_Letter : (Tryz.prog.info? 151).map (fun i => (i.zero, i.size, i.bytes)) = some (some (.agg #[.int .i64 0, .slice none 0 0]), 2, 32) := by kernel_rfl
set_option maxHeartbeats 800000 in
theorem o_toLetterS {w : World} {n c : Nat} {A : Option Addr} {l : List DLetter} (h : tLetter.row.R w w.heap.size [.slice A n c] l) (hz : rsz szLetter l ≤ 1048576) :
  Calls Tryz.prog 100 #[.slice A n c] w fun e w' => ∃ A' c' F, e = .returned (.slice A' l.length c') ∧ tLetter.row.O w' [.slice A' l.length c'] l F ∧ New w.heap.size F ∧ Bel w w' := by
 obtain ⟨i0, hi0, hz0, hz1, hz2⟩ := info_parts info_Letter
 obtain ⟨hln, hnc, hcm⟩ := rowR_len h
 have hn : n ≤ 1048576 := by have := rsz_le (s := szLetter) l; omega
 have HLN := Lib.hid hln
 have HZ := Lib.hid hz
 clear hln hz
 go_enter Tryz.func100, Tryz.ntmps100
 go_wp2_with (at_make; refine wpList_mkS _ rfl (.tmp 6) (.tmp 6) _ rfl 151 i0 _ 2 Tryz.underlying107 hi0 hz0 hz1 n rfl rfl (by rw [hz2]; omega) (by simp only [maxLen]; omega) ?_; intro w1 cur hcur hsz hB1 hgr)
 go_loopw [4] (fun i wr => ∃ j : Nat, j ≤ n ∧ i = .int .i64 j ∧ Bel w wr ∧ ∃ F, Fill tLetter wr w.heap.size 151 n (l.take j) F ∧ New (w.heap.size + 1) F) (fun i _ => n - (RowKit.intOf i).toNat)
 case atStart => exact ⟨0, by omega, rfl, hB1, [], Fill.start hcur hsz, New.nil _⟩
 case round =>
  obtain ⟨j, hj, rfl, hB, F, hf, hN⟩ := hrel
  by_cases hlt : j < n
  ·obtain ⟨a, b, off, es, hl, rfl, hb, hes, hR⟩ := rowR_at (K := 2) h hlt rfl
   have HT := Lib.hid (take_sn hl)
   have HLT := Lib.hid (show (l.take j).length = j from by rw [List.length_take, HLN.out]; omega)
   have hsa : szLetter a ≤ 1048576 := by have := rsz_step (s := szLetter) hl; have := HZ.out; omega
   obtain ⟨A1, n1, c1, rfl, hi0, ha1, hb1, hl1, hr1⟩ := openLetter hR
   subst hl1
   have e0 : wr.cell? ⟨b, off + j * 2, none⟩ = some (.int .i64 (a.1)) := cell_at hB hb (hes 0 (by omega))
   have e1 : wr.cell? ⟨b, off + j * 2 + 1, none⟩ = some (.slice A1 (a.2).length c1) := cell_at hB hb (hes 1 (by omega))
   clear hes
   have hgs := hf.size
   go_wp2_with fail
   refine (o_toLetter (tLetter.reach hR ?hB) hsa).mono ?_
   case hB => exact (belx)
   rintro e w2 ⟨cs2, F2, rfl, hO2, hN2, hb2⟩
   obtain ⟨B1, d1, G1, rfl, hFe, _, _, _, _⟩ := openOLetter hO2
   clear hFe
   have hf2 := hf.below hb2
   have hsz2 := hb2.size
   have hP := Fill.push (K := 2) hf2 (by rw [HLT.out]; exact hlt) hO2 (hN.not (by omega)) (hN2.not hgs) rfl
   rw [HLT.out, ← HT.out] at hP
   have hM : New (w.heap.size + 1) (F ++ F2) := New.app hN hN2 (by omega) hf.lt
   obtain ⟨u0, k0⟩ := hf2.cell (K := 2) (j := 0) (by rw [HLT.out]; exact hlt) rfl (by omega)
   rw [HLT.out] at k0
   replace k0 : w2.cell? ⟨w.heap.size, j * 2, none⟩ = some u0 := k0
   have f0 := hf2.frozen (j * 2)
   obtain ⟨u1, k1⟩ := hf2.cell (K := 2) (j := 1) (by rw [HLT.out]; exact hlt) rfl (by omega)
   rw [HLT.out] at k1
   replace k1 : w2.cell? ⟨w.heap.size, j * 2 + 1, none⟩ = some u1 := k1
   have f1 := hf2.frozen (j * 2 + 1)
   go_wp2
   go_roundw
   case rel => exact ⟨j + 1, by omega, by go_num, below_puts (bel_trans hB hb2) (Nat.le_refl _) (off := j * 2) (vs := [.int .i64 (a.1), .slice B1 (a.2).length d1]), _, hP, hM⟩
   case measure => simp [RowKit.intOf]; omega
  ·obtain rfl : j = n := by omega
   have HA := Lib.hid (show l.take j = l from by rw [List.take_of_length_le (Nat.le_of_eq HLN.out)])
   rw [HA.out] at hf
   obtain ⟨F2, hF2, hor⟩ := hf.done HLN.out (by omega)
   have HN := Lib.hid HLN.out
   go_wp2
   go_ret
   refine ⟨some ⟨w.heap.size, 0, none⟩, j, F2, ?_, hF2, hN.cons hor, hB⟩
   rw [HN.out]
   rfl
set_option maxHeartbeats 800000 in
theorem o_eqLetterS {w : World} {n m c d : Nat} {A A' : Option Addr} {l : List DLetter} (h : tLetter.row.R w w.heap.size [.slice A n c] l) (h' : tLetter.row.R w w.heap.size [.slice A' m d] l) :
  Calls Tryz.prog 117 #[.slice A n c, .slice A' m d] w fun e w' => e = .returned (.bool true) ∧ Bel w w' := by
 obtain ⟨hln, hnc, hcm⟩ := rowR_len h
 obtain ⟨hln', hnc', hcm'⟩ := rowR_len h'
 obtain rfl : m = n := by omega
 have HLN := Lib.hid hln
 clear hln hln'
 go_enter Tryz.func117, Tryz.ntmps117
 go_wp2_with fail
 go_loopw [5] (fun i wr => ∃ j : Nat, j ≤ m ∧ i = .int .i64 j ∧ Bel w wr) (fun i _ => m - (RowKit.intOf i).toNat)
 case atStart => exact ⟨0, by omega, rfl, (belx)⟩
 case round =>
  obtain ⟨j, hj, rfl, hB⟩ := hrel
  by_cases hlt : j < m
  ·obtain ⟨a, b, off, es, hl, rfl, hb, hes, hR⟩ := rowR_at (K := 2) h hlt rfl
   obtain ⟨a', b', off', es', hl', rfl, hb', hes', hR'⟩ := rowR_at (K := 2) h' hlt rfl
   obtain rfl : a = a' := by rw [hl] at hl'; exact Option.some.inj hl'
   clear hl hl'
   obtain ⟨A1, n1, c1, rfl, hi0, ha1, hb1, hl1, hr1⟩ := openLetter hR
   obtain ⟨A1', n1', c1', rfl, hi0', ha1', hb1', hl1', hr1'⟩ := openLetter hR'
   subst hl1
   subst hl1'
   have e0 : wr.cell? ⟨b, off + j * 2, none⟩ = some (.int .i64 (a.1)) := cell_at hB hb (hes 0 (by omega))
   have e1 : wr.cell? ⟨b, off + j * 2 + 1, none⟩ = some (.slice A1 (a.2).length c1) := cell_at hB hb (hes 1 (by omega))
   have e0' : wr.cell? ⟨b', off' + j * 2, none⟩ = some (.int .i64 (a.1)) := cell_at hB hb' (hes' 0 (by omega))
   have e1' : wr.cell? ⟨b', off' + j * 2 + 1, none⟩ = some (.slice A1' (a.2).length c1') := cell_at hB hb' (hes' 1 (by omega))
   clear hes hes'
   go_wp2_with fail
   go_region_held3 (fun w' => w'.cell? ⟨b, off + j * 2, none⟩ = some (.int .i64 (a.1)) ∧ w'.cell? ⟨b, off + j * 2 + 1, none⟩ = some (.slice A1 (a.2).length c1) ∧ w'.cell? ⟨b', off' + j * 2, none⟩ = some (.int .i64 (a.1)) ∧ w'.cell? ⟨b', off' + j * 2 + 1, none⟩ = some (.slice A1' (a.2).length c1')) (first | (exact ⟨e0, e1, e0', e1'⟩) | (exact ⟨cell_bel hs2 e0, cell_bel hs2 e1, cell_bel hs2 e0', cell_bel hs2 e1'⟩) | go_keep)
    ((go_at_call 153; refine (o_eqLetter (tLetter.reach hR (belx)) (tLetter.reach hR' (belx))).mono ?_; rintro e w2 ⟨rfl, hb2⟩; have hs2 : Bel wr w2 := bel_trans (belx) hb2))
   go_wp2
   go_roundw
   case rel => exact ⟨j + 1, by omega, by go_num, bel_trans hB hs2⟩
   case measure => simp [RowKit.intOf]; omega
  ·obtain rfl : j = m := by omega
   go_wp2
   go_ret
   exact ⟨rfl, hB⟩
set_option maxHeartbeats 1000000 in
theorem o_markLetterS {w : World} {n c : Nat} {A : Option Addr} {l : List DLetter} {F : List Nat} (k : Int) (h : tLetter.row.O w [.slice A n c] l F) (hF : F.Nodup) (h0 : 0 ≤ k) (hk : k + rsum rcLetter l ≤ 4611686018427387904) :
  Calls Tryz.prog 79 #[.slice A n c, .int .i64 k] w fun e w' => e = .returned (.int .i64 (k + rsum rcLetter l)) ∧ tLetter.row.O w' [.slice A n c] (rmk rcLetter rmLetter k l) F ∧ Only F w w' := by
 obtain ⟨_, _, hsh, hnc, hcm⟩ := rowO_shape h
 have hln : l.length = n := by injection hsh with _ e2 _; exact e2.symm
 have hnc2 : n ≤ 9223372036854775807 := by omega
 clear hsh hnc hcm
 obtain ⟨s, hs⟩ : ∃ s, rsum rcLetter l = s := ⟨_, rfl⟩
 rw [hs] at hk ⊢
 have HLN := Lib.hid hln
 have HS := Lib.hid hs
 clear hln hs
 go_enter Tryz.func79, Tryz.ntmps79
 go_wp2
 go_loopw [1, 5] (fun x i wr => ∃ j : Nat, j ≤ n ∧ x = .int .i64 (k + (rsum rcLetter (l.take j) : Nat)) ∧ i = .int .i64 j ∧ tLetter.row.O wr [.slice A n c] (rpart rcLetter rmLetter k l j) F ∧ Only F w wr) (fun _ i _ => n - (RowKit.intOf i).toNat)
 case atStart => exact ⟨0, by omega, by rw [rsum_zero]; go_num, rfl, by rw [rpart_zero]; exact h, Only.refl _ _⟩
 case round =>
  obtain ⟨j, hj, rfl, rfl, hO, hG⟩ := hrel
  by_cases hlt : j < n
  ·obtain ⟨a, hl⟩ : ∃ a, l[j]? = some a := ⟨_, List.getElem?_eq_getElem (by rw [HLN.out]; exact hlt)⟩
   have HP := Lib.hid (rpart_set (c := rcLetter) (m := rmLetter) (k := k) hl)
   have hat := rpart_at (c := rcLetter) (m := rmLetter) (k := k) hl
   have hsa := rsum_at (c := rcLetter) hl
   have hsn := rsum_sn (c := rcLetter) hl
   rw [HS.out] at hsa
   obtain ⟨q, hq⟩ : ∃ q, rsum rcLetter (l.take j) = q := ⟨_, rfl⟩
   obtain ⟨q', hq'⟩ : ∃ q, rsum rcLetter (l.take (j + 1)) = q := ⟨_, rfl⟩
   rw [hq] at hsa hsn
   rw [hq'] at hsn
   rw [hq]
   have HQ := Lib.hid hq'
   have HQ2 := Lib.hid hq
   clear hq hq'
   dsimp only [rcLetter] at hsa hsn
   obtain ⟨g, off, cur, et, es, Fi, rfl, hcur, hes, hOe, hgF, hgi, hFi, hnd, hback⟩ := rowO_at (K := 2) hO hF hat rfl
   obtain ⟨A1, c1, F1, rfl, hFe, hi0, ha1, hb1, hr1⟩ := openOLetter hOe
   subst Fi
   obtain ⟨x0, l1⟩ := a
   dsimp only at *
   have e0 : wr.cell? ⟨g, off + j * 2, none⟩ = some (.int .i64 x0) := by rw [Box.cell (t := et) hcur]; exact hes 0 (by omega)
   have f0 : wr.frozen? ⟨g, off + j * 2, none⟩ = false := Box.frozen (t := et) hcur _
   have e1 : wr.cell? ⟨g, off + j * 2 + 1, none⟩ = some (.slice A1 l1.length c1) := by rw [Box.cell (t := et) hcur]; exact hes 1 (by omega)
   have f1 : wr.frozen? ⟨g, off + j * 2 + 1, none⟩ = false := Box.frozen (t := et) hcur _
   obtain ⟨cur1, hX0, hcs, hun, hval⟩ := puts_heap (off := off + j * 2) (vs := [.int .i64 (k + (q : Int))]) hcur
   dsimp only [List.length_cons, List.length_nil] at hun hval
   have hcz : ∀ i, i < 2 → off + j * 2 + i < cur.size := fun i hi => by
    by_cases hh : off + j * 2 + i < cur.size
    ·exact hh
    ·have := hes i hi; rw [Array.getElem?_eq_none (by omega)] at this; rcases (by omega : i = 0 ∨ i = 1) with rfl | rfl <;> simp at this
   have hgz : g < (puts wr g (off + j * 2) [.int .i64 (k + (q : Int))]).heap.size := by rw [size_puts]; exact Box.size (t := et) hcur
   have OG0 : Only F w (puts wr g (off + j * 2) [.int .i64 (k + (q : Int))]) := only_puts hG hgF
   have hk0 : ∀ f, f ≠ g → (puts wr g (off + j * 2) [.int .i64 (k + (q : Int))]).heap[f]? = wr.heap[f]? := fun f hf => puts_far hf
   have hzz : (puts wr g (off + j * 2) [.int .i64 (k + (q : Int))]).heap.size = wr.heap.size := size_puts
   have y1 : ∀ f ∈ F1, f < wr.heap.size ∧ f ≠ g := fun f hf => ⟨(tBy).lt hr1 f hf, fun e => hgi (by rw [← e]; simp [hf])⟩
   replace hr1 := (tBy).kept (w' := puts wr g (off + j * 2) [.int .i64 (k + (q : Int))]) hr1 (fun f hf => hk0 f (y1 f hf).2)
   have nd1 : F1.Nodup := hnd
   obtain ⟨W0, hW0⟩ : ∃ W0, puts wr g (off + j * 2) [.int .i64 (k + (q : Int))] = W0 := ⟨_, rfl⟩
   rw [hW0] at hX0 hgz OG0 hk0 hzz hr1
   have Z0 : wr.heap.size ≤ W0.heap.size := Nat.le_of_eq hzz.symm
   have hX : W0.heap[g]? = some (.cells cur1 et (0, 0)) := hX0
   go_wp2_with fail
   have hWe : (wr.setCell ⟨g, off + j * 2, none⟩ (.int .i64 (k + (q : Int)))) = W0 := hW0
   rw [hWe]
   refine (o_markByteS (k + (q : Int) + 1) hr1 (by omega) (by omega)).mono ?_
   rintro e W1 ⟨rfl, hO1, hG1⟩
   have OG1 : Only F w W1 := OG0.trans (hG1.mono (fun f hf => hFi f (by simp [hf])))
   have Z1 : wr.heap.size ≤ W1.heap.size := Nat.le_trans Z0 hG1.size
   have hgz : g < W1.heap.size := Nat.lt_of_lt_of_le hgz hG1.size
   replace hX : W1.heap[g]? = some (.cells cur1 et (0, 0)) := (hG1.block g (by omega) (fun e => (y1 g e).2 rfl)).trans hX
   replace hr1 := hO1
   have wf0 : (Lit.int .i64 (k + (q : Int))).wf = true := WalkArith.wf_i64 (by omega)
   obtain ⟨F2, hF2, hF2e⟩ := makeOLetter (w := W1) (p := rmLetter (k + (q : Int)) (x0, l1)) wf0 hr1
   subst hF2e
   have hfin := hback W1 cur1 [.int .i64 (k + (q : Int)), .slice A1 l1.length c1] (rmLetter (k + (q : Int)) (x0, l1)) hX (by
    intro i hi
    rcases (by omega : i = 0 ∨ i = 1) with rfl | rfl
    ·exact hval 0 (by omega) (hcz 0 (by omega))
    ·rw [hun _ (by omega)]; exact hes 1 (by omega)) (by
    intro q2 hq2
    refine hun q2 ?_
    rcases Nat.lt_or_ge q2 (off + j * 2) with h1 | h1
    ·exact .inl h1
    ·rcases Nat.lt_or_ge q2 (off + j * 2 + 2) with h2 | h2
     ·exact absurd (by omega) (hq2 (q2 - (off + j * 2)) (by omega))
     ·exact .inr (by omega)) hF2 (by
    intro f hf h1 h2
    skip
    have hfz : f < wr.heap.size := (tLetter.row).lt hO f hf
    exact ((hG1.block f (by omega) h2).trans (hk0 f h1)))
   have HPq := HP.out
   rw [HQ2.out] at HPq
   rw [HPq] at hfin
   clear HPq
   go_wp2
   go_roundw
   case rel => exact ⟨j + 1, by omega, by rw [HQ.out]; go_num, by go_num, hfin, OG1⟩
   case measure => simp [RowKit.intOf]; omega
  ·obtain rfl : j = n := by omega
   have HA := Lib.hid (show rsum rcLetter (l.take j) = s from by rw [rsum_all (Nat.le_of_eq HLN.out)]; exact HS.out)
   rw [HA.out]
   rw [rpart_all (Nat.le_of_eq HLN.out)] at hO
   go_wp2
   go_ret
   exact ⟨rfl, hO, hG⟩
set_option maxHeartbeats 1000000 in
theorem o_heldLetterS {w : World} {n c : Nat} {A : Option Addr} {l : List DLetter} (k : Int) (h : tLetter.row.R w w.heap.size [.slice A n c] (rmk rcLetter rmLetter k l)) (h0 : 0 ≤ k) (hk : k + rsum rcLetter l ≤ 4611686018427387904) :
  Calls Tryz.prog 83 #[.slice A n c, .int .i64 k] w fun e w' => e = .returned (.int .i64 (k + rsum rcLetter l)) ∧ Bel w w' := by
 obtain ⟨hln, hnc, hcm⟩ := rowR_len h
 rw [rmk_len] at hln
 obtain ⟨s, hs⟩ : ∃ s, rsum rcLetter l = s := ⟨_, rfl⟩
 rw [hs] at hk ⊢
 have HLN := Lib.hid hln
 have HS := Lib.hid hs
 clear hln hs
 go_enter Tryz.func83, Tryz.ntmps83
 go_wp2
 go_loopw [1, 5] (fun x i wr => ∃ j : Nat, j ≤ n ∧ x = .int .i64 (k + (rsum rcLetter (l.take j) : Nat)) ∧ i = .int .i64 j ∧ Bel w wr) (fun _ i _ => n - (RowKit.intOf i).toNat)
 case atStart => exact ⟨0, by omega, by rw [rsum_zero]; go_num, rfl, (belx)⟩
 case round =>
  obtain ⟨j, hj, rfl, rfl, hB⟩ := hrel
  by_cases hlt : j < n
  ·obtain ⟨a, hl⟩ : ∃ a, l[j]? = some a := ⟨_, List.getElem?_eq_getElem (by rw [HLN.out]; exact hlt)⟩
   obtain ⟨a2, b, off, es, hl2, rfl, hb, hes, hR⟩ := rowR_at (K := 2) h hlt rfl
   have hat := rmk_at (c := rcLetter) (m := rmLetter) (k := k) hl
   obtain rfl : _ = a2 := Option.some.inj (hat.symm.trans hl2)
   clear hl2 hat
   have hsa := rsum_at (c := rcLetter) hl
   have hsn := rsum_sn (c := rcLetter) hl
   rw [HS.out] at hsa
   obtain ⟨q, hq⟩ : ∃ q, rsum rcLetter (l.take j) = q := ⟨_, rfl⟩
   obtain ⟨q', hq'⟩ : ∃ q, rsum rcLetter (l.take (j + 1)) = q := ⟨_, rfl⟩
   rw [hq] at hsa hsn
   rw [hq'] at hsn
   rw [hq] at hR ⊢
   have HQ := Lib.hid hq'
   clear hq hq'
   dsimp only [rcLetter] at hsa hsn
   obtain ⟨A1, n1, c1, rfl, hi0, ha1, hb1, hl1, hr1⟩ := openLetter hR
   obtain ⟨x0, l1⟩ := a
   dsimp only [rmLetter] at *
   have q0 : ((k + (q : Int) : Int) != k + (q : Int)) = false := by simp
   have e0 : wr.cell? ⟨b, off + j * 2, none⟩ = some (.int .i64 (k + (q : Int))) := cell_at hB hb (hes 0 (by omega))
   have e1 : wr.cell? ⟨b, off + j * 2 + 1, none⟩ = some (.slice A1 n1 c1) := cell_at hB hb (hes 1 (by omega))
   have d0 : decide (k + (q : Int) + 1 + ((l1.length : Nat) : Int) < 0) = false := by simp; omega
   go_wp2_with fail
   refine (o_heldByteS (k + (q : Int) + 1) ((tBy).reach hr1 ?hB) (by omega) (by omega)).mono ?_
   case hB => exact (belx)
   rintro e w1 ⟨rfl, hb1⟩
   have hB1 : Bel w w1 := bel_trans hB hb1
   have e1_1 : w1.cell? ⟨b, off + j * 2 + 1, none⟩ = some (.slice A1 n1 c1) := cell_at hB1 hb (hes 1 (by omega))
   go_wp2
   go_roundw
   case rel => exact ⟨j + 1, by omega, by rw [HQ.out]; go_num, by go_num, hB1⟩
   case measure => simp [RowKit.intOf]; omega
  ·obtain rfl : j = n := by omega
   have HA := Lib.hid (show rsum rcLetter (l.take j) = s from by rw [rsum_all (Nat.le_of_eq HLN.out)]; exact HS.out)
   rw [HA.out]
   go_wp2
   go_ret
   exact ⟨rfl, hB⟩
end Go.Proofs.YtkdanlnhdgcplaaGreat
namespace Go.Proofs.YtkdanlnhdgcplaaGreat
set_option maxRecDepth 100000
set_option linter.unusedVariables false
set_option linter.unusedSimpArgs false
open Go.ChangeShapes Go.WideShapes Go.ChangeAt Go.RowKit
theorem o_szHeld_t {w : World} {cs : List Value} {p : DHeld} {k : Int} (h : tHeld.R w w.heap.size cs p) (h1 : 0 ≤ k) (h2 : k ≤ 1048576) (h3 : (szHeld p : Int) ≤ k) :
  Calls Tryz.prog 157 #[.agg cs.toArray, .int .i64 k] w fun e w' => e = .returned (.int .i64 (k - szHeld p)) ∧ Bel w w' := by
 obtain ⟨A2, n2, c2, rfl, hi0, hi1, ha2, hb2, hl2, hr2⟩ := openHeld h
 obtain ⟨x0, x1, l2⟩ := p
 try dsimp only [szHeld] at *
 subst hl2
 have d0 : decide (k - ((szCell l2 : Nat) : Int) < 0) = false := by simp; omega
 go_enter Tryz.func157, Tryz.ntmps157
 go_wp2_with fail
 refine (o_szCell_t (tCell.reach (makeCell (p := l2) hr2) ?hB) (by omega) (by omega) (by omega)).mono ?_
 case hB => exact (belx)
 rintro e w1 ⟨rfl, hb1⟩
 have hB1 : Bel w w1 := bel_trans (belx) hb1
 have P1 : Box w1 w.heap.size 212 #[.int .i64 x0, .int .i64 x1, .slice A2 l2.length c2] := (Box.new _ _ _).below hb1 lez
 go_wp2
 go_ret
 exact ⟨ret_int (by omega), hB1⟩
theorem o_szHeld_f {w : World} {cs : List Value} {p : DHeld} {k : Int} (h : tHeld.R w w.heap.size cs p) (h1 : 0 ≤ k) (h2 : k ≤ 1048576) (h3 : ¬ (szHeld p : Int) ≤ k) :
  Calls Tryz.prog 157 #[.agg cs.toArray, .int .i64 k] w fun e w' => e = .returned (.int .i64 (-1)) ∧ Bel w w' := by
 obtain ⟨A2, n2, c2, rfl, hi0, hi1, ha2, hb2, hl2, hr2⟩ := openHeld h
 obtain ⟨x0, x1, l2⟩ := p
 try dsimp only [szHeld] at *
 subst hl2
 go_enter Tryz.func157, Tryz.ntmps157
 go_wp2_with fail
 refine (o_szCell_f (tCell.reach (makeCell (p := l2) hr2) ?hB) (by omega) (by omega) (by omega)).mono ?_
 case hB => exact (belx)
 rintro e w1 ⟨rfl, hb1⟩
 have hB1 : Bel w w1 := bel_trans (belx) hb1
 have P1 : Box w1 w.heap.size 212 #[.int .i64 x0, .int .i64 x1, .slice A2 l2.length c2] := (Box.new _ _ _).below hb1 lez
 go_wp2
 go_ret
 exact ⟨rfl, hB1⟩
set_option maxHeartbeats 400000 in
theorem o_toHeld {w : World} {cs : List Value} {p : DHeld} (h : tHeld.R w w.heap.size cs p) (hn : szHeld p ≤ 1048576) :
  Calls Tryz.prog 159 #[.agg cs.toArray] w fun e w' => ∃ cs' F, e = .returned (.agg cs'.toArray) ∧ tHeld.O w' cs' p F ∧ New w.heap.size F ∧ Bel w w' := by
 obtain ⟨A2, n2, c2, rfl, hi0, hi1, ha2, hb2, hl2, hr2⟩ := openHeld h
 obtain ⟨x0, x1, l2⟩ := p
 try dsimp only [szHeld] at *
 subst hl2
 go_enter Tryz.func159, Tryz.ntmps159
 go_wp2_with fail
 refine (o_toCell (tCell.reach (makeCell (p := l2) hr2) ?hB) (by omega)).mono ?_
 case hB => exact (belx)
 rintro e w1 ⟨cs1, G1, rfl, hO1, hN1, hb1⟩
 obtain ⟨B2, d2, F2, rfl, hGe1, _, _, o2⟩ := openOCell hO1
 try dsimp only at *
 subst G1
 have z1 : w.heap.size + 3 ≤ w1.heap.size := by have := hb1.size; simpa using this
 have hB1 : Bel w w1 := bel_trans (belx) hb1
 have R1 : Box w1 (w.heap.size + 1) 174 #[.int .i64 0, .int .i64 0, .slice none 0 0] := Box.below (Box.alloc (by simpa using Box.new (w.alloc _) 174 #[.int .i64 0, .int .i64 0, .slice none 0 0]) _) hb1 lez
 have L1 : Box w1 (w.heap.size + 1 + 1) 174 #[.int .i64 x0, .int .i64 x1, .slice none 0 0] := Box.below (by simpa using Box.new ((w.alloc _).alloc _) 174 #[.int .i64 x0, .int .i64 x1, .slice none 0 0]) hb1 lez
 have P1 : Box w1 w.heap.size 212 #[.int .i64 x0, .int .i64 x1, .slice A2 l2.length c2] := Box.below (((Box.new w 212 #[.int .i64 x0, .int .i64 x1, .slice A2 l2.length c2]).alloc _).alloc _) hb1 lez
 have hM1 : New (w.heap.size + 3) (F2) := hN1.lower (by simp)
 clear hN1
 have y1 : ∀ f ∈ F2, f < w1.heap.size := by intro f hf; exact tBy.lt o2 f hf
 have kr1_0 := R1.cell 0; have fr1_0 := R1.frozen 0; have kl1_0 := L1.cell 0; have fl1_0 := L1.frozen 0; have kp1_0 := P1.cell 0
 have kr1_1 := R1.cell 1; have fr1_1 := R1.frozen 1; have kl1_1 := L1.cell 1; have fl1_1 := L1.frozen 1; have kp1_1 := P1.cell 1
 have kr1_2 := R1.cell 2; have fr1_2 := R1.frozen 2; have kl1_2 := L1.cell 2; have fl1_2 := L1.frozen 2; have kp1_2 := P1.cell 2
 go_wp2
 have RR := ((((R1.far (p := ⟨w.heap.size + 1 + 1, 2, none⟩) lez (.slice B2 l2.length d2)).put 0 (.int .i64 x0)).put 1 (.int .i64 x1)).put 2 (.slice B2 l2.length d2))
 have e0 := RR.cell 0
 have e1 := RR.cell 1
 have e2 := RR.cell 2
 have u2 := (Ty.far (t := tBy) (Ty.far (t := tBy) (Ty.far (t := tBy) (Ty.far (t := tBy) o2 hM1 (p := ⟨w.heap.size + 1 + 1, 2, none⟩) lez (.slice B2 l2.length d2)) hM1 (p := ⟨w.heap.size + 1, 0, none⟩) lez (.int .i64 x0)) hM1 (p := ⟨w.heap.size + 1, 1, none⟩) lez (.int .i64 x1)) hM1 (p := ⟨w.heap.size + 1, 2, none⟩) lez (.slice B2 l2.length d2))
 obtain ⟨F, hF, hFe⟩ := makeOHeld (p := (x0, x1, l2)) hi0 hi1 u2
 refine bodyPost_ret (v := .agg #[.int .i64 x0, .int .i64 x1, .slice B2 l2.length d2]) (by simp [results, Tryz.results159, go_sem, e0, e1, e2]) rfl ⟨_, F, rfl, hF, ?_, ?_⟩
 ·rw [hFe]
  exact New.lower (B := w.heap.size + 3) (by exact hM1) (by omega)
 ·exact (bel_put (bel_put (bel_put (bel_put hB1 lez _) lez _) lez _) lez _)
theorem o_eqHeld {w : World} {cs cs' : List Value} {p : DHeld} (h : tHeld.R w w.heap.size cs p) (h' : tHeld.R w w.heap.size cs' p) :
  Calls Tryz.prog 183 #[.agg cs.toArray, .agg cs'.toArray] w fun e w' => e = .returned (.bool true) ∧ Bel w w' := by
 obtain ⟨A2, n2, c2, rfl, hi0, hi1, ha2, hb2, hl2, hr2⟩ := openHeld h
 obtain ⟨A2', n2', c2', rfl, hi0', hi1', ha2', hb2', hl2', hr2'⟩ := openHeld h'
 obtain ⟨x0, x1, l2⟩ := p
 try dsimp only at *
 subst hl2
 subst hl2'
 have q0 : (x0 != x0) = false := by simp
 have q1 : (x1 != x1) = false := by simp
 go_enter Tryz.func183, Tryz.ntmps183
 go_wp2_with fail
 refine (o_eqCell (tCell.reach (makeCell (p := l2) hr2) ?hB) (tCell.reach (makeCell (p := l2) hr2') ?hB)).mono ?_
 case hB => exact (belx)
 rintro e w1 ⟨rfl, hb1⟩
 have hB1 : Bel w w1 := bel_trans (belx) hb1
 have P1 : Box w1 w.heap.size 174 #[.int .i64 x0, .int .i64 x1, .slice A2 l2.length c2] := ((Box.new _ _ _).alloc _).below hb1 lez
 have Q1 : Box w1 (w.heap.size + 1) 174 #[.int .i64 x0, .int .i64 x1, .slice A2' l2.length c2'] := Box.below (by simpa using Box.new (w.alloc _) 174 #[.int .i64 x0, .int .i64 x1, .slice A2' l2.length c2']) hb1 lez
 go_wp2
 go_ret
 exact ⟨rfl, hB1⟩
end Go.Proofs.YtkdanlnhdgcplaaGreat
