/-
  LHeldS, LPool, GrowM: texts joined.
-/
import Derived.Test.YtnfmjgldcnokbaaPGf
import Derived.Test.YtnfmjgldcnokbaaPGh
import Derived.Deep.RegionHeld3
namespace Go.Proofs.Ytnfmjgldcnokbaa
set_option maxRecDepth 100000
set_option linter.unusedVariables false
set_option linter.unusedSimpArgs false
open Go.ChangeShapes Go.WideShapes Go.ChangeAt Go.RowKit
theorem info_Held : (Try.prog.info? 98).map (fun i => (i.zero, i.size, i.bytes)) = some (some (.agg #[.int .i64 0, .int .i64 0, .slice none 0 0]), 3, 40) := by kernel_rfl
set_option maxHeartbeats 800000 in
theorem o_eqHeldS {w : World} {n m c d : Nat} {A A' : Option Addr} {l : List DHeld} (h : tHeld.row.R w w.heap.size [.slice A n c] l) (h' : tHeld.row.R w w.heap.size [.slice A' m d] l) :
    Calls Try.prog 77 #[.slice A n c, .slice A' m d] w fun e w' => e = .returned (.bool true) ∧ Below w.heap.size w w' := by
  obtain ⟨hln, hnc, hcm⟩ := rowR_len h
  obtain ⟨hln', hnc', hcm'⟩ := rowR_len h'
  obtain rfl : m = n := by omega
  have HLN := Lib.hid hln
  clear hln hln'
  go_enter Try.func77, Try.ntmps77
  go_wp2_with fail
  go_loopw [5] (fun i wr => ∃ j : Nat, j ≤ m ∧ i = .int .i64 j ∧ Below w.heap.size w wr) (fun i _ => m - (intOf i).toNat)
  case atStart => exact ⟨0, by omega, rfl, (belx)⟩
  case round =>
    obtain ⟨j, hj, rfl, hB⟩ := hrel
    by_cases hlt : j < m
    · obtain ⟨a, b, off, es, hl, rfl, hb, hes, hR⟩ := rowR_at (K := 3) h hlt rfl
      obtain ⟨a', b', off', es', hl', rfl, hb', hes', hR'⟩ := rowR_at (K := 3) h' hlt rfl
      obtain rfl : a = a' := by rw [hl] at hl'; exact Option.some.inj hl'
      clear hl hl'
      obtain ⟨A2, n2, c2, rfl, hi0, hi1, ha2, hb2, hl2, hr2⟩ := openHeld hR
      obtain ⟨A2', n2', c2', rfl, hi0', hi1', ha2', hb2', hl2', hr2'⟩ := openHeld hR'
      subst hl2
      subst hl2'
      have e0 : wr.cell? ⟨b, off + j * 3, none⟩ = some (.int .i64 (a.1)) := cell_at hB hb (hes 0 (by omega))
      have e1 : wr.cell? ⟨b, off + j * 3 + 1, none⟩ = some (.int .i64 (a.2.1)) := cell_at hB hb (hes 1 (by omega))
      have e2 : wr.cell? ⟨b, off + j * 3 + 2, none⟩ = some (.slice A2 (a.2.2).length c2) := cell_at hB hb (hes 2 (by omega))
      have e0' : wr.cell? ⟨b', off' + j * 3, none⟩ = some (.int .i64 (a.1)) := cell_at hB hb' (hes' 0 (by omega))
      have e1' : wr.cell? ⟨b', off' + j * 3 + 1, none⟩ = some (.int .i64 (a.2.1)) := cell_at hB hb' (hes' 1 (by omega))
      have e2' : wr.cell? ⟨b', off' + j * 3 + 2, none⟩ = some (.slice A2' (a.2.2).length c2') := cell_at hB hb' (hes' 2 (by omega))
      clear hes hes'
      go_wp2_with fail
      go_region_held3 (fun w' => w'.cell? ⟨b, off + j * 3, none⟩ = some (.int .i64 (a.1)) ∧ w'.cell? ⟨b, off + j * 3 + 1, none⟩ = some (.int .i64 (a.2.1)) ∧ w'.cell? ⟨b, off + j * 3 + 2, none⟩ = some (.slice A2 (a.2.2).length c2) ∧ w'.cell? ⟨b', off' + j * 3, none⟩ = some (.int .i64 (a.1)) ∧ w'.cell? ⟨b', off' + j * 3 + 1, none⟩ = some (.int .i64 (a.2.1)) ∧ w'.cell? ⟨b', off' + j * 3 + 2, none⟩ = some (.slice A2' (a.2.2).length c2')) (first | (exact ⟨e0, e1, e2, e0', e1', e2'⟩) | (exact ⟨cell_bel hs2 e0, cell_bel hs2 e1, cell_bel hs2 e2, cell_bel hs2 e0', cell_bel hs2 e1', cell_bel hs2 e2'⟩) | go_keep)
        ((go_at_call 115; refine (o_eqHeld (tHeld.reach hR (belx)) (tHeld.reach hR' (belx))).mono ?_; rintro e w2 ⟨rfl, hb2⟩; have hs2 : Below wr.heap.size wr w2 := bel_trans (belx) hb2))
      go_wp2
      go_roundw
      case rel => exact ⟨j + 1, by omega, by go_num, bel_trans hB hs2⟩
      case measure => simp [intOf]; omega
    · obtain rfl : j = m := by omega
      go_wp2
      go_ret
      exact ⟨rfl, hB⟩
set_option maxHeartbeats 1000000 in
theorem o_markHeldS {w : World} {n c : Nat} {A : Option Addr} {l : List DHeld} {F : List Nat} (k : Int) (h : tHeld.row.O w [.slice A n c] l F) (hF : F.Nodup) (h0 : 0 ≤ k) (hk : k + rsum rcHeld l ≤ 4611686018427387904) :
    Calls Try.prog 79 #[.slice A n c, .int .i64 k] w fun e w' => e = .returned (.int .i64 (k + rsum rcHeld l)) ∧ tHeld.row.O w' [.slice A n c] (rmk rcHeld rmHeld k l) F ∧ Only F w w' := by
  obtain ⟨_, _, hsh, hnc, hcm⟩ := rowO_shape h
  have hln : l.length = n := by injection hsh with _ e2 _; exact e2.symm
  have hnc2 : n ≤ 9223372036854775807 := by omega
  clear hsh hnc hcm
  obtain ⟨s, hs⟩ : ∃ s, rsum rcHeld l = s := ⟨_, rfl⟩
  rw [hs] at hk ⊢
  have HLN := Lib.hid hln
  have HS := Lib.hid hs
  clear hln hs
  go_enter Try.func79, Try.ntmps79
  go_wp2
  go_loopw [1, 5] (fun x i wr => ∃ j : Nat, j ≤ n ∧ x = .int .i64 (k + (rsum rcHeld (l.take j) : Nat)) ∧ i = .int .i64 j ∧ tHeld.row.O wr [.slice A n c] (rpart rcHeld rmHeld k l j) F ∧ Only F w wr) (fun _ i _ => n - (intOf i).toNat)
  case atStart => exact ⟨0, by omega, by rw [rsum_zero]; go_num, rfl, by rw [rpart_zero]; exact h, Only.refl _ _⟩
  case round =>
    obtain ⟨j, hj, rfl, rfl, hO, hG⟩ := hrel
    by_cases hlt : j < n
    · obtain ⟨a, hl⟩ : ∃ a, l[j]? = some a := ⟨_, List.getElem?_eq_getElem (by rw [HLN.out]; exact hlt)⟩
      have HP := Lib.hid (rpart_set (c := rcHeld) (m := rmHeld) (k := k) hl)
      have hat := rpart_at (c := rcHeld) (m := rmHeld) (k := k) hl
      have hsa := rsum_at (c := rcHeld) hl
      have hsn := rsum_sn (c := rcHeld) hl
      rw [HS.out] at hsa
      obtain ⟨q, hq⟩ : ∃ q, rsum rcHeld (l.take j) = q := ⟨_, rfl⟩
      obtain ⟨q', hq'⟩ : ∃ q, rsum rcHeld (l.take (j + 1)) = q := ⟨_, rfl⟩
      rw [hq] at hsa hsn
      rw [hq'] at hsn
      rw [hq]
      have HQ := Lib.hid hq'
      have HQ2 := Lib.hid hq
      clear hq hq'
      dsimp only [rcHeld] at hsa hsn
      obtain ⟨g, off, cur, et, es, Fi, rfl, hcur, hes, hOe, hgF, hgi, hFi, hnd, hback⟩ := rowO_at (K := 3) hO hF hat rfl
      obtain ⟨A2, c2, F2, rfl, hFe, hi0, hi1, ha2, hb2, hr2⟩ := openOHeld hOe
      subst Fi
      obtain ⟨x0, x1, l2⟩ := a
      dsimp only at *
      have e0 : wr.cell? ⟨g, off + j * 3, none⟩ = some (.int .i64 x0) := by rw [Box.cell (t := et) hcur]; exact hes 0 (by omega)
      have f0 : wr.frozen? ⟨g, off + j * 3, none⟩ = false := Box.frozen (t := et) hcur _
      have e1 : wr.cell? ⟨g, off + j * 3 + 1, none⟩ = some (.int .i64 x1) := by rw [Box.cell (t := et) hcur]; exact hes 1 (by omega)
      have f1 : wr.frozen? ⟨g, off + j * 3 + 1, none⟩ = false := Box.frozen (t := et) hcur _
      have e2 : wr.cell? ⟨g, off + j * 3 + 2, none⟩ = some (.slice A2 l2.length c2) := by rw [Box.cell (t := et) hcur]; exact hes 2 (by omega)
      have f2 : wr.frozen? ⟨g, off + j * 3 + 2, none⟩ = false := Box.frozen (t := et) hcur _
      obtain ⟨cur1, hX0, hcs, hun, hval⟩ := puts_heap (off := off + j * 3) (vs := [.int .i64 (k + (q : Int)), .int .i64 (k + (q : Int) + 1)]) hcur
      dsimp only [List.length_cons, List.length_nil] at hun hval
      have hcz : ∀ i, i < 3 → off + j * 3 + i < cur.size := fun i hi => by
        by_cases hh : off + j * 3 + i < cur.size
        · exact hh
        · have := hes i hi; rw [Array.getElem?_eq_none (by omega)] at this; rcases (by omega : i = 0 ∨ i = 1 ∨ i = 2) with rfl | rfl | rfl <;> simp at this
      have hgz : g < (puts wr g (off + j * 3) [.int .i64 (k + (q : Int)), .int .i64 (k + (q : Int) + 1)]).heap.size := by rw [size_puts]; exact Box.size (t := et) hcur
      have OG0 : Only F w (puts wr g (off + j * 3) [.int .i64 (k + (q : Int)), .int .i64 (k + (q : Int) + 1)]) := only_puts hG hgF
      have hk0 : ∀ f, f ≠ g → (puts wr g (off + j * 3) [.int .i64 (k + (q : Int)), .int .i64 (k + (q : Int) + 1)]).heap[f]? = wr.heap[f]? := fun f hf => puts_far hf
      have hzz : (puts wr g (off + j * 3) [.int .i64 (k + (q : Int)), .int .i64 (k + (q : Int) + 1)]).heap.size = wr.heap.size := size_puts
      have y2 : ∀ f ∈ F2, f < wr.heap.size ∧ f ≠ g := fun f hf => ⟨(tBy).lt hr2 f hf, fun e => hgi (by rw [← e]; simp [hf])⟩
      replace hr2 := (tBy).kept (w' := puts wr g (off + j * 3) [.int .i64 (k + (q : Int)), .int .i64 (k + (q : Int) + 1)]) hr2 (fun f hf => hk0 f (y2 f hf).2)
      have nd2 : F2.Nodup := hnd
      obtain ⟨W0, hW0⟩ : ∃ W0, puts wr g (off + j * 3) [.int .i64 (k + (q : Int)), .int .i64 (k + (q : Int) + 1)] = W0 := ⟨_, rfl⟩
      rw [hW0] at hX0 hgz OG0 hk0 hzz hr2
      have Z0 : wr.heap.size ≤ W0.heap.size := Nat.le_of_eq hzz.symm
      have hX : W0.heap[g]? = some (.cells cur1 et (0, 0)) := hX0
      go_wp2_with fail
      have hWe : ((wr.setCell ⟨g, off + j * 3, none⟩ (.int .i64 (k + (q : Int)))).setCell ⟨g, off + j * 3 + 1, none⟩ (.int .i64 (k + (q : Int) + 1))) = W0 := hW0
      rw [hWe]
      refine (o_markByteS (k + (q : Int) + 1 + 1) hr2 (by omega) (by omega)).mono ?_
      rintro e W1 ⟨rfl, hO2, hG2⟩
      have OG1 : Only F w W1 := OG0.trans (hG2.mono (fun f hf => hFi f (by simp [hf])))
      have Z1 : wr.heap.size ≤ W1.heap.size := Nat.le_trans Z0 hG2.size
      have hgz : g < W1.heap.size := Nat.lt_of_lt_of_le hgz hG2.size
      replace hX : W1.heap[g]? = some (.cells cur1 et (0, 0)) := (hG2.block g (by omega) (fun e => (y2 g e).2 rfl)).trans hX
      replace hr2 := hO2
      have wf0 : (Lit.int .i64 (k + (q : Int))).wf = true := WalkArith.wf_i64 (by omega)
      have wf1 : (Lit.int .i64 (k + (q : Int) + 1)).wf = true := WalkArith.wf_i64 (by omega)
      obtain ⟨F2, hF2, hF2e⟩ := makeOHeld (w := W1) (p := rmHeld (k + (q : Int)) (x0, x1, l2)) wf0 wf1 hr2
      subst hF2e
      have hfin := hback W1 cur1 [.int .i64 (k + (q : Int)), .int .i64 (k + (q : Int) + 1), .slice A2 l2.length c2] (rmHeld (k + (q : Int)) (x0, x1, l2)) hX (by
        intro i hi
        rcases (by omega : i = 0 ∨ i = 1 ∨ i = 2) with rfl | rfl | rfl
        · exact hval 0 (by omega) (hcz 0 (by omega))
        · exact hval 1 (by omega) (hcz 1 (by omega))
        · rw [hun _ (by omega)]; exact hes 2 (by omega)) (by
        intro q2 hq2
        refine hun q2 ?_
        rcases Nat.lt_or_ge q2 (off + j * 3) with h1 | h1
        · exact .inl h1
        · rcases Nat.lt_or_ge q2 (off + j * 3 + 3) with h2 | h2
          · exact absurd (by omega) (hq2 (q2 - (off + j * 3)) (by omega))
          · exact .inr (by omega)) hF2 (by
        intro f hf h1 h2
        skip
        have hfz : f < wr.heap.size := (tHeld.row).lt hO f hf
        exact ((hG2.block f (by omega) h2).trans (hk0 f h1)))
      have HPq := HP.out
      rw [HQ2.out] at HPq
      rw [HPq] at hfin
      clear HPq
      go_wp2
      go_roundw
      case rel => exact ⟨j + 1, by omega, by rw [HQ.out]; go_num, by go_num, hfin, OG1⟩
      case measure => simp [intOf]; omega
    · obtain rfl : j = n := by omega
      have HA := Lib.hid (show rsum rcHeld (l.take j) = s from by rw [rsum_all (Nat.le_of_eq HLN.out)]; exact HS.out)
      rw [HA.out]
      rw [rpart_all (Nat.le_of_eq HLN.out)] at hO
      go_wp2
      go_ret
      exact ⟨rfl, hO, hG⟩
set_option maxHeartbeats 1000000 in
theorem o_heldHeldS {w : World} {n c : Nat} {A : Option Addr} {l : List DHeld} (k : Int) (h : tHeld.row.R w w.heap.size [.slice A n c] (rmk rcHeld rmHeld k l)) (h0 : 0 ≤ k) (hk : k + rsum rcHeld l ≤ 4611686018427387904) :
    Calls Try.prog 81 #[.slice A n c, .int .i64 k] w fun e w' => e = .returned (.int .i64 (k + rsum rcHeld l)) ∧ Below w.heap.size w w' := by
  obtain ⟨hln, hnc, hcm⟩ := rowR_len h
  rw [rmk_len] at hln
  obtain ⟨s, hs⟩ : ∃ s, rsum rcHeld l = s := ⟨_, rfl⟩
  rw [hs] at hk ⊢
  have HLN := Lib.hid hln
  have HS := Lib.hid hs
  clear hln hs
  go_enter Try.func81, Try.ntmps81
  go_wp2
  go_loopw [1, 5] (fun x i wr => ∃ j : Nat, j ≤ n ∧ x = .int .i64 (k + (rsum rcHeld (l.take j) : Nat)) ∧ i = .int .i64 j ∧ Below w.heap.size w wr) (fun _ i _ => n - (intOf i).toNat)
  case atStart => exact ⟨0, by omega, by rw [rsum_zero]; go_num, rfl, (belx)⟩
  case round =>
    obtain ⟨j, hj, rfl, rfl, hB⟩ := hrel
    by_cases hlt : j < n
    · obtain ⟨a, hl⟩ : ∃ a, l[j]? = some a := ⟨_, List.getElem?_eq_getElem (by rw [HLN.out]; exact hlt)⟩
      obtain ⟨a2, b, off, es, hl2, rfl, hb, hes, hR⟩ := rowR_at (K := 3) h hlt rfl
      have hat := rmk_at (c := rcHeld) (m := rmHeld) (k := k) hl
      obtain rfl : _ = a2 := Option.some.inj (hat.symm.trans hl2)
      clear hl2 hat
      have hsa := rsum_at (c := rcHeld) hl
      have hsn := rsum_sn (c := rcHeld) hl
      rw [HS.out] at hsa
      obtain ⟨q, hq⟩ : ∃ q, rsum rcHeld (l.take j) = q := ⟨_, rfl⟩
      obtain ⟨q', hq'⟩ : ∃ q, rsum rcHeld (l.take (j + 1)) = q := ⟨_, rfl⟩
      rw [hq] at hsa hsn
      rw [hq'] at hsn
      rw [hq] at hR ⊢
      have HQ := Lib.hid hq'
      clear hq hq'
      dsimp only [rcHeld] at hsa hsn
      obtain ⟨A2, n2, c2, rfl, hi0, hi1, ha2, hb2, hl2, hr2⟩ := openHeld hR
      obtain ⟨x0, x1, l2⟩ := a
      dsimp only [rmHeld] at *
      have q0 : ((k + (q : Int) : Int) != k + (q : Int)) = false := by simp
      have q1 : ((k + (q : Int) + 1 : Int) != k + (q : Int) + 1) = false := by simp
      have e0 : wr.cell? ⟨b, off + j * 3, none⟩ = some (.int .i64 (k + (q : Int))) := cell_at hB hb (hes 0 (by omega))
      have e1 : wr.cell? ⟨b, off + j * 3 + 1, none⟩ = some (.int .i64 (k + (q : Int) + 1)) := cell_at hB hb (hes 1 (by omega))
      have e2 : wr.cell? ⟨b, off + j * 3 + 2, none⟩ = some (.slice A2 n2 c2) := cell_at hB hb (hes 2 (by omega))
      have d0 : decide (k + (q : Int) + 1 + 1 + ((l2.length : Nat) : Int) < 0) = false := by simp; omega
      go_wp2_with fail
      refine (o_heldByteS (k + (q : Int) + 1 + 1) ((tBy).reach hr2 ?hB) (by omega) (by omega)).mono ?_
      case hB => exact (belx)
      rintro e w1 ⟨rfl, hb1⟩
      have hB1 : Below w.heap.size w w1 := bel_trans hB hb1
      have e2_1 : w1.cell? ⟨b, off + j * 3 + 2, none⟩ = some (.slice A2 n2 c2) := cell_at hB1 hb (hes 2 (by omega))
      go_wp2
      go_roundw
      case rel => exact ⟨j + 1, by omega, by rw [HQ.out]; go_num, by go_num, hB1⟩
      case measure => simp [intOf]; omega
    · obtain rfl : j = n := by omega
      have HA := Lib.hid (show rsum rcHeld (l.take j) = s from by rw [rsum_all (Nat.le_of_eq HLN.out)]; exact HS.out)
      rw [HA.out]
      go_wp2
      go_ret
      exact ⟨rfl, hB⟩
end Go.Proofs.Ytnfmjgldcnokbaa
namespace Go.Proofs.Ytnfmjgldcnokbaa
set_option maxRecDepth 100000
set_option linter.unusedVariables false
set_option linter.unusedSimpArgs false
open Go.ChangeShapes Go.WideShapes Go.ChangeAt Go.RowKit
theorem o_eqPool {w : World} {cs cs' : List Value} {p : DPool} (h : tPool.R w w.heap.size cs p) (h' : tPool.R w w.heap.size cs' p) :
    Calls Try.prog 31 #[.agg cs.toArray, .agg cs'.toArray] w fun e w' => e = .returned (.bool true) ∧ Below w.heap.size w w' := by
  obtain ⟨A0, n0, c0, A1, n1, c1, rfl, ha0, hb0, hl0, hr0, ha1, hb1, hl1, hr1⟩ := openPool h
  obtain ⟨A0', n0', c0', A1', n1', c1', rfl, ha0', hb0', hl0', hr0', ha1', hb1', hl1', hr1'⟩ := openPool h'
  obtain ⟨r0, l1⟩ := p
  try dsimp only at *
  subst hl0
  subst hl0'
  subst hl1
  subst hl1'
  go_enter Try.func31, Try.ntmps31
  go_wp2_with fail
  refine (o_eqHeldS (tHeld.row.reach hr0 ?hB) (tHeld.row.reach hr0' ?hB)).mono ?_
  case hB => exact (belx)
  rintro e w1 ⟨rfl, hb1⟩
  have hB1 : Below w.heap.size w w1 := bel_trans (belx) hb1
  have P1 : Box w1 w.heap.size 54 #[.slice A0 r0.length c0, .slice A1 l1.length c1] := ((Box.new _ _ _).alloc _).below hb1 (by first | (simp; done) | (simp; omega))
  have Q1 : Box w1 (w.heap.size + 1) 54 #[.slice A0' r0.length c0', .slice A1' l1.length c1'] := Box.below (by simpa using Box.new (w.alloc _) 54 #[.slice A0' r0.length c0', .slice A1' l1.length c1']) hb1 (by first | (simp; done) | (simp; omega))
  have e0_1 := P1.cell 1
  have e0_1q := Q1.cell 1
  go_wp2_with fail
  refine (o_eqIntS (tIs.reach hr1 ?hB) (tIs.reach hr1' ?hB)).mono ?_
  case hB => exact (belx)
  rintro e w2 ⟨rfl, hb2⟩
  have hB2 : Below w.heap.size w w2 := bel_trans (belx) hb2
  have P2 := P1.below hb2 P1.size
  have Q2 := Q1.below hb2 Q1.size
  go_wp2
  go_ret
  exact ⟨rfl, hB2⟩
theorem o_markPool {w : World} {cs : List Value} {p : DPool} {F : List Nat} (k : Int) (h : tPool.O w cs p F) (hF : F.Nodup) (h0 : 0 ≤ k) (hk : k + cntPool p ≤ 4611686018427387904) :
    Calls Try.prog 34 #[.agg cs.toArray, .int .i64 k] w fun e w' => e = .returned (.int .i64 (k + cntPool p)) ∧ tPool.O w' cs (mkPool k p) F ∧ Only F w w' := by
  obtain ⟨A0, c0, F0, A1, c1, F1, rfl, hFe, ha0, hb0, hr0, ha1, hb1, hr1⟩ := openOPool h
  obtain ⟨r0, l1⟩ := p
  try dsimp only [cntPool] at *
  subst F
  have nd0 : F0.Nodup := (List.nodup_append.1 hF).1
  have nd1 : F1.Nodup := (List.nodup_append.1 hF).2.1
  have ap0_1 : ∀ f ∈ F0, f ∉ F1 := fun f h1 h2 => (List.nodup_append.1 hF).2.2 f (by simp [h1]) f h2 rfl
  go_enter Try.func34, Try.ntmps34
  replace hr0 : tHeld.row.O (w.alloc (.cells #[.slice A0 r0.length c0, .slice A1 l1.length c1] 54)) _ _ _ := Ty.below hr0 (belx)
  replace hr1 : tIs.O (w.alloc (.cells #[.slice A0 r0.length c0, .slice A1 l1.length c1] 54)) _ _ _ := Ty.below hr1 (belx)
  have G0 : Only (F0 ++ F1) w (w.alloc (.cells #[.slice A0 r0.length c0, .slice A1 l1.length c1] 54)) := (Only.refl _ _).alloc _
  have P0 : Box (w.alloc (.cells #[.slice A0 r0.length c0, .slice A1 l1.length c1] 54)) w.heap.size 54 #[.slice A0 r0.length c0, .slice A1 l1.length c1] := Box.new _ _ _
  have y0 : ∀ f ∈ F0, f < w.heap.size := fun f hf => (tPool).lt h f (by simp [hf])
  have y1 : ∀ f ∈ F1, f < w.heap.size := fun f hf => (tPool).lt h f (by simp [hf])
  go_wp2_with fail
  refine (o_markHeldS (k) hr0 nd0 (by omega) (by omega)).mono ?_
  rintro e w1 ⟨rfl, hO1, hG1⟩
  have G1 := G0.trans (hG1.mono (by intro f hf; (try simp only [List.mem_append] at hf ⊢); first | assumption | (simp only [hf, true_or, or_true]) | (rcases hf with hf | hf <;> simp only [hf, true_or, or_true])))
  have P1 : Box w1 w.heap.size 54 #[.slice A0 r0.length c0, .slice A1 l1.length c1] := P0.same (hG1.block _ P0.size (by intro e; (try simp only [List.mem_append] at e); rcases e with e <;> first | (have := y0 _ e; omega)))
  have e1_0 := P1.cell 0
  have e1_1 := P1.cell 1
  replace hr1 := Ty.only hr1 hG1 (by intro f hf e; (try simp only [List.mem_append] at e); rcases e with e <;> first | exact ap0_1 f e hf)
  replace hr0 := hO1
  go_wp2_with fail
  refine (o_markIntS (k + ((rsum rcHeld r0 : Nat) : Int)) hr1 (by omega) (by omega)).mono ?_
  rintro e w2 ⟨rfl, hO2, hG2⟩
  have G2 := G1.trans (hG2.mono (by intro f hf; (try simp only [List.mem_append] at hf ⊢); first | assumption | (simp only [hf, true_or, or_true]) | (rcases hf with hf | hf <;> simp only [hf, true_or, or_true])))
  have P2 : Box w2 w.heap.size 54 #[.slice A0 r0.length c0, .slice A1 l1.length c1] := P1.same (hG2.block _ P1.size (by intro e; (try simp only [List.mem_append] at e); rcases e with e <;> first | (have := y1 _ e; omega)))
  have e2_0 := P2.cell 0
  have e2_1 := P2.cell 1
  replace hr0 := Ty.only hr0 hG2 (by intro f hf e; (try simp only [List.mem_append] at e); rcases e with e <;> first | exact ap0_1 f hf e)
  replace hr1 := hO2
  go_wp2
  go_ret
  obtain ⟨F2, hF2, hFe⟩ := makeOPool (p := mkPool k (r0, l1)) hr0 hr1
  subst F2
  exact ⟨ret_int (by omega), hF2, G2⟩
theorem o_heldPool {w : World} {cs : List Value} {p : DPool} (k : Int) (h : tPool.R w w.heap.size cs (mkPool k p)) (h0 : 0 ≤ k) (hk : k + cntPool p ≤ 4611686018427387904) :
    Calls Try.prog 35 #[.agg cs.toArray, .int .i64 k] w fun e w' => e = .returned (.int .i64 (k + cntPool p)) ∧ Below w.heap.size w w' := by
  obtain ⟨A0, n0, c0, A1, n1, c1, rfl, ha0, hb0, hl0, hr0, ha1, hb1, hl1, hr1⟩ := openPool h
  obtain ⟨r0, l1⟩ := p
  try dsimp only [cntPool, mkPool] at *
  have d0 : decide (k + ((rsum rcHeld r0 : Nat) : Int) < 0) = false := by simp; omega
  have d1 : decide (k + ((rsum rcHeld r0 : Nat) : Int) + ((l1.length : Nat) : Int) < 0) = false := by simp; omega
  go_enter Try.func35, Try.ntmps35
  go_wp2_with fail
  refine (o_heldHeldS (k) (tHeld.row.reach hr0 ?hB) (by omega) (by omega)).mono ?_
  case hB => exact (belx)
  rintro e w1 ⟨rfl, hb1⟩
  have hB1 : Below w.heap.size w w1 := bel_trans (belx) hb1
  have P1 : Box w1 w.heap.size 54 #[.slice A0 n0 c0, .slice A1 n1 c1] := (Box.new _ _ _).below hb1 (by first | (simp; done) | (simp; omega))
  have e0_1 := P1.cell 1
  go_wp2_with fail
  refine (o_heldIntS (k + ((rsum rcHeld r0 : Nat) : Int)) (tIs.reach hr1 ?hB) (by omega) (by omega)).mono ?_
  case hB => exact (belx)
  rintro e w2 ⟨rfl, hb2⟩
  have hB2 : Below w.heap.size w w2 := bel_trans (belx) hb2
  have P2 := P1.below hb2 P1.size
  go_wp2
  go_ret
  exact ⟨ret_int (by omega), hB2⟩
end Go.Proofs.Ytnfmjgldcnokbaa
namespace Go.Proofs.Ytnfmjgldcnokbaa
set_option linter.unusedVariables false
open Go.RowKit
section
variable {α : Type} {t : Ty α} {e : TypeId} {w w' : World} {base B n c : Nat} {A : Option Addr} {v : Value} {l l' : List α}
/-- The cells of a row that reads, as what an append takes in. -/
theorem row_src (h : t.row.R w B [.slice A n c] l) (h1 : ∀ es a, t.R w B es a → ∀ u ∈ es, u.oneCell' = true) :
    ∃ css : List (List Value), css.length = l.length ∧ (∀ (i : Nat) (a : α) (es : List Value), l[i]? = some a → css[i]? = some es → t.R w B es a) ∧ Src w t.k A n css.flatten ∧ ∀ u ∈ css.flatten, u.oneCell' = true := by
  obtain ⟨A', n', c', e1, h2, h3, h4, h5⟩ := h
  injection e1 with e1 _
  injection e1 with e1 e2 e3
  subst e1 e2 e3
  by_cases h0 : 0 < n
  · obtain ⟨b, off, rfl, hb, hc⟩ := h5 h0
    have hx : ∀ i, i < l.length → ∃ es, (∀ j, j < t.k → w.cell? ⟨b, off + i * t.k + j, none⟩ = es[j]?) ∧ ∀ a, l[i]? = some a → t.R w B es a := fun i hi => by
      obtain ⟨es, k1, k2⟩ := hc i _ (List.getElem?_eq_getElem hi)
      exact ⟨es, k1, fun a ha => by rw [List.getElem?_eq_getElem hi] at ha; injection ha with ha; rw [← ha]; exact k2⟩
    obtain ⟨css, hcs⟩ : ∃ css, css = (List.range l.length).pmap (fun i hi => (hx i hi).choose) (fun i hi => List.mem_range.1 hi) := ⟨_, rfl⟩
    have hlen : css.length = l.length := by rw [hcs]; simp
    have hat : ∀ i es, css[i]? = some es → ∃ hi : i < l.length, es = (hx i hi).choose := fun i es hi => by
      rw [hcs, List.getElem?_pmap] at hi
      by_cases hl : i < l.length
      · refine ⟨hl, ?_⟩
        simp [List.getElem?_range hl] at hi
        exact hi.symm
      · simp [List.getElem?_eq_none (show (List.range l.length).length ≤ i by simp; omega)] at hi
    have hk : ∀ es ∈ css, es.length = t.k := fun es hes => by
      obtain ⟨i, hi, rfl⟩ := List.getElem_of_mem hes
      obtain ⟨hl, e⟩ := hat i _ (List.getElem?_eq_getElem hi)
      exact t.lenR (B := B) ((congrArg (fun x => t.R w B x _) e).mpr ((hx i hl).choose_spec.2 _ (List.getElem?_eq_getElem hl)))
    refine ⟨css, hlen, fun i a es hi he => ?_, ⟨by rw [flat_len hk, hlen, h4], fun _ => ⟨b, off, rfl, fun j u hj => ?_⟩⟩, fun u hu => ?_⟩
    · obtain ⟨hl, rfl⟩ := hat i es he
      exact (hx i hl).choose_spec.2 a hi
    · have hj2 : j < css.length * t.k := by rw [← flat_len hk]; exact (List.getElem?_eq_some_iff.1 hj).1
      have hkp : 0 < t.k := by
        rcases Nat.eq_zero_or_pos t.k with h | h
        · rw [h] at hj2; omega
        · exact h
      have hq : j / t.k < css.length := (Nat.div_lt_iff_lt_mul hkp).2 hj2
      have hr : j % t.k < t.k := Nat.mod_lt _ hkp
      have e0 : j / t.k * t.k + j % t.k = j := by rw [Nat.mul_comm]; exact Nat.div_add_mod _ _
      have h6 := flat_at hk (List.getElem?_eq_getElem hq) hr
      rw [e0, hj] at h6
      obtain ⟨hl, e⟩ := hat (j / t.k) _ (List.getElem?_eq_getElem hq)
      have h7 := (hx _ hl).choose_spec.1 _ hr
      rw [← e, ← h6, Nat.add_assoc, e0] at h7
      exact h7
    · obtain ⟨es, hes, hu⟩ := List.mem_flatten.1 hu
      obtain ⟨i, hi, rfl⟩ := List.getElem_of_mem hes
      obtain ⟨hl, e⟩ := hat i _ (List.getElem?_eq_getElem hi)
      exact h1 _ _ ((congrArg (fun x => t.R w B x _) e).mpr ((hx i hl).choose_spec.2 _ (List.getElem?_eq_getElem hl))) u hu
  · have hl : l = [] := List.eq_nil_of_length_eq_zero (by omega)
    subst hl
    obtain rfl : n = 0 := by omega
    exact ⟨[], rfl, fun i a es hi => by simp at hi, ⟨by simp, fun h => absurd h h0⟩, fun u hu => by simp at hu⟩
/-- What an append of a whole row sees, and what it leaves. -/
theorem GrowR.rows (h : GrowR t e w base B v l) (hr : t.row.R w B [.slice A n c] l') (h1 : ∀ es a, t.R w B es a → ∀ u ∈ es, u.oneCell' = true) (hb : B ≤ base) (hw : B ≤ w.heap.size) :
    ∃ xs news, w.ownsRow base e t.k v l.length xs ∧ Src w t.k A n news ∧ (∀ u ∈ news, u.oneCell' = true) ∧
      ∀ w3 v1, w3.ownsRow base e t.k v1 (l.length + n) (xs ++ news) → w.grownBy w3 v.ownBlock → GrowR t e w3 base B v1 (l ++ l') := by
  obtain ⟨css2, k1, k2, k3, k4⟩ := row_src hr h1
  have hn : l'.length = n := (rowR_len hr).1
  obtain ⟨css, g1, g2, g5⟩ := h
  have hown := fun b hb => g1.lt b hb
  refine ⟨css.flatten, css2.flatten, g1, k3, k4, fun w3 v1 q5 q6 => ⟨css ++ css2, ?_, by simp [g2, k1], ?_⟩⟩
  · rw [List.length_append, List.flatten_append, hn]
    exact q5
  · have keep : ∀ b, b < B → w3.heap[b]? = w.heap[b]? := fun b hlt => q6.block b (by omega) fun e => by have := (hown b e.symm).1; omega
    intro i b cs r1 r2
    by_cases hi : i < l.length
    · rw [List.getElem?_append_left hi] at r1
      rw [List.getElem?_append_left (by omega)] at r2
      exact t.keep (g5 i b cs r1 r2) keep
    · rw [List.getElem?_append_right (by omega)] at r1
      rw [List.getElem?_append_right (by omega), g2] at r2
      exact t.keep (k2 _ b cs r1 r2) keep
end
theorem step_app5 {P : Program} (w : World) {ops : Array Oper} {o : Oper} {a : Act} {K : Act → World → Prop} {Q : Exit → Act → World → Prop} {E : Prop} (hgd : o.guard = none) (s x : Operand) (t : TypeId)
    (ho : o.op = .call { callee := .builtin .append, args := #[s, x], argTypes := #[t, t] })
    (base : Nat) (e : TypeId) (i : TypeInfo) (z : Value) (size bytes : Nat) (ht : P.underlying t = some (.slice e)) (hi : P.info? e = some i) (hz : i.zero = some z)
    (hsize : i.size = size) (hby : i.bytes = bytes) (hzs : z.cells.size = size) (hsz : 0 < size)
    (v : Value) (n : Nat) (xs : List Value) (hs : a.eval s = v) (hown : w.ownsRow base e size v n xs)
    (A : Option Addr) (m c : Nat) (news : List Value) (hx : a.eval x = .slice A m c) (hr : Src w size A m news) (h1 : ∀ u ∈ news, u.oneCell' = true)
    (h63 : n + m ≤ maxLen) (hbytes : (n + m) * bytes ≤ 140737488355328) (hbase : base ≤ w.heap.size)
    (h : ∀ v' w', w'.ownsRow base e size v' (n + m) (xs ++ news) → w.grownBy w' v.ownBlock → (v'.ownBlock = v.ownBlock ∨ v'.ownBlock = some w.heap.size) → K (a.put o.dst v') w') :
    if Region.wanted o (yielded ops a.tmps) = true then Oper.wp P o a w K Q else E := by
  have hw : Region.wanted o (yielded ops a.tmps) = true := by simp [Region.wanted, hgd]
  rw [if_pos hw]
  exact wp_app w s x t ho base e i z size bytes ht hi hz hsize hby hzs hsz v n xs hs hown A m c news hx hr h1 h63 hbytes hbase h
section
variable {α : Type} {t : Ty α} {e : TypeId} {w w' : World} {base B n c : Nat} {v : Value} {l : List α} {F : List Nat}
theorem GrowR.own (h : GrowR t e w base B v l) : ∀ b, v.ownBlock = some b → base ≤ b ∧ b < w.heap.size := fun b hb => by
  obtain ⟨css, h1, _⟩ := h; exact h1.lt b hb
theorem GrowR.put (h : GrowR t e w base B v l) {p : Addr} (h1 : p.block < base) (h2 : B ≤ p.block) (u : Value) : GrowR t e (w.setCell p u) base B v l := by
  obtain ⟨css, k1, k2, k5⟩ := h
  refine ⟨css, k1.kept (row := some p.block) ⟨rfl, rfl, rfl, by simp [World.setCell], fun i hi hn => Below.heap_setCell w p u i (fun e => hn (by rw [e]))⟩ ?_, k2, fun i a es q1 q2 => t.keep (k5 i a es q1 q2) fun b hlt => Below.heap_setCell w p u b (by omega)⟩
  refine .inr fun e => ?_
  have := (k1.lt _ e).1
  omega
theorem GrowR.shape (h : GrowR t e w base B v l) : ∃ A c, v = .slice A l.length c := by
  obtain ⟨css, h1, _⟩ := h
  rcases h1.2 with ⟨rfl, h0⟩ | ⟨g, cap, cur, rfl, _⟩
  · exact ⟨none, 0, by rw [h0]⟩
  · exact ⟨_, cap, rfl⟩
theorem GrowO.shape (h : GrowO t e w base v l F) : ∃ A c, v = .slice A l.length c := by
  obtain ⟨⟨css, Fs, h1, _⟩, _⟩ := h
  rcases h1.2 with ⟨rfl, h0⟩ | ⟨g, cap, cur, rfl, _⟩
  · exact ⟨none, 0, by rw [h0]⟩
  · exact ⟨_, cap, rfl⟩
theorem GrowR.shapeN (h : GrowR t e w base B v l) : ∃ A n c, v = .slice A n c ∧ n = l.length := by
  obtain ⟨A, c, rfl⟩ := h.shape; exact ⟨A, _, c, rfl, rfl⟩
theorem GrowR.doneAs {A : Option Addr} (h : GrowR t e w base B (.slice A n c) l) (hw : B ≤ w.heap.size) : t.row.R w w.heap.size [.slice A n c] l := by
  obtain ⟨A', c', e1, h2⟩ := h.done hw
  injection e1 with e1 e2 e3
  subst e1 e2 e3
  exact h2
theorem GrowO.shapeN (h : GrowO t e w base v l F) : ∃ A n c, v = .slice A n c ∧ n = l.length := by
  obtain ⟨A, c, rfl⟩ := h.shape; exact ⟨A, _, c, rfl, rfl⟩
theorem GrowO.own (h : GrowO t e w base v l F) : ∀ b, v.ownBlock = some b → base ≤ b ∧ b < w.heap.size := fun b hb => by
  obtain ⟨⟨css, Fs, h1, _⟩, _⟩ := h; exact h1.lt b hb
variable {P : Program} {ops : Array Oper} {rest : List Oper} {o : Oper} {a : Act} {K : Act → World → Prop} {Q : Exit → Act → World → Prop} {E : Prop}
end
end Go.Proofs.Ytnfmjgldcnokbaa
