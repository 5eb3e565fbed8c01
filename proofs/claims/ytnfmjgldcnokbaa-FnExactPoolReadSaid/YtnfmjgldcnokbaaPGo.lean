/-
  PRdQ: texts joined.
-/
import Derived.Test.YtnfmjgldcnokbaaPGn
namespace Go.Proofs.Ytnfmjgldcnokbaa
set_option maxRecDepth 100000
set_option linter.unusedVariables false
set_option linter.unusedSimpArgs false
open Go.ChangeShapes Go.WideShapes Go.ChangeAt Go.RowKit
open Fld
set_option maxHeartbeats 2000000 in
theorem s_l5read_short {w : World} {n c : Nat} {A : Option Addr} {l : List Int} (hd : tBy.R w w.heap.size [.slice A n c] l) (hn : n ≤ 1048576) (hs : n < 2 ∨ n < rdSz l) :
    Calls Try.prog 69 #[.slice A n c] w fun e w' => e = .returned (.tuple #[.agg #[.slice none 0 0, .slice none 0 0], .slice none 0 0, .bool false]) ∧ Below w.heap.size w w' := by
  obtain ⟨hI0, hnc, hcm⟩ := slR_ints hd
  have B1 : Box ((w.alloc (.cells #[.slice none 0 0, .slice none 0 0] 54)).alloc (.cells #[.slice none 0 0, .slice none 0 0] 54)) w.heap.size 54 #[.slice none 0 0, .slice none 0 0] := (Box.new _ _ _).alloc _
  have B2 : Box ((w.alloc (.cells #[.slice none 0 0, .slice none 0 0] 54)).alloc (.cells #[.slice none 0 0, .slice none 0 0] 54)) (w.heap.size + 1) 54 #[.slice none 0 0, .slice none 0 0] := by simpa using Box.new (w.alloc (.cells #[.slice none 0 0, .slice none 0 0] 54)) 54 #[.slice none 0 0, .slice none 0 0]
  have y0 := B1.cell 0; have y1 := B1.cell 1; have f0 := B1.frozen 0; have f1 := B1.frozen 1
  have o0 := B2.cell 0; have o1 := B2.cell 1
  have RR := (B1.put 0 (.slice none 0 0)).put 1 (.slice none 0 0)
  have e0 := RR.cell 0; have e1 := RR.cell 1
  by_cases h2 : n < 2
  · have p1 : (n : Int) < 2 := by omega
    clear hs hd
    go_enter Try.func69, Try.ntmps69
    go_wp2
    refine bodyPost_ret (v := .tuple #[.agg #[.slice none 0 0, .slice none 0 0], .slice none 0 0, .bool false]) (by simp [results, Try.results69, go_sem, e0, e1]) rfl ⟨rfl, ?_⟩
    first | exact (show Below w.heap.size w ((w.alloc (.cells #[.slice none 0 0, .slice none 0 0] 54)).alloc (.cells #[.slice none 0 0, .slice none 0 0] 54)) from (belx)) | exact bel_put (bel_put (show Below w.heap.size w ((w.alloc (.cells #[.slice none 0 0, .slice none 0 0] 54)).alloc (.cells #[.slice none 0 0, .slice none 0 0] 54)) from (belx)) (p := ⟨w.heap.size, 0, none⟩) (Nat.le_refl _) _) (p := ⟨w.heap.size, 1, none⟩) (Nat.le_refl _) _
  · have hs2 : n < rdSz l := by omega
    obtain ⟨ba, of0, rfl, hba, hc0, hw0⟩ := hI0.at_ (i := 0) (by omega)
    obtain ⟨bb, of1, e1, -, hc1, hw1⟩ := hI0.at_ (i := 1) (by omega)
    injection e1 with e1; injection e1 with e1 e1' _; subst e1 e1'
    rw [Nat.add_zero] at hc0
    have r0 := u8_rg' hw0
    have r1 := u8_rg' hw1
    obtain ⟨N, hN⟩ : ∃ N : Nat, rdN l = N := ⟨_, rfl⟩
    obtain ⟨M, hM⟩ : ∃ M : Nat, rdM l = M := ⟨_, rfl⟩
    have e0' : l.getD 0 0 = (N : Int) := by rw [← hN]; unfold rdN; omega
    have e1' : l.getD 1 0 = (M : Int) := by rw [← hM]; unfold rdM; omega
    have HSZ : rdSz l = 2 + 83 * N + 4 * M := by unfold rdSz; rw [hN, hM]
    rw [e0'] at hc0 r0; rw [e1'] at hc1 r1
    rw [HSZ] at hs2
    clear hw0 hw1 e0' e1' hN hM HSZ hd hs
    have p1 : ¬ (n : Int) < 2 := by omega
    have p2 : (n : Int) < 2 + (N : Int) * 83 + 4 * (M : Int) := by omega
    have p3 : (0 : Int) < (n : Int) := by omega
    have p4 : (1 : Int) < (n : Int) := by omega
    have v1 : IntKind.i64.wrap ((N : Int) * 83) = (N : Int) * 83 := IntWalk.i64_in _ (by omega)
    have v2 : IntKind.i64.wrap (2 + (N : Int) * 83) = 2 + (N : Int) * 83 := IntWalk.i64_in _ (by omega)
    have v3 : IntKind.i64.wrap (4 * (M : Int)) = 4 * (M : Int) := IntWalk.i64_in _ (by omega)
    have v4 : IntKind.i64.wrap (2 + (N : Int) * 83 + 4 * (M : Int)) = 2 + (N : Int) * 83 + 4 * (M : Int) := IntWalk.i64_in _ (by omega)
    have d0 : ((w.alloc (.cells #[.slice none 0 0, .slice none 0 0] 54)).alloc (.cells #[.slice none 0 0, .slice none 0 0] 54)).cell? ⟨ba, of0, none⟩ = some (.int .u8 (N : Int)) := cell_bel (belx) hc0
    have d1 : ((w.alloc (.cells #[.slice none 0 0, .slice none 0 0] 54)).alloc (.cells #[.slice none 0 0, .slice none 0 0] 54)).cell? ⟨ba, of0 + 1, none⟩ = some (.int .u8 (M : Int)) := cell_bel (belx) hc1
    go_enter Try.func69, Try.ntmps69
    go_wp2_with fail
    go_quiet (fail)
    go_wp2
    refine bodyPost_ret (v := .tuple #[.agg #[.slice none 0 0, .slice none 0 0], .slice none 0 0, .bool false]) (by simp [results, Try.results69, go_sem, e0, e1]) rfl ⟨rfl, ?_⟩
    exact bel_put (bel_put (show Below w.heap.size w _ from (belx)) (p := ⟨w.heap.size, 0, none⟩) (Nat.le_refl _) _) (p := ⟨w.heap.size, 1, none⟩) (Nat.le_refl _) _
set_option maxHeartbeats 2000000 in
theorem s_PoolRead {w : World} {n c : Nat} {A : Option Addr} {l : List Int} (h : tBy.R w w.heap.size [.slice A n c] l) (hz : l.length ≤ 1048576) :
    Calls Try.prog 28 #[.slice A n c] w fun e w' => ∃ cs, e = .returned (.tuple #[.agg cs.toArray, .bool (decide (RdOk l))]) ∧ tPool.R w' w'.heap.size cs (fRd l) ∧ Below w.heap.size w w' := by
  have HL := Lib.hid (slR_ints h).1.1
  have hn : n ≤ 1048576 := by have := HL.out; omega
  by_cases hsh : n < 2 ∨ n < rdSz l
  · have hp : ¬ RdOk l := fun x => by have a1 := x.1.1; have a2 := x.1.2; have a3 := HL.out; omega
    have HD := Lib.hid (decide_eq_false hp)
    rw [fRd_f hp, HD.out]
    clear hp
    go_enter Try.func28, Try.ntmps28
    go_wp2_with fail
    refine (s_l5read_short (tBy.reach h (belx)) hn hsh).mono ?_
    rintro e w1 ⟨rfl, hb1⟩
    have Y1 : Box w1 w.heap.size 54 #[.slice none 0 0, .slice none 0 0] := Box.below (Box.new _ _ _) hb1 (by simp)
    have hB1 : Below w.heap.size w w1 := bel_trans (belx) hb1
    have z1 : w.heap.size + 1 ≤ w1.heap.size := by have := hb1.size; simpa using this
    have Y2 := Y1.alloc (.cells #[.slice none 0 0, .slice none 0 0] 54)
    have y0 := Y2.cell 0; have y1 := Y2.cell 1; have f0 := Y2.frozen 0; have f1 := Y2.frozen 1
    go_wp2
    have RR := (Y2.put 0 (.slice none 0 0)).put 1 (.slice none 0 0)
    have e0 := RR.cell 0; have e1 := RR.cell 1
    refine bodyPost_ret (v := .tuple #[.agg #[.slice none 0 0, .slice none 0 0], .bool false]) (by simp [results, Try.results28, go_sem, e0, e1]) rfl ⟨[.slice none 0 0, .slice none 0 0], rfl, tPool.read plzO, ?_⟩
    exact bel_put (bel_put (bel_alloc hB1 _) (Nat.le_refl _) _) (Nat.le_refl _) _
  have h2 : 2 ≤ n := by omega
  have hs : rdSz l ≤ n := by omega
  obtain ⟨r, hr⟩ : ∃ r, n - rdSz l = r := ⟨_, rfl⟩
  by_cases hok : PlOk (rdP l)
  rotate_left
  · have hp : ¬ RdOk l := fun x => hok x.2
    have HD := Lib.hid (decide_eq_false hp)
    have HK := Lib.hid (decide_eq_false hok)
    rw [fRd_f hp, HD.out]
    clear hp hok hsh
    go_enter Try.func28, Try.ntmps28
    go_wp2_with fail
    refine (s_l5read (tBy.reach h (belx)) hn h2 hs).mono ?_
    rintro e w1 ⟨cs, A', c', F, rfl, hO, -, hb1⟩
    obtain ⟨G0, d0, G1, H0, d1, H1, rfl, -⟩ := openOPool hO
    rw [HK.out]
    clear hO hs hr
    have Y1 : Box w1 w.heap.size 54 #[.slice none 0 0, .slice none 0 0] := Box.below (Box.new _ _ _) hb1 (by simp)
    have hB1 : Below w.heap.size w w1 := bel_trans (belx) hb1
    have z1 : w.heap.size + 1 ≤ w1.heap.size := by have := hb1.size; simpa using this
    have Y2 := Y1.alloc (.cells #[.slice G0 (rdP l).1.length d0, .slice H0 (rdP l).2.length d1] 54)
    have y0 := Y2.cell 0; have y1 := Y2.cell 1; have f0 := Y2.frozen 0; have f1 := Y2.frozen 1
    go_wp2
    have RR := (Y2.put 0 (.slice none 0 0)).put 1 (.slice none 0 0)
    have e0 := RR.cell 0; have e1 := RR.cell 1
    refine bodyPost_ret (v := .tuple #[.agg #[.slice none 0 0, .slice none 0 0], .bool false]) (by simp [results, Try.results28, go_sem, e0, e1]) rfl ⟨[.slice none 0 0, .slice none 0 0], rfl, tPool.read plzO, ?_⟩
    exact bel_put (bel_put (bel_alloc hB1 _) (Nat.le_refl _) _) (Nat.le_refl _) _
  have HK := Lib.hid (decide_eq_true hok)
  by_cases hr0 : r = 0
  rotate_left
  · have hp : ¬ RdOk l := fun x => by have a2 := x.1.2; have a3 := HL.out; omega
    have HD := Lib.hid (decide_eq_false hp)
    have q : (0 : Int) < (r : Int) := by omega
    rw [fRd_f hp, HD.out]
    have HR := Lib.hid hr
    clear hp hok hsh hr
    go_enter Try.func28, Try.ntmps28
    go_wp2_with fail
    refine (s_l5read (tBy.reach h (belx)) hn h2 hs).mono ?_
    rintro e w1 ⟨cs, A', c', F, rfl, hO, -, hb1⟩
    obtain ⟨G0, d0, G1, H0, d1, H1, rfl, -⟩ := openOPool hO
    rw [HK.out, HR.out]
    clear hO hs
    have Y1 : Box w1 w.heap.size 54 #[.slice none 0 0, .slice none 0 0] := Box.below (Box.new _ _ _) hb1 (by simp)
    have hB1 : Below w.heap.size w w1 := bel_trans (belx) hb1
    have z1 : w.heap.size + 1 ≤ w1.heap.size := by have := hb1.size; simpa using this
    have Y2 := Y1.alloc (.cells #[.slice G0 (rdP l).1.length d0, .slice H0 (rdP l).2.length d1] 54)
    have y0 := Y2.cell 0; have y1 := Y2.cell 1; have f0 := Y2.frozen 0; have f1 := Y2.frozen 1
    go_wp2
    have RR := (Y2.put 0 (.slice none 0 0)).put 1 (.slice none 0 0)
    have e0 := RR.cell 0; have e1 := RR.cell 1
    refine bodyPost_ret (v := .tuple #[.agg #[.slice none 0 0, .slice none 0 0], .bool false]) (by simp [results, Try.results28, go_sem, e0, e1]) rfl ⟨[.slice none 0 0, .slice none 0 0], rfl, tPool.read plzO, ?_⟩
    exact bel_put (bel_put (bel_alloc hB1 _) (Nat.le_refl _) _) (Nat.le_refl _) _
  · subst hr0
    have hp : RdOk l := ⟨⟨by have := HL.out; omega, by have := HL.out; omega⟩, hok⟩
    have HD := Lib.hid (decide_eq_true hp)
    rw [fRd_t hp, HD.out]
    have HR := Lib.hid hr
    clear hp hok hsh hr
    go_enter Try.func28, Try.ntmps28
    go_wp2_with fail
    refine (s_l5read (tBy.reach h (belx)) hn h2 hs).mono ?_
    rintro e w1 ⟨cs, A', c', F, rfl, hO, hN, hb1⟩
    have hOk := hO
    obtain ⟨G0, d0, G1, H0, d1, H1, rfl, -⟩ := openOPool hOk
    rw [HK.out, HR.out]
    have Y1 : Box w1 w.heap.size 54 #[.slice none 0 0, .slice none 0 0] := Box.below (Box.new _ _ _) hb1 (by simp)
    have hB1 : Below w.heap.size w w1 := bel_trans (belx) hb1
    have z1 : w.heap.size + 1 ≤ w1.heap.size := by have := hb1.size; simpa using this
    have hM : New (w.heap.size + 1) F := hN.lower (by simp)
    clear hOk hs hN
    have Y2 := Y1.alloc (.cells #[.slice G0 (rdP l).1.length d0, .slice H0 (rdP l).2.length d1] 54)
    have T2 : Box (w1.alloc (.cells #[.slice G0 (rdP l).1.length d0, .slice H0 (rdP l).2.length d1] 54)) w1.heap.size 54 #[.slice G0 (rdP l).1.length d0, .slice H0 (rdP l).2.length d1] := Box.new _ _ _
    have y0 := Y2.cell 0; have y1 := Y2.cell 1; have f0 := Y2.frozen 0; have f1 := Y2.frozen 1
    have t0 := T2.cell 0; have t1 := T2.cell 1
    go_wp2
    have RR := (Y2.put 0 (.slice G0 (rdP l).1.length d0)).put 1 (.slice H0 (rdP l).2.length d1)
    have e0 := RR.cell 0; have e1 := RR.cell 1
    have hX := put2_O (Ty.below (t := tPool) hO (show Below w1.heap.size w1 (w1.alloc (.cells #[.slice G0 (rdP l).1.length d0, .slice H0 (rdP l).2.length d1] 54)) from (belx))) (hM.not (show w.heap.size < w.heap.size + 1 by omega))
    refine bodyPost_ret (v := .tuple #[.agg #[.slice G0 (rdP l).1.length d0, .slice H0 (rdP l).2.length d1], .bool true]) (by simp [results, Try.results28, go_sem, e0, e1]) rfl ⟨[.slice G0 (rdP l).1.length d0, .slice H0 (rdP l).2.length d1], rfl, tPool.read hX, ?_⟩
    exact bel_put (bel_put (bel_alloc hB1 _) (Nat.le_refl _) _) (Nat.le_refl _) _
end Go.Proofs.Ytnfmjgldcnokbaa
