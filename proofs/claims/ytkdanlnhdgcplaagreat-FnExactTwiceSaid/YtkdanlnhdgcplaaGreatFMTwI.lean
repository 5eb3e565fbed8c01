/-
  TwI: texts joined.
-/
import Derived.Test.YtkdanlnhdgcplaaGreatFGa
import Derived.Test.YtkdanlnhdgcplaaGreatFMPFh
import Derived.Test.YtkdanlnhdgcplaaGreatFMTwP
import Derived.Laws.EntriesVeiled
namespace Go.Proofs.YtkdanlnhdgcplaaGreat
set_option maxRecDepth 100000
set_option linter.unusedVariables false
set_option linter.unusedSimpArgs false
open Go.ChangeShapes Go.WideShapes Go.ChangeAt Go.RowKit
open Fld
theorem O7 {α : Type} {t : Ty α} {w : World} {cs : List Value} {a : α} {F : List Nat} {B g : Nat} (h : t.O w cs a F) (hN : New B F) (hg : g < B) (u0 u1 u2 u3 u4 u5 u6 : Value) : t.O (((((((w.setCell ⟨g, 0, none⟩ u0).setCell ⟨g, 1, none⟩ u1).setCell ⟨g, 2, none⟩ u2).setCell ⟨g, 3, none⟩ u3).setCell ⟨g, 4, none⟩ u4).setCell ⟨g, 5, none⟩ u5).setCell ⟨g, 6, none⟩ u6) cs a F :=
 (Ty.far (Ty.far (Ty.far (Ty.far (Ty.far (Ty.far (Ty.far h hN (p := ⟨g, 0, none⟩) hg u0) hN (p := ⟨g, 1, none⟩) hg u1) hN (p := ⟨g, 2, none⟩) hg u2) hN (p := ⟨g, 3, none⟩) hg u3) hN (p := ⟨g, 4, none⟩) hg u4) hN (p := ⟨g, 5, none⟩) hg u5) hN (p := ⟨g, 6, none⟩) hg u6)
theorem X7 {w : World} {g b : Nat} {ty : TypeId} {cs : Array Value} (h : Box w b ty cs) (hg : ¬ b = g) (u0 u1 u2 u3 u4 u5 u6 : Value) : Box (((((((w.setCell ⟨g, 0, none⟩ u0).setCell ⟨g, 1, none⟩ u1).setCell ⟨g, 2, none⟩ u2).setCell ⟨g, 3, none⟩ u3).setCell ⟨g, 4, none⟩ u4).setCell ⟨g, 5, none⟩ u5).setCell ⟨g, 6, none⟩ u6) b ty cs :=
 (((((((h.far (p := ⟨g, 0, none⟩) hg u0).far (p := ⟨g, 1, none⟩) hg u1).far (p := ⟨g, 2, none⟩) hg u2).far (p := ⟨g, 3, none⟩) hg u3).far (p := ⟨g, 4, none⟩) hg u4).far (p := ⟨g, 5, none⟩) hg u5).far (p := ⟨g, 6, none⟩) hg u6)
theorem B7 {a w : World} (h : Bel a w) {g : Nat} (hg : a.heap.size ≤ g) (u0 u1 u2 u3 u4 u5 u6 : Value) : Bel a (((((((w.setCell ⟨g, 0, none⟩ u0).setCell ⟨g, 1, none⟩ u1).setCell ⟨g, 2, none⟩ u2).setCell ⟨g, 3, none⟩ u3).setCell ⟨g, 4, none⟩ u4).setCell ⟨g, 5, none⟩ u5).setCell ⟨g, 6, none⟩ u6) :=
 (bel_put (bel_put (bel_put (bel_put (bel_put (bel_put (bel_put h hg _) hg _) hg _) hg _) hg _) hg _) hg _)
theorem i_events {w : World} {p : Value} :
  Calls Tryz.prog 85 #[p] w fun e w' => e = .returned (.agg #[.func (.func 121) #[p] #[], .func (.func 122) #[p] #[], .func (.func 123) #[p] #[]]) ∧ Bel w w' := by
 have R0 : Box (w.alloc (.cells #[.nilFunc, .nilFunc, .nilFunc] 140)) w.heap.size 140 #[.nilFunc, .nilFunc, .nilFunc] := Box.new _ _ _
 have c0 := R0.cell 0; have c1 := R0.cell 1; have c2 := R0.cell 2; have f0 := R0.frozen 0; have f1 := R0.frozen 1; have f2 := R0.frozen 2
 go_enter Tryz.func85, Tryz.ntmps85
 go_wp2
 have RR := ((R0.put 0 (.func (.func 121) #[p] #[])).put 1 (.func (.func 122) #[p] #[])).put 2 (.func (.func 123) #[p] #[])
 have y0 := RR.cell 0; have y1 := RR.cell 1; have y2 := RR.cell 2
 refine bodyPost_ret (v := .agg #[.func (.func 121) #[p] #[], .func (.func 122) #[p] #[], .func (.func 123) #[p] #[]]) (by simp [results, Tryz.results85, go_sem, y0, y1, y2]) rfl ?_
 refine ⟨rfl, ?_⟩
 exact (belx)
theorem ix3 {p : Value} {W : World} : Sem.run Tryz.prog (Instr.index 140 (.agg #[.func (.func 121) #[p] #[], .func (.func 122) #[p] #[], .func (.func 123) #[p] #[]]) (.int .i64 2)) W = .ok (.func (.func 123) #[p] #[]) W := by
 simp [Instr.index, go_sem]
set_option maxHeartbeats 1000000 in
theorem i_double_t {w : World} {lo tb k : Nat} {d : DNet} (hT : Trf w lo tb d) (hlo : lo ≤ w.heap.size) (hk : k < d.2.2.2.2.1.length) (hl4 : d.2.2.2.2.1.length ≤ 60) (hl6 : d.2.2.2.2.2.2.length ≤ 500) (hm : ∀ m ∈ d.2.2.2.2.1, MlOk m) (hd : (Lit.int .i64 d.1).wf = true) (hr : Room d) :
  Calls Tryz.prog 123 #[.pointer (some ⟨tb, 0, none⟩), .int .i64 (k : Int)] w fun e w' => e = .returned (.int .i64 0) ∧ Trf w' lo tb (fTr d (d.2.2.2.2.1.getD k (0, []))) ∧ Below lo w w' := by
 have hT0 := hT
 obtain ⟨v3, v4, v5, v6, F3, F4, F5, hbx, -, h4, -, -, -, -, -, -, -, -, -, -⟩ := hT
 obtain ⟨A4, c4, F6, rfl, hO4, -, -⟩ := h4.done2
 have hR4 := tMail.row.read hO4
 obtain ⟨n4, hn4⟩ : ∃ n, d.2.2.2.2.1.length = n := ⟨_, rfl⟩
 rw [hn4] at hR4 hbx
 obtain ⟨a, b, off, es, ha, rfl, hb, hes, hR⟩ := rowR_at (K := 2) hR4 (show k < n4 by omega) rfl
 have hRk := hR
 have hma := (hm a (List.mem_of_getElem? ha)).2
 obtain ⟨Am, nm, cm, rfl, -, -, -, -, -⟩ := openMail hR
 have k4 := hbx.cell 4
 have x0 := hes 0 (by omega); have x1 := hes 1 (by omega)
 have e0 : w.cell? ⟨b, off + k * 2, none⟩ = some (.int .i64 a.1) := x0
 have e1 : w.cell? ⟨b, off + k * 2 + 1, none⟩ = some (.slice Am nm cm) := x1
 have kn : (k : Int) < (n4 : Int) := by omega
 have hga : d.2.2.2.2.1.getD k (0, []) = a := by rw [List.getD_eq_getElem?_getD, ha]; rfl
 have HGA := Lib.hid hga; have HD := Lib.hid hd; have HR := Lib.hid hr; have HN := Lib.hid hn4; have HMA := Lib.hid hma
 have HL4 := Lib.hid hl4; have HL6 := Lib.hid hl6
 clear hbx h4 hO4 hR4 hes x0 x1 hR hga hd hr hma hm ha hn4 hl4 hl6 hk
 go_enter Tryz.func123, Tryz.ntmps123
 go_wp2_with fail
 refine (i_transmit_t hT0 hRk (by show a.2.length ≤ 1048576; have := HMA.out; omega) hlo HR.out.1 HR.out.2 HD.out).mono ?_
 rintro e w1 ⟨rfl, hT1, hb1⟩
 go_wp2
 go_ret
 exact ⟨rfl, by rw [HGA.out]; exact hT1, hb1⟩
set_option maxHeartbeats 1000000 in
theorem i_double_f {w : World} {lo tb k : Nat} {d : DNet} (hT : Trf w lo tb d) (hlo : lo ≤ w.heap.size) (hk : k < d.2.2.2.2.1.length) (hl4 : d.2.2.2.2.1.length ≤ 60) (hl6 : d.2.2.2.2.2.2.length ≤ 500) (hm : ∀ m ∈ d.2.2.2.2.1, MlOk m) (hd : (Lit.int .i64 d.1).wf = true) (hr : ¬ Room d) :
  Calls Tryz.prog 123 #[.pointer (some ⟨tb, 0, none⟩), .int .i64 (k : Int)] w fun e w' => e = .returned (.int .i64 (-1)) ∧ Trf w' lo tb d ∧ Below lo w w' := by
 have hT0 := hT
 obtain ⟨v3, v4, v5, v6, F3, F4, F5, hbx, -, h4, -, -, -, -, -, -, -, -, -, -⟩ := hT
 obtain ⟨A4, c4, F6, rfl, hO4, -, -⟩ := h4.done2
 have hR4 := tMail.row.read hO4
 obtain ⟨n4, hn4⟩ : ∃ n, d.2.2.2.2.1.length = n := ⟨_, rfl⟩
 rw [hn4] at hR4 hbx
 obtain ⟨a, b, off, es, ha, rfl, hb, hes, hR⟩ := rowR_at (K := 2) hR4 (show k < n4 by omega) rfl
 have hRk := hR
 have hma := (hm a (List.mem_of_getElem? ha)).2
 obtain ⟨Am, nm, cm, rfl, -, -, -, -, -⟩ := openMail hR
 have k4 := hbx.cell 4
 have x0 := hes 0 (by omega); have x1 := hes 1 (by omega)
 have e0 : w.cell? ⟨b, off + k * 2, none⟩ = some (.int .i64 a.1) := x0
 have e1 : w.cell? ⟨b, off + k * 2 + 1, none⟩ = some (.slice Am nm cm) := x1
 have kn : (k : Int) < (n4 : Int) := by omega
 have hga : d.2.2.2.2.1.getD k (0, []) = a := by rw [List.getD_eq_getElem?_getD, ha]; rfl
 have HGA := Lib.hid hga; have HD := Lib.hid hd; have HR := Lib.hid hr; have HN := Lib.hid hn4; have HMA := Lib.hid hma
 have HL4 := Lib.hid hl4; have HL6 := Lib.hid hl6
 clear hbx h4 hO4 hR4 hes x0 x1 hR hga hd hr hma hm ha hn4 hl4 hl6 hk
 go_enter Tryz.func123, Tryz.ntmps123
 go_wp2_with fail
 refine (i_transmit_f hT0 hRk (by have := HL4.out; omega) (by have := HL6.out; omega) HR.out).mono ?_
 rintro e w1 ⟨rfl, hT1, hb1⟩
 go_wp2
 go_ret
 exact ⟨rfl, hT1, hb1.mono hlo⟩
set_option maxHeartbeats 4000000 in
theorem i_happen2 {w : World} {cs : List Value} {p : DNet} {i : Int} (h : tNet.R w w.heap.size cs p) (hz : szNet p ≤ 1048576) (hi : (Lit.int .i64 i).wf = true) :
  Calls Tryz.prog 45 #[.agg cs.toArray, .int .i64 2, .int .i64 i] w fun e w' => ∃ cs F, e = .returned (.tuple #[.agg cs.toArray, .int .i64 (if NtAt p i ∧ Room p then 0 else -1)]) ∧ tNet.O w' cs (fTw p i) F ∧ New w.heap.size F ∧ Bel w w' := by
 have hk := h
 obtain ⟨A3, n3, c3, A4, n4, c4, A5, n5, c5, A6, n6, c6, rfl, j0, j1, j2, -, -, -, -, -, -, e4, -, -, -, -, -, -, -, -, -⟩ := openNet h
 have HI0 := Lib.hid j0; have HI1 := Lib.hid j1; have HI2 := Lib.hid j2
 clear j0 j1 j2
 obtain ⟨rr, hrr⟩ : ∃ r, (if NtAt p i ∧ Room p then (0 : Int) else -1) = r := ⟨_, rfl⟩
 rw [hrr]
 have HRR := Lib.hid hrr
 clear hrr
 by_cases hp : NtAt p i
 rotate_left
 ·have hN0 : rr = -1 := HRR.out.symm.trans (if_neg fun h => hp h.1)
  have hF0 : fTw p i = zNet := if_neg hp
  clear HRR
  subst hN0
  rw [hF0]
  have bad : decide (NtOk p) = false ∨ (decide (NtOk p) = true ∧ decide (i < 0) = true) ∨ (decide (NtOk p) = true ∧ decide (i < 0) = false ∧ decide ((n4 : Int) ≤ i) = true) := by
   by_cases hq : NtOk p
   ·by_cases g1 : i < 0
    ·exact .inr (.inl ⟨decide_eq_true hq, decide_eq_true g1⟩)
    ·exact .inr (.inr ⟨decide_eq_true hq, decide_eq_false g1, decide_eq_true (by have h2 : ¬ i < (p.2.2.2.2.1.length : Int) := fun h3 => hp ⟨hq, by omega, h3⟩; omega)⟩)
   ·exact .inl (decide_eq_false hq)
  rcases bad with d0 | ⟨d0, d1⟩ | ⟨d0, d1, d2⟩
  all_goals
   have HP := Lib.hid d0
   clear hp hF0 d0 e4
   go_enter Tryz.func45, Tryz.ntmps45
   go_wp2_with fail
   refine (i_NetOk (tNet.reach hk ?hB) hz).mono ?_
   case hB => exact (belx)
   rintro e w1 ⟨rfl, hb1⟩
   rw [HP.out]
   have NW : Box w1 w.heap.size 35 #[.int .i64 p.1, .int .i64 p.2.1, .int .i64 p.2.2.1, .slice A3 n3 c3, .slice A4 n4 c4, .slice A5 n5 c5, .slice A6 n6 c6] := Box.below ((Box.new w _ _).alloc _) hb1 (by simp; omega)
   have RW : Box w1 (w.heap.size + 1) 35 #[.int .i64 0, .int .i64 0, .int .i64 0, .slice none 0 0, .slice none 0 0, .slice none 0 0, .slice none 0 0] := Box.below (by simpa using Box.new (w.alloc (.cells #[.int .i64 p.1, .int .i64 p.2.1, .int .i64 p.2.2.1, .slice A3 n3 c3, .slice A4 n4 c4, .slice A5 n5 c5, .slice A6 n6 c6] 35)) 35 #[.int .i64 0, .int .i64 0, .int .i64 0, .slice none 0 0, .slice none 0 0, .slice none 0 0, .slice none 0 0]) hb1 (by simp)
   have BW : Bel w w1 := bel_trans (belx) hb1
   have k4 := NW.cell 4
   have rc0 := RW.cell 0; have rcf0 := RW.frozen 0; have rc1 := RW.cell 1; have rcf1 := RW.frozen 1; have rc2 := RW.cell 2; have rcf2 := RW.frozen 2; have rc3 := RW.cell 3; have rcf3 := RW.frozen 3; have rc4 := RW.cell 4; have rcf4 := RW.frozen 4; have rc5 := RW.cell 5; have rcf5 := RW.frozen 5; have rc6 := RW.cell 6; have rcf6 := RW.frozen 6
   go_wp2
   have RR := (((((((RW.put 0 (.int .i64 0)).put 1 (.int .i64 0)).put 2 (.int .i64 0)).put 3 (.slice none 0 0)).put 4 (.slice none 0 0)).put 5 (.slice none 0 0)).put 6 (.slice none 0 0))
   have y0 := RR.cell 0; have y1 := RR.cell 1; have y2 := RR.cell 2; have y3 := RR.cell 3; have y4 := RR.cell 4; have y5 := RR.cell 5; have y6 := RR.cell 6
   refine bodyPost_ret (v := .tuple #[.agg #[.int .i64 0, .int .i64 0, .int .i64 0, .slice none 0 0, .slice none 0 0, .slice none 0 0, .slice none 0 0], .int .i64 (-1)]) (by simp [results, Tryz.results45, go_sem, y0, y1, y2, y3, y4, y5, y6]) rfl ⟨_, [], rfl, zNetO, New.nil _, ?_⟩
   exact (bel_put (bel_put (bel_put (bel_put (bel_put (bel_put (bel_put BW lew _) lew _) lew _) lew _) lew _) lew _) lew _)
 have HP := Lib.hid (decide_eq_true hp.1)
 have HPK := Lib.hid hp
 obtain ⟨k, rfl⟩ := Int.eq_ofNat_of_zero_le hp.2.1
 have hkn : k < p.2.2.2.2.1.length := by have := hp.2.2; omega
 have d1 : decide ((k : Int) < 0) = false := decide_eq_false (by omega)
 have d2 : decide ((n4 : Int) ≤ (k : Int)) = false := decide_eq_false (by omega)
 have d3 : decide (n4 ≤ k) = false := decide_eq_false (by omega)
 have d4 : ¬ n4 ≤ k := by omega
 have HKN := Lib.hid hkn
 clear hp e4 hkn
 go_enter Tryz.func45, Tryz.ntmps45
 go_wp2_with fail
 refine (i_NetOk (tNet.reach hk ?hB) hz).mono ?_
 case hB => exact (belx)
 rintro e w1 ⟨rfl, hb1⟩
 rw [HP.out]
 have NW : Box w1 w.heap.size 35 #[.int .i64 p.1, .int .i64 p.2.1, .int .i64 p.2.2.1, .slice A3 n3 c3, .slice A4 n4 c4, .slice A5 n5 c5, .slice A6 n6 c6] := Box.below ((Box.new w _ _).alloc _) hb1 (by simp; omega)
 have RW : Box w1 (w.heap.size + 1) 35 #[.int .i64 0, .int .i64 0, .int .i64 0, .slice none 0 0, .slice none 0 0, .slice none 0 0, .slice none 0 0] := Box.below (by simpa using Box.new (w.alloc (.cells #[.int .i64 p.1, .int .i64 p.2.1, .int .i64 p.2.2.1, .slice A3 n3 c3, .slice A4 n4 c4, .slice A5 n5 c5, .slice A6 n6 c6] 35)) 35 #[.int .i64 0, .int .i64 0, .int .i64 0, .slice none 0 0, .slice none 0 0, .slice none 0 0, .slice none 0 0]) hb1 (by simp)
 have BW : Bel w w1 := bel_trans (belx) hb1
 have zr1 := RW.size
 have nw0 := NW.cell 0; have nw1 := NW.cell 1; have nw2 := NW.cell 2; have nw3 := NW.cell 3; have nw4 := NW.cell 4; have nw5 := NW.cell 5; have nw6 := NW.cell 6
 clear hb1
 go_wp2_with fail
 refine (i_trafficOf (tNet.reach hk BW) hz).mono ?_
 rintro e w2 ⟨tb, rfl, hT, hb2⟩
 replace RW := RW.below hb2 RW.size
 have BW2 := bel_trans BW hb2
 have zw1 := BW.size
 clear NW nw0 nw1 nw2 nw3 nw4 nw5 nw6
 go_wp2_with fail
 refine i_events.mono ?_
 rintro e w3 ⟨rfl, hb3⟩
 have hT3 := hT.below hb3
 replace RW := RW.below hb3 RW.size
 have BW3 := bel_trans BW2 hb3
 have hs3 := bel_trans hb2 hb3
 have zr := RW.size
 clear hT hb2 hb3 BW2
 have hix := ix3 (p := .pointer (some ⟨tb, 0, none⟩)) (W := w3)
 go_wp2_with fail
 by_cases hr : Room p
 ·obtain rfl : rr = 0 := HRR.out.symm.trans (if_pos ⟨HPK.out, hr⟩)
  have hF0 : fTw p (k : Int) = fTr p (p.2.2.2.2.1.getD k (0, [])) := by unfold fTw; rw [if_pos HPK.out, if_pos hr]; rfl
  obtain ⟨d, hd⟩ : ∃ d, fTr p (p.2.2.2.2.1.getD k (0, [])) = d := ⟨_, rfl⟩
  have HW0 := Lib.hid (show (Lit.int .i64 d.1).wf = true from by rw [← hd]; exact HI0.out)
  have HW1 := Lib.hid (show (Lit.int .i64 d.2.1).wf = true from by rw [← hd]; exact HI1.out)
  have HW2 := Lib.hid (show (Lit.int .i64 d.2.2.1).wf = true from by rw [← hd]; exact HI2.out)
  have HD := Lib.hid hd; have HF0 := Lib.hid (hF0.trans hd); have HRM := Lib.hid hr
  clear hd hF0 hr HRR
  refine (i_double_t hT3 hs3.size HKN.out HPK.out.1.2.1.1 HPK.out.1.2.1.2.2 HPK.out.1.2.2.2.1 HI0.out HRM.out).mono ?_
  rintro e w4 ⟨rfl, hT4, hb4⟩
  rw [HD.out] at hT4
  replace RW := RW.below hb4 (by omega)
  have BW4 : Bel w w4 := BW3.trans (hb4.mono zw1)
  obtain ⟨D3, g3, D4, g4, D5, g5, D6, g6, F, TB, hO, hNw⟩ := Trf.out hT4 HW0.out HW1.out HW2.out
  have tb0 := TB.cell 0; have tb1 := TB.cell 1; have tb2 := TB.cell 2; have tb3 := TB.cell 3; have tb4 := TB.cell 4; have tb5 := TB.cell 5; have tb6 := TB.cell 6
  have rc0 := RW.cell 0; have rcf0 := RW.frozen 0; have rc1 := RW.cell 1; have rcf1 := RW.frozen 1; have rc2 := RW.cell 2; have rcf2 := RW.frozen 2; have rc3 := RW.cell 3; have rcf3 := RW.frozen 3; have rc4 := RW.cell 4; have rcf4 := RW.frozen 4; have rc5 := RW.cell 5; have rcf5 := RW.frozen 5; have rc6 := RW.cell 6; have rcf6 := RW.frozen 6
  go_wp2
  have RR := (((((((RW.put 0 (.int .i64 d.1)).put 1 (.int .i64 d.2.1)).put 2 (.int .i64 d.2.2.1)).put 3 (.slice D3 d.2.2.2.1.length g3)).put 4 (.slice D4 d.2.2.2.2.1.length g4)).put 5 (.slice D5 d.2.2.2.2.2.1.length g5)).put 6 (.slice D6 d.2.2.2.2.2.2.length g6))
  have y0 := RR.cell 0; have y1 := RR.cell 1; have y2 := RR.cell 2; have y3 := RR.cell 3; have y4 := RR.cell 4; have y5 := RR.cell 5; have y6 := RR.cell 6
  have uu := O7 hO hNw (g := w.heap.size + 1) (by omega) (.int .i64 d.1) (.int .i64 d.2.1) (.int .i64 d.2.2.1) (.slice D3 d.2.2.2.1.length g3) (.slice D4 d.2.2.2.2.1.length g4) (.slice D5 d.2.2.2.2.2.1.length g5) (.slice D6 d.2.2.2.2.2.2.length g6)
  refine bodyPost_ret (v := .tuple #[.agg #[.int .i64 d.1, .int .i64 d.2.1, .int .i64 d.2.2.1, .slice D3 d.2.2.2.1.length g3, .slice D4 d.2.2.2.2.1.length g4, .slice D5 d.2.2.2.2.2.1.length g5, .slice D6 d.2.2.2.2.2.2.length g6], .int .i64 0]) (by simp [results, Tryz.results45, go_sem, y0, y1, y2, y3, y4, y5, y6]) rfl ?_
  first | refine ⟨[.int .i64 d.1, .int .i64 d.2.1, .int .i64 d.2.2.1, .slice D3 d.2.2.2.1.length g3, .slice D4 d.2.2.2.2.1.length g4, .slice D5 d.2.2.2.2.2.1.length g5, .slice D6 d.2.2.2.2.2.2.length g6], F, rfl, by rw [HF0.out]; exact uu, hNw.lower zw1, ?_⟩ | refine ⟨[.int .i64 d.1, .int .i64 d.2.1, .int .i64 d.2.2.1, .slice D3 d.2.2.2.1.length g3, .slice D4 d.2.2.2.2.1.length g4, .slice D5 d.2.2.2.2.2.1.length g5, .slice D6 d.2.2.2.2.2.2.length g6], rfl, F, by rw [HF0.out]; exact uu, hNw.lower zw1, ?_⟩
  exact B7 BW4 (by omega) (.int .i64 d.1) (.int .i64 d.2.1) (.int .i64 d.2.2.1) (.slice D3 d.2.2.2.1.length g3) (.slice D4 d.2.2.2.2.1.length g4) (.slice D5 d.2.2.2.2.2.1.length g5) (.slice D6 d.2.2.2.2.2.2.length g6)
 ·obtain rfl : rr = (-1) := HRR.out.symm.trans (if_neg fun h => hr h.2)
  have hF0 : fTw p (k : Int) = p := by unfold fTw; rw [if_pos HPK.out, if_neg hr]
  obtain ⟨d, hd⟩ : ∃ d, p = d := ⟨_, rfl⟩
  have HW0 := Lib.hid (show (Lit.int .i64 d.1).wf = true from by rw [← hd]; exact HI0.out)
  have HW1 := Lib.hid (show (Lit.int .i64 d.2.1).wf = true from by rw [← hd]; exact HI1.out)
  have HW2 := Lib.hid (show (Lit.int .i64 d.2.2.1).wf = true from by rw [← hd]; exact HI2.out)
  have HD := Lib.hid hd; have HF0 := Lib.hid (hF0.trans hd); have HRM := Lib.hid hr
  clear hd hF0 hr HRR
  refine (i_double_f hT3 hs3.size HKN.out HPK.out.1.2.1.1 HPK.out.1.2.1.2.2 HPK.out.1.2.2.2.1 HI0.out HRM.out).mono ?_
  rintro e w4 ⟨rfl, hT4, hb4⟩
  rw [HD.out] at hT4
  replace RW := RW.below hb4 (by omega)
  have BW4 : Bel w w4 := BW3.trans (hb4.mono zw1)
  obtain ⟨D3, g3, D4, g4, D5, g5, D6, g6, F, TB, hO, hNw⟩ := Trf.out hT4 HW0.out HW1.out HW2.out
  have tb0 := TB.cell 0; have tb1 := TB.cell 1; have tb2 := TB.cell 2; have tb3 := TB.cell 3; have tb4 := TB.cell 4; have tb5 := TB.cell 5; have tb6 := TB.cell 6
  have rc0 := RW.cell 0; have rcf0 := RW.frozen 0; have rc1 := RW.cell 1; have rcf1 := RW.frozen 1; have rc2 := RW.cell 2; have rcf2 := RW.frozen 2; have rc3 := RW.cell 3; have rcf3 := RW.frozen 3; have rc4 := RW.cell 4; have rcf4 := RW.frozen 4; have rc5 := RW.cell 5; have rcf5 := RW.frozen 5; have rc6 := RW.cell 6; have rcf6 := RW.frozen 6
  go_wp2
  have RR := (((((((RW.put 0 (.int .i64 d.1)).put 1 (.int .i64 d.2.1)).put 2 (.int .i64 d.2.2.1)).put 3 (.slice D3 d.2.2.2.1.length g3)).put 4 (.slice D4 d.2.2.2.2.1.length g4)).put 5 (.slice D5 d.2.2.2.2.2.1.length g5)).put 6 (.slice D6 d.2.2.2.2.2.2.length g6))
  have y0 := RR.cell 0; have y1 := RR.cell 1; have y2 := RR.cell 2; have y3 := RR.cell 3; have y4 := RR.cell 4; have y5 := RR.cell 5; have y6 := RR.cell 6
  have uu := O7 hO hNw (g := w.heap.size + 1) (by omega) (.int .i64 d.1) (.int .i64 d.2.1) (.int .i64 d.2.2.1) (.slice D3 d.2.2.2.1.length g3) (.slice D4 d.2.2.2.2.1.length g4) (.slice D5 d.2.2.2.2.2.1.length g5) (.slice D6 d.2.2.2.2.2.2.length g6)
  refine bodyPost_ret (v := .tuple #[.agg #[.int .i64 d.1, .int .i64 d.2.1, .int .i64 d.2.2.1, .slice D3 d.2.2.2.1.length g3, .slice D4 d.2.2.2.2.1.length g4, .slice D5 d.2.2.2.2.2.1.length g5, .slice D6 d.2.2.2.2.2.2.length g6], .int .i64 (-1)]) (by simp [results, Tryz.results45, go_sem, y0, y1, y2, y3, y4, y5, y6]) rfl ?_
  first | refine ⟨[.int .i64 d.1, .int .i64 d.2.1, .int .i64 d.2.2.1, .slice D3 d.2.2.2.1.length g3, .slice D4 d.2.2.2.2.1.length g4, .slice D5 d.2.2.2.2.2.1.length g5, .slice D6 d.2.2.2.2.2.2.length g6], F, rfl, by rw [HF0.out]; exact uu, hNw.lower zw1, ?_⟩ | refine ⟨[.int .i64 d.1, .int .i64 d.2.1, .int .i64 d.2.2.1, .slice D3 d.2.2.2.1.length g3, .slice D4 d.2.2.2.2.1.length g4, .slice D5 d.2.2.2.2.2.1.length g5, .slice D6 d.2.2.2.2.2.2.length g6], rfl, F, by rw [HF0.out]; exact uu, hNw.lower zw1, ?_⟩
  exact B7 BW4 (by omega) (.int .i64 d.1) (.int .i64 d.2.1) (.int .i64 d.2.2.1) (.slice D3 d.2.2.2.1.length g3) (.slice D4 d.2.2.2.2.1.length g4) (.slice D5 d.2.2.2.2.2.1.length g5) (.slice D6 d.2.2.2.2.2.2.length g6)
set_option maxHeartbeats 4000000 in
theorem i_Twice {w : World} {cs : List Value} {p : DNet} {i : Int} (h : tNet.R w w.heap.size cs p) (hz : szNet p ≤ 1048576) (hi : (Lit.int .i64 i).wf = true) :
  Calls Tryz.prog 16 #[.agg cs.toArray, .int .i64 i] w fun e w' => ∃ cs F, e = .returned (.tuple #[.agg cs.toArray, .bool (fTwB p i)]) ∧ tNet.O w' cs (fTw p i) F ∧ New w.heap.size F ∧ Bel w w' := by
 have hk := h
 have HWI := Lib.hid hi
 obtain ⟨A3, n3, c3, A4, n4, c4, A5, n5, c5, A6, n6, c6, rfl, -, -, -, -, -, -, -, -, -, -, -, -, -, -, -, -, -⟩ := openNet h
 obtain ⟨r, hrr⟩ : ∃ r, (if NtAt p i ∧ Room p then (0 : Int) else -1) = r := ⟨_, rfl⟩
 have HB := Lib.hid (show fTwB p i = decide (0 ≤ r) from by unfold fTwB; rw [← hrr]; by_cases hq : NtAt p i ∧ Room p; rw [if_pos hq, decide_eq_true hq]; rfl; rw [if_neg hq, decide_eq_false hq]; rfl)
 obtain ⟨d, hd⟩ : ∃ d, fTw p i = d := ⟨_, rfl⟩
 have HD := Lib.hid hd
 have HR := Lib.hid hrr
 rw [HB.out, hd]
 clear hd hrr
 go_enter Tryz.func16, Tryz.ntmps16
 go_wp2_with fail
 refine (i_happen2 (tNet.reach hk ?hB) hz HWI.out).mono ?_
 case hB => exact (belx)
 rintro e w1 ⟨cs1, F, rfl, hO, hN, hb1⟩
 rw [HR.out]
 rw [HD.out] at hO
 have hO1 := hO
 obtain ⟨D3, g3, Y3, D4, g4, Y4, D5, g5, Y5, D6, g6, Y6, rfl, -, -, -, -, -, -, -, -, -, -, -, -, -, -, -, -⟩ := openONet hO
 have NW : Box w1 w.heap.size 35 #[.int .i64 p.1, .int .i64 p.2.1, .int .i64 p.2.2.1, .slice A3 n3 c3, .slice A4 n4 c4, .slice A5 n5 c5, .slice A6 n6 c6] := Box.below ((Box.new w _ _).alloc _) hb1 (by simp; omega)
 have RW : Box w1 (w.heap.size + 1) 35 #[.int .i64 0, .int .i64 0, .int .i64 0, .slice none 0 0, .slice none 0 0, .slice none 0 0, .slice none 0 0] := Box.below (by simpa using Box.new (w.alloc (.cells #[.int .i64 p.1, .int .i64 p.2.1, .int .i64 p.2.2.1, .slice A3 n3 c3, .slice A4 n4 c4, .slice A5 n5 c5, .slice A6 n6 c6] 35)) 35 #[.int .i64 0, .int .i64 0, .int .i64 0, .slice none 0 0, .slice none 0 0, .slice none 0 0, .slice none 0 0]) hb1 (by simp)
 have BW : Bel w w1 := bel_trans (belx) hb1
 have NF := NW
 have nw0 := NW.cell 0; have nwf0 := NW.frozen 0; have nw1 := NW.cell 1; have nwf1 := NW.frozen 1; have nw2 := NW.cell 2; have nwf2 := NW.frozen 2; have nw3 := NW.cell 3; have nwf3 := NW.frozen 3; have nw4 := NW.cell 4; have nwf4 := NW.frozen 4; have nw5 := NW.cell 5; have nwf5 := NW.frozen 5; have nw6 := NW.cell 6; have nwf6 := NW.frozen 6
 have rc0 := RW.cell 0; have rcf0 := RW.frozen 0; have rc1 := RW.cell 1; have rcf1 := RW.frozen 1; have rc2 := RW.cell 2; have rcf2 := RW.frozen 2; have rc3 := RW.cell 3; have rcf3 := RW.frozen 3; have rc4 := RW.cell 4; have rcf4 := RW.frozen 4; have rc5 := RW.cell 5; have rcf5 := RW.frozen 5; have rc6 := RW.cell 6; have rcf6 := RW.frozen 6
 have N2 : New (w.heap.size + 2) F := hN.lower (by simp)
 have NN := (((((((NW.put 0 (.int .i64 d.1)).put 1 (.int .i64 d.2.1)).put 2 (.int .i64 d.2.2.1)).put 3 (.slice D3 d.2.2.2.1.length g3)).put 4 (.slice D4 d.2.2.2.2.1.length g4)).put 5 (.slice D5 d.2.2.2.2.2.1.length g5)).put 6 (.slice D6 d.2.2.2.2.2.2.length g6))
 have q0 := NN.cell 0; have q1 := NN.cell 1; have q2 := NN.cell 2; have q3 := NN.cell 3; have q4 := NN.cell 4; have q5 := NN.cell 5; have q6 := NN.cell 6
 have R1 := X7 RW (g := w.heap.size) (by omega) (.int .i64 d.1) (.int .i64 d.2.1) (.int .i64 d.2.2.1) (.slice D3 d.2.2.2.1.length g3) (.slice D4 d.2.2.2.2.1.length g4) (.slice D5 d.2.2.2.2.2.1.length g5) (.slice D6 d.2.2.2.2.2.2.length g6)
 have rr0 := R1.cell 0; have rrf0 := R1.frozen 0; have rr1 := R1.cell 1; have rrf1 := R1.frozen 1; have rr2 := R1.cell 2; have rrf2 := R1.frozen 2; have rr3 := R1.cell 3; have rrf3 := R1.frozen 3; have rr4 := R1.cell 4; have rrf4 := R1.frozen 4; have rr5 := R1.cell 5; have rrf5 := R1.frozen 5; have rr6 := R1.cell 6; have rrf6 := R1.frozen 6
 go_wp2
 have R2 := (((((((R1.put 0 (.int .i64 d.1)).put 1 (.int .i64 d.2.1)).put 2 (.int .i64 d.2.2.1)).put 3 (.slice D3 d.2.2.2.1.length g3)).put 4 (.slice D4 d.2.2.2.2.1.length g4)).put 5 (.slice D5 d.2.2.2.2.2.1.length g5)).put 6 (.slice D6 d.2.2.2.2.2.2.length g6))
 have y0 := R2.cell 0; have y1 := R2.cell 1; have y2 := R2.cell 2; have y3 := R2.cell 3; have y4 := R2.cell 4; have y5 := R2.cell 5; have y6 := R2.cell 6
 have uu := O7 (O7 hO1 N2 (g := w.heap.size) (by omega) (.int .i64 d.1) (.int .i64 d.2.1) (.int .i64 d.2.2.1) (.slice D3 d.2.2.2.1.length g3) (.slice D4 d.2.2.2.2.1.length g4) (.slice D5 d.2.2.2.2.2.1.length g5) (.slice D6 d.2.2.2.2.2.2.length g6)) N2 (g := w.heap.size + 1) (by omega) (.int .i64 d.1) (.int .i64 d.2.1) (.int .i64 d.2.2.1) (.slice D3 d.2.2.2.1.length g3) (.slice D4 d.2.2.2.2.1.length g4) (.slice D5 d.2.2.2.2.2.1.length g5) (.slice D6 d.2.2.2.2.2.2.length g6)
 refine bodyPost_ret (v := .tuple #[.agg #[.int .i64 d.1, .int .i64 d.2.1, .int .i64 d.2.2.1, .slice D3 d.2.2.2.1.length g3, .slice D4 d.2.2.2.2.1.length g4, .slice D5 d.2.2.2.2.2.1.length g5, .slice D6 d.2.2.2.2.2.2.length g6], .bool (decide (0 ≤ r))]) (by simp [results, Tryz.results16, go_sem, y0, y1, y2, y3, y4, y5, y6]) rfl ⟨[.int .i64 d.1, .int .i64 d.2.1, .int .i64 d.2.2.1, .slice D3 d.2.2.2.1.length g3, .slice D4 d.2.2.2.2.1.length g4, .slice D5 d.2.2.2.2.2.1.length g5, .slice D6 d.2.2.2.2.2.2.length g6], F, rfl, uu, N2.lower (by omega), ?_⟩
 exact B7 (B7 BW (Nat.le_refl _) (.int .i64 d.1) (.int .i64 d.2.1) (.int .i64 d.2.2.1) (.slice D3 d.2.2.2.1.length g3) (.slice D4 d.2.2.2.2.1.length g4) (.slice D5 d.2.2.2.2.2.1.length g5) (.slice D6 d.2.2.2.2.2.2.length g6)) (by omega) (.int .i64 d.1) (.int .i64 d.2.1) (.int .i64 d.2.2.1) (.slice D3 d.2.2.2.1.length g3) (.slice D4 d.2.2.2.2.1.length g4) (.slice D5 d.2.2.2.2.2.1.length g5) (.slice D6 d.2.2.2.2.2.2.length g6)
end Go.Proofs.YtkdanlnhdgcplaaGreat
