/-
  TwS: texts joined.
-/
import Derived.Test.YtkdanlnhdgcplaaGreatFGa
import Derived.Test.YtkdanlnhdgcplaaGreatFMShs
import Derived.Test.YtkdanlnhdgcplaaGreatFMTwP
namespace Go.Proofs.YtkdanlnhdgcplaaGreat
set_option maxRecDepth 100000
set_option linter.unusedVariables false
set_option linter.unusedSimpArgs false
open Go.ChangeShapes Go.WideShapes Go.ChangeAt Go.RowKit
open Fld
set_option maxHeartbeats 1000000 in
theorem s_l7there {w : World} {cs : List Value} {p : DNet} {i : Int} (h : tNet.R w w.heap.size cs p) (hz : szNet p ≤ 1048576) (hi : (Lit.int .i64 i).wf = true) :
  Calls Tryz.prog 44 #[.agg cs.toArray, .int .i64 i] w fun e w' => e = .returned (.bool (decide (NtAt p i))) ∧ Bel w w' := by
 have hk := h
 obtain ⟨A3, n3, c3, A4, n4, c4, A5, n5, c5, A6, n6, c6, rfl, j0, j1, j2, -, -, -, -, -, -, e4, -, -, -, -, -, -, -, -, -⟩ := openNet h
 clear j0 j1 j2
 by_cases hp : NtOk p
 rotate_left
 ·rw [decide_eq_false (show ¬ NtAt p i from fun h => hp h.1)]
  have HP := Lib.hid (decide_eq_false hp)
  clear hp e4
  go_enter Tryz.func44, Tryz.ntmps44
  go_wp2_with fail
  refine (s_NetOk (tNet.reach hk ?hB) hz).mono ?_
  case hB => exact (belx)
  rintro e w1 ⟨rfl, hb1⟩
  rw [HP.out]
  go_wp2
  go_ret
  exact ⟨rfl, bel_trans (belx) hb1⟩
 have HP := Lib.hid (decide_eq_true hp)
 by_cases g1 : (0 : Int) ≤ i
 rotate_left
 ·rw [decide_eq_false (show ¬ NtAt p i from fun h => g1 h.2.1)]
  have d1 : decide ((0 : Int) ≤ i) = false := decide_eq_false g1
  clear hp e4 g1
  go_enter Tryz.func44, Tryz.ntmps44
  go_wp2_with fail
  refine (s_NetOk (tNet.reach hk ?hB) hz).mono ?_
  case hB => exact (belx)
  rintro e w1 ⟨rfl, hb1⟩
  rw [HP.out]
  go_wp2
  go_ret
  exact ⟨rfl, bel_trans (belx) hb1⟩
 have d1 : decide ((0 : Int) ≤ i) = true := decide_eq_true g1
 by_cases g2 : i < (n4 : Int)
 rotate_left
 ·rw [decide_eq_false (show ¬ NtAt p i from fun h => g2 (by have := h.2.2; omega))]
  have d2 : decide (i < (n4 : Int)) = false := decide_eq_false g2
  clear hp e4 g1 g2
  go_enter Tryz.func44, Tryz.ntmps44
  go_wp2_with fail
  refine (s_NetOk (tNet.reach hk ?hB) hz).mono ?_
  case hB => exact (belx)
  rintro e w1 ⟨rfl, hb1⟩
  rw [HP.out]
  have NW : Box w1 w.heap.size 35 #[.int .i64 p.1, .int .i64 p.2.1, .int .i64 p.2.2.1, .slice A3 n3 c3, .slice A4 n4 c4, .slice A5 n5 c5, .slice A6 n6 c6] := Box.below (Box.new w _ _) hb1 (by simp)
  have k4 := NW.cell 4
  go_wp2
  go_ret
  exact ⟨rfl, bel_trans (belx) hb1⟩
 rw [decide_eq_true (show NtAt p i from ⟨hp, g1, by omega⟩)]
 have d2 : decide (i < (n4 : Int)) = true := decide_eq_true g2
 clear hp e4 g1 g2
 go_enter Tryz.func44, Tryz.ntmps44
 go_wp2_with fail
 refine (s_NetOk (tNet.reach hk ?hB) hz).mono ?_
 case hB => exact (belx)
 rintro e w1 ⟨rfl, hb1⟩
 rw [HP.out]
 have NW : Box w1 w.heap.size 35 #[.int .i64 p.1, .int .i64 p.2.1, .int .i64 p.2.2.1, .slice A3 n3 c3, .slice A4 n4 c4, .slice A5 n5 c5, .slice A6 n6 c6] := Box.below (Box.new w _ _) hb1 (by simp)
 have k4 := NW.cell 4
 go_wp2
 go_ret
 exact ⟨rfl, bel_trans (belx) hb1⟩
theorem xt_mail {w : World} {B : Nat} {K : KB} {x : Int} {v : Value} {m : DMail} (h : (XT K tMail).R w B [.int .i64 x, v] m) : (XT K tBy).R w B [v] m.2 := fun w2 h2 => by
 obtain ⟨A, n, c, e, -, -, -, -, hr⟩ := openMail (h w2 h2)
 injection e with e1 e2
 rw [e2]; exact hr
set_option maxHeartbeats 8000000 in
theorem s_Twice {w : World} {cs : List Value} {p : DNet} {i : Int} (h : tNet.R w w.heap.size cs p) (hz : szNet p ≤ 1048576) (hi : (Lit.int .i64 i).wf = true) :
  Calls Tryz.prog 15 #[.agg cs.toArray, .int .i64 i] w fun e w' => ∃ cs, e = .returned (.tuple #[.agg cs.toArray, .bool (fTwB p i)]) ∧ tNet.R w' w'.heap.size cs (fTw p i) ∧ Bel w w' := by
 have hk := h
 have HWI := Lib.hid hi
 obtain ⟨A3, n3, c3, A4, n4, c4, A5, n5, c5, A6, n6, c6, rfl, j0, j1, j2, -, -, -, -, -, -, e4, -, -, -, -, -, -, -, -, -⟩ := openNet h
 have HI0 := Lib.hid j0; have HI1 := Lib.hid j1; have HI2 := Lib.hid j2
 clear j0 j1 j2
 by_cases hp : NtAt p i
 rotate_left
 ·have hB0 : fTwB p i = false := decide_eq_false fun h => hp h.1
  have hF0 : fTw p i = zNet := if_neg hp
  rw [hB0, hF0]
  have HP := Lib.hid (decide_eq_false hp)
  clear hp hB0 hF0 e4
  go_enter Tryz.func15, Tryz.ntmps15
  go_wp2_with fail
  refine (s_l7there (tNet.reach hk ?hB) hz HWI.out).mono ?_
  case hB => exact (belx)
  rintro e w1 ⟨rfl, hb1⟩
  rw [HP.out]
  have NW : Box w1 w.heap.size 35 #[.int .i64 p.1, .int .i64 p.2.1, .int .i64 p.2.2.1, .slice A3 n3 c3, .slice A4 n4 c4, .slice A5 n5 c5, .slice A6 n6 c6] := Box.below ((Box.new w _ _).alloc _) hb1 (by simp; omega)
  have RW : Box w1 (w.heap.size + 1) 35 #[.int .i64 0, .int .i64 0, .int .i64 0, .slice none 0 0, .slice none 0 0, .slice none 0 0, .slice none 0 0] := Box.below (by simpa using Box.new (w.alloc (.cells #[.int .i64 p.1, .int .i64 p.2.1, .int .i64 p.2.2.1, .slice A3 n3 c3, .slice A4 n4 c4, .slice A5 n5 c5, .slice A6 n6 c6] 35)) 35 #[.int .i64 0, .int .i64 0, .int .i64 0, .slice none 0 0, .slice none 0 0, .slice none 0 0, .slice none 0 0]) hb1 (by simp)
  have BW : Bel w w1 := bel_trans (belx) hb1
  have rc0 := RW.cell 0; have rcf0 := RW.frozen 0; have rc1 := RW.cell 1; have rcf1 := RW.frozen 1; have rc2 := RW.cell 2; have rcf2 := RW.frozen 2; have rc3 := RW.cell 3; have rcf3 := RW.frozen 3; have rc4 := RW.cell 4; have rcf4 := RW.frozen 4; have rc5 := RW.cell 5; have rcf5 := RW.frozen 5; have rc6 := RW.cell 6; have rcf6 := RW.frozen 6
  go_wp2
  have RR := (((((((RW.put 0 (.int .i64 0)).put 1 (.int .i64 0)).put 2 (.int .i64 0)).put 3 (.slice none 0 0)).put 4 (.slice none 0 0)).put 5 (.slice none 0 0)).put 6 (.slice none 0 0))
  have y0 := RR.cell 0; have y1 := RR.cell 1; have y2 := RR.cell 2; have y3 := RR.cell 3; have y4 := RR.cell 4; have y5 := RR.cell 5; have y6 := RR.cell 6
  refine bodyPost_ret (v := .tuple #[.agg #[.int .i64 0, .int .i64 0, .int .i64 0, .slice none 0 0, .slice none 0 0, .slice none 0 0, .slice none 0 0], .bool false]) (by simp [results, Tryz.results15, go_sem, y0, y1, y2, y3, y4, y5, y6]) rfl ⟨_, rfl, tNet.read zNetO, ?_⟩
  exact (bel_put (bel_put (bel_put (bel_put (bel_put (bel_put (bel_put BW lew _) lew _) lew _) lew _) lew _) lew _) lew _)
 have HP := Lib.hid (decide_eq_true hp)
 have HPK := Lib.hid hp
 obtain ⟨k, rfl⟩ := Int.eq_ofNat_of_zero_le hp.2.1
 have hkn : k < p.2.2.2.2.1.length := by have := hp.2.2; omega
 have hl4 : p.2.2.2.2.1.length ≤ 1048576 := by have := hp.1.2.1.1; omega
 have hl6 : p.2.2.2.2.2.2.length ≤ 1048576 := by have := hp.1.2.1.2.2; omega
 have HL4 := Lib.hid hl4; have HL6 := Lib.hid hl6
 clear hp hl4 hl6 e4
 go_enter Tryz.func15, Tryz.ntmps15
 go_wp2_with fail
 refine (s_l7there (tNet.reach hk ?hB) hz HWI.out).mono ?_
 case hB => exact (belx)
 rintro e w1 ⟨rfl, hb1⟩
 rw [HP.out]
 have NW : Box w1 w.heap.size 35 #[.int .i64 p.1, .int .i64 p.2.1, .int .i64 p.2.2.1, .slice A3 n3 c3, .slice A4 n4 c4, .slice A5 n5 c5, .slice A6 n6 c6] := Box.below ((Box.new w _ _).alloc _) hb1 (by simp; omega)
 have RW : Box w1 (w.heap.size + 1) 35 #[.int .i64 0, .int .i64 0, .int .i64 0, .slice none 0 0, .slice none 0 0, .slice none 0 0, .slice none 0 0] := Box.below (by simpa using Box.new (w.alloc (.cells #[.int .i64 p.1, .int .i64 p.2.1, .int .i64 p.2.2.1, .slice A3 n3 c3, .slice A4 n4 c4, .slice A5 n5 c5, .slice A6 n6 c6] 35)) 35 #[.int .i64 0, .int .i64 0, .int .i64 0, .slice none 0 0, .slice none 0 0, .slice none 0 0, .slice none 0 0]) hb1 (by simp)
 have BW : Bel w w1 := bel_trans (belx) hb1
 have nw0 := NW.cell 0; have nw1 := NW.cell 1; have nw2 := NW.cell 2; have nw3 := NW.cell 3; have nw4 := NW.cell 4; have nw5 := NW.cell 5; have nw6 := NW.cell 6
 clear hb1
 go_wp2_with fail
 refine (s_NetOwn (tNet.reach hk BW) hz).mono ?_
 rintro e w2 ⟨cs2, F2, rfl, hO2, -, hb2⟩
 have hR2 := tNet.read hO2
 obtain ⟨B3, e3, Y3, B4, e4, Y4, B5, e5, Y5, B6, e6, Y6, rfl, -, -, -, -, -, -, -, -, -, -, -, -, -, -, -, -⟩ := openONet hO2
 replace RW := RW.below hb2 RW.size
 replace BW : Bel w w2 := bel_trans BW hb2
 have zw2 := BW.size
 have zr := RW.size
 have hX := NtX.of hR2
 clear hO2 hR2 NW hb2 nw0 nw1 nw2 nw3 nw4 nw5 nw6
 have BN : Bel w (w2.alloc (.cells #[.int .i64 p.1, .int .i64 p.2.1, .int .i64 p.2.2.1, .slice B3 p.2.2.2.1.length e3, .slice B4 p.2.2.2.2.1.length e4, .slice B5 p.2.2.2.2.2.1.length e5, .slice B6 p.2.2.2.2.2.2.length e6] 35)) := bel_alloc BW _
 replace RW := RW.alloc (.cells #[.int .i64 p.1, .int .i64 p.2.1, .int .i64 p.2.2.1, .slice B3 p.2.2.2.1.length e3, .slice B4 p.2.2.2.2.1.length e4, .slice B5 p.2.2.2.2.2.1.length e5, .slice B6 p.2.2.2.2.2.2.length e6] 35)
 have hX0 := hX
 obtain ⟨v3, v5, A7, A8, n7, c7, n8, c8, X, -, g4, -, -⟩ := hX
 have l7 := (rx_len g4).1
 obtain ⟨a, b, off, es, ha, rfl, hb, hes, hR⟩ := rowR_at (K := 2) (rx_row g4) (show k < n7 by omega) rfl
 obtain ⟨Am, nm, cm, rfl, hwa, -, -, -, -⟩ := openMail (xt_R hR)
 have zn : (w2.alloc (.cells #[.int .i64 p.1, .int .i64 p.2.1, .int .i64 p.2.2.1, .slice B3 p.2.2.2.1.length e3, .slice B4 p.2.2.2.2.1.length e4, .slice B5 p.2.2.2.2.2.1.length e5, .slice B6 p.2.2.2.2.2.2.length e6] 35)).heap.size = w2.heap.size + 1 := by simp
 have k4 := X.cell 4
 have x0 := hes 0 (by omega)
 have x1 := hes 1 (by omega)
 have e0 : (w2.alloc (.cells #[.int .i64 p.1, .int .i64 p.2.1, .int .i64 p.2.2.1, .slice B3 p.2.2.2.1.length e3, .slice B4 p.2.2.2.2.1.length e4, .slice B5 p.2.2.2.2.2.1.length e5, .slice B6 p.2.2.2.2.2.2.length e6] 35)).cell? ⟨b, off + k * 2, none⟩ = some (.int .i64 a.1) := x0
 have e1 : (w2.alloc (.cells #[.int .i64 p.1, .int .i64 p.2.1, .int .i64 p.2.2.1, .slice B3 p.2.2.2.1.length e3, .slice B4 p.2.2.2.2.1.length e4, .slice B5 p.2.2.2.2.2.1.length e5, .slice B6 p.2.2.2.2.2.2.length e6] 35)).cell? ⟨b, off + k * 2 + 1, none⟩ = some (.slice Am nm cm) := x1
 have M0 : Box ((w2.alloc (.cells #[.int .i64 p.1, .int .i64 p.2.1, .int .i64 p.2.2.1, .slice B3 p.2.2.2.1.length e3, .slice B4 p.2.2.2.2.1.length e4, .slice B5 p.2.2.2.2.2.1.length e5, .slice B6 p.2.2.2.2.2.2.length e6] 35)).alloc (.cells #[.int .i64 a.1, .slice Am nm cm] 62)) (w2.heap.size + 1) 62 #[.int .i64 a.1, .slice Am nm cm] := by simpa using Box.new (w2.alloc (.cells #[.int .i64 p.1, .int .i64 p.2.1, .int .i64 p.2.2.1, .slice B3 p.2.2.2.1.length e3, .slice B4 p.2.2.2.2.1.length e4, .slice B5 p.2.2.2.2.2.1.length e5, .slice B6 p.2.2.2.2.2.2.length e6] 35)) 62 #[.int .i64 a.1, .slice Am nm cm]
 have m0 := M0.cell 0
 have m1 := M0.cell 1
 have hV : Below (w2.alloc (.cells #[.int .i64 p.1, .int .i64 p.2.1, .int .i64 p.2.2.1, .slice B3 p.2.2.2.1.length e3, .slice B4 p.2.2.2.2.1.length e4, .slice B5 p.2.2.2.2.2.1.length e5, .slice B6 p.2.2.2.2.2.2.length e6] 35)).heap.size (w2.alloc (.cells #[.int .i64 p.1, .int .i64 p.2.1, .int .i64 p.2.2.1, .slice B3 p.2.2.2.1.length e3, .slice B4 p.2.2.2.2.1.length e4, .slice B5 p.2.2.2.2.2.1.length e5, .slice B6 p.2.2.2.2.2.2.length e6] 35)) ((w2.alloc (.cells #[.int .i64 p.1, .int .i64 p.2.1, .int .i64 p.2.2.1, .slice B3 p.2.2.2.1.length e3, .slice B4 p.2.2.2.2.1.length e4, .slice B5 p.2.2.2.2.2.1.length e5, .slice B6 p.2.2.2.2.2.2.length e6] 35)).alloc (.cells #[.int .i64 a.1, .slice Am nm cm] 62)) := (belx)
 have hX4 := hX0.at hV
 have hm4 : (XT (KO w2.heap.size) tBy).R ((w2.alloc (.cells #[.int .i64 p.1, .int .i64 p.2.1, .int .i64 p.2.2.1, .slice B3 p.2.2.2.1.length e3, .slice B4 p.2.2.2.2.1.length e4, .slice B5 p.2.2.2.2.2.1.length e5, .slice B6 p.2.2.2.2.2.2.length e6] 35)).alloc (.cells #[.int .i64 a.1, .slice Am nm cm] 62)) ((w2.alloc (.cells #[.int .i64 p.1, .int .i64 p.2.1, .int .i64 p.2.2.1, .slice B3 p.2.2.2.1.length e3, .slice B4 p.2.2.2.2.1.length e4, .slice B5 p.2.2.2.2.2.1.length e5, .slice B6 p.2.2.2.2.2.2.length e6] 35)).alloc (.cells #[.int .i64 a.1, .slice Am nm cm] 62)).heap.size [.slice Am nm cm] a.2 := xt_at (xt_mail hR) (Alike.below hV) hV.size
 replace RW := RW.below hV RW.size
 have B4_ := bel_trans BN hV
 have z4 : w2.heap.size < ((w2.alloc (.cells #[.int .i64 p.1, .int .i64 p.2.1, .int .i64 p.2.2.1, .slice B3 p.2.2.2.1.length e3, .slice B4 p.2.2.2.2.1.length e4, .slice B5 p.2.2.2.2.2.1.length e5, .slice B6 p.2.2.2.2.2.2.length e6] 35)).alloc (.cells #[.int .i64 a.1, .slice Am nm cm] 62)).heap.size := by simp; omega
 have kn : (k : Int) < (n7 : Int) := by omega
 have hga : p.2.2.2.2.1.getD k (0, []) = a := by rw [List.getD_eq_getElem?_getD, ha]; rfl
 have HGA := Lib.hid hga
 have HWA := Lib.hid hwa
 clear hX0 g4 hes x0 x1 hR X M0 hV BN zn hga hwa ha l7
 by_cases hr : Room p
 ·have hB0 : fTwB p (k : Int) = true := decide_eq_true ⟨HPK.out, hr⟩
  have hF0 : fTw p (k : Int) = fTr p a := by unfold fTw; rw [if_pos HPK.out, if_pos hr]; show fTr p (p.2.2.2.2.1.getD k (0, [])) = _; rw [HGA.out]
  obtain ⟨d, hd⟩ : ∃ d, fTr p a = d := ⟨_, rfl⟩
  have HSZ := Lib.hid (show szNet d ≤ 1048576 from by rw [← hd]; have := ntOk_sz (fTr_ok HPK.out.1 (by have h1 := at_ml HPK.out; rw [show ((k : Int)).toNat = k from rfl, HGA.out] at h1; exact h1) hr); omega)
  have HW0 := Lib.hid (show (Lit.int .i64 d.1).wf = true from by rw [← hd]; exact HI0.out)
  have HW1 := Lib.hid (show (Lit.int .i64 d.2.1).wf = true from by rw [← hd]; exact HI1.out)
  have HW2 := Lib.hid (show (Lit.int .i64 d.2.2.1).wf = true from by rw [← hd]; exact HI2.out)
  have HD := Lib.hid hd
  have HB0 := Lib.hid hB0
  have HF0 := Lib.hid (hF0.trans hd)
  have HRM := Lib.hid hr
  clear hd hB0 hF0 hr
  go_wp2_with fail
  refine (s_l7mail hX4 hm4 HWA.out HI0.out z4 HRM.out).mono ?_
  rintro e w5 ⟨rfl, hX5, hb5⟩
  rw [show fTr p (a.1, a.2) = d from HD.out] at hX5
  replace RW := RW.below hb5 (by omega)
  have B5_ : Bel w w5 := B4_.trans (hb5.mono (by omega))
  have zz5 := hb5.size
  have zz6 : w.heap.size + 2 ≤ w5.heap.size := by simp at zz5; omega
  obtain ⟨v3, v4, v5, v6, X5, hN5⟩ := hX5.net HW0.out HW1.out HW2.out
  have x50 := X5.cell 0; have x51 := X5.cell 1; have x52 := X5.cell 2; have x53 := X5.cell 3; have x54 := X5.cell 4; have x55 := X5.cell 5; have x56 := X5.cell 6
  clear hX4 hm4 hX5
  go_wp2_with fail
  refine (s_NetOwn hN5 HSZ.out).mono ?_
  rintro e w6 ⟨cs6, F6, rfl, hO6, hN6q, hb6⟩
  have hN6 : New (w.heap.size + 2) F6 := hN6q.lower (by omega)
  have RX := RW.below hb6 RW.size
  have hB6 : Bel w w6 := bel_trans B5_ hb6
  have hO6k := hO6
  obtain ⟨B3, e3, Y3, B4, e4, Y4, B5, e5, Y5, B6, e6, Y6, rfl, -, -, -, -, -, -, -, -, -, -, -, -, -, -, -, -⟩ := openONet hO6
  have rc0 := RX.cell 0; have rcf0 := RX.frozen 0; have rc1 := RX.cell 1; have rcf1 := RX.frozen 1; have rc2 := RX.cell 2; have rcf2 := RX.frozen 2; have rc3 := RX.cell 3; have rcf3 := RX.frozen 3; have rc4 := RX.cell 4; have rcf4 := RX.frozen 4; have rc5 := RX.cell 5; have rcf5 := RX.frozen 5; have rc6 := RX.cell 6; have rcf6 := RX.frozen 6
  clear hO6
  go_wp2
  have RR := (((((((RX.put 0 (.int .i64 d.1)).put 1 (.int .i64 d.2.1)).put 2 (.int .i64 d.2.2.1)).put 3 (.slice B3 d.2.2.2.1.length e3)).put 4 (.slice B4 d.2.2.2.2.1.length e4)).put 5 (.slice B5 d.2.2.2.2.2.1.length e5)).put 6 (.slice B6 d.2.2.2.2.2.2.length e6))
  have y0 := RR.cell 0; have y1 := RR.cell 1; have y2 := RR.cell 2; have y3 := RR.cell 3; have y4 := RR.cell 4; have y5 := RR.cell 5; have y6 := RR.cell 6
  have uu := (Ty.far (t := tNet) (Ty.far (t := tNet) (Ty.far (t := tNet) (Ty.far (t := tNet) (Ty.far (t := tNet) (Ty.far (t := tNet) (Ty.far (t := tNet) hO6k hN6 (p := ⟨w.heap.size + 1, 0, none⟩) fsz (.int .i64 d.1)) hN6 (p := ⟨w.heap.size + 1, 1, none⟩) fsz (.int .i64 d.2.1)) hN6 (p := ⟨w.heap.size + 1, 2, none⟩) fsz (.int .i64 d.2.2.1)) hN6 (p := ⟨w.heap.size + 1, 3, none⟩) fsz (.slice B3 d.2.2.2.1.length e3)) hN6 (p := ⟨w.heap.size + 1, 4, none⟩) fsz (.slice B4 d.2.2.2.2.1.length e4)) hN6 (p := ⟨w.heap.size + 1, 5, none⟩) fsz (.slice B5 d.2.2.2.2.2.1.length e5)) hN6 (p := ⟨w.heap.size + 1, 6, none⟩) fsz (.slice B6 d.2.2.2.2.2.2.length e6))
  refine bodyPost_ret (v := .tuple #[.agg #[.int .i64 d.1, .int .i64 d.2.1, .int .i64 d.2.2.1, .slice B3 d.2.2.2.1.length e3, .slice B4 d.2.2.2.2.1.length e4, .slice B5 d.2.2.2.2.2.1.length e5, .slice B6 d.2.2.2.2.2.2.length e6], .bool true]) (by simp [results, Tryz.results15, go_sem, y0, y1, y2, y3, y4, y5, y6]) rfl ⟨[.int .i64 d.1, .int .i64 d.2.1, .int .i64 d.2.2.1, .slice B3 d.2.2.2.1.length e3, .slice B4 d.2.2.2.2.1.length e4, .slice B5 d.2.2.2.2.2.1.length e5, .slice B6 d.2.2.2.2.2.2.length e6], by rw [HB0.out], by rw [HF0.out]; exact tNet.read uu, ?_⟩
  exact (bel_put (bel_put (bel_put (bel_put (bel_put (bel_put (bel_put hB6 lew _) lew _) lew _) lew _) lew _) lew _) lew _)
 ·have hB0 : fTwB p (k : Int) = false := decide_eq_false fun h => hr h.2
  have hF0 : fTw p (k : Int) = p := by unfold fTw; rw [if_pos HPK.out, if_neg hr]
  obtain ⟨d, hd⟩ : ∃ d, p = d := ⟨_, rfl⟩
  have HSZ := Lib.hid (show szNet d ≤ 1048576 from by rw [← hd]; have := ntOk_sz HPK.out.1; omega)
  have HW0 := Lib.hid (show (Lit.int .i64 d.1).wf = true from by rw [← hd]; exact HI0.out)
  have HW1 := Lib.hid (show (Lit.int .i64 d.2.1).wf = true from by rw [← hd]; exact HI1.out)
  have HW2 := Lib.hid (show (Lit.int .i64 d.2.2.1).wf = true from by rw [← hd]; exact HI2.out)
  have HD := Lib.hid hd
  have HB0 := Lib.hid hB0
  have HF0 := Lib.hid (hF0.trans hd)
  have HRM := Lib.hid hr
  clear hd hB0 hF0 hr
  go_wp2_with fail
  refine (s_l7mail_f (bs := a.2) hX4 HL4.out HL6.out HRM.out).mono ?_
  rintro e w5 ⟨rfl, hb5⟩
  have hX5 := hX4.at hb5
  rw [HD.out] at hX5
  replace RW := RW.below hb5 RW.size
  have B5_ : Bel w w5 := bel_trans B4_ hb5
  have zz5 := hb5.size
  have zz6 : w.heap.size + 2 ≤ w5.heap.size := by simp at zz5; omega
  obtain ⟨v3, v4, v5, v6, X5, hN5⟩ := hX5.net HW0.out HW1.out HW2.out
  have x50 := X5.cell 0; have x51 := X5.cell 1; have x52 := X5.cell 2; have x53 := X5.cell 3; have x54 := X5.cell 4; have x55 := X5.cell 5; have x56 := X5.cell 6
  clear hX4 hm4 hX5
  go_wp2_with fail
  refine (s_NetOwn hN5 HSZ.out).mono ?_
  rintro e w6 ⟨cs6, F6, rfl, hO6, hN6q, hb6⟩
  have hN6 : New (w.heap.size + 2) F6 := hN6q.lower (by omega)
  have RX := RW.below hb6 RW.size
  have hB6 : Bel w w6 := bel_trans B5_ hb6
  have hO6k := hO6
  obtain ⟨B3, e3, Y3, B4, e4, Y4, B5, e5, Y5, B6, e6, Y6, rfl, -, -, -, -, -, -, -, -, -, -, -, -, -, -, -, -⟩ := openONet hO6
  have rc0 := RX.cell 0; have rcf0 := RX.frozen 0; have rc1 := RX.cell 1; have rcf1 := RX.frozen 1; have rc2 := RX.cell 2; have rcf2 := RX.frozen 2; have rc3 := RX.cell 3; have rcf3 := RX.frozen 3; have rc4 := RX.cell 4; have rcf4 := RX.frozen 4; have rc5 := RX.cell 5; have rcf5 := RX.frozen 5; have rc6 := RX.cell 6; have rcf6 := RX.frozen 6
  clear hO6
  go_wp2
  have RR := (((((((RX.put 0 (.int .i64 d.1)).put 1 (.int .i64 d.2.1)).put 2 (.int .i64 d.2.2.1)).put 3 (.slice B3 d.2.2.2.1.length e3)).put 4 (.slice B4 d.2.2.2.2.1.length e4)).put 5 (.slice B5 d.2.2.2.2.2.1.length e5)).put 6 (.slice B6 d.2.2.2.2.2.2.length e6))
  have y0 := RR.cell 0; have y1 := RR.cell 1; have y2 := RR.cell 2; have y3 := RR.cell 3; have y4 := RR.cell 4; have y5 := RR.cell 5; have y6 := RR.cell 6
  have uu := (Ty.far (t := tNet) (Ty.far (t := tNet) (Ty.far (t := tNet) (Ty.far (t := tNet) (Ty.far (t := tNet) (Ty.far (t := tNet) (Ty.far (t := tNet) hO6k hN6 (p := ⟨w.heap.size + 1, 0, none⟩) fsz (.int .i64 d.1)) hN6 (p := ⟨w.heap.size + 1, 1, none⟩) fsz (.int .i64 d.2.1)) hN6 (p := ⟨w.heap.size + 1, 2, none⟩) fsz (.int .i64 d.2.2.1)) hN6 (p := ⟨w.heap.size + 1, 3, none⟩) fsz (.slice B3 d.2.2.2.1.length e3)) hN6 (p := ⟨w.heap.size + 1, 4, none⟩) fsz (.slice B4 d.2.2.2.2.1.length e4)) hN6 (p := ⟨w.heap.size + 1, 5, none⟩) fsz (.slice B5 d.2.2.2.2.2.1.length e5)) hN6 (p := ⟨w.heap.size + 1, 6, none⟩) fsz (.slice B6 d.2.2.2.2.2.2.length e6))
  refine bodyPost_ret (v := .tuple #[.agg #[.int .i64 d.1, .int .i64 d.2.1, .int .i64 d.2.2.1, .slice B3 d.2.2.2.1.length e3, .slice B4 d.2.2.2.2.1.length e4, .slice B5 d.2.2.2.2.2.1.length e5, .slice B6 d.2.2.2.2.2.2.length e6], .bool false]) (by simp [results, Tryz.results15, go_sem, y0, y1, y2, y3, y4, y5, y6]) rfl ⟨[.int .i64 d.1, .int .i64 d.2.1, .int .i64 d.2.2.1, .slice B3 d.2.2.2.1.length e3, .slice B4 d.2.2.2.2.1.length e4, .slice B5 d.2.2.2.2.2.1.length e5, .slice B6 d.2.2.2.2.2.2.length e6], by rw [HB0.out], by rw [HF0.out]; exact tNet.read uu, ?_⟩
  exact (bel_put (bel_put (bel_put (bel_put (bel_put (bel_put (bel_put hB6 lew _) lew _) lew _) lew _) lew _) lew _) lew _)
end Go.Proofs.YtkdanlnhdgcplaaGreat
