/-
  PFg3: texts joined.
-/
import Derived.Test.YtkdanlnhdgcplaaGreatFGa
import Derived.Test.YtkdanlnhdgcplaaGreatFMPFg2
import Derived.Test.YtkdanlnhdgcplaaGreatFMPNetI
import Derived.Test.YtkdanlnhdgcplaaGreatFMPNn
import Derived.Test.YtkdanlnhdgcplaaGreatFMShs
namespace Go.Proofs.YtkdanlnhdgcplaaGreat
set_option maxRecDepth 100000
set_option linter.unusedVariables false
set_option linter.unusedSimpArgs false
open Go.ChangeShapes Go.WideShapes Go.ChangeAt Go.RowKit
open Fld
theorem put7 {a w : World} (h : Bel a w) {g : Nat} {u0 u1 u2 u3 u4 u5 u6 : Value} (hg : a.heap.size ≤ g) : Bel a (((((((w.setCell ⟨g, 0, none⟩ u0).setCell ⟨g, 1, none⟩ u1).setCell ⟨g, 2, none⟩ u2).setCell ⟨g, 3, none⟩ u3).setCell ⟨g, 4, none⟩ u4).setCell ⟨g, 5, none⟩ u5).setCell ⟨g, 6, none⟩ u6) :=
 (bel_put (bel_put (bel_put (bel_put (bel_put (bel_put (bel_put h hg _) hg _) hg _) hg _) hg _) hg _) hg _)
theorem Trf.below {w w' : World} {lo tb : Nat} {d : DNet} (h : Trf w lo tb d) (hB : Bel w w') : Trf w' lo tb d := by
 obtain ⟨v3, v4, v5, v6, F3, F4, F5, hbx, h3, h4, h5, h6, r⟩ := h
 exact ⟨v3, v4, v5, v6, F3, F4, F5, hbx.below hB hbx.size, h3.below hB, h4.below hB, h5.below hB, h6.below hB, r⟩
theorem Trf.out {w : World} {lo tb : Nat} {d : DNet} (h : Trf w lo tb d) (i0 : (Lit.int .i64 d.1).wf = true) (i1 : (Lit.int .i64 d.2.1).wf = true) (i2 : (Lit.int .i64 d.2.2.1).wf = true) :
  ∃ D3 g3 D4 g4 D5 g5 D6 g6 F, Box w tb 68 #[.int .i64 d.1, .int .i64 d.2.1, .int .i64 d.2.2.1, .slice D3 d.2.2.2.1.length g3, .slice D4 d.2.2.2.2.1.length g4, .slice D5 d.2.2.2.2.2.1.length g5, .slice D6 d.2.2.2.2.2.2.length g6] ∧
   tNet.O w [.int .i64 d.1, .int .i64 d.2.1, .int .i64 d.2.2.1, .slice D3 d.2.2.2.1.length g3, .slice D4 d.2.2.2.2.1.length g4, .slice D5 d.2.2.2.2.2.1.length g5, .slice D6 d.2.2.2.2.2.2.length g6] d F ∧ New lo F := by
 obtain ⟨v3, v4, v5, v6, F3, F4, F5, hbx, h3, h4, h5, h6, d1, d2, d3, t3, t4, t5, t6, hlt⟩ := h
 have l3 := h3.blk
 have l4 := h4.blk
 have l5 := h5.blk
 have l6 := h6.blk
 obtain ⟨D3, g3, G3, rfl, o3, n3, k3⟩ := h3.done2
 obtain ⟨D4, g4, G4, rfl, o4, n4, k4⟩ := h4.done2
 obtain ⟨D5, g5, G5, rfl, o5, n5, k5⟩ := h5.done2
 obtain ⟨D6, g6, G6, rfl, o6, n6, k6⟩ := h6.done2
 have N3 : New lo G3 := ⟨n3, fun f hf => (l3 f (k3 f hf)).1⟩
 have N4 : New lo G4 := ⟨n4, fun f hf => (l4 f (k4 f hf)).1⟩
 have N5 : New lo G5 := ⟨n5, fun f hf => (l5 f (k5 f hf)).1⟩
 have N6 : New lo G6 := ⟨n6, fun f hf => (l6 f (k6 f hf)).1⟩
 obtain ⟨F, hF, rfl⟩ := makeONet (p := d) i0 i1 i2 o3 o4 o5 o6
 refine ⟨D3, g3, D4, g4, D5, g5, D6, g6, _, hbx, hF, new_pair (new_pair (new_pair N3 N4 fun f h1 h2 => (d1 f (k3 f h1)).1 (k4 f h2)) N5 fun f h1 h2 => ?_) N6 fun f h1 h2 => ?_⟩
 ·rcases List.mem_append.1 h1 with h1 | h1
  ·exact (d1 f (k3 f h1)).2.1 (k5 f h2)
  ·exact (d2 f (k4 f h1)).1 (k5 f h2)
 ·rcases List.mem_append.1 h1 with h1 | h1
  ·rcases List.mem_append.1 h1 with h1 | h1
   ·exact (d1 f (k3 f h1)).2.2 (k6 f h2)
   ·exact (d2 f (k4 f h1)).2 (k6 f h2)
  ·exact d3 f (k5 f h1) (k6 f h2)
set_option maxHeartbeats 2000000 in
theorem i_transmit_f {w : World} {lo tb : Nat} {cs : List Value} {d : DNet} {m : DMail} (hT : Trf w lo tb d) (h : tMail.R w w.heap.size cs m) (hl4 : d.2.2.2.2.1.length ≤ 1048576) (hl6 : d.2.2.2.2.2.2.length ≤ 1048576) (hr : ¬ Room d) :
  Calls Tryz.prog 31 #[.pointer (some ⟨tb, 0, none⟩), .agg cs.toArray] w fun e w' => e = .returned (.bool false) ∧ Trf w' lo tb d ∧ Bel w w' := by
 have hT0 := hT
 obtain ⟨v3, v4, v5, v6, F3, F4, F5, hbx, h3, h4, h5, h6, -⟩ := hT
 obtain ⟨A3, n3, c3, rfl, -⟩ := h3.shapeN
 obtain ⟨A4, n4, c4, rfl, e4⟩ := h4.shapeN
 obtain ⟨A5, n5, c5, rfl, -⟩ := h5.shapeN
 obtain ⟨A6, n6, c6, rfl, e6⟩ := h6.shapeN
 have hn4 : n4 ≤ 1048576 := by omega
 have hn6 : n6 ≤ 1048576 := by omega
 obtain ⟨A9, n9, c9, rfl, -, -, -, -, -⟩ := openMail h
 have HR1 := Lib.hid (show (decide ((n4 : Int) + 1 ≤ 60) && decide ((n6 : Int) + 1 ≤ 500)) = false by
  unfold Room at hr
  by_cases g : (n4 : Int) + 1 ≤ 60
  ·rw [decide_eq_true g, decide_eq_false (by omega)]; rfl
  ·rw [decide_eq_false g]; rfl)
 have B0 := hbx.alloc (.cells #[.int .i64 m.1, .slice A9 n9 c9] 62)
 have q0_ := B0.cell 0; have q1_ := B0.cell 1; have q2_ := B0.cell 2; have q3_ := B0.cell 3; have q4_ := B0.cell 4; have q5_ := B0.cell 5; have q6_ := B0.cell 6
 clear e4 e6
 go_enter Tryz.func31, Tryz.ntmps31
 go_wp2_with fail
 refine (i_hasRoom (by omega) (by omega) (by omega) (by omega)).mono ?_
 rintro e w1 ⟨rfl, hb1⟩
 rw [HR1.out]
 have hs1 : Bel w w1 := bel_trans (belx) hb1
 go_wp2
 go_ret
 exact ⟨rfl, hT0.below hs1, hs1⟩
set_option maxHeartbeats 4000000 in
theorem i_Forge {w : World} {cs : List Value} {p : DNet} {x : Int} {AB : Option Addr} {nb cb : Nat} {bs : List Int} (h : tNet.R w w.heap.size cs p) (hz : szNet p ≤ 1048576) (hx : (Lit.int .i64 x).wf = true) (hb : tBy.R w w.heap.size [.slice AB nb cb] bs) (hzb : bs.length ≤ 1048576) :
  Calls Tryz.prog 9 #[.agg cs.toArray, .int .i64 x, .slice AB nb cb] w fun e w' => ∃ cs F, e = .returned (.tuple #[.agg cs.toArray, .bool (fFgB p (x, bs))]) ∧ tNet.O w' cs (fFg p (x, bs)) F ∧ New w.heap.size F ∧ Bel w w' := by
 have hk := h
 obtain ⟨A3, n3, c3, A4, n4, c4, A5, n5, c5, A6, n6, c6, rfl, i0, i1, i2, -, -, -, hN, -, -, -, hM, -, -, -, hS, -, -, -, hG⟩ := openNet h
 have HI0 := Lib.hid i0
 have HI1 := Lib.hid i1
 have HI2 := Lib.hid i2
 have hmR : tMail.R w w.heap.size [.int .i64 x, .slice AB nb cb] (x, bs) := makeMail (p := (x, bs)) hx hb
 by_cases hp : NtOk p
 rotate_left
 ·have hB0 : fFgB p (x, bs) = false := decide_eq_false fun h => hp h.1
  have hF0 : fFg p (x, bs) = zNet := if_neg fun h => hp h.1
  rw [hB0, hF0]
  have HP := Lib.hid (decide_eq_false hp)
  clear hp hB0 hF0
  go_enter Tryz.func9, Tryz.ntmps9
  go_wp2_with fail
  refine (i_NetOk (tNet.reach hk ?hB) hz).mono ?_
  case hB => exact (belx)
  rintro e w1 ⟨rfl, hb1⟩
  rw [HP.out]
  have NW : Box w1 w.heap.size 35 #[.int .i64 p.1, .int .i64 p.2.1, .int .i64 p.2.2.1, .slice A3 n3 c3, .slice A4 n4 c4, .slice A5 n5 c5, .slice A6 n6 c6] := Box.below (((Box.new w _ _).alloc _).alloc _) hb1 lez
  have RW : Box w1 (w.heap.size + 1) 35 #[.int .i64 0, .int .i64 0, .int .i64 0, .slice none 0 0, .slice none 0 0, .slice none 0 0, .slice none 0 0] := Box.below (Box.alloc (by simpa using Box.new (w.alloc (.cells #[.int .i64 p.1, .int .i64 p.2.1, .int .i64 p.2.2.1, .slice A3 n3 c3, .slice A4 n4 c4, .slice A5 n5 c5, .slice A6 n6 c6] 35)) 35 #[.int .i64 0, .int .i64 0, .int .i64 0, .slice none 0 0, .slice none 0 0, .slice none 0 0, .slice none 0 0]) _) hb1 lez
  have MW : Box w1 (w.heap.size + 1 + 1) 62 #[.int .i64 x, .slice AB nb cb] := Box.below (by simpa using Box.new ((w.alloc (.cells #[.int .i64 p.1, .int .i64 p.2.1, .int .i64 p.2.2.1, .slice A3 n3 c3, .slice A4 n4 c4, .slice A5 n5 c5, .slice A6 n6 c6] 35)).alloc (.cells #[.int .i64 0, .int .i64 0, .int .i64 0, .slice none 0 0, .slice none 0 0, .slice none 0 0, .slice none 0 0] 35)) 62 #[.int .i64 x, .slice AB nb cb]) hb1 lez
  have BW : Bel w w1 := bel_trans (belx) hb1
  have rc0 := RW.cell 0; have rf0 := RW.frozen 0; have rc1 := RW.cell 1; have rf1 := RW.frozen 1; have rc2 := RW.cell 2; have rf2 := RW.frozen 2; have rc3 := RW.cell 3; have rf3 := RW.frozen 3; have rc4 := RW.cell 4; have rf4 := RW.frozen 4; have rc5 := RW.cell 5; have rf5 := RW.frozen 5; have rc6 := RW.cell 6; have rf6 := RW.frozen 6
  go_wp2
  have RR := (((((((RW.put 0 (.int .i64 0)).put 1 (.int .i64 0)).put 2 (.int .i64 0)).put 3 (.slice none 0 0)).put 4 (.slice none 0 0)).put 5 (.slice none 0 0)).put 6 (.slice none 0 0))
  have y0 := RR.cell 0; have y1 := RR.cell 1; have y2 := RR.cell 2; have y3 := RR.cell 3; have y4 := RR.cell 4; have y5 := RR.cell 5; have y6 := RR.cell 6
  refine bodyPost_ret (v := .tuple #[.agg #[.int .i64 0, .int .i64 0, .int .i64 0, .slice none 0 0, .slice none 0 0, .slice none 0 0, .slice none 0 0], .bool false]) (by simp [results, Tryz.results9, go_sem, y0, y1, y2, y3, y4, y5, y6]) rfl ⟨_, [], rfl, zNetO, New.nil _, ?_⟩
  exact put7 BW (by omega)
 have HP := Lib.hid (decide_eq_true hp)
 by_cases hq : MlOk (x, bs)
 rotate_left
 ·have hB0 : fFgB p (x, bs) = false := decide_eq_false fun h => hq h.2.1
  have hF0 : fFg p (x, bs) = zNet := if_neg fun h => hq h.2
  rw [hB0, hF0]
  have HQ := Lib.hid (decide_eq_false hq)
  clear hp hq hB0 hF0
  go_enter Tryz.func9, Tryz.ntmps9
  go_wp2_with fail
  refine (i_NetOk (tNet.reach hk ?hB) hz).mono ?_
  case hB => exact (belx)
  rintro e w1 ⟨rfl, hb1⟩
  rw [HP.out]
  have NW : Box w1 w.heap.size 35 #[.int .i64 p.1, .int .i64 p.2.1, .int .i64 p.2.2.1, .slice A3 n3 c3, .slice A4 n4 c4, .slice A5 n5 c5, .slice A6 n6 c6] := Box.below (((Box.new w _ _).alloc _).alloc _) hb1 lez
  have RW : Box w1 (w.heap.size + 1) 35 #[.int .i64 0, .int .i64 0, .int .i64 0, .slice none 0 0, .slice none 0 0, .slice none 0 0, .slice none 0 0] := Box.below (Box.alloc (by simpa using Box.new (w.alloc (.cells #[.int .i64 p.1, .int .i64 p.2.1, .int .i64 p.2.2.1, .slice A3 n3 c3, .slice A4 n4 c4, .slice A5 n5 c5, .slice A6 n6 c6] 35)) 35 #[.int .i64 0, .int .i64 0, .int .i64 0, .slice none 0 0, .slice none 0 0, .slice none 0 0, .slice none 0 0]) _) hb1 lez
  have MW : Box w1 (w.heap.size + 1 + 1) 62 #[.int .i64 x, .slice AB nb cb] := Box.below (by simpa using Box.new ((w.alloc (.cells #[.int .i64 p.1, .int .i64 p.2.1, .int .i64 p.2.2.1, .slice A3 n3 c3, .slice A4 n4 c4, .slice A5 n5 c5, .slice A6 n6 c6] 35)).alloc (.cells #[.int .i64 0, .int .i64 0, .int .i64 0, .slice none 0 0, .slice none 0 0, .slice none 0 0, .slice none 0 0] 35)) 62 #[.int .i64 x, .slice AB nb cb]) hb1 lez
  have BW : Bel w w1 := bel_trans (belx) hb1
  have nw0 := NW.cell 0; have nw1 := NW.cell 1; have nw2 := NW.cell 2; have nw3 := NW.cell 3; have nw4 := NW.cell 4; have nw5 := NW.cell 5; have nw6 := NW.cell 6
  have mw0 := MW.cell 0
  have mw1 := MW.cell 1
  go_wp2_with fail
  refine (i_MlOk (p := (x, bs)) (tMail.reach hmR (bel_trans BW (belx)))).mono ?_
  rintro e w2 ⟨rfl, hb2⟩
  rw [HQ.out]
  have hs2 : Bel w1 w2 := bel_trans (belx) hb2
  replace NW := NW.below hs2 NW.size
  replace RW := RW.below hs2 RW.size
  replace MW := MW.below hs2 MW.size
  have BW1 := BW
  replace BW : Bel w w2 := bel_trans BW1 hs2
  have zw2 := hs2.size
  have rc0 := RW.cell 0; have rf0 := RW.frozen 0; have rc1 := RW.cell 1; have rf1 := RW.frozen 1; have rc2 := RW.cell 2; have rf2 := RW.frozen 2; have rc3 := RW.cell 3; have rf3 := RW.frozen 3; have rc4 := RW.cell 4; have rf4 := RW.frozen 4; have rc5 := RW.cell 5; have rf5 := RW.frozen 5; have rc6 := RW.cell 6; have rf6 := RW.frozen 6
  go_wp2
  have RR := (((((((RW.put 0 (.int .i64 0)).put 1 (.int .i64 0)).put 2 (.int .i64 0)).put 3 (.slice none 0 0)).put 4 (.slice none 0 0)).put 5 (.slice none 0 0)).put 6 (.slice none 0 0))
  have y0 := RR.cell 0; have y1 := RR.cell 1; have y2 := RR.cell 2; have y3 := RR.cell 3; have y4 := RR.cell 4; have y5 := RR.cell 5; have y6 := RR.cell 6
  refine bodyPost_ret (v := .tuple #[.agg #[.int .i64 0, .int .i64 0, .int .i64 0, .slice none 0 0, .slice none 0 0, .slice none 0 0, .slice none 0 0], .bool false]) (by simp [results, Tryz.results9, go_sem, y0, y1, y2, y3, y4, y5, y6]) rfl ⟨_, [], rfl, zNetO, New.nil _, ?_⟩
  exact put7 BW (by omega)
 have HQ := Lib.hid (decide_eq_true hq)
 have hl4 : p.2.2.2.2.1.length ≤ 1048576 := by have := hp.2.1.1; omega
 have hl6 : p.2.2.2.2.2.2.length ≤ 1048576 := by have := hp.2.1.2.2; omega
 by_cases hr : Room p
 rotate_left
 ·have hB0 : fFgB p (x, bs) = false := decide_eq_false fun h => hr h.2.2
  have hF0 : fFg p (x, bs) = p := by unfold fFg; rw [if_pos ⟨hp, hq⟩, if_neg hr]
  rw [hB0, hF0]
  have HRM := Lib.hid hr
  clear hp hq hr hB0 hF0
  go_enter Tryz.func9, Tryz.ntmps9
  go_wp2_with fail
  refine (i_NetOk (tNet.reach hk ?hB) hz).mono ?_
  case hB => exact (belx)
  rintro e w1 ⟨rfl, hb1⟩
  rw [HP.out]
  have NW : Box w1 w.heap.size 35 #[.int .i64 p.1, .int .i64 p.2.1, .int .i64 p.2.2.1, .slice A3 n3 c3, .slice A4 n4 c4, .slice A5 n5 c5, .slice A6 n6 c6] := Box.below (((Box.new w _ _).alloc _).alloc _) hb1 lez
  have RW : Box w1 (w.heap.size + 1) 35 #[.int .i64 0, .int .i64 0, .int .i64 0, .slice none 0 0, .slice none 0 0, .slice none 0 0, .slice none 0 0] := Box.below (Box.alloc (by simpa using Box.new (w.alloc (.cells #[.int .i64 p.1, .int .i64 p.2.1, .int .i64 p.2.2.1, .slice A3 n3 c3, .slice A4 n4 c4, .slice A5 n5 c5, .slice A6 n6 c6] 35)) 35 #[.int .i64 0, .int .i64 0, .int .i64 0, .slice none 0 0, .slice none 0 0, .slice none 0 0, .slice none 0 0]) _) hb1 lez
  have MW : Box w1 (w.heap.size + 1 + 1) 62 #[.int .i64 x, .slice AB nb cb] := Box.below (by simpa using Box.new ((w.alloc (.cells #[.int .i64 p.1, .int .i64 p.2.1, .int .i64 p.2.2.1, .slice A3 n3 c3, .slice A4 n4 c4, .slice A5 n5 c5, .slice A6 n6 c6] 35)).alloc (.cells #[.int .i64 0, .int .i64 0, .int .i64 0, .slice none 0 0, .slice none 0 0, .slice none 0 0, .slice none 0 0] 35)) 62 #[.int .i64 x, .slice AB nb cb]) hb1 lez
  have BW : Bel w w1 := bel_trans (belx) hb1
  have nw0 := NW.cell 0; have nw1 := NW.cell 1; have nw2 := NW.cell 2; have nw3 := NW.cell 3; have nw4 := NW.cell 4; have nw5 := NW.cell 5; have nw6 := NW.cell 6
  have mw0 := MW.cell 0
  have mw1 := MW.cell 1
  go_wp2_with fail
  refine (i_MlOk (p := (x, bs)) (tMail.reach hmR (bel_trans BW (belx)))).mono ?_
  rintro e w2 ⟨rfl, hb2⟩
  rw [HQ.out]
  have hs2 : Bel w1 w2 := bel_trans (belx) hb2
  replace NW := NW.below hs2 NW.size
  replace RW := RW.below hs2 RW.size
  replace MW := MW.below hs2 MW.size
  have BW1 := BW
  replace BW : Bel w w2 := bel_trans BW1 hs2
  have zw2 := hs2.size
  have nv0 := NW.cell 0; have nv1 := NW.cell 1; have nv2 := NW.cell 2; have nv3 := NW.cell 3; have nv4 := NW.cell 4; have nv5 := NW.cell 5; have nv6 := NW.cell 6
  have mv0 := MW.cell 0
  have mv1 := MW.cell 1
  have zr := MW.size
  go_wp2_with fail
  refine (i_trafficOf (tNet.reach hk BW) hz).mono ?_
  rintro e w3 ⟨tb, rfl, hT, hb3⟩
  replace NW := NW.below hb3 NW.size
  replace RW := RW.below hb3 RW.size
  replace MW := MW.below hb3 MW.size
  have BW2 := BW
  replace BW : Bel w w3 := bel_trans BW2 hb3
  have ms0 := MW.cell 0
  have ms1 := MW.cell 1
  have zw3 := hb3.size
  go_wp2_with fail
  refine (i_transmit_f hT (m := (x, bs)) (tMail.reach hmR BW) hl4 hl6 HRM.out).mono ?_
  rintro e w4 ⟨rfl, hT4, hb4⟩
  replace RW := RW.below hb4 RW.size
  have BW3 := BW
  replace BW : Bel w w4 := bel_trans BW3 hb4
  obtain ⟨D3, g3, D4, g4, D5, g5, D6, g6, F, TB, hO, hNw⟩ := Trf.out hT4 HI0.out HI1.out HI2.out
  have tb0 := TB.cell 0; have rc0 := RW.cell 0; have rf0 := RW.frozen 0; have tb1 := TB.cell 1; have rc1 := RW.cell 1; have rf1 := RW.frozen 1; have tb2 := TB.cell 2; have rc2 := RW.cell 2; have rf2 := RW.frozen 2; have tb3 := TB.cell 3; have rc3 := RW.cell 3; have rf3 := RW.frozen 3; have tb4 := TB.cell 4; have rc4 := RW.cell 4; have rf4 := RW.frozen 4; have tb5 := TB.cell 5; have rc5 := RW.cell 5; have rf5 := RW.frozen 5; have tb6 := TB.cell 6; have rc6 := RW.cell 6; have rf6 := RW.frozen 6
  go_wp2
  have RR := (((((((RW.put 0 (.int .i64 p.1)).put 1 (.int .i64 p.2.1)).put 2 (.int .i64 p.2.2.1)).put 3 (.slice D3 p.2.2.2.1.length g3)).put 4 (.slice D4 p.2.2.2.2.1.length g4)).put 5 (.slice D5 p.2.2.2.2.2.1.length g5)).put 6 (.slice D6 p.2.2.2.2.2.2.length g6))
  have y0 := RR.cell 0; have y1 := RR.cell 1; have y2 := RR.cell 2; have y3 := RR.cell 3; have y4 := RR.cell 4; have y5 := RR.cell 5; have y6 := RR.cell 6
  have uu := (Ty.far (t := tNet) (Ty.far (t := tNet) (Ty.far (t := tNet) (Ty.far (t := tNet) (Ty.far (t := tNet) (Ty.far (t := tNet) (Ty.far (t := tNet) hO hNw (p := ⟨(w.heap.size + 1), 0, none⟩) fsz (.int .i64 p.1)) hNw (p := ⟨(w.heap.size + 1), 1, none⟩) fsz (.int .i64 p.2.1)) hNw (p := ⟨(w.heap.size + 1), 2, none⟩) fsz (.int .i64 p.2.2.1)) hNw (p := ⟨(w.heap.size + 1), 3, none⟩) fsz (.slice D3 p.2.2.2.1.length g3)) hNw (p := ⟨(w.heap.size + 1), 4, none⟩) fsz (.slice D4 p.2.2.2.2.1.length g4)) hNw (p := ⟨(w.heap.size + 1), 5, none⟩) fsz (.slice D5 p.2.2.2.2.2.1.length g5)) hNw (p := ⟨(w.heap.size + 1), 6, none⟩) fsz (.slice D6 p.2.2.2.2.2.2.length g6))
  refine bodyPost_ret (v := .tuple #[.agg #[.int .i64 p.1, .int .i64 p.2.1, .int .i64 p.2.2.1, .slice D3 p.2.2.2.1.length g3, .slice D4 p.2.2.2.2.1.length g4, .slice D5 p.2.2.2.2.2.1.length g5, .slice D6 p.2.2.2.2.2.2.length g6], .bool false]) (by simp [results, Tryz.results9, go_sem, y0, y1, y2, y3, y4, y5, y6]) rfl ⟨_, _, rfl, uu, hNw.lower (by omega), ?_⟩
  exact put7 BW (by omega)
 ·have hB0 : fFgB p (x, bs) = true := decide_eq_true ⟨hp, hq, hr⟩
  have hF0 : fFg p (x, bs) = fTr p (x, bs) := by unfold fFg; rw [if_pos ⟨hp, hq⟩, if_pos hr]
  rw [hB0, hF0]
  have hr4 := hr.1
  have hr6 := hr.2
  clear hp hq hr hB0 hF0
  obtain ⟨q, hq⟩ : ∃ q, fTr p (x, bs) = q := ⟨_, rfl⟩
  have HJ0 := Lib.hid (show (Lit.int .i64 q.1).wf = true from by rw [← hq]; exact HI0.out)
  have HJ1 := Lib.hid (show (Lit.int .i64 q.2.1).wf = true from by rw [← hq]; exact HI1.out)
  have HJ2 := Lib.hid (show (Lit.int .i64 q.2.2.1).wf = true from by rw [← hq]; exact HI2.out)
  have HQ2 := Lib.hid hq
  rw [hq]
  clear hq
  go_enter Tryz.func9, Tryz.ntmps9
  go_wp2_with fail
  refine (i_NetOk (tNet.reach hk ?hB) hz).mono ?_
  case hB => exact (belx)
  rintro e w1 ⟨rfl, hb1⟩
  rw [HP.out]
  have NW : Box w1 w.heap.size 35 #[.int .i64 p.1, .int .i64 p.2.1, .int .i64 p.2.2.1, .slice A3 n3 c3, .slice A4 n4 c4, .slice A5 n5 c5, .slice A6 n6 c6] := Box.below (((Box.new w _ _).alloc _).alloc _) hb1 lez
  have RW : Box w1 (w.heap.size + 1) 35 #[.int .i64 0, .int .i64 0, .int .i64 0, .slice none 0 0, .slice none 0 0, .slice none 0 0, .slice none 0 0] := Box.below (Box.alloc (by simpa using Box.new (w.alloc (.cells #[.int .i64 p.1, .int .i64 p.2.1, .int .i64 p.2.2.1, .slice A3 n3 c3, .slice A4 n4 c4, .slice A5 n5 c5, .slice A6 n6 c6] 35)) 35 #[.int .i64 0, .int .i64 0, .int .i64 0, .slice none 0 0, .slice none 0 0, .slice none 0 0, .slice none 0 0]) _) hb1 lez
  have MW : Box w1 (w.heap.size + 1 + 1) 62 #[.int .i64 x, .slice AB nb cb] := Box.below (by simpa using Box.new ((w.alloc (.cells #[.int .i64 p.1, .int .i64 p.2.1, .int .i64 p.2.2.1, .slice A3 n3 c3, .slice A4 n4 c4, .slice A5 n5 c5, .slice A6 n6 c6] 35)).alloc (.cells #[.int .i64 0, .int .i64 0, .int .i64 0, .slice none 0 0, .slice none 0 0, .slice none 0 0, .slice none 0 0] 35)) 62 #[.int .i64 x, .slice AB nb cb]) hb1 lez
  have BW : Bel w w1 := bel_trans (belx) hb1
  have nw0 := NW.cell 0; have nw1 := NW.cell 1; have nw2 := NW.cell 2; have nw3 := NW.cell 3; have nw4 := NW.cell 4; have nw5 := NW.cell 5; have nw6 := NW.cell 6
  have mw0 := MW.cell 0
  have mw1 := MW.cell 1
  go_wp2_with fail
  refine (i_MlOk (p := (x, bs)) (tMail.reach hmR (bel_trans BW (belx)))).mono ?_
  rintro e w2 ⟨rfl, hb2⟩
  rw [HQ.out]
  have hs2 : Bel w1 w2 := bel_trans (belx) hb2
  replace NW := NW.below hs2 NW.size
  replace RW := RW.below hs2 RW.size
  replace MW := MW.below hs2 MW.size
  have BW1 := BW
  replace BW : Bel w w2 := bel_trans BW1 hs2
  have zw2 := hs2.size
  have nv0 := NW.cell 0; have nv1 := NW.cell 1; have nv2 := NW.cell 2; have nv3 := NW.cell 3; have nv4 := NW.cell 4; have nv5 := NW.cell 5; have nv6 := NW.cell 6
  have mv0 := MW.cell 0
  have mv1 := MW.cell 1
  have zr := MW.size
  go_wp2_with fail
  refine (i_trafficOf (tNet.reach hk BW) hz).mono ?_
  rintro e w3 ⟨tb, rfl, hT, hb3⟩
  replace NW := NW.below hb3 NW.size
  replace RW := RW.below hb3 RW.size
  replace MW := MW.below hb3 MW.size
  have BW2 := BW
  replace BW : Bel w w3 := bel_trans BW2 hb3
  have ms0 := MW.cell 0
  have ms1 := MW.cell 1
  have zw3 := hb3.size
  go_wp2_with fail
  refine (i_transmit_t hT (m := (x, bs)) (tMail.reach hmR BW) (by simpa [szMail, szCell] using hzb) zw3 hr4 hr6 HI0.out).mono ?_
  rintro e w4 ⟨rfl, hT4, hb4⟩
  replace RW := RW.below hb4 (by omega)
  have BW3 := BW
  replace BW : Bel w w4 := ⟨hb4.os.trans BW3.os, hb4.tape.trans BW3.tape, hb4.output.trans BW3.output, Nat.le_trans BW3.size hb4.size, fun b hb => (hb4.block b (by omega)).trans (BW3.block b hb)⟩
  rw [HQ2.out] at hT4
  clear HI0 HI1 HI2
  have HI0 := HJ0
  have HI1 := HJ1
  have HI2 := HJ2
  obtain ⟨D3, g3, D4, g4, D5, g5, D6, g6, F, TB, hO, hNw⟩ := Trf.out hT4 HI0.out HI1.out HI2.out
  have tb0 := TB.cell 0; have rc0 := RW.cell 0; have rf0 := RW.frozen 0; have tb1 := TB.cell 1; have rc1 := RW.cell 1; have rf1 := RW.frozen 1; have tb2 := TB.cell 2; have rc2 := RW.cell 2; have rf2 := RW.frozen 2; have tb3 := TB.cell 3; have rc3 := RW.cell 3; have rf3 := RW.frozen 3; have tb4 := TB.cell 4; have rc4 := RW.cell 4; have rf4 := RW.frozen 4; have tb5 := TB.cell 5; have rc5 := RW.cell 5; have rf5 := RW.frozen 5; have tb6 := TB.cell 6; have rc6 := RW.cell 6; have rf6 := RW.frozen 6
  go_wp2
  have RR := (((((((RW.put 0 (.int .i64 q.1)).put 1 (.int .i64 q.2.1)).put 2 (.int .i64 q.2.2.1)).put 3 (.slice D3 q.2.2.2.1.length g3)).put 4 (.slice D4 q.2.2.2.2.1.length g4)).put 5 (.slice D5 q.2.2.2.2.2.1.length g5)).put 6 (.slice D6 q.2.2.2.2.2.2.length g6))
  have y0 := RR.cell 0; have y1 := RR.cell 1; have y2 := RR.cell 2; have y3 := RR.cell 3; have y4 := RR.cell 4; have y5 := RR.cell 5; have y6 := RR.cell 6
  have uu := (Ty.far (t := tNet) (Ty.far (t := tNet) (Ty.far (t := tNet) (Ty.far (t := tNet) (Ty.far (t := tNet) (Ty.far (t := tNet) (Ty.far (t := tNet) hO hNw (p := ⟨(w.heap.size + 1), 0, none⟩) fsz (.int .i64 q.1)) hNw (p := ⟨(w.heap.size + 1), 1, none⟩) fsz (.int .i64 q.2.1)) hNw (p := ⟨(w.heap.size + 1), 2, none⟩) fsz (.int .i64 q.2.2.1)) hNw (p := ⟨(w.heap.size + 1), 3, none⟩) fsz (.slice D3 q.2.2.2.1.length g3)) hNw (p := ⟨(w.heap.size + 1), 4, none⟩) fsz (.slice D4 q.2.2.2.2.1.length g4)) hNw (p := ⟨(w.heap.size + 1), 5, none⟩) fsz (.slice D5 q.2.2.2.2.2.1.length g5)) hNw (p := ⟨(w.heap.size + 1), 6, none⟩) fsz (.slice D6 q.2.2.2.2.2.2.length g6))
  refine bodyPost_ret (v := .tuple #[.agg #[.int .i64 q.1, .int .i64 q.2.1, .int .i64 q.2.2.1, .slice D3 q.2.2.2.1.length g3, .slice D4 q.2.2.2.2.1.length g4, .slice D5 q.2.2.2.2.2.1.length g5, .slice D6 q.2.2.2.2.2.2.length g6], .bool true]) (by simp [results, Tryz.results9, go_sem, y0, y1, y2, y3, y4, y5, y6]) rfl ⟨_, _, rfl, uu, hNw.lower (by omega), ?_⟩
  exact put7 BW (by omega)
end Go.Proofs.YtkdanlnhdgcplaaGreat
