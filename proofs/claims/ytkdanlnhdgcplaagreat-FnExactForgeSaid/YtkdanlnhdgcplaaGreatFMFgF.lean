/-
  FgF: texts joined.
-/
import Derived.Test.YtkdanlnhdgcplaaGreatFGa
import Derived.Test.YtkdanlnhdgcplaaGreatFGb
import Derived.Test.YtkdanlnhdgcplaaGreatFGf
import Derived.Test.YtkdanlnhdgcplaaGreatFMFgS
import Derived.Test.YtkdanlnhdgcplaaGreatFMPNetS
import Derived.Test.YtkdanlnhdgcplaaGreatFMPNn
import Derived.Test.YtkdanlnhdgcplaaGreatFMShs
namespace Go.Proofs.YtkdanlnhdgcplaaGreat
set_option maxRecDepth 100000
set_option linter.unusedVariables false
set_option linter.unusedSimpArgs false
open Go.ChangeShapes Go.WideShapes Go.ChangeAt Go.RowKit
open Fld
theorem rsz_all {α : Type} {s : α → Nat} {l : List α} {m : Nat} (h : ∀ a ∈ l, s a ≤ m) : rsz s l ≤ (m + 1) * l.length := by
 induction l with
 | nil => simp [rsz, rsum]
 | cons a l ih =>
  have h1 := ih fun x hx => h x (List.mem_cons_of_mem _ hx)
  have h2 := h a List.mem_cons_self
  unfold rsz at h1 ⊢
  rw [rsum, List.length_cons, Nat.mul_succ]; omega
theorem ntOk_sz {p : DNet} (h : NtOk p) : szNet p ≤ 1000000 := by
 obtain ⟨-, ⟨l1, l2, l3⟩, ⟨l4, hn⟩, hm, hg, hs, -⟩ := h
 have h1 := rsz_all (s := szNode) (l := p.2.2.2.1) (m := 60000) (fun a ha => by
  obtain ⟨i, hi, rfl⟩ := List.getElem_of_mem ha
  obtain ⟨s1, s2, s3, s4⟩ := ndOk_sz (hn i _ (List.getElem?_eq_getElem hi)).1
  unfold szNode; omega)
 have h2 := rsz_all (s := szMail) (l := p.2.2.2.2.1) (m := 80) (fun a ha => by have := (hm a ha).2; show a.2.length ≤ 80; omega)
 have h3 := rsz_all (s := szSent) (l := p.2.2.2.2.2.1) (m := 160) (fun a ha => (hs a ha).2.2)
 have h4 := rsz_all (s := szGlance) (l := p.2.2.2.2.2.2) (m := 0) (fun a ha => Nat.le_refl _)
 unfold szNet
 omega
theorem fTr_ok {p : DNet} {m : DMail} (h : NtOk p) (hm : MlOk m) (hr : Room p) : NtOk (fTr p m) := by
 obtain ⟨h1, ⟨l1, l2, l3⟩, h4, h5, h6, h7⟩ := h
 refine ⟨h1, ⟨by show (p.2.2.2.2.1 ++ [m]).length ≤ 60; rw [List.length_append]; exact hr.1, l2, by show (p.2.2.2.2.2.2 ++ [(p.1, m.1)]).length ≤ 500; rw [List.length_append]; exact hr.2⟩, h4, fun a ha => ?_, fun a ha => ?_, h7⟩
 ·rcases List.mem_append.1 ha with h' | h'
  ·exact h5 a h'
  ·rw [List.mem_singleton.1 h']; exact hm
 ·rcases List.mem_append.1 ha with h' | h'
  ·exact h6 a h'
  ·rw [List.mem_singleton.1 h']; exact ⟨⟨h1.1.1, Int.le_refl _⟩, hm.1⟩
theorem fFg_sz (p : DNet) (m : DMail) : szNet (fFg p m) ≤ 1000000 := by
 unfold fFg
 split
 ·rename_i h
  split
  ·rename_i hr; exact ntOk_sz (fTr_ok h.1 h.2 hr)
  ·exact ntOk_sz h.1
 ·show 0 + 0 + 0 + 0 ≤ _; omega
set_option maxHeartbeats 8000000 in
theorem s_Forge {w : World} {cs : List Value} {p : DNet} {x : Int} {AB : Option Addr} {nb cb : Nat} {bs : List Int} (h : tNet.R w w.heap.size cs p) (hz : szNet p ≤ 1048576) (hx : (Lit.int .i64 x).wf = true) (hb : tBy.R w w.heap.size [.slice AB nb cb] bs) (hzb : bs.length ≤ 1048576) :
  Calls Tryz.prog 6 #[.agg cs.toArray, .int .i64 x, .slice AB nb cb] w fun e w' => ∃ cs, e = .returned (.tuple #[.agg cs.toArray, .bool (fFgB p (x, bs))]) ∧ tNet.R w' w'.heap.size cs (fFg p (x, bs)) ∧ Bel w w' := by
 have hk := h
 obtain ⟨i0, hi0, hz0, hz1, hz2⟩ := info_parts info_cb
 obtain ⟨A3, n3, c3, A4, n4, c4, A5, n5, c5, A6, n6, c6, rfl, j0, j1, j2, -, -, -, -, -, -, -, -, -, -, -, -, -, -, -, -⟩ := openNet h
 have HI0 := Lib.hid j0; have HI1 := Lib.hid j1; have HI2 := Lib.hid j2
 have hIb := (slR_ints hb).1
 have eb := hIb.1
 clear j0 j1 j2
 by_cases hpq : NtOk p ∧ MlOk (x, bs)
 rotate_left
 ·have hB0 : fFgB p (x, bs) = false := decide_eq_false fun h => hpq ⟨h.1, h.2.1⟩
  have hF0 : fFg p (x, bs) = zNet := if_neg hpq
  rw [hB0, hF0]
  have bad : decide (NtOk p) = false ∨ (decide (NtOk p) = true ∧ decide (x < 0) = true) ∨ (decide (NtOk p) = true ∧ decide (x < 0) = false ∧ decide ((8 : Int) ≤ x) = true) ∨ (decide (NtOk p) = true ∧ decide (x < 0) = false ∧ decide ((8 : Int) ≤ x) = false ∧ ((nb : Int) != 80) = true) := by
   by_cases hp : NtOk p
   ·by_cases g1 : x < 0
    ·exact .inr (.inl ⟨decide_eq_true hp, decide_eq_true g1⟩)
    by_cases g2 : (8 : Int) ≤ x
    ·exact .inr (.inr (.inl ⟨decide_eq_true hp, decide_eq_false g1, decide_eq_true g2⟩))
    refine .inr (.inr (.inr ⟨decide_eq_true hp, decide_eq_false g1, decide_eq_false g2, ?_⟩))
    have g3 : ¬ bs.length = 80 := fun e => hpq ⟨hp, ⟨⟨by omega, by omega⟩, e⟩⟩
    simp; omega
   ·exact .inl (decide_eq_false hp)
  rcases bad with d0 | ⟨d0, d1⟩ | ⟨d0, d1, d2⟩ | ⟨d0, d1, d2, d3⟩
  all_goals
   have HP := Lib.hid d0
   clear hpq hB0 hF0 eb hIb hb d0
   go_enter Tryz.func6, Tryz.ntmps6
   go_wp2_with fail
   refine (s_NetOk (tNet.reach hk ?hB) hz).mono ?_
   case hB => exact (belx)
   rintro e w1 ⟨rfl, hb1⟩
   rw [HP.out]
   have NW : Box w1 w.heap.size 35 #[.int .i64 p.1, .int .i64 p.2.1, .int .i64 p.2.2.1, .slice A3 n3 c3, .slice A4 n4 c4, .slice A5 n5 c5, .slice A6 n6 c6] := Box.below ((Box.new w _ _).alloc _) hb1 (by simp; omega)
   have RW : Box w1 (w.heap.size + 1) 35 #[.int .i64 0, .int .i64 0, .int .i64 0, .slice none 0 0, .slice none 0 0, .slice none 0 0, .slice none 0 0] := Box.below (by simpa using Box.new (w.alloc (.cells #[.int .i64 p.1, .int .i64 p.2.1, .int .i64 p.2.2.1, .slice A3 n3 c3, .slice A4 n4 c4, .slice A5 n5 c5, .slice A6 n6 c6] 35)) 35 #[.int .i64 0, .int .i64 0, .int .i64 0, .slice none 0 0, .slice none 0 0, .slice none 0 0, .slice none 0 0]) hb1 (by simp)
   have BW : Bel w w1 := bel_trans (belx) hb1
   have rc0 := RW.cell 0; have rcf0 := RW.frozen 0; have rc1 := RW.cell 1; have rcf1 := RW.frozen 1; have rc2 := RW.cell 2; have rcf2 := RW.frozen 2; have rc3 := RW.cell 3; have rcf3 := RW.frozen 3; have rc4 := RW.cell 4; have rcf4 := RW.frozen 4; have rc5 := RW.cell 5; have rcf5 := RW.frozen 5; have rc6 := RW.cell 6; have rcf6 := RW.frozen 6
   go_wp2
   have RR := (((((((RW.put 0 (.int .i64 0)).put 1 (.int .i64 0)).put 2 (.int .i64 0)).put 3 (.slice none 0 0)).put 4 (.slice none 0 0)).put 5 (.slice none 0 0)).put 6 (.slice none 0 0))
   have y0 := RR.cell 0; have y1 := RR.cell 1; have y2 := RR.cell 2; have y3 := RR.cell 3; have y4 := RR.cell 4; have y5 := RR.cell 5; have y6 := RR.cell 6
   refine bodyPost_ret (v := .tuple #[.agg #[.int .i64 0, .int .i64 0, .int .i64 0, .slice none 0 0, .slice none 0 0, .slice none 0 0, .slice none 0 0], .bool false]) (by simp [results, Tryz.results6, go_sem, y0, y1, y2, y3, y4, y5, y6]) rfl ⟨_, rfl, tNet.read zNetO, ?_⟩
   exact (bel_put (bel_put (bel_put (bel_put (bel_put (bel_put (bel_put BW lew _) lew _) lew _) lew _) lew _) lew _) lew _)
 obtain ⟨hp, hq⟩ := hpq
 have HP := Lib.hid (decide_eq_true hp)
 have HQ := Lib.hid hq
 have HPK := Lib.hid hp
 have g1 : ¬ x < 0 := by have := hq.1.1; dsimp only at this; omega
 have g2 : ¬ (8 : Int) ≤ x := by have := hq.1.2; dsimp only at this; omega
 obtain rfl : nb = 80 := by have := hq.2; dsimp only at this; omega
 have d1 : decide (x < 0) = false := decide_eq_false g1
 have d2 : decide ((8 : Int) ≤ x) = false := decide_eq_false g2
 have HBL := Lib.hid eb
 have hl4 : p.2.2.2.2.1.length ≤ 1048576 := by have := hp.2.1.1; omega
 have hl6 : p.2.2.2.2.2.2.length ≤ 1048576 := by have := hp.2.1.2.2; omega
 have HL4 := Lib.hid hl4; have HL6 := Lib.hid hl6
 clear hp hq eb hl4 hl6
 go_enter Tryz.func6, Tryz.ntmps6
 go_wp2_with fail
 refine (s_NetOk (tNet.reach hk ?hB) hz).mono ?_
 case hB => exact (belx)
 rintro e w1 ⟨rfl, hb1⟩
 rw [HP.out]
 have NW : Box w1 w.heap.size 35 #[.int .i64 p.1, .int .i64 p.2.1, .int .i64 p.2.2.1, .slice A3 n3 c3, .slice A4 n4 c4, .slice A5 n5 c5, .slice A6 n6 c6] := Box.below ((Box.new w _ _).alloc _) hb1 (by simp; omega)
 have RW : Box w1 (w.heap.size + 1) 35 #[.int .i64 0, .int .i64 0, .int .i64 0, .slice none 0 0, .slice none 0 0, .slice none 0 0, .slice none 0 0] := Box.below (by simpa using Box.new (w.alloc (.cells #[.int .i64 p.1, .int .i64 p.2.1, .int .i64 p.2.2.1, .slice A3 n3 c3, .slice A4 n4 c4, .slice A5 n5 c5, .slice A6 n6 c6] 35)) 35 #[.int .i64 0, .int .i64 0, .int .i64 0, .slice none 0 0, .slice none 0 0, .slice none 0 0, .slice none 0 0]) hb1 (by simp)
 have BW : Bel w w1 := bel_trans (belx) hb1
 have nw0 := NW.cell 0; have nw1 := NW.cell 1; have nw2 := NW.cell 2; have nw3 := NW.cell 3; have nw4 := NW.cell 4; have nw5 := NW.cell 5; have nw6 := NW.cell 6
 clear hb1
 go_wp2_with fail
 refine (s_NetOwn (tNet.reach hk BW) hz).mono ?_
 rintro e w2 ⟨cs2, F2, rfl, hO2, -, hb2⟩
 have hR2 := tNet.read hO2
 obtain ⟨B3, e3, Y3, B4, e4, Y4, B5, e5, Y5, B6, e6, Y6, rfl, -, -, -, -, -, -, -, -, -, -, -, -, -, -, -, -⟩ := openONet hO2
 replace RW := RW.below hb2 RW.size
 replace BW : Bel w w2 := bel_trans BW hb2
 have zw2 := BW.size
 have zr := RW.size
 have hX := NtX.of hR2
 clear hO2 hR2 NW hb2 nw0 nw1 nw2 nw3 nw4 nw5 nw6
 have E3 : Own .u8 5 ((w2.alloc (.cells #[.int .i64 p.1, .int .i64 p.2.1, .int .i64 p.2.2.1, .slice B3 p.2.2.2.1.length e3, .slice B4 p.2.2.2.2.1.length e4, .slice B5 p.2.2.2.2.2.1.length e5, .slice B6 p.2.2.2.2.2.2.length e6] 35)).alloc (.cells #[] 5)) (w2.heap.size + 1) (.slice (some ⟨w2.heap.size + 1, 0, none⟩) 0 0) [] := by simpa using Own.empty (k := .u8) (e := 5) (w := (w2.alloc (.cells #[.int .i64 p.1, .int .i64 p.2.1, .int .i64 p.2.2.1, .slice B3 p.2.2.2.1.length e3, .slice B4 p.2.2.2.2.1.length e4, .slice B5 p.2.2.2.2.2.1.length e5, .slice B6 p.2.2.2.2.2.2.length e6] 35))) (base := w2.heap.size + 1) (by simp)
 have hIb2 : Ints .u8 ((w2.alloc (.cells #[.int .i64 p.1, .int .i64 p.2.1, .int .i64 p.2.2.1, .slice B3 p.2.2.2.1.length e3, .slice B4 p.2.2.2.2.1.length e4, .slice B5 p.2.2.2.2.2.1.length e5, .slice B6 p.2.2.2.2.2.2.length e6] 35)).alloc (.cells #[] 5)) ((w2.alloc (.cells #[.int .i64 p.1, .int .i64 p.2.1, .int .i64 p.2.2.1, .slice B3 p.2.2.2.1.length e3, .slice B4 p.2.2.2.2.1.length e4, .slice B5 p.2.2.2.2.2.1.length e5, .slice B6 p.2.2.2.2.2.2.length e6] 35)).alloc (.cells #[] 5)).heap.size AB 80 bs := reach (reach hIb BW) (belx)
 have hV3 : Below (w2.alloc (.cells #[.int .i64 p.1, .int .i64 p.2.1, .int .i64 p.2.2.1, .slice B3 p.2.2.2.1.length e3, .slice B4 p.2.2.2.2.1.length e4, .slice B5 p.2.2.2.2.2.1.length e5, .slice B6 p.2.2.2.2.2.2.length e6] 35)).heap.size (w2.alloc (.cells #[.int .i64 p.1, .int .i64 p.2.1, .int .i64 p.2.2.1, .slice B3 p.2.2.2.1.length e3, .slice B4 p.2.2.2.2.1.length e4, .slice B5 p.2.2.2.2.2.1.length e5, .slice B6 p.2.2.2.2.2.2.length e6] 35)) ((w2.alloc (.cells #[.int .i64 p.1, .int .i64 p.2.1, .int .i64 p.2.2.1, .slice B3 p.2.2.2.1.length e3, .slice B4 p.2.2.2.2.1.length e4, .slice B5 p.2.2.2.2.2.1.length e5, .slice B6 p.2.2.2.2.2.2.length e6] 35)).alloc (.cells #[] 5)) := (belx)
 have zn : (w2.alloc (.cells #[.int .i64 p.1, .int .i64 p.2.1, .int .i64 p.2.2.1, .slice B3 p.2.2.2.1.length e3, .slice B4 p.2.2.2.2.1.length e4, .slice B5 p.2.2.2.2.2.1.length e5, .slice B6 p.2.2.2.2.2.2.length e6] 35)).heap.size = w2.heap.size + 1 := by simp
 have BN : Bel w (w2.alloc (.cells #[.int .i64 p.1, .int .i64 p.2.1, .int .i64 p.2.2.1, .slice B3 p.2.2.2.1.length e3, .slice B4 p.2.2.2.2.1.length e4, .slice B5 p.2.2.2.2.2.1.length e5, .slice B6 p.2.2.2.2.2.2.length e6] 35)) := bel_alloc BW _
 replace RW := RW.alloc (.cells #[.int .i64 p.1, .int .i64 p.2.1, .int .i64 p.2.2.1, .slice B3 p.2.2.2.1.length e3, .slice B4 p.2.2.2.2.1.length e4, .slice B5 p.2.2.2.2.2.1.length e5, .slice B6 p.2.2.2.2.2.2.length e6] 35)
 go_wp2_with (at_builtin; refine Own.appB (.tmp 30) (.tmp 31) Tryz.underlying28 hi0 hz0 hz1 (by omega) E3 hIb2 hV3 (by simp) (by simp) (by simp) ?_; intro v4 w4 hO4 hs4 hE4; obtain ⟨A7, n7, c7, rfl, hn7⟩ := hO4.shapeN; clear hn7)
 rw [List.nil_append] at hO4
 have hX4 := hX.at hs4
 have hm4 : (XT (KO w2.heap.size) tBy).R w4 w4.heap.size [.slice A7 n7 c7] bs := slX_own hO4 (show w2.heap.size + 1 ≤ w2.heap.size + 1 from Nat.le_refl _)
 replace RW := RW.below hs4 RW.size
 have B4_ : Bel w w4 := bel_trans BN hs4
 have z4 := hs4.size
 rw [zn] at z4
 clear hE4 hX hO4 hIb2 hIb E3 hV3 zn hs4 BN
 by_cases hr : Room p
 ·have hB0 : fFgB p (x, bs) = true := decide_eq_true ⟨HPK.out, HQ.out, hr⟩
  have hF0 : fFg p (x, bs) = fTr p (x, bs) := by unfold fFg; rw [if_pos ⟨HPK.out, HQ.out⟩, if_pos hr]
  obtain ⟨d, hd⟩ : ∃ d, fTr p (x, bs) = d := ⟨_, rfl⟩
  have HSZ := Lib.hid (show szNet d ≤ 1048576 from by rw [← hd]; have := ntOk_sz (fTr_ok HPK.out HQ.out hr); omega)
  have HW0 := Lib.hid (show (Lit.int .i64 d.1).wf = true from by rw [← hd]; exact HI0.out)
  have HW1 := Lib.hid (show (Lit.int .i64 d.2.1).wf = true from by rw [← hd]; exact HI1.out)
  have HW2 := Lib.hid (show (Lit.int .i64 d.2.2.1).wf = true from by rw [← hd]; exact HI2.out)
  have HD := Lib.hid hd
  have HB0 := Lib.hid hB0
  have HF0 := Lib.hid (hF0.trans hd)
  have HRM := Lib.hid hr
  clear hd hB0 hF0 hr
  go_wp2_with fail
  refine (s_l7mail hX4 hm4 hx HI0.out (by omega) HRM.out).mono ?_
  rintro e w5 ⟨rfl, hX5, hb5⟩
  rw [HD.out] at hX5
  replace RW := RW.below hb5 (by omega)
  have B5_ : Bel w w5 := B4_.trans (hb5.mono (by omega))
  have zz5 := hb5.size
  obtain ⟨v3, v4, v5, v6, X5, hN5⟩ := hX5.net HW0.out HW1.out HW2.out
  have x50 := X5.cell 0; have x51 := X5.cell 1; have x52 := X5.cell 2; have x53 := X5.cell 3; have x54 := X5.cell 4; have x55 := X5.cell 5; have x56 := X5.cell 6
  clear hX4 hm4 hX5
  go_wp2_with fail
  refine (s_NetOwn hN5 HSZ.out).mono ?_
  rintro e w6 ⟨cs6, F6, rfl, hO6, hN6q, hb6⟩
  have hN6 : New (w.heap.size + 2) F6 := hN6q.lower (by omega)
  have RX := RW.below hb6 RW.size
  have hB6 : Bel w w6 := bel_trans B5_ hb6
  have hO6k := hO6
  obtain ⟨B3, e3, Y3, B4, e4, Y4, B5, e5, Y5, B6, e6, Y6, rfl, -, -, -, -, -, -, -, -, -, -, -, -, -, -, -, -⟩ := openONet hO6
  have rc0 := RX.cell 0; have rcf0 := RX.frozen 0; have rc1 := RX.cell 1; have rcf1 := RX.frozen 1; have rc2 := RX.cell 2; have rcf2 := RX.frozen 2; have rc3 := RX.cell 3; have rcf3 := RX.frozen 3; have rc4 := RX.cell 4; have rcf4 := RX.frozen 4; have rc5 := RX.cell 5; have rcf5 := RX.frozen 5; have rc6 := RX.cell 6; have rcf6 := RX.frozen 6
  clear hO6
  go_wp2
  have RR := (((((((RX.put 0 (.int .i64 d.1)).put 1 (.int .i64 d.2.1)).put 2 (.int .i64 d.2.2.1)).put 3 (.slice B3 d.2.2.2.1.length e3)).put 4 (.slice B4 d.2.2.2.2.1.length e4)).put 5 (.slice B5 d.2.2.2.2.2.1.length e5)).put 6 (.slice B6 d.2.2.2.2.2.2.length e6))
  have y0 := RR.cell 0; have y1 := RR.cell 1; have y2 := RR.cell 2; have y3 := RR.cell 3; have y4 := RR.cell 4; have y5 := RR.cell 5; have y6 := RR.cell 6
  have uu := (Ty.far (t := tNet) (Ty.far (t := tNet) (Ty.far (t := tNet) (Ty.far (t := tNet) (Ty.far (t := tNet) (Ty.far (t := tNet) (Ty.far (t := tNet) hO6k hN6 (p := ⟨w.heap.size + 1, 0, none⟩) fsz (.int .i64 d.1)) hN6 (p := ⟨w.heap.size + 1, 1, none⟩) fsz (.int .i64 d.2.1)) hN6 (p := ⟨w.heap.size + 1, 2, none⟩) fsz (.int .i64 d.2.2.1)) hN6 (p := ⟨w.heap.size + 1, 3, none⟩) fsz (.slice B3 d.2.2.2.1.length e3)) hN6 (p := ⟨w.heap.size + 1, 4, none⟩) fsz (.slice B4 d.2.2.2.2.1.length e4)) hN6 (p := ⟨w.heap.size + 1, 5, none⟩) fsz (.slice B5 d.2.2.2.2.2.1.length e5)) hN6 (p := ⟨w.heap.size + 1, 6, none⟩) fsz (.slice B6 d.2.2.2.2.2.2.length e6))
  refine bodyPost_ret (v := .tuple #[.agg #[.int .i64 d.1, .int .i64 d.2.1, .int .i64 d.2.2.1, .slice B3 d.2.2.2.1.length e3, .slice B4 d.2.2.2.2.1.length e4, .slice B5 d.2.2.2.2.2.1.length e5, .slice B6 d.2.2.2.2.2.2.length e6], .bool true]) (by simp [results, Tryz.results6, go_sem, y0, y1, y2, y3, y4, y5, y6]) rfl ⟨[.int .i64 d.1, .int .i64 d.2.1, .int .i64 d.2.2.1, .slice B3 d.2.2.2.1.length e3, .slice B4 d.2.2.2.2.1.length e4, .slice B5 d.2.2.2.2.2.1.length e5, .slice B6 d.2.2.2.2.2.2.length e6], by rw [HB0.out], by rw [HF0.out]; exact tNet.read uu, ?_⟩
  exact (bel_put (bel_put (bel_put (bel_put (bel_put (bel_put (bel_put hB6 lew _) lew _) lew _) lew _) lew _) lew _) lew _)
 ·have hB0 : fFgB p (x, bs) = false := decide_eq_false fun h => hr h.2.2
  have hF0 : fFg p (x, bs) = p := by unfold fFg; rw [if_pos ⟨HPK.out, HQ.out⟩, if_neg hr]
  obtain ⟨d, hd⟩ : ∃ d, p = d := ⟨_, rfl⟩
  have HSZ := Lib.hid (show szNet d ≤ 1048576 from by rw [← hd]; have := ntOk_sz HPK.out; omega)
  have HW0 := Lib.hid (show (Lit.int .i64 d.1).wf = true from by rw [← hd]; exact HI0.out)
  have HW1 := Lib.hid (show (Lit.int .i64 d.2.1).wf = true from by rw [← hd]; exact HI1.out)
  have HW2 := Lib.hid (show (Lit.int .i64 d.2.2.1).wf = true from by rw [← hd]; exact HI2.out)
  have HD := Lib.hid hd
  have HB0 := Lib.hid hB0
  have HF0 := Lib.hid (hF0.trans hd)
  have HRM := Lib.hid hr
  clear hd hB0 hF0 hr
  go_wp2_with fail
  refine (s_l7mail_f (bs := bs) hX4 HL4.out HL6.out HRM.out).mono ?_
  rintro e w5 ⟨rfl, hb5⟩
  have hX5 := hX4.at hb5
  rw [HD.out] at hX5
  replace RW := RW.below hb5 RW.size
  have B5_ : Bel w w5 := bel_trans B4_ hb5
  have zz5 := hb5.size
  obtain ⟨v3, v4, v5, v6, X5, hN5⟩ := hX5.net HW0.out HW1.out HW2.out
  have x50 := X5.cell 0; have x51 := X5.cell 1; have x52 := X5.cell 2; have x53 := X5.cell 3; have x54 := X5.cell 4; have x55 := X5.cell 5; have x56 := X5.cell 6
  clear hX4 hm4 hX5
  go_wp2_with fail
  refine (s_NetOwn hN5 HSZ.out).mono ?_
  rintro e w6 ⟨cs6, F6, rfl, hO6, hN6q, hb6⟩
  have hN6 : New (w.heap.size + 2) F6 := hN6q.lower (by omega)
  have RX := RW.below hb6 RW.size
  have hB6 : Bel w w6 := bel_trans B5_ hb6
  have hO6k := hO6
  obtain ⟨B3, e3, Y3, B4, e4, Y4, B5, e5, Y5, B6, e6, Y6, rfl, -, -, -, -, -, -, -, -, -, -, -, -, -, -, -, -⟩ := openONet hO6
  have rc0 := RX.cell 0; have rcf0 := RX.frozen 0; have rc1 := RX.cell 1; have rcf1 := RX.frozen 1; have rc2 := RX.cell 2; have rcf2 := RX.frozen 2; have rc3 := RX.cell 3; have rcf3 := RX.frozen 3; have rc4 := RX.cell 4; have rcf4 := RX.frozen 4; have rc5 := RX.cell 5; have rcf5 := RX.frozen 5; have rc6 := RX.cell 6; have rcf6 := RX.frozen 6
  clear hO6
  go_wp2
  have RR := (((((((RX.put 0 (.int .i64 d.1)).put 1 (.int .i64 d.2.1)).put 2 (.int .i64 d.2.2.1)).put 3 (.slice B3 d.2.2.2.1.length e3)).put 4 (.slice B4 d.2.2.2.2.1.length e4)).put 5 (.slice B5 d.2.2.2.2.2.1.length e5)).put 6 (.slice B6 d.2.2.2.2.2.2.length e6))
  have y0 := RR.cell 0; have y1 := RR.cell 1; have y2 := RR.cell 2; have y3 := RR.cell 3; have y4 := RR.cell 4; have y5 := RR.cell 5; have y6 := RR.cell 6
  have uu := (Ty.far (t := tNet) (Ty.far (t := tNet) (Ty.far (t := tNet) (Ty.far (t := tNet) (Ty.far (t := tNet) (Ty.far (t := tNet) (Ty.far (t := tNet) hO6k hN6 (p := ⟨w.heap.size + 1, 0, none⟩) fsz (.int .i64 d.1)) hN6 (p := ⟨w.heap.size + 1, 1, none⟩) fsz (.int .i64 d.2.1)) hN6 (p := ⟨w.heap.size + 1, 2, none⟩) fsz (.int .i64 d.2.2.1)) hN6 (p := ⟨w.heap.size + 1, 3, none⟩) fsz (.slice B3 d.2.2.2.1.length e3)) hN6 (p := ⟨w.heap.size + 1, 4, none⟩) fsz (.slice B4 d.2.2.2.2.1.length e4)) hN6 (p := ⟨w.heap.size + 1, 5, none⟩) fsz (.slice B5 d.2.2.2.2.2.1.length e5)) hN6 (p := ⟨w.heap.size + 1, 6, none⟩) fsz (.slice B6 d.2.2.2.2.2.2.length e6))
  refine bodyPost_ret (v := .tuple #[.agg #[.int .i64 d.1, .int .i64 d.2.1, .int .i64 d.2.2.1, .slice B3 d.2.2.2.1.length e3, .slice B4 d.2.2.2.2.1.length e4, .slice B5 d.2.2.2.2.2.1.length e5, .slice B6 d.2.2.2.2.2.2.length e6], .bool false]) (by simp [results, Tryz.results6, go_sem, y0, y1, y2, y3, y4, y5, y6]) rfl ⟨[.int .i64 d.1, .int .i64 d.2.1, .int .i64 d.2.2.1, .slice B3 d.2.2.2.1.length e3, .slice B4 d.2.2.2.2.1.length e4, .slice B5 d.2.2.2.2.2.1.length e5, .slice B6 d.2.2.2.2.2.2.length e6], by rw [HB0.out], by rw [HF0.out]; exact tNet.read uu, ?_⟩
  exact (bel_put (bel_put (bel_put (bel_put (bel_put (bel_put (bel_put hB6 lew _) lew _) lew _) lew _) lew _) lew _) lew _)
end Go.Proofs.YtkdanlnhdgcplaaGreat
