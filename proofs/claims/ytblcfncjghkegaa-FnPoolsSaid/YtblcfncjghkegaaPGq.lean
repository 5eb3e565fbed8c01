/-
  PPBI: texts joined.
-/
import Derived.Test.YtblcfncjghkegaaPGj
import Derived.Test.YtblcfncjghkegaaPGn
import Derived.Test.YtblcfncjghkegaaPGo
import Derived.Deep.RegionHeld3
namespace Go.Proofs.Ytblcfncjghkegaa
set_option maxRecDepth 100000
set_option linter.unusedVariables false
set_option linter.unusedSimpArgs false
open Go.ChangeShapes Go.WideShapes Go.ChangeAt Go.RowKit
open Fld
theorem i_four5 {w : World} (x : Int) (h : 0 ≤ x ∧ x < 2147483648) :
    Calls Try.prog 67 #[.int .i64 x] w fun e w' => ∃ v, e = .returned v ∧ Own .u8 5 w' w.heap.size v (four x) ∧ Below w.heap.size w w' := by
  have HF := Lib.hid (four_in h)
  go_enter Try.func67, Try.ntmps67
  go_wp2
  go_ret
  refine ⟨_, rfl, Own.of (n := 4) ?_ four_wf, (Below.refl _ _).alloc (Nat.le_refl _) _⟩
  rw [← HF.out]
  exact ⟨rfl, .inr ⟨w.heap.size, 4, _, rfl, Nat.le_refl _, heap_alloc_new w _, Nat.le_refl _, by simp only [maxLen]; omega, rfl, rfl⟩⟩
theorem i_HdBytes {w : World} {cs : List Value} {p : DHeld} (h : tHeld.R w w.heap.size cs p) (hp : HdOk p) :
    Calls Try.prog 65 #[.agg cs.toArray] w fun e w' => ∃ v, e = .returned v ∧ Own .u8 5 w' w.heap.size v (heldB p) ∧ Below w.heap.size w w' := by
  obtain ⟨i0, hi0, hz0, hz1, hz2⟩ := info_parts info_cb
  obtain ⟨A2, n2, c2, rfl, -, -, -, -, hl80, hr2⟩ := openHeld h
  have hI2 := (slR_ints hr2).1
  obtain ⟨q1, q2, q3, q4, q5⟩ := hp
  obtain rfl : n2 = 80 := by omega
  have HHB := Lib.hid (show heldB p = [p.1, p.2.1 / 256, p.2.1 % 256] ++ p.2.2 from rfl)
  rw [HHB.out]
  obtain ⟨x, hx⟩ : ∃ x, p.1 = x := ⟨_, rfl⟩
  obtain ⟨d, hd⟩ : ∃ d, p.2.1 = d := ⟨_, rfl⟩
  rw [hx, hd]
  rw [hx] at q1 q2
  rw [hd] at q3 q4
  clear hx hd hl80 HHB q5 h
  have x8 : IntKind.u8.wrap x = x := IntWalk.u8_in _ (by omega)
  have y8 : IntKind.u8.wrap (d / 256) = d / 256 := IntWalk.u8_in _ (by omega)
  have z8 : IntKind.u8.wrap d = d % 256 := u8_mod d
  have hwf : ∀ u ∈ [x, d / 256, d % 256], (Lit.int .u8 u).wf = true := by
    intro u hu
    simp only [List.mem_cons, List.not_mem_nil, or_false] at hu
    rcases hu with rfl | rfl | rfl
    · exact WalkArith.wf_u8 (by omega)
    · exact WalkArith.wf_u8 (by omega)
    · exact WalkArith.wf_u8 (by omega)
  have hrow : Own .u8 5 ((w.alloc (.cells #[.int .i64 x, .int .i64 d, .slice A2 80 c2] 30)).alloc (.cells #[.int .u8 x, .int .u8 (d / 256), .int .u8 (d % 256)] 5)) (w.heap.size + 1) (.slice (some ⟨w.heap.size + 1, 0, none⟩) 3 3) [x, d / 256, d % 256] :=
    Own.of (n := 3) ⟨rfl, .inr ⟨w.heap.size + 1, 3, #[.int .u8 x, .int .u8 (d / 256), .int .u8 (d % 256)], rfl, Nat.le_refl _, by simpa using heap_alloc_new (w.alloc (.cells #[.int .i64 x, .int .i64 d, .slice A2 80 c2] 30)) (.cells #[.int .u8 x, .int .u8 (d / 256), .int .u8 (d % 256)] 5), Nat.le_refl _, by simp only [maxLen]; omega, rfl, rfl⟩⟩ hwf
  have hsrc : Src ((w.alloc (.cells #[.int .i64 x, .int .i64 d, .slice A2 80 c2] 30)).alloc (.cells #[.int .u8 x, .int .u8 (d / 256), .int .u8 (d % 256)] 5)) 1 A2 80 (p.2.2.map (Value.int .u8)) := Src.of_ints (reach hI2 (belx))
  go_enter Try.func65, Try.ntmps65
  go_wp2_with (at_builtin; refine wpList_app _ rfl (.tmp 13) (.tmp 16) _ rfl (w.heap.size + 1) 5 i0 _ 1 1 Try.underlying22 hi0 hz0 hz1 hz2 rfl (by omega) _ _ _ rfl hrow.1 _ 80 c2 (p.2.2.map (Value.int .u8)) rfl hsrc (one_ints _ _) (by simp only [maxLen, List.length_cons, List.length_nil]; omega) (by simp only [List.length_cons, List.length_nil]; omega) (by simp; done) ?_; intro v1 w1 hown hgr hat)
  go_ret
  refine ⟨v1, rfl, Own.lower (base := w.heap.size + 1) (own_appN (l := [x, d / 256, d % 256]) (r := p.2.2) hown hI2.1 hwf hI2.2.2) (by omega), Below.grown (belx) hgr (by simp; omega) fun b hb => ?_⟩
  have e := Option.some.inj (show some (w.heap.size + 1) = some b from hb)
  omega
set_option maxHeartbeats 2000000 in
theorem i_PoolBytes {w : World} {cs : List Value} {p : DPool} (h : tPool.R w w.heap.size cs p) (hz : szPool p ≤ 1048576) :
    Calls Try.prog 26 #[.agg cs.toArray] w fun e w' => ∃ A c F, e = .returned (.tuple #[.slice A (fPlB p).length c, .bool (decide (PlOk p))]) ∧ tBy.O w' [.slice A (fPlB p).length c] (fPlB p) F ∧ New w.heap.size F ∧ Below w.heap.size w w' := by
  by_cases hp : PlOk p
  · have HP := Lib.hid (decide_eq_true hp)
    rw [HP.out]
    obtain ⟨A0, n0, c0, A1, n1, c1, rfl, -, -, -, hr0, -, -, -, hr1⟩ := openPool h
    obtain ⟨e0, _, _⟩ := rowR_len hr0
    have hI1 := (slR_ints hr1).1
    have hn0 : n0 ≤ 12 := by have := hp.1.1; omega
    have hn1 : n1 ≤ 60 := by have := hp.1.2; have := hI1.1; omega
    obtain ⟨BH, hBH⟩ : ∃ y, p.1.flatMap heldB = y := ⟨_, rfl⟩
    obtain ⟨BT, hBT⟩ : ∃ y, p.2.flatMap four = y := ⟨_, rfl⟩
    have lBH : BH.length ≤ 996 := by have := hdsB_le hp p.1.length; rw [List.take_length, hBH] at this; exact this
    have lBT : BT.length ≤ 240 := by have := tagsB_le hp p.2.length; rw [List.take_length, hBT] at this; exact this
    obtain ⟨R, hR⟩ : ∃ R, fPlB p = R := ⟨_, rfl⟩
    have HF := Lib.hid (show [(n0 : Int), (n1 : Int)] ++ BH ++ BT = R from by rw [← hR, fPlB_t hp, ← hBH, ← hBT]; unfold plB; rw [e0, hI1.1])
    have HBH := Lib.hid hBH
    have HBT := Lib.hid hBT
    have HPP := Lib.hid hp
    have LBH := Lib.hid lBH
    have LBT := Lib.hid lBT
    rw [hR]
    have c0' : IntKind.u8.wrap (n0 : Int) = (n0 : Int) := IntWalk.u8_in _ (by omega)
    have c1' : IntKind.u8.wrap (n1 : Int) = (n1 : Int) := IntWalk.u8_in _ (by omega)
    have w0' : (Lit.int .u8 (n0 : Int)).wf = true := WalkArith.wf_u8 (by omega)
    have w1' : (Lit.int .u8 (n1 : Int)).wf = true := WalkArith.wf_u8 (by omega)
    clear hp e0 hBH hBT lBH lBT hR
    go_enter Try.func26, Try.ntmps26
    go_wp2_with fail
    refine (i_PoolOk (tPool.reach h ?hB) hz).mono ?_
    case hB => exact (belx)
    rintro e w1 ⟨rfl, hb1⟩
    rw [HP.out]
    have X1 : Box w1 w.heap.size 26 #[.slice A0 n0 c0, .slice A1 n1 c1] := (Box.new _ _ _).below hb1 (by simp)
    have k0 : w1.cell? ⟨w.heap.size, 0, none⟩ = some (.slice A0 n0 c0) := X1.cell 0
    have k1 : w1.cell? ⟨w.heap.size, 1, none⟩ = some (.slice A1 n1 c1) := X1.cell 1
    have hB1 : Below w.heap.size w w1 := bel_trans (belx) hb1
    have hHd : Ints .u8 (w1.alloc (.cells #[.int .u8 (n0 : Int), .int .u8 (n1 : Int)] 5)) (w1.alloc (.cells #[.int .u8 (n0 : Int), .int .u8 (n1 : Int)] 5)).heap.size (some ⟨w1.heap.size, 0, none⟩) 2 [(n0 : Int), (n1 : Int)] := by
      refine ⟨rfl, fun _ => ⟨_, 0, rfl, by simp, fun i hi => ?_⟩, fun x hx => ?_⟩
      · rw [Nat.zero_add, (Box.new w1 5 _).cell]
        rcases (by omega : i = 0 ∨ i = 1) with rfl | rfl <;> rfl
      · simp only [List.mem_cons, List.not_mem_nil, or_false] at hx
        rcases hx with rfl | rfl
        · exact w0'
        · exact w1'
    have X2 := X1.alloc (.cells #[.int .u8 (n0 : Int), .int .u8 (n1 : Int)] 5)
    have d0 := X2.cell 0
    have d1 := X2.cell 1
    clear w0' w1'
    go_wp2_with fail
    go_region_held3 (fun w' => w'.cell? ⟨w.heap.size, 0, none⟩ = some (.slice A0 n0 c0) ∧ w'.cell? ⟨w.heap.size, 1, none⟩ = some (.slice A1 n1 c1)) (first | (exact ⟨d0, d1⟩) | (exact ⟨x0, x1⟩) | (exact ⟨y0, y1⟩) | (exact ⟨z0, z1⟩) | go_keep)
      (first
        | (go_at_call 64; refine (i_joinedHeldB 65 heldB 83 (fun _ _ => rfl) (fun i a w' cs ha hBw hR => i_HdBytes hR (HPP.out.2.1 a (alMem ha))) (fun a ha => Nat.le_of_eq (heldB_len (HPP.out.2.1 a ha))) (by omega) (tHeld.row.reach hr0 (bel_trans hB1 (belx))) (by omega)).mono ?_; rintro e w2 ⟨v2, rfl, hO2, hb2⟩; rw [HBH.out] at hO2; have hs2 : Below w1.heap.size w1 w2 := bel_trans (belx) hb2; have X3 := (Box.drew X2).below hb2 X2.size; have x0 := X3.cell 0; have x1 := X3.cell 1; obtain ⟨A2, m2, e2, rfl, hm2⟩ := hO2.shapeN; have HM2 := Lib.hid hm2; clear hm2)
        | (go_at_call 66; refine (i_joinedIB 67 four 4 (fun _ _ => rfl) (fun i a w' ha hBw => i_four5 a (by have := HPP.out.2.2.1 a (alMem ha); unfold Ok at this; omega)) (fun a _ => Nat.le_of_eq (four_len a)) (by omega) (reach hI1 (bel_trans hB1 (bel_trans hs2 (belx)))) (by omega)).mono ?_; rintro e w3 ⟨v3, rfl, hO3, hb3⟩; rw [HBT.out] at hO3; have hs3 : Below w1.heap.size w1 w3 := bel_trans hs2 hb3; have X4 := X3.below hb3 X3.size; have y0 := X4.cell 0; have y1 := X4.cell 1; obtain ⟨A3, m3, e3, rfl, hm3⟩ := hO3.shapeN; have HM3 := Lib.hid hm3; clear hm3)
        | (go_at_call 63; refine (ic_concat3 (Box.new w3 22 #[.slice (some ⟨w1.heap.size, 0, none⟩) 2 2, .slice A2 m2 e2, .slice A3 m3 e3]) (reach (reach (reach (Ints.drew hHd) hb2) hb3) (belx)) (reach (reach hO2.intsAt.1 hb3) (belx)) (reach hO3.intsAt.1 (belx)) (by omega) (by have := HM2.out; have := LBH.out; omega) (by have := HM3.out; have := LBT.out; omega)).mono ?_; rintro e w4 ⟨v4, rfl, hO4, hb4⟩; rw [HF.out] at hO4; have hs4 : Below w1.heap.size w1 w4 := bel_trans hs3 (bel_trans (belx) hb4); have X5 := (X4.alloc (.cells #[.slice (some ⟨w1.heap.size, 0, none⟩) 2 2, .slice A2 m2 e2, .slice A3 m3 e3] 22)).below hb4 (X4.alloc _).size; have z0 := X5.cell 0; have z1 := X5.cell 1; obtain ⟨A, c, F, rfl, hO5, hN5⟩ := own_slice hO4))
    go_wp2
    go_ret2
    exact ⟨A, c, F, rfl, hO5, hN5.lower (by have := hB1.size; have := hs3.size; simp; omega), bel_trans hB1 hs4⟩
  · have HP := Lib.hid (decide_eq_false hp)
    rw [HP.out]
    obtain ⟨A0, n0, c0, A1, n1, c1, rfl, -, -, -, hr0, -, -, -, hr1⟩ := openPool h
    rw [fPlB_f hp]
    clear hp
    go_enter Try.func26, Try.ntmps26
    go_wp2_with fail
    refine (i_PoolOk (tPool.reach h ?hB) hz).mono ?_
    case hB => exact (belx)
    rintro e w1 ⟨rfl, hb1⟩
    rw [HP.out]
    go_wp2
    go_ret2
    exact ⟨none, 0, [], rfl, nilO, New.nil _, bel_trans (belx) hb1⟩
end Go.Proofs.Ytblcfncjghkegaa
