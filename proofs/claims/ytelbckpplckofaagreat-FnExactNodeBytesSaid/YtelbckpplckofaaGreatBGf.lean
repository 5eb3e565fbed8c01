/-
  NbI, NbL, NbS: texts joined.
-/
import Derived.Test.YtelbckpplckofaaGreatBGc
import Derived.Test.YtelbckpplckofaaGreatBGd
import Derived.Test.YtelbckpplckofaaGreatBGe
import Derived.Test.YtelbckpplckofaaGreatBMPNodeI
import Derived.Test.YtelbckpplckofaaGreatBMPNodeS
import Derived.Deep.Cut
import Derived.Deep.DeepCutAuto
namespace Go.Proofs.YtelbckpplckofaaGreat
set_option maxRecDepth 100000
set_option linter.unusedVariables false
set_option linter.unusedSimpArgs false
open Go.ChangeShapes Go.WideShapes Go.ChangeAt Go.RowKit
open Fld
theorem nbA {k : IntKind} {w : World} {A : Option Addr} {n : Nat} {l : List Int} (h : Ints k w w.heap.size A n l) (o : Obj) : Ints k (w.alloc o) (w.alloc o).heap.size A n l := reach h ((Below.refl _ _).alloc (Nat.le_refl _) o)
theorem nbD {k : IntKind} {w : World} {A : Option Addr} {n : Nat} {l : List Int} (h : Ints k w w.heap.size A n l) : Ints k w.drew w.drew.heap.size A n l := h.drew
theorem nbX {V w' : World} {g : Nat} {t : TypeId} {cs : Array Value} (h : Box V g t cs) (hb : Below V.heap.size V w') : Box w' g t cs := h.below hb h.size
theorem nb1S {k : IntKind} {w : World} {t : TypeId} {x : Int} {g : Nat} (hx : (Lit.int k x).wf = true) (hg : g = w.heap.size) : Ints k (w.alloc (.cells #[.int k x] t)) (w.alloc (.cells #[.int k x] t)).heap.size (some ⟨g, 0, none⟩) 1 [x] := hg ▸ nb1 w t hx
theorem nbN {w : World} {t : TypeId} {cs : Array Value} {g : Nat} (hg : g = w.heap.size) : Box (w.alloc (.cells cs t)) g t cs := hg ▸ Box.new w t cs
theorem nbK2 {w : World} {g : Nat} {t : TypeId} {cs : Array Value} {v2 v3 : Value} (h : Box w g t cs) (h2 : cs[2]? = some v2) (h3 : cs[3]? = some v3) : w.cell? ⟨g, 2, none⟩ = some v2 ∧ w.cell? ⟨g, 3, none⟩ = some v3 := ⟨(h.cell 2).trans h2, (h.cell 3).trans h3⟩
theorem nbK4 {w : World} {g : Nat} {t : TypeId} {cs : Array Value} {v0 v1 v4 v6 : Value} (h : Box w g t cs) (h0 : cs[0]? = some v0) (h1 : cs[1]? = some v1) (h4 : cs[4]? = some v4) (h6 : cs[6]? = some v6) : w.cell? ⟨g, 0, none⟩ = some v0 ∧ w.cell? ⟨g, 1, none⟩ = some v1 ∧ w.cell? ⟨g, 4, none⟩ = some v4 ∧ w.cell? ⟨g, 6, none⟩ = some v6 := ⟨(h.cell 0).trans h0, (h.cell 1).trans h1, (h.cell 4).trans h4, (h.cell 6).trans h6⟩
theorem i_twoBytes {w : World} (x : Int) (h : 0 ≤ x ∧ x ≤ 65535) :
    Calls Tryz.prog 56 #[.int .i64 x] w fun e w' => ∃ v, e = .returned v ∧ Own .u8 5 w' w.heap.size v [x / 256, x % 256] ∧ Below w.heap.size w w' := by
  have y8 : IntKind.u8.wrap (x / 256) = x / 256 := IntWalk.u8_in _ (by omega)
  have z8 : IntKind.u8.wrap x = x % 256 := u8_mod x
  go_enter Tryz.func56, Tryz.ntmps56
  go_wp2
  go_ret
  refine ⟨_, rfl, Own.of (n := 2) ⟨rfl, .inr ⟨w.heap.size, 2, _, rfl, Nat.le_refl _, heap_alloc_new w _, Nat.le_refl _, by simp only [maxLen]; omega, rfl, rfl⟩⟩ ?_, (Below.refl _ _).alloc (Nat.le_refl _) _⟩
  intro u hu
  simp only [List.mem_cons, List.not_mem_nil, or_false] at hu
  rcases hu with rfl | rfl
  · exact WalkArith.wf_u8 (by omega)
  · exact WalkArith.wf_u8 (by omega)
theorem i_PcB {w : World} {cs : List Value} {p : DPiece} (h : tPiece.R w w.heap.size cs p) (hp : PcOk p) :
    Calls Tryz.prog 107 #[.agg cs.toArray] w fun e w' => ∃ v, e = .returned v ∧ Own .u8 5 w' w.heap.size v (pcG p) ∧ Below w.heap.size w w' := by
  obtain ⟨i0, hi0, hz0, hz1, hz2⟩ := info_parts info_cb
  have hz : szPiece p ≤ 1048576 := by have := hp.2.2.2.2.2.1; unfold szPiece; omega
  obtain ⟨L, hL⟩ : ∃ L, fPB p = L := ⟨_, rfl⟩
  have lL : L.length ≤ 23 := by rw [← hL]; exact fPB_le p
  have HG := Lib.hid (show pcG p = (L.length : Int) :: L from by unfold pcG; rw [← hL, fPB_t hp]; rfl)
  have x8 : IntKind.u8.wrap (L.length : Int) = (L.length : Int) := IntWalk.u8_in _ (by omega)
  have w8 : (Lit.int .u8 (L.length : Int)).wf = true := WalkArith.wf_u8 (by omega)
  obtain ⟨A3, n3, c3, rfl, -, -, -, -, -, -, -⟩ := openPiece h
  rw [HG.out]
  go_enter Tryz.func107, Tryz.ntmps107
  go_wp2_with fail
  refine (i_PieceBytes (tPiece.reach h ?hB) hz).mono ?_
  case hB => exact (belx)
  rintro e w1 ⟨A, c, F, rfl, hO, -, hb1⟩
  rw [hL] at hO ⊢
  have hI : Ints .u8 w1 w1.heap.size A L.length L := (slR_ints (tBy.read hO)).1
  have hB1 : Below w.heap.size w w1 := bel_trans (belx) hb1
  have hrow : (w1.alloc (.cells #[.int .u8 (L.length : Int)] 5)).ownsRow w1.heap.size 5 1 (.slice (some ⟨w1.heap.size, 0, none⟩) 1 1) 1 [.int .u8 (L.length : Int)] :=
    ⟨rfl, .inr ⟨w1.heap.size, 1, #[.int .u8 (L.length : Int)], rfl, Nat.le_refl _, heap_alloc_new w1 _, Nat.le_refl _, by simp only [maxLen]; omega, rfl, rfl⟩⟩
  have hsrc : Src (w1.alloc (.cells #[.int .u8 (L.length : Int)] 5)) 1 A L.length (L.map (Value.int .u8)) := Src.of_ints (reach hI (belx))
  go_wp2_with (at_builtin; refine wpList_app _ rfl (.tmp 13) (.tmp 14) _ rfl w1.heap.size 5 i0 _ 1 1 Tryz.underlying32 hi0 hz0 hz1 hz2 rfl (by omega) _ _ _ rfl hrow _ L.length _ (L.map (Value.int .u8)) rfl hsrc (one_ints _ _) (by simp only [maxLen]; omega) (by omega) (by simp; done) ?_; intro v1 w2 hown hgr hat)
  go_ret
  refine ⟨v1, rfl, Own.lower (base := w1.heap.size) (own_appN (l := [(L.length : Int)]) (r := L) hown rfl (fun x hx => by simp only [List.mem_cons, List.not_mem_nil, or_false] at hx; rw [hx]; exact w8) hI.2.2) hB1.size, Below.grown (by exact (belx)) hgr (by have := hB1.size; simp; omega) fun b hb => ?_⟩
  have e := Option.some.inj (show some w1.heap.size = some b from hb)
  have := hB1.size
  omega
theorem i_LtB {w : World} {cs : List Value} {p : DLetter} (h : tLetter.R w w.heap.size cs p) (h1 : 0 ≤ p.1 ∧ p.1 ≤ 255) (h2 : p.2.length ≤ 160) :
    Calls Tryz.prog 58 #[.agg cs.toArray] w fun e w' => ∃ v, e = .returned v ∧ Own .u8 5 w' w.heap.size v (ltG p) ∧ Below w.heap.size w w' := by
  obtain ⟨i0, hi0, hz0, hz1, hz2⟩ := info_parts info_cb
  obtain ⟨A2, n2, c2, rfl, -, -, -, hl2, hr2⟩ := openLetter h
  have hI2 := (slR_ints hr2).1
  have hn2 : n2 ≤ 160 := by omega
  have HG := Lib.hid (show ltG p = [p.1, (n2 : Int)] ++ p.2 from by unfold ltG; rw [hl2]; rfl)
  rw [HG.out]
  obtain ⟨x, hx⟩ : ∃ x, p.1 = x := ⟨_, rfl⟩
  rw [hx] at h1 ⊢
  clear hx hl2 HG h
  have x8 : IntKind.u8.wrap x = x := IntWalk.u8_in _ (by omega)
  have y8 : IntKind.u8.wrap (n2 : Int) = (n2 : Int) := IntWalk.u8_in _ (by omega)
  have hwf : ∀ u ∈ [x, (n2 : Int)], (Lit.int .u8 u).wf = true := by
    intro u hu
    simp only [List.mem_cons, List.not_mem_nil, or_false] at hu
    rcases hu with rfl | rfl
    · exact WalkArith.wf_u8 (by omega)
    · exact WalkArith.wf_u8 (by omega)
  have hrow : Own .u8 5 ((w.alloc (.cells #[.int .i64 x, .slice A2 n2 c2] 98)).alloc (.cells #[.int .u8 x, .int .u8 (n2 : Int)] 5)) (w.heap.size + 1) (.slice (some ⟨w.heap.size + 1, 0, none⟩) 2 2) [x, (n2 : Int)] :=
    Own.of (n := 2) ⟨rfl, .inr ⟨w.heap.size + 1, 2, #[.int .u8 x, .int .u8 (n2 : Int)], rfl, Nat.le_refl _, by simpa using heap_alloc_new (w.alloc (.cells #[.int .i64 x, .slice A2 n2 c2] 98)) (.cells #[.int .u8 x, .int .u8 (n2 : Int)] 5), Nat.le_refl _, by simp only [maxLen]; omega, rfl, rfl⟩⟩ hwf
  have hsrc : Src ((w.alloc (.cells #[.int .i64 x, .slice A2 n2 c2] 98)).alloc (.cells #[.int .u8 x, .int .u8 (n2 : Int)] 5)) 1 A2 n2 (p.2.map (Value.int .u8)) := Src.of_ints (reach hI2 (belx))
  go_enter Tryz.func58, Tryz.ntmps58
  go_wp2_with (at_builtin; refine wpList_app _ rfl (.tmp 10) (.tmp 12) _ rfl (w.heap.size + 1) 5 i0 _ 1 1 Tryz.underlying32 hi0 hz0 hz1 hz2 rfl (by omega) _ _ _ rfl hrow.1 _ n2 c2 (p.2.map (Value.int .u8)) rfl hsrc (one_ints _ _) (by simp only [maxLen, List.length_cons, List.length_nil]; omega) (by simp only [List.length_cons, List.length_nil]; omega) (by simp; done) ?_; intro v1 w1 hown hgr hat)
  go_ret
  refine ⟨v1, rfl, Own.lower (base := w.heap.size + 1) (own_appN (l := [x, (n2 : Int)]) (r := p.2) hown hI2.1 hwf hI2.2.2) (by omega), Below.grown (belx) hgr (by simp; omega) fun b hb => ?_⟩
  have e := Option.some.inj (show some (w.heap.size + 1) = some b from hb)
  omega
set_option maxHeartbeats 4000000 in
theorem i_WhB {w : World} {cs : List Value} {p : DWhole} (h : tWhole.R w w.heap.size cs p) (hp : WhN p) :
    Calls Tryz.prog 55 #[.agg cs.toArray] w fun e w' => ∃ v, e = .returned v ∧ Own .u8 5 w' w.heap.size v (whG p) ∧ Below w.heap.size w w' := by
  obtain ⟨A3, n3, c3, rfl, -, -, -, -, -, hl3, r3⟩ := openWhole h
  obtain ⟨hd, ⟨h1, h2⟩, h3, -⟩ := hp
  have hn3 : n3 ≤ 8 := by
    have hm := List.getElem_mem (l := p.2.2.2) (n := 0) (by omega)
    obtain ⟨k1, -, k3⟩ := h3 _ hm
    unfold PcOk PcN at k1
    omega
  have HP := Lib.hid (fun a (ha : a ∈ p.2.2.2) => (h3 a ha).1)
  obtain ⟨BH, hBH⟩ : ∃ y, p.2.2.2.flatMap pcG = y := ⟨_, rfl⟩
  obtain ⟨R, hRR⟩ : ∃ R, whG p = R := ⟨_, rfl⟩
  have HL := Lib.hid (show BH.length ≤ 192 from by have := flat_le (f := pcG) (l := p.2.2.2) (m := 24) (fun a ha => pcG_le (h3 a ha).1); rw [← hBH]; omega)
  have HG := Lib.hid (show [p.2.2.1 / 256, p.2.2.1 % 256] ++ [(n3 : Int)] ++ BH = R from by rw [← hRR, ← hBH]; unfold whG; rw [hl3]; rfl)
  have HBH := Lib.hid hBH
  rw [hRR]
  clear hBH hRR
  obtain ⟨d, hdd⟩ : ∃ d, p.2.2.1 = d := ⟨_, rfl⟩
  have X0 : Box (w.alloc (.cells #[.int .i64 p.1, .int .i64 p.2.1, .int .i64 p.2.2.1, .slice A3 n3 c3] 93)) w.heap.size 93 #[.int .i64 p.1, .int .i64 p.2.1, .int .i64 p.2.2.1, .slice A3 n3 c3] := Box.new _ _ _
  rw [hdd] at hd X0 HG ⊢
  clear hdd h1 h2 h3 hl3 h
  have x8 : IntKind.u8.wrap (n3 : Int) = (n3 : Int) := IntWalk.u8_in _ (by omega)
  have w8 : (Lit.int .u8 (n3 : Int)).wf = true := WalkArith.wf_u8 (by omega)
  have k2 := X0.cell 2
  have k3 := X0.cell 3
  go_enter Tryz.func55, Tryz.ntmps55
  go_wp2_with fail
  go_region_held3 (fun w' => w'.cell? ⟨w.heap.size, 2, none⟩ = some (.int .i64 d) ∧ w'.cell? ⟨w.heap.size, 3, none⟩ = some (.slice A3 n3 c3))
    ((refine nbK2 (cs := #[.int .i64 p.1, .int .i64 p.2.1, .int .i64 d, .slice A3 n3 c3]) (t := 93) ?_ rfl rfl; repeat (first | (with_reducible exact X0) | (with_reducible refine Box.alloc ?_ _) | (with_reducible refine Box.drew ?_) | (with_reducible refine nbX ?_ hb7) | (with_reducible refine nbX ?_ hb2) | (with_reducible refine nbX ?_ hb3) | (with_reducible refine nbX ?_ hb4) | (with_reducible refine nbX ?_ hb5) | (with_reducible refine nbX ?_ hb6))))
    (first
      | (go_at_call 56; refine (i_twoBytes d hd).mono ?_; rintro e w2 ⟨v2, rfl, hO2, hb2⟩; have hs2 : Below w.heap.size w w2 := bel_trans (belx) hb2; obtain ⟨A2, m2, e2, rfl, hm2⟩ := hO2.shapeN; obtain rfl : m2 = 2 := hm2; have hI2 := hO2.intsAt.1; clear hO2)
      | (go_at_call 106; refine (i_joinedPieceB 107 pcG 24 (fun _ _ => rfl) (fun i a w' cs ha hBw hR => i_PcB hR (HP.out a (alMem ha))) (fun a ha => pcG_le (HP.out a ha)) (by omega) (tPiece.row.reach r3 (bel_trans hs2 (belx))) (by omega)).mono ?_; rintro e w4 ⟨v4, rfl, hO4, hb4⟩; rw [HBH.out] at hO4; have hs4 : Below w.heap.size w w4 := bel_trans (bel_trans hs2 (belx)) hb4; obtain ⟨A4, m4, e4, rfl, hm4⟩ := hO4.shapeN; have hI4 := hO4.intsAt.1; have HM4 := Lib.hid hm4; clear hm4 hO4)
      | (go_at_call 52; refine (ic_concat3 (l := [d / 256, d % 256]) (r := [(n3 : Int)]) (s := BH) (nbN (by first | (with_reducible rfl) | (simp; done))) (by repeat (first | ((with_reducible refine nb1S w8 ?_); (first | (with_reducible rfl) | (simp; done))) | ((with_reducible refine nb1S w9 ?_); (first | (with_reducible rfl) | (simp; done))) | (with_reducible exact hI2) | (with_reducible exact hI3) | (with_reducible exact hI4) | (with_reducible exact hI5) | (with_reducible exact hI6) | (with_reducible refine nbA ?_ _) | (with_reducible refine nbD ?_) | (with_reducible refine reach ?_ hb3) | (with_reducible refine reach ?_ hb4) | (with_reducible refine reach ?_ hb5) | (with_reducible refine reach ?_ hb6) | (with_reducible refine reach ?_ hb2))) (by repeat (first | ((with_reducible refine nb1S w8 ?_); (first | (with_reducible rfl) | (simp; done))) | ((with_reducible refine nb1S w9 ?_); (first | (with_reducible rfl) | (simp; done))) | (with_reducible exact hI2) | (with_reducible exact hI3) | (with_reducible exact hI4) | (with_reducible exact hI5) | (with_reducible exact hI6) | (with_reducible refine nbA ?_ _) | (with_reducible refine nbD ?_) | (with_reducible refine reach ?_ hb3) | (with_reducible refine reach ?_ hb4) | (with_reducible refine reach ?_ hb5) | (with_reducible refine reach ?_ hb6) | (with_reducible refine reach ?_ hb2))) (by repeat (first | ((with_reducible refine nb1S w8 ?_); (first | (with_reducible rfl) | (simp; done))) | ((with_reducible refine nb1S w9 ?_); (first | (with_reducible rfl) | (simp; done))) | (with_reducible exact hI2) | (with_reducible exact hI3) | (with_reducible exact hI4) | (with_reducible exact hI5) | (with_reducible exact hI6) | (with_reducible refine nbA ?_ _) | (with_reducible refine nbD ?_) | (with_reducible refine reach ?_ hb3) | (with_reducible refine reach ?_ hb4) | (with_reducible refine reach ?_ hb5) | (with_reducible refine reach ?_ hb6) | (with_reducible refine reach ?_ hb2))) (by omega) (by omega) (by have := HL.out; have := HM4.out; omega)).mono ?_; rintro e w6 ⟨v6, rfl, hO6, hb6⟩; have hs6 : Below w.heap.size w w6 := bel_trans (bel_trans hs4 (belx)) hb6; replace hO6 := Own.lower hO6 (show w.heap.size ≤ _ from (bel_trans hs4 (belx)).size); rw [HG.out] at hO6))
  all_goals (go_wp2; go_ret; exact ⟨_, rfl, hO6, hs6⟩)
set_option maxHeartbeats 16000000 in
theorem i_NodeBytes {w : World} {cs : List Value} {p : DNode} (h : tNode.R w w.heap.size cs p) (hz : szNode p ≤ 1048576) :
    Calls Tryz.prog 20 #[.agg cs.toArray] w fun e w' => ∃ A c F, e = .returned (.tuple #[.slice A (fNdB p).length c, .bool (decide (NdOk p))]) ∧ tBy.O w' [.slice A (fNdB p).length c] (fNdB p) F ∧ New w.heap.size F ∧ Below w.heap.size w w' := by
  obtain ⟨A2, n2, c2, A3, n3, c3, A4, n4, c4, A5, n5, c5, A6, n6, c6, rfl, -, -, hP, hD, hL⟩ := fopenNode h
  by_cases hp : NdOk p
  · have HP := Lib.hid (decide_eq_true hp)
    rw [HP.out]
    have hW := (prod_two rfl hD).1
    have e4 := (rowR_len hW).1
    have e6 := (rowR_len hL).1
    obtain ⟨l1, l2⟩ := ndG_le hp
    obtain ⟨s1, s2, s3, s4⟩ := ndOk_sz hp
    obtain ⟨hid, hsec, hpl, hdk, hgt⟩ := hp
    have HWH := Lib.hid (fun a (ha : a ∈ p.2.2.2.1.1) => (hdk.2.2.2.2 a ha).1)
    have HLT := Lib.hid (show ∀ a ∈ p.2.2.2.2, (0 ≤ a.1 ∧ a.1 ≤ 255) ∧ a.2.length ≤ 160 from fun a ha => ⟨hdk.2.1 _ (hgt.has ha), hgt.1 a ha⟩)
    have hn4 : n4 ≤ 6 := by have := hdk.1; omega
    have hn6 : n6 ≤ 256 := by omega
    have hzp : szPool p.2.2.1 ≤ 1048576 := by omega
    obtain ⟨PB, hPB⟩ : ∃ y, fPlB p.2.2.1 = y := ⟨_, rfl⟩
    obtain ⟨WB, hWB⟩ : ∃ y, p.2.2.2.1.1.flatMap whG = y := ⟨_, rfl⟩
    obtain ⟨LB, hLB⟩ : ∃ y, p.2.2.2.2.flatMap ltG = y := ⟨_, rfl⟩
    obtain ⟨R, hR⟩ : ∃ R, fNdB p = R := ⟨_, rfl⟩
    have LPB := Lib.hid (show PB.length ≤ 1238 from by rw [← hPB]; exact fPlB_le _)
    have LWB := Lib.hid (show WB.length ≤ 1171 from by unfold dkG at l1; rw [hWB] at l1; simp only [List.length_cons] at l1; omega)
    have LLB := Lib.hid (show LB.length ≤ 41474 from by unfold gtG at l2; rw [hLB] at l2; simp only [List.length_append] at l2; omega)
    have HF := Lib.hid (show [p.1] ++ four p.2.1 ++ PB ++ [(n4 : Int)] ++ WB ++ [(n6 : Int) / 256, (n6 : Int) % 256] ++ LB = R from by
      rw [← hR, fNdB_t ⟨hid, hsec, hpl, hdk, hgt⟩, ← hPB, ← hWB, ← hLB, fPlB_t hpl]; unfold ndG dkG gtG; rw [e4, e6]; simp [List.append_assoc])
    have HWB := Lib.hid hWB
    have HLB := Lib.hid hLB
    have HPB := Lib.hid hPB
    rw [hR]
    clear l1 l2 s1 s2 s3 s4 hWB hLB hPB hR hpl hdk hgt e4 e6
    obtain ⟨x, hx⟩ : ∃ x, p.1 = x := ⟨_, rfl⟩
    obtain ⟨y, hy⟩ : ∃ y, p.2.1 = y := ⟨_, rfl⟩
    rw [hx] at hid HF h ⊢
    rw [hy] at hsec HF h ⊢
    unfold Sec at hsec
    clear hx hy
    have x8 : IntKind.u8.wrap x = x := IntWalk.u8_in _ (by omega)
    have y8 : IntKind.u8.wrap (n4 : Int) = (n4 : Int) := IntWalk.u8_in _ (by omega)
    have w8 : (Lit.int .u8 x).wf = true := WalkArith.wf_u8 (by omega)
    have w9 : (Lit.int .u8 (n4 : Int)).wf = true := WalkArith.wf_u8 (by omega)
    go_enter Tryz.func20, Tryz.ntmps20
    go_wp2_with fail
    refine (i_NodeOk (tNode.reach h ?hB) hz).mono ?_
    case hB => exact (belx)
    rintro e w1 ⟨rfl, hb1⟩
    rw [HP.out]
    have X1 : Box w1 w.heap.size 45 #[.int .i64 x, .int .i64 y, .slice A2 n2 c2, .slice A3 n3 c3, .slice A4 n4 c4, .slice A5 n5 c5, .slice A6 n6 c6] := (Box.new _ _ _).below hb1 (by simp)
    have k2 : w1.cell? ⟨w.heap.size, 2, none⟩ = some (.slice A2 n2 c2) := X1.cell 2
    have k3 : w1.cell? ⟨w.heap.size, 3, none⟩ = some (.slice A3 n3 c3) := X1.cell 3
    have hB1 : Below w.heap.size w w1 := bel_trans (belx) hb1
    clear hb1
    go_wp2_with fail
    refine (i_PoolBytes (tPool.reach hP hB1) hzp).mono ?_
    rintro e w2 ⟨A0, c0, F0, rfl, hO0, -, hb2⟩
    rw [HPB.out] at hO0 ⊢
    have hI2 : Ints .u8 w2 w2.heap.size A0 PB.length PB := (slR_ints (tBy.read hO0)).1
    have X0 := X1.below hb2 X1.size
    have hs2 : Below w.heap.size w w2 := bel_trans hB1 hb2
    clear hO0 hb2 hB1 k2 k3 X1
    go_wp2_with fail
    go_region_held3 (fun w' => w'.cell? ⟨w.heap.size, 0, none⟩ = some (.int .i64 x) ∧ w'.cell? ⟨w.heap.size, 1, none⟩ = some (.int .i64 y) ∧ w'.cell? ⟨w.heap.size, 4, none⟩ = some (.slice A4 n4 c4) ∧ w'.cell? ⟨w.heap.size, 6, none⟩ = some (.slice A6 n6 c6))
      ((refine nbK4 (cs := #[.int .i64 x, .int .i64 y, .slice A2 n2 c2, .slice A3 n3 c3, .slice A4 n4 c4, .slice A5 n5 c5, .slice A6 n6 c6]) (t := 45) ?_ rfl rfl rfl rfl; repeat (first | (with_reducible exact X0) | (with_reducible refine Box.alloc ?_ _) | (with_reducible refine Box.drew ?_) | (with_reducible refine nbX ?_ hb7) | (with_reducible refine nbX ?_ hb2) | (with_reducible refine nbX ?_ hb3) | (with_reducible refine nbX ?_ hb4) | (with_reducible refine nbX ?_ hb5) | (with_reducible refine nbX ?_ hb6))))
      (first
        | (go_at_call 53; refine (i_four5 y (by omega)).mono ?_; rintro e w3 ⟨v3, rfl, hO3, hb3⟩; have hs3 : Below w.heap.size w w3 := bel_trans (bel_trans hs2 (belx)) hb3; obtain ⟨Ax, q3, e3, rfl, hm3⟩ := hO3.shapeN; obtain rfl : q3 = 4 := hm3; have hI3 := hO3.intsAt.1; clear hO3)
        | (go_at_call 54; refine (i_joinedWholeB 55 whG 195 (fun _ _ => rfl) (fun i a w' cs ha hBw hR => i_WhB hR (HWH.out a (alMem ha))) (fun a ha => whG_le (HWH.out a ha)) (by omega) (tWhole.row.reach hW (bel_trans hs3 (belx))) (by omega)).mono ?_; rintro e w4 ⟨v4, rfl, hO4, hb4⟩; rw [HWB.out] at hO4; have hs4 : Below w.heap.size w w4 := bel_trans (bel_trans hs3 (belx)) hb4; obtain ⟨Ay, q4, e4, rfl, hm4⟩ := hO4.shapeN; have hI4 := hO4.intsAt.1; have HM4 := Lib.hid hm4; clear hm4 hO4)
        | (go_at_call 56; refine (i_twoBytes (n6 : Int) (by omega)).mono ?_; rintro e w5 ⟨v5, rfl, hO5, hb5⟩; have hs5 : Below w.heap.size w w5 := bel_trans (bel_trans hs4 (belx)) hb5; obtain ⟨Az, q5, e5, rfl, hm5⟩ := hO5.shapeN; obtain rfl : q5 = 2 := hm5; have hI5 := hO5.intsAt.1; clear hO5)
        | (go_at_call 57; refine (i_joinedLetterB 58 ltG 162 (fun _ _ => rfl) (fun i a w' cs ha hBw hR => i_LtB hR (HLT.out a (alMem ha)).1 (HLT.out a (alMem ha)).2) (fun a ha => ltG_le (HLT.out a ha).2) (by omega) (tLetter.row.reach hL (bel_trans hs5 (belx))) (by omega)).mono ?_; rintro e w6 ⟨v6, rfl, hO6, hb6⟩; rw [HLB.out] at hO6; have hs6 : Below w.heap.size w w6 := bel_trans (bel_trans hs5 (belx)) hb6; obtain ⟨Au, q6, e6, rfl, hm6⟩ := hO6.shapeN; have hI6 := hO6.intsAt.1; have HM6 := Lib.hid hm6; clear hm6 hO6)
        | (go_at_call 52; refine (ic_concat7 (l0 := [x]) (l1 := four y) (l2 := PB) (l3 := [(n4 : Int)]) (l4 := WB) (l5 := [(n6 : Int) / 256, (n6 : Int) % 256]) (l6 := LB) (nbN (by first | (with_reducible rfl) | (simp; done))) (by repeat (first | ((with_reducible refine nb1S w8 ?_); (first | (with_reducible rfl) | (simp; done))) | ((with_reducible refine nb1S w9 ?_); (first | (with_reducible rfl) | (simp; done))) | (with_reducible exact hI2) | (with_reducible exact hI3) | (with_reducible exact hI4) | (with_reducible exact hI5) | (with_reducible exact hI6) | (with_reducible refine nbA ?_ _) | (with_reducible refine nbD ?_) | (with_reducible refine reach ?_ hb3) | (with_reducible refine reach ?_ hb4) | (with_reducible refine reach ?_ hb5) | (with_reducible refine reach ?_ hb6) | (with_reducible refine reach ?_ hb2))) (by repeat (first | ((with_reducible refine nb1S w8 ?_); (first | (with_reducible rfl) | (simp; done))) | ((with_reducible refine nb1S w9 ?_); (first | (with_reducible rfl) | (simp; done))) | (with_reducible exact hI2) | (with_reducible exact hI3) | (with_reducible exact hI4) | (with_reducible exact hI5) | (with_reducible exact hI6) | (with_reducible refine nbA ?_ _) | (with_reducible refine nbD ?_) | (with_reducible refine reach ?_ hb3) | (with_reducible refine reach ?_ hb4) | (with_reducible refine reach ?_ hb5) | (with_reducible refine reach ?_ hb6) | (with_reducible refine reach ?_ hb2))) (by repeat (first | ((with_reducible refine nb1S w8 ?_); (first | (with_reducible rfl) | (simp; done))) | ((with_reducible refine nb1S w9 ?_); (first | (with_reducible rfl) | (simp; done))) | (with_reducible exact hI2) | (with_reducible exact hI3) | (with_reducible exact hI4) | (with_reducible exact hI5) | (with_reducible exact hI6) | (with_reducible refine nbA ?_ _) | (with_reducible refine nbD ?_) | (with_reducible refine reach ?_ hb3) | (with_reducible refine reach ?_ hb4) | (with_reducible refine reach ?_ hb5) | (with_reducible refine reach ?_ hb6) | (with_reducible refine reach ?_ hb2))) (by repeat (first | ((with_reducible refine nb1S w8 ?_); (first | (with_reducible rfl) | (simp; done))) | ((with_reducible refine nb1S w9 ?_); (first | (with_reducible rfl) | (simp; done))) | (with_reducible exact hI2) | (with_reducible exact hI3) | (with_reducible exact hI4) | (with_reducible exact hI5) | (with_reducible exact hI6) | (with_reducible refine nbA ?_ _) | (with_reducible refine nbD ?_) | (with_reducible refine reach ?_ hb3) | (with_reducible refine reach ?_ hb4) | (with_reducible refine reach ?_ hb5) | (with_reducible refine reach ?_ hb6) | (with_reducible refine reach ?_ hb2))) (by repeat (first | ((with_reducible refine nb1S w8 ?_); (first | (with_reducible rfl) | (simp; done))) | ((with_reducible refine nb1S w9 ?_); (first | (with_reducible rfl) | (simp; done))) | (with_reducible exact hI2) | (with_reducible exact hI3) | (with_reducible exact hI4) | (with_reducible exact hI5) | (with_reducible exact hI6) | (with_reducible refine nbA ?_ _) | (with_reducible refine nbD ?_) | (with_reducible refine reach ?_ hb3) | (with_reducible refine reach ?_ hb4) | (with_reducible refine reach ?_ hb5) | (with_reducible refine reach ?_ hb6) | (with_reducible refine reach ?_ hb2))) (by repeat (first | ((with_reducible refine nb1S w8 ?_); (first | (with_reducible rfl) | (simp; done))) | ((with_reducible refine nb1S w9 ?_); (first | (with_reducible rfl) | (simp; done))) | (with_reducible exact hI2) | (with_reducible exact hI3) | (with_reducible exact hI4) | (with_reducible exact hI5) | (with_reducible exact hI6) | (with_reducible refine nbA ?_ _) | (with_reducible refine nbD ?_) | (with_reducible refine reach ?_ hb3) | (with_reducible refine reach ?_ hb4) | (with_reducible refine reach ?_ hb5) | (with_reducible refine reach ?_ hb6) | (with_reducible refine reach ?_ hb2))) (by repeat (first | ((with_reducible refine nb1S w8 ?_); (first | (with_reducible rfl) | (simp; done))) | ((with_reducible refine nb1S w9 ?_); (first | (with_reducible rfl) | (simp; done))) | (with_reducible exact hI2) | (with_reducible exact hI3) | (with_reducible exact hI4) | (with_reducible exact hI5) | (with_reducible exact hI6) | (with_reducible refine nbA ?_ _) | (with_reducible refine nbD ?_) | (with_reducible refine reach ?_ hb3) | (with_reducible refine reach ?_ hb4) | (with_reducible refine reach ?_ hb5) | (with_reducible refine reach ?_ hb6) | (with_reducible refine reach ?_ hb2))) (by omega) (by omega) (by have := LPB.out; omega) (by omega) (by have := LWB.out; have := HM4.out; omega) (by omega) (by have := LLB.out; have := HM6.out; omega)).mono ?_; rintro e w7 ⟨v7, rfl, hO7, hb7⟩; have hs7 : Below w.heap.size w w7 := bel_trans (bel_trans hs6 (belx)) hb7; replace hO7 := Own.lower hO7 (show w.heap.size ≤ _ from (bel_trans hs6 (belx)).size); rw [HF.out] at hO7; obtain ⟨A, c, F, rfl, hO8, hN8⟩ := own_slice hO7))
    all_goals (go_wp2; go_ret2; exact ⟨A, c, F, rfl, hO8, hN8, hs7⟩)
  · have HP := Lib.hid (decide_eq_false hp)
    rw [HP.out, fNdB_f hp]
    clear hp
    go_enter Tryz.func20, Tryz.ntmps20
    go_wp2_with fail
    refine (i_NodeOk (tNode.reach h ?hB) hz).mono ?_
    case hB => exact (belx)
    rintro e w1 ⟨rfl, hb1⟩
    rw [HP.out]
    go_wp2
    go_ret2
    exact ⟨none, 0, [], rfl, nilO, New.nil _, bel_trans (belx) hb1⟩
end Go.Proofs.YtelbckpplckofaaGreat
namespace Go.Proofs.YtelbckpplckofaaGreat
set_option linter.unusedVariables false
theorem fNdB_le (n : DNode) : (fNdB n).length ≤ 60000 := by
  by_cases h : NdOk n
  · rw [fNdB_t h]
    obtain ⟨h1, h2⟩ := ndG_le h
    have h3 := plB_le h.2.2.1
    unfold ndG
    simp only [List.length_append, List.length_cons]
    have h4 : (four n.2.1).length = 4 := rfl
    omega
  · rw [fNdB_f h]; simp
end Go.Proofs.YtelbckpplckofaaGreat
namespace Go.Proofs.YtelbckpplckofaaGreat
set_option maxRecDepth 100000
set_option linter.unusedVariables false
set_option linter.unusedSimpArgs false
open Go.ChangeShapes Go.WideShapes Go.ChangeAt Go.RowKit
open Fld
theorem nsA {k : IntKind} {w : World} {A : Option Addr} {n : Nat} {l : List Int} (h : Ints k w w.heap.size A n l) (o : Obj) : Ints k (w.alloc o) (w.alloc o).heap.size A n l := reach h ((Below.refl _ _).alloc (Nat.le_refl _) o)
theorem nsK {w : World} {g : Nat} {t : TypeId} {cs : Array Value} {v0 v1 v2 v3 : Value} (h : Box w g t cs) (h0 : cs[0]? = some v0) (h1 : cs[1]? = some v1) (h2 : cs[2]? = some v2) (h3 : cs[3]? = some v3) : w.cell? ⟨g, 0, none⟩ = some v0 ∧ w.cell? ⟨g, 1, none⟩ = some v1 ∧ w.cell? ⟨g, 2, none⟩ = some v2 ∧ w.cell? ⟨g, 3, none⟩ = some v3 := ⟨(h.cell 0).trans h0, (h.cell 1).trans h1, (h.cell 2).trans h2, (h.cell 3).trans h3⟩
theorem nsX {V w' : World} {g : Nat} {t : TypeId} {cs : Array Value} (h : Box V g t cs) (hb : Below V.heap.size V w') : Box w' g t cs := h.below hb h.size
set_option maxHeartbeats 16000000 in
theorem s_l6bytes {w : World} {cs : List Value} {p : DNode} (h : tNode.R w w.heap.size cs p) (hp : NdOk p) :
    Calls Tryz.prog 50 #[.agg cs.toArray] w fun e w' => ∃ v, e = .returned v ∧ Own .u8 5 w' w.heap.size v (ndG p) ∧ Below w.heap.size w w' := by
  obtain ⟨i0, hi0, hz0, hz1, hz2⟩ := info_parts info_cb
  obtain ⟨A2, n2, c2, A3, n3, c3, A4, n4, c4, A5, n5, c5, A6, n6, c6, rfl, -, -, hP, hD, hL⟩ := fopenNode h
  have hW := (prod_two rfl hD).1
  have e4 := (rowR_len hW).1
  have e6 := (rowR_len hL).1
  obtain ⟨l1, l2⟩ := ndG_le hp
  obtain ⟨s1, s2, s3, s4⟩ := ndOk_sz hp
  obtain ⟨hid, hsec, hpl, hdk, hgt⟩ := hp
  have HPL := Lib.hid hpl
  have HWH := Lib.hid (fun a (ha : a ∈ p.2.2.2.1.1) => (hdk.2.2.2.2 a ha).1)
  have HLT := Lib.hid (show ∀ a ∈ p.2.2.2.2, (0 ≤ a.1 ∧ a.1 ≤ 255) ∧ a.2.length ≤ 160 from fun a ha => ⟨hdk.2.1 _ (hgt.has ha), hgt.1 a ha⟩)
  have hn4 : n4 ≤ 6 := by have := hdk.1; omega
  have hn6 : n6 ≤ 256 := by omega
  have E4 := Lib.hid e4
  have E6 := Lib.hid e6
  have HLW := Lib.hid (fun j => show ((p.2.2.2.1.1.take j).flatMap whG).length ≤ 1170 from by have := flLe (f := whG) (m := 195) (fun a ha => whG_le (HWH.out a ha)) j (l := p.2.2.2.1.1); omega)
  have HLL := Lib.hid (fun j => show ((p.2.2.2.2.take j).flatMap ltG).length ≤ 41472 from by have := flLe (f := ltG) (m := 162) (fun a ha => ltG_le (HLT.out a ha).2) j (l := p.2.2.2.2); omega)
  have LPB := Lib.hid (plB_le hpl)
  have HF := Lib.hid (show ((([p.1] ++ four p.2.1) ++ plB p.2.2.1) ++ [(n4 : Int)]) ++ p.2.2.2.1.1.flatMap whG ++ [(n6 : Int) / 256, (n6 : Int) % 256] ++ p.2.2.2.2.flatMap ltG = ndG p from by
    unfold ndG dkG gtG; rw [e4, e6]; simp [List.append_assoc])
  have X0 : Box (w.alloc (.cells #[.int .i64 p.1, .int .i64 p.2.1, .slice A2 n2 c2, .slice A3 n3 c3, .slice A4 n4 c4, .slice A5 n5 c5, .slice A6 n6 c6] 45)) w.heap.size 45 #[.int .i64 p.1, .int .i64 p.2.1, .slice A2 n2 c2, .slice A3 n3 c3, .slice A4 n4 c4, .slice A5 n5 c5, .slice A6 n6 c6] := Box.new _ _ _
  have hB0 : Below w.heap.size w (w.alloc (.cells #[.int .i64 p.1, .int .i64 p.2.1, .slice A2 n2 c2, .slice A3 n3 c3, .slice A4 n4 c4, .slice A5 n5 c5, .slice A6 n6 c6] 45)) := (belx)
  clear l1 l2 s1 s2 s3 s4 hpl hdk hgt e4 e6 h
  obtain ⟨x, hx⟩ : ∃ x, p.1 = x := ⟨_, rfl⟩
  obtain ⟨y, hy⟩ : ∃ y, p.2.1 = y := ⟨_, rfl⟩
  rw [hx] at hid HF X0 hB0 ⊢
  rw [hy] at hsec HF X0 hB0 ⊢
  unfold Sec at hsec
  clear hx hy
  have x8 : IntKind.u8.wrap x = x := IntWalk.u8_in _ (by omega)
  have y8 : IntKind.u8.wrap (n4 : Int) = (n4 : Int) := IntWalk.u8_in _ (by omega)
  have z8 : IntKind.u8.wrap ((n6 : Int) / 256) = (n6 : Int) / 256 := IntWalk.u8_in _ (by omega)
  have t8 : IntKind.u8.wrap (n6 : Int) = (n6 : Int) % 256 := u8_mod _
  have w8 : (Lit.int .u8 x).wf = true := WalkArith.wf_u8 (by omega)
  have w9 : (Lit.int .u8 (n4 : Int)).wf = true := WalkArith.wf_u8 (by omega)
  go_enter Tryz.func50, Tryz.ntmps50
  go_wp2_with fail
  obtain ⟨W0, hW0⟩ : ∃ W0, w.alloc (.cells #[.int .i64 x, .int .i64 y, .slice A2 n2 c2, .slice A3 n3 c3, .slice A4 n4 c4, .slice A5 n5 c5, .slice A6 n6 c6] 45) = W0 := ⟨_, rfl⟩
  rw [hW0] at X0 hB0 ⊢
  clear hW0
  have hPr := tPool.reach hP hB0
  have hWr := tWhole.row.reach hW hB0
  have hLr := tLetter.row.reach hL hB0
  have zb := hB0.size
  clear hP hW hL hD
  go_cut [3] (fun v wx => Own .u8 5 wx W0.heap.size v ([x] ++ four y ++ plB p.2.2.1) ∧ Below W0.heap.size W0 wx)
  case first =>
    go_region_held3 (fun w' => w'.cell? ⟨w.heap.size, 0, none⟩ = some (.int .i64 x) ∧ w'.cell? ⟨w.heap.size, 1, none⟩ = some (.int .i64 y) ∧ w'.cell? ⟨w.heap.size, 2, none⟩ = some (.slice A2 n2 c2) ∧ w'.cell? ⟨w.heap.size, 3, none⟩ = some (.slice A3 n3 c3))
      ((refine nsK (cs := #[.int .i64 x, .int .i64 y, .slice A2 n2 c2, .slice A3 n3 c3, .slice A4 n4 c4, .slice A5 n5 c5, .slice A6 n6 c6]) (t := 45) ?_ rfl rfl rfl rfl; repeat (first | (with_reducible exact X0) | (with_reducible refine Box.alloc ?_ _) | (with_reducible refine Box.drew ?_) | (with_reducible refine nsX ?_ hb2) | (with_reducible exact nsX X0 hs4) | (with_reducible exact nsX X0 hs3))))
      (first
        | (go_at_call 100; refine (s_fourG (Own.nil _ _ _ W0.heap.size) (by first | exact Nat.le_refl _ | (simp; done)) (by omega) y (by omega)).mono ?_; rintro e w2 ⟨v2, rfl, hO2, hE2⟩; rw [List.nil_append] at hO2; have hb2 := hE2.below (Nat.le_refl _) (fun b hb => by simp [Value.ownBlock] at hb); have hs2 : Below W0.heap.size W0 w2 := bel_trans (by repeat (first | (with_reducible exact Below.refl _ _) | (with_reducible exact hs2) | (with_reducible exact hs3) | (with_reducible refine bel_alloc ?_ _) | (with_reducible refine bel_drew ?_))) hb2; have zb2 := hs2.size; obtain ⟨Ax, q2, e2, rfl, hm2⟩ := hO2.shapeN; obtain rfl : q2 = 4 := hm2; have hI2 := hO2.intsAt.1; clear hO2 hE2)
        | (refine Own.stepB (k := .u8) (base := W0.heap.size) (V := W0) (l := [x]) (l' := four y) (.tmp 12) (.tmp 15) Tryz.underlying32 hi0 hz0 hz1 (by omega) (by rfl) (by repeat (first | (exact own1 _ (Nat.le_refl _) w8) | (exact own1 _ zb2 w8) | (with_reducible refine Own.drew ?_) | (with_reducible refine Own.below ?_ hb2) | (with_reducible refine Own.alloc ?_ _))) (by rfl) (by repeat (first | (with_reducible exact hI2) | (with_reducible refine nsA ?_ _) | (with_reducible refine Ints.drew ?_))) (by repeat (first | (with_reducible exact Below.refl _ _) | (with_reducible exact hs2) | (with_reducible exact hs3) | (with_reducible refine bel_alloc ?_ _) | (with_reducible refine bel_drew ?_))) (by first | exact zb2 | (simp; done) | (simp; omega)) (Nat.le_refl _) (by simp) ?_; intro v3 w3 hO3 hs3 hE3)
        | (go_at_call 99; obtain ⟨A, n, c, rfl, hn⟩ := hO3.shapeN; have hn' : n = 5 := hn; have zb3 := hs3.size; refine (s_l5bytes hO3 zb3 (by omega) (tPool.keep hPr hs3.block) HPL.out).mono ?_; rintro e w4 ⟨v4, rfl, hO4, hE4⟩; have hs4 : Below W0.heap.size W0 w4 := hs3.trans (hE4.below zb3 (fun b hb => (hO3.block hb).1)); have zb4 := hs4.size))
    all_goals (go_wp2_with fail; go_meet; exact ⟨hO4, hs4⟩)
  case rest =>
  obtain ⟨hO4, hs4⟩ := hcut
  obtain ⟨L4, hL4⟩ : ∃ L, [x] ++ four y ++ plB p.2.2.1 = L := ⟨_, rfl⟩
  rw [hL4] at HF hO4
  have l4 : L4.length ≤ 1243 := by rw [← hL4]; have := LPB.out; simp only [List.length_append]; show 1 + 4 + _ ≤ _; omega
  clear hL4
  have z4 := hs4.size
  have X4 := X0.below hs4 X0.size
  have k4 : wc.cell? ⟨w.heap.size, 4, none⟩ = some (.slice A4 n4 c4) := X4.cell 4
  go_wp2_with (at_builtin; refine Own.appB (V := W0) (.tmp 20) (.tmp 26) Tryz.underlying32 hi0 hz0 hz1 (by omega) (hO4.alloc _) (nb1 _ _ w9) (bel_alloc hs4 _) (by simp; omega) (Nat.le_refl _) (by omega) ?_; intro v5 w5 hO5 hs5 hE5)
  clear hO4 hs4 hE5 X4 k4 z4
  obtain ⟨L5, hL5⟩ : ∃ L, L4 ++ [(n4 : Int)] = L := ⟨_, rfl⟩
  rw [hL5] at HF hO5
  have l5 : L5.length ≤ 1244 := by rw [← hL5]; simp only [List.length_append, List.length_cons, List.length_nil]; omega
  clear hL5 l4
  go_wp2_with fail
  go_loopw [3, 4] (fun v i wr => ∃ j : Nat, j ≤ n4 ∧ i = .int .i64 j ∧ Own .u8 5 wr W0.heap.size v (L5 ++ (p.2.2.2.1.1.take j).flatMap whG) ∧ Below W0.heap.size W0 wr) (fun _ i _ => n4 - (RowKit.intOf i).toNat)
  case atStart => exact ⟨0, by omega, rfl, by simpa using hO5, hs5⟩
  case round =>
    clear hO5 hs5
    obtain ⟨j, hj, rfl, hO, hB⟩ := hrel
    have zr := hB.size
    have X := X0.below hB X0.size
    have k4 : wr.cell? ⟨w.heap.size, 4, none⟩ = some (.slice A4 n4 c4) := X.cell 4
    have k6 : wr.cell? ⟨w.heap.size, 6, none⟩ = some (.slice A6 n6 c6) := X.cell 6
    by_cases hlt : j < n4
    · obtain ⟨a, b', off, es, hl2, rfl, hb, hes, hR⟩ := rowR_at (K := 4) hWr hlt rfl
      have HS := Lib.hid (flS (f := whG) hl2)
      have HJ := Lib.hid (HLW.out j)
      have hwa := HWH.out a (alMem hl2)
      obtain ⟨bs, hbs⟩ : ∃ bs, (p.2.2.2.1.1.take j).flatMap whG = bs := ⟨_, rfl⟩
      rw [hbs] at hO HS HJ
      clear hl2 hbs
      obtain ⟨aA, an, ac, rfl, -, -, -, -, -, hal, har⟩ := openWhole hR
      obtain ⟨⟨d1, d2⟩, ⟨g1, g2⟩, g3, -⟩ := hwa
      have han : an ≤ 8 := by
        have hm := List.getElem_mem (l := a.2.2.2) (n := 0) (by omega)
        obtain ⟨q1, -, q3⟩ := g3 _ hm
        unfold PcOk PcN at q1
        omega
      have HPC := Lib.hid (fun q (hq : q ∈ a.2.2.2) => (g3 q hq).1)
      have HAL := Lib.hid hal
      have HWG := Lib.hid (show whG a = [a.2.2.1 / 256, a.2.2.1 % 256, (an : Int)] ++ a.2.2.2.flatMap pcG from by unfold whG; rw [hal])
      have HKL := Lib.hid (fun k => show ((a.2.2.2.take k).flatMap pcG).length ≤ 192 from by have := flLe (f := pcG) (m := 24) (fun q hq => pcG_le (HPC.out q hq)) k (l := a.2.2.2); omega)
      clear g1 g2 g3 hal
      have e0 : wr.cell? ⟨b', off + j * 4, none⟩ = some (.int .i64 a.1) := cell_at hB hb (hes 0 (by omega))
      have e1 : wr.cell? ⟨b', off + j * 4 + 1, none⟩ = some (.int .i64 a.2.1) := cell_at hB hb (hes 1 (by omega))
      have e2 : wr.cell? ⟨b', off + j * 4 + 2, none⟩ = some (.int .i64 a.2.2.1) := cell_at hB hb (hes 2 (by omega))
      have e3 : wr.cell? ⟨b', off + j * 4 + 3, none⟩ = some (.slice aA an ac) := cell_at hB hb (hes 3 (by omega))
      clear hes hR
      obtain ⟨f0, hf0⟩ : ∃ f, a.1 = f := ⟨_, rfl⟩
      obtain ⟨f1, hf1⟩ : ∃ f, a.2.1 = f := ⟨_, rfl⟩
      obtain ⟨d, hd⟩ : ∃ f, a.2.2.1 = f := ⟨_, rfl⟩
      rw [hf0] at e0
      rw [hf1] at e1
      rw [hd] at e2 d1 d2 HWG
      clear hf0 hf1 hd
      have j1 : (j : Int) < (n4 : Int) := by omega
      have u8 : IntKind.u8.wrap (d / 256) = d / 256 := IntWalk.u8_in _ (by omega)
      have v8 : IntKind.u8.wrap d = d % 256 := u8_mod d
      have s8 : IntKind.u8.wrap (an : Int) = (an : Int) := IntWalk.u8_in _ (by omega)
      have Y0 : Box (wr.alloc (.cells #[.int .i64 f0, .int .i64 f1, .int .i64 d, .slice aA an ac] 93)) wr.heap.size 93 #[.int .i64 f0, .int .i64 f1, .int .i64 d, .slice aA an ac] := Box.new _ _ _
      obtain ⟨vo, rfl⟩ : ∃ y, y = u3 := ⟨_, rfl⟩
      obtain ⟨WO, rfl⟩ : ∃ y, y = wr := ⟨_, rfl⟩
      have hnv : vo.ownBlock ≠ some WO.heap.size := fun e => by have := (hO.block e).2; omega
      have lL : (L5 ++ bs).length ≤ 2414 := by rw [List.length_append]; have := HJ.out; omega
      obtain ⟨L6, hL6⟩ : ∃ L, L5 ++ bs = L := ⟨_, rfl⟩
      rw [hL6] at hO lL
      have HL6 := Lib.hid hL6
      clear hL6
      have hN7 : Ints .u8 ((WO.alloc (.cells #[.int .i64 f0, .int .i64 f1, .int .i64 d, .slice aA an ac] 93)).alloc (.cells #[.int .u8 (d / 256), .int .u8 (d % 256), .int .u8 (an : Int)] 5)) ((WO.alloc (.cells #[.int .i64 f0, .int .i64 f1, .int .i64 d, .slice aA an ac] 93)).alloc (.cells #[.int .u8 (d / 256), .int .u8 (d % 256), .int .u8 (an : Int)] 5)).heap.size (some ⟨WO.heap.size + 1, 0, none⟩) 3 [d / 256, d % 256, (an : Int)] := by simpa using ints3 (WO.alloc (.cells #[.int .i64 f0, .int .i64 f1, .int .i64 d, .slice aA an ac] 93)) 5 (a := d / 256) (b := d % 256) (c := (an : Int)) (WalkArith.wf_u8 (by omega)) (WalkArith.wf_u8 (by omega)) (WalkArith.wf_u8 (by omega))
      go_wp2_with (at_builtin; refine Own.appB (V := W0) (.tmp 42) (.tmp 54) Tryz.underlying32 hi0 hz0 hz1 (by omega) ((hO.alloc _).alloc _) hN7 (bel_alloc (bel_alloc hB _) _) (by simp; omega) (Nat.le_refl _) (by omega) ?_; intro v7 w7 hO7 hs7 hE7)
      have hE7' : Ext (WO.alloc (.cells #[.int .i64 f0, .int .i64 f1, .int .i64 d, .slice aA an ac] 93)) vo w7 v7 := (Ext.of (belx)).trans hE7
      obtain ⟨L7, hL7⟩ : ∃ L, L6 ++ [d / 256, d % 256, (an : Int)] = L := ⟨_, rfl⟩
      rw [hL7] at hO7
      have l7 : L7.length ≤ 2417 := by rw [← hL7]; simp only [List.length_append, List.length_cons, List.length_nil]; omega
      have HL7 := Lib.hid hL7
      clear hL7 hE7 hO lL k4 e0 e1 e2 e3
      go_wp2_with fail
      go_loopw [3, 6] (fun u i wr => ∃ k : Nat, k ≤ an ∧ i = .int .i64 k ∧ Own .u8 5 wr W0.heap.size u (L7 ++ (a.2.2.2.take k).flatMap pcG) ∧ Below W0.heap.size W0 wr ∧ Ext (WO.alloc (.cells #[.int .i64 f0, .int .i64 f1, .int .i64 d, .slice aA an ac] 93)) vo wr u) (fun _ i _ => an - (RowKit.intOf i).toNat)
      case atStart => exact ⟨0, by omega, rfl, by simpa using hO7, hs7, hE7'⟩
      case round =>
        clear hO7 hs7 hE7'
        obtain ⟨k, hk, rfl, hO, hBq, hE⟩ := hrel
        have Y := hE.box Y0 hnv
        have zq := hBq.size
        have y3 : wr.cell? ⟨WO.heap.size, 3, none⟩ = some (.slice aA an ac) := Y.cell 3
        by_cases hlk : k < an
        · obtain ⟨q, b2, off2, es, hl2, rfl, hb2, hes, hR⟩ := rowR_at (K := 4) har hlk rfl
          have HS2 := Lib.hid (flS (f := pcG) hl2)
          have HJ2 := Lib.hid (HKL.out k)
          have hpc := HPC.out q (alMem hl2)
          obtain ⟨cs2, hcs2⟩ : ∃ bs, (a.2.2.2.take k).flatMap pcG = bs := ⟨_, rfl⟩
          rw [hcs2] at hO HS2 HJ2
          clear hl2 hcs2
          obtain ⟨qA, qn, qc, rfl, -, -, -, -, -, hql, hqr⟩ := openPiece hR
          have hIq := reach (slR_ints hqr).1 hBq
          have hql2 : qn ≤ 20 := by have := hpc.2.2.2.2.2.1; omega
          obtain ⟨h0, h1, h2, h3, h4, -⟩ := hpc
          have c0 : wr.cell? ⟨b2, off2 + k * 4, none⟩ = some (.int .i64 q.1) := cell_at hBq hb2 (hes 0 (by omega))
          have c1 : wr.cell? ⟨b2, off2 + k * 4 + 1, none⟩ = some (.int .i64 q.2.1) := cell_at hBq hb2 (hes 1 (by omega))
          have c2' : wr.cell? ⟨b2, off2 + k * 4 + 2, none⟩ = some (.int .i64 q.2.2.1) := cell_at hBq hb2 (hes 2 (by omega))
          have c3' : wr.cell? ⟨b2, off2 + k * 4 + 3, none⟩ = some (.slice qA qn qc) := cell_at hBq hb2 (hes 3 (by omega))
          clear hes hR hqr
          have HPG := Lib.hid (show pcG q = [((pcL q).length : Int)] ++ pcL q from rfl)
          have lq : (pcL q).length = qn + 3 := by show q.2.2.2.length + 1 + 1 + 1 = _; omega
          have r1 : q.2.1 ≤ 255 := by omega
          have r2 : 0 ≤ q.2.2.1 := by omega
          have r3 : q.2.2.1 ≤ 255 := by omega
          have k1 : (k : Int) < (an : Int) := by omega
          clear hql
          go_wp2_with fail
          refine (s_l4bytes ⟨h0, h1⟩ ⟨h3, r1⟩ ⟨r2, r3⟩ (by omega) hIq).mono ?_
          rintro e w8 ⟨v8', rfl, hO8, hb8⟩
          change Own .u8 5 w8 wr.heap.size v8' (pcL q) at hO8
          obtain ⟨LQ, hLQ⟩ : ∃ L, pcL q = L := ⟨_, rfl⟩
          rw [hLQ] at hO8 HPG lq
          clear hLQ
          obtain ⟨A8, n8, c8, rfl, hn8⟩ := hO8.shapeN
          have ln8 : n8 ≤ 23 := by omega
          have HN8 := Lib.hid hn8
          clear hn8 lq
          have p8 : IntKind.u8.wrap (n8 : Int) = (n8 : Int) := IntWalk.u8_in _ (by omega)
          have wp8 : (Lit.int .u8 (n8 : Int)).wf = true := WalkArith.wf_u8 (by omega)
          have z8' := hb8.size
          have lb : (L7 ++ cs2).length ≤ 2609 := by rw [List.length_append]; have := HJ2.out; omega
          obtain ⟨L8, hL8⟩ : ∃ L, L7 ++ cs2 = L := ⟨_, rfl⟩
          rw [hL8] at hO lb
          have HL8 := Lib.hid hL8
          have hOw := hO.below hb8
          have hBw : Below W0.heap.size W0 w8 := hBq.trans (hb8.mono zq)
          have hEw := hE.trans (Ext.of hb8)
          have hbk : ∀ b, u3.ownBlock = some b → b < wr.heap.size := fun b hb => (hO.block hb).2
          clear hL8 hO hE hBq
          go_wp2_with (first
            | (at_builtin; refine Own.appB (V := W0) (.tmp 69) (.tmp 73) Tryz.underlying32 hi0 hz0 hz1 (by omega) (hOw.alloc _) (nb1 _ _ wp8) (bel_alloc hBw _) (by simp; omega) (Nat.le_refl _) (by omega) ?_; intro v9 w9 hO9 hs9 hE9; have hO8' := Own.aside (hO8.alloc _) hE9 hbk; have z9 := hs9.size; have zz9 := hE9.1.size; clear hO8)
            | (at_builtin; refine Own.appB (V := W0) (.tmp 74) (.tmp 75) Tryz.underlying32 hi0 hz0 hz1 (by omega) hO9 hO8'.intsAt.1 hs9 z9 (Nat.le_refl _) (by simp only [List.length_append, List.length_cons, List.length_nil]; omega) ?_; intro v10 w10 hO10 hs10 hE10))
          go_roundw
          case rel => exact ⟨k + 1, by omega, by go_num, by rw [HS2.out, HPG.out, ← List.append_assoc, HL8.out, ← List.append_assoc, ← HN8.out]; exact hO10, hs10, hEw.trans ((Ext.of (belx)).trans (hE9.trans hE10))⟩
          case measure => simp [RowKit.intOf]; omega
        · obtain rfl : an = k := by omega
          have HA := Lib.hid (show a.2.2.2.take an = a.2.2.2 from List.take_of_length_le (Nat.le_of_eq HAL.out))
          rw [HA.out] at hO
          go_wp2
          go_roundw
          case rel => exact ⟨j + 1, by omega, by go_num, by rw [HS.out, HWG.out, ← List.append_assoc, HL6.out, ← List.append_assoc, HL7.out]; exact hO, hBq⟩
          case measure => simp [RowKit.intOf]; omega
    · obtain rfl : n4 = j := by omega
      have HA := Lib.hid (show p.2.2.2.1.1.take n4 = p.2.2.2.1.1 from List.take_of_length_le (Nat.le_of_eq E4.out))
      have HJ := Lib.hid (HLW.out n4)
      rw [HA.out] at hO HJ
      have lL : (L5 ++ p.2.2.2.1.1.flatMap whG).length ≤ 2414 := by rw [List.length_append]; have := HJ.out; omega
      obtain ⟨L6, hL6⟩ : ∃ L, L5 ++ p.2.2.2.1.1.flatMap whG = L := ⟨_, rfl⟩
      rw [hL6] at hO lL HF
      clear hL6
      go_wp2_with (at_builtin; refine Own.appB (V := W0) (.tmp 77) (.tmp 87) Tryz.underlying32 hi0 hz0 hz1 (by omega) (hO.alloc _) (nb2 _ _ (WalkArith.wf_u8 (by omega)) (WalkArith.wf_u8 (by omega))) (bel_alloc hB _) (by simp; omega) (Nat.le_refl _) (by omega) ?_; intro v7 w7 hO7 hs7 hE7)
      obtain ⟨L7, hL7⟩ : ∃ L, L6 ++ [(n6 : Int) / 256, (n6 : Int) % 256] = L := ⟨_, rfl⟩
      rw [hL7] at hO7 HF
      have l7 : L7.length ≤ 2416 := by rw [← hL7]; simp only [List.length_append, List.length_cons, List.length_nil]; omega
      clear hL7 hE7 hO hB k4 k6 X lL zr
      go_wp2_with fail
      go_loopw [3, 8] (fun v i wr => ∃ j : Nat, j ≤ n6 ∧ i = .int .i64 j ∧ Own .u8 5 wr W0.heap.size v (L7 ++ (p.2.2.2.2.take j).flatMap ltG) ∧ Below W0.heap.size W0 wr) (fun _ i _ => n6 - (RowKit.intOf i).toNat)
      case atStart => exact ⟨0, by omega, rfl, by simpa using hO7, hs7⟩
      case round =>
        clear hO7 hs7
        obtain ⟨j, hj, rfl, hO, hB⟩ := hrel
        have zr := hB.size
        have X := X0.below hB X0.size
        have k6 : wr.cell? ⟨w.heap.size, 6, none⟩ = some (.slice A6 n6 c6) := X.cell 6
        by_cases hlt : j < n6
        · obtain ⟨a, b', off, es, hl2, rfl, hb, hes, hR⟩ := rowR_at (K := 2) hLr hlt rfl
          have HS := Lib.hid (flS (f := ltG) hl2)
          have HJ := Lib.hid (HLL.out j)
          have hla := HLT.out a (alMem hl2)
          obtain ⟨bs, hbs⟩ : ∃ bs, (p.2.2.2.2.take j).flatMap ltG = bs := ⟨_, rfl⟩
          rw [hbs] at hO HS HJ
          clear hl2 hbs
          obtain ⟨aA, an, ac, rfl, -, -, -, hal, har⟩ := openLetter hR
          have HWG := Lib.hid (show ltG a = [a.1, (an : Int)] ++ a.2 from by unfold ltG; rw [hal]; rfl)
          have hIa := (slR_ints har).1
          have e0 : W0.cell? ⟨b', off + j * 2, none⟩ = some (.int .i64 a.1) := hes 0 (by omega)
          have e1 : W0.cell? ⟨b', off + j * 2 + 1, none⟩ = some (.slice aA an ac) := hes 1 (by omega)
          clear hes hR har
          obtain ⟨f, hf⟩ : ∃ f, a.1 = f := ⟨_, rfl⟩
          rw [hf] at e0 hla HWG
          clear hf
          have hE0 := Lib.hid e0
          have hE1 := Lib.hid e1
          clear e0 e1
          obtain ⟨⟨f0, f1⟩, al⟩ := hla
          have han : an ≤ 160 := by omega
          have j1 : (j : Int) < (n6 : Int) := by omega
          have x8' : IntKind.u8.wrap f = f := IntWalk.u8_in _ (by omega)
          have y8' : IntKind.u8.wrap (an : Int) = (an : Int) := IntWalk.u8_in _ (by omega)
          have lL : (L7 ++ bs).length ≤ 43888 := by rw [List.length_append]; have := HJ.out; omega
          obtain ⟨L8, hL8⟩ : ∃ L, L7 ++ bs = L := ⟨_, rfl⟩
          rw [hL8] at hO lL
          have HL8 := Lib.hid hL8
          clear hL8 hal
          go_wp2_with fail
          go_region_held3 (fun w' => w'.cell? ⟨w.heap.size, 6, none⟩ = some (.slice (some ⟨b', off, none⟩) n6 c6) ∧ w'.cell? ⟨b', off + j * 2, none⟩ = some (.int .i64 f) ∧ w'.cell? ⟨b', off + j * 2 + 1, none⟩ = some (.slice aA an ac))
            (first | (exact ⟨k6, bcell hB hb hE0.out, bcell hB hb hE1.out⟩) | (exact ⟨(X0.below hs2 X0.size).cell 6, bcell hs2 hb hE0.out, bcell hs2 hb hE1.out⟩) | (exact ⟨(X0.below hs3 X0.size).cell 6, bcell hs3 hb hE0.out, bcell hs3 hb hE1.out⟩) | (exact ⟨(X0.below (bel_alloc (bel_drew hB) _) X0.size).cell 6, bcell (bel_alloc (bel_drew hB) _) hb hE0.out, bcell (bel_alloc (bel_drew hB) _) hb hE1.out⟩) | (exact ⟨(X0.below (bel_drew (bel_alloc hB _)) X0.size).cell 6, bcell (bel_drew (bel_alloc hB _)) hb hE0.out, bcell (bel_drew (bel_alloc hB _)) hb hE1.out⟩) | (exact ⟨(X0.below (bel_alloc hB _) X0.size).cell 6, bcell (bel_alloc hB _) hb hE0.out, bcell (bel_alloc hB _) hb hE1.out⟩) | (exact ⟨(X0.below (bel_drew hB) X0.size).cell 6, bcell (bel_drew hB) hb hE0.out, bcell (bel_drew hB) hb hE1.out⟩))
            (first
              | (refine Own.stepB (k := .u8) (base := W0.heap.size) (V := W0) (l := L8) (l' := [f, (an : Int)]) (.tmp 96) (.tmp 112) Tryz.underlying32 hi0 hz0 hz1 (by omega) (by rfl) (by first | exact (hO.alloc _).drew | exact (hO.drew).alloc _ | exact hO.alloc _) (by rfl) (by first | exact nb2 _ _ (WalkArith.wf_u8 (by omega)) (WalkArith.wf_u8 (by omega)) | exact (nb2 wr _ (WalkArith.wf_u8 (by omega)) (WalkArith.wf_u8 (by omega))).drew) (belx) (by first | (simp; omega) | (show _ ≤ (World.alloc _ _).heap.size; simp; omega)) (Nat.le_refl _) (by omega) ?_; intro v2 w2 hO2 hs2 hE2)
              | (refine Own.stepB (k := .u8) (base := W0.heap.size) (V := W0) (l := L8 ++ [f, (an : Int)]) (l' := a.2) (.tmp 113) (.tmp 119) Tryz.underlying32 hi0 hz0 hz1 (by omega) (by rfl) hO2 (by rfl) (reach hIa hs2) hs2 hs2.size (Nat.le_refl _) (by simp only [List.length_append, List.length_cons, List.length_nil]; omega) ?_; intro v3 w3 hO3 hs3 hE3))
          go_wp2
          go_roundw
          case rel => exact ⟨j + 1, by omega, by go_num, by rw [HS.out, HWG.out, ← List.append_assoc, HL8.out, ← List.append_assoc]; exact hO3, hs3⟩
          case measure => simp [RowKit.intOf]; omega
        · obtain rfl : n6 = j := by omega
          have HA := Lib.hid (show p.2.2.2.2.take n6 = p.2.2.2.2 from List.take_of_length_le (Nat.le_of_eq E6.out))
          rw [HA.out, HF.out] at hO
          go_wp2
          go_ret
          exact ⟨_, rfl, hO.lower zb, bel_trans hB0 hB⟩
theorem s_NodeBytes {w : World} {cs : List Value} {p : DNode} (h : tNode.R w w.heap.size cs p) (hz : szNode p ≤ 1048576) :
    Calls Tryz.prog 19 #[.agg cs.toArray] w fun e w' => ∃ A c, e = .returned (.tuple #[.slice A (fNdB p).length c, .bool (decide (NdOk p))]) ∧ tBy.R w' w'.heap.size [.slice A (fNdB p).length c] (fNdB p) ∧ Below w.heap.size w w' := by
  by_cases hp : NdOk p
  · have HP := Lib.hid (decide_eq_true hp)
    rw [HP.out]
    have HF := Lib.hid (fNdB_t hp)
    have HPP := Lib.hid hp
    obtain ⟨A2, n2, c2, A3, n3, c3, A4, n4, c4, A5, n5, c5, A6, n6, c6, rfl, -, -, -, -, -⟩ := fopenNode h
    clear hp
    go_enter Tryz.func19, Tryz.ntmps19
    go_wp2_with fail
    refine (s_NodeOk (tNode.reach h ?hB) hz).mono ?_
    case hB => exact (belx)
    rintro e w1 ⟨rfl, hb1⟩
    rw [HP.out]
    have X1 : Box w1 w.heap.size 45 #[.int .i64 p.1, .int .i64 p.2.1, .slice A2 n2 c2, .slice A3 n3 c3, .slice A4 n4 c4, .slice A5 n5 c5, .slice A6 n6 c6] := (Box.new _ _ _).below hb1 (by simp)
    have k0 : w1.cell? ⟨w.heap.size, 0, none⟩ = some (.int .i64 p.1) := X1.cell 0
    have k1 : w1.cell? ⟨w.heap.size, 1, none⟩ = some (.int .i64 p.2.1) := X1.cell 1
    have k2 : w1.cell? ⟨w.heap.size, 2, none⟩ = some (.slice A2 n2 c2) := X1.cell 2
    have k3 : w1.cell? ⟨w.heap.size, 3, none⟩ = some (.slice A3 n3 c3) := X1.cell 3
    have k4 : w1.cell? ⟨w.heap.size, 4, none⟩ = some (.slice A4 n4 c4) := X1.cell 4
    have k5 : w1.cell? ⟨w.heap.size, 5, none⟩ = some (.slice A5 n5 c5) := X1.cell 5
    have k6 : w1.cell? ⟨w.heap.size, 6, none⟩ = some (.slice A6 n6 c6) := X1.cell 6
    have hB1 : Below w.heap.size w w1 := bel_trans (belx) hb1
    go_wp2_with fail
    refine (s_l6bytes (tNode.reach h hB1) HPP.out).mono ?_
    rintro e w2 ⟨v, rfl, hO, hB2⟩
    obtain ⟨A, c, F, rfl, hO2, _⟩ := own_slice hO
    rw [← HF.out] at hO2 ⊢
    go_wp2
    go_ret2
    exact ⟨A, c, rfl, tBy.read hO2, bel_trans hB1 hB2⟩
  · have HP := Lib.hid (decide_eq_false hp)
    rw [HP.out]
    obtain ⟨A2, n2, c2, A3, n3, c3, A4, n4, c4, A5, n5, c5, A6, n6, c6, rfl, -, -, -, -, -⟩ := fopenNode h
    rw [fNdB_f hp]
    clear hp
    go_enter Tryz.func19, Tryz.ntmps19
    go_wp2_with fail
    refine (s_NodeOk (tNode.reach h ?hB) hz).mono ?_
    case hB => exact (belx)
    rintro e w1 ⟨rfl, hb1⟩
    rw [HP.out]
    go_wp2
    go_ret2
    exact ⟨none, 0, rfl, nilR, bel_trans (belx) hb1⟩
end Go.Proofs.YtelbckpplckofaaGreat
