/-
  LawFiv: texts joined.
-/
import Derived.Test.YtblcfncjghkegaaPGn
import Derived.Test.YtblcfncjghkegaaPGs
import Derived.Test.YtblcfncjghkegaaPGu
namespace Go.Proofs.Ytblcfncjghkegaa
set_option maxRecDepth 100000
set_option linter.unusedVariables false
set_option linter.unusedSimpArgs false
open Go.ChangeShapes Go.WideShapes Go.ChangeAt Go.RowKit
open Fld
theorem l_samePool {w : World} {cs cs' : List Value} {p : DPool} (h : tPool.R w w.heap.size cs p) (h' : tPool.R w w.heap.size cs' p) (hp : PlOk p) :
    Calls Try.prog 11 #[.agg cs.toArray, .agg cs'.toArray] w fun e w' => e = .returned (.bool true) ∧ Below w.heap.size w w' := by
  have hz := plOk_sz hp
  have HP := Lib.hid (decide_eq_true hp)
  have hk := h
  have hk' := h'
  obtain ⟨A0, n0, c0, A1, n1, c1, rfl, -⟩ := openPool h
  obtain ⟨B0, m0, d0, B1, m1, d1, rfl, -⟩ := openPool h'
  have Y0 : Box ((w.alloc (.cells #[.slice A0 n0 c0, .slice A1 n1 c1] 26)).alloc (.cells #[.slice B0 m0 d0, .slice B1 m1 d1] 26)) w.heap.size 26 #[.slice A0 n0 c0, .slice A1 n1 c1] := (Box.new _ _ _).alloc _
  have Y1 : Box ((w.alloc (.cells #[.slice A0 n0 c0, .slice A1 n1 c1] 26)).alloc (.cells #[.slice B0 m0 d0, .slice B1 m1 d1] 26)) (w.heap.size + 1) 26 #[.slice B0 m0 d0, .slice B1 m1 d1] := by simpa using Box.new (w.alloc (.cells #[.slice A0 n0 c0, .slice A1 n1 c1] 26)) 26 #[.slice B0 m0 d0, .slice B1 m1 d1]
  obtain ⟨L, hL⟩ : ∃ L, fPlB p = L := ⟨_, rfl⟩
  have HL := Lib.hid hL
  clear hL h h' hp
  go_enter Try.func11, Try.ntmps11
  go_wp2_with fail
  refine (s_PoolBytes (tPool.reach hk ?hB) hz).mono ?_
  case hB => exact (belx)
  rintro e w1 ⟨E0, e0, rfl, hr1, hb1⟩
  rw [HL.out] at hr1 ⊢
  rw [HP.out]
  have Z1 := Y1.below hb1 Y1.size
  have k0 := Z1.cell 0; have k1 := Z1.cell 1
  have hB1 : Below w.heap.size w w1 := bel_trans (belx) hb1
  obtain ⟨nL, hnL⟩ : ∃ m, L.length = m := ⟨_, rfl⟩
  rw [hnL] at hr1 ⊢
  have HN := Lib.hid hnL
  clear hnL
  go_wp2_with fail
  refine (s_PoolBytes (tPool.reach hk' hB1) hz).mono ?_
  rintro e w2 ⟨E1, e1, rfl, hr2, hb2⟩
  rw [HL.out, HN.out] at hr2 ⊢
  rw [HP.out]
  have hr1 := tBy.reach hr1 hb2
  have hB2 := bel_trans hB1 hb2
  go_wp2_with fail
  refine (l_same (slR_ints hr1).1 (slR_ints hr2).1).mono ?_
  rintro e w' ⟨rfl, rfl⟩
  rw [show decide (L = L) = true from by simp]
  go_wp2_with fail
  go_ret
  exact ⟨rfl, hB2⟩
theorem heldR {w : World} {x y : Int} {A : Option Addr} {n c : Nat} {l : List Int} (h : tBy.R w w.heap.size [.slice A n c] l) (hx : (Lit.int .i64 x).wf = true) (hy : (Lit.int .i64 y).wf = true) : tHeld.R w w.heap.size [.int .i64 x, .int .i64 y, .slice A n c] (x, y, l) := makeHeld (p := (x, y, l)) hx hy h
set_option maxHeartbeats 2000000 in
theorem l_pools (w : World) : Calls Try.prog 12 #[] w fun e w' => e = .returned (.bool true) ∧ Below w.heap.size w w' := by
  obtain ⟨j0, hj0, hyz0, hyz1, hyz2⟩ := info_parts info_by
  have hl80 : (padL [] (List.replicate 80 (0 : Int))).length = 80 := padL_len (by simp) (by simp)
  obtain ⟨cl, hcl⟩ : ∃ cl, padL [] (List.replicate 80 (0 : Int)) = cl := ⟨_, rfl⟩
  rw [hcl] at hl80
  have HF := Lib.hid (show fdum (List.replicate 80 0) = (cl, true) by unfold fdum; rw [if_pos (by simp), hcl])
  have hh1 : HdOk (1, 5, cl) := show HdN 1 5 cl.length from ⟨by omega, by omega, by omega, by omega, hl80⟩
  have hh2 : HdOk (2, 5, cl) := show HdN 2 5 cl.length from ⟨by omega, by omega, by omega, by omega, hl80⟩
  have ok7 : Ok 7 := ⟨by decide, by decide⟩
  have a1 : AdOk plZ (1, 5, cl) 7 := ⟨plZ_ok, hh1, ok7⟩
  have r1 : recN plZ.2 7 = 0 := recN_ok (by simp [plZ]) (by simp [plZ])
  have F1 : fAdm plZ (1, 5, cl) 7 = ([(1, 5, cl)], [7]) := fAdm_ok a1 (by simp [plZ]) r1
  have N1 := Lib.hid (show fAdmN plZ (1, 5, cl) 7 = 0 by rw [fAdmN_no a1 (by simp [plZ]), r1])
  have hp1 : PlOk ([(1, 5, cl)], [7]) := ⟨⟨by simp, by simp⟩, fun x hx => by rw [List.mem_singleton.1 hx]; exact hh1, fun x hx => by rw [List.mem_singleton.1 hx]; exact ok7, by simp⟩
  have a2 : AdOk ([(1, 5, cl)], [7]) (2, 5, cl) 7 := ⟨hp1, hh2, ok7⟩
  have r2 : recN (([(1, 5, cl)], [7]) : DPool).2 7 = -1 := recN_seen (by simp)
  have F2 := Lib.hid (show fAdm ([(1, 5, cl)], [7]) (2, 5, cl) 7 = ([(1, 5, cl)], [7]) from fAdm_no a2 (by rw [r2]; decide))
  have N2 := Lib.hid (show fAdmN ([(1, 5, cl)], [7]) (2, 5, cl) 7 = -1 by rw [fAdmN_no a2 (by simp), r2])
  have Fa := Lib.hid F1
  have HL := Lib.hid hl80
  have Z1 := Lib.hid (plOk_sz hp1)
  clear hcl hh1 hh2 a1 r1 F1 a2 r2 hp1
  go_enter Try.func12, Try.ntmps12
  go_wp2_with (at_make; refine wpList_mk _ rfl (.const (.int .i64 80)) (.const (.int .i64 80)) _ rfl 5 j0 _ Try.underlying22 hj0 hyz0 rfl hyz1 80 rfl rfl (by rw [hyz2]; omega) (by simp only [maxLen]; omega) ?_; intro w1 hrow hb1 hsz)
  have hI1 := (zeros_own hrow (by omega) (Nat.le_refl w.heap.size)).intsAt.1
  refine (i_Dummy hI1 (Nat.le_refl _) (by omega)).mono ?_
  rintro e w2 ⟨v2, rfl, hO2, hb2⟩
  rw [HF.out] at hO2 ⊢
  obtain ⟨Ac, cc, rfl, -⟩ := hO2.shape
  have hR2 := own_R' hO2
  obtain ⟨nc, hnc⟩ : ∃ m, cl.length = m := ⟨_, rfl⟩
  have HNC := Lib.hid hnc
  rw [hnc] at hR2
  have hB2 := hb1.trans (hb2.mono hb1.size)
  have hx2 : Below w2.heap.size w2 (w2.alloc (.cells #[.slice Ac nc cc] 28)) := bel_alloc (Below.refl _ _) _
  have Bc : Box (w2.alloc (.cells #[.slice Ac nc cc] 28)) w2.heap.size 28 #[.slice Ac nc cc] := Box.new _ _ _
  rw [show (cl, true).1 = cl from rfl, hnc]
  clear hnc hsz hrow hI1 hO2
  go_wp2_with fail
  have hR3 := tBy.reach hR2 hx2
  have hB3 := hB2.trans (hx2.mono hB2.size)
  have sH : ∀ x y : Int, szHeld (x, y, cl) ≤ 1048576 := fun x y => by show cl.length ≤ _; have := HL.out; omega
  obtain ⟨wa, hwa⟩ : ∃ wa, w2.alloc (.cells #[.slice Ac nc cc] 28) = wa := ⟨_, rfl⟩
  rw [hwa] at hR3 hB3 Bc ⊢
  clear hwa hx2 hR2 hb1 hb2
  refine (i_Admit (p := plZ) (h := (1, 5, cl)) (tPool.read plzO) (plOk_sz plZ_ok) (heldR hR3 (by decide) (by decide)) (sH 1 5) (by decide)).mono ?_
  rintro e w4 ⟨cs4, F4, rfl, hO4, -, hb4⟩
  rw [N1.out]
  rw [Fa.out] at hO4
  obtain ⟨D0, g0, G0, D1, g1, G1, rfl, -⟩ := openOPool hO4
  have hP4 := tPool.read hO4
  have hR4 := tBy.reach hR3 hb4
  have Bc4 := Bc.below hb4 Bc.size
  have hB4 := hB3.trans (hb4.mono hB3.size)
  have kc := Bc4.cell 0
  have zc := Bc4.size
  rw [show ([((1, 5, cl) : DHeld)] : List DHeld).length = 1 from rfl, show ([7] : List Int).length = 1 from rfl] at hP4 ⊢
  have hx5 : Below w4.heap.size w4 (w4.alloc (.cells #[.slice D0 1 g0, .slice D1 1 g1] 26)) := bel_alloc (Below.refl _ _) _
  have Bp : Box (w4.alloc (.cells #[.slice D0 1 g0, .slice D1 1 g1] 26)) w4.heap.size 26 #[.slice D0 1 g0, .slice D1 1 g1] := Box.new _ _ _
  clear hO4 hR3 Bc hb4
  go_wp2_with fail
  refine (i_Admit (p := ([(1, 5, cl)], [7])) (h := (2, 5, cl)) (tPool.reach hP4 hx5) Z1.out (heldR (tBy.reach hR4 hx5) (by decide) (by decide)) (sH 2 5) (by decide)).mono ?_
  rintro e w6 ⟨cs6, F6, rfl, hO6, -, hb6⟩
  rw [N2.out]
  rw [F2.out] at hO6
  obtain ⟨E0, h0, H0, E1, h1, H1, rfl, -⟩ := openOPool hO6
  rw [show ([((1, 5, cl) : DHeld)] : List DHeld).length = 1 from rfl, show ([7] : List Int).length = 1 from rfl]
  have hB6 := hB4.trans ((hx5.trans (hb6.mono hx5.size)).mono hB4.size)
  go_wp2
  go_ret
  exact ⟨rfl, bel_alloc hB6 _⟩
end Go.Proofs.Ytblcfncjghkegaa
