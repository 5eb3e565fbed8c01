/-
  LawThr: texts joined.
-/
import Derived.Test.YtnfmjgldcnokbaaKGo
import Derived.Test.YtnfmjgldcnokbaaKGq
import Derived.Test.YtnfmjgldcnokbaaKGu
import Derived.Test.YtnfmjgldcnokbaaKGv
namespace Go.Proofs.Ytnfmjgldcnokbaa
set_option maxRecDepth 100000
set_option linter.unusedVariables false
set_option linter.unusedSimpArgs false
open Go.ChangeShapes Go.WideShapes Go.ChangeAt Go.RowKit
open Fld
def ndT (seed : Int) (j : Nat) : List Int := (List.range j).map fun i : Nat => 1000 + seed * 17 + (i : Int) * 7919
def ndQ (seed : Int) (j : Nat) : List Int := (ndT seed j).map fun s => powP 7 s.toNat
theorem ndT_sn (seed : Int) (j : Nat) : ndT seed (j + 1) = ndT seed j ++ [1000 + seed * 17 + (j : Int) * 7919] := by simp [ndT, List.range_succ]
theorem ndQ_sn (seed : Int) (j : Nat) : ndQ seed (j + 1) = ndQ seed j ++ [powP 7 (1000 + seed * 17 + (j : Int) * 7919).toNat] := by simp [ndQ, ndT_sn]
theorem ndT_len (seed : Int) (j : Nat) : (ndT seed j).length = j := by simp [ndT]
theorem ndQ_len (seed : Int) (j : Nat) : (ndQ seed j).length = j := by simp [ndQ, ndT]
set_option maxHeartbeats 2000000 in
theorem l_nodes {w : World} {seed : Int} (h0 : 0 ≤ seed) (h1 : seed ≤ 1000) :
    Calls Try.prog 9 #[.int .i64 seed] w fun e w' => ∃ A c A' c', e = .returned (.tuple #[.slice A 8 c, .slice A' 8 c']) ∧ tIs.R w' w'.heap.size [.slice A 8 c] (ndS seed) ∧ tIs.R w' w'.heap.size [.slice A' 8 c'] (ndP seed) ∧ Below w.heap.size w w' := by
  obtain ⟨i0, hi0, hz0, hz1, hz2⟩ := info_parts info_c3
  go_enter Try.func9, Try.ntmps9
  go_wp2_with fail
  go_loopw [4, 5, 6] (fun v u i wr => ∃ j : Nat, j ≤ 8 ∧ i = .int .i64 j ∧ Own .i64 3 wr w.heap.size v (ndT seed j) ∧ Own .i64 3 wr w.heap.size u (ndQ seed j) ∧ (v.ownBlock = none ∨ v.ownBlock ≠ u.ownBlock) ∧ Below w.heap.size w wr) (fun _ _ i _ => 8 - (intOf i).toNat)
  case atStart => exact ⟨0, by omega, rfl, Own.nil _ _ _ _, Own.nil _ _ _ _, .inl rfl, (belx)⟩
  case round =>
    obtain ⟨j, hj, rfl, hV, hU, hap, hB⟩ := hrel
    by_cases hlt : j < 8
    · have HS := Lib.hid (ndT_sn seed j)
      have HP := Lib.hid (ndQ_sn seed j)
      have hl1 := ndT_len seed j
      have hl2 := ndQ_len seed j
      have y1 : 1 ≤ 1000 + seed * 17 + (j : Int) * 7919 := by omega
      have y2 : 1000 + seed * 17 + (j : Int) * 7919 ≤ 1000000000 := by omega
      have HPW := Lib.hid (pubOf_t (show Sec (1000 + seed * 17 + (j : Int) * 7919) from ⟨by omega, by omega⟩))
      have rgp := powP_rg 7 (1000 + seed * 17 + (j : Int) * 7919).toNat
      obtain ⟨pw, hpw⟩ : ∃ pw, powP 7 (1000 + seed * 17 + (j : Int) * 7919).toNat = pw := ⟨_, rfl⟩
      have HPX := Lib.hid hpw
      rw [hpw] at rgp HP
      have p1 := rgp.1
      have p2 := rgp.2
      obtain ⟨T1, hT1⟩ : ∃ T, ndT seed j = T := ⟨_, rfl⟩
      obtain ⟨T2, hT2⟩ : ∃ T, ndQ seed j = T := ⟨_, rfl⟩
      rw [hT1] at HS hV hl1
      rw [hT2] at HP hU hl2
      have HL1 := Lib.hid hl1
      have HL2 := Lib.hid hl2
      have m1 : T1.length ≤ 8 := by omega
      have m2 : T2.length ≤ 8 := by omega
      have zw := hB.size
      have HTK := Lib.hid trivial
      clear rgp hT1 hT2 hpw hl1 hl2
      go_wp2_with (first
        | (at_builtin; have _t := HTK; refine wpList_app _ rfl (.tmp 18) (.tmp 20) _ rfl w.heap.size 3 i0 _ 1 8 Try.underlying23 hi0 hz0 hz1 hz2 rfl (by omega) _ _ _ rfl (hV.1.alloc _) _ 1 1 [.int .i64 (1000 + seed * 17 + (j : Int) * 7919)] rfl (Src.one _ _ _) (one_int _ _) (by simp only [maxLen]; omega) (by omega) (by simp; omega) ?_; intro v1 w1 hown hgr hat; clear HTK; have hV1 := own_sn hV hown HS.out (WalkArith.wf_i64 ⟨by omega, by omega⟩); have hU1 : Own .i64 3 w1 w.heap.size _ T2 := (hU.alloc _).kept hgr (apart_sy3 hap); have hB1 := below_sn hB hV (Nat.le_refl _) hgr; have hap1 := apart_app3 (H := wr.heap.size) hap hat (fun b hb => (hU.block hb).2) (by simp); have zw1 := hB1.size)
        | (go_at_call 45; refine (s_PubOf (1000 + seed * 17 + (j : Int) * 7919) _).mono ?_; rintro e w' ⟨rfl, rfl⟩; rw [HPW.out, HPX.out])
        | (at_builtin; refine wpList_app _ rfl (.tmp 22) (.tmp 25) _ rfl w.heap.size 3 i0 _ 1 8 Try.underlying23 hi0 hz0 hz1 hz2 rfl (by omega) _ _ _ rfl (hU1.1.alloc _) _ 1 1 [.int .i64 pw] rfl (Src.one _ _ _) (one_int _ _) (by simp only [maxLen]; omega) (by omega) (by simp; omega) ?_; intro v2 w2 hown2 hgr2 hat2; have hU3 := own_sn hU1 hown2 HP.out (WalkArith.wf_i64 ⟨by omega, by omega⟩); have hV3 : Own .i64 3 w2 w.heap.size v1 (ndT seed (j + 1)) := (hV1.alloc _).kept hgr2 hap1; have hB3 := below_sn hB1 hU1 (Nat.le_refl _) hgr2; have hap3 := apart_sy3 (apart_app3 (H := w1.heap.size) (apart_sy3 hap1) hat2 (fun b hb => (hV1.block hb).2) (by simp))))
      go_roundw
      case rel => exact ⟨j + 1, by omega, by go_num, hV3, hU3, hap3, hB3⟩
      case measure => simp [intOf]; omega
    · obtain rfl : j = 8 := by omega
      have e1 := ndT_len seed 8
      have e2 := ndQ_len seed 8
      obtain ⟨A, c, rfl, -, -, -⟩ := hV.ints
      obtain ⟨A', c', rfl, -, -, -⟩ := hU.ints
      have r1 := own_R' hV
      have r2 := own_R' hU
      rw [e1] at r1
      rw [e2] at r2
      rw [e1, e2]
      clear hV hU hap e1 e2
      go_wp2
      go_ret2
      exact ⟨A, c, A', c', rfl, r1, r2, hB⟩
theorem two_R (w : World) (t : TypeId) (x y : Int) (hx : (Lit.int .i64 x).wf = true) (hy : (Lit.int .i64 y).wf = true) : tIs.R (w.alloc (.cells #[.int .i64 x, .int .i64 y] t)) (w.alloc (.cells #[.int .i64 x, .int .i64 y] t)).heap.size [.slice (some ⟨w.heap.size, 0, none⟩) 2 2] [x, y] := by
  have h : Own .i64 t (w.alloc (.cells #[.int .i64 x, .int .i64 y] t)) w.heap.size (.slice (some ⟨w.heap.size, 0, none⟩) 2 2) [x, y] := Own.of (n := 2) (two_row w t (.int .i64 x) (.int .i64 y)) fun z hz => by
    simp only [List.mem_cons, List.not_mem_nil, or_false] at hz
    rcases hz with rfl | rfl
    · exact hx
    · exact hy
  exact own_R' h
theorem mark1_R (w : World) (t : TypeId) (x : Int) (hx : 0 ≤ x ∧ x < 256) (fr : Nat × Nat) : tBy.R (w.alloc (.cells #[.int .u8 x] t fr)) (w.alloc (.cells #[.int .u8 x] t fr)).heap.size [.slice (some ⟨w.heap.size, 0, none⟩) 1 1] [x] := by
  refine ints_slR ⟨rfl, fun _ => ⟨w.heap.size, 0, rfl, by simp, fun i hi => ?_⟩, fun z hz => ?_⟩ (Nat.le_refl _) (by omega)
  · rw [Nat.zero_add, cell_of_row _ w.heap.size i #[.int .u8 x] t fr (heap_alloc_new w _)]
    match i, hi with
    | 0, _ => rfl
  · rw [List.mem_singleton.1 hz]; exact wf8 hx
set_option maxHeartbeats 2000000 in
theorem l_onions (w : World) : Calls Try.prog 13 #[] w fun e w' => e = .returned (.bool true) ∧ Below w.heap.size w w' := by
  obtain ⟨j0, hj0, hyz0, hyz1, hyz2⟩ := info_parts info_by
  have hcv := fun (W : World) (C : Array Value) (n c : Nat) => Lib.run_convert_bytes_const (P := Try.prog) W 22 5 C n c Try.underlying22 Try.underlying5
  have HO := Lib.hid on_snd
  have HF := Lib.hid on_fol
  have HW := Lib.hid (wrapped_len on_ok)
  obtain ⟨cl, hcl⟩ : ∃ cl, (fwrap [2, 5] (ndP 1) [11, 12] 9 [120] (List.replicate 80 0)).1 = cl := ⟨_, rfl⟩
  have HC := Lib.hid hcl
  clear hcl
  go_enter Try.func13, Try.ntmps13
  go_wp2_with fail
  refine (l_nodes (by omega) (by omega)).mono ?_
  rintro e w1 ⟨A, c, A', c', rfl, hS, hP, hB1⟩
  have hcx := hcv ((w1.alloc (.cells #[.int .i64 2, .int .i64 5] 3)).alloc (.cells #[.int .i64 11, .int .i64 12] 3)) #[.int .u8 120] 1 1
  simp only [World.size_alloc] at hcx
  go_wp2_with (at_make; refine wpList_mk _ rfl (.const (.int .i64 80)) (.const (.int .i64 80)) _ rfl 5 j0 _ Try.underlying22 hj0 hyz0 rfl hyz1 80 rfl rfl (by rw [hyz2]; omega) (by simp only [maxLen]; omega) ?_; intro w2 hrow hb2 hsz)
  have q1 : Below w1.heap.size w1 w2 := bel_trans (show Below w1.heap.size w1 (((w1.alloc (.cells #[.int .i64 2, .int .i64 5] 3)).alloc (.cells #[.int .i64 11, .int .i64 12] 3)).alloc (.cells #[.int .u8 120] 5 (1, 2))) from (belx)) hb2
  have r1 := tIs.reach (two_R w1 3 2 5 (by decide) (by decide)) (bel_trans (show Below (w1.alloc (.cells #[.int .i64 2, .int .i64 5] 3)).heap.size (w1.alloc (.cells #[.int .i64 2, .int .i64 5] 3)) (((w1.alloc (.cells #[.int .i64 2, .int .i64 5] 3)).alloc (.cells #[.int .i64 11, .int .i64 12] 3)).alloc (.cells #[.int .u8 120] 5 (1, 2))) from (belx)) hb2)
  have r2 := tIs.reach (two_R (w1.alloc (.cells #[.int .i64 2, .int .i64 5] 3)) 3 11 12 (by decide) (by decide)) (bel_trans (show Below ((w1.alloc (.cells #[.int .i64 2, .int .i64 5] 3)).alloc (.cells #[.int .i64 11, .int .i64 12] 3)).heap.size ((w1.alloc (.cells #[.int .i64 2, .int .i64 5] 3)).alloc (.cells #[.int .i64 11, .int .i64 12] 3)) (((w1.alloc (.cells #[.int .i64 2, .int .i64 5] 3)).alloc (.cells #[.int .i64 11, .int .i64 12] 3)).alloc (.cells #[.int .u8 120] 5 (1, 2))) from (belx)) hb2)
  have r4 := tBy.reach (mark1_R ((w1.alloc (.cells #[.int .i64 2, .int .i64 5] 3)).alloc (.cells #[.int .i64 11, .int .i64 12] 3)) 5 120 (by omega) (1, 2)) hb2
  have r5 := own_R' (zeros_own hrow (by omega) (Nat.le_refl _))
  simp only [World.size_alloc] at r1 r2 r4 r5
  have hS2 := tIs.reach hS q1
  have hP2 := tIs.reach hP q1
  have hB2 := bel_trans hB1 q1
  clear hS hP hrow hb2 hsz hcx
  refine (i_WrapR r1 (by decide) hP2 (by rw [ndP_len]; omega) r2 (by decide) (by decide) r4 (by decide) r5 (by simp)).mono ?_
  rintro e w3 ⟨cs, F, rfl, hO, -, hb3⟩
  rw [HO.out]
  rw [HC.out] at hO
  obtain ⟨Ac, cc, rfl, -, -⟩ := slO_one hO
  have hW := HW.out
  rw [HC.out] at hW
  have hlen : cl.length = 80 := hW
  rw [hlen] at hO ⊢
  have hR3 := tBy.read hO
  have hS3 := tIs.reach hS2 hb3
  have hB3 := bel_trans hB2 hb3
  clear hO hW hlen r1 r2 r4 r5 hP2 hS2 q1
  go_wp2_with fail
  have t1 := two_R (w3.alloc (.cells #[.slice Ac 80 cc] 30)) 3 2 5 (by decide) (by decide)
  simp only [World.size_alloc] at t1
  refine (i_FollowR (tIs.reach hS3 (show Below w3.heap.size w3 ((w3.alloc (.cells #[.slice Ac 80 cc] 30)).alloc (.cells #[.int .i64 2, .int .i64 5] 3)) from (belx))) (by rw [ndS_len]; omega) (by rw [World.size_alloc, World.size_alloc]; exact t1) (by decide) (tCell.reach hR3 (show Below w3.heap.size w3 ((w3.alloc (.cells #[.slice Ac 80 cc] 30)).alloc (.cells #[.int .i64 2, .int .i64 5] 3)) from (belx))) (by show cl.length ≤ _; have := HW.out; rw [HC.out] at this; omega)).mono ?_
  rintro e w6 ⟨A6, c6, F6, rfl, hO6, -, hb6⟩
  have hF := HF.out
  rw [HC.out] at hF
  have HF1 := Lib.hid (show (ffol (ndS 1) [2, 5] cl).1 = [120] by rw [hF])
  have HF2 := Lib.hid (show (ffol (ndS 1) [2, 5] cl).2 = true by rw [hF])
  rw [HF1.out] at hO6 ⊢
  rw [HF2.out]
  have hR6 := tBy.read hO6
  have bx : Box w6 w3.heap.size 30 #[.slice Ac 80 cc] := Box.below (B := ((w3.alloc (.cells #[.slice Ac 80 cc] 30)).alloc (.cells #[.int .i64 2, .int .i64 5] 3)).heap.size) ((Box.new w3 30 #[.slice Ac 80 cc]).alloc _) hb6 (by simp; omega)
  have k0 := (bx.alloc (.cells #[.int .u8 120] 5 (1, 2))).cell 0
  have hB6 := bel_trans hB3 (bel_trans (show Below w3.heap.size w3 ((w3.alloc (.cells #[.slice Ac 80 cc] 30)).alloc (.cells #[.int .i64 2, .int .i64 5] 3)) from (belx)) hb6)
  have z6 : w3.heap.size + 2 ≤ w6.heap.size := by have h := hb6.size; simpa using h
  clear hO6 hR3 hS3 t1 hF
  go_wp2_with fail
  refine (l_same (slR_ints (tBy.reach hR6 (show Below w6.heap.size w6 (w6.alloc (.cells #[.int .u8 120] 5 (1, 2))) from (belx)))).1 (slR_ints (mark1_R w6 5 120 (by omega) (1, 2))).1).mono ?_
  rintro e w' ⟨rfl, rfl⟩
  rw [show decide (([120] : List Int) = [120]) = true from by simp]
  go_wp2_with fail
  go_ret
  exact ⟨rfl, bel_alloc hB6 _⟩
end Go.Proofs.Ytnfmjgldcnokbaa
