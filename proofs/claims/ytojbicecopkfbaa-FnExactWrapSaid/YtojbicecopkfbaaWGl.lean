/-
  ImplTwo: texts joined.
-/
import Derived.Test.YtojbicecopkfbaaWGk
import Derived.Laws.BytesArg
import Derived.Lib.Bytes
import Derived.Shelf.Bytes.SlSmallAll
namespace Go.Proofs.Ytojbicecopkfbaa
set_option maxRecDepth 100000
open Go.ChangeShapes Go.WideShapes Go.ChangeAt Go.RowKit
open Fld
attribute [local go_sem ↓] Go.wp_at_zero Go.wp_at_succ

set_option maxHeartbeats 400000 in
theorem i_code {w : World} {B n c : Nat} {A : Option Addr} {l : List Int} (k : Int) (hl : Ints .u8 w B A n l) (hn : n ≤ 400) (h1 : 0 ≤ k) (h2 : k < 2147483647) :
    Calls Try.prog 161 #[.int .i64 k, .slice A n c] w fun e w' => e = .returned (.int .i64 (mac k l)) ∧ w = w' := by
  have HL := Lib.hid hl.1
  have hby := hl.bytes
  have rk := keyP_rg k 71
  have rk2 := keyP_rg k 72
  go_enter Try.func161, Try.ntmps161
  go_wp2_with (go_at_call 159; refine (i_key _ _ _ h1 h2 (by omega) (by omega)).mono ?_; rintro e w' ⟨rfl, rfl⟩)
  obtain ⟨r, hr⟩ : ∃ r, 1 + keyP k 71 % 2147483646 = r := ⟨_, rfl⟩
  rw [hr]
  have HR := Lib.hid (show macR k = r from hr)
  have rr : 1 ≤ r ∧ r < 2147483647 := by rw [← HR.out]; exact macR_rg k
  clear hr
  go_loop [6, 18] (fun m i => ∃ j : Nat, j ≤ n ∧ i = .int .i64 j ∧ m = .int .i64 (macN r ((n : Int) + 1) l j)) (fun _ i => n - (intOf i).toNat)
  case atStart => exact ⟨0, by omega, rfl, rfl⟩
  case round =>
    obtain ⟨j, hj, rfl, rfl⟩ := hrel
    have rm := macN_rg (r := r) (n := (n : Int) + 1) (l := l) (by omega) j (by rw [HL.out]; exact hj)
    by_cases hlt : j < n
    · obtain ⟨b, off, rfl, hb, hcell, _⟩ := hl.at_ hlt
      have HS := Lib.hid (macN_succ (r := r) (n := (n : Int) + 1) (l := l) (j := j) (by rw [HL.out]; exact hlt))
      have bx := hby.at_ j
      obtain ⟨x, hx⟩ : ∃ x, l.getD j 0 = x := ⟨_, rfl⟩
      obtain ⟨m, hm⟩ : ∃ m, macN r ((n : Int) + 1) l j = m := ⟨_, rfl⟩
      rw [hx] at hcell bx
      rw [hm] at rm ⊢
      have HX := Lib.hid hx
      have HM := Lib.hid hm
      clear hx hm
      have rp := mulP_rg m r
      have ra := addP_rg (mulP m r) x
      go_wp2_with (first | (go_at_call 181; refine (i_mul _ _ _ (by omega) (by omega) (by omega) (by omega)).mono ?_; rintro e w' ⟨rfl, rfl⟩) | (go_at_call 182; refine (i_add _ _ _ (by omega) (by omega) (by omega) (by omega)).mono ?_; rintro e w' ⟨rfl, rfl⟩))
      go_round
      case rel => exact ⟨j + 1, by omega, by go_num, by rw [HS.out, HX.out, HM.out]⟩
      case measure => simp [intOf]; omega
    · obtain rfl : j = n := by omega
      have rp := mulP_rg (macN r ((j : Int) + 1) l j) r
      go_wp2_with (first | (go_at_call 159; refine (i_key _ _ _ h1 h2 (by omega) (by omega)).mono ?_; rintro e w' ⟨rfl, rfl⟩) | (go_at_call 181; refine (i_mul _ _ _ (by omega) (by omega) (by omega) (by omega)).mono ?_; rintro e w' ⟨rfl, rfl⟩) | (go_at_call 182; refine (i_add _ _ _ (by omega) (by omega) (by omega) (by omega)).mono ?_; rintro e w' ⟨rfl, rfl⟩))
      go_ret
      exact ⟨ret_i64 (by unfold mac macV; rw [HR.out, HL.out]), rfl⟩
theorem i_four {w : World} (x : Int) (h : 0 ≤ x ∧ x < 2147483648) :
    Calls Try.prog 115 #[.int .i64 x] w fun e w' => ∃ v, e = .returned v ∧ Own .u8 5 w' w.heap.size v (four x) ∧ Below w.heap.size w w' := by
  have HF := Lib.hid (four_small h)
  go_enter Try.func115, Try.ntmps115
  go_wp2
  go_ret
  refine ⟨_, rfl, Own.of (n := 4) (by rw [← HF.out]; exact four_cells w _ _ _ _ _) (fun y hy => wf8 (four_bytes x y hy)), (Below.refl _ _).alloc (Nat.le_refl _) _⟩
set_option maxHeartbeats 400000 in
theorem i_Seal_t {w : World} {n c : Nat} {A : Option Addr} {l : List Int} (k : Int) (hl : Ints .u8 w w.heap.size A n l) (hn : n ≤ 396) (h : Ok k) :
    Calls Try.prog 116 #[.int .i64 k, .slice A n c] w fun e w' => ∃ v, e = .returned v ∧ Own .u8 5 w' w.heap.size v (sealL k l) ∧ Below w.heap.size w w' := by
  obtain ⟨i0, hi0, hz0, hz1, hz2⟩ := info_parts info_by
  have h1 := h.lo; have h2 := h.hi
  have HL := Lib.hid hl.1
  have hby := hl.bytes
  have rk1 := keyP_rg k 1
  have rk2 := keyP_rg k 2
  go_enter Try.func116, Try.ntmps116
  go_wp2_with (first | (go_at_call 125; with_reducible refine (i_FOk_t _ _ (by assumption)).mono ?_; rintro e w' ⟨rfl, rfl⟩) | (go_at_call 159; refine (i_key _ _ _ h1 h2 (by omega) (by omega)).mono ?_; rintro e w' ⟨rfl, rfl⟩))
  refine (i_masked _ hl (by omega) rk1.1 rk1.2).mono ?_
  rintro e w1 ⟨v, rfl, hO, hB⟩
  have hxb := xorl_bytes (k := keyP k 1) hby
  have hxl : (xorl (keyP k 1) l).length = n := by rw [xorl_len]; exact HL.out
  obtain ⟨xs, hxs⟩ : ∃ xs, xorl (keyP k 1) l = xs := ⟨_, rfl⟩
  have HS := Lib.hid (show sealL k l = four (mac (keyP k 2) xs) ++ xs by unfold sealL; rw [hxs])
  rw [hxs] at hO hxb hxl
  clear hxs
  subst hxl
  obtain ⟨A1, c1, rfl, _, hI, _⟩ := hO.ints
  have rm := mac_rg (keyP k 2) xs
  go_wp2_with (first | (go_at_call 159; refine (i_key _ _ _ h1 h2 (by omega) (by omega)).mono ?_; rintro e w' ⟨rfl, rfl⟩) | (go_at_call 161; refine (i_code _ hI (by omega) rk2.1 rk2.2).mono ?_; rintro e w' ⟨rfl, rfl⟩))
  refine (i_four _ (by omega)).mono ?_
  rintro e w3 ⟨v3, rfl, hO3, hB3⟩
  have hI3 := hI.below hB3
  have H4 := Lib.hid (four_len (mac (keyP k 2) xs))
  go_wp2_with (at_builtin; refine wpList_app _ rfl (.tmp 24) (.tmp 25) _ rfl w.heap.size 5 i0 _ 1 1 Try.underlying36 hi0 hz0 hz1 hz2 rfl (by omega) _ _ _ rfl (hO3.lower hB.size).1 _ _ _ _ rfl (Src.of_ints hI3) (one_ints _ _) (by simp only [maxLen]; rw [H4.out]; omega) (by rw [H4.out]; omega) (Nat.le_trans hB.size hB3.size) ?_; intro v1 w4 hown hg hat)
  go_ret
  refine ⟨_, rfl, ?_, ?_⟩
  · rw [HS.out]
    exact own_app hown (four_bytes _) hxb
  · exact below_own (hB.trans (hB3.mono hB.size)) (hO3.lower hB.size) (Below.refl _ _) hg
end Go.Proofs.Ytojbicecopkfbaa
