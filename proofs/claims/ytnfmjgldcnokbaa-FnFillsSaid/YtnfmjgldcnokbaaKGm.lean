/-
  ImplTwo: texts joined.
-/
import Derived.Test.YtnfmjgldcnokbaaKGl
import Derived.Laws.BytesArg
import Derived.Lib.Bytes
import Derived.Shelf.Bytes.SlSmallAll
namespace Go.Proofs.Ytnfmjgldcnokbaa
set_option maxRecDepth 100000
open Go.ChangeShapes Go.WideShapes Go.ChangeAt Go.RowKit
open Fld
attribute [local go_sem ↓] Go.wp_at_zero Go.wp_at_succ

/-- May these bytes be turned with this key? -/
def NoCip (k : Int) (n : Nat) : Prop := ¬ ((0 ≤ k ∧ k < 2147483647) ∧ n ≤ 400)
theorem i_cip_t {k : Int} {n c : Nat} {A : Option Addr} (w : World) (h : Ok k) (hn : n ≤ 400) :
    Calls Try.prog 123 #[.int .i64 k, .slice A n c] w fun e w' => e = .returned (.bool true) ∧ w = w' := by
  have h1 := h.lo; have h2 := h.hi
  have d1 : decide ((n : Int) ≤ 400) = true := by simp; omega
  go_enter Try.func123, Try.ntmps123
  go_wp2_with (go_at_call 99; with_reducible refine (i_FOk_t _ _ (by assumption)).mono ?_; rintro e w' ⟨rfl, rfl⟩)
  go_ret
  exact ⟨by simp, rfl⟩
theorem i_cip_f {k : Int} {n c : Nat} {A : Option Addr} (w : World) (h : NoCip k n) :
    Calls Try.prog 123 #[.int .i64 k, .slice A n c] w fun e w' => e = .returned (.bool false) ∧ w = w' := by
  rcases ok_or k with h' | h'
  · have d1 : decide ((n : Int) ≤ 400) = false := by
      simp only [decide_eq_false_iff_not]
      intro hn
      exact h ⟨h', by omega⟩
    clear h
    go_enter Try.func123, Try.ntmps123
    go_wp2_with (go_at_call 99; with_reducible refine (i_FOk_t _ _ (by assumption)).mono ?_; rintro e w' ⟨rfl, rfl⟩)
    go_ret
    exact ⟨by simp, rfl⟩
  · clear h
    go_enter Try.func123, Try.ntmps123
    go_wp2_with (go_at_call 99; with_reducible refine (i_FOk_f _ _ (by assumption)).mono ?_; rintro e w' ⟨rfl, rfl⟩)
    go_ret
    exact ⟨rfl, rfl⟩
theorem i_XorWith {w : World} {n c : Nat} {A : Option Addr} {l : List Int} (k : Int) (hl : Ints .u8 w w.heap.size A n l) (hn : n ≤ 140737488355328) :
    Calls Try.prog 96 #[.int .i64 k, .slice A n c] w fun e w' => ∃ v, e = .returned v ∧ Own .u8 5 w' w.heap.size v (fxor k l) ∧ Below w.heap.size w w' := by
  have hlen := hl.1
  by_cases hc : (0 ≤ k ∧ k < 2147483647) ∧ n ≤ 400
  · obtain ⟨h, g⟩ := hc
    have H := Lib.hid (fxor_t h (show l.length ≤ 400 by omega))
    have h1 := h.1; have h2 := h.2
    have h : Ok k := h
    clear hlen
    go_enter Try.func96, Try.ntmps96
    go_wp2_with (first | (go_at_call 123; with_reducible refine (i_cip_t _ (by assumption) (by assumption)).mono ?_; rintro e w' ⟨rfl, rfl⟩) | (go_at_call 117; refine (i_masked _ hl (by assumption) (by assumption) (by assumption)).mono ?_; rintro e w' ⟨v, rfl, hO, hB⟩))
    go_ret
    exact ⟨_, rfl, by rw [H.out]; exact hO, hB⟩
  · have H := Lib.hid (show fxor k l = [] from if_neg (by rw [hlen]; exact hc))
    have hc : NoCip k n := hc
    clear hlen
    go_enter Try.func96, Try.ntmps96
    go_wp2_with (go_at_call 123; with_reducible refine (i_cip_f _ (by assumption)).mono ?_; rintro e w' ⟨rfl, rfl⟩)
    go_ret
    exact ⟨_, rfl, by rw [H.out]; exact Own.nil _ _ _ _, Below.refl _ _⟩
set_option maxHeartbeats 400000 in
theorem i_code {w : World} {B n c : Nat} {A : Option Addr} {l : List Int} (k : Int) (hl : Ints .u8 w B A n l) (hn : n ≤ 400) (h1 : 0 ≤ k) (h2 : k < 2147483647) :
    Calls Try.prog 118 #[.int .i64 k, .slice A n c] w fun e w' => e = .returned (.int .i64 (mac k l)) ∧ w = w' := by
  have HL := Lib.hid hl.1
  have hby := hl.bytes
  have rk := keyP_rg k 71
  have rk2 := keyP_rg k 72
  go_enter Try.func118, Try.ntmps118
  go_wp2_with (go_at_call 100; refine (i_key _ _ _ h1 h2 (by omega) (by omega)).mono ?_; rintro e w' ⟨rfl, rfl⟩)
  obtain ⟨r, hr⟩ : ∃ r, 1 + keyP k 71 % 2147483646 = r := ⟨_, rfl⟩
  rw [hr]
  have HR := Lib.hid (show macR k = r from hr)
  have rr : 1 ≤ r ∧ r < 2147483647 := by rw [← HR.out]; exact macR_rg k
  clear hr
  go_loop [6, 18] (fun m i => ∃ j : Nat, j ≤ n ∧ i = .int .i64 j ∧ m = .int .i64 (macN r ((n : Int) + 1) l j)) (fun _ i => n - (intOf i).toNat)
  case atStart => exact ⟨0, by omega, rfl, rfl⟩
  case round =>
    obtain ⟨j, hj, rfl, rfl⟩ := hrel
    have rm := macN_rg (r := r) (n := (n : Int) + 1) (l := l) (by omega) j (by rw [HL.out]; exact hj)
    by_cases hlt : j < n
    · obtain ⟨b, off, rfl, hb, hcell, _⟩ := hl.at_ hlt
      have HS := Lib.hid (macN_succ (r := r) (n := (n : Int) + 1) (l := l) (j := j) (by rw [HL.out]; exact hlt))
      have bx := hby.at_ j
      obtain ⟨x, hx⟩ : ∃ x, l.getD j 0 = x := ⟨_, rfl⟩
      obtain ⟨m, hm⟩ : ∃ m, macN r ((n : Int) + 1) l j = m := ⟨_, rfl⟩
      rw [hx] at hcell bx
      rw [hm] at rm ⊢
      have HX := Lib.hid hx
      have HM := Lib.hid hm
      clear hx hm
      have rp := mulP_rg m r
      have ra := addP_rg (mulP m r) x
      go_wp2_with (first | (go_at_call 126; refine (i_mul _ _ _ (by omega) (by omega) (by omega) (by omega)).mono ?_; rintro e w' ⟨rfl, rfl⟩) | (go_at_call 125; refine (i_add _ _ _ (by omega) (by omega) (by omega) (by omega)).mono ?_; rintro e w' ⟨rfl, rfl⟩))
      go_round
      case rel => exact ⟨j + 1, by omega, by go_num, by rw [HS.out, HX.out, HM.out]⟩
      case measure => simp [intOf]; omega
    · obtain rfl : j = n := by omega
      have rp := mulP_rg (macN r ((j : Int) + 1) l j) r
      go_wp2_with (first | (go_at_call 100; refine (i_key _ _ _ h1 h2 (by omega) (by omega)).mono ?_; rintro e w' ⟨rfl, rfl⟩) | (go_at_call 126; refine (i_mul _ _ _ (by omega) (by omega) (by omega) (by omega)).mono ?_; rintro e w' ⟨rfl, rfl⟩) | (go_at_call 125; refine (i_add _ _ _ (by omega) (by omega) (by omega) (by omega)).mono ?_; rintro e w' ⟨rfl, rfl⟩))
      go_ret
      exact ⟨ret_i64 (by unfold mac macV; rw [HR.out, HL.out]), rfl⟩
theorem i_four {w : World} (x : Int) (h : 0 ≤ x ∧ x < 2147483648) :
    Calls Try.prog 90 #[.int .i64 x] w fun e w' => ∃ v, e = .returned v ∧ Own .u8 5 w' w.heap.size v (four x) ∧ Below w.heap.size w w' := by
  have HF := Lib.hid (four_small h)
  go_enter Try.func90, Try.ntmps90
  go_wp2
  go_ret
  refine ⟨_, rfl, Own.of (n := 4) (by rw [← HF.out]; exact four_cells w _ _ _ _ _) (fun y hy => wf8 (four_bytes x y hy)), (Below.refl _ _).alloc (Nat.le_refl _) _⟩
set_option maxHeartbeats 400000 in
theorem i_Seal_t {w : World} {n c : Nat} {A : Option Addr} {l : List Int} (k : Int) (hl : Ints .u8 w w.heap.size A n l) (hn : n ≤ 396) (h : Ok k) :
    Calls Try.prog 91 #[.int .i64 k, .slice A n c] w fun e w' => ∃ v, e = .returned v ∧ Own .u8 5 w' w.heap.size v (sealL k l) ∧ Below w.heap.size w w' := by
  obtain ⟨i0, hi0, hz0, hz1, hz2⟩ := info_parts info_by
  have h1 := h.lo; have h2 := h.hi
  have HL := Lib.hid hl.1
  have hby := hl.bytes
  have rk1 := keyP_rg k 1
  have rk2 := keyP_rg k 2
  go_enter Try.func91, Try.ntmps91
  go_wp2_with (first | (go_at_call 99; with_reducible refine (i_FOk_t _ _ (by assumption)).mono ?_; rintro e w' ⟨rfl, rfl⟩) | (go_at_call 100; refine (i_key _ _ _ h1 h2 (by omega) (by omega)).mono ?_; rintro e w' ⟨rfl, rfl⟩))
  refine (i_masked _ hl (by omega) rk1.1 rk1.2).mono ?_
  rintro e w1 ⟨v, rfl, hO, hB⟩
  have hxb := xorl_bytes (k := keyP k 1) hby
  have hxl : (xorl (keyP k 1) l).length = n := by rw [xorl_len]; exact HL.out
  obtain ⟨xs, hxs⟩ : ∃ xs, xorl (keyP k 1) l = xs := ⟨_, rfl⟩
  have HS := Lib.hid (show sealL k l = four (mac (keyP k 2) xs) ++ xs by unfold sealL; rw [hxs])
  rw [hxs] at hO hxb hxl
  clear hxs
  subst hxl
  obtain ⟨A1, c1, rfl, _, hI, _⟩ := hO.ints
  have rm := mac_rg (keyP k 2) xs
  go_wp2_with (first | (go_at_call 100; refine (i_key _ _ _ h1 h2 (by omega) (by omega)).mono ?_; rintro e w' ⟨rfl, rfl⟩) | (go_at_call 118; refine (i_code _ hI (by omega) rk2.1 rk2.2).mono ?_; rintro e w' ⟨rfl, rfl⟩))
  refine (i_four _ (by omega)).mono ?_
  rintro e w3 ⟨v3, rfl, hO3, hB3⟩
  have hI3 := hI.below hB3
  have H4 := Lib.hid (four_len (mac (keyP k 2) xs))
  go_wp2_with (at_builtin; refine wpList_app _ rfl (.tmp 24) (.tmp 25) _ rfl w.heap.size 5 i0 _ 1 1 Try.underlying22 hi0 hz0 hz1 hz2 rfl (by omega) _ _ _ rfl (hO3.lower hB.size).1 _ _ _ _ rfl (Src.of_ints hI3) (one_ints _ _) (by simp only [maxLen]; rw [H4.out]; omega) (by rw [H4.out]; omega) (Nat.le_trans hB.size hB3.size) ?_; intro v1 w4 hown hg hat)
  go_ret
  refine ⟨_, rfl, ?_, ?_⟩
  · rw [HS.out]
    exact own_app hown (four_bytes _) hxb
  · exact below_own (hB.trans (hB3.mono hB.size)) (hO3.lower hB.size) (Below.refl _ _) hg
theorem conv_bytes {w : World} {B n : Nat} {A : Option Addr} {l : List Int} (h : Ints .u8 w B A n l) (c : Nat) (src e dst : TypeId) (hs : Try.prog.underlying src = some (.slice e)) (he : Try.prog.underlying e = some (.int .u8)) (hd : Try.prog.underlying dst = some .string) :
    (convert src dst (.slice A n c)).run Try.prog w = .ok (.string (strOfNums l)) w := by
  by_cases h0 : n = 0
  · subst h0
    obtain rfl : l = [] := List.eq_nil_of_length_eq_zero h.1
    exact run_convert_bytes_zero w src e hs he A c dst hd
  · obtain ⟨b, off, rfl, _, hc⟩ := h.2.1 (by omega)
    exact run_convert_bytes_arg w src e hs he b off n c l h.1 hc dst hd
theorem nums_eq {l r : List Int} (hl : Bytes l) (hr : Bytes r) : ((strOfNums l).toList == (strOfNums r).toList) = decide (l = r) := by
  rw [Lib.strOfNums_toList, Lib.strOfNums_toList, Lib.bytesOf, Lib.bytesOf, Bool.eq_iff_iff]
  simp only [beq_iff_eq, decide_eq_true_eq]
  constructor
  · intro h
    have hlen : l.length = r.length := by have := congrArg List.length h; simpa using this
    apply ext_getD hlen
    intro i hi
    have h2 := congrArg (fun x => x[i]?) h
    simp only [List.getElem?_map, List.getElem?_eq_getElem hi, List.getElem?_eq_getElem (show i < r.length by omega), Option.map_some, Option.some.injEq] at h2
    have a1 := hl.at_ i
    have a2 := hr.at_ i
    rw [getD_lt hi] at a1
    rw [getD_lt (show i < r.length by omega)] at a2
    rw [getD_lt hi, getD_lt (show i < r.length by omega)]
    have h3 := congrArg UInt8.toNat h2
    simp only [UInt8.toNat_ofNat'] at h3
    omega
  · intro h; rw [h]
theorem i_bytesEqual {w : World} {B B' n m c d : Nat} {A A' : Option Addr} {l r : List Int} (hl : Ints .u8 w B A n l) (hr : Ints .u8 w B' A' m r) :
    Calls Try.prog 124 #[.slice A n c, .slice A' m d] w fun e w' => e = .returned (.bool (decide (l = r))) ∧ w = w' := by
  have g1 := conv_bytes hl c 22 5 9 Try.underlying22 Try.underlying5 Try.underlying9
  have g2 := conv_bytes hr d 22 5 9 Try.underlying22 Try.underlying5 Try.underlying9
  have HN := Lib.hid (nums_eq hl.bytes hr.bytes)
  go_enter Try.func124, Try.ntmps124
  go_wp2
  go_ret
  exact ⟨ret_bool HN.out, rfl⟩
set_option maxHeartbeats 1000000 in
theorem i_Open_t {w : World} {n c : Nat} {A : Option Addr} {l : List Int} (k : Int) (hl : Ints .u8 w w.heap.size A n l) (h4 : 4 ≤ n) (hn : n ≤ 400) (hnc : n ≤ c) (hc : c ≤ 9223372036854775807) (h : Ok k) (ho : opens k l) :
    Calls Try.prog 97 #[.int .i64 k, .slice A n c] w fun e w' => ∃ v, e = .returned (.tuple #[v, .bool true]) ∧ Own .u8 5 w' w.heap.size v (openL k l) ∧ Below w.heap.size w w' := by
  have h1 := h.lo; have h2 := h.hi
  have HL := Lib.hid hl.1
  have HE := Lib.hid ho
  clear ho
  have hby := hl.bytes
  obtain ⟨b, off, rfl, hb, _⟩ := hl.2.1 (by omega)
  have rk1 := keyP_rg k 1
  have HSO := Lib.hid (seal_open (k := k) hby (by rw [HL.out]; exact h4))
  have g1 : (0 : Int) ≤ 4 := by omega
  have g2 : (4 : Int) ≤ (n : Int) := by omega
  have g3 : (n : Int) ≤ (c : Int) := by omega
  have d4 : decide ((n : Int) < 4) = false := by simp; omega
  have hol : (openL k l).length = n - 4 := by rw [openL_len, HL.out]
  have HO := Lib.hid (show xorl (keyP k 1) (l.drop 4) = openL k l from rfl)
  by_cases hc4 : c = 4
  · subst hc4
    obtain rfl : n = 4 := by omega
    have HT : Ints .u8 w w.heap.size (some ⟨b, off, none⟩) 0 (l.drop 4) := by have := hl.tail 4 (by omega); exact ⟨this.1, fun h => absurd h (by omega), this.2.2⟩
    go_enter Try.func97, Try.ntmps97
    go_wp2_with (go_at_call 123; with_reducible refine (i_cip_t _ (by assumption) (by assumption)).mono ?_; rintro e w' ⟨rfl, rfl⟩)
    go_region_held3 (fun _ => True) (trivial) (first | (go_at_call 100; refine (i_key _ _ _ h1 h2 (by omega) (by omega)).mono ?_; rintro e w' ⟨rfl, rfl⟩) | (go_at_call 117; refine (i_masked _ (HT.drewN _) (by omega) rk1.1 rk1.2).mono ?_; rintro e w1 ⟨v, rfl, hO1, hB1⟩))
    rw [HO.out] at hO1
    have hB : Below w.heap.size w w1 := (below_drewN (Below.refl _ _) _).trans hB1
    have hO : Own .u8 5 w1 w.heap.size v (openL k l) := hO1
    clear hO1 hB1
    obtain ⟨xs, hxs⟩ : ∃ xs, openL k l = xs := ⟨_, rfl⟩
    rw [hxs] at hO hol
    have HX := Lib.hid hxs
    have hx4 : xs.length ≤ 396 := by omega
    clear hxs hol
    obtain ⟨A1, c1, rfl, _, hI, _⟩ := hO.ints
    go_wp2_with fail
    refine (i_Seal_t k hI hx4 h).mono ?_
    rintro e w2 ⟨v2, rfl, hO2, hB2⟩
    have hl2 := hl.below (hB.trans (hB2.mono hB.size))
    have hO3 := hO.below hB2
    have hB3 := hB.trans (hB2.mono hB.size)
    obtain ⟨A2, c2, rfl, _, hI2, _⟩ := hO2.ints
    have HD := Lib.hid (show decide (sealL k xs = l) = true by rw [decide_eq_true_eq, ← HX.out]; exact HSO.out.2 HE.out)
    go_wp2_with (go_at_call 124; refine (i_bytesEqual hI2 hl2).mono ?_; rintro e w' ⟨rfl, rfl⟩; rw [HD.out])
    go_ret2
    exact ⟨_, rfl, by rw [HX.out]; exact hO3, hB3⟩
  · have HT := hl.tail 4 (by omega)
    go_enter Try.func97, Try.ntmps97
    go_wp2_with (go_at_call 123; with_reducible refine (i_cip_t _ (by assumption) (by assumption)).mono ?_; rintro e w' ⟨rfl, rfl⟩)
    go_region_held3 (fun _ => True) (trivial) (first | (go_at_call 100; refine (i_key _ _ _ h1 h2 (by omega) (by omega)).mono ?_; rintro e w' ⟨rfl, rfl⟩) | (go_at_call 117; refine (i_masked _ (HT.drewN _) (by omega) rk1.1 rk1.2).mono ?_; rintro e w1 ⟨v, rfl, hO1, hB1⟩))
    rw [HO.out] at hO1
    have hB : Below w.heap.size w w1 := (below_drewN (Below.refl _ _) _).trans hB1
    have hO : Own .u8 5 w1 w.heap.size v (openL k l) := hO1
    clear hO1 hB1
    obtain ⟨xs, hxs⟩ : ∃ xs, openL k l = xs := ⟨_, rfl⟩
    rw [hxs] at hO hol
    have HX := Lib.hid hxs
    have hx4 : xs.length ≤ 396 := by omega
    clear hxs hol
    obtain ⟨A1, c1, rfl, _, hI, _⟩ := hO.ints
    go_wp2_with fail
    refine (i_Seal_t k hI hx4 h).mono ?_
    rintro e w2 ⟨v2, rfl, hO2, hB2⟩
    have hl2 := hl.below (hB.trans (hB2.mono hB.size))
    have hO3 := hO.below hB2
    have hB3 := hB.trans (hB2.mono hB.size)
    obtain ⟨A2, c2, rfl, _, hI2, _⟩ := hO2.ints
    have HD := Lib.hid (show decide (sealL k xs = l) = true by rw [decide_eq_true_eq, ← HX.out]; exact HSO.out.2 HE.out)
    go_wp2_with (go_at_call 124; refine (i_bytesEqual hI2 hl2).mono ?_; rintro e w' ⟨rfl, rfl⟩; rw [HD.out])
    go_ret2
    exact ⟨_, rfl, by rw [HX.out]; exact hO3, hB3⟩
set_option maxHeartbeats 1000000 in
theorem i_Open_f {w : World} {n c : Nat} {A : Option Addr} {l : List Int} (k : Int) (hl : Ints .u8 w w.heap.size A n l) (h4 : 4 ≤ n) (hn : n ≤ 400) (hnc : n ≤ c) (hc : c ≤ 9223372036854775807) (h : Ok k) (ho : ¬ opens k l) :
    Calls Try.prog 97 #[.int .i64 k, .slice A n c] w fun e w' => e = .returned (.tuple #[.slice none 0 0, .bool false]) ∧ Below w.heap.size w w' := by
  have h1 := h.lo; have h2 := h.hi
  have HL := Lib.hid hl.1
  have HE := Lib.hid ho
  clear ho
  have hby := hl.bytes
  obtain ⟨b, off, rfl, hb, _⟩ := hl.2.1 (by omega)
  have rk1 := keyP_rg k 1
  have HSO := Lib.hid (seal_open (k := k) hby (by rw [HL.out]; exact h4))
  have g1 : (0 : Int) ≤ 4 := by omega
  have g2 : (4 : Int) ≤ (n : Int) := by omega
  have g3 : (n : Int) ≤ (c : Int) := by omega
  have d4 : decide ((n : Int) < 4) = false := by simp; omega
  have hol : (openL k l).length = n - 4 := by rw [openL_len, HL.out]
  have HO := Lib.hid (show xorl (keyP k 1) (l.drop 4) = openL k l from rfl)
  by_cases hc4 : c = 4
  · subst hc4
    obtain rfl : n = 4 := by omega
    have HT : Ints .u8 w w.heap.size (some ⟨b, off, none⟩) 0 (l.drop 4) := by have := hl.tail 4 (by omega); exact ⟨this.1, fun h => absurd h (by omega), this.2.2⟩
    go_enter Try.func97, Try.ntmps97
    go_wp2_with (go_at_call 123; with_reducible refine (i_cip_t _ (by assumption) (by assumption)).mono ?_; rintro e w' ⟨rfl, rfl⟩)
    go_region_held3 (fun _ => True) (trivial) (first | (go_at_call 100; refine (i_key _ _ _ h1 h2 (by omega) (by omega)).mono ?_; rintro e w' ⟨rfl, rfl⟩) | (go_at_call 117; refine (i_masked _ (HT.drewN _) (by omega) rk1.1 rk1.2).mono ?_; rintro e w1 ⟨v, rfl, hO1, hB1⟩))
    rw [HO.out] at hO1
    have hB : Below w.heap.size w w1 := (below_drewN (Below.refl _ _) _).trans hB1
    have hO : Own .u8 5 w1 w.heap.size v (openL k l) := hO1
    clear hO1 hB1
    obtain ⟨xs, hxs⟩ : ∃ xs, openL k l = xs := ⟨_, rfl⟩
    rw [hxs] at hO hol
    have HX := Lib.hid hxs
    have hx4 : xs.length ≤ 396 := by omega
    clear hxs hol
    obtain ⟨A1, c1, rfl, _, hI, _⟩ := hO.ints
    go_wp2_with fail
    refine (i_Seal_t k hI hx4 h).mono ?_
    rintro e w2 ⟨v2, rfl, hO2, hB2⟩
    have hl2 := hl.below (hB.trans (hB2.mono hB.size))
    have hO3 := hO.below hB2
    have hB3 := hB.trans (hB2.mono hB.size)
    obtain ⟨A2, c2, rfl, _, hI2, _⟩ := hO2.ints
    have HD := Lib.hid (show decide (sealL k xs = l) = false by rw [decide_eq_false_iff_not, ← HX.out]; exact fun e => HE.out (HSO.out.1 e))
    go_wp2_with (go_at_call 124; refine (i_bytesEqual hI2 hl2).mono ?_; rintro e w' ⟨rfl, rfl⟩; rw [HD.out])
    go_ret2
    exact ⟨rfl, hB3⟩
  · have HT := hl.tail 4 (by omega)
    go_enter Try.func97, Try.ntmps97
    go_wp2_with (go_at_call 123; with_reducible refine (i_cip_t _ (by assumption) (by assumption)).mono ?_; rintro e w' ⟨rfl, rfl⟩)
    go_region_held3 (fun _ => True) (trivial) (first | (go_at_call 100; refine (i_key _ _ _ h1 h2 (by omega) (by omega)).mono ?_; rintro e w' ⟨rfl, rfl⟩) | (go_at_call 117; refine (i_masked _ (HT.drewN _) (by omega) rk1.1 rk1.2).mono ?_; rintro e w1 ⟨v, rfl, hO1, hB1⟩))
    rw [HO.out] at hO1
    have hB : Below w.heap.size w w1 := (below_drewN (Below.refl _ _) _).trans hB1
    have hO : Own .u8 5 w1 w.heap.size v (openL k l) := hO1
    clear hO1 hB1
    obtain ⟨xs, hxs⟩ : ∃ xs, openL k l = xs := ⟨_, rfl⟩
    rw [hxs] at hO hol
    have HX := Lib.hid hxs
    have hx4 : xs.length ≤ 396 := by omega
    clear hxs hol
    obtain ⟨A1, c1, rfl, _, hI, _⟩ := hO.ints
    go_wp2_with fail
    refine (i_Seal_t k hI hx4 h).mono ?_
    rintro e w2 ⟨v2, rfl, hO2, hB2⟩
    have hl2 := hl.below (hB.trans (hB2.mono hB.size))
    have hO3 := hO.below hB2
    have hB3 := hB.trans (hB2.mono hB.size)
    obtain ⟨A2, c2, rfl, _, hI2, _⟩ := hO2.ints
    have HD := Lib.hid (show decide (sealL k xs = l) = false by rw [decide_eq_false_iff_not, ← HX.out]; exact fun e => HE.out (HSO.out.1 e))
    go_wp2_with (go_at_call 124; refine (i_bytesEqual hI2 hl2).mono ?_; rintro e w' ⟨rfl, rfl⟩; rw [HD.out])
    go_ret2
    exact ⟨rfl, hB3⟩
end Go.Proofs.Ytnfmjgldcnokbaa
