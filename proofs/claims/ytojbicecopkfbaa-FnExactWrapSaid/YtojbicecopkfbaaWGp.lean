/-
  Can, SpWr: texts joined.
-/
import Derived.Test.YtojbicecopkfbaaWGh
import Derived.Test.YtojbicecopkfbaaWGj
import Derived.Test.YtojbicecopkfbaaWGn
import Derived.Test.YtojbicecopkfbaaWGo
import Derived.Deep.RegionHeld3
import Derived.Outline
namespace Go.Proofs.Ytojbicecopkfbaa
set_option maxRecDepth 100000
set_option linter.unusedSimpArgs false
set_option linter.unusedVariables false
open Go.ChangeShapes Go.WideShapes Go.ChangeAt Go.RowKit
open Fld
attribute [local go_sem ↓] Go.wp_at_zero Go.wp_at_succ

theorem secs_take0 (l : List Int) : Secs (l.take 0) := fun x hx => absurd hx (by simp)
theorem secs_no {l : List Int} {k : Nat} (hk : k < l.length) (h : ¬ LaySec (l.getD k 0)) : decide (Secs l) = false :=
  decide_eq_false fun hs => h (hs.at_ hk)
theorem s_secs {w : World} {B n c : Nat} {A : Option Addr} {l : List Int} (hl : Ints .i64 w B A n l) (hn : n ≤ 17592186043904) :
    Calls Try.prog 54 #[.slice A n c] w fun e w' => e = .returned (.bool (decide (Secs l))) ∧ w = w' := by
  have HL := Lib.hid hl.1
  go_enter Try.func54, Try.ntmps54
  go_wp2_with fail
  go_loop [3] (fun i => ∃ k : Nat, k ≤ n ∧ i = .int .i64 k ∧ Secs (l.take k)) (fun i => n - (intOf i).toNat)
  case atStart => exact ⟨0, by omega, rfl, secs_take0 l⟩
  case round =>
    obtain ⟨k, hk, rfl, hG⟩ := hrel
    have HG := Lib.hid hG
    clear hG
    by_cases hlt : k < n
    · obtain ⟨b, off, rfl, hb, hcell, hwf⟩ := hl.at_ hlt
      have rgx := i64_rg hwf
      obtain ⟨x, hx⟩ : ∃ x, l.getD k 0 = x := ⟨_, rfl⟩
      rw [hx] at hcell rgx
      have HX := Lib.hid hx
      clear hx hwf
      rcases sec_or x with hs | hs
      · have h1 := hs.lo
        have h2 := hs.hi
        have rp := powP_rg 7 x.toNat
        rcases pub_or (powP 7 x.toNat) with hp | hp
        · have HS := Lib.hid (secs_take HG.out (by rw [HL.out]; exact hlt) (by rw [HX.out]; exact ⟨hs, hp⟩))
          go_wp2_with (first | (go_at_call 104; with_reducible refine (s_sec_t _ _ hs).mono ?_; rintro e w' ⟨rfl, rfl⟩) | (go_at_call 105; refine (s_pow 7 x _ (by omega) (by omega) (by omega) (by omega)).mono ?_; rintro e w' ⟨rfl, rfl⟩) | (go_at_call 103; with_reducible refine (s_pub_t _ _ hp).mono ?_; rintro e w' ⟨rfl, rfl⟩))
          go_round
          case rel => exact ⟨k + 1, by omega, by go_num, HS.out⟩
          case measure => simp [intOf]; omega
        · have HS := Lib.hid (secs_no (l := l) (k := k) (by rw [HL.out]; exact hlt) (by rw [HX.out]; exact fun h => hp h.2))
          go_wp2_with (first | (go_at_call 104; with_reducible refine (s_sec_t _ _ hs).mono ?_; rintro e w' ⟨rfl, rfl⟩) | (go_at_call 105; refine (s_pow 7 x _ (by omega) (by omega) (by omega) (by omega)).mono ?_; rintro e w' ⟨rfl, rfl⟩) | (go_at_call 103; with_reducible refine (s_pub_f _ _ hp).mono ?_; rintro e w' ⟨rfl, rfl⟩))
          go_ret
          exact ⟨ret_bool HS.out.symm, rfl⟩
      · have HS := Lib.hid (secs_no (l := l) (k := k) (by rw [HL.out]; exact hlt) (by rw [HX.out]; exact fun h => hs h.1))
        go_wp2_with (go_at_call 104; with_reducible refine (s_sec_f _ _ hs).mono ?_; rintro e w' ⟨rfl, rfl⟩)
        go_ret
        exact ⟨ret_bool HS.out.symm, rfl⟩
    · obtain rfl : k = n := by omega
      have HS := Lib.hid (show decide (Secs l) = true from decide_eq_true (by have := HG.out; rwa [List.take_of_length_le (by rw [HL.out]; exact Nat.le_refl _)] at this))
      go_wp2
      go_ret
      exact ⟨ret_bool HS.out.symm, rfl⟩
end Go.Proofs.Ytojbicecopkfbaa
namespace Go.Proofs.Ytojbicecopkfbaa
set_option maxRecDepth 100000
set_option linter.unusedVariables false
set_option linter.unusedSimpArgs false
open Go.ChangeShapes Go.WideShapes Go.ChangeAt Go.RowKit
open Fld
theorem u8_rem (d : Int) : IntKind.u8.wrap d = d % 256 := by
  have hb : IntKind.u8.bits = 8 := rfl
  have hs : IntKind.u8.signed = false := rfl
  simp [IntKind.wrap, hb, hs]
set_option maxHeartbeats 1000000 in
theorem s_layer {w : World} {n c : Nat} {A : Option Addr} {l : List Int} (pub s next due : Int) (hl : Ints .u8 w w.heap.size A n l) (hn : n ≤ 100) (h1 : 0 ≤ pub ∧ pub < 2147483647) (h2 : 0 ≤ s ∧ s < 2147483647) (h3 : 0 ≤ next ∧ next ≤ 255) (h4 : 0 ≤ due ∧ due ≤ 65535) :
    Calls Try.prog 106 #[.int .i64 pub, .int .i64 s, .int .i64 next, .int .i64 due, .slice A n c] w fun e w' => ∃ v, e = .returned v ∧ Own .u8 5 w' w.heap.size v (layB pub s next due l) ∧ Below w.heap.size w w' := by
  obtain ⟨i0, hi0, hz0, hz1, hz2⟩ := info_parts info_by
  have HL := Lib.hid hl.1
  have y8 : IntKind.u8.wrap (due / 256) = due / 256 := IntWalk.u8_in _ (by omega)
  have z8 : IntKind.u8.wrap due = due % 256 := u8_rem due
  have n8 : IntKind.u8.wrap (n : Int) = (n : Int) := IntWalk.u8_in _ (by omega)
  have x8 : IntKind.u8.wrap next = next := IntWalk.u8_in _ (by omega)
  have hwf : ∀ y ∈ [next, due / 256, due % 256, (n : Int)] ++ l, (Lit.int .u8 y).wf = true := by
    intro y hy
    simp only [List.cons_append, List.nil_append, List.mem_cons] at hy
    rcases hy with rfl | rfl | rfl | rfl | hy
    · exact WalkArith.wf_u8 h3
    · exact WalkArith.wf_u8 (by omega)
    · exact WalkArith.wf_u8 (by omega)
    · exact WalkArith.wf_u8 (by omega)
    · exact hl.2.2 y hy
  have hrow := four_cells w 5 next (due / 256) (due % 256) (n : Int)
  have hsrc : Src (w.alloc (.cells #[.int .u8 next, .int .u8 (due / 256), .int .u8 (due % 256), .int .u8 (n : Int)] 5)) 1 A n (l.map (Value.int .u8)) := Src.of_ints (reach hl (belx))
  have rp := powP_rg 7 s.toNat
  have rq := powP_rg pub s.toNat
  have rk := keyP_rg (powP pub s.toNat) 5
  go_enter Try.func106, Try.ntmps106
  go_wp2_with (first
    | (at_builtin; refine wpList_app _ rfl (.tmp 22) (.tmp 23) _ rfl w.heap.size 5 i0 _ 1 1 Try.underlying36 hi0 hz0 hz1 hz2 rfl (by omega) _ 4 _ rfl hrow _ n c (l.map (Value.int .u8)) rfl hsrc (one_ints _ _) (by simp only [maxLen]; omega) (by omega) (by simp; done) ?_; intro v1 w1 hown hgr hat)
    | (go_at_call 105; refine (s_pow _ _ _ (by omega) (by omega) (by omega) (by omega)).mono ?_; rintro e w' ⟨rfl, rfl⟩))
  have hs1 : Below w.heap.size w w1 := Below.grown (w := w.alloc (.cells #[.int .u8 next, .int .u8 (due / 256), .int .u8 (due % 256), .int .u8 (n : Int)] 5)) (belx) hgr (by simp) (fun b hb => by have e := Option.some.inj (show some w.heap.size = some b from hb); omega)
  have hO1 : Own .u8 5 w1 w.heap.size v1 ([next, due / 256, due % 256, (n : Int)] ++ l) := Own.of (n := 4 + n) (by simpa using hown) hwf
  obtain ⟨L1, hL1⟩ : ∃ L1, [next, due / 256, due % 256, (n : Int)] ++ l = L1 := ⟨_, rfl⟩
  have HS := Lib.hid (show layB pub s next due l = four (powP 7 s.toNat) ++ sealL (keyP (powP pub s.toNat) 5) L1 by unfold layB headL; rw [HL.out, hL1])
  have hm : L1.length = 4 + n := by rw [← hL1, List.length_append, HL.out]; rfl
  rw [hL1] at hO1
  obtain ⟨m, hm'⟩ : ∃ m, L1.length = m := ⟨_, rfl⟩
  have hm2 : m ≤ 104 := by omega
  obtain ⟨A1, c1, rfl, -, hI, -⟩ := hO1.ints
  rw [hm'] at hI ⊢
  clear hL1 hm hwf hrow hsrc hown hgr hat hO1
  refine (s_four0 _ (by omega)).mono ?_
  rintro e w2 ⟨v2, rfl, hO2, hB2⟩
  go_wp2_with (first
    | (go_at_call 105; refine (s_pow _ _ _ (by omega) (by omega) (by omega) (by omega)).mono ?_; rintro e w' ⟨rfl, rfl⟩)
    | (go_at_call 156; refine (s_key _ _ _ (by omega) (by omega) (by omega) (by omega)).mono ?_; rintro e w' ⟨rfl, rfl⟩))
  refine (s_seal _ (reach hI ?hB) (by omega) (by omega) (by omega)).mono ?_
  case hB => exact hB2
  rintro e w3 ⟨v3, rfl, hO3, hB3⟩
  have hsl := sealL_len (keyP (powP pub s.toNat) 5) L1
  have hsb := sealL_bytes (k := keyP (powP pub s.toNat) 5) hI.bytes
  obtain ⟨LS, hLS⟩ : ∃ LS, sealL (keyP (powP pub s.toNat) 5) L1 = LS := ⟨_, rfl⟩
  have HS2 := Lib.hid (show layB pub s next due l = four (powP 7 s.toNat) ++ LS by rw [HS.out, hLS])
  rw [hLS] at hsl hsb hO3
  have hlen4 := Lib.hid (four_len (powP 7 s.toNat))
  have h4b := Lib.hid (four_bytes (powP 7 s.toNat))
  obtain ⟨L4, hL4⟩ : ∃ L4, four (powP 7 s.toNat) = L4 := ⟨_, rfl⟩
  have HL4 := Lib.hid hL4
  have hl4 : L4.length = 4 := by rw [← hL4]; exact hlen4.out
  rw [hL4] at hO2
  obtain ⟨A3, c3, rfl, -, hI3, -⟩ := hO3.ints
  have hl3 : LS.length ≤ 200 := by omega
  have hO2' := hO2.below hB3
  have HLS := Lib.hid hLS
  clear hLS hL4 hsl hl4 hI hO3 rp rq rk
  obtain ⟨m3, hm3⟩ : ∃ m, LS.length = m := ⟨_, rfl⟩
  rw [hm3] at hI3 hl3 ⊢
  have z1 := hs1.size; have z2 := hB2.size; have z3 := hB3.size
  have hl44 : L4.length ≤ 4 := by rw [← HL4.out]; exact Nat.le_of_eq hlen4.out
  go_wp2_with (at_builtin; refine wpList_app _ rfl (.tmp 27) (.tmp 33) _ rfl w1.heap.size 5 i0 _ 1 1 Try.underlying36 hi0 hz0 hz1 hz2 rfl (by omega) _ _ _ rfl hO2'.1 _ m3 _ (LS.map (Value.int .u8)) rfl (Src.of_ints hI3) (one_ints _ _) (by simp only [maxLen]; omega) (by omega) (by omega) ?_; intro v4 w4 hown hgr hat)
  go_ret
  have hfin : Own .u8 5 w4 w1.heap.size v4 (L4 ++ LS) := own_app (by rw [hm3]; exact hown) (by rw [← HL4.out]; exact h4b.out) hsb
  refine ⟨v4, rfl, ?_, ?_⟩
  · rw [HS2.out, HL4.out]; exact hfin.lower z1
  · exact below_own (bel_trans hs1 (bel_trans hB2 hB3)) (hO2'.lower z1) (Below.refl _ _) hgr
theorem pubs_take0 (l : List Int) : ∀ x ∈ l.take 0, 2 ≤ x ∧ x < 2147483646 := fun x hx => absurd hx (by simp)
theorem s_pubs {w : World} {B n c : Nat} {A : Option Addr} {l : List Int} (hl : Ints .i64 w B A n l) (hn : n ≤ 17592186043904) :
    Calls Try.prog 53 #[.slice A n c] w fun e w' => e = .returned (.bool (decide (Pubs l))) ∧ w = w' := by
  have HL := Lib.hid hl.1
  go_enter Try.func53, Try.ntmps53
  go_wp2_with fail
  go_loop [3] (fun i => ∃ k : Nat, k ≤ n ∧ i = .int .i64 k ∧ ∀ x ∈ l.take k, 2 ≤ x ∧ x < 2147483646) (fun i => n - (intOf i).toNat)
  case atStart => exact ⟨0, by omega, rfl, pubs_take0 l⟩
  case round =>
    obtain ⟨k, hk, rfl, hG⟩ := hrel
    have HG := Lib.hid hG
    clear hG
    by_cases hlt : k < n
    · obtain ⟨b, off, rfl, hb, hcell, hwf⟩ := hl.at_ hlt
      obtain ⟨x, hx⟩ : ∃ x, l.getD k 0 = x := ⟨_, rfl⟩
      rw [hx] at hcell
      have HX := Lib.hid hx
      have HIN := Lib.hid (show x ∈ l from by rw [← hx, getD_lt (by rw [HL.out]; exact hlt)]; exact List.getElem_mem _)
      have HTK := Lib.hid (show l.take (k + 1) = l.take k ++ [x] from by rw [List.take_succ_eq_append_getElem (by rw [HL.out]; exact hlt), ← hx, getD_lt (by rw [HL.out]; exact hlt)])
      clear hx hwf
      rcases pub_or x with hp | hp
      · have h1 := hp.lo
        have h2 := hp.hi
        have HS := Lib.hid (show ∀ y ∈ l.take (k + 1), 2 ≤ y ∧ y < 2147483646 from by
          rw [HTK.out]
          intro y hy
          rcases List.mem_append.1 hy with hy | hy
          · exact HG.out y hy
          · rw [List.mem_singleton] at hy; subst hy; exact hp)
        go_wp2_with (go_at_call 103; with_reducible refine (s_pub_t _ _ hp).mono ?_; rintro e w' ⟨rfl, rfl⟩)
        go_round
        case rel => exact ⟨k + 1, by omega, by go_num, HS.out⟩
        case measure => simp [intOf]; omega
      · have HS := Lib.hid (show decide (Pubs l) = false from decide_eq_false fun h => hp (h.2 x HIN.out))
        go_wp2_with (go_at_call 103; with_reducible refine (s_pub_f _ _ hp).mono ?_; rintro e w' ⟨rfl, rfl⟩)
        go_ret
        exact ⟨ret_bool HS.out.symm, rfl⟩
    · obtain rfl : k = n := by omega
      have HA := Lib.hid (show ∀ x ∈ l, 2 ≤ x ∧ x < 2147483646 from by have := HG.out; rwa [List.take_of_length_le (by rw [HL.out]; exact Nat.le_refl _)] at this)
      by_cases h8 : k = 8
      · have HS := Lib.hid (show decide (Pubs l) = true from decide_eq_true ⟨by rw [HL.out]; exact h8, HA.out⟩)
        have q : ((k : Int) == 8) = true := by subst h8; rfl
        clear h8
        go_wp2
        go_ret
        exact ⟨ret_bool HS.out.symm, rfl⟩
      · have HS := Lib.hid (show decide (Pubs l) = false from decide_eq_false fun h => h8 (by rw [← HL.out]; exact h.1))
        have q : ((k : Int) == 8) = false := by rw [beq_eq_false_iff_ne]; omega
        clear h8
        go_wp2
        go_ret
        exact ⟨ret_bool HS.out.symm, rfl⟩
set_option maxHeartbeats 2000000 in
theorem s_wrap {w : World} {nr cr np cp ns cs nl cl nd cd : Nat} {Ar Ap As Al Ad : Option Addr} {route pubs secs load pad : List Int} {due : Int} (hr : Ints .i64 w w.heap.size Ar nr route) (hp : Ints .i64 w w.heap.size Ap np pubs) (hs : Ints .i64 w w.heap.size As ns secs) (hl : Ints .u8 w w.heap.size Al nl load) (hd : Ints .u8 w w.heap.size Ad nd pad) (hnd : nd ≤ 140737488355328) (ho : WrapOk route pubs secs due load pad) :
    Calls Try.prog 55 #[.slice Ar nr cr, .slice Ap np cp, .slice As ns cs, .int .i64 due, .slice Al nl cl, .slice Ad nd cd] w fun e w' => ∃ v, e = .returned (.agg #[v]) ∧ Own .u8 5 w' w.heap.size v (padL (wrapL pubs due load route secs) pad) ∧ Below w.heap.size w w' := by
  obtain ⟨i0, hi0, hz0, hz1, hz2⟩ := info_parts info_by
  obtain ⟨⟨⟨g1, g2⟩, g3, -⟩, ⟨g4, g5⟩, g6, g7, g8, g9, g10⟩ := ho
  have HR := Lib.hid hr.1
  have HLL := Lib.hid hl.1
  have q1 : 1 ≤ nr := by rw [← hr.1]; exact g1
  have q2 : nr ≤ 4 := by rw [← hr.1]; exact g2
  have q3 : np = 8 := by rw [← hp.1]; exact g4
  have q4 : ns = nr := by rw [← hs.1, ← hr.1]; exact g6
  have q5 : nl ≤ 24 := by rw [← hl.1]; exact g9
  have q6 : 80 ≤ nd := by rw [← hd.1]; exact g10
  have HRT := Lib.hid (show ∀ j, j < nr → ∃ m : Nat, m < 8 ∧ route.getD j 0 = (m : Int) from fun j hj => by
    have := g3 (route.getD j 0) (by rw [getD_lt (by rw [HR.out]; exact hj)]; exact List.getElem_mem _)
    exact ⟨(route.getD j 0).toNat, by omega, by omega⟩)
  have HPB := Lib.hid (show ∀ j, j < 8 → 2 ≤ pubs.getD j 0 ∧ pubs.getD j 0 < 2147483646 from fun j hj => g5 _ (by rw [getD_lt (by rw [g4]; exact hj)]; exact List.getElem_mem _))
  have HSC := Lib.hid (show ∀ j, j < nr → 1 ≤ secs.getD j 0 ∧ secs.getD j 0 < 2147483646 from fun j hj => (g7 _ (by rw [getD_lt (by rw [g6, HR.out]; exact hj)]; exact List.getElem_mem _)).1)
  have HWB := Lib.hid (show ∀ k, (wrapL pubs due load (route.drop k) (secs.drop k)).length ≤ 72 from fun k => by rw [wrapL_len, List.length_drop, HR.out, HLL.out]; omega)
  have HNX := Lib.hid (show ∀ k, 0 ≤ (route.drop k).getD 0 255 ∧ (route.drop k).getD 0 255 ≤ 255 from fun k => by
    have := next_rg (rs := route.drop k) (fun x hx => g3 x (List.mem_of_mem_drop hx)); omega)
  obtain ⟨d0, d1⟩ := g8
  subst q4
  clear g1 g2 g3 g4 g5 g6 g7 g9 g10
  have hE : ((w.alloc (.cells #[.slice none 0 0] 38)).alloc (.cells #[] 5)).ownsRow (w.heap.size + 1) 5 1 (.slice (some ⟨w.heap.size + 1, 0, none⟩) 0 0) 0 [] := by simpa using empty_row (w.alloc (.cells #[.slice none 0 0] 38)) 5
  have hsrc : Src ((w.alloc (.cells #[.slice none 0 0] 38)).alloc (.cells #[] 5)) 1 Al nl (load.map (Value.int .u8)) := Src.of_ints (reach hl (belx))
  go_enter Try.func55, Try.ntmps55
  go_wp2_with (at_builtin; refine wpList_app _ rfl (.tmp 16) (.tmp 17) _ rfl (w.heap.size + 1) 5 i0 _ 1 1 Try.underlying36 hi0 hz0 hz1 hz2 rfl (by omega) (.slice (some ⟨w.heap.size + 1, 0, none⟩) 0 0) 0 [] rfl hE Al nl cl _ rfl hsrc (one_ints _ _) (by simp only [maxLen]; omega) (by omega) (by simp) ?_; intro v1 w1 hown hg hat)
  have hB1 : Below w.heap.size w w1 := Below.grown (w := (w.alloc (.cells #[.slice none 0 0] 38)).alloc (.cells #[] 5)) (belx) hg (by simp; omega) (fun b hb => by have e := Option.some.inj (show some (w.heap.size + 1) = some b from hb); omega)
  have b1 : Box w1 w.heap.size 38 #[.slice none 0 0] := Box.grown ((Box.new _ _ _).alloc _) hg (fun e => by have e := Option.some.inj (show some w.heap.size = some (w.heap.size + 1) from e); omega)
  have hO1 : Own .u8 5 w1 (w.heap.size + 1) v1 load := Own.of (n := 0 + nl) (by simpa using hown) hl.2.2
  have HD0 := Lib.hid (show wrapL pubs due load (route.drop ns) (secs.drop ns) = load from by rw [List.drop_of_length_le (Nat.le_of_eq HR.out)]; rfl)
  have HN0 := Lib.hid (show (route.drop ns).getD 0 255 = 255 from by rw [List.drop_of_length_le (Nat.le_of_eq HR.out)]; rfl)
  clear hown hg hat hE hsrc
  go_loopw [13, 14, 15] (fun v nx i wr => ∃ k : Nat, k ≤ ns ∧ i = .int .i64 ((k : Int) - 1) ∧ nx = .int .i64 ((route.drop k).getD 0 255) ∧ Own .u8 5 wr (w.heap.size + 1) v (wrapL pubs due load (route.drop k) (secs.drop k)) ∧ Below w.heap.size w wr ∧ Box wr w.heap.size 38 #[.slice none 0 0]) (fun _ _ i _ => (intOf i + 1).toNat)
  case atStart => exact ⟨ns, Nat.le_refl _, by go_num, by rw [HN0.out], by rw [HD0.out]; exact hO1, hB1, b1⟩
  case round =>
    clear hO1 b1 hB1
    obtain ⟨k, hk, rfl, rfl, hO, hB, hX⟩ := hrel
    by_cases h0 : 0 < k
    · obtain ⟨j, rfl⟩ : ∃ j, k = j + 1 := ⟨k - 1, by omega⟩
      have hjs : j < ns := by omega
      obtain ⟨m, hm8, hm⟩ := HRT.out j hjs
      have hps := HPB.out m hm8
      have hsc := HSC.out j hjs
      have hnx := HNX.out (j + 1)
      have HST := Lib.hid (wrapL_step (pubs := pubs) (due := due) (load := load) (ss := secs) (show j < route.length by rw [HR.out]; exact hjs))
      have HNX2 := Lib.hid (show (route.drop j).getD 0 255 = (m : Int) from by
        rw [List.drop_eq_getElem_cons (by rw [HR.out]; exact hjs), List.getD_cons_zero, ← hm, getD_lt (by rw [HR.out]; exact hjs)])
      obtain ⟨br, offr, rfl, hbr, hcr, -⟩ := hr.at_ hjs
      obtain ⟨bp, offp, rfl, hbp, hcp, -⟩ := hp.at_ (show m < np by omega)
      obtain ⟨bs, offs, rfl, hbs, hcs, -⟩ := hs.at_ hjs
      rw [hm] at hcr HST
      obtain ⟨x, hx⟩ : ∃ x, pubs.getD m 0 = x := ⟨_, rfl⟩
      obtain ⟨y, hy⟩ : ∃ y, secs.getD j 0 = y := ⟨_, rfl⟩
      obtain ⟨z, hzz⟩ : ∃ z, (route.drop (j + 1)).getD 0 255 = z := ⟨_, rfl⟩
      have HST2 := Lib.hid (show wrapL pubs due load (route.drop j) (secs.drop j) = layB x y z due (wrapL pubs due load (route.drop (j + 1)) (secs.drop (j + 1))) from by rw [HST.out, Int.toNat_natCast, hx, hy, hzz])
      rw [hx] at hcp hps
      rw [hy] at hcs hsc
      rw [hzz] at hnx ⊢
      have hcr1 : wr.cell? ⟨br, offr + j, none⟩ = some (.int .i64 (m : Int)) := cell_bel hB hcr
      have hcp1 : wr.cell? ⟨bp, offp + m, none⟩ = some (.int .i64 x) := cell_bel hB hcp
      have hcs1 : wr.cell? ⟨bs, offs + j, none⟩ = some (.int .i64 y) := cell_bel hB hcs
      have hle := HWB.out (j + 1)
      obtain ⟨L, hL⟩ : ∃ L, wrapL pubs due load (route.drop (j + 1)) (secs.drop (j + 1)) = L := ⟨_, rfl⟩
      rw [hL] at hO hle HST2
      obtain ⟨AL, cL, rfl, -, hIL, -⟩ := hO.ints
      obtain ⟨nL, hnL⟩ : ∃ n, L.length = n := ⟨_, rfl⟩
      rw [hnL] at hIL hle ⊢
      have p1 : (0 : Int) ≤ ((j : Int) + 1) - 1 := by omega
      have p2 : ((j : Int) + 1) - 1 < (ns : Int) := by omega
      have p3 : (m : Int) < 8 := by omega
      have p4 : (0 : Int) ≤ (m : Int) := by omega
      have p5 : ((j + 1 : Nat) : Int) - 1 = (j : Int) := by omega
      have p6 : (0 : Int) ≤ (j : Int) := by omega
      have p7 : (j : Int) < (ns : Int) := by omega
      have p8 : (m : Int) < (np : Int) := by omega
      have zX := hX.size
      rw [p5]
      clear hm hx hy hzz hL hcr hcp hcs hm8 hjs h0 hk p1 p2 p5 HST
      go_wp2_with fail
      go_region_held3 (fun w' => w'.cell? ⟨br, offr + j, none⟩ = some (.int .i64 (m : Int)) ∧ w'.cell? ⟨bp, offp + m, none⟩ = some (.int .i64 x) ∧ w'.cell? ⟨bs, offs + j, none⟩ = some (.int .i64 y)) (first | (exact ⟨hcr1, hcp1, hcs1⟩) | (exact ⟨cell_bel hs2 hcr1, cell_bel hs2 hcp1, cell_bel hs2 hcs1⟩) | go_keep)
        ((go_at_call 106; refine (s_layer x y z due (reach hIL (belx)) (by omega) (by omega) (by omega) (by omega) (by omega)).mono ?_; rintro e w2 ⟨v2, rfl, hO2, hb2⟩; have hs2 : Below wr.heap.size wr w2 := bel_trans (belx) hb2))
      have hB2 : Below w.heap.size w w2 := bel_trans hB hs2
      have hX2 := hX.below hs2 zX
      have hcr2 : w2.cell? ⟨br, offr + j, none⟩ = some (.int .i64 (m : Int)) := cell_bel hs2 hcr1
      clear hcr1 hcp1 hcs1
      go_wp2
      go_roundw
      case rel => exact ⟨j, by omega, by go_num, by rw [HNX2.out], by rw [HST2.out]; exact hO2.lower (by show _ ≤ wr.heap.size; omega), hB2, hX2⟩
      case measure => first | (simp [intOf]; done) | (simp [intOf]; omega)
    · obtain rfl : k = 0 := by omega
      have HE := Lib.hid (show wrapL pubs due load (route.drop 0) (secs.drop 0) = wrapL pubs due load route secs by rw [List.drop_zero, List.drop_zero])
      have hle := HWB.out 0
      rw [HE.out] at hO hle
      obtain ⟨L, hL⟩ : ∃ L, wrapL pubs due load route secs = L := ⟨_, rfl⟩
      rw [hL] at hO hle
      have HLX := Lib.hid hL
      obtain ⟨AL, cL, rfl, -, hIL, -⟩ := hO.ints
      obtain ⟨nL, hnL⟩ : ∃ n, L.length = n := ⟨_, rfl⟩
      rw [hnL] at hIL hle ⊢
      have p1 : ¬ (0 : Int) ≤ ((0 : Nat) : Int) - 1 := by omega
      have p5 : ((0 : Nat) : Int) - 1 = -1 := by omega
      have zX := hX.size
      rw [p5]
      clear hL h0 p1 p5 hk
      go_wp2_with fail
      refine (s_fill (reach hIL ?hB) (reach hd (bel_trans hB ?hB)) (by omega) q6 hnd).mono ?_
      case hB => exact (belx)
      rintro e w2 ⟨v2, rfl, hO2, hb2⟩
      have hX2 := hX.below hb2 zX
      have x0 := hX2.cell 0; have f0 := hX2.frozen 0
      have hB2 : Below w.heap.size w w2 := bel_trans hB hb2
      obtain ⟨A1, d1', rfl, -⟩ := hO2.ints
      have e := (hX2.put 0 (.slice A1 (padL L pad).length d1')).cell 0
      go_wp2
      refine bodyPost_ret (v := .agg #[.slice A1 (padL L pad).length d1']) (by simp [results, Try.results55, go_sem, e]) rfl ⟨_, rfl, ?_, bel_put hB2 (Nat.le_refl _) _⟩
      rw [HLX.out]
      exact (hO2.far (by omega) 0 _).lower (by omega)
set_option maxHeartbeats 2000000 in
theorem s_Wrap {w : World} {nr cr np cp ns cs nl cl nd cd : Nat} {Ar Ap As Al Ad : Option Addr} {route pubs secs load pad : List Int} {due : Int} (hr : Ints .i64 w w.heap.size Ar nr route) (hnr : nr ≤ 17592186043904) (hp : Ints .i64 w w.heap.size Ap np pubs) (hnp : np ≤ 17592186043904) (hs : Ints .i64 w w.heap.size As ns secs) (hns : ns ≤ 17592186043904) (hl : Ints .u8 w w.heap.size Al nl load) (hnl : nl ≤ 140737488355328) (hd : Ints .u8 w w.heap.size Ad nd pad) (hnd : nd ≤ 140737488355328) :
    Calls Try.prog 14 #[.slice Ar nr cr, .slice Ap np cp, .slice As ns cs, .int .i64 due, .slice Al nl cl, .slice Ad nd cd] w fun e w' => ∃ v, e = .returned (.tuple #[.agg #[v], .bool (fwrap route pubs secs due load pad).2]) ∧ Own .u8 5 w' w.heap.size v (fwrap route pubs secs due load pad).1 ∧ Below w.heap.size w w' := by
  have l1 := hr.1; have l2 := hs.1; have l3 := hl.1; have l4 := hd.1
  by_cases c0 : Route route
  rotate_left
  · have HF := Lib.hid (fwrap_f (fun h : WrapOk route pubs secs due load pad => c0 (h.1)))
    rw [HF.out]
    have K1 := Lib.hid (decide_eq_false c0)
    clear l1 l2 l3 l4 c0
    go_enter Try.func14, Try.ntmps14
    go_wp2_with fail
    refine (s_RouteOk (reach hr ?hB) hnr).mono ?_
    case hB => exact (belx)
    rintro e w1 ⟨rfl, hb1⟩
    rw [K1.out]
    have hX1 : Box w1 w.heap.size 38 #[.slice none 0 0] := (Box.new _ _ _).below hb1 (by simp)
    have hB1 : Below w.heap.size w w1 := bel_trans (belx) hb1
    have x0 := hX1.cell 0
    have f0 := hX1.frozen 0
    clear hb1
    go_wp2
    have e := (hX1.put 0 (.slice none 0 0)).cell 0
    refine bodyPost_ret (v := .tuple #[.agg #[.slice none 0 0], .bool false]) (by simp [results, Try.results14, go_sem, e]) rfl ⟨_, rfl, Own.nil _ _ _ _, bel_put hB1 (Nat.le_refl _) _⟩
  have K1 := Lib.hid (decide_eq_true c0)
  by_cases c1 : Pubs pubs
  rotate_left
  · have HF := Lib.hid (fwrap_f (fun h : WrapOk route pubs secs due load pad => c1 (h.2.1)))
    rw [HF.out]
    have K2 := Lib.hid (decide_eq_false c1)
    clear l1 l2 l3 l4 c0 c1
    go_enter Try.func14, Try.ntmps14
    go_wp2_with fail
    refine (s_RouteOk (reach hr ?hB) hnr).mono ?_
    case hB => exact (belx)
    rintro e w1 ⟨rfl, hb1⟩
    rw [K1.out]
    have hX1 : Box w1 w.heap.size 38 #[.slice none 0 0] := (Box.new _ _ _).below hb1 (by simp)
    have hB1 : Below w.heap.size w w1 := bel_trans (belx) hb1
    have x0 := hX1.cell 0
    have f0 := hX1.frozen 0
    clear hb1
    go_wp2_with fail
    refine (s_pubs (hp.below hB1) hnp).mono ?_
    rintro e w' ⟨rfl, rfl⟩
    rw [K2.out]
    go_wp2
    have e := (hX1.put 0 (.slice none 0 0)).cell 0
    refine bodyPost_ret (v := .tuple #[.agg #[.slice none 0 0], .bool false]) (by simp [results, Try.results14, go_sem, e]) rfl ⟨_, rfl, Own.nil _ _ _ _, bel_put hB1 (Nat.le_refl _) _⟩
  have K2 := Lib.hid (decide_eq_true c1)
  by_cases c2 : secs.length = route.length
  rotate_left
  · have HF := Lib.hid (fwrap_f (fun h : WrapOk route pubs secs due load pad => c2 (h.2.2.1)))
    rw [HF.out]
    have q3 : ((ns : Int) != (nr : Int)) = true := by rw [bne_iff_ne]; omega
    clear l1 l2 l3 l4 c0 c1 c2
    go_enter Try.func14, Try.ntmps14
    go_wp2_with fail
    refine (s_RouteOk (reach hr ?hB) hnr).mono ?_
    case hB => exact (belx)
    rintro e w1 ⟨rfl, hb1⟩
    rw [K1.out]
    have hX1 : Box w1 w.heap.size 38 #[.slice none 0 0] := (Box.new _ _ _).below hb1 (by simp)
    have hB1 : Below w.heap.size w w1 := bel_trans (belx) hb1
    have x0 := hX1.cell 0
    have f0 := hX1.frozen 0
    clear hb1
    go_wp2_with fail
    refine (s_pubs (hp.below hB1) hnp).mono ?_
    rintro e w' ⟨rfl, rfl⟩
    rw [K2.out]
    go_wp2
    have e := (hX1.put 0 (.slice none 0 0)).cell 0
    refine bodyPost_ret (v := .tuple #[.agg #[.slice none 0 0], .bool false]) (by simp [results, Try.results14, go_sem, e]) rfl ⟨_, rfl, Own.nil _ _ _ _, bel_put hB1 (Nat.le_refl _) _⟩
  have q3 : ((ns : Int) != (nr : Int)) = false := by rw [bne_eq_false_iff_eq]; omega
  by_cases c3 : Secs secs
  rotate_left
  · have HF := Lib.hid (fwrap_f (fun h : WrapOk route pubs secs due load pad => c3 (h.2.2.2.1)))
    rw [HF.out]
    have K4 := Lib.hid (decide_eq_false c3)
    clear l1 l2 l3 l4 c0 c1 c2 c3
    go_enter Try.func14, Try.ntmps14
    go_wp2_with fail
    refine (s_RouteOk (reach hr ?hB) hnr).mono ?_
    case hB => exact (belx)
    rintro e w1 ⟨rfl, hb1⟩
    rw [K1.out]
    have hX1 : Box w1 w.heap.size 38 #[.slice none 0 0] := (Box.new _ _ _).below hb1 (by simp)
    have hB1 : Below w.heap.size w w1 := bel_trans (belx) hb1
    have x0 := hX1.cell 0
    have f0 := hX1.frozen 0
    clear hb1
    go_wp2_with fail
    refine (s_pubs (hp.below hB1) hnp).mono ?_
    rintro e w' ⟨rfl, rfl⟩
    rw [K2.out]
    go_wp2_with fail
    refine (s_secs (hs.below hB1) hns).mono ?_
    rintro e w' ⟨rfl, rfl⟩
    rw [K4.out]
    go_wp2
    have e := (hX1.put 0 (.slice none 0 0)).cell 0
    refine bodyPost_ret (v := .tuple #[.agg #[.slice none 0 0], .bool false]) (by simp [results, Try.results14, go_sem, e]) rfl ⟨_, rfl, Own.nil _ _ _ _, bel_put hB1 (Nat.le_refl _) _⟩
  have K4 := Lib.hid (decide_eq_true c3)
  by_cases c4 : 0 ≤ due
  rotate_left
  · have HF := Lib.hid (fwrap_f (fun h : WrapOk route pubs secs due load pad => c4 (h.2.2.2.2.1.1)))
    rw [HF.out]
    have q5 : due < 0 := by omega
    clear l1 l2 l3 l4 c0 c1 c2 c3 c4
    go_enter Try.func14, Try.ntmps14
    go_wp2_with fail
    refine (s_RouteOk (reach hr ?hB) hnr).mono ?_
    case hB => exact (belx)
    rintro e w1 ⟨rfl, hb1⟩
    rw [K1.out]
    have hX1 : Box w1 w.heap.size 38 #[.slice none 0 0] := (Box.new _ _ _).below hb1 (by simp)
    have hB1 : Below w.heap.size w w1 := bel_trans (belx) hb1
    have x0 := hX1.cell 0
    have f0 := hX1.frozen 0
    clear hb1
    go_wp2_with fail
    refine (s_pubs (hp.below hB1) hnp).mono ?_
    rintro e w' ⟨rfl, rfl⟩
    rw [K2.out]
    go_wp2_with fail
    refine (s_secs (hs.below hB1) hns).mono ?_
    rintro e w' ⟨rfl, rfl⟩
    rw [K4.out]
    go_wp2
    have e := (hX1.put 0 (.slice none 0 0)).cell 0
    refine bodyPost_ret (v := .tuple #[.agg #[.slice none 0 0], .bool false]) (by simp [results, Try.results14, go_sem, e]) rfl ⟨_, rfl, Own.nil _ _ _ _, bel_put hB1 (Nat.le_refl _) _⟩
  have q5 : ¬ due < 0 := by omega
  by_cases c5 : due ≤ 65535
  rotate_left
  · have HF := Lib.hid (fwrap_f (fun h : WrapOk route pubs secs due load pad => c5 (h.2.2.2.2.1.2)))
    rw [HF.out]
    have q6 : due > 65535 := by omega
    have q6b : (65535 : Int) < due := by omega
    clear l1 l2 l3 l4 c0 c1 c2 c3 c4 c5
    go_enter Try.func14, Try.ntmps14
    go_wp2_with fail
    refine (s_RouteOk (reach hr ?hB) hnr).mono ?_
    case hB => exact (belx)
    rintro e w1 ⟨rfl, hb1⟩
    rw [K1.out]
    have hX1 : Box w1 w.heap.size 38 #[.slice none 0 0] := (Box.new _ _ _).below hb1 (by simp)
    have hB1 : Below w.heap.size w w1 := bel_trans (belx) hb1
    have x0 := hX1.cell 0
    have f0 := hX1.frozen 0
    clear hb1
    go_wp2_with fail
    refine (s_pubs (hp.below hB1) hnp).mono ?_
    rintro e w' ⟨rfl, rfl⟩
    rw [K2.out]
    go_wp2_with fail
    refine (s_secs (hs.below hB1) hns).mono ?_
    rintro e w' ⟨rfl, rfl⟩
    rw [K4.out]
    go_wp2
    have e := (hX1.put 0 (.slice none 0 0)).cell 0
    refine bodyPost_ret (v := .tuple #[.agg #[.slice none 0 0], .bool false]) (by simp [results, Try.results14, go_sem, e]) rfl ⟨_, rfl, Own.nil _ _ _ _, bel_put hB1 (Nat.le_refl _) _⟩
  have q6b : ¬ (65535 : Int) < due := by omega
  by_cases c6 : load.length ≤ 24
  rotate_left
  · have HF := Lib.hid (fwrap_f (fun h : WrapOk route pubs secs due load pad => c6 (h.2.2.2.2.2.1)))
    rw [HF.out]
    have q7 : (24 : Int) < (nl : Int) := by omega
    clear l1 l2 l3 l4 c0 c1 c2 c3 c4 c5 c6
    go_enter Try.func14, Try.ntmps14
    go_wp2_with fail
    refine (s_RouteOk (reach hr ?hB) hnr).mono ?_
    case hB => exact (belx)
    rintro e w1 ⟨rfl, hb1⟩
    rw [K1.out]
    have hX1 : Box w1 w.heap.size 38 #[.slice none 0 0] := (Box.new _ _ _).below hb1 (by simp)
    have hB1 : Below w.heap.size w w1 := bel_trans (belx) hb1
    have x0 := hX1.cell 0
    have f0 := hX1.frozen 0
    clear hb1
    go_wp2_with fail
    refine (s_pubs (hp.below hB1) hnp).mono ?_
    rintro e w' ⟨rfl, rfl⟩
    rw [K2.out]
    go_wp2_with fail
    refine (s_secs (hs.below hB1) hns).mono ?_
    rintro e w' ⟨rfl, rfl⟩
    rw [K4.out]
    go_wp2
    have e := (hX1.put 0 (.slice none 0 0)).cell 0
    refine bodyPost_ret (v := .tuple #[.agg #[.slice none 0 0], .bool false]) (by simp [results, Try.results14, go_sem, e]) rfl ⟨_, rfl, Own.nil _ _ _ _, bel_put hB1 (Nat.le_refl _) _⟩
  have q7 : ¬ (24 : Int) < (nl : Int) := by omega
  by_cases c7 : 80 ≤ pad.length
  rotate_left
  · have HF := Lib.hid (fwrap_f (fun h : WrapOk route pubs secs due load pad => c7 (h.2.2.2.2.2.2)))
    rw [HF.out]
    have q8 : (nd : Int) < 80 := by omega
    clear l1 l2 l3 l4 c0 c1 c2 c3 c4 c5 c6 c7
    go_enter Try.func14, Try.ntmps14
    go_wp2_with fail
    refine (s_RouteOk (reach hr ?hB) hnr).mono ?_
    case hB => exact (belx)
    rintro e w1 ⟨rfl, hb1⟩
    rw [K1.out]
    have hX1 : Box w1 w.heap.size 38 #[.slice none 0 0] := (Box.new _ _ _).below hb1 (by simp)
    have hB1 : Below w.heap.size w w1 := bel_trans (belx) hb1
    have x0 := hX1.cell 0
    have f0 := hX1.frozen 0
    clear hb1
    go_wp2_with fail
    refine (s_pubs (hp.below hB1) hnp).mono ?_
    rintro e w' ⟨rfl, rfl⟩
    rw [K2.out]
    go_wp2_with fail
    refine (s_secs (hs.below hB1) hns).mono ?_
    rintro e w' ⟨rfl, rfl⟩
    rw [K4.out]
    go_wp2
    have e := (hX1.put 0 (.slice none 0 0)).cell 0
    refine bodyPost_ret (v := .tuple #[.agg #[.slice none 0 0], .bool false]) (by simp [results, Try.results14, go_sem, e]) rfl ⟨_, rfl, Own.nil _ _ _ _, bel_put hB1 (Nat.le_refl _) _⟩
  have q8 : ¬ (nd : Int) < 80 := by omega
  have HO : WrapOk route pubs secs due load pad := ⟨c0, c1, c2, c3, ⟨c4, c5⟩, c6, c7⟩
  have HF := Lib.hid (fwrap_t HO)
  have HOK := Lib.hid HO
  rw [HF.out]
  clear HO l1 l2 l3 l4 c0 c1 c2 c3 c4 c5 c6 c7
  go_enter Try.func14, Try.ntmps14
  go_wp2_with fail
  refine (s_RouteOk (reach hr ?hB) hnr).mono ?_
  case hB => exact (belx)
  rintro e w1 ⟨rfl, hb1⟩
  rw [K1.out]
  have hX1 : Box w1 w.heap.size 38 #[.slice none 0 0] := (Box.new _ _ _).below hb1 (by simp)
  have hB1 : Below w.heap.size w w1 := bel_trans (belx) hb1
  have x0 := hX1.cell 0
  have f0 := hX1.frozen 0
  clear hb1
  go_wp2_with fail
  refine (s_pubs (hp.below hB1) hnp).mono ?_
  rintro e w' ⟨rfl, rfl⟩
  rw [K2.out]
  go_wp2_with fail
  refine (s_secs (hs.below hB1) hns).mono ?_
  rintro e w' ⟨rfl, rfl⟩
  rw [K4.out]
  go_wp2_with fail
  refine (s_wrap (reach hr hB1) (reach hp hB1) (reach hs hB1) (reach hl hB1) (reach hd hB1) hnd HOK.out).mono ?_
  rintro e w2 ⟨v2, rfl, hO2, hb2⟩
  have hX2 := hX1.below hb2 hX1.size
  have z1 := hX1.size
  clear x0 f0
  have x0 := hX2.cell 0; have f0 := hX2.frozen 0
  have hB2 : Below w.heap.size w w2 := bel_trans hB1 hb2
  obtain ⟨L, hL⟩ : ∃ L, padL (wrapL pubs due load route secs) pad = L := ⟨_, rfl⟩
  rw [hL] at hO2
  have HLX := Lib.hid hL
  clear hL
  obtain ⟨A1, d1', rfl, -⟩ := hO2.ints
  have e := (hX2.put 0 (.slice A1 L.length d1')).cell 0
  go_wp2
  refine bodyPost_ret (v := .tuple #[.agg #[.slice A1 L.length d1'], .bool true]) (by simp [results, Try.results14, go_sem, e]) rfl ⟨_, rfl, ?_, bel_put hB2 (Nat.le_refl _) _⟩
  show Own .u8 _ _ _ _ (padL (wrapL pubs due load route secs) pad)
  rw [HLX.out]
  exact (hO2.far (by omega) 0 _).lower (by omega)
end Go.Proofs.Ytojbicecopkfbaa
