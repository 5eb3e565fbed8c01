/-
  DrawThr: texts joined.
-/
import Derived.Test.YtnfmjgldcnokbaaKGh
import Derived.Test.YtnfmjgldcnokbaaKGi
import Derived.Test.YtnfmjgldcnokbaaKGj
namespace Go.Proofs.Ytnfmjgldcnokbaa
set_option maxRecDepth 100000
set_option linter.unusedVariables false
set_option linter.unusedSimpArgs false
open Go.ChangeShapes Go.WideShapes Go.ChangeAt Go.RowKit
open Fld
theorem gb_over {a b c : World} {g : Nat} {row : Option Nat} (h : a.grownBy b (some g)) (k : b.grownBy c row) (hr : ∀ r, row = some r → a.heap.size ≤ r) : a.grownBy c (some g) :=
  ⟨k.os.trans h.os, k.tape.trans h.tape, k.output.trans h.output, Nat.le_trans h.size k.size, fun i hi hn => (k.block i (Nat.lt_of_lt_of_le hi h.size) (fun e => by have := hr i e.symm; omega)).trans (h.block i hi hn)⟩
/-- What a draw leaves alone: all but the cursor's block. -/
theorem own_draw {K : IntKind} {e : TypeId} {w w' : World} {base g : Nat} {v : Value} {l : List Int} (h : Own K e w base v l) (hg : w.grownBy w' (some g)) (hb : g < base) : Own K e w' base v l :=
  h.kept hg (.inr (fun e => by have := (h.block e).1; omega))
theorem gb_new {a w w' : World} {g : Nat} {o : Obj} {row : Option Nat} (h : a.grownBy w (some g)) (k : (w.alloc o).grownBy w' row) (hr : ∀ r, row = some r → a.heap.size ≤ r) : a.grownBy w' (some g) := gb_over (gb_alloc h o) k hr
theorem curs_new {w w' : World} {g n c B : Nat} {A : Option Addr} {l : List Int} {o : Obj} {row : Option Nat} (h : Curs w g A n c l) (k : (w.alloc o).grownBy w' row) (hB : g < B) (hBw : B ≤ w.heap.size) (hr : ∀ r, row = some r → B ≤ r) : Curs w' g A n c l :=
  (h.alloc o).below (B := B) ((Below.refl _ _).grown k (by simp; omega) (fun b hb => hr b hb)) hB
theorem info_c3 : (Try.prog.info? 3).map (fun i => (i.zero, i.size, i.bytes)) = some (some (.int .i64 0), 1, 8) := by kernel_rfl
theorem u8_mod (d : Int) : IntKind.u8.wrap d = d % 256 := by
  unfold IntKind.wrap IntKind.bits IntKind.signed; simp
theorem k_mul3 (a : Int) (w : World) (h1 : 0 ≤ a) (h2 : a ≤ 2147484000) :
    Calls Try.prog 86 #[.int .i64 a, .int .i64 48271] w fun e w' => ∃ y : Int, e = .returned (.int .i64 y) ∧ 0 ≤ y ∧ y < 2147483647 ∧ w = w' := by
  go_enter Try.func86, Try.ntmps86
  go_wp2
  go_ret
  exact ⟨_, rfl, by omega, by omega, rfl⟩
theorem k_sec (a : World) {w : World} {g n c : Nat} {A : Option Addr} {l : List Int} (h : Curs w g A n c l) (hG : a.grownBy w (some g)) :
    Calls Try.prog 85 #[.pointer (some ⟨g, 0, none⟩)] w fun e w' => ∃ x : Int, e = .returned (.int .i64 x) ∧ 1 ≤ x ∧ x ≤ 1073741824 ∧ Curs w' g A n c l ∧ a.grownBy w' (some g) := by
  go_enter Try.func85, Try.ntmps85
  go_wp2_with (go_at_call 38; refine (k_Below a _ h hG (by omega) (by omega)).mono ?_; rintro e w1 ⟨x, rfl, hx0, hx1, hC1, hG1⟩)
  go_ret
  exact ⟨_, rfl, by omega, by omega, hC1, hG1⟩
set_option maxHeartbeats 1000000 in
theorem k_fresh {w : World} {g n c : Nat} {A : Option Addr} {l : List Int} (m : Nat) (hm : m ≤ 64) (h : Curs w g A n c l) :
    Calls Try.prog 40 #[.pointer (some ⟨g, 0, none⟩), .int .i64 m] w fun e w' => ∃ v l', e = .returned v ∧ Own .i64 3 w' w.heap.size v l' ∧ l'.length = m ∧ Curs w' g A n c l ∧ w.grownBy w' (some g) := by
  obtain ⟨i0, hi0, hz0, hz1, hz2⟩ := info_parts info_c3
  have hgs := h.size
  have hG0 := gb_self w g
  go_enter Try.func40, Try.ntmps40
  go_wp2_with fail
  go_loopw [5, 6] (fun v i wr => ∃ (k : Nat) (l' : List Int), k ≤ m ∧ i = .int .i64 k ∧ l'.length = k ∧ Own .i64 3 wr w.heap.size v l' ∧ Curs wr g A n c l ∧ w.grownBy wr (some g)) (fun _ i _ => m - (intOf i).toNat)
  case atStart => exact ⟨0, [], by omega, rfl, rfl, Own.nil _ _ _ _, h, hG0⟩
  case round =>
    obtain ⟨k, l', hk, rfl, hlen, hO, hC, hG⟩ := hrel
    have HL := Lib.hid hlen
    have zw := hG.size
    clear hlen
    by_cases hlt : k < m
    · go_wp2_with (first
        | (go_at_call 85; refine (k_sec wr hC (gb_self wr g)).mono ?_; rintro e w2 ⟨y, rfl, hy0, hy1, hC2, hG2⟩; have hO2 := own_draw hO hG2 hgs; have zw2 := hG2.size)
        | (at_builtin; refine wpList_app _ rfl (.tmp 12) (.tmp 15) _ rfl w.heap.size 3 i0 _ 1 8 Try.underlying23 hi0 hz0 hz1 hz2 rfl (by omega) _ _ _ rfl (hO2.1.alloc _) _ 1 1 [.int .i64 y] rfl (Src.one _ _ _) (one_int _ _) (by simp only [maxLen]; rw [HL.out]; omega) (by rw [HL.out]; omega) (by simp; omega) ?_; intro v3 w3 hown hgr hat))
      have hGw := gb_trans hG hG2
      have hO3 := own_sn hO2 hown rfl (WalkArith.wf_i64 ⟨by omega, by omega⟩)
      go_roundw
      case rel => exact ⟨k + 1, l' ++ [y], by omega, by go_num, by rw [List.length_append, HL.out]; rfl, hO3, curs_new hC2 hgr hgs (by omega) (fun r hr => (hO2.block hr).1), gb_new hGw hgr (fun r hr => (hO2.block hr).1)⟩
      case measure => simp [intOf]; omega
    · obtain rfl : k = m := by omega
      go_wp2
      go_ret
      exact ⟨_, _, rfl, hO, HL.out, hC, hG⟩
set_option maxHeartbeats 1000000 in
theorem k_someG {w : World} {g n c : Nat} {A : Option Addr} {l : List Int} (m : Int) (h : Curs w g A n c l) (h0 : 0 ≤ m) (h1 : m ≤ 200) :
    Calls Try.prog 41 #[.pointer (some ⟨g, 0, none⟩), .int .i64 m] w fun e w' => ∃ v l', e = .returned v ∧ Own .u8 5 w' w.heap.size v l' ∧ (l'.length : Int) ≤ m ∧ Curs w' g A n c l ∧ w.grownBy w' (some g) := by
  obtain ⟨i0, hi0, hz0, hz1, hz2⟩ := info_parts info_by
  have hgs := h.size
  go_enter Try.func41, Try.ntmps41
  go_wp2_with (go_at_call 38; refine (k_Below w _ h (gb_self w g) (by omega) (by omega)).mono ?_; rintro e w1 ⟨x, rfl, hx0, hx1, hC1, hG1⟩; obtain ⟨p, rfl⟩ := Int.eq_ofNat_of_zero_le hx0)
  go_loopw [5, 7] (fun v i wr => ∃ (k : Nat) (l' : List Int), k ≤ p ∧ i = .int .i64 k ∧ l'.length = k ∧ Own .u8 5 wr w.heap.size v l' ∧ Curs wr g A n c l ∧ w.grownBy wr (some g)) (fun _ i _ => p - (intOf i).toNat)
  case atStart => exact ⟨0, [], by omega, rfl, rfl, Own.nil _ _ _ _, hC1, hG1⟩
  case round =>
    obtain ⟨k, l', hk, rfl, hlen, hO, hC, hG⟩ := hrel
    have HL := Lib.hid hlen
    have zw := hG.size
    clear hlen
    by_cases hlt : k < p
    · go_wp2_with (first
        | (go_at_call 84; refine (k_Byte hC).mono ?_; rintro e w2 ⟨y, rfl, hy0, hy1, hC2, hG2⟩; have hO2 := own_draw hO hG2 hgs; have zw2 := hG2.size)
        | (at_builtin; refine wpList_app _ rfl (.tmp 17) (.tmp 21) _ rfl w.heap.size 5 i0 _ 1 1 Try.underlying22 hi0 hz0 hz1 hz2 rfl (by omega) _ _ _ rfl (hO2.1.alloc _) _ 1 1 [.int .u8 y] rfl (Src.one _ _ _) (one_int _ _) (by simp only [maxLen]; rw [HL.out]; omega) (by rw [HL.out]; omega) (by simp; omega) ?_; intro v3 w3 hown hgr hat))
      have hGw := gb_trans hG hG2
      have hO3 := own_sn hO2 hown rfl (wf8 (by omega))
      go_roundw
      case rel => exact ⟨k + 1, l' ++ [y], by omega, by go_num, by rw [List.length_append, HL.out]; rfl, hO3, curs_new hC2 hgr hgs (by omega) (fun r hr => (hO2.block hr).1), gb_new hGw hgr (fun r hr => (hO2.block hr).1)⟩
      case measure => simp [intOf]; omega
    · obtain rfl : k = p := by omega
      go_wp2
      go_ret
      exact ⟨_, _, rfl, hO, by rw [HL.out]; omega, hC, hG⟩
set_option maxHeartbeats 1000000 in
theorem k_pad3 {w : World} {g n c : Nat} {A : Option Addr} {l : List Int} (h : Curs w g A n c l) :
    Calls Try.prog 42 #[.pointer (some ⟨g, 0, none⟩)] w fun e w' => ∃ v l', e = .returned v ∧ Own .u8 5 w' w.heap.size v l' ∧ l'.length = 80 ∧ Curs w' g A n c l ∧ w.grownBy w' (some g) := by
  obtain ⟨i0, hi0, hz0, hz1, hz2⟩ := info_parts info_by
  have hgs := h.size
  go_enter Try.func42, Try.ntmps42
  go_wp2_with (go_at_call 38; refine (k_Below w _ h (gb_self w g) (by omega) (by omega)).mono ?_; rintro e w1 ⟨x, rfl, hx0, hx1, hC1, hG1⟩)
  go_loopw [3, 4, 5] (fun v xv i wr => ∃ (k : Nat) (l' : List Int) (x : Int), k ≤ 80 ∧ i = .int .i64 k ∧ l'.length = k ∧ Own .u8 5 wr w.heap.size v l' ∧ Curs wr g A n c l ∧ w.grownBy wr (some g) ∧ xv = .int .i64 x ∧ 0 ≤ x ∧ x < 2147483647) (fun _ _ i _ => 80 - (intOf i).toNat)
  case atStart => exact ⟨0, [], _, by omega, rfl, rfl, Own.nil _ _ _ _, hC1, hG1, rfl, by omega, by omega⟩
  case round =>
    obtain ⟨k, l', x, hk, rfl, hlen, hO, hC, hG, rfl, hx0, hx1⟩ := hrel
    have HL := Lib.hid hlen
    have zw := hG.size
    clear hlen
    by_cases hlt : k < 80
    · go_wp2_with (first
        | (go_at_call 86; refine (k_mul3 _ _ (by omega) (by omega)).mono ?_; rintro e w2 ⟨y, rfl, hy0, hy1, rfl⟩; have q1 : y.tdiv 64 = y / 64 := Int.tdiv_eq_ediv_of_nonneg hy0; have q2 : IntKind.i64.wrap (y / 64) = y / 64 := IntWalk.i64_in _ (by omega))
        | (at_builtin; refine wpList_app _ rfl (.tmp 17) (.tmp 21) _ rfl w.heap.size 5 i0 _ 1 1 Try.underlying22 hi0 hz0 hz1 hz2 rfl (by omega) _ _ _ rfl (hO.1.alloc _) _ 1 1 [.int .u8 (IntKind.u8.wrap (y / 64))] rfl (Src.one _ _ _) (one_int _ _) (by simp only [maxLen]; rw [HL.out]; omega) (by rw [HL.out]; omega) (by simp; omega) ?_; intro v3 w3 hown hgr hat))
      have hO3 := own_sn hO hown rfl (wf8 (by rw [u8_mod]; omega))
      go_roundw
      case rel => exact ⟨k + 1, l' ++ [IntKind.u8.wrap (y / 64)], y, by omega, by go_num, by rw [List.length_append, HL.out]; rfl, hO3, curs_new hC hgr hgs (by omega) (fun r hr => (hO.block hr).1), gb_new hG hgr (fun r hr => (hO.block hr).1), rfl, hy0, hy1⟩
      case measure => simp [intOf]; omega
    · obtain rfl : k = 80 := by omega
      go_wp2
      go_ret
      exact ⟨_, _, rfl, hO, HL.out, hC, hG⟩
theorem apart_app3 {v v1 u : Value} {H H' : Nat} (hap : v.ownBlock = none ∨ v.ownBlock ≠ u.ownBlock) (hat : v1.ownBlock = v.ownBlock ∨ v1.ownBlock = some H') (hu : ∀ b, u.ownBlock = some b → b < H) (hH : H ≤ H') : v1.ownBlock = none ∨ v1.ownBlock ≠ u.ownBlock := by
  rcases hat with h | h
  · rw [h]; exact hap
  · right; rw [h]; intro e
    have := hu _ e.symm; omega
theorem apart_sy3 {a b : Option Nat} (h : a = none ∨ a ≠ b) : b = none ∨ b ≠ a := by
  rcases h with rfl | h
  · cases b <;> simp
  · exact .inr (Ne.symm h)
set_option maxHeartbeats 2000000 in
theorem k_nodes {w : World} {seed : Int} (h0 : 0 ≤ seed) (h1 : seed ≤ 1000) :
    Calls Try.prog 37 #[.int .i64 seed] w fun e w' => ∃ v u l2, e = .returned (.tuple #[v, u]) ∧ Own .i64 3 w' w.heap.size u l2 ∧ l2.length = 8 ∧ Below w.heap.size w w' := by
  obtain ⟨i0, hi0, hz0, hz1, hz2⟩ := info_parts info_c3
  go_enter Try.func37, Try.ntmps37
  go_wp2_with fail
  go_loopw [4, 5, 6] (fun v u i wr => ∃ (j : Nat) (l1 l2 : List Int), j ≤ 8 ∧ i = .int .i64 j ∧ l1.length = j ∧ l2.length = j ∧ Own .i64 3 wr w.heap.size v l1 ∧ Own .i64 3 wr w.heap.size u l2 ∧ (v.ownBlock = none ∨ v.ownBlock ≠ u.ownBlock) ∧ Below w.heap.size w wr) (fun _ _ i _ => 8 - (intOf i).toNat)
  case atStart => exact ⟨0, [], [], by omega, rfl, rfl, rfl, Own.nil _ _ _ _, Own.nil _ _ _ _, .inl rfl, (belx)⟩
  case round =>
    obtain ⟨j, T1, T2, hj, rfl, hl1, hl2, hV, hU, hap, hB⟩ := hrel
    by_cases hlt : j < 8
    · have y1 : 1 ≤ 1 + (seed * 1009 + (j : Int) * 7919 + 12345) % 1000000000 := by omega
      have y2 : 1 + (seed * 1009 + (j : Int) * 7919 + 12345) % 1000000000 ≤ 1000000000 := by omega
      have rgp := powP_rg 7 (1 + (seed * 1009 + (j : Int) * 7919 + 12345) % 1000000000).toNat
      obtain ⟨pw, hpw⟩ : ∃ pw, powP 7 (1 + (seed * 1009 + (j : Int) * 7919 + 12345) % 1000000000).toNat = pw := ⟨_, rfl⟩
      have HPW := Lib.hid hpw
      rw [hpw] at rgp
      have p1 := rgp.1
      have p2 := rgp.2
      have HL1 := Lib.hid hl1
      have HL2 := Lib.hid hl2
      have m1 : T1.length ≤ 8 := by omega
      have m2 : T2.length ≤ 8 := by omega
      have zw := hB.size
      have HTK := Lib.hid trivial
      clear rgp hpw hl1 hl2
      go_wp2_with (first
        | (at_builtin; have _t := HTK; refine wpList_app _ rfl (.tmp 20) (.tmp 22) _ rfl w.heap.size 3 i0 _ 1 8 Try.underlying23 hi0 hz0 hz1 hz2 rfl (by omega) _ _ _ rfl (hV.1.alloc _) _ 1 1 [.int .i64 (1 + (seed * 1009 + (j : Int) * 7919 + 12345) % 1000000000)] rfl (Src.one _ _ _) (one_int _ _) (by simp only [maxLen]; omega) (by omega) (by simp; omega) ?_; intro v1 w1 hown hgr hat; clear HTK; have hV1 := own_sn hV hown rfl (WalkArith.wf_i64 ⟨by omega, by omega⟩); have hU1 : Own .i64 3 w1 w.heap.size _ T2 := (hU.alloc _).kept hgr (apart_sy3 hap); have hB1 := below_sn hB hV (Nat.le_refl _) hgr; have hap1 := apart_app3 (H := wr.heap.size) hap hat (fun b hb => (hU.block hb).2) (by simp); have zw1 := hB1.size)
        | (go_at_call 83; refine (s_pow 7 (1 + (seed * 1009 + (j : Int) * 7919 + 12345) % 1000000000) _ (by omega) (by omega) (by omega) (by omega)).mono ?_; rintro e w' ⟨rfl, rfl⟩; rw [HPW.out])
        | (at_builtin; refine wpList_app _ rfl (.tmp 24) (.tmp 27) _ rfl w.heap.size 3 i0 _ 1 8 Try.underlying23 hi0 hz0 hz1 hz2 rfl (by omega) _ _ _ rfl (hU1.1.alloc _) _ 1 1 [.int .i64 pw] rfl (Src.one _ _ _) (one_int _ _) (by simp only [maxLen]; omega) (by omega) (by simp; omega) ?_; intro v2 w2 hown2 hgr2 hat2; have hU3 := own_sn hU1 hown2 rfl (WalkArith.wf_i64 ⟨by omega, by omega⟩); have hV3 := (hV1.alloc _).kept hgr2 hap1; have hB3 := below_sn hB1 hU1 (Nat.le_refl _) hgr2; have hap3 := apart_sy3 (apart_app3 (H := w1.heap.size) (apart_sy3 hap1) hat2 (fun b hb => (hV1.block hb).2) (by simp))))
      go_roundw
      case rel => exact ⟨j + 1, _, _, by omega, by go_num, by rw [List.length_append, HL1.out]; rfl, by rw [List.length_append, HL2.out]; rfl, hV3, hU3, hap3, hB3⟩
      case measure => simp [intOf]; omega
    · obtain rfl : j = 8 := by omega
      go_wp2
      go_ret2
      exact ⟨_, _, _, rfl, hU, hl2, hB⟩
set_option maxHeartbeats 2000000 in
theorem k_route {w : World} {g n c : Nat} {A : Option Addr} {l : List Int} (h : Curs w g A n c l) :
    Calls Try.prog 39 #[.pointer (some ⟨g, 0, none⟩)] w fun e w' => ∃ v l', e = .returned v ∧ Own .i64 3 w' w.heap.size v l' ∧ 1 ≤ l'.length ∧ l'.length ≤ 4 ∧ Curs w' g A n c l ∧ w.grownBy w' (some g) := by
  obtain ⟨i0, hi0, hz0, hz1, hz2⟩ := info_parts info_c3
  have hgs := h.size
  go_enter Try.func39, Try.ntmps39
  go_wp2_with fail
  refine (k_Below w 4 h (gb_self w g) (by omega) (by omega)).mono ?_
  rintro e w1 ⟨x0, rfl, hx0, hx1, hC1, hG1⟩
  obtain ⟨p, hp⟩ : ∃ p : Nat, 1 + x0 = (p : Int) := ⟨(1 + x0).toNat, by omega⟩
  obtain rfl : x0 = (p : Int) - 1 := by omega
  have p1 : 1 ≤ p := by omega
  have p4 : p ≤ 4 := by omega
  have hw : IntKind.i64.wrap (1 + ((p : Int) - 1)) = (p : Int) := by rw [hp]; exact IntWalk.i64_in _ (by omega)
  go_wp2_with fail
  clear hw hx0 hx1
  have HPP := Lib.hid hp
  clear hp
  go_loopw [3, 5] (fun v i wr => ∃ (k : Nat) (l' : List Int), k ≤ p ∧ i = .int .i64 k ∧ l'.length = k ∧ Own .i64 3 wr w.heap.size v l' ∧ Curs wr g A n c l ∧ w.grownBy wr (some g)) (fun _ i _ => p - (intOf i).toNat)
  case atStart => exact ⟨0, [], by omega, rfl, rfl, Own.nil _ _ _ _, hC1, hG1⟩
  case round =>
    obtain ⟨k, l', hk, rfl, hlen, hO, hC, hG⟩ := hrel
    have HL := Lib.hid hlen
    have m1 : l'.length ≤ 4 := by omega
    have zw := hG.size
    by_cases hlt : k < p
    · go_wp2_with fail
      refine (k_Below wr 8 hC (gb_self wr g) (by omega) (by omega)).mono ?_
      rintro e w2 ⟨x, rfl, hx0, hx1, hC2, hG2⟩
      have hO2 := own_draw hO hG2 hgs
      have zw2 := hG2.size
      have hGw := gb_trans hG hG2
      by_cases hk0 : k = 0
      · subst hk0
        clear hlen
        go_wp2_with (at_builtin; refine wpList_app _ rfl (.tmp 31) (.tmp 33) _ rfl w.heap.size 3 i0 _ 1 8 Try.underlying23 hi0 hz0 hz1 hz2 rfl (by omega) _ _ _ rfl (hO2.1.alloc _) _ 1 1 [.int .i64 x] rfl (Src.one _ _ _) (one_int _ _) (by simp only [maxLen]; omega) (by omega) (by simp; omega) ?_; intro v3 w3 hown hgr hat)
        have hO3 := own_sn hO2 hown rfl (WalkArith.wf_i64 ⟨by omega, by omega⟩)
        go_roundw
        case rel => exact ⟨0 + 1, l' ++ [x], by omega, by go_num, by rw [List.length_append, HL.out]; rfl, hO3, curs_new hC2 hgr hgs (by omega) (fun r hr => (hO2.block hr).1), gb_new hGw hgr (fun r hr => (hO2.block hr).1)⟩
        case measure => simp [intOf]; omega
      · obtain ⟨g2, c2, rfl, hcc, hcm, hgw, hgz, hcell, hfz⟩ := hO2.row (by omega)
        have hce := hcell (k - 1) (by omega)
        obtain ⟨y, hy⟩ : ∃ y, l'.getD (k - 1) 0 = y := ⟨_, rfl⟩
        rw [hy] at hce
        rw [hlen] at hO2 hO hcc ⊢
        have ek : ((k - 1 : Nat) : Int) = (k : Int) - 1 := by omega
        have wk : IntKind.i64.wrap ((k : Int) - 1) = ((k - 1 : Nat) : Int) := by rw [← ek]; exact IntWalk.i64_in _ (by omega)
        have k0 : (0 : Int) < (k : Int) := by omega
        have k1 : (0 : Int) ≤ (k : Int) - 1 := by omega
        have k2 : (k : Int) - 1 < (k : Int) := by omega
        have t1 : ((k : Int) - 1).toNat = k - 1 := by omega
        clear hcell hfz hy hlen
        by_cases hxy : y = x
        · subst hxy
          go_wp2_with (at_builtin; refine wpList_app _ rfl (.tmp 31) (.tmp 33) _ rfl w.heap.size 3 i0 _ 1 8 Try.underlying23 hi0 hz0 hz1 hz2 rfl (by omega) _ _ _ rfl (hO2.1.alloc _) _ 1 1 [.int .i64 ((y + 1) % 8)] rfl (Src.one _ _ _) (one_int _ _) (by simp only [maxLen]; omega) (by omega) (by simp; omega) ?_; intro v3 w3 hown hgr hat)
          have hO3 := own_sn hO2 hown rfl (WalkArith.wf_i64 ⟨by omega, by omega⟩)
          go_roundw
          case rel => exact ⟨k + 1, l' ++ [(y + 1) % 8], by omega, by go_num, by rw [List.length_append, HL.out]; rfl, hO3, curs_new hC2 hgr hgs (by omega) (fun r hr => (hO2.block hr).1), gb_new hGw hgr (fun r hr => (hO2.block hr).1)⟩
          case measure => simp [intOf]; omega
        · have hne : (y == x) = false := by simpa using hxy
          go_wp2_with (at_builtin; refine wpList_app _ rfl (.tmp 31) (.tmp 33) _ rfl w.heap.size 3 i0 _ 1 8 Try.underlying23 hi0 hz0 hz1 hz2 rfl (by omega) _ _ _ rfl (hO2.1.alloc _) _ 1 1 [.int .i64 x] rfl (Src.one _ _ _) (one_int _ _) (by simp only [maxLen]; omega) (by omega) (by simp; omega) ?_; intro v3 w3 hown hgr hat)
          have hO3 := own_sn hO2 hown rfl (WalkArith.wf_i64 ⟨by omega, by omega⟩)
          go_roundw
          case rel => exact ⟨k + 1, l' ++ [x], by omega, by go_num, by rw [List.length_append, HL.out]; rfl, hO3, curs_new hC2 hgr hgs (by omega) (fun r hr => (hO2.block hr).1), gb_new hGw hgr (fun r hr => (hO2.block hr).1)⟩
          case measure => simp [intOf]; omega
    · obtain rfl : k = p := by omega
      go_wp2
      go_ret
      exact ⟨_, _, rfl, hO, by omega, by omega, hC, hG⟩
end Go.Proofs.Ytnfmjgldcnokbaa
