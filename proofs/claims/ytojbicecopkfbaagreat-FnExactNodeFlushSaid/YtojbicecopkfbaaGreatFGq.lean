/-
  ImplOrd: texts joined.
-/
import Derived.Test.YtojbicecopkfbaaGreatFGc
import Derived.Test.YtojbicecopkfbaaGreatFGl
import Derived.BigRegion
import Derived.RegionTactic
namespace Go.Proofs.YtojbicecopkfbaaGreat
open Go.ChangeShapes Go.WideShapes Go.ChangeAt Go.RowKit
open Fld
set_option maxRecDepth 100000
attribute [local go_sem ↓] Go.wp_at_zero Go.wp_at_succ

theorem i_Below {w : World} {B m c : Nat} {A : Option Addr} {d : List Int} (n : Int) (hd : Ints .u8 w B A m d) (hm : m ≤ 140737488355328) :
    Calls Tryz.prog 227 #[.slice A m c, .int .i64 n] w fun e w' => e = .returned (.tuple #[.int .i64 (fbel d n).1, .int .i64 (fbel d n).2]) ∧ w = w' := by
  by_cases h1 : 1 ≤ n
  · by_cases h2 : n ≤ 256
    · have H := Lib.hid (fbel_t (d := d) ⟨h1, h2⟩)
      rw [H.out]
      have HL := Lib.hid hd.1
      have hby := by_ints hd
      have q : 0 ≤ 256 % n ∧ 256 % n ≤ 256 := ⟨Int.emod_nonneg _ (by omega), by have := Int.emod_lt_of_pos 256 (show 0 < n by omega); omega⟩
      go_enter Tryz.func227, Tryz.ntmps227
      go_wp2
      go_loop [20] (fun x => ∃ k : Nat, k ≤ m ∧ x = .int .i64 k ∧ belP d k n = belP d 0 n) (fun x => m - (intOf x).toNat)
      case atStart => exact ⟨0, by omega, rfl, rfl⟩
      case round =>
        obtain ⟨k, hk, rfl, he⟩ := hrel
        have HE := Lib.hid he
        clear he
        by_cases hlt : k < m
        · obtain ⟨b, off, rfl, _, hc, _⟩ := hd.at_ hlt
          have bx := hby.at_ k
          by_cases hx : d.getD k 0 < 256 - 256 % n
          · have HH := Lib.hid (belP_hit (d := d) (i := k) (n := n) (by rw [HL.out]; exact hlt) hx)
            obtain ⟨x, hxx⟩ : ∃ x, d.getD k 0 = x := ⟨_, rfl⟩
            rw [hxx] at hc bx hx HH
            clear hxx
            go_wp2
            go_ret2
            exact ⟨by rw [← HE.out, HH.out]; rfl, rfl⟩
          · have HH := Lib.hid (belP_miss (d := d) (i := k) (n := n) (by rw [HL.out]; exact hlt) hx)
            obtain ⟨x, hxx⟩ : ∃ x, d.getD k 0 = x := ⟨_, rfl⟩
            rw [hxx] at hc bx hx
            clear hxx
            go_wp2
            go_round
            case rel => exact ⟨k + 1, by omega, by go_num, by rw [← HH.out, HE.out]⟩
            case measure => simp [intOf]; omega
        · obtain rfl : k = m := by omega
          have HH := Lib.hid (belP_end (d := d) (i := k) (n := n) (by rw [HL.out]; exact Nat.le_refl _))
          go_wp2
          go_ret2
          exact ⟨by rw [← HE.out, HH.out]; rfl, rfl⟩
    · have H := Lib.hid (fbel_f (d := d) (n := n) (by omega))
      rw [H.out]
      go_enter Tryz.func227, Tryz.ntmps227
      go_wp2
      go_ret2
      exact ⟨rfl, rfl⟩
  · have H := Lib.hid (fbel_f (d := d) (n := n) (by omega))
    rw [H.out]
    go_enter Tryz.func227, Tryz.ntmps227
    go_wp2
    go_ret2
    exact ⟨rfl, rfl⟩
theorem bel_tail {d : List Int} {q : Nat} {n x : Int} {nx : Nat} (h1 : 1 ≤ n) (h2 : n ≤ 256) (h : belP d q n = (x, nx)) (hq : q ≤ nx) : fbel (d.drop q) n = (x, nx - q) := by
  rw [fbel_t ⟨h1, h2⟩]
  have := belP_shift d q n
  rw [h] at this
  injection this with e1 e2
  exact Prod.ext e1.symm (by show _ = nx - q; omega)
theorem iota_step {k j : Nat} : (if j = k then Value.int .i64 (k : Int) else .int .i64 (if j < k then (j : Int) else 0)) = .int .i64 (if j < k + 1 then (j : Int) else 0) := by
  by_cases h : j = k
  · subst h; rw [if_pos rfl, if_pos (by omega)]
  · by_cases h2 : j < k
    · simp [h, h2, Nat.lt_succ_of_lt h2]
    · simp [h, h2, show ¬ j < k + 1 by omega]
theorem Ints.tl {w : World} {B n b off : Nat} {l : List Int} (h : Ints .u8 w B (some ⟨b, off, none⟩) n l) (m : Nat) (hm : m ≤ n) : Ints .u8 w B (some ⟨b, off + m, none⟩) (n - m) (l.drop m) := by
  refine ⟨by rw [List.length_drop, h.1], fun h0 => ?_, fun x hx => h.2.2 x (List.mem_of_mem_drop hx)⟩
  obtain ⟨b', off', e, hb, hc⟩ := h.2.1 (by omega)
  simp only [Option.some.injEq, Addr.mk.injEq, and_true] at e
  obtain ⟨rfl, rfl⟩ := e
  refine ⟨b, off + m, rfl, hb, fun i hi => ?_⟩
  rw [getD_drop, Nat.add_assoc]
  exact hc (m + i) (by omega)
set_option maxHeartbeats 4000000 in
theorem i_shuffle_t {w : World} {m c : Nat} {A : Option Addr} {d : List Int} (n : Nat) (hd : Ints .u8 w w.heap.size A m d) (hmc : m ≤ c) (hm : m ≤ 140737488355328) (hc : c ≤ 9223372036854775807) (hn : n ≤ 64) {L : List Int} {U : Nat} (hs : shuf d (n - 1) (iota n) 0 = some (L, U)) :
    Calls Tryz.prog 203 #[.slice A m c, .int .i64 n] w fun e w' => ∃ v, e = .returned (.tuple #[v, .int .i64 U]) ∧ Own .i64 3 w' w.heap.size v L ∧ Below w.heap.size w w' := by
  have _hc' := hc
  obtain ⟨i0, hi0, hz0, hz1, hz2⟩ := info_parts info_ii
  have HL := Lib.hid hd.1
  have HS := Lib.hid hs
  clear hs
  have hby := by_ints hd
  have t1 : decide ((n : Int) < 0) = false := by simp
  have t2 : decide (64 < (n : Int)) = false := by simp; omega
  go_enter Tryz.func203, Tryz.ntmps203
  go_wp2_with (at_make; refine wpList_mk _ rfl (.tmp 18) (.tmp 18) _ rfl 3 i0 _ Tryz.underlying23 hi0 hz0 rfl hz1 n rfl rfl (by rw [hz2]; omega) (by simp only [maxLen]; omega) ?_; intro w1 hrow hB1 hsz)
  go_loopw [22] (fun i wr => ∃ k : Nat, k ≤ n ∧ i = .int .i64 k ∧ wr.rowIs w.heap.size 3 n (fun j => .int .i64 (if j < k then (j : Int) else 0)) ∧ Below w.heap.size w wr) (fun i _ => n - (intOf i).toNat)
  case atStart => exact ⟨0, by omega, rfl, hrow.congr fun j _ => rfl, hB1⟩
  case round =>
    obtain ⟨k, hk, rfl, hO, hB⟩ := hrel
    by_cases hlt : k < n
    · have hcell := hO.cell hlt
      have hfz := hO.frozen k
      go_wp2
      go_roundw
      case rel => exact ⟨k + 1, by omega, by go_num, (hO.set k _).congr fun j _ => iota_step, hB.setCell (Nat.le_refl _) _⟩
      case measure => simp [intOf]; omega
    · obtain rfl : k = n := by omega
      clear hlt hk
      obtain ⟨wo, rfl⟩ : ∃ wo : World, wo = wr := ⟨_, rfl⟩
      have hOw : Own .i64 3 wo w.heap.size (.slice (some ⟨w.heap.size, 0, none⟩) k k) (iota k) :=
        Own.of_row (hO.congr fun j hj => by rw [if_pos hj, iota_at hj]) (iota_len k) (by simp only [maxLen]; omega) (Nat.le_refl _) fun x hx => by
          have := mem_iota.1 hx
          exact WalkArith.wf_i64 (by omega)
      clear hO
      rcases Nat.eq_zero_or_pos k with h0 | hpos
      · subst h0
        have e : (L, U) = ([], 0) := by
          have := HS.out
          rw [show shuf d (0 - 1) (iota 0) 0 = some ([], 0) from rfl] at this
          injection this with this
          exact this.symm
        injection e with e1 e2
        subst e1 e2
        rw [iota_zero] at hOw
        go_wp2
        go_loopw [8, 9] (fun u i wr => u = .int .i64 0 ∧ i = .int .i64 (-1) ∧ wr = wo) (fun _ _ _ => 0)
        case atStart => exact ⟨rfl, rfl, rfl⟩
        case round =>
          obtain ⟨rfl, rfl, rfl⟩ := hrel
          go_wp2
          go_ret2
          exact ⟨_, rfl, hOw, hB⟩
      · go_wp2
        go_loopw [8, 9] (fun u i wr => ∃ (q j : Nat) (l : List Int), u = .int .i64 q ∧ i = .int .i64 j ∧ j < k ∧ q ≤ m ∧ l.length = k ∧ shuf d j l q = some (L, U) ∧ Own .i64 3 wr w.heap.size (.slice (some ⟨w.heap.size, 0, none⟩) k k) l ∧ Below w.heap.size w wr) (fun _ i _ => (intOf i).toNat)
        case atStart => exact ⟨0, k - 1, iota k, rfl, i64_eq (by omega), by omega, by omega, iota_len k, HS.out, hOw, hB⟩
        case round =>
          obtain ⟨q, j, l, rfl, rfl, hj, hq, hl, hR, hO2, hB2⟩ := hrel
          rcases Nat.eq_zero_or_pos j with h0 | hpj
          · subst h0
            rw [shuf_zero] at hR
            injection hR with hR
            injection hR with e1 e2
            subst e1 e2
            clear hOw HS
            go_wp2
            go_ret2
            exact ⟨_, rfl, hO2, hB2⟩
          · obtain ⟨x, nx, HB, HR, hx, hnx, hqn⟩ := shuf_more hby (by rw [HL.out]; exact hq) hpj hR
            rw [HL.out] at hnx
            have HT := Lib.hid (bel_tail (by omega) (by omega) HB.out (by omega))
            clear hOw HS hR
            obtain ⟨b, off, rfl, _⟩ := hd.2.1 (by omega)
            have hdt := (hd.below hB2).tl q hq
            have r1 : (0 : Int) ≤ (q : Int) := Int.natCast_nonneg _
            have r2 : (q : Int) ≤ (m : Int) := by omega
            have r3 : (m : Int) ≤ (c : Int) := by omega
            have r4 : ¬ c = q := by omega
            have r5 : ¬ q = c := by omega
            subst hl
            obtain ⟨hP, u, hc3⟩ := swp_put hO2 (i := j) (j := x) (by omega) (by omega)
            obtain ⟨g, c', e1, _, _, _, hgs, hcell, hfz⟩ := hO2.row (by omega)
            simp only [Value.slice.injEq, Option.some.injEq, Addr.mk.injEq, and_true] at e1
            obtain ⟨e1, _, e2⟩ := e1
            subst e1 e2
            have hc1 := hcell j (by omega)
            have hc2 := hcell x (by omega)
            have f1 := hfz j
            have f2 := hfz x
            have q1 : (0 : Int) ≤ (x : Int) := Int.natCast_nonneg _
            have q2 : (x : Int) < (l.length : Int) := by omega
            have q3 : (0 : Int) ≤ (j : Int) := Int.natCast_nonneg _
            have q4 : (j : Int) < (l.length : Int) := by omega
            obtain ⟨a, ha⟩ : ∃ a, l.getD j 0 = a := ⟨_, rfl⟩
            obtain ⟨b', hb'⟩ : ∃ b, l.getD x 0 = b := ⟨_, rfl⟩
            rw [ha] at hc1 hP
            rw [hb'] at hc2 hc3 hP
            have HA := Lib.hid ha
            clear ha hb' hcell hfz
            go_wp2_with (go_at_call 227; refine (i_Below _ hdt (by omega)).mono ?_; rintro e w' ⟨rfl, rfl⟩; rw [HT.out])
            go_region
            go_wp2
            go_roundw
            case rel => exact ⟨nx, j - 1, swp l j x, i64_eq (by omega), i64_eq (by omega), by omega, hnx, swp_len _ _ _, HR.out, hP, ((hB2.setCell (Nat.le_refl _) _).setCell (Nat.le_refl _) _).drew⟩
            case measure => simp [intOf]; omega
set_option maxHeartbeats 4000000 in
theorem i_shuffle_f {w : World} {m c : Nat} {A : Option Addr} {d : List Int} (n : Nat) (hd : Ints .u8 w w.heap.size A m d) (hmc : m ≤ c) (hm : m ≤ 140737488355328) (hc : c ≤ 9223372036854775807) (hn : n ≤ 64) (hA : (A = none ∧ c = 0) ∨ ∃ b off, A = some ⟨b, off, none⟩) (hs : shuf d (n - 1) (iota n) 0 = none) :
    Calls Tryz.prog 203 #[.slice A m c, .int .i64 n] w fun e w' => e = .returned (.tuple #[.slice none 0 0, .int .i64 (-1)]) ∧ Below w.heap.size w w' := by
  obtain ⟨i0, hi0, hz0, hz1, hz2⟩ := info_parts info_ii
  have HL := Lib.hid hd.1
  have HS := Lib.hid hs
  clear hs
  have hby := by_ints hd
  have t1 : decide ((n : Int) < 0) = false := by simp
  have t2 : decide (64 < (n : Int)) = false := by simp; omega
  go_enter Tryz.func203, Tryz.ntmps203
  go_wp2_with (at_make; refine wpList_mk _ rfl (.tmp 18) (.tmp 18) _ rfl 3 i0 _ Tryz.underlying23 hi0 hz0 rfl hz1 n rfl rfl (by rw [hz2]; omega) (by simp only [maxLen]; omega) ?_; intro w1 hrow hB1 hsz)
  go_loopw [22] (fun i wr => ∃ k : Nat, k ≤ n ∧ i = .int .i64 k ∧ wr.rowIs w.heap.size 3 n (fun j => .int .i64 (if j < k then (j : Int) else 0)) ∧ Below w.heap.size w wr) (fun i _ => n - (intOf i).toNat)
  case atStart => exact ⟨0, by omega, rfl, hrow.congr fun j _ => rfl, hB1⟩
  case round =>
    obtain ⟨k, hk, rfl, hO, hB⟩ := hrel
    by_cases hlt : k < n
    · have hcell := hO.cell hlt
      have hfz := hO.frozen k
      go_wp2
      go_roundw
      case rel => exact ⟨k + 1, by omega, by go_num, (hO.set k _).congr fun j _ => iota_step, hB.setCell (Nat.le_refl _) _⟩
      case measure => simp [intOf]; omega
    · obtain rfl : k = n := by omega
      clear hlt hk
      obtain ⟨wo, rfl⟩ : ∃ wo : World, wo = wr := ⟨_, rfl⟩
      have hOw : Own .i64 3 wo w.heap.size (.slice (some ⟨w.heap.size, 0, none⟩) k k) (iota k) :=
        Own.of_row (hO.congr fun j hj => by rw [if_pos hj, iota_at hj]) (iota_len k) (by simp only [maxLen]; omega) (Nat.le_refl _) fun x hx => by
          have := mem_iota.1 hx
          exact WalkArith.wf_i64 (by omega)
      clear hO
      rcases Nat.eq_zero_or_pos k with h0 | hpos
      · subst h0
        exact absurd HS.out (by rw [show shuf d (0 - 1) (iota 0) 0 = some ([], 0) from rfl]; simp)
      · go_wp2
        go_loopw [8, 9] (fun u i wr => ∃ (q j : Nat) (l : List Int), u = .int .i64 q ∧ i = .int .i64 j ∧ j < k ∧ q ≤ m ∧ l.length = k ∧ shuf d j l q = none ∧ Own .i64 3 wr w.heap.size (.slice (some ⟨w.heap.size, 0, none⟩) k k) l ∧ Below w.heap.size w wr) (fun _ i _ => (intOf i).toNat)
        case atStart => exact ⟨0, k - 1, iota k, rfl, i64_eq (by omega), by omega, by omega, iota_len k, HS.out, hOw, hB⟩
        case round =>
          obtain ⟨q, j, l, rfl, rfl, hj, hq, hl, hR, hO2, hB2⟩ := hrel
          rcases Nat.eq_zero_or_pos j with h0 | hpj
          · subst h0
            rw [shuf_zero] at hR
            cases hR
          · rcases shuf_none hby (by rw [HL.out]; exact hq) hpj hR with ⟨nx, HB, hqn⟩ | ⟨x, nx, HB, HR, hx, hnx, hqn⟩
            · have HT := Lib.hid (bel_tail (by omega) (by omega) HB.out hqn)
              clear hOw HS hR HB
              have r1 : (0 : Int) ≤ (q : Int) := Int.natCast_nonneg _
              have r2 : (q : Int) ≤ (m : Int) := by omega
              have r3 : (m : Int) ≤ (c : Int) := by omega
              subst hl
              rcases hA with ⟨rfl, rfl⟩ | ⟨b, off, rfl⟩
              · obtain rfl : m = 0 := by omega
                obtain rfl : q = 0 := by omega
                have hdt : Ints .u8 wr w.heap.size none 0 (d.drop 0) := by rw [List.drop_zero]; exact hd.below hB2
                go_wp2_with (go_at_call 227; refine (i_Below _ hdt (by omega)).mono ?_; rintro e w' ⟨rfl, rfl⟩; rw [HT.out])
                go_ret2
                exact ⟨rfl, hB2⟩
              · by_cases r4 : c = q
                · subst r4
                  obtain rfl : m = c := by omega
                  have hdt : Ints .u8 wr w.heap.size (some ⟨b, off, none⟩) 0 (d.drop m) := ⟨by rw [List.length_drop, HL.out]; omega, fun h => absurd h (by omega), fun y hy => hd.2.2 y (List.mem_of_mem_drop hy)⟩
                  go_wp2_with (go_at_call 227; refine (i_Below _ hdt (by omega)).mono ?_; rintro e w' ⟨rfl, rfl⟩; rw [HT.out])
                  go_ret2
                  exact ⟨rfl, hB2⟩
                · have r5 : ¬ q = c := fun h => r4 h.symm
                  have hdt := (hd.below hB2).tl q hq
                  go_wp2_with (go_at_call 227; refine (i_Below _ hdt (by omega)).mono ?_; rintro e w' ⟨rfl, rfl⟩; rw [HT.out])
                  go_ret2
                  exact ⟨rfl, hB2⟩
            rw [HL.out] at hnx
            have HT := Lib.hid (bel_tail (by omega) (by omega) HB.out (by omega))
            clear hOw HS hR
            obtain ⟨b, off, rfl, _⟩ := hd.2.1 (by omega)
            have hdt := (hd.below hB2).tl q hq
            have r1 : (0 : Int) ≤ (q : Int) := Int.natCast_nonneg _
            have r2 : (q : Int) ≤ (m : Int) := by omega
            have r3 : (m : Int) ≤ (c : Int) := by omega
            have r4 : ¬ c = q := by omega
            have r5 : ¬ q = c := by omega
            subst hl
            obtain ⟨hP, u, hc3⟩ := swp_put hO2 (i := j) (j := x) (by omega) (by omega)
            obtain ⟨g, c', e1, _, _, _, hgs, hcell, hfz⟩ := hO2.row (by omega)
            simp only [Value.slice.injEq, Option.some.injEq, Addr.mk.injEq, and_true] at e1
            obtain ⟨e1, _, e2⟩ := e1
            subst e1 e2
            have hc1 := hcell j (by omega)
            have hc2 := hcell x (by omega)
            have f1 := hfz j
            have f2 := hfz x
            have q1 : (0 : Int) ≤ (x : Int) := Int.natCast_nonneg _
            have q2 : (x : Int) < (l.length : Int) := by omega
            have q3 : (0 : Int) ≤ (j : Int) := Int.natCast_nonneg _
            have q4 : (j : Int) < (l.length : Int) := by omega
            obtain ⟨a, ha⟩ : ∃ a, l.getD j 0 = a := ⟨_, rfl⟩
            obtain ⟨b', hb'⟩ : ∃ b, l.getD x 0 = b := ⟨_, rfl⟩
            rw [ha] at hc1 hP
            rw [hb'] at hc2 hc3 hP
            have HA := Lib.hid ha
            clear ha hb' hcell hfz
            go_wp2_with (go_at_call 227; refine (i_Below _ hdt (by omega)).mono ?_; rintro e w' ⟨rfl, rfl⟩; rw [HT.out])
            go_region
            go_wp2
            go_roundw
            case rel => exact ⟨nx, j - 1, swp l j x, i64_eq (by omega), i64_eq (by omega), by omega, hnx, swp_len _ _ _, HR.out, hP, ((hB2.setCell (Nat.le_refl _) _).setCell (Nat.le_refl _) _).drew⟩
            case measure => simp [intOf]; omega
attribute [local go_sem] st_complex
end Go.Proofs.YtojbicecopkfbaaGreat
