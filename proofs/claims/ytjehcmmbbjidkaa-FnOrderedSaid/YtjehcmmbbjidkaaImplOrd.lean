/-
  Contracts of the program's draws and orders of chapter 2.
-/
import Derived.Test.YtjehcmmbbjidkaaSpecOrd
import Derived.Test.YtjehcmmbbjidkaaCpx
import Derived.RegionTactic
import Derived.BigRegion
namespace Go.Proofs.Ytjehcmmbbjidkaa
open Go.ChangeShapes Go.WideShapes Go.ChangeAt Go.RowKit
open Fld
set_option maxRecDepth 100000
attribute [local go_sem ↓] Go.wp_at_zero Go.wp_at_succ

theorem i_Needed (n : Int) (w : World) :
    Calls Try.prog 11 #[.int .i64 n] w fun e w' => e = .returned (.int .i64 (fneed n)) ∧ w = w' := by
  by_cases h0 : 0 ≤ n
  · by_cases h1 : n ≤ 64
    · by_cases hz : n = 0
      · subst hz
        go_enter Try.func11, Try.ntmps11
        go_wp2
        go_ret
        exact ⟨rfl, rfl⟩
      · have H := Lib.hid (show fneed n = n - 1 by unfold fneed; rw [if_pos ⟨h0, h1⟩, if_neg hz])
        have d1 : ¬ n - 1 < 0 := by omega
        have d2 : ¬ n - 1 ≤ 0 ∨ n = 1 := by omega
        go_enter Try.func11, Try.ntmps11
        go_wp2
        go_ret
        exact ⟨ret_i64' H.out.symm, rfl⟩
    · have H := Lib.hid (show fneed n = -1 from if_neg (by omega))
      go_enter Try.func11, Try.ntmps11
      go_wp2
      go_ret
      exact ⟨ret_i64' H.out.symm, rfl⟩
  · have H := Lib.hid (show fneed n = -1 from if_neg (by omega))
    go_enter Try.func11, Try.ntmps11
    go_wp2
    go_ret
    exact ⟨ret_i64' H.out.symm, rfl⟩
theorem i_Below {w : World} {B m c : Nat} {A : Option Addr} {d : List Int} (n : Int) (hd : Ints .u8 w B A m d) (hm : m ≤ 140737488355328) :
    Calls Try.prog 35 #[.slice A m c, .int .i64 n] w fun e w' => e = .returned (.tuple #[.int .i64 (fbel d n).1, .int .i64 (fbel d n).2]) ∧ w = w' := by
  by_cases h1 : 1 ≤ n
  · by_cases h2 : n ≤ 256
    · have H := Lib.hid (fbel_t (d := d) ⟨h1, h2⟩)
      rw [H.out]
      have HL := Lib.hid hd.1
      have hby := by_ints hd
      have q : 0 ≤ 256 % n ∧ 256 % n ≤ 256 := ⟨Int.emod_nonneg _ (by omega), by have := Int.emod_lt_of_pos 256 (show 0 < n by omega); omega⟩
      go_enter Try.func35, Try.ntmps35
      go_wp2
      go_loop [20] (fun x => ∃ k : Nat, k ≤ m ∧ x = .int .i64 k ∧ belP d k n = belP d 0 n) (fun x => m - (intOf x).toNat)
      case atStart => exact ⟨0, by omega, rfl, rfl⟩
      case round =>
        obtain ⟨k, hk, rfl, he⟩ := hrel
        have HE := Lib.hid he
        clear he
        by_cases hlt : k < m
        · obtain ⟨b, off, rfl, _, hc, _⟩ := hd.at_ hlt
          have bx := hby.at_ k
          by_cases hx : d.getD k 0 < 256 - 256 % n
          · have HH := Lib.hid (belP_hit (d := d) (i := k) (n := n) (by rw [HL.out]; exact hlt) hx)
            obtain ⟨x, hxx⟩ : ∃ x, d.getD k 0 = x := ⟨_, rfl⟩
            rw [hxx] at hc bx hx HH
            clear hxx
            go_wp2
            go_ret2
            exact ⟨by rw [← HE.out, HH.out]; rfl, rfl⟩
          · have HH := Lib.hid (belP_miss (d := d) (i := k) (n := n) (by rw [HL.out]; exact hlt) hx)
            obtain ⟨x, hxx⟩ : ∃ x, d.getD k 0 = x := ⟨_, rfl⟩
            rw [hxx] at hc bx hx
            clear hxx
            go_wp2
            go_round
            case rel => exact ⟨k + 1, by omega, by go_num, by rw [← HH.out, HE.out]⟩
            case measure => simp [intOf]; omega
        · obtain rfl : k = m := by omega
          have HH := Lib.hid (belP_end (d := d) (i := k) (n := n) (by rw [HL.out]; exact Nat.le_refl _))
          go_wp2
          go_ret2
          exact ⟨by rw [← HE.out, HH.out]; rfl, rfl⟩
    · have H := Lib.hid (fbel_f (d := d) (n := n) (by omega))
      rw [H.out]
      go_enter Try.func35, Try.ntmps35
      go_wp2
      go_ret2
      exact ⟨rfl, rfl⟩
  · have H := Lib.hid (fbel_f (d := d) (n := n) (by omega))
    rw [H.out]
    go_enter Try.func35, Try.ntmps35
    go_wp2
    go_ret2
    exact ⟨rfl, rfl⟩
theorem bel_tail {d : List Int} {q : Nat} {n x : Int} {nx : Nat} (h1 : 1 ≤ n) (h2 : n ≤ 256) (h : belP d q n = (x, nx)) (hq : q ≤ nx) : fbel (d.drop q) n = (x, nx - q) := by
  rw [fbel_t ⟨h1, h2⟩]
  have := belP_shift d q n
  rw [h] at this
  injection this with e1 e2
  exact Prod.ext e1.symm (by show _ = nx - q; omega)
theorem iota_step {k j : Nat} : (if j = k then Value.int .i64 (k : Int) else .int .i64 (if j < k then (j : Int) else 0)) = .int .i64 (if j < k + 1 then (j : Int) else 0) := by
  by_cases h : j = k
  · subst h; rw [if_pos rfl, if_pos (by omega)]
  · by_cases h2 : j < k
    · simp [h, h2, Nat.lt_succ_of_lt h2]
    · simp [h, h2, show ¬ j < k + 1 by omega]
theorem Ints.tl {w : World} {B n b off : Nat} {l : List Int} (h : Ints .u8 w B (some ⟨b, off, none⟩) n l) (m : Nat) (hm : m ≤ n) : Ints .u8 w B (some ⟨b, off + m, none⟩) (n - m) (l.drop m) := by
  refine ⟨by rw [List.length_drop, h.1], fun h0 => ?_, fun x hx => h.2.2 x (List.mem_of_mem_drop hx)⟩
  obtain ⟨b', off', e, hb, hc⟩ := h.2.1 (by omega)
  simp only [Option.some.injEq, Addr.mk.injEq, and_true] at e
  obtain ⟨rfl, rfl⟩ := e
  refine ⟨b, off + m, rfl, hb, fun i hi => ?_⟩
  rw [getD_drop, Nat.add_assoc]
  exact hc (m + i) (by omega)
set_option maxHeartbeats 4000000 in
theorem i_shuffle_t {w : World} {m c : Nat} {A : Option Addr} {d : List Int} (n : Nat) (hd : Ints .u8 w w.heap.size A m d) (hmc : m ≤ c) (hm : m ≤ 140737488355328) (hc : c ≤ 9223372036854775807) (hn : n ≤ 64) {L : List Int} {U : Nat} (hs : shuf d (n - 1) (iota n) 0 = some (L, U)) :
    Calls Try.prog 9 #[.slice A m c, .int .i64 n] w fun e w' => ∃ v, e = .returned (.tuple #[v, .int .i64 U]) ∧ Own .i64 3 w' w.heap.size v L ∧ Below w.heap.size w w' := by
  have _hc' := hc
  obtain ⟨i0, hi0, hz0, hz1, hz2⟩ := info_parts info_ii
  have HL := Lib.hid hd.1
  have HS := Lib.hid hs
  clear hs
  have hby := by_ints hd
  have t1 : decide ((n : Int) < 0) = false := by simp
  have t2 : decide (64 < (n : Int)) = false := by simp; omega
  go_enter Try.func9, Try.ntmps9
  go_wp2_with (at_make; refine wpList_mk _ rfl (.tmp 18) (.tmp 18) _ rfl 3 i0 _ Try.underlying25 hi0 hz0 rfl hz1 n rfl rfl (by rw [hz2]; omega) (by simp only [maxLen]; omega) ?_; intro w1 hrow hB1 hsz)
  go_loopw [22] (fun i wr => ∃ k : Nat, k ≤ n ∧ i = .int .i64 k ∧ wr.rowIs w.heap.size 3 n (fun j => .int .i64 (if j < k then (j : Int) else 0)) ∧ Below w.heap.size w wr) (fun i _ => n - (intOf i).toNat)
  case atStart => exact ⟨0, by omega, rfl, hrow.congr fun j _ => rfl, hB1⟩
  case round =>
    obtain ⟨k, hk, rfl, hO, hB⟩ := hrel
    by_cases hlt : k < n
    · have hcell := hO.cell hlt
      have hfz := hO.frozen k
      go_wp2
      go_roundw
      case rel => exact ⟨k + 1, by omega, by go_num, (hO.set k _).congr fun j _ => iota_step, hB.setCell (Nat.le_refl _) _⟩
      case measure => simp [intOf]; omega
    · obtain rfl : k = n := by omega
      clear hlt hk
      obtain ⟨wo, rfl⟩ : ∃ wo : World, wo = wr := ⟨_, rfl⟩
      have hOw : Own .i64 3 wo w.heap.size (.slice (some ⟨w.heap.size, 0, none⟩) k k) (iota k) :=
        Own.of_row (hO.congr fun j hj => by rw [if_pos hj, iota_at hj]) (iota_len k) (by simp only [maxLen]; omega) (Nat.le_refl _) fun x hx => by
          have := mem_iota.1 hx
          exact WalkArith.wf_i64 (by omega)
      clear hO
      rcases Nat.eq_zero_or_pos k with h0 | hpos
      · subst h0
        have e : (L, U) = ([], 0) := by
          have := HS.out
          rw [show shuf d (0 - 1) (iota 0) 0 = some ([], 0) from rfl] at this
          injection this with this
          exact this.symm
        injection e with e1 e2
        subst e1 e2
        rw [iota_zero] at hOw
        go_wp2
        go_loopw [8, 9] (fun u i wr => u = .int .i64 0 ∧ i = .int .i64 (-1) ∧ wr = wo) (fun _ _ _ => 0)
        case atStart => exact ⟨rfl, rfl, rfl⟩
        case round =>
          obtain ⟨rfl, rfl, rfl⟩ := hrel
          go_wp2
          go_ret2
          exact ⟨_, rfl, hOw, hB⟩
      · go_wp2
        go_loopw [8, 9] (fun u i wr => ∃ (q j : Nat) (l : List Int), u = .int .i64 q ∧ i = .int .i64 j ∧ j < k ∧ q ≤ m ∧ l.length = k ∧ shuf d j l q = some (L, U) ∧ Own .i64 3 wr w.heap.size (.slice (some ⟨w.heap.size, 0, none⟩) k k) l ∧ Below w.heap.size w wr) (fun _ i _ => (intOf i).toNat)
        case atStart => exact ⟨0, k - 1, iota k, rfl, i64_eq (by omega), by omega, by omega, iota_len k, HS.out, hOw, hB⟩
        case round =>
          obtain ⟨q, j, l, rfl, rfl, hj, hq, hl, hR, hO2, hB2⟩ := hrel
          rcases Nat.eq_zero_or_pos j with h0 | hpj
          · subst h0
            rw [shuf_zero] at hR
            injection hR with hR
            injection hR with e1 e2
            subst e1 e2
            clear hOw HS
            go_wp2
            go_ret2
            exact ⟨_, rfl, hO2, hB2⟩
          · obtain ⟨x, nx, HB, HR, hx, hnx, hqn⟩ := shuf_more hby (by rw [HL.out]; exact hq) hpj hR
            rw [HL.out] at hnx
            have HT := Lib.hid (bel_tail (by omega) (by omega) HB.out (by omega))
            clear hOw HS hR
            obtain ⟨b, off, rfl, _⟩ := hd.2.1 (by omega)
            have hdt := (hd.below hB2).tl q hq
            have r1 : (0 : Int) ≤ (q : Int) := Int.natCast_nonneg _
            have r2 : (q : Int) ≤ (m : Int) := by omega
            have r3 : (m : Int) ≤ (c : Int) := by omega
            have r4 : ¬ c = q := by omega
            have r5 : ¬ q = c := by omega
            subst hl
            obtain ⟨hP, u, hc3⟩ := swp_put hO2 (i := j) (j := x) (by omega) (by omega)
            obtain ⟨g, c', e1, _, _, _, hgs, hcell, hfz⟩ := hO2.row (by omega)
            simp only [Value.slice.injEq, Option.some.injEq, Addr.mk.injEq, and_true] at e1
            obtain ⟨e1, _, e2⟩ := e1
            subst e1 e2
            have hc1 := hcell j (by omega)
            have hc2 := hcell x (by omega)
            have f1 := hfz j
            have f2 := hfz x
            have q1 : (0 : Int) ≤ (x : Int) := Int.natCast_nonneg _
            have q2 : (x : Int) < (l.length : Int) := by omega
            have q3 : (0 : Int) ≤ (j : Int) := Int.natCast_nonneg _
            have q4 : (j : Int) < (l.length : Int) := by omega
            obtain ⟨a, ha⟩ : ∃ a, l.getD j 0 = a := ⟨_, rfl⟩
            obtain ⟨b', hb'⟩ : ∃ b, l.getD x 0 = b := ⟨_, rfl⟩
            rw [ha] at hc1 hP
            rw [hb'] at hc2 hc3 hP
            have HA := Lib.hid ha
            clear ha hb' hcell hfz
            go_wp2_with (go_at_call 35; refine (i_Below _ hdt (by omega)).mono ?_; rintro e w' ⟨rfl, rfl⟩; rw [HT.out])
            go_region
            go_wp2
            go_roundw
            case rel => exact ⟨nx, j - 1, swp l j x, i64_eq (by omega), i64_eq (by omega), by omega, hnx, swp_len _ _ _, HR.out, hP, ((hB2.setCell (Nat.le_refl _) _).setCell (Nat.le_refl _) _).drew⟩
            case measure => simp [intOf]; omega
set_option maxHeartbeats 4000000 in
theorem i_shuffle_f {w : World} {m c : Nat} {A : Option Addr} {d : List Int} (n : Nat) (hd : Ints .u8 w w.heap.size A m d) (hmc : m ≤ c) (hm : m ≤ 140737488355328) (hc : c ≤ 9223372036854775807) (hn : n ≤ 64) (hA : (A = none ∧ c = 0) ∨ ∃ b off, A = some ⟨b, off, none⟩) (hs : shuf d (n - 1) (iota n) 0 = none) :
    Calls Try.prog 9 #[.slice A m c, .int .i64 n] w fun e w' => e = .returned (.tuple #[.slice none 0 0, .int .i64 (-1)]) ∧ Below w.heap.size w w' := by
  obtain ⟨i0, hi0, hz0, hz1, hz2⟩ := info_parts info_ii
  have HL := Lib.hid hd.1
  have HS := Lib.hid hs
  clear hs
  have hby := by_ints hd
  have t1 : decide ((n : Int) < 0) = false := by simp
  have t2 : decide (64 < (n : Int)) = false := by simp; omega
  go_enter Try.func9, Try.ntmps9
  go_wp2_with (at_make; refine wpList_mk _ rfl (.tmp 18) (.tmp 18) _ rfl 3 i0 _ Try.underlying25 hi0 hz0 rfl hz1 n rfl rfl (by rw [hz2]; omega) (by simp only [maxLen]; omega) ?_; intro w1 hrow hB1 hsz)
  go_loopw [22] (fun i wr => ∃ k : Nat, k ≤ n ∧ i = .int .i64 k ∧ wr.rowIs w.heap.size 3 n (fun j => .int .i64 (if j < k then (j : Int) else 0)) ∧ Below w.heap.size w wr) (fun i _ => n - (intOf i).toNat)
  case atStart => exact ⟨0, by omega, rfl, hrow.congr fun j _ => rfl, hB1⟩
  case round =>
    obtain ⟨k, hk, rfl, hO, hB⟩ := hrel
    by_cases hlt : k < n
    · have hcell := hO.cell hlt
      have hfz := hO.frozen k
      go_wp2
      go_roundw
      case rel => exact ⟨k + 1, by omega, by go_num, (hO.set k _).congr fun j _ => iota_step, hB.setCell (Nat.le_refl _) _⟩
      case measure => simp [intOf]; omega
    · obtain rfl : k = n := by omega
      clear hlt hk
      obtain ⟨wo, rfl⟩ : ∃ wo : World, wo = wr := ⟨_, rfl⟩
      have hOw : Own .i64 3 wo w.heap.size (.slice (some ⟨w.heap.size, 0, none⟩) k k) (iota k) :=
        Own.of_row (hO.congr fun j hj => by rw [if_pos hj, iota_at hj]) (iota_len k) (by simp only [maxLen]; omega) (Nat.le_refl _) fun x hx => by
          have := mem_iota.1 hx
          exact WalkArith.wf_i64 (by omega)
      clear hO
      rcases Nat.eq_zero_or_pos k with h0 | hpos
      · subst h0
        exact absurd HS.out (by rw [show shuf d (0 - 1) (iota 0) 0 = some ([], 0) from rfl]; simp)
      · go_wp2
        go_loopw [8, 9] (fun u i wr => ∃ (q j : Nat) (l : List Int), u = .int .i64 q ∧ i = .int .i64 j ∧ j < k ∧ q ≤ m ∧ l.length = k ∧ shuf d j l q = none ∧ Own .i64 3 wr w.heap.size (.slice (some ⟨w.heap.size, 0, none⟩) k k) l ∧ Below w.heap.size w wr) (fun _ i _ => (intOf i).toNat)
        case atStart => exact ⟨0, k - 1, iota k, rfl, i64_eq (by omega), by omega, by omega, iota_len k, HS.out, hOw, hB⟩
        case round =>
          obtain ⟨q, j, l, rfl, rfl, hj, hq, hl, hR, hO2, hB2⟩ := hrel
          rcases Nat.eq_zero_or_pos j with h0 | hpj
          · subst h0
            rw [shuf_zero] at hR
            cases hR
          · rcases shuf_none hby (by rw [HL.out]; exact hq) hpj hR with ⟨nx, HB, hqn⟩ | ⟨x, nx, HB, HR, hx, hnx, hqn⟩
            · have HT := Lib.hid (bel_tail (by omega) (by omega) HB.out hqn)
              clear hOw HS hR HB
              have r1 : (0 : Int) ≤ (q : Int) := Int.natCast_nonneg _
              have r2 : (q : Int) ≤ (m : Int) := by omega
              have r3 : (m : Int) ≤ (c : Int) := by omega
              subst hl
              rcases hA with ⟨rfl, rfl⟩ | ⟨b, off, rfl⟩
              · obtain rfl : m = 0 := by omega
                obtain rfl : q = 0 := by omega
                have hdt : Ints .u8 wr w.heap.size none 0 (d.drop 0) := by rw [List.drop_zero]; exact hd.below hB2
                go_wp2_with (go_at_call 35; refine (i_Below _ hdt (by omega)).mono ?_; rintro e w' ⟨rfl, rfl⟩; rw [HT.out])
                go_ret2
                exact ⟨rfl, hB2⟩
              · by_cases r4 : c = q
                · subst r4
                  obtain rfl : m = c := by omega
                  have hdt : Ints .u8 wr w.heap.size (some ⟨b, off, none⟩) 0 (d.drop m) := ⟨by rw [List.length_drop, HL.out]; omega, fun h => absurd h (by omega), fun y hy => hd.2.2 y (List.mem_of_mem_drop hy)⟩
                  go_wp2_with (go_at_call 35; refine (i_Below _ hdt (by omega)).mono ?_; rintro e w' ⟨rfl, rfl⟩; rw [HT.out])
                  go_ret2
                  exact ⟨rfl, hB2⟩
                · have r5 : ¬ q = c := fun h => r4 h.symm
                  have hdt := (hd.below hB2).tl q hq
                  go_wp2_with (go_at_call 35; refine (i_Below _ hdt (by omega)).mono ?_; rintro e w' ⟨rfl, rfl⟩; rw [HT.out])
                  go_ret2
                  exact ⟨rfl, hB2⟩
            rw [HL.out] at hnx
            have HT := Lib.hid (bel_tail (by omega) (by omega) HB.out (by omega))
            clear hOw HS hR
            obtain ⟨b, off, rfl, _⟩ := hd.2.1 (by omega)
            have hdt := (hd.below hB2).tl q hq
            have r1 : (0 : Int) ≤ (q : Int) := Int.natCast_nonneg _
            have r2 : (q : Int) ≤ (m : Int) := by omega
            have r3 : (m : Int) ≤ (c : Int) := by omega
            have r4 : ¬ c = q := by omega
            have r5 : ¬ q = c := by omega
            subst hl
            obtain ⟨hP, u, hc3⟩ := swp_put hO2 (i := j) (j := x) (by omega) (by omega)
            obtain ⟨g, c', e1, _, _, _, hgs, hcell, hfz⟩ := hO2.row (by omega)
            simp only [Value.slice.injEq, Option.some.injEq, Addr.mk.injEq, and_true] at e1
            obtain ⟨e1, _, e2⟩ := e1
            subst e1 e2
            have hc1 := hcell j (by omega)
            have hc2 := hcell x (by omega)
            have f1 := hfz j
            have f2 := hfz x
            have q1 : (0 : Int) ≤ (x : Int) := Int.natCast_nonneg _
            have q2 : (x : Int) < (l.length : Int) := by omega
            have q3 : (0 : Int) ≤ (j : Int) := Int.natCast_nonneg _
            have q4 : (j : Int) < (l.length : Int) := by omega
            obtain ⟨a, ha⟩ : ∃ a, l.getD j 0 = a := ⟨_, rfl⟩
            obtain ⟨b', hb'⟩ : ∃ b, l.getD x 0 = b := ⟨_, rfl⟩
            rw [ha] at hc1 hP
            rw [hb'] at hc2 hc3 hP
            have HA := Lib.hid ha
            clear ha hb' hcell hfz
            go_wp2_with (go_at_call 35; refine (i_Below _ hdt (by omega)).mono ?_; rintro e w' ⟨rfl, rfl⟩; rw [HT.out])
            go_region
            go_wp2
            go_roundw
            case rel => exact ⟨nx, j - 1, swp l j x, i64_eq (by omega), i64_eq (by omega), by omega, hnx, swp_len _ _ _, HR.out, hP, ((hB2.setCell (Nat.le_refl _) _).setCell (Nat.le_refl _) _).drew⟩
            case measure => simp [intOf]; omega
theorem i_Shuffle {w : World} {m c : Nat} {A : Option Addr} {d : List Int} (n : Int) (hd : Ints .u8 w w.heap.size A m d) (hmc : m ≤ c) (hm : m ≤ 140737488355328) (hc : c ≤ 9223372036854775807) (hA : (A = none ∧ c = 0) ∨ ∃ b off, A = some ⟨b, off, none⟩) :
    Calls Try.prog 9 #[.slice A m c, .int .i64 n] w fun e w' => ∃ v, e = .returned (.tuple #[v, .int .i64 (shufU d n)]) ∧ Own .i64 3 w' w.heap.size v (shufL d n) ∧ Below w.heap.size w w' := by
  by_cases h0 : 0 ≤ n
  · by_cases h1 : n ≤ 64
    · obtain ⟨p, rfl⟩ := Int.eq_ofNat_of_zero_le h0
      have hs := fshuf_t (d := d) ⟨h0, h1⟩
      rw [Int.toNat_natCast] at hs
      cases h : shuf d (p - 1) (iota p) 0 with
      | none =>
        rw [h] at hs
        rw [shufL_f hs, shufU_f hs]
        exact (i_shuffle_f p hd hmc hm hc (by omega) hA h).mono fun e w' hh => ⟨_, hh.1, Own.nil _ _ _ _, hh.2⟩
      | some q =>
        obtain ⟨L, U⟩ := q
        rw [h] at hs
        rw [shufL_t hs, shufU_t hs]
        exact i_shuffle_t p hd hmc hm hc (by omega) h
    · have hs := fshuf_f (d := d) (n := n) (by omega)
      rw [shufL_f hs, shufU_f hs]
      clear hs hA
      go_enter Try.func9, Try.ntmps9
      go_wp2
      go_ret2
      exact ⟨_, rfl, Own.nil _ _ _ _, Below.refl _ _⟩
  · have hs := fshuf_f (d := d) (n := n) (by omega)
    rw [shufL_f hs, shufU_f hs]
    clear hs hA
    go_enter Try.func9, Try.ntmps9
    go_wp2
    go_ret2
    exact ⟨_, rfl, Own.nil _ _ _ _, Below.refl _ _⟩
theorem arr64 (w : World) (t : TypeId) : (w.alloc (.cells #[Value.complex FloatKind.f64 0 0, Value.complex FloatKind.f64 0 0, Value.complex FloatKind.f64 0 0, Value.complex FloatKind.f64 0 0, Value.complex FloatKind.f64 0 0, Value.complex FloatKind.f64 0 0, Value.complex FloatKind.f64 0 0, Value.complex FloatKind.f64 0 0, Value.complex FloatKind.f64 0 0, Value.complex FloatKind.f64 0 0, Value.complex FloatKind.f64 0 0, Value.complex FloatKind.f64 0 0, Value.complex FloatKind.f64 0 0, Value.complex FloatKind.f64 0 0, Value.complex FloatKind.f64 0 0, Value.complex FloatKind.f64 0 0, Value.complex FloatKind.f64 0 0, Value.complex FloatKind.f64 0 0, Value.complex FloatKind.f64 0 0, Value.complex FloatKind.f64 0 0, Value.complex FloatKind.f64 0 0, Value.complex FloatKind.f64 0 0, Value.complex FloatKind.f64 0 0, Value.complex FloatKind.f64 0 0, Value.complex FloatKind.f64 0 0, Value.complex FloatKind.f64 0 0, Value.complex FloatKind.f64 0 0, Value.complex FloatKind.f64 0 0, Value.complex FloatKind.f64 0 0, Value.complex FloatKind.f64 0 0, Value.complex FloatKind.f64 0 0, Value.complex FloatKind.f64 0 0, Value.complex FloatKind.f64 0 0, Value.complex FloatKind.f64 0 0, Value.complex FloatKind.f64 0 0, Value.complex FloatKind.f64 0 0, Value.complex FloatKind.f64 0 0, Value.complex FloatKind.f64 0 0, Value.complex FloatKind.f64 0 0, Value.complex FloatKind.f64 0 0, Value.complex FloatKind.f64 0 0, Value.complex FloatKind.f64 0 0, Value.complex FloatKind.f64 0 0, Value.complex FloatKind.f64 0 0, Value.complex FloatKind.f64 0 0, Value.complex FloatKind.f64 0 0, Value.complex FloatKind.f64 0 0, Value.complex FloatKind.f64 0 0, Value.complex FloatKind.f64 0 0, Value.complex FloatKind.f64 0 0, Value.complex FloatKind.f64 0 0, Value.complex FloatKind.f64 0 0, Value.complex FloatKind.f64 0 0, Value.complex FloatKind.f64 0 0, Value.complex FloatKind.f64 0 0, Value.complex FloatKind.f64 0 0, Value.complex FloatKind.f64 0 0, Value.complex FloatKind.f64 0 0, Value.complex FloatKind.f64 0 0, Value.complex FloatKind.f64 0 0, Value.complex FloatKind.f64 0 0, Value.complex FloatKind.f64 0 0, Value.complex FloatKind.f64 0 0, Value.complex FloatKind.f64 0 0] t)).rowIs w.heap.size t 64 (fun _ => .complex .f64 (fb 0) (fb 0)) := by
  have e : (#[Value.complex FloatKind.f64 0 0, Value.complex FloatKind.f64 0 0, Value.complex FloatKind.f64 0 0, Value.complex FloatKind.f64 0 0, Value.complex FloatKind.f64 0 0, Value.complex FloatKind.f64 0 0, Value.complex FloatKind.f64 0 0, Value.complex FloatKind.f64 0 0, Value.complex FloatKind.f64 0 0, Value.complex FloatKind.f64 0 0, Value.complex FloatKind.f64 0 0, Value.complex FloatKind.f64 0 0, Value.complex FloatKind.f64 0 0, Value.complex FloatKind.f64 0 0, Value.complex FloatKind.f64 0 0, Value.complex FloatKind.f64 0 0, Value.complex FloatKind.f64 0 0, Value.complex FloatKind.f64 0 0, Value.complex FloatKind.f64 0 0, Value.complex FloatKind.f64 0 0, Value.complex FloatKind.f64 0 0, Value.complex FloatKind.f64 0 0, Value.complex FloatKind.f64 0 0, Value.complex FloatKind.f64 0 0, Value.complex FloatKind.f64 0 0, Value.complex FloatKind.f64 0 0, Value.complex FloatKind.f64 0 0, Value.complex FloatKind.f64 0 0, Value.complex FloatKind.f64 0 0, Value.complex FloatKind.f64 0 0, Value.complex FloatKind.f64 0 0, Value.complex FloatKind.f64 0 0, Value.complex FloatKind.f64 0 0, Value.complex FloatKind.f64 0 0, Value.complex FloatKind.f64 0 0, Value.complex FloatKind.f64 0 0, Value.complex FloatKind.f64 0 0, Value.complex FloatKind.f64 0 0, Value.complex FloatKind.f64 0 0, Value.complex FloatKind.f64 0 0, Value.complex FloatKind.f64 0 0, Value.complex FloatKind.f64 0 0, Value.complex FloatKind.f64 0 0, Value.complex FloatKind.f64 0 0, Value.complex FloatKind.f64 0 0, Value.complex FloatKind.f64 0 0, Value.complex FloatKind.f64 0 0, Value.complex FloatKind.f64 0 0, Value.complex FloatKind.f64 0 0, Value.complex FloatKind.f64 0 0, Value.complex FloatKind.f64 0 0, Value.complex FloatKind.f64 0 0, Value.complex FloatKind.f64 0 0, Value.complex FloatKind.f64 0 0, Value.complex FloatKind.f64 0 0, Value.complex FloatKind.f64 0 0, Value.complex FloatKind.f64 0 0, Value.complex FloatKind.f64 0 0, Value.complex FloatKind.f64 0 0, Value.complex FloatKind.f64 0 0, Value.complex FloatKind.f64 0 0, Value.complex FloatKind.f64 0 0, Value.complex FloatKind.f64 0 0, Value.complex FloatKind.f64 0 0] : Array Value) = Array.replicate 64 (Value.complex FloatKind.f64 0 0) := rfl
  rw [e]
  exact ⟨_, heap_alloc_new w _, by simp, fun i hi => by simp [hi, fb]⟩
/-- How often v is drawn among the first k, and how often it is due. -/
def cpx (l : List Int) (k v : Nat) : Value := .complex .f64 (fb ((l.take k).count (v : Int))) (fb (if v < k then 1 else 0))
/-- .. when the next has been drawn, and not yet been due. -/
def cpm (l : List Int) (k v : Nat) : Value := .complex .f64 (fb ((l.take (k + 1)).count (v : Int))) (fb (if v < k then 1 else 0))
theorem cpx_drawn {l : List Int} {k x j : Nat} (hk : k < l.length) (hx : l.getD k 0 = x) : (if j = x then Value.complex .f64 (fb ((l.take k).count (x : Int) + 1)) (fb (if x < k then 1 else 0)) else cpx l k j) = cpm l k j := by
  unfold cpm cpx
  rw [take_snoc hk, hx]
  by_cases e : j = x
  · subst e; rw [if_pos rfl]; simp
  · rw [if_neg e]
    have : ¬ (x : Int) = (j : Int) := by omega
    simp [this]
theorem cpx_due {l : List Int} {k j : Nat} : (if j = k then Value.complex .f64 (fb ((l.take (k + 1)).count (k : Int))) (fb 1) else cpm l k j) = cpx l (k + 1) j := by
  unfold cpm cpx
  by_cases e : j = k
  · subst e; simp
  · rw [if_neg e]
    by_cases h : j < k
    · rw [if_pos h, if_pos (by omega)]
    · rw [if_neg h, if_neg (by omega)]
theorem ct_le {l : List Int} {k : Nat} {v : Int} (h : k ≤ 64) : (l.take k).count v < 66 := by
  have := List.count_le_length (a := v) (l := l.take k)
  rw [List.length_take] at this
  omega
theorem not_ord_ct {l : List Int} {n v : Nat} (hl : l.length = n) (hn : n ≤ 64) (hr : ∀ x ∈ l, 0 ≤ x ∧ x < n) (hv : v < 64) (h : ¬ l.count (v : Int) = if v < n then 1 else 0) : ordB l = false :=
  ordB_f fun ho => h (by have := (ord_count (by omega) (by rw [hl]; exact hr)).1 ho v hv; rwa [hl] at this)
theorem ord_ct {l : List Int} {n : Nat} (hl : l.length = n) (hn : n ≤ 64) (hr : ∀ x ∈ l, 0 ≤ x ∧ x < n) (h : ∀ v : Nat, v < 64 → l.count (v : Int) = if v < n then 1 else 0) : ordB l = true :=
  ordB_t ((ord_count (by omega) (by rw [hl]; exact hr)).2 (by rw [hl]; exact h))
attribute [local go_sem] st_complex
set_option maxHeartbeats 4000000 in
theorem i_Ordered {w : World} {n c : Nat} {A : Option Addr} {l : List Int} (hl : Ints .i64 w w.heap.size A n l) (hn : n ≤ 17592186043904) :
    Calls Try.prog 10 #[.slice A n c] w fun e w' => e = .returned (.bool (ordB l)) ∧ Below w.heap.size w w' := by
  have hlen := hl.1
  by_cases hbig : n ≤ 64
  · have HL := Lib.hid hlen
    clear hlen
    go_enter Try.func10, Try.ntmps10
    go_wp2
    go_loopw [13] (fun i wr => ∃ k : Nat, k ≤ n ∧ i = .int .i64 k ∧ (∀ x ∈ l.take k, 0 ≤ x ∧ x < n) ∧ wr.rowIs w.heap.size 60 64 (cpx l k) ∧ Below w.heap.size w wr) (fun i _ => n - (intOf i).toNat)
    case atStart => exact ⟨0, by omega, rfl, by simp, (arr64 w _).congr fun j _ => by simp [cpx], (Below.refl _ _).alloc (Nat.le_refl _) _⟩
    case round =>
      obtain ⟨k, hk, rfl, hr, hrow, hB⟩ := hrel
      have HR := Lib.hid hr
      clear hr
      by_cases hlt : k < n
      · have hkl : k < l.length := by rw [HL.out]; exact hlt
        obtain ⟨b, off, rfl, hb, hc, hwf⟩ := (hl.below hB).at_ hlt
        have rx := Mem.rg64 hwf
        clear hwf
        by_cases hx0 : 0 ≤ l.getD k 0
        · by_cases hxn : l.getD k 0 < n
          · obtain ⟨x, hx⟩ := Int.eq_ofNat_of_zero_le hx0
            have hrn := range_snoc hkl HR.out (n := n) ⟨hx0, hxn⟩
            have hx64 : x < 64 := by omega
            rw [hx] at hc hx0 hxn rx
            have hrow2 := (hrow.set x (.complex .f64 (fb ((l.take k).count (x : Int) + 1)) (fb (if x < k then 1 else 0)))).congr fun j _ => cpx_drawn hkl hx
            have hrow3 := (hrow2.set k (.complex .f64 (fb ((l.take (k + 1)).count (k : Int))) (fb 1))).congr fun j _ => cpx_due
            have c1 := hrow.cell hx64
            have f1 := hrow.frozen x
            have c2 := hrow2.cell (show k < 64 by omega)
            have f2 := hrow2.frozen k
            have q1 : (0 : Int) ≤ (x : Int) := Int.natCast_nonneg _
            have q2 : (x : Int) < 64 := by omega
            have q3 : (0 : Int) ≤ (k : Int) := Int.natCast_nonneg _
            have q4 : (k : Int) < 64 := by omega
            have a1 := fun W => run_re (P := Try.prog) 59 (ct_le (l := l) (k := k) (v := (x : Int)) (by omega)) (show (if x < k then 1 else 0) < 66 by split <;> omega) W
            have a2 := fun W => run_im (P := Try.prog) 59 (ct_le (l := l) (k := k + 1) (v := (k : Int)) (by omega)) (show 0 < 66 by omega) W
            unfold cpx at c1
            unfold cpm at c2
            rw [if_neg (Nat.lt_irrefl k)] at c2
            obtain ⟨p1, e1⟩ : ∃ p, fb ((l.take k).count (x : Int)) = p := ⟨_, rfl⟩
            obtain ⟨p2, e2⟩ : ∃ p, fb (if x < k then 1 else 0) = p := ⟨_, rfl⟩
            obtain ⟨p3, e3⟩ : ∃ p, fb ((l.take k).count (x : Int) + 1) = p := ⟨_, rfl⟩
            obtain ⟨p4, e4⟩ : ∃ p, fb ((l.take (k + 1)).count (k : Int)) = p := ⟨_, rfl⟩
            obtain ⟨p5, e5⟩ : ∃ p, fb 0 = p := ⟨_, rfl⟩
            obtain ⟨p6, e6⟩ : ∃ p, fb 1 = p := ⟨_, rfl⟩
            rw [show fb (0 + 1) = fb 1 from rfl] at a2
            simp only [e1, e2, e3] at a1 c1 hrow2 hrow3 c2 f2
            simp only [e4, e5, e6] at a2 c2 hrow3
            have H3 := Lib.hid hrow3
            have HN := Lib.hid hrn
            clear e1 e2 e3 e4 e5 e6 hrow hrow2 hrow3 hx hrn hkl
            go_wp2
            go_roundw
            case rel => exact ⟨k + 1, by omega, by go_num, HN.out, H3.out, (hB.setCell (Nat.le_refl _) _).setCell (Nat.le_refl _) _⟩
            case measure => simp [intOf]; omega
          · have HF := Lib.hid (ordB_f (not_ord_at hkl (by rw [HL.out]; omega)))
            obtain ⟨x, hx⟩ : ∃ x, l.getD k 0 = x := ⟨_, rfl⟩
            rw [hx] at hc hx0 hxn rx
            clear hx hkl
            go_wp2
            go_ret
            exact ⟨by rw [HF.out]; rfl, hB⟩
        · have HF := Lib.hid (ordB_f (not_ord_at hkl (by omega)))
          obtain ⟨x, hx⟩ : ∃ x, l.getD k 0 = x := ⟨_, rfl⟩
          rw [hx] at hc hx0 rx
          clear hx hkl
          go_wp2
          go_ret
          exact ⟨by rw [HF.out]; rfl, hB⟩
      · obtain rfl : k = n := by omega
        clear hlt hk
        obtain ⟨wo, rfl⟩ : ∃ wo : World, wo = wr := ⟨_, rfl⟩
        have hall : l.take k = l := List.take_of_length_le (by rw [HL.out]; exact Nat.le_refl _)
        have hr := HR.out
        rw [hall] at hr
        have HR2 := Lib.hid hr
        obtain ⟨cs, hg, hcs, hat⟩ := hrow
        have HC := Lib.hid hat
        have HAL := Lib.hid hall
        have hin : (Try.prog.info? 60).map (·.size) = some cs.size := by rw [hcs]; kernel_rfl
        have HS := Lib.hid hcs
        clear hat hall hr hcs
        go_wp2_with (with_reducible refine wpList_load_row rfl 60 (.tmp 3) rfl w.heap.size rfl 60 cs (0, 0) _ hg Try.underlying60 rfl hin ?_)
        clear hin
        go_loop [38] (fun i => ∃ v : Nat, v ≤ 64 ∧ i = .int .i64 v ∧ ∀ u : Nat, u < v → l.count (u : Int) = if u < k then 1 else 0) (fun i => 64 - (intOf i).toNat)
        case atStart => exact ⟨0, by omega, rfl, fun u hu => by omega⟩
        case round =>
          obtain ⟨v, hv, rfl, hct⟩ := hrel
          have HCT := Lib.hid hct
          clear hct
          by_cases hv64 : v < 64
          · have hix := fun W => run_part (P := Try.prog) Try.underlying60 (fun w => by kernel_rfl) hv64 (fun w => by kernel_rfl) (HC.out v hv64) W
            have hlt66 : l.count (v : Int) < 66 := by
              have := ct_le (l := l) (k := k) (v := (v : Int)) hbig
              rwa [HAL.out] at this
            have hb01 : (if v < k then 1 else 0) = 0 ∨ (if v < k then 1 else 0) = 1 := by split <;> simp
            have hfn := fb_ne hlt66 hb01
            unfold cpx at hix
            rw [HAL.out] at hix
            by_cases heq : l.count (v : Int) = if v < k then 1 else 0
            · rw [show (l.count (v : Int) != if v < k then 1 else 0) = false by simp [heq]] at hfn
              have HQ := Lib.hid heq
              obtain ⟨p1, e1⟩ : ∃ p, fb (l.count (v : Int)) = p := ⟨_, rfl⟩
              obtain ⟨p2, e2⟩ : ∃ p, fb (if v < k then 1 else 0) = p := ⟨_, rfl⟩
              simp only [e1, e2] at hix hfn
              clear e1 e2 heq hb01
              go_wp2
              go_round
              case rel => exact ⟨v + 1, by omega, by go_num, fun u hu => by
                rcases Nat.lt_succ_iff_lt_or_eq.1 hu with h | rfl
                · exact HCT.out u h
                · exact HQ.out⟩
              case measure => simp [intOf]; omega
            · rw [show (l.count (v : Int) != if v < k then 1 else 0) = true by simp [heq]] at hfn
              have HF := Lib.hid (not_ord_ct HL.out hbig HR2.out hv64 heq)
              obtain ⟨p1, e1⟩ : ∃ p, fb (l.count (v : Int)) = p := ⟨_, rfl⟩
              obtain ⟨p2, e2⟩ : ∃ p, fb (if v < k then 1 else 0) = p := ⟨_, rfl⟩
              simp only [e1, e2] at hix hfn
              clear e1 e2 heq hb01
              go_wp2
              go_ret
              exact ⟨by rw [HF.out]; rfl, hB⟩
          · obtain rfl : v = 64 := by omega
            have HT := Lib.hid (ord_ct HL.out hbig HR2.out HCT.out)
            go_wp2
            go_ret
            exact ⟨by rw [HT.out]; rfl, hB⟩
  · have HF := Lib.hid (ordB_f (l := l) (fun ho => hbig (by have := ho.1; omega)))
    clear hlen
    go_enter Try.func10, Try.ntmps10
    go_wp2
    go_ret
    exact ⟨by rw [HF.out]; rfl, Below.refl _ _⟩
theorem reor_step {b o : List Int} {k j : Nat} {y : Int} (hy : (reor b o).getD k 0 = y) : (if j = k then Value.int .u8 y else .int .u8 (if j < k then (reor b o).getD j 0 else 0)) = .int .u8 (if j < k + 1 then (reor b o).getD j 0 else 0) := by
  by_cases h : j = k
  · subst h; rw [if_pos rfl, if_pos (by omega), hy]
  · by_cases h2 : j < k
    · simp [h, h2, Nat.lt_succ_of_lt h2]
    · simp [h, h2, show ¬ j < k + 1 by omega]
set_option maxHeartbeats 1000000 in
theorem i_Reorder_t {w : World} {n c m c' : Nat} {A A' : Option Addr} {b o : List Int} (hb : Ints .u8 w w.heap.size A n b) (ho : Ints .i64 w w.heap.size A' m o) (hn : n ≤ 17592186043904) (he : n = m) (hO : Ord o) :
    Calls Try.prog 13 #[.slice A n c, .slice A' m c'] w fun e w' => ∃ v, e = .returned (.tuple #[v, .bool true]) ∧ Own .u8 5 w' w.heap.size v (reor b o) ∧ Below w.heap.size w w' := by
  obtain ⟨i0, hi0, hz0, hz1, hz2⟩ := info_parts info_bb
  subst he
  have HL := Lib.hid ho.1
  have HT := Lib.hid (ordB_t hO)
  have HO := Lib.hid hO
  have hby := by_ints hb
  have d0 : ((n : Int) != (n : Int)) = false := by simp
  clear hO
  go_enter Try.func13, Try.ntmps13
  go_wp2_with (first | (go_at_call 10; refine (i_Ordered ho hn).mono ?_; rintro e w1 ⟨rfl, hB1⟩; rw [HT.out]) | (at_make; refine wpList_mk _ rfl (.tmp 20) (.tmp 20) _ rfl 5 i0 _ Try.underlying22 hi0 hz0 rfl hz1 n rfl rfl (by rw [hz2]; omega) (by simp only [maxLen]; omega) ?_; intro w2 hrow hB2 hsz))
  go_loopw [24] (fun i wr => ∃ k : Nat, k ≤ n ∧ i = .int .i64 k ∧ wr.rowIs w1.heap.size 5 n (fun j => .int .u8 (if j < k then (reor b o).getD j 0 else 0)) ∧ Below w.heap.size w wr) (fun i _ => n - (intOf i).toNat)
  case atStart => exact ⟨0, by omega, rfl, hrow.congr fun j _ => rfl, hB1.trans (hB2.mono hB1.size)⟩
  case round =>
    obtain ⟨k, hk, rfl, hR, hB⟩ := hrel
    by_cases hlt : k < n
    · have hkl : k < o.length := by rw [HL.out]; exact hlt
      obtain ⟨x, hx, hxn⟩ := ord_at HO.out hkl
      rw [HL.out] at hxn
      have hra := reor_at (b := b) hkl
      rw [hx, Int.toNat_natCast] at hra
      obtain ⟨ba, off, rfl, _, hcb, _⟩ := (hb.below hB).at_ hxn
      obtain ⟨bo, off', rfl, _, hco, _⟩ := (ho.below hB).at_ hlt
      rw [hx] at hco
      have hcell := hR.cell hlt
      have hfz := hR.frozen k
      obtain ⟨z, hz⟩ : ∃ z, (Value.int .u8 (if k < k then (reor b o).getD k 0 else 0)) = z := ⟨_, rfl⟩
      rw [hz] at hcell
      obtain ⟨y, hy⟩ : ∃ y, b.getD x 0 = y := ⟨_, rfl⟩
      rw [hy] at hcb hra
      have HS := Lib.hid hra
      have q1 : (0 : Int) ≤ (x : Int) := Int.natCast_nonneg _
      have q2 : (x : Int) < (n : Int) := by omega
      clear hx hy hra hkl hz
      go_wp2
      go_roundw
      case rel => exact ⟨k + 1, by omega, by go_num, (hR.set k _).congr fun j _ => reor_step HS.out, hB.setCell hB1.size _⟩
      case measure => simp [intOf]; omega
    · obtain rfl : k = n := by omega
      go_wp2
      go_ret2
      exact ⟨_, rfl, Own.of_row (hR.congr fun j hj => by rw [if_pos hj]) (by rw [reor_len]; exact HL.out) (by simp only [maxLen]; omega) hB1.size (fun x hx => by have := reor_bytes hby o x hx; exact WalkArith.wf_u8 (by omega)), hB⟩
theorem i_Reorder {w : World} {n c m c' : Nat} {A A' : Option Addr} {b o : List Int} (hb : Ints .u8 w w.heap.size A n b) (ho : Ints .i64 w w.heap.size A' m o) (hn : n ≤ 17592186043904) (hm : m ≤ 17592186043904) :
    Calls Try.prog 13 #[.slice A n c, .slice A' m c'] w fun e w' => ∃ v, e = .returned (.tuple #[v, .bool (freor b o).2]) ∧ Own .u8 5 w' w.heap.size v (freor b o).1 ∧ Below w.heap.size w w' := by
  have hbl := hb.1
  have hol := ho.1
  by_cases he : n = m
  · by_cases hO : Ord o
    · rw [freor_t (by omega) hO]
      exact i_Reorder_t hb ho hn he hO
    · rw [freor_r hO]
      have HF := Lib.hid (ordB_f hO)
      subst he
      have d0 : ((n : Int) != (n : Int)) = false := by simp
      clear hbl hol hO
      go_enter Try.func13, Try.ntmps13
      go_wp2_with (go_at_call 10; refine (i_Ordered ho hn).mono ?_; rintro e w1 ⟨rfl, hB1⟩; rw [HF.out])
      go_ret2
      exact ⟨_, rfl, Own.nil _ _ _ _, hB1⟩
  · rw [freor_l (by omega)]
    have d0 : ((n : Int) != (m : Int)) = true := by simp; omega
    clear hbl hol
    go_enter Try.func13, Try.ntmps13
    go_wp2
    go_ret2
    exact ⟨_, rfl, Own.nil _ _ _ _, Below.refl _ _⟩
end Go.Proofs.Ytjehcmmbbjidkaa
