/-
  SpecOrd: texts joined.
-/
import Derived.Test.YtojbicecopkfbaaGreatFGb
import Derived.Test.YtojbicecopkfbaaGreatFGg
import Derived.BigQuiet
import Derived.Deep.DrawnRows
import Derived.Deep.QuietTactic
import Derived.Deep.RegionHeld3
import Derived.Outline
namespace Go.Proofs.YtojbicecopkfbaaGreat
open Go.ChangeShapes Go.WideShapes Go.ChangeAt Go.RowKit
open Fld
set_option maxRecDepth 100000
attribute [local go_sem ↓] Go.wp_at_zero Go.wp_at_succ

theorem info_ii : (Tryz.prog.info? 3).map (fun i => (i.zero, i.size, i.bytes)) = some (some (.int .i64 0), 1, 8) := by kernel_rfl
theorem by_ints {w : World} {B n : Nat} {A : Option Addr} {l : List Int} (h : Ints .u8 w B A n l) : Bytes l := fun x hx => by
  have := h.2.2 x hx
  simp [Lit.wf] at this
  have e1 : IntKind.u8.min = 0 := by decide
  have e2 : IntKind.u8.max = 255 := by decide
  omega

theorem s_below {w : World} {B m c : Nat} {A : Option Addr} {d : List Int} (i : Nat) (n : Int) (hd : Ints .u8 w B A m d) (hm : m ≤ 140737488355328) (hi : i ≤ m) (h1 : 1 ≤ n) (h2 : n ≤ 256) :
    Calls Tryz.prog 202 #[.slice A m c, .int .i64 i, .int .i64 n] w fun e w' => e = .returned (.tuple #[.int .i64 (belP d i n).1, .int .i64 (belP d i n).2]) ∧ w = w' := by
  have HL := Lib.hid hd.1
  have hby := by_ints hd
  have q : 0 ≤ 256 % n ∧ 256 % n ≤ 256 := ⟨Int.emod_nonneg _ (by omega), by have := Int.emod_lt_of_pos 256 (show 0 < n by omega); omega⟩
  go_enter Tryz.func202, Tryz.ntmps202
  go_wp2
  go_loop [9] (fun x => ∃ k : Nat, k ≤ m ∧ x = .int .i64 k ∧ belP d k n = belP d i n) (fun x => m - (intOf x).toNat)
  case atStart => exact ⟨i, hi, rfl, rfl⟩
  case round =>
    obtain ⟨k, hk, rfl, he⟩ := hrel
    have HE := Lib.hid he
    clear he
    by_cases hlt : k < m
    · obtain ⟨b, off, rfl, _, hc, _⟩ := hd.at_ hlt
      have bx := hby.at_ k
      by_cases hx : d.getD k 0 < 256 - 256 % n
      · have HH := Lib.hid (belP_hit (d := d) (i := k) (n := n) (by rw [HL.out]; exact hlt) hx)
        obtain ⟨x, hxx⟩ : ∃ x, d.getD k 0 = x := ⟨_, rfl⟩
        rw [hxx] at hc bx hx HH
        clear hxx
        go_wp2
        go_ret2
        exact ⟨by rw [← HE.out, HH.out]; rfl, rfl⟩
      · have HH := Lib.hid (belP_miss (d := d) (i := k) (n := n) (by rw [HL.out]; exact hlt) hx)
        obtain ⟨x, hxx⟩ : ∃ x, d.getD k 0 = x := ⟨_, rfl⟩
        rw [hxx] at hc bx hx
        clear hxx
        go_wp2
        go_round
        case rel => exact ⟨k + 1, by omega, by go_num, by rw [← HH.out, HE.out]⟩
        case measure => simp [intOf]; omega
    · obtain rfl : k = m := by omega
      have HH := Lib.hid (belP_end (d := d) (i := k) (n := n) (by rw [HL.out]; exact Nat.le_refl _))
      go_wp2
      go_ret2
      exact ⟨by rw [← HE.out, HH.out]; rfl, rfl⟩
theorem own_snoc_i {e : TypeId} {w w1 : World} {base : Nat} {v v1 : Value} {l l' : List Int} {x : Int} (h : Own .i64 e w base v l) (h1 : w1.ownsRow base e 1 v1 (l.length + 1) (l.map (Value.int .i64) ++ [.int .i64 x])) (hl : l' = l ++ [x]) (hx : (Lit.int .i64 x).wf = true) : Own .i64 e w1 base v1 l' := by
  subst hl
  refine Own.of (n := l.length + 1) (by simpa using h1) fun y hy => ?_
  rcases List.mem_append.1 hy with h' | h'
  · exact h.2 y h'
  · rw [List.mem_singleton] at h'; rw [h']; exact hx
theorem below_own_o {k : IntKind} {e : TypeId} {w wr wa w1 : World} {v : Value} {l : List Int} (hB : Below w.heap.size w wr) (h : Own k e wr w.heap.size v l) (ha : Below wr.heap.size wr wa) (hg : wa.grownBy w1 v.ownBlock) : Below w.heap.size w w1 :=
  (hB.trans (ha.mono hB.size)).grown hg (by have := hB.size; have := ha.size; omega) fun b hb => (h.1.lt b hb).1
theorem nat_wf {n : Nat} (h : n ≤ 9223372036854775807) : (Lit.int .i64 (n : Int)).wf = true := WalkArith.wf_i64 ⟨by omega, by omega⟩
theorem i64_eq {a b : Int} (h : a = b) : Value.int .i64 a = .int .i64 b := by rw [h]
/-- One more exchange, and what it is. -/
theorem shuf_more {d l L : List Int} {q j U : Nat} (hby : Bytes d) (hq : q ≤ d.length) (hj : 0 < j) (h : shuf d j l q = some (L, U)) :
    ∃ x nx : Nat, Hid (belP d q ((j : Int) + 1) = ((x : Int), nx)) ∧ Hid (shuf d (j - 1) (swp l j x) nx = some (L, U)) ∧ x ≤ j ∧ nx ≤ d.length ∧ q < nx := by
  obtain ⟨i, rfl⟩ : ∃ i, j = i + 1 := ⟨j - 1, by omega⟩
  have e : (((i + 1 : Nat) : Int) + 1) = (i : Int) + 2 := by omega
  rw [e]
  by_cases hn : (belP d q ((i : Int) + 2)).1 < 0
  · rw [shuf_no hn] at h; cases h
  · rw [shuf_yes hn] at h
    rcases belP_or (n := (i : Int) + 2) (by omega) hby hq with h1 | h1
    · omega
    · obtain ⟨h2, h3, h4, h5⟩ := h1
      refine ⟨(belP d q ((i : Int) + 2)).1.toNat, (belP d q ((i : Int) + 2)).2, Lib.hid (Prod.ext (by show _ = (((belP d q ((i : Int) + 2)).1.toNat : Nat) : Int); omega) rfl), Lib.hid h, by omega, h5, h4⟩
theorem shuf_none {d l : List Int} {q j : Nat} (hby : Bytes d) (hq : q ≤ d.length) (hj : 0 < j) (h : shuf d j l q = none) :
    (∃ nx : Nat, Hid (belP d q ((j : Int) + 1) = (-1, nx)) ∧ q ≤ nx) ∨ ∃ x nx : Nat, Hid (belP d q ((j : Int) + 1) = ((x : Int), nx)) ∧ Hid (shuf d (j - 1) (swp l j x) nx = none) ∧ x ≤ j ∧ nx ≤ d.length ∧ q < nx := by
  obtain ⟨i, rfl⟩ : ∃ i, j = i + 1 := ⟨j - 1, by omega⟩
  have e : (((i + 1 : Nat) : Int) + 1) = (i : Int) + 2 := by omega
  rw [e]
  rcases belP_or (n := (i : Int) + 2) (by omega) hby hq with h1 | h1
  · exact .inl ⟨(belP d q ((i : Int) + 2)).2, Lib.hid (Prod.ext h1.1 rfl), by rw [h1.2]; exact hq⟩
  · obtain ⟨h2, h3, h4, h5⟩ := h1
    rw [shuf_yes (by omega)] at h
    exact .inr ⟨(belP d q ((i : Int) + 2)).1.toNat, (belP d q ((i : Int) + 2)).2, Lib.hid (Prod.ext (by show _ = (((belP d q ((i : Int) + 2)).1.toNat : Nat) : Int); omega) rfl), Lib.hid h, by omega, h5, h4⟩
theorem swp_put {e : TypeId} {w : World} {base g : Nat} {l : List Int} {c i j : Nat} (h1 : Own .i64 e w base (.slice (some ⟨g, 0, none⟩) l.length c) l) (hi : i < l.length) (hj : j < l.length) :
    Own .i64 e ((w.setCell ⟨g, i, none⟩ (.int .i64 (l.getD j 0))).setCell ⟨g, j, none⟩ (.int .i64 (l.getD i 0))) base (.slice (some ⟨g, 0, none⟩) l.length c) (swp l i j) ∧
    ∃ u, (w.setCell ⟨g, i, none⟩ (.int .i64 (l.getD j 0))).cell? ⟨g, j, none⟩ = some u := by
  have hw : ∀ {y : Nat}, y < l.length → (Lit.int .i64 (l.getD y 0)).wf = true := fun hy => wf_getD h1.2 hy
  have h1 := h1.put i (l.getD j 0) (hw hj)
  have hl1 : (l.set i (l.getD j 0)).length = l.length := by simp
  have h1' : Own .i64 e (w.setCell ⟨g, i, none⟩ (.int .i64 (l.getD j 0))) base (.slice (some ⟨g, 0, none⟩) (l.set i (l.getD j 0)).length c) (l.set i (l.getD j 0)) := by rw [hl1]; exact h1
  have h2 := h1'.put j (l.getD i 0) (hw hi)
  obtain ⟨g', c', e1, _, _, _, _, hc, _⟩ := h1'.row (by rw [hl1]; omega)
  injection e1 with e1
  injection e1 with e1
  injection e1 with e1
  subst e1
  refine ⟨?_, _, hc j (by rw [hl1]; exact hj)⟩
  rw [hl1] at h2
  exact h2
set_option maxHeartbeats 2000000 in
theorem s_shuffle_t {w : World} {m c : Nat} {A : Option Addr} {d : List Int} (n : Nat) (hd : Ints .u8 w w.heap.size A m d) (hm : m ≤ 140737488355328) (hn : n ≤ 64) {L : List Int} {U : Nat} (hs : shuf d (n - 1) (iota n) 0 = some (L, U)) :
    Calls Tryz.prog 152 #[.slice A m c, .int .i64 n] w fun e w' => ∃ v, e = .returned (.tuple #[v, .int .i64 U]) ∧ Own .i64 3 w' w.heap.size v L ∧ Below w.heap.size w w' := by
  obtain ⟨i0, hi0, hz0, hz1, hz2⟩ := info_parts info_ii
  have HL := Lib.hid hd.1
  have HS := Lib.hid hs
  clear hs
  have hby := by_ints hd
  go_enter Tryz.func152, Tryz.ntmps152
  go_wp2
  go_loopw [6, 7] (fun v i wr => ∃ k : Nat, k ≤ n ∧ i = .int .i64 k ∧ Own .i64 3 wr w.heap.size v (iota k) ∧ Below w.heap.size w wr) (fun _ i _ => n - (intOf i).toNat)
  case atStart => exact ⟨0, by omega, rfl, Own.nil _ _ _ _, Below.refl _ _⟩
  case round =>
    obtain ⟨k, hk, rfl, hO, hB⟩ := hrel
    by_cases hlt : k < n
    · have HI := Lib.hid (iota_snoc k)
      go_wp2_with (at_builtin; refine wpList_app _ rfl (.tmp 18) (.tmp 20) _ rfl w.heap.size 3 i0 _ 1 8 Tryz.underlying23 hi0 hz0 hz1 hz2 rfl (by omega) _ _ _ rfl (hO.1.alloc _) _ 1 1 [.int .i64 (k : Int)] rfl (Src.one _ _ _) (one_int _ _) (by simp only [maxLen]; rw [iota_len]; omega) (by rw [iota_len]; omega) (by simp; have := hB.size; omega) ?_; intro v1 w1 hown hg hat)
      go_roundw
      case rel => exact ⟨k + 1, by omega, by go_num, own_snoc_i hO hown HI.out (nat_wf (by omega)), below_own_o hB hO ((Below.refl _ _).alloc (Nat.le_refl _) _) hg⟩
      case measure => simp [intOf]; omega
    · obtain rfl : k = n := by omega
      clear hlt hk
      obtain ⟨wo, rfl⟩ : ∃ wo : World, wo = wr := ⟨_, rfl⟩
      rcases Nat.eq_zero_or_pos k with h0 | hpos
      · subst h0
        have e : (L, U) = ([], 0) := by
          have := HS.out
          rw [show shuf d (0 - 1) (iota 0) 0 = some ([], 0) from rfl] at this
          injection this with this
          exact this.symm
        injection e with e1 e2
        subst e1 e2
        rw [iota_zero] at hO
        obtain ⟨A6, c6, rfl, _⟩ := hO.ints
        go_wp2
        go_loopw [8, 9] (fun u i wr => u = .int .i64 0 ∧ i = .int .i64 (-1) ∧ wr = wo) (fun _ _ _ => 0)
        case atStart => exact ⟨rfl, rfl, rfl⟩
        case round =>
          obtain ⟨rfl, rfl, rfl⟩ := hrel
          go_wp2
          go_ret2
          exact ⟨_, rfl, hO, hB⟩
      · go_wp2
        go_loopw [8, 9] (fun u i wr => ∃ (q j : Nat) (l : List Int), u = .int .i64 q ∧ i = .int .i64 j ∧ j < k ∧ q ≤ m ∧ l.length = k ∧ shuf d j l q = some (L, U) ∧ Own .i64 3 wr w.heap.size u6 l ∧ Below w.heap.size w wr) (fun _ i _ => (intOf i).toNat)
        case atStart => exact ⟨0, k - 1, iota k, rfl, i64_eq (by omega), by omega, by omega, iota_len k, HS.out, hO, hB⟩
        case round =>
          obtain ⟨q, j, l, rfl, rfl, hj, hq, hl, hR, hO2, hB2⟩ := hrel
          rcases Nat.eq_zero_or_pos j with h0 | hpj
          · subst h0
            rw [shuf_zero] at hR
            injection hR with hR
            injection hR with e1 e2
            subst e1 e2
            clear hO HS
            go_wp2
            go_ret2
            exact ⟨_, rfl, hO2, hB2⟩
          · obtain ⟨x, nx, HB, HR, hx, hnx, hqn⟩ := shuf_more hby (by rw [HL.out]; exact hq) hpj hR
            rw [HL.out] at hnx
            clear hO HS hR
            subst hl
            obtain ⟨g, c', rfl, _, _, hg, hgs, hcell, hfz⟩ := hO2.row (by omega)
            obtain ⟨hP, u, hc3⟩ := swp_put hO2 (i := j) (j := x) (by omega) (by omega)
            have hc1 := hcell j (by omega)
            have hc2 := hcell x (by omega)
            have f1 := hfz j
            have f2 := hfz x
            have q1 : (0 : Int) ≤ (x : Int) := Int.natCast_nonneg _
            obtain ⟨a, ha⟩ : ∃ a, l.getD j 0 = a := ⟨_, rfl⟩
            obtain ⟨b, hb⟩ : ∃ b, l.getD x 0 = b := ⟨_, rfl⟩
            rw [ha] at hc1 hP
            rw [hb] at hc2 hc3 hP
            have HA := Lib.hid ha
            clear ha hb hcell hfz
            go_wp2_with (go_at_call 202; refine (s_below q _ (hd.below hB2) hm hq (by omega) (by omega)).mono ?_; rintro e w' ⟨rfl, rfl⟩; rw [HB.out])
            go_roundw
            case rel => exact ⟨nx, j - 1, swp l j x, rfl, i64_eq (by omega), by omega, hnx, swp_len _ _ _, HR.out, hP, (hB2.setCell hg _).setCell hg _⟩
            case measure => simp [intOf]; omega
set_option maxHeartbeats 2000000 in
theorem s_shuffle_f {w : World} {m c : Nat} {A : Option Addr} {d : List Int} (n : Nat) (hd : Ints .u8 w w.heap.size A m d) (hm : m ≤ 140737488355328) (hn : n ≤ 64) (hs : shuf d (n - 1) (iota n) 0 = none) :
    Calls Tryz.prog 152 #[.slice A m c, .int .i64 n] w fun e w' => e = .returned (.tuple #[.slice none 0 0, .int .i64 (-1)]) ∧ Below w.heap.size w w' := by
  obtain ⟨i0, hi0, hz0, hz1, hz2⟩ := info_parts info_ii
  have HL := Lib.hid hd.1
  have HS := Lib.hid hs
  clear hs
  have hby := by_ints hd
  go_enter Tryz.func152, Tryz.ntmps152
  go_wp2
  go_loopw [6, 7] (fun v i wr => ∃ k : Nat, k ≤ n ∧ i = .int .i64 k ∧ Own .i64 3 wr w.heap.size v (iota k) ∧ Below w.heap.size w wr) (fun _ i _ => n - (intOf i).toNat)
  case atStart => exact ⟨0, by omega, rfl, Own.nil _ _ _ _, Below.refl _ _⟩
  case round =>
    obtain ⟨k, hk, rfl, hO, hB⟩ := hrel
    by_cases hlt : k < n
    · have HI := Lib.hid (iota_snoc k)
      go_wp2_with (at_builtin; refine wpList_app _ rfl (.tmp 18) (.tmp 20) _ rfl w.heap.size 3 i0 _ 1 8 Tryz.underlying23 hi0 hz0 hz1 hz2 rfl (by omega) _ _ _ rfl (hO.1.alloc _) _ 1 1 [.int .i64 (k : Int)] rfl (Src.one _ _ _) (one_int _ _) (by simp only [maxLen]; rw [iota_len]; omega) (by rw [iota_len]; omega) (by simp; have := hB.size; omega) ?_; intro v1 w1 hown hg hat)
      go_roundw
      case rel => exact ⟨k + 1, by omega, by go_num, own_snoc_i hO hown HI.out (nat_wf (by omega)), below_own_o hB hO ((Below.refl _ _).alloc (Nat.le_refl _) _) hg⟩
      case measure => simp [intOf]; omega
    · obtain rfl : k = n := by omega
      clear hlt hk
      obtain ⟨wo, rfl⟩ : ∃ wo : World, wo = wr := ⟨_, rfl⟩
      rcases Nat.eq_zero_or_pos k with h0 | hpos
      · subst h0
        exact absurd HS.out (by rw [show shuf d (0 - 1) (iota 0) 0 = some ([], 0) from rfl]; simp)
      · go_wp2
        go_loopw [8, 9] (fun u i wr => ∃ (q j : Nat) (l : List Int), u = .int .i64 q ∧ i = .int .i64 j ∧ j < k ∧ q ≤ m ∧ l.length = k ∧ shuf d j l q = none ∧ Own .i64 3 wr w.heap.size u6 l ∧ Below w.heap.size w wr) (fun _ i _ => (intOf i).toNat)
        case atStart => exact ⟨0, k - 1, iota k, rfl, i64_eq (by omega), by omega, by omega, iota_len k, HS.out, hO, hB⟩
        case round =>
          obtain ⟨q, j, l, rfl, rfl, hj, hq, hl, hR, hO2, hB2⟩ := hrel
          rcases Nat.eq_zero_or_pos j with h0 | hpj
          · subst h0
            rw [shuf_zero] at hR
            cases hR
          · rcases shuf_none hby (by rw [HL.out]; exact hq) hpj hR with ⟨nx, HB, _⟩ | ⟨x, nx, HB, HR, hx, hnx, hqn⟩
            · clear hO HS hR
              subst hl
              obtain ⟨g, c', rfl, _, _, hg, hgs, hcell, hfz⟩ := hO2.row (by omega)
              clear hcell hfz
              go_wp2_with (go_at_call 202; refine (s_below q _ (hd.below hB2) hm hq (by omega) (by omega)).mono ?_; rintro e w' ⟨rfl, rfl⟩; rw [HB.out])
              go_ret2
              exact ⟨rfl, hB2⟩
            rw [HL.out] at hnx
            clear hO HS hR
            subst hl
            obtain ⟨g, c', rfl, _, _, hg, hgs, hcell, hfz⟩ := hO2.row (by omega)
            obtain ⟨hP, u, hc3⟩ := swp_put hO2 (i := j) (j := x) (by omega) (by omega)
            have hc1 := hcell j (by omega)
            have hc2 := hcell x (by omega)
            have f1 := hfz j
            have f2 := hfz x
            have q1 : (0 : Int) ≤ (x : Int) := Int.natCast_nonneg _
            obtain ⟨a, ha⟩ : ∃ a, l.getD j 0 = a := ⟨_, rfl⟩
            obtain ⟨b, hb⟩ : ∃ b, l.getD x 0 = b := ⟨_, rfl⟩
            rw [ha] at hc1 hP
            rw [hb] at hc2 hc3 hP
            have HA := Lib.hid ha
            clear ha hb hcell hfz
            go_wp2_with (go_at_call 202; refine (s_below q _ (hd.below hB2) hm hq (by omega) (by omega)).mono ?_; rintro e w' ⟨rfl, rfl⟩; rw [HB.out])
            go_roundw
            case rel => exact ⟨nx, j - 1, swp l j x, rfl, i64_eq (by omega), by omega, hnx, swp_len _ _ _, HR.out, hP, (hB2.setCell hg _).setCell hg _⟩
            case measure => simp [intOf]; omega
end Go.Proofs.YtojbicecopkfbaaGreat
