/-
  Who has what it takes to follow, who can peel: contracts of both sides.
-/
import Derived.Test.YtpapkonejkdkhaaWay
import Derived.Test.YtpapkonejkdkhaaSpecNext
import Derived.Test.YtpapkonejkdkhaaRoute
import Derived.Test.YtpapkonejkdkhaaSn
import Derived.Outline
namespace Go.Proofs.Ytpapkonejkdkhaa
set_option maxRecDepth 100000
set_option linter.unusedSimpArgs false
set_option linter.unusedVariables false
open Go.ChangeShapes Go.WideShapes Go.ChangeAt Go.RowKit
open Fld
attribute [local go_sem ↓] Go.wp_at_zero Go.wp_at_succ

theorem secs_take0 (l : List Int) : Secs (l.take 0) := fun x hx => absurd hx (by simp)
theorem secs_no {l : List Int} {k : Nat} (hk : k < l.length) (h : ¬ LaySec (l.getD k 0)) : decide (Secs l) = false :=
  decide_eq_false fun hs => h (hs.at_ hk)
theorem info_int : (Try.prog.info? 3).map (fun i => (i.zero, i.size, i.bytes)) = some (some (.int .i64 0), 1, 8) := by kernel_rfl
theorem s_secs {w : World} {B n c : Nat} {A : Option Addr} {l : List Int} (hl : Ints .i64 w B A n l) (hn : n ≤ 17592186043904) :
    Calls Try.prog 62 #[.slice A n c] w fun e w' => e = .returned (.bool (decide (Secs l))) ∧ w = w' := by
  have HL := Lib.hid hl.1
  go_enter Try.func62, Try.ntmps62
  go_wp2_with fail
  go_loop [3] (fun i => ∃ k : Nat, k ≤ n ∧ i = .int .i64 k ∧ Secs (l.take k)) (fun i => n - (intOf i).toNat)
  case atStart => exact ⟨0, by omega, rfl, secs_take0 l⟩
  case round =>
    obtain ⟨k, hk, rfl, hG⟩ := hrel
    have HG := Lib.hid hG
    clear hG
    by_cases hlt : k < n
    · obtain ⟨b, off, rfl, hb, hcell, hwf⟩ := hl.at_ hlt
      have rgx := i64_rg hwf
      obtain ⟨x, hx⟩ : ∃ x, l.getD k 0 = x := ⟨_, rfl⟩
      rw [hx] at hcell rgx
      have HX := Lib.hid hx
      clear hx hwf
      rcases sec_or x with hs | hs
      · have h1 := hs.lo
        have h2 := hs.hi
        have rp := powP_rg 7 x.toNat
        rcases pub_or (powP 7 x.toNat) with hp | hp
        · have HS := Lib.hid (secs_take HG.out (by rw [HL.out]; exact hlt) (by rw [HX.out]; exact ⟨hs, hp⟩))
          go_wp2_with (first | (go_at_call 48; with_reducible refine (s_sec_t _ _ hs).mono ?_; rintro e w' ⟨rfl, rfl⟩) | (go_at_call 105; refine (s_pow 7 x _ (by omega) (by omega) (by omega) (by omega)).mono ?_; rintro e w' ⟨rfl, rfl⟩) | (go_at_call 104; with_reducible refine (s_pub_t _ _ hp).mono ?_; rintro e w' ⟨rfl, rfl⟩))
          go_round
          case rel => exact ⟨k + 1, by omega, by go_num, HS.out⟩
          case measure => simp [intOf]; omega
        · have HS := Lib.hid (secs_no (l := l) (k := k) (by rw [HL.out]; exact hlt) (by rw [HX.out]; exact fun h => hp h.2))
          go_wp2_with (first | (go_at_call 48; with_reducible refine (s_sec_t _ _ hs).mono ?_; rintro e w' ⟨rfl, rfl⟩) | (go_at_call 105; refine (s_pow 7 x _ (by omega) (by omega) (by omega) (by omega)).mono ?_; rintro e w' ⟨rfl, rfl⟩) | (go_at_call 104; with_reducible refine (s_pub_f _ _ hp).mono ?_; rintro e w' ⟨rfl, rfl⟩))
          go_ret
          exact ⟨ret_bool HS.out.symm, rfl⟩
      · have HS := Lib.hid (secs_no (l := l) (k := k) (by rw [HL.out]; exact hlt) (by rw [HX.out]; exact fun h => hs h.1))
        go_wp2_with (go_at_call 48; with_reducible refine (s_sec_f _ _ hs).mono ?_; rintro e w' ⟨rfl, rfl⟩)
        go_ret
        exact ⟨ret_bool HS.out.symm, rfl⟩
    · obtain rfl : k = n := by omega
      have HS := Lib.hid (show decide (Secs l) = true from decide_eq_true (by have := HG.out; rwa [List.take_of_length_le (by rw [HL.out]; exact Nat.le_refl _)] at this))
      go_wp2
      go_ret
      exact ⟨ret_bool HS.out.symm, rfl⟩
theorem i_canFollow {w : World} {n c m d : Nat} {A A' : Option Addr} {l cl : List Int} (hl : Ints .i64 w w.heap.size A n l) (hn : n ≤ 17592186043904) (hc : Ints .u8 w w.heap.size A' m cl) :
    Calls Try.prog 63 #[.slice A n c, .agg #[.slice A' m d]] w fun e w' => e = .returned (.bool (decide (CanF l cl))) ∧ Below w.heap.size w w' := by
  have e1 := hl.1
  have e2 := hc.1
  by_cases h8 : n = 8
  · subst h8
    by_cases hS : Secs l
    · have HS := Lib.hid (show decide (Secs l) = true from decide_eq_true hS)
      by_cases h80 : m = 80
      · subst h80
        have HR := Lib.hid (show decide (CanF l cl) = true from decide_eq_true ⟨by omega, hS, by omega⟩)
        clear e1 e2 hS
        rw [HR.out]
        go_enter Try.func63, Try.ntmps63
        go_wp2_with (first | (go_at_call 106; refine (i_every_sec ((reach hl (by repeat (first | (with_reducible exact Below.refl _ _) | (with_reducible assumption) | (with_reducible refine bel_alloc ?_ _) | (with_reducible refine bel_drew ?_) | (with_reducible refine below_drewN ?_ _) | (with_reducible refine bel_put ?_ (by first | exact Nat.le_refl _ | (simp; done) | (simp; omega)) _))))) hn).mono ?_; rintro e w' ⟨rfl, rfl⟩; rw [HS.out]) | (go_at_call 55; refine (i_CellOk_t _ _ _ _ rfl).mono ?_; rintro e w1 ⟨rfl, hB1⟩))
        go_ret
        exact ⟨rfl, bel_trans (a := w) (by repeat (first | (with_reducible exact Below.refl _ _) | (with_reducible assumption) | (with_reducible refine bel_alloc ?_ _) | (with_reducible refine bel_drew ?_) | (with_reducible refine below_drewN ?_ _) | (with_reducible refine bel_put ?_ (by first | exact Nat.le_refl _ | (simp; done) | (simp; omega)) _))) hB1⟩
      · have HR := Lib.hid (show decide (CanF l cl) = false from decide_eq_false fun h => by have := h.2.2; omega)
        clear e1 e2 hS
        rw [HR.out]
        go_enter Try.func63, Try.ntmps63
        go_wp2_with (first | (go_at_call 106; refine (i_every_sec ((reach hl (by repeat (first | (with_reducible exact Below.refl _ _) | (with_reducible assumption) | (with_reducible refine bel_alloc ?_ _) | (with_reducible refine bel_drew ?_) | (with_reducible refine below_drewN ?_ _) | (with_reducible refine bel_put ?_ (by first | exact Nat.le_refl _ | (simp; done) | (simp; omega)) _))))) hn).mono ?_; rintro e w' ⟨rfl, rfl⟩; rw [HS.out]) | (go_at_call 55; refine (i_CellOk_f _ _ _ _ h80).mono ?_; rintro e w1 ⟨rfl, hB1⟩))
        go_ret
        exact ⟨rfl, bel_trans (a := w) (by repeat (first | (with_reducible exact Below.refl _ _) | (with_reducible assumption) | (with_reducible refine bel_alloc ?_ _) | (with_reducible refine bel_drew ?_) | (with_reducible refine below_drewN ?_ _) | (with_reducible refine bel_put ?_ (by first | exact Nat.le_refl _ | (simp; done) | (simp; omega)) _))) hB1⟩
    · have HS := Lib.hid (show decide (Secs l) = false from decide_eq_false hS)
      have HR := Lib.hid (show decide (CanF l cl) = false from decide_eq_false fun h => hS h.2.1)
      clear e1 e2 hS
      rw [HR.out]
      go_enter Try.func63, Try.ntmps63
      go_wp2_with (go_at_call 106; refine (i_every_sec ((reach hl (by repeat (first | (with_reducible exact Below.refl _ _) | (with_reducible assumption) | (with_reducible refine bel_alloc ?_ _) | (with_reducible refine bel_drew ?_) | (with_reducible refine below_drewN ?_ _) | (with_reducible refine bel_put ?_ (by first | exact Nat.le_refl _ | (simp; done) | (simp; omega)) _))))) hn).mono ?_; rintro e w' ⟨rfl, rfl⟩; rw [HS.out])
      go_ret
      exact ⟨rfl, (by repeat (first | (with_reducible exact Below.refl _ _) | (with_reducible assumption) | (with_reducible refine bel_alloc ?_ _) | (with_reducible refine bel_drew ?_) | (with_reducible refine below_drewN ?_ _) | (with_reducible refine bel_put ?_ (by first | exact Nat.le_refl _ | (simp; done) | (simp; omega)) _)))⟩
  · have q8 : ((n : Int) == 8) = false := by simp; omega
    have HR := Lib.hid (show decide (CanF l cl) = false from decide_eq_false fun h => by have := h.1; omega)
    clear e1 e2 h8
    rw [HR.out]
    go_enter Try.func63, Try.ntmps63
    go_wp2
    go_ret
    exact ⟨rfl, (by repeat (first | (with_reducible exact Below.refl _ _) | (with_reducible assumption) | (with_reducible refine bel_alloc ?_ _) | (with_reducible refine bel_drew ?_) | (with_reducible refine below_drewN ?_ _) | (with_reducible refine bel_put ?_ (by first | exact Nat.le_refl _ | (simp; done) | (simp; omega)) _)))⟩
theorem i_CanPeel_f {w : World} {n c m d : Nat} {A A' : Option Addr} {l cl : List Int} (hl : Ints .i64 w w.heap.size A n l) (hn : n ≤ 17592186043904) (hc : Ints .u8 w w.heap.size A' m cl) (hf : ¬ CanF l cl) :
    Calls Try.prog 61 #[.slice A n c, .agg #[.slice A' m d]] w fun e w' => e = .returned (.slice none 0 0) ∧ Below w.heap.size w w' := by
  have HF := Lib.hid (decide_eq_false hf)
  clear hf
  go_enter Try.func61, Try.ntmps61
  go_wp2_with (go_at_call 63; refine (i_canFollow (reach hl (by repeat (first | (with_reducible exact Below.refl _ _) | (with_reducible assumption) | (with_reducible refine bel_alloc ?_ _) | (with_reducible refine bel_drew ?_) | (with_reducible refine below_drewN ?_ _) | (with_reducible refine bel_put ?_ (by first | exact Nat.le_refl _ | (simp; done) | (simp; omega)) _)))) hn (reach hc (by repeat (first | (with_reducible exact Below.refl _ _) | (with_reducible assumption) | (with_reducible refine bel_alloc ?_ _) | (with_reducible refine bel_drew ?_) | (with_reducible refine below_drewN ?_ _) | (with_reducible refine bel_put ?_ (by first | exact Nat.le_refl _ | (simp; done) | (simp; omega)) _))))).mono ?_; rintro e w1 ⟨rfl, hB1⟩; rw [HF.out])
  go_ret
  exact ⟨rfl, bel_trans (a := w) (by repeat (first | (with_reducible exact Below.refl _ _) | (with_reducible assumption) | (with_reducible refine bel_alloc ?_ _) | (with_reducible refine bel_drew ?_) | (with_reducible refine below_drewN ?_ _) | (with_reducible refine bel_put ?_ (by first | exact Nat.le_refl _ | (simp; done) | (simp; omega)) _))) hB1⟩
set_option maxHeartbeats 1000000 in
theorem i_CanPeel_t {w : World} {n c m d : Nat} {A A' : Option Addr} {l cl : List Int} (hl : Ints .i64 w w.heap.size A n l) (hn : n ≤ 17592186043904) (hc : Ints .u8 w w.heap.size A' m cl) (hmd : m ≤ d) (hd : d ≤ 9223372036854775807) (hf : CanF l cl) :
    Calls Try.prog 61 #[.slice A n c, .agg #[.slice A' m d]] w fun e w' => ∃ v, e = .returned v ∧ Own .i64 3 w' w.heap.size v (can0 l cl 8) ∧ Below w.heap.size w w' := by
  have h8 : n = 8 := by rw [← hl.1]; exact hf.1
  have HF := Lib.hid (decide_eq_true hf)
  have HL := Lib.hid hl.1
  have hby := Lib.hid (fun k => fnext_or (s := l.getD k 0) (hc.bytes))
  obtain ⟨i0, hi0, hz0, hz1, hz2⟩ := info_parts info_int
  subst h8
  go_enter Try.func61, Try.ntmps61
  go_wp2_with (go_at_call 63; refine (i_canFollow (reach hl (by repeat (first | (with_reducible exact Below.refl _ _) | (with_reducible assumption) | (with_reducible refine bel_alloc ?_ _) | (with_reducible refine bel_drew ?_) | (with_reducible refine below_drewN ?_ _) | (with_reducible refine bel_put ?_ (by first | exact Nat.le_refl _ | (simp; done) | (simp; omega)) _)))) hn (reach hc (by repeat (first | (with_reducible exact Below.refl _ _) | (with_reducible assumption) | (with_reducible refine bel_alloc ?_ _) | (with_reducible refine bel_drew ?_) | (with_reducible refine below_drewN ?_ _) | (with_reducible refine bel_put ?_ (by first | exact Nat.le_refl _ | (simp; done) | (simp; omega)) _))))).mono ?_; rintro e w1 ⟨rfl, hB1⟩; rw [HF.out])
  have bx : Box w1 w.heap.size 26 #[.slice A' m d] := (Box.new w _ _).below hB1 (by simp)
  go_loopw [5, 14] (fun v i wr => ∃ k : Nat, k ≤ 8 ∧ i = .int .i64 k ∧ Own .i64 3 wr (w.heap.size + 1) v (can0 l cl k) ∧ Below w.heap.size w wr ∧ Box wr w.heap.size 26 #[.slice A' m d]) (fun _ i _ => 8 - (intOf i).toNat)
  case atStart => exact ⟨0, by omega, rfl, Own.nil _ _ _ _, bel_trans (a := w) (by repeat (first | (with_reducible exact Below.refl _ _) | (with_reducible assumption) | (with_reducible refine bel_alloc ?_ _) | (with_reducible refine bel_drew ?_) | (with_reducible refine below_drewN ?_ _) | (with_reducible refine bel_put ?_ (by first | exact Nat.le_refl _ | (simp; done) | (simp; omega)) _))) hB1, bx⟩
  case round =>
    obtain ⟨k, hk, rfl, hO, hB, hX⟩ := hrel
    have cx := hX.cell 0
    by_cases hlt : k < 8
    · obtain ⟨b, off, rfl, hb, hcell, hwf⟩ := (reach hl hB).at_ hlt
      have hyr := hby.out k
      obtain ⟨x, hx⟩ : ∃ x, l.getD k 0 = x := ⟨_, rfl⟩
      rw [hx] at hcell hyr
      obtain ⟨y, hy⟩ : ∃ y, fnext x cl = y := ⟨_, rfl⟩
      rw [hy] at hyr
      have HX := Lib.hid hx
      have HY := Lib.hid hy
      have q2 : (k : Int) < 8 := by omega
      have hlen := can0_le l cl k
      have hsz := hX.size
      clear hx hy hwf
      rcases hyr with rfl | ⟨hy1, hy2⟩
      · have HC := Lib.hid (can0_f (S := l) (c := cl) (k := k) (by rw [HX.out, HY.out]))
        go_wp2_with (go_at_call 103; refine (i_NextOf x (reach (reach hc hB) (by repeat (first | (with_reducible exact Below.refl _ _) | (with_reducible assumption) | (with_reducible refine bel_alloc ?_ _) | (with_reducible refine bel_drew ?_) | (with_reducible refine below_drewN ?_ _) | (with_reducible refine bel_put ?_ (by first | exact Nat.le_refl _ | (simp; done) | (simp; omega)) _)))) hmd hd).mono ?_; rintro e w2 ⟨rfl, hB2⟩; rw [HY.out])
        go_roundw
        case rel => exact ⟨k + 1, by omega, by go_num, by rw [HC.out]; exact hO.below hB2, hB.trans (hB2.mono hB.size), hX.below hB2 hX.size⟩
        case measure => simp [intOf]; omega
      · have HC := Lib.hid (can0_t (S := l) (c := cl) (k := k) (by rw [HX.out, HY.out]; omega))
        have qy : (y != -1) = true := by simp; omega
        have hys : w.heap.size + 1 ≤ wr.heap.size := hsz
        go_wp2_with (first
          | (go_at_call 103; refine (i_NextOf x (reach (reach hc hB) (by repeat (first | (with_reducible exact Below.refl _ _) | (with_reducible assumption) | (with_reducible refine bel_alloc ?_ _) | (with_reducible refine bel_drew ?_) | (with_reducible refine below_drewN ?_ _) | (with_reducible refine bel_put ?_ (by first | exact Nat.le_refl _ | (simp; done) | (simp; omega)) _)))) hmd hd).mono ?_; rintro e w2 ⟨rfl, hB2⟩; rw [HY.out]; have hO2 := hO.below hB2; have hzz := hB2.size)
          | (at_builtin; refine wpList_app _ rfl (.tmp 23) (.tmp 25) _ rfl (w.heap.size + 1) 3 i0 _ 1 8 Try.underlying40 hi0 hz0 hz1 hz2 rfl (by omega) _ _ _ rfl (hO2.1.alloc _) _ 1 1 [.int .i64 (k : Int)] rfl (Src.one _ _ _) (one_int _ _) (by simp only [maxLen]; omega) (by omega) (by simp; omega) ?_; intro v1 w3 hown hgr hat))
        go_roundw
        case rel => exact ⟨k + 1, by omega, by go_num, own_sn hO2 hown HC.out (wf_i64 (by omega) (by omega)), below_sn (hB.trans (hB2.mono hB.size)) hO2 (by omega) hgr, box_sn (hX.below hB2 hX.size) hO2 (by omega) hgr⟩
        case measure => simp [intOf]; omega
    · obtain rfl : k = 8 := by omega
      go_wp2
      go_ret
      exact ⟨_, rfl, hO.lower (by omega), hB⟩
theorem i_CanPeel {w : World} {n c m d : Nat} {A A' : Option Addr} {l cl : List Int} (hl : Ints .i64 w w.heap.size A n l) (hn : n ≤ 17592186043904) (hc : Ints .u8 w w.heap.size A' m cl) (hmd : m ≤ d) (hd : d ≤ 9223372036854775807) :
    Calls Try.prog 61 #[.slice A n c, .agg #[.slice A' m d]] w fun e w' => ∃ v, e = .returned v ∧ Own .i64 3 w' w.heap.size v (fcan l cl) ∧ Below w.heap.size w w' := by
  by_cases h : CanF l cl
  · rw [fcan_t h]; exact i_CanPeel_t hl hn hc hmd hd h
  · rw [fcan_f h]; exact (i_CanPeel_f hl hn hc h).mono fun e w' hh => ⟨_, hh.1, Own.nil _ _ _ _, hh.2⟩
set_option maxHeartbeats 1000000 in
theorem s_CanPeel_t {w : World} {n c m d : Nat} {A A' : Option Addr} {l cl : List Int} (hl : Ints .i64 w w.heap.size A n l) (hc : Ints .u8 w w.heap.size A' m cl) (hmd : m ≤ d) (hd : d ≤ 9223372036854775807) (hf : CanF l cl) :
    Calls Try.prog 60 #[.slice A n c, .agg #[.slice A' m d]] w fun e w' => ∃ v, e = .returned v ∧ Own .i64 3 w' w.heap.size v (can0 l cl 8) ∧ Below w.heap.size w w' := by
  have h8 : n = 8 := by rw [← hl.1]; exact hf.1
  have h80 : m = 80 := by rw [← hc.1]; exact hf.2.2
  have HS := Lib.hid (show decide (Secs l) = true from decide_eq_true hf.2.1)
  have HL := Lib.hid hl.1
  have hby := Lib.hid (fun k => fnext_or (s := l.getD k 0) (hc.bytes))
  obtain ⟨i0, hi0, hz0, hz1, hz2⟩ := info_parts info_int
  clear hf
  subst h8 h80
  go_enter Try.func60, Try.ntmps60
  go_wp2_with (first | (go_at_call 62; refine (s_secs (reach hl (by repeat (first | (with_reducible exact Below.refl _ _) | (with_reducible assumption) | (with_reducible refine bel_alloc ?_ _) | (with_reducible refine bel_drew ?_) | (with_reducible refine below_drewN ?_ _) | (with_reducible refine bel_put ?_ (by first | exact Nat.le_refl _ | (simp; done) | (simp; omega)) _)))) (by omega)).mono ?_; rintro e w' ⟨rfl, rfl⟩; rw [HS.out]) | (go_at_call 49; refine (s_CellOk_t _ _ _ _ rfl).mono ?_; rintro e w1 ⟨rfl, hB1⟩))
  have bx : Box w1 w.heap.size 26 #[.slice A' 80 d] := (Box.new w _ _).below hB1 (by simp)
  go_loopw [5, 6] (fun v i wr => ∃ k : Nat, k ≤ 8 ∧ i = .int .i64 k ∧ Own .i64 3 wr (w.heap.size + 1) v (can0 l cl k) ∧ Below w.heap.size w wr ∧ Box wr w.heap.size 26 #[.slice A' 80 d]) (fun _ i _ => 8 - (intOf i).toNat)
  case atStart => exact ⟨0, by omega, rfl, Own.nil _ _ _ _, bel_trans (a := w) (by repeat (first | (with_reducible exact Below.refl _ _) | (with_reducible assumption) | (with_reducible refine bel_alloc ?_ _) | (with_reducible refine bel_drew ?_) | (with_reducible refine below_drewN ?_ _) | (with_reducible refine bel_put ?_ (by first | exact Nat.le_refl _ | (simp; done) | (simp; omega)) _))) hB1, bx⟩
  case round =>
    obtain ⟨k, hk, rfl, hO, hB, hX⟩ := hrel
    have cx : wr.cell? ⟨w.heap.size, 0, none⟩ = some (.slice A' 80 d) := hX.cell 0
    by_cases hlt : k < 8
    · obtain ⟨b, off, rfl, hb, hcell, hwf⟩ := (reach hl hB).at_ hlt
      have hyr := hby.out k
      obtain ⟨x, hx⟩ : ∃ x, l.getD k 0 = x := ⟨_, rfl⟩
      rw [hx] at hcell hyr
      obtain ⟨y, hy⟩ : ∃ y, fnext x cl = y := ⟨_, rfl⟩
      rw [hy] at hyr
      have HX := Lib.hid hx
      have HY := Lib.hid hy
      have q2 : (k : Int) < 8 := by omega
      have hlen := can0_le l cl k
      have hsz := hX.size
      clear hx hy hwf
      rcases hyr with rfl | ⟨hy1, hy2⟩
      · have HC := Lib.hid (can0_f (S := l) (c := cl) (k := k) (by rw [HX.out, HY.out]))
        go_wp2_with fail
        go_region_held3 (fun w' => w'.cell? ⟨b, off + k, none⟩ = some (.int .i64 x) ∧ w'.cell? ⟨w.heap.size, 0, none⟩ = some (.slice A' 80 d)) (first | (exact ⟨hcell, cx⟩) | (exact ⟨cell_bel hs2 hcell, cell_bel hs2 cx⟩) | go_keep)
          ((go_at_call 102; refine (s_NextOf x (reach (reach hc hB) (by repeat (first | (with_reducible exact Below.refl _ _) | (with_reducible assumption) | (with_reducible refine bel_alloc ?_ _) | (with_reducible refine bel_drew ?_) | (with_reducible refine below_drewN ?_ _) | (with_reducible refine bel_put ?_ (by first | exact Nat.le_refl _ | (simp; done) | (simp; omega)) _)))) (by omega) hd).mono ?_; rintro e w2 ⟨rfl, hB2⟩; rw [HY.out]; have hs2 : Below wr.heap.size wr w2 := bel_trans (by repeat (first | (with_reducible exact Below.refl _ _) | (with_reducible assumption) | (with_reducible refine bel_alloc ?_ _) | (with_reducible refine bel_drew ?_) | (with_reducible refine below_drewN ?_ _) | (with_reducible refine bel_put ?_ (by first | exact Nat.le_refl _ | (simp; done) | (simp; omega)) _))) hB2))
        go_wp2
        go_roundw
        case rel => exact ⟨k + 1, by omega, by go_num, by rw [HC.out]; exact hO.below hs2, hB.trans (hs2.mono hB.size), hX.below hs2 hX.size⟩
        case measure => simp [intOf]; omega
      · have HC := Lib.hid (can0_t (S := l) (c := cl) (k := k) (by rw [HX.out, HY.out]; omega))
        have hys : w.heap.size + 1 ≤ wr.heap.size := hsz
        go_wp2_with fail
        go_region_held3 (fun w' => w'.cell? ⟨b, off + k, none⟩ = some (.int .i64 x) ∧ w'.cell? ⟨w.heap.size, 0, none⟩ = some (.slice A' 80 d)) (first | (exact ⟨hcell, cx⟩) | (exact ⟨cell_bel hs2 hcell, cell_bel hs2 cx⟩) | go_keep)
          ((go_at_call 102; refine (s_NextOf x (reach (reach hc hB) (by repeat (first | (with_reducible exact Below.refl _ _) | (with_reducible assumption) | (with_reducible refine bel_alloc ?_ _) | (with_reducible refine bel_drew ?_) | (with_reducible refine below_drewN ?_ _) | (with_reducible refine bel_put ?_ (by first | exact Nat.le_refl _ | (simp; done) | (simp; omega)) _)))) (by omega) hd).mono ?_; rintro e w2 ⟨rfl, hB2⟩; rw [HY.out]; have hs2 : Below wr.heap.size wr w2 := bel_trans (by repeat (first | (with_reducible exact Below.refl _ _) | (with_reducible assumption) | (with_reducible refine bel_alloc ?_ _) | (with_reducible refine bel_drew ?_) | (with_reducible refine below_drewN ?_ _) | (with_reducible refine bel_put ?_ (by first | exact Nat.le_refl _ | (simp; done) | (simp; omega)) _))) hB2; have hO2 := hO.below hs2; have hzz := hs2.size))
        go_wp2_with (at_builtin; refine wpList_app _ rfl (.tmp 33) (.tmp 35) _ rfl (w.heap.size + 1) 3 i0 _ 1 8 Try.underlying40 hi0 hz0 hz1 hz2 rfl (by omega) _ _ _ rfl (hO2.1.alloc _) _ 1 1 [.int .i64 (k : Int)] rfl (Src.one _ _ _) (one_int _ _) (by simp only [maxLen]; omega) (by omega) (by simp; omega) ?_; intro v1 w3 hown hgr hat)
        go_roundw
        case rel => exact ⟨k + 1, by omega, by go_num, own_sn hO2 hown HC.out (wf_i64 (by omega) (by omega)), below_sn (hB.trans (hs2.mono hB.size)) hO2 (by omega) hgr, box_sn (hX.below hs2 hX.size) hO2 (by omega) hgr⟩
        case measure => simp [intOf]; omega
    · obtain rfl : k = 8 := by omega
      go_wp2
      go_ret
      exact ⟨_, rfl, hO.lower (by omega), hB⟩
theorem s_CanPeel_f {w : World} {n c m d : Nat} {A A' : Option Addr} {l cl : List Int} (hl : Ints .i64 w w.heap.size A n l) (hn : n ≤ 17592186043904) (hc : Ints .u8 w w.heap.size A' m cl) (hf : ¬ CanF l cl) :
    Calls Try.prog 60 #[.slice A n c, .agg #[.slice A' m d]] w fun e w' => e = .returned (.slice none 0 0) ∧ Below w.heap.size w w' := by
  by_cases h8 : n = 8
  · subst h8
    by_cases hS : Secs l
    · have HS := Lib.hid (show decide (Secs l) = true from decide_eq_true hS)
      have h80 : ¬ m = 80 := fun h => hf ⟨by rw [hl.1], hS, by rw [hc.1]; exact h⟩
      clear hf hS
      go_enter Try.func60, Try.ntmps60
      go_wp2_with (first | (go_at_call 62; refine (s_secs (reach hl (by repeat (first | (with_reducible exact Below.refl _ _) | (with_reducible assumption) | (with_reducible refine bel_alloc ?_ _) | (with_reducible refine bel_drew ?_) | (with_reducible refine below_drewN ?_ _) | (with_reducible refine bel_put ?_ (by first | exact Nat.le_refl _ | (simp; done) | (simp; omega)) _)))) (by omega)).mono ?_; rintro e w' ⟨rfl, rfl⟩; rw [HS.out]) | (go_at_call 49; refine (s_CellOk_f _ _ _ _ h80).mono ?_; rintro e w1 ⟨rfl, hB1⟩))
      go_ret
      exact ⟨rfl, bel_trans (a := w) (by repeat (first | (with_reducible exact Below.refl _ _) | (with_reducible assumption) | (with_reducible refine bel_alloc ?_ _) | (with_reducible refine bel_drew ?_) | (with_reducible refine below_drewN ?_ _) | (with_reducible refine bel_put ?_ (by first | exact Nat.le_refl _ | (simp; done) | (simp; omega)) _))) hB1⟩
    · have HS := Lib.hid (show decide (Secs l) = false from decide_eq_false hS)
      clear hf hS
      go_enter Try.func60, Try.ntmps60
      go_wp2_with (go_at_call 62; refine (s_secs (reach hl (by repeat (first | (with_reducible exact Below.refl _ _) | (with_reducible assumption) | (with_reducible refine bel_alloc ?_ _) | (with_reducible refine bel_drew ?_) | (with_reducible refine below_drewN ?_ _) | (with_reducible refine bel_put ?_ (by first | exact Nat.le_refl _ | (simp; done) | (simp; omega)) _)))) (by omega)).mono ?_; rintro e w' ⟨rfl, rfl⟩; rw [HS.out])
      go_ret
      exact ⟨rfl, (by repeat (first | (with_reducible exact Below.refl _ _) | (with_reducible assumption) | (with_reducible refine bel_alloc ?_ _) | (with_reducible refine bel_drew ?_) | (with_reducible refine below_drewN ?_ _) | (with_reducible refine bel_put ?_ (by first | exact Nat.le_refl _ | (simp; done) | (simp; omega)) _)))⟩
  · have q8 : ((n : Int) != 8) = true := by simp; omega
    clear hf h8
    go_enter Try.func60, Try.ntmps60
    go_wp2
    go_ret
    exact ⟨rfl, (by repeat (first | (with_reducible exact Below.refl _ _) | (with_reducible assumption) | (with_reducible refine bel_alloc ?_ _) | (with_reducible refine bel_drew ?_) | (with_reducible refine below_drewN ?_ _) | (with_reducible refine bel_put ?_ (by first | exact Nat.le_refl _ | (simp; done) | (simp; omega)) _)))⟩
theorem s_CanPeel {w : World} {n c m d : Nat} {A A' : Option Addr} {l cl : List Int} (hl : Ints .i64 w w.heap.size A n l) (hn : n ≤ 17592186043904) (hc : Ints .u8 w w.heap.size A' m cl) (hmd : m ≤ d) (hd : d ≤ 9223372036854775807) :
    Calls Try.prog 60 #[.slice A n c, .agg #[.slice A' m d]] w fun e w' => ∃ v, e = .returned v ∧ Own .i64 3 w' w.heap.size v (fcan l cl) ∧ Below w.heap.size w w' := by
  by_cases h : CanF l cl
  · rw [fcan_t h]; exact s_CanPeel_t hl hc hmd hd h
  · rw [fcan_f h]; exact (s_CanPeel_f hl hn hc h).mono fun e w' hh => ⟨_, hh.1, Own.nil _ _ _ _, hh.2⟩
end Go.Proofs.Ytpapkonejkdkhaa
