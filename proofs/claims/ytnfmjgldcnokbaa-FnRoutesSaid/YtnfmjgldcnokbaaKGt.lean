/-
  Can, Depth, SpWr: texts joined.
-/
import Derived.Test.YtnfmjgldcnokbaaKGh
import Derived.Test.YtnfmjgldcnokbaaKGj
import Derived.Test.YtnfmjgldcnokbaaKGq
import Derived.Test.YtnfmjgldcnokbaaKGs
import Derived.Deep.RegionHeld3
import Derived.Outline
namespace Go.Proofs.Ytnfmjgldcnokbaa
set_option maxRecDepth 100000
set_option linter.unusedSimpArgs false
set_option linter.unusedVariables false
open Go.ChangeShapes Go.WideShapes Go.ChangeAt Go.RowKit
open Fld
attribute [local go_sem ↓] Go.wp_at_zero Go.wp_at_succ

theorem secs_take0 (l : List Int) : Secs (l.take 0) := fun x hx => absurd hx (by simp)
theorem secs_no {l : List Int} {k : Nat} (hk : k < l.length) (h : ¬ LaySec (l.getD k 0)) : decide (Secs l) = false :=
  decide_eq_false fun hs => h (hs.at_ hk)
theorem info_int : (Try.prog.info? 3).map (fun i => (i.zero, i.size, i.bytes)) = some (some (.int .i64 0), 1, 8) := by kernel_rfl
theorem s_secs {w : World} {B n c : Nat} {A : Option Addr} {l : List Int} (hl : Ints .i64 w B A n l) (hn : n ≤ 17592186043904) :
    Calls Try.prog 55 #[.slice A n c] w fun e w' => e = .returned (.bool (decide (Secs l))) ∧ w = w' := by
  have HL := Lib.hid hl.1
  go_enter Try.func55, Try.ntmps55
  go_wp2_with fail
  go_loop [3] (fun i => ∃ k : Nat, k ≤ n ∧ i = .int .i64 k ∧ Secs (l.take k)) (fun i => n - (intOf i).toNat)
  case atStart => exact ⟨0, by omega, rfl, secs_take0 l⟩
  case round =>
    obtain ⟨k, hk, rfl, hG⟩ := hrel
    have HG := Lib.hid hG
    clear hG
    by_cases hlt : k < n
    · obtain ⟨b, off, rfl, hb, hcell, hwf⟩ := hl.at_ hlt
      have rgx := i64_rg hwf
      obtain ⟨x, hx⟩ : ∃ x, l.getD k 0 = x := ⟨_, rfl⟩
      rw [hx] at hcell rgx
      have HX := Lib.hid hx
      clear hx hwf
      rcases sec_or x with hs | hs
      · have h1 := hs.lo
        have h2 := hs.hi
        have rp := powP_rg 7 x.toNat
        rcases pub_or (powP 7 x.toNat) with hp | hp
        · have HS := Lib.hid (secs_take HG.out (by rw [HL.out]; exact hlt) (by rw [HX.out]; exact ⟨hs, hp⟩))
          go_wp2_with (first | (go_at_call 87; with_reducible refine (s_sec_t _ _ hs).mono ?_; rintro e w' ⟨rfl, rfl⟩) | (go_at_call 83; refine (s_pow 7 x _ (by omega) (by omega) (by omega) (by omega)).mono ?_; rintro e w' ⟨rfl, rfl⟩) | (go_at_call 93; with_reducible refine (s_pub_t _ _ hp).mono ?_; rintro e w' ⟨rfl, rfl⟩))
          go_round
          case rel => exact ⟨k + 1, by omega, by go_num, HS.out⟩
          case measure => simp [intOf]; omega
        · have HS := Lib.hid (secs_no (l := l) (k := k) (by rw [HL.out]; exact hlt) (by rw [HX.out]; exact fun h => hp h.2))
          go_wp2_with (first | (go_at_call 87; with_reducible refine (s_sec_t _ _ hs).mono ?_; rintro e w' ⟨rfl, rfl⟩) | (go_at_call 83; refine (s_pow 7 x _ (by omega) (by omega) (by omega) (by omega)).mono ?_; rintro e w' ⟨rfl, rfl⟩) | (go_at_call 93; with_reducible refine (s_pub_f _ _ hp).mono ?_; rintro e w' ⟨rfl, rfl⟩))
          go_ret
          exact ⟨ret_bool HS.out.symm, rfl⟩
      · have HS := Lib.hid (secs_no (l := l) (k := k) (by rw [HL.out]; exact hlt) (by rw [HX.out]; exact fun h => hs h.1))
        go_wp2_with (go_at_call 87; with_reducible refine (s_sec_f _ _ hs).mono ?_; rintro e w' ⟨rfl, rfl⟩)
        go_ret
        exact ⟨ret_bool HS.out.symm, rfl⟩
    · obtain rfl : k = n := by omega
      have HS := Lib.hid (show decide (Secs l) = true from decide_eq_true (by have := HG.out; rwa [List.take_of_length_le (by rw [HL.out]; exact Nat.le_refl _)] at this))
      go_wp2
      go_ret
      exact ⟨ret_bool HS.out.symm, rfl⟩
theorem i_canFollow {w : World} {n c m d : Nat} {A A' : Option Addr} {l cl : List Int} (hl : Ints .i64 w w.heap.size A n l) (hn : n ≤ 17592186043904) (hc : Ints .u8 w w.heap.size A' m cl) :
    Calls Try.prog 57 #[.slice A n c, .agg #[.slice A' m d]] w fun e w' => e = .returned (.bool (decide (CanF l cl))) ∧ Below w.heap.size w w' := by
  have e1 := hl.1
  have e2 := hc.1
  by_cases h8 : n = 8
  · subst h8
    by_cases hS : Secs l
    · have HS := Lib.hid (show decide (Secs l) = true from decide_eq_true hS)
      by_cases h80 : m = 80
      · subst h80
        have HR := Lib.hid (show decide (CanF l cl) = true from decide_eq_true ⟨by omega, hS, by omega⟩)
        clear e1 e2 hS
        rw [HR.out]
        go_enter Try.func57, Try.ntmps57
        go_wp2_with (first | (go_at_call 46; refine (i_every_sec ((reach hl (belx))) hn).mono ?_; rintro e w' ⟨rfl, rfl⟩; rw [HS.out]) | (go_at_call 16; refine (i_CellOk_t _ _ _ _ rfl).mono ?_; rintro e w1 ⟨rfl, hB1⟩))
        go_ret
        exact ⟨rfl, bel_trans (a := w) (belx) hB1⟩
      · have HR := Lib.hid (show decide (CanF l cl) = false from decide_eq_false fun h => by have := h.2.2; omega)
        clear e1 e2 hS
        rw [HR.out]
        go_enter Try.func57, Try.ntmps57
        go_wp2_with (first | (go_at_call 46; refine (i_every_sec ((reach hl (belx))) hn).mono ?_; rintro e w' ⟨rfl, rfl⟩; rw [HS.out]) | (go_at_call 16; refine (i_CellOk_f _ _ _ _ h80).mono ?_; rintro e w1 ⟨rfl, hB1⟩))
        go_ret
        exact ⟨rfl, bel_trans (a := w) (belx) hB1⟩
    · have HS := Lib.hid (show decide (Secs l) = false from decide_eq_false hS)
      have HR := Lib.hid (show decide (CanF l cl) = false from decide_eq_false fun h => hS h.2.1)
      clear e1 e2 hS
      rw [HR.out]
      go_enter Try.func57, Try.ntmps57
      go_wp2_with (go_at_call 46; refine (i_every_sec ((reach hl (belx))) hn).mono ?_; rintro e w' ⟨rfl, rfl⟩; rw [HS.out])
      go_ret
      exact ⟨rfl, (belx)⟩
  · have q8 : ((n : Int) == 8) = false := by simp; omega
    have HR := Lib.hid (show decide (CanF l cl) = false from decide_eq_false fun h => by have := h.1; omega)
    clear e1 e2 h8
    rw [HR.out]
    go_enter Try.func57, Try.ntmps57
    go_wp2
    go_ret
    exact ⟨rfl, (belx)⟩
theorem i_CanPeel_f {w : World} {n c m d : Nat} {A A' : Option Addr} {l cl : List Int} (hl : Ints .i64 w w.heap.size A n l) (hn : n ≤ 17592186043904) (hc : Ints .u8 w w.heap.size A' m cl) (hf : ¬ CanF l cl) :
    Calls Try.prog 24 #[.slice A n c, .agg #[.slice A' m d]] w fun e w' => e = .returned (.slice none 0 0) ∧ Below w.heap.size w w' := by
  have HF := Lib.hid (decide_eq_false hf)
  clear hf
  go_enter Try.func24, Try.ntmps24
  go_wp2_with (go_at_call 57; refine (i_canFollow (reach hl (belx)) hn (reach hc (belx))).mono ?_; rintro e w1 ⟨rfl, hB1⟩; rw [HF.out])
  go_ret
  exact ⟨rfl, bel_trans (a := w) (belx) hB1⟩
set_option maxHeartbeats 1000000 in
theorem i_CanPeel_t {w : World} {n c m d : Nat} {A A' : Option Addr} {l cl : List Int} (hl : Ints .i64 w w.heap.size A n l) (hn : n ≤ 17592186043904) (hc : Ints .u8 w w.heap.size A' m cl) (hmd : m ≤ d) (hd : d ≤ 9223372036854775807) (hf : CanF l cl) :
    Calls Try.prog 24 #[.slice A n c, .agg #[.slice A' m d]] w fun e w' => ∃ v, e = .returned v ∧ Own .i64 3 w' w.heap.size v (can0 l cl 8) ∧ Below w.heap.size w w' := by
  have h8 : n = 8 := by rw [← hl.1]; exact hf.1
  have HF := Lib.hid (decide_eq_true hf)
  have HL := Lib.hid hl.1
  have hby := Lib.hid (fun k => fnext_or (s := l.getD k 0) (hc.bytes))
  obtain ⟨i0, hi0, hz0, hz1, hz2⟩ := info_parts info_int
  subst h8
  go_enter Try.func24, Try.ntmps24
  go_wp2_with (go_at_call 57; refine (i_canFollow (reach hl (belx)) hn (reach hc (belx))).mono ?_; rintro e w1 ⟨rfl, hB1⟩; rw [HF.out])
  have bx : Box w1 w.heap.size 30 #[.slice A' m d] := (Box.new w _ _).below hB1 (by simp)
  go_loopw [5, 14] (fun v i wr => ∃ k : Nat, k ≤ 8 ∧ i = .int .i64 k ∧ Own .i64 3 wr (w.heap.size + 1) v (can0 l cl k) ∧ Below w.heap.size w wr ∧ Box wr w.heap.size 30 #[.slice A' m d]) (fun _ i _ => 8 - (intOf i).toNat)
  case atStart => exact ⟨0, by omega, rfl, Own.nil _ _ _ _, bel_trans (a := w) (belx) hB1, bx⟩
  case round =>
    obtain ⟨k, hk, rfl, hO, hB, hX⟩ := hrel
    have cx := hX.cell 0
    by_cases hlt : k < 8
    · obtain ⟨b, off, rfl, hb, hcell, hwf⟩ := (reach hl hB).at_ hlt
      have hyr := hby.out k
      obtain ⟨x, hx⟩ : ∃ x, l.getD k 0 = x := ⟨_, rfl⟩
      rw [hx] at hcell hyr
      obtain ⟨y, hy⟩ : ∃ y, fnext x cl = y := ⟨_, rfl⟩
      rw [hy] at hyr
      have HX := Lib.hid hx
      have HY := Lib.hid hy
      have q2 : (k : Int) < 8 := by omega
      have hlen := can0_le l cl k
      have hsz := hX.size
      clear hx hy hwf
      rcases hyr with rfl | ⟨hy1, hy2⟩
      · have HC := Lib.hid (can0_f (S := l) (c := cl) (k := k) (by rw [HX.out, HY.out]))
        go_wp2_with (go_at_call 25; refine (i_NextOf x (reach (reach hc hB) (belx)) hmd hd).mono ?_; rintro e w2 ⟨rfl, hB2⟩; rw [HY.out])
        go_roundw
        case rel => exact ⟨k + 1, by omega, by go_num, by rw [HC.out]; exact hO.below hB2, hB.trans (hB2.mono hB.size), hX.below hB2 hX.size⟩
        case measure => simp [intOf]; omega
      · have HC := Lib.hid (can0_t (S := l) (c := cl) (k := k) (by rw [HX.out, HY.out]; omega))
        have qy : (y != -1) = true := by simp; omega
        have hys : w.heap.size + 1 ≤ wr.heap.size := hsz
        go_wp2_with (first
          | (go_at_call 25; refine (i_NextOf x (reach (reach hc hB) (belx)) hmd hd).mono ?_; rintro e w2 ⟨rfl, hB2⟩; rw [HY.out]; have hO2 := hO.below hB2; have hzz := hB2.size)
          | (at_builtin; refine wpList_app _ rfl (.tmp 23) (.tmp 25) _ rfl (w.heap.size + 1) 3 i0 _ 1 8 Try.underlying23 hi0 hz0 hz1 hz2 rfl (by omega) _ _ _ rfl (hO2.1.alloc _) _ 1 1 [.int .i64 (k : Int)] rfl (Src.one _ _ _) (one_int _ _) (by simp only [maxLen]; omega) (by omega) (by simp; omega) ?_; intro v1 w3 hown hgr hat))
        go_roundw
        case rel => exact ⟨k + 1, by omega, by go_num, own_sn hO2 hown HC.out (wf_i64 (by omega) (by omega)), below_sn (hB.trans (hB2.mono hB.size)) hO2 (by omega) hgr, box_sn (hX.below hB2 hX.size) hO2 (by omega) hgr⟩
        case measure => simp [intOf]; omega
    · obtain rfl : k = 8 := by omega
      go_wp2
      go_ret
      exact ⟨_, rfl, hO.lower (by omega), hB⟩
theorem i_CanPeel {w : World} {n c m d : Nat} {A A' : Option Addr} {l cl : List Int} (hl : Ints .i64 w w.heap.size A n l) (hn : n ≤ 17592186043904) (hc : Ints .u8 w w.heap.size A' m cl) (hmd : m ≤ d) (hd : d ≤ 9223372036854775807) :
    Calls Try.prog 24 #[.slice A n c, .agg #[.slice A' m d]] w fun e w' => ∃ v, e = .returned v ∧ Own .i64 3 w' w.heap.size v (fcan l cl) ∧ Below w.heap.size w w' := by
  by_cases h : CanF l cl
  · rw [fcan_t h]; exact i_CanPeel_t hl hn hc hmd hd h
  · rw [fcan_f h]; exact (i_CanPeel_f hl hn hc h).mono fun e w' hh => ⟨_, hh.1, Own.nil _ _ _ _, hh.2⟩
end Go.Proofs.Ytnfmjgldcnokbaa
namespace Go.Proofs.Ytnfmjgldcnokbaa
open Go.ChangeShapes Go.WideShapes Go.ChangeAt Go.RowKit
open Fld
set_option maxRecDepth 100000

/-- Reach's contract, of either side. -/
def ReachC (f : FuncId) : Prop := ∀ {w : World} {n c m d : Nat} {A A' : Option Addr} {l cl : List Int} (a : Int), Ints .i64 w w.heap.size A n l → n ≤ 17592186043904 → Ints .u8 w w.heap.size A' m cl → m ≤ d → d ≤ 9223372036854775807 → (Lit.int .i64 a).wf = true →
  Calls Try.prog f #[.slice A n c, .int .i64 a, .agg #[.slice A' m d]] w fun e w' => ∃ v, e = .returned v ∧ Own .i64 3 w' w.heap.size v (freach l a cl) ∧ Below w.heap.size w w'
theorem i_Reach_f {w : World} {n c m d : Nat} {A A' : Option Addr} {l cl : List Int} (a : Int) (hl : Ints .i64 w w.heap.size A n l) (hn : n ≤ 17592186043904) (hc : Ints .u8 w w.heap.size A' m cl) (hf : ¬ CanF l cl) :
    Calls Try.prog 27 #[.slice A n c, .int .i64 a, .agg #[.slice A' m d]] w fun e w' => e = .returned (.slice none 0 0) ∧ Below w.heap.size w w' := by
  have HF := Lib.hid (decide_eq_false hf)
  clear hf
  go_enter Try.func27, Try.ntmps27
  go_wp2_with (go_at_call 57; refine (i_canFollow (reach hl (belx)) hn (reach hc (belx))).mono ?_; rintro e w1 ⟨rfl, hB1⟩; rw [HF.out])
  go_ret
  exact ⟨rfl, bel_trans (a := w) (belx) hB1⟩
theorem i_Depth (hR : ReachC 27) {w : World} {n c m d : Nat} {A A' : Option Addr} {l cl : List Int} (hl : Ints .i64 w w.heap.size A n l) (hn : n ≤ 17592186043904) (hc : Ints .u8 w w.heap.size A' m cl) (hmd : m ≤ d) (hd : d ≤ 9223372036854775807) :
    Calls Try.prog 23 #[.slice A n c, .agg #[.slice A' m d]] w fun e w' => e = .returned (.int .i64 (fdepth l cl)) ∧ Below w.heap.size w w' := by
  have hle := fcan_le l cl
  go_enter Try.func23, Try.ntmps23
  go_wp2_with fail
  refine (i_CanPeel (reach hl (belx)) hn (reach hc (belx)) hmd hd).mono ?_
  rintro e w1 ⟨v, rfl, hO, hB1⟩
  have bx : Box w1 w.heap.size 30 #[.slice A' m d] := (Box.new w _ _).below hB1 (by simp)
  have hBw : Below w.heap.size w w1 := bel_trans (a := w) (belx) hB1
  rcases Nat.eq_zero_or_pos (fcan l cl).length with h0 | hp
  · have HD := Lib.hid (fdepth_nil (List.eq_nil_of_length_eq_zero h0))
    obtain ⟨A1, c1, rfl, _⟩ := hO.shape
    rw [h0]
    go_wp2
    go_ret
    exact ⟨ret_i64 HD.out.symm, hBw⟩
  · have HD := Lib.hid (fdepth_cons hp)
    have hfl := freach_le l ((fcan l cl).getD 0 0) cl
    obtain ⟨g, c1, rfl, _, _, _, _, hcc, _⟩ := hO.row hp
    have h1 := hcc 0 hp
    have hw := wf_getD hO.2 hp
    have cx : w1.cell? ⟨w.heap.size, 0, none⟩ = some (.slice A' m d) := bx.cell 0
    obtain ⟨y, hy⟩ : ∃ y, (fcan l cl).getD 0 0 = y := ⟨_, rfl⟩
    obtain ⟨N, hN⟩ : ∃ N, (fcan l cl).length = N := ⟨_, rfl⟩
    rw [hy] at h1 hw hfl HD
    rw [hN] at hp hle ⊢
    clear hcc hy hN hO bx
    go_wp2_with fail
    go_region_held3 (fun w' => w'.cell? ⟨w.heap.size, 0, none⟩ = some (.slice A' m d) ∧ w'.cell? ⟨g, 0, none⟩ = some (.int .i64 y)) (first | (exact ⟨cx, h1⟩) | (exact ⟨cell_bel hs2 cx, cell_bel hs2 h1⟩) | go_keep) ((go_at_call 27; refine (hR y (reach (reach hl hBw) (belx)) hn (reach (reach hc hBw) (belx)) hmd hd hw).mono ?_; rintro e w2 ⟨v2, rfl, hO2, hB2⟩; obtain ⟨A2, c2, rfl, _⟩ := hO2.shape; have hs2 : Below w1.heap.size w1 w2 := bel_trans (belx) hB2))
    go_wp2
    go_ret
    exact ⟨ret_i64 HD.out.symm, hBw.trans (hs2.mono hBw.size)⟩
end Go.Proofs.Ytnfmjgldcnokbaa
namespace Go.Proofs.Ytnfmjgldcnokbaa
set_option maxRecDepth 100000
set_option linter.unusedVariables false
set_option linter.unusedSimpArgs false
open Go.ChangeShapes Go.WideShapes Go.ChangeAt Go.RowKit
open Fld
theorem u8_rem (d : Int) : IntKind.u8.wrap d = d % 256 := by
  have hb : IntKind.u8.bits = 8 := rfl
  have hs : IntKind.u8.signed = false := rfl
  simp [IntKind.wrap, hb, hs]
set_option maxHeartbeats 1000000 in
theorem s_layer {w : World} {n c : Nat} {A : Option Addr} {l : List Int} (pub s next due : Int) (hl : Ints .u8 w w.heap.size A n l) (hn : n ≤ 100) (h1 : 0 ≤ pub ∧ pub < 2147483647) (h2 : 0 ≤ s ∧ s < 2147483647) (h3 : 0 ≤ next ∧ next ≤ 255) (h4 : 0 ≤ due ∧ due ≤ 65535) :
    Calls Try.prog 94 #[.int .i64 pub, .int .i64 s, .int .i64 next, .int .i64 due, .slice A n c] w fun e w' => ∃ v, e = .returned v ∧ Own .u8 5 w' w.heap.size v (layB pub s next due l) ∧ Below w.heap.size w w' := by
  obtain ⟨i0, hi0, hz0, hz1, hz2⟩ := info_parts info_by
  have HL := Lib.hid hl.1
  have y8 : IntKind.u8.wrap (due / 256) = due / 256 := IntWalk.u8_in _ (by omega)
  have z8 : IntKind.u8.wrap due = due % 256 := u8_rem due
  have n8 : IntKind.u8.wrap (n : Int) = (n : Int) := IntWalk.u8_in _ (by omega)
  have x8 : IntKind.u8.wrap next = next := IntWalk.u8_in _ (by omega)
  have hwf : ∀ y ∈ [next, due / 256, due % 256, (n : Int)] ++ l, (Lit.int .u8 y).wf = true := by
    intro y hy
    simp only [List.cons_append, List.nil_append, List.mem_cons] at hy
    rcases hy with rfl | rfl | rfl | rfl | hy
    · exact WalkArith.wf_u8 h3
    · exact WalkArith.wf_u8 (by omega)
    · exact WalkArith.wf_u8 (by omega)
    · exact WalkArith.wf_u8 (by omega)
    · exact hl.2.2 y hy
  have hrow := four_cells w 5 next (due / 256) (due % 256) (n : Int)
  have hsrc : Src (w.alloc (.cells #[.int .u8 next, .int .u8 (due / 256), .int .u8 (due % 256), .int .u8 (n : Int)] 5)) 1 A n (l.map (Value.int .u8)) := Src.of_ints (reach hl (belx))
  have rp := powP_rg 7 s.toNat
  have rq := powP_rg pub s.toNat
  have rk := keyP_rg (powP pub s.toNat) 5
  go_enter Try.func94, Try.ntmps94
  go_wp2_with (first
    | (at_builtin; refine wpList_app _ rfl (.tmp 22) (.tmp 23) _ rfl w.heap.size 5 i0 _ 1 1 Try.underlying22 hi0 hz0 hz1 hz2 rfl (by omega) _ 4 _ rfl hrow _ n c (l.map (Value.int .u8)) rfl hsrc (one_ints _ _) (by simp only [maxLen]; omega) (by omega) (by simp; done) ?_; intro v1 w1 hown hgr hat)
    | (go_at_call 83; refine (s_pow _ _ _ (by omega) (by omega) (by omega) (by omega)).mono ?_; rintro e w' ⟨rfl, rfl⟩))
  have hs1 : Below w.heap.size w w1 := Below.grown (w := w.alloc (.cells #[.int .u8 next, .int .u8 (due / 256), .int .u8 (due % 256), .int .u8 (n : Int)] 5)) (belx) hgr (by simp) (fun b hb => by have e := Option.some.inj (show some w.heap.size = some b from hb); omega)
  have hO1 : Own .u8 5 w1 w.heap.size v1 ([next, due / 256, due % 256, (n : Int)] ++ l) := Own.of (n := 4 + n) (by simpa using hown) hwf
  obtain ⟨L1, hL1⟩ : ∃ L1, [next, due / 256, due % 256, (n : Int)] ++ l = L1 := ⟨_, rfl⟩
  have HS := Lib.hid (show layB pub s next due l = four (powP 7 s.toNat) ++ sealL (keyP (powP pub s.toNat) 5) L1 by unfold layB headL; rw [HL.out, hL1])
  have hm : L1.length = 4 + n := by rw [← hL1, List.length_append, HL.out]; rfl
  rw [hL1] at hO1
  obtain ⟨m, hm'⟩ : ∃ m, L1.length = m := ⟨_, rfl⟩
  have hm2 : m ≤ 104 := by omega
  obtain ⟨A1, c1, rfl, -, hI, -⟩ := hO1.ints
  rw [hm'] at hI ⊢
  clear hL1 hm hwf hrow hsrc hown hgr hat hO1
  refine (s_four0 _ (by omega)).mono ?_
  rintro e w2 ⟨v2, rfl, hO2, hB2⟩
  go_wp2_with (first
    | (go_at_call 83; refine (s_pow _ _ _ (by omega) (by omega) (by omega) (by omega)).mono ?_; rintro e w' ⟨rfl, rfl⟩)
    | (go_at_call 122; refine (s_key _ _ _ (by omega) (by omega) (by omega) (by omega)).mono ?_; rintro e w' ⟨rfl, rfl⟩))
  refine (s_seal _ (reach hI ?hB) (by omega) (by omega) (by omega)).mono ?_
  case hB => exact hB2
  rintro e w3 ⟨v3, rfl, hO3, hB3⟩
  have hsl := sealL_len (keyP (powP pub s.toNat) 5) L1
  have hsb := sealL_bytes (k := keyP (powP pub s.toNat) 5) hI.bytes
  obtain ⟨LS, hLS⟩ : ∃ LS, sealL (keyP (powP pub s.toNat) 5) L1 = LS := ⟨_, rfl⟩
  have HS2 := Lib.hid (show layB pub s next due l = four (powP 7 s.toNat) ++ LS by rw [HS.out, hLS])
  rw [hLS] at hsl hsb hO3
  have hlen4 := Lib.hid (four_len (powP 7 s.toNat))
  have h4b := Lib.hid (four_bytes (powP 7 s.toNat))
  obtain ⟨L4, hL4⟩ : ∃ L4, four (powP 7 s.toNat) = L4 := ⟨_, rfl⟩
  have HL4 := Lib.hid hL4
  have hl4 : L4.length = 4 := by rw [← hL4]; exact hlen4.out
  rw [hL4] at hO2
  obtain ⟨A3, c3, rfl, -, hI3, -⟩ := hO3.ints
  have hl3 : LS.length ≤ 200 := by omega
  have hO2' := hO2.below hB3
  have HLS := Lib.hid hLS
  clear hLS hL4 hsl hl4 hI hO3 rp rq rk
  obtain ⟨m3, hm3⟩ : ∃ m, LS.length = m := ⟨_, rfl⟩
  rw [hm3] at hI3 hl3 ⊢
  have z1 := hs1.size; have z2 := hB2.size; have z3 := hB3.size
  have hl44 : L4.length ≤ 4 := by rw [← HL4.out]; exact Nat.le_of_eq hlen4.out
  go_wp2_with (at_builtin; refine wpList_app _ rfl (.tmp 27) (.tmp 33) _ rfl w1.heap.size 5 i0 _ 1 1 Try.underlying22 hi0 hz0 hz1 hz2 rfl (by omega) _ _ _ rfl hO2'.1 _ m3 _ (LS.map (Value.int .u8)) rfl (Src.of_ints hI3) (one_ints _ _) (by simp only [maxLen]; omega) (by omega) (by omega) ?_; intro v4 w4 hown hgr hat)
  go_ret
  have hfin : Own .u8 5 w4 w1.heap.size v4 (L4 ++ LS) := own_app (by rw [hm3]; exact hown) (by rw [← HL4.out]; exact h4b.out) hsb
  refine ⟨v4, rfl, ?_, ?_⟩
  · rw [HS2.out, HL4.out]; exact hfin.lower z1
  · exact below_own (bel_trans hs1 (bel_trans hB2 hB3)) (hO2'.lower z1) (Below.refl _ _) hgr
theorem pubs_take0 (l : List Int) : ∀ x ∈ l.take 0, 2 ≤ x ∧ x < 2147483646 := fun x hx => absurd hx (by simp)
theorem s_pubs {w : World} {B n c : Nat} {A : Option Addr} {l : List Int} (hl : Ints .i64 w B A n l) (hn : n ≤ 17592186043904) :
    Calls Try.prog 54 #[.slice A n c] w fun e w' => e = .returned (.bool (decide (Pubs l))) ∧ w = w' := by
  have HL := Lib.hid hl.1
  go_enter Try.func54, Try.ntmps54
  go_wp2_with fail
  go_loop [3] (fun i => ∃ k : Nat, k ≤ n ∧ i = .int .i64 k ∧ ∀ x ∈ l.take k, 2 ≤ x ∧ x < 2147483646) (fun i => n - (intOf i).toNat)
  case atStart => exact ⟨0, by omega, rfl, pubs_take0 l⟩
  case round =>
    obtain ⟨k, hk, rfl, hG⟩ := hrel
    have HG := Lib.hid hG
    clear hG
    by_cases hlt : k < n
    · obtain ⟨b, off, rfl, hb, hcell, hwf⟩ := hl.at_ hlt
      obtain ⟨x, hx⟩ : ∃ x, l.getD k 0 = x := ⟨_, rfl⟩
      rw [hx] at hcell
      have HX := Lib.hid hx
      have HIN := Lib.hid (show x ∈ l from by rw [← hx, getD_lt (by rw [HL.out]; exact hlt)]; exact List.getElem_mem _)
      have HTK := Lib.hid (show l.take (k + 1) = l.take k ++ [x] from by rw [List.take_succ_eq_append_getElem (by rw [HL.out]; exact hlt), ← hx, getD_lt (by rw [HL.out]; exact hlt)])
      clear hx hwf
      rcases pub_or x with hp | hp
      · have h1 := hp.lo
        have h2 := hp.hi
        have HS := Lib.hid (show ∀ y ∈ l.take (k + 1), 2 ≤ y ∧ y < 2147483646 from by
          rw [HTK.out]
          intro y hy
          rcases List.mem_append.1 hy with hy | hy
          · exact HG.out y hy
          · rw [List.mem_singleton] at hy; subst hy; exact hp)
        go_wp2_with (go_at_call 93; with_reducible refine (s_pub_t _ _ hp).mono ?_; rintro e w' ⟨rfl, rfl⟩)
        go_round
        case rel => exact ⟨k + 1, by omega, by go_num, HS.out⟩
        case measure => simp [intOf]; omega
      · have HS := Lib.hid (show decide (Pubs l) = false from decide_eq_false fun h => hp (h.2 x HIN.out))
        go_wp2_with (go_at_call 93; with_reducible refine (s_pub_f _ _ hp).mono ?_; rintro e w' ⟨rfl, rfl⟩)
        go_ret
        exact ⟨ret_bool HS.out.symm, rfl⟩
    · obtain rfl : k = n := by omega
      have HA := Lib.hid (show ∀ x ∈ l, 2 ≤ x ∧ x < 2147483646 from by have := HG.out; rwa [List.take_of_length_le (by rw [HL.out]; exact Nat.le_refl _)] at this)
      by_cases h8 : k = 8
      · have HS := Lib.hid (show decide (Pubs l) = true from decide_eq_true ⟨by rw [HL.out]; exact h8, HA.out⟩)
        have q : ((k : Int) == 8) = true := by subst h8; rfl
        clear h8
        go_wp2
        go_ret
        exact ⟨ret_bool HS.out.symm, rfl⟩
      · have HS := Lib.hid (show decide (Pubs l) = false from decide_eq_false fun h => h8 (by rw [← HL.out]; exact h.1))
        have q : ((k : Int) == 8) = false := by rw [beq_eq_false_iff_ne]; omega
        clear h8
        go_wp2
        go_ret
        exact ⟨ret_bool HS.out.symm, rfl⟩
set_option maxHeartbeats 2000000 in
theorem s_wrap {w : World} {nr cr np cp ns cs nl cl nd cd : Nat} {Ar Ap As Al Ad : Option Addr} {route pubs secs load pad : List Int} {due : Int} (hr : Ints .i64 w w.heap.size Ar nr route) (hp : Ints .i64 w w.heap.size Ap np pubs) (hs : Ints .i64 w w.heap.size As ns secs) (hl : Ints .u8 w w.heap.size Al nl load) (hd : Ints .u8 w w.heap.size Ad nd pad) (hnd : nd ≤ 140737488355328) (ho : WrapOk route pubs secs due load pad) :
    Calls Try.prog 56 #[.slice Ar nr cr, .slice Ap np cp, .slice As ns cs, .int .i64 due, .slice Al nl cl, .slice Ad nd cd] w fun e w' => ∃ v, e = .returned (.agg #[v]) ∧ Own .u8 5 w' w.heap.size v (padL (wrapL pubs due load route secs) pad) ∧ Below w.heap.size w w' := by
  obtain ⟨i0, hi0, hz0, hz1, hz2⟩ := info_parts info_by
  obtain ⟨⟨⟨g1, g2⟩, g3, -⟩, ⟨g4, g5⟩, g6, g7, g8, g9, g10⟩ := ho
  have HR := Lib.hid hr.1
  have HLL := Lib.hid hl.1
  have q1 : 1 ≤ nr := by rw [← hr.1]; exact g1
  have q2 : nr ≤ 4 := by rw [← hr.1]; exact g2
  have q3 : np = 8 := by rw [← hp.1]; exact g4
  have q4 : ns = nr := by rw [← hs.1, ← hr.1]; exact g6
  have q5 : nl ≤ 24 := by rw [← hl.1]; exact g9
  have q6 : 80 ≤ nd := by rw [← hd.1]; exact g10
  have HRT := Lib.hid (show ∀ j, j < nr → ∃ m : Nat, m < 8 ∧ route.getD j 0 = (m : Int) from fun j hj => by
    have := g3 (route.getD j 0) (by rw [getD_lt (by rw [HR.out]; exact hj)]; exact List.getElem_mem _)
    exact ⟨(route.getD j 0).toNat, by omega, by omega⟩)
  have HPB := Lib.hid (show ∀ j, j < 8 → 2 ≤ pubs.getD j 0 ∧ pubs.getD j 0 < 2147483646 from fun j hj => g5 _ (by rw [getD_lt (by rw [g4]; exact hj)]; exact List.getElem_mem _))
  have HSC := Lib.hid (show ∀ j, j < nr → 1 ≤ secs.getD j 0 ∧ secs.getD j 0 < 2147483646 from fun j hj => (g7 _ (by rw [getD_lt (by rw [g6, HR.out]; exact hj)]; exact List.getElem_mem _)).1)
  have HWB := Lib.hid (show ∀ k, (wrapL pubs due load (route.drop k) (secs.drop k)).length ≤ 72 from fun k => by rw [wrapL_len, List.length_drop, HR.out, HLL.out]; omega)
  have HNX := Lib.hid (show ∀ k, 0 ≤ (route.drop k).getD 0 255 ∧ (route.drop k).getD 0 255 ≤ 255 from fun k => by
    have := next_rg (rs := route.drop k) (fun x hx => g3 x (List.mem_of_mem_drop hx)); omega)
  obtain ⟨d0, d1⟩ := g8
  subst q4
  clear g1 g2 g3 g4 g5 g6 g7 g9 g10
  have hE : ((w.alloc (.cells #[.slice none 0 0] 30)).alloc (.cells #[] 5)).ownsRow (w.heap.size + 1) 5 1 (.slice (some ⟨w.heap.size + 1, 0, none⟩) 0 0) 0 [] := by simpa using empty_row (w.alloc (.cells #[.slice none 0 0] 30)) 5
  have hsrc : Src ((w.alloc (.cells #[.slice none 0 0] 30)).alloc (.cells #[] 5)) 1 Al nl (load.map (Value.int .u8)) := Src.of_ints (reach hl (belx))
  go_enter Try.func56, Try.ntmps56
  go_wp2_with (at_builtin; refine wpList_app _ rfl (.tmp 16) (.tmp 17) _ rfl (w.heap.size + 1) 5 i0 _ 1 1 Try.underlying22 hi0 hz0 hz1 hz2 rfl (by omega) (.slice (some ⟨w.heap.size + 1, 0, none⟩) 0 0) 0 [] rfl hE Al nl cl _ rfl hsrc (one_ints _ _) (by simp only [maxLen]; omega) (by omega) (by simp) ?_; intro v1 w1 hown hg hat)
  have hB1 : Below w.heap.size w w1 := Below.grown (w := (w.alloc (.cells #[.slice none 0 0] 30)).alloc (.cells #[] 5)) (belx) hg (by simp; omega) (fun b hb => by have e := Option.some.inj (show some (w.heap.size + 1) = some b from hb); omega)
  have b1 : Box w1 w.heap.size 30 #[.slice none 0 0] := Box.grown ((Box.new _ _ _).alloc _) hg (fun e => by have e := Option.some.inj (show some w.heap.size = some (w.heap.size + 1) from e); omega)
  have hO1 : Own .u8 5 w1 (w.heap.size + 1) v1 load := Own.of (n := 0 + nl) (by simpa using hown) hl.2.2
  have HD0 := Lib.hid (show wrapL pubs due load (route.drop ns) (secs.drop ns) = load from by rw [List.drop_of_length_le (Nat.le_of_eq HR.out)]; rfl)
  have HN0 := Lib.hid (show (route.drop ns).getD 0 255 = 255 from by rw [List.drop_of_length_le (Nat.le_of_eq HR.out)]; rfl)
  clear hown hg hat hE hsrc
  go_loopw [13, 14, 15] (fun v nx i wr => ∃ k : Nat, k ≤ ns ∧ i = .int .i64 ((k : Int) - 1) ∧ nx = .int .i64 ((route.drop k).getD 0 255) ∧ Own .u8 5 wr (w.heap.size + 1) v (wrapL pubs due load (route.drop k) (secs.drop k)) ∧ Below w.heap.size w wr ∧ Box wr w.heap.size 30 #[.slice none 0 0]) (fun _ _ i _ => (intOf i + 1).toNat)
  case atStart => exact ⟨ns, Nat.le_refl _, by go_num, by rw [HN0.out], by rw [HD0.out]; exact hO1, hB1, b1⟩
  case round =>
    clear hO1 b1 hB1
    obtain ⟨k, hk, rfl, rfl, hO, hB, hX⟩ := hrel
    by_cases h0 : 0 < k
    · obtain ⟨j, rfl⟩ : ∃ j, k = j + 1 := ⟨k - 1, by omega⟩
      have hjs : j < ns := by omega
      obtain ⟨m, hm8, hm⟩ := HRT.out j hjs
      have hps := HPB.out m hm8
      have hsc := HSC.out j hjs
      have hnx := HNX.out (j + 1)
      have HST := Lib.hid (wrapL_step (pubs := pubs) (due := due) (load := load) (ss := secs) (show j < route.length by rw [HR.out]; exact hjs))
      have HNX2 := Lib.hid (show (route.drop j).getD 0 255 = (m : Int) from by
        rw [List.drop_eq_getElem_cons (by rw [HR.out]; exact hjs), List.getD_cons_zero, ← hm, getD_lt (by rw [HR.out]; exact hjs)])
      obtain ⟨br, offr, rfl, hbr, hcr, -⟩ := hr.at_ hjs
      obtain ⟨bp, offp, rfl, hbp, hcp, -⟩ := hp.at_ (show m < np by omega)
      obtain ⟨bs, offs, rfl, hbs, hcs, -⟩ := hs.at_ hjs
      rw [hm] at hcr HST
      obtain ⟨x, hx⟩ : ∃ x, pubs.getD m 0 = x := ⟨_, rfl⟩
      obtain ⟨y, hy⟩ : ∃ y, secs.getD j 0 = y := ⟨_, rfl⟩
      obtain ⟨z, hzz⟩ : ∃ z, (route.drop (j + 1)).getD 0 255 = z := ⟨_, rfl⟩
      have HST2 := Lib.hid (show wrapL pubs due load (route.drop j) (secs.drop j) = layB x y z due (wrapL pubs due load (route.drop (j + 1)) (secs.drop (j + 1))) from by rw [HST.out, Int.toNat_natCast, hx, hy, hzz])
      rw [hx] at hcp hps
      rw [hy] at hcs hsc
      rw [hzz] at hnx ⊢
      have hcr1 : wr.cell? ⟨br, offr + j, none⟩ = some (.int .i64 (m : Int)) := cell_bel hB hcr
      have hcp1 : wr.cell? ⟨bp, offp + m, none⟩ = some (.int .i64 x) := cell_bel hB hcp
      have hcs1 : wr.cell? ⟨bs, offs + j, none⟩ = some (.int .i64 y) := cell_bel hB hcs
      have hle := HWB.out (j + 1)
      obtain ⟨L, hL⟩ : ∃ L, wrapL pubs due load (route.drop (j + 1)) (secs.drop (j + 1)) = L := ⟨_, rfl⟩
      rw [hL] at hO hle HST2
      obtain ⟨AL, cL, rfl, -, hIL, -⟩ := hO.ints
      obtain ⟨nL, hnL⟩ : ∃ n, L.length = n := ⟨_, rfl⟩
      rw [hnL] at hIL hle ⊢
      have p1 : (0 : Int) ≤ ((j : Int) + 1) - 1 := by omega
      have p2 : ((j : Int) + 1) - 1 < (ns : Int) := by omega
      have p3 : (m : Int) < 8 := by omega
      have p4 : (0 : Int) ≤ (m : Int) := by omega
      have p5 : ((j + 1 : Nat) : Int) - 1 = (j : Int) := by omega
      have p6 : (0 : Int) ≤ (j : Int) := by omega
      have p7 : (j : Int) < (ns : Int) := by omega
      have p8 : (m : Int) < (np : Int) := by omega
      have zX := hX.size
      rw [p5]
      clear hm hx hy hzz hL hcr hcp hcs hm8 hjs h0 hk p1 p2 p5 HST
      go_wp2_with fail
      go_region_held3 (fun w' => w'.cell? ⟨br, offr + j, none⟩ = some (.int .i64 (m : Int)) ∧ w'.cell? ⟨bp, offp + m, none⟩ = some (.int .i64 x) ∧ w'.cell? ⟨bs, offs + j, none⟩ = some (.int .i64 y)) (first | (exact ⟨hcr1, hcp1, hcs1⟩) | (exact ⟨cell_bel hs2 hcr1, cell_bel hs2 hcp1, cell_bel hs2 hcs1⟩) | go_keep)
        ((go_at_call 94; refine (s_layer x y z due (reach hIL (belx)) (by omega) (by omega) (by omega) (by omega) (by omega)).mono ?_; rintro e w2 ⟨v2, rfl, hO2, hb2⟩; have hs2 : Below wr.heap.size wr w2 := bel_trans (belx) hb2))
      have hB2 : Below w.heap.size w w2 := bel_trans hB hs2
      have hX2 := hX.below hs2 zX
      have hcr2 : w2.cell? ⟨br, offr + j, none⟩ = some (.int .i64 (m : Int)) := cell_bel hs2 hcr1
      clear hcr1 hcp1 hcs1
      go_wp2
      go_roundw
      case rel => exact ⟨j, by omega, by go_num, by rw [HNX2.out], by rw [HST2.out]; exact hO2.lower (by show _ ≤ wr.heap.size; omega), hB2, hX2⟩
      case measure => first | (simp [intOf]; done) | (simp [intOf]; omega)
    · obtain rfl : k = 0 := by omega
      have HE := Lib.hid (show wrapL pubs due load (route.drop 0) (secs.drop 0) = wrapL pubs due load route secs by rw [List.drop_zero, List.drop_zero])
      have hle := HWB.out 0
      rw [HE.out] at hO hle
      obtain ⟨L, hL⟩ : ∃ L, wrapL pubs due load route secs = L := ⟨_, rfl⟩
      rw [hL] at hO hle
      have HLX := Lib.hid hL
      obtain ⟨AL, cL, rfl, -, hIL, -⟩ := hO.ints
      obtain ⟨nL, hnL⟩ : ∃ n, L.length = n := ⟨_, rfl⟩
      rw [hnL] at hIL hle ⊢
      have p1 : ¬ (0 : Int) ≤ ((0 : Nat) : Int) - 1 := by omega
      have p5 : ((0 : Nat) : Int) - 1 = -1 := by omega
      have zX := hX.size
      rw [p5]
      clear hL h0 p1 p5 hk
      go_wp2_with fail
      refine (s_fill (reach hIL ?hB) (reach hd (bel_trans hB ?hB)) (by omega) q6 hnd).mono ?_
      case hB => exact (belx)
      rintro e w2 ⟨v2, rfl, hO2, hb2⟩
      have hX2 := hX.below hb2 zX
      have x0 := hX2.cell 0; have f0 := hX2.frozen 0
      have hB2 : Below w.heap.size w w2 := bel_trans hB hb2
      obtain ⟨A1, d1', rfl, -⟩ := hO2.ints
      have e := (hX2.put 0 (.slice A1 (padL L pad).length d1')).cell 0
      go_wp2
      refine bodyPost_ret (v := .agg #[.slice A1 (padL L pad).length d1']) (by simp [results, Try.results56, go_sem, e]) rfl ⟨_, rfl, ?_, bel_put hB2 (Nat.le_refl _) _⟩
      rw [HLX.out]
      exact (hO2.far (by omega) 0 _).lower (by omega)
set_option maxHeartbeats 2000000 in
theorem s_Wrap {w : World} {nr cr np cp ns cs nl cl nd cd : Nat} {Ar Ap As Al Ad : Option Addr} {route pubs secs load pad : List Int} {due : Int} (hr : Ints .i64 w w.heap.size Ar nr route) (hnr : nr ≤ 17592186043904) (hp : Ints .i64 w w.heap.size Ap np pubs) (hnp : np ≤ 17592186043904) (hs : Ints .i64 w w.heap.size As ns secs) (hns : ns ≤ 17592186043904) (hl : Ints .u8 w w.heap.size Al nl load) (hnl : nl ≤ 140737488355328) (hd : Ints .u8 w w.heap.size Ad nd pad) (hnd : nd ≤ 140737488355328) :
    Calls Try.prog 12 #[.slice Ar nr cr, .slice Ap np cp, .slice As ns cs, .int .i64 due, .slice Al nl cl, .slice Ad nd cd] w fun e w' => ∃ v, e = .returned (.tuple #[.agg #[v], .bool (fwrap route pubs secs due load pad).2]) ∧ Own .u8 5 w' w.heap.size v (fwrap route pubs secs due load pad).1 ∧ Below w.heap.size w w' := by
  have l1 := hr.1; have l2 := hs.1; have l3 := hl.1; have l4 := hd.1
  by_cases c0 : Route route
  rotate_left
  · have HF := Lib.hid (fwrap_f (fun h : WrapOk route pubs secs due load pad => c0 (h.1)))
    rw [HF.out]
    have K1 := Lib.hid (decide_eq_false c0)
    clear l1 l2 l3 l4 c0
    go_enter Try.func12, Try.ntmps12
    go_wp2_with fail
    refine (s_RouteOk (reach hr ?hB) hnr).mono ?_
    case hB => exact (belx)
    rintro e w1 ⟨rfl, hb1⟩
    rw [K1.out]
    have hX1 : Box w1 w.heap.size 30 #[.slice none 0 0] := (Box.new _ _ _).below hb1 (by simp)
    have hB1 : Below w.heap.size w w1 := bel_trans (belx) hb1
    have x0 := hX1.cell 0
    have f0 := hX1.frozen 0
    clear hb1
    go_wp2
    have e := (hX1.put 0 (.slice none 0 0)).cell 0
    refine bodyPost_ret (v := .tuple #[.agg #[.slice none 0 0], .bool false]) (by simp [results, Try.results12, go_sem, e]) rfl ⟨_, rfl, Own.nil _ _ _ _, bel_put hB1 (Nat.le_refl _) _⟩
  have K1 := Lib.hid (decide_eq_true c0)
  by_cases c1 : Pubs pubs
  rotate_left
  · have HF := Lib.hid (fwrap_f (fun h : WrapOk route pubs secs due load pad => c1 (h.2.1)))
    rw [HF.out]
    have K2 := Lib.hid (decide_eq_false c1)
    clear l1 l2 l3 l4 c0 c1
    go_enter Try.func12, Try.ntmps12
    go_wp2_with fail
    refine (s_RouteOk (reach hr ?hB) hnr).mono ?_
    case hB => exact (belx)
    rintro e w1 ⟨rfl, hb1⟩
    rw [K1.out]
    have hX1 : Box w1 w.heap.size 30 #[.slice none 0 0] := (Box.new _ _ _).below hb1 (by simp)
    have hB1 : Below w.heap.size w w1 := bel_trans (belx) hb1
    have x0 := hX1.cell 0
    have f0 := hX1.frozen 0
    clear hb1
    go_wp2_with fail
    refine (s_pubs (hp.below hB1) hnp).mono ?_
    rintro e w' ⟨rfl, rfl⟩
    rw [K2.out]
    go_wp2
    have e := (hX1.put 0 (.slice none 0 0)).cell 0
    refine bodyPost_ret (v := .tuple #[.agg #[.slice none 0 0], .bool false]) (by simp [results, Try.results12, go_sem, e]) rfl ⟨_, rfl, Own.nil _ _ _ _, bel_put hB1 (Nat.le_refl _) _⟩
  have K2 := Lib.hid (decide_eq_true c1)
  by_cases c2 : secs.length = route.length
  rotate_left
  · have HF := Lib.hid (fwrap_f (fun h : WrapOk route pubs secs due load pad => c2 (h.2.2.1)))
    rw [HF.out]
    have q3 : ((ns : Int) != (nr : Int)) = true := by rw [bne_iff_ne]; omega
    clear l1 l2 l3 l4 c0 c1 c2
    go_enter Try.func12, Try.ntmps12
    go_wp2_with fail
    refine (s_RouteOk (reach hr ?hB) hnr).mono ?_
    case hB => exact (belx)
    rintro e w1 ⟨rfl, hb1⟩
    rw [K1.out]
    have hX1 : Box w1 w.heap.size 30 #[.slice none 0 0] := (Box.new _ _ _).below hb1 (by simp)
    have hB1 : Below w.heap.size w w1 := bel_trans (belx) hb1
    have x0 := hX1.cell 0
    have f0 := hX1.frozen 0
    clear hb1
    go_wp2_with fail
    refine (s_pubs (hp.below hB1) hnp).mono ?_
    rintro e w' ⟨rfl, rfl⟩
    rw [K2.out]
    go_wp2
    have e := (hX1.put 0 (.slice none 0 0)).cell 0
    refine bodyPost_ret (v := .tuple #[.agg #[.slice none 0 0], .bool false]) (by simp [results, Try.results12, go_sem, e]) rfl ⟨_, rfl, Own.nil _ _ _ _, bel_put hB1 (Nat.le_refl _) _⟩
  have q3 : ((ns : Int) != (nr : Int)) = false := by rw [bne_eq_false_iff_eq]; omega
  by_cases c3 : Secs secs
  rotate_left
  · have HF := Lib.hid (fwrap_f (fun h : WrapOk route pubs secs due load pad => c3 (h.2.2.2.1)))
    rw [HF.out]
    have K4 := Lib.hid (decide_eq_false c3)
    clear l1 l2 l3 l4 c0 c1 c2 c3
    go_enter Try.func12, Try.ntmps12
    go_wp2_with fail
    refine (s_RouteOk (reach hr ?hB) hnr).mono ?_
    case hB => exact (belx)
    rintro e w1 ⟨rfl, hb1⟩
    rw [K1.out]
    have hX1 : Box w1 w.heap.size 30 #[.slice none 0 0] := (Box.new _ _ _).below hb1 (by simp)
    have hB1 : Below w.heap.size w w1 := bel_trans (belx) hb1
    have x0 := hX1.cell 0
    have f0 := hX1.frozen 0
    clear hb1
    go_wp2_with fail
    refine (s_pubs (hp.below hB1) hnp).mono ?_
    rintro e w' ⟨rfl, rfl⟩
    rw [K2.out]
    go_wp2_with fail
    refine (s_secs (hs.below hB1) hns).mono ?_
    rintro e w' ⟨rfl, rfl⟩
    rw [K4.out]
    go_wp2
    have e := (hX1.put 0 (.slice none 0 0)).cell 0
    refine bodyPost_ret (v := .tuple #[.agg #[.slice none 0 0], .bool false]) (by simp [results, Try.results12, go_sem, e]) rfl ⟨_, rfl, Own.nil _ _ _ _, bel_put hB1 (Nat.le_refl _) _⟩
  have K4 := Lib.hid (decide_eq_true c3)
  by_cases c4 : 0 ≤ due
  rotate_left
  · have HF := Lib.hid (fwrap_f (fun h : WrapOk route pubs secs due load pad => c4 (h.2.2.2.2.1.1)))
    rw [HF.out]
    have q5 : due < 0 := by omega
    clear l1 l2 l3 l4 c0 c1 c2 c3 c4
    go_enter Try.func12, Try.ntmps12
    go_wp2_with fail
    refine (s_RouteOk (reach hr ?hB) hnr).mono ?_
    case hB => exact (belx)
    rintro e w1 ⟨rfl, hb1⟩
    rw [K1.out]
    have hX1 : Box w1 w.heap.size 30 #[.slice none 0 0] := (Box.new _ _ _).below hb1 (by simp)
    have hB1 : Below w.heap.size w w1 := bel_trans (belx) hb1
    have x0 := hX1.cell 0
    have f0 := hX1.frozen 0
    clear hb1
    go_wp2_with fail
    refine (s_pubs (hp.below hB1) hnp).mono ?_
    rintro e w' ⟨rfl, rfl⟩
    rw [K2.out]
    go_wp2_with fail
    refine (s_secs (hs.below hB1) hns).mono ?_
    rintro e w' ⟨rfl, rfl⟩
    rw [K4.out]
    go_wp2
    have e := (hX1.put 0 (.slice none 0 0)).cell 0
    refine bodyPost_ret (v := .tuple #[.agg #[.slice none 0 0], .bool false]) (by simp [results, Try.results12, go_sem, e]) rfl ⟨_, rfl, Own.nil _ _ _ _, bel_put hB1 (Nat.le_refl _) _⟩
  have q5 : ¬ due < 0 := by omega
  by_cases c5 : due ≤ 65535
  rotate_left
  · have HF := Lib.hid (fwrap_f (fun h : WrapOk route pubs secs due load pad => c5 (h.2.2.2.2.1.2)))
    rw [HF.out]
    have q6 : due > 65535 := by omega
    have q6b : (65535 : Int) < due := by omega
    clear l1 l2 l3 l4 c0 c1 c2 c3 c4 c5
    go_enter Try.func12, Try.ntmps12
    go_wp2_with fail
    refine (s_RouteOk (reach hr ?hB) hnr).mono ?_
    case hB => exact (belx)
    rintro e w1 ⟨rfl, hb1⟩
    rw [K1.out]
    have hX1 : Box w1 w.heap.size 30 #[.slice none 0 0] := (Box.new _ _ _).below hb1 (by simp)
    have hB1 : Below w.heap.size w w1 := bel_trans (belx) hb1
    have x0 := hX1.cell 0
    have f0 := hX1.frozen 0
    clear hb1
    go_wp2_with fail
    refine (s_pubs (hp.below hB1) hnp).mono ?_
    rintro e w' ⟨rfl, rfl⟩
    rw [K2.out]
    go_wp2_with fail
    refine (s_secs (hs.below hB1) hns).mono ?_
    rintro e w' ⟨rfl, rfl⟩
    rw [K4.out]
    go_wp2
    have e := (hX1.put 0 (.slice none 0 0)).cell 0
    refine bodyPost_ret (v := .tuple #[.agg #[.slice none 0 0], .bool false]) (by simp [results, Try.results12, go_sem, e]) rfl ⟨_, rfl, Own.nil _ _ _ _, bel_put hB1 (Nat.le_refl _) _⟩
  have q6b : ¬ (65535 : Int) < due := by omega
  by_cases c6 : load.length ≤ 24
  rotate_left
  · have HF := Lib.hid (fwrap_f (fun h : WrapOk route pubs secs due load pad => c6 (h.2.2.2.2.2.1)))
    rw [HF.out]
    have q7 : (24 : Int) < (nl : Int) := by omega
    clear l1 l2 l3 l4 c0 c1 c2 c3 c4 c5 c6
    go_enter Try.func12, Try.ntmps12
    go_wp2_with fail
    refine (s_RouteOk (reach hr ?hB) hnr).mono ?_
    case hB => exact (belx)
    rintro e w1 ⟨rfl, hb1⟩
    rw [K1.out]
    have hX1 : Box w1 w.heap.size 30 #[.slice none 0 0] := (Box.new _ _ _).below hb1 (by simp)
    have hB1 : Below w.heap.size w w1 := bel_trans (belx) hb1
    have x0 := hX1.cell 0
    have f0 := hX1.frozen 0
    clear hb1
    go_wp2_with fail
    refine (s_pubs (hp.below hB1) hnp).mono ?_
    rintro e w' ⟨rfl, rfl⟩
    rw [K2.out]
    go_wp2_with fail
    refine (s_secs (hs.below hB1) hns).mono ?_
    rintro e w' ⟨rfl, rfl⟩
    rw [K4.out]
    go_wp2
    have e := (hX1.put 0 (.slice none 0 0)).cell 0
    refine bodyPost_ret (v := .tuple #[.agg #[.slice none 0 0], .bool false]) (by simp [results, Try.results12, go_sem, e]) rfl ⟨_, rfl, Own.nil _ _ _ _, bel_put hB1 (Nat.le_refl _) _⟩
  have q7 : ¬ (24 : Int) < (nl : Int) := by omega
  by_cases c7 : 80 ≤ pad.length
  rotate_left
  · have HF := Lib.hid (fwrap_f (fun h : WrapOk route pubs secs due load pad => c7 (h.2.2.2.2.2.2)))
    rw [HF.out]
    have q8 : (nd : Int) < 80 := by omega
    clear l1 l2 l3 l4 c0 c1 c2 c3 c4 c5 c6 c7
    go_enter Try.func12, Try.ntmps12
    go_wp2_with fail
    refine (s_RouteOk (reach hr ?hB) hnr).mono ?_
    case hB => exact (belx)
    rintro e w1 ⟨rfl, hb1⟩
    rw [K1.out]
    have hX1 : Box w1 w.heap.size 30 #[.slice none 0 0] := (Box.new _ _ _).below hb1 (by simp)
    have hB1 : Below w.heap.size w w1 := bel_trans (belx) hb1
    have x0 := hX1.cell 0
    have f0 := hX1.frozen 0
    clear hb1
    go_wp2_with fail
    refine (s_pubs (hp.below hB1) hnp).mono ?_
    rintro e w' ⟨rfl, rfl⟩
    rw [K2.out]
    go_wp2_with fail
    refine (s_secs (hs.below hB1) hns).mono ?_
    rintro e w' ⟨rfl, rfl⟩
    rw [K4.out]
    go_wp2
    have e := (hX1.put 0 (.slice none 0 0)).cell 0
    refine bodyPost_ret (v := .tuple #[.agg #[.slice none 0 0], .bool false]) (by simp [results, Try.results12, go_sem, e]) rfl ⟨_, rfl, Own.nil _ _ _ _, bel_put hB1 (Nat.le_refl _) _⟩
  have q8 : ¬ (nd : Int) < 80 := by omega
  have HO : WrapOk route pubs secs due load pad := ⟨c0, c1, c2, c3, ⟨c4, c5⟩, c6, c7⟩
  have HF := Lib.hid (fwrap_t HO)
  have HOK := Lib.hid HO
  rw [HF.out]
  clear HO l1 l2 l3 l4 c0 c1 c2 c3 c4 c5 c6 c7
  go_enter Try.func12, Try.ntmps12
  go_wp2_with fail
  refine (s_RouteOk (reach hr ?hB) hnr).mono ?_
  case hB => exact (belx)
  rintro e w1 ⟨rfl, hb1⟩
  rw [K1.out]
  have hX1 : Box w1 w.heap.size 30 #[.slice none 0 0] := (Box.new _ _ _).below hb1 (by simp)
  have hB1 : Below w.heap.size w w1 := bel_trans (belx) hb1
  have x0 := hX1.cell 0
  have f0 := hX1.frozen 0
  clear hb1
  go_wp2_with fail
  refine (s_pubs (hp.below hB1) hnp).mono ?_
  rintro e w' ⟨rfl, rfl⟩
  rw [K2.out]
  go_wp2_with fail
  refine (s_secs (hs.below hB1) hns).mono ?_
  rintro e w' ⟨rfl, rfl⟩
  rw [K4.out]
  go_wp2_with fail
  refine (s_wrap (reach hr hB1) (reach hp hB1) (reach hs hB1) (reach hl hB1) (reach hd hB1) hnd HOK.out).mono ?_
  rintro e w2 ⟨v2, rfl, hO2, hb2⟩
  have hX2 := hX1.below hb2 hX1.size
  have z1 := hX1.size
  clear x0 f0
  have x0 := hX2.cell 0; have f0 := hX2.frozen 0
  have hB2 : Below w.heap.size w w2 := bel_trans hB1 hb2
  obtain ⟨L, hL⟩ : ∃ L, padL (wrapL pubs due load route secs) pad = L := ⟨_, rfl⟩
  rw [hL] at hO2
  have HLX := Lib.hid hL
  clear hL
  obtain ⟨A1, d1', rfl, -⟩ := hO2.ints
  have e := (hX2.put 0 (.slice A1 L.length d1')).cell 0
  go_wp2
  refine bodyPost_ret (v := .tuple #[.agg #[.slice A1 L.length d1'], .bool true]) (by simp [results, Try.results12, go_sem, e]) rfl ⟨_, rfl, ?_, bel_put hB2 (Nat.le_refl _) _⟩
  show Own .u8 _ _ _ _ (padL (wrapL pubs due load route secs) pad)
  rw [HLX.out]
  exact (hO2.far (by omega) 0 _).lower (by omega)
end Go.Proofs.Ytnfmjgldcnokbaa
