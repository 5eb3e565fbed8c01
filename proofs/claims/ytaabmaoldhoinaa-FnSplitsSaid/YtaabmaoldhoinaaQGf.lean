/-
  TpQ, TpK, PBytes, PRead: texts joined.
-/
import Derived.Test.YtaabmaoldhoinaaQGa
import Derived.Test.YtaabmaoldhoinaaQGc
import Derived.Test.YtaabmaoldhoinaaQGe
import Derived.Deep.RegionHeld3
import Derived.Outline
namespace Go.Proofs.Ytaabmaoldhoinaa
set_option linter.unusedVariables false
theorem tkT_old {d : DDesk} {q : DPiece} {x : Int} (h : TkOld d q) : tkT d q x = (d, [], -1) := if_pos h
theorem tkT_done {d : DDesk} {q : DPiece} {x : Int} (h : ¬ TkOld d q) (h1 : TkDone d q x) : tkT d q x = ((d.1.filter fun a => decide (a.1 ≠ q.1), insB id q.1 d.2), tkData (tkNew d q x).2.2.2, 1) := by
  unfold tkT; rw [if_neg h, if_pos h1]
theorem tkT_full {d : DDesk} {q : DPiece} {x : Int} (h : ¬ TkOld d q) (h1 : ¬ TkDone d q x) (h2 : TkFull d q) : tkT d q x = (d, [], -2) := by
  unfold tkT; rw [if_neg h, if_neg h1, if_pos h2]
theorem tkT_put {d : DDesk} {q : DPiece} {x : Int} (h : ¬ TkOld d q) (h1 : ¬ TkDone d q x) (h2 : ¬ TkFull d q) : tkT d q x = ((insB wId (tkNew d q x) d.1, d.2), [], 0) := by
  unfold tkT; rw [if_neg h, if_neg h1, if_neg h2]
end Go.Proofs.Ytaabmaoldhoinaa
namespace Go.Proofs.Ytaabmaoldhoinaa
set_option maxRecDepth 100000
set_option linter.unusedVariables false
set_option linter.unusedSimpArgs false
open Go.ChangeShapes Go.WideShapes Go.ChangeAt Go.RowKit
open Fld
set_option maxHeartbeats 2000000 in
theorem i_TakePiece {w : World} {cs ch : List Value} {p : DDesk} {q : DPiece} {x : Int} (h : tDesk.R w w.heap.size cs p) (hz : szDesk p ≤ 1048576) (hq : tPiece.R w w.heap.size ch q) (hzq : szPiece q ≤ 1048576) (hw : (Lit.int .i64 x).wf = true) :
    Calls Try.prog 15 #[.agg cs.toArray, .agg ch.toArray, .int .i64 x] w fun e w' => ∃ cs' F1 A c F2, e = .returned (.tuple #[.agg cs'.toArray, .slice A (fTp p q x).2.1.length c, .int .i64 (fTp p q x).2.2]) ∧ tDesk.O w' cs' (fTp p q x).1 F1 ∧ tBy.O w' [.slice A (fTp p q x).2.1.length c] (fTp p q x).2.1 F2 ∧ New w.heap.size (F1 ++ F2) ∧ Below w.heap.size w w' := by
  have hD := h
  have hQ := hq
  obtain ⟨A0, n0, c0, A1, n1, c1, rfl, -⟩ := openDesk hD
  obtain ⟨y0, y1, y2, qd⟩ := q
  obtain ⟨A7, n7, c7, rfl, -⟩ := openPiece hQ
  clear hD hQ
  by_cases hp : DkOk p
  rotate_left
  · have HP := Lib.hid (decide_eq_false hp)
    rw [fTp_f (fun hh => hp hh.1)]
    clear hp
    go_enter Try.func15, Try.ntmps15
    go_wp2_with fail
    refine (i_DeskOk (tDesk.reach h ?hB) hz).mono ?_
    case hB => exact (belx)
    rintro e w1 ⟨rfl, hb1⟩
    rw [HP.out]
    have Q1 : Box w1 (w.heap.size + 1) 24 #[.int .i64 y0, .int .i64 y1, .int .i64 y2, .slice A7 n7 c7] := Box.below (Box.alloc (by simpa using Box.new (w.alloc (.cells #[.slice A0 n0 c0, .slice A1 n1 c1] 38)) 24 #[.int .i64 y0, .int .i64 y1, .int .i64 y2, .slice A7 n7 c7]) _) hb1 (by first | (simp; done) | (simp; omega))
    have R1 : Box w1 (w.heap.size + 1 + 1) 38 #[.slice none 0 0, .slice none 0 0] := Box.below (by simpa using Box.new ((w.alloc (.cells #[.slice A0 n0 c0, .slice A1 n1 c1] 38)).alloc (.cells #[.int .i64 y0, .int .i64 y1, .int .i64 y2, .slice A7 n7 c7] 24)) 38 #[.slice none 0 0, .slice none 0 0]) hb1 (by simp)
    have hB1 : Below w.heap.size w w1 := bel_trans (belx) hb1
    have q10 := Q1.cell 0; have q11 := Q1.cell 1; have q12 := Q1.cell 2; have q13 := Q1.cell 3; have r10 := R1.cell 0; have r11 := R1.cell 1; have rf0 := R1.frozen 0; have rf1 := R1.frozen 1
    go_wp2
    have RR := (R1.put 0 (.slice none 0 0)).put 1 (.slice none 0 0)
    have e0 := RR.cell 0; have e1 := RR.cell 1
    refine bodyPost_ret (v := .tuple #[.agg #[.slice none 0 0, .slice none 0 0], .slice none 0 0, .int .i64 (-3)]) (by simp [results, Try.results15, go_sem, e0, e1]) rfl ⟨[.slice none 0 0, .slice none 0 0], [], none, 0, [], rfl, dkzO, nilB_O, New.nil _, ?_⟩
    exact bel_put (bel_put hB1 (p := ⟨w.heap.size + 1 + 1, 0, none⟩) (by show _ ≤ w.heap.size + 1 + 1; omega) _) (p := ⟨w.heap.size + 1 + 1, 1, none⟩) (by show _ ≤ w.heap.size + 1 + 1; omega) _
  have HP := Lib.hid (decide_eq_true hp)
  by_cases hpc : PcOk (y0, y1, y2, qd)
  rotate_left
  · have HQ := Lib.hid (decide_eq_false hpc)
    rw [fTp_f (fun hh => hpc hh.2.1)]
    clear hpc hp
    go_enter Try.func15, Try.ntmps15
    go_wp2_with fail
    refine (i_DeskOk (tDesk.reach h ?hB) hz).mono ?_
    case hB => exact (belx)
    rintro e w1 ⟨rfl, hb1⟩
    rw [HP.out]
    have Q1 : Box w1 (w.heap.size + 1) 24 #[.int .i64 y0, .int .i64 y1, .int .i64 y2, .slice A7 n7 c7] := Box.below (Box.alloc (by simpa using Box.new (w.alloc (.cells #[.slice A0 n0 c0, .slice A1 n1 c1] 38)) 24 #[.int .i64 y0, .int .i64 y1, .int .i64 y2, .slice A7 n7 c7]) _) hb1 (by first | (simp; done) | (simp; omega))
    have R1 : Box w1 (w.heap.size + 1 + 1) 38 #[.slice none 0 0, .slice none 0 0] := Box.below (by simpa using Box.new ((w.alloc (.cells #[.slice A0 n0 c0, .slice A1 n1 c1] 38)).alloc (.cells #[.int .i64 y0, .int .i64 y1, .int .i64 y2, .slice A7 n7 c7] 24)) 38 #[.slice none 0 0, .slice none 0 0]) hb1 (by simp)
    have hB1 : Below w.heap.size w w1 := bel_trans (belx) hb1
    have q10 := Q1.cell 0; have q11 := Q1.cell 1; have q12 := Q1.cell 2; have q13 := Q1.cell 3; have r10 := R1.cell 0; have r11 := R1.cell 1; have rf0 := R1.frozen 0; have rf1 := R1.frozen 1
    go_wp2_with fail
    refine (i_PieceOk (tPiece.reach hq hB1) hzq).mono ?_
    rintro e w2 ⟨rfl, hb2⟩
    rw [HQ.out]
    have R2 := R1.below hb2 R1.size
    have hB2 := bel_trans hB1 hb2
    have r20 := R2.cell 0; have r21 := R2.cell 1; have r2f0 := R2.frozen 0; have r2f1 := R2.frozen 1
    go_wp2
    have RR := (R2.put 0 (.slice none 0 0)).put 1 (.slice none 0 0)
    have e0 := RR.cell 0; have e1 := RR.cell 1
    refine bodyPost_ret (v := .tuple #[.agg #[.slice none 0 0, .slice none 0 0], .slice none 0 0, .int .i64 (-3)]) (by simp [results, Try.results15, go_sem, e0, e1]) rfl ⟨[.slice none 0 0, .slice none 0 0], [], none, 0, [], rfl, dkzO, nilB_O, New.nil _, ?_⟩
    exact bel_put (bel_put hB2 (p := ⟨w.heap.size + 1 + 1, 0, none⟩) (by show _ ≤ w.heap.size + 1 + 1; omega) _) (p := ⟨w.heap.size + 1 + 1, 1, none⟩) (by show _ ≤ w.heap.size + 1 + 1; omega) _
  have HQ := Lib.hid (decide_eq_true hpc)
  by_cases hx : 0 ≤ x ∧ x ≤ 65535
  rotate_left
  · rw [fTp_f (fun hh => hx hh.2.2)]
    have HX := Lib.hid hx
    clear hpc hp hx
    go_enter Try.func15, Try.ntmps15
    go_wp2_with fail
    refine (i_DeskOk (tDesk.reach h ?hB) hz).mono ?_
    case hB => exact (belx)
    rintro e w1 ⟨rfl, hb1⟩
    rw [HP.out]
    have Q1 : Box w1 (w.heap.size + 1) 24 #[.int .i64 y0, .int .i64 y1, .int .i64 y2, .slice A7 n7 c7] := Box.below (Box.alloc (by simpa using Box.new (w.alloc (.cells #[.slice A0 n0 c0, .slice A1 n1 c1] 38)) 24 #[.int .i64 y0, .int .i64 y1, .int .i64 y2, .slice A7 n7 c7]) _) hb1 (by first | (simp; done) | (simp; omega))
    have R1 : Box w1 (w.heap.size + 1 + 1) 38 #[.slice none 0 0, .slice none 0 0] := Box.below (by simpa using Box.new ((w.alloc (.cells #[.slice A0 n0 c0, .slice A1 n1 c1] 38)).alloc (.cells #[.int .i64 y0, .int .i64 y1, .int .i64 y2, .slice A7 n7 c7] 24)) 38 #[.slice none 0 0, .slice none 0 0]) hb1 (by simp)
    have hB1 : Below w.heap.size w w1 := bel_trans (belx) hb1
    have q10 := Q1.cell 0; have q11 := Q1.cell 1; have q12 := Q1.cell 2; have q13 := Q1.cell 3; have r10 := R1.cell 0; have r11 := R1.cell 1; have rf0 := R1.frozen 0; have rf1 := R1.frozen 1
    go_wp2_with fail
    refine (i_PieceOk (tPiece.reach hq hB1) hzq).mono ?_
    rintro e w2 ⟨rfl, hb2⟩
    rw [HQ.out]
    have R2 := R1.below hb2 R1.size
    have hB2 := bel_trans hB1 hb2
    have r20 := R2.cell 0; have r21 := R2.cell 1; have r2f0 := R2.frozen 0; have r2f1 := R2.frozen 1
    go_wp2_with fail
    refine (i4_isDue_f x w2 HX.out).mono ?_
    rintro e w' ⟨rfl, rfl⟩
    go_wp2
    have RR := (R2.put 0 (.slice none 0 0)).put 1 (.slice none 0 0)
    have e0 := RR.cell 0; have e1 := RR.cell 1
    refine bodyPost_ret (v := .tuple #[.agg #[.slice none 0 0, .slice none 0 0], .slice none 0 0, .int .i64 (-3)]) (by simp [results, Try.results15, go_sem, e0, e1]) rfl ⟨[.slice none 0 0, .slice none 0 0], [], none, 0, [], rfl, dkzO, nilB_O, New.nil _, ?_⟩
    exact bel_put (bel_put hB2 (p := ⟨w.heap.size + 1 + 1, 0, none⟩) (by show _ ≤ w.heap.size + 1 + 1; omega) _) (p := ⟨w.heap.size + 1 + 1, 1, none⟩) (by show _ ≤ w.heap.size + 1 + 1; omega) _
  rw [fTp_t ⟨hp, hpc, hx⟩]
  by_cases hm : y0 ∈ p.2
  · rw [tkT_old (q := (y0, y1, y2, qd)) (.inl hm)]
    exact i_tk_od h hq hp hpc hx hm
  have hpw : p.1.Pairwise (fun a b => a.1 < b.1) := asc_pairM (f := wId) hp.2.2.2.1
  by_cases ht : ∃ a ∈ p.1, a.1 = y0
  · obtain ⟨a, ha, e⟩ := ht
    have hN := tkNew_there (q := (y0, y1, y2, qd)) (due := x) hp ha e
    have hO := tkOld_there (q := (y0, y1, y2, qd)) hp ha e
    obtain ⟨a0, a1, a2, ag⟩ := a
    obtain rfl : a0 = y0 := e
    by_cases h1 : a1 = y2
    · obtain rfl : y2 = a1 := h1.symm
      by_cases hin : ∃ p ∈ ag, p.2.1 = y1
      · rw [tkT_old (hO.2 (.inr hin))]
        exact i_tk_op h hq hp hpc hx ha hin
      · have hno := fun h => hin ((hO.1 h).resolve_left (fun h => h rfl))
        have hno2 : ∀ p ∈ ag, p.2.1 ≠ y1 := fun p hp h => hin ⟨p, hp, h⟩
        by_cases hd : ((insB pAt (a0, y1, y2, qd) ag).length : Int) = y2
        · rw [tkT_done hno (show TkDone p (a0, y1, y2, qd) x by unfold TkDone; rw [hN]; exact hd), hN]
          exact i_tk_td h hq hp hpc hx ha hno2 hd
        · have hT := tkT_put hno (show ¬ TkDone p (a0, y1, y2, qd) x by unfold TkDone; rw [hN]; exact hd) (fun h => h.1 _ ha rfl)
          rw [hN] at hT
          have hok := tkT_ok hp hpc hx
          rw [hT] at hok ⊢
          exact i_tk_tp h hq hp hpc hx ha hno2 hd hok
    · rw [tkT_old (hO.2 (.inl h1))]
      exact i_tk_ot h hq hp hpc hx ha h1
  · have hne : ∀ a ∈ p.1, a.1 ≠ y0 := fun a ha e => ht ⟨a, ha, e⟩
    have hN := tkNew_new (q := (y0, y1, y2, qd)) (due := x) hne
    have hno : ¬ TkOld p (y0, y1, y2, qd) := fun h => hm ((tkOld_new (q := (y0, y1, y2, qd)) hne).1 h)
    have hl : p.1.length = n0 := by obtain ⟨_, _, _, _, _, _, e_, -, -, e0, -⟩ := openDesk h; injection e_ with e1 _; injection e1 with _ e2 _; omega
    by_cases hd : ((insB pAt (y0, y1, y2, qd) ([] : List DPiece)).length : Int) = y2
    · rw [tkT_done hno (show TkDone p (y0, y1, y2, qd) x by unfold TkDone; rw [hN]; exact hd), hN]
      exact i_tk_nd h hq hp hpc hx hne hm hd
    · have hnd : ¬ TkDone p (y0, y1, y2, qd) x := by unfold TkDone; rw [hN]; exact hd
      by_cases hf : 6 ≤ n0
      · rw [tkT_full hno hnd ⟨hne, by omega⟩]
        exact i_tk_nf h hq hp hpc hx hne hm hd hf
      · have hT := tkT_put hno hnd (fun h => hf (by have := h.2; omega))
        rw [hN] at hT
        have hok := tkT_ok hp hpc hx
        rw [hT] at hok ⊢
        exact i_tk_np h hq hp hpc hx hne hm hd hf hok
end Go.Proofs.Ytaabmaoldhoinaa
namespace Go.Proofs.Ytaabmaoldhoinaa
set_option maxRecDepth 100000
set_option linter.unusedVariables false
set_option linter.unusedSimpArgs false
open Go.ChangeShapes Go.WideShapes Go.ChangeAt Go.RowKit
def fPB (p : DPiece) : List Int := if PcOk p then p.1 :: p.2.1 :: p.2.2.1 :: p.2.2.2 else []
theorem fPB_t {p : DPiece} (h : PcOk p) : fPB p = p.1 :: p.2.1 :: p.2.2.1 :: p.2.2.2 := if_pos h
theorem fPB_f {p : DPiece} (h : ¬ PcOk p) : fPB p = [] := if_neg h
theorem fPB_le (p : DPiece) : (fPB p).length ≤ 23 := by
  by_cases h : PcOk p
  · rw [fPB_t h]; have := h.2.2.2.2.2.1; simp only [List.length_cons]; omega
  · rw [fPB_f h]; simp
set_option maxHeartbeats 400000 in
theorem i_PieceBytes {w : World} {cs : List Value} {p : DPiece} (h : tPiece.R w w.heap.size cs p) (hz : szPiece p ≤ 1048576) :
    Calls Try.prog 7 #[.agg cs.toArray] w fun e w' => ∃ A c F, e = .returned (.tuple #[.slice A (fPB p).length c, .bool (decide (PcOk p))]) ∧ tBy.O w' [.slice A (fPB p).length c] (fPB p) F ∧ New w.heap.size F ∧ Below w.heap.size w w' := by
  by_cases hp : PcOk p
  · have HP := Lib.hid (decide_eq_true hp)
    rw [HP.out]
    have HF := Lib.hid (fPB_t hp)
    obtain ⟨i0, hi0', hz0, hz1, hz2⟩ := info_parts info_cb
    obtain ⟨A3, n3, c3, rfl, hi0, hi1, hi2, ha3, hb3, hl3, hr3⟩ := openPiece h
    obtain ⟨q1, q2, q3, q4, q5, q6, _, _⟩ := hp
    have hi3 := (slR_ints hr3).1
    obtain ⟨x0, x1, x2, l3⟩ := p
    dsimp only [szPiece] at *
    have HL := Lib.hid hl3
    have q7 : 0 ≤ x2 := by omega
    have q8 : x2 ≤ 255 := by omega
    have q9 : x1 ≤ 255 := by omega
    have hn : n3 ≤ 1048576 := by omega
    clear hl3 hi0 hi1 hi2
    go_enter Try.func7, Try.ntmps7
    go_wp2_with fail
    refine (i_PieceOk (tPiece.reach h ?hB) hz).mono ?_
    case hB => exact (belx)
    rintro e w1 ⟨rfl, hb1⟩
    rw [HP.out]
    have B1 : Box w1 w.heap.size 24 #[.int .i64 x0, .int .i64 x1, .int .i64 x2, .slice A3 n3 c3] := (Box.new _ _ _).below hb1 (by simp)
    have k0 := B1.cell 0; have k1 := B1.cell 1; have k2 := B1.cell 2; have k3 := B1.cell 3
    have hB1 : Below w.heap.size w w1 := bel_trans (belx) hb1
    have hrow : (w1.alloc (.cells #[.int .u8 x0, .int .u8 x1, .int .u8 x2] 5)).ownsRow w1.heap.size 5 1 (.slice (some ⟨w1.heap.size, 0, none⟩) 3 3) 3 [.int .u8 x0, .int .u8 x1, .int .u8 x2] := three_row w1 _ _ _ _
    have hsrc : Src (w1.alloc (.cells #[.int .u8 x0, .int .u8 x1, .int .u8 x2] 5)) 1 A3 n3 (l3.map (Value.int .u8)) := Src.of_ints (reach (reach hi3 hB1) (belx))
    have z1 : w.heap.size ≤ w1.heap.size := hB1.size
    have d3 : (w1.alloc (.cells #[.int .u8 x0, .int .u8 x1, .int .u8 x2] 5)).cell? ⟨w.heap.size, 3, none⟩ = some (.slice A3 n3 c3) := (B1.alloc _).cell 3
    go_wp2_with (at_builtin; refine wpList_app _ rfl (.tmp 16) (.tmp 18) _ rfl w1.heap.size 5 i0 _ 1 1 Try.underlying22 hi0' hz0 hz1 hz2 rfl (by omega) _ _ _ rfl hrow _ n3 c3 (l3.map (Value.int .u8)) rfl hsrc (one_ints _ _) (by simp only [maxLen]; omega) (by omega) (by simp; done) ?_; intro v1 w2 hown hgr hat)
    go_ret2
    have hO : Own .u8 5 w2 w1.heap.size v1 (x0 :: x1 :: x2 :: l3) := Own.of (n := 3 + n3) (by simpa using hown) (by
      intro y hy
      simp only [List.mem_cons] at hy
      rcases hy with rfl | rfl | rfl | hy
      · exact WalkArith.wf_u8 ⟨by omega, by omega⟩
      · exact WalkArith.wf_u8 ⟨by omega, by omega⟩
      · exact WalkArith.wf_u8 ⟨by omega, by omega⟩
      · exact hi3.2.2 y hy)
    obtain ⟨A, c, F, rfl, hO2, hN⟩ := own_slice hO
    have e := HF.out
    try dsimp only at e
    rw [← e] at hO2 ⊢
    refine ⟨A, c, F, rfl, hO2, hN.lower z1, Below.grown (by exact (belx)) hgr (by simp; omega) fun b hb => ?_⟩
    have e := Option.some.inj (show some w1.heap.size = some b from hb)
    omega
  · have HP := Lib.hid (decide_eq_false hp)
    rw [HP.out]
    obtain ⟨A3, n3, c3, rfl, hi0, hi1, hi2, ha3, hb3, hl3, hr3⟩ := openPiece h
    clear hl3
    rw [fPB_f hp]
    clear hp
    go_enter Try.func7, Try.ntmps7
    go_wp2_with fail
    refine (i_PieceOk (tPiece.reach h ?hB) hz).mono ?_
    case hB => exact (belx)
    rintro e w1 ⟨rfl, hb1⟩
    rw [HP.out]
    go_wp2
    go_ret2
    exact ⟨none, 0, [], rfl, nilO, New.nil _, bel_trans (belx) hb1⟩
end Go.Proofs.Ytaabmaoldhoinaa
namespace Go.Proofs.Ytaabmaoldhoinaa
set_option maxRecDepth 100000
set_option linter.unusedVariables false
set_option linter.unusedSimpArgs false
open Go.ChangeShapes Go.WideShapes Go.ChangeAt Go.RowKit
def pcIn (l : List Int) : DPiece := (l.getD 0 0, l.getD 1 0, l.getD 2 0, l.drop 3)
def PrOk (l : List Int) : Prop := 3 ≤ l.length ∧ PcOk (pcIn l)
instance (l : List Int) : Decidable (PrOk l) := by unfold PrOk; infer_instance
def fPR (l : List Int) : DPiece := if PrOk l then pcIn l else (0, 0, 0, [])
theorem fPR_t {l : List Int} (h : PrOk l) : fPR l = pcIn l := if_pos h
theorem fPR_f {l : List Int} (h : ¬ PrOk l) : fPR l = (0, 0, 0, []) := if_neg h
theorem fPR_le (l : List Int) : szPiece (fPR l) ≤ 20 := by
  by_cases h : PrOk l
  · rw [fPR_t h]; exact h.2.2.2.2.2.2.1
  · rw [fPR_f h]; simp [szPiece]
theorem pzO {w : World} : tPiece.O w [.int .i64 0, .int .i64 0, .int .i64 0, .slice none 0 0] (0, 0, 0, []) [] := by
  obtain ⟨F, h, rfl⟩ := makeOPiece (w := w) (p := (0, 0, 0, [])) (v3 := .slice none 0 0) (F3 := []) rfl rfl rfl nilO
  exact h
theorem tail8 {K : IntKind} {w : World} {B n b off : Nat} {l : List Int} (h : Ints K w B (some ⟨b, off, none⟩) n l) (m : Nat) (hm : m ≤ n) : Ints K w B (some ⟨b, off + m, none⟩) (n - m) (l.drop m) := by
  refine ⟨by rw [List.length_drop, h.1], fun h0 => ?_, fun x hx => h.2.2 x (List.mem_of_mem_drop hx)⟩
  obtain ⟨b', off', e, hb, hc⟩ := h.2.1 (by omega)
  injection e with e
  injection e with e1 e2 _
  subst e1 e2
  refine ⟨b, off + m, rfl, hb, fun i hi => ?_⟩
  rw [Nat.add_assoc, hc (m + i) (by omega), List.getD_eq_getElem?_getD, List.getD_eq_getElem?_getD, List.getElem?_drop]
theorem u8_rg' {x : Int} (h : (Lit.int .u8 x).wf = true) : 0 ≤ x ∧ x ≤ 255 := by
  have e1 : IntKind.u8.min = 0 := by decide
  have e2 : IntKind.u8.max = 255 := by decide
  simp only [Lit.wf, e1, e2, Bool.and_eq_true, decide_eq_true_eq] at h
  exact h
theorem i_copiedB {w : World} {n c : Nat} {A : Option Addr} {l : List Int} (hl : Ints .u8 w w.heap.size A n l) (hn : n ≤ 1048576) :
    Calls Try.prog 52 #[.slice A n c] w fun e w' => ∃ v, e = .returned v ∧ Own .u8 5 w' w.heap.size v l ∧ Below w.heap.size w w' := by
  obtain ⟨i0, hi0, hz0, hz1, hz2⟩ := info_parts info_cb
  go_enter Try.func52, Try.ntmps52
  go_wp2_with (at_builtin; refine wpList_app _ rfl _ (.tmp 3) _ rfl w.heap.size 5 i0 _ 1 1 Try.underlying22 hi0 hz0 hz1 hz2 rfl (by omega) (.slice none 0 0) 0 [] rfl (World.ownsRow_nil _ _ _ _) _ n c (l.map (Value.int .u8)) rfl (Src.of_ints hl) (one_ints _ _) (by simp only [maxLen]; omega) (by omega) (Nat.le_refl _) ?_; intro v1 w1 hown hgr hat)
  go_ret
  exact ⟨v1, rfl, Own.of (n := 0 + n) (by simpa using hown) hl.2.2, Below.grown (Below.refl _ _) hgr (Nat.le_refl _) fun b hb => by simp [Value.ownBlock] at hb⟩
set_option maxHeartbeats 1000000 in
theorem i_PcCopy {w : World} {A3 : Option Addr} {n3 c3 : Nat} {x0 x1 x2 : Int} {l3 : List Int} (hl : Ints .u8 w w.heap.size A3 n3 l3) (hn : n3 ≤ 1048576) :
    Calls Try.prog 24 #[.agg #[.int .i64 x0, .int .i64 x1, .int .i64 x2, .slice A3 n3 c3]] w fun e w' => ∃ A c F, e = .returned (.agg #[.int .i64 x0, .int .i64 x1, .int .i64 x2, .slice A l3.length c]) ∧ tBy.O w' [.slice A l3.length c] l3 F ∧ New w.heap.size F ∧ Below w.heap.size w w' := by
  go_enter Try.func24, Try.ntmps24
  go_wp2_with fail
  refine (i_copiedB (reach hl ?hB) hn).mono ?_
  case hB => exact (belx)
  rintro e w1 ⟨v, rfl, hO, hb1⟩
  obtain ⟨A, c, F, rfl, hO3, hN⟩ := own_slice hO
  clear hO
  have z1 : w.heap.size + 2 ≤ w1.heap.size := by have h : (World.alloc (World.alloc w _) _).heap.size ≤ w1.heap.size := hb1.size; simpa using h
  have P1 : Box w1 w.heap.size 24 #[.int .i64 x0, .int .i64 x1, .int .i64 x2, .slice A3 n3 c3] := Box.below ((Box.new w _ _).alloc _) hb1 (by simp; omega)
  have R1 : Box w1 (w.heap.size + 1) 24 #[.int .i64 0, .int .i64 0, .int .i64 0, .slice none 0 0] := Box.below (by simpa using Box.new (w.alloc _) 24 #[.int .i64 0, .int .i64 0, .int .i64 0, .slice none 0 0]) hb1 (by simp)
  have hM : New (w.heap.size + 2) F := hN.lower (by simp)
  have hB1 : Below w.heap.size w w1 := bel_trans (belx) hb1
  have p0 := P1.cell 0; have p1 := P1.cell 1; have p2 := P1.cell 2; have p3 := P1.cell 3
  have f3 := P1.frozen 3
  have r0 := R1.cell 0; have r1 := R1.cell 1; have r2 := R1.cell 2; have r3 := R1.cell 3
  have g0 := R1.frozen 0; have g1 := R1.frozen 1; have g2 := R1.frozen 2; have g3 := R1.frozen 3
  go_wp2
  have RR := ((((R1.far (p := ⟨w.heap.size, 3, none⟩) (by simp) (.slice A l3.length c)).put 0 (.int .i64 x0)).put 1 (.int .i64 x1)).put 2 (.int .i64 x2)).put 3 (.slice A l3.length c)
  have e0 := RR.cell 0; have e1 := RR.cell 1; have e2 := RR.cell 2; have e3 := RR.cell 3
  have u := Ty.far (t := tBy) (Ty.far (t := tBy) (Ty.far (t := tBy) (Ty.far (t := tBy) (Ty.far (t := tBy) hO3 hM (p := ⟨w.heap.size, 3, none⟩) (by show w.heap.size < _; omega) (.slice A l3.length c)) hM (p := ⟨w.heap.size + 1, 0, none⟩) (by show w.heap.size + 1 < _; omega) (.int .i64 x0)) hM (p := ⟨w.heap.size + 1, 1, none⟩) (by show w.heap.size + 1 < _; omega) (.int .i64 x1)) hM (p := ⟨w.heap.size + 1, 2, none⟩) (by show w.heap.size + 1 < _; omega) (.int .i64 x2)) hM (p := ⟨w.heap.size + 1, 3, none⟩) (by show w.heap.size + 1 < _; omega) (.slice A l3.length c)
  refine bodyPost_ret (v := .agg #[.int .i64 x0, .int .i64 x1, .int .i64 x2, .slice A l3.length c]) (by simp [results, Try.results24, go_sem, e0, e1, e2, e3]) rfl ⟨A, c, F, rfl, u, hM.lower (by omega), ?_⟩
  exact bel_put (bel_put (bel_put (bel_put (bel_put hB1 (by simp) _) (by simp) _) (by simp) _) (by simp) _) (by simp) _
set_option maxHeartbeats 1000000 in
theorem i_PieceRead {w : World} {A : Option Addr} {n c : Nat} {l : List Int} (h : tBy.R w w.heap.size [.slice A n c] l) (hz : l.length ≤ 1048576) :
    Calls Try.prog 10 #[.slice A n c] w fun e w' => ∃ cs F, e = .returned (.tuple #[.agg cs.toArray, .bool (decide (PrOk l))]) ∧ tPiece.O w' cs (fPR l) F ∧ New w.heap.size F ∧ Below w.heap.size w w' := by
  obtain ⟨hl, hnc, hcm⟩ := slR_ints h
  have HL := Lib.hid hl.1
  clear h
  by_cases h3 : n < 3
  · have hp : ¬ PrOk l := fun x => by have := x.1; have := HL.out; omega
    have HP := Lib.hid (decide_eq_false hp)
    rw [fPR_f hp, HP.out]
    have q : (n : Int) < 3 := by omega
    clear hp
    go_enter Try.func10, Try.ntmps10
    go_wp2
    have R1 : Box (w.alloc (.cells #[.int .i64 0, .int .i64 0, .int .i64 0, .slice none 0 0] 24)) w.heap.size 24 #[.int .i64 0, .int .i64 0, .int .i64 0, .slice none 0 0] := Box.new _ _ _
    have e0 := R1.cell 0; have e1 := R1.cell 1; have e2 := R1.cell 2; have e3 := R1.cell 3
    refine bodyPost_ret (v := .tuple #[.agg #[.int .i64 0, .int .i64 0, .int .i64 0, .slice none 0 0], .bool false]) (by simp [results, Try.results10, go_sem, e0, e1, e2, e3]) rfl ⟨_, [], rfl, pzO, New.nil _, (belx)⟩
  · obtain ⟨b, off, rfl, hb, hc0, hw0⟩ := hl.at_ (i := 0) (by omega)
    obtain ⟨b1, off1, e1, _, hc1, hw1⟩ := hl.at_ (i := 1) (by omega)
    obtain ⟨b2, off2, e2, _, hc2, hw2⟩ := hl.at_ (i := 2) (by omega)
    injection e1 with e1; injection e1 with e1 e1' _; subst e1 e1'
    injection e2 with e2; injection e2 with e2 e2' _; subst e2 e2'
    rw [Nat.add_zero] at hc0
    have hT := tail8 hl 3 (by omega)
    obtain ⟨x0, hx0⟩ : ∃ x, l.getD 0 0 = x := ⟨_, rfl⟩
    obtain ⟨x1, hx1⟩ : ∃ x, l.getD 1 0 = x := ⟨_, rfl⟩
    obtain ⟨x2, hx2⟩ : ∃ x, l.getD 2 0 = x := ⟨_, rfl⟩
    obtain ⟨l3, hl3⟩ : ∃ x, l.drop 3 = x := ⟨_, rfl⟩
    have HI := Lib.hid (show pcIn l = (x0, x1, x2, l3) from by rw [← hx0, ← hx1, ← hx2, ← hl3]; rfl)
    rw [hx0] at hc0 hw0
    rw [hx1] at hc1 hw1
    rw [hx2] at hc2 hw2
    rw [hl3] at hT
    clear hx0 hx1 hx2 hl3
    have rg0 := u8_rg' hw0
    have rg1 := u8_rg' hw1
    have rg2 := u8_rg' hw2
    have q3 : ¬ (n : Int) < 3 := by omega
    have q0 : (0 : Int) < (n : Int) := by omega
    have q1 : (1 : Int) < (n : Int) := by omega
    have q2 : (2 : Int) < (n : Int) := by omega
    have q4 : (3 : Int) ≤ (n : Int) := by omega
    have m0 : 0 < n := by omega
    have m1 : 1 < n := by omega
    have m2 : 2 < n := by omega
    have m3 : 3 ≤ n := by omega
    have m4 : n ≠ 0 := by omega
    have wf0 : (Lit.int .i64 x0).wf = true := wf_i64 (by omega) (by omega)
    have wf1 : (Lit.int .i64 x1).wf = true := wf_i64 (by omega) (by omega)
    have wf2 : (Lit.int .i64 x2).wf = true := wf_i64 (by omega) (by omega)
    have kk : ∀ W : World, Below w.heap.size w W → W.cell? ⟨b, off, none⟩ = some (.int .u8 x0) ∧ W.cell? ⟨b, off + 1, none⟩ = some (.int .u8 x1) ∧ W.cell? ⟨b, off + 2, none⟩ = some (.int .u8 x2) := fun W hW => ⟨cell_bel hW hc0, cell_bel hW hc1, cell_bel hW hc2⟩
    have hn1 : n ≤ 1048576 := by have := HL.out; omega
    clear hl hc0 hc1 hc2 hw0 hw1 hw2 hz
    by_cases hc3 : c = 3
    · subst hc3
      obtain rfl : n = 3 := by omega
      have hI : Ints .u8 w w.heap.size (some ⟨b, off, none⟩) 0 l3 := by
        have e := hT.1
        rw [show l3 = [] from List.eq_nil_of_length_eq_zero (by omega)]
        exact Ints.nil
      clear hT
      have hR0 : tPiece.R w w.heap.size [.int .i64 x0, .int .i64 x1, .int .i64 x2, .slice (some ⟨b, off, none⟩) (0) (0)] (x0, x1, x2, l3) := makePiece (p := (x0, x1, x2, l3)) wf0 wf1 wf2 (ints_slR hI (by omega) (by omega))
      have hz3 : szPiece (x0, x1, x2, l3) ≤ 1048576 := by have := hI.1; show l3.length ≤ 1048576; omega
      by_cases hp : PcOk (x0, x1, x2, l3)
      · have hpr : PrOk l := ⟨by rw [HL.out]; omega, by rw [HI.out]; exact hp⟩
        have HP := Lib.hid (decide_eq_true hp)
        have HD := Lib.hid (decide_eq_true hpr)
        rw [fPR_t hpr, HI.out, HD.out]
        clear hp hpr
        go_enter Try.func10, Try.ntmps10
        go_wp2_with fail
        go_region_held3 (fun w' => w'.cell? ⟨b, off, none⟩ = some (.int .u8 x0) ∧ w'.cell? ⟨b, off + 1, none⟩ = some (.int .u8 x1) ∧ w'.cell? ⟨b, off + 2, none⟩ = some (.int .u8 x2)) (first | (exact kk _ (belx)) | go_keep) (fail)
        go_wp2_with fail
        refine (i_PieceOk (tPiece.reach hR0 ?hB) hz3).mono ?_
        case hB => exact (belx)
        rintro e w1 ⟨rfl, hb1⟩
        rw [HP.out]
        have z1 : w.heap.size + 2 ≤ w1.heap.size := by have h : (World.alloc (World.alloc w _) _).heap.size ≤ w1.heap.size := hb1.size; simpa using h
        have R1 : Box w1 w.heap.size 24 #[.int .i64 0, .int .i64 0, .int .i64 0, .slice none 0 0] := Box.below ((Box.new w 24 #[.int .i64 0, .int .i64 0, .int .i64 0, .slice none 0 0]).alloc _).drew hb1 (by show _ < (World.alloc _ _).heap.size; first | (simp; done) | (simp; omega))
        have P1 : Box w1 (w.heap.size + 1) 24 #[.int .i64 x0, .int .i64 x1, .int .i64 x2, .slice (some ⟨b, off, none⟩) (0) (0)] := Box.below (Box.drew (show Box ((w.alloc (.cells #[.int .i64 0, .int .i64 0, .int .i64 0, .slice none 0 0] 24)).alloc (.cells #[.int .i64 x0, .int .i64 x1, .int .i64 x2, .slice (some ⟨b, off, none⟩) (0) (0)] 24)) (w.heap.size + 1) 24 #[.int .i64 x0, .int .i64 x1, .int .i64 x2, .slice (some ⟨b, off, none⟩) (0) (0)] from by simpa using Box.new (w.alloc (.cells #[.int .i64 0, .int .i64 0, .int .i64 0, .slice none 0 0] 24)) 24 #[.int .i64 x0, .int .i64 x1, .int .i64 x2, .slice (some ⟨b, off, none⟩) (0) (0)])) hb1 (by show _ < (World.alloc _ _).heap.size; first | (simp; done) | (simp; omega))
        have hB1 : Below w.heap.size w w1 := bel_trans (belx) hb1
        have p0 := P1.cell 0; have p1 := P1.cell 1; have p2 := P1.cell 2; have p3 := P1.cell 3
        have r0 := R1.cell 0; have r1 := R1.cell 1; have r2 := R1.cell 2; have r3 := R1.cell 3
        have g0 := R1.frozen 0; have g1 := R1.frozen 1; have g2 := R1.frozen 2; have g3 := R1.frozen 3
        go_wp2_with fail
        refine (i_PcCopy (reach hI hB1) (by omega)).mono ?_
        rintro e w2 ⟨A2, c2, F, rfl, hO, hN, hb2⟩
        have R2 := R1.below hb2 R1.size
        have z2 := hb2.size
        have s0 := R2.cell 0; have s1 := R2.cell 1; have s2 := R2.cell 2; have s3 := R2.cell 3
        have u0 := R2.frozen 0; have u1 := R2.frozen 1; have u2 := R2.frozen 2; have u3 := R2.frozen 3
        go_wp2
        have RR := (((R2.put 0 (.int .i64 x0)).put 1 (.int .i64 x1)).put 2 (.int .i64 x2)).put 3 (.slice A2 l3.length c2)
        have e0 := RR.cell 0; have e1 := RR.cell 1; have e2 := RR.cell 2; have e3 := RR.cell 3
        have hq : w.heap.size < w1.heap.size := by omega
        have u := Ty.far (t := tBy) (Ty.far (t := tBy) (Ty.far (t := tBy) (Ty.far (t := tBy) hO hN (p := ⟨w.heap.size, 0, none⟩) hq (.int .i64 x0)) hN (p := ⟨w.heap.size, 1, none⟩) hq (.int .i64 x1)) hN (p := ⟨w.heap.size, 2, none⟩) hq (.int .i64 x2)) hN (p := ⟨w.heap.size, 3, none⟩) hq (.slice A2 l3.length c2)
        obtain ⟨F2, hF2, e⟩ := makeOPiece (p := (x0, x1, x2, l3)) wf0 wf1 wf2 u
        subst e
        refine bodyPost_ret (v := .tuple #[.agg #[.int .i64 x0, .int .i64 x1, .int .i64 x2, .slice A2 l3.length c2], .bool true]) (by simp [results, Try.results10, go_sem, e0, e1, e2, e3]) rfl ⟨_, F2, rfl, hF2, hN.lower (by omega), ?_⟩
        exact bel_put (bel_put (bel_put (bel_put (bel_trans hB1 hb2) (Nat.le_refl _) _) (Nat.le_refl _) _) (Nat.le_refl _) _) (Nat.le_refl _) _
      · have hpr : ¬ PrOk l := fun x => hp (by have := x.2; rw [HI.out] at this; exact this)
        have HP := Lib.hid (decide_eq_false hp)
        have HD := Lib.hid (decide_eq_false hpr)
        rw [fPR_f hpr, HD.out]
        clear hp hpr
        go_enter Try.func10, Try.ntmps10
        go_wp2_with fail
        go_region_held3 (fun w' => w'.cell? ⟨b, off, none⟩ = some (.int .u8 x0) ∧ w'.cell? ⟨b, off + 1, none⟩ = some (.int .u8 x1) ∧ w'.cell? ⟨b, off + 2, none⟩ = some (.int .u8 x2)) (first | (exact kk _ (belx)) | go_keep) (fail)
        go_wp2_with fail
        refine (i_PieceOk (tPiece.reach hR0 ?hB) hz3).mono ?_
        case hB => exact (belx)
        rintro e w1 ⟨rfl, hb1⟩
        rw [HP.out]
        have z1 : w.heap.size + 2 ≤ w1.heap.size := by have h : (World.alloc (World.alloc w _) _).heap.size ≤ w1.heap.size := hb1.size; simpa using h
        have R1 : Box w1 w.heap.size 24 #[.int .i64 0, .int .i64 0, .int .i64 0, .slice none 0 0] := Box.below ((Box.new w 24 #[.int .i64 0, .int .i64 0, .int .i64 0, .slice none 0 0]).alloc _).drew hb1 (by show _ < (World.alloc _ _).heap.size; first | (simp; done) | (simp; omega))
        have P1 : Box w1 (w.heap.size + 1) 24 #[.int .i64 x0, .int .i64 x1, .int .i64 x2, .slice (some ⟨b, off, none⟩) (0) (0)] := Box.below (Box.drew (show Box ((w.alloc (.cells #[.int .i64 0, .int .i64 0, .int .i64 0, .slice none 0 0] 24)).alloc (.cells #[.int .i64 x0, .int .i64 x1, .int .i64 x2, .slice (some ⟨b, off, none⟩) (0) (0)] 24)) (w.heap.size + 1) 24 #[.int .i64 x0, .int .i64 x1, .int .i64 x2, .slice (some ⟨b, off, none⟩) (0) (0)] from by simpa using Box.new (w.alloc (.cells #[.int .i64 0, .int .i64 0, .int .i64 0, .slice none 0 0] 24)) 24 #[.int .i64 x0, .int .i64 x1, .int .i64 x2, .slice (some ⟨b, off, none⟩) (0) (0)])) hb1 (by show _ < (World.alloc _ _).heap.size; first | (simp; done) | (simp; omega))
        have hB1 : Below w.heap.size w w1 := bel_trans (belx) hb1
        have p0 := P1.cell 0; have p1 := P1.cell 1; have p2 := P1.cell 2; have p3 := P1.cell 3
        have r0 := R1.cell 0; have r1 := R1.cell 1; have r2 := R1.cell 2; have r3 := R1.cell 3
        have g0 := R1.frozen 0; have g1 := R1.frozen 1; have g2 := R1.frozen 2; have g3 := R1.frozen 3
        go_wp2
        have RR := (((R1.put 0 (.int .i64 0)).put 1 (.int .i64 0)).put 2 (.int .i64 0)).put 3 (.slice none 0 0)
        have e0 := RR.cell 0; have e1 := RR.cell 1; have e2 := RR.cell 2; have e3 := RR.cell 3
        refine bodyPost_ret (v := .tuple #[.agg #[.int .i64 0, .int .i64 0, .int .i64 0, .slice none 0 0], .bool false]) (by simp [results, Try.results10, go_sem, e0, e1, e2, e3]) rfl ⟨_, [], rfl, pzO, New.nil _, ?_⟩
        exact bel_put (bel_put (bel_put (bel_put hB1 (Nat.le_refl _) _) (Nat.le_refl _) _) (Nat.le_refl _) _) (Nat.le_refl _) _
    · have hI : Ints .u8 w w.heap.size (some ⟨b, off + 3, none⟩) (n - 3) l3 := hT
      clear hT
      have hR0 : tPiece.R w w.heap.size [.int .i64 x0, .int .i64 x1, .int .i64 x2, .slice (some ⟨b, off + 3, none⟩) (n - 3) (c - 3)] (x0, x1, x2, l3) := makePiece (p := (x0, x1, x2, l3)) wf0 wf1 wf2 (ints_slR hI (by omega) (by omega))
      have hz3 : szPiece (x0, x1, x2, l3) ≤ 1048576 := by have := hI.1; show l3.length ≤ 1048576; omega
      by_cases hp : PcOk (x0, x1, x2, l3)
      · have hpr : PrOk l := ⟨by rw [HL.out]; omega, by rw [HI.out]; exact hp⟩
        have HP := Lib.hid (decide_eq_true hp)
        have HD := Lib.hid (decide_eq_true hpr)
        rw [fPR_t hpr, HI.out, HD.out]
        clear hp hpr
        go_enter Try.func10, Try.ntmps10
        go_wp2_with fail
        go_region_held3 (fun w' => w'.cell? ⟨b, off, none⟩ = some (.int .u8 x0) ∧ w'.cell? ⟨b, off + 1, none⟩ = some (.int .u8 x1) ∧ w'.cell? ⟨b, off + 2, none⟩ = some (.int .u8 x2)) (first | (exact kk _ (belx)) | go_keep) (fail)
        go_wp2_with fail
        refine (i_PieceOk (tPiece.reach hR0 ?hB) hz3).mono ?_
        case hB => exact (belx)
        rintro e w1 ⟨rfl, hb1⟩
        rw [HP.out]
        have z1 : w.heap.size + 2 ≤ w1.heap.size := by have h : (World.alloc (World.alloc w _) _).heap.size ≤ w1.heap.size := hb1.size; simpa using h
        have R1 : Box w1 w.heap.size 24 #[.int .i64 0, .int .i64 0, .int .i64 0, .slice none 0 0] := Box.below ((Box.new w 24 #[.int .i64 0, .int .i64 0, .int .i64 0, .slice none 0 0]).alloc _).drew hb1 (by show _ < (World.alloc _ _).heap.size; first | (simp; done) | (simp; omega))
        have P1 : Box w1 (w.heap.size + 1) 24 #[.int .i64 x0, .int .i64 x1, .int .i64 x2, .slice (some ⟨b, off + 3, none⟩) (n - 3) (c - 3)] := Box.below (Box.drew (show Box ((w.alloc (.cells #[.int .i64 0, .int .i64 0, .int .i64 0, .slice none 0 0] 24)).alloc (.cells #[.int .i64 x0, .int .i64 x1, .int .i64 x2, .slice (some ⟨b, off + 3, none⟩) (n - 3) (c - 3)] 24)) (w.heap.size + 1) 24 #[.int .i64 x0, .int .i64 x1, .int .i64 x2, .slice (some ⟨b, off + 3, none⟩) (n - 3) (c - 3)] from by simpa using Box.new (w.alloc (.cells #[.int .i64 0, .int .i64 0, .int .i64 0, .slice none 0 0] 24)) 24 #[.int .i64 x0, .int .i64 x1, .int .i64 x2, .slice (some ⟨b, off + 3, none⟩) (n - 3) (c - 3)])) hb1 (by show _ < (World.alloc _ _).heap.size; first | (simp; done) | (simp; omega))
        have hB1 : Below w.heap.size w w1 := bel_trans (belx) hb1
        have p0 := P1.cell 0; have p1 := P1.cell 1; have p2 := P1.cell 2; have p3 := P1.cell 3
        have r0 := R1.cell 0; have r1 := R1.cell 1; have r2 := R1.cell 2; have r3 := R1.cell 3
        have g0 := R1.frozen 0; have g1 := R1.frozen 1; have g2 := R1.frozen 2; have g3 := R1.frozen 3
        go_wp2_with fail
        refine (i_PcCopy (reach hI hB1) (by omega)).mono ?_
        rintro e w2 ⟨A2, c2, F, rfl, hO, hN, hb2⟩
        have R2 := R1.below hb2 R1.size
        have z2 := hb2.size
        have s0 := R2.cell 0; have s1 := R2.cell 1; have s2 := R2.cell 2; have s3 := R2.cell 3
        have u0 := R2.frozen 0; have u1 := R2.frozen 1; have u2 := R2.frozen 2; have u3 := R2.frozen 3
        go_wp2
        have RR := (((R2.put 0 (.int .i64 x0)).put 1 (.int .i64 x1)).put 2 (.int .i64 x2)).put 3 (.slice A2 l3.length c2)
        have e0 := RR.cell 0; have e1 := RR.cell 1; have e2 := RR.cell 2; have e3 := RR.cell 3
        have hq : w.heap.size < w1.heap.size := by omega
        have u := Ty.far (t := tBy) (Ty.far (t := tBy) (Ty.far (t := tBy) (Ty.far (t := tBy) hO hN (p := ⟨w.heap.size, 0, none⟩) hq (.int .i64 x0)) hN (p := ⟨w.heap.size, 1, none⟩) hq (.int .i64 x1)) hN (p := ⟨w.heap.size, 2, none⟩) hq (.int .i64 x2)) hN (p := ⟨w.heap.size, 3, none⟩) hq (.slice A2 l3.length c2)
        obtain ⟨F2, hF2, e⟩ := makeOPiece (p := (x0, x1, x2, l3)) wf0 wf1 wf2 u
        subst e
        refine bodyPost_ret (v := .tuple #[.agg #[.int .i64 x0, .int .i64 x1, .int .i64 x2, .slice A2 l3.length c2], .bool true]) (by simp [results, Try.results10, go_sem, e0, e1, e2, e3]) rfl ⟨_, F2, rfl, hF2, hN.lower (by omega), ?_⟩
        exact bel_put (bel_put (bel_put (bel_put (bel_trans hB1 hb2) (Nat.le_refl _) _) (Nat.le_refl _) _) (Nat.le_refl _) _) (Nat.le_refl _) _
      · have hpr : ¬ PrOk l := fun x => hp (by have := x.2; rw [HI.out] at this; exact this)
        have HP := Lib.hid (decide_eq_false hp)
        have HD := Lib.hid (decide_eq_false hpr)
        rw [fPR_f hpr, HD.out]
        clear hp hpr
        go_enter Try.func10, Try.ntmps10
        go_wp2_with fail
        go_region_held3 (fun w' => w'.cell? ⟨b, off, none⟩ = some (.int .u8 x0) ∧ w'.cell? ⟨b, off + 1, none⟩ = some (.int .u8 x1) ∧ w'.cell? ⟨b, off + 2, none⟩ = some (.int .u8 x2)) (first | (exact kk _ (belx)) | go_keep) (fail)
        go_wp2_with fail
        refine (i_PieceOk (tPiece.reach hR0 ?hB) hz3).mono ?_
        case hB => exact (belx)
        rintro e w1 ⟨rfl, hb1⟩
        rw [HP.out]
        have z1 : w.heap.size + 2 ≤ w1.heap.size := by have h : (World.alloc (World.alloc w _) _).heap.size ≤ w1.heap.size := hb1.size; simpa using h
        have R1 : Box w1 w.heap.size 24 #[.int .i64 0, .int .i64 0, .int .i64 0, .slice none 0 0] := Box.below ((Box.new w 24 #[.int .i64 0, .int .i64 0, .int .i64 0, .slice none 0 0]).alloc _).drew hb1 (by show _ < (World.alloc _ _).heap.size; first | (simp; done) | (simp; omega))
        have P1 : Box w1 (w.heap.size + 1) 24 #[.int .i64 x0, .int .i64 x1, .int .i64 x2, .slice (some ⟨b, off + 3, none⟩) (n - 3) (c - 3)] := Box.below (Box.drew (show Box ((w.alloc (.cells #[.int .i64 0, .int .i64 0, .int .i64 0, .slice none 0 0] 24)).alloc (.cells #[.int .i64 x0, .int .i64 x1, .int .i64 x2, .slice (some ⟨b, off + 3, none⟩) (n - 3) (c - 3)] 24)) (w.heap.size + 1) 24 #[.int .i64 x0, .int .i64 x1, .int .i64 x2, .slice (some ⟨b, off + 3, none⟩) (n - 3) (c - 3)] from by simpa using Box.new (w.alloc (.cells #[.int .i64 0, .int .i64 0, .int .i64 0, .slice none 0 0] 24)) 24 #[.int .i64 x0, .int .i64 x1, .int .i64 x2, .slice (some ⟨b, off + 3, none⟩) (n - 3) (c - 3)])) hb1 (by show _ < (World.alloc _ _).heap.size; first | (simp; done) | (simp; omega))
        have hB1 : Below w.heap.size w w1 := bel_trans (belx) hb1
        have p0 := P1.cell 0; have p1 := P1.cell 1; have p2 := P1.cell 2; have p3 := P1.cell 3
        have r0 := R1.cell 0; have r1 := R1.cell 1; have r2 := R1.cell 2; have r3 := R1.cell 3
        have g0 := R1.frozen 0; have g1 := R1.frozen 1; have g2 := R1.frozen 2; have g3 := R1.frozen 3
        go_wp2
        have RR := (((R1.put 0 (.int .i64 0)).put 1 (.int .i64 0)).put 2 (.int .i64 0)).put 3 (.slice none 0 0)
        have e0 := RR.cell 0; have e1 := RR.cell 1; have e2 := RR.cell 2; have e3 := RR.cell 3
        refine bodyPost_ret (v := .tuple #[.agg #[.int .i64 0, .int .i64 0, .int .i64 0, .slice none 0 0], .bool false]) (by simp [results, Try.results10, go_sem, e0, e1, e2, e3]) rfl ⟨_, [], rfl, pzO, New.nil _, ?_⟩
        exact bel_put (bel_put (bel_put (bel_put hB1 (Nat.le_refl _) _) (Nat.le_refl _) _) (Nat.le_refl _) _) (Nat.le_refl _) _
end Go.Proofs.Ytaabmaoldhoinaa
