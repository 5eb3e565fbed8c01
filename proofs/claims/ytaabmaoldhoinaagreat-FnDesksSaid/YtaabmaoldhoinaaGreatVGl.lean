/-
  TpK: texts joined.
-/
import Derived.Test.YtaabmaoldhoinaaGreatVGf
import Derived.Test.YtaabmaoldhoinaaGreatVGh
import Derived.Test.YtaabmaoldhoinaaGreatVGi
import Derived.Test.YtaabmaoldhoinaaGreatVGk
namespace Go.Proofs.YtaabmaoldhoinaaGreat
set_option maxRecDepth 100000
set_option linter.unusedVariables false
set_option linter.unusedSimpArgs false
open Go.ChangeShapes Go.WideShapes Go.ChangeAt Go.RowKit
open Fld
set_option maxHeartbeats 2000000 in
theorem i_TakePiece {w : World} {cs ch : List Value} {p : DDesk} {q : DPiece} {x : Int} (h : tDesk.R w w.heap.size cs p) (hz : szDesk p ≤ 1048576) (hq : tPiece.R w w.heap.size ch q) (hzq : szPiece q ≤ 1048576) (hw : (Lit.int .i64 x).wf = true) :
    Calls Tryz.prog 11 #[.agg cs.toArray, .agg ch.toArray, .int .i64 x] w fun e w' => ∃ cs' F1 A c F2, e = .returned (.tuple #[.agg cs'.toArray, .slice A (fTp p q x).2.1.length c, .int .i64 (fTp p q x).2.2]) ∧ tDesk.O w' cs' (fTp p q x).1 F1 ∧ tBy.O w' [.slice A (fTp p q x).2.1.length c] (fTp p q x).2.1 F2 ∧ New w.heap.size (F1 ++ F2) ∧ Below w.heap.size w w' := by
  have hD := h
  have hQ := hq
  obtain ⟨A0, n0, c0, A1, n1, c1, rfl, -⟩ := openDesk hD
  obtain ⟨y0, y1, y2, qd⟩ := q
  obtain ⟨A7, n7, c7, rfl, -⟩ := openPiece hQ
  clear hD hQ
  by_cases hp : DkOk p
  rotate_left
  · have HP := Lib.hid (decide_eq_false hp)
    rw [fTp_f (fun hh => hp hh.1)]
    clear hp
    go_enter Tryz.func11, Tryz.ntmps11
    go_wp2_with fail
    refine (i_DeskOk (tDesk.reach h ?hB) hz).mono ?_
    case hB => exact (belx)
    rintro e w1 ⟨rfl, hb1⟩
    rw [HP.out]
    have Q1 : Box w1 (w.heap.size + 1) 37 #[.int .i64 y0, .int .i64 y1, .int .i64 y2, .slice A7 n7 c7] := Box.below (Box.alloc (by simpa using Box.new (w.alloc (.cells #[.slice A0 n0 c0, .slice A1 n1 c1] 33)) 37 #[.int .i64 y0, .int .i64 y1, .int .i64 y2, .slice A7 n7 c7]) _) hb1 (by first | (simp; done) | (simp; omega))
    have R1 : Box w1 (w.heap.size + 1 + 1) 33 #[.slice none 0 0, .slice none 0 0] := Box.below (by simpa using Box.new ((w.alloc (.cells #[.slice A0 n0 c0, .slice A1 n1 c1] 33)).alloc (.cells #[.int .i64 y0, .int .i64 y1, .int .i64 y2, .slice A7 n7 c7] 37)) 33 #[.slice none 0 0, .slice none 0 0]) hb1 (by simp)
    have hB1 : Below w.heap.size w w1 := bel_trans (belx) hb1
    have q10 := Q1.cell 0; have q11 := Q1.cell 1; have q12 := Q1.cell 2; have q13 := Q1.cell 3; have r10 := R1.cell 0; have r11 := R1.cell 1; have rf0 := R1.frozen 0; have rf1 := R1.frozen 1
    go_wp2
    have RR := (R1.put 0 (.slice none 0 0)).put 1 (.slice none 0 0)
    have e0 := RR.cell 0; have e1 := RR.cell 1
    refine bodyPost_ret (v := .tuple #[.agg #[.slice none 0 0, .slice none 0 0], .slice none 0 0, .int .i64 (-3)]) (by simp [results, Tryz.results11, go_sem, e0, e1]) rfl ⟨[.slice none 0 0, .slice none 0 0], [], none, 0, [], rfl, dkzO, nilB_O, New.nil _, ?_⟩
    exact bel_put (bel_put hB1 (p := ⟨w.heap.size + 1 + 1, 0, none⟩) (by show _ ≤ w.heap.size + 1 + 1; omega) _) (p := ⟨w.heap.size + 1 + 1, 1, none⟩) (by show _ ≤ w.heap.size + 1 + 1; omega) _
  have HP := Lib.hid (decide_eq_true hp)
  by_cases hpc : PcOk (y0, y1, y2, qd)
  rotate_left
  · have HQ := Lib.hid (decide_eq_false hpc)
    rw [fTp_f (fun hh => hpc hh.2.1)]
    clear hpc hp
    go_enter Tryz.func11, Tryz.ntmps11
    go_wp2_with fail
    refine (i_DeskOk (tDesk.reach h ?hB) hz).mono ?_
    case hB => exact (belx)
    rintro e w1 ⟨rfl, hb1⟩
    rw [HP.out]
    have Q1 : Box w1 (w.heap.size + 1) 37 #[.int .i64 y0, .int .i64 y1, .int .i64 y2, .slice A7 n7 c7] := Box.below (Box.alloc (by simpa using Box.new (w.alloc (.cells #[.slice A0 n0 c0, .slice A1 n1 c1] 33)) 37 #[.int .i64 y0, .int .i64 y1, .int .i64 y2, .slice A7 n7 c7]) _) hb1 (by first | (simp; done) | (simp; omega))
    have R1 : Box w1 (w.heap.size + 1 + 1) 33 #[.slice none 0 0, .slice none 0 0] := Box.below (by simpa using Box.new ((w.alloc (.cells #[.slice A0 n0 c0, .slice A1 n1 c1] 33)).alloc (.cells #[.int .i64 y0, .int .i64 y1, .int .i64 y2, .slice A7 n7 c7] 37)) 33 #[.slice none 0 0, .slice none 0 0]) hb1 (by simp)
    have hB1 : Below w.heap.size w w1 := bel_trans (belx) hb1
    have q10 := Q1.cell 0; have q11 := Q1.cell 1; have q12 := Q1.cell 2; have q13 := Q1.cell 3; have r10 := R1.cell 0; have r11 := R1.cell 1; have rf0 := R1.frozen 0; have rf1 := R1.frozen 1
    go_wp2_with fail
    refine (i_PieceOk (tPiece.reach hq hB1) hzq).mono ?_
    rintro e w2 ⟨rfl, hb2⟩
    rw [HQ.out]
    have R2 := R1.below hb2 R1.size
    have hB2 := bel_trans hB1 hb2
    have r20 := R2.cell 0; have r21 := R2.cell 1; have r2f0 := R2.frozen 0; have r2f1 := R2.frozen 1
    go_wp2
    have RR := (R2.put 0 (.slice none 0 0)).put 1 (.slice none 0 0)
    have e0 := RR.cell 0; have e1 := RR.cell 1
    refine bodyPost_ret (v := .tuple #[.agg #[.slice none 0 0, .slice none 0 0], .slice none 0 0, .int .i64 (-3)]) (by simp [results, Tryz.results11, go_sem, e0, e1]) rfl ⟨[.slice none 0 0, .slice none 0 0], [], none, 0, [], rfl, dkzO, nilB_O, New.nil _, ?_⟩
    exact bel_put (bel_put hB2 (p := ⟨w.heap.size + 1 + 1, 0, none⟩) (by show _ ≤ w.heap.size + 1 + 1; omega) _) (p := ⟨w.heap.size + 1 + 1, 1, none⟩) (by show _ ≤ w.heap.size + 1 + 1; omega) _
  have HQ := Lib.hid (decide_eq_true hpc)
  by_cases hx : 0 ≤ x ∧ x ≤ 65535
  rotate_left
  · rw [fTp_f (fun hh => hx hh.2.2)]
    have HX := Lib.hid hx
    clear hpc hp hx
    go_enter Tryz.func11, Tryz.ntmps11
    go_wp2_with fail
    refine (i_DeskOk (tDesk.reach h ?hB) hz).mono ?_
    case hB => exact (belx)
    rintro e w1 ⟨rfl, hb1⟩
    rw [HP.out]
    have Q1 : Box w1 (w.heap.size + 1) 37 #[.int .i64 y0, .int .i64 y1, .int .i64 y2, .slice A7 n7 c7] := Box.below (Box.alloc (by simpa using Box.new (w.alloc (.cells #[.slice A0 n0 c0, .slice A1 n1 c1] 33)) 37 #[.int .i64 y0, .int .i64 y1, .int .i64 y2, .slice A7 n7 c7]) _) hb1 (by first | (simp; done) | (simp; omega))
    have R1 : Box w1 (w.heap.size + 1 + 1) 33 #[.slice none 0 0, .slice none 0 0] := Box.below (by simpa using Box.new ((w.alloc (.cells #[.slice A0 n0 c0, .slice A1 n1 c1] 33)).alloc (.cells #[.int .i64 y0, .int .i64 y1, .int .i64 y2, .slice A7 n7 c7] 37)) 33 #[.slice none 0 0, .slice none 0 0]) hb1 (by simp)
    have hB1 : Below w.heap.size w w1 := bel_trans (belx) hb1
    have q10 := Q1.cell 0; have q11 := Q1.cell 1; have q12 := Q1.cell 2; have q13 := Q1.cell 3; have r10 := R1.cell 0; have r11 := R1.cell 1; have rf0 := R1.frozen 0; have rf1 := R1.frozen 1
    go_wp2_with fail
    refine (i_PieceOk (tPiece.reach hq hB1) hzq).mono ?_
    rintro e w2 ⟨rfl, hb2⟩
    rw [HQ.out]
    have R2 := R1.below hb2 R1.size
    have hB2 := bel_trans hB1 hb2
    have r20 := R2.cell 0; have r21 := R2.cell 1; have r2f0 := R2.frozen 0; have r2f1 := R2.frozen 1
    go_wp2_with fail
    refine (i4_isDue_f x w2 HX.out).mono ?_
    rintro e w' ⟨rfl, rfl⟩
    go_wp2
    have RR := (R2.put 0 (.slice none 0 0)).put 1 (.slice none 0 0)
    have e0 := RR.cell 0; have e1 := RR.cell 1
    refine bodyPost_ret (v := .tuple #[.agg #[.slice none 0 0, .slice none 0 0], .slice none 0 0, .int .i64 (-3)]) (by simp [results, Tryz.results11, go_sem, e0, e1]) rfl ⟨[.slice none 0 0, .slice none 0 0], [], none, 0, [], rfl, dkzO, nilB_O, New.nil _, ?_⟩
    exact bel_put (bel_put hB2 (p := ⟨w.heap.size + 1 + 1, 0, none⟩) (by show _ ≤ w.heap.size + 1 + 1; omega) _) (p := ⟨w.heap.size + 1 + 1, 1, none⟩) (by show _ ≤ w.heap.size + 1 + 1; omega) _
  rw [fTp_t ⟨hp, hpc, hx⟩]
  by_cases hm : y0 ∈ p.2
  · rw [tkT_old (q := (y0, y1, y2, qd)) (.inl hm)]
    exact i_tk_od h hq hp hpc hx hm
  have hpw : p.1.Pairwise (fun a b => a.1 < b.1) := asc_pairM (f := wId) hp.2.2.2.1
  by_cases ht : ∃ a ∈ p.1, a.1 = y0
  · obtain ⟨a, ha, e⟩ := ht
    have hN := tkNew_there (q := (y0, y1, y2, qd)) (due := x) hp ha e
    have hO := tkOld_there (q := (y0, y1, y2, qd)) hp ha e
    obtain ⟨a0, a1, a2, ag⟩ := a
    obtain rfl : a0 = y0 := e
    by_cases h1 : a1 = y2
    · obtain rfl : y2 = a1 := h1.symm
      by_cases hin : ∃ p ∈ ag, p.2.1 = y1
      · rw [tkT_old (hO.2 (.inr hin))]
        exact i_tk_op h hq hp hpc hx ha hin
      · have hno := fun h => hin ((hO.1 h).resolve_left (fun h => h rfl))
        have hno2 : ∀ p ∈ ag, p.2.1 ≠ y1 := fun p hp h => hin ⟨p, hp, h⟩
        by_cases hd : ((insB pAt (a0, y1, y2, qd) ag).length : Int) = y2
        · rw [tkT_done hno (show TkDone p (a0, y1, y2, qd) x by unfold TkDone; rw [hN]; exact hd), hN]
          exact i_tk_td h hq hp hpc hx ha hno2 hd
        · have hT := tkT_put hno (show ¬ TkDone p (a0, y1, y2, qd) x by unfold TkDone; rw [hN]; exact hd) (fun h => h.1 _ ha rfl)
          rw [hN] at hT
          have hok := tkT_ok hp hpc hx
          rw [hT] at hok ⊢
          exact i_tk_tp h hq hp hpc hx ha hno2 hd hok
    · rw [tkT_old (hO.2 (.inl h1))]
      exact i_tk_ot h hq hp hpc hx ha h1
  · have hne : ∀ a ∈ p.1, a.1 ≠ y0 := fun a ha e => ht ⟨a, ha, e⟩
    have hN := tkNew_new (q := (y0, y1, y2, qd)) (due := x) hne
    have hno : ¬ TkOld p (y0, y1, y2, qd) := fun h => hm ((tkOld_new (q := (y0, y1, y2, qd)) hne).1 h)
    have hl : p.1.length = n0 := by obtain ⟨_, _, _, _, _, _, e_, -, -, e0, -⟩ := openDesk h; injection e_ with e1 _; injection e1 with _ e2 _; omega
    by_cases hd : ((insB pAt (y0, y1, y2, qd) ([] : List DPiece)).length : Int) = y2
    · rw [tkT_done hno (show TkDone p (y0, y1, y2, qd) x by unfold TkDone; rw [hN]; exact hd), hN]
      exact i_tk_nd h hq hp hpc hx hne hm hd
    · have hnd : ¬ TkDone p (y0, y1, y2, qd) x := by unfold TkDone; rw [hN]; exact hd
      by_cases hf : 6 ≤ n0
      · rw [tkT_full hno hnd ⟨hne, by omega⟩]
        exact i_tk_nf h hq hp hpc hx hne hm hd hf
      · have hT := tkT_put hno hnd (fun h => hf (by have := h.2; omega))
        rw [hN] at hT
        have hok := tkT_ok hp hpc hx
        rw [hT] at hok ⊢
        exact i_tk_np h hq hp hpc hx hne hm hd hf hok
end Go.Proofs.YtaabmaoldhoinaaGreat
