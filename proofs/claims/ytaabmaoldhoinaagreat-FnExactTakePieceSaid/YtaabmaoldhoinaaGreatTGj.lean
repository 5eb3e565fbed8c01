/-
  TpU, TpK: texts joined.
-/
import Derived.Test.YtaabmaoldhoinaaGreatTGc
import Derived.Test.YtaabmaoldhoinaaGreatTGe
import Derived.Test.YtaabmaoldhoinaaGreatTGg
import Derived.Test.YtaabmaoldhoinaaGreatTGh
import Derived.Test.YtaabmaoldhoinaaGreatTGi
import Derived.Test.YtaabmaoldhoinaaGreatTMPDeskT
import Derived.Test.YtaabmaoldhoinaaGreatTX1
namespace Go.Proofs.YtaabmaoldhoinaaGreat
set_option maxRecDepth 100000
set_option linter.unusedVariables false
set_option linter.unusedSimpArgs false
open Go.ChangeShapes Go.WideShapes Go.ChangeAt Go.RowKit
open Fld
theorem tkT_old {d : DDesk} {q : DPiece} {x : Int} (h : TkOld d q) : tkT d q x = (d, [], -1) := if_pos h
theorem tkT_done {d : DDesk} {q : DPiece} {x : Int} (h : ¬ TkOld d q) (h1 : TkDone d q x) : tkT d q x = ((d.1.filter fun a => decide (a.1 ≠ q.1), insB id q.1 d.2), tkData (tkNew d q x).2.2.2, 1) := by
  unfold tkT; rw [if_neg h, if_pos h1]
theorem tkT_full {d : DDesk} {q : DPiece} {x : Int} (h : ¬ TkOld d q) (h1 : ¬ TkDone d q x) (h2 : TkFull d q) : tkT d q x = (d, [], -2) := by
  unfold tkT; rw [if_neg h, if_neg h1, if_pos h2]
theorem tkT_put {d : DDesk} {q : DPiece} {x : Int} (h : ¬ TkOld d q) (h1 : ¬ TkDone d q x) (h2 : ¬ TkFull d q) : tkT d q x = ((insB wId (tkNew d q x) d.1, d.2), [], 0) := by
  unfold tkT; rw [if_neg h, if_neg h1, if_neg h2]
theorem insW_parts {l : List DWhole} {W : DWhole} {y : Int} (hW : W.1 = y) : insB wId W l = (l.filter fun a => decide (a.1 < y)) ++ W :: l.filter fun a => decide (y < a.1) := by
  subst hW; rfl
theorem s_take {w : World} {kb n0 c0 n1 c1 n7 c7 : Nat} {A0 A1 A7 : Option Addr} {y0 y1 y2 x : Int} {qd : List Int} {p : DDesk} (h0 : (RX kb (tWhX kb)).R w w.heap.size [.slice A0 n0 c0] p.1) (h1 : (XT kb tIs).R w w.heap.size [.slice A1 n1 c1] p.2) (hq : (tPcX kb).R w w.heap.size [.int .i64 y0, .int .i64 y1, .int .i64 y2, .slice A7 n7 c7] (y0, y1, y2, qd)) (hp : DkOk p) (hpc : PcOk (y0, y1, y2, qd)) (hx : 0 ≤ x ∧ x ≤ 65535) (hkb : kb ≤ w.heap.size) :
    Calls Tryz.prog 39 #[.agg #[.slice A0 n0 c0, .slice A1 n1 c1], .agg #[.int .i64 y0, .int .i64 y1, .int .i64 y2, .slice A7 n7 c7], .int .i64 x] w fun e w' => ∃ v0 v1 vb, e = .returned (.tuple #[.agg #[v0, v1], vb, .int .i64 (tkT p (y0, y1, y2, qd) x).2.2]) ∧ (RX kb (tWhX kb)).R w' w'.heap.size [v0] (tkT p (y0, y1, y2, qd) x).1.1 ∧ (XT kb tIs).R w' w'.heap.size [v1] (tkT p (y0, y1, y2, qd) x).1.2 ∧ (XT kb tBy).R w' w'.heap.size [vb] (tkT p (y0, y1, y2, qd) x).2.1 ∧ Below w.heap.size w w' := by
  by_cases hm : y0 ∈ p.2
  · rw [tkT_old (q := (y0, y1, y2, qd)) (.inl hm)]
    exact s_tk_done h0 h1 hq hp hpc hx hkb hm
  have hpw : p.1.Pairwise (fun a b => a.1 < b.1) := asc_pairM (f := wId) hp.2.2.2.1
  have hl := (rx_len h0).1
  obtain ⟨i0, hi, hlo, hhi⟩ := ids_at hpw y0
  have F1 := filt_take hlo hhi
  have hins : insB id y0 p.2 = insI y0 p.2 := (insI_insB hp.2.2.1 hm).symm
  by_cases ht : ∃ a ∈ p.1, a.1 = y0
  · obtain ⟨a, ha, e⟩ := ht
    have had : a ∈ p.1.drop i0 := by
      have h' : a ∈ p.1.take i0 ++ p.1.drop i0 := by rw [List.take_append_drop]; exact ha
      rcases List.mem_append.1 h' with h' | h'
      · have := hlo a h'; omega
      · exact h'
    obtain ⟨k, hk, hka⟩ := List.getElem_of_mem had
    rw [List.length_drop] at hk
    have hlt : i0 < p.1.length := by omega
    have hb : p.1[i0]? = some p.1[i0] := List.getElem?_eq_getElem hlt
    have hbb : ¬ (p.1[i0]).1 < y0 := hhi _ (mem_dropW hb)
    have hba : p.1[i0] = a := by
      refine asc_one hp.2.2.2.1 (List.getElem_mem _) ha ?_
      rw [List.getElem_drop] at hka
      by_cases hk0 : k = 0
      · subst hk0; simp only [Nat.add_zero] at hka; rw [hka]
      · have := List.pairwise_iff_getElem.1 hpw i0 (i0 + k) hlt (by omega) (by omega)
        rw [hka] at this; omega
    rw [hba] at hb
    have hF2 : ∀ b ∈ p.1.drop (i0 + 1), y0 < b.1 := by
      intro b hb'
      obtain ⟨j, hj, rfl⟩ := List.getElem_of_mem hb'
      rw [List.length_drop] at hj
      rw [List.getElem_drop]
      have := List.pairwise_iff_getElem.1 hpw i0 (i0 + 1 + j) hlt (by omega) (by omega)
      rw [hba] at this; omega
    have F2 : (p.1.filter fun a => decide (y0 < a.1)) = p.1.drop (i0 + 1) := filt_drop (fun b hb' => by
      rw [take_snoc hb] at hb'
      rcases List.mem_append.1 hb' with h' | h'
      · have := hlo b h'; omega
      · rw [List.mem_singleton.1 h']; omega) hF2
    have F3 : (p.1.filter fun a => decide (a.1 ≠ y0)) = p.1.take i0 ++ p.1.drop (i0 + 1) := by rw [filt_ne hpw, F1, F2]
    have hN := tkNew_there (q := (y0, y1, y2, qd)) (due := x) hp ha e
    have hO := tkOld_there (q := (y0, y1, y2, qd)) hp ha e
    obtain ⟨a0, a1, a2, ag⟩ := a
    obtain rfl : a0 = y0 := e
    by_cases hold : a1 ≠ y2 ∨ ∃ p ∈ ag, p.2.1 = y1
    · rw [tkT_old (hO.2 hold)]
      exact s_tk_T_old h0 h1 hq hp hpc hx hkb (by omega) hlo hhi hm (by omega) hb hold
    · have hno := fun h => hold (hO.1 h)
      have hok : a1 = y2 := Classical.byContradiction fun h => hold (.inl h)
      have hok2 : ∀ p ∈ ag, p.2.1 ≠ y1 := fun p hp h => hold (.inr ⟨p, hp, h⟩)
      obtain ⟨R, hR⟩ : ∃ R, tkT p (a0, y1, y2, qd) x = R := ⟨_, rfl⟩
      rw [hR]
      refine s_tk_T_all (R := R) h0 h1 hq hp hpc hx hkb (by omega) hlo hhi hm (by omega) hb hok hok2 (fun hdn => ?_) (fun hdn => ?_)
      · have hT := tkT_done hno (show TkDone p (a0, y1, y2, qd) x by unfold TkDone; rw [hN]; exact hdn)
        rw [hN, F3, hins] at hT
        exact hR.symm.trans hT
      · have hT := tkT_put hno (show ¬ TkDone p (a0, y1, y2, qd) x by unfold TkDone; rw [hN]; exact hdn) (fun h => h.1 _ ha rfl)
        rw [hN, insW_parts (y := a0) rfl, F1, F2] at hT
        exact hR.symm.trans hT
  · have hne : ∀ a ∈ p.1, a.1 ≠ y0 := fun a ha e => ht ⟨a, ha, e⟩
    have hhi2 : ∀ a ∈ p.1.drop i0, y0 < a.1 := fun a ha => by have h1 := hhi a ha; have h2 := hne a (List.mem_of_mem_drop ha); omega
    have F2 : (p.1.filter fun a => decide (y0 < a.1)) = p.1.drop i0 := filt_drop (fun b hb' => by have := hlo b hb'; omega) hhi2
    have F3 : (p.1.filter fun a => decide (a.1 ≠ y0)) = p.1.take i0 ++ p.1.drop i0 := by rw [filt_ne hpw, F1, F2]
    have hN := tkNew_new (q := (y0, y1, y2, qd)) (due := x) hne
    have hno : ¬ TkOld p (y0, y1, y2, qd) := fun h => hm ((tkOld_new (q := (y0, y1, y2, qd)) hne).1 h)
    have hI : insB pAt (y0, y1, y2, qd) [] = [(y0, y1, y2, qd)] := rfl
    obtain ⟨R, hR⟩ : ∃ R, tkT p (y0, y1, y2, qd) x = R := ⟨_, rfl⟩
    rw [hR]
    by_cases hE : i0 = n0
    · have hd : p.1.drop i0 = [] := List.drop_eq_nil_of_le (by omega)
      refine s_tk_E_all (R := R) h0 h1 hq hp hpc hx hkb (by omega) hlo hhi2 hm hE (fun hdn => ?_) (fun hdn hf => ?_) (fun hdn hf => ?_)
      · have hT := tkT_done hno (show TkDone p (y0, y1, y2, qd) x by unfold TkDone; rw [hN]; exact hdn)
        rw [hN, F3, hins, hd, List.append_nil] at hT
        exact hR.symm.trans hT
      · exact hR.symm.trans (tkT_full hno (by unfold TkDone; rw [hN]; exact hdn) ⟨hne, by omega⟩)
      · have hT := tkT_put hno (show ¬ TkDone p (y0, y1, y2, qd) x by unfold TkDone; rw [hN]; exact hdn) (fun h => hf (by have := h.2; omega))
        rw [hN, insW_parts (y := y0) rfl, F1, F2, hd] at hT
        exact hR.symm.trans hT
    · have hlt : i0 < n0 := by omega
      refine s_tk_M_all (R := R) h0 h1 hq hp hpc hx hkb (by omega) hlo hhi2 hm hlt (fun hdn => ?_) (fun hdn hf => ?_) (fun hdn hf => ?_)
      · have hT := tkT_done hno (show TkDone p (y0, y1, y2, qd) x by unfold TkDone; rw [hN]; exact hdn)
        rw [hN, F3, hins] at hT
        exact hR.symm.trans hT
      · exact hR.symm.trans (tkT_full hno (by unfold TkDone; rw [hN]; exact hdn) ⟨hne, by omega⟩)
      · have hT := tkT_put hno (show ¬ TkDone p (y0, y1, y2, qd) x by unfold TkDone; rw [hN]; exact hdn) (fun h => hf (by have := h.2; omega))
        rw [hN, insW_parts (y := y0) rfl, F1, F2] at hT
        exact hR.symm.trans hT
theorem tkT_bytes {d : DDesk} {q : DPiece} {x : Int} (hd : DkOk d) (hq : PcOk q) (hx : 0 ≤ x ∧ x ≤ 65535) : (tkT d q x).2.1.length ≤ 160 := by
  unfold tkT
  by_cases ho : TkOld d q
  · rw [if_pos ho]; simp
  rw [if_neg ho]
  obtain ⟨hM, -⟩ := tkNew_ok hd hq hx ho
  by_cases hdn : TkDone d q x
  · rw [if_pos hdn]
    have h1 := tkData_len (g := (tkNew d q x).2.2.2) (fun p hp => (hM.2.2.1 p hp).1)
    have h2 := (tkNew_len hM).1
    show (tkData _).length ≤ 160
    omega
  rw [if_neg hdn]
  split <;> simp
theorem fTp_sz {d : DDesk} {q : DPiece} {x : Int} : szDesk (fTp d q x).1 ≤ 4096 ∧ (fTp d q x).2.1.length ≤ 160 := by
  unfold fTp
  by_cases h : TkIn d q x
  · rw [if_pos h]
    exact ⟨(dkOk_sz (tkT_ok h.1 h.2.1 h.2.2)).1, tkT_bytes h.1 h.2.1 h.2.2⟩
  · rw [if_neg h]
    exact ⟨by show szDesk dkZ ≤ 4096; simp [szDesk, dkZ, rsz, rsum], by simp⟩
set_option maxHeartbeats 2000000 in
theorem s_TakePiece {w : World} {cs ch : List Value} {p : DDesk} {q : DPiece} {x : Int} (h : tDesk.R w w.heap.size cs p) (hz : szDesk p ≤ 1048576) (hq : tPiece.R w w.heap.size ch q) (hzq : szPiece q ≤ 1048576) (hw : (Lit.int .i64 x).wf = true) :
    Calls Tryz.prog 8 #[.agg cs.toArray, .agg ch.toArray, .int .i64 x] w fun e w' => ∃ cs' F1 A c F2, e = .returned (.tuple #[.agg cs'.toArray, .slice A (fTp p q x).2.1.length c, .int .i64 (fTp p q x).2.2]) ∧ tDesk.O w' cs' (fTp p q x).1 F1 ∧ tBy.O w' [.slice A (fTp p q x).2.1.length c] (fTp p q x).2.1 F2 ∧ New w.heap.size (F1 ++ F2) ∧ Below w.heap.size w w' := by
  have hD := h
  have hQ := hq
  obtain ⟨A0, n0, c0, A1, n1, c1, rfl, -⟩ := openDesk hD
  obtain ⟨y0, y1, y2, qd⟩ := q
  obtain ⟨A7, n7, c7, rfl, -⟩ := openPiece hQ
  clear hD hQ
  by_cases hp : DkOk p
  rotate_left
  · have HP := Lib.hid (decide_eq_false hp)
    rw [fTp_f (fun hh => hp hh.1)]
    clear hp
    go_enter Tryz.func8, Tryz.ntmps8
    go_wp2_with fail
    refine (s_DeskOk (tDesk.reach h ?hB) hz).mono ?_
    case hB => exact (belx)
    rintro e w1 ⟨rfl, hb1⟩
    rw [HP.out]
    have P1 : Box w1 w.heap.size 33 #[.slice A0 n0 c0, .slice A1 n1 c1] := Box.below (((Box.new w _ _).alloc _).alloc _) hb1 (by simp; omega)
    have Q1 : Box w1 (w.heap.size + 1) 37 #[.int .i64 y0, .int .i64 y1, .int .i64 y2, .slice A7 n7 c7] := Box.below (Box.alloc (by simpa using Box.new (w.alloc (.cells #[.slice A0 n0 c0, .slice A1 n1 c1] 33)) 37 #[.int .i64 y0, .int .i64 y1, .int .i64 y2, .slice A7 n7 c7]) _) hb1 (by first | (simp; done) | (simp; omega))
    have R1 : Box w1 (w.heap.size + 1 + 1) 33 #[.slice none 0 0, .slice none 0 0] := Box.below (by simpa using Box.new ((w.alloc (.cells #[.slice A0 n0 c0, .slice A1 n1 c1] 33)).alloc (.cells #[.int .i64 y0, .int .i64 y1, .int .i64 y2, .slice A7 n7 c7] 37)) 33 #[.slice none 0 0, .slice none 0 0]) hb1 (by simp)
    have hB1 : Below w.heap.size w w1 := bel_trans (belx) hb1
    have p10 := P1.cell 0; have p11 := P1.cell 1; have q10 := Q1.cell 0; have q11 := Q1.cell 1; have q12 := Q1.cell 2; have q13 := Q1.cell 3; have r10 := R1.cell 0; have r11 := R1.cell 1; have rf0 := R1.frozen 0; have rf1 := R1.frozen 1
    go_wp2
    have RR := (R1.put 0 (.slice none 0 0)).put 1 (.slice none 0 0)
    have e0 := RR.cell 0; have e1 := RR.cell 1
    refine bodyPost_ret (v := .tuple #[.agg #[.slice none 0 0, .slice none 0 0], .slice none 0 0, .int .i64 (-3)]) (by simp [results, Tryz.results8, go_sem, e0, e1]) rfl ⟨[.slice none 0 0, .slice none 0 0], [], none, 0, [], rfl, dkzO, .inl ⟨none, 0, rfl, by omega, rfl, rfl⟩, New.nil _, ?_⟩
    exact bel_put (bel_put hB1 (p := ⟨w.heap.size + 1 + 1, 0, none⟩) (by show _ ≤ w.heap.size + 1 + 1; omega) _) (p := ⟨w.heap.size + 1 + 1, 1, none⟩) (by show _ ≤ w.heap.size + 1 + 1; omega) _
  have HP := Lib.hid (decide_eq_true hp)
  by_cases hpc : PcOk (y0, y1, y2, qd)
  rotate_left
  · have HQ := Lib.hid (decide_eq_false hpc)
    rw [fTp_f (fun hh => hpc hh.2.1)]
    clear hpc hp
    go_enter Tryz.func8, Tryz.ntmps8
    go_wp2_with fail
    refine (s_DeskOk (tDesk.reach h ?hB) hz).mono ?_
    case hB => exact (belx)
    rintro e w1 ⟨rfl, hb1⟩
    rw [HP.out]
    have P1 : Box w1 w.heap.size 33 #[.slice A0 n0 c0, .slice A1 n1 c1] := Box.below (((Box.new w _ _).alloc _).alloc _) hb1 (by simp; omega)
    have Q1 : Box w1 (w.heap.size + 1) 37 #[.int .i64 y0, .int .i64 y1, .int .i64 y2, .slice A7 n7 c7] := Box.below (Box.alloc (by simpa using Box.new (w.alloc (.cells #[.slice A0 n0 c0, .slice A1 n1 c1] 33)) 37 #[.int .i64 y0, .int .i64 y1, .int .i64 y2, .slice A7 n7 c7]) _) hb1 (by first | (simp; done) | (simp; omega))
    have R1 : Box w1 (w.heap.size + 1 + 1) 33 #[.slice none 0 0, .slice none 0 0] := Box.below (by simpa using Box.new ((w.alloc (.cells #[.slice A0 n0 c0, .slice A1 n1 c1] 33)).alloc (.cells #[.int .i64 y0, .int .i64 y1, .int .i64 y2, .slice A7 n7 c7] 37)) 33 #[.slice none 0 0, .slice none 0 0]) hb1 (by simp)
    have hB1 : Below w.heap.size w w1 := bel_trans (belx) hb1
    have p10 := P1.cell 0; have p11 := P1.cell 1; have q10 := Q1.cell 0; have q11 := Q1.cell 1; have q12 := Q1.cell 2; have q13 := Q1.cell 3; have r10 := R1.cell 0; have r11 := R1.cell 1; have rf0 := R1.frozen 0; have rf1 := R1.frozen 1
    go_wp2_with fail
    refine (s_PieceOk (tPiece.reach hq hB1) hzq).mono ?_
    rintro e w2 ⟨rfl, hb2⟩
    rw [HQ.out]
    have P2 := P1.below hb2 P1.size
    have Q2 := Q1.below hb2 Q1.size
    have R2 := R1.below hb2 R1.size
    have hB2 := bel_trans hB1 hb2
    have p20 := P2.cell 0; have p21 := P2.cell 1; have q20 := Q2.cell 0; have q21 := Q2.cell 1; have q22 := Q2.cell 2; have q23 := Q2.cell 3; have r20 := R2.cell 0; have r21 := R2.cell 1; have r2f0 := R2.frozen 0; have r2f1 := R2.frozen 1
    go_wp2
    have RR := (R2.put 0 (.slice none 0 0)).put 1 (.slice none 0 0)
    have e0 := RR.cell 0; have e1 := RR.cell 1
    refine bodyPost_ret (v := .tuple #[.agg #[.slice none 0 0, .slice none 0 0], .slice none 0 0, .int .i64 (-3)]) (by simp [results, Tryz.results8, go_sem, e0, e1]) rfl ⟨[.slice none 0 0, .slice none 0 0], [], none, 0, [], rfl, dkzO, .inl ⟨none, 0, rfl, by omega, rfl, rfl⟩, New.nil _, ?_⟩
    exact bel_put (bel_put hB2 (p := ⟨w.heap.size + 1 + 1, 0, none⟩) (by show _ ≤ w.heap.size + 1 + 1; omega) _) (p := ⟨w.heap.size + 1 + 1, 1, none⟩) (by show _ ≤ w.heap.size + 1 + 1; omega) _
  have HQ := Lib.hid (decide_eq_true hpc)
  by_cases hx0 : x < 0
  · rw [fTp_f (fun hh => by have := hh.2.2; omega)]
    clear hpc hp
    go_enter Tryz.func8, Tryz.ntmps8
    go_wp2_with fail
    refine (s_DeskOk (tDesk.reach h ?hB) hz).mono ?_
    case hB => exact (belx)
    rintro e w1 ⟨rfl, hb1⟩
    rw [HP.out]
    have P1 : Box w1 w.heap.size 33 #[.slice A0 n0 c0, .slice A1 n1 c1] := Box.below (((Box.new w _ _).alloc _).alloc _) hb1 (by simp; omega)
    have Q1 : Box w1 (w.heap.size + 1) 37 #[.int .i64 y0, .int .i64 y1, .int .i64 y2, .slice A7 n7 c7] := Box.below (Box.alloc (by simpa using Box.new (w.alloc (.cells #[.slice A0 n0 c0, .slice A1 n1 c1] 33)) 37 #[.int .i64 y0, .int .i64 y1, .int .i64 y2, .slice A7 n7 c7]) _) hb1 (by first | (simp; done) | (simp; omega))
    have R1 : Box w1 (w.heap.size + 1 + 1) 33 #[.slice none 0 0, .slice none 0 0] := Box.below (by simpa using Box.new ((w.alloc (.cells #[.slice A0 n0 c0, .slice A1 n1 c1] 33)).alloc (.cells #[.int .i64 y0, .int .i64 y1, .int .i64 y2, .slice A7 n7 c7] 37)) 33 #[.slice none 0 0, .slice none 0 0]) hb1 (by simp)
    have hB1 : Below w.heap.size w w1 := bel_trans (belx) hb1
    have p10 := P1.cell 0; have p11 := P1.cell 1; have q10 := Q1.cell 0; have q11 := Q1.cell 1; have q12 := Q1.cell 2; have q13 := Q1.cell 3; have r10 := R1.cell 0; have r11 := R1.cell 1; have rf0 := R1.frozen 0; have rf1 := R1.frozen 1
    go_wp2_with fail
    refine (s_PieceOk (tPiece.reach hq hB1) hzq).mono ?_
    rintro e w2 ⟨rfl, hb2⟩
    rw [HQ.out]
    have P2 := P1.below hb2 P1.size
    have Q2 := Q1.below hb2 Q1.size
    have R2 := R1.below hb2 R1.size
    have hB2 := bel_trans hB1 hb2
    have p20 := P2.cell 0; have p21 := P2.cell 1; have q20 := Q2.cell 0; have q21 := Q2.cell 1; have q22 := Q2.cell 2; have q23 := Q2.cell 3; have r20 := R2.cell 0; have r21 := R2.cell 1; have r2f0 := R2.frozen 0; have r2f1 := R2.frozen 1
    go_wp2
    have RR := (R2.put 0 (.slice none 0 0)).put 1 (.slice none 0 0)
    have e0 := RR.cell 0; have e1 := RR.cell 1
    refine bodyPost_ret (v := .tuple #[.agg #[.slice none 0 0, .slice none 0 0], .slice none 0 0, .int .i64 (-3)]) (by simp [results, Tryz.results8, go_sem, e0, e1]) rfl ⟨[.slice none 0 0, .slice none 0 0], [], none, 0, [], rfl, dkzO, .inl ⟨none, 0, rfl, by omega, rfl, rfl⟩, New.nil _, ?_⟩
    exact bel_put (bel_put hB2 (p := ⟨w.heap.size + 1 + 1, 0, none⟩) (by show _ ≤ w.heap.size + 1 + 1; omega) _) (p := ⟨w.heap.size + 1 + 1, 1, none⟩) (by show _ ≤ w.heap.size + 1 + 1; omega) _
  by_cases hx1 : 65535 < x
  · rw [fTp_f (fun hh => by have := hh.2.2; omega)]
    clear hpc hp
    go_enter Tryz.func8, Tryz.ntmps8
    go_wp2_with fail
    refine (s_DeskOk (tDesk.reach h ?hB) hz).mono ?_
    case hB => exact (belx)
    rintro e w1 ⟨rfl, hb1⟩
    rw [HP.out]
    have P1 : Box w1 w.heap.size 33 #[.slice A0 n0 c0, .slice A1 n1 c1] := Box.below (((Box.new w _ _).alloc _).alloc _) hb1 (by simp; omega)
    have Q1 : Box w1 (w.heap.size + 1) 37 #[.int .i64 y0, .int .i64 y1, .int .i64 y2, .slice A7 n7 c7] := Box.below (Box.alloc (by simpa using Box.new (w.alloc (.cells #[.slice A0 n0 c0, .slice A1 n1 c1] 33)) 37 #[.int .i64 y0, .int .i64 y1, .int .i64 y2, .slice A7 n7 c7]) _) hb1 (by first | (simp; done) | (simp; omega))
    have R1 : Box w1 (w.heap.size + 1 + 1) 33 #[.slice none 0 0, .slice none 0 0] := Box.below (by simpa using Box.new ((w.alloc (.cells #[.slice A0 n0 c0, .slice A1 n1 c1] 33)).alloc (.cells #[.int .i64 y0, .int .i64 y1, .int .i64 y2, .slice A7 n7 c7] 37)) 33 #[.slice none 0 0, .slice none 0 0]) hb1 (by simp)
    have hB1 : Below w.heap.size w w1 := bel_trans (belx) hb1
    have p10 := P1.cell 0; have p11 := P1.cell 1; have q10 := Q1.cell 0; have q11 := Q1.cell 1; have q12 := Q1.cell 2; have q13 := Q1.cell 3; have r10 := R1.cell 0; have r11 := R1.cell 1; have rf0 := R1.frozen 0; have rf1 := R1.frozen 1
    go_wp2_with fail
    refine (s_PieceOk (tPiece.reach hq hB1) hzq).mono ?_
    rintro e w2 ⟨rfl, hb2⟩
    rw [HQ.out]
    have P2 := P1.below hb2 P1.size
    have Q2 := Q1.below hb2 Q1.size
    have R2 := R1.below hb2 R1.size
    have hB2 := bel_trans hB1 hb2
    have p20 := P2.cell 0; have p21 := P2.cell 1; have q20 := Q2.cell 0; have q21 := Q2.cell 1; have q22 := Q2.cell 2; have q23 := Q2.cell 3; have r20 := R2.cell 0; have r21 := R2.cell 1; have r2f0 := R2.frozen 0; have r2f1 := R2.frozen 1
    go_wp2
    have RR := (R2.put 0 (.slice none 0 0)).put 1 (.slice none 0 0)
    have e0 := RR.cell 0; have e1 := RR.cell 1
    refine bodyPost_ret (v := .tuple #[.agg #[.slice none 0 0, .slice none 0 0], .slice none 0 0, .int .i64 (-3)]) (by simp [results, Tryz.results8, go_sem, e0, e1]) rfl ⟨[.slice none 0 0, .slice none 0 0], [], none, 0, [], rfl, dkzO, .inl ⟨none, 0, rfl, by omega, rfl, rfl⟩, New.nil _, ?_⟩
    exact bel_put (bel_put hB2 (p := ⟨w.heap.size + 1 + 1, 0, none⟩) (by show _ ≤ w.heap.size + 1 + 1; omega) _) (p := ⟨w.heap.size + 1 + 1, 1, none⟩) (by show _ ≤ w.heap.size + 1 + 1; omega) _
  have hdue : 0 ≤ x ∧ x ≤ 65535 := ⟨by omega, by omega⟩
  rw [fTp_t ⟨hp, hpc, hdue⟩]
  have HOK := Lib.hid (tkT_ok hp hpc hdue)
  have HBY := Lib.hid (tkT_bytes hp hpc hdue)
  have HT := Lib.hid (fun (w2 : World) (hB2 : Below w.heap.size w w2) => s_take (kb := 0) (w := w2) (A0 := A0) (n0 := n0) (c0 := c0) (A1 := A1) (n1 := n1) (c1 := c1) (A7 := A7) (n7 := n7) (c7 := c7) (p := p) (x := x) (openDkX (dkX_zero (tDesk.reach h hB2)) |> fun ⟨a, b, c, d, e_, f, e1, _, h0, _, h1⟩ => by injection e1 with e1 e2; injection e2 with e2 _; injection e1 with i1 i2 i3; injection e2 with j1 j2 j3; subst i1 i2 i3 j1 j2 j3; exact h0) (openDkX (dkX_zero (tDesk.reach h hB2)) |> fun ⟨a, b, c, d, e_, f, e1, _, h0, _, h1⟩ => by injection e1 with e1 e2; injection e2 with e2 _; injection e1 with i1 i2 i3; injection e2 with j1 j2 j3; subst i1 i2 i3 j1 j2 j3; exact h1) (xt_zero (tPiece.reach hq hB2)) hp hpc hdue (Nat.zero_le _))
  obtain ⟨r, hr⟩ : ∃ r, tkT p (y0, y1, y2, qd) x = r := ⟨_, rfl⟩
  rw [hr] at HOK HBY HT ⊢
  clear hp hpc hr
  obtain ⟨⟨r1, r2⟩, rb, rc⟩ := r
  go_enter Tryz.func8, Tryz.ntmps8
  go_wp2_with fail
  refine (s_DeskOk (tDesk.reach h ?hB) hz).mono ?_
  case hB => exact (belx)
  rintro e w1 ⟨rfl, hb1⟩
  rw [HP.out]
  have P1 : Box w1 w.heap.size 33 #[.slice A0 n0 c0, .slice A1 n1 c1] := Box.below (((Box.new w _ _).alloc _).alloc _) hb1 (by simp; omega)
  have Q1 : Box w1 (w.heap.size + 1) 37 #[.int .i64 y0, .int .i64 y1, .int .i64 y2, .slice A7 n7 c7] := Box.below (Box.alloc (by simpa using Box.new (w.alloc (.cells #[.slice A0 n0 c0, .slice A1 n1 c1] 33)) 37 #[.int .i64 y0, .int .i64 y1, .int .i64 y2, .slice A7 n7 c7]) _) hb1 (by first | (simp; done) | (simp; omega))
  have R1 : Box w1 (w.heap.size + 1 + 1) 33 #[.slice none 0 0, .slice none 0 0] := Box.below (by simpa using Box.new ((w.alloc (.cells #[.slice A0 n0 c0, .slice A1 n1 c1] 33)).alloc (.cells #[.int .i64 y0, .int .i64 y1, .int .i64 y2, .slice A7 n7 c7] 37)) 33 #[.slice none 0 0, .slice none 0 0]) hb1 (by simp)
  have hB1 : Below w.heap.size w w1 := bel_trans (belx) hb1
  have p10 := P1.cell 0; have p11 := P1.cell 1; have q10 := Q1.cell 0; have q11 := Q1.cell 1; have q12 := Q1.cell 2; have q13 := Q1.cell 3; have r10 := R1.cell 0; have r11 := R1.cell 1; have rf0 := R1.frozen 0; have rf1 := R1.frozen 1
  go_wp2_with fail
  refine (s_PieceOk (tPiece.reach hq hB1) hzq).mono ?_
  rintro e w2 ⟨rfl, hb2⟩
  rw [HQ.out]
  have P2 := P1.below hb2 P1.size
  have Q2 := Q1.below hb2 Q1.size
  have R2 := R1.below hb2 R1.size
  have hB2 := bel_trans hB1 hb2
  have p20 := P2.cell 0; have p21 := P2.cell 1; have q20 := Q2.cell 0; have q21 := Q2.cell 1; have q22 := Q2.cell 2; have q23 := Q2.cell 3; have r20 := R2.cell 0; have r21 := R2.cell 1; have r2f0 := R2.frozen 0; have r2f1 := R2.frozen 1
  go_wp2_with fail
  refine (HT.out w2 hB2).mono ?_
  rintro e w3 ⟨v0, v1, vb, rfl, g0, g1, gb, hb3⟩
  have hRd : tDesk.R w3 w3.heap.size [v0, v1] (r1, r2) := dkX_R (makeDkX g0 g1)
  have R3 := R2.below hb3 R2.size
  have hB3 := bel_trans hB2 hb3
  have hRd' := hRd
  obtain ⟨B0, m0, d0, B1, m1, d1, e_, -⟩ := openDesk hRd'
  injection e_ with e1 e2
  injection e2 with e2 _
  subst e1 e2
  clear hRd'
  obtain ⟨Ab, nb, cb, e3, hnb, hcb, hIb⟩ := xt_R gb
  have e3' : vb = .slice Ab nb cb := by injection e3
  subst e3'
  have HNB := Lib.hid (show nb ≤ 160 by have := hIb.1; have h2 : rb.length ≤ 160 := HBY.out; omega)
  have hRx := tDesk.reach hRd (show Below w3.heap.size w3 (w3.alloc (.cells #[.slice B0 m0 d0, .slice B1 m1 d1] 33)) from (belx))
  obtain ⟨ib, hi0, hz0, hz1, hz2⟩ := info_parts info_cb
  clear e3 hnb hcb g0 g1 gb p10 p11 q10 q11 q12 q13 r10 r11 rf0 rf1 p20 p21 q20 q21 q22 q23 r20 r21 r2f0 r2f1
  go_wp2_with fail
  refine (s_DeskOwn hRx (by have := (dkOk_sz HOK.out).1; omega)).mono ?_
  rintro e w4 ⟨cs4, F4, rfl, hO4, hN4, hb4⟩
  have hO4' := hO4
  obtain ⟨E0, e0, G0, E1, e1, G1, rfl, -⟩ := openODesk hO4'
  clear hO4'
  have hs4 : Below w3.heap.size w3 w4 := bel_trans (belx) hb4
  have R4 := R3.below hs4 R3.size
  have hI4 := reach hIb hs4
  have hR4 := tDesk.read hO4
  have zR := R4.size
  have hR5 : tDesk.R (w4.alloc (.cells #[] 5)) (w4.alloc (.cells #[] 5)).heap.size [.slice E0 r1.length e0, .slice E1 r2.length e1] (r1, r2) := tDesk.reach hR4 (belx)
  go_wp2_with (at_builtin; refine Own.pushRow (w := w4.alloc (.cells #[] 5)) (base := w4.heap.size) (by rfl) (.tmp 39) (.tmp 40) _ (by rfl) ib _ 1 Tryz.underlying26 hi0 hz0 hz1 hz2 (by rfl) (by rfl) (Own.empty (k := .u8) (Nat.le_refl _)) (by rfl) (reach hI4 (belx)) (by simp) (by simp only [maxLen, List.length_nil]; have := HNB.out; omega) (by simp only [List.length_nil]; have := HNB.out; omega) ?_; intro v5 w5 hO5 hgr5 _; obtain ⟨A5, n5, c5, rfl, hn5⟩ := hO5.shapeN; have hs5 : Below w4.heap.size w4 w5 := Below.grown (w := w4.alloc (.cells #[] 5)) (belx) hgr5 (by simp) (fun b hb => by have e := Option.some.inj (show some w4.heap.size = some b from hb); omega); have R5 := R4.below hs5 R4.size; have s0 := R5.cell 0; have s1 := R5.cell 1; have sf0 := R5.frozen 0; have sf1 := R5.frozen 1)
  have HN5 := Lib.hid (show n5 = rb.length by simpa using hn5)
  clear hn5
  go_wp2
  have RR := (R5.put 0 (.slice E0 r1.length e0)).put 1 (.slice E1 r2.length e1)
  have u0 := RR.cell 0; have u1 := RR.cell 1
  have hOx := Ty.far3 (t := tDesk) (Ty.far3 (t := tDesk) (Ty.below (t := tDesk) hO4 hs5) (p := ⟨w.heap.size + 1 + 1, 0, none⟩) (fun hx => by have h1 := hN4.2 _ hx; have h2 := hb3.size; have h3 := R3.size; dsimp only at h1; simp at h1; omega) (.slice E0 r1.length e0)) (p := ⟨w.heap.size + 1 + 1, 1, none⟩) (fun hx => by have h1 := hN4.2 _ hx; have h3 := R3.size; dsimp only at h1; simp at h1; omega) (.slice E1 r2.length e1)
  have hOb := own_offT (own_offT hO5 (p := ⟨w.heap.size + 1 + 1, 0, none⟩) (by show _ < w4.heap.size; omega) (.slice E0 r1.length e0)) (p := ⟨w.heap.size + 1 + 1, 1, none⟩) (by show _ < w4.heap.size; omega) (.slice E1 r2.length e1)
  rw [List.nil_append] at hOb
  obtain ⟨F2, hF2, hN2⟩ := hOb.tSl
  have hBF := bel_put (bel_put (bel_trans hB3 (bel_trans hs4 hs5)) (p := ⟨w.heap.size + 1 + 1, 0, none⟩) (by show _ ≤ w.heap.size + 1 + 1; omega) (.slice E0 r1.length e0)) (p := ⟨w.heap.size + 1 + 1, 1, none⟩) (by show _ ≤ w.heap.size + 1 + 1; omega) (.slice E1 r2.length e1)
  refine bodyPost_ret (v := .tuple #[.agg #[.slice E0 r1.length e0, .slice E1 r2.length e1], .slice A5 rb.length c5, .int .i64 rc]) (by simp [results, Tryz.results8, go_sem, u0, u1]) rfl ⟨[.slice E0 r1.length e0, .slice E1 r2.length e1], F4, A5, c5, F2, rfl, hOx, by rw [← HN5.out]; exact hF2, New.app (B' := w4.heap.size) (hN4.lower (by have := hB3.size; simp; omega)) hN2 (by have := hB3.size; have := hs4.size; omega) (fun f hf => tDesk.lt hO4 f hf), hBF⟩
end Go.Proofs.YtaabmaoldhoinaaGreat
namespace Go.Proofs.YtaabmaoldhoinaaGreat
set_option maxRecDepth 100000
set_option linter.unusedVariables false
set_option linter.unusedSimpArgs false
open Go.ChangeShapes Go.WideShapes Go.ChangeAt Go.RowKit
open Fld
set_option maxHeartbeats 2000000 in
theorem i_TakePiece {w : World} {cs ch : List Value} {p : DDesk} {q : DPiece} {x : Int} (h : tDesk.R w w.heap.size cs p) (hz : szDesk p ≤ 1048576) (hq : tPiece.R w w.heap.size ch q) (hzq : szPiece q ≤ 1048576) (hw : (Lit.int .i64 x).wf = true) :
    Calls Tryz.prog 11 #[.agg cs.toArray, .agg ch.toArray, .int .i64 x] w fun e w' => ∃ cs' F1 A c F2, e = .returned (.tuple #[.agg cs'.toArray, .slice A (fTp p q x).2.1.length c, .int .i64 (fTp p q x).2.2]) ∧ tDesk.O w' cs' (fTp p q x).1 F1 ∧ tBy.O w' [.slice A (fTp p q x).2.1.length c] (fTp p q x).2.1 F2 ∧ New w.heap.size (F1 ++ F2) ∧ Below w.heap.size w w' := by
  have hD := h
  have hQ := hq
  obtain ⟨A0, n0, c0, A1, n1, c1, rfl, -⟩ := openDesk hD
  obtain ⟨y0, y1, y2, qd⟩ := q
  obtain ⟨A7, n7, c7, rfl, -⟩ := openPiece hQ
  clear hD hQ
  by_cases hp : DkOk p
  rotate_left
  · have HP := Lib.hid (decide_eq_false hp)
    rw [fTp_f (fun hh => hp hh.1)]
    clear hp
    go_enter Tryz.func11, Tryz.ntmps11
    go_wp2_with fail
    refine (i_DeskOk (tDesk.reach h ?hB) hz).mono ?_
    case hB => exact (belx)
    rintro e w1 ⟨rfl, hb1⟩
    rw [HP.out]
    have Q1 : Box w1 (w.heap.size + 1) 37 #[.int .i64 y0, .int .i64 y1, .int .i64 y2, .slice A7 n7 c7] := Box.below (Box.alloc (by simpa using Box.new (w.alloc (.cells #[.slice A0 n0 c0, .slice A1 n1 c1] 33)) 37 #[.int .i64 y0, .int .i64 y1, .int .i64 y2, .slice A7 n7 c7]) _) hb1 (by first | (simp; done) | (simp; omega))
    have R1 : Box w1 (w.heap.size + 1 + 1) 33 #[.slice none 0 0, .slice none 0 0] := Box.below (by simpa using Box.new ((w.alloc (.cells #[.slice A0 n0 c0, .slice A1 n1 c1] 33)).alloc (.cells #[.int .i64 y0, .int .i64 y1, .int .i64 y2, .slice A7 n7 c7] 37)) 33 #[.slice none 0 0, .slice none 0 0]) hb1 (by simp)
    have hB1 : Below w.heap.size w w1 := bel_trans (belx) hb1
    have q10 := Q1.cell 0; have q11 := Q1.cell 1; have q12 := Q1.cell 2; have q13 := Q1.cell 3; have r10 := R1.cell 0; have r11 := R1.cell 1; have rf0 := R1.frozen 0; have rf1 := R1.frozen 1
    go_wp2
    have RR := (R1.put 0 (.slice none 0 0)).put 1 (.slice none 0 0)
    have e0 := RR.cell 0; have e1 := RR.cell 1
    refine bodyPost_ret (v := .tuple #[.agg #[.slice none 0 0, .slice none 0 0], .slice none 0 0, .int .i64 (-3)]) (by simp [results, Tryz.results11, go_sem, e0, e1]) rfl ⟨[.slice none 0 0, .slice none 0 0], [], none, 0, [], rfl, dkzO, nilB_O, New.nil _, ?_⟩
    exact bel_put (bel_put hB1 (p := ⟨w.heap.size + 1 + 1, 0, none⟩) (by show _ ≤ w.heap.size + 1 + 1; omega) _) (p := ⟨w.heap.size + 1 + 1, 1, none⟩) (by show _ ≤ w.heap.size + 1 + 1; omega) _
  have HP := Lib.hid (decide_eq_true hp)
  by_cases hpc : PcOk (y0, y1, y2, qd)
  rotate_left
  · have HQ := Lib.hid (decide_eq_false hpc)
    rw [fTp_f (fun hh => hpc hh.2.1)]
    clear hpc hp
    go_enter Tryz.func11, Tryz.ntmps11
    go_wp2_with fail
    refine (i_DeskOk (tDesk.reach h ?hB) hz).mono ?_
    case hB => exact (belx)
    rintro e w1 ⟨rfl, hb1⟩
    rw [HP.out]
    have Q1 : Box w1 (w.heap.size + 1) 37 #[.int .i64 y0, .int .i64 y1, .int .i64 y2, .slice A7 n7 c7] := Box.below (Box.alloc (by simpa using Box.new (w.alloc (.cells #[.slice A0 n0 c0, .slice A1 n1 c1] 33)) 37 #[.int .i64 y0, .int .i64 y1, .int .i64 y2, .slice A7 n7 c7]) _) hb1 (by first | (simp; done) | (simp; omega))
    have R1 : Box w1 (w.heap.size + 1 + 1) 33 #[.slice none 0 0, .slice none 0 0] := Box.below (by simpa using Box.new ((w.alloc (.cells #[.slice A0 n0 c0, .slice A1 n1 c1] 33)).alloc (.cells #[.int .i64 y0, .int .i64 y1, .int .i64 y2, .slice A7 n7 c7] 37)) 33 #[.slice none 0 0, .slice none 0 0]) hb1 (by simp)
    have hB1 : Below w.heap.size w w1 := bel_trans (belx) hb1
    have q10 := Q1.cell 0; have q11 := Q1.cell 1; have q12 := Q1.cell 2; have q13 := Q1.cell 3; have r10 := R1.cell 0; have r11 := R1.cell 1; have rf0 := R1.frozen 0; have rf1 := R1.frozen 1
    go_wp2_with fail
    refine (i_PieceOk (tPiece.reach hq hB1) hzq).mono ?_
    rintro e w2 ⟨rfl, hb2⟩
    rw [HQ.out]
    have R2 := R1.below hb2 R1.size
    have hB2 := bel_trans hB1 hb2
    have r20 := R2.cell 0; have r21 := R2.cell 1; have r2f0 := R2.frozen 0; have r2f1 := R2.frozen 1
    go_wp2
    have RR := (R2.put 0 (.slice none 0 0)).put 1 (.slice none 0 0)
    have e0 := RR.cell 0; have e1 := RR.cell 1
    refine bodyPost_ret (v := .tuple #[.agg #[.slice none 0 0, .slice none 0 0], .slice none 0 0, .int .i64 (-3)]) (by simp [results, Tryz.results11, go_sem, e0, e1]) rfl ⟨[.slice none 0 0, .slice none 0 0], [], none, 0, [], rfl, dkzO, nilB_O, New.nil _, ?_⟩
    exact bel_put (bel_put hB2 (p := ⟨w.heap.size + 1 + 1, 0, none⟩) (by show _ ≤ w.heap.size + 1 + 1; omega) _) (p := ⟨w.heap.size + 1 + 1, 1, none⟩) (by show _ ≤ w.heap.size + 1 + 1; omega) _
  have HQ := Lib.hid (decide_eq_true hpc)
  by_cases hx : 0 ≤ x ∧ x ≤ 65535
  rotate_left
  · rw [fTp_f (fun hh => hx hh.2.2)]
    have HX := Lib.hid hx
    clear hpc hp hx
    go_enter Tryz.func11, Tryz.ntmps11
    go_wp2_with fail
    refine (i_DeskOk (tDesk.reach h ?hB) hz).mono ?_
    case hB => exact (belx)
    rintro e w1 ⟨rfl, hb1⟩
    rw [HP.out]
    have Q1 : Box w1 (w.heap.size + 1) 37 #[.int .i64 y0, .int .i64 y1, .int .i64 y2, .slice A7 n7 c7] := Box.below (Box.alloc (by simpa using Box.new (w.alloc (.cells #[.slice A0 n0 c0, .slice A1 n1 c1] 33)) 37 #[.int .i64 y0, .int .i64 y1, .int .i64 y2, .slice A7 n7 c7]) _) hb1 (by first | (simp; done) | (simp; omega))
    have R1 : Box w1 (w.heap.size + 1 + 1) 33 #[.slice none 0 0, .slice none 0 0] := Box.below (by simpa using Box.new ((w.alloc (.cells #[.slice A0 n0 c0, .slice A1 n1 c1] 33)).alloc (.cells #[.int .i64 y0, .int .i64 y1, .int .i64 y2, .slice A7 n7 c7] 37)) 33 #[.slice none 0 0, .slice none 0 0]) hb1 (by simp)
    have hB1 : Below w.heap.size w w1 := bel_trans (belx) hb1
    have q10 := Q1.cell 0; have q11 := Q1.cell 1; have q12 := Q1.cell 2; have q13 := Q1.cell 3; have r10 := R1.cell 0; have r11 := R1.cell 1; have rf0 := R1.frozen 0; have rf1 := R1.frozen 1
    go_wp2_with fail
    refine (i_PieceOk (tPiece.reach hq hB1) hzq).mono ?_
    rintro e w2 ⟨rfl, hb2⟩
    rw [HQ.out]
    have R2 := R1.below hb2 R1.size
    have hB2 := bel_trans hB1 hb2
    have r20 := R2.cell 0; have r21 := R2.cell 1; have r2f0 := R2.frozen 0; have r2f1 := R2.frozen 1
    go_wp2_with fail
    refine (i4_isDue_f x w2 HX.out).mono ?_
    rintro e w' ⟨rfl, rfl⟩
    go_wp2
    have RR := (R2.put 0 (.slice none 0 0)).put 1 (.slice none 0 0)
    have e0 := RR.cell 0; have e1 := RR.cell 1
    refine bodyPost_ret (v := .tuple #[.agg #[.slice none 0 0, .slice none 0 0], .slice none 0 0, .int .i64 (-3)]) (by simp [results, Tryz.results11, go_sem, e0, e1]) rfl ⟨[.slice none 0 0, .slice none 0 0], [], none, 0, [], rfl, dkzO, nilB_O, New.nil _, ?_⟩
    exact bel_put (bel_put hB2 (p := ⟨w.heap.size + 1 + 1, 0, none⟩) (by show _ ≤ w.heap.size + 1 + 1; omega) _) (p := ⟨w.heap.size + 1 + 1, 1, none⟩) (by show _ ≤ w.heap.size + 1 + 1; omega) _
  rw [fTp_t ⟨hp, hpc, hx⟩]
  by_cases hm : y0 ∈ p.2
  · rw [tkT_old (q := (y0, y1, y2, qd)) (.inl hm)]
    exact i_tk_od h hq hp hpc hx hm
  have hpw : p.1.Pairwise (fun a b => a.1 < b.1) := asc_pairM (f := wId) hp.2.2.2.1
  by_cases ht : ∃ a ∈ p.1, a.1 = y0
  · obtain ⟨a, ha, e⟩ := ht
    have hN := tkNew_there (q := (y0, y1, y2, qd)) (due := x) hp ha e
    have hO := tkOld_there (q := (y0, y1, y2, qd)) hp ha e
    obtain ⟨a0, a1, a2, ag⟩ := a
    obtain rfl : a0 = y0 := e
    by_cases h1 : a1 = y2
    · obtain rfl : y2 = a1 := h1.symm
      by_cases hin : ∃ p ∈ ag, p.2.1 = y1
      · rw [tkT_old (hO.2 (.inr hin))]
        exact i_tk_op h hq hp hpc hx ha hin
      · have hno := fun h => hin ((hO.1 h).resolve_left (fun h => h rfl))
        have hno2 : ∀ p ∈ ag, p.2.1 ≠ y1 := fun p hp h => hin ⟨p, hp, h⟩
        by_cases hd : ((insB pAt (a0, y1, y2, qd) ag).length : Int) = y2
        · rw [tkT_done hno (show TkDone p (a0, y1, y2, qd) x by unfold TkDone; rw [hN]; exact hd), hN]
          exact i_tk_td h hq hp hpc hx ha hno2 hd
        · have hT := tkT_put hno (show ¬ TkDone p (a0, y1, y2, qd) x by unfold TkDone; rw [hN]; exact hd) (fun h => h.1 _ ha rfl)
          rw [hN] at hT
          have hok := tkT_ok hp hpc hx
          rw [hT] at hok ⊢
          exact i_tk_tp h hq hp hpc hx ha hno2 hd hok
    · rw [tkT_old (hO.2 (.inl h1))]
      exact i_tk_ot h hq hp hpc hx ha h1
  · have hne : ∀ a ∈ p.1, a.1 ≠ y0 := fun a ha e => ht ⟨a, ha, e⟩
    have hN := tkNew_new (q := (y0, y1, y2, qd)) (due := x) hne
    have hno : ¬ TkOld p (y0, y1, y2, qd) := fun h => hm ((tkOld_new (q := (y0, y1, y2, qd)) hne).1 h)
    have hl : p.1.length = n0 := by obtain ⟨_, _, _, _, _, _, e_, -, -, e0, -⟩ := openDesk h; injection e_ with e1 _; injection e1 with _ e2 _; omega
    by_cases hd : ((insB pAt (y0, y1, y2, qd) ([] : List DPiece)).length : Int) = y2
    · rw [tkT_done hno (show TkDone p (y0, y1, y2, qd) x by unfold TkDone; rw [hN]; exact hd), hN]
      exact i_tk_nd h hq hp hpc hx hne hm hd
    · have hnd : ¬ TkDone p (y0, y1, y2, qd) x := by unfold TkDone; rw [hN]; exact hd
      by_cases hf : 6 ≤ n0
      · rw [tkT_full hno hnd ⟨hne, by omega⟩]
        exact i_tk_nf h hq hp hpc hx hne hm hd hf
      · have hT := tkT_put hno hnd (fun h => hf (by have := h.2; omega))
        rw [hN] at hT
        have hok := tkT_ok hp hpc hx
        rw [hT] at hok ⊢
        exact i_tk_np h hq hp hpc hx hne hm hd hf hok
end Go.Proofs.YtaabmaoldhoinaaGreat
