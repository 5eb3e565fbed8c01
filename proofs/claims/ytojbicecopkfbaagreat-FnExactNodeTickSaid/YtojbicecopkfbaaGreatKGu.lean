/-
  PTkI: texts joined.
-/
import Derived.Test.YtojbicecopkfbaaGreatKGm
import Derived.Test.YtojbicecopkfbaaGreatKGr
import Derived.Test.YtojbicecopkfbaaGreatKGt
import Derived.Test.YtojbicecopkfbaaGreatKX1
namespace Go.Proofs.YtojbicecopkfbaaGreat
set_option maxRecDepth 100000
set_option linter.unusedVariables false
set_option linter.unusedSimpArgs false
open Go.ChangeShapes Go.WideShapes Go.ChangeAt Go.RowKit
open Fld
theorem i_isNow (x : Int) (w : World) : Calls Tryz.prog 73 #[.int .i64 x] w fun e w' => e = .returned (.bool (decide (0 ≤ x ∧ x ≤ 60000))) ∧ w = w' := by
  by_cases h1 : 0 ≤ x
  · by_cases h2 : x ≤ 60000
    · have HR := Lib.hid (show decide (0 ≤ x ∧ x ≤ 60000) = true from decide_eq_true ⟨h1, h2⟩)
      rw [HR.out]
      go_enter Tryz.func73, Tryz.ntmps73
      go_wp2
      go_ret
      exact ⟨by first | rfl | (simp; done) | (simp; omega), rfl⟩
    · have HR := Lib.hid (show decide (0 ≤ x ∧ x ≤ 60000) = false from decide_eq_false fun h => h2 h.2)
      rw [HR.out]
      go_enter Tryz.func73, Tryz.ntmps73
      go_wp2
      go_ret
      exact ⟨by first | rfl | (simp; done) | (simp; omega), rfl⟩
  · have HR := Lib.hid (show decide (0 ≤ x ∧ x ≤ 60000) = false from decide_eq_false fun h => h1 h.1)
    rw [HR.out]
    go_enter Tryz.func73, Tryz.ntmps73
    go_wp2
    go_ret
    exact ⟨by first | rfl | (simp; done) | (simp; omega), rfl⟩
set_option maxHeartbeats 4000000 in
theorem i_NodeTick {w : World} {cs : List Value} {p : DNode} {x : Int} (h : tNode.R w w.heap.size cs p) (hz : szNode p ≤ 1048576) (hx : (Lit.int .i64 x).wf = true) :
    Calls Tryz.prog 24 #[.agg cs.toArray, .int .i64 x] w fun e w' => ∃ cs' F, e = .returned (.tuple #[.agg cs'.toArray, .int .i64 (fTkN p x)]) ∧ tNode.O w' cs' (fTk p x) F ∧ New w.heap.size F ∧ Below w.heap.size w w' := by
  obtain ⟨A2, n2, c2, A3, n3, c3, A4, n4, c4, A5, n5, c5, A6, n6, c6, rfl, h0, h1, hP, hD, hL⟩ := fopenNode h
  by_cases hp : NdOk p
  rotate_left
  · have HP := Lib.hid (decide_eq_false hp)
    rw [fTk_f (fun h => hp h.1), fTkN_f (fun h => hp h.1)]
    clear hp
    go_enter Tryz.func24, Tryz.ntmps24
    go_wp2_with fail
    refine (i_NodeOk (tNode.reach h ?hB) hz).mono ?_
    case hB => exact (belx)
    rintro e w1 ⟨rfl, hb1⟩
    rw [HP.out]
    have X1 : Box w1 w.heap.size 58 #[.int .i64 p.1, .int .i64 p.2.1, .slice A2 n2 c2, .slice A3 n3 c3, .slice A4 n4 c4, .slice A5 n5 c5, .slice A6 n6 c6] := Box.below ((Box.new _ _ _).alloc _) hb1 (by first | (simp; done) | (simp; omega))
    have Y1 : Box w1 (w.heap.size + 1) 58 #[.int .i64 0, .int .i64 0, .slice none 0 0, .slice none 0 0, .slice none 0 0, .slice none 0 0, .slice none 0 0] := Box.below (by simpa using Box.new (w.alloc _) 58 #[.int .i64 0, .int .i64 0, .slice none 0 0, .slice none 0 0, .slice none 0 0, .slice none 0 0, .slice none 0 0]) hb1 (by first | (simp; done) | (simp; omega))
    have hB1 : Below w.heap.size w w1 := bel_trans (belx) hb1
    have z1 : w.heap.size + 2 ≤ w1.heap.size := by have := hb1.size; simpa using this
    have x0 := X1.cell 0
    have x1 := X1.cell 1
    have x2 := X1.cell 2
    have x3 := X1.cell 3
    have x4 := X1.cell 4
    have x5 := X1.cell 5
    have x6 := X1.cell 6
    have y0 := Y1.cell 0; have f0 := Y1.frozen 0
    have y1 := Y1.cell 1; have f1 := Y1.frozen 1
    have y2 := Y1.cell 2; have f2 := Y1.frozen 2
    have y3 := Y1.cell 3; have f3 := Y1.frozen 3
    have y4 := Y1.cell 4; have f4 := Y1.frozen 4
    have y5 := Y1.cell 5; have f5 := Y1.frozen 5
    have y6 := Y1.cell 6; have f6 := Y1.frozen 6
    clear hb1
    go_wp2
    have RR := (((((((Y1.put 0 (.int .i64 0)).put 1 (.int .i64 0)).put 2 (.slice none 0 0)).put 3 (.slice none 0 0)).put 4 (.slice none 0 0)).put 5 (.slice none 0 0)).put 6 (.slice none 0 0))
    have e0 := RR.cell 0
    have e1 := RR.cell 1
    have e2 := RR.cell 2
    have e3 := RR.cell 3
    have e4 := RR.cell 4
    have e5 := RR.cell 5
    have e6 := RR.cell 6
    refine bodyPost_ret (v := .tuple #[.agg #[.int .i64 0, .int .i64 0, .slice none 0 0, .slice none 0 0, .slice none 0 0, .slice none 0 0, .slice none 0 0], .int .i64 (-1)]) (by simp [results, Tryz.results24, go_sem, e0, e1, e2, e3, e4, e5, e6]) rfl ⟨[.int .i64 0, .int .i64 0, .slice none 0 0, .slice none 0 0, .slice none 0 0, .slice none 0 0, .slice none 0 0], [], rfl, Ty.far7 (nwO (by decide) (by decide)) (by simp) _ _ _ _ _ _ _, New.nil _, ?_⟩
    exact bel_put7 hB1 (by omega) _ _ _ _ _ _ _
  have HP := Lib.hid (decide_eq_true hp)
  by_cases hq : 0 ≤ x ∧ x ≤ 60000
  rotate_left
  · have HQ := Lib.hid (decide_eq_false hq)
    rw [fTk_f (fun h => hq h.2), fTkN_f (fun h => hq h.2)]
    clear hp hq
    go_enter Tryz.func24, Tryz.ntmps24
    go_wp2_with fail
    refine (i_NodeOk (tNode.reach h ?hB) hz).mono ?_
    case hB => exact (belx)
    rintro e w1 ⟨rfl, hb1⟩
    rw [HP.out]
    have X1 : Box w1 w.heap.size 58 #[.int .i64 p.1, .int .i64 p.2.1, .slice A2 n2 c2, .slice A3 n3 c3, .slice A4 n4 c4, .slice A5 n5 c5, .slice A6 n6 c6] := Box.below ((Box.new _ _ _).alloc _) hb1 (by first | (simp; done) | (simp; omega))
    have Y1 : Box w1 (w.heap.size + 1) 58 #[.int .i64 0, .int .i64 0, .slice none 0 0, .slice none 0 0, .slice none 0 0, .slice none 0 0, .slice none 0 0] := Box.below (by simpa using Box.new (w.alloc _) 58 #[.int .i64 0, .int .i64 0, .slice none 0 0, .slice none 0 0, .slice none 0 0, .slice none 0 0, .slice none 0 0]) hb1 (by first | (simp; done) | (simp; omega))
    have hB1 : Below w.heap.size w w1 := bel_trans (belx) hb1
    have z1 : w.heap.size + 2 ≤ w1.heap.size := by have := hb1.size; simpa using this
    have x0 := X1.cell 0
    have x1 := X1.cell 1
    have x2 := X1.cell 2
    have x3 := X1.cell 3
    have x4 := X1.cell 4
    have x5 := X1.cell 5
    have x6 := X1.cell 6
    have y0 := Y1.cell 0; have f0 := Y1.frozen 0
    have y1 := Y1.cell 1; have f1 := Y1.frozen 1
    have y2 := Y1.cell 2; have f2 := Y1.frozen 2
    have y3 := Y1.cell 3; have f3 := Y1.frozen 3
    have y4 := Y1.cell 4; have f4 := Y1.frozen 4
    have y5 := Y1.cell 5; have f5 := Y1.frozen 5
    have y6 := Y1.cell 6; have f6 := Y1.frozen 6
    clear hb1
    go_wp2_with fail
    refine (i_isNow x _).mono ?_
    rintro e w' ⟨rfl, rfl⟩
    rw [HQ.out]
    go_wp2
    have RR := (((((((Y1.put 0 (.int .i64 0)).put 1 (.int .i64 0)).put 2 (.slice none 0 0)).put 3 (.slice none 0 0)).put 4 (.slice none 0 0)).put 5 (.slice none 0 0)).put 6 (.slice none 0 0))
    have e0 := RR.cell 0
    have e1 := RR.cell 1
    have e2 := RR.cell 2
    have e3 := RR.cell 3
    have e4 := RR.cell 4
    have e5 := RR.cell 5
    have e6 := RR.cell 6
    refine bodyPost_ret (v := .tuple #[.agg #[.int .i64 0, .int .i64 0, .slice none 0 0, .slice none 0 0, .slice none 0 0, .slice none 0 0, .slice none 0 0], .int .i64 (-1)]) (by simp [results, Tryz.results24, go_sem, e0, e1, e2, e3, e4, e5, e6]) rfl ⟨[.int .i64 0, .int .i64 0, .slice none 0 0, .slice none 0 0, .slice none 0 0, .slice none 0 0, .slice none 0 0], [], rfl, Ty.far7 (nwO (by decide) (by decide)) (by simp) _ _ _ _ _ _ _, New.nil _, ?_⟩
    exact bel_put7 hB1 (by omega) _ _ _ _ _ _ _
  have HQ := Lib.hid (decide_eq_true hq)
  rw [fTk_t ⟨hp, hq⟩, fTkN_t ⟨hp, hq⟩]
  have hz2 : szNode (tkN p x) ≤ 1048576 := by have := tkN_sz p x; omega
  have hzP : szPool p.2.2.1 ≤ 1048576 := by unfold szNode at hz; omega
  have hzD : szDesk p.2.2.2.1 ≤ 1048576 := by unfold szNode at hz; omega
  have HEP := Lib.hid (show fExp p.2.2.1 x = (exf x p.2.2.1.1, p.2.2.1.2) from fExp_t hp.2.2.1)
  have HED := Lib.hid (show fLg p.2.2.2.1 x = (lgf x p.2.2.2.1.1, p.2.2.2.1.2) from fLg_t hp.2.2.2.1)
  have HK := Lib.hid (show fExpN p.2.2.1 x + fLgN p.2.2.2.1 x = tkK p x by rw [fExpN_t hp.2.2.1, fLgN_t hp.2.2.2.1]; rfl)
  have hkk : -1 ≤ fExpN p.2.2.1 x ∧ fExpN p.2.2.1 x ≤ 12 ∧ -1 ≤ fLgN p.2.2.2.1 x ∧ fLgN p.2.2.2.1 x ≤ 6 := by
    rw [fExpN_t hp.2.2.1, fLgN_t hp.2.2.2.1]
    have a1 := exf_len x p.2.2.1.1; have a2 := lgf_len x p.2.2.2.1.1; have a3 := hp.2.2.1.1; have a4 := hp.2.2.2.1.1
    refine ⟨?_, ?_, ?_, ?_⟩ <;> omega
  clear hp hq
  go_enter Tryz.func24, Tryz.ntmps24
  go_wp2_with fail
  refine (i_NodeOk (tNode.reach h ?hB) hz).mono ?_
  case hB => exact (belx)
  rintro e w1 ⟨rfl, hb1⟩
  rw [HP.out]
  have X1 : Box w1 w.heap.size 58 #[.int .i64 p.1, .int .i64 p.2.1, .slice A2 n2 c2, .slice A3 n3 c3, .slice A4 n4 c4, .slice A5 n5 c5, .slice A6 n6 c6] := Box.below ((Box.new _ _ _).alloc _) hb1 (by first | (simp; done) | (simp; omega))
  have Y1 : Box w1 (w.heap.size + 1) 58 #[.int .i64 0, .int .i64 0, .slice none 0 0, .slice none 0 0, .slice none 0 0, .slice none 0 0, .slice none 0 0] := Box.below (by simpa using Box.new (w.alloc _) 58 #[.int .i64 0, .int .i64 0, .slice none 0 0, .slice none 0 0, .slice none 0 0, .slice none 0 0, .slice none 0 0]) hb1 (by first | (simp; done) | (simp; omega))
  have hB1 : Below w.heap.size w w1 := bel_trans (belx) hb1
  have z1 : w.heap.size + 2 ≤ w1.heap.size := by have := hb1.size; simpa using this
  have x0 := X1.cell 0
  have x1 := X1.cell 1
  have x2 := X1.cell 2
  have x3 := X1.cell 3
  have x4 := X1.cell 4
  have x5 := X1.cell 5
  have x6 := X1.cell 6
  have y0 := Y1.cell 0; have f0 := Y1.frozen 0
  have y1 := Y1.cell 1; have f1 := Y1.frozen 1
  have y2 := Y1.cell 2; have f2 := Y1.frozen 2
  have y3 := Y1.cell 3; have f3 := Y1.frozen 3
  have y4 := Y1.cell 4; have f4 := Y1.frozen 4
  have y5 := Y1.cell 5; have f5 := Y1.frozen 5
  have y6 := Y1.cell 6; have f6 := Y1.frozen 6
  clear hb1
  go_wp2_with fail
  refine (i_isNow x _).mono ?_
  rintro e w' ⟨rfl, rfl⟩
  rw [HQ.out]
  go_wp2_with fail
  refine (i_Expire (tPool.reach hP hB1) hzP hx).mono ?_
  rintro e w2 ⟨csP, F2, rfl, hOP, hNP, hb2⟩
  rw [HEP.out] at hOP
  have hOPk := hOP
  obtain ⟨B2, d2, F20, B3, d3, F21, rfl, -, -, -, -, -, -, -⟩ := openOPool hOPk
  clear hOPk
  have X2 := X1.below hb2 X1.size
  have Y2 := Y1.below hb2 Y1.size
  have hB2 : Below w.heap.size w w2 := bel_trans hB1 hb2
  have z2 : w1.heap.size ≤ w2.heap.size := hb2.size
  clear x0 y0 f0 x1 y1 f1 x2 y2 f2 x3 y3 f3 x4 y4 f4 x5 y5 f5 x6 y6 f6
  have XP := X2.alloc (.cells #[.slice B2 (exf x p.2.2.1.1).length d2, .slice B3 p.2.2.1.2.length d3] 55)
  have xp4 := XP.cell 4; have xp5 := XP.cell 5
  go_wp2_with fail
  refine (i_LetGo (tDesk.reach hD (bel_trans hB2 (belx))) hzD hx).mono ?_
  rintro e w3 ⟨csD, F4, rfl, hOD, hND, hb3⟩
  rw [HED.out] at hOD
  have hODk := hOD
  obtain ⟨B4, d4, F40, B5, d5, F41, rfl, -, -, -, -, -, -, -⟩ := openODesk hODk
  clear hODk XP xp4 xp5
  have P3 : Box w3 w2.heap.size 55 #[.slice B2 (exf x p.2.2.1.1).length d2, .slice B3 p.2.2.1.2.length d3] := Box.below (Box.new _ _ _) hb3 (by simp)
  have X3 := Box.below (X2.alloc (.cells #[.slice B2 (exf x p.2.2.1.1).length d2, .slice B3 p.2.2.1.2.length d3] 55)) hb3 (by first | (simp; done) | (simp; omega))
  have Y3 := Box.below (Y2.alloc (.cells #[.slice B2 (exf x p.2.2.1.1).length d2, .slice B3 p.2.2.1.2.length d3] 55)) hb3 (by first | (simp; done) | (simp; omega))
  have hs3 : Below w2.heap.size w2 w3 := bel_trans (belx) hb3
  have hB3 : Below w.heap.size w w3 := bel_trans hB2 hs3
  have z3 : w2.heap.size + 1 ≤ w3.heap.size := by have := hb3.size; simpa using this
  have hOP3 := Ty.below (t := tPool) hOP hs3
  have hB4 : Below w.heap.size w (w3.alloc (.cells #[.slice B4 (lgf x p.2.2.2.1.1).length d4, .slice B5 p.2.2.2.1.2.length d5] 33)) := bel_alloc hB3 _
  have P4 := P3.alloc (.cells #[.slice B4 (lgf x p.2.2.2.1.1).length d4, .slice B5 p.2.2.2.1.2.length d5] 33)
  have X4 := X3.alloc (.cells #[.slice B4 (lgf x p.2.2.2.1.1).length d4, .slice B5 p.2.2.2.1.2.length d5] 33)
  have Y4 := Y3.alloc (.cells #[.slice B4 (lgf x p.2.2.2.1.1).length d4, .slice B5 p.2.2.2.1.2.length d5] 33)
  have D4 : Box (w3.alloc (.cells #[.slice B4 (lgf x p.2.2.2.1.1).length d4, .slice B5 p.2.2.2.1.2.length d5] 33)) w3.heap.size 33 #[.slice B4 (lgf x p.2.2.2.1.1).length d4, .slice B5 p.2.2.2.1.2.length d5] := Box.new _ _ _
  have hOP4 : tPool.O (w3.alloc (.cells #[.slice B4 (lgf x p.2.2.2.1.1).length d4, .slice B5 p.2.2.2.1.2.length d5] 33)) _ _ F2 := Ty.below (t := tPool) hOP3 (belx)
  have hOD4 : tDesk.O (w3.alloc (.cells #[.slice B4 (lgf x p.2.2.2.1.1).length d4, .slice B5 p.2.2.2.1.2.length d5] 33)) _ _ F4 := Ty.below (t := tDesk) hOD (belx)
  have nX2 : w.heap.size ∉ F2 := fun h => by have := hNP.2 _ h; omega
  have nX4 : w.heap.size ∉ F4 := fun h => by have := hND.2 _ h; simp at this; omega
  have hwr : IntKind.i64.wrap (fExpN p.2.2.1 x + fLgN p.2.2.2.1 x) = tkK p x := by rw [IntWalk.i64_in _ (by omega)]; exact HK.out
  clear hOP hOP3 hOD P3 X3 Y3 X2 Y2 X1 Y1
  have xx2 := X4.cell 2; have xg2 := X4.frozen 2
  have xx3 := X4.cell 3; have xg3 := X4.frozen 3
  have xx4 := X4.cell 4; have xg4 := X4.frozen 4
  have xx5 := X4.cell 5; have xg5 := X4.frozen 5
  go_wp2_with fail
  refine wp_region_held_drew (S := (fun w' => w'.cell? ⟨w2.heap.size, 0, none⟩ = some (.slice B2 (exf x p.2.2.1.1).length d2) ∧ w'.cell? ⟨w2.heap.size, 1, none⟩ = some (.slice B3 p.2.2.1.2.length d3) ∧ w'.cell? ⟨w3.heap.size, 0, none⟩ = some (.slice B4 (lgf x p.2.2.2.1.1).length d4) ∧ w'.cell? ⟨w3.heap.size, 1, none⟩ = some (.slice B5 p.2.2.2.1.2.length d5))) (by kernel_rfl) (by exact ⟨(Box.drew P4).cell 0, (Box.drew P4).cell 1, (Box.drew D4).cell 0, (Box.drew D4).cell 1⟩) (fun hHeld => ?_)
  refine wpAnyH_take (i := 0) (oi := ⟨some 33, _, _, _, _, _⟩) (v := ?v1) rfl (by kernel_rfl) (by kernel_rfl) (by kernel_rfl) (fun _ _ _ h => h) (Or.inl ⟨by rfl, ?hy1⟩) (by assumption) ?_
  case hy1 => (intro w hSw; (try dsimp only at hSw); go_simp; try (with_reducible rfl))
  (try simp only [Act.put, qa_, qb_, qc_])
  refine wpAnyH_take (i := 1) (oi := ⟨some 34, _, _, _, _, _⟩) (v := ?v2) rfl (by kernel_rfl) (by kernel_rfl) (by kernel_rfl) (fun _ _ _ h => h) (Or.inl ⟨by rfl, ?hy2⟩) (by assumption) ?_
  case hy2 => (intro w hSw; (try dsimp only at hSw); go_simp; try (with_reducible rfl))
  (try simp only [Act.put, qa_, qb_, qc_])
  refine wpAnyH_take (i := 2) (oi := ⟨some 35, _, _, _, _, _⟩) (v := ?v3) rfl (by kernel_rfl) (by kernel_rfl) (by kernel_rfl) (fun _ _ _ h => h) (Or.inl ⟨by rfl, ?hy3⟩) (by assumption) ?_
  case hy3 => (intro w hSw; (try dsimp only at hSw); go_simp; try (with_reducible rfl))
  (try simp only [Act.put, qa_, qb_, qc_])
  refine wpAnyH_ready (rs := [3]) (by kernel_rfl) (by simp) ?_
  refine AllReadyH.cons rfl (fun K hK => ?_) ?_
  · go_simp
    refine hK.out _ _ (by exact ⟨(((Box.drew P4).far (p := ⟨w.heap.size, 2, none⟩) (by show ¬ w2.heap.size = w.heap.size; omega) (.slice B2 (exf x p.2.2.1.1).length d2)).far (p := ⟨w.heap.size, 3, none⟩) (by show ¬ w2.heap.size = w.heap.size; omega) (.slice B3 p.2.2.1.2.length d3)).cell 0, (((Box.drew P4).far (p := ⟨w.heap.size, 2, none⟩) (by show ¬ w2.heap.size = w.heap.size; omega) (.slice B2 (exf x p.2.2.1.1).length d2)).far (p := ⟨w.heap.size, 3, none⟩) (by show ¬ w2.heap.size = w.heap.size; omega) (.slice B3 p.2.2.1.2.length d3)).cell 1, (((Box.drew D4).far (p := ⟨w.heap.size, 2, none⟩) (by show ¬ w3.heap.size = w.heap.size; omega) (.slice B2 (exf x p.2.2.1.1).length d2)).far (p := ⟨w.heap.size, 3, none⟩) (by show ¬ w3.heap.size = w.heap.size; omega) (.slice B3 p.2.2.1.2.length d3)).cell 0, (((Box.drew D4).far (p := ⟨w.heap.size, 2, none⟩) (by show ¬ w3.heap.size = w.heap.size; omega) (.slice B2 (exf x p.2.2.1.1).length d2)).far (p := ⟨w.heap.size, 3, none⟩) (by show ¬ w3.heap.size = w.heap.size; omega) (.slice B3 p.2.2.1.2.length d3)).cell 1⟩) (fun hHeld => ?_)
    clear hK K
    (try simp only [Act.put, qa_, qb_, qc_])
    refine wpAnyH_take (i := 4) (oi := ⟨some 36, _, _, _, _, _⟩) (v := ?v4) rfl (by kernel_rfl) (by kernel_rfl) (by kernel_rfl) (fun _ _ _ h => h) (Or.inl ⟨by rfl, ?hy4⟩) (by assumption) ?_
    case hy4 => (intro w hSw; (try dsimp only at hSw); go_simp; try (with_reducible rfl))
    (try simp only [Act.put, qa_, qb_, qc_])
    refine wpAnyH_ready (rs := [5]) (by kernel_rfl) (by simp) ?_
    refine AllReadyH.cons rfl (fun K hK => ?_) ?_
    · go_simp
      refine hK.out _ _ (by exact ⟨(((((Box.drew P4).far (p := ⟨w.heap.size, 2, none⟩) (by show ¬ w2.heap.size = w.heap.size; omega) (.slice B2 (exf x p.2.2.1.1).length d2)).far (p := ⟨w.heap.size, 3, none⟩) (by show ¬ w2.heap.size = w.heap.size; omega) (.slice B3 p.2.2.1.2.length d3)).far (p := ⟨w.heap.size, 4, none⟩) (by show ¬ w2.heap.size = w.heap.size; omega) (.slice B4 (lgf x p.2.2.2.1.1).length d4)).far (p := ⟨w.heap.size, 5, none⟩) (by show ¬ w2.heap.size = w.heap.size; omega) (.slice B5 p.2.2.2.1.2.length d5)).cell 0, (((((Box.drew P4).far (p := ⟨w.heap.size, 2, none⟩) (by show ¬ w2.heap.size = w.heap.size; omega) (.slice B2 (exf x p.2.2.1.1).length d2)).far (p := ⟨w.heap.size, 3, none⟩) (by show ¬ w2.heap.size = w.heap.size; omega) (.slice B3 p.2.2.1.2.length d3)).far (p := ⟨w.heap.size, 4, none⟩) (by show ¬ w2.heap.size = w.heap.size; omega) (.slice B4 (lgf x p.2.2.2.1.1).length d4)).far (p := ⟨w.heap.size, 5, none⟩) (by show ¬ w2.heap.size = w.heap.size; omega) (.slice B5 p.2.2.2.1.2.length d5)).cell 1, (((((Box.drew D4).far (p := ⟨w.heap.size, 2, none⟩) (by show ¬ w3.heap.size = w.heap.size; omega) (.slice B2 (exf x p.2.2.1.1).length d2)).far (p := ⟨w.heap.size, 3, none⟩) (by show ¬ w3.heap.size = w.heap.size; omega) (.slice B3 p.2.2.1.2.length d3)).far (p := ⟨w.heap.size, 4, none⟩) (by show ¬ w3.heap.size = w.heap.size; omega) (.slice B4 (lgf x p.2.2.2.1.1).length d4)).far (p := ⟨w.heap.size, 5, none⟩) (by show ¬ w3.heap.size = w.heap.size; omega) (.slice B5 p.2.2.2.1.2.length d5)).cell 0, (((((Box.drew D4).far (p := ⟨w.heap.size, 2, none⟩) (by show ¬ w3.heap.size = w.heap.size; omega) (.slice B2 (exf x p.2.2.1.1).length d2)).far (p := ⟨w.heap.size, 3, none⟩) (by show ¬ w3.heap.size = w.heap.size; omega) (.slice B3 p.2.2.1.2.length d3)).far (p := ⟨w.heap.size, 4, none⟩) (by show ¬ w3.heap.size = w.heap.size; omega) (.slice B4 (lgf x p.2.2.2.1.1).length d4)).far (p := ⟨w.heap.size, 5, none⟩) (by show ¬ w3.heap.size = w.heap.size; omega) (.slice B5 p.2.2.2.1.2.length d5)).cell 1⟩) (fun hHeld => ?_)
      clear hK K
      (try simp only [Act.put, qa_, qb_, qc_])
      refine wpAnyH_done (by kernel_rfl) ?_ _
      have X5 := (Box.drew ((((X4.put 2 (.slice B2 (exf x p.2.2.1.1).length d2)).put 3 (.slice B3 p.2.2.1.2.length d3)).put 4 (.slice B4 (lgf x p.2.2.2.1.1).length d4)).put 5 (.slice B5 p.2.2.2.1.2.length d5)))
      have Y5 := (Box.drew ((((Y4.far (p := ⟨w.heap.size, 2, none⟩) (by show ¬ (w.heap.size + 1) = w.heap.size; omega) (.slice B2 (exf x p.2.2.1.1).length d2)).far (p := ⟨w.heap.size, 3, none⟩) (by show ¬ (w.heap.size + 1) = w.heap.size; omega) (.slice B3 p.2.2.1.2.length d3)).far (p := ⟨w.heap.size, 4, none⟩) (by show ¬ (w.heap.size + 1) = w.heap.size; omega) (.slice B4 (lgf x p.2.2.2.1.1).length d4)).far (p := ⟨w.heap.size, 5, none⟩) (by show ¬ (w.heap.size + 1) = w.heap.size; omega) (.slice B5 p.2.2.2.1.2.length d5)))
      have Bl : Below w.heap.size w (((((w3.alloc (.cells #[.slice B4 (lgf x p.2.2.2.1.1).length d4, .slice B5 p.2.2.2.1.2.length d5] 33)).setCell ⟨w.heap.size, 2, none⟩ (.slice B2 (exf x p.2.2.1.1).length d2)).setCell ⟨w.heap.size, 3, none⟩ (.slice B3 p.2.2.1.2.length d3)).setCell ⟨w.heap.size, 4, none⟩ (.slice B4 (lgf x p.2.2.2.1.1).length d4)).setCell ⟨w.heap.size, 5, none⟩ (.slice B5 p.2.2.2.1.2.length d5)).drew := (bel_drew (bel_put (bel_put (bel_put (bel_put hB4 (p := ⟨w.heap.size, 2, none⟩) (Nat.le_refl _) (.slice B2 (exf x p.2.2.1.1).length d2)) (p := ⟨w.heap.size, 3, none⟩) (Nat.le_refl _) (.slice B3 p.2.2.1.2.length d3)) (p := ⟨w.heap.size, 4, none⟩) (Nat.le_refl _) (.slice B4 (lgf x p.2.2.2.1.1).length d4)) (p := ⟨w.heap.size, 5, none⟩) (Nat.le_refl _) (.slice B5 p.2.2.2.1.2.length d5)))
      have hOP5 : tPool.O (((((w3.alloc (.cells #[.slice B4 (lgf x p.2.2.2.1.1).length d4, .slice B5 p.2.2.2.1.2.length d5] 33)).setCell ⟨w.heap.size, 2, none⟩ (.slice B2 (exf x p.2.2.1.1).length d2)).setCell ⟨w.heap.size, 3, none⟩ (.slice B3 p.2.2.1.2.length d3)).setCell ⟨w.heap.size, 4, none⟩ (.slice B4 (lgf x p.2.2.2.1.1).length d4)).setCell ⟨w.heap.size, 5, none⟩ (.slice B5 p.2.2.2.1.2.length d5)).drew _ _ F2 := (tPool.kept (Ty.far3 (t := tPool) (Ty.far3 (t := tPool) (Ty.far3 (t := tPool) (Ty.far3 (t := tPool) hOP4 (p := ⟨w.heap.size, 2, none⟩) nX2 (.slice B2 (exf x p.2.2.1.1).length d2)) (p := ⟨w.heap.size, 3, none⟩) nX2 (.slice B3 p.2.2.1.2.length d3)) (p := ⟨w.heap.size, 4, none⟩) nX2 (.slice B4 (lgf x p.2.2.2.1.1).length d4)) (p := ⟨w.heap.size, 5, none⟩) nX2 (.slice B5 p.2.2.2.1.2.length d5)) (fun _ _ => rfl))
      have hOD5 : tDesk.O (((((w3.alloc (.cells #[.slice B4 (lgf x p.2.2.2.1.1).length d4, .slice B5 p.2.2.2.1.2.length d5] 33)).setCell ⟨w.heap.size, 2, none⟩ (.slice B2 (exf x p.2.2.1.1).length d2)).setCell ⟨w.heap.size, 3, none⟩ (.slice B3 p.2.2.1.2.length d3)).setCell ⟨w.heap.size, 4, none⟩ (.slice B4 (lgf x p.2.2.2.1.1).length d4)).setCell ⟨w.heap.size, 5, none⟩ (.slice B5 p.2.2.2.1.2.length d5)).drew _ _ F4 := (tDesk.kept (Ty.far3 (t := tDesk) (Ty.far3 (t := tDesk) (Ty.far3 (t := tDesk) (Ty.far3 (t := tDesk) hOD4 (p := ⟨w.heap.size, 2, none⟩) nX4 (.slice B2 (exf x p.2.2.1.1).length d2)) (p := ⟨w.heap.size, 3, none⟩) nX4 (.slice B3 p.2.2.1.2.length d3)) (p := ⟨w.heap.size, 4, none⟩) nX4 (.slice B4 (lgf x p.2.2.2.1.1).length d4)) (p := ⟨w.heap.size, 5, none⟩) nX4 (.slice B5 p.2.2.2.1.2.length d5)) (fun _ _ => rfl))
      obtain ⟨w5, hw5⟩ : ∃ w5, (((((w3.alloc (.cells #[.slice B4 (lgf x p.2.2.2.1.1).length d4, .slice B5 p.2.2.2.1.2.length d5] 33)).setCell ⟨w.heap.size, 2, none⟩ (.slice B2 (exf x p.2.2.1.1).length d2)).setCell ⟨w.heap.size, 3, none⟩ (.slice B3 p.2.2.1.2.length d3)).setCell ⟨w.heap.size, 4, none⟩ (.slice B4 (lgf x p.2.2.2.1.1).length d4)).setCell ⟨w.heap.size, 5, none⟩ (.slice B5 p.2.2.2.1.2.length d5)).drew = w5 := ⟨_, rfl⟩
      have zz5 : w3.heap.size + 1 ≤ w5.heap.size := by rw [← hw5]; simp [World.setCell]
      rw [hw5] at X5 Y5 Bl hOP5 hOD5 ⊢
      clear hw5 hB4 X4 Y4 P4 D4 hOP4 hOD4 xx2 xg2 xx3 xg3 xx4 xg4 xx5 xg5
      have x0 := X5.cell 0
      have x1 := X5.cell 1
      have x2 := X5.cell 2
      have x3 := X5.cell 3
      have x4 := X5.cell 4
      have x5 := X5.cell 5
      have x6 := X5.cell 6
      have y0 := Y5.cell 0; have f0 := Y5.frozen 0
      have y1 := Y5.cell 1; have f1 := Y5.frozen 1
      have y2 := Y5.cell 2; have f2 := Y5.frozen 2
      have y3 := Y5.cell 3; have f3 := Y5.frozen 3
      have y4 := Y5.cell 4; have f4 := Y5.frozen 4
      have y5 := Y5.cell 5; have f5 := Y5.frozen 5
      have y6 := Y5.cell 6; have f6 := Y5.frozen 6
      go_wp2_with fail
      refine (i_NodeCopy (p := tkN p x) (fmakeNodeR (p := tkN p x) h0 h1 (tPool.read hOP5) (tDesk.read hOD5) (tLetter.row.up (tLetter.row.keep hL Bl.block) Bl.size)) hz2).mono ?_
      rintro e w6 ⟨cs6, F, rfl, hO, hN, hb6⟩
      have Y6 := Y5.below hb6 Y5.size
      have u0 := Y6.cell 0; have v0 := Y6.frozen 0
      have u1 := Y6.cell 1; have v1 := Y6.frozen 1
      have u2 := Y6.cell 2; have v2 := Y6.frozen 2
      have u3 := Y6.cell 3; have v3 := Y6.frozen 3
      have u4 := Y6.cell 4; have v4 := Y6.frozen 4
      have u5 := Y6.cell 5; have v5 := Y6.frozen 5
      have u6 := Y6.cell 6; have v6 := Y6.frozen 6
      have hB6 : Below w.heap.size w w6 := bel_trans Bl hb6
      have hM : New (w.heap.size + 2) F := hN.lower (by omega)
      have hO2 := hO
      obtain ⟨G2, g2, G3, g3, G4, g4, G5, g5, G6, g6, H2, H4, H6, rfl, -, -, -, -, -, -⟩ := fopenONode hO2
      clear hO2 x0 y0 f0 x1 y1 f1 x2 y2 f2 x3 y3 f3 x4 y4 f4 x5 y5 f5 x6 y6 f6
      go_wp2
      have RR := (((((((Y6.put 0 (.int .i64 (tkN p x).1)).put 1 (.int .i64 (tkN p x).2.1)).put 2 (.slice G2 (tkN p x).2.2.1.1.length g2)).put 3 (.slice G3 (tkN p x).2.2.1.2.length g3)).put 4 (.slice G4 (tkN p x).2.2.2.1.1.length g4)).put 5 (.slice G5 (tkN p x).2.2.2.1.2.length g5)).put 6 (.slice G6 (tkN p x).2.2.2.2.length g6))
      have e0 := RR.cell 0
      have e1 := RR.cell 1
      have e2 := RR.cell 2
      have e3 := RR.cell 3
      have e4 := RR.cell 4
      have e5 := RR.cell 5
      have e6 := RR.cell 6
      refine bodyPost_ret (v := .tuple #[.agg #[.int .i64 (tkN p x).1, .int .i64 (tkN p x).2.1, .slice G2 (tkN p x).2.2.1.1.length g2, .slice G3 (tkN p x).2.2.1.2.length g3, .slice G4 (tkN p x).2.2.2.1.1.length g4, .slice G5 (tkN p x).2.2.2.1.2.length g5, .slice G6 (tkN p x).2.2.2.2.length g6], .int .i64 (tkK p x)]) (by simp [results, Tryz.results24, go_sem, e0, e1, e2, e3, e4, e5, e6, hwr]) rfl ⟨[.int .i64 (tkN p x).1, .int .i64 (tkN p x).2.1, .slice G2 (tkN p x).2.2.1.1.length g2, .slice G3 (tkN p x).2.2.1.2.length g3, .slice G4 (tkN p x).2.2.2.1.1.length g4, .slice G5 (tkN p x).2.2.2.1.2.length g5, .slice G6 (tkN p x).2.2.2.2.length g6], F, rfl, Ty.far7 hO (by exact hM.not (by omega)) _ _ _ _ _ _ _, hM.lower (by omega), ?_⟩
      exact bel_put7 hB6 (by omega) _ _ _ _ _ _ _
    exact AllReadyH.nil
  exact AllReadyH.nil
end Go.Proofs.YtojbicecopkfbaaGreat
