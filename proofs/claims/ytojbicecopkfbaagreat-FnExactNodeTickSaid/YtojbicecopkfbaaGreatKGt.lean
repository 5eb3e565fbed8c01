/-
  TkP, PTkS: texts joined.
-/
import Derived.Test.YtojbicecopkfbaaGreatKGm
import Derived.Test.YtojbicecopkfbaaGreatKGn
import Derived.Test.YtojbicecopkfbaaGreatKGp
import Derived.Test.YtojbicecopkfbaaGreatKGs
import Derived.Test.YtojbicecopkfbaaGreatKMCpN
import Derived.Test.YtojbicecopkfbaaGreatKX0
namespace Go.Proofs.YtojbicecopkfbaaGreat
set_option linter.unusedVariables false
open Go.ChangeShapes Go.WideShapes Go.ChangeAt Go.RowKit
def TkOk (p : DNode) (x : Int) : Prop := NdOk p ∧ (0 ≤ x ∧ x ≤ 60000)
noncomputable instance (p : DNode) (x : Int) : Decidable (TkOk p x) := Classical.propDecidable _
def tkN (p : DNode) (x : Int) : DNode := (p.1, p.2.1, (exf x p.2.2.1.1, p.2.2.1.2), (lgf x p.2.2.2.1.1, p.2.2.2.1.2), p.2.2.2.2)
def tkK (p : DNode) (x : Int) : Int := ((p.2.2.1.1.length : Int) - ((exf x p.2.2.1.1).length : Int)) + ((p.2.2.2.1.1.length : Int) - ((lgf x p.2.2.2.1.1).length : Int))
noncomputable def fTk (p : DNode) (x : Int) : DNode := if TkOk p x then tkN p x else nwN 0 0
noncomputable def fTkN (p : DNode) (x : Int) : Int := if TkOk p x then tkK p x else -1
theorem fTk_t {p : DNode} {x : Int} (h : TkOk p x) : fTk p x = tkN p x := if_pos h
theorem fTk_f {p : DNode} {x : Int} (h : ¬ TkOk p x) : fTk p x = nwN 0 0 := if_neg h
theorem fTkN_t {p : DNode} {x : Int} (h : TkOk p x) : fTkN p x = tkK p x := if_pos h
theorem fTkN_f {p : DNode} {x : Int} (h : ¬ TkOk p x) : fTkN p x = -1 := if_neg h
theorem tkN_sz (p : DNode) (x : Int) : szNode (tkN p x) ≤ szNode p := by
  have h1 := exf_sz x p.2.2.1.1
  have h2 := lgf_sz x p.2.2.2.1.1
  unfold tkN szNode szPool szDesk
  simp only []
  omega
theorem fTk_sz (p : DNode) (x : Int) : szNode (fTk p x) ≤ szNode p := by
  unfold fTk
  split
  · exact tkN_sz p x
  · show (0 : Nat) ≤ _; omega
theorem Ty.far7 {α : Type} {t : Ty α} {w : World} {cs : List Value} {a : α} {F : List Nat} (h : t.O w cs a F) {g : Nat} (hg : g ∉ F) (u0 u1 u2 u3 u4 u5 u6 : Value) :
    t.O (((((((w.setCell ⟨g, 0, none⟩ u0).setCell ⟨g, 1, none⟩ u1).setCell ⟨g, 2, none⟩ u2).setCell ⟨g, 3, none⟩ u3).setCell ⟨g, 4, none⟩ u4).setCell ⟨g, 5, none⟩ u5).setCell ⟨g, 6, none⟩ u6) cs a F :=
  Ty.far3 (Ty.far3 (Ty.far3 (Ty.far3 (Ty.far3 (Ty.far3 (Ty.far3 h (p := ⟨g, 0, none⟩) hg u0) (p := ⟨g, 1, none⟩) hg u1) (p := ⟨g, 2, none⟩) hg u2) (p := ⟨g, 3, none⟩) hg u3) (p := ⟨g, 4, none⟩) hg u4) (p := ⟨g, 5, none⟩) hg u5) (p := ⟨g, 6, none⟩) hg u6
theorem bel_put7 {a w : World} (h : Below a.heap.size a w) {g : Nat} (hg : a.heap.size ≤ g) (u0 u1 u2 u3 u4 u5 u6 : Value) :
    Below a.heap.size a (((((((w.setCell ⟨g, 0, none⟩ u0).setCell ⟨g, 1, none⟩ u1).setCell ⟨g, 2, none⟩ u2).setCell ⟨g, 3, none⟩ u3).setCell ⟨g, 4, none⟩ u4).setCell ⟨g, 5, none⟩ u5).setCell ⟨g, 6, none⟩ u6) :=
  bel_put (bel_put (bel_put (bel_put (bel_put (bel_put (bel_put h hg _) hg _) hg _) hg _) hg _) hg _) hg _
theorem fmakeNodeR {w : World} {B : Nat} {p : DNode} {v2 v3 v4 v5 v6 : Value} (h0 : (Lit.int .i64 p.1).wf = true) (h1 : (Lit.int .i64 p.2.1).wf = true) (h2 : tPool.R w B [v2, v3] p.2.2.1) (h4 : tDesk.R w B [v4, v5] p.2.2.2.1) (h6 : tLetter.row.R w B [v6] p.2.2.2.2) : tNode.R w B [.int .i64 p.1, .int .i64 p.2.1, v2, v3, v4, v5, v6] p :=
  ⟨_, _, rfl, ⟨rfl, h0⟩, ⟨_, _, rfl, ⟨rfl, h1⟩, ⟨_, _, rfl, h2, ⟨_, _, rfl, h4, h6⟩⟩⟩⟩
end Go.Proofs.YtojbicecopkfbaaGreat
namespace Go.Proofs.YtojbicecopkfbaaGreat
set_option maxRecDepth 100000
set_option linter.unusedVariables false
set_option linter.unusedSimpArgs false
open Go.ChangeShapes Go.WideShapes Go.ChangeAt Go.RowKit
open Fld
theorem s_l6now (x : Int) (w : World) : Calls Tryz.prog 67 #[.int .i64 x] w fun e w' => e = .returned (.bool (decide (0 ≤ x ∧ x ≤ 60000))) ∧ w = w' := by
  by_cases h1 : 0 ≤ x
  · by_cases h2 : x ≤ 60000
    · have HR := Lib.hid (show decide (0 ≤ x ∧ x ≤ 60000) = true from decide_eq_true ⟨h1, h2⟩)
      rw [HR.out]
      go_enter Tryz.func67, Tryz.ntmps67
      go_wp2
      go_ret
      exact ⟨by first | rfl | (simp; done) | (simp; omega), rfl⟩
    · have HR := Lib.hid (show decide (0 ≤ x ∧ x ≤ 60000) = false from decide_eq_false fun h => h2 h.2)
      rw [HR.out]
      go_enter Tryz.func67, Tryz.ntmps67
      go_wp2
      go_ret
      exact ⟨by first | rfl | (simp; done) | (simp; omega), rfl⟩
  · have HR := Lib.hid (show decide (0 ≤ x ∧ x ≤ 60000) = false from decide_eq_false fun h => h1 h.1)
    rw [HR.out]
    go_enter Tryz.func67, Tryz.ntmps67
    go_wp2
    go_ret
    exact ⟨by first | rfl | (simp; done) | (simp; omega), rfl⟩
theorem GrowR.lower {α : Type} {t : Ty α} {e : TypeId} {w : World} {base base' B : Nat} {v : Value} {l : List α} (h : GrowR t e w base B v l) (hb : base' ≤ base) : GrowR t e w base' B v l := by
  obtain ⟨css, h1, h2, h3⟩ := h
  obtain ⟨a1, a2⟩ := h1
  exact ⟨css, ⟨a1, a2.imp id fun ⟨g, cap, cur, q1, q2, q3⟩ => ⟨g, cap, cur, q1, Nat.le_trans hb q2, q3⟩⟩, h2, h3⟩
set_option maxHeartbeats 4000000 in
theorem s_l6tick {w : World} {p : DNode} {A2 A3 A4 A5 A6 : Option Addr} {n2 c2 n3 c3 n4 c4 n5 c5 n6 c6 : Nat} {x : Int} (h : tNode.R w w.heap.size [.int .i64 p.1, .int .i64 p.2.1, .slice A2 n2 c2, .slice A3 n3 c3, .slice A4 n4 c4, .slice A5 n5 c5, .slice A6 n6 c6] p) (hn2 : n2 ≤ 12) (hn4 : n4 ≤ 12) (hx : (Lit.int .i64 x).wf = true) :
    Calls Tryz.prog 68 #[.agg #[.int .i64 p.1, .int .i64 p.2.1, .slice A2 n2 c2, .slice A3 n3 c3, .slice A4 n4 c4, .slice A5 n5 c5, .slice A6 n6 c6], .int .i64 x] w fun e w' => ∃ B2 d2 B4 d4, e = .returned (.tuple #[.agg #[.int .i64 p.1, .int .i64 p.2.1, .slice B2 (exf x p.2.2.1.1).length d2, .slice A3 n3 c3, .slice B4 (lgf x p.2.2.2.1.1).length d4, .slice A5 n5 c5, .slice A6 n6 c6], .int .i64 (tkK p x)]) ∧ tNode.R w' w'.heap.size [.int .i64 p.1, .int .i64 p.2.1, .slice B2 (exf x p.2.2.1.1).length d2, .slice A3 n3 c3, .slice B4 (lgf x p.2.2.2.1.1).length d4, .slice A5 n5 c5, .slice A6 n6 c6] (tkN p x) ∧ Below w.heap.size w w' := by
  obtain ⟨a2, m2, e2, a3, m3, e3, a4, m4, e4, a5, m5, e5, a6, m6, e6, hcs, h0, h1, -, -, l2, hr2, -, -, l3, hr3, -, -, l4, hr4, -, -, l5, hr5, -, -, l6, hr6⟩ := openNode h
  simp only [List.cons.injEq, Value.slice.injEq, and_true, true_and] at hcs
  obtain ⟨⟨rfl, rfl, rfl⟩, ⟨rfl, rfl, rfl⟩, ⟨rfl, rfl, rfl⟩, ⟨rfl, rfl, rfl⟩, ⟨rfl, rfl, rfl⟩⟩ := hcs
  have HK := Lib.hid (show tkK p x = ((n2 : Int) - ((exf x p.2.2.1.1).length : Int)) + ((n4 : Int) - ((lgf x p.2.2.2.1.1).length : Int)) by unfold tkK; rw [l2, l4])
  have le2 : (exf x p.2.2.1.1).length ≤ n2 := by have := exf_len x p.2.2.1.1; omega
  have le4 : (lgf x p.2.2.2.1.1).length ≤ n4 := by have := lgf_len x p.2.2.2.1.1; omega
  have hwr : IntKind.i64.wrap (((n2 : Int) - ((exf x p.2.2.1.1).length : Int)) + ((n4 : Int) - ((lgf x p.2.2.2.1.1).length : Int))) = ((n2 : Int) - ((exf x p.2.2.1.1).length : Int)) + ((n4 : Int) - ((lgf x p.2.2.2.1.1).length : Int)) := IntWalk.i64_in _ (by omega)
  rw [HK.out]
  clear h l2 l3 l4 l5 l6
  go_enter Tryz.func68, Tryz.ntmps68
  go_wp2_with fail
  refine (s_expire5G (B := w.heap.size) (A1 := A3) (n1 := n3) (c1 := c3) (tHeld.row.keep hr2 (fun b hb => (show Below w.heap.size w _ from (belx)).block b hb)) (by first | (simp; done) | (simp; omega)) hn2 hx).mono ?_
  rintro e w1 ⟨B2, d2, rfl, hG2, hb1⟩
  have X1 : Box w1 w.heap.size 58 #[.int .i64 p.1, .int .i64 p.2.1, .slice A2 n2 c2, .slice A3 n3 c3, .slice A4 n4 c4, .slice A5 n5 c5, .slice A6 n6 c6] := Box.below ((Box.new _ _ _).alloc _) hb1 (by first | (simp; done) | (simp; omega))
  have Y1 : Box w1 (w.heap.size + 1) 58 #[.int .i64 0, .int .i64 0, .slice none 0 0, .slice none 0 0, .slice none 0 0, .slice none 0 0, .slice none 0 0] := Box.below (by simpa using Box.new (w.alloc _) 58 #[.int .i64 0, .int .i64 0, .slice none 0 0, .slice none 0 0, .slice none 0 0, .slice none 0 0, .slice none 0 0]) hb1 (by first | (simp; done) | (simp; omega))
  have hB1 : Below w.heap.size w w1 := bel_trans (belx) hb1
  have z1 : w.heap.size + 2 ≤ w1.heap.size := by have := hb1.size; simpa using this
  have hG2' : GrowR tHeld 121 w1 (w.heap.size + 2) w.heap.size (.slice B2 (exf x p.2.2.1.1).length d2) (exf x p.2.2.1.1) := hG2.lower (by first | (simp; done) | (simp; omega))
  clear hb1 hG2
  have x0 := X1.cell 0
  have x1 := X1.cell 1
  have x2 := X1.cell 2
  have x3 := X1.cell 3
  have x4 := X1.cell 4
  have x5 := X1.cell 5
  have x6 := X1.cell 6
  have XP := X1.alloc (.cells #[.slice B2 (exf x p.2.2.1.1).length d2, .slice A3 n3 c3] 55)
  have xp4 := XP.cell 4; have xp5 := XP.cell 5
  go_wp2_with fail
  refine (s_letgo4G (B := w.heap.size) (A1 := A5) (n1 := n5) (c1 := c5) (tWhole.row.keep hr4 (fun b hb => (show Below w.heap.size w _ from bel_alloc hB1 _).block b hb)) (by first | (simp; done) | (simp; omega)) hn4 hx).mono ?_
  rintro e w2 ⟨B4, d4, rfl, hG4, hb2⟩
  have P2 : Box w2 w1.heap.size 55 #[.slice B2 (exf x p.2.2.1.1).length d2, .slice A3 n3 c3] := Box.below (Box.new _ _ _) hb2 (by simp)
  have X2 := Box.below (X1.alloc (.cells #[.slice B2 (exf x p.2.2.1.1).length d2, .slice A3 n3 c3] 55)) hb2 (by first | (simp; done) | (simp; omega))
  have Y2 := Box.below (Y1.alloc (.cells #[.slice B2 (exf x p.2.2.1.1).length d2, .slice A3 n3 c3] 55)) hb2 (by first | (simp; done) | (simp; omega))
  have hs2 : Below w1.heap.size w1 w2 := bel_trans (belx) hb2
  have hB2 : Below w.heap.size w w2 := bel_trans hB1 hs2
  have z2 : w1.heap.size + 1 ≤ w2.heap.size := by have := hb2.size; simpa using this
  have hH2 := hG2'.below hs2 (by omega)
  have hH4 : GrowR tWhole 86 w2 (w.heap.size + 2) w.heap.size (.slice B4 (lgf x p.2.2.2.1.1).length d4) (lgf x p.2.2.2.1.1) := hG4.lower (by first | (simp; done) | (simp; omega))
  clear hG2' hG4 hb2 XP xp4 xp5
  clear x0 x1 x2 x3 x4 x5 x6
  have ne1 : ¬ w1.heap.size = w.heap.size := by omega
  have ne2 : ¬ w2.heap.size = w.heap.size := by omega
  have ne3 : ¬ w.heap.size = w1.heap.size := by omega
  have ne4 : ¬ w.heap.size = w2.heap.size := by omega
  have ne5 : ¬ w2.heap.size = w1.heap.size := by omega
  have DW : (.cells #[.slice B4 (lgf x p.2.2.2.1.1).length d4, .slice A5 n5 c5] 33 : Obj) = (.cells #[.slice B4 (lgf x p.2.2.2.1.1).length d4, .slice A5 n5 c5] 33 : Obj) := rfl
  have D3 : Box (w2.alloc (.cells #[.slice B4 (lgf x p.2.2.2.1.1).length d4, .slice A5 n5 c5] 33)) w2.heap.size 33 #[.slice B4 (lgf x p.2.2.2.1.1).length d4, .slice A5 n5 c5] := Box.new _ _ _
  have P3 := P2.alloc (.cells #[.slice B4 (lgf x p.2.2.2.1.1).length d4, .slice A5 n5 c5] 33)
  have X3 := X2.alloc (.cells #[.slice B4 (lgf x p.2.2.2.1.1).length d4, .slice A5 n5 c5] 33)
  have Y3 := Y2.alloc (.cells #[.slice B4 (lgf x p.2.2.2.1.1).length d4, .slice A5 n5 c5] 33)
  have hB3 : Below w.heap.size w (w2.alloc (.cells #[.slice B4 (lgf x p.2.2.2.1.1).length d4, .slice A5 n5 c5] 33)) := bel_alloc hB2 _
  have hI2 := hH2.below (show Below w2.heap.size w2 (w2.alloc (.cells #[.slice B4 (lgf x p.2.2.2.1.1).length d4, .slice A5 n5 c5] 33)) from (belx)) (by omega)
  have hI4 := hH4.below (show Below w2.heap.size w2 (w2.alloc (.cells #[.slice B4 (lgf x p.2.2.2.1.1).length d4, .slice A5 n5 c5] 33)) from (belx)) (by omega)
  have x0 := X3.cell 0; have g0 := X3.frozen 0
  have x1 := X3.cell 1; have g1 := X3.frozen 1
  have x2 := X3.cell 2; have g2 := X3.frozen 2
  have x3 := X3.cell 3; have g3 := X3.frozen 3
  have x4 := X3.cell 4; have g4 := X3.frozen 4
  have x5 := X3.cell 5; have g5 := X3.frozen 5
  have x6 := X3.cell 6; have g6 := X3.frozen 6
  have y0 := Y3.cell 0; have f0 := Y3.frozen 0
  have y1 := Y3.cell 1; have f1 := Y3.frozen 1
  have y2 := Y3.cell 2; have f2 := Y3.frozen 2
  have y3 := Y3.cell 3; have f3 := Y3.frozen 3
  have y4 := Y3.cell 4; have f4 := Y3.frozen 4
  have y5 := Y3.cell 5; have f5 := Y3.frozen 5
  have y6 := Y3.cell 6; have f6 := Y3.frozen 6
  have p0 := P3.cell 0; have p1 := P3.cell 1; have q0 := D3.cell 0; have q1 := D3.cell 1
  go_wp2
  have RR := (((((((((((Y3.far (p := ⟨w.heap.size, 2, none⟩) (by show w.heap.size + 1 ≠ w.heap.size; omega) (.slice B2 (exf x p.2.2.1.1).length d2)).far (p := ⟨w.heap.size, 3, none⟩) (by show w.heap.size + 1 ≠ w.heap.size; omega) (.slice A3 n3 c3)).far (p := ⟨w.heap.size, 4, none⟩) (by show w.heap.size + 1 ≠ w.heap.size; omega) (.slice B4 (lgf x p.2.2.2.1.1).length d4)).far (p := ⟨w.heap.size, 5, none⟩) (by show w.heap.size + 1 ≠ w.heap.size; omega) (.slice A5 n5 c5)).put 0 (.int .i64 p.1)).put 1 (.int .i64 p.2.1)).put 2 (.slice B2 (exf x p.2.2.1.1).length d2)).put 3 (.slice A3 n3 c3)).put 4 (.slice B4 (lgf x p.2.2.2.1.1).length d4)).put 5 (.slice A5 n5 c5)).put 6 (.slice A6 n6 c6))
  have e0 := RR.cell 0
  have e1 := RR.cell 1
  have e2 := RR.cell 2
  have e3 := RR.cell 3
  have e4 := RR.cell 4
  have e5 := RR.cell 5
  have e6 := RR.cell 6
  have J2 := (((((((((((hI2.put (p := ⟨w.heap.size, 2, none⟩) (by show w.heap.size < _; omega) (by show _ ≤ w.heap.size; omega) (.slice B2 (exf x p.2.2.1.1).length d2)).put (p := ⟨w.heap.size, 3, none⟩) (by show w.heap.size < _; omega) (by show _ ≤ w.heap.size; omega) (.slice A3 n3 c3)).put (p := ⟨w.heap.size, 4, none⟩) (by show w.heap.size < _; omega) (by show _ ≤ w.heap.size; omega) (.slice B4 (lgf x p.2.2.2.1.1).length d4)).put (p := ⟨w.heap.size, 5, none⟩) (by show w.heap.size < _; omega) (by show _ ≤ w.heap.size; omega) (.slice A5 n5 c5)).put (p := ⟨(w.heap.size + 1), 0, none⟩) (by show (w.heap.size + 1) < _; omega) (by show _ ≤ (w.heap.size + 1); omega) (.int .i64 p.1)).put (p := ⟨(w.heap.size + 1), 1, none⟩) (by show (w.heap.size + 1) < _; omega) (by show _ ≤ (w.heap.size + 1); omega) (.int .i64 p.2.1)).put (p := ⟨(w.heap.size + 1), 2, none⟩) (by show (w.heap.size + 1) < _; omega) (by show _ ≤ (w.heap.size + 1); omega) (.slice B2 (exf x p.2.2.1.1).length d2)).put (p := ⟨(w.heap.size + 1), 3, none⟩) (by show (w.heap.size + 1) < _; omega) (by show _ ≤ (w.heap.size + 1); omega) (.slice A3 n3 c3)).put (p := ⟨(w.heap.size + 1), 4, none⟩) (by show (w.heap.size + 1) < _; omega) (by show _ ≤ (w.heap.size + 1); omega) (.slice B4 (lgf x p.2.2.2.1.1).length d4)).put (p := ⟨(w.heap.size + 1), 5, none⟩) (by show (w.heap.size + 1) < _; omega) (by show _ ≤ (w.heap.size + 1); omega) (.slice A5 n5 c5)).put (p := ⟨(w.heap.size + 1), 6, none⟩) (by show (w.heap.size + 1) < _; omega) (by show _ ≤ (w.heap.size + 1); omega) (.slice A6 n6 c6))
  have J4 := (((((((((((hI4.put (p := ⟨w.heap.size, 2, none⟩) (by show w.heap.size < _; omega) (by show _ ≤ w.heap.size; omega) (.slice B2 (exf x p.2.2.1.1).length d2)).put (p := ⟨w.heap.size, 3, none⟩) (by show w.heap.size < _; omega) (by show _ ≤ w.heap.size; omega) (.slice A3 n3 c3)).put (p := ⟨w.heap.size, 4, none⟩) (by show w.heap.size < _; omega) (by show _ ≤ w.heap.size; omega) (.slice B4 (lgf x p.2.2.2.1.1).length d4)).put (p := ⟨w.heap.size, 5, none⟩) (by show w.heap.size < _; omega) (by show _ ≤ w.heap.size; omega) (.slice A5 n5 c5)).put (p := ⟨(w.heap.size + 1), 0, none⟩) (by show (w.heap.size + 1) < _; omega) (by show _ ≤ (w.heap.size + 1); omega) (.int .i64 p.1)).put (p := ⟨(w.heap.size + 1), 1, none⟩) (by show (w.heap.size + 1) < _; omega) (by show _ ≤ (w.heap.size + 1); omega) (.int .i64 p.2.1)).put (p := ⟨(w.heap.size + 1), 2, none⟩) (by show (w.heap.size + 1) < _; omega) (by show _ ≤ (w.heap.size + 1); omega) (.slice B2 (exf x p.2.2.1.1).length d2)).put (p := ⟨(w.heap.size + 1), 3, none⟩) (by show (w.heap.size + 1) < _; omega) (by show _ ≤ (w.heap.size + 1); omega) (.slice A3 n3 c3)).put (p := ⟨(w.heap.size + 1), 4, none⟩) (by show (w.heap.size + 1) < _; omega) (by show _ ≤ (w.heap.size + 1); omega) (.slice B4 (lgf x p.2.2.2.1.1).length d4)).put (p := ⟨(w.heap.size + 1), 5, none⟩) (by show (w.heap.size + 1) < _; omega) (by show _ ≤ (w.heap.size + 1); omega) (.slice A5 n5 c5)).put (p := ⟨(w.heap.size + 1), 6, none⟩) (by show (w.heap.size + 1) < _; omega) (by show _ ≤ (w.heap.size + 1); omega) (.slice A6 n6 c6))
  have BF := (bel_put (bel_put (bel_put (bel_put (bel_put (bel_put (bel_put (bel_put (bel_put (bel_put (bel_put hB3 (p := ⟨w.heap.size, 2, none⟩) (by show _ ≤ w.heap.size; omega) (.slice B2 (exf x p.2.2.1.1).length d2)) (p := ⟨w.heap.size, 3, none⟩) (by show _ ≤ w.heap.size; omega) (.slice A3 n3 c3)) (p := ⟨w.heap.size, 4, none⟩) (by show _ ≤ w.heap.size; omega) (.slice B4 (lgf x p.2.2.2.1.1).length d4)) (p := ⟨w.heap.size, 5, none⟩) (by show _ ≤ w.heap.size; omega) (.slice A5 n5 c5)) (p := ⟨(w.heap.size + 1), 0, none⟩) (by show _ ≤ (w.heap.size + 1); omega) (.int .i64 p.1)) (p := ⟨(w.heap.size + 1), 1, none⟩) (by show _ ≤ (w.heap.size + 1); omega) (.int .i64 p.2.1)) (p := ⟨(w.heap.size + 1), 2, none⟩) (by show _ ≤ (w.heap.size + 1); omega) (.slice B2 (exf x p.2.2.1.1).length d2)) (p := ⟨(w.heap.size + 1), 3, none⟩) (by show _ ≤ (w.heap.size + 1); omega) (.slice A3 n3 c3)) (p := ⟨(w.heap.size + 1), 4, none⟩) (by show _ ≤ (w.heap.size + 1); omega) (.slice B4 (lgf x p.2.2.2.1.1).length d4)) (p := ⟨(w.heap.size + 1), 5, none⟩) (by show _ ≤ (w.heap.size + 1); omega) (.slice A5 n5 c5)) (p := ⟨(w.heap.size + 1), 6, none⟩) (by show _ ≤ (w.heap.size + 1); omega) (.slice A6 n6 c6))
  refine bodyPost_ret (v := .tuple #[.agg #[.int .i64 p.1, .int .i64 p.2.1, .slice B2 (exf x p.2.2.1.1).length d2, .slice A3 n3 c3, .slice B4 (lgf x p.2.2.2.1.1).length d4, .slice A5 n5 c5, .slice A6 n6 c6], .int .i64 (((n2 : Int) - ((exf x p.2.2.1.1).length : Int)) + ((n4 : Int) - ((lgf x p.2.2.2.1.1).length : Int)))]) (by simp [results, Tryz.results68, go_sem, e0, e1, e2, e3, e4, e5, e6, hwr]) rfl ⟨B2, d2, B4, d4, rfl, ?_, BF⟩
  have hb := BF.size
  exact makeNode (p := tkN p x) h0 h1 (J2.doneAs hb) (tIs.up (tIs.keep hr3 BF.block) hb) (J4.doneAs hb) (tIs.up (tIs.keep hr5 BF.block) hb) (tLetter.row.up (tLetter.row.keep hr6 BF.block) hb)
set_option maxHeartbeats 4000000 in
theorem s_NodeTick {w : World} {cs : List Value} {p : DNode} {x : Int} (h : tNode.R w w.heap.size cs p) (hz : szNode p ≤ 1048576) (hx : (Lit.int .i64 x).wf = true) :
    Calls Tryz.prog 22 #[.agg cs.toArray, .int .i64 x] w fun e w' => ∃ cs' F, e = .returned (.tuple #[.agg cs'.toArray, .int .i64 (fTkN p x)]) ∧ tNode.O w' cs' (fTk p x) F ∧ New w.heap.size F ∧ Below w.heap.size w w' := by
  obtain ⟨A2, n2, c2, A3, n3, c3, A4, n4, c4, A5, n5, c5, A6, n6, c6, rfl, h0, h1, hP, hD, hL⟩ := fopenNode h
  by_cases hp : NdOk p
  rotate_left
  · have HP := Lib.hid (decide_eq_false hp)
    rw [fTk_f (fun h => hp h.1), fTkN_f (fun h => hp h.1)]
    clear hp
    go_enter Tryz.func22, Tryz.ntmps22
    go_wp2_with fail
    refine (s_NodeOk (tNode.reach h ?hB) hz).mono ?_
    case hB => exact (belx)
    rintro e w1 ⟨rfl, hb1⟩
    rw [HP.out]
    have X1 : Box w1 w.heap.size 58 #[.int .i64 p.1, .int .i64 p.2.1, .slice A2 n2 c2, .slice A3 n3 c3, .slice A4 n4 c4, .slice A5 n5 c5, .slice A6 n6 c6] := Box.below ((Box.new _ _ _).alloc _) hb1 (by first | (simp; done) | (simp; omega))
    have Y1 : Box w1 (w.heap.size + 1) 58 #[.int .i64 0, .int .i64 0, .slice none 0 0, .slice none 0 0, .slice none 0 0, .slice none 0 0, .slice none 0 0] := Box.below (by simpa using Box.new (w.alloc _) 58 #[.int .i64 0, .int .i64 0, .slice none 0 0, .slice none 0 0, .slice none 0 0, .slice none 0 0, .slice none 0 0]) hb1 (by first | (simp; done) | (simp; omega))
    have hB1 : Below w.heap.size w w1 := bel_trans (belx) hb1
    have z1 : w.heap.size + 2 ≤ w1.heap.size := by have := hb1.size; simpa using this
    have x0 := X1.cell 0
    have x1 := X1.cell 1
    have x2 := X1.cell 2
    have x3 := X1.cell 3
    have x4 := X1.cell 4
    have x5 := X1.cell 5
    have x6 := X1.cell 6
    have y0 := Y1.cell 0; have f0 := Y1.frozen 0
    have y1 := Y1.cell 1; have f1 := Y1.frozen 1
    have y2 := Y1.cell 2; have f2 := Y1.frozen 2
    have y3 := Y1.cell 3; have f3 := Y1.frozen 3
    have y4 := Y1.cell 4; have f4 := Y1.frozen 4
    have y5 := Y1.cell 5; have f5 := Y1.frozen 5
    have y6 := Y1.cell 6; have f6 := Y1.frozen 6
    clear hb1
    go_wp2
    have RR := (((((((Y1.put 0 (.int .i64 0)).put 1 (.int .i64 0)).put 2 (.slice none 0 0)).put 3 (.slice none 0 0)).put 4 (.slice none 0 0)).put 5 (.slice none 0 0)).put 6 (.slice none 0 0))
    have e0 := RR.cell 0
    have e1 := RR.cell 1
    have e2 := RR.cell 2
    have e3 := RR.cell 3
    have e4 := RR.cell 4
    have e5 := RR.cell 5
    have e6 := RR.cell 6
    refine bodyPost_ret (v := .tuple #[.agg #[.int .i64 0, .int .i64 0, .slice none 0 0, .slice none 0 0, .slice none 0 0, .slice none 0 0, .slice none 0 0], .int .i64 (-1)]) (by simp [results, Tryz.results22, go_sem, e0, e1, e2, e3, e4, e5, e6]) rfl ⟨[.int .i64 0, .int .i64 0, .slice none 0 0, .slice none 0 0, .slice none 0 0, .slice none 0 0, .slice none 0 0], [], rfl, Ty.far7 (nwO (by decide) (by decide)) (by simp) _ _ _ _ _ _ _, New.nil _, ?_⟩
    exact bel_put7 hB1 (by omega) _ _ _ _ _ _ _
  have HP := Lib.hid (decide_eq_true hp)
  by_cases hq : 0 ≤ x ∧ x ≤ 60000
  rotate_left
  · have HQ := Lib.hid (decide_eq_false hq)
    rw [fTk_f (fun h => hq h.2), fTkN_f (fun h => hq h.2)]
    clear hp hq
    go_enter Tryz.func22, Tryz.ntmps22
    go_wp2_with fail
    refine (s_NodeOk (tNode.reach h ?hB) hz).mono ?_
    case hB => exact (belx)
    rintro e w1 ⟨rfl, hb1⟩
    rw [HP.out]
    have X1 : Box w1 w.heap.size 58 #[.int .i64 p.1, .int .i64 p.2.1, .slice A2 n2 c2, .slice A3 n3 c3, .slice A4 n4 c4, .slice A5 n5 c5, .slice A6 n6 c6] := Box.below ((Box.new _ _ _).alloc _) hb1 (by first | (simp; done) | (simp; omega))
    have Y1 : Box w1 (w.heap.size + 1) 58 #[.int .i64 0, .int .i64 0, .slice none 0 0, .slice none 0 0, .slice none 0 0, .slice none 0 0, .slice none 0 0] := Box.below (by simpa using Box.new (w.alloc _) 58 #[.int .i64 0, .int .i64 0, .slice none 0 0, .slice none 0 0, .slice none 0 0, .slice none 0 0, .slice none 0 0]) hb1 (by first | (simp; done) | (simp; omega))
    have hB1 : Below w.heap.size w w1 := bel_trans (belx) hb1
    have z1 : w.heap.size + 2 ≤ w1.heap.size := by have := hb1.size; simpa using this
    have x0 := X1.cell 0
    have x1 := X1.cell 1
    have x2 := X1.cell 2
    have x3 := X1.cell 3
    have x4 := X1.cell 4
    have x5 := X1.cell 5
    have x6 := X1.cell 6
    have y0 := Y1.cell 0; have f0 := Y1.frozen 0
    have y1 := Y1.cell 1; have f1 := Y1.frozen 1
    have y2 := Y1.cell 2; have f2 := Y1.frozen 2
    have y3 := Y1.cell 3; have f3 := Y1.frozen 3
    have y4 := Y1.cell 4; have f4 := Y1.frozen 4
    have y5 := Y1.cell 5; have f5 := Y1.frozen 5
    have y6 := Y1.cell 6; have f6 := Y1.frozen 6
    clear hb1
    go_wp2_with fail
    refine (s_l6now x _).mono ?_
    rintro e w' ⟨rfl, rfl⟩
    rw [HQ.out]
    go_wp2
    have RR := (((((((Y1.put 0 (.int .i64 0)).put 1 (.int .i64 0)).put 2 (.slice none 0 0)).put 3 (.slice none 0 0)).put 4 (.slice none 0 0)).put 5 (.slice none 0 0)).put 6 (.slice none 0 0))
    have e0 := RR.cell 0
    have e1 := RR.cell 1
    have e2 := RR.cell 2
    have e3 := RR.cell 3
    have e4 := RR.cell 4
    have e5 := RR.cell 5
    have e6 := RR.cell 6
    refine bodyPost_ret (v := .tuple #[.agg #[.int .i64 0, .int .i64 0, .slice none 0 0, .slice none 0 0, .slice none 0 0, .slice none 0 0, .slice none 0 0], .int .i64 (-1)]) (by simp [results, Tryz.results22, go_sem, e0, e1, e2, e3, e4, e5, e6]) rfl ⟨[.int .i64 0, .int .i64 0, .slice none 0 0, .slice none 0 0, .slice none 0 0, .slice none 0 0, .slice none 0 0], [], rfl, Ty.far7 (nwO (by decide) (by decide)) (by simp) _ _ _ _ _ _ _, New.nil _, ?_⟩
    exact bel_put7 hB1 (by omega) _ _ _ _ _ _ _
  have HQ := Lib.hid (decide_eq_true hq)
  rw [fTk_t ⟨hp, hq⟩, fTkN_t ⟨hp, hq⟩]
  have hz2 : szNode (tkN p x) ≤ 1048576 := by have := tkN_sz p x; omega
  have hnn : n2 ≤ 12 ∧ n4 ≤ 12 := by
    obtain ⟨a2, m2, e2, a3, m3, e3, a4, m4, e4, a5, m5, e5, a6, m6, e6, hcs, -, -, -, -, l2, -, -, -, -, -, -, -, l4, -⟩ := openNode h
    simp only [List.cons.injEq, Value.slice.injEq, and_true, true_and] at hcs
    obtain ⟨⟨rfl, rfl, rfl⟩, -, ⟨rfl, rfl, rfl⟩, -⟩ := hcs
    have := hp.2.2.1.1; have := hp.2.2.2.1.1; exact ⟨by omega, by omega⟩
  clear hp hq
  go_enter Tryz.func22, Tryz.ntmps22
  go_wp2_with fail
  refine (s_NodeOk (tNode.reach h ?hB) hz).mono ?_
  case hB => exact (belx)
  rintro e w1 ⟨rfl, hb1⟩
  rw [HP.out]
  have X1 : Box w1 w.heap.size 58 #[.int .i64 p.1, .int .i64 p.2.1, .slice A2 n2 c2, .slice A3 n3 c3, .slice A4 n4 c4, .slice A5 n5 c5, .slice A6 n6 c6] := Box.below ((Box.new _ _ _).alloc _) hb1 (by first | (simp; done) | (simp; omega))
  have Y1 : Box w1 (w.heap.size + 1) 58 #[.int .i64 0, .int .i64 0, .slice none 0 0, .slice none 0 0, .slice none 0 0, .slice none 0 0, .slice none 0 0] := Box.below (by simpa using Box.new (w.alloc _) 58 #[.int .i64 0, .int .i64 0, .slice none 0 0, .slice none 0 0, .slice none 0 0, .slice none 0 0, .slice none 0 0]) hb1 (by first | (simp; done) | (simp; omega))
  have hB1 : Below w.heap.size w w1 := bel_trans (belx) hb1
  have z1 : w.heap.size + 2 ≤ w1.heap.size := by have := hb1.size; simpa using this
  have x0 := X1.cell 0
  have x1 := X1.cell 1
  have x2 := X1.cell 2
  have x3 := X1.cell 3
  have x4 := X1.cell 4
  have x5 := X1.cell 5
  have x6 := X1.cell 6
  have y0 := Y1.cell 0; have f0 := Y1.frozen 0
  have y1 := Y1.cell 1; have f1 := Y1.frozen 1
  have y2 := Y1.cell 2; have f2 := Y1.frozen 2
  have y3 := Y1.cell 3; have f3 := Y1.frozen 3
  have y4 := Y1.cell 4; have f4 := Y1.frozen 4
  have y5 := Y1.cell 5; have f5 := Y1.frozen 5
  have y6 := Y1.cell 6; have f6 := Y1.frozen 6
  clear hb1
  go_wp2_with fail
  refine (s_l6now x _).mono ?_
  rintro e w' ⟨rfl, rfl⟩
  rw [HQ.out]
  go_wp2_with fail
  refine (s_l6tick (tNode.reach h hB1) hnn.1 hnn.2 hx).mono ?_
  rintro e w2 ⟨B2, d2, B4, d4, rfl, hR2, hb2⟩
  have Y2 := Y1.below hb2 Y1.size
  have hB2 : Below w.heap.size w w2 := bel_trans hB1 hb2
  have z2 : w.heap.size + 2 ≤ w2.heap.size := Nat.le_trans z1 hb2.size
  clear x0 y0 f0 x1 y1 f1 x2 y2 f2 x3 y3 f3 x4 y4 f4 x5 y5 f5 x6 y6 f6
  go_wp2_with fail
  refine (s_NodeOwn (tNode.reach hR2 ?hB) hz2).mono ?_
  case hB => exact (belx)
  rintro e w3 ⟨cs3, F, rfl, hO, hN, hb3⟩
  have Y3 := Box.below (Y2.alloc (.cells #[.int .i64 p.1, .int .i64 p.2.1, .slice B2 (exf x p.2.2.1.1).length d2, .slice A3 n3 c3, .slice B4 (lgf x p.2.2.2.1.1).length d4, .slice A5 n5 c5, .slice A6 n6 c6] 58)) hb3 (by first | (simp; done) | (simp; omega))
  have y0 := Y3.cell 0; have f0 := Y3.frozen 0
  have y1 := Y3.cell 1; have f1 := Y3.frozen 1
  have y2 := Y3.cell 2; have f2 := Y3.frozen 2
  have y3 := Y3.cell 3; have f3 := Y3.frozen 3
  have y4 := Y3.cell 4; have f4 := Y3.frozen 4
  have y5 := Y3.cell 5; have f5 := Y3.frozen 5
  have y6 := Y3.cell 6; have f6 := Y3.frozen 6
  have hB3 : Below w.heap.size w w3 := bel_trans hB2 (bel_trans (belx) hb3)
  have hM : New (w.heap.size + 2) F := hN.lower (by first | (simp; done) | (simp; omega))
  have hO2 := hO
  obtain ⟨G2, d2, G3, d3, G4, d4, G5, d5, G6, d6, H2, H4, H6, rfl, -, -, -, -, -, -⟩ := fopenONode hO2
  clear hO2
  go_wp2
  have RR := (((((((Y3.put 0 (.int .i64 (tkN p x).1)).put 1 (.int .i64 (tkN p x).2.1)).put 2 (.slice G2 (tkN p x).2.2.1.1.length d2)).put 3 (.slice G3 (tkN p x).2.2.1.2.length d3)).put 4 (.slice G4 (tkN p x).2.2.2.1.1.length d4)).put 5 (.slice G5 (tkN p x).2.2.2.1.2.length d5)).put 6 (.slice G6 (tkN p x).2.2.2.2.length d6))
  have e0 := RR.cell 0
  have e1 := RR.cell 1
  have e2 := RR.cell 2
  have e3 := RR.cell 3
  have e4 := RR.cell 4
  have e5 := RR.cell 5
  have e6 := RR.cell 6
  refine bodyPost_ret (v := .tuple #[.agg #[.int .i64 (tkN p x).1, .int .i64 (tkN p x).2.1, .slice G2 (tkN p x).2.2.1.1.length d2, .slice G3 (tkN p x).2.2.1.2.length d3, .slice G4 (tkN p x).2.2.2.1.1.length d4, .slice G5 (tkN p x).2.2.2.1.2.length d5, .slice G6 (tkN p x).2.2.2.2.length d6], .int .i64 (tkK p x)]) (by simp [results, Tryz.results22, go_sem, e0, e1, e2, e3, e4, e5, e6]) rfl ⟨[.int .i64 (tkN p x).1, .int .i64 (tkN p x).2.1, .slice G2 (tkN p x).2.2.1.1.length d2, .slice G3 (tkN p x).2.2.1.2.length d3, .slice G4 (tkN p x).2.2.2.1.1.length d4, .slice G5 (tkN p x).2.2.2.1.2.length d5, .slice G6 (tkN p x).2.2.2.2.length d6], F, rfl, Ty.far7 hO (by exact hM.not (by omega)) _ _ _ _ _ _ _, hM.lower (by omega), ?_⟩
  exact bel_put7 hB3 (by omega) _ _ _ _ _ _ _
theorem s_NodeTickR {w : World} {cs : List Value} {p : DNode} {x : Int} (h : tNode.R w w.heap.size cs p) (hz : szNode p ≤ 1048576) (hx : (Lit.int .i64 x).wf = true) :
    Calls Tryz.prog 22 #[.agg cs.toArray, .int .i64 x] w fun e w' => ∃ cs', e = .returned (.tuple #[.agg cs'.toArray, .int .i64 (fTkN p x)]) ∧ tNode.R w' w'.heap.size cs' (fTk p x) ∧ Below w.heap.size w w' :=
  (s_NodeTick h hz hx).mono fun e w' ⟨cs', F, he, hO, hN, hB⟩ => ⟨cs', he, tNode.read hO, hB⟩
end Go.Proofs.YtojbicecopkfbaaGreat
