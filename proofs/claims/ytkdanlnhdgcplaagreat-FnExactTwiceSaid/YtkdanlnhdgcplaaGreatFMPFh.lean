/-
  PFh: texts joined.
-/
import Derived.Test.YtkdanlnhdgcplaaGreatFGa
import Derived.Test.YtkdanlnhdgcplaaGreatFMPFg2
import Derived.Test.YtkdanlnhdgcplaaGreatFMPNetI
import Derived.Test.YtkdanlnhdgcplaaGreatFMPNn
namespace Go.Proofs.YtkdanlnhdgcplaaGreat
set_option maxRecDepth 100000
set_option linter.unusedVariables false
set_option linter.unusedSimpArgs false
open Go.ChangeShapes Go.WideShapes Go.ChangeAt Go.RowKit
open Fld
theorem put7 {a w : World} (h : Bel a w) {g : Nat} {u0 u1 u2 u3 u4 u5 u6 : Value} (hg : a.heap.size ≤ g) : Bel a (((((((w.setCell ⟨g, 0, none⟩ u0).setCell ⟨g, 1, none⟩ u1).setCell ⟨g, 2, none⟩ u2).setCell ⟨g, 3, none⟩ u3).setCell ⟨g, 4, none⟩ u4).setCell ⟨g, 5, none⟩ u5).setCell ⟨g, 6, none⟩ u6) :=
 (bel_put (bel_put (bel_put (bel_put (bel_put (bel_put (bel_put h hg _) hg _) hg _) hg _) hg _) hg _) hg _)
theorem Trf.below {w w' : World} {lo tb : Nat} {d : DNet} (h : Trf w lo tb d) (hB : Bel w w') : Trf w' lo tb d := by
 obtain ⟨v3, v4, v5, v6, F3, F4, F5, hbx, h3, h4, h5, h6, r⟩ := h
 exact ⟨v3, v4, v5, v6, F3, F4, F5, hbx.below hB hbx.size, h3.below hB, h4.below hB, h5.below hB, h6.below hB, r⟩
theorem Trf.out {w : World} {lo tb : Nat} {d : DNet} (h : Trf w lo tb d) (i0 : (Lit.int .i64 d.1).wf = true) (i1 : (Lit.int .i64 d.2.1).wf = true) (i2 : (Lit.int .i64 d.2.2.1).wf = true) :
  ∃ D3 g3 D4 g4 D5 g5 D6 g6 F, Box w tb 68 #[.int .i64 d.1, .int .i64 d.2.1, .int .i64 d.2.2.1, .slice D3 d.2.2.2.1.length g3, .slice D4 d.2.2.2.2.1.length g4, .slice D5 d.2.2.2.2.2.1.length g5, .slice D6 d.2.2.2.2.2.2.length g6] ∧
   tNet.O w [.int .i64 d.1, .int .i64 d.2.1, .int .i64 d.2.2.1, .slice D3 d.2.2.2.1.length g3, .slice D4 d.2.2.2.2.1.length g4, .slice D5 d.2.2.2.2.2.1.length g5, .slice D6 d.2.2.2.2.2.2.length g6] d F ∧ New lo F := by
 obtain ⟨v3, v4, v5, v6, F3, F4, F5, hbx, h3, h4, h5, h6, d1, d2, d3, t3, t4, t5, t6, hlt⟩ := h
 have l3 := h3.blk
 have l4 := h4.blk
 have l5 := h5.blk
 have l6 := h6.blk
 obtain ⟨D3, g3, G3, rfl, o3, n3, k3⟩ := h3.done2
 obtain ⟨D4, g4, G4, rfl, o4, n4, k4⟩ := h4.done2
 obtain ⟨D5, g5, G5, rfl, o5, n5, k5⟩ := h5.done2
 obtain ⟨D6, g6, G6, rfl, o6, n6, k6⟩ := h6.done2
 have N3 : New lo G3 := ⟨n3, fun f hf => (l3 f (k3 f hf)).1⟩
 have N4 : New lo G4 := ⟨n4, fun f hf => (l4 f (k4 f hf)).1⟩
 have N5 : New lo G5 := ⟨n5, fun f hf => (l5 f (k5 f hf)).1⟩
 have N6 : New lo G6 := ⟨n6, fun f hf => (l6 f (k6 f hf)).1⟩
 obtain ⟨F, hF, rfl⟩ := makeONet (p := d) i0 i1 i2 o3 o4 o5 o6
 refine ⟨D3, g3, D4, g4, D5, g5, D6, g6, _, hbx, hF, new_pair (new_pair (new_pair N3 N4 fun f h1 h2 => (d1 f (k3 f h1)).1 (k4 f h2)) N5 fun f h1 h2 => ?_) N6 fun f h1 h2 => ?_⟩
 ·rcases List.mem_append.1 h1 with h1 | h1
  ·exact (d1 f (k3 f h1)).2.1 (k5 f h2)
  ·exact (d2 f (k4 f h1)).1 (k5 f h2)
 ·rcases List.mem_append.1 h1 with h1 | h1
  ·rcases List.mem_append.1 h1 with h1 | h1
   ·exact (d1 f (k3 f h1)).2.2 (k6 f h2)
   ·exact (d2 f (k4 f h1)).2 (k6 f h2)
  ·exact d3 f (k5 f h1) (k6 f h2)
set_option maxHeartbeats 2000000 in
theorem i_transmit_f {w : World} {lo tb : Nat} {cs : List Value} {d : DNet} {m : DMail} (hT : Trf w lo tb d) (h : tMail.R w w.heap.size cs m) (hl4 : d.2.2.2.2.1.length ≤ 1048576) (hl6 : d.2.2.2.2.2.2.length ≤ 1048576) (hr : ¬ Room d) :
  Calls Tryz.prog 31 #[.pointer (some ⟨tb, 0, none⟩), .agg cs.toArray] w fun e w' => e = .returned (.bool false) ∧ Trf w' lo tb d ∧ Bel w w' := by
 have hT0 := hT
 obtain ⟨v3, v4, v5, v6, F3, F4, F5, hbx, h3, h4, h5, h6, -⟩ := hT
 obtain ⟨A3, n3, c3, rfl, -⟩ := h3.shapeN
 obtain ⟨A4, n4, c4, rfl, e4⟩ := h4.shapeN
 obtain ⟨A5, n5, c5, rfl, -⟩ := h5.shapeN
 obtain ⟨A6, n6, c6, rfl, e6⟩ := h6.shapeN
 have hn4 : n4 ≤ 1048576 := by omega
 have hn6 : n6 ≤ 1048576 := by omega
 obtain ⟨A9, n9, c9, rfl, -, -, -, -, -⟩ := openMail h
 have HR1 := Lib.hid (show (decide ((n4 : Int) + 1 ≤ 60) && decide ((n6 : Int) + 1 ≤ 500)) = false by
  unfold Room at hr
  by_cases g : (n4 : Int) + 1 ≤ 60
  ·rw [decide_eq_true g, decide_eq_false (by omega)]; rfl
  ·rw [decide_eq_false g]; rfl)
 have B0 := hbx.alloc (.cells #[.int .i64 m.1, .slice A9 n9 c9] 62)
 have q0_ := B0.cell 0; have q1_ := B0.cell 1; have q2_ := B0.cell 2; have q3_ := B0.cell 3; have q4_ := B0.cell 4; have q5_ := B0.cell 5; have q6_ := B0.cell 6
 clear e4 e6
 go_enter Tryz.func31, Tryz.ntmps31
 go_wp2_with fail
 refine (i_hasRoom (by omega) (by omega) (by omega) (by omega)).mono ?_
 rintro e w1 ⟨rfl, hb1⟩
 rw [HR1.out]
 have hs1 : Bel w w1 := bel_trans (belx) hb1
 go_wp2
 go_ret
 exact ⟨rfl, hT0.below hs1, hs1⟩
end Go.Proofs.YtkdanlnhdgcplaaGreat
