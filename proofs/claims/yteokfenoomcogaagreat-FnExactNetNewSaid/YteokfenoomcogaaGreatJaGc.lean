/-
  PNode3: texts joined.
-/
import Derived.Test.YteokfenoomcogaaGreatKGa
import Derived.Test.YteokfenoomcogaaGreatKGc
import Derived.Test.YteokfenoomcogaaGreatKGd
import Derived.Test.YteokfenoomcogaaGreatKGe
import Derived.Test.YteokfenoomcogaaGreatKGf
import Derived.Test.YteokfenoomcogaaGreatKGg
import Derived.Test.YteokfenoomcogaaGreatKGh
import Derived.Test.YteokfenoomcogaaGreatKGi
import Derived.Test.YteokfenoomcogaaGreatKGj
import Derived.Test.YteokfenoomcogaaGreatKGk
import Derived.Test.YteokfenoomcogaaGreatKGl
import Derived.Test.YteokfenoomcogaaGreatKGn
import Derived.Test.YteokfenoomcogaaGreatKGo
import Derived.Test.YteokfenoomcogaaGreatKGp
import Derived.Test.YteokfenoomcogaaGreatKMPDeskT
import Derived.Test.YteokfenoomcogaaGreatKMPIds
import Derived.Test.YteokfenoomcogaaGreatKMPNodeI
import Derived.Test.YteokfenoomcogaaGreatKMPNodeS
import Derived.Test.YteokfenoomcogaaGreatKMSeq
import Derived.Test.YteokfenoomcogaaGreatKX0
import Derived.Test.YteokfenoomcogaaGreatRows
import Derived.Test.YteokfenoomcogaaGreatShelf
import Derived.BigQuiet
import Derived.Deep.Cut
import Derived.Deep.CutRange
import Derived.Deep.DeepCutAuto
import Derived.Deep.Draws
import Derived.Deep.OwnRows
import Derived.Deep.QuietTactic
import Derived.Deep.RegionHeld3
import Derived.Laws.MakeOwn
import Derived.Lib.Hide
import Derived.LoopIn
import Derived.LoopNIn
import Derived.Maps.AppendAt
import Derived.OpenShut
import Derived.Outline
import Derived.OwnWalkIn
import Derived.ProofKit
import Derived.RangeFuncBox
import Derived.RangeFuncFrom
import Derived.RangeFuncLeaves
import Derived.ScopeJumps
import Derived.Shelf.Abstract
import Derived.Sort.OwnSortedInts
import Derived.TacticsInMore
import Derived.WalkKit
import Derived.WalkMore
namespace Go.Proofs.YteokfenoomcogaaGreat
set_option maxRecDepth 100000
set_option linter.unusedVariables false
set_option linter.unusedSimpArgs false
open Go.ChangeShapes Go.WideShapes Go.ChangeAt Go.RowKit
open Fld
theorem nilRowO {α : Type} {t : Ty α} {w : World} : t.row.O w [.slice none 0 0] [] [] := .inl ⟨none, 0, rfl, by omega, rfl, rfl⟩

def NwOk (i s : Int) : Prop := (0 ≤ i ∧ i < 8) ∧ Sec s
noncomputable instance (i s : Int) : Decidable (NwOk i s) := Classical.propDecidable _
def nwN (i s : Int) : DNode := (i, s, ([], []), ([], []), [])
theorem nw_iff {i s : Int} : NdOk (nwN i s) ↔ NwOk i s := by
  constructor
  · intro h; exact ⟨h.1, h.2.1⟩
  · rintro ⟨h1, h2⟩
    refine ⟨h1, h2, ⟨⟨by simp [nwN], by simp [nwN]⟩, by simp [nwN], by simp [nwN], by simp [nwN]⟩, ⟨by simp [nwN], by simp [nwN], ?_, ?_, by simp [nwN]⟩, by simp [nwN], by simp [nwN]⟩
    · intro i hi; simp [nwN] at hi
    · intro i hi; simp [nwN] at hi
noncomputable def fNew (i s : Int) : DNode := if NwOk i s then nwN i s else nwN 0 0
theorem fNew_t {i s : Int} (h : NwOk i s) : fNew i s = nwN i s := if_pos h
theorem fNew_f {i s : Int} (h : ¬ NwOk i s) : fNew i s = nwN 0 0 := if_neg h
theorem nwO {w : World} {i s : Int} (hi : (Lit.int .i64 i).wf = true) (hs : (Lit.int .i64 s).wf = true) : tNode.O w [.int .i64 i, .int .i64 s, .slice none 0 0, .slice none 0 0, .slice none 0 0, .slice none 0 0, .slice none 0 0] (nwN i s) [] :=
  fmakeONode (G2 := []) (G4 := []) (G6 := []) (p := nwN i s) hi hs ⟨_, _, [], [], rfl, rfl, nilRowO, nilO⟩ ⟨_, _, [], [], rfl, rfl, nilRowO, nilO⟩ nilRowO
set_option maxHeartbeats 1000000 in
theorem i_NodeNew {w : World} {i s : Int} (hi : (Lit.int .i64 i).wf = true) (hs : (Lit.int .i64 s).wf = true) :
    Calls Tryz.prog 93 #[.int .i64 i, .int .i64 s] w fun e w' => ∃ cs F, e = .returned (.tuple #[.agg cs.toArray, .bool (decide (NwOk i s))]) ∧ tNode.O w' cs (fNew i s) F ∧ New w.heap.size F ∧ Below w.heap.size w w' := by
  obtain ⟨b, hb⟩ : ∃ b, decide (NdOk (nwN i s)) = b := ⟨_, rfl⟩
  have HB := Lib.hid hb
  clear hb
  by_cases hp : NwOk i s
  · obtain rfl : b = true := by rw [← HB.out]; exact decide_eq_true (nw_iff.2 hp)
    rw [decide_eq_true hp, fNew_t hp]
    clear hp
    go_enter Tryz.func93, Tryz.ntmps93
    go_wp2_with fail
    refine (i_NodeOk (p := nwN i s) (tNode.read (nwO hi hs)) (by show (0 : Nat) ≤ 1048576; omega)).mono ?_
    rintro e w1 ⟨rfl, hb1⟩
    rw [HB.out]
    have X1 : Box w1 w.heap.size 71 #[.int .i64 0, .int .i64 0, .slice none 0 0, .slice none 0 0, .slice none 0 0, .slice none 0 0, .slice none 0 0] := Box.below ((Box.new _ _ _).alloc _) hb1 (by first | (simp; done) | (simp; omega))
    have Y1 : Box w1 (w.heap.size + 1) 71 #[.int .i64 i, .int .i64 s, .slice none 0 0, .slice none 0 0, .slice none 0 0, .slice none 0 0, .slice none 0 0] := Box.below (by simpa using Box.new (w.alloc _) 71 #[.int .i64 i, .int .i64 s, .slice none 0 0, .slice none 0 0, .slice none 0 0, .slice none 0 0, .slice none 0 0]) hb1 (by first | (simp; done) | (simp; omega))
    have hB1 : Below w.heap.size w w1 := bel_trans (belx) hb1
    have y0 := Y1.cell 0; have x0 := X1.cell 0; have f0 := X1.frozen 0
    have y1 := Y1.cell 1; have x1 := X1.cell 1; have f1 := X1.frozen 1
    have y2 := Y1.cell 2; have x2 := X1.cell 2; have f2 := X1.frozen 2
    have y3 := Y1.cell 3; have x3 := X1.cell 3; have f3 := X1.frozen 3
    have y4 := Y1.cell 4; have x4 := X1.cell 4; have f4 := X1.frozen 4
    have y5 := Y1.cell 5; have x5 := X1.cell 5; have f5 := X1.frozen 5
    have y6 := Y1.cell 6; have x6 := X1.cell 6; have f6 := X1.frozen 6
    go_wp2
    have Z := (((((((X1.put 0 (.int .i64 i)).put 1 (.int .i64 s)).put 2 (.slice none 0 0)).put 3 (.slice none 0 0)).put 4 (.slice none 0 0)).put 5 (.slice none 0 0)).put 6 (.slice none 0 0))
    have e0 := Z.cell 0
    have e1 := Z.cell 1
    have e2 := Z.cell 2
    have e3 := Z.cell 3
    have e4 := Z.cell 4
    have e5 := Z.cell 5
    have e6 := Z.cell 6
    refine bodyPost_ret (v := .tuple #[.agg #[.int .i64 i, .int .i64 s, .slice none 0 0, .slice none 0 0, .slice none 0 0, .slice none 0 0, .slice none 0 0], .bool true]) (by simp [results, Tryz.results93, go_sem, e0, e1, e2, e3, e4, e5, e6]) rfl ⟨_, [], rfl, nwO hi hs, New.nil _, (bel_put (bel_put (bel_put (bel_put (bel_put (bel_put (bel_put hB1 (by first | exact Nat.le_refl _ | (simp; done) | (simp; omega)) _) (by first | exact Nat.le_refl _ | (simp; done) | (simp; omega)) _) (by first | exact Nat.le_refl _ | (simp; done) | (simp; omega)) _) (by first | exact Nat.le_refl _ | (simp; done) | (simp; omega)) _) (by first | exact Nat.le_refl _ | (simp; done) | (simp; omega)) _) (by first | exact Nat.le_refl _ | (simp; done) | (simp; omega)) _) (by first | exact Nat.le_refl _ | (simp; done) | (simp; omega)) _)⟩
  · obtain rfl : b = false := by rw [← HB.out]; exact decide_eq_false (fun hh => hp (nw_iff.1 hh))
    rw [decide_eq_false hp, fNew_f hp]
    clear hp
    go_enter Tryz.func93, Tryz.ntmps93
    go_wp2_with fail
    refine (i_NodeOk (p := nwN i s) (tNode.read (nwO hi hs)) (by show (0 : Nat) ≤ 1048576; omega)).mono ?_
    rintro e w1 ⟨rfl, hb1⟩
    rw [HB.out]
    have X1 : Box w1 w.heap.size 71 #[.int .i64 0, .int .i64 0, .slice none 0 0, .slice none 0 0, .slice none 0 0, .slice none 0 0, .slice none 0 0] := Box.below ((Box.new _ _ _).alloc _) hb1 (by first | (simp; done) | (simp; omega))
    have Y1 : Box w1 (w.heap.size + 1) 71 #[.int .i64 i, .int .i64 s, .slice none 0 0, .slice none 0 0, .slice none 0 0, .slice none 0 0, .slice none 0 0] := Box.below (by simpa using Box.new (w.alloc _) 71 #[.int .i64 i, .int .i64 s, .slice none 0 0, .slice none 0 0, .slice none 0 0, .slice none 0 0, .slice none 0 0]) hb1 (by first | (simp; done) | (simp; omega))
    have hB1 : Below w.heap.size w w1 := bel_trans (belx) hb1
    have y0 := Y1.cell 0; have x0 := X1.cell 0; have f0 := X1.frozen 0
    have y1 := Y1.cell 1; have x1 := X1.cell 1; have f1 := X1.frozen 1
    have y2 := Y1.cell 2; have x2 := X1.cell 2; have f2 := X1.frozen 2
    have y3 := Y1.cell 3; have x3 := X1.cell 3; have f3 := X1.frozen 3
    have y4 := Y1.cell 4; have x4 := X1.cell 4; have f4 := X1.frozen 4
    have y5 := Y1.cell 5; have x5 := X1.cell 5; have f5 := X1.frozen 5
    have y6 := Y1.cell 6; have x6 := X1.cell 6; have f6 := X1.frozen 6
    go_wp2
    have Z := (((((((X1.put 0 (.int .i64 0)).put 1 (.int .i64 0)).put 2 (.slice none 0 0)).put 3 (.slice none 0 0)).put 4 (.slice none 0 0)).put 5 (.slice none 0 0)).put 6 (.slice none 0 0))
    have e0 := Z.cell 0
    have e1 := Z.cell 1
    have e2 := Z.cell 2
    have e3 := Z.cell 3
    have e4 := Z.cell 4
    have e5 := Z.cell 5
    have e6 := Z.cell 6
    refine bodyPost_ret (v := .tuple #[.agg #[.int .i64 0, .int .i64 0, .slice none 0 0, .slice none 0 0, .slice none 0 0, .slice none 0 0, .slice none 0 0], .bool false]) (by simp [results, Tryz.results93, go_sem, e0, e1, e2, e3, e4, e5, e6]) rfl ⟨_, [], rfl, nwO (by decide) (by decide), New.nil _, (bel_put (bel_put (bel_put (bel_put (bel_put (bel_put (bel_put hB1 (by first | exact Nat.le_refl _ | (simp; done) | (simp; omega)) _) (by first | exact Nat.le_refl _ | (simp; done) | (simp; omega)) _) (by first | exact Nat.le_refl _ | (simp; done) | (simp; omega)) _) (by first | exact Nat.le_refl _ | (simp; done) | (simp; omega)) _) (by first | exact Nat.le_refl _ | (simp; done) | (simp; omega)) _) (by first | exact Nat.le_refl _ | (simp; done) | (simp; omega)) _) (by first | exact Nat.le_refl _ | (simp; done) | (simp; omega)) _)⟩
end Go.Proofs.YteokfenoomcogaaGreat
