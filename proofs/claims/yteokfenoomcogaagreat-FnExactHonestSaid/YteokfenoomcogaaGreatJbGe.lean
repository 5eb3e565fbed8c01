/-
  PNode2, Hon: texts joined.
-/
import Derived.Test.YteokfenoomcogaaGreatJbGb
import Derived.Test.YteokfenoomcogaaGreatKGa
import Derived.Test.YteokfenoomcogaaGreatKGc
import Derived.Test.YteokfenoomcogaaGreatKGd
import Derived.Test.YteokfenoomcogaaGreatKGe
import Derived.Test.YteokfenoomcogaaGreatKGf
import Derived.Test.YteokfenoomcogaaGreatKGg
import Derived.Test.YteokfenoomcogaaGreatKGh
import Derived.Test.YteokfenoomcogaaGreatKGi
import Derived.Test.YteokfenoomcogaaGreatKGj
import Derived.Test.YteokfenoomcogaaGreatKGk
import Derived.Test.YteokfenoomcogaaGreatKGl
import Derived.Test.YteokfenoomcogaaGreatKGn
import Derived.Test.YteokfenoomcogaaGreatKGo
import Derived.Test.YteokfenoomcogaaGreatKGp
import Derived.Test.YteokfenoomcogaaGreatKMPDeskT
import Derived.Test.YteokfenoomcogaaGreatKMPIds
import Derived.Test.YteokfenoomcogaaGreatKMPNodeI
import Derived.Test.YteokfenoomcogaaGreatKMPNodeS
import Derived.Test.YteokfenoomcogaaGreatKMSeq
import Derived.Test.YteokfenoomcogaaGreatKX0
import Derived.Test.YteokfenoomcogaaGreatRows
import Derived.Test.YteokfenoomcogaaGreatShelf
import Derived.BigQuiet
import Derived.Deep.Cut
import Derived.Deep.CutRange
import Derived.Deep.DeepCutAuto
import Derived.Deep.Draws
import Derived.Deep.OwnRows
import Derived.Deep.QuietTactic
import Derived.Deep.RegionHeld3
import Derived.Laws.MakeOwn
import Derived.Lib.Hide
import Derived.LoopIn
import Derived.LoopNIn
import Derived.Maps.AppendAt
import Derived.OpenShut
import Derived.Outline
import Derived.OwnWalkIn
import Derived.ProofKit
import Derived.RangeFuncBox
import Derived.RangeFuncFrom
import Derived.RangeFuncLeaves
import Derived.ScopeJumps
import Derived.Shelf.Abstract
import Derived.Sort.OwnSortedInts
import Derived.TacticsInMore
import Derived.WalkKit
import Derived.WalkMore
namespace Go.Proofs.YteokfenoomcogaaGreat
set_option maxRecDepth 100000
set_option linter.unusedVariables false
set_option linter.unusedSimpArgs false
open Go.ChangeShapes Go.WideShapes Go.ChangeAt Go.RowKit
noncomputable def fIds (p : DNode) : List Int := if NdOk p then p.2.2.2.1.2 else []
theorem fIds_t {p : DNode} (h : NdOk p) : fIds p = p.2.2.2.1.2 := if_pos h
theorem fIds_le (p : DNode) : (fIds p).length ≤ 256 := by
  unfold fIds
  split
  · rename_i h; exact asc_len h.2.2.2.1.2.2.1 h.2.2.2.1.2.1
  · simp
end Go.Proofs.YteokfenoomcogaaGreat
namespace Go.Proofs.YteokfenoomcogaaGreat
set_option linter.unusedVariables false
open Fld
theorem nodup_key {α : Type} {f : α → Int} {l : List α} (h : (l.map f).Nodup) {a b : α} (ha : a ∈ l) (hb : b ∈ l) (e : f a = f b) : a = b := by
  induction l with
  | nil => simp at ha
  | cons c t ih =>
    rw [List.map_cons, List.nodup_cons] at h
    rcases List.mem_cons.1 ha with rfl | ha'
    · rcases List.mem_cons.1 hb with rfl | hb'
      · rfl
      · exact absurd (List.mem_map.2 ⟨b, hb', e.symm⟩) h.1
    · rcases List.mem_cons.1 hb with rfl | hb'
      · exact absurd (List.mem_map.2 ⟨a, ha', e⟩) h.1
      · exact ih h.2 ha' hb'
/-- What a node has got, each as it must have been sent. -/
def recv (p : DNode) : List DSent := p.2.2.2.2.map fun l => (l.1, p.1, l.2)
def hasS (l : List DSent) (s : DSent) : Bool := l.any fun a => decide (s = a)
noncomputable def fHon (p : DNet) : Bool := decide (NtOk p) && (p.2.2.2.1.flatMap recv).all (hasS p.2.2.2.2.2.1)
theorem fHon_t {p : DNet} (h : NtOk p) : fHon p = (p.2.2.2.1.flatMap recv).all (hasS p.2.2.2.2.2.1) := by unfold fHon; rw [decide_eq_true h]; rfl
theorem fHon_f {p : DNet} (h : ¬ NtOk p) : fHon p = false := by unfold fHon; rw [decide_eq_false h]; rfl
theorem hon_bad {nds : List DNode} {snt : List DSent} {i : Nat} {nd : DNode} {l : DLetter} (hi : nds[i]? = some nd) (hid : nd.1 = i) (hl : l ∈ nd.2.2.2.2) (hb : hasS snt (l.1, (i : Int), l.2) = false) : (nds.flatMap recv).all (hasS snt) = false :=
  List.all_eq_false.2 ⟨(l.1, (i : Int), l.2), List.mem_flatMap.2 ⟨nd, List.mem_of_getElem? hi, List.mem_map.2 ⟨l, hl, by rw [hid]⟩⟩, by rw [hb]; simp⟩
theorem hon_all {nds : List DNode} {snt : List DSent} (h : ∀ (i : Nat) (nd : DNode), nds[i]? = some nd → nd.1 = i ∧ ∀ l ∈ nd.2.2.2.2, hasS snt (l.1, (i : Int), l.2) = true) : (nds.flatMap recv).all (hasS snt) = true := by
  rw [List.all_eq_true]
  intro s hs
  obtain ⟨nd, hnd, hs⟩ := List.mem_flatMap.1 hs
  obtain ⟨l, hl, rfl⟩ := List.mem_map.1 hs
  obtain ⟨i, hi, rfl⟩ := List.getElem_of_mem hnd
  obtain ⟨h1, h2⟩ := h i _ (List.getElem?_eq_getElem hi)
  rw [h1]
  exact h2 l hl
theorem hasS_at {snt : List DSent} {x y : Int} {b : List Int} {j : Nat} {a : DSent} (hn : (snt.map fun s => s.1).Nodup) (ha : snt[j]? = some a) (hx : a.1 = x) : hasS snt (x, y, b) = decide (a.2.1 = y ∧ a.2.2 = b) := by
  unfold hasS
  rw [Bool.eq_iff_iff, List.any_eq_true]
  simp only [decide_eq_true_eq]
  constructor
  · rintro ⟨c, hc, e⟩
    have : a = c := nodup_key hn (List.mem_of_getElem? ha) hc (by rw [hx, ← e])
    subst this
    rw [← e]
    exact ⟨rfl, rfl⟩
  · rintro ⟨h1, h2⟩
    exact ⟨a, List.mem_of_getElem? ha, by rw [← hx, ← h1, ← h2]⟩
theorem hasS_no {snt : List DSent} {x y : Int} {b : List Int} (hn : ∀ c ∈ snt, c.1 ≠ x) : hasS snt (x, y, b) = false := by
  unfold hasS
  rw [List.any_eq_false]
  intro c hc
  simp only [decide_eq_true_eq]
  intro e
  exact hn c hc (by rw [← e])
end Go.Proofs.YteokfenoomcogaaGreat
