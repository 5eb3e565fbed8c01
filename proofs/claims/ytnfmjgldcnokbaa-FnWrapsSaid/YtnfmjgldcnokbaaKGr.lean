/-
  PPeel: texts joined.
-/
import Derived.Test.YtnfmjgldcnokbaaKGi
import Derived.Test.YtnfmjgldcnokbaaKGj
import Derived.Test.YtnfmjgldcnokbaaKGq
namespace Go.Proofs.Ytnfmjgldcnokbaa
set_option maxRecDepth 100000
set_option linter.unusedVariables false
set_option linter.unusedSimpArgs false
open Go.ChangeShapes Go.WideShapes Go.ChangeAt Go.RowKit
open Fld
def dPl (r : Pel) : DPeeled := (r.next, r.due, r.tag, r.load, r.cell)
def fPl (s : Int) (l pad : List Int) : DPeeled := dPl (fpeel s l pad).1
theorem pl_wf {x : Int} (h1 : -9223372036854775808 ≤ x) (h2 : x ≤ 9223372036854775807) : (Lit.int .i64 x).wf = true := WalkArith.wf_i64 ⟨by omega, by omega⟩
theorem fpeel_wf {s : Int} {l pad : List Int} (hb : Bytes l) : (Lit.int .i64 (fpeel s l pad).1.next).wf = true ∧ (Lit.int .i64 (fpeel s l pad).1.due).wf = true ∧ (Lit.int .i64 (fpeel s l pad).1.tag).wf = true := by
  by_cases h : PeelOk s l pad
  · rw [fpeel_t h]
    have hx := peelX_bytes (s := s) hb
    have h0 := hx.at_ 0
    have h1 := hx.at_ 1
    have h2 := hx.at_ 2
    have h3 := keyP_rg (peelS s l) 9
    exact ⟨pl_wf (show -9223372036854775808 ≤ (peelX s l).getD 0 0 by omega) (show (peelX s l).getD 0 0 ≤ 9223372036854775807 by omega), pl_wf (show -9223372036854775808 ≤ (peelX s l).getD 1 0 * 256 + (peelX s l).getD 2 0 by omega) (show (peelX s l).getD 1 0 * 256 + (peelX s l).getD 2 0 ≤ 9223372036854775807 by omega), pl_wf (show -9223372036854775808 ≤ keyP (peelS s l) 9 by omega) (show keyP (peelS s l) 9 ≤ 9223372036854775807 by omega)⟩
  · rw [fpeel_f h]
    exact ⟨rfl, rfl, rfl⟩
theorem fpeel_one {s : Int} {l pad : List Int} : (fpeel s l pad).1.load = [] ∨ (fpeel s l pad).1.cell = [] := by
  by_cases h : PeelOk s l pad
  · rw [fpeel_t h]
    by_cases h255 : (peelX s l).getD 0 0 = 255
    · exact .inr (if_pos h255)
    · exact .inl (if_neg h255)
  · rw [fpeel_f h]; exact .inl rfl
/-- What is peeled, laid together: one of its two slices is empty. -/
theorem peeledO {w : World} {B : Nat} {v1 v2 : Value} {s : Int} {l pad : List Int} {F1 F2 : List Nat} (hb : Bytes l) (h1 : tBy.O w [v1] (fpeel s l pad).1.load F1) (n1 : New B F1) (h2 : tBy.O w [v2] (fpeel s l pad).1.cell F2) (n2 : New B F2) :
    ∃ F, tPeeled.O w [.int .i64 (fpeel s l pad).1.next, .int .i64 (fpeel s l pad).1.due, .int .i64 (fpeel s l pad).1.tag, v1, v2] (fPl s l pad) F ∧ New B F := by
  obtain ⟨k0, k1, k2⟩ := fpeel_wf (s := s) (pad := pad) hb
  obtain ⟨F, hO, hF⟩ := makeOPeeled (p := fPl s l pad) k0 k1 k2 h1 h2
  refine ⟨F, hO, ?_⟩
  subst hF
  rcases fpeel_one (s := s) (l := l) (pad := pad) with h | h
  · rw [h] at h1
    rw [ownNil h1]
    exact n2
  · rw [h] at h2
    rw [ownNil h2, List.append_nil]
    exact n1
theorem i_PeelR {w : World} {s : Int} {cc : List Value} {p : DCell} {A : Option Addr} {n c : Nat} {pad : List Int} (hs : (Lit.int .i64 s).wf = true) (h1 : tCell.R w w.heap.size cc p) (hz1 : szCell p ≤ 1048576) (h2 : tBy.R w w.heap.size [.slice A n c] pad) (hz2 : pad.length ≤ 1048576) :
    Calls Try.prog 19 #[.int .i64 s, .agg cc.toArray, .slice A n c] w fun e w' => ∃ cs F, e = .returned (.tuple #[.agg cs.toArray, .bool (fpeel s p pad).2]) ∧ tPeeled.O w' cs (fPl s p pad) F ∧ New w.heap.size F ∧ Below w.heap.size w w' := by
  obtain ⟨A1, n1, c1, rfl, hc, hcm, hI⟩ := h1
  obtain ⟨hI2, hnd, hdm⟩ := slR_ints h2
  refine (i_Peel s hI hc hcm hI2 hnd hdm).mono ?_
  rintro e w' ⟨v1, v2, rfl, hR1, hR2, hB⟩
  obtain ⟨F1, k1, m1⟩ := hR1.own
  obtain ⟨F2, k2, m2⟩ := hR2.own
  obtain ⟨F, hO, hF⟩ := peeledO hI.bytes k1 m1 k2 m2
  exact ⟨_, F, rfl, hO, hF, hB⟩
end Go.Proofs.Ytnfmjgldcnokbaa
