/-
  Who is reached, how deep: contracts of both sides for the laws.
-/
import Derived.Test.YtpapkonejkdkhaaReach
import Derived.Test.YtpapkonejkdkhaaMk
namespace Go.Proofs.Ytpapkonejkdkhaa
set_option linter.unusedVariables false
open Go.RowKit
open Fld
theorem s_ReachR {w : World} {A : Option Addr} {n c : Nat} {l : List Int} {a : Int} {cc : List Value} {p : DCell} (h1 : tIs.R w w.heap.size [.slice A n c] l) (hz1 : l.length ≤ 1048576) (ha : (Lit.int .i64 a).wf = true) (h2 : tCell.R w w.heap.size cc p) (hz2 : szCell p ≤ 1048576) :
    Calls Try.prog 26 #[.slice A n c, .int .i64 a, .agg cc.toArray] w fun e w' => ∃ A' c', e = .returned (.slice A' (freach l a p).length c') ∧ tIs.R w' w'.heap.size [.slice A' (freach l a p).length c'] (freach l a p) ∧ Below w.heap.size w w' := by
  obtain ⟨A1, n1, c1, rfl, hc, hcm, hI⟩ := h2
  have hI2 := (slR_ints h1).1
  refine (s_Reach a hI2 (by have := hI2.1; omega) hI hc hcm ha).mono ?_
  rintro e w' ⟨v, rfl, hO, hB⟩
  obtain ⟨A', c', rfl, _⟩ := hO.cap
  obtain ⟨F, k1, m1⟩ := hO.tSl
  exact ⟨A', c', rfl, tIs.read k1, hB⟩
theorem i_ReachR {w : World} {A : Option Addr} {n c : Nat} {l : List Int} {a : Int} {cc : List Value} {p : DCell} (h1 : tIs.R w w.heap.size [.slice A n c] l) (hz1 : l.length ≤ 1048576) (ha : (Lit.int .i64 a).wf = true) (h2 : tCell.R w w.heap.size cc p) (hz2 : szCell p ≤ 1048576) :
    Calls Try.prog 27 #[.slice A n c, .int .i64 a, .agg cc.toArray] w fun e w' => ∃ A' c' F, e = .returned (.slice A' (freach l a p).length c') ∧ tIs.O w' [.slice A' (freach l a p).length c'] (freach l a p) F ∧ New w.heap.size F ∧ Below w.heap.size w w' := by
  obtain ⟨A1, n1, c1, rfl, hc, hcm, hI⟩ := h2
  have hI2 := (slR_ints h1).1
  refine (i_Reach a hI2 (by have := hI2.1; omega) hI hc hcm ha).mono ?_
  rintro e w' ⟨v, rfl, hO, hB⟩
  obtain ⟨A', c', rfl, _⟩ := hO.cap
  obtain ⟨F, k1, m1⟩ := hO.tSl
  exact ⟨A', c', F, rfl, k1, m1, hB⟩
theorem s_DepthR {w : World} {A : Option Addr} {n c : Nat} {l : List Int} {cc : List Value} {p : DCell} (h1 : tIs.R w w.heap.size [.slice A n c] l) (hz1 : l.length ≤ 1048576) (h2 : tCell.R w w.heap.size cc p) (hz2 : szCell p ≤ 1048576) :
    Calls Try.prog 22 #[.slice A n c, .agg cc.toArray] w fun e w' => e = .returned (.int .i64 (fdepth l p)) ∧ Below w.heap.size w w' := by
  obtain ⟨A1, n1, c1, rfl, hc, hcm, hI⟩ := h2
  have hI2 := (slR_ints h1).1
  exact s_Depth s_Reach hI2 (by have := hI2.1; omega) hI hc hcm
theorem i_DepthR {w : World} {A : Option Addr} {n c : Nat} {l : List Int} {cc : List Value} {p : DCell} (h1 : tIs.R w w.heap.size [.slice A n c] l) (hz1 : l.length ≤ 1048576) (h2 : tCell.R w w.heap.size cc p) (hz2 : szCell p ≤ 1048576) :
    Calls Try.prog 24 #[.slice A n c, .agg cc.toArray] w fun e w' => e = .returned (.int .i64 (fdepth l p)) ∧ Below w.heap.size w w' := by
  obtain ⟨A1, n1, c1, rfl, hc, hcm, hI⟩ := h2
  have hI2 := (slR_ints h1).1
  exact i_Depth i_Reach hI2 (by have := hI2.1; omega) hI hc hcm
end Go.Proofs.Ytpapkonejkdkhaa
