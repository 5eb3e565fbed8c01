/-
  Shs: texts joined.
-/
import Derived.Test.YtkdanlnhdgcplaaGreatProg
import Derived.ProofKit
import Derived.WalkKit
namespace Go.Proofs.YtkdanlnhdgcplaaGreat
theorem fsz {p : Prop} (h : p := by (try dsimp only); omega) : p := h
end Go.Proofs.YtkdanlnhdgcplaaGreat
