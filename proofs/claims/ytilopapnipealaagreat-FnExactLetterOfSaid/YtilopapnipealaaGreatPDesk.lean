/-
  When a desk is in order: contracts of DeskOk, of both sides.
-/
import Derived.Test.YtilopapnipealaaGreatPDeskT
import Derived.Test.YtilopapnipealaaGreatPDeskI
namespace Go.Proofs.YtilopapnipealaaGreat
end Go.Proofs.YtilopapnipealaaGreat
