/-
  When a desk is in order: contracts of DeskOk, of both sides.
-/
import Derived.Test.YtgepeppmhfnbeaaPDeskT
import Derived.Test.YtgepeppmhfnbeaaPDeskI
namespace Go.Proofs.Ytgepeppmhfnbeaa
end Go.Proofs.Ytgepeppmhfnbeaa
