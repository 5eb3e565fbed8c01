/-
  When a desk is in order: contracts of DeskOk, of both sides.
-/
import Derived.Test.YtgepeppmhfnbeabPDeskT
import Derived.Test.YtgepeppmhfnbeabPDeskI
namespace Go.Proofs.Ytgepeppmhfnbeab
end Go.Proofs.Ytgepeppmhfnbeab
