/- What the document's own seal function answers: the same four bytes. -/
import Derived.Test.YtelgpiedchnncabDoorSumConv
namespace Go.Proofs.YtelgpiedchnncabDoor
open Go.RowKit

end Go.Proofs.YtelgpiedchnncabDoor
