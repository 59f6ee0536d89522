/- What the document's own seal function answers: the same four bytes. -/
import Derived.Test.YtelgpiedchnncaaSumConv
namespace Go.Proofs.Ytelgpiedchnncaa
open Go.RowKit

end Go.Proofs.Ytelgpiedchnncaa
