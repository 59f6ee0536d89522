/- What the document's own seal function answers: the same four bytes. -/
import Derived.Test.YtgholkjpbdcdiaaDoorSumConv
namespace Go.Proofs.YtgholkjpbdcdiaaDoor
open Go.RowKit

end Go.Proofs.YtgholkjpbdcdiaaDoor
