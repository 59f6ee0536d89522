/- What the document's own SectorBytes answers: the very bytes and the very error of 'encd'. -/
import Derived.Test.YtgholkjpbdcdiaaDoorLow
import Derived.Test.YtgholkjpbdcdiaaDoorSumRef
import Derived.Test.YtgholkjpbdcdiaaDoorBytes
import Derived.Deep.RegionWith
namespace Go.Proofs.YtgholkjpbdcdiaaDoor
open Go.RowKit Go.Lib

end Go.Proofs.YtgholkjpbdcdiaaDoor
