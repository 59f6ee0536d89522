/- What the document's own ArrayMay and ArrayTouched answer. -/
import Derived.Test.YtgholkjpbdcdiaaDoorArrMem
import Derived.Test.YtgholkjpbdcdiaaDoorLow
import Derived.Test.YtgholkjpbdcdiaaDoorDevMay
namespace Go.Proofs.YtgholkjpbdcdiaaDoor
open Go.RowKit Go.Lib

end Go.Proofs.YtgholkjpbdcdiaaDoor
