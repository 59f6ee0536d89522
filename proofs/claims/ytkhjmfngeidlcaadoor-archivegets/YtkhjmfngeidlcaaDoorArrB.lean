/- Joined texts: ArrPut, ArrWrite. -/
import Derived.Test.YtkhjmfngeidlcaaDoorMem2
import Derived.Test.YtkhjmfngeidlcaaDoorArrA
import Derived.Test.YtkhjmfngeidlcaaDoorDevC
import Derived.Deep.RegionWith
import Derived.Deep.DeepCutAuto
import Derived.Test.YtkhjmfngeidlcaaDoorArrM
/- What the program's array.writeMirrors, writeParity and loseParity do. -/
namespace Go.Proofs.YtkhjmfngeidlcaaDoor
open Go.RowKit Go.Lib

end Go.Proofs.YtkhjmfngeidlcaaDoor

/- What the program's array.Write answers. -/
namespace Go.Proofs.YtkhjmfngeidlcaaDoor
open Go.RowKit Go.Lib

end Go.Proofs.YtkhjmfngeidlcaaDoor
