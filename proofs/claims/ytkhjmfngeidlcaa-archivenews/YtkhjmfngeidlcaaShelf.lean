/- No contract of the library is wanted at this seat. -/
import Derived.Test.YtkhjmfngeidlcaaRows
import Derived.WalkKit
