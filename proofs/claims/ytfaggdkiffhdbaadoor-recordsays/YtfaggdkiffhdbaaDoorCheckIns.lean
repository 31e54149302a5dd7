/- checkIns: one instruction's error, by the program. -/
import Derived.Test.YtfaggdkiffhdbaaDoorCInsA
import Derived.Test.YtfaggdkiffhdbaaDoorCInsB
import Derived.Test.YtfaggdkiffhdbaaDoorCIns7
import Derived.Test.YtfaggdkiffhdbaaDoorCIns7c
namespace Go.Proofs.YtfaggdkiffhdbaaDoor
open Go.ChangeShapes Go.WideShapes Go.ChangeAt Go.RowKit

end Go.Proofs.YtfaggdkiffhdbaaDoor
