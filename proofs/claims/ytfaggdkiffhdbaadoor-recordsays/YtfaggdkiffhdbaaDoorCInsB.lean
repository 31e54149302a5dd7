/- checkIns where op isn't a call's, and all that has no use is zero. -/
import Derived.Test.YtfaggdkiffhdbaaDoorArgsFit
import Derived.Test.YtfaggdkiffhdbaaDoorSrcBase
import Derived.Test.YtfaggdkiffhdbaaDoorTaking
namespace Go.Proofs.YtfaggdkiffhdbaaDoor
open Go.ChangeShapes Go.WideShapes Go.ChangeAt Go.RowKit

end Go.Proofs.YtfaggdkiffhdbaaDoor
