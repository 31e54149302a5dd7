/- checkIns where op isn't a call's, and what has no use isn't zero. -/
import Derived.Test.YtfaggdkiffhdbaaDoorArgsFit
import Derived.Test.YtfaggdkiffhdbaaDoorSrcBase
import Derived.Test.YtfaggdkiffhdbaaDoorTaking
namespace Go.Proofs.YtfaggdkiffhdbaaDoor
open Go.ChangeShapes Go.WideShapes Go.ChangeAt Go.RowKit

end Go.Proofs.YtfaggdkiffhdbaaDoor
