/- checkIns of a call of a procedure that isn't there. -/
import Derived.Test.YtfaggdkiffhdbaaDoorArgsFit
import Derived.Test.YtfaggdkiffhdbaaDoorSrcBase
import Derived.Test.YtfaggdkiffhdbaaDoorTaking
namespace Go.Proofs.YtfaggdkiffhdbaaDoor
open Go.ChangeShapes Go.WideShapes Go.ChangeAt Go.RowKit

end Go.Proofs.YtfaggdkiffhdbaaDoor
