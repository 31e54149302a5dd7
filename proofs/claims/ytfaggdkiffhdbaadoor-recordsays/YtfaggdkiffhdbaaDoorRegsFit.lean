/- Are the registers of an instruction of those that there are, by the program. -/
import Derived.Test.YtfaggdkiffhdbaaDoorInsBase
namespace Go.Proofs.YtfaggdkiffhdbaaDoor
open Go.ChangeShapes Go.WideShapes Go.ChangeAt Go.RowKit

end Go.Proofs.YtfaggdkiffhdbaaDoor
