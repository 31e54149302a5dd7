/- One text: what it reads as is a program, of which Print says it. -/
import Derived.Test.YtfblnmbcaglliabGreatDoorPartParse
namespace Go.Proofs.YtfblnmbcaglliabGreatDoor
open Go.RowKit Go.Maps

/-- The text of the closed fact. -/
def countsL : List UInt8 := [102, 117, 110, 32, 48, 32, 49, 32, 123, 32, 115, 101, 116, 32, 48, 32, 51, 32, 119, 104, 105, 108, 101, 32, 118, 48, 32, 123, 32, 115, 97, 121, 32, 102, 49, 32, 118, 48, 32, 118, 48, 32, 103, 111, 32, 118, 48, 32, 112, 97, 117, 115, 101, 32, 115, 101, 116, 32, 48, 32, 45, 32, 118, 48, 32, 49, 32, 125, 32, 125, 32, 102, 117, 110, 32, 50, 32, 50, 32, 123, 32, 114, 101, 116, 117, 114, 110, 32, 42, 32, 118, 48, 32, 118, 49, 32, 125]
theorem counts_err : rdErr 60 (bs countsL) = 0 := by decide +kernel
theorem counts_text : rdText 60 (bs countsL) = bs countsL := by decide +kernel
theorem counts_D : (wordsOf (bs countsL)).length + 2 ≤ 60 := by decide +kernel
theorem counts_n : rdN (wordsOf (bs countsL)) = 2 := by decide +kernel
theorem counts_len : (rdB (wordsOf (bs countsL)) 0).len = 2 := by decide +kernel
theorem counts_sub : ((rdB (wordsOf (bs countsL)) 0).sub 1 false).len = 4 := by decide +kernel

end Go.Proofs.YtfblnmbcaglliabGreatDoor
