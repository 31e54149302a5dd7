/- Is one of the Args no register, by the program; checkIns: one instruction's error. -/
import Derived.Test.YtfaggdkiffhdbaaDoorRegsFit
import Derived.Deep.CutRange
namespace Go.Proofs.YtfaggdkiffhdbaaDoor
open Go.ChangeShapes Go.WideShapes Go.ChangeAt Go.RowKit

theorem argsB_no {i : In} {regs : Int} {k : Nat} (hk : k < i.n) (h : fromB (i.z k) 0 (regs - 1)=false) : argsB i regs=false:=by
 unfold argsB
 rw [decide_eq_false_iff_not]
 intro hh
 unfold fromB at h
 rw [decide_eq_false_iff_not] at h
 exact h (hh k hk)
theorem argsB_yes {i : In} {regs : Int} (h : ∀ k,k < i.n→fromB (i.z k) 0 (regs - 1)=true) : argsB i regs=true:=by
 unfold argsB
 rw [decide_eq_true_iff]
 intro k hk
 have:=h k hk
 unfold fromB at this
 exact of_decide_eq_true this

end Go.Proofs.YtfaggdkiffhdbaaDoor
