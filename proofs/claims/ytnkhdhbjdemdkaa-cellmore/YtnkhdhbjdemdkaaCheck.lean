/- Check and CheckValue: one value's error, by the program and by the reckoning beside it. -/
import Derived.Test.YtnkhdhbjdemdkaaEqInts
import Derived.Deep.Light
namespace Go.Proofs.Ytnkhdhbjdemdkaa
open Go.RowKit

theorem ret_num {a b : Int} (h : a = b) : Ending.returned (.int .i64 a) = .returned (.int .i64 b) := by rw [h]

set_option maxHeartbeats 400000 in
theorem check (k n c : Int) (w : World) :
    Calls Try.prog 11 #[.agg #[.int .i64 k, .int .i64 n], .int .i64 c] w fun e w' => e = .returned (.int .i64 (chk k n c)) ∧ Below w.heap.size w w' := by
  go_enter Try.func11, Try.ntmps11
  go_wp2
  all_goals
    go_ret
    refine ⟨ret_num ?_, below_alloc _ _⟩
    go_light
    simp only [beq_iff_eq, bne_iff_ne, ne_eq, beq_eq_false_iff_ne, bne_eq_false_iff_eq] at *
    unfold chk
    (repeat' split) <;> omega

set_option maxHeartbeats 1000000 in
theorem checkValue (k n c : Int) (w : World) :
    Calls Try.prog 12 #[.agg #[.int .i64 k, .int .i64 n], .int .i64 c] w fun e w' => e = .returned (.int .i64 (chk k n c)) ∧ Below w.heap.size w w' := by
  go_enter Try.func12, Try.ntmps12
  go_wp2
  all_goals
    go_ret
    refine ⟨ret_num ?_, below_alloc _ _⟩
    go_light
    try simp only [bne_iff_ne, ne_eq, bne_eq_false_iff_eq, Bool.not_eq_true', Bool.not_eq_false', decide_eq_false_iff_not, decide_eq_true_eq] at *
    unfold chk
    (repeat' split) <;> omega
end Go.Proofs.Ytnkhdhbjdemdkaa
