/- One statement's error, but for those in it, by the program. -/
import Derived.Test.YtfblnmbcaglliabGreatDoorExpr
namespace Go.Proofs.YtfblnmbcaglliabGreatDoor
open Go.RowKit

theorem formErr_yes {s : Nd} {la lb : Nat} (h : ¬ (s.kind < 1 ∨ 8 < s.kind ∨ (¬ s.num = 0 ∧ ¬ s.kind = 1 ∧ ¬ s.kind = 2) ∨ (0 < s.ne ∧ s.kind = 4) ∨ (0 < s.nf ∧ ¬ s.kind = 2) ∨ (0 < la ∧ ¬ s.kind = 6 ∧ ¬ s.kind = 7) ∨ (0 < lb ∧ ¬ s.kind = 6))) : true = (formErr s la lb == 0) := by
  unfold formErr; rw [if_neg h]; rfl
theorem formErr_no {s : Nd} {la lb : Nat} (h : s.kind < 1 ∨ 8 < s.kind ∨ (¬ s.num = 0 ∧ ¬ s.kind = 1 ∧ ¬ s.kind = 2) ∨ (0 < s.ne ∧ s.kind = 4) ∨ (0 < s.nf ∧ ¬ s.kind = 2) ∨ (0 < la ∧ ¬ s.kind = 6 ∧ ¬ s.kind = 7) ∨ (0 < lb ∧ ¬ s.kind = 6)) : false = (formErr s la lb == 0) := by
  unfold formErr; rw [if_pos h]; rfl

set_option maxHeartbeats 4000000 in
theorem formed (s : Nd) (la lb : Nat) (ae af aa ab : Option Addr) (ce cf ca cb : Nat) (w : World) :
    Calls Tryz.prog 109 #[.agg #[.int .i64 s.kind, .int .i64 s.num, .slice ae s.ne ce, .slice af s.nf cf, .slice aa la ca, .slice ab lb cb]] w fun e w' => e = .returned (.bool (formErr s la lb == 0)) ∧ Below w.heap.size w w' := by
  go_enter Tryz.func109, Tryz.ntmps109
  go_wp2
  all_goals
    go_ret
    refine ⟨ret_bool ?_, below_alloc _ _⟩
    go_light
    first | refine formErr_no ?_ | refine formErr_yes ?_
    try simp only [beq_iff_eq, bne_iff_ne, ne_eq, beq_eq_false_iff_ne, bne_eq_false_iff_eq] at *
    omega

end Go.Proofs.YtfblnmbcaglliabGreatDoor
