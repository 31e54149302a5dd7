/- One token's error, and how many expressions it asks for: by the program and by the reckoning beside it. -/
import Derived.Test.YtfblnmbcaglliabGreatDoorSrcBase
namespace Go.Proofs.YtfblnmbcaglliabGreatDoor
open Go.RowKit

set_option maxHeartbeats 2000000 in
theorem checkTok (k z : Int) (a : Option Addr) (nf cap : Nat) (locals : Int) (w : World) :
    Calls Tryz.prog 131 #[.agg #[.int .i64 k, .int .i64 z], .slice a nf cap, .int .i64 locals] w fun e w' => e = .returned (.int .i64 (tokErr k z nf locals)) ∧ Below w.heap.size w w' := by
  go_enter Tryz.func131, Tryz.ntmps131
  go_wp2
  all_goals
    go_ret
    refine ⟨ret_num ?_, below_alloc _ _⟩
    go_light
    try simp only [beq_iff_eq, ne_eq, beq_eq_false_iff_ne, Bool.not_eq_true', Bool.not_eq_false', decide_eq_false_iff_not, decide_eq_true_eq] at *
    unfold tokErr
    (repeat' split) <;> omega

set_option maxHeartbeats 1000000 in
theorem asks (N : Nat) (k z : Int) (v : Value) (nf : Nat) (par loc : Nat → Int) (bv : Nat → Value) (w : World) (h : FunsAt N w v nf par loc bv) (hc : k = 6 → 0 ≤ z ∧ z.toNat < nf) :
    Calls Tryz.prog 132 #[.agg #[.int .i64 k, .int .i64 z], v] w fun e w' => e = .returned (.int .i64 (asksOf k z par)) ∧ Below w.heap.size w w' := by
  by_cases hk : k = 6
  · obtain ⟨h0, h1⟩ := hc hk
    obtain ⟨i, rfl⟩ : ∃ i : Nat, z = i := ⟨z.toNat, by omega⟩
    have hi : i < nf := by omega
    obtain ⟨a, cap, rfl, hn, h | ⟨b, o, rfl, hlt, g⟩⟩ := h
    · omega
    obtain ⟨c0, c1, c2, _⟩ := g i hi
    have l0 := cell_lt c0
    have HE : Hid (asksOf k i par = par i) := by
      show asksOf k i par = par i
      subst hk; simp [asksOf]
    clear g hc h1
    subst hk
    go_enter Tryz.func132, Tryz.ntmps132
    go_wp2
    go_ret
    exact ⟨ret_num HE.out.symm, below_alloc _ _⟩
  · obtain ⟨a, cap, rfl, hn, _⟩ := h
    have hkt : (k == 6) = false := by simp [hk]
    clear hc
    go_enter Tryz.func132, Tryz.ntmps132
    go_wp2
    all_goals
      go_ret
      refine ⟨ret_num ?_, below_alloc _ _⟩
      go_light
      simp only [beq_iff_eq, beq_eq_false_iff_ne, ne_eq] at *
      unfold asksOf
      (repeat' split) <;> omega

end Go.Proofs.YtfblnmbcaglliabGreatDoor
