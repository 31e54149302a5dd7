/- Expr: what is wrong with an expression, by the program. -/
import Derived.Test.YtfblnmbcaglliabGreatDoorTok
namespace Go.Proofs.YtfblnmbcaglliabGreatDoor
open Go.RowKit

set_option maxHeartbeats 2000000 in
theorem expr (N : Nat) (v f : Value) (n : Nat) (k z : Nat → Int) (nf : Nat) (par loc : Nat → Int) (bv : Nat → Value) (locals : Int) (w : World) (hN : N ≤ w.heap.size) (h : ToksAt N w v n k z) (hf : FunsAt N w f nf par loc bv) :
    Calls Tryz.prog 110 #[v, f, .int .i64 locals] w fun e w' => e = .returned (.int .i64 (exprErr n k z nf par locals)) ∧ Below w.heap.size w w' := by
  obtain ⟨a, cap, rfl, hn, h⟩ := h
  have hf0 := hf
  obtain ⟨af, capf, rfl, hnf, hf⟩ := hf
  by_cases hbig : 24 < n
  · have HE : Hid (exprErr n k z nf par locals = 2) := exprErr_many hbig
    have hbi : (24 : Int) < (n : Int) := by omega
    go_enter Tryz.func110, Tryz.ntmps110
    go_wp2_with fail
    go_ret
    exact ⟨ret_num HE.out.symm, Below.refl _ _⟩
  have hbi : ¬ (24 : Int) < (n : Int) := by omega
  have HB : Hid (¬ 24 < n) := hbig
  go_enter Tryz.func110, Tryz.ntmps110
  go_wp2_with fail
  go_loopw [18] (fun i wr => ∃ j : Nat, j ≤ nf ∧ i = .int .i64 j ∧ Below w.heap.size w wr ∧ Hid (∀ x, x < j → parErr (par x) = 0)) (fun i _ => nf - (intOf i).toNat)
  case atStart => exact ⟨0, Nat.zero_le _, rfl, Below.refl _ _, fun j hj => absurd hj (Nat.not_lt_zero _)⟩
  case round =>
    obtain ⟨j, hj, rfl, hb, hall⟩ := hrel
    by_cases hlt : j < nf
    · rcases hf with hf | ⟨p, o, rfl, hp, g⟩
      · omega
      obtain ⟨q0, q1, q2, ba, bm, bc, eb⟩ := g j hlt
      have hp' : p < w.heap.size := by omega
      rw [eb] at q2
      rw [← hb.cell hp'] at q0 q1 q2
      clear g
      have hz := hb.size
      by_cases he : parErr (par j) = 0
      · obtain ⟨e0, e1⟩ := parErr_zero he
        have HE : Hid (parErr (par j) = 0) := he
        clear he
        go_wp2
        go_roundw
        case rel => exact ⟨j + 1, by omega, by go_num, (hb.alloc hz _).alloc (by simp; omega) _, upTo hall.out HE.out⟩
        case measure => simp [intOf]; omega
      · have HE : Hid (exprErr n k z nf par locals = 3) := exprErr_par HB.out hlt he
        have he' : par j < 0 ∨ 3 < par j := by
          unfold parErr at he
          by_cases hh : par j < 0 ∨ 3 < par j
          · exact hh
          · rw [if_neg hh] at he; exact absurd rfl he
        clear he
        rcases he' with e0 | e0
        · have e1 : ¬ 0 ≤ par j := by omega
          go_wp2
          go_ret
          exact ⟨ret_num HE.out.symm, (hb.alloc hz _).alloc (by simp; omega) _⟩
        · have e1 : 0 ≤ par j := by omega
          have e2 : ¬ par j ≤ 3 := by omega
          go_wp2
          go_ret
          exact ⟨ret_num HE.out.symm, (hb.alloc hz _).alloc (by simp; omega) _⟩
    · obtain rfl : j = nf := by omega
      clear hf
      go_wp2_with fail
      go_loopw [9, 28] (fun q i wi => ∃ x : Nat, x ≤ n ∧ i = .int .i64 x ∧ q = .int .i64 (asked k z par x) ∧ Below w.heap.size w wi ∧ Hid (∀ y, y < x → stepErr k z j par locals y = 0)) (fun _ i _ => n - (intOf i).toNat)
      case atStart => exact ⟨0, Nat.zero_le _, rfl, rfl, hb, fun j hj => absurd hj (Nat.not_lt_zero _)⟩
      case round =>
        clear hb
        obtain ⟨x, hx, rfl, rfl, hb, hin⟩ := hrel
        have hr := asked_range hall.out x hin.out
        have HX : Hid (asked k z par (x + 1) = asked k z par x + (asksOf (k x) (z x) par - 1)) := rfl
        by_cases hxlt : x < n
        · rcases h with h | ⟨p, o, rfl, hp, g⟩
          · omega
          obtain ⟨q0, q1⟩ := g x hxlt
          have hp' : p < w.heap.size := by omega
          rw [← hb.cell hp'] at q0 q1
          clear g
          have hz := hb.size
          by_cases he : tokErr (k x) (z x) j locals = 0
          · have hk := asks_range (par := par) he hall.out
            have hcall := fun e => tokErr_call he e
            by_cases ha : asked k z par x = 0
            · have het : (tokErr (k x) (z x) j locals != 0) = false := by simp [he]
              have HE : Hid (exprErr n k z j par locals = 4) := (exprErr_step HB.out hall.out hxlt hin.out (by rw [stepErr_over he ha]; decide)).trans (stepErr_over he ha)
              have hat : (asked k z par x == 0) = true := by simp [ha]
              clear he ha hr HX hcall hk
              go_wp2_with (go_at_call 131; refine (checkTok _ _ _ _ _ _ _).mono ?_; rintro e w1 ⟨rfl, hb1⟩)
              go_ret
              exact ⟨ret_num HE.out.symm, below_step hb (below_step (below_alloc _ _) hb1)⟩
            · have het : (tokErr (k x) (z x) j locals != 0) = false := by simp [he]
              have HE : Hid (stepErr k z j par locals x = 0) := stepErr_good he ha
              have hat : (asked k z par x == 0) = false := by simp [ha]
              have HC : Hid (k x = 6 → 0 ≤ z x ∧ (z x).toNat < j) := hcall
              have hx2 : x ≤ 24 := by have := HB.out; omega
              clear he ha hcall
              go_wp2_with (first
                | (go_at_call 131; refine (checkTok _ _ _ _ _ _ _).mono ?_; rintro e w1 ⟨rfl, hb1⟩; have m0 := box_in hb1 0 rfl; have m1 := box_in hb1 1 rfl)
                | (go_at_call 132; refine (asks N _ _ _ _ _ _ _ _ (hf0.below (below_up (hb.mono hN) (below_step (below_alloc _ _) hb1) hN)) HC.out).mono ?_; rintro e w2 ⟨rfl, hb2⟩))
              go_roundw
              case rel => exact ⟨x + 1, by omega, by go_num, by rw [HX.out], below_step hb (below_step (below_step (below_alloc _ _) hb1) hb2), upTo hin.out HE.out⟩
              case measure => simp [intOf]; omega
          · have het : (tokErr (k x) (z x) j locals != 0) = true := by simp [he]
            have HE : Hid (exprErr n k z j par locals = tokErr (k x) (z x) j locals) := (exprErr_step HB.out hall.out hxlt hin.out (by rw [stepErr_bad he]; exact he)).trans (stepErr_bad he)
            clear he hr HX
            go_wp2_with (go_at_call 131; refine (checkTok _ _ _ _ _ _ _).mono ?_; rintro e w1 ⟨rfl, hb1⟩)
            go_ret
            exact ⟨ret_num HE.out.symm, below_step hb (below_step (below_alloc _ _) hb1)⟩
        · obtain rfl : x = n := by omega
          have HE : Hid (exprErr x k z j par locals = if 0 < asked k z par x then 4 else 0) := exprErr_end HB.out hall.out hin.out
          by_cases ha : 0 < asked k z par x
          · have HF : Hid (exprErr x k z j par locals = 4) := HE.out.trans (if_pos ha)
            clear HE
            go_wp2_with fail
            go_ret
            exact ⟨ret_num HF.out.symm, hb⟩
          · have HF : Hid (exprErr x k z j par locals = 0) := HE.out.trans (if_neg ha)
            clear HE
            go_wp2_with fail
            go_ret
            exact ⟨ret_num HF.out.symm, hb⟩

end Go.Proofs.YtfblnmbcaglliabGreatDoor
