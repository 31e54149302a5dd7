/- CheckCells of the reckoning beside the program: the same first error as CheckAll's. -/
import Derived.Test.YtnkhdhbjdemdkaaRowsErr
namespace Go.Proofs.Ytnkhdhbjdemdkaa
open Go.RowKit

set_option maxHeartbeats 1000000 in
theorem checkCells (v : Value) (n : Nat) (m : Nat → Nat) (K Z : Nat → Nat → Int) (w : World) (h : CellsAt w v n m K Z) :
    Calls Try.prog 9 #[v] w fun e w' => e = .returned (.int .i64 (allErr n m K Z)) ∧ Below w.heap.size w w' := by
  obtain ⟨a, cap, rfl, hn, h⟩ := h
  by_cases hbig : 24 < n
  · have HE : Hid (allErr n m K Z = 2) := if_pos hbig
    have hbi : (24 : Int) < (n : Int) := by omega
    go_enter Try.func9, Try.ntmps9
    go_wp2
    go_ret
    exact ⟨ret_num HE.out.symm, Below.refl _ _⟩
  have HA : Hid (allErr n m K Z = firstErr n fun i => cellErr (m i) (K i) (Z i) n) := if_neg hbig
  have hbi : ¬ (24 : Int) < (n : Int) := by omega
  go_enter Try.func9, Try.ntmps9
  go_wp2
  go_loopw [13] (fun i wr => ∃ j : Nat, j ≤ n ∧ i = .int .i64 j ∧ Below w.heap.size w wr ∧ Hid (∀ x, x < j → cellErr (m x) (K x) (Z x) n = 0)) (fun i _ => n - (intOf i).toNat)
  case atStart => exact ⟨0, Nat.zero_le _, rfl, Below.refl _ _, fun j hj => absurd hj (Nat.not_lt_zero _)⟩
  case round =>
    obtain ⟨j, hj, rfl, hb, hall⟩ := hrel
    by_cases hlt : j < n
    · rcases h with h | ⟨p, o, rfl, hp, g⟩
      · omega
      obtain ⟨u, q0, hv⟩ := g j hlt
      rw [← hb.cell hp] at q0
      have hv1 := hv.below hb
      clear g hv
      have hz := hb.size
      obtain ⟨a1, cap1, rfl, hn1, hv1⟩ := hv1
      by_cases h1 : m j < 1
      · have HE : Hid (allErr n m K Z = 2) := by
          have e1 : cellErr (m j) (K j) (Z j) n = 2 := if_pos (Or.inl h1)
          rw [HA.out, firstErr_at hall.out (by rw [e1]; decide) hlt]; exact e1
        have h1i : ¬ (1 : Int) ≤ (m j : Int) := by omega
        go_wp2
        go_ret
        exact ⟨ret_num HE.out.symm, hb⟩
      by_cases h4 : 4 < m j
      · have HE : Hid (allErr n m K Z = 2) := by
          have e1 : cellErr (m j) (K j) (Z j) n = 2 := if_pos (Or.inr h4)
          rw [HA.out, firstErr_at hall.out (by rw [e1]; decide) hlt]; exact e1
        have h1i : (1 : Int) ≤ (m j : Int) := by omega
        have h4i : ¬ (m j : Int) ≤ 4 := by omega
        go_wp2
        go_ret
        exact ⟨ret_num HE.out.symm, hb⟩
      have HC : Hid (cellErr (m j) (K j) (Z j) n = rowErr (m j) (K j) (Z j) n) := if_neg (by omega)
      have h1i : (1 : Int) ≤ (m j : Int) := by omega
      have h4i : (m j : Int) ≤ 4 := by omega
      have h1d : decide ((1 : Int) ≤ (m j : Int)) = true := by simp; omega
      have h4d : decide ((m j : Int) ≤ 4) = true := by simp; omega
      go_wp2
      go_loopw [23] (fun i wi => ∃ x : Nat, x ≤ m j ∧ i = .int .i64 x ∧ Below w.heap.size w wi ∧ Below wr.heap.size wr wi ∧ Hid (∀ y, y < x → chk (K j y) (Z j y) n = 0)) (fun i _ => m j - (intOf i).toNat)
      case atStart => exact ⟨0, Nat.zero_le _, rfl, hb, Below.refl _ _, fun j hj => absurd hj (Nat.not_lt_zero _)⟩
      case round =>
        obtain ⟨x, hx, rfl, hb0, hbi0, hin⟩ := hrel
        by_cases hxlt : x < m j
        · rcases hv1 with hv1 | ⟨p1, o1, rfl, hp1, g1⟩
          · omega
          obtain ⟨r0, r1⟩ := g1 x hxlt
          rw [← hbi0.cell hp1] at r0 r1
          clear g1
          have hzi := hbi0.size
          by_cases he : chk (K j x) (Z j x) n = 0
          · have het : (chk (K j x) (Z j x) n != 0) = false := by simp [he]
            have HE : Hid (chk (K j x) (Z j x) n = 0) := he
            clear he
            go_wp2_with (go_at_call 12; refine (checkValue _ _ _ _).mono ?_; rintro e w1 ⟨rfl, hb1⟩)
            go_roundw
            case rel =>
              have hb2 := below_step (below_alloc _ _) hb1
              (repeat apply Exists.intro); exact ⟨⟨x + 1, by omega, by go_num, below_step hb0 hb2, below_step hbi0 hb2, upTo hin.out HE.out⟩, rfl⟩
            case measure => simp [intOf]; omega
          · have het : (chk (K j x) (Z j x) n != 0) = true := by simp [he]
            have HE : Hid (allErr n m K Z = chk (K j x) (Z j x) n) := by
              have e1 : rowErr (m j) (K j) (Z j) n = chk (K j x) (Z j x) n := firstErr_at hin.out he hxlt
              rw [HA.out, firstErr_at hall.out (by rw [HC.out, e1]; exact he) hlt]; exact HC.out.trans e1
            clear he
            go_wp2_with (go_at_call 12; refine (checkValue _ _ _ _).mono ?_; rintro e w1 ⟨rfl, hb1⟩)
            go_ret
            exact ⟨ret_num HE.out.symm, below_step hb0 (below_step (below_alloc _ _) hb1)⟩
        · go_wp2
          go_roundw
          case rel =>
            obtain rfl : x = m j := by omega
            exact ⟨j + 1, by omega, by go_num, hb0, upTo hall.out (HC.out.trans (firstErr_zero hin.out))⟩
          case measure => simp [intOf]; omega
    · go_wp2
      go_ret
      obtain rfl : j = n := by omega
      exact ⟨ret_num (HA.out.trans (firstErr_zero hall.out)).symm, hb⟩

end Go.Proofs.Ytnkhdhbjdemdkaa
