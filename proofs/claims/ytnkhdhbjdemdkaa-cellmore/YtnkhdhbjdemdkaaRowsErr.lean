/- checkRow, CheckAll, checkReach of the program, and CheckCells of the reckoning beside it: the first error. -/
import Derived.Test.YtnkhdhbjdemdkaaCheck
namespace Go.Proofs.Ytnkhdhbjdemdkaa
open Go.RowKit

set_option maxHeartbeats 400000 in
theorem checkRow (v : Value) (n : Nat) (k z : Nat → Int) (c : Int) (w : World) (h : ValsAt w v n k z) :
    Calls Try.prog 27 #[v, .int .i64 c] w fun e w' => e = .returned (.int .i64 (rowErr n k z c)) ∧ Below w.heap.size w w' := by
  obtain ⟨a, cap, rfl, hn, h⟩ := h
  go_enter Try.func27, Try.ntmps27
  go_wp2
  go_loopw [10] (fun i wr => ∃ j : Nat, j ≤ n ∧ i = .int .i64 j ∧ Below w.heap.size w wr ∧ Hid (∀ x, x < j → chk (k x) (z x) c = 0)) (fun i _ => n - (intOf i).toNat)
  case atStart => exact ⟨0, Nat.zero_le _, rfl, Below.refl _ _, fun j hj => absurd hj (Nat.not_lt_zero _)⟩
  case round =>
    obtain ⟨j, hj, rfl, hb, hall⟩ := hrel
    by_cases hlt : j < n
    · rcases h with h | ⟨p, o, rfl, hp, g⟩
      · omega
      obtain ⟨q0, q1⟩ := g j hlt
      rw [← hb.cell hp] at q0 q1
      clear g
      have hz := hb.size
      by_cases he : chk (k j) (z j) c = 0
      · have het : (chk (k j) (z j) c != 0) = false := by simp [he]
        have HE : Hid (chk (k j) (z j) c = 0) := he
        clear he
        go_wp2_with (go_at_call 11; refine (check _ _ _ _).mono ?_; rintro e w1 ⟨rfl, hb1⟩)
        go_roundw
        case rel => exact ⟨j + 1, by omega, by go_num, hb.trans (((below_alloc _ _).trans (hb1.mono (by simp))).mono hz), upTo hall.out HE.out⟩
        case measure => simp [intOf]; omega
      · have het : (chk (k j) (z j) c != 0) = true := by simp [he]
        have HE : Hid (rowErr n k z c = chk (k j) (z j) c) := firstErr_at hall.out he hlt
        clear he
        go_wp2_with (go_at_call 11; refine (check _ _ _ _).mono ?_; rintro e w1 ⟨rfl, hb1⟩)
        go_ret
        exact ⟨ret_num HE.out.symm, hb.trans (((below_alloc _ _).trans (hb1.mono (by simp))).mono hz)⟩
    · go_wp2
      go_ret
      obtain rfl : j = n := by omega
      exact ⟨ret_num (firstErr_zero hall.out).symm, hb⟩

set_option maxHeartbeats 400000 in
theorem checkAll (v : Value) (n : Nat) (m : Nat → Nat) (K Z : Nat → Nat → Int) (w : World) (h : CellsAt w v n m K Z) :
    Calls Try.prog 13 #[v] w fun e w' => e = .returned (.int .i64 (allErr n m K Z)) ∧ Below w.heap.size w w' := by
  obtain ⟨a, cap, rfl, hn, h⟩ := h
  by_cases hbig : 24 < n
  · have HE : Hid (allErr n m K Z = 2) := if_pos hbig
    have hbi : (24 : Int) < (n : Int) := by omega
    go_enter Try.func13, Try.ntmps13
    go_wp2
    go_ret
    exact ⟨ret_num HE.out.symm, Below.refl _ _⟩
  have HA : Hid (allErr n m K Z = firstErr n fun i => cellErr (m i) (K i) (Z i) n) := if_neg hbig
  have hbi : ¬ (24 : Int) < (n : Int) := by omega
  go_enter Try.func13, Try.ntmps13
  go_wp2
  go_loopw [11] (fun i wr => ∃ j : Nat, j ≤ n ∧ i = .int .i64 j ∧ Below w.heap.size w wr ∧ Hid (∀ x, x < j → cellErr (m x) (K x) (Z x) n = 0)) (fun i _ => n - (intOf i).toNat)
  case atStart => exact ⟨0, Nat.zero_le _, rfl, Below.refl _ _, fun j hj => absurd hj (Nat.not_lt_zero _)⟩
  case round =>
    obtain ⟨j, hj, rfl, hb, hall⟩ := hrel
    by_cases hlt : j < n
    · rcases h with h | ⟨p, o, rfl, hp, g⟩
      · omega
      obtain ⟨u, q0, hv⟩ := g j hlt
      rw [← hb.cell hp] at q0
      have hv1 := hv.below hb
      clear g hv
      have hz := hb.size
      have hv2 := hv1
      obtain ⟨a1, cap1, rfl, hn1, _⟩ := hv2
      by_cases h1 : m j < 1
      · have HE : Hid (allErr n m K Z = 2) := by
          have e1 : cellErr (m j) (K j) (Z j) n = 2 := if_pos (Or.inl h1)
          rw [HA.out, firstErr_at hall.out (by rw [e1]; decide) hlt]; exact e1
        have h1i : (m j : Int) < 1 := by omega
        go_wp2_with fail
        go_ret
        exact ⟨ret_num HE.out.symm, hb⟩
      by_cases h4 : 4 < m j
      · have HE : Hid (allErr n m K Z = 2) := by
          have e1 : cellErr (m j) (K j) (Z j) n = 2 := if_pos (Or.inr h4)
          rw [HA.out, firstErr_at hall.out (by rw [e1]; decide) hlt]; exact e1
        have h1i : ¬ (m j : Int) < 1 := by omega
        have h4i : (4 : Int) < (m j : Int) := by omega
        go_wp2_with fail
        go_ret
        exact ⟨ret_num HE.out.symm, hb⟩
      have HC : Hid (cellErr (m j) (K j) (Z j) n = rowErr (m j) (K j) (Z j) n) := if_neg (by omega)
      have h1i : ¬ (m j : Int) < 1 := by omega
      have h4i : ¬ (4 : Int) < (m j : Int) := by omega
      by_cases he : rowErr (m j) (K j) (Z j) n = 0
      · have het : (rowErr (m j) (K j) (Z j) n != 0) = false := by simp [he]
        have HE : Hid (rowErr (m j) (K j) (Z j) n = 0) := he
        clear he
        go_wp2_with (go_at_call 27; refine (checkRow _ _ _ _ _ _ hv1).mono ?_; rintro e w1 ⟨rfl, hb1⟩)
        go_roundw
        case rel => exact ⟨j + 1, by omega, by go_num, below_step hb hb1, upTo hall.out (HC.out.trans HE.out)⟩
        case measure => simp [intOf]; omega
      · have het : (rowErr (m j) (K j) (Z j) n != 0) = true := by simp [he]
        have HE : Hid (allErr n m K Z = rowErr (m j) (K j) (Z j) n) := by
          rw [HA.out, firstErr_at hall.out (by rw [HC.out]; exact he) hlt]; exact HC.out
        clear he
        go_wp2_with (go_at_call 27; refine (checkRow _ _ _ _ _ _ hv1).mono ?_; rintro e w1 ⟨rfl, hb1⟩)
        go_ret
        exact ⟨ret_num HE.out.symm, below_step hb hb1⟩
    · go_wp2_with fail
      go_ret
      obtain rfl : j = n := by omega
      exact ⟨ret_num (HA.out.trans (firstErr_zero hall.out)).symm, hb⟩

theorem reachErr_all {n : Nat} {m : Nat → Nat} {K Z : Nat → Nat → Int} {f : Nat} {kf zf : Nat → Int} (h : ¬ allErr n m K Z = 0) : reachErr n m K Z f kf zf = allErr n m K Z := if_neg h
theorem reachErr_many {n : Nat} {m : Nat → Nat} {K Z : Nat → Nat → Int} {f : Nat} {kf zf : Nat → Int} (h : allErr n m K Z = 0) (hf : 400 < f) : reachErr n m K Z f kf zf = 2 := by
  unfold reachErr; rw [if_pos h, if_pos hf]
theorem reachErr_row {n : Nat} {m : Nat → Nat} {K Z : Nat → Nat → Int} {f : Nat} {kf zf : Nat → Int} (h : allErr n m K Z = 0) (hf : ¬ 400 < f) : reachErr n m K Z f kf zf = rowErr f kf zf n := by
  unfold reachErr; rw [if_pos h, if_neg hf]

set_option maxHeartbeats 400000 in
theorem checkReach (v u : Value) (n : Nat) (m : Nat → Nat) (K Z : Nat → Nat → Int) (f : Nat) (kf zf : Nat → Int) (w : World) (h : CellsAt w v n m K Z) (hu : ValsAt w u f kf zf) :
    Calls Try.prog 21 #[v, u] w fun e w' => e = .returned (.int .i64 (reachErr n m K Z f kf zf)) ∧ Below w.heap.size w w' := by
  have h' := h
  have hu' := hu
  obtain ⟨a, cap, rfl, hn, _⟩ := h'
  obtain ⟨b, cap1, rfl, hf, _⟩ := hu'
  by_cases he : allErr n m K Z = 0
  · have het : (allErr n m K Z != 0) = false := by simp [he]
    by_cases hbig : 400 < f
    · have HE : Hid (reachErr n m K Z f kf zf = 2) := reachErr_many he hbig
      have hbi : (400 : Int) < (f : Int) := by omega
      clear he
      go_enter Try.func21, Try.ntmps21
      go_wp2_with (go_at_call 13; refine (checkAll _ _ _ _ _ _ h).mono ?_; rintro e w1 ⟨rfl, hb1⟩)
      go_ret
      exact ⟨ret_num HE.out.symm, hb1⟩
    · have HE : Hid (reachErr n m K Z f kf zf = rowErr f kf zf n) := reachErr_row he hbig
      have hbi : ¬ (400 : Int) < (f : Int) := by omega
      clear he
      go_enter Try.func21, Try.ntmps21
      go_wp2_with (first | (go_at_call 13; refine (checkAll _ _ _ _ _ _ h).mono ?_; rintro e w1 ⟨rfl, hb1⟩) | (go_at_call 27; refine (checkRow _ _ _ _ _ _ (hu.below hb1)).mono ?_; rintro e w2 ⟨rfl, hb2⟩))
      go_ret
      exact ⟨ret_num HE.out.symm, below_step hb1 hb2⟩
  · have het : (allErr n m K Z != 0) = true := by simp [he]
    have HE : Hid (reachErr n m K Z f kf zf = allErr n m K Z) := reachErr_all he
    clear he
    go_enter Try.func21, Try.ntmps21
    go_wp2_with (go_at_call 13; refine (checkAll _ _ _ _ _ _ h).mono ?_; rintro e w1 ⟨rfl, hb1⟩)
    go_ret
    exact ⟨ret_num HE.out.symm, hb1⟩

end Go.Proofs.Ytnkhdhbjdemdkaa
