/- slices.Equal over two rows of values; Same of the program and SameCells of the reckoning beside it: alike just if as long and alike at each place. -/
import Derived.Test.YtnkhdhbjdemdkaaRefErr
namespace Go.Proofs.Ytnkhdhbjdemdkaa
open Go.RowKit

/-- Two rows of values are alike. -/
def eqV (n1 n2 : Nat) (k1 z1 k2 z2 : Nat → Int) : Bool := decide (n1 = n2 ∧ ∀ i, i < n1 → k1 i = k2 i ∧ z1 i = z2 i)
theorem eqV_iff {n1 n2 : Nat} {k1 z1 k2 z2 : Nat → Int} : eqV n1 n2 k1 z1 k2 z2 = true ↔ n1 = n2 ∧ ∀ i, i < n1 → k1 i = k2 i ∧ z1 i = z2 i := by
  unfold eqV; exact decide_eq_true_iff
theorem eqV_yes {n : Nat} {k1 z1 k2 z2 : Nat → Int} (h : ∀ i, i < n → k1 i = k2 i ∧ z1 i = z2 i) : eqV n n k1 z1 k2 z2 = true := eqV_iff.2 ⟨rfl, h⟩
theorem eqV_no {n1 n2 : Nat} {k1 z1 k2 z2 : Nat → Int} {k : Nat} (hk : k < n1) (h : ¬ (k1 k = k2 k ∧ z1 k = z2 k)) : eqV n1 n2 k1 z1 k2 z2 = false := by
  rw [Bool.eq_false_iff]; intro e; exact h ((eqV_iff.1 e).2 k hk)
theorem eqV_len {n1 n2 : Nat} {k1 z1 k2 z2 : Nat → Int} (h : ¬ n1 = n2) : eqV n1 n2 k1 z1 k2 z2 = false := by
  rw [Bool.eq_false_iff]; intro e; exact h (eqV_iff.1 e).1

theorem eq30 (a b c d : Int) (w : World) : (Op.equalIn 10000 30 (.agg #[.int .i64 a, .int .i64 b]) (.agg #[.int .i64 c, .int .i64 d])).run Try.prog w = .ok (a == c && b == d) w := by
  have u3 := Try.underlying3
  have a3 := Try.isAgg3
  have z3 := Try.sizeOf3
  have hS : Try.prog.underlying 30 = some (.struct (Try.prog.fieldsOf 30)) := by kernel_rfl
  rw [show (10000 : Nat) = 9999 + 1 from rfl, run_equalIn_agg w 9999 30 _ _ hS (by kernel_rfl)]
  simp only [Program.fieldsOf, Try.underlying30]
  go_simp
  by_cases h1 : a = c <;> by_cases h2 : b = d <;> simp [h1, h2]

theorem neq30 (a b c d : Int) (w : World) : (binOp .neq 30 (.agg #[.int .i64 a, .int .i64 b]) (.agg #[.int .i64 c, .int .i64 d])).run Try.prog w = .ok (.bool (!(a == c && b == d))) w := by
  rw [run_neq_struct, eq30]; rfl

set_option maxHeartbeats 400000 in
theorem eqVals (v1 v2 : Value) (n1 n2 : Nat) (k1 z1 k2 z2 : Nat → Int) (w : World) (h1 : ValsAt w v1 n1 k1 z1) (h2 : ValsAt w v2 n2 k2 z2) :
    Calls Try.prog 28 #[v1, v2] w fun e w' => e = .returned (.bool (eqV n1 n2 k1 z1 k2 z2)) ∧ ∃ n, w' = w.drewN n := by
  obtain ⟨a1, c1, rfl, b1, h1⟩ := h1
  obtain ⟨a2, c2, rfl, b2, h2⟩ := h2
  by_cases hn : n1 = n2
  · subst hn
    have ht : ((n1 : Int) != (n1 : Int)) = false := by simp
    go_enter Try.func28, Try.ntmps28
    go_wp2
    go_loopw [13] (fun i wr => ∃ k m : Nat, k ≤ n1 ∧ i = .int .i64 k ∧ wr = w.drewN m ∧ Hid (∀ j, j < k → k1 j = k2 j ∧ z1 j = z2 j)) (fun i _ => n1 - (intOf i).toNat)
    case atStart => exact ⟨0, 0, Nat.zero_le _, rfl, rfl, fun j hj => absurd hj (Nat.not_lt_zero _)⟩
    case round =>
      obtain ⟨k, m, hk, rfl, rfl, hall⟩ := hrel
      by_cases hlt : k < n1
      · rcases h1 with h1 | ⟨p1, o1, rfl, l1, g1⟩
        · omega
        rcases h2 with h2 | ⟨p2, o2, rfl, l2, g2⟩
        · omega
        obtain ⟨q1, r1⟩ := g1 k hlt
        obtain ⟨q2, r2⟩ := g2 k hlt
        clear g1 g2
        by_cases he : k1 k = k2 k ∧ z1 k = z2 k
        · have HE : Hid (k1 k = k2 k ∧ z1 k = z2 k) := he
          have het : ∀ w : World, (binOp .neq 30 (.agg #[.int .i64 (k1 k), .int .i64 (z1 k)]) (.agg #[.int .i64 (k2 k), .int .i64 (z2 k)])).run Try.prog w = .ok (.bool false) w := by
            intro w; rw [neq30, he.1, he.2]; simp
          clear he
          go_wp2
          go_quiet (fail)
          go_wp2
          go_roundw
          case rel => exact ⟨k + 1, m + nq, by omega, by go_num, by simp, upTo hall.out HE.out⟩
          case measure => simp [intOf]; omega
        · have HE : Hid (eqV n1 n1 k1 z1 k2 z2 = false) := eqV_no hlt he
          have het : ∀ w : World, (binOp .neq 30 (.agg #[.int .i64 (k1 k), .int .i64 (z1 k)]) (.agg #[.int .i64 (k2 k), .int .i64 (z2 k)])).run Try.prog w = .ok (.bool true) w := by
            intro w
            rw [neq30]
            have : (k1 k == k2 k && z1 k == z2 k) = false := by
              rw [Bool.eq_false_iff]; intro e; rw [Bool.and_eq_true, beq_iff_eq, beq_iff_eq] at e; exact he e
            rw [this]; rfl
          clear he
          go_wp2
          go_quiet (fail)
          go_wp2
          go_ret
          exact ⟨ret_bool HE.out.symm, m + nq, by simp⟩
      · go_wp2
        go_ret
        obtain rfl : k = n1 := by omega
        exact ⟨ret_bool (eqV_yes hall.out).symm, _, rfl⟩
  · have ht : ((n1 : Int) != (n2 : Int)) = true := by simp; omega
    have HN : Hid (eqV n1 n2 k1 z1 k2 z2 = false) := eqV_len hn
    clear hn
    go_enter Try.func28, Try.ntmps28
    go_wp2
    go_ret
    exact ⟨ret_bool HN.out.symm, 0, rfl⟩

/-- Two lists of cells are alike. -/
def eqC (n1 n2 : Nat) (m1 m2 : Nat → Nat) (K1 Z1 K2 Z2 : Nat → Nat → Int) : Bool := decide (n1 = n2 ∧ ∀ i, i < n1 → eqV (m1 i) (m2 i) (K1 i) (Z1 i) (K2 i) (Z2 i) = true)
theorem eqC_iff {n1 n2 : Nat} {m1 m2 : Nat → Nat} {K1 Z1 K2 Z2 : Nat → Nat → Int} : eqC n1 n2 m1 m2 K1 Z1 K2 Z2 = true ↔ n1 = n2 ∧ ∀ i, i < n1 → eqV (m1 i) (m2 i) (K1 i) (Z1 i) (K2 i) (Z2 i) = true := by
  unfold eqC; exact decide_eq_true_iff
theorem eqC_yes {n : Nat} {m1 m2 : Nat → Nat} {K1 Z1 K2 Z2 : Nat → Nat → Int} (h : ∀ i, i < n → eqV (m1 i) (m2 i) (K1 i) (Z1 i) (K2 i) (Z2 i) = true) : eqC n n m1 m2 K1 Z1 K2 Z2 = true := eqC_iff.2 ⟨rfl, h⟩
theorem eqC_no {n1 n2 : Nat} {m1 m2 : Nat → Nat} {K1 Z1 K2 Z2 : Nat → Nat → Int} {k : Nat} (hk : k < n1) (h : eqV (m1 k) (m2 k) (K1 k) (Z1 k) (K2 k) (Z2 k) = false) : eqC n1 n2 m1 m2 K1 Z1 K2 Z2 = false := by
  rw [Bool.eq_false_iff]; intro e; have := (eqC_iff.1 e).2 k hk; rw [h] at this; cases this
theorem eqC_len {n1 n2 : Nat} {m1 m2 : Nat → Nat} {K1 Z1 K2 Z2 : Nat → Nat → Int} (h : ¬ n1 = n2) : eqC n1 n2 m1 m2 K1 Z1 K2 Z2 = false := by
  rw [Bool.eq_false_iff]; intro e; exact h (eqC_iff.1 e).1

set_option maxHeartbeats 400000 in
theorem same (v1 v2 : Value) (n1 n2 : Nat) (m1 m2 : Nat → Nat) (K1 Z1 K2 Z2 : Nat → Nat → Int) (w : World) (h1 : CellsAt w v1 n1 m1 K1 Z1) (h2 : CellsAt w v2 n2 m2 K2 Z2) :
    Calls Try.prog 14 #[v1, v2] w fun e w' => e = .returned (.bool (eqC n1 n2 m1 m2 K1 Z1 K2 Z2)) ∧ ∃ n, w' = w.drewN n := by
  obtain ⟨a1, c1, rfl, b1, h1⟩ := h1
  obtain ⟨a2, c2, rfl, b2, h2⟩ := h2
  by_cases hn : n1 = n2
  · subst hn
    have ht : ((n1 : Int) != (n1 : Int)) = false := by simp
    go_enter Try.func14, Try.ntmps14
    go_wp2
    go_loopw [13] (fun i wr => ∃ k m : Nat, k ≤ n1 ∧ i = .int .i64 k ∧ wr = w.drewN m ∧ Hid (∀ j, j < k → eqV (m1 j) (m2 j) (K1 j) (Z1 j) (K2 j) (Z2 j) = true)) (fun i _ => n1 - (intOf i).toNat)
    case atStart => exact ⟨0, 0, Nat.zero_le _, rfl, rfl, fun j hj => absurd hj (Nat.not_lt_zero _)⟩
    case round =>
      obtain ⟨k, m, hk, rfl, hw, hall⟩ := hrel
      by_cases hlt : k < n1
      · rcases h1 with h1 | ⟨p1, o1, rfl, l1, g1⟩
        · omega
        rcases h2 with h2 | ⟨p2, o2, rfl, l2, g2⟩
        · omega
        obtain ⟨u1, q1, r1⟩ := g1 k hlt
        obtain ⟨u2, q2, r2⟩ := g2 k hlt
        have s1 : wr.cell? ⟨p1, o1 + k, none⟩ = some u1 := by rw [hw, World.cell?_drewN]; exact q1
        have s2 : wr.cell? ⟨p2, o2 + k, none⟩ = some u2 := by rw [hw, World.cell?_drewN]; exact q2
        have HQ : Hid (∀ y, Calls Try.prog 28 #[u1, u2] (wr.drewN y) fun e w' => e = .returned (.bool (eqV (m1 k) (m2 k) (K1 k) (Z1 k) (K2 k) (Z2 k))) ∧ ∃ n, w' = (wr.drewN y).drewN n) := by
          intro y
          rw [hw]
          exact eqVals _ _ _ _ _ _ _ _ _ ((r1.drewN m).drewN y) ((r2.drewN m).drewN y)
        have HW : Hid (wr = w.drewN m) := hw
        clear g1 g2 r1 r2 q1 q2 hw
        by_cases he : eqV (m1 k) (m2 k) (K1 k) (Z1 k) (K2 k) (Z2 k) = true
        · have HE : Hid (eqV (m1 k) (m2 k) (K1 k) (Z1 k) (K2 k) (Z2 k) = true) := he
          rw [he] at HQ
          clear he
          go_wp2
          go_quiet ((go_at_call 28; exact Calls.quiet_of (HQ.out _)))
          go_wp2
          go_roundw
          case rel => exact ⟨k + 1, m + nq, by omega, by go_num, by rw [HW.out, World.drewN_drewN], upTo hall.out HE.out⟩
          case measure => simp [intOf]; omega
        · have hf : eqV (m1 k) (m2 k) (K1 k) (Z1 k) (K2 k) (Z2 k) = false := by simpa using he
          have HE : Hid (eqC n1 n1 m1 m2 K1 Z1 K2 Z2 = false) := eqC_no hlt hf
          rw [hf] at HQ
          clear he hf
          go_wp2
          go_quiet ((go_at_call 28; exact Calls.quiet_of (HQ.out _)))
          go_wp2
          go_ret
          exact ⟨ret_bool HE.out.symm, m + nq, by rw [HW.out, World.drewN_drewN]⟩
      · subst hw
        go_wp2
        go_ret
        obtain rfl : k = n1 := by omega
        exact ⟨ret_bool (eqC_yes hall.out).symm, _, rfl⟩
  · have ht : ((n1 : Int) != (n2 : Int)) = true := by simp; omega
    have HN : Hid (eqC n1 n2 m1 m2 K1 Z1 K2 Z2 = false) := eqC_len hn
    clear hn
    go_enter Try.func14, Try.ntmps14
    go_wp2
    go_ret
    exact ⟨ret_bool HN.out.symm, 0, rfl⟩

set_option maxHeartbeats 400000 in
theorem sameCells (v1 v2 : Value) (n1 n2 : Nat) (m1 m2 : Nat → Nat) (K1 Z1 K2 Z2 : Nat → Nat → Int) (w : World) (h1 : CellsAt w v1 n1 m1 K1 Z1) (h2 : CellsAt w v2 n2 m2 K2 Z2) :
    Calls Try.prog 15 #[v1, v2] w fun e w' => e = .returned (.bool (eqC n1 n2 m1 m2 K1 Z1 K2 Z2)) ∧ ∃ n, w' = w.drewN n := by
  obtain ⟨a1, c1, rfl, b1, h1⟩ := h1
  obtain ⟨a2, c2, rfl, b2, h2⟩ := h2
  by_cases hn : n1 = n2
  · subst hn
    have ht : ((n1 : Int) != (n1 : Int)) = false := by simp
    go_enter Try.func15, Try.ntmps15
    go_wp2
    go_loopw [13] (fun i wr => ∃ k m : Nat, k ≤ n1 ∧ i = .int .i64 k ∧ wr = w.drewN m ∧ Hid (∀ j, j < k → eqV (m1 j) (m2 j) (K1 j) (Z1 j) (K2 j) (Z2 j) = true)) (fun i _ => n1 - (intOf i).toNat)
    case atStart => exact ⟨0, 0, Nat.zero_le _, rfl, rfl, fun j hj => absurd hj (Nat.not_lt_zero _)⟩
    case round =>
      obtain ⟨k, m, hk, rfl, hw, hall⟩ := hrel
      by_cases hlt : k < n1
      · rcases h1 with h1 | ⟨p1, o1, rfl, l1, g1⟩
        · omega
        rcases h2 with h2 | ⟨p2, o2, rfl, l2, g2⟩
        · omega
        obtain ⟨u1, q1, r1⟩ := g1 k hlt
        obtain ⟨u2, q2, r2⟩ := g2 k hlt
        have s1 : wr.cell? ⟨p1, o1 + k, none⟩ = some u1 := by rw [hw, World.cell?_drewN]; exact q1
        have s2 : wr.cell? ⟨p2, o2 + k, none⟩ = some u2 := by rw [hw, World.cell?_drewN]; exact q2
        have HQ : Hid (∀ y, Calls Try.prog 28 #[u1, u2] (wr.drewN y) fun e w' => e = .returned (.bool (eqV (m1 k) (m2 k) (K1 k) (Z1 k) (K2 k) (Z2 k))) ∧ ∃ n, w' = (wr.drewN y).drewN n) := by
          intro y
          rw [hw]
          exact eqVals _ _ _ _ _ _ _ _ _ ((r1.drewN m).drewN y) ((r2.drewN m).drewN y)
        have HW : Hid (wr = w.drewN m) := hw
        clear g1 g2 r1 r2 q1 q2 hw
        by_cases he : eqV (m1 k) (m2 k) (K1 k) (Z1 k) (K2 k) (Z2 k) = true
        · have HE : Hid (eqV (m1 k) (m2 k) (K1 k) (Z1 k) (K2 k) (Z2 k) = true) := he
          rw [he] at HQ
          clear he
          go_wp2
          go_quiet ((go_at_call 28; exact Calls.quiet_of (HQ.out _)))
          go_wp2
          go_roundw
          case rel => exact ⟨k + 1, m + nq, by omega, by go_num, by rw [HW.out, World.drewN_drewN], upTo hall.out HE.out⟩
          case measure => simp [intOf]; omega
        · have hf : eqV (m1 k) (m2 k) (K1 k) (Z1 k) (K2 k) (Z2 k) = false := by simpa using he
          have HE : Hid (eqC n1 n1 m1 m2 K1 Z1 K2 Z2 = false) := eqC_no hlt hf
          rw [hf] at HQ
          clear he hf
          go_wp2
          go_quiet ((go_at_call 28; exact Calls.quiet_of (HQ.out _)))
          go_wp2
          go_ret
          exact ⟨ret_bool HE.out.symm, m + nq, by rw [HW.out, World.drewN_drewN]⟩
      · subst hw
        go_wp2
        go_ret
        obtain rfl : k = n1 := by omega
        exact ⟨ret_bool (eqC_yes hall.out).symm, _, rfl⟩
  · have ht : ((n1 : Int) != (n2 : Int)) = true := by simp; omega
    have HN : Hid (eqC n1 n2 m1 m2 K1 Z1 K2 Z2 = false) := eqC_len hn
    clear hn
    go_enter Try.func15, Try.ntmps15
    go_wp2
    go_ret
    exact ⟨ret_bool HN.out.symm, 0, rfl⟩

end Go.Proofs.Ytnkhdhbjdemdkaa
