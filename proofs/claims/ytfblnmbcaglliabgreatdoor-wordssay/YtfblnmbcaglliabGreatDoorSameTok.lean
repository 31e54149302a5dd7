/- slices.Equal over two rows of tokens; sameHead: two statements but for those in them. -/
import Derived.Test.YtfblnmbcaglliabGreatDoorPartCheck
namespace Go.Proofs.YtfblnmbcaglliabGreatDoor
open Go.RowKit

theorem eq75 (a b c d : Int) (w : World) : (Op.equalIn 10000 65 (.agg #[.int .i64 a, .int .i64 b]) (.agg #[.int .i64 c, .int .i64 d])).run Tryz.prog w = .ok (a == c && b == d) w := by
  have u3 := Tryz.underlying3
  have a3 := Tryz.isAgg3
  have z3 := Tryz.sizeOf3
  have hS : Tryz.prog.underlying 65 = some (.struct (Tryz.prog.fieldsOf 65)) := by kernel_rfl
  rw [show (10000 : Nat) = 9999 + 1 from rfl, run_equalIn_agg w 9999 65 _ _ hS (by kernel_rfl)]
  simp only [Program.fieldsOf, Tryz.underlying65]
  go_simp
  by_cases h1 : a = c <;> by_cases h2 : b = d <;> simp [h1, h2]

theorem neq75 (a b c d : Int) (w : World) : (binOp .neq 65 (.agg #[.int .i64 a, .int .i64 b]) (.agg #[.int .i64 c, .int .i64 d])).run Tryz.prog w = .ok (.bool (!(a == c && b == d))) w := by
  rw [run_neq_struct, eq75]; rfl

set_option maxHeartbeats 400000 in
theorem eqToks (N : Nat) (v1 v2 : Value) (n1 n2 : Nat) (k1 z1 k2 z2 : Nat → Int) (w : World) (h1 : ToksAt N w v1 n1 k1 z1) (h2 : ToksAt N w v2 n2 k2 z2) :
    Calls Tryz.prog 75 #[v1, v2] w fun e w' => e = .returned (.bool (eqV n1 n2 k1 z1 k2 z2)) ∧ Below w.heap.size w w' := by
  obtain ⟨a1, c1, rfl, b1, h1⟩ := h1
  obtain ⟨a2, c2, rfl, b2, h2⟩ := h2
  by_cases hn : n1 = n2
  · subst hn
    have ht : ((n1 : Int) != (n1 : Int)) = false := by simp
    go_enter Tryz.func75, Tryz.ntmps75
    go_wp2
    go_loopw [13] (fun i wr => ∃ k m : Nat, k ≤ n1 ∧ i = .int .i64 k ∧ wr = w.drewN m ∧ Hid (∀ j, j < k → k1 j = k2 j ∧ z1 j = z2 j)) (fun i _ => n1 - (intOf i).toNat)
    case atStart => exact ⟨0, 0, Nat.zero_le _, rfl, rfl, fun j hj => absurd hj (Nat.not_lt_zero _)⟩
    case round =>
      obtain ⟨k, m, hk, rfl, rfl, hall⟩ := hrel
      by_cases hlt : k < n1
      · rcases h1 with h1 | ⟨p1, o1, rfl, l1, g1⟩
        · omega
        rcases h2 with h2 | ⟨p2, o2, rfl, l2, g2⟩
        · omega
        obtain ⟨q1, r1⟩ := g1 k hlt
        obtain ⟨q2, r2⟩ := g2 k hlt
        clear g1 g2
        by_cases he : k1 k = k2 k ∧ z1 k = z2 k
        · have HE : Hid (k1 k = k2 k ∧ z1 k = z2 k) := he
          have het : ∀ w : World, (binOp .neq 65 (.agg #[.int .i64 (k1 k), .int .i64 (z1 k)]) (.agg #[.int .i64 (k2 k), .int .i64 (z2 k)])).run Tryz.prog w = .ok (.bool false) w := by
            intro w; rw [neq75, he.1, he.2]; simp
          clear he
          go_wp2
          go_quiet (fail)
          go_wp2
          go_roundw
          case rel => exact ⟨k + 1, m + nq, by omega, by go_num, by simp, upTo hall.out HE.out⟩
          case measure => simp [intOf]; omega
        · have HE : Hid (eqV n1 n1 k1 z1 k2 z2 = false) := eqV_no hlt he
          have het : ∀ w : World, (binOp .neq 65 (.agg #[.int .i64 (k1 k), .int .i64 (z1 k)]) (.agg #[.int .i64 (k2 k), .int .i64 (z2 k)])).run Tryz.prog w = .ok (.bool true) w := by
            intro w
            rw [neq75]
            have : (k1 k == k2 k && z1 k == z2 k) = false := by
              rw [Bool.eq_false_iff]; intro e; rw [Bool.and_eq_true, beq_iff_eq, beq_iff_eq] at e; exact he e
            rw [this]; rfl
          clear he
          go_wp2
          go_quiet (fail)
          go_wp2
          go_ret
          exact ⟨ret_bool HE.out.symm, by simpa using below_drewN' w (m + nq)⟩
      · go_wp2
        go_ret
        obtain rfl : k = n1 := by omega
        exact ⟨ret_bool (eqV_yes hall.out).symm, below_drewN' _ _⟩
  · have ht : ((n1 : Int) != (n2 : Int)) = true := by simp; omega
    have HN : Hid (eqV n1 n2 k1 z1 k2 z2 = false) := eqV_len hn
    clear hn
    go_enter Tryz.func75, Tryz.ntmps75
    go_wp2
    go_ret
    exact ⟨ret_bool HN.out.symm, Below.refl _ _⟩

/-- The ways two statements part. -/
theorem eqH_ways (s t : Nd) : (¬ s.kind = t.kind ∧ eqH s t = false) ∨ (s.kind = t.kind ∧ ¬ s.num = t.num ∧ eqH s t = false) ∨
    (s.kind = t.kind ∧ s.num = t.num ∧ eqV s.ne t.ne s.ek s.ez t.ek t.ez = false ∧ eqH s t = false) ∨
    (s.kind = t.kind ∧ s.num = t.num ∧ eqV s.ne t.ne s.ek s.ez t.ek t.ez = true ∧ eqH s t = eqV s.nf t.nf s.fk s.fz t.fk t.fz) := by
  unfold eqH
  by_cases h1 : s.kind = t.kind
  · by_cases h2 : s.num = t.num
    · cases h3 : eqV s.ne t.ne s.ek s.ez t.ek t.ez <;> simp [h1, h2]
    · simp [h1, h2]
  · simp [h1]

end Go.Proofs.YtfblnmbcaglliabGreatDoor
