/- slices.Equal over two rows of tokens; sameHead: two statements but for those in them. -/
import Derived.Test.YtomfkfhipemlcabDoorBody
namespace Go.Proofs.YtomfkfhipemlcabDoor
open Go.RowKit

theorem eq75 (a b c d : Int) (w : World) : (Op.equalIn 10000 75 (.agg #[.int .i64 a, .int .i64 b]) (.agg #[.int .i64 c, .int .i64 d])).run Tryd.prog w = .ok (a == c && b == d) w := by
  have u3 := Tryd.underlying3
  have a3 := Tryd.isAgg3
  have z3 := Tryd.sizeOf3
  have hS : Tryd.prog.underlying 75 = some (.struct (Tryd.prog.fieldsOf 75)) := by kernel_rfl
  rw [show (10000 : Nat) = 9999 + 1 from rfl, run_equalIn_agg w 9999 75 _ _ hS (by kernel_rfl)]
  simp only [Program.fieldsOf, Tryd.underlying75]
  go_simp
  by_cases h1 : a = c <;> by_cases h2 : b = d <;> simp [h1, h2]

theorem neq75 (a b c d : Int) (w : World) : (binOp .neq 75 (.agg #[.int .i64 a, .int .i64 b]) (.agg #[.int .i64 c, .int .i64 d])).run Tryd.prog w = .ok (.bool (!(a == c && b == d))) w := by
  rw [run_neq_struct, eq75]; rfl

set_option maxHeartbeats 400000 in
theorem eqToks (N : Nat) (v1 v2 : Value) (n1 n2 : Nat) (k1 z1 k2 z2 : Nat → Int) (w : World) (h1 : ToksAt N w v1 n1 k1 z1) (h2 : ToksAt N w v2 n2 k2 z2) :
    Calls Tryd.prog 38 #[v1, v2] w fun e w' => e = .returned (.bool (eqV n1 n2 k1 z1 k2 z2)) ∧ Below w.heap.size w w' := by
  obtain ⟨a1, c1, rfl, b1, h1⟩ := h1
  obtain ⟨a2, c2, rfl, b2, h2⟩ := h2
  by_cases hn : n1 = n2
  · subst hn
    have ht : ((n1 : Int) != (n1 : Int)) = false := by simp
    go_enter Tryd.func38, Tryd.ntmps38
    go_wp2
    go_loopw [13] (fun i wr => ∃ k m : Nat, k ≤ n1 ∧ i = .int .i64 k ∧ wr = w.drewN m ∧ Hid (∀ j, j < k → k1 j = k2 j ∧ z1 j = z2 j)) (fun i _ => n1 - (intOf i).toNat)
    case atStart => exact ⟨0, 0, Nat.zero_le _, rfl, rfl, fun j hj => absurd hj (Nat.not_lt_zero _)⟩
    case round =>
      obtain ⟨k, m, hk, rfl, rfl, hall⟩ := hrel
      by_cases hlt : k < n1
      · rcases h1 with h1 | ⟨p1, o1, rfl, l1, g1⟩
        · omega
        rcases h2 with h2 | ⟨p2, o2, rfl, l2, g2⟩
        · omega
        obtain ⟨q1, r1⟩ := g1 k hlt
        obtain ⟨q2, r2⟩ := g2 k hlt
        clear g1 g2
        by_cases he : k1 k = k2 k ∧ z1 k = z2 k
        · have HE : Hid (k1 k = k2 k ∧ z1 k = z2 k) := he
          have het : ∀ w : World, (binOp .neq 75 (.agg #[.int .i64 (k1 k), .int .i64 (z1 k)]) (.agg #[.int .i64 (k2 k), .int .i64 (z2 k)])).run Tryd.prog w = .ok (.bool false) w := by
            intro w; rw [neq75, he.1, he.2]; simp
          clear he
          go_wp2
          go_quiet (fail)
          go_wp2
          go_roundw
          case rel => exact ⟨k + 1, m + nq, by omega, by go_num, by simp, upTo hall.out HE.out⟩
          case measure => simp [intOf]; omega
        · have HE : Hid (eqV n1 n1 k1 z1 k2 z2 = false) := eqV_no hlt he
          have het : ∀ w : World, (binOp .neq 75 (.agg #[.int .i64 (k1 k), .int .i64 (z1 k)]) (.agg #[.int .i64 (k2 k), .int .i64 (z2 k)])).run Tryd.prog w = .ok (.bool true) w := by
            intro w
            rw [neq75]
            have : (k1 k == k2 k && z1 k == z2 k) = false := by
              rw [Bool.eq_false_iff]; intro e; rw [Bool.and_eq_true, beq_iff_eq, beq_iff_eq] at e; exact he e
            rw [this]; rfl
          clear he
          go_wp2
          go_quiet (fail)
          go_wp2
          go_ret
          exact ⟨ret_bool HE.out.symm, by simpa using below_drewN' w (m + nq)⟩
      · go_wp2
        go_ret
        obtain rfl : k = n1 := by omega
        exact ⟨ret_bool (eqV_yes hall.out).symm, below_drewN' _ _⟩
  · have ht : ((n1 : Int) != (n2 : Int)) = true := by simp; omega
    have HN : Hid (eqV n1 n2 k1 z1 k2 z2 = false) := eqV_len hn
    clear hn
    go_enter Tryd.func38, Tryd.ntmps38
    go_wp2
    go_ret
    exact ⟨ret_bool HN.out.symm, Below.refl _ _⟩

/-- The ways two statements part. -/
theorem eqH_ways (s t : Nd) : (¬ s.kind = t.kind ∧ eqH s t = false) ∨ (s.kind = t.kind ∧ ¬ s.num = t.num ∧ eqH s t = false) ∨
    (s.kind = t.kind ∧ s.num = t.num ∧ eqV s.ne t.ne s.ek s.ez t.ek t.ez = false ∧ eqH s t = false) ∨
    (s.kind = t.kind ∧ s.num = t.num ∧ eqV s.ne t.ne s.ek s.ez t.ek t.ez = true ∧ eqH s t = eqV s.nf t.nf s.fk s.fz t.fk t.fz) := by
  unfold eqH
  by_cases h1 : s.kind = t.kind
  · by_cases h2 : s.num = t.num
    · cases h3 : eqV s.ne t.ne s.ek s.ez t.ek t.ez <;> simp [h1, h2]
    · simp [h1, h2]
  · simp [h1]

set_option maxHeartbeats 1000000 in
theorem sameHead (N : Nat) (s t : Nd) (e1 f1 e2 f2 : Value) (a1 b1 a2 b2 : Option Addr) (l1 c1 l2 c2 l3 c3 l4 c4 : Nat) (w : World) (hN : N ≤ w.heap.size) (he1 : ToksAt N w e1 s.ne s.ek s.ez) (hf1 : ToksAt N w f1 s.nf s.fk s.fz)
    (he2 : ToksAt N w e2 t.ne t.ek t.ez) (hf2 : ToksAt N w f2 t.nf t.fk t.fz) :
    Calls Tryd.prog 22 #[.agg #[.int .i64 s.kind, .int .i64 s.num, e1, f1, .slice a1 l1 c1, .slice b1 l2 c2], .agg #[.int .i64 t.kind, .int .i64 t.num, e2, f2, .slice a2 l3 c3, .slice b2 l4 c4]] w fun e w' => e = .returned (.bool (eqH s t)) ∧ Below w.heap.size w w' := by
  obtain ⟨x1, y1, rfl, _⟩ := he1.shape
  obtain ⟨x2, y2, rfl, _⟩ := hf1.shape
  obtain ⟨x3, y3, rfl, _⟩ := he2.shape
  obtain ⟨x4, y4, rfl, _⟩ := hf2.shape
  have hbb : ∀ o1 o2 : Obj, Below w.heap.size w ((w.alloc o1).alloc o2) := fun o1 o2 => below_step (below_alloc _ _) (below_alloc _ _)
  rcases eqH_ways s t with ⟨k1, HE⟩ | ⟨k1, k2, HE⟩ | ⟨k1, k2, k3, HE⟩ | ⟨k1, k2, k3, HE⟩
  · rw [HE]
    have b1 : (s.kind == t.kind) = false := by simp [k1]
    clear k1 HE hbb
    go_enter Tryd.func22, Tryd.ntmps22
    go_wp2_with fail
    go_ret
    exact ⟨rfl, below_step (below_alloc _ _) (below_alloc _ _)⟩
  · rw [HE]
    have b1 : (s.kind == t.kind) = true := by simp [k1]
    have b2 : (s.num == t.num) = false := by simp [k2]
    clear k1 k2 HE hbb
    go_enter Tryd.func22, Tryd.ntmps22
    go_wp2_with fail
    go_ret
    exact ⟨rfl, below_step (below_alloc _ _) (below_alloc _ _)⟩
  · rw [HE]
    have b1 : (s.kind == t.kind) = true := by simp [k1]
    have b2 : (s.num == t.num) = true := by simp [k2]
    have HC : Hid (∀ w1, Below w.heap.size w w1 → Calls Tryd.prog 38 #[.slice x1 s.ne y1, .slice x3 t.ne y3] w1 fun e w' => e = .returned (.bool false) ∧ Below w1.heap.size w1 w') := fun w1 hb => by
      have := eqToks N _ _ _ _ _ _ _ _ w1 (he1.below (hb.mono hN)) (he2.below (hb.mono hN))
      rw [k3] at this; exact this
    have HB : Hid (∀ o1 o2 : Obj, Below w.heap.size w ((w.alloc o1).alloc o2)) := hbb
    clear k1 k2 k3 HE hbb
    go_enter Tryd.func22, Tryd.ntmps22
    go_wp2_with (go_at_call 38; refine (HC.out _ (HB.out _ _)).mono ?_; rintro e w1 ⟨rfl, hb1⟩)
    go_ret
    exact ⟨rfl, below_step (HB.out _ _) hb1⟩
  · rw [HE]
    have b1 : (s.kind == t.kind) = true := by simp [k1]
    have b2 : (s.num == t.num) = true := by simp [k2]
    have HC : Hid (∀ w1, Below w.heap.size w w1 → Calls Tryd.prog 38 #[.slice x1 s.ne y1, .slice x3 t.ne y3] w1 fun e w' => e = .returned (.bool true) ∧ Below w1.heap.size w1 w') := fun w1 hb => by
      have := eqToks N _ _ _ _ _ _ _ _ w1 (he1.below (hb.mono hN)) (he2.below (hb.mono hN))
      rw [k3] at this; exact this
    have HD : Hid (∀ w1, Below w.heap.size w w1 → Calls Tryd.prog 38 #[.slice x2 s.nf y2, .slice x4 t.nf y4] w1 fun e w' => e = .returned (.bool (eqV s.nf t.nf s.fk s.fz t.fk t.fz)) ∧ Below w1.heap.size w1 w') := fun w1 hb =>
      eqToks N _ _ _ _ _ _ _ _ w1 (hf1.below (hb.mono hN)) (hf2.below (hb.mono hN))
    have HB : Hid (∀ o1 o2 : Obj, Below w.heap.size w ((w.alloc o1).alloc o2)) := hbb
    clear k1 k2 k3 HE hbb
    go_enter Tryd.func22, Tryd.ntmps22
    go_wp2_with (first
      | (go_at_call 38; refine (HD.out _ (below_step (HB.out _ _) hb1)).mono ?_; rintro e w2 ⟨rfl, hb2⟩)
      | (go_at_call 38; refine (HC.out _ (HB.out _ _)).mono ?_; rintro e w1 ⟨rfl, hb1⟩; have p3 := box_in (below_step (below_alloc _ _) hb1) 3 rfl; have r3 := box_in hb1 3 rfl; simp only [World.size_alloc] at r3))
    go_ret
    exact ⟨rfl, below_step (below_step (HB.out _ _) hb1) hb2⟩

end Go.Proofs.YtomfkfhipemlcabDoor
