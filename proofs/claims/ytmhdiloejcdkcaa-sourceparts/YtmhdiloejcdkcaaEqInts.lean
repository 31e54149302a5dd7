/- slices.Equal over two slices of ints: true just if they are as long and alike at each index. -/
import Derived.Test.YtmhdiloejcdkcaaBase
namespace Go.Proofs.Ytmhdiloejcdkcaa
open Go.RowKit

/-- Two rows of numbers are alike. -/
def eqB (n1 n2 : Nat) (z1 z2 : Nat → Int) : Bool := decide (n1 = n2 ∧ ∀ i, i < n1 → z1 i = z2 i)

theorem eqB_iff {n1 n2 : Nat} {z1 z2 : Nat → Int} : eqB n1 n2 z1 z2 = true ↔ n1 = n2 ∧ ∀ i, i < n1 → z1 i = z2 i := by
  unfold eqB; exact decide_eq_true_iff

theorem eqB_yes {n : Nat} {z1 z2 : Nat → Int} (h : ∀ i, i < n → z1 i = z2 i) : eqB n n z1 z2 = true := eqB_iff.2 ⟨rfl, h⟩

theorem eqB_no {n1 n2 : Nat} {z1 z2 : Nat → Int} {k : Nat} (hk : k < n1) (h : ¬ z1 k = z2 k) : eqB n1 n2 z1 z2 = false := by
  rw [Bool.eq_false_iff]; intro e; exact h ((eqB_iff.1 e).2 k hk)

theorem eqB_len {n1 n2 : Nat} {z1 z2 : Nat → Int} (h : ¬ n1 = n2) : eqB n1 n2 z1 z2 = false := by
  rw [Bool.eq_false_iff]; intro e; exact h (eqB_iff.1 e).1

theorem ret_bool {a b : Bool} (h : a = b) : Ending.returned (.bool a) = .returned (.bool b) := by rw [h]

theorem upTo {p : Nat → Prop} {k : Nat} (h : ∀ j, j < k → p j) (hk : p k) : ∀ j, j < k + 1 → p j := fun j hj =>
  if e : j < k then h j e else by
    have : j = k := by omega
    subst this; exact hk

set_option maxHeartbeats 400000 in
theorem eqInts (v1 v2 : Value) (n1 n2 : Nat) (z1 z2 : Nat → Int) (w : World) (h1 : IntsAt w v1 n1 z1) (h2 : IntsAt w v2 n2 z2) (b1 : n1 ≤ maxLen) (b2 : n2 ≤ maxLen) :
    Calls Try.prog 9 #[v1, v2] w fun e w' => e = .returned (.bool (eqB n1 n2 z1 z2)) ∧ ∃ n, w' = w.drewN n := by
  unfold maxLen at b1 b2
  obtain ⟨a1, c1, rfl, h1⟩ := h1
  obtain ⟨a2, c2, rfl, h2⟩ := h2
  by_cases hn : n1 = n2
  · subst hn
    have ht : ((n1 : Int) != (n1 : Int)) = false := by simp
    go_enter Try.func9, Try.ntmps9
    go_wp2
    go_loopw [13] (fun i wr => ∃ k m : Nat, k ≤ n1 ∧ i = .int .i64 k ∧ wr = w.drewN m ∧ Hid (∀ j, j < k → z1 j = z2 j)) (fun i _ => n1 - (intOf i).toNat)
    case atStart => exact ⟨0, 0, Nat.zero_le _, rfl, rfl, fun j hj => absurd hj (Nat.not_lt_zero _)⟩
    case round =>
      obtain ⟨k, m, hk, rfl, rfl, hall⟩ := hrel
      by_cases hlt : k < n1
      · rcases h1 with h1 | ⟨p1, o1, rfl, l1, g1⟩
        · omega
        rcases h2 with h2 | ⟨p2, o2, rfl, l2, g2⟩
        · omega
        have q1 := g1 k hlt
        have q2 := g2 k hlt
        clear g1 g2
        by_cases he : z1 k = z2 k
        · have het : (z1 k != z2 k) = false := by simp [he]
          have HE : Hid (z1 k = z2 k) := he
          clear he
          go_wp2
          go_quiet (fail)
          go_wp2
          go_roundw
          case rel => exact ⟨k + 1, m + nq, by omega, by go_num, by simp, upTo hall.out HE.out⟩
          case measure => simp [intOf]; omega
        · have het : (z1 k != z2 k) = true := by simp [he]
          have HE : Hid (eqB n1 n1 z1 z2 = false) := eqB_no hlt he
          clear he
          go_wp2
          go_quiet (fail)
          go_wp2
          go_ret
          exact ⟨ret_bool HE.out.symm, m + nq, by simp⟩
      · go_wp2
        go_ret
        obtain rfl : k = n1 := by omega
        exact ⟨ret_bool (eqB_yes hall.out).symm, _, rfl⟩
  · have ht : ((n1 : Int) != (n2 : Int)) = true := by simp; omega
    have HN : Hid (eqB n1 n2 z1 z2 = false) := eqB_len hn
    clear hn
    go_enter Try.func9, Try.ntmps9
    go_wp2
    go_ret
    exact ⟨ret_bool HN.out.symm, 0, rfl⟩

end Go.Proofs.Ytmhdiloejcdkcaa
