/- slices.Index and slices.Contains over a slice of ints. -/
import Derived.Test.YtnkhdhbjdemdkaaReach
namespace Go.Proofs.Ytnkhdhbjdemdkaa
open Go.RowKit Go.Maps

/-- The first place of x among the first n; else -1. -/
def idx : Nat → (Nat → Int) → Int → Int
  | 0, _, _ => -1
  | n + 1, z, x => if 0 ≤ idx n z x then idx n z x else if z n = x then n else -1

theorem idx_none {z : Nat → Int} {x : Int} : ∀ {n : Nat}, (∀ j, j < n → ¬ z j = x) → idx n z x = -1
  | 0, _ => rfl
  | n + 1, h => by
    have := idx_none (n := n) fun j hj => h j (by omega)
    simp only [idx, this]
    rw [if_neg (by omega), if_neg (h n (by omega))]

theorem idx_at {z : Nat → Int} {x : Int} {i : Nat} (h0 : ∀ j, j < i → ¬ z j = x) (hi : z i = x) : ∀ {n : Nat}, i < n → idx n z x = i
  | 0, h => absurd h (Nat.not_lt_zero _)
  | n + 1, h => by
    by_cases e : i = n
    · subst e
      simp only [idx, idx_none h0]
      rw [if_neg (by omega), if_pos hi]
    · have := idx_at h0 hi (n := n) (by omega)
      simp only [idx, this]
      rw [if_pos (by omega)]

/-- Is x among the first n? -/
def hasB (n : Nat) (z : Nat → Int) (x : Int) : Bool := decide (0 ≤ idx n z x)

theorem idx_pos {z : Nat → Int} {x : Int} : ∀ {n : Nat}, 0 ≤ idx n z x ↔ ∃ i, i < n ∧ z i = x
  | 0 => by simp [idx]
  | n + 1 => by
    have ih := idx_pos (z := z) (x := x) (n := n)
    simp only [idx]
    by_cases h : 0 ≤ idx n z x
    · rw [if_pos h]
      obtain ⟨i, hi, e⟩ := ih.1 h
      exact ⟨fun _ => ⟨i, by omega, e⟩, fun _ => h⟩
    · rw [if_neg h]
      by_cases e : z n = x
      · rw [if_pos e]
        exact ⟨fun _ => ⟨n, by omega, e⟩, fun _ => by omega⟩
      · rw [if_neg e]
        refine ⟨fun h => by omega, fun ⟨i, hi, e1⟩ => ?_⟩
        by_cases ei : i = n
        · subst ei; exact absurd e1 e
        · exact absurd (ih.2 ⟨i, by omega, e1⟩) h

theorem hasB_list (R : List Int) (x : Int) : hasB R.length (fun i => R.getD i 0) x = decide (x ∈ R) := by
  unfold hasB
  rw [decide_eq_decide, idx_pos, List.mem_iff_getElem]
  constructor
  · rintro ⟨i, hi, e⟩
    exact ⟨i, hi, by simpa [List.getElem?_eq_getElem hi] using e⟩
  · rintro ⟨i, hi, e⟩
    exact ⟨i, hi, by simpa [List.getElem?_eq_getElem hi] using e⟩

set_option maxHeartbeats 400000 in
theorem index (v : Value) (n : Nat) (z : Nat → Int) (x : Int) (w : World) (h : IntsAt w v n z) (hn : n ≤ maxLen) :
    Calls Try.prog 30 #[v, .int .i64 x] w fun e w' => e = .returned (.int .i64 (idx n z x)) ∧ w' = w := by
  unfold maxLen at hn
  obtain ⟨a, cap, rfl, h⟩ := h
  go_enter Try.func30, Try.ntmps30
  go_wp2
  go_loop [8] (fun i => ∃ j : Nat, j ≤ n ∧ i = .int .i64 j ∧ Hid (∀ y, y < j → ¬ z y = x)) (fun i => n - (intOf i).toNat)
  case atStart => exact ⟨0, Nat.zero_le _, rfl, fun j hj => absurd hj (Nat.not_lt_zero _)⟩
  case round =>
    obtain ⟨j, hj, rfl, hall⟩ := hrel
    by_cases hlt : j < n
    · rcases h with h | ⟨p, o, rfl, hp, g⟩
      · omega
      have q := g j hlt
      clear g
      by_cases he : z j = x
      · have het : (x == z j) = true := by simp [he]
        have HE : Hid (idx n z x = j) := idx_at hall.out he hlt
        clear he
        go_wp2
        go_ret
        exact ⟨ret_num HE.out.symm, rfl⟩
      · have het : (x == z j) = false := by simp; exact fun e => he e.symm
        have HE : Hid (¬ z j = x) := he
        clear he
        go_wp2
        go_round
        case rel => exact ⟨j + 1, by omega, by go_num, upTo hall.out HE.out⟩
        case measure => simp [intOf]; omega
    · go_wp2
      go_ret
      obtain rfl : j = n := by omega
      exact ⟨ret_num (idx_none hall.out).symm, rfl⟩

set_option maxHeartbeats 400000 in
theorem contains (v : Value) (n : Nat) (z : Nat → Int) (x : Int) (w : World) (h : IntsAt w v n z) (hn : n ≤ maxLen) :
    Calls Try.prog 20 #[v, .int .i64 x] w fun e w' => e = .returned (.bool (hasB n z x)) ∧ w' = w := by
  unfold hasB
  generalize hz : z = z' at *
  go_enter Try.func20, Try.ntmps20
  go_wp2_with (go_at_call 30; refine (index _ _ _ _ _ h hn).mono ?_; rintro e w' ⟨rfl, rfl⟩)
  all_goals (go_ret; exact ⟨rfl, rfl⟩)

end Go.Proofs.Ytnkhdhbjdemdkaa
