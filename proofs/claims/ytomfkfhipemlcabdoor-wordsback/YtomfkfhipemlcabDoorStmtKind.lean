/- Which kind of statement a word begins, by the program. -/
import Derived.Test.YtomfkfhipemlcabDoorEnv
import Derived.Laws.StructEq
namespace Go.Proofs.YtomfkfhipemlcabDoor
open Go.RowKit Go.Maps

theorem strEq (a b : ByteArray) : (a.toList == b.toList) = decide (a = b) := by
  rw [← beq_toListBytes]
  by_cases h : a = b
  · subst h; rw [beq_toListBytes]; simp
  · rw [beq_toListBytes, decide_eq_false h, beq_eq_false_iff_ne]
    intro e
    exact h (ByteArray.ext (by rw [ByteArray.toList_eq, ByteArray.toList_eq] at e; exact Array.toList_inj.1 e))

theorem idxSt : ∀ (k : Nat) (_ : k < 9) (w : World), (Instr.index 71 (.agg #[.string (bs (stL 0)), .string (bs (stL 1)), .string (bs (stL 2)), .string (bs (stL 3)), .string (bs (stL 4)), .string (bs (stL 5)), .string (bs (stL 6)), .string (bs (stL 7)), .string (bs (stL 8))]) (.int .i64 (k : Int))).run Tryd.prog w = .ok (.string (bs (stL k))) w
  | 0, _, w => by kernel_rfl
  | 1, _, w => by kernel_rfl
  | 2, _, w => by kernel_rfl
  | 3, _, w => by kernel_rfl
  | 4, _, w => by kernel_rfl
  | 5, _, w => by kernel_rfl
  | 6, _, w => by kernel_rfl
  | 7, _, w => by kernel_rfl
  | 8, _, w => by kernel_rfl
  | k + 9, h, _ => absurd h (by omega)

theorem find_hit {p : Nat → Bool} {n k : Nat} (hk : k < n) (h0 : ∀ j, j < k → p j = false) (h1 : p k = true) : (List.range n).find? p = some k := by
  rw [List.find?_range_eq_some]
  exact ⟨h1, List.mem_range.2 hk, fun j hj => by rw [h0 j hj]; rfl⟩

theorem kindOf_hit {x : Wd} {k : Nat} (hk : k < 9) (h0 : ∀ j, j < k → ¬ bs (stL j) = x) (h1 : bs (stL k) = x) : kindOf x = k := by
  unfold kindOf
  rw [find_hit hk (fun j hj => by simp [h0 j hj]) (by simp [h1])]
  rfl

theorem kindOf_miss {x : Wd} (h0 : ∀ j, j < 9 → ¬ bs (stL j) = x) : kindOf x = 0 := by
  unfold kindOf
  rw [List.find?_eq_none.2 (fun j hj => by simp [h0 j (List.mem_range.1 hj)])]
  rfl

theorem kindOf_lt (x : Wd) : kindOf x ≤ 8 := by
  unfold kindOf
  cases h : (List.range 9).find? fun k => decide (bs (stL k) = x) with
  | none => simp
  | some k =>
    have := List.mem_of_find?_eq_some h
    simp at this ⊢
    omega

set_option maxHeartbeats 1000000 in
theorem stmtKind (N : Nat) (x : Wd) (w : World) (he : Env N w) :
    Calls Tryd.prog 40 #[.string x] w fun e w' => e = .returned (.int .i64 (kindOf x : Int)) ∧ w' = w := by
  have c0 := he.st 0 (by decide)
  have c1 := he.st 1 (by decide)
  have c2 := he.st 2 (by decide)
  have c3 := he.st 3 (by decide)
  have c4 := he.st 4 (by decide)
  have c5 := he.st 5 (by decide)
  have c6 := he.st 6 (by decide)
  have c7 := he.st 7 (by decide)
  have c8 := he.st 8 (by decide)
  have HIdx : Hid (∀ (k : Nat), k < 9 → ∀ w : World, (Instr.index 71 (.agg #[.string (bs (stL 0)), .string (bs (stL 1)), .string (bs (stL 2)), .string (bs (stL 3)), .string (bs (stL 4)), .string (bs (stL 5)), .string (bs (stL 6)), .string (bs (stL 7)), .string (bs (stL 8))]) (.int .i64 (k : Int))).run Tryd.prog w = .ok (.string (bs (stL k))) w) := idxSt
  clear he
  go_enter Tryd.func40, Tryd.ntmps40
  go_upto_region 2 with (fail)
  clear c0 c1 c2 c3 c4 c5 c6 c7 c8
  go_loopw [6] (fun i wr => ∃ j : Nat, j ≤ 9 ∧ i = .int .i64 j ∧ wr = w ∧ Hid (∀ t, t < j → ¬ bs (stL t) = x)) (fun i _ => 9 - (intOf i).toNat)
  case atStart => exact ⟨0, by omega, rfl, rfl, fun t ht => absurd ht (Nat.not_lt_zero _)⟩
  case round =>
    obtain ⟨j, hj0, rfl, rfl, HM⟩ := hrel
    by_cases hj : j < 9
    · have hidx := HIdx.out j hj
      have hji : (j : Int) < 9 := by omega
      by_cases hx : bs (stL j) = x
      · have hxb : ((bs (stL j)).toList == x.toList) = true := by rw [strEq]; simp [hx]
        have HF : Hid (kindOf x = j) := kindOf_hit hj HM.out hx
        clear hx
        go_wp2_with fail
        go_ret
        exact ⟨by rw [HF.out]; rfl, rfl⟩
      · have HX : Hid (¬ bs (stL j) = x) := hx
        have hxb : ((bs (stL j)).toList == x.toList) = false := by rw [strEq]; simp [hx]
        clear hx
        go_wp2_with fail
        go_roundw
        case rel => exact ⟨j + 1, by omega, by go_num, trivial, upTo HM.out HX.out⟩
        case measure => simp [intOf]; omega
    · obtain rfl : j = 9 := by omega
      have HF : Hid (kindOf x = 0) := kindOf_miss HM.out
      go_wp2_with fail
      go_ret
      exact ⟨by rw [HF.out]; rfl, rfl⟩

end Go.Proofs.YtomfkfhipemlcabDoor
