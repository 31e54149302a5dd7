/- The word of a token, by the program. -/
import Derived.Test.YtfblnmbcaglliabGreatDoorPartEnv
import Derived.Lib.ItoaLen
import Derived.Laws.Concat
namespace Go.Proofs.YtfblnmbcaglliabGreatDoor
open Go.RowKit Go.Maps

set_option maxHeartbeats 1000000 in
theorem tokWord_op (N : Nat) (m : Nat) (hm : m < 6) (w : World) (he : Env N w) (hN : N ≤ w.heap.size) :
    Calls Tryz.prog 85 #[.agg #[.int .i64 3, .int .i64 m]] w fun e w' => e = .returned (.string (bs (opL m))) ∧ Below w.heap.size w w' := by
  have q := (he.below ((below_alloc w (.cells #[.int .i64 3, .int .i64 (m : Int)] 65)).mono hN)).op m hm
  have h1 : (0 : Int) ≤ (m : Int) := by omega
  have h2 : (m : Int) < 6 := by omega
  clear he
  go_enter Tryz.func85, Tryz.ntmps85
  go_wp2
  go_ret
  exact ⟨rfl, below_alloc _ _⟩

theorem keepTok {N n : Nat} {z : Int} {w w1 : World} (he : Env N w) (hN : N ≤ w.heap.size) (hn : n < 7) (h : Below (w.heap.size + 1) (w.alloc (.cells #[.int .i64 (n : Int), .int .i64 z] 65)) w1) :
    w1.cell? ⟨w.heap.size, 0, none⟩ = some (.int .i64 (n : Int)) ∧ w1.cell? ⟨w.heap.size, 1, none⟩ = some (.int .i64 z) ∧ w1.cell? ⟨4, n, none⟩ = some (.string (bs (mkL n))) ∧ Below w.heap.size w w1 := by
  have h2 : Below w.heap.size w w1 := (below_alloc w _).trans (h.mono (by omega))
  refine ⟨box_at h (by omega) 0 rfl, box_at h (by omega) 1 rfl, ?_, h2⟩
  exact (he.below (h2.mono hN)).mks n hn

theorem mkL_short (n : Nat) : (mkL n).length ≤ 3 := by
  unfold mkL; split <;> decide

theorem bs_size (l : List UInt8) : (bs l).size = l.length := by show l.toArray.size = _; simp
theorem bs_append (a b : List UInt8) : bs a ++ bs b = bs (a ++ b) := by unfold bs; rw [ByteArray.mk_append_mk]

theorem add_mark (n : Nat) (z : Int) (hz0 : -9223372036854775808 ≤ z) (hz1 : z ≤ 9223372036854775807) (w : World) : (Op.stringOp .add (bs (mkL n)) (numW z)).run Tryz.prog w = .ok (.string (bs (mkL n ++ Lib.itoa z))) w := by
  have h1 := mkL_short n
  have h2 := Lib.itoa_length_le z hz0 hz1
  unfold numW
  rw [run_string_add_sum w _ _ (by rw [bs_size, bs_size]; omega), bs_append]

set_option maxHeartbeats 2000000 in
theorem tokWord_num (N : Nat) (n : Nat) (hn : n < 7) (h3 : ¬ n = 3) (z : Int) (hz0 : -9223372036854775808 ≤ z) (hz1 : z ≤ 9223372036854775807) (w : World) (he : Env N w) (hN : N ≤ w.heap.size) :
    Calls Tryz.prog 85 #[.agg #[.int .i64 n, .int .i64 z]] w fun e w' => e = .returned (.string (bs (mkL n ++ Lib.itoa z))) ∧ Below w.heap.size w w' := by
  have h1 : (0 : Int) ≤ (n : Int) := by omega
  have h2 : (n : Int) < 7 := by omega
  have h4 : ((n : Int) == 3) = false := by rw [beq_eq_false_iff_ne]; omega
  have HE : Hid (Env N w) := he
  clear he
  have HK : ∀ w1, Below (w.heap.size + 1) (w.alloc (.cells #[.int .i64 (n : Int), .int .i64 z] 65)) w1 → w1.cell? ⟨w.heap.size, 0, none⟩ = some (.int .i64 (n : Int)) ∧ w1.cell? ⟨w.heap.size, 1, none⟩ = some (.int .i64 z) ∧ w1.cell? ⟨4, n, none⟩ = some (.string (bs (mkL n))) ∧ Below w.heap.size w w1 := fun w1 h => keepTok HE.out hN hn h
  have b0 : Below (w.heap.size + 1) (w.alloc (.cells #[.int .i64 (n : Int), .int .i64 z] 65)) (w.alloc (.cells #[.int .i64 (n : Int), .int .i64 z] 65)) := Below.refl _ _
  have hb0 : Below w.heap.size w (w.alloc (.cells #[.int .i64 (n : Int), .int .i64 z] 65)) := below_alloc _ _
  have sz : (w.alloc (.cells #[.int .i64 (n : Int), .int .i64 z] 65)).heap.size = w.heap.size + 1 := by simp
  have hadd := add_mark n z hz0 hz1
  go_enter Tryz.func85, Tryz.ntmps85
  go_upto_region 3 with (fail)
  generalize hW : w.alloc (.cells #[.int .i64 (n : Int), .int .i64 z] 65) = W at *
  go_region_held3 (fun w' => w'.cell? ⟨w.heap.size, 0, none⟩ = some (.int .i64 (n : Int)) ∧ w'.cell? ⟨w.heap.size, 1, none⟩ = some (.int .i64 z) ∧ w'.cell? ⟨4, n, none⟩ = some (.string (bs (mkL n))) ∧ Below w.heap.size w w')
    (first | exact HK _ b0.drew | exact HK _ b9)
    (first | (go_at_call 19; refine (itoa N z hz0 hz1 _ (HE.out.below ((hb0.drew).mono hN))).mono ?_; rintro e w9 ⟨rfl, b9'⟩; have b9 : Below (w.heap.size + 1) W w9 := b0.drew.trans (b9'.mono (by show w.heap.size + 1 ≤ W.drew.heap.size; rw [← sz]; exact Nat.le_refl _))))
  obtain ⟨_, _, _, b10⟩ := HK _ b9
  go_wp2_with (fail)
  go_ret
  exact ⟨rfl, b10⟩

/-- The word of a right token. -/
theorem tokWord (N : Nat) (k z : Int) (nf : Nat) (locals : Int) (hl : locals ≤ 6) (hnf : nf ≤ 1000) (h : tokErr k z nf locals = 0) (w : World) (he : Env N w) (hN : N ≤ w.heap.size) :
    Calls Tryz.prog 85 #[.agg #[.int .i64 k, .int .i64 z]] w fun e w' => e = .returned (.string (tokW k z)) ∧ Below w.heap.size w w' := by
  have hz : -9223372036854775808 ≤ z ∧ z ≤ 9223372036854775807 := by
    unfold tokErr at h
    repeat' split at h
    all_goals first | omega | cases h
  have hk : 1 ≤ k ∧ k ≤ 6 := by
    unfold tokErr at h
    by_cases c : 1 ≤ k ∧ k ≤ 6
    · exact c
    · rw [if_neg (by omega), if_neg (by omega), if_neg (by omega), if_neg (by omega), if_neg (by omega), if_neg (by omega)] at h
      cases h
  unfold tokW
  by_cases h3 : k = 3
  · subst h3
    rw [if_pos rfl]
    have hz5 : 1 ≤ z ∧ z ≤ 5 := by
      unfold tokErr at h
      rw [if_neg (by decide), if_neg (by decide), if_pos rfl] at h
      split at h
      · cases h
      · omega
    obtain ⟨m, rfl⟩ : ∃ m : Nat, z = m := ⟨z.toNat, by omega⟩
    exact tokWord_op N m (by omega) w he hN
  · rw [if_neg h3]
    obtain ⟨n, rfl⟩ : ∃ n : Nat, k = n := ⟨k.toNat, by omega⟩
    exact tokWord_num N n (by omega) (by omega) z hz.1 hz.2 w he hN

end Go.Proofs.YtfblnmbcaglliabGreatDoor
