/- SameSource of the reckoning beside the program: two programs are alike just if all is. -/
import Derived.Test.YtfblnmbcaglliabGreatDoorRefSame
namespace Go.Proofs.YtfblnmbcaglliabGreatDoor
open Go.RowKit

set_option maxHeartbeats 1000000 in
theorem same51 (N d : Nat) (p1 l1 p2 l2 : Int) (v1 v2 : Value) (T U : SL) (w : World) (hN : N ≤ w.heap.size) (h1 : StmtsAt N w d v1 T) (h2 : StmtsAt N w d v2 U) :
    Calls Tryz.prog 39 #[.agg #[.int .i64 p1, .int .i64 l1, v1], .agg #[.int .i64 p2, .int .i64 l2, v2]] w fun e w' => e = .returned (.bool (eqF d p1 l1 p2 l2 T U)) ∧ Below w.heap.size w w' := by
  obtain ⟨a1, c1, rfl, _⟩ := h1.shape
  obtain ⟨a2, c2, rfl, _⟩ := h2.shape
  have HW : Hid (∀ o1 o2 : Obj, Below w.heap.size w ((w.alloc o1).alloc o2)) := fun o1 o2 => below_step (below_alloc _ _) (below_alloc _ _)
  have HC : Hid (∀ wk, Below w.heap.size w wk → Calls Tryz.prog 40 #[.slice a1 T.len c1, .slice a2 U.len c2] wk fun e w' => e = .returned (.bool (eqS d T U)) ∧ Below wk.heap.size wk w') := fun wk hk =>
    refSame N d _ _ T U wk (Nat.le_trans hN hk.size) (h1.below (hk.mono hN)) (h2.below (hk.mono hN))
  by_cases k1 : p1 = p2
  · by_cases k2 : l1 = l2
    · have HE : Hid (eqF d p1 l1 p2 l2 T U = eqS d T U) := by
        show eqF d p1 l1 p2 l2 T U = eqS d T U
        unfold eqF; simp [k1, k2]
      have b1 : (p1 == p2) = true := by simp [k1]
      have b2 : (l1 == l2) = true := by simp [k2]
      clear k1 k2
      go_enter Tryz.func39, Tryz.ntmps39
      go_wp2_with (go_at_call 40; refine (HC.out _ (HW.out _ _)).mono ?_; rintro e w1 ⟨rfl, hb1⟩)
      go_ret
      exact ⟨ret_bool HE.out.symm, below_step (HW.out _ _) hb1⟩
    · have HE : Hid (eqF d p1 l1 p2 l2 T U = false) := by
        show eqF d p1 l1 p2 l2 T U = false
        unfold eqF; simp [k2]
      have b1 : (p1 == p2) = true := by simp [k1]
      have b2 : (l1 == l2) = false := by simp [k2]
      clear k1 k2
      go_enter Tryz.func39, Tryz.ntmps39
      go_wp2_with fail
      go_ret
      exact ⟨ret_bool HE.out.symm, HW.out _ _⟩
  · have HE : Hid (eqF d p1 l1 p2 l2 T U = false) := by
      show eqF d p1 l1 p2 l2 T U = false
      unfold eqF; simp [k1]
    have b1 : (p1 == p2) = false := by simp [k1]
    clear k1
    go_enter Tryz.func39, Tryz.ntmps39
    go_wp2_with fail
    go_ret
    exact ⟨ret_bool HE.out.symm, HW.out _ _⟩

set_option maxHeartbeats 2000000 in
theorem same50 (N d : Nat) (f g : Value) (n1 n2 : Nat) (p1 l1 p2 l2 : Nat → Int) (b1 b2 : Nat → Value) (B C : Nat → SL) (w : World) (hN : N ≤ w.heap.size) (hf : FunsAt N w f n1 p1 l1 b1) (hg : FunsAt N w g n2 p2 l2 b2)
    (h1 : ∀ i, i < n1 → StmtsAt N w d (b1 i) (B i)) (h2 : ∀ i, i < n2 → StmtsAt N w d (b2 i) (C i)) :
    Calls Tryz.prog 38 #[f, g, .func (.func 39) #[] #[]] w fun e w' => e = .returned (.bool (eqP d n1 n2 p1 l1 p2 l2 B C)) ∧ Below w.heap.size w w' := by
  obtain ⟨a1, c1, rfl, hn1, hf⟩ := hf
  obtain ⟨a2, c2, rfl, hn2, hg⟩ := hg
  by_cases hn : n1 = n2
  · subst hn
    have ht : ((n1 : Int) != (n1 : Int)) = false := by simp
    go_enter Tryz.func38, Tryz.ntmps38
    go_wp2_with fail
    go_loopw [17] (fun i wr => ∃ j : Nat, j ≤ n1 ∧ i = .int .i64 j ∧ Below w.heap.size w wr ∧ Hid (∀ x, x < j → eqF d (p1 x) (l1 x) (p2 x) (l2 x) (B x) (C x) = true)) (fun i _ => n1 - (intOf i).toNat)
    case atStart => exact ⟨0, Nat.zero_le _, rfl, Below.refl _ _, fun j hj => absurd hj (Nat.not_lt_zero _)⟩
    case round =>
      obtain ⟨j, hj, rfl, hb, hall⟩ := hrel
      by_cases hlt : j < n1
      · rcases hf with hf | ⟨q1, o1, rfl, r1, g1⟩
        · omega
        rcases hg with hg | ⟨q2, o2, rfl, r2, g2⟩
        · omega
        obtain ⟨x0, x1, x2, _⟩ := g1 j hlt
        obtain ⟨y0, y1, y2, _⟩ := g2 j hlt
        have q1' : q1 < w.heap.size := by omega
        have q2' : q2 < w.heap.size := by omega
        rw [← hb.cell q1'] at x0 x1 x2
        rw [← hb.cell q2'] at y0 y1 y2
        have q2w : q2 < wr.heap.size := Nat.lt_of_lt_of_le q2' hb.size
        have hNr : N ≤ wr.heap.size := Nat.le_trans hN hb.size
        have s1 := (h1 j hlt).below (hb.mono hN)
        have s2 := (h2 j hlt).below (hb.mono hN)
        obtain ⟨z1, d1, e1, _⟩ := s1.shape
        obtain ⟨z2, d2, e2, _⟩ := s2.shape
        rw [e1] at x2 s1
        rw [e2] at y2 s2
        clear g1 g2 e1 e2
        have HW : Hid (∀ o1 o2 : Obj, Below wr.heap.size wr ((wr.alloc o1).alloc o2)) := fun o1 o2 => below_step (below_alloc _ _) (below_alloc _ _)
        have HC : Hid (∀ wk, Below wr.heap.size wr wk → Calls Tryz.prog 39 #[.agg #[.int .i64 (p1 j), .int .i64 (l1 j), .slice z1 (B j).len d1], .agg #[.int .i64 (p2 j), .int .i64 (l2 j), .slice z2 (C j).len d2]] wk fun e w' => e = .returned (.bool (eqF d (p1 j) (l1 j) (p2 j) (l2 j) (B j) (C j))) ∧ Below wk.heap.size wk w') := fun wk hk =>
          same51 N d _ _ _ _ _ _ _ _ wk (Nat.le_trans hNr hk.size) (s1.below (hk.mono hNr)) (s2.below (hk.mono hNr))
        by_cases he : eqF d (p1 j) (l1 j) (p2 j) (l2 j) (B j) (C j) = true
        · rw [he] at HC
          have HE : Hid (eqF d (p1 j) (l1 j) (p2 j) (l2 j) (B j) (C j) = true) := he
          clear he
          go_wp2_with (go_at_call 39; refine (HC.out _ (HW.out _ _)).mono ?_; rintro e w1 ⟨rfl, hb1⟩)
          go_roundw
          case rel => exact ⟨j + 1, by omega, by go_num, below_step hb (below_step (HW.out _ _) hb1), upTo hall.out HE.out⟩
          case measure => simp [intOf]; omega
        · have he' : eqF d (p1 j) (l1 j) (p2 j) (l2 j) (B j) (C j) = false := by simpa using he
          rw [he'] at HC
          have HE : Hid (eqP d n1 n1 p1 l1 p2 l2 B C = false) := eqP_no hlt he'
          clear he he'
          go_wp2_with (go_at_call 39; refine (HC.out _ (HW.out _ _)).mono ?_; rintro e w1 ⟨rfl, hb1⟩)
          go_ret
          exact ⟨ret_bool HE.out.symm, below_step hb (below_step (HW.out _ _) hb1)⟩
      · obtain rfl : j = n1 := by omega
        go_wp2_with fail
        go_ret
        exact ⟨ret_bool (eqP_yes hall.out).symm, hb⟩
  · have ht : ((n1 : Int) != (n2 : Int)) = true := by simp; omega
    have HN : Hid (eqP d n1 n2 p1 l1 p2 l2 B C = false) := eqP_len hn
    clear hn
    go_enter Tryz.func38, Tryz.ntmps38
    go_wp2_with fail
    go_ret
    exact ⟨ret_bool HN.out.symm, Below.refl _ _⟩

theorem refSameSource (N d : Nat) (f g : Value) (n1 n2 : Nat) (p1 l1 p2 l2 : Nat → Int) (b1 b2 : Nat → Value) (B C : Nat → SL) (w : World) (hN : N ≤ w.heap.size) (hf : FunsAt N w f n1 p1 l1 b1) (hg : FunsAt N w g n2 p2 l2 b2)
    (h1 : ∀ i, i < n1 → StmtsAt N w d (b1 i) (B i)) (h2 : ∀ i, i < n2 → StmtsAt N w d (b2 i) (C i)) :
    Calls Tryz.prog 11 #[f, g] w fun e w' => e = .returned (.bool (eqP d n1 n2 p1 l1 p2 l2 B C)) ∧ Below w.heap.size w w' := by
  go_enter Tryz.func11, Tryz.ntmps11
  go_wp2_with (go_at_call 38; refine (same50 N d f g n1 n2 p1 l1 p2 l2 b1 b2 B C _ hN hf hg h1 h2).mono ?_; rintro e w1 ⟨rfl, hb1⟩)
  go_ret
  exact ⟨rfl, hb1⟩

end Go.Proofs.YtfblnmbcaglliabGreatDoor
