/- Same of the program: two programs are alike just if all is. -/
import Derived.Test.YtomfkfhipemlcabDoorWorkList
import Derived.Deep.RegionHeld3
namespace Go.Proofs.YtomfkfhipemlcabDoor
open Go.RowKit Go.Maps

/-- All that w held is there in w' as it was. -/
def Later (w w' : World) : Prop := Below w.heap.size w w'
theorem Later.refl (w : World) : Later w w := Below.refl _ _
theorem Later.drew {w w' : World} (h : Later w w') : Later w w'.drew := Below.drew h
theorem Later.step {a b c : World} (h : Later a b) (k : Below b.heap.size b c) : Later a c := below_step h k

/-- Six cells of two blocks stay as they were. -/
theorem keep6 {W w1 w2 : World} {p q a b : Nat} {x1 x2 x3 y1 y2 y3 : Value} (hp : p < W.heap.size) (hq : q < W.heap.size)
    (h : w1.cell? ⟨p, a, none⟩ = some x1 ∧ w1.cell? ⟨p, a + 1, none⟩ = some x2 ∧ w1.cell? ⟨p, a + 2, none⟩ = some x3 ∧ w1.cell? ⟨q, b, none⟩ = some y1 ∧ w1.cell? ⟨q, b + 1, none⟩ = some y2 ∧ w1.cell? ⟨q, b + 2, none⟩ = some y3 ∧ Later W w1) (k : Below w1.heap.size w1 w2) :
    w2.cell? ⟨p, a, none⟩ = some x1 ∧ w2.cell? ⟨p, a + 1, none⟩ = some x2 ∧ w2.cell? ⟨p, a + 2, none⟩ = some x3 ∧ w2.cell? ⟨q, b, none⟩ = some y1 ∧ w2.cell? ⟨q, b + 1, none⟩ = some y2 ∧ w2.cell? ⟨q, b + 2, none⟩ = some y3 ∧ Later W w2 := by
  obtain ⟨h1, h2, h3, h4, h5, h6, h7⟩ := h
  have hs := Below.size h7
  have lp : p < w1.heap.size := Nat.lt_of_lt_of_le hp hs
  have lq : q < w1.heap.size := Nat.lt_of_lt_of_le hq hs
  exact ⟨(k.cell (p := ⟨p, a, none⟩) lp).trans h1, (k.cell (p := ⟨p, a + 1, none⟩) lp).trans h2, (k.cell (p := ⟨p, a + 2, none⟩) lp).trans h3,
    (k.cell (p := ⟨q, b, none⟩) lq).trans h4, (k.cell (p := ⟨q, b + 1, none⟩) lq).trans h5, (k.cell (p := ⟨q, b + 2, none⟩) lq).trans h6, h7.step k⟩

set_option maxHeartbeats 4000000 in
theorem sameProg (N d : Nat) (f g : Value) (n1 n2 : Nat) (p1 l1 p2 l2 : Nat → Int) (b1 b2 : Nat → Value) (B C : Nat → SL) (w : World) (hN : N ≤ w.heap.size) (hf : FunsAt N w f n1 p1 l1 b1) (hg : FunsAt N w g n2 p2 l2 b2)
    (h1 : ∀ i, i < n1 → StmtsAt N w (d + 1) (b1 i) (B i)) (h2 : ∀ i, i < n2 → StmtsAt N w (d + 1) (b2 i) (C i)) (hsz : ∀ i, i < n1 → size (d + 1) (B i) ≤ 4000000) :
    Calls Tryd.prog 6 #[f, g] w fun e w' => e = .returned (.bool (eqP (d + 1) n1 n2 p1 l1 p2 l2 B C)) ∧ Below w.heap.size w w' := by
  obtain ⟨a1, c1, rfl, hn1, hf⟩ := hf
  obtain ⟨a2, c2, rfl, hn2, hg⟩ := hg
  by_cases hn : n1 = n2
  · subst hn
    have ht : ((n1 : Int) != (n1 : Int)) = false := by simp
    go_enter Tryd.func6, Tryd.ntmps6
    go_wp2_with fail
    go_loopw [13] (fun i wr => ∃ j : Nat, j ≤ n1 ∧ i = .int .i64 j ∧ Below w.heap.size w wr ∧ Hid (∀ x, x < j → eqF (d + 1) (p1 x) (l1 x) (p2 x) (l2 x) (B x) (C x) = true)) (fun i _ => n1 - (intOf i).toNat)
    case atStart => exact ⟨0, Nat.zero_le _, rfl, Below.refl _ _, fun j hj => absurd hj (Nat.not_lt_zero _)⟩
    case round =>
      obtain ⟨j, hj, rfl, hb, hall⟩ := hrel
      by_cases hlt : j < n1
      · rcases hf with hf | ⟨q1, o1, rfl, r1, g1⟩
        · omega
        rcases hg with hg | ⟨q2, o2, rfl, r2, g2⟩
        · omega
        obtain ⟨x0, x1, x2, _⟩ := g1 j hlt
        obtain ⟨y0, y1, y2, _⟩ := g2 j hlt
        have q1' : q1 < w.heap.size := by omega
        have q2' : q2 < w.heap.size := by omega
        rw [← hb.cell q1'] at x0 x1 x2
        rw [← hb.cell q2'] at y0 y1 y2
        have q1w : q1 < wr.heap.size := Nat.lt_of_lt_of_le q1' hb.size
        have q2w : q2 < wr.heap.size := Nat.lt_of_lt_of_le q2' hb.size
        have hNr : N ≤ wr.heap.size := Nat.le_trans hN hb.size
        have s1 := (h1 j hlt).below (hb.mono hN)
        have s2 := (h2 j hlt).below (hb.mono hN)
        have hszj := hsz j hlt
        obtain ⟨z1, d1, e1, _⟩ := s1.shape
        obtain ⟨z2, d2, e2, _⟩ := s2.shape
        rw [e1] at x2 s1
        rw [e2] at y2 s2
        clear g1 g2 e1 e2
        have HC : Hid (∀ {a1 a2 a3 a4 a5 a6 : Prop} {wk : World}, (a1 ∧ a2 ∧ a3 ∧ a4 ∧ a5 ∧ a6 ∧ Later wr wk) → Calls Tryd.prog 12 #[.slice z1 (B j).len d1, .slice z2 (C j).len d2] wk fun e w' => e = .returned (.bool (eqS (d + 1) (B j) (C j))) ∧ Below wk.heap.size wk w') := fun {_ _ _ _ _ _ wk} hh => by
          have hk : Below wr.heap.size wr wk := hh.2.2.2.2.2.2
          exact sameStmts N d _ _ _ _ wk (Nat.le_trans hNr hk.size) (s1.below (hk.mono hNr)) (s2.below (hk.mono hNr)) hszj
        clear s1 s2
        by_cases k1 : p1 j = p2 j
        · by_cases k2 : l1 j = l2 j
          · have HE : eqF (d + 1) (p1 j) (l1 j) (p2 j) (l2 j) (B j) (C j) = eqS (d + 1) (B j) (C j) := by
              unfold eqF; simp [k1, k2]
            have c1' : (p1 j != p2 j) = false := by simp [k1]
            have c2' : (l1 j != l2 j) = false := by simp [k2]
            clear k1 k2
            by_cases he : eqS (d + 1) (B j) (C j) = true
            · have HT : Hid (eqF (d + 1) (p1 j) (l1 j) (p2 j) (l2 j) (B j) (C j) = true) := HE.trans he
              rw [he] at HC
              clear he HE
              go_wp2_with fail
              go_region_held3 (fun w' => w'.cell? ⟨q1, o1 + j * 3, none⟩ = some (.int .i64 (p1 j)) ∧ w'.cell? ⟨q1, o1 + j * 3 + 1, none⟩ = some (.int .i64 (l1 j)) ∧ w'.cell? ⟨q1, o1 + j * 3 + 2, none⟩ = some (.slice z1 (B j).len d1) ∧
                  w'.cell? ⟨q2, o2 + j * 3, none⟩ = some (.int .i64 (p2 j)) ∧ w'.cell? ⟨q2, o2 + j * 3 + 1, none⟩ = some (.int .i64 (l2 j)) ∧ w'.cell? ⟨q2, o2 + j * 3 + 2, none⟩ = some (.slice z2 (C j).len d2) ∧ Later wr w')
                (first | exact ⟨x0, x1, x2, y0, y1, y2, Later.drew (Later.refl _)⟩ | exact keep6 q1w q2w (by assumption) (by assumption))
                (first | (go_at_call 12; refine (HC.out (by assumption)).mono ?_; rintro e w' ⟨rfl, hbx⟩))
              have hL : Below wr.heap.size wr w' := (below_drewN' wr 1).trans hbx
              clear hbx
              go_wp2_with fail
              go_roundw
              case rel => exact ⟨j + 1, by omega, by go_num, below_step hb hL, upTo hall.out HT.out⟩
              case measure => simp [intOf]; omega
            · have he' : eqS (d + 1) (B j) (C j) = false := by simpa using he
              have HT : Hid (eqP (d + 1) n1 n1 p1 l1 p2 l2 B C = false) := eqP_no hlt (HE.trans he')
              rw [he'] at HC
              clear he he' HE
              go_wp2_with fail
              go_region_held3 (fun w' => w'.cell? ⟨q1, o1 + j * 3, none⟩ = some (.int .i64 (p1 j)) ∧ w'.cell? ⟨q1, o1 + j * 3 + 1, none⟩ = some (.int .i64 (l1 j)) ∧ w'.cell? ⟨q1, o1 + j * 3 + 2, none⟩ = some (.slice z1 (B j).len d1) ∧
                  w'.cell? ⟨q2, o2 + j * 3, none⟩ = some (.int .i64 (p2 j)) ∧ w'.cell? ⟨q2, o2 + j * 3 + 1, none⟩ = some (.int .i64 (l2 j)) ∧ w'.cell? ⟨q2, o2 + j * 3 + 2, none⟩ = some (.slice z2 (C j).len d2) ∧ Later wr w')
                (first | exact ⟨x0, x1, x2, y0, y1, y2, Later.drew (Later.refl _)⟩ | exact keep6 q1w q2w (by assumption) (by assumption))
                (first | (go_at_call 12; refine (HC.out (by assumption)).mono ?_; rintro e w' ⟨rfl, hbx⟩))
              have hL : Below wr.heap.size wr w' := (below_drewN' wr 1).trans hbx
              clear hbx
              go_wp2_with fail
              go_ret
              exact ⟨ret_bool HT.out.symm, below_step hb hL⟩
          · have HE : Hid (eqP (d + 1) n1 n1 p1 l1 p2 l2 B C = false) := eqP_no hlt (by unfold eqF; simp [k2])
            have c1' : (p1 j != p2 j) = false := by simp [k1]
            have c2' : (l1 j != l2 j) = true := by simp [k2]
            clear k1 k2
            go_wp2_with fail
            go_quiet (fail)
            go_wp2_with fail
            go_ret
            exact ⟨ret_bool HE.out.symm, below_drewN hb _⟩
        · have HE : Hid (eqP (d + 1) n1 n1 p1 l1 p2 l2 B C = false) := eqP_no hlt (by unfold eqF; simp [k1])
          have c1' : (p1 j != p2 j) = true := by simp [k1]
          clear k1
          go_wp2_with fail
          go_quiet (fail)
          go_wp2_with fail
          go_ret
          exact ⟨ret_bool HE.out.symm, below_drewN hb _⟩
      · obtain rfl : j = n1 := by omega
        go_wp2_with fail
        go_ret
        exact ⟨ret_bool (eqP_yes hall.out).symm, hb⟩
  · have ht : ((n1 : Int) != (n2 : Int)) = true := by simp; omega
    have HN : Hid (eqP (d + 1) n1 n2 p1 l1 p2 l2 B C = false) := eqP_len hn
    clear hn
    go_enter Tryd.func6, Tryd.ntmps6
    go_wp2_with fail
    go_ret
    exact ⟨ret_bool HN.out.symm, Below.refl _ _⟩

end Go.Proofs.YtomfkfhipemlcabDoor
