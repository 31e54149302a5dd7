/- CheckSource of the reckoning beside the program: the same error as Check's. -/
import Derived.Test.YtfblnmbcaglliabGreatDoorRefStmts
import Derived.Test.YtfblnmbcaglliabGreatDoorSized
import Derived.Test.YtfblnmbcaglliabGreatDoorPartCheck
namespace Go.Proofs.YtfblnmbcaglliabGreatDoor
open Go.RowKit

theorem bodyErr_ref {nf : Nat} {par : Nat → Int} {locals : Int} {d : Nat} {T : SL} : bodyErr nf par locals d T = if fineB d T 4 = true then errs (stErr nf par locals) d T else 2 := by
  unfold bodyErr fineB
  by_cases h : (wk look1 d T 1 0).1 = 0
  · rw [if_pos h, if_pos (by rw [beq_iff_eq]; exact h)]
  · rw [if_neg h, if_neg (by rw [beq_iff_eq]; exact h)]

set_option maxHeartbeats 4000000 in
theorem refCheck (N : Nat) (f : Value) (nf : Nat) (par loc : Nat → Int) (bv : Nat → Value) (d : Nat) (body : Nat → SL) (w : World) (hN : N ≤ w.heap.size) (hf : FunsAt N w f nf par loc bv) (hs : ∀ i, i < nf → StmtsAt N w d (bv i) (body i)) (hk : ∀ i, i < nf → kindsFit d (body i)) :
    Calls Tryz.prog 7 #[f] w fun e w' => e = .returned (.int .i64 (progErr nf par loc d body)) ∧ Below w.heap.size w w' := by
  have hf0 := hf
  obtain ⟨af, capf, rfl, hnf, hf⟩ := hf
  by_cases hn1 : 1 ≤ (nf : Int) ∧ (nf : Int) ≤ 4
  rotate_left
  · have HE : Hid (progErr nf par loc d body = 2) := progErr_many (by omega)
    have hx : decide (1 ≤ (nf : Int) ∧ (nf : Int) ≤ 4) = false := by simpa using hn1
    clear hn1
    go_enter Tryz.func7, Tryz.ntmps7
    go_wp2_with (go_at_call 24; refine (inRange _ _ _ _).mono ?_; rw [hx]; rintro e w1 ⟨rfl, rfl⟩)
    go_ret
    exact ⟨ret_num HE.out.symm, Below.refl _ _⟩
  have hx : decide (1 ≤ (nf : Int) ∧ (nf : Int) ≤ 4) = true := by simpa using hn1
  have HB : Hid (¬ (nf < 1 ∨ 4 < nf)) := by
    show ¬ (nf < 1 ∨ 4 < nf)
    omega
  clear hn1
  go_enter Tryz.func7, Tryz.ntmps7
  go_wp2_with (go_at_call 24; refine (inRange _ _ _ _).mono ?_; rw [hx]; rintro e w1 ⟨rfl, h1⟩; rw [h1]; clear h1)
  clear hx
  go_loopw [16] (fun i wr => ∃ j : Nat, j ≤ nf ∧ i = .int .i64 j ∧ Below w.heap.size w wr ∧ Hid (∀ x, x < j → headErr x (par x) (loc x) = 0)) (fun i _ => nf - (intOf i).toNat)
  case atStart => exact ⟨0, Nat.zero_le _, rfl, Below.refl _ _, fun j hj => absurd hj (Nat.not_lt_zero _)⟩
  case round =>
    obtain ⟨j, hj, rfl, hb, hall⟩ := hrel
    by_cases hlt : j < nf
    · rcases hf with hf | ⟨p, o, rfl, hp, g⟩
      · omega
      obtain ⟨q0, q1, q2, ba, bm, bc, eb⟩ := g j hlt
      have hp' : p < w.heap.size := by omega
      rw [eb] at q2
      rw [← hb.cell hp'] at q0 q1 q2
      clear g
      have hz := hb.size
      by_cases he : headErr j (par j) (loc j) = 0
      · obtain ⟨e0, e1, e2, e3, e4⟩ := headErr_good he
        have HE : Hid (headErr j (par j) (loc j) = 0) := he
        have x1 : decide (0 ≤ par j ∧ par j ≤ 3) = true := by simp; omega
        have x2 : decide (par j ≤ loc j ∧ loc j ≤ 6) = true := by simp; omega
        by_cases hj0 : j = 0
        · have hj1 : ((j : Int) == 0) = true := by simp [hj0]
          have hj2 : (par j != 0) = false := by have := e4 hj0; simp; omega
          clear e0 e1 e2 e3 e4 hj0 he
          go_wp2_with (go_at_call 24; refine (inRange _ _ _ _).mono ?_; first | (rw [x1]; rintro e w1 ⟨rfl, h1⟩; rw [h1]; clear h1) | (rw [x2]; rintro e w1 ⟨rfl, h1⟩; rw [h1]; clear h1))
          go_roundw
          case rel => exact ⟨j + 1, by omega, by go_num, hb.alloc hz _, upTo hall.out HE.out⟩
          case measure => simp [intOf]; omega
        · have hj1 : ((j : Int) == 0) = false := by simp [hj0]
          clear e0 e1 e2 e3 e4 hj0 he
          go_wp2_with (go_at_call 24; refine (inRange _ _ _ _).mono ?_; first | (rw [x1]; rintro e w1 ⟨rfl, h1⟩; rw [h1]; clear h1) | (rw [x2]; rintro e w1 ⟨rfl, h1⟩; rw [h1]; clear h1))
          go_roundw
          case rel => exact ⟨j + 1, by omega, by go_num, hb.alloc hz _, upTo hall.out HE.out⟩
          case measure => simp [intOf]; omega
      · have HE : Hid (progErr nf par loc d body = 3) := progErr_head HB.out hlt he
        have he' := headErr_ways he
        by_cases g1 : 0 ≤ par j ∧ par j ≤ 3
        · have x1 : decide (0 ≤ par j ∧ par j ≤ 3) = true := by simpa using g1
          by_cases g2 : par j ≤ loc j ∧ loc j ≤ 6
          · have x2 : decide (par j ≤ loc j ∧ loc j ≤ 6) = true := by simpa using g2
            have hj1 : ((j : Int) == 0) = true := by simp; omega
            have hj2 : (par j != 0) = true := by simp; omega
            clear g1 g2 he he'
            go_wp2_with (go_at_call 24; refine (inRange _ _ _ _).mono ?_; first | (rw [x1]; rintro e w1 ⟨rfl, h1⟩; rw [h1]; clear h1) | (rw [x2]; rintro e w1 ⟨rfl, h1⟩; rw [h1]; clear h1))
            go_ret
            exact ⟨ret_num HE.out.symm, hb.alloc hz _⟩
          · have x2 : decide (par j ≤ loc j ∧ loc j ≤ 6) = false := by simpa using g2
            clear g1 g2 he he'
            go_wp2_with (go_at_call 24; refine (inRange _ _ _ _).mono ?_; first | (rw [x1]; rintro e w1 ⟨rfl, h1⟩; rw [h1]; clear h1) | (rw [x2]; rintro e w1 ⟨rfl, h1⟩; rw [h1]; clear h1))
            go_ret
            exact ⟨ret_num HE.out.symm, hb.alloc hz _⟩
        · have x1 : decide (0 ≤ par j ∧ par j ≤ 3) = false := by simpa using g1
          clear g1 he he'
          go_wp2_with (go_at_call 24; refine (inRange _ _ _ _).mono ?_; rw [x1]; rintro e w1 ⟨rfl, h1⟩; rw [h1]; clear h1)
          go_ret
          exact ⟨ret_num HE.out.symm, hb.alloc hz _⟩
    · obtain rfl : j = nf := by omega
      have HP : Hid (progErr j par loc d body = firstErr j (fun i => bodyErr j par (loc i) d (body i))) := progErr_body HB.out hall.out
      go_wp2_with fail
      go_loopw [45] (fun i wr => ∃ x : Nat, x ≤ j ∧ i = .int .i64 x ∧ Below w.heap.size w wr ∧ Hid (∀ y, y < x → bodyErr j par (loc y) d (body y) = 0)) (fun i _ => j - (intOf i).toNat)
      case atStart => exact ⟨0, Nat.zero_le _, rfl, hb, fun j hj => absurd hj (Nat.not_lt_zero _)⟩
      case round =>
        clear hb
        obtain ⟨x, hx, rfl, hb, hin⟩ := hrel
        by_cases hxlt : x < j
        · rcases hf with hf | ⟨p, o, rfl, hp, g⟩
          · omega
          obtain ⟨q0, q1, q2, _⟩ := g x hxlt
          have hp' : p < w.heap.size := by omega
          rw [← hb.cell hp'] at q0 q1 q2
          clear g
          have hNr : N ≤ wr.heap.size := Nat.le_trans hN hb.size
          have hst := (hs x hxlt).below (hb.mono hN)
          have hst' := hst
          obtain ⟨ba, bc, eb, _⟩ := hst'.shape
          rw [eb] at q2 hst
          have hfn := hf0.below (hb.mono hN)
          have hkx := hk x hxlt
          have HN1 : Hid (∀ o : Obj, N ≤ (wr.alloc o).heap.size) := fun o => Nat.le_trans hNr (below_alloc _ _).size
          have HT : Hid (∀ o : Obj, StmtsAt N (wr.alloc o) d (.slice ba (body x).len bc) (body x)) := fun o => hst.below ((below_alloc _ _).mono hNr)
          have HR : Hid (bodyErr j par (loc x) d (body x) = if fineB d (body x) 4 = true then errs (stErr j par (loc x)) d (body x) else 2) := bodyErr_ref
          have HSz : Hid (∀ ob : Obj, Calls Tryz.prog 25 #[.slice ba (body x).len bc, .int .i64 4] (wr.alloc ob) fun e w' => e = .returned (.tuple #[.int .i64 (sizeR d (body x) 4), .bool (fineB d (body x) 4)]) ∧ Below (wr.alloc ob).heap.size (wr.alloc ob) w') := fun ob =>
            sized N d _ (body x) 4 _ (HN1.out ob) (HT.out ob) (Or.inl (by decide)) (by decide)
          have HCk : Hid (∀ w1, Below wr.heap.size wr w1 → Calls Tryz.prog 26 #[.slice ba (body x).len bc, .slice (some ⟨p, o, none⟩) j capf, .int .i64 (loc x)] w1 fun e w' => e = .returned (.int .i64 (errs (stErr j par (loc x)) d (body x))) ∧ Below w1.heap.size w1 w') := fun w1 hb1 =>
            refStmts N _ j par loc bv (loc x) d _ (body x) w1 (Nat.le_trans hNr hb1.size) (hst.below (hb1.mono hNr)) hkx (hfn.below (hb1.mono hNr))
          by_cases hfi : fineB d (body x) 4 = true
          · rw [hfi] at HSz
            have HR2 : Hid (bodyErr j par (loc x) d (body x) = errs (stErr j par (loc x)) d (body x)) := HR.out.trans (if_pos hfi)
            clear hfi
            by_cases he : errs (stErr j par (loc x)) d (body x) = 0
            · rw [he] at HCk
              have HZ : Hid (bodyErr j par (loc x) d (body x) = 0) := HR2.out.trans he
              clear he
              go_wp2_with (first
                | (go_at_call 26; refine (HCk.out _ (below_step (below_alloc _ _) hb1)).mono ?_; rintro e w2 ⟨rfl, hb2⟩)
                | (go_at_call 25; refine (HSz.out _).mono ?_; rintro e w1 ⟨rfl, hb1⟩; have m1 := box_in hb1 1 rfl; have m2 := box_in hb1 2 rfl))
              go_roundw
              case rel => exact ⟨x + 1, by omega, by go_num, below_step hb (below_step (below_step (below_alloc _ _) hb1) hb2), upTo hin.out HZ.out⟩
              case measure => simp [intOf]; omega
            · have het : (errs (stErr j par (loc x)) d (body x) != 0) = true := by simp [he]
              have HE : Hid (progErr j par loc d body = errs (stErr j par (loc x)) d (body x)) := (HP.out.trans (firstErr_at hin.out (by rw [HR2.out]; exact he) hxlt)).trans HR2.out
              clear he
              go_wp2_with (first
                | (go_at_call 26; refine (HCk.out _ (below_step (below_alloc _ _) hb1)).mono ?_; rintro e w2 ⟨rfl, hb2⟩)
                | (go_at_call 25; refine (HSz.out _).mono ?_; rintro e w1 ⟨rfl, hb1⟩; have m1 := box_in hb1 1 rfl; have m2 := box_in hb1 2 rfl))
              go_ret
              exact ⟨ret_num HE.out.symm, below_step hb (below_step (below_step (below_alloc _ _) hb1) hb2)⟩
          · have hfi' : fineB d (body x) 4 = false := by simpa using hfi
            rw [hfi'] at HSz
            have HR2 : bodyErr j par (loc x) d (body x) = 2 := HR.out.trans (if_neg hfi)
            have HE : Hid (progErr j par loc d body = 2) := (HP.out.trans (firstErr_at hin.out (by rw [HR2]; decide) hxlt)).trans HR2
            clear hfi hfi' HR2
            go_wp2_with (go_at_call 25; refine (HSz.out _).mono ?_; rintro e w1 ⟨rfl, hb1⟩)
            go_ret
            exact ⟨ret_num HE.out.symm, below_step hb (below_step (below_alloc _ _) hb1)⟩
        · obtain rfl : x = j := by omega
          have HE : Hid (progErr x par loc d body = 0) := HP.out.trans (firstErr_zero hin.out)
          go_wp2_with fail
          go_ret
          exact ⟨ret_num HE.out.symm, hb⟩

end Go.Proofs.YtfblnmbcaglliabGreatDoor
