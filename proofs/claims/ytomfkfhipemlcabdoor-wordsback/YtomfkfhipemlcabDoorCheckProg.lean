/- checkBody and Check: what is wrong with a program, by the program. -/
import Derived.Test.YtomfkfhipemlcabDoorBody
namespace Go.Proofs.YtomfkfhipemlcabDoor
open Go.RowKit

theorem bodyErr_bad {nf : Nat} {par : Nat → Int} {locals : Int} {d : Nat} {T : SL} (h : ¬ (wk look1 d T 1 0).1 = 0) : bodyErr nf par locals d T = (wk look1 d T 1 0).1 := by
  unfold bodyErr
  rw [if_neg h]
  obtain ⟨h1, h2⟩ := wk_count d T 1 0 4 (by omega) (by omega)
  by_cases hs : fits d T 4 ∧ 0 + size d T ≤ 30
  · rw [h1 hs.1 hs.2] at h; exact absurd rfl h
  · exact (h2 hs).symm

theorem bodyErr_good {N : Nat} {w : World} {v : Value} {nf : Nat} {par : Nat → Int} {locals : Int} {d : Nat} {T : SL} (h : (wk look1 d T 1 0).1 = 0) (hs : StmtsAt N w d v T) :
    bodyErr nf par locals d T = (wk (look2 (stErr nf par locals)) 4 T 1 0).1 := by
  unfold bodyErr
  rw [if_pos h, wk_errs, errs_trim _ d T 4 hs.proper (wk1_iff.1 h).1]

theorem cnt_start (w : World) (t : TypeId) : Cnt w.heap.size 0 (w.alloc (.cells #[.int .i64 0] t)) :=
  ⟨by omega, by simp, World.cell?_alloc_new _ _ _ 0, World.frozen?_alloc_new _ _ _ _⟩

theorem body_first (N : Nat) (p l : Int) (v f : Value) (d : Nat) (T : SL) (nf : Nat) (par loc : Nat → Int) (bv : Nat → Value) (w : World) (hN : N ≤ w.heap.size) (h : StmtsAt N w d v T) (hf : FunsAt N w f nf par loc bv) :
    Calls Tryd.prog 28 #[v, .int .i64 1, .func (.func 29) #[] #[.pointer (some ⟨w.heap.size + 1 + 1, 0, none⟩)]] (((w.alloc (.cells #[.int .i64 p, .int .i64 l, v] 35)).alloc (.cells #[f] 22)).alloc (.cells #[.int .i64 0] 3))
      fun e w' => e = .returned (.int .i64 (wk look1 d T 1 0).1) ∧ Below w.heap.size w w' ∧ w'.cell? ⟨w.heap.size, 2, none⟩ = some v ∧ Holds2 N (w.heap.size + 1) w.heap.size f nf par loc bv l 0 w' := by
  have b1 := below_alloc w (.cells #[.int .i64 p, .int .i64 l, v] 35)
  have b2 := below_alloc (w.alloc (.cells #[.int .i64 p, .int .i64 l, v] 35)) (.cells #[f] 22)
  have b3 := below_alloc ((w.alloc (.cells #[.int .i64 p, .int .i64 l, v] 35)).alloc (.cells #[f] 22)) (.cells #[.int .i64 0] 3)
  have hb := below_step (below_step b1 b2) b3
  have hs2 : ((w.alloc (.cells #[.int .i64 p, .int .i64 l, v] 35)).alloc (.cells #[f] 22)).heap.size = w.heap.size + 1 + 1 := by simp
  have hc := cnt_start ((w.alloc (.cells #[.int .i64 p, .int .i64 l, v] 35)).alloc (.cells #[f] 22)) 3
  rw [hs2] at hc
  refine (walk61 ⟨w.heap.size + 1 + 1, 0, none⟩ N (w.heap.size + 1 + 1) (Cnt (w.heap.size + 1 + 1)) look1 (the_look1 N (w.heap.size + 1 + 1) (by omega)) d v T 1 0 _ (h.below (hb.mono hN)) hc (by omega) (by omega) (Or.inl fun c s la lb dep e => by unfold look1 at e; split at e <;> omega)).mono ?_
  rintro e w' ⟨rfl, _, hsv⟩
  have hlow : Below w.heap.size _ w' := hsv.low (by omega) hb.size
  have hall : Below w.heap.size w w' := hb.trans hlow
  have c2 : ∀ i : Nat, w'.cell? ⟨w.heap.size, i, none⟩ = (#[.int .i64 p, .int .i64 l, v] : Array Value)[i]? := fun i => by
    rw [hsv.cell (p := ⟨w.heap.size, i, none⟩) (by simp; omega) (by simp; omega), (below_step b2 b3).cell (p := ⟨w.heap.size, i, none⟩) (by simp), World.cell?_alloc_new]
  have c1 : w'.cell? ⟨w.heap.size + 1, 0, none⟩ = some f := by
    rw [hsv.cell (p := ⟨w.heap.size + 1, 0, none⟩) (by simp) (by simp), b3.cell (p := ⟨w.heap.size + 1, 0, none⟩) (by simp)]
    simp
  have hsz := hsv.size
  have hs3 : (((w.alloc (.cells #[.int .i64 p, .int .i64 l, v] 35)).alloc (.cells #[f] 22)).alloc (.cells #[.int .i64 0] 3)).heap.size = w.heap.size + 1 + 1 + 1 := by simp
  exact ⟨rfl, hall, c2 2, by omega, by omega, by omega, c1, c2 1, hf.below (hall.mono hN)⟩

theorem body_second (N : Nat) (B Q : Nat) (l : Int) (v f : Value) (d : Nat) (T : SL) (nf : Nat) (par loc : Nat → Int) (bv : Nat → Value) (w : World) (hQ : N ≤ Q) (h : StmtsAt N w d v T) (hf : fits d T 4) (hI : Holds2 N B Q f nf par loc bv l 0 w) :
    Calls Tryd.prog 28 #[v, .int .i64 1, .func (.func 30) #[] #[.pointer (some ⟨B, 0, none⟩), .pointer (some ⟨Q, 0, none⟩)]] w
      fun e w' => e = .returned (.int .i64 (wk (look2 (stErr nf par l)) 4 T 1 0).1) ∧ Below Q w w' := by
  refine (walk62 ⟨B, 0, none⟩ ⟨Q, 0, none⟩ N Q _ _ (the_look2 N B Q f nf par loc bv l hQ) 4 v T 1 0 w (h.trim hf) hI (by omega) (by omega) (Or.inr (by omega))).mono ?_
  rintro e w' ⟨rfl, _, hsv⟩
  exact ⟨rfl, hsv.low (Nat.le_refl _) (Nat.le_of_lt hI.2.2.1)⟩

set_option maxHeartbeats 1000000 in
theorem checkBody (N : Nat) (p l : Int) (v f : Value) (d : Nat) (T : SL) (nf : Nat) (par loc : Nat → Int) (bv : Nat → Value) (w : World) (hN : N ≤ w.heap.size) (h : StmtsAt N w d v T) (hf : FunsAt N w f nf par loc bv) :
    Calls Tryd.prog 16 #[.agg #[.int .i64 p, .int .i64 l, v], f] w fun e w' => e = .returned (.int .i64 (bodyErr nf par l d T)) ∧ Below w.heap.size w w' := by
  obtain ⟨a, cap, rfl, _⟩ := h.shape
  obtain ⟨af, cf, rfl, _⟩ := hf.shape
  by_cases h1 : (wk look1 d T 1 0).1 = 0
  · have ht : ((wk look1 d T 1 0).1 != 0) = false := by simp [h1]
    have HE : Hid (bodyErr nf par l d T = (wk (look2 (stErr nf par l)) 4 T 1 0).1) := bodyErr_good h1 h
    have HT : Hid (fits d T 4) := (wk1_iff.1 h1).1
    clear h1
    go_enter Tryd.func16, Tryd.ntmps16
    go_wp2_with (first
      | (go_at_call 28; refine (body_second N (w.heap.size + 1) w.heap.size l _ _ d T nf par loc bv _ hN (h.below (hb1.mono hN)) HT.out hI1).mono ?_; rintro e w2 ⟨rfl, hb2⟩)
      | (go_at_call 28; refine (body_first N p l _ _ d T nf par loc bv w hN h hf).mono ?_; rintro e w1 ⟨rfl, hb1, c1, hI1⟩))
    go_ret
    exact ⟨ret_num HE.out.symm, hb1.trans hb2⟩
  · have ht : ((wk look1 d T 1 0).1 != 0) = true := by simp [h1]
    have HE : Hid (bodyErr nf par l d T = (wk look1 d T 1 0).1) := bodyErr_bad h1
    clear h1
    go_enter Tryd.func16, Tryd.ntmps16
    go_wp2_with (go_at_call 28; refine (body_first N p l _ _ d T nf par loc bv w hN h hf).mono ?_; rintro e w1 ⟨rfl, hb1, c1, hI1⟩)
    go_ret
    exact ⟨ret_num HE.out.symm, hb1⟩

theorem headErr_ways {i : Nat} {p l : Int} (h : ¬ headErr i p l = 0) : p < 0 ∨ (0 ≤ p ∧ 3 < p) ∨ (0 ≤ p ∧ p ≤ 3 ∧ l < p) ∨ (0 ≤ p ∧ p ≤ 3 ∧ ¬ l < p ∧ 6 < l) ∨ (0 ≤ p ∧ p ≤ 3 ∧ ¬ l < p ∧ ¬ 6 < l ∧ i = 0 ∧ 0 < p) := by
  unfold headErr at h
  by_cases hh : p < 0 ∨ 3 < p ∨ l < p ∨ 6 < l ∨ (i = 0 ∧ 0 < p)
  · omega
  · rw [if_neg hh] at h; exact absurd rfl h
theorem headErr_good {i : Nat} {p l : Int} (h : headErr i p l = 0) : 0 ≤ p ∧ p ≤ 3 ∧ ¬ l < p ∧ ¬ 6 < l ∧ (i = 0 → ¬ 0 < p) := by
  unfold headErr at h
  split at h
  · cases h
  · omega

set_option maxHeartbeats 2000000 in
theorem check (N : Nat) (f : Value) (nf : Nat) (par loc : Nat → Int) (bv : Nat → Value) (d : Nat) (body : Nat → SL) (w : World) (hN : N ≤ w.heap.size) (hf : FunsAt N w f nf par loc bv) (hs : ∀ i, i < nf → StmtsAt N w d (bv i) (body i)) :
    Calls Tryd.prog 8 #[f] w fun e w' => e = .returned (.int .i64 (progErr nf par loc d body)) ∧ Below w.heap.size w w' := by
  have hf0 := hf
  obtain ⟨af, capf, rfl, hnf, hf⟩ := hf
  by_cases hn1 : nf < 1
  · have HE : Hid (progErr nf par loc d body = 2) := progErr_many (Or.inl hn1)
    have hni : (nf : Int) < 1 := by omega
    go_enter Tryd.func8, Tryd.ntmps8
    go_wp2_with fail
    go_ret
    exact ⟨ret_num HE.out.symm, Below.refl _ _⟩
  by_cases hn4 : 4 < nf
  · have HE : Hid (progErr nf par loc d body = 2) := progErr_many (Or.inr hn4)
    have hni : ¬ (nf : Int) < 1 := by omega
    have hni4 : (4 : Int) < nf := by omega
    go_enter Tryd.func8, Tryd.ntmps8
    go_wp2_with fail
    go_ret
    exact ⟨ret_num HE.out.symm, Below.refl _ _⟩
  have hni : ¬ (nf : Int) < 1 := by omega
  have hni4 : ¬ (4 : Int) < nf := by omega
  have HB : Hid (¬ (nf < 1 ∨ 4 < nf)) := by
    show ¬ (nf < 1 ∨ 4 < nf)
    omega
  go_enter Tryd.func8, Tryd.ntmps8
  go_wp2_with fail
  go_loopw [18] (fun i wr => ∃ j : Nat, j ≤ nf ∧ i = .int .i64 j ∧ Below w.heap.size w wr ∧ Hid (∀ x, x < j → headErr x (par x) (loc x) = 0)) (fun i _ => nf - (intOf i).toNat)
  case atStart => exact ⟨0, Nat.zero_le _, rfl, Below.refl _ _, fun j hj => absurd hj (Nat.not_lt_zero _)⟩
  case round =>
    obtain ⟨j, hj, rfl, hb, hall⟩ := hrel
    by_cases hlt : j < nf
    · rcases hf with hf | ⟨p, o, rfl, hp, g⟩
      · omega
      obtain ⟨q0, q1, q2, ba, bm, bc, eb⟩ := g j hlt
      have hp' : p < w.heap.size := by omega
      rw [eb] at q2
      rw [← hb.cell hp'] at q0 q1 q2
      clear g
      have hz := hb.size
      by_cases he : headErr j (par j) (loc j) = 0
      · obtain ⟨e0, e1, e2, e3, e4⟩ := headErr_good he
        have HE : Hid (headErr j (par j) (loc j) = 0) := he
        clear he
        by_cases hj0 : j = 0
        · have hj1 : ((j : Int) == 0) = true := by simp [hj0]
          have e5 := e4 hj0
          clear e4 hj0
          go_wp2
          go_roundw
          case rel => exact ⟨j + 1, by omega, by go_num, (hb.alloc hz _).alloc (by simp; omega) _, upTo hall.out HE.out⟩
          case measure => simp [intOf]; omega
        · have hj1 : ((j : Int) == 0) = false := by simp [hj0]
          clear e4 hj0
          go_wp2
          go_roundw
          case rel => exact ⟨j + 1, by omega, by go_num, (hb.alloc hz _).alloc (by simp; omega) _, upTo hall.out HE.out⟩
          case measure => simp [intOf]; omega
      · have HE : Hid (progErr nf par loc d body = 3) := progErr_head HB.out hlt he
        have he' := headErr_ways he
        clear he
        rcases he' with e0 | ⟨e0, e1⟩ | ⟨e0, e1, e2⟩ | ⟨e0, e1, e2, e3⟩ | ⟨e0, e1, e2, e3, e4, e5⟩
        · have e0' : ¬ 0 ≤ par j := by omega
          go_wp2
          go_ret
          exact ⟨ret_num HE.out.symm, (hb.alloc hz _).alloc (by simp; omega) _⟩
        · have e1' : ¬ par j ≤ 3 := by omega
          go_wp2
          go_ret
          exact ⟨ret_num HE.out.symm, (hb.alloc hz _).alloc (by simp; omega) _⟩
        · go_wp2
          go_ret
          exact ⟨ret_num HE.out.symm, (hb.alloc hz _).alloc (by simp; omega) _⟩
        · go_wp2
          go_ret
          exact ⟨ret_num HE.out.symm, (hb.alloc hz _).alloc (by simp; omega) _⟩
        · have hj1 : ((j : Int) == 0) = true := by simp [e4]
          clear e4
          go_wp2
          go_ret
          exact ⟨ret_num HE.out.symm, (hb.alloc hz _).alloc (by simp; omega) _⟩
    · obtain rfl : j = nf := by omega
      have HP : Hid (progErr j par loc d body = firstErr j (fun i => bodyErr j par (loc i) d (body i))) := progErr_body HB.out hall.out
      go_wp2_with fail
      go_loopw [50] (fun i wr => ∃ x : Nat, x ≤ j ∧ i = .int .i64 x ∧ Below w.heap.size w wr ∧ Hid (∀ y, y < x → bodyErr j par (loc y) d (body y) = 0)) (fun i _ => j - (intOf i).toNat)
      case atStart => exact ⟨0, Nat.zero_le _, rfl, hb, fun j hj => absurd hj (Nat.not_lt_zero _)⟩
      case round =>
        clear hb
        obtain ⟨x, hx, rfl, hb, hin⟩ := hrel
        by_cases hxlt : x < j
        · rcases hf with hf | ⟨p, o, rfl, hp, g⟩
          · omega
          obtain ⟨q0, q1, q2, _⟩ := g x hxlt
          have hp' : p < w.heap.size := by omega
          rw [← hb.cell hp'] at q0 q1 q2
          clear g
          have hz := hb.size
          have hst := (hs x hxlt).below (hb.mono hN)
          have hst' := hst
          obtain ⟨ba, bc, eb, _⟩ := hst'.shape
          rw [eb] at q2 hst
          have hfn := hf0.below (hb.mono hN)
          by_cases he : bodyErr j par (loc x) d (body x) = 0
          · have het : (bodyErr j par (loc x) d (body x) != 0) = false := by simp [he]
            have HE : Hid (bodyErr j par (loc x) d (body x) = 0) := he
            clear he
            go_wp2_with (go_at_call 16; refine (checkBody N _ _ _ _ d (body x) j par loc bv _ (by simp; omega) (hst.below ((below_alloc _ _).mono (by omega))) (hfn.below ((below_alloc _ _).mono (by omega)))).mono ?_; rintro e w1 ⟨rfl, hb1⟩)
            go_roundw
            case rel => exact ⟨x + 1, by omega, by go_num, below_step hb (below_step (below_alloc _ _) hb1), upTo hin.out HE.out⟩
            case measure => simp [intOf]; omega
          · have het : (bodyErr j par (loc x) d (body x) != 0) = true := by simp [he]
            have HE : Hid (progErr j par loc d body = bodyErr j par (loc x) d (body x)) := HP.out.trans (firstErr_at hin.out he hxlt)
            clear he
            go_wp2_with (go_at_call 16; refine (checkBody N _ _ _ _ d (body x) j par loc bv _ (by simp; omega) (hst.below ((below_alloc _ _).mono (by omega))) (hfn.below ((below_alloc _ _).mono (by omega)))).mono ?_; rintro e w1 ⟨rfl, hb1⟩)
            go_ret
            exact ⟨ret_num HE.out.symm, below_step hb (below_step (below_alloc _ _) hb1)⟩
        · obtain rfl : x = j := by omega
          have HE : Hid (progErr x par loc d body = 0) := HP.out.trans (firstErr_zero hin.out)
          go_wp2_with fail
          go_ret
          exact ⟨ret_num HE.out.symm, hb⟩

end Go.Proofs.YtomfkfhipemlcabDoor
