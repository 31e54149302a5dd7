/- sameStmts and SameSource of the reckoning beside the program: alike just if all is. -/
import Derived.Test.YtfblnmbcaglliabGreatDoorSameTok
namespace Go.Proofs.YtfblnmbcaglliabGreatDoor
open Go.RowKit

theorem eqI_ways (E : SL → SL → Bool) (T U : SL) (i : Nat) : (¬ (T.nd i).kind = (U.nd i).kind ∧ eqI E T U i = false) ∨ ((T.nd i).kind = (U.nd i).kind ∧ ¬ (T.nd i).num = (U.nd i).num ∧ eqI E T U i = false) ∨
    ((T.nd i).kind = (U.nd i).kind ∧ (T.nd i).num = (U.nd i).num ∧ eqV (T.nd i).ne (U.nd i).ne (T.nd i).ek (T.nd i).ez (U.nd i).ek (U.nd i).ez = false ∧ eqI E T U i = false) ∨
    ((T.nd i).kind = (U.nd i).kind ∧ (T.nd i).num = (U.nd i).num ∧ eqV (T.nd i).ne (U.nd i).ne (T.nd i).ek (T.nd i).ez (U.nd i).ek (U.nd i).ez = true ∧ eqV (T.nd i).nf (U.nd i).nf (T.nd i).fk (T.nd i).fz (U.nd i).fk (U.nd i).fz = false ∧ eqI E T U i = false) ∨
    ((T.nd i).kind = (U.nd i).kind ∧ (T.nd i).num = (U.nd i).num ∧ eqV (T.nd i).ne (U.nd i).ne (T.nd i).ek (T.nd i).ez (U.nd i).ek (U.nd i).ez = true ∧ eqV (T.nd i).nf (U.nd i).nf (T.nd i).fk (T.nd i).fz (U.nd i).fk (U.nd i).fz = true ∧ E (T.sub i false) (U.sub i false) = false ∧ eqI E T U i = false) ∨
    ((T.nd i).kind = (U.nd i).kind ∧ (T.nd i).num = (U.nd i).num ∧ eqV (T.nd i).ne (U.nd i).ne (T.nd i).ek (T.nd i).ez (U.nd i).ek (U.nd i).ez = true ∧ eqV (T.nd i).nf (U.nd i).nf (T.nd i).fk (T.nd i).fz (U.nd i).fk (U.nd i).fz = true ∧ E (T.sub i false) (U.sub i false) = true ∧ E (T.sub i true) (U.sub i true) = false ∧ eqI E T U i = false) ∨
    ((T.nd i).kind = (U.nd i).kind ∧ (T.nd i).num = (U.nd i).num ∧ eqV (T.nd i).ne (U.nd i).ne (T.nd i).ek (T.nd i).ez (U.nd i).ek (U.nd i).ez = true ∧ eqV (T.nd i).nf (U.nd i).nf (T.nd i).fk (T.nd i).fz (U.nd i).fk (U.nd i).fz = true ∧ E (T.sub i false) (U.sub i false) = true ∧ E (T.sub i true) (U.sub i true) = true ∧ eqI E T U i = true) := by
  unfold eqI eqH
  generalize T.nd i = s
  generalize U.nd i = t
  generalize E (T.sub i false) (U.sub i false) = x
  generalize E (T.sub i true) (U.sub i true) = y
  generalize eqV s.ne t.ne s.ek s.ez t.ek t.ez = p
  generalize eqV s.nf t.nf s.fk s.fz t.fk t.fz = q
  by_cases h1 : s.kind = t.kind <;> by_cases h2 : s.num = t.num <;> cases p <;> cases q <;> cases x <;> cases y <;> simp [h1, h2]

theorem two_box {w wk : World} {cs1 cs2 : Array Value} {t1 t2 : TypeId} (hb : Below ((w.alloc (.cells cs1 t1)).alloc (.cells cs2 t2)).heap.size ((w.alloc (.cells cs1 t1)).alloc (.cells cs2 t2)) wk) (i : Nat) {c1 c2 : Value} (h1 : cs1[i]? = some c1) (h2 : cs2[i]? = some c2) :
    wk.cell? ⟨w.heap.size, i, none⟩ = some c1 ∧ wk.cell? ⟨w.heap.size + 1, i, none⟩ = some c2 := by
  have e1 := box_in (below_step (below_alloc _ _) hb) i h1
  have e2 := box_in hb i h2
  simp only [World.size_alloc] at e2
  exact ⟨e1, e2⟩

set_option maxHeartbeats 8000000 in
theorem refSame (N : Nat) : ∀ (d : Nat) (v1 v2 : Value) (T U : SL) (w : World), N ≤ w.heap.size → StmtsAt N w d v1 T → StmtsAt N w d v2 U →
    Calls Tryz.prog 40 #[v1, v2] w fun e w' => e = .returned (.bool (eqS d T U)) ∧ Below w.heap.size w w' := by
  intro d
  induction d with
  | zero =>
    intro v1 v2 T U w hN h1 h2
    obtain ⟨_, a1, c1, rfl⟩ := h1
    obtain ⟨_, a2, c2, rfl⟩ := h2
    go_enter Tryz.func40, Tryz.ntmps40
    go_wp2_with fail
    go_loopw [15] (fun i wr => i = .int .i64 0 ∧ wr = w) (fun i _ => 0)
    case atStart => exact ⟨rfl, rfl⟩
    case round =>
      obtain ⟨rfl, rfl⟩ := hrel
      go_wp2_with fail
      go_ret
      exact ⟨rfl, Below.refl _ _⟩
  | succ d ih =>
    intro v1 v2 T U w hN h1 h2
    obtain ⟨a1, c1, rfl, hn1, h1⟩ := h1
    obtain ⟨a2, c2, rfl, hn2, h2⟩ := h2
    by_cases hl : T.len = U.len
    rotate_left
    · have HN : Hid (eqS (d + 1) T U = false) := eqS_len hl
      have ht : ((T.len : Int) != (U.len : Int)) = true := by simp; omega
      clear hl
      go_enter Tryz.func40, Tryz.ntmps40
      go_wp2_with fail
      go_ret
      exact ⟨ret_bool HN.out.symm, Below.refl _ _⟩
    have HA : Hid (eqS (d + 1) T U = allTo T.len (eqI (eqS d) T U)) := eqS_all hl
    have ht : ((T.len : Int) != (U.len : Int)) = false := by simp [hl]
    have HL : Hid (T.len = U.len) := hl
    clear hl
    generalize eqS (d + 1) T U = ER at *
    go_enter Tryz.func40, Tryz.ntmps40
    go_wp2_with fail
    go_loopw [15] (fun i wr => ∃ j : Nat, j ≤ T.len ∧ i = .int .i64 j ∧ Below w.heap.size w wr ∧ Hid (∀ x, x < j → eqI (eqS d) T U x = true)) (fun i _ => T.len - (intOf i).toNat)
    case atStart => exact ⟨0, Nat.zero_le _, rfl, Below.refl _ _, fun j hj => absurd hj (Nat.not_lt_zero _)⟩
    case round =>
      obtain ⟨j, hj, rfl, hb, hall⟩ := hrel
      by_cases hlt : j < T.len
      · rcases h1 with h1 | ⟨p1, o1, rfl, l1, g1⟩
        · omega
        rcases h2 with h2 | ⟨p2, o2, rfl, l2, g2⟩
        · have := HL.out; omega
        have hltU : j < U.len := by have := HL.out; omega
        obtain ⟨e1, f1, x1, y1, q0, q1, q2, q3, q4, q5, t1, t2, s1, s2⟩ := g1 j hlt
        obtain ⟨e2, f2, x2, y2, r0, r1, r2, r3, r4, r5, t3, t4, s3, s4⟩ := g2 j hltU
        have p1' : p1 < w.heap.size := by omega
        have p2' : p2 < w.heap.size := by omega
        rw [← hb.cell p1'] at q0 q1 q2 q3 q4 q5
        rw [← hb.cell p2'] at r0 r1 r2 r3 r4 r5
        have hbN := hb.mono hN
        have hNr : N ≤ wr.heap.size := Nat.le_trans hN hb.size
        have p2w : p2 < wr.heap.size := Nat.lt_of_lt_of_le p2' hb.size
        obtain ⟨ae1, ce1, rfl, _⟩ := t1.shape
        obtain ⟨af1, cf1, rfl, _⟩ := t2.shape
        obtain ⟨aa1, ca1, rfl, _⟩ := s1.shape
        obtain ⟨ab1, cb1, rfl, _⟩ := s2.shape
        obtain ⟨ae2, ce2, rfl, _⟩ := t3.shape
        obtain ⟨af2, cf2, rfl, _⟩ := t4.shape
        obtain ⟨aa2, ca2, rfl, _⟩ := s3.shape
        obtain ⟨ab2, cb2, rfl, _⟩ := s4.shape
        have HE0 : Hid (∀ wk, Below wr.heap.size wr wk → Calls Tryz.prog 75 #[.slice ae1 (T.nd j).ne ce1, .slice ae2 (U.nd j).ne ce2] wk fun e w' => e = .returned (.bool (eqV (T.nd j).ne (U.nd j).ne (T.nd j).ek (T.nd j).ez (U.nd j).ek (U.nd j).ez)) ∧ Below wk.heap.size wk w') := fun wk hk =>
          eqToks N _ _ _ _ _ _ _ _ wk ((t1.below hbN).below (hk.mono hNr)) ((t3.below hbN).below (hk.mono hNr))
        have HF0 : Hid (∀ wk, Below wr.heap.size wr wk → Calls Tryz.prog 75 #[.slice af1 (T.nd j).nf cf1, .slice af2 (U.nd j).nf cf2] wk fun e w' => e = .returned (.bool (eqV (T.nd j).nf (U.nd j).nf (T.nd j).fk (T.nd j).fz (U.nd j).fk (U.nd j).fz)) ∧ Below wk.heap.size wk w') := fun wk hk =>
          eqToks N _ _ _ _ _ _ _ _ wk ((t2.below hbN).below (hk.mono hNr)) ((t4.below hbN).below (hk.mono hNr))
        have HA0 : Hid (∀ wk, Below wr.heap.size wr wk → Calls Tryz.prog 40 #[.slice aa1 (T.sub j false).len ca1, .slice aa2 (U.sub j false).len ca2] wk fun e w' => e = .returned (.bool (eqS d (T.sub j false) (U.sub j false))) ∧ Below wk.heap.size wk w') := fun wk hk =>
          ih _ _ _ _ wk (Nat.le_trans hNr hk.size) ((s1.below hbN).below (hk.mono hNr)) ((s3.below hbN).below (hk.mono hNr))
        have HB0 : Hid (∀ wk, Below wr.heap.size wr wk → Calls Tryz.prog 40 #[.slice ab1 (T.sub j true).len cb1, .slice ab2 (U.sub j true).len cb2] wk fun e w' => e = .returned (.bool (eqS d (T.sub j true) (U.sub j true))) ∧ Below wk.heap.size wk w') := fun wk hk =>
          ih _ _ _ _ wk (Nat.le_trans hNr hk.size) ((s2.below hbN).below (hk.mono hNr)) ((s4.below hbN).below (hk.mono hNr))
        have HW : Hid (∀ o1 o2 : Obj, Below wr.heap.size wr ((wr.alloc o1).alloc o2)) := fun o1 o2 => below_step (below_alloc _ _) (below_alloc _ _)
        have HNo : Hid (eqI (eqS d) T U j = false → ER = false) := fun e => HA.out.trans (allTo_no hlt e)
        have HYes : Hid (eqI (eqS d) T U j = true → ∀ x, x < j + 1 → eqI (eqS d) T U x = true) := fun e => upTo hall.out e
        clear g1 g2 t1 t2 t3 t4 s1 s2 s3 s4 ih
        have hways := eqI_ways (eqS d) T U j
        generalize T.nd j = s at *
        generalize U.nd j = t at *
        generalize (T.sub j false).len = n1 at *
        generalize (T.sub j true).len = n2 at *
        generalize (U.sub j false).len = n3 at *
        generalize (U.sub j true).len = n4 at *
        generalize eqV s.ne t.ne s.ek s.ez t.ek t.ez = bE at *
        generalize eqV s.nf t.nf s.fk s.fz t.fk t.fz = bF at *
        generalize eqS d (T.sub j false) (U.sub j false) = bA at *
        generalize eqS d (T.sub j true) (U.sub j true) = bB at *
        rcases hways with ⟨k1, HZ⟩ | ⟨k1, k2, HZ⟩ | ⟨k1, k2, rfl, HZ⟩ | ⟨k1, k2, rfl, rfl, HZ⟩ | ⟨k1, k2, rfl, rfl, rfl, HZ⟩ | ⟨k1, k2, rfl, rfl, rfl, rfl, HZ⟩ | ⟨k1, k2, rfl, rfl, rfl, rfl, HZ⟩
        · have b1 : (s.kind != t.kind) = true := by simp [k1]
          have HR : Hid (ER = false) := HNo.out HZ
          clear k1 HZ
          go_wp2_with (fail)
          go_ret
          exact ⟨ret_bool HR.out.symm, below_step hb (HW.out _ _)⟩
        · have b1 : (s.kind != t.kind) = false := by simp [k1]
          have b2 : (s.num != t.num) = true := by simp [k2]
          have HR : Hid (ER = false) := HNo.out HZ
          clear k1 HZ k2
          go_wp2_with (fail)
          go_ret
          exact ⟨ret_bool HR.out.symm, below_step hb (HW.out _ _)⟩
        · have b1 : (s.kind != t.kind) = false := by simp [k1]
          have b2 : (s.num != t.num) = false := by simp [k2]
          have HR : Hid (ER = false) := HNo.out HZ
          clear k1 HZ k2
          go_wp2_with ((go_at_call 75; refine (HE0.out _ (HW.out _ _)).mono ?_; rintro e w1 ⟨rfl, hb1⟩; obtain ⟨m3, n3'⟩ := two_box hb1 3 rfl rfl))
          go_ret
          exact ⟨ret_bool HR.out.symm, below_step hb (below_step (HW.out _ _) hb1)⟩
        · have b1 : (s.kind != t.kind) = false := by simp [k1]
          have b2 : (s.num != t.num) = false := by simp [k2]
          have HR : Hid (ER = false) := HNo.out HZ
          clear k1 HZ k2
          go_wp2_with (first | (go_at_call 75; refine (HF0.out _ (below_step (HW.out _ _) hb1)).mono ?_; rintro e w2 ⟨rfl, hb2⟩; obtain ⟨m4, n4'⟩ := two_box (below_step hb1 hb2) 4 rfl rfl) | (go_at_call 75; refine (HE0.out _ (HW.out _ _)).mono ?_; rintro e w1 ⟨rfl, hb1⟩; obtain ⟨m3, n3'⟩ := two_box hb1 3 rfl rfl))
          go_ret
          exact ⟨ret_bool HR.out.symm, below_step hb (below_step (HW.out _ _) (below_step hb1 hb2))⟩
        · have b1 : (s.kind != t.kind) = false := by simp [k1]
          have b2 : (s.num != t.num) = false := by simp [k2]
          have HR : Hid (ER = false) := HNo.out HZ
          clear k1 HZ k2
          go_wp2_with (first | (go_at_call 40; refine (HA0.out _ (below_step (HW.out _ _) (below_step hb1 hb2))).mono ?_; rintro e w3 ⟨rfl, hb3⟩; obtain ⟨m5, n5'⟩ := two_box (below_step (below_step hb1 hb2) hb3) 5 rfl rfl) | (go_at_call 75; refine (HF0.out _ (below_step (HW.out _ _) hb1)).mono ?_; rintro e w2 ⟨rfl, hb2⟩; obtain ⟨m4, n4'⟩ := two_box (below_step hb1 hb2) 4 rfl rfl) | (go_at_call 75; refine (HE0.out _ (HW.out _ _)).mono ?_; rintro e w1 ⟨rfl, hb1⟩; obtain ⟨m3, n3'⟩ := two_box hb1 3 rfl rfl))
          go_ret
          exact ⟨ret_bool HR.out.symm, below_step hb (below_step (HW.out _ _) (below_step (below_step hb1 hb2) hb3))⟩
        · have b1 : (s.kind != t.kind) = false := by simp [k1]
          have b2 : (s.num != t.num) = false := by simp [k2]
          have HR : Hid (ER = false) := HNo.out HZ
          clear k1 HZ k2
          go_wp2_with (first | (go_at_call 40; refine (HB0.out _ (below_step (HW.out _ _) (below_step (below_step hb1 hb2) hb3))).mono ?_; rintro e w4 ⟨rfl, hb4⟩) | (go_at_call 40; refine (HA0.out _ (below_step (HW.out _ _) (below_step hb1 hb2))).mono ?_; rintro e w3 ⟨rfl, hb3⟩; obtain ⟨m5, n5'⟩ := two_box (below_step (below_step hb1 hb2) hb3) 5 rfl rfl) | (go_at_call 75; refine (HF0.out _ (below_step (HW.out _ _) hb1)).mono ?_; rintro e w2 ⟨rfl, hb2⟩; obtain ⟨m4, n4'⟩ := two_box (below_step hb1 hb2) 4 rfl rfl) | (go_at_call 75; refine (HE0.out _ (HW.out _ _)).mono ?_; rintro e w1 ⟨rfl, hb1⟩; obtain ⟨m3, n3'⟩ := two_box hb1 3 rfl rfl))
          go_ret
          exact ⟨ret_bool HR.out.symm, below_step hb (below_step (HW.out _ _) (below_step (below_step (below_step hb1 hb2) hb3) hb4))⟩
        · have b1 : (s.kind != t.kind) = false := by simp [k1]
          have b2 : (s.num != t.num) = false := by simp [k2]
          have HR : Hid (∀ x, x < j + 1 → eqI (eqS d) T U x = true) := HYes.out HZ
          clear k1 HZ k2
          go_wp2_with (first | (go_at_call 40; refine (HB0.out _ (below_step (HW.out _ _) (below_step (below_step hb1 hb2) hb3))).mono ?_; rintro e w4 ⟨rfl, hb4⟩) | (go_at_call 40; refine (HA0.out _ (below_step (HW.out _ _) (below_step hb1 hb2))).mono ?_; rintro e w3 ⟨rfl, hb3⟩; obtain ⟨m5, n5'⟩ := two_box (below_step (below_step hb1 hb2) hb3) 5 rfl rfl) | (go_at_call 75; refine (HF0.out _ (below_step (HW.out _ _) hb1)).mono ?_; rintro e w2 ⟨rfl, hb2⟩; obtain ⟨m4, n4'⟩ := two_box (below_step hb1 hb2) 4 rfl rfl) | (go_at_call 75; refine (HE0.out _ (HW.out _ _)).mono ?_; rintro e w1 ⟨rfl, hb1⟩; obtain ⟨m3, n3'⟩ := two_box hb1 3 rfl rfl))
          go_roundw
          case rel => exact ⟨j + 1, by omega, by go_num, below_step hb (below_step (HW.out _ _) (below_step (below_step (below_step hb1 hb2) hb3) hb4)), HR.out⟩
          case measure => simp [intOf]; omega
      · obtain rfl : j = T.len := by omega
        have HR : Hid (ER = true) := HA.out.trans (allTo_iff.2 hall.out)
        go_wp2_with fail
        go_ret
        exact ⟨ret_bool HR.out.symm, hb⟩

end Go.Proofs.YtfblnmbcaglliabGreatDoor
