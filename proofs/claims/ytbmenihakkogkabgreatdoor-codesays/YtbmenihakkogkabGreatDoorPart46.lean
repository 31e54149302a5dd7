import Derived.Test.YtbmenihakkogkabGreatDoorPart15
import Derived.Test.YtbmenihakkogkabGreatDoorPart45
import Derived.Test.YtbmenihakkogkabGreatDoorCodeCheck
import Derived.Test.YtbmenihakkogkabGreatDoorPart2
namespace Go.Proofs.YtbmenihakkogkabGreatDoor
open Go.RowKit Go.Maps
theorem counts_par : rdP (wordsOf (bs countsL)) 1 = 2 := by decide +kernel
def MadeP (w w' : World) (v : Value) : Prop := Below w.heap.size w w' ∧ ∃ (P : Nat → Pc) (b o c : Nat), v = .slice (some ⟨b, o, none⟩) 2 c ∧ b < w'.heap.size ∧ ProcsAt w'.heap.size w' v 2 P ∧ codeErr 2 P = 0 ∧ w'.cell? ⟨b, o + 3, none⟩ = some (.int .i64 2)
theorem made_comp (s : Wd) (he : rdErr 60 s = 0) (hn : rdN (wordsOf s) = 2) (hp : rdP (wordsOf s) 1 = 2) (w : World) (v : Value) (h : Parsed 60 s w v) : Calls Tryz.prog 14 #[v] w fun e w' => ∃ a n c, e = .returned (.tuple #[.slice a n c, .int .i64 0]) ∧ Hid (MadeP w w' (.slice a n c)) := by
  obtain ⟨bv, hf, hs⟩ := h
  unfold rdErr at he
  refine (compile w.heap.size v _ _ _ bv 60 _ w (Nat.le_refl _) hf hs).mono fun e w' hq => ?_
  obtain ⟨a, n, c, he2, h1, _, h3⟩ := hq
  rw [he] at he2
  obtain ⟨rfl, hb, P, p1, p2, p3, p4⟩ := h3.out he
  rw [hn] at p1 p2 p4 he2
  refine ⟨a, 2, c, he2, hb, ?_⟩
  obtain ⟨a', c', e1, _, h0 | ⟨b, o, rfl, hlt, hc⟩⟩ := p1
  · omega
  · obtain ⟨vc, c0, _⟩ := hc 1 (by omega)
    rw [p4 1 (by omega), hp] at c0
    injection e1 with e1 _ e3
    subst e1 e3
    exact ⟨P, b, o, c, rfl, hlt, ⟨_, c, rfl, by omega, Or.inr ⟨b, o, rfl, hlt, hc⟩⟩, p2, c0⟩
set_option maxRecDepth 20000 in
set_option maxHeartbeats 400000 in
theorem made (N : Nat) (w : World) (hN : N ≤ w.heap.size) (he : Env N w) : Calls Tryz.prog 15 #[] w fun e w' => e = .returned (.bool true) ∧ Below w.heap.size w w' := by
  have hG : rdGood 60 (bs countsL) := ⟨counts_err, counts_text⟩
  have hsz : (bs countsL).size ≤ 60000 := by rw [bs_size]; decide
  have hD := counts_D
  have hn := counts_n
  have hpp := counts_par
  have hlit := counts_lit
  generalize bs countsL = s at *
  have HP : Hid (Calls Tryz.prog 8 #[.string ⟨([102, 117, 110, 32, 48, 32, 49, 32, 123, 32, 115, 101, 116, 32, 48, 32, 51, 32, 119, 104, 105, 108, 101, 32, 118, 48, 32, 123, 32, 115, 97, 121, 32, 102, 49, 32, 118, 48, 32, 118, 48, 32, 103, 111, 32, 118, 48, 32].append [112, 97, 117, 115, 101, 32, 115, 101, 116, 32, 48, 32, 45, 32, 118, 48, 32, 49, 32, 125, 32, 125, 32, 102, 117, 110, 32, 50, 32, 50, 32, 123, 32, 114, 101, 116, 117, 114, 110, 32, 42, 32, 118, 48, 32, 118, 49, 32, 125]).toArray⟩] w fun e w' => ∃ v, e = .returned (.tuple #[v, .int .i64 0]) ∧ Hid (Parsed 60 s w' v) ∧ Below w.heap.size w w') := by
    rw [← hlit]
    exact parse_good N 60 s hsz hD hG w hN he
  have HCo : Hid (∀ w1 v, Parsed 60 s w1 v → Calls Tryz.prog 14 #[v] w1 fun e w' => ∃ a n c, e = .returned (.tuple #[.slice a n c, .int .i64 0]) ∧ Hid (MadeP w1 w' (.slice a n c))) := fun w1 v hp => made_comp s hG.1 hn hpp w1 v hp
  have HCk : Hid (∀ (w1 : World) (P : Nat → Pc) v, ProcsAt w1.heap.size w1 v 2 P → codeErr 2 P = 0 → Calls Tryz.prog 16 #[v] w1 fun e w' => e = .returned (.int .i64 0) ∧ Below w1.heap.size w1 w') := fun w1 P v hp h0 => (by have := codeCheck w1.heap.size v 2 P w1 (Nat.le_refl _) hp; rw [h0] at this; exact this)
  have HC0 : Hid (∀ w1 : World, Calls Tryz.prog 16 #[.slice none 0 0] w1 fun e w' => e = .returned (.int .i64 2) ∧ Below w1.heap.size w1 w') := fun w1 => codeCheck w1.heap.size _ 0 (fun _ => ⟨0, 0, 0, fun _ => ⟨0, 0, 0, 0, 0, fun _ => 0⟩⟩) w1 (Nat.le_refl _) ⟨none, 0, rfl, by omega, Or.inl rfl⟩
  clear he hG hsz hD hn hpp hlit
  go_enter Tryz.func15, Tryz.ntmps15
  go_upto_region 3 with (first
    | (go_at_call 8; refine HP.out.mono ?_; rintro e w1 ⟨v, rfl, P1, b1⟩)
    | (go_at_call 14; refine (HCo.out w1 v P1.out).mono ?_; rintro e w2 ⟨a, n, c, rfl, M2⟩))
  obtain ⟨b2, P, b, o, cc, hv, hbl, hpr, hce, hcl⟩ := M2.out
  injection hv with hv1 hv2 hv3
  subst hv1 hv2 hv3
  have HK2 := HCk.out w2 P _ hpr hce
  have HK2 : Hid (Calls Tryz.prog 16 #[.slice (some ⟨b, o, none⟩) 2 c] w2 fun e w' => e = .returned (.int .i64 0) ∧ Below w2.heap.size w2 w') := HK2
  have HCell : Hid (∀ w3, Below w2.heap.size w2 w3 → w3.cell? ⟨b, o + 3, none⟩ = some (.int .i64 2)) := fun w3 hb => (by rw [hb.cell (p := ⟨b, o + 3, none⟩) hbl]; exact hcl)
  have B12 : Below w.heap.size w w2 := b1.trans (b2.mono b1.size)
  clear hpr hce hcl b2
  go_wp2_with (first
    | (go_at_call 16; refine (HC0.out w3).mono ?_; rintro e w4 ⟨rfl, b4⟩)
    | (go_at_call 16; refine HK2.out.mono ?_; rintro e w3 ⟨rfl, b3⟩; have k3 := HCell.out w3 b3))
  go_ret
  exact ⟨rfl, (B12.trans (b3.mono B12.size)).trans (b4.mono (Nat.le_trans B12.size b3.size))⟩
end Go.Proofs.YtbmenihakkogkabGreatDoor
namespace Go.Proofs.YtbmenihakkogkabGreatDoor
open Go.RowKit
def eqInB (a b : In) : Bool := decide (a.op = b.op) && (decide (a.a = b.a) && (decide (a.b = b.b) && (decide (a.c = b.c) && eqB a.n b.n a.z b.z)))
def eqCodeB (n m : Nat) (f g : Nat → In) : Bool := decide (n = m ∧ ∀ k, k < n → eqInB (f k) (g k) = true)
def eqPcB (p q : Pc) : Bool := decide (p.params = q.params) && (decide (p.regs = q.regs) && eqCodeB p.n q.n p.ins q.ins)
def eqCB (n m : Nat) (P Q : Nat → Pc) : Bool := decide (n = m ∧ ∀ k, k < n → eqPcB (P k) (Q k) = true)
theorem eqCodeB_yes {n : Nat} {f g : Nat → In} (h : ∀ k, k < n → eqInB (f k) (g k) = true) : eqCodeB n n f g = true := by unfold eqCodeB; exact decide_eq_true ⟨rfl, h⟩
theorem eqCodeB_no {n m : Nat} {f g : Nat → In} {k : Nat} (hk : k < n) (h : eqInB (f k) (g k) = false) : eqCodeB n m f g = false := by
  unfold eqCodeB; rw [decide_eq_false_iff_not]; rintro ⟨_, hh⟩; have := hh k hk; rw [h] at this; cases this
theorem eqCodeB_len {n m : Nat} {f g : Nat → In} (h : ¬ n = m) : eqCodeB n m f g = false := by unfold eqCodeB; rw [decide_eq_false_iff_not]; rintro ⟨hh, _⟩; exact h hh
theorem eqCB_yes {n : Nat} {f g : Nat → Pc} (h : ∀ k, k < n → eqPcB (f k) (g k) = true) : eqCB n n f g = true := by unfold eqCB; exact decide_eq_true ⟨rfl, h⟩
theorem eqCB_no {n m : Nat} {f g : Nat → Pc} {k : Nat} (hk : k < n) (h : eqPcB (f k) (g k) = false) : eqCB n m f g = false := by
  unfold eqCB; rw [decide_eq_false_iff_not]; rintro ⟨_, hh⟩; have := hh k hk; rw [h] at this; cases this
theorem eqCB_len {n m : Nat} {f g : Nat → Pc} (h : ¬ n = m) : eqCB n m f g = false := by unfold eqCB; rw [decide_eq_false_iff_not]; rintro ⟨hh, _⟩; exact h hh
set_option maxHeartbeats 400000 in
theorem eqNums (N : Nat) (v1 v2 : Value) (n1 n2 : Nat) (z1 z2 : Nat → Int) (w : World) (h1 : NumsAt N w v1 n1 z1) (h2 : NumsAt N w v2 n2 z2) :
    Calls Tryz.prog 36 #[v1, v2] w fun e w' => e = .returned (.bool (eqB n1 n2 z1 z2)) ∧ Below w.heap.size w w' := by
  obtain ⟨a1, c1, rfl, b1, h1⟩ := h1
  obtain ⟨a2, c2, rfl, b2, h2⟩ := h2
  by_cases hn : n1 = n2
  · subst hn
    have ht : ((n1 : Int) != (n1 : Int)) = false := by simp
    go_enter Tryz.func36, Tryz.ntmps36
    go_wp2
    go_loopw [13] (fun i wr => ∃ k m : Nat, k ≤ n1 ∧ i = .int .i64 k ∧ wr = w.drewN m ∧ Hid (∀ j, j < k → z1 j = z2 j)) (fun i _ => n1 - (intOf i).toNat)
    case atStart => exact ⟨0, 0, Nat.zero_le _, rfl, rfl, fun j hj => absurd hj (Nat.not_lt_zero _)⟩
    case round =>
      obtain ⟨k, m, hk, rfl, rfl, hall⟩ := hrel
      by_cases hlt : k < n1
      · rcases h1 with h1 | ⟨p1, o1, rfl, l1, g1⟩
        · omega
        rcases h2 with h2 | ⟨p2, o2, rfl, l2, g2⟩
        · omega
        have q1 := g1 k hlt
        have q2 := g2 k hlt
        clear g1 g2
        by_cases he : z1 k = z2 k
        · have HE : Hid (z1 k = z2 k) := he
          have het : (z1 k != z2 k) = false := by simp [he]
          clear he
          go_wp2
          go_quiet (fail)
          go_wp2
          go_roundw
          case rel => exact ⟨k + 1, m + nq, by omega, by go_num, by simp, upTo hall.out HE.out⟩
          case measure => simp [intOf]; omega
        · have HE : Hid (eqB n1 n1 z1 z2 = false) := eqB_no hlt he
          have het : (z1 k != z2 k) = true := by simp [he]
          clear he
          go_wp2
          go_quiet (fail)
          go_wp2
          go_ret
          exact ⟨ret_bool HE.out.symm, by simpa using below_drewN' w (m + nq)⟩
      · go_wp2
        go_ret
        obtain rfl : k = n1 := by omega
        exact ⟨ret_bool (eqB_yes hall.out).symm, below_drewN' _ _⟩
  · have ht : ((n1 : Int) != (n2 : Int)) = true := by simp; omega
    have HN : Hid (eqB n1 n2 z1 z2 = false) := eqB_len hn
    clear hn
    go_enter Tryz.func36, Tryz.ntmps36
    go_wp2
    go_ret
    exact ⟨ret_bool HN.out.symm, Below.refl _ _⟩
set_option maxHeartbeats 2000000 in
theorem sameIns (N : Nat) (i j : In) (v1 v2 : Value) (w : World) (hN : N ≤ w.heap.size) (h1 : NumsAt N w v1 i.n i.z) (h2 : NumsAt N w v2 j.n j.z) :
    Calls Tryz.prog 125 #[.agg #[.int .i64 i.op, .int .i64 i.a, .int .i64 i.b, .int .i64 i.c, v1], .agg #[.int .i64 j.op, .int .i64 j.a, .int .i64 j.b, .int .i64 j.c, v2]] w fun e w' => e = .returned (.bool (eqInB i j)) ∧ Below w.heap.size w w' := by
  obtain ⟨a1, c1, rfl, _⟩ := h1.shape
  obtain ⟨a2, c2, rfl, _⟩ := h2.shape
  have HW : Hid (∀ o1 o2 : Obj, Below w.heap.size w ((w.alloc o1).alloc o2)) := fun o1 o2 => bst (bal _ _) (bal _ _)
  have HC : Hid (∀ wk, Below w.heap.size w wk → Calls Tryz.prog 36 #[.slice a1 i.n c1, .slice a2 j.n c2] wk fun e w' => e = .returned (.bool (eqB i.n j.n i.z j.z)) ∧ Below wk.heap.size wk w') := fun wk hk =>
    eqNums N _ _ _ _ _ _ wk (h1.below (hk.mono hN)) (h2.below (hk.mono hN))
  clear h1 h2
  by_cases k0 : i.op = j.op
  · by_cases k1 : i.a = j.a
    · by_cases k2 : i.b = j.b
      · by_cases k3 : i.c = j.c
        · have HE : Hid (eqInB i j = eqB i.n j.n i.z j.z) := by show _ = _; unfold eqInB; simp [k0, k1, k2, k3]
          have b0 : (i.op == j.op) = true := by simp [k0]
          have b1 : (i.a == j.a) = true := by simp [k1]
          have b2 : (i.b == j.b) = true := by simp [k2]
          have b3 : (i.c == j.c) = true := by simp [k3]
          clear k0 k1 k2 k3
          go_enter Tryz.func125, Tryz.ntmps125
          go_wp2_with (go_at_call 36; refine (HC.out _ (HW.out _ _)).mono ?_; rintro e w1 ⟨rfl, hb1⟩)
          go_ret
          exact ⟨ret_bool HE.out.symm, bst (HW.out _ _) hb1⟩
        · have HE : Hid (eqInB i j = false) := by show _ = _; unfold eqInB; simp [k3]
          have b0 : (i.op == j.op) = true := by simp [k0]
          have b1 : (i.a == j.a) = true := by simp [k1]
          have b2 : (i.b == j.b) = true := by simp [k2]
          have b3 : (i.c == j.c) = false := by simp [k3]
          clear HC k0 k1 k2 k3
          go_enter Tryz.func125, Tryz.ntmps125
          go_wp2_with fail
          go_ret
          exact ⟨ret_bool HE.out.symm, HW.out _ _⟩
      · have HE : Hid (eqInB i j = false) := by show _ = _; unfold eqInB; simp [k2]
        have b0 : (i.op == j.op) = true := by simp [k0]
        have b1 : (i.a == j.a) = true := by simp [k1]
        have b2 : (i.b == j.b) = false := by simp [k2]
        clear HC k0 k1 k2
        go_enter Tryz.func125, Tryz.ntmps125
        go_wp2_with fail
        go_ret
        exact ⟨ret_bool HE.out.symm, HW.out _ _⟩
    · have HE : Hid (eqInB i j = false) := by show _ = _; unfold eqInB; simp [k1]
      have b0 : (i.op == j.op) = true := by simp [k0]
      have b1 : (i.a == j.a) = false := by simp [k1]
      clear HC k0 k1
      go_enter Tryz.func125, Tryz.ntmps125
      go_wp2_with fail
      go_ret
      exact ⟨ret_bool HE.out.symm, HW.out _ _⟩
  · have HE : Hid (eqInB i j = false) := by show _ = _; unfold eqInB; simp [k0]
    have b0 : (i.op == j.op) = false := by simp [k0]
    clear HC k0
    go_enter Tryz.func125, Tryz.ntmps125
    go_wp2_with fail
    go_ret
    exact ⟨ret_bool HE.out.symm, HW.out _ _⟩
set_option maxHeartbeats 2000000 in
theorem sameCode (N : Nat) (v1 v2 : Value) (n1 n2 : Nat) (f g : Nat → In) (w : World) (hN : N ≤ w.heap.size) (hf : CodeAt N w v1 n1 f) (hg : CodeAt N w v2 n2 g) :
    Calls Tryz.prog 68 #[v1, v2, .func (.func 125) #[] #[]] w fun e w' => e = .returned (.bool (eqCodeB n1 n2 f g)) ∧ Below w.heap.size w w' := by
  obtain ⟨a1, c1, rfl, hn1, hf⟩ := hf
  obtain ⟨a2, c2, rfl, hn2, hg⟩ := hg
  by_cases hn : n1 = n2
  · subst hn
    have ht : ((n1 : Int) != (n1 : Int)) = false := by simp
    go_enter Tryz.func68, Tryz.ntmps68
    go_wp2_with fail
    go_loopw [17] (fun i wr => ∃ j : Nat, j ≤ n1 ∧ i = .int .i64 j ∧ Below w.heap.size w wr ∧ Hid (∀ x, x < j → eqInB (f x) (g x) = true)) (fun i _ => n1 - (intOf i).toNat)
    case atStart => exact ⟨0, Nat.zero_le _, rfl, Below.refl _ _, fun j hj => absurd hj (Nat.not_lt_zero _)⟩
    case round =>
      obtain ⟨j, hj, rfl, hb, hall⟩ := hrel
      by_cases hlt : j < n1
      · rcases hf with hf | ⟨q1, o1, rfl, r1, g1⟩
        · omega
        rcases hg with hg | ⟨q2, o2, rfl, r2, g2⟩
        · omega
        obtain ⟨va, x0, x1, x2, x3, x4, s1⟩ := g1 j hlt
        obtain ⟨vb, y0, y1, y2, y3, y4, s2⟩ := g2 j hlt
        have q1' : q1 < w.heap.size := by omega
        have q2' : q2 < w.heap.size := by omega
        rw [← hb.cell q1'] at x0 x1 x2 x3 x4
        rw [← hb.cell q2'] at y0 y1 y2 y3 y4
        have q2w : q2 < wr.heap.size := Nat.lt_of_lt_of_le q2' hb.size
        have hNr : N ≤ wr.heap.size := Nat.le_trans hN hb.size
        have s1 := s1.below (hb.mono hN)
        have s2 := s2.below (hb.mono hN)
        obtain ⟨z1, d1, rfl, _⟩ := s1.shape
        obtain ⟨z2, d2, rfl, _⟩ := s2.shape
        clear g1 g2
        have HW : Hid (∀ o1 o2 : Obj, Below wr.heap.size wr ((wr.alloc o1).alloc o2)) := fun o1 o2 => bst (bal _ _) (bal _ _)
        have HC : Hid (∀ wk, Below wr.heap.size wr wk → Calls Tryz.prog 125 #[.agg #[.int .i64 (f j).op, .int .i64 (f j).a, .int .i64 (f j).b, .int .i64 (f j).c, .slice z1 (f j).n d1], .agg #[.int .i64 (g j).op, .int .i64 (g j).a, .int .i64 (g j).b, .int .i64 (g j).c, .slice z2 (g j).n d2]] wk fun e w' => e = .returned (.bool (eqInB (f j) (g j))) ∧ Below wk.heap.size wk w') := fun wk hk =>
          sameIns N (f j) (g j) _ _ wk (Nat.le_trans hNr hk.size) (s1.below (hk.mono hNr)) (s2.below (hk.mono hNr))
        clear s1 s2
        cases he : eqInB (f j) (g j) with
        | true =>
          rw [he] at HC
          have HE : Hid (eqInB (f j) (g j) = true) := he
          clear he
          go_wp2_with (go_at_call 125; refine (HC.out _ (HW.out _ _)).mono ?_; rintro e w1 ⟨rfl, hb1⟩)
          go_roundw
          case rel => exact ⟨j + 1, by omega, by go_num, bst hb (bst (HW.out _ _) hb1), upTo hall.out HE.out⟩
          case measure => simp [intOf]; omega
        | false =>
          rw [he] at HC
          have HE : Hid (eqCodeB n1 n1 f g = false) := eqCodeB_no hlt he
          clear he
          go_wp2_with (go_at_call 125; refine (HC.out _ (HW.out _ _)).mono ?_; rintro e w1 ⟨rfl, hb1⟩)
          go_ret
          exact ⟨ret_bool HE.out.symm, bst hb (bst (HW.out _ _) hb1)⟩
      · obtain rfl : j = n1 := by omega
        go_wp2_with fail
        go_ret
        exact ⟨ret_bool (eqCodeB_yes hall.out).symm, hb⟩
  · have ht : ((n1 : Int) != (n2 : Int)) = true := by simp; omega
    have HN : Hid (eqCodeB n1 n2 f g = false) := eqCodeB_len hn
    clear hn
    go_enter Tryz.func68, Tryz.ntmps68
    go_wp2_with fail
    go_ret
    exact ⟨ret_bool HN.out.symm, Below.refl _ _⟩
set_option maxHeartbeats 1000000 in
theorem sameProc (N : Nat) (p q : Pc) (v1 v2 : Value) (w : World) (hN : N ≤ w.heap.size) (h1 : CodeAt N w v1 p.n p.ins) (h2 : CodeAt N w v2 q.n q.ins) :
    Calls Tryz.prog 66 #[.agg #[.int .i64 p.params, .int .i64 p.regs, v1], .agg #[.int .i64 q.params, .int .i64 q.regs, v2]] w fun e w' => e = .returned (.bool (eqPcB p q)) ∧ Below w.heap.size w w' := by
  have HC0 : Hid (∀ wk, Below w.heap.size w wk → Calls Tryz.prog 68 #[v1, v2, .func (.func 125) #[] #[]] wk fun e w' => e = .returned (.bool (eqCodeB p.n q.n p.ins q.ins)) ∧ Below wk.heap.size wk w') := fun wk hk =>
    sameCode N _ _ _ _ _ _ wk (Nat.le_trans hN hk.size) (h1.below (hk.mono hN)) (h2.below (hk.mono hN))
  obtain ⟨a1, c1, rfl, _⟩ := h1
  obtain ⟨a2, c2, rfl, _⟩ := h2
  have HC := HC0
  have HW : Hid (∀ o1 o2 : Obj, Below w.heap.size w ((w.alloc o1).alloc o2)) := fun o1 o2 => bst (bal _ _) (bal _ _)
  by_cases k1 : p.params = q.params
  · by_cases k2 : p.regs = q.regs
    · have HE : Hid (eqPcB p q = eqCodeB p.n q.n p.ins q.ins) := by show _ = _; unfold eqPcB; simp [k1, k2]
      have b1 : (p.params == q.params) = true := by simp [k1]
      have b2 : (p.regs == q.regs) = true := by simp [k2]
      clear k1 k2 HC0
      go_enter Tryz.func66, Tryz.ntmps66
      go_wp2_with (go_at_call 68; refine (HC.out _ (HW.out _ _)).mono ?_; rintro e w1 ⟨rfl, hb1⟩)
      go_ret
      exact ⟨ret_bool HE.out.symm, bst (HW.out _ _) hb1⟩
    · have HE : Hid (eqPcB p q = false) := by show _ = _; unfold eqPcB; simp [k2]
      have b1 : (p.params == q.params) = true := by simp [k1]
      have b2 : (p.regs == q.regs) = false := by simp [k2]
      clear k1 k2 HC0 HC
      go_enter Tryz.func66, Tryz.ntmps66
      go_wp2_with fail
      go_ret
      exact ⟨ret_bool HE.out.symm, HW.out _ _⟩
  · have HE : Hid (eqPcB p q = false) := by show _ = _; unfold eqPcB; simp [k1]
    have b1 : (p.params == q.params) = false := by simp [k1]
    clear k1 HC0 HC
    go_enter Tryz.func66, Tryz.ntmps66
    go_wp2_with fail
    go_ret
    exact ⟨ret_bool HE.out.symm, HW.out _ _⟩
set_option maxHeartbeats 2000000 in
theorem sameProcs (N : Nat) (v1 v2 : Value) (n1 n2 : Nat) (f g : Nat → Pc) (w : World) (hN : N ≤ w.heap.size) (hf : ProcsAt N w v1 n1 f) (hg : ProcsAt N w v2 n2 g) :
    Calls Tryz.prog 65 #[v1, v2, .func (.func 66) #[] #[]] w fun e w' => e = .returned (.bool (eqCB n1 n2 f g)) ∧ Below w.heap.size w w' := by
  obtain ⟨a1, c1, rfl, hn1, hf⟩ := hf
  obtain ⟨a2, c2, rfl, hn2, hg⟩ := hg
  by_cases hn : n1 = n2
  · subst hn
    have ht : ((n1 : Int) != (n1 : Int)) = false := by simp
    go_enter Tryz.func65, Tryz.ntmps65
    go_wp2_with fail
    go_loopw [17] (fun i wr => ∃ j : Nat, j ≤ n1 ∧ i = .int .i64 j ∧ Below w.heap.size w wr ∧ Hid (∀ x, x < j → eqPcB (f x) (g x) = true)) (fun i _ => n1 - (intOf i).toNat)
    case atStart => exact ⟨0, Nat.zero_le _, rfl, Below.refl _ _, fun j hj => absurd hj (Nat.not_lt_zero _)⟩
    case round =>
      obtain ⟨j, hj, rfl, hb, hall⟩ := hrel
      by_cases hlt : j < n1
      · rcases hf with hf | ⟨q1, o1, rfl, r1, g1⟩
        · omega
        rcases hg with hg | ⟨q2, o2, rfl, r2, g2⟩
        · omega
        obtain ⟨va, x0, x1, x2, s1⟩ := g1 j hlt
        obtain ⟨vb, y0, y1, y2, s2⟩ := g2 j hlt
        have q1' : q1 < w.heap.size := by omega
        have q2' : q2 < w.heap.size := by omega
        rw [← hb.cell q1'] at x0 x1 x2
        rw [← hb.cell q2'] at y0 y1 y2
        have q2w : q2 < wr.heap.size := Nat.lt_of_lt_of_le q2' hb.size
        have hNr : N ≤ wr.heap.size := Nat.le_trans hN hb.size
        have s1 := s1.below (hb.mono hN)
        have s2 := s2.below (hb.mono hN)
        clear g1 g2
        have HW : Hid (∀ o1 o2 : Obj, Below wr.heap.size wr ((wr.alloc o1).alloc o2)) := fun o1 o2 => bst (bal _ _) (bal _ _)
        have HC : Hid (∀ wk, Below wr.heap.size wr wk → Calls Tryz.prog 66 #[.agg #[.int .i64 (f j).params, .int .i64 (f j).regs, va], .agg #[.int .i64 (g j).params, .int .i64 (g j).regs, vb]] wk fun e w' => e = .returned (.bool (eqPcB (f j) (g j))) ∧ Below wk.heap.size wk w') := fun wk hk =>
          sameProc N (f j) (g j) _ _ wk (Nat.le_trans hNr hk.size) (s1.below (hk.mono hNr)) (s2.below (hk.mono hNr))
        obtain ⟨z1, d1, rfl, _⟩ := s1
        obtain ⟨z2, d2, rfl, _⟩ := s2
        cases he : eqPcB (f j) (g j) with
        | true =>
          rw [he] at HC
          have HE : Hid (eqPcB (f j) (g j) = true) := he
          clear he
          go_wp2_with (go_at_call 66; refine (HC.out _ (HW.out _ _)).mono ?_; rintro e w1 ⟨rfl, hb1⟩)
          go_roundw
          case rel => exact ⟨j + 1, by omega, by go_num, bst hb (bst (HW.out _ _) hb1), upTo hall.out HE.out⟩
          case measure => simp [intOf]; omega
        | false =>
          rw [he] at HC
          have HE : Hid (eqCB n1 n1 f g = false) := eqCB_no hlt he
          clear he
          go_wp2_with (go_at_call 66; refine (HC.out _ (HW.out _ _)).mono ?_; rintro e w1 ⟨rfl, hb1⟩)
          go_ret
          exact ⟨ret_bool HE.out.symm, bst hb (bst (HW.out _ _) hb1)⟩
      · obtain rfl : j = n1 := by omega
        go_wp2_with fail
        go_ret
        exact ⟨ret_bool (eqCB_yes hall.out).symm, hb⟩
  · have ht : ((n1 : Int) != (n2 : Int)) = true := by simp; omega
    have HN : Hid (eqCB n1 n2 f g = false) := eqCB_len hn
    clear hn
    go_enter Tryz.func65, Tryz.ntmps65
    go_wp2_with fail
    go_ret
    exact ⟨ret_bool HN.out.symm, Below.refl _ _⟩
theorem codeSame (N : Nat) (v1 v2 : Value) (n1 n2 : Nat) (f g : Nat → Pc) (w : World) (hN : N ≤ w.heap.size) (hf : ProcsAt N w v1 n1 f) (hg : ProcsAt N w v2 n2 g) :
    Calls Tryz.prog 18 #[v1, v2] w fun e w' => e = .returned (.bool (eqCB n1 n2 f g)) ∧ Below w.heap.size w w' := by
  go_enter Tryz.func18, Tryz.ntmps18
  go_wp2_with (go_at_call 65; refine (sameProcs N v1 v2 n1 n2 f g _ hN hf hg).mono ?_; rintro e w1 ⟨rfl, hb1⟩)
  go_ret
  exact ⟨rfl, hb1⟩
end Go.Proofs.YtbmenihakkogkabGreatDoor
