import Derived.Test.YtbmenihakkogkabGreatDoorPart46
import Derived.Test.YtbmenihakkogkabGreatDoorPart2
namespace Go.Proofs.YtbmenihakkogkabGreatDoor
open Go.RowKit
set_option maxHeartbeats 2000000 in
theorem sameInsR (N : Nat) (i j : In) (v1 v2 : Value) (w : World) (hN : N ≤ w.heap.size) (h1 : NumsAt N w v1 i.n i.z) (h2 : NumsAt N w v2 j.n j.z) :
    Calls Tryz.prog 69 #[.agg #[.int .i64 i.op, .int .i64 i.a, .int .i64 i.b, .int .i64 i.c, v1], .agg #[.int .i64 j.op, .int .i64 j.a, .int .i64 j.b, .int .i64 j.c, v2]] w fun e w' => e = .returned (.bool (eqInB i j)) ∧ Below w.heap.size w w' := by
  obtain ⟨a1, c1, rfl, _⟩ := h1.shape
  obtain ⟨a2, c2, rfl, _⟩ := h2.shape
  have HW : Hid (∀ o1 o2 : Obj, Below w.heap.size w ((w.alloc o1).alloc o2)) := fun o1 o2 => bst (bal _ _) (bal _ _)
  have HC : Hid (∀ wk, Below w.heap.size w wk → Calls Tryz.prog 36 #[.slice a1 i.n c1, .slice a2 j.n c2] wk fun e w' => e = .returned (.bool (eqB i.n j.n i.z j.z)) ∧ Below wk.heap.size wk w') := fun wk hk =>
    eqNums N _ _ _ _ _ _ wk (h1.below (hk.mono hN)) (h2.below (hk.mono hN))
  clear h1 h2
  by_cases k0 : i.op = j.op
  · by_cases k1 : i.a = j.a
    · by_cases k2 : i.b = j.b
      · by_cases k3 : i.c = j.c
        · have HE : Hid (eqInB i j = eqB i.n j.n i.z j.z) := by show _ = _; unfold eqInB; simp [k0, k1, k2, k3]
          have b0 : (i.op == j.op) = true := by simp [k0]
          have b1 : (i.a == j.a) = true := by simp [k1]
          have b2 : (i.b == j.b) = true := by simp [k2]
          have b3 : (i.c == j.c) = true := by simp [k3]
          clear k0 k1 k2 k3
          go_enter Tryz.func69, Tryz.ntmps69
          go_wp2_with (go_at_call 36; refine (HC.out _ (HW.out _ _)).mono ?_; rintro e w1 ⟨rfl, hb1⟩)
          go_ret
          exact ⟨ret_bool HE.out.symm, bst (HW.out _ _) hb1⟩
        · have HE : Hid (eqInB i j = false) := by show _ = _; unfold eqInB; simp [k3]
          have b0 : (i.op == j.op) = true := by simp [k0]
          have b1 : (i.a == j.a) = true := by simp [k1]
          have b2 : (i.b == j.b) = true := by simp [k2]
          have b3 : (i.c == j.c) = false := by simp [k3]
          clear HC k0 k1 k2 k3
          go_enter Tryz.func69, Tryz.ntmps69
          go_wp2_with fail
          go_ret
          exact ⟨ret_bool HE.out.symm, HW.out _ _⟩
      · have HE : Hid (eqInB i j = false) := by show _ = _; unfold eqInB; simp [k2]
        have b0 : (i.op == j.op) = true := by simp [k0]
        have b1 : (i.a == j.a) = true := by simp [k1]
        have b2 : (i.b == j.b) = false := by simp [k2]
        clear HC k0 k1 k2
        go_enter Tryz.func69, Tryz.ntmps69
        go_wp2_with fail
        go_ret
        exact ⟨ret_bool HE.out.symm, HW.out _ _⟩
    · have HE : Hid (eqInB i j = false) := by show _ = _; unfold eqInB; simp [k1]
      have b0 : (i.op == j.op) = true := by simp [k0]
      have b1 : (i.a == j.a) = false := by simp [k1]
      clear HC k0 k1
      go_enter Tryz.func69, Tryz.ntmps69
      go_wp2_with fail
      go_ret
      exact ⟨ret_bool HE.out.symm, HW.out _ _⟩
  · have HE : Hid (eqInB i j = false) := by show _ = _; unfold eqInB; simp [k0]
    have b0 : (i.op == j.op) = false := by simp [k0]
    clear HC k0
    go_enter Tryz.func69, Tryz.ntmps69
    go_wp2_with fail
    go_ret
    exact ⟨ret_bool HE.out.symm, HW.out _ _⟩
set_option maxHeartbeats 2000000 in
theorem sameCodeR (N : Nat) (v1 v2 : Value) (n1 n2 : Nat) (f g : Nat → In) (w : World) (hN : N ≤ w.heap.size) (hf : CodeAt N w v1 n1 f) (hg : CodeAt N w v2 n2 g) :
    Calls Tryz.prog 68 #[v1, v2, .func (.func 69) #[] #[]] w fun e w' => e = .returned (.bool (eqCodeB n1 n2 f g)) ∧ Below w.heap.size w w' := by
  obtain ⟨a1, c1, rfl, hn1, hf⟩ := hf
  obtain ⟨a2, c2, rfl, hn2, hg⟩ := hg
  by_cases hn : n1 = n2
  · subst hn
    have ht : ((n1 : Int) != (n1 : Int)) = false := by simp
    go_enter Tryz.func68, Tryz.ntmps68
    go_wp2_with fail
    go_loopw [17] (fun i wr => ∃ j : Nat, j ≤ n1 ∧ i = .int .i64 j ∧ Below w.heap.size w wr ∧ Hid (∀ x, x < j → eqInB (f x) (g x) = true)) (fun i _ => n1 - (intOf i).toNat)
    case atStart => exact ⟨0, Nat.zero_le _, rfl, Below.refl _ _, fun j hj => absurd hj (Nat.not_lt_zero _)⟩
    case round =>
      obtain ⟨j, hj, rfl, hb, hall⟩ := hrel
      by_cases hlt : j < n1
      · rcases hf with hf | ⟨q1, o1, rfl, r1, g1⟩
        · omega
        rcases hg with hg | ⟨q2, o2, rfl, r2, g2⟩
        · omega
        obtain ⟨va, x0, x1, x2, x3, x4, s1⟩ := g1 j hlt
        obtain ⟨vb, y0, y1, y2, y3, y4, s2⟩ := g2 j hlt
        have q1' : q1 < w.heap.size := by omega
        have q2' : q2 < w.heap.size := by omega
        rw [← hb.cell q1'] at x0 x1 x2 x3 x4
        rw [← hb.cell q2'] at y0 y1 y2 y3 y4
        have q2w : q2 < wr.heap.size := Nat.lt_of_lt_of_le q2' hb.size
        have hNr : N ≤ wr.heap.size := Nat.le_trans hN hb.size
        have s1 := s1.below (hb.mono hN)
        have s2 := s2.below (hb.mono hN)
        obtain ⟨z1, d1, rfl, _⟩ := s1.shape
        obtain ⟨z2, d2, rfl, _⟩ := s2.shape
        clear g1 g2
        have HW : Hid (∀ o1 o2 : Obj, Below wr.heap.size wr ((wr.alloc o1).alloc o2)) := fun o1 o2 => bst (bal _ _) (bal _ _)
        have HC : Hid (∀ wk, Below wr.heap.size wr wk → Calls Tryz.prog 69 #[.agg #[.int .i64 (f j).op, .int .i64 (f j).a, .int .i64 (f j).b, .int .i64 (f j).c, .slice z1 (f j).n d1], .agg #[.int .i64 (g j).op, .int .i64 (g j).a, .int .i64 (g j).b, .int .i64 (g j).c, .slice z2 (g j).n d2]] wk fun e w' => e = .returned (.bool (eqInB (f j) (g j))) ∧ Below wk.heap.size wk w') := fun wk hk =>
          sameInsR N (f j) (g j) _ _ wk (Nat.le_trans hNr hk.size) (s1.below (hk.mono hNr)) (s2.below (hk.mono hNr))
        clear s1 s2
        cases he : eqInB (f j) (g j) with
        | true =>
          rw [he] at HC
          have HE : Hid (eqInB (f j) (g j) = true) := he
          clear he
          go_wp2_with (go_at_call 69; refine (HC.out _ (HW.out _ _)).mono ?_; rintro e w1 ⟨rfl, hb1⟩)
          go_roundw
          case rel => exact ⟨j + 1, by omega, by go_num, bst hb (bst (HW.out _ _) hb1), upTo hall.out HE.out⟩
          case measure => simp [intOf]; omega
        | false =>
          rw [he] at HC
          have HE : Hid (eqCodeB n1 n1 f g = false) := eqCodeB_no hlt he
          clear he
          go_wp2_with (go_at_call 69; refine (HC.out _ (HW.out _ _)).mono ?_; rintro e w1 ⟨rfl, hb1⟩)
          go_ret
          exact ⟨ret_bool HE.out.symm, bst hb (bst (HW.out _ _) hb1)⟩
      · obtain rfl : j = n1 := by omega
        go_wp2_with fail
        go_ret
        exact ⟨ret_bool (eqCodeB_yes hall.out).symm, hb⟩
  · have ht : ((n1 : Int) != (n2 : Int)) = true := by simp; omega
    have HN : Hid (eqCodeB n1 n2 f g = false) := eqCodeB_len hn
    clear hn
    go_enter Tryz.func68, Tryz.ntmps68
    go_wp2_with fail
    go_ret
    exact ⟨ret_bool HN.out.symm, Below.refl _ _⟩
set_option maxHeartbeats 1000000 in
theorem sameProcR (N : Nat) (p q : Pc) (v1 v2 : Value) (w : World) (hN : N ≤ w.heap.size) (h1 : CodeAt N w v1 p.n p.ins) (h2 : CodeAt N w v2 q.n q.ins) :
    Calls Tryz.prog 67 #[.agg #[.int .i64 p.params, .int .i64 p.regs, v1], .agg #[.int .i64 q.params, .int .i64 q.regs, v2]] w fun e w' => e = .returned (.bool (eqPcB p q)) ∧ Below w.heap.size w w' := by
  have HC0 : Hid (∀ wk, Below w.heap.size w wk → Calls Tryz.prog 68 #[v1, v2, .func (.func 69) #[] #[]] wk fun e w' => e = .returned (.bool (eqCodeB p.n q.n p.ins q.ins)) ∧ Below wk.heap.size wk w') := fun wk hk =>
    sameCodeR N _ _ _ _ _ _ wk (Nat.le_trans hN hk.size) (h1.below (hk.mono hN)) (h2.below (hk.mono hN))
  obtain ⟨a1, c1, rfl, _⟩ := h1
  obtain ⟨a2, c2, rfl, _⟩ := h2
  have HC := HC0
  have HW : Hid (∀ o1 o2 : Obj, Below w.heap.size w ((w.alloc o1).alloc o2)) := fun o1 o2 => bst (bal _ _) (bal _ _)
  by_cases k1 : p.params = q.params
  · by_cases k2 : p.regs = q.regs
    · have HE : Hid (eqPcB p q = eqCodeB p.n q.n p.ins q.ins) := by show _ = _; unfold eqPcB; simp [k1, k2]
      have b1 : (p.params == q.params) = true := by simp [k1]
      have b2 : (p.regs == q.regs) = true := by simp [k2]
      clear k1 k2 HC0
      go_enter Tryz.func67, Tryz.ntmps67
      go_wp2_with (go_at_call 68; refine (HC.out _ (HW.out _ _)).mono ?_; rintro e w1 ⟨rfl, hb1⟩)
      go_ret
      exact ⟨ret_bool HE.out.symm, bst (HW.out _ _) hb1⟩
    · have HE : Hid (eqPcB p q = false) := by show _ = _; unfold eqPcB; simp [k2]
      have b1 : (p.params == q.params) = true := by simp [k1]
      have b2 : (p.regs == q.regs) = false := by simp [k2]
      clear k1 k2 HC0 HC
      go_enter Tryz.func67, Tryz.ntmps67
      go_wp2_with fail
      go_ret
      exact ⟨ret_bool HE.out.symm, HW.out _ _⟩
  · have HE : Hid (eqPcB p q = false) := by show _ = _; unfold eqPcB; simp [k1]
    have b1 : (p.params == q.params) = false := by simp [k1]
    clear k1 HC0 HC
    go_enter Tryz.func67, Tryz.ntmps67
    go_wp2_with fail
    go_ret
    exact ⟨ret_bool HE.out.symm, HW.out _ _⟩
set_option maxHeartbeats 2000000 in
theorem sameProcsR (N : Nat) (v1 v2 : Value) (n1 n2 : Nat) (f g : Nat → Pc) (w : World) (hN : N ≤ w.heap.size) (hf : ProcsAt N w v1 n1 f) (hg : ProcsAt N w v2 n2 g) :
    Calls Tryz.prog 65 #[v1, v2, .func (.func 67) #[] #[]] w fun e w' => e = .returned (.bool (eqCB n1 n2 f g)) ∧ Below w.heap.size w w' := by
  obtain ⟨a1, c1, rfl, hn1, hf⟩ := hf
  obtain ⟨a2, c2, rfl, hn2, hg⟩ := hg
  by_cases hn : n1 = n2
  · subst hn
    have ht : ((n1 : Int) != (n1 : Int)) = false := by simp
    go_enter Tryz.func65, Tryz.ntmps65
    go_wp2_with fail
    go_loopw [17] (fun i wr => ∃ j : Nat, j ≤ n1 ∧ i = .int .i64 j ∧ Below w.heap.size w wr ∧ Hid (∀ x, x < j → eqPcB (f x) (g x) = true)) (fun i _ => n1 - (intOf i).toNat)
    case atStart => exact ⟨0, Nat.zero_le _, rfl, Below.refl _ _, fun j hj => absurd hj (Nat.not_lt_zero _)⟩
    case round =>
      obtain ⟨j, hj, rfl, hb, hall⟩ := hrel
      by_cases hlt : j < n1
      · rcases hf with hf | ⟨q1, o1, rfl, r1, g1⟩
        · omega
        rcases hg with hg | ⟨q2, o2, rfl, r2, g2⟩
        · omega
        obtain ⟨va, x0, x1, x2, s1⟩ := g1 j hlt
        obtain ⟨vb, y0, y1, y2, s2⟩ := g2 j hlt
        have q1' : q1 < w.heap.size := by omega
        have q2' : q2 < w.heap.size := by omega
        rw [← hb.cell q1'] at x0 x1 x2
        rw [← hb.cell q2'] at y0 y1 y2
        have q2w : q2 < wr.heap.size := Nat.lt_of_lt_of_le q2' hb.size
        have hNr : N ≤ wr.heap.size := Nat.le_trans hN hb.size
        have s1 := s1.below (hb.mono hN)
        have s2 := s2.below (hb.mono hN)
        clear g1 g2
        have HW : Hid (∀ o1 o2 : Obj, Below wr.heap.size wr ((wr.alloc o1).alloc o2)) := fun o1 o2 => bst (bal _ _) (bal _ _)
        have HC : Hid (∀ wk, Below wr.heap.size wr wk → Calls Tryz.prog 67 #[.agg #[.int .i64 (f j).params, .int .i64 (f j).regs, va], .agg #[.int .i64 (g j).params, .int .i64 (g j).regs, vb]] wk fun e w' => e = .returned (.bool (eqPcB (f j) (g j))) ∧ Below wk.heap.size wk w') := fun wk hk =>
          sameProcR N (f j) (g j) _ _ wk (Nat.le_trans hNr hk.size) (s1.below (hk.mono hNr)) (s2.below (hk.mono hNr))
        obtain ⟨z1, d1, rfl, _⟩ := s1
        obtain ⟨z2, d2, rfl, _⟩ := s2
        cases he : eqPcB (f j) (g j) with
        | true =>
          rw [he] at HC
          have HE : Hid (eqPcB (f j) (g j) = true) := he
          clear he
          go_wp2_with (go_at_call 67; refine (HC.out _ (HW.out _ _)).mono ?_; rintro e w1 ⟨rfl, hb1⟩)
          go_roundw
          case rel => exact ⟨j + 1, by omega, by go_num, bst hb (bst (HW.out _ _) hb1), upTo hall.out HE.out⟩
          case measure => simp [intOf]; omega
        | false =>
          rw [he] at HC
          have HE : Hid (eqCB n1 n1 f g = false) := eqCB_no hlt he
          clear he
          go_wp2_with (go_at_call 67; refine (HC.out _ (HW.out _ _)).mono ?_; rintro e w1 ⟨rfl, hb1⟩)
          go_ret
          exact ⟨ret_bool HE.out.symm, bst hb (bst (HW.out _ _) hb1)⟩
      · obtain rfl : j = n1 := by omega
        go_wp2_with fail
        go_ret
        exact ⟨ret_bool (eqCB_yes hall.out).symm, hb⟩
  · have ht : ((n1 : Int) != (n2 : Int)) = true := by simp; omega
    have HN : Hid (eqCB n1 n2 f g = false) := eqCB_len hn
    clear hn
    go_enter Tryz.func65, Tryz.ntmps65
    go_wp2_with fail
    go_ret
    exact ⟨ret_bool HN.out.symm, Below.refl _ _⟩
theorem codeSameR (N : Nat) (v1 v2 : Value) (n1 n2 : Nat) (f g : Nat → Pc) (w : World) (hN : N ≤ w.heap.size) (hf : ProcsAt N w v1 n1 f) (hg : ProcsAt N w v2 n2 g) :
    Calls Tryz.prog 19 #[v1, v2] w fun e w' => e = .returned (.bool (eqCB n1 n2 f g)) ∧ Below w.heap.size w w' := by
  go_enter Tryz.func19, Tryz.ntmps19
  go_wp2_with (go_at_call 65; refine (sameProcsR N v1 v2 n1 n2 f g _ hN hf hg).mono ?_; rintro e w1 ⟨rfl, hb1⟩)
  go_ret
  exact ⟨rfl, hb1⟩
end Go.Proofs.YtbmenihakkogkabGreatDoor
namespace Go.Proofs.YtbmenihakkogkabGreatDoor
open Go.RowKit Go.Maps
theorem info3 : (Tryz.prog.info? 3).map (fun i => (i.zero, i.size, i.bytes)) = some (some (.int .i64 0), 1, 8) := by kernel_rfl
theorem append_int {ops : Array Oper} {rest : List Oper} {o : Oper} {a : Act} {Q : Exit → Act → World → Prop} (w : World) (hgd : o.guard = none) (s y : Operand)
    (ho : o.op = .call { callee := .builtin .append, args := #[s, y], argTypes := #[55, 55] }) (base : Nat) (v : Value) (R : List Int) (hs : a.eval s = v) (hown : w.ownsRow base 3 1 v R.length (R.map (Value.int .i64)))
    (x : Int) (t : TypeId) (B : Nat) (hB : w.heap.size = B) (hy : a.eval y = .slice (some ⟨B, 0, none⟩) 1 1) (hR : R.length ≤ 100000) (hbase : base ≤ w.heap.size)
    (h : ∀ ad cap w2, w2.ownsRow base 3 1 (.slice ad (R.length + 1) cap) (R.length + 1) (R.map (Value.int .i64) ++ [.int .i64 x]) → (w.alloc (.cells #[.int .i64 x] t)).grownBy w2 v.ownBlock → wpList Tryz.prog ops Q rest (a.put o.dst (.slice ad (R.length + 1) cap)) w2) :
    wpList Tryz.prog ops Q (o :: rest) a (w.alloc (.cells #[.int .i64 x] t)) := by
  subst hB
  obtain ⟨i0, hi, hz0, hz1, hz2⟩ := info_parts info3
  refine wpList_append_own _ hgd s y 55 ho base 3 i0 (.int .i64 0) 1 8 Tryz.underlying55 hi hz0 hz1 hz2 rfl (by decide) v _ _ hs (hown.alloc _) ⟨w.heap.size, 0, none⟩ 1 1 [.int .i64 x] hy rfl (cell_one_new _ _ _) (ints_oneCell .i64 [x]) (by unfold maxLen; omega) (by omega) (by simp; omega) ?_
  intro v' w2 h1 h2 _
  obtain ⟨ad, cap, rfl⟩ := own_shape h1
  exact h ad cap w2 h1 h2
theorem append_ints {ops : Array Oper} {rest : List Oper} {o : Oper} {a : Act} {Q : Exit → Act → World → Prop} (w : World) (hgd : o.guard = none) (s y : Operand)
    (ho : o.op = .call { callee := .builtin .append, args := #[s, y], argTypes := #[55, 55] }) (base : Nat) (v : Value) (R L : List Int) (hs : a.eval s = v) (hown : w.ownsRow base 3 1 v R.length (R.map (Value.int .i64)))
    (g cap : Nat) (hy : a.eval y = .slice (some ⟨g, 0, none⟩) L.length cap) (hc : ∀ j, j < L.length → w.cell? ⟨g, j, none⟩ = some (.int .i64 (L.getD j 0))) (hR : R.length + L.length ≤ 100000) (hbase : base ≤ w.heap.size)
    (h : ∀ ad cap w2, w2.ownsRow base 3 1 (.slice ad (R.length + L.length) cap) (R.length + L.length) ((R ++ L).map (Value.int .i64)) → w.grownBy w2 v.ownBlock → wpList Tryz.prog ops Q rest (a.put o.dst (.slice ad (R.length + L.length) cap)) w2) :
    wpList Tryz.prog ops Q (o :: rest) a w := by
  obtain ⟨i0, hi, hz0, hz1, hz2⟩ := info_parts info3
  refine wpList_append_own _ hgd s y 55 ho base 3 i0 (.int .i64 0) 1 8 Tryz.underlying55 hi hz0 hz1 hz2 rfl (by decide) v _ _ hs hown ⟨g, 0, none⟩ L.length cap (L.map (Value.int .i64)) hy (by simp) (fun j u hj => ?_) (ints_oneCell .i64 L) (by unfold maxLen; omega) (by omega) hbase ?_
  · have hl : j < L.length := by
      have := (List.getElem?_eq_some_iff.1 hj).1
      simpa using this
    rw [WideShapes.add_plain, Nat.zero_add, hc j hl]
    rw [List.getElem?_map, List.getElem?_eq_getElem hl] at hj
    rw [← hj]
    simp [List.getD, hl]
  · intro v' w2 h1 h2 _
    obtain ⟨ad, cap, rfl⟩ := own_shape h1
    refine h ad cap w2 ?_ h2
    rw [List.map_append]
    exact h1
theorem own_ints {w : World} {base : Nat} {v : Value} {R : List Int} (h : w.ownsRow base 3 1 v R.length (R.map (Value.int .i64))) : IntsAt w v R.length (fun i => R.getD i 0) := by
  rcases h.2 with ⟨rfl, h0⟩ | ⟨g, cap, cur, rfl, r⟩
  · rw [h0]; exact ⟨none, 0, rfl, Or.inl rfl⟩
  · refine ⟨_, cap, rfl, Or.inr ⟨g, 0, rfl, (h.lt g rfl).2, fun i hi => ?_⟩⟩
    rw [Nat.zero_add, h.cellAt i (by omega)]
    simp [List.getElem?_eq_getElem hi]
theorem own_last {w : World} {base : Nat} {v : Value} {L : List Int} {r : Int} (h : w.ownsRow base 3 1 v (L ++ [r]).length ((L ++ [r]).map (Value.int .i64))) :
    ∃ g cap, v = .slice (some ⟨g, 0, none⟩) (L.length + 1) cap ∧ base ≤ g ∧ g < w.heap.size ∧ L.length + 1 ≤ cap ∧ w.cell? ⟨g, L.length, none⟩ = some (.int .i64 r) ∧ w.frozen? ⟨g, L.length, none⟩ = false ∧
      w.ownsRow base 3 1 (.slice (some ⟨g, 0, none⟩) L.length cap) L.length (L.map (Value.int .i64)) ∧
      (∀ x : Int, (w.setCell ⟨g, L.length, none⟩ (.int .i64 x)).ownsRow base 3 1 (.slice (some ⟨g, 0, none⟩) (L.length + 1) cap) (L ++ [x]).length ((L ++ [x]).map (Value.int .i64))) := by
  have hl : (L ++ [r]).length = L.length + 1 := by simp
  rw [hl, List.map_append] at h
  obtain ⟨g, cap, rfl, hb, hlt, hc, _⟩ := own_block h
  refine ⟨g, cap, rfl, hb, hlt, hc, ?_, h.frozenAt _, ownsRow_pop (last := [r].map (Value.int .i64)) (by simp) h, fun x => ?_⟩
  · rw [h.cellAt _ (by omega)]
    simp
  · have := (h.stored L.length (.int .i64 x)).1
    have hl2 : (L ++ [x]).length = L.length + 1 := by simp
    rw [hl2, List.map_append]
    rw [List.set_append] at this
    simpa using this
theorem max_start (z : Nat → Int) : 0 < z 0 ↔ ∃ i, i < 1 ∧ 0 < z i :=
  ⟨fun h => ⟨0, by omega, h⟩, fun ⟨i, hi, h⟩ => by
    obtain rfl : i = 0 := by omega
    exact h⟩
theorem max_step {z : Nat → Int} {m : Int} {j : Nat} (h : 0 < m ↔ ∃ i, i < j ∧ 0 < z i) : 0 < (if z j > m then z j else m) ↔ ∃ i, i < j + 1 ∧ 0 < z i := by
  constructor
  · intro hp
    split at hp
    · exact ⟨j, by omega, hp⟩
    · obtain ⟨i, hi, hz⟩ := h.1 hp
      exact ⟨i, by omega, hz⟩
  · rintro ⟨i, hi, hz⟩
    by_cases e : i = j
    · subst e; split <;> omega
    · have := h.2 ⟨i, by omega, hz⟩
      split <;> omega
set_option maxHeartbeats 400000 in
theorem maxInts (v : Value) (n : Nat) (z : Nat → Int) (w : World) (h : IntsAt w v n z) (hn : 1 ≤ n) (hb : n ≤ 1000) :
    Calls Tryz.prog 162 #[v] w fun e w' => ∃ m : Int, e = .returned (.int .i64 m) ∧ Hid (0 < m ↔ ∃ i, i < n ∧ 0 < z i) ∧ w' = w := by
  obtain ⟨a, cap, rfl, h | ⟨b, o, rfl, hlt, g⟩⟩ := h
  · omega
  have q0 : w.cell? ⟨b, o, none⟩ = some (.int .i64 (z 0)) := g 0 (by omega)
  have hn1 : ¬ (n : Int) < 1 := by omega
  go_enter Tryz.func162, Tryz.ntmps162
  go_wp2
  clear q0
  go_loopw [3, 4] (fun q i wr => ∃ (j : Nat) (m : Int), 1 ≤ j ∧ j ≤ n ∧ i = .int .i64 j ∧ q = .int .i64 m ∧ wr = w ∧ Hid (0 < m ↔ ∃ i, i < j ∧ 0 < z i)) (fun _ i _ => n - (intOf i).toNat)
  case atStart => exact ⟨1, z 0, by omega, hn, rfl, rfl, rfl, max_start _⟩
  case round =>
    obtain ⟨j, m, h1, hj, rfl, rfl, rfl, hm⟩ := hrel
    by_cases hlt2 : j < n
    · have q := g j hlt2
      clear g
      go_wp2
      go_roundw
      case rel => exact ⟨j + 1, _, by omega, by omega, by go_num, rfl, trivial, (by show 0 < max m (z j) ↔ _; rw [show max m (z j) = if z j > m then z j else m by split <;> omega]; exact max_step hm.out)⟩
      case measure => simp [intOf]; omega
    · obtain rfl : j = n := by omega
      clear g
      go_wp2
      go_ret
      exact ⟨m, rfl, hm, rfl⟩
end Go.Proofs.YtbmenihakkogkabGreatDoor
namespace Go.Proofs.YtbmenihakkogkabGreatDoor
open Go.RowKit
set_option maxHeartbeats 2000000 in
theorem refCheckTok (k z : Int) (a : Option Addr) (nf cap : Nat) (locals : Int) (w : World) :
    Calls Tryz.prog 52 #[.agg #[.int .i64 k, .int .i64 z], .slice a nf cap, .int .i64 locals] w fun e w' => e = .returned (.int .i64 (tokErr k z nf locals)) ∧ Below w.heap.size w w' := by
  go_enter Tryz.func52, Tryz.ntmps52
  go_wp2
  all_goals
    go_ret
    refine ⟨rtn ?_, bal _ _⟩
    go_light
    try simp only [beq_iff_eq, ne_eq, beq_eq_false_iff_ne, Bool.not_eq_true', Bool.not_eq_false', decide_eq_false_iff_not, decide_eq_true_eq] at *
    unfold tokErr
    (repeat' split) <;> omega
set_option maxHeartbeats 1000000 in
theorem refAsks (N : Nat) (k z : Int) (v : Value) (nf : Nat) (par loc : Nat → Int) (bv : Nat → Value) (w : World) (h : FunsAt N w v nf par loc bv) (hc : k = 6 → 0 ≤ z ∧ z.toNat < nf) :
    Calls Tryz.prog 53 #[.agg #[.int .i64 k, .int .i64 z], v] w fun e w' => e = .returned (.int .i64 (asksOf k z par)) ∧ Below w.heap.size w w' := by
  by_cases hk : k = 6
  · obtain ⟨h0, h1⟩ := hc hk
    obtain ⟨i, rfl⟩ : ∃ i : Nat, z = i := ⟨z.toNat, by omega⟩
    have hi : i < nf := by omega
    obtain ⟨a, cap, rfl, hn, h | ⟨b, o, rfl, hlt, g⟩⟩ := h
    · omega
    obtain ⟨c0, c1, c2, _⟩ := g i hi
    have l0 := cell_lt c0
    have HE : Hid (asksOf k i par = par i) := by
      show asksOf k i par = par i
      subst hk; simp [asksOf]
    clear g hc h1
    subst hk
    go_enter Tryz.func53, Tryz.ntmps53
    go_wp2
    go_ret
    exact ⟨rtn HE.out.symm, bal _ _⟩
  · obtain ⟨a, cap, rfl, hn, _⟩ := h
    have hkt : (k == 6) = false := by simp [hk]
    clear hc
    go_enter Tryz.func53, Tryz.ntmps53
    go_wp2
    all_goals
      go_ret
      refine ⟨rtn ?_, bal _ _⟩
      go_light
      simp only [beq_iff_eq, beq_eq_false_iff_ne, ne_eq] at *
      unfold asksOf
      (repeat' split) <;> omega
end Go.Proofs.YtbmenihakkogkabGreatDoor
