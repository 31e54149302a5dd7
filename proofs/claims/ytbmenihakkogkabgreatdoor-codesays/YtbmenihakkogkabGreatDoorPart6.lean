import Derived.Test.YtbmenihakkogkabGreatDoorPart5
import Derived.Deep.LoopGhost
import Derived.Test.YtbmenihakkogkabGreatDoorPart3
import Derived.Lib.ItoaLen
import Derived.Laws.Concat
namespace Go.Proofs.YtbmenihakkogkabGreatDoor
open Go.RowKit Go.Maps
def ParAt (X : Nat) (w : World) (fv : Value) (nf : Nat) (par : Nat → Int) : Prop :=
  ∃ a cap, fv = .slice a nf cap ∧ nf ≤ 100000 ∧ (nf = 0 ∨ ∃ b o, a = some ⟨b, o, none⟩ ∧ b < X ∧ ∀ i, i < nf → w.cell? ⟨b, o + i * 3, none⟩ = some (.int .i64 (par i)))
theorem ParAt.low {X : Nat} {w w' : World} {fv : Value} {nf : Nat} {par : Nat → Int} (h : ParAt X w fv nf par) (hs : ∀ k, k < X → w'.heap[k]? = w.heap[k]?) : ParAt X w' fv nf par := by
  obtain ⟨a, cap, rfl, hn, h | ⟨b, o, rfl, hb, hc⟩⟩ := h
  · exact ⟨a, cap, rfl, hn, Or.inl h⟩
  · exact ⟨_, cap, rfl, hn, Or.inr ⟨b, o, rfl, hb, fun i hi => by rw [World.cell?_of_block (w := w) (a := ⟨b, o + i * 3, none⟩) (hs b hb)]; exact hc i hi⟩⟩
theorem ParAt.save {X : Nat} {w w' : World} {fv : Value} {nf : Nat} {par : Nat → Int} (h : ParAt X w fv nf par) (hs : Save X w w') (hX : X < w.heap.size) : ParAt X w' fv nf par := h.low fun k hk => hs.block k (by omega) (by omega)
theorem below_dn {B : Nat} {a b : World} (h : Below B a b) (n : Nat) : Below B a (b.drewN n) := ⟨h.os, h.tape, h.output, h.size, h.block⟩
set_option maxHeartbeats 2000000 in
theorem rasks (X : Nat) (w : World) (ws : List Wd) (fv : Value) (nf : Nat) (par : Nat → Int) (k z : Int) (h : RD X w ws fv) (hp : ParAt X w fv nf par) :
    Calls Tryz.prog 220 #[.pointer (some ⟨X, 0, none⟩), .agg #[.int .i64 k, .int .i64 z]] w fun e w' => e = .returned (.int .i64 (asksR nf par (k, z))) ∧ Below w.heap.size w w' := by
  have hX := h.lt
  have hb0 := bal w (.cells #[.int .i64 k, .int .i64 z] 89)
  have qf := (h.keep hb0).cells
  obtain ⟨a, cap, rfl, hn, hcs⟩ := hp
  have HB : Hid (Below w.heap.size w (w.alloc (.cells #[.int .i64 k, .int .i64 z] 89))) := hb0
  clear h hb0
  by_cases h4 : k = 4
  · have HF : Hid (asksR nf par (k, z) = 1) := by show asksR nf par (k, z) = 1; unfold asksR; rw [if_pos h4]
    have e4 : (k == 4) = true := by simp [h4]
    clear h4 hcs
    go_enter Tryz.func220, Tryz.ntmps220
    go_wp2
    go_ret
    exact ⟨rtn HF.out.symm, HB.out⟩
  have e4 : (k == 4) = false := by simp [h4]
  by_cases h3 : k = 3
  · have HF : Hid (asksR nf par (k, z) = 2) := by show asksR nf par (k, z) = 2; unfold asksR; rw [if_neg h4, if_pos h3]
    have e3 : (k == 3) = true := by simp [h3]
    clear h4 h3 hcs
    go_enter Tryz.func220, Tryz.ntmps220
    go_wp2
    go_ret
    exact ⟨rtn HF.out.symm, HB.out⟩
  have e3 : (k == 3) = false := by simp [h3]
  by_cases h6 : k = 6
  · have e6 : (k == 6) = true := by simp [h6]
    by_cases hz0 : 0 ≤ z
    · by_cases hz1 : z < nf
      · obtain ⟨m, rfl⟩ : ∃ m : Nat, z = m := ⟨z.toNat, by omega⟩
        have hm : m < nf := by omega
        have HF : Hid (asksR nf par (k, (m : Int)) = par m) := by
          show asksR nf par (k, (m : Int)) = _
          unfold asksR
          rw [if_neg h4, if_neg h3, if_pos ⟨h6, hz0, hz1⟩]
          rfl
        obtain h | ⟨b, o, rfl, hb, hc⟩ := hcs
        · omega
        have q := hc m hm
        rw [← HB.out.cell (p := ⟨b, o + m * 3, none⟩) (Nat.lt_trans hb hX)] at q
        have hz1i : (m : Int) < (nf : Int) := by omega
        clear h4 h3 h6 hc hz1
        go_enter Tryz.func220, Tryz.ntmps220
        go_upto_region 5 with (fail)
        go_quiet (fail)
        go_upto_region 6 with (fail)
        go_quiet (fail)
        go_wp2_with fail
        go_ret
        exact ⟨rtn HF.out.symm, below_dn (below_dn HB.out _) _⟩
      · have HF : Hid (asksR nf par (k, z) = 0) := by
          show asksR nf par (k, z) = _
          unfold asksR
          rw [if_neg h4, if_neg h3, if_neg (by rintro ⟨_, _, c⟩; exact hz1 c)]
        have hz1i : ¬ z < (nf : Int) := hz1
        clear h4 h3 h6 hcs hz1
        go_enter Tryz.func220, Tryz.ntmps220
        go_upto_region 5 with (fail)
        go_quiet (fail)
        go_wp2_with fail
        go_ret
        exact ⟨rtn HF.out.symm, below_dn HB.out _⟩
    · have HF : Hid (asksR nf par (k, z) = 0) := by
        show asksR nf par (k, z) = _
        unfold asksR
        rw [if_neg h4, if_neg h3, if_neg (by rintro ⟨_, c, _⟩; exact hz0 c)]
      clear h4 h3 h6 hcs
      go_enter Tryz.func220, Tryz.ntmps220
      go_upto_region 5 with (fail)
      go_quiet (fail)
      go_wp2_with fail
      go_ret
      exact ⟨rtn HF.out.symm, below_dn HB.out _⟩
  · have e6 : (k == 6) = false := by simp [h6]
    have HF : Hid (asksR nf par (k, z) = 0) := by
      show asksR nf par (k, z) = _
      unfold asksR
      rw [if_neg h4, if_neg h3, if_neg (by rintro ⟨c, _, _⟩; exact h6 c)]
    clear h4 h3 h6 hcs
    go_enter Tryz.func220, Tryz.ntmps220
    go_upto_region 5 with (fail)
    go_quiet (fail)
    go_wp2_with fail
    go_ret
    exact ⟨rtn HF.out.symm, below_dn HB.out _⟩
/-! ### Rows of tokens of the call's own -/
def flatT : List (Int × Int) → List Value
  | [] => []
  | t :: l => .int .i64 t.1 :: .int .i64 t.2 :: flatT l
theorem flatT_append : ∀ (l m : List (Int × Int)), flatT (l ++ m) = flatT l ++ flatT m
  | [], _ => rfl
  | t :: l, m => by simp [flatT, flatT_append l m]
theorem flatT_at : ∀ (l : List (Int × Int)) (i : Nat), i < l.length → (flatT l)[i * 2]? = some (.int .i64 (l.getD i (0, 0)).1) ∧ (flatT l)[i * 2 + 1]? = some (.int .i64 (l.getD i (0, 0)).2)
  | [], i, h => absurd h (Nat.not_lt_zero _)
  | t :: l, 0, _ => ⟨rfl, rfl⟩
  | t :: l, i + 1, h => by
    have := flatT_at l i (by simpa using h)
    rw [show (i + 1) * 2 = i * 2 + 1 + 1 by omega]
    simpa [flatT] using this
def TS (B : Nat) (w : World) (v : Value) (l : List (Int × Int)) : Prop := w.ownsRow B 89 2 v l.length (flatT l)
def ToksIn (L : Nat) (w : World) (v : Value) (l : List (Int × Int)) : Prop :=
  ∃ a cap, v = .slice a l.length cap ∧ l.length ≤ 100000 ∧ (l = [] ∨ ∃ g, a = some ⟨g, 0, none⟩ ∧ L ≤ g ∧ g < w.heap.size ∧ ∀ i, i < l.length → w.cell? ⟨g, i * 2, none⟩ = some (.int .i64 (l.getD i (0, 0)).1) ∧ w.cell? ⟨g, i * 2 + 1, none⟩ = some (.int .i64 (l.getD i (0, 0)).2))
theorem TS.toks {B : Nat} {w : World} {v : Value} {l : List (Int × Int)} (h : TS B w v l) (hl : l.length ≤ 100000) : ToksIn B w v l := by
  rcases h.2 with ⟨rfl, h0⟩ | ⟨g, cap, cur, rfl, hb, hg, _⟩
  · have e : l = [] := List.eq_nil_of_length_eq_zero h0
    subst e
    exact ⟨none, 0, rfl, hl, Or.inl rfl⟩
  · refine ⟨_, cap, rfl, hl, Or.inr ⟨g, rfl, hb, (Array.getElem?_eq_some_iff.1 hg).1, fun i hi => ?_⟩⟩
    obtain ⟨e1, e2⟩ := flatT_at l i hi
    rw [h.cellAt _ (by omega), h.cellAt _ (by omega), e1, e2]
    exact ⟨rfl, rfl⟩
theorem ToksIn.low {L M : Nat} {w : World} {v : Value} {l : List (Int × Int)} (h : ToksIn L w v l) (hM : M ≤ L) : ToksIn M w v l := by
  obtain ⟨a, cap, rfl, hn, h | ⟨g, rfl, hL, hg, hc⟩⟩ := h
  · exact ⟨a, cap, rfl, hn, Or.inl h⟩
  · exact ⟨_, cap, rfl, hn, Or.inr ⟨g, rfl, by omega, hg, hc⟩⟩
theorem info75 : (Tryz.prog.info? 89).map (fun i => (i.zero, i.size, i.bytes)) = some (some (.agg #[.int .i64 0, .int .i64 0]), 2, 16) := by kernel_rfl
theorem TS.keep {B : Nat} {w w' : World} {v : Value} {l : List (Int × Int)} (h : TS B w v l) (hb : Below w.heap.size w w') : TS B w' v l := by
  refine ⟨h.1, ?_⟩
  rcases h.2 with ⟨rfl, h0⟩ | ⟨g, cap, cur, rfl, h1, h2, h3⟩
  · exact Or.inl ⟨rfl, h0⟩
  · exact Or.inr ⟨g, cap, cur, rfl, h1, by rw [hb.block g (Array.getElem?_eq_some_iff.1 h2).1]; exact h2, h3⟩
theorem TS.save {B X : Nat} {w w' : World} {v : Value} {l : List (Int × Int)} (h : TS B w v l) (hX : X < B) (hs : Save X w w') : TS B w' v l := by
  refine ⟨h.1, ?_⟩
  rcases h.2 with ⟨rfl, h0⟩ | ⟨g, cap, cur, rfl, h1, h2, h3⟩
  · exact Or.inl ⟨rfl, h0⟩
  · exact Or.inr ⟨g, cap, cur, rfl, h1, by rw [hs.block g (Array.getElem?_eq_some_iff.1 h2).1 (by omega)]; exact h2, h3⟩
theorem append_tok {ops : Array Oper} {rest : List Oper} {o : Oper} {a : Act} {Q : Exit → Act → World → Prop} (w : World) (hgd : o.guard = none) (s y : Operand)
    (ho : o.op = .call { callee := .builtin .append, args := #[s, y], argTypes := #[80, 80] }) (base : Nat) (v : Value) (l : List (Int × Int)) (k z : Int) (hs : a.eval s = v) (hown : TS base w v l)
    (t : TypeId) (B : Nat) (hB : w.heap.size = B) (hy : a.eval y = .slice (some ⟨B, 0, none⟩) 1 1) (hR : l.length + 1 ≤ 1000000) (hbase : base ≤ w.heap.size)
    (h : ∀ v' w2, Hid (TS base w2 v' (l ++ [(k, z)])) → Hid (Grow w v w2 v') → wpList Tryz.prog ops Q rest (a.put o.dst v') w2) :
    wpList Tryz.prog ops Q (o :: rest) a (w.alloc (.cells #[.int .i64 k, .int .i64 z] t)) := by
  subst hB
  obtain ⟨i0, hi, hz0, hz1, hz2⟩ := info_parts info75
  have hk : Below w.heap.size w (w.alloc (.cells #[.int .i64 k, .int .i64 z] t)) := bal _ _
  refine wpList_append_own_at _ hgd s y 80 ho base 89 i0 (.agg #[.int .i64 0, .int .i64 0]) 2 16 Tryz.underlying80 hi hz0 hz1 hz2 rfl (by decide) v _ _ hs (hown.keep hk) ⟨w.heap.size, 0, none⟩ 1 1 [.int .i64 k, .int .i64 z] hy rfl (fun j u hj => ?_) (ints_oneCell .i64 [k, z]) (by unfold maxLen; omega) (by omega) (Nat.le_trans hbase hk.size) ?_
  · rw [WideShapes.add_plain, Nat.zero_add, World.cell?_alloc_new]
    show ([Value.int .i64 k, .int .i64 z].toArray)[j]? = some u
    rw [List.getElem?_toArray]
    exact hj
  · intro v' w2 h1 h2 _ h4
    refine h v' w2 ?_ ⟨h2.os, h2.tape, h2.output, Nat.le_trans hk.size h2.size, fun k hk1 hk2 => ?_, fun k hk1 hk2 => ?_⟩
    · show TS _ _ _ _
      unfold TS
      rw [List.length_append, flatT_append]
      exact h1
    · rw [h2.block k (Nat.lt_of_lt_of_le hk1 hk.size) (fun e => hk2 e.symm)]
      exact hk.block k hk1
    · rcases h4 with h4 | h4
      · rw [← h4]; exact hk2
      · have h5 := Option.some.inj (h4.symm.trans hk2)
        have h6 := hk.size
        omega
theorem TS.own {B : Nat} {w : World} {v : Value} {l : List (Int × Int)} (h : TS B w v l) : ∀ k, v.ownBlock = some k → B ≤ k := by
  intro k hk
  rcases h.2 with ⟨rfl, _⟩ | ⟨g, cap, cur, rfl, hb, _⟩
  · cases hk
  · cases hk; exact hb
theorem Grow.save {X B : Nat} {a b : World} {u v : Value} (h : Grow a u b v) (hu : ∀ k, u.ownBlock = some k → B ≤ k) {w : World} (hw : w.heap.size ≤ B) (hs : Save X w a) : Save X w b :=
  ⟨h.os.trans hs.os, h.tape.trans hs.tape, h.output.trans hs.output, Nat.le_trans hs.size h.size, fun k hk hx => (h.block k (Nat.lt_of_lt_of_le hk hs.size) fun e => by have := hu k e; omega).trans (hs.block k hk hx)⟩
theorem exprR_next {nf : Nat} {par : Nat → Int} {A : Int} {x : Wd} {us : List Wd} (h : 0 < A) : exprR nf par A (x :: us) = (tokOf x :: (exprR nf par (wrap64 (wrap64 (A + asksR nf par (tokOf x)) - 1)) us).1, (exprR nf par (wrap64 (wrap64 (A + asksR nf par (tokOf x)) - 1)) us).2) := by
  rw [exprR, if_pos h]
theorem exprR_stop {nf : Nat} {par : Nat → Int} {A : Int} {us : List Wd} (h : ¬ 0 < A) : exprR nf par A us = ([], us) := by
  cases us with
  | nil => rfl
  | cons x us => rw [exprR, if_neg h]
set_option maxHeartbeats 4000000 in
theorem rexpr (N X : Nat) (hNX : N ≤ X) (nf : Nat) (par : Nat → Int) (fv : Value) (w : World) (ws : List Wd) (he : Env N w) (h : RD X w ws fv) (hp : ParAt X w fv nf par) :
    Calls Tryz.prog 195 #[.pointer (some ⟨X, 0, none⟩)] w fun e w' => ∃ v, e = .returned v ∧ Hid (ToksIn w.heap.size w' v (exprR nf par 1 ws).1) ∧ Hid (RD X w' (exprR nf par 1 ws).2 fv) ∧ Save X w w' := by
  have hX := h.lt
  have hlen := h.len
  have HR : Hid (RD X w ws fv) := h
  have HE : Hid (Env N w) := he
  have HP : Hid (ParAt X w fv nf par) := hp
  clear h he hp
  go_enter Tryz.func195, Tryz.ntmps195
  go_upto_region 3 with (fail)
  go_loopg [3, 4] ws.length (fun k q i wr => ∃ (acc : List (Int × Int)) (us : List Wd) (A : Int), us.length = k ∧ acc.length + us.length ≤ ws.length ∧ i = .int .i64 A ∧ Hid (TS w.heap.size wr q acc) ∧ Hid (RD X wr us fv) ∧ Save X w wr ∧ Hid (exprR nf par 1 ws = (acc ++ (exprR nf par A us).1, (exprR nf par A us).2)))
  case atStart => exact ⟨[], ws, 1, rfl, by simp, rfl, ⟨rfl, Or.inl ⟨rfl, rfl⟩⟩, HR, Save.refl X w, (by show _ = _; simp)⟩
  case round =>
    obtain ⟨acc, us, A, hk, hal, rfl, HT, HU, hsv, HX⟩ := hrel
    obtain ⟨wa, wc, q0⟩ := HU.out.words
    by_cases hA : 0 < A
    · cases us with
      | nil =>
        rw [List.length_nil] at q0
        have HF : Hid (exprR nf par 1 ws = (acc, [])) := by
          show _ = _
          rw [HX.out]; simp [exprR]
        go_wp2_with fail
        go_ret
        refine ⟨_, rfl, ?_, ?_, hsv⟩
        · show ToksIn _ _ _ _
          rw [HF.out]
          exact HT.out.toks (by simp at hal; omega)
        · show RD _ _ _ _
          rw [HF.out]
          exact HU.out
      | cons x vs =>
        have hsz : x.size ≤ 100000 := HU.out.small
        rw [List.length_cons] at q0 hk hal
        obtain ⟨L, hL⟩ : ∃ L, vs.length + 1 = L := ⟨_, rfl⟩
        rw [hL] at q0
        have hLi : (0 : Int) < (L : Int) := by omega
        have hXr : X < wr.heap.size := HU.out.lt
        obtain ⟨k, z, hkz⟩ : ∃ k z, tokOf x = (k, z) := ⟨_, _, rfl⟩
        have HK : Hid (tokOf x = (k, z)) := hkz
        have HN1 : Hid (Calls Tryz.prog 109 #[.pointer (some ⟨X, 0, none⟩)] wr fun e w' => e = .returned (.string x) ∧ Hid (RD X w' vs fv) ∧ Save X wr w') := next X wr (x :: vs) fv HU.out
        have HRT : Hid (∀ w1, Save X wr w1 → Calls Tryz.prog 219 #[.string x] w1 fun e w' => e = .returned (.agg #[.int .i64 k, .int .i64 z]) ∧ Below w1.heap.size w1 w') := fun w1 s1 => by
          have h1 : Save X w w1 := hsv.trans s1
          have := readTok N x hsz w1 (Nat.le_trans hNX (Nat.le_trans (Nat.le_of_lt hX) h1.size)) (HE.out.below (h1.low hNX (by omega)))
          rw [hkz] at this
          exact this
        have HAs : Hid (∀ w1, Save X wr w1 → RD X w1 vs fv → Calls Tryz.prog 220 #[.pointer (some ⟨X, 0, none⟩), .agg #[.int .i64 k, .int .i64 z]] w1 fun e w' => e = .returned (.int .i64 (asksR nf par (k, z))) ∧ Below w1.heap.size w1 w') := fun w1 s1 r1 =>
          rasks X w1 vs fv nf par k z r1 (HP.out.save (hsv.trans s1) hX)
        have HX2 : Hid (exprR nf par 1 ws = ((acc ++ [(k, z)]) ++ (exprR nf par (wrap64 (wrap64 (A + asksR nf par (k, z)) - 1)) vs).1, (exprR nf par (wrap64 (wrap64 (A + asksR nf par (k, z)) - 1)) vs).2)) := by
          show _ = _
          rw [HX.out, exprR_next hA, hkz]; simp
        have hs2 : w.heap.size ≤ wr.heap.size := hsv.size
        generalize asksR nf par (k, z) = aa at *
        clear hkz hL
        go_wp2_with (first
          | (go_at_call 109; refine HN1.out.mono ?_; rintro e w1 ⟨rfl, H1, s1⟩)
          | (go_at_call 219; refine (HRT.out w1 s1).mono ?_; rintro e w2 ⟨rfl, b2⟩)
          | (go_at_call 220; refine (HAs.out _ ((s1.trans (Save.of b2)).trans (Save.alloc X _ _)) ((H1.out.keep b2).keep (bal _ _))).mono ?_; rintro e w3 ⟨rfl, b3⟩; have q1 := bxi b3 0 rfl; have q2 := bxi b3 1 rfl; have s3 : Save X wr w3 := ((s1.trans (Save.of b2)).trans (Save.alloc X _ _)).trans (Save.of b3))
          | (at_builtin; refine append_tok w3 rfl _ _ rfl w.heap.size u3 acc k z rfl (HT.out.save hX s3) _ _ rfl rfl (by omega) (Nat.le_trans hs2 s3.size) ?_; intro v4 w4 H4 G4))
        go_roundg vs.length
        case rel =>
          refine ⟨acc ++ [(k, z)], vs, _, rfl, by simp; omega, rfl, H4, ?_, ?_, HX2⟩
          · show RD _ _ _ _
            exact (((H1.out.keep b2).keep (bal _ _)).keep b3).below (G4.out.low (B := X + 1) (fun k hk => by have := HT.out.own k hk; omega) (by have := s3.size; omega))
          · exact G4.out.save (fun k hk => HT.out.own k hk) (Nat.le_refl _) (hsv.trans s3)
        case measure => omega
    · have HF : Hid (exprR nf par 1 ws = (acc, us)) := by
        show _ = _
        rw [HX.out, exprR_stop hA]; simp
      go_wp2_with fail
      go_ret
      refine ⟨_, rfl, ?_, ?_, hsv⟩
      · show ToksIn _ _ _ _
        rw [HF.out]
        exact HT.out.toks (by omega)
      · show RD _ _ _ _
        rw [HF.out]
        exact HU.out
set_option maxHeartbeats 1000000 in
theorem tokWord_op (N : Nat) (m : Nat) (hm : m < 6) (w : World) (he : Env N w) (hN : N ≤ w.heap.size) :
    Calls Tryz.prog 153 #[.agg #[.int .i64 3, .int .i64 m]] w fun e w' => e = .returned (.string (bs (opL m))) ∧ Below w.heap.size w w' := by
  have q := (he.below ((bal w (.cells #[.int .i64 3, .int .i64 (m : Int)] 89)).mono hN)).op m hm
  have h1 : (0 : Int) ≤ (m : Int) := by omega
  have h2 : (m : Int) < 6 := by omega
  clear he
  go_enter Tryz.func153, Tryz.ntmps153
  go_wp2
  go_ret
  exact ⟨rfl, bal _ _⟩
theorem keepTok {N n : Nat} {z : Int} {w w1 : World} (he : Env N w) (hN : N ≤ w.heap.size) (hn : n < 7) (h : Below (w.heap.size + 1) (w.alloc (.cells #[.int .i64 (n : Int), .int .i64 z] 89)) w1) :
    w1.cell? ⟨w.heap.size, 0, none⟩ = some (.int .i64 (n : Int)) ∧ w1.cell? ⟨w.heap.size, 1, none⟩ = some (.int .i64 z) ∧ w1.cell? ⟨4, n, none⟩ = some (.string (bs (mkL n))) ∧ Below w.heap.size w w1 := by
  have h2 : Below w.heap.size w w1 := (bal w _).trans (h.mono (by omega))
  refine ⟨box_at h (by omega) 0 rfl, box_at h (by omega) 1 rfl, ?_, h2⟩
  exact (he.below (h2.mono hN)).mks n hn
theorem mkL_short (n : Nat) : (mkL n).length ≤ 3 := by
  unfold mkL; split <;> decide
theorem bs_size (l : List UInt8) : (bs l).size = l.length := by show l.toArray.size = _; simp
theorem bs_append (a b : List UInt8) : bs a ++ bs b = bs (a ++ b) := by unfold bs; rw [ByteArray.mk_append_mk]
theorem add_mark (n : Nat) (z : Int) (hz0 : -9223372036854775808 ≤ z) (hz1 : z ≤ 9223372036854775807) (w : World) : (Op.stringOp .add (bs (mkL n)) (numW z)).run Tryz.prog w = .ok (.string (bs (mkL n ++ Lib.itoa z))) w := by
  have h1 := mkL_short n
  have h2 := Lib.itoa_length_le z hz0 hz1
  unfold numW
  rw [run_string_add_sum w _ _ (by rw [bs_size, bs_size]; omega), bs_append]
set_option maxHeartbeats 2000000 in
theorem tokWord_num (N : Nat) (n : Nat) (hn : n < 7) (h3 : ¬ n = 3) (z : Int) (hz0 : -9223372036854775808 ≤ z) (hz1 : z ≤ 9223372036854775807) (w : World) (he : Env N w) (hN : N ≤ w.heap.size) :
    Calls Tryz.prog 153 #[.agg #[.int .i64 n, .int .i64 z]] w fun e w' => e = .returned (.string (bs (mkL n ++ Lib.itoa z))) ∧ Below w.heap.size w w' := by
  have h1 : (0 : Int) ≤ (n : Int) := by omega
  have h2 : (n : Int) < 7 := by omega
  have h4 : ((n : Int) == 3) = false := by rw [beq_eq_false_iff_ne]; omega
  have HE : Hid (Env N w) := he
  clear he
  have HK : ∀ w1, Below (w.heap.size + 1) (w.alloc (.cells #[.int .i64 (n : Int), .int .i64 z] 89)) w1 → w1.cell? ⟨w.heap.size, 0, none⟩ = some (.int .i64 (n : Int)) ∧ w1.cell? ⟨w.heap.size, 1, none⟩ = some (.int .i64 z) ∧ w1.cell? ⟨4, n, none⟩ = some (.string (bs (mkL n))) ∧ Below w.heap.size w w1 := fun w1 h => keepTok HE.out hN hn h
  have b0 : Below (w.heap.size + 1) (w.alloc (.cells #[.int .i64 (n : Int), .int .i64 z] 89)) (w.alloc (.cells #[.int .i64 (n : Int), .int .i64 z] 89)) := Below.refl _ _
  have hb0 : Below w.heap.size w (w.alloc (.cells #[.int .i64 (n : Int), .int .i64 z] 89)) := bal _ _
  have sz : (w.alloc (.cells #[.int .i64 (n : Int), .int .i64 z] 89)).heap.size = w.heap.size + 1 := by simp
  have hadd := add_mark n z hz0 hz1
  go_enter Tryz.func153, Tryz.ntmps153
  go_upto_region 3 with (fail)
  generalize hW : w.alloc (.cells #[.int .i64 (n : Int), .int .i64 z] 89) = W at *
  go_region_held3 (fun w' => w'.cell? ⟨w.heap.size, 0, none⟩ = some (.int .i64 (n : Int)) ∧ w'.cell? ⟨w.heap.size, 1, none⟩ = some (.int .i64 z) ∧ w'.cell? ⟨4, n, none⟩ = some (.string (bs (mkL n))) ∧ Below w.heap.size w w')
    (first | exact HK _ b0.drew | exact HK _ b9)
    (first | (go_at_call 38; refine (itoa N z hz0 hz1 _ (HE.out.below ((hb0.drew).mono hN))).mono ?_; rintro e w9 ⟨rfl, b9'⟩; have b9 : Below (w.heap.size + 1) W w9 := b0.drew.trans (b9'.mono (by show w.heap.size + 1 ≤ W.drew.heap.size; rw [← sz]; exact Nat.le_refl _))))
  obtain ⟨_, _, _, b10⟩ := HK _ b9
  go_wp2_with (fail)
  go_ret
  exact ⟨rfl, b10⟩
theorem tokWord (N : Nat) (k z : Int) (nf : Nat) (locals : Int) (hl : locals ≤ 6) (hnf : nf ≤ 1000) (h : tokErr k z nf locals = 0) (w : World) (he : Env N w) (hN : N ≤ w.heap.size) :
    Calls Tryz.prog 153 #[.agg #[.int .i64 k, .int .i64 z]] w fun e w' => e = .returned (.string (tokW k z)) ∧ Below w.heap.size w w' := by
  have hz : -9223372036854775808 ≤ z ∧ z ≤ 9223372036854775807 := by
    unfold tokErr at h
    repeat' split at h
    all_goals first | omega | cases h
  have hk : 1 ≤ k ∧ k ≤ 6 := by
    unfold tokErr at h
    by_cases c : 1 ≤ k ∧ k ≤ 6
    · exact c
    · rw [if_neg (by omega), if_neg (by omega), if_neg (by omega), if_neg (by omega), if_neg (by omega), if_neg (by omega)] at h
      cases h
  unfold tokW
  by_cases h3 : k = 3
  · subst h3
    rw [if_pos rfl]
    have hz5 : 1 ≤ z ∧ z ≤ 5 := by
      unfold tokErr at h
      rw [if_neg (by decide), if_neg (by decide), if_pos rfl] at h
      split at h
      · cases h
      · omega
    obtain ⟨m, rfl⟩ : ∃ m : Nat, z = m := ⟨z.toNat, by omega⟩
    exact tokWord_op N m (by omega) w he hN
  · rw [if_neg h3]
    obtain ⟨n, rfl⟩ : ∃ n : Nat, k = n := ⟨k.toNat, by omega⟩
    exact tokWord_num N n (by omega) (by omega) z hz.1 hz.2 w he hN
end Go.Proofs.YtbmenihakkogkabGreatDoor
