/- The tokens of an expression, by the reader. -/
import Derived.Test.YtomfkfhipemlcabDoorRdAsks
import Derived.Deep.LoopGhost
namespace Go.Proofs.YtomfkfhipemlcabDoor
open Go.RowKit Go.Maps

/-! ### Rows of tokens of the call's own -/

def flatT : List (Int × Int) → List Value
  | [] => []
  | t :: l => .int .i64 t.1 :: .int .i64 t.2 :: flatT l

theorem flatT_append : ∀ (l m : List (Int × Int)), flatT (l ++ m) = flatT l ++ flatT m
  | [], _ => rfl
  | t :: l, m => by simp [flatT, flatT_append l m]

theorem flatT_len : ∀ l : List (Int × Int), (flatT l).length = l.length * 2
  | [] => rfl
  | t :: l => by simp [flatT, flatT_len l]; omega

theorem flatT_at : ∀ (l : List (Int × Int)) (i : Nat), i < l.length → (flatT l)[i * 2]? = some (.int .i64 (l.getD i (0, 0)).1) ∧ (flatT l)[i * 2 + 1]? = some (.int .i64 (l.getD i (0, 0)).2)
  | [], i, h => absurd h (Nat.not_lt_zero _)
  | t :: l, 0, _ => ⟨rfl, rfl⟩
  | t :: l, i + 1, h => by
    have := flatT_at l i (by simpa using h)
    rw [show (i + 1) * 2 = i * 2 + 1 + 1 by omega]
    simpa [flatT] using this

/-- A row of the tokens l, of blocks from B on. -/
def TS (B : Nat) (w : World) (v : Value) (l : List (Int × Int)) : Prop := w.ownsRow B 75 2 v l.length (flatT l)

/-- 'v' is a slice of the tokens l, of blocks from L on. -/
def ToksIn (L : Nat) (w : World) (v : Value) (l : List (Int × Int)) : Prop :=
  ∃ a cap, v = .slice a l.length cap ∧ l.length ≤ 100000 ∧ (l = [] ∨ ∃ g, a = some ⟨g, 0, none⟩ ∧ L ≤ g ∧ g < w.heap.size ∧ ∀ i, i < l.length → w.cell? ⟨g, i * 2, none⟩ = some (.int .i64 (l.getD i (0, 0)).1) ∧ w.cell? ⟨g, i * 2 + 1, none⟩ = some (.int .i64 (l.getD i (0, 0)).2))

theorem TS.toks {B : Nat} {w : World} {v : Value} {l : List (Int × Int)} (h : TS B w v l) (hl : l.length ≤ 100000) : ToksIn B w v l := by
  rcases h.2 with ⟨rfl, h0⟩ | ⟨g, cap, cur, rfl, hb, hg, _⟩
  · have e : l = [] := List.eq_nil_of_length_eq_zero h0
    subst e
    exact ⟨none, 0, rfl, hl, Or.inl rfl⟩
  · refine ⟨_, cap, rfl, hl, Or.inr ⟨g, rfl, hb, (Array.getElem?_eq_some_iff.1 hg).1, fun i hi => ?_⟩⟩
    obtain ⟨e1, e2⟩ := flatT_at l i hi
    rw [h.cellAt _ (by omega), h.cellAt _ (by omega), e1, e2]
    exact ⟨rfl, rfl⟩

theorem ToksIn.save {X L : Nat} {w w' : World} {v : Value} {l : List (Int × Int)} (h : ToksIn L w v l) (hX : X < L) (hs : Save X w w') : ToksIn L w' v l := by
  obtain ⟨a, cap, rfl, hn, h | ⟨g, rfl, hL, hg, hc⟩⟩ := h
  · exact ⟨a, cap, rfl, hn, Or.inl h⟩
  · refine ⟨_, cap, rfl, hn, Or.inr ⟨g, rfl, hL, Nat.lt_of_lt_of_le hg hs.size, fun i hi => ?_⟩⟩
    rw [hs.cell (p := ⟨g, i * 2, none⟩) hg (show ¬ g = X by omega), hs.cell (p := ⟨g, i * 2 + 1, none⟩) hg (show ¬ g = X by omega)]
    exact hc i hi

theorem ToksIn.low {L M : Nat} {w : World} {v : Value} {l : List (Int × Int)} (h : ToksIn L w v l) (hM : M ≤ L) : ToksIn M w v l := by
  obtain ⟨a, cap, rfl, hn, h | ⟨g, rfl, hL, hg, hc⟩⟩ := h
  · exact ⟨a, cap, rfl, hn, Or.inl h⟩
  · exact ⟨_, cap, rfl, hn, Or.inr ⟨g, rfl, by omega, hg, hc⟩⟩

theorem ToksIn.toks {L : Nat} {w : World} {v : Value} {l : List (Int × Int)} (h : ToksIn L w v l) : ToksAt w.heap.size w v l.length (fun i => (l.getD i (0, 0)).1) (fun i => (l.getD i (0, 0)).2) := by
  obtain ⟨a, cap, rfl, hn, h | ⟨g, rfl, hL, hg, hc⟩⟩ := h
  · exact ⟨a, cap, rfl, by omega, Or.inl (by rw [h]; rfl)⟩
  · exact ⟨_, cap, rfl, by omega, Or.inr ⟨g, 0, rfl, hg, fun i hi => by rw [Nat.zero_add]; exact hc i hi⟩⟩

theorem info75 : (Tryd.prog.info? 75).map (fun i => (i.zero, i.size, i.bytes)) = some (some (.agg #[.int .i64 0, .int .i64 0]), 2, 16) := by kernel_rfl

theorem TS.keep {B : Nat} {w w' : World} {v : Value} {l : List (Int × Int)} (h : TS B w v l) (hb : Below w.heap.size w w') : TS B w' v l := by
  refine ⟨h.1, ?_⟩
  rcases h.2 with ⟨rfl, h0⟩ | ⟨g, cap, cur, rfl, h1, h2, h3⟩
  · exact Or.inl ⟨rfl, h0⟩
  · exact Or.inr ⟨g, cap, cur, rfl, h1, by rw [hb.block g (Array.getElem?_eq_some_iff.1 h2).1]; exact h2, h3⟩

theorem TS.save {B X : Nat} {w w' : World} {v : Value} {l : List (Int × Int)} (h : TS B w v l) (hX : X < B) (hs : Save X w w') : TS B w' v l := by
  refine ⟨h.1, ?_⟩
  rcases h.2 with ⟨rfl, h0⟩ | ⟨g, cap, cur, rfl, h1, h2, h3⟩
  · exact Or.inl ⟨rfl, h0⟩
  · exact Or.inr ⟨g, cap, cur, rfl, h1, by rw [hs.block g (Array.getElem?_eq_some_iff.1 h2).1 (by omega)]; exact h2, h3⟩

/-- One token more at the end of a row of the call's own: all that was there is as it was, but for blocks from B on. -/
theorem append_tok {ops : Array Oper} {rest : List Oper} {o : Oper} {a : Act} {Q : Exit → Act → World → Prop} (w : World) (hgd : o.guard = none) (s y : Operand)
    (ho : o.op = .call { callee := .builtin .append, args := #[s, y], argTypes := #[39, 39] }) (base : Nat) (v : Value) (l : List (Int × Int)) (k z : Int) (hs : a.eval s = v) (hown : TS base w v l)
    (t : TypeId) (B : Nat) (hB : w.heap.size = B) (hy : a.eval y = .slice (some ⟨B, 0, none⟩) 1 1) (hR : l.length + 1 ≤ 1000000) (hbase : base ≤ w.heap.size)
    (h : ∀ v' w2, Hid (TS base w2 v' (l ++ [(k, z)])) → Hid (Grow w v w2 v') → wpList Tryd.prog ops Q rest (a.put o.dst v') w2) :
    wpList Tryd.prog ops Q (o :: rest) a (w.alloc (.cells #[.int .i64 k, .int .i64 z] t)) := by
  subst hB
  obtain ⟨i0, hi, hz0, hz1, hz2⟩ := info_parts info75
  have hk : Below w.heap.size w (w.alloc (.cells #[.int .i64 k, .int .i64 z] t)) := below_alloc _ _
  refine wpList_append_own_at _ hgd s y 39 ho base 75 i0 (.agg #[.int .i64 0, .int .i64 0]) 2 16 Tryd.underlying39 hi hz0 hz1 hz2 rfl (by decide) v _ _ hs (hown.keep hk) ⟨w.heap.size, 0, none⟩ 1 1 [.int .i64 k, .int .i64 z] hy rfl (fun j u hj => ?_) (ints_oneCell .i64 [k, z]) (by unfold maxLen; omega) (by omega) (Nat.le_trans hbase hk.size) ?_
  · rw [WideShapes.add_plain, Nat.zero_add, World.cell?_alloc_new]
    show ([Value.int .i64 k, .int .i64 z].toArray)[j]? = some u
    rw [List.getElem?_toArray]
    exact hj
  · intro v' w2 h1 h2 _ h4
    refine h v' w2 ?_ ⟨h2.os, h2.tape, h2.output, Nat.le_trans hk.size h2.size, fun k hk1 hk2 => ?_, fun k hk1 hk2 => ?_⟩
    · show TS _ _ _ _
      unfold TS
      rw [List.length_append, flatT_append]
      exact h1
    · rw [h2.block k (Nat.lt_of_lt_of_le hk1 hk.size) (fun e => hk2 e.symm)]
      exact hk.block k hk1
    · rcases h4 with h4 | h4
      · rw [← h4]; exact hk2
      · have h5 := Option.some.inj (h4.symm.trans hk2)
        have h6 := hk.size
        omega

theorem TS.own {B : Nat} {w : World} {v : Value} {l : List (Int × Int)} (h : TS B w v l) : ∀ k, v.ownBlock = some k → B ≤ k := by
  intro k hk
  rcases h.2 with ⟨rfl, _⟩ | ⟨g, cap, cur, rfl, hb, _⟩
  · cases hk
  · cases hk; exact hb

/-- What grows is a row of blocks from B on: then all below is as it was. -/
theorem Grow.save {X B : Nat} {a b : World} {u v : Value} (h : Grow a u b v) (hu : ∀ k, u.ownBlock = some k → B ≤ k) {w : World} (hw : w.heap.size ≤ B) (hs : Save X w a) : Save X w b :=
  ⟨h.os.trans hs.os, h.tape.trans hs.tape, h.output.trans hs.output, Nat.le_trans hs.size h.size, fun k hk hx => (h.block k (Nat.lt_of_lt_of_le hk hs.size) fun e => by have := hu k e; omega).trans (hs.block k hk hx)⟩

theorem exprR_next {nf : Nat} {par : Nat → Int} {A : Int} {x : Wd} {us : List Wd} (h : 0 < A) : exprR nf par A (x :: us) = (tokOf x :: (exprR nf par (wrap64 (wrap64 (A + asksR nf par (tokOf x)) - 1)) us).1, (exprR nf par (wrap64 (wrap64 (A + asksR nf par (tokOf x)) - 1)) us).2) := by
  rw [exprR, if_pos h]
theorem exprR_stop {nf : Nat} {par : Nat → Int} {A : Int} {us : List Wd} (h : ¬ 0 < A) : exprR nf par A us = ([], us) := by
  cases us with
  | nil => rfl
  | cons x us => rw [exprR, if_neg h]

theorem tokOf_pair (x : Wd) : ((tokOf x).1, (tokOf x).2) = tokOf x := rfl

set_option maxHeartbeats 4000000 in
/-- An expression read. -/
theorem rexpr (N X : Nat) (hNX : N ≤ X) (nf : Nat) (par : Nat → Int) (fv : Value) (w : World) (ws : List Wd) (he : Env N w) (h : RD X w ws fv) (hp : ParAt X w fv nf par) :
    Calls Tryd.prog 55 #[.pointer (some ⟨X, 0, none⟩)] w fun e w' => ∃ v, e = .returned v ∧ Hid (ToksIn w.heap.size w' v (exprR nf par 1 ws).1) ∧ Hid (RD X w' (exprR nf par 1 ws).2 fv) ∧ Save X w w' := by
  have hX := h.lt
  have hlen := h.len
  have HR : Hid (RD X w ws fv) := h
  have HE : Hid (Env N w) := he
  have HP : Hid (ParAt X w fv nf par) := hp
  clear h he hp
  go_enter Tryd.func55, Tryd.ntmps55
  go_upto_region 3 with (fail)
  go_loopg [3, 4] ws.length (fun k q i wr => ∃ (acc : List (Int × Int)) (us : List Wd) (A : Int), us.length = k ∧ acc.length + us.length ≤ ws.length ∧ i = .int .i64 A ∧ Hid (TS w.heap.size wr q acc) ∧ Hid (RD X wr us fv) ∧ Save X w wr ∧ Hid (exprR nf par 1 ws = (acc ++ (exprR nf par A us).1, (exprR nf par A us).2)))
  case atStart => exact ⟨[], ws, 1, rfl, by simp, rfl, ⟨rfl, Or.inl ⟨rfl, rfl⟩⟩, HR, Save.refl X w, (by show _ = _; simp)⟩
  case round =>
    obtain ⟨acc, us, A, hk, hal, rfl, HT, HU, hsv, HX⟩ := hrel
    obtain ⟨wa, wc, q0⟩ := HU.out.words
    by_cases hA : 0 < A
    · cases us with
      | nil =>
        rw [List.length_nil] at q0
        have HF : Hid (exprR nf par 1 ws = (acc, [])) := by
          show _ = _
          rw [HX.out]; simp [exprR]
        go_wp2_with fail
        go_ret
        refine ⟨_, rfl, ?_, ?_, hsv⟩
        · show ToksIn _ _ _ _
          rw [HF.out]
          exact HT.out.toks (by simp at hal; omega)
        · show RD _ _ _ _
          rw [HF.out]
          exact HU.out
      | cons x vs =>
        have hsz : x.size ≤ 100000 := HU.out.small
        rw [List.length_cons] at q0 hk hal
        obtain ⟨L, hL⟩ : ∃ L, vs.length + 1 = L := ⟨_, rfl⟩
        rw [hL] at q0
        have hLi : (0 : Int) < (L : Int) := by omega
        have hXr : X < wr.heap.size := HU.out.lt
        obtain ⟨k, z, hkz⟩ : ∃ k z, tokOf x = (k, z) := ⟨_, _, rfl⟩
        have HK : Hid (tokOf x = (k, z)) := hkz
        have HN1 : Hid (Calls Tryd.prog 24 #[.pointer (some ⟨X, 0, none⟩)] wr fun e w' => e = .returned (.string x) ∧ Hid (RD X w' vs fv) ∧ Save X wr w') := next X wr (x :: vs) fv HU.out
        have HRT : Hid (∀ w1, Save X wr w1 → Calls Tryd.prog 72 #[.string x] w1 fun e w' => e = .returned (.agg #[.int .i64 k, .int .i64 z]) ∧ Below w1.heap.size w1 w') := fun w1 s1 => by
          have h1 : Save X w w1 := hsv.trans s1
          have := readTok N x hsz w1 (Nat.le_trans hNX (Nat.le_trans (Nat.le_of_lt hX) h1.size)) (HE.out.below (h1.low hNX (by omega)))
          rw [hkz] at this
          exact this
        have HAs : Hid (∀ w1, Save X wr w1 → RD X w1 vs fv → Calls Tryd.prog 73 #[.pointer (some ⟨X, 0, none⟩), .agg #[.int .i64 k, .int .i64 z]] w1 fun e w' => e = .returned (.int .i64 (asksR nf par (k, z))) ∧ Below w1.heap.size w1 w') := fun w1 s1 r1 =>
          rasks X w1 vs fv nf par k z r1 (HP.out.save (hsv.trans s1) hX)
        have HX2 : Hid (exprR nf par 1 ws = ((acc ++ [(k, z)]) ++ (exprR nf par (wrap64 (wrap64 (A + asksR nf par (k, z)) - 1)) vs).1, (exprR nf par (wrap64 (wrap64 (A + asksR nf par (k, z)) - 1)) vs).2)) := by
          show _ = _
          rw [HX.out, exprR_next hA, hkz]; simp
        have hs2 : w.heap.size ≤ wr.heap.size := hsv.size
        generalize asksR nf par (k, z) = aa at *
        clear hkz hL
        go_wp2_with (first
          | (go_at_call 24; refine HN1.out.mono ?_; rintro e w1 ⟨rfl, H1, s1⟩)
          | (go_at_call 72; refine (HRT.out w1 s1).mono ?_; rintro e w2 ⟨rfl, b2⟩)
          | (go_at_call 73; refine (HAs.out _ ((s1.trans (Save.of b2)).trans (Save.alloc X _ _)) ((H1.out.keep b2).keep (below_alloc _ _))).mono ?_; rintro e w3 ⟨rfl, b3⟩; have q1 := box_in b3 0 rfl; have q2 := box_in b3 1 rfl; have s3 : Save X wr w3 := ((s1.trans (Save.of b2)).trans (Save.alloc X _ _)).trans (Save.of b3))
          | (at_builtin; refine append_tok w3 rfl _ _ rfl w.heap.size u3 acc k z rfl (HT.out.save hX s3) _ _ rfl rfl (by omega) (Nat.le_trans hs2 s3.size) ?_; intro v4 w4 H4 G4))
        go_roundg vs.length
        case rel =>
          refine ⟨acc ++ [(k, z)], vs, _, rfl, by simp; omega, rfl, H4, ?_, ?_, HX2⟩
          · show RD _ _ _ _
            exact (((H1.out.keep b2).keep (below_alloc _ _)).keep b3).below (G4.out.low (B := X + 1) (fun k hk => by have := HT.out.own k hk; omega) (by have := s3.size; omega))
          · exact G4.out.save (fun k hk => HT.out.own k hk) (Nat.le_refl _) (hsv.trans s3)
        case measure => omega
    · have HF : Hid (exprR nf par 1 ws = (acc, us)) := by
        show _ = _
        rw [HX.out, exprR_stop hA]; simp
      go_wp2_with fail
      go_ret
      refine ⟨_, rfl, ?_, ?_, hsv⟩
      · show ToksIn _ _ _ _
        rw [HF.out]
        exact HT.out.toks (by omega)
      · show RD _ _ _ _
        rw [HF.out]
        exact HU.out

end Go.Proofs.YtomfkfhipemlcabDoor
