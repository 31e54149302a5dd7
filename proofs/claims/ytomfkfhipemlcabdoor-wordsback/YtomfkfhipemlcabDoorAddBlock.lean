/- The words of statements between braces at the end of a row of words, by the program. -/
import Derived.Test.YtomfkfhipemlcabDoorAddStmt
namespace Go.Proofs.YtomfkfhipemlcabDoor
open Go.RowKit Go.Maps

/-- A right statement's words at the end of a row. -/
theorem addStmt (N B nf : Nat) (par : Nat → Int) (locals : Int) (hl : locals ≤ 6) (hnf : nf ≤ 1000) (d : Nat) (hNB : N ≤ B) (HB : Hid (BlockOK N B nf par locals d)) (v : Value) (s : Nd) (ve vf va vb : Value) (a b : SL) (R : List Wd) (w : World)
    (hB : B ≤ w.heap.size) (he : Env N w) (t1 : ToksAt N w ve s.ne s.ek s.ez) (t2 : ToksAt N w vf s.nf s.fk s.fz) (s1 : StmtsAt N w d va a) (s2 : StmtsAt N w d vb b) (hs : stErr nf par locals s a.len b.len = 0)
    (ea : errs (stErr nf par locals) d a = 0) (eb : errs (stErr nf par locals) d b = 0) (hw : WS B w v R) (hlen : R.length + (stmtW (blkW d) s a b).length ≤ 500000) :
    Calls Tryd.prog 18 #[v, .agg #[.int .i64 s.kind, .int .i64 s.num, ve, vf, va, vb]] w fun e w' => ∃ v', e = .returned v' ∧ Hid (WS B w' v' (R ++ stmtW (blkW d) s a b)) ∧ Hid (Grow w v w' v') := by
  have F := stFacts (a := a) (b := b) hl hs
  have h1 := F.k1
  have h8 := F.k8
  obtain ⟨K, hK⟩ : ∃ K : Nat, s.kind = K := ⟨s.kind.toNat, by omega⟩
  rw [hK]
  have : (K = 1 ∨ K = 2) ∨ (K = 3 ∨ K = 4 ∨ K = 5 ∨ K = 8) ∨ (6 < K ∧ K < 8) ∨ (5 < K ∧ K < 7) := by omega
  rcases this with c | c | c | c
  · exact addStmt_num N B nf par locals hl hnf d hNB HB v s ve vf va vb a b R w hB he t1 t2 s1 s2 hs ea eb hw hlen K hK c
  · exact addStmt_plain N B nf par locals hl hnf d hNB HB v s ve vf va vb a b R w hB he t1 t2 s1 s2 hs ea eb hw hlen K hK c
  · exact addStmt_while N B nf par locals hl hnf d hNB HB v s ve vf va vb a b R w hB he t1 t2 s1 s2 hs ea eb hw hlen K hK c
  · exact addStmt_if N B nf par locals hl hnf d hNB HB v s ve vf va vb a b R w hB he t1 t2 s1 s2 hs ea eb hw hlen K hK c

/-- What the words of the first i statements are. -/
def itW (d : Nat) (T : SL) (i : Nat) : List Wd := stmtW (blkW d) (T.nd i) (T.sub i false) (T.sub i true)
theorem catTo_le (f : Nat → List Wd) : ∀ {j n : Nat}, j ≤ n → (catTo f j).length ≤ (catTo f n).length
  | j, 0, h => by obtain rfl : j = 0 := by omega
                  exact Nat.le_refl _
  | j, n + 1, h => by
    by_cases e : j = n + 1
    · subst e; exact Nat.le_refl _
    · have := catTo_le f (j := j) (n := n) (by omega)
      simp only [catTo, List.length_append]; omega

set_option maxHeartbeats 2000000 in
theorem addBlock_zero (N B nf : Nat) (par : Nat → Int) (locals : Int) : BlockOK N B nf par locals 0 := by
  intro v l T R w hB he hs _ hw hlen
  obtain ⟨_, a, cap, rfl⟩ := hs
  have hl1 : R.length + 2 ≤ 500000 := by simpa [blkW] using hlen
  have HW : Hid (WS B w v R) := hw
  clear he hw hlen
  go_enter Tryd.func10, Tryd.ntmps10
  go_upto_region 2 with (first
    | (at_builtin; refine append_strL w rfl _ _ rfl B v R obW rfl HW.out _ _ rfl rfl (by omega) hB ?_; intro v1 w1 R1 eR1 lR1 hW1 hG1))
  have HW1 : Hid (WS B w1 v1 R1) := hW1
  have HG1 : Hid (Grow w v w1 v1) := hG1
  have hB1 : B ≤ w1.heap.size := Nat.le_trans hB hG1.size
  clear hW1 hG1
  go_upto_region 3 with (fail)
  go_loopw [0, 12] (fun q i wr => i = .int .i64 0 ∧ q = v1 ∧ wr = w1) (fun _ _ _ => 0)
  case atStart => exact ⟨rfl, rfl, rfl⟩
  case round =>
    obtain ⟨rfl, rfl, rfl⟩ := hrel
    go_wp2_with (first
      | (at_builtin; refine append_strL wr rfl _ _ rfl B u0 R1 cbW rfl HW1.out _ _ rfl rfl (by have := lR1.out; omega) hB1 ?_; intro v2 w2 R2 eR2 lR2 hW2 hG2))
    go_ret
    refine ⟨_, rfl, ?_, HG1.out.trans hG2⟩
    show WS _ _ _ _
    have e : R ++ blkW 0 T = R2 := by rw [eR2.out, eR1.out]; simp [blkW]
    rw [e]
    exact hW2

set_option maxHeartbeats 4000000 in
theorem addBlock_succ (N B nf : Nat) (par : Nat → Int) (locals : Int) (hl : locals ≤ 6) (hnf : nf ≤ 1000) (hNB : N ≤ B) (d : Nat) (HB : Hid (BlockOK N B nf par locals d)) : BlockOK N B nf par locals (d + 1) := by
  intro v l T R w hB he hs hes hw hlen
  obtain ⟨a, cap, rfl, hn, hc⟩ := hs
  have hl1 : R.length + 2 + (catTo (itW d T) T.len).length ≤ 500000 := by
    have : (blkW (d + 1) T).length = 2 + (catTo (itW d T) T.len).length := by
      show ((obW :: catTo (itW d T) T.len) ++ [cbW]).length = _
      simp; omega
    omega
  have HFin : Hid (blkW (d + 1) T = ([obW] ++ catTo (itW d T) T.len) ++ [cbW]) := rfl
  have HW : Hid (WS B w v R) := hw
  have HE : Hid (Env N w) := he
  have HES : Hid (errs (stErr nf par locals) (d + 1) T = 0) := hes
  have HC : Hid (T.len = 0 ∨ ∃ b o, a = some ⟨b, o, none⟩ ∧ b < N ∧ ∀ i, i < T.len →
      ∃ ve vf va vb, w.cell? ⟨b, o + i * 6, none⟩ = some (.int .i64 (T.nd i).kind) ∧ w.cell? ⟨b, o + i * 6 + 1, none⟩ = some (.int .i64 (T.nd i).num) ∧ w.cell? ⟨b, o + i * 6 + 2, none⟩ = some ve ∧ w.cell? ⟨b, o + i * 6 + 3, none⟩ = some vf ∧
        w.cell? ⟨b, o + i * 6 + 4, none⟩ = some va ∧ w.cell? ⟨b, o + i * 6 + 5, none⟩ = some vb ∧
        ToksAt N w ve (T.nd i).ne (T.nd i).ek (T.nd i).ez ∧ ToksAt N w vf (T.nd i).nf (T.nd i).fk (T.nd i).fz ∧ StmtsAt N w d va (T.sub i false) ∧ StmtsAt N w d vb (T.sub i true)) := hc
  have hlow := hw.low
  have HLow : Hid (∀ k, v.ownBlock = some k → B ≤ k) := hlow
  clear he hw hlen hc hes hlow
  go_enter Tryd.func10, Tryd.ntmps10
  go_upto_region 2 with (first
    | (at_builtin; refine append_strL w rfl _ _ rfl B v R obW rfl HW.out _ _ rfl rfl (by omega) hB ?_; intro v1 w1 R1 eR1 lR1 hW1 hG1))
  have HW1 : Hid (WS B w1 v1 R1) := hW1
  have HG1 : Hid (Grow w v w1 v1) := hG1
  clear hW1 hG1
  go_upto_region 3 with (fail)
  go_loopw [0, 12] (fun q i wr => ∃ (j : Nat) (R2 : List Wd), j ≤ T.len ∧ i = .int .i64 j ∧ Hid (WS B wr q R2) ∧ Hid (R2 = R1 ++ catTo (itW d T) j) ∧ Hid (Grow w v wr q)) (fun _ i _ => T.len - (intOf i).toNat)
  case atStart => exact ⟨0, R1, by omega, rfl, HW1, (List.append_nil _).symm, HG1⟩
  case round =>
    obtain ⟨j, R2, hj0, rfl, HW2, HR2, HG2⟩ := hrel
    have hbw : Below B w wr := HG2.out.low HLow.out hB
    have HBW : Hid (Below B w wr) := hbw
    have hBr : B ≤ wr.heap.size := Nat.le_trans hB hbw.size
    by_cases hj : j < T.len
    · obtain h | ⟨b, o, rfl, hb, hct⟩ := HC.out
      · omega
      obtain ⟨ve, vf, va, vb, c0, c1, c2, c3, c4, c5, t1, t2, s1, s2⟩ := hct j hj
      have hbN : b < B := Nat.lt_of_lt_of_le hb hNB
      rw [← hbw.cell (p := ⟨b, o + j * 6, none⟩) hbN] at c0
      rw [← hbw.cell (p := ⟨b, o + j * 6 + 1, none⟩) hbN] at c1
      rw [← hbw.cell (p := ⟨b, o + j * 6 + 2, none⟩) hbN] at c2
      rw [← hbw.cell (p := ⟨b, o + j * 6 + 3, none⟩) hbN] at c3
      rw [← hbw.cell (p := ⟨b, o + j * 6 + 4, none⟩) hbN] at c4
      rw [← hbw.cell (p := ⟨b, o + j * 6 + 5, none⟩) hbN] at c5
      have hji : (j : Int) < (T.len : Int) := by omega
      have hlj : R2.length + (itW d T j).length ≤ 500000 := by
        have h1 := catTo_le (itW d T) (j := j + 1) (n := T.len) (by omega)
        rw [catTo, List.length_append] at h1
        rw [HR2.out, List.length_append, lR1.out]
        omega
      have HCall : Hid (∀ w3, Below wr.heap.size wr w3 → Calls Tryd.prog 18 #[u0, .agg #[.int .i64 (T.nd j).kind, .int .i64 (T.nd j).num, ve, vf, va, vb]] w3 fun e w' => ∃ v', e = .returned v' ∧ Hid (WS B w' v' (R2 ++ itW d T j)) ∧ Hid (Grow w3 u0 w' v')) := by
        intro w3 h3
        have hB3 : Below B w w3 := hbw.trans (h3.mono hBr)
        obtain ⟨x1, x2, x3⟩ := errs_item HES.out hj
        exact addStmt N B nf par locals hl hnf d hNB HB u0 (T.nd j) ve vf va vb _ _ R2 w3 (Nat.le_trans hB hB3.size) (HE.out.below (hB3.mono hNB)) (t1.below (hB3.mono hNB)) (t2.below (hB3.mono hNB)) (s1.below (hB3.mono hNB)) (s2.below (hB3.mono hNB)) x1 x2 x3 (HW2.out.keep h3) hlj
      obtain ⟨y1, z1, rfl, _⟩ := t1.shape
      obtain ⟨y2, z2, rfl, _⟩ := t2.shape
      obtain ⟨y3, z3, rfl, _⟩ := s1.shape
      obtain ⟨y4, z4, rfl, _⟩ := s2.shape
      clear hct t1 t2 s1 s2 hlj hbw
      go_wp2_with (first
        | (go_at_call 18; refine (HCall.out _ (below_alloc _ _)).mono ?_; rintro e w4 ⟨v4, rfl, HW4, HG4⟩))
      go_roundw
      case rel => exact ⟨j + 1, R2 ++ itW d T j, by omega, by go_num, HW4, (by show _ = _; rw [HR2.out, catTo, List.append_assoc]), HG2.out.trans ((Grow.of u0 (below_alloc _ _)).trans HG4.out)⟩
      case measure => simp [intOf]; omega
    · obtain rfl : j = T.len := by omega
      have hl2 : R2.length + 1 ≤ 1000000 := by
        rw [HR2.out, List.length_append, lR1.out]; omega
      clear hbw
      go_wp2_with (first
        | (at_builtin; refine append_strL wr rfl _ _ rfl B u0 R2 cbW rfl HW2.out _ _ rfl rfl hl2 hBr ?_; intro v5 w5 R5 eR5 lR5 hW5 hG5))
      go_ret
      refine ⟨_, rfl, ?_, HG2.out.trans hG5⟩
      show WS _ _ _ _
      rw [HFin.out, ← List.append_assoc, ← List.append_assoc, ← eR1.out, ← HR2.out, ← eR5.out]
      exact hW5

/-- addBlock, at right statements. -/
theorem addBlock (N B nf : Nat) (par : Nat → Int) (locals : Int) (hl : locals ≤ 6) (hnf : nf ≤ 1000) (hNB : N ≤ B) : ∀ d, BlockOK N B nf par locals d
  | 0 => addBlock_zero N B nf par locals
  | d + 1 => addBlock_succ N B nf par locals hl hnf hNB d (addBlock N B nf par locals hl hnf hNB d)

end Go.Proofs.YtomfkfhipemlcabDoor
