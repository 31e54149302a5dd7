import Derived.Test.YtbmenihakkogkabGreatDoorAddStmt
import Derived.Test.YtbmenihakkogkabGreatDoorPart3
import Derived.Lib.ItoaLen
import Derived.Test.YtbmenihakkogkabGreatDoorPart2
namespace Go.Proofs.YtbmenihakkogkabGreatDoor
open Go.RowKit Go.Maps
theorem addStmt (N B nf : Nat) (par : Nat → Int) (locals : Int) (hl : locals ≤ 6) (hnf : nf ≤ 1000) (d : Nat) (hNB : N ≤ B) (HB : Hid (BlockOK N B nf par locals d)) (v : Value) (s : Nd) (ve vf va vb : Value) (a b : SL) (R : List Wd) (w : World)
    (hB : B ≤ w.heap.size) (he : Env N w) (t1 : ToksAt N w ve s.ne s.ek s.ez) (t2 : ToksAt N w vf s.nf s.fk s.fz) (s1 : StmtsAt N w d va a) (s2 : StmtsAt N w d vb b) (hs : stErr nf par locals s a.len b.len = 0)
    (ea : errs (stErr nf par locals) d a = 0) (eb : errs (stErr nf par locals) d b = 0) (hw : WS B w v R) (hlen : R.length + (stmtW (blkW d) s a b).length ≤ 500000) :
    Calls Tryz.prog 104 #[v, .agg #[.int .i64 s.kind, .int .i64 s.num, ve, vf, va, vb]] w fun e w' => ∃ v', e = .returned v' ∧ Hid (WS B w' v' (R ++ stmtW (blkW d) s a b)) ∧ Hid (Grow w v w' v') := by
  have F := stFacts (a := a) (b := b) hl hs
  have h1 := F.k1
  have h8 := F.k8
  obtain ⟨K, hK⟩ : ∃ K : Nat, s.kind = K := ⟨s.kind.toNat, by omega⟩
  rw [hK]
  have : (K = 1 ∨ K = 2) ∨ (K = 3 ∨ K = 4 ∨ K = 5 ∨ K = 8) ∨ (6 < K ∧ K < 8) ∨ (5 < K ∧ K < 7) := by omega
  rcases this with c | c | c | c
  · exact addStmt_num N B nf par locals hl hnf d hNB HB v s ve vf va vb a b R w hB he t1 t2 s1 s2 hs ea eb hw hlen K hK c
  · exact addStmt_plain N B nf par locals hl hnf d hNB HB v s ve vf va vb a b R w hB he t1 t2 s1 s2 hs ea eb hw hlen K hK c
  · exact addStmt_while N B nf par locals hl hnf d hNB HB v s ve vf va vb a b R w hB he t1 t2 s1 s2 hs ea eb hw hlen K hK c
  · exact addStmt_if N B nf par locals hl hnf d hNB HB v s ve vf va vb a b R w hB he t1 t2 s1 s2 hs ea eb hw hlen K hK c
def itW (d : Nat) (T : SL) (i : Nat) : List Wd := stmtW (blkW d) (T.nd i) (T.sub i false) (T.sub i true)
theorem catTo_le (f : Nat → List Wd) : ∀ {j n : Nat}, j ≤ n → (catTo f j).length ≤ (catTo f n).length
  | j, 0, h => by obtain rfl : j = 0 := by omega
                  exact Nat.le_refl _
  | j, n + 1, h => by
    by_cases e : j = n + 1
    · subst e; exact Nat.le_refl _
    · have := catTo_le f (j := j) (n := n) (by omega)
      simp only [catTo, List.length_append]; omega
set_option maxHeartbeats 2000000 in
theorem addBlock_zero (N B nf : Nat) (par : Nat → Int) (locals : Int) : BlockOK N B nf par locals 0 := by
  intro v l T R w hB he hs _ hw hlen
  obtain ⟨_, a, cap, rfl⟩ := hs
  have hl1 : R.length + 2 ≤ 500000 := by simpa [blkW] using hlen
  have HW : Hid (WS B w v R) := hw
  clear he hw hlen
  go_enter Tryz.func39, Tryz.ntmps39
  go_upto_region 2 with (first
    | (at_builtin; refine append_strL w rfl _ _ rfl B v R obW rfl HW.out _ _ rfl rfl (by omega) hB ?_; intro v1 w1 R1 eR1 lR1 hW1 hG1))
  have HW1 : Hid (WS B w1 v1 R1) := hW1
  have HG1 : Hid (Grow w v w1 v1) := hG1
  have hB1 : B ≤ w1.heap.size := Nat.le_trans hB hG1.size
  clear hW1 hG1
  go_upto_region 3 with (fail)
  go_loopw [0, 12] (fun q i wr => i = .int .i64 0 ∧ q = v1 ∧ wr = w1) (fun _ _ _ => 0)
  case atStart => exact ⟨rfl, rfl, rfl⟩
  case round =>
    obtain ⟨rfl, rfl, rfl⟩ := hrel
    go_wp2_with (first
      | (at_builtin; refine append_strL wr rfl _ _ rfl B u0 R1 cbW rfl HW1.out _ _ rfl rfl (by have := lR1.out; omega) hB1 ?_; intro v2 w2 R2 eR2 lR2 hW2 hG2))
    go_ret
    refine ⟨_, rfl, ?_, HG1.out.trans hG2⟩
    show WS _ _ _ _
    have e : R ++ blkW 0 T = R2 := by rw [eR2.out, eR1.out]; simp [blkW]
    rw [e]
    exact hW2
set_option maxHeartbeats 4000000 in
theorem addBlock_succ (N B nf : Nat) (par : Nat → Int) (locals : Int) (hl : locals ≤ 6) (hnf : nf ≤ 1000) (hNB : N ≤ B) (d : Nat) (HB : Hid (BlockOK N B nf par locals d)) : BlockOK N B nf par locals (d + 1) := by
  intro v l T R w hB he hs hes hw hlen
  obtain ⟨a, cap, rfl, hn, hc⟩ := hs
  have hl1 : R.length + 2 + (catTo (itW d T) T.len).length ≤ 500000 := by
    have : (blkW (d + 1) T).length = 2 + (catTo (itW d T) T.len).length := by
      show ((obW :: catTo (itW d T) T.len) ++ [cbW]).length = _
      simp; omega
    omega
  have HFin : Hid (blkW (d + 1) T = ([obW] ++ catTo (itW d T) T.len) ++ [cbW]) := rfl
  have HW : Hid (WS B w v R) := hw
  have HE : Hid (Env N w) := he
  have HES : Hid (errs (stErr nf par locals) (d + 1) T = 0) := hes
  have HC : Hid (T.len = 0 ∨ ∃ b o, a = some ⟨b, o, none⟩ ∧ b < N ∧ ∀ i, i < T.len →
      ∃ ve vf va vb, w.cell? ⟨b, o + i * 6, none⟩ = some (.int .i64 (T.nd i).kind) ∧ w.cell? ⟨b, o + i * 6 + 1, none⟩ = some (.int .i64 (T.nd i).num) ∧ w.cell? ⟨b, o + i * 6 + 2, none⟩ = some ve ∧ w.cell? ⟨b, o + i * 6 + 3, none⟩ = some vf ∧
        w.cell? ⟨b, o + i * 6 + 4, none⟩ = some va ∧ w.cell? ⟨b, o + i * 6 + 5, none⟩ = some vb ∧
        ToksAt N w ve (T.nd i).ne (T.nd i).ek (T.nd i).ez ∧ ToksAt N w vf (T.nd i).nf (T.nd i).fk (T.nd i).fz ∧ StmtsAt N w d va (T.sub i false) ∧ StmtsAt N w d vb (T.sub i true)) := hc
  have hlow := hw.low
  have HLow : Hid (∀ k, v.ownBlock = some k → B ≤ k) := hlow
  clear he hw hlen hc hes hlow
  go_enter Tryz.func39, Tryz.ntmps39
  go_upto_region 2 with (first
    | (at_builtin; refine append_strL w rfl _ _ rfl B v R obW rfl HW.out _ _ rfl rfl (by omega) hB ?_; intro v1 w1 R1 eR1 lR1 hW1 hG1))
  have HW1 : Hid (WS B w1 v1 R1) := hW1
  have HG1 : Hid (Grow w v w1 v1) := hG1
  clear hW1 hG1
  go_upto_region 3 with (fail)
  go_loopw [0, 12] (fun q i wr => ∃ (j : Nat) (R2 : List Wd), j ≤ T.len ∧ i = .int .i64 j ∧ Hid (WS B wr q R2) ∧ Hid (R2 = R1 ++ catTo (itW d T) j) ∧ Hid (Grow w v wr q)) (fun _ i _ => T.len - (intOf i).toNat)
  case atStart => exact ⟨0, R1, by omega, rfl, HW1, (List.append_nil _).symm, HG1⟩
  case round =>
    obtain ⟨j, R2, hj0, rfl, HW2, HR2, HG2⟩ := hrel
    have hbw : Below B w wr := HG2.out.low HLow.out hB
    have HBW : Hid (Below B w wr) := hbw
    have hBr : B ≤ wr.heap.size := Nat.le_trans hB hbw.size
    by_cases hj : j < T.len
    · obtain h | ⟨b, o, rfl, hb, hct⟩ := HC.out
      · omega
      obtain ⟨ve, vf, va, vb, c0, c1, c2, c3, c4, c5, t1, t2, s1, s2⟩ := hct j hj
      have hbN : b < B := Nat.lt_of_lt_of_le hb hNB
      rw [← hbw.cell (p := ⟨b, o + j * 6, none⟩) hbN] at c0
      rw [← hbw.cell (p := ⟨b, o + j * 6 + 1, none⟩) hbN] at c1
      rw [← hbw.cell (p := ⟨b, o + j * 6 + 2, none⟩) hbN] at c2
      rw [← hbw.cell (p := ⟨b, o + j * 6 + 3, none⟩) hbN] at c3
      rw [← hbw.cell (p := ⟨b, o + j * 6 + 4, none⟩) hbN] at c4
      rw [← hbw.cell (p := ⟨b, o + j * 6 + 5, none⟩) hbN] at c5
      have hji : (j : Int) < (T.len : Int) := by omega
      have hlj : R2.length + (itW d T j).length ≤ 500000 := by
        have h1 := catTo_le (itW d T) (j := j + 1) (n := T.len) (by omega)
        rw [catTo, List.length_append] at h1
        rw [HR2.out, List.length_append, lR1.out]
        omega
      have HCall : Hid (∀ w3, Below wr.heap.size wr w3 → Calls Tryz.prog 104 #[u0, .agg #[.int .i64 (T.nd j).kind, .int .i64 (T.nd j).num, ve, vf, va, vb]] w3 fun e w' => ∃ v', e = .returned v' ∧ Hid (WS B w' v' (R2 ++ itW d T j)) ∧ Hid (Grow w3 u0 w' v')) := by
        intro w3 h3
        have hB3 : Below B w w3 := hbw.trans (h3.mono hBr)
        obtain ⟨x1, x2, x3⟩ := errs_item HES.out hj
        exact addStmt N B nf par locals hl hnf d hNB HB u0 (T.nd j) ve vf va vb _ _ R2 w3 (Nat.le_trans hB hB3.size) (HE.out.below (hB3.mono hNB)) (t1.below (hB3.mono hNB)) (t2.below (hB3.mono hNB)) (s1.below (hB3.mono hNB)) (s2.below (hB3.mono hNB)) x1 x2 x3 (HW2.out.keep h3) hlj
      obtain ⟨y1, z1, rfl, _⟩ := t1.shape
      obtain ⟨y2, z2, rfl, _⟩ := t2.shape
      obtain ⟨y3, z3, rfl, _⟩ := s1.shape
      obtain ⟨y4, z4, rfl, _⟩ := s2.shape
      clear hct t1 t2 s1 s2 hlj hbw
      go_wp2_with (first
        | (go_at_call 104; refine (HCall.out _ (bal _ _)).mono ?_; rintro e w4 ⟨v4, rfl, HW4, HG4⟩))
      go_roundw
      case rel => exact ⟨j + 1, R2 ++ itW d T j, by omega, by go_num, HW4, (by show _ = _; rw [HR2.out, catTo, List.append_assoc]), HG2.out.trans ((Grow.of u0 (bal _ _)).trans HG4.out)⟩
      case measure => simp [intOf]; omega
    · obtain rfl : j = T.len := by omega
      have hl2 : R2.length + 1 ≤ 1000000 := by
        rw [HR2.out, List.length_append, lR1.out]; omega
      clear hbw
      go_wp2_with (first
        | (at_builtin; refine append_strL wr rfl _ _ rfl B u0 R2 cbW rfl HW2.out _ _ rfl rfl hl2 hBr ?_; intro v5 w5 R5 eR5 lR5 hW5 hG5))
      go_ret
      refine ⟨_, rfl, ?_, HG2.out.trans hG5⟩
      show WS _ _ _ _
      rw [HFin.out, ← List.append_assoc, ← List.append_assoc, ← eR1.out, ← HR2.out, ← eR5.out]
      exact hW5
theorem addBlock (N B nf : Nat) (par : Nat → Int) (locals : Int) (hl : locals ≤ 6) (hnf : nf ≤ 1000) (hNB : N ≤ B) : ∀ d, BlockOK N B nf par locals d
  | 0 => addBlock_zero N B nf par locals
  | d + 1 => addBlock_succ N B nf par locals hl hnf hNB d (addBlock N B nf par locals hl hnf hNB d)
end Go.Proofs.YtbmenihakkogkabGreatDoor
namespace Go.Proofs.YtbmenihakkogkabGreatDoor
open Go.RowKit
theorem blkW_all {P : Wd → Prop} (hob : P obW) (hcb : P cbW) (hst : ∀ k, P (bs (stL k))) (hnum : ∀ z : Int, 0 ≤ z → z ≤ 6 → P (numW z)) {nf : Nat} {par : Nat → Int} {locals : Int} (hl : locals ≤ 6) (htok : ∀ k z, tokErr k z nf locals = 0 → P (tokW k z)) :
    ∀ {d : Nat} {T : SL}, errs (stErr nf par locals) d T = 0 → ∀ w ∈ blkW d T, P w
  | 0, T, _, w, hw => by
    have : w = obW ∨ w = cbW := by simpa [blkW] using hw
    rcases this with rfl | rfl
    · exact hob
    · exact hcb
  | d + 1, T, h, w, hw => by
    have toks : ∀ {k z : Nat → Int} {n : Nat}, (∀ j, j < n → tokErr (k j) (z j) nf locals = 0) → ∀ w ∈ toksW k z n, P w := by
      intro k z n
      induction n with
      | zero => intro _ w hw; cases hw
      | succ n ih =>
        intro h w hw
        rcases List.mem_append.1 hw with hw | hw
        · exact ih (fun j hj => h j (by omega)) w hw
        · rw [List.mem_singleton] at hw; subst hw; exact htok _ _ (h n (by omega))
    rw [blkW, List.cons_append, List.mem_cons, List.mem_append, List.mem_singleton] at hw
    rcases hw with rfl | hw | rfl
    · exact hob
    · obtain ⟨i, hi, hw⟩ := catTo_mem hw
      obtain ⟨s0, s1, s2⟩ := errs_item h hi
      obtain ⟨f0, f1, f2, f3⟩ := stErr_zero s0
      obtain ⟨k1, k2, kn, ke, kf, ka, kb⟩ := formErr_zero f0
      simp only [stmtW, List.mem_append, List.mem_cons] at hw
      rcases hw with ((((rfl | hw) | hw) | hw) | hw) | hw
      · exact hst _
      · split at hw
        · next c =>
          rw [List.mem_singleton] at hw; subst hw
          unfold numErr at f1
          split at f1
          · cases f1
          · exact hnum _ (by omega) (by omega)
        · cases hw
      · by_cases c : (T.nd i).kind = 4
        · have hz : (T.nd i).ne = 0 := by omega
          rw [hz] at hw; cases hw
        · exact toks (expr_toks (f2.resolve_left c)) w hw
      · by_cases c : (T.nd i).kind = 2
        · exact toks (expr_toks (f3.resolve_left fun x => x c)) w hw
        · have hz : (T.nd i).nf = 0 := by omega
          rw [hz] at hw; cases hw
      · split at hw
        · exact blkW_all hob hcb hst hnum hl htok s1 w hw
        · cases hw
      · split at hw
        · exact blkW_all hob hcb hst hnum hl htok s2 w hw
        · cases hw
    · exact hcb
def shortW (w : Wd) : Prop := w.data.toList.length ≤ 30
theorem numW_short {z : Int} (h0 : -9223372036854775808 ≤ z) (h1 : z ≤ 9223372036854775807) : shortW (numW z) := by
  have := Lib.itoa_length_le z h0 h1
  show (Lib.itoa z).length ≤ 30
  omega
theorem tokW_short {k z : Int} {nf : Nat} {locals : Int} (hl : locals ≤ 6) (hn : nf ≤ 1000) (h : tokErr k z nf locals = 0) : shortW (tokW k z) := by
  have hz : -9223372036854775808 ≤ z ∧ z ≤ 9223372036854775807 := by
    unfold tokErr at h
    repeat' split at h
    all_goals first | omega | cases h
  have h2 := Lib.itoa_length_le z hz.1 hz.2
  unfold tokW shortW
  split
  · rw [bs_data]
    unfold opL
    split <;> decide
  · rw [bs_data, List.length_append]
    have : (mkL k.toNat).length ≤ 3 := by unfold mkL; split <;> decide
    omega
theorem stL_short (k : Nat) : shortW (bs (stL k)) := by
  show (stL k).length ≤ 30
  unfold stL
  split <;> decide
theorem progW_short {nf : Nat} {par loc : Nat → Int} {d : Nat} {body : Nat → SL} (h : progErr nf par loc d body = 0) : ∀ w ∈ progW nf par loc d body, shortW w := by
  intro w hw
  obtain ⟨i, hi, hw⟩ := catTo_mem hw
  obtain ⟨_, hn4, hh, hb⟩ := prog_zero h
  have r := head_range (hh i hi)
  rw [funWs, List.mem_append] at hw
  rcases hw with hw | hw
  · have : w = funW ∨ w = numW (par i) ∨ w = numW (loc i) := by simpa using hw
    rcases this with rfl | rfl | rfl
    · show (3 : Nat) ≤ 30; decide
    · exact numW_short (by omega) (by omega)
    · exact numW_short (by omega) (by omega)
  · exact blkW_all (P := shortW) (by show (1 : Nat) ≤ 30; decide) (by show (1 : Nat) ≤ 30; decide) stL_short (fun z h0 h6 => numW_short (by omega) (by omega)) (locals := loc i) (by omega) (fun k z t => tokW_short (by omega) (by omega) t) (bodyErr_errs (hb i hi)).2 w hw
theorem toksW_length (k z : Nat → Int) : ∀ n, (toksW k z n).length = n
  | 0 => rfl
  | n + 1 => by simp [toksW, toksW_length k z n]
theorem blk_len {nf : Nat} {par : Nat → Int} {locals : Int} : ∀ {d : Nat} {T : SL}, errs (stErr nf par locals) d T = 0 → (blkW d T).length ≤ 2 + 60 * size d T
  | 0, T, _ => by simp [blkW]
  | d + 1, T, h => by
    have key : ∀ n, n ≤ T.len → (catTo (fun i => stmtW (blkW d) (T.nd i) (T.sub i false) (T.sub i true)) n).length ≤ 60 * sumTo n (fun i => 1 + size d (T.sub i false) + size d (T.sub i true)) := by
      intro n
      induction n with
      | zero => intro _; simp [catTo]
      | succ n ih =>
        intro hn
        have ih := ih (by omega)
        obtain ⟨s0, s1, s2⟩ := errs_item h (i := n) (by omega)
        obtain ⟨f0, f1, f2, f3⟩ := stErr_zero s0
        obtain ⟨k1, k2, kn, ke, kf, ka, kb⟩ := formErr_zero f0
        have a1 := blk_len s1
        have a2 := blk_len s2
        have e1 : (T.nd n).ne ≤ 24 := by
          by_cases c : (T.nd n).kind = 4
          · omega
          · exact (exprErr_zero (f2.resolve_left c)).1
        have e2 : (T.nd n).nf ≤ 24 := by
          by_cases c : (T.nd n).kind = 2
          · exact (exprErr_zero (f3.resolve_left fun x => x c)).1
          · omega
        have hs : (stmtW (blkW d) (T.nd n) (T.sub n false) (T.sub n true)).length ≤ 60 * (1 + size d (T.sub n false) + size d (T.sub n true)) := by
          have q1 : (if (T.nd n).kind = 1 ∨ (T.nd n).kind = 2 then [numW (T.nd n).num] else ([] : List Wd)).length ≤ 1 := by split <;> simp
          have q2 : (if (T.nd n).kind = 6 ∨ (T.nd n).kind = 7 then blkW d (T.sub n false) else []).length ≤ (blkW d (T.sub n false)).length := by split <;> simp
          have q3 : (if (T.nd n).kind = 6 then blkW d (T.sub n true) else []).length ≤ (blkW d (T.sub n true)).length := by split <;> simp
          simp only [stmtW, List.length_append, List.length_cons, toksW_length]
          omega
        simp only [catTo, sumTo, List.length_append]
        omega
    have := key T.len (Nat.le_refl _)
    have e : (blkW (d + 1) T).length = 2 + (catTo (fun i => stmtW (blkW d) (T.nd i) (T.sub i false) (T.sub i true)) T.len).length := by
      rw [blkW]; simp; omega
    rw [e]
    show _ ≤ 2 + 60 * sumTo T.len (fun i => 1 + size d (T.sub i false) + size d (T.sub i true))
    omega
theorem catTo_len {f : Nat → List Wd} {c : Nat} : ∀ {n : Nat}, (∀ i, i < n → (f i).length ≤ c) → (catTo f n).length ≤ n * c
  | 0, _ => by simp [catTo]
  | n + 1, h => by
    have := catTo_len (n := n) fun i hi => h i (by omega)
    have := h n (by omega)
    simp only [catTo, List.length_append, Nat.succ_mul]
    omega
theorem fun_len {nf : Nat} {par loc : Nat → Int} {d : Nat} {body : Nat → SL} (h : progErr nf par loc d body = 0) : ∀ i, i < nf → (funWs d (par i) (loc i) (body i)).length ≤ 2000 := by
  obtain ⟨_, hn4, hh, hb⟩ := prog_zero h
  intro i hi
  obtain ⟨x, y⟩ := bodyErr_errs (hb i hi)
  have := blk_len y
  have := x.2
  simp only [funWs, List.length_append, List.length_cons, List.length_nil]
  omega
theorem prog_len {nf : Nat} {par loc : Nat → Int} {d : Nat} {body : Nat → SL} (h : progErr nf par loc d body = 0) : (progW nf par loc d body).length ≤ 8000 := by
  have := catTo_len (fun_len h)
  obtain ⟨_, hn4, _, _⟩ := prog_zero h
  unfold progW
  have : nf * 2000 ≤ 4 * 2000 := Nat.mul_le_mul_right _ hn4
  omega
theorem lens_short : ∀ {ws : List Wd}, (∀ w ∈ ws, shortW w) → Lib.lens (ws.map (·.data.toList)) ≤ ws.length * 30
  | [], _ => by simp [Lib.lens]
  | w :: ws, h => by
    have := lens_short fun x hx => h x (List.mem_cons_of_mem _ hx)
    have h1 : w.data.toList.length ≤ 30 := h w (by simp)
    simp only [Lib.lens, List.map_cons, List.sum_cons, List.length_cons, Nat.succ_mul] at this ⊢
    omega
theorem text_len {ws : List Wd} (h : ∀ w ∈ ws, shortW w) (hl : ws.length ≤ 8000) : (textL ws).length ≤ 1000000 := by
  cases ws with
  | nil => simp [textL, Lib.join_nil]
  | cons w ws =>
    unfold textL
    rw [List.map_cons, Lib.join_length]
    have := lens_short h
    simp only [List.map_cons, List.length_cons, List.length_map, List.length_nil] at *
    omega
set_option maxHeartbeats 2000000 in
theorem checkTok (k z : Int) (a : Option Addr) (nf cap : Nat) (locals : Int) (w : World) :
    Calls Tryz.prog 212 #[.agg #[.int .i64 k, .int .i64 z], .slice a nf cap, .int .i64 locals] w fun e w' => e = .returned (.int .i64 (tokErr k z nf locals)) ∧ Below w.heap.size w w' := by
  go_enter Tryz.func212, Tryz.ntmps212
  go_wp2
  all_goals
    go_ret
    refine ⟨rtn ?_, bal _ _⟩
    go_light
    try simp only [beq_iff_eq, ne_eq, beq_eq_false_iff_ne, Bool.not_eq_true', Bool.not_eq_false', decide_eq_false_iff_not, decide_eq_true_eq] at *
    unfold tokErr
    (repeat' split) <;> omega
set_option maxHeartbeats 1000000 in
theorem asks (N : Nat) (k z : Int) (v : Value) (nf : Nat) (par loc : Nat → Int) (bv : Nat → Value) (w : World) (h : FunsAt N w v nf par loc bv) (hc : k = 6 → 0 ≤ z ∧ z.toNat < nf) :
    Calls Tryz.prog 213 #[.agg #[.int .i64 k, .int .i64 z], v] w fun e w' => e = .returned (.int .i64 (asksOf k z par)) ∧ Below w.heap.size w w' := by
  by_cases hk : k = 6
  · obtain ⟨h0, h1⟩ := hc hk
    obtain ⟨i, rfl⟩ : ∃ i : Nat, z = i := ⟨z.toNat, by omega⟩
    have hi : i < nf := by omega
    obtain ⟨a, cap, rfl, hn, h | ⟨b, o, rfl, hlt, g⟩⟩ := h
    · omega
    obtain ⟨c0, c1, c2, _⟩ := g i hi
    have l0 := cell_lt c0
    have HE : Hid (asksOf k i par = par i) := by
      show asksOf k i par = par i
      subst hk; simp [asksOf]
    clear g hc h1
    subst hk
    go_enter Tryz.func213, Tryz.ntmps213
    go_wp2
    go_ret
    exact ⟨rtn HE.out.symm, bal _ _⟩
  · obtain ⟨a, cap, rfl, hn, _⟩ := h
    have hkt : (k == 6) = false := by simp [hk]
    clear hc
    go_enter Tryz.func213, Tryz.ntmps213
    go_wp2
    all_goals
      go_ret
      refine ⟨rtn ?_, bal _ _⟩
      go_light
      simp only [beq_iff_eq, beq_eq_false_iff_ne, ne_eq] at *
      unfold asksOf
      (repeat' split) <;> omega
set_option maxHeartbeats 2000000 in
theorem expr (N : Nat) (v f : Value) (n : Nat) (k z : Nat → Int) (nf : Nat) (par loc : Nat → Int) (bv : Nat → Value) (locals : Int) (w : World) (hN : N ≤ w.heap.size) (h : ToksAt N w v n k z) (hf : FunsAt N w f nf par loc bv) :
    Calls Tryz.prog 188 #[v, f, .int .i64 locals] w fun e w' => e = .returned (.int .i64 (exprErr n k z nf par locals)) ∧ Below w.heap.size w w' := by
  obtain ⟨a, cap, rfl, hn, h⟩ := h
  have hf0 := hf
  obtain ⟨af, capf, rfl, hnf, hf⟩ := hf
  by_cases hbig : 24 < n
  · have HE : Hid (exprErr n k z nf par locals = 2) := exprErr_many hbig
    have hbi : (24 : Int) < (n : Int) := by omega
    go_enter Tryz.func188, Tryz.ntmps188
    go_wp2_with fail
    go_ret
    exact ⟨rtn HE.out.symm, Below.refl _ _⟩
  have hbi : ¬ (24 : Int) < (n : Int) := by omega
  have HB : Hid (¬ 24 < n) := hbig
  go_enter Tryz.func188, Tryz.ntmps188
  go_wp2_with fail
  go_loopw [18] (fun i wr => ∃ j : Nat, j ≤ nf ∧ i = .int .i64 j ∧ Below w.heap.size w wr ∧ Hid (∀ x, x < j → parErr (par x) = 0)) (fun i _ => nf - (intOf i).toNat)
  case atStart => exact ⟨0, Nat.zero_le _, rfl, Below.refl _ _, fun j hj => absurd hj (Nat.not_lt_zero _)⟩
  case round =>
    obtain ⟨j, hj, rfl, hb, hall⟩ := hrel
    by_cases hlt : j < nf
    · rcases hf with hf | ⟨p, o, rfl, hp, g⟩
      · omega
      obtain ⟨q0, q1, q2, ba, bm, bc, eb⟩ := g j hlt
      have hp' : p < w.heap.size := by omega
      rw [eb] at q2
      rw [← hb.cell hp'] at q0 q1 q2
      clear g
      have hz := hb.size
      by_cases he : parErr (par j) = 0
      · obtain ⟨e0, e1⟩ := parErr_zero he
        have HE : Hid (parErr (par j) = 0) := he
        clear he
        go_wp2
        go_roundw
        case rel => exact ⟨j + 1, by omega, by go_num, (hb.alloc hz _).alloc (by simp; omega) _, upTo hall.out HE.out⟩
        case measure => simp [intOf]; omega
      · have HE : Hid (exprErr n k z nf par locals = 3) := exprErr_par HB.out hlt he
        have he' : par j < 0 ∨ 3 < par j := by
          unfold parErr at he
          by_cases hh : par j < 0 ∨ 3 < par j
          · exact hh
          · rw [if_neg hh] at he; exact absurd rfl he
        clear he
        rcases he' with e0 | e0
        · have e1 : ¬ 0 ≤ par j := by omega
          go_wp2
          go_ret
          exact ⟨rtn HE.out.symm, (hb.alloc hz _).alloc (by simp; omega) _⟩
        · have e1 : 0 ≤ par j := by omega
          have e2 : ¬ par j ≤ 3 := by omega
          go_wp2
          go_ret
          exact ⟨rtn HE.out.symm, (hb.alloc hz _).alloc (by simp; omega) _⟩
    · obtain rfl : j = nf := by omega
      clear hf
      go_wp2_with fail
      go_loopw [9, 28] (fun q i wi => ∃ x : Nat, x ≤ n ∧ i = .int .i64 x ∧ q = .int .i64 (asked k z par x) ∧ Below w.heap.size w wi ∧ Hid (∀ y, y < x → stepErr k z j par locals y = 0)) (fun _ i _ => n - (intOf i).toNat)
      case atStart => exact ⟨0, Nat.zero_le _, rfl, rfl, hb, fun j hj => absurd hj (Nat.not_lt_zero _)⟩
      case round =>
        clear hb
        obtain ⟨x, hx, rfl, rfl, hb, hin⟩ := hrel
        have hr := asked_range hall.out x hin.out
        have HX : Hid (asked k z par (x + 1) = asked k z par x + (asksOf (k x) (z x) par - 1)) := rfl
        by_cases hxlt : x < n
        · rcases h with h | ⟨p, o, rfl, hp, g⟩
          · omega
          obtain ⟨q0, q1⟩ := g x hxlt
          have hp' : p < w.heap.size := by omega
          rw [← hb.cell hp'] at q0 q1
          clear g
          have hz := hb.size
          by_cases he : tokErr (k x) (z x) j locals = 0
          · have hk := asks_range (par := par) he hall.out
            have hcall := fun e => tokErr_call he e
            by_cases ha : asked k z par x = 0
            · have het : (tokErr (k x) (z x) j locals != 0) = false := by simp [he]
              have HE : Hid (exprErr n k z j par locals = 4) := (exprErr_step HB.out hall.out hxlt hin.out (by rw [stepErr_over he ha]; decide)).trans (stepErr_over he ha)
              have hat : (asked k z par x == 0) = true := by simp [ha]
              clear he ha hr HX hcall hk
              go_wp2_with (go_at_call 212; refine (checkTok _ _ _ _ _ _ _).mono ?_; rintro e w1 ⟨rfl, hb1⟩)
              go_ret
              exact ⟨rtn HE.out.symm, bst hb (bst (bal _ _) hb1)⟩
            · have het : (tokErr (k x) (z x) j locals != 0) = false := by simp [he]
              have HE : Hid (stepErr k z j par locals x = 0) := stepErr_good he ha
              have hat : (asked k z par x == 0) = false := by simp [ha]
              have HC : Hid (k x = 6 → 0 ≤ z x ∧ (z x).toNat < j) := hcall
              have hx2 : x ≤ 24 := by have := HB.out; omega
              clear he ha hcall
              go_wp2_with (first
                | (go_at_call 212; refine (checkTok _ _ _ _ _ _ _).mono ?_; rintro e w1 ⟨rfl, hb1⟩; have m0 := bxi hb1 0 rfl; have m1 := bxi hb1 1 rfl)
                | (go_at_call 213; refine (asks N _ _ _ _ _ _ _ _ (hf0.below (below_up (hb.mono hN) (bst (bal _ _) hb1) hN)) HC.out).mono ?_; rintro e w2 ⟨rfl, hb2⟩))
              go_roundw
              case rel => exact ⟨x + 1, by omega, by go_num, by rw [HX.out], bst hb (bst (bst (bal _ _) hb1) hb2), upTo hin.out HE.out⟩
              case measure => simp [intOf]; omega
          · have het : (tokErr (k x) (z x) j locals != 0) = true := by simp [he]
            have HE : Hid (exprErr n k z j par locals = tokErr (k x) (z x) j locals) := (exprErr_step HB.out hall.out hxlt hin.out (by rw [stepErr_bad he]; exact he)).trans (stepErr_bad he)
            clear he hr HX
            go_wp2_with (go_at_call 212; refine (checkTok _ _ _ _ _ _ _).mono ?_; rintro e w1 ⟨rfl, hb1⟩)
            go_ret
            exact ⟨rtn HE.out.symm, bst hb (bst (bal _ _) hb1)⟩
        · obtain rfl : x = n := by omega
          have HE : Hid (exprErr x k z j par locals = if 0 < asked k z par x then 4 else 0) := exprErr_end HB.out hall.out hin.out
          by_cases ha : 0 < asked k z par x
          · have HF : Hid (exprErr x k z j par locals = 4) := HE.out.trans (if_pos ha)
            clear HE
            go_wp2_with fail
            go_ret
            exact ⟨rtn HF.out.symm, hb⟩
          · have HF : Hid (exprErr x k z j par locals = 0) := HE.out.trans (if_neg ha)
            clear HE
            go_wp2_with fail
            go_ret
            exact ⟨rtn HF.out.symm, hb⟩
theorem formErr_yes {s : Nd} {la lb : Nat} (h : ¬ (s.kind < 1 ∨ 8 < s.kind ∨ (¬ s.num = 0 ∧ ¬ s.kind = 1 ∧ ¬ s.kind = 2) ∨ (0 < s.ne ∧ s.kind = 4) ∨ (0 < s.nf ∧ ¬ s.kind = 2) ∨ (0 < la ∧ ¬ s.kind = 6 ∧ ¬ s.kind = 7) ∨ (0 < lb ∧ ¬ s.kind = 6))) : true = (formErr s la lb == 0) := by
  unfold formErr; rw [if_neg h]; rfl
theorem formErr_no {s : Nd} {la lb : Nat} (h : s.kind < 1 ∨ 8 < s.kind ∨ (¬ s.num = 0 ∧ ¬ s.kind = 1 ∧ ¬ s.kind = 2) ∨ (0 < s.ne ∧ s.kind = 4) ∨ (0 < s.nf ∧ ¬ s.kind = 2) ∨ (0 < la ∧ ¬ s.kind = 6 ∧ ¬ s.kind = 7) ∨ (0 < lb ∧ ¬ s.kind = 6)) : false = (formErr s la lb == 0) := by
  unfold formErr; rw [if_pos h]; rfl
set_option maxHeartbeats 4000000 in
theorem formed (s : Nd) (la lb : Nat) (ae af aa ab : Option Addr) (ce cf ca cb : Nat) (w : World) :
    Calls Tryz.prog 187 #[.agg #[.int .i64 s.kind, .int .i64 s.num, .slice ae s.ne ce, .slice af s.nf cf, .slice aa la ca, .slice ab lb cb]] w fun e w' => e = .returned (.bool (formErr s la lb == 0)) ∧ Below w.heap.size w w' := by
  go_enter Tryz.func187, Tryz.ntmps187
  go_wp2
  all_goals
    go_ret
    refine ⟨ret_bool ?_, bal _ _⟩
    go_light
    first | refine formErr_no ?_ | refine formErr_yes ?_
    try simp only [beq_iff_eq, bne_iff_ne, ne_eq, beq_eq_false_iff_ne, bne_eq_false_iff_eq] at *
    omega
end Go.Proofs.YtbmenihakkogkabGreatDoor
