import Derived.Test.YtbmenihakkogkabGreatDoorRdBlock
namespace Go.Proofs.YtbmenihakkogkabGreatDoor
open Go.RowKit Go.Maps
def flatF : List (Int × Int) → List Value
  | [] => []
  | t :: l => .int .i64 t.1 :: .int .i64 t.2 :: .slice none 0 0 :: flatF l
theorem flatF_append : ∀ (l m : List (Int × Int)), flatF (l ++ m) = flatF l ++ flatF m
  | [], _ => rfl
  | t :: l, m => by simp [flatF, flatF_append l m]
theorem flatF_at : ∀ (l : List (Int × Int)) (i : Nat), i < l.length → (flatF l)[i * 3]? = some (.int .i64 (l.getD i (0, 0)).1) ∧ (flatF l)[i * 3 + 1]? = some (.int .i64 (l.getD i (0, 0)).2) ∧ (flatF l)[i * 3 + 2]? = some (.slice none 0 0)
  | [], i, h => absurd h (Nat.not_lt_zero _)
  | t :: l, 0, _ => ⟨rfl, rfl, rfl⟩
  | t :: l, i + 1, h => by
    have := flatF_at l i (by simpa using h)
    rw [show (i + 1) * 3 = i * 3 + 1 + 1 + 1 by omega]
    simpa [flatF] using this
def FS (B : Nat) (w : World) (v : Value) (l : List (Int × Int)) : Prop := w.ownsRow B 43 3 v l.length (flatF l)
theorem FS.below {B M : Nat} {w w' : World} {v : Value} {l : List (Int × Int)} (h : FS B w v l) (hb : Below M w w') (hM : ∀ k, v.ownBlock = some k → k < M) : FS B w' v l := by
  refine ⟨h.1, ?_⟩
  rcases h.2 with ⟨rfl, h0⟩ | ⟨g, cap, cur, rfl, h1, h2, h3⟩
  · exact Or.inl ⟨rfl, h0⟩
  · exact Or.inr ⟨g, cap, cur, rfl, h1, by rw [hb.block g (hM g rfl)]; exact h2, h3⟩
theorem FS.own {B : Nat} {w : World} {v : Value} {l : List (Int × Int)} (h : FS B w v l) : ∀ k, v.ownBlock = some k → B ≤ k ∧ k < w.heap.size := by
  intro k hk
  rcases h.2 with ⟨rfl, _⟩ | ⟨g, cap, cur, rfl, hb, hg, _⟩
  · cases hk
  · cases hk; exact ⟨hb, (Array.getElem?_eq_some_iff.1 hg).1⟩
theorem info35 : (Tryz.prog.info? 43).map (fun i => (i.zero, i.size, i.bytes)) = some (some (.agg #[.int .i64 0, .int .i64 0, .slice none 0 0]), 3, 40) := by kernel_rfl
theorem append_head {ops : Array Oper} {rest : List Oper} {o : Oper} {a : Act} {Q : Exit → Act → World → Prop} (w : World) (hgd : o.guard = none) (s y : Operand)
    (ho : o.op = .call { callee := .builtin .append, args := #[s, y], argTypes := #[22, 22] }) (base : Nat) (v : Value) (l : List (Int × Int)) (k z : Int) (hs : a.eval s = v) (hown : FS base w v l)
    (t : TypeId) (B : Nat) (hB : w.heap.size = B) (hy : a.eval y = .slice (some ⟨B, 0, none⟩) 1 1) (hR : l.length + 1 ≤ 1000000) (hbase : base ≤ w.heap.size)
    (h : ∀ v' w2, Hid (FS base w2 v' (l ++ [(k, z)])) → Hid (Grow w v w2 v') → wpList Tryz.prog ops Q rest (a.put o.dst v') w2) :
    wpList Tryz.prog ops Q (o :: rest) a (w.alloc (.cells #[.int .i64 k, .int .i64 z, .slice none 0 0] t)) := by
  subst hB
  obtain ⟨i0, hi, hz0, hz1, hz2⟩ := info_parts info35
  have hk : Below w.heap.size w (w.alloc (.cells #[.int .i64 k, .int .i64 z, .slice none 0 0] t)) := bal _ _
  refine wpList_append_own_at _ hgd s y 22 ho base 43 i0 (.agg #[.int .i64 0, .int .i64 0, .slice none 0 0]) 3 40 Tryz.underlying22 hi hz0 hz1 hz2 rfl (by decide) v _ _ hs (hown.alloc _) ⟨w.heap.size, 0, none⟩ 1 1 [.int .i64 k, .int .i64 z, .slice none 0 0] hy rfl (fun j u hj => ?_) (fun u hu => ?_) (by unfold maxLen; omega) (by omega) (Nat.le_trans hbase hk.size) ?_
  · rw [WideShapes.add_plain, Nat.zero_add, World.cell?_alloc_new]
    show ([Value.int .i64 k, .int .i64 z, .slice none 0 0].toArray)[j]? = some u
    rw [List.getElem?_toArray]
    exact hj
  · simp only [List.mem_cons, List.not_mem_nil, or_false] at hu
    rcases hu with rfl | rfl | rfl <;> rfl
  · intro v' w2 h1 h2 _ h4
    refine h v' w2 ?_ ⟨h2.os, h2.tape, h2.output, Nat.le_trans hk.size h2.size, fun k hk1 hk2 => ?_, fun k hk1 hk2 => ?_⟩
    · show FS _ _ _ _
      unfold FS
      rw [List.length_append, flatF_append]
      exact h1
    · rw [h2.block k (Nat.lt_of_lt_of_le hk1 hk.size) (fun e => hk2 e.symm)]
      exact hk.block k hk1
    · rcases h4 with h4 | h4
      · rw [← h4]; exact hk2
      · have h5 := Option.some.inj (h4.symm.trans hk2)
        have h6 := hk.size
        omega
theorem rd_new {g o cap m : Nat} {ws : List Wd} {W : World} (h0 : ∀ y ∈ ws, y.size ≤ 100000) (h1 : ws.length ≤ 100000) (hc : ws.length ≤ cap) (hg : g < W.heap.size) (hm : m ≤ ws.length) (hcell : ∀ j y, ws[j]? = some y → W.cell? ⟨g, o + j, none⟩ = some (.string y)) (fv : Value) (hf : ¬ fv.ownBlock = some g) :
    RD W.heap.size (W.alloc (.cells #[.slice (some ⟨g, if cap = m then o else o + m, none⟩) (ws.length - m) (cap - m), fv] 155)) (ws.drop m) fv := by
  refine ⟨_, heap_alloc_new W _, fun y hy => h0 y (List.mem_of_mem_drop hy), by rw [List.length_drop]; omega, some ⟨g, if cap = m then o else o + m, none⟩, cap - m, by rw [List.length_drop], by rw [List.length_drop]; omega, ?_⟩
  by_cases e : ws.drop m = []
  · exact Or.inl e
  · have hlt : m < ws.length := by
      have := List.length_pos_iff.2 e
      rw [List.length_drop] at this; omega
    rw [if_neg (by omega)]
    refine Or.inr ⟨g, o + m, rfl, hg, hf, fun j x hj => ?_⟩
    rw [(bal W _).cell (p := ⟨g, o + m + j, none⟩) hg, Nat.add_assoc]
    exact hcell _ _ (by rw [← List.getElem?_drop]; exact hj)
theorem funEq (x : Wd) : (x.toList == [102, 117, 110]) = decide (x = funW) := by
  have e : ([102, 117, 110] : List UInt8) = funW.toList := by rw [ByteArray.toList_eq]; rfl
  rw [e, strEq]
theorem drop_cons {ws : List Wd} {j : Nat} (h : j < ws.length) : ∃ x, ws[j]? = some x ∧ ws.drop j = x :: ws.drop (j + 1) :=
  ⟨ws[j], List.getElem?_eq_getElem h, List.drop_eq_getElem_cons h⟩
set_option maxHeartbeats 4000000 in
theorem heads (N : Nat) (w : World) (hN : N ≤ w.heap.size) (he : Env N w) (g o cap : Nat) (ws : List Wd) (h0 : ∀ y ∈ ws, y.size ≤ 100000) (h1 : ws.length ≤ 100000) (hc : ws.length ≤ cap) (hg : g < w.heap.size) (hcell : ∀ j y, ws[j]? = some y → w.cell? ⟨g, o + j, none⟩ = some (.string y)) (L : Nat) (hL : ws.length = L) :
    Calls Tryz.prog 108 #[.slice (some ⟨g, o, none⟩) L cap] w fun e w' => ∃ v, e = .returned v ∧ Hid (FS w.heap.size w' v (headsR ws)) ∧ Below w.heap.size w w' := by
  have HC : Hid (∀ j y, ws[j]? = some y → w.cell? ⟨g, o + j, none⟩ = some (.string y)) := hcell
  have HE : Hid (Env N w) := he
  have H0 : Hid (∀ y ∈ ws, y.size ≤ 100000) := h0
  have HL : Hid (ws.length = L) := hL
  have hL1 : L ≤ 100000 := by omega
  have hLc : L ≤ cap := by omega
  clear hcell he h0 h1 hc hL
  go_enter Tryz.func108, Tryz.ntmps108
  go_upto_region 3 with (fail)
  go_loopw [3, 10] (fun q i wr => ∃ (j : Nat) (acc : List (Int × Int)), j ≤ L ∧ i = .int .i64 j ∧ acc.length ≤ j ∧ Hid (FS w.heap.size wr q acc) ∧ Hid (headsR ws = acc ++ headsR (ws.drop j)) ∧ Below w.heap.size w wr) (fun _ i _ => L - (intOf i).toNat)
  case atStart => exact ⟨0, [], by omega, rfl, by simp, ⟨rfl, Or.inl ⟨rfl, rfl⟩⟩, (by show _ = _; simp), Below.refl _ _⟩
  case round =>
    obtain ⟨j, acc, hj0, rfl, hal, HF, HX, hbw⟩ := hrel
    by_cases hj : j < L
    · obtain ⟨x, hx, hd⟩ := drop_cons (ws := ws) (j := j) (by rw [HL.out]; exact hj)
      have q0 : wr.cell? ⟨g, o + j, none⟩ = some (.string x) := by
        rw [hbw.cell (p := ⟨g, o + j, none⟩) hg]; exact HC.out j x hx
      have hji : (j : Int) < (L : Int) := by omega
      by_cases hf : x = funW
      · have hxb : (x.toList == [102, 117, 110]) = true := by rw [funEq]; simp [hf]
        have HX2 : Hid (headsR ws = (acc ++ [(numR (ws.drop (j + 1)), numR (ws.drop (j + 1)).tail)]) ++ headsR (ws.drop (j + 1))) := by
          show _ = _
          rw [HX.out, hd, headsR, if_pos hf]; simp
        have hsl := slice_from g o L cap (j + 1) ((j : Int) + 1) (by omega) (by omega)
        have hrd := rd_new (o := o) (cap := cap) (m := j + 1) (W := wr) H0.out (by rw [HL.out]; exact hL1) (by rw [HL.out]; exact hLc) (Nat.lt_of_lt_of_le hg hbw.size) (by rw [HL.out]; omega) (fun j y hy => by rw [hbw.cell (p := ⟨g, o + j, none⟩) hg]; exact HC.out j y hy) (.slice none 0 0) (fun e => by cases e)
        rw [HL.out] at hrd
        generalize (if cap = j + 1 then o else o + (j + 1)) = o2 at *
        have hal0 := bal wr (.cells #[.slice (some ⟨g, o2, none⟩) (L - (j + 1)) (cap - (j + 1)), .slice none 0 0] 155)
        have HRD : Hid (RD wr.heap.size (wr.alloc (.cells #[.slice (some ⟨g, o2, none⟩) (L - (j + 1)) (cap - (j + 1)), .slice none 0 0] 155)) (ws.drop (j + 1)) (.slice none 0 0)) := hrd
        have HAl : Hid (Below wr.heap.size wr (wr.alloc (.cells #[.slice (some ⟨g, o2, none⟩) (L - (j + 1)) (cap - (j + 1)), .slice none 0 0] 155))) := hal0
        have hNr : N ≤ wr.heap.size := Nat.le_trans hN hbw.size
        have HEr : Hid (∀ w1, Below wr.heap.size wr w1 → Env N w1) := fun w1 hb1 => HE.out.below ((hbw.mono hN).trans (hb1.mono hNr))
        generalize hus : ws.drop (j + 1) = us at *
        have HUS : Hid (ws.drop (j + 1) = us) := hus
        clear hf hx hd hrd hal0 hus
        go_wp2_with (first
          | (go_at_call 110; have _ := R1; refine (number N wr.heap.size w1 us.tail (.slice none 0 0) hNr (HEr.out _ b1) R1.out).mono ?_; rintro e w2 ⟨rfl, R2, s2⟩; have b2 : Below wr.heap.size wr w2 := b1.trans (s2.low (Nat.le_refl _) b1.size))
          | (go_at_call 110; refine (number N wr.heap.size _ us (.slice none 0 0) hNr (HEr.out _ HAl.out) HRD.out).mono ?_; rintro e w1 ⟨rfl, R1, s1⟩; have b1 : Below wr.heap.size wr w1 := HAl.out.trans (s1.low (Nat.le_refl _) HAl.out.size))
          | (at_builtin; refine append_head w2 rfl _ _ rfl w.heap.size u3 acc (numR us) (numR us.tail) rfl (HF.out.below b2 (fun k hk => (HF.out.own k hk).2)) _ _ rfl rfl (by omega) (Nat.le_trans hbw.size b2.size) ?_; intro v3 w3 H3 G3))
        go_roundw
        case rel =>
          exact ⟨j + 1, acc ++ [(numR us, numR us.tail)], by omega, by go_num, by simp; omega, H3, (by show _ = _; rw [HUS.out]; exact HX2.out), (hbw.trans (b2.mono hbw.size)).trans (G3.out.low (fun k hk => (HF.out.own k hk).1) (Nat.le_trans hbw.size b2.size))⟩
        case measure => simp [intOf]; omega
      · have hxb : (x.toList == [102, 117, 110]) = false := by rw [funEq]; simp [hf]
        have HX2 : Hid (headsR ws = acc ++ headsR (ws.drop (j + 1))) := by
          show _ = _
          rw [HX.out, hd, headsR, if_neg hf]
        clear hf hx hd
        go_wp2_with fail
        go_roundw
        case rel => exact ⟨j + 1, acc, by omega, by go_num, by omega, HF, HX2, hbw⟩
        case measure => simp [intOf]; omega
    · obtain rfl : j = L := by omega
      have HX2 : Hid (headsR ws = acc) := by
        show _ = _
        rw [HX.out, List.drop_eq_nil_of_le (by rw [HL.out]; exact Nat.le_refl _)]
        simp [headsR]
      go_wp2_with fail
      go_ret
      exact ⟨_, rfl, (by show FS _ _ _ _; rw [HX2.out]; exact HF.out), hbw⟩
def FunsOwn (B X : Nat) (w : World) (fv : Value) (nf : Nat) (par loc : Nat → Int) (bv : Nat → Value) : Prop :=
  ∃ a cap, fv = .slice a nf cap ∧ nf ≤ 100000 ∧ (nf = 0 ∨ ∃ g cur, a = some ⟨g, 0, none⟩ ∧ B ≤ g ∧ g < X ∧ w.heap[g]? = some (.cells cur 43 (0, 0)) ∧ ∀ i, i < nf → cur[i * 3]? = some (.int .i64 (par i)) ∧ cur[i * 3 + 1]? = some (.int .i64 (loc i)) ∧ cur[i * 3 + 2]? = some (bv i))
theorem FS.own3 {B : Nat} {w : World} {v : Value} {l : List (Int × Int)} (h : FS B w v l) (hl : l.length ≤ 100000) : FunsOwn B w.heap.size w v l.length (fun i => (l.getD i (0, 0)).1) (fun i => (l.getD i (0, 0)).2) (fun _ => .slice none 0 0) := by
  rcases h.2 with ⟨rfl, h0⟩ | ⟨g, cap, cur, rfl, hb, hg, hr⟩
  · exact ⟨none, 0, by rw [h0], hl, Or.inl h0⟩
  · refine ⟨_, cap, rfl, hl, Or.inr ⟨g, cur, rfl, hb, (Array.getElem?_eq_some_iff.1 hg).1, hg, fun i hi => ?_⟩⟩
    have e : ∀ t, t < l.length * 3 → cur[t]? = (flatF l)[t]? := fun t ht => by
      have := h.cellAt t ht
      unfold World.cell? at this
      rw [hg] at this
      exact this
    obtain ⟨e1, e2, e3⟩ := flatF_at l i hi
    rw [e _ (by omega), e _ (by omega), e _ (by omega), e1, e2, e3]
    exact ⟨rfl, rfl, rfl⟩
theorem FunsOwn.keep {B X : Nat} {w w' : World} {fv : Value} {nf : Nat} {par loc : Nat → Int} {bv : Nat → Value} (h : FunsOwn B X w fv nf par loc bv) (hs : ∀ k, k < X → w'.heap[k]? = w.heap[k]?) : FunsOwn B X w' fv nf par loc bv := by
  obtain ⟨a, cap, rfl, hn, h | ⟨g, cur, rfl, hB, hX, hg, hc⟩⟩ := h
  · exact ⟨a, cap, rfl, hn, Or.inl h⟩
  · exact ⟨_, cap, rfl, hn, Or.inr ⟨g, cur, rfl, hB, hX, by rw [hs g hX]; exact hg, hc⟩⟩
theorem FunsOwn.par {B X : Nat} {w : World} {fv : Value} {nf : Nat} {par loc : Nat → Int} {bv : Nat → Value} (h : FunsOwn B X w fv nf par loc bv) : ParAt X w fv nf par := by
  obtain ⟨a, cap, rfl, hn, h | ⟨g, cur, rfl, hB, hX, hg, hc⟩⟩ := h
  · exact ⟨a, cap, rfl, hn, Or.inl h⟩
  · refine ⟨_, cap, rfl, hn, Or.inr ⟨g, 0, rfl, hX, fun i hi => ?_⟩⟩
    unfold World.cell?
    rw [hg, Nat.zero_add]
    exact (hc i hi).1
theorem FunsOwn.funs {B X : Nat} {w : World} {fv : Value} {nf : Nat} {par loc : Nat → Int} {bv : Nat → Value} (h : FunsOwn B X w fv nf par loc bv) (hX : X ≤ w.heap.size) (hs : ∀ i, i < nf → ∃ x m c, bv i = .slice x m c) : FunsAt w.heap.size w fv nf par loc bv := by
  obtain ⟨a, cap, rfl, hn, h | ⟨g, cur, rfl, hB, hgX, hg, hc⟩⟩ := h
  · exact ⟨a, cap, rfl, by omega, Or.inl h⟩
  · refine ⟨_, cap, rfl, by omega, Or.inr ⟨g, 0, rfl, by omega, fun i hi => ?_⟩⟩
    unfold World.cell?
    rw [hg, Nat.zero_add]
    exact ⟨(hc i hi).1, (hc i hi).2.1, (hc i hi).2.2, hs i hi⟩
def putB (bv : Nat → Value) (j : Nat) (v : Value) (i : Nat) : Value := if i = j then v else bv i
theorem FunsOwn.put {B X g cap : Nat} {w : World} {nf : Nat} {par loc : Nat → Int} {bv : Nat → Value} (h : FunsOwn B X w (.slice (some ⟨g, 0, none⟩) nf cap) nf par loc bv) {j : Nat} (hj : j < nf) (v : Value) :
    FunsOwn B X (w.setCell ⟨g, j * 3 + 2, none⟩ v) (.slice (some ⟨g, 0, none⟩) nf cap) nf par loc (putB bv j v) ∧ w.cell? ⟨g, j * 3 + 2, none⟩ = some (bv j) ∧ w.frozen? ⟨g, j * 3 + 2, none⟩ = false ∧ B ≤ g ∧ g < X := by
  obtain ⟨a, cap', e, hn, h | ⟨g', cur, rfl, hB, hgX, hg, hc⟩⟩ := h
  · omega
  cases e
  refine ⟨⟨_, cap, rfl, hn, Or.inr ⟨g, _, rfl, hB, hgX, heap_setCell_same w g (j * 3 + 2) cur _ v hg, fun i hi => ?_⟩⟩, ?_, ?_, hB, hgX⟩
  · obtain ⟨c0, c1, c2⟩ := hc i hi
    have hsz : j * 3 + 2 < cur.size := by
      obtain ⟨hx, _⟩ := Array.getElem?_eq_some_iff.1 (hc j hj).2.2
      exact hx
    rw [Array.getElem?_setIfInBounds, Array.getElem?_setIfInBounds, Array.getElem?_setIfInBounds, if_neg (by omega), if_neg (by omega)]
    refine ⟨c0, c1, ?_⟩
    unfold putB
    by_cases e : i = j
    · subst e; rw [if_pos rfl, if_pos hsz, if_pos rfl]
    · rw [if_neg (by omega), if_neg e]; exact c2
  · unfold World.cell?; rw [hg]; exact (hc j hj).2.2
  · unfold World.frozen?; rw [hg]; simp
theorem leftR_len (nf : Nat) (par : Nat → Int) (u : Nat) (ws : List Wd) : ∀ j, (leftR nf par u ws j).length ≤ ws.length
  | 0 => Nat.le_refl _
  | j + 1 => by
    have := leftR_len nf par u ws j
    refine Nat.le_trans (blkR_len nf par u _) (tail_length (tail_length (tail_length this)))
theorem headsR_len : ∀ ws : List Wd, (headsR ws).length ≤ ws.length
  | [] => Nat.le_refl _
  | w :: ws => by
    have := headsR_len ws
    rw [headsR]
    split
    · simp; exact this
    · simp; omega
set_option maxHeartbeats 4000000 in
theorem read (N : Nat) (w : World) (hN : N ≤ w.heap.size) (he : Env N w) (g o cap : Nat) (ws : List Wd) (h0 : ∀ y ∈ ws, y.size ≤ 100000) (h1 : ws.length ≤ 90000) (hc : ws.length ≤ cap) (hg : g < w.heap.size) (hcell : ∀ j y, ws[j]? = some y → w.cell? ⟨g, o + j, none⟩ = some (.string y)) (L : Nat) (hL : ws.length = L) :
    Calls Tryz.prog 41 #[.slice (some ⟨g, o, none⟩) L cap] w fun e w' => ∃ v bv, e = .returned v ∧ Hid (FunsAt w'.heap.size w' v (rdN ws) (rdP ws) (rdL ws) bv) ∧ Hid (∀ i, i < rdN ws → StmtsAt w'.heap.size w' (ws.length + 2) (bv i) (rdB ws i)) ∧ Below w.heap.size w w' := by
  have HHd : Hid (Calls Tryz.prog 108 #[.slice (some ⟨g, o, none⟩) L cap] w fun e w' => ∃ v, e = .returned v ∧ Hid (FS w.heap.size w' v (headsR ws)) ∧ Below w.heap.size w w') := heads N w hN he g o cap ws h0 (by omega) hc hg hcell L hL
  have HE : Hid (Env N w) := he
  have HWo : Hid (∀ w1, Below w.heap.size w w1 → ∀ fv : Value, (∀ k, fv.ownBlock = some k → w.heap.size ≤ k) → RD w1.heap.size (w1.alloc (.cells #[.slice (some ⟨g, o, none⟩) L cap, fv] 155)) ws fv) := fun w1 hb fv hfo => by
    refine ⟨_, heap_alloc_new w1 _, h0, by omega, some ⟨g, o, none⟩, cap, by rw [hL], hc, Or.inr ⟨g, o, rfl, Nat.lt_of_lt_of_le hg hb.size, fun e => by have := hfo g e; omega, fun j x hj => ?_⟩⟩
    rw [(bal w1 _).cell (p := ⟨g, o + j, none⟩) (Nat.lt_of_lt_of_le hg hb.size), hb.cell (p := ⟨g, o + j, none⟩) hg]
    exact hcell j x hj
  have HLe : Hid (ws.length ≤ 90000) := h1
  have hnn : rdN ws ≤ 100000 := Nat.le_trans (headsR_len ws) (by omega)
  clear he h0 h1 hc hcell hL
  go_enter Tryz.func41, Tryz.ntmps41
  go_upto_region 2 with (first
    | (go_at_call 108; refine HHd.out.mono ?_; rintro e w1 ⟨fv, rfl, HF, b1⟩))
  have HFO : Hid (FunsOwn w.heap.size w1.heap.size w1 fv (rdN ws) (rdP ws) (rdL ws) (fun _ => .slice none 0 0)) := HF.out.own3 hnn
  have HRD := HWo.out w1 b1 fv (fun k hk => (HF.out.own k hk).1)
  have HRD0 : Hid (RD w1.heap.size (w1.alloc (.cells #[.slice (some ⟨g, o, none⟩) L cap, fv] 155)) ws fv) := HRD
  have hb2 := bal w1 (.cells #[.slice (some ⟨g, o, none⟩) L cap, fv] 155)
  have HB2 : Hid (Below w1.heap.size w1 (w1.alloc (.cells #[.slice (some ⟨g, o, none⟩) L cap, fv] 155))) := hb2
  have HFO2 : Hid (FunsOwn w.heap.size w1.heap.size (w1.alloc (.cells #[.slice (some ⟨g, o, none⟩) L cap, fv] 155)) fv (rdN ws) (rdP ws) (rdL ws) (fun _ => .slice none 0 0)) := HFO.out.keep fun k hk => hb2.block k hk
  have hX0 : w.heap.size ≤ w1.heap.size := b1.size
  obtain ⟨fa, fc, hfv⟩ : ∃ fa fc, fv = .slice fa (rdN ws) fc := by
    obtain ⟨fa, fc, e, _⟩ := HFO.out
    exact ⟨fa, fc, e⟩
  subst hfv
  clear HHd HF HFO HRD hb2
  go_upto_region 4 with (fail)
  generalize w1.alloc (.cells #[.slice (some ⟨g, o, none⟩) L cap, .slice fa (rdN ws) fc] 155) = W at *
  generalize hX : w1.heap.size = X at *
  generalize hnf : rdN ws = nf at *
  generalize hpar : rdP ws = par at *
  generalize hloc : rdL ws = loc at *
  have HBd : Hid (∀ i, rdB ws i = bodyR nf par (ws.length + 1) ws i) := fun i => by unfold rdB; rw [hnf, hpar]
  have hbW : Below w.heap.size w W := b1.trans (HB2.out.mono hX0)
  have HNf : Hid (rdN ws = nf) := hnf
  have HPr : Hid (rdP ws = par) := hpar
  have HLo : Hid (rdL ws = loc) := hloc
  have hNX : N ≤ X := Nat.le_trans hN hX0
  have HEn : Hid (∀ w1, Below w.heap.size w w1 → Env N w1) := fun w1 hb => HE.out.below (hb.mono hN)
  clear hnf hpar hloc
  go_loopw [14] (fun i wr => ∃ (j : Nat) (bv : Nat → Value), j ≤ nf ∧ i = .int .i64 j ∧ Hid (FunsOwn w.heap.size X wr (.slice fa nf fc) nf par loc bv) ∧ Hid (RD X wr (leftR nf par (ws.length + 1) ws j) (.slice fa nf fc)) ∧ Hid (∀ i, i < nf → (i < j → StmtsIn (X + 1) wr (ws.length + 2) (bv i) (bodyR nf par (ws.length + 1) ws i)) ∧ (¬ i < j → bv i = .slice none 0 0)) ∧ Below w.heap.size w wr) (fun i _ => nf - (intOf i).toNat)
  case atStart => exact ⟨0, _, by omega, rfl, HFO2, HRD0, (fun i _ => ⟨fun h => absurd h (Nat.not_lt_zero _), fun _ => rfl⟩), hbW⟩
  case round =>
    obtain ⟨j, bv, hj0, rfl, HFn, HR, HS, hbw⟩ := hrel
    by_cases hj : j < nf
    · have hXr := HR.out.lt
      have hll := leftR_len nf par (ws.length + 1) ws j
      have HNx : Hid (leftR nf par (ws.length + 1) ws (j + 1) = (blkR nf par (ws.length + 1) (leftR nf par (ws.length + 1) ws j).tail.tail.tail).2) := rfl
      have HBn : Hid (bodyR nf par (ws.length + 1) ws j = (blkR nf par (ws.length + 1) (leftR nf par (ws.length + 1) ws j).tail.tail.tail).1) := rfl
      obtain ⟨g2, ea⟩ : ∃ g2, fa = some ⟨g2, 0, none⟩ := by
        obtain ⟨a, cp, e, _, h | ⟨g2, cur, rfl, _⟩⟩ := HFn.out
        · omega
        · cases e; exact ⟨g2, rfl⟩
      subst ea
      generalize leftR nf par (ws.length + 1) ws j = ls at *
      have hl3 : ls.tail.tail.tail.tail.length ≤ ws.length + 1 := tail_length (tail_length (tail_length (tail_length (by omega))))
      have hji : (j : Int) < (nf : Int) := by omega
      have HSb : Hid (∀ w5, Save X wr w5 → Below w.heap.size w w5) := fun w5 hs => hbw.trans (hs.low hX0 hbw.size)
      have HFk : Hid (∀ w5, Save X wr w5 → FunsOwn w.heap.size X w5 (.slice (some ⟨g2, 0, none⟩) nf fc) nf par loc bv) := fun w5 hs => HFn.out.keep fun k hk => hs.block k (by omega) (by omega)
      have HBl : Hid (∀ w4, Save X wr w4 → RD X w4 ls.tail.tail.tail (.slice (some ⟨g2, 0, none⟩) nf fc) → Calls Tryz.prog 111 #[.pointer (some ⟨X, 0, none⟩)] w4 fun e w' => ∃ v, e = .returned v ∧ Hid (StmtsIn w4.heap.size w' (ws.length + 2) v (blkR nf par (ws.length + 1) ls.tail.tail.tail).1) ∧ Hid (RD X w' (blkR nf par (ws.length + 1) ls.tail.tail.tail).2 (.slice (some ⟨g2, 0, none⟩) nf fc)) ∧ Save X w4 w') := fun w4 hs hr =>
        block N X hNX nf par _ (ws.length + 1) w4 _ (HEn.out _ (HSb.out _ hs)) hr (HFk.out _ hs).par hl3
      have hbv : Hid (bv j = .slice none 0 0) := (HS.out j hj).2 (by omega)
      go_wp2_with (first
        | (go_at_call 109; refine (next X wr ls _ HR.out).mono ?_; rintro e w2 ⟨rfl, R2, s2⟩)
        | (go_at_call 110; have _ := R3; refine (number N X w3 ls.tail.tail _ hNX (HEn.out _ (HSb.out _ (s2.trans s3))) R3.out).mono ?_; rintro e w4 ⟨rfl, R4, s4⟩)
        | (go_at_call 110; refine (number N X w2 ls.tail _ hNX (HEn.out _ (HSb.out _ s2)) R2.out).mono ?_; rintro e w3 ⟨rfl, R3, s3⟩)
        | (go_at_call 111; refine (HBl.out w4 ((s2.trans s3).trans s4) R4.out).mono ?_; rintro e w5 ⟨v5, rfl, Q5, R5, s5⟩; obtain ⟨pa, pn, pc, rfl⟩ := Q5.out.shape; obtain ⟨FP, c5, f5, hB5, hX5⟩ := (HFk.out w5 (((s2.trans s3).trans s4).trans s5)).put hj (.slice pa pn pc); rw [hbv.out] at c5))
      go_roundw
      case rel =>
        have s25 : Save X wr w5 := ((s2.trans s3).trans s4).trans s5
        have hf5 : Far (X + 1) w5 (w5.setCell ⟨g2, j * 3 + 2, none⟩ (.slice pa pn pc)) := Far.set _ _ _ _ (by omega)
        have hw4 : X + 1 ≤ w4.heap.size := R4.out.lt
        refine ⟨j + 1, putB bv j (.slice pa pn pc), by omega, by go_num, FP, ?_, ?_, Below.setCell (HSb.out _ s25) hB5 _⟩
        · show RD _ _ _ _
          rw [HNx.out]
          exact R5.out.putF rfl hX5
        · intro i hi
          refine ⟨fun hlt => ?_, fun hge => ?_⟩
          · unfold putB
            by_cases e : i = j
            · subst e
              rw [if_pos rfl, HBn.out]
              exact (Q5.out.far hw4 (by omega) hf5).low hw4
            · rw [if_neg e]
              exact (((HS.out i hi).1 (by omega)).far (Nat.le_refl _) (by omega) (Far.of s25 (by omega))).far (Nat.le_refl _) (by omega) hf5
          · unfold putB
            rw [if_neg (by omega)]
            exact (HS.out i hi).2 (by omega)
      case measure => simp [intOf]; omega
    · obtain rfl : j = nf := by omega
      go_wp2_with fail
      go_ret
      have hXr := HR.out.lt
      refine ⟨_, bv, rfl, ?_, ?_, hbw⟩
      · show FunsAt _ _ _ _ _ _ _
        rw [HNf.out, HPr.out, HLo.out]
        exact HFn.out.funs (by omega) (fun i hi => (((HS.out i hi).1 hi)).shape)
      · intro i hi
        rw [HNf.out] at hi
        rw [HBd.out]
        exact ((HS.out i hi).1 hi).stmts
end Go.Proofs.YtbmenihakkogkabGreatDoor
