/- The heads of the functions of words, by the program. -/
import Derived.Test.YtomfkfhipemlcabDoorRdBlock
namespace Go.Proofs.YtomfkfhipemlcabDoor
open Go.RowKit Go.Maps

/-- Functions' heads, as cells; with no statements. -/
def flatF : List (Int × Int) → List Value
  | [] => []
  | t :: l => .int .i64 t.1 :: .int .i64 t.2 :: .slice none 0 0 :: flatF l
theorem flatF_append : ∀ (l m : List (Int × Int)), flatF (l ++ m) = flatF l ++ flatF m
  | [], _ => rfl
  | t :: l, m => by simp [flatF, flatF_append l m]
theorem flatF_len : ∀ l : List (Int × Int), (flatF l).length = l.length * 3
  | [] => rfl
  | t :: l => by simp [flatF, flatF_len l]; omega
theorem flatF_at : ∀ (l : List (Int × Int)) (i : Nat), i < l.length → (flatF l)[i * 3]? = some (.int .i64 (l.getD i (0, 0)).1) ∧ (flatF l)[i * 3 + 1]? = some (.int .i64 (l.getD i (0, 0)).2) ∧ (flatF l)[i * 3 + 2]? = some (.slice none 0 0)
  | [], i, h => absurd h (Nat.not_lt_zero _)
  | t :: l, 0, _ => ⟨rfl, rfl, rfl⟩
  | t :: l, i + 1, h => by
    have := flatF_at l i (by simpa using h)
    rw [show (i + 1) * 3 = i * 3 + 1 + 1 + 1 by omega]
    simpa [flatF] using this

/-- A row of the heads l, of blocks from B on. -/
def FS (B : Nat) (w : World) (v : Value) (l : List (Int × Int)) : Prop := w.ownsRow B 35 3 v l.length (flatF l)

theorem FS.below {B M : Nat} {w w' : World} {v : Value} {l : List (Int × Int)} (h : FS B w v l) (hb : Below M w w') (hM : ∀ k, v.ownBlock = some k → k < M) : FS B w' v l := by
  refine ⟨h.1, ?_⟩
  rcases h.2 with ⟨rfl, h0⟩ | ⟨g, cap, cur, rfl, h1, h2, h3⟩
  · exact Or.inl ⟨rfl, h0⟩
  · exact Or.inr ⟨g, cap, cur, rfl, h1, by rw [hb.block g (hM g rfl)]; exact h2, h3⟩

theorem FS.own {B : Nat} {w : World} {v : Value} {l : List (Int × Int)} (h : FS B w v l) : ∀ k, v.ownBlock = some k → B ≤ k ∧ k < w.heap.size := by
  intro k hk
  rcases h.2 with ⟨rfl, _⟩ | ⟨g, cap, cur, rfl, hb, hg, _⟩
  · cases hk
  · cases hk; exact ⟨hb, (Array.getElem?_eq_some_iff.1 hg).1⟩

theorem info35 : (Tryd.prog.info? 35).map (fun i => (i.zero, i.size, i.bytes)) = some (some (.agg #[.int .i64 0, .int .i64 0, .slice none 0 0]), 3, 40) := by kernel_rfl

/-- One head more at the end of a row of the call's own. -/
theorem append_head {ops : Array Oper} {rest : List Oper} {o : Oper} {a : Act} {Q : Exit → Act → World → Prop} (w : World) (hgd : o.guard = none) (s y : Operand)
    (ho : o.op = .call { callee := .builtin .append, args := #[s, y], argTypes := #[22, 22] }) (base : Nat) (v : Value) (l : List (Int × Int)) (k z : Int) (hs : a.eval s = v) (hown : FS base w v l)
    (t : TypeId) (B : Nat) (hB : w.heap.size = B) (hy : a.eval y = .slice (some ⟨B, 0, none⟩) 1 1) (hR : l.length + 1 ≤ 1000000) (hbase : base ≤ w.heap.size)
    (h : ∀ v' w2, Hid (FS base w2 v' (l ++ [(k, z)])) → Hid (Grow w v w2 v') → wpList Tryd.prog ops Q rest (a.put o.dst v') w2) :
    wpList Tryd.prog ops Q (o :: rest) a (w.alloc (.cells #[.int .i64 k, .int .i64 z, .slice none 0 0] t)) := by
  subst hB
  obtain ⟨i0, hi, hz0, hz1, hz2⟩ := info_parts info35
  have hk : Below w.heap.size w (w.alloc (.cells #[.int .i64 k, .int .i64 z, .slice none 0 0] t)) := below_alloc _ _
  refine wpList_append_own_at _ hgd s y 22 ho base 35 i0 (.agg #[.int .i64 0, .int .i64 0, .slice none 0 0]) 3 40 Tryd.underlying22 hi hz0 hz1 hz2 rfl (by decide) v _ _ hs (hown.alloc _) ⟨w.heap.size, 0, none⟩ 1 1 [.int .i64 k, .int .i64 z, .slice none 0 0] hy rfl (fun j u hj => ?_) (fun u hu => ?_) (by unfold maxLen; omega) (by omega) (Nat.le_trans hbase hk.size) ?_
  · rw [WideShapes.add_plain, Nat.zero_add, World.cell?_alloc_new]
    show ([Value.int .i64 k, .int .i64 z, .slice none 0 0].toArray)[j]? = some u
    rw [List.getElem?_toArray]
    exact hj
  · simp only [List.mem_cons, List.not_mem_nil, or_false] at hu
    rcases hu with rfl | rfl | rfl <;> rfl
  · intro v' w2 h1 h2 _ h4
    refine h v' w2 ?_ ⟨h2.os, h2.tape, h2.output, Nat.le_trans hk.size h2.size, fun k hk1 hk2 => ?_, fun k hk1 hk2 => ?_⟩
    · show FS _ _ _ _
      unfold FS
      rw [List.length_append, flatF_append]
      exact h1
    · rw [h2.block k (Nat.lt_of_lt_of_le hk1 hk.size) (fun e => hk2 e.symm)]
      exact hk.block k hk1
    · rcases h4 with h4 | h4
      · rw [← h4]; exact hk2
      · have h5 := Option.some.inj (h4.symm.trans hk2)
        have h6 := hk.size
        omega

/-- A reader of the words behind number j, in a new block. -/
theorem rd_new {g o cap m : Nat} {ws : List Wd} {W : World} (h0 : ∀ y ∈ ws, y.size ≤ 100000) (h1 : ws.length ≤ 100000) (hc : ws.length ≤ cap) (hg : g < W.heap.size) (hm : m ≤ ws.length) (hcell : ∀ j y, ws[j]? = some y → W.cell? ⟨g, o + j, none⟩ = some (.string y)) (fv : Value) (hf : ¬ fv.ownBlock = some g) :
    RD W.heap.size (W.alloc (.cells #[.slice (some ⟨g, if cap = m then o else o + m, none⟩) (ws.length - m) (cap - m), fv] 63)) (ws.drop m) fv := by
  refine ⟨_, heap_alloc_new W _, fun y hy => h0 y (List.mem_of_mem_drop hy), by rw [List.length_drop]; omega, some ⟨g, if cap = m then o else o + m, none⟩, cap - m, by rw [List.length_drop], by rw [List.length_drop]; omega, ?_⟩
  by_cases e : ws.drop m = []
  · exact Or.inl e
  · have hlt : m < ws.length := by
      have := List.length_pos_iff.2 e
      rw [List.length_drop] at this; omega
    rw [if_neg (by omega)]
    refine Or.inr ⟨g, o + m, rfl, hg, hf, fun j x hj => ?_⟩
    rw [(below_alloc W _).cell (p := ⟨g, o + m + j, none⟩) hg, Nat.add_assoc]
    exact hcell _ _ (by rw [← List.getElem?_drop]; exact hj)

theorem funEq (x : Wd) : (x.toList == [102, 117, 110]) = decide (x = funW) := by
  have e : ([102, 117, 110] : List UInt8) = funW.toList := by rw [ByteArray.toList_eq]; rfl
  rw [e, strEq]

theorem drop_cons {ws : List Wd} {j : Nat} (h : j < ws.length) : ∃ x, ws[j]? = some x ∧ ws.drop j = x :: ws.drop (j + 1) :=
  ⟨ws[j], List.getElem?_eq_getElem h, List.drop_eq_getElem_cons h⟩

set_option maxHeartbeats 4000000 in
theorem heads (N : Nat) (w : World) (hN : N ≤ w.heap.size) (he : Env N w) (g o cap : Nat) (ws : List Wd) (h0 : ∀ y ∈ ws, y.size ≤ 100000) (h1 : ws.length ≤ 100000) (hc : ws.length ≤ cap) (hg : g < w.heap.size) (hcell : ∀ j y, ws[j]? = some y → w.cell? ⟨g, o + j, none⟩ = some (.string y)) (L : Nat) (hL : ws.length = L) :
    Calls Tryd.prog 23 #[.slice (some ⟨g, o, none⟩) L cap] w fun e w' => ∃ v, e = .returned v ∧ Hid (FS w.heap.size w' v (headsR ws)) ∧ Below w.heap.size w w' := by
  have HC : Hid (∀ j y, ws[j]? = some y → w.cell? ⟨g, o + j, none⟩ = some (.string y)) := hcell
  have HE : Hid (Env N w) := he
  have H0 : Hid (∀ y ∈ ws, y.size ≤ 100000) := h0
  have HL : Hid (ws.length = L) := hL
  have hL1 : L ≤ 100000 := by omega
  have hLc : L ≤ cap := by omega
  clear hcell he h0 h1 hc hL
  go_enter Tryd.func23, Tryd.ntmps23
  go_upto_region 3 with (fail)
  go_loopw [3, 10] (fun q i wr => ∃ (j : Nat) (acc : List (Int × Int)), j ≤ L ∧ i = .int .i64 j ∧ acc.length ≤ j ∧ Hid (FS w.heap.size wr q acc) ∧ Hid (headsR ws = acc ++ headsR (ws.drop j)) ∧ Below w.heap.size w wr) (fun _ i _ => L - (intOf i).toNat)
  case atStart => exact ⟨0, [], by omega, rfl, by simp, ⟨rfl, Or.inl ⟨rfl, rfl⟩⟩, (by show _ = _; simp), Below.refl _ _⟩
  case round =>
    obtain ⟨j, acc, hj0, rfl, hal, HF, HX, hbw⟩ := hrel
    by_cases hj : j < L
    · obtain ⟨x, hx, hd⟩ := drop_cons (ws := ws) (j := j) (by rw [HL.out]; exact hj)
      have q0 : wr.cell? ⟨g, o + j, none⟩ = some (.string x) := by
        rw [hbw.cell (p := ⟨g, o + j, none⟩) hg]; exact HC.out j x hx
      have hji : (j : Int) < (L : Int) := by omega
      by_cases hf : x = funW
      · have hxb : (x.toList == [102, 117, 110]) = true := by rw [funEq]; simp [hf]
        have HX2 : Hid (headsR ws = (acc ++ [(numR (ws.drop (j + 1)), numR (ws.drop (j + 1)).tail)]) ++ headsR (ws.drop (j + 1))) := by
          show _ = _
          rw [HX.out, hd, headsR, if_pos hf]; simp
        have hsl := slice_from g o L cap (j + 1) ((j : Int) + 1) (by omega) (by omega)
        have hrd := rd_new (o := o) (cap := cap) (m := j + 1) (W := wr) H0.out (by rw [HL.out]; exact hL1) (by rw [HL.out]; exact hLc) (Nat.lt_of_lt_of_le hg hbw.size) (by rw [HL.out]; omega) (fun j y hy => by rw [hbw.cell (p := ⟨g, o + j, none⟩) hg]; exact HC.out j y hy) (.slice none 0 0) (fun e => by cases e)
        rw [HL.out] at hrd
        generalize (if cap = j + 1 then o else o + (j + 1)) = o2 at *
        have hal0 := below_alloc wr (.cells #[.slice (some ⟨g, o2, none⟩) (L - (j + 1)) (cap - (j + 1)), .slice none 0 0] 63)
        have HRD : Hid (RD wr.heap.size (wr.alloc (.cells #[.slice (some ⟨g, o2, none⟩) (L - (j + 1)) (cap - (j + 1)), .slice none 0 0] 63)) (ws.drop (j + 1)) (.slice none 0 0)) := hrd
        have HAl : Hid (Below wr.heap.size wr (wr.alloc (.cells #[.slice (some ⟨g, o2, none⟩) (L - (j + 1)) (cap - (j + 1)), .slice none 0 0] 63))) := hal0
        have hNr : N ≤ wr.heap.size := Nat.le_trans hN hbw.size
        have HEr : Hid (∀ w1, Below wr.heap.size wr w1 → Env N w1) := fun w1 hb1 => HE.out.below ((hbw.mono hN).trans (hb1.mono hNr))
        generalize hus : ws.drop (j + 1) = us at *
        have HUS : Hid (ws.drop (j + 1) = us) := hus
        clear hf hx hd hrd hal0 hus
        go_wp2_with (first
          | (go_at_call 25; have _ := R1; refine (number N wr.heap.size w1 us.tail (.slice none 0 0) hNr (HEr.out _ b1) R1.out).mono ?_; rintro e w2 ⟨rfl, R2, s2⟩; have b2 : Below wr.heap.size wr w2 := b1.trans (s2.low (Nat.le_refl _) b1.size))
          | (go_at_call 25; refine (number N wr.heap.size _ us (.slice none 0 0) hNr (HEr.out _ HAl.out) HRD.out).mono ?_; rintro e w1 ⟨rfl, R1, s1⟩; have b1 : Below wr.heap.size wr w1 := HAl.out.trans (s1.low (Nat.le_refl _) HAl.out.size))
          | (at_builtin; refine append_head w2 rfl _ _ rfl w.heap.size u3 acc (numR us) (numR us.tail) rfl (HF.out.below b2 (fun k hk => (HF.out.own k hk).2)) _ _ rfl rfl (by omega) (Nat.le_trans hbw.size b2.size) ?_; intro v3 w3 H3 G3))
        go_roundw
        case rel =>
          exact ⟨j + 1, acc ++ [(numR us, numR us.tail)], by omega, by go_num, by simp; omega, H3, (by show _ = _; rw [HUS.out]; exact HX2.out), (hbw.trans (b2.mono hbw.size)).trans (G3.out.low (fun k hk => (HF.out.own k hk).1) (Nat.le_trans hbw.size b2.size))⟩
        case measure => simp [intOf]; omega
      · have hxb : (x.toList == [102, 117, 110]) = false := by rw [funEq]; simp [hf]
        have HX2 : Hid (headsR ws = acc ++ headsR (ws.drop (j + 1))) := by
          show _ = _
          rw [HX.out, hd, headsR, if_neg hf]
        clear hf hx hd
        go_wp2_with fail
        go_roundw
        case rel => exact ⟨j + 1, acc, by omega, by go_num, by omega, HF, HX2, hbw⟩
        case measure => simp [intOf]; omega
    · obtain rfl : j = L := by omega
      have HX2 : Hid (headsR ws = acc) := by
        show _ = _
        rw [HX.out, List.drop_eq_nil_of_le (by rw [HL.out]; exact Nat.le_refl _)]
        simp [headsR]
      go_wp2_with fail
      go_ret
      exact ⟨_, rfl, (by show FS _ _ _ _; rw [HX2.out]; exact HF.out), hbw⟩

end Go.Proofs.YtomfkfhipemlcabDoor
