import Derived.Test.YtbmenihakkogkabGreatDoorRdStmt
namespace Go.Proofs.YtbmenihakkogkabGreatDoor
open Go.RowKit Go.Maps
theorem stmt (N X : Nat) (hNX : N ≤ X) (nf : Nat) (par : Nat → Int) (fv : Value) (t : Nat) (HB : Hid (BlkOK N X nf par fv t)) (w : World) (ws : List Wd) (K : Nat) (he : Env N w) (h : RD X w ws fv) (hp : ParAt X w fv nf par) (hl : ws.length ≤ t) (h1 : 1 ≤ K) (h8 : K ≤ 8) :
    Calls Tryz.prog 158 #[.pointer (some ⟨X, 0, none⟩), .int .i64 K] w fun e w' => ∃ ve vf va vb, e = .returned (.agg #[.int .i64 K, .int .i64 (if hasN K then numR ws else 0), ve, vf, va, vb]) ∧ Hid (StP X nf par fv t K ws w w' ve vf va vb) := by
  have : (0 < K ∧ K < 2) ∨ (1 < K ∧ K < 3) ∨ (K = 3 ∨ K = 5 ∨ K = 8) ∨ (3 < K ∧ K < 5) ∨ (5 < K ∧ K < 7) ∨ (6 < K ∧ K < 8) := by omega
  rcases this with c | c | c | c | c | c
  · exact stmt_set N X hNX nf par fv t HB w ws K he h hp hl c
  · exact stmt_put N X hNX nf par fv t HB w ws K he h hp hl c
  · exact stmt_say N X hNX nf par fv t HB w ws K he h hp hl c
  · exact stmt_pause N X hNX nf par fv t HB w ws K he h hp hl c
  · exact stmt_if N X hNX nf par fv t HB w ws K he h hp hl c
  · exact stmt_while N X hNX nf par fv t HB w ws K he h hp hl c
/-! ### Rows of statements of the call's own -/
structure R6 where
  k : Int
  n : Int
  e : Value
  f : Value
  a : Value
  b : Value
def R6.list (r : R6) : List Value := [.int .i64 r.k, .int .i64 r.n, r.e, r.f, r.a, r.b]
def flat6 : List R6 → List Value
  | [] => []
  | r :: l => r.list ++ flat6 l
theorem flat6_append : ∀ (l m : List R6), flat6 (l ++ m) = flat6 l ++ flat6 m
  | [], _ => rfl
  | r :: l, m => by simp [flat6, flat6_append l m]
def noR6 : R6 := ⟨0, 0, .bool false, .bool false, .bool false, .bool false⟩
theorem flat6_at : ∀ (l : List R6) (i j : Nat), i < l.length → j < 6 → (flat6 l)[i * 6 + j]? = (l.getD i noR6).list[j]?
  | [], i, _, h, _ => absurd h (Nat.not_lt_zero _)
  | r :: l, 0, j, _, hj => by
    show (r.list ++ flat6 l)[0 * 6 + j]? = r.list[j]?
    rw [Nat.zero_mul, Nat.zero_add, List.getElem?_append_left (by simpa [R6.list] using hj)]
  | r :: l, i + 1, j, h, hj => by
    have ih := flat6_at l i j (by simpa using h) hj
    show (r.list ++ flat6 l)[(i + 1) * 6 + j]? = (l.getD i noR6).list[j]?
    rw [List.getElem?_append_right (by simp [R6.list]; omega), ← ih]
    congr 1
    simp [R6.list]; omega
def ToksP (P : Nat → Prop) (w : World) (v : Value) (n : Nat) (k z : Nat → Int) : Prop :=
  ∃ a cap, v = .slice a n cap ∧ n ≤ 100000 ∧ (n = 0 ∨ ∃ b o, a = some ⟨b, o, none⟩ ∧ P b ∧ b < w.heap.size ∧ ∀ i, i < n → w.cell? ⟨b, o + i * 2, none⟩ = some (.int .i64 (k i)) ∧ w.cell? ⟨b, o + i * 2 + 1, none⟩ = some (.int .i64 (z i)))
def StmtsP (P : Nat → Prop) (w : World) : Nat → Value → SL → Prop
  | 0, v, T => T.len = 0 ∧ ∃ a cap, v = .slice a 0 cap
  | d + 1, v, T => ∃ a cap, v = .slice a T.len cap ∧ T.len ≤ 100000 ∧ (T.len = 0 ∨ ∃ b o, a = some ⟨b, o, none⟩ ∧ P b ∧ b < w.heap.size ∧ ∀ i, i < T.len →
      ∃ ve vf va vb, w.cell? ⟨b, o + i * 6, none⟩ = some (.int .i64 (T.nd i).kind) ∧ w.cell? ⟨b, o + i * 6 + 1, none⟩ = some (.int .i64 (T.nd i).num) ∧ w.cell? ⟨b, o + i * 6 + 2, none⟩ = some ve ∧ w.cell? ⟨b, o + i * 6 + 3, none⟩ = some vf ∧
        w.cell? ⟨b, o + i * 6 + 4, none⟩ = some va ∧ w.cell? ⟨b, o + i * 6 + 5, none⟩ = some vb ∧
        ToksP P w ve (T.nd i).ne (T.nd i).ek (T.nd i).ez ∧ ToksP P w vf (T.nd i).nf (T.nd i).fk (T.nd i).fz ∧ StmtsP P w d va (T.sub i false) ∧ StmtsP P w d vb (T.sub i true))
theorem ToksP.move {P Q : Nat → Prop} {w w' : World} {v : Value} {n : Nat} {k z : Nat → Int} (h : ToksP P w v n k z) (hm : ∀ b, P b → b < w.heap.size → w'.heap[b]? = w.heap[b]? ∧ Q b) (hz : w.heap.size ≤ w'.heap.size) : ToksP Q w' v n k z := by
  obtain ⟨a, cap, rfl, hn, h | ⟨b, o, rfl, hP, hb, hc⟩⟩ := h
  · exact ⟨a, cap, rfl, hn, Or.inl h⟩
  · obtain ⟨e, q⟩ := hm b hP hb
    refine ⟨_, cap, rfl, hn, Or.inr ⟨b, o, rfl, q, Nat.lt_of_lt_of_le hb hz, fun i hi => ?_⟩⟩
    rw [World.cell?_of_block (w := w) (a := ⟨b, o + i * 2, none⟩) e, World.cell?_of_block (w := w) (a := ⟨b, o + i * 2 + 1, none⟩) e]
    exact hc i hi
theorem StmtsP.move {P Q : Nat → Prop} {w w' : World} (hm : ∀ b, P b → b < w.heap.size → w'.heap[b]? = w.heap[b]? ∧ Q b) (hz : w.heap.size ≤ w'.heap.size) : ∀ {d : Nat} {v : Value} {T : SL}, StmtsP P w d v T → StmtsP Q w' d v T
  | 0, _, _, h => h
  | d + 1, v, T, h => by
    obtain ⟨a, cap, rfl, hn, h | ⟨b, o, rfl, hP, hb, hc⟩⟩ := h
    · exact ⟨a, cap, rfl, hn, Or.inl h⟩
    · obtain ⟨eb, q⟩ := hm b hP hb
      refine ⟨_, cap, rfl, hn, Or.inr ⟨b, o, rfl, q, Nat.lt_of_lt_of_le hb hz, fun i hi => ?_⟩⟩
      obtain ⟨ve, vf, va, vb, c0, c1, c2, c3, c4, c5, t1, t2, s1, s2⟩ := hc i hi
      have e : ∀ o, w'.cell? ⟨b, o, none⟩ = w.cell? ⟨b, o, none⟩ := fun o => World.cell?_of_block (w := w) (a := ⟨b, o, none⟩) eb
      exact ⟨ve, vf, va, vb, by rw [e]; exact c0, by rw [e]; exact c1, by rw [e]; exact c2, by rw [e]; exact c3, by rw [e]; exact c4, by rw [e]; exact c5,
        t1.move hm hz, t2.move hm hz, StmtsP.move hm hz s1, StmtsP.move hm hz s2⟩
theorem ToksLow.toP {L : Nat} {w : World} {v : Value} {n : Nat} {k z : Nat → Int} (h : ToksLow L w v n k z) : ToksP (fun b => L ≤ b) w v n k z := h
theorem StmtsIn.toP {L : Nat} {w : World} : ∀ {d : Nat} {v : Value} {T : SL}, StmtsIn L w d v T → StmtsP (fun b => L ≤ b) w d v T
  | 0, _, _, h => h
  | d + 1, v, T, h => by
    obtain ⟨a, cap, rfl, hn, h | ⟨b, o, rfl, hP, hb, hc⟩⟩ := h
    · exact ⟨a, cap, rfl, hn, Or.inl h⟩
    · refine ⟨_, cap, rfl, hn, Or.inr ⟨b, o, rfl, hP, hb, fun i hi => ?_⟩⟩
      obtain ⟨ve, vf, va, vb, c0, c1, c2, c3, c4, c5, t1, t2, s1, s2⟩ := hc i hi
      exact ⟨ve, vf, va, vb, c0, c1, c2, c3, c4, c5, t1, t2, StmtsIn.toP s1, StmtsIn.toP s2⟩
theorem StmtsP.toIn {L : Nat} {w : World} : ∀ {d : Nat} {v : Value} {T : SL}, StmtsP (fun b => L ≤ b) w d v T → StmtsIn L w d v T
  | 0, _, _, h => h
  | d + 1, v, T, h => by
    obtain ⟨a, cap, rfl, hn, h | ⟨b, o, rfl, hP, hb, hc⟩⟩ := h
    · exact ⟨a, cap, rfl, hn, Or.inl h⟩
    · refine ⟨_, cap, rfl, hn, Or.inr ⟨b, o, rfl, hP, hb, fun i hi => ?_⟩⟩
      obtain ⟨ve, vf, va, vb, c0, c1, c2, c3, c4, c5, t1, t2, s1, s2⟩ := hc i hi
      exact ⟨ve, vf, va, vb, c0, c1, c2, c3, c4, c5, t1, t2, StmtsP.toIn s1, StmtsP.toIn s2⟩
def RowOK (P : Nat → Prop) (D : Nat) (w : World) (r : R6) (it : It) : Prop :=
  r.k = it.nd.kind ∧ r.n = it.nd.num ∧ ToksP P w r.e it.nd.ne it.nd.ek it.nd.ez ∧ ToksP P w r.f it.nd.nf it.nd.fk it.nd.fz ∧ StmtsP P w D r.a it.a ∧ StmtsP P w D r.b it.b
theorem RowOK.move {P Q : Nat → Prop} {D : Nat} {a b : World} {r : R6} {it : It} (h : RowOK P D a r it) (hm : ∀ k, P k → k < a.heap.size → b.heap[k]? = a.heap[k]? ∧ Q k) (hz : a.heap.size ≤ b.heap.size) : RowOK Q D b r it := by
  obtain ⟨h1, h2, h3, h4, h5, h6⟩ := h
  exact ⟨h1, h2, h3.move hm hz, h4.move hm hz, h5.move hm hz, h6.move hm hz⟩
def Else (B : Nat) (v : Value) (b : Nat) : Prop := B ≤ b ∧ ¬ v.ownBlock = some b
def SS (B D : Nat) (w : World) (v : Value) (its : List It) : Prop :=
  ∃ rows : List R6, rows.length = its.length ∧ w.ownsRow B 82 6 v rows.length (flat6 rows) ∧ ∀ i, i < its.length → RowOK (Else B v) D w (rows.getD i noR6) (its.getD i noIt)
theorem SS.nil (B D : Nat) (w : World) : SS B D w (.slice none 0 0) [] := ⟨[], rfl, ⟨rfl, Or.inl ⟨rfl, rfl⟩⟩, fun _ hi => absurd hi (Nat.not_lt_zero _)⟩
theorem SS.far {B D m : Nat} {a b : World} {v : Value} {its : List It} (h : SS B D a v its) (hm : m ≤ B) (hf : Far m a b) : SS B D b v its := by
  obtain ⟨rows, h1, h2, h3⟩ := h
  refine ⟨rows, h1, ⟨h2.1, ?_⟩, fun i hi => (h3 i hi).move (fun k hk hs => ⟨hf.block k hs (Nat.le_trans hm hk.1), hk⟩) hf.size⟩
  rcases h2.2 with ⟨rfl, e0⟩ | ⟨g, cap, cur, rfl, hb, hg, r⟩
  · exact Or.inl ⟨rfl, e0⟩
  · exact Or.inr ⟨g, cap, cur, rfl, hb, by rw [hf.block g (Array.getElem?_eq_some_iff.1 hg).1 (by omega)]; exact hg, r⟩
theorem SS.own {B D : Nat} {w : World} {v : Value} {its : List It} (h : SS B D w v its) : ∀ k, v.ownBlock = some k → B ≤ k ∧ k < w.heap.size := by
  obtain ⟨rows, h1, h2, h3⟩ := h
  intro k hk
  rcases h2.2 with ⟨rfl, _⟩ | ⟨g, cap, cur, rfl, hb, hg, _⟩
  · cases hk
  · cases hk; exact ⟨hb, (Array.getElem?_eq_some_iff.1 hg).1⟩
theorem SS.stmts {B D : Nat} {w : World} {v : Value} {its : List It} (h : SS B D w v its) (hl : its.length ≤ 100000) : StmtsIn B w (D + 1) v (mkT its) := by
  obtain ⟨rows, h1, h2, h3⟩ := h
  rcases h2.2 with ⟨rfl, e0⟩ | ⟨g, cap, cur, rfl, hb, hg, r⟩
  · have e : its.length = 0 := by omega
    exact ⟨none, 0, by rw [mkT_len, e], hl, Or.inl e⟩
  · refine ⟨_, cap, by rw [mkT_len, h1], hl, Or.inr ⟨g, 0, rfl, hb, (Array.getElem?_eq_some_iff.1 hg).1, fun i hi => ?_⟩⟩
    have hi : i < its.length := hi
    obtain ⟨k1, k2, k3, k4, k5, k6⟩ := (h3 i hi).move (Q := fun b => B ≤ b) (b := w) (fun k hk _ => ⟨rfl, hk.1⟩) (Nat.le_refl _)
    have e : ∀ t, t < 6 → w.cell? ⟨g, 0 + i * 6 + t, none⟩ = (rows.getD i noR6).list[t]? := fun t ht => by
      rw [Nat.zero_add, h2.cellAt _ (by omega), flat6_at rows i t (by omega) ht]
    have e0 := e 0 (by omega)
    rw [Nat.add_zero] at e0
    rw [mkT_nd, mkT_a, mkT_b, ← k1, ← k2]
    exact ⟨_, _, _, _, e0, e 1 (by omega), e 2 (by omega), e 3 (by omega), e 4 (by omega), e 5 (by omega), k3, k4, k5.toIn, k6.toIn⟩
theorem info41 : (Tryz.prog.info? 82).map (fun i => (i.zero, i.size, i.bytes)) = some (some (.agg #[.int .i64 0, .int .i64 0, .slice none 0 0, .slice none 0 0, .slice none 0 0, .slice none 0 0]), 6, 112) := by kernel_rfl
theorem getD_snoc {α : Type} (l : List α) (x d : α) (i : Nat) : (l ++ [x]).getD i d = if i < l.length then l.getD i d else if i = l.length then x else d := by
  simp only [List.getD_eq_getElem?_getD, List.getElem?_append]
  split
  · rfl
  · split
    · next h => rw [h, Nat.sub_self]; rfl
    · next h1 h2 => rw [List.getElem?_eq_none (by simp; omega)]; rfl
theorem append_stmt {ops : Array Oper} {rest : List Oper} {o : Oper} {a : Act} {Q : Exit → Act → World → Prop} (w : World) (hgd : o.guard = none) (s y : Operand)
    (ho : o.op = .call { callee := .builtin .append, args := #[s, y], argTypes := #[41, 41] }) (base D : Nat) (v : Value) (its : List It) (it : It) (k n : Int) (xe xf xa xb : Option Addr) (ne nf na nb ce cf ca cb : Nat) (hs : a.eval s = v) (hown : SS base D w v its)
    (hrow : RowOK (Else base v) D w ⟨k, n, .slice xe ne ce, .slice xf nf cf, .slice xa na ca, .slice xb nb cb⟩ it)
    (t : TypeId) (B : Nat) (hB : w.heap.size = B) (hy : a.eval y = .slice (some ⟨B, 0, none⟩) 1 1) (hR : its.length + 1 ≤ 1000000) (hbase : base ≤ w.heap.size)
    (h : ∀ v' w2, Hid (SS base D w2 v' (its ++ [it])) → Hid (Grow w v w2 v') → wpList Tryz.prog ops Q rest (a.put o.dst v') w2) :
    wpList Tryz.prog ops Q (o :: rest) a (w.alloc (.cells #[.int .i64 k, .int .i64 n, .slice xe ne ce, .slice xf nf cf, .slice xa na ca, .slice xb nb cb] t)) := by
  subst hB
  obtain ⟨i0, hi, hz0, hz1, hz2⟩ := info_parts info41
  have hk : Below w.heap.size w (w.alloc (.cells #[.int .i64 k, .int .i64 n, .slice xe ne ce, .slice xf nf cf, .slice xa na ca, .slice xb nb cb] t)) := bal _ _
  obtain ⟨rows, r1, r2', r3⟩ := hown
  have r2 := r2'.alloc (.cells #[.int .i64 k, .int .i64 n, .slice xe ne ce, .slice xf nf cf, .slice xa na ca, .slice xb nb cb] t)
  refine wpList_append_own_at _ hgd s y 41 ho base 82 i0 (.agg #[.int .i64 0, .int .i64 0, .slice none 0 0, .slice none 0 0, .slice none 0 0, .slice none 0 0]) 6 112 Tryz.underlying41 hi hz0 hz1 hz2 rfl (by decide) v _ _ hs r2 ⟨w.heap.size, 0, none⟩ 1 1 [.int .i64 k, .int .i64 n, .slice xe ne ce, .slice xf nf cf, .slice xa na ca, .slice xb nb cb] hy rfl (fun j u hj => ?_) (fun u hu => ?_) (by unfold maxLen; omega) (by omega) (Nat.le_trans hbase hk.size) ?_
  · rw [WideShapes.add_plain, Nat.zero_add, World.cell?_alloc_new]
    show ([Value.int .i64 k, .int .i64 n, .slice xe ne ce, .slice xf nf cf, .slice xa na ca, .slice xb nb cb].toArray)[j]? = some u
    rw [List.getElem?_toArray]
    exact hj
  · simp only [List.mem_cons, List.not_mem_nil, or_false] at hu
    rcases hu with rfl | rfl | rfl | rfl | rfl | rfl <;> rfl
  · intro v' w2 h1 h2 _ h4
    -- what the statements hold lies elsewhere than the row
    have hfar2 : ∀ k, k < w.heap.size → ¬ v.ownBlock = some k → w2.heap[k]? = w.heap[k]? := fun k hk1 hk2 => by
      rw [h2.block k (Nat.lt_of_lt_of_le hk1 hk.size) (fun e => hk2 e.symm)]
      exact hk.block k hk1
    refine h v' w2 ?_ ⟨h2.os, h2.tape, h2.output, Nat.le_trans hk.size h2.size, hfar2, fun k hk1 hk2 => ?_⟩
    · show SS _ _ _ _ _
      have hmv : ∀ b, Else base v b → b < w.heap.size → w2.heap[b]? = w.heap[b]? ∧ Else base v' b := fun b hb hs => by
        refine ⟨hfar2 b hs hb.2, hb.1, fun e => ?_⟩
        rcases h4 with h4 | h4
        · exact hb.2 (h4 ▸ e)
        · have h5 := Option.some.inj (h4.symm.trans e)
          have h6 := hk.size
          omega
      refine ⟨rows ++ [⟨k, n, .slice xe ne ce, .slice xf nf cf, .slice xa na ca, .slice xb nb cb⟩], by simp [r1], ?_, fun i hi => ?_⟩
      · rw [List.length_append, flat6_append]
        exact h1
      · rw [getD_snoc, getD_snoc, r1]
        rw [List.length_append, List.length_singleton] at hi
        by_cases c : i < its.length
        · rw [if_pos c, if_pos c]
          exact (r3 i c).move hmv (Nat.le_trans hk.size h2.size)
        · rw [if_neg c, if_neg c, if_pos (by omega), if_pos (by omega)]
          exact hrow.move hmv (Nat.le_trans hk.size h2.size)
    · rcases h4 with h4 | h4
      · rw [← h4]; exact hk2
      · have h5 := Option.some.inj (h4.symm.trans hk2)
        have h6 := hk.size
        omega
theorem StP.row {X nf : Nat} {par : Nat → Int} {fv : Value} {t K : Nat} {ws : List Wd} {w w' : World} {ve vf va vb : Value} (h : StP X nf par fv t K ws w w' ve vf va vb) {B D : Nat} {v : Value} (hB : B ≤ w.heap.size) (hv : ∀ k, v.ownBlock = some k → k < w.heap.size) (hD : t + 1 ≤ D) :
    RowOK (Else B v) D w' ⟨K, if hasN K then numR ws else 0, ve, vf, va, vb⟩ (stR nf par (blkR nf par t) K ws) := by
  obtain ⟨h1, h2, h3, h4, _, _⟩ := h
  have hm : ∀ b, w.heap.size ≤ b → b < w'.heap.size → w'.heap[b]? = w'.heap[b]? ∧ Else B v b := fun b hb _ => ⟨rfl, Nat.le_trans hB hb, fun e => by have := hv b e; omega⟩
  exact ⟨rfl, rfl, h1.lowT.toP.move hm (Nat.le_refl _), h2.lowT.toP.move hm (Nat.le_refl _), (h3.le hD).toP.move hm (Nat.le_refl _), (h4.le hD).toP.move hm (Nat.le_refl _)⟩
theorem loopR_stop {nf : Nat} {par : Nat → Int} {t : Nat} {us : List Wd} (hl : us.length ≤ t) (h : kindOf (hdW us) = 0) : loopR nf par t us = ([], us.tail) := by
  cases t with
  | zero =>
    have e : us = [] := List.eq_nil_of_length_eq_zero (by omega)
    subst e; rfl
  | succ t => rw [loopR, if_pos h]
theorem loopR_go {nf : Nat} {par : Nat → Int} {t : Nat} {us : List Wd} (h : ¬ kindOf (hdW us) = 0) :
    loopR nf par (t + 1) us = (stR nf par (blkR nf par t) (kindOf (hdW us)) us.tail :: (loopR nf par t (st5 nf par (blkR nf par t) (kindOf (hdW us)) us.tail).2).1, (loopR nf par t (st5 nf par (blkR nf par t) (kindOf (hdW us)) us.tail).2).2) := by
  rw [loopR, if_neg h]
  rfl
theorem st5_len (nf : Nat) (par : Nat → Int) (t k : Nat) (us : List Wd) : (st5 nf par (blkR nf par t) k us).2.length ≤ us.length := by
  have b := blkR_len nf par t
  have e1 : (st1 k us).length ≤ us.length := by unfold st1; split <;> simp
  have e2 : (st2 nf par k us).2.length ≤ us.length := by
    unfold st2; split
    · exact e1
    · exact Nat.le_trans (exprR_len nf par _ _) e1
  have e3 : (st3 nf par k us).2.length ≤ us.length := by
    unfold st3; split
    · exact Nat.le_trans (exprR_len nf par _ _) e2
    · exact e2
  have e4 : (st4 nf par (blkR nf par t) k us).2.length ≤ us.length := by
    unfold st4; split
    · exact Nat.le_trans (b _) e3
    · exact e3
  unfold st5; split
  · exact Nat.le_trans (b _) e4
  · exact e4
set_option maxHeartbeats 4000000 in
theorem block_step (N X : Nat) (hNX : N ≤ X) (nf : Nat) (par : Nat → Int) (fv : Value) (u : Nat) (IH : Hid (∀ t, t < u → BlkOK N X nf par fv t)) : BlkOK N X nf par fv u := by
  intro w ws he h hp hl
  have hX := h.lt
  have hlen := h.len
  have HR : Hid (RD X w ws fv) := h
  have HEn : Hid (∀ wi, Save X w wi → Env N wi) := fun wi hs => he.below (hs.low hNX (by omega))
  have HPa : Hid (∀ wi, Save X w wi → ParAt X wi fv nf par) := fun wi hs => hp.save hs hX
  clear h he hp
  go_enter Tryz.func111, Tryz.ntmps111
  go_upto_region 2 with (first
    | (go_at_call 109; refine (next X w ws fv HR.out).mono ?_; rintro e w1 ⟨rfl, R1, s1⟩))
  have hs1 : Save X w w1 := s1
  have HN2 : Hid (Calls Tryz.prog 109 #[.pointer (some ⟨X, 0, none⟩)] w1 fun e w' => e = .returned (.string (hdW ws.tail)) ∧ Hid (RD X w' ws.tail.tail fv) ∧ Save X w1 w') := next X w1 ws.tail fv R1.out
  clear s1
  go_upto_region 4 with (first
    | (go_at_call 109; refine HN2.out.mono ?_; rintro e w2 ⟨rfl, R2, s2⟩)
    | (go_at_call 157; refine (stmtKind N (hdW ws.tail) w2 (HEn.out _ (hs1.trans s2))).mono ?_; rintro e w3 ⟨rfl, h3⟩; rw [h3]; clear h3))
  have hs2 : Save X w w2 := hs1.trans s2
  clear s2 hs1 HN2
  go_loopg [3, 4] ws.tail.length (fun k q i wr => ∃ (its : List It) (us : List Wd) (t : Nat), us.length = k ∧ us.length ≤ t ∧ t ≤ u ∧ its.length + us.length ≤ 100000 ∧ i = .int .i64 (kindOf (hdW us) : Int) ∧ Hid (SS w.heap.size u wr q its) ∧ Hid (RD X wr us.tail fv) ∧ Save X w wr ∧ Hid (loopR nf par u ws.tail = (its ++ (loopR nf par t us).1, (loopR nf par t us).2)))
  case atStart => exact ⟨[], ws.tail, u, rfl, hl, Nat.le_refl _, by simp; omega, rfl, SS.nil _ _ _, R2, hs2, (by show _ = _; simp)⟩
  case round =>
    obtain ⟨its, us, t, hk, hut, htu, hil, rfl, HS, HU, hsv, HX⟩ := hrel
    by_cases hK0 : kindOf (hdW us) = 0
    · have HF : Hid (loopR nf par u ws.tail = (its, us.tail)) := by
        show _ = _
        rw [HX.out, loopR_stop hut hK0]; simp
      rw [hK0]
      clear hK0
      go_wp2_with fail
      go_ret
      refine ⟨_, rfl, ?_, ?_, hsv⟩
      · show StmtsIn _ _ _ _ (mkT (loopR nf par u ws.tail).1)
        rw [HF.out]
        exact HS.out.stmts (by omega)
      · show RD _ _ (loopR nf par u ws.tail).2 _
        rw [HF.out]
        exact HU.out
    · have hus : ¬ us = [] := fun e => hK0 (by rw [e]; decide)
      have hup : 0 < us.length := List.length_pos_iff.2 hus
      obtain ⟨t, rfl⟩ : ∃ t', t = t' + 1 := ⟨t - 1, by omega⟩
      have hK8 := kindOf_lt (hdW us)
      have HX2 : Hid (loopR nf par u ws.tail = ((its ++ [stR nf par (blkR nf par t) (kindOf (hdW us)) us.tail]) ++ (loopR nf par t (st5 nf par (blkR nf par t) (kindOf (hdW us)) us.tail).2).1, (loopR nf par t (st5 nf par (blkR nf par t) (kindOf (hdW us)) us.tail).2).2)) := by
        show _ = _
        rw [HX.out, loopR_go hK0]; simp
      have htl : us.tail.length ≤ t := by rw [List.length_tail]; omega
      have hrl := st5_len nf par t (kindOf (hdW us)) us.tail
      have HB := IH.out t (by omega)
      generalize hK : kindOf (hdW us) = K at *
      have HSt : Hid (Calls Tryz.prog 158 #[.pointer (some ⟨X, 0, none⟩), .int .i64 K] wr fun e w' => ∃ ve vf va vb, e = .returned (.agg #[.int .i64 K, .int .i64 (if hasN K then numR us.tail else 0), ve, vf, va, vb]) ∧ Hid (StP X nf par fv t K us.tail wr w' ve vf va vb)) :=
        stmt N X hNX nf par fv t HB wr us.tail K (HEn.out _ hsv) HU.out (HPa.out _ hsv) htl (by omega) hK8
      have hKn : ((K : Int) != 0) = true := by simp; omega
      generalize hnum : (if hasN K then numR us.tail else 0) = num at *
      have hrl2 : (st5 nf par (blkR nf par t) K us.tail).2.length < us.length := by rw [List.length_tail] at hrl; omega
      have HRow : Hid (∀ w' ve vf va vb, StP X nf par fv t K us.tail wr w' ve vf va vb → RowOK (Else w.heap.size u3) u w' ⟨K, num, ve, vf, va, vb⟩ (stR nf par (blkR nf par t) K us.tail)) := fun w' ve vf va vb hst => by
        have := hst.row (v := u3) (D := u) hsv.size (fun k hk => (HS.out.own k hk).2) htu
        rw [hnum] at this
        exact this
      have hsr := hsv.size
      have HIt : Hid (stR nf par (blkR nf par t) K us.tail = stR nf par (blkR nf par t) K us.tail) := rfl
      generalize hit : stR nf par (blkR nf par t) K us.tail = it at *
      generalize hrest : (st5 nf par (blkR nf par t) K us.tail).2 = rest at *
      have HSp : Hid (∀ w' ve vf va vb, StP X nf par fv t K us.tail wr w' ve vf va vb → RD X w' rest fv ∧ Save X wr w') := fun w' ve vf va vb hst => by
        rw [← hrest]
        exact ⟨hst.2.2.2.2.1, hst.2.2.2.2.2⟩
      clear HB hnum hK hK0 hK8 hrl hit hrest HIt
      go_wp2_with (first
        | (go_at_call 158; refine HSt.out.mono ?_; rintro e w4 ⟨ve, vf, va, vb, rfl, H4⟩; obtain ⟨e1, e2, e3, rfl⟩ := H4.out.1.shape; obtain ⟨f1, f2, f3, rfl⟩ := H4.out.2.1.shape; obtain ⟨a1, a2, a3, rfl⟩ := H4.out.2.2.1.shape; obtain ⟨b1, b2, b3, rfl⟩ := H4.out.2.2.2.1.shape; obtain ⟨R4, s4⟩ := HSp.out _ _ _ _ _ H4.out)
        | (at_builtin; refine append_stmt w4 rfl _ _ rfl w.heap.size u u3 its it K num _ _ _ _ _ _ _ _ _ _ _ _ rfl (HS.out.far (Nat.le_refl _) (Far.of s4 hX)) (HRow.out _ _ _ _ _ H4.out) _ _ rfl rfl (by omega) (Nat.le_trans hsr s4.size) ?_; intro v5 w5 H5 G5; have R5 : RD X w5 rest fv := R4.below (G5.out.low (B := X + 1) (fun k hk => by have := (HS.out.own k hk).1; omega) R4.lt); have s5 : Save X w w5 := G5.out.save (B := w.heap.size) (fun k hk => (HS.out.own k hk).1) (Nat.le_refl _) (hsv.trans s4))
        | (go_at_call 109; refine (next X w5 rest fv R5).mono ?_; rintro e w6 ⟨rfl, R6, s6⟩)
        | (go_at_call 157; refine (stmtKind N (hdW rest) w6 (HEn.out _ (s5.trans s6))).mono ?_; rintro e w7 ⟨rfl, h7⟩; rw [h7]; clear h7))
      go_roundg rest.length
      case rel =>
        exact ⟨its ++ [it], rest, t, rfl, by omega, by omega, by simp; omega, rfl, H5.out.far (Nat.le_refl _) (Far.of s6 hX), R6, s5.trans s6, HX2⟩
      case measure => omega
theorem block (N X : Nat) (hNX : N ≤ X) (nf : Nat) (par : Nat → Int) (fv : Value) (u : Nat) : BlkOK N X nf par fv u := by
  induction u using Nat.strongRecOn with
  | _ u ih => exact block_step N X hNX nf par fv u ih
end Go.Proofs.YtbmenihakkogkabGreatDoor
