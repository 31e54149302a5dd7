/- Rows of statements and of functions by their cells; slices.Clone of each; the number 'at' of a list. -/
import Derived.Test.YtmhdiloejcdkcaaPartsMath
import Derived.Test.YtmhdiloejcdkcaaOpenSrc
import Derived.Test.YtmhdiloejcdkcaaTyped
namespace Go.Proofs.Ytmhdiloejcdkcaa
open Go.RowKit Go.Maps

/-- The first m of some cells. -/
def cellsL (m : Nat) (c : Nat → Value) : List Value := (List.range m).map c
theorem cellsL_len (m : Nat) (c : Nat → Value) : (cellsL m c).length = m := by simp [cellsL]
theorem cellsL_at {m : Nat} {c : Nat → Value} {j : Nat} (h : j < m) : (cellsL m c)[j]? = some (c j) := by simp [cellsL, h]
theorem cellsL_some {m : Nat} {c : Nat → Value} {j : Nat} {u : Value} (h : (cellsL m c)[j]? = some u) : j < m ∧ u = c j := by
  have hl : j < m := by
    have := (List.getElem?_eq_some_iff.1 h).1
    rwa [cellsL_len] at this
  rw [cellsL_at hl] at h
  exact ⟨hl, (Option.some.inj h).symm⟩

/-- The cells c are those of the statements T. -/
def IsRow (N : Nat) (w : World) (d : Nat) (c : Nat → Value) (T : SL) : Prop :=
  ∀ i, i < T.len → c (i * 6) = .int .i64 (T.nd i).kind ∧ c (i * 6 + 1) = .int .i64 (T.nd i).num ∧ ToksAt N w (c (i * 6 + 2)) (T.nd i).ne (T.nd i).ek (T.nd i).ez ∧ ToksAt N w (c (i * 6 + 3)) (T.nd i).nf (T.nd i).fk (T.nd i).fz ∧
    StmtsAt N w d (c (i * 6 + 4)) (T.sub i false) ∧ StmtsAt N w d (c (i * 6 + 5)) (T.sub i true)

theorem IsRow.below {N : Nat} {w w' : World} {d : Nat} {c : Nat → Value} {T : SL} (h : IsRow N w d c T) (hb : Below N w w') : IsRow N w' d c T := fun i hi => by
  obtain ⟨h1, h2, h3, h4, h5, h6⟩ := h i hi
  exact ⟨h1, h2, h3.below hb, h4.below hb, h5.below hb, h6.below hb⟩

theorem IsRow.up {N M : Nat} {w : World} {d : Nat} {c : Nat → Value} {T : SL} (h : IsRow N w d c T) (hm : N ≤ M) : IsRow M w d c T := fun i hi => by
  obtain ⟨h1, h2, h3, h4, h5, h6⟩ := h i hi
  exact ⟨h1, h2, h3.up hm, h4.up hm, h5.up hm, h6.up hm⟩

theorem row_of_stmts {N : Nat} {w : World} {d : Nat} {v : Value} {T : SL} (h : StmtsAt N w (d + 1) v T) (h0 : ¬ T.len = 0) :
    ∃ b o cap c, v = .slice (some ⟨b, o, none⟩) T.len cap ∧ b < N ∧ (∀ j, j < T.len * 6 → w.cell? ⟨b, o + j, none⟩ = some (c j)) ∧ IsRow N w d c T := by
  obtain ⟨a, cap, rfl, hn, h | ⟨b, o, rfl, hlt, hc⟩⟩ := h
  · exact absurd h h0
  · have hsome : ∀ j, j < T.len * 6 → ∃ u, w.cell? ⟨b, o + j, none⟩ = some u := fun j hj => by
      obtain ⟨ve, vf, va, vb, c0, c1, c2, c3, c4, c5, _⟩ := hc (j / 6) (by omega)
      have ej : j = j / 6 * 6 + j % 6 := by omega
      rcases (show j % 6 = 0 ∨ j % 6 = 1 ∨ j % 6 = 2 ∨ j % 6 = 3 ∨ j % 6 = 4 ∨ j % 6 = 5 by omega) with e | e | e | e | e | e
      · rw [e, Nat.add_zero] at ej; rw [ej]; exact ⟨_, c0⟩
      · rw [e] at ej; rw [ej, ← Nat.add_assoc]; exact ⟨_, c1⟩
      · rw [e] at ej; rw [ej, ← Nat.add_assoc]; exact ⟨_, c2⟩
      · rw [e] at ej; rw [ej, ← Nat.add_assoc]; exact ⟨_, c3⟩
      · rw [e] at ej; rw [ej, ← Nat.add_assoc]; exact ⟨_, c4⟩
      · rw [e] at ej; rw [ej, ← Nat.add_assoc]; exact ⟨_, c5⟩
    refine ⟨b, o, cap, fun j => (w.cell? ⟨b, o + j, none⟩).getD (.bool false), rfl, hlt, fun j hj => ?_, fun i hi => ?_⟩
    · obtain ⟨u, hu⟩ := hsome j hj
      show _ = some ((w.cell? ⟨b, o + j, none⟩).getD (.bool false))
      rw [hu]; rfl
    · obtain ⟨ve, vf, va, vb, c0, c1, c2, c3, c4, c5, t1, t2, s1, s2⟩ := hc i hi
      simp only [← Nat.add_assoc]
      rw [c0, c1, c2, c3, c4, c5]
      exact ⟨rfl, rfl, t1, t2, s1, s2⟩

theorem IsRow.one {N : Nat} {w : World} {d : Nat} {c : Nat → Value} {T : SL} (h : IsRow N w d c T) : ∀ u ∈ cellsL (T.len * 6) c, u.oneCell' = true := by
  intro u hu
  obtain ⟨j, hj⟩ := List.mem_iff_getElem?.1 hu
  obtain ⟨hl, rfl⟩ := cellsL_some hj
  obtain ⟨h1, h2, h3, h4, h5, h6⟩ := h (j / 6) (by omega)
  obtain ⟨_, _, e3, _⟩ := h3.shape
  obtain ⟨_, _, e4, _⟩ := h4.shape
  obtain ⟨_, _, e5, _⟩ := h5.shape
  obtain ⟨_, _, e6, _⟩ := h6.shape
  have ej : j = j / 6 * 6 + j % 6 := by omega
  rcases (show j % 6 = 0 ∨ j % 6 = 1 ∨ j % 6 = 2 ∨ j % 6 = 3 ∨ j % 6 = 4 ∨ j % 6 = 5 by omega) with e | e | e | e | e | e
  · rw [e, Nat.add_zero] at ej; rw [ej, h1]; rfl
  · rw [e] at ej; rw [ej, h2]; rfl
  · rw [e] at ej; rw [ej, e3]; rfl
  · rw [e] at ej; rw [ej, e4]; rfl
  · rw [e] at ej; rw [ej, e5]; rfl
  · rw [e] at ej; rw [ej, e6]; rfl

/-- The cells at other places. -/
def pickC (h : Nat → Nat) (c : Nat → Value) (j : Nat) : Value := c (h (j / 6) * 6 + j % 6)

theorem IsRow.pick {N : Nat} {w : World} {d : Nat} {c : Nat → Value} {T : SL} {n : Nat} {h : Nat → Nat} (hr : IsRow N w d c T) (hh : ∀ i, i < n → h i < T.len) : IsRow N w d (pickC h c) (pickT n h T) := fun i hi => by
  obtain ⟨h1, h2, h3, h4, h5, h6⟩ := hr (h i) (hh i hi)
  have e : ∀ t, t < 6 → pickC h c (i * 6 + t) = c (h i * 6 + t) := fun t ht => by
    unfold pickC
    rw [show (i * 6 + t) / 6 = i by omega, show (i * 6 + t) % 6 = t by omega]
  have e0 := e 0 (by omega)
  rw [Nat.add_zero, Nat.add_zero] at e0
  rw [e0, e 1 (by omega), e 2 (by omega), e 3 (by omega), e 4 (by omega), e 5 (by omega)]
  exact ⟨h1, h2, h3, h4, h5, h6⟩

/-- A row of the call's own that holds such cells is those statements. -/
theorem own_stmts {N : Nat} {w : World} {base d : Nat} {v : Value} {c : Nat → Value} {T : SL} (h : w.ownsRow base 58 6 v T.len (cellsL (T.len * 6) c)) (hr : IsRow N w d c T) (hN : N ≤ w.heap.size) (hl : T.len ≤ 9223372036854775807) : StmtsAt w.heap.size w (d + 1) v T := by
  rcases h.2 with ⟨rfl, h0⟩ | ⟨g, cap, cur, rfl, r⟩
  · exact ⟨none, 0, by rw [h0], hl, Or.inl h0⟩
  · refine ⟨_, cap, rfl, hl, Or.inr ⟨g, 0, rfl, (h.lt g rfl).2, fun i hi => ?_⟩⟩
    have hr' := hr.up hN
    obtain ⟨h1, h2, h3, h4, h5, h6⟩ := hr' i hi
    have e : ∀ t, t < 6 → w.cell? ⟨g, 0 + i * 6 + t, none⟩ = some (c (i * 6 + t)) := fun t ht => by
      rw [Nat.zero_add, h.cellAt _ (by omega), cellsL_at (by omega)]
    have e0 := e 0 (by omega)
    rw [Nat.add_zero, Nat.add_zero] at e0
    exact ⟨c (i * 6 + 2), c (i * 6 + 3), c (i * 6 + 4), c (i * 6 + 5), by rw [e0, h1], by rw [e 1 (by omega), h2], e 2 (by omega), e 3 (by omega), e 4 (by omega), e 5 (by omega), h3, h4, h5, h6⟩

theorem info58 : (Try.prog.info? 58).map (fun i => (i.zero, i.size, i.bytes)) = some (some (.agg #[.int .i64 0, .int .i64 0, .slice none 0 0, .slice none 0 0, .slice none 0 0, .slice none 0 0]), 6, 112) := by kernel_rfl
theorem info54 : (Try.prog.info? 54).map (fun i => (i.zero, i.size, i.bytes)) = some (some (.agg #[.int .i64 0, .int .i64 0, .slice none 0 0]), 3, 40) := by kernel_rfl

/-- A row at the end of a row of the call's own. -/
theorem append_row {ops : Array Oper} {rest : List Oper} {o : Oper} {a : Act} {Q : Exit → Act → World → Prop} (w : World) (hgd : o.guard = none) (s y : Operand) (t e size bytes : Nat) (z : Value) (hsz : 0 < size) (hzs : z.cells.size = size) (hby : bytes ≤ 112)
    (hu : Try.prog.underlying t = some (.slice e)) (hinfo : (Try.prog.info? e).map (fun i => (i.zero, i.size, i.bytes)) = some (some z, size, bytes))
    (ho : o.op = .call { callee := .builtin .append, args := #[s, y], argTypes := #[t, t] }) (base : Nat) (v : Value) (k : Nat) (xs : List Value) (hs : a.eval s = v) (hown : w.ownsRow base e size v k xs)
    (ad : Addr) (n cp : Nat) (news : List Value) (hl : news.length = n * size) (hy : a.eval y = .slice (some ad) n cp) (hnews : ∀ j u, news[j]? = some u → w.cell? (ad.add j) = some u) (h1 : ∀ u ∈ news, u.oneCell' = true) (hR : k + n ≤ 100000) (hbase : base ≤ w.heap.size)
    (h : ∀ ad' cap w2, w2.ownsRow base e size (.slice ad' (k + n) cap) (k + n) (xs ++ news) → w.grownBy w2 v.ownBlock → wpList Try.prog ops Q rest (a.put o.dst (.slice ad' (k + n) cap)) w2) :
    wpList Try.prog ops Q (o :: rest) a w := by
  obtain ⟨i0, hi, hz0, hz1, hz2⟩ := info_parts hinfo
  refine wpList_append_own _ hgd s y t ho base e i0 z size bytes hu hi hz0 hz1 hz2 hzs hsz v _ _ hs hown ad n cp news hy hl hnews h1 (by unfold maxLen; omega) ?_ hbase ?_
  · have : (k + n) * bytes ≤ 100000 * 112 := Nat.mul_le_mul hR hby
    omega
  · intro v' w2 h1 h2 _
    obtain ⟨ad', cap, rfl⟩ := own_shape h1
    exact h ad' cap w2 h1 h2

set_option maxHeartbeats 400000 in
/-- slices.Clone of statements. -/
theorem cloneStmts (b o cap n : Nat) (c : Nat → Value) (w : World) (hb : b < w.heap.size) (hc : ∀ j, j < n * 6 → w.cell? ⟨b, o + j, none⟩ = some (c j)) (h1 : ∀ u ∈ cellsL (n * 6) c, u.oneCell' = true) (hn : n ≤ 1000) :
    Calls Try.prog 33 #[.slice (some ⟨b, o, none⟩) n cap] w fun e w' => ∃ ad cp, e = .returned (.slice ad n cp) ∧ w'.ownsRow w.heap.size 58 6 (.slice ad n cp) n (cellsL (n * 6) c) ∧ Below w.heap.size w w' := by
  have hq := fun (w : World) => Lib.run_eql_slice_nil (P := Try.prog) w 52 58 (some ⟨b, o, none⟩) n cap 0 0 Try.underlying52
  have HN : Hid (∀ ob : Obj, ∀ j u, (cellsL (n * 6) c)[j]? = some u → (w.alloc ob).cell? ((⟨b, o, none⟩ : Addr).add j) = some u) := fun ob j u hj => by
    obtain ⟨hl, rfl⟩ := cellsL_some hj
    rw [WideShapes.add_plain]
    exact ((below_alloc w ob).cell (p := ⟨b, o + j, none⟩) hb).trans (hc j hl)
  have H1 : Hid (∀ u ∈ cellsL (n * 6) c, u.oneCell' = true) := h1
  clear hc h1
  go_enter Try.func33, Try.ntmps33
  go_wp2_with (at_builtin; refine append_row _ rfl _ _ 52 58 6 112 _ (by decide) rfl (by decide) Try.underlying52 info58 rfl w.heap.size _ 0 [] rfl (World.ownsRow_lit w #[] 0 (Nat.le_refl _) (by decide) rfl) ⟨b, o, none⟩ n cap (cellsL (n * 6) c) (cellsL_len _ _) rfl (HN.out _) H1.out (by omega) (by simp) ?_; intro ad' cp w2 hown hgrow)
  have hg : (w.alloc (.cells #[] 58)).grownBy w2 (some w.heap.size) := hgrow
  go_ret
  refine ⟨ad', cp, by simp, ?_, (below_alloc w _).grown hg (by simp) (fun k hk => by cases hk; exact Nat.le_refl _)⟩
  simpa using hown

/-- The cells of functions. -/
def funC (par loc : Nat → Int) (bv : Nat → Value) (j : Nat) : Value := if j % 3 = 0 then .int .i64 (par (j / 3)) else if j % 3 = 1 then .int .i64 (loc (j / 3)) else bv (j / 3)

set_option maxHeartbeats 400000 in
/-- slices.Clone of functions. -/
theorem cloneFuns (N : Nat) (f : Value) (n : Nat) (par loc : Nat → Int) (bv : Nat → Value) (w : World) (hN : N ≤ w.heap.size) (hf : FunsAt N w f n par loc bv) (h0 : 1 ≤ n) (hn : n ≤ 1000) :
    Calls Try.prog 31 #[f] w fun e w' => ∃ ad cp, e = .returned (.slice ad n cp) ∧ w'.ownsRow w.heap.size 54 3 (.slice ad n cp) n (cellsL (n * 3) (funC par loc bv)) ∧ Below w.heap.size w w' := by
  obtain ⟨a, cap, rfl, _, h | ⟨b, o, rfl, hlt, g⟩⟩ := hf
  · omega
  have hq := fun (w : World) => Lib.run_eql_slice_nil (P := Try.prog) w 45 54 (some ⟨b, o, none⟩) n cap 0 0 Try.underlying45
  have hc : ∀ j, j < n * 3 → w.cell? ⟨b, o + j, none⟩ = some (funC par loc bv j) ∧ (funC par loc bv j).oneCell' = true := fun j hj => by
    obtain ⟨c0, c1, c2, x, m, cx, ex⟩ := g (j / 3) (by omega)
    have ej : j = j / 3 * 3 + j % 3 := by omega
    unfold funC
    rcases (show j % 3 = 0 ∨ j % 3 = 1 ∨ j % 3 = 2 by omega) with e | e | e
    · rw [if_pos e]
      rw [e, Nat.add_zero] at ej
      refine ⟨?_, rfl⟩
      rw [← c0, ← ej]
    · rw [if_neg (by omega), if_pos e]
      rw [e] at ej
      refine ⟨?_, rfl⟩
      rw [← c1, Nat.add_assoc, ← ej]
    · rw [if_neg (by omega), if_neg (by omega)]
      rw [e] at ej
      refine ⟨?_, by rw [ex]; rfl⟩
      rw [← c2, Nat.add_assoc, ← ej]
  have HN : Hid (∀ ob : Obj, ∀ j u, (cellsL (n * 3) (funC par loc bv))[j]? = some u → (w.alloc ob).cell? ((⟨b, o, none⟩ : Addr).add j) = some u) := fun ob j u hj => by
    obtain ⟨hl, rfl⟩ := cellsL_some hj
    rw [WideShapes.add_plain]
    exact ((below_alloc w ob).cell (p := ⟨b, o + j, none⟩) (show b < w.heap.size by omega)).trans (hc j hl).1
  have H1 : Hid (∀ u ∈ cellsL (n * 3) (funC par loc bv), u.oneCell' = true) := fun u hu => by
    obtain ⟨j, hj⟩ := List.mem_iff_getElem?.1 hu
    obtain ⟨hl, rfl⟩ := cellsL_some hj
    exact (hc j hl).2
  clear hc g
  go_enter Try.func31, Try.ntmps31
  go_wp2_with (at_builtin; refine append_row _ rfl _ _ 45 54 3 40 _ (by decide) rfl (by decide) Try.underlying45 info54 rfl w.heap.size _ 0 [] rfl (World.ownsRow_lit w #[] 0 (Nat.le_refl _) (by decide) rfl) ⟨b, o, none⟩ n cap (cellsL (n * 3) (funC par loc bv)) (cellsL_len _ _) rfl (HN.out _) H1.out (by omega) (by simp) ?_; intro ad' cp w2 hown hgrow)
  have hg : (w.alloc (.cells #[] 54)).grownBy w2 (some w.heap.size) := hgrow
  go_ret
  refine ⟨ad', cp, by simp, ?_, (below_alloc w _).grown hg (by simp) (fun k hk => by cases hk; exact Nat.le_refl _)⟩
  simpa using hown

/-- A row of the call's own that holds functions' cells is those functions. -/
theorem own_funs {w : World} {base : Nat} {v : Value} {n : Nat} {par loc : Nat → Int} {bv : Nat → Value} (h : w.ownsRow base 54 3 v n (cellsL (n * 3) (funC par loc bv))) (hn : n ≤ 1000) (hb : ∀ i, i < n → ∃ x m c, bv i = .slice x m c) : FunsAt w.heap.size w v n par loc bv := by
  rcases h.2 with ⟨rfl, h0⟩ | ⟨g, cap, cur, rfl, r⟩
  · exact ⟨none, 0, by rw [h0], by omega, Or.inl h0⟩
  · refine ⟨_, cap, rfl, by omega, Or.inr ⟨g, 0, rfl, (h.lt g rfl).2, fun i hi => ?_⟩⟩
    have e : ∀ t, t < 3 → w.cell? ⟨g, 0 + i * 3 + t, none⟩ = some (funC par loc bv (i * 3 + t)) := fun t ht => by
      rw [Nat.zero_add, h.cellAt _ (by omega), cellsL_at (by omega)]
    have e0 := e 0 (by omega)
    have e1 := e 1 (by omega)
    have e2 := e 2 (by omega)
    unfold funC at e0 e1 e2
    rw [show (i * 3 + 0) % 3 = 0 by omega, show (i * 3 + 0) / 3 = i by omega] at e0
    rw [show (i * 3 + 1) % 3 = 1 by omega, show (i * 3 + 1) / 3 = i by omega] at e1
    rw [show (i * 3 + 2) % 3 = 2 by omega, show (i * 3 + 2) / 3 = i by omega] at e2
    exact ⟨by simpa using e0, by simpa using e1, by simpa using e2, hb i hi⟩

set_option maxHeartbeats 400000 in
theorem atOf (k : Int) (n : Nat) (w : World) (h1 : 1 ≤ n) (hn : n ≤ 1000) :
    Calls Try.prog 30 #[.int .i64 k, .int .i64 n] w fun e w' => ∃ i : Nat, e = .returned (.int .i64 (i : Int)) ∧ i < n ∧ w' = w := by
  have hm1 : -(n : Int) < k.tmod n := by
    have := Int.lt_tmod_of_pos k (show (0 : Int) < n by omega)
    omega
  have hm2 : k.tmod n < n := Int.tmod_lt_of_pos k (show (0 : Int) < n by omega)
  go_enter Try.func30, Try.ntmps30
  go_wp2
  · go_ret
    exact ⟨(k.tmod n + n).toNat, ret_num (by omega), by omega, rfl⟩
  · go_ret
    exact ⟨(k.tmod n).toNat, ret_num (by omega), by omega, rfl⟩

end Go.Proofs.Ytmhdiloejcdkcaa
