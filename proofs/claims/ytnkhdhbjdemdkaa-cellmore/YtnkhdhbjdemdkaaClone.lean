/- Rows of values of the call's own; slices.Clone of a row of values. -/
import Derived.Test.YtnkhdhbjdemdkaaRing
import Derived.Test.YtnkhdhbjdemdkaaClosedMath
import Derived.Lib.SliceRun
namespace Go.Proofs.Ytnkhdhbjdemdkaa
open Go.RowKit Go.Maps

/-- The cells of a list of values, one behind the other. -/
def flat : List (Int × Int) → List Value
  | [] => []
  | p :: L => .int .i64 p.1 :: .int .i64 p.2 :: flat L

theorem flat_len : ∀ L : List (Int × Int), (flat L).length = L.length * 2
  | [] => rfl
  | p :: L => by simp only [flat, List.length_cons, flat_len L]; omega

theorem flat_append : ∀ (L M : List (Int × Int)), flat (L ++ M) = flat L ++ flat M
  | [], M => rfl
  | p :: L, M => by simp only [List.cons_append, flat, flat_append L M]

theorem flat_one : ∀ (L : List (Int × Int)), ∀ u ∈ flat L, u.oneCell' = true
  | [], u, h => absurd h List.not_mem_nil
  | p :: L, u, h => by
    simp only [flat, List.mem_cons] at h
    rcases h with rfl | rfl | h
    · rfl
    · rfl
    · exact flat_one L u h

theorem flat_at : ∀ (L : List (Int × Int)) (i : Nat), i < L.length → (flat L)[i * 2]? = some (.int .i64 (fstAt L i)) ∧ (flat L)[i * 2 + 1]? = some (.int .i64 (sndAt L i))
  | [], i, h => absurd h (Nat.not_lt_zero _)
  | p :: L, 0, _ => ⟨rfl, rfl⟩
  | p :: L, i + 1, h => by
    have := flat_at L i (by simpa using h)
    have e : (i + 1) * 2 = i * 2 + 1 + 1 := by omega
    simp only [e, flat, List.getElem?_cons_succ]
    exact this

theorem fstAt_row {n : Nat} {k z : Nat → Int} {i : Nat} (h : i < n) : fstAt (rowL n k z) i = k i := by
  simp [fstAt, rowL, List.getD, h]
theorem sndAt_row {n : Nat} {k z : Nat → Int} {i : Nat} (h : i < n) : sndAt (rowL n k z) i = z i := by
  simp [sndAt, rowL, List.getD, h]

/-- The cells of a row of values in memory are its list's. -/
theorem row_news {w : World} {b o n : Nat} {k z : Nat → Int} (g : ∀ i, i < n → w.cell? ⟨b, o + i * 2, none⟩ = some (.int .i64 (k i)) ∧ w.cell? ⟨b, o + i * 2 + 1, none⟩ = some (.int .i64 (z i))) :
    ∀ j u, (flat (rowL n k z))[j]? = some u → w.cell? ((⟨b, o, none⟩ : Addr).add j) = some u := by
  intro j u hj
  have hl : j < n * 2 := by
    have := (List.getElem?_eq_some_iff.1 hj).1
    rw [flat_len, rowL_len] at this
    exact this
  rw [WideShapes.add_plain]
  have hi : j / 2 < n := by omega
  obtain ⟨f0, f1⟩ := flat_at (rowL n k z) (j / 2) (by rw [rowL_len]; exact hi)
  rw [fstAt_row hi] at f0
  rw [sndAt_row hi] at f1
  obtain ⟨g0, g1⟩ := g (j / 2) hi
  rcases Nat.mod_two_eq_zero_or_one j with e | e
  · have ej : j = j / 2 * 2 := by omega
    rw [← ej] at f0 g0
    rw [f0] at hj
    rw [g0]; exact hj
  · have ej : j = j / 2 * 2 + 1 := by omega
    rw [← ej] at f1
    rw [Nat.add_assoc, ← ej] at g1
    rw [f1] at hj
    rw [g1]; exact hj

theorem info30 : (Try.prog.info? 30).map (fun i => (i.zero, i.size, i.bytes)) = some (some (.agg #[.int .i64 0, .int .i64 0]), 2, 16) := by kernel_rfl

/-- A row of values of the call's own is one in memory. -/
theorem own_vals {w : World} {base : Nat} {v : Value} {L : List (Int × Int)} (h : w.ownsRow base 30 2 v L.length (flat L)) (hL : L.length ≤ 100000) : ValsAt w v L.length (fstAt L) (sndAt L) := by
  rcases h.2 with ⟨rfl, h0⟩ | ⟨g, cap, cur, rfl, r⟩
  · rw [h0]; exact ⟨none, 0, rfl, by omega, Or.inl rfl⟩
  · refine ⟨_, cap, rfl, by omega, Or.inr ⟨g, 0, rfl, (h.lt g rfl).2, fun i hi => ?_⟩⟩
    obtain ⟨f0, f1⟩ := flat_at L i hi
    rw [Nat.zero_add, h.cellAt (i * 2) (by omega), h.cellAt (i * 2 + 1) (by omega)]
    exact ⟨f0, f1⟩

/-- A row more at the end of a list of values of the call's own. -/
theorem append_vals {ops : Array Oper} {rest : List Oper} {o : Oper} {a : Act} {Q : Exit → Act → World → Prop} (w : World) (hgd : o.guard = none) (s y : Operand)
    (ho : o.op = .call { callee := .builtin .append, args := #[s, y], argTypes := #[28, 28] }) (base : Nat) (v : Value) (L : List (Int × Int)) (hs : a.eval s = v) (hown : w.ownsRow base 30 2 v L.length (flat L))
    (ad : Addr) (n c : Nat) (k z : Nat → Int) (hy : a.eval y = .slice (some ad) n c) (hnews : ∀ j u, (flat (rowL n k z))[j]? = some u → w.cell? (ad.add j) = some u) (hR : L.length + n ≤ 100000) (hbase : base ≤ w.heap.size)
    (h : ∀ ad' cap w2, w2.ownsRow base 30 2 (.slice ad' (L.length + n) cap) (L ++ rowL n k z).length (flat (L ++ rowL n k z)) → w.grownBy w2 v.ownBlock → wpList Try.prog ops Q rest (a.put o.dst (.slice ad' (L.length + n) cap)) w2) :
    wpList Try.prog ops Q (o :: rest) a w := by
  obtain ⟨i0, hi, hz0, hz1, hz2⟩ := info_parts info30
  refine wpList_append_own _ hgd s y 28 ho base 30 i0 (.agg #[.int .i64 0, .int .i64 0]) 2 16 Try.underlying28 hi hz0 hz1 hz2 rfl (by decide) v _ _ hs hown ad n c (flat (rowL n k z)) hy (by rw [flat_len, rowL_len]) hnews (flat_one _) (by unfold maxLen; omega) (by omega) hbase ?_
  intro v' w2 h1 h2 _
  obtain ⟨ad', cap, rfl⟩ := own_shape h1
  refine h ad' cap w2 ?_ h2
  rw [List.length_append, rowL_len, flat_append]
  exact h1

set_option maxHeartbeats 400000 in
theorem clone (v : Value) (n : Nat) (k z : Nat → Int) (w : World) (h : ValsAt w v n k z) (hn : n ≤ 1000) :
    Calls Try.prog 17 #[v] w fun e w' => ∃ ad cap, e = .returned (.slice ad n cap) ∧ w'.ownsRow w.heap.size 30 2 (.slice ad n cap) (rowL n k z).length (flat (rowL n k z)) ∧ Below w.heap.size w w' := by
  obtain ⟨a, cap, rfl, _, h⟩ := h
  rcases a with _ | ad
  · obtain rfl : n = 0 := by
      rcases h with h | ⟨b, o, e, _⟩
      · exact h
      · cases e
    have hq := fun (w : World) => Lib.run_eql_slice_nil (P := Try.prog) w 28 30 none 0 cap 0 0 Try.underlying28
    go_enter Try.func17, Try.ntmps17
    go_wp2_with fail
    go_ret
    exact ⟨none, 0, rfl, World.ownsRow_nil _ _ _ _, Below.refl _ _⟩
  · have hq := fun (w : World) => Lib.run_eql_slice_nil (P := Try.prog) w 28 30 (some ad) n cap 0 0 Try.underlying28
    have HN : Hid (∀ o : Obj, ∀ j u, (flat (rowL n k z))[j]? = some u → (w.alloc o).cell? (ad.add j) = some u) := by
      intro o j u hj
      rcases h with rfl | ⟨b, o', e, hlt, g⟩
      · cases hj
      · cases e
        have := row_news g j u hj
        rw [WideShapes.add_plain] at this ⊢
        exact ((below_alloc w o).cell hlt).trans this
    clear h
    go_enter Try.func17, Try.ntmps17
    go_wp2_with (at_builtin; refine append_vals _ rfl _ _ rfl w.heap.size _ [] rfl (World.ownsRow_lit w #[] 0 (Nat.le_refl _) (by decide) rfl) ad n cap k z rfl (HN.out _) (by simp; omega) (by simp) ?_; intro ad' cp w2 hown hgrow)
    have hg : (w.alloc (.cells #[] 30)).grownBy w2 (some w.heap.size) := hgrow
    go_ret
    refine ⟨ad', cp, rfl, ?_, (below_alloc w _).grown hg (by simp) (fun k hk => by cases hk; exact Nat.le_refl _)⟩
    simpa using hown

/-! ### Sets of ints as maps of bools -/

/-- Block b is a map that holds true at the ints of S, and nothing else. -/
def BoolSet (w : World) (b n : Nat) (S : List Int) : Prop :=
  ∃ D : DataW Unit, w.ownsMap Try.prog 3 (plainElem Try.prog 4) b n D ∧ (∀ x : Int, D.atKey (.int .i64 x) (.lit (.bool false)) = .lit (.bool (decide (x ∈ S)))) ∧ (∀ x : Int, Maps.has D (.int .i64 x) = decide (x ∈ S)) ∧ Maps.size D = S.length

theorem BoolSet.made (w : World) : BoolSet (w.alloc (.map #[] 0)) w.heap.size 0 [] :=
  ⟨.map [], World.ownsMap_made _ _ _ _, fun _ => rfl, fun _ => rfl, rfl⟩

theorem BoolSet.lt {w : World} {b n : Nat} {S : List Int} (h : BoolSet w b n S) : b < w.heap.size := let ⟨_, h, _⟩ := h; h.lt

theorem BoolSet.kept {w w' : World} {b n : Nat} {S : List Int} {row : Option Nat} (h : BoolSet w b n S) (hg : w.grownBy w' row) (hne : some b ≠ row) : BoolSet w' b n S := by
  obtain ⟨D, h, r⟩ := h
  exact ⟨D, h.kept hg hne, r⟩

theorem BoolSet.alloc {w : World} {b n : Nat} {S : List Int} (h : BoolSet w b n S) (o : Obj) : BoolSet (w.alloc o) b n S := by
  obtain ⟨D, h, r⟩ := h
  exact ⟨D, h.alloc o, r⟩

theorem BoolSet.below {w w' : World} {b n : Nat} {S : List Int} (h : BoolSet w b n S) (hb : Below w.heap.size w w') : BoolSet w' b n S := by
  have hlt := h.lt
  obtain ⟨D, ⟨es, clock, hh, r0⟩, r⟩ := h
  exact ⟨D, ⟨es, clock, (hb.block b hlt).trans hh, r0⟩, r⟩

theorem zero4 (w : World) : (zeroValue 4).run Try.prog w = .ok (.bool false) w := by kernel_rfl

theorem plainElem_bool_inv {v : Value} {z : DataW Unit × List MemPlace} (h : plainElem Try.prog 4 v = some z) : ∃ b, v = .bool b ∧ z = (.lit (.bool b), []) := by
  unfold plainElem at h
  rw [Try.underlying4] at h
  cases v <;> simp at h
  exact ⟨_, rfl, h.symm⟩

/-- A look into such a set, at the operation. -/
theorem look_bool {ops : Array Oper} {rest : List Oper} {o : Oper} {a : Act} {Q : Exit → Act → World → Prop} (w : World) (hg : o.guard = none) (m x : Operand) (hop : o.op = Op.lookup 38 m x false)
    (b n : Nat) (S : List Int) (hm : a.eval m = .map (some b)) (hown : BoolSet w b n S) (key : Int) (hx : a.eval x = .int .i64 key) (hwf : (Lit.int .i64 key).wf = true)
    (hK : wpList Try.prog ops Q rest (a.put o.dst (.bool (decide (key ∈ S)))) w) : wpList Try.prog ops Q (o :: rest) a w := by
  refine wpList_plain hg fun K' hK' => ?_
  obtain ⟨D, hD, hat, _⟩ := hown
  obtain ⟨v, ps, hrun, hv⟩ := hD.lookup law3 Try.underlying38 (zero4 w) (plainElem_bool Try.underlying4 false) (keyOf_int_mk Try.underlying3 hwf)
  obtain ⟨c, rfl, hc⟩ := plainElem_bool_inv hv
  rw [hat] at hc
  have hc2 : decide (key ∈ S) = c ∧ ps = [] := by simpa using hc
  have hcc := hc2.1
  unfold Oper.wp
  simp only [hcc] at hK
  simp [execOp, hop, hm, hx, hrun, Result.andThen]
  exact hK' _ _ hK

/-- A store into such a set, at the operation. -/
theorem store_bool {ops : Array Oper} {rest : List Oper} {o : Oper} {a : Act} {Q : Exit → Act → World → Prop} (w : World) (hg : o.guard = none) (m x v : Operand) (hop : o.op = Op.mapUpdate 38 m x v)
    (b n : Nat) (S : List Int) (hm : a.eval m = .map (some b)) (hown : BoolSet w b n S) (hn : n < maxLen) (key : Int) (hx : a.eval x = .int .i64 key) (hv : a.eval v = .bool true) (hwf : (Lit.int .i64 key).wf = true)
    (hK : ∀ w', BoolSet w' b (n + 1) (meet1 S 2 key) → w.grownBy w' (some b) → wpList Try.prog ops Q rest (a.put o.dst undef) w') : wpList Try.prog ops Q (o :: rest) a w := by
  obtain ⟨D, hD, hat, hhas, hsz⟩ := hown
  refine wpList_mapUpdate_own w hg m x v 38 hop 3 4 law3 Try.underlying38 (plainElem Try.prog 4) b n D hm hD hn _ _ _ hx hv (keyOf_int_mk Try.underlying3 hwf) _ [] (plainElem_bool Try.underlying4 true) ?_
  intro w' hD' hgr
  refine hK w' ⟨_, hD', fun y => ?_, fun y => ?_, ?_⟩ hgr
  · by_cases e : y = key
    · subst e
      rw [atKey_put_same (k := Lit.int .i64 y) hD.isMap trivial]
      have : y ∈ meet1 S 2 y := mem_meet1.2 (Or.inr ⟨rfl, rfl⟩)
      simp [this]
    · rw [atKey_put_other (fun h => e (by cases h; rfl)), hat]
      have : y ∈ meet1 S 2 key ↔ y ∈ S := by rw [mem_meet1]; simp [e]
      simp [this]
  · by_cases e : y = key
    · subst e
      rw [has_put_same (k := Lit.int .i64 y) hD.isMap trivial]
      have : y ∈ meet1 S 2 y := mem_meet1.2 (Or.inr ⟨rfl, rfl⟩)
      simp [this]
    · rw [has_put_other (fun h => e (by cases h; rfl)), hhas]
      have : y ∈ meet1 S 2 key ↔ y ∈ S := by rw [mem_meet1]; simp [e]
      simp [this]
  · rw [size_put (hD.tidy law3), hhas, hsz]
    by_cases e : key ∈ S
    · rw [meet1_old e]; simp [e]
    · rw [meet1_new rfl e]; simp [e]

/-- How many are in such a set, at the operation. -/
theorem len_bool {ops : Array Oper} {rest : List Oper} {o : Oper} {a : Act} {Q : Exit → Act → World → Prop} (w : World) (hg : o.guard = none) (m : Operand)
    (hop : o.op = Op.call { callee := Callee.builtin Builtin.len, args := #[m], argTypes := #[38] }) (b n : Nat) (S : List Int) (hm : a.eval m = .map (some b)) (hown : BoolSet w b n S)
    (hK : wpList Try.prog ops Q rest (a.put o.dst (.int .i64 S.length)) w) : wpList Try.prog ops Q (o :: rest) a w := by
  obtain ⟨D, hD, _, _, hsz⟩ := hown
  refine wpList_len_own w hg m 38 hop 3 4 Try.underlying38 (plainElem Try.prog 4) b n D hm hD ?_
  rw [hsz]
  exact hK

end Go.Proofs.Ytnkhdhbjdemdkaa
