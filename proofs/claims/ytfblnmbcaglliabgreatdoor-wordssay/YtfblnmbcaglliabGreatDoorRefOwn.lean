/- Rows of ints of the call's own; the greatest of some ints. -/
import Derived.Test.YtfblnmbcaglliabGreatDoorOwnRow
namespace Go.Proofs.YtfblnmbcaglliabGreatDoor
open Go.RowKit Go.Maps

theorem info3 : (Tryz.prog.info? 3).map (fun i => (i.zero, i.size, i.bytes)) = some (some (.int .i64 0), 1, 8) := by kernel_rfl

/-- One int more at the end of a list of the call's own. -/
theorem append_int {ops : Array Oper} {rest : List Oper} {o : Oper} {a : Act} {Q : Exit → Act → World → Prop} (w : World) (hgd : o.guard = none) (s y : Operand)
    (ho : o.op = .call { callee := .builtin .append, args := #[s, y], argTypes := #[81, 81] }) (base : Nat) (v : Value) (R : List Int) (hs : a.eval s = v) (hown : w.ownsRow base 3 1 v R.length (R.map (Value.int .i64)))
    (x : Int) (t : TypeId) (B : Nat) (hB : w.heap.size = B) (hy : a.eval y = .slice (some ⟨B, 0, none⟩) 1 1) (hR : R.length ≤ 100000) (hbase : base ≤ w.heap.size)
    (h : ∀ ad cap w2, w2.ownsRow base 3 1 (.slice ad (R.length + 1) cap) (R.length + 1) (R.map (Value.int .i64) ++ [.int .i64 x]) → (w.alloc (.cells #[.int .i64 x] t)).grownBy w2 v.ownBlock → wpList Tryz.prog ops Q rest (a.put o.dst (.slice ad (R.length + 1) cap)) w2) :
    wpList Tryz.prog ops Q (o :: rest) a (w.alloc (.cells #[.int .i64 x] t)) := by
  subst hB
  obtain ⟨i0, hi, hz0, hz1, hz2⟩ := info_parts info3
  refine wpList_append_own _ hgd s y 81 ho base 3 i0 (.int .i64 0) 1 8 Tryz.underlying81 hi hz0 hz1 hz2 rfl (by decide) v _ _ hs (hown.alloc _) ⟨w.heap.size, 0, none⟩ 1 1 [.int .i64 x] hy rfl (cell_one_new _ _ _) (ints_oneCell .i64 [x]) (by unfold maxLen; omega) (by omega) (by simp; omega) ?_
  intro v' w2 h1 h2 _
  obtain ⟨ad, cap, rfl⟩ := own_shape h1
  exact h ad cap w2 h1 h2

/-- A list of ints at the end of a row of the call's own. -/
theorem append_ints {ops : Array Oper} {rest : List Oper} {o : Oper} {a : Act} {Q : Exit → Act → World → Prop} (w : World) (hgd : o.guard = none) (s y : Operand)
    (ho : o.op = .call { callee := .builtin .append, args := #[s, y], argTypes := #[81, 81] }) (base : Nat) (v : Value) (R L : List Int) (hs : a.eval s = v) (hown : w.ownsRow base 3 1 v R.length (R.map (Value.int .i64)))
    (g cap : Nat) (hy : a.eval y = .slice (some ⟨g, 0, none⟩) L.length cap) (hc : ∀ j, j < L.length → w.cell? ⟨g, j, none⟩ = some (.int .i64 (L.getD j 0))) (hR : R.length + L.length ≤ 100000) (hbase : base ≤ w.heap.size)
    (h : ∀ ad cap w2, w2.ownsRow base 3 1 (.slice ad (R.length + L.length) cap) (R.length + L.length) ((R ++ L).map (Value.int .i64)) → w.grownBy w2 v.ownBlock → wpList Tryz.prog ops Q rest (a.put o.dst (.slice ad (R.length + L.length) cap)) w2) :
    wpList Tryz.prog ops Q (o :: rest) a w := by
  obtain ⟨i0, hi, hz0, hz1, hz2⟩ := info_parts info3
  refine wpList_append_own _ hgd s y 81 ho base 3 i0 (.int .i64 0) 1 8 Tryz.underlying81 hi hz0 hz1 hz2 rfl (by decide) v _ _ hs hown ⟨g, 0, none⟩ L.length cap (L.map (Value.int .i64)) hy (by simp) (fun j u hj => ?_) (ints_oneCell .i64 L) (by unfold maxLen; omega) (by omega) hbase ?_
  · have hl : j < L.length := by
      have := (List.getElem?_eq_some_iff.1 hj).1
      simpa using this
    rw [WideShapes.add_plain, Nat.zero_add, hc j hl]
    rw [List.getElem?_map, List.getElem?_eq_getElem hl] at hj
    rw [← hj]
    simp [List.getD, hl]
  · intro v' w2 h1 h2 _
    obtain ⟨ad, cap, rfl⟩ := own_shape h1
    refine h ad cap w2 ?_ h2
    rw [List.map_append]
    exact h1

/-- A row of ints of the call's own is a slice of them. -/
theorem own_ints {w : World} {base : Nat} {v : Value} {R : List Int} (h : w.ownsRow base 3 1 v R.length (R.map (Value.int .i64))) : IntsAt w v R.length (fun i => R.getD i 0) := by
  rcases h.2 with ⟨rfl, h0⟩ | ⟨g, cap, cur, rfl, r⟩
  · rw [h0]; exact ⟨none, 0, rfl, Or.inl rfl⟩
  · refine ⟨_, cap, rfl, Or.inr ⟨g, 0, rfl, (h.lt g rfl).2, fun i hi => ?_⟩⟩
    rw [Nat.zero_add, h.cellAt i (by omega)]
    simp [List.getElem?_eq_getElem hi]

/-- The last of a row of ints of the call's own. -/
theorem own_last {w : World} {base : Nat} {v : Value} {L : List Int} {r : Int} (h : w.ownsRow base 3 1 v (L ++ [r]).length ((L ++ [r]).map (Value.int .i64))) :
    ∃ g cap, v = .slice (some ⟨g, 0, none⟩) (L.length + 1) cap ∧ base ≤ g ∧ g < w.heap.size ∧ L.length + 1 ≤ cap ∧ w.cell? ⟨g, L.length, none⟩ = some (.int .i64 r) ∧ w.frozen? ⟨g, L.length, none⟩ = false ∧
      w.ownsRow base 3 1 (.slice (some ⟨g, 0, none⟩) L.length cap) L.length (L.map (Value.int .i64)) ∧
      (∀ x : Int, (w.setCell ⟨g, L.length, none⟩ (.int .i64 x)).ownsRow base 3 1 (.slice (some ⟨g, 0, none⟩) (L.length + 1) cap) (L ++ [x]).length ((L ++ [x]).map (Value.int .i64))) := by
  have hl : (L ++ [r]).length = L.length + 1 := by simp
  rw [hl, List.map_append] at h
  obtain ⟨g, cap, rfl, hb, hlt, hc, _⟩ := own_block h
  refine ⟨g, cap, rfl, hb, hlt, hc, ?_, h.frozenAt _, ownsRow_pop (last := [r].map (Value.int .i64)) (by simp) h, fun x => ?_⟩
  · rw [h.cellAt _ (by omega)]
    simp
  · have := (h.stored L.length (.int .i64 x)).1
    have hl2 : (L ++ [x]).length = L.length + 1 := by simp
    rw [hl2, List.map_append]
    rw [List.set_append] at this
    simpa using this

theorem max_start (z : Nat → Int) : 0 < z 0 ↔ ∃ i, i < 1 ∧ 0 < z i :=
  ⟨fun h => ⟨0, by omega, h⟩, fun ⟨i, hi, h⟩ => by
    obtain rfl : i = 0 := by omega
    exact h⟩

theorem max_step {z : Nat → Int} {m : Int} {j : Nat} (h : 0 < m ↔ ∃ i, i < j ∧ 0 < z i) : 0 < (if z j > m then z j else m) ↔ ∃ i, i < j + 1 ∧ 0 < z i := by
  constructor
  · intro hp
    split at hp
    · exact ⟨j, by omega, hp⟩
    · obtain ⟨i, hi, hz⟩ := h.1 hp
      exact ⟨i, by omega, hz⟩
  · rintro ⟨i, hi, hz⟩
    by_cases e : i = j
    · subst e; split <;> omega
    · have := h.2 ⟨i, by omega, hz⟩
      split <;> omega

set_option maxHeartbeats 400000 in
theorem maxInts (v : Value) (n : Nat) (z : Nat → Int) (w : World) (h : IntsAt w v n z) (hn : 1 ≤ n) (hb : n ≤ 1000) :
    Calls Tryz.prog 94 #[v] w fun e w' => ∃ m : Int, e = .returned (.int .i64 m) ∧ Hid (0 < m ↔ ∃ i, i < n ∧ 0 < z i) ∧ w' = w := by
  obtain ⟨a, cap, rfl, h | ⟨b, o, rfl, hlt, g⟩⟩ := h
  · omega
  have q0 : w.cell? ⟨b, o, none⟩ = some (.int .i64 (z 0)) := g 0 (by omega)
  have hn1 : ¬ (n : Int) < 1 := by omega
  go_enter Tryz.func94, Tryz.ntmps94
  go_wp2
  clear q0
  go_loopw [3, 4] (fun q i wr => ∃ (j : Nat) (m : Int), 1 ≤ j ∧ j ≤ n ∧ i = .int .i64 j ∧ q = .int .i64 m ∧ wr = w ∧ Hid (0 < m ↔ ∃ i, i < j ∧ 0 < z i)) (fun _ i _ => n - (intOf i).toNat)
  case atStart => exact ⟨1, z 0, by omega, hn, rfl, rfl, rfl, max_start _⟩
  case round =>
    obtain ⟨j, m, h1, hj, rfl, rfl, rfl, hm⟩ := hrel
    by_cases hlt2 : j < n
    · have q := g j hlt2
      clear g
      go_wp2
      go_roundw
      case rel => exact ⟨j + 1, _, by omega, by omega, by go_num, rfl, trivial, max_step hm.out⟩
      case measure => simp [intOf]; omega
    · obtain rfl : j = n := by omega
      clear g
      go_wp2
      go_ret
      exact ⟨m, rfl, hm, rfl⟩

end Go.Proofs.YtfblnmbcaglliabGreatDoor
