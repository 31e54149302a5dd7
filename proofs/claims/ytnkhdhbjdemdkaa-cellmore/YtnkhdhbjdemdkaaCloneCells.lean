/- Cells of the call's own; slices.Clone of cells. -/
import Derived.Test.YtnkhdhbjdemdkaaConcat
import Derived.Deep.Slices
namespace Go.Proofs.Ytnkhdhbjdemdkaa
open Go.RowKit Go.Maps

theorem info28 : (Try.prog.info? 28).map (fun i => (i.zero, i.size, i.bytes)) = some (some (.slice none 0 0), 1, 24) := by kernel_rfl

/-- Cells of the call's own are cells in memory. -/
theorem own_cells {w : World} {base : Nat} {v : Value} {us : List Value} {m : Nat → Nat} {K Z : Nat → Nat → Int} (h : w.ownsRow base 28 1 v us.length us) (hu : ∀ i, i < us.length → ∃ u, us[i]? = some u ∧ ValsAt w u (m i) (K i) (Z i))
    (hL : us.length ≤ 100000) : CellsAt w v us.length m K Z := by
  rcases h.2 with ⟨rfl, h0⟩ | ⟨g, cap, cur, rfl, r⟩
  · rw [h0]; exact ⟨none, 0, rfl, by omega, Or.inl rfl⟩
  · refine ⟨_, cap, rfl, by omega, Or.inr ⟨g, 0, rfl, (h.lt g rfl).2, fun i hi => ?_⟩⟩
    obtain ⟨u, hu1, hu2⟩ := hu i hi
    exact ⟨u, by rw [Nat.zero_add, h.cellAt i (by omega)]; exact hu1, hu2⟩

theorem vals_one {w : World} {u : Value} {n : Nat} {k z : Nat → Int} (h : ValsAt w u n k z) : u.oneCell' = true := by
  obtain ⟨a, cap, rfl, _⟩ := h
  rfl

/-- Cells more at the end of the call's own. -/
theorem append_cells {ops : Array Oper} {rest : List Oper} {o : Oper} {a : Act} {Q : Exit → Act → World → Prop} (w : World) (hgd : o.guard = none) (s y : Operand)
    (ho : o.op = .call { callee := .builtin .append, args := #[s, y], argTypes := #[27, 27] }) (base : Nat) (v : Value) (us : List Value) (hs : a.eval s = v) (hown : w.ownsRow base 28 1 v us.length us)
    (ad : Addr) (c : Nat) (news : List Value) (hy : a.eval y = .slice (some ad) news.length c) (hnews : ∀ j u, news[j]? = some u → w.cell? (ad.add j) = some u) (h1 : ∀ u ∈ news, u.oneCell' = true) (hR : us.length + news.length ≤ 100000) (hbase : base ≤ w.heap.size)
    (h : ∀ ad' cap w2, w2.ownsRow base 28 1 (.slice ad' (us.length + news.length) cap) (us ++ news).length (us ++ news) → w.grownBy w2 v.ownBlock → wpList Try.prog ops Q rest (a.put o.dst (.slice ad' (us.length + news.length) cap)) w2) :
    wpList Try.prog ops Q (o :: rest) a w := by
  obtain ⟨i0, hi, hz0, hz1, hz2⟩ := info_parts info28
  refine wpList_append_own _ hgd s y 27 ho base 28 i0 (.slice none 0 0) 1 24 Try.underlying27 hi hz0 hz1 hz2 rfl (by decide) v _ _ hs hown ad _ c news hy (by omega) hnews h1 (by unfold maxLen; omega) (by omega) hbase ?_
  intro v' w2 hr hg _
  obtain ⟨ad', cap, rfl⟩ := own_shape hr
  refine h ad' cap w2 ?_ hg
  rw [List.length_append]
  exact hr

set_option maxHeartbeats 400000 in
theorem cloneCells (v : Value) (n : Nat) (m : Nat → Nat) (K Z : Nat → Nat → Int) (w : World) (h : CellsAt w v n m K Z) (hn : n ≤ 1000) :
    Calls Try.prog 18 #[v] w fun e w' => ∃ ad cap us, e = .returned (.slice ad n cap) ∧ us.length = n ∧ w'.ownsRow w.heap.size 28 1 (.slice ad n cap) us.length us ∧ (∀ i, i < n → ∃ u, us[i]? = some u ∧ ValsAt w u (m i) (K i) (Z i)) ∧ Below w.heap.size w w' := by
  obtain ⟨a, cap, rfl, _, h⟩ := h
  rcases a with _ | ad
  · obtain rfl : n = 0 := by
      rcases h with h | ⟨b, o, e, _⟩
      · exact h
      · cases e
    have hq := fun (w : World) => Lib.run_eql_slice_nil (P := Try.prog) w 27 28 none 0 cap 0 0 Try.underlying27
    go_enter Try.func18, Try.ntmps18
    go_wp2_with fail
    go_ret
    exact ⟨none, 0, rfl, World.ownsRow_nil _ _ _ _, Below.refl _ _⟩
  · have hq := fun (w : World) => Lib.run_eql_slice_nil (P := Try.prog) w 27 28 (some ad) n cap 0 0 Try.underlying27
    obtain ⟨us, hul, HU⟩ : ∃ us : List Value, us.length = n ∧ Hid ((∀ i, i < n → ∃ u, us[i]? = some u ∧ ValsAt w u (m i) (K i) (Z i)) ∧ (∀ u ∈ us, u.oneCell' = true) ∧ ∀ o : Obj, ∀ j u, us[j]? = some u → (w.alloc o).cell? (ad.add j) = some u) := by
      rcases h with rfl | ⟨b, o, e, hlt, g⟩
      · exact ⟨[], rfl, fun i hi => absurd hi (Nat.not_lt_zero _), fun u hu => absurd hu List.not_mem_nil, fun o j u hj => by cases hj⟩
      · cases e
        obtain ⟨U, hU⟩ := Deep.choose_lt g
        have hat : ∀ i, i < n → ((List.range n).map U)[i]? = some (U i) := fun i hi => by simp [hi]
        refine ⟨(List.range n).map U, by simp, fun i hi => ⟨U i, hat i hi, (hU i hi).2⟩, fun u hu => ?_, fun o' j u hj => ?_⟩
        · obtain ⟨i, hi, rfl⟩ := List.mem_map.1 hu
          exact vals_one (hU i (List.mem_range.1 hi)).2
        · have hj' : j < n := by
            have := (List.getElem?_eq_some_iff.1 hj).1
            simpa using this
          rw [hat j hj'] at hj
          cases hj
          rw [WideShapes.add_plain]
          exact ((below_alloc w o').cell hlt).trans (hU j hj').1
    clear h
    subst hul
    go_enter Try.func18, Try.ntmps18
    go_wp2_with (at_builtin; refine append_cells _ rfl _ _ rfl w.heap.size _ [] rfl (World.ownsRow_lit w #[] 0 (Nat.le_refl _) (by decide) rfl) ad cap us rfl (HU.out.2.2 _) HU.out.2.1 (by simp; omega) (by simp) ?_; intro ad' cp w2 hown hgrow)
    have hg : (w.alloc (.cells #[] 28)).grownBy w2 (some w.heap.size) := hgrow
    go_ret
    refine ⟨ad', cp, us, rfl, rfl, ?_, HU.out.1, (below_alloc w _).grown hg (by simp) (fun k hk => by cases hk; exact Nat.le_refl _)⟩
    simpa using hown

end Go.Proofs.Ytnkhdhbjdemdkaa
