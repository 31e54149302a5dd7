import Derived.Test.YtbmenihakkogkabGreatDoorPart15
import Derived.Test.YtbmenihakkogkabGreatDoorPart2
import Derived.Deep.RegionHeld
import Derived.Test.YtbmenihakkogkabGreatDoorChecked
import Derived.Deep.RegionHeld3
import Derived.Test.YtbmenihakkogkabGreatDoorPart1
namespace Go.Proofs.YtbmenihakkogkabGreatDoor
open Go.RowKit Go.Maps
def Keeps (t : TypeId) (w w' : World) : Prop := ∀ (k : Nat) (cur : Array Value), w.heap[k]? = some (Obj.cells cur t (0, 0)) → w'.heap[k]? = some (Obj.cells cur t (0, 0))
theorem Keeps.trans {t : TypeId} {a b c : World} (h : Keeps t a b) (k : Keeps t b c) : Keeps t a c := fun i cur hi => k i cur (h i cur hi)
theorem Keeps.of {t : TypeId} {a b : World} (h : Below a.heap.size a b) : Keeps t a b := fun k cur hk => by rw [h.block k (Array.getElem?_eq_some_iff.1 hk).1]; exact hk
theorem Keeps.set {t u : TypeId} {a : World} {g i : Nat} {cur : Array Value} (hg : a.heap[g]? = some (.cells cur u (0, 0))) (v : Value) (ht : ¬ t = u) : Keeps t a (a.setCell ⟨g, i, none⟩ v) := fun k c hk => by
  rw [Below.heap_setCell a ⟨g, i, none⟩ v k]
  · exact hk
  · rintro rfl
    rw [hg] at hk
    injection hk with hk
    injection hk with _ h2 _
    exact ht h2.symm
def ArgsAt (w : World) (v : Value) (n : Nat) (z : Nat → Int) : Prop :=
  ∃ a cap, v = .slice a n cap ∧ n ≤ 100000000 ∧ (n = 0 ∨ ∃ g o cur, a = some ⟨g, o, none⟩ ∧ w.heap[g]? = some (.cells cur 3 (0, 0)) ∧ ∀ i, i < n → cur[o + i]? = some (.int .i64 (z i)))
theorem ArgsAt.stay {w w' : World} {v : Value} {n : Nat} {z : Nat → Int} (h : ArgsAt w v n z) (k : Keeps 3 w w') : ArgsAt w' v n z := by
  obtain ⟨a, cap, rfl, hn, h | ⟨g, o, cur, rfl, hg, hc⟩⟩ := h
  · exact ⟨a, cap, rfl, hn, Or.inl h⟩
  · exact ⟨_, cap, rfl, hn, Or.inr ⟨g, o, cur, rfl, k g cur hg, hc⟩⟩
theorem ArgsAt.nums {w : World} {v : Value} {n : Nat} {z : Nat → Int} (h : ArgsAt w v n z) : NumsAt w.heap.size w v n z := by
  obtain ⟨a, cap, rfl, hn, h | ⟨g, o, cur, rfl, hg, hc⟩⟩ := h
  · exact ⟨a, cap, rfl, by omega, Or.inl h⟩
  · refine ⟨_, cap, rfl, by omega, Or.inr ⟨g, o, rfl, (Array.getElem?_eq_some_iff.1 hg).1, fun i hi => ?_⟩⟩
    unfold World.cell?
    rw [hg]
    exact hc i hi
def flatI : List (List Int × Value) → List Value
  | [] => []
  | x :: l => [.int .i64 (x.1.getD 0 0), .int .i64 (x.1.getD 1 0), .int .i64 (x.1.getD 2 0), .int .i64 (x.1.getD 3 0), x.2] ++ flatI l
theorem flatI_len : ∀ l, (flatI l).length = l.length * 5
  | [] => rfl
  | x :: l => by rw [flatI, List.length_append, flatI_len l, List.length_cons]; simp only [List.length_cons, List.length_nil]; omega
theorem flatI_snoc : ∀ (l : List (List Int × Value)) (x : List Int × Value), flatI (l ++ [x]) = flatI l ++ [.int .i64 (x.1.getD 0 0), .int .i64 (x.1.getD 1 0), .int .i64 (x.1.getD 2 0), .int .i64 (x.1.getD 3 0), x.2]
  | [], x => by simp [flatI]
  | y :: l, x => by rw [List.cons_append, flatI, flatI_snoc l x, flatI, List.append_assoc]
theorem flatI_at : ∀ (l : List (List Int × Value)) (i : Nat) (x : List Int × Value), l[i]? = some x → (flatI l)[i * 5]? = some (.int .i64 (x.1.getD 0 0)) ∧ (flatI l)[i * 5 + 1]? = some (.int .i64 (x.1.getD 1 0)) ∧ (flatI l)[i * 5 + 2]? = some (.int .i64 (x.1.getD 2 0)) ∧ (flatI l)[i * 5 + 3]? = some (.int .i64 (x.1.getD 3 0)) ∧ (flatI l)[i * 5 + 4]? = some x.2
  | [], i, x, h => by cases h
  | y :: l, 0, x, h => by
    simp only [List.getElem?_cons_zero, Option.some.injEq] at h
    subst h
    simp [flatI]
  | y :: l, i + 1, x, h => by
    have ih := flatI_at l i x (by simpa using h)
    have e : ∀ t, (flatI (y :: l))[(i + 1) * 5 + t]? = (flatI l)[i * 5 + t]? := fun t => by
      rw [flatI, List.getElem?_append_right (by simp only [List.length_cons, List.length_nil]; omega)]
      congr 1
      simp only [List.length_cons, List.length_nil]; omega
    have e0 := e 0
    simp only [Nat.add_zero] at e0
    rw [e0, e 1, e 2, e 3, e 4]
    exact ih
def CodeRow (C : Nat) (w : World) (v : Value) (l : List (List Int × Value)) : Prop :=
  w.ownsRow C 106 5 v l.length (flatI l) ∧ ∀ x ∈ l, ArgsAt w x.2 (x.1.length - 4) (fun j => x.1.getD (j + 4) 0)
theorem CodeRow.nil (C : Nat) (w : World) : CodeRow C w (.slice none 0 0) [] := ⟨⟨rfl, Or.inl ⟨rfl, rfl⟩⟩, fun _ h => by cases h⟩
theorem own_keep {C : Nat} {t : TypeId} {sz n : Nat} {w w' : World} {v : Value} {xs : List Value} (h : w.ownsRow C t sz v n xs) (k : Keeps t w w') : w'.ownsRow C t sz v n xs := by
  refine ⟨h.1, ?_⟩
  rcases h.2 with ⟨rfl, h0⟩ | ⟨g, cap, cur, rfl, h1, h2, h3⟩
  · exact Or.inl ⟨rfl, h0⟩
  · exact Or.inr ⟨g, cap, cur, rfl, h1, k g cur h2, h3⟩
theorem CodeRow.stay {C : Nat} {w w' : World} {v : Value} {l : List (List Int × Value)} (h : CodeRow C w v l) (k : Keeps 106 w w') (k3 : Keeps 3 w w') : CodeRow C w' v l :=
  ⟨own_keep h.1 k, fun x hx => (h.2 x hx).stay k3⟩
def CodeHeap (w : World) (v : Value) (n : Nat) (ins : Nat → In) : Prop :=
  ∃ a cap, v = .slice a n cap ∧ n ≤ 100000000 ∧ (n = 0 ∨ ∃ g cur, a = some ⟨g, 0, none⟩ ∧ w.heap[g]? = some (.cells cur 106 (0, 0)) ∧ ∀ i, i < n → ∃ va, cur[i * 5]? = some (.int .i64 (ins i).op) ∧ cur[i * 5 + 1]? = some (.int .i64 (ins i).a) ∧ cur[i * 5 + 2]? = some (.int .i64 (ins i).b) ∧
    cur[i * 5 + 3]? = some (.int .i64 (ins i).c) ∧ cur[i * 5 + 4]? = some va ∧ ArgsAt w va (ins i).n (ins i).z)
theorem CodeHeap.stay {w w' : World} {v : Value} {n : Nat} {ins : Nat → In} (h : CodeHeap w v n ins) (k : Keeps 106 w w') (k3 : Keeps 3 w w') : CodeHeap w' v n ins := by
  obtain ⟨a, cap, rfl, hn, h | ⟨g, cur, rfl, hg, hc⟩⟩ := h
  · exact ⟨a, cap, rfl, hn, Or.inl h⟩
  · refine ⟨_, cap, rfl, hn, Or.inr ⟨g, cur, rfl, k g cur hg, fun i hi => ?_⟩⟩
    obtain ⟨va, c0, c1, c2, c3, c4, ha⟩ := hc i hi
    exact ⟨va, c0, c1, c2, c3, c4, ha.stay k3⟩
theorem CodeHeap.code {w : World} {v : Value} {n : Nat} {ins : Nat → In} (h : CodeHeap w v n ins) : CodeAt w.heap.size w v n ins := by
  obtain ⟨a, cap, rfl, hn, h | ⟨g, cur, rfl, hg, hc⟩⟩ := h
  · exact ⟨a, cap, rfl, by omega, Or.inl h⟩
  · refine ⟨_, cap, rfl, by omega, Or.inr ⟨g, 0, rfl, (Array.getElem?_eq_some_iff.1 hg).1, fun i hi => ?_⟩⟩
    obtain ⟨va, c0, c1, c2, c3, c4, ha⟩ := hc i hi
    unfold World.cell?
    rw [hg]
    exact ⟨va, by rw [Nat.zero_add]; exact c0, by rw [Nat.zero_add]; exact c1, by rw [Nat.zero_add]; exact c2, by rw [Nat.zero_add]; exact c3, by rw [Nat.zero_add]; exact c4, ha.nums⟩
theorem CodeRow.heap {C : Nat} {w : World} {v : Value} {l : List (List Int × Value)} (h : CodeRow C w v l) (hl : l.length ≤ 100000000) : CodeHeap w v l.length (fun k => insOf ((l.map (·.1)).getD k [])) := by
  obtain ⟨h1, h2⟩ := h
  rcases h1.2 with ⟨rfl, h0⟩ | ⟨g, cap, cur, rfl, _, hg, _, _, _, ht⟩
  · exact ⟨none, 0, by rw [h0], hl, Or.inl h0⟩
  · refine ⟨_, cap, rfl, hl, Or.inr ⟨g, cur, rfl, hg, fun i hi => ?_⟩⟩
    obtain ⟨x, hx⟩ : ∃ x, l[i]? = some x := ⟨l[i], by simp [hi]⟩
    obtain ⟨c0, c1, c2, c3, c4⟩ := flatI_at l i x hx
    have e : ∀ t, t < l.length * 5 → cur[t]? = (flatI l)[t]? := fun t htl => by
      rw [← ht, List.getElem?_take, if_pos htl, Array.getElem?_toList]
    have e2 : insOf ((l.map (·.1)).getD i []) = insOf x.1 := by
      congr 1
      simp [hx]
    simp only [e2]
    exact ⟨x.2, by rw [e _ (by omega)]; exact c0, by rw [e _ (by omega)]; exact c1, by rw [e _ (by omega)]; exact c2, by rw [e _ (by omega)]; exact c3, by rw [e _ (by omega)]; exact c4, h2 x (List.mem_of_getElem? hx)⟩
end Go.Proofs.YtbmenihakkogkabGreatDoor
namespace Go.Proofs.YtbmenihakkogkabGreatDoor
variable {P : Program} {ops : Array Oper} {Q : Exit → Act → World → Prop} {md : Region.Mode} {S : World → Prop}
theorem held_begin {id n : Nat} {l0 : Array Bool} {a : Act} {w : World} (hm : P.follows .mixedOrders = true) (hn : ops.size = n) (hl : Array.replicate ops.size false = l0) (hS : S w.drew)
    (h : S w.drew → wpAnyH P .any ops Q S n l0 a w.drew) : (Code.region id ops true).wp P Q a w := by
  subst hl
  subst hn
  exact wp_region_held_drew hm hS h
theorem tky {i d fuel : Nat} {oi : Oper} {v : Value} {listed l2 : Array Bool} {a : Act} {w : World} (hi : ops[i]? = some oi) (hd : oi.dst = some d) (hl : listed.setIfInBounds i true = l2)
    (hs : Region.noSelect ops = true) (hf : Region.free md ops listed i = true) (hr : (Region.ready md ops listed).contains i = true)
    (hQ : ∀ c a w, Q (.panic c) (a.put (some d) v) w → Q (.panic c) a w) (hw : Region.wanted oi (yielded ops a.tmps) = true) (hy : ∀ w, S w → (execOp a.eval oi).run P w = .ok (.value v) w) (hS : S w)
    (h : wpAnyH P md ops Q S fuel l2 (a.put (some d) v) w) : wpAnyH P md ops Q S (fuel + 1) listed a w := by
  subst hl
  rw [← hd] at h hQ
  exact wpAnyH_take hi hs hf hr hQ (Or.inl ⟨hw, hy⟩) hS h
theorem tkn {i d fuel : Nat} {oi : Oper} {listed l2 : Array Bool} {a : Act} {w : World} (hi : ops[i]? = some oi) (hd : oi.dst = some d) (hl : listed.setIfInBounds i true = l2)
    (hs : Region.noSelect ops = true) (hf : Region.free md ops listed i = true) (hr : (Region.ready md ops listed).contains i = true)
    (hQ : ∀ c a w, Q (.panic c) (a.put (some d) undef) w → Q (.panic c) a w) (hw : Region.wanted oi (yielded ops a.tmps) = false) (hS : S w)
    (h : wpAnyH P md ops Q S fuel l2 (a.put (some d) undef) w) : wpAnyH P md ops Q S (fuel + 1) listed a w := by
  subst hl
  rw [← hd] at h hQ
  exact wpAnyH_take hi hs hf hr hQ (Or.inr ⟨hw, rfl⟩) hS h
theorem one_up {i d fuel : Nat} {oi : Oper} {listed l2 : Array Bool} {a : Act} {w : World} (hi : ops[i]? = some oi) (_hd : oi.dst = some d) (hl : listed.setIfInBounds i true = l2) (hr : Region.ready md ops listed = [i])
    (hw : Region.wanted oi (yielded ops a.tmps) = true)
    (h : ∀ K' : Act → World → Prop, Shut (∀ v w, S w → (S w → wpAnyH P md ops Q S fuel l2 (a.put (some d) v) w) → K' (a.put (some d) v) w) → Oper.wp P oi a w K' Q) : wpAnyH P md ops Q S (fuel + 1) listed a w := by
  subst hl
  refine wpAnyH_ready (rs := [i]) hr (by simp) (AllReadyH.cons hi (fun K hK => ?_) AllReadyH.nil)
  rw [if_pos hw]
  exact h K (fun v w hS hW => hK _ _ hS hW)
theorem one_up_none {i fuel : Nat} {oi : Oper} {listed l2 : Array Bool} {a : Act} {w : World} (hi : ops[i]? = some oi) (hd : oi.dst = none) (hl : listed.setIfInBounds i true = l2) (hr : Region.ready md ops listed = [i])
    (hw : Region.wanted oi (yielded ops a.tmps) = true)
    (h : ∀ K' : Act → World → Prop, Shut (∀ w, S w → (S w → wpAnyH P md ops Q S fuel l2 a w) → K' a w) → Oper.wp P oi a w K' Q) : wpAnyH P md ops Q S (fuel + 1) listed a w := by
  have _ := hd
  subst hl
  refine wpAnyH_ready (rs := [i]) hr (by simp) (AllReadyH.cons hi (fun K hK => ?_) AllReadyH.nil)
  rw [if_pos hw]
  exact h K (fun w hS hW => hK _ _ hS hW)
theorem two_up {i j d e fuel : Nat} {oi oj : Oper} {listed l1 l2 : Array Bool} {a : Act} {w : World} (hi : ops[i]? = some oi) (hj : ops[j]? = some oj) (_hd : oi.dst = some d) (_he : oj.dst = some e) (hl1 : listed.setIfInBounds i true = l1) (hl2 : listed.setIfInBounds j true = l2) (hr : Region.ready md ops listed = [i, j])
    (hwi : Region.wanted oi (yielded ops a.tmps) = true) (hwj : Region.wanted oj (yielded ops a.tmps) = true)
    (h1 : ∀ K' : Act → World → Prop, Shut (∀ v w, S w → (S w → wpAnyH P md ops Q S fuel l1 (a.put (some d) v) w) → K' (a.put (some d) v) w) → Oper.wp P oi a w K' Q)
    (h2 : ∀ K' : Act → World → Prop, Shut (∀ v w, S w → (S w → wpAnyH P md ops Q S fuel l2 (a.put (some e) v) w) → K' (a.put (some e) v) w) → Oper.wp P oj a w K' Q) : wpAnyH P md ops Q S (fuel + 1) listed a w := by
  subst hl1
  subst hl2
  refine wpAnyH_ready (rs := [i, j]) hr (by simp) (AllReadyH.cons hi (fun K hK => ?_) (AllReadyH.cons hj (fun K hK => ?_) AllReadyH.nil))
  · rw [if_pos hwi]
    exact h1 K (fun v w hS hW => hK _ _ hS hW)
  · rw [if_pos hwj]
    exact h2 K (fun v w hS hW => hK _ _ hS hW)
end Go.Proofs.YtbmenihakkogkabGreatDoor
namespace Go.Proofs.YtbmenihakkogkabGreatDoor
open Go.RowKit Go.Maps
theorem CodeRow.row {C : Nat} {w : World} {v : Value} {l : List (List Int × Value)} (h : CodeRow C w v l) : ∀ g, v.ownBlock = some g → C ≤ g ∧ ∃ cur, w.heap[g]? = some (.cells cur 106 (0, 0)) := by
  intro g hg
  rcases h.1.2 with ⟨rfl, _⟩ | ⟨g', cap, cur, rfl, hC, h2, _⟩
  · cases hg
  · cases hg
    exact ⟨hC, cur, h2⟩
theorem infoIns : (Tryz.prog.info? 106).map (fun i => (i.zero, i.size, i.bytes)) = some (some (.agg #[.int .i64 0, .int .i64 0, .int .i64 0, .int .i64 0, .slice none 0 0]), 5, 56) := by kernel_rfl
theorem wp_append_ins {o : Oper} {a : Act} {K : Act → World → Prop} {Q : Exit → Act → World → Prop} (W : World) (s y : Operand) (ho : o.op = .call { callee := .builtin .append, args := #[s, y], argTypes := #[38, 38] })
    (C : Nat) (cv : Value) (items : List (List Int × Value)) (x1 x2 x3 x4 : Int) (av : Value) (hav : ∃ b n c, av = .slice b n c) (hs : a.eval s = cv) (hown : CodeRow C W cv items) (B : Nat) (hB : W.heap.size = B) (hy : a.eval y = .slice (some ⟨B, 0, none⟩) 1 1) (hl : items.length ≤ 100000) (hC : C ≤ W.heap.size)
    (h : ∀ ad cap w2, w2.ownsRow C 106 5 (.slice ad (items.length + 1) cap) (items.length + 1) (flatI items ++ [.int .i64 x1, .int .i64 x2, .int .i64 x3, .int .i64 x4, av]) → (W.alloc (.cells #[.int .i64 x1, .int .i64 x2, .int .i64 x3, .int .i64 x4, av] 106)).grownBy w2 cv.ownBlock → K (a.put o.dst (.slice ad (items.length + 1) cap)) w2) :
    o.wp Tryz.prog a (W.alloc (.cells #[.int .i64 x1, .int .i64 x2, .int .i64 x3, .int .i64 x4, av] 106)) K Q := by
  subst hB
  obtain ⟨i0, hi, hz0, hz1, hz2⟩ := info_parts infoIns
  obtain ⟨ab, an, ac, rfl⟩ := hav
  refine wp_append_own _ s y 38 ho C 106 i0 (.agg #[.int .i64 0, .int .i64 0, .int .i64 0, .int .i64 0, .slice none 0 0]) 5 56 Tryz.underlying38 hi hz0 hz1 hz2 rfl (by decide) cv _ _ hs (own_keep hown.1 (Keeps.of (bal W _))) ⟨W.heap.size, 0, none⟩ 1 1 [.int .i64 x1, .int .i64 x2, .int .i64 x3, .int .i64 x4, .slice ab an ac] hy rfl (fun j u hj => ?_) (fun u hu => ?_) (by unfold maxLen; omega) (by omega) (Nat.le_trans hC (bal W _).size) ?_
  · rw [WideShapes.add_plain, Nat.zero_add, World.cell?_alloc_new]
    simpa using hj
  · simp only [List.mem_cons, List.mem_nil_iff, or_false] at hu
    rcases hu with rfl | rfl | rfl | rfl | rfl <;> rfl
  · intro v' w2 h1 h2 _
    obtain ⟨ad, cap, rfl⟩ := own_shape h1
    exact h ad cap w2 h1 h2
theorem heap_lt_alloc {w : World} {o : Obj} {g : Nat} (h : g < w.heap.size) : (w.drew.alloc o).heap[g]? = w.heap[g]? := (bal w.drew o).block g h
theorem heap_lt_alloc2 {w : World} {o : Obj} {g : Nat} (h : g < w.heap.size) : (w.alloc o).drew.heap[g]? = w.heap[g]? := (bal w o).block g h
end Go.Proofs.YtbmenihakkogkabGreatDoor
namespace Go.Proofs.YtbmenihakkogkabGreatDoor
def good (np : Nat) (par : Nat → Int) (R : Int) (c : Nat) (i : In) : Prop := insErr np par R c i = 0
theorem fromB_iffC {n lo hi : Int} : fromB n lo hi = true ↔ lo ≤ n ∧ n ≤ hi := by unfold fromB; exact decide_eq_true_iff
theorem good_iff {np : Nat} {par : Nat → Int} {R : Int} {c : Nat} {i : In} : good np par R c i ↔ fromB i.op 1 13 = true ∧ regsB i R = true ∧ (i.op = 7 → fromB i.b 0 ((np : Int) - 1) = true) ∧ restB i c = true ∧ bareB i = true ∧ (i.op = 7 → (i.n : Int) = par i.b.toNat) ∧ (i.op = 7 → argsB i R = true) := by
  unfold good insErr
  constructor
  · intro h
    split at h
    · cases h
    next h1 =>
    split at h
    · cases h
    next h2 =>
    split at h
    · cases h
    next h3 =>
    split at h
    · cases h
    next h4 =>
    split at h
    · cases h
    next h5 =>
    split at h
    · cases h
    next h6 =>
    refine ⟨by simpa using h1, by simpa using h2, fun e => ?_, by simpa using h4, ?_, fun e => ?_, fun e => ?_⟩
    · cases hb : fromB i.b 0 ((np : Int) - 1)
      · exact absurd ⟨e, hb⟩ h3
      · rfl
    · cases hb : bareB i
      · exact absurd (Or.inl hb) h5
      · rfl
    · exact Classical.byContradiction fun hn => h5 (Or.inr ⟨e, hn⟩)
    · cases hb : argsB i R
      · exact absurd ⟨e, hb⟩ h6
      · rfl
  · rintro ⟨h1, h2, h3, h4, h5, h6, h7⟩
    rw [if_neg (by rw [h1]; simp), if_neg (by rw [h2]; simp), if_neg (fun h => by rw [h3 h.1] at h; simp at h), if_neg (by rw [h4]; simp), if_neg (fun h => by
      rcases h with h | h
      · rw [h5] at h; cases h
      · exact h.2 (h6 h.1)), if_neg (fun h => by rw [h7 h.1] at h; simp at h)]
theorem good_num {np : Nat} {par : Nat → Int} {R : Int} {c : Nat} {a b : Int} {z : Nat → Int} (ha : 0 ≤ a ∧ a < R) (hb : -1000000000 ≤ b ∧ b ≤ 1000000000) : good np par R c ⟨1, a, b, 0, 0, z⟩ := by
  rw [good_iff]
  simp [fromB, regsB, restB, bareB]; omega
theorem good_move {np : Nat} {par : Nat → Int} {R : Int} {c : Nat} {a b : Int} {z : Nat → Int} (ha : 0 ≤ a ∧ a < R) (hb : 0 ≤ b ∧ b < R) : good np par R c ⟨2, a, b, 0, 0, z⟩ := by
  rw [good_iff]
  simp [fromB, regsB, restB, bareB]; omega
theorem good_op {np : Nat} {par : Nat → Int} {R : Int} {c : Nat} {a b d : Int} {z : Nat → Int} (ha : 0 ≤ a ∧ a < R) (hb : 0 ≤ b ∧ b < R) (hd : 0 ≤ d ∧ d < R) (hz : 1 ≤ z 0 ∧ z 0 ≤ 5) : good np par R c ⟨3, a, b, d, 1, z⟩ := by
  rw [good_iff]
  simp [fromB, regsB, restB, bareB]; omega
theorem good_get {np : Nat} {par : Nat → Int} {R : Int} {c : Nat} {a b d : Int} {z : Nat → Int} (ha : 0 ≤ a ∧ a < R) (hb : 0 ≤ b ∧ b < R) (hd : 0 ≤ d ∧ d ≤ 3) : good np par R c ⟨4, a, b, d, 0, z⟩ := by
  rw [good_iff]
  simp [fromB, regsB, restB, bareB]; omega
theorem good_new {np : Nat} {par : Nat → Int} {R : Int} {c : Nat} {a b : Int} {z : Nat → Int} (ha : 0 ≤ a ∧ a < R) (hb : 1 ≤ b ∧ b ≤ 4) : good np par R c ⟨5, a, b, 0, 0, z⟩ := by
  rw [good_iff]
  simp [fromB, regsB, restB, bareB]; omega
theorem good_put {np : Nat} {par : Nat → Int} {R : Int} {c : Nat} {a b d : Int} {z : Nat → Int} (ha : 0 ≤ a ∧ a < R) (hb : 0 ≤ b ∧ b < R) (hd : 0 ≤ d ∧ d ≤ 3) : good np par R c ⟨6, a, b, d, 0, z⟩ := by
  rw [good_iff]
  simp [fromB, regsB, restB, bareB]; omega
theorem good_call {np : Nat} {par : Nat → Int} {R : Int} {c : Nat} {a b : Int} {n : Nat} {z : Nat → Int} (ha : 0 ≤ a ∧ a < R) (hb : 0 ≤ b ∧ b < np) (hn : (n : Int) = par b.toNat) (hz : ∀ k, k < n → 0 ≤ z k ∧ z k < R) : good np par R c ⟨7, a, b, 0, n, z⟩ := by
  rw [good_iff]
  refine ⟨by simp [fromB], by simp [fromB, regsB]; omega, fun _ => by simp [fromB]; omega, by simp [restB], by simp [bareB], fun _ => hn, fun _ => ?_⟩
  unfold argsB
  rw [decide_eq_true_iff]
  intro k hk
  have := hz k hk
  exact ⟨this.1, by show z k ≤ R - 1; omega⟩
theorem good_one {np : Nat} {par : Nat → Int} {R : Int} {c : Nat} {o a : Int} {z : Nat → Int} (ho : o = 8 ∨ o = 9 ∨ o = 11) (ha : 0 ≤ a ∧ a < R) : good np par R c ⟨o, a, 0, 0, 0, z⟩ := by
  rw [good_iff]
  rcases ho with rfl | rfl | rfl <;> simp [fromB, regsB, restB, bareB] <;> omega
theorem good_pause {np : Nat} {par : Nat → Int} {R : Int} {c : Nat} {z : Nat → Int} : good np par R c ⟨10, 0, 0, 0, 0, z⟩ := by
  rw [good_iff]
  simp [fromB, regsB, restB, bareB]
theorem good_jump {np : Nat} {par : Nat → Int} {R : Int} {c : Nat} {b : Int} {z : Nat → Int} (hb : 0 ≤ b ∧ b < c) : good np par R c ⟨12, 0, b, 0, 0, z⟩ := by
  rw [good_iff]
  simp [fromB, regsB, restB, bareB]; omega
theorem good_zero {np : Nat} {par : Nat → Int} {R : Int} {c : Nat} {a b : Int} {z : Nat → Int} (ha : 0 ≤ a ∧ a < R) (hb : 0 ≤ b ∧ b < c) : good np par R c ⟨13, a, b, 0, 0, z⟩ := by
  rw [good_iff]
  simp [fromB, regsB, restB, bareB]; omega
theorem firstErr_nil {f : Nat → Int} : ∀ {n : Nat}, (∀ k, k < n → f k = 0) → firstErr n f = 0
  | 0, _ => rfl
  | n + 1, h => by
    have h1 := firstErr_nil (n := n) fun k hk => h k (by omega)
    simp only [firstErr]
    rw [h1, if_pos rfl]
    exact h n (by omega)
theorem body_right {np : Nat} {par : Nat → Int} {p : Pc} (h : ∀ k, k < p.n → good np par p.regs p.n (p.ins k)) (he : (p.ins (p.n - 1)).op = 8) : bodyCErr np par p = 0 := by
  unfold bodyCErr
  rw [firstErr_nil h, if_pos rfl, if_pos (Or.inl he)]
theorem code_right {np : Nat} {P : Nat → Pc} (h1 : 1 ≤ np) (h4 : np ≤ 4) (hh : ∀ j, j < np → 0 ≤ (P j).params ∧ (P j).params ≤ 3 ∧ (P j).params ≤ (P j).regs ∧ 1 ≤ (P j).regs ∧ (P j).regs ≤ 40 ∧ 1 ≤ (P j).n ∧ (P j).n ≤ 2000) (h0 : (P 0).params = 0)
    (hb : ∀ j, j < np → bodyCErr np (fun k => (P k).params) (P j) = 0) : codeErr np P = 0 := by
  unfold codeErr
  have e1 : firstErr np (fun j => pcErr j (P j)) = 0 := firstErr_nil fun j hj => by
    obtain ⟨a, b, c, d, e, f, g⟩ := hh j hj
    show pcErr j (P j) = 0
    unfold pcErr
    rw [if_neg (fun h => ?_), if_neg (by omega)]
    rcases h with h | h | ⟨rfl, h⟩
    · have : fromB (P j).params 0 3 = true := fromB_iffC.2 ⟨a, b⟩
      rw [this] at h; cases h
    · have : fromB (P j).regs (max 1 (P j).params) 40 = true := fromB_iffC.2 ⟨by omega, e⟩
      rw [this] at h; cases h
    · omega
  rw [if_neg (by omega), e1, if_pos rfl]
  exact firstErr_nil hb
/-! ### Registers -/
def peak (d : Nat) : Nat := (2 * d + 1) / 3
theorem peak_pos {d : Nat} (h : 1 ≤ d) : 1 ≤ peak d := by unfold peak; omega
theorem peak_part {i d e : Nat} (hi : i ≤ 2) (h : 1 + i + d ≤ e) : i + peak d ≤ peak e := by unfold peak; omega
theorem peak_all {e : Nat} (h : e ≤ 24) : peak e ≤ 16 := by unfold peak; omega
end Go.Proofs.YtbmenihakkogkabGreatDoor
