import Derived.Test.YtbmenihakkogkabGreatDoorDAddR
import Derived.Test.YtbmenihakkogkabGreatDoorDAddO
import Derived.Test.YtbmenihakkogkabGreatDoorCompRel
import Derived.Test.YtbmenihakkogkabGreatDoorWalk
namespace Go.Proofs.YtbmenihakkogkabGreatDoor
open Go.RowKit Go.Maps
structure DC where
  X : Nat
  C : Nat
  fv : Value
  vars : Nat
  once : Bool
structure DFb (X B C : Nat) (w w' : World) : Prop where
  os : w'.os = w.os
  tape : w'.tape = w.tape
  output : w'.output = w.output
  size : w.heap.size ≤ w'.heap.size
  block : ∀ (k : Nat) (o : Obj), w.heap[k]? = some o → ¬ k = X → ¬ k = B → (k < C ∨ ∀ c, ¬ o = Obj.cells c 106 (0, 0)) → w'.heap[k]? = some o
theorem DFb.refl (X B C : Nat) (w : World) : DFb X B C w w := ⟨rfl, rfl, rfl, Nat.le_refl _, fun _ _ h _ _ _ => h⟩
theorem DFb.trans {X B C : Nat} {a b c : World} (h : DFb X B C a b) (k : DFb X B C b c) : DFb X B C a c :=
  ⟨k.os.trans h.os, k.tape.trans h.tape, k.output.trans h.output, Nat.le_trans h.size k.size, fun n o hn hx hb ho => k.block n o (h.block n o hn hx hb ho) hx hb ho⟩
theorem DFr.b {X C : Nat} {a b : World} (h : DFr X C a b) (B : Nat) : DFb X B C a b := ⟨h.os, h.tape, h.output, h.size, fun k o hk hx _ ho => h.block k o hk hx ho⟩
theorem Save.b {B : Nat} {a b : World} (h : Save B a b) (X C : Nat) : DFb X B C a b := ⟨h.os, h.tape, h.output, h.size, fun k o hk _ hb _ => by rw [h.block k (Array.getElem?_eq_some_iff.1 hk).1 hb]; exact hk⟩
theorem DFb.r {X B C : Nat} {w a b : World} (h : DFb X B C a b) (h0 : DFr X C w a) (hB : w.heap.size ≤ B) : DFr X C w b :=
  ⟨h.os.trans h0.os, h.tape.trans h0.tape, h.output.trans h0.output, Nat.le_trans h0.size h.size, fun k o hk hx ho => h.block k o (h0.block k o hk hx ho) hx (by have := (Array.getElem?_eq_some_iff.1 hk).1; omega) ho⟩
theorem DFr.low {X C N : Nat} {a b : World} (h : DFr X C a b) (hX : N ≤ X) (hC : N ≤ C) (hN : N ≤ a.heap.size) : Below N a b :=
  ⟨h.os, h.tape, h.output, h.size, fun k hk => by
    have e : a.heap[k]? = some a.heap[k] := Array.getElem?_eq_getElem (by omega)
    rw [e]
    exact h.block k _ e (by omega) (Or.inl (by omega))⟩
def offs (B : Nat) (items : List (List Int × Value)) : Prop := ∀ x ∈ items, x.1.length - 4 = 0 ∨ ∀ a n d, x.2 = .slice (some a) n d → ¬ a.block = B
theorem offs_app {B : Nat} {a b : List (List Int × Value)} (h1 : offs B a) (h2 : offs B b) : offs B (a ++ b) := fun x hx => by
  rcases List.mem_append.1 hx with hx | hx
  · exact h1 x hx
  · exact h2 x hx
def DV (c : DC) (w : World) (cl : Bool) (items : List (List Int × Value)) : Prop :=
  ∃ (regs : Nat) (U : Nat → Bool) (cv : Value), DAt c.X w c.fv c.vars regs c.once U cv ∧ CodeRow c.C w cv items ∧ regs ≤ c.vars + 17 ∧ und regs (items.map (·.1)) ∧ (∀ k, U k = true → k < regs) ∧ (cl = true → ∀ k, c.vars ≤ k → U k = false) ∧ c.C ≤ w.heap.size ∧ c.vars ≤ 6 ∧ c.C ≤ c.X
theorem DV.off {c : DC} {w : World} {cl : Bool} {items : List (List Int × Value)} (h : DV c w cl items) {B : Nat} (hB : w.heap.size ≤ B) : offs B items := by
  obtain ⟨_, _, _, _, h2, _⟩ := h
  intro x hx
  obtain ⟨a, cap, e, _, h | ⟨g, o, cur, rfl, hg, _⟩⟩ := h2.2 x hx
  · exact Or.inl h
  · refine Or.inr fun a' n d e2 => ?_
    rw [e] at e2
    injection e2 with e3 _ _
    injection e3 with e3
    subst e3
    have := (Array.getElem?_eq_some_iff.1 hg).1
    show ¬ g = B
    omega
theorem DV.xlt {c : DC} {w : World} {cl : Bool} {items : List (List Int × Value)} (h : DV c w cl items) : c.X < w.heap.size ∧ c.C ≤ w.heap.size ∧ c.vars ≤ 6 ∧ c.C ≤ c.X := by
  obtain ⟨_, _, _, ⟨cur, h0, _⟩, _, _, _, _, _, hC, hv, hX⟩ := h
  exact ⟨(Array.getElem?_eq_some_iff.1 h0).1, hC, hv, hX⟩
theorem DV.xt {c : DC} {w : World} {cl : Bool} {items : List (List Int × Value)} (h : DV c w cl items) : ∃ cur : Array Value, w.heap[c.X]? = some (.cells cur 174 (0, 0)) ∧ cur.size = 45 ∧ cur[0]? = some c.fv ∧ cur[1]? = some (.int .i64 c.vars) ∧ cur[43]? = some (.bool c.once) := by
  obtain ⟨_, _, _, ⟨cur, h0, h1, h2, h3, h4, h5, h6, h7⟩, _⟩ := h
  exact ⟨cur, h0, h1, h2, h3, h6⟩
theorem DV.weak {c : DC} {w : World} {cl : Bool} {items : List (List Int × Value)} (h : DV c w cl items) : DV c w false items := by
  obtain ⟨r, U, cv, h1, h2, h3, h4, h5, _, h7⟩ := h
  exact ⟨r, U, cv, h1, h2, h3, h4, h5, fun h => (by cases h), h7⟩
theorem DV.save {c : DC} {w w' : World} {cl : Bool} {items : List (List Int × Value)} (h : DV c w cl items) {B : Nat} (ho : offs B items) {cb : Array Value} (hB : w.heap[B]? = some (.cells cb 3 (0, 0))) (hs : Save B w w') : DV c w' cl items := by
  obtain ⟨r, U, cv, h1, h2, h3, h4, h5, h6, h7, h8⟩ := h
  have kT : Keeps 106 w w' := fun k cur hk => by
    rw [hs.block k (Array.getElem?_eq_some_iff.1 hk).1 ?_]
    · exact hk
    · rintro rfl
      rw [hB] at hk
      injection hk with hk
      injection hk with _ e _
      exact absurd e (by decide)
  refine ⟨r, U, cv, ?_, ⟨own_keep h2.1 kT, fun x hx => ?_⟩, h3, h4, h5, h6, Nat.le_trans h7 hs.size, h8⟩
  · obtain ⟨cur, h0, hr⟩ := h1
    refine ⟨cur, ?_, hr⟩
    rw [hs.block c.X (Array.getElem?_eq_some_iff.1 h0).1 ?_]
    · exact h0
    · intro e
      rw [e, hB] at h0
      injection h0 with h0
      injection h0 with _ e _
      exact absurd e (by decide)
  · obtain ⟨a, cap, e, hn, h | ⟨g, o, cur, rfl, hg, hc⟩⟩ := h2.2 x hx
    · exact ⟨a, cap, e, hn, Or.inl h⟩
    · rcases ho x hx with h0 | h0
      · exact ⟨_, cap, e, hn, Or.inl h0⟩
      · refine ⟨_, cap, e, hn, Or.inr ⟨g, o, cur, rfl, ?_, hc⟩⟩
        have := h0 _ _ _ e
        rw [hs.block g (Array.getElem?_eq_some_iff.1 hg).1 this]
        exact hg
theorem DV.of {c : DC} {w w' : World} {cl : Bool} {items : List (List Int × Value)} (h : DV c w cl items) (hb : Below w.heap.size w w') : DV c w' cl items := by
  obtain ⟨r, U, cv, h1, h2, h3, h4, h5, h6, h7, h8⟩ := h
  refine ⟨r, U, cv, ?_, h2.stay (Keeps.of hb) (Keeps.of hb), h3, h4, h5, h6, Nat.le_trans h7 hb.size, h8⟩
  obtain ⟨cur, h0, hr⟩ := h1
  exact ⟨cur, by rw [hb.block c.X (Array.getElem?_eq_some_iff.1 h0).1]; exact h0, hr⟩
def isC (op : Int) : Bool := decide (op = 5 ∨ op = 4 ∨ op = 7)
theorem dadd (c : DC) (cl : Bool) (items : List (List Int × Value)) (l : List Int) (op b d : Int) (A : Nat) (ab : Option Addr) (an ac : Nat) (w : World) (hD : DV c w cl items) (hl : l.getD 0 0 = op ∧ l.getD 1 0 = (A : Int) ∧ l.getD 2 0 = b ∧ l.getD 3 0 = d) (hav : ArgsAt w (.slice ab an ac) (l.length - 4) (fun j => l.getD (j + 4) 0)) (hil : items.length ≤ 100000) (hA : A < c.vars + 17)
    (h3 : op = 3 → l.length = 5 ∧ ∃ B D : Nat, (b = B ∧ B < 40) ∧ (d = D ∧ D < 40)) :
    Calls Tryz.prog 171 #[.pointer (some ⟨c.X, 0, none⟩), .agg #[.int .i64 op, .int .i64 A, .int .i64 b, .int .i64 d, .slice ab an ac]] w fun e w' => (∃ v, e = .returned v) ∧ Hid (DFr c.X c.C w w') ∧ Hid (DV c w' (cl && !isC op) (items ++ [(l, .slice ab an ac)])) := by
  obtain ⟨regs, U, cv, h1, h2, hr, hu, hk, hcl, hC, hv, hX⟩ := hD
  have em : max (regs : Int) ((A : Int) + 1) = ((max regs (A + 1) : Nat) : Int) := by omega
  have fin : ∀ (w' : World) (v' : Value) (U' : Nat → Bool), DFr c.X c.C w w' → DAt c.X w' c.fv c.vars (max (regs : Int) ((A : Int) + 1)) c.once U' v' → CodeRow c.C w' v' (items ++ [(l, .slice ab an ac)]) → (∀ k, U' k = true → U k = true ∨ (k = A ∧ isC op = true)) → DV c w' (cl && !isC op) (items ++ [(l, .slice ab an ac)]) := fun w' v' U' f1 f2 f3 f4 => by
    rw [em] at f2
    refine ⟨max regs (A + 1), U', v', f2, f3, by omega, ?_, fun k h => ?_, fun h k hk2 => ?_, Nat.le_trans hC f1.size, hv, hX⟩
    · rw [List.map_append, und_app]
      refine ⟨fun i hi => ?_, fun i hi => ?_⟩
      · have := hu i hi; omega
      · simp only [List.map_cons, List.map_nil, List.mem_singleton] at hi
        subst hi
        rw [hl.2.1]
        omega
    · rcases f4 k h with h | ⟨rfl, _⟩
      · have := hk k h; omega
      · omega
    · simp only [Bool.and_eq_true, Bool.not_eq_true'] at h
      cases e : U' k
      · rfl
      · rcases f4 k e with h' | ⟨_, h'⟩
        · rw [hcl h.1 k hk2] at h'; cases h'
        · rw [h.2] at h'; cases h'
  by_cases o8 : op = 8
  · refine (dadd_ret c.X c.C c.fv c.vars regs c.once U cv items op A b d l ab an ac w h1 h2 hl hav hil hC A (by omega) rfl o8).mono fun e w' h => ?_
    obtain ⟨he, v', f1, f2, f3⟩ := h
    exact ⟨he, f1, fin w' v' U f1.out f2.out f3.out fun k h => Or.inl h⟩
  by_cases o3 : op = 3
  · obtain ⟨h5, B, D, hB, hDD⟩ := h3 o3
    refine (dadd_op c.X c.C c.fv c.vars regs c.once U cv items op A b d l ab an ac w h1 h2 hl hav hil hC A (by omega) rfl o3 h5 B D hB hDD).mono fun e w' h => ?_
    obtain ⟨he, v', f1, f2, f3⟩ := h
    exact ⟨he, f1, fin w' v' U f1.out f2.out f3.out fun k h => Or.inl h⟩
  · refine (dadd_plain c.X c.C c.fv c.vars regs c.once U cv items op A b d l ab an ac w h1 h2 hl hav hil hC A (by omega) rfl ⟨o3, o8⟩).mono fun e w' h => ?_
    obtain ⟨he, v', f1, f2, f3⟩ := h
    refine ⟨he, f1, fin w' v' _ f1.out f2.out f3.out fun k h => ?_⟩
    by_cases e : k = A
    · by_cases i : op = 5 ∨ op = 4 ∨ op = 7
      · exact Or.inr ⟨e, decide_eq_true i⟩
      · unfold addU at h
        rw [if_pos e, if_neg i] at h
        split at h
        · cases h
        · exact Or.inl h
    · rw [addU_other op U e] at h
      exact Or.inl h
structure RdAt (N B E : Nat) (ve : Value) (n : Nat) (k z : Nat → Int) (a : Nat) (w : World) : Prop where
  box : w.heap[B]? = some (.cells #[.int .i64 a] 3 (0, 0))
  row : w.heap[E]? = some (.cells #[ve] 80 (0, 0))
  toks : ToksAt N w ve n k z
  low : N ≤ B
  lowE : N ≤ E
  nw : N ≤ w.heap.size
theorem RdAt.ne {N B E : Nat} {ve : Value} {n : Nat} {k z : Nat → Int} {a : Nat} {w : World} (h : RdAt N B E ve n k z a w) : ¬ E = B := by
  intro e
  have h1 := h.box
  rw [← e, h.row] at h1
  injection h1 with h1
  injection h1 with _ e _
  exact absurd e (by decide)
set_option maxHeartbeats 2000000 in
theorem creader (N : Nat) (ve : Value) (n : Nat) (k z : Nat → Int) (w : World) (h : ToksAt N w ve n k z) (hN : N ≤ w.heap.size) :
    Calls Tryz.prog 230 #[ve] w fun e w' => ∃ B E, e = .returned (.func (.func 242) #[] #[.pointer (some ⟨B, 0, none⟩), .pointer (some ⟨E, 0, none⟩)]) ∧ Hid (Below w.heap.size w w') ∧ Hid (RdAt N B E ve n k z 0 w') ∧ Hid (w.heap.size ≤ B) := by
  obtain ⟨a, cap, rfl, hr⟩ := h
  have HT : Hid (ToksAt N w (.slice a n cap) n k z) := ⟨a, cap, rfl, hr⟩
  clear hr
  go_enter Tryz.func230, Tryz.ntmps230
  go_wp2_with fail
  go_ret
  have hb : Below w.heap.size w ((w.alloc (.cells #[.slice a n cap] 80)).alloc (.cells #[.int .i64 0] 3)) := bst (bal w _) (bal _ _)
  refine ⟨w.heap.size + 1, w.heap.size, rfl, hb, ⟨?_, ?_, HT.out.below (hb.mono hN), by omega, hN, by have := hb.size; omega⟩, (by show _ ≤ _; omega)⟩
  · have := heap_alloc_new (w.alloc (.cells #[.slice a n cap] 80)) (.cells #[.int .i64 0] 3)
    have e : (w.alloc (.cells #[.slice a n cap] 80)).heap.size = w.heap.size + 1 := by simp
    rw [e] at this
    exact this
  · rw [(bal (w.alloc (.cells #[.slice a n cap] 80)) _).block w.heap.size (by simp)]
    exact heap_alloc_new w _
set_option maxHeartbeats 2000000 in
theorem creader1 (N B E : Nat) (ve : Value) (n : Nat) (k z : Nat → Int) (a : Nat) (w : World) (h : RdAt N B E ve n k z a w) (ha : a < n) (hn : n ≤ 24) :
    Calls Tryz.prog 242 #[.pointer (some ⟨B, 0, none⟩), .pointer (some ⟨E, 0, none⟩)] w fun e w' => e = .returned (.agg #[.int .i64 (k a), .int .i64 (z a)]) ∧ Hid (Save B w w') ∧ Hid (RdAt N B E ve n k z (a + 1) w') := by
  have HR : Hid (RdAt N B E ve n k z a w) := h
  have hne := h.ne
  obtain ⟨b1, b2, ht, low, lowE, nw⟩ := h
  obtain ⟨ad, cap, rfl, hr, hz | ⟨g, o', rfl, hg, hc⟩⟩ := ht
  · omega
  obtain ⟨q1, q2⟩ := hc a ha
  have hBl : B < w.heap.size := (Array.getElem?_eq_some_iff.1 b1).1
  have hEl : E < w.heap.size := (Array.getElem?_eq_some_iff.1 b2).1
  have hgl : g < w.heap.size := by omega
  have kB : w.cell? ⟨B, 0, none⟩ = some (.int .i64 a) := by unfold World.cell?; rw [b1]; rfl
  have kF : w.frozen? ⟨B, 0, none⟩ = false := by unfold World.frozen?; rw [b1]; rfl
  have hw : IntKind.i64.wrap ((a : Int) + 1) = (a : Int) + 1 := Go.IntWalk.i64_in _ (by omega)
  have hw2 : IntKind.i64.wrap ((a : Int) + 1 - 1) = (a : Int) := by rw [show (a : Int) + 1 - 1 = a by omega]; exact Go.IntWalk.i64_in _ (by omega)
  have hgB : ¬ g = B := by omega
  have kb : ∀ (v : Value) (q : Nat), ¬ q = B → (w.setCell ⟨B, 0, none⟩ v).heap[q]? = w.heap[q]? := fun v q hn => Below.heap_setCell _ ⟨B, 0, none⟩ v q hn
  have kE : ∀ v, (w.setCell ⟨B, 0, none⟩ v).cell? ⟨E, 0, none⟩ = some (.slice (some ⟨g, o', none⟩) n cap) := fun v => by
    unfold World.cell?; rw [kb v E hne, b2]; rfl
  have kB2 : ∀ v, (w.setCell ⟨B, 0, none⟩ v).cell? ⟨B, 0, none⟩ = some v := fun v => by
    unfold World.cell?; rw [heap_setCell_same _ B 0 _ _ v b1]; rfl
  have q1 : ∀ v, (w.setCell ⟨B, 0, none⟩ v).cell? ⟨g, o' + a * 2, none⟩ = some (.int .i64 (k a)) := fun v => by
    rw [World.cell?_of_block (w := w) (a := ⟨g, o' + a * 2, none⟩) (kb v g hgB)]; exact q1
  have q2 : ∀ v, (w.setCell ⟨B, 0, none⟩ v).cell? ⟨g, o' + a * 2 + 1, none⟩ = some (.int .i64 (z a)) := fun v => by
    rw [World.cell?_of_block (w := w) (a := ⟨g, o' + a * 2 + 1, none⟩) (kb v g hgB)]; exact q2
  have HS : Hid (∀ o, Save B w ((w.setCell ⟨B, 0, none⟩ (.int .i64 ((a : Int) + 1))).alloc o) ∧ RdAt N B E (.slice (some ⟨g, o', none⟩) n cap) n k z (a + 1) ((w.setCell ⟨B, 0, none⟩ (.int .i64 ((a : Int) + 1))).alloc o)) := fun o => by
    have hb : Below B w (w.setCell ⟨B, 0, none⟩ (.int .i64 ((a : Int) + 1))) := (Below.refl B _).setCell (Nat.le_refl _) _
    have hs1 : Save B w (w.setCell ⟨B, 0, none⟩ (.int .i64 ((a : Int) + 1))) := ⟨hb.os, hb.tape, hb.output, hb.size, fun q hq hn => kb _ q hn⟩
    have hs := hs1.trans (Save.alloc B _ o)
    have hz := hb.size
    have hal := bal (w.setCell ⟨B, 0, none⟩ (.int .i64 ((a : Int) + 1))) o
    refine ⟨hs, ?_, ?_, HR.out.toks.below (hs.low low nw), low, lowE, Nat.le_trans nw hs.size⟩
    · rw [hal.block B (by omega), heap_setCell_same _ B 0 _ _ _ b1]; rfl
    · rw [hal.block E (by omega), kb _ E hne]; exact b2
  clear hc b1 b2 kb
  go_enter Tryz.func242, Tryz.ntmps242
  go_wp2_with fail
  have hcc : ∀ cs : Array Value, ((w.setCell ⟨B, 0, none⟩ (.int .i64 ((a : Int) + 1))).alloc (.cells cs 89)).heap[w.heap.size]? = some (.cells cs 89 (0, 0)) := fun cs => by
    have := heap_alloc_new (w.setCell ⟨B, 0, none⟩ (.int .i64 ((a : Int) + 1))) (.cells cs 89)
    rw [show (w.setCell ⟨B, 0, none⟩ (.int .i64 ((a : Int) + 1))).heap.size = w.heap.size by simp [World.setCell]] at this
    exact this
  refine bodyPost_ret (results_cell_row rfl _ _ w.heap.size 89 _ (0, 0) _ rfl (hcc _) Tryz.underlying89 rfl (by kernel_rfl)) rfl ?_
  exact ⟨rfl, (HS.out _).1, (HS.out _).2⟩
end Go.Proofs.YtbmenihakkogkabGreatDoor
