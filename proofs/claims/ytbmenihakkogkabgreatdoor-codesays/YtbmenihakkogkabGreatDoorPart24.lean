/- A draft that is laid: what stays, what is known of it on the way; add, of any instruction. The reader of tokens, one by one: it, and its closure. No register from here on leads to a cell: clear. -/
import Derived.Test.YtbmenihakkogkabGreatDoorDAddR
import Derived.Test.YtbmenihakkogkabGreatDoorDAddO
import Derived.Test.YtbmenihakkogkabGreatDoorCompRel
import Derived.Test.YtbmenihakkogkabGreatDoorPart5
namespace Go.Proofs.YtbmenihakkogkabGreatDoor
open Go.RowKit Go.Maps

/-- What is fixed of a draft: its block, the first block of its rows, the functions, how many variables, 'at once?'. -/
structure DC where
  X : Nat
  C : Nat
  fv : Value
  vars : Nat
  once : Bool

/-- All that was there is as it was, but for blocks X and B, and rows of instructions from C on. -/
structure DFb (X B C : Nat) (w w' : World) : Prop where
  os : w'.os = w.os
  tape : w'.tape = w.tape
  output : w'.output = w.output
  size : w.heap.size ≤ w'.heap.size
  block : ∀ (k : Nat) (o : Obj), w.heap[k]? = some o → ¬ k = X → ¬ k = B → (k < C ∨ ∀ c, ¬ o = Obj.cells c 106 (0, 0)) → w'.heap[k]? = some o

theorem DFb.refl (X B C : Nat) (w : World) : DFb X B C w w := ⟨rfl, rfl, rfl, Nat.le_refl _, fun _ _ h _ _ _ => h⟩
theorem DFb.trans {X B C : Nat} {a b c : World} (h : DFb X B C a b) (k : DFb X B C b c) : DFb X B C a c :=
  ⟨k.os.trans h.os, k.tape.trans h.tape, k.output.trans h.output, Nat.le_trans h.size k.size, fun n o hn hx hb ho => k.block n o (h.block n o hn hx hb ho) hx hb ho⟩
theorem DFr.b {X C : Nat} {a b : World} (h : DFr X C a b) (B : Nat) : DFb X B C a b := ⟨h.os, h.tape, h.output, h.size, fun k o hk hx _ ho => h.block k o hk hx ho⟩
theorem Save.b {B : Nat} {a b : World} (h : Save B a b) (X C : Nat) : DFb X B C a b := ⟨h.os, h.tape, h.output, h.size, fun k o hk _ hb _ => by rw [h.block k (Array.getElem?_eq_some_iff.1 hk).1 hb]; exact hk⟩
/-- A box that is new. -/
theorem DFb.r {X B C : Nat} {w a b : World} (h : DFb X B C a b) (h0 : DFr X C w a) (hB : w.heap.size ≤ B) : DFr X C w b :=
  ⟨h.os.trans h0.os, h.tape.trans h0.tape, h.output.trans h0.output, Nat.le_trans h0.size h.size, fun k o hk hx ho => h.block k o (h0.block k o hk hx ho) hx (by have := (Array.getElem?_eq_some_iff.1 hk).1; omega) ho⟩
theorem DFr.low {X C N : Nat} {a b : World} (h : DFr X C a b) (hX : N ≤ X) (hC : N ≤ C) (hN : N ≤ a.heap.size) : Below N a b :=
  ⟨h.os, h.tape, h.output, h.size, fun k hk => by
    have e : a.heap[k]? = some a.heap[k] := Array.getElem?_eq_getElem (by omega)
    rw [e]
    exact h.block k _ e (by omega) (Or.inl (by omega))⟩
theorem DFb.low {X B C N : Nat} {a b : World} (h : DFb X B C a b) (hX : N ≤ X) (hB : N ≤ B) (hC : N ≤ C) (hN : N ≤ a.heap.size) : Below N a b :=
  ⟨h.os, h.tape, h.output, h.size, fun k hk => by
    have e : a.heap[k]? = some a.heap[k] := Array.getElem?_eq_getElem (by omega)
    rw [e]
    exact h.block k _ e (by omega) (by omega) (Or.inl (by omega))⟩

/-- No instruction's Args are in block B. -/
def offs (B : Nat) (items : List (List Int × Value)) : Prop := ∀ x ∈ items, x.1.length - 4 = 0 ∨ ∀ a n d, x.2 = .slice (some a) n d → ¬ a.block = B
theorem offs_app {B : Nat} {a b : List (List Int × Value)} (h1 : offs B a) (h2 : offs B b) : offs B (a ++ b) := fun x hx => by
  rcases List.mem_append.1 hx with hx | hx
  · exact h1 x hx
  · exact h2 x hx

/-- What is known of a draft with these instructions; cl: no register from vars on may hold a cell. -/
def DV (c : DC) (w : World) (cl : Bool) (items : List (List Int × Value)) : Prop :=
  ∃ (regs : Nat) (U : Nat → Bool) (cv : Value), DAt c.X w c.fv c.vars regs c.once U cv ∧ CodeRow c.C w cv items ∧ regs ≤ c.vars + 17 ∧ und regs (items.map (·.1)) ∧ (∀ k, U k = true → k < regs) ∧ (cl = true → ∀ k, c.vars ≤ k → U k = false) ∧ c.C ≤ w.heap.size ∧ c.vars ≤ 6 ∧ c.C ≤ c.X

theorem DV.off {c : DC} {w : World} {cl : Bool} {items : List (List Int × Value)} (h : DV c w cl items) {B : Nat} (hB : w.heap.size ≤ B) : offs B items := by
  obtain ⟨_, _, _, _, h2, _⟩ := h
  intro x hx
  obtain ⟨a, cap, e, _, h | ⟨g, o, cur, rfl, hg, _⟩⟩ := h2.2 x hx
  · exact Or.inl h
  · refine Or.inr fun a' n d e2 => ?_
    rw [e] at e2
    injection e2 with e3 _ _
    injection e3 with e3
    subst e3
    have := (Array.getElem?_eq_some_iff.1 hg).1
    show ¬ g = B
    omega

theorem DV.xlt {c : DC} {w : World} {cl : Bool} {items : List (List Int × Value)} (h : DV c w cl items) : c.X < w.heap.size ∧ c.C ≤ w.heap.size ∧ c.vars ≤ 6 ∧ c.C ≤ c.X := by
  obtain ⟨_, _, _, ⟨cur, h0, _⟩, _, _, _, _, _, hC, hv, hX⟩ := h
  exact ⟨(Array.getElem?_eq_some_iff.1 h0).1, hC, hv, hX⟩

theorem DV.xt {c : DC} {w : World} {cl : Bool} {items : List (List Int × Value)} (h : DV c w cl items) : ∃ cur : Array Value, w.heap[c.X]? = some (.cells cur 174 (0, 0)) ∧ cur.size = 45 ∧ cur[0]? = some c.fv ∧ cur[1]? = some (.int .i64 c.vars) ∧ cur[43]? = some (.bool c.once) := by
  obtain ⟨_, _, _, ⟨cur, h0, h1, h2, h3, h4, h5, h6, h7⟩, _⟩ := h
  exact ⟨cur, h0, h1, h2, h3, h6⟩

theorem DV.weak {c : DC} {w : World} {cl : Bool} {items : List (List Int × Value)} (h : DV c w cl items) : DV c w false items := by
  obtain ⟨r, U, cv, h1, h2, h3, h4, h5, _, h7⟩ := h
  exact ⟨r, U, cv, h1, h2, h3, h4, h5, fun h => (by cases h), h7⟩

/-- Only a box of a number has changed. -/
theorem DV.save {c : DC} {w w' : World} {cl : Bool} {items : List (List Int × Value)} (h : DV c w cl items) {B : Nat} (ho : offs B items) {cb : Array Value} (hB : w.heap[B]? = some (.cells cb 3 (0, 0))) (hs : Save B w w') : DV c w' cl items := by
  obtain ⟨r, U, cv, h1, h2, h3, h4, h5, h6, h7, h8⟩ := h
  have kT : Keeps 106 w w' := fun k cur hk => by
    rw [hs.block k (Array.getElem?_eq_some_iff.1 hk).1 ?_]
    · exact hk
    · rintro rfl
      rw [hB] at hk
      injection hk with hk
      injection hk with _ e _
      exact absurd e (by decide)
  refine ⟨r, U, cv, ?_, ⟨own_keep h2.1 kT, fun x hx => ?_⟩, h3, h4, h5, h6, Nat.le_trans h7 hs.size, h8⟩
  · obtain ⟨cur, h0, hr⟩ := h1
    refine ⟨cur, ?_, hr⟩
    rw [hs.block c.X (Array.getElem?_eq_some_iff.1 h0).1 ?_]
    · exact h0
    · intro e
      rw [e, hB] at h0
      injection h0 with h0
      injection h0 with _ e _
      exact absurd e (by decide)
  · obtain ⟨a, cap, e, hn, h | ⟨g, o, cur, rfl, hg, hc⟩⟩ := h2.2 x hx
    · exact ⟨a, cap, e, hn, Or.inl h⟩
    · rcases ho x hx with h0 | h0
      · exact ⟨_, cap, e, hn, Or.inl h0⟩
      · refine ⟨_, cap, e, hn, Or.inr ⟨g, o, cur, rfl, ?_, hc⟩⟩
        have := h0 _ _ _ e
        rw [hs.block g (Array.getElem?_eq_some_iff.1 hg).1 this]
        exact hg

/-- Nothing that was there has changed. -/
theorem DV.of {c : DC} {w w' : World} {cl : Bool} {items : List (List Int × Value)} (h : DV c w cl items) (hb : Below w.heap.size w w') : DV c w' cl items := by
  obtain ⟨r, U, cv, h1, h2, h3, h4, h5, h6, h7, h8⟩ := h
  refine ⟨r, U, cv, ?_, h2.stay (Keeps.of hb) (Keeps.of hb), h3, h4, h5, h6, Nat.le_trans h7 hb.size, h8⟩
  obtain ⟨cur, h0, hr⟩ := h1
  exact ⟨cur, by rw [hb.block c.X (Array.getElem?_eq_some_iff.1 h0).1]; exact h0, hr⟩

/-- Does an instruction lay a cell into its register? -/
def isC (op : Int) : Bool := decide (op = 5 ∨ op = 4 ∨ op = 7)

theorem dadd (c : DC) (cl : Bool) (items : List (List Int × Value)) (l : List Int) (op b d : Int) (A : Nat) (ab : Option Addr) (an ac : Nat) (w : World) (hD : DV c w cl items) (hl : l.getD 0 0 = op ∧ l.getD 1 0 = (A : Int) ∧ l.getD 2 0 = b ∧ l.getD 3 0 = d) (hav : ArgsAt w (.slice ab an ac) (l.length - 4) (fun j => l.getD (j + 4) 0)) (hil : items.length ≤ 100000) (hA : A < c.vars + 17)
    (h3 : op = 3 → l.length = 5 ∧ ∃ B D : Nat, (b = B ∧ B < 40) ∧ (d = D ∧ D < 40)) :
    Calls Tryz.prog 171 #[.pointer (some ⟨c.X, 0, none⟩), .agg #[.int .i64 op, .int .i64 A, .int .i64 b, .int .i64 d, .slice ab an ac]] w fun e w' => (∃ v, e = .returned v) ∧ Hid (DFr c.X c.C w w') ∧ Hid (DV c w' (cl && !isC op) (items ++ [(l, .slice ab an ac)])) := by
  obtain ⟨regs, U, cv, h1, h2, hr, hu, hk, hcl, hC, hv, hX⟩ := hD
  have em : max (regs : Int) ((A : Int) + 1) = ((max regs (A + 1) : Nat) : Int) := by omega
  have fin : ∀ (w' : World) (v' : Value) (U' : Nat → Bool), DFr c.X c.C w w' → DAt c.X w' c.fv c.vars (max (regs : Int) ((A : Int) + 1)) c.once U' v' → CodeRow c.C w' v' (items ++ [(l, .slice ab an ac)]) → (∀ k, U' k = true → U k = true ∨ (k = A ∧ isC op = true)) → DV c w' (cl && !isC op) (items ++ [(l, .slice ab an ac)]) := fun w' v' U' f1 f2 f3 f4 => by
    rw [em] at f2
    refine ⟨max regs (A + 1), U', v', f2, f3, by omega, ?_, fun k h => ?_, fun h k hk2 => ?_, Nat.le_trans hC f1.size, hv, hX⟩
    · rw [List.map_append, und_app]
      refine ⟨fun i hi => ?_, fun i hi => ?_⟩
      · have := hu i hi; omega
      · simp only [List.map_cons, List.map_nil, List.mem_singleton] at hi
        subst hi
        rw [hl.2.1]
        omega
    · rcases f4 k h with h | ⟨rfl, _⟩
      · have := hk k h; omega
      · omega
    · simp only [Bool.and_eq_true, Bool.not_eq_true'] at h
      cases e : U' k
      · rfl
      · rcases f4 k e with h' | ⟨_, h'⟩
        · rw [hcl h.1 k hk2] at h'; cases h'
        · rw [h.2] at h'; cases h'
  by_cases o8 : op = 8
  · refine (dadd_ret c.X c.C c.fv c.vars regs c.once U cv items op A b d l ab an ac w h1 h2 hl hav hil hC A (by omega) rfl o8).mono fun e w' h => ?_
    obtain ⟨he, v', f1, f2, f3⟩ := h
    exact ⟨he, f1, fin w' v' U f1.out f2.out f3.out fun k h => Or.inl h⟩
  by_cases o3 : op = 3
  · obtain ⟨h5, B, D, hB, hDD⟩ := h3 o3
    refine (dadd_op c.X c.C c.fv c.vars regs c.once U cv items op A b d l ab an ac w h1 h2 hl hav hil hC A (by omega) rfl o3 h5 B D hB hDD).mono fun e w' h => ?_
    obtain ⟨he, v', f1, f2, f3⟩ := h
    exact ⟨he, f1, fin w' v' U f1.out f2.out f3.out fun k h => Or.inl h⟩
  · refine (dadd_plain c.X c.C c.fv c.vars regs c.once U cv items op A b d l ab an ac w h1 h2 hl hav hil hC A (by omega) rfl ⟨o3, o8⟩).mono fun e w' h => ?_
    obtain ⟨he, v', f1, f2, f3⟩ := h
    refine ⟨he, f1, fin w' v' _ f1.out f2.out f3.out fun k h => ?_⟩
    by_cases e : k = A
    · by_cases i : op = 5 ∨ op = 4 ∨ op = 7
      · exact Or.inr ⟨e, decide_eq_true i⟩
      · unfold addU at h
        rw [if_pos e, if_neg i] at h
        split at h
        · cases h
        · exact Or.inl h
    · rw [addU_other op U e] at h
      exact Or.inl h

end Go.Proofs.YtbmenihakkogkabGreatDoor

namespace Go.Proofs.YtbmenihakkogkabGreatDoor
open Go.RowKit Go.Maps

/-- A reader: box B says how many tokens were read, box E holds the tokens. -/
structure RdAt (N B E : Nat) (ve : Value) (n : Nat) (k z : Nat → Int) (a : Nat) (w : World) : Prop where
  box : w.heap[B]? = some (.cells #[.int .i64 a] 3 (0, 0))
  row : w.heap[E]? = some (.cells #[ve] 80 (0, 0))
  toks : ToksAt N w ve n k z
  low : N ≤ B
  lowE : N ≤ E
  nw : N ≤ w.heap.size

theorem RdAt.ne {N B E : Nat} {ve : Value} {n : Nat} {k z : Nat → Int} {a : Nat} {w : World} (h : RdAt N B E ve n k z a w) : ¬ E = B := by
  intro e
  have h1 := h.box
  rw [← e, h.row] at h1
  injection h1 with h1
  injection h1 with _ e _
  exact absurd e (by decide)

def rdV (B E : Nat) : Value := .func (.func 242) #[] #[.pointer (some ⟨B, 0, none⟩), .pointer (some ⟨E, 0, none⟩)]

set_option maxHeartbeats 2000000 in
theorem creader (N : Nat) (ve : Value) (n : Nat) (k z : Nat → Int) (w : World) (h : ToksAt N w ve n k z) (hN : N ≤ w.heap.size) :
    Calls Tryz.prog 230 #[ve] w fun e w' => ∃ B E, e = .returned (.func (.func 242) #[] #[.pointer (some ⟨B, 0, none⟩), .pointer (some ⟨E, 0, none⟩)]) ∧ Hid (Below w.heap.size w w') ∧ Hid (RdAt N B E ve n k z 0 w') ∧ Hid (w.heap.size ≤ B) := by
  obtain ⟨a, cap, rfl, hr⟩ := h
  have HT : Hid (ToksAt N w (.slice a n cap) n k z) := ⟨a, cap, rfl, hr⟩
  clear hr
  go_enter Tryz.func230, Tryz.ntmps230
  go_wp2_with fail
  go_ret
  have hb : Below w.heap.size w ((w.alloc (.cells #[.slice a n cap] 80)).alloc (.cells #[.int .i64 0] 3)) := below_step (below_alloc w _) (below_alloc _ _)
  refine ⟨w.heap.size + 1, w.heap.size, rfl, hb, ⟨?_, ?_, HT.out.below (hb.mono hN), by omega, hN, by have := hb.size; omega⟩, (by show _ ≤ _; omega)⟩
  · have := heap_alloc_new (w.alloc (.cells #[.slice a n cap] 80)) (.cells #[.int .i64 0] 3)
    have e : (w.alloc (.cells #[.slice a n cap] 80)).heap.size = w.heap.size + 1 := by simp
    rw [e] at this
    exact this
  · rw [(below_alloc (w.alloc (.cells #[.slice a n cap] 80)) _).block w.heap.size (by simp)]
    exact heap_alloc_new w _

set_option maxHeartbeats 2000000 in
theorem creader1 (N B E : Nat) (ve : Value) (n : Nat) (k z : Nat → Int) (a : Nat) (w : World) (h : RdAt N B E ve n k z a w) (ha : a < n) (hn : n ≤ 24) :
    Calls Tryz.prog 242 #[.pointer (some ⟨B, 0, none⟩), .pointer (some ⟨E, 0, none⟩)] w fun e w' => e = .returned (.agg #[.int .i64 (k a), .int .i64 (z a)]) ∧ Hid (Save B w w') ∧ Hid (RdAt N B E ve n k z (a + 1) w') := by
  have HR : Hid (RdAt N B E ve n k z a w) := h
  have hne := h.ne
  obtain ⟨b1, b2, ht, low, lowE, nw⟩ := h
  obtain ⟨ad, cap, rfl, hr, hz | ⟨g, o', rfl, hg, hc⟩⟩ := ht
  · omega
  obtain ⟨q1, q2⟩ := hc a ha
  have hBl : B < w.heap.size := (Array.getElem?_eq_some_iff.1 b1).1
  have hEl : E < w.heap.size := (Array.getElem?_eq_some_iff.1 b2).1
  have hgl : g < w.heap.size := by omega
  have kB : w.cell? ⟨B, 0, none⟩ = some (.int .i64 a) := by unfold World.cell?; rw [b1]; rfl
  have kF : w.frozen? ⟨B, 0, none⟩ = false := by unfold World.frozen?; rw [b1]; rfl
  have hw : IntKind.i64.wrap ((a : Int) + 1) = (a : Int) + 1 := Go.IntWalk.i64_in _ (by omega)
  have hw2 : IntKind.i64.wrap ((a : Int) + 1 - 1) = (a : Int) := by rw [show (a : Int) + 1 - 1 = a by omega]; exact Go.IntWalk.i64_in _ (by omega)
  have hgB : ¬ g = B := by omega
  have kb : ∀ (v : Value) (q : Nat), ¬ q = B → (w.setCell ⟨B, 0, none⟩ v).heap[q]? = w.heap[q]? := fun v q hn => Below.heap_setCell _ ⟨B, 0, none⟩ v q hn
  have kE : ∀ v, (w.setCell ⟨B, 0, none⟩ v).cell? ⟨E, 0, none⟩ = some (.slice (some ⟨g, o', none⟩) n cap) := fun v => by
    unfold World.cell?; rw [kb v E hne, b2]; rfl
  have kB2 : ∀ v, (w.setCell ⟨B, 0, none⟩ v).cell? ⟨B, 0, none⟩ = some v := fun v => by
    unfold World.cell?; rw [heap_setCell_same _ B 0 _ _ v b1]; rfl
  have q1 : ∀ v, (w.setCell ⟨B, 0, none⟩ v).cell? ⟨g, o' + a * 2, none⟩ = some (.int .i64 (k a)) := fun v => by
    rw [World.cell?_of_block (w := w) (a := ⟨g, o' + a * 2, none⟩) (kb v g hgB)]; exact q1
  have q2 : ∀ v, (w.setCell ⟨B, 0, none⟩ v).cell? ⟨g, o' + a * 2 + 1, none⟩ = some (.int .i64 (z a)) := fun v => by
    rw [World.cell?_of_block (w := w) (a := ⟨g, o' + a * 2 + 1, none⟩) (kb v g hgB)]; exact q2
  have HS : Hid (∀ o, Save B w ((w.setCell ⟨B, 0, none⟩ (.int .i64 ((a : Int) + 1))).alloc o) ∧ RdAt N B E (.slice (some ⟨g, o', none⟩) n cap) n k z (a + 1) ((w.setCell ⟨B, 0, none⟩ (.int .i64 ((a : Int) + 1))).alloc o)) := fun o => by
    have hb : Below B w (w.setCell ⟨B, 0, none⟩ (.int .i64 ((a : Int) + 1))) := (Below.refl B _).setCell (Nat.le_refl _) _
    have hs1 : Save B w (w.setCell ⟨B, 0, none⟩ (.int .i64 ((a : Int) + 1))) := ⟨hb.os, hb.tape, hb.output, hb.size, fun q hq hn => kb _ q hn⟩
    have hs := hs1.trans (Save.alloc B _ o)
    have hz := hb.size
    have hal := below_alloc (w.setCell ⟨B, 0, none⟩ (.int .i64 ((a : Int) + 1))) o
    refine ⟨hs, ?_, ?_, HR.out.toks.below (hs.low low nw), low, lowE, Nat.le_trans nw hs.size⟩
    · rw [hal.block B (by omega), heap_setCell_same _ B 0 _ _ _ b1]; rfl
    · rw [hal.block E (by omega), kb _ E hne]; exact b2
  clear hc b1 b2 kb
  go_enter Tryz.func242, Tryz.ntmps242
  go_wp2_with fail
  have hcc : ∀ cs : Array Value, ((w.setCell ⟨B, 0, none⟩ (.int .i64 ((a : Int) + 1))).alloc (.cells cs 89)).heap[w.heap.size]? = some (.cells cs 89 (0, 0)) := fun cs => by
    have := heap_alloc_new (w.setCell ⟨B, 0, none⟩ (.int .i64 ((a : Int) + 1))) (.cells cs 89)
    rw [show (w.setCell ⟨B, 0, none⟩ (.int .i64 ((a : Int) + 1))).heap.size = w.heap.size by simp [World.setCell]] at this
    exact this
  refine bodyPost_ret (results_cell_row rfl _ _ w.heap.size 89 _ (0, 0) _ rfl (hcc _) Tryz.underlying89 rfl (by kernel_rfl)) rfl ?_
  exact ⟨rfl, (HS.out _).1, (HS.out _).2⟩

end Go.Proofs.YtbmenihakkogkabGreatDoor

namespace Go.Proofs.YtbmenihakkogkabGreatDoor
open Go.RowKit Go.Maps

/-- What is known of a draft, its registers and marks in sight. -/
def DVx (c : DC) (w : World) (regs : Nat) (U : Nat → Bool) (items : List (List Int × Value)) : Prop :=
  ∃ cv : Value, DAt c.X w c.fv c.vars regs c.once U cv ∧ CodeRow c.C w cv items ∧ regs ≤ c.vars + 17 ∧ und regs (items.map (·.1)) ∧ (∀ k, U k = true → k < regs) ∧ c.C ≤ w.heap.size ∧ c.vars ≤ 6 ∧ c.C ≤ c.X

theorem DV.x {c : DC} {w : World} {cl : Bool} {items : List (List Int × Value)} (h : DV c w cl items) : ∃ regs U, DVx c w regs U items ∧ (cl = true → ∀ k, c.vars ≤ k → U k = false) := by
  obtain ⟨r, U, cv, h1, h2, h3, h4, h5, h6, h7⟩ := h
  exact ⟨r, U, ⟨cv, h1, h2, h3, h4, h5, h7⟩, h6⟩
theorem DVx.v {c : DC} {w : World} {regs : Nat} {U : Nat → Bool} {items : List (List Int × Value)} (h : DVx c w regs U items) {cl : Bool} (hc : cl = true → ∀ k, c.vars ≤ k → U k = false) : DV c w cl items := by
  obtain ⟨cv, h1, h2, h3, h4, h5, h7⟩ := h
  exact ⟨regs, U, cv, h1, h2, h3, h4, h5, hc, h7⟩

theorem DVx.cells {c : DC} {w : World} {regs : Nat} {U : Nat → Bool} {items : List (List Int × Value)} (h : DVx c w regs U items) : ∃ cur : Array Value, w.heap[c.X]? = some (.cells cur 174 (0, 0)) ∧ cur.size = 45 ∧ cur[2]? = some (.int .i64 regs) ∧ ∀ k, k < 40 → ∃ m, cur[3 + k]? = some (.bool m) ∧ (m = true → U k = true) := by
  obtain ⟨cv, ⟨cur, h0, h1, h2, h3, h4, h5, h6, h7⟩, _⟩ := h
  exact ⟨cur, h0, h1, h4, h5⟩

/-- A mark that is not there isn't there. -/
theorem DVx.sharp {c : DC} {w : World} {regs : Nat} {U : Nat → Bool} {items : List (List Int × Value)} (h : DVx c w regs U items) {r : Nat} {cur : Array Value} (h0 : w.heap[c.X]? = some (.cells cur 174 (0, 0))) (hm : cur[3 + r]? = some (.bool false)) : DVx c w regs (fun k => if k = r then false else U k) items := by
  obtain ⟨cv, ⟨cur', h0', h1, h2, h3, h4, h5, h6, h7⟩, g2, g3, g4, g5, g6⟩ := h
  rw [h0] at h0'
  injection h0' with e
  injection e with e _ _
  subst e
  refine ⟨cv, ⟨cur, h0, h1, h2, h3, h4, fun k hk => ?_, h6, h7⟩, g2, g3, g4, fun k hk => ?_, g6⟩
  · obtain ⟨m, a1, a2⟩ := h5 k hk
    refine ⟨m, a1, fun hmt => ?_⟩
    by_cases e : k = r
    · subst e
      rw [hm] at a1
      injection a1 with a1
      injection a1 with a1
      rw [← a1] at hmt
      cases hmt
    · simp only [if_neg e]; exact a2 hmt
  · by_cases e : k = r
    · subst e; simp at hk
    · simp only [if_neg e] at hk; exact g5 k hk

/-- A register is cleared. -/
theorem dadd_num (c : DC) (regs : Nat) (U : Nat → Bool) (items : List (List Int × Value)) (A : Nat) (w : World) (h : DVx c w regs U items) (hA : A < regs) (hil : items.length ≤ 100000) :
    Calls Tryz.prog 171 #[.pointer (some ⟨c.X, 0, none⟩), .agg #[.int .i64 1, .int .i64 A, .int .i64 0, .int .i64 0, .slice none 0 0]] w fun e w' => (∃ v, e = .returned v) ∧ Hid (DFr c.X c.C w w') ∧ Hid (DVx c w' regs (fun k => if k = A then false else U k) (items ++ [([1, (A : Int), 0, 0], .slice none 0 0)])) := by
  obtain ⟨cv, h1, h2, hr, hu, hk, hC, hv, hX⟩ := h
  refine (dadd_plain c.X c.C c.fv c.vars regs c.once U cv items 1 A 0 0 [1, (A : Int), 0, 0] none 0 0 w h1 h2 ⟨rfl, rfl, rfl, rfl⟩ ⟨none, 0, rfl, by simp, Or.inl rfl⟩ hil hC A (by omega) rfl ⟨by decide, by decide⟩).mono fun e w' h => ?_
  obtain ⟨he, v', f1, f2, f3⟩ := h
  have em : max (regs : Int) ((A : Int) + 1) = (regs : Int) := by omega
  rw [em] at f2
  have eU : addU 1 A U = fun k => if k = A then false else U k := by
    funext k
    unfold addU
    simp
  rw [eU] at f2
  refine ⟨he, f1, v', f2.out, f3.out, hr, ?_, fun k hk2 => ?_, Nat.le_trans hC f1.out.size, hv, hX⟩
  · rw [List.map_append, und_app]
    refine ⟨hu, fun i hi => ?_⟩
    simp only [List.map_cons, List.map_nil, List.mem_singleton] at hi
    subst hi
    show 0 ≤ (A : Int) ∧ (A : Int) < regs
    omega
  · by_cases e : k = A
    · subst e; exact hA
    · simp only [if_neg e] at hk2; exact hk k hk2

/-- What clear does. -/
def ClearP (c : DC) (fr : Nat) (cl : Bool) (items : List (List Int × Value)) (w w' : World) : Prop :=
  ∃ (its : List (List Int × Value)) (L : List Nat), DFr c.X c.C w w' ∧ DV c w' (cl || decide (fr = c.vars)) (items ++ its) ∧ its.map (·.1) = clr L ∧ (∀ r ∈ L, fr ≤ r) ∧ L.length ≤ c.vars + 17 - fr ∧ (cl = true → c.vars ≤ fr → its = [])

theorem clr_off {its : List (List Int × Value)} {L : List Nat} (h : its.map (·.1) = clr L) (B : Nat) : offs B its := fun x hx => by
  have : x.1 ∈ its.map (·.1) := List.mem_map.2 ⟨x, hx, rfl⟩
  rw [h] at this
  obtain ⟨r, _, e⟩ := List.mem_map.1 this
  rw [← e]
  exact Or.inl rfl

set_option maxRecDepth 20000 in
set_option maxHeartbeats 4000000 in
theorem dclear (c : DC) (fr : Nat) (cl : Bool) (items : List (List Int × Value)) (w : World) (hD : DV c w cl items) (hf : fr ≤ 60) (hil : items.length + 40 ≤ 100000) :
    Calls Tryz.prog 206 #[.pointer (some ⟨c.X, 0, none⟩), .int .i64 fr] w fun e w' => (∃ v, e = .returned v) ∧ Hid (ClearP c fr cl items w w') := by
  obtain ⟨regs, U, hx, hcl⟩ := hD.x
  have hr : regs ≤ c.vars + 17 ∧ c.vars ≤ 6 := by
    obtain ⟨_, _, _, h3, _, _, _, h7, _⟩ := hx
    exact ⟨h3, h7⟩
  have HX : Hid (DVx c w regs U items) := hx
  have HCl : Hid (cl = true → ∀ k, c.vars ≤ k → U k = false) := hcl
  clear hx hcl hD
  go_enter Tryz.func206, Tryz.ntmps206
  go_wp2_with fail
  go_loopw [4] (fun i wr => ∃ (r : Nat) (its : List (List Int × Value)) (L : List Nat) (U' : Nat → Bool), i = .int .i64 r ∧ fr ≤ r ∧ r ≤ max fr regs ∧ its.length ≤ r - fr ∧ Hid (DFr c.X c.C w wr) ∧ Hid (DVx c wr regs U' (items ++ its)) ∧ Hid (its.map (·.1) = clr L ∧ (∀ x ∈ L, fr ≤ x) ∧ L.length ≤ r - fr ∧ (∀ k, U' k = true → U k = true) ∧ (∀ k, fr ≤ k → k < r → U' k = false) ∧ (cl = true → c.vars ≤ fr → its = []))) (fun i _ => regs - (intOf i).toNat)
  case atStart => exact ⟨fr, [], [], U, rfl, Nat.le_refl _, by omega, by simp, DFr.refl _ _ _, (by show DVx _ _ _ _ _; rw [List.append_nil]; exact HX.out), rfl, fun x hx => (by cases hx), by simp, fun k h => h, fun k h1 h2 => (by omega), fun _ _ => rfl⟩
  case round =>
    obtain ⟨r, its, L, U', rfl, hr1, hr2, hitl, HF, HV, HL⟩ := hrel
    obtain ⟨cur, h0, hcs, c2, c3⟩ := HV.out.cells
    have HX0 : Hid (wr.heap[c.X]? = some (.cells cur 174 (0, 0))) := h0
    have k2 : wr.cell? ⟨c.X, 2, none⟩ = some (.int .i64 regs) := by unfold World.cell?; rw [h0]; exact c2
    have hw : IntKind.i64.wrap ((r : Int) + 1) = (r : Int) + 1 := Go.IntWalk.i64_in _ (by omega)
    by_cases hlt : r < regs
    · obtain ⟨m, hm, hmU⟩ := c3 r (by omega)
      have k3 : wr.cell? ⟨c.X, 3 + r, none⟩ = some (.bool m) := by unfold World.cell?; rw [h0]; exact hm
      have HM : Hid (cur[3 + r]? = some (.bool m) ∧ (m = true → U' r = true)) := ⟨hm, hmU⟩
      have hi0 : (0 : Int) ≤ (r : Int) := by omega
      have hi1 : (r : Int) < 40 := by omega
      have hi2 : (r : Int) < (regs : Int) := by omega
      clear c2 c3 hm hmU h0
      cases m with
      | true =>
        have HC : Hid (Calls Tryz.prog 171 #[.pointer (some ⟨c.X, 0, none⟩), .agg #[.int .i64 1, .int .i64 r, .int .i64 0, .int .i64 0, .slice none 0 0]] wr fun e w' => (∃ v, e = .returned v) ∧ Hid (DFr c.X c.C wr w') ∧ Hid (DVx c w' regs (fun k => if k = r then false else U' k) ((items ++ its) ++ [([1, (r : Int), 0, 0], .slice none 0 0)]))) :=
          dadd_num c regs U' (items ++ its) r wr HV.out hlt (by rw [List.length_append]; omega)
        go_wp2_with (go_at_call 171; refine HC.out.mono ?_; rintro e w1 ⟨⟨v, rfl⟩, F1, V1⟩)
        go_round
        case rel =>
          refine ⟨r + 1, its ++ [([1, (r : Int), 0, 0], .slice none 0 0)], L ++ [r], _, rfl, by omega, by omega, by simp; omega, HF.out.trans F1.out, (by rw [← List.append_assoc]; exact V1.out), ?_⟩
          obtain ⟨a1, a2, a3, a4, a5, a6⟩ := HL.out
          refine ⟨by rw [List.map_append, a1]; simp [clr], fun x hx => ?_, by simp; omega, fun k hk => ?_, fun k h1 h2 => ?_, fun h1 h2 => ?_⟩
          · rcases List.mem_append.1 hx with hx | hx
            · exact a2 x hx
            · rw [List.mem_singleton] at hx; omega
          · by_cases e : k = r
            · simp [e] at hk
            · simp only [if_neg e] at hk; exact a4 k hk
          · by_cases e : k = r
            · simp [e]
            · simp only [if_neg e]; exact a5 k h1 (by omega)
          · exfalso
            have := a4 r (HM.out.2 trivial)
            rw [HCl.out h1 r (by omega)] at this
            cases this
        case measure => simp [intOf]; omega
      | false =>
        go_wp2_with fail
        go_round
        case rel =>
          refine ⟨r + 1, its, L, _, rfl, by omega, by omega, by omega, HF, HV.out.sharp HX0.out HM.out.1, ?_⟩
          obtain ⟨a1, a2, a3, a4, a5, a6⟩ := HL.out
          refine ⟨a1, a2, by omega, fun k hk => ?_, fun k h1 h2 => ?_, a6⟩
          · by_cases e : k = r
            · simp [e] at hk
            · simp only [if_neg e] at hk; exact a4 k hk
          · by_cases e : k = r
            · simp [e]
            · simp only [if_neg e]; exact a5 k h1 (by omega)
        case measure => simp [intOf]; omega
    · have hi2 : ¬ (r : Int) < (regs : Int) := by omega
      clear c2 c3 h0
      go_wp2_with fail
      go_end0
      refine ⟨⟨_, rfl⟩, its, L, HF.out, HV.out.v fun h k hk => ?_, ?_⟩
      · obtain ⟨a1, a2, a3, a4, a5, a6⟩ := HL.out
        cases e : U' k
        · rfl
        · exfalso
          have hkr : k < regs := by
            obtain ⟨_, _, _, _, _, g5, _⟩ := HV.out
            exact g5 k e
          simp only [Bool.or_eq_true, decide_eq_true_eq] at h
          rcases h with h | h
          · have := a4 k e
            rw [HCl.out h k hk] at this
            cases this
          · rw [a5 k (by omega) (by omega)] at e
            cases e
      · obtain ⟨a1, a2, a3, a4, a5, a6⟩ := HL.out
        exact ⟨a1, a2, by omega, a6⟩

end Go.Proofs.YtbmenihakkogkabGreatDoor
