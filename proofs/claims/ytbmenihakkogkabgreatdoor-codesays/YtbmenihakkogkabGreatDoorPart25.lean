/- The expression that is read next: value, reckon, values. A jump, and where it lands: jump, and its closure. A jump, and where it lands: the walks. The expressions that are read next, one by one: values. -/
import Derived.Test.YtbmenihakkogkabGreatDoorPart24
import Derived.Deep.RegionHeld3
namespace Go.Proofs.YtbmenihakkogkabGreatDoor
open Go.RowKit Go.Maps

/-- What is fixed while an expression is laid. -/
structure VC where
  c : DC
  N : Nat
  B : Nat
  E : Nat
  ve : Value
  n : Nat
  k : Nat → Int
  z : Nat → Int
  nf : Nat
  par : Nat → Int
  loc : Nat → Int
  bv : Nat → Value

/-- The expression is right, the functions are. -/
structure VOK (v : VC) : Prop where
  n24 : v.n ≤ 24
  tok : ∀ j, j < v.n → tokErr (v.k j) (v.z j) v.nf v.c.vars = 0
  ask : ∀ j, j < v.n → 1 ≤ asked v.k v.z v.par j
  done : asked v.k v.z v.par v.n = 0
  par : ∀ i, i < v.nf → 0 ≤ v.par i ∧ v.par i ≤ 3
  low : v.N ≤ v.c.C

/-- The draft has these instructions, the reader has read so many tokens. -/
structure VW (v : VC) (a : Nat) (items : List (List Int × Value)) (w : World) : Prop where
  dv : DV v.c w false items
  off : offs v.B items
  rd : RdAt v.N v.B v.E v.ve v.n v.k v.z a w
  funs : FunsAt v.N w v.c.fv v.nf v.par v.loc v.bv

theorem VW.bx {v : VC} {a : Nat} {items : List (List Int × Value)} {w : World} (h : VW v a items w) : ¬ v.B = v.c.X := by
  obtain ⟨cur, h0, _⟩ := h.dv.xt
  intro e
  have h1 := h.rd.box
  rw [e, h0] at h1
  injection h1 with h1
  injection h1 with _ e _
  exact absurd e (by decide)
theorem VW.ex {v : VC} {a : Nat} {items : List (List Int × Value)} {w : World} (h : VW v a items w) : ¬ v.E = v.c.X := by
  obtain ⟨cur, h0, _⟩ := h.dv.xt
  intro e
  have h1 := h.rd.row
  rw [e, h0] at h1
  injection h1 with h1
  injection h1 with _ e _
  exact absurd e (by decide)

/-- A token is read. -/
theorem VW.read {v : VC} {a a' : Nat} {items : List (List Int × Value)} {w w' : World} (h : VW v a items w) (hs : Save v.B w w') (hr : RdAt v.N v.B v.E v.ve v.n v.k v.z a' w') : VW v a' items w' :=
  ⟨h.dv.save h.off h.rd.box hs, h.off, hr, h.funs.below (hs.low h.rd.low h.rd.nw)⟩

/-- Instructions are added. -/
theorem VW.more {v : VC} {a : Nat} {items its : List (List Int × Value)} {w w' : World} (h : VW v a items w) (ok : VOK v) (hf : DFr v.c.X v.c.C w w') {cl : Bool} (hd : DV v.c w' cl (items ++ its)) (ho : offs v.B its) : VW v a (items ++ its) w' := by
  have hx := h.dv.xlt
  have hb : Below v.N w w' := hf.low (Nat.le_trans ok.low hx.2.2.2) ok.low h.rd.nw
  refine ⟨hd.weak, offs_app h.off ho, ⟨hf.block v.B _ h.rd.box h.bx (Or.inr fun c e => ?_), hf.block v.E _ h.rd.row h.ex (Or.inr fun c e => ?_), h.rd.toks.below hb, h.rd.low, h.rd.lowE, Nat.le_trans h.rd.nw hf.size⟩, h.funs.below hb⟩
  · injection e with _ e _; exact absurd e (by decide)
  · injection e with _ e _; exact absurd e (by decide)

/-- Nothing that was there has changed. -/
theorem VW.of {v : VC} {a : Nat} {items : List (List Int × Value)} {w w' : World} (h : VW v a items w) (hb : Below w.heap.size w w') : VW v a items w' := by
  have hb2 := hb.mono h.rd.nw
  have g : ∀ k o, w.heap[k]? = some o → w'.heap[k]? = some o := fun k o hk => by rw [hb.block k (Array.getElem?_eq_some_iff.1 hk).1]; exact hk
  exact ⟨h.dv.of hb, h.off, ⟨g _ _ h.rd.box, g _ _ h.rd.row, h.rd.toks.below hb2, h.rd.low, h.rd.lowE, Nat.le_trans h.rd.nw hb.size⟩, h.funs.below hb2⟩

/-- A box of another kind has changed. -/
theorem DV.put {c : DC} {w : World} {cl : Bool} {items : List (List Int × Value)} (h : DV c w cl items) {O i : Nat} {cur : Array Value} {t : TypeId} (hO : w.heap[O]? = some (.cells cur t (0, 0))) (h1 : ¬ 106 = t) (h2 : ¬ 3 = t) (h3 : ¬ t = 174) (x : Value) : DV c (w.setCell ⟨O, i, none⟩ x) cl items := by
  obtain ⟨r, U, cv, ⟨cx, x0, hr⟩, g2, g3, g4, g5, g6, g7, g8⟩ := h
  have hb : Below O w (w.setCell ⟨O, i, none⟩ x) := (Below.refl O w).setCell (Nat.le_refl _) _
  refine ⟨r, U, cv, ⟨cx, ?_, hr⟩, g2.stay (Keeps.set hO x h1) (Keeps.set hO x h2), g3, g4, g5, g6, Nat.le_trans g7 hb.size, g8⟩
  rw [Below.heap_setCell w _ _ c.X ?_]
  · exact x0
  · intro e
    have e : c.X = O := e
    rw [e, hO] at x0
    injection x0 with e; injection e with _ e _; exact absurd e h3

theorem VW.put {v : VC} {a : Nat} {items : List (List Int × Value)} {w : World} (h : VW v a items w) {O i : Nat} {cur : Array Value} (hO : w.heap[O]? = some (.cells cur 304 (0, 0))) (hN : v.N ≤ O) (x : Value) : VW v a items (w.setCell ⟨O, i, none⟩ x) := by
  have hb : Below O w (w.setCell ⟨O, i, none⟩ x) := (Below.refl O w).setCell (Nat.le_refl _) _
  have hb2 := hb.mono hN
  have g : ∀ (k : Nat) (cu : Array Value) (t : TypeId), w.heap[k]? = some (.cells cu t (0, 0)) → ¬ t = 304 → (w.setCell ⟨O, i, none⟩ x).heap[k]? = some (.cells cu t (0, 0)) := fun k cu t hk ht => by
    rw [Below.heap_setCell w _ _ k ?_]
    · exact hk
    · intro e
      have e : k = O := e
      rw [e, hO] at hk
      injection hk with e; injection e with _ e _; exact absurd e.symm ht
  exact ⟨h.dv.put hO (by decide) (by decide) (by decide) x, h.off, ⟨g _ _ _ h.rd.box (by decide), g _ _ _ h.rd.row (by decide), h.rd.toks.below hb2, h.rd.low, h.rd.lowE, Nat.le_trans h.rd.nw hb.size⟩, h.funs.below hb2⟩

/-- What is so when an expression is laid. -/
def ValP (v : VC) (a free : Nat) (items : List (List Int × Value)) (w w' : World) (r : Nat) : Prop :=
  ∃ (a' : Nat) (its : List (List Int × Value)), DFb v.c.X v.B v.c.C w w' ∧ VW v a' (items ++ its) w' ∧ a' ≤ v.n ∧ VS v.k v.z v.par v.c.once a a' free [r] (its.map (·.1))
def ValsP (v : VC) (a free cnt : Nat) (items : List (List Int × Value)) (w w' : World) (r0 r1 r2 : Nat) : Prop :=
  ∃ (a' : Nat) (its : List (List Int × Value)), DFb v.c.X v.B v.c.C w w' ∧ VW v a' (items ++ its) w' ∧ a' ≤ v.n ∧ VS v.k v.z v.par v.c.once a a' free ([r0, r1, r2].take cnt) (its.map (·.1))
def RekP (v : VC) (a tt free : Nat) (items : List (List Int × Value)) (w w' : World) : Prop :=
  ∃ (a' : Nat) (its : List (List Int × Value)), DFb v.c.X v.B v.c.C w w' ∧ VW v a' (items ++ its) w' ∧ a' ≤ v.n ∧ RK v.k v.z v.par v.c.once a a' tt free (its.map (·.1))

/-- What value does, where no more than m tokens are left. -/
def ValC (v : VC) (m : Nat) : Prop := ∀ (a free : Nat) (items : List (List Int × Value)) (w : World), v.n - a ≤ m → a < v.n → v.c.vars ≤ free → free + peak (v.n - a) ≤ v.c.vars + 17 → items.length + 41 * (v.n - a) + 100 ≤ 100000 → VW v a items w →
  Calls Tryz.prog 229 #[.pointer (some ⟨v.c.X, 0, none⟩), .func (.func 242) #[] #[.pointer (some ⟨v.B, 0, none⟩), .pointer (some ⟨v.E, 0, none⟩)], .int .i64 free] w fun e w' => ∃ r : Nat, e = .returned (.int .i64 r) ∧ Hid (ValP v a free items w w' r)

/-- What values does. -/
def ValsC (v : VC) (m : Nat) : Prop := ∀ (a free cnt : Nat) (items : List (List Int × Value)) (w : World), cnt ≤ 3 → v.n - a ≤ m → a ≤ v.n → (cnt : Int) ≤ asked v.k v.z v.par a → v.c.vars ≤ free → free + peak (v.n - a + 1) ≤ v.c.vars + 17 → items.length + 41 * (v.n - a) + 100 ≤ 100000 → VW v a items w →
  Calls Tryz.prog 246 #[.pointer (some ⟨v.c.X, 0, none⟩), .int .i64 cnt, .func (.func 242) #[] #[.pointer (some ⟨v.B, 0, none⟩), .pointer (some ⟨v.E, 0, none⟩)], .int .i64 free] w fun e w' => ∃ r0 r1 r2 : Nat, e = .returned (.agg #[.int .i64 r0, .int .i64 r1, .int .i64 r2]) ∧ Hid (ValsP v a free cnt items w w' r0 r1 r2)

/-- What reckon does, behind the token at a. -/
def RekC (v : VC) (m : Nat) : Prop := ∀ (a tt free : Nat) (items : List (List Int × Value)) (w : World), v.n - a ≤ m + 1 → a < v.n → ¬ v.k a = 2 → v.c.vars ≤ free → tt ≤ free → free + peak (v.n - a) ≤ v.c.vars + 17 → items.length + 41 * (v.n - a) + 100 ≤ 100000 → VW v (a + 1) items w →
  Calls Tryz.prog 241 #[.pointer (some ⟨v.c.X, 0, none⟩), .agg #[.int .i64 (v.k a), .int .i64 (v.z a)], .func (.func 242) #[] #[.pointer (some ⟨v.B, 0, none⟩), .pointer (some ⟨v.E, 0, none⟩)], .int .i64 tt, .int .i64 free] w fun e w' => (∃ u, e = .returned u) ∧ Hid (RekP v a tt free items w w')

end Go.Proofs.YtbmenihakkogkabGreatDoor

namespace Go.Proofs.YtbmenihakkogkabGreatDoor
open Go.RowKit Go.Maps

theorem flatI_land : ∀ (items : List (List Int × Value)) (p : Nat) (l : List Int) (av : Value) (b : Int), items[p]? = some (l, av) → 4 ≤ l.length → flatI (items.set p (l.set 2 b, av)) = (flatI items).set (p * 5 + 2) (.int .i64 b)
  | [], p, l, av, b, h, _ => by cases h
  | x :: items, 0, l, av, b, h, hl => by
    simp only [List.getElem?_cons_zero, Option.some.injEq] at h
    subst h
    obtain ⟨l0, l1, l2, l3, t, rfl⟩ : ∃ l0 l1 l2 l3 t, l = l0 :: l1 :: l2 :: l3 :: t := by
      rcases l with _ | ⟨l0, _ | ⟨l1, _ | ⟨l2, _ | ⟨l3, t⟩⟩⟩⟩
      · simp at hl
      · simp at hl
      · simp at hl
      · simp at hl
      · exact ⟨l0, l1, l2, l3, t, rfl⟩
    simp [flatI]
  | x :: items, p + 1, l, av, b, h, hl => by
    have ih := flatI_land items p l av b (by simpa using h) hl
    rw [List.set_cons_succ, flatI, ih, flatI]
    rw [List.set_append_right _ _ (by simp only [List.length_cons, List.length_nil]; omega)]
    congr 2
    simp only [List.length_cons, List.length_nil]; omega

theorem CodeRow.land {C : Nat} {w : World} {v : Value} {items : List (List Int × Value)} (h : CodeRow C w v items) {p : Nat} {l : List Int} {av : Value} (hp : items[p]? = some (l, av)) (hl : 4 ≤ l.length) (b : Int) :
    ∃ g cap cur, v = .slice (some ⟨g, 0, none⟩) items.length cap ∧ C ≤ g ∧ w.heap[g]? = some (.cells cur 106 (0, 0)) ∧ p * 5 + 2 < cur.size ∧ CodeRow C (w.setCell ⟨g, p * 5 + 2, none⟩ (.int .i64 b)) v (items.set p (l.set 2 b, av)) := by
  have hpl : p < items.length := (List.getElem?_eq_some_iff.1 hp).1
  obtain ⟨h1, h2⟩ := h
  rcases h1.2 with ⟨rfl, h0⟩ | ⟨g, cap, cur, rfl, a1, a2, a3, a4, a5, a6⟩
  · omega
  have hsz : p * 5 + 2 < cur.size := by
    have : items.length * 5 ≤ cap * 5 := Nat.mul_le_mul_right 5 a3
    omega
  have k3 : Keeps 3 w (w.setCell ⟨g, p * 5 + 2, none⟩ (.int .i64 b)) := Keeps.set a2 _ (by decide)
  refine ⟨g, cap, cur, rfl, a1, a2, hsz, ⟨by rw [List.length_set, flatI_len, List.length_set], Or.inr ⟨g, cap, cur.setIfInBounds (p * 5 + 2) (.int .i64 b), by rw [List.length_set], a1, heap_setCell_same w g _ _ _ _ a2, by rw [List.length_set]; exact a3, a4, by simp [a5], ?_⟩⟩, fun x hx => ?_⟩
  · rw [List.length_set, Array.toList_setIfInBounds, List.take_set, a6, flatI_land items p l av b hp hl]
  · rcases List.mem_or_eq_of_mem_set hx with hx | rfl
    · exact (h2 x hx).stay k3
    · have := (h2 (l, av) (List.mem_of_getElem? hp)).stay k3
      have e : (fun j => (l.set 2 b).getD (j + 4) 0) = fun j => l.getD (j + 4) 0 := by
        funext j
        rw [List.getD_eq_getElem?_getD, List.getD_eq_getElem?_getD, List.getElem?_set_ne (by omega)]
      show ArgsAt _ av ((l.set 2 b).length - 4) (fun j => (l.set 2 b).getD (j + 4) 0)
      rw [List.length_set, e]
      exact this

/-- A jump that lands: its draft is in box D, its place in box P. -/
structure LandAt (c : DC) (D P p : Nat) (w : World) : Prop where
  d : w.heap[D]? = some (.cells #[.pointer (some ⟨c.X, 0, none⟩)] 170 (0, 0))
  p : w.heap[P]? = some (.cells #[.int .i64 p] 3 (0, 0))

theorem LandAt.keep {c : DC} {D P p : Nat} {w w' : World} (h : LandAt c D P p w) {cl : Bool} {items : List (List Int × Value)} (hD : DV c w cl items) (hf : DFr c.X c.C w w') : LandAt c D P p w' := by
  obtain ⟨cur, hX, _⟩ := hD.xt
  refine ⟨hf.block D _ h.d ?_ (Or.inr fun c e => ?_), hf.block P _ h.p ?_ (Or.inr fun c e => ?_)⟩
  · intro e
    have := h.d
    rw [e, hX] at this
    injection this with e; injection e with _ e _; exact absurd e (by decide)
  · injection e with _ e _; exact absurd e (by decide)
  · intro e
    have := h.p
    rw [e, hX] at this
    injection this with e; injection e with _ e _; exact absurd e (by decide)
  · injection e with _ e _; exact absurd e (by decide)

theorem DV.land {c : DC} {w : World} {cl : Bool} {items : List (List Int × Value)} (h : DV c w cl items) {p : Nat} {l : List Int} {av : Value} (hp : items[p]? = some (l, av)) (hl : 4 ≤ l.length) (b : Int) :
    ∃ g cap cur, (∃ cx : Array Value, w.heap[c.X]? = some (.cells cx 174 (0, 0)) ∧ cx[44]? = some (.slice (some ⟨g, 0, none⟩) items.length cap)) ∧ c.C ≤ g ∧ w.heap[g]? = some (.cells cur 106 (0, 0)) ∧ p * 5 + 2 < cur.size ∧ DV c (w.setCell ⟨g, p * 5 + 2, none⟩ (.int .i64 b)) cl (items.set p (l.set 2 b, av)) ∧ DFr c.X c.C w (w.setCell ⟨g, p * 5 + 2, none⟩ (.int .i64 b)) := by
  obtain ⟨r, U, cv, ⟨cx, x0, x1, x2, x3, x4, x5, x6, x7⟩, h2, h3, h4, h5, h6, h7, h8⟩ := h
  obtain ⟨g, cap, cur, rfl, g1, g2, g3, g4⟩ := h2.land hp hl b
  have hgX : ¬ c.X = g := by
    intro e
    rw [e, g2] at x0
    injection x0 with e; injection e with _ e _; exact absurd e (by decide)
  have hb : Below g w (w.setCell ⟨g, p * 5 + 2, none⟩ (.int .i64 b)) := (Below.refl g w).setCell (Nat.le_refl _) _
  refine ⟨g, cap, cur, ⟨cx, x0, x7⟩, g1, g2, g3, ⟨r, U, _, ⟨cx, by rw [Below.heap_setCell w _ _ c.X hgX]; exact x0, x1, x2, x3, x4, x5, x6, x7⟩, g4, h3, ?_, h5, h6, Nat.le_trans h7 hb.size, h8⟩, ⟨hb.os, hb.tape, hb.output, hb.size, fun k o hk _ ho => ?_⟩⟩
  · intro i hi
    obtain ⟨x, hx, rfl⟩ := List.mem_map.1 hi
    rcases List.mem_or_eq_of_mem_set hx with hx | rfl
    · exact h4 _ (List.mem_map.2 ⟨x, hx, rfl⟩)
    · have := h4 _ (List.mem_map.2 ⟨_, List.mem_of_getElem? hp, rfl⟩)
      show 0 ≤ (l.set 2 b).getD 1 0 ∧ (l.set 2 b).getD 1 0 < (r : Int)
      rw [List.getD_eq_getElem?_getD, List.getElem?_set_ne (by omega), ← List.getD_eq_getElem?_getD]
      exact this
  · rw [Below.heap_setCell w _ _ k ?_]
    · exact hk
    · show ¬ k = g
      rintro rfl
      rw [g2] at hk
      injection hk with hk
      rcases ho with ho | ho
      · omega
      · exact ho cur hk.symm

end Go.Proofs.YtbmenihakkogkabGreatDoor

namespace Go.Proofs.YtbmenihakkogkabGreatDoor
open Go.RowKit Go.Maps

theorem DV.code {c : DC} {w : World} {cl : Bool} {items : List (List Int × Value)} (h : DV c w cl items) : ∃ ad cap, w.cell? ⟨c.X, 44, none⟩ = some (.slice ad items.length cap) := by
  obtain ⟨_, _, cv, ⟨cur, h0, h1, h2, h3, h4, h5, h6, h7⟩, g, _⟩ := h
  obtain ⟨ad, cap, rfl⟩ := own_shape g.1
  exact ⟨ad, cap, by unfold World.cell?; rw [h0]; exact h7⟩

theorem three_allocs (w : World) (o1 o2 o3 : Obj) : Below w.heap.size w (((w.alloc o1).alloc o2).alloc o3) ∧ (((w.alloc o1).alloc o2).alloc o3).heap[w.heap.size]? = some o1 ∧ (((w.alloc o1).alloc o2).alloc o3).heap[w.heap.size + 1 + 1]? = some o3 := by
  have e1 : (w.alloc o1).heap.size = w.heap.size + 1 := by simp
  have e2 : ((w.alloc o1).alloc o2).heap.size = w.heap.size + 1 + 1 := by simp
  refine ⟨below_step (below_step (below_alloc w o1) (below_alloc _ o2)) (below_alloc _ o3), ?_, ?_⟩
  · rw [(below_alloc _ o3).block _ (by omega), (below_alloc _ o2).block _ (by omega)]
    exact heap_alloc_new w o1
  · have := heap_alloc_new ((w.alloc o1).alloc o2) o3
    rw [e2] at this
    exact this

/-- What jump does. -/
def JumpP (c : DC) (cl : Bool) (items : List (List Int × Value)) (op : Int) (A D P : Nat) (w w' : World) : Prop :=
  DFr c.X c.C w w' ∧ DV c w' cl (items ++ [([op, (A : Int), 0, 0], .slice none 0 0)]) ∧ LandAt c D P items.length w'

set_option maxRecDepth 20000 in
set_option maxHeartbeats 4000000 in
theorem djump (c : DC) (cl : Bool) (items : List (List Int × Value)) (op : Int) (A : Nat) (w : World) (hD : DV c w cl items) (hop : op = 12 ∨ op = 13) (hA : A < c.vars + 17) (hil : items.length ≤ 100000) :
    Calls Tryz.prog 244 #[.pointer (some ⟨c.X, 0, none⟩), .agg #[.int .i64 op, .int .i64 A, .int .i64 0, .int .i64 0, .slice none 0 0]] w fun e w' => ∃ D P, e = .returned (.func (.func 248) #[] #[.pointer (some ⟨D, 0, none⟩), .pointer (some ⟨P, 0, none⟩)]) ∧ Hid (JumpP c cl items op A D P w w') := by
  obtain ⟨ad, cap, k44⟩ := hD.code
  have hx := hD.xlt
  have HC : Hid (∀ wi, Below w.heap.size w wi → Calls Tryz.prog 171 #[.pointer (some ⟨c.X, 0, none⟩), .agg #[.int .i64 op, .int .i64 A, .int .i64 0, .int .i64 0, .slice none 0 0]] wi fun e w' => (∃ v, e = .returned v) ∧ Hid (DFr c.X c.C wi w') ∧ Hid (DV c w' (cl && !isC op) (items ++ [([op, (A : Int), 0, 0], .slice none 0 0)]))) := fun wi hb =>
    dadd c cl items [op, (A : Int), 0, 0] op 0 0 A none 0 0 wi (hD.of hb) ⟨rfl, rfl, rfl, rfl⟩ ⟨none, 0, rfl, by simp, Or.inl rfl⟩ hil hA (fun h => by omega)
  have HD : Hid (DV c w cl items) := hD
  have HO : Hid (op = 12 ∨ op = 13) := hop
  clear hD hop
  obtain ⟨W1, W2, W3⟩ := three_allocs w (.cells #[.pointer (some ⟨c.X, 0, none⟩)] 170) (.cells #[.int .i64 op, .int .i64 A, .int .i64 0, .int .i64 0, .slice none 0 0] 106) (.cells #[.int .i64 (items.length : Int)] 3)
  have HW : Hid (LandAt c w.heap.size (w.heap.size + 1 + 1) items.length (((w.alloc (.cells #[.pointer (some ⟨c.X, 0, none⟩)] 170)).alloc (.cells #[.int .i64 op, .int .i64 A, .int .i64 0, .int .i64 0, .slice none 0 0] 106)).alloc (.cells #[.int .i64 (items.length : Int)] 3))) := ⟨W2, W3⟩
  have HB : Hid (Below w.heap.size w (((w.alloc (.cells #[.pointer (some ⟨c.X, 0, none⟩)] 170)).alloc (.cells #[.int .i64 op, .int .i64 A, .int .i64 0, .int .i64 0, .slice none 0 0] 106)).alloc (.cells #[.int .i64 (items.length : Int)] 3))) := W1
  have HC1 := HC.out _ W1
  have HC1 : Hid (Calls Tryz.prog 171 #[.pointer (some ⟨c.X, 0, none⟩), .agg #[.int .i64 op, .int .i64 A, .int .i64 0, .int .i64 0, .slice none 0 0]] (((w.alloc (.cells #[.pointer (some ⟨c.X, 0, none⟩)] 170)).alloc (.cells #[.int .i64 op, .int .i64 A, .int .i64 0, .int .i64 0, .slice none 0 0] 106)).alloc (.cells #[.int .i64 (items.length : Int)] 3)) fun e w' => (∃ v, e = .returned v) ∧ Hid (DFr c.X c.C (((w.alloc (.cells #[.pointer (some ⟨c.X, 0, none⟩)] 170)).alloc (.cells #[.int .i64 op, .int .i64 A, .int .i64 0, .int .i64 0, .slice none 0 0] 106)).alloc (.cells #[.int .i64 (items.length : Int)] 3)) w') ∧ Hid (DV c w' (cl && !isC op) (items ++ [([op, (A : Int), 0, 0], .slice none 0 0)]))) := HC1
  clear W1 W2 W3
  go_enter Tryz.func244, Tryz.ntmps244
  go_wp2_with (first
    | (go_at_call 171; refine HC1.out.mono ?_; rintro e w1 ⟨⟨u, rfl⟩, F1, V1⟩))
  go_ret
  refine ⟨w.heap.size, w.heap.size + 1 + 1, rfl, (DFr.of HB.out).trans F1.out, ?_, HW.out.keep (HD.out.of HB.out) F1.out⟩
  have e : (cl && !isC op) = cl := by
    have : isC op = false := by unfold isC; rcases HO.out with rfl | rfl <;> rfl
    rw [this]; simp
  rw [← e]
  exact V1.out

set_option maxRecDepth 20000 in
set_option maxHeartbeats 4000000 in
theorem djump1 (c : DC) (cl : Bool) (items : List (List Int × Value)) (D P p : Nat) (l : List Int) (av : Value) (w : World) (hD : DV c w cl items) (hL : LandAt c D P p w) (hp : items[p]? = some (l, av)) (hl : 4 ≤ l.length) :
    Calls Tryz.prog 248 #[.pointer (some ⟨D, 0, none⟩), .pointer (some ⟨P, 0, none⟩)] w fun e w' => (∃ v, e = .returned v) ∧ Hid (DFr c.X c.C w w') ∧ Hid (DV c w' cl (items.set p (l.set 2 (items.length : Int), av))) := by
  obtain ⟨g, cap, cur, ⟨cx, x0, x44⟩, hg, hgc, hps, hDV, hF⟩ := hD.land hp hl (items.length : Int)
  have hpl : p < items.length := (List.getElem?_eq_some_iff.1 hp).1
  have k44 : w.cell? ⟨c.X, 44, none⟩ = some (.slice (some ⟨g, 0, none⟩) items.length cap) := by unfold World.cell?; rw [x0]; exact x44
  have kd : w.cell? ⟨D, 0, none⟩ = some (.pointer (some ⟨c.X, 0, none⟩)) := by unfold World.cell?; rw [hL.d]; rfl
  have kp : w.cell? ⟨P, 0, none⟩ = some (.int .i64 p) := by unfold World.cell?; rw [hL.p]; rfl
  have kf : w.frozen? ⟨g, p * 5 + 2, none⟩ = false := by unfold World.frozen?; rw [hgc]; simp
  obtain ⟨u, ku⟩ : ∃ u, w.cell? ⟨g, p * 5 + 2, none⟩ = some u := ⟨cur[p * 5 + 2], by unfold World.cell?; rw [hgc]; exact Array.getElem?_eq_getElem hps⟩
  have HF : Hid (DFr c.X c.C w (w.setCell ⟨g, p * 5 + 2, none⟩ (.int .i64 (items.length : Int)))) := hF
  have HV : Hid (DV c (w.setCell ⟨g, p * 5 + 2, none⟩ (.int .i64 (items.length : Int))) cl (items.set p (l.set 2 (items.length : Int), av))) := hDV
  have kk : ∀ v : Value, (w.setCell ⟨g, p * 5 + 2, none⟩ v).drew.cell? ⟨c.X, 44, none⟩ = some (.slice (some ⟨g, 0, none⟩) items.length cap) ∧ (w.setCell ⟨g, p * 5 + 2, none⟩ v).drew.cell? ⟨D, 0, none⟩ = some (.pointer (some ⟨c.X, 0, none⟩)) ∧ (w.setCell ⟨g, p * 5 + 2, none⟩ v).drew.cell? ⟨P, 0, none⟩ = some (.int .i64 p) := fun v => by
    have hn : ∀ (q : Nat) (cs : Array Value) (t : TypeId), w.heap[q]? = some (.cells cs t (0, 0)) → ¬ t = 106 → ∀ i, (w.setCell ⟨g, p * 5 + 2, none⟩ v).drew.cell? ⟨q, i, none⟩ = w.cell? ⟨q, i, none⟩ := fun q cs t hq ht i => by
      show (w.setCell ⟨g, p * 5 + 2, none⟩ v).cell? ⟨q, i, none⟩ = _
      refine World.cell?_of_block (w := w) (a := ⟨q, i, none⟩) (Below.heap_setCell w _ _ q ?_)
      intro e
      have e : q = g := e
      rw [e, hgc] at hq
      injection hq with e; injection e with _ e _; exact absurd e.symm ht
    exact ⟨(hn _ _ _ x0 (by decide) _).trans k44, (hn _ _ _ hL.d (by decide) _).trans kd, (hn _ _ _ hL.p (by decide) _).trans kp⟩
  have hp0 : (0 : Int) ≤ (p : Int) := by omega
  have hp1 : (p : Int) < (items.length : Int) := by omega
  clear hD hL hp hF hDV x0 x44 hgc
  go_enter Tryz.func248, Tryz.ntmps248
  go_upto_region 0 with (fail)
  go_region_held3 (fun w' => w'.cell? ⟨c.X, 44, none⟩ = some (.slice (some ⟨g, 0, none⟩) items.length cap) ∧ w'.cell? ⟨D, 0, none⟩ = some (.pointer (some ⟨c.X, 0, none⟩)) ∧ w'.cell? ⟨P, 0, none⟩ = some (.int .i64 p)) (first | (exact kk _) | go_keep) (fail)
  all_goals (try go_wp2_with fail)
  all_goals go_end0
  all_goals exact ⟨⟨_, rfl⟩, HF.out.trans (DFr.of ((Below.refl _ _).drew)), HV.out.of ((Below.refl _ _).drew)⟩

end Go.Proofs.YtbmenihakkogkabGreatDoor

namespace Go.Proofs.YtbmenihakkogkabGreatDoor
open Go.RowKit Go.Maps

/-- Three numbers. -/
def three (R : Nat → Nat) : Array Value := #[.int .i64 (R 0), .int .i64 (R 1), .int .i64 (R 2)]
def setR (R : Nat → Nat) (j r : Nat) (i : Nat) : Nat := if i = j then r else R i
theorem three_set (R : Nat → Nat) {j : Nat} (hj : j < 3) (r : Nat) : (three R).setIfInBounds j (.int .i64 r) = three (setR R j r) ∧ [setR R j r 0, setR R j r 1, setR R j r 2].take (j + 1) = [R 0, R 1, R 2].take j ++ [r] := by
  rcases (show j = 0 ∨ j = 1 ∨ j = 2 by omega) with rfl | rfl | rfl <;> exact ⟨rfl, rfl⟩

theorem three_cell {w1 : World} {O : Nat} {R : Nat → Nat} (h : w1.heap[O]? = some (.cells (three R) 304 (0, 0))) {j : Nat} (hj : j < 3) : w1.frozen? ⟨O, j, none⟩ = false ∧ (∃ u, w1.cell? ⟨O, j, none⟩ = some u) ∧ ∀ x, (w1.setCell ⟨O, j, none⟩ x).cell? ⟨O, j, none⟩ = some x := by
  refine ⟨by unfold World.frozen?; rw [h]; simp, ?_, fun x => ?_⟩
  · rcases (show j = 0 ∨ j = 1 ∨ j = 2 by omega) with rfl | rfl | rfl <;> (unfold World.cell?; rw [h]; exact ⟨_, rfl⟩)
  · unfold World.cell?
    rw [heap_setCell_same w1 _ _ _ _ _ h]
    rcases (show j = 0 ∨ j = 1 ∨ j = 2 by omega) with rfl | rfl | rfl <;> rfl
theorem after_le {free : Nat} {rs : List Nat} : free ≤ after free rs := by
  induction rs generalizing free with
  | nil => exact Nat.le_refl _
  | cons r rs ih => exact Nat.le_trans (by omega) (ih (free := max free (r + 1)))

theorem DFb.setNew {X B C : Nat} {w w1 : World} (h : DFb X B C w w1) {O : Nat} (hO : w.heap.size ≤ O) (i : Nat) (x : Value) : DFb X B C w (w1.setCell ⟨O, i, none⟩ x) := by
  have hb : Below O w1 (w1.setCell ⟨O, i, none⟩ x) := (Below.refl O w1).setCell (Nat.le_refl _) _
  refine ⟨hb.os.trans h.os, hb.tape.trans h.tape, hb.output.trans h.output, Nat.le_trans h.size hb.size, fun k o hk hx hB ho => ?_⟩
  have hlt := (Array.getElem?_eq_some_iff.1 hk).1
  rw [Below.heap_setCell w1 _ _ k (by show ¬ k = O; omega)]
  exact h.block k o hk hx hB ho

set_option maxRecDepth 20000 in
set_option maxHeartbeats 4000000 in
theorem dvalues (v : VC) (ok : VOK v) (m : Nat) (H : ValC v m) : ValsC v m := by
  intro a free cnt items w hc hm ha hask hv hpk hil hw
  have HW : Hid (VW v a items w) := hw
  have hNw := hw.rd.nw
  have HV : Hid (ValC v m) := H
  have HOK : Hid (VOK v) := ok
  have HAsk : Hid ((cnt : Int) ≤ asked v.k v.z v.par a) := hask
  have HPk : Hid (free + peak (v.n - a + 1) ≤ v.c.vars + 17) := hpk
  have n24 := ok.n24
  have hx := hw.dv.xlt
  have hO : (w.alloc (.cells #[.int .i64 0, .int .i64 0, .int .i64 0] 304)).heap[w.heap.size]? = some (.cells (three fun _ => 0) 304 (0, 0)) := heap_alloc_new w _
  have HA : Hid (DFb v.c.X v.B v.c.C w (w.alloc (.cells #[.int .i64 0, .int .i64 0, .int .i64 0] 304)) ∧ VW v a items (w.alloc (.cells #[.int .i64 0, .int .i64 0, .int .i64 0] 304))) := ⟨(DFr.of (below_alloc w _)).b v.B, hw.of (below_alloc w _)⟩
  have HO : Hid ((w.alloc (.cells #[.int .i64 0, .int .i64 0, .int .i64 0] 304)).heap[w.heap.size]? = some (.cells (three fun _ => 0) 304 (0, 0))) := hO
  clear hw H ok hask hpk hO
  go_enter Tryz.func246, Tryz.ntmps246
  go_wp2_with fail
  go_loopg [3, 11] cnt (fun q fv i wr => ∃ (j : Nat) (rs : List Nat) (a' : Nat) (its : List (List Int × Value)) (R : Nat → Nat), j + q = cnt ∧ fv = .int .i64 ((after free rs : Nat) : Int) ∧ i = .int .i64 (j : Int) ∧ rs.length = j ∧ Hid ([R 0, R 1, R 2].take j = rs) ∧ Hid (wr.heap[w.heap.size]? = some (.cells (three R) 304 (0, 0))) ∧ Hid (DFb v.c.X v.B v.c.C w wr) ∧ Hid (VW v a' (items ++ its) wr) ∧ a' ≤ v.n ∧ a + j ≤ a' ∧ after free rs ≤ free + j ∧ Hid (VS v.k v.z v.par v.c.once a a' free rs (its.map (·.1))))
  case atStart => exact ⟨0, [], a, [], fun _ => 0, by omega, rfl, rfl, rfl, rfl, HO, HA.out.1, (by show VW _ _ _ _; rw [List.append_nil]; exact HA.out.2), ha, by omega, Nat.le_refl _, VS.nil a free⟩
  case round =>
    obtain ⟨j, rs, a', its, R, hjq, rfl, rfl, hrl, HR, HB, HF, HWj, ha', haj, haf, HS⟩ := hrel
    have hfl : free ≤ after free rs := after_le
    by_cases hlt : j < cnt
    · have hlt' : (j : Int) < (cnt : Int) := by omega
      have j0 : (0 : Int) ≤ (j : Int) := by omega
      have j3 : (j : Int) < 3 := by omega
      have hwj : IntKind.i64.wrap ((j : Int) + 1) = (j : Int) + 1 := Go.IntWalk.i64_in _ (by omega)
      have hcount := HS.out.count
      have hitl : its.length ≤ 41 * (a' - a) := by
        have e : perTok v.c.once ≤ 41 := by unfold perTok; split <;> omega
        have := Nat.mul_le_mul_right (a' - a) e
        rw [List.length_map] at hcount
        omega
      have hwants := HS.out.wants
      have hlt2 : a' < v.n := by
        rcases Nat.lt_or_ge a' v.n with h | h
        · exact h
        · exfalso
          have e : a' = v.n := by omega
          have h1 := hwants.1
          rw [e, HOK.out.done] at h1
          have := HAsk.out
          omega
      have HC : Hid (Calls Tryz.prog 229 #[.pointer (some ⟨v.c.X, 0, none⟩), .func (.func 242) #[] #[.pointer (some ⟨v.B, 0, none⟩), .pointer (some ⟨v.E, 0, none⟩)], .int .i64 ((after free rs : Nat) : Int)] wr fun e w' => ∃ r : Nat, e = .returned (.int .i64 r) ∧ Hid (ValP v a' (after free rs) (items ++ its) wr w' r)) := by
        refine HV.out a' (after free rs) (items ++ its) wr (by omega) hlt2 (by omega) ?_ ?_ HWj.out
        · have := peak_part (i := j) (d := v.n - a') (e := v.n - a + 1) (by omega) (by omega)
          have := HPk.out
          omega
        · rw [List.length_append]
          have : 41 * (v.n - a) = 41 * (v.n - a') + 41 * (a' - a) := by omega
          omega
      have HOb : Hid (∀ w1, DFb v.c.X v.B v.c.C wr w1 → w1.heap[w.heap.size]? = some (.cells (three R) 304 (0, 0))) := fun w1 hf => by
        obtain ⟨cx, x0, _⟩ := HWj.out.dv.xt
        refine hf.block _ _ HB.out ?_ ?_ (Or.inr fun c e => ?_)
        · omega
        · intro e
          have b := HWj.out.rd.box
          rw [← e, HB.out] at b
          injection b with b; injection b with _ b _; exact absurd b (by decide)
        · injection e with _ e _; exact absurd e (by decide)
      have hpk20 : after free rs ≤ 30 := by
        have := HPk.out
        omega
      clear hcount hwants
      have HK : Hid (∀ w1 r, ValP v a' (after free rs) (items ++ its) wr w1 r → w1.heap[w.heap.size]? = some (.cells (three R) 304 (0, 0)) ∧ r ≤ after free rs) := fun w1 r h => by
        obtain ⟨a'', its2, f1, f2, f3, f4⟩ := h
        exact ⟨HOb.out w1 f1, (f4.reg HOK.out.tok hlt2 (by omega)).1⟩
      go_wp2_with (first
        | (go_at_call 229; refine HC.out.mono ?_; rintro e w1 ⟨r, rfl, P1⟩; obtain ⟨kf, ⟨u, kc⟩, ks⟩ := three_cell (HK.out w1 r P1.out).1 (j := j) (by omega); have hrr := (HK.out w1 r P1.out).2; have hwr : IntKind.i64.wrap ((r : Int) + 1) = (r : Int) + 1 := Go.IntWalk.i64_in _ (by omega)))
      go_roundg (cnt - (j + 1))
      case rel =>
        obtain ⟨e1, e2⟩ := three_set R (j := j) (by omega) r
        have hO1 := (HK.out w1 r P1.out).1
        obtain ⟨a'', its2, f1, f2, f3, f4⟩ := P1.out
        refine ⟨j + 1, rs ++ [r], a'', its ++ its2, setR R j r, by omega, ?_, rfl, by simp; omega, ?_, ?_, ?_, ?_, f3, ?_, ?_, ?_⟩
        · rw [after_snoc]; congr 1; omega
        · show _ = _
          rw [e2, HR.out]
        · show _ = _
          rw [heap_setCell_same w1 _ _ _ _ _ hO1, e1]
        · exact (HF.out.trans f1).setNew (Nat.le_refl _) _ _
        · rw [← List.append_assoc]
          exact f2.put hO1 hNw _
        · have := f4.wants.2
          simp at this
          omega
        · rw [after_snoc]; omega
        · rw [List.map_append]
          exact HS.out.snoc f4
      case measure => omega
    · have hlt' : ¬ (j : Int) < (cnt : Int) := by omega
      have hb := HB.out
      have l0 : wr.cell? ⟨w.heap.size, 0, none⟩ = some (.int .i64 (R 0)) := by unfold World.cell?; rw [hb]; rfl
      have l1 : wr.cell? ⟨w.heap.size, 1, none⟩ = some (.int .i64 (R 1)) := by unfold World.cell?; rw [hb]; rfl
      have l2 : wr.cell? ⟨w.heap.size, 2, none⟩ = some (.int .i64 (R 2)) := by unfold World.cell?; rw [hb]; rfl
      have lf : ∀ i, wr.frozen? ⟨w.heap.size, i, none⟩ = false := fun i => by unfold World.frozen?; rw [hb]; simp
      clear hb
      have ej : j = cnt := by omega
      subst ej
      go_wp2_with fail
      have hb := HB.out
      have e0 := heap_setCell_same wr _ 0 _ _ (.int .i64 (R 0)) hb
      have e1 := heap_setCell_same _ _ 1 _ _ (.int .i64 (R 1)) e0
      have e2 := heap_setCell_same _ _ 2 _ _ (.int .i64 (R 2)) e1
      refine bodyPost_ret (results_cell_row rfl _ _ w.heap.size 304 _ (0, 0) _ rfl e2 Tryz.underlying304 rfl (by kernel_rfl)) rfl ?_
      refine ⟨R 0, R 1, R 2, rfl, a', its, ((HF.out.setNew (Nat.le_refl _) _ _).setNew (Nat.le_refl _) _ _).setNew (Nat.le_refl _) _ _, ((HWj.out.put hb hNw _).put e0 hNw _).put e1 hNw _, ha', ?_⟩
      rw [HR.out]
      exact HS.out

end Go.Proofs.YtbmenihakkogkabGreatDoor
