import Derived.Test.YtbmenihakkogkabGreatDoorPart29
import Derived.Deep.RegionHeld3
namespace Go.Proofs.YtbmenihakkogkabGreatDoor
open Go.RowKit Go.Maps
def LayP (N : Nat) (fv : Value) (par : Nat → Int) (vars d : Nat) (T : SL) (once : Bool) (X : Nat) (w w' : World) : Prop :=
  ∃ (items : List (List Int × Value)) (regs : Nat) (U : Nat → Bool) (cv : Value), Below w.heap.size w w' ∧ DAt X w' fv vars regs once U cv ∧ CodeRow w.heap.size w' cv items ∧ und regs (items.map (·.1)) ∧ regs ≤ vars + 17 ∧ LayR par once vars d T (items.map (·.1)) ∧ N ≤ w.heap.size
def LayM (s : SC) (par : Nat → Int) (once : Bool) (vars d : Nat) (T : SL) (w w' : World) : Prop :=
  ∃ its, SW s false (its ++ [([1, (vars : Int), 0, 0], .slice none 0 0)]) w' ∧ DFr s.c.X s.c.C w w' ∧ BR par once vars d T T.len 0 (its.map (·.1)) ∧ its.length ≤ 63000
def dr0 (fv : Value) (vars : Nat) (once : Bool) : Array Value := #[fv, .int .i64 vars, .int .i64 0, .bool false, .bool false, .bool false, .bool false, .bool false, .bool false, .bool false, .bool false, .bool false, .bool false, .bool false, .bool false, .bool false, .bool false, .bool false, .bool false, .bool false, .bool false, .bool false, .bool false, .bool false, .bool false, .bool false, .bool false, .bool false, .bool false, .bool false, .bool false, .bool false, .bool false, .bool false, .bool false, .bool false, .bool false, .bool false, .bool false, .bool false, .bool false, .bool false, .bool false, .bool once, .slice none 0 0]
theorem dr0_mark (fv : Value) (vars : Nat) (once : Bool) : ∀ k, k < 40 → (dr0 fv vars once)[3 + k]? = some (.bool false) := by
  intro k hk
  unfold dr0
  match k, hk with
  | 0, _ => rfl
  | 1, _ => rfl
  | 2, _ => rfl
  | 3, _ => rfl
  | 4, _ => rfl
  | 5, _ => rfl
  | 6, _ => rfl
  | 7, _ => rfl
  | 8, _ => rfl
  | 9, _ => rfl
  | 10, _ => rfl
  | 11, _ => rfl
  | 12, _ => rfl
  | 13, _ => rfl
  | 14, _ => rfl
  | 15, _ => rfl
  | 16, _ => rfl
  | 17, _ => rfl
  | 18, _ => rfl
  | 19, _ => rfl
  | 20, _ => rfl
  | 21, _ => rfl
  | 22, _ => rfl
  | 23, _ => rfl
  | 24, _ => rfl
  | 25, _ => rfl
  | 26, _ => rfl
  | 27, _ => rfl
  | 28, _ => rfl
  | 29, _ => rfl
  | 30, _ => rfl
  | 31, _ => rfl
  | 32, _ => rfl
  | 33, _ => rfl
  | 34, _ => rfl
  | 35, _ => rfl
  | 36, _ => rfl
  | 37, _ => rfl
  | 38, _ => rfl
  | 39, _ => rfl
  | k + 40, h => exact absurd h (by omega)
theorem dv0 (C X : Nat) (fv : Value) (vars : Nat) (once : Bool) (w : World) (hX : w.heap[X]? = some (.cells (dr0 fv vars once) 174 (0, 0))) (hv : vars ≤ 6) (hC : C ≤ X) : DV ⟨X, C, fv, vars, once⟩ w true [] := by
  have hl := (Array.getElem?_eq_some_iff.1 hX).1
  refine ⟨0, fun _ => false, .slice none 0 0, ⟨dr0 fv vars once, hX, rfl, rfl, rfl, rfl, fun k hk => ⟨false, dr0_mark fv vars once k hk, fun h => h⟩, rfl, rfl⟩, CodeRow.nil C w, by omega, fun i hi => (by cases hi), fun k h => (by cases h), fun _ _ _ => rfl, by show C ≤ w.heap.size; omega, hv, hC⟩
set_option maxRecDepth 20000 in
set_option maxHeartbeats 1000000 in
theorem dlay (N : Nat) (fv : Value) (nf : Nat) (par loc : Nat → Int) (bv : Nat → Value) (p : Int) (vars d : Nat) (T : SL) (vb : Value) (once : Bool) (w : World) (hN : N ≤ w.heap.size) (hf : FunsAt N w fv nf par loc bv) (hT : StmtsAt N w d vb T) (hpar : ∀ i, i < nf → 0 ≤ par i ∧ par i ≤ 3) (hv : vars ≤ 6) (he : errs (stErr nf par vars) d T = 0) (hsz : size d T ≤ 30) :
    Calls Tryz.prog 123 #[.agg #[.int .i64 p, .int .i64 vars, vb], fv, .bool once] w fun e w' => ∃ X, e = .returned (.pointer (some ⟨X, 0, none⟩)) ∧ Hid (LayP N fv par vars d T once X w w') := by
  obtain ⟨ab, cb, rfl, _⟩ := hT.shape
  have hff := hf
  obtain ⟨fa, fcap, rfl, _⟩ := hff
  obtain ⟨s, hs⟩ : ∃ s : SC, s = ⟨⟨w.heap.size + 1, w.heap.size, .slice fa nf fcap, vars, once⟩, N, nf, par, loc, bv⟩ := ⟨_, rfl⟩
  have ok : SOK s := by subst hs; exact ⟨hpar, hN⟩
  have hb2 : Below w.heap.size w ((w.alloc (.cells #[.int .i64 p, .int .i64 vars, .slice ab T.len cb] 43)).alloc (.cells (dr0 (.slice fa nf fcap) vars once) 174)) := bst (bal w _) (bal _ _)
  have hX : ((w.alloc (.cells #[.int .i64 p, .int .i64 vars, .slice ab T.len cb] 43)).alloc (.cells (dr0 (.slice fa nf fcap) vars once) 174)).heap[w.heap.size + 1]? = some (.cells (dr0 (.slice fa nf fcap) vars once) 174 (0, 0)) := by
    have := heap_alloc_new (w.alloc (.cells #[.int .i64 p, .int .i64 vars, .slice ab T.len cb] 43)) (.cells (dr0 (.slice fa nf fcap) vars once) 174)
    rw [show (w.alloc (.cells #[.int .i64 p, .int .i64 vars, .slice ab T.len cb] 43)).heap.size = w.heap.size + 1 by simp] at this
    exact this
  have hW : SW s true [] ((w.alloc (.cells #[.int .i64 p, .int .i64 vars, .slice ab T.len cb] 43)).alloc (.cells (dr0 (.slice fa nf fcap) vars once) 174)) := by
    subst hs
    exact ⟨dv0 w.heap.size (w.heap.size + 1) _ vars once _ hX hv (by omega), hf.below (hb2.mono hN), Nat.le_trans hN hb2.size⟩
  have hsv : s.c.vars = vars := by subst hs; rfl
  have HBk : Hid (Calls Tryz.prog 170 #[.pointer (some ⟨w.heap.size + 1, 0, none⟩), .slice ab T.len cb] ((w.alloc (.cells #[.int .i64 p, .int .i64 vars, .slice ab T.len cb] 43)).alloc (.cells (dr0 (.slice fa nf fcap) vars once) 174)) fun e w' => (∃ u, e = .returned u) ∧ Hid (BlkP s d T [] ((w.alloc (.cells #[.int .i64 p, .int .i64 vars, .slice ab T.len cb] 43)).alloc (.cells (dr0 (.slice fa nf fcap) vars once) 174)) w')) := by
    have := dblock s ok d T (.slice ab T.len cb) [] _ (by subst hs; exact hT.below (hb2.mono hN)) (by subst hs; exact he) (by simp; omega) hW
    subst hs
    exact this
  have HA1 : Hid (∀ w1, BlkP s d T [] ((w.alloc (.cells #[.int .i64 p, .int .i64 vars, .slice ab T.len cb] 43)).alloc (.cells (dr0 (.slice fa nf fcap) vars once) 174)) w1 → w1.cell? ⟨w.heap.size + 1, 1, none⟩ = some (.int .i64 vars) ∧ Calls Tryz.prog 171 #[.pointer (some ⟨w.heap.size + 1, 0, none⟩), .agg #[.int .i64 1, .int .i64 vars, .int .i64 0, .int .i64 0, .slice none 0 0]] w1 fun e w' => (∃ u, e = .returned u) ∧ Hid (LayM s par once vars d T ((w.alloc (.cells #[.int .i64 p, .int .i64 vars, .slice ab T.len cb] 43)).alloc (.cells (dr0 (.slice fa nf fcap) vars once) 174)) w')) := fun w1 hp => by
    obtain ⟨its, h1, h2, h3⟩ := hp
    have hk : w1.cell? ⟨w.heap.size + 1, 1, none⟩ = some (.int .i64 vars) := by have := h2.vars; subst hs; exact this
    have hlen := br_len (nf := nf) h3 (by subst hs; exact he)
    rw [List.length_map] at hlen
    refine ⟨hk, ?_⟩
    rw [List.nil_append] at h2
    have := h2.add ok 1 0 0 vars (by omega) (by omega) (by decide)
    have hXX : s.c.X = w.heap.size + 1 := by subst hs; rfl
    rw [hXX] at this
    refine this.mono fun e w' hq => ?_
    obtain ⟨he2, f1, f2⟩ := hq
    rw [← hXX] at f1
    exact ⟨he2, its, f2.out, h1.trans f1.out, (by subst hs; exact h3), by omega⟩
  have HA2 : Hid (∀ w1, LayM s par once vars d T ((w.alloc (.cells #[.int .i64 p, .int .i64 vars, .slice ab T.len cb] 43)).alloc (.cells (dr0 (.slice fa nf fcap) vars once) 174)) w1 → w1.cell? ⟨w.heap.size + 1, 1, none⟩ = some (.int .i64 vars) ∧ Calls Tryz.prog 171 #[.pointer (some ⟨w.heap.size + 1, 0, none⟩), .agg #[.int .i64 8, .int .i64 vars, .int .i64 0, .int .i64 0, .slice none 0 0]] w1 fun e w' => (∃ u, e = .returned u) ∧ Hid (LayP N (.slice fa nf fcap) par vars d T once (w.heap.size + 1) w w')) := fun w1 hp => by
    obtain ⟨its, h1, h2, h3, h4⟩ := hp
    have hk : w1.cell? ⟨w.heap.size + 1, 1, none⟩ = some (.int .i64 vars) := by have := h1.vars; subst hs; exact this
    refine ⟨hk, ?_⟩
    have := h1.add ok 8 0 0 vars (by omega) (by simp; omega) (by decide)
    have hXX : s.c.X = w.heap.size + 1 := by subst hs; rfl
    rw [hXX] at this
    refine this.mono fun e w' hq => ?_
    obtain ⟨he2, f1, f2⟩ := hq
    rw [← hXX] at f1
    have hfr := h2.trans f1.out
    obtain ⟨regs, U, cv, g1, g2, g3, g4, g5, _⟩ := f2.out.dv
    have hbw : Below w.heap.size w w' := by
      refine hb2.trans (hfr.low ?_ ?_ hb2.size)
      · subst hs; show w.heap.size ≤ w.heap.size + 1; omega
      · subst hs; exact Nat.le_refl _
    subst hs
    refine ⟨he2, _, regs, U, cv, hbw, g1, g2, g4, g3, ⟨its.map (·.1), h3, ?_⟩, hN⟩
    rw [List.map_append, List.map_append]
    rfl
  clear hX hW hb2 hf hT he hs ok
  obtain ⟨WW, hWW⟩ : ∃ WW, ((w.alloc (.cells #[.int .i64 p, .int .i64 vars, .slice ab T.len cb] 43)).alloc (.cells (dr0 (.slice fa nf fcap) vars once) 174)) = WW := ⟨_, rfl⟩
  rw [hWW] at HBk HA1 HA2
  have HWW : Hid (((w.alloc (.cells #[.int .i64 p, .int .i64 vars, .slice ab T.len cb] 43)).alloc (.cells (dr0 (.slice fa nf fcap) vars once) 174)) = WW) := hWW
  clear hWW
  go_enter Tryz.func123, Tryz.ntmps123
  go_wp2_with (first
    | (go_at_call 170; refine (show Calls Tryz.prog 170 #[.pointer (some ⟨w.heap.size + 1, 0, none⟩), .slice ab T.len cb] ((w.alloc (.cells #[.int .i64 p, .int .i64 vars, .slice ab T.len cb] 43)).alloc (.cells (dr0 (.slice fa nf fcap) vars once) 174)) fun e w' => (∃ u, e = .returned u) ∧ Hid (BlkP s d T [] WW w') from (by rw [HWW.out]; exact HBk.out)).mono ?_; rintro e w1 ⟨⟨u1, rfl⟩, P1⟩; have k1 := (HA1.out w1 P1.out).1)
    | (go_at_call 171; refine (HA2.out w2 P2.out).2.mono ?_; rintro e w3 ⟨⟨u3, rfl⟩, P3⟩)
    | (go_at_call 171; refine (HA1.out w1 P1.out).2.mono ?_; rintro e w2 ⟨⟨u2, rfl⟩, P2⟩; have k2 := (HA2.out w2 P2.out).1))
  go_ret
  exact ⟨_, rfl, P3⟩
def CfP (par : Nat → Int) (vars d : Nat) (T : SL) (w w' : World) (regs : Nat) (cv : Value) : Prop :=
  ∃ (items : List (List Int × Value)) (once : Bool), Below w.heap.size w w' ∧ CodeRow w.heap.size w' cv items ∧ und regs (items.map (·.1)) ∧ regs ≤ vars + 17 ∧ LayR par once vars d T (items.map (·.1)) ∧ items.length ≤ 2000
theorem CodeRow.base {C C' : Nat} {w : World} {v : Value} {items : List (List Int × Value)} (h : CodeRow C w v items) (hC : C' ≤ C) : CodeRow C' w v items := by
  refine ⟨⟨h.1.1, ?_⟩, h.2⟩
  rcases h.1.2 with h0 | ⟨g, cap, cur, a1, a2, a3⟩
  · exact Or.inl h0
  · exact Or.inr ⟨g, cap, cur, a1, Nat.le_trans hC a2, a3⟩
theorem LayP.cells {N : Nat} {fv : Value} {par : Nat → Int} {vars d : Nat} {T : SL} {once : Bool} {X : Nat} {w w' : World} (h : LayP N fv par vars d T once X w w') : ∃ (n regs : Nat) (ad : Option Addr) (cap : Nat), w'.cell? ⟨X, 2, none⟩ = some (.int .i64 regs) ∧ w'.cell? ⟨X, 44, none⟩ = some (.slice ad n cap) ∧ Below w.heap.size w w' ∧ (∃ cur, w'.heap[X]? = some (.cells cur 174 (0, 0))) ∧ (n ≤ 2000 → CfP par vars d T w w' regs (.slice ad n cap)) ∧ ∀ nf, (∀ i, i < nf → 0 ≤ par i) → errs (stErr nf par vars) d T = 0 → size d T ≤ 30 → once = false → n ≤ 2000 := by
  obtain ⟨items, regs, U, cv, h1, ⟨cur, x0, x1, x2, x3, x4, x5, x6, x7⟩, h3, h4, h5, h6, h7⟩ := h
  obtain ⟨ad, cap, rfl⟩ := own_shape h3.1
  refine ⟨items.length, regs, ad, cap, by unfold World.cell?; rw [x0]; exact x4, by unfold World.cell?; rw [x0]; exact x7, h1, ⟨cur, x0⟩, fun hn => ⟨items, once, h1, h3, h4, h5, h6, hn⟩, fun nf hp he hs ho => ?_⟩
  have := (h6.right he hp h4).2.2.1
  rw [List.length_map, ho] at this
  have e : perStmt false = 66 := rfl
  rw [e] at this
  omega
theorem CfP.pre {par : Nat → Int} {vars d : Nat} {T : SL} {w w0 w' : World} {regs : Nat} {cv : Value} (h : CfP par vars d T w0 w' regs cv) (hb : Below w.heap.size w w0) : CfP par vars d T w w' regs cv := by
  obtain ⟨items, once, h1, h2, h3⟩ := h
  exact ⟨items, once, hb.trans (h1.mono hb.size), h2.base hb.size, h3⟩
theorem CfP.put {par : Nat → Int} {vars d : Nat} {T : SL} {w w' : World} {regs : Nat} {cv : Value} (h : CfP par vars d T w w' regs cv) {R i : Nat} (hR : w.heap.size ≤ R) {cs : Array Value} (hc : w'.heap[R]? = some (.cells cs 40 (0, 0))) (x : Value) : CfP par vars d T w (w'.setCell ⟨R, i, none⟩ x) regs cv := by
  obtain ⟨items, once, h1, h2, h3⟩ := h
  refine ⟨items, once, h1.setCell hR _, h2.stay (Keeps.set hc x (by decide)) (Keeps.set hc x (by decide)), h3⟩
set_option maxRecDepth 20000 in
set_option maxHeartbeats 4000000 in
theorem dcompileFun (N : Nat) (fv : Value) (nf : Nat) (par loc : Nat → Int) (bv : Nat → Value) (p : Int) (vars d : Nat) (T : SL) (vb : Value) (w : World) (hN : N ≤ w.heap.size) (hf : FunsAt N w fv nf par loc bv) (hT : StmtsAt N w d vb T) (hpar : ∀ i, i < nf → 0 ≤ par i ∧ par i ≤ 3) (hv : vars ≤ 6) (he : errs (stErr nf par vars) d T = 0) (hsz : size d T ≤ 30) :
    Calls Tryz.prog 60 #[.agg #[.int .i64 p, .int .i64 vars, vb], fv] w fun e w' => ∃ (regs : Nat) (ad : Option Addr) (n cap : Nat), e = .returned (.agg #[.int .i64 p, .int .i64 regs, .slice ad n cap]) ∧ Hid (CfP par vars d T w w' regs (.slice ad n cap)) := by
  obtain ⟨ab, cb, rfl, _⟩ := hT.shape
  have hff := hf
  obtain ⟨fa, fcap, rfl, _⟩ := hff
  have HL : Hid (∀ wi once, Below w.heap.size w wi → Calls Tryz.prog 123 #[.agg #[.int .i64 p, .int .i64 vars, .slice ab T.len cb], .slice fa nf fcap, .bool once] wi fun e w' => ∃ X, e = .returned (.pointer (some ⟨X, 0, none⟩)) ∧ Hid (LayP N (.slice fa nf fcap) par vars d T once X wi w')) := fun wi once hb => dlay N _ nf par loc bv p vars d T _ once wi (Nat.le_trans hN hb.size) (hf.below (hb.mono hN)) (hT.below (hb.mono hN)) hpar hv he hsz
  have HLim : Hid (∀ nn, (∀ nf, (∀ i, i < nf → 0 ≤ par i) → errs (stErr nf par vars) d T = 0 → size d T ≤ 30 → false = false → nn ≤ 2000) → nn ≤ 2000) := fun nn h => h nf (fun i hi => (hpar i hi).1) he hsz rfl
  have hbW : Below w.heap.size w ((w.alloc (.cells #[.int .i64 p, .int .i64 vars, .slice ab T.len cb] 43)).alloc (.cells #[.int .i64 0, .int .i64 0, .slice none 0 0] 40)) := bst (bal w _) (bal _ _)
  have hQ : ((w.alloc (.cells #[.int .i64 p, .int .i64 vars, .slice ab T.len cb] 43)).alloc (.cells #[.int .i64 0, .int .i64 0, .slice none 0 0] 40)).heap[w.heap.size]? = some (.cells #[.int .i64 p, .int .i64 vars, .slice ab T.len cb] 43 (0, 0)) := by
    rw [(bal (w.alloc (.cells #[.int .i64 p, .int .i64 vars, .slice ab T.len cb] 43)) _).block w.heap.size (by simp)]
    exact heap_alloc_new w _
  have hR : ((w.alloc (.cells #[.int .i64 p, .int .i64 vars, .slice ab T.len cb] 43)).alloc (.cells #[.int .i64 0, .int .i64 0, .slice none 0 0] 40)).heap[w.heap.size + 1]? = some (.cells #[.int .i64 0, .int .i64 0, .slice none 0 0] 40 (0, 0)) := by
    have := heap_alloc_new (w.alloc (.cells #[.int .i64 p, .int .i64 vars, .slice ab T.len cb] 43)) (.cells #[.int .i64 0, .int .i64 0, .slice none 0 0] 40)
    rw [show (w.alloc (.cells #[.int .i64 p, .int .i64 vars, .slice ab T.len cb] 43)).heap.size = w.heap.size + 1 by simp] at this
    exact this
  clear hf hT he hpar
  generalize hw0 : ((w.alloc (.cells #[.int .i64 p, .int .i64 vars, .slice ab T.len cb] 43)).alloc (.cells #[.int .i64 0, .int .i64 0, .slice none 0 0] 40)) = W at *
  have HW0 : Hid (((w.alloc (.cells #[.int .i64 p, .int .i64 vars, .slice ab T.len cb] 43)).alloc (.cells #[.int .i64 0, .int .i64 0, .slice none 0 0] 40)) = W) := hw0
  clear hw0
  have hzW : w.heap.size + 1 < W.heap.size := (Array.getElem?_eq_some_iff.1 hR).1
  have HBx : Hid (∀ w1, Below W.heap.size W w1 → (w1.heap[w.heap.size]? = some (.cells #[.int .i64 p, .int .i64 vars, .slice ab T.len cb] 43 (0, 0)) ∧ w1.heap[w.heap.size + 1]? = some (.cells #[.int .i64 0, .int .i64 0, .slice none 0 0] 40 (0, 0)))) := fun w1 hb => ⟨(hb.block _ (by omega)).trans hQ, (hb.block _ hzW).trans hR⟩
  have HCl : Hid (∀ w1, Below W.heap.size W w1 → w1.cell? ⟨w.heap.size, 0, none⟩ = some (.int .i64 p) ∧ w1.cell? ⟨w.heap.size, 1, none⟩ = some (.int .i64 vars) ∧ w1.cell? ⟨w.heap.size, 2, none⟩ = some (.slice ab T.len cb) ∧ (∀ i, w1.frozen? ⟨w.heap.size + 1, i, none⟩ = false) ∧ (∃ u, w1.cell? ⟨w.heap.size + 1, 0, none⟩ = some u) ∧ (∃ u, w1.cell? ⟨w.heap.size + 1, 1, none⟩ = some u) ∧ ∃ u, w1.cell? ⟨w.heap.size + 1, 2, none⟩ = some u) := fun w1 hb => by
    obtain ⟨e1, e2⟩ := HBx.out w1 hb
    exact ⟨by unfold World.cell?; rw [e1]; rfl, by unfold World.cell?; rw [e1]; rfl, by unfold World.cell?; rw [e1]; rfl, fun i => (by unfold World.frozen?; rw [e2]; simp), ⟨_, by unfold World.cell?; rw [e2]; rfl⟩, ⟨_, by unfold World.cell?; rw [e2]; rfl⟩, ⟨_, by unfold World.cell?; rw [e2]; rfl⟩⟩
  have HbW : Hid (Below w.heap.size w W) := hbW
  have HFin : Hid (∀ (w1 : World) (regs : Nat) (cv : Value), Below W.heap.size W w1 → CfP par vars d T W w1 regs cv → (((w1.setCell ⟨w.heap.size + 1, 0, none⟩ (.int .i64 p)).setCell ⟨w.heap.size + 1, 1, none⟩ (.int .i64 regs)).setCell ⟨w.heap.size + 1, 2, none⟩ cv).heap[w.heap.size + 1]? = some (.cells #[.int .i64 p, .int .i64 regs, cv] 40 (0, 0))) := fun w1 regs cv hb _ => by
    obtain ⟨_, e2⟩ := HBx.out w1 hb
    rw [heap_setCell_same _ _ 2 _ _ _ (heap_setCell_same _ _ 1 _ _ _ (heap_setCell_same _ _ 0 _ _ _ e2))]
    rfl
  have HFin2 : Hid (∀ (w1 : World) (regs : Nat) (cv : Value), Below W.heap.size W w1 → CfP par vars d T W w1 regs cv → CfP par vars d T w (((w1.setCell ⟨w.heap.size + 1, 0, none⟩ (.int .i64 p)).setCell ⟨w.heap.size + 1, 1, none⟩ (.int .i64 regs)).setCell ⟨w.heap.size + 1, 2, none⟩ cv) regs cv) := fun w1 regs cv hb hc => by
    obtain ⟨_, e2⟩ := HBx.out w1 hb
    exact (((hc.pre hbW).put (by omega) e2 _).put (by omega) (heap_setCell_same _ _ 0 _ _ _ e2) _).put (by omega) (heap_setCell_same _ _ 1 _ _ _ (heap_setCell_same _ _ 0 _ _ _ e2)) _
  have HDr : Hid (∀ (w1 : World) (regs : Nat) (cv : Value), CfP par vars d T w w1 regs cv → CfP par vars d T w w1.drew regs cv) := fun w1 regs cv h => (by obtain ⟨items, once, h1, h2, h3⟩ := h; exact ⟨items, once, h1.trans ((Below.refl _ _).drew), h2.stay (Keeps.of ((Below.refl _ _).drew)) (Keeps.of ((Below.refl _ _).drew)), h3⟩)
  have HKp : Hid (∀ (w1 : World) (X n : Nat) (regs : Nat) (ad : Option Addr) (cap : Nat) (cur : Array Value), Below W.heap.size W w1 → w1.heap[X]? = some (.cells cur 174 (0, 0)) → w1.cell? ⟨X, 2, none⟩ = some (.int .i64 regs) → w1.cell? ⟨X, 44, none⟩ = some (.slice ad n cap) → ∀ v0 v1 v2, (((w1.setCell ⟨w.heap.size + 1, 0, none⟩ v0).setCell ⟨w.heap.size + 1, 1, none⟩ v1).setCell ⟨w.heap.size + 1, 2, none⟩ v2).drew.cell? ⟨w.heap.size, 0, none⟩ = some (.int .i64 p) ∧ (((w1.setCell ⟨w.heap.size + 1, 0, none⟩ v0).setCell ⟨w.heap.size + 1, 1, none⟩ v1).setCell ⟨w.heap.size + 1, 2, none⟩ v2).drew.cell? ⟨X, 2, none⟩ = some (.int .i64 regs) ∧ (((w1.setCell ⟨w.heap.size + 1, 0, none⟩ v0).setCell ⟨w.heap.size + 1, 1, none⟩ v1).setCell ⟨w.heap.size + 1, 2, none⟩ v2).drew.cell? ⟨X, 44, none⟩ = some (.slice ad n cap)) := fun w1 X n regs ad cap cur hb hx h2 h44 v0 v1 v2 => by
    have hX : ¬ X = w.heap.size + 1 := by
      intro e
      have e2 := (HBx.out w1 hb).2
      rw [← e, hx] at e2
      injection e2 with e2; injection e2 with _ e2 _; exact absurd e2 (by decide)
    have g : ∀ q, ¬ q = w.heap.size + 1 → (((w1.setCell ⟨w.heap.size + 1, 0, none⟩ v0).setCell ⟨w.heap.size + 1, 1, none⟩ v1).setCell ⟨w.heap.size + 1, 2, none⟩ v2).heap[q]? = w1.heap[q]? := fun q hq => by
      rw [Below.heap_setCell _ _ _ q hq, Below.heap_setCell _ _ _ q hq, Below.heap_setCell _ _ _ q hq]
    refine ⟨?_, ?_, ?_⟩
    · show (((w1.setCell ⟨w.heap.size + 1, 0, none⟩ v0).setCell ⟨w.heap.size + 1, 1, none⟩ v1).setCell ⟨w.heap.size + 1, 2, none⟩ v2).cell? _ = _
      rw [World.cell?_of_block (w := w1) (a := ⟨w.heap.size, 0, none⟩) (g _ (by show ¬ w.heap.size = w.heap.size + 1; omega))]
      exact (HCl.out w1 hb).1
    · show (((w1.setCell ⟨w.heap.size + 1, 0, none⟩ v0).setCell ⟨w.heap.size + 1, 1, none⟩ v1).setCell ⟨w.heap.size + 1, 2, none⟩ v2).cell? _ = _
      rw [World.cell?_of_block (w := w1) (a := ⟨X, 2, none⟩) (g _ hX)]
      exact h2
    · show (((w1.setCell ⟨w.heap.size + 1, 0, none⟩ v0).setCell ⟨w.heap.size + 1, 1, none⟩ v1).setCell ⟨w.heap.size + 1, 2, none⟩ v2).cell? _ = _
      rw [World.cell?_of_block (w := w1) (a := ⟨X, 44, none⟩) (g _ hX)]
      exact h44
  clear hQ hR hbW
  obtain ⟨q0, q1, q2, qf, qr⟩ := HCl.out W (Below.refl _ _)
  go_enter Tryz.func60, Tryz.ntmps60
  go_upto_region 1 with (fail)
  rw [HW0.out]
  go_upto_region 2 with (first
    | (go_at_call 123; refine (HL.out W true HbW.out).mono ?_; rintro e w1 ⟨X, rfl, P1⟩))
  obtain ⟨n1, regs1, ad1, cap1, k2, k44, B1, ⟨cu1, x1⟩, F1, L1⟩ := P1.out.cells
  have HB1 : Hid (Below W.heap.size W w1) := B1
  by_cases hn : n1 ≤ 2000
  · have hn' : ¬ (2000 : Int) < (n1 : Int) := by omega
    have HC : Hid (CfP par vars d T W w1 regs1 (.slice ad1 n1 cap1)) := F1 hn
    obtain ⟨r0, r1, r2, rf, ⟨u0, v0⟩, ⟨u1, v1⟩, ⟨u2, v2⟩⟩ := HCl.out w1 B1
    clear F1 L1 hn B1 q0 q1 q2 qf qr
    have kk := HKp.out w1 X n1 regs1 ad1 cap1 cu1 HB1.out x1 k2 k44
    go_upto_region 4 with (fail)
    go_region_held3 (fun w' => w'.cell? ⟨w.heap.size, 0, none⟩ = some (.int .i64 p) ∧ w'.cell? ⟨X, 2, none⟩ = some (.int .i64 regs1) ∧ w'.cell? ⟨X, 44, none⟩ = some (.slice ad1 n1 cap1)) (first | (exact kk _ _ _) | go_keep) (fail)
    all_goals (try go_wp2_with fail)
    all_goals refine bodyPost_ret (results_cell_row rfl _ _ (w.heap.size + 1) 40 _ (0, 0) _ rfl (HFin.out w1 regs1 _ HB1.out HC.out) Tryz.underlying40 rfl (by kernel_rfl)) rfl ?_
    all_goals exact ⟨regs1, ad1, n1, cap1, rfl, HDr.out _ _ _ (HFin2.out w1 regs1 _ HB1.out HC.out)⟩
  · have hn' : (2000 : Int) < (n1 : Int) := by omega
    obtain ⟨r0, r1, r2, rf, ⟨u0, v0⟩, ⟨u1, v1⟩, ⟨u2, v2⟩⟩ := HCl.out w1 B1
    clear F1 L1 B1 q0 q1 q2 qf qr v0 v1 v2 rf
    go_upto_region 4 with (first
      | (go_at_call 123; refine (HL.out w1 false (HbW.out.trans (HB1.out.mono HbW.out.size))).mono ?_; rintro e w2 ⟨X2, rfl, P2⟩))
    obtain ⟨n2, regs2, ad2, cap2, k2', k44', B2, ⟨cu2, x2⟩, F2, L2⟩ := P2.out.cells
    have hn2 : n2 ≤ 2000 := HLim.out n2 (fun nf a b c _ => L2 nf a b c rfl)
    have HB2 : Hid (Below W.heap.size W w2) := HB1.out.trans (B2.mono HB1.out.size)
    have HC : Hid (CfP par vars d T W w2 regs2 (.slice ad2 n2 cap2)) := (F2 hn2).pre HB1.out
    obtain ⟨r0', r1', r2', rf, ⟨u0, v0⟩, ⟨u1, v1⟩, ⟨u2, v2⟩⟩ := HCl.out w2 HB2.out
    clear F2 L2 B2 r0 r1 r2 k2 k44 x1 hn hn'
    have kk := HKp.out w2 X2 n2 regs2 ad2 cap2 cu2 HB2.out x2 k2' k44'
    skip
    go_region_held3 (fun w' => w'.cell? ⟨w.heap.size, 0, none⟩ = some (.int .i64 p) ∧ w'.cell? ⟨X2, 2, none⟩ = some (.int .i64 regs2) ∧ w'.cell? ⟨X2, 44, none⟩ = some (.slice ad2 n2 cap2)) (first | (exact kk _ _ _) | go_keep) (fail)
    all_goals (try go_wp2_with fail)
    all_goals refine bodyPost_ret (results_cell_row rfl _ _ (w.heap.size + 1) 40 _ (0, 0) _ rfl (HFin.out w2 regs2 _ HB2.out HC.out) Tryz.underlying40 rfl (by kernel_rfl)) rfl ?_
    all_goals exact ⟨regs2, ad2, n2, cap2, rfl, HDr.out _ _ _ (HFin2.out w2 regs2 _ HB2.out HC.out)⟩
end Go.Proofs.YtbmenihakkogkabGreatDoor
