import Derived.Test.YtbmenihakkogkabGreatDoorPart6
import Derived.Test.YtbmenihakkogkabGreatDoorAddStmt
namespace Go.Proofs.YtbmenihakkogkabGreatDoor
open Go.RowKit Go.Maps
def ToksLow (L : Nat) (w : World) (v : Value) (n : Nat) (k z : Nat → Int) : Prop :=
  ∃ a cap, v = .slice a n cap ∧ n ≤ 100000 ∧ (n = 0 ∨ ∃ b o, a = some ⟨b, o, none⟩ ∧ L ≤ b ∧ b < w.heap.size ∧ ∀ i, i < n → w.cell? ⟨b, o + i * 2, none⟩ = some (.int .i64 (k i)) ∧ w.cell? ⟨b, o + i * 2 + 1, none⟩ = some (.int .i64 (z i)))
theorem ToksIn.lowT {L : Nat} {w : World} {v : Value} {l : List (Int × Int)} (h : ToksIn L w v l) : ToksLow L w v l.length (fun i => (l.getD i (0, 0)).1) (fun i => (l.getD i (0, 0)).2) := by
  obtain ⟨a, cap, rfl, hn, h | ⟨g, rfl, hL, hg, hc⟩⟩ := h
  · exact ⟨a, cap, rfl, hn, Or.inl (by rw [h]; rfl)⟩
  · exact ⟨_, cap, rfl, hn, Or.inr ⟨g, 0, rfl, hL, hg, fun i hi => by rw [Nat.zero_add]; exact hc i hi⟩⟩
theorem ToksLow.save {X L : Nat} {w w' : World} {v : Value} {n : Nat} {k z : Nat → Int} (h : ToksLow L w v n k z) (hs : ∀ k, k < w.heap.size → L ≤ k → w'.heap[k]? = w.heap[k]?) (hz : w.heap.size ≤ w'.heap.size) (_ : X < L) : ToksLow L w' v n k z := by
  obtain ⟨a, cap, rfl, hn, h | ⟨b, o, rfl, hL, hg, hc⟩⟩ := h
  · exact ⟨a, cap, rfl, hn, Or.inl h⟩
  · refine ⟨_, cap, rfl, hn, Or.inr ⟨b, o, rfl, hL, Nat.lt_of_lt_of_le hg hz, fun i hi => ?_⟩⟩
    rw [World.cell?_of_block (w := w) (a := ⟨b, o + i * 2, none⟩) (hs b hg hL), World.cell?_of_block (w := w) (a := ⟨b, o + i * 2 + 1, none⟩) (hs b hg hL)]
    exact hc i hi
theorem ToksLow.toks {L : Nat} {w : World} {v : Value} {n : Nat} {k z : Nat → Int} (h : ToksLow L w v n k z) : ToksAt w.heap.size w v n k z := by
  obtain ⟨a, cap, rfl, hn, h | ⟨b, o, rfl, hL, hg, hc⟩⟩ := h
  · exact ⟨a, cap, rfl, by omega, Or.inl h⟩
  · exact ⟨_, cap, rfl, by omega, Or.inr ⟨b, o, rfl, hg, hc⟩⟩
theorem ToksLow.low {L M : Nat} {w : World} {v : Value} {n : Nat} {k z : Nat → Int} (h : ToksLow L w v n k z) (hM : M ≤ L) : ToksLow M w v n k z := by
  obtain ⟨a, cap, rfl, hn, h | ⟨b, o, rfl, hL, hg, hc⟩⟩ := h
  · exact ⟨a, cap, rfl, hn, Or.inl h⟩
  · exact ⟨_, cap, rfl, hn, Or.inr ⟨b, o, rfl, by omega, hg, hc⟩⟩
def StmtsIn (L : Nat) (w : World) : Nat → Value → SL → Prop
  | 0, v, T => T.len = 0 ∧ ∃ a cap, v = .slice a 0 cap
  | d + 1, v, T => ∃ a cap, v = .slice a T.len cap ∧ T.len ≤ 100000 ∧ (T.len = 0 ∨ ∃ b o, a = some ⟨b, o, none⟩ ∧ L ≤ b ∧ b < w.heap.size ∧ ∀ i, i < T.len →
      ∃ ve vf va vb, w.cell? ⟨b, o + i * 6, none⟩ = some (.int .i64 (T.nd i).kind) ∧ w.cell? ⟨b, o + i * 6 + 1, none⟩ = some (.int .i64 (T.nd i).num) ∧ w.cell? ⟨b, o + i * 6 + 2, none⟩ = some ve ∧ w.cell? ⟨b, o + i * 6 + 3, none⟩ = some vf ∧
        w.cell? ⟨b, o + i * 6 + 4, none⟩ = some va ∧ w.cell? ⟨b, o + i * 6 + 5, none⟩ = some vb ∧
        ToksLow L w ve (T.nd i).ne (T.nd i).ek (T.nd i).ez ∧ ToksLow L w vf (T.nd i).nf (T.nd i).fk (T.nd i).fz ∧ StmtsIn L w d va (T.sub i false) ∧ StmtsIn L w d vb (T.sub i true))
theorem StmtsIn.save {L : Nat} {w w' : World} (hs : ∀ k, k < w.heap.size → L ≤ k → w'.heap[k]? = w.heap[k]?) (hz : w.heap.size ≤ w'.heap.size) (h0 : 0 < L) : ∀ {d : Nat} {v : Value} {T : SL}, StmtsIn L w d v T → StmtsIn L w' d v T
  | 0, _, _, h => h
  | d + 1, v, T, h => by
    obtain ⟨a, cap, rfl, hn, h | ⟨b, o, rfl, hL, hlt, hc⟩⟩ := h
    · exact ⟨a, cap, rfl, hn, Or.inl h⟩
    · refine ⟨_, cap, rfl, hn, Or.inr ⟨b, o, rfl, hL, Nat.lt_of_lt_of_le hlt hz, fun i hi => ?_⟩⟩
      obtain ⟨ve, vf, va, vb, c0, c1, c2, c3, c4, c5, t1, t2, s1, s2⟩ := hc i hi
      have e : ∀ o, w'.cell? ⟨b, o, none⟩ = w.cell? ⟨b, o, none⟩ := fun o => World.cell?_of_block (w := w) (a := ⟨b, o, none⟩) (hs b hlt hL)
      exact ⟨ve, vf, va, vb, by rw [e]; exact c0, by rw [e]; exact c1, by rw [e]; exact c2, by rw [e]; exact c3, by rw [e]; exact c4, by rw [e]; exact c5,
        t1.save hs hz h0, t2.save hs hz h0, StmtsIn.save hs hz h0 s1, StmtsIn.save hs hz h0 s2⟩
theorem StmtsIn.low {L M : Nat} {w : World} (hM : M ≤ L) : ∀ {d : Nat} {v : Value} {T : SL}, StmtsIn L w d v T → StmtsIn M w d v T
  | 0, _, _, h => h
  | d + 1, v, T, h => by
    obtain ⟨a, cap, rfl, hn, h | ⟨b, o, rfl, hL, hlt, hc⟩⟩ := h
    · exact ⟨a, cap, rfl, hn, Or.inl h⟩
    · refine ⟨_, cap, rfl, hn, Or.inr ⟨b, o, rfl, by omega, hlt, fun i hi => ?_⟩⟩
      obtain ⟨ve, vf, va, vb, c0, c1, c2, c3, c4, c5, t1, t2, s1, s2⟩ := hc i hi
      exact ⟨ve, vf, va, vb, c0, c1, c2, c3, c4, c5, t1.low hM, t2.low hM, StmtsIn.low hM s1, StmtsIn.low hM s2⟩
theorem StmtsIn.stmts {L : Nat} {w : World} : ∀ {d : Nat} {v : Value} {T : SL}, StmtsIn L w d v T → StmtsAt w.heap.size w d v T
  | 0, _, _, h => h
  | d + 1, v, T, h => by
    obtain ⟨a, cap, rfl, hn, h | ⟨b, o, rfl, hL, hlt, hc⟩⟩ := h
    · exact ⟨a, cap, rfl, by omega, Or.inl h⟩
    · refine ⟨_, cap, rfl, by omega, Or.inr ⟨b, o, rfl, hlt, fun i hi => ?_⟩⟩
      obtain ⟨ve, vf, va, vb, c0, c1, c2, c3, c4, c5, t1, t2, s1, s2⟩ := hc i hi
      exact ⟨ve, vf, va, vb, c0, c1, c2, c3, c4, c5, t1.toks, t2.toks, StmtsIn.stmts s1, StmtsIn.stmts s2⟩
theorem StmtsIn.succ {L : Nat} {w : World} : ∀ {d : Nat} {v : Value} {T : SL}, StmtsIn L w d v T → StmtsIn L w (d + 1) v T
  | 0, v, T, h => by
    obtain ⟨e, a, cap, rfl⟩ := h
    exact ⟨a, cap, by rw [e], by omega, Or.inl e⟩
  | d + 1, v, T, h => by
    obtain ⟨a, cap, rfl, hn, h | ⟨b, o, rfl, hL, hlt, hc⟩⟩ := h
    · exact ⟨a, cap, rfl, hn, Or.inl h⟩
    · refine ⟨_, cap, rfl, hn, Or.inr ⟨b, o, rfl, hL, hlt, fun i hi => ?_⟩⟩
      obtain ⟨ve, vf, va, vb, c0, c1, c2, c3, c4, c5, t1, t2, s1, s2⟩ := hc i hi
      exact ⟨ve, vf, va, vb, c0, c1, c2, c3, c4, c5, t1, t2, StmtsIn.succ s1, StmtsIn.succ s2⟩
theorem StmtsIn.le {L : Nat} {w : World} {d e : Nat} {v : Value} {T : SL} (h : StmtsIn L w d v T) (hd : d ≤ e) : StmtsIn L w e v T := by
  induction e with
  | zero =>
    obtain rfl : d = 0 := by omega
    exact h
  | succ e ih =>
    by_cases c : d = e + 1
    · subst c; exact h
    · exact (ih (by omega)).succ
theorem StmtsIn.shape {L : Nat} {w : World} {d : Nat} {v : Value} {T : SL} (h : StmtsIn L w d v T) : ∃ a n cap, v = .slice a n cap := by
  cases d with
  | zero => obtain ⟨_, a, cap, rfl⟩ := h; exact ⟨a, 0, cap, rfl⟩
  | succ d => obtain ⟨a, cap, rfl, _⟩ := h; exact ⟨a, _, cap, rfl⟩
theorem ToksIn.shape {L : Nat} {w : World} {v : Value} {l : List (Int × Int)} (h : ToksIn L w v l) : ∃ a n cap, v = .slice a n cap := by
  obtain ⟨a, cap, rfl, _⟩ := h; exact ⟨a, _, cap, rfl⟩
theorem StmtsIn.empty (L : Nat) (w : World) (d : Nat) : StmtsIn L w (d + 1) (.slice none 0 0) noSL := ⟨none, 0, rfl, by show 0 ≤ _; omega, Or.inl rfl⟩
theorem ToksIn.empty (L : Nat) (w : World) : ToksIn L w (.slice none 0 0) [] := ⟨none, 0, rfl, by show 0 ≤ _; omega, Or.inl rfl⟩
def BlkOK (N X nf : Nat) (par : Nat → Int) (fv : Value) (u : Nat) : Prop :=
  ∀ (w : World) (ws : List Wd), Env N w → RD X w ws fv → ParAt X w fv nf par → ws.tail.length ≤ u →
    Calls Tryz.prog 111 #[.pointer (some ⟨X, 0, none⟩)] w fun e w' => ∃ v, e = .returned v ∧ Hid (StmtsIn w.heap.size w' (u + 1) v (blkR nf par u ws).1) ∧ Hid (RD X w' (blkR nf par u ws).2 fv) ∧ Save X w w'
def zero6 : Array Value := #[.int .i64 0, .int .i64 0, .slice none 0 0, .slice none 0 0, .slice none 0 0, .slice none 0 0]
structure StW (X : Nat) (w wi : World) (cs : Array Value) (ws : List Wd) (fv : Value) : Prop where
  box : wi.heap[w.heap.size + 1]? = some (.cells cs 82 (0, 0))
  res : wi.heap[w.heap.size]? = some (.cells zero6 82 (0, 0))
  rd : RD X wi ws fv
  sv : Save X w wi
theorem StW.call {X : Nat} {w wi w' : World} {cs : Array Value} {ws us : List Wd} {fv : Value} (h : StW X w wi cs ws fv) (hX : X < w.heap.size) (hs : Save X wi w') (hr : RD X w' us fv) : StW X w w' cs us fv :=
  ⟨by rw [hs.block _ (Array.getElem?_eq_some_iff.1 h.box).1 (by omega)]; exact h.box, by rw [hs.block _ (Array.getElem?_eq_some_iff.1 h.res).1 (by omega)]; exact h.res, hr, h.sv.trans hs⟩
theorem StW.put {X : Nat} {w wi : World} {cs : Array Value} {ws : List Wd} {fv : Value} (h : StW X w wi cs ws fv) (hX : X < w.heap.size) (i : Nat) (v : Value) : StW X w (wi.setCell ⟨w.heap.size + 1, i, none⟩ v) (cs.setIfInBounds i v) ws fv := by
  have hb : Below (w.heap.size + 1) wi (wi.setCell ⟨w.heap.size + 1, i, none⟩ v) := by
    have := Below.setCell (Below.refl (w.heap.size + 1) wi) (show w.heap.size + 1 ≤ (⟨w.heap.size + 1, i, none⟩ : Addr).block from Nat.le_refl _) v
    exact this
  refine ⟨heap_setCell_same wi _ i cs _ v h.box, by rw [hb.block _ (by omega)]; exact h.res, h.rd.below (hb.mono (by omega)), ⟨hb.os.trans h.sv.os, hb.tape.trans h.sv.tape, hb.output.trans h.sv.output, Nat.le_trans h.sv.size hb.size, fun k hk hx => (hb.block k (by omega)).trans (h.sv.block k hk hx)⟩⟩
theorem StW.cell {X : Nat} {w wi : World} {cs : Array Value} {ws : List Wd} {fv : Value} (h : StW X w wi cs ws fv) (i : Nat) {u : Value} (hu : cs[i]? = some u) : wi.cell? ⟨w.heap.size + 1, i, none⟩ = some u ∧ wi.frozen? ⟨w.heap.size + 1, i, none⟩ = false := by
  constructor
  · unfold World.cell?; rw [h.box]; exact hu
  · unfold World.frozen?; rw [h.box]; simp
theorem StW.zero {X : Nat} {w wi : World} {cs : Array Value} {ws : List Wd} {fv : Value} (h : StW X w wi cs ws fv) (i : Nat) {u : Value} (hu : zero6[i]? = some u) : wi.cell? ⟨w.heap.size, i, none⟩ = some u ∧ wi.frozen? ⟨w.heap.size, i, none⟩ = false := by
  constructor
  · unfold World.cell?; rw [h.res]; exact hu
  · unfold World.frozen?; rw [h.res]; simp
theorem StW.start {X : Nat} {w : World} {ws : List Wd} {fv : Value} (h : RD X w ws fv) (cs : Array Value) : StW X w ((w.alloc (.cells zero6 82)).alloc (.cells cs 82)) cs ws fv := by
  have b1 := bal w (.cells zero6 82)
  have b2 := bal (w.alloc (.cells zero6 82)) (.cells cs 82)
  exact ⟨heap_alloc2_new w _ _, heap_alloc2_old w _ _, (h.keep b1).keep b2, Save.of (bst b1 b2)⟩
theorem set_six {w : World} {b : Nat} {t : TypeId} {v0 v1 v2 v3 v4 v5 : Value} (h : w.heap[b]? = some (.cells zero6 t (0, 0))) :
    ((((((w.setCell ⟨b, 0, none⟩ v0).setCell ⟨b, 1, none⟩ v1).setCell ⟨b, 2, none⟩ v2).setCell ⟨b, 3, none⟩ v3).setCell ⟨b, 4, none⟩ v4).setCell ⟨b, 5, none⟩ v5).heap[b]? = some (.cells #[v0, v1, v2, v3, v4, v5] t (0, 0)) := by
  rw [heap_setCell_same _ b 5 _ _ v5 (heap_setCell_same _ b 4 _ _ v4 (heap_setCell_same _ b 3 _ _ v3 (heap_setCell_same _ b 2 _ _ v2 (heap_setCell_same _ b 1 _ _ v1 (heap_setCell_same w b 0 _ _ v0 h)))))]
  rfl
structure Far (m : Nat) (a b : World) : Prop where
  block : ∀ k, k < a.heap.size → m ≤ k → b.heap[k]? = a.heap[k]?
  size : a.heap.size ≤ b.heap.size
theorem Far.trans {m : Nat} {a b c : World} (h : Far m a b) (k : Far m b c) : Far m a c := ⟨fun n hn hm => (k.block n (Nat.lt_of_lt_of_le hn h.size) hm).trans (h.block n hn hm), Nat.le_trans h.size k.size⟩
theorem Far.of {X m : Nat} {a b : World} (h : Save X a b) (hX : X < m) : Far m a b := ⟨fun k hk hm => h.block k hk (by omega), h.size⟩
theorem Far.set {m : Nat} (a : World) (b i : Nat) (v : Value) (hb : b < m) : Far m a (a.setCell ⟨b, i, none⟩ v) := ⟨fun k _ hm => Below.heap_setCell _ _ _ k (by show ¬ k = b; omega), Nat.le_of_eq (World.size_setCell _ _ _).symm⟩
theorem ToksIn.far {L m : Nat} {a b : World} {v : Value} {l : List (Int × Int)} (h : ToksIn L a v l) (hm : m ≤ L) (hf : Far m a b) : ToksIn L b v l := by
  obtain ⟨x, cap, rfl, hn, h | ⟨g, rfl, hL, hg, hc⟩⟩ := h
  · exact ⟨x, cap, rfl, hn, Or.inl h⟩
  · refine ⟨_, cap, rfl, hn, Or.inr ⟨g, rfl, hL, Nat.lt_of_lt_of_le hg hf.size, fun i hi => ?_⟩⟩
    rw [World.cell?_of_block (w := a) (a := ⟨g, i * 2, none⟩) (hf.block g hg (by omega)), World.cell?_of_block (w := a) (a := ⟨g, i * 2 + 1, none⟩) (hf.block g hg (by omega))]
    exact hc i hi
theorem StmtsIn.far {L m : Nat} {a b : World} {d : Nat} {v : Value} {T : SL} (h : StmtsIn L a d v T) (hm : m ≤ L) (h0 : 0 < L) (hf : Far m a b) : StmtsIn L b d v T := h.save (fun k hk hL => hf.block k hk (by omega)) hf.size h0
theorem Save.put {X : Nat} {w a : World} (h : Save X w a) (i : Nat) (v : Value) : Save X w (a.setCell ⟨w.heap.size, i, none⟩ v) :=
  ⟨h.os, h.tape, h.output, Nat.le_trans h.size (Nat.le_of_eq (World.size_setCell _ _ _).symm), fun k hk hx => (Below.heap_setCell _ _ _ k (by show ¬ k = w.heap.size; omega)).trans (h.block k hk hx)⟩
theorem RD.put {X b : Nat} {a : World} {ws : List Wd} {fv : Value} (h : RD X a ws fv) (hb : X < b) (i : Nat) (v : Value) : RD X (a.setCell ⟨b, i, none⟩ v) ws fv :=
  h.below ⟨rfl, rfl, rfl, Nat.le_of_eq (World.size_setCell _ _ _).symm, fun k hk => Below.heap_setCell _ _ _ k (by show ¬ k = b; omega)⟩
theorem StW.fin {X : Nat} {w a : World} {cs : Array Value} {ws : List Wd} {fv : Value} (h : StW X w a cs ws fv) (hX : X < w.heap.size) (v0 v1 v2 v3 v4 v5 : Value) :
    RD X ((((((a.setCell ⟨w.heap.size, 0, none⟩ v0).setCell ⟨w.heap.size, 1, none⟩ v1).setCell ⟨w.heap.size, 2, none⟩ v2).setCell ⟨w.heap.size, 3, none⟩ v3).setCell ⟨w.heap.size, 4, none⟩ v4).setCell ⟨w.heap.size, 5, none⟩ v5) ws fv ∧
    Save X w ((((((a.setCell ⟨w.heap.size, 0, none⟩ v0).setCell ⟨w.heap.size, 1, none⟩ v1).setCell ⟨w.heap.size, 2, none⟩ v2).setCell ⟨w.heap.size, 3, none⟩ v3).setCell ⟨w.heap.size, 4, none⟩ v4).setCell ⟨w.heap.size, 5, none⟩ v5) ∧
    Far (w.heap.size + 2) a ((((((a.setCell ⟨w.heap.size, 0, none⟩ v0).setCell ⟨w.heap.size, 1, none⟩ v1).setCell ⟨w.heap.size, 2, none⟩ v2).setCell ⟨w.heap.size, 3, none⟩ v3).setCell ⟨w.heap.size, 4, none⟩ v4).setCell ⟨w.heap.size, 5, none⟩ v5) :=
  ⟨(((((h.rd.put hX _ _).put hX _ _).put hX _ _).put hX _ _).put hX _ _).put hX _ _, (((((h.sv.put _ _).put _ _).put _ _).put _ _).put _ _).put _ _,
    ((((((Far.set a _ _ _ (by omega)).trans (Far.set _ _ _ _ (by omega))).trans (Far.set _ _ _ _ (by omega))).trans (Far.set _ _ _ _ (by omega))).trans (Far.set _ _ _ _ (by omega)))).trans (Far.set _ _ _ _ (by omega))⟩
theorem StW.room {X : Nat} {w a : World} {cs : Array Value} {ws : List Wd} {fv : Value} (h : StW X w a cs ws fv) : w.heap.size + 2 ≤ a.heap.size := (Array.getElem?_eq_some_iff.1 h.box).1
def StP (X nf : Nat) (par : Nat → Int) (fv : Value) (t K : Nat) (ws : List Wd) (w w' : World) (ve vf va vb : Value) : Prop :=
  ToksIn w.heap.size w' ve (st2 nf par K ws).1 ∧ ToksIn w.heap.size w' vf (st3 nf par K ws).1 ∧ StmtsIn w.heap.size w' (t + 1) va (st4 nf par (blkR nf par t) K ws).1 ∧ StmtsIn w.heap.size w' (t + 1) vb (st5 nf par (blkR nf par t) K ws).1 ∧
    RD X w' (st5 nf par (blkR nf par t) K ws).2 fv ∧ Save X w w'
theorem exprR_len (nf : Nat) (par : Nat → Int) : ∀ (ws : List Wd) (q : Int), (exprR nf par q ws).2.length ≤ ws.length
  | [], _ => Nat.le_refl _
  | w :: ws, q => by
    rw [exprR]
    split
    · have := exprR_len nf par ws (wrap64 (wrap64 (q + asksR nf par (tokOf w)) - 1))
      simp only [List.length_cons]; omega
    · exact Nat.le_refl _
theorem blkR_len (nf : Nat) (par : Nat → Int) : ∀ (u : Nat) (ws : List Wd), (blkR nf par u ws).2.length ≤ ws.length := by
  have key : ∀ (u : Nat) (ws : List Wd), (loopR nf par u ws).2.length ≤ ws.length := by
    intro u
    induction u with
    | zero => intro ws; exact Nat.le_refl _
    | succ u ih =>
      intro ws
      rw [loopR]
      split
      · simp
      · have e5 : ∀ k us, (st5 nf par (fun ws => (mkT (loopR nf par u ws.tail).1, (loopR nf par u ws.tail).2)) k us).2.length ≤ us.length := by
          intro k us
          have b : ∀ us : List Wd, (loopR nf par u us.tail).2.length ≤ us.length := fun us => Nat.le_trans (ih _) (by simp)
          have e1 : (st1 k us).length ≤ us.length := by unfold st1; split <;> simp
          have e2 : (st2 nf par k us).2.length ≤ us.length := by
            unfold st2; split
            · exact e1
            · exact Nat.le_trans (exprR_len nf par _ _) e1
          have e3 : (st3 nf par k us).2.length ≤ us.length := by
            unfold st3; split
            · exact Nat.le_trans (exprR_len nf par _ _) e2
            · exact e2
          have e4 : (st4 nf par (fun ws => (mkT (loopR nf par u ws.tail).1, (loopR nf par u ws.tail).2)) k us).2.length ≤ us.length := by
            unfold st4; split
            · exact Nat.le_trans (b _) e3
            · exact e3
          unfold st5; split
          · exact Nat.le_trans (b _) e4
          · exact e4
        refine Nat.le_trans (ih _) (Nat.le_trans (e5 _ _) (by simp))
  intro u ws
  exact Nat.le_trans (key u _) (by simp)
set_option maxHeartbeats 4000000 in
theorem stmt_set (N X : Nat) (hNX : N ≤ X) (nf : Nat) (par : Nat → Int) (fv : Value) (t : Nat) (_HB : Hid (BlkOK N X nf par fv t)) (w : World) (ws : List Wd) (K : Nat) (he : Env N w) (h : RD X w ws fv) (hp : ParAt X w fv nf par) (hl : ws.length ≤ t) (hK : 0 < K ∧ K < 2) :
    Calls Tryz.prog 158 #[.pointer (some ⟨X, 0, none⟩), .int .i64 K] w fun e w' => ∃ ve vf va vb, e = .returned (.agg #[.int .i64 K, .int .i64 (if hasN K then numR ws else 0), ve, vf, va, vb]) ∧ Hid (StP X nf par fv t K ws w w' ve vf va vb) := by
  have hX := h.lt
  have HE : Hid (Env N w) := he
  have HP : Hid (ParAt X w fv nf par) := hp
  have H0 := StW.start h #[.int .i64 (K : Int), .int .i64 0, .slice none 0 0, .slice none 0 0, .slice none 0 0, .slice none 0 0]
  have HEn : Hid (∀ wi, Save X w wi → Env N wi) := fun wi hs => HE.out.below (hs.low hNX (by omega))
  have HPa : Hid (∀ wi, Save X w wi → ParAt X wi fv nf par) := fun wi hs => HP.out.save hs hX
  have HN : Hid (∀ w, Calls Tryz.prog 152 #[.int .i64 (K : Int)] w fun e w' => e = .returned (.bool true) ∧ w' = w) := fun w => by
    have h := hasN_run K w
    rw [show decide ((K : Int) = 1 ∨ (K : Int) = 2) = true by simp; omega] at h
    exact h
  have HA : Hid (∀ w, Calls Tryz.prog 154 #[.int .i64 (K : Int)] w fun e w' => e = .returned (.bool false) ∧ w' = w) := fun w => by
    have h := hasA_run K w
    rw [show decide ((K : Int) = 6 ∨ (K : Int) = 7) = false by simp; omega] at h
    exact h
  have hN : hasN K = true := by unfold hasN; simp; omega
  have hA : hasA K = false := by unfold hasA; simp; omega
  have k4 : ((K : Int) != 4) = true := by simp; omega
  have k2 : ((K : Int) == 2) = false := by simp; omega
  have k6 : ((K : Int) == 6) = false := by simp; omega
  have HS1 : Hid (st1 K ws = ws.tail) := by show st1 K ws = _; unfold st1; rw [hN]; rfl
  have HS2 : Hid (st2 nf par K ws = exprR nf par 1 (ws.tail)) := by show st2 nf par K ws = _; unfold st2; rw [if_neg (by omega), HS1.out]
  have HS3 : Hid (st3 nf par K ws = ([], (st2 nf par K ws).2)) := by show st3 nf par K ws = _; unfold st3; rw [if_neg (by omega)]
  have HS4 : Hid (st4 nf par (blkR nf par t) K ws = (noSL, (st3 nf par K ws).2)) := by show st4 nf par (blkR nf par t) K ws = _; unfold st4; rw [hA]; rfl
  have HS5 : Hid (st5 nf par (blkR nf par t) K ws = (noSL, (st4 nf par (blkR nf par t) K ws).2)) := by show st5 nf par (blkR nf par t) K ws = _; unfold st5; rw [if_neg (by omega)]
  have hl1 : (ws.tail).length ≤ t := by exact tail_length hl
  have hl2 : (st2 nf par K ws).2.length ≤ t := by rw [HS2.out]; exact Nat.le_trans (exprR_len nf par _ _) hl1
  have hl3 : (st3 nf par K ws).2.length ≤ t := by rw [HS3.out]; exact hl2
  rw [show (if hasN K then numR ws else 0) = numR ws by rw [hN]; rfl]
  have HH0 : Hid (StW X w ((w.alloc (.cells zero6 82)).alloc (.cells #[.int .i64 (K : Int), .int .i64 0, .slice none 0 0, .slice none 0 0, .slice none 0 0, .slice none 0 0] 82)) #[.int .i64 (K : Int), .int .i64 0, .slice none 0 0, .slice none 0 0, .slice none 0 0, .slice none 0 0] ws fv) := H0
  clear he h hp H0 hN hA
  unfold zero6 at HH0
  go_enter Tryz.func158, Tryz.ntmps158
  go_upto_region 2 with (fail)
  generalize (w.alloc (.cells #[.int .i64 0, .int .i64 0, .slice none 0 0, .slice none 0 0, .slice none 0 0, .slice none 0 0] 82)).alloc (.cells #[.int .i64 (K : Int), .int .i64 0, .slice none 0 0, .slice none 0 0, .slice none 0 0, .slice none 0 0] 82) = W0 at *
  go_upto_region 4 with (first
    | (go_at_call 152; refine (HN.out _).mono ?_; rintro e w2 ⟨rfl, h2⟩; rw [h2]; clear h2)
    | (go_at_call 110; refine (number N X W0 ws fv hNX (HEn.out _ HH0.out.sv) HH0.out.rd).mono ?_; rintro e x1 ⟨rfl, R1, s1⟩; have T1 := HH0.out.call hX s1 R1.out; obtain ⟨y1, z1⟩ := T1.cell 1 rfl))
  have U1 := T1.put hX 1 (.int .i64 (numR ws))
  have P1 : Hid (StW X w (x1.setCell ⟨w.heap.size + 1, 1, none⟩ (.int .i64 (numR ws))) #[.int .i64 (K : Int), .int .i64 (numR ws), .slice none 0 0, .slice none 0 0, .slice none 0 0, .slice none 0 0] (ws.tail) fv) := U1
  have HSv1 : Hid (Far (w.heap.size + 2) W0 x1) := Far.of s1 (by omega)
  have HFa1 : Hid (Far (w.heap.size + 2) x1 (x1.setCell ⟨w.heap.size + 1, 1, none⟩ (.int .i64 (numR ws)))) := Far.set _ _ _ _ (by omega)
  have hrm1 : w.heap.size + 2 ≤ W0.heap.size := HH0.out.room
  clear T1 U1 y1 z1 s1 R1
  generalize x1.setCell ⟨w.heap.size + 1, 1, none⟩ (.int .i64 (numR ws)) = W1 at *
  go_upto_region 6 with (first
    | (go_at_call 195; refine (rexpr N X hNX nf par fv W1 (ws.tail) (HEn.out _ P1.out.sv) P1.out.rd (HPa.out _ P1.out.sv)).mono ?_; rintro e x2 ⟨v2, rfl, Q2, R2, s2⟩; obtain ⟨pa2, pn2, pc2, rfl⟩ := Q2.out.shape; have T2 := P1.out.call hX s2 R2.out; obtain ⟨y2, z2⟩ := T2.cell 2 rfl))
  have U2 := T2.put hX 2 (.slice pa2 pn2 pc2)
  have P2 : Hid (StW X w (x2.setCell ⟨w.heap.size + 1, 2, none⟩ (.slice pa2 pn2 pc2)) #[.int .i64 (K : Int), .int .i64 (numR ws), .slice pa2 pn2 pc2, .slice none 0 0, .slice none 0 0, .slice none 0 0] (st2 nf par K ws).2 fv) := by
    show StW _ _ _ _ _ _
    rw [HS2.out]
    exact U2
  have HSv2 : Hid (Far (w.heap.size + 2) W1 x2) := Far.of s2 (by omega)
  have HFa2 : Hid (Far (w.heap.size + 2) x2 (x2.setCell ⟨w.heap.size + 1, 2, none⟩ (.slice pa2 pn2 pc2))) := Far.set _ _ _ _ (by omega)
  have hrm2 : w.heap.size + 2 ≤ W1.heap.size := P1.out.room
  clear T2 U2 y2 z2 s2 R2
  generalize x2.setCell ⟨w.heap.size + 1, 2, none⟩ (.slice pa2 pn2 pc2) = W2 at *
  go_upto_region 8 with (fail)
  go_upto_region 10 with (first | (go_at_call 154; refine (HA.out _).mono ?_; rintro e w2 ⟨rfl, h2⟩; rw [h2]; clear h2))
  go_upto_region 12 with (fail)
  obtain ⟨a0, _⟩ := P2.out.cell 0 rfl
  obtain ⟨a1, _⟩ := P2.out.cell 1 rfl
  obtain ⟨a2, _⟩ := P2.out.cell 2 rfl
  obtain ⟨a3, _⟩ := P2.out.cell 3 rfl
  obtain ⟨a4, _⟩ := P2.out.cell 4 rfl
  obtain ⟨a5, _⟩ := P2.out.cell 5 rfl
  obtain ⟨r0, f0⟩ := P2.out.zero 0 rfl
  obtain ⟨r1, f1⟩ := P2.out.zero 1 rfl
  obtain ⟨r2, f2⟩ := P2.out.zero 2 rfl
  obtain ⟨r3, f3⟩ := P2.out.zero 3 rfl
  obtain ⟨r4, f4⟩ := P2.out.zero 4 rfl
  obtain ⟨r5, f5⟩ := P2.out.zero 5 rfl
  have HC := set_six (v0 := .int .i64 (K : Int)) (v1 := .int .i64 (numR ws)) (v2 := .slice pa2 pn2 pc2) (v3 := .slice none 0 0) (v4 := .slice none 0 0) (v5 := .slice none 0 0) P2.out.res
  have HCC : Hid (((((((W2.setCell ⟨w.heap.size, 0, none⟩ (.int .i64 (K : Int))).setCell ⟨w.heap.size, 1, none⟩ (.int .i64 (numR ws))).setCell ⟨w.heap.size, 2, none⟩ (.slice pa2 pn2 pc2)).setCell ⟨w.heap.size, 3, none⟩ (.slice none 0 0)).setCell ⟨w.heap.size, 4, none⟩ (.slice none 0 0)).setCell ⟨w.heap.size, 5, none⟩ (.slice none 0 0)).heap[w.heap.size]? = some (.cells #[.int .i64 (K : Int), .int .i64 (numR ws), .slice pa2 pn2 pc2, .slice none 0 0, .slice none 0 0, .slice none 0 0] 82 (0, 0))) := HC
  clear HC
  go_wp2_with fail
  refine bodyPost_ret (results_cell_row rfl _ _ w.heap.size 82 _ (0, 0) _ rfl HCC.out Tryz.underlying82 rfl (by kernel_rfl)) rfl ?_
  obtain ⟨zr, zs, zf⟩ := P2.out.fin hX (.int .i64 (K : Int)) (.int .i64 (numR ws)) (.slice pa2 pn2 pc2) (.slice none 0 0) (.slice none 0 0) (.slice none 0 0)
  exact ⟨_, _, _, _, rfl, ⟨(by rw [HS2.out]; exact (Q2.out.far hrm2 ((HFa2.out).trans zf)).low (by omega)), (by rw [HS3.out]; exact ToksIn.empty _ _), (by rw [HS4.out]; exact StmtsIn.empty _ _ _), (by rw [HS5.out]; exact StmtsIn.empty _ _ _), (by rw [HS5.out, HS4.out, HS3.out]; exact zr), zs⟩⟩
set_option maxHeartbeats 4000000 in
theorem stmt_put (N X : Nat) (hNX : N ≤ X) (nf : Nat) (par : Nat → Int) (fv : Value) (t : Nat) (_HB : Hid (BlkOK N X nf par fv t)) (w : World) (ws : List Wd) (K : Nat) (he : Env N w) (h : RD X w ws fv) (hp : ParAt X w fv nf par) (hl : ws.length ≤ t) (hK : 1 < K ∧ K < 3) :
    Calls Tryz.prog 158 #[.pointer (some ⟨X, 0, none⟩), .int .i64 K] w fun e w' => ∃ ve vf va vb, e = .returned (.agg #[.int .i64 K, .int .i64 (if hasN K then numR ws else 0), ve, vf, va, vb]) ∧ Hid (StP X nf par fv t K ws w w' ve vf va vb) := by
  have hX := h.lt
  have HE : Hid (Env N w) := he
  have HP : Hid (ParAt X w fv nf par) := hp
  have H0 := StW.start h #[.int .i64 (K : Int), .int .i64 0, .slice none 0 0, .slice none 0 0, .slice none 0 0, .slice none 0 0]
  have HEn : Hid (∀ wi, Save X w wi → Env N wi) := fun wi hs => HE.out.below (hs.low hNX (by omega))
  have HPa : Hid (∀ wi, Save X w wi → ParAt X wi fv nf par) := fun wi hs => HP.out.save hs hX
  have HN : Hid (∀ w, Calls Tryz.prog 152 #[.int .i64 (K : Int)] w fun e w' => e = .returned (.bool true) ∧ w' = w) := fun w => by
    have h := hasN_run K w
    rw [show decide ((K : Int) = 1 ∨ (K : Int) = 2) = true by simp; omega] at h
    exact h
  have HA : Hid (∀ w, Calls Tryz.prog 154 #[.int .i64 (K : Int)] w fun e w' => e = .returned (.bool false) ∧ w' = w) := fun w => by
    have h := hasA_run K w
    rw [show decide ((K : Int) = 6 ∨ (K : Int) = 7) = false by simp; omega] at h
    exact h
  have hN : hasN K = true := by unfold hasN; simp; omega
  have hA : hasA K = false := by unfold hasA; simp; omega
  have k4 : ((K : Int) != 4) = true := by simp; omega
  have k2 : ((K : Int) == 2) = true := by simp; omega
  have k6 : ((K : Int) == 6) = false := by simp; omega
  have HS1 : Hid (st1 K ws = ws.tail) := by show st1 K ws = _; unfold st1; rw [hN]; rfl
  have HS2 : Hid (st2 nf par K ws = exprR nf par 1 (ws.tail)) := by show st2 nf par K ws = _; unfold st2; rw [if_neg (by omega), HS1.out]
  have HS3 : Hid (st3 nf par K ws = exprR nf par 1 (st2 nf par K ws).2) := by show st3 nf par K ws = _; unfold st3; rw [if_pos (by omega)]
  have HS4 : Hid (st4 nf par (blkR nf par t) K ws = (noSL, (st3 nf par K ws).2)) := by show st4 nf par (blkR nf par t) K ws = _; unfold st4; rw [hA]; rfl
  have HS5 : Hid (st5 nf par (blkR nf par t) K ws = (noSL, (st4 nf par (blkR nf par t) K ws).2)) := by show st5 nf par (blkR nf par t) K ws = _; unfold st5; rw [if_neg (by omega)]
  have hl1 : (ws.tail).length ≤ t := by exact tail_length hl
  have hl2 : (st2 nf par K ws).2.length ≤ t := by rw [HS2.out]; exact Nat.le_trans (exprR_len nf par _ _) hl1
  have hl3 : (st3 nf par K ws).2.length ≤ t := by rw [HS3.out]; exact Nat.le_trans (exprR_len nf par _ _) hl2
  rw [show (if hasN K then numR ws else 0) = numR ws by rw [hN]; rfl]
  have HH0 : Hid (StW X w ((w.alloc (.cells zero6 82)).alloc (.cells #[.int .i64 (K : Int), .int .i64 0, .slice none 0 0, .slice none 0 0, .slice none 0 0, .slice none 0 0] 82)) #[.int .i64 (K : Int), .int .i64 0, .slice none 0 0, .slice none 0 0, .slice none 0 0, .slice none 0 0] ws fv) := H0
  clear he h hp H0 hN hA
  unfold zero6 at HH0
  go_enter Tryz.func158, Tryz.ntmps158
  go_upto_region 2 with (fail)
  generalize (w.alloc (.cells #[.int .i64 0, .int .i64 0, .slice none 0 0, .slice none 0 0, .slice none 0 0, .slice none 0 0] 82)).alloc (.cells #[.int .i64 (K : Int), .int .i64 0, .slice none 0 0, .slice none 0 0, .slice none 0 0, .slice none 0 0] 82) = W0 at *
  go_upto_region 4 with (first
    | (go_at_call 152; refine (HN.out _).mono ?_; rintro e w2 ⟨rfl, h2⟩; rw [h2]; clear h2)
    | (go_at_call 110; refine (number N X W0 ws fv hNX (HEn.out _ HH0.out.sv) HH0.out.rd).mono ?_; rintro e x1 ⟨rfl, R1, s1⟩; have T1 := HH0.out.call hX s1 R1.out; obtain ⟨y1, z1⟩ := T1.cell 1 rfl))
  have U1 := T1.put hX 1 (.int .i64 (numR ws))
  have P1 : Hid (StW X w (x1.setCell ⟨w.heap.size + 1, 1, none⟩ (.int .i64 (numR ws))) #[.int .i64 (K : Int), .int .i64 (numR ws), .slice none 0 0, .slice none 0 0, .slice none 0 0, .slice none 0 0] (ws.tail) fv) := U1
  have HSv1 : Hid (Far (w.heap.size + 2) W0 x1) := Far.of s1 (by omega)
  have HFa1 : Hid (Far (w.heap.size + 2) x1 (x1.setCell ⟨w.heap.size + 1, 1, none⟩ (.int .i64 (numR ws)))) := Far.set _ _ _ _ (by omega)
  have hrm1 : w.heap.size + 2 ≤ W0.heap.size := HH0.out.room
  clear T1 U1 y1 z1 s1 R1
  generalize x1.setCell ⟨w.heap.size + 1, 1, none⟩ (.int .i64 (numR ws)) = W1 at *
  go_upto_region 6 with (first
    | (go_at_call 195; refine (rexpr N X hNX nf par fv W1 (ws.tail) (HEn.out _ P1.out.sv) P1.out.rd (HPa.out _ P1.out.sv)).mono ?_; rintro e x2 ⟨v2, rfl, Q2, R2, s2⟩; obtain ⟨pa2, pn2, pc2, rfl⟩ := Q2.out.shape; have T2 := P1.out.call hX s2 R2.out; obtain ⟨y2, z2⟩ := T2.cell 2 rfl))
  have U2 := T2.put hX 2 (.slice pa2 pn2 pc2)
  have P2 : Hid (StW X w (x2.setCell ⟨w.heap.size + 1, 2, none⟩ (.slice pa2 pn2 pc2)) #[.int .i64 (K : Int), .int .i64 (numR ws), .slice pa2 pn2 pc2, .slice none 0 0, .slice none 0 0, .slice none 0 0] (st2 nf par K ws).2 fv) := by
    show StW _ _ _ _ _ _
    rw [HS2.out]
    exact U2
  have HSv2 : Hid (Far (w.heap.size + 2) W1 x2) := Far.of s2 (by omega)
  have HFa2 : Hid (Far (w.heap.size + 2) x2 (x2.setCell ⟨w.heap.size + 1, 2, none⟩ (.slice pa2 pn2 pc2))) := Far.set _ _ _ _ (by omega)
  have hrm2 : w.heap.size + 2 ≤ W1.heap.size := P1.out.room
  clear T2 U2 y2 z2 s2 R2
  generalize x2.setCell ⟨w.heap.size + 1, 2, none⟩ (.slice pa2 pn2 pc2) = W2 at *
  go_upto_region 8 with (first
    | (go_at_call 195; refine (rexpr N X hNX nf par fv W2 (st2 nf par K ws).2 (HEn.out _ P2.out.sv) P2.out.rd (HPa.out _ P2.out.sv)).mono ?_; rintro e x3 ⟨v3, rfl, Q3, R3, s3⟩; obtain ⟨pa3, pn3, pc3, rfl⟩ := Q3.out.shape; have T3 := P2.out.call hX s3 R3.out; obtain ⟨y3, z3⟩ := T3.cell 3 rfl))
  have U3 := T3.put hX 3 (.slice pa3 pn3 pc3)
  have P3 : Hid (StW X w (x3.setCell ⟨w.heap.size + 1, 3, none⟩ (.slice pa3 pn3 pc3)) #[.int .i64 (K : Int), .int .i64 (numR ws), .slice pa2 pn2 pc2, .slice pa3 pn3 pc3, .slice none 0 0, .slice none 0 0] (st3 nf par K ws).2 fv) := by
    show StW _ _ _ _ _ _
    rw [HS3.out]
    exact U3
  have HSv3 : Hid (Far (w.heap.size + 2) W2 x3) := Far.of s3 (by omega)
  have HFa3 : Hid (Far (w.heap.size + 2) x3 (x3.setCell ⟨w.heap.size + 1, 3, none⟩ (.slice pa3 pn3 pc3))) := Far.set _ _ _ _ (by omega)
  have hrm3 : w.heap.size + 2 ≤ W2.heap.size := P2.out.room
  clear T3 U3 y3 z3 s3 R3
  generalize x3.setCell ⟨w.heap.size + 1, 3, none⟩ (.slice pa3 pn3 pc3) = W3 at *
  go_upto_region 10 with (first | (go_at_call 154; refine (HA.out _).mono ?_; rintro e w2 ⟨rfl, h2⟩; rw [h2]; clear h2))
  go_upto_region 12 with (fail)
  obtain ⟨a0, _⟩ := P3.out.cell 0 rfl
  obtain ⟨a1, _⟩ := P3.out.cell 1 rfl
  obtain ⟨a2, _⟩ := P3.out.cell 2 rfl
  obtain ⟨a3, _⟩ := P3.out.cell 3 rfl
  obtain ⟨a4, _⟩ := P3.out.cell 4 rfl
  obtain ⟨a5, _⟩ := P3.out.cell 5 rfl
  obtain ⟨r0, f0⟩ := P3.out.zero 0 rfl
  obtain ⟨r1, f1⟩ := P3.out.zero 1 rfl
  obtain ⟨r2, f2⟩ := P3.out.zero 2 rfl
  obtain ⟨r3, f3⟩ := P3.out.zero 3 rfl
  obtain ⟨r4, f4⟩ := P3.out.zero 4 rfl
  obtain ⟨r5, f5⟩ := P3.out.zero 5 rfl
  have HC := set_six (v0 := .int .i64 (K : Int)) (v1 := .int .i64 (numR ws)) (v2 := .slice pa2 pn2 pc2) (v3 := .slice pa3 pn3 pc3) (v4 := .slice none 0 0) (v5 := .slice none 0 0) P3.out.res
  have HCC : Hid (((((((W3.setCell ⟨w.heap.size, 0, none⟩ (.int .i64 (K : Int))).setCell ⟨w.heap.size, 1, none⟩ (.int .i64 (numR ws))).setCell ⟨w.heap.size, 2, none⟩ (.slice pa2 pn2 pc2)).setCell ⟨w.heap.size, 3, none⟩ (.slice pa3 pn3 pc3)).setCell ⟨w.heap.size, 4, none⟩ (.slice none 0 0)).setCell ⟨w.heap.size, 5, none⟩ (.slice none 0 0)).heap[w.heap.size]? = some (.cells #[.int .i64 (K : Int), .int .i64 (numR ws), .slice pa2 pn2 pc2, .slice pa3 pn3 pc3, .slice none 0 0, .slice none 0 0] 82 (0, 0))) := HC
  clear HC
  go_wp2_with fail
  refine bodyPost_ret (results_cell_row rfl _ _ w.heap.size 82 _ (0, 0) _ rfl HCC.out Tryz.underlying82 rfl (by kernel_rfl)) rfl ?_
  obtain ⟨zr, zs, zf⟩ := P3.out.fin hX (.int .i64 (K : Int)) (.int .i64 (numR ws)) (.slice pa2 pn2 pc2) (.slice pa3 pn3 pc3) (.slice none 0 0) (.slice none 0 0)
  exact ⟨_, _, _, _, rfl, ⟨(by rw [HS2.out]; exact (Q2.out.far hrm2 ((((HFa2.out).trans (HSv3.out.trans HFa3.out))).trans zf)).low (by omega)), (by rw [HS3.out]; exact (Q3.out.far hrm3 ((HFa3.out).trans zf)).low (by omega)), (by rw [HS4.out]; exact StmtsIn.empty _ _ _), (by rw [HS5.out]; exact StmtsIn.empty _ _ _), (by rw [HS5.out, HS4.out]; exact zr), zs⟩⟩
set_option maxHeartbeats 4000000 in
theorem stmt_say (N X : Nat) (hNX : N ≤ X) (nf : Nat) (par : Nat → Int) (fv : Value) (t : Nat) (_HB : Hid (BlkOK N X nf par fv t)) (w : World) (ws : List Wd) (K : Nat) (he : Env N w) (h : RD X w ws fv) (hp : ParAt X w fv nf par) (hl : ws.length ≤ t) (hK : K = 3 ∨ K = 5 ∨ K = 8) :
    Calls Tryz.prog 158 #[.pointer (some ⟨X, 0, none⟩), .int .i64 K] w fun e w' => ∃ ve vf va vb, e = .returned (.agg #[.int .i64 K, .int .i64 (if hasN K then numR ws else 0), ve, vf, va, vb]) ∧ Hid (StP X nf par fv t K ws w w' ve vf va vb) := by
  have hX := h.lt
  have HE : Hid (Env N w) := he
  have HP : Hid (ParAt X w fv nf par) := hp
  have H0 := StW.start h #[.int .i64 (K : Int), .int .i64 0, .slice none 0 0, .slice none 0 0, .slice none 0 0, .slice none 0 0]
  have HEn : Hid (∀ wi, Save X w wi → Env N wi) := fun wi hs => HE.out.below (hs.low hNX (by omega))
  have HPa : Hid (∀ wi, Save X w wi → ParAt X wi fv nf par) := fun wi hs => HP.out.save hs hX
  have HN : Hid (∀ w, Calls Tryz.prog 152 #[.int .i64 (K : Int)] w fun e w' => e = .returned (.bool false) ∧ w' = w) := fun w => by
    have h := hasN_run K w
    rw [show decide ((K : Int) = 1 ∨ (K : Int) = 2) = false by simp; omega] at h
    exact h
  have HA : Hid (∀ w, Calls Tryz.prog 154 #[.int .i64 (K : Int)] w fun e w' => e = .returned (.bool false) ∧ w' = w) := fun w => by
    have h := hasA_run K w
    rw [show decide ((K : Int) = 6 ∨ (K : Int) = 7) = false by simp; omega] at h
    exact h
  have hN : hasN K = false := by unfold hasN; simp; omega
  have hA : hasA K = false := by unfold hasA; simp; omega
  have k4 : ((K : Int) != 4) = true := by simp; omega
  have k2 : ((K : Int) == 2) = false := by simp; omega
  have k6 : ((K : Int) == 6) = false := by simp; omega
  have HS1 : Hid (st1 K ws = ws) := by show st1 K ws = _; unfold st1; rw [hN]; rfl
  have HS2 : Hid (st2 nf par K ws = exprR nf par 1 (ws)) := by show st2 nf par K ws = _; unfold st2; rw [if_neg (by omega), HS1.out]
  have HS3 : Hid (st3 nf par K ws = ([], (st2 nf par K ws).2)) := by show st3 nf par K ws = _; unfold st3; rw [if_neg (by omega)]
  have HS4 : Hid (st4 nf par (blkR nf par t) K ws = (noSL, (st3 nf par K ws).2)) := by show st4 nf par (blkR nf par t) K ws = _; unfold st4; rw [hA]; rfl
  have HS5 : Hid (st5 nf par (blkR nf par t) K ws = (noSL, (st4 nf par (blkR nf par t) K ws).2)) := by show st5 nf par (blkR nf par t) K ws = _; unfold st5; rw [if_neg (by omega)]
  have hl1 : (ws).length ≤ t := by exact hl
  have hl2 : (st2 nf par K ws).2.length ≤ t := by rw [HS2.out]; exact Nat.le_trans (exprR_len nf par _ _) hl1
  have hl3 : (st3 nf par K ws).2.length ≤ t := by rw [HS3.out]; exact hl2
  rw [show (if hasN K then numR ws else 0) = 0 by rw [hN]; rfl]
  have HH0 : Hid (StW X w ((w.alloc (.cells zero6 82)).alloc (.cells #[.int .i64 (K : Int), .int .i64 0, .slice none 0 0, .slice none 0 0, .slice none 0 0, .slice none 0 0] 82)) #[.int .i64 (K : Int), .int .i64 0, .slice none 0 0, .slice none 0 0, .slice none 0 0, .slice none 0 0] ws fv) := H0
  clear he h hp H0 hN hA
  unfold zero6 at HH0
  go_enter Tryz.func158, Tryz.ntmps158
  go_upto_region 2 with (fail)
  generalize (w.alloc (.cells #[.int .i64 0, .int .i64 0, .slice none 0 0, .slice none 0 0, .slice none 0 0, .slice none 0 0] 82)).alloc (.cells #[.int .i64 (K : Int), .int .i64 0, .slice none 0 0, .slice none 0 0, .slice none 0 0, .slice none 0 0] 82) = W0 at *
  go_upto_region 4 with (first | (go_at_call 152; refine (HN.out _).mono ?_; rintro e w2 ⟨rfl, h2⟩; rw [h2]; clear h2))
  go_upto_region 6 with (first
    | (go_at_call 195; refine (rexpr N X hNX nf par fv W0 (ws) (HEn.out _ HH0.out.sv) HH0.out.rd (HPa.out _ HH0.out.sv)).mono ?_; rintro e x1 ⟨v1, rfl, Q1, R1, s1⟩; obtain ⟨pa1, pn1, pc1, rfl⟩ := Q1.out.shape; have T1 := HH0.out.call hX s1 R1.out; obtain ⟨y1, z1⟩ := T1.cell 2 rfl))
  have U1 := T1.put hX 2 (.slice pa1 pn1 pc1)
  have P1 : Hid (StW X w (x1.setCell ⟨w.heap.size + 1, 2, none⟩ (.slice pa1 pn1 pc1)) #[.int .i64 (K : Int), .int .i64 0, .slice pa1 pn1 pc1, .slice none 0 0, .slice none 0 0, .slice none 0 0] (st2 nf par K ws).2 fv) := by
    show StW _ _ _ _ _ _
    rw [HS2.out]
    exact U1
  have HSv1 : Hid (Far (w.heap.size + 2) W0 x1) := Far.of s1 (by omega)
  have HFa1 : Hid (Far (w.heap.size + 2) x1 (x1.setCell ⟨w.heap.size + 1, 2, none⟩ (.slice pa1 pn1 pc1))) := Far.set _ _ _ _ (by omega)
  have hrm1 : w.heap.size + 2 ≤ W0.heap.size := HH0.out.room
  clear T1 U1 y1 z1 s1 R1
  generalize x1.setCell ⟨w.heap.size + 1, 2, none⟩ (.slice pa1 pn1 pc1) = W1 at *
  go_upto_region 8 with (fail)
  go_upto_region 10 with (first | (go_at_call 154; refine (HA.out _).mono ?_; rintro e w2 ⟨rfl, h2⟩; rw [h2]; clear h2))
  go_upto_region 12 with (fail)
  obtain ⟨a0, _⟩ := P1.out.cell 0 rfl
  obtain ⟨a1, _⟩ := P1.out.cell 1 rfl
  obtain ⟨a2, _⟩ := P1.out.cell 2 rfl
  obtain ⟨a3, _⟩ := P1.out.cell 3 rfl
  obtain ⟨a4, _⟩ := P1.out.cell 4 rfl
  obtain ⟨a5, _⟩ := P1.out.cell 5 rfl
  obtain ⟨r0, f0⟩ := P1.out.zero 0 rfl
  obtain ⟨r1, f1⟩ := P1.out.zero 1 rfl
  obtain ⟨r2, f2⟩ := P1.out.zero 2 rfl
  obtain ⟨r3, f3⟩ := P1.out.zero 3 rfl
  obtain ⟨r4, f4⟩ := P1.out.zero 4 rfl
  obtain ⟨r5, f5⟩ := P1.out.zero 5 rfl
  have HC := set_six (v0 := .int .i64 (K : Int)) (v1 := .int .i64 0) (v2 := .slice pa1 pn1 pc1) (v3 := .slice none 0 0) (v4 := .slice none 0 0) (v5 := .slice none 0 0) P1.out.res
  have HCC : Hid (((((((W1.setCell ⟨w.heap.size, 0, none⟩ (.int .i64 (K : Int))).setCell ⟨w.heap.size, 1, none⟩ (.int .i64 0)).setCell ⟨w.heap.size, 2, none⟩ (.slice pa1 pn1 pc1)).setCell ⟨w.heap.size, 3, none⟩ (.slice none 0 0)).setCell ⟨w.heap.size, 4, none⟩ (.slice none 0 0)).setCell ⟨w.heap.size, 5, none⟩ (.slice none 0 0)).heap[w.heap.size]? = some (.cells #[.int .i64 (K : Int), .int .i64 0, .slice pa1 pn1 pc1, .slice none 0 0, .slice none 0 0, .slice none 0 0] 82 (0, 0))) := HC
  clear HC
  go_wp2_with fail
  refine bodyPost_ret (results_cell_row rfl _ _ w.heap.size 82 _ (0, 0) _ rfl HCC.out Tryz.underlying82 rfl (by kernel_rfl)) rfl ?_
  obtain ⟨zr, zs, zf⟩ := P1.out.fin hX (.int .i64 (K : Int)) (.int .i64 0) (.slice pa1 pn1 pc1) (.slice none 0 0) (.slice none 0 0) (.slice none 0 0)
  exact ⟨_, _, _, _, rfl, ⟨(by rw [HS2.out]; exact (Q1.out.far hrm1 ((HFa1.out).trans zf)).low (by omega)), (by rw [HS3.out]; exact ToksIn.empty _ _), (by rw [HS4.out]; exact StmtsIn.empty _ _ _), (by rw [HS5.out]; exact StmtsIn.empty _ _ _), (by rw [HS5.out, HS4.out, HS3.out]; exact zr), zs⟩⟩
set_option maxHeartbeats 4000000 in
theorem stmt_pause (N X : Nat) (hNX : N ≤ X) (nf : Nat) (par : Nat → Int) (fv : Value) (t : Nat) (_HB : Hid (BlkOK N X nf par fv t)) (w : World) (ws : List Wd) (K : Nat) (he : Env N w) (h : RD X w ws fv) (hp : ParAt X w fv nf par) (hl : ws.length ≤ t) (hK : 3 < K ∧ K < 5) :
    Calls Tryz.prog 158 #[.pointer (some ⟨X, 0, none⟩), .int .i64 K] w fun e w' => ∃ ve vf va vb, e = .returned (.agg #[.int .i64 K, .int .i64 (if hasN K then numR ws else 0), ve, vf, va, vb]) ∧ Hid (StP X nf par fv t K ws w w' ve vf va vb) := by
  have hX := h.lt
  have HE : Hid (Env N w) := he
  have HP : Hid (ParAt X w fv nf par) := hp
  have H0 := StW.start h #[.int .i64 (K : Int), .int .i64 0, .slice none 0 0, .slice none 0 0, .slice none 0 0, .slice none 0 0]
  have HEn : Hid (∀ wi, Save X w wi → Env N wi) := fun wi hs => HE.out.below (hs.low hNX (by omega))
  have HPa : Hid (∀ wi, Save X w wi → ParAt X wi fv nf par) := fun wi hs => HP.out.save hs hX
  have HN : Hid (∀ w, Calls Tryz.prog 152 #[.int .i64 (K : Int)] w fun e w' => e = .returned (.bool false) ∧ w' = w) := fun w => by
    have h := hasN_run K w
    rw [show decide ((K : Int) = 1 ∨ (K : Int) = 2) = false by simp; omega] at h
    exact h
  have HA : Hid (∀ w, Calls Tryz.prog 154 #[.int .i64 (K : Int)] w fun e w' => e = .returned (.bool false) ∧ w' = w) := fun w => by
    have h := hasA_run K w
    rw [show decide ((K : Int) = 6 ∨ (K : Int) = 7) = false by simp; omega] at h
    exact h
  have hN : hasN K = false := by unfold hasN; simp; omega
  have hA : hasA K = false := by unfold hasA; simp; omega
  have k4 : ((K : Int) != 4) = false := by simp; omega
  have k2 : ((K : Int) == 2) = false := by simp; omega
  have k6 : ((K : Int) == 6) = false := by simp; omega
  have HS1 : Hid (st1 K ws = ws) := by show st1 K ws = _; unfold st1; rw [hN]; rfl
  have HS2 : Hid (st2 nf par K ws = ([], ws)) := by show st2 nf par K ws = _; unfold st2; rw [if_pos (by omega), HS1.out]
  have HS3 : Hid (st3 nf par K ws = ([], (st2 nf par K ws).2)) := by show st3 nf par K ws = _; unfold st3; rw [if_neg (by omega)]
  have HS4 : Hid (st4 nf par (blkR nf par t) K ws = (noSL, (st3 nf par K ws).2)) := by show st4 nf par (blkR nf par t) K ws = _; unfold st4; rw [hA]; rfl
  have HS5 : Hid (st5 nf par (blkR nf par t) K ws = (noSL, (st4 nf par (blkR nf par t) K ws).2)) := by show st5 nf par (blkR nf par t) K ws = _; unfold st5; rw [if_neg (by omega)]
  have hl1 : (ws).length ≤ t := by exact hl
  have hl2 : (st2 nf par K ws).2.length ≤ t := by rw [HS2.out]; exact hl1
  have hl3 : (st3 nf par K ws).2.length ≤ t := by rw [HS3.out]; exact hl2
  rw [show (if hasN K then numR ws else 0) = 0 by rw [hN]; rfl]
  have HH0 : Hid (StW X w ((w.alloc (.cells zero6 82)).alloc (.cells #[.int .i64 (K : Int), .int .i64 0, .slice none 0 0, .slice none 0 0, .slice none 0 0, .slice none 0 0] 82)) #[.int .i64 (K : Int), .int .i64 0, .slice none 0 0, .slice none 0 0, .slice none 0 0, .slice none 0 0] ws fv) := H0
  clear he h hp H0 hN hA
  unfold zero6 at HH0
  go_enter Tryz.func158, Tryz.ntmps158
  go_upto_region 2 with (fail)
  generalize (w.alloc (.cells #[.int .i64 0, .int .i64 0, .slice none 0 0, .slice none 0 0, .slice none 0 0, .slice none 0 0] 82)).alloc (.cells #[.int .i64 (K : Int), .int .i64 0, .slice none 0 0, .slice none 0 0, .slice none 0 0, .slice none 0 0] 82) = W0 at *
  go_upto_region 4 with (first | (go_at_call 152; refine (HN.out _).mono ?_; rintro e w2 ⟨rfl, h2⟩; rw [h2]; clear h2))
  go_upto_region 6 with (fail)
  go_upto_region 8 with (fail)
  go_upto_region 10 with (first | (go_at_call 154; refine (HA.out _).mono ?_; rintro e w2 ⟨rfl, h2⟩; rw [h2]; clear h2))
  go_upto_region 12 with (fail)
  obtain ⟨a0, _⟩ := HH0.out.cell 0 rfl
  obtain ⟨a1, _⟩ := HH0.out.cell 1 rfl
  obtain ⟨a2, _⟩ := HH0.out.cell 2 rfl
  obtain ⟨a3, _⟩ := HH0.out.cell 3 rfl
  obtain ⟨a4, _⟩ := HH0.out.cell 4 rfl
  obtain ⟨a5, _⟩ := HH0.out.cell 5 rfl
  obtain ⟨r0, f0⟩ := HH0.out.zero 0 rfl
  obtain ⟨r1, f1⟩ := HH0.out.zero 1 rfl
  obtain ⟨r2, f2⟩ := HH0.out.zero 2 rfl
  obtain ⟨r3, f3⟩ := HH0.out.zero 3 rfl
  obtain ⟨r4, f4⟩ := HH0.out.zero 4 rfl
  obtain ⟨r5, f5⟩ := HH0.out.zero 5 rfl
  have HC := set_six (v0 := .int .i64 (K : Int)) (v1 := .int .i64 0) (v2 := .slice none 0 0) (v3 := .slice none 0 0) (v4 := .slice none 0 0) (v5 := .slice none 0 0) HH0.out.res
  have HCC : Hid (((((((W0.setCell ⟨w.heap.size, 0, none⟩ (.int .i64 (K : Int))).setCell ⟨w.heap.size, 1, none⟩ (.int .i64 0)).setCell ⟨w.heap.size, 2, none⟩ (.slice none 0 0)).setCell ⟨w.heap.size, 3, none⟩ (.slice none 0 0)).setCell ⟨w.heap.size, 4, none⟩ (.slice none 0 0)).setCell ⟨w.heap.size, 5, none⟩ (.slice none 0 0)).heap[w.heap.size]? = some (.cells #[.int .i64 (K : Int), .int .i64 0, .slice none 0 0, .slice none 0 0, .slice none 0 0, .slice none 0 0] 82 (0, 0))) := HC
  clear HC
  go_wp2_with fail
  refine bodyPost_ret (results_cell_row rfl _ _ w.heap.size 82 _ (0, 0) _ rfl HCC.out Tryz.underlying82 rfl (by kernel_rfl)) rfl ?_
  obtain ⟨zr, zs, zf⟩ := HH0.out.fin hX (.int .i64 (K : Int)) (.int .i64 0) (.slice none 0 0) (.slice none 0 0) (.slice none 0 0) (.slice none 0 0)
  exact ⟨_, _, _, _, rfl, ⟨(by rw [HS2.out]; exact ToksIn.empty _ _), (by rw [HS3.out]; exact ToksIn.empty _ _), (by rw [HS4.out]; exact StmtsIn.empty _ _ _), (by rw [HS5.out]; exact StmtsIn.empty _ _ _), (by rw [HS5.out, HS4.out, HS3.out, HS2.out]; exact zr), zs⟩⟩
set_option maxHeartbeats 4000000 in
theorem stmt_if (N X : Nat) (hNX : N ≤ X) (nf : Nat) (par : Nat → Int) (fv : Value) (t : Nat) (HB : Hid (BlkOK N X nf par fv t)) (w : World) (ws : List Wd) (K : Nat) (he : Env N w) (h : RD X w ws fv) (hp : ParAt X w fv nf par) (hl : ws.length ≤ t) (hK : 5 < K ∧ K < 7) :
    Calls Tryz.prog 158 #[.pointer (some ⟨X, 0, none⟩), .int .i64 K] w fun e w' => ∃ ve vf va vb, e = .returned (.agg #[.int .i64 K, .int .i64 (if hasN K then numR ws else 0), ve, vf, va, vb]) ∧ Hid (StP X nf par fv t K ws w w' ve vf va vb) := by
  have hX := h.lt
  have HE : Hid (Env N w) := he
  have HP : Hid (ParAt X w fv nf par) := hp
  have H0 := StW.start h #[.int .i64 (K : Int), .int .i64 0, .slice none 0 0, .slice none 0 0, .slice none 0 0, .slice none 0 0]
  have HEn : Hid (∀ wi, Save X w wi → Env N wi) := fun wi hs => HE.out.below (hs.low hNX (by omega))
  have HPa : Hid (∀ wi, Save X w wi → ParAt X wi fv nf par) := fun wi hs => HP.out.save hs hX
  have HN : Hid (∀ w, Calls Tryz.prog 152 #[.int .i64 (K : Int)] w fun e w' => e = .returned (.bool false) ∧ w' = w) := fun w => by
    have h := hasN_run K w
    rw [show decide ((K : Int) = 1 ∨ (K : Int) = 2) = false by simp; omega] at h
    exact h
  have HA : Hid (∀ w, Calls Tryz.prog 154 #[.int .i64 (K : Int)] w fun e w' => e = .returned (.bool true) ∧ w' = w) := fun w => by
    have h := hasA_run K w
    rw [show decide ((K : Int) = 6 ∨ (K : Int) = 7) = true by simp; omega] at h
    exact h
  have hN : hasN K = false := by unfold hasN; simp; omega
  have hA : hasA K = true := by unfold hasA; simp; omega
  have k4 : ((K : Int) != 4) = true := by simp; omega
  have k2 : ((K : Int) == 2) = false := by simp; omega
  have k6 : ((K : Int) == 6) = true := by simp; omega
  have HS1 : Hid (st1 K ws = ws) := by show st1 K ws = _; unfold st1; rw [hN]; rfl
  have HS2 : Hid (st2 nf par K ws = exprR nf par 1 (ws)) := by show st2 nf par K ws = _; unfold st2; rw [if_neg (by omega), HS1.out]
  have HS3 : Hid (st3 nf par K ws = ([], (st2 nf par K ws).2)) := by show st3 nf par K ws = _; unfold st3; rw [if_neg (by omega)]
  have HS4 : Hid (st4 nf par (blkR nf par t) K ws = blkR nf par t (st3 nf par K ws).2) := by show st4 nf par (blkR nf par t) K ws = _; unfold st4; rw [hA]; rfl
  have HS5 : Hid (st5 nf par (blkR nf par t) K ws = blkR nf par t (st4 nf par (blkR nf par t) K ws).2) := by show st5 nf par (blkR nf par t) K ws = _; unfold st5; rw [if_pos (by omega)]
  have hl1 : (ws).length ≤ t := by exact hl
  have hl2 : (st2 nf par K ws).2.length ≤ t := by rw [HS2.out]; exact Nat.le_trans (exprR_len nf par _ _) hl1
  have hl3 : (st3 nf par K ws).2.length ≤ t := by rw [HS3.out]; exact hl2
  have hl4 : (st4 nf par (blkR nf par t) K ws).2.length ≤ t := by rw [HS4.out]; exact Nat.le_trans (blkR_len nf par t _) hl3
  rw [show (if hasN K then numR ws else 0) = 0 by rw [hN]; rfl]
  have HH0 : Hid (StW X w ((w.alloc (.cells zero6 82)).alloc (.cells #[.int .i64 (K : Int), .int .i64 0, .slice none 0 0, .slice none 0 0, .slice none 0 0, .slice none 0 0] 82)) #[.int .i64 (K : Int), .int .i64 0, .slice none 0 0, .slice none 0 0, .slice none 0 0, .slice none 0 0] ws fv) := H0
  clear he h hp H0 hN hA
  unfold zero6 at HH0
  go_enter Tryz.func158, Tryz.ntmps158
  go_upto_region 2 with (fail)
  generalize (w.alloc (.cells #[.int .i64 0, .int .i64 0, .slice none 0 0, .slice none 0 0, .slice none 0 0, .slice none 0 0] 82)).alloc (.cells #[.int .i64 (K : Int), .int .i64 0, .slice none 0 0, .slice none 0 0, .slice none 0 0, .slice none 0 0] 82) = W0 at *
  go_upto_region 4 with (first | (go_at_call 152; refine (HN.out _).mono ?_; rintro e w2 ⟨rfl, h2⟩; rw [h2]; clear h2))
  go_upto_region 6 with (first
    | (go_at_call 195; refine (rexpr N X hNX nf par fv W0 (ws) (HEn.out _ HH0.out.sv) HH0.out.rd (HPa.out _ HH0.out.sv)).mono ?_; rintro e x1 ⟨v1, rfl, Q1, R1, s1⟩; obtain ⟨pa1, pn1, pc1, rfl⟩ := Q1.out.shape; have T1 := HH0.out.call hX s1 R1.out; obtain ⟨y1, z1⟩ := T1.cell 2 rfl))
  have U1 := T1.put hX 2 (.slice pa1 pn1 pc1)
  have P1 : Hid (StW X w (x1.setCell ⟨w.heap.size + 1, 2, none⟩ (.slice pa1 pn1 pc1)) #[.int .i64 (K : Int), .int .i64 0, .slice pa1 pn1 pc1, .slice none 0 0, .slice none 0 0, .slice none 0 0] (st2 nf par K ws).2 fv) := by
    show StW _ _ _ _ _ _
    rw [HS2.out]
    exact U1
  have HSv1 : Hid (Far (w.heap.size + 2) W0 x1) := Far.of s1 (by omega)
  have HFa1 : Hid (Far (w.heap.size + 2) x1 (x1.setCell ⟨w.heap.size + 1, 2, none⟩ (.slice pa1 pn1 pc1))) := Far.set _ _ _ _ (by omega)
  have hrm1 : w.heap.size + 2 ≤ W0.heap.size := HH0.out.room
  clear T1 U1 y1 z1 s1 R1
  generalize x1.setCell ⟨w.heap.size + 1, 2, none⟩ (.slice pa1 pn1 pc1) = W1 at *
  go_upto_region 8 with (fail)
  have P1c : Hid (StW X w W1 #[.int .i64 (K : Int), .int .i64 0, .slice pa1 pn1 pc1, .slice none 0 0, .slice none 0 0, .slice none 0 0] (st3 nf par K ws).2 fv) := by
    show StW _ _ _ _ _ _
    rw [HS3.out]
    exact P1.out
  go_upto_region 10 with (first
    | (go_at_call 154; refine (HA.out _).mono ?_; rintro e w2 ⟨rfl, h2⟩; rw [h2]; clear h2)
    | (go_at_call 111; refine (HB.out W1 (st3 nf par K ws).2 (HEn.out _ P1c.out.sv) P1c.out.rd (HPa.out _ P1c.out.sv) (tail_length hl3)).mono ?_; rintro e x2 ⟨v2, rfl, Q2, R2, s2⟩; obtain ⟨pa2, pn2, pc2, rfl⟩ := Q2.out.shape; have T2 := P1c.out.call hX s2 R2.out; obtain ⟨y2, z2⟩ := T2.cell 4 rfl))
  have U2 := T2.put hX 4 (.slice pa2 pn2 pc2)
  have P2 : Hid (StW X w (x2.setCell ⟨w.heap.size + 1, 4, none⟩ (.slice pa2 pn2 pc2)) #[.int .i64 (K : Int), .int .i64 0, .slice pa1 pn1 pc1, .slice none 0 0, .slice pa2 pn2 pc2, .slice none 0 0] (st4 nf par (blkR nf par t) K ws).2 fv) := by
    show StW _ _ _ _ _ _
    rw [HS4.out]
    exact U2
  have HSv2 : Hid (Far (w.heap.size + 2) W1 x2) := Far.of s2 (by omega)
  have HFa2 : Hid (Far (w.heap.size + 2) x2 (x2.setCell ⟨w.heap.size + 1, 4, none⟩ (.slice pa2 pn2 pc2))) := Far.set _ _ _ _ (by omega)
  have hrm2 : w.heap.size + 2 ≤ W1.heap.size := P1c.out.room
  clear T2 U2 y2 z2 s2 R2
  generalize x2.setCell ⟨w.heap.size + 1, 4, none⟩ (.slice pa2 pn2 pc2) = W2 at *
  go_upto_region 12 with (first
    | (go_at_call 111; refine (HB.out W2 (st4 nf par (blkR nf par t) K ws).2 (HEn.out _ P2.out.sv) P2.out.rd (HPa.out _ P2.out.sv) (tail_length hl4)).mono ?_; rintro e x3 ⟨v3, rfl, Q3, R3, s3⟩; obtain ⟨pa3, pn3, pc3, rfl⟩ := Q3.out.shape; have T3 := P2.out.call hX s3 R3.out; obtain ⟨y3, z3⟩ := T3.cell 5 rfl))
  have U3 := T3.put hX 5 (.slice pa3 pn3 pc3)
  have P3 : Hid (StW X w (x3.setCell ⟨w.heap.size + 1, 5, none⟩ (.slice pa3 pn3 pc3)) #[.int .i64 (K : Int), .int .i64 0, .slice pa1 pn1 pc1, .slice none 0 0, .slice pa2 pn2 pc2, .slice pa3 pn3 pc3] (st5 nf par (blkR nf par t) K ws).2 fv) := by
    show StW _ _ _ _ _ _
    rw [HS5.out]
    exact U3
  have HSv3 : Hid (Far (w.heap.size + 2) W2 x3) := Far.of s3 (by omega)
  have HFa3 : Hid (Far (w.heap.size + 2) x3 (x3.setCell ⟨w.heap.size + 1, 5, none⟩ (.slice pa3 pn3 pc3))) := Far.set _ _ _ _ (by omega)
  have hrm3 : w.heap.size + 2 ≤ W2.heap.size := P2.out.room
  clear T3 U3 y3 z3 s3 R3
  generalize x3.setCell ⟨w.heap.size + 1, 5, none⟩ (.slice pa3 pn3 pc3) = W3 at *
  obtain ⟨a0, _⟩ := P3.out.cell 0 rfl
  obtain ⟨a1, _⟩ := P3.out.cell 1 rfl
  obtain ⟨a2, _⟩ := P3.out.cell 2 rfl
  obtain ⟨a3, _⟩ := P3.out.cell 3 rfl
  obtain ⟨a4, _⟩ := P3.out.cell 4 rfl
  obtain ⟨a5, _⟩ := P3.out.cell 5 rfl
  obtain ⟨r0, f0⟩ := P3.out.zero 0 rfl
  obtain ⟨r1, f1⟩ := P3.out.zero 1 rfl
  obtain ⟨r2, f2⟩ := P3.out.zero 2 rfl
  obtain ⟨r3, f3⟩ := P3.out.zero 3 rfl
  obtain ⟨r4, f4⟩ := P3.out.zero 4 rfl
  obtain ⟨r5, f5⟩ := P3.out.zero 5 rfl
  have HC := set_six (v0 := .int .i64 (K : Int)) (v1 := .int .i64 0) (v2 := .slice pa1 pn1 pc1) (v3 := .slice none 0 0) (v4 := .slice pa2 pn2 pc2) (v5 := .slice pa3 pn3 pc3) P3.out.res
  have HCC : Hid (((((((W3.setCell ⟨w.heap.size, 0, none⟩ (.int .i64 (K : Int))).setCell ⟨w.heap.size, 1, none⟩ (.int .i64 0)).setCell ⟨w.heap.size, 2, none⟩ (.slice pa1 pn1 pc1)).setCell ⟨w.heap.size, 3, none⟩ (.slice none 0 0)).setCell ⟨w.heap.size, 4, none⟩ (.slice pa2 pn2 pc2)).setCell ⟨w.heap.size, 5, none⟩ (.slice pa3 pn3 pc3)).heap[w.heap.size]? = some (.cells #[.int .i64 (K : Int), .int .i64 0, .slice pa1 pn1 pc1, .slice none 0 0, .slice pa2 pn2 pc2, .slice pa3 pn3 pc3] 82 (0, 0))) := HC
  clear HC
  go_wp2_with fail
  refine bodyPost_ret (results_cell_row rfl _ _ w.heap.size 82 _ (0, 0) _ rfl HCC.out Tryz.underlying82 rfl (by kernel_rfl)) rfl ?_
  obtain ⟨zr, zs, zf⟩ := P3.out.fin hX (.int .i64 (K : Int)) (.int .i64 0) (.slice pa1 pn1 pc1) (.slice none 0 0) (.slice pa2 pn2 pc2) (.slice pa3 pn3 pc3)
  exact ⟨_, _, _, _, rfl, ⟨(by rw [HS2.out]; exact (Q1.out.far hrm1 ((((((HFa1.out).trans (HSv2.out.trans HFa2.out))).trans (HSv3.out.trans HFa3.out))).trans zf)).low (by omega)), (by rw [HS3.out]; exact ToksIn.empty _ _), (by rw [HS4.out]; exact (Q2.out.far hrm2 (by omega) ((((HFa2.out).trans (HSv3.out.trans HFa3.out))).trans zf)).low (by omega)), (by rw [HS5.out]; exact (Q3.out.far hrm3 (by omega) ((HFa3.out).trans zf)).low (by omega)), zr, zs⟩⟩
set_option maxHeartbeats 4000000 in
theorem stmt_while (N X : Nat) (hNX : N ≤ X) (nf : Nat) (par : Nat → Int) (fv : Value) (t : Nat) (HB : Hid (BlkOK N X nf par fv t)) (w : World) (ws : List Wd) (K : Nat) (he : Env N w) (h : RD X w ws fv) (hp : ParAt X w fv nf par) (hl : ws.length ≤ t) (hK : 6 < K ∧ K < 8) :
    Calls Tryz.prog 158 #[.pointer (some ⟨X, 0, none⟩), .int .i64 K] w fun e w' => ∃ ve vf va vb, e = .returned (.agg #[.int .i64 K, .int .i64 (if hasN K then numR ws else 0), ve, vf, va, vb]) ∧ Hid (StP X nf par fv t K ws w w' ve vf va vb) := by
  have hX := h.lt
  have HE : Hid (Env N w) := he
  have HP : Hid (ParAt X w fv nf par) := hp
  have H0 := StW.start h #[.int .i64 (K : Int), .int .i64 0, .slice none 0 0, .slice none 0 0, .slice none 0 0, .slice none 0 0]
  have HEn : Hid (∀ wi, Save X w wi → Env N wi) := fun wi hs => HE.out.below (hs.low hNX (by omega))
  have HPa : Hid (∀ wi, Save X w wi → ParAt X wi fv nf par) := fun wi hs => HP.out.save hs hX
  have HN : Hid (∀ w, Calls Tryz.prog 152 #[.int .i64 (K : Int)] w fun e w' => e = .returned (.bool false) ∧ w' = w) := fun w => by
    have h := hasN_run K w
    rw [show decide ((K : Int) = 1 ∨ (K : Int) = 2) = false by simp; omega] at h
    exact h
  have HA : Hid (∀ w, Calls Tryz.prog 154 #[.int .i64 (K : Int)] w fun e w' => e = .returned (.bool true) ∧ w' = w) := fun w => by
    have h := hasA_run K w
    rw [show decide ((K : Int) = 6 ∨ (K : Int) = 7) = true by simp; omega] at h
    exact h
  have hN : hasN K = false := by unfold hasN; simp; omega
  have hA : hasA K = true := by unfold hasA; simp; omega
  have k4 : ((K : Int) != 4) = true := by simp; omega
  have k2 : ((K : Int) == 2) = false := by simp; omega
  have k6 : ((K : Int) == 6) = false := by simp; omega
  have HS1 : Hid (st1 K ws = ws) := by show st1 K ws = _; unfold st1; rw [hN]; rfl
  have HS2 : Hid (st2 nf par K ws = exprR nf par 1 (ws)) := by show st2 nf par K ws = _; unfold st2; rw [if_neg (by omega), HS1.out]
  have HS3 : Hid (st3 nf par K ws = ([], (st2 nf par K ws).2)) := by show st3 nf par K ws = _; unfold st3; rw [if_neg (by omega)]
  have HS4 : Hid (st4 nf par (blkR nf par t) K ws = blkR nf par t (st3 nf par K ws).2) := by show st4 nf par (blkR nf par t) K ws = _; unfold st4; rw [hA]; rfl
  have HS5 : Hid (st5 nf par (blkR nf par t) K ws = (noSL, (st4 nf par (blkR nf par t) K ws).2)) := by show st5 nf par (blkR nf par t) K ws = _; unfold st5; rw [if_neg (by omega)]
  have hl1 : (ws).length ≤ t := by exact hl
  have hl2 : (st2 nf par K ws).2.length ≤ t := by rw [HS2.out]; exact Nat.le_trans (exprR_len nf par _ _) hl1
  have hl3 : (st3 nf par K ws).2.length ≤ t := by rw [HS3.out]; exact hl2
  rw [show (if hasN K then numR ws else 0) = 0 by rw [hN]; rfl]
  have HH0 : Hid (StW X w ((w.alloc (.cells zero6 82)).alloc (.cells #[.int .i64 (K : Int), .int .i64 0, .slice none 0 0, .slice none 0 0, .slice none 0 0, .slice none 0 0] 82)) #[.int .i64 (K : Int), .int .i64 0, .slice none 0 0, .slice none 0 0, .slice none 0 0, .slice none 0 0] ws fv) := H0
  clear he h hp H0 hN hA
  unfold zero6 at HH0
  go_enter Tryz.func158, Tryz.ntmps158
  go_upto_region 2 with (fail)
  generalize (w.alloc (.cells #[.int .i64 0, .int .i64 0, .slice none 0 0, .slice none 0 0, .slice none 0 0, .slice none 0 0] 82)).alloc (.cells #[.int .i64 (K : Int), .int .i64 0, .slice none 0 0, .slice none 0 0, .slice none 0 0, .slice none 0 0] 82) = W0 at *
  go_upto_region 4 with (first | (go_at_call 152; refine (HN.out _).mono ?_; rintro e w2 ⟨rfl, h2⟩; rw [h2]; clear h2))
  go_upto_region 6 with (first
    | (go_at_call 195; refine (rexpr N X hNX nf par fv W0 (ws) (HEn.out _ HH0.out.sv) HH0.out.rd (HPa.out _ HH0.out.sv)).mono ?_; rintro e x1 ⟨v1, rfl, Q1, R1, s1⟩; obtain ⟨pa1, pn1, pc1, rfl⟩ := Q1.out.shape; have T1 := HH0.out.call hX s1 R1.out; obtain ⟨y1, z1⟩ := T1.cell 2 rfl))
  have U1 := T1.put hX 2 (.slice pa1 pn1 pc1)
  have P1 : Hid (StW X w (x1.setCell ⟨w.heap.size + 1, 2, none⟩ (.slice pa1 pn1 pc1)) #[.int .i64 (K : Int), .int .i64 0, .slice pa1 pn1 pc1, .slice none 0 0, .slice none 0 0, .slice none 0 0] (st2 nf par K ws).2 fv) := by
    show StW _ _ _ _ _ _
    rw [HS2.out]
    exact U1
  have HSv1 : Hid (Far (w.heap.size + 2) W0 x1) := Far.of s1 (by omega)
  have HFa1 : Hid (Far (w.heap.size + 2) x1 (x1.setCell ⟨w.heap.size + 1, 2, none⟩ (.slice pa1 pn1 pc1))) := Far.set _ _ _ _ (by omega)
  have hrm1 : w.heap.size + 2 ≤ W0.heap.size := HH0.out.room
  clear T1 U1 y1 z1 s1 R1
  generalize x1.setCell ⟨w.heap.size + 1, 2, none⟩ (.slice pa1 pn1 pc1) = W1 at *
  go_upto_region 8 with (fail)
  have P1c : Hid (StW X w W1 #[.int .i64 (K : Int), .int .i64 0, .slice pa1 pn1 pc1, .slice none 0 0, .slice none 0 0, .slice none 0 0] (st3 nf par K ws).2 fv) := by
    show StW _ _ _ _ _ _
    rw [HS3.out]
    exact P1.out
  go_upto_region 10 with (first
    | (go_at_call 154; refine (HA.out _).mono ?_; rintro e w2 ⟨rfl, h2⟩; rw [h2]; clear h2)
    | (go_at_call 111; refine (HB.out W1 (st3 nf par K ws).2 (HEn.out _ P1c.out.sv) P1c.out.rd (HPa.out _ P1c.out.sv) (tail_length hl3)).mono ?_; rintro e x2 ⟨v2, rfl, Q2, R2, s2⟩; obtain ⟨pa2, pn2, pc2, rfl⟩ := Q2.out.shape; have T2 := P1c.out.call hX s2 R2.out; obtain ⟨y2, z2⟩ := T2.cell 4 rfl))
  have U2 := T2.put hX 4 (.slice pa2 pn2 pc2)
  have P2 : Hid (StW X w (x2.setCell ⟨w.heap.size + 1, 4, none⟩ (.slice pa2 pn2 pc2)) #[.int .i64 (K : Int), .int .i64 0, .slice pa1 pn1 pc1, .slice none 0 0, .slice pa2 pn2 pc2, .slice none 0 0] (st4 nf par (blkR nf par t) K ws).2 fv) := by
    show StW _ _ _ _ _ _
    rw [HS4.out]
    exact U2
  have HSv2 : Hid (Far (w.heap.size + 2) W1 x2) := Far.of s2 (by omega)
  have HFa2 : Hid (Far (w.heap.size + 2) x2 (x2.setCell ⟨w.heap.size + 1, 4, none⟩ (.slice pa2 pn2 pc2))) := Far.set _ _ _ _ (by omega)
  have hrm2 : w.heap.size + 2 ≤ W1.heap.size := P1c.out.room
  clear T2 U2 y2 z2 s2 R2
  generalize x2.setCell ⟨w.heap.size + 1, 4, none⟩ (.slice pa2 pn2 pc2) = W2 at *
  go_upto_region 12 with (fail)
  obtain ⟨a0, _⟩ := P2.out.cell 0 rfl
  obtain ⟨a1, _⟩ := P2.out.cell 1 rfl
  obtain ⟨a2, _⟩ := P2.out.cell 2 rfl
  obtain ⟨a3, _⟩ := P2.out.cell 3 rfl
  obtain ⟨a4, _⟩ := P2.out.cell 4 rfl
  obtain ⟨a5, _⟩ := P2.out.cell 5 rfl
  obtain ⟨r0, f0⟩ := P2.out.zero 0 rfl
  obtain ⟨r1, f1⟩ := P2.out.zero 1 rfl
  obtain ⟨r2, f2⟩ := P2.out.zero 2 rfl
  obtain ⟨r3, f3⟩ := P2.out.zero 3 rfl
  obtain ⟨r4, f4⟩ := P2.out.zero 4 rfl
  obtain ⟨r5, f5⟩ := P2.out.zero 5 rfl
  have HC := set_six (v0 := .int .i64 (K : Int)) (v1 := .int .i64 0) (v2 := .slice pa1 pn1 pc1) (v3 := .slice none 0 0) (v4 := .slice pa2 pn2 pc2) (v5 := .slice none 0 0) P2.out.res
  have HCC : Hid (((((((W2.setCell ⟨w.heap.size, 0, none⟩ (.int .i64 (K : Int))).setCell ⟨w.heap.size, 1, none⟩ (.int .i64 0)).setCell ⟨w.heap.size, 2, none⟩ (.slice pa1 pn1 pc1)).setCell ⟨w.heap.size, 3, none⟩ (.slice none 0 0)).setCell ⟨w.heap.size, 4, none⟩ (.slice pa2 pn2 pc2)).setCell ⟨w.heap.size, 5, none⟩ (.slice none 0 0)).heap[w.heap.size]? = some (.cells #[.int .i64 (K : Int), .int .i64 0, .slice pa1 pn1 pc1, .slice none 0 0, .slice pa2 pn2 pc2, .slice none 0 0] 82 (0, 0))) := HC
  clear HC
  go_wp2_with fail
  refine bodyPost_ret (results_cell_row rfl _ _ w.heap.size 82 _ (0, 0) _ rfl HCC.out Tryz.underlying82 rfl (by kernel_rfl)) rfl ?_
  obtain ⟨zr, zs, zf⟩ := P2.out.fin hX (.int .i64 (K : Int)) (.int .i64 0) (.slice pa1 pn1 pc1) (.slice none 0 0) (.slice pa2 pn2 pc2) (.slice none 0 0)
  exact ⟨_, _, _, _, rfl, ⟨(by rw [HS2.out]; exact (Q1.out.far hrm1 ((((HFa1.out).trans (HSv2.out.trans HFa2.out))).trans zf)).low (by omega)), (by rw [HS3.out]; exact ToksIn.empty _ _), (by rw [HS4.out]; exact (Q2.out.far hrm2 (by omega) ((HFa2.out).trans zf)).low (by omega)), (by rw [HS5.out]; exact StmtsIn.empty _ _ _), (by rw [HS5.out]; exact zr), zs⟩⟩
end Go.Proofs.YtbmenihakkogkabGreatDoor
