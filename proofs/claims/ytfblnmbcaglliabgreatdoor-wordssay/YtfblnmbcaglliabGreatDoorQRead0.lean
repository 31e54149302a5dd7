/- SourceRead of the reckoning: the program that the words read as, if its text is that very text. -/
import Derived.Test.YtfblnmbcaglliabGreatDoorQBlock
import Derived.Test.YtfblnmbcaglliabGreatDoorSrcText
import Derived.Test.YtfblnmbcaglliabGreatDoorRefCheck
import Derived.Test.YtfblnmbcaglliabGreatDoorPartParse
import Derived.Laws.EntriesVeiled
namespace Go.Proofs.YtfblnmbcaglliabGreatDoor
open Go.RowKit Go.Maps

theorem headsQ_len : ∀ ws : List Wd, (headsQ ws).length ≤ ws.length
  | [] => Nat.le_refl _
  | w :: ws => by
    have := headsQ_len ws
    rw [headsQ]
    split
    · simp; exact this
    · simp; omega

/-- What the words of a text read as, by the reckoning: is it a right program with that very text? -/
def rqGood (D : Nat) (s : ByteArray) : Prop :=
  (1 ≤ rqN (wordsOf s) ∧ rqN (wordsOf s) ≤ 4) ∧ (∀ i, i < rqN (wordsOf s) → parErr (rqP (wordsOf s) i) = 0) ∧ rqLeft (wordsOf s) = ([], true) ∧
    progErr (rqN (wordsOf s)) (rqP (wordsOf s)) (rqL (wordsOf s)) D (rqB (wordsOf s)) = 0 ∧ bs (textL (progW (rqN (wordsOf s)) (rqP (wordsOf s)) (rqL (wordsOf s)) D (rqB (wordsOf s)))) = s

/-- .. where it lies. -/
def RqAt (D : Nat) (s : ByteArray) (w : World) (v : Value) : Prop :=
  ∃ bv, FunsAt w.heap.size w v (rqN (wordsOf s)) (rqP (wordsOf s)) (rqL (wordsOf s)) bv ∧ ∀ i, i < rqN (wordsOf s) → StmtsAt w.heap.size w D (bv i) (rqB (wordsOf s) i)

/-- While the heads are read: block X has the functions; all below is as it was. -/
structure HdS (X : Nat) (wS wi : World) (v : Value) (acc : List (Int × Int)) : Prop where
  fs : FS (X + 1) wi v acc
  cell : wi.heap[X]? = some (.cells #[v] 22 (0, 0))
  low : Below X wS wi

theorem HdS.lt {X : Nat} {wS wi : World} {v : Value} {acc : List (Int × Int)} (h : HdS X wS wi v acc) : X < wi.heap.size := (Array.getElem?_eq_some_iff.1 h.cell).1

theorem HdS.keep {X : Nat} {wS wi w' : World} {v : Value} {acc : List (Int × Int)} (h : HdS X wS wi v acc) (hb : Below wi.heap.size wi w') : HdS X wS w' v acc :=
  ⟨h.fs.below hb (fun k hk => (h.fs.own k hk).2), by rw [hb.block _ h.lt]; exact h.cell, h.low.trans (hb.mono (by have := h.lt; omega))⟩

theorem HdS.c0 {X : Nat} {wS wi : World} {v : Value} {acc : List (Int × Int)} (h : HdS X wS wi v acc) : wi.cell? ⟨X, 0, none⟩ = some v ∧ wi.frozen? ⟨X, 0, none⟩ = false := by
  constructor
  · unfold World.cell?; rw [h.cell]; rfl
  · unfold World.frozen?; rw [h.cell]; rfl

/-- One head more: the row, and the cell behind it. -/
theorem HdS.grown {X : Nat} {wS wi w' : World} {v v' : Value} {acc : List (Int × Int)} (h : HdS X wS wi v acc) (hg : Grow wi v w' v') : w'.heap[X]? = some (.cells #[v] 22 (0, 0)) ∧ Below X wS w' ∧ w'.cell? ⟨X, 0, none⟩ = some v ∧ w'.frozen? ⟨X, 0, none⟩ = false := by
  have hlt := h.lt
  have hlow : Below (X + 1) wi w' := hg.low (fun k hk => (h.fs.own k hk).1) hlt
  have hc : w'.heap[X]? = some (.cells #[v] 22 (0, 0)) := by rw [hlow.block _ (by omega)]; exact h.cell
  refine ⟨hc, h.low.trans (hlow.mono (by omega)), ?_, ?_⟩
  · unfold World.cell?; rw [hc]; rfl
  · unfold World.frozen?; rw [hc]; rfl

theorem HdS.put {X : Nat} {wS wi w' : World} {v v' : Value} {acc : List (Int × Int)} {p l : Int} (h : HdS X wS wi v acc) (hf : FS (X + 1) w' v' (acc ++ [(p, l)])) (hg : Grow wi v w' v') : HdS X wS (w'.setCell ⟨X, 0, none⟩ v') v' (acc ++ [(p, l)]) := by
  obtain ⟨hc, hlow, _, _⟩ := h.grown hg
  have hb : Below X w' (w'.setCell ⟨X, 0, none⟩ v') := (Below.refl X w').setCell (Nat.le_refl X) v'
  refine ⟨?_, by rw [heap_setCell_same w' X 0 _ _ v' hc]; rfl, hlow.trans hb⟩
  refine ⟨hf.1, ?_⟩
  rcases hf.2 with ⟨rfl, h0⟩ | ⟨g, cap, cur, rfl, h1, h2, h3⟩
  · exact Or.inl ⟨rfl, h0⟩
  · exact Or.inr ⟨g, cap, cur, rfl, h1, by rw [Below.heap_setCell w' ⟨X, 0, none⟩ _ g (by show ¬ g = X; omega)]; exact h2, h3⟩

theorem headsQ_hit {ws : List Wd} {j : Nat} {x : Wd} (hx : ws[j]? = some x) (hf : x = funW) (hl : j + 2 < ws.length) : headsQ (ws.drop j) = (numR (ws.drop (j + 1)), numR (ws.drop (j + 1)).tail) :: headsQ (ws.drop (j + 1)) := by
  obtain ⟨y, hy, hd⟩ := drop_cons (ws := ws) (j := j) (by omega)
  rw [hx] at hy; injection hy with hy; subst hy
  rw [hd, headsQ, if_pos ⟨hf, by rw [List.length_drop]; omega⟩]
theorem headsQ_miss {ws : List Wd} {j : Nat} {x : Wd} (hx : ws[j]? = some x) (hf : ¬ (x = funW ∧ j + 2 < ws.length)) : headsQ (ws.drop j) = headsQ (ws.drop (j + 1)) := by
  have hlt : j < ws.length := (List.getElem?_eq_some_iff.1 hx).1
  obtain ⟨y, hy, hd⟩ := drop_cons (ws := ws) (j := j) hlt
  rw [hx] at hy; injection hy with hy; subst hy
  rw [hd, headsQ, if_neg fun h => hf ⟨h.1, by have := h.2; rw [List.length_drop] at this; omega⟩]

theorem numR_at {ws : List Wd} {j : Nat} {x : Wd} (hx : ws[j]? = some x) : numR (ws.drop j) = atoiV x.data.toList := by
  have hlt : j < ws.length := (List.getElem?_eq_some_iff.1 hx).1
  obtain ⟨y, hy, hd⟩ := drop_cons (ws := ws) (j := j) hlt
  rw [hx] at hy; injection hy with hy; subst hy
  rw [hd]; rfl

theorem FunsOwn.cells {B X g cap : Nat} {w : World} {nf : Nat} {par loc : Nat → Int} {bv : Nat → Value} (h : FunsOwn B X w (.slice (some ⟨g, 0, none⟩) nf cap) nf par loc bv) {i : Nat} (hi : i < nf) :
    w.cell? ⟨g, i * 3, none⟩ = some (.int .i64 (par i)) ∧ w.cell? ⟨g, i * 3 + 1, none⟩ = some (.int .i64 (loc i)) ∧ w.cell? ⟨g, i * 3 + 2, none⟩ = some (bv i) ∧ B ≤ g ∧ g < X := by
  obtain ⟨a, cap', e, hn, h | ⟨g', cur, rfl, hB, hgX, hg, hc⟩⟩ := h
  · omega
  cases e
  obtain ⟨c0, c1, c2⟩ := hc i hi
  refine ⟨?_, ?_, ?_, hB, hgX⟩
  · unfold World.cell?; rw [hg]; exact c0
  · unfold World.cell?; rw [hg]; exact c1
  · unfold World.cell?; rw [hg]; exact c2

theorem Spc.up {N M : Nat} {w : World} (h : Spc N w) (hm : N ≤ M) : Spc M w := ⟨Nat.le_trans h.low hm, h.tab⟩

/-- Where the parts of this reader lie. -/
def qcOf (N A wb x4 x5 : Nat) (W : List Wd) (fv : Value) (nf : Nat) (par : Nat → Int) : QC := ⟨N, A, wb, x4, x5, A + 1 + 1, A + 1 + 1 + 1, A + 1 + 1 + 1 + 1, W, fv, nf, par⟩

def qcW (wr : World) (x4 x5 : Nat) : World :=
  ((((wr.alloc (.cells #[.int .i64 0] 3)).alloc (.cells #[.bool true] 4)).alloc
    (.cells #[.func (.func 29) #[] #[.pointer (some ⟨wr.heap.size, 0, none⟩), .pointer (some ⟨x4, 0, none⟩), .pointer (some ⟨wr.heap.size + 1, 0, none⟩)]] 63)).alloc
    (.cells #[.func (.func 30) #[] #[.pointer (some ⟨wr.heap.size + 1, 0, none⟩), .pointer (some ⟨wr.heap.size + 1 + 1, 0, none⟩), .pointer (some ⟨x5, 0, none⟩)]] 71)).alloc
    (.cells #[.func (.func 35) #[] #[.pointer (some ⟨wr.heap.size + 1 + 1, 0, none⟩), .pointer (some ⟨wr.heap.size + 1, 0, none⟩), .pointer (some ⟨wr.heap.size + 1 + 1 + 1, 0, none⟩), .pointer (some ⟨wr.heap.size + 1 + 1 + 1 + 1, 0, none⟩)]] 72)

theorem five_allocs (w : World) (a b c d e : Obj) : ((((w.alloc a).alloc b).alloc c).alloc d).alloc e = { w with heap := ((((w.heap.push a).push b).push c).push d).push e } := rfl

theorem five_at (w : World) (a b c d e : Obj) : Below w.heap.size w (((((w.alloc a).alloc b).alloc c).alloc d).alloc e) ∧ (((((w.alloc a).alloc b).alloc c).alloc d).alloc e).heap[w.heap.size]? = some a ∧ (((((w.alloc a).alloc b).alloc c).alloc d).alloc e).heap[w.heap.size + 1]? = some b ∧
    (((((w.alloc a).alloc b).alloc c).alloc d).alloc e).heap[w.heap.size + 1 + 1]? = some c ∧ (((((w.alloc a).alloc b).alloc c).alloc d).alloc e).heap[w.heap.size + 1 + 1 + 1]? = some d ∧ (((((w.alloc a).alloc b).alloc c).alloc d).alloc e).heap[w.heap.size + 1 + 1 + 1 + 1]? = some e ∧ (((((w.alloc a).alloc b).alloc c).alloc d).alloc e).heap.size = w.heap.size + 5 := by
  refine ⟨below_step (below_step (below_step (below_step (below_alloc _ _) (below_alloc _ _)) (below_alloc _ _)) (below_alloc _ _)) (below_alloc _ _), ?_, ?_, ?_, ?_, ?_, by simp⟩
  all_goals
    rw [five_allocs]
    simp only [Array.getElem?_push, Array.size_push]
    repeat (first | rw [if_pos trivial] | rw [if_pos rfl] | rw [if_neg (by omega)])

theorem cell_of {w : World} {b : Nat} {v : Value} {t : TypeId} (h : w.heap[b]? = some (.cells #[v] t (0, 0))) : w.cell? ⟨b, 0, none⟩ = some v := by
  unfold World.cell?; rw [h]; rfl

/-- The reader, begun. -/
theorem qr_start {N wb x4 x5 L nf : Nat} {wr : World} {ws : List Wd} {fv : Value} {par loc : Nat → Int} {bv : Nat → Value} (he : Env N wr) (hsp : Spc N wr) (hN : N ≤ wr.heap.size) (h4 : wr.cell? ⟨x4, 0, none⟩ = some (.slice (some ⟨wb, 0, none⟩) L L)) (hL : ws.length = L) (hw : ∀ j y, ws[j]? = some y → wr.cell? ⟨wb, j, none⟩ = some (.string y)) (hwb : wb < wr.heap.size)
    (hsm : ∀ y ∈ ws, y.size ≤ 100000) (hlen : L ≤ 100000) (h5 : wr.cell? ⟨x5, 0, none⟩ = some fv) (hf : FunsAt wr.heap.size wr fv nf par loc bv) (hpar : ∀ i, i < nf → parErr (par i) = 0) (hn4 : nf ≤ 4) :
    QR (qcOf N wr.heap.size wb x4 x5 ws fv nf par) (qcW wr x4 x5) (ws, true) := by
  have l4 := cell_lt h4
  have l5 := cell_lt h5
  obtain ⟨hb, a0, a1, a2, a3, a4, hz⟩ := five_at wr (.cells #[.int .i64 0] 3) (.cells #[.bool true] 4) (.cells #[.func (.func 29) #[] #[.pointer (some ⟨wr.heap.size, 0, none⟩), .pointer (some ⟨x4, 0, none⟩), .pointer (some ⟨wr.heap.size + 1, 0, none⟩)]] 63)
    (.cells #[.func (.func 30) #[] #[.pointer (some ⟨wr.heap.size + 1, 0, none⟩), .pointer (some ⟨wr.heap.size + 1 + 1, 0, none⟩), .pointer (some ⟨x5, 0, none⟩)]] 71)
    (.cells #[.func (.func 35) #[] #[.pointer (some ⟨wr.heap.size + 1 + 1, 0, none⟩), .pointer (some ⟨wr.heap.size + 1, 0, none⟩), .pointer (some ⟨wr.heap.size + 1 + 1 + 1, 0, none⟩), .pointer (some ⟨wr.heap.size + 1 + 1 + 1 + 1, 0, none⟩)]] 72)
  refine ⟨⟨he.below (hb.mono hN), hsp.below (hb.mono hN), hN, ?_, fun j y hj => ?_, hsm, by show ws.length ≤ _; omega, ?_, ⟨loc, bv, hf.below hb⟩, hpar, hn4, cell_of a2, cell_of a3, cell_of a4, hwb, l4, l5, ?_, ?_, ?_, ?_⟩, ⟨0, Nat.zero_le _, rfl, a0⟩, a1⟩
  · show (qcW wr x4 x5).cell? ⟨x4, 0, none⟩ = some (.slice (some ⟨wb, 0, none⟩) ws.length ws.length)
    rw [hL]
    exact (hb.cell (p := ⟨x4, 0, none⟩) l4).trans h4
  · exact (hb.cell (p := ⟨wb, j, none⟩) hwb).trans (hw j y hj)
  · exact (hb.cell (p := ⟨x5, 0, none⟩) l5).trans h5
  · show wr.heap.size + 1 < wr.heap.size + 1 + 1; omega
  · show wr.heap.size + 1 < wr.heap.size + 1 + 1 + 1; omega
  · show wr.heap.size + 1 < wr.heap.size + 1 + 1 + 1 + 1; omega
  · show wr.heap.size + 1 < (qcW wr x4 x5).heap.size
    unfold qcW
    omega

theorem FunsOwn.at_ {B X A : Nat} {w : World} {fv : Value} {nf : Nat} {par loc : Nat → Int} {bv : Nat → Value} (h : FunsOwn B X w fv nf par loc bv) (hX : X ≤ A) (hs : ∀ i, i < nf → ∃ x m c, bv i = .slice x m c) : FunsAt A w fv nf par loc bv := by
  obtain ⟨a, cap, rfl, hn, h | ⟨g, cur, rfl, hB, hgX, hg, hc⟩⟩ := h
  · exact ⟨a, cap, rfl, by omega, Or.inl h⟩
  · refine ⟨_, cap, rfl, by omega, Or.inr ⟨g, 0, rfl, by omega, fun i hi => ?_⟩⟩
    unfold World.cell?
    rw [hg, Nat.zero_add]
    exact ⟨(hc i hi).1, (hc i hi).2.1, (hc i hi).2.2, hs i hi⟩

/-- The reader, behind a store where the functions are. -/
theorem QR.putF {c : QC} {w : World} {q : Rs} {g i : Nat} {v : Value} {loc : Nat → Int} {bv : Nat → Value} (h : QR c w q) (hg : c.N ≤ g ∧ c.wb < g ∧ c.x4 < g ∧ c.x5 < g ∧ g < c.A) (hf : FunsAt c.A (w.setCell ⟨g, i, none⟩ v) c.fv c.nf c.par loc bv) : QR c (w.setCell ⟨g, i, none⟩ v) q := by
  obtain ⟨g1, g2, g3, g4, g5⟩ := hg
  have hb : Below g w (w.setCell ⟨g, i, none⟩ v) := (Below.refl g w).setCell (Nat.le_refl g) v
  have he : ∀ k, ¬ k = g → (w.setCell ⟨g, i, none⟩ v).heap[k]? = w.heap[k]? := fun k hk => Below.heap_setCell w ⟨g, i, none⟩ v k hk
  have hc : ∀ b o, ¬ b = g → (w.setCell ⟨g, i, none⟩ v).cell? ⟨b, o, none⟩ = w.cell? ⟨b, o, none⟩ := fun b o hk => World.cell?_of_block (w := w) (a := ⟨b, o, none⟩) (he b hk)
  have o4 := h.st.o4
  have o5 := h.st.o5
  have o6 := h.st.o6
  obtain ⟨n, h1, h2, h3⟩ := h.at_
  refine ⟨⟨h.st.env.below (hb.mono g1), h.st.spc.below (hb.mono g1), h.st.lowN, ?_, fun j y hj => ?_, h.st.small, h.st.len, ?_, ⟨loc, bv, hf⟩, h.st.parOK, h.st.nf4, ?_, ?_, ?_, h.st.o1, h.st.o2, h.st.o3, o4, o5, o6, Nat.lt_of_lt_of_le h.st.top hb.size⟩, ⟨n, h1, h2, by rw [he _ (by omega)]; exact h3⟩, by rw [he _ (by omega)]; exact h.ok⟩
  · rw [hc _ _ (by omega)]; exact h.st.w4
  · rw [hc _ _ (by omega)]; exact h.st.wds j y hj
  · rw [hc _ _ (by omega)]; exact h.st.f5
  · rw [hc _ _ (by omega)]; exact h.st.cw
  · rw [hc _ _ (by omega)]; exact h.st.ce
  · rw [hc _ _ (by omega)]; exact h.st.cb

/-- All kinds that are read are small. -/
theorem kinds_mkT {d : Nat} {its : List It} (h : ∀ it ∈ its, (Lit.int .i64 it.nd.kind).wf = true ∧ kindsFit d it.a ∧ kindsFit d it.b) : kindsFit (d + 1) (mkT its) := by
  intro i hi
  have hi : i < its.length := hi
  have := h its[i] (List.getElem_mem hi)
  rw [mkT_nd, mkT_a, mkT_b]
  simpa [List.getD, hi] using this
theorem kinds_no : ∀ d, kindsFit d noSL
  | 0 => trivial
  | _ + 1 => fun _ hi => absurd hi (Nat.not_lt_zero _)

theorem kind_wf (K : Nat) (h : K ≤ 8) : (Lit.int .i64 (K : Int)).wf = true := by
  have : K = 0 ∨ K = 1 ∨ K = 2 ∨ K = 3 ∨ K = 4 ∨ K = 5 ∨ K = 6 ∨ K = 7 ∨ K = 8 := by omega
  rcases this with rfl | rfl | rfl | rfl | rfl | rfl | rfl | rfl | rfl <;> decide

theorem kinds_loop (nf : Nat) (par : Nat → Int) (B : Rs → SL × Rs) (d : Nat) (hB : ∀ q, kindsFit d (B q).1) : ∀ (fu : Nat) (q : Rs), ∀ it ∈ (loopQ nf par B fu q).1, (Lit.int .i64 it.nd.kind).wf = true ∧ kindsFit d it.a ∧ kindsFit d it.b := by
  intro fu
  induction fu with
  | zero => intro q it hit; cases hit
  | succ fu ih =>
    intro q it hit
    unfold loopQ at hit
    split at hit
    · cases hit
    split at hit
    · cases hit
    split at hit
    · cases hit
    · rw [List.mem_cons] at hit
      rcases hit with rfl | hit
      · refine ⟨kind_wf _ (kindOf_lt _), ?_, ?_⟩
        · show kindsFit d (q4 nf par B _ _).1
          unfold q4; split
          · exact hB _
          · exact kinds_no d
        · show kindsFit d (q5 nf par B _ _).1
          unfold q5; split
          · exact hB _
          · exact kinds_no d
      · exact ih _ it hit

theorem kinds_blk (nf : Nat) (par : Nat → Int) : ∀ (d u : Nat) (q : Rs), kindsFit d (blkQ nf par u q).1
  | 0, _, _ => trivial
  | d + 1, 0, _ => kinds_no _
  | d + 1, u + 1, q => by
    unfold blkQ
    show kindsFit (d + 1) (if _ then _ else _)
    split
    · exact kinds_mkT (kinds_loop nf par _ d (fun q => kinds_blk nf par d u q) _ _)
    · exact kinds_no _

end Go.Proofs.YtfblnmbcaglliabGreatDoor
