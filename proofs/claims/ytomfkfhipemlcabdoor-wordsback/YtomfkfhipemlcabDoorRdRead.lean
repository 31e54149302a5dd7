/- The functions of words, by the program. -/
import Derived.Test.YtomfkfhipemlcabDoorRdHeads
namespace Go.Proofs.YtomfkfhipemlcabDoor
open Go.RowKit Go.Maps

/-- 'fv' is a row of nf functions of the call's own, of blocks from B to below X. -/
def FunsOwn (B X : Nat) (w : World) (fv : Value) (nf : Nat) (par loc : Nat → Int) (bv : Nat → Value) : Prop :=
  ∃ a cap, fv = .slice a nf cap ∧ nf ≤ 100000 ∧ (nf = 0 ∨ ∃ g cur, a = some ⟨g, 0, none⟩ ∧ B ≤ g ∧ g < X ∧ w.heap[g]? = some (.cells cur 35 (0, 0)) ∧ ∀ i, i < nf → cur[i * 3]? = some (.int .i64 (par i)) ∧ cur[i * 3 + 1]? = some (.int .i64 (loc i)) ∧ cur[i * 3 + 2]? = some (bv i))

theorem FS.own3 {B : Nat} {w : World} {v : Value} {l : List (Int × Int)} (h : FS B w v l) (hl : l.length ≤ 100000) : FunsOwn B w.heap.size w v l.length (fun i => (l.getD i (0, 0)).1) (fun i => (l.getD i (0, 0)).2) (fun _ => .slice none 0 0) := by
  rcases h.2 with ⟨rfl, h0⟩ | ⟨g, cap, cur, rfl, hb, hg, hr⟩
  · exact ⟨none, 0, by rw [h0], hl, Or.inl h0⟩
  · refine ⟨_, cap, rfl, hl, Or.inr ⟨g, cur, rfl, hb, (Array.getElem?_eq_some_iff.1 hg).1, hg, fun i hi => ?_⟩⟩
    have e : ∀ t, t < l.length * 3 → cur[t]? = (flatF l)[t]? := fun t ht => by
      have := h.cellAt t ht
      unfold World.cell? at this
      rw [hg] at this
      exact this
    obtain ⟨e1, e2, e3⟩ := flatF_at l i hi
    rw [e _ (by omega), e _ (by omega), e _ (by omega), e1, e2, e3]
    exact ⟨rfl, rfl, rfl⟩

theorem FunsOwn.keep {B X : Nat} {w w' : World} {fv : Value} {nf : Nat} {par loc : Nat → Int} {bv : Nat → Value} (h : FunsOwn B X w fv nf par loc bv) (hs : ∀ k, k < X → w'.heap[k]? = w.heap[k]?) : FunsOwn B X w' fv nf par loc bv := by
  obtain ⟨a, cap, rfl, hn, h | ⟨g, cur, rfl, hB, hX, hg, hc⟩⟩ := h
  · exact ⟨a, cap, rfl, hn, Or.inl h⟩
  · exact ⟨_, cap, rfl, hn, Or.inr ⟨g, cur, rfl, hB, hX, by rw [hs g hX]; exact hg, hc⟩⟩

theorem FunsOwn.par {B X : Nat} {w : World} {fv : Value} {nf : Nat} {par loc : Nat → Int} {bv : Nat → Value} (h : FunsOwn B X w fv nf par loc bv) : ParAt X w fv nf par := by
  obtain ⟨a, cap, rfl, hn, h | ⟨g, cur, rfl, hB, hX, hg, hc⟩⟩ := h
  · exact ⟨a, cap, rfl, hn, Or.inl h⟩
  · refine ⟨_, cap, rfl, hn, Or.inr ⟨g, 0, rfl, hX, fun i hi => ?_⟩⟩
    unfold World.cell?
    rw [hg, Nat.zero_add]
    exact (hc i hi).1

theorem FunsOwn.funs {B X : Nat} {w : World} {fv : Value} {nf : Nat} {par loc : Nat → Int} {bv : Nat → Value} (h : FunsOwn B X w fv nf par loc bv) (hX : X ≤ w.heap.size) (hs : ∀ i, i < nf → ∃ x m c, bv i = .slice x m c) : FunsAt w.heap.size w fv nf par loc bv := by
  obtain ⟨a, cap, rfl, hn, h | ⟨g, cur, rfl, hB, hgX, hg, hc⟩⟩ := h
  · exact ⟨a, cap, rfl, by omega, Or.inl h⟩
  · refine ⟨_, cap, rfl, by omega, Or.inr ⟨g, 0, rfl, by omega, fun i hi => ?_⟩⟩
    unfold World.cell?
    rw [hg, Nat.zero_add]
    exact ⟨(hc i hi).1, (hc i hi).2.1, (hc i hi).2.2, hs i hi⟩

def putB (bv : Nat → Value) (j : Nat) (v : Value) (i : Nat) : Value := if i = j then v else bv i

/-- A body stored. -/
theorem FunsOwn.put {B X g cap : Nat} {w : World} {nf : Nat} {par loc : Nat → Int} {bv : Nat → Value} (h : FunsOwn B X w (.slice (some ⟨g, 0, none⟩) nf cap) nf par loc bv) {j : Nat} (hj : j < nf) (v : Value) :
    FunsOwn B X (w.setCell ⟨g, j * 3 + 2, none⟩ v) (.slice (some ⟨g, 0, none⟩) nf cap) nf par loc (putB bv j v) ∧ w.cell? ⟨g, j * 3 + 2, none⟩ = some (bv j) ∧ w.frozen? ⟨g, j * 3 + 2, none⟩ = false ∧ B ≤ g ∧ g < X := by
  obtain ⟨a, cap', e, hn, h | ⟨g', cur, rfl, hB, hgX, hg, hc⟩⟩ := h
  · omega
  cases e
  refine ⟨⟨_, cap, rfl, hn, Or.inr ⟨g, _, rfl, hB, hgX, heap_setCell_same w g (j * 3 + 2) cur _ v hg, fun i hi => ?_⟩⟩, ?_, ?_, hB, hgX⟩
  · obtain ⟨c0, c1, c2⟩ := hc i hi
    have hsz : j * 3 + 2 < cur.size := by
      obtain ⟨hx, _⟩ := Array.getElem?_eq_some_iff.1 (hc j hj).2.2
      exact hx
    rw [Array.getElem?_setIfInBounds, Array.getElem?_setIfInBounds, Array.getElem?_setIfInBounds, if_neg (by omega), if_neg (by omega)]
    refine ⟨c0, c1, ?_⟩
    unfold putB
    by_cases e : i = j
    · subst e; rw [if_pos rfl, if_pos hsz, if_pos rfl]
    · rw [if_neg (by omega), if_neg e]; exact c2
  · unfold World.cell?; rw [hg]; exact (hc j hj).2.2
  · unfold World.frozen?; rw [hg]; simp

theorem leftR_len (nf : Nat) (par : Nat → Int) (u : Nat) (ws : List Wd) : ∀ j, (leftR nf par u ws j).length ≤ ws.length
  | 0 => Nat.le_refl _
  | j + 1 => by
    have := leftR_len nf par u ws j
    refine Nat.le_trans (blkR_len nf par u _) (tail_length (tail_length (tail_length this)))

theorem headsR_len : ∀ ws : List Wd, (headsR ws).length ≤ ws.length
  | [] => Nat.le_refl _
  | w :: ws => by
    have := headsR_len ws
    rw [headsR]
    split
    · simp; exact this
    · simp; omega

set_option maxHeartbeats 4000000 in
theorem read (N : Nat) (w : World) (hN : N ≤ w.heap.size) (he : Env N w) (g o cap : Nat) (ws : List Wd) (h0 : ∀ y ∈ ws, y.size ≤ 100000) (h1 : ws.length ≤ 90000) (hc : ws.length ≤ cap) (hg : g < w.heap.size) (hcell : ∀ j y, ws[j]? = some y → w.cell? ⟨g, o + j, none⟩ = some (.string y)) (L : Nat) (hL : ws.length = L) :
    Calls Tryd.prog 13 #[.slice (some ⟨g, o, none⟩) L cap] w fun e w' => ∃ v bv, e = .returned v ∧ Hid (FunsAt w'.heap.size w' v (rdN ws) (rdP ws) (rdL ws) bv) ∧ Hid (∀ i, i < rdN ws → StmtsAt w'.heap.size w' (ws.length + 2) (bv i) (rdB ws i)) ∧ Below w.heap.size w w' := by
  have HHd : Hid (Calls Tryd.prog 23 #[.slice (some ⟨g, o, none⟩) L cap] w fun e w' => ∃ v, e = .returned v ∧ Hid (FS w.heap.size w' v (headsR ws)) ∧ Below w.heap.size w w') := heads N w hN he g o cap ws h0 (by omega) hc hg hcell L hL
  have HE : Hid (Env N w) := he
  have HWo : Hid (∀ w1, Below w.heap.size w w1 → ∀ fv : Value, (∀ k, fv.ownBlock = some k → w.heap.size ≤ k) → RD w1.heap.size (w1.alloc (.cells #[.slice (some ⟨g, o, none⟩) L cap, fv] 63)) ws fv) := fun w1 hb fv hfo => by
    refine ⟨_, heap_alloc_new w1 _, h0, by omega, some ⟨g, o, none⟩, cap, by rw [hL], hc, Or.inr ⟨g, o, rfl, Nat.lt_of_lt_of_le hg hb.size, fun e => by have := hfo g e; omega, fun j x hj => ?_⟩⟩
    rw [(below_alloc w1 _).cell (p := ⟨g, o + j, none⟩) (Nat.lt_of_lt_of_le hg hb.size), hb.cell (p := ⟨g, o + j, none⟩) hg]
    exact hcell j x hj
  have HLe : Hid (ws.length ≤ 90000) := h1
  have hnn : rdN ws ≤ 100000 := Nat.le_trans (headsR_len ws) (by omega)
  clear he h0 h1 hc hcell hL
  go_enter Tryd.func13, Tryd.ntmps13
  go_upto_region 2 with (first
    | (go_at_call 23; refine HHd.out.mono ?_; rintro e w1 ⟨fv, rfl, HF, b1⟩))
  have HFO : Hid (FunsOwn w.heap.size w1.heap.size w1 fv (rdN ws) (rdP ws) (rdL ws) (fun _ => .slice none 0 0)) := HF.out.own3 hnn
  have HRD := HWo.out w1 b1 fv (fun k hk => (HF.out.own k hk).1)
  have HRD0 : Hid (RD w1.heap.size (w1.alloc (.cells #[.slice (some ⟨g, o, none⟩) L cap, fv] 63)) ws fv) := HRD
  have hb2 := below_alloc w1 (.cells #[.slice (some ⟨g, o, none⟩) L cap, fv] 63)
  have HB2 : Hid (Below w1.heap.size w1 (w1.alloc (.cells #[.slice (some ⟨g, o, none⟩) L cap, fv] 63))) := hb2
  have HFO2 : Hid (FunsOwn w.heap.size w1.heap.size (w1.alloc (.cells #[.slice (some ⟨g, o, none⟩) L cap, fv] 63)) fv (rdN ws) (rdP ws) (rdL ws) (fun _ => .slice none 0 0)) := HFO.out.keep fun k hk => hb2.block k hk
  have hX0 : w.heap.size ≤ w1.heap.size := b1.size
  obtain ⟨fa, fc, hfv⟩ : ∃ fa fc, fv = .slice fa (rdN ws) fc := by
    obtain ⟨fa, fc, e, _⟩ := HFO.out
    exact ⟨fa, fc, e⟩
  subst hfv
  clear HHd HF HFO HRD hb2
  go_upto_region 4 with (fail)
  generalize w1.alloc (.cells #[.slice (some ⟨g, o, none⟩) L cap, .slice fa (rdN ws) fc] 63) = W at *
  generalize hX : w1.heap.size = X at *
  generalize hnf : rdN ws = nf at *
  generalize hpar : rdP ws = par at *
  generalize hloc : rdL ws = loc at *
  have HBd : Hid (∀ i, rdB ws i = bodyR nf par (ws.length + 1) ws i) := fun i => by unfold rdB; rw [hnf, hpar]
  have hbW : Below w.heap.size w W := b1.trans (HB2.out.mono hX0)
  have HNf : Hid (rdN ws = nf) := hnf
  have HPr : Hid (rdP ws = par) := hpar
  have HLo : Hid (rdL ws = loc) := hloc
  have hNX : N ≤ X := Nat.le_trans hN hX0
  have HEn : Hid (∀ w1, Below w.heap.size w w1 → Env N w1) := fun w1 hb => HE.out.below (hb.mono hN)
  clear hnf hpar hloc
  go_loopw [14] (fun i wr => ∃ (j : Nat) (bv : Nat → Value), j ≤ nf ∧ i = .int .i64 j ∧ Hid (FunsOwn w.heap.size X wr (.slice fa nf fc) nf par loc bv) ∧ Hid (RD X wr (leftR nf par (ws.length + 1) ws j) (.slice fa nf fc)) ∧ Hid (∀ i, i < nf → (i < j → StmtsIn (X + 1) wr (ws.length + 2) (bv i) (bodyR nf par (ws.length + 1) ws i)) ∧ (¬ i < j → bv i = .slice none 0 0)) ∧ Below w.heap.size w wr) (fun i _ => nf - (intOf i).toNat)
  case atStart => exact ⟨0, _, by omega, rfl, HFO2, HRD0, (fun i _ => ⟨fun h => absurd h (Nat.not_lt_zero _), fun _ => rfl⟩), hbW⟩
  case round =>
    obtain ⟨j, bv, hj0, rfl, HFn, HR, HS, hbw⟩ := hrel
    by_cases hj : j < nf
    · have hXr := HR.out.lt
      have hll := leftR_len nf par (ws.length + 1) ws j
      have HNx : Hid (leftR nf par (ws.length + 1) ws (j + 1) = (blkR nf par (ws.length + 1) (leftR nf par (ws.length + 1) ws j).tail.tail.tail).2) := rfl
      have HBn : Hid (bodyR nf par (ws.length + 1) ws j = (blkR nf par (ws.length + 1) (leftR nf par (ws.length + 1) ws j).tail.tail.tail).1) := rfl
      obtain ⟨g2, ea⟩ : ∃ g2, fa = some ⟨g2, 0, none⟩ := by
        obtain ⟨a, cp, e, _, h | ⟨g2, cur, rfl, _⟩⟩ := HFn.out
        · omega
        · cases e; exact ⟨g2, rfl⟩
      subst ea
      generalize leftR nf par (ws.length + 1) ws j = ls at *
      have hl3 : ls.tail.tail.tail.tail.length ≤ ws.length + 1 := tail_length (tail_length (tail_length (tail_length (by omega))))
      have hji : (j : Int) < (nf : Int) := by omega
      have HSb : Hid (∀ w5, Save X wr w5 → Below w.heap.size w w5) := fun w5 hs => hbw.trans (hs.low hX0 hbw.size)
      have HFk : Hid (∀ w5, Save X wr w5 → FunsOwn w.heap.size X w5 (.slice (some ⟨g2, 0, none⟩) nf fc) nf par loc bv) := fun w5 hs => HFn.out.keep fun k hk => hs.block k (by omega) (by omega)
      have HBl : Hid (∀ w4, Save X wr w4 → RD X w4 ls.tail.tail.tail (.slice (some ⟨g2, 0, none⟩) nf fc) → Calls Tryd.prog 26 #[.pointer (some ⟨X, 0, none⟩)] w4 fun e w' => ∃ v, e = .returned v ∧ Hid (StmtsIn w4.heap.size w' (ws.length + 2) v (blkR nf par (ws.length + 1) ls.tail.tail.tail).1) ∧ Hid (RD X w' (blkR nf par (ws.length + 1) ls.tail.tail.tail).2 (.slice (some ⟨g2, 0, none⟩) nf fc)) ∧ Save X w4 w') := fun w4 hs hr =>
        block N X hNX nf par _ (ws.length + 1) w4 _ (HEn.out _ (HSb.out _ hs)) hr (HFk.out _ hs).par hl3
      have hbv : Hid (bv j = .slice none 0 0) := (HS.out j hj).2 (by omega)
      go_wp2_with (first
        | (go_at_call 24; refine (next X wr ls _ HR.out).mono ?_; rintro e w2 ⟨rfl, R2, s2⟩)
        | (go_at_call 25; have _ := R3; refine (number N X w3 ls.tail.tail _ hNX (HEn.out _ (HSb.out _ (s2.trans s3))) R3.out).mono ?_; rintro e w4 ⟨rfl, R4, s4⟩)
        | (go_at_call 25; refine (number N X w2 ls.tail _ hNX (HEn.out _ (HSb.out _ s2)) R2.out).mono ?_; rintro e w3 ⟨rfl, R3, s3⟩)
        | (go_at_call 26; refine (HBl.out w4 ((s2.trans s3).trans s4) R4.out).mono ?_; rintro e w5 ⟨v5, rfl, Q5, R5, s5⟩; obtain ⟨pa, pn, pc, rfl⟩ := Q5.out.shape; obtain ⟨FP, c5, f5, hB5, hX5⟩ := (HFk.out w5 (((s2.trans s3).trans s4).trans s5)).put hj (.slice pa pn pc); rw [hbv.out] at c5))
      go_roundw
      case rel =>
        have s25 : Save X wr w5 := ((s2.trans s3).trans s4).trans s5
        have hf5 : Far (X + 1) w5 (w5.setCell ⟨g2, j * 3 + 2, none⟩ (.slice pa pn pc)) := Far.set _ _ _ _ (by omega)
        have hw4 : X + 1 ≤ w4.heap.size := R4.out.lt
        refine ⟨j + 1, putB bv j (.slice pa pn pc), by omega, by go_num, FP, ?_, ?_, Below.setCell (HSb.out _ s25) hB5 _⟩
        · show RD _ _ _ _
          rw [HNx.out]
          exact R5.out.putF rfl hX5
        · intro i hi
          refine ⟨fun hlt => ?_, fun hge => ?_⟩
          · unfold putB
            by_cases e : i = j
            · subst e
              rw [if_pos rfl, HBn.out]
              exact (Q5.out.far hw4 (by omega) hf5).low hw4
            · rw [if_neg e]
              exact (((HS.out i hi).1 (by omega)).far (Nat.le_refl _) (by omega) (Far.of s25 (by omega))).far (Nat.le_refl _) (by omega) hf5
          · unfold putB
            rw [if_neg (by omega)]
            exact (HS.out i hi).2 (by omega)
      case measure => simp [intOf]; omega
    · obtain rfl : j = nf := by omega
      go_wp2_with fail
      go_ret
      have hXr := HR.out.lt
      refine ⟨_, bv, rfl, ?_, ?_, hbw⟩
      · show FunsAt _ _ _ _ _ _ _
        rw [HNf.out, HPr.out, HLo.out]
        exact HFn.out.funs (by omega) (fun i hi => (((HS.out i hi).1 hi)).shape)
      · intro i hi
        rw [HNf.out] at hi
        rw [HBd.out]
        exact ((HS.out i hi).1 hi).stmts

end Go.Proofs.YtomfkfhipemlcabDoor
