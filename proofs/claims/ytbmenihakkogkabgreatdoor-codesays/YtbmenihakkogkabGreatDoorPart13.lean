import Derived.Test.YtbmenihakkogkabGreatDoorWalk
import Derived.Test.YtbmenihakkogkabGreatDoorPart2
import Derived.Test.YtbmenihakkogkabGreatDoorStmtErr
namespace Go.Proofs.YtbmenihakkogkabGreatDoor
open Go.RowKit
theorem StmtsAt.proper {N : Nat} {w : World} : ∀ {d : Nat} {v : Value} {T : SL}, StmtsAt N w d v T → proper d T
  | 0, _, _, h => h.1
  | d + 1, v, T, h => by
    intro i hi
    obtain ⟨a, cap, rfl, hn, h | ⟨b, o, rfl, hlt, hc⟩⟩ := h
    · omega
    · obtain ⟨ve, vf, va, vb, c0, c1, c2, c3, c4, c5, t1, t2, s1, s2⟩ := hc i hi
      exact ⟨s1.proper, s2.proper⟩
theorem errs_none {E : Nd → Nat → Nat → Int} {d : Nat} {T : SL} (h : T.len = 0) : errs E d T = 0 := by
  cases d with
  | zero => rfl
  | succ d => simp only [errs]; rw [h]; rfl
theorem errs_trim (E : Nd → Nat → Nat → Int) : ∀ (d : Nat) (T : SL) (left : Nat), proper d T → fits d T left → errs E left T = errs E d T
  | 0, T, left, h, _ => by rw [errs_none h, errs_none h]
  | d + 1, T, left, h, hf => by
    by_cases e : T.len = 0
    · rw [errs_none e, errs_none e]
    · rcases hf with hf | ⟨h0, hf⟩
      · exact absurd hf e
      cases left with
      | zero => omega
      | succ l =>
        simp only [errs]
        refine firstErr_congr fun i hi => ?_
        have h1 := errs_trim E d (T.sub i false) l (h i hi).1 (hf i hi).1
        have h2 := errs_trim E d (T.sub i true) l (h i hi).2 (hf i hi).2
        simp only [h1, h2]
def Cnt (X c : Nat) (w : World) : Prop := c ≤ 30 ∧ X < w.heap.size ∧ w.cell? ⟨X, 0, none⟩ = some (.int .i64 c) ∧ w.frozen? ⟨X, 0, none⟩ = false
theorem save_set {X : Nat} {w : World} (o : Obj) (x : Value) : Save X w ((w.setCell ⟨X, 0, none⟩ x).alloc o) := by
  refine Save.trans (b := w.setCell ⟨X, 0, none⟩ x) ⟨rfl, rfl, rfl, by simp [World.setCell], fun k hk hx => ?_⟩ (Save.alloc X _ o)
  exact Below.heap_setCell _ _ _ _ (fun e => hx e)
theorem cnt_next {X c : Nat} {w : World} {o : Obj} (h : Cnt X c w) (hc : c + 1 ≤ 30) {x : Int} (hx : x = ((c + 1 : Nat) : Int)) : Cnt X (c + 1) ((w.setCell ⟨X, 0, none⟩ (.int .i64 x)).alloc o) := by
  subst hx
  obtain ⟨_, h1, h2, h3⟩ := h
  have hX : X < (w.setCell ⟨X, 0, none⟩ (.int .i64 ((c + 1 : Nat) : Int))).heap.size := by simp [World.setCell]; exact h1
  have hb := bal (w.setCell ⟨X, 0, none⟩ (.int .i64 ((c + 1 : Nat) : Int))) o
  refine ⟨hc, Nat.lt_of_lt_of_le hX hb.size, ?_, ?_⟩
  · rw [hb.cell (p := ⟨X, 0, none⟩) hX]; exact World.cell?_setCell_same _ _ _ h2
  · rw [hb.frozen (p := ⟨X, 0, none⟩) hX, World.frozen?_setCell]; exact h3
set_option maxHeartbeats 1000000 in
theorem look61 (X : Nat) (c : Nat) (s : Nd) (la lb : Nat) (ve vf : Value) (aa ab : Option Addr) (ca cb : Nat) (dep : Int) (w : World) (hI : Cnt X c w) (h1 : ∃ a n cap, ve = .slice a n cap) (h2 : ∃ a n cap, vf = .slice a n cap) :
    Calls Tryz.prog 148 #[.agg #[.int .i64 s.kind, .int .i64 s.num, ve, vf, .slice aa la ca, .slice ab lb cb], .int .i64 dep, .pointer (some ⟨X, 0, none⟩)] w fun e w' => e = .returned (.int .i64 (look1 c s la lb dep)) ∧ Hid (look1 c s la lb dep = 0 → Cnt X (c + 1) w') ∧ Save X w w' := by
  obtain ⟨ae, ne, ce, rfl⟩ := h1
  obtain ⟨af, nf, cf, rfl⟩ := h2
  have HI : Hid (Cnt X c w) := hI
  obtain ⟨hc, hX, hcell, hfr⟩ := hI
  by_cases h30 : 30 < c + 1
  · have HE : Hid (look1 c s la lb dep = 2) := if_pos (Or.inl h30)
    have h30i : (30 : Int) < (c : Int) + 1 := by omega
    go_enter Tryz.func148, Tryz.ntmps148
    go_wp2
    go_ret
    exact ⟨rtn HE.out.symm, fun e => absurd e (by rw [HE.out]; decide), save_set _ _⟩
  · have h30i : ¬ (30 : Int) < (c : Int) + 1 := by omega
    by_cases h4 : 4 < dep
    · have HE : Hid (look1 c s la lb dep = 2) := if_pos (Or.inr h4)
      go_enter Tryz.func148, Tryz.ntmps148
      go_wp2
      go_ret
      exact ⟨rtn HE.out.symm, fun e => absurd e (by rw [HE.out]; decide), save_set _ _⟩
    · have HE : Hid (look1 c s la lb dep = 0) := if_neg (by omega)
      go_enter Tryz.func148, Tryz.ntmps148
      go_wp2
      go_ret
      exact ⟨rtn HE.out.symm, fun _ => cnt_next HI.out (by omega) (by omega), save_set _ _⟩
theorem the_look1 (N X : Nat) (h : N ≤ X) : Look 148 #[.pointer (some ⟨X, 0, none⟩)] N X (Cnt X) look1 where
  over := h
  keep := fun c w w' hI hb => ⟨hI.1, Nat.lt_of_lt_of_le hI.2.1 hb.size, (hb.cell (p := ⟨X, 0, none⟩) hI.2.1).trans hI.2.2.1, (hb.frozen (p := ⟨X, 0, none⟩) hI.2.1).trans hI.2.2.2⟩
  size := fun c w hI => hI.2.1
  call := fun c s la lb ve vf aa ab ca cb dep w hI h1 h2 => by
    obtain ⟨a1, c1, e1, _⟩ := h1.shape
    obtain ⟨a2, c2, e2, _⟩ := h2.shape
    exact look61 X c s la lb ve vf aa ab ca cb dep w hI ⟨_, _, _, e1⟩ ⟨_, _, _, e2⟩
def Holds2 (N B Q : Nat) (f : Value) (nf : Nat) (par loc : Nat → Int) (bv : Nat → Value) (locals : Int) (_ : Nat) (w : World) : Prop :=
  N ≤ w.heap.size ∧ B < w.heap.size ∧ Q < w.heap.size ∧ w.cell? ⟨B, 0, none⟩ = some f ∧ w.cell? ⟨Q, 1, none⟩ = some (.int .i64 locals) ∧ FunsAt N w f nf par loc bv
set_option maxHeartbeats 1000000 in
theorem look62 (N B Q : Nat) (f : Value) (nf : Nat) (par loc : Nat → Int) (bv : Nat → Value) (locals : Int) (s : Nd) (la lb : Nat) (ve vf : Value) (aa ab : Option Addr) (ca cb : Nat) (dep : Int) (w : World)
    (hI : Holds2 N B Q f nf par loc bv locals 0 w) (h1 : ToksAt N w ve s.ne s.ek s.ez) (h2 : ToksAt N w vf s.nf s.fk s.fz) :
    Calls Tryz.prog 149 #[.agg #[.int .i64 s.kind, .int .i64 s.num, ve, vf, .slice aa la ca, .slice ab lb cb], .int .i64 dep, .pointer (some ⟨B, 0, none⟩), .pointer (some ⟨Q, 0, none⟩)] w fun e w' => e = .returned (.int .i64 (stErr nf par locals s la lb)) ∧ Below w.heap.size w w' := by
  obtain ⟨hN, hB, hQ, c1, c2, hf⟩ := hI
  obtain ⟨ae, ce, rfl, _⟩ := h1.shape
  obtain ⟨af, cf, rfl, _⟩ := h2.shape
  obtain ⟨afn, cfn, rfl, _⟩ := hf.shape
  go_enter Tryz.func149, Tryz.ntmps149
  go_wp2_with (go_at_call 150; refine (checkStmt N s la lb _ _ _ _ _ _ _ nf par loc bv locals _ (Nat.le_trans hN (bal _ _).size) (h1.below ((bal _ _).mono hN)) (h2.below ((bal _ _).mono hN)) (hf.below ((bal _ _).mono hN))).mono ?_; rintro e w1 ⟨rfl, hb1⟩)
  go_ret
  exact ⟨rfl, bst (bal _ _) hb1⟩
theorem Holds2.keep {N B Q : Nat} {f : Value} {nf : Nat} {par loc : Nat → Int} {bv : Nat → Value} {locals : Int} {c c' : Nat} {w w' : World} (h : Holds2 N B Q f nf par loc bv locals c w) (hb : Below w.heap.size w w') : Holds2 N B Q f nf par loc bv locals c' w' := by
  obtain ⟨hN, hB, hQ, c1, c2, hf⟩ := h
  exact ⟨Nat.le_trans hN hb.size, Nat.lt_of_lt_of_le hB hb.size, Nat.lt_of_lt_of_le hQ hb.size, (hb.cell (p := ⟨B, 0, none⟩) hB).trans c1, (hb.cell (p := ⟨Q, 1, none⟩) hQ).trans c2, hf.below (hb.mono hN)⟩
theorem the_look2 (N B Q : Nat) (f : Value) (nf : Nat) (par loc : Nat → Int) (bv : Nat → Value) (locals : Int) (hQ : N ≤ Q) :
    Look 149 #[.pointer (some ⟨B, 0, none⟩), .pointer (some ⟨Q, 0, none⟩)] N Q (Holds2 N B Q f nf par loc bv locals) (look2 (stErr nf par locals)) where
  over := hQ
  keep := fun c w w' hI hb => hI.keep hb
  size := fun c w hI => hI.2.2.1
  call := fun c s la lb ve vf aa ab ca cb dep w hI h1 h2 => by
    refine (look62 N B Q f nf par loc bv locals s la lb ve vf aa ab ca cb dep w hI h1 h2).mono ?_
    rintro e w' ⟨rfl, hb⟩
    exact ⟨rfl, fun _ => hI.keep hb, Save.of hb⟩
theorem bodyErr_bad {nf : Nat} {par : Nat → Int} {locals : Int} {d : Nat} {T : SL} (h : ¬ (wk look1 d T 1 0).1 = 0) : bodyErr nf par locals d T = (wk look1 d T 1 0).1 := by
  unfold bodyErr
  rw [if_neg h]
  obtain ⟨h1, h2⟩ := wk_count d T 1 0 4 (by omega) (by omega)
  by_cases hs : fits d T 4 ∧ 0 + size d T ≤ 30
  · rw [h1 hs.1 hs.2] at h; exact absurd rfl h
  · exact (h2 hs).symm
theorem bodyErr_good {N : Nat} {w : World} {v : Value} {nf : Nat} {par : Nat → Int} {locals : Int} {d : Nat} {T : SL} (h : (wk look1 d T 1 0).1 = 0) (hs : StmtsAt N w d v T) :
    bodyErr nf par locals d T = (wk (look2 (stErr nf par locals)) 4 T 1 0).1 := by
  unfold bodyErr
  rw [if_pos h, wk_errs, errs_trim _ d T 4 hs.proper (wk1_iff.1 h).1]
theorem cnt_start (w : World) (t : TypeId) : Cnt w.heap.size 0 (w.alloc (.cells #[.int .i64 0] t)) :=
  ⟨by omega, by simp, World.cell?_alloc_new _ _ _ 0, World.frozen?_alloc_new _ _ _ _⟩
theorem body_first (N : Nat) (p l : Int) (v f : Value) (d : Nat) (T : SL) (nf : Nat) (par loc : Nat → Int) (bv : Nat → Value) (w : World) (hN : N ≤ w.heap.size) (h : StmtsAt N w d v T) (hf : FunsAt N w f nf par loc bv) :
    Calls Tryz.prog 147 #[v, .int .i64 1, .func (.func 148) #[] #[.pointer (some ⟨w.heap.size + 1 + 1, 0, none⟩)]] (((w.alloc (.cells #[.int .i64 p, .int .i64 l, v] 43)).alloc (.cells #[f] 22)).alloc (.cells #[.int .i64 0] 3))
      fun e w' => e = .returned (.int .i64 (wk look1 d T 1 0).1) ∧ Below w.heap.size w w' ∧ w'.cell? ⟨w.heap.size, 2, none⟩ = some v ∧ Holds2 N (w.heap.size + 1) w.heap.size f nf par loc bv l 0 w' := by
  have b1 := bal w (.cells #[.int .i64 p, .int .i64 l, v] 43)
  have b2 := bal (w.alloc (.cells #[.int .i64 p, .int .i64 l, v] 43)) (.cells #[f] 22)
  have b3 := bal ((w.alloc (.cells #[.int .i64 p, .int .i64 l, v] 43)).alloc (.cells #[f] 22)) (.cells #[.int .i64 0] 3)
  have hb := bst (bst b1 b2) b3
  have hs2 : ((w.alloc (.cells #[.int .i64 p, .int .i64 l, v] 43)).alloc (.cells #[f] 22)).heap.size = w.heap.size + 1 + 1 := by simp
  have hc := cnt_start ((w.alloc (.cells #[.int .i64 p, .int .i64 l, v] 43)).alloc (.cells #[f] 22)) 3
  rw [hs2] at hc
  refine (walk61 ⟨w.heap.size + 1 + 1, 0, none⟩ N (w.heap.size + 1 + 1) (Cnt (w.heap.size + 1 + 1)) look1 (the_look1 N (w.heap.size + 1 + 1) (by omega)) d v T 1 0 _ (h.below (hb.mono hN)) hc (by omega) (by omega) (Or.inl fun c s la lb dep e => by unfold look1 at e; split at e <;> omega)).mono ?_
  rintro e w' ⟨rfl, _, hsv⟩
  have hlow : Below w.heap.size _ w' := hsv.low (by omega) hb.size
  have hall : Below w.heap.size w w' := hb.trans hlow
  have c2 : ∀ i : Nat, w'.cell? ⟨w.heap.size, i, none⟩ = (#[.int .i64 p, .int .i64 l, v] : Array Value)[i]? := fun i => by
    rw [hsv.cell (p := ⟨w.heap.size, i, none⟩) (by simp; omega) (by simp; omega), (bst b2 b3).cell (p := ⟨w.heap.size, i, none⟩) (by simp), World.cell?_alloc_new]
  have c1 : w'.cell? ⟨w.heap.size + 1, 0, none⟩ = some f := by
    rw [hsv.cell (p := ⟨w.heap.size + 1, 0, none⟩) (by simp) (by simp), b3.cell (p := ⟨w.heap.size + 1, 0, none⟩) (by simp)]
    simp
  have hsz := hsv.size
  have hs3 : (((w.alloc (.cells #[.int .i64 p, .int .i64 l, v] 43)).alloc (.cells #[f] 22)).alloc (.cells #[.int .i64 0] 3)).heap.size = w.heap.size + 1 + 1 + 1 := by simp
  exact ⟨rfl, hall, c2 2, by omega, by omega, by omega, c1, c2 1, hf.below (hall.mono hN)⟩
theorem body_second (N : Nat) (B Q : Nat) (l : Int) (v f : Value) (d : Nat) (T : SL) (nf : Nat) (par loc : Nat → Int) (bv : Nat → Value) (w : World) (hQ : N ≤ Q) (h : StmtsAt N w d v T) (hf : fits d T 4) (hI : Holds2 N B Q f nf par loc bv l 0 w) :
    Calls Tryz.prog 147 #[v, .int .i64 1, .func (.func 149) #[] #[.pointer (some ⟨B, 0, none⟩), .pointer (some ⟨Q, 0, none⟩)]] w
      fun e w' => e = .returned (.int .i64 (wk (look2 (stErr nf par l)) 4 T 1 0).1) ∧ Below Q w w' := by
  refine (walk62 ⟨B, 0, none⟩ ⟨Q, 0, none⟩ N Q _ _ (the_look2 N B Q f nf par loc bv l hQ) 4 v T 1 0 w (h.trim hf) hI (by omega) (by omega) (Or.inr (by omega))).mono ?_
  rintro e w' ⟨rfl, _, hsv⟩
  exact ⟨rfl, hsv.low (Nat.le_refl _) (Nat.le_of_lt hI.2.2.1)⟩
set_option maxHeartbeats 1000000 in
theorem checkBody (N : Nat) (p l : Int) (v f : Value) (d : Nat) (T : SL) (nf : Nat) (par loc : Nat → Int) (bv : Nat → Value) (w : World) (hN : N ≤ w.heap.size) (h : StmtsAt N w d v T) (hf : FunsAt N w f nf par loc bv) :
    Calls Tryz.prog 102 #[.agg #[.int .i64 p, .int .i64 l, v], f] w fun e w' => e = .returned (.int .i64 (bodyErr nf par l d T)) ∧ Below w.heap.size w w' := by
  obtain ⟨a, cap, rfl, _⟩ := h.shape
  obtain ⟨af, cf, rfl, _⟩ := hf.shape
  by_cases h1 : (wk look1 d T 1 0).1 = 0
  · have ht : ((wk look1 d T 1 0).1 != 0) = false := by simp [h1]
    have HE : Hid (bodyErr nf par l d T = (wk (look2 (stErr nf par l)) 4 T 1 0).1) := bodyErr_good h1 h
    have HT : Hid (fits d T 4) := (wk1_iff.1 h1).1
    clear h1
    go_enter Tryz.func102, Tryz.ntmps102
    go_wp2_with (first
      | (go_at_call 147; refine (body_second N (w.heap.size + 1) w.heap.size l _ _ d T nf par loc bv _ hN (h.below (hb1.mono hN)) HT.out hI1).mono ?_; rintro e w2 ⟨rfl, hb2⟩)
      | (go_at_call 147; refine (body_first N p l _ _ d T nf par loc bv w hN h hf).mono ?_; rintro e w1 ⟨rfl, hb1, c1, hI1⟩))
    go_ret
    exact ⟨rtn HE.out.symm, hb1.trans hb2⟩
  · have ht : ((wk look1 d T 1 0).1 != 0) = true := by simp [h1]
    have HE : Hid (bodyErr nf par l d T = (wk look1 d T 1 0).1) := bodyErr_bad h1
    clear h1
    go_enter Tryz.func102, Tryz.ntmps102
    go_wp2_with (go_at_call 147; refine (body_first N p l _ _ d T nf par loc bv w hN h hf).mono ?_; rintro e w1 ⟨rfl, hb1, c1, hI1⟩)
    go_ret
    exact ⟨rtn HE.out.symm, hb1⟩
theorem headErr_ways {i : Nat} {p l : Int} (h : ¬ headErr i p l = 0) : p < 0 ∨ (0 ≤ p ∧ 3 < p) ∨ (0 ≤ p ∧ p ≤ 3 ∧ l < p) ∨ (0 ≤ p ∧ p ≤ 3 ∧ ¬ l < p ∧ 6 < l) ∨ (0 ≤ p ∧ p ≤ 3 ∧ ¬ l < p ∧ ¬ 6 < l ∧ i = 0 ∧ 0 < p) := by
  unfold headErr at h
  by_cases hh : p < 0 ∨ 3 < p ∨ l < p ∨ 6 < l ∨ (i = 0 ∧ 0 < p)
  · omega
  · rw [if_neg hh] at h; exact absurd rfl h
theorem headErr_good {i : Nat} {p l : Int} (h : headErr i p l = 0) : 0 ≤ p ∧ p ≤ 3 ∧ ¬ l < p ∧ ¬ 6 < l ∧ (i = 0 → ¬ 0 < p) := by
  unfold headErr at h
  split at h
  · cases h
  · omega
set_option maxHeartbeats 2000000 in
theorem check (N : Nat) (f : Value) (nf : Nat) (par loc : Nat → Int) (bv : Nat → Value) (d : Nat) (body : Nat → SL) (w : World) (hN : N ≤ w.heap.size) (hf : FunsAt N w f nf par loc bv) (hs : ∀ i, i < nf → StmtsAt N w d (bv i) (body i)) :
    Calls Tryz.prog 37 #[f] w fun e w' => e = .returned (.int .i64 (progErr nf par loc d body)) ∧ Below w.heap.size w w' := by
  have hf0 := hf
  obtain ⟨af, capf, rfl, hnf, hf⟩ := hf
  by_cases hn1 : nf < 1
  · have HE : Hid (progErr nf par loc d body = 2) := progErr_many (Or.inl hn1)
    have hni : (nf : Int) < 1 := by omega
    go_enter Tryz.func37, Tryz.ntmps37
    go_wp2_with fail
    go_ret
    exact ⟨rtn HE.out.symm, Below.refl _ _⟩
  by_cases hn4 : 4 < nf
  · have HE : Hid (progErr nf par loc d body = 2) := progErr_many (Or.inr hn4)
    have hni : ¬ (nf : Int) < 1 := by omega
    have hni4 : (4 : Int) < nf := by omega
    go_enter Tryz.func37, Tryz.ntmps37
    go_wp2_with fail
    go_ret
    exact ⟨rtn HE.out.symm, Below.refl _ _⟩
  have hni : ¬ (nf : Int) < 1 := by omega
  have hni4 : ¬ (4 : Int) < nf := by omega
  have HB : Hid (¬ (nf < 1 ∨ 4 < nf)) := by
    show ¬ (nf < 1 ∨ 4 < nf)
    omega
  go_enter Tryz.func37, Tryz.ntmps37
  go_wp2_with fail
  go_loopw [18] (fun i wr => ∃ j : Nat, j ≤ nf ∧ i = .int .i64 j ∧ Below w.heap.size w wr ∧ Hid (∀ x, x < j → headErr x (par x) (loc x) = 0)) (fun i _ => nf - (intOf i).toNat)
  case atStart => exact ⟨0, Nat.zero_le _, rfl, Below.refl _ _, fun j hj => absurd hj (Nat.not_lt_zero _)⟩
  case round =>
    obtain ⟨j, hj, rfl, hb, hall⟩ := hrel
    by_cases hlt : j < nf
    · rcases hf with hf | ⟨p, o, rfl, hp, g⟩
      · omega
      obtain ⟨q0, q1, q2, ba, bm, bc, eb⟩ := g j hlt
      have hp' : p < w.heap.size := by omega
      rw [eb] at q2
      rw [← hb.cell hp'] at q0 q1 q2
      clear g
      have hz := hb.size
      by_cases he : headErr j (par j) (loc j) = 0
      · obtain ⟨e0, e1, e2, e3, e4⟩ := headErr_good he
        have HE : Hid (headErr j (par j) (loc j) = 0) := he
        clear he
        by_cases hj0 : j = 0
        · have hj1 : ((j : Int) == 0) = true := by simp [hj0]
          have e5 := e4 hj0
          clear e4 hj0
          go_wp2
          go_roundw
          case rel => exact ⟨j + 1, by omega, by go_num, (hb.alloc hz _).alloc (by simp; omega) _, upTo hall.out HE.out⟩
          case measure => simp [intOf]; omega
        · have hj1 : ((j : Int) == 0) = false := by simp [hj0]
          clear e4 hj0
          go_wp2
          go_roundw
          case rel => exact ⟨j + 1, by omega, by go_num, (hb.alloc hz _).alloc (by simp; omega) _, upTo hall.out HE.out⟩
          case measure => simp [intOf]; omega
      · have HE : Hid (progErr nf par loc d body = 3) := progErr_head HB.out hlt he
        have he' := headErr_ways he
        clear he
        rcases he' with e0 | ⟨e0, e1⟩ | ⟨e0, e1, e2⟩ | ⟨e0, e1, e2, e3⟩ | ⟨e0, e1, e2, e3, e4, e5⟩
        · have e0' : ¬ 0 ≤ par j := by omega
          go_wp2
          go_ret
          exact ⟨rtn HE.out.symm, (hb.alloc hz _).alloc (by simp; omega) _⟩
        · have e1' : ¬ par j ≤ 3 := by omega
          go_wp2
          go_ret
          exact ⟨rtn HE.out.symm, (hb.alloc hz _).alloc (by simp; omega) _⟩
        · go_wp2
          go_ret
          exact ⟨rtn HE.out.symm, (hb.alloc hz _).alloc (by simp; omega) _⟩
        · go_wp2
          go_ret
          exact ⟨rtn HE.out.symm, (hb.alloc hz _).alloc (by simp; omega) _⟩
        · have hj1 : ((j : Int) == 0) = true := by simp [e4]
          clear e4
          go_wp2
          go_ret
          exact ⟨rtn HE.out.symm, (hb.alloc hz _).alloc (by simp; omega) _⟩
    · obtain rfl : j = nf := by omega
      have HP : Hid (progErr j par loc d body = firstErr j (fun i => bodyErr j par (loc i) d (body i))) := progErr_body HB.out hall.out
      go_wp2_with fail
      go_loopw [50] (fun i wr => ∃ x : Nat, x ≤ j ∧ i = .int .i64 x ∧ Below w.heap.size w wr ∧ Hid (∀ y, y < x → bodyErr j par (loc y) d (body y) = 0)) (fun i _ => j - (intOf i).toNat)
      case atStart => exact ⟨0, Nat.zero_le _, rfl, hb, fun j hj => absurd hj (Nat.not_lt_zero _)⟩
      case round =>
        clear hb
        obtain ⟨x, hx, rfl, hb, hin⟩ := hrel
        by_cases hxlt : x < j
        · rcases hf with hf | ⟨p, o, rfl, hp, g⟩
          · omega
          obtain ⟨q0, q1, q2, _⟩ := g x hxlt
          have hp' : p < w.heap.size := by omega
          rw [← hb.cell hp'] at q0 q1 q2
          clear g
          have hz := hb.size
          have hst := (hs x hxlt).below (hb.mono hN)
          have hst' := hst
          obtain ⟨ba, bc, eb, _⟩ := hst'.shape
          rw [eb] at q2 hst
          have hfn := hf0.below (hb.mono hN)
          by_cases he : bodyErr j par (loc x) d (body x) = 0
          · have het : (bodyErr j par (loc x) d (body x) != 0) = false := by simp [he]
            have HE : Hid (bodyErr j par (loc x) d (body x) = 0) := he
            clear he
            go_wp2_with (go_at_call 102; refine (checkBody N _ _ _ _ d (body x) j par loc bv _ (by simp; omega) (hst.below ((bal _ _).mono (by omega))) (hfn.below ((bal _ _).mono (by omega)))).mono ?_; rintro e w1 ⟨rfl, hb1⟩)
            go_roundw
            case rel => exact ⟨x + 1, by omega, by go_num, bst hb (bst (bal _ _) hb1), upTo hin.out HE.out⟩
            case measure => simp [intOf]; omega
          · have het : (bodyErr j par (loc x) d (body x) != 0) = true := by simp [he]
            have HE : Hid (progErr j par loc d body = bodyErr j par (loc x) d (body x)) := HP.out.trans (firstErr_at hin.out he hxlt)
            clear he
            go_wp2_with (go_at_call 102; refine (checkBody N _ _ _ _ d (body x) j par loc bv _ (by simp; omega) (hst.below ((bal _ _).mono (by omega))) (hfn.below ((bal _ _).mono (by omega)))).mono ?_; rintro e w1 ⟨rfl, hb1⟩)
            go_ret
            exact ⟨rtn HE.out.symm, bst hb (bst (bal _ _) hb1)⟩
        · obtain rfl : x = j := by omega
          have HE : Hid (progErr x par loc d body = 0) := HP.out.trans (firstErr_zero hin.out)
          go_wp2_with fail
          go_ret
          exact ⟨rtn HE.out.symm, hb⟩
end Go.Proofs.YtbmenihakkogkabGreatDoor
