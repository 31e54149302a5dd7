/- The two looks of checkBody, checkBody, and Check: what is wrong with a program, by the program. -/
import Derived.Test.YtomfkfhipemlcabDoorWalk
import Derived.Test.YtomfkfhipemlcabDoorSameMath
import Derived.Test.YtomfkfhipemlcabDoorStmtErr
namespace Go.Proofs.YtomfkfhipemlcabDoor
open Go.RowKit


theorem StmtsAt.proper {N : Nat} {w : World} : ∀ {d : Nat} {v : Value} {T : SL}, StmtsAt N w d v T → proper d T
  | 0, _, _, h => h.1
  | d + 1, v, T, h => by
    intro i hi
    obtain ⟨a, cap, rfl, hn, h | ⟨b, o, rfl, hlt, hc⟩⟩ := h
    · omega
    · obtain ⟨ve, vf, va, vb, c0, c1, c2, c3, c4, c5, t1, t2, s1, s2⟩ := hc i hi
      exact ⟨s1.proper, s2.proper⟩

theorem errs_none {E : Nd → Nat → Nat → Int} {d : Nat} {T : SL} (h : T.len = 0) : errs E d T = 0 := by
  cases d with
  | zero => rfl
  | succ d => simp only [errs]; rw [h]; rfl

theorem errs_trim (E : Nd → Nat → Nat → Int) : ∀ (d : Nat) (T : SL) (left : Nat), proper d T → fits d T left → errs E left T = errs E d T
  | 0, T, left, h, _ => by rw [errs_none h, errs_none h]
  | d + 1, T, left, h, hf => by
    by_cases e : T.len = 0
    · rw [errs_none e, errs_none e]
    · rcases hf with hf | ⟨h0, hf⟩
      · exact absurd hf e
      cases left with
      | zero => omega
      | succ l =>
        simp only [errs]
        refine firstErr_congr fun i hi => ?_
        have h1 := errs_trim E d (T.sub i false) l (h i hi).1 (hf i hi).1
        have h2 := errs_trim E d (T.sub i true) l (h i hi).2 (hf i hi).2
        simp only [h1, h2]

/-- The state of the look that counts. -/
def Cnt (X c : Nat) (w : World) : Prop := c ≤ 30 ∧ X < w.heap.size ∧ w.cell? ⟨X, 0, none⟩ = some (.int .i64 c) ∧ w.frozen? ⟨X, 0, none⟩ = false

theorem save_set {X : Nat} {w : World} (o : Obj) (x : Value) : Save X w ((w.setCell ⟨X, 0, none⟩ x).alloc o) := by
  refine Save.trans (b := w.setCell ⟨X, 0, none⟩ x) ⟨rfl, rfl, rfl, by simp [World.setCell], fun k hk hx => ?_⟩ (Save.alloc X _ o)
  exact Below.heap_setCell _ _ _ _ (fun e => hx e)

theorem cnt_next {X c : Nat} {w : World} {o : Obj} (h : Cnt X c w) (hc : c + 1 ≤ 30) {x : Int} (hx : x = ((c + 1 : Nat) : Int)) : Cnt X (c + 1) ((w.setCell ⟨X, 0, none⟩ (.int .i64 x)).alloc o) := by
  subst hx
  obtain ⟨_, h1, h2, h3⟩ := h
  have hX : X < (w.setCell ⟨X, 0, none⟩ (.int .i64 ((c + 1 : Nat) : Int))).heap.size := by simp [World.setCell]; exact h1
  have hb := below_alloc (w.setCell ⟨X, 0, none⟩ (.int .i64 ((c + 1 : Nat) : Int))) o
  refine ⟨hc, Nat.lt_of_lt_of_le hX hb.size, ?_, ?_⟩
  · rw [hb.cell (p := ⟨X, 0, none⟩) hX]; exact World.cell?_setCell_same _ _ _ h2
  · rw [hb.frozen (p := ⟨X, 0, none⟩) hX, World.frozen?_setCell]; exact h3

set_option maxHeartbeats 1000000 in
theorem look61 (X : Nat) (c : Nat) (s : Nd) (la lb : Nat) (ve vf : Value) (aa ab : Option Addr) (ca cb : Nat) (dep : Int) (w : World) (hI : Cnt X c w) (h1 : ∃ a n cap, ve = .slice a n cap) (h2 : ∃ a n cap, vf = .slice a n cap) :
    Calls Tryd.prog 29 #[.agg #[.int .i64 s.kind, .int .i64 s.num, ve, vf, .slice aa la ca, .slice ab lb cb], .int .i64 dep, .pointer (some ⟨X, 0, none⟩)] w fun e w' => e = .returned (.int .i64 (look1 c s la lb dep)) ∧ Hid (look1 c s la lb dep = 0 → Cnt X (c + 1) w') ∧ Save X w w' := by
  obtain ⟨ae, ne, ce, rfl⟩ := h1
  obtain ⟨af, nf, cf, rfl⟩ := h2
  have HI : Hid (Cnt X c w) := hI
  obtain ⟨hc, hX, hcell, hfr⟩ := hI
  by_cases h30 : 30 < c + 1
  · have HE : Hid (look1 c s la lb dep = 2) := if_pos (Or.inl h30)
    have h30i : (30 : Int) < (c : Int) + 1 := by omega
    go_enter Tryd.func29, Tryd.ntmps29
    go_wp2
    go_ret
    exact ⟨ret_num HE.out.symm, fun e => absurd e (by rw [HE.out]; decide), save_set _ _⟩
  · have h30i : ¬ (30 : Int) < (c : Int) + 1 := by omega
    by_cases h4 : 4 < dep
    · have HE : Hid (look1 c s la lb dep = 2) := if_pos (Or.inr h4)
      go_enter Tryd.func29, Tryd.ntmps29
      go_wp2
      go_ret
      exact ⟨ret_num HE.out.symm, fun e => absurd e (by rw [HE.out]; decide), save_set _ _⟩
    · have HE : Hid (look1 c s la lb dep = 0) := if_neg (by omega)
      go_enter Tryd.func29, Tryd.ntmps29
      go_wp2
      go_ret
      exact ⟨ret_num HE.out.symm, fun _ => cnt_next HI.out (by omega) (by omega), save_set _ _⟩

theorem the_look1 (N X : Nat) (h : N ≤ X) : Look 29 #[.pointer (some ⟨X, 0, none⟩)] N X (Cnt X) look1 where
  over := h
  keep := fun c w w' hI hb => ⟨hI.1, Nat.lt_of_lt_of_le hI.2.1 hb.size, (hb.cell (p := ⟨X, 0, none⟩) hI.2.1).trans hI.2.2.1, (hb.frozen (p := ⟨X, 0, none⟩) hI.2.1).trans hI.2.2.2⟩
  size := fun c w hI => hI.2.1
  call := fun c s la lb ve vf aa ab ca cb dep w hI h1 h2 => by
    obtain ⟨a1, c1, e1, _⟩ := h1.shape
    obtain ⟨a2, c2, e2, _⟩ := h2.shape
    exact look61 X c s la lb ve vf aa ab ca cb dep w hI ⟨_, _, _, e1⟩ ⟨_, _, _, e2⟩

/-- What the look at each statement's error holds. -/
def Holds2 (N B Q : Nat) (f : Value) (nf : Nat) (par loc : Nat → Int) (bv : Nat → Value) (locals : Int) (_ : Nat) (w : World) : Prop :=
  N ≤ w.heap.size ∧ B < w.heap.size ∧ Q < w.heap.size ∧ w.cell? ⟨B, 0, none⟩ = some f ∧ w.cell? ⟨Q, 1, none⟩ = some (.int .i64 locals) ∧ FunsAt N w f nf par loc bv

set_option maxHeartbeats 1000000 in
theorem look62 (N B Q : Nat) (f : Value) (nf : Nat) (par loc : Nat → Int) (bv : Nat → Value) (locals : Int) (s : Nd) (la lb : Nat) (ve vf : Value) (aa ab : Option Addr) (ca cb : Nat) (dep : Int) (w : World)
    (hI : Holds2 N B Q f nf par loc bv locals 0 w) (h1 : ToksAt N w ve s.ne s.ek s.ez) (h2 : ToksAt N w vf s.nf s.fk s.fz) :
    Calls Tryd.prog 30 #[.agg #[.int .i64 s.kind, .int .i64 s.num, ve, vf, .slice aa la ca, .slice ab lb cb], .int .i64 dep, .pointer (some ⟨B, 0, none⟩), .pointer (some ⟨Q, 0, none⟩)] w fun e w' => e = .returned (.int .i64 (stErr nf par locals s la lb)) ∧ Below w.heap.size w w' := by
  obtain ⟨hN, hB, hQ, c1, c2, hf⟩ := hI
  obtain ⟨ae, ce, rfl, _⟩ := h1.shape
  obtain ⟨af, cf, rfl, _⟩ := h2.shape
  obtain ⟨afn, cfn, rfl, _⟩ := hf.shape
  go_enter Tryd.func30, Tryd.ntmps30
  go_wp2_with (go_at_call 31; refine (checkStmt N s la lb _ _ _ _ _ _ _ nf par loc bv locals _ (Nat.le_trans hN (below_alloc _ _).size) (h1.below ((below_alloc _ _).mono hN)) (h2.below ((below_alloc _ _).mono hN)) (hf.below ((below_alloc _ _).mono hN))).mono ?_; rintro e w1 ⟨rfl, hb1⟩)
  go_ret
  exact ⟨rfl, below_step (below_alloc _ _) hb1⟩

theorem Holds2.keep {N B Q : Nat} {f : Value} {nf : Nat} {par loc : Nat → Int} {bv : Nat → Value} {locals : Int} {c c' : Nat} {w w' : World} (h : Holds2 N B Q f nf par loc bv locals c w) (hb : Below w.heap.size w w') : Holds2 N B Q f nf par loc bv locals c' w' := by
  obtain ⟨hN, hB, hQ, c1, c2, hf⟩ := h
  exact ⟨Nat.le_trans hN hb.size, Nat.lt_of_lt_of_le hB hb.size, Nat.lt_of_lt_of_le hQ hb.size, (hb.cell (p := ⟨B, 0, none⟩) hB).trans c1, (hb.cell (p := ⟨Q, 1, none⟩) hQ).trans c2, hf.below (hb.mono hN)⟩

theorem the_look2 (N B Q : Nat) (f : Value) (nf : Nat) (par loc : Nat → Int) (bv : Nat → Value) (locals : Int) (hQ : N ≤ Q) :
    Look 30 #[.pointer (some ⟨B, 0, none⟩), .pointer (some ⟨Q, 0, none⟩)] N Q (Holds2 N B Q f nf par loc bv locals) (look2 (stErr nf par locals)) where
  over := hQ
  keep := fun c w w' hI hb => hI.keep hb
  size := fun c w hI => hI.2.2.1
  call := fun c s la lb ve vf aa ab ca cb dep w hI h1 h2 => by
    refine (look62 N B Q f nf par loc bv locals s la lb ve vf aa ab ca cb dep w hI h1 h2).mono ?_
    rintro e w' ⟨rfl, hb⟩
    exact ⟨rfl, fun _ => hI.keep hb, Save.of hb⟩

end Go.Proofs.YtomfkfhipemlcabDoor
