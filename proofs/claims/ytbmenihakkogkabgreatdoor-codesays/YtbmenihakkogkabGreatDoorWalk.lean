import Derived.Test.YtbmenihakkogkabGreatDoorPart2
namespace Go.Proofs.YtbmenihakkogkabGreatDoor
open Go.RowKit
def itemW (L : Nat → Nd → Nat → Nat → Int → Int) (d : Nat) (T : SL) (dep : Int) (i c : Nat) : Int × Nat :=
  if L c (T.nd i) (T.sub i false).len (T.sub i true).len dep = 0 then
    (if (wk L d (T.sub i false) (dep + 1) (c + 1)).1 = 0 then wk L d (T.sub i true) (dep + 1) (wk L d (T.sub i false) (dep + 1) (c + 1)).2
     else wk L d (T.sub i false) (dep + 1) (c + 1))
  else (L c (T.nd i) (T.sub i false).len (T.sub i true).len dep, c + 1)
theorem wk_succ (L : Nat → Nd → Nat → Nat → Int → Int) (d : Nat) (T : SL) (dep : Int) (c : Nat) : wk L (d + 1) T dep c = seqW (itemW L d T dep) T.len c := rfl
structure Save (X : Nat) (w w' : World) : Prop where
  os : w'.os = w.os
  tape : w'.tape = w.tape
  output : w'.output = w.output
  size : w.heap.size ≤ w'.heap.size
  block : ∀ k, k < w.heap.size → ¬ k = X → w'.heap[k]? = w.heap[k]?
theorem Save.refl (X : Nat) (w : World) : Save X w w := ⟨rfl, rfl, rfl, Nat.le_refl _, fun _ _ _ => rfl⟩
theorem Save.trans {X : Nat} {a b c : World} (h : Save X a b) (k : Save X b c) : Save X a c :=
  ⟨k.os.trans h.os, k.tape.trans h.tape, k.output.trans h.output, Nat.le_trans h.size k.size, fun n hn hx => (k.block n (Nat.lt_of_lt_of_le hn h.size) hx).trans (h.block n hn hx)⟩
theorem Save.of {X : Nat} {a b : World} (h : Below a.heap.size a b) : Save X a b := ⟨h.os, h.tape, h.output, h.size, fun k hk _ => h.block k hk⟩
theorem Save.alloc (X : Nat) (w : World) (o : Obj) : Save X w (w.alloc o) := Save.of (bal w o)
theorem Save.low {X N : Nat} {a b : World} (h : Save X a b) (h1 : N ≤ X) (h2 : N ≤ a.heap.size) : Below N a b := ⟨h.os, h.tape, h.output, h.size, fun k hk => h.block k (Nat.lt_of_lt_of_le hk h2) (by omega)⟩
theorem Save.cell {X : Nat} {a b : World} (h : Save X a b) {p : Addr} (h1 : p.block < a.heap.size) (h2 : ¬ p.block = X) : b.cell? p = a.cell? p := World.cell?_of_block (w := a) (a := p) (h.block p.block h1 h2)
theorem Save.box {X : Nat} {w w1 : World} {cs : Array Value} {t : TypeId} (hb : Save X (w.alloc (.cells cs t)) w1) (hX : X < w.heap.size) (i : Nat) {c : Value} (h : cs[i]? = some c) : w1.cell? ⟨w.heap.size, i, none⟩ = some c := by
  rw [hb.cell (p := ⟨w.heap.size, i, none⟩) (by simp) (by simp; omega), World.cell?_alloc_new]
  exact h
theorem idx0 (a b : Option Addr) (n c m d : Nat) (w : World) : (Instr.index 234 (.agg #[.slice a n c, .slice b m d]) (.int .i64 0)).run Tryz.prog w = .ok (.slice a n c) w := by kernel_rfl
theorem idx1 (a b : Option Addr) (n c m d : Nat) (w : World) : (Instr.index 234 (.agg #[.slice a n c, .slice b m d]) (.int .i64 1)).run Tryz.prog w = .ok (.slice b m d) w := by kernel_rfl
structure Look (F : Nat) (caps : Array Value) (N X : Nat) (I : Nat → World → Prop) (L : Nat → Nd → Nat → Nat → Int → Int) : Prop where
  over : N ≤ X
  keep : ∀ c w w', I c w → Below w.heap.size w w' → I c w'
  size : ∀ c w, I c w → X < w.heap.size
  call : ∀ c (s : Nd) (la lb : Nat) (ve vf : Value) (aa ab : Option Addr) (ca cb : Nat) (dep : Int) (w : World), I c w → ToksAt N w ve s.ne s.ek s.ez → ToksAt N w vf s.nf s.fk s.fz →
    Calls Tryz.prog F (#[.agg #[.int .i64 s.kind, .int .i64 s.num, ve, vf, .slice aa la ca, .slice ab lb cb], .int .i64 dep] ++ caps) w fun e w' => e = .returned (.int .i64 (L c s la lb dep)) ∧ Hid (L c s la lb dep = 0 → I (c + 1) w') ∧ Save X w w'
set_option maxHeartbeats 2000000 in
theorem walk61 (p : Addr) (N X : Nat) (I : Nat → World → Prop) (L : Nat → Nd → Nat → Nat → Int → Int) (lk : Look 148 #[.pointer (some p)] N X I L) :
    ∀ (d : Nat) (v : Value) (T : SL) (dep : Int) (c : Nat) (w : World), StmtsAt N w d v T → I c w → 0 ≤ dep → dep ≤ 200 → ((∀ c s la lb dep, L c s la lb dep = 0 → dep ≤ 100) ∨ dep + d ≤ 100) →
    Calls Tryz.prog 147 #[v, .int .i64 dep, .func (.func 148) #[] #[.pointer (some p)]] w fun e w' => e = .returned (.int .i64 (wk L d T dep c).1) ∧ Hid ((wk L d T dep c).1 = 0 → I (wk L d T dep c).2 w') ∧ Save X w w' := by
  intro d
  induction d with
  | zero =>
    intro v T dep c w h hI h0 h1 _
    obtain ⟨_, a, cap, rfl⟩ := h
    go_enter Tryz.func147, Tryz.ntmps147
    go_wp2_with fail
    go_loopw [15] (fun i wr => i = .int .i64 0 ∧ wr = w) (fun i _ => 0)
    case atStart => exact ⟨rfl, rfl⟩
    case round =>
      obtain ⟨rfl, rfl⟩ := hrel
      go_wp2_with fail
      go_ret
      exact ⟨rfl, fun _ => hI, Save.refl _ _⟩
  | succ d ih =>
    intro v T dep c w h hI h0 h1 hd
    obtain ⟨a, cap, rfl, hn, h⟩ := h
    rw [wk_succ]
    have hXw := lk.size c w hI
    have hNX := lk.over
    go_enter Tryz.func147, Tryz.ntmps147
    go_wp2_with fail
    go_loopw [15] (fun i wr => ∃ j : Nat, j ≤ T.len ∧ i = .int .i64 j ∧ Save X w wr ∧ I (seqW (itemW L d T dep) j c).2 wr ∧ Hid ((seqW (itemW L d T dep) j c).1 = 0)) (fun i _ => T.len - (intOf i).toNat)
    case atStart => exact ⟨0, Nat.zero_le _, rfl, Save.refl _ _, hI, rfl⟩
    case round =>
      clear hI
      obtain ⟨j, hj, rfl, hb, hI, hall⟩ := hrel
      have HS : Hid (j < T.len → ¬ (itemW L d T dep j (seqW (itemW L d T dep) j c).2).1 = 0 → seqW (itemW L d T dep) T.len c = itemW L d T dep j (seqW (itemW L d T dep) j c).2) := fun h1 h2 => seqW_stop hall.out h2 h1
      have HX : Hid (seqW (itemW L d T dep) (j + 1) c = itemW L d T dep j (seqW (itemW L d T dep) j c).2) := seqW_next hall.out
      have HD : Hid (j = T.len → seqW (itemW L d T dep) T.len c = (0, (seqW (itemW L d T dep) j c).2)) := fun e => by
        subst e; exact Prod.ext hall.out rfl
      generalize (seqW (itemW L d T dep) j c).2 = cj at *
      by_cases hlt : j < T.len
      · rcases h with h | ⟨b, o, rfl, hp, g⟩
        · omega
        obtain ⟨ve, vf, va, vb, q0, q1, q2, q3, q4, q5, t1, t2, s1, s2⟩ := g j hlt
        have hbN : Below N w wr := hb.low hNX (by omega)
        rw [← hbN.cell hp] at q0 q1 q2 q3 q4 q5
        have t1 := t1.below hbN
        have t2 := t2.below hbN
        have s1 := s1.below hbN
        have s2 := s2.below hbN
        clear g
        obtain ⟨ae, ce, rfl, _⟩ := t1.shape
        obtain ⟨af, cf, rfl, _⟩ := t2.shape
        obtain ⟨aa, ca, rfl, _⟩ := s1.shape
        obtain ⟨ab, cb, rfl, _⟩ := s2.shape
        have hz := hb.size
        have hXr := lk.size cj wr hI
        have hNr : N ≤ wr.heap.size := by omega
        by_cases he : L cj (T.nd j) (T.sub j false).len (T.sub j true).len dep = 0
        · have HE : Hid (itemW L d T dep j cj = if (wk L d (T.sub j false) (dep + 1) (cj + 1)).1 = 0 then wk L d (T.sub j true) (dep + 1) (wk L d (T.sub j false) (dep + 1) (cj + 1)).2
              else wk L d (T.sub j false) (dep + 1) (cj + 1)) := if_pos he
          have het : (L cj (T.nd j) (T.sub j false).len (T.sub j true).len dep != 0) = false := by simp [he]
          have hdep : dep ≤ 100 := by
            rcases hd with hd | hd
            · exact hd _ _ _ _ _ he
            · omega
          have HD2 : Hid ((∀ c s la lb dep, L c s la lb dep = 0 → dep ≤ 100) ∨ dep + 1 + d ≤ 100) := by
            rcases hd with hd | hd
            · exact Or.inl hd
            · exact Or.inr (by omega)
          have HZ0 : Hid (L cj (T.nd j) (T.sub j false).len (T.sub j true).len dep = 0) := he
          clear he hd
          go_wp2_with (go_at_call 148; refine (lk.call cj (T.nd j) (T.sub j false).len (T.sub j true).len _ _ _ _ _ _ dep _ (lk.keep _ _ _ hI (bal _ _)) (t1.below ((bal _ _).mono hNr)) (t2.below ((bal _ _).mono hNr))).mono ?_; rintro e w1 ⟨rfl, HI1, hb1⟩; have hI1 := HI1.out HZ0.out; have m4 := hb1.box hXr 4 rfl; have m5 := hb1.box hXr 5 rfl)
          have hbw : Save X wr w1 := (Save.alloc X _ _).trans hb1
          have hbT : Save X w w1 := hb.trans hbw
          generalize hrA : wk L d (T.sub j false) (dep + 1) (cj + 1) = rA at *
          generalize hrB : wk L d (T.sub j true) (dep + 1) rA.2 = rB at *
          have HA : Hid (wk L d (T.sub j false) (dep + 1) (cj + 1) = rA) := hrA
          have HB : Hid (wk L d (T.sub j true) (dep + 1) rA.2 = rB) := hrB
          clear hrA hrB m4 m5 q0 q1 q2 q3 q4 q5 het hb1 hI t1 t2
          generalize wr = w0 at *
          go_loopw [31] (fun i wi => ∃ x : Nat, x ≤ 2 ∧ i = .int .i64 x ∧ Save X w0 wi ∧ I (if x = 0 then cj + 1 else if x = 1 then rA.2 else rB.2) wi ∧ Hid (1 ≤ x → rA.1 = 0) ∧ Hid (2 ≤ x → rB.1 = 0)) (fun i _ => 2 - (intOf i).toNat)
          case atStart => exact ⟨0, by omega, rfl, hbw, hI1, fun h => absurd h (by decide), fun h => absurd h (by decide)⟩
          case round =>
            clear hI1 hbw hbT
            obtain ⟨x, hx, rfl, hs, hI, z1, z2⟩ := hrel
            have hbi : Below N w0 wr := hs.low hNX hNr
            have hbT : Save X w wr := hb.trans hs
            rcases (show x = 0 ∨ x = 1 ∨ x = 2 by omega) with rfl | rfl | rfl
            · have hix := idx0 aa ab (T.sub j false).len ca (T.sub j true).len cb
              have hIx : I (cj + 1) wr := hI
              have HC : Hid (Calls Tryz.prog 147 #[.slice aa (T.sub j false).len ca, .int .i64 (dep + 1), .func (.func 148) #[] #[.pointer (some p)]] wr fun e w' => e = .returned (.int .i64 rA.1) ∧ Hid (rA.1 = 0 → I rA.2 w') ∧ Save X wr w') := by
                have := ih _ _ (dep + 1) (cj + 1) wr (s1.below hbi) hIx (by omega) (by omega) HD2.out
                rw [HA.out] at this
                exact this
              clear hI
              by_cases ha : rA.1 = 0
              · have hat : (rA.1 != 0) = false := by simp [ha]
                have HZ : Hid (rA.1 = 0) := ha
                clear ha
                go_wp2_with (go_at_call 147; refine HC.out.mono ?_; rintro e w2 ⟨rfl, hI2, hb2⟩)
                go_roundw
                case rel =>
                  exact ⟨1, by omega, by go_num, hs.trans hb2, hI2.out HZ.out, fun _ => HZ.out, fun h => absurd h (by decide)⟩
                case measure => simp [intOf]
              · have hat : (rA.1 != 0) = true := by simp [ha]
                have HR : Hid (seqW (itemW L d T dep) T.len c = rA) := by
                  have e1 : itemW L d T dep j cj = rA := HE.out.trans (if_neg ha)
                  exact (HS.out hlt (by rw [e1]; exact ha)).trans e1
                clear ha
                go_wp2_with (go_at_call 147; refine HC.out.mono ?_; rintro e w2 ⟨rfl, hI2, hb2⟩)
                go_ret
                rw [HR.out]
                exact ⟨rfl, hI2, hbT.trans hb2⟩
            · have hix := idx1 aa ab (T.sub j false).len ca (T.sub j true).len cb
              have hIx : I rA.2 wr := hI
              have HC : Hid (Calls Tryz.prog 147 #[.slice ab (T.sub j true).len cb, .int .i64 (dep + 1), .func (.func 148) #[] #[.pointer (some p)]] wr fun e w' => e = .returned (.int .i64 rB.1) ∧ Hid (rB.1 = 0 → I rB.2 w') ∧ Save X wr w') := by
                have := ih _ _ (dep + 1) rA.2 wr (s2.below hbi) hIx (by omega) (by omega) HD2.out
                rw [HB.out] at this
                exact this
              clear hI
              by_cases ha : rB.1 = 0
              · have hat : (rB.1 != 0) = false := by simp [ha]
                have HZ : Hid (rB.1 = 0) := ha
                clear ha
                go_wp2_with (go_at_call 147; refine HC.out.mono ?_; rintro e w2 ⟨rfl, hI2, hb2⟩)
                go_roundw
                case rel =>
                  exact ⟨2, by omega, by go_num, hs.trans hb2, hI2.out HZ.out, fun _ => z1.out (by decide), fun _ => HZ.out⟩
                case measure => simp [intOf]
              · have hat : (rB.1 != 0) = true := by simp [ha]
                have HR : Hid (seqW (itemW L d T dep) T.len c = rB) := by
                  have e1 : itemW L d T dep j cj = rB := by
                    have := HE.out
                    rw [if_pos (z1.out (by decide))] at this
                    exact this
                  exact (HS.out hlt (by rw [e1]; exact ha)).trans e1
                clear ha
                go_wp2_with (go_at_call 147; refine HC.out.mono ?_; rintro e w2 ⟨rfl, hI2, hb2⟩)
                go_ret
                rw [HR.out]
                exact ⟨rfl, hI2, hbT.trans hb2⟩
            · have hIx : I rB.2 wr := hI
              clear hI
              go_wp2_with fail
              go_roundw
              case rel =>
                have e1 : seqW (itemW L d T dep) (j + 1) c = rB := by
                  have := HE.out
                  rw [if_pos (z1.out (by decide))] at this
                  exact HX.out.trans this
                exact ⟨j + 1, by omega, by go_num, hbT, by rw [e1]; exact hIx, by rw [e1]; exact z2.out (by decide)⟩
              case measure => simp [intOf]; omega
        · have HE : Hid (itemW L d T dep j cj = (L cj (T.nd j) (T.sub j false).len (T.sub j true).len dep, cj + 1)) := if_neg he
          have HR : Hid (seqW (itemW L d T dep) T.len c = (L cj (T.nd j) (T.sub j false).len (T.sub j true).len dep, cj + 1)) := (HS.out hlt (by rw [HE.out]; exact he)).trans HE.out
          have het : (L cj (T.nd j) (T.sub j false).len (T.sub j true).len dep != 0) = true := by simp [he]
          have HZ0 : Hid (¬ L cj (T.nd j) (T.sub j false).len (T.sub j true).len dep = 0) := he
          clear he
          go_wp2_with (go_at_call 148; refine (lk.call cj (T.nd j) (T.sub j false).len (T.sub j true).len _ _ _ _ _ _ dep _ (lk.keep _ _ _ hI (bal _ _)) (t1.below ((bal _ _).mono hNr)) (t2.below ((bal _ _).mono hNr))).mono ?_; rintro e w1 ⟨rfl, _, hb1⟩)
          go_ret
          rw [HR.out]
          exact ⟨rfl, fun e => absurd e HZ0.out, (hb.trans (Save.alloc X _ _)).trans hb1⟩
      · have HR : Hid (seqW (itemW L d T dep) T.len c = (0, cj)) := HD.out (by omega)
        go_wp2_with fail
        go_ret
        rw [HR.out]
        exact ⟨rfl, fun _ => hI, hb⟩
set_option maxHeartbeats 2000000 in
theorem walk62 (p q : Addr) (N X : Nat) (I : Nat → World → Prop) (L : Nat → Nd → Nat → Nat → Int → Int) (lk : Look 149 #[.pointer (some p), .pointer (some q)] N X I L) :
    ∀ (d : Nat) (v : Value) (T : SL) (dep : Int) (c : Nat) (w : World), StmtsAt N w d v T → I c w → 0 ≤ dep → dep ≤ 200 → ((∀ c s la lb dep, L c s la lb dep = 0 → dep ≤ 100) ∨ dep + d ≤ 100) →
    Calls Tryz.prog 147 #[v, .int .i64 dep, .func (.func 149) #[] #[.pointer (some p), .pointer (some q)]] w fun e w' => e = .returned (.int .i64 (wk L d T dep c).1) ∧ Hid ((wk L d T dep c).1 = 0 → I (wk L d T dep c).2 w') ∧ Save X w w' := by
  intro d
  induction d with
  | zero =>
    intro v T dep c w h hI h0 h1 _
    obtain ⟨_, a, cap, rfl⟩ := h
    go_enter Tryz.func147, Tryz.ntmps147
    go_wp2_with fail
    go_loopw [15] (fun i wr => i = .int .i64 0 ∧ wr = w) (fun i _ => 0)
    case atStart => exact ⟨rfl, rfl⟩
    case round =>
      obtain ⟨rfl, rfl⟩ := hrel
      go_wp2_with fail
      go_ret
      exact ⟨rfl, fun _ => hI, Save.refl _ _⟩
  | succ d ih =>
    intro v T dep c w h hI h0 h1 hd
    obtain ⟨a, cap, rfl, hn, h⟩ := h
    rw [wk_succ]
    have hXw := lk.size c w hI
    have hNX := lk.over
    go_enter Tryz.func147, Tryz.ntmps147
    go_wp2_with fail
    go_loopw [15] (fun i wr => ∃ j : Nat, j ≤ T.len ∧ i = .int .i64 j ∧ Save X w wr ∧ I (seqW (itemW L d T dep) j c).2 wr ∧ Hid ((seqW (itemW L d T dep) j c).1 = 0)) (fun i _ => T.len - (intOf i).toNat)
    case atStart => exact ⟨0, Nat.zero_le _, rfl, Save.refl _ _, hI, rfl⟩
    case round =>
      clear hI
      obtain ⟨j, hj, rfl, hb, hI, hall⟩ := hrel
      have HS : Hid (j < T.len → ¬ (itemW L d T dep j (seqW (itemW L d T dep) j c).2).1 = 0 → seqW (itemW L d T dep) T.len c = itemW L d T dep j (seqW (itemW L d T dep) j c).2) := fun h1 h2 => seqW_stop hall.out h2 h1
      have HX : Hid (seqW (itemW L d T dep) (j + 1) c = itemW L d T dep j (seqW (itemW L d T dep) j c).2) := seqW_next hall.out
      have HD : Hid (j = T.len → seqW (itemW L d T dep) T.len c = (0, (seqW (itemW L d T dep) j c).2)) := fun e => by
        subst e; exact Prod.ext hall.out rfl
      generalize (seqW (itemW L d T dep) j c).2 = cj at *
      by_cases hlt : j < T.len
      · rcases h with h | ⟨b, o, rfl, hp, g⟩
        · omega
        obtain ⟨ve, vf, va, vb, q0, q1, q2, q3, q4, q5, t1, t2, s1, s2⟩ := g j hlt
        have hbN : Below N w wr := hb.low hNX (by omega)
        rw [← hbN.cell hp] at q0 q1 q2 q3 q4 q5
        have t1 := t1.below hbN
        have t2 := t2.below hbN
        have s1 := s1.below hbN
        have s2 := s2.below hbN
        clear g
        obtain ⟨ae, ce, rfl, _⟩ := t1.shape
        obtain ⟨af, cf, rfl, _⟩ := t2.shape
        obtain ⟨aa, ca, rfl, _⟩ := s1.shape
        obtain ⟨ab, cb, rfl, _⟩ := s2.shape
        have hz := hb.size
        have hXr := lk.size cj wr hI
        have hNr : N ≤ wr.heap.size := by omega
        by_cases he : L cj (T.nd j) (T.sub j false).len (T.sub j true).len dep = 0
        · have HE : Hid (itemW L d T dep j cj = if (wk L d (T.sub j false) (dep + 1) (cj + 1)).1 = 0 then wk L d (T.sub j true) (dep + 1) (wk L d (T.sub j false) (dep + 1) (cj + 1)).2
              else wk L d (T.sub j false) (dep + 1) (cj + 1)) := if_pos he
          have het : (L cj (T.nd j) (T.sub j false).len (T.sub j true).len dep != 0) = false := by simp [he]
          have hdep : dep ≤ 100 := by
            rcases hd with hd | hd
            · exact hd _ _ _ _ _ he
            · omega
          have HD2 : Hid ((∀ c s la lb dep, L c s la lb dep = 0 → dep ≤ 100) ∨ dep + 1 + d ≤ 100) := by
            rcases hd with hd | hd
            · exact Or.inl hd
            · exact Or.inr (by omega)
          have HZ0 : Hid (L cj (T.nd j) (T.sub j false).len (T.sub j true).len dep = 0) := he
          clear he hd
          go_wp2_with (go_at_call 149; refine (lk.call cj (T.nd j) (T.sub j false).len (T.sub j true).len _ _ _ _ _ _ dep _ (lk.keep _ _ _ hI (bal _ _)) (t1.below ((bal _ _).mono hNr)) (t2.below ((bal _ _).mono hNr))).mono ?_; rintro e w1 ⟨rfl, HI1, hb1⟩; have hI1 := HI1.out HZ0.out; have m4 := hb1.box hXr 4 rfl; have m5 := hb1.box hXr 5 rfl)
          have hbw : Save X wr w1 := (Save.alloc X _ _).trans hb1
          have hbT : Save X w w1 := hb.trans hbw
          generalize hrA : wk L d (T.sub j false) (dep + 1) (cj + 1) = rA at *
          generalize hrB : wk L d (T.sub j true) (dep + 1) rA.2 = rB at *
          have HA : Hid (wk L d (T.sub j false) (dep + 1) (cj + 1) = rA) := hrA
          have HB : Hid (wk L d (T.sub j true) (dep + 1) rA.2 = rB) := hrB
          clear hrA hrB m4 m5 q0 q1 q2 q3 q4 q5 het hb1 hI t1 t2
          generalize wr = w0 at *
          go_loopw [31] (fun i wi => ∃ x : Nat, x ≤ 2 ∧ i = .int .i64 x ∧ Save X w0 wi ∧ I (if x = 0 then cj + 1 else if x = 1 then rA.2 else rB.2) wi ∧ Hid (1 ≤ x → rA.1 = 0) ∧ Hid (2 ≤ x → rB.1 = 0)) (fun i _ => 2 - (intOf i).toNat)
          case atStart => exact ⟨0, by omega, rfl, hbw, hI1, fun h => absurd h (by decide), fun h => absurd h (by decide)⟩
          case round =>
            clear hI1 hbw hbT
            obtain ⟨x, hx, rfl, hs, hI, z1, z2⟩ := hrel
            have hbi : Below N w0 wr := hs.low hNX hNr
            have hbT : Save X w wr := hb.trans hs
            rcases (show x = 0 ∨ x = 1 ∨ x = 2 by omega) with rfl | rfl | rfl
            · have hix := idx0 aa ab (T.sub j false).len ca (T.sub j true).len cb
              have hIx : I (cj + 1) wr := hI
              have HC : Hid (Calls Tryz.prog 147 #[.slice aa (T.sub j false).len ca, .int .i64 (dep + 1), .func (.func 149) #[] #[.pointer (some p), .pointer (some q)]] wr fun e w' => e = .returned (.int .i64 rA.1) ∧ Hid (rA.1 = 0 → I rA.2 w') ∧ Save X wr w') := by
                have := ih _ _ (dep + 1) (cj + 1) wr (s1.below hbi) hIx (by omega) (by omega) HD2.out
                rw [HA.out] at this
                exact this
              clear hI
              by_cases ha : rA.1 = 0
              · have hat : (rA.1 != 0) = false := by simp [ha]
                have HZ : Hid (rA.1 = 0) := ha
                clear ha
                go_wp2_with (go_at_call 147; refine HC.out.mono ?_; rintro e w2 ⟨rfl, hI2, hb2⟩)
                go_roundw
                case rel =>
                  exact ⟨1, by omega, by go_num, hs.trans hb2, hI2.out HZ.out, fun _ => HZ.out, fun h => absurd h (by decide)⟩
                case measure => simp [intOf]
              · have hat : (rA.1 != 0) = true := by simp [ha]
                have HR : Hid (seqW (itemW L d T dep) T.len c = rA) := by
                  have e1 : itemW L d T dep j cj = rA := HE.out.trans (if_neg ha)
                  exact (HS.out hlt (by rw [e1]; exact ha)).trans e1
                clear ha
                go_wp2_with (go_at_call 147; refine HC.out.mono ?_; rintro e w2 ⟨rfl, hI2, hb2⟩)
                go_ret
                rw [HR.out]
                exact ⟨rfl, hI2, hbT.trans hb2⟩
            · have hix := idx1 aa ab (T.sub j false).len ca (T.sub j true).len cb
              have hIx : I rA.2 wr := hI
              have HC : Hid (Calls Tryz.prog 147 #[.slice ab (T.sub j true).len cb, .int .i64 (dep + 1), .func (.func 149) #[] #[.pointer (some p), .pointer (some q)]] wr fun e w' => e = .returned (.int .i64 rB.1) ∧ Hid (rB.1 = 0 → I rB.2 w') ∧ Save X wr w') := by
                have := ih _ _ (dep + 1) rA.2 wr (s2.below hbi) hIx (by omega) (by omega) HD2.out
                rw [HB.out] at this
                exact this
              clear hI
              by_cases ha : rB.1 = 0
              · have hat : (rB.1 != 0) = false := by simp [ha]
                have HZ : Hid (rB.1 = 0) := ha
                clear ha
                go_wp2_with (go_at_call 147; refine HC.out.mono ?_; rintro e w2 ⟨rfl, hI2, hb2⟩)
                go_roundw
                case rel =>
                  exact ⟨2, by omega, by go_num, hs.trans hb2, hI2.out HZ.out, fun _ => z1.out (by decide), fun _ => HZ.out⟩
                case measure => simp [intOf]
              · have hat : (rB.1 != 0) = true := by simp [ha]
                have HR : Hid (seqW (itemW L d T dep) T.len c = rB) := by
                  have e1 : itemW L d T dep j cj = rB := by
                    have := HE.out
                    rw [if_pos (z1.out (by decide))] at this
                    exact this
                  exact (HS.out hlt (by rw [e1]; exact ha)).trans e1
                clear ha
                go_wp2_with (go_at_call 147; refine HC.out.mono ?_; rintro e w2 ⟨rfl, hI2, hb2⟩)
                go_ret
                rw [HR.out]
                exact ⟨rfl, hI2, hbT.trans hb2⟩
            · have hIx : I rB.2 wr := hI
              clear hI
              go_wp2_with fail
              go_roundw
              case rel =>
                have e1 : seqW (itemW L d T dep) (j + 1) c = rB := by
                  have := HE.out
                  rw [if_pos (z1.out (by decide))] at this
                  exact HX.out.trans this
                exact ⟨j + 1, by omega, by go_num, hbT, by rw [e1]; exact hIx, by rw [e1]; exact z2.out (by decide)⟩
              case measure => simp [intOf]; omega
        · have HE : Hid (itemW L d T dep j cj = (L cj (T.nd j) (T.sub j false).len (T.sub j true).len dep, cj + 1)) := if_neg he
          have HR : Hid (seqW (itemW L d T dep) T.len c = (L cj (T.nd j) (T.sub j false).len (T.sub j true).len dep, cj + 1)) := (HS.out hlt (by rw [HE.out]; exact he)).trans HE.out
          have het : (L cj (T.nd j) (T.sub j false).len (T.sub j true).len dep != 0) = true := by simp [he]
          have HZ0 : Hid (¬ L cj (T.nd j) (T.sub j false).len (T.sub j true).len dep = 0) := he
          clear he
          go_wp2_with (go_at_call 149; refine (lk.call cj (T.nd j) (T.sub j false).len (T.sub j true).len _ _ _ _ _ _ dep _ (lk.keep _ _ _ hI (bal _ _)) (t1.below ((bal _ _).mono hNr)) (t2.below ((bal _ _).mono hNr))).mono ?_; rintro e w1 ⟨rfl, _, hb1⟩)
          go_ret
          rw [HR.out]
          exact ⟨rfl, fun e => absurd e HZ0.out, (hb.trans (Save.alloc X _ _)).trans hb1⟩
      · have HR : Hid (seqW (itemW L d T dep) T.len c = (0, cj)) := HD.out (by omega)
        go_wp2_with fail
        go_ret
        rw [HR.out]
        exact ⟨rfl, fun _ => hI, hb⟩
end Go.Proofs.YtbmenihakkogkabGreatDoor
