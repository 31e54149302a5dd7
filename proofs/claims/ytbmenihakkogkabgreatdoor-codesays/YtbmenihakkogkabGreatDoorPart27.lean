import Derived.Test.YtbmenihakkogkabGreatDoorPart25
import Derived.Test.YtbmenihakkogkabGreatDoorPart26
namespace Go.Proofs.YtbmenihakkogkabGreatDoor
open Go.RowKit Go.Maps
def BlkP (s : SC) (d : Nat) (T : SL) (items : List (List Int × Value)) (w w' : World) : Prop :=
  ∃ its : List (List Int × Value), DFr s.c.X s.c.C w w' ∧ SW s true (items ++ its) w' ∧ BR s.par s.c.once s.c.vars d T T.len items.length (its.map (·.1))
def BlkC (s : SC) (d : Nat) : Prop := ∀ (T : SL) (v : Value) (items : List (List Int × Value)) (w : World), StmtsAt s.N w d v T → errs (stErr s.nf s.par s.c.vars) d T = 0 → items.length + 2100 * size d T + 3000 ≤ 100000 → SW s true items w →
  Calls Tryz.prog 170 #[.pointer (some ⟨s.c.X, 0, none⟩), v] w fun e w' => (∃ u, e = .returned u) ∧ Hid (BlkP s d T items w w')
theorem br_len {par : Nat → Int} {once : Bool} {vars d : Nat} {T : SL} {base nf : Nat} {c : List (List Int)} (h : BR par once vars d T T.len base c) (he : errs (stErr nf par vars) d T = 0) : c.length ≤ 2100 * size d T := by
  obtain ⟨m, hm1, hm0, hc⟩ := h.count (nf := nf) (Nat.le_refl _) he
  have em : m = size d T := by
    cases d with
    | zero => exact hm0 rfl
    | succ d => exact hm1 d rfl
  subst em
  have : perStmt once ≤ 2100 := by unfold perStmt; split <;> omega
  have := Nat.mul_le_mul_right (size d T) this
  omega
def jz (r : Nat) (t : Int) : List Int × Value := ([13, (r : Int), t, 0], .slice none 0 0)
def jj (t : Int) : List Int × Value := ([12, 0, t, 0], .slice none 0 0)
def Cond (s : SC) (nd : Nd) (pre post : List (List Int × Value)) (r : Nat) : Prop :=
  (∀ tgt : Nat, UN s.par s.c.once s.c.vars nd tgt (pre.map (·.1) ++ [[13, (r : Int), (tgt : Int), 0]] ++ post.map (·.1))) ∧ pre.length ≤ 1001 ∧ post.length ≤ 17
def Ch0 (s : SC) (nd : Nd) (items : List (List Int × Value)) (D P : Nat) (w w' : World) : Prop :=
  ∃ (pre post : List (List Int × Value)) (r : Nat), Cond s nd pre post r ∧ DFr s.c.X s.c.C w w' ∧ SW s true (items ++ pre ++ [jz r 0] ++ post) w' ∧ LandAt s.c D P (items ++ pre).length w'
def Ch1 (s : SC) (d : Nat) (nd : Nd) (A : SL) (items : List (List Int × Value)) (D P : Nat) (w w' : World) : Prop :=
  ∃ (pre post itsA : List (List Int × Value)) (r : Nat), Cond s nd pre post r ∧ DFr s.c.X s.c.C w w' ∧ SW s true (items ++ pre ++ [jz r 0] ++ (post ++ itsA)) w' ∧ LandAt s.c D P (items ++ pre).length w' ∧ BR s.par s.c.once s.c.vars d A A.len (items ++ pre ++ [jz r 0] ++ post).length (itsA.map (·.1)) ∧ itsA.length ≤ 2100 * size d A
theorem UnP.ch {s : SC} {nd : Nd} {items : List (List Int × Value)} {D P : Nat} {w w' : World} (h : UnP s nd.ne nd.ek nd.ez items D P w w') : Ch0 s nd items D P w w' := by
  obtain ⟨pre, post, r, ce, L1, L2, h1, h2, h3, h4, h5, h6, h7, h8, h9, h10, h11, h12⟩ := h
  refine ⟨pre, post, r, ⟨fun tgt => ⟨r, ce, L1, L2, h4, h5, h6, h7, h8, ?_⟩, h11, h12⟩, h1, h2, h3⟩
  rw [h9, h10]
theorem Ch0.block {s : SC} {d : Nat} (ok : SOK s) (H : BlkC s d) {nd : Nd} {A : SL} {items : List (List Int × Value)} {D P : Nat} {w w' : World} (h : Ch0 s nd items D P w w') {va : Value} (hA : StmtsAt s.N w d va A) (hN : s.N ≤ w.heap.size ∧ s.c.C ≤ s.c.X) (he : errs (stErr s.nf s.par s.c.vars) d A = 0) (hil : items.length + 2100 * (1 + size d A) + 3000 ≤ 100000) :
    Calls Tryz.prog 170 #[.pointer (some ⟨s.c.X, 0, none⟩), va] w' fun e w2 => (∃ u, e = .returned u) ∧ Hid (Ch1 s d nd A items D P w w2) := by
  obtain ⟨pre, post, r, hc, h1, h2, h3⟩ := h
  have hb : Below s.N w w' := h1.low (Nat.le_trans ok.low hN.2) ok.low hN.1
  have hl1 := hc.2.1
  have hl2 := hc.2.2
  refine (H A va _ w' (hA.below hb) he (by simp; omega) h2).mono fun e w2 hp => ?_
  obtain ⟨he2, its, f1, f2, f3⟩ := hp
  refine ⟨he2, pre, post, its, r, hc, h1.trans f1, ?_, h3.keep h2.dv f1, f3, ?_⟩
  · rw [← List.append_assoc]; exact f2
  · have := br_len f3 he
    rw [List.length_map] at this
    exact this
theorem land_at {s : SC} (ok : SOK s) {cl : Bool} {X Y : List (List Int × Value)} {x : List Int × Value} {D P : Nat} {w : World} (h : SW s cl (X ++ [x] ++ Y) w) (hL : LandAt s.c D P X.length w) (hx : 4 ≤ x.1.length) :
    Calls Tryz.prog 248 #[.pointer (some ⟨D, 0, none⟩), .pointer (some ⟨P, 0, none⟩)] w fun e w' => (∃ u, e = .returned u) ∧ Hid (DFr s.c.X s.c.C w w') ∧ Hid (SW s cl (X ++ [(x.1.set 2 ((X ++ [x] ++ Y).length : Int), x.2)] ++ Y) w') := by
  refine (djump1 s.c cl (X ++ [x] ++ Y) D P X.length x.1 x.2 w h.dv hL (by simp) hx).mono fun e w' hp => ?_
  obtain ⟨he, f1, f2⟩ := hp
  rw [set_mid] at f2
  exact ⟨he, f1, h.next ok f1.out f2.out⟩
theorem Ch1.one {s : SC} {d : Nat} (ok : SOK s) {nd : Nd} {A B : SL} {items : List (List Int × Value)} {D P : Nat} {w w' : World} (h : Ch1 s d nd A items D P w w') (hk : nd.kind = 6) (hB : B.len = 0) :
    Calls Tryz.prog 248 #[.pointer (some ⟨D, 0, none⟩), .pointer (some ⟨P, 0, none⟩)] w' fun e w2 => (∃ u, e = .returned u) ∧ Hid (StpP s d nd A B items w w2) := by
  obtain ⟨pre, post, itsA, r, hc, h1, h2, h3, h4, h5⟩ := h
  refine (land_at ok h2 h3 (by first | exact Nat.le_refl 4)).mono fun e w2 hp => ?_
  obtain ⟨he, f1, f2⟩ := hp
  refine ⟨he, pre ++ [([13, (r : Int), ((items ++ pre ++ [jz r 0] ++ (post ++ itsA)).length : Int), 0], .slice none 0 0)] ++ (post ++ itsA), true, h1.trans f1.out, ?_, Or.inr ⟨rfl, Or.inl ⟨hk, hB, (items ++ pre ++ [jz r 0] ++ (post ++ itsA)).length, _, itsA.map (·.1), hc.1 _, ?_, ?_, ?_⟩⟩⟩
  · have e2 : ∀ (x : List Int × Value) (Y : List (List Int × Value)), items ++ pre ++ [x] ++ Y = items ++ (pre ++ [x] ++ Y) := fun x Y => by simp
    have f3 := f2.out
    rw [e2] at f3
    exact f3
  · have e : (items ++ pre ++ [jz r 0] ++ post).length = items.length + (pre.map (·.1) ++ [[13, (r : Int), (((items ++ pre ++ [jz r 0] ++ (post ++ itsA)).length : Nat) : Int), 0]] ++ post.map (·.1)).length := by simp <;> omega
    rw [← e]; exact h4
  · simp; omega
  · simp
def Ch2 (s : SC) (d : Nat) (nd : Nd) (A : SL) (items : List (List Int × Value)) (D P D2 P2 : Nat) (w w' : World) : Prop :=
  ∃ (pre post itsA : List (List Int × Value)) (r : Nat), Cond s nd pre post r ∧ DFr s.c.X s.c.C w w' ∧ SW s true (items ++ pre ++ [jz r 0] ++ (post ++ itsA ++ [jj 0])) w' ∧ LandAt s.c D P (items ++ pre).length w' ∧ LandAt s.c D2 P2 (items ++ pre ++ [jz r 0] ++ (post ++ itsA)).length w' ∧ BR s.par s.c.once s.c.vars d A A.len (items ++ pre ++ [jz r 0] ++ post).length (itsA.map (·.1)) ∧ itsA.length ≤ 2100 * size d A
theorem Ch1.jump {s : SC} {d : Nat} (ok : SOK s) {nd : Nd} {A : SL} {items : List (List Int × Value)} {D P : Nat} {w w' : World} (h : Ch1 s d nd A items D P w w') (hil : items.length + 2100 * (1 + size d A) + 3000 ≤ 100000) :
    Calls Tryz.prog 244 #[.pointer (some ⟨s.c.X, 0, none⟩), .agg #[.int .i64 12, .int .i64 0, .int .i64 0, .int .i64 0, .slice none 0 0]] w' fun e w2 => ∃ D2 P2, e = .returned (.func (.func 248) #[] #[.pointer (some ⟨D2, 0, none⟩), .pointer (some ⟨P2, 0, none⟩)]) ∧ Hid (Ch2 s d nd A items D P D2 P2 w w2) := by
  obtain ⟨pre, post, itsA, r, hc, h1, h2, h3, h4, h5⟩ := h
  have hl1 := hc.2.1
  have hl2 := hc.2.2
  refine (djump s.c true _ 12 0 w' h2.dv (Or.inl rfl) (by omega) (by simp; omega)).mono fun e w2 hp => ?_
  obtain ⟨D2, P2, he, f1, f2, f3⟩ := hp
  refine ⟨D2, P2, he, pre, post, itsA, r, hc, h1.trans f1, ?_, h3.keep h2.dv f1, f3, h4, h5⟩
  rw [← List.append_assoc]
  exact h2.next ok f1 f2
def Ch3 (s : SC) (d : Nat) (nd : Nd) (A : SL) (items : List (List Int × Value)) (D2 P2 : Nat) (w w' : World) : Prop :=
  ∃ (pre post itsA : List (List Int × Value)) (r tgt : Nat), Cond s nd pre post r ∧ DFr s.c.X s.c.C w w' ∧ SW s true (items ++ pre ++ [jz r tgt] ++ (post ++ itsA) ++ [jj 0]) w' ∧ LandAt s.c D2 P2 (items ++ pre ++ [jz r tgt] ++ (post ++ itsA)).length w' ∧ BR s.par s.c.once s.c.vars d A A.len (items ++ pre ++ [jz r 0] ++ post).length (itsA.map (·.1)) ∧ itsA.length ≤ 2100 * size d A ∧ tgt = (items ++ pre ++ [jz r 0] ++ (post ++ itsA)).length + 1
theorem Ch2.land {s : SC} {d : Nat} (ok : SOK s) {nd : Nd} {A : SL} {items : List (List Int × Value)} {D P D2 P2 : Nat} {w w' : World} (h : Ch2 s d nd A items D P D2 P2 w w') :
    Calls Tryz.prog 248 #[.pointer (some ⟨D, 0, none⟩), .pointer (some ⟨P, 0, none⟩)] w' fun e w2 => (∃ u, e = .returned u) ∧ Hid (Ch3 s d nd A items D2 P2 w w2) := by
  obtain ⟨pre, post, itsA, r, hc, h1, h2, h3, h4, h5, h6⟩ := h
  refine (land_at ok h2 h3 (by first | exact Nat.le_refl 4)).mono fun e w2 hp => ?_
  obtain ⟨he, f1, f2⟩ := hp
  refine ⟨he, pre, post, itsA, r, (items ++ pre ++ [jz r 0] ++ (post ++ itsA)).length + 1, hc, h1.trans f1.out, ?_, ?_, h5, h6, rfl⟩
  · have e : (items ++ pre ++ [jz r 0] ++ (post ++ itsA ++ [jj 0])).length = (items ++ pre ++ [jz r 0] ++ (post ++ itsA)).length + 1 := by simp; omega
    have f3 := f2.out
    rw [e, ← List.append_assoc (bs := post ++ itsA)] at f3
    exact f3
  · have f4 := h4.keep h2.dv f1.out
    have e : (items ++ pre ++ [jz r ((items ++ pre ++ [jz r 0] ++ (post ++ itsA)).length + 1 : Nat)] ++ (post ++ itsA)).length = (items ++ pre ++ [jz r 0] ++ (post ++ itsA)).length := by simp
    rw [e]
    exact f4
def Ch4 (s : SC) (d : Nat) (nd : Nd) (A B : SL) (items : List (List Int × Value)) (D2 P2 : Nat) (w w' : World) : Prop :=
  ∃ (pre post itsA itsB : List (List Int × Value)) (r tgt : Nat), Cond s nd pre post r ∧ DFr s.c.X s.c.C w w' ∧ SW s true ((items ++ pre ++ [jz r tgt] ++ (post ++ itsA)) ++ [jj 0] ++ itsB) w' ∧ LandAt s.c D2 P2 (items ++ pre ++ [jz r tgt] ++ (post ++ itsA)).length w' ∧ BR s.par s.c.once s.c.vars d A A.len (items ++ pre ++ [jz r 0] ++ post).length (itsA.map (·.1)) ∧ BR s.par s.c.once s.c.vars d B B.len tgt (itsB.map (·.1)) ∧ tgt = (items ++ pre ++ [jz r 0] ++ (post ++ itsA)).length + 1
theorem Ch3.block {s : SC} {d : Nat} (ok : SOK s) (H : BlkC s d) {nd : Nd} {A B : SL} {items : List (List Int × Value)} {D2 P2 : Nat} {w w' : World} (h : Ch3 s d nd A items D2 P2 w w') {vb : Value} (hB : StmtsAt s.N w d vb B) (hN : s.N ≤ w.heap.size ∧ s.c.C ≤ s.c.X) (he : errs (stErr s.nf s.par s.c.vars) d B = 0) (hil : items.length + 2100 * (1 + size d A + size d B) + 3000 ≤ 100000) :
    Calls Tryz.prog 170 #[.pointer (some ⟨s.c.X, 0, none⟩), vb] w' fun e w2 => (∃ u, e = .returned u) ∧ Hid (Ch4 s d nd A B items D2 P2 w w2) := by
  obtain ⟨pre, post, itsA, r, tgt, hc, h1, h2, h3, h4, h5, h6⟩ := h
  have hb : Below s.N w w' := h1.low (Nat.le_trans ok.low hN.2) ok.low hN.1
  have hl1 := hc.2.1
  have hl2 := hc.2.2
  refine (H B vb _ w' (hB.below hb) he (by simp; omega) h2).mono fun e w2 hp => ?_
  obtain ⟨he2, its, f1, f2, f3⟩ := hp
  refine ⟨he2, pre, post, itsA, its, r, tgt, hc, h1.trans f1, f2, h3.keep h2.dv f1, h4, ?_, h6⟩
  have e : (items ++ pre ++ [jz r tgt] ++ (post ++ itsA) ++ [jj 0]).length = tgt := by rw [h6]; simp; omega
  rw [e] at f3
  exact f3
theorem Ch4.both {s : SC} {d : Nat} (ok : SOK s) {nd : Nd} {A B : SL} {items : List (List Int × Value)} {D2 P2 : Nat} {w w' : World} (h : Ch4 s d nd A B items D2 P2 w w') (hk : nd.kind = 6) (hB : 0 < B.len) :
    Calls Tryz.prog 248 #[.pointer (some ⟨D2, 0, none⟩), .pointer (some ⟨P2, 0, none⟩)] w' fun e w2 => (∃ u, e = .returned u) ∧ Hid (StpP s d nd A B items w w2) := by
  obtain ⟨pre, post, itsA, itsB, r, tgt, hc, h1, h2, h3, h4, h5, h6⟩ := h
  refine (land_at ok h2 h3 (by first | exact Nat.le_refl 4)).mono fun e w2 hp => ?_
  obtain ⟨he, f1, f2⟩ := hp
  refine ⟨he, pre ++ [jz r tgt] ++ post ++ itsA ++ [jj ((tgt + (itsB.map (·.1)).length : Nat) : Int)] ++ itsB, true, h1.trans f1.out, ?_, Or.inr ⟨rfl, Or.inr (Or.inl ⟨hk, hB, tgt, _, itsA.map (·.1), itsB.map (·.1), hc.1 tgt, ?_, ?_, h5, ?_⟩)⟩⟩
  · have f3 := f2.out
    have e : (items ++ pre ++ [jz r tgt] ++ (post ++ itsA) ++ [jj 0] ++ itsB).length = tgt + (itsB.map (·.1)).length := by rw [h6]; simp; omega
    rw [e] at f3
    have e2 : items ++ pre ++ [jz r tgt] ++ (post ++ itsA) ++ [((jj 0).1.set 2 ((tgt + (itsB.map (·.1)).length : Nat) : Int), (jj 0).2)] ++ itsB = items ++ (pre ++ [jz r tgt] ++ post ++ itsA ++ [jj ((tgt + (itsB.map (·.1)).length : Nat) : Int)] ++ itsB) := by simp [jj]
    rw [e2] at f3
    exact f3
  · have e : (items ++ pre ++ [jz r 0] ++ post).length = items.length + (pre.map (·.1) ++ [[13, (r : Int), (tgt : Int), 0]] ++ post.map (·.1)).length := by simp <;> omega
    rw [← e]; exact h4
  · rw [h6]; simp; omega
  · simp [jz, jj]
def Wh2 (s : SC) (d : Nat) (nd : Nd) (A : SL) (items : List (List Int × Value)) (D P : Nat) (w w' : World) : Prop :=
  ∃ (pre post itsA : List (List Int × Value)) (r : Nat), Cond s nd pre post r ∧ DFr s.c.X s.c.C w w' ∧ SW s true (items ++ pre ++ [jz r 0] ++ (post ++ itsA ++ [jj (items.length : Int)])) w' ∧ LandAt s.c D P (items ++ pre).length w' ∧ BR s.par s.c.once s.c.vars d A A.len (items ++ pre ++ [jz r 0] ++ post).length (itsA.map (·.1))
theorem Ch1.back {s : SC} {d : Nat} (ok : SOK s) {nd : Nd} {A : SL} {items : List (List Int × Value)} {D P : Nat} {w w' : World} (h : Ch1 s d nd A items D P w w') (hil : items.length + 2100 * (1 + size d A) + 3000 ≤ 100000) :
    Calls Tryz.prog 171 #[.pointer (some ⟨s.c.X, 0, none⟩), .agg #[.int .i64 12, .int .i64 0, .int .i64 (items.length : Int), .int .i64 0, .slice none 0 0]] w' fun e w2 => (∃ u, e = .returned u) ∧ Hid (Wh2 s d nd A items D P w w2) := by
  obtain ⟨pre, post, itsA, r, hc, h1, h2, h3, h4, h5⟩ := h
  have hl1 := hc.2.1
  have hl2 := hc.2.2
  refine (dadd s.c true _ [12, ((0 : Nat) : Int), (items.length : Int), 0] 12 (items.length : Int) 0 0 none 0 0 w' h2.dv ⟨rfl, rfl, rfl, rfl⟩ ⟨none, 0, rfl, by simp, Or.inl rfl⟩ (by simp; omega) (by omega) (fun h => absurd h (by decide))).mono fun e w2 hp => ?_
  obtain ⟨he, f1, f2⟩ := hp
  refine ⟨he, pre, post, itsA, r, hc, h1.trans f1.out, ?_, h3.keep h2.dv f1.out, h4⟩
  rw [← List.append_assoc]
  exact h2.next ok f1.out f2.out
theorem Wh2.land {s : SC} {d : Nat} (ok : SOK s) {nd : Nd} {A B : SL} {items : List (List Int × Value)} {D P : Nat} {w w' : World} (h : Wh2 s d nd A items D P w w') (hk : nd.kind = 7) :
    Calls Tryz.prog 248 #[.pointer (some ⟨D, 0, none⟩), .pointer (some ⟨P, 0, none⟩)] w' fun e w2 => (∃ u, e = .returned u) ∧ Hid (StpP s d nd A B items w w2) := by
  obtain ⟨pre, post, itsA, r, hc, h1, h2, h3, h4⟩ := h
  refine (land_at ok h2 h3 (by first | exact Nat.le_refl 4)).mono fun e w2 hp => ?_
  obtain ⟨he, f1, f2⟩ := hp
  refine ⟨he, pre ++ [([13, (r : Int), ((items ++ pre ++ [jz r 0] ++ (post ++ itsA ++ [jj (items.length : Int)])).length : Int), 0], .slice none 0 0)] ++ (post ++ itsA ++ [jj (items.length : Int)]), true, h1.trans f1.out, ?_, Or.inr ⟨rfl, Or.inr (Or.inr ⟨hk, (items ++ pre ++ [jz r 0] ++ (post ++ itsA ++ [jj (items.length : Int)])).length, _, itsA.map (·.1), hc.1 _, ?_, ?_, ?_⟩)⟩⟩
  · have e2 : ∀ (x : List Int × Value) (Y : List (List Int × Value)), items ++ pre ++ [x] ++ Y = items ++ (pre ++ [x] ++ Y) := fun x Y => by simp
    have f3 := f2.out
    rw [e2] at f3
    exact f3
  · have e : (items ++ pre ++ [jz r 0] ++ post).length = items.length + (pre.map (·.1) ++ [[13, (r : Int), (((items ++ pre ++ [jz r 0] ++ (post ++ itsA ++ [jj (items.length : Int)])).length : Nat) : Int), 0]] ++ post.map (·.1)).length := by simp <;> omega
    rw [← e]; exact h4
  · simp; omega
  · simp [jj]
set_option maxRecDepth 20000 in
set_option maxHeartbeats 4000000 in
theorem dchoose (s : SC) (ok : SOK s) (d : Nat) (H : BlkC s d) (nd : Nd) (A B : SL) (items : List (List Int × Value)) (ve vf va vb : Value) (w : World) (hk : nd.kind = 6) (h : SW s true items w) (ht : ToksAt s.N w ve nd.ne nd.ek nd.ez) (hA : StmtsAt s.N w d va A) (hB : StmtsAt s.N w d vb B) (hs : stErr s.nf s.par s.c.vars nd A.len B.len = 0) (eA : errs (stErr s.nf s.par s.c.vars) d A = 0) (eB : errs (stErr s.nf s.par s.c.vars) d B = 0) (hil : items.length + 2100 * (1 + size d A + size d B) + 3000 ≤ 100000) :
    Calls Tryz.prog 231 #[.pointer (some ⟨s.c.X, 0, none⟩), .agg #[.int .i64 nd.kind, .int .i64 nd.num, ve, vf, va, vb]] w fun e w' => (∃ u, e = .returned u) ∧ Hid (StpP s d nd A B items w w') := by
  have hex := (stOK hs).2.2.2.1 (by omega)
  have hx := h.dv.xlt
  obtain ⟨a, cap, rfl, hr⟩ := ht
  obtain ⟨aa, ca, rfl, _⟩ := hA.shape
  obtain ⟨ab, cb, rfl, _⟩ := hB.shape
  have HPre : Hid (DFr s.c.X s.c.C w (w.alloc (.cells #[.int .i64 nd.kind, .int .i64 nd.num, .slice a nd.ne cap, vf, .slice aa A.len ca, .slice ab B.len cb] 82))) := DFr.of (bal w _)
  have hbl := (bal w (.cells #[.int .i64 nd.kind, .int .i64 nd.num, .slice a nd.ne cap, vf, .slice aa A.len ca, .slice ab B.len cb] 82)).mono h.nw
  have hW := h.of ok (bal w (.cells #[.int .i64 nd.kind, .int .i64 nd.num, .slice a nd.ne cap, vf, .slice aa A.len ca, .slice ab B.len cb] 82))
  have hT : ToksAt s.N (w.alloc (.cells #[.int .i64 nd.kind, .int .i64 nd.num, .slice a nd.ne cap, vf, .slice aa A.len ca, .slice ab B.len cb] 82)) (.slice a nd.ne cap) nd.ne nd.ek nd.ez := ToksAt.below ⟨a, cap, rfl, hr⟩ hbl
  have hA := hA.below hbl
  have hB := hB.below hbl
  have hBx : (w.alloc (.cells #[.int .i64 nd.kind, .int .i64 nd.num, .slice a nd.ne cap, vf, .slice aa A.len ca, .slice ab B.len cb] 82)).heap[w.heap.size]? = some (.cells #[.int .i64 nd.kind, .int .i64 nd.num, .slice a nd.ne cap, vf, .slice aa A.len ca, .slice ab B.len cb] 82 (0, 0)) := heap_alloc_new w _
  clear h hr hbl
  generalize hw0 : w.alloc (.cells #[.int .i64 nd.kind, .int .i64 nd.num, .slice a nd.ne cap, vf, .slice aa A.len ca, .slice ab B.len cb] 82) = W at *
  generalize hQ : w.heap.size = Q at *
  have HW0 : Hid (w.alloc (.cells #[.int .i64 nd.kind, .int .i64 nd.num, .slice a nd.ne cap, vf, .slice aa A.len ca, .slice ab B.len cb] 82) = W) := hw0
  have HQ : Hid (w.heap.size = Q) := hQ
  clear hw0 hQ
  have HB : Hid (∀ w1, DFr s.c.X s.c.C W w1 → w1.cell? ⟨Q, 2, none⟩ = some (.slice a nd.ne cap) ∧ w1.cell? ⟨Q, 4, none⟩ = some (.slice aa A.len ca) ∧ w1.cell? ⟨Q, 5, none⟩ = some (.slice ab B.len cb)) := fun w1 hf => by
    have := hW.box hBx (by decide) (by decide) hf
    exact ⟨by unfold World.cell?; rw [this]; rfl, by unfold World.cell?; rw [this]; rfl, by unfold World.cell?; rw [this]; rfl⟩
  have HU : Hid (Calls Tryz.prog 243 #[.pointer (some ⟨s.c.X, 0, none⟩), .slice a nd.ne cap] W fun e w' => ∃ D P, e = .returned (.func (.func 248) #[] #[.pointer (some ⟨D, 0, none⟩), .pointer (some ⟨P, 0, none⟩)]) ∧ Hid (Ch0 s nd items D P W w')) := by
    refine (dunless s ok true items _ nd.ne nd.ek nd.ez W hW hT hex (by omega)).mono fun e w' hp => ?_
    obtain ⟨D, P, he, hu⟩ := hp
    exact ⟨D, P, he, hu.out.ch⟩
  have H0 : Hid (∀ w1 D P, Ch0 s nd items D P W w1 → w1.cell? ⟨Q, 4, none⟩ = some (.slice aa A.len ca) ∧ Calls Tryz.prog 170 #[.pointer (some ⟨s.c.X, 0, none⟩), .slice aa A.len ca] w1 fun e w2 => (∃ u, e = .returned u) ∧ Hid (Ch1 s d nd A items D P W w2)) := fun w1 D P hp => ⟨(by obtain ⟨_, _, _, _, h1, _⟩ := hp; exact (HB.out w1 h1).2.1), hp.block ok H hA ⟨hW.nw, hx.2.2.2⟩ eA (by omega)⟩
  have kz := HB.out W (DFr.refl _ _ _)
  obtain ⟨z2, z4, z5⟩ := kz
  have H1 : Hid (∀ w1 D P, Ch1 s d nd A items D P W w1 → w1.cell? ⟨Q, 5, none⟩ = some (.slice ab B.len cb)) := fun w1 D P hp => (by obtain ⟨_, _, _, _, _, h1, _⟩ := hp; exact (HB.out w1 h1).2.2)
  have HE1 : Hid (∀ w1 D P, B.len = 0 → Ch1 s d nd A items D P W w1 → Calls Tryz.prog 248 #[.pointer (some ⟨D, 0, none⟩), .pointer (some ⟨P, 0, none⟩)] w1 fun e w2 => (∃ u, e = .returned u) ∧ Hid (StpP s d nd A B items w w2)) := fun w1 D P h0 hp => (hp.one ok hk h0).mono fun e w2 hq => ⟨hq.1, hq.2.out.pre HPre.out⟩
  have H2 : Hid (∀ w1 D P, Ch1 s d nd A items D P W w1 → Calls Tryz.prog 244 #[.pointer (some ⟨s.c.X, 0, none⟩), .agg #[.int .i64 12, .int .i64 0, .int .i64 0, .int .i64 0, .slice none 0 0]] w1 fun e w2 => ∃ D2 P2, e = .returned (.func (.func 248) #[] #[.pointer (some ⟨D2, 0, none⟩), .pointer (some ⟨P2, 0, none⟩)]) ∧ Hid (Ch2 s d nd A items D P D2 P2 W w2)) := fun w1 D P hp => hp.jump ok (by omega)
  have H3 : Hid (∀ w1 D P D2 P2, Ch2 s d nd A items D P D2 P2 W w1 → Calls Tryz.prog 248 #[.pointer (some ⟨D, 0, none⟩), .pointer (some ⟨P, 0, none⟩)] w1 fun e w2 => (∃ u, e = .returned u) ∧ Hid (Ch3 s d nd A items D2 P2 W w2)) := fun w1 D P D2 P2 hp => hp.land ok
  have H4 : Hid (∀ w1 D2 P2, Ch3 s d nd A items D2 P2 W w1 → w1.cell? ⟨Q, 5, none⟩ = some (.slice ab B.len cb) ∧ Calls Tryz.prog 170 #[.pointer (some ⟨s.c.X, 0, none⟩), .slice ab B.len cb] w1 fun e w2 => (∃ u, e = .returned u) ∧ Hid (Ch4 s d nd A B items D2 P2 W w2)) := fun w1 D2 P2 hp => ⟨(by obtain ⟨_, _, _, _, _, _, h1, _⟩ := hp; exact (HB.out w1 h1).2.2), hp.block ok H hB ⟨hW.nw, hx.2.2.2⟩ eB hil⟩
  have HE2 : Hid (∀ w1 D2 P2, 0 < B.len → Ch4 s d nd A B items D2 P2 W w1 → Calls Tryz.prog 248 #[.pointer (some ⟨D2, 0, none⟩), .pointer (some ⟨P2, 0, none⟩)] w1 fun e w2 => (∃ u, e = .returned u) ∧ Hid (StpP s d nd A B items w w2)) := fun w1 D2 P2 h0 hp => (hp.both ok hk h0).mono fun e w2 hq => ⟨hq.1, hq.2.out.pre HPre.out⟩
  clear hW hT hA hB hBx hk hs hex ok H eA eB
  go_enter Tryz.func231, Tryz.ntmps231
  go_upto_region 1 with (fail)
  rw [HW0.out]
  simp only [HQ.out]
  by_cases hb0 : B.len = 0
  · have HB0 : Hid (B.len = 0) := hb0
    have hbc : ¬ (0 : Int) < (B.len : Int) := by omega
    clear hb0
    go_wp2_with (first
      | (go_at_call 243; refine HU.out.mono ?_; rintro e w1 ⟨D, P, rfl, C1⟩; obtain ⟨c1, K1⟩ := H0.out w1 D P C1.out; have K1 : Hid (Calls Tryz.prog 170 #[.pointer (some ⟨s.c.X, 0, none⟩), .slice aa A.len ca] w1 fun e w2 => (∃ u, e = .returned u) ∧ Hid (Ch1 s d nd A items D P W w2)) := K1)
      | (go_at_call 170; refine K1.out.mono ?_; rintro e w2 ⟨⟨u2, rfl⟩, C2⟩; have c2 := H1.out w2 D P C2.out)
      | (go_at_call 248; refine (HE1.out w2 D P HB0.out C2.out).mono ?_; rintro e w3 ⟨⟨u3, rfl⟩, P3⟩))
    go_end0
    exact ⟨⟨_, rfl⟩, P3⟩
  · have HB0 : Hid (0 < B.len) := (by show 0 < B.len; omega)
    have hbc : (0 : Int) < (B.len : Int) := by omega
    clear hb0
    go_wp2_with (first
      | (go_at_call 243; refine HU.out.mono ?_; rintro e w1 ⟨D, P, rfl, C1⟩; obtain ⟨c1, K1⟩ := H0.out w1 D P C1.out; have K1 : Hid (Calls Tryz.prog 170 #[.pointer (some ⟨s.c.X, 0, none⟩), .slice aa A.len ca] w1 fun e w2 => (∃ u, e = .returned u) ∧ Hid (Ch1 s d nd A items D P W w2)) := K1)
      | (go_at_call 244; refine (H2.out w2 D P C2.out).mono ?_; rintro e w3 ⟨D2, P2, rfl, C3⟩)
      | (go_at_call 170; refine K5.out.mono ?_; rintro e w5 ⟨⟨u5, rfl⟩, C5⟩)
      | (go_at_call 170; refine K1.out.mono ?_; rintro e w2 ⟨⟨u2, rfl⟩, C2⟩; have c2 := H1.out w2 D P C2.out)
      | (go_at_call 248; refine (HE2.out w5 D2 P2 HB0.out C5.out).mono ?_; rintro e w6 ⟨⟨u6, rfl⟩, P6⟩)
      | (go_at_call 248; refine (H3.out w3 D P D2 P2 C3.out).mono ?_; rintro e w4 ⟨⟨u4, rfl⟩, C4⟩; obtain ⟨c4, K5⟩ := H4.out w4 D2 P2 C4.out; have K5 : Hid (Calls Tryz.prog 170 #[.pointer (some ⟨s.c.X, 0, none⟩), .slice ab B.len cb] w4 fun e w2 => (∃ u, e = .returned u) ∧ Hid (Ch4 s d nd A B items D2 P2 W w2)) := K5))
    go_end0
    exact ⟨⟨_, rfl⟩, P6⟩
set_option maxRecDepth 20000 in
set_option maxHeartbeats 4000000 in
theorem drepeat (s : SC) (ok : SOK s) (d : Nat) (H : BlkC s d) (nd : Nd) (A B : SL) (items : List (List Int × Value)) (ve vf va vb : Value) (w : World) (hk : nd.kind = 7) (h : SW s true items w) (ht : ToksAt s.N w ve nd.ne nd.ek nd.ez) (hA : StmtsAt s.N w d va A) (hB : StmtsAt s.N w d vb B) (hs : stErr s.nf s.par s.c.vars nd A.len B.len = 0) (eA : errs (stErr s.nf s.par s.c.vars) d A = 0) (hil : items.length + 2100 * (1 + size d A + size d B) + 3000 ≤ 100000) :
    Calls Tryz.prog 232 #[.pointer (some ⟨s.c.X, 0, none⟩), .agg #[.int .i64 nd.kind, .int .i64 nd.num, ve, vf, va, vb]] w fun e w' => (∃ u, e = .returned u) ∧ Hid (StpP s d nd A B items w w') := by
  have hex := (stOK hs).2.2.2.1 (by omega)
  have hx := h.dv.xlt
  obtain ⟨a, cap, rfl, hr⟩ := ht
  obtain ⟨aa, ca, rfl, _⟩ := hA.shape
  obtain ⟨ab, cb, rfl, _⟩ := hB.shape
  have HPre : Hid (DFr s.c.X s.c.C w (w.alloc (.cells #[.int .i64 nd.kind, .int .i64 nd.num, .slice a nd.ne cap, vf, .slice aa A.len ca, .slice ab B.len cb] 82))) := DFr.of (bal w _)
  have hbl := (bal w (.cells #[.int .i64 nd.kind, .int .i64 nd.num, .slice a nd.ne cap, vf, .slice aa A.len ca, .slice ab B.len cb] 82)).mono h.nw
  have hW := h.of ok (bal w (.cells #[.int .i64 nd.kind, .int .i64 nd.num, .slice a nd.ne cap, vf, .slice aa A.len ca, .slice ab B.len cb] 82))
  have hT : ToksAt s.N (w.alloc (.cells #[.int .i64 nd.kind, .int .i64 nd.num, .slice a nd.ne cap, vf, .slice aa A.len ca, .slice ab B.len cb] 82)) (.slice a nd.ne cap) nd.ne nd.ek nd.ez := ToksAt.below ⟨a, cap, rfl, hr⟩ hbl
  have hA := hA.below hbl
  have hB := hB.below hbl
  have hBx : (w.alloc (.cells #[.int .i64 nd.kind, .int .i64 nd.num, .slice a nd.ne cap, vf, .slice aa A.len ca, .slice ab B.len cb] 82)).heap[w.heap.size]? = some (.cells #[.int .i64 nd.kind, .int .i64 nd.num, .slice a nd.ne cap, vf, .slice aa A.len ca, .slice ab B.len cb] 82 (0, 0)) := heap_alloc_new w _
  clear h hr hbl
  generalize hw0 : w.alloc (.cells #[.int .i64 nd.kind, .int .i64 nd.num, .slice a nd.ne cap, vf, .slice aa A.len ca, .slice ab B.len cb] 82) = W at *
  generalize hQ : w.heap.size = Q at *
  have HW0 : Hid (w.alloc (.cells #[.int .i64 nd.kind, .int .i64 nd.num, .slice a nd.ne cap, vf, .slice aa A.len ca, .slice ab B.len cb] 82) = W) := hw0
  have HQ : Hid (w.heap.size = Q) := hQ
  clear hw0 hQ
  have HB : Hid (∀ w1, DFr s.c.X s.c.C W w1 → w1.cell? ⟨Q, 2, none⟩ = some (.slice a nd.ne cap) ∧ w1.cell? ⟨Q, 4, none⟩ = some (.slice aa A.len ca) ∧ w1.cell? ⟨Q, 5, none⟩ = some (.slice ab B.len cb)) := fun w1 hf => by
    have := hW.box hBx (by decide) (by decide) hf
    exact ⟨by unfold World.cell?; rw [this]; rfl, by unfold World.cell?; rw [this]; rfl, by unfold World.cell?; rw [this]; rfl⟩
  have HU : Hid (Calls Tryz.prog 243 #[.pointer (some ⟨s.c.X, 0, none⟩), .slice a nd.ne cap] W fun e w' => ∃ D P, e = .returned (.func (.func 248) #[] #[.pointer (some ⟨D, 0, none⟩), .pointer (some ⟨P, 0, none⟩)]) ∧ Hid (Ch0 s nd items D P W w')) := by
    refine (dunless s ok true items _ nd.ne nd.ek nd.ez W hW hT hex (by omega)).mono fun e w' hp => ?_
    obtain ⟨D, P, he, hu⟩ := hp
    exact ⟨D, P, he, hu.out.ch⟩
  have H0 : Hid (∀ w1 D P, Ch0 s nd items D P W w1 → w1.cell? ⟨Q, 4, none⟩ = some (.slice aa A.len ca) ∧ Calls Tryz.prog 170 #[.pointer (some ⟨s.c.X, 0, none⟩), .slice aa A.len ca] w1 fun e w2 => (∃ u, e = .returned u) ∧ Hid (Ch1 s d nd A items D P W w2)) := fun w1 D P hp => ⟨(by obtain ⟨_, _, _, _, h1, _⟩ := hp; exact (HB.out w1 h1).2.1), hp.block ok H hA ⟨hW.nw, hx.2.2.2⟩ eA (by omega)⟩
  have kz := HB.out W (DFr.refl _ _ _)
  obtain ⟨z2, z4, z5⟩ := kz
  obtain ⟨ad44, cap44, k44⟩ := hW.dv.code
  have H2 : Hid (∀ w1 D P, Ch1 s d nd A items D P W w1 → Calls Tryz.prog 171 #[.pointer (some ⟨s.c.X, 0, none⟩), .agg #[.int .i64 12, .int .i64 0, .int .i64 (items.length : Int), .int .i64 0, .slice none 0 0]] w1 fun e w2 => (∃ u, e = .returned u) ∧ Hid (Wh2 s d nd A items D P W w2)) := fun w1 D P hp => hp.back ok (by omega)
  have HE2 : Hid (∀ w1 D P, Wh2 s d nd A items D P W w1 → Calls Tryz.prog 248 #[.pointer (some ⟨D, 0, none⟩), .pointer (some ⟨P, 0, none⟩)] w1 fun e w2 => (∃ u, e = .returned u) ∧ Hid (StpP s d nd A B items w w2)) := fun w1 D P hp => (hp.land (B := B) ok hk).mono fun e w2 hq => ⟨hq.1, hq.2.out.pre HPre.out⟩
  clear hW hT hA hB hBx hk hs hex ok H eA
  go_enter Tryz.func232, Tryz.ntmps232
  go_upto_region 1 with (fail)
  rw [HW0.out]
  simp only [HQ.out]
  go_wp2_with (first
    | (go_at_call 243; refine HU.out.mono ?_; rintro e w1 ⟨D, P, rfl, C1⟩; obtain ⟨c1, K1⟩ := H0.out w1 D P C1.out; have K1 : Hid (Calls Tryz.prog 170 #[.pointer (some ⟨s.c.X, 0, none⟩), .slice aa A.len ca] w1 fun e w2 => (∃ u, e = .returned u) ∧ Hid (Ch1 s d nd A items D P W w2)) := K1)
    | (go_at_call 170; refine K1.out.mono ?_; rintro e w2 ⟨⟨u2, rfl⟩, C2⟩)
    | (go_at_call 171; refine (H2.out w2 D P C2.out).mono ?_; rintro e w3 ⟨⟨u3, rfl⟩, C3⟩)
    | (go_at_call 248; refine (HE2.out w3 D P C3.out).mono ?_; rintro e w4 ⟨⟨u4, rfl⟩, P4⟩))
  go_end0
  exact ⟨⟨_, rfl⟩, P4⟩
end Go.Proofs.YtbmenihakkogkabGreatDoor
