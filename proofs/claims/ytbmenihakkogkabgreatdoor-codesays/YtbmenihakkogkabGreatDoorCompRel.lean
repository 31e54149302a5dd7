import Derived.Test.YtbmenihakkogkabGreatDoorPart16
import Derived.Test.YtbmenihakkogkabGreatDoorPart15
namespace Go.Proofs.YtbmenihakkogkabGreatDoor
def clr (L : List Nat) : List (List Int) := L.map fun (r : Nat) => [1, (r : Int), 0, 0]
def tokIns (k z : Int) (tn : Nat) (os : List Nat) : List Int :=
  if k = 1 then [1, (tn : Int), z, 0]
  else if k = 5 then [5, (tn : Int), z, 0]
  else if k = 4 then [4, (tn : Int), (os.getD 0 0 : Nat), z]
  else if k = 3 then [3, (tn : Int), (os.getD 0 0 : Nat), (os.getD 1 0 : Nat), z]
  else [7, (tn : Int), z, 0] ++ os.map (fun (r : Nat) => (r : Int))
inductive VS (k z : Nat → Int) (par : Nat → Int) (once : Bool) : Nat → Nat → Nat → List Nat → List (List Int) → Prop
  | nil (a free : Nat) : VS k z par once a a free [] []
  | loc {a a' free : Nat} {rs : List Nat} {c : List (List Int)} : k a = 2 → VS k z par once (a + 1) a' (max free ((z a).toNat + 1)) rs c → VS k z par once a a' free ((z a).toNat :: rs) c
  | cmp {a a1 a' free : Nat} {os rs : List Nat} {c1 c2 : List (List Int)} {L : List Nat} : ¬ k a = 2 → VS k z par once (a + 1) a1 free os c1 → (os.length : Int) = asksOf (k a) (z a) par → (∀ r ∈ L, free + 1 ≤ r) → L.length ≤ 40 → (once = false → L = []) →
      VS k z par once a1 a' (free + 1) rs c2 → VS k z par once a a' free (free :: rs) (c1 ++ [tokIns (k a) (z a) free os] ++ clr L ++ c2)
def RK (k z : Nat → Int) (par : Nat → Int) (once : Bool) (a a' tn free : Nat) (code : List (List Int)) : Prop :=
  ∃ os c1 L, VS k z par once (a + 1) a' free os c1 ∧ (os.length : Int) = asksOf (k a) (z a) par ∧ (∀ r ∈ L, max free (tn + 1) ≤ r) ∧ L.length ≤ 40 ∧ (once = false → L = []) ∧ code = c1 ++ [tokIns (k a) (z a) tn os] ++ clr L
def perTok (once : Bool) : Nat := if once then 41 else 1
def perStmt (once : Bool) : Nat := if once then 2100 else 66
theorem clr_len (L : List Nat) : (clr L).length = L.length := by simp [clr]
theorem VS.wants {k z : Nat → Int} {par : Nat → Int} {once : Bool} {a a' free : Nat} {rs : List Nat} {c : List (List Int)} (h : VS k z par once a a' free rs c) : asked k z par a' = asked k z par a - rs.length ∧ a + rs.length ≤ a' := by
  induction h with
  | nil a free => exact ⟨by simp, by simp⟩
  | @loc a a' free rs c h2 _ ih =>
    obtain ⟨i1, i2⟩ := ih
    simp only [asked] at i1
    rw [i1]
    have : asksOf (k a) (z a) par = 0 := by unfold asksOf; rw [h2]; simp
    rw [this]
    simp only [List.length_cons]
    omega
  | @cmp a a1 a' free os rs c1 c2 L _ _ ho _ _ _ _ ih1 ih2 =>
    obtain ⟨i1, i2⟩ := ih1
    obtain ⟨j1, j2⟩ := ih2
    simp only [asked] at i1
    rw [j1, i1]
    simp only [List.length_cons]
    omega
theorem VS.count {k z : Nat → Int} {par : Nat → Int} {once : Bool} {a a' free : Nat} {rs : List Nat} {c : List (List Int)} (h : VS k z par once a a' free rs c) : c.length ≤ perTok once * (a' - a) := by
  induction h with
  | nil a free => simp
  | @loc a a' free rs c h2 hv ih =>
    have := hv.wants.2
    have e : perTok once * (a' - a) = perTok once * (a' - (a + 1)) + perTok once := by rw [← Nat.mul_succ]; congr 1; omega
    omega
  | @cmp a a1 a' free os rs c1 c2 L _ h1 ho _ hL hz h2 ih1 ih2 =>
    have b1 := h1.wants.2
    have b2 := h2.wants.2
    have e : perTok once * (a' - a) = perTok once * (a1 - (a + 1)) + perTok once * (a' - a1) + perTok once := by
      rw [← Nat.mul_add, ← Nat.mul_succ]; congr 1; omega
    have e2 : L.length + 1 ≤ perTok once := by
      cases once
      · rw [hz rfl]; simp [perTok]
      · simp only [perTok, if_true]; omega
    simp only [List.length_append, List.length_cons, List.length_nil, clr_len]
    omega
theorem RK.count {k z : Nat → Int} {par : Nat → Int} {once : Bool} {a a' tn free : Nat} {c : List (List Int)} (h : RK k z par once a a' tn free c) : c.length ≤ perTok once * (a' - a) ∧ a + 1 ≤ a' := by
  obtain ⟨os, c1, L, h1, ho, _, hL, hz, rfl⟩ := h
  have b1 := h1.wants.2
  have i1 := h1.count
  have e : perTok once * (a' - a) = perTok once * (a' - (a + 1)) + perTok once := by rw [← Nat.mul_succ]; congr 1; omega
  have e2 : L.length + 1 ≤ perTok once := by
    cases once
    · rw [hz rfl]; simp [perTok]
    · simp only [perTok, if_true]; omega
  simp only [List.length_append, List.length_cons, List.length_nil, clr_len]
  omega
def after (free : Nat) : List Nat → Nat
  | [] => free
  | r :: rs => after (max free (r + 1)) rs
theorem after_snoc (free : Nat) (rs : List Nat) (r : Nat) : after free (rs ++ [r]) = max (after free rs) (r + 1) := by
  induction rs generalizing free with
  | nil => rfl
  | cons x rs ih => exact ih _
theorem VS.snoc {k z : Nat → Int} {par : Nat → Int} {once : Bool} {a a1 a' free r : Nat} {rs : List Nat} {c c2 : List (List Int)} (h : VS k z par once a a1 free rs c) : VS k z par once a1 a' (after free rs) [r] c2 → VS k z par once a a' free (rs ++ [r]) (c ++ c2) := by
  induction h with
  | nil a free => exact fun h => h
  | @loc a a1 free rs c h2 _ ih => exact fun h => VS.loc h2 (ih h)
  | @cmp a b a1 free os rs c1 c3 L hk h1 ho hL1 hL2 hz _ _ ih =>
    intro h
    have e : after free (free :: rs) = after (free + 1) rs := by
      show after (max free (free + 1)) rs = _
      rw [Nat.max_eq_right (by omega)]
    rw [e] at h
    rw [List.append_assoc]
    exact VS.cmp hk h1 ho hL1 hL2 hz (ih h)
theorem VS.one {k z : Nat → Int} {par : Nat → Int} {once : Bool} {a a' free r : Nat} {c : List (List Int)} (h : VS k z par once a a' free [r] c) : (k a = 2 ∧ r = (z a).toNat) ∨ r = free := by
  cases h with
  | loc h2 _ => exact Or.inl ⟨h2, rfl⟩
  | cmp => exact Or.inr rfl
theorem VS.reg {k z : Nat → Int} {par : Nat → Int} {once : Bool} {a a' free r : Nat} {c : List (List Int)} (h : VS k z par once a a' free [r] c) {nf vars n : Nat} (ht : ∀ j, j < n → tokErr (k j) (z j) nf vars = 0) (ha : a < n) (hv : vars ≤ free) : r ≤ free ∧ (r < vars ∨ r = free) := by
  rcases h.one with ⟨h2, rfl⟩ | rfl
  · have := ht a ha
    rw [h2] at this
    simp [tokErr] at this
    omega
  · omega
theorem RK.vs {k z : Nat → Int} {par : Nat → Int} {once : Bool} {a a' free : Nat} {c : List (List Int)} (h : RK k z par once a a' free free c) (hk : ¬ k a = 2) : VS k z par once a a' free [free] c := by
  obtain ⟨os, c1, L, h1, ho, hL1, hL2, hz, rfl⟩ := h
  have := VS.cmp hk h1 ho (fun r hr => (by have := hL1 r hr; omega)) hL2 hz (VS.nil a' (free + 1))
  rw [List.append_nil] at this
  exact this
def und (R : Nat) (c : List (List Int)) : Prop := ∀ i ∈ c, 0 ≤ i.getD 1 0 ∧ i.getD 1 0 < R
theorem und_app {R : Nat} {a b : List (List Int)} : und R (a ++ b) ↔ und R a ∧ und R b := by
  unfold und
  constructor
  · intro h
    exact ⟨fun i hi => h i (List.mem_append.2 (Or.inl hi)), fun i hi => h i (List.mem_append.2 (Or.inr hi))⟩
  · rintro ⟨h1, h2⟩ i hi
    rcases List.mem_append.1 hi with hi | hi
    · exact h1 i hi
    · exact h2 i hi
def goods (nf : Nat) (par : Nat → Int) (R : Nat) (c : Nat) (l : List (List Int)) : Prop := ∀ i ∈ l, good nf par R c (insOf i)
theorem goods_app {nf : Nat} {par : Nat → Int} {R c : Nat} {a b : List (List Int)} (h1 : goods nf par R c a) (h2 : goods nf par R c b) : goods nf par R c (a ++ b) := fun i hi => by
  rcases List.mem_append.1 hi with hi | hi
  · exact h1 i hi
  · exact h2 i hi
theorem goods_one {nf : Nat} {par : Nat → Int} {R c : Nat} {i : List Int} (h : good nf par R c (insOf i)) : goods nf par R c [i] := fun j hj => by
  rw [List.mem_singleton] at hj; subst hj; exact h
theorem goods_clr {nf : Nat} {par : Nat → Int} {R c : Nat} {L : List Nat} (h : und R (clr L)) : goods nf par R c (clr L) := fun i hi => by
  have hu := h i hi
  unfold clr at hi
  obtain ⟨r, _, rfl⟩ := List.mem_map.1 hi
  exact good_num hu ⟨by simp, by simp⟩
theorem getD_mem {os : List Nat} {j : Nat} (h : j < os.length) : os.getD j 0 ∈ os := by
  rw [List.getD_eq_getElem?_getD, List.getElem?_eq_getElem h]
  exact List.getElem_mem h
theorem tokIns_a (k z : Int) (tn : Nat) (os : List Nat) : (tokIns k z tn os).getD 1 0 = tn := by
  unfold tokIns
  split
  · rfl
  split
  · rfl
  split
  · rfl
  split
  · rfl
  · rfl
theorem tok_good {nf : Nat} {par : Nat → Int} {R c : Nat} {k z : Int} {locals : Int} {tn : Nat} {os : List Nat} (ht : tokErr k z nf locals = 0) (h2 : ¬ k = 2) (hto : tn < R) (hos : ∀ r ∈ os, r < R) (hl : (os.length : Int) = asksOf k z par) (hp : ∀ i, i < nf → 0 ≤ par i) :
    good nf par R c (insOf (tokIns k z tn os)) := by
  have hto2 : (0 : Int) ≤ tn ∧ (tn : Int) < R := ⟨by omega, by omega⟩
  unfold tokErr at ht
  unfold asksOf at hl
  unfold tokIns
  by_cases k1 : k = 1
  · subst k1
    simp only [if_true] at ht ⊢
    exact good_num (a := tn) (b := z) hto2 (by split at ht <;> omega)
  by_cases k5 : k = 5
  · subst k5
    simp at ht ⊢
    exact good_new (a := tn) (b := z) hto2 (by omega)
  by_cases k4 : k = 4
  · subst k4
    simp at ht hl ⊢
    have := hos _ (getD_mem (os := os) (j := 0) (by omega))
    rw [List.getD_eq_getElem?_getD] at this
    exact good_get (a := tn) (b := (os[0]?.getD 0 : Nat)) (d := z) hto2 ⟨by omega, by omega⟩ (by omega)
  by_cases k3 : k = 3
  · subst k3
    simp at ht hl ⊢
    have h0 := hos _ (getD_mem (os := os) (j := 0) (by omega))
    have h1 := hos _ (getD_mem (os := os) (j := 1) (by omega))
    rw [List.getD_eq_getElem?_getD] at h0 h1
    exact good_op (a := tn) (b := (os[0]?.getD 0 : Nat)) (d := (os[1]?.getD 0 : Nat)) hto2 ⟨by omega, by omega⟩ ⟨by omega, by omega⟩ (by show 1 ≤ z ∧ z ≤ 5; omega)
  by_cases k6 : k = 6
  · subst k6
    simp at ht hl
    rw [if_neg (by decide), if_neg (by decide), if_neg (by decide), if_neg (by decide)]
    have hz := hp z.toNat (by omega)
    have e : insOf ([7, (tn : Int), z, 0] ++ os.map (fun (r : Nat) => (r : Int))) = ⟨7, (tn : Int), z, 0, os.length, fun j => (os.map (fun (r : Nat) => (r : Int))).getD j 0⟩ := by
      unfold insOf
      simp
    rw [e]
    refine good_call hto2 ⟨by omega, by omega⟩ hl fun j hj => ?_
    have := hos _ (getD_mem (os := os) hj)
    rw [List.getD_eq_getElem?_getD, List.getElem?_map]
    rw [List.getD_eq_getElem?_getD] at this
    rw [List.getElem?_eq_getElem hj] at this ⊢
    simp at this ⊢
    omega
  · rw [if_neg k1, if_neg h2, if_neg k3, if_neg k4, if_neg k5, if_neg k6] at ht
    cases ht
theorem VS.right {k z : Nat → Int} {par : Nat → Int} {once : Bool} {a a' free : Nat} {rs : List Nat} {c : List (List Int)} (h : VS k z par once a a' free rs c) {n nf : Nat} {vars R tot : Nat} (hn : a' ≤ n) (ht : ∀ j, j < n → tokErr (k j) (z j) nf vars = 0) (hp : ∀ i, i < nf → 0 ≤ par i) (hv : vars ≤ R) (hu : und R c) : goods nf par R tot c ∧ ∀ r ∈ rs, r < R := by
  induction h with
  | nil a free => exact ⟨fun i hi => (by cases hi), fun r hr => (by cases hr)⟩
  | @loc a a' free rs c h2 hvs ih =>
    obtain ⟨i1, i2⟩ := ih hn hu
    refine ⟨i1, fun r hr => ?_⟩
    rcases List.mem_cons.1 hr with rfl | hr
    · have b := hvs.wants.2
      have := ht a (by omega)
      rw [h2] at this
      simp [tokErr] at this
      omega
    · exact i2 r hr
  | @cmp a a1 a' free os rs c1 c2 L hk h1 ho _ hL hz h2 ih1 ih2 =>
    have b1 := h1.wants.2
    have b2 := h2.wants.2
    rw [und_app, und_app, und_app] at hu
    obtain ⟨⟨⟨u1, u2⟩, u3⟩, u4⟩ := hu
    obtain ⟨i1, i2⟩ := ih1 (by omega) u1
    obtain ⟨j1, j2⟩ := ih2 hn u4
    have hf : free < R := by
      have := u2 _ (List.mem_singleton.2 rfl)
      rw [tokIns_a] at this
      omega
    refine ⟨goods_app (goods_app (goods_app i1 (goods_one (tok_good (ht a (by omega)) hk hf i2 ho hp))) (goods_clr u3)) j1, fun r hr => ?_⟩
    rcases List.mem_cons.1 hr with rfl | hr
    · exact hf
    · exact j2 r hr
theorem RK.right {k z : Nat → Int} {par : Nat → Int} {once : Bool} {a a' tn free : Nat} {c : List (List Int)} (h : RK k z par once a a' tn free c) {n nf : Nat} {vars R tot : Nat} (hn : a' ≤ n) (ht : ∀ j, j < n → tokErr (k j) (z j) nf vars = 0) (hp : ∀ i, i < nf → 0 ≤ par i) (h2 : ¬ k a = 2) (hv : vars ≤ R) (hu : und R c) : goods nf par R tot c := by
  obtain ⟨os, c1, L, h1, ho, _, hL, hz, rfl⟩ := h
  have b1 := h1.wants.2
  rw [und_app, und_app] at hu
  obtain ⟨⟨u1, u2⟩, u3⟩ := hu
  obtain ⟨i1, i2⟩ := h1.right (tot := tot) hn ht hp hv u1
  have hf : tn < R := by
    have := u2 _ (List.mem_singleton.2 rfl)
    rw [tokIns_a] at this
    omega
  exact goods_app (goods_app i1 (goods_one (tok_good (ht a (by omega)) h2 hf i2 ho hp))) (goods_clr u3)
/-! ### Statements -/
def PR (par : Nat → Int) (once : Bool) (vars : Nat) (s : Nd) (c : List (List Int)) : Prop :=
  (s.kind = 1 ∧ s.ek 0 = 2 ∧ c = [[2, s.num, s.ez 0, 0]]) ∨
  (s.kind = 1 ∧ ¬ s.ek 0 = 2 ∧ RK s.ek s.ez par once 0 s.ne s.num.toNat vars c) ∨
  (s.kind = 2 ∧ ∃ a b c1 c2, VS s.ek s.ez par once 0 s.ne vars [a] c1 ∧ VS s.fk s.fz par once 0 s.nf (max vars (a + 1)) [b] c2 ∧ c = c1 ++ c2 ++ [[6, (a : Int), (b : Int), s.num]]) ∨
  (s.kind = 4 ∧ c = [[10, 0, 0, 0]]) ∨
  (∃ a c1 o, ((s.kind = 3 ∧ o = 9) ∨ (s.kind = 5 ∧ o = 11) ∨ (s.kind = 8 ∧ o = 8)) ∧ VS s.ek s.ez par once 0 s.ne vars [a] c1 ∧ c = c1 ++ [[o, (a : Int), 0, 0]])
def UN (par : Nat → Int) (once : Bool) (vars : Nat) (s : Nd) (tgt : Nat) (c : List (List Int)) : Prop :=
  ∃ r ce L1 L2, VS s.ek s.ez par once 0 s.ne vars [r] ce ∧ (∀ x ∈ L1, max vars (r + 1) ≤ x) ∧ L1.length ≤ 17 ∧ (∀ x ∈ L2, vars ≤ x) ∧ L2.length ≤ 17 ∧ c = ce ++ clr L1 ++ [[13, (r : Int), (tgt : Int), 0]] ++ clr L2
inductive BR (par : Nat → Int) (once : Bool) (vars : Nat) : Nat → SL → Nat → Nat → List (List Int) → Prop
  | nil (d : Nat) (T : SL) (base : Nat) : BR par once vars d T 0 base []
  | plain {d : Nat} {T : SL} {i base : Nat} {c0 c1 : List (List Int)} {L : List Nat} : BR par once vars (d + 1) T i base c0 → PR par once vars (T.nd i) c1 → (∀ x ∈ L, vars ≤ x) → L.length ≤ 17 → BR par once vars (d + 1) T (i + 1) base (c0 ++ c1 ++ clr L)
  | one {d : Nat} {T : SL} {i base tgt : Nat} {c0 cu ca : List (List Int)} : BR par once vars (d + 1) T i base c0 → (T.nd i).kind = 6 → (T.sub i true).len = 0 → UN par once vars (T.nd i) tgt cu → BR par once vars d (T.sub i false) (T.sub i false).len (base + c0.length + cu.length) ca →
      tgt = base + c0.length + cu.length + ca.length → BR par once vars (d + 1) T (i + 1) base (c0 ++ cu ++ ca)
  | both {d : Nat} {T : SL} {i base tgt : Nat} {c0 cu ca cb : List (List Int)} : BR par once vars (d + 1) T i base c0 → (T.nd i).kind = 6 → 0 < (T.sub i true).len → UN par once vars (T.nd i) tgt cu → BR par once vars d (T.sub i false) (T.sub i false).len (base + c0.length + cu.length) ca →
      tgt = base + c0.length + cu.length + ca.length + 1 → BR par once vars d (T.sub i true) (T.sub i true).len tgt cb → BR par once vars (d + 1) T (i + 1) base (c0 ++ cu ++ ca ++ [[12, 0, ((tgt + cb.length : Nat) : Int), 0]] ++ cb)
  | loop {d : Nat} {T : SL} {i base tgt : Nat} {c0 cu ca : List (List Int)} : BR par once vars (d + 1) T i base c0 → (T.nd i).kind = 7 → UN par once vars (T.nd i) tgt cu → BR par once vars d (T.sub i false) (T.sub i false).len (base + c0.length + cu.length) ca →
      tgt = base + c0.length + cu.length + ca.length + 1 → BR par once vars (d + 1) T (i + 1) base (c0 ++ cu ++ ca ++ [[12, 0, ((base + c0.length : Nat) : Int), 0]])
def uptoN (d : Nat) (T : SL) (i : Nat) : Nat := sumTo i fun j => 1 + size d (T.sub j false) + size d (T.sub j true)
def exOK (nf : Nat) (vars : Nat) (n : Nat) (k z : Nat → Int) : Prop := n ≤ 24 ∧ ∀ j, j < n → tokErr (k j) (z j) nf vars = 0
theorem exOK_of {nf : Nat} {par : Nat → Int} {vars n : Nat} {k z : Nat → Int} (h : exprErr n k z nf par vars = 0) : exOK nf vars n k z ∧ (∀ j, j < n → 1 ≤ asked k z par j) ∧ asked k z par n = 0 ∧ (∀ i, i < nf → 0 ≤ par i ∧ par i ≤ 3) ∧ 1 ≤ n := by
  unfold exprErr at h
  split at h
  · cases h
  next h1 =>
  split at h
  next h2 =>
    split at h
    next h3 =>
      split at h
      · cases h
      next h4 =>
        have hp : ∀ i, i < nf → parErr (par i) = 0 := fun i hi => firstErr_is_zero h2 i hi
        have hs : ∀ j, j < n → stepErr k z nf par vars j = 0 := fun j hj => firstErr_is_zero h3 j hj
        have hr : ∀ j, j ≤ n → 0 ≤ asked k z par j := fun j hj => (asked_range hp j fun x hx => hs x (by omega)).1
        refine ⟨⟨by omega, fun j hj => (stepErr_tok (hs j hj)).1⟩, fun j hj => ?_, ?_, fun i hi => parErr_zero (hp i hi), ?_⟩
        · have a1 := (stepErr_tok (hs j hj)).2
          have a2 := hr j (by omega)
          omega
        · have := hr n (Nat.le_refl _)
          omega
        · by_cases e : n = 0
          · subst e
            simp [asked] at h4
          · omega
    next h3 => exact absurd h h3
  · cases h
theorem stOK {nf : Nat} {par : Nat → Int} {vars : Nat} {s : Nd} {la lb : Nat} (h : stErr nf par vars s la lb = 0) : (1 ≤ s.kind ∧ s.kind ≤ 8) ∧ (s.kind = 1 → 0 ≤ s.num ∧ s.num < vars) ∧ (s.kind = 2 → 0 ≤ s.num ∧ s.num ≤ 3 ∧ exprErr s.nf s.fk s.fz nf par vars = 0) ∧ (¬ s.kind = 4 → exprErr s.ne s.ek s.ez nf par vars = 0) ∧
    (s.kind = 4 → s.ne = 0) ∧ (¬ s.kind = 2 → s.nf = 0) ∧ (¬ s.kind = 6 → ¬ s.kind = 7 → la = 0) ∧ (¬ s.kind = 6 → lb = 0) := by
  unfold stErr at h
  split at h
  next h1 =>
    unfold formErr at h1
    split at h1
    · cases h1
    next h1 =>
    split at h
    next h2 =>
      unfold numErr at h2
      split at h2
      · cases h2
      next h2 =>
      refine ⟨by omega, fun e => by omega, fun e => ⟨by omega, by omega, ?_⟩, fun e => ?_, fun e => by omega, fun e => by omega, fun e1 e2 => by omega, fun e => by omega⟩
      · rw [if_neg (by omega)] at h
        split at h
        · exact h
        next h3 => exact absurd h h3
      · rw [if_neg e] at h
        split at h
        · next h3 => exact h3
        next h3 => exact absurd h h3
    · cases h
  · cases h
theorem errs_at {E : Nd → Nat → Nat → Int} {d : Nat} {T : SL} (h : errs E (d + 1) T = 0) {i : Nat} (hi : i < T.len) : E (T.nd i) (T.sub i false).len (T.sub i true).len = 0 ∧ errs E d (T.sub i false) = 0 ∧ errs E d (T.sub i true) = 0 := by
  have := firstErr_is_zero h i hi
  split at this
  next h1 =>
    split at this
    next h2 => exact ⟨h1, h2, this⟩
    next h2 => exact absurd this h2
  next h1 => exact absurd this h1
theorem PR.count {nf : Nat} {par : Nat → Int} {once : Bool} {vars : Nat} {s : Nd} {la lb : Nat} {c : List (List Int)} (h : PR par once vars s c) (hs : stErr nf par vars s la lb = 0) : c.length + 17 ≤ perStmt once := by
  obtain ⟨_, _, h2, he, _⟩ := stOK hs
  have hpt : perTok once * 48 + 18 ≤ perStmt once := by cases once <;> simp [perTok, perStmt]
  have mono : ∀ n, n ≤ 24 → perTok once * n ≤ perTok once * 24 := fun n hn => Nat.mul_le_mul_left _ hn
  have p48 : perTok once * 48 = perTok once * 24 + perTok once * 24 := by rw [← Nat.mul_add]
  rcases h with ⟨_, _, rfl⟩ | ⟨hk, _, hr⟩ | ⟨hk, a, b, c1, c2, h1, h2', rfl⟩ | ⟨_, rfl⟩ | ⟨a, c1, o, ho, h1, rfl⟩
  · simp; omega
  · have := (exOK_of (he (by omega))).1.1
    have := mono _ this
    have := hr.count.1
    simp at this
    omega
  · have e1 := mono _ (exOK_of (he (by omega))).1.1
    have e2 := mono _ (exOK_of (h2 hk).2.2).1.1
    have i1 := h1.count
    have i2 := h2'.count
    simp at i1 i2 ⊢
    omega
  · simp; omega
  · have e1 := mono _ (exOK_of (he (by omega))).1.1
    have i1 := h1.count
    simp at i1 ⊢
    omega
theorem UN.count {nf : Nat} {par : Nat → Int} {once : Bool} {vars : Nat} {s : Nd} {la lb tgt : Nat} {c : List (List Int)} (h : UN par once vars s tgt c) (hs : stErr nf par vars s la lb = 0) (h4 : ¬ s.kind = 4) : c.length + 1 ≤ perStmt once := by
  obtain ⟨_, _, _, he, _⟩ := stOK hs
  have hpt : perTok once * 24 + 36 ≤ perStmt once := by cases once <;> simp [perTok, perStmt]
  obtain ⟨r, ce, L1, L2, h1, _, hL1, _, hL2, rfl⟩ := h
  have e1 : perTok once * s.ne ≤ perTok once * 24 := Nat.mul_le_mul_left _ (exOK_of (he h4)).1.1
  have i1 := h1.count
  simp [clr_len] at i1 ⊢
  omega
theorem BR.count {nf : Nat} {par : Nat → Int} {once : Bool} {vars d : Nat} {T : SL} {i base : Nat} {c : List (List Int)} (h : BR par once vars d T i base c) : ∀ (_ : i ≤ T.len) (_ : errs (stErr nf par vars) d T = 0), ∃ m, (∀ d', d = d' + 1 → m = uptoN d' T i) ∧ (d = 0 → m = 0) ∧ c.length ≤ perStmt once * m := by
  induction h with
  | nil d T base => exact fun _ _ => ⟨0, fun d' _ => rfl, fun _ => rfl, by simp⟩
  | @plain d T i base c0 c1 L h0 h1 _ hL ih =>
    intro hi he
    obtain ⟨m, hm, _, hc⟩ := ih (by omega) he
    have e1 := (h1.count (errs_at he (by omega)).1)
    rw [hm d rfl] at hc
    refine ⟨uptoN d T (i + 1), fun d' hd => (by cases hd; rfl), fun hd => (by cases hd), ?_⟩
    have : perStmt once * uptoN d T (i + 1) = perStmt once * uptoN d T i + perStmt once * (1 + size d (T.sub i false) + size d (T.sub i true)) := by rw [← Nat.mul_add]; rfl
    have : perStmt once * (1 + size d (T.sub i false) + size d (T.sub i true)) = perStmt once + perStmt once * size d (T.sub i false) + perStmt once * size d (T.sub i true) := by rw [Nat.mul_add, Nat.mul_add, Nat.mul_one]
    simp only [List.length_append, clr_len]
    omega
  | @one d T i base tgt c0 cu ca h0 hk hl hu ha ht ih0 iha =>
    intro hi he
    obtain ⟨m, hm, _, hc⟩ := ih0 (by omega) he
    obtain ⟨ma, hma, hma0, hca⟩ := iha (Nat.le_refl _) (errs_at he (by omega)).2.1
    have e1 := hu.count (errs_at he (by omega)).1 (by omega)
    rw [hm d rfl] at hc
    have ema : ma = size d (T.sub i false) := by
      cases d with
      | zero => exact hma0 rfl
      | succ d => exact hma d rfl
    subst ema
    refine ⟨uptoN d T (i + 1), fun d' hd => (by cases hd; rfl), fun hd => (by cases hd), ?_⟩
    have : perStmt once * uptoN d T (i + 1) = perStmt once * uptoN d T i + perStmt once * (1 + size d (T.sub i false) + size d (T.sub i true)) := by rw [← Nat.mul_add]; rfl
    have : perStmt once * (1 + size d (T.sub i false) + size d (T.sub i true)) = perStmt once + perStmt once * size d (T.sub i false) + perStmt once * size d (T.sub i true) := by rw [Nat.mul_add, Nat.mul_add, Nat.mul_one]
    simp only [List.length_append]
    omega
  | @both d T i base tgt c0 cu ca cb h0 hk hl hu ha ht hb ih0 iha ihb =>
    intro hi he
    obtain ⟨m, hm, _, hc⟩ := ih0 (by omega) he
    obtain ⟨ma, hma, hma0, hca⟩ := iha (Nat.le_refl _) (errs_at he (by omega)).2.1
    obtain ⟨mb, hmb, hmb0, hcb⟩ := ihb (Nat.le_refl _) (errs_at he (by omega)).2.2
    have e1 := hu.count (errs_at he (by omega)).1 (by omega)
    rw [hm d rfl] at hc
    have ema : ma = size d (T.sub i false) := by
      cases d with
      | zero => exact hma0 rfl
      | succ d => exact hma d rfl
    have emb : mb = size d (T.sub i true) := by
      cases d with
      | zero => exact hmb0 rfl
      | succ d => exact hmb d rfl
    subst ema emb
    refine ⟨uptoN d T (i + 1), fun d' hd => (by cases hd; rfl), fun hd => (by cases hd), ?_⟩
    have : perStmt once * uptoN d T (i + 1) = perStmt once * uptoN d T i + perStmt once * (1 + size d (T.sub i false) + size d (T.sub i true)) := by rw [← Nat.mul_add]; rfl
    have : perStmt once * (1 + size d (T.sub i false) + size d (T.sub i true)) = perStmt once + perStmt once * size d (T.sub i false) + perStmt once * size d (T.sub i true) := by rw [Nat.mul_add, Nat.mul_add, Nat.mul_one]
    simp only [List.length_append, List.length_cons, List.length_nil]
    omega
  | @loop d T i base tgt c0 cu ca h0 hk hu ha ht ih0 iha =>
    intro hi he
    obtain ⟨m, hm, _, hc⟩ := ih0 (by omega) he
    obtain ⟨ma, hma, hma0, hca⟩ := iha (Nat.le_refl _) (errs_at he (by omega)).2.1
    have e1 := hu.count (errs_at he (by omega)).1 (by omega)
    rw [hm d rfl] at hc
    have ema : ma = size d (T.sub i false) := by
      cases d with
      | zero => exact hma0 rfl
      | succ d => exact hma d rfl
    subst ema
    refine ⟨uptoN d T (i + 1), fun d' hd => (by cases hd; rfl), fun hd => (by cases hd), ?_⟩
    have : perStmt once * uptoN d T (i + 1) = perStmt once * uptoN d T i + perStmt once * (1 + size d (T.sub i false) + size d (T.sub i true)) := by rw [← Nat.mul_add]; rfl
    have : perStmt once * (1 + size d (T.sub i false) + size d (T.sub i true)) = perStmt once + perStmt once * size d (T.sub i false) + perStmt once * size d (T.sub i true) := by rw [Nat.mul_add, Nat.mul_add, Nat.mul_one]
    simp only [List.length_append, List.length_cons, List.length_nil]
    omega
theorem PR.right {nf : Nat} {par : Nat → Int} {once : Bool} {vars : Nat} {s : Nd} {la lb R tot : Nat} {c : List (List Int)} (h : PR par once vars s c) (hs : stErr nf par vars s la lb = 0) (hp : ∀ i, i < nf → 0 ≤ par i) (hv : vars ≤ R) (hu : und R c) : goods nf par R tot c := by
  obtain ⟨_, hn1, h2, he, _⟩ := stOK hs
  rcases h with ⟨hk, hl, rfl⟩ | ⟨hk, hl, hr⟩ | ⟨hk, a, b, c1, c2, h1, h2', rfl⟩ | ⟨_, rfl⟩ | ⟨a, c1, o, ho, h1, rfl⟩
  · have u := hu _ (List.mem_singleton.2 rfl)
    have ex := exOK_of (he (by omega))
    have t0 := ex.1.2 0 (by omega)
    rw [hl] at t0
    simp [tokErr] at t0
    exact goods_one (good_move (a := s.num) (b := s.ez 0) u ⟨by omega, by omega⟩)
  · exact hr.right (Nat.le_refl _) (exOK_of (he (by omega))).1.2 hp hl hv hu
  · rw [und_app, und_app] at hu
    obtain ⟨⟨u1, u2⟩, u3⟩ := hu
    obtain ⟨g1, r1⟩ := h1.right (tot := tot) (Nat.le_refl _) (exOK_of (he (by omega))).1.2 hp hv u1
    obtain ⟨g2, r2⟩ := h2'.right (tot := tot) (Nat.le_refl _) (exOK_of (h2 hk).2.2).1.2 hp hv u2
    have a1 := r1 a (List.mem_singleton.2 rfl)
    have b1 := r2 b (List.mem_singleton.2 rfl)
    have := h2 hk
    exact goods_app (goods_app g1 g2) (goods_one (good_put (a := a) (b := b) (d := s.num) ⟨by omega, by omega⟩ ⟨by omega, by omega⟩ ⟨by omega, by omega⟩))
  · exact goods_one good_pause
  · rw [und_app] at hu
    obtain ⟨u1, u3⟩ := hu
    obtain ⟨g1, r1⟩ := h1.right (tot := tot) (Nat.le_refl _) (exOK_of (he (by omega))).1.2 hp hv u1
    have a1 := r1 a (List.mem_singleton.2 rfl)
    exact goods_app g1 (goods_one (good_one (o := o) (a := a) (by omega) ⟨by omega, by omega⟩))
theorem UN.right {nf : Nat} {par : Nat → Int} {once : Bool} {vars : Nat} {s : Nd} {la lb tgt R tot : Nat} {c : List (List Int)} (h : UN par once vars s tgt c) (hs : stErr nf par vars s la lb = 0) (h4 : ¬ s.kind = 4) (hp : ∀ i, i < nf → 0 ≤ par i) (hv : vars ≤ R) (hu : und R c) (ht : tgt < tot) : goods nf par R tot c := by
  obtain ⟨_, _, _, he, _⟩ := stOK hs
  obtain ⟨r, ce, L1, L2, h1, _, hL1, _, hL2, rfl⟩ := h
  rw [und_app, und_app, und_app] at hu
  obtain ⟨⟨⟨u1, u2⟩, u3⟩, u4⟩ := hu
  obtain ⟨g1, r1⟩ := h1.right (tot := tot) (Nat.le_refl _) (exOK_of (he h4)).1.2 hp hv u1
  have a1 := r1 r (List.mem_singleton.2 rfl)
  exact goods_app (goods_app (goods_app g1 (goods_clr u2)) (goods_one (good_zero (a := r) (b := tgt) ⟨by omega, by omega⟩ ⟨by omega, by omega⟩))) (goods_clr u4)
theorem BR.right {nf : Nat} {par : Nat → Int} {once : Bool} {vars d : Nat} {T : SL} {i base : Nat} {c : List (List Int)} {R tot : Nat} (hp : ∀ i, i < nf → 0 ≤ par i) (hv : vars ≤ R) (h : BR par once vars d T i base c) : ∀ (_ : i ≤ T.len) (_ : errs (stErr nf par vars) d T = 0) (_ : und R c) (_ : base + c.length < tot), goods nf par R tot c := by
  induction h with
  | nil d T base => exact fun _ _ _ _ i hi => by cases hi
  | @plain d T i base c0 c1 L h0 h1 _ hL ih =>
    intro hi he hu ht
    rw [und_app, und_app] at hu
    simp only [List.length_append] at ht
    exact goods_app (goods_app (ih (by omega) he hu.1.1 (by omega)) (h1.right (errs_at he (by omega)).1 hp hv hu.1.2)) (goods_clr hu.2)
  | @one d T i base tgt c0 cu ca h0 hk hl hun ha htg ih0 iha =>
    intro hi he hu ht
    rw [und_app, und_app] at hu
    simp only [List.length_append] at ht
    obtain ⟨e1, e2, e3⟩ := errs_at he (i := i) (by omega)
    exact goods_app (goods_app (ih0 (by omega) he hu.1.1 (by omega)) (hun.right e1 (by omega) hp hv hu.1.2 (by omega))) (iha (Nat.le_refl _) e2 hu.2 (by omega))
  | @both d T i base tgt c0 cu ca cb h0 hk hl hun ha htg hb ih0 iha ihb =>
    intro hi he hu ht
    rw [und_app, und_app, und_app, und_app] at hu
    obtain ⟨⟨⟨⟨u0, u1⟩, u2⟩, u3⟩, u4⟩ := hu
    simp only [List.length_append, List.length_cons, List.length_nil] at ht
    obtain ⟨e1, e2, e3⟩ := errs_at he (i := i) (by omega)
    exact goods_app (goods_app (goods_app (goods_app (ih0 (by omega) he u0 (by omega)) (hun.right e1 (by omega) hp hv u1 (by omega))) (iha (Nat.le_refl _) e2 u2 (by omega))) (goods_one (good_jump (b := ((tgt + cb.length : Nat) : Int)) ⟨by omega, by omega⟩))) (ihb (Nat.le_refl _) e3 u4 (by omega))
  | @loop d T i base tgt c0 cu ca h0 hk hun ha htg ih0 iha =>
    intro hi he hu ht
    rw [und_app, und_app, und_app] at hu
    obtain ⟨⟨⟨u0, u1⟩, u2⟩, u3⟩ := hu
    simp only [List.length_append, List.length_cons, List.length_nil] at ht
    obtain ⟨e1, e2, e3⟩ := errs_at he (i := i) (by omega)
    exact goods_app (goods_app (goods_app (ih0 (by omega) he u0 (by omega)) (hun.right e1 (by omega) hp hv u1 (by omega))) (iha (Nat.le_refl _) e2 u2 (by omega))) (goods_one (good_jump (b := ((base + c0.length : Nat) : Int)) ⟨by omega, by omega⟩))
def StR (par : Nat → Int) (once : Bool) (vars d : Nat) (s : Nd) (A B : SL) (base : Nat) (cl : Bool) (c : List (List Int)) : Prop :=
  (cl = false ∧ PR par once vars s c) ∨
  (cl = true ∧ ((s.kind = 6 ∧ B.len = 0 ∧ ∃ tgt cu ca, UN par once vars s tgt cu ∧ BR par once vars d A A.len (base + cu.length) ca ∧ tgt = base + cu.length + ca.length ∧ c = cu ++ ca) ∨
    (s.kind = 6 ∧ 0 < B.len ∧ ∃ tgt cu ca cb, UN par once vars s tgt cu ∧ BR par once vars d A A.len (base + cu.length) ca ∧ tgt = base + cu.length + ca.length + 1 ∧ BR par once vars d B B.len tgt cb ∧ c = cu ++ ca ++ [[12, 0, ((tgt + cb.length : Nat) : Int), 0]] ++ cb) ∨
    (s.kind = 7 ∧ ∃ tgt cu ca, UN par once vars s tgt cu ∧ BR par once vars d A A.len (base + cu.length) ca ∧ tgt = base + cu.length + ca.length + 1 ∧ c = cu ++ ca ++ [[12, 0, (base : Int), 0]])))
theorem BR.step {par : Nat → Int} {once : Bool} {vars d : Nat} {T : SL} {i base : Nat} {c0 c1 : List (List Int)} {cl : Bool} {L : List Nat} (h0 : BR par once vars (d + 1) T i base c0) (h1 : StR par once vars d (T.nd i) (T.sub i false) (T.sub i true) (base + c0.length) cl c1) (hL : ∀ x ∈ L, vars ≤ x) (hL2 : L.length ≤ 17) (hc : cl = true → L = []) : BR par once vars (d + 1) T (i + 1) base (c0 ++ (c1 ++ clr L)) := by
  rw [← List.append_assoc]
  rcases h1 with ⟨_, h1⟩ | ⟨hcl, h1⟩
  · exact BR.plain h0 h1 hL hL2
  · rw [hc hcl, show clr [] = [] from rfl, List.append_nil]
    rcases h1 with ⟨hk, hb, tgt, cu, ca, hu, ha, ht, rfl⟩ | ⟨hk, hb, tgt, cu, ca, cb, hu, ha, ht, hbb, rfl⟩ | ⟨hk, tgt, cu, ca, hu, ha, ht, rfl⟩
    · rw [← List.append_assoc]; exact BR.one h0 hk hb hu ha ht
    · rw [← List.append_assoc, ← List.append_assoc, ← List.append_assoc]; exact BR.both h0 hk hb hu ha ht hbb
    · rw [← List.append_assoc, ← List.append_assoc]; exact BR.loop h0 hk hu ha ht
def LayR (par : Nat → Int) (once : Bool) (vars d : Nat) (T : SL) (code : List (List Int)) : Prop :=
  ∃ c, BR par once vars d T T.len 0 c ∧ code = c ++ [[1, (vars : Int), 0, 0]] ++ [[8, (vars : Int), 0, 0]]
theorem LayR.right {nf : Nat} {par : Nat → Int} {once : Bool} {vars d : Nat} {T : SL} {code : List (List Int)} {R : Nat} (h : LayR par once vars d T code) (he : errs (stErr nf par vars) d T = 0) (hp : ∀ i, i < nf → 0 ≤ par i) (hu : und R code) :
    bodyCErr nf par ⟨0, R, code.length, fun k => insOf (code.getD k [])⟩ = 0 ∧ 2 ≤ code.length ∧ code.length ≤ perStmt once * size d T + 2 ∧ vars + 1 ≤ R := by
  obtain ⟨c, hb, rfl⟩ := h
  rw [und_app, und_app] at hu
  obtain ⟨⟨u1, u2⟩, u3⟩ := hu
  have hv : vars + 1 ≤ R := by
    have := u2 _ (List.mem_singleton.2 rfl)
    have : 0 ≤ (vars : Int) ∧ (vars : Int) < R := this
    omega
  obtain ⟨m, hm1, hm0, hc⟩ := hb.count (nf := nf) (Nat.le_refl _) he
  have em : m = size d T := by
    cases d with
    | zero => exact hm0 rfl
    | succ d => exact hm1 d rfl
  subst em
  have hlen : (c ++ [[1, (vars : Int), 0, 0]] ++ [[8, (vars : Int), 0, 0]]).length = c.length + 2 := by simp
  have hg : goods nf par R (c.length + 2) (c ++ [[1, (vars : Int), 0, 0]] ++ [[8, (vars : Int), 0, 0]]) :=
    goods_app (goods_app (hb.right hp (by omega) (Nat.le_refl _) he u1 (by omega)) (goods_one (good_num (a := vars) (b := 0) ⟨by omega, by omega⟩ ⟨by omega, by omega⟩))) (goods_one (good_one (o := 8) (a := vars) (Or.inl rfl) ⟨by omega, by omega⟩))
  refine ⟨body_right (fun k hk => ?_) ?_, by rw [hlen]; omega, by rw [hlen]; omega, hv⟩
  · show good nf par R (c ++ [[1, (vars : Int), 0, 0]] ++ [[8, (vars : Int), 0, 0]]).length (insOf ((c ++ [[1, (vars : Int), 0, 0]] ++ [[8, (vars : Int), 0, 0]]).getD k []))
    rw [hlen]
    have hk' : k < (c ++ [[1, (vars : Int), 0, 0]] ++ [[8, (vars : Int), 0, 0]]).length := hk
    refine hg _ ?_
    rw [List.getD_eq_getElem?_getD, List.getElem?_eq_getElem hk']
    exact List.getElem_mem hk'
  · show (insOf ((c ++ [[1, (vars : Int), 0, 0]] ++ [[8, (vars : Int), 0, 0]]).getD ((c ++ [[1, (vars : Int), 0, 0]] ++ [[8, (vars : Int), 0, 0]]).length - 1) [])).op = 8
    rw [hlen, List.getD_eq_getElem?_getD, List.getElem?_append_right (by simp)]
    simp [insOf]
end Go.Proofs.YtbmenihakkogkabGreatDoor
