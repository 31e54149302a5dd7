/- Expressions, statements and their lists: what is written is read. No Go in it. -/
import Derived.Test.YtbmenihakkogkabGreatDoorPart2
namespace Go.Proofs.YtbmenihakkogkabGreatDoor
open Go.RowKit

/-- m things from i on, one by one. -/
def catF {α : Type} (f : Nat → List α) : Nat → Nat → List α
  | _, 0 => []
  | i, m + 1 => f i ++ catF f (i + 1) m

theorem catF_snoc {α : Type} (f : Nat → List α) : ∀ (m i : Nat), catF f i (m + 1) = catF f i m ++ f (i + m)
  | 0, i => by simp [catF]
  | m + 1, i => by
    rw [catF, catF_snoc f m (i + 1), catF, List.append_assoc, show i + 1 + m = i + (m + 1) by omega]

theorem catTo_eq (f : Nat → List Wd) : ∀ n, catTo f n = catF f 0 n
  | 0 => rfl
  | n + 1 => by rw [catTo, catF_snoc, catTo_eq f n, Nat.zero_add]

theorem toksW_eq (k z : Nat → Int) : ∀ n, toksW k z n = catF (fun i => [tokW (k i) (z i)]) 0 n
  | 0 => rfl
  | n + 1 => by rw [toksW, catF_snoc, toksW_eq k z n, Nat.zero_add]

def pairs (k z : Nat → Int) (i m : Nat) : List (Int × Int) := catF (fun i => [(k i, z i)]) i m
theorem pairs_length (k z : Nat → Int) : ∀ (m i : Nat), (pairs k z i m).length = m
  | 0, _ => rfl
  | m + 1, i => by show (pairs k z (i + 1) m).length + 1 = m + 1; rw [pairs_length k z m]
theorem pairs_at (k z : Nat → Int) : ∀ (m i j : Nat), j < m → (pairs k z i m).getD j (0, 0) = (k (i + j), z (i + j))
  | 0, _, _, h => absurd h (Nat.not_lt_zero _)
  | m + 1, i, 0, _ => rfl
  | m + 1, i, j + 1, h => by
    show (pairs k z (i + 1) m).getD j (0, 0) = _
    rw [pairs_at k z m (i + 1) j (by omega), show i + 1 + j = i + (j + 1) by omega]

theorem asksR_eq {k z : Int} {nf : Nat} {locals : Int} {par : Nat → Int} (h : tokErr k z nf locals = 0) : asksR nf par (k, z) = asksOf k z par := by
  unfold asksR asksOf
  by_cases a3 : k = 3
  · rw [if_neg (by simp; omega), if_pos (by simp; omega), if_pos a3]
  by_cases a4 : k = 4
  · rw [if_pos (by simp; omega), if_neg a3, if_pos a4]
  by_cases a6 : k = 6
  · have := tokErr_call h a6
    rw [if_neg (by simp; omega), if_neg (by simp; omega), if_pos ⟨a6, this.1, by simp; omega⟩, if_neg a3, if_neg a4, if_pos a6]
  · rw [if_neg (by simp; omega), if_neg (by simp; omega), if_neg (by simp; omega), if_neg a3, if_neg a4, if_neg a6]

theorem wrap_small {n : Int} (h0 : -1000000 ≤ n) (h1 : n ≤ 1000000) : wrap64 n = n := by unfold wrap64; omega

theorem exprR_zero (nf : Nat) (par : Nat → Int) (rest : List Wd) : exprR nf par 0 rest = ([], rest) := by
  cases rest with
  | nil => rfl
  | cons w ws => rw [exprR, if_neg (by omega)]

/-- Where nothing is wrong, each token is right, some expression is asked for ahead of it, and none behind the last. -/
theorem exprErr_zero {n : Nat} {k z : Nat → Int} {nf : Nat} {par : Nat → Int} {locals : Int} (h : exprErr n k z nf par locals = 0) :
    n ≤ 24 ∧ (∀ i, i < nf → parErr (par i) = 0) ∧ (∀ j, j < n → stepErr k z nf par locals j = 0) ∧ ¬ 0 < asked k z par n := by
  by_cases h1 : 24 < n
  · rw [exprErr_many h1] at h; cases h
  have h2 : firstErr nf (fun i => parErr (par i)) = 0 := by
    unfold exprErr at h
    rw [if_neg h1] at h
    by_cases c : firstErr nf (fun i => parErr (par i)) = 0
    · exact c
    · rw [if_neg c] at h; cases h
  have h2' := firstErr_is_zero h2
  have h3 : firstErr n (stepErr k z nf par locals) = 0 := by
    unfold exprErr at h
    rw [if_neg h1, if_pos h2] at h
    by_cases c : firstErr n (stepErr k z nf par locals) = 0
    · exact c
    · rw [if_neg c] at h; exact absurd h c
  have h3' := firstErr_is_zero h3
  refine ⟨by omega, h2', h3', fun c => ?_⟩
  rw [exprErr_end h1 h2' h3', if_pos c] at h
  cases h

theorem exprR_from {n : Nat} {k z : Nat → Int} {nf : Nat} {par : Nat → Int} {locals : Int} (hl : locals ≤ 6) (hnf : nf ≤ 1000) (h : exprErr n k z nf par locals = 0) (rest : List Wd) :
    ∀ (m i : Nat), i + m = n → exprR nf par (asked k z par i) (catF (fun i => [tokW (k i) (z i)]) i m ++ rest) = (pairs k z i m, rest) := by
  obtain ⟨h1, h2, h3, h4⟩ := exprErr_zero h
  intro m
  induction m with
  | zero =>
    intro i hi
    obtain rfl : i = n := by omega
    have := asked_range h2 i fun x hx => h3 x hx
    have e : asked k z par i = 0 := by omega
    rw [e]
    exact exprR_zero nf par rest
  | succ m ih =>
    intro i hi
    have s := h3 i (by omega)
    obtain ⟨t1, t2⟩ := stepErr_tok s
    have r1 := asked_range h2 i fun x hx => h3 x (by omega)
    have r2 := asked_range h2 (i + 1) fun x hx => h3 x (by omega)
    have r3 := asks_range t1 h2
    have ih := ih (i + 1) (by omega)
    have e1 := tokOf_tokW hl hnf t1
    have e2 : asked k z par (i + 1) = asked k z par i + (asksOf (k i) (z i) par - 1) := rfl
    show exprR nf par (asked k z par i) (tokW (k i) (z i) :: (catF (fun i => [tokW (k i) (z i)]) (i + 1) m ++ rest)) = _
    rw [exprR, if_pos (by omega), e1, asksR_eq t1, wrap_small (n := asked k z par i + asksOf (k i) (z i) par) (by omega) (by omega), wrap_small (by omega) (by omega),
      show asked k z par i + asksOf (k i) (z i) par - 1 = asked k z par (i + 1) by omega, ih]
    rfl

theorem exprR_text {n : Nat} {k z : Nat → Int} {nf : Nat} {par : Nat → Int} {locals : Int} (hl : locals ≤ 6) (hnf : nf ≤ 1000) (h : exprErr n k z nf par locals = 0) (rest : List Wd) :
    exprR nf par 1 (toksW k z n ++ rest) = (pairs k z 0 n, rest) := by
  rw [toksW_eq]
  exact exprR_from hl hnf h rest n 0 (by omega)

theorem eqV_pairs (n : Nat) (k z : Nat → Int) : eqV n (pairs k z 0 n).length k z (fun i => ((pairs k z 0 n).getD i (0, 0)).1) (fun i => ((pairs k z 0 n).getD i (0, 0)).2) = true := by
  rw [pairs_length]
  refine eqV_yes fun i hi => ?_
  rw [pairs_at k z n 0 i hi, Nat.zero_add]
  exact ⟨rfl, rfl⟩

theorem formErr_zero {s : Nd} {la lb : Nat} (h : formErr s la lb = 0) : 1 ≤ s.kind ∧ s.kind ≤ 8 ∧ (s.num = 0 ∨ s.kind = 1 ∨ s.kind = 2) ∧ (s.ne = 0 ∨ ¬ s.kind = 4) ∧ (s.nf = 0 ∨ s.kind = 2) ∧ (la = 0 ∨ s.kind = 6 ∨ s.kind = 7) ∧ (lb = 0 ∨ s.kind = 6) := by
  unfold formErr at h
  split at h
  · cases h
  · next hc => omega

theorem stErr_zero {nf : Nat} {par : Nat → Int} {locals : Int} {s : Nd} {la lb : Nat} (h : stErr nf par locals s la lb = 0) :
    formErr s la lb = 0 ∧ numErr s locals = 0 ∧ (s.kind = 4 ∨ exprErr s.ne s.ek s.ez nf par locals = 0) ∧ (¬ s.kind = 2 ∨ exprErr s.nf s.fk s.fz nf par locals = 0) := by
  unfold stErr at h
  by_cases h1 : formErr s la lb = 0
  · rw [if_pos h1] at h
    by_cases h2 : numErr s locals = 0
    · rw [if_pos h2] at h
      by_cases h3 : s.kind = 4
      · exact ⟨h1, h2, Or.inl h3, Or.inl (by omega)⟩
      · rw [if_neg h3] at h
        by_cases h4 : exprErr s.ne s.ek s.ez nf par locals = 0
        · rw [if_pos h4] at h
          by_cases h5 : s.kind = 2
          · rw [if_pos h5] at h; exact ⟨h1, h2, Or.inr h4, Or.inr h⟩
          · exact ⟨h1, h2, Or.inr h4, Or.inl h5⟩
        · rw [if_neg h4] at h; exact absurd h h4
    · rw [if_neg h2] at h; cases h
  · rw [if_neg h1] at h; cases h

theorem eqS_none : ∀ {d : Nat} {T : SL}, T.len = 0 → eqS d T noSL = true
  | 0, _, _ => rfl
  | d + 1, T, h => by
    rw [eqS_all (show T.len = noSL.len from h), h]; rfl

/-- One statement, read behind its first word. -/
theorem stR_text {nf : Nat} {par : Nat → Int} {locals : Int} (hl : locals ≤ 6) (hnf : nf ≤ 1000) (d : Nat) (s : Nd) (a b : SL) (h : stErr nf par locals s a.len b.len = 0) (B : List Wd → SL × List Wd) (rest : List Wd)
    (hA : s.kind = 6 ∨ s.kind = 7 → ∀ r, r = (if s.kind = 6 then blkW d b else []) ++ rest → (B (blkW d a ++ r)).2 = r ∧ eqS d a (B (blkW d a ++ r)).1 = true)
    (hB : s.kind = 6 → (B (blkW d b ++ rest)).2 = rest ∧ eqS d b (B (blkW d b ++ rest)).1 = true) :
    (st5 nf par B s.kind.toNat ((stmtW (blkW d) s a b).tail ++ rest)).2 = rest ∧ eqH s (stR nf par B s.kind.toNat ((stmtW (blkW d) s a b).tail ++ rest)).nd = true ∧
      eqS d a (stR nf par B s.kind.toNat ((stmtW (blkW d) s a b).tail ++ rest)).a = true ∧ eqS d b (stR nf par B s.kind.toNat ((stmtW (blkW d) s a b).tail ++ rest)).b = true := by
  obtain ⟨f0, f1, f2, f3⟩ := stErr_zero h
  obtain ⟨k1, k2, kn, ke, kf, ka, kb⟩ := formErr_zero f0
  have hkk : ((s.kind.toNat : Nat) : Int) = s.kind := by omega
  have hw : (stmtW (blkW d) s a b).tail ++ rest = (if s.kind = 1 ∨ s.kind = 2 then [numW s.num] else []) ++ (toksW s.ek s.ez s.ne ++ (toksW s.fk s.fz s.nf ++ ((if s.kind = 6 ∨ s.kind = 7 then blkW d a else []) ++ ((if s.kind = 6 then blkW d b else []) ++ rest)))) := by
    simp [stmtW, List.append_assoc]
  rw [hw]
  generalize hR5 : (if s.kind = 6 then blkW d b else []) ++ rest = R5
  generalize hR4 : (if s.kind = 6 ∨ s.kind = 7 then blkW d a else []) ++ R5 = R4
  generalize hR3 : toksW s.fk s.fz s.nf ++ R4 = R3
  generalize hR2 : toksW s.ek s.ez s.ne ++ R3 = R2
  have hN : hasN s.kind.toNat = decide (s.kind = 1 ∨ s.kind = 2) := by
    unfold hasN
    by_cases c1 : s.kind = 1
    · rw [c1]; rfl
    · by_cases c2 : s.kind = 2
      · rw [c2]; rfl
      · simp [c1, c2]; omega
  have hAA : hasA s.kind.toNat = decide (s.kind = 6 ∨ s.kind = 7) := by
    unfold hasA
    by_cases c1 : s.kind = 6
    · rw [c1]; rfl
    · by_cases c2 : s.kind = 7
      · rw [c2]; rfl
      · simp [c1, c2]; omega
  have e1 : st1 s.kind.toNat ((if s.kind = 1 ∨ s.kind = 2 then [numW s.num] else []) ++ R2) = R2 := by
    unfold st1
    rw [hN]
    by_cases c : s.kind = 1 ∨ s.kind = 2
    · rw [if_pos c, if_pos (by simpa using c)]; rfl
    · rw [if_neg c, if_neg (by simpa using c)]; rfl
  have en : (if hasN s.kind.toNat then numR ((if s.kind = 1 ∨ s.kind = 2 then [numW s.num] else []) ++ R2) else 0) = s.num := by
    rw [hN]
    by_cases c : s.kind = 1 ∨ s.kind = 2
    · rw [if_pos c, if_pos (by simpa using c)]
      show atoiV (Lib.itoa s.num) = s.num
      unfold numErr at f1
      have hz : -9223372036854775808 ≤ s.num ∧ s.num ≤ 9223372036854775807 := by
        split at f1
        · cases f1
        · omega
      exact atoiV_itoa hz.1 hz.2
    · rw [if_neg (by simpa using c)]; omega
  generalize (if s.kind = 1 ∨ s.kind = 2 then [numW s.num] else []) ++ R2 = W at *
  have e2 : st2 nf par s.kind.toNat W = (pairs s.ek s.ez 0 s.ne, R3) := by
    unfold st2
    rw [e1]
    by_cases c : s.kind = 4
    · have hz : s.ne = 0 := by omega
      rw [if_pos (by omega), ← hR2, hz]; rfl
    · rw [if_neg (by omega), ← hR2]
      exact exprR_text hl hnf (f2.resolve_left c) R3
  have e3 : st3 nf par s.kind.toNat W = (pairs s.fk s.fz 0 s.nf, R4) := by
    unfold st3
    rw [e2]
    by_cases c : s.kind = 2
    · rw [if_pos (by omega), ← hR3]
      exact exprR_text hl hnf (f3.resolve_left fun x => x c) R4
    · have hz : s.nf = 0 := by omega
      rw [if_neg (by omega), ← hR3, hz]; rfl
  have e4 : (st4 nf par B s.kind.toNat W).2 = R5 ∧ eqS d a (st4 nf par B s.kind.toNat W).1 = true := by
    unfold st4
    rw [e3, hAA]
    by_cases c : s.kind = 6 ∨ s.kind = 7
    · rw [if_pos (by simpa using c), ← hR4, if_pos c]
      exact hA c R5 hR5.symm
    · rw [if_neg (by simpa using c), ← hR4, if_neg c]
      exact ⟨rfl, eqS_none (by omega)⟩
  have e5 : (st5 nf par B s.kind.toNat W).2 = rest ∧ eqS d b (st5 nf par B s.kind.toNat W).1 = true := by
    unfold st5
    rw [e4.1]
    by_cases c : s.kind = 6
    · rw [if_pos (by omega), ← hR5, if_pos c]
      exact hB c
    · rw [if_neg (by omega), ← hR5, if_neg c]
      exact ⟨rfl, eqS_none (by omega)⟩
  refine ⟨e5.1, ?_, e4.2, e5.2⟩
  unfold eqH stR
  simp only [mkNd]
  rw [en, e2, e3, eqV_pairs, eqV_pairs]
  simp [hkk]

theorem errs_item {E : Nd → Nat → Nat → Int} {d : Nat} {T : SL} (h : errs E (d + 1) T = 0) {i : Nat} (hi : i < T.len) :
    E (T.nd i) (T.sub i false).len (T.sub i true).len = 0 ∧ errs E d (T.sub i false) = 0 ∧ errs E d (T.sub i true) = 0 := by
  have h1 := firstErr_is_zero h i hi
  split at h1
  · next h2 =>
    split at h1
    · next h3 => exact ⟨h2, h3, h1⟩
    · next h3 => exact absurd h1 h3
  · next h2 => exact absurd h1 h2

theorem stmtW_head (B : SL → List Wd) (s : Nd) (a b : SL) (rest : List Wd) : stmtW B s a b ++ rest = bs (stL s.kind.toNat) :: ((stmtW B s a b).tail ++ rest) := by
  simp [stmtW]

theorem tail_length {ws : List Wd} {n : Nat} (h : ws.length ≤ n) : ws.tail.length ≤ n := by
  rw [List.length_tail]; omega

/-- Statements, up to the brace behind them. -/
theorem loopR_text {nf : Nat} {par : Nat → Int} {locals : Int} (hl : locals ≤ 6) (hnf : nf ≤ 1000) : ∀ (d : Nat) (T : SL), errs (stErr nf par locals) d T = 0 → ∀ (u : Nat) (rest : List Wd), (blkW d T ++ rest).length ≤ u + 1 →
    (blkR nf par u (blkW d T ++ rest)).2 = rest ∧ eqS d T (blkR nf par u (blkW d T ++ rest)).1 = true
  | 0, T, _, u, rest, hu => by
    cases u with
    | zero => simp [blkW] at hu
    | succ u =>
      have e : loopR nf par (u + 1) (cbW :: rest) = ([], rest) := by
        rw [loopR, if_pos (show kindOf (hdW (cbW :: rest)) = 0 from kindOf_cb)]; rfl
      show (loopR nf par (u + 1) (cbW :: rest)).2 = rest ∧ _
      rw [e]; exact ⟨rfl, rfl⟩
  | d + 1, T, he, u, rest, hu => by
    have key : ∀ (m i u : Nat), i + m = T.len → (catF (fun i => stmtW (blkW d) (T.nd i) (T.sub i false) (T.sub i true)) i m ++ cbW :: rest).length ≤ u →
        ∃ its, loopR nf par u (catF (fun i => stmtW (blkW d) (T.nd i) (T.sub i false) (T.sub i true)) i m ++ cbW :: rest) = (its, rest) ∧ its.length = m ∧
          ∀ j, j < m → eqH (T.nd (i + j)) (its.getD j noIt).nd = true ∧ eqS d (T.sub (i + j) false) (its.getD j noIt).a = true ∧ eqS d (T.sub (i + j) true) (its.getD j noIt).b = true := by
      intro m
      induction m with
      | zero =>
        intro i u _ hu
        cases u with
        | zero => simp [catF] at hu
        | succ u =>
          refine ⟨[], ?_, rfl, fun j hj => absurd hj (Nat.not_lt_zero _)⟩
          show loopR nf par (u + 1) (cbW :: rest) = ([], rest)
          rw [loopR, if_pos (show kindOf (hdW (cbW :: rest)) = 0 from kindOf_cb)]; rfl
      | succ m ih =>
        intro i u hi hu
        obtain ⟨s0, s1, s2⟩ := errs_item he (i := i) (by omega)
        obtain ⟨k1, k2, _⟩ := formErr_zero (stErr_zero s0).1
        rw [catF, List.append_assoc, stmtW_head] at hu ⊢
        generalize hR : catF (fun i => stmtW (blkW d) (T.nd i) (T.sub i false) (T.sub i true)) (i + 1) m ++ cbW :: rest = R at *
        cases u with
        | zero => simp at hu
        | succ u =>
          have hk : kindOf (hdW (bs (stL (T.nd i).kind.toNat) :: ((stmtW (blkW d) (T.nd i) (T.sub i false) (T.sub i true)).tail ++ R))) = (T.nd i).kind.toNat := kindOf_st _ (by omega) (by omega)
          have hlen : ((stmtW (blkW d) (T.nd i) (T.sub i false) (T.sub i true)).tail ++ R).length ≤ u := by simpa using hu
          have hw : (stmtW (blkW d) (T.nd i) (T.sub i false) (T.sub i true)).tail ++ R = (if (T.nd i).kind = 1 ∨ (T.nd i).kind = 2 then [numW (T.nd i).num] else []) ++ (toksW (T.nd i).ek (T.nd i).ez (T.nd i).ne ++ (toksW (T.nd i).fk (T.nd i).fz (T.nd i).nf ++ ((if (T.nd i).kind = 6 ∨ (T.nd i).kind = 7 then blkW d (T.sub i false) else []) ++ ((if (T.nd i).kind = 6 then blkW d (T.sub i true) else []) ++ R)))) := by
            simp [stmtW, List.append_assoc]
          have hRl : R.length ≤ u := by rw [List.length_append] at hlen; omega
          have hAl : (T.nd i).kind = 6 ∨ (T.nd i).kind = 7 → (blkW d (T.sub i false) ++ ((if (T.nd i).kind = 6 then blkW d (T.sub i true) else []) ++ R)).length ≤ u := by
            intro c
            rw [hw, if_pos c] at hlen
            simp only [List.length_append] at hlen ⊢
            omega
          have hBl : (T.nd i).kind = 6 → (blkW d (T.sub i true) ++ R).length ≤ u := by
            intro c
            have := hAl (Or.inl c)
            rw [if_pos c] at this
            simp only [List.length_append] at this ⊢
            omega
          obtain ⟨r1, r2, r3, r4⟩ := stR_text hl hnf d (T.nd i) (T.sub i false) (T.sub i true) s0 (blkR nf par u) R
            (fun c r er => by subst er; exact loopR_text hl hnf d _ s1 u _ (Nat.le_succ_of_le (hAl c))) (fun c => loopR_text hl hnf d _ s2 u _ (Nat.le_succ_of_le (hBl c)))
          obtain ⟨its, i1, i2, i3⟩ := ih (i + 1) u (by omega) (by rw [hR]; exact hRl)
          rw [hR] at i1
          refine ⟨stR nf par (blkR nf par u) (T.nd i).kind.toNat ((stmtW (blkW d) (T.nd i) (T.sub i false) (T.sub i true)).tail ++ R) :: its, ?_, by simp [i2], fun j hj => ?_⟩
          · rw [loopR, hk, if_neg (by omega)]
            show (stR nf par (blkR nf par u) _ ((stmtW (blkW d) (T.nd i) (T.sub i false) (T.sub i true)).tail ++ R) :: (loopR nf par u (st5 nf par (blkR nf par u) _ ((stmtW (blkW d) (T.nd i) (T.sub i false) (T.sub i true)).tail ++ R)).2).1, (loopR nf par u (st5 nf par (blkR nf par u) _ ((stmtW (blkW d) (T.nd i) (T.sub i false) (T.sub i true)).tail ++ R)).2).2) = _
            rw [r1, i1]
          · cases j with
            | zero => exact ⟨r2, r3, r4⟩
            | succ j =>
              have := i3 j (by omega)
              rw [show i + 1 + j = i + (j + 1) by omega] at this
              exact this
    have e0 : blkW (d + 1) T ++ rest = obW :: (catF (fun i => stmtW (blkW d) (T.nd i) (T.sub i false) (T.sub i true)) 0 T.len ++ cbW :: rest) := by
      rw [blkW, catTo_eq]; simp
    rw [e0] at hu ⊢
    obtain ⟨its, i1, i2, i3⟩ := key T.len 0 u (by omega) (by simpa using hu)
    show (loopR nf par u (catF (fun i => stmtW (blkW d) (T.nd i) (T.sub i false) (T.sub i true)) 0 T.len ++ cbW :: rest)).2 = rest ∧ eqS (d + 1) T (mkT (loopR nf par u (catF (fun i => stmtW (blkW d) (T.nd i) (T.sub i false) (T.sub i true)) 0 T.len ++ cbW :: rest)).1) = true
    rw [i1]
    refine ⟨rfl, ?_⟩
    rw [eqS_all (by rw [mkT_len, i2])]
    refine allTo_iff.2 fun j hj => ?_
    obtain ⟨a1, a2, a3⟩ := i3 j hj
    rw [Nat.zero_add] at a1 a2 a3
    unfold eqI
    rw [mkT_nd, mkT_a, mkT_b, a1, a2, a3]
    rfl

end Go.Proofs.YtbmenihakkogkabGreatDoor
