/- How the reckoning reads words as a program, word by word: the plain reckoning. No Go in it. -/
import Derived.Test.YtfblnmbcaglliabGreatDoorPartWords
import Derived.Test.YtfblnmbcaglliabGreatDoorPartHeads
import Derived.Test.YtfblnmbcaglliabGreatDoorTokWord
import Derived.Test.YtfblnmbcaglliabGreatDoorSrcBase
import Derived.Test.YtfblnmbcaglliabGreatDoorRdStmt
namespace Go.Proofs.YtfblnmbcaglliabGreatDoor
open Go.RowKit

/-- Where a reader stands: the words ahead, and whether all went well. -/
abbrev Rs := List Wd × Bool
def wordQ (q : Rs) : Rs := (q.1.tail, q.2 && !q.1.isEmpty)

/-- The number behind the mark of a kind, if the word is written so. -/
def hitQ (w : Wd) (k : Nat) : Option Int := match Lib.atoiAll (Lib.trimPrefix w.data.toList (mkL k)) with
  | .ok n => if bs (mkL k ++ Lib.itoa n) = w then some n else none
  | _ => none

/-- The kinds that have a number. -/
def numKinds : List Nat := [1, 2, 4, 5, 6]

def hitsQ (w : Wd) : Int × Int := match numKinds.find? fun k => (hitQ w k).isSome with
  | some k => ((k : Int), (hitQ w k).getD 0)
  | none => (0, 0)

/-- The operations up to n are tried. -/
def opTo (w : Wd) : Nat → Int × Int → Int × Int
  | 0, t => t
  | n + 1, t => if bs (opL (n + 1)) = w then (3, ((n + 1 : Nat) : Int)) else opTo w n t

/-- The token of a word, by the reckoning. -/
def tokQ (w : Wd) : Int × Int := opTo w 5 (hitsQ w)

/-- Tokens, where so many are read and so many asked for. -/
def exprQ (nf : Nat) (par : Nat → Int) : List Wd → Nat → Int → List (Int × Int) × Rs
  | [], _, q => if 0 < q then ([tokQ (bs [])], ([], false)) else ([], ([], true))
  | w :: ws, n, q => if 0 < q then
      (if tokErr (tokQ w).1 (tokQ w).2 nf 6 = 0 ∧ n < 24 then
        (tokQ w :: (exprQ nf par ws (n + 1) (q + asksOf (tokQ w).1 (tokQ w).2 par - 1)).1, (exprQ nf par ws (n + 1) (q + asksOf (tokQ w).1 (tokQ w).2 par - 1)).2)
      else ([tokQ w], (ws, false)))
    else ([], (w :: ws, true))

def exprS (nf : Nat) (par : Nat → Int) (q : Rs) : List (Int × Int) × Rs := if q.2 then exprQ nf par q.1 0 1 else ([], q)

def q1 (k : Nat) (q : Rs) : Rs := if hasN k then wordQ q else q
def q2 (nf : Nat) (par : Nat → Int) (k : Nat) (q : Rs) : List (Int × Int) × Rs := if k = 4 then ([], q1 k q) else exprS nf par (q1 k q)
def q3 (nf : Nat) (par : Nat → Int) (k : Nat) (q : Rs) : List (Int × Int) × Rs := if k = 2 then exprS nf par (q2 nf par k q).2 else ([], (q2 nf par k q).2)
def q4 (nf : Nat) (par : Nat → Int) (B : Rs → SL × Rs) (k : Nat) (q : Rs) : SL × Rs := if hasA k then B (q3 nf par k q).2 else (noSL, (q3 nf par k q).2)
def q5 (nf : Nat) (par : Nat → Int) (B : Rs → SL × Rs) (k : Nat) (q : Rs) : SL × Rs := if k = 6 then B (q4 nf par B k q).2 else (noSL, (q4 nf par B k q).2)
def itQ (nf : Nat) (par : Nat → Int) (B : Rs → SL × Rs) (k : Nat) (q : Rs) : It :=
  ⟨mkNd k (if hasN k then numR q.1 else 0) (q2 nf par k q).1 (q3 nf par k q).1, (q4 nf par B k q).1, (q5 nf par B k q).1⟩

/-- Statements, up to the brace behind them, or to where it goes wrong. -/
def loopQ (nf : Nat) (par : Nat → Int) (B : Rs → SL × Rs) : Nat → Rs → List It × Rs
  | 0, q => ([], (q.1, false))
  | u + 1, q => if q.2 = false then ([], q) else if hdW q.1 = cbW then ([], (q.1.tail, true)) else if kindOf (hdW q.1) = 0 then ([], (q.1.tail, false)) else
      (itQ nf par B (kindOf (hdW q.1)) (q.1.tail, true) :: (loopQ nf par B u (q5 nf par B (kindOf (hdW q.1)) (q.1.tail, true)).2).1, (loopQ nf par B u (q5 nf par B (kindOf (hdW q.1)) (q.1.tail, true)).2).2)

def openQ (q : Rs) : Rs := (q.1.tail, q.2 && (!q.1.isEmpty && decide (hdW q.1 = obW)))

/-- Statements between braces, where so many levels are left. -/
def blkQ (nf : Nat) (par : Nat → Int) : Nat → Rs → SL × Rs
  | 0, q => (noSL, (q.1.tail, false))
  | u + 1, q => (if (loopQ nf par (blkQ nf par u) ((openQ q).1.length + 1) (openQ q)).2.2 then mkT (loopQ nf par (blkQ nf par u) ((openQ q).1.length + 1) (openQ q)).1 else noSL, (loopQ nf par (blkQ nf par u) ((openQ q).1.length + 1) (openQ q)).2)

/-- The heads. -/
def headsQ : List Wd → List (Int × Int)
  | [] => []
  | w :: ws => if w = funW ∧ 2 ≤ ws.length then (numR ws, numR ws.tail) :: headsQ ws else headsQ ws

def startQ (q : Rs) : Rs := wordQ (wordQ (q.1.tail, q.2 && (!q.1.isEmpty && decide (hdW q.1 = funW))))
def leftQ (nf : Nat) (par : Nat → Int) (ws : List Wd) : Nat → Rs
  | 0 => (ws, true)
  | j + 1 => (blkQ nf par 6 (startQ (leftQ nf par ws j))).2
def bodyQ (nf : Nat) (par : Nat → Int) (ws : List Wd) (j : Nat) : SL := (blkQ nf par 6 (startQ (leftQ nf par ws j))).1

def rqN (ws : List Wd) : Nat := (headsQ ws).length
def rqP (ws : List Wd) (i : Nat) : Int := ((headsQ ws).getD i (0, 0)).1
def rqL (ws : List Wd) (i : Nat) : Int := ((headsQ ws).getD i (0, 0)).2
def rqB (ws : List Wd) (i : Nat) : SL := bodyQ (rqN ws) (rqP ws) ws i
def rqLeft (ws : List Wd) : Rs := leftQ (rqN ws) (rqP ws) ws (rqN ws)

/-! ### No more words than there were -/

theorem exprQ_len (nf : Nat) (par : Nat → Int) : ∀ (ws : List Wd) (n : Nat) (q : Int), (exprQ nf par ws n q).2.1.length ≤ ws.length
  | [], n, q => by unfold exprQ; split <;> simp
  | w :: ws, n, q => by
    unfold exprQ
    split
    · split
      · have := exprQ_len nf par ws (n + 1) (q + asksOf (tokQ w).1 (tokQ w).2 par - 1)
        simp only [List.length_cons]; omega
      · simp
    · simp

theorem exprS_len (nf : Nat) (par : Nat → Int) (q : Rs) : (exprS nf par q).2.1.length ≤ q.1.length := by
  unfold exprS
  split
  · exact exprQ_len nf par _ _ _
  · exact Nat.le_refl _

theorem wordQ_len (q : Rs) : (wordQ q).1.length ≤ q.1.length := by unfold wordQ; simp
theorem q1_len (k : Nat) (q : Rs) : (q1 k q).1.length ≤ q.1.length := by
  unfold q1; split
  · exact wordQ_len q
  · exact Nat.le_refl _
theorem q2_len (nf : Nat) (par : Nat → Int) (k : Nat) (q : Rs) : (q2 nf par k q).2.1.length ≤ q.1.length := by
  unfold q2; split
  · exact q1_len k q
  · exact Nat.le_trans (exprS_len _ _ _) (q1_len k q)
theorem q3_len (nf : Nat) (par : Nat → Int) (k : Nat) (q : Rs) : (q3 nf par k q).2.1.length ≤ q.1.length := by
  unfold q3; split
  · exact Nat.le_trans (exprS_len _ _ _) (q2_len nf par k q)
  · exact q2_len nf par k q
theorem q4_len (nf : Nat) (par : Nat → Int) {B : Rs → SL × Rs} (hB : ∀ q, (B q).2.1.length ≤ q.1.length) (k : Nat) (q : Rs) : (q4 nf par B k q).2.1.length ≤ q.1.length := by
  unfold q4; split
  · exact Nat.le_trans (hB _) (q3_len nf par k q)
  · exact q3_len nf par k q
theorem q5_len (nf : Nat) (par : Nat → Int) {B : Rs → SL × Rs} (hB : ∀ q, (B q).2.1.length ≤ q.1.length) (k : Nat) (q : Rs) : (q5 nf par B k q).2.1.length ≤ q.1.length := by
  unfold q5; split
  · exact Nat.le_trans (hB _) (q4_len nf par hB k q)
  · exact q4_len nf par hB k q
theorem loopQ_len (nf : Nat) (par : Nat → Int) {B : Rs → SL × Rs} (hB : ∀ q, (B q).2.1.length ≤ q.1.length) : ∀ (u : Nat) (q : Rs), (loopQ nf par B u q).2.1.length ≤ q.1.length
  | 0, q => Nat.le_refl _
  | u + 1, q => by
    unfold loopQ
    split
    · exact Nat.le_refl _
    split
    · simp
    split
    · simp
    · have h1 := loopQ_len nf par hB u (q5 nf par B (kindOf (hdW q.1)) (q.1.tail, true)).2
      have h2 := q5_len nf par hB (kindOf (hdW q.1)) (q.1.tail, true)
      have h3 : q.1.tail.length ≤ q.1.length := by simp
      exact Nat.le_trans h1 (Nat.le_trans h2 h3)
theorem openQ_len (q : Rs) : (openQ q).1.length ≤ q.1.length := by unfold openQ; simp
theorem blkQ_len (nf : Nat) (par : Nat → Int) : ∀ (u : Nat) (q : Rs), (blkQ nf par u q).2.1.length ≤ q.1.length
  | 0, q => by unfold blkQ; simp
  | u + 1, q => by
    unfold blkQ
    exact Nat.le_trans (loopQ_len nf par (blkQ_len nf par u) _ _) (openQ_len q)

/-! ### Tokens -/

/-- The first sign of a word with a mark. -/
theorem hit_head {w : Wd} {k : Nat} {n : Int} (h : hitQ w k = some n) : w = bs (mkL k ++ Lib.itoa n) := by
  unfold hitQ at h
  split at h
  · split at h
    · next e => injection h with h; subst h; exact e.symm
    · cases h
  · cases h

theorem mark_first {k : Nat} (hk : k ∈ numKinds) (n : Int) : ∃ c r, mkL k ++ Lib.itoa n = c :: r ∧
    ((k = 1 ∧ (c.toNat = 45 ∧ r ≠ [] ∨ 48 ≤ c.toNat ∧ c.toNat ≤ 57)) ∨ (k = 2 ∧ c.toNat = 118) ∨ (k = 4 ∧ c.toNat = 46) ∨ (k = 5 ∧ c.toNat = 110) ∨ (k = 6 ∧ c.toNat = 102)) := by
  simp only [numKinds, List.mem_cons, List.not_mem_nil, or_false] at hk
  rcases hk with rfl | rfl | rfl | rfl | rfl
  · obtain ⟨c, r, e, hc, _⟩ := itoa_bytes n
    exact ⟨c, r, e, Or.inl ⟨rfl, hc⟩⟩
  · exact ⟨_, _, rfl, by simp⟩
  · exact ⟨_, _, rfl, by simp⟩
  · exact ⟨_, _, rfl, by simp⟩
  · exact ⟨_, _, rfl, by simp⟩

theorem hit_one {w : Wd} {k k' : Nat} {n n' : Int} (hk : k ∈ numKinds) (hk' : k' ∈ numKinds) (h : hitQ w k = some n) (h' : hitQ w k' = some n') : k = k' ∧ n = n' := by
  have e := hit_head h
  have e' := hit_head h'
  rw [e] at e'
  have e' := bs_inj e'
  obtain ⟨c, r, a, hc⟩ := mark_first hk n
  obtain ⟨c', r', a', hc'⟩ := mark_first hk' n'
  rw [a, a'] at e'
  injection e' with e1 e2
  subst e1
  have : k = k' := by omega
  subst this
  rw [h] at h'
  injection h' with h'
  exact ⟨rfl, h'⟩

/-- What is found, whichever is tried first. -/
theorem hits_some {w : Wd} {k : Nat} {n : Int} (hk : k ∈ numKinds) (h : hitQ w k = some n) : hitsQ w = ((k : Int), n) := by
  unfold hitsQ
  cases hf : numKinds.find? fun k => (hitQ w k).isSome with
  | none =>
    have := List.find?_eq_none.1 hf k hk
    rw [h] at this; simp at this
  | some k' =>
    have h1 := List.find?_some hf
    have h2 := List.mem_of_find?_eq_some hf
    obtain ⟨n', h3⟩ := Option.isSome_iff_exists.1 h1
    obtain ⟨rfl, rfl⟩ := hit_one hk h2 h h3
    simp only [h, Option.getD_some]
theorem hits_none {w : Wd} (h : ∀ k ∈ numKinds, hitQ w k = none) : hitsQ w = (0, 0) := by
  unfold hitsQ
  have : (numKinds.find? fun k => (hitQ w k).isSome) = none := by
    rw [List.find?_eq_none]
    intro k hk
    rw [h k hk]; simp
  rw [this]

theorem opTo_none {w : Wd} (h : opOf w = none) (t : Int × Int) : ∀ n, n ≤ 5 → opTo w n t = t
  | 0, _ => rfl
  | n + 1, hn => by
    unfold opTo
    rw [if_neg, opTo_none h t n (by omega)]
    intro e
    unfold opOf at h
    have := List.find?_eq_none.1 h (n + 1) (List.mem_range.2 (by omega))
    rw [decide_eq_true_iff] at this
    exact this e

theorem trim_mark (k : Nat) (l : List UInt8) : Lib.trimPrefix (mkL k ++ l) (mkL k) = l := by
  unfold Lib.trimPrefix
  rw [if_pos]
  · rw [List.drop_left]
  · unfold Lib.hasPrefix
    simp

theorem tokErr_kinds {k z : Int} {nf : Nat} {locals : Int} (h : tokErr k z nf locals = 0) : k = 1 ∨ k = 2 ∨ k = 3 ∨ k = 4 ∨ k = 5 ∨ k = 6 := by
  unfold tokErr at h
  by_cases a1 : k = 1
  · omega
  by_cases a2 : k = 2
  · omega
  by_cases a3 : k = 3
  · omega
  by_cases a4 : k = 4
  · omega
  by_cases a5 : k = 5
  · omega
  by_cases a6 : k = 6
  · omega
  rw [if_neg a1, if_neg a2, if_neg a3, if_neg a4, if_neg a5, if_neg a6] at h
  cases h

theorem tokQ_num {k : Nat} (hk : k ∈ numKinds) {z : Int} (h0 : -9223372036854775808 ≤ z) (h1 : z ≤ 9223372036854775807) : tokQ (bs (mkL k ++ Lib.itoa z)) = ((k : Int), z) := by
  have hh : hitQ (bs (mkL k ++ Lib.itoa z)) k = some z := by
    unfold hitQ
    rw [bs_data, trim_mark, atoi_itoa z h0 h1]
    simp
  obtain ⟨c, r, a, hc⟩ := mark_first hk z
  have ho : opOf (bs (mkL k ++ Lib.itoa z)) = none := by
    rw [a]
    refine opOf_none rfl ?_
    rcases hc with ⟨_, h | h⟩ | ⟨_, h⟩ | ⟨_, h⟩ | ⟨_, h⟩ | ⟨_, h⟩
    · exact Or.inl h
    · exact Or.inr (Or.inl h)
    · exact Or.inr (Or.inr (Or.inl h))
    · exact Or.inr (Or.inr (Or.inr (Or.inl h)))
    · exact Or.inr (Or.inr (Or.inr (Or.inr (Or.inl h))))
    · exact Or.inr (Or.inr (Or.inr (Or.inr (Or.inr h))))
  unfold tokQ
  rw [opTo_none ho _ 5 (Nat.le_refl _), hits_some hk hh]

theorem tokQ_tokW {k z : Int} {nf : Nat} {locals : Int} (hl : locals ≤ 6) (hn : nf ≤ 1000) (h : tokErr k z nf locals = 0) : tokQ (tokW k z) = (k, z) := by
  have hz : -9223372036854775808 ≤ z ∧ z ≤ 9223372036854775807 := by
    unfold tokErr at h
    repeat' split at h
    all_goals first | omega | cases h
  have hk := tokErr_kinds h
  unfold tokW
  by_cases h3 : k = 3
  · subst h3
    have hz5 : z = 1 ∨ z = 2 ∨ z = 3 ∨ z = 4 ∨ z = 5 := by
      unfold tokErr at h
      rw [if_neg (by decide), if_neg (by decide), if_pos rfl] at h
      split at h
      · cases h
      · omega
    rw [if_pos rfl]
    rcases hz5 with rfl | rfl | rfl | rfl | rfl <;> (unfold tokQ; simp [opTo, opL, bs])
  · rw [if_neg h3]
    have hm : k.toNat ∈ numKinds := by
      simp only [numKinds, List.mem_cons, List.not_mem_nil, or_false]; omega
    rw [tokQ_num hm hz.1 hz.2, show ((k.toNat : Nat) : Int) = k by omega]

theorem tokErr_six {k z : Int} {nf : Nat} {locals : Int} (hl : locals ≤ 6) (h : tokErr k z nf locals = 0) : tokErr k z nf 6 = 0 := by
  unfold tokErr at *
  by_cases a1 : k = 1
  · rw [if_pos a1] at h ⊢; exact h
  rw [if_neg a1] at h ⊢
  by_cases a2 : k = 2
  · rw [if_pos a2] at h ⊢
    split at h
    · cases h
    · rw [if_neg (by omega)]
  rw [if_neg a2] at h ⊢
  exact h

theorem exprQ_from {n : Nat} {k z : Nat → Int} {nf : Nat} {par : Nat → Int} {locals : Int} (hl : locals ≤ 6) (hnf : nf ≤ 1000) (h : exprErr n k z nf par locals = 0) (rest : List Wd) :
    ∀ (m i : Nat), i + m = n → exprQ nf par (catF (fun i => [tokW (k i) (z i)]) i m ++ rest) i (asked k z par i) = (pairs k z i m, (rest, true)) := by
  obtain ⟨h1, h2, h3, h4⟩ := exprErr_zero h
  intro m
  induction m with
  | zero =>
    intro i hi
    obtain rfl : i = n := by omega
    have := asked_range h2 i fun x hx => h3 x hx
    have e : asked k z par i = 0 := by omega
    rw [e]
    show exprQ nf par rest i 0 = _
    cases rest with
    | nil => unfold exprQ; rw [if_neg (by omega)]; rfl
    | cons w ws => unfold exprQ; rw [if_neg (by omega)]; rfl
  | succ m ih =>
    intro i hi
    have s := h3 i (by omega)
    obtain ⟨t1, t2⟩ := stepErr_tok s
    have r1 := asked_range h2 i fun x hx => h3 x (by omega)
    have ih := ih (i + 1) (by omega)
    have e1 := tokQ_tokW hl hnf t1
    have e2 : asked k z par (i + 1) = asked k z par i + (asksOf (k i) (z i) par - 1) := rfl
    show exprQ nf par (tokW (k i) (z i) :: (catF (fun i => [tokW (k i) (z i)]) (i + 1) m ++ rest)) i (asked k z par i) = _
    rw [exprQ, if_pos (by omega), e1]
    rw [if_pos ⟨tokErr_six hl t1, by omega⟩]
    show ((k i, z i) :: (exprQ nf par _ (i + 1) (asked k z par i + asksOf (k i) (z i) par - 1)).1, _) = _
    rw [show asked k z par i + asksOf (k i) (z i) par - 1 = asked k z par (i + 1) by omega, ih]
    rfl

theorem exprS_text {n : Nat} {k z : Nat → Int} {nf : Nat} {par : Nat → Int} {locals : Int} (hl : locals ≤ 6) (hnf : nf ≤ 1000) (h : exprErr n k z nf par locals = 0) (rest : List Wd) :
    exprS nf par (toksW k z n ++ rest, true) = (pairs k z 0 n, (rest, true)) := by
  unfold exprS
  rw [if_pos rfl, toksW_eq]
  exact exprQ_from hl hnf h rest n 0 (by omega)

/-- One statement, read behind its first word. -/
theorem itQ_text {nf : Nat} {par : Nat → Int} {locals : Int} (hl : locals ≤ 6) (hnf : nf ≤ 1000) (d : Nat) (s : Nd) (a b : SL) (h : stErr nf par locals s a.len b.len = 0) (B : Rs → SL × Rs) (rest : List Wd)
    (hA : s.kind = 6 ∨ s.kind = 7 → ∀ r, r = (if s.kind = 6 then blkW d b else []) ++ rest → (B (blkW d a ++ r, true)).2 = (r, true) ∧ eqS d a (B (blkW d a ++ r, true)).1 = true)
    (hB : s.kind = 6 → (B (blkW d b ++ rest, true)).2 = (rest, true) ∧ eqS d b (B (blkW d b ++ rest, true)).1 = true) :
    (q5 nf par B s.kind.toNat ((stmtW (blkW d) s a b).tail ++ rest, true)).2 = (rest, true) ∧ eqH s (itQ nf par B s.kind.toNat ((stmtW (blkW d) s a b).tail ++ rest, true)).nd = true ∧
      eqS d a (itQ nf par B s.kind.toNat ((stmtW (blkW d) s a b).tail ++ rest, true)).a = true ∧ eqS d b (itQ nf par B s.kind.toNat ((stmtW (blkW d) s a b).tail ++ rest, true)).b = true := by
  obtain ⟨f0, f1, f2, f3⟩ := stErr_zero h
  obtain ⟨k1, k2, kn, ke, kf, ka, kb⟩ := formErr_zero f0
  have hkk : ((s.kind.toNat : Nat) : Int) = s.kind := by omega
  have hw : (stmtW (blkW d) s a b).tail ++ rest = (if s.kind = 1 ∨ s.kind = 2 then [numW s.num] else []) ++ (toksW s.ek s.ez s.ne ++ (toksW s.fk s.fz s.nf ++ ((if s.kind = 6 ∨ s.kind = 7 then blkW d a else []) ++ ((if s.kind = 6 then blkW d b else []) ++ rest)))) := by
    simp [stmtW, List.append_assoc]
  rw [hw]
  generalize hR5 : (if s.kind = 6 then blkW d b else []) ++ rest = R5
  generalize hR4 : (if s.kind = 6 ∨ s.kind = 7 then blkW d a else []) ++ R5 = R4
  generalize hR3 : toksW s.fk s.fz s.nf ++ R4 = R3
  generalize hR2 : toksW s.ek s.ez s.ne ++ R3 = R2
  have hN : hasN s.kind.toNat = decide (s.kind = 1 ∨ s.kind = 2) := by
    unfold hasN
    by_cases c1 : s.kind = 1
    · rw [c1]; rfl
    · by_cases c2 : s.kind = 2
      · rw [c2]; rfl
      · simp [c1, c2]; omega
  have hAA : hasA s.kind.toNat = decide (s.kind = 6 ∨ s.kind = 7) := by
    unfold hasA
    by_cases c1 : s.kind = 6
    · rw [c1]; rfl
    · by_cases c2 : s.kind = 7
      · rw [c2]; rfl
      · simp [c1, c2]; omega
  have e1 : q1 s.kind.toNat ((if s.kind = 1 ∨ s.kind = 2 then [numW s.num] else []) ++ R2, true) = (R2, true) := by
    unfold q1
    rw [hN]
    by_cases c : s.kind = 1 ∨ s.kind = 2
    · rw [if_pos c, if_pos (by simpa using c)]; rfl
    · rw [if_neg c, if_neg (by simpa using c)]; rfl
  have en : (if hasN s.kind.toNat then numR ((if s.kind = 1 ∨ s.kind = 2 then [numW s.num] else []) ++ R2) else 0) = s.num := by
    rw [hN]
    by_cases c : s.kind = 1 ∨ s.kind = 2
    · rw [if_pos c, if_pos (by simpa using c)]
      show atoiV (Lib.itoa s.num) = s.num
      unfold numErr at f1
      have hz : -9223372036854775808 ≤ s.num ∧ s.num ≤ 9223372036854775807 := by
        split at f1
        · cases f1
        · omega
      exact atoiV_itoa hz.1 hz.2
    · rw [if_neg (by simpa using c)]; omega
  generalize (if s.kind = 1 ∨ s.kind = 2 then [numW s.num] else []) ++ R2 = W at *
  have e2 : q2 nf par s.kind.toNat (W, true) = (pairs s.ek s.ez 0 s.ne, (R3, true)) := by
    unfold q2
    rw [e1]
    by_cases c : s.kind = 4
    · have hz : s.ne = 0 := by omega
      rw [if_pos (by omega), ← hR2, hz]; rfl
    · rw [if_neg (by omega), ← hR2]
      exact exprS_text hl hnf (f2.resolve_left c) R3
  have e3 : q3 nf par s.kind.toNat (W, true) = (pairs s.fk s.fz 0 s.nf, (R4, true)) := by
    unfold q3
    rw [e2]
    by_cases c : s.kind = 2
    · rw [if_pos (by omega), ← hR3]
      exact exprS_text hl hnf (f3.resolve_left fun x => x c) R4
    · have hz : s.nf = 0 := by omega
      rw [if_neg (by omega), ← hR3, hz]; rfl
  have e4 : (q4 nf par B s.kind.toNat (W, true)).2 = (R5, true) ∧ eqS d a (q4 nf par B s.kind.toNat (W, true)).1 = true := by
    unfold q4
    rw [e3, hAA]
    by_cases c : s.kind = 6 ∨ s.kind = 7
    · rw [if_pos (by simpa using c), ← hR4, if_pos c]
      exact hA c R5 hR5.symm
    · rw [if_neg (by simpa using c), ← hR4, if_neg c]
      exact ⟨rfl, eqS_none (by omega)⟩
  have e5 : (q5 nf par B s.kind.toNat (W, true)).2 = (rest, true) ∧ eqS d b (q5 nf par B s.kind.toNat (W, true)).1 = true := by
    unfold q5
    rw [e4.1]
    by_cases c : s.kind = 6
    · rw [if_pos (by omega), ← hR5, if_pos c]
      exact hB c
    · rw [if_neg (by omega), ← hR5, if_neg c]
      exact ⟨rfl, eqS_none (by omega)⟩
  refine ⟨e5.1, ?_, e4.2, e5.2⟩
  unfold eqH itQ
  simp only [mkNd]
  rw [en, e2, e3, eqV_pairs, eqV_pairs]
  simp [hkk]

theorem kind_not_cb (k : Nat) (h1 : 1 ≤ k) (h8 : k ≤ 8) : ¬ bs (stL k) = cbW := by
  have : k = 1 ∨ k = 2 ∨ k = 3 ∨ k = 4 ∨ k = 5 ∨ k = 6 ∨ k = 7 ∨ k = 8 := by omega
  rcases this with rfl | rfl | rfl | rfl | rfl | rfl | rfl | rfl <;> decide

theorem openQ_ob (ws : List Wd) : openQ (obW :: ws, true) = (ws, true) := by
  unfold openQ
  simp [hdW]

theorem loopQ_cb (nf : Nat) (par : Nat → Int) (B : Rs → SL × Rs) (u : Nat) (rest : List Wd) : loopQ nf par B (u + 1) (cbW :: rest, true) = ([], (rest, true)) := by
  unfold loopQ
  rw [if_neg (by simp), if_pos (show hdW (cbW :: rest, true).fst = cbW from rfl)]
  rfl

theorem blkQ_empty (nf : Nat) (par : Nat → Int) (u : Nat) (rest : List Wd) : blkQ nf par (u + 1) (obW :: cbW :: rest, true) = (mkT [], (rest, true)) := by
  unfold blkQ
  rw [openQ_ob, loopQ_cb]
  rfl

/-- Statements between braces, as they are written. -/
theorem blkQ_text {nf : Nat} {par : Nat → Int} {locals : Int} (hl : locals ≤ 6) (hnf : nf ≤ 1000) : ∀ (d : Nat) (T : SL) (left u : Nat), errs (stErr nf par locals) d T = 0 → fits d T left → left < u → ∀ rest,
    (blkQ nf par u (blkW d T ++ rest, true)).2 = (rest, true) ∧ eqS d T (blkQ nf par u (blkW d T ++ rest, true)).1 = true
  | 0, T, left, u, _, _, hu, rest => by
    obtain ⟨u, rfl⟩ : ∃ v, u = v + 1 := ⟨u - 1, by omega⟩
    show (blkQ nf par (u + 1) (obW :: cbW :: rest, true)).2 = _ ∧ _
    rw [blkQ_empty]; exact ⟨rfl, rfl⟩
  | d + 1, T, left, u, he, hf, hu, rest => by
    obtain ⟨u, rfl⟩ : ∃ v, u = v + 1 := ⟨u - 1, by omega⟩
    have key : ∀ (m i fu : Nat), i + m = T.len → m < fu →
        ∃ its, loopQ nf par (blkQ nf par u) fu (catF (fun i => stmtW (blkW d) (T.nd i) (T.sub i false) (T.sub i true)) i m ++ cbW :: rest, true) = (its, (rest, true)) ∧ its.length = m ∧
          ∀ j, j < m → eqH (T.nd (i + j)) (its.getD j noIt).nd = true ∧ eqS d (T.sub (i + j) false) (its.getD j noIt).a = true ∧ eqS d (T.sub (i + j) true) (its.getD j noIt).b = true := by
      intro m
      induction m with
      | zero =>
        intro i fu _ hfu
        obtain ⟨fu, rfl⟩ : ∃ v, fu = v + 1 := ⟨fu - 1, by omega⟩
        exact ⟨[], loopQ_cb _ _ _ _ _, rfl, fun j hj => absurd hj (Nat.not_lt_zero _)⟩
      | succ m ih =>
        intro i fu hi hfu
        obtain ⟨fu, rfl⟩ : ∃ v, fu = v + 1 := ⟨fu - 1, by omega⟩
        obtain ⟨s0, s1, s2⟩ := errs_item he (i := i) (by omega)
        obtain ⟨k1, k2, _⟩ := formErr_zero (stErr_zero s0).1
        have hf0 : 0 < left ∧ fits d (T.sub i false) (left - 1) ∧ fits d (T.sub i true) (left - 1) := by
          rcases hf with hf | ⟨h1, h2⟩
          · omega
          · exact ⟨h1, h2 i (by omega)⟩
        rw [catF, List.append_assoc, stmtW_head]
        generalize hR : catF (fun i => stmtW (blkW d) (T.nd i) (T.sub i false) (T.sub i true)) (i + 1) m ++ cbW :: rest = R at *
        have hk : kindOf (hdW (bs (stL (T.nd i).kind.toNat) :: ((stmtW (blkW d) (T.nd i) (T.sub i false) (T.sub i true)).tail ++ R))) = (T.nd i).kind.toNat := kindOf_st _ (by omega) (by omega)
        have hnc : ¬ hdW (bs (stL (T.nd i).kind.toNat) :: ((stmtW (blkW d) (T.nd i) (T.sub i false) (T.sub i true)).tail ++ R)) = cbW := kind_not_cb _ (by omega) (by omega)
        obtain ⟨r1, r2, r3, r4⟩ := itQ_text hl hnf d (T.nd i) (T.sub i false) (T.sub i true) s0 (blkQ nf par u) R
          (fun c r er => by exact blkQ_text hl hnf d _ (left - 1) u s1 hf0.2.1 (by omega) _) (fun c => blkQ_text hl hnf d _ (left - 1) u s2 hf0.2.2 (by omega) _)
        obtain ⟨its, i1, i2, i3⟩ := ih (i + 1) fu (by omega) (by omega)
        rw [hR] at i1
        refine ⟨itQ nf par (blkQ nf par u) (T.nd i).kind.toNat ((stmtW (blkW d) (T.nd i) (T.sub i false) (T.sub i true)).tail ++ R, true) :: its, ?_, by simp [i2], fun j hj => ?_⟩
        · rw [loopQ, if_neg (by simp), if_neg hnc]
          simp only [hk]
          rw [if_neg (by omega)]
          simp only [List.tail_cons]
          rw [r1, i1]
        · cases j with
          | zero => exact ⟨r2, r3, r4⟩
          | succ j =>
            have := i3 j (by omega)
            rw [show i + 1 + j = i + (j + 1) by omega] at this
            exact this
    have e0 : blkW (d + 1) T ++ rest = obW :: (catF (fun i => stmtW (blkW d) (T.nd i) (T.sub i false) (T.sub i true)) 0 T.len ++ cbW :: rest) := by
      rw [blkW, catTo_eq]; simp
    rw [e0]
    have hlen : T.len < (catF (fun i => stmtW (blkW d) (T.nd i) (T.sub i false) (T.sub i true)) 0 T.len ++ cbW :: rest).length + 1 := by
      have : ∀ m i, m ≤ (catF (fun i => stmtW (blkW d) (T.nd i) (T.sub i false) (T.sub i true)) i m).length := by
        intro m
        induction m with
        | zero => intro i; omega
        | succ m ih =>
          intro i
          have h1 := ih (i + 1)
          rw [catF, List.length_append]
          have : 1 ≤ (stmtW (blkW d) (T.nd i) (T.sub i false) (T.sub i true)).length := by simp [stmtW]
          omega
      have := this T.len 0
      rw [List.length_append]
      omega
    obtain ⟨its, i1, i2, i3⟩ := key T.len 0 _ (by omega) hlen
    unfold blkQ
    rw [openQ_ob]
    simp only []
    rw [i1]
    refine ⟨rfl, ?_⟩
    rw [if_pos rfl, eqS_all (by rw [mkT_len, i2])]
    refine allTo_iff.2 fun j hj => ?_
    obtain ⟨a1, a2, a3⟩ := i3 j hj
    rw [Nat.zero_add] at a1 a2 a3
    unfold eqI
    rw [mkT_nd, mkT_a, mkT_b, a1, a2, a3]
    rfl

end Go.Proofs.YtfblnmbcaglliabGreatDoor

namespace Go.Proofs.YtfblnmbcaglliabGreatDoor
open Go.RowKit

theorem headsQ_plain (rest : List Wd) : ∀ {ws : List Wd}, (∀ w ∈ ws, plainW w) → headsQ (ws ++ rest) = headsQ rest
  | [], _ => rfl
  | w :: ws, h => by
    rw [List.cons_append, headsQ, if_neg fun c => (h w (by simp)).1 c.1]
    exact headsQ_plain rest fun x hx => h x (by simp [hx])

theorem headsQ_from {nf : Nat} {par loc : Nat → Int} {d : Nat} {body : Nat → SL} (h : progErr nf par loc d body = 0) : ∀ (m i : Nat), i + m = nf → headsQ (fromW nf par loc d body i m) = pairs par loc i m
  | 0, _, _ => rfl
  | m + 1, i, hi => by
    obtain ⟨_, _, hh, hb⟩ := prog_zero h
    have r := head_range (hh i (by omega))
    have e : fromW nf par loc d body i (m + 1) = funW :: numW (par i) :: numW (loc i) :: (blkW d (body i) ++ fromW nf par loc d body (i + 1) m) := by
      simp [fromW, catF, funWs]
    rw [e, headsQ, if_pos ⟨rfl, by simp⟩, numR_num (by omega) (by omega), List.tail_cons, numR_num (by omega) (by omega)]
    have e2 : headsQ (numW (par i) :: numW (loc i) :: (blkW d (body i) ++ fromW nf par loc d body (i + 1) m)) = pairs par loc (i + 1) m := by
      have : numW (par i) :: numW (loc i) :: (blkW d (body i) ++ fromW nf par loc d body (i + 1) m) = (numW (par i) :: numW (loc i) :: blkW d (body i)) ++ fromW nf par loc d body (i + 1) m := by simp
      rw [this, headsQ_plain, headsQ_from h m (i + 1) (by omega)]
      intro w hw
      rw [List.mem_cons, List.mem_cons] at hw
      rcases hw with rfl | rfl | hw
      · exact numW_plain _
      · exact numW_plain _
      · exact blkW_plain (bodyErr_errs (hb i (by omega))).2 w hw
    rw [e2]
    rfl

/-! ### The parameters alone matter -/

theorem exprQ_par {nf : Nat} {p q : Nat → Int} (hpq : ∀ i, i < nf → p i = q i) : ∀ (ws : List Wd) (n : Nat) (a : Int), exprQ nf p ws n a = exprQ nf q ws n a := by
  intro ws
  induction ws with
  | nil => intro n a; rfl
  | cons w ws ih =>
    intro n a
    unfold exprQ
    by_cases ha : 0 < a
    · rw [if_pos ha, if_pos ha]
      by_cases hb : tokErr (tokQ w).1 (tokQ w).2 nf 6 = 0 ∧ n < 24
      · rw [if_pos hb, if_pos hb]
        have e : asksOf (tokQ w).1 (tokQ w).2 p = asksOf (tokQ w).1 (tokQ w).2 q := by
          unfold asksOf
          split
          · rfl
          split
          · rfl
          split
          · next h3 => exact hpq _ (tokErr_call hb.1 h3).2
          · rfl
        rw [e, ih]
      · rw [if_neg hb, if_neg hb]
    · rw [if_neg ha, if_neg ha]

theorem blkQ_par {nf : Nat} {p q : Nat → Int} (hpq : ∀ i, i < nf → p i = q i) : ∀ (u : Nat), blkQ nf p u = blkQ nf q u := by
  have hx : ∀ s, exprS nf p s = exprS nf q s := fun s => by unfold exprS; rw [exprQ_par hpq]
  have h2 : ∀ k s, q2 nf p k s = q2 nf q k s := fun k s => by unfold q2; rw [hx]
  have h3 : ∀ k s, q3 nf p k s = q3 nf q k s := fun k s => by unfold q3; rw [h2, hx]
  have h4 : ∀ B k s, q4 nf p B k s = q4 nf q B k s := fun B k s => by unfold q4; rw [h3]
  have h5 : ∀ B k s, q5 nf p B k s = q5 nf q B k s := fun B k s => by unfold q5; rw [h4]
  have hs : ∀ B k s, itQ nf p B k s = itQ nf q B k s := fun B k s => by unfold itQ; rw [h2, h3, h4, h5]
  have hl : ∀ B u s, loopQ nf p B u s = loopQ nf q B u s := by
    intro B u
    induction u with
    | zero => intro s; rfl
    | succ u ih => intro s; simp only [loopQ, ih, hs, h5]
  intro u
  induction u with
  | zero => rfl
  | succ u ih => funext s; simp only [blkQ, hl, ih]

theorem startQ_fun (p l : Int) (ws : List Wd) : startQ (funW :: numW p :: numW l :: ws, true) = (ws, true) := by
  unfold startQ wordQ
  simp [hdW]

/-- What is written is read. -/
theorem readQ_text {nf : Nat} {par loc : Nat → Int} {d : Nat} {body : Nat → SL} (h : progErr nf par loc d body = 0) :
    rqN (progW nf par loc d body) = nf ∧ rqLeft (progW nf par loc d body) = ([], true) ∧ (∀ i, i < nf → rqP (progW nf par loc d body) i = par i ∧ rqL (progW nf par loc d body) i = loc i ∧ eqS d (body i) (rqB (progW nf par loc d body) i) = true) := by
  have e0 : progW nf par loc d body = fromW nf par loc d body 0 nf := catTo_eq _ nf
  have e1 : headsQ (progW nf par loc d body) = pairs par loc 0 nf := by rw [e0]; exact headsQ_from h nf 0 (by omega)
  have e2 : rqN (progW nf par loc d body) = nf := by unfold rqN; rw [e1, pairs_length]
  obtain ⟨hn1, hn4, hh, hb⟩ := prog_zero h
  have e3 : ∀ i, i < nf → rqP (progW nf par loc d body) i = par i ∧ rqL (progW nf par loc d body) i = loc i := fun i hi => by
    unfold rqP rqL
    rw [e1, pairs_at _ _ _ _ _ hi, Nat.zero_add]
    exact ⟨rfl, rfl⟩
  have one : ∀ i m, i + (m + 1) = nf → (blkQ nf par 6 (startQ (fromW nf par loc d body i (m + 1), true))).2 = (fromW nf par loc d body (i + 1) m, true) ∧ eqS d (body i) (blkQ nf par 6 (startQ (fromW nf par loc d body i (m + 1), true))).1 = true := by
    intro i m hm
    have e : fromW nf par loc d body i (m + 1) = funW :: numW (par i) :: numW (loc i) :: (blkW d (body i) ++ fromW nf par loc d body (i + 1) m) := by
      simp [fromW, catF, funWs]
    rw [e, startQ_fun]
    have hbi := bodyErr_errs (hb i (by omega))
    exact blkQ_text (by have := head_range (hh i (by omega)); omega) (by omega) d _ 4 6 hbi.2 hbi.1.1 (by omega) _
  have left : ∀ i m, i + m = nf → leftQ nf par (progW nf par loc d body) i = (fromW nf par loc d body i m, true) := by
    intro i
    induction i with
    | zero =>
      intro m hm
      obtain rfl : m = nf := by omega
      rw [← e0]; rfl
    | succ i ih =>
      intro m hm
      rw [leftQ, ih (m + 1) (by omega)]
      exact (one i m (by omega)).1
  have el : ∀ j, leftQ nf (rqP (progW nf par loc d body)) (progW nf par loc d body) j = leftQ nf par (progW nf par loc d body) j := by
    intro j
    induction j with
    | zero => rfl
    | succ j ih => rw [leftQ, leftQ, ih, blkQ_par fun j hj => (e3 j hj).1]
  refine ⟨e2, ?_, fun i hi => ⟨(e3 i hi).1, (e3 i hi).2, ?_⟩⟩
  · unfold rqLeft
    rw [e2, el, left nf 0 (by omega)]
    rfl
  · obtain ⟨m, hm⟩ : ∃ m, i + (m + 1) = nf := ⟨nf - i - 1, by omega⟩
    unfold rqB bodyQ
    rw [e2, el, blkQ_par (fun j hj => (e3 j hj).1), left i (m + 1) hm]
    exact (one i m hm).2

/-! ### The functions' texts, and their text -/

theorem joinTail_append (a b : List (List UInt8)) : Lib.joinTail [32] (a ++ b) = Lib.joinTail [32] a ++ Lib.joinTail [32] b := by simp [Lib.joinTail]

/-- Words, a blank ahead of each. -/
theorem joinTail_text {ws : List Wd} (h : ws ≠ []) : Lib.joinTail [32] (ws.map (·.data.toList)) = 32 :: textL ws := by
  cases ws with
  | nil => exact absurd rfl h
  | cons w ws => rw [List.map_cons, joinTail_cons, textL, List.map_cons, Lib.join_cons]

def textsTo (f : Nat → List Wd) : Nat → List Wd
  | 0 => []
  | n + 1 => textsTo f n ++ [bs (textL (f n))]

theorem textsTo_len (f : Nat → List Wd) : ∀ n, (textsTo f n).length = n
  | 0 => rfl
  | n + 1 => by rw [textsTo, List.length_append, textsTo_len f n]; rfl

theorem texts_tail {f : Nat → List Wd} (hf : ∀ i, f i ≠ []) : ∀ n, Lib.joinTail [32] ((textsTo f n).map (·.data.toList)) = Lib.joinTail [32] ((catTo f n).map (·.data.toList))
  | 0 => rfl
  | n + 1 => by
    rw [textsTo, catTo, List.map_append, List.map_append, joinTail_append, joinTail_append, texts_tail hf n, joinTail_text (hf n)]
    simp [Lib.joinTail, bs_data]

theorem texts_join {f : Nat → List Wd} (hf : ∀ i, f i ≠ []) {n : Nat} (hn : 1 ≤ n) : textL (textsTo f n) = textL (catTo f n) := by
  have h1 : textsTo f n ≠ [] := by
    intro e; have := textsTo_len f n; rw [e] at this; simp at this; omega
  have h2 : catTo f n ≠ [] := by
    intro e
    obtain ⟨m, rfl⟩ : ∃ m, n = m + 1 := ⟨n - 1, by omega⟩
    rw [catTo] at e
    exact hf m (List.append_eq_nil_iff.1 e).2
  have := texts_tail hf n
  rw [joinTail_text h1, joinTail_text h2] at this
  injection this

end Go.Proofs.YtfblnmbcaglliabGreatDoor

namespace Go.Proofs.YtfblnmbcaglliabGreatDoor
open Go.RowKit Go.Maps

/-- A short text ahead of a numeral. -/
theorem add_lit (a : List UInt8) (ha : a.length ≤ 100) (z : Int) (hz0 : -9223372036854775808 ≤ z) (hz1 : z ≤ 9223372036854775807) (w : World) : (Op.stringOp .add ⟨a.toArray⟩ (numW z)).run Tryz.prog w = .ok (.string (bs (a ++ Lib.itoa z))) w := by
  have h2 := Lib.itoa_length_le z hz0 hz1
  have e : (⟨a.toArray⟩ : ByteArray) = bs a := rfl
  unfold numW
  rw [e, run_string_add_sum w _ _ (by rw [bs_size, bs_size]; omega), bs_append]

/-- One sign of the operations' row. -/
theorem op_cut : ∀ (m : Nat) (_ : 1 ≤ m) (_ : m ≤ 5) (w : World), (Instr.slice 9 (.string ⟨#[63, 43, 45, 42, 60, 61]⟩) (some (.int .i64 (m : Int))) (some (.int .i64 ((m : Int) + 1))) none).run Tryz.prog w = .ok (.string (bs (opL m))) w
  | 0, h, _, _ => absurd h (by decide)
  | 1, _, _, w => by kernel_rfl
  | 2, _, _, w => by kernel_rfl
  | 3, _, _, w => by kernel_rfl
  | 4, _, _, w => by kernel_rfl
  | 5, _, _, w => by kernel_rfl
  | m + 6, _, h, _ => absurd h (by omega)

set_option maxHeartbeats 2000000 in
theorem tokText_op (N : Nat) (m : Nat) (h1 : 1 ≤ m) (h5 : m ≤ 5) (w : World) (he : Env N w) (hN : N ≤ w.heap.size) :
    Calls Tryz.prog 32 #[.agg #[.int .i64 3, .int .i64 m]] w fun e w' => e = .returned (.string (bs (opL m))) ∧ Below w.heap.size w w' := by
  have HI : Hid (∀ w1, Below w.heap.size w w1 → Calls Tryz.prog 19 #[.int .i64 (m : Int)] w1 fun e w' => e = .returned (.string (numW m)) ∧ Below w1.heap.size w1 w') := fun w1 hb => itoa N m (by omega) (by omega) w1 (he.below (hb.mono hN))
  have hcut := op_cut m h1 h5
  have hm0 : (0 : Int) ≤ (m : Int) := by omega
  have hm5 : (m : Int) ≤ 5 := by omega
  clear he
  go_enter Tryz.func32, Tryz.ntmps32
  go_wp2_with (first
    | (go_at_call 19; refine (HI.out _ (below_alloc _ _)).mono ?_; rintro e w1 ⟨rfl, b1⟩; have q0 := box_in b1 0 rfl; have q1 := box_in b1 1 rfl))
  go_ret
  exact ⟨rfl, (below_alloc _ _).trans (b1.mono (by simp))⟩

set_option maxHeartbeats 4000000 in
theorem tokText_num (N : Nat) (k : Nat) (h1 : 1 ≤ k) (h6 : k ≤ 6) (h3 : ¬ k = 3) (z : Int) (hz0 : -9223372036854775808 ≤ z) (hz1 : z ≤ 9223372036854775807) (w : World) (he : Env N w) (hN : N ≤ w.heap.size) :
    Calls Tryz.prog 32 #[.agg #[.int .i64 k, .int .i64 z]] w fun e w' => e = .returned (.string (bs (mkL k ++ Lib.itoa z))) ∧ Below w.heap.size w w' := by
  have HI : Hid (∀ w1, Below w.heap.size w w1 → Calls Tryz.prog 19 #[.int .i64 z] w1 fun e w' => e = .returned (.string (numW z)) ∧ Below w1.heap.size w1 w') := fun w1 hb => itoa N z hz0 hz1 w1 (he.below (hb.mono hN))
  have a2 := add_lit [118] (by decide) z hz0 hz1
  have a4 := add_lit [46] (by decide) z hz0 hz1
  have a5 := add_lit [110, 101, 119] (by decide) z hz0 hz1
  have a6 := add_lit [102] (by decide) z hz0 hz1
  clear he
  have : k = 1 ∨ k = 2 ∨ k = 4 ∨ k = 5 ∨ k = 6 := by omega
  rcases this with rfl | rfl | rfl | rfl | rfl
  all_goals
    go_enter Tryz.func32, Tryz.ntmps32
    go_wp2_with (first
      | (go_at_call 19; refine (HI.out _ (below_alloc _ _)).mono ?_; rintro e w1 ⟨rfl, b1⟩; have q0 := box_in b1 0 rfl; have q1 := box_in b1 1 rfl))
    go_ret
    exact ⟨rfl, (below_alloc _ _).trans (b1.mono (by simp))⟩

/-- What TokText is asked for here: an operation, or any number behind a mark. -/
def tokFit (k z : Int) : Prop := (k = 3 ∧ 1 ≤ z ∧ z ≤ 5) ∨ (1 ≤ k ∧ k ≤ 6 ∧ ¬ k = 3 ∧ -9223372036854775808 ≤ z ∧ z ≤ 9223372036854775807)

theorem tokText (N : Nat) (k z : Int) (h : tokFit k z) (w : World) (he : Env N w) (hN : N ≤ w.heap.size) :
    Calls Tryz.prog 32 #[.agg #[.int .i64 k, .int .i64 z]] w fun e w' => e = .returned (.string (tokW k z)) ∧ Below w.heap.size w w' := by
  unfold tokW
  rcases h with ⟨rfl, h1, h5⟩ | ⟨h1, h6, h3, hz0, hz1⟩
  · rw [if_pos rfl]
    obtain ⟨m, rfl⟩ : ∃ m : Nat, z = m := ⟨z.toNat, by omega⟩
    exact tokText_op N m (by omega) (by omega) w he hN
  · rw [if_neg h3]
    obtain ⟨n, rfl⟩ : ∃ n : Nat, k = n := ⟨k.toNat, by omega⟩
    exact tokText_num N n (by omega) (by omega) (by omega) z hz0 hz1 w he hN

theorem tokFit_of {k z : Int} {nf : Nat} {locals : Int} (hl : locals ≤ 6) (hn : nf ≤ 1000) (h : tokErr k z nf locals = 0) : tokFit k z := by
  unfold tokErr at h
  unfold tokFit
  by_cases a1 : k = 1
  · rw [if_pos a1] at h; split at h
    · cases h
    · omega
  rw [if_neg a1] at h
  by_cases a2 : k = 2
  · rw [if_pos a2] at h; split at h
    · cases h
    · omega
  rw [if_neg a2] at h
  by_cases a3 : k = 3
  · rw [if_pos a3] at h; split at h
    · cases h
    · omega
  rw [if_neg a3] at h
  by_cases a4 : k = 4
  · rw [if_pos a4] at h; split at h
    · cases h
    · omega
  rw [if_neg a4] at h
  by_cases a5 : k = 5
  · rw [if_pos a5] at h; split at h
    · cases h
    · omega
  rw [if_neg a5] at h
  by_cases a6 : k = 6
  · rw [if_pos a6] at h; split at h
    · cases h
    · omega
  rw [if_neg a6] at h
  cases h

end Go.Proofs.YtfblnmbcaglliabGreatDoor

namespace Go.Proofs.YtfblnmbcaglliabGreatDoor
open Go.RowKit Go.Maps

/-- Words, a blank ahead of each. -/
def blankL (ws : List Wd) : List UInt8 := (ws.map fun w => 32 :: w.data.toList).flatten
theorem blankL_append (a b : List Wd) : blankL (a ++ b) = blankL a ++ blankL b := by simp [blankL]
theorem blankL_one (w : Wd) : blankL [w] = 32 :: w.data.toList := by simp [blankL]
theorem blankL_len : ∀ {ws : List Wd}, (∀ w ∈ ws, shortW w) → (blankL ws).length ≤ ws.length * 31
  | [], _ => by simp [blankL]
  | w :: ws, h => by
    have h1 : w.data.toList.length ≤ 30 := h w (by simp)
    have h2 := blankL_len fun x hx => h x (List.mem_cons_of_mem _ hx)
    have e : blankL (w :: ws) = 32 :: (w.data.toList ++ blankL ws) := by simp [blankL]
    rw [e]
    simp only [List.length_cons, List.length_append, Nat.succ_mul]
    omega

/-- Two texts, not too long. -/
theorem add_two (a b : List UInt8) (h : a.length + b.length ≤ 10000000) (w : World) : (Op.stringOp .add (bs a) (bs b)).run Tryz.prog w = .ok (.string (bs (a ++ b))) w := by
  rw [run_string_add_sum w _ _ (by rw [bs_size, bs_size]; omega), bs_append]

theorem add_blank (t : Wd) (h : t.data.toList.length ≤ 10000000) (w : World) : (Op.stringOp .add ⟨#[32]⟩ t).run Tryz.prog w = .ok (.string (bs (32 :: t.data.toList))) w := by
  have e : (⟨#[32]⟩ : ByteArray) = bs [32] := rfl
  rw [e, ← bs_of t, run_string_add_sum w _ _ (by rw [bs_size, bs_size]; simp only [List.length_cons, List.length_nil]; omega), bs_append]
  rfl

theorem toks_short {k z : Nat → Int} {nf : Nat} {locals : Int} (hl : locals ≤ 6) (hn : nf ≤ 1000) : ∀ {n : Nat}, (∀ j, j < n → tokErr (k j) (z j) nf locals = 0) → ∀ w ∈ toksW k z n, shortW w
  | 0, _, w, hw => by cases hw
  | n + 1, h, w, hw => by
    rcases List.mem_append.1 hw with hw | hw
    · exact toks_short hl hn (fun j hj => h j (by omega)) w hw
    · rw [List.mem_singleton] at hw; subst hw; exact tokW_short hl hn (h n (by omega))

set_option maxHeartbeats 2000000 in
theorem exprText (N : Nat) (v : Value) (n : Nat) (k z : Nat → Int) (nf : Nat) (locals : Int) (hl : locals ≤ 6) (hnf : nf ≤ 1000) (hn : n ≤ 24) (ht : ∀ j, j < n → tokErr (k j) (z j) nf locals = 0) (w : World) (hN : N ≤ w.heap.size) (he : Env N w) (h : ToksAt N w v n k z) :
    Calls Tryz.prog 68 #[v] w fun e w' => e = .returned (.string (bs (blankL (toksW k z n)))) ∧ Below w.heap.size w w' := by
  have HT : Hid (∀ j, j < n → tokErr (k j) (z j) nf locals = 0) := ht
  have HE : Hid (Env N w) := he
  obtain ⟨a, cap, rfl, hn9, hc⟩ := h
  have HC : Hid (n = 0 ∨ ∃ b o, a = some ⟨b, o, none⟩ ∧ b < N ∧ ∀ i, i < n → w.cell? ⟨b, o + i * 2, none⟩ = some (.int .i64 (k i)) ∧ w.cell? ⟨b, o + i * 2 + 1, none⟩ = some (.int .i64 (z i))) := hc
  clear ht he hc
  go_enter Tryz.func68, Tryz.ntmps68
  go_upto_region 3 with (fail)
  go_loopw [3, 8] (fun q i wr => ∃ j : Nat, j ≤ n ∧ i = .int .i64 j ∧ q = .string (bs (blankL (toksW k z j))) ∧ Below w.heap.size w wr) (fun _ i _ => n - (intOf i).toNat)
  case atStart => exact ⟨0, by omega, rfl, rfl, Below.refl _ _⟩
  case round =>
    obtain ⟨j, hj0, rfl, rfl, hbw⟩ := hrel
    by_cases hj : j < n
    · obtain h | ⟨b, o, rfl, hb, hct⟩ := HC.out
      · omega
      obtain ⟨q0, q1⟩ := hct j hj
      rw [← hbw.cell (p := ⟨b, o + j * 2, none⟩) (Nat.lt_of_lt_of_le hb hN)] at q0
      rw [← hbw.cell (p := ⟨b, o + j * 2 + 1, none⟩) (Nat.lt_of_lt_of_le hb hN)] at q1
      have hji : (j : Int) < (n : Int) := by omega
      have hsh : shortW (tokW (k j) (z j)) := tokW_short hl hnf (HT.out j hj)
      have hs30 : (tokW (k j) (z j)).data.toList.length ≤ 30 := hsh
      have hbl := blankL_len (toks_short hl hnf (n := j) fun i hi => HT.out i (by omega))
      have hlen : (toksW k z j).length = j := toksW_length k z j
      have hadd1 := add_blank (tokW (k j) (z j)) (by omega)
      have hadd2 := add_two (blankL (toksW k z j)) (32 :: (tokW (k j) (z j)).data.toList) (by rw [hlen] at hbl; simp only [List.length_cons]; omega)
      have HNx : Hid (blankL (toksW k z (j + 1)) = blankL (toksW k z j) ++ (32 :: (tokW (k j) (z j)).data.toList)) := by
        show _ = _
        rw [toksW, blankL_append, blankL_one]
      have HTk : Hid (∀ w1, Below w.heap.size w w1 → Calls Tryz.prog 32 #[.agg #[.int .i64 (k j), .int .i64 (z j)]] w1 fun e w' => e = .returned (.string (tokW (k j) (z j))) ∧ Below w1.heap.size w1 w') := fun w1 hb1 =>
        tokText N (k j) (z j) (tokFit_of hl hnf (HT.out j hj)) w1 (HE.out.below (hb1.mono hN)) (Nat.le_trans hN hb1.size)
      clear hct hsh hbl hs30 hlen
      generalize tokW (k j) (z j) = tw at *
      generalize blankL (toksW k z j) = bl at *
      go_wp2_with (first
        | (go_at_call 32; refine (HTk.out _ (hbw.alloc hbw.size _)).mono ?_; rintro e w1 ⟨rfl, b1⟩))
      go_roundw
      case rel => exact ⟨j + 1, by omega, by go_num, by rw [HNx.out], (hbw.alloc hbw.size _).trans (b1.mono (by have := hbw.size; simp; omega))⟩
      case measure => simp [intOf]; omega
    · obtain rfl : j = n := by omega
      go_wp2_with fail
      go_ret
      exact ⟨rfl, hbw⟩

end Go.Proofs.YtfblnmbcaglliabGreatDoor

namespace Go.Proofs.YtfblnmbcaglliabGreatDoor
open Go.RowKit Go.Maps

/-- The library's table of blanks, below block N. -/
structure Spc (N : Nat) (w : World) : Prop where
  low : 1 ≤ N
  tab : Lib.TabIs Tryz.prog w "strings.asciiSpace" .u8 Lib.asciiSpaceTab

theorem gSpace : Tryz.prog.globalNamed "strings.asciiSpace" = some 0 := by kernel_rfl

theorem Spc.below {N : Nat} {w w' : World} (h : Spc N w) (hb : Below N w w') : Spc N w' := by
  refine ⟨h.low, ?_⟩
  unfold Lib.TabIs
  rw [var_of_block gSpace (hb.block 0 (by have := h.low; omega))]
  exact h.tab

def wordsL : List UInt8 := [115, 101, 116, 32, 112, 117, 116, 32, 115, 97, 121, 32, 112, 97, 117, 115, 101, 32, 103, 111, 32, 105, 102, 32, 119, 104, 105, 108, 101, 32, 114, 101, 116, 117, 114, 110]
theorem words_fields : Lib.fields wordsL = [stL 1, stL 2, stL 3, stL 4, stL 5, stL 6, stL 7, stL 8] := by decide +kernel
theorem words_ascii : ∀ b ∈ wordsL, b.toNat < 128 := by decide +kernel

theorem fieldsK (N : Nat) (w : World) (h : Spc N w) :
    Calls Tryz.prog 37 #[.string ⟨#[115, 101, 116, 32, 112, 117, 116, 32, 115, 97, 121, 32, 112, 97, 117, 115, 101, 32, 103, 111, 32, 105, 102, 32, 119, 104, 105, 108, 101, 32, 114, 101, 116, 117, 114, 110]⟩] w fun e w' => e = .returned (.slice (some ⟨w.heap.size, 0, none⟩) 8 8) ∧
      w' = w.alloc (.cells #[.string (bs (stL 1)), .string (bs (stL 2)), .string (bs (stL 3)), .string (bs (stL 4)), .string (bs (stL 5)), .string (bs (stL 6)), .string (bs (stL 7)), .string (bs (stL 8))] 9) := by
  have hk := Tryz.strings_Fields_laid (bs wordsL) w (by rw [bs_size]; decide) (fun j b hb => words_ascii b (List.mem_of_getElem? hb)) h.tab
  rw [bs_data, words_fields] at hk
  exact hk

end Go.Proofs.YtfblnmbcaglliabGreatDoor

namespace Go.Proofs.YtfblnmbcaglliabGreatDoor
open Go.RowKit

set_option maxHeartbeats 2000000 in
theorem refCheckTok (k z : Int) (a : Option Addr) (nf cap : Nat) (locals : Int) (w : World) :
    Calls Tryz.prog 33 #[.agg #[.int .i64 k, .int .i64 z], .slice a nf cap, .int .i64 locals] w fun e w' => e = .returned (.int .i64 (tokErr k z nf locals)) ∧ Below w.heap.size w w' := by
  go_enter Tryz.func33, Tryz.ntmps33
  go_wp2
  all_goals
    go_ret
    refine ⟨ret_num ?_, below_alloc _ _⟩
    go_light
    try simp only [beq_iff_eq, ne_eq, beq_eq_false_iff_ne, Bool.not_eq_true', Bool.not_eq_false', decide_eq_false_iff_not, decide_eq_true_eq] at *
    unfold tokErr
    (repeat' split) <;> omega

set_option maxHeartbeats 1000000 in
theorem refAsks (N : Nat) (k z : Int) (v : Value) (nf : Nat) (par loc : Nat → Int) (bv : Nat → Value) (w : World) (h : FunsAt N w v nf par loc bv) (hc : k = 6 → 0 ≤ z ∧ z.toNat < nf) :
    Calls Tryz.prog 34 #[.agg #[.int .i64 k, .int .i64 z], v] w fun e w' => e = .returned (.int .i64 (asksOf k z par)) ∧ Below w.heap.size w w' := by
  by_cases hk : k = 6
  · obtain ⟨h0, h1⟩ := hc hk
    obtain ⟨i, rfl⟩ : ∃ i : Nat, z = i := ⟨z.toNat, by omega⟩
    have hi : i < nf := by omega
    obtain ⟨a, cap, rfl, hn, h | ⟨b, o, rfl, hlt, g⟩⟩ := h
    · omega
    obtain ⟨c0, c1, c2, _⟩ := g i hi
    have l0 := cell_lt c0
    have HE : Hid (asksOf k i par = par i) := by
      show asksOf k i par = par i
      subst hk; simp [asksOf]
    clear g hc h1
    subst hk
    go_enter Tryz.func34, Tryz.ntmps34
    go_wp2
    go_ret
    exact ⟨ret_num HE.out.symm, below_alloc _ _⟩
  · obtain ⟨a, cap, rfl, hn, _⟩ := h
    have hkt : (k == 6) = false := by simp [hk]
    clear hc
    go_enter Tryz.func34, Tryz.ntmps34
    go_wp2
    all_goals
      go_ret
      refine ⟨ret_num ?_, below_alloc _ _⟩
      go_light
      simp only [beq_iff_eq, beq_eq_false_iff_ne, ne_eq] at *
      unfold asksOf
      (repeat' split) <;> omega

end Go.Proofs.YtfblnmbcaglliabGreatDoor

namespace Go.Proofs.YtfblnmbcaglliabGreatDoor
open Go.RowKit Go.Maps

/-- All that was there is as it was, but for blocks A and A + 1. -/
structure Sv (A : Nat) (w w' : World) : Prop where
  os : w'.os = w.os
  tape : w'.tape = w.tape
  output : w'.output = w.output
  size : w.heap.size ≤ w'.heap.size
  block : ∀ k, k < w.heap.size → ¬ k = A → ¬ k = A + 1 → w'.heap[k]? = w.heap[k]?

theorem Sv.refl (A : Nat) (w : World) : Sv A w w := ⟨rfl, rfl, rfl, Nat.le_refl _, fun _ _ _ _ => rfl⟩
theorem Sv.trans {A : Nat} {a b c : World} (h : Sv A a b) (k : Sv A b c) : Sv A a c :=
  ⟨k.os.trans h.os, k.tape.trans h.tape, k.output.trans h.output, Nat.le_trans h.size k.size, fun n hn hx hy => (k.block n (Nat.lt_of_lt_of_le hn h.size) hx hy).trans (h.block n hn hx hy)⟩
theorem Sv.of {A : Nat} {a b : World} (h : Below a.heap.size a b) : Sv A a b := ⟨h.os, h.tape, h.output, h.size, fun k hk _ _ => h.block k hk⟩
theorem Sv.low {A N : Nat} {a b : World} (h : Sv A a b) (h1 : N ≤ A) (h2 : N ≤ a.heap.size) : Below N a b := ⟨h.os, h.tape, h.output, h.size, fun k hk => h.block k (Nat.lt_of_lt_of_le hk h2) (by omega) (by omega)⟩
theorem Sv.cell {A : Nat} {a b : World} (h : Sv A a b) {p : Addr} (h1 : p.block < a.heap.size) (h2 : ¬ p.block = A) (h3 : ¬ p.block = A + 1) : b.cell? p = a.cell? p := World.cell?_of_block (w := a) (a := p) (h.block p.block h1 h2 h3)
theorem Sv.far {A m : Nat} {a b : World} (h : Sv A a b) (hm : A + 2 ≤ m) : Far m a b := ⟨fun k hk hk2 => h.block k hk (by omega) (by omega), h.size⟩
theorem Sv.set (A : Nat) (w : World) (B i : Nat) (v : Value) (hB : B = A ∨ B = A + 1) : Sv A w (w.setCell ⟨B, i, none⟩ v) := by
  have h : Below B w (w.setCell ⟨B, i, none⟩ v) := (Below.refl B w).setCell (Nat.le_refl _) _
  refine ⟨h.os, h.tape, h.output, h.size, fun k hk hx hy => ?_⟩
  exact Below.heap_setCell w ⟨B, i, none⟩ v k (by show ¬ k = B; omega)
/-- What grows is a row of blocks from B on. -/
theorem Grow.sv {A B : Nat} {a b : World} {u v : Value} (h : Grow a u b v) (hu : ∀ k, u.ownBlock = some k → B ≤ k) {w : World} (hw : w.heap.size ≤ B) (hs : Sv A w a) : Sv A w b :=
  ⟨h.os.trans hs.os, h.tape.trans hs.tape, h.output.trans hs.output, Nat.le_trans hs.size h.size, fun k hk hx hy => (h.block k (Nat.lt_of_lt_of_le hk hs.size) fun e => by have := hu k e; omega).trans (hs.block k hk hx hy)⟩

/-- Where the reader's parts lie. -/
structure QC where
  N : Nat
  A : Nat
  wb : Nat
  x4 : Nat
  x5 : Nat
  xw : Nat
  xe : Nat
  xb : Nat
  W : List Wd
  fv : Value
  nf : Nat
  par : Nat → Int

def QC.at' (c : QC) : Value := .pointer (some ⟨c.A, 0, none⟩)
def QC.fw (c : QC) : Value := .func (.func 29) #[] #[.pointer (some ⟨c.A, 0, none⟩), .pointer (some ⟨c.x4, 0, none⟩), .pointer (some ⟨c.A + 1, 0, none⟩)]
def QC.fe (c : QC) : Value := .func (.func 30) #[] #[.pointer (some ⟨c.A + 1, 0, none⟩), .pointer (some ⟨c.xw, 0, none⟩), .pointer (some ⟨c.x5, 0, none⟩)]
def QC.fb (c : QC) : Value := .func (.func 35) #[] #[.pointer (some ⟨c.xw, 0, none⟩), .pointer (some ⟨c.A + 1, 0, none⟩), .pointer (some ⟨c.xe, 0, none⟩), .pointer (some ⟨c.xb, 0, none⟩)]

/-- What stays. -/
structure QSt (c : QC) (w : World) : Prop where
  env : Env c.N w
  spc : Spc c.N w
  lowN : c.N ≤ c.A
  w4 : w.cell? ⟨c.x4, 0, none⟩ = some (.slice (some ⟨c.wb, 0, none⟩) c.W.length c.W.length)
  wds : ∀ j y, c.W[j]? = some y → w.cell? ⟨c.wb, j, none⟩ = some (.string y)
  small : ∀ y ∈ c.W, y.size ≤ 100000
  len : c.W.length ≤ 100000
  f5 : w.cell? ⟨c.x5, 0, none⟩ = some c.fv
  funs : ∃ loc bv, FunsAt c.A w c.fv c.nf c.par loc bv
  parOK : ∀ i, i < c.nf → parErr (c.par i) = 0
  nf4 : c.nf ≤ 4
  cw : w.cell? ⟨c.xw, 0, none⟩ = some c.fw
  ce : w.cell? ⟨c.xe, 0, none⟩ = some c.fe
  cb : w.cell? ⟨c.xb, 0, none⟩ = some c.fb
  o1 : c.wb < c.A
  o2 : c.x4 < c.A
  o3 : c.x5 < c.A
  o4 : c.A + 1 < c.xw
  o5 : c.A + 1 < c.xe
  o6 : c.A + 1 < c.xb
  top : c.A + 1 < w.heap.size

theorem QSt.keep {c : QC} {w w' : World} (h : QSt c w) (s : Sv c.A w w') : QSt c w' := by
  have t := h.top
  obtain ⟨loc, bv, hf⟩ := h.funs
  have o1 := h.o1
  have o2 := h.o2
  have o3 := h.o3
  have o4 := h.o4
  have o5 := h.o5
  have o6 := h.o6
  have low : Below c.A w w' := s.low (Nat.le_refl _) (by omega)
  have cw := cell_lt h.cw
  have ce := cell_lt h.ce
  have cb := cell_lt h.cb
  refine ⟨h.env.below (low.mono h.lowN), h.spc.below (low.mono h.lowN), h.lowN, ?_, fun j y hj => ?_, h.small, h.len, ?_, ⟨loc, bv, hf.below low⟩, h.parOK, h.nf4, ?_, ?_, ?_, o1, o2, o3, o4, o5, o6, Nat.lt_of_lt_of_le t s.size⟩
  · rw [low.cell (p := ⟨c.x4, 0, none⟩) o2]; exact h.w4
  · rw [low.cell (p := ⟨c.wb, j, none⟩) o1]; exact h.wds j y hj
  · rw [low.cell (p := ⟨c.x5, 0, none⟩) o3]; exact h.f5
  · rw [s.cell (p := ⟨c.xw, 0, none⟩) cw (by show ¬ c.xw = c.A; omega) (by show ¬ c.xw = c.A + 1; omega)]; exact h.cw
  · rw [s.cell (p := ⟨c.xe, 0, none⟩) ce (by show ¬ c.xe = c.A; omega) (by show ¬ c.xe = c.A + 1; omega)]; exact h.ce
  · rw [s.cell (p := ⟨c.xb, 0, none⟩) cb (by show ¬ c.xb = c.A; omega) (by show ¬ c.xb = c.A + 1; omega)]; exact h.cb

/-- The reader, where it stands. -/
structure QR (c : QC) (w : World) (q : Rs) : Prop where
  st : QSt c w
  at_ : ∃ n : Nat, n ≤ c.W.length ∧ q.1 = c.W.drop n ∧ w.heap[c.A]? = some (.cells #[.int .i64 n] 3 (0, 0))
  ok : w.heap[c.A + 1]? = some (.cells #[.bool q.2] 4 (0, 0))

theorem QR.keep {c : QC} {w w' : World} {q : Rs} (h : QR c w q) (hb : Below w.heap.size w w') : QR c w' q := by
  have t := h.st.top
  obtain ⟨n, h1, h2, h3⟩ := h.at_
  exact ⟨h.st.keep (Sv.of hb), ⟨n, h1, h2, by rw [hb.block _ (by omega)]; exact h3⟩, by rw [hb.block _ (by omega)]; exact h.ok⟩

/-- What keeps all up to the flag keeps the reader. -/
theorem QR.low {c : QC} {w w' : World} {q : Rs} (h : QR c w q) (B : Nat) (hB : c.A + 1 < B) (hx : c.xw < B ∧ c.xe < B ∧ c.xb < B) (hb : Below B w w') : QR c w' q := by
  have t := h.st.top
  obtain ⟨n, h1, h2, h3⟩ := h.at_
  obtain ⟨loc, bv, hf⟩ := h.st.funs
  have o1 := h.st.o1
  have o2 := h.st.o2
  have o3 := h.st.o3
  have lowN := h.st.lowN
  refine ⟨⟨h.st.env.below (hb.mono (by omega)), h.st.spc.below (hb.mono (by omega)), lowN, ?_, fun j y hj => ?_, h.st.small, h.st.len, ?_, ⟨loc, bv, hf.below (hb.mono (by omega))⟩, h.st.parOK, h.st.nf4, ?_, ?_, ?_, o1, o2, o3, h.st.o4, h.st.o5, h.st.o6, Nat.lt_of_lt_of_le t hb.size⟩, ⟨n, h1, h2, by rw [hb.block _ (by omega)]; exact h3⟩, by rw [hb.block _ (by omega)]; exact h.ok⟩
  · rw [hb.cell (p := ⟨c.x4, 0, none⟩) (by show c.x4 < B; omega)]; exact h.st.w4
  · rw [hb.cell (p := ⟨c.wb, j, none⟩) (by show c.wb < B; omega)]; exact h.st.wds j y hj
  · rw [hb.cell (p := ⟨c.x5, 0, none⟩) (by show c.x5 < B; omega)]; exact h.st.f5
  · rw [hb.cell (p := ⟨c.xw, 0, none⟩) hx.1]; exact h.st.cw
  · rw [hb.cell (p := ⟨c.xe, 0, none⟩) hx.2.1]; exact h.st.ce
  · rw [hb.cell (p := ⟨c.xb, 0, none⟩) hx.2.2]; exact h.st.cb

theorem QR.lts {c : QC} {w : World} {q : Rs} (h : QR c w q) : c.A + 1 < w.heap.size ∧ c.xw < w.heap.size ∧ c.xe < w.heap.size ∧ c.xb < w.heap.size := ⟨h.st.top, cell_lt h.st.cw, cell_lt h.st.ce, cell_lt h.st.cb⟩

theorem QR.okc {c : QC} {w : World} {q : Rs} (h : QR c w q) : w.cell? ⟨c.A + 1, 0, none⟩ = some (.bool q.2) ∧ w.frozen? ⟨c.A + 1, 0, none⟩ = false := by
  constructor
  · unfold World.cell?; rw [h.ok]; rfl
  · unfold World.frozen?; rw [h.ok]; rfl

theorem QR.small {c : QC} {w : World} {q : Rs} (h : QR c w q) : (hdW q.1).size ≤ 100000 := by
  obtain ⟨n, h1, h2, _⟩ := h.at_
  rw [h2]
  cases e : c.W.drop n with
  | nil => exact Nat.zero_le _
  | cons x ws => exact h.st.small x (List.mem_of_mem_drop (by rw [e]; simp))

theorem QR.len {c : QC} {w : World} {q : Rs} (h : QR c w q) : q.1.length ≤ 100000 := by
  obtain ⟨n, h1, h2, _⟩ := h.at_
  rw [h2, List.length_drop]
  have := h.st.len
  omega

/-- The flag put down. -/
theorem QR.down {c : QC} {w : World} {q : Rs} (h : QR c w q) (b : Bool) : QR c (w.setCell ⟨c.A + 1, 0, none⟩ (.bool b)) (q.1, b) := by
  have s := Sv.set c.A w (c.A + 1) 0 (.bool b) (Or.inr rfl)
  obtain ⟨n, h1, h2, h3⟩ := h.at_
  refine ⟨h.st.keep s, ⟨n, h1, h2, ?_⟩, ?_⟩
  · rw [Below.heap_setCell w ⟨c.A + 1, 0, none⟩ _ c.A (by show ¬ c.A = c.A + 1; omega)]; exact h3
  · rw [heap_setCell_same w (c.A + 1) 0 _ _ _ h.ok]; rfl

set_option maxHeartbeats 1000000 in
/-- The next word. -/
theorem wordR (c : QC) (w : World) (q : Rs) (h : QR c w q) :
    Calls Tryz.prog 29 #[.pointer (some ⟨c.A, 0, none⟩), .pointer (some ⟨c.x4, 0, none⟩), .pointer (some ⟨c.A + 1, 0, none⟩)] w fun e w' => e = .returned (.string (hdW q.1)) ∧ Hid (QR c w' (wordQ q)) ∧ Sv c.A w w' := by
  have HR : Hid (QR c w q) := h
  obtain ⟨n, hn, hq, hA⟩ := h.at_
  have a0 : w.cell? ⟨c.A, 0, none⟩ = some (.int .i64 n) := by unfold World.cell?; rw [hA]; rfl
  have af : w.frozen? ⟨c.A, 0, none⟩ = false := by unfold World.frozen?; rw [hA]; rfl
  have w4 := h.st.w4
  have o2 : ¬ c.A = c.x4 := by have := h.st.o2; omega
  have hl := h.st.len
  obtain ⟨k0, kf⟩ := h.okc
  by_cases hlt : n < c.W.length
  · obtain ⟨y, hy⟩ : ∃ y, c.W[n]? = some y := ⟨_, List.getElem?_eq_getElem hlt⟩
    have hd : q.1 = y :: c.W.drop (n + 1) := by
      rw [hq, List.drop_eq_getElem_cons hlt]
      rw [List.getElem?_eq_getElem hlt] at hy
      injection hy with hy
      rw [hy]
    have q1 : (w.setCell ⟨c.A, 0, none⟩ (.int .i64 ((n : Int) + 1))).cell? ⟨c.wb, n, none⟩ = some (.string y) := by
      have := Sv.set c.A w c.A 0 (.int .i64 ((n : Int) + 1)) (Or.inl rfl)
      have o1 := h.st.o1
      rw [(this.low (Nat.le_refl _) (by have := h.st.top; omega)).cell (p := ⟨c.wb, n, none⟩) o1]
      exact h.st.wds n y hy
    have HE : Hid (QR c (w.setCell ⟨c.A, 0, none⟩ (.int .i64 ((n : Int) + 1))) (wordQ q)) := by
      have s := Sv.set c.A w c.A 0 (.int .i64 ((n : Int) + 1)) (Or.inl rfl)
      refine ⟨h.st.keep s, ⟨n + 1, hlt, ?_, ?_⟩, ?_⟩
      · unfold wordQ; rw [hd]; rfl
      · rw [heap_setCell_same w c.A 0 _ _ _ hA]; rfl
      · rw [Below.heap_setCell w ⟨c.A, 0, none⟩ _ (c.A + 1) (by show ¬ c.A + 1 = c.A; omega), h.ok]
        unfold wordQ; rw [hd]; simp
    have HD : Hid (hdW q.1 = y) := by show _ = _; rw [hd]; rfl
    have hni : ¬ ((c.W.length : Int) ≤ (n : Int)) := by omega
    have hni2 : (n : Int) < (c.W.length : Int) := by omega
    have hnw : (n : Int) + 1 ≤ 200000 := by omega
    clear h hA hq hd hy hl hn
    go_enter Tryz.func29, Tryz.ntmps29
    go_wp2
    go_ret
    exact ⟨by rw [HD.out]; rfl, HE, Sv.set c.A w c.A 0 _ (Or.inl rfl)⟩
  · obtain rfl : n = c.W.length := by omega
    have hd : q.1 = [] := by rw [hq, List.drop_length]
    have HE : Hid (QR c (w.setCell ⟨c.A + 1, 0, none⟩ (.bool false)) (wordQ q)) := by
      show QR _ _ _
      have := h.down false
      unfold wordQ
      rw [hd] at this ⊢
      simpa using this
    have HD : Hid (hdW q.1 = bs []) := by show _ = _; rw [hd]; rfl
    clear h hA hq hd hl hn
    go_enter Tryz.func29, Tryz.ntmps29
    go_wp2
    go_ret
    exact ⟨by rw [HD.out]; rfl, HE, Sv.set c.A w (c.A + 1) 0 _ (Or.inr rfl)⟩

end Go.Proofs.YtfblnmbcaglliabGreatDoor
