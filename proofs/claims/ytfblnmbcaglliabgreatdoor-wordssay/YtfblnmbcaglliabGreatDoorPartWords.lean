/- When programs are alike: the plain reckoning; and that a list of pairs still to be held against each other comes to the same. -/
import Derived.Test.YtfblnmbcaglliabGreatDoorSrc
import Derived.Lib.ItoaNum
import Derived.Lib.AtoiAll
import Derived.Lib.Join
import Derived.Lib.Split
import Derived.RowKit
import Derived.Lib.SplitLaws
namespace Go.Proofs.YtfblnmbcaglliabGreatDoor

def allTo : Nat → (Nat → Bool) → Bool
  | 0, _ => true
  | n + 1, f => allTo n f && f n

theorem allTo_iff {f : Nat → Bool} : ∀ {n : Nat}, allTo n f = true ↔ ∀ i, i < n → f i = true
  | 0 => ⟨fun _ i hi => absurd hi (Nat.not_lt_zero _), fun _ => rfl⟩
  | n + 1 => by
    simp only [allTo, Bool.and_eq_true, allTo_iff (n := n)]
    constructor
    · rintro ⟨h1, h2⟩ i hi
      by_cases e : i = n
      · subst e; exact h2
      · exact h1 i (by omega)
    · intro h; exact ⟨fun i hi => h i (by omega), h n (by omega)⟩

theorem allTo_congr {f g : Nat → Bool} : ∀ {n : Nat}, (∀ i, i < n → f i = g i) → allTo n f = allTo n g
  | 0, _ => rfl
  | n + 1, h => by simp only [allTo]; rw [allTo_congr (n := n) fun i hi => h i (by omega), h n (by omega)]

theorem allTo_no {f : Nat → Bool} {n i : Nat} (hi : i < n) (h : f i = false) : allTo n f = false := by
  rw [Bool.eq_false_iff]; intro e; rw [allTo_iff.1 e i hi] at h; cases h

/-- Two rows of tokens are alike. -/
def eqV (n1 n2 : Nat) (k1 z1 k2 z2 : Nat → Int) : Bool := decide (n1 = n2 ∧ ∀ i, i < n1 → k1 i = k2 i ∧ z1 i = z2 i)
theorem eqV_iff {n1 n2 : Nat} {k1 z1 k2 z2 : Nat → Int} : eqV n1 n2 k1 z1 k2 z2 = true ↔ n1 = n2 ∧ ∀ i, i < n1 → k1 i = k2 i ∧ z1 i = z2 i := by
  unfold eqV; exact decide_eq_true_iff
theorem eqV_yes {n : Nat} {k1 z1 k2 z2 : Nat → Int} (h : ∀ i, i < n → k1 i = k2 i ∧ z1 i = z2 i) : eqV n n k1 z1 k2 z2 = true := eqV_iff.2 ⟨rfl, h⟩
theorem eqV_no {n1 n2 : Nat} {k1 z1 k2 z2 : Nat → Int} {k : Nat} (hk : k < n1) (h : ¬ (k1 k = k2 k ∧ z1 k = z2 k)) : eqV n1 n2 k1 z1 k2 z2 = false := by
  rw [Bool.eq_false_iff]; intro e; exact h ((eqV_iff.1 e).2 k hk)
theorem eqV_len {n1 n2 : Nat} {k1 z1 k2 z2 : Nat → Int} (h : ¬ n1 = n2) : eqV n1 n2 k1 z1 k2 z2 = false := by
  rw [Bool.eq_false_iff]; intro e; exact h (eqV_iff.1 e).1

/-- Two statements are alike, but for those in them. -/
def eqH (s t : Nd) : Bool := decide (s.kind = t.kind) && decide (s.num = t.num) && eqV s.ne t.ne s.ek s.ez t.ek t.ez && eqV s.nf t.nf s.fk s.fz t.fk t.fz

/-- One statement against another, with all in them. -/
def eqI (E : SL → SL → Bool) (T U : SL) (i : Nat) : Bool := eqH (T.nd i) (U.nd i) && (E (T.sub i false) (U.sub i false) && E (T.sub i true) (U.sub i true))

/-- Two lists of statements are alike. -/
def eqS : Nat → SL → SL → Bool
  | 0, _, _ => true
  | d + 1, T, U => decide (T.len = U.len) && allTo T.len (eqI (eqS d) T U)

theorem eqS_len {d : Nat} {T U : SL} (h : ¬ T.len = U.len) : eqS (d + 1) T U = false := by
  simp [eqS, h]
theorem eqS_all {d : Nat} {T U : SL} (h : T.len = U.len) : eqS (d + 1) T U = allTo T.len (eqI (eqS d) T U) := by
  simp [eqS, h]

/-- There is nothing deeper than so. -/
def proper : Nat → SL → Prop
  | 0, T => T.len = 0
  | d + 1, T => ∀ i, i < T.len → proper d (T.sub i false) ∧ proper d (T.sub i true)

theorem proper_succ : ∀ {d : Nat} {T : SL}, proper d T → proper (d + 1) T
  | 0, T, h => fun i hi => by have : T.len = 0 := h; omega
  | d + 1, T, h => fun i hi => ⟨proper_succ (h i hi).1, proper_succ (h i hi).2⟩

theorem proper_le {d e : Nat} {T : SL} (h : proper d T) (hd : d ≤ e) : proper e T := by
  induction e with
  | zero => obtain rfl : d = 0 := by omega
            exact h
  | succ e ih =>
    by_cases c : d = e + 1
    · subst c; exact h
    · exact proper_succ (ih (by omega))

theorem eqS_succ : ∀ {d : Nat} {T U : SL}, proper d T → proper d U → eqS (d + 1) T U = eqS d T U
  | 0, T, U, h, k => by
    have h' : T.len = 0 := h
    have k' : U.len = 0 := k
    rw [eqS_all (by omega), h']; rfl
  | d + 1, T, U, h, k => by
    by_cases c : T.len = U.len
    · rw [eqS_all c, eqS_all c]
      refine allTo_congr fun i hi => ?_
      unfold eqI
      rw [eqS_succ (h i hi).1 (k i (by omega)).1, eqS_succ (h i hi).2 (k i (by omega)).2]
    · rw [eqS_len c, eqS_len c]

theorem size_succ' : ∀ {d : Nat} {T : SL}, proper d T → size (d + 1) T = size d T
  | 0, T, h => by
    have h' : T.len = 0 := h
    simp only [size]; rw [h']; rfl
  | d + 1, T, h => by
    show sumTo T.len (fun i => 1 + size (d + 1) (T.sub i false) + size (d + 1) (T.sub i true)) = sumTo T.len (fun i => 1 + size d (T.sub i false) + size d (T.sub i true))
    exact sumTo_congr fun i hi => by rw [size_succ' (h i hi).1, size_succ' (h i hi).2]

/-- Two functions are alike. -/
def eqF (d : Nat) (p1 l1 p2 l2 : Int) (T U : SL) : Bool := decide (p1 = p2) && decide (l1 = l2) && eqS d T U

/-- Two programs are alike. -/
def eqP (d n1 n2 : Nat) (p1 l1 p2 l2 : Nat → Int) (B C : Nat → SL) : Bool := decide (n1 = n2) && allTo n1 (fun i => eqF d (p1 i) (l1 i) (p2 i) (l2 i) (B i) (C i))
theorem eqP_len {d n1 n2 : Nat} {p1 l1 p2 l2 : Nat → Int} {B C : Nat → SL} (h : ¬ n1 = n2) : eqP d n1 n2 p1 l1 p2 l2 B C = false := by simp [eqP, h]
theorem eqP_yes {d n : Nat} {p1 l1 p2 l2 : Nat → Int} {B C : Nat → SL} (h : ∀ i, i < n → eqF d (p1 i) (l1 i) (p2 i) (l2 i) (B i) (C i) = true) : eqP d n n p1 l1 p2 l2 B C = true := by
  simp only [eqP, decide_true, Bool.true_and]; exact allTo_iff.2 h
theorem eqP_no {d n1 n2 : Nat} {p1 l1 p2 l2 : Nat → Int} {B C : Nat → SL} {i : Nat} (hi : i < n1) (h : eqF d (p1 i) (l1 i) (p2 i) (l2 i) (B i) (C i) = false) : eqP d n1 n2 p1 l1 p2 l2 B C = false := by
  unfold eqP; rw [allTo_no hi h, Bool.and_false]

end Go.Proofs.YtfblnmbcaglliabGreatDoor

namespace Go.Proofs.YtfblnmbcaglliabGreatDoor
open Go.RowKit

/-- A word. -/
abbrev Wd := ByteArray
def bs (l : List UInt8) : Wd := ⟨l.toArray⟩
theorem bs_data (l : List UInt8) : (bs l).data.toList = l := rfl
theorem bs_inj {l m : List UInt8} (h : bs l = bs m) : l = m := by
  have := congrArg (fun x : ByteArray => x.data.toList) h
  exact this
theorem bs_of (w : Wd) : bs w.data.toList = w := rfl

/-- What a statement begins with, by its kind. -/
def stL : Nat → List UInt8
  | 1 => [115, 101, 116]
  | 2 => [112, 117, 116]
  | 3 => [115, 97, 121]
  | 4 => [112, 97, 117, 115, 101]
  | 5 => [103, 111]
  | 6 => [105, 102]
  | 7 => [119, 104, 105, 108, 101]
  | 8 => [114, 101, 116, 117, 114, 110]
  | _ => []

/-- The operations. -/
def opL : Nat → List UInt8
  | 1 => [43]
  | 2 => [45]
  | 3 => [42]
  | 4 => [60]
  | 5 => [61]
  | _ => []

/-- What stands ahead of a token's number, by its kind. -/
def mkL : Nat → List UInt8
  | 2 => [118]
  | 4 => [46]
  | 5 => [110, 101, 119]
  | 6 => [102]
  | _ => []

def obW : Wd := bs [123]
def cbW : Wd := bs [125]
def funW : Wd := bs [102, 117, 110]

/-- The word of a number. -/
def numW (n : Int) : Wd := bs (Lib.itoa n)

/-- The word of a token. -/
def tokW (k z : Int) : Wd := if k = 3 then bs (opL z.toNat) else bs (mkL k.toNat ++ Lib.itoa z)

def toksW (k z : Nat → Int) : Nat → List Wd
  | 0 => []
  | n + 1 => toksW k z n ++ [tokW (k n) (z n)]

def catTo (f : Nat → List Wd) : Nat → List Wd
  | 0 => []
  | n + 1 => catTo f n ++ f n

/-- A statement's words. -/
def stmtW (B : SL → List Wd) (s : Nd) (a b : SL) : List Wd :=
  ((((bs (stL s.kind.toNat) :: (if s.kind = 1 ∨ s.kind = 2 then [numW s.num] else [])) ++ toksW s.ek s.ez s.ne) ++ toksW s.fk s.fz s.nf) ++ (if s.kind = 6 ∨ s.kind = 7 then B a else [])) ++ (if s.kind = 6 then B b else [])

/-- The words of statements between braces. -/
def blkW : Nat → SL → List Wd
  | 0, _ => [obW, cbW]
  | d + 1, T => (obW :: catTo (fun i => stmtW (blkW d) (T.nd i) (T.sub i false) (T.sub i true)) T.len) ++ [cbW]

def funWs (d : Nat) (p l : Int) (T : SL) : List Wd := [funW, numW p, numW l] ++ blkW d T

/-- The words of a program. -/
def progW (nf : Nat) (par loc : Nat → Int) (d : Nat) (body : Nat → SL) : List Wd := catTo (fun i => funWs d (par i) (loc i) (body i)) nf

/-- Its text. -/
def textL (ws : List Wd) : List UInt8 := Lib.join (ws.map (·.data.toList)) [32]

/-- The number that strconv.Atoi hands back. -/
def atoiV (l : List UInt8) : Int := match Lib.atoiAll l with
  | .ok v => v
  | .«syntax» => 0
  | .range => Lib.atoiSat l

/-- The next word, and the words behind it. -/
def hdW (ws : List Wd) : Wd := ws.headD (bs [])
def numR (ws : List Wd) : Int := atoiV (hdW ws).data.toList

/-- The kind of statements that begin with a word; 0: none does. -/
def kindOf (w : Wd) : Nat := ((List.range 9).find? fun k => decide (bs (stL k) = w)).getD 0

def opOf (w : Wd) : Option Nat := (List.range 6).find? fun k => decide (bs (opL k) = w)
def hasMark (w : Wd) (k : Nat) : Bool := !(mkL k).isEmpty && (mkL k).isPrefixOf w.data.toList
def markTo (w : Wd) : Nat → Nat
  | 0 => 1
  | n + 1 => if hasMark w n then n else markTo w n
/-- The token of a word. -/
def tokOf (w : Wd) : Int × Int := match opOf w with
  | some n => (3, (n : Int))
  | none => ((markTo w 7 : Int), atoiV (w.data.toList.drop (mkL (markTo w 7)).length))

/-- How many expressions a token asks for. -/
def asksR (nf : Nat) (par : Nat → Int) (t : Int × Int) : Int :=
  if t.1 = 4 then 1 else if t.1 = 3 then 2 else if t.1 = 6 ∧ 0 ≤ t.2 ∧ t.2 < nf then par t.2.toNat else 0

/-- The tokens of an expression, where so many are asked for still; and the words behind. -/
def exprR (nf : Nat) (par : Nat → Int) : Int → List Wd → List (Int × Int) × List Wd
  | _, [] => ([], [])
  | q, w :: ws => if 0 < q then
      (tokOf w :: (exprR nf par (wrap64 (wrap64 (q + asksR nf par (tokOf w)) - 1)) ws).1, (exprR nf par (wrap64 (wrap64 (q + asksR nf par (tokOf w)) - 1)) ws).2)
    else ([], w :: ws)

/-- A statement, with all in it. -/
structure It where
  nd : Nd
  a : SL
  b : SL

def noSL : SL := fun _ => (0, fun _ => ⟨0, 0, 0, fun _ => 0, fun _ => 0, 0, fun _ => 0, fun _ => 0⟩)
def noIt : It := ⟨⟨0, 0, 0, fun _ => 0, fun _ => 0, 0, fun _ => 0, fun _ => 0⟩, noSL, noSL⟩

/-- A list of statements, of its items. -/
def mkT (l : List It) : SL := fun p => match p with
  | [] => (l.length, fun i => (l.getD i noIt).nd)
  | (i, false) :: q => (l.getD i noIt).a q
  | (i, true) :: q => (l.getD i noIt).b q

theorem mkT_len (l : List It) : (mkT l).len = l.length := rfl
theorem mkT_nd (l : List It) (i : Nat) : (mkT l).nd i = (l.getD i noIt).nd := rfl
theorem mkT_a (l : List It) (i : Nat) : (mkT l).sub i false = (l.getD i noIt).a := rfl
theorem mkT_b (l : List It) (i : Nat) : (mkT l).sub i true = (l.getD i noIt).b := rfl

def mkNd (k n : Int) (e f : List (Int × Int)) : Nd := ⟨k, n, e.length, fun i => (e.getD i (0, 0)).1, fun i => (e.getD i (0, 0)).2, f.length, fun i => (f.getD i (0, 0)).1, fun i => (f.getD i (0, 0)).2⟩

def hasN (k : Nat) : Bool := k == 1 || k == 2
def hasA (k : Nat) : Bool := k == 6 || k == 7

/-- The words behind a statement's parts. -/
def st1 (k : Nat) (ws : List Wd) : List Wd := if hasN k then ws.tail else ws
def st2 (nf : Nat) (par : Nat → Int) (k : Nat) (ws : List Wd) : List (Int × Int) × List Wd := if k = 4 then ([], st1 k ws) else exprR nf par 1 (st1 k ws)
def st3 (nf : Nat) (par : Nat → Int) (k : Nat) (ws : List Wd) : List (Int × Int) × List Wd := if k = 2 then exprR nf par 1 (st2 nf par k ws).2 else ([], (st2 nf par k ws).2)
def st4 (nf : Nat) (par : Nat → Int) (B : List Wd → SL × List Wd) (k : Nat) (ws : List Wd) : SL × List Wd := if hasA k then B (st3 nf par k ws).2 else (noSL, (st3 nf par k ws).2)
def st5 (nf : Nat) (par : Nat → Int) (B : List Wd → SL × List Wd) (k : Nat) (ws : List Wd) : SL × List Wd := if k = 6 then B (st4 nf par B k ws).2 else (noSL, (st4 nf par B k ws).2)
/-- A statement read. -/
def stR (nf : Nat) (par : Nat → Int) (B : List Wd → SL × List Wd) (k : Nat) (ws : List Wd) : It :=
  ⟨mkNd k (if hasN k then numR ws else 0) (st2 nf par k ws).1 (st3 nf par k ws).1, (st4 nf par B k ws).1, (st5 nf par B k ws).1⟩

/-- Statements read, up to what begins none. -/
def loopR (nf : Nat) (par : Nat → Int) : Nat → List Wd → List It × List Wd
  | 0, ws => ([], ws)
  | u + 1, ws => if kindOf (hdW ws) = 0 then ([], ws.tail) else
      (stR nf par (fun ws => (mkT (loopR nf par u ws.tail).1, (loopR nf par u ws.tail).2)) (kindOf (hdW ws)) ws.tail ::
        (loopR nf par u (st5 nf par (fun ws => (mkT (loopR nf par u ws.tail).1, (loopR nf par u ws.tail).2)) (kindOf (hdW ws)) ws.tail).2).1,
       (loopR nf par u (st5 nf par (fun ws => (mkT (loopR nf par u ws.tail).1, (loopR nf par u ws.tail).2)) (kindOf (hdW ws)) ws.tail).2).2)

/-- Statements between braces read. -/
def blkR (nf : Nat) (par : Nat → Int) (u : Nat) (ws : List Wd) : SL × List Wd := (mkT (loopR nf par u ws.tail).1, (loopR nf par u ws.tail).2)

/-- The heads of the functions of words. -/
def headsR : List Wd → List (Int × Int)
  | [] => []
  | w :: ws => if w = funW then (numR ws, numR ws.tail) :: headsR ws else headsR ws

/-- The bodies of so many functions read, one by one: the words left behind j. -/
def leftR (nf : Nat) (par : Nat → Int) (u : Nat) (ws : List Wd) : Nat → List Wd
  | 0 => ws
  | j + 1 => (blkR nf par u (leftR nf par u ws j).tail.tail.tail).2
def bodyR (nf : Nat) (par : Nat → Int) (u : Nat) (ws : List Wd) (j : Nat) : SL := (blkR nf par u (leftR nf par u ws j).tail.tail.tail).1

def rdN (ws : List Wd) : Nat := (headsR ws).length
def rdP (ws : List Wd) (i : Nat) : Int := ((headsR ws).getD i (0, 0)).1
def rdL (ws : List Wd) (i : Nat) : Int := ((headsR ws).getD i (0, 0)).2
def rdB (ws : List Wd) (i : Nat) : SL := bodyR (rdN ws) (rdP ws) (ws.length + 1) ws i

end Go.Proofs.YtfblnmbcaglliabGreatDoor

namespace Go.Proofs.YtfblnmbcaglliabGreatDoor
open Go.RowKit

theorem dig_toNat (d : Nat) (h : d < 10) : (UInt8.ofNat (48 + d)).toNat = 48 + d := by
  simp only [UInt8.toNat_ofNat']; omega

theorem parse_snoc (c : UInt8) : ∀ (l : List UInt8) (acc v : Nat), Lib.parseUint10 acc l = .ok v → Lib.parseUint10 acc (l ++ [c]) = Lib.parseUint10 v [c]
  | [], acc, v, h => by simp only [Lib.parseUint10] at h; injection h with h; subst h; rfl
  | b :: l, acc, v, h => by
    simp only [Lib.parseUint10, List.cons_append] at h ⊢
    split at h
    · next h1 =>
      rw [if_pos h1]
      split at h
      · cases h
      · next h2 =>
        rw [if_neg h2]
        split at h
        · cases h
        · next h3 =>
          rw [if_neg h3]
          exact parse_snoc c l _ v h
    · cases h

theorem parse_digits (u : Nat) (hu : u < 18446744073709551616) : Lib.parseUint10 0 (Lib.decDigits u) = .ok u := by
  induction u using Nat.strongRecOn with
  | _ u ih =>
    by_cases h : u < 10
    · rw [Lib.decDigits_one h]
      simp only [Lib.parseUint10, dig_toNat u h]
      rw [if_pos (by omega), if_neg (by omega), if_neg (by omega)]
      congr 1; omega
    · rw [Lib.decDigits, dif_neg h, parse_snoc _ _ _ _ (ih (u / 10) (by omega) (by omega))]
      simp only [Lib.parseUint10, dig_toNat (u % 10) (by omega)]
      rw [if_pos (by omega), if_neg (by omega), if_neg (by omega)]
      congr 1; omega

/-- A numeral's bytes are digits, and there is one. -/
theorem digits_are (u : Nat) : Lib.decDigits u ≠ [] ∧ ∀ c ∈ Lib.decDigits u, 48 ≤ c.toNat ∧ c.toNat ≤ 57 := by
  induction u using Nat.strongRecOn with
  | _ u ih =>
    by_cases h : u < 10
    · rw [Lib.decDigits_one h]
      refine ⟨by simp, fun c hc => ?_⟩
      rw [List.mem_singleton] at hc
      subst hc
      rw [dig_toNat u h]; omega
    · rw [Lib.decDigits, dif_neg h]
      refine ⟨by simp, fun c hc => ?_⟩
      rcases List.mem_append.1 hc with hc | hc
      · exact (ih (u / 10) (by omega)).2 c hc
      · rw [List.mem_singleton] at hc
        subst hc
        rw [dig_toNat (u % 10) (by omega)]; omega

theorem itoa_bytes (z : Int) : ∃ c r, Lib.itoa z = c :: r ∧ (c.toNat = 45 ∧ r ≠ [] ∨ 48 ≤ c.toNat ∧ c.toNat ≤ 57) ∧ ∀ b ∈ r, 48 ≤ b.toNat ∧ b.toNat ≤ 57 := by
  unfold Lib.itoa
  split
  · obtain ⟨h1, h2⟩ := digits_are z.natAbs
    exact ⟨45, _, rfl, Or.inl ⟨rfl, h1⟩, h2⟩
  · obtain ⟨h1, h2⟩ := digits_are z.toNat
    cases h : Lib.decDigits z.toNat with
    | nil => exact absurd h h1
    | cons c r =>
      rw [h] at h2
      exact ⟨c, r, rfl, Or.inr (h2 c (by simp)), fun b hb => h2 b (by simp [hb])⟩

theorem atoi_itoa (z : Int) (h0 : -9223372036854775808 ≤ z) (h1 : z ≤ 9223372036854775807) : Lib.atoiAll (Lib.itoa z) = .ok z := by
  unfold Lib.itoa
  split
  · next hn =>
    obtain ⟨h2, _⟩ := digits_are z.natAbs
    have h3 : Lib.parseMag (Lib.decDigits z.natAbs) = .ok z.natAbs := by
      unfold Lib.parseMag
      rw [if_neg h2, parse_digits _ (by omega)]
    unfold Lib.atoiAll
    simp only [show (45 : UInt8).toNat = 45 from rfl, or_true, if_true, h3]
    rw [if_neg (by simp), if_neg (by omega)]
    have : -(z.natAbs : Int) = z := by omega
    rw [this]
  · next hn =>
    obtain ⟨h2, h4⟩ := digits_are z.toNat
    have h3 : Lib.parseMag (Lib.decDigits z.toNat) = .ok z.toNat := by
      unfold Lib.parseMag
      rw [if_neg h2, parse_digits _ (by omega)]
    cases h : Lib.decDigits z.toNat with
    | nil => exact absurd h h2
    | cons c r =>
      rw [h] at h3 h4
      have hc := h4 c (by simp)
      unfold Lib.atoiAll
      simp only []
      rw [if_neg (by omega), h3]
      simp only []
      rw [if_neg (by omega), if_neg (by omega), if_neg (by omega)]
      congr 1; omega

theorem atoiV_itoa {z : Int} (h0 : -9223372036854775808 ≤ z) (h1 : z ≤ 9223372036854775807) : atoiV (Lib.itoa z) = z := by
  unfold atoiV; rw [atoi_itoa z h0 h1]

theorem kindOf_st : ∀ k : Nat, 1 ≤ k → k ≤ 8 → kindOf (bs (stL k)) = k := by
  intro k h1 h2
  have : k = 1 ∨ k = 2 ∨ k = 3 ∨ k = 4 ∨ k = 5 ∨ k = 6 ∨ k = 7 ∨ k = 8 := by omega
  rcases this with rfl | rfl | rfl | rfl | rfl | rfl | rfl | rfl <;> decide

theorem kindOf_cb : kindOf cbW = 0 := by decide

/-- An operation's word is none of the others. -/
theorem opOf_none {l : List UInt8} {c : UInt8} {r : List UInt8} (h : l = c :: r) (hc : (c.toNat = 45 ∧ r ≠ []) ∨ (48 ≤ c.toNat ∧ c.toNat ≤ 57) ∨ c.toNat = 118 ∨ c.toNat = 46 ∨ c.toNat = 110 ∨ c.toNat = 102) : opOf (bs l) = none := by
  subst h
  unfold opOf
  rw [List.find?_eq_none]
  intro k hk
  rw [decide_eq_true_iff]
  intro e
  have e := bs_inj e
  have hk : k < 6 := List.mem_range.1 hk
  have : k = 0 ∨ k = 1 ∨ k = 2 ∨ k = 3 ∨ k = 4 ∨ k = 5 := by omega
  rcases this with rfl | rfl | rfl | rfl | rfl | rfl <;> simp only [opL] at e
  · cases e
  · injection e with e1 e2; subst e1; simp at hc
  · injection e with e1 e2; subst e1; subst e2; simp at hc
  · injection e with e1 e2; subst e1; simp at hc
  · injection e with e1 e2; subst e1; simp at hc
  · injection e with e1 e2; subst e1; simp at hc

theorem hasMark_eq (w : Wd) : hasMark w 0 = false ∧ hasMark w 1 = false ∧ hasMark w 3 = false ∧ hasMark w 2 = [(118 : UInt8)].isPrefixOf w.data.toList ∧ hasMark w 4 = [(46 : UInt8)].isPrefixOf w.data.toList ∧ hasMark w 5 = [(110 : UInt8), 101, 119].isPrefixOf w.data.toList ∧ hasMark w 6 = [(102 : UInt8)].isPrefixOf w.data.toList := ⟨rfl, rfl, rfl, rfl, rfl, rfl, rfl⟩

theorem tokOf_tokW {k z : Int} {nf : Nat} {locals : Int} (hl : locals ≤ 6) (hn : nf ≤ 1000) (h : tokErr k z nf locals = 0) : tokOf (tokW k z) = (k, z) := by
  have hz : -9223372036854775808 ≤ z ∧ z ≤ 9223372036854775807 := by
    unfold tokErr at h
    repeat' split at h
    all_goals first | omega | cases h
  have hk : k = 1 ∨ k = 2 ∨ k = 3 ∨ k = 4 ∨ k = 5 ∨ k = 6 := by
    unfold tokErr at h
    by_cases a1 : k = 1
    · omega
    by_cases a2 : k = 2
    · omega
    by_cases a3 : k = 3
    · omega
    by_cases a4 : k = 4
    · omega
    by_cases a5 : k = 5
    · omega
    by_cases a6 : k = 6
    · omega
    rw [if_neg a1, if_neg a2, if_neg a3, if_neg a4, if_neg a5, if_neg a6] at h
    cases h
  obtain ⟨c, r, e, hc, hr⟩ := itoa_bytes z
  have hat := atoiV_itoa hz.1 hz.2
  rcases hk with rfl | rfl | rfl | rfl | rfl | rfl
  · have e0 : tokW 1 z = bs (c :: r) := by unfold tokW; rw [if_neg (by decide), e]; rfl
    rw [e0]
    unfold tokOf
    rw [opOf_none rfl (hc.imp id fun h => Or.inl h)]
    have hm : markTo (bs (c :: r)) 7 = 1 := by
      obtain ⟨m0, m1, m3, m2, m4, m5, m6⟩ := hasMark_eq (bs (c :: r))
      have g2 : hasMark (bs (c :: r)) 2 = false := by
        rw [m2, bs_data]; simp only [List.isPrefixOf, Bool.and_true, beq_eq_false_iff_ne]; rintro rfl; simp at hc
      have g4 : hasMark (bs (c :: r)) 4 = false := by
        rw [m4, bs_data]; simp only [List.isPrefixOf, Bool.and_true, beq_eq_false_iff_ne]; rintro rfl; simp at hc
      have g5 : hasMark (bs (c :: r)) 5 = false := by
        rw [m5, bs_data]; simp only [List.isPrefixOf, Bool.and_eq_false_iff, beq_eq_false_iff_ne]; left; rintro rfl; simp at hc
      have g6 : hasMark (bs (c :: r)) 6 = false := by
        rw [m6, bs_data]; simp only [List.isPrefixOf, Bool.and_true, beq_eq_false_iff_ne]; rintro rfl; simp at hc
      simp [markTo, m0, m1, g2, m3, g4, g5, g6]
    simp only [hm]
    rw [bs_data, ← e]
    show ((1 : Int), atoiV (Lib.itoa z)) = _
    rw [hat]
  · have e0 : tokW 2 z = bs (118 :: Lib.itoa z) := rfl
    rw [e0]
    unfold tokOf
    rw [opOf_none rfl (by simp)]
    have hm : markTo (bs (118 :: Lib.itoa z)) 7 = 2 := by
      obtain ⟨m0, m1, m3, m2, m4, m5, m6⟩ := hasMark_eq (bs (118 :: Lib.itoa z))
      have g2 : hasMark (bs (118 :: Lib.itoa z)) 2 = true := by rw [m2, bs_data]; simp [List.isPrefixOf]
      have g4 : hasMark (bs (118 :: Lib.itoa z)) 4 = false := by rw [m4, bs_data]; simp [List.isPrefixOf]
      have g5 : hasMark (bs (118 :: Lib.itoa z)) 5 = false := by rw [m5, bs_data]; simp [List.isPrefixOf]
      have g6 : hasMark (bs (118 :: Lib.itoa z)) 6 = false := by rw [m6, bs_data]; simp [List.isPrefixOf]
      simp [markTo, g2, m3, g4, g5, g6]
    simp only [hm]
    show ((2 : Int), atoiV (Lib.itoa z)) = _
    rw [hat]
  · have hz5 : z = 1 ∨ z = 2 ∨ z = 3 ∨ z = 4 ∨ z = 5 := by
      unfold tokErr at h
      rw [if_neg (by decide), if_neg (by decide), if_pos rfl] at h
      split at h
      · cases h
      · omega
    rcases hz5 with rfl | rfl | rfl | rfl | rfl <;> decide
  · have e0 : tokW 4 z = bs (46 :: Lib.itoa z) := rfl
    rw [e0]
    unfold tokOf
    rw [opOf_none rfl (by simp)]
    have hm : markTo (bs (46 :: Lib.itoa z)) 7 = 4 := by
      obtain ⟨m0, m1, m3, m2, m4, m5, m6⟩ := hasMark_eq (bs (46 :: Lib.itoa z))
      have g4 : hasMark (bs (46 :: Lib.itoa z)) 4 = true := by rw [m4, bs_data]; simp [List.isPrefixOf]
      have g5 : hasMark (bs (46 :: Lib.itoa z)) 5 = false := by rw [m5, bs_data]; simp [List.isPrefixOf]
      have g6 : hasMark (bs (46 :: Lib.itoa z)) 6 = false := by rw [m6, bs_data]; simp [List.isPrefixOf]
      simp [markTo, g4, g5, g6]
    simp only [hm]
    show ((4 : Int), atoiV (Lib.itoa z)) = _
    rw [hat]
  · have e0 : tokW 5 z = bs (110 :: 101 :: 119 :: Lib.itoa z) := rfl
    rw [e0]
    unfold tokOf
    rw [opOf_none rfl (by simp)]
    have hm : markTo (bs (110 :: 101 :: 119 :: Lib.itoa z)) 7 = 5 := by
      obtain ⟨m0, m1, m3, m2, m4, m5, m6⟩ := hasMark_eq (bs (110 :: 101 :: 119 :: Lib.itoa z))
      have g5 : hasMark (bs (110 :: 101 :: 119 :: Lib.itoa z)) 5 = true := by rw [m5, bs_data]; simp [List.isPrefixOf]
      have g6 : hasMark (bs (110 :: 101 :: 119 :: Lib.itoa z)) 6 = false := by rw [m6, bs_data]; simp [List.isPrefixOf]
      simp [markTo, g5, g6]
    simp only [hm]
    show ((5 : Int), atoiV (Lib.itoa z)) = _
    rw [hat]
  · have e0 : tokW 6 z = bs (102 :: Lib.itoa z) := rfl
    rw [e0]
    unfold tokOf
    rw [opOf_none rfl (by simp)]
    have hm : markTo (bs (102 :: Lib.itoa z)) 7 = 6 := by
      obtain ⟨m0, m1, m3, m2, m4, m5, m6⟩ := hasMark_eq (bs (102 :: Lib.itoa z))
      have g6 : hasMark (bs (102 :: Lib.itoa z)) 6 = true := by rw [m6, bs_data]; simp [List.isPrefixOf]
      simp [markTo, g6]
    simp only [hm]
    show ((6 : Int), atoiV (Lib.itoa z)) = _
    rw [hat]

end Go.Proofs.YtfblnmbcaglliabGreatDoor

namespace Go.Proofs.YtfblnmbcaglliabGreatDoor
open Go.RowKit

/-- m things from i on, one by one. -/
def catF {α : Type} (f : Nat → List α) : Nat → Nat → List α
  | _, 0 => []
  | i, m + 1 => f i ++ catF f (i + 1) m

theorem catF_snoc {α : Type} (f : Nat → List α) : ∀ (m i : Nat), catF f i (m + 1) = catF f i m ++ f (i + m)
  | 0, i => by simp [catF]
  | m + 1, i => by
    rw [catF, catF_snoc f m (i + 1), catF, List.append_assoc, show i + 1 + m = i + (m + 1) by omega]

theorem catTo_eq (f : Nat → List Wd) : ∀ n, catTo f n = catF f 0 n
  | 0 => rfl
  | n + 1 => by rw [catTo, catF_snoc, catTo_eq f n, Nat.zero_add]

theorem toksW_eq (k z : Nat → Int) : ∀ n, toksW k z n = catF (fun i => [tokW (k i) (z i)]) 0 n
  | 0 => rfl
  | n + 1 => by rw [toksW, catF_snoc, toksW_eq k z n, Nat.zero_add]

def pairs (k z : Nat → Int) (i m : Nat) : List (Int × Int) := catF (fun i => [(k i, z i)]) i m
theorem pairs_length (k z : Nat → Int) : ∀ (m i : Nat), (pairs k z i m).length = m
  | 0, _ => rfl
  | m + 1, i => by show (pairs k z (i + 1) m).length + 1 = m + 1; rw [pairs_length k z m]
theorem pairs_at (k z : Nat → Int) : ∀ (m i j : Nat), j < m → (pairs k z i m).getD j (0, 0) = (k (i + j), z (i + j))
  | 0, _, _, h => absurd h (Nat.not_lt_zero _)
  | m + 1, i, 0, _ => rfl
  | m + 1, i, j + 1, h => by
    show (pairs k z (i + 1) m).getD j (0, 0) = _
    rw [pairs_at k z m (i + 1) j (by omega), show i + 1 + j = i + (j + 1) by omega]

theorem asksR_eq {k z : Int} {nf : Nat} {locals : Int} {par : Nat → Int} (h : tokErr k z nf locals = 0) : asksR nf par (k, z) = asksOf k z par := by
  unfold asksR asksOf
  by_cases a3 : k = 3
  · rw [if_neg (by simp; omega), if_pos (by simp; omega), if_pos a3]
  by_cases a4 : k = 4
  · rw [if_pos (by simp; omega), if_neg a3, if_pos a4]
  by_cases a6 : k = 6
  · have := tokErr_call h a6
    rw [if_neg (by simp; omega), if_neg (by simp; omega), if_pos ⟨a6, this.1, by simp; omega⟩, if_neg a3, if_neg a4, if_pos a6]
  · rw [if_neg (by simp; omega), if_neg (by simp; omega), if_neg (by simp; omega), if_neg a3, if_neg a4, if_neg a6]

theorem wrap_small {n : Int} (h0 : -1000000 ≤ n) (h1 : n ≤ 1000000) : wrap64 n = n := by unfold wrap64; omega

theorem exprR_zero (nf : Nat) (par : Nat → Int) (rest : List Wd) : exprR nf par 0 rest = ([], rest) := by
  cases rest with
  | nil => rfl
  | cons w ws => rw [exprR, if_neg (by omega)]

/-- Where nothing is wrong, each token is right, some expression is asked for ahead of it, and none behind the last. -/
theorem exprErr_zero {n : Nat} {k z : Nat → Int} {nf : Nat} {par : Nat → Int} {locals : Int} (h : exprErr n k z nf par locals = 0) :
    n ≤ 24 ∧ (∀ i, i < nf → parErr (par i) = 0) ∧ (∀ j, j < n → stepErr k z nf par locals j = 0) ∧ ¬ 0 < asked k z par n := by
  by_cases h1 : 24 < n
  · rw [exprErr_many h1] at h; cases h
  have h2 : firstErr nf (fun i => parErr (par i)) = 0 := by
    unfold exprErr at h
    rw [if_neg h1] at h
    by_cases c : firstErr nf (fun i => parErr (par i)) = 0
    · exact c
    · rw [if_neg c] at h; cases h
  have h2' := firstErr_is_zero h2
  have h3 : firstErr n (stepErr k z nf par locals) = 0 := by
    unfold exprErr at h
    rw [if_neg h1, if_pos h2] at h
    by_cases c : firstErr n (stepErr k z nf par locals) = 0
    · exact c
    · rw [if_neg c] at h; exact absurd h c
  have h3' := firstErr_is_zero h3
  refine ⟨by omega, h2', h3', fun c => ?_⟩
  rw [exprErr_end h1 h2' h3', if_pos c] at h
  cases h

theorem exprR_from {n : Nat} {k z : Nat → Int} {nf : Nat} {par : Nat → Int} {locals : Int} (hl : locals ≤ 6) (hnf : nf ≤ 1000) (h : exprErr n k z nf par locals = 0) (rest : List Wd) :
    ∀ (m i : Nat), i + m = n → exprR nf par (asked k z par i) (catF (fun i => [tokW (k i) (z i)]) i m ++ rest) = (pairs k z i m, rest) := by
  obtain ⟨h1, h2, h3, h4⟩ := exprErr_zero h
  intro m
  induction m with
  | zero =>
    intro i hi
    obtain rfl : i = n := by omega
    have := asked_range h2 i fun x hx => h3 x hx
    have e : asked k z par i = 0 := by omega
    rw [e]
    exact exprR_zero nf par rest
  | succ m ih =>
    intro i hi
    have s := h3 i (by omega)
    obtain ⟨t1, t2⟩ := stepErr_tok s
    have r1 := asked_range h2 i fun x hx => h3 x (by omega)
    have r2 := asked_range h2 (i + 1) fun x hx => h3 x (by omega)
    have r3 := asks_range t1 h2
    have ih := ih (i + 1) (by omega)
    have e1 := tokOf_tokW hl hnf t1
    have e2 : asked k z par (i + 1) = asked k z par i + (asksOf (k i) (z i) par - 1) := rfl
    show exprR nf par (asked k z par i) (tokW (k i) (z i) :: (catF (fun i => [tokW (k i) (z i)]) (i + 1) m ++ rest)) = _
    rw [exprR, if_pos (by omega), e1, asksR_eq t1, wrap_small (n := asked k z par i + asksOf (k i) (z i) par) (by omega) (by omega), wrap_small (by omega) (by omega),
      show asked k z par i + asksOf (k i) (z i) par - 1 = asked k z par (i + 1) by omega, ih]
    rfl

theorem exprR_text {n : Nat} {k z : Nat → Int} {nf : Nat} {par : Nat → Int} {locals : Int} (hl : locals ≤ 6) (hnf : nf ≤ 1000) (h : exprErr n k z nf par locals = 0) (rest : List Wd) :
    exprR nf par 1 (toksW k z n ++ rest) = (pairs k z 0 n, rest) := by
  rw [toksW_eq]
  exact exprR_from hl hnf h rest n 0 (by omega)

theorem eqV_pairs (n : Nat) (k z : Nat → Int) : eqV n (pairs k z 0 n).length k z (fun i => ((pairs k z 0 n).getD i (0, 0)).1) (fun i => ((pairs k z 0 n).getD i (0, 0)).2) = true := by
  rw [pairs_length]
  refine eqV_yes fun i hi => ?_
  rw [pairs_at k z n 0 i hi, Nat.zero_add]
  exact ⟨rfl, rfl⟩

theorem formErr_zero {s : Nd} {la lb : Nat} (h : formErr s la lb = 0) : 1 ≤ s.kind ∧ s.kind ≤ 8 ∧ (s.num = 0 ∨ s.kind = 1 ∨ s.kind = 2) ∧ (s.ne = 0 ∨ ¬ s.kind = 4) ∧ (s.nf = 0 ∨ s.kind = 2) ∧ (la = 0 ∨ s.kind = 6 ∨ s.kind = 7) ∧ (lb = 0 ∨ s.kind = 6) := by
  unfold formErr at h
  split at h
  · cases h
  · next hc => omega

theorem stErr_zero {nf : Nat} {par : Nat → Int} {locals : Int} {s : Nd} {la lb : Nat} (h : stErr nf par locals s la lb = 0) :
    formErr s la lb = 0 ∧ numErr s locals = 0 ∧ (s.kind = 4 ∨ exprErr s.ne s.ek s.ez nf par locals = 0) ∧ (¬ s.kind = 2 ∨ exprErr s.nf s.fk s.fz nf par locals = 0) := by
  unfold stErr at h
  by_cases h1 : formErr s la lb = 0
  · rw [if_pos h1] at h
    by_cases h2 : numErr s locals = 0
    · rw [if_pos h2] at h
      by_cases h3 : s.kind = 4
      · exact ⟨h1, h2, Or.inl h3, Or.inl (by omega)⟩
      · rw [if_neg h3] at h
        by_cases h4 : exprErr s.ne s.ek s.ez nf par locals = 0
        · rw [if_pos h4] at h
          by_cases h5 : s.kind = 2
          · rw [if_pos h5] at h; exact ⟨h1, h2, Or.inr h4, Or.inr h⟩
          · exact ⟨h1, h2, Or.inr h4, Or.inl h5⟩
        · rw [if_neg h4] at h; exact absurd h h4
    · rw [if_neg h2] at h; cases h
  · rw [if_neg h1] at h; cases h

theorem eqS_none : ∀ {d : Nat} {T : SL}, T.len = 0 → eqS d T noSL = true
  | 0, _, _ => rfl
  | d + 1, T, h => by
    rw [eqS_all (show T.len = noSL.len from h), h]; rfl

/-- One statement, read behind its first word. -/
theorem stR_text {nf : Nat} {par : Nat → Int} {locals : Int} (hl : locals ≤ 6) (hnf : nf ≤ 1000) (d : Nat) (s : Nd) (a b : SL) (h : stErr nf par locals s a.len b.len = 0) (B : List Wd → SL × List Wd) (rest : List Wd)
    (hA : s.kind = 6 ∨ s.kind = 7 → ∀ r, r = (if s.kind = 6 then blkW d b else []) ++ rest → (B (blkW d a ++ r)).2 = r ∧ eqS d a (B (blkW d a ++ r)).1 = true)
    (hB : s.kind = 6 → (B (blkW d b ++ rest)).2 = rest ∧ eqS d b (B (blkW d b ++ rest)).1 = true) :
    (st5 nf par B s.kind.toNat ((stmtW (blkW d) s a b).tail ++ rest)).2 = rest ∧ eqH s (stR nf par B s.kind.toNat ((stmtW (blkW d) s a b).tail ++ rest)).nd = true ∧
      eqS d a (stR nf par B s.kind.toNat ((stmtW (blkW d) s a b).tail ++ rest)).a = true ∧ eqS d b (stR nf par B s.kind.toNat ((stmtW (blkW d) s a b).tail ++ rest)).b = true := by
  obtain ⟨f0, f1, f2, f3⟩ := stErr_zero h
  obtain ⟨k1, k2, kn, ke, kf, ka, kb⟩ := formErr_zero f0
  have hkk : ((s.kind.toNat : Nat) : Int) = s.kind := by omega
  have hw : (stmtW (blkW d) s a b).tail ++ rest = (if s.kind = 1 ∨ s.kind = 2 then [numW s.num] else []) ++ (toksW s.ek s.ez s.ne ++ (toksW s.fk s.fz s.nf ++ ((if s.kind = 6 ∨ s.kind = 7 then blkW d a else []) ++ ((if s.kind = 6 then blkW d b else []) ++ rest)))) := by
    simp [stmtW, List.append_assoc]
  rw [hw]
  generalize hR5 : (if s.kind = 6 then blkW d b else []) ++ rest = R5
  generalize hR4 : (if s.kind = 6 ∨ s.kind = 7 then blkW d a else []) ++ R5 = R4
  generalize hR3 : toksW s.fk s.fz s.nf ++ R4 = R3
  generalize hR2 : toksW s.ek s.ez s.ne ++ R3 = R2
  have hN : hasN s.kind.toNat = decide (s.kind = 1 ∨ s.kind = 2) := by
    unfold hasN
    by_cases c1 : s.kind = 1
    · rw [c1]; rfl
    · by_cases c2 : s.kind = 2
      · rw [c2]; rfl
      · simp [c1, c2]; omega
  have hAA : hasA s.kind.toNat = decide (s.kind = 6 ∨ s.kind = 7) := by
    unfold hasA
    by_cases c1 : s.kind = 6
    · rw [c1]; rfl
    · by_cases c2 : s.kind = 7
      · rw [c2]; rfl
      · simp [c1, c2]; omega
  have e1 : st1 s.kind.toNat ((if s.kind = 1 ∨ s.kind = 2 then [numW s.num] else []) ++ R2) = R2 := by
    unfold st1
    rw [hN]
    by_cases c : s.kind = 1 ∨ s.kind = 2
    · rw [if_pos c, if_pos (by simpa using c)]; rfl
    · rw [if_neg c, if_neg (by simpa using c)]; rfl
  have en : (if hasN s.kind.toNat then numR ((if s.kind = 1 ∨ s.kind = 2 then [numW s.num] else []) ++ R2) else 0) = s.num := by
    rw [hN]
    by_cases c : s.kind = 1 ∨ s.kind = 2
    · rw [if_pos c, if_pos (by simpa using c)]
      show atoiV (Lib.itoa s.num) = s.num
      unfold numErr at f1
      have hz : -9223372036854775808 ≤ s.num ∧ s.num ≤ 9223372036854775807 := by
        split at f1
        · cases f1
        · omega
      exact atoiV_itoa hz.1 hz.2
    · rw [if_neg (by simpa using c)]; omega
  generalize (if s.kind = 1 ∨ s.kind = 2 then [numW s.num] else []) ++ R2 = W at *
  have e2 : st2 nf par s.kind.toNat W = (pairs s.ek s.ez 0 s.ne, R3) := by
    unfold st2
    rw [e1]
    by_cases c : s.kind = 4
    · have hz : s.ne = 0 := by omega
      rw [if_pos (by omega), ← hR2, hz]; rfl
    · rw [if_neg (by omega), ← hR2]
      exact exprR_text hl hnf (f2.resolve_left c) R3
  have e3 : st3 nf par s.kind.toNat W = (pairs s.fk s.fz 0 s.nf, R4) := by
    unfold st3
    rw [e2]
    by_cases c : s.kind = 2
    · rw [if_pos (by omega), ← hR3]
      exact exprR_text hl hnf (f3.resolve_left fun x => x c) R4
    · have hz : s.nf = 0 := by omega
      rw [if_neg (by omega), ← hR3, hz]; rfl
  have e4 : (st4 nf par B s.kind.toNat W).2 = R5 ∧ eqS d a (st4 nf par B s.kind.toNat W).1 = true := by
    unfold st4
    rw [e3, hAA]
    by_cases c : s.kind = 6 ∨ s.kind = 7
    · rw [if_pos (by simpa using c), ← hR4, if_pos c]
      exact hA c R5 hR5.symm
    · rw [if_neg (by simpa using c), ← hR4, if_neg c]
      exact ⟨rfl, eqS_none (by omega)⟩
  have e5 : (st5 nf par B s.kind.toNat W).2 = rest ∧ eqS d b (st5 nf par B s.kind.toNat W).1 = true := by
    unfold st5
    rw [e4.1]
    by_cases c : s.kind = 6
    · rw [if_pos (by omega), ← hR5, if_pos c]
      exact hB c
    · rw [if_neg (by omega), ← hR5, if_neg c]
      exact ⟨rfl, eqS_none (by omega)⟩
  refine ⟨e5.1, ?_, e4.2, e5.2⟩
  unfold eqH stR
  simp only [mkNd]
  rw [en, e2, e3, eqV_pairs, eqV_pairs]
  simp [hkk]

theorem errs_item {E : Nd → Nat → Nat → Int} {d : Nat} {T : SL} (h : errs E (d + 1) T = 0) {i : Nat} (hi : i < T.len) :
    E (T.nd i) (T.sub i false).len (T.sub i true).len = 0 ∧ errs E d (T.sub i false) = 0 ∧ errs E d (T.sub i true) = 0 := by
  have h1 := firstErr_is_zero h i hi
  split at h1
  · next h2 =>
    split at h1
    · next h3 => exact ⟨h2, h3, h1⟩
    · next h3 => exact absurd h1 h3
  · next h2 => exact absurd h1 h2

theorem stmtW_head (B : SL → List Wd) (s : Nd) (a b : SL) (rest : List Wd) : stmtW B s a b ++ rest = bs (stL s.kind.toNat) :: ((stmtW B s a b).tail ++ rest) := by
  simp [stmtW]

theorem tail_length {ws : List Wd} {n : Nat} (h : ws.length ≤ n) : ws.tail.length ≤ n := by
  rw [List.length_tail]; omega

/-- Statements, up to the brace behind them. -/
theorem loopR_text {nf : Nat} {par : Nat → Int} {locals : Int} (hl : locals ≤ 6) (hnf : nf ≤ 1000) : ∀ (d : Nat) (T : SL), errs (stErr nf par locals) d T = 0 → ∀ (u : Nat) (rest : List Wd), (blkW d T ++ rest).length ≤ u + 1 →
    (blkR nf par u (blkW d T ++ rest)).2 = rest ∧ eqS d T (blkR nf par u (blkW d T ++ rest)).1 = true
  | 0, T, _, u, rest, hu => by
    cases u with
    | zero => simp [blkW] at hu
    | succ u =>
      have e : loopR nf par (u + 1) (cbW :: rest) = ([], rest) := by
        rw [loopR, if_pos (show kindOf (hdW (cbW :: rest)) = 0 from kindOf_cb)]; rfl
      show (loopR nf par (u + 1) (cbW :: rest)).2 = rest ∧ _
      rw [e]; exact ⟨rfl, rfl⟩
  | d + 1, T, he, u, rest, hu => by
    have key : ∀ (m i u : Nat), i + m = T.len → (catF (fun i => stmtW (blkW d) (T.nd i) (T.sub i false) (T.sub i true)) i m ++ cbW :: rest).length ≤ u →
        ∃ its, loopR nf par u (catF (fun i => stmtW (blkW d) (T.nd i) (T.sub i false) (T.sub i true)) i m ++ cbW :: rest) = (its, rest) ∧ its.length = m ∧
          ∀ j, j < m → eqH (T.nd (i + j)) (its.getD j noIt).nd = true ∧ eqS d (T.sub (i + j) false) (its.getD j noIt).a = true ∧ eqS d (T.sub (i + j) true) (its.getD j noIt).b = true := by
      intro m
      induction m with
      | zero =>
        intro i u _ hu
        cases u with
        | zero => simp [catF] at hu
        | succ u =>
          refine ⟨[], ?_, rfl, fun j hj => absurd hj (Nat.not_lt_zero _)⟩
          show loopR nf par (u + 1) (cbW :: rest) = ([], rest)
          rw [loopR, if_pos (show kindOf (hdW (cbW :: rest)) = 0 from kindOf_cb)]; rfl
      | succ m ih =>
        intro i u hi hu
        obtain ⟨s0, s1, s2⟩ := errs_item he (i := i) (by omega)
        obtain ⟨k1, k2, _⟩ := formErr_zero (stErr_zero s0).1
        rw [catF, List.append_assoc, stmtW_head] at hu ⊢
        generalize hR : catF (fun i => stmtW (blkW d) (T.nd i) (T.sub i false) (T.sub i true)) (i + 1) m ++ cbW :: rest = R at *
        cases u with
        | zero => simp at hu
        | succ u =>
          have hk : kindOf (hdW (bs (stL (T.nd i).kind.toNat) :: ((stmtW (blkW d) (T.nd i) (T.sub i false) (T.sub i true)).tail ++ R))) = (T.nd i).kind.toNat := kindOf_st _ (by omega) (by omega)
          have hlen : ((stmtW (blkW d) (T.nd i) (T.sub i false) (T.sub i true)).tail ++ R).length ≤ u := by simpa using hu
          have hw : (stmtW (blkW d) (T.nd i) (T.sub i false) (T.sub i true)).tail ++ R = (if (T.nd i).kind = 1 ∨ (T.nd i).kind = 2 then [numW (T.nd i).num] else []) ++ (toksW (T.nd i).ek (T.nd i).ez (T.nd i).ne ++ (toksW (T.nd i).fk (T.nd i).fz (T.nd i).nf ++ ((if (T.nd i).kind = 6 ∨ (T.nd i).kind = 7 then blkW d (T.sub i false) else []) ++ ((if (T.nd i).kind = 6 then blkW d (T.sub i true) else []) ++ R)))) := by
            simp [stmtW, List.append_assoc]
          have hRl : R.length ≤ u := by rw [List.length_append] at hlen; omega
          have hAl : (T.nd i).kind = 6 ∨ (T.nd i).kind = 7 → (blkW d (T.sub i false) ++ ((if (T.nd i).kind = 6 then blkW d (T.sub i true) else []) ++ R)).length ≤ u := by
            intro c
            rw [hw, if_pos c] at hlen
            simp only [List.length_append] at hlen ⊢
            omega
          have hBl : (T.nd i).kind = 6 → (blkW d (T.sub i true) ++ R).length ≤ u := by
            intro c
            have := hAl (Or.inl c)
            rw [if_pos c] at this
            simp only [List.length_append] at this ⊢
            omega
          obtain ⟨r1, r2, r3, r4⟩ := stR_text hl hnf d (T.nd i) (T.sub i false) (T.sub i true) s0 (blkR nf par u) R
            (fun c r er => by subst er; exact loopR_text hl hnf d _ s1 u _ (Nat.le_succ_of_le (hAl c))) (fun c => loopR_text hl hnf d _ s2 u _ (Nat.le_succ_of_le (hBl c)))
          obtain ⟨its, i1, i2, i3⟩ := ih (i + 1) u (by omega) (by rw [hR]; exact hRl)
          rw [hR] at i1
          refine ⟨stR nf par (blkR nf par u) (T.nd i).kind.toNat ((stmtW (blkW d) (T.nd i) (T.sub i false) (T.sub i true)).tail ++ R) :: its, ?_, by simp [i2], fun j hj => ?_⟩
          · rw [loopR, hk, if_neg (by omega)]
            show (stR nf par (blkR nf par u) _ ((stmtW (blkW d) (T.nd i) (T.sub i false) (T.sub i true)).tail ++ R) :: (loopR nf par u (st5 nf par (blkR nf par u) _ ((stmtW (blkW d) (T.nd i) (T.sub i false) (T.sub i true)).tail ++ R)).2).1, (loopR nf par u (st5 nf par (blkR nf par u) _ ((stmtW (blkW d) (T.nd i) (T.sub i false) (T.sub i true)).tail ++ R)).2).2) = _
            rw [r1, i1]
          · cases j with
            | zero => exact ⟨r2, r3, r4⟩
            | succ j =>
              have := i3 j (by omega)
              rw [show i + 1 + j = i + (j + 1) by omega] at this
              exact this
    have e0 : blkW (d + 1) T ++ rest = obW :: (catF (fun i => stmtW (blkW d) (T.nd i) (T.sub i false) (T.sub i true)) 0 T.len ++ cbW :: rest) := by
      rw [blkW, catTo_eq]; simp
    rw [e0] at hu ⊢
    obtain ⟨its, i1, i2, i3⟩ := key T.len 0 u (by omega) (by simpa using hu)
    show (loopR nf par u (catF (fun i => stmtW (blkW d) (T.nd i) (T.sub i false) (T.sub i true)) 0 T.len ++ cbW :: rest)).2 = rest ∧ eqS (d + 1) T (mkT (loopR nf par u (catF (fun i => stmtW (blkW d) (T.nd i) (T.sub i false) (T.sub i true)) 0 T.len ++ cbW :: rest)).1) = true
    rw [i1]
    refine ⟨rfl, ?_⟩
    rw [eqS_all (by rw [mkT_len, i2])]
    refine allTo_iff.2 fun j hj => ?_
    obtain ⟨a1, a2, a3⟩ := i3 j hj
    rw [Nat.zero_add] at a1 a2 a3
    unfold eqI
    rw [mkT_nd, mkT_a, mkT_b, a1, a2, a3]
    rfl

end Go.Proofs.YtfblnmbcaglliabGreatDoor

namespace Go.Proofs.YtfblnmbcaglliabGreatDoor
open Go.RowKit

theorem prog_zero {nf : Nat} {par loc : Nat → Int} {d : Nat} {body : Nat → SL} (h : progErr nf par loc d body = 0) : 1 ≤ nf ∧ nf ≤ 4 ∧ (∀ i, i < nf → headErr i (par i) (loc i) = 0) ∧ ∀ i, i < nf → bodyErr nf par (loc i) d (body i) = 0 := by
  unfold progErr at h
  by_cases h1 : nf < 1 ∨ 4 < nf
  · rw [if_pos h1] at h; cases h
  · rw [if_neg h1] at h
    by_cases h2 : firstErr nf (fun i => headErr i (par i) (loc i)) = 0
    · rw [if_pos h2] at h
      exact ⟨by omega, by omega, firstErr_is_zero h2, firstErr_is_zero h⟩
    · rw [if_neg h2] at h; cases h

/-! ### What no word is -/

/-- A word without a blank, other than 'fun'. -/
def plainW (w : Wd) : Prop := w ≠ funW ∧ ¬ (32 : UInt8) ∈ w.data.toList

theorem itoa_plain (p : List UInt8) (z : Int) (hp : ¬ (32 : UInt8) ∈ p) (hf : p = [] ∨ p = [118] ∨ p = [46] ∨ p = [110, 101, 119] ∨ p = [102]) : plainW (bs (p ++ Lib.itoa z)) := by
  obtain ⟨c, r, e, hc, hr⟩ := itoa_bytes z
  rw [e]
  refine ⟨fun h => ?_, fun h => ?_⟩
  · have h := bs_inj h
    rcases hf with rfl | rfl | rfl | rfl | rfl
    · injection h with h1 h2; subst h1; simp at hc
    · injection h with h1 h2; cases h1
    · injection h with h1 h2; cases h1
    · injection h with h1 h2; cases h1
    · injection h with h1 h2; injection h2 with h2 h3; subst h2; simp at hc
  · rw [bs_data, List.mem_append, List.mem_cons] at h
    rcases h with h | h | h
    · exact hp h
    · subst h; simp at hc
    · have := hr _ h; simp at this

theorem numW_plain (z : Int) : plainW (numW z) := itoa_plain [] z (by simp) (Or.inl rfl)

theorem tokW_plain {k z : Int} {nf : Nat} {locals : Int} (h : tokErr k z nf locals = 0) : plainW (tokW k z) := by
  unfold tokW
  split
  · next hk =>
    subst hk
    have hz5 : z = 1 ∨ z = 2 ∨ z = 3 ∨ z = 4 ∨ z = 5 := by
      unfold tokErr at h
      rw [if_neg (by decide), if_neg (by decide), if_pos rfl] at h
      split at h
      · cases h
      · omega
    rcases hz5 with rfl | rfl | rfl | rfl | rfl <;> exact ⟨by decide, by decide⟩
  · next hk =>
    have : k.toNat = 0 ∨ k.toNat = 1 ∨ k.toNat = 2 ∨ k.toNat = 3 ∨ k.toNat = 4 ∨ k.toNat = 5 ∨ k.toNat = 6 ∨ 7 ≤ k.toNat := by omega
    have hm : mkL k.toNat = [] ∨ mkL k.toNat = [118] ∨ mkL k.toNat = [46] ∨ mkL k.toNat = [110, 101, 119] ∨ mkL k.toNat = [102] := by
      rcases this with e | e | e | e | e | e | e | e
      · rw [e]; exact Or.inl rfl
      · rw [e]; exact Or.inl rfl
      · rw [e]; exact Or.inr (Or.inl rfl)
      · rw [e]; exact Or.inl rfl
      · rw [e]; exact Or.inr (Or.inr (Or.inl rfl))
      · rw [e]; exact Or.inr (Or.inr (Or.inr (Or.inl rfl)))
      · rw [e]; exact Or.inr (Or.inr (Or.inr (Or.inr rfl)))
      · left; unfold mkL; split <;> first | omega | rfl
    refine itoa_plain _ z ?_ hm
    rcases hm with e | e | e | e | e <;> rw [e] <;> decide

theorem stL_plain (k : Nat) : plainW (bs (stL k)) := by
  by_cases h : k ≤ 8
  · have : k = 0 ∨ k = 1 ∨ k = 2 ∨ k = 3 ∨ k = 4 ∨ k = 5 ∨ k = 6 ∨ k = 7 ∨ k = 8 := by omega
    rcases this with rfl | rfl | rfl | rfl | rfl | rfl | rfl | rfl | rfl <;> exact ⟨by decide, by decide⟩
  · have e : stL k = [] := by unfold stL; split <;> first | omega | rfl
    rw [e]; exact ⟨by decide, by decide⟩

theorem toksW_plain {k z : Nat → Int} {nf : Nat} {locals : Int} : ∀ {n : Nat}, (∀ j, j < n → tokErr (k j) (z j) nf locals = 0) → ∀ w ∈ toksW k z n, plainW w
  | 0, _, w, hw => by cases hw
  | n + 1, h, w, hw => by
    rcases List.mem_append.1 hw with hw | hw
    · exact toksW_plain (fun j hj => h j (by omega)) w hw
    · rw [List.mem_singleton] at hw; subst hw; exact tokW_plain (h n (by omega))

theorem catTo_mem {f : Nat → List Wd} {w : Wd} : ∀ {n : Nat}, w ∈ catTo f n → ∃ i, i < n ∧ w ∈ f i
  | 0, h => by cases h
  | n + 1, h => by
    rcases List.mem_append.1 h with h | h
    · obtain ⟨i, hi, hw⟩ := catTo_mem h
      exact ⟨i, by omega, hw⟩
    · exact ⟨n, by omega, h⟩

theorem expr_toks {n : Nat} {k z : Nat → Int} {nf : Nat} {par : Nat → Int} {locals : Int} (h : exprErr n k z nf par locals = 0) : ∀ j, j < n → tokErr (k j) (z j) nf locals = 0 :=
  fun j hj => (stepErr_tok ((exprErr_zero h).2.2.1 j hj)).1

theorem blkW_plain {nf : Nat} {par : Nat → Int} {locals : Int} : ∀ {d : Nat} {T : SL}, errs (stErr nf par locals) d T = 0 → ∀ w ∈ blkW d T, plainW w
  | 0, T, _, w, hw => by
    have : w = obW ∨ w = cbW := by simpa [blkW] using hw
    rcases this with rfl | rfl <;> exact ⟨by decide, by decide⟩
  | d + 1, T, h, w, hw => by
    rw [blkW, List.cons_append, List.mem_cons, List.mem_append, List.mem_singleton] at hw
    rcases hw with rfl | hw | rfl
    · exact ⟨by decide, by decide⟩
    · obtain ⟨i, hi, hw⟩ := catTo_mem hw
      obtain ⟨s0, s1, s2⟩ := errs_item h hi
      obtain ⟨f0, f1, f2, f3⟩ := stErr_zero s0
      obtain ⟨k1, k2, kn, ke, kf, ka, kb⟩ := formErr_zero f0
      simp only [stmtW, List.mem_append, List.mem_cons] at hw
      rcases hw with ((((rfl | hw) | hw) | hw) | hw) | hw
      · exact stL_plain _
      · split at hw
        · rw [List.mem_singleton] at hw; subst hw; exact numW_plain _
        · cases hw
      · by_cases c : (T.nd i).kind = 4
        · have hz : (T.nd i).ne = 0 := by omega
          rw [hz] at hw; cases hw
        · exact toksW_plain (expr_toks (f2.resolve_left c)) w hw
      · by_cases c : (T.nd i).kind = 2
        · exact toksW_plain (expr_toks (f3.resolve_left fun x => x c)) w hw
        · have hz : (T.nd i).nf = 0 := by omega
          rw [hz] at hw; cases hw
      · split at hw
        · exact blkW_plain s1 w hw
        · cases hw
      · split at hw
        · exact blkW_plain s2 w hw
        · cases hw
    · exact ⟨by decide, by decide⟩

/-! ### The heads -/

theorem headsR_plain (rest : List Wd) : ∀ {ws : List Wd}, (∀ w ∈ ws, plainW w) → headsR (ws ++ rest) = headsR rest
  | [], _ => rfl
  | w :: ws, h => by
    rw [List.cons_append, headsR, if_neg (h w (by simp)).1]
    exact headsR_plain rest fun x hx => h x (by simp [hx])

theorem numR_num {z : Int} (h0 : -9223372036854775808 ≤ z) (h1 : z ≤ 9223372036854775807) (r : List Wd) : numR (numW z :: r) = z := atoiV_itoa h0 h1

theorem bodyErr_errs {nf : Nat} {par : Nat → Int} {locals : Int} {d : Nat} {T : SL} (h : bodyErr nf par locals d T = 0) : sound d T ∧ errs (stErr nf par locals) d T = 0 := by
  unfold bodyErr at h
  by_cases c : (wk look1 d T 1 0).1 = 0
  · rw [if_pos c] at h; exact ⟨wk1_iff.1 c, h⟩
  · rw [if_neg c] at h; cases h

theorem head_range {i : Nat} {p l : Int} (h : headErr i p l = 0) : 0 ≤ p ∧ p ≤ 3 ∧ p ≤ l ∧ l ≤ 6 := by
  unfold headErr at h
  split at h
  · cases h
  · omega

/-- The words from function i on. -/
def fromW (_nf : Nat) (par loc : Nat → Int) (d : Nat) (body : Nat → SL) (i m : Nat) : List Wd := catF (fun i => funWs d (par i) (loc i) (body i)) i m

theorem heads_from {nf : Nat} {par loc : Nat → Int} {d : Nat} {body : Nat → SL} (h : progErr nf par loc d body = 0) : ∀ (m i : Nat), i + m = nf → headsR (fromW nf par loc d body i m) = pairs par loc i m
  | 0, _, _ => rfl
  | m + 1, i, hi => by
    obtain ⟨_, _, hh, hb⟩ := prog_zero h
    have r := head_range (hh i (by omega))
    have e : fromW nf par loc d body i (m + 1) = funW :: numW (par i) :: numW (loc i) :: (blkW d (body i) ++ fromW nf par loc d body (i + 1) m) := by
      simp [fromW, catF, funWs]
    rw [e, headsR, if_pos rfl, numR_num (by omega) (by omega), List.tail_cons, numR_num (by omega) (by omega)]
    have e2 : headsR (numW (par i) :: numW (loc i) :: (blkW d (body i) ++ fromW nf par loc d body (i + 1) m)) = pairs par loc (i + 1) m := by
      have : numW (par i) :: numW (loc i) :: (blkW d (body i) ++ fromW nf par loc d body (i + 1) m) = (numW (par i) :: numW (loc i) :: blkW d (body i)) ++ fromW nf par loc d body (i + 1) m := by simp
      rw [this, headsR_plain, heads_from h m (i + 1) (by omega)]
      intro w hw
      rw [List.mem_cons, List.mem_cons] at hw
      rcases hw with rfl | rfl | hw
      · exact numW_plain _
      · exact numW_plain _
      · exact blkW_plain (bodyErr_errs (hb i (by omega))).2 w hw
    rw [e2]
    rfl

theorem blkR_par {nf : Nat} {p q : Nat → Int} (hpq : ∀ i, i < nf → p i = q i) : ∀ (u : Nat) (ws : List Wd), loopR nf p u ws = loopR nf q u ws := by
  have hx : ∀ (ws : List Wd) (a : Int), exprR nf p a ws = exprR nf q a ws := by
    have ha : ∀ t, asksR nf p t = asksR nf q t := by
      intro t
      unfold asksR
      split
      · rfl
      split
      · rfl
      split
      · next h => exact hpq _ (by omega)
      · rfl
    intro ws
    induction ws with
    | nil => intro a; rfl
    | cons w ws ih => intro a; simp only [exprR, ha, ih]
  intro u
  induction u with
  | zero => intro ws; rfl
  | succ u ih =>
    intro ws
    have h2 : ∀ k ws, st2 nf p k ws = st2 nf q k ws := fun k ws => by unfold st2; rw [hx]
    have h3 : ∀ k ws, st3 nf p k ws = st3 nf q k ws := fun k ws => by unfold st3; rw [h2, hx]
    have h4 : ∀ B k ws, st4 nf p B k ws = st4 nf q B k ws := fun B k ws => by unfold st4; rw [h3]
    have h5 : ∀ B k ws, st5 nf p B k ws = st5 nf q B k ws := fun B k ws => by unfold st5; rw [h4]
    have hs : ∀ B k ws, stR nf p B k ws = stR nf q B k ws := fun B k ws => by unfold stR; rw [h2, h3, h4, h5]
    simp only [loopR, ih, hs, h5]

/-- What is written is read. -/
theorem read_text {nf : Nat} {par loc : Nat → Int} {d : Nat} {body : Nat → SL} (h : progErr nf par loc d body = 0) :
    rdN (progW nf par loc d body) = nf ∧ (∀ i, i < nf → rdP (progW nf par loc d body) i = par i ∧ rdL (progW nf par loc d body) i = loc i ∧ eqS d (body i) (rdB (progW nf par loc d body) i) = true) := by
  have e0 : progW nf par loc d body = fromW nf par loc d body 0 nf := catTo_eq _ nf
  have e1 : headsR (progW nf par loc d body) = pairs par loc 0 nf := by rw [e0]; exact heads_from h nf 0 (by omega)
  have e2 : rdN (progW nf par loc d body) = nf := by unfold rdN; rw [e1, pairs_length]
  obtain ⟨hn1, hn4, hh, hb⟩ := prog_zero h
  have e3 : ∀ i, i < nf → rdP (progW nf par loc d body) i = par i ∧ rdL (progW nf par loc d body) i = loc i := fun i hi => by
    unfold rdP rdL
    rw [e1, pairs_at _ _ _ _ _ hi, Nat.zero_add]
    exact ⟨rfl, rfl⟩
  have left : ∀ i m, i + m = nf → leftR nf par ((progW nf par loc d body).length + 1) (progW nf par loc d body) i = fromW nf par loc d body i m ∧ (fromW nf par loc d body i m).length ≤ (progW nf par loc d body).length := by
    intro i
    induction i with
    | zero =>
      intro m hm
      obtain rfl : m = nf := by omega
      rw [← e0]; exact ⟨rfl, Nat.le_refl _⟩
    | succ i ih =>
      intro m hm
      obtain ⟨l1, l2⟩ := ih (m + 1) (by omega)
      have e : fromW nf par loc d body i (m + 1) = funW :: numW (par i) :: numW (loc i) :: (blkW d (body i) ++ fromW nf par loc d body (i + 1) m) := by
        simp [fromW, catF, funWs]
      rw [e] at l1 l2
      simp only [List.length_cons, List.length_append] at l2
      refine ⟨?_, by omega⟩
      rw [leftR, l1]
      exact (loopR_text (by have := head_range (hh i (by omega)); omega) (by omega) d _ (bodyErr_errs (hb i (by omega))).2 _ _ (by rw [List.length_append]; omega)).1
  refine ⟨e2, fun i hi => ⟨(e3 i hi).1, (e3 i hi).2, ?_⟩⟩
  obtain ⟨l1, l2⟩ := left i (nf - i) (by omega)
  obtain ⟨m, hm⟩ : ∃ m, nf - i = m + 1 := ⟨nf - i - 1, by omega⟩
  rw [hm] at l1 l2
  have e : fromW nf par loc d body i (m + 1) = funW :: numW (par i) :: numW (loc i) :: (blkW d (body i) ++ fromW nf par loc d body (i + 1) m) := by
    simp [fromW, catF, funWs]
  rw [e] at l1 l2
  simp only [List.length_cons, List.length_append] at l2
  unfold rdB bodyR
  rw [e2]
  have ep : ∀ u ws, blkR nf (rdP (progW nf par loc d body)) u ws = blkR nf par u ws := fun u ws => by
    unfold blkR; rw [blkR_par fun j hj => (e3 j hj).1]
  have el : ∀ j, leftR nf (rdP (progW nf par loc d body)) ((progW nf par loc d body).length + 1) (progW nf par loc d body) j = leftR nf par ((progW nf par loc d body).length + 1) (progW nf par loc d body) j := by
    intro j
    induction j with
    | zero => rfl
    | succ j ih => rw [leftR, leftR, ih, ep]
  rw [el, ep, l1]
  exact (loopR_text (by have := head_range (hh i hi); omega) (by omega) d _ (bodyErr_errs (hb i hi)).2 _ _ (by rw [List.length_append]; omega)).2

end Go.Proofs.YtfblnmbcaglliabGreatDoor

namespace Go.Proofs.YtfblnmbcaglliabGreatDoor
open Go.RowKit

theorem eqH_iff {s t : Nd} : eqH s t = true ↔ s.kind = t.kind ∧ s.num = t.num ∧ (s.ne = t.ne ∧ ∀ i, i < s.ne → s.ek i = t.ek i ∧ s.ez i = t.ez i) ∧ (s.nf = t.nf ∧ ∀ i, i < s.nf → s.fk i = t.fk i ∧ s.fz i = t.fz i) := by
  unfold eqH
  rw [Bool.and_eq_true, Bool.and_eq_true, Bool.and_eq_true, decide_eq_true_iff, decide_eq_true_iff, eqV_iff, eqV_iff]
  constructor
  · rintro ⟨⟨⟨a, b⟩, c⟩, d⟩; exact ⟨a, b, c, d⟩
  · rintro ⟨a, b, c, d⟩; exact ⟨⟨⟨a, b⟩, c⟩, d⟩

theorem eqS_iff {d : Nat} {T U : SL} : eqS (d + 1) T U = true ↔ T.len = U.len ∧ ∀ i, i < T.len → eqH (T.nd i) (U.nd i) = true ∧ eqS d (T.sub i false) (U.sub i false) = true ∧ eqS d (T.sub i true) (U.sub i true) = true := by
  simp only [eqS, Bool.and_eq_true, decide_eq_true_iff, allTo_iff, eqI]

theorem eqH_join {s t u : Nd} (h : eqH s u = true) (k : eqH t u = true) : eqH s t = true := by
  rw [eqH_iff] at *
  obtain ⟨a, b, ⟨c, c'⟩, ⟨e, e'⟩⟩ := h
  obtain ⟨a1, b1, ⟨c1, c1'⟩, ⟨e1, e1'⟩⟩ := k
  refine ⟨by omega, by omega, ⟨by omega, fun i hi => ?_⟩, ⟨by omega, fun i hi => ?_⟩⟩
  · have x := c' i hi; have y := c1' i (by omega); omega
  · have x := e' i hi; have y := e1' i (by omega); omega

theorem eqS_join : ∀ {d : Nat} {T U V : SL}, eqS d T V = true → eqS d U V = true → eqS d T U = true
  | 0, _, _, _, _, _ => rfl
  | d + 1, T, U, V, h, k => by
    rw [eqS_iff] at *
    refine ⟨by omega, fun i hi => ?_⟩
    obtain ⟨a, b, c⟩ := h.2 i hi
    obtain ⟨a1, b1, c1⟩ := k.2 i (by omega)
    exact ⟨eqH_join a a1, eqS_join b b1, eqS_join c c1⟩

theorem eqH_refl (s : Nd) : eqH s s = true := eqH_iff.2 ⟨rfl, rfl, ⟨rfl, fun _ _ => ⟨rfl, rfl⟩⟩, ⟨rfl, fun _ _ => ⟨rfl, rfl⟩⟩⟩
theorem eqS_refl : ∀ (d : Nat) (T : SL), eqS d T T = true
  | 0, _ => rfl
  | d + 1, _ => eqS_iff.2 ⟨rfl, fun _ _ => ⟨eqH_refl _, eqS_refl d _, eqS_refl d _⟩⟩
theorem eqS_symm {d : Nat} {T U : SL} (h : eqS d T U = true) : eqS d U T = true := eqS_join (eqS_refl d U) h

theorem toksW_congr {k z k2 z2 : Nat → Int} : ∀ {n : Nat}, (∀ i, i < n → k i = k2 i ∧ z i = z2 i) → toksW k z n = toksW k2 z2 n
  | 0, _ => rfl
  | n + 1, h => by rw [toksW, toksW, toksW_congr fun i hi => h i (by omega), (h n (by omega)).1, (h n (by omega)).2]

theorem catTo_congr {f g : Nat → List Wd} : ∀ {n : Nat}, (∀ i, i < n → f i = g i) → catTo f n = catTo g n
  | 0, _ => rfl
  | n + 1, h => by rw [catTo, catTo, catTo_congr fun i hi => h i (by omega), h n (by omega)]

theorem blkW_congr : ∀ {d : Nat} {T U : SL}, eqS d T U = true → blkW d T = blkW d U
  | 0, _, _, _ => rfl
  | d + 1, T, U, h => by
    rw [eqS_iff] at h
    rw [blkW, blkW, ← h.1]
    congr 2
    refine catTo_congr fun i hi => ?_
    obtain ⟨a, b, c⟩ := h.2 i hi
    rw [eqH_iff] at a
    obtain ⟨a1, a2, ⟨a3, a3'⟩, ⟨a4, a4'⟩⟩ := a
    unfold stmtW
    rw [← a1, ← a2, toksW_congr a3', toksW_congr a4', a3, a4, blkW_congr b, blkW_congr c]

theorem exprErr_congr {n nf : Nat} {k z k2 z2 : Nat → Int} {par par2 : Nat → Int} {locals : Int} (h : ∀ i, i < n → k i = k2 i ∧ z i = z2 i) (hp : ∀ i, i < nf → par i = par2 i) : exprErr n k z nf par locals = exprErr n k2 z2 nf par2 locals := by
  by_cases h1 : 24 < n
  · rw [exprErr_many h1, exprErr_many h1]
  have e0 : firstErr nf (fun i => parErr (par i)) = firstErr nf (fun i => parErr (par2 i)) := firstErr_congr fun i hi => by rw [hp i hi]
  by_cases h2 : firstErr nf (fun i => parErr (par i)) = 0
  · have h2' : firstErr nf (fun i => parErr (par2 i)) = 0 := by rw [← e0]; exact h2
    -- as long as no token is wrong, as many are asked for
    have ak : ∀ j, j ≤ n → (∀ x, x < j → tokErr (k x) (z x) nf locals = 0) → asked k z par j = asked k2 z2 par2 j := by
      intro j
      induction j with
      | zero => intro _ _; rfl
      | succ j ih =>
        intro hj ht
        simp only [asked]
        rw [ih (by omega) fun x hx => ht x (by omega), (h j (by omega)).1, (h j (by omega)).2]
        have ha : asksOf (k2 j) (z2 j) par = asksOf (k2 j) (z2 j) par2 := by
          unfold asksOf
          split
          · rfl
          split
          · rfl
          split
          · next c =>
            have t := ht j (by omega)
            rw [(h j (by omega)).1, (h j (by omega)).2] at t
            exact hp _ (tokErr_call t c).2
          · rfl
        rw [ha]
    have st : ∀ j, j < n → (∀ x, x < j → stepErr k z nf par locals x = 0) → stepErr k z nf par locals j = stepErr k2 z2 nf par2 locals j := by
      intro j hj hx
      unfold stepErr
      rw [ak j (by omega) fun x hxj => (stepErr_tok (hx x hxj)).1, (h j hj).1, (h j hj).2]
    have fe : ∀ j, j ≤ n → firstErr j (stepErr k z nf par locals) = firstErr j (stepErr k2 z2 nf par2 locals) := by
      intro j
      induction j with
      | zero => intro _; rfl
      | succ j ih =>
        intro hj
        simp only [firstErr]
        rw [← ih (by omega)]
        by_cases c : firstErr j (stepErr k z nf par locals) = 0
        · rw [if_pos c, if_pos c, st j (by omega) (firstErr_is_zero c)]
        · rw [if_neg c, if_neg c]
    unfold exprErr
    rw [if_neg h1, if_neg h1, if_pos h2, if_pos h2', ← fe n (Nat.le_refl n)]
    by_cases c : firstErr n (stepErr k z nf par locals) = 0
    · rw [if_pos c, if_pos c, ak n (Nat.le_refl n) fun x hx => (stepErr_tok (firstErr_is_zero c x hx)).1]
    · rw [if_neg c, if_neg c]
  · have h2' : ¬ firstErr nf (fun i => parErr (par2 i)) = 0 := by rw [← e0]; exact h2
    unfold exprErr
    rw [if_neg h1, if_neg h1, if_neg h2, if_neg h2']

theorem stErr_congr {nf : Nat} {par par2 : Nat → Int} {locals : Int} {s t : Nd} {la lb : Nat} (h : eqH s t = true) (hp : ∀ i, i < nf → par i = par2 i) : stErr nf par locals s la lb = stErr nf par2 locals t la lb := by
  rw [eqH_iff] at h
  obtain ⟨a1, a2, ⟨a3, a3'⟩, ⟨a4, a4'⟩⟩ := h
  have e1 : formErr s la lb = formErr t la lb := by unfold formErr; rw [a1, a2, a3, a4]
  have e2 : numErr s locals = numErr t locals := by unfold numErr; rw [a1, a2]
  unfold stErr
  rw [e1, e2, a1, exprErr_congr a3' hp, exprErr_congr a4' hp, a3, a4]

theorem eqS_len_eq {d : Nat} {T U : SL} (h : eqS (d + 1) T U = true) : T.len = U.len := (eqS_iff.1 h).1

/-- There are at most d levels, and they are alike. -/
theorem errs_congr {nf : Nat} {par par2 : Nat → Int} {locals : Int} (hp : ∀ i, i < nf → par i = par2 i) : ∀ {d : Nat} {T U : SL}, eqS (d + 1) T U = true → errs (stErr nf par locals) d T = errs (stErr nf par2 locals) d U
  | 0, _, _, _ => rfl
  | d + 1, T, U, h => by
    rw [eqS_iff] at h
    simp only [errs]
    rw [← h.1]
    refine firstErr_congr fun i hi => ?_
    obtain ⟨a, b, c⟩ := h.2 i hi
    rw [stErr_congr a hp, eqS_len_eq b, eqS_len_eq c, errs_congr hp b, errs_congr hp c]

theorem size_congr : ∀ {d : Nat} {T U : SL}, eqS d T U = true → size d T = size d U
  | 0, _, _, _ => rfl
  | d + 1, T, U, h => by
    rw [eqS_iff] at h
    simp only [size]
    rw [← h.1]
    refine sumTo_congr fun i hi => ?_
    obtain ⟨_, b, c⟩ := h.2 i hi
    rw [size_congr b, size_congr c]

theorem fits_congr : ∀ {d : Nat} {T U : SL} {left : Nat}, eqS d T U = true → fits d T left → fits d U left
  | 0, _, _, _, _, _ => trivial
  | d + 1, T, U, left, h, hf => by
    rw [eqS_iff] at h
    rcases hf with hf | ⟨h0, hf⟩
    · exact Or.inl (by omega)
    · refine Or.inr ⟨h0, fun i hi => ?_⟩
      obtain ⟨_, b, c⟩ := h.2 i (by omega)
      obtain ⟨x, y⟩ := hf i (by omega)
      exact ⟨fits_congr b x, fits_congr c y⟩

theorem eqS_pred : ∀ {d : Nat} {T U : SL}, eqS (d + 1) T U = true → eqS d T U = true
  | 0, _, _, _ => rfl
  | d + 1, T, U, h => by
    rw [eqS_iff] at h ⊢
    refine ⟨h.1, fun i hi => ?_⟩
    obtain ⟨a, b, c⟩ := h.2 i hi
    exact ⟨a, eqS_pred b, eqS_pred c⟩

theorem prog_congr {nf : Nat} {p1 l1 p2 l2 : Nat → Int} {d : Nat} {B C : Nat → SL} (h : ∀ i, i < nf → p1 i = p2 i ∧ l1 i = l2 i ∧ eqS (d + 1) (B i) (C i) = true) (he : progErr nf p1 l1 d B = 0) : progErr nf p2 l2 d C = 0 := by
  obtain ⟨hn1, hn4, hh, hb⟩ := prog_zero he
  have hh2 : ∀ i, i < nf → headErr i (p2 i) (l2 i) = 0 := fun i hi => by rw [← (h i hi).1, ← (h i hi).2.1]; exact hh i hi
  rw [progErr_body (by omega) hh2]
  refine firstErr_zero fun i hi => ?_
  obtain ⟨a, b, c⟩ := h i hi
  obtain ⟨s1, s2⟩ := bodyErr_errs (hb i hi)
  have s : sound d (C i) := ⟨fits_congr (eqS_pred c) s1.1, by rw [← size_congr (eqS_pred c)]; exact s1.2⟩
  unfold bodyErr
  rw [if_pos (wk1_iff.2 s), ← b]
  exact (errs_congr (fun j hj => (h j hj).1) c).symm.trans s2

theorem progW_congr {nf : Nat} {p1 l1 p2 l2 : Nat → Int} {d : Nat} {B C : Nat → SL} (h : ∀ i, i < nf → p1 i = p2 i ∧ l1 i = l2 i ∧ eqS d (B i) (C i) = true) : progW nf p1 l1 d B = progW nf p2 l2 d C := by
  unfold progW
  refine catTo_congr fun i hi => ?_
  obtain ⟨a, b, c⟩ := h i hi
  unfold funWs
  rw [a, b, blkW_congr c]

/-- Like words are of like programs. -/
theorem progW_inj {nf ng : Nat} {p1 l1 p2 l2 : Nat → Int} {d : Nat} {B C : Nat → SL} (he : progErr nf p1 l1 d B = 0) (hg : progErr ng p2 l2 d C = 0) (h : progW nf p1 l1 d B = progW ng p2 l2 d C) :
    nf = ng ∧ ∀ i, i < nf → p1 i = p2 i ∧ l1 i = l2 i ∧ eqS d (B i) (C i) = true := by
  obtain ⟨a1, a2⟩ := read_text he
  obtain ⟨b1, b2⟩ := read_text hg
  rw [h] at a1 a2
  have e : nf = ng := by omega
  refine ⟨e, fun i hi => ?_⟩
  obtain ⟨x1, x2, x3⟩ := a2 i hi
  obtain ⟨y1, y2, y3⟩ := b2 i (by omega)
  exact ⟨by omega, by omega, eqS_join x3 y3⟩

/-! ### Words and texts -/

theorem progW_plain {nf : Nat} {par loc : Nat → Int} {d : Nat} {body : Nat → SL} (h : progErr nf par loc d body = 0) : ∀ w ∈ progW nf par loc d body, ¬ (32 : UInt8) ∈ w.data.toList := by
  intro w hw
  obtain ⟨i, hi, hw⟩ := catTo_mem hw
  obtain ⟨_, _, hh, hb⟩ := prog_zero h
  rw [funWs, List.mem_append] at hw
  rcases hw with hw | hw
  · have : w = funW ∨ w = numW (par i) ∨ w = numW (loc i) := by simpa using hw
    rcases this with rfl | rfl | rfl
    · decide
    · exact (numW_plain _).2
    · exact (numW_plain _).2
  · exact (blkW_plain (bodyErr_errs (hb i hi)).2 w hw).2

theorem index_blank : ∀ (l r : List UInt8), ¬ (32 : UInt8) ∈ l → Lib.index (l ++ 32 :: r) [32] = (l.length : Int)
  | [], r, _ => by simp [Lib.index, List.isPrefixOf]
  | b :: l, r, h => by
    have hb : ¬ b = 32 := fun e => h (by simp [e])
    have ih := index_blank l r fun e => h (by simp [e])
    have hp : ([32] : List UInt8).isPrefixOf (b :: (l ++ 32 :: r)) = false := by simp [List.isPrefixOf, Ne.symm hb]
    rw [List.cons_append, Lib.index, hp, ih]
    have : ¬ ((l.length : Int) == -1) = true := fun e => by have := beq_iff_eq.1 e; omega
    rw [if_neg (by decide), if_neg this]
    simp

theorem index_none : ∀ (l : List UInt8), ¬ (32 : UInt8) ∈ l → Lib.index l [32] = -1
  | [], _ => by simp [Lib.index]
  | b :: l, h => by
    have hb : ¬ b = 32 := fun e => h (by simp [e])
    have ih := index_none l fun e => h (by simp [e])
    have hp : ([32] : List UInt8).isPrefixOf (b :: l) = false := by simp [List.isPrefixOf, Ne.symm hb]
    rw [Lib.index, hp, ih]
    rfl

theorem joinTail_cons (x : List UInt8) (r : List (List UInt8)) : Lib.joinTail [32] (x :: r) = 32 :: (x ++ Lib.joinTail [32] r) := by simp [Lib.joinTail]

theorem split_words : ∀ (ws : List (List UInt8)) (w : List UInt8) (k : Nat), (∀ x ∈ w :: ws, ¬ (32 : UInt8) ∈ x) → k = ws.length → Lib.splitK [32] 0 k (Lib.join (w :: ws) [32]) = w :: ws
  | [], w, k, h, hk => by
    subst hk
    rw [Lib.join_one]; rfl
  | x :: ws, w, k, h, hk => by
    subst hk
    have hi : Lib.index (Lib.join (w :: x :: ws) [32]) [32] = (w.length : Int) := by
      rw [Lib.join_cons, joinTail_cons]
      exact index_blank w _ (h w (by simp))
    have : ¬ (Lib.index (Lib.join (w :: x :: ws) [32]) [32] == -1) = true := fun e => by have := beq_iff_eq.1 e; omega
    rw [List.length_cons, Lib.splitK, if_neg this, hi]
    have e1 : Lib.join (w :: x :: ws) [32] = w ++ 32 :: Lib.join (x :: ws) [32] := by rw [Lib.join_cons, joinTail_cons, Lib.join_cons]
    rw [e1]
    have ih := split_words ws x ws.length (fun y hy => h y (by simp at hy ⊢; exact Or.inr hy)) rfl
    have e2 : (w ++ 32 :: Lib.join (x :: ws) [32]).take ((w.length : Int).toNat + 0) = w := by simp
    have e3 : (w ++ 32 :: Lib.join (x :: ws) [32]).drop ((w.length : Int).toNat + [(32 : UInt8)].length) = Lib.join (x :: ws) [32] := by
      simp
    rw [e2, e3, ih]

theorem count_words : ∀ (ws : List (List UInt8)) (w : List UInt8), (∀ x ∈ w :: ws, ¬ (32 : UInt8) ∈ x) → (Lib.join (w :: ws) [32]).count 32 = ws.length
  | [], w, h => by rw [Lib.join_one]; exact List.count_eq_zero.2 (h w (by simp))
  | x :: ws, w, h => by
    rw [Lib.join_cons, joinTail_cons, ← Lib.join_cons, List.count_append, List.count_cons_self, count_words ws x (fun y hy => h y (by simp at hy ⊢; exact Or.inr hy)), List.count_eq_zero.2 (h w (by simp))]
    simp

/-- The words of a text. -/
def wordsOf (s : ByteArray) : List Wd := Lib.splitB (bs [32]) 0 (Lib.countB s (bs [32])) s

theorem wordsOf_data (s : ByteArray) : (wordsOf s).map (·.data.toList) = Lib.split s.data.toList [32] := Lib.splitB_data (bs [32]) 0 (Lib.countB s (bs [32])) s

theorem map_data_inj : ∀ {a b : List Wd}, a.map (·.data.toList) = b.map (·.data.toList) → a = b
  | [], [], _ => rfl
  | [], _ :: _, h => by cases h
  | _ :: _, [], h => by cases h
  | x :: a, y :: b, h => by
    simp only [List.map_cons] at h
    injection h with h1 h2
    rw [map_data_inj h2, show x = y from congrArg bs h1]

theorem wordsOf_text {ws : List Wd} (h0 : ws ≠ []) (h : ∀ w ∈ ws, ¬ (32 : UInt8) ∈ w.data.toList) : wordsOf (bs (textL ws)) = ws := by
  apply map_data_inj
  rw [wordsOf_data, bs_data]
  cases ws with
  | nil => exact absurd rfl h0
  | cons w ws =>
    have h' : ∀ x ∈ w.data.toList :: ws.map (·.data.toList), ¬ (32 : UInt8) ∈ x := by
      intro x hx
      have : x ∈ (w :: ws).map (·.data.toList) := hx
      obtain ⟨y, hy, rfl⟩ := List.mem_map.1 this
      exact h y hy
    unfold Lib.split textL
    rw [Lib.count_one]
    have := split_words (ws.map (·.data.toList)) w.data.toList ((Lib.join (w.data.toList :: ws.map (·.data.toList)) [32]).count 32) h' (count_words _ _ h')
    exact this

theorem progW_ne {nf : Nat} {par loc : Nat → Int} {d : Nat} {body : Nat → SL} (h : 1 ≤ nf) : progW nf par loc d body ≠ [] := by
  obtain ⟨m, rfl⟩ : ∃ m, nf = m + 1 := ⟨nf - 1, by omega⟩
  unfold progW funWs
  rw [catTo]
  simp

/-- The text of a right program falls apart into its words. -/
theorem wordsOf_prog {nf : Nat} {par loc : Nat → Int} {d : Nat} {body : Nat → SL} (h : progErr nf par loc d body = 0) : wordsOf (bs (textL (progW nf par loc d body))) = progW nf par loc d body :=
  wordsOf_text (progW_ne (prog_zero h).1) (progW_plain h)

theorem text_inj {nf ng : Nat} {p1 l1 p2 l2 : Nat → Int} {d : Nat} {B C : Nat → SL} (he : progErr nf p1 l1 d B = 0) (hg : progErr ng p2 l2 d C = 0) (h : textL (progW nf p1 l1 d B) = textL (progW ng p2 l2 d C)) : progW nf p1 l1 d B = progW ng p2 l2 d C := by
  rw [← wordsOf_prog he, ← wordsOf_prog hg, h]

end Go.Proofs.YtfblnmbcaglliabGreatDoor
