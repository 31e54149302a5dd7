/- The plain reckoning behind programs as people write them: which error a token has, an expression, a statement, a program; how many statements there are, and how deep. No Go in it. -/
import Derived.Test.YtipnjoahobplhaaGreatDoorPart0
import Derived.Test.YtipnjoahobplhaaGreatDoorPart2
import Derived.Deep.Light
import Derived.Maps.OwnSet
import Derived.Maps.AppendAt
import Derived.Lib.SliceRun
namespace Go.Proofs.YtipnjoahobplhaaGreatDoor
def tokErr (k z : Int) (nf : Nat) (locals : Int) : Int :=
 if k = 1 then (if z < -1000000000 ∨ 1000000000 < z then 3 else 0)
 else if k = 2 then (if z < 0 ∨ locals ≤ z then 3 else 0)
 else if k = 3 then (if z < 1 ∨ 5 < z then 3 else 0)
 else if k = 4 then (if z < 0 ∨ 3 < z then 3 else 0)
 else if k = 5 then (if z < 1 ∨ 4 < z then 3 else 0)
 else if k = 6 then (if z < 0 ∨ (nf : Int) ≤ z then 5 else 0)
 else 4
def asksOf (k z : Int) (par : Nat→Int) : Int :=
 if k = 3 then 2 else if k = 4 then 1 else if k = 6 then par z.toNat else 0
def parErr (p : Int) : Int:=if p < 0 ∨ 3 < p then 3 else 0
def asked (k z : Nat→Int) (par : Nat→Int) : Nat→Int
 | 0 => 1
 | j + 1 => asked k z par j + (asksOf (k j) (z j) par - 1)
def stepErr (k z : Nat→Int) (nf : Nat) (par : Nat→Int) (locals : Int) (j : Nat) : Int :=
 if tokErr (k j) (z j) nf locals = 0 then (if asked k z par j = 0 then 4 else 0) else tokErr (k j) (z j) nf locals
def exprErr (n : Nat) (k z : Nat→Int) (nf : Nat) (par : Nat→Int) (locals : Int) : Int :=
 if 24 < n then 2
 else if firstErr nf (fun i => parErr (par i)) = 0 then
  (if firstErr n (stepErr k z nf par locals) = 0 then (if 0 < asked k z par n then 4 else 0) else firstErr n (stepErr k z nf par locals))
 else 3
theorem parErr_zero {p : Int} (h : parErr p = 0) : 0 ≤ p∧p ≤ 3:=by unfold parErr at h; split at h <;> omega
theorem tokErr_call {k z : Int} {nf : Nat} {locals : Int} (h : tokErr k z nf locals = 0) (hk : k = 6) : 0 ≤ z∧z.toNat < nf:=by
 subst hk
 unfold tokErr at h
 simp at h
 omega
theorem asks_range {k z : Int} {nf : Nat} {locals : Int} {par : Nat→Int} (h : tokErr k z nf locals = 0) (hp : ∀ i,i < nf→parErr (par i) = 0) : 0 ≤ asksOf k z par∧asksOf k z par ≤ 3:=by
 unfold asksOf
 split
 ·omega
 split
 ·omega
 split
 ·next h3 => exact parErr_zero (hp _ (tokErr_call h h3).2)
 ·omega
theorem stepErr_tok {k z : Nat→Int} {nf : Nat} {par : Nat→Int} {locals : Int} {j : Nat} (h : stepErr k z nf par locals j = 0) : tokErr (k j) (z j) nf locals = 0∧¬ asked k z par j = 0:=by
 unfold stepErr at h
 split at h
 ·next h1 =>
  refine ⟨h1,fun e => ?_⟩
  rw [if_pos e] at h; cases h
 ·next h1 => exact absurd h h1
theorem stepErr_bad {k z : Nat→Int} {nf : Nat} {par : Nat→Int} {locals : Int} {j : Nat} (h : ¬ tokErr (k j) (z j) nf locals = 0) : stepErr k z nf par locals j = tokErr (k j) (z j) nf locals:=if_neg h
theorem stepErr_over {k z : Nat→Int} {nf : Nat} {par : Nat→Int} {locals : Int} {j : Nat} (h : tokErr (k j) (z j) nf locals = 0) (h0 : asked k z par j = 0) : stepErr k z nf par locals j = 4:=by
 unfold stepErr; rw [if_pos h,if_pos h0]
theorem stepErr_good {k z : Nat→Int} {nf : Nat} {par : Nat→Int} {locals : Int} {j : Nat} (h : tokErr (k j) (z j) nf locals = 0) (h0 : ¬ asked k z par j = 0) : stepErr k z nf par locals j = 0:=by
 unfold stepErr; rw [if_pos h,if_neg h0]
theorem exprErr_many {n : Nat} {k z : Nat→Int} {nf : Nat} {par : Nat→Int} {locals : Int} (h : 24 < n) : exprErr n k z nf par locals = 2:=if_pos h
theorem exprErr_par {n : Nat} {k z : Nat→Int} {nf : Nat} {par : Nat→Int} {locals : Int} (h : ¬ 24 < n) {i : Nat} (hi : i < nf) (hb : ¬ parErr (par i) = 0) : exprErr n k z nf par locals = 3:=by
 unfold exprErr
 rw [if_neg h,if_neg]
 intro e
 exact hb (firstErr_is_zero e i hi)
theorem exprErr_step {n : Nat} {k z : Nat→Int} {nf : Nat} {par : Nat→Int} {locals : Int} (h : ¬ 24 < n) (hp : ∀ i,i < nf→parErr (par i) = 0) {j : Nat} (hj : j < n) (h0 : ∀ x,x < j→stepErr k z nf par locals x = 0) (hb : ¬ stepErr k z nf par locals j = 0) :
  exprErr n k z nf par locals = stepErr k z nf par locals j:=by
 unfold exprErr
 have e:=firstErr_at h0 hb hj
 rw [if_neg h,if_pos (firstErr_zero hp),if_neg (by rw [e]; exact hb),e]
theorem exprErr_end {n : Nat} {k z : Nat→Int} {nf : Nat} {par : Nat→Int} {locals : Int} (h : ¬ 24 < n) (hp : ∀ i,i < nf→parErr (par i) = 0) (h0 : ∀ x,x < n→stepErr k z nf par locals x = 0) :
  exprErr n k z nf par locals = if 0 < asked k z par n then 4 else 0:=by
 unfold exprErr
 rw [if_neg h,if_pos (firstErr_zero hp),if_pos (firstErr_zero h0)]
structure Nd where
 kind : Int
 num : Int
 ne : Nat
 ek : Nat→Int
 ez : Nat→Int
 nf : Nat
 fk : Nat→Int
 fz : Nat→Int
abbrev SL:=List (Nat × Bool)→Nat × (Nat→Nd)
def SL.len (T : SL) : Nat:=(T []).1
def SL.nd (T : SL) (i : Nat) : Nd:=(T []).2 i
def SL.sub (T : SL) (i : Nat) (b : Bool) : SL:=fun p => T ((i,b) :: p)
def formErr (s : Nd) (la lb : Nat) : Int :=
 if s.kind < 1 ∨ 8 < s.kind ∨ (¬ s.num = 0∧¬ s.kind = 1∧¬ s.kind = 2) ∨ (0 < s.ne∧s.kind = 4) ∨ (0 < s.nf∧¬ s.kind = 2) ∨ (0 < la∧¬ s.kind = 6∧¬ s.kind = 7) ∨ (0 < lb∧¬ s.kind = 6) then 4 else 0
def numErr (s : Nd) (locals : Int) : Int :=
 if (s.kind = 1∧(s.num < 0 ∨ locals ≤ s.num)) ∨ (s.kind = 2∧(s.num < 0 ∨ 3 < s.num)) then 3 else 0
def stErr (nf : Nat) (par : Nat → Int) (locals : Int) (s : Nd) (la lb : Nat) : Int :=
  if formErr s la lb = 0 then
    (if numErr s locals = 0 then
      (if s.kind = 4 then 0
       else if exprErr s.ne s.ek s.ez nf par locals = 0 then (if s.kind = 2 then exprErr s.nf s.fk s.fz nf par locals else 0)
       else exprErr s.ne s.ek s.ez nf par locals)
     else 3)
  else 4
def errs (E : Nd→Nat→Nat→Int) : Nat→SL→Int
 | 0,_ => 0
 | d + 1,T => firstErr T.len fun i =>
   if E (T.nd i) (T.sub i false).len (T.sub i true).len = 0 then
    (if errs E d (T.sub i false) = 0 then errs E d (T.sub i true) else errs E d (T.sub i false))
   else E (T.nd i) (T.sub i false).len (T.sub i true).len
def sumTo : Nat→(Nat→Nat)→Nat
 | 0,_ => 0
 | n + 1,f => sumTo n f + f n
def size : Nat→SL→Nat
 | 0,_ => 0
 | d + 1,T => sumTo T.len fun i => 1 + size d (T.sub i false) + size d (T.sub i true)
def fits : Nat→SL→Nat→Prop
 | 0,_,_ => True
 | d + 1,T,left => T.len = 0 ∨ (0 < left∧∀ i,i < T.len→fits d (T.sub i false) (left - 1)∧fits d (T.sub i true) (left - 1))
theorem fits_zero {d : Nat} {T : SL} (h : T.len = 0) (left : Nat) : fits d T left:=by
 cases d with
 | zero => trivial
 | succ d => exact Or.inl h
theorem sumTo_mono {f : Nat→Nat} {j : Nat} : ∀ {n : Nat},j ≤ n→sumTo j f ≤ sumTo n f
 | 0,h => by
  obtain rfl : j = 0:=by omega
  exact Nat.le_refl _
 | n + 1,h => by
  by_cases e : j = n + 1
  ·subst e; exact Nat.le_refl _
  ·have:=sumTo_mono (f:=f) (j:=j) (n:=n) (by omega)
   simp only [sumTo]; omega
def sound (d : Nat) (T : SL) : Prop:=fits d T 4∧size d T ≤ 30
def seqW (g : Nat→Nat→Int × Nat) : Nat→Nat→Int × Nat
 | 0,c => (0,c)
 | j + 1,c => if (seqW g j c).1 = 0 then g j (seqW g j c).2 else seqW g j c
def wk (L : Nat → Nd → Nat → Nat → Int → Int) : Nat → SL → Int → Nat → Int × Nat
  | 0, _, _, c => (0, c)
  | d + 1, T, dep, c => seqW (fun i c =>
      if L c (T.nd i) (T.sub i false).len (T.sub i true).len dep = 0 then
        (if (wk L d (T.sub i false) (dep + 1) (c + 1)).1 = 0 then wk L d (T.sub i true) (dep + 1) (wk L d (T.sub i false) (dep + 1) (c + 1)).2
         else wk L d (T.sub i false) (dep + 1) (c + 1))
      else (L c (T.nd i) (T.sub i false).len (T.sub i true).len dep, c + 1)) T.len c
def look1 (c : Nat) (_ : Nd) (_ _ : Nat) (dep : Int) : Int:=if 30 < c + 1 ∨ 4 < dep then 2 else 0
theorem wk_count : ∀ (d : Nat) (T : SL) (dep : Int) (c left : Nat), c ≤ 30 → dep + left = 5 → (fits d T left → c + size d T ≤ 30 → wk look1 d T dep c = (0, c + size d T)) ∧ (¬ (fits d T left ∧ c + size d T ≤ 30) → (wk look1 d T dep c).1 = 2)
  | 0, T, dep, c, left, hc, _ => ⟨fun _ _ => rfl, fun h => absurd ⟨trivial, hc⟩ h⟩
  | d + 1, T, dep, c, left, hc, hd => by
    simp only [wk, size, fits]
    have item : ∀ i c', c' ≤ 30 → (0 < left → fits d (T.sub i false) (left - 1) → fits d (T.sub i true) (left - 1) → c' + (1 + size d (T.sub i false) + size d (T.sub i true)) ≤ 30 →
        (if look1 c' (T.nd i) (T.sub i false).len (T.sub i true).len dep = 0 then
          (if (wk look1 d (T.sub i false) (dep + 1) (c' + 1)).1 = 0 then wk look1 d (T.sub i true) (dep + 1) (wk look1 d (T.sub i false) (dep + 1) (c' + 1)).2
           else wk look1 d (T.sub i false) (dep + 1) (c' + 1))
          else (look1 c' (T.nd i) (T.sub i false).len (T.sub i true).len dep, c' + 1)) = (0, c' + (1 + size d (T.sub i false) + size d (T.sub i true)))) ∧
        (¬ (0 < left ∧ fits d (T.sub i false) (left - 1) ∧ fits d (T.sub i true) (left - 1) ∧ c' + (1 + size d (T.sub i false) + size d (T.sub i true)) ≤ 30) →
        (if look1 c' (T.nd i) (T.sub i false).len (T.sub i true).len dep = 0 then
          (if (wk look1 d (T.sub i false) (dep + 1) (c' + 1)).1 = 0 then wk look1 d (T.sub i true) (dep + 1) (wk look1 d (T.sub i false) (dep + 1) (c' + 1)).2
           else wk look1 d (T.sub i false) (dep + 1) (c' + 1))
          else (look1 c' (T.nd i) (T.sub i false).len (T.sub i true).len dep, c' + 1)).1 = 2) := by
      intro i c' hc'
      by_cases hl : 30 < c' + 1 ∨ 4 < dep
      · have e : look1 c' (T.nd i) (T.sub i false).len (T.sub i true).len dep = 2 := if_pos hl
        rw [e]
        refine ⟨fun h1 _ _ h4 => by omega, fun _ => rfl⟩
      · have e : look1 c' (T.nd i) (T.sub i false).len (T.sub i true).len dep = 0 := if_neg hl
        rw [e, if_pos rfl]
        have hl2 : 0 < left := by omega
        obtain ⟨a1, a2⟩ := wk_count d (T.sub i false) (dep + 1) (c' + 1) (left - 1) (by omega) (by omega)
        by_cases hA : fits d (T.sub i false) (left - 1) ∧ c' + 1 + size d (T.sub i false) ≤ 30
        · have eA := a1 hA.1 hA.2
          rw [eA, if_pos rfl]
          obtain ⟨b1, b2⟩ := wk_count d (T.sub i true) (dep + 1) (c' + 1 + size d (T.sub i false)) (left - 1) (by omega) (by omega)
          refine ⟨fun _ _ h3 h4 => ?_, fun h => ?_⟩
          · rw [b1 h3 (by omega)]
            congr 1
            omega
          · exact b2 fun h' => h ⟨hl2, hA.1, h'.1, by omega⟩
        · have eA := a2 hA
          rw [if_neg (by rw [eA]; decide)]
          exact ⟨fun _ h2 _ h4 => absurd ⟨h2, by omega⟩ hA, fun _ => eA⟩
    generalize hg : (fun (i c : Nat) =>
        if look1 c (T.nd i) (T.sub i false).len (T.sub i true).len dep = 0 then
          (if (wk look1 d (T.sub i false) (dep + 1) (c + 1)).1 = 0 then wk look1 d (T.sub i true) (dep + 1) (wk look1 d (T.sub i false) (dep + 1) (c + 1)).2
           else wk look1 d (T.sub i false) (dep + 1) (c + 1))
        else (look1 c (T.nd i) (T.sub i false).len (T.sub i true).len dep, c + 1)) = g
    have item' : ∀ i c', c' ≤ 30 → (0 < left → fits d (T.sub i false) (left - 1) → fits d (T.sub i true) (left - 1) → c' + (1 + size d (T.sub i false) + size d (T.sub i true)) ≤ 30 → g i c' = (0, c' + (1 + size d (T.sub i false) + size d (T.sub i true)))) ∧
        (¬ (0 < left ∧ fits d (T.sub i false) (left - 1) ∧ fits d (T.sub i true) (left - 1) ∧ c' + (1 + size d (T.sub i false) + size d (T.sub i true)) ≤ 30) → (g i c').1 = 2) := by
      intro i c' h; subst hg; exact item i c' h
    clear item
    have all : ∀ n, ((∀ i, i < n → 0 < left ∧ fits d (T.sub i false) (left - 1) ∧ fits d (T.sub i true) (left - 1)) → c + sumTo n (fun i => 1 + size d (T.sub i false) + size d (T.sub i true)) ≤ 30 → seqW g n c = (0, c + sumTo n (fun i => 1 + size d (T.sub i false) + size d (T.sub i true)))) ∧
        (¬ ((∀ i, i < n → 0 < left ∧ fits d (T.sub i false) (left - 1) ∧ fits d (T.sub i true) (left - 1)) ∧ c + sumTo n (fun i => 1 + size d (T.sub i false) + size d (T.sub i true)) ≤ 30) → (seqW g n c).1 = 2) := by
      intro n
      induction n with
      | zero => exact ⟨fun _ _ => rfl, fun h => absurd ⟨fun i hi => absurd hi (Nat.not_lt_zero _), hc⟩ h⟩
      | succ n ih =>
        obtain ⟨i1, i2⟩ := ih
        simp only [sumTo, seqW]
        by_cases hA : (∀ i, i < n → 0 < left ∧ fits d (T.sub i false) (left - 1) ∧ fits d (T.sub i true) (left - 1)) ∧ c + sumTo n (fun i => 1 + size d (T.sub i false) + size d (T.sub i true)) ≤ 30
        · rw [i1 hA.1 hA.2, if_pos rfl]
          obtain ⟨j1, j2⟩ := item' n _ hA.2
          refine ⟨fun h1 h2 => ?_, fun h => ?_⟩
          · obtain ⟨p, q, r⟩ := h1 n (by omega)
            rw [j1 p q r (by omega)]
            congr 1
            omega
          · refine j2 fun ⟨p, q, r, s⟩ => h ⟨fun i hi => ?_, by omega⟩
            by_cases e : i = n
            · subst e; exact ⟨p, q, r⟩
            · exact hA.1 i (by omega)
        · have e := i2 hA
          rw [if_neg (by rw [e]; decide)]
          exact ⟨fun h1 h2 => absurd ⟨fun i hi => h1 i (by omega), by omega⟩ hA, fun _ => e⟩
    obtain ⟨a1, a2⟩ := all T.len
    refine ⟨fun h1 h2 => a1 (fun i hi => ?_) h2, fun h => a2 fun ⟨h1, h2⟩ => h ⟨?_, h2⟩⟩
    · rcases h1 with h1 | ⟨h1, h3⟩
      · omega
      · exact ⟨h1, h3 i hi⟩
    · by_cases e : T.len = 0
      · exact Or.inl e
      · exact Or.inr ⟨(h1 0 (by omega)).1, fun i hi => (h1 i hi).2⟩
def headErr (i : Nat) (par loc : Int) : Int:=if par < 0 ∨ 3 < par ∨ loc < par ∨ 6 < loc ∨ (i = 0∧0 < par) then 3 else 0
def bodyErr (nf : Nat) (par : Nat→Int) (locals : Int) (d : Nat) (T : SL) : Int :=
 if (wk look1 d T 1 0).1 = 0 then errs (stErr nf par locals) d T else 2
def progErr (nf : Nat) (par loc : Nat→Int) (d : Nat) (body : Nat→SL) : Int :=
 if nf < 1 ∨ 4 < nf then 2
 else if firstErr nf (fun i => headErr i (par i) (loc i)) = 0 then firstErr nf (fun i => bodyErr nf par (loc i) d (body i))
 else 3
def fineB (d : Nat) (T : SL) (left : Nat) : Bool:=(wk look1 d T (5 - left) 0).1 == 0
theorem fineB_iff {d : Nat} {T : SL} {left : Nat} : fineB d T left = true ↔ fits d T left∧size d T ≤ 30:=by
 unfold fineB
 rw [beq_iff_eq]
 obtain ⟨h1,h2⟩:=wk_count d T (5 - left) 0 left (by omega) (by omega)
 rw [Nat.zero_add] at h1 h2
 by_cases h : fits d T left∧size d T ≤ 30
 ·rw [h1 h.1 h.2]; exact ⟨fun _ => h,fun _ => rfl⟩
 ·rw [h2 h]; exact ⟨fun e => absurd e (by decide),fun e => absurd e h⟩
theorem wk1_iff {d : Nat} {T : SL} : (wk look1 d T 1 0).1 = 0 ↔ sound d T:=by
 have:=fineB_iff (d:=d) (T:=T) (left:=4)
 unfold fineB at this
 rw [beq_iff_eq] at this
 exact this
theorem progErr_many {nf : Nat} {par loc : Nat→Int} {d : Nat} {body : Nat→SL} (h : nf < 1 ∨ 4 < nf) : progErr nf par loc d body = 2:=if_pos h
theorem progErr_head {nf : Nat} {par loc : Nat→Int} {d : Nat} {body : Nat→SL} (h : ¬ (nf < 1 ∨ 4 < nf)) {i : Nat} (hi : i < nf) (hb : ¬ headErr i (par i) (loc i) = 0) : progErr nf par loc d body = 3:=by
 unfold progErr
 rw [if_neg h,if_neg]
 intro e
 exact hb (firstErr_is_zero e i hi)
theorem progErr_body {nf : Nat} {par loc : Nat→Int} {d : Nat} {body : Nat→SL} (h : ¬ (nf < 1 ∨ 4 < nf)) (hh : ∀ i,i < nf→headErr i (par i) (loc i) = 0) : progErr nf par loc d body = firstErr nf (fun i => bodyErr nf par (loc i) d (body i)):=by
 unfold progErr
 rw [if_neg h,if_pos (firstErr_zero hh)]
end Go.Proofs.YtipnjoahobplhaaGreatDoor
namespace Go.Proofs.YtipnjoahobplhaaGreatDoor
open Go.ChangeShapes Go.WideShapes Go.ChangeAt Go.RowKit
def ToksAt (N : Nat) (w : World) (v : Value) (n : Nat) (k z : Nat→Int) : Prop :=
 ∃ a cap,v = .slice a n cap∧n ≤ min cap 9223372036854775807∧(n = 0 ∨ ∃ b o,a = some ⟨b,o,none⟩∧b < N∧∀ i,i < n→w.cell? ⟨b,o + i * 2,none⟩ = some (.int .i64 (k i))∧w.cell? ⟨b,o + i * 2 + 1,none⟩ = some (.int .i64 (z i)))
def FunsAt (N : Nat) (w : World) (v : Value) (n : Nat) (par loc : Nat→Int) (bv : Nat→Value) : Prop :=
 ∃ a cap,v = .slice a n cap∧n ≤ 9223372036854775807∧(n = 0 ∨ ∃ b o,a = some ⟨b,o,none⟩∧b < N∧∀ i,i < n→w.cell? ⟨b,o + i * 3,none⟩ = some (.int .i64 (par i))∧w.cell? ⟨b,o + i * 3 + 1,none⟩ = some (.int .i64 (loc i))∧w.cell? ⟨b,o + i * 3 + 2,none⟩ = some (bv i)∧∃ x m c,bv i = .slice x m c)
def StmtsAt (N : Nat) (w : World) : Nat→Value→SL→Prop
 | 0,v,T => T.len = 0∧∃ a cap,v = .slice a 0 cap
 | d + 1,v,T => ∃ a cap,v = .slice a T.len cap∧T.len ≤ 9223372036854775807∧(T.len = 0 ∨ ∃ b o,a = some ⟨b,o,none⟩∧b < N∧∀ i,i < T.len →
   ∃ ve vf va vb,w.cell? ⟨b,o + i * 6,none⟩ = some (.int .i64 (T.nd i).kind)∧w.cell? ⟨b,o + i * 6 + 1,none⟩ = some (.int .i64 (T.nd i).num)∧w.cell? ⟨b,o + i * 6 + 2,none⟩ = some ve∧w.cell? ⟨b,o + i * 6 + 3,none⟩ = some vf ∧
    w.cell? ⟨b,o + i * 6 + 4,none⟩ = some va∧w.cell? ⟨b,o + i * 6 + 5,none⟩ = some vb ∧
    ToksAt N w ve (T.nd i).ne (T.nd i).ek (T.nd i).ez∧ToksAt N w vf (T.nd i).nf (T.nd i).fk (T.nd i).fz∧StmtsAt N w d va (T.sub i false)∧StmtsAt N w d vb (T.sub i true))
theorem ToksAt.below {N : Nat} {w w' : World} {v : Value} {n : Nat} {k z : Nat→Int} (h : ToksAt N w v n k z) (hb : Below N w w') : ToksAt N w' v n k z:=by
 obtain ⟨a,cap,rfl,hn,h | ⟨b,o,rfl,hlt,hc⟩⟩:=h
 ·exact ⟨a,cap,rfl,hn,Or.inl h⟩
 ·exact ⟨_,cap,rfl,hn,Or.inr ⟨b,o,rfl,hlt,fun i hi => by rw [hb.cell hlt,hb.cell hlt]; exact hc i hi⟩⟩
theorem FunsAt.below {N : Nat} {w w' : World} {v : Value} {n : Nat} {p l : Nat→Int} {bv : Nat→Value} (h : FunsAt N w v n p l bv) (hb : Below N w w') : FunsAt N w' v n p l bv:=by
 obtain ⟨a,cap,rfl,hn,h | ⟨b,o,rfl,hlt,hc⟩⟩:=h
 ·exact ⟨a,cap,rfl,hn,Or.inl h⟩
 ·exact ⟨_,cap,rfl,hn,Or.inr ⟨b,o,rfl,hlt,fun i hi => by rw [hb.cell hlt,hb.cell hlt,hb.cell hlt]; exact hc i hi⟩⟩
theorem StmtsAt.below {N : Nat} {w w' : World} (hb : Below N w w') : ∀ {d : Nat} {v : Value} {T : SL},StmtsAt N w d v T→StmtsAt N w' d v T
 | 0,_,_,h => h
 | d + 1,v,T,h => by
  obtain ⟨a,cap,rfl,hn,h | ⟨b,o,rfl,hlt,hc⟩⟩:=h
  ·exact ⟨a,cap,rfl,hn,Or.inl h⟩
  ·refine ⟨_,cap,rfl,hn,Or.inr ⟨b,o,rfl,hlt,fun i hi => ?_⟩⟩
   obtain ⟨ve,vf,va,vb,c0,c1,c2,c3,c4,c5,t1,t2,s1,s2⟩:=hc i hi
   exact ⟨ve,vf,va,vb,by rw [hb.cell hlt]; exact c0,by rw [hb.cell hlt]; exact c1,by rw [hb.cell hlt]; exact c2,by rw [hb.cell hlt]; exact c3,by rw [hb.cell hlt]; exact c4,by rw [hb.cell hlt]; exact c5,
    t1.below hb,t2.below hb,s1.below hb,s2.below hb⟩
theorem ToksAt.up {N M : Nat} {w : World} {v : Value} {n : Nat} {k z : Nat→Int} (h : ToksAt N w v n k z) (hm : N ≤ M) : ToksAt M w v n k z:=by
 obtain ⟨a,cap,rfl,hn,h | ⟨b,o,rfl,hlt,hc⟩⟩:=h
 ·exact ⟨a,cap,rfl,hn,Or.inl h⟩
 ·exact ⟨_,cap,rfl,hn,Or.inr ⟨b,o,rfl,by omega,hc⟩⟩
theorem FunsAt.up {N M : Nat} {w : World} {v : Value} {n : Nat} {p l : Nat→Int} {bv : Nat→Value} (h : FunsAt N w v n p l bv) (hm : N ≤ M) : FunsAt M w v n p l bv:=by
 obtain ⟨a,cap,rfl,hn,h | ⟨b,o,rfl,hlt,hc⟩⟩:=h
 ·exact ⟨a,cap,rfl,hn,Or.inl h⟩
 ·exact ⟨_,cap,rfl,hn,Or.inr ⟨b,o,rfl,by omega,hc⟩⟩
theorem StmtsAt.up {N M : Nat} {w : World} (hm : N ≤ M) : ∀ {d : Nat} {v : Value} {T : SL},StmtsAt N w d v T→StmtsAt M w d v T
 | 0,_,_,h => h
 | d + 1,v,T,h => by
  obtain ⟨a,cap,rfl,hn,h | ⟨b,o,rfl,hlt,hc⟩⟩:=h
  ·exact ⟨a,cap,rfl,hn,Or.inl h⟩
  ·refine ⟨_,cap,rfl,hn,Or.inr ⟨b,o,rfl,by omega,fun i hi => ?_⟩⟩
   obtain ⟨ve,vf,va,vb,c0,c1,c2,c3,c4,c5,t1,t2,s1,s2⟩:=hc i hi
   exact ⟨ve,vf,va,vb,c0,c1,c2,c3,c4,c5,t1.up hm,t2.up hm,s1.up hm,s2.up hm⟩
theorem StmtsAt.shape {N : Nat} {w : World} {d : Nat} {v : Value} {T : SL} (h : StmtsAt N w d v T) : ∃ a cap,v = .slice a T.len cap∧T.len ≤ 9223372036854775807:=by
 cases d with
 | zero => obtain ⟨e,a,cap,rfl⟩:=h; rw [e]; exact ⟨a,cap,rfl,by omega⟩
 | succ d => obtain ⟨a,cap,rfl,hn,_⟩:=h; exact ⟨a,cap,rfl,hn⟩
theorem ToksAt.shape {N : Nat} {w : World} {v : Value} {n : Nat} {k z : Nat→Int} (h : ToksAt N w v n k z) : ∃ a cap,v = .slice a n cap∧n ≤ 9223372036854775807:=by
 obtain ⟨a,cap,rfl,hn,_⟩:=h; exact ⟨a,cap,rfl,by omega⟩
theorem ToksAt.room {N : Nat} {w : World} {v : Value} {n : Nat} {k z : Nat→Int} (h : ToksAt N w v n k z) : ∃ a cap,v = .slice a n cap∧n ≤ cap:=by
 obtain ⟨a,cap,rfl,hn,_⟩:=h; exact ⟨a,cap,rfl,by omega⟩
theorem FunsAt.shape {N : Nat} {w : World} {v : Value} {n : Nat} {p l : Nat→Int} {bv : Nat→Value} (h : FunsAt N w v n p l bv) : ∃ a cap,v = .slice a n cap∧n ≤ 9223372036854775807:=by
 obtain ⟨a,cap,rfl,hn,_⟩:=h; exact ⟨a,cap,rfl,hn⟩
theorem ret_num {a b : Int} (h : a = b) : Ending.returned (.int .i64 a) = .returned (.int .i64 b):=by rw [h]
theorem below_up {N : Nat} {a b c : World} (h : Below N a b) (k : Below b.heap.size b c) (hn : N ≤ a.heap.size) : Below N a c:=h.trans (k.mono (Nat.le_trans hn h.size))
theorem box_at {w w1 : World} {cs : Array Value} {t : TypeId} {M : Nat} (hb : Below M (w.alloc (.cells cs t)) w1) (hM : w.heap.size < M) (i : Nat) {c : Value} (h : cs[i]? = some c) : w1.cell? ⟨w.heap.size,i,none⟩ = some c:=by
 rw [hb.cell (p:=⟨w.heap.size,i,none⟩) hM,World.cell?_alloc_new]
 exact h
theorem box_in {w w1 : World} {cs : Array Value} {t : TypeId} (hb : Below (w.alloc (.cells cs t)).heap.size (w.alloc (.cells cs t)) w1) (i : Nat) {c : Value} (h : cs[i]? = some c) : w1.cell? ⟨w.heap.size,i,none⟩ = some c :=
 box_at hb (by simp) i h
end Go.Proofs.YtipnjoahobplhaaGreatDoor
namespace Go.Proofs.YtipnjoahobplhaaGreatDoor
open Go.RowKit Go.Maps
theorem wpList_wanted {P : Program} {ops : Array Oper} {Q : Exit→Act→World→Prop} {a : Act} {w : World} {rest : List Oper} {o : Oper} (hw : Region.wanted o (yielded ops a.tmps) = true)
  (h : wpList P ops Q ({ o with guard:=none } :: rest) a w) : wpList P ops Q (o :: rest) a w:=by
 unfold wpList at h ⊢
 rw [if_pos (by simp [Region.wanted])] at h
 rw [if_pos hw]
 exact h
theorem own_shape {w : World} {base : Nat} {e : TypeId} {size : Nat} {v : Value} {n : Nat} {xs : List Value} (h : w.ownsRow base e size v n xs) : ∃ a cap,v = .slice a n cap:=by
 rcases h.2 with ⟨rfl,rfl⟩ | ⟨g,cap,cur,rfl,_⟩
 ·exact ⟨none,0,rfl⟩
 ·exact ⟨_,cap,rfl⟩
theorem own_block {w : World} {base : Nat} {e : TypeId} {size : Nat} {v : Value} {n : Nat} {xs : List Value} (h : w.ownsRow base e size v (n + 1) xs) : ∃ g cap,v = .slice (some ⟨g,0,none⟩) (n + 1) cap∧base ≤ g∧g < w.heap.size∧n + 1 ≤ cap∧cap ≤ maxLen:=by
 rcases h.2 with ⟨rfl,h0⟩ | ⟨g,cap,cur,rfl,hb,hh,hn,hm,_⟩
 ·cases h0
 ·exact ⟨g,cap,rfl,hb,(h.lt g rfl).2,hn,hm⟩
theorem slice_to {t e : TypeId} {k : Nat} (u : Tryz.prog.underlying t = some (.slice e)) (hz : ∀ w,(sizeOf e).run Tryz.prog w = .ok k w) (g : Addr) (n c m : Nat) (x : Int) (hx : x = m) (hm : m ≤ c) (w : World) : (Instr.slice t (.slice (some g) n c) none (some (.int .i64 x)) none).run Tryz.prog w = .ok (.slice (some g) m c) w:=by
 subst hx
 simp [Instr.slice,Instr.sliceBounds,Instr.sliceBound,asIntOf,run_underlying u,go_sem]
 rw [if_pos hm,hz]
 rfl
end Go.Proofs.YtipnjoahobplhaaGreatDoor
namespace Go.Proofs.YtipnjoahobplhaaGreatDoor
open Go.RowKit
set_option maxHeartbeats 400000 in
theorem cCheck (k n c : Int) (w : World) :
  Calls Tryz.prog 123 #[.agg #[.int .i64 k,.int .i64 n],.int .i64 c] w fun e w' => e = .returned (.int .i64 (chk k n c))∧Below w.heap.size w w':=by
 go_enter Tryz.func123,Tryz.ntmps123
 go_wp2
 all_goals
  go_ret
  refine ⟨ret_num ?_,below_alloc _ _⟩
  go_light
  simp only [beq_iff_eq,bne_iff_ne,ne_eq,beq_eq_false_iff_ne,bne_eq_false_iff_eq] at *
  unfold chk
  (repeat' split) <;> omega
end Go.Proofs.YtipnjoahobplhaaGreatDoor
