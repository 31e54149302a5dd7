/- The plain reckoning behind programs as people write them: which error a token has, an expression, a statement, a program; how many statements there are, and how deep. No Go in it. -/
import Derived.Test.YtfaggdkiffhdbaaGreatDoorPart0
namespace Go.Proofs.YtfaggdkiffhdbaaGreatDoor

/-- What is wrong with a token of kind k and number z,of nf functions and so many variables. -/
def tokErr (k z : Int) (nf : Nat) (locals : Int) : Int :=
 if k=1 then (if z < -1000000000∨1000000000 < z then 3 else 0)
 else if k=2 then (if z < 0∨locals≤z then 3 else 0)
 else if k=3 then (if z < 1∨5 < z then 3 else 0)
 else if k=4 then (if z < 0∨3 < z then 3 else 0)
 else if k=5 then (if z < 1∨4 < z then 3 else 0)
 else if k=6 then (if z < 0∨(nf : Int)≤z then 5 else 0)
 else 4

/-- How many expressions a token asks for. -/
def asksOf (k z : Int) (par : Nat→Int) : Int :=
 if k=3 then 2 else if k=4 then 1 else if k=6 then par z.toNat else 0

/-- Has a function so many parameters as it may? -/
def parErr (p : Int) : Int:=if p < 0∨3 < p then 3 else 0

/-- How many expressions are asked for still,behind j tokens. -/
def asked (k z : Nat→Int) (par : Nat→Int) : Nat→Int
 | 0 => 1
 | j + 1 => asked k z par j + (asksOf (k j) (z j) par - 1)

/-- What is wrong at token j. -/
def stepErr (k z : Nat→Int) (nf : Nat) (par : Nat→Int) (locals : Int) (j : Nat) : Int :=
 if tokErr (k j) (z j) nf locals=0 then (if asked k z par j=0 then 4 else 0) else tokErr (k j) (z j) nf locals

/-- What is wrong with an expression. -/
def exprErr (n : Nat) (k z : Nat→Int) (nf : Nat) (par : Nat→Int) (locals : Int) : Int :=
 if 24 < n then 2
 else if firstErr nf (fun i => parErr (par i))=0 then
  (if firstErr n (stepErr k z nf par locals)=0 then (if 0 < asked k z par n then 4 else 0) else firstErr n (stepErr k z nf par locals))
 else 3

theorem firstErr_val {f : Nat→Int} {c : Int} (h : ∀ j,f j=0∨f j=c) : ∀ n,firstErr n f=0∨firstErr n f=c
 | 0 => Or.inl rfl
 | n + 1 => by
  simp only [firstErr]
  split
  ·exact h n
  ·exact firstErr_val h n

theorem parErr_val (p : Int) : parErr p=0∨parErr p=3:=by unfold parErr; split <;> simp
theorem parErr_zero {p : Int} (h : parErr p=0) : 0≤p∧p≤3:=by unfold parErr at h; split at h <;> omega

theorem tokErr_call {k z : Int} {nf : Nat} {locals : Int} (h : tokErr k z nf locals=0) (hk : k=6) : 0≤z∧z.toNat < nf:=by
 subst hk
 unfold tokErr at h
 simp at h
 omega

theorem asks_range {k z : Int} {nf : Nat} {locals : Int} {par : Nat→Int} (h : tokErr k z nf locals=0) (hp : ∀ i,i < nf→parErr (par i)=0) : 0≤asksOf k z par∧asksOf k z par≤3:=by
 unfold asksOf
 split
 ·omega
 split
 ·omega
 split
 ·next h3 => exact parErr_zero (hp _ (tokErr_call h h3).2)
 ·omega

theorem stepErr_tok {k z : Nat→Int} {nf : Nat} {par : Nat→Int} {locals : Int} {j : Nat} (h : stepErr k z nf par locals j=0) : tokErr (k j) (z j) nf locals=0∧¬ asked k z par j=0:=by
 unfold stepErr at h
 split at h
 ·next h1 =>
  refine ⟨h1,fun e => ?_⟩
  rw [if_pos e] at h; cases h
 ·next h1 => exact absurd h h1

theorem stepErr_bad {k z : Nat→Int} {nf : Nat} {par : Nat→Int} {locals : Int} {j : Nat} (h : ¬ tokErr (k j) (z j) nf locals=0) : stepErr k z nf par locals j=tokErr (k j) (z j) nf locals:=if_neg h
theorem stepErr_over {k z : Nat→Int} {nf : Nat} {par : Nat→Int} {locals : Int} {j : Nat} (h : tokErr (k j) (z j) nf locals=0) (h0 : asked k z par j=0) : stepErr k z nf par locals j=4:=by
 unfold stepErr; rw [if_pos h,if_pos h0]
theorem stepErr_good {k z : Nat→Int} {nf : Nat} {par : Nat→Int} {locals : Int} {j : Nat} (h : tokErr (k j) (z j) nf locals=0) (h0 : ¬ asked k z par j=0) : stepErr k z nf par locals j=0:=by
 unfold stepErr; rw [if_pos h,if_neg h0]

theorem asked_range {k z : Nat→Int} {nf : Nat} {par : Nat→Int} {locals : Int} (hp : ∀ i,i < nf→parErr (par i)=0) : ∀ j,(∀ x,x < j→stepErr k z nf par locals x=0)→0≤asked k z par j∧asked k z par j≤1 + 2 * j
 | 0,_ => by simp [asked]
 | j + 1,h => by
  have ih:=asked_range hp j fun x hx => h x (by omega)
  obtain ⟨h1,h2⟩:=stepErr_tok (h j (by omega))
  have h3:=asks_range h1 hp
  simp only [asked]
  omega

/-- The ways an expression's error is come to. -/
theorem exprErr_many {n : Nat} {k z : Nat→Int} {nf : Nat} {par : Nat→Int} {locals : Int} (h : 24 < n) : exprErr n k z nf par locals=2:=if_pos h
theorem exprErr_par {n : Nat} {k z : Nat→Int} {nf : Nat} {par : Nat→Int} {locals : Int} (h : ¬ 24 < n) {i : Nat} (hi : i < nf) (hb : ¬ parErr (par i)=0) : exprErr n k z nf par locals=3:=by
 unfold exprErr
 rw [if_neg h,if_neg]
 intro e
 exact hb (firstErr_is_zero e i hi)
theorem exprErr_step {n : Nat} {k z : Nat→Int} {nf : Nat} {par : Nat→Int} {locals : Int} (h : ¬ 24 < n) (hp : ∀ i,i < nf→parErr (par i)=0) {j : Nat} (hj : j < n) (h0 : ∀ x,x < j→stepErr k z nf par locals x=0) (hb : ¬ stepErr k z nf par locals j=0) :
  exprErr n k z nf par locals=stepErr k z nf par locals j:=by
 unfold exprErr
 have e:=firstErr_at h0 hb hj
 rw [if_neg h,if_pos (firstErr_zero hp),if_neg (by rw [e]; exact hb),e]
theorem exprErr_end {n : Nat} {k z : Nat→Int} {nf : Nat} {par : Nat→Int} {locals : Int} (h : ¬ 24 < n) (hp : ∀ i,i < nf→parErr (par i)=0) (h0 : ∀ x,x < n→stepErr k z nf par locals x=0) :
  exprErr n k z nf par locals=if 0 < asked k z par n then 4 else 0:=by
 unfold exprErr
 rw [if_neg h,if_pos (firstErr_zero hp),if_pos (firstErr_zero h0)]

/-- A statement,but for those in it. -/
structure Nd where
 kind : Int
 num : Int
 ne : Nat
 ek : Nat→Int
 ez : Nat→Int
 nf : Nat
 fk : Nat→Int
 fz : Nat→Int

/-- A list of statements,with all in them: behind each way (the number of a statement,its A or its B,and so on) how many there are,and which. -/
abbrev SL:=List (Nat×Bool)→Nat×(Nat→Nd)
def SL.len (T : SL) : Nat:=(T []).1
def SL.nd (T : SL) (i : Nat) : Nd:=(T []).2 i
def SL.sub (T : SL) (i : Nat) (b : Bool) : SL:=fun p => T ((i,b) :: p)

/-- Has a statement the form of its kind? -/
def formErr (s : Nd) (la lb : Nat) : Int :=
 if s.kind < 1∨8 < s.kind∨(¬ s.num=0∧¬ s.kind=1∧¬ s.kind=2)∨(0 < s.ne∧s.kind=4)∨(0 < s.nf∧¬ s.kind=2)∨(0 < la∧¬ s.kind=6∧¬ s.kind=7)∨(0 < lb∧¬ s.kind=6) then 4 else 0

def numErr (s : Nd) (locals : Int) : Int :=
 if (s.kind=1∧(s.num < 0∨locals≤s.num))∨(s.kind=2∧(s.num < 0∨3 < s.num)) then 3 else 0

/-- What is wrong with a statement,but for those in it. -/
def stErr (nf : Nat) (par : Nat → Int) (locals : Int) (s : Nd) (la lb : Nat) : Int :=
  if formErr s la lb = 0 then
    (if numErr s locals = 0 then
      (if s.kind = 4 then 0
       else if exprErr s.ne s.ek s.ez nf par locals = 0 then (if s.kind = 2 then exprErr s.nf s.fk s.fz nf par locals else 0)
       else exprErr s.ne s.ek s.ez nf par locals)
     else 3)
  else 4

/-- The first error of the statements,each ahead of what is in its A,and then its B. -/
def errs (E : Nd→Nat→Nat→Int) : Nat→SL→Int
 | 0,_ => 0
 | d + 1,T => firstErr T.len fun i =>
   if E (T.nd i) (T.sub i false).len (T.sub i true).len=0 then
    (if errs E d (T.sub i false)=0 then errs E d (T.sub i true) else errs E d (T.sub i false))
   else E (T.nd i) (T.sub i false).len (T.sub i true).len

def sumTo : Nat→(Nat→Nat)→Nat
 | 0,_ => 0
 | n + 1,f => sumTo n f + f n

/-- How many statements. -/
def size : Nat→SL→Nat
 | 0,_ => 0
 | d + 1,T => sumTo T.len fun i => 1 + size d (T.sub i false) + size d (T.sub i true)

/-- They are no deeper than so. -/
def fits : Nat→SL→Nat→Prop
 | 0,_,_ => True
 | d + 1,T,left => T.len=0∨(0 < left∧∀ i,i < T.len→fits d (T.sub i false) (left - 1)∧fits d (T.sub i true) (left - 1))

theorem fits_zero {d : Nat} {T : SL} (h : T.len=0) (left : Nat) : fits d T left:=by
 cases d with
 | zero => trivial
 | succ d => exact Or.inl h

theorem sumTo_congr {f g : Nat→Nat} : ∀ {n : Nat},(∀ j,j < n→f j=g j)→sumTo n f=sumTo n g
 | 0,_ => rfl
 | n + 1,h => by simp only [sumTo]; rw [sumTo_congr (n:=n) fun j hj => h j (by omega),h n (by omega)]

theorem sumTo_mono {f : Nat→Nat} {j : Nat} : ∀ {n : Nat},j≤n→sumTo j f≤sumTo n f
 | 0,h => by
  obtain rfl : j=0:=by omega
  exact Nat.le_refl _
 | n + 1,h => by
  by_cases e : j=n + 1
  ·subst e; exact Nat.le_refl _
  ·have:=sumTo_mono (f:=f) (j:=j) (n:=n) (by omega)
   simp only [sumTo]; omega

theorem sumTo_ge {f : Nat→Nat} (h : ∀ j,1≤f j) : ∀ n,n≤sumTo n f
 | 0 => Nat.le_refl _
 | n + 1 => by have:=sumTo_ge h n; have:=h n; simp only [sumTo]; omega

theorem size_len (d : Nat) (T : SL) : T.len≤size (d + 1) T:=sumTo_ge (fun j => by omega) _

/-- The statements of a function are not too many,and not too deep. -/
def sound (d : Nat) (T : SL) : Prop:=fits d T 4∧size d T≤30

/-- One by one,as long as there is no error; what is counted goes on. -/
def seqW (g : Nat→Nat→Int×Nat) : Nat→Nat→Int×Nat
 | 0,c => (0,c)
 | j + 1,c => if (seqW g j c).1=0 then g j (seqW g j c).2 else seqW g j c

theorem seqW_next {g : Nat→Nat→Int×Nat} {j c : Nat} (h : (seqW g j c).1=0) : seqW g (j + 1) c=g j (seqW g j c).2:=if_pos h

theorem seqW_stop {g : Nat→Nat→Int×Nat} {j c : Nat} (h : (seqW g j c).1=0) (hb : ¬ (g j (seqW g j c).2).1=0) : ∀ {n : Nat},j < n→seqW g n c=g j (seqW g j c).2
 | 0,hj => absurd hj (Nat.not_lt_zero _)
 | n + 1,hj => by
  by_cases e : j=n
  ·subst e; exact if_pos h
  ·have ih:=seqW_stop h hb (n:=n) (by omega)
   show (if (seqW g n c).1=0 then _ else _)=_
   rw [ih,if_neg hb]

/-- The walk through the statements,with a look at each. -/
def wk (L : Nat → Nd → Nat → Nat → Int → Int) : Nat → SL → Int → Nat → Int × Nat
  | 0, _, _, c => (0, c)
  | d + 1, T, dep, c => seqW (fun i c =>
      if L c (T.nd i) (T.sub i false).len (T.sub i true).len dep = 0 then
        (if (wk L d (T.sub i false) (dep + 1) (c + 1)).1 = 0 then wk L d (T.sub i true) (dep + 1) (wk L d (T.sub i false) (dep + 1) (c + 1)).2
         else wk L d (T.sub i false) (dep + 1) (c + 1))
      else (L c (T.nd i) (T.sub i false).len (T.sub i true).len dep, c + 1)) T.len c

/-- The look that counts. -/
def look1 (c : Nat) (_ : Nd) (_ _ : Nat) (dep : Int) : Int:=if 30 < c + 1∨4 < dep then 2 else 0

/-- The look at each statement's error. -/
def look2 (E : Nd→Nat→Nat→Int) (_ : Nat) (s : Nd) (la lb : Nat) (_ : Int) : Int:=E s la lb

theorem wk_errs (E : Nd → Nat → Nat → Int) : ∀ (d : Nat) (T : SL) (dep : Int) (c : Nat), (wk (look2 E) d T dep c).1 = errs E d T
  | 0, _, _, _ => rfl
  | d + 1, T, dep, c => by
    simp only [wk, errs]
    have key : ∀ (n c : Nat), (seqW (fun i c =>
        if look2 E c (T.nd i) (T.sub i false).len (T.sub i true).len dep = 0 then
          (if (wk (look2 E) d (T.sub i false) (dep + 1) (c + 1)).1 = 0 then wk (look2 E) d (T.sub i true) (dep + 1) (wk (look2 E) d (T.sub i false) (dep + 1) (c + 1)).2
           else wk (look2 E) d (T.sub i false) (dep + 1) (c + 1))
        else (look2 E c (T.nd i) (T.sub i false).len (T.sub i true).len dep, c + 1)) n c).1 = firstErr n fun i =>
      if E (T.nd i) (T.sub i false).len (T.sub i true).len = 0 then
        (if errs E d (T.sub i false) = 0 then errs E d (T.sub i true) else errs E d (T.sub i false))
      else E (T.nd i) (T.sub i false).len (T.sub i true).len := by
      intro n
      induction n with
      | zero => intro c; rfl
      | succ n ih =>
        intro c
        simp only [seqW, firstErr]
        rw [← ih c]
        split
        · rename_i h0
          generalize (seqW _ n c).2 = c'
          have e1 : look2 E c' (T.nd n) (T.sub n false).len (T.sub n true).len dep = E (T.nd n) (T.sub n false).len (T.sub n true).len := rfl
          rw [e1]
          split
          · have e2 := wk_errs E d (T.sub n false) (dep + 1) (c' + 1)
            rw [e2]
            split
            · exact wk_errs E d (T.sub n true) _ _
            · exact e2
          · rfl
        · rfl
    exact key T.len c

theorem wk_count : ∀ (d : Nat) (T : SL) (dep : Int) (c left : Nat), c ≤ 30 → dep + left = 5 → (fits d T left → c + size d T ≤ 30 → wk look1 d T dep c = (0, c + size d T)) ∧ (¬ (fits d T left ∧ c + size d T ≤ 30) → (wk look1 d T dep c).1 = 2)
  | 0, T, dep, c, left, hc, _ => ⟨fun _ _ => rfl, fun h => absurd ⟨trivial, hc⟩ h⟩
  | d + 1, T, dep, c, left, hc, hd => by
    simp only [wk, size, fits]
    have item : ∀ i c', c' ≤ 30 → (0 < left → fits d (T.sub i false) (left - 1) → fits d (T.sub i true) (left - 1) → c' + (1 + size d (T.sub i false) + size d (T.sub i true)) ≤ 30 →
        (if look1 c' (T.nd i) (T.sub i false).len (T.sub i true).len dep = 0 then
          (if (wk look1 d (T.sub i false) (dep + 1) (c' + 1)).1 = 0 then wk look1 d (T.sub i true) (dep + 1) (wk look1 d (T.sub i false) (dep + 1) (c' + 1)).2
           else wk look1 d (T.sub i false) (dep + 1) (c' + 1))
          else (look1 c' (T.nd i) (T.sub i false).len (T.sub i true).len dep, c' + 1)) = (0, c' + (1 + size d (T.sub i false) + size d (T.sub i true)))) ∧
        (¬ (0 < left ∧ fits d (T.sub i false) (left - 1) ∧ fits d (T.sub i true) (left - 1) ∧ c' + (1 + size d (T.sub i false) + size d (T.sub i true)) ≤ 30) →
        (if look1 c' (T.nd i) (T.sub i false).len (T.sub i true).len dep = 0 then
          (if (wk look1 d (T.sub i false) (dep + 1) (c' + 1)).1 = 0 then wk look1 d (T.sub i true) (dep + 1) (wk look1 d (T.sub i false) (dep + 1) (c' + 1)).2
           else wk look1 d (T.sub i false) (dep + 1) (c' + 1))
          else (look1 c' (T.nd i) (T.sub i false).len (T.sub i true).len dep, c' + 1)).1 = 2) := by
      intro i c' hc'
      by_cases hl : 30 < c' + 1 ∨ 4 < dep
      · have e : look1 c' (T.nd i) (T.sub i false).len (T.sub i true).len dep = 2 := if_pos hl
        rw [e]
        refine ⟨fun h1 _ _ h4 => by omega, fun _ => rfl⟩
      · have e : look1 c' (T.nd i) (T.sub i false).len (T.sub i true).len dep = 0 := if_neg hl
        rw [e, if_pos rfl]
        have hl2 : 0 < left := by omega
        obtain ⟨a1, a2⟩ := wk_count d (T.sub i false) (dep + 1) (c' + 1) (left - 1) (by omega) (by omega)
        by_cases hA : fits d (T.sub i false) (left - 1) ∧ c' + 1 + size d (T.sub i false) ≤ 30
        · have eA := a1 hA.1 hA.2
          rw [eA, if_pos rfl]
          obtain ⟨b1, b2⟩ := wk_count d (T.sub i true) (dep + 1) (c' + 1 + size d (T.sub i false)) (left - 1) (by omega) (by omega)
          refine ⟨fun _ _ h3 h4 => ?_, fun h => ?_⟩
          · rw [b1 h3 (by omega)]
            congr 1
            omega
          · exact b2 fun h' => h ⟨hl2, hA.1, h'.1, by omega⟩
        · have eA := a2 hA
          rw [if_neg (by rw [eA]; decide)]
          exact ⟨fun _ h2 _ h4 => absurd ⟨h2, by omega⟩ hA, fun _ => eA⟩
    generalize hg : (fun (i c : Nat) =>
        if look1 c (T.nd i) (T.sub i false).len (T.sub i true).len dep = 0 then
          (if (wk look1 d (T.sub i false) (dep + 1) (c + 1)).1 = 0 then wk look1 d (T.sub i true) (dep + 1) (wk look1 d (T.sub i false) (dep + 1) (c + 1)).2
           else wk look1 d (T.sub i false) (dep + 1) (c + 1))
        else (look1 c (T.nd i) (T.sub i false).len (T.sub i true).len dep, c + 1)) = g
    have item' : ∀ i c', c' ≤ 30 → (0 < left → fits d (T.sub i false) (left - 1) → fits d (T.sub i true) (left - 1) → c' + (1 + size d (T.sub i false) + size d (T.sub i true)) ≤ 30 → g i c' = (0, c' + (1 + size d (T.sub i false) + size d (T.sub i true)))) ∧
        (¬ (0 < left ∧ fits d (T.sub i false) (left - 1) ∧ fits d (T.sub i true) (left - 1) ∧ c' + (1 + size d (T.sub i false) + size d (T.sub i true)) ≤ 30) → (g i c').1 = 2) := by
      intro i c' h; subst hg; exact item i c' h
    clear item
    have all : ∀ n, ((∀ i, i < n → 0 < left ∧ fits d (T.sub i false) (left - 1) ∧ fits d (T.sub i true) (left - 1)) → c + sumTo n (fun i => 1 + size d (T.sub i false) + size d (T.sub i true)) ≤ 30 → seqW g n c = (0, c + sumTo n (fun i => 1 + size d (T.sub i false) + size d (T.sub i true)))) ∧
        (¬ ((∀ i, i < n → 0 < left ∧ fits d (T.sub i false) (left - 1) ∧ fits d (T.sub i true) (left - 1)) ∧ c + sumTo n (fun i => 1 + size d (T.sub i false) + size d (T.sub i true)) ≤ 30) → (seqW g n c).1 = 2) := by
      intro n
      induction n with
      | zero => exact ⟨fun _ _ => rfl, fun h => absurd ⟨fun i hi => absurd hi (Nat.not_lt_zero _), hc⟩ h⟩
      | succ n ih =>
        obtain ⟨i1, i2⟩ := ih
        simp only [sumTo, seqW]
        by_cases hA : (∀ i, i < n → 0 < left ∧ fits d (T.sub i false) (left - 1) ∧ fits d (T.sub i true) (left - 1)) ∧ c + sumTo n (fun i => 1 + size d (T.sub i false) + size d (T.sub i true)) ≤ 30
        · rw [i1 hA.1 hA.2, if_pos rfl]
          obtain ⟨j1, j2⟩ := item' n _ hA.2
          refine ⟨fun h1 h2 => ?_, fun h => ?_⟩
          · obtain ⟨p, q, r⟩ := h1 n (by omega)
            rw [j1 p q r (by omega)]
            congr 1
            omega
          · refine j2 fun ⟨p, q, r, s⟩ => h ⟨fun i hi => ?_, by omega⟩
            by_cases e : i = n
            · subst e; exact ⟨p, q, r⟩
            · exact hA.1 i (by omega)
        · have e := i2 hA
          rw [if_neg (by rw [e]; decide)]
          exact ⟨fun h1 h2 => absurd ⟨fun i hi => h1 i (by omega), by omega⟩ hA, fun _ => e⟩
    obtain ⟨a1, a2⟩ := all T.len
    refine ⟨fun h1 h2 => a1 (fun i hi => ?_) h2, fun h => a2 fun ⟨h1, h2⟩ => h ⟨?_, h2⟩⟩
    · rcases h1 with h1 | ⟨h1, h3⟩
      · omega
      · exact ⟨h1, h3 i hi⟩
    · by_cases e : T.len = 0
      · exact Or.inl e
      · exact Or.inr ⟨(h1 0 (by omega)).1, fun i hi => (h1 i hi).2⟩

/-- A function's head. -/
def headErr (i : Nat) (par loc : Int) : Int:=if par < 0∨3 < par∨loc < par∨6 < loc∨(i=0∧0 < par) then 3 else 0

/-- What is wrong with a function's statements. -/
def bodyErr (nf : Nat) (par : Nat→Int) (locals : Int) (d : Nat) (T : SL) : Int :=
 if (wk look1 d T 1 0).1=0 then errs (stErr nf par locals) d T else 2

/-- What is wrong with a program. -/
def progErr (nf : Nat) (par loc : Nat→Int) (d : Nat) (body : Nat→SL) : Int :=
 if nf < 1∨4 < nf then 2
 else if firstErr nf (fun i => headErr i (par i) (loc i))=0 then firstErr nf (fun i => bodyErr nf par (loc i) d (body i))
 else 3

/-- Not too many,not too deep,where so many levels are left. -/
def fineB (d : Nat) (T : SL) (left : Nat) : Bool:=(wk look1 d T (5 - left) 0).1 == 0

theorem fineB_iff {d : Nat} {T : SL} {left : Nat} : fineB d T left=true ↔ fits d T left∧size d T≤30:=by
 unfold fineB
 rw [beq_iff_eq]
 obtain ⟨h1,h2⟩:=wk_count d T (5 - left) 0 left (by omega) (by omega)
 rw [Nat.zero_add] at h1 h2
 by_cases h : fits d T left∧size d T≤30
 ·rw [h1 h.1 h.2]; exact ⟨fun _ => h,fun _ => rfl⟩
 ·rw [h2 h]; exact ⟨fun e => absurd e (by decide),fun e => absurd e h⟩

theorem wk1_iff {d : Nat} {T : SL} : (wk look1 d T 1 0).1=0 ↔ sound d T:=by
 have:=fineB_iff (d:=d) (T:=T) (left:=4)
 unfold fineB at this
 rw [beq_iff_eq] at this
 exact this

theorem headErr_val (i : Nat) (p l : Int) : headErr i p l=0∨headErr i p l=3:=by unfold headErr; split <;> simp

theorem progErr_many {nf : Nat} {par loc : Nat→Int} {d : Nat} {body : Nat→SL} (h : nf < 1∨4 < nf) : progErr nf par loc d body=2:=if_pos h
theorem progErr_head {nf : Nat} {par loc : Nat→Int} {d : Nat} {body : Nat→SL} (h : ¬ (nf < 1∨4 < nf)) {i : Nat} (hi : i < nf) (hb : ¬ headErr i (par i) (loc i)=0) : progErr nf par loc d body=3:=by
 unfold progErr
 rw [if_neg h,if_neg]
 intro e
 exact hb (firstErr_is_zero e i hi)
theorem progErr_body {nf : Nat} {par loc : Nat→Int} {d : Nat} {body : Nat→SL} (h : ¬ (nf < 1∨4 < nf)) (hh : ∀ i,i < nf→headErr i (par i) (loc i)=0) : progErr nf par loc d body=firstErr nf (fun i => bodyErr nf par (loc i) d (body i)):=by
 unfold progErr
 rw [if_neg h,if_pos (firstErr_zero hh)]

end Go.Proofs.YtfaggdkiffhdbaaGreatDoor
