/- The plain reckoning behind the cells: which error a value has, which row of values, which cells; what is met from a row of values. No Go in it. -/

namespace Go.Proofs.YtfaggdkiffhdbaaGreatDoor

/-- What is wrong with a value of kind k and number n among c cells. -/
def chk (k n c : Int) : Int :=
 if k=0 then (if n=0 then 0 else 4)
 else if k=1 then (if n < -1000000000∨1000000000 < n then 3 else 0)
 else if k=2 then (if n < 0∨c≤n then 5 else 0)
 else 4

/-- The first of n numbers that isn't 0; else 0. -/
def firstErr : Nat→(Nat→Int)→Int
 | 0,_ => 0
 | n + 1,f => if firstErr n f=0 then f n else firstErr n f

theorem firstErr_zero {f : Nat→Int} : ∀ {n : Nat},(∀ j,j < n→f j=0)→firstErr n f=0
 | 0,_ => rfl
 | n + 1,h => by
  have:=firstErr_zero (n:=n) fun j hj => h j (by omega)
  simp only [firstErr,this,if_true]
  exact h n (by omega)

theorem firstErr_at {f : Nat→Int} {i : Nat} (h0 : ∀ j,j < i→f j=0) (hi : ¬ f i=0) : ∀ {n : Nat},i < n→firstErr n f=f i
 | 0,h => absurd h (Nat.not_lt_zero _)
 | n + 1,h => by
  by_cases e : i=n
  ·subst e; simp only [firstErr,firstErr_zero h0,if_true]
  ·have:=firstErr_at h0 hi (n:=n) (by omega)
   simp only [firstErr,this,hi,if_false]

theorem firstErr_is_zero {f : Nat→Int} : ∀ {n : Nat},firstErr n f=0→∀ j,j < n→f j=0
 | 0,_,j,hj => absurd hj (Nat.not_lt_zero _)
 | n + 1,h,j,hj => by
  simp only [firstErr] at h
  by_cases e : firstErr n f=0
  ·rw [if_pos e] at h
   by_cases ej : j=n
   ·subst ej; exact h
   ·exact firstErr_is_zero e j (by omega)
  ·rw [if_neg e] at h; exact absurd h e

theorem firstErr_congr {f g : Nat→Int} : ∀ {n : Nat},(∀ j,j < n→f j=g j)→firstErr n f=firstErr n g
 | 0,_ => rfl
 | n + 1,h => by
  simp only [firstErr]
  rw [firstErr_congr (n:=n) fun j hj => h j (by omega),h n (by omega)]

/-- What is wrong with a row of n values. -/
def rowErr (n : Nat) (k z : Nat→Int) (c : Int) : Int:=firstErr n fun i => chk (k i) (z i) c

/-- .. with a cell of m fields. -/
def cellErr (m : Nat) (k z : Nat→Int) (c : Int) : Int:=if m < 1∨4 < m then 2 else rowErr m k z c

/-- .. with n cells. -/
def allErr (n : Nat) (m : Nat→Nat) (K Z : Nat→Nat→Int) : Int :=
 if 24 < n then 2 else firstErr n fun i => cellErr (m i) (K i) (Z i) n

/-- .. with what Reach is given. -/
def reachErr (n : Nat) (m : Nat→Nat) (K Z : Nat→Nat→Int) (f : Nat) (kf zf : Nat→Int) : Int :=
 if allErr n m K Z=0 then (if 400 < f then 2 else rowErr f kf zf n) else allErr n m K Z

/-- An error is a small number. -/
theorem chk_range (k n c : Int) : chk k n c=0∨chk k n c=3∨chk k n c=4∨chk k n c=5:=by
 unfold chk
 repeat' split
 all_goals simp

end Go.Proofs.YtfaggdkiffhdbaaGreatDoor

namespace Go.Proofs.YtfaggdkiffhdbaaGreatDoor

/-- One value more is looked at: the cell that it is goes to the end,if it isn't there yet. -/
def meet1 (R : List Int) (k z : Int) : List Int:=if k=2∧¬ z ∈ R then R ++ [z] else R

/-- .. the first i values of a row. -/
def meetTo : Nat→(Nat→Int)→(Nat→Int)→List Int→List Int
 | 0,_,_,R => R
 | i + 1,k,z,R => meet1 (meetTo i k z R) (k i) (z i)

theorem meet1_no {R : List Int} {k z : Int} (h : ¬ k=2) : meet1 R k z=R:=if_neg fun e => h e.1
theorem meet1_old {R : List Int} {k z : Int} (h : z ∈ R) : meet1 R k z=R:=if_neg fun e => e.2 h
theorem meet1_new {R : List Int} {k z : Int} (hk : k=2) (h : ¬ z ∈ R) : meet1 R k z=R ++ [z]:=if_pos ⟨hk,h⟩

theorem meet1_len (R : List Int) (k z : Int) : (meet1 R k z).length≤R.length + 1:=by
 unfold meet1; split
 ·simp
 ·omega

theorem meetTo_len : ∀ (i : Nat) (k z : Nat→Int) (R : List Int),(meetTo i k z R).length≤R.length + i
 | 0,_,_,R => by simp [meetTo]
 | i + 1,k,z,R => by
  have:=meetTo_len i k z R
  have h1:=meet1_len (meetTo i k z R) (k i) (z i)
  simp only [meetTo]; omega

/-- An instruction. -/
structure In where
 op : Int
 a : Int
 b : Int
 c : Int
 n : Nat
 z : Nat→Int

def fromB (n lo hi : Int) : Bool:=decide (lo≤n∧n≤hi)

/-- Are A,B and C,where they are registers,of those that there are? -/
def regsB (i : In) (regs : Int) : Bool :=
 if i.op=10∨i.op=12 then true
 else if i.op=3 then fromB i.a 0 (regs - 1) && (fromB i.b 0 (regs - 1) && fromB i.c 0 (regs - 1))
 else if i.op=2∨i.op=4∨i.op=6 then fromB i.a 0 (regs - 1) && fromB i.b 0 (regs - 1)
 else fromB i.a 0 (regs - 1)

/-- Is what is neither a register nor a procedure as it may be? -/
def restB (i : In) (code : Int) : Bool :=
 if i.op=1 then fromB i.b (-1000000000) 1000000000
 else if i.op=5 then fromB i.b 1 4
 else if i.op=4∨i.op=6 then fromB i.c 0 3
 else if i.op=3 then decide (i.n=1) && fromB (i.z 0) 1 5
 else if i.op=12∨i.op=13 then fromB i.b 0 (code - 1)
 else true

/-- Is all zero that it has no use for? -/
def bareB (i : In) : Bool :=
 if i.op=3 then true
 else if i.op=7 then decide (i.c=0)
 else if i.op=4∨i.op=6 then decide (i.n=0)
 else if i.op=1∨i.op=5∨i.op=2∨i.op=13 then decide (i.c=0) && decide (i.n=0)
 else if i.op=8∨i.op=9∨i.op=11 then decide (i.b=0) && (decide (i.c=0) && decide (i.n=0))
 else if i.op=12 then decide (i.a=0) && (decide (i.c=0) && decide (i.n=0))
 else decide (i.a=0) && (decide (i.b=0) && (decide (i.c=0) && decide (i.n=0)))

def argsB (i : In) (regs : Int) : Bool:=decide (∀ k,k < i.n→0≤i.z k∧i.z k≤regs - 1)

/-- What is wrong with an instruction,of np procedures with so many parameters,where there are so many registers and instructions. -/
def insErr (np : Nat) (par : Nat→Int) (regs : Int) (code : Nat) (i : In) : Int :=
 if fromB i.op 1 13=false then 4
 else if regsB i regs=false then 3
 else if i.op=7∧fromB i.b 0 ((np : Int) - 1)=false then 5
 else if restB i code=false then 3
 else if bareB i=false∨(i.op=7∧¬ (i.n : Int)=par i.b.toNat) then 4
 else if i.op=7∧argsB i regs=false then 3
 else 0

/-- A procedure. -/
structure Pc where
 params : Int
 regs : Int
 n : Nat
 ins : Nat→In

/-- What is wrong with a procedure's head. -/
def pcErr (j : Nat) (p : Pc) : Int :=
 if fromB p.params 0 3=false∨fromB p.regs (max 1 p.params) 40=false∨(j=0∧0 < p.params) then 3
 else if p.n < 1∨2000 < p.n then 2 else 0

/-- .. with its instructions. -/
def bodyCErr (np : Nat) (par : Nat→Int) (p : Pc) : Int :=
 if firstErr p.n (fun k => insErr np par p.regs p.n (p.ins k))=0 then (if (p.ins (p.n - 1)).op=8∨(p.ins (p.n - 1)).op=12 then 0 else 4)
 else firstErr p.n (fun k => insErr np par p.regs p.n (p.ins k))

/-- .. with a program. -/
def codeErr (np : Nat) (P : Nat→Pc) : Int :=
 if np < 1∨4 < np then 2
 else if firstErr np (fun j => pcErr j (P j))=0 then firstErr np (fun j => bodyCErr np (fun k => (P k).params) (P j))
 else firstErr np (fun j => pcErr j (P j))

end Go.Proofs.YtfaggdkiffhdbaaGreatDoor
