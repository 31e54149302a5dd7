/- The plain reckoning behind instructions: which error one has, and a program of them; when programs are alike. No Go in it. -/
import Derived.Test.YtfaggdkiffhdbaaDoorMath
namespace Go.Proofs.YtfaggdkiffhdbaaDoor

/-- An instruction. -/
structure In where
 op : Int
 a : Int
 b : Int
 c : Int
 n : Nat
 z : Nat→Int

def fromB (n lo hi : Int) : Bool:=decide (lo≤n∧n≤hi)

/-- Are A,B and C,where they are registers,of those that there are? -/
def regsB (i : In) (regs : Int) : Bool :=
 if i.op=10∨i.op=12 then true
 else if i.op=3 then fromB i.a 0 (regs - 1) && (fromB i.b 0 (regs - 1) && fromB i.c 0 (regs - 1))
 else if i.op=2∨i.op=4∨i.op=6 then fromB i.a 0 (regs - 1) && fromB i.b 0 (regs - 1)
 else fromB i.a 0 (regs - 1)

/-- Is what is neither a register nor a procedure as it may be? -/
def restB (i : In) (code : Int) : Bool :=
 if i.op=1 then fromB i.b (-1000000000) 1000000000
 else if i.op=5 then fromB i.b 1 4
 else if i.op=4∨i.op=6 then fromB i.c 0 3
 else if i.op=3 then decide (i.n=1) && fromB (i.z 0) 1 5
 else if i.op=12∨i.op=13 then fromB i.b 0 (code - 1)
 else true

/-- Is all zero that it has no use for? -/
def bareB (i : In) : Bool :=
 if i.op=3 then true
 else if i.op=7 then decide (i.c=0)
 else if i.op=4∨i.op=6 then decide (i.n=0)
 else if i.op=1∨i.op=5∨i.op=2∨i.op=13 then decide (i.c=0) && decide (i.n=0)
 else if i.op=8∨i.op=9∨i.op=11 then decide (i.b=0) && (decide (i.c=0) && decide (i.n=0))
 else if i.op=12 then decide (i.a=0) && (decide (i.c=0) && decide (i.n=0))
 else decide (i.a=0) && (decide (i.b=0) && (decide (i.c=0) && decide (i.n=0)))

def argsB (i : In) (regs : Int) : Bool:=decide (∀ k,k < i.n→0≤i.z k∧i.z k≤regs - 1)

/-- What is wrong with an instruction,of np procedures with so many parameters,where there are so many registers and instructions. -/
def insErr (np : Nat) (par : Nat→Int) (regs : Int) (code : Nat) (i : In) : Int :=
 if fromB i.op 1 13=false then 4
 else if regsB i regs=false then 3
 else if i.op=7∧fromB i.b 0 ((np : Int) - 1)=false then 5
 else if restB i code=false then 3
 else if bareB i=false∨(i.op=7∧¬ (i.n : Int)=par i.b.toNat) then 4
 else if i.op=7∧argsB i regs=false then 3
 else 0

/-- A procedure. -/
structure Pc where
 params : Int
 regs : Int
 n : Nat
 ins : Nat→In

/-- What is wrong with a procedure's head. -/
def pcErr (j : Nat) (p : Pc) : Int :=
 if fromB p.params 0 3=false∨fromB p.regs (max 1 p.params) 40=false∨(j=0∧0 < p.params) then 3
 else if p.n < 1∨2000 < p.n then 2 else 0

/-- .. with its instructions. -/
def bodyCErr (np : Nat) (par : Nat→Int) (p : Pc) : Int :=
 if firstErr p.n (fun k => insErr np par p.regs p.n (p.ins k))=0 then (if (p.ins (p.n - 1)).op=8∨(p.ins (p.n - 1)).op=12 then 0 else 4)
 else firstErr p.n (fun k => insErr np par p.regs p.n (p.ins k))

/-- .. with a program. -/
def codeErr (np : Nat) (P : Nat→Pc) : Int :=
 if np < 1∨4 < np then 2
 else if firstErr np (fun j => pcErr j (P j))=0 then firstErr np (fun j => bodyCErr np (fun k => (P k).params) (P j))
 else firstErr np (fun j => pcErr j (P j))

end Go.Proofs.YtfaggdkiffhdbaaDoor
