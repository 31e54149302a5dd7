/- When programs are alike: the plain reckoning; and that a list of pairs still to be held against each other comes to the same. -/
import Derived.Test.YtfaggdkiffhdbaaGreatDoorSrc
import Derived.Lib.ItoaNum
import Derived.Lib.AtoiAll
import Derived.Lib.Join
import Derived.Lib.Split
import Derived.RowKit
namespace Go.Proofs.YtfaggdkiffhdbaaGreatDoor

def allTo : Nat→(Nat→Bool)→Bool
 | 0,_ => true
 | n + 1,f => allTo n f && f n

theorem allTo_iff {f : Nat→Bool} : ∀ {n : Nat},allTo n f=true ↔ ∀ i,i < n→f i=true
 | 0 => ⟨fun _ i hi => absurd hi (Nat.not_lt_zero _),fun _ => rfl⟩
 | n + 1 => by
  simp only [allTo,Bool.and_eq_true,allTo_iff (n:=n)]
  constructor
  ·rintro ⟨h1,h2⟩ i hi
   by_cases e : i=n
   ·subst e; exact h2
   ·exact h1 i (by omega)
  ·intro h; exact ⟨fun i hi => h i (by omega),h n (by omega)⟩

theorem allTo_congr {f g : Nat→Bool} : ∀ {n : Nat},(∀ i,i < n→f i=g i)→allTo n f=allTo n g
 | 0,_ => rfl
 | n + 1,h => by simp only [allTo]; rw [allTo_congr (n:=n) fun i hi => h i (by omega),h n (by omega)]

theorem allTo_no {f : Nat→Bool} {n i : Nat} (hi : i < n) (h : f i=false) : allTo n f=false:=by
 rw [Bool.eq_false_iff]; intro e; rw [allTo_iff.1 e i hi] at h; cases h

/-- Two rows of tokens are alike. -/
def eqV (n1 n2 : Nat) (k1 z1 k2 z2 : Nat→Int) : Bool:=decide (n1=n2∧∀ i,i < n1→k1 i=k2 i∧z1 i=z2 i)
theorem eqV_iff {n1 n2 : Nat} {k1 z1 k2 z2 : Nat→Int} : eqV n1 n2 k1 z1 k2 z2=true ↔ n1=n2∧∀ i,i < n1→k1 i=k2 i∧z1 i=z2 i:=by
 unfold eqV; exact decide_eq_true_iff
theorem eqV_yes {n : Nat} {k1 z1 k2 z2 : Nat→Int} (h : ∀ i,i < n→k1 i=k2 i∧z1 i=z2 i) : eqV n n k1 z1 k2 z2=true:=eqV_iff.2 ⟨rfl,h⟩
theorem eqV_no {n1 n2 : Nat} {k1 z1 k2 z2 : Nat→Int} {k : Nat} (hk : k < n1) (h : ¬ (k1 k=k2 k∧z1 k=z2 k)) : eqV n1 n2 k1 z1 k2 z2=false:=by
 rw [Bool.eq_false_iff]; intro e; exact h ((eqV_iff.1 e).2 k hk)
theorem eqV_len {n1 n2 : Nat} {k1 z1 k2 z2 : Nat→Int} (h : ¬ n1=n2) : eqV n1 n2 k1 z1 k2 z2=false:=by
 rw [Bool.eq_false_iff]; intro e; exact h (eqV_iff.1 e).1

/-- Two statements are alike,but for those in them. -/
def eqH (s t : Nd) : Bool:=decide (s.kind=t.kind) && decide (s.num=t.num) && eqV s.ne t.ne s.ek s.ez t.ek t.ez && eqV s.nf t.nf s.fk s.fz t.fk t.fz

/-- One statement against another,with all in them. -/
def eqI (E : SL→SL→Bool) (T U : SL) (i : Nat) : Bool:=eqH (T.nd i) (U.nd i) && (E (T.sub i false) (U.sub i false) && E (T.sub i true) (U.sub i true))

/-- Two lists of statements are alike. -/
def eqS : Nat→SL→SL→Bool
 | 0,_,_ => true
 | d + 1,T,U => decide (T.len=U.len) && allTo T.len (eqI (eqS d) T U)

theorem eqS_len {d : Nat} {T U : SL} (h : ¬ T.len=U.len) : eqS (d + 1) T U=false:=by
 simp [eqS,h]
theorem eqS_all {d : Nat} {T U : SL} (h : T.len=U.len) : eqS (d + 1) T U=allTo T.len (eqI (eqS d) T U):=by
 simp [eqS,h]

/-- There is nothing deeper than so. -/
def proper : Nat→SL→Prop
 | 0,T => T.len=0
 | d + 1,T => ∀ i,i < T.len→proper d (T.sub i false)∧proper d (T.sub i true)

theorem proper_succ : ∀ {d : Nat} {T : SL},proper d T→proper (d + 1) T
 | 0,T,h => fun i hi => by have : T.len=0:=h; omega
 | d + 1,T,h => fun i hi => ⟨proper_succ (h i hi).1,proper_succ (h i hi).2⟩

theorem proper_le {d e : Nat} {T : SL} (h : proper d T) (hd : d ≤ e) : proper e T := by
  induction e with
  | zero => obtain rfl : d = 0 := by omega
            exact h
  | succ e ih =>
    by_cases c : d = e + 1
    · subst c; exact h
    · exact proper_succ (ih (by omega))

theorem eqS_succ : ∀ {d : Nat} {T U : SL},proper d T→proper d U→eqS (d + 1) T U=eqS d T U
 | 0,T,U,h,k => by
  have h' : T.len=0:=h
  have k' : U.len=0:=k
  rw [eqS_all (by omega),h']; rfl
 | d + 1,T,U,h,k => by
  by_cases c : T.len=U.len
  ·rw [eqS_all c,eqS_all c]
   refine allTo_congr fun i hi => ?_
   unfold eqI
   rw [eqS_succ (h i hi).1 (k i (by omega)).1,eqS_succ (h i hi).2 (k i (by omega)).2]
  ·rw [eqS_len c,eqS_len c]

theorem size_succ' : ∀ {d : Nat} {T : SL},proper d T→size (d + 1) T=size d T
 | 0,T,h => by
  have h' : T.len=0:=h
  simp only [size]; rw [h']; rfl
 | d + 1,T,h => by
  show sumTo T.len (fun i => 1 + size (d + 1) (T.sub i false) + size (d + 1) (T.sub i true))=sumTo T.len (fun i => 1 + size d (T.sub i false) + size d (T.sub i true))
  exact sumTo_congr fun i hi => by rw [size_succ' (h i hi).1,size_succ' (h i hi).2]

/-- Two functions are alike. -/
def eqF (d : Nat) (p1 l1 p2 l2 : Int) (T U : SL) : Bool:=decide (p1=p2) && decide (l1=l2) && eqS d T U

/-- Two programs are alike. -/
def eqP (d n1 n2 : Nat) (p1 l1 p2 l2 : Nat→Int) (B C : Nat→SL) : Bool:=decide (n1=n2) && allTo n1 (fun i => eqF d (p1 i) (l1 i) (p2 i) (l2 i) (B i) (C i))
theorem eqP_len {d n1 n2 : Nat} {p1 l1 p2 l2 : Nat→Int} {B C : Nat→SL} (h : ¬ n1=n2) : eqP d n1 n2 p1 l1 p2 l2 B C=false:=by simp [eqP,h]
theorem eqP_yes {d n : Nat} {p1 l1 p2 l2 : Nat→Int} {B C : Nat→SL} (h : ∀ i,i < n→eqF d (p1 i) (l1 i) (p2 i) (l2 i) (B i) (C i)=true) : eqP d n n p1 l1 p2 l2 B C=true:=by
 simp only [eqP,decide_true,Bool.true_and]; exact allTo_iff.2 h
theorem eqP_no {d n1 n2 : Nat} {p1 l1 p2 l2 : Nat→Int} {B C : Nat→SL} {i : Nat} (hi : i < n1) (h : eqF d (p1 i) (l1 i) (p2 i) (l2 i) (B i) (C i)=false) : eqP d n1 n2 p1 l1 p2 l2 B C=false:=by
 unfold eqP; rw [allTo_no hi h,Bool.and_false]

end Go.Proofs.YtfaggdkiffhdbaaGreatDoor
namespace Go.Proofs.YtfaggdkiffhdbaaGreatDoor
open Go.RowKit

/-- A word. -/
abbrev Wd:=ByteArray
def bs (l : List UInt8) : Wd:=⟨l.toArray⟩
theorem bs_data (l : List UInt8) : (bs l).data.toList=l:=rfl
theorem bs_inj {l m : List UInt8} (h : bs l=bs m) : l=m:=by
 have:=congrArg (fun x : ByteArray => x.data.toList) h
 exact this
theorem bs_of (w : Wd) : bs w.data.toList=w:=rfl

/-- What a statement begins with,by its kind. -/
def stL : Nat→List UInt8
 | 1 => [115,101,116]
 | 2 => [112,117,116]
 | 3 => [115,97,121]
 | 4 => [112,97,117,115,101]
 | 5 => [103,111]
 | 6 => [105,102]
 | 7 => [119,104,105,108,101]
 | 8 => [114,101,116,117,114,110]
 | _ => []

/-- The operations. -/
def opL : Nat→List UInt8
 | 1 => [43]
 | 2 => [45]
 | 3 => [42]
 | 4 => [60]
 | 5 => [61]
 | _ => []

/-- What stands ahead of a token's number,by its kind. -/
def mkL : Nat→List UInt8
 | 2 => [118]
 | 4 => [46]
 | 5 => [110,101,119]
 | 6 => [102]
 | _ => []

def obW : Wd:=bs [123]
def cbW : Wd:=bs [125]
def funW : Wd:=bs [102,117,110]

/-- The word of a number. -/
def numW (n : Int) : Wd:=bs (Lib.itoa n)

/-- The word of a token. -/
def tokW (k z : Int) : Wd:=if k=3 then bs (opL z.toNat) else bs (mkL k.toNat ++ Lib.itoa z)

def toksW (k z : Nat→Int) : Nat→List Wd
 | 0 => []
 | n + 1 => toksW k z n ++ [tokW (k n) (z n)]

def catTo (f : Nat→List Wd) : Nat→List Wd
 | 0 => []
 | n + 1 => catTo f n ++ f n

/-- A statement's words. -/
def stmtW (B : SL→List Wd) (s : Nd) (a b : SL) : List Wd :=
 ((((bs (stL s.kind.toNat) :: (if s.kind=1∨s.kind=2 then [numW s.num] else [])) ++ toksW s.ek s.ez s.ne) ++ toksW s.fk s.fz s.nf) ++ (if s.kind=6∨s.kind=7 then B a else [])) ++ (if s.kind=6 then B b else [])

/-- The words of statements between braces. -/
def blkW : Nat→SL→List Wd
 | 0,_ => [obW,cbW]
 | d + 1,T => (obW :: catTo (fun i => stmtW (blkW d) (T.nd i) (T.sub i false) (T.sub i true)) T.len) ++ [cbW]

def funWs (d : Nat) (p l : Int) (T : SL) : List Wd:=[funW,numW p,numW l] ++ blkW d T

/-- The words of a program. -/
def progW (nf : Nat) (par loc : Nat→Int) (d : Nat) (body : Nat→SL) : List Wd:=catTo (fun i => funWs d (par i) (loc i) (body i)) nf

/-- Its text. -/
def textL (ws : List Wd) : List UInt8:=Lib.join (ws.map (·.data.toList)) [32]

/-- The number that strconv.Atoi hands back. -/
def atoiV (l : List UInt8) : Int:=match Lib.atoiAll l with
 | .ok v => v
 | .«syntax» => 0
 | .range => Lib.atoiSat l

/-- The next word,and the words behind it. -/
def hdW (ws : List Wd) : Wd:=ws.headD (bs [])
def numR (ws : List Wd) : Int:=atoiV (hdW ws).data.toList

/-- The kind of statements that begin with a word; 0: none does. -/
def kindOf (w : Wd) : Nat:=((List.range 9).find? fun k => decide (bs (stL k)=w)).getD 0

def opOf (w : Wd) : Option Nat:=(List.range 6).find? fun k => decide (bs (opL k)=w)
def hasMark (w : Wd) (k : Nat) : Bool:=!(mkL k).isEmpty && (mkL k).isPrefixOf w.data.toList
def markTo (w : Wd) : Nat→Nat
 | 0 => 1
 | n + 1 => if hasMark w n then n else markTo w n
/-- The token of a word. -/
def tokOf (w : Wd) : Int×Int:=match opOf w with
 | some n => (3,(n : Int))
 | none => ((markTo w 7 : Int),atoiV (w.data.toList.drop (mkL (markTo w 7)).length))

/-- How many expressions a token asks for. -/
def asksR (nf : Nat) (par : Nat→Int) (t : Int×Int) : Int :=
 if t.1=4 then 1 else if t.1=3 then 2 else if t.1=6∧0≤t.2∧t.2 < nf then par t.2.toNat else 0

/-- The tokens of an expression,where so many are asked for still; and the words behind. -/
def exprR (nf : Nat) (par : Nat→Int) : Int→List Wd→List (Int×Int)×List Wd
 | _,[] => ([],[])
 | q,w :: ws => if 0 < q then
   (tokOf w :: (exprR nf par (wrap64 (wrap64 (q + asksR nf par (tokOf w)) - 1)) ws).1,(exprR nf par (wrap64 (wrap64 (q + asksR nf par (tokOf w)) - 1)) ws).2)
  else ([],w :: ws)

/-- A statement,with all in it. -/
structure It where
 nd : Nd
 a : SL
 b : SL

def noSL : SL:=fun _ => (0,fun _ => ⟨0,0,0,fun _ => 0,fun _ => 0,0,fun _ => 0,fun _ => 0⟩)
def noIt : It:=⟨⟨0,0,0,fun _ => 0,fun _ => 0,0,fun _ => 0,fun _ => 0⟩,noSL,noSL⟩

/-- A list of statements,of its items. -/
def mkT (l : List It) : SL:=fun p => match p with
 | [] => (l.length,fun i => (l.getD i noIt).nd)
 | (i,false) :: q => (l.getD i noIt).a q
 | (i,true) :: q => (l.getD i noIt).b q

theorem mkT_len (l : List It) : (mkT l).len=l.length:=rfl
theorem mkT_nd (l : List It) (i : Nat) : (mkT l).nd i=(l.getD i noIt).nd:=rfl
theorem mkT_a (l : List It) (i : Nat) : (mkT l).sub i false=(l.getD i noIt).a:=rfl
theorem mkT_b (l : List It) (i : Nat) : (mkT l).sub i true=(l.getD i noIt).b:=rfl

def mkNd (k n : Int) (e f : List (Int×Int)) : Nd:=⟨k,n,e.length,fun i => (e.getD i (0,0)).1,fun i => (e.getD i (0,0)).2,f.length,fun i => (f.getD i (0,0)).1,fun i => (f.getD i (0,0)).2⟩

def hasN (k : Nat) : Bool:=k == 1 || k == 2
def hasA (k : Nat) : Bool:=k == 6 || k == 7

/-- The words behind a statement's parts. -/
def st1 (k : Nat) (ws : List Wd) : List Wd:=if hasN k then ws.tail else ws
def st2 (nf : Nat) (par : Nat→Int) (k : Nat) (ws : List Wd) : List (Int×Int)×List Wd:=if k=4 then ([],st1 k ws) else exprR nf par 1 (st1 k ws)
def st3 (nf : Nat) (par : Nat→Int) (k : Nat) (ws : List Wd) : List (Int×Int)×List Wd:=if k=2 then exprR nf par 1 (st2 nf par k ws).2 else ([],(st2 nf par k ws).2)
def st4 (nf : Nat) (par : Nat→Int) (B : List Wd→SL×List Wd) (k : Nat) (ws : List Wd) : SL×List Wd:=if hasA k then B (st3 nf par k ws).2 else (noSL,(st3 nf par k ws).2)
def st5 (nf : Nat) (par : Nat→Int) (B : List Wd→SL×List Wd) (k : Nat) (ws : List Wd) : SL×List Wd:=if k=6 then B (st4 nf par B k ws).2 else (noSL,(st4 nf par B k ws).2)
/-- A statement read. -/
def stR (nf : Nat) (par : Nat→Int) (B : List Wd→SL×List Wd) (k : Nat) (ws : List Wd) : It :=
 ⟨mkNd k (if hasN k then numR ws else 0) (st2 nf par k ws).1 (st3 nf par k ws).1,(st4 nf par B k ws).1,(st5 nf par B k ws).1⟩

/-- Statements read,up to what begins none. -/
def loopR (nf : Nat) (par : Nat → Int) : Nat → List Wd → List It × List Wd
  | 0, ws => ([], ws)
  | u + 1, ws => if kindOf (hdW ws) = 0 then ([], ws.tail) else
      (stR nf par (fun ws => (mkT (loopR nf par u ws.tail).1, (loopR nf par u ws.tail).2)) (kindOf (hdW ws)) ws.tail ::
        (loopR nf par u (st5 nf par (fun ws => (mkT (loopR nf par u ws.tail).1, (loopR nf par u ws.tail).2)) (kindOf (hdW ws)) ws.tail).2).1,
       (loopR nf par u (st5 nf par (fun ws => (mkT (loopR nf par u ws.tail).1, (loopR nf par u ws.tail).2)) (kindOf (hdW ws)) ws.tail).2).2)

/-- Statements between braces read. -/
def blkR (nf : Nat) (par : Nat→Int) (u : Nat) (ws : List Wd) : SL×List Wd:=(mkT (loopR nf par u ws.tail).1,(loopR nf par u ws.tail).2)

/-- The heads of the functions of words. -/
def headsR : List Wd→List (Int×Int)
 | [] => []
 | w :: ws => if w=funW then (numR ws,numR ws.tail) :: headsR ws else headsR ws

/-- The bodies of so many functions read,one by one: the words left behind j. -/
def leftR (nf : Nat) (par : Nat→Int) (u : Nat) (ws : List Wd) : Nat→List Wd
 | 0 => ws
 | j + 1 => (blkR nf par u (leftR nf par u ws j).tail.tail.tail).2
def bodyR (nf : Nat) (par : Nat→Int) (u : Nat) (ws : List Wd) (j : Nat) : SL:=(blkR nf par u (leftR nf par u ws j).tail.tail.tail).1

def rdN (ws : List Wd) : Nat:=(headsR ws).length
def rdP (ws : List Wd) (i : Nat) : Int:=((headsR ws).getD i (0,0)).1
def rdL (ws : List Wd) (i : Nat) : Int:=((headsR ws).getD i (0,0)).2
def rdB (ws : List Wd) (i : Nat) : SL:=bodyR (rdN ws) (rdP ws) (ws.length + 1) ws i

end Go.Proofs.YtfaggdkiffhdbaaGreatDoor
