/- The words of a program, and how a row of words is read as one: the plain reckoning. No Go in it. -/
import Derived.Lib.ItoaNum
import Derived.Lib.AtoiAll
import Derived.Lib.Join
import Derived.Lib.Split
import Derived.RowKit
import Derived.Lib.SplitLaws
import Derived.Lib.CutLaws
import Derived.Test.YtfaokaohhchdhaaGreatDoorShelf
import Derived.Lib.ItoaLen
import Derived.Lib.OthersKept
import Derived.Lib.BufferKept
import Derived.OwnWalk
import Derived.Lib.AtoiAllCases
import Derived.Test.YtfaokaohhchdhaaGreatDoorPart24
import Derived.Test.YtfaokaohhchdhaaGreatDoorPart25
namespace Go.Proofs.YtfaokaohhchdhaaGreatDoor
section
open Go.RowKit
abbrev Wd:=ByteArray
def bs (l:List UInt8):Wd:=⟨l.toArray⟩
theorem bs_data (l:List UInt8):(bs l).data.toList=l:=rfl
theorem bs_inj {l m:List UInt8} (h:bs l=bs m):l=m:=by
 have:=congrArg (fun x:ByteArray=>x.data.toList) h
 exact this
theorem bs_of (w:Wd):bs w.data.toList=w:=rfl
def stL:Nat→List UInt8
 | 1=>[115,101,116]
 | 2=>[112,117,116]
 | 3=>[115,97,121]
 | 4=>[112,97,117,115,101]
 | 5=>[103,111]
 | 6=>[105,102]
 | 7=>[119,104,105,108,101]
 | 8=>[114,101,116,117,114,110]
 | _=>[]
def opL:Nat→List UInt8
 | 1=>[43]
 | 2=>[45]
 | 3=>[42]
 | 4=>[60]
 | 5=>[61]
 | _=>[]
def mkL:Nat→List UInt8
 | 2=>[118]
 | 4=>[46]
 | 5=>[110,101,119]
 | 6=>[102]
 | _=>[]
def obW:Wd:=bs [123]
def cbW:Wd:=bs [125]
def funW:Wd:=bs [102,117,110]
def numW (n:Int):Wd:=bs (Lib.itoa n)
def tokW (k z:Int):Wd:=if k=3 then bs (opL z.toNat) else bs (mkL k.toNat++Lib.itoa z)
def toksW (k z:Nat→Int):Nat→List Wd
 | 0=>[]
 | n+1=>toksW k z n++[tokW (k n) (z n)]
def catTo (f:Nat→List Wd):Nat→List Wd
 | 0=>[]
 | n+1=>catTo f n++f n
def stmtW (B:SL→List Wd) (s:Nd) (a b:SL):List Wd :=
 ((((bs (stL s.kind.toNat)::(if s.kind=1∨s.kind=2 then [numW s.num] else []))++toksW s.ek s.ez s.ne)++toksW s.fk s.fz s.nf)++(if s.kind=6∨s.kind=7 then B a else []))++(if s.kind=6 then B b else [])
def blkW:Nat→SL→List Wd
 | 0,_=>[obW,cbW]
 | d+1,T=>(obW::catTo (fun i=>stmtW (blkW d) (T.nd i) (T.sub i false) (T.sub i true)) T.len)++[cbW]
def funWs (d:Nat) (p l:Int) (T:SL):List Wd:=[funW,numW p,numW l]++blkW d T
def progW (nf:Nat) (par loc:Nat→Int) (d:Nat) (body:Nat→SL):List Wd:=catTo (fun i=>funWs d (par i) (loc i) (body i)) nf
def textL (ws:List Wd):List UInt8:=Lib.join (ws.map (·.data.toList)) [32]
def atoiV (l:List UInt8):Int:=match Lib.atoiAll l with
 | .ok v=>v
 | .«syntax»=>0
 | .range=>Lib.atoiSat l
def hdW (ws:List Wd):Wd:=ws.headD (bs [])
def numR (ws:List Wd):Int:=atoiV (hdW ws).data.toList
def kindOf (w:Wd):Nat:=((List.range 9).find? fun k=>decide (bs (stL k)=w)).getD 0
def opOf (w:Wd):Option Nat:=(List.range 6).find? fun k=>decide (bs (opL k)=w)
def hasMark (w:Wd) (k:Nat):Bool:=!(mkL k).isEmpty && (mkL k).isPrefixOf w.data.toList
def markTo (w:Wd):Nat→Nat
 | 0=>1
 | n+1=>if hasMark w n then n else markTo w n
def tokOf (w:Wd):Int×Int:=match opOf w with
 | some n=>(3,(n:Int))
 | none=>((markTo w 7:Int),atoiV (w.data.toList.drop (mkL (markTo w 7)).length))
def asksR (nf:Nat) (par:Nat→Int) (t:Int×Int):Int :=
 if t.1=4 then 1 else if t.1=3 then 2 else if t.1=6∧0≤t.2∧t.2<nf then par t.2.toNat else 0
def exprR (nf:Nat) (par:Nat→Int):Int→List Wd→List (Int×Int)×List Wd
 | _,[]=>([],[])
 | q,w::ws=>if 0<q then
   (tokOf w::(exprR nf par (wrap64 (wrap64 (q+asksR nf par (tokOf w)) - 1)) ws).1,(exprR nf par (wrap64 (wrap64 (q+asksR nf par (tokOf w)) - 1)) ws).2)
  else ([],w::ws)
structure It where
 nd:Nd
 a:SL
 b:SL
def noSL:SL:=fun _=>(0,fun _=>⟨0,0,0,fun _=>0,fun _=>0,0,fun _=>0,fun _=>0⟩)
def noIt:It:=⟨⟨0,0,0,fun _=>0,fun _=>0,0,fun _=>0,fun _=>0⟩,noSL,noSL⟩
def mkT (l:List It):SL:=fun p=>match p with
 | []=>(l.length,fun i=>(l.getD i noIt).nd)
 | (i,false)::q=>(l.getD i noIt).a q
 | (i,true)::q=>(l.getD i noIt).b q
theorem mkT_len (l:List It):(mkT l).len=l.length:=rfl
theorem mkT_nd (l:List It) (i:Nat):(mkT l).nd i=(l.getD i noIt).nd:=rfl
theorem mkT_a (l:List It) (i:Nat):(mkT l).sub i false=(l.getD i noIt).a:=rfl
theorem mkT_b (l:List It) (i:Nat):(mkT l).sub i true=(l.getD i noIt).b:=rfl
def mkNd (k n:Int) (e f:List (Int×Int)):Nd:=⟨k,n,e.length,fun i=>(e.getD i (0,0)).1,fun i=>(e.getD i (0,0)).2,f.length,fun i=>(f.getD i (0,0)).1,fun i=>(f.getD i (0,0)).2⟩
def hasN (k:Nat):Bool:=k == 1 || k == 2
def hasA (k:Nat):Bool:=k == 6 || k == 7
def st1 (k:Nat) (ws:List Wd):List Wd:=if hasN k then ws.tail else ws
def st2 (nf:Nat) (par:Nat→Int) (k:Nat) (ws:List Wd):List (Int×Int)×List Wd:=if k=4 then ([],st1 k ws) else exprR nf par 1 (st1 k ws)
theorem dig_toNat (d:Nat) (h:d<10):(UInt8.ofNat (48+d)).toNat=48+d:=by
 simp only[UInt8.toNat_ofNat'];omega
theorem parse_snoc (c:UInt8):∀(l:List UInt8) (acc v:Nat),Lib.parseUint10 acc l=.ok v→Lib.parseUint10 acc (l++[c])=Lib.parseUint10 v [c]
 | [],acc,v,h=>by simp only[Lib.parseUint10]at h;injection h with h;subst h;rfl
 | b::l,acc,v,h=>by
  simp only[Lib.parseUint10,List.cons_append]at h ⊢
  split at h
  ·next h1 =>
   rw[if_pos h1]
   split at h
   ·cases h
   ·next h2 =>
    rw[if_neg h2]
    split at h
    ·cases h
    ·next h3 =>
     rw[if_neg h3]
     exact parse_snoc c l _ v h
  ·cases h
theorem parse_digits (u:Nat) (hu:u<18446744073709551616):Lib.parseUint10 0 (Lib.decDigits u)=.ok u:=by
 induction u using Nat.strongRecOn with
 | _ u ih =>
  by_cases h:u<10
  ·rw[Lib.decDigits_one h]
   simp only[Lib.parseUint10,dig_toNat u h]
   rw[if_pos (by omega),if_neg (by omega),if_neg (by omega)]
   congr 1;omega
  ·rw[Lib.decDigits,dif_neg h,parse_snoc _ _ _ _ (ih (u / 10) (by omega) (by omega))]
   simp only[Lib.parseUint10,dig_toNat (u % 10) (by omega)]
   rw[if_pos (by omega),if_neg (by omega),if_neg (by omega)]
   congr 1;omega
theorem digits_are (u:Nat):Lib.decDigits u ≠ []∧∀c ∈ Lib.decDigits u,48≤c.toNat∧c.toNat≤57:=by
 induction u using Nat.strongRecOn with
 | _ u ih =>
  by_cases h:u<10
  ·rw[Lib.decDigits_one h]
   refine⟨by simp,fun c hc=>?_⟩
   rw[List.mem_singleton]at hc
   subst hc
   rw[dig_toNat u h];omega
  ·rw[Lib.decDigits,dif_neg h]
   refine⟨by simp,fun c hc=>?_⟩
   rcases List.mem_append.1 hc with hc|hc
   ·exact (ih (u / 10) (by omega)).2 c hc
   ·rw[List.mem_singleton]at hc
    subst hc
    rw[dig_toNat (u % 10) (by omega)];omega
theorem itoa_bytes (z:Int):∃c r,Lib.itoa z=c::r∧(c.toNat=45∧r ≠ []∨48≤c.toNat∧c.toNat≤57)∧∀b ∈ r,48≤b.toNat∧b.toNat≤57:=by
 unfold Lib.itoa
 split
 ·obtain⟨h1,h2⟩:=digits_are z.natAbs
  exact⟨45,_,rfl,Or.inl ⟨rfl,h1⟩,h2⟩
 ·obtain⟨h1,h2⟩:=digits_are z.toNat
  cases h:Lib.decDigits z.toNat with
  | nil=>exact absurd h h1
  | cons c r =>
   rw[h]at h2
   exact⟨c,r,rfl,Or.inr (h2 c (by simp)),fun b hb=>h2 b (by simp[hb])⟩
theorem kindOf_st:∀k:Nat,1≤k→k≤8→kindOf (bs (stL k))=k:=by
 intro k h1 h2
 have:k=1∨k=2∨k=3∨k=4∨k=5∨k=6∨k=7∨k=8:=by omega
 rcases this with rfl|rfl|rfl|rfl|rfl|rfl|rfl|rfl<;>decide
def insOf (l:List Int):In:=⟨l.getD 0 0,l.getD 1 0,l.getD 2 0,l.getD 3 0,l.length - 4,fun k=>l.getD (k+4) 0⟩
def mkPc (h:List Int) (ls:List (List Int)):Pc:=⟨h.getD 0 0,h.getD 1 0,ls.length,fun k=>insOf (ls.getD k [])⟩
/-! ### Pieces -/
/-! ### Numbers -/
def i64 (z:Int):Prop:=-9223372036854775808≤z∧z≤9223372036854775807
def nthP (L:List Pc) (i:Nat):Pc:=L.getD i (mkPc [] [])
/-! ### Right programs have small numbers -/
/-! ### Like programs have like errors -/
end
section
open Go.RowKit Go.Maps
structure NEnv (N:Nat) (w:World):Prop where
 low:9≤N
 pow:Lib.TabIs Tryz.prog w "internal/strconv.uint64pow10" .u64 Lib.pow10Tab
 syn:∃tp p,w.var? Tryz.prog "strconv.ErrSyntax"=some #[.iface tp p]
 rng:∃tp p,w.var? Tryz.prog "strconv.ErrRange"=some #[.iface tp p]
 max:∃m,w.cell? ⟨2,0,none⟩=some (.int .i64 m)
theorem ngPow:Tryz.prog.globalNamed "internal/strconv.uint64pow10"=some 3:=by kernel_rfl
theorem ngSyn:Tryz.prog.globalNamed "strconv.ErrSyntax"=some 4:=by kernel_rfl
theorem ngRng:Tryz.prog.globalNamed "strconv.ErrRange"=some 5:=by kernel_rfl
theorem var_block {P:Program} {w w':World} {n:String} {g:Nat} (hg:P.globalNamed n=some g) (hb:w'.heap[g]?=w.heap[g]?):w'.var? P n=w.var? P n:=by
 unfold World.var?
 rw[hg]
 simp only[Option.bind_some,hb]
theorem NEnv.below {N:Nat} {w w':World} (h:NEnv N w) (hb:Below N w w'):NEnv N w':=by
 have l:=h.low
 refine⟨l,?_,?_,?_,?_⟩
 ·unfold Lib.TabIs;rw[var_block ngPow (hb.block 3 (by omega))];exact h.pow
 ·rw[var_block ngSyn (hb.block 4 (by omega))];exact h.syn
 ·rw[var_block ngRng (hb.block 5 (by omega))];exact h.rng
 ·rw[hb.cell (p:=⟨2,0,none⟩) (by show 2<N;omega)];exact h.max
/-! ### Rows of the call's own -/
def BS (B:Nat) (w:World) (v:Value) (l:List UInt8):Prop:=w.ownsRow B 5 1 v l.length (Lib.byteCells l)
def IS (B:Nat) (w:World) (v:Value) (zs:List Int):Prop:=w.ownsRow B 3 1 v zs.length (zs.map (Value.int .i64))
def KB (B:Nat) (w w':World):Prop:=Below B w w'∧Lib.OthersKept 5 none w w'
theorem KB.trans {B:Nat} {a b c:World} (h:KB B a b) (k:KB B b c):KB B a c:=⟨h.1.trans k.1,h.2.trans k.2⟩
theorem BS.nil (B:Nat) (w:World):BS B w (.slice none 0 0) []:=⟨rfl,Or.inl ⟨rfl,rfl⟩⟩
theorem IS.nil (B:Nat) (w:World):IS B w (.slice none 0 0) []:=⟨rfl,Or.inl ⟨rfl,rfl⟩⟩
theorem IS.at {B:Nat} {w:World} {v:Value} {l:List Int} (h:IS B w v l):∃a cap,v=.slice a l.length cap∧(l=[]∨∃g,a=some ⟨g,0,none⟩∧B≤g∧g<w.heap.size∧∀i z,l[i]?=some z→w.cell? ⟨g,i,none⟩=some (.int .i64 z)):=by
 rcases h.2 with⟨rfl,h0⟩|⟨g,cap,cur,rfl,h1,h2,h3⟩
 ·exact⟨none,0,by rw[h0],Or.inl (List.length_eq_zero_iff.1 h0)⟩
 ·refine⟨_,cap,rfl,Or.inr ⟨g,rfl,h1,(Array.getElem?_eq_some_iff.1 h2).1,fun i z hz=>?_⟩⟩
  have:=h.cellAt i (by have:=(List.getElem?_eq_some_iff.1 hz).1;omega)
  rw[List.getElem?_map,hz]at this
  exact this
theorem info3i:(Tryz.prog.info? 3).map (fun i=>(i.zero,i.size,i.bytes))=some (some (.int .i64 0),1,8):=by kernel_rfl
structure But (S:Nat) (w w':World):Prop where
 os:w'.os=w.os
 tape:w'.tape=w.tape
 output:w'.output=w.output
 size:w.heap.size≤w'.heap.size
 block:∀k,k<w.heap.size→¬k=S→w'.heap[k]?=w.heap[k]?
theorem But.trans {S:Nat} {a b c:World} (h:But S a b) (k:But S b c):But S a c :=
 ⟨k.os.trans h.os,k.tape.trans h.tape,k.output.trans h.output,Nat.le_trans h.size k.size,fun n hn hx=>(k.block n (Nat.lt_of_lt_of_le hn h.size) hx).trans (h.block n hn hx)⟩
theorem But.of {S:Nat} {a b:World} (h:Below a.heap.size a b):But S a b:=⟨h.os,h.tape,h.output,h.size,fun k hk _=>h.block k hk⟩
theorem But.low {S N:Nat} {a b:World} (h:But S a b) (h1:N≤S) (h2:N≤a.heap.size):Below N a b:=⟨h.os,h.tape,h.output,h.size,fun k hk=>h.block k (Nat.lt_of_lt_of_le hk h2) (by omega)⟩
theorem But.set (S:Nat) (w:World) (i:Nat) (v:Value):But S w (w.setCell ⟨S,i,none⟩ v):=by
 have h:Below S w (w.setCell ⟨S,i,none⟩ v):=(Below.refl S w).setCell (Nat.le_refl _) _
 exact⟨h.os,h.tape,h.output,h.size,fun k _ hx=>Below.heap_setCell w ⟨S,i,none⟩ v k hx⟩
def SB (S:Nat) (w:World) (s:ByteArray):Prop:=w.heap[S]?=some (.cells #[.string s] 9 (0,0))
theorem SB.cell {S:Nat} {w:World} {s:ByteArray} (h:SB S w s):w.cell? ⟨S,0,none⟩=some (.string s):=by unfold World.cell?;rw[h];rfl
def Keeps (t:TypeId) (w w':World):Prop:=∀(k:Nat) (cur:Array Value),w.heap[k]?=some (Obj.cells cur t (0,0))→w'.heap[k]?=some (Obj.cells cur t (0,0))
theorem Keeps.trans {t:TypeId} {a b c:World} (h:Keeps t a b) (k:Keeps t b c):Keeps t a c:=fun i cur hi=>k i cur (h i cur hi)
theorem Keeps.of {t:TypeId} {a b:World} (h:Below a.heap.size a b):Keeps t a b:=fun k cur hk=>by rw[h.block k (Array.getElem?_eq_some_iff.1 hk).1];exact hk
theorem Keeps.grown {t u:TypeId} {a b:World} {row:Option Nat} (h:a.grownBy b row) (hr:∀g,row=some g→∃cur,a.heap[g]?=some (.cells cur u (0,0))) (ht:¬t=u):Keeps t a b:=fun k cur hk=>by
 rw[h.block k (Array.getElem?_eq_some_iff.1 hk).1]
 ·exact hk
 ·intro e
  obtain⟨c,hc⟩:=hr k e.symm
  rw[hc]at hk
  injection hk with hk
  injection hk with _ h2 _
  exact ht h2.symm
theorem Keeps.set {t u:TypeId} {a:World} {g i:Nat} {cur:Array Value} (hg:a.heap[g]?=some (.cells cur u (0,0))) (v:Value) (ht:¬t=u):Keeps t a (a.setCell ⟨g,i,none⟩ v):=fun k c hk=>by
 rw[Below.heap_setCell a ⟨g,i,none⟩ v k]
 ·exact hk
 ·rintro rfl
  rw[hg]at hk
  injection hk with hk
  injection hk with _ h2 _
  exact ht h2.symm
def ArgsAt (w:World) (v:Value) (n:Nat) (z:Nat→Int):Prop :=
 ∃a cap,v=.slice a n cap∧n≤100000000∧(n=0∨∃g o cur,a=some ⟨g,o,none⟩∧w.heap[g]?=some (.cells cur 3 (0,0))∧∀i,i<n→cur[o+i]?=some (.int .i64 (z i)))
theorem ArgsAt.stay {w w':World} {v:Value} {n:Nat} {z:Nat→Int} (h:ArgsAt w v n z) (k:Keeps 3 w w'):ArgsAt w' v n z:=by
 obtain⟨a,cap,rfl,hn,h|⟨g,o,cur,rfl,hg,hc⟩⟩:=h
 ·exact⟨a,cap,rfl,hn,Or.inl h⟩
 ·exact⟨_,cap,rfl,hn,Or.inr ⟨g,o,cur,rfl,k g cur hg,hc⟩⟩
theorem ArgsAt.nums {w:World} {v:Value} {n:Nat} {z:Nat→Int} (h:ArgsAt w v n z):NumsAt w.heap.size w v n z:=by
 obtain⟨a,cap,rfl,hn,h|⟨g,o,cur,rfl,hg,hc⟩⟩:=h
 ·exact⟨a,cap,rfl,by omega,Or.inl h⟩
 ·refine⟨_,cap,rfl,by omega,Or.inr ⟨g,o,rfl,(Array.getElem?_eq_some_iff.1 hg).1,fun i hi=>?_⟩⟩
  unfold World.cell?
  rw[hg]
  exact hc i hi
def flatI:List (List Int×Value)→List Value
 | []=>[]
 | x::l=>[.int .i64 (x.1.getD 0 0),.int .i64 (x.1.getD 1 0),.int .i64 (x.1.getD 2 0),.int .i64 (x.1.getD 3 0),x.2]++flatI l
theorem flatI_len:∀l,(flatI l).length=l.length*5
 | []=>rfl
 | x::l=>by rw[flatI,List.length_append,flatI_len l,List.length_cons];simp only[List.length_cons,List.length_nil];omega
theorem flatI_at:∀(l:List (List Int×Value)) (i:Nat) (x:List Int×Value),l[i]?=some x→(flatI l)[i*5]?=some (.int .i64 (x.1.getD 0 0))∧(flatI l)[i*5+1]?=some (.int .i64 (x.1.getD 1 0))∧(flatI l)[i*5+2]?=some (.int .i64 (x.1.getD 2 0))∧(flatI l)[i*5+3]?=some (.int .i64 (x.1.getD 3 0))∧(flatI l)[i*5+4]?=some x.2
 | [],i,x,h=>by cases h
 | y::l,0,x,h=>by
  simp only[List.getElem?_cons_zero,Option.some.injEq]at h
  subst h
  simp[flatI]
 | y::l,i+1,x,h=>by
  have ih:=flatI_at l i x (by simpa using h)
  have e:∀t,(flatI (y::l))[(i+1)*5+t]?=(flatI l)[i*5+t]?:=fun t=>by
   rw[flatI,List.getElem?_append_right (by simp only[List.length_cons,List.length_nil];omega)]
   congr 1
   simp only[List.length_cons,List.length_nil];omega
  have e0:=e 0
  simp only[Nat.add_zero]at e0
  rw[e0,e 1,e 2,e 3,e 4]
  exact ih
def CodeRow (C:Nat) (w:World) (v:Value) (l:List (List Int×Value)):Prop :=
 w.ownsRow C 84 5 v l.length (flatI l)∧∀x ∈ l,ArgsAt w x.2 (x.1.length - 4) (fun j=>x.1.getD (j+4) 0)
theorem CodeRow.nil (C:Nat) (w:World):CodeRow C w (.slice none 0 0) []:=⟨⟨rfl,Or.inl ⟨rfl,rfl⟩⟩,fun _ h=>by cases h⟩
theorem own_keep {C:Nat} {t:TypeId} {sz n:Nat} {w w':World} {v:Value} {xs:List Value} (h:w.ownsRow C t sz v n xs) (k:Keeps t w w'):w'.ownsRow C t sz v n xs:=by
 refine⟨h.1,?_⟩
 rcases h.2 with⟨rfl,h0⟩|⟨g,cap,cur,rfl,h1,h2,h3⟩
 ·exact Or.inl ⟨rfl,h0⟩
 ·exact Or.inr ⟨g,cap,cur,rfl,h1,k g cur h2,h3⟩
def CodeHeap (w:World) (v:Value) (n:Nat) (ins:Nat→In):Prop :=
 ∃a cap,v=.slice a n cap∧n≤100000000∧(n=0∨∃g cur,a=some ⟨g,0,none⟩∧w.heap[g]?=some (.cells cur 84 (0,0))∧∀i,i<n→∃va,cur[i*5]?=some (.int .i64 (ins i).op)∧cur[i*5+1]?=some (.int .i64 (ins i).a)∧cur[i*5+2]?=some (.int .i64 (ins i).b) ∧
  cur[i*5+3]?=some (.int .i64 (ins i).c)∧cur[i*5+4]?=some va∧ArgsAt w va (ins i).n (ins i).z)
theorem CodeHeap.stay {w w':World} {v:Value} {n:Nat} {ins:Nat→In} (h:CodeHeap w v n ins) (k:Keeps 84 w w') (k3:Keeps 3 w w'):CodeHeap w' v n ins:=by
 obtain⟨a,cap,rfl,hn,h|⟨g,cur,rfl,hg,hc⟩⟩:=h
 ·exact⟨a,cap,rfl,hn,Or.inl h⟩
 ·refine⟨_,cap,rfl,hn,Or.inr ⟨g,cur,rfl,k g cur hg,fun i hi=>?_⟩⟩
  obtain⟨va,c0,c1,c2,c3,c4,ha⟩:=hc i hi
  exact⟨va,c0,c1,c2,c3,c4,ha.stay k3⟩
theorem CodeHeap.code {w:World} {v:Value} {n:Nat} {ins:Nat→In} (h:CodeHeap w v n ins):CodeAt w.heap.size w v n ins:=by
 obtain⟨a,cap,rfl,hn,h|⟨g,cur,rfl,hg,hc⟩⟩:=h
 ·exact⟨a,cap,rfl,by omega,Or.inl h⟩
 ·refine⟨_,cap,rfl,by omega,Or.inr ⟨g,0,rfl,(Array.getElem?_eq_some_iff.1 hg).1,fun i hi=>?_⟩⟩
  obtain⟨va,c0,c1,c2,c3,c4,ha⟩:=hc i hi
  unfold World.cell?
  rw[hg]
  exact⟨va,by rw[Nat.zero_add];exact c0,by rw[Nat.zero_add];exact c1,by rw[Nat.zero_add];exact c2,by rw[Nat.zero_add];exact c3,by rw[Nat.zero_add];exact c4,ha.nums⟩
theorem CodeRow.heap {C:Nat} {w:World} {v:Value} {l:List (List Int×Value)} (h:CodeRow C w v l) (hl:l.length≤100000000):CodeHeap w v l.length (fun k=>insOf ((l.map (·.1)).getD k [])):=by
 obtain⟨h1,h2⟩:=h
 rcases h1.2 with⟨rfl,h0⟩|⟨g,cap,cur,rfl,_,hg,_,_,_,ht⟩
 ·exact⟨none,0,by rw[h0],hl,Or.inl h0⟩
 ·refine⟨_,cap,rfl,hl,Or.inr ⟨g,cur,rfl,hg,fun i hi=>?_⟩⟩
  obtain⟨x,hx⟩:∃x,l[i]?=some x:=⟨l[i],by simp[hi]⟩
  obtain⟨c0,c1,c2,c3,c4⟩:=flatI_at l i x hx
  have e:∀t,t<l.length*5→cur[t]?=(flatI l)[t]?:=fun t htl=>by
   rw[←ht,List.getElem?_take,if_pos htl,Array.getElem?_toList]
  have e2:insOf ((l.map (·.1)).getD i [])=insOf x.1:=by
   congr 1
   simp[hx]
  simp only[e2]
  exact⟨x.2,by rw[e _ (by omega)];exact c0,by rw[e _ (by omega)];exact c1,by rw[e _ (by omega)];exact c2,by rw[e _ (by omega)];exact c3,by rw[e _ (by omega)];exact c4,h2 x (List.mem_of_getElem? hx)⟩
theorem IS.args {B:Nat} {w:World} {v:Value} {l:List Int} (h:IS B w v l) (h4:4≤l.length) (hl:l.length≤1000000):∃g cap av,v=.slice (some ⟨g,0,none⟩) l.length cap∧B≤g∧(∃cur,w.heap[g]?=some (.cells cur 3 (0,0)))∧(∀i z,l[i]?=some z→w.cell? ⟨g,i,none⟩=some (.int .i64 z)) ∧
  (∀wi:World,(Instr.slice 30 (.slice (some ⟨g,0,none⟩) l.length cap) (some (.int .i64 4)) none none).run Tryz.prog wi=.ok av wi)∧ArgsAt w av (l.length - 4) (fun j=>l.getD (j+4) 0):=by
 obtain⟨a0,c0,e0,hat⟩:=h.at
 rcases h.2 with⟨rfl,h0⟩|⟨g,cap,cur,rfl,h1,h2,h3,_,_,ht⟩
 ·omega
 have hcell:∀i z,l[i]?=some z→w.cell? ⟨g,i,none⟩=some (.int .i64 z):=by
  rcases hat with h|⟨g',e,_,_,h⟩
  ·rw[h]at h4;simp at h4
  ·injection e0 with ea _ _
   rw[←ea]at e
   cases e
   exact h
 refine⟨g,cap,.slice (some ⟨g,if cap=4 then 0 else 0+4,none⟩) (l.length - 4) (cap - 4),rfl,h1,⟨cur,h2⟩,hcell,fun wi=>?_,?_⟩
 ·simp[Instr.slice,Instr.sliceBounds,Instr.sliceBound,asIntOf,run_underlying Tryz.underlying30,go_sem]
  rw[if_pos (by omega)]
  by_cases c:cap=4
  ·rw[if_pos c,if_pos c]
  ·rw[if_neg c,if_neg c]
 ·refine⟨_,_,rfl,by omega,?_⟩
  by_cases e:l.length - 4=0
  ·exact Or.inl e
  ·refine Or.inr ⟨g,_,cur,rfl,h2,fun i hi=>?_⟩
   rw[if_neg (by omega),Nat.zero_add]
   have hz:l[i+4]?=some (l.getD (i+4) 0):=by simp[show i+4<l.length by omega]
   have:=hcell (i+4) _ hz
   unfold World.cell? at this
   rw[h2]at this
   rw[Nat.add_comm]
   exact this
theorem infoIns:(Tryz.prog.info? 84).map (fun i=>(i.zero,i.size,i.bytes))=some (some (.agg #[.int .i64 0,.int .i64 0,.int .i64 0,.int .i64 0,.slice none 0 0]),5,56):=by kernel_rfl
theorem eqV_list {L M:List (Int×Int)}:eqV L.length M.length (fstAt L) (sndAt L) (fstAt M) (sndAt M)=true ↔ L=M:=by
 rw[eqV_iff]
 constructor
 ·rintro⟨hl,h⟩
  apply List.ext_getElem hl
  intro i h1 h2
  obtain⟨a,b⟩:=h i h1
  unfold fstAt at a
  unfold sndAt at b
  rw[List.getD_eq_getElem?_getD,List.getD_eq_getElem?_getD,List.getElem?_eq_getElem h1,List.getElem?_eq_getElem h2]at a b
  exact Prod.ext a b
 ·rintro rfl
  exact⟨rfl,fun _ _=>⟨rfl,rfl⟩⟩
theorem eqFm_iff {f g:Fm}:eqFm f g=true ↔ f=g:=by
 unfold eqFm
 rw[Bool.and_eq_true,Bool.and_eq_true,Bool.and_eq_true,beq_iff_eq,beq_iff_eq,beq_iff_eq,eqV_list]
 cases f;cases g
 simp only[Fm.mk.injEq]
 constructor
 ·rintro⟨a,b,c,d⟩;exact⟨a,b,d,c⟩
 ·rintro⟨a,b,d,c⟩;exact⟨a,b,c,d⟩
theorem eqFs_list {F G:List Fm}:eqFs F G=true ↔ F=G:=by
 rw[eqFs_iff]
 constructor
 ·rintro⟨hl,h⟩
  apply List.ext_getElem hl
  intro i h1 h2
  have:=eqFm_iff.1 (h i h1)
  unfold fmAt at this
  rw[List.getD_eq_getElem?_getD,List.getD_eq_getElem?_getD,List.getElem?_eq_getElem h1,List.getElem?_eq_getElem h2]at this
  exact this
 ·rintro rfl
  exact⟨rfl,fun _ _=>eqFm_iff.2 rfl⟩
theorem eqCs_list {C D:List (List (Int×Int))}:eqCs C D=true ↔ C=D:=by
 unfold eqCs
 rw[eqCl_iff]
 constructor
 ·rintro⟨hl,h⟩
  apply List.ext_getElem hl
  intro i h1 h2
  have:=eqV_list.1 (h i h1)
  rw[List.getD_eq_getElem?_getD,List.getD_eq_getElem?_getD,List.getElem?_eq_getElem h1,List.getElem?_eq_getElem h2]at this
  exact this
 ·rintro rfl
  exact⟨rfl,fun _ _=>eqV_list.2 rfl⟩
theorem eqSt_iff {S T:Sta}:eqSt S T=true ↔ S=T:=by
 unfold eqSt
 rw[Bool.and_eq_true,Bool.and_eq_true,Bool.and_eq_true,beq_iff_eq,beq_iff_eq,eqFs_list,eqCs_list]
 cases S;cases T
 simp only[Sta.mk.injEq]
 constructor
 ·rintro⟨a,b,c,d⟩;exact⟨c,d,a,b⟩
 ·rintro⟨c,d,a,b⟩;exact⟨a,b,c,d⟩
def lz (l:List Int) (i:Nat):Int:=l.getD i 0
def SOwn (B:Nat) (w:World) (fv cv:Value) (S:Sta):Prop:=∃rv xv,Own B w fv cv rv xv S
theorem SOwn.stay {B:Nat} {w w':World} {fv cv:Value} {S:Sta} (h:SOwn B w fv cv S) (hb:∀k,B≤k→k<w.heap.size→w'.heap[k]?=w.heap[k]?):SOwn B w' fv cv S:=let ⟨rv,xv,h⟩:=h;⟨rv,xv,h.stay hb⟩
theorem SOwn.below {B:Nat} {w w':World} {fv cv:Value} {S:Sta} (h:SOwn B w fv cv S) (hb:Below w.heap.size w w'):SOwn B w' fv cv S:=h.stay fun k _ hk=>hb.block k hk
theorem SOwn.at {B:Nat} {w:World} {fv cv:Value} {S:Sta} {np:Nat} {P:Nat→Pc} (h:SOwn B w fv cv S) (hc:CodeOK np P) (ok:StaOK np P S):StaAt w fv cv S:=by
 obtain⟨rv,xv,h⟩:=h
 refine h.at (by have:=ok.few;omega) (by have:=ok.cn;omega) (fun i hi=>?_) fun i hi=>?_
 ·have k:=ok.frames i hi
  have hpn:(fmAt S.fs i).proc.toNat<np:=by have:=k.p0;have:=k.p1;omega
  have:=hc.r1 _ hpn
  have:=k.len
  omega
 ·have hm:=getD_mem (d:=[]) hi
  have:=ok.cells.hi _ hm
  omega
def NOwn (B:Nat) (w:World) (v:Value) (l:List Int):Prop:=w.ownsRow B 3 1 v l.length (l.map (Value.int .i64))
theorem NOwn.stay {B:Nat} {w w':World} {v:Value} {l:List Int} (h:NOwn B w v l) (hb:∀k,B≤k→k<w.heap.size→w'.heap[k]?=w.heap[k]?):NOwn B w' v l:=ownsRow_block h fun k hk=>hb k (h.lt k hk).1 (h.lt k hk).2
theorem NOwn.below {B:Nat} {w w':World} {v:Value} {l:List Int} (h:NOwn B w v l) (hb:Below w.heap.size w w'):NOwn B w' v l:=h.stay fun k _ hk=>hb.block k hk
theorem NOwn.nums {B:Nat} {w:World} {v:Value} {l:List Int} (h:NOwn B w v l) (hl:l.length≤1000000):NumsAt w.heap.size w v l.length (lz l):=by
 obtain⟨a,cap,rfl,h0|⟨b,o,rfl,hb,hc⟩⟩:=own_intsv h
 ·exact⟨a,cap,rfl,by omega,Or.inl h0⟩
 ·exact⟨_,cap,rfl,by omega,Or.inr ⟨b,o,rfl,hb,hc⟩⟩
def RunK (w:World) (S':Sta) (said:List Int) (k:Nat) (e:Ending) (w':World):Prop :=
 ∃fa fc ca cc sa sc,e=.returned (.tuple #[.agg #[.slice fa S'.fs.length fc,.slice ca S'.cs.length cc,.int .i64 S'.st,.int .i64 S'.wh],.slice sa said.length sc,.int .i64 k,.int .i64 0]) ∧
  Hid (SOwn w.heap.size w' (.slice fa S'.fs.length fc) (.slice ca S'.cs.length cc) S')∧Hid (NOwn w.heap.size w' (.slice sa said.length sc) said)∧Below w.heap.size w w'
def StaK (w:World) (S':Sta) (e:Ending) (w':World):Prop :=
 ∃fa fc ca cc,e=.returned (.tuple #[.agg #[.slice fa S'.fs.length fc,.slice ca S'.cs.length cc,.int .i64 S'.st,.int .i64 S'.wh],.int .i64 0]) ∧
  Hid (SOwn w.heap.size w' (.slice fa S'.fs.length fc) (.slice ca S'.cs.length cc) S')∧Below w.heap.size w w'
theorem own_len {B:Nat} {w:World} {e:TypeId} {s n m c:Nat} {a:Option Addr} {xs:List Value} (h:w.ownsRow B e s (.slice a m c) n xs):m=n:=by
 obtain⟨_,_,e⟩:=own_shape h
 injection e
section
variable {np:Nat} {P:Nat→Pc}
theorem runK (M:Nat) (vp fv cv:Value) (S:Sta) (fuel:Nat) (w:World) (hM:M≤w.heap.size) (hp:ProcsAt M w vp np P) (hs:StaAt w fv cv S) (he:runErr np P S fuel=0) :
  Calls Tryz.prog 13 #[vp,.agg #[fv,cv,.int .i64 S.st,.int .i64 S.wh],.int .i64 fuel] w (RunK w (runM P fuel ⟨S,[],false⟩).1.s (runM P fuel ⟨S,[],false⟩).1.said (runM P fuel ⟨S,[],false⟩).2):=by
 refine (runP newC callC M vp fv cv S fuel w hM hp hs he).mono ?_
 rintro e w' ⟨fa,nf,fc,ca,nc,cc,sa,sc,rv,xv,rfl,ho,hn,hb⟩
 obtain rfl:=own_len ho.fr
 obtain rfl:=own_len ho.ce
 exact⟨fa,fc,ca,cc,sa,sc,rfl,⟨rv,xv,ho⟩,hn,hb⟩
theorem newK (M:Nat) (vp:Value) (w:World) (hM:M≤w.heap.size) (hp:ProcsAt M w vp np P) (he:codeErr np P=0) :
  Calls Tryz.prog 12 #[vp] w (StaK w ⟨[⟨0,0,List.replicate (P 0).regs.toNat (0,0),0⟩],[],0,0⟩):=by
 refine (newP M vp w hM hp he).mono ?_
 rintro e w' ⟨fa,nf,fc,ca,nc,cc,rv,xv,rfl,ho,hb⟩
 obtain rfl:=own_len ho.fr
 obtain rfl:=own_len ho.ce
 exact⟨fa,fc,ca,cc,rfl,⟨rv,xv,ho⟩,hb⟩
theorem sweepK (S:Sta) (fv cv:Value) (w:World) (h:StaAt w fv cv S) (hc:CodeOK np P) (hs:StaOK np P S) :
  Calls Tryz.prog 21 #[.agg #[fv,cv,.int .i64 S.st,.int .i64 S.wh]] w fun e w'=>∃fa fc ca cc,e=.returned (.agg #[.slice fa (sweptS S).fs.length fc,.slice ca (sweptS S).cs.length cc,.int .i64 S.st,.int .i64 S.wh])∧Hid (SOwn w.heap.size w' (.slice fa (sweptS S).fs.length fc) (.slice ca (sweptS S).cs.length cc) (sweptS S))∧Below w.heap.size w w':=by
 refine (sweepP S fv cv w h hc hs).mono ?_
 rintro e w' ⟨fv',cv',rv,xv,rfl,ho,hb⟩
 obtain⟨a,c,rfl⟩:=own_shape ho.out.fr
 obtain⟨b,d,rfl⟩:=own_shape ho.out.ce
 exact⟨a,c,b,d,rfl,⟨rv,xv,ho.out⟩,hb.out⟩
end
theorem SOwn.lower {B B':Nat} {w:World} {fv cv:Value} {S:Sta} (h:SOwn B w fv cv S) (hb:B'≤B):SOwn B' w fv cv S:=let ⟨rv,xv,h⟩:=h;⟨rv,xv,h.lower hb⟩
theorem SOwn.keep {B:Nat} {w w':World} {fv cv:Value} {S:Sta} (h:SOwn B w fv cv S) (hk:∀t,¬t=26→Keeps t w w'):SOwn B w' fv cv S:=by
 obtain⟨rv,xv,h⟩:=h
 have k1:=hk 40 (by decide)
 have k2:=hk 35 (by decide)
 have k3:=hk 92 (by decide)
 exact⟨rv,xv,own_keep h.fr k1,own_keep h.ce k2,h.rl,fun i hi=>let ⟨u,h1,h2⟩:=h.regs i hi;⟨u,h1,own_keep h2 k3⟩,fun i hi=>let ⟨u,h1,h2⟩:=h.cells i hi;⟨u,h1,own_keep h2 k3⟩,h.rr,h.xx,h.rx⟩
theorem NOwn.lower {B B':Nat} {w:World} {v:Value} {l:List Int} (h:NOwn B w v l) (hb:B'≤B):NOwn B' w v l:=ownsRow_lower h hb
theorem box_put {X:Nat} {w:World} {a b c d:Value} (a' b' c' d':Value) (h:Box4 26 X w a b c d):∃W,((((w.setCell ⟨X,0,none⟩ a').setCell ⟨X,1,none⟩ b').setCell ⟨X,2,none⟩ c').setCell ⟨X,3,none⟩ d')=W∧Box4 26 X W a' b' c' d'∧(∀k,¬k=X→W.heap[k]?=w.heap[k]?)∧W.heap.size=w.heap.size∧(∀N,N≤X→Below N w W)∧∀t,¬t=26→Keeps t w W:=by
 refine⟨_,rfl,?_,fun k hk=>set4_heap hk,by simp,fun N hN=>?_,fun t ht k cur hk=>?_⟩
 ·unfold Box4 at h ⊢
  have h1:=heap_setCell_same w X 0 _ _ a' h
  have h2:=heap_setCell_same _ X 1 _ _ b' h1
  have h3:=heap_setCell_same _ X 2 _ _ c' h2
  exact heap_setCell_same _ X 3 _ _ d' h3
 ·exact ((((Below.refl _ _).setCell hN _).setCell hN _).setCell hN _).setCell hN _
 ·rw[set4_heap]
  ·exact hk
  ·intro e
   unfold Box4 at h
   rw[e,h]at hk
   injection hk with hk
   injection hk with _ hk _
   exact ht hk.symm
end
end Go.Proofs.YtfaokaohhchdhaaGreatDoor
