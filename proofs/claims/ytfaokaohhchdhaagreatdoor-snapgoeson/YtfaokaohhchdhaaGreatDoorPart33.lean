/- How the reckoning reads words as a program, word by word: the plain reckoning. No Go in it. -/
import Derived.Test.YtfaokaohhchdhaaGreatDoorPart32
namespace Go.Proofs.YtfaokaohhchdhaaGreatDoor
section
open Go.RowKit
abbrev Rs:=List Wd×Bool
def wordQ (q:Rs):Rs:=(q.1.tail,q.2 && !q.1.isEmpty)
def hitQ (w:Wd) (k:Nat):Option Int:=match Lib.atoiAll (Lib.trimPrefix w.data.toList (mkL k)) with
 | .ok n=>if bs (mkL k++Lib.itoa n)=w then some n else none
 | _=>none
def numKinds:List Nat:=[1,2,4,5,6]
def hitsQ (w:Wd):Int×Int:=match numKinds.find? fun k=>(hitQ w k).isSome with
 | some k=>((k:Int),(hitQ w k).getD 0)
 | none=>(0,0)
def opTo (w:Wd):Nat→Int×Int→Int×Int
 | 0,t=>t
 | n+1,t=>if bs (opL (n+1))=w then (3,((n+1:Nat):Int)) else opTo w n t
def tokQ (w:Wd):Int×Int:=opTo w 5 (hitsQ w)
def exprQ (nf:Nat) (par:Nat→Int):List Wd→Nat→Int→List (Int×Int)×Rs
 | [],_,q=>if 0<q then ([tokQ (bs [])],([],false)) else ([],([],true))
 | w::ws,n,q=>if 0<q then
   (if tokErr (tokQ w).1 (tokQ w).2 nf 6=0∧n<24 then
    (tokQ w::(exprQ nf par ws (n+1) (q+asksOf (tokQ w).1 (tokQ w).2 par - 1)).1,(exprQ nf par ws (n+1) (q+asksOf (tokQ w).1 (tokQ w).2 par - 1)).2)
   else ([tokQ w],(ws,false)))
  else ([],(w::ws,true))
def exprS (nf:Nat) (par:Nat→Int) (q:Rs):List (Int×Int)×Rs:=if q.2 then exprQ nf par q.1 0 1 else ([],q)
def q1 (k:Nat) (q:Rs):Rs:=if hasN k then wordQ q else q
def q2 (nf:Nat) (par:Nat→Int) (k:Nat) (q:Rs):List (Int×Int)×Rs:=if k=4 then ([],q1 k q) else exprS nf par (q1 k q)
def q3 (nf:Nat) (par:Nat→Int) (k:Nat) (q:Rs):List (Int×Int)×Rs:=if k=2 then exprS nf par (q2 nf par k q).2 else ([],(q2 nf par k q).2)
def q4 (nf:Nat) (par:Nat→Int) (B:Rs→SL×Rs) (k:Nat) (q:Rs):SL×Rs:=if hasA k then B (q3 nf par k q).2 else (noSL,(q3 nf par k q).2)
def q5 (nf:Nat) (par:Nat→Int) (B:Rs→SL×Rs) (k:Nat) (q:Rs):SL×Rs:=if k=6 then B (q4 nf par B k q).2 else (noSL,(q4 nf par B k q).2)
def itQ (nf:Nat) (par:Nat→Int) (B:Rs→SL×Rs) (k:Nat) (q:Rs):It :=
 ⟨mkNd k (if hasN k then numR q.1 else 0) (q2 nf par k q).1 (q3 nf par k q).1,(q4 nf par B k q).1,(q5 nf par B k q).1⟩
def loopQ (nf:Nat) (par:Nat→Int) (B:Rs→SL×Rs):Nat→Rs→List It×Rs
 | 0,q=>([],(q.1,false))
 | u+1,q=>if q.2=false then ([],q) else if hdW q.1=cbW then ([],(q.1.tail,true)) else if kindOf (hdW q.1)=0 then ([],(q.1.tail,false)) else
   (itQ nf par B (kindOf (hdW q.1)) (q.1.tail,true)::(loopQ nf par B u (q5 nf par B (kindOf (hdW q.1)) (q.1.tail,true)).2).1,(loopQ nf par B u (q5 nf par B (kindOf (hdW q.1)) (q.1.tail,true)).2).2)
def openQ (q:Rs):Rs:=(q.1.tail,q.2 && (!q.1.isEmpty && decide (hdW q.1=obW)))
def blkQ (nf:Nat) (par:Nat→Int):Nat→Rs→SL×Rs
 | 0,q=>(noSL,(q.1.tail,false))
 | u+1,q=>(if (loopQ nf par (blkQ nf par u) ((openQ q).1.length+1) (openQ q)).2.2 then mkT (loopQ nf par (blkQ nf par u) ((openQ q).1.length+1) (openQ q)).1 else noSL,(loopQ nf par (blkQ nf par u) ((openQ q).1.length+1) (openQ q)).2)
def headsQ:List Wd→List (Int×Int)
 | []=>[]
 | w::ws=>if w=funW∧2≤ws.length then (numR ws,numR ws.tail)::headsQ ws else headsQ ws
def startQ (q:Rs):Rs:=wordQ (wordQ (q.1.tail,q.2 && (!q.1.isEmpty && decide (hdW q.1=funW))))
def leftQ (nf:Nat) (par:Nat→Int) (ws:List Wd):Nat→Rs
 | 0=>(ws,true)
 | j+1=>(blkQ nf par 6 (startQ (leftQ nf par ws j))).2
def bodyQ (nf:Nat) (par:Nat→Int) (ws:List Wd) (j:Nat):SL:=(blkQ nf par 6 (startQ (leftQ nf par ws j))).1
def rqN (ws:List Wd):Nat:=(headsQ ws).length
def rqP (ws:List Wd) (i:Nat):Int:=((headsQ ws).getD i (0,0)).1
def rqL (ws:List Wd) (i:Nat):Int:=((headsQ ws).getD i (0,0)).2
def rqB (ws:List Wd) (i:Nat):SL:=bodyQ (rqN ws) (rqP ws) ws i
def rqLeft (ws:List Wd):Rs:=leftQ (rqN ws) (rqP ws) ws (rqN ws)
/-! ### No more words than there were -/
theorem exprQ_len (nf:Nat) (par:Nat→Int):∀(ws:List Wd) (n:Nat) (q:Int),(exprQ nf par ws n q).2.1.length≤ws.length
 | [],n,q=>by unfold exprQ;split<;>simp
 | w::ws,n,q=>by
  unfold exprQ
  split
  ·split
   ·have:=exprQ_len nf par ws (n+1) (q+asksOf (tokQ w).1 (tokQ w).2 par - 1)
    simp only[List.length_cons];omega
   ·simp
  ·simp
theorem exprS_len (nf:Nat) (par:Nat→Int) (q:Rs):(exprS nf par q).2.1.length≤q.1.length:=by
 unfold exprS
 split
 ·exact exprQ_len nf par _ _ _
 ·exact Nat.le_refl _
theorem wordQ_len (q:Rs):(wordQ q).1.length≤q.1.length:=by unfold wordQ;simp
theorem q1_len (k:Nat) (q:Rs):(q1 k q).1.length≤q.1.length:=by
 unfold q1;split
 ·exact wordQ_len q
 ·exact Nat.le_refl _
theorem q2_len (nf:Nat) (par:Nat→Int) (k:Nat) (q:Rs):(q2 nf par k q).2.1.length≤q.1.length:=by
 unfold q2;split
 ·exact q1_len k q
 ·exact Nat.le_trans (exprS_len _ _ _) (q1_len k q)
theorem q3_len (nf:Nat) (par:Nat→Int) (k:Nat) (q:Rs):(q3 nf par k q).2.1.length≤q.1.length:=by
 unfold q3;split
 ·exact Nat.le_trans (exprS_len _ _ _) (q2_len nf par k q)
 ·exact q2_len nf par k q
theorem q4_len (nf:Nat) (par:Nat→Int) {B:Rs→SL×Rs} (hB:∀q,(B q).2.1.length≤q.1.length) (k:Nat) (q:Rs):(q4 nf par B k q).2.1.length≤q.1.length:=by
 unfold q4;split
 ·exact Nat.le_trans (hB _) (q3_len nf par k q)
 ·exact q3_len nf par k q
theorem q5_len (nf:Nat) (par:Nat→Int) {B:Rs→SL×Rs} (hB:∀q,(B q).2.1.length≤q.1.length) (k:Nat) (q:Rs):(q5 nf par B k q).2.1.length≤q.1.length:=by
 unfold q5;split
 ·exact Nat.le_trans (hB _) (q4_len nf par hB k q)
 ·exact q4_len nf par hB k q
theorem loopQ_len (nf:Nat) (par:Nat→Int) {B:Rs→SL×Rs} (hB:∀q,(B q).2.1.length≤q.1.length):∀(u:Nat) (q:Rs),(loopQ nf par B u q).2.1.length≤q.1.length
 | 0,q=>Nat.le_refl _
 | u+1,q=>by
  unfold loopQ
  split
  ·exact Nat.le_refl _
  split
  ·simp
  split
  ·simp
  ·have h1:=loopQ_len nf par hB u (q5 nf par B (kindOf (hdW q.1)) (q.1.tail,true)).2
   have h2:=q5_len nf par hB (kindOf (hdW q.1)) (q.1.tail,true)
   have h3:q.1.tail.length≤q.1.length:=by simp
   exact Nat.le_trans h1 (Nat.le_trans h2 h3)
theorem openQ_len (q:Rs):(openQ q).1.length≤q.1.length:=by unfold openQ;simp
theorem blkQ_len (nf:Nat) (par:Nat→Int):∀(u:Nat) (q:Rs),(blkQ nf par u q).2.1.length≤q.1.length
 | 0,q=>by unfold blkQ;simp
 | u+1,q=>by
  unfold blkQ
  exact Nat.le_trans (loopQ_len nf par (blkQ_len nf par u) _ _) (openQ_len q)
/-! ### Tokens -/
theorem hit_head {w:Wd} {k:Nat} {n:Int} (h:hitQ w k=some n):w=bs (mkL k++Lib.itoa n):=by
 unfold hitQ at h
 split at h
 ·split at h
  ·next e=>injection h with h;subst h;exact e.symm
  ·cases h
 ·cases h
theorem mark_first {k:Nat} (hk:k ∈ numKinds) (n:Int):∃c r,mkL k++Lib.itoa n=c::r ∧
  ((k=1∧(c.toNat=45∧r ≠ []∨48≤c.toNat∧c.toNat≤57))∨(k=2∧c.toNat=118)∨(k=4∧c.toNat=46)∨(k=5∧c.toNat=110)∨(k=6∧c.toNat=102)):=by
 simp only[numKinds,List.mem_cons,List.not_mem_nil,or_false]at hk
 rcases hk with rfl|rfl|rfl|rfl|rfl
 ·obtain⟨c,r,e,hc,_⟩:=itoa_bytes n
  exact⟨c,r,e,Or.inl ⟨rfl,hc⟩⟩
 ·exact⟨_,_,rfl,by simp⟩
 ·exact⟨_,_,rfl,by simp⟩
 ·exact⟨_,_,rfl,by simp⟩
 ·exact⟨_,_,rfl,by simp⟩
theorem hit_one {w:Wd} {k k':Nat} {n n':Int} (hk:k ∈ numKinds) (hk':k' ∈ numKinds) (h:hitQ w k=some n) (h':hitQ w k'=some n'):k=k'∧n=n':=by
 have e:=hit_head h
 have e':=hit_head h'
 rw[e]at e'
 have e':=bs_inj e'
 obtain⟨c,r,a,hc⟩:=mark_first hk n
 obtain⟨c',r',a',hc'⟩:=mark_first hk' n'
 rw[a,a']at e'
 injection e' with e1 e2
 subst e1
 have:k=k':=by omega
 subst this
 rw[h]at h'
 injection h' with h'
 exact⟨rfl,h'⟩
theorem hits_some {w:Wd} {k:Nat} {n:Int} (hk:k ∈ numKinds) (h:hitQ w k=some n):hitsQ w=((k:Int),n):=by
 unfold hitsQ
 cases hf:numKinds.find? fun k=>(hitQ w k).isSome with
 | none =>
  have:=List.find?_eq_none.1 hf k hk
  rw[h]at this;simp at this
 | some k' =>
  have h1:=List.find?_some hf
  have h2:=List.mem_of_find?_eq_some hf
  obtain⟨n',h3⟩:=Option.isSome_iff_exists.1 h1
  obtain⟨rfl,rfl⟩:=hit_one hk h2 h h3
  simp only[h,Option.getD_some]
theorem hits_none {w:Wd} (h:∀k ∈ numKinds,hitQ w k=none):hitsQ w=(0,0):=by
 unfold hitsQ
 have:(numKinds.find? fun k=>(hitQ w k).isSome)=none:=by
  rw[List.find?_eq_none]
  intro k hk
  rw[h k hk];simp
 rw[this]
theorem openQ_ob (ws:List Wd):openQ (obW::ws,true)=(ws,true):=by
 unfold openQ
 simp[hdW]
theorem blkW_all {P:Wd→Prop} (hob:P obW) (hcb:P cbW) (hst:∀k,P (bs (stL k))) (hnum:∀z:Int,0≤z→z≤6→P (numW z)) {nf:Nat} {par:Nat→Int} {locals:Int} (hl:locals≤6) (htok:∀k z,tokErr k z nf locals=0→P (tokW k z)) :
  ∀ {d:Nat} {T:SL},errs (stErr nf par locals) d T=0→∀w ∈ blkW d T,P w
 | 0,T,_,w,hw=>by
  have:w=obW∨w=cbW:=by simpa[blkW]using hw
  rcases this with rfl|rfl
  ·exact hob
  ·exact hcb
 | d+1,T,h,w,hw=>by
  have toks:∀ {k z:Nat→Int} {n:Nat},(∀j,j<n→tokErr (k j) (z j) nf locals=0)→∀w ∈ toksW k z n,P w:=by
   intro k z n
   induction n with
   | zero=>intro _ w hw;cases hw
   | succ n ih =>
    intro h w hw
    rcases List.mem_append.1 hw with hw|hw
    ·exact ih (fun j hj=>h j (by omega)) w hw
    ·rw[List.mem_singleton]at hw;subst hw;exact htok _ _ (h n (by omega))
  rw[blkW,List.cons_append,List.mem_cons,List.mem_append,List.mem_singleton]at hw
  rcases hw with rfl|hw|rfl
  ·exact hob
  ·obtain⟨i,hi,hw⟩:=catTo_mem hw
   obtain⟨s0,s1,s2⟩:=errs_item h hi
   obtain⟨f0,f1,f2,f3⟩:=stErr_zero s0
   obtain⟨k1,k2,kn,ke,kf,ka,kb⟩:=formErr_zero f0
   simp only[stmtW,List.mem_append,List.mem_cons]at hw
   rcases hw with ((((rfl|hw)|hw)|hw)|hw)|hw
   ·exact hst _
   ·split at hw
    ·next c =>
     rw[List.mem_singleton]at hw;subst hw
     unfold numErr at f1
     split at f1
     ·cases f1
     ·exact hnum _ (by omega) (by omega)
    ·cases hw
   ·by_cases c:(T.nd i).kind=4
    ·have hz:(T.nd i).ne=0:=by omega
     rw[hz]at hw;cases hw
    ·exact toks (expr_toks (f2.resolve_left c)) w hw
   ·by_cases c:(T.nd i).kind=2
    ·exact toks (expr_toks (f3.resolve_left fun x=>x c)) w hw
    ·have hz:(T.nd i).nf=0:=by omega
     rw[hz]at hw;cases hw
   ·split at hw
    ·exact blkW_all hob hcb hst hnum hl htok s1 w hw
    ·cases hw
   ·split at hw
    ·exact blkW_all hob hcb hst hnum hl htok s2 w hw
    ·cases hw
  ·exact hcb
def shortW (w:Wd):Prop:=w.data.toList.length≤30
theorem numW_short {z:Int} (h0 : -9223372036854775808≤z) (h1:z≤9223372036854775807):shortW (numW z):=by
 have:=Lib.itoa_length_le z h0 h1
 show (Lib.itoa z).length≤30
 omega
theorem tokW_short {k z:Int} {nf:Nat} {locals:Int} (hl:locals≤6) (hn:nf≤1000) (h:tokErr k z nf locals=0):shortW (tokW k z):=by
 have hz : -9223372036854775808≤z∧z≤9223372036854775807:=by
  unfold tokErr at h
  repeat' split at h
  all_goals first|omega|cases h
 have h2:=Lib.itoa_length_le z hz.1 hz.2
 unfold tokW shortW
 split
 ·rw[bs_data]
  unfold opL
  split<;>decide
 ·rw[bs_data,List.length_append]
  have:(mkL k.toNat).length≤3:=by unfold mkL;split<;>decide
  omega
theorem stL_short (k:Nat):shortW (bs (stL k)):=by
 show (stL k).length≤30
 unfold stL
 split<;>decide
theorem progW_short {nf:Nat} {par loc:Nat→Int} {d:Nat} {body:Nat→SL} (h:progErr nf par loc d body=0):∀w ∈ progW nf par loc d body,shortW w:=by
 intro w hw
 obtain⟨i,hi,hw⟩:=catTo_mem hw
 obtain⟨_,hn4,hh,hb⟩:=prog_zero h
 have r:=head_range (hh i hi)
 rw[funWs,List.mem_append]at hw
 rcases hw with hw|hw
 ·have:w=funW∨w=numW (par i)∨w=numW (loc i):=by simpa using hw
  rcases this with rfl|rfl|rfl
  ·show (3:Nat)≤30;decide
  ·exact numW_short (by omega) (by omega)
  ·exact numW_short (by omega) (by omega)
 ·exact blkW_all (P:=shortW) (by show (1:Nat)≤30;decide) (by show (1:Nat)≤30;decide) stL_short (fun z h0 h6=>numW_short (by omega) (by omega)) (locals:=loc i) (by omega) (fun k z t=>tokW_short (by omega) (by omega) t) (bodyErr_errs (hb i hi)).2 w hw
theorem toksW_length (k z:Nat→Int):∀n,(toksW k z n).length=n
 | 0=>rfl
 | n+1=>by simp[toksW,toksW_length k z n]
theorem blk_len {nf:Nat} {par:Nat→Int} {locals:Int}:∀ {d:Nat} {T:SL},errs (stErr nf par locals) d T=0→(blkW d T).length≤2+60*size d T
 | 0,T,_=>by simp[blkW]
 | d+1,T,h=>by
  have key:∀n,n≤T.len→(catTo (fun i=>stmtW (blkW d) (T.nd i) (T.sub i false) (T.sub i true)) n).length≤60*sumTo n (fun i=>1+size d (T.sub i false)+size d (T.sub i true)):=by
   intro n
   induction n with
   | zero=>intro _;simp[catTo]
   | succ n ih =>
    intro hn
    have ih:=ih (by omega)
    obtain⟨s0,s1,s2⟩:=errs_item h (i:=n) (by omega)
    obtain⟨f0,f1,f2,f3⟩:=stErr_zero s0
    obtain⟨k1,k2,kn,ke,kf,ka,kb⟩:=formErr_zero f0
    have a1:=blk_len s1
    have a2:=blk_len s2
    have e1:(T.nd n).ne≤24:=by
     by_cases c:(T.nd n).kind=4
     ·omega
     ·exact (exprErr_zero (f2.resolve_left c)).1
    have e2:(T.nd n).nf≤24:=by
     by_cases c:(T.nd n).kind=2
     ·exact (exprErr_zero (f3.resolve_left fun x=>x c)).1
     ·omega
    have hs:(stmtW (blkW d) (T.nd n) (T.sub n false) (T.sub n true)).length≤60*(1+size d (T.sub n false)+size d (T.sub n true)):=by
     have q1:(if (T.nd n).kind=1∨(T.nd n).kind=2 then [numW (T.nd n).num] else ([]:List Wd)).length≤1:=by split<;>simp
     have q2:(if (T.nd n).kind=6∨(T.nd n).kind=7 then blkW d (T.sub n false) else []).length≤(blkW d (T.sub n false)).length:=by split<;>simp
     have q3:(if (T.nd n).kind=6 then blkW d (T.sub n true) else []).length≤(blkW d (T.sub n true)).length:=by split<;>simp
     simp only[stmtW,List.length_append,List.length_cons,toksW_length]
     omega
    simp only[catTo,sumTo,List.length_append]
    omega
  have:=key T.len (Nat.le_refl _)
  have e:(blkW (d+1) T).length=2+(catTo (fun i=>stmtW (blkW d) (T.nd i) (T.sub i false) (T.sub i true)) T.len).length:=by
   rw[blkW];simp;omega
  rw[e]
  show _≤2+60*sumTo T.len (fun i=>1+size d (T.sub i false)+size d (T.sub i true))
  omega
theorem catTo_len {f:Nat→List Wd} {c:Nat}:∀ {n:Nat},(∀i,i<n→(f i).length≤c)→(catTo f n).length≤n*c
 | 0,_=>by simp[catTo]
 | n+1,h=>by
  have:=catTo_len (n:=n) fun i hi=>h i (by omega)
  have:=h n (by omega)
  simp only[catTo,List.length_append,Nat.succ_mul]
  omega
theorem fun_len {nf:Nat} {par loc:Nat→Int} {d:Nat} {body:Nat→SL} (h:progErr nf par loc d body=0):∀i,i<nf→(funWs d (par i) (loc i) (body i)).length≤2000:=by
 obtain⟨_,hn4,hh,hb⟩:=prog_zero h
 intro i hi
 obtain⟨x,y⟩:=bodyErr_errs (hb i hi)
 have:=blk_len y
 have:=x.2
 simp only[funWs,List.length_append,List.length_cons,List.length_nil]
 omega
theorem prog_len {nf:Nat} {par loc:Nat→Int} {d:Nat} {body:Nat→SL} (h:progErr nf par loc d body=0):(progW nf par loc d body).length≤8000:=by
 have:=catTo_len (fun_len h)
 obtain⟨_,hn4,_,_⟩:=prog_zero h
 unfold progW
 have:nf*2000≤4*2000:=Nat.mul_le_mul_right _ hn4
 omega
theorem lens_short:∀ {ws:List Wd},(∀w ∈ ws,shortW w)→Lib.lens (ws.map (·.data.toList))≤ws.length*30
 | [],_=>by simp[Lib.lens]
 | w::ws,h=>by
  have:=lens_short fun x hx=>h x (List.mem_cons_of_mem _ hx)
  have h1:w.data.toList.length≤30:=h w (by simp)
  simp only[Lib.lens,List.map_cons,List.sum_cons,List.length_cons,Nat.succ_mul]at this ⊢
  omega
theorem text_len {ws:List Wd} (h:∀w ∈ ws,shortW w) (hl:ws.length≤8000):(textL ws).length≤1000000:=by
 cases ws with
 | nil=>simp[textL,Lib.join_nil]
 | cons w ws =>
  unfold textL
  rw[List.map_cons,Lib.join_length]
  have:=lens_short h
  simp only[List.map_cons,List.length_cons,List.length_map,List.length_nil]at *
  omega
/-! ### The parameters alone matter -/
/-! ### The functions' texts,and their text -/
theorem joinTail_append (a b:List (List UInt8)):Lib.joinTail [32] (a++b)=Lib.joinTail [32] a++Lib.joinTail [32] b:=by simp[Lib.joinTail]
theorem joinTail_text {ws:List Wd} (h:ws ≠ []):Lib.joinTail [32] (ws.map (·.data.toList))=32::textL ws:=by
 cases ws with
 | nil=>exact absurd rfl h
 | cons w ws=>rw[List.map_cons,joinTail_cons,textL,List.map_cons,Lib.join_cons]
def textsTo (f:Nat→List Wd):Nat→List Wd
 | 0=>[]
 | n+1=>textsTo f n++[bs (textL (f n))]
theorem textsTo_len (f:Nat→List Wd):∀n,(textsTo f n).length=n
 | 0=>rfl
 | n+1=>by rw[textsTo,List.length_append,textsTo_len f n];rfl
theorem texts_tail {f:Nat→List Wd} (hf:∀i,f i ≠ []):∀n,Lib.joinTail [32] ((textsTo f n).map (·.data.toList))=Lib.joinTail [32] ((catTo f n).map (·.data.toList))
 | 0=>rfl
 | n+1=>by
  rw[textsTo,catTo,List.map_append,List.map_append,joinTail_append,joinTail_append,texts_tail hf n,joinTail_text (hf n)]
  simp[Lib.joinTail,bs_data]
theorem texts_join {f:Nat→List Wd} (hf:∀i,f i ≠ []) {n:Nat} (hn:1≤n):textL (textsTo f n)=textL (catTo f n):=by
 have h1:textsTo f n ≠ []:=by
  intro e;have:=textsTo_len f n;rw[e]at this;simp at this;omega
 have h2:catTo f n ≠ []:=by
  intro e
  obtain⟨m,rfl⟩:∃m,n=m+1:=⟨n - 1,by omega⟩
  rw[catTo]at e
  exact hf m (List.append_eq_nil_iff.1 e).2
 have:=texts_tail hf n
 rw[joinTail_text h1,joinTail_text h2]at this
 injection this
end
section
open Go.RowKit Go.Maps
theorem add_lit (a:List UInt8) (ha:a.length≤100) (z:Int) (hz0 : -9223372036854775808≤z) (hz1:z≤9223372036854775807) (w:World):(Op.stringOp .add ⟨a.toArray⟩ (numW z)).run Tryz.prog w=.ok (.string (bs (a++Lib.itoa z))) w:=by
 have h2:=Lib.itoa_length_le z hz0 hz1
 have e:(⟨a.toArray⟩:ByteArray)=bs a:=rfl
 unfold numW
 rw[e,run_string_add_sum w _ _ (by rw[bs_size,bs_size];omega),bs_append]
theorem op_cut:∀(m:Nat) (_:1≤m) (_:m≤5) (w:World),(Instr.slice 9 (.string ⟨#[63,43,45,42,60,61]⟩) (some (.int .i64 (m:Int))) (some (.int .i64 ((m:Int)+1))) none).run Tryz.prog w=.ok (.string (bs (opL m))) w
 | 0,h,_,_=>absurd h (by decide)
 | 1,_,_,w=>by kernel_rfl
 | 2,_,_,w=>by kernel_rfl
 | 3,_,_,w=>by kernel_rfl
 | 4,_,_,w=>by kernel_rfl
 | 5,_,_,w=>by kernel_rfl
 | m+6,_,h,_=>absurd h (by omega)
set_option maxHeartbeats 2000000 in
theorem tokText_op (N:Nat) (m:Nat) (h1:1≤m) (h5:m≤5) (w:World) (he:Env N w) (hN:N≤w.heap.size) :
  Calls Tryz.prog 146 #[.agg #[.int .i64 3,.int .i64 m]] w fun e w'=>e=.returned (.string (bs (opL m)))∧Below w.heap.size w w':=by
 have HI:Hid (∀w1,Below w.heap.size w w1→Calls Tryz.prog 85 #[.int .i64 (m:Int)] w1 fun e w'=>e=.returned (.string (numW m))∧Below w1.heap.size w1 w'):=fun w1 hb=>itoa N m (by omega) (by omega) w1 (he.below (hb.mono hN))
 have hcut:=op_cut m h1 h5
 have hm0:(0:Int)≤(m:Int):=by omega
 have hm5:(m:Int)≤5:=by omega
 clear he
 go_enter Tryz.func146,Tryz.ntmps146
 go_wp2_with (first
  | (go_at_call 85;refine (HI.out _ (below_alloc _ _)).mono ?_;rintro e w1 ⟨rfl,b1⟩;have q0:=box_in b1 0 rfl;have q1:=box_in b1 1 rfl))
 go_ret
 exact⟨rfl,(below_alloc _ _).trans (b1.mono (by simp))⟩
set_option maxHeartbeats 4000000 in
theorem tokText_num (N:Nat) (k:Nat) (h1:1≤k) (h6:k≤6) (h3:¬k=3) (z:Int) (hz0 : -9223372036854775808≤z) (hz1:z≤9223372036854775807) (w:World) (he:Env N w) (hN:N≤w.heap.size) :
  Calls Tryz.prog 146 #[.agg #[.int .i64 k,.int .i64 z]] w fun e w'=>e=.returned (.string (bs (mkL k++Lib.itoa z)))∧Below w.heap.size w w':=by
 have HI:Hid (∀w1,Below w.heap.size w w1→Calls Tryz.prog 85 #[.int .i64 z] w1 fun e w'=>e=.returned (.string (numW z))∧Below w1.heap.size w1 w'):=fun w1 hb=>itoa N z hz0 hz1 w1 (he.below (hb.mono hN))
 have a2:=add_lit [118] (by decide) z hz0 hz1
 have a4:=add_lit [46] (by decide) z hz0 hz1
 have a5:=add_lit [110,101,119] (by decide) z hz0 hz1
 have a6:=add_lit [102] (by decide) z hz0 hz1
 clear he
 have:k=1∨k=2∨k=4∨k=5∨k=6:=by omega
 rcases this with rfl|rfl|rfl|rfl|rfl
 all_goals
  go_enter Tryz.func146,Tryz.ntmps146
  go_wp2_with (first
   | (go_at_call 85;refine (HI.out _ (below_alloc _ _)).mono ?_;rintro e w1 ⟨rfl,b1⟩;have q0:=box_in b1 0 rfl;have q1:=box_in b1 1 rfl))
  go_ret
  exact⟨rfl,(below_alloc _ _).trans (b1.mono (by simp))⟩
def tokFit (k z:Int):Prop:=(k=3∧1≤z∧z≤5)∨(1≤k∧k≤6∧¬k=3∧-9223372036854775808≤z∧z≤9223372036854775807)
theorem tokText (N:Nat) (k z:Int) (h:tokFit k z) (w:World) (he:Env N w) (hN:N≤w.heap.size) :
  Calls Tryz.prog 146 #[.agg #[.int .i64 k,.int .i64 z]] w fun e w'=>e=.returned (.string (tokW k z))∧Below w.heap.size w w':=by
 unfold tokW
 rcases h with⟨rfl,h1,h5⟩|⟨h1,h6,h3,hz0,hz1⟩
 ·rw[if_pos rfl]
  obtain⟨m,rfl⟩:∃m:Nat,z=m:=⟨z.toNat,by omega⟩
  exact tokText_op N m (by omega) (by omega) w he hN
 ·rw[if_neg h3]
  obtain⟨n,rfl⟩:∃n:Nat,k=n:=⟨k.toNat,by omega⟩
  exact tokText_num N n (by omega) (by omega) (by omega) z hz0 hz1 w he hN
theorem tokFit_of {k z:Int} {nf:Nat} {locals:Int} (hl:locals≤6) (hn:nf≤1000) (h:tokErr k z nf locals=0):tokFit k z:=by
 unfold tokErr at h
 unfold tokFit
 by_cases a1:k=1
 ·rw[if_pos a1]at h;split at h
  ·cases h
  ·omega
 rw[if_neg a1]at h
 by_cases a2:k=2
 ·rw[if_pos a2]at h;split at h
  ·cases h
  ·omega
 rw[if_neg a2]at h
 by_cases a3:k=3
 ·rw[if_pos a3]at h;split at h
  ·cases h
  ·omega
 rw[if_neg a3]at h
 by_cases a4:k=4
 ·rw[if_pos a4]at h;split at h
  ·cases h
  ·omega
 rw[if_neg a4]at h
 by_cases a5:k=5
 ·rw[if_pos a5]at h;split at h
  ·cases h
  ·omega
 rw[if_neg a5]at h
 by_cases a6:k=6
 ·rw[if_pos a6]at h;split at h
  ·cases h
  ·omega
 rw[if_neg a6]at h
 cases h
end
end Go.Proofs.YtfaokaohhchdhaaGreatDoor
