/- How the reckoning compiles: the instructions of an expression, of statements, of a program. No Go in it. -/
import Derived.Test.YtfaokaohhchdhaaGreatDoorPart34
namespace Go.Proofs.YtfaokaohhchdhaaGreatDoor
section
def lastI (k z:Int) (tn cnt:Nat):List Int :=
 if k=1 then [1,(tn:Int),z,0]
 else if k=2 then [2,(tn:Int),z,0]
 else if k=3 then [3,(tn:Int),(tn:Int),(tn:Int)+1,z]
 else if k=4 then [4,(tn:Int),(tn:Int),z]
 else if k=5 then [5,(tn:Int),z,0]
 else [7,(tn:Int),z,0]++(List.range cnt).map (fun (j:Nat)=>(tn:Int)+(j:Int))
def seqM (f:Nat→Nat→Option (List (List Int)×Nat)) (a tn:Nat):Nat→Option (List (List Int)×Nat)
 | 0=>some ([],a)
 | c+1=>(seqM f a tn c).bind fun r=>(f r.2 (tn+c)).map fun s=>(r.1++s.1,s.2)
def valM (n nf:Nat) (k z:Nat→Int) (par:Nat→Int):Nat→Nat→Nat→Option (List (List Int)×Nat)
 | 0,_,_=>none
 | fuel+1,a,tn =>
  if a<n∧1≤k a∧k a≤6∧0≤asksOf (k a) (z a) par∧asksOf (k a) (z a) par≤3∧(k a=6→0≤z a∧z a<nf) then
   (seqM (valM n nf k z par fuel) (a+1) tn (asksOf (k a) (z a) par).toNat).map fun r=>(r.1++[lastI (k a) (z a) tn (asksOf (k a) (z a) par).toNat],r.2)
  else none
def oneM (nf:Nat) (par:Nat→Int) (free:Nat) (sub:Bool→Nat→Option (List (List Int))) (s:Nd) (here:Nat):Option (List (List Int)) :=
 (if s.ne=0 then some [] else (valM s.ne nf s.ek s.ez par s.ne 0 free).map fun r=>r.1).bind fun c =>
  if s.kind=1 then some (c++[[2,s.num,(free:Int),0]])
  else if s.kind=2 then (valM s.nf nf s.fk s.fz par s.nf 0 (free+1)).map fun d=>c++d.1++[[6,(free:Int),(free:Int)+1,s.num]]
  else if s.kind=3 then some (c++[[9,(free:Int),0,0]])
  else if s.kind=4 then some (c++[[10,0,0,0]])
  else if s.kind=5 then some (c++[[11,(free:Int),0,0]])
  else if s.kind=8 then some (c++[[8,(free:Int),0,0]])
  else if s.kind=6∨s.kind=7 then
   (sub false (here+c.length+1)).bind fun x=>(sub true (here+c.length+1+x.length+1)).map fun y =>
    c++[[13,(free:Int),((here+c.length+1+x.length+1:Nat):Int),0]]++x++[[12,0,(if s.kind=7 then ((here:Nat):Int) else ((here+c.length+1+x.length+1+y.length:Nat):Int)),0]]++y
  else none
def iterM (g:Nat→Nat→Option (List (List Int))) (at0:Nat):Nat→Option (List (List Int))
 | 0=>some []
 | i+1=>(iterM g at0 i).bind fun out=>(g i (at0+out.length)).map fun c=>out++c
def codM (nf:Nat) (par:Nat→Int) (free:Nat):Nat→SL→Nat→Option (List (List Int))
 | 0,T,_=>if T.len=0 then some [] else none
 | d+1,T,at0=>iterM (fun i here=>oneM nf par free (fun b at1=>codM nf par free d (T.sub i b) at1) (T.nd i) here) at0 T.len
def codedM (nf:Nat) (par loc:Nat→Int) (d:Nat) (body:Nat→SL) (j:Nat):Option (List (List Int)) :=
 (codM nf par (loc j).toNat d (body j) 0).map fun c=>c++[[1,loc j,0,0],[8,loc j,0,0]]
def pcOf (par:Nat→Int) (L:Nat→List (List Int)) (j:Nat):Pc:=⟨par j,30,(L j).length,fun k=>insOf ((L j).getD k [])⟩
end
section
open Go.RowKit Go.Maps
theorem append_insS {ops:Array Oper} {rest:List Oper} {o:Oper} {a:Act} {Q:Exit→Act→World→Prop} (w:World) (hgd:o.guard=none) (s y:Operand)
  (ho:o.op=.call { callee:=.builtin .append,args:=#[s,y],argTypes:=#[36,36] }) (base:Nat) (v:Value) (n0:Nat) (xs:List Value) (hs:a.eval s=v) (hown:w.ownsRow base 84 5 v n0 xs)
  (ad:Addr) (n c:Nat) (news:List Value) (hy:a.eval y=.slice (some ad) n c) (hln:news.length=n*5) (hnews:∀j u,news[j]?=some u→w.cell? (ad.add j)=some u) (h1:∀u ∈ news,u.oneCell'=true) (hR:n0+n≤100000) (hbase:base≤w.heap.size)
  (h:∀ad' cap w2,w2.ownsRow base 84 5 (.slice ad' (n0+n) cap) (n0+n) (xs++news)→w.grownBy w2 v.ownBlock→wpList Tryz.prog ops Q rest (a.put o.dst (.slice ad' (n0+n) cap)) w2) :
  wpList Tryz.prog ops Q (o::rest) a w:=by
 obtain⟨i0,hi,hz0,hz1,hz2⟩:=info_parts infoIns
 refine wpList_append_own _ hgd s y 36 ho base 84 i0 (.agg #[.int .i64 0,.int .i64 0,.int .i64 0,.int .i64 0,.slice none 0 0]) 5 56 Tryz.underlying36 hi hz0 hz1 hz2 rfl (by decide) v n0 xs hs hown ad n c news hy hln hnews h1 (by unfold maxLen;omega) (by omega) hbase ?_
 intro v' w2 hr hg _
 obtain⟨ad',cap,rfl⟩:=own_shape hr
 exact h ad' cap w2 hr hg
theorem flatI_append:∀(l m:List (List Int×Value)),flatI (l++m)=flatI l++flatI m
 | [],m=>rfl
 | x::l,m=>by rw[List.cons_append,flatI,flatI_append l m,flatI,List.append_assoc]
theorem CodeRow.news {C:Nat} {w:World} {v:Value} {l:List (List Int×Value)} (h:CodeRow C w v l) (hn:¬l.length=0):∃g cap,v=.slice (some ⟨g,0,none⟩) l.length cap∧C≤g∧g<w.heap.size∧∀j x,(flatI l)[j]?=some x→w.cell? ((⟨g,0,none⟩:Addr).add j)=some x:=by
 rcases h.1.2 with⟨_,h0⟩|⟨g,cap,cur,rfl,hC,hg,_⟩
 ·exact absurd h0 hn
 ·refine⟨g,cap,rfl,hC,(Array.getElem?_eq_some_iff.1 hg).1,fun j x hj=>?_⟩
  rw[WideShapes.add_plain,Nat.zero_add]
  have hl:=flatI_len l
  rw[h.1.cellAt j (by have:=(List.getElem?_eq_some_iff.1 hj).1;omega)]
  exact hj
theorem flatI_one {l:List (List Int×Value)} (h:∀x ∈ l,Value.oneCell' x.2=true):∀u ∈ flatI l,u.oneCell'=true:=by
 induction l with
 | nil=>intro u hu;cases hu
 | cons x l ih =>
  intro u hu
  rw[flatI,List.mem_append]at hu
  rcases hu with hu|hu
  ·simp only[List.mem_cons,List.not_mem_nil,or_false]at hu
   rcases hu with rfl|rfl|rfl|rfl|rfl
   ·rfl
   ·rfl
   ·rfl
   ·rfl
   ·exact h x (by simp)
  ·exact ih (fun y hy=>h y (by simp[hy])) u hu
theorem CodeRow.one {C:Nat} {w:World} {v:Value} {l:List (List Int×Value)} (h:CodeRow C w v l):∀u ∈ flatI l,u.oneCell'=true :=
 flatI_one fun x hx=>by
  obtain⟨a,cap,e,_⟩:=h.2 x hx
  rw[e];rfl
def ArgB (v:Value) (k:Nat):Prop:=∃o n c,v=.slice (some ⟨k,o,none⟩) n c
theorem ArgsAt.but {w w':World} {v:Value} {n:Nat} {z:Nat→Int} (h:ArgsAt w v n z) (hk:∀k,ArgB v k→w'.heap[k]?=w.heap[k]?):ArgsAt w' v n z:=by
 obtain⟨a,cap,rfl,hn,h|⟨g,o,cur,rfl,hg,hc⟩⟩:=h
 ·exact⟨a,cap,rfl,hn,Or.inl h⟩
 ·exact⟨_,cap,rfl,hn,Or.inr ⟨g,o,cur,rfl,(hk g ⟨o,n,cap,rfl⟩).trans hg,hc⟩⟩
def InsRow (B:Nat) (no:Nat→Prop) (w:World) (v:Value) (L:List (List Int)):Prop :=
 ∃items,CodeRow B w v items∧items.map (·.1)=L∧∀x ∈ items,∀k,ArgB x.2 k→B≤k∧k<w.heap.size∧¬no k
theorem InsRow.nil (B:Nat) (no:Nat→Prop) (w:World):InsRow B no w (.slice none 0 0) []:=⟨[],CodeRow.nil B w,rfl,fun x hx=>by cases hx⟩
theorem InsRow.stay {B:Nat} {no:Nat→Prop} {w w':World} {v:Value} {L:List (List Int)} (h:InsRow B no w v L) (hs:w.heap.size≤w'.heap.size) (hv:∀k,v.ownBlock=some k→w'.heap[k]?=w.heap[k]?) (hk:∀k,B≤k→k<w.heap.size→¬no k→¬v.ownBlock=some k→w'.heap[k]?=w.heap[k]?):InsRow B no w' v L:=by
 obtain⟨items,h1,h2,h3⟩:=h
 refine⟨items,⟨?_,fun x hx=>(h1.2 x hx).but fun k hka=>?_⟩,h2,fun x hx k hka=>?_⟩
 ·exact⟨h1.1.1,by
   rcases h1.1.2 with hn|⟨g,cap,cur,rfl,hg,hh,r⟩
   ·exact Or.inl hn
   ·exact Or.inr ⟨g,cap,cur,rfl,hg,by rw[hv g rfl];exact hh,r⟩⟩
 ·obtain⟨a1,a2,a3⟩:=h3 x hx k hka
  by_cases e:v.ownBlock=some k
  ·exact hv k e
  ·exact hk k a1 a2 a3 e
 ·obtain⟨a1,a2,a3⟩:=h3 x hx k hka
  exact⟨a1,by omega,a3⟩
theorem InsRow.below {B:Nat} {no:Nat→Prop} {w w':World} {v:Value} {L:List (List Int)} (h:InsRow B no w v L) (hb:Below w.heap.size w w'):InsRow B no w' v L :=
 h.stay hb.size (fun k hk=>hb.block k (by
  obtain⟨items,h1,_⟩:=h
  exact (h1.1.lt k hk).2)) fun k _ hk _ _=>hb.block k hk
theorem InsRow.lower {B B':Nat} {no no':Nat→Prop} {w:World} {v:Value} {L:List (List Int)} (h:InsRow B no w v L) (hb:B'≤B) (hn:∀k,B≤k→no' k→no k):InsRow B' no' w v L:=by
 obtain⟨items,h1,h2,h3⟩:=h
 refine⟨items,⟨⟨h1.1.1,?_⟩,h1.2⟩,h2,fun x hx k hk=>?_⟩
 ·rcases h1.1.2 with e|⟨g,cap,cur,e,hg,r⟩
  ·exact Or.inl e
  ·exact Or.inr ⟨g,cap,cur,e,by omega,r⟩
 ·obtain⟨a1,a2,a3⟩:=h3 x hx k hk
  exact⟨by omega,a2,fun e=>a3 (hn k a1 e)⟩
theorem InsRow.shape {B:Nat} {no:Nat→Prop} {w:World} {v:Value} {L:List (List Int)} (h:InsRow B no w v L):∃a c,v=.slice a L.length c:=by
 obtain⟨items,h1,h2,h3⟩:=h
 obtain⟨a,c,e⟩:=own_shape h1.1
 exact⟨a,c,by rw[e,←h2,List.length_map]⟩
theorem insJoin {B B2:Nat} {no:Nat→Prop} {w w2:World} {v u v':Value} {L M:List (List Int)} (hB:B≤B2) {items items2:List (List Int×Value)} (hi:CodeRow B w v items∧items.map (·.1)=L∧∀x ∈ items,∀k,ArgB x.2 k→B≤k∧k<w.heap.size∧¬no k)
  (hi2:CodeRow B2 w u items2∧items2.map (·.1)=M∧∀x ∈ items2,∀k,ArgB x.2 k→B2≤k∧k<w.heap.size∧¬no k) (hown:w2.ownsRow B 84 5 v' (L.length+M.length) (flatI items++flatI items2)) (hgr:w.grownBy w2 v.ownBlock):InsRow B no w2 v' (L++M):=by
 obtain⟨c1,e1,a1⟩:=hi
 obtain⟨c2,e2,a2⟩:=hi2
 have hne:∀x k,ArgsAt w x (0+0) (fun _=>0)∨True→ArgB x k→(∃cur,w.heap[k]?=some (.cells cur 3 (0,0)))→¬v.ownBlock=some k:=fun x k _ _ hc e=>by
  obtain⟨c,fz,q⟩:=Lib.ownsRow_kind c1.1 k e
  obtain⟨cur,hc⟩:=hc
  rw[hc]at q
  injection q with q;injection q with _ q _;exact absurd q (by decide)
 have keep:∀(x:Value) (n:Nat) (z:Nat→Int),ArgsAt w x n z→ArgsAt w2 x n z:=fun x n z hx=>by
  obtain⟨a,cap,rfl,hn,h0|⟨g,o,cur,rfl,hg,hc⟩⟩:=hx
  ·exact⟨a,cap,rfl,hn,Or.inl h0⟩
  ·refine⟨_,cap,rfl,hn,Or.inr ⟨g,o,cur,rfl,?_,hc⟩⟩
   rw[hgr.block g (Array.getElem?_eq_some_iff.1 hg).1 (fun e=>hne _ g (Or.inr trivial) ⟨o,n,cap,rfl⟩ ⟨cur,hg⟩ e.symm)]
   exact hg
 refine⟨items++items2,⟨?_,fun x hx=>?_⟩,by rw[List.map_append,e1,e2],fun x hx k hk=>?_⟩
 ·have hl1:items.length=L.length:=by rw[←e1,List.length_map]
  have hl2:items2.length=M.length:=by rw[←e2,List.length_map]
  rw[List.length_append,flatI_append,hl1,hl2]
  exact hown
 ·rcases List.mem_append.1 hx with hx|hx
  ·exact keep _ _ _ (c1.2 x hx)
  ·exact keep _ _ _ (c2.2 x hx)
 ·rcases List.mem_append.1 hx with hx|hx
  ·obtain⟨b1,b2,b3⟩:=a1 x hx k hk
   exact⟨b1,Nat.lt_of_lt_of_le b2 hgr.size,b3⟩
  ·obtain⟨b1,b2,b3⟩:=a2 x hx k hk
   exact⟨by omega,Nat.lt_of_lt_of_le b2 hgr.size,b3⟩
theorem append_insR {ops:Array Oper} {rest:List Oper} {o:Oper} {a:Act} {Q:Exit→Act→World→Prop} (w:World) (hgd:o.guard=none) (s y:Operand)
  (ho:o.op=.call { callee:=.builtin .append,args:=#[s,y],argTypes:=#[36,36] }) (B B2:Nat) (no:Nat→Prop) (v u:Value) (L M:List (List Int)) (hs:a.eval s=v) (hy:a.eval y=u) (hv:InsRow B no w v L) (hu:InsRow B2 no w u M) (hBB:B≤B2) (hM:¬M.length=0) (hl:L.length+M.length≤100000) (hB:B≤w.heap.size)
  (h:∀ad cap w2,Hid (InsRow B no w2 (.slice ad (L.length+M.length) cap) (L++M))→Hid (w.grownBy w2 v.ownBlock)→wpList Tryz.prog ops Q rest (a.put o.dst (.slice ad (L.length+M.length) cap)) w2) :
  wpList Tryz.prog ops Q (o::rest) a w:=by
 obtain⟨items,c1,e1,a1⟩:=id hv
 obtain⟨items2,c2,e2,a2⟩:=id hu
 have hl1:items.length=L.length:=by rw[←e1,List.length_map]
 have hl2:items2.length=M.length:=by rw[←e2,List.length_map]
 obtain⟨g,cap,rfl,hg1,hg2,hnews⟩:=c2.news (by omega)
 rw[hl2]at hy
 have hown:=c1.1
 rw[hl1]at hown
 refine append_insS w hgd s y ho B v L.length (flatI items) hs hown ⟨g,0,none⟩ M.length cap (flatI items2) hy (by rw[flatI_len,hl2]) hnews c2.one hl hB ?_
 intro ad' cp w2 h1 h2
 exact h ad' cp w2 (insJoin hBB ⟨c1,e1,a1⟩ ⟨c2,e2,a2⟩ h1 h2) h2
theorem seqM_step {f:Nat→Nat→Option (List (List Int)×Nat)} {a tt c:Nat} {r:List (List Int)×Nat} (h:seqM f a tt (c+1)=some r):∃q s,seqM f a tt c=some q∧f q.2 (tt+c)=some s∧r=(q.1++s.1,s.2):=by
 unfold seqM at h
 cases hq:seqM f a tt c with
 | none=>rw[hq]at h;cases h
 | some q =>
  rw[hq]at h
  simp only[Option.bind_some]at h
  cases hs:f q.2 (tt+c) with
  | none=>rw[hs]at h;cases h
  | some s =>
   rw[hs]at h
   simp only[Option.map_some,Option.some.injEq]at h
   exact⟨q,s,rfl,hs,h.symm⟩
theorem seqM_prefix {f:Nat→Nat→Option (List (List Int)×Nat)} {a tt:Nat}:∀ {c:Nat} {r:List (List Int)×Nat},seqM f a tt c=some r→∀j,j≤c→∃q,seqM f a tt j=some q
 | 0,r,h,j,hj=>by
  obtain rfl:j=0:=by omega
  exact⟨_,h⟩
 | c+1,r,h,j,hj=>by
  by_cases e:j=c+1
  ·rw[e];exact⟨_,h⟩
  ·obtain⟨q,s,h1,_⟩:=seqM_step h
   exact seqM_prefix h1 j (by omega)
theorem valM_len {n nf:Nat} {k z:Nat→Int} {par:Nat→Int}:∀(fuel a tt:Nat) (r:List (List Int)×Nat),valM n nf k z par fuel a tt=some r→r.1.length+a=r.2∧a<r.2∧r.2≤n
 | 0,a,tt,r,h=>by cases h
 | fuel+1,a,tt,r,h=>by
  unfold valM at h
  by_cases hc:a<n∧1≤k a∧k a≤6∧0≤asksOf (k a) (z a) par∧asksOf (k a) (z a) par≤3∧(k a=6→0≤z a∧z a<nf)
  ·rw[if_pos hc]at h
   have hs:∀(c:Nat) (q:List (List Int)×Nat),seqM (valM n nf k z par fuel) (a+1) tt c=some q→q.1.length+(a+1)=q.2∧q.2≤n:=fun c=>by
    induction c with
    | zero=>intro q hq;cases hq;exact⟨by simp,by show a+1≤n;omega⟩
    | succ c ih =>
     intro q hq
     obtain⟨q1,s,h1,h2,rfl⟩:=seqM_step hq
     obtain⟨i1,i2⟩:=ih _ h1
     obtain⟨j1,j2,j3⟩:=valM_len fuel _ _ _ h2
     refine⟨?_,j3⟩
     show (q1.1++s.1).length+(a+1)=s.2
     rw[List.length_append];omega
   cases hq:seqM (valM n nf k z par fuel) (a+1) tt (asksOf (k a) (z a) par).toNat with
   | none=>rw[hq]at h;cases h
   | some q =>
    rw[hq]at h
    simp only[Option.map_some,Option.some.injEq]at h
    obtain⟨i1,i2⟩:=hs _ _ hq
    subst h
    refine⟨?_,?_,i2⟩
    ·show (q.1++[lastI (k a) (z a) tt _]).length+a=q.2
     rw[List.length_append];simp;omega
    ·show a<q.2
     omega
  ·rw[if_neg hc]at h;cases h
theorem seqM_len {n nf:Nat} {k z:Nat→Int} {par:Nat→Int} {fuel a tt:Nat} (ha:a≤n):∀(c:Nat) (q:List (List Int)×Nat),seqM (valM n nf k z par fuel) a tt c=some q→q.1.length+a=q.2∧q.2≤n
 | 0,q,hq=>by cases hq;exact⟨by simp,ha⟩
 | c+1,q,hq=>by
  obtain⟨q1,s,h1,h2,rfl⟩:=seqM_step hq
  obtain⟨i1,i2⟩:=seqM_len ha c _ h1
  obtain⟨j1,j2,j3⟩:=valM_len fuel _ _ _ h2
  refine⟨?_,j3⟩
  show (q1.1++s.1).length+a=s.2
  rw[List.length_append];omega
def argL (tt j:Nat):List Int:=(List.range j).map fun (i:Nat)=>(tt:Int)+(i:Int)
theorem argL_len (tt j:Nat):(argL tt j).length=j:=by simp[argL]
theorem argL_succ (tt j:Nat):argL tt (j+1)=argL tt j++[(tt:Int)+(j:Int)]:=by simp[argL,List.range_succ]
theorem append_intA {ops:Array Oper} {rest:List Oper} {o:Oper} {a:Act} {Q:Exit→Act→World→Prop} (w:World) (hgd:o.guard=none) (s y:Operand)
  (ho:o.op=.call { callee:=.builtin .append,args:=#[s,y],argTypes:=#[30,30] }) (base:Nat) (v:Value) (R:List Int) (hs:a.eval s=v) (hown:w.ownsRow base 3 1 v R.length (R.map (Value.int .i64)))
  (x:Int) (t:TypeId) (B:Nat) (hB:w.heap.size=B) (hy:a.eval y=.slice (some ⟨B,0,none⟩) 1 1) (hR:R.length≤100000) (hbase:base≤w.heap.size)
  (h:∀ad cap w2,Hid (w2.ownsRow base 3 1 (.slice ad (R.length+1) cap) (R++[x]).length ((R++[x]).map (Value.int .i64))∧(w.alloc (.cells #[.int .i64 x] t)).grownBy w2 v.ownBlock∧((Value.slice ad (R.length+1) cap).ownBlock=v.ownBlock∨(Value.slice ad (R.length+1) cap).ownBlock=some (B+1)))→wpList Tryz.prog ops Q rest (a.put o.dst (.slice ad (R.length+1) cap)) w2) :
  wpList Tryz.prog ops Q (o::rest) a (w.alloc (.cells #[.int .i64 x] t)):=by
 subst hB
 obtain⟨i0,hi,hz0,hz1,hz2⟩:=info_parts info3v
 refine wpList_append_own_at _ hgd s y 30 ho base 3 i0 (.int .i64 0) 1 8 Tryz.underlying30 hi hz0 hz1 hz2 rfl (by decide) v _ _ hs (hown.alloc _) ⟨w.heap.size,0,none⟩ 1 1 [.int .i64 x] hy rfl (cell_one_new _ _ _) (ints_oneCell .i64 [x]) (by unfold maxLen;omega) (by omega) (by simp;omega) ?_
 intro v' w2 h1 h2 _ h3
 obtain⟨ad,cap,rfl⟩:=own_shape h1
 refine h ad cap w2 ⟨?_,h2,by simpa using h3⟩
 rw[List.length_append,List.map_append]
 exact h1
theorem argB_none {n c k:Nat} (h:ArgB (.slice none n c) k):False:=by
 obtain⟨_,_,_,e⟩:=h
 cases e
theorem insOne {B:Nat} {no:Nat→Prop} {w:World} (op a b c:Int) (av:Value) (m:List Int) {sz:Nat} (hsz:w.heap.size=sz) (hB:B≤w.heap.size) (ha:ArgsAt w av m.length (fun j=>m.getD j 0)) (hk:∀k,ArgB av k→B≤k∧k<w.heap.size∧¬no k) :
  InsRow B no (w.alloc (.cells #[.int .i64 op,.int .i64 a,.int .i64 b,.int .i64 c,av] 84)) (.slice (some ⟨sz,0,none⟩) 1 1) [[op,a,b,c]++m]:=by
 subst hsz
 refine⟨[([op,a,b,c]++m,av)],⟨⟨by simp[flatI],Or.inr ⟨_,_,_,rfl,hB,heap_alloc_new _ _,?_⟩⟩,fun x hx=>?_⟩,rfl,fun x hx k hx2=>?_⟩
 ·exact⟨Nat.le_refl _,by decide,rfl,by simp[flatI]⟩
 ·simp only[List.mem_singleton]at hx
  subst hx
  refine ArgsAt.but (w:=w) ?_ fun k hkk=>(below_alloc w _).block k (hk k hkk).2.1
  simpa using ha
 ·simp only[List.mem_singleton]at hx
  subst hx
  obtain⟨b1,b2,b3⟩:=hk k hx2
  exact⟨b1,by simp;omega,b3⟩
theorem InsRow.reno {B:Nat} {no no':Nat→Prop} {w:World} {v:Value} {L:List (List Int)} (h:InsRow B no w v L) (hn:∀k,k<w.heap.size→no' k→no k):InsRow B no' w v L:=by
 obtain⟨items,h1,h2,h3⟩:=h
 exact⟨items,h1,h2,fun x hx k hk=>by
  obtain⟨a1,a2,a3⟩:=h3 x hx k hk
  exact⟨a1,a2,fun e=>a3 (hn k a2 e)⟩⟩
theorem argsNext {B:Nat} {w3 w5:World} {o:Obj} {ov av av':Value} {L:List (List Int)} {R:List Int} (h:InsRow B (fun k=>av.ownBlock=some k) w3 ov L) (hr:w3.ownsRow B 3 1 av R.length (R.map (Value.int .i64))) (hg:(w3.alloc o).grownBy w5 av.ownBlock)
  (ho:av'.ownBlock=av.ownBlock∨av'.ownBlock=some (w3.heap.size+1)):InsRow B (fun k=>av'.ownBlock=some k) w5 ov L:=by
 have hk:∀k,k<w3.heap.size→¬av.ownBlock=some k→w5.heap[k]?=w3.heap[k]?:=fun k hk hne=>by
  rw[hg.block k (Nat.lt_of_lt_of_le hk (below_alloc w3 o).size) (fun e=>hne e.symm)]
  exact (below_alloc w3 o).block k hk
 have h':InsRow B (fun k=>av.ownBlock=some k∨av'.ownBlock=some k) w3 ov L:=h.reno fun k hk e=>by
  rcases e with e|e
  ·exact e
  ·rcases ho with e2|e2
   ·rw[←e2];exact e
   ·rw[e2]at e
    injection e with e
    omega
 have hs:w3.heap.size≤w5.heap.size:=Nat.le_trans (below_alloc w3 o).size hg.size
 refine (h'.stay hs (fun k hkk=>?_) (fun k _ h2 h3 _=>hk k h2 fun e=>h3 (Or.inl e))).reno fun k _ e=>Or.inr e
 obtain⟨items,c1,_,_⟩:=h
 exact hk k (c1.1.lt k hkk).2 fun e=>ownsRow_apart c1.1 hr (by decide) hkk e
theorem argsOne (w:World) (x:Int) (t:TypeId) {sz:Nat} (hsz:w.heap.size=sz) (ht:t=3:=by rfl):ArgsAt (w.alloc (.cells #[.int .i64 x] t)) (.slice (some ⟨sz,0,none⟩) 1 1) [x].length (fun j=>[x].getD j 0):=by
 subst hsz
 subst ht
 exact⟨_,_,rfl,by simp,Or.inr ⟨_,_,_,rfl,heap_alloc_new _ _,fun i hi=>by
  obtain rfl:i=0:=by simpa using hi
  rfl⟩⟩
theorem argsRow {B:Nat} {w:World} {v:Value} {R:List Int} (h:w.ownsRow B 3 1 v R.length (R.map (Value.int .i64))) (hR:R.length≤100000:=by omega):ArgsAt w v R.length (fun j=>R.getD j 0):=by
 obtain⟨a,cap,e⟩:=own_shape h
 rcases id h.2 with⟨rfl,h0⟩|⟨g,cap,cur,rfl,hg,hh,r⟩
 ·refine⟨none,0,by rw[h0],by omega,Or.inl h0⟩
 ·refine⟨_,_,rfl,by omega,Or.inr ⟨g,0,cur,rfl,hh,fun i hi=>?_⟩⟩
  obtain⟨_,_,_,r⟩:=r
  rw[Nat.zero_add,←Array.getElem?_toList,←List.getElem?_take_of_lt (i:=i) (j:=R.length*1) (by omega),r,List.getElem?_map,List.getElem?_eq_getElem hi]
  simp[List.getD,List.getElem?_eq_getElem hi]
theorem lastI6 (zz:Int) (tt j:Nat):lastI 6 zz tt j=[7,(tt:Int),zz,0]++argL tt j:=rfl
theorem endBelow {w W wr X w3:World} {r:Option Nat} (h0:Below w.heap.size w W) (h4:Below W.heap.size W wr) (h1:Below wr.heap.size wr X) (hg:X.grownBy w3 r) (hr:∀k,r=some k→W.heap.size≤k):Below w.heap.size w w3 :=
 below_step h0 ((h4.trans (h1.mono h4.size)).grown hg (Nat.le_trans h4.size h1.size) hr)
structure ValI (B:Nat) (w wr:World) (f:Nat→Nat→Option (List (List Int)×Nat)) (a tt j aj:Nat) (c:List (List Int)) (ov av:Value):Prop where
 sq:seqM f (a+1) tt j=some (c,aj)
 out:InsRow B (fun k=>av.ownBlock=some k) wr ov c
 args:wr.ownsRow B 3 1 av (argL tt j).length ((argL tt j).map (Value.int .i64))
 low:Below B w wr
def ValC (N nf:Nat) (par loc:Nat→Int) (bv:Nat→Value) (f:Value) (n:Nat) (k z:Nat→Int) (fuel:Nat):Prop :=
 ∀(a tt:Nat) (v:Value) (w:World) (L:List (List Int)) (a':Nat),N≤w.heap.size→ToksAt N w v (n - a) (fun i=>k (a+i)) (fun i=>z (a+i))→(∃ad c,v=.slice ad (n - a) c∧n - a≤c)→FunsAt N w f nf par loc bv→n≤1000→tt+3*fuel≤1000000→valM n nf k z par fuel a tt=some (L,a') →
  Calls Tryz.prog 141 #[v,f,.int .i64 tt] w fun e w'=>∃ad cap,e=.returned (.tuple #[.slice ad L.length cap,.int .i64 ((a' - a:Nat):Int)])∧Hid (InsRow w.heap.size (fun _=>False) w' (.slice ad L.length cap) L)∧Hid (Below w.heap.size w w')
set_option maxRecDepth 20000 in
set_option maxHeartbeats 4000000 in
theorem valued_step {N nf:Nat} {par loc:Nat→Int} {bv:Nat→Value} {f:Value} {n:Nat} {k z:Nat→Int} {fuel:Nat} (ih:ValC N nf par loc bv f n k z fuel):ValC N nf par loc bv f n k z (fuel+1):=by
 intro a tt v w L a' hN ht hcap hf hn htt hv
 obtain⟨l1,l2,l3⟩:=valM_len _ _ _ _ hv
 have l1:L.length+a=a':=l1
 have l2:a<a':=l2
 have l3:a'≤n:=l3
 unfold valM at hv
 by_cases hc:a<n∧1≤k a∧k a≤6∧0≤asksOf (k a) (z a) par∧asksOf (k a) (z a) par≤3∧(k a=6→0≤z a∧z a<nf)
 ·rw[if_pos hc]at hv
  obtain⟨h1,h2,h3,h4,h5,h6⟩:=hc
  obtain⟨m,hm⟩:∃m:Nat,asksOf (k a) (z a) par=m:=⟨(asksOf (k a) (z a) par).toNat,by omega⟩
  have hm3:m≤3:=by omega
  rw[hm,Int.toNat_natCast]at hv
  cases hq:seqM (valM n nf k z par fuel) (a+1) tt m with
  | none=>rw[hq]at hv;cases hv
  | some q =>
   rw[hq]at hv
   simp only[Option.map_some,Option.some.injEq,Prod.mk.injEq]at hv
   obtain⟨hLe,hae⟩:=hv
   obtain⟨ad,cap,rfl,hcp⟩:=hcap
   obtain⟨ad',cap',e,_,h0|⟨b,o,rfl,hb,hcell⟩⟩:=id ht
   ·omega
   obtain⟨rfl,-,rfl⟩:=Value.slice.inj e
   obtain⟨fa,fc,rfl,_⟩:=hf.shape
   obtain⟨x0,x1⟩:=hcell 0 (by omega)
   rw[Nat.zero_mul,Nat.add_zero]at x0 x1
   simp only[Nat.add_zero]at x0 x1
   have HAs:Hid (∀wk,Below w.heap.size w wk→Calls Tryz.prog 148 #[.agg #[.int .i64 (k a),.int .i64 (z a)],.slice fa nf fc] wk fun e w'=>e=.returned (.int .i64 m)∧Below wk.heap.size wk w'):=fun wk hk=>by
    have:=refAsks N (k a) (z a) _ nf par loc bv wk (hf.below (hk.mono hN)) (fun h=>by have:=h6 h;omega)
    rw[hm]at this
    exact this
   obtain⟨W,hW⟩:∃W,w.alloc (.cells #[.int .i64 (k a),.int .i64 (z a)] 199)=W:=⟨_,rfl⟩
   have b0:Below w.heap.size w W:=hW ▸ below_alloc w _
   have hni:(0:Int)<((n - a:Nat):Int):=by omega
   have HW:Hid (w.alloc (.cells #[.int .i64 (k a),.int .i64 (z a)] 199)=W):=hW
   have y0:W.cell? ⟨w.heap.size,0,none⟩=some (.int .i64 (k a)):=by rw[←hW,World.cell?_alloc_new];rfl
   have y1:W.cell? ⟨w.heap.size,1,none⟩=some (.int .i64 (z a)):=by rw[←hW,World.cell?_alloc_new];rfl
   have HB0:Hid (Below w.heap.size w W):=b0
   clear hW b0
   obtain⟨nl,hnl⟩:∃nl,n - a=nl:=⟨_,rfl⟩
   rw[hnl]at hni hcp ht ⊢
   go_enter Tryz.func141,Tryz.ntmps141
   go_upto_region 1 with (fail)
   go_upto_region 5 with (fail)
   rw[HW.out]
   go_upto_region 6 with (go_at_call 148;(refine (HAs.out _ HB0.out).mono ?_;rintro e w1 ⟨rfl,hB1'⟩;have HB1:Hid (Below W.heap.size W w1):=hB1';have z0:=below_at hB1' y0;have z1:=below_at hB1' y1;clear hB1'))
   have HS1:Hid (W.heap.size≤w1.heap.size):=HB1.out.size
   go_loopw [9,10,11,22] (fun ov av i kv wr=>∃j aj c,j≤m∧kv=.int .i64 (j:Nat)∧i=.int .i64 ((aj - a:Nat):Int)∧a<aj∧Hid (ValI W.heap.size W wr (valM n nf k z par fuel) a tt j aj c ov av)) (fun _ _ _ kv _=>m - (intOf kv).toNat)
   case atStart=>exact⟨0,a+1,[],Nat.zero_le _,rfl,by rw[show a+1 - a=1 by omega];rfl,by omega,⟨rfl,InsRow.nil _ _ _,⟨rfl,Or.inl ⟨rfl,rfl⟩⟩,HB1.out⟩⟩
   case round =>
    obtain⟨j,aj,c,hj,rfl,rfl,haj,HI⟩:=hrel
    obtain⟨I1,I2,I3,I4⟩:=HI.out
    obtain⟨cl1,cl2⟩:=seqM_len (show a+1≤n by omega) _ _ I1
    have cl1:c.length+(a+1)=aj:=cl1
    have cl2:aj≤n:=cl2
    by_cases hlt:j<m
    ·obtain⟨q1,hq1⟩:=seqM_prefix hq (j+1) (by omega)
     obtain⟨q0,s,hs1,hs2,hs3⟩:=seqM_step hq1
     rw[I1]at hs1
     injection hs1 with hs1
     subst hs1
     obtain⟨s1,s2⟩:=s
     obtain⟨j1,j2,j3⟩:=valM_len _ _ _ _ hs2
     have j1:s1.length+aj=s2:=j1
     have j2:aj<s2:=j2
     have j3:s2≤n:=j3
     have e1:n - aj=nl - (aj - a):=by omega
     have hWw:w.heap.size≤wr.heap.size:=Nat.le_trans (HB0.out.size) I4.size
     have hwr:Below w.heap.size w wr:=below_step HB0.out I4
     have HV:Hid (Calls Tryz.prog 141 #[.slice (some ⟨b,o+(aj - a)*2,none⟩) (nl - (aj - a)) (cap - (aj - a)),.slice fa nf fc,.int .i64 ((tt:Int)+(j:Int))] wr fun e w'=>∃ad cap,e=.returned (.tuple #[.slice ad s1.length cap,.int .i64 ((s2 - aj:Nat):Int)])∧Hid (InsRow wr.heap.size (fun _=>False) w' (.slice ad s1.length cap) s1)∧Hid (Below wr.heap.size wr w')):=by
      have:=ih aj (tt+j) (.slice (some ⟨b,o+(aj - a)*2,none⟩) (nl - (aj - a)) (cap - (aj - a))) wr s1 s2 (by omega) ⟨_,_,by rw[e1],by omega,Or.inr ⟨b,_,rfl,hb,fun i hi=>by
       obtain⟨g0,g1⟩:=hcell (aj - a+i) (by omega)
       rw[show a+(aj - a+i)=aj+i by omega]at g0 g1
       rw[show o+(aj - a)*2+i*2=o+(aj - a+i)*2 by omega]
       exact⟨below_at hwr g0,below_at hwr g1⟩⟩⟩ ⟨_,_,by rw[e1],by omega⟩ (hf.below (hwr.mono hN)) hn (by omega) hs2
      rw[Int.natCast_add]at this
      exact this
     have hs2':=hq1
     have HX:Hid (c.length+(a+1)=aj∧aj≤n∧s1.length+aj=s2∧aj<s2∧s2≤n∧n - a=nl∧L.length+a=a'∧a<a'∧a'≤n):=⟨cl1,cl2,j1,j2,j3,hnl,l1,l2,l3⟩
     have HQ:Hid (seqM (valM n nf k z par fuel) (a+1) tt (j+1)=some (c++s1,s2)):=by rw[hq1];exact congrArg some hs3
     have HI4:Hid (Below W.heap.size W wr):=I4
     have HI3:Hid (wr.ownsRow W.heap.size 3 1 u10 (argL tt j).length ((argL tt j).map (Value.int .i64))):=I3
     have HI2:Hid (InsRow W.heap.size (fun kk=>u10.ownBlock=some kk) wr u9 c):=I2
     have hd1:aj - a<nl:=by omega
     have hd2:aj - a≤1000:=by omega
     have hs1n:s2 - aj≤1000:=by omega
     have htj:tt+j≤1000000:=by omega
     clear hs2' cl1 cl2 j1 j2 j3 hnl l1 l2 l3 hq1 hs3 I1 I2 I3 I4 e1 hWw hwr hs2 hcell
     obtain⟨d,hd⟩:∃d,aj - a=d:=⟨_,rfl⟩
     have HD:Hid (aj - a=d):=hd
     obtain⟨u,hu⟩:∃u,s2 - aj=u:=⟨_,rfl⟩
     have HU:Hid (s2 - aj=u):=hu
     rw[hd,hu]at HV
     rw[hd]at hd1 hd2 ⊢
     rw[hu]at hs1n
     clear hd hu
     go_upto_region 8 with (fail)
     go_upto_region 9 with (go_at_call 141;go_loud (refine HV.out.mono ?_;rintro e w2 ⟨ad1,cp1,rfl,HR1,HB2⟩))
     have HR2:Hid (InsRow wr.heap.size (fun k=>u10.ownBlock=some k) w2 (.slice ad1 s1.length cp1) s1):=HR1.out.lower (Nat.le_refl _) fun k hk e=>by have:=(HI3.out.lt k e).2;omega
     have HI5:Hid (InsRow W.heap.size (fun k=>u10.ownBlock=some k) w2 u9 c):=HI2.out.below HB2.out
     have HI6:Hid (w2.ownsRow W.heap.size 3 1 u10 (argL tt j).length ((argL tt j).map (Value.int .i64))):=ownsRow_block HI3.out fun k hk=>HB2.out.block k (HI3.out.lt k hk).2
     have HB3:Hid (Below W.heap.size W w2):=HI4.out.trans (HB2.out.mono HI4.out.size)
     have hs10:¬s1.length=0:=by have:=HX.out;omega
     have hcs:c.length+s1.length≤100000:=by have:=HX.out;omega
     have hjl:(argL tt j).length≤100000:=by rw[argL_len];omega
     go_wp2_with (first
      | (at_builtin;refine append_insR _ rfl _ _ rfl W.heap.size wr.heap.size _ u9 _ c s1 rfl rfl HI5.out HR2.out HI4.out.size hs10 hcs HB3.out.size ?_;intro ad3 cp3 w3 HI7 HG3;have HI8:Hid (w3.ownsRow W.heap.size 3 1 u10 (argL tt j).length ((argL tt j).map (Value.int .i64))):=ownsRow_block HI6.out fun k hk=>HG3.out.block k (HI6.out.lt k hk).2 (fun e=>by obtain⟨its,cc,_,_⟩:=HI5.out;exact ownsRow_apart cc.1 HI6.out (by decide) e.symm hk))
      | (at_builtin;refine append_intA w3 rfl _ _ rfl W.heap.size u10 (argL tt j) rfl HI8.out _ _ _ rfl rfl hjl (Nat.le_trans HB3.out.size HG3.out.size) ?_;intro ad4 cp4 w4 HO))
     go_roundw
     case rel =>
      obtain⟨g1,g2,g3⟩:=HO.out
      refine⟨j+1,s2,c++s1,by omega,by go_num,?_,by have:=HX.out;omega,⟨HQ.out,?_,?_,?_⟩⟩
      ·have h1:=HX.out;have h2:=HD.out;have h3:=HU.out
       rw[show ((s2 - a:Nat):Int)=(d:Int)+(u:Int) by omega]
      ·exact argsNext HI7.out HI8.out g2 g3
      ·rw[argL_succ];exact g1
      ·have b3:Below W.heap.size W w3:=HB3.out.grown HG3.out HB3.out.size (fun k hk=>by obtain⟨its,cc,_,_⟩:=HI5.out;exact (cc.1.lt k hk).1)
       exact (b3.trans ((below_alloc w3 _).mono b3.size)).grown g2 (Nat.le_trans b3.size (below_alloc w3 _).size) (fun k hk=>(HI8.out.lt k hk).1)
     case measure=>simp[intOf];omega
    ·obtain rfl:j=m:=by omega
     rw[I1]at hq
     injection hq with hq
     subst hq
     have t0:=below_at I4 y0
     have t1:=below_at I4 y1
     have hW8:w.heap.size<wr.heap.size:=Nat.lt_of_lt_of_le (cell_lt y0) I4.size
     have HX:Hid (c.length+(a+1)=aj∧aj≤n∧n - a=nl∧L.length+a=a'∧a<a'∧a'≤n∧aj=a'∧c++[lastI (k a) (z a) tt j]=L):=⟨cl1,cl2,hnl,l1,l2,l3,hae,hLe⟩
     have HI4:Hid (Below W.heap.size W wr):=I4
     have HI3:Hid (wr.ownsRow W.heap.size 3 1 u10 (argL tt j).length ((argL tt j).map (Value.int .i64))):=I3
     have HI2:Hid (InsRow W.heap.size (fun kk=>u10.ownBlock=some kk) wr u9 c):=I2
     clear cl1 cl2 hnl l1 l2 l3 hae hLe I1 I2 I3 I4 hcell z0 z1 hlt
     obtain⟨zz,hzz⟩:∃zz,z a=zz:=⟨_,rfl⟩
     obtain⟨kk,hkk⟩:∃kk,k a=kk:=⟨_,rfl⟩
     rw[hzz]at t1
     rw[hkk]at t0 h2 h3
     have hc1:c.length+1≤100000:=by have:=HX.out;omega
     have hS:=HI4.out.size
     have HKK:Hid (k a=kk):=hkk
     have HZZ:Hid (z a=zz):=hzz
     rw[hkk]at h6
     clear hkk hzz
     by_cases e1:kk=1
     ·subst e1
      go_upto_region 25 with (fail)
      go_wp2_with (first|(at_builtin;go_loud (refine append_insR _ rfl _ _ rfl W.heap.size W.heap.size (fun _=>False) u9 _ c [lastI 1 zz tt j] rfl rfl ((HI2.out.reno fun _ _ e=>e.elim).below (below_step (below_alloc _ _) (below_alloc _ _))) (by rw[show lastI 1 zz tt j=[1,(tt:Int),zz,0]++[] from rfl];exact insOne 1 (tt:Int) zz 0 (.slice none 0 0) [] (by simp) (Nat.le_trans hS (below_alloc _ _).size) ⟨_,_,rfl,by simp,Or.inl rfl⟩ (fun k hk=>(argB_none hk).elim)) (Nat.le_refl _) (by simp) hc1 (Nat.le_trans hS (Nat.le_trans (below_alloc _ _).size (below_alloc _ _).size)) ?_;intro ad3 cp3 w3 HI7 HG3)))
      go_ret2
      obtain⟨x1,x2,x3,x4,x5,x6,x7,x8⟩:=HX.out
      subst x7
      rw[←x8,HKK.out,HZZ.out,List.length_append]
      refine⟨_,_,rfl,?_,?_⟩
      ·exact HI7.out.lower HB0.out.size (fun _ _ e=>e)
      ·exact endBelow HB0.out HI4.out (below_step (below_alloc _ _) (below_alloc _ _)) HG3.out fun k hk=>by obtain⟨its,cc,_,_⟩:=HI2.out;exact (cc.1.lt k hk).1
     by_cases e2:kk=2
     ·subst e2
      go_upto_region 25 with (fail)
      go_wp2_with (first|(at_builtin;go_loud (refine append_insR _ rfl _ _ rfl W.heap.size W.heap.size (fun _=>False) u9 _ c [lastI 2 zz tt j] rfl rfl ((HI2.out.reno fun _ _ e=>e.elim).below (below_step (below_alloc _ _) (below_alloc _ _))) (by rw[show lastI 2 zz tt j=[2,(tt:Int),zz,0]++[] from rfl];exact insOne 2 (tt:Int) zz 0 (.slice none 0 0) [] (by simp) (Nat.le_trans hS (below_alloc _ _).size) ⟨_,_,rfl,by simp,Or.inl rfl⟩ (fun k hk=>(argB_none hk).elim)) (Nat.le_refl _) (by simp) hc1 (Nat.le_trans hS (Nat.le_trans (below_alloc _ _).size (below_alloc _ _).size)) ?_;intro ad3 cp3 w3 HI7 HG3)))
      go_ret2
      obtain⟨x1,x2,x3,x4,x5,x6,x7,x8⟩:=HX.out
      subst x7
      rw[←x8,HKK.out,HZZ.out,List.length_append]
      refine⟨_,_,rfl,?_,?_⟩
      ·exact HI7.out.lower HB0.out.size (fun _ _ e=>e)
      ·exact endBelow HB0.out HI4.out (below_step (below_alloc _ _) (below_alloc _ _)) HG3.out fun k hk=>by obtain⟨its,cc,_,_⟩:=HI2.out;exact (cc.1.lt k hk).1
     by_cases e5:kk=5
     ·subst e5
      go_upto_region 25 with (fail)
      go_wp2_with (first|(at_builtin;go_loud (refine append_insR _ rfl _ _ rfl W.heap.size W.heap.size (fun _=>False) u9 _ c [lastI 5 zz tt j] rfl rfl ((HI2.out.reno fun _ _ e=>e.elim).below (below_step (below_alloc _ _) (below_alloc _ _))) (by rw[show lastI 5 zz tt j=[5,(tt:Int),zz,0]++[] from rfl];exact insOne 5 (tt:Int) zz 0 (.slice none 0 0) [] (by simp) (Nat.le_trans hS (below_alloc _ _).size) ⟨_,_,rfl,by simp,Or.inl rfl⟩ (fun k hk=>(argB_none hk).elim)) (Nat.le_refl _) (by simp) hc1 (Nat.le_trans hS (Nat.le_trans (below_alloc _ _).size (below_alloc _ _).size)) ?_;intro ad3 cp3 w3 HI7 HG3)))
      go_ret2
      obtain⟨x1,x2,x3,x4,x5,x6,x7,x8⟩:=HX.out
      subst x7
      rw[←x8,HKK.out,HZZ.out,List.length_append]
      refine⟨_,_,rfl,?_,?_⟩
      ·exact HI7.out.lower HB0.out.size (fun _ _ e=>e)
      ·exact endBelow HB0.out HI4.out (below_step (below_alloc _ _) (below_alloc _ _)) HG3.out fun k hk=>by obtain⟨its,cc,_,_⟩:=HI2.out;exact (cc.1.lt k hk).1
     by_cases e4:kk=4
     ·subst e4
      go_upto_region 25 with (fail)
      go_wp2_with (first|(at_builtin;go_loud (refine append_insR _ rfl _ _ rfl W.heap.size W.heap.size (fun _=>False) u9 _ c [lastI 4 zz tt j] rfl rfl ((HI2.out.reno fun _ _ e=>e.elim).below (below_step (below_alloc _ _) (below_alloc _ _))) (by rw[show lastI 4 zz tt j=[4,(tt:Int),(tt:Int),zz]++[] from rfl];exact insOne 4 (tt:Int) (tt:Int) zz (.slice none 0 0) [] (by simp) (Nat.le_trans hS (below_alloc _ _).size) ⟨_,_,rfl,by simp,Or.inl rfl⟩ (fun k hk=>(argB_none hk).elim)) (Nat.le_refl _) (by simp) hc1 (Nat.le_trans hS (Nat.le_trans (below_alloc _ _).size (below_alloc _ _).size)) ?_;intro ad3 cp3 w3 HI7 HG3)))
      go_ret2
      obtain⟨x1,x2,x3,x4,x5,x6,x7,x8⟩:=HX.out
      subst x7
      rw[←x8,HKK.out,HZZ.out,List.length_append]
      refine⟨_,_,rfl,?_,?_⟩
      ·exact HI7.out.lower HB0.out.size (fun _ _ e=>e)
      ·exact endBelow HB0.out HI4.out (below_step (below_alloc _ _) (below_alloc _ _)) HG3.out fun k hk=>by obtain⟨its,cc,_,_⟩:=HI2.out;exact (cc.1.lt k hk).1
     by_cases e3:kk=3
     ·subst e3
      go_upto_region 25 with (fail)
      go_wp2_with (first|(at_builtin;go_loud (refine append_insR _ rfl _ _ rfl W.heap.size W.heap.size (fun _=>False) u9 _ c [lastI 3 zz tt j] rfl rfl ((HI2.out.reno fun _ _ e=>e.elim).below (below_step (below_step (below_alloc _ _) (below_alloc _ _)) (below_alloc _ _))) (by rw[show lastI 3 zz tt j=[3,(tt:Int),(tt:Int),(tt:Int)+1]++[zz] from rfl];exact insOne 3 (tt:Int) (tt:Int) ((tt:Int)+1) (.slice (some ⟨wr.heap.size+1,0,none⟩) 1 1) [zz] (by simp) (Nat.le_trans hS (Nat.le_trans (below_alloc _ _).size (below_alloc _ _).size)) (argsOne _ zz 3 (by simp)) (fun k hk=>by obtain⟨_,_,_,e⟩:=hk;injection e with e _ _;injection e with e;injection e with e _ _;subst e;exact⟨by omega,by simp,fun e=>e⟩)) (Nat.le_refl _) (by simp) hc1 (Nat.le_trans hS (Nat.le_trans (Nat.le_trans (below_alloc _ _).size (below_alloc _ _).size) (below_alloc _ _).size)) ?_;intro ad3 cp3 w3 HI7 HG3)))
      go_ret2
      obtain⟨x1,x2,x3,x4,x5,x6,x7,x8⟩:=HX.out
      subst x7
      rw[←x8,HKK.out,HZZ.out,List.length_append]
      refine⟨_,_,rfl,?_,?_⟩
      ·exact HI7.out.lower HB0.out.size (fun _ _ e=>e)
      ·exact endBelow HB0.out HI4.out (below_step (below_step (below_alloc _ _) (below_alloc _ _)) (below_alloc _ _)) HG3.out fun k hk=>by obtain⟨its,cc,_,_⟩:=HI2.out;exact (cc.1.lt k hk).1
     obtain rfl:kk=6:=by omega
     obtain⟨pa,pc,e10⟩:=own_shape HI3.out
     subst e10
     have hjl:(argL tt j).length≤100000:=by rw[argL_len];omega
     go_upto_region 25 with (fail)
     go_wp2_with (first|(at_builtin;go_loud (refine append_insR _ rfl _ _ rfl W.heap.size W.heap.size (fun _=>False) u9 _ c [lastI 6 zz tt j] rfl rfl ((HI2.out.reno fun _ _ e=>e.elim).below (below_step (below_alloc _ _) (below_alloc _ _))) (by rw[lastI6];exact insOne 7 (tt:Int) zz 0 _ (argL tt j) (by simp) (Nat.le_trans hS (below_alloc _ _).size) (argsRow (ownsRow_block HI3.out fun k hk=>(below_alloc _ _).block k (HI3.out.lt k hk).2)) (fun k hk=>by obtain⟨_,_,_,e⟩:=hk;exact⟨(HI3.out.lt k (by rw[e];rfl)).1,Nat.lt_of_lt_of_le (HI3.out.lt k (by rw[e];rfl)).2 (below_alloc _ _).size,fun e=>e⟩)) (Nat.le_refl _) (by simp) hc1 (Nat.le_trans hS (Nat.le_trans (below_alloc _ _).size (below_alloc _ _).size)) ?_;intro ad3 cp3 w3 HI7 HG3)))
     go_ret2
     obtain⟨x1,x2,x3,x4,x5,x6,x7,x8⟩:=HX.out
     subst x7
     rw[←x8,HKK.out,HZZ.out,List.length_append]
     refine⟨_,_,rfl,?_,?_⟩
     ·exact HI7.out.lower HB0.out.size (fun _ _ e=>e)
     ·exact endBelow HB0.out HI4.out (below_step (below_alloc _ _) (below_alloc _ _)) HG3.out fun k hk=>by obtain⟨its,cc,_,_⟩:=HI2.out;exact (cc.1.lt k hk).1
 ·rw[if_neg hc]at hv;cases hv
theorem valuedC {N nf:Nat} {par loc:Nat→Int} {bv:Nat→Value} {f:Value} {n:Nat} {k z:Nat→Int}:∀fuel,ValC N nf par loc bv f n k z fuel
 | 0=>by
  intro a tt v w L a' _ _ _ _ _ _ hv
  cases hv
 | fuel+1=>valued_step (valuedC fuel)
end
end Go.Proofs.YtfaokaohhchdhaaGreatDoor
