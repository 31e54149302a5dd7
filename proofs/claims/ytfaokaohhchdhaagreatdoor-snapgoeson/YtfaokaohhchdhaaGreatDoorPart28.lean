/- Images of states in plain Lean: what is written, how a row of numbers is read. No Go in it. -/
import Derived.Test.YtfaokaohhchdhaaGreatDoorPart27
namespace Go.Proofs.YtfaokaohhchdhaaGreatDoor
section
def pairZs (L:List (Int×Int)):List Int:=L.flatMap fun v=>[v.1,v.2]
def rowZs (L:List (Int×Int)):List Int:=(L.length:Int)::pairZs L
def frZs (f:Fm):List Int:=f.proc::f.pos::f.to::rowZs f.regs
def staZs (S:Sta):List Int:=S.st::S.wh::(S.fs.length:Int)::(S.fs.flatMap frZs++(S.cs.length:Int)::S.cs.flatMap rowZs)
structure SnRd where
 l:List Int
 t:Bool
def snN (r:SnRd):Int×SnRd:=match r.l with
 | []=>(0,⟨[],true⟩)
 | a::l=>(a,⟨l,r.t⟩)
def snC (most:Nat) (r:SnRd):Nat×SnRd :=
 if (snN r).1<0∨(most:Int)<(snN r).1 then (0,⟨(snN r).2.l,true⟩) else ((snN r).1.toNat,(snN r).2)
def snVals:Nat→SnRd→List (Int×Int)×SnRd
 | 0,r=>([],r)
 | k+1,r=>((snVals k r).1++[((snN (snVals k r).2).1,(snN (snN (snVals k r).2).2).1)],(snN (snN (snVals k r).2).2).2)
def snRow (most:Nat) (r:SnRd):List (Int×Int)×SnRd:=snVals (snC most r).1 (snC most r).2
def snFrm (r:SnRd):Fm×SnRd :=
 (⟨(snN r).1,(snN (snN r).2).1,(snRow 40 (snN (snN (snN r).2).2).2).1,(snN (snN (snN r).2).2).1⟩,(snRow 40 (snN (snN (snN r).2).2).2).2)
def snFrs:Nat→SnRd→List Fm×SnRd
 | 0,r=>([],r)
 | k+1,r=>((snFrs k r).1++[(snFrm (snFrs k r).2).1],(snFrm (snFrs k r).2).2)
def snCls:Nat→SnRd→List (List (Int×Int))×SnRd
 | 0,r=>([],r)
 | k+1,r=>((snCls k r).1++[(snRow 4 (snCls k r).2).1],(snRow 4 (snCls k r).2).2)
def snSta1 (r:SnRd):Nat×SnRd:=snC 10 (snN (snN r).2).2
def snSta2 (r:SnRd):Nat×SnRd:=snC 24 (snFrs (snSta1 r).1 (snSta1 r).2).2
def snSta (r:SnRd):Sta×SnRd :=
 (⟨(snFrs (snSta1 r).1 (snSta1 r).2).1,(snCls (snSta2 r).1 (snSta2 r).2).1,(snN r).1,(snN (snN r).2).1⟩,(snCls (snSta2 r).1 (snSta2 r).2).2)
theorem snN_cons (a:Int) (l:List Int) (t:Bool):snN ⟨a::l,t⟩=(a,⟨l,t⟩):=rfl
theorem snC_cons {most n:Nat} (h:n≤most) (l:List Int) (t:Bool):snC most ⟨(n:Int)::l,t⟩=(n,⟨l,t⟩):=by
 unfold snC
 rw[snN_cons,if_neg (by simp only[];omega)]
 simp
theorem snVals_text (L:List (Int×Int)) (z:List Int) (t:Bool):∀k,k≤L.length→snVals k ⟨pairZs L++z,t⟩=(L.take k,⟨pairZs (L.drop k)++z,t⟩)
 | 0,_=>by simp[snVals]
 | k+1,hk=>by
  rw[snVals,snVals_text L z t k (by omega)]
  have hd:L.drop k=L[k]::L.drop (k+1):=List.drop_eq_getElem_cons (by omega)
  simp only[hd]
  have e:pairZs (L[k]::L.drop (k+1))++z=L[k].1::L[k].2::(pairZs (L.drop (k+1))++z):=rfl
  rw[e,snN_cons]
  simp only[snN_cons]
  rw[List.take_succ_eq_append_getElem (by omega)]
theorem snRow_text {most:Nat} {L:List (Int×Int)} (h:L.length≤most) (z:List Int) (t:Bool):snRow most ⟨rowZs L++z,t⟩=(L,⟨z,t⟩):=by
 unfold snRow
 have e:rowZs L++z=(L.length:Int)::(pairZs L++z):=rfl
 rw[e,snC_cons h]
 simp only[]
 rw[snVals_text L z t _ (Nat.le_refl _)]
 simp[pairZs]
theorem snFrm_text {f:Fm} (h:f.regs.length≤40) (z:List Int) (t:Bool):snFrm ⟨frZs f++z,t⟩=(f,⟨z,t⟩):=by
 unfold snFrm
 have e:frZs f++z=f.proc::f.pos::f.to::(rowZs f.regs++z):=rfl
 rw[e]
 simp only[snN_cons]
 rw[snRow_text h]
theorem snFrs_text (L:List Fm) (z:List Int) (t:Bool) (h:∀f,f ∈ L→f.regs.length≤40):∀k,k≤L.length→snFrs k ⟨L.flatMap frZs++z,t⟩=(L.take k,⟨(L.drop k).flatMap frZs++z,t⟩)
 | 0,_=>by simp[snFrs]
 | k+1,hk=>by
  rw[snFrs,snFrs_text L z t h k (by omega)]
  have hd:L.drop k=L[k]::L.drop (k+1):=List.drop_eq_getElem_cons (by omega)
  simp only[hd]
  have e:(L[k]::L.drop (k+1)).flatMap frZs++z=frZs L[k]++((L.drop (k+1)).flatMap frZs++z):=by rw[List.flatMap_cons,List.append_assoc]
  rw[e,snFrm_text (h _ (List.getElem_mem _))]
  simp only[]
  rw[List.take_succ_eq_append_getElem (by omega)]
theorem snCls_text (L:List (List (Int×Int))) (z:List Int) (t:Bool) (h:∀f,f ∈ L→f.length≤4):∀k,k≤L.length→snCls k ⟨L.flatMap rowZs++z,t⟩=(L.take k,⟨(L.drop k).flatMap rowZs++z,t⟩)
 | 0,_=>by simp[snCls]
 | k+1,hk=>by
  rw[snCls,snCls_text L z t h k (by omega)]
  have hd:L.drop k=L[k]::L.drop (k+1):=List.drop_eq_getElem_cons (by omega)
  simp only[hd]
  have e:(L[k]::L.drop (k+1)).flatMap rowZs++z=rowZs L[k]++((L.drop (k+1)).flatMap rowZs++z):=by rw[List.flatMap_cons,List.append_assoc]
  rw[e,snRow_text (h _ (List.getElem_mem _))]
  simp only[]
  rw[List.take_succ_eq_append_getElem (by omega)]
structure SnSmall (S:Sta):Prop where
 f:S.fs.length≤10
 r:∀f,f ∈ S.fs→f.regs.length≤40
 c:S.cs.length≤24
 v:∀c,c ∈ S.cs→c.length≤4
theorem snSta_text {S:Sta} (h:SnSmall S) (z:List Int) (t:Bool):snSta ⟨staZs S++z,t⟩=(S,⟨z,t⟩):=by
 have e:staZs S++z=S.st::S.wh::(S.fs.length:Int)::(S.fs.flatMap frZs++((S.cs.length:Int)::(S.cs.flatMap rowZs++z))):=by unfold staZs;simp[List.append_assoc]
 have h1:snSta1 ⟨staZs S++z,t⟩=(S.fs.length,⟨S.fs.flatMap frZs++((S.cs.length:Int)::(S.cs.flatMap rowZs++z)),t⟩):=by
  unfold snSta1
  rw[e]
  simp only[snN_cons]
  rw[snC_cons h.f]
 have h2:snFrs S.fs.length ⟨S.fs.flatMap frZs++((S.cs.length:Int)::(S.cs.flatMap rowZs++z)),t⟩=(S.fs,⟨(S.cs.length:Int)::(S.cs.flatMap rowZs++z),t⟩):=by
  rw[snFrs_text _ _ _ h.r _ (Nat.le_refl _)]
  simp
 have h3:snSta2 ⟨staZs S++z,t⟩=(S.cs.length,⟨S.cs.flatMap rowZs++z,t⟩):=by
  unfold snSta2
  rw[h1]
  simp only[h2]
  rw[snC_cons h.c]
 have h4:snCls S.cs.length ⟨S.cs.flatMap rowZs++z,t⟩=(S.cs,⟨z,t⟩):=by
  rw[snCls_text _ _ _ h.v _ (Nat.le_refl _)]
  simp
 unfold snSta
 rw[h1,h3]
 simp only[h2,h4]
 rw[e]
 simp only[snN_cons]
theorem snN_back {r:SnRd} {a:Int} {z:List Int} (h:snN r=(a,⟨z,false⟩)):r=⟨a::z,false⟩:=by
 obtain⟨l,t⟩:=r
 cases l with
 | nil=>unfold snN at h;simp at h
 | cons b l=>unfold snN at h;simp at h;obtain⟨rfl,rfl,rfl⟩:=h;rfl
theorem snC_back {most n:Nat} {r:SnRd} {z:List Int} (h:snC most r=(n,⟨z,false⟩)):r=⟨(n:Int)::z,false⟩∧n≤most:=by
 unfold snC at h
 split at h
 ·simp at h
 ·rename_i hh
  obtain⟨h1,h2⟩:=Prod.mk.inj h
  have e:snN r=((n:Int),⟨z,false⟩):=Prod.ext (by omega) h2
  exact⟨snN_back e,by omega⟩
theorem snVals_back:∀ {k:Nat} {r:SnRd} {L:List (Int×Int)} {z:List Int},snVals k r=(L,⟨z,false⟩)→r=⟨pairZs L++z,false⟩∧L.length=k
 | 0,r,L,z,h=>by
  unfold snVals at h
  obtain⟨rfl,rfl⟩:=Prod.mk.inj h
  exact⟨rfl,rfl⟩
 | k+1,r,L,z,h=>by
  rw[snVals]at h
  obtain⟨h1,h2⟩:=Prod.mk.inj h
  have e2:=snN_back (r:=(snN (snVals k r).2).2) (a:=(snN (snN (snVals k r).2).2).1) (z:=z) (Prod.ext rfl h2)
  have e1:=snN_back (r:=(snVals k r).2) (a:=(snN (snVals k r).2).1) (z:=(snN (snN (snVals k r).2).2).1::z) (Prod.ext rfl e2)
  obtain⟨e0,hl⟩:=snVals_back (k:=k) (r:=r) (L:=(snVals k r).1) (z:=(snN (snVals k r).2).1::(snN (snN (snVals k r).2).2).1::z) (Prod.ext rfl e1)
  rw[←h1]
  exact⟨e0.trans (congrArg (fun l=>SnRd.mk l false) (by simp[pairZs])),by simp[hl]⟩
theorem snRow_back {most:Nat} {r:SnRd} {L:List (Int×Int)} {z:List Int} (h:snRow most r=(L,⟨z,false⟩)):r=⟨rowZs L++z,false⟩∧L.length≤most:=by
 unfold snRow at h
 obtain⟨e1,hl⟩:=snVals_back h
 obtain⟨e0,hm⟩:=snC_back (n:=(snC most r).1) (z:=pairZs L++z) (Prod.ext rfl e1)
 refine⟨?_,by omega⟩
 rw[e0,←hl]
 rfl
theorem snFrm_back {r:SnRd} {f:Fm} {z:List Int} (h:snFrm r=(f,⟨z,false⟩)):r=⟨frZs f++z,false⟩∧f.regs.length≤40:=by
 unfold snFrm at h
 obtain⟨h1,h2⟩:=Prod.mk.inj h
 obtain⟨e3,hl⟩:=snRow_back (L:=(snRow 40 (snN (snN (snN r).2).2).2).1) (z:=z) (Prod.ext rfl h2)
 have e2:=snN_back (a:=(snN (snN (snN r).2).2).1) (Prod.ext rfl e3)
 have e1:=snN_back (a:=(snN (snN r).2).1) (Prod.ext rfl e2)
 have e0:=snN_back (a:=(snN r).1) (Prod.ext rfl e1)
 rw[←h1]
 exact⟨e0,hl⟩
theorem snFrs_back:∀ {k:Nat} {r:SnRd} {L:List Fm} {z:List Int},snFrs k r=(L,⟨z,false⟩)→r=⟨L.flatMap frZs++z,false⟩∧L.length=k∧∀f,f ∈ L→f.regs.length≤40
 | 0,r,L,z,h=>by
  unfold snFrs at h
  obtain⟨rfl,rfl⟩:=Prod.mk.inj h
  exact⟨rfl,rfl,fun f hf=>by cases hf⟩
 | k+1,r,L,z,h=>by
  rw[snFrs]at h
  obtain⟨h1,h2⟩:=Prod.mk.inj h
  obtain⟨e1,hl1⟩:=snFrm_back (f:=(snFrm (snFrs k r).2).1) (z:=z) (Prod.ext rfl h2)
  obtain⟨e0,hl,hm⟩:=snFrs_back (k:=k) (r:=r) (L:=(snFrs k r).1) (Prod.ext rfl e1)
  rw[←h1]
  refine⟨e0.trans (congrArg (fun l=>SnRd.mk l false) (by simp)),by simp[hl],fun f hf=>?_⟩
  ·rcases List.mem_append.1 hf with hf|hf
   ·exact hm f hf
   ·rw[List.mem_singleton]at hf;subst hf;exact hl1
theorem snCls_back:∀ {k:Nat} {r:SnRd} {L:List (List (Int×Int))} {z:List Int},snCls k r=(L,⟨z,false⟩)→r=⟨L.flatMap rowZs++z,false⟩∧L.length=k∧∀f,f ∈ L→f.length≤4
 | 0,r,L,z,h=>by
  unfold snCls at h
  obtain⟨rfl,rfl⟩:=Prod.mk.inj h
  exact⟨rfl,rfl,fun f hf=>by cases hf⟩
 | k+1,r,L,z,h=>by
  rw[snCls]at h
  obtain⟨h1,h2⟩:=Prod.mk.inj h
  obtain⟨e1,hl1⟩:=snRow_back (L:=(snRow 4 (snCls k r).2).1) (z:=z) (Prod.ext rfl h2)
  obtain⟨e0,hl,hm⟩:=snCls_back (k:=k) (r:=r) (L:=(snCls k r).1) (Prod.ext rfl e1)
  rw[←h1]
  refine⟨e0.trans (congrArg (fun l=>SnRd.mk l false) (by simp)),by simp[hl],fun f hf=>?_⟩
  ·rcases List.mem_append.1 hf with hf|hf
   ·exact hm f hf
   ·rw[List.mem_singleton]at hf;subst hf;exact hl1
theorem snSta_back {r:SnRd} {S:Sta} {z:List Int} (h:snSta r=(S,⟨z,false⟩)):r=⟨staZs S++z,false⟩∧SnSmall S:=by
 unfold snSta at h
 obtain⟨h1,h2⟩:=Prod.mk.inj h
 obtain⟨e4,hl4,hm4⟩:=snCls_back (L:=(snCls (snSta2 r).1 (snSta2 r).2).1) (z:=z) (Prod.ext rfl h2)
 obtain⟨e3,hb3⟩:=snC_back (most:=24) (n:=(snSta2 r).1) (r:=(snFrs (snSta1 r).1 (snSta1 r).2).2) (Prod.ext rfl e4)
 obtain⟨e2,hl2,hm2⟩:=snFrs_back (L:=(snFrs (snSta1 r).1 (snSta1 r).2).1) (Prod.ext rfl e3)
 obtain⟨e1,hb1⟩:=snC_back (most:=10) (n:=(snSta1 r).1) (r:=(snN (snN r).2).2) (Prod.ext rfl e2)
 have e0:=snN_back (a:=(snN (snN r).2).1) (Prod.ext rfl e1)
 have e:=snN_back (a:=(snN r).1) (Prod.ext rfl e0)
 rw[←h1]
 refine⟨?_,⟨by simp only[];omega,hm2,by simp only[];omega,hm4⟩⟩
 refine e.trans ?_
 unfold staZs
 simp only[hl2,hl4]
 simp[List.append_assoc]
theorem torn_less {S:Sta} (hS:SnSmall S) {k:Nat} (hk:k<(staZs S).length):¬ ∃T,snSta ⟨(staZs S).take k,false⟩=(T,⟨[],false⟩):=by
 rintro⟨T,h⟩
 obtain⟨e,hT⟩:=snSta_back h
 rw[List.append_nil]at e
 have e':(staZs S).take k=staZs T:=by injection e
 have h1:=snSta_text hT ((staZs S).drop k) false
 rw[←e',List.take_append_drop]at h1
 have h2:=snSta_text hS [] false
 rw[List.append_nil,h1]at h2
 have h3:=(Prod.mk.inj h2).2
 have h4:(staZs S).drop k=[]:=by injection h3
 have:=congrArg List.length h4
 rw[List.length_drop]at this
 simp at this
 omega
def snNone:Sta:=⟨[],[],0,0⟩
open Classical in
noncomputable def unpErr (np:Nat) (P:Nat→Pc) (l:List Int):Int :=
 if 1200<l.length then 2
 else if (snSta ⟨l,false⟩).2.t=true∨¬(snSta ⟨l,false⟩).2.l=[] then 8
 else if ¬vmErr np P (snSta ⟨l,false⟩).1=0 then vmErr np P (snSta ⟨l,false⟩).1
 else if ¬(snSta ⟨l,false⟩).1=sweptS (snSta ⟨l,false⟩).1 then 4
 else 0
open Classical in
noncomputable def unpSta (np:Nat) (P:Nat→Pc) (l:List Int):Sta:=if unpErr np P l=0 then (snSta ⟨l,false⟩).1 else snNone
theorem pairZs_len (L:List (Int×Int)):(pairZs L).length=2*L.length:=by
 induction L with
 | nil=>rfl
 | cons a L ih=>show (a.1::a.2::pairZs L).length=_;simp only[List.length_cons,ih];omega
theorem flat_le {α:Type} {f:α→List Int} {c:Nat}:∀ {L:List α},(∀x,x ∈ L→(f x).length≤c)→(L.flatMap f).length≤L.length*c
 | [],_=>by simp
 | a::L,h=>by
  have ih:=flat_le (f:=f) (c:=c) (L:=L) fun x hx=>h x (List.mem_cons_of_mem _ hx)
  have h0:=h a (List.mem_cons_self ..)
  rw[List.flatMap_cons,List.length_append,List.length_cons,Nat.succ_mul]
  omega
theorem staZs_len {S:Sta} (h:SnSmall S):(staZs S).length≤1060:=by
 have h1:(S.fs.flatMap frZs).length≤S.fs.length*84:=flat_le fun f hf=>by
  have:=h.r f hf
  show (f.proc::f.pos::f.to::(f.regs.length:Int)::pairZs f.regs).length≤84
  simp only[List.length_cons,pairZs_len];omega
 have h2:(S.cs.flatMap rowZs).length≤S.cs.length*9:=flat_le fun c hc=>by
  have:=h.v c hc
  show ((c.length:Int)::pairZs c).length≤9
  simp only[List.length_cons,pairZs_len];omega
 have:=h.f
 have:=h.c
 unfold staZs
 simp only[List.length_cons,List.length_append]
 have:S.fs.length*84≤10*84:=Nat.mul_le_mul_right _ (by omega)
 have:S.cs.length*9≤24*9:=Nat.mul_le_mul_right _ (by omega)
 omega
section
variable {np:Nat} {P:Nat→Pc}
theorem StaOK.small (hc:CodeOK np P) {S:Sta} (h:StaOK np P S):SnSmall S:=by
 refine⟨h.few,fun f hf=>?_,h.cn,fun c hcs=>h.cells.hi c hcs⟩
 obtain⟨i,hi,rfl⟩:=List.mem_iff_getElem.1 hf
 have k:=h.frames i hi
 have e:fmAt S.fs i=S.fs[i]:=by unfold fmAt;simp[hi]
 rw[e]at k
 have hpn:S.fs[i].proc.toNat<np:=by have:=k.p0;have:=k.p1;omega
 have:=hc.r1 _ hpn
 have:=k.len
 omega
theorem unp_image (hc:CodeOK np P) (he:codeErr np P=0) {S:Sta} (h:StaOK np P S):unpErr np P (staZs (sweptS S))=0∧unpSta np P (staZs (sweptS S))=sweptS S:=by
 have ho:=h.swept hc
 have hs:=ho.small hc
 have h1:=snSta_text hs [] false
 rw[List.append_nil]at h1
 have hl:=staZs_len hs
 have hz:unpErr np P (staZs (sweptS S))=0:=by
  unfold unpErr
  rw[if_neg (by omega),h1]
  simp only[]
  rw[if_neg (by simp)]
  have hv:vmErr np P (sweptS S)=0:=by unfold vmErr;rw[if_pos he];exact staErr_zero.2 ho
  rw[if_neg (by simp[hv]),if_neg (by simp[sweptS_twice hc h])]
 refine⟨hz,?_⟩
 unfold unpSta
 rw[if_pos hz,h1]
theorem unp_less (hc:CodeOK np P) {S:Sta} (h:StaOK np P S) {k:Nat} (hk:k<(staZs (sweptS S)).length):unpErr np P ((staZs (sweptS S)).take k)=8:=by
 have hs:=(h.swept hc).small hc
 have hl:=staZs_len hs
 have ht:=torn_less hs hk
 unfold unpErr
 rw[if_neg (by rw[List.length_take];omega),if_pos]
 by_cases h1:(snSta ⟨(staZs (sweptS S)).take k,false⟩).2.t=true
 ·exact Or.inl h1
 ·right
  intro h2
  refine ht ⟨_,Prod.ext rfl ?_⟩
  cases hr:(snSta ⟨(staZs (sweptS S)).take k,false⟩).2 with
  | mk l t=>rw[hr]at h1 h2;simp only[]at h1 h2;subst h2;simp only[Bool.not_eq_true]at h1;rw[h1]
end
end
section
open Go.RowKit Go.Maps
theorem sn_append {ops:Array Oper} {rest:List Oper} {o:Oper} {a:Act} {Q:Exit→Act→World→Prop} (w:World) (hgd:o.guard=none) (s y:Operand)
  (ho:o.op=.call { callee:=.builtin .append,args:=#[s,y],argTypes:=#[30,30] }) (base:Nat) (v:Value) (l xs:List Int) (hs:a.eval s=v) (hown:NOwn base w v l)
  (t:TypeId) (B m:Nat) (C:Array Value) (hC:C=(xs.map (Value.int .i64)).toArray) (hm:xs.length=m) (hm8:m≤8) (hB:w.heap.size=B) (hy:a.eval y=.slice (some ⟨B,0,none⟩) m m) (hR:l.length+m≤100000000) (hbase:base≤w.heap.size)
  (h:∀ad cap w2,Hid (NOwn base w2 (.slice ad (l.length+m) cap) (l++xs))→Hid (Below base w w2∧∀t,¬t=3→Keeps t w w2)→wpList Tryz.prog ops Q rest (a.put o.dst (.slice ad (l.length+m) cap)) w2) :
  wpList Tryz.prog ops Q (o::rest) a (w.alloc (.cells C t)):=by
 subst hB
 subst hC
 subst hm
 obtain⟨i0,hi,hz0,hz1,hz2⟩:=info_parts info3i
 have hk:Below w.heap.size w (w.alloc (.cells (xs.map (Value.int .i64)).toArray t)):=below_alloc _ _
 refine wpList_append_own_at _ hgd s y 30 ho base 3 i0 (.int .i64 0) 1 8 Tryz.underlying30 hi hz0 hz1 hz2 rfl (by decide) v _ _ hs (hown.below hk) ⟨w.heap.size,0,none⟩ xs.length xs.length (xs.map (Value.int .i64)) hy (by simp) (fun j u hj=>?_) (fun u hu=>by obtain⟨z,_,rfl⟩:=List.mem_map.1 hu;rfl) (by unfold maxLen;omega) (by omega) (Nat.le_trans hbase hk.size) ?_
 ·rw[WideShapes.add_plain,Nat.zero_add,World.cell?_alloc_new]
  simpa using hj
 ·intro v' w2 h1 h2 _ _
  obtain⟨ad,cap,rfl⟩:=own_shape h1
  refine h ad cap w2 ?_ ?_
  ·show w2.ownsRow _ _ _ _ _ _
   rw[List.length_append,List.map_append]
   exact h1
  ·refine⟨(hk.mono hbase).grown h2 (Nat.le_trans hbase hk.size) (fun k hk=>(hown.lt k hk).1),fun t ht=>(Keeps.of hk).trans (Keeps.grown (u:=3) h2 (fun g hg=>?_) ht)⟩
   rcases (hown.below hk).2 with⟨e,_⟩|⟨g',cap',cur,e,_,hh,_⟩
   ·rw[e]at hg;cases hg
   ·rw[e]at hg;cases hg;exact⟨cur,hh⟩
theorem own_lit (w:World) (zs:List Int) (n:Nat) (hn:zs.length=n) (h8:n≤8) (C:Array Value) (hC:C=(zs.map (Value.int .i64)).toArray) (B:Nat) (hB:w.heap.size=B):NOwn w.heap.size (w.alloc (.cells C 3)) (.slice (some ⟨B,0,none⟩) n n) zs:=by
 subst hB
 subst hn
 subst hC
 refine⟨by simp,Or.inr ⟨w.heap.size,zs.length,_,rfl,Nat.le_refl _,heap_alloc_new w _,Nat.le_refl _,by unfold maxLen;omega,by simp,?_⟩⟩
 rw[List.take_of_length_le (by simp)]
set_option maxRecDepth 20000 in
set_option maxHeartbeats 2000000 in
theorem addRow (B:Nat) (v rv:Value) (l:List Int) (L:List (Int×Int)) (w:World) (hB:B≤w.heap.size) (hv:NOwn B w v l) (hl:l.length≤10000) (hL:L.length≤1000)
  (hr:Hid (∀wk,Below B w wk→RowAt wk rv L)) :
  Calls Tryz.prog 116 #[v,rv] w fun e w'=>∃a c,e=.returned (.slice a (l++rowZs L).length c)∧Hid (NOwn B w' (.slice a (l++rowZs L).length c) (l++rowZs L))∧Hid (Below B w w'):=by
 have HV:Hid (NOwn B w v l):=hv
 obtain⟨n,hn⟩:∃n,L.length=n:=⟨_,rfl⟩
 obtain⟨ra,rc,e,_⟩:=hr.out w (Below.refl _ _)
 rw[hn]at e
 subst e
 obtain⟨va,vc,rfl⟩:=own_shape hv
 have HN:Hid (L.length=n):=hn
 rw[hn]at hL
 clear hv hn
 go_enter Tryz.func116,Tryz.ntmps116
 go_upto_region 3 with (first
  | (at_builtin;go_loud (refine sn_append w rfl _ _ rfl B (.slice va l.length vc) l [(n:Int)] rfl HV.out _ _ 1 _ rfl rfl (by omega) rfl rfl (by omega) hB ?_;intro ad cap w1 HV1 HB1)))
 have hB1:B≤w1.heap.size:=Nat.le_trans hB HB1.out.1.size
 go_loopw [0,14] (fun q i wr=>∃(k:Nat) (m:Nat) (l2:List Int),k≤n∧i=.int .i64 k∧(∃qa qc,q=.slice qa m qc∧Hid (NOwn B wr (.slice qa m qc) l2))∧Hid (l2.length=m)∧m≤10001+2*k∧Hid (l2=l++(n:Int)::pairZs (L.take k))∧Hid (Below B w wr)) (fun _ i _=>n - (intOf i).toNat)
 case atStart=>exact⟨0,l.length+1,l++[(n:Int)],Nat.zero_le _,rfl,⟨_,_,rfl,HV1⟩,(by show _=_;simp),(by omega),(by show _=_;simp[pairZs]),HB1.out.1⟩
 case round =>
  obtain⟨k,m,l2,hk0,rfl,⟨qa,qc,rfl,HQ⟩,HM,hm,HL2,HBk⟩:=hrel
  by_cases hk:k<n
  ·obtain⟨p,o,rfl,hp,g⟩:∃p o,ra=some ⟨p,o,none⟩∧p<wr.heap.size∧∀i,i<n→wr.cell? ⟨p,o+i*2,none⟩=some (.int .i64 (fstAt L i))∧wr.cell? ⟨p,o+i*2+1,none⟩=some (.int .i64 (sndAt L i)):=by
    obtain⟨a,cap,e,hn9,h0⟩:=hr.out wr HBk.out
    have:=HN.out
    rcases h0 with h0|⟨p,o,rfl,hp,g⟩
    ·omega
    ·injection e with e1 _ _
     exact⟨p,o,e1,hp,fun i hi=>g i (by omega)⟩
   obtain⟨q0,q1⟩:=g k hk
   have HTk:Hid (pairZs (L.take (k+1))=pairZs (L.take k)++[fstAt L k,sndAt L k]):=by
    show _=_
    have hkl:k<L.length:=by rw[HN.out];exact hk
    rw[List.take_succ_eq_append_getElem hkl]
    unfold pairZs
    rw[List.flatMap_append]
    simp[fstAt,sndAt,hkl]
   generalize fstAt L k=x at *
   generalize sndAt L k=y at *
   clear g
   have hki:(k:Int)<(n:Int):=by omega
   have hsz:B≤wr.heap.size:=Nat.le_trans hB HBk.out.size
   have hml:=HM.out
   go_upto_region 5 with (fail)
   obtain⟨W,hW⟩:∃W,wr.alloc (.cells #[.int .i64 x,.int .i64 y] 92)=W:=⟨_,rfl⟩
   have x0:W.cell? ⟨wr.heap.size,0,none⟩=some (.int .i64 x):=by rw[←hW,World.cell?_alloc_new];rfl
   have x1:W.cell? ⟨wr.heap.size,1,none⟩=some (.int .i64 y):=by rw[←hW,World.cell?_alloc_new];rfl
   have HBW:Hid (Below wr.heap.size wr W):=hW ▸ below_alloc wr _
   have hBW:B≤W.heap.size:=Nat.le_trans hsz HBW.out.size
   try rw[hW]
   clear hW
   go_wp2_with (first
    | (at_builtin;go_loud (refine sn_append W rfl _ _ rfl B (.slice qa m qc) l2 [x,y] rfl (HQ.out.below HBW.out) _ _ 2 _ rfl rfl (by omega) rfl rfl (by omega) hBW ?_;intro ad2 cap2 w2 HV2 HB2)))
   go_roundw
   case rel=>exact⟨k+1,m+2,l2++[x,y],by omega,by go_num,⟨ad2,cap2,by rw[←hml],by rw[←hml];exact HV2⟩,(by show _=_;rw[←hml];simp),(by omega),(by show _=_;rw[HL2.out,HTk.out];simp),(HBk.out.trans (HBW.out.mono hsz)).trans HB2.out.1⟩
   case measure=>simp[intOf];omega
  ·obtain rfl:k=n:=by omega
   have HE:Hid (l2=l++rowZs L):=by
    show _=_
    rw[HL2.out,←HN.out,List.take_length]
    rfl
   go_wp2_with (fail)
   go_ret
   refine⟨qa,qc,?_,?_,HBk.out⟩
   ·rw[←HE.out,HM.out];first|done|rfl
   ·rw[←HE.out,HM.out];exact HQ.out
set_option maxRecDepth 20000 in
set_option maxHeartbeats 4000000 in
theorem writtenS (S:Sta) (fv cv:Value) (w:World) (hs:StaAt w fv cv S) (hm:SnSmall S) :
  Calls Tryz.prog 76 #[.agg #[fv,cv,.int .i64 S.st,.int .i64 S.wh]] w fun e w'=>∃a c,e=.returned (.slice a (staZs S).length c)∧Hid (NOwn w.heap.size w' (.slice a (staZs S).length c) (staZs S))∧Hid (Below w.heap.size w w'):=by
 obtain⟨fa,fc,rfl,hfn,hf⟩:=hs.1
 obtain⟨ca,cc,rfl,hcn,hc⟩:=hs.2
 obtain⟨nf,hnf⟩:∃nf,S.fs.length=nf:=⟨_,rfl⟩
 obtain⟨nc,hnc⟩:∃nc,S.cs.length=nc:=⟨_,rfl⟩
 obtain⟨st,hst⟩:∃st,S.st=st:=⟨_,rfl⟩
 obtain⟨wh,hwh⟩:∃wh,S.wh=wh:=⟨_,rfl⟩
 have HNF:Hid (S.fs.length=nf):=hnf
 have HNC:Hid (S.cs.length=nc):=hnc
 have HST:Hid (S.st=st∧S.wh=wh):=⟨hst,hwh⟩
 have hf10:nf≤10:=by have:=hm.f;omega
 have hc24:nc≤24:=by have:=hm.c;omega
 obtain⟨W,hW⟩:∃W,w.alloc (.cells #[.slice fa nf fc,.slice ca nc cc,.int .i64 st,.int .i64 wh] 26)=W:=⟨_,rfl⟩
 have HB0:Hid (Below w.heap.size w W):=hW ▸ below_alloc w _
 have hWs:W.heap.size=w.heap.size+1:=by rw[←hW];simp
 have HX:Hid (∀wk,Below W.heap.size W wk→wk.cell? ⟨w.heap.size,0,none⟩=some (.slice fa nf fc)∧wk.cell? ⟨w.heap.size,1,none⟩=some (.slice ca nc cc)∧wk.cell? ⟨w.heap.size,2,none⟩=some (.int .i64 st)∧wk.cell? ⟨w.heap.size,3,none⟩=some (.int .i64 wh)):=fun wk hk=>by
  refine⟨below_at hk ?_,below_at hk ?_,below_at hk ?_,below_at hk ?_⟩<;>rw[←hW,World.cell?_alloc_new]<;>rfl
 have HF:Hid (∀wk,Below W.heap.size W wk→∀k,k<nf→∃b o u,fa=some ⟨b,o,none⟩∧b<W.heap.size∧wk.cell? ⟨b,o+k*4,none⟩=some (.int .i64 (fmAt S.fs k).proc)∧wk.cell? ⟨b,o+k*4+1,none⟩=some (.int .i64 (fmAt S.fs k).pos)∧wk.cell? ⟨b,o+k*4+2,none⟩=some u∧wk.cell? ⟨b,o+k*4+3,none⟩=some (.int .i64 (fmAt S.fs k).to)∧Hid (∀wj,Below W.heap.size W wj→RowAt wj u (fmAt S.fs k).regs)):=fun wk hk k hkn=>by
  have hbk:Below w.heap.size w wk:=below_step HB0.out hk
  rcases hf with h|⟨b,o,rfl,hlt,g⟩
  ·omega
  ·obtain⟨u,c0,c1,c2,c3,hv⟩:=g k (by omega)
   exact⟨b,o,u,rfl,Nat.lt_of_lt_of_le hlt HB0.out.size,by rw[hbk.cell hlt];exact c0,by rw[hbk.cell hlt];exact c1,by rw[hbk.cell hlt];exact c2,by rw[hbk.cell hlt];exact c3,fun wj hj=>ValsAt.below hv (below_step HB0.out hj)⟩
 have HC:Hid (∀wk,Below W.heap.size W wk→∀k,k<nc→∃b o u,ca=some ⟨b,o,none⟩∧b<W.heap.size∧wk.cell? ⟨b,o+k,none⟩=some u∧Hid (∀wj,Below W.heap.size W wj→RowAt wj u (S.cs.getD k []))):=fun wk hk k hkn=>by
  have hbk:Below w.heap.size w wk:=below_step HB0.out hk
  rcases hc with h|⟨b,o,rfl,hlt,g⟩
  ·omega
  ·obtain⟨u,c0,hv⟩:=g k (by omega)
   exact⟨b,o,u,rfl,Nat.lt_of_lt_of_le hlt HB0.out.size,by rw[hbk.cell hlt];exact c0,fun wj hj=>ValsAt.below hv (below_step HB0.out hj)⟩
 have HM:=(show Hid _ from hm)
 rw[hnf,hnc,hst,hwh]
 have HFr:Hid (∀k,k<nf→(fmAt S.fs k).regs.length≤40∧(S.fs.take (k+1)).flatMap frZs=(S.fs.take k).flatMap frZs++frZs (fmAt S.fs k)):=fun k hk=>by
  have hkl:k<S.fs.length:=by omega
  have e:fmAt S.fs k=S.fs[k]:=by unfold fmAt;simp[hkl]
  rw[e]
  refine⟨HM.out.r _ (List.getElem_mem _),?_⟩
  rw[List.take_succ_eq_append_getElem hkl,List.flatMap_append]
  simp
 have HCr:Hid (∀k,k<nc→(S.cs.getD k []).length≤4∧(S.cs.take (k+1)).flatMap rowZs=(S.cs.take k).flatMap rowZs++rowZs (S.cs.getD k [])):=fun k hk=>by
  have hkl:k<S.cs.length:=by omega
  have e:S.cs.getD k []=S.cs[k]:=by simp[hkl]
  rw[e]
  refine⟨HM.out.v _ (List.getElem_mem _),?_⟩
  rw[List.take_succ_eq_append_getElem hkl,List.flatMap_append]
  simp
 clear hs hf hc hm hnf hnc hst hwh hfn hcn
 go_enter Tryz.func76,Tryz.ntmps76
 go_upto_region 1 with (fail)
 try rw[hW]
 clear hW
 obtain⟨k0,k1,k2,k3⟩:=HX.out W (Below.refl _ _)
 go_upto_region 3 with (fail)
 go_loopw [3,19] (fun q i wr=>∃(k:Nat) (m:Nat) (l2:List Int),k≤nf∧i=.int .i64 k∧(∃qa qc,q=.slice qa m qc∧Hid (NOwn W.heap.size wr (.slice qa m qc) l2))∧Hid (l2.length=m)∧m≤3+84*k∧Hid (l2=st::wh::(nf:Int)::(S.fs.take k).flatMap frZs)∧Hid (Below W.heap.size W wr)) (fun _ i _=>nf - (intOf i).toNat)
 case atStart=>exact⟨0,3,[st,wh,(nf:Int)],Nat.zero_le _,rfl,⟨_,_,rfl,own_lit W [st,wh,(nf:Int)] 3 rfl (by omega) _ rfl _ hWs⟩,rfl,(by omega),rfl,below_alloc _ _⟩
 case round =>
  obtain⟨k,m,l2,hk0,rfl,⟨qa,qc,rfl,HQ⟩,HM2,hm,HL2,HBk⟩:=hrel
  have hsz:W.heap.size≤wr.heap.size:=HBk.out.size
  by_cases hk:k<nf
  ·obtain⟨b,o,u,rfl,hbW,c0,c1,c2,c3,HU⟩:=HF.out wr HBk.out k hk
   obtain⟨hr40,hfm⟩:=HFr.out k hk
   have HFm:Hid ((S.fs.take (k+1)).flatMap frZs=(S.fs.take k).flatMap frZs++frZs (fmAt S.fs k)):=hfm
   clear hfm
   generalize fmAt S.fs k=f at *
   obtain⟨pr,ps,L,tt⟩:=f
   have hki:(k:Int)<(nf:Int):=by omega
   have HRr:Hid (∀wk,Below W.heap.size wr wk→RowAt wk u L):=fun wk hk=>HU.out wk (HBk.out.trans hk)
   obtain⟨ua,uc,rfl,_⟩:=HRr.out wr (Below.refl _ _)
   clear k0 k1 k2 k3
   go_upto_region 5 with (fail)
   obtain⟨W2,hW2⟩:∃W2,wr.alloc (.cells #[.int .i64 pr,.int .i64 ps,.slice ua L.length uc,.int .i64 tt] 40)=W2:=⟨_,rfl⟩
   have hx:W2.heap[wr.heap.size]?=some (.cells #[.int .i64 pr,.int .i64 ps,.slice ua L.length uc,.int .i64 tt] 40 (0,0)):=by rw[←hW2];exact heap_alloc_new wr _
   have HXx:Hid (W2.heap[wr.heap.size]?=some (.cells #[.int .i64 pr,.int .i64 ps,.slice ua L.length uc,.int .i64 tt] 40 (0,0))):=hx
   have y0:W2.cell? ⟨wr.heap.size,0,none⟩=some (.int .i64 pr):=by unfold World.cell?;rw[hx];rfl
   have y1:W2.cell? ⟨wr.heap.size,1,none⟩=some (.int .i64 ps):=by unfold World.cell?;rw[hx];rfl
   have y3:W2.cell? ⟨wr.heap.size,3,none⟩=some (.int .i64 tt):=by unfold World.cell?;rw[hx];rfl
   have HBW:Hid (Below wr.heap.size wr W2):=hW2 ▸ below_alloc wr _
   have hBW:W.heap.size≤W2.heap.size:=Nat.le_trans hsz HBW.out.size
   try rw[hW2]
   clear hW2 hx c0 c1 c2 c3
   go_upto_region 6 with (first
    | (at_builtin;go_loud (refine sn_append W2 rfl _ _ rfl W.heap.size (.slice qa m qc) l2 [pr,ps,tt] rfl (HQ.out.below HBW.out) _ _ 3 _ rfl rfl (by omega) rfl rfl (by have:=HM2.out;omega) hBW ?_;intro ad2 cap2 w2 HV2 HB2)))
   have hx2:w2.heap[wr.heap.size]?=some (.cells #[.int .i64 pr,.int .i64 ps,.slice ua L.length uc,.int .i64 tt] 40 (0,0)):=HB2.out.2 40 (by decide) _ _ HXx.out
   have y2:w2.cell? ⟨wr.heap.size,2,none⟩=some (.slice ua L.length uc):=by unfold World.cell?;rw[hx2];rfl
   have HB02:Hid (Below W.heap.size wr w2):=(HBW.out.mono hsz).trans HB2.out.1
   have HAd:Hid (Calls Tryz.prog 116 #[.slice ad2 (l2.length+3) cap2,.slice ua L.length uc] w2 fun e w'=>∃a c,e=.returned (.slice a (l2.length+4+2*L.length) c)∧Hid (NOwn W.heap.size w' (.slice a (l2.length+4+2*L.length) c) ((l2++[pr,ps,tt])++rowZs L))∧Hid (Below W.heap.size w2 w')):=by
    have e1:(l2++[pr,ps,tt]).length=l2.length+3:=by simp
    have e2:((l2++[pr,ps,tt])++rowZs L).length=l2.length+4+2*L.length:=by
     rw[List.length_append,e1]
     unfold rowZs
     rw[List.length_cons,pairZs_len];omega
    have:=addRow W.heap.size (.slice ad2 (l2.length+3) cap2) (.slice ua L.length uc) (l2++[pr,ps,tt]) L w2 (Nat.le_trans hBW HB2.out.1.size) HV2.out (by rw[e1];have:=HM2.out;omega) (by have:L.length≤40:=hr40;omega) (fun wk hk=>HRr.out wk (HB02.out.trans hk))
    rw[e2]at this
    exact this
   clear y0 y1 y3 hx2
   go_wp2_with (first
    | (go_at_call 116;refine HAd.out.mono ?_;rintro e w3 ⟨a3,c3,rfl,HV3,HB3⟩))
   go_roundw
   case rel =>
    refine⟨k+1,m+(4+2*L.length),(l2++[pr,ps,tt])++rowZs L,by omega,by go_num,⟨a3,c3,?_,?_⟩,?_,?_,?_,HB02.out.trans HB3.out |> fun h=>HBk.out.trans h⟩
    ·rw[←HM2.out,←Nat.add_assoc]
    ·rw[←HM2.out,←Nat.add_assoc];exact HV3
    ·show _=_
     have:=HM2.out
     unfold rowZs
     simp only[List.length_append,List.length_cons,List.length_nil,pairZs_len];omega
    ·have:L.length≤40:=hr40
     omega
    ·show _=_
     rw[HL2.out,HFm.out]
     simp[frZs]
   case measure=>simp[intOf];omega
  ·obtain rfl:k=nf:=by omega
   have HT:Hid (l2=st::wh::(k:Int)::S.fs.flatMap frZs):=by
    show _=_
    rw[HL2.out,←HNF.out,List.take_length]
   obtain⟨k0,k1,k2,k3⟩:=HX.out wr HBk.out
   go_upto_region 9 with (first
    | (at_builtin;go_loud (refine sn_append wr rfl _ _ rfl W.heap.size (.slice qa m qc) l2 [(nc:Int)] rfl HQ.out _ _ 1 _ rfl rfl (by omega) rfl rfl (by have:=HM2.out;omega) hsz ?_;intro ad2 cap2 w2 HV2 HB2)))
   have HB2w:Hid (Below W.heap.size W w2):=HBk.out.trans HB2.out.1
   clear k0 k1 k2 k3
   obtain⟨k0,k1,k2,k3⟩:=HX.out w2 HB2w.out
   go_upto_region 10 with (fail)
   go_loopw [3,46] (fun q i wr=>∃(j:Nat) (m:Nat) (l3:List Int),j≤nc∧i=.int .i64 j∧(∃qa qc,q=.slice qa m qc∧Hid (NOwn W.heap.size wr (.slice qa m qc) l3))∧Hid (l3.length=m)∧m≤1000+9*j∧Hid (l3=l2++(nc:Int)::(S.cs.take j).flatMap rowZs)∧Hid (Below W.heap.size W wr)) (fun _ i _=>nc - (intOf i).toNat)
   case atStart=>exact⟨0,l2.length+1,l2++[(nc:Int)],Nat.zero_le _,rfl,⟨_,_,rfl,HV2⟩,(by show _=_;simp),(by have:=HM2.out;omega),(by show _=_;simp),HB2w⟩
   case round =>
    obtain⟨j,m3,l3,hj0,rfl,⟨qa3,qc3,rfl,HQ3⟩,HM3,hm3,HL3,HBj⟩:=hrel
    have hsz3:W.heap.size≤wr.heap.size:=HBj.out.size
    clear k0 k1 k2 k3
    by_cases hj:j<nc
    ·obtain⟨b,o,u,rfl,hbW,c0,HU⟩:=HC.out wr HBj.out j hj
     obtain⟨hr4,hcm⟩:=HCr.out j hj
     have HCm:Hid ((S.cs.take (j+1)).flatMap rowZs=(S.cs.take j).flatMap rowZs++rowZs (S.cs.getD j [])):=hcm
     clear hcm
     generalize S.cs.getD j []=L at *
     have hji:(j:Int)<(nc:Int):=by omega
     have HAd:Hid (Calls Tryz.prog 116 #[.slice qa3 m3 qc3,u] wr fun e w'=>∃a c,e=.returned (.slice a (m3+(1+2*L.length)) c)∧Hid (NOwn W.heap.size w' (.slice a (m3+(1+2*L.length)) c) (l3++rowZs L))∧Hid (Below W.heap.size wr w')):=by
      have e2:(l3++rowZs L).length=m3+(1+2*L.length):=by
       rw[List.length_append,HM3.out]
       unfold rowZs
       rw[List.length_cons,pairZs_len];omega
      have:=addRow W.heap.size (.slice qa3 m3 qc3) u l3 L wr hsz3 HQ3.out (by have:=HM3.out;omega) (by omega) (fun wk hk=>HU.out wk (HBj.out.trans hk))
      rw[e2]at this
      exact this
     go_wp2_with (first
      | (go_at_call 116;refine HAd.out.mono ?_;rintro e w3 ⟨a3,c3,rfl,HV3,HB3⟩))
     go_roundw
     case rel =>
      refine⟨j+1,m3+(1+2*L.length),l3++rowZs L,by omega,by go_num,⟨a3,c3,rfl,HV3⟩,?_,by omega,?_,HBj.out.trans HB3.out⟩
      ·show _=_
       have:=HM3.out
       unfold rowZs
       simp only[List.length_append,List.length_cons,pairZs_len];omega
      ·show _=_
       rw[HL3.out,HCm.out]
       simp
     case measure=>simp[intOf];omega
    ·obtain rfl:j=nc:=by omega
     have HE:Hid (l3=staZs S):=by
      show _=_
      rw[HL3.out,HT.out,←HNC.out,List.take_length]
      unfold staZs
      rw[HST.out.1,HST.out.2,HNF.out]
      rfl
     go_wp2_with (fail)
     go_ret
     refine⟨qa3,qc3,?_,?_,HB0.out.trans (HBj.out.mono (by omega))⟩
     ·rw[←HE.out,HM3.out];first|done|rfl
     ·rw[←HE.out,HM3.out];exact HQ3.out.lower (by omega)
end
end Go.Proofs.YtfaokaohhchdhaaGreatDoor
