/- States that are alike but for which numbers their cells have: swept they are the same, and a step does the same to both. No Go in it. -/
import Derived.Test.YtfaokaohhchdhaaGreatDoorPart20
namespace Go.Proofs.YtfaokaohhchdhaaGreatDoor
def VSim (r:Int→Int→Prop) (v v':Int×Int):Prop:=v'.1=v.1∧(v.1=2→r v.2 v'.2)∧(¬v.1=2→v'.2=v.2)
def RSim (r:Int→Int→Prop) (L L':List (Int×Int)):Prop:=L'.length=L.length∧∀i,VSim r (L.getD i (0,0)) (L'.getD i (0,0))
def FSim (r:Int→Int→Prop) (f f':Fm):Prop:=f'.proc=f.proc∧f'.pos=f.pos∧f'.to=f.to∧RSim r f.regs f'.regs
structure Sim (r:Int→Int→Prop) (S T:Sta):Prop where
 st:T.st=S.st
 wh:T.wh=S.wh
 fl:T.fs.length=S.fs.length
 fr:∀i,FSim r (fmAt S.fs i) (fmAt T.fs i)
 fn:∀a b b',r a b→r a b'→b=b'
 inj:∀a a' b,r a b→r a' b→a=a'
 ca:∀a b,r a b→0≤a∧a<S.cs.length
 cb:∀a b,r a b→0≤b∧b<T.cs.length
 cell:∀a b,r a b→RSim r (S.cs.getD a.toNat []) (T.cs.getD b.toNat [])
def Eqv (S T:Sta):Prop:=∃r,Sim r S T
theorem vsim_same (r:Int→Int→Prop) {v:Int×Int} (h:¬v.1=2):VSim r v v:=⟨rfl,fun e=>absurd e h,fun _=>rfl⟩
theorem vsim_nil (r:Int→Int→Prop):VSim r (0,0) (0,0):=vsim_same r (by decide)
theorem VSim.mono {r r':Int→Int→Prop} {v v':Int×Int} (h:VSim r v v') (hr:∀a b,r a b→r' a b):VSim r' v v':=⟨h.1,fun e=>hr _ _ (h.2.1 e),h.2.2⟩
theorem RSim.mono {r r':Int→Int→Prop} {L L':List (Int×Int)} (h:RSim r L L') (hr:∀a b,r a b→r' a b):RSim r' L L':=⟨h.1,fun i=>(h.2 i).mono hr⟩
theorem FSim.mono {r r':Int→Int→Prop} {f f':Fm} (h:FSim r f f') (hr:∀a b,r a b→r' a b):FSim r' f f':=⟨h.1,h.2.1,h.2.2.1,h.2.2.2.mono hr⟩
theorem rsim_nil (r:Int→Int→Prop):RSim r [] []:=⟨rfl,fun _=>vsim_nil r⟩
theorem fsim_none (r:Int→Int→Prop):FSim r noFm noFm:=⟨rfl,rfl,rfl,rsim_nil r⟩
theorem RSim.set {r:Int→Int→Prop} {L L':List (Int×Int)} (h:RSim r L L') (k:Nat) {x x':Int×Int} (hx:VSim r x x'):RSim r (L.set k x) (L'.set k x'):=by
 refine⟨by simp[h.1],fun i=>?_⟩
 by_cases hk:k<L.length
 ·rw[getD_set hk,getD_set (by rw[h.1];exact hk)]
  split
  ·exact hx
  ·exact h.2 i
 ·rw[List.set_eq_of_length_le (by omega),List.set_eq_of_length_le (by rw[h.1];omega)];exact h.2 i
theorem fmAt_none {fs:List Fm} {i:Nat} (h:fs.length≤i):fmAt fs i=noFm:=getD_none h
/-! ### What is reached -/
def PSim (r:Int→Int→Prop) (A A':List Int):Prop:=A'.length=A.length∧∀i,i<A.length→r (A.getD i 0) (A'.getD i 0)
theorem PSim.mem {r:Int→Int→Prop} (fn:∀a b b',r a b→r a b'→b=b') {A A':List Int} (h:PSim r A A') {z z':Int} (hz:r z z') (hm:z ∈ A):z' ∈ A':=by
 obtain⟨i,hi,e⟩:=mem_getD hm
 have:=h.2 i hi
 rw[e]at this
 rw[fn _ _ _ hz this]
 exact getD_mem (by rw[h.1];exact hi)
theorem PSim.mem' {r:Int→Int→Prop} (inj:∀a a' b,r a b→r a' b→a=a') {A A':List Int} (h:PSim r A A') {z z':Int} (hz:r z z') (hm:z' ∈ A'):z ∈ A:=by
 obtain⟨i,hi,e⟩:=mem_getD hm
 have:=h.2 i (by rw[←h.1];exact hi)
 rw[e]at this
 rw[inj _ _ _ hz this]
 exact getD_mem (by rw[←h.1];exact hi)
theorem PSim.meet1 {r:Int→Int→Prop} (fn:∀a b b',r a b→r a b'→b=b') (inj:∀a a' b,r a b→r a' b→a=a') {A A':List Int} (h:PSim r A A') {v v':Int×Int} (hv:VSim r v v'):PSim r (meet1 A v.1 v.2) (meet1 A' v'.1 v'.2):=by
 rw[hv.1]
 by_cases hk:v.1=2
 ·have hz:=hv.2.1 hk
  by_cases hm:v.2 ∈ A
  ·rw[meet1_old hm,meet1_old (h.mem fn hz hm)];exact h
  ·rw[meet1_new hk hm,meet1_new hk fun e=>hm (h.mem' inj hz e)]
   refine⟨by simp[h.1],fun i hi=>?_⟩
   by_cases e:i<A.length
   ·rw[getD_prefix e,getD_prefix (by rw[h.1];exact e)];exact h.2 i e
   ·have:i=A.length:=by simp at hi;omega
    subst this
    rw[List.getD_eq_getElem?_getD,List.getElem?_append_right (Nat.le_refl _),List.getD_eq_getElem?_getD,List.getElem?_append_right (by rw[h.1];exact Nat.le_refl _)]
    simpa[h.1]using hz
 ·rw[meet1_no hk,meet1_no hk];exact h
theorem PSim.meetTo {r:Int→Int→Prop} (fn:∀a b b',r a b→r a b'→b=b') (inj:∀a a' b,r a b→r a' b→a=a') {A A':List Int} (h:PSim r A A') {L L':List (Int×Int)} (hL:RSim r L L'):∀i,PSim r (meetTo i (fstAt L) (sndAt L) A) (meetTo i (fstAt L') (sndAt L') A')
 | 0=>h
 | i+1=>PSim.meet1 fn inj (PSim.meetTo fn inj h hL i) (hL.2 i)
theorem getD_default {α:Type} (L:List α) (i:Nat) (d:α):L.getD i d=(L[i]?).getD d:=List.getD_eq_getElem?_getD
theorem sim_regs {r:Int→Int→Prop}:∀(fs gs:List Fm),gs.length=fs.length→(∀i,FSim r (fmAt fs i) (fmAt gs i))→RSim r (regsOf fs) (regsOf gs)
 | [],[],_,_=>rsim_nil r
 | f::fs,g::gs,hl,h=>by
  have ih:=sim_regs fs gs (by simpa using hl) fun i=>h (i+1)
  have h0:RSim r f.regs g.regs:=(h 0).2.2.2
  have e1:regsOf (f::fs)=f.regs++regsOf fs:=rfl
  have e2:regsOf (g::gs)=g.regs++regsOf gs:=rfl
  rw[e1,e2]
  refine⟨by rw[List.length_append,List.length_append,h0.1,ih.1],fun i=>?_⟩
  by_cases e:i<f.regs.length
  ·rw[getD_default,getD_default,List.getElem?_append_left e,List.getElem?_append_left (by rw[h0.1];exact e),←getD_default,←getD_default];exact h0.2 i
  ·rw[getD_default,getD_default,List.getElem?_append_right (by omega),List.getElem?_append_right (by rw[h0.1];omega),←getD_default,←getD_default,h0.1];exact ih.2 _
 | [],_::_,hl,_=>by simp at hl
 | _::_,[],hl,_=>by simp at hl
section
variable {np:Nat} {P:Nat→Pc} {S T:Sta} {r:Int→Int→Prop}
def rtS (S:Sta) (t:Nat):List Int:=rt (cLen S.cs) (cK S.cs) (cZ S.cs) (regsOf S.fs).length (fstAt (regsOf S.fs)) (sndAt (regsOf S.fs)) t
theorem Sim.rt (h:Sim r S T):∀t,PSim r (rtS S t) (rtS T t)
 | 0=>by
  have hr:=sim_regs S.fs T.fs h.fl h.fr
  have:=PSim.meetTo h.fn h.inj (A:=[]) (A':=[]) ⟨rfl,fun i hi=>absurd hi (Nat.not_lt_zero _)⟩ hr (regsOf S.fs).length
  show PSim r (meetTo _ _ _ []) (meetTo _ _ _ [])
  rw[hr.1];exact this
 | t+1=>by
  have ih:=Sim.rt h t
  show PSim r (if t<(rtS S t).length then stepR _ _ _ t (rtS S t) else rtS S t) (if t<(rtS T t).length then stepR _ _ _ t (rtS T t) else rtS T t)
  rw[ih.1]
  by_cases e:t<(rtS S t).length
  ·rw[if_pos e,if_pos e]
   have hc:=h.cell _ _ (ih.2 t e)
   have:=PSim.meetTo h.fn h.inj ih hc (S.cs.getD ((rtS S t).getD t 0).toNat []).length
   unfold stepR
   have e1:cLen T.cs ((rtS T t).getD t 0).toNat=(S.cs.getD ((rtS S t).getD t 0).toNat []).length:=hc.1
   rw[e1]
   exact this
  ·rw[if_neg e,if_neg e];exact ih
theorem Sim.reached (hc:CodeOK np P) (hS:StaOK np P S) (hT:StaOK np P T) (h:Sim r S T):PSim r (reachedS S) (reachedS T):=by
 have:=h.rt (max (reachedS S).length (reachedS T).length)
 have e1:rtS S (max (reachedS S).length (reachedS T).length)=reachedS S:=rt_all (hS.valid hc) (Nat.le_max_left _ _)
 have e2:rtS T (max (reachedS S).length (reachedS T).length)=reachedS T:=rt_all (hT.valid hc) (Nat.le_max_right _ _)
 rw[e1,e2]at this
 exact this
theorem PSim.idx (fn:∀a b b',r a b→r a b'→b=b') {A A':List Int} (h:PSim r A A') (hn':A'.Nodup) {z z':Int} (hz:r z z') (hm:z ∈ A):idx A' z'=Go.Proofs.YtfaokaohhchdhaaGreatDoor.idx A z:=by
 have h1:=List.idxOf_lt_length_of_mem hm
 have e0:A.getD (A.idxOf z) 0=z:=by rw[List.getD_eq_getElem?_getD,List.getElem?_eq_getElem h1];exact List.getElem_idxOf h1
 have h2:=h.2 _ h1
 rw[e0]at h2
 have e1:=fn _ _ _ hz h2
 rw[e1]
 exact idx_at hn' (by rw[h.1];exact h1)
theorem VSim.renum (fn:∀a b b',r a b→r a b'→b=b') {A A':List Int} (h:PSim r A A') (hn':A'.Nodup) {v v':Int×Int} (hv:VSim r v v') (hm:v.1=2→v.2 ∈ A):renum A' v'=Go.Proofs.YtfaokaohhchdhaaGreatDoor.renum A v:=by
 unfold Go.Proofs.YtfaokaohhchdhaaGreatDoor.renum
 rw[hv.1]
 by_cases e:v.1=2
 ·rw[if_pos e,if_pos e]
  have:=h.idx fn hn' (hv.2.1 e) (hm e)
  unfold Go.Proofs.YtfaokaohhchdhaaGreatDoor.idx at this
  rw[this]
 ·rw[if_neg e,if_neg e]
  exact Prod.ext hv.1 (hv.2.2 e)
theorem RSim.renum (fn:∀a b b',r a b→r a b'→b=b') {A A':List Int} (h:PSim r A A') (hn':A'.Nodup) {L L':List (Int×Int)} (hL:RSim r L L') (hm:∀v,v ∈ L→v.1=2→v.2 ∈ A):L'.map (Go.Proofs.YtfaokaohhchdhaaGreatDoor.renum A')=L.map (Go.Proofs.YtfaokaohhchdhaaGreatDoor.renum A):=by
 refine List.ext_getElem (by simp[hL.1]) fun i h1 h2=>?_
 have hi:i<L.length:=by simpa using h2
 have hi':i<L'.length:=by rw[hL.1];exact hi
 rw[List.getElem_map,List.getElem_map]
 have:=hL.2 i
 rw[getD_default,getD_default,List.getElem?_eq_getElem hi,List.getElem?_eq_getElem hi']at this
 exact this.renum fn h hn' (hm _ (List.getElem_mem hi))
theorem Sim.swept (hc:CodeOK np P) (hS:StaOK np P S) (hT:StaOK np P T) (h:Sim r S T):sweptS T=sweptS S:=by
 have hp:=h.reached hc hS hT
 have hn:=(hT.reached hc).1
 have e1:(sweptS T).fs=(sweptS S).fs:=by
  show T.fs.map _=S.fs.map _
  refine List.ext_getElem (by simp[h.fl]) fun i h1 h2=>?_
  have hi:i<S.fs.length:=by simpa using h2
  have hi':i<T.fs.length:=by rw[h.fl];exact hi
  rw[List.getElem_map,List.getElem_map]
  have hf:=h.fr i
  unfold fmAt at hf
  rw[getD_default,getD_default,List.getElem?_eq_getElem hi,List.getElem?_eq_getElem hi']at hf
  obtain⟨f1,f2,f3,f4⟩:=hf
  have f1:T.fs[i].proc=S.fs[i].proc:=f1
  have f2:T.fs[i].pos=S.fs[i].pos:=f2
  have f3:T.fs[i].to=S.fs[i].to:=f3
  have f4:RSim r S.fs[i].regs T.fs[i].regs:=f4
  have f5:=f4.renum h.fn hp hn fun v hv e=>reg_reached (List.getElem_mem hi) hv e
  show Fm.mk T.fs[i].proc T.fs[i].pos (T.fs[i].regs.map _) T.fs[i].to=Fm.mk S.fs[i].proc S.fs[i].pos (S.fs[i].regs.map _) S.fs[i].to
  rw[f1,f2,f3,f5]
 have e2:(sweptS T).cs=(sweptS S).cs:=by
  show (reachedS T).map _=(reachedS S).map _
  refine List.ext_getElem (by simp[hp.1]) fun i h1 h2=>?_
  have hi:i<(reachedS S).length:=by simpa using h2
  have hi':i<(reachedS T).length:=by rw[hp.1];exact hi
  rw[List.getElem_map,List.getElem_map]
  have:=hp.2 i hi
  rw[getD_default,getD_default,List.getElem?_eq_getElem hi,List.getElem?_eq_getElem hi']at this
  exact (h.cell _ _ this).renum h.fn hp hn fun v hv e=>field_reached hc hS (List.getElem_mem hi) hv e
 show Sta.mk _ _ _ _=Sta.mk _ _ _ _
 exact congr (congr (congr (congrArg Sta.mk e1) e2) h.st) h.wh
theorem Sim.symm (h:Sim r S T):Sim (fun a b=>r b a) T S:=by
 have vs:∀ {v v':Int×Int},VSim r v v'→VSim (fun a b=>r b a) v' v:=fun hv=>⟨hv.1.symm,fun e=>hv.2.1 (hv.1 ▸ e),fun e=>(hv.2.2 (fun e2=>e (hv.1.trans e2))).symm⟩
 have rs:∀ {L L':List (Int×Int)},RSim r L L'→RSim (fun a b=>r b a) L' L:=fun hL=>⟨hL.1.symm,fun i=>vs (hL.2 i)⟩
 exact⟨h.st.symm,h.wh.symm,h.fl.symm,fun i=>⟨(h.fr i).1.symm,(h.fr i).2.1.symm,(h.fr i).2.2.1.symm,rs (h.fr i).2.2.2⟩,fun a b b' h1 h2=>h.inj _ _ _ h1 h2,fun a a' b h1 h2=>h.fn _ _ _ h1 h2,fun a b hr=>h.cb _ _ hr,fun a b hr=>h.ca _ _ hr,fun a b hr=>rs (h.cell _ _ hr)⟩
theorem Sim.trans {q:Int→Int→Prop} {U:Sta} (h:Sim r S T) (k:Sim q T U):Sim (fun a c=>∃b,r a b∧q b c) S U:=by
 have vs:∀ {v v' v'':Int×Int},VSim r v v'→VSim q v' v''→VSim (fun a c=>∃b,r a b∧q b c) v v'':=fun h1 h2=>⟨h2.1.trans h1.1,fun e=>⟨_,h1.2.1 e,h2.2.1 (h1.1.trans e)⟩,fun e=>(h2.2.2 (fun e2=>e (h1.1.symm.trans e2))).trans (h1.2.2 e)⟩
 have rs:∀ {L L' L'':List (Int×Int)},RSim r L L'→RSim q L' L''→RSim (fun a c=>∃b,r a b∧q b c) L L'':=fun h1 h2=>⟨h2.1.trans h1.1,fun i=>vs (h1.2 i) (h2.2 i)⟩
 refine⟨k.st.trans h.st,k.wh.trans h.wh,k.fl.trans h.fl,fun i=>⟨(k.fr i).1.trans (h.fr i).1,(k.fr i).2.1.trans (h.fr i).2.1,(k.fr i).2.2.1.trans (h.fr i).2.2.1,rs (h.fr i).2.2.2 (k.fr i).2.2.2⟩,?_,?_,?_,?_,?_⟩
 ·rintro a c c' ⟨b,h1,h2⟩ ⟨b',h3,h4⟩
  rw[h.fn _ _ _ h1 h3]at h2
  exact k.fn _ _ _ h2 h4
 ·rintro a a' c ⟨b,h1,h2⟩ ⟨b',h3,h4⟩
  rw[k.inj _ _ _ h2 h4]at h1
  exact h.inj _ _ _ h1 h3
 ·rintro a c ⟨b,h1,h2⟩;exact h.ca _ _ h1
 ·rintro a c ⟨b,h1,h2⟩;exact k.cb _ _ h2
 ·rintro a c ⟨b,h1,h2⟩;exact rs (h.cell _ _ h1) (k.cell _ _ h2)
theorem Eqv.symm (h:Eqv S T):Eqv T S:=let ⟨_,h⟩:=h;⟨_,h.symm⟩
theorem Eqv.trans {U:Sta} (h:Eqv S T) (k:Eqv T U):Eqv S U:=let ⟨_,h⟩:=h;let ⟨_,k⟩:=k;⟨_,h.trans k⟩
theorem sim_swept (hc:CodeOK np P) (hS:StaOK np P S):Sim (fun a b=>a ∈ reachedS S∧b=Go.Proofs.YtfaokaohhchdhaaGreatDoor.idx (reachedS S) a) S (sweptS S):=by
 have hg:=hS.reached hc
 have hcl:=sweptS_cells S
 have vs:∀ {v:Int×Int},(v.1=2→v.2 ∈ reachedS S)→VSim (fun a b=>a ∈ reachedS S∧b=Go.Proofs.YtfaokaohhchdhaaGreatDoor.idx (reachedS S) a) v (Go.Proofs.YtfaokaohhchdhaaGreatDoor.renum (reachedS S) v):=fun hv=>⟨renum_kind _ _,fun e=>⟨hv e,renum_num _ e⟩,fun e=>by unfold Go.Proofs.YtfaokaohhchdhaaGreatDoor.renum;rw[if_neg e]⟩
 have rs:∀ {L:List (Int×Int)},(∀v,v ∈ L→v.1=2→v.2 ∈ reachedS S)→RSim (fun a b=>a ∈ reachedS S∧b=Go.Proofs.YtfaokaohhchdhaaGreatDoor.idx (reachedS S) a) L (L.map (Go.Proofs.YtfaokaohhchdhaaGreatDoor.renum (reachedS S))):=fun {L} hL=>by
  refine⟨by simp,fun i=>?_⟩
  by_cases e:i<L.length
  ·rw[getD_map (Go.Proofs.YtfaokaohhchdhaaGreatDoor.renum (reachedS S)) L i (0,0) (0,0) e]
   exact vs (hL _ (getD_mem e))
  ·rw[getD_none (by omega),getD_none (by simp;omega)];exact vsim_nil _
 refine⟨rfl,rfl,by simp[sweptS],fun i=>?_,?_,?_,?_,?_,?_⟩
 ·by_cases e:i<S.fs.length
  ·show FSim _ (fmAt S.fs i) (fmAt (S.fs.map _) i)
   rw[fmAt_map e]
   exact⟨rfl,rfl,rfl,rs fun v hv hk=>reg_reached (getD_mem e) hv hk⟩
  ·rw[fmAt_none (by omega),fmAt_none (by simp[sweptS];omega)];exact fsim_none _
 ·rintro a b b' ⟨_,rfl⟩ ⟨_,rfl⟩;rfl
 ·rintro a a' b ⟨h1,e1⟩ ⟨h2,e2⟩;exact idx_inj h1 h2 (e1.symm.trans e2)
 ·rintro a b ⟨h1,_⟩;exact hg.2 a h1
 ·rintro a b ⟨h1,rfl⟩
  have:=List.idxOf_lt_length_of_mem h1
  rw[hcl]
  unfold Go.Proofs.YtfaokaohhchdhaaGreatDoor.idx
  omega
 ·rintro a b ⟨h1,rfl⟩
  have hl:=List.idxOf_lt_length_of_mem h1
  have e0:(reachedS S).getD ((reachedS S).idxOf a) 0=a:=by rw[List.getD_eq_getElem?_getD,List.getElem?_eq_getElem hl];exact List.getElem_idxOf hl
  have:=getD_map (fun n:Int=>(S.cs.getD n.toNat []).map (Go.Proofs.YtfaokaohhchdhaaGreatDoor.renum (reachedS S))) (reachedS S) ((reachedS S).idxOf a) 0 [] hl
  rw[e0]at this
  show RSim _ _ ((sweptS S).cs.getD ((reachedS S).idxOf a:Int).toNat [])
  rw[Int.toNat_natCast]
  show RSim _ _ (((reachedS S).map _).getD ((reachedS S).idxOf a) [])
  rw[this]
  exact rs fun v hv hk=>field_reached hc hS h1 hv hk
theorem eqv_swept (hc:CodeOK np P) (hS:StaOK np P S):Eqv S (sweptS S):=⟨_,sim_swept hc hS⟩
end
section
variable {np:Nat} {P:Nat→Pc} {S T:Sta} {r:Int→Int→Prop}
theorem RSim.reg {L L':List (Int×Int)} (h:RSim r L L') (a:Int):VSim r (regAt L a) (regAt L' a):=h.2 _
theorem Sim.top (h:Sim r S T):FSim r (topF S) (topF T):=by unfold topF;rw[h.fl];exact h.fr _
theorem Sim.withTop (h:Sim r S T) {f f':Fm} (hf:FSim r f f'):Sim r (withTop S f) (withTop T f'):=by
 refine⟨h.st,h.wh,by simp[Go.Proofs.YtfaokaohhchdhaaGreatDoor.withTop,h.fl],fun i=>?_,h.fn,h.inj,h.ca,h.cb,h.cell⟩
 show FSim r (fmAt (S.fs.set (S.fs.length - 1) f) i) (fmAt (T.fs.set (T.fs.length - 1) f') i)
 by_cases e:S.fs.length=0
 ·rw[List.set_eq_of_length_le (by omega),List.set_eq_of_length_le (by rw[h.fl];omega)];exact h.fr i
 ·rw[h.fl,fmAt_set (by omega),fmAt_set (by rw[h.fl];omega)]
  split
  ·exact hf
  ·exact h.fr i
theorem Sim.setReg (h:Sim r S T) (a:Int) {v v':Int×Int} (hv:VSim r v v'):Sim r (setReg S a v) (setReg T a v'):=by
 have ht:=h.top
 exact h.withTop ⟨ht.1,ht.2.1,ht.2.2.1,ht.2.2.2.set _ hv⟩
theorem Sim.setPos (h:Sim r S T) (k:Int):Sim r (setPos S k) (setPos T k):=by
 have ht:=h.top
 exact h.withTop ⟨ht.1,rfl,ht.2.2.1,ht.2.2.2⟩
theorem Sim.status (h:Sim r S T) (s x:Int):Sim r ⟨S.fs,S.cs,s,x⟩ ⟨T.fs,T.cs,s,x⟩:=⟨rfl,rfl,h.fl,h.fr,h.fn,h.inj,h.ca,h.cb,h.cell⟩
theorem Sim.setField (h:Sim r S T) {v v':Int×Int} (hv:r v.2 v'.2) (c:Int) {x x':Int×Int} (hx:VSim r x x'):Sim r (setField S v c x) (setField T v' c x'):=by
 have ha:=h.ca _ _ hv
 have hb:=h.cb _ _ hv
 refine⟨h.st,h.wh,h.fl,h.fr,h.fn,h.inj,fun a b hr=>by simpa[Go.Proofs.YtfaokaohhchdhaaGreatDoor.setField]using h.ca a b hr,fun a b hr=>by simpa[Go.Proofs.YtfaokaohhchdhaaGreatDoor.setField]using h.cb a b hr,fun a b hr=>?_⟩
 show RSim r ((S.cs.set v.2.toNat _).getD a.toNat []) ((T.cs.set v'.2.toNat _).getD b.toNat [])
 rw[getD_set (by omega),getD_set (by omega)]
 have ca:=h.ca a b hr
 have cb:=h.cb a b hr
 by_cases e:a=v.2
 ·subst e
  have:=h.fn _ _ _ hr hv
  subst this
  rw[if_pos rfl,if_pos rfl]
  exact (h.cell _ _ hr).set _ hx
 ·have e2:¬b=v'.2:=fun e2=>e (h.inj _ _ _ (e2 ▸ hr) hv)
  rw[if_neg (by omega),if_neg (by omega)]
  exact h.cell _ _ hr
theorem Sim.withCell (h:Sim r S T) (n:Int):Sim (fun a b=>r a b∨(a=S.cs.length∧b=T.cs.length)) (withCell S n) (withCell T n):=by
 have mo:∀a b,r a b→(r a b∨(a=S.cs.length∧b=T.cs.length)):=fun _ _=>Or.inl
 refine⟨h.st,h.wh,h.fl,fun i=>(h.fr i).mono mo,?_,?_,?_,?_,?_⟩
 ·rintro a b b' (h1|⟨h1,h2⟩) (h3|⟨h3,h4⟩)
  ·exact h.fn _ _ _ h1 h3
  ·have:=h.ca _ _ h1;omega
  ·have:=h.ca _ _ h3;omega
  ·omega
 ·rintro a a' b (h1|⟨h1,h2⟩) (h3|⟨h3,h4⟩)
  ·exact h.inj _ _ _ h1 h3
  ·have:=h.cb _ _ h1;omega
  ·have:=h.cb _ _ h3;omega
  ·omega
 ·rintro a b (h1|⟨h1,h2⟩)
  ·have:=h.ca _ _ h1;simp[Go.Proofs.YtfaokaohhchdhaaGreatDoor.withCell];omega
  ·simp[Go.Proofs.YtfaokaohhchdhaaGreatDoor.withCell];omega
 ·rintro a b (h1|⟨h1,h2⟩)
  ·have:=h.cb _ _ h1;simp[Go.Proofs.YtfaokaohhchdhaaGreatDoor.withCell];omega
  ·simp[Go.Proofs.YtfaokaohhchdhaaGreatDoor.withCell];omega
 ·rintro a b (h1|⟨h1,h2⟩)
  ·have ca:=h.ca _ _ h1
   have cb:=h.cb _ _ h1
   show RSim _ ((S.cs++[_]).getD a.toNat []) ((T.cs++[_]).getD b.toNat [])
   rw[getD_default,getD_default,List.getElem?_append_left (by omega),List.getElem?_append_left (by omega),←getD_default,←getD_default]
   exact (h.cell _ _ h1).mono mo
  ·subst h1 h2
   show RSim _ ((S.cs++[_]).getD (S.cs.length:Int).toNat []) ((T.cs++[_]).getD (T.cs.length:Int).toNat [])
   rw[Int.toNat_natCast,Int.toNat_natCast,getD_default,getD_default,List.getElem?_append_right (Nat.le_refl _),List.getElem?_append_right (Nat.le_refl _)]
   simp only[Nat.sub_self,List.getElem?_cons_zero,Option.getD_some]
   refine⟨rfl,fun i=>?_⟩
   have:(List.replicate n.toNat ((0:Int),(0:Int))).getD i (0,0)=(0,0):=by
    rw[getD_default,List.getElem?_replicate];split<;>rfl
   rw[this];exact vsim_nil _
theorem Sim.call (h:Sim r S T) (i:In):Sim r (callS P S i) (callS P T i):=by
 have ht:=h.top
 refine⟨h.st,h.wh,by simp[callS,h.fl],fun j=>?_,h.fn,h.inj,h.ca,h.cb,h.cell⟩
 show FSim r (fmAt (S.fs++[_]) j) (fmAt (T.fs++[_]) j)
 by_cases e:j<S.fs.length
 ·rw[fmAt_lt e,fmAt_lt (by rw[h.fl];exact e)];exact h.fr j
 by_cases e2:j=S.fs.length
 ·subst e2
  rw[fmAt_end]
  have e3:=fmAt_end (fs:=T.fs) (f:=⟨i.b,0,argRegs (P i.b.toNat).regs.toNat i (topF T).regs,i.a⟩)
  rw[h.fl]at e3
  rw[e3]
  refine⟨rfl,rfl,rfl,by show (argRegs _ _ _).length=(argRegs _ _ _).length;rw[argRegs_len,argRegs_len],fun k=>?_⟩
  show VSim r ((argRegs _ _ _).getD k (0,0)) ((argRegs _ _ _).getD k (0,0))
  unfold argRegs
  by_cases hk:k<(P i.b.toNat).regs.toNat
  ·rw[getD_map (fun k=>if k<i.n then regAt (topF S).regs (i.z k) else (0,0)) (List.range _) k 0 (0,0) (by simpa using hk),getD_map (fun k=>if k<i.n then regAt (topF T).regs (i.z k) else (0,0)) (List.range _) k 0 (0,0) (by simpa using hk)]
   split
   ·exact ht.2.2.2.reg _
   ·exact vsim_nil r
  ·rw[getD_none (by simp;omega),getD_none (by simp;omega)];exact vsim_nil r
 ·rw[fmAt_none (by simp;omega),fmAt_none (by simp[h.fl];omega)];exact fsim_none r
theorem Sim.pop (h:Sim r S T):Sim r (popS S) (popS T):=by
 refine⟨h.st,h.wh,by simp[popS,h.fl],fun j=>?_,h.fn,h.inj,h.ca,h.cb,h.cell⟩
 show FSim r (fmAt (S.fs.take _) j) (fmAt (T.fs.take _) j)
 rw[h.fl]
 by_cases e:j<S.fs.length - 1
 ·rw[fmAt_take e,fmAt_take e];exact h.fr j
 ·rw[fmAt_none (by simp;omega),fmAt_none (by simp[h.fl];omega)];exact fsim_none r
theorem Sim.back (h:Sim r S T) {v v':Int×Int} (hv:VSim r v v'):Sim r (backS S v) (backS T v'):=by
 unfold backS
 rw[h.fl]
 split
 ·exact⟨rfl,h.wh,rfl,fun j=>fsim_none r,h.fn,h.inj,h.ca,h.cb,h.cell⟩
 ·have ht:=h.top
  rw[ht.2.2.1]
  exact h.pop.setReg _ hv
theorem VSim.op (fn:∀a b b',r a b→r a b'→b=b') (inj:∀a a' b,r a b→r a' b→a=a') {a a' b b':Int×Int} (ha:VSim r a a') (hb:VSim r b b') (op:Int):opM op a' b'=opM op a b:=by
 have eq:(a'=b') ↔ (a=b):=by
  constructor
  ·intro e
   have e1:a.1=b.1:=by rw[←ha.1,←hb.1,e]
   refine Prod.ext e1 ?_
   by_cases k:a.1=2
   ·have h1:=ha.2.1 k
    have h2:=hb.2.1 (e1 ▸ k)
    rw[e]at h1
    exact inj _ _ _ h1 h2
   ·rw[←ha.2.2 k,←hb.2.2 (fun e2=>k (e1.trans e2)),e]
  ·intro e
   subst e
   refine Prod.ext (ha.1.trans hb.1.symm) ?_
   by_cases k:a.1=2
   ·exact fn _ _ _ (ha.2.1 k) (hb.2.1 k)
   ·rw[ha.2.2 k,hb.2.2 k]
 unfold opM
 simp only[eq]
 rw[ha.1,hb.1]
 by_cases h5:op=5
 ·rw[if_pos h5,if_pos h5]
 rw[if_neg h5,if_neg h5]
 by_cases hk:¬a.1=1∨¬b.1=1
 ·rw[if_pos hk,if_pos hk]
 rw[if_neg hk,if_neg hk,ha.2.2 (by omega),hb.2.2 (by omega)]
theorem Sim.has (h:Sim r S T) {v v':Int×Int} (hv:VSim r v v') (c:Int):hasField T v' c=hasField S v c:=by
 unfold hasField
 rw[hv.1]
 by_cases e:v.1=2
 ·have:=(h.cell _ _ (hv.2.1 e)).1
  rw[this]
 ·simp[e]
theorem room_full (hc:CodeOK np P) (hS:StaOK np P S):(roomS S).cs.length=24 ↔ (reachedS S).length=24:=by
 have:=(hS.reached hc).len
 have:=hS.cn
 unfold roomS
 split
 ·rw[sweptS_cells]
 ·omega
theorem eqv_room (hc:CodeOK np P) (hS:StaOK np P S):Eqv S (roomS S):=by
 unfold roomS
 split
 ·exact eqv_swept hc hS
 ·refine⟨fun a b=>b=a∧0≤a∧a<S.cs.length∧True,?_⟩
  exact (sim_swept hc hS).trans (sim_swept hc hS).symm |> fun h=>by
   have vs:∀ {v:Int×Int},chk v.1 v.2 S.cs.length=0→VSim (fun a b=>b=a∧0≤a∧a<S.cs.length∧True) v v:=fun hv=>⟨rfl,fun e=>⟨rfl,by rw[e]at hv;have:=chk_ref hv;exact⟨this.1,this.2,trivial⟩⟩,fun _=>rfl⟩
   have rs:∀ {L:List (Int×Int)},rowOK S.cs.length L→RSim (fun a b=>b=a∧0≤a∧a<S.cs.length∧True) L L:=fun hL=>⟨rfl,fun i=>vs (by have:=hL.at (i:Int);unfold regAt at this;rwa [Int.toNat_natCast]at this)⟩
   refine⟨rfl,rfl,rfl,fun i=>?_,?_,?_,?_,?_,?_⟩
   ·by_cases e:i<S.fs.length
    ·exact⟨rfl,rfl,rfl,rs (hS.frames i e).vals⟩
    ·rw[fmAt_none (by omega)];exact fsim_none _
   ·rintro a b b' ⟨rfl,_⟩ ⟨rfl,_⟩;rfl
   ·rintro a a' b ⟨rfl,_⟩ ⟨rfl,_⟩;rfl
   ·rintro a b ⟨rfl,h1,h2,_⟩;exact⟨h1,h2⟩
   ·rintro a b ⟨rfl,h1,h2,_⟩;exact⟨h1,h2⟩
   ·rintro a b ⟨rfl,h1,h2,_⟩;exact rs (hS.cells.vals _ (getD_mem (by omega)))
def Same2 (x y:Option (Sta×List Int×Bool)):Prop :=
 match x,y with
 | none,none=>True
 | some (S,l,b),some (T,l',b')=>Eqv S T∧l'=l∧b'=b
 | _,_=>False
theorem doM_sim (hc:CodeOK np P) (hS:StaOK np P S) (hT:StaOK np P T) (h:Eqv S T) (i:In):Same2 (doM P S i) (doM P T i):=by
 obtain⟨r,h⟩:=h
 have ht:=h.top
 have hreg:=fun a=>ht.2.2.2.reg a
 unfold doM
 by_cases o6:i.op=6
 ·rw[if_pos o6,if_pos o6,h.has (hreg i.a)]
  split
  ·rename_i hh
   have hk:(regAt (topF S).regs i.a).1=2:=by unfold hasField at hh;exact (of_decide_eq_true hh).1
   exact⟨⟨_,h.setField ((hreg i.a).2.1 hk) i.c (hreg i.b)⟩,rfl,rfl⟩
  ·trivial
 rw[if_neg o6,if_neg o6]
 by_cases o7:i.op=7
 ·rw[if_pos o7,if_pos o7,h.fl]
  split
  ·trivial
  ·exact⟨⟨_,h.call i⟩,rfl,rfl⟩
 rw[if_neg o7,if_neg o7]
 by_cases o8:i.op=8
 ·rw[if_pos o8,if_pos o8]
  exact⟨⟨_,h.back (hreg i.a)⟩,rfl,rfl⟩
 rw[if_neg o8,if_neg o8]
 by_cases o9:i.op=9
 ·rw[if_pos o9,if_pos o9,(hreg i.a).1]
  split
  ·rename_i hk
   exact⟨⟨_,h⟩,by rw[(hreg i.a).2.2 (by omega)],rfl⟩
  ·trivial
 rw[if_neg o9,if_neg o9]
 by_cases o10:i.op=10
 ·rw[if_pos o10,if_pos o10]
  exact⟨⟨_,h⟩,rfl,rfl⟩
 rw[if_neg o10,if_neg o10]
 by_cases o11:i.op=11
 ·rw[if_pos o11,if_pos o11,(hreg i.a).1]
  split
  ·rename_i hk
   refine⟨⟨r,?_⟩,rfl,rfl⟩
   rw[(hreg i.a).2.2 (by omega)]
   exact h.status _ _
  ·trivial
 rw[if_neg o11,if_neg o11]
 by_cases o12:i.op=12
 ·rw[if_pos o12,if_pos o12]
  exact⟨⟨_,h.setPos i.b⟩,rfl,rfl⟩
 rw[if_neg o12,if_neg o12]
 by_cases o13:i.op=13
 ·rw[if_pos o13,if_pos o13]
  refine⟨⟨r,?_⟩,rfl,rfl⟩
  rw[(hreg i.a).1]
  by_cases e:(regAt (topF S).regs i.a).1=2
  ·rw[if_neg (fun x=>x.1 e),if_neg (fun x=>x.1 e)];exact h
  ·rw[(hreg i.a).2.2 e]
   split
   ·exact h.setPos i.b
   ·exact h
 rw[if_neg o13,if_neg o13]
 unfold valueM
 by_cases o1:i.op=1
 ·rw[if_pos o1,if_pos o1]
  exact⟨⟨_,h.setReg i.a (vsim_same r (by show ¬(1:Int)=2;decide))⟩,rfl,rfl⟩
 rw[if_neg o1,if_neg o1]
 by_cases o2:i.op=2
 ·rw[if_pos o2,if_pos o2]
  exact⟨⟨_,h.setReg i.a (hreg i.b)⟩,rfl,rfl⟩
 rw[if_neg o2,if_neg o2]
 by_cases o3:i.op=3
 ·rw[if_pos o3,if_pos o3,VSim.op h.fn h.inj (hreg i.b) (hreg i.c)]
  cases hv:opM (i.z 0) (regAt (topF S).regs i.b) (regAt (topF S).regs i.c) with
  | none=>trivial
  | some v =>
   have hv2:¬v.1=2:=by
    unfold opM at hv
    split at hv
    ·injection hv with hv;subst hv;show ¬(1:Int)=2;decide
    ·split at hv
     ·cases hv
     ·split at hv
      ·injection hv with hv;subst hv;show ¬(1:Int)=2;decide
      ·split at hv
       ·injection hv with hv;subst hv;show ¬(1:Int)=2;decide
       ·cases hv
   exact⟨⟨_,h.setReg i.a (vsim_same r hv2)⟩,rfl,rfl⟩
 rw[if_neg o3,if_neg o3]
 by_cases o5:i.op=5
 ·rw[if_pos o5,if_pos o5]
  have hfull:(roomS T).cs.length=24 ↔ (roomS S).cs.length=24:=by
   rw[room_full hc hS,room_full hc hT,(h.reached hc hS hT).1]
  by_cases e:(roomS S).cs.length=24
  ·rw[if_pos e,if_pos (hfull.2 e)];trivial
  ·rw[if_neg e,if_neg (fun x=>e (hfull.1 x))]
   obtain⟨q,hq⟩:=((eqv_room hc hS).symm.trans ⟨r,h⟩).trans (eqv_room hc hT)
   exact⟨⟨_,(hq.withCell i.b).setReg i.a ⟨rfl,fun _=>Or.inr ⟨rfl,rfl⟩,fun e=>absurd rfl e⟩⟩,rfl,rfl⟩
 rw[if_neg o5,if_neg o5,h.has (hreg i.b)]
 split
 ·rename_i hh
  have hk:(regAt (topF S).regs i.b).1=2:=by unfold hasField at hh;exact (of_decide_eq_true hh).1
  exact⟨⟨_,h.setReg i.a ((h.cell _ _ ((hreg i.b).2.1 hk)).reg i.c)⟩,rfl,rfl⟩
 ·trivial
theorem Eqv.ins (h:Eqv S T):insS P T=insS P S:=by
 obtain⟨r,h⟩:=h
 have ht:=h.top
 unfold insS procS
 rw[ht.1,ht.2.1]
theorem Eqv.next (h:Eqv S T):nextPos P T=nextPos P S:=by
 obtain⟨r,h⟩:=h
 have ht:=h.top
 unfold nextPos procS
 rw[ht.1,ht.2.1]
theorem Eqv.st (h:Eqv S T):T.st=S.st:=let ⟨_,h⟩:=h;h.st
theorem stepM_sim (hc:CodeOK np P) (hS:StaOK np P S) (hT:StaOK np P T) (hs:S.st=0) (h:Eqv S T) (said:List Int) (b:Bool):Eqv (stepM P ⟨S,said,b⟩).s (stepM P ⟨T,said,b⟩).s∧(stepM P ⟨T,said,b⟩).said=(stepM P ⟨S,said,b⟩).said∧(stepM P ⟨T,said,b⟩).paused=(stepM P ⟨S,said,b⟩).paused:=by
 have hn:¬S.fs.length=0:=hS.unfin (by omega)
 have hnT:¬T.fs.length=0:=hT.unfin (by rw[h.st];omega)
 have e1:Eqv (setPos S (nextPos P S)) (setPos T (nextPos P T)):=by
  rw[h.next]
  obtain⟨r,h⟩:=h
  exact⟨_,h.setPos _⟩
 have h1:=hS.setPos hn (nextPos_in hc hS hn).1 (nextPos_in hc hS hn).2
 have h2:=hT.setPos hnT (nextPos_in hc hT hnT).1 (nextPos_in hc hT hnT).2
 have:=doM_sim hc h1 h2 e1 (insS P S)
 unfold stepM
 show Eqv (match doM P (setPos S (nextPos P S)) (insS P S) with|some (S,l,b)=>_|none=>_:Rn).s (match doM P (setPos T (nextPos P T)) (insS P T) with|some (S,l,b)=>_|none=>_:Rn).s∧_
 rw[h.ins]
 unfold Same2 at this
 cases hx:doM P (setPos S (nextPos P S)) (insS P S) with
 | none =>
  rw[hx]at this
  cases hy:doM P (setPos T (nextPos P T)) (insS P S) with
  | none =>
   obtain⟨r,h⟩:=h
   refine⟨⟨r,?_⟩,rfl,rfl⟩
   have:=h.status 2 S.wh
   show Sim r ⟨S.fs,S.cs,2,S.wh⟩ ⟨T.fs,T.cs,2,T.wh⟩
   rw[h.wh];exact this
  | some y=>rw[hy]at this;exact this.elim
 | some x =>
  rw[hx]at this
  cases hy:doM P (setPos T (nextPos P T)) (insS P S) with
  | none=>rw[hy]at this;exact this.elim
  | some y =>
   rw[hy]at this
   obtain⟨x1,x2,x3⟩:=x
   obtain⟨y1,y2,y3⟩:=y
   obtain⟨a,e1,e2⟩:=this
   subst e1 e2
   exact⟨a,rfl,rfl⟩
end
end Go.Proofs.YtfaokaohhchdhaaGreatDoor
