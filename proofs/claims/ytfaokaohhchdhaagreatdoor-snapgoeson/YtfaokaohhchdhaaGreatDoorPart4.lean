/- A right state stays right: behind a sweep, behind a step. No Go in it. -/
import Derived.Test.YtfaokaohhchdhaaGreatDoorPart3
namespace Go.Proofs.YtfaokaohhchdhaaGreatDoor
section
def rowOK (nc:Nat) (L:List (Int×Int)):Prop:=∀v,v ∈ L→chk v.1 v.2 nc=0
theorem chk_up {k n c c':Int} (h:chk k n c=0) (hc:c≤c'):chk k n c'=0:=by
 unfold chk at h ⊢
 repeat' split at h
 all_goals first|(exact absurd h (by decide))|skip
 all_goals simp_all
 all_goals omega
theorem chk_any {k n c c':Int} (h:chk k n c=0) (hk:¬k=2):chk k n c'=0:=by
 unfold chk at h ⊢
 repeat' split at h
 all_goals simp_all
theorem chk_num {n c:Int} (h : -1000000000≤n∧n≤1000000000):chk 1 n c=0:=by
 unfold chk;rw[if_neg (by decide),if_pos rfl,if_neg (by omega)]
theorem chk_at {n c:Int} (h:0≤n∧n<c):chk 2 n c=0:=by
 unfold chk;rw[if_neg (by decide),if_neg (by decide),if_pos rfl,if_neg (by omega)]
theorem chk_int {n c:Int} (h:chk 1 n c=0) : -1000000000≤n∧n≤1000000000:=by
 unfold chk at h
 simp at h
 omega
theorem rowErr_zero {nc:Nat} {L:List (Int×Int)}:rowErr L.length (fstAt L) (sndAt L) nc=0 ↔ rowOK nc L:=by
 constructor
 ·intro h v hv
  obtain⟨i,hi,rfl⟩:=at_pair hv
  exact firstErr_is_zero h i hi
 ·intro h
  exact firstErr_zero fun i hi=>h _ (pair_at hi)
theorem getD_mem {α:Type} {L:List α} {i:Nat} {d:α} (h:i<L.length):L.getD i d ∈ L:=by
 rw[List.getD_eq_getElem?_getD,List.getElem?_eq_getElem h];exact List.getElem_mem h
theorem getD_none {α:Type} {L:List α} {i:Nat} {d:α} (h:L.length≤i):L.getD i d=d:=by
 rw[List.getD_eq_getElem?_getD,List.getElem?_eq_none h];rfl
theorem mem_getD' {α:Type} {L:List α} {x d:α} (h:x ∈ L):∃i,i<L.length∧L.getD i d=x:=by
 obtain⟨i,hi,e⟩:=List.mem_iff_getElem.1 h
 exact⟨i,hi,by rw[List.getD_eq_getElem?_getD,List.getElem?_eq_getElem hi];exact e⟩
theorem getD_set {α:Type} {L:List α} {i k:Nat} {x d:α} (h:i<L.length):(L.set i x).getD k d=if k=i then x else L.getD k d:=by
 rw[List.getD_eq_getElem?_getD,List.getElem?_set]
 by_cases e:i=k
 ·subst e;simp[h]
 ·rw[if_neg e,if_neg (fun h=>e h.symm),List.getD_eq_getElem?_getD]
theorem rowOK.at {nc:Nat} {L:List (Int×Int)} (h:rowOK nc L) (a:Int):chk (regAt L a).1 (regAt L a).2 nc=0:=by
 unfold regAt
 by_cases e:a.toNat<L.length
 ·exact h _ (getD_mem e)
 ·rw[getD_none (by omega)];rfl
theorem rowOK.set {nc:Nat} {L:List (Int×Int)} (h:rowOK nc L) (a:Nat) {v:Int×Int} (hv:chk v.1 v.2 nc=0):rowOK nc (L.set a v):=fun x hx=>by
 rcases List.mem_or_eq_of_mem_set hx with hx|rfl
 ·exact h x hx
 ·exact hv
theorem rowOK.up {nc nc':Nat} {L:List (Int×Int)} (h:rowOK nc L) (hn:nc≤nc'):rowOK nc' L:=fun v hv=>chk_up (h v hv) (by omega)
structure FrOK (np:Nat) (P:Nat→Pc) (h nc:Nat) (f:Fm):Prop where
 p0:0≤f.proc
 p1:f.proc<np
 a0:0≤f.pos
 a1:f.pos<(P f.proc.toNat).n
 t0:0≤f.to
 t1:f.to<h
 len:(f.regs.length:Int)=(P f.proc.toNat).regs
 vals:rowOK nc f.regs
theorem frErr_zero {np:Nat} {P:Nat→Pc} {h nc:Nat} {f:Fm}:frErr np P h nc f=0 ↔ FrOK np P h nc f:=by
 constructor
 ·intro e
  unfold frErr at e
  by_cases h1:f.proc<0∨(np:Int)≤f.proc
  ·rw[if_pos h1]at e;cases e
  rw[if_neg h1]at e
  by_cases h2:f.pos<0∨((P f.proc.toNat).n:Int)≤f.pos∨f.to<0∨(h:Int)≤f.to
  ·rw[if_pos h2]at e;cases e
  rw[if_neg h2]at e
  by_cases h3:¬(f.regs.length:Int)=(P f.proc.toNat).regs
  ·rw[if_pos h3]at e;cases e
  rw[if_neg h3]at e
  exact⟨by omega,by omega,by omega,by omega,by omega,by omega,by omega,rowErr_zero.1 e⟩
 ·intro e
  obtain⟨p0,p1,a0,a1,t0,t1,hl,hv⟩:=e
  unfold frErr
  rw[if_neg (by omega),if_neg (by omega),if_neg (by omega)]
  exact rowErr_zero.2 hv
structure CsOK (nc:Nat) (cs:List (List (Int×Int))):Prop where
 lo:∀c,c ∈ cs→1≤c.length
 hi:∀c,c ∈ cs→c.length≤4
 vals:∀c,c ∈ cs→rowOK nc c
theorem cellsErr_zero {cs:List (List (Int×Int))}:cellsErr cs=0 ↔ cs.length≤24∧CsOK cs.length cs:=by
 unfold cellsErr
 rw[allErr_zero]
 constructor
 ·rintro⟨h,k⟩
  refine⟨h,⟨fun c hc=>?_,fun c hc=>?_,fun c hc v hv=>?_⟩⟩<;>obtain⟨i,hi,e⟩:=mem_getD' (d:=[]) hc
  ·have:=(k i hi).1;unfold cLen at this;rwa [e]at this
  ·have:=(k i hi).2.1;unfold cLen at this;rwa [e]at this
  ·have:=(k i hi).2.2;unfold cLen cK cZ at this;rw[e]at this
   obtain⟨j,hj,rfl⟩:=at_pair hv
   exact this j hj
 ·rintro⟨h,k⟩
  refine⟨h,fun i hi=>?_⟩
  have hm:=getD_mem (d:=[]) hi
  exact⟨k.lo _ hm,k.hi _ hm,fun j hj=>k.vals _ hm _ (pair_at hj)⟩
structure StaOK (np:Nat) (P:Nat→Pc) (S:Sta):Prop where
 s0:0≤S.st
 s1:S.st≤3
 w0 : -1000000000≤S.wh
 w1:S.wh≤1000000000
 wz:¬S.st=3→S.wh=0
 fin:S.st=1→S.fs.length=0
 unfin:¬S.st=1→¬S.fs.length=0
 few:S.fs.length≤10
 cn:S.cs.length≤24
 cells:CsOK S.cs.length S.cs
 frames:∀k,k<S.fs.length→FrOK np P (ahead S.fs k) S.cs.length (fmAt S.fs k)
theorem staErr_zero {np:Nat} {P:Nat→Pc} {S:Sta}:staErr np P S=0 ↔ StaOK np P S:=by
 constructor
 ·intro e
  unfold staErr at e
  by_cases h1:S.st<0∨3<S.st∨S.wh < -1000000000∨1000000000<S.wh
  ·rw[if_pos h1]at e;cases e
  rw[if_neg h1]at e
  by_cases h2:(¬S.st=3∧¬S.wh=0)∨(S.st=1∧¬S.fs.length=0)∨(¬S.st=1∧S.fs.length=0)
  ·rw[if_pos h2]at e;cases e
  rw[if_neg h2]at e
  by_cases h3:10<S.fs.length
  ·rw[if_pos h3]at e;cases e
  rw[if_neg h3]at e
  by_cases h4:cellsErr S.cs=0
  ·rw[if_pos h4]at e
   obtain⟨c1,c2⟩:=cellsErr_zero.1 h4
   exact⟨by omega,by omega,by omega,by omega,by omega,by omega,by omega,by omega,c1,c2,fun k hk=>frErr_zero.1 (firstErr_is_zero e k hk)⟩
  ·rw[if_neg h4]at e;exact absurd e h4
 ·intro e
  obtain⟨s0,s1,w0,w1,wz,fi,un,few,cn,ce,fr⟩:=e
  unfold staErr
  rw[if_neg (by omega),if_neg (by omega),if_neg (by omega),if_pos (cellsErr_zero.2 ⟨cn,ce⟩)]
  exact firstErr_zero fun k hk=>frErr_zero.2 (fr k hk)
structure InOK (np:Nat) (par:Nat→Int) (regs:Int) (code:Nat) (i:In):Prop where
 o0:1≤i.op
 o1:i.op≤13
 ra:¬i.op=10→¬i.op=12→0≤i.a∧i.a<regs
 rb:(i.op=2∨i.op=3∨i.op=4∨i.op=6)→0≤i.b∧i.b<regs
 rc:i.op=3→0≤i.c∧i.c<regs
 num:i.op=1→-1000000000≤i.b∧i.b≤1000000000
 opr:i.op=3→i.n=1∧1≤i.z 0∧i.z 0≤5
 fld:(i.op=4∨i.op=6)→0≤i.c∧i.c≤3
 new:i.op=5→1≤i.b∧i.b≤4
 cal:i.op=7→0≤i.b∧i.b<np∧(i.n:Int)=par i.b.toNat∧∀k,k<i.n→0≤i.z k∧i.z k<regs
 jmp:(i.op=12∨i.op=13)→0≤i.b∧i.b<code
theorem fromB_iff {n lo hi:Int}:fromB n lo hi=true ↔ lo≤n∧n≤hi:=by unfold fromB;exact decide_eq_true_iff
theorem insErr_right {np:Nat} {par:Nat→Int} {regs:Int} {code:Nat} {i:In} (h:insErr np par regs code i=0):InOK np par regs code i:=by
 unfold insErr at h
 by_cases h1:fromB i.op 1 13=false
 ·rw[if_pos h1]at h;cases h
 rw[if_neg h1]at h
 by_cases h2:regsB i regs=false
 ·rw[if_pos h2]at h;cases h
 rw[if_neg h2]at h
 by_cases h3:i.op=7∧fromB i.b 0 ((np:Int) - 1)=false
 ·rw[if_pos h3]at h;cases h
 rw[if_neg h3]at h
 by_cases h4:restB i code=false
 ·rw[if_pos h4]at h;cases h
 rw[if_neg h4]at h
 by_cases h5:bareB i=false∨(i.op=7∧¬(i.n:Int)=par i.b.toNat)
 ·rw[if_pos h5]at h;cases h
 rw[if_neg h5]at h
 by_cases h6:i.op=7∧argsB i regs=false
 ·rw[if_pos h6]at h;cases h
 clear h
 have h1:=fromB_iff.1 (Bool.not_eq_false _ ▸ h1)
 have h2:regsB i regs=true:=by simpa using h2
 have h4:restB i code=true:=by simpa using h4
 unfold regsB at h2
 unfold restB at h4
 refine⟨h1.1,h1.2,fun e1 e2=>?_,fun e=>?_,fun e=>?_,fun e=>?_,fun e=>?_,fun e=>?_,fun e=>?_,fun e=>?_,fun e=>?_⟩
 ·rw[if_neg (by omega)]at h2
  by_cases e3:i.op=3
  ·rw[if_pos e3,Bool.and_eq_true,fromB_iff]at h2;omega
  rw[if_neg e3]at h2
  by_cases e4:i.op=2∨i.op=4∨i.op=6
  ·rw[if_pos e4,Bool.and_eq_true,fromB_iff]at h2;omega
  rw[if_neg e4,fromB_iff]at h2;omega
 ·rw[if_neg (by omega)]at h2
  by_cases e3:i.op=3
  ·rw[if_pos e3,Bool.and_eq_true,Bool.and_eq_true,fromB_iff,fromB_iff]at h2;omega
  rw[if_neg e3,if_pos (by omega),Bool.and_eq_true,fromB_iff,fromB_iff]at h2;omega
 ·rw[if_neg (by omega),if_pos e,Bool.and_eq_true,Bool.and_eq_true,fromB_iff,fromB_iff,fromB_iff]at h2;omega
 ·rw[if_pos e,fromB_iff]at h4;omega
 ·rw[if_neg (by omega),if_neg (by omega),if_neg (by omega),if_pos e,Bool.and_eq_true,fromB_iff,decide_eq_true_iff]at h4;omega
 ·rw[if_neg (by omega),if_neg (by omega),if_pos e,fromB_iff]at h4;omega
 ·rw[if_neg (by omega),if_pos e,fromB_iff]at h4;omega
 ·have h3:fromB i.b 0 ((np:Int) - 1)=true:=by simpa[e]using h3
  have h6:argsB i regs=true:=by simpa[e]using h6
  have h5:(i.n:Int)=par i.b.toNat:=by
   by_cases e5:(i.n:Int)=par i.b.toNat
   ·exact e5
   ·exact absurd (Or.inr ⟨e,e5⟩) h5
  rw[fromB_iff]at h3
  unfold argsB at h6
  rw[decide_eq_true_iff]at h6
  exact⟨by omega,by omega,h5,fun k hk=>by have:=h6 k hk;omega⟩
 ·rw[if_neg (by omega),if_neg (by omega),if_neg (by omega),if_neg (by omega),if_pos e,fromB_iff]at h4;omega
structure CodeOK (np:Nat) (P:Nat→Pc):Prop where
 n0:1≤np
 n1:np≤4
 par0:∀k,k<np→0≤(P k).params
 par1:∀k,k<np→(P k).params≤(P k).regs
 par3:∀k,k<np→(P k).params≤3
 r0:∀k,k<np→1≤(P k).regs
 r1:∀k,k<np→(P k).regs≤40
 c0:∀k,k<np→1≤(P k).n
 c1:∀k,k<np→(P k).n≤2000
 ins:∀k,k<np→∀j,j<(P k).n→InOK np (fun k=>(P k).params) (P k).regs (P k).n ((P k).ins j)
theorem codeErr_right {np:Nat} {P:Nat→Pc} (h:codeErr np P=0):CodeOK np P:=by
 unfold codeErr at h
 by_cases h1:np<1∨4<np
 ·rw[if_pos h1]at h;cases h
 rw[if_neg h1]at h
 by_cases h2:firstErr np (fun j=>pcErr j (P j))=0
 ·rw[if_pos h2]at h
  have hd:=firstErr_is_zero h2
  have hp:∀k,k<np→(0≤(P k).params∧(P k).params≤3)∧(max 1 (P k).params≤(P k).regs∧(P k).regs≤40)∧1≤(P k).n∧(P k).n≤2000:=fun k hk=>by
   have e:=hd k hk
   unfold pcErr at e
   by_cases e1:fromB (P k).params 0 3=false∨fromB (P k).regs (max 1 (P k).params) 40=false∨(k=0∧0<(P k).params)
   ·rw[if_pos e1]at e;cases e
   rw[if_neg e1]at e
   by_cases e2:(P k).n<1∨2000<(P k).n
   ·rw[if_pos e2]at e;cases e
   have f1:fromB (P k).params 0 3=true:=by
    cases hb:fromB (P k).params 0 3
    ·exact absurd (Or.inl hb) e1
    ·rfl
   have f2:fromB (P k).regs (max 1 (P k).params) 40=true:=by
    cases hb:fromB (P k).regs (max 1 (P k).params) 40
    ·exact absurd (Or.inr (Or.inl hb)) e1
    ·rfl
   exact⟨fromB_iff.1 f1,fromB_iff.1 f2,by omega,by omega⟩
  refine⟨by omega,by omega,fun k hk=>(hp k hk).1.1,fun k hk=>?_,fun k hk=>(hp k hk).1.2,fun k hk=>?_,fun k hk=>(hp k hk).2.1.2,fun k hk=>(hp k hk).2.2.1,fun k hk=>(hp k hk).2.2.2,fun k hk j hj=>?_⟩
  ·have:=(hp k hk).2.1.1;omega
  ·have:=(hp k hk).2.1.1;omega
  ·have e:=firstErr_is_zero h k hk
   unfold bodyCErr at e
   by_cases e1:firstErr (P k).n (fun j=>insErr np (fun k=>(P k).params) (P k).regs (P k).n ((P k).ins j))=0
   ·exact insErr_right (firstErr_is_zero e1 j hj)
   ·rw[if_neg e1]at e;exact absurd e e1
 ·rw[if_neg h2]at h;exact absurd h h2
/-! ### A frame in the place of the last -/
theorem fmAt_set {fs:List Fm} {i k:Nat} {f:Fm} (h:i<fs.length):fmAt (fs.set i f) k=if k=i then f else fmAt fs k:=getD_set h
theorem ahead_set {fs:List Fm} {i:Nat} {f:Fm} (h:i<fs.length) (hl:f.regs.length=(fmAt fs i).regs.length) (k:Nat):ahead (fs.set i f) k=ahead fs k:=by
 unfold ahead
 split
 ·rfl
 ·rw[fmAt_set h]
  split
  ·rename_i e;rw[e];exact hl
  ·rfl
section
variable {np:Nat} {P:Nat→Pc} {S:Sta}
theorem StaOK.top (h:StaOK np P S) (hn:¬S.fs.length=0):FrOK np P (ahead S.fs (S.fs.length - 1)) S.cs.length (topF S):=h.frames _ (by omega)
theorem StaOK.withTop (h:StaOK np P S) (hn:¬S.fs.length=0) {f:Fm} (hf:FrOK np P (ahead S.fs (S.fs.length - 1)) S.cs.length f) (hl:f.regs.length=(topF S).regs.length):StaOK np P (withTop S f):=by
 have hlt:S.fs.length - 1<S.fs.length:=by omega
 refine⟨h.s0,h.s1,h.w0,h.w1,h.wz,fun e=>?_,fun e=>?_,?_,h.cn,h.cells,fun k hk=>?_⟩
 ·simpa[Go.Proofs.YtfaokaohhchdhaaGreatDoor.withTop]using h.fin e
 ·simpa[Go.Proofs.YtfaokaohhchdhaaGreatDoor.withTop]using h.unfin e
 ·simpa[Go.Proofs.YtfaokaohhchdhaaGreatDoor.withTop]using h.few
 ·have hk':k<S.fs.length:=by simpa[Go.Proofs.YtfaokaohhchdhaaGreatDoor.withTop]using hk
  show FrOK np P (ahead (S.fs.set (S.fs.length - 1) f) k) S.cs.length (fmAt (S.fs.set (S.fs.length - 1) f) k)
  rw[ahead_set hlt hl,fmAt_set hlt]
  split
  ·rename_i e;rw[e];exact hf
  ·exact h.frames k hk'
theorem StaOK.setReg (h:StaOK np P S) (hn:¬S.fs.length=0) (a:Int) {v:Int×Int} (hv:chk v.1 v.2 S.cs.length=0):StaOK np P (setReg S a v):=by
 have ht:=h.top hn
 exact h.withTop hn ⟨ht.p0,ht.p1,ht.a0,ht.a1,ht.t0,ht.t1,by simpa using ht.len,ht.vals.set _ hv⟩ (by simp)
theorem StaOK.setPos (h:StaOK np P S) (hn:¬S.fs.length=0) {k:Int} (h0:0≤k) (h1:k<(procS P S).n):StaOK np P (setPos S k):=by
 have ht:=h.top hn
 exact h.withTop hn ⟨ht.p0,ht.p1,h0,h1,ht.t0,ht.t1,ht.len,ht.vals⟩ rfl
theorem StaOK.status (h:StaOK np P S) {s x:Int} (hs:s=0∧x=0∨s=2∧x=0∨s=3∧-1000000000≤x∧x≤1000000000) (hn:¬S.st=1):StaOK np P ⟨S.fs,S.cs,s,x⟩ :=
 ⟨by show 0≤s;omega,by show s≤3;omega,by show _≤x;omega,by show x≤_;omega,fun e=>(by show x=0;have:¬s=3:=e;omega),fun e=>absurd e (by show ¬s=1;omega),fun _=>h.unfin hn,h.few,h.cn,h.cells,h.frames⟩
theorem StaOK.setField (h:StaOK np P S) {v:Int×Int} {c:Int} {x:Int×Int} (hv:chk x.1 x.2 S.cs.length=0):StaOK np P (setField S v c x):=by
 have hlen:(Go.Proofs.YtfaokaohhchdhaaGreatDoor.setField S v c x).cs.length=S.cs.length:=by simp[Go.Proofs.YtfaokaohhchdhaaGreatDoor.setField]
 have hm:∀r,r ∈ (Go.Proofs.YtfaokaohhchdhaaGreatDoor.setField S v c x).cs→r ∈ S.cs∨(∃q,q ∈ S.cs∧r=q.set c.toNat x):=fun r hr=>by
  by_cases e:v.2.toNat<S.cs.length
  ·rcases List.mem_or_eq_of_mem_set hr with hr|rfl
   ·exact Or.inl hr
   ·exact Or.inr ⟨_,getD_mem e,rfl⟩
  ·rw[show (Go.Proofs.YtfaokaohhchdhaaGreatDoor.setField S v c x).cs=S.cs from List.set_eq_of_length_le (by omega)]at hr
   exact Or.inl hr
 refine⟨h.s0,h.s1,h.w0,h.w1,h.wz,h.fin,h.unfin,h.few,by rw[hlen];exact h.cn,⟨fun r hr=>?_,fun r hr=>?_,fun r hr=>?_⟩,fun k hk=>by rw[hlen];exact h.frames k hk⟩
 ·rcases hm r hr with hr|⟨q,hq,rfl⟩
  ·exact h.cells.lo r hr
  ·simpa using h.cells.lo q hq
 ·rcases hm r hr with hr|⟨q,hq,rfl⟩
  ·exact h.cells.hi r hr
  ·simpa using h.cells.hi q hq
 ·rw[hlen]
  rcases hm r hr with hr|⟨q,hq,rfl⟩
  ·exact h.cells.vals r hr
  ·exact (h.cells.vals q hq).set _ hv
theorem FrOK.up {h nc nc':Nat} {f:Fm} (hf:FrOK np P h nc f) (hn:nc≤nc'):FrOK np P h nc' f:=⟨hf.p0,hf.p1,hf.a0,hf.a1,hf.t0,hf.t1,hf.len,hf.vals.up hn⟩
theorem StaOK.withCell (h:StaOK np P S) {n:Int} (hn:1≤n∧n≤4) (hc:¬S.cs.length=24):StaOK np P (withCell S n):=by
 have hlen:(Go.Proofs.YtfaokaohhchdhaaGreatDoor.withCell S n).cs.length=S.cs.length+1:=by simp[Go.Proofs.YtfaokaohhchdhaaGreatDoor.withCell]
 have hcn:=h.cn
 have hm:∀r,r ∈ (Go.Proofs.YtfaokaohhchdhaaGreatDoor.withCell S n).cs→r ∈ S.cs∨r=List.replicate n.toNat (0,0):=fun r hr=>by
  rcases List.mem_append.1 hr with hr|hr
  ·exact Or.inl hr
  ·exact Or.inr (List.mem_singleton.1 hr)
 refine⟨h.s0,h.s1,h.w0,h.w1,h.wz,h.fin,h.unfin,h.few,by rw[hlen];omega,⟨fun r hr=>?_,fun r hr=>?_,fun r hr=>?_⟩,fun k hk=>by rw[hlen];exact (h.frames k hk).up (by omega)⟩
 ·rcases hm r hr with hr|rfl
  ·exact h.cells.lo r hr
  ·simp;omega
 ·rcases hm r hr with hr|rfl
  ·exact h.cells.hi r hr
  ·simp;omega
 ·rw[hlen]
  rcases hm r hr with hr|rfl
  ·exact (h.cells.vals r hr).up (by omega)
  ·intro v hv
   obtain⟨_,rfl⟩:=List.mem_replicate.1 hv
   rfl
/-! ### The sweep -/
theorem mem_regsOf {fs:List Fm} {v:Int×Int}:v ∈ regsOf fs ↔ ∃f,f ∈ fs∧v ∈ f.regs:=by
 unfold regsOf
 rw[List.mem_flatten]
 constructor
 ·rintro⟨l,hl,hv⟩
  obtain⟨f,hf,rfl⟩:=List.mem_map.1 hl
  exact⟨f,hf,hv⟩
 ·rintro⟨f,hf,hv⟩
  exact⟨_,List.mem_map.2 ⟨f,hf,rfl⟩,hv⟩
theorem regsOf_len {fs:List Fm} {m:Nat} (h:∀f,f ∈ fs→f.regs.length≤m):(regsOf fs).length≤fs.length*m:=by
 induction fs with
 | nil=>simp[regsOf]
 | cons f r ih =>
  have h1:=h f (by simp)
  have h2:=ih fun g hg=>h g (by simp[hg])
  have e:(regsOf (f::r)).length=f.regs.length+(regsOf r).length:=by simp[regsOf]
  rw[e,List.length_cons,Nat.succ_mul];omega
theorem StaOK.frame (h:StaOK np P S) {f:Fm} (hf:f ∈ S.fs):∃hd,FrOK np P hd S.cs.length f:=by
 obtain⟨i,hi,e⟩:=mem_getD' (d:=noFm) hf
 have e1:fmAt S.fs i=f:=e
 rw[←e1]
 exact⟨_,h.frames i hi⟩
theorem StaOK.valid (hc:CodeOK np P) (h:StaOK np P S):Valid S.cs.length (cLen S.cs) (cK S.cs) (cZ S.cs) (regsOf S.fs).length (fstAt (regsOf S.fs)) (sndAt (regsOf S.fs)):=by
 refine⟨h.cn,fun i hi=>h.cells.lo _ (getD_mem hi),fun i hi=>h.cells.hi _ (getD_mem hi),fun i hi j hj=>h.cells.vals _ (getD_mem hi) _ (pair_at hj),?_,fun j hj=>?_⟩
 ·have h1:=regsOf_len (fs:=S.fs) (m:=40) fun f hf=>by
   obtain⟨hd,k⟩:=h.frame hf
   have:=hc.r1 f.proc.toNat (by have:=k.p0;have:=k.p1;omega)
   have:=k.len
   omega
  have:=h.few
  omega
 ·obtain⟨f,hf,hv⟩:=mem_regsOf.1 (pair_at hj)
  obtain⟨hd,k⟩:=h.frame hf
  exact k.vals _ hv
theorem StaOK.reached (hc:CodeOK np P) (h:StaOK np P S):Good S.cs.length (reachedS S):=rt_good (h.valid hc) _
theorem reg_reached {f:Fm} (hf:f ∈ S.fs) {v:Int×Int} (hv:v ∈ f.regs) (hk:v.1=2):v.2 ∈ reachedS S:=by
 obtain⟨i,hi,e⟩:=at_pair (mem_regsOf.2 ⟨f,hf,hv⟩)
 have e1:v.1=fstAt (regsOf S.fs) i:=congrArg Prod.fst e
 have e2:v.2=sndAt (regsOf S.fs) i:=congrArg Prod.snd e
 rw[e2]
 exact reached_from hi (by rw[←e1];exact hk)
theorem field_reached (hc:CodeOK np P) (h:StaOK np P S) {n:Int} (hn:n ∈ reachedS S) {v:Int×Int} (hv:v ∈ S.cs.getD n.toNat []) (hk:v.1=2):v.2 ∈ reachedS S:=by
 obtain⟨i,hi,e⟩:=at_pair hv
 have e1:v.1=cK S.cs n.toNat i:=congrArg Prod.fst e
 have e2:v.2=cZ S.cs n.toNat i:=congrArg Prod.snd e
 rw[e2]
 have hn0:=((h.reached hc).2 n hn).1
 exact reached_closed (h.valid hc) (c:=n.toNat) (by rw[show ((n.toNat:Nat):Int)=n by omega];exact hn) hi (by rw[←e1];exact hk)
theorem renum_ok {R:List Int} {v:Int×Int} {nc:Nat} (h:chk v.1 v.2 nc=0) (hr:v.1=2→v.2 ∈ R):chk (renum R v).1 (renum R v).2 R.length=0:=by
 unfold renum
 split
 ·rename_i e
  have:=List.idxOf_lt_length_of_mem (hr e)
  exact chk_at ⟨by show (0:Int)≤_;omega,by show _<_;omega⟩
 ·rename_i e
  exact chk_any h e
theorem row_renum {R:List Int} {L:List (Int×Int)} {nc:Nat} (h:rowOK nc L) (hr:∀v,v ∈ L→v.1=2→v.2 ∈ R):rowOK R.length (L.map (renum R)):=fun x hx=>by
 obtain⟨v,hv,rfl⟩:=List.mem_map.1 hx
 exact renum_ok (h v hv) (hr v hv)
theorem fmAt_map {fs:List Fm} {g:Fm→Fm} {k:Nat} (h:k<fs.length):fmAt (fs.map g) k=g (fmAt fs k):=by
 unfold fmAt
 rw[List.getD_eq_getElem?_getD,List.getD_eq_getElem?_getD,List.getElem?_map,List.getElem?_eq_getElem h];rfl
theorem swept_ahead (R:List Int) (fs:List Fm) {k:Nat} (h:k<fs.length):ahead (fs.map (renumF R)) k=ahead fs k:=by
 unfold ahead
 split
 ·rfl
 ·rw[fmAt_map (by omega)];simp[renumF]
theorem sweptS_cells (S:Sta):(sweptS S).cs.length=(reachedS S).length:=by simp[sweptS]
theorem StaOK.swept (hc:CodeOK np P) (h:StaOK np P S):StaOK np P (sweptS S):=by
 have hg:=h.reached hc
 have hgl:=hg.len
 have hcn:=h.cn
 have hlen:=sweptS_cells S
 have hfl:(sweptS S).fs.length=S.fs.length:=by simp[sweptS]
 refine⟨h.s0,h.s1,h.w0,h.w1,h.wz,fun e=>by rw[hfl];exact h.fin e,fun e=>by rw[hfl];exact h.unfin e,by rw[hfl];exact h.few,by omega,⟨fun r hr=>?_,fun r hr=>?_,fun r hr=>?_⟩,fun k hk=>?_⟩
 ·obtain⟨n,hn,rfl⟩:=List.mem_map.1 hr
  have hn1:=hg.2 n hn
  rw[List.length_map]
  exact h.cells.lo _ (getD_mem (by omega))
 ·obtain⟨n,hn,rfl⟩:=List.mem_map.1 hr
  have hn1:=hg.2 n hn
  rw[List.length_map]
  exact h.cells.hi _ (getD_mem (by omega))
 ·obtain⟨n,hn,rfl⟩:=List.mem_map.1 hr
  have hn1:=hg.2 n hn
  rw[hlen]
  exact row_renum (h.cells.vals _ (getD_mem (by omega))) fun v hv hk=>field_reached hc h hn hv hk
 ·rw[hfl]at hk
  have hf:=h.frames k hk
  show FrOK np P (ahead (S.fs.map (renumF (reachedS S))) k) (sweptS S).cs.length (fmAt (S.fs.map (renumF (reachedS S))) k)
  rw[swept_ahead _ _ hk,fmAt_map hk,hlen]
  exact⟨hf.p0,hf.p1,hf.a0,hf.a1,hf.t0,hf.t1,by simpa[renumF]using hf.len,row_renum hf.vals fun v hv hk2=>reg_reached (getD_mem hk) hv hk2⟩
end
section
variable {np:Nat} {P:Nat→Pc} {S:Sta}
theorem fmAt_lt {fs gs:List Fm} {k:Nat} (h:k<fs.length):fmAt (fs++gs) k=fmAt fs k:=by
 unfold fmAt
 rw[List.getD_eq_getElem?_getD,List.getElem?_append_left h,List.getD_eq_getElem?_getD]
theorem fmAt_end {fs:List Fm} {f:Fm}:fmAt (fs++[f]) fs.length=f:=by
 unfold fmAt
 rw[List.getD_eq_getElem?_getD,List.getElem?_append_right (Nat.le_refl _)];simp
theorem fmAt_take {fs:List Fm} {n k:Nat} (h:k<n):fmAt (fs.take n) k=fmAt fs k:=by
 unfold fmAt
 rw[List.getD_eq_getElem?_getD,List.getElem?_take_of_lt h,List.getD_eq_getElem?_getD]
theorem ahead_lt {fs gs:List Fm} {k:Nat} (h:k≤fs.length):ahead (fs++gs) k=ahead fs k:=by
 unfold ahead
 split
 ·rfl
 ·rw[fmAt_lt (by omega)]
theorem ahead_take {fs:List Fm} {n k:Nat} (h:k<n):ahead (fs.take n) k=ahead fs k:=by
 unfold ahead
 split
 ·rfl
 ·rw[fmAt_take (by omega)]
theorem topF_setPos (S:Sta) (k:Int) (hn:¬S.fs.length=0):topF (setPos S k)=⟨(topF S).proc,k,(topF S).regs,(topF S).to⟩:=by
 unfold topF setPos withTop
 rw[List.length_set,fmAt_set (by omega),if_pos rfl];rfl
theorem argRegs_len (n:Nat) (i:In) (L:List (Int×Int)):(argRegs n i L).length=n:=by simp[argRegs]
theorem argRegs_ok {n:Nat} {i:In} {L:List (Int×Int)} {nc:Nat} (h:rowOK nc L):rowOK nc (argRegs n i L):=fun v hv=>by
 obtain⟨k,_,rfl⟩:=List.mem_map.1 hv
 split
 ·exact h.at _
 ·rfl
theorem StaOK.call (hc:CodeOK np P) (h:StaOK np P S) (hn:¬S.fs.length=0) (h10:¬S.fs.length=10) {i:In} (hb:0≤i.b∧i.b<np) (ha:0≤i.a∧i.a<(procS P S).regs):StaOK np P (callS P S i):=by
 have hf:=h.few
 have ht:=h.top hn
 have hlen:(callS P S i).fs.length=S.fs.length+1:=by simp[callS]
 have hs1:¬S.st=1:=fun e=>hn (h.fin e)
 refine⟨h.s0,h.s1,h.w0,h.w1,h.wz,fun e=>absurd e hs1,fun _=>by omega,by omega,h.cn,h.cells,fun k hk=>?_⟩
 show FrOK np P (ahead (S.fs++[_]) k) S.cs.length (fmAt (S.fs++[_]) k)
 by_cases e:k<S.fs.length
 ·rw[ahead_lt (by omega),fmAt_lt e];exact h.frames k e
 ·obtain rfl:k=S.fs.length:=by omega
  rw[ahead_lt (Nat.le_refl _),fmAt_end]
  have hbn:i.b.toNat<np:=by omega
  have r0:=hc.r0 _ hbn
  have c0:=hc.c0 _ hbn
  refine⟨hb.1,hb.2,Int.le_refl _,by show (0:Int)<_;simp only[];omega,ha.1,?_,?_,argRegs_ok ht.vals⟩
  ·show i.a<((ahead S.fs S.fs.length:Nat):Int)
   unfold ahead
   rw[if_neg hn]
   have:=ht.len
   have h2:=ha.2
   unfold procS at h2
   show i.a<((topF S).regs.length:Int)
   omega
  ·show ((argRegs _ _ _).length:Int)=_
   rw[argRegs_len];simp only[];omega
theorem StaOK.pop (h:StaOK np P S) (hn:¬S.fs.length - 1=0):StaOK np P (popS S):=by
 have hlen:(popS S).fs.length=S.fs.length - 1:=by simp[popS]
 have hf:=h.few
 have hs1:¬S.st=1:=fun e=>hn (by have:=h.fin e;omega)
 refine⟨h.s0,h.s1,h.w0,h.w1,h.wz,fun e=>absurd e hs1,fun _=>by omega,by omega,h.cn,h.cells,fun k hk=>?_⟩
 show FrOK np P (ahead (S.fs.take _) k) S.cs.length (fmAt (S.fs.take _) k)
 rw[ahead_take (by omega),fmAt_take (by omega)]
 exact h.frames k (by omega)
theorem StaOK.back (h:StaOK np P S) (hs:S.st=0) {v:Int×Int} (hv:chk v.1 v.2 S.cs.length=0):StaOK np P (backS S v):=by
 unfold backS
 split
 ·have:=h.wz (by omega)
  exact⟨by show (0:Int)≤1;decide,by show (1:Int)≤3;decide,h.w0,h.w1,fun _=>this,fun _=>rfl,fun e=>absurd rfl e,Nat.zero_le _,h.cn,h.cells,fun k hk=>absurd hk (Nat.not_lt_zero _)⟩
 ·rename_i hn
  exact (h.pop hn).setReg (by simp[popS];omega) _ hv
theorem opM_ok {op:Int} {a b v:Int×Int} {nc:Nat} (h:opM op a b=some v):chk v.1 v.2 nc=0:=by
 unfold opM at h
 split at h
 ·injection h with h;subst h
  refine chk_num ?_
  split<;>decide
 ·split at h
  ·cases h
  ·split at h
   ·injection h with h;subst h
    refine chk_num ?_
    split<;>decide
   ·split at h
    ·rename_i hr
     injection h with h;subst h
     exact chk_num hr
    ·cases h
theorem StaOK.room (hc:CodeOK np P) (h:StaOK np P S):StaOK np P (roomS S):=by
 unfold roomS;split
 ·exact h.swept hc
 ·exact h
theorem roomS_fs (S:Sta):(roomS S).fs.length=S.fs.length:=by
 unfold roomS;split
 ·simp[sweptS]
 ·rfl
theorem roomS_st (S:Sta):(roomS S).st=S.st:=by
 unfold roomS;split<;>rfl
theorem valueM_right (hc:CodeOK np P) (h:StaOK np P S) (hn:¬S.fs.length=0) {i:In} (hi:InOK np (fun k=>(P k).params) (procS P S).regs (procS P S).n i) {x:Sta×(Int×Int)} (e:valueM S i=some x):StaOK np P x.1∧¬x.1.fs.length=0∧x.1.st=S.st∧chk x.2.1 x.2.2 x.1.cs.length=0:=by
 have ht:=h.top hn
 unfold valueM at e
 split at e
 ·rename_i o
  injection e with e;subst e
  exact⟨h,hn,rfl,chk_num (hi.num o)⟩
 split at e
 ·injection e with e;subst e
  exact⟨h,hn,rfl,ht.vals.at _⟩
 split at e
 ·cases hv:opM (i.z 0) (regAt (topF S).regs i.b) (regAt (topF S).regs i.c) with
  | none=>rw[hv]at e;cases e
  | some v =>
   rw[hv]at e
   injection e with e;subst e
   exact⟨h,hn,rfl,opM_ok hv⟩
 split at e
 ·rename_i o
  split at e
  ·cases e
  ·rename_i h24
   injection e with e;subst e
   have hr:=h.room hc
   have hl:(withCell (roomS S) i.b).cs.length=(roomS S).cs.length+1:=by simp[withCell]
   refine⟨hr.withCell (hi.new o) h24,?_,roomS_st S,chk_at ⟨?_,?_⟩⟩
   ·show ¬(roomS S).fs.length=0
    rw[roomS_fs];exact hn
   ·show (0:Int)≤((roomS S).cs.length:Int);omega
   ·show ((roomS S).cs.length:Int)<_
    rw[hl];omega
 split at e
 ·injection e with e;subst e
  refine⟨h,hn,rfl,?_⟩
  show chk (fieldOf _ _ _).1 (fieldOf _ _ _).2 S.cs.length=0
  unfold fieldOf
  by_cases hk:(regAt (topF S).regs i.b).2.toNat<S.cs.length
  ·exact (h.cells.vals _ (getD_mem hk)).at _
  ·rw[getD_none (by omega)];rfl
 ·cases e
theorem doM_right (hc:CodeOK np P) (h:StaOK np P S) (hs:S.st=0) {i:In} (hi:InOK np (fun k=>(P k).params) (procS P S).regs (procS P S).n i) {S':Sta} {l:List Int} {b:Bool} (e:doM P S i=some (S',l,b)):StaOK np P S'∧(l=[]∨(i.op=9∧∃x,l=[x])):=by
 have hn:¬S.fs.length=0:=h.unfin (by omega)
 have ht:=h.top hn
 unfold doM at e
 split at e
 ·split at e
  ·injection e with e;injection e with e1 e2;injection e2 with e2 e3;subst e1 e2
   exact⟨h.setField (ht.vals.at _),Or.inl rfl⟩
  ·cases e
 split at e
 ·rename_i o
  split at e
  ·cases e
  ·rename_i h10
   injection e with e;injection e with e1 e2;injection e2 with e2 e3;subst e1 e2
   exact⟨h.call hc hn h10 ⟨(hi.cal o).1,(hi.cal o).2.1⟩ (hi.ra (by omega) (by omega)),Or.inl rfl⟩
 split at e
 ·injection e with e;injection e with e1 e2;injection e2 with e2 e3;subst e1 e2
  exact⟨h.back hs (ht.vals.at _),Or.inl rfl⟩
 split at e
 ·rename_i o
  split at e
  ·injection e with e;injection e with e1 e2;injection e2 with e2 e3;subst e1 e2
   exact⟨h,Or.inr ⟨o,_,rfl⟩⟩
  ·cases e
 split at e
 ·injection e with e;injection e with e1 e2;injection e2 with e2 e3;subst e1 e2
  exact⟨h,Or.inl rfl⟩
 split at e
 ·split at e
  ·rename_i hk
   injection e with e;injection e with e1 e2;injection e2 with e2 e3;subst e1 e2
   have:=ht.vals.at i.a
   rw[hk]at this
   exact⟨h.status (Or.inr (Or.inr ⟨rfl,chk_int this⟩)) (by omega),Or.inl rfl⟩
  ·cases e
 split at e
 ·rename_i o
  injection e with e;injection e with e1 e2;injection e2 with e2 e3;subst e1 e2
  have:=hi.jmp (Or.inl o)
  exact⟨h.setPos hn this.1 this.2,Or.inl rfl⟩
 split at e
 ·rename_i o
  injection e with e;injection e with e1 e2;injection e2 with e2 e3;subst e1 e2
  have:=hi.jmp (Or.inr o)
  refine⟨?_,Or.inl rfl⟩
  split
  ·exact h.setPos hn this.1 this.2
  ·exact h
 ·cases hv:valueM S i with
  | none=>rw[hv]at e;cases e
  | some x =>
   rw[hv]at e
   injection e with e;injection e with e1 e2;injection e2 with e2 e3;subst e1 e2
   obtain⟨v1,v2,v3,v4⟩:=valueM_right hc h hn hi hv
   exact⟨v1.setReg v2 _ v4,Or.inl rfl⟩
theorem nextPos_in (hc:CodeOK np P) (h:StaOK np P S) (hn:¬S.fs.length=0):0≤nextPos P S∧nextPos P S<(procS P S).n:=by
 have ht:=h.top hn
 have:=hc.c0 _ (show (topF S).proc.toNat<np by have:=ht.p0;have:=ht.p1;omega)
 have:=ht.a0
 unfold nextPos procS
 omega
theorem insS_right (hc:CodeOK np P) (h:StaOK np P S) (hn:¬S.fs.length=0):InOK np (fun k=>(P k).params) (procS P S).regs (procS P S).n (insS P S):=by
 have ht:=h.top hn
 have:=ht.a0
 have:=ht.a1
 exact hc.ins _ (by have:=ht.p0;have:=ht.p1;omega) _ (by show (topF S).pos.toNat<_;omega)
theorem procS_setPos (S:Sta) (k:Int) (hn:¬S.fs.length=0):procS P (setPos S k)=procS P S:=by
 unfold procS;rw[topF_setPos S k hn]
theorem stepM_right {R:Rn} (hc:CodeOK np P) (h:StaOK np P R.s) (hs:R.s.st=0):StaOK np P (stepM P R).s∧R.said.length≤(stepM P R).said.length∧(stepM P R).said.length≤R.said.length+1∧((stepM P R).said.length=R.said.length∨(insS P R.s).op=9):=by
 have hn:¬R.s.fs.length=0:=h.unfin (by omega)
 obtain⟨n0,n1⟩:=nextPos_in hc h hn
 have hp:=h.setPos hn n0 n1
 unfold stepM
 cases hv:doM P (setPos R.s (nextPos P R.s)) (insS P R.s) with
 | none =>
  refine⟨h.status (Or.inr (Or.inl ⟨rfl,h.wz (by omega)⟩)) (by omega),?_,?_,Or.inl rfl⟩<;>simp
 | some x =>
  obtain⟨S',l,b⟩:=x
  obtain⟨h1,h2⟩:=doM_right hc hp hs (by rw[procS_setPos _ _ hn];exact insS_right hc h hn) hv
  refine⟨h1,?_⟩
  rcases h2 with rfl|⟨o,x,rfl⟩
  ·simp
  ·simp[o]
theorem runM_right (hc:CodeOK np P):∀(k:Nat) (R:Rn),StaOK np P R.s→R.said.length≤40→StaOK np P (runM P k R).1.s∧(runM P k R).1.said.length≤40∧(runM P k R).2≤k∧(runM P k R).1.said.length≤R.said.length+(runM P k R).2
 | 0,R,h,hl=>⟨h,hl,Nat.le_refl _,Nat.le_refl _⟩
 | k+1,R,h,hl=>by
  unfold runM
  split
  ·rename_i hg
   unfold goesB at hg
   rw[Bool.and_eq_true,Bool.and_eq_true,Bool.or_eq_true,decide_eq_true_iff,decide_eq_true_iff]at hg
   obtain⟨h1,h2,h3,h4⟩:=stepM_right hc h hg.1
   have hl':(stepM P R).said.length≤40:=by
    rcases hg.2.2 with e|e
    ·omega
    ·have:¬(insS P R.s).op=9:=by simpa using e
     omega
   obtain⟨i1,i2,i3,i4⟩:=runM_right hc k (stepM P R) h1 hl'
   exact⟨i1,i2,by show (runM P k (stepM P R)).2+1≤k+1;omega,by show (runM P k (stepM P R)).1.said.length≤R.said.length+((runM P k (stepM P R)).2+1);omega⟩
  ·exact⟨h,hl,Nat.zero_le _,Nat.le_refl _⟩
theorem itM_right (hc:CodeOK np P) {R:Rn} (h:StaOK np P R.s) (hl:R.said.length≤40):∀k,(∀j,j<k→goesB P (itM P R j)=true)→StaOK np P (itM P R k).s∧(itM P R k).said.length≤40
 | 0,_=>⟨h,hl⟩
 | k+1,hj=>by
  obtain⟨h1,h2⟩:=itM_right hc h hl k fun j hjk=>hj j (by omega)
  have hg:=hj k (by omega)
  unfold goesB at hg
  rw[Bool.and_eq_true,Bool.and_eq_true,Bool.or_eq_true,decide_eq_true_iff,decide_eq_true_iff]at hg
  obtain⟨i1,i2,i3,i4⟩:=stepM_right hc h1 hg.1
  refine⟨i1,?_⟩
  show (stepM P (itM P R k)).said.length≤40
  rcases hg.2.2 with e|e
  ·omega
  ·have:¬(insS P (itM P R k).s).op=9:=by simpa using e
   omega
end
end
section
open Go.ChangeShapes Go.WideShapes Go.ChangeAt Go.RowKit
def NumsAt (N:Nat) (w:World) (v:Value) (n:Nat) (z:Nat→Int):Prop :=
 ∃a cap,v=.slice a n cap∧n≤9223372036854775807∧(n=0∨∃b o,a=some ⟨b,o,none⟩∧b<N∧∀i,i<n→w.cell? ⟨b,o+i,none⟩=some (.int .i64 (z i)))
def CodeAt (N:Nat) (w:World) (v:Value) (n:Nat) (ins:Nat→In):Prop :=
 ∃a cap,v=.slice a n cap∧n≤9223372036854775807∧(n=0∨∃b o,a=some ⟨b,o,none⟩∧b<N∧∀i,i<n→∃va,
  w.cell? ⟨b,o+i*5,none⟩=some (.int .i64 (ins i).op)∧w.cell? ⟨b,o+i*5+1,none⟩=some (.int .i64 (ins i).a)∧w.cell? ⟨b,o+i*5+2,none⟩=some (.int .i64 (ins i).b) ∧
   w.cell? ⟨b,o+i*5+3,none⟩=some (.int .i64 (ins i).c)∧w.cell? ⟨b,o+i*5+4,none⟩=some va∧NumsAt N w va (ins i).n (ins i).z)
def ProcsAt (N:Nat) (w:World) (v:Value) (np:Nat) (P:Nat→Pc):Prop :=
 ∃a cap,v=.slice a np cap∧np≤9223372036854775807∧(np=0∨∃b o,a=some ⟨b,o,none⟩∧b<N∧∀i,i<np→∃vc,
  w.cell? ⟨b,o+i*3,none⟩=some (.int .i64 (P i).params)∧w.cell? ⟨b,o+i*3+1,none⟩=some (.int .i64 (P i).regs)∧w.cell? ⟨b,o+i*3+2,none⟩=some vc∧CodeAt N w vc (P i).n (P i).ins)
theorem NumsAt.below {N:Nat} {w w':World} {v:Value} {n:Nat} {z:Nat→Int} (h:NumsAt N w v n z) (hb:Below N w w'):NumsAt N w' v n z:=by
 obtain⟨a,cap,rfl,hn,h|⟨b,o,rfl,hlt,hc⟩⟩:=h
 ·exact⟨a,cap,rfl,hn,Or.inl h⟩
 ·exact⟨_,cap,rfl,hn,Or.inr ⟨b,o,rfl,hlt,fun i hi=>by rw[hb.cell hlt];exact hc i hi⟩⟩
theorem CodeAt.below {N:Nat} {w w':World} {v:Value} {n:Nat} {ins:Nat→In} (h:CodeAt N w v n ins) (hb:Below N w w'):CodeAt N w' v n ins:=by
 obtain⟨a,cap,rfl,hn,h|⟨b,o,rfl,hlt,hc⟩⟩:=h
 ·exact⟨a,cap,rfl,hn,Or.inl h⟩
 ·refine⟨_,cap,rfl,hn,Or.inr ⟨b,o,rfl,hlt,fun i hi=>?_⟩⟩
  obtain⟨va,c0,c1,c2,c3,c4,hv⟩:=hc i hi
  exact⟨va,by rw[hb.cell hlt];exact c0,by rw[hb.cell hlt];exact c1,by rw[hb.cell hlt];exact c2,by rw[hb.cell hlt];exact c3,by rw[hb.cell hlt];exact c4,hv.below hb⟩
theorem ProcsAt.below {N:Nat} {w w':World} {v:Value} {np:Nat} {P:Nat→Pc} (h:ProcsAt N w v np P) (hb:Below N w w'):ProcsAt N w' v np P:=by
 obtain⟨a,cap,rfl,hn,h|⟨b,o,rfl,hlt,hc⟩⟩:=h
 ·exact⟨a,cap,rfl,hn,Or.inl h⟩
 ·refine⟨_,cap,rfl,hn,Or.inr ⟨b,o,rfl,hlt,fun i hi=>?_⟩⟩
  obtain⟨vc,c0,c1,c2,hv⟩:=hc i hi
  exact⟨vc,by rw[hb.cell hlt];exact c0,by rw[hb.cell hlt];exact c1,by rw[hb.cell hlt];exact c2,hv.below hb⟩
theorem NumsAt.shape {N:Nat} {w:World} {v:Value} {n:Nat} {z:Nat→Int} (h:NumsAt N w v n z):∃a cap,v=.slice a n cap∧n≤9223372036854775807:=by
 obtain⟨a,cap,rfl,hn,_⟩:=h;exact⟨a,cap,rfl,hn⟩
set_option maxHeartbeats 1000000 in
theorem isFrom (n lo hi:Int) (w:World):Calls Tryz.prog 95 #[.int .i64 n,.int .i64 lo,.int .i64 hi] w fun e w'=>e=.returned (.bool (fromB n lo hi))∧w'=w:=by
 go_enter Tryz.func95,Tryz.ntmps95
 go_wp2
 all_goals
  go_ret
  refine⟨ret_bool ?_,rfl⟩
  go_light
  unfold fromB
  simp_all
  try omega
set_option maxHeartbeats 4000000 in
theorem bare (i:In) (a:Option Addr) (cap:Nat) (w:World):Calls Tryz.prog 176 #[.agg #[.int .i64 i.op,.int .i64 i.a,.int .i64 i.b,.int .i64 i.c,.slice a i.n cap]] w fun e w'=>e=.returned (.bool (bareB i))∧Below w.heap.size w w':=by
 obtain⟨op,x,y,z,n,f⟩:=i
 go_enter Tryz.func176,Tryz.ntmps176
 go_wp2
 all_goals
  go_ret
  refine⟨ret_bool ?_,below_alloc _ _⟩
  go_light
  unfold bareB
  simp_all
  try (rw[Bool.eq_iff_iff];simp;try omega)
set_option maxHeartbeats 4000000 in
theorem restFits (N:Nat) (i:In) (v:Value) (code:Int) (hc:1≤code) (hc2:code≤100000) (w:World) (hN:N≤w.heap.size) (h:NumsAt N w v i.n i.z) :
  Calls Tryz.prog 175 #[.agg #[.int .i64 i.op,.int .i64 i.a,.int .i64 i.b,.int .i64 i.c,v],.int .i64 code] w fun e w'=>e=.returned (.bool (restB i code))∧Below w.heap.size w w':=by
 obtain⟨op,x,y,z,n,f⟩:=i
 obtain⟨a,cap,rfl,hn,h⟩:=h
 have HF:Hid (∀n lo hi wi,Calls Tryz.prog 95 #[.int .i64 n,.int .i64 lo,.int .i64 hi] wi fun e w'=>e=.returned (.bool (fromB n lo hi))∧w'=wi):=isFrom
 by_cases h1:n=1
 ·subst h1
  obtain⟨b,o,rfl,hb,hc0⟩:∃b o,a=some ⟨b,o,none⟩∧b<N∧∀i,i<1→w.cell? ⟨b,o+i,none⟩=some (.int .i64 (f i)):=by
   rcases h with h|h
   ·cases h
   ·exact h
  have q0:∀ob:Obj,(w.alloc ob).cell? ⟨b,o,none⟩=some (.int .i64 (f 0)):=fun ob=>by
   rw[(below_alloc w ob).cell (p:=⟨b,o,none⟩) (Nat.lt_of_lt_of_le hb hN)];exact hc0 0 (by omega)
  clear hc0 h
  go_enter Tryz.func175,Tryz.ntmps175
  go_wp2_with (go_at_call 95;refine (HF.out _ _ _ _).mono ?_;rintro e w1 ⟨rfl,h1⟩;rw[h1];clear h1)
  all_goals
   go_ret
   refine⟨ret_bool ?_,below_alloc _ _⟩
   go_light
   unfold restB
   simp_all
 ·have h1i:((n:Int) == 1)=false:=by simp;omega
  have h1n:decide (n=1)=false:=by simp[h1]
  clear h
  go_enter Tryz.func175,Tryz.ntmps175
  go_wp2_with (go_at_call 95;refine (HF.out _ _ _ _).mono ?_;rintro e w1 ⟨rfl,h1⟩;rw[h1];clear h1)
  all_goals
   go_ret
   refine⟨ret_bool ?_,below_alloc _ _⟩
   go_light
   unfold restB
   simp_all
end
end Go.Proofs.YtfaokaohhchdhaaGreatDoor
