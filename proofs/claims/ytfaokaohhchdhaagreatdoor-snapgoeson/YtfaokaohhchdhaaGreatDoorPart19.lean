/- step, of a run at work. -/
import Derived.Test.YtfaokaohhchdhaaGreatDoorPart18
import Derived.Test.YtfaokaohhchdhaaGreatDoorPart11
import Derived.Test.YtfaokaohhchdhaaGreatDoorVmCopied
namespace Go.Proofs.YtfaokaohhchdhaaGreatDoor
open Go.RowKit Go.Maps
theorem setPos_back (S:Sta) (k:Int) (hn:¬S.fs.length=0):setPos (setPos S k) (topF S).pos=S:=by
 have e:=topF_setPos S k hn
 unfold setPos at e ⊢
 rw[e]
 unfold withTop
 simp only[List.length_set,List.set_set]
 have e2:S.fs.set (S.fs.length - 1) ⟨(topF S).proc,(topF S).pos,(topF S).regs,(topF S).to⟩=S.fs:=by
  refine List.ext_getElem (by simp) fun i h1 h2=>?_
  rw[List.getElem_set]
  split
  ·rename_i h
   subst h
   unfold topF fmAt
   rw[List.getD_eq_getElem?_getD,List.getElem?_eq_getElem h2];rfl
  ·rfl
 rw[e2]
theorem ProcsAt.ins {M:Nat} {w:World} {pv:Value} {np:Nat} {P:Nat→Pc} (h:ProcsAt M w pv np P) {k j:Nat} (hk:k<np) (hj:j<(P k).n):∃pb poo pc cb co cc aa ac,pv=.slice (some ⟨pb,poo,none⟩) np pc∧pb<M∧cb<M∧w.cell? ⟨pb,poo+k*3+1,none⟩=some (.int .i64 (P k).regs)∧w.cell? ⟨pb,poo+k*3+2,none⟩=some (.slice (some ⟨cb,co,none⟩) (P k).n cc) ∧
  w.cell? ⟨cb,co+j*5,none⟩=some (.int .i64 ((P k).ins j).op)∧w.cell? ⟨cb,co+j*5+1,none⟩=some (.int .i64 ((P k).ins j).a)∧w.cell? ⟨cb,co+j*5+2,none⟩=some (.int .i64 ((P k).ins j).b)∧w.cell? ⟨cb,co+j*5+3,none⟩=some (.int .i64 ((P k).ins j).c)∧w.cell? ⟨cb,co+j*5+4,none⟩=some (.slice aa ((P k).ins j).n ac)∧NumsAt M w (.slice aa ((P k).ins j).n ac) ((P k).ins j).n ((P k).ins j).z:=by
 obtain⟨pa,pc,rfl,_,h|⟨pb,poo,rfl,hpb,h⟩⟩:=h
 ·omega
 obtain⟨vc,c0,c1,c2,hv⟩:=h k hk
 obtain⟨ca,cc,rfl,_,hv|⟨cb,co,rfl,hcb,hv⟩⟩:=hv
 ·omega
 obtain⟨va,d0,d1,d2,d3,d4,hav⟩:=hv j hj
 have hav':=hav
 obtain⟨aa,ac,rfl,_⟩:=hav'
 exact⟨pb,poo,pc,cb,co,cc,aa,ac,rfl,hpb,hcb,c1,c2,d0,d1,d2,d3,d4,hav⟩
theorem stepP {np:Nat} {P:Nat→Pc} (hNew:NewC np P) (hCall:CallC np P) (M X B:Nat) (w:World) (pv:Value) (R:Rn) (hc:CodeOK np P) (hs:StaOK np P R.s) (hst:R.s.st=0) (h:RA X B w pv R) (hp:ProcsAt M w pv np P) (hM:M≤B) (hl:R.said.length≤1000) :
  Calls Tryz.prog 47 #[.pointer (some ⟨X,0,none⟩)] w fun e w'=>(∃v,e=.returned v)∧Hid (RA X B w' pv (stepM P R)∧Below B w w'):=by
 have hBw:=h.le
 obtain⟨fv,cv,sv,rv,xv,h⟩:=h
 have hn:¬R.s.fs.length=0:=hs.unfin (by omega)
 have ht:=hs.top hn
 have hlen:=ht.len
 have hfew:=hs.few
 obtain⟨pr,hpr⟩:=nat_of ht.p0
 obtain⟨po,hpo⟩:=nat_of ht.a0
 have hpr1:=ht.p1
 have hpo1:=ht.a1
 rw[hpr]at hpr1
 rw[hpr,hpo,Int.toNat_natCast]at hpo1
 have hprn:pr<np:=by omega
 have hr0:=hc.r0 pr hprn
 have hpoN:po<(P pr).n:=by omega
 have hlen':((topF R.s).regs.length:Int)=(P pr).regs:=by rw[hlen,hpr,Int.toNat_natCast]
 have hin:insS P R.s=(P pr).ins po:=by unfold insS procS;rw[hpr,hpo,Int.toNat_natCast,Int.toNat_natCast]
 have hnx:nextPos P R.s=min ((po:Int)+1) (((P pr).n:Int) - 1):=by unfold nextPos procS;rw[hpr,hpo,Int.toNat_natCast]
 obtain⟨nx,hnxe⟩:∃nx,nextPos P R.s=nx:=⟨_,rfl⟩
 obtain⟨n0,n1⟩:=nextPos_in hc hs hn
 obtain⟨g,m,cap,rb,rc,rfl,hfl,hrv,T⟩:=h.top hn (by omega)
 obtain⟨pb,poo,pc,cb,co,cc,aa,ac,rfl,hpb,hcb,p1,p2,d0,d1,d2,d3,d4,hav⟩:=hp.ins hprn hpoN
 have hR2:∀wi,Below w.heap.size w wi→RunAt X B (wi.setCell ⟨g,m*4+1,none⟩ (.int .i64 nx)) (.slice (some ⟨pb,poo,none⟩) np pc) (.slice (some ⟨g,0,none⟩) (m+1) cap) cv sv rv xv ⟨setPos R.s nx,R.said,R.paused⟩∧Below B w (wi.setCell ⟨g,m*4+1,none⟩ (.int .i64 nx)):=fun wi hw=>by
  obtain⟨q1,q2⟩:=(h.below hw).setPos hfl nx
  exact⟨q1,(hw.mono hBw).trans q2⟩
 have hgB:=T.gB
 have keep:∀wi,Below w.heap.size w wi→∀(p:Addr) (v:Value),p.block<M→w.cell? p=some v→(wi.setCell ⟨g,m*4+1,none⟩ (.int .i64 nx)).cell? p=some v:=fun wi hw p v hpm hv=>by
  rw[(hR2 wi hw).2.cell (by omega)];exact hv
 have hsp:StaOK np P (setPos R.s nx):=by rw[←hnxe];exact hs.setPos hn n0 n1
 have hDo:∀wi,Below w.heap.size w wi→_:=fun wi hw=>doP hNew hCall M X B ((P pr).ins po) aa ac (wi.setCell ⟨g,m*4+1,none⟩ (.int .i64 nx)) _ ⟨setPos R.s nx,R.said,R.paused⟩ hc hsp hst ⟨_,_,_,_,_,(hR2 wi hw).1⟩ (hp.below ((hR2 wi hw).2.mono hM)) hM hl (by rw[←hin,procS_setPos _ _ hn];exact insS_right hc hs hn) (hav.below ((hR2 wi hw).2.mono hM))
 have HF:Hid (Calls Tryz.prog 101 #[.pointer (some ⟨X,0,none⟩)] w fun e w'=>e=.returned (.pointer (some ⟨g,m*4,none⟩))∧Below w.heap.size w w'):=vframe X B w _ cv sv g m cap rv xv R h (by omega)
 have HC:Hid (∀wi,Below w.heap.size w wi→wi.cell? ⟨g,m*4+1,none⟩=some (.int .i64 po)∧wi.cell? ⟨X,0,none⟩=some (.slice (some ⟨pb,poo,none⟩) np pc)∧wi.cell? ⟨g,m*4,none⟩=some (.int .i64 pr)∧wi.cell? ⟨pb,poo+pr*3+2,none⟩=some (.slice (some ⟨cb,co,none⟩) (P pr).n cc)):=fun wi hw=>by
  obtain⟨c0,_⟩:=(h.below hw).cells
  have T2:=T.below hw
  have t1:=T2.c1
  have t0:=T2.c0
  rw[hpo]at t1
  rw[hpr]at t0
  exact⟨t1,c0,t0,below_at hw p2⟩
 have HZ:Hid (∀wi,Below w.heap.size w wi→wi.frozen? ⟨g,m*4+1,none⟩=false):=fun wi hw=>(T.below hw).gz _
 have HI:Hid (∀wi,Below w.heap.size w wi→(wi.setCell ⟨g,m*4+1,none⟩ (.int .i64 nx)).cell? ⟨cb,co+po*5,none⟩=some (.int .i64 ((P pr).ins po).op)∧(wi.setCell ⟨g,m*4+1,none⟩ (.int .i64 nx)).cell? ⟨cb,co+po*5+1,none⟩=some (.int .i64 ((P pr).ins po).a)∧(wi.setCell ⟨g,m*4+1,none⟩ (.int .i64 nx)).cell? ⟨cb,co+po*5+2,none⟩=some (.int .i64 ((P pr).ins po).b)∧(wi.setCell ⟨g,m*4+1,none⟩ (.int .i64 nx)).cell? ⟨cb,co+po*5+3,none⟩=some (.int .i64 ((P pr).ins po).c)∧(wi.setCell ⟨g,m*4+1,none⟩ (.int .i64 nx)).cell? ⟨cb,co+po*5+4,none⟩=some (.slice aa ((P pr).ins po).n ac)):=fun wi hw=>⟨keep wi hw _ _ hcb d0,keep wi hw _ _ hcb d1,keep wi hw _ _ hcb d2,keep wi hw _ _ hcb d3,keep wi hw _ _ hcb d4⟩
 have hc2:=hc.c1 pr hprn
 have hstep:stepM P R=match doM P (setPos R.s nx) ((P pr).ins po) with|some (S,l,b)=>⟨S,R.said++l,R.paused || b⟩|none=>⟨⟨R.s.fs,R.s.cs,2,R.s.wh⟩,R.said,R.paused⟩:=by
  unfold stepM;rw[hnxe,hin];cases doM P (setPos R.s nx) ((P pr).ins po)<;>rfl
 cases hv:doM P (setPos R.s nx) ((P pr).ins po) with
 | some x =>
  obtain⟨S',l,b⟩:=x
  rw[hv]at hstep hDo
  refine (step_ok X g m pr po pb poo np pc cb co (P pr).n cc _ _ _ _ nx aa _ ac w (fun w'=>RA X B w' _ (stepM P R)∧Below B w w') HF HC HZ HI (fun wi hw=>(hDo wi hw).mono (by
   rintro e w' (⟨h3,_⟩|⟨R',h3,he,hr,hb⟩)
   ·cases h3
   ·injection h3 with h3
    subst h3
    exact⟨he,by rw[hstep];exact hr,(hR2 wi hw).2.trans hb⟩)) (by rw[←hnxe,hnx]) hprn hpoN hc2).mono ?_
  rintro e w' ⟨he,hk⟩
  exact⟨he,hk⟩
 | none =>
  rw[hv]at hstep hDo
  have hKR:∀w3,(∃wi,Below w.heap.size w wi∧Below (wi.setCell ⟨g,m*4+1,none⟩ (.int .i64 nx)).heap.size (wi.setCell ⟨g,m*4+1,none⟩ (.int .i64 nx)) w3)→RunAt X B w3 (.slice (some ⟨pb,poo,none⟩) np pc) (.slice (some ⟨g,0,none⟩) (m+1) cap) cv sv rv xv ⟨setPos R.s nx,R.said,R.paused⟩∧Below B w w3:=fun w3 hk=>by
   obtain⟨wi,hw,hb⟩:=hk
   obtain⟨q1,q2⟩:=hR2 wi hw
   exact⟨q1.below hb,q2.trans (hb.mono (Nat.le_trans q1.hX (Nat.le_of_lt q1.lt)))⟩
  have hspl:(setPos R.s nx).fs.length=m+1:=by unfold setPos withTop;rw[List.length_set];exact hfl
  have hfin:∀w3,RunAt X B w3 (.slice (some ⟨pb,poo,none⟩) np pc) (.slice (some ⟨g,0,none⟩) (m+1) cap) cv sv rv xv ⟨setPos R.s nx,R.said,R.paused⟩→RunAt X B (w3.setCell ⟨g,m*4+1,none⟩ (.int .i64 po)) (.slice (some ⟨pb,poo,none⟩) np pc) (.slice (some ⟨g,0,none⟩) (m+1) cap) cv sv rv xv R∧Below B w3 (w3.setCell ⟨g,m*4+1,none⟩ (.int .i64 po)):=fun w3 hr=>by
   obtain⟨q1,q2⟩:=hr.setPos hspl po
   have e:(⟨setPos (setPos R.s nx) po,R.said,R.paused⟩:Rn)=R:=by rw[←hpo,setPos_back _ _ hn]
   have q3:RunAt X B (w3.setCell ⟨g,m*4+1,none⟩ (.int .i64 po)) (.slice (some ⟨pb,poo,none⟩) np pc) (.slice (some ⟨g,0,none⟩) (m+1) cap) cv sv rv xv ⟨setPos (setPos R.s nx) po,R.said,R.paused⟩:=q1
   rw[e]at q3
   exact⟨q3,q2⟩
  refine (step_no X g m pr po pb poo np pc cb co (P pr).n cc _ _ _ _ nx aa _ ac w (fun w3=>∃wi,Below w.heap.size w wi∧Below (wi.setCell ⟨g,m*4+1,none⟩ (.int .i64 nx)).heap.size (wi.setCell ⟨g,m*4+1,none⟩ (.int .i64 nx)) w3) HF HC HZ HI (fun wi hw=>(hDo wi hw).mono (by
   rintro e w' (⟨_,he,hb⟩|⟨R',h3,_⟩)
   ·exact⟨he,wi,hw,hb⟩
   ·cases h3)) (fun w3 hk=>by
    obtain⟨hr,_⟩:=hKR w3 hk
    obtain⟨f1,_⟩:=hfin w3 hr
    obtain⟨_,_,_,c3,_,_,_,c7⟩:=f1.cells
    have hm3:m<(setPos R.s nx).fs.length:=by omega
    obtain⟨u,_,_,k2,_⟩:=hr.own.fcells hm3
    obtain⟨_,_,e1,_,_,gz⟩:=hr.own.frow (by show ¬(setPos R.s nx).fs.length=0;omega)
    injection e1 with e1 _ _
    injection e1 with e1
    injection e1 with e1 _ _
    subst e1
    exact⟨⟨_,k2⟩,gz _,⟨_,c3⟩,c7 3⟩) (by rw[←hnxe,hnx]) hprn hpoN hc2).mono ?_
  rintro e w' ⟨he,w3,hk,rfl⟩
  obtain⟨hr,hb⟩:=hKR w3 hk
  obtain⟨f1,f2⟩:=hfin w3 hr
  have q1:=heap_setCell_same _ X 3 _ _ (.int .i64 2) f1.box
  have f3:RunAt X B ((w3.setCell ⟨g,m*4+1,none⟩ (.int .i64 po)).setCell ⟨X,3,none⟩ (.int .i64 2)) (.slice (some ⟨pb,poo,none⟩) np pc) (.slice (some ⟨g,0,none⟩) (m+1) cap) cv sv rv xv ⟨⟨R.s.fs,R.s.cs,2,R.s.wh⟩,R.said,R.paused⟩:=f1.turn q1 (fun k hk=>Below.heap_setCell _ _ _ k hk) rfl rfl rfl
  refine⟨he,?_,(hb.trans f2).setCell h.hX _⟩
  rw[hstep]
  exact⟨_,_,_,_,_,f3⟩
theorem Own.setX {X B:Nat} {w w':World} {fv cv:Value} {rv xv:List Value} {S:Sta} {cur:Array Value} (h:Own B w fv cv rv xv S) (hX:w.heap[X]?=some (.cells cur 81 (0,0))) (hk:∀k,¬k=X→w'.heap[k]?=w.heap[k]?):Own B w' fv cv rv xv S:=by
 have kind:∀ {e size v n xs g'},w.ownsRow B e size v n xs→¬e=81→Value.ownBlock v=some g'→¬g'=X:=fun hr hne hg e2=>by
  obtain⟨c,fz,k⟩:=Lib.ownsRow_kind hr _ hg
  rw[e2,hX]at k
  injection k with k
  injection k with _ k2 _
  exact hne k2.symm
 have go:∀ {e size v n xs},w.ownsRow B e size v n xs→¬e=81→w'.ownsRow B e size v n xs:=fun hr hne=>ownsRow_block hr fun k hk2=>hk k (kind hr hne hk2)
 exact⟨go h.fr (by decide),go h.ce (by decide),h.rl,fun i hi=>(by obtain⟨u,h1,h2⟩:=h.regs i hi;exact⟨u,h1,go h2 (by decide)⟩),fun i hi=>(by obtain⟨u,h1,h2⟩:=h.cells i hi;exact⟨u,h1,go h2 (by decide)⟩),h.rr,h.xx,h.rx⟩
theorem callC {np:Nat} {P:Nat→Pc}:CallC np P:=by
 intro M X B i aa ac w pv R hc hs hst h hp hM ho hi hav
 have hBw:=h.le
 obtain⟨fv,cv,sv,rv,xv,h⟩:=h
 have hn:¬R.s.fs.length=0:=hs.unfin (by omega)
 have ht:=hs.top hn
 have hlen:=ht.len
 have hfew:=hs.few
 have hr0:=hc.r0 _ (show (topF R.s).proc.toNat<np by have:=ht.p0;have:=ht.p1;omega)
 obtain⟨g,m,cap,rb,rc,rfl,hfl,hrv,T⟩:=h.top hn (by omega)
 obtain⟨W,hW,b0,hsz,i0,i1,i2,i3,i4⟩:=ibox w i.op i.a i.b i.c (.slice aa i.n ac)
 obtain⟨hb0,hb1,hpar,hargs⟩:=hi.cal ho
 obtain⟨b,hb⟩:=nat_of hb0
 obtain⟨a,ha⟩:=nat_of (hi.ra (by omega) (by omega)).1
 have hbn:b<np:=by omega
 have hdo:doM P R.s i=if R.s.fs.length=10 then none else some (callS P R.s i,[],false):=by
  unfold doM;rw[if_neg (by omega),if_pos ho]
 rw[hdo]
 obtain⟨_,c1,_⟩:=(h.below b0).cells
 by_cases h10:R.s.fs.length=10
 ·rw[if_pos h10]
  obtain rfl:m=9:=by omega
  refine (vcall_no X i.op i.a i.b i.c aa _ i.n ac cap w W hW c1 b0).mono ?_
  rintro e w' ⟨rfl,hb⟩
  exact Or.inl ⟨rfl,rfl,hb⟩
 ·rw[if_neg h10]
  obtain⟨pb,poo,pc,cb,co,cc,_,_,rfl,hpb,hcb,p1,_⟩:=hp.ins hbn (j:=0) (by have:=hc.c0 b hbn;omega)
  have hr1:=hc.r1 b hbn
  have hr2:=hc.r0 b hbn
  have hp1:=hc.par1 b hbn
  obtain⟨nr,hnr⟩:=nat_of (show 0≤(P b).regs by omega)
  rw[hnr]at p1
  have hup:∀wi,Below W.heap.size W wi→Below w.heap.size w wi:=fun wi hw=>below_step b0 hw
  have hL:((topF R.s).regs.length:Int)=(procS P R.s).regs:=hlen
  have hBW:B≤W.heap.size:=Nat.le_trans hBw b0.size
  have hgB:=T.gB
  have hgl:g<w.heap.size:=(h.own.fr.lt g rfl).2
  have hcallS:callS P R.s i=⟨R.s.fs++[⟨i.b,0,argTo nr i.z (topF R.s).regs i.n,i.a⟩],R.s.cs,R.s.st,R.s.wh⟩:=by
   unfold callS
   rw[hb,Int.toNat_natCast,hnr,Int.toNat_natCast];rfl
  rw[ho,ha,hb]at hW ⊢
  refine (vcall_core X g m cap rb rc (topF R.s).regs.length nr a b pb poo np pc i.z (topF R.s).regs (flatF R.s.fs rv) B i.c aa i.n ac w W W.heap.size rfl (fun w'=>RA X B w' (.slice (some ⟨pb,poo,none⟩) np pc) ⟨callS P R.s i,R.said++[],R.paused || false⟩∧Below B w w') hW
   (fun wi hw=>vframe X B wi _ cv sv g m cap rv xv R (h.below (hup wi hw)) (by omega))
   (fun wi hw=>?_) (fun j hj=>?_) (fun wi hw=>?_) ?_ (Nat.lt_of_lt_of_le h.lt b0.size) (by omega) hbn (by simp;omega) (by omega)).mono ?_
  ·obtain⟨k0,k1,_⟩:=(h.below (hup wi hw)).cells
   refine⟨k1,k0,(T.below (hup wi hw)).c2,?_,?_,below_at hw i4,below_at (hup wi hw) p1⟩
   ·rw[←hb];exact below_at hw i2
   ·rw[←ha];exact below_at hw i1
  ·obtain⟨z0,z1⟩:=hargs j hj
   obtain⟨zj,hzj⟩:=nat_of z0
   have hzn:zj<(topF R.s).regs.length:=by omega
   obtain⟨aa',ac',e,_,hz|⟨ab,ao,rfl,hab,hcl⟩⟩:=hav
   ·omega
   ·injection e with e1 _ _
    refine⟨by have:((i.n:Nat):Int)≤nr:=(by rw[hpar,hb,Int.toNat_natCast];omega);omega,ab,ao,zj,e1,hzj,hzn,fun wi hw=>⟨?_,(T.below (hup wi hw)).r0 zj hzn,(T.below (hup wi hw)).r1 zj hzn⟩⟩
    have:=hcl j hj
    rw[hzj]at this
    exact below_at (hup wi hw) this
  ·have:=(h.below (hup wi hw)).own.fr
   rw[hfl]at this
   exact⟨this,Nat.le_trans hBW hw.size⟩
  ·show ∀D V o g' cap' w2,_
   intro D V o g' cap' w2 hMD hVb hrow hown hgr
   have hRW:=h.below b0
   have hXW:=hRW.lt
   have hVs:=hVb.size
   have hot:∀k,k<V.heap.size→¬k=g→w2.heap[k]?=V.heap[k]?:=fun k hk hne=>by
    rw[hgr.block k (Nat.lt_of_lt_of_le hk (below_alloc V o).size) (fun e=>hne (by injection e))]
    exact (below_alloc V o).block k hk
   have hoW:∀k,k<W.heap.size→¬k=g→w2.heap[k]?=W.heap[k]?:=fun k hk hne=>(hot k (by omega) hne).trans (hVb.block k hk)
   have hXg:¬X=g:=fun e=>hRW.apart hRW.own.fr (by decide) (g:=g) rfl e.symm
   have hbx:w2.heap[X]?=W.heap[X]?:=hoW X hXW hXg
   have hDl:D<V.heap.size:=(hrow.lt D rfl).2
   have ho2:Own B w2 (.slice (some ⟨g',0,none⟩) (m+1+1) cap') cv (rv++[.slice (some ⟨D,0,none⟩) nr nr]) xv (callS P R.s i):=by
    rw[hcallS]
    refine hRW.own.push ?_ ?_ (fun k hk=>?_) fun k _ hk hne=>hoW k hk fun e=>hne (by rw[e];rfl)
    ·rw[hfl,ha,hb];exact hown
    ·exact ownsRow_lower (ownsRow_block hrow fun k hk=>by
      injection hk with hk
      subst hk
      exact hot D hDl (by have:=b0.size;omega)) hBW
    ·have hDk:D=k:=Option.some.inj (show some D=some k from hk)
     omega
   have hsd2:w2.ownsRow B 3 1 sv R.said.length (R.said.map (Value.int .i64)):=ownsRow_block hRW.sd fun k hk=>hoW k (hRW.sd.lt k hk).2 fun e=>ownsRow_apart hRW.sd hRW.own.fr (by decide) hk (by rw[e];rfl)
   have hbox:=hbx.trans hRW.box
   obtain⟨_,k1,_,_,_,_,_,k7⟩:=hRW.cells
   refine⟨(World.cell?_of_block (w:=W) (a:=⟨X,1,none⟩) hbx).trans k1,(World.frozen?_of_block (w:=W) (a:=⟨X,1,none⟩) hbx).trans (k7 1),?_,?_⟩
   ·have hb2:=heap_setCell_same w2 X 1 _ _ (.slice (some ⟨g',0,none⟩) (m+1+1) cap') hbox
    have hk:∀k,¬k=X→(w2.setCell ⟨X,1,none⟩ (.slice (some ⟨g',0,none⟩) (m+1+1) cap')).heap[k]?=w2.heap[k]?:=fun k hk=>Below.heap_setCell _ _ _ k hk
    rw[List.append_nil,Bool.or_false]
    refine⟨_,_,sv,_,_,?_,ho2.setX hbox hk,?_,h.hX⟩
    ·exact hb2
    ·exact ownsRow_block hsd2 fun k hkk=>hk k fun e=>by
      obtain⟨c,fz,q⟩:=Lib.ownsRow_kind hsd2 k hkk
      rw[e,hbox]at q
      injection q with q
      injection q with _ q _
      exact absurd q (by decide)
   ·have b2:Below B V w2:=(((below_alloc V o).mono (Nat.le_trans hBW hVs)).drew).grown hgr (by show B≤(V.alloc o).heap.size;exact Nat.le_trans (Nat.le_trans hBW hVs) (below_alloc V o).size) (fun k hk=>by injection hk with hk;omega)
    exact ((b0.mono hBw).trans ((hVb.mono hBW).trans b2)).setCell h.hX _
  ·rintro e w' ⟨rfl,hk⟩
   exact Or.inr ⟨_,rfl,rfl,hk.out.1,hk.out.2⟩
def StaPost (w:World) (S':Sta) (e:Ending) (w':World):Prop :=
 ∃fa nf fc ca nc cc rv xv,e=.returned (.tuple #[.agg #[.slice fa nf fc,.slice ca nc cc,.int .i64 S'.st,.int .i64 S'.wh],.int .i64 0])∧Own w.heap.size w' (.slice fa nf fc) (.slice ca nc cc) rv xv S'∧Below w.heap.size w w'
set_option maxRecDepth 20000 in
set_option maxHeartbeats 2000000 in
theorem vmNew_good (pb poo np pc n:Nat) (w W:World) (HW:Hid (w.alloc (.cells #[.slice none 0 0,.slice none 0 0,.int .i64 0,.int .i64 0] 26)=W)) (HC:Hid (Calls Tryz.prog 43 #[.slice (some ⟨pb,poo,none⟩) np pc] W fun e w'=>e=.returned (.int .i64 0)∧Below W.heap.size W w')) (HY:Hid (Box4 26 w.heap.size W (.slice none 0 0) (.slice none 0 0) (.int .i64 0) (.int .i64 0))) (HYs:Hid (w.heap.size<W.heap.size)) (HB:Hid (Below w.heap.size w W))
  (HR:Hid (∀wi,Below W.heap.size W wi→wi.cell? ⟨pb,poo+1,none⟩=some (.int .i64 n))) (hnp:0<np) (hn:n≤1000) :
  Calls Tryz.prog 12 #[.slice (some ⟨pb,poo,none⟩) np pc] w (StaPost w ⟨[⟨0,0,List.replicate n (0,0),0⟩],[],0,0⟩):=by
 have hmk:=mkVals n hn
 have hi0:(0:Int)<(np:Int):=by omega
 have HN:Hid (n≤1000):=hn
 go_enter Tryz.func12,Tryz.ntmps12
 go_upto_region 1 with (fail)
 rw[HW.out]
 go_upto_region 4 with (go_at_call 43;refine HC.out.mono ?_;rintro e w1 ⟨rfl,hb1⟩)
 have q0:=HR.out w1 hb1
 have HB1:Hid (Below w.heap.size w w1):=below_step HB.out hb1
 have HY1:Hid (∀wi,Below w1.heap.size w1 wi→Box4 26 w.heap.size wi (.slice none 0 0) (.slice none 0 0) (.int .i64 0) (.int .i64 0)):=fun wi hw=>HY.out.keep ((hw.block _ (Nat.lt_of_lt_of_le HYs.out hb1.size)).trans (hb1.block _ HYs.out))
 have HA:Hid (∀o o',Below w1.heap.size w1 ((w1.alloc o).alloc o')):=fun o o'=>below_step (below_alloc _ _) (below_alloc _ _)
 have a0:=fun o o'=>(HY1.out _ (HA.out o o')).at.1
 have a1:=fun o o'=>(HY1.out _ (HA.out o o')).at.2.1
 have a2:=fun o o'=>(HY1.out _ (HA.out o o')).at.2.2.1
 have a3:=fun o o'=>(HY1.out _ (HA.out o o')).at.2.2.2.1
 have a40:=fun o o'=>(HY1.out _ (HA.out o o')).at.2.2.2.2 0
 have a41:=fun o o'=>(HY1.out _ (HA.out o o')).at.2.2.2.2 1
 have a42:=fun o o'=>(HY1.out _ (HA.out o o')).at.2.2.2.2 2
 have a43:=fun o o'=>(HY1.out _ (HA.out o o')).at.2.2.2.2 3
 have HF:Hid (∀o o' x,((((((w1.alloc o).alloc o').setCell ⟨w.heap.size,0,none⟩ x).setCell ⟨w.heap.size,1,none⟩ (.slice none 0 0)).setCell ⟨w.heap.size,2,none⟩ (.int .i64 0)).setCell ⟨w.heap.size,3,none⟩ (.int .i64 0)).heap[w.heap.size]?=some (.cells #[x,.slice none 0 0,.int .i64 0,.int .i64 0] 26 (0,0))):=fun o o' x=>by
  have h0:=HY1.out _ (HA.out o o')
  unfold Box4 at h0
  have h1:=heap_setCell_same _ w.heap.size 0 _ _ x h0
  have h2:=heap_setCell_same _ w.heap.size 1 _ _ (.slice none 0 0) h1
  have h3:=heap_setCell_same _ w.heap.size 2 _ _ (.int .i64 0) h2
  exact heap_setCell_same _ w.heap.size 3 _ _ (.int .i64 0) h3
 have HE:Hid (∀x,Own w.heap.size ((((((w1.alloc (.cells (madeCells #[.int .i64 0,.int .i64 0] (n*2)) 92)).alloc (.cells #[.int .i64 0,.int .i64 0,.slice (some ⟨w1.heap.size,0,none⟩) n n,.int .i64 0] 40)).setCell ⟨w.heap.size,0,none⟩ x).setCell ⟨w.heap.size,1,none⟩ (.slice none 0 0)).setCell ⟨w.heap.size,2,none⟩ (.int .i64 0)).setCell ⟨w.heap.size,3,none⟩ (.int .i64 0)) (.slice (some ⟨w1.heap.size+1,0,none⟩) 1 1) (.slice none 0 0) [.slice (some ⟨w1.heap.size,0,none⟩) n n] [] ⟨[⟨0,0,List.replicate n (0,0),0⟩],[],0,0⟩):=fun x=>by
  have hYl:w.heap.size<w1.heap.size:=Nat.lt_of_lt_of_le HYs.out hb1.size
  have hs1:(w1.alloc (.cells (madeCells #[.int .i64 0,.int .i64 0] (n*2)) 92)).heap.size=w1.heap.size+1:=by simp
  have r1:VRow (w.heap.size+1) ((w1.alloc (.cells (madeCells #[.int .i64 0,.int .i64 0] (n*2)) 92)).alloc (.cells #[.int .i64 0,.int .i64 0,.slice (some ⟨w1.heap.size,0,none⟩) n n,.int .i64 0] 40)) (.slice (some ⟨w1.heap.size,0,none⟩) n n) (List.replicate n (0,0)):=World.ownsRow.alloc (made_row n HN.out (w.heap.size+1) w1 (by omega)) _
  have r2:World.ownsRow ((w1.alloc (.cells (madeCells #[.int .i64 0,.int .i64 0] (n*2)) 92)).alloc (.cells #[.int .i64 0,.int .i64 0,.slice (some ⟨w1.heap.size,0,none⟩) n n,.int .i64 0] 40)) (w.heap.size+1) 40 4 (.slice (some ⟨w1.heap.size+1,0,none⟩) 1 1) 1 [.int .i64 0,.int .i64 0,.slice (some ⟨w1.heap.size,0,none⟩) n n,.int .i64 0]:=by
   have:=World.ownsRow_lit (w1.alloc (.cells (madeCells #[.int .i64 0,.int .i64 0] (n*2)) 92)) (base:=w.heap.size+1) (e:=40) (size:=4) #[.int .i64 0,.int .i64 0,.slice (some ⟨w1.heap.size,0,none⟩) n n,.int .i64 0] 1 (by omega) (by decide) rfl
   rw[hs1]at this
   exact this
  have hO:Own (w.heap.size+1) ((w1.alloc (.cells (madeCells #[.int .i64 0,.int .i64 0] (n*2)) 92)).alloc (.cells #[.int .i64 0,.int .i64 0,.slice (some ⟨w1.heap.size,0,none⟩) n n,.int .i64 0] 40)) (.slice (some ⟨w1.heap.size+1,0,none⟩) 1 1) (.slice none 0 0) [.slice (some ⟨w1.heap.size,0,none⟩) n n] [] ⟨[⟨0,0,List.replicate n (0,0),0⟩],[],0,0⟩:=by
   refine⟨r2,World.ownsRow_nil _ _ _ _,rfl,fun i hi=>?_,fun i hi=>absurd hi (Nat.not_lt_zero _),fun i j u u' b hi hj _ _=>?_,fun i j u u' b hi=>by simp at hi,fun i j u u' b _ hj=>by simp at hj⟩
   ·have hi:i<1:=hi
    obtain rfl:i=0:=by omega
    exact⟨_,rfl,r1⟩
   ·have h1:=(List.getElem?_eq_some_iff.1 hi).1
    have h2:=(List.getElem?_eq_some_iff.1 hj).1
    simp only[List.length_cons,List.length_nil]at h1 h2
    omega
  refine (hO.stay fun k hk _=>?_).lower (by omega)
  have hne:¬k=w.heap.size:=by omega
  exact (((Below.heap_setCell _ _ _ _ hne).trans (Below.heap_setCell _ _ _ _ hne)).trans (Below.heap_setCell _ _ _ _ hne)).trans (Below.heap_setCell _ _ _ _ hne)
 clear hb1
 go_wp2
 refine bodyPost_ret (results_row_tmp rfl _ _ w.heap.size 26 _ (0,0) _ rfl (HF.out _ _ _) Tryz.underlying26 rfl (by kernel_rfl)) rfl ?_
 exact⟨_,_,_,_,_,_,_,_,rfl,HE.out _,((((HB1.out.trans ((HA.out _ _).mono HB1.out.size)).setCell (Nat.le_refl _) _).setCell (Nat.le_refl _) _).setCell (Nat.le_refl _) _).setCell (Nat.le_refl _) _⟩
set_option maxHeartbeats 2000000 in
theorem goes_st (X:Nat) (st:Int) (w:World) (c3:w.cell? ⟨X,3,none⟩=some (.int .i64 st)) (h:¬st=0) :
  Calls Tryz.prog 46 #[.pointer (some ⟨X,0,none⟩)] w fun e w'=>e=.returned (.bool false)∧Below w.heap.size w w':=by
 have hb:(st != 0)=true:=by simp[h]
 clear h
 go_enter Tryz.func46,Tryz.ntmps46
 go_wp2
 go_ret
 exact⟨rfl,Below.refl _ _⟩
set_option maxHeartbeats 2000000 in
theorem goes_pz (X:Nat) (w:World) (c3:w.cell? ⟨X,3,none⟩=some (.int .i64 0)) (c6:w.cell? ⟨X,6,none⟩=some (.bool true)) :
  Calls Tryz.prog 46 #[.pointer (some ⟨X,0,none⟩)] w fun e w'=>e=.returned (.bool false)∧Below w.heap.size w w':=by
 go_enter Tryz.func46,Tryz.ntmps46
 go_wp2
 go_ret
 exact⟨rfl,Below.refl _ _⟩
set_option maxHeartbeats 2000000 in
theorem goes_few (X g m sl scap:Nat) (sa:Option Addr) (w:World) (c3:w.cell? ⟨X,3,none⟩=some (.int .i64 0)) (c6:w.cell? ⟨X,6,none⟩=some (.bool false))
  (HF:Hid (Calls Tryz.prog 101 #[.pointer (some ⟨X,0,none⟩)] w fun e w'=>e=.returned (.pointer (some ⟨g,m*4,none⟩))∧Below w.heap.size w w'))
  (HC:Hid (∀wi,Below w.heap.size w wi→wi.cell? ⟨X,5,none⟩=some (.slice sa sl scap))) (hl:sl<40) :
  Calls Tryz.prog 46 #[.pointer (some ⟨X,0,none⟩)] w fun e w'=>e=.returned (.bool true)∧Below w.heap.size w w':=by
 have h1:(sl:Int)<40:=by omega
 go_enter Tryz.func46,Tryz.ntmps46
 go_wp2_with (go_at_call 101;refine HF.out.mono ?_;rintro e w1 ⟨rfl,hb1⟩;have q:=HC.out w1 hb1)
 go_quiet (fail)
 go_wp2
 go_ret
 exact⟨rfl,below_step hb1 (below_drewN' _ _)⟩
set_option maxHeartbeats 2000000 in
theorem goes_full (X g m sl scap pr po pb poo np pc cb co n cc:Nat) (op:Int) (sa:Option Addr) (w:World) (c3:w.cell? ⟨X,3,none⟩=some (.int .i64 0)) (c6:w.cell? ⟨X,6,none⟩=some (.bool false))
  (HF:Hid (Calls Tryz.prog 101 #[.pointer (some ⟨X,0,none⟩)] w fun e w'=>e=.returned (.pointer (some ⟨g,m*4,none⟩))∧Below w.heap.size w w'))
  (HC:Hid (∀wi,Below w.heap.size w wi→wi.cell? ⟨X,5,none⟩=some (.slice sa sl scap)∧wi.cell? ⟨X,0,none⟩=some (.slice (some ⟨pb,poo,none⟩) np pc)∧wi.cell? ⟨g,m*4,none⟩=some (.int .i64 pr)∧wi.cell? ⟨g,m*4+1,none⟩=some (.int .i64 po)∧wi.cell? ⟨pb,poo+pr*3+2,none⟩=some (.slice (some ⟨cb,co,none⟩) n cc)∧wi.cell? ⟨cb,co+po*5,none⟩=some (.int .i64 op)))
  (hl:¬sl<40) (hpr:pr<np) (hpo:po<n) :
  Calls Tryz.prog 46 #[.pointer (some ⟨X,0,none⟩)] w fun e w'=>e=.returned (.bool (op != 9))∧Below w.heap.size w w':=by
 have h1:¬(sl:Int)<40:=by omega
 have h1d:decide ((sl:Int)<40)=false:=by simp;omega
 have h2:(0:Int)≤(pr:Int):=by omega
 have h3:(pr:Int)<(np:Int):=by omega
 have h4:(0:Int)≤(po:Int):=by omega
 have h5:(po:Int)<(n:Int):=by omega
 generalize hb:(op != 9)=bb
 go_enter Tryz.func46,Tryz.ntmps46
 go_wp2_with (go_at_call 101;refine HF.out.mono ?_;rintro e w1 ⟨rfl,hb1⟩;obtain⟨q1,q2,q3,q4,q5,q6⟩:=HC.out w1 hb1)
 go_quiet (fail)
 go_wp2
 go_ret
 exact⟨rfl,below_step hb1 (below_drewN' _ _)⟩
theorem goesP {np:Nat} {P:Nat→Pc} (M X B:Nat) (w:World) (pv:Value) (R:Rn) (hc:CodeOK np P) (hs:StaOK np P R.s) (h:RA X B w pv R) (hp:ProcsAt M w pv np P) :
  Calls Tryz.prog 46 #[.pointer (some ⟨X,0,none⟩)] w fun e w'=>e=.returned (.bool (goesB P R))∧Below w.heap.size w w':=by
 obtain⟨fv,cv,sv,rv,xv,h⟩:=h
 obtain⟨c0,c1,c2,c3,c4,c5,c6,c7⟩:=h.cells
 by_cases hst:R.s.st=0
 ·rw[hst]at c3
  cases hpz:R.paused with
  | true =>
   rw[hpz]at c6
   have e:goesB P R=false:=by unfold goesB;simp[hpz]
   rw[e]
   exact goes_pz X w c3 c6
  | false =>
   rw[hpz]at c6
   have hn:¬R.s.fs.length=0:=hs.unfin (by omega)
   have ht:=hs.top hn
   have hlen:=ht.len
   have hfew:=hs.few
   obtain⟨pr,hpr⟩:=nat_of ht.p0
   obtain⟨po,hpo⟩:=nat_of ht.a0
   have hpr1:=ht.p1
   have hpo1:=ht.a1
   rw[hpr]at hpr1
   rw[hpr,hpo,Int.toNat_natCast]at hpo1
   have hprn:pr<np:=by omega
   have hr0:=hc.r0 pr hprn
   have hpoN:po<(P pr).n:=by omega
   have hlen':((topF R.s).regs.length:Int)=(P pr).regs:=by rw[hlen,hpr,Int.toNat_natCast]
   have hin:insS P R.s=(P pr).ins po:=by unfold insS procS;rw[hpr,hpo,Int.toNat_natCast,Int.toNat_natCast]
   obtain⟨g,m,cap,rb,rc,rfl,hfl,hrv,T⟩:=h.top hn (by omega)
   obtain⟨sa,scap,rfl⟩:=own_shape h.sd
   have HF:Hid (Calls Tryz.prog 101 #[.pointer (some ⟨X,0,none⟩)] w fun e w'=>e=.returned (.pointer (some ⟨g,m*4,none⟩))∧Below w.heap.size w w'):=vframe X B w _ cv _ g m cap rv xv R h (by omega)
   by_cases hl:R.said.length<40
   ·have e:goesB P R=true:=by unfold goesB;simp[hst,hpz,hl]
    rw[e]
    exact goes_few X g m _ scap sa w c3 c6 HF (fun wi hw=>below_at hw c5) hl
   ·obtain⟨pb,poo,pc,cb,co,cc,aa,ac,rfl,hpb,hcb,p1,p2,d0,_⟩:=hp.ins hprn hpoN
    have e:goesB P R=(((P pr).ins po).op != 9):=by
     unfold goesB;rw[hin]
     have:decide (R.said.length<40)=false:=by simpa using hl
     rw[this,hst,hpz]
     by_cases h9:((P pr).ins po).op=9<;>simp[h9]
    rw[e]
    have t0:=T.c0
    have t1:=T.c1
    rw[hpr]at t0
    rw[hpo]at t1
    exact goes_full X g m _ scap pr po pb poo np pc cb co (P pr).n cc _ sa w c3 c6 HF (fun wi hw=>⟨below_at hw c5,below_at hw c0,below_at hw t0,below_at hw t1,below_at hw p2,below_at hw d0⟩) hl hprn hpoN
 ·have e:goesB P R=false:=by unfold goesB;simp[hst]
  rw[e]
  exact goes_st X R.s.st w c3 hst
end Go.Proofs.YtfaokaohhchdhaaGreatDoor
