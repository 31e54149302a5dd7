/- put. -/
import Derived.Test.YtfaokaohhchdhaaGreatDoorPart14
namespace Go.Proofs.YtfaokaohhchdhaaGreatDoor
open Go.RowKit Go.Maps
set_option maxHeartbeats 2000000 in
theorem put_no (X g m rb rc n a b:Nat) (op c ka za:Int) (aa:Option Addr) (an ac:Nat) (w W:World) (HW:Hid (w.alloc (.cells #[.int .i64 op,.int .i64 a,.int .i64 b,.int .i64 c,.slice aa an ac] 84)=W))
  (HF:Hid (Calls Tryz.prog 101 #[.pointer (some ⟨X,0,none⟩)] W fun e w'=>e=.returned (.pointer (some ⟨g,m*4,none⟩))∧Below W.heap.size W w'))
  (HFl:Hid (∀wi,Below W.heap.size W wi→Calls Tryz.prog 179 #[.pointer (some ⟨X,0,none⟩),.agg #[.int .i64 ka,.int .i64 za],.int .i64 c] wi fun e w'=>e=.returned (.pointer none)∧Below wi.heap.size wi w'))
  (HC:Hid (∀wi,Below W.heap.size W wi→wi.cell? ⟨w.heap.size,1,none⟩=some (.int .i64 a)∧wi.cell? ⟨w.heap.size,3,none⟩=some (.int .i64 c)∧wi.cell? ⟨rb,a*2,none⟩=some (.int .i64 ka)∧wi.cell? ⟨rb,a*2+1,none⟩=some (.int .i64 za)))
  (HG:Hid (∀wi,Below W.heap.size W wi→wi.cell? ⟨g,m*4+2,none⟩=some (.slice (some ⟨rb,0,none⟩) n rc)))
  (ha:a<n) (hbW:Below w.heap.size w W) :
  Calls Tryz.prog 135 #[.pointer (some ⟨X,0,none⟩),.agg #[.int .i64 op,.int .i64 a,.int .i64 b,.int .i64 c,.slice aa an ac]] w fun e w'=>e=.returned (.bool false)∧Below w.heap.size w w':=by
 have h1:(0:Int)≤(a:Int):=by omega
 have h2:(a:Int)<(n:Int):=by omega
 have HB:Hid (Below w.heap.size w W):=hbW
 clear ha hbW
 go_enter Tryz.func135,Tryz.ntmps135
 go_upto_region 1 with (fail)
 rw[HW.out]
 go_upto_region 2 with (go_at_call 101;refine HF.out.mono ?_;rintro e w1 ⟨rfl,hb1⟩;have q2:=HG.out w1 hb1)
 go_region_held3 (fun w'=>w'.cell? ⟨w.heap.size,1,none⟩=some (.int .i64 a)∧w'.cell? ⟨w.heap.size,3,none⟩=some (.int .i64 c)∧w'.cell? ⟨rb,a*2,none⟩=some (.int .i64 ka)∧w'.cell? ⟨rb,a*2+1,none⟩=some (.int .i64 za))
  (first|exact HC.out _ hb1.drew|exact HC.out _ (hb1.drew.trans (hb2.mono hb1.size)))
  (first|(go_at_call 179;refine (HFl.out _ hb1.drew).mono ?_;rintro e w2 ⟨rfl,hb2⟩))
 all_goals
  go_wp2
  go_ret
  exact⟨rfl,HB.out.trans ((hb1.drew.trans (hb2.mono hb1.size)).mono HB.out.size)⟩
set_option maxHeartbeats 2000000 in
theorem put_yes (X g m rb rc n a b xg d:Nat) (op c ka za kb zb:Int) (aa:Option Addr) (an ac:Nat) (w W:World) (HW:Hid (w.alloc (.cells #[.int .i64 op,.int .i64 a,.int .i64 b,.int .i64 c,.slice aa an ac] 84)=W))
  (HF:Hid (Calls Tryz.prog 101 #[.pointer (some ⟨X,0,none⟩)] W fun e w'=>e=.returned (.pointer (some ⟨g,m*4,none⟩))∧Below W.heap.size W w'))
  (HFl:Hid (∀wi,Below W.heap.size W wi→Calls Tryz.prog 179 #[.pointer (some ⟨X,0,none⟩),.agg #[.int .i64 ka,.int .i64 za],.int .i64 c] wi fun e w'=>e=.returned (.pointer (some ⟨xg,d,none⟩))∧Below wi.heap.size wi w'))
  (HC:Hid (∀wi,Below W.heap.size W wi→wi.cell? ⟨w.heap.size,1,none⟩=some (.int .i64 a)∧wi.cell? ⟨w.heap.size,3,none⟩=some (.int .i64 c)∧wi.cell? ⟨rb,a*2,none⟩=some (.int .i64 ka)∧wi.cell? ⟨rb,a*2+1,none⟩=some (.int .i64 za)))
  (HG:Hid (∀wi,Below W.heap.size W wi→wi.cell? ⟨g,m*4+2,none⟩=some (.slice (some ⟨rb,0,none⟩) n rc)))
  (HD:Hid (∀wi,Below W.heap.size W wi→wi.cell? ⟨w.heap.size,2,none⟩=some (.int .i64 b)∧wi.cell? ⟨rb,b*2,none⟩=some (.int .i64 kb)∧wi.cell? ⟨rb,b*2+1,none⟩=some (.int .i64 zb)∧(∃v,wi.cell? ⟨xg,d,none⟩=some v)∧(∃v,wi.cell? ⟨xg,d+1,none⟩=some v)∧wi.frozen? ⟨xg,d,none⟩=false∧wi.frozen? ⟨xg,d+1,none⟩=false))
  (ha:a<n) (hb:b<n) (hbW:Below w.heap.size w W) :
  Calls Tryz.prog 135 #[.pointer (some ⟨X,0,none⟩),.agg #[.int .i64 op,.int .i64 a,.int .i64 b,.int .i64 c,.slice aa an ac]] w fun e w'=>e=.returned (.bool true)∧Hid (∃w2,Below w.heap.size w w2∧w'=(w2.setCell ⟨xg,d,none⟩ (.int .i64 kb)).setCell ⟨xg,d+1,none⟩ (.int .i64 zb)):=by
 have h1:(0:Int)≤(a:Int):=by omega
 have h2:(a:Int)<(n:Int):=by omega
 have h3:(0:Int)≤(b:Int):=by omega
 have h4:(b:Int)<(n:Int):=by omega
 have HB:Hid (Below w.heap.size w W):=hbW
 clear ha hb hbW
 go_enter Tryz.func135,Tryz.ntmps135
 go_upto_region 1 with (fail)
 rw[HW.out]
 go_upto_region 2 with (go_at_call 101;refine HF.out.mono ?_;rintro e w1 ⟨rfl,hb1⟩;have q2:=HG.out w1 hb1)
 go_region_held3 (fun w'=>w'.cell? ⟨w.heap.size,1,none⟩=some (.int .i64 a)∧w'.cell? ⟨w.heap.size,3,none⟩=some (.int .i64 c)∧w'.cell? ⟨rb,a*2,none⟩=some (.int .i64 ka)∧w'.cell? ⟨rb,a*2+1,none⟩=some (.int .i64 za))
  (first|exact HC.out _ hb1.drew|exact HC.out _ (hb1.drew.trans (hb2.mono hb1.size)))
  (first|(go_at_call 179;refine (HFl.out _ hb1.drew).mono ?_;rintro e w2 ⟨rfl,hb2⟩))
 all_goals
  have hb3:Below W.heap.size W w2:=hb1.drew.trans (hb2.mono hb1.size)
  obtain⟨d2,d3,d4,⟨v5,d5⟩,⟨v6,d6⟩,d7,d8⟩:=HD.out w2 hb3
  have HB3:Hid (Below w.heap.size w w2):=HB.out.trans (hb3.mono HB.out.size)
  clear hb1 hb2 hb3
  go_wp2
  go_ret
  exact⟨rfl,_,HB3.out,rfl⟩
def DoPost (X B:Nat) (w:World) (pv:Value) (o:Option Rn) (e:Ending) (w':World):Prop :=
 (o=none∧e=.returned (.bool false)∧Below w.heap.size w w')∨∃R',o=some R'∧e=.returned (.bool true)∧RA X B w' pv R'∧Below B w w'
def outR (R:Rn) (x:Sta×List Int×Bool):Rn:=⟨x.1,R.said++x.2.1,R.paused || x.2.2⟩
section
variable {X B:Nat} {w w':World} {pv fv cv sv:Value} {rv xv:List Value} {R:Rn}
theorem RunAt.stored {g n cap k:Nat} {L:List (Int×Int)} (h:RunAt X B w pv fv cv sv rv xv R) (hr:VRow B w (.slice (some ⟨g,0,none⟩) n cap) L) (hk:k<L.length) (x:Int×Int) :
  let w':=(w.setCell ⟨g,k*2,none⟩ (.int .i64 x.1)).setCell ⟨g,k*2+1,none⟩ (.int .i64 x.2)
  VRow B w' (.slice (some ⟨g,0,none⟩) n cap) (L.set k x)∧(∀j,¬j=g→w'.heap[j]?=w.heap[j]?)∧w'.heap[X]?=w.heap[X]?∧w'.ownsRow B 3 1 sv R.said.length (R.said.map (Value.int .i64))∧Below B w w':=by
 intro w'
 have hj:∀j,¬j=g→w'.heap[j]?=w.heap[j]?:=fun j hj=>(Below.heap_setCell _ _ _ j hj).trans (Below.heap_setCell _ _ _ j hj)
 refine⟨hr.set hk x,hj,hj X fun e=>?_,ownsRow_block h.sd fun j hg=>hj j fun e=>?_,?_⟩
 ·exact h.apart hr (by decide) rfl e.symm
 ·exact ownsRow_apart h.sd hr (by decide) hg (by rw[e];rfl)
 ·exact ((Below.refl B w).setCell (hr.lt g rfl).1 _).setCell (hr.lt g rfl).1 _
theorem RunAt.setField (h:RunAt X B w pv fv cv sv rv xv R) {i c g cap:Nat} (hi:i<R.s.cs.length) (hu:xv[i]?=some (.slice (some ⟨g,0,none⟩) (R.s.cs.getD i []).length cap)) (hc:c<(R.s.cs.getD i []).length) (x:Int×Int) :
  RA X B ((w.setCell ⟨g,c*2,none⟩ (.int .i64 x.1)).setCell ⟨g,c*2+1,none⟩ (.int .i64 x.2)) pv ⟨⟨R.s.fs,R.s.cs.set i ((R.s.cs.getD i []).set c x),R.s.st,R.s.wh⟩,R.said,R.paused⟩∧Below B w ((w.setCell ⟨g,c*2,none⟩ (.int .i64 x.1)).setCell ⟨g,c*2+1,none⟩ (.int .i64 x.2)):=by
 obtain⟨u,k0,k1⟩:=h.own.cells i hi
 rw[hu]at k0;cases k0
 obtain⟨s1,s2,s3,s4,s5⟩:=h.stored k1 hc x
 exact⟨⟨fv,cv,sv,rv,xv,s3.trans h.box,h.own.setFields hi hu (fun k _ _ hk=>s2 k hk) s1,s4,h.hX⟩,s5⟩
theorem RunAt.setReg (h:RunAt X B w pv fv cv sv rv xv R) {m k g cap:Nat} (hm:R.s.fs.length=m+1) (hu:rv[m]?=some (.slice (some ⟨g,0,none⟩) (topF R.s).regs.length cap)) (hk:k<(topF R.s).regs.length) (x:Int×Int) :
  RA X B ((w.setCell ⟨g,k*2,none⟩ (.int .i64 x.1)).setCell ⟨g,k*2+1,none⟩ (.int .i64 x.2)) pv ⟨Go.Proofs.YtfaokaohhchdhaaGreatDoor.setReg R.s k x,R.said,R.paused⟩∧Below B w ((w.setCell ⟨g,k*2,none⟩ (.int .i64 x.1)).setCell ⟨g,k*2+1,none⟩ (.int .i64 x.2)):=by
 have e:topF R.s=fmAt R.s.fs m:=by unfold topF;rw[hm];rfl
 obtain⟨u,k0,k1⟩:=h.own.regs m (by omega)
 rw[hu]at k0;cases k0
 rw[←e]at k1
 obtain⟨s1,s2,s3,s4,s5⟩:=h.stored k1 hk x
 have ho:=h.own.setRegs (i:=m) (by omega) hu (fun k _ _ hk=>s2 k hk) s1
 refine⟨⟨fv,cv,sv,rv,xv,s3.trans h.box,?_,s4,h.hX⟩,s5⟩
 show Own B _ fv cv rv xv ⟨R.s.fs.set (R.s.fs.length - 1) _,_,_,_⟩
 rw[show R.s.fs.length - 1=m by omega,e]
 rw[e]at ho
 exact ho
theorem RunAt.setPos {g m cap:Nat} (h:RunAt X B w pv (.slice (some ⟨g,0,none⟩) (m+1) cap) cv sv rv xv R) (hm:R.s.fs.length=m+1) (p:Int) :
  RunAt X B (w.setCell ⟨g,m*4+1,none⟩ (.int .i64 p)) pv (.slice (some ⟨g,0,none⟩) (m+1) cap) cv sv rv xv ⟨Go.Proofs.YtfaokaohhchdhaaGreatDoor.setPos R.s p,R.said,R.paused⟩∧Below B w (w.setCell ⟨g,m*4+1,none⟩ (.int .i64 p)):=by
 have e:topF R.s=fmAt R.s.fs m:=by unfold topF;rw[hm];rfl
 have hj:∀j,¬j=g→(w.setCell ⟨g,m*4+1,none⟩ (.int .i64 p)).heap[j]?=w.heap[j]?:=fun j hj=>Below.heap_setCell _ _ _ j hj
 have ho:=h.own.setPos (i:=m) (by omega) p
 refine⟨⟨(hj X fun e2=>h.apart h.own.fr (by decide) rfl e2.symm).trans h.box,?_,ownsRow_block h.sd fun j hg=>hj j fun e2=>ownsRow_apart h.sd h.own.fr (by decide) hg (by rw[e2];rfl),h.hX⟩,(Below.refl B w).setCell (h.own.fr.lt g rfl).1 _⟩
 show Own B _ _ cv rv xv ⟨R.s.fs.set (R.s.fs.length - 1) _,_,_,_⟩
 rw[show R.s.fs.length - 1=m by omega,e]
 exact ho
end
theorem nat_of {a:Int} (h:0≤a):∃n:Nat,a=n:=⟨a.toNat,by omega⟩
theorem putM {np:Nat} {P:Nat→Pc} (X B:Nat) (i:In) (aa:Option Addr) (ac:Nat) (w:World) (pv:Value) (R:Rn) (hs:StaOK np P R.s) (hst:R.s.st=0) (h:RA X B w pv R) (ho:i.op=6) (hi:InOK np (fun k=>(P k).params) (procS P R.s).regs (procS P R.s).n i) :
  Calls Tryz.prog 135 #[.pointer (some ⟨X,0,none⟩),.agg #[.int .i64 i.op,.int .i64 i.a,.int .i64 i.b,.int .i64 i.c,.slice aa i.n ac]] w (DoPost X B w pv ((doM P R.s i).map (outR R))):=by
 obtain⟨fv,cv,sv,rv,xv,h⟩:=h
 have hn:¬R.s.fs.length=0:=hs.unfin (by omega)
 have ht:=hs.top hn
 have hlen:=ht.len
 obtain⟨a,ha⟩:=nat_of (hi.ra (by omega) (by omega)).1
 obtain⟨b,hb⟩:=nat_of (hi.rb (by omega)).1
 obtain⟨c,hcc⟩:=nat_of (hi.fld (by omega)).1
 have ha1:=(hi.ra (by omega) (by omega)).2
 have hb1:=(hi.rb (by omega)).2
 unfold procS at ha1 hb1
 rw[ha]at ha1
 rw[hb]at hb1
 have ha2:a<(topF R.s).regs.length:=by omega
 have hb2:b<(topF R.s).regs.length:=by omega
 obtain⟨g,m,cap,rb,rc,rfl,hfl,hrv,T⟩:=h.top hn (by omega)
 obtain⟨W,hW,b0,hsz,i0,i1,i2,i3,i4⟩:=ibox w i.op i.a i.b i.c (.slice aa i.n ac)
 have hfew:=hs.few
 have HF:Hid (Calls Tryz.prog 101 #[.pointer (some ⟨X,0,none⟩)] W fun e w'=>e=.returned (.pointer (some ⟨g,m*4,none⟩))∧Below W.heap.size W w'):=vframe X B W pv cv sv g m cap rv xv R (h.below b0) (by omega)
 have hT:∀wi,Below W.heap.size W wi→TopAt B wi g m rb rc (topF R.s):=fun wi hb=>(T.below b0).below hb
 rw[ha,hb,hcc]at hW
 rw[ha]at i1
 rw[hb]at i2
 rw[hcc]at i3
 have hdo:doM P R.s i=if hasField R.s ((topF R.s).regs.getD a (0,0)) i.c=true then some (Go.Proofs.YtfaokaohhchdhaaGreatDoor.setField R.s ((topF R.s).regs.getD a (0,0)) i.c ((topF R.s).regs.getD b (0,0)),[],false) else none:=by
  unfold doM regAt
  rw[if_pos ho,ha,hb];rfl
 rw[hdo,ha,hb,hcc]
 have hva:=ht.vals.at (a:Int)
 unfold regAt at hva
 rw[Int.toNat_natCast]at hva
 have HC:Hid (∀wi,Below W.heap.size W wi→wi.cell? ⟨w.heap.size,1,none⟩=some (.int .i64 a)∧wi.cell? ⟨w.heap.size,3,none⟩=some (.int .i64 c)∧wi.cell? ⟨rb,a*2,none⟩=some (.int .i64 ((topF R.s).regs.getD a (0,0)).1)∧wi.cell? ⟨rb,a*2+1,none⟩=some (.int .i64 ((topF R.s).regs.getD a (0,0)).2)):=fun wi hw=>⟨below_at hw i1,below_at hw i3,(hT wi hw).r0 a ha2,(hT wi hw).r1 a ha2⟩
 have HG:Hid (∀wi,Below W.heap.size W wi→wi.cell? ⟨g,m*4+2,none⟩=some (.slice (some ⟨rb,0,none⟩) (topF R.s).regs.length rc)):=fun wi hw=>(hT wi hw).c2
 by_cases hk:((topF R.s).regs.getD a (0,0)).1=2
 ·rw[hk]at hva
  obtain⟨k1,k2⟩:=chk_ref hva
  obtain⟨k,hkk⟩:=nat_of k1
  rw[hkk]at k2
  have hkn:k<R.s.cs.length:=by omega
  have hlo:=hs.cells.lo _ (getD_mem (d:=[]) hkn)
  have hhi:=hs.cells.hi _ (getD_mem (d:=[]) hkn)
  have hcn:=hs.cn
  obtain⟨cb,cc,xg,xc,rfl,ck,hxk,hvr⟩:=h.own.ccell hkn (by omega)
  obtain⟨_,_,c2,_⟩:=(h.below b0).cells
  have ckW:=below_at b0 ck
  have hXW:=(h.below b0).lt
  have hfield:hasField R.s ((topF R.s).regs.getD a (0,0)) c=decide ((c:Int)<(R.s.cs.getD k []).length):=by
   unfold hasField
   rw[hk,hkk,Int.toNat_natCast];simp
  by_cases hlt:c<(R.s.cs.getD k []).length
  ·rw[if_pos (by rw[hfield];exact decide_eq_true (by omega))]
   have hvW:VRow B W (.slice (some ⟨xg,0,none⟩) (R.s.cs.getD k []).length xc) (R.s.cs.getD k []):=ownsRow_block hvr fun j hj=>b0.block j (hvr.lt j hj).2
   obtain⟨q0,q1,_,q2,q3⟩:=hvW.vals
   have:=put_yes X g m rb rc (topF R.s).regs.length a b xg (c*2) i.op c ((topF R.s).regs.getD a (0,0)).1 ((topF R.s).regs.getD a (0,0)).2 ((topF R.s).regs.getD b (0,0)).1 ((topF R.s).regs.getD b (0,0)).2 aa i.n ac w W hW HF
    (fun wi hw=>by rw[hk,hkk];exact field_yes X cb cc _ k xg xc _ c wi (Nat.lt_of_lt_of_le hXW hw.size) (Nat.lt_of_lt_of_le (cell_lt ckW) hw.size) (below_at hw c2) (below_at hw ckW) hkn hlt) HC HG
    (fun wi hw=>⟨below_at hw i2,(hT wi hw).r0 b hb2,(hT wi hw).r1 b hb2,⟨_,below_at hw (q0 c hlt).1⟩,⟨_,below_at hw (q0 c hlt).2⟩,(hw.frozen (p:=⟨xg,c*2,none⟩) q3).trans (q1 _),(hw.frozen (p:=⟨xg,c*2+1,none⟩) q3).trans (q1 _)⟩) ha2 hb2 b0
   refine this.mono ?_
   rintro e w' ⟨rfl,w2,hw2,rfl⟩
   have h2:=h.below hw2
   obtain⟨r1,r2⟩:=h2.setField hkn hxk hlt ((topF R.s).regs.getD b (0,0))
   refine Or.inr ⟨_,rfl,rfl,?_,(hw2.mono (Nat.le_trans h.hX (Nat.le_of_lt h.lt))).trans r2⟩
   show RA X B _ pv ⟨Go.Proofs.YtfaokaohhchdhaaGreatDoor.setField R.s _ _ _,R.said++[],R.paused || false⟩
   unfold Go.Proofs.YtfaokaohhchdhaaGreatDoor.setField
   rw[hkk,Int.toNat_natCast,Int.toNat_natCast,List.append_nil,Bool.or_false]
   exact r1
  ·rw[if_neg (by rw[hfield];intro e;have:=of_decide_eq_true e;omega)]
   have:=put_no X g m rb rc (topF R.s).regs.length a b i.op c ((topF R.s).regs.getD a (0,0)).1 ((topF R.s).regs.getD a (0,0)).2 aa i.n ac w W hW HF
    (fun wi hw=>by rw[hk,hkk];exact field_few X cb cc _ k xg xc _ c wi (Nat.lt_of_lt_of_le hXW hw.size) (Nat.lt_of_lt_of_le (cell_lt ckW) hw.size) (below_at hw c2) (below_at hw ckW) hkn (by omega)) HC HG ha2 b0
   refine this.mono ?_
   rintro e w' ⟨rfl,hw2⟩
   exact Or.inl ⟨rfl,rfl,hw2⟩
 ·rw[if_neg (by unfold hasField;intro e;exact hk (of_decide_eq_true e).1)]
  have:=put_no X g m rb rc (topF R.s).regs.length a b i.op c ((topF R.s).regs.getD a (0,0)).1 ((topF R.s).regs.getD a (0,0)).2 aa i.n ac w W hW HF (fun wi hw=>field_kind X _ _ _ wi hk) HC HG ha2 b0
  refine this.mono ?_
  rintro e w' ⟨rfl,hw2⟩
  exact Or.inl ⟨rfl,rfl,hw2⟩
set_option maxHeartbeats 2000000 in
theorem back_end (X g cap:Nat) (v1 v2 tn:Int) (w W:World) (HW:Hid (w.alloc (.cells #[.int .i64 v1,.int .i64 v2] 92)=W))
  (HF:Hid (Calls Tryz.prog 101 #[.pointer (some ⟨X,0,none⟩)] W fun e w'=>e=.returned (.pointer (some ⟨g,0*4,none⟩))∧Below W.heap.size W w'))
  (HG:Hid (∀wi,Below W.heap.size W wi→wi.cell? ⟨X,1,none⟩=some (.slice (some ⟨g,0,none⟩) 1 cap)∧(∃v,wi.cell? ⟨X,3,none⟩=some v)∧wi.cell? ⟨g,3,none⟩=some (.int .i64 tn)∧(∀i,wi.frozen? ⟨X,i,none⟩=false))) (hcap:1≤cap) :
  Calls Tryz.prog 137 #[.pointer (some ⟨X,0,none⟩),.agg #[.int .i64 v1,.int .i64 v2]] w fun e w'=>(∃v,e=.returned v)∧Hid (∃w1,Below W.heap.size W w1∧w'=((w1.setCell ⟨X,1,none⟩ (.slice (some ⟨g,0,none⟩) 0 cap)).setCell ⟨X,3,none⟩ (.int .i64 1)).drew):=by
 go_enter Tryz.func137,Tryz.ntmps137
 go_upto_region 1 with (fail)
 rw[HW.out]
 go_upto_region 2 with (go_at_call 101;refine HF.out.mono ?_;rintro e w1 ⟨rfl,hb1⟩;obtain⟨q1,⟨v3,q3⟩,q4,q5⟩:=HG.out w1 hb1;have q51:=q5 1;have q53:=q5 3;clear q5)
 go_region
 all_goals
  have HB1:Hid (Below W.heap.size W w1):=hb1
  clear hb1
  go_wp2
  refine bodyPost_ret (results_none rfl _ _ _) rfl ?_
  exact⟨⟨_,rfl⟩,_,HB1.out,rfl⟩
theorem set2_keep {w:World} {rb a b g d e:Nat} {x y v1 v2 v3:Value} (h1:¬rb=a) (h2:¬rb=g) (h:w.cell? ⟨a,0,none⟩=some v1∧w.cell? ⟨a,1,none⟩=some v2∧w.cell? ⟨g,b,none⟩=some v3) :
  ((w.setCell ⟨rb,d,none⟩ x).setCell ⟨rb,e,none⟩ y).cell? ⟨a,0,none⟩=some v1∧((w.setCell ⟨rb,d,none⟩ x).setCell ⟨rb,e,none⟩ y).cell? ⟨a,1,none⟩=some v2∧((w.setCell ⟨rb,d,none⟩ x).setCell ⟨rb,e,none⟩ y).cell? ⟨g,b,none⟩=some v3:=by
 have k:∀p:Addr,¬p.block=rb→((w.setCell ⟨rb,d,none⟩ x).setCell ⟨rb,e,none⟩ y).cell? p=w.cell? p:=fun p hp=>World.cell?_of_block ((Below.heap_setCell _ _ _ _ hp).trans (Below.heap_setCell _ _ _ _ hp))
 exact⟨(k _ fun e=>h1 e.symm).trans h.1,(k _ fun e=>h1 e.symm).trans h.2.1,(k _ fun e=>h2 e.symm).trans h.2.2⟩
set_option maxHeartbeats 2000000 in
theorem back_more (X g m rb rc n tn:Nat) (cap:Nat) (v1 v2:Int) (w W:World) (Kp:World→Prop) (HW:Hid (w.alloc (.cells #[.int .i64 v1,.int .i64 v2] 92)=W))
  (HF:Hid (Calls Tryz.prog 101 #[.pointer (some ⟨X,0,none⟩)] W fun e w'=>e=.returned (.pointer (some ⟨g,(m+1)*4,none⟩))∧Below W.heap.size W w'))
  (HG:Hid (∀wi,Below W.heap.size W wi→wi.cell? ⟨X,1,none⟩=some (.slice (some ⟨g,0,none⟩) (m+1+1) cap)∧wi.cell? ⟨g,(m+1)*4+3,none⟩=some (.int .i64 tn)∧(∀i,wi.frozen? ⟨X,i,none⟩=false)))
  (HK:Hid (∀w1,Below W.heap.size W w1→Kp (w1.setCell ⟨X,1,none⟩ (.slice (some ⟨g,0,none⟩) (m+1) cap)).drew))
  (HK2:Hid (∀w1,Kp w1→Kp w1.drew)) (HK3:Hid (∀w1 w2,Kp w1→Below w1.heap.size w1 w2→Kp w2))
  (HF2:Hid (∀wi,Kp wi→Calls Tryz.prog 101 #[.pointer (some ⟨X,0,none⟩)] wi fun e w'=>e=.returned (.pointer (some ⟨g,m*4,none⟩))∧Below wi.heap.size wi w'))
  (HC:Hid (∀wi,Kp wi→wi.cell? ⟨w.heap.size,0,none⟩=some (.int .i64 v1)∧wi.cell? ⟨w.heap.size,1,none⟩=some (.int .i64 v2)∧wi.cell? ⟨g,m*4+2,none⟩=some (.slice (some ⟨rb,0,none⟩) n rc)))
  (HD:Hid (∀wi,Kp wi→(∃v,wi.cell? ⟨rb,tn*2,none⟩=some v)∧(∃v,wi.cell? ⟨rb,tn*2+1,none⟩=some v)∧(∀i,wi.frozen? ⟨rb,i,none⟩=false)))
  (hne1:¬rb=w.heap.size) (hne2:¬rb=g) (hto:tn<n) (hm:m≤1000) (hcap:m+1+1≤cap) :
  Calls Tryz.prog 137 #[.pointer (some ⟨X,0,none⟩),.agg #[.int .i64 v1,.int .i64 v2]] w fun e w'=>(∃v,e=.returned v)∧Hid (∃w1,Kp w1∧w'=(w1.setCell ⟨rb,tn*2,none⟩ (.int .i64 v1)).setCell ⟨rb,tn*2+1,none⟩ (.int .i64 v2)):=by
 have h1:(0:Int)≤(tn:Int):=by omega
 have h2:(tn:Int)<(n:Int):=by omega
 have hw1:IntKind.i64.wrap ((m:Int)+1)=(m:Int)+1:=Go.IntWalk.i64_in _ (by omega)
 have hw2:IntKind.i64.wrap ((m:Int)+1+1 - 1)=(m:Int)+1:=by rw[Int.add_sub_cancel];exact hw1
 go_enter Tryz.func137,Tryz.ntmps137
 go_upto_region 1 with (fail)
 rw[HW.out]
 go_upto_region 2 with (go_at_call 101;refine HF.out.mono ?_;rintro e w1 ⟨rfl,hb1⟩;obtain⟨q1,q4,q5⟩:=HG.out w1 hb1;have q51:=q5 1;clear q5)
 go_region
 all_goals
  have HK1:Hid (Kp (w1.setCell ⟨X,1,none⟩ (.slice (some ⟨g,0,none⟩) (m+1) cap)).drew):=HK.out w1 hb1
  have q6:(w1.setCell ⟨X,1,none⟩ (.slice (some ⟨g,0,none⟩) (m+1) cap)).drew.cell? ⟨X,1,none⟩=some (.slice (some ⟨g,0,none⟩) (m+1) cap):=World.cell?_setCell_same _ _ _ q1
  clear hb1 q4
  generalize (w1.setCell ⟨X,1,none⟩ (.slice (some ⟨g,0,none⟩) (m+1) cap)).drew=w3 at *
  clear q1 q51
  go_upto_region 5 with (fail)
  go_region_held3 (fun w'=>w'.cell? ⟨w.heap.size,0,none⟩=some (.int .i64 v1)∧w'.cell? ⟨w.heap.size,1,none⟩=some (.int .i64 v2)∧w'.cell? ⟨g,m*4+2,none⟩=some (.slice (some ⟨rb,0,none⟩) n rc))
   (first
    | exact HC.out _ (HK2.out _ HK1.out)
    | exact HC.out _ HK5.out
    | exact set2_keep hne1 hne2 (HC.out _ HK5.out))
   (first|(go_at_call 101;refine (HF2.out _ (HK2.out _ HK1.out)).mono ?_;rintro e w5 ⟨rfl,hb5⟩;have HK5:Hid (Kp w5):=HK3.out _ _ (HK2.out _ HK1.out) hb5;obtain⟨⟨v7,d7⟩,⟨v8,d8⟩,d9⟩:=HD.out w5 HK5.out;have d91:=d9 (tn*2);have d92:=d9 (tn*2+1);clear d9 hb5))
  all_goals
   go_wp2
   go_end0
   exact⟨⟨_,rfl⟩,_,HK5.out,rfl⟩
theorem own_keepX {X B:Nat} {w w':World} {fv cv:Value} {rv xv:List Value} {S:Sta} {cur:Array Value} (hbox:w.heap[X]?=some (.cells cur 81 (0,0))) (h:Own B w fv cv rv xv S) (hk:∀k,¬k=X→w'.heap[k]?=w.heap[k]?):Own B w' fv cv rv xv S:=by
 have go:∀ {e size v n xs},w.ownsRow B e size v n xs→¬e=81→w'.ownsRow B e size v n xs:=fun hr hne=>ownsRow_block hr fun g hg=>hk g fun e2=>by
  obtain⟨c,fz,k⟩:=Lib.ownsRow_kind hr g hg
  rw[e2,hbox]at k
  injection k with k
  injection k with _ k2 _
  exact hne k2.symm
 refine⟨go h.fr (by decide),go h.ce (by decide),h.rl,fun i hi=>?_,fun i hi=>?_,h.rr,h.xx,h.rx⟩
 ·obtain⟨u,h1,h2⟩:=h.regs i hi;exact⟨u,h1,go h2 (by decide)⟩
 ·obtain⟨u,h1,h2⟩:=h.cells i hi;exact⟨u,h1,go h2 (by decide)⟩
theorem RunAt.pop {X B:Nat} {w w':World} {pv cv sv:Value} {rv xv:List Value} {R:Rn} {g m cap:Nat} (h:RunAt X B w pv (.slice (some ⟨g,0,none⟩) (m+1) cap) cv sv rv xv R) (st:Int)
  (hb:w'.heap[X]?=some (.cells #[pv,.slice (some ⟨g,0,none⟩) m cap,cv,.int .i64 st,.int .i64 R.s.wh,sv,.bool R.paused] 81 (0,0))) (hk:∀k,¬k=X→w'.heap[k]?=w.heap[k]?) :
  RunAt X B w' pv (.slice (some ⟨g,0,none⟩) m cap) cv sv (rv.take m) xv ⟨⟨R.s.fs.take m,R.s.cs,st,R.s.wh⟩,R.said,R.paused⟩:=by
 have h1:=own_keepX h.box h.own.pop hk
 exact⟨hb,⟨h1.fr,h1.ce,h1.rl,h1.regs,h1.cells,h1.rr,h1.xx,h1.rx⟩,(h.setX hk).2,h.hX⟩
theorem Own.capF {B:Nat} {w:World} {cv:Value} {rv xv:List Value} {S:Sta} {g n cap:Nat} (h:Own B w (.slice (some ⟨g,0,none⟩) n cap) cv rv xv S):n≤cap:=by
 rcases h.fr.2 with⟨h0,_⟩|⟨_,_,_,hv,_,_,hn,_⟩
 ·cases h0
 ·injection hv with _ h2 h3
  omega
theorem backM {np:Nat} {P:Nat→Pc} (X B:Nat) (v:Int×Int) (w:World) (pv:Value) (R:Rn) (hc:CodeOK np P) (hs:StaOK np P R.s) (hst:R.s.st=0) (h:RA X B w pv R) :
  Calls Tryz.prog 137 #[.pointer (some ⟨X,0,none⟩),.agg #[.int .i64 v.1,.int .i64 v.2]] w fun e w'=>(∃v,e=.returned v)∧Hid (RA X B w' pv ⟨backS R.s v,R.said,R.paused⟩∧Below B w w'):=by
 obtain⟨fv,cv,sv,rv,xv,h⟩:=h
 have hn:¬R.s.fs.length=0:=hs.unfin (by omega)
 have hrl:∀k,k<R.s.fs.length→1≤(fmAt R.s.fs k).regs.length:=fun k hk=>by
  have q:=hs.frames k hk
  have:=hc.r0 _ (show (fmAt R.s.fs k).proc.toNat<np by have:=q.p0;have:=q.p1;omega)
  have:=q.len
  omega
 have htl:=hrl (R.s.fs.length - 1) (by omega)
 obtain⟨g,m,cap,rb,rc,rfl,hfl,hrv,T⟩:=h.top hn (by unfold topF;omega)
 have hcap:=h.own.capF
 have hfew:=hs.few
 obtain⟨W,hW⟩:∃W,w.alloc (.cells #[.int .i64 v.1,.int .i64 v.2] 92)=W:=⟨_,rfl⟩
 have b0:Below w.heap.size w W:=hW ▸ below_alloc w _
 have x0:W.cell? ⟨w.heap.size,0,none⟩=some (.int .i64 v.1):=by rw[←hW,World.cell?_alloc_new];rfl
 have x1:W.cell? ⟨w.heap.size,1,none⟩=some (.int .i64 v.2):=by rw[←hW,World.cell?_alloc_new];rfl
 have hBw:B≤w.heap.size:=Nat.le_trans h.hX (Nat.le_of_lt h.lt)
 have HF:Hid (Calls Tryz.prog 101 #[.pointer (some ⟨X,0,none⟩)] W fun e w'=>e=.returned (.pointer (some ⟨g,m*4,none⟩))∧Below W.heap.size W w'):=vframe X B W pv cv sv g m cap rv xv R (h.below b0) (by omega)
 have hRW:∀wi,Below W.heap.size W wi→RunAt X B wi pv (.slice (some ⟨g,0,none⟩) (m+1) cap) cv sv rv xv R:=fun wi hw=>(h.below b0).below hw
 have hBX:=h.hX
 cases m with
 | zero =>
  have:=back_end X g cap v.1 v.2 (topF R.s).to w W hW HF (fun wi hw=>by
   obtain⟨_,c1,_,c3,_,_,_,c7⟩:=(hRW wi hw).cells
   have t3:=(((T.below b0).below hw).c3)
   rw[Nat.zero_mul,Nat.zero_add]at t3
   exact⟨c1,⟨_,c3⟩,t3,c7⟩) (by omega)
  refine this.mono ?_
  rintro e w' ⟨he,w1,hw1,rfl⟩
  refine⟨he,?_,?_⟩
  ·have h1:=hRW w1 hw1
   have q1:=heap_setCell_same w1 X 1 _ _ (.slice (some ⟨g,0,none⟩) 0 cap) h1.box
   have q2:=heap_setCell_same _ X 3 _ _ (.int .i64 1) q1
   have:=h1.pop (w':=((w1.setCell ⟨X,1,none⟩ (.slice (some ⟨g,0,none⟩) 0 cap)).setCell ⟨X,3,none⟩ (.int .i64 1)).drew) 1 q2 (fun k hk=>(Below.heap_setCell _ _ _ k hk).trans (Below.heap_setCell _ _ _ k hk))
   unfold backS
   rw[if_pos (by omega)]
   rw[List.take_zero]at this
   exact⟨_,_,_,_,_,this⟩
  ·have k1:Below B w w1:=(b0.mono hBw).trans (hw1.mono (Nat.le_trans hBw b0.size))
   exact ((k1.setCell hBX _).setCell hBX _).drew
 | succ m =>
  have hm1:m<R.s.fs.length:=by omega
  obtain⟨u,k0,_,_,_,_,k5⟩:=h.own.fcells hm1
  obtain⟨rb2,rc2,rfl⟩:=k5.shape (by have:=hrl m hm1;omega)
  have hto0:=(hs.top hn).t0
  have hto1:=(hs.top hn).t1
  have hah:ahead R.s.fs (R.s.fs.length - 1)=(fmAt R.s.fs m).regs.length:=by
   unfold ahead
   rw[if_neg (by omega),show R.s.fs.length - 1 - 1=m by omega]
  rw[hah]at hto1
  obtain⟨tn,hto⟩:=nat_of hto0
  have hrt:(rv.take (m+1))[m]?=some (.slice (some ⟨rb2,0,none⟩) (fmAt R.s.fs m).regs.length rc2):=by rw[List.getElem?_take_of_lt (by omega)];exact k0
  have hpt:topF (popS R.s)=fmAt R.s.fs m:=by
   unfold topF popS
   simp only[List.length_take]
   rw[show min (R.s.fs.length - 1) R.s.fs.length - 1=m by omega,fmAt_take (by omega)]
  have hpe:(⟨⟨R.s.fs.take (m+1),R.s.cs,R.s.st,R.s.wh⟩,R.said,R.paused⟩:Rn)=⟨popS R.s,R.said,R.paused⟩:=by unfold popS;rw[show R.s.fs.length - 1=m+1 by omega]
  have hpl:(popS R.s).fs.length=m+1:=by unfold popS;simp;omega
  have gap:∀wi,RunAt X B wi pv (.slice (some ⟨g,0,none⟩) (m+1) cap) cv sv (rv.take (m+1)) xv ⟨popS R.s,R.said,R.paused⟩→TopAt B wi g m rb2 rc2 (fmAt R.s.fs m):=fun wi hr=>by
   obtain⟨g',m',cap',rb',rc',e1,e2,e3,T2⟩:=hr.top (by show ¬(popS R.s).fs.length=0;omega) (by show ¬(topF (popS R.s)).regs.length=0;rw[hpt];have:=hrl m hm1;omega)
   injection e1 with e1 e1' e1''
   injection e1 with e1
   injection e1 with e1 _ _
   have em:m'=m:=by omega
   subst e1 em
   have e3':(rv.take (m'+1))[m']?=some (.slice (some ⟨rb',0,none⟩) (topF (popS R.s)).regs.length rc'):=e3
   rw[hrt,hpt]at e3'
   injection e3' with e3'
   injection e3' with e4 _ e5
   injection e4 with e4
   injection e4 with e4 _ _
   subst e4 e5
   have T3:TopAt B wi g m' rb2 rc2 (topF (popS R.s)):=T2
   rw[hpt]at T3
   exact T3
  let Kp:World→Prop:=fun wi=>RunAt X B wi pv (.slice (some ⟨g,0,none⟩) (m+1) cap) cv sv (rv.take (m+1)) xv ⟨popS R.s,R.said,R.paused⟩∧wi.cell? ⟨w.heap.size,0,none⟩=some (.int .i64 v.1)∧wi.cell? ⟨w.heap.size,1,none⟩=some (.int .i64 v.2)∧Below B w wi
  have hXne:¬w.heap.size=X:=by have:=h.lt;omega
  have HK:Hid (∀w1,Below W.heap.size W w1→Kp (w1.setCell ⟨X,1,none⟩ (.slice (some ⟨g,0,none⟩) (m+1) cap)).drew):=fun w1 hw1=>by
   have h1:=hRW w1 hw1
   have q1:=heap_setCell_same w1 X 1 _ _ (.slice (some ⟨g,0,none⟩) (m+1) cap) h1.box
   have hp:=h1.pop (w':=(w1.setCell ⟨X,1,none⟩ (.slice (some ⟨g,0,none⟩) (m+1) cap)).drew) R.s.st q1 (fun k hk=>Below.heap_setCell _ _ _ k hk)
   rw[hpe]at hp
   have k1:Below B w w1:=(b0.mono hBw).trans (hw1.mono (Nat.le_trans hBw b0.size))
   have kc:∀i,(w1.setCell ⟨X,1,none⟩ (.slice (some ⟨g,0,none⟩) (m+1) cap)).drew.cell? ⟨w.heap.size,i,none⟩=w1.cell? ⟨w.heap.size,i,none⟩:=fun i=>World.cell?_of_block (w:=w1) (a:=⟨w.heap.size,i,none⟩) (Below.heap_setCell w1 _ _ _ hXne)
   exact⟨hp,(kc 0).trans (below_at hw1 x0),(kc 1).trans (below_at hw1 x1),(k1.setCell hBX _).drew⟩
  have hK3:∀w1 w2,Kp w1→Below w1.heap.size w1 w2→Kp w2:=fun w1 w2 k hw=>⟨k.1.below hw,below_at hw k.2.1,below_at hw k.2.2.1,k.2.2.2.trans (hw.mono (Nat.le_trans hBX (Nat.le_of_lt k.1.lt)))⟩
  have:=back_more X g m rb2 rc2 (fmAt R.s.fs m).regs.length tn cap v.1 v.2 w W Kp hW HF (fun wi hw=>by
   obtain⟨_,c1,_,_,_,_,_,c7⟩:=(hRW wi hw).cells
   have t3:=(((T.below b0).below hw).c3)
   rw[hto]at t3
   exact⟨c1,t3,c7⟩) HK (fun w1 k=>hK3 _ _ k (Below.refl _ _).drew) hK3
   (fun wi k=>vframe X B wi pv cv sv g m cap _ xv _ k.1 (by omega))
   (fun wi k=>⟨k.2.1,k.2.2.1,(gap wi k.1).c2⟩)
   (fun wi k=>⟨⟨_,(gap wi k.1).r0 tn (by omega)⟩,⟨_,(gap wi k.1).r1 tn (by omega)⟩,(gap wi k.1).rz⟩)
   (by have:=(k5.lt rb2 rfl).2;omega) (fun e=>ownsRow_apart k5 h.own.fr (by decide) (by rfl) (by rw[e];rfl)) (by omega) (by omega) (by omega)
  refine this.mono ?_
  rintro e w' ⟨he,w1,k1,rfl⟩
  obtain⟨r1,r2⟩:=k1.1.setReg (m:=m) hpl (by show _=some (Value.slice _ (topF (popS R.s)).regs.length _);rw[hpt];exact hrt) (k:=tn) (by show _<(topF (popS R.s)).regs.length;rw[hpt];omega) v
  refine⟨he,?_,k1.2.2.2.trans r2⟩
  unfold backS
  rw[if_neg (by omega),hto]
  exact r1
end Go.Proofs.YtfaokaohhchdhaaGreatDoor
