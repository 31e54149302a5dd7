/- set. -/
import Derived.Test.YtfaokaohhchdhaaGreatDoorPart16
import Derived.Deep.RegionWith
namespace Go.Proofs.YtfaokaohhchdhaaGreatDoor
open Go.RowKit Go.Maps
set_option maxHeartbeats 2000000 in
theorem set_no (X:Nat) (op a b c:Int) (aa:Option Addr) (an ac:Nat) (w W:World) (HW:Hid (w.alloc (.cells #[.int .i64 op,.int .i64 a,.int .i64 b,.int .i64 c,.slice aa an ac] 84)=W))
  (HI:Hid (W.cell? ⟨w.heap.size,0,none⟩=some (.int .i64 op)∧W.cell? ⟨w.heap.size,1,none⟩=some (.int .i64 a)∧W.cell? ⟨w.heap.size,2,none⟩=some (.int .i64 b)∧W.cell? ⟨w.heap.size,3,none⟩=some (.int .i64 c)∧W.cell? ⟨w.heap.size,4,none⟩=some (.slice aa an ac)))
  (HV:Hid (Calls Tryz.prog 180 #[.pointer (some ⟨X,0,none⟩),.agg #[.int .i64 op,.int .i64 a,.int .i64 b,.int .i64 c,.slice aa an ac]] W fun e w'=>∃k z,e=.returned (.tuple #[.agg #[.int .i64 k,.int .i64 z],.bool false])∧Below W.heap.size W w'))
  (HB:Hid (Below w.heap.size w W)) :
  Calls Tryz.prog 140 #[.pointer (some ⟨X,0,none⟩),.agg #[.int .i64 op,.int .i64 a,.int .i64 b,.int .i64 c,.slice aa an ac]] w fun e w'=>e=.returned (.bool false)∧Below w.heap.size w w':=by
 obtain⟨i0,i1,i2,i3,i4⟩:=HI.out
 go_enter Tryz.func140,Tryz.ntmps140
 go_upto_region 1 with (fail)
 rw[HW.out]
 go_wp2_with (go_at_call 180;refine HV.out.mono ?_;rintro e w1 ⟨k,z,rfl,hb1⟩)
 go_ret
 exact⟨rfl,below_step (HB.out.trans (hb1.mono HB.out.size)) (below_alloc _ _)⟩
set_option maxHeartbeats 2000000 in
theorem set_yes (X a:Nat) (op b c:Int) (aa:Option Addr) (an ac:Nat) (w W:World) (Kp:Int→Int→World→Prop) (Rg:World→Nat→Nat→Nat→Nat→Nat→Prop) (HW:Hid (w.alloc (.cells #[.int .i64 op,.int .i64 a,.int .i64 b,.int .i64 c,.slice aa an ac] 84)=W))
  (HI:Hid (W.cell? ⟨w.heap.size,0,none⟩=some (.int .i64 op)∧W.cell? ⟨w.heap.size,1,none⟩=some (.int .i64 a)∧W.cell? ⟨w.heap.size,2,none⟩=some (.int .i64 b)∧W.cell? ⟨w.heap.size,3,none⟩=some (.int .i64 c)∧W.cell? ⟨w.heap.size,4,none⟩=some (.slice aa an ac)))
  (HV:Hid (Calls Tryz.prog 180 #[.pointer (some ⟨X,0,none⟩),.agg #[.int .i64 op,.int .i64 a,.int .i64 b,.int .i64 c,.slice aa an ac]] W fun e w'=>∃k z,e=.returned (.tuple #[.agg #[.int .i64 k,.int .i64 z],.bool true])∧Hid (Kp k z w')))
  (HR:Hid (∀k z w2,Kp k z w2→∃g m rb rc n,Rg w2 g m rb rc n))
  (HF:Hid (∀w2 g m rb rc n,Rg w2 g m rb rc n→∀wi,Below w2.heap.size w2 wi→Calls Tryz.prog 101 #[.pointer (some ⟨X,0,none⟩)] wi fun e w'=>e=.returned (.pointer (some ⟨g,m*4,none⟩))∧Below wi.heap.size wi w'))
  (HC:Hid (∀w2 g m rb rc n,Rg w2 g m rb rc n→∀wi,Below w2.heap.size w2 wi→wi.cell? ⟨g,m*4+2,none⟩=some (.slice (some ⟨rb,0,none⟩) n rc)∧wi.cell? ⟨w.heap.size,1,none⟩=some (.int .i64 a)))
  (HD:Hid (∀w2 g m rb rc n,Rg w2 g m rb rc n→∀wi,Below w2.heap.size w2 wi→(∃v,wi.cell? ⟨rb,a*2,none⟩=some v)∧(∃v,wi.cell? ⟨rb,a*2+1,none⟩=some v)∧(∀i,wi.frozen? ⟨rb,i,none⟩=false)))
  (HN:Hid (∀w2 g m rb rc n,Rg w2 g m rb rc n→a<n∧¬rb=w.heap.size∧¬rb=g∧rb<w2.heap.size)) :
  Calls Tryz.prog 140 #[.pointer (some ⟨X,0,none⟩),.agg #[.int .i64 op,.int .i64 a,.int .i64 b,.int .i64 c,.slice aa an ac]] w fun e w'=>e=.returned (.bool true)∧Hid (∃k z w2 g m rb rc n w4,Kp k z w2∧Rg w2 g m rb rc n∧Below w2.heap.size w2 w4∧w'=(w4.setCell ⟨rb,a*2,none⟩ (.int .i64 k)).setCell ⟨rb,a*2+1,none⟩ (.int .i64 z)):=by
 obtain⟨i0,i1,i2,i3,i4⟩:=HI.out
 go_enter Tryz.func140,Tryz.ntmps140
 go_upto_region 1 with (fail)
 rw[HW.out]
 go_upto_region 2 with (go_at_call 180;refine HV.out.mono ?_;rintro e w1 ⟨k,z,rfl,HK⟩)
 obtain⟨g,m,rb,rc,n,hR⟩:=HR.out k z w1 HK.out
 have HRg:Hid (Rg w1 g m rb rc n):=hR
 obtain⟨n1,n2,n3,n4⟩:=HN.out _ _ _ _ _ _ hR
 have h1:(0:Int)≤(a:Int):=by omega
 have h2:(a:Int)<(n:Int):=by omega
 obtain⟨W3,hW3⟩:∃W3,w1.alloc (.cells #[.int .i64 k,.int .i64 z] 92)=W3:=⟨_,rfl⟩
 have x0:W3.cell? ⟨w1.heap.size,0,none⟩=some (.int .i64 k):=by rw[←hW3,World.cell?_alloc_new];rfl
 have x1:W3.cell? ⟨w1.heap.size,1,none⟩=some (.int .i64 z):=by rw[←hW3,World.cell?_alloc_new];rfl
 have hb3:Below w1.heap.size w1 W3:=hW3 ▸ below_alloc w1 _
 have hs3:W3.heap.size=w1.heap.size+1:=by rw[←hW3];simp
 rw[hW3]
 clear hW3 hR i0 i1 i2 i3 i4
 have HS:Hid (∀wi,Below W3.heap.size W3 wi→wi.cell? ⟨g,m*4+2,none⟩=some (.slice (some ⟨rb,0,none⟩) n rc)∧wi.cell? ⟨w.heap.size,1,none⟩=some (.int .i64 a)∧wi.cell? ⟨w1.heap.size,0,none⟩=some (.int .i64 k)∧wi.cell? ⟨w1.heap.size,1,none⟩=some (.int .i64 z)):=fun wi hw=>by
  obtain⟨e1,e2⟩:=HC.out _ _ _ _ _ _ HRg.out wi (below_step hb3 hw)
  exact⟨e1,e2,below_at hw x0,below_at hw x1⟩
 have HS2:Hid (∀(wi:World) (x y:Value),Below W3.heap.size W3 wi→((wi.setCell ⟨rb,a*2,none⟩ x).setCell ⟨rb,a*2+1,none⟩ y).cell? ⟨g,m*4+2,none⟩=some (.slice (some ⟨rb,0,none⟩) n rc)∧((wi.setCell ⟨rb,a*2,none⟩ x).setCell ⟨rb,a*2+1,none⟩ y).cell? ⟨w.heap.size,1,none⟩=some (.int .i64 a)∧((wi.setCell ⟨rb,a*2,none⟩ x).setCell ⟨rb,a*2+1,none⟩ y).cell? ⟨w1.heap.size,0,none⟩=some (.int .i64 k)∧((wi.setCell ⟨rb,a*2,none⟩ x).setCell ⟨rb,a*2+1,none⟩ y).cell? ⟨w1.heap.size,1,none⟩=some (.int .i64 z)):=fun wi x y hw=>by
  obtain⟨e1,e2,e3,e4⟩:=HS.out wi hw
  exact⟨(set2_other (fun e=>n3 e.symm)).trans e1,(set2_other (fun e=>n2 e.symm)).trans e2,(set2_other (by show ¬w1.heap.size=rb;omega)).trans e3,(set2_other (by show ¬w1.heap.size=rb;omega)).trans e4⟩
 have HDD:=HD.out _ _ _ _ _ _ HRg.out
 have HD2:Hid (∀wi,Below w1.heap.size w1 wi→(∃v,wi.cell? ⟨rb,a*2,none⟩=some v)∧(∃v,wi.cell? ⟨rb,a*2+1,none⟩=some v)∧(∀i,wi.frozen? ⟨rb,i,none⟩=false)):=HDD
 have HF2:Hid (∀wi,Below w1.heap.size w1 wi→Calls Tryz.prog 101 #[.pointer (some ⟨X,0,none⟩)] wi fun e w'=>e=.returned (.pointer (some ⟨g,m*4,none⟩))∧Below wi.heap.size wi w'):=HF.out _ _ _ _ _ _ HRg.out
 have HB3:Hid (Below w1.heap.size w1 W3):=hb3
 clear x0 x1 hb3 hs3 HDD n1 n2 n3 n4
 go_upto_region 3 with (fail)
 go_region_held3 (fun w'=>w'.cell? ⟨g,m*4+2,none⟩=some (.slice (some ⟨rb,0,none⟩) n rc)∧w'.cell? ⟨w.heap.size,1,none⟩=some (.int .i64 a)∧w'.cell? ⟨w1.heap.size,0,none⟩=some (.int .i64 k)∧w'.cell? ⟨w1.heap.size,1,none⟩=some (.int .i64 z))
  (first|exact HS.out _ (Below.refl _ _).drew|exact HS.out _ hb5|exact HS2.out _ _ _ hb5)
  (first|(go_at_call 101;refine (HF2.out _ HB3.out.drew).mono ?_;rintro e w5 ⟨rfl,hb5'⟩;have hb5:Below W3.heap.size W3 w5:=(Below.refl _ _).drew.trans hb5';obtain⟨⟨v7,d7⟩,⟨v8,d8⟩,d9⟩:=HD2.out w5 (below_step HB3.out hb5);have d91:=d9 (a*2);have d92:=d9 (a*2+1);clear d9))
 all_goals
  have HB5:Hid (Below w1.heap.size w1 w5):=below_step HB3.out hb5
  clear hb5 hb5'
  go_wp2
  go_ret
  exact⟨rfl,k,z,w1,g,m,rb,rc,n,w5,HK.out,HRg.out,HB5.out,rfl⟩
theorem topF_swept (S:Sta) (hn:¬S.fs.length=0):topF (sweptS S)=renumF (reachedS S) (topF S):=by
 unfold topF sweptS
 simp only[List.length_map]
 exact fmAt_map (by omega)
theorem valueM_frames {S:Sta} {i:In} {x:Sta×(Int×Int)} (hn:¬S.fs.length=0) (e:valueM S i=some x):x.1.fs.length=S.fs.length∧(topF x.1).regs.length=(topF S).regs.length:=by
 unfold valueM at e
 split at e
 ·injection e with e;subst e;exact⟨rfl,rfl⟩
 split at e
 ·injection e with e;subst e;exact⟨rfl,rfl⟩
 split at e
 ·cases hv:opM (i.z 0) (regAt (topF S).regs i.b) (regAt (topF S).regs i.c) with
  | none=>rw[hv]at e;cases e
  | some v=>rw[hv]at e;injection e with e;subst e;exact⟨rfl,rfl⟩
 split at e
 ·split at e
  ·cases e
  ·injection e with e;subst e
   refine⟨roomS_fs S,?_⟩
   show (topF (roomS S)).regs.length=_
   unfold roomS
   split
   ·rw[topF_swept S hn];simp[renumF]
   ·rfl
 split at e
 ·injection e with e;subst e;exact⟨rfl,rfl⟩
 ·cases e
theorem setM {np:Nat} {P:Nat→Pc} (hNew:NewC np P) (M X B:Nat) (i:In) (aa:Option Addr) (ac:Nat) (w:World) (pv:Value) (R:Rn) (hc:CodeOK np P) (hs:StaOK np P R.s) (hst:R.s.st=0) (h:RA X B w pv R)
  (ho:i.op=1∨i.op=2∨i.op=3∨i.op=4∨i.op=5) (hi:InOK np (fun k=>(P k).params) (procS P R.s).regs (procS P R.s).n i) (hav:NumsAt M w (.slice aa i.n ac) i.n i.z) (hM:M≤w.heap.size) :
  Calls Tryz.prog 140 #[.pointer (some ⟨X,0,none⟩),.agg #[.int .i64 i.op,.int .i64 i.a,.int .i64 i.b,.int .i64 i.c,.slice aa i.n ac]] w (DoPost X B w pv ((valueM R.s i).map fun x=>outR R (setReg x.1 i.a x.2,[],false))):=by
 obtain⟨fv,cv,sv,rv,xv,h⟩:=h
 have hn:¬R.s.fs.length=0:=hs.unfin (by omega)
 have ht:=hs.top hn
 have hlen:=ht.len
 obtain⟨a,ha⟩:=nat_of (hi.ra (by omega) (by omega)).1
 have ha1:=(hi.ra (by omega) (by omega)).2
 unfold procS at ha1
 rw[ha]at ha1
 have ha2:a<(topF R.s).regs.length:=by omega
 obtain⟨W,hW,b0,hsz,i0,i1,i2,i3,i4⟩:=ibox w i.op i.a i.b i.c (.slice aa i.n ac)
 have hBw:B≤w.heap.size:=Nat.le_trans h.hX (Nat.le_of_lt h.lt)
 have hXw:=h.lt
 have hVal:=valueP hNew w.heap.size M X B i aa ac W pv R hc hs hst ⟨fv,cv,sv,rv,xv,h.below b0,fun k hk=>h.ownLt hk⟩ hXw b0.size ho hi (hav.below (b0.mono hM)) (by omega)
 have hfew:=hs.few
 cases hv:valueM R.s i with
 | none =>
  rw[hv]at hVal
  refine (set_no X i.op i.a i.b i.c aa i.n ac w W hW ⟨i0,i1,i2,i3,i4⟩ (hVal.mono (by
   rintro e w' (⟨_,⟨k,z,rfl⟩,hb⟩|⟨S',v,h3,_⟩)
   ·exact⟨k,z,rfl,hb⟩
   ·cases h3)) b0).mono ?_
  rintro e w' ⟨rfl,hb⟩
  exact Or.inl ⟨rfl,rfl,hb⟩
 | some x =>
  obtain⟨S',v⟩:=x
  rw[hv]at hVal
  obtain⟨r1,r2,r3,_⟩:=valueM_right hc hs hn hi hv
  obtain⟨f1,f2⟩:=valueM_frames hn hv
  have r1:StaOK np P S':=r1
  have f1:S'.fs.length=R.s.fs.length:=f1
  have f2:(topF S').regs.length=(topF R.s).regs.length:=f2
  rw[ha]at hW i1 hVal ⊢
  have:=set_yes X a i.op i.b i.c aa i.n ac w W (fun k z w2=>v=(k,z)∧RI (fun k=>k<w.heap.size∨W.heap.size≤k) X B w2 pv ⟨S',R.said,R.paused⟩∧Below B W w2∧∀j,w.heap.size≤j→j<W.heap.size→w2.heap[j]?=W.heap[j]?)
   (fun w2 g m rb rc n=>∃cap cv sv rv xv,RunAt X B w2 pv (.slice (some ⟨g,0,none⟩) (m+1) cap) cv sv rv xv ⟨S',R.said,R.paused⟩∧(∀k,OwnB (.slice (some ⟨g,0,none⟩) (m+1) cap) cv sv rv xv k→k<w.heap.size∨W.heap.size≤k)∧S'.fs.length=m+1∧rv[m]?=some (.slice (some ⟨rb,0,none⟩) n rc)∧n=(topF S').regs.length∧TopAt B w2 g m rb rc (topF S')∧w2.cell? ⟨w.heap.size,1,none⟩=some (.int .i64 a)∧Below B W w2)
   hW ⟨i0,i1,i2,i3,i4⟩ (hVal.mono (by
    rintro e w' (⟨h3,_⟩|⟨S2,v2,h3,he,hr,hb,hk⟩)
    ·cases h3
    ·injection h3 with h3
     injection h3 with h3 h4
     subst h3 h4
     exact⟨_,_,he,rfl,hr,hb,hk⟩))
   (fun k z w2 hk=>by
    obtain⟨_,⟨fv2,cv2,sv2,rv2,xv2,hr,hown⟩,hb,hj⟩:=hk
    obtain⟨g,m,cap,rb,rc,rfl,hfl,hrv,T⟩:=hr.top (by show ¬S'.fs.length=0;omega) (by show ¬(topF S').regs.length=0;omega)
    exact⟨g,m,rb,rc,_,cap,cv2,sv2,rv2,xv2,hr,hown,hfl,hrv,rfl,T,(World.cell?_of_block (w:=W) (a:=⟨w.heap.size,1,none⟩) (hj w.heap.size (Nat.le_refl _) (by omega))).trans i1,hb⟩)
   (fun w2 g m rb rc n hR wi hw=>by
    obtain⟨cap,cv2,sv2,rv2,xv2,hr,_,hfl,_⟩:=hR
    exact vframe X B wi pv cv2 sv2 g m cap rv2 xv2 _ (hr.below hw) (by omega))
   (fun w2 g m rb rc n hR wi hw=>by
    obtain⟨cap,cv2,sv2,rv2,xv2,hr,_,hfl,_,rfl,T,hcell,_⟩:=hR
    exact⟨(T.below hw).c2,below_at hw hcell⟩)
   (fun w2 g m rb rc n hR wi hw=>by
    obtain⟨cap,cv2,sv2,rv2,xv2,hr,_,hfl,_,rfl,T,_⟩:=hR
    have T2:=T.below hw
    exact⟨⟨_,T2.r0 a (by omega)⟩,⟨_,T2.r1 a (by omega)⟩,T2.rz⟩)
   (fun w2 g m rb rc n hR=>by
    obtain⟨cap,cv2,sv2,rv2,xv2,hr,hown,hfl,hrv,rfl,T,_⟩:=hR
    have hrb:=hown rb (Or.inr (Or.inr (Or.inr (Or.inl ⟨_,List.mem_of_getElem? hrv,rfl⟩))))
    refine⟨by omega,by omega,fun e=>?_,T.rl⟩
    obtain⟨u,k0,k1⟩:=hr.own.regs m (by show m<S'.fs.length;omega)
    rw[hrv]at k0;cases k0
    exact ownsRow_apart k1 hr.own.fr (by decide) (g:=rb) rfl (by rw[e];rfl))
  refine this.mono ?_
  rintro e w' ⟨rfl,k,z,w2,g,m,rb,rc,n,w4,⟨hvk,_,_,_⟩,hR,hb4,rfl⟩
  obtain⟨cap,cv2,sv2,rv2,xv2,hr,_,hfl,hrv,rfl,T,_,hb2⟩:=hR
  obtain rfl:=hvk
  obtain⟨q1,q2⟩:=(hr.below hb4).setReg hfl hrv (k:=a) (by show a<(topF S').regs.length;omega) (k,z)
  have hBW:B≤W.heap.size:=Nat.le_trans hBw b0.size
  refine Or.inr ⟨_,rfl,rfl,?_,(b0.mono hBw).trans (hb2.trans ((hb4.mono (Nat.le_trans hBW hb2.size)).trans q2))⟩
  show RA X B _ pv ⟨setReg S' _ (k,z),R.said++[],R.paused || false⟩
  rw[List.append_nil,Bool.or_false]
  exact q1
set_option maxHeartbeats 2000000 in
theorem do_put (X g m:Nat) (a b c:Int) (ok:Bool) (aa:Option Addr) (an ac:Nat) (w W:World) (Kp:World→Prop) (HW:Hid (w.alloc (.cells #[.int .i64 6,.int .i64 a,.int .i64 b,.int .i64 c,.slice aa an ac] 84)=W))
  (HF:Hid (Calls Tryz.prog 101 #[.pointer (some ⟨X,0,none⟩)] W fun e w'=>e=.returned (.pointer (some ⟨g,m*4,none⟩))∧Below W.heap.size W w'))
  (HI:Hid (∀wi,Below W.heap.size W wi→wi.cell? ⟨w.heap.size,0,none⟩=some (.int .i64 6)∧wi.cell? ⟨w.heap.size,1,none⟩=some (.int .i64 a)∧wi.cell? ⟨w.heap.size,2,none⟩=some (.int .i64 b)∧wi.cell? ⟨w.heap.size,3,none⟩=some (.int .i64 c)∧wi.cell? ⟨w.heap.size,4,none⟩=some (.slice aa an ac)))
  (HC:Hid (∀wi,Below W.heap.size W wi→Calls Tryz.prog 135 #[.pointer (some ⟨X,0,none⟩),.agg #[.int .i64 6,.int .i64 a,.int .i64 b,.int .i64 c,.slice aa an ac]] wi fun e w'=>e=.returned (.bool ok)∧Hid (Kp w'))) :
  Calls Tryz.prog 102 #[.pointer (some ⟨X,0,none⟩),.agg #[.int .i64 6,.int .i64 a,.int .i64 b,.int .i64 c,.slice aa an ac]] w fun e w'=>e=.returned (.bool ok)∧Hid (Kp w'):=by
 go_enter Tryz.func102,Tryz.ntmps102
 go_upto_region 1 with (fail)
 rw[HW.out]
 go_wp2_with (first
  | (go_at_call 101;refine HF.out.mono ?_;rintro e w1 ⟨rfl,hb1⟩;obtain⟨i0,i1,i2,i3,i4⟩:=HI.out w1 hb1)
  | (go_at_call 135;refine (HC.out _ hb1).mono ?_;rintro e w2 ⟨rfl,HK⟩))
 go_ret
 exact⟨rfl,HK⟩
set_option maxHeartbeats 2000000 in
theorem do_call (X g m:Nat) (a b c:Int) (ok:Bool) (aa:Option Addr) (an ac:Nat) (w W:World) (Kp:World→Prop) (HW:Hid (w.alloc (.cells #[.int .i64 7,.int .i64 a,.int .i64 b,.int .i64 c,.slice aa an ac] 84)=W))
  (HF:Hid (Calls Tryz.prog 101 #[.pointer (some ⟨X,0,none⟩)] W fun e w'=>e=.returned (.pointer (some ⟨g,m*4,none⟩))∧Below W.heap.size W w'))
  (HI:Hid (∀wi,Below W.heap.size W wi→wi.cell? ⟨w.heap.size,0,none⟩=some (.int .i64 7)∧wi.cell? ⟨w.heap.size,1,none⟩=some (.int .i64 a)∧wi.cell? ⟨w.heap.size,2,none⟩=some (.int .i64 b)∧wi.cell? ⟨w.heap.size,3,none⟩=some (.int .i64 c)∧wi.cell? ⟨w.heap.size,4,none⟩=some (.slice aa an ac)))
  (HC:Hid (∀wi,Below W.heap.size W wi→Calls Tryz.prog 136 #[.pointer (some ⟨X,0,none⟩),.agg #[.int .i64 7,.int .i64 a,.int .i64 b,.int .i64 c,.slice aa an ac]] wi fun e w'=>e=.returned (.bool ok)∧Hid (Kp w'))) :
  Calls Tryz.prog 102 #[.pointer (some ⟨X,0,none⟩),.agg #[.int .i64 7,.int .i64 a,.int .i64 b,.int .i64 c,.slice aa an ac]] w fun e w'=>e=.returned (.bool ok)∧Hid (Kp w'):=by
 go_enter Tryz.func102,Tryz.ntmps102
 go_upto_region 1 with (fail)
 rw[HW.out]
 go_wp2_with (first
  | (go_at_call 101;refine HF.out.mono ?_;rintro e w1 ⟨rfl,hb1⟩;obtain⟨i0,i1,i2,i3,i4⟩:=HI.out w1 hb1)
  | (go_at_call 136;refine (HC.out _ hb1).mono ?_;rintro e w2 ⟨rfl,HK⟩))
 go_ret
 exact⟨rfl,HK⟩
set_option maxHeartbeats 2000000 in
theorem do_set (X g m:Nat) (op a b c:Int) (ok:Bool) (aa:Option Addr) (an ac:Nat) (w W:World) (Kp:World→Prop) (HW:Hid (w.alloc (.cells #[.int .i64 op,.int .i64 a,.int .i64 b,.int .i64 c,.slice aa an ac] 84)=W))
  (HF:Hid (Calls Tryz.prog 101 #[.pointer (some ⟨X,0,none⟩)] W fun e w'=>e=.returned (.pointer (some ⟨g,m*4,none⟩))∧Below W.heap.size W w'))
  (HI:Hid (∀wi,Below W.heap.size W wi→wi.cell? ⟨w.heap.size,0,none⟩=some (.int .i64 op)∧wi.cell? ⟨w.heap.size,1,none⟩=some (.int .i64 a)∧wi.cell? ⟨w.heap.size,2,none⟩=some (.int .i64 b)∧wi.cell? ⟨w.heap.size,3,none⟩=some (.int .i64 c)∧wi.cell? ⟨w.heap.size,4,none⟩=some (.slice aa an ac)))
  (HC:Hid (∀wi,Below W.heap.size W wi→Calls Tryz.prog 140 #[.pointer (some ⟨X,0,none⟩),.agg #[.int .i64 op,.int .i64 a,.int .i64 b,.int .i64 c,.slice aa an ac]] wi fun e w'=>e=.returned (.bool ok)∧Hid (Kp w'))) (h6:(op == 6)=false) (h7:(op == 7)=false) (h8:(op == 8)=false) (h9:(op == 9)=false) (h10:(op == 10)=false) (h11:(op == 11)=false) (h12:(op == 12)=false) (h13:(op == 13)=false) :
  Calls Tryz.prog 102 #[.pointer (some ⟨X,0,none⟩),.agg #[.int .i64 op,.int .i64 a,.int .i64 b,.int .i64 c,.slice aa an ac]] w fun e w'=>e=.returned (.bool ok)∧Hid (Kp w'):=by
 go_enter Tryz.func102,Tryz.ntmps102
 go_upto_region 1 with (fail)
 rw[HW.out]
 go_wp2_with (first
  | (go_at_call 101;refine HF.out.mono ?_;rintro e w1 ⟨rfl,hb1⟩;obtain⟨i0,i1,i2,i3,i4⟩:=HI.out w1 hb1)
  | (go_at_call 140;refine (HC.out _ hb1).mono ?_;rintro e w2 ⟨rfl,HK⟩))
 go_ret
 exact⟨rfl,HK⟩
set_option maxHeartbeats 2000000 in
theorem do_say (X g m rb rc n a:Nat) (b c ka za:Int) (ok:Bool) (aa:Option Addr) (an ac:Nat) (w W:World) (Kp:World→Prop) (HW:Hid (w.alloc (.cells #[.int .i64 9,.int .i64 a,.int .i64 b,.int .i64 c,.slice aa an ac] 84)=W))
  (HF:Hid (Calls Tryz.prog 101 #[.pointer (some ⟨X,0,none⟩)] W fun e w'=>e=.returned (.pointer (some ⟨g,m*4,none⟩))∧Below W.heap.size W w'))
  (HI:Hid (∀wi,Below W.heap.size W wi→wi.cell? ⟨w.heap.size,0,none⟩=some (.int .i64 9)∧wi.cell? ⟨w.heap.size,1,none⟩=some (.int .i64 a)∧wi.cell? ⟨g,m*4+2,none⟩=some (.slice (some ⟨rb,0,none⟩) n rc)∧wi.cell? ⟨rb,a*2,none⟩=some (.int .i64 ka)∧wi.cell? ⟨rb,a*2+1,none⟩=some (.int .i64 za)))
  (HC:Hid (∀wi,Below W.heap.size W wi→Calls Tryz.prog 138 #[.pointer (some ⟨X,0,none⟩),.agg #[.int .i64 ka,.int .i64 za]] wi fun e w'=>e=.returned (.bool ok)∧Hid (Kp w'))) (ha:a<n) :
  Calls Tryz.prog 102 #[.pointer (some ⟨X,0,none⟩),.agg #[.int .i64 9,.int .i64 a,.int .i64 b,.int .i64 c,.slice aa an ac]] w fun e w'=>e=.returned (.bool ok)∧Hid (Kp w'):=by
 have h1:(0:Int)≤(a:Int):=by omega
 have h2:(a:Int)<(n:Int):=by omega
 go_enter Tryz.func102,Tryz.ntmps102
 go_upto_region 1 with (fail)
 rw[HW.out]
 go_upto_region 11 with (go_at_call 101;refine HF.out.mono ?_;rintro e w1 ⟨rfl,hb1⟩;obtain⟨i0,i1,i2,i3,i4⟩:=HI.out w1 hb1)
 go_region_with (first|(go_at_call 138;refine (HC.out _ hb1.drew).mono ?_;rintro e w2 ⟨rfl,HK⟩))
 all_goals
  clear hb1
  go_wp2
  go_ret
  exact⟨rfl,HK⟩
set_option maxHeartbeats 2000000 in
theorem do_leave (X g m rb rc n a:Nat) (b c ka za:Int) (ok:Bool) (aa:Option Addr) (an ac:Nat) (w W:World) (Kp:World→Prop) (HW:Hid (w.alloc (.cells #[.int .i64 11,.int .i64 a,.int .i64 b,.int .i64 c,.slice aa an ac] 84)=W))
  (HF:Hid (Calls Tryz.prog 101 #[.pointer (some ⟨X,0,none⟩)] W fun e w'=>e=.returned (.pointer (some ⟨g,m*4,none⟩))∧Below W.heap.size W w'))
  (HI:Hid (∀wi,Below W.heap.size W wi→wi.cell? ⟨w.heap.size,0,none⟩=some (.int .i64 11)∧wi.cell? ⟨w.heap.size,1,none⟩=some (.int .i64 a)∧wi.cell? ⟨g,m*4+2,none⟩=some (.slice (some ⟨rb,0,none⟩) n rc)∧wi.cell? ⟨rb,a*2,none⟩=some (.int .i64 ka)∧wi.cell? ⟨rb,a*2+1,none⟩=some (.int .i64 za)))
  (HC:Hid (∀wi,Below W.heap.size W wi→Calls Tryz.prog 139 #[.pointer (some ⟨X,0,none⟩),.agg #[.int .i64 ka,.int .i64 za]] wi fun e w'=>e=.returned (.bool ok)∧Hid (Kp w'))) (ha:a<n) :
  Calls Tryz.prog 102 #[.pointer (some ⟨X,0,none⟩),.agg #[.int .i64 11,.int .i64 a,.int .i64 b,.int .i64 c,.slice aa an ac]] w fun e w'=>e=.returned (.bool ok)∧Hid (Kp w'):=by
 have h1:(0:Int)≤(a:Int):=by omega
 have h2:(a:Int)<(n:Int):=by omega
 go_enter Tryz.func102,Tryz.ntmps102
 go_upto_region 1 with (fail)
 rw[HW.out]
 go_upto_region 15 with (go_at_call 101;refine HF.out.mono ?_;rintro e w1 ⟨rfl,hb1⟩;obtain⟨i0,i1,i2,i3,i4⟩:=HI.out w1 hb1)
 go_region_with (first|(go_at_call 139;refine (HC.out _ hb1.drew).mono ?_;rintro e w2 ⟨rfl,HK⟩))
 all_goals
  clear hb1
  go_wp2
  go_ret
  exact⟨rfl,HK⟩
set_option maxHeartbeats 2000000 in
theorem do_back (X g m rb rc n a:Nat) (b c ka za:Int) (aa:Option Addr) (an ac:Nat) (w W:World) (Kp:World→Prop) (HW:Hid (w.alloc (.cells #[.int .i64 8,.int .i64 a,.int .i64 b,.int .i64 c,.slice aa an ac] 84)=W))
  (HF:Hid (Calls Tryz.prog 101 #[.pointer (some ⟨X,0,none⟩)] W fun e w'=>e=.returned (.pointer (some ⟨g,m*4,none⟩))∧Below W.heap.size W w'))
  (HI:Hid (∀wi,Below W.heap.size W wi→wi.cell? ⟨w.heap.size,0,none⟩=some (.int .i64 8)∧wi.cell? ⟨w.heap.size,1,none⟩=some (.int .i64 a)∧wi.cell? ⟨g,m*4+2,none⟩=some (.slice (some ⟨rb,0,none⟩) n rc)∧wi.cell? ⟨rb,a*2,none⟩=some (.int .i64 ka)∧wi.cell? ⟨rb,a*2+1,none⟩=some (.int .i64 za)))
  (HC:Hid (∀wi,Below W.heap.size W wi→Calls Tryz.prog 137 #[.pointer (some ⟨X,0,none⟩),.agg #[.int .i64 ka,.int .i64 za]] wi fun e w'=>(∃v,e=.returned v)∧Hid (Kp w'))) (ha:a<n) :
  Calls Tryz.prog 102 #[.pointer (some ⟨X,0,none⟩),.agg #[.int .i64 8,.int .i64 a,.int .i64 b,.int .i64 c,.slice aa an ac]] w fun e w'=>e=.returned (.bool true)∧Hid (Kp w'):=by
 have h1:(0:Int)≤(a:Int):=by omega
 have h2:(a:Int)<(n:Int):=by omega
 go_enter Tryz.func102,Tryz.ntmps102
 go_upto_region 1 with (fail)
 rw[HW.out]
 go_upto_region 9 with (go_at_call 101;refine HF.out.mono ?_;rintro e w1 ⟨rfl,hb1⟩;obtain⟨i0,i1,i2,i3,i4⟩:=HI.out w1 hb1)
 go_region_with (first|(go_at_call 137;refine (HC.out _ hb1.drew).mono ?_;rintro e w2 ⟨⟨v9,rfl⟩,HK⟩))
 all_goals
  clear hb1
  go_wp2
  go_ret
  exact⟨rfl,HK⟩
set_option maxHeartbeats 2000000 in
theorem do_pause (X g m:Nat) (a b c:Int) (aa:Option Addr) (an ac:Nat) (w W:World) (HW:Hid (w.alloc (.cells #[.int .i64 10,.int .i64 a,.int .i64 b,.int .i64 c,.slice aa an ac] 84)=W))
  (HF:Hid (Calls Tryz.prog 101 #[.pointer (some ⟨X,0,none⟩)] W fun e w'=>e=.returned (.pointer (some ⟨g,m*4,none⟩))∧Below W.heap.size W w'))
  (HI:Hid (∀wi,Below W.heap.size W wi→wi.cell? ⟨w.heap.size,0,none⟩=some (.int .i64 10)∧(∃v,wi.cell? ⟨X,6,none⟩=some v)∧wi.frozen? ⟨X,6,none⟩=false)) :
  Calls Tryz.prog 102 #[.pointer (some ⟨X,0,none⟩),.agg #[.int .i64 10,.int .i64 a,.int .i64 b,.int .i64 c,.slice aa an ac]] w fun e w'=>e=.returned (.bool true)∧Hid (∃w1,Below W.heap.size W w1∧w'=w1.setCell ⟨X,6,none⟩ (.bool true)):=by
 go_enter Tryz.func102,Tryz.ntmps102
 go_upto_region 1 with (fail)
 rw[HW.out]
 go_wp2_with (go_at_call 101;refine HF.out.mono ?_;rintro e w1 ⟨rfl,hb1⟩;obtain⟨i0,⟨v,i1⟩,i2⟩:=HI.out w1 hb1)
 go_ret
 exact⟨rfl,w1,hb1,rfl⟩
set_option maxHeartbeats 2000000 in
theorem do_jump (X g m:Nat) (a b c:Int) (aa:Option Addr) (an ac:Nat) (w W:World) (HW:Hid (w.alloc (.cells #[.int .i64 12,.int .i64 a,.int .i64 b,.int .i64 c,.slice aa an ac] 84)=W))
  (HF:Hid (Calls Tryz.prog 101 #[.pointer (some ⟨X,0,none⟩)] W fun e w'=>e=.returned (.pointer (some ⟨g,m*4,none⟩))∧Below W.heap.size W w'))
  (HI:Hid (∀wi,Below W.heap.size W wi→wi.cell? ⟨w.heap.size,0,none⟩=some (.int .i64 12)∧wi.cell? ⟨w.heap.size,2,none⟩=some (.int .i64 b)∧(∃v,wi.cell? ⟨g,m*4+1,none⟩=some v)∧wi.frozen? ⟨g,m*4+1,none⟩=false)) :
  Calls Tryz.prog 102 #[.pointer (some ⟨X,0,none⟩),.agg #[.int .i64 12,.int .i64 a,.int .i64 b,.int .i64 c,.slice aa an ac]] w fun e w'=>e=.returned (.bool true)∧Hid (∃w1,Below W.heap.size W w1∧w'=w1.setCell ⟨g,m*4+1,none⟩ (.int .i64 b)):=by
 go_enter Tryz.func102,Tryz.ntmps102
 go_upto_region 1 with (fail)
 rw[HW.out]
 go_wp2_with (go_at_call 101;refine HF.out.mono ?_;rintro e w1 ⟨rfl,hb1⟩;obtain⟨i0,i1,⟨v,i2⟩,i3⟩:=HI.out w1 hb1)
 go_ret
 exact⟨rfl,w1,hb1,rfl⟩
def zeroW (ka za:Int) (w:World) (p:Addr) (v:Value):World:=if ¬ka=2∧za=0 then w.setCell p v else w
theorem zeroW_yes {ka za:Int} (h:¬ka=2∧za=0) (w:World) (p:Addr) (v:Value):zeroW ka za w p v=w.setCell p v:=if_pos h
theorem zeroW_no {ka za:Int} (h:¬(¬ka=2∧za=0)) (w:World) (p:Addr) (v:Value):zeroW ka za w p v=w:=if_neg h
set_option maxHeartbeats 2000000 in
theorem do_zero (X g m rb rc n a:Nat) (b c ka za:Int) (aa:Option Addr) (an ac:Nat) (w W:World) (HW:Hid (w.alloc (.cells #[.int .i64 13,.int .i64 a,.int .i64 b,.int .i64 c,.slice aa an ac] 84)=W))
  (HF:Hid (Calls Tryz.prog 101 #[.pointer (some ⟨X,0,none⟩)] W fun e w'=>e=.returned (.pointer (some ⟨g,m*4,none⟩))∧Below W.heap.size W w'))
  (HI:Hid (∀wi,Below W.heap.size W wi→wi.cell? ⟨w.heap.size,0,none⟩=some (.int .i64 13)∧wi.cell? ⟨w.heap.size,1,none⟩=some (.int .i64 a)∧wi.cell? ⟨g,m*4+2,none⟩=some (.slice (some ⟨rb,0,none⟩) n rc)∧wi.cell? ⟨rb,a*2,none⟩=some (.int .i64 ka)∧wi.cell? ⟨rb,a*2+1,none⟩=some (.int .i64 za)))
  (HJ:Hid (∀wi,Below W.heap.size W wi→wi.cell? ⟨w.heap.size,2,none⟩=some (.int .i64 b)∧(∃v,wi.cell? ⟨g,m*4+1,none⟩=some v)∧wi.frozen? ⟨g,m*4+1,none⟩=false)) (ha:a<n) :
  Calls Tryz.prog 102 #[.pointer (some ⟨X,0,none⟩),.agg #[.int .i64 13,.int .i64 a,.int .i64 b,.int .i64 c,.slice aa an ac]] w fun e w'=>e=.returned (.bool true)∧Hid (∃w1,Below W.heap.size W w1∧w'=zeroW ka za w1 ⟨g,m*4+1,none⟩ (.int .i64 b)):=by
 have h1:(0:Int)≤(a:Int):=by omega
 have h2:(a:Int)<(n:Int):=by omega
 go_enter Tryz.func102,Tryz.ntmps102
 go_upto_region 1 with (fail)
 rw[HW.out]
 go_upto_region 19 with (go_at_call 101;refine HF.out.mono ?_;rintro e w1 ⟨rfl,hb1⟩;obtain⟨i0,i1,i2,i3,i4⟩:=HI.out w1 hb1)
 have HB1:Hid (Below W.heap.size W w1):=hb1
 have j1:∀o:Obj,(w1.alloc o).cell? ⟨w.heap.size,1,none⟩=some (.int .i64 a):=fun o=>below_at (below_alloc w1 o) i1
 have j2:∀o:Obj,(w1.alloc o).cell? ⟨g,m*4+2,none⟩=some (.slice (some ⟨rb,0,none⟩) n rc):=fun o=>below_at (below_alloc w1 o) i2
 have j3:∀o:Obj,(w1.alloc o).cell? ⟨rb,a*2,none⟩=some (.int .i64 ka):=fun o=>below_at (below_alloc w1 o) i3
 have j4:∀o:Obj,(w1.alloc o).cell? ⟨rb,a*2+1,none⟩=some (.int .i64 za):=fun o=>below_at (below_alloc w1 o) i4
 clear hb1
 go_region
 all_goals
  clear j1 j2 j3 j4 i0 i1 i2 i3 i4
  obtain⟨W3,hW3⟩:∃W3,(w1.alloc (.cells #[.int .i64 ka,.int .i64 za] 92)).drew=W3:=⟨_,rfl⟩
  have x0:W3.cell? ⟨w1.heap.size,0,none⟩=some (.int .i64 ka):=by rw[←hW3];show (w1.alloc _).cell? _=_;rw[World.cell?_alloc_new];rfl
  have x1:W3.cell? ⟨w1.heap.size,1,none⟩=some (.int .i64 za):=by rw[←hW3];show (w1.alloc _).cell? _=_;rw[World.cell?_alloc_new];rfl
  have HB3:Hid (Below W.heap.size W W3):=hW3 ▸ below_step HB1.out (below_alloc w1 _).drew
  obtain⟨b1,⟨vv,b2⟩,b3⟩:=HJ.out W3 HB3.out
  rw[hW3]
  clear hW3
  by_cases hk:ka=2
  ·have hk1:(ka != 2)=false:=by simp[hk]
   have HE:Hid (¬(¬ka=2∧za=0)):=fun h=>h.1 hk
   clear hk
   go_wp2
   go_ret
   exact⟨rfl,W3,HB3.out,(zeroW_no HE.out _ _ _).symm⟩
  ·have hk1:(ka != 2)=true:=by simp[hk]
   by_cases hz:za=0
   ·have hz1:(za == 0)=true:=by simp[hz]
    have HE:Hid (¬ka=2∧za=0):=⟨hk,hz⟩
    clear hk hz
    go_wp2
    go_ret
    exact⟨rfl,W3,HB3.out,(zeroW_yes HE.out _ _ _).symm⟩
   ·have hz1:(za == 0)=false:=by simp[hz]
    have HE:Hid (¬(¬ka=2∧za=0)):=fun h=>hz h.2
    clear hk hz
    go_wp2
    go_ret
    exact⟨rfl,W3,HB3.out,(zeroW_no HE.out _ _ _).symm⟩
end Go.Proofs.YtfaokaohhchdhaaGreatDoor
