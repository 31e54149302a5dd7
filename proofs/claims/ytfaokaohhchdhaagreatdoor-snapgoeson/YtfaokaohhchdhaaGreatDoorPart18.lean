/- do, of a run at work. -/
import Derived.Test.YtfaokaohhchdhaaGreatDoorPart17
namespace Go.Proofs.YtfaokaohhchdhaaGreatDoor
open Go.RowKit Go.Maps
def DoK (X B:Nat) (w:World) (pv:Value) (o:Option Rn) (w':World):Prop :=
 (o=none→Below w.heap.size w w')∧∀R',o=some R'→RA X B w' pv R'∧Below B w w'
theorem doPost_iff {X B:Nat} {w:World} {pv:Value} {o:Option Rn} {e:Ending} {w':World}:DoPost X B w pv o e w' ↔ e=.returned (.bool o.isSome)∧DoK X B w pv o w':=by
 unfold DoPost DoK
 cases o with
 | none=>simp
 | some R=>simp
theorem DoK.ahead {X B:Nat} {w wi:World} {pv:Value} {o:Option Rn} {w':World} (h:DoK X B wi pv o w') (hb:Below w.heap.size w wi) (hB:B≤w.heap.size):DoK X B w pv o w' :=
 ⟨fun e=>below_step hb (h.1 e),fun R' e=>⟨(h.2 R' e).1,(hb.mono hB).trans (h.2 R' e).2⟩⟩
def CallC (np:Nat) (P:Nat→Pc):Prop:=∀(M X B:Nat) (i:In) (aa:Option Addr) (ac:Nat) (w:World) (pv:Value) (R:Rn),CodeOK np P→StaOK np P R.s→R.s.st=0→RA X B w pv R→ProcsAt M w pv np P→M≤B→i.op=7→InOK np (fun k=>(P k).params) (procS P R.s).regs (procS P R.s).n i→NumsAt M w (.slice aa i.n ac) i.n i.z →
 Calls Tryz.prog 136 #[.pointer (some ⟨X,0,none⟩),.agg #[.int .i64 i.op,.int .i64 i.a,.int .i64 i.b,.int .i64 i.c,.slice aa i.n ac]] w (DoPost X B w pv ((doM P R.s i).map (outR R)))
theorem RA.le {X B:Nat} {w:World} {pv:Value} {R:Rn} (h:RA X B w pv R):B≤w.heap.size:=by
 obtain⟨_,_,_,_,_,h⟩:=h
 exact Nat.le_trans h.hX (Nat.le_of_lt h.lt)
theorem doP {np:Nat} {P:Nat→Pc} (hNew:NewC np P) (hCall:CallC np P) (M X B:Nat) (i:In) (aa:Option Addr) (ac:Nat) (w:World) (pv:Value) (R:Rn) (hc:CodeOK np P) (hs:StaOK np P R.s) (hst:R.s.st=0) (h:RA X B w pv R) (hp:ProcsAt M w pv np P) (hM:M≤B) (hl:R.said.length≤1000)
  (hi:InOK np (fun k=>(P k).params) (procS P R.s).regs (procS P R.s).n i) (hav:NumsAt M w (.slice aa i.n ac) i.n i.z) :
  Calls Tryz.prog 102 #[.pointer (some ⟨X,0,none⟩),.agg #[.int .i64 i.op,.int .i64 i.a,.int .i64 i.b,.int .i64 i.c,.slice aa i.n ac]] w (DoPost X B w pv ((doM P R.s i).map (outR R))):=by
 have hRA:=h
 have hBw:=h.le
 obtain⟨fv,cv,sv,rv,xv,h⟩:=h
 have hn:¬R.s.fs.length=0:=hs.unfin (by omega)
 have ht:=hs.top hn
 have hlen:=ht.len
 have hfew:=hs.few
 have hr0:=hc.r0 _ (show (topF R.s).proc.toNat<np by have:=ht.p0;have:=ht.p1;omega)
 obtain⟨g,m,cap,rb,rc,rfl,hfl,hrv,T⟩:=h.top hn (by omega)
 obtain⟨W,hW,b0,hsz,i0,i1,i2,i3,i4⟩:=ibox w i.op i.a i.b i.c (.slice aa i.n ac)
 have hT:∀wi,Below W.heap.size W wi→TopAt B wi g m rb rc (topF R.s):=fun wi hb=>(T.below b0).below hb
 have HF:Hid (Calls Tryz.prog 101 #[.pointer (some ⟨X,0,none⟩)] W fun e w'=>e=.returned (.pointer (some ⟨g,m*4,none⟩))∧Below W.heap.size W w'):=vframe X B W pv cv sv g m cap rv xv R (h.below b0) (by omega)
 have hRW:∀wi,Below W.heap.size W wi→RA X B wi pv R:=fun wi hw=>(hRA.below b0).below hw
 have hbw:∀wi,Below W.heap.size W wi→Below w.heap.size w wi:=fun wi hw=>below_step b0 hw
 -- the instruction is handed on
 have hand:∀wi,Below W.heap.size W wi→wi.cell? ⟨w.heap.size,0,none⟩=some (.int .i64 i.op)∧wi.cell? ⟨w.heap.size,1,none⟩=some (.int .i64 i.a)∧wi.cell? ⟨w.heap.size,2,none⟩=some (.int .i64 i.b)∧wi.cell? ⟨w.heap.size,3,none⟩=some (.int .i64 i.c)∧wi.cell? ⟨w.heap.size,4,none⟩=some (.slice aa i.n ac):=fun wi hw=>⟨below_at hw i0,below_at hw i1,below_at hw i2,below_at hw i3,below_at hw i4⟩
 have havi:∀wi,Below W.heap.size W wi→NumsAt M wi (.slice aa i.n ac) i.n i.z:=fun wi hw=>hav.below ((hbw wi hw).mono (Nat.le_trans hM hBw))
 have hpi:∀wi,Below W.heap.size W wi→ProcsAt M wi pv np P:=fun wi hw=>hp.below ((hbw wi hw).mono (Nat.le_trans hM hBw))
 by_cases o6:i.op=6
 ·have HC:∀wi,Below W.heap.size W wi→_:=fun wi hw=>putM X B i aa ac wi pv R hs hst (hRW wi hw) o6 hi
  rw[o6]at hW hand HC ⊢
  refine (do_put X g m i.a i.b i.c ((doM P R.s i).map (outR R)).isSome aa i.n ac w W (DoK X B w pv ((doM P R.s i).map (outR R))) hW HF hand (fun wi hw=>(HC wi hw).mono fun e w' he=>⟨(doPost_iff.1 he).1,(doPost_iff.1 he).2.ahead (hbw wi hw) hBw⟩)).mono ?_
  rintro e w' ⟨he,hk⟩
  exact doPost_iff.2 ⟨he,hk⟩
 by_cases o7:i.op=7
 ·have HC:∀wi,Below W.heap.size W wi→_:=fun wi hw=>hCall M X B i aa ac wi pv R hc hs hst (hRW wi hw) (hpi wi hw) hM o7 hi (havi wi hw)
  rw[o7]at hW hand HC ⊢
  refine (do_call X g m i.a i.b i.c ((doM P R.s i).map (outR R)).isSome aa i.n ac w W (DoK X B w pv ((doM P R.s i).map (outR R))) hW HF hand (fun wi hw=>(HC wi hw).mono fun e w' he=>⟨(doPost_iff.1 he).1,(doPost_iff.1 he).2.ahead (hbw wi hw) hBw⟩)).mono ?_
  rintro e w' ⟨he,hk⟩
  exact doPost_iff.2 ⟨he,hk⟩
 by_cases o10:i.op=10
 ·have e1:doM P R.s i=some (R.s,[],true):=by
   unfold doM;rw[if_neg o6,if_neg o7,if_neg (by omega),if_neg (by omega),if_pos o10]
  rw[e1]
  rw[o10]at hW hand ⊢
  refine (do_pause X g m i.a i.b i.c aa i.n ac w W hW HF (fun wi hw=>by
   obtain⟨_,_,_,_,_,_,c6,c7⟩:=((h.below b0).below hw).cells
   exact⟨(hand wi hw).1,⟨_,c6⟩,c7 6⟩)).mono ?_
  rintro e w' ⟨rfl,w1,hw1,rfl⟩
  have h1:=(h.below b0).below hw1
  have q1:=heap_setCell_same w1 X 6 _ _ (.bool true) h1.box
  have h2:RunAt X B (w1.setCell ⟨X,6,none⟩ (.bool true)) pv _ cv sv rv xv ⟨R.s,R.said,true⟩:=h1.turn q1 (fun k hk=>Below.heap_setCell _ _ _ k hk) rfl rfl rfl
  refine Or.inr ⟨_,rfl,rfl,?_,((hbw w1 hw1).mono hBw).setCell h.hX _⟩
  show RA X B _ pv ⟨R.s,R.said++[],R.paused || true⟩
  rw[List.append_nil,Bool.or_true]
  exact⟨_,_,_,_,_,h2⟩
 by_cases o12:i.op=12
 ·have e1:doM P R.s i=some (setPos R.s i.b,[],false):=by
   unfold doM;rw[if_neg o6,if_neg o7,if_neg (by omega),if_neg (by omega),if_neg o10,if_neg (by omega),if_pos o12]
  rw[e1]
  rw[o12]at hW hand ⊢
  refine (do_jump X g m i.a i.b i.c aa i.n ac w W hW HF (fun wi hw=>⟨(hand wi hw).1,(hand wi hw).2.2.1,⟨_,(hT wi hw).c1⟩,(hT wi hw).gz _⟩)).mono ?_
  rintro e w' ⟨rfl,w1,hw1,rfl⟩
  obtain⟨q1,q2⟩:=((h.below b0).below hw1).setPos hfl i.b
  refine Or.inr ⟨_,rfl,rfl,?_,((hbw w1 hw1).mono hBw).trans q2⟩
  show RA X B _ pv ⟨setPos R.s i.b,R.said++[],R.paused || false⟩
  rw[List.append_nil,Bool.or_false]
  exact⟨_,_,_,_,_,q1⟩
 by_cases oA:i.op=8∨i.op=9∨i.op=11∨i.op=13
 ·obtain⟨a,ha⟩:=nat_of (hi.ra (by omega) (by omega)).1
  have ha1:=(hi.ra (by omega) (by omega)).2
  unfold procS at ha1
  rw[ha]at ha1
  have ha2:a<(topF R.s).regs.length:=by omega
  have hreg:regAt (topF R.s).regs i.a=(topF R.s).regs.getD a (0,0):=by unfold regAt;rw[ha];rfl
  rw[ha]at hW hand
  have HI:∀wi,Below W.heap.size W wi→wi.cell? ⟨w.heap.size,0,none⟩=some (.int .i64 i.op)∧wi.cell? ⟨w.heap.size,1,none⟩=some (.int .i64 a)∧wi.cell? ⟨g,m*4+2,none⟩=some (.slice (some ⟨rb,0,none⟩) (topF R.s).regs.length rc)∧wi.cell? ⟨rb,a*2,none⟩=some (.int .i64 ((topF R.s).regs.getD a (0,0)).1)∧wi.cell? ⟨rb,a*2+1,none⟩=some (.int .i64 ((topF R.s).regs.getD a (0,0)).2):=fun wi hw=>⟨(hand wi hw).1,(hand wi hw).2.1,(hT wi hw).c2,(hT wi hw).r0 a ha2,(hT wi hw).r1 a ha2⟩
  by_cases o8:i.op=8
  ·have e1:doM P R.s i=some (backS R.s ((topF R.s).regs.getD a (0,0)),[],false):=by
    unfold doM;rw[if_neg o6,if_neg o7,if_pos o8,hreg]
   rw[e1]
   rw[o8]at hW HI ⊢
   rw[ha]
   refine (do_back X g m rb rc (topF R.s).regs.length a i.b i.c _ _ aa i.n ac w W (fun w'=>RA X B w' pv ⟨backS R.s ((topF R.s).regs.getD a (0,0)),R.said,R.paused⟩∧Below B w w') hW HF HI (fun wi hw=>(backM X B ((topF R.s).regs.getD a (0,0)) wi pv R hc hs hst (hRW wi hw)).mono (by
    rintro e w' ⟨he,h1,h2⟩
    exact⟨he,h1,((hbw wi hw).mono hBw).trans h2⟩)) ha2).mono ?_
   rintro e w' ⟨rfl,h1,h2⟩
   refine Or.inr ⟨_,rfl,rfl,?_,h2⟩
   show RA X B _ pv ⟨backS R.s _,R.said++[],R.paused || false⟩
   rw[List.append_nil,Bool.or_false]
   exact h1
  by_cases o9:i.op=9
  ·have e1:doM P R.s i=if ((topF R.s).regs.getD a (0,0)).1=1 then some (R.s,[((topF R.s).regs.getD a (0,0)).2],false) else none:=by
    unfold doM;rw[if_neg o6,if_neg o7,if_neg o8,if_pos o9,hreg]
   rw[e1]
   rw[o9]at hW HI ⊢
   rw[ha]
   by_cases hk:((topF R.s).regs.getD a (0,0)).1=1
   ·rw[if_pos hk]
    refine (do_say X g m rb rc (topF R.s).regs.length a i.b i.c _ _ true aa i.n ac w W (fun w'=>RA X B w' pv ⟨R.s,R.said++[((topF R.s).regs.getD a (0,0)).2],R.paused⟩∧Below B w w') hW HF HI (fun wi hw=>by
     rw[hk]
     refine (vsay_yes X B _ wi pv R (hRW wi hw) hl).mono ?_
     rintro e w' ⟨he,h1,h2⟩
     exact⟨he,h1,((hbw wi hw).mono hBw).trans h2⟩) ha2).mono ?_
    rintro e w' ⟨rfl,h1,h2⟩
    refine Or.inr ⟨_,rfl,rfl,?_,h2⟩
    show RA X B _ pv ⟨R.s,R.said++_,R.paused || false⟩
    rw[Bool.or_false]
    exact h1
   ·rw[if_neg hk]
    refine (do_say X g m rb rc (topF R.s).regs.length a i.b i.c _ _ false aa i.n ac w W (fun w'=>Below w.heap.size w w') hW HF HI (fun wi hw=>by
     refine (vsay_no X _ _ wi hk).mono ?_
     rintro e w' ⟨he,h1⟩
     exact⟨he,below_step (hbw wi hw) h1⟩) ha2).mono ?_
    rintro e w' ⟨rfl,h1⟩
    exact Or.inl ⟨rfl,rfl,h1⟩
  by_cases o11:i.op=11
  ·have e1:doM P R.s i=if ((topF R.s).regs.getD a (0,0)).1=1 then some (⟨R.s.fs,R.s.cs,3,((topF R.s).regs.getD a (0,0)).2⟩,[],false) else none:=by
    unfold doM;rw[if_neg o6,if_neg o7,if_neg o8,if_neg o9,if_neg o10,if_pos o11,hreg]
   rw[e1]
   rw[o11]at hW HI ⊢
   rw[ha]
   by_cases hk:((topF R.s).regs.getD a (0,0)).1=1
   ·rw[if_pos hk]
    refine (do_leave X g m rb rc (topF R.s).regs.length a i.b i.c _ _ true aa i.n ac w W (fun w'=>RA X B w' pv ⟨⟨R.s.fs,R.s.cs,3,((topF R.s).regs.getD a (0,0)).2⟩,R.said,R.paused⟩∧Below B w w') hW HF HI (fun wi hw=>by
     rw[hk]
     refine (leave_yes X B _ wi pv R (hRW wi hw)).mono ?_
     rintro e w' ⟨he,h1,h2⟩
     exact⟨he,h1,((hbw wi hw).mono hBw).trans h2⟩) ha2).mono ?_
    rintro e w' ⟨rfl,h1,h2⟩
    refine Or.inr ⟨_,rfl,rfl,?_,h2⟩
    show RA X B _ pv ⟨⟨R.s.fs,R.s.cs,3,_⟩,R.said++[],R.paused || false⟩
    rw[List.append_nil,Bool.or_false]
    exact h1
   ·rw[if_neg hk]
    refine (do_leave X g m rb rc (topF R.s).regs.length a i.b i.c _ _ false aa i.n ac w W (fun w'=>Below w.heap.size w w') hW HF HI (fun wi hw=>by
     refine (leave_no X _ _ wi hk).mono ?_
     rintro e w' ⟨he,h1⟩
     exact⟨he,below_step (hbw wi hw) h1⟩) ha2).mono ?_
    rintro e w' ⟨rfl,h1⟩
    exact Or.inl ⟨rfl,rfl,h1⟩
  have o13:i.op=13:=by omega
  have e1:doM P R.s i=some (if ¬((topF R.s).regs.getD a (0,0)).1=2∧((topF R.s).regs.getD a (0,0)).2=0 then setPos R.s i.b else R.s,[],false):=by
   unfold doM;rw[if_neg o6,if_neg o7,if_neg o8,if_neg o9,if_neg o10,if_neg o11,if_neg o12,if_pos o13,hreg]
  rw[e1]
  rw[o13]at hW HI ⊢
  rw[ha]
  refine (do_zero X g m rb rc (topF R.s).regs.length a i.b i.c _ _ aa i.n ac w W hW HF HI (fun wi hw=>⟨(hand wi hw).2.2.1,⟨_,(hT wi hw).c1⟩,(hT wi hw).gz _⟩) ha2).mono ?_
  rintro e w' ⟨rfl,w1,hw1,rfl⟩
  by_cases hz:¬((topF R.s).regs.getD a (0,0)).1=2∧((topF R.s).regs.getD a (0,0)).2=0
  ·rw[zeroW_yes hz,if_pos hz]
   obtain⟨q1,q2⟩:=((h.below b0).below hw1).setPos hfl i.b
   refine Or.inr ⟨_,rfl,rfl,?_,((hbw w1 hw1).mono hBw).trans q2⟩
   show RA X B _ pv ⟨setPos R.s i.b,R.said++[],R.paused || false⟩
   rw[List.append_nil,Bool.or_false]
   exact⟨_,_,_,_,_,q1⟩
  ·rw[zeroW_no hz,if_neg hz]
   refine Or.inr ⟨_,rfl,rfl,?_,(hbw w1 hw1).mono hBw⟩
   show RA X B _ pv ⟨R.s,R.said++[],R.paused || false⟩
   rw[List.append_nil,Bool.or_false]
   exact hRW w1 hw1
 ·have o1:=hi.o0
  have o2:=hi.o1
  have e1:(doM P R.s i).map (outR R)=(valueM R.s i).map fun x=>outR R (setReg x.1 i.a x.2,[],false):=by
   unfold doM
   rw[if_neg o6,if_neg o7,if_neg (by omega),if_neg (by omega),if_neg o10,if_neg (by omega),if_neg o12,if_neg (by omega),Option.map_map]
   rfl
  rw[e1]
  have hne:∀k:Int,¬i.op=k→(i.op == k)=false:=fun k hk=>by simp[hk]
  have hS:∀wi,Below W.heap.size W wi→_:=fun wi hw=>setM hNew M X B i aa ac wi pv R hc hs hst (hRW wi hw) (by omega) hi (havi wi hw) (Nat.le_trans hM (Nat.le_trans hBw (hbw wi hw).size))
  obtain⟨o,hoo⟩:∃o,((valueM R.s i).map fun x=>outR R (setReg x.1 i.a x.2,[],false))=o:=⟨_,rfl⟩
  rw[hoo]at hS ⊢
  refine (do_set X g m i.op i.a i.b i.c o.isSome aa i.n ac w W (DoK X B w pv o) hW HF hand (fun wi hw=>(hS wi hw).mono fun e w' he=>⟨(doPost_iff.1 he).1,(doPost_iff.1 he).2.ahead (hbw wi hw) hBw⟩) (hne 6 (by omega)) (hne 7 (by omega)) (hne 8 (by omega)) (hne 9 (by omega)) (hne 10 (by omega)) (hne 11 (by omega)) (hne 12 (by omega)) (hne 13 (by omega))).mono ?_
  rintro e w' ⟨he,hk⟩
  exact doPost_iff.2 ⟨he,hk⟩
set_option maxHeartbeats 2000000 in
theorem step_ok (X g m pr po pb poo np pc cb co n cc:Nat) (op a b c nx:Int) (aa:Option Addr) (an ac:Nat) (w:World) (Kp:World→Prop)
  (HF:Hid (Calls Tryz.prog 101 #[.pointer (some ⟨X,0,none⟩)] w fun e w'=>e=.returned (.pointer (some ⟨g,m*4,none⟩))∧Below w.heap.size w w'))
  (HC:Hid (∀wi,Below w.heap.size w wi→wi.cell? ⟨g,m*4+1,none⟩=some (.int .i64 po)∧wi.cell? ⟨X,0,none⟩=some (.slice (some ⟨pb,poo,none⟩) np pc)∧wi.cell? ⟨g,m*4,none⟩=some (.int .i64 pr)∧wi.cell? ⟨pb,poo+pr*3+2,none⟩=some (.slice (some ⟨cb,co,none⟩) n cc)))
  (HZ:Hid (∀wi,Below w.heap.size w wi→wi.frozen? ⟨g,m*4+1,none⟩=false))
  (HI:Hid (∀wi,Below w.heap.size w wi→(wi.setCell ⟨g,m*4+1,none⟩ (.int .i64 nx)).cell? ⟨cb,co+po*5,none⟩=some (.int .i64 op)∧(wi.setCell ⟨g,m*4+1,none⟩ (.int .i64 nx)).cell? ⟨cb,co+po*5+1,none⟩=some (.int .i64 a)∧(wi.setCell ⟨g,m*4+1,none⟩ (.int .i64 nx)).cell? ⟨cb,co+po*5+2,none⟩=some (.int .i64 b)∧(wi.setCell ⟨g,m*4+1,none⟩ (.int .i64 nx)).cell? ⟨cb,co+po*5+3,none⟩=some (.int .i64 c)∧(wi.setCell ⟨g,m*4+1,none⟩ (.int .i64 nx)).cell? ⟨cb,co+po*5+4,none⟩=some (.slice aa an ac)))
  (HD:Hid (∀wi,Below w.heap.size w wi→Calls Tryz.prog 102 #[.pointer (some ⟨X,0,none⟩),.agg #[.int .i64 op,.int .i64 a,.int .i64 b,.int .i64 c,.slice aa an ac]] (wi.setCell ⟨g,m*4+1,none⟩ (.int .i64 nx)) fun e w'=>e=.returned (.bool true)∧Hid (Kp w')))
  (hnx:nx=min ((po:Int)+1) ((n:Int) - 1)) (hpr:pr<np) (hpo:po<n) (hn:n≤2000) :
  Calls Tryz.prog 47 #[.pointer (some ⟨X,0,none⟩)] w fun e w'=>(∃v,e=.returned v)∧Hid (Kp w'):=by
 have h1:(0:Int)≤(pr:Int):=by omega
 have h2:(pr:Int)<(np:Int):=by omega
 have h3:(0:Int)≤(po:Int):=by omega
 have h4:(po:Int)<(n:Int):=by omega
 have HN1:Hid ((if (n:Int) - 1<(po:Int)+1 then (n:Int) - 1 else (po:Int)+1)=nx):=by show _=_;split<;>omega
 have HN2:Hid (min ((po:Int)+1) ((n:Int) - 1)=nx):=hnx.symm
 clear hnx
 go_enter Tryz.func47,Tryz.ntmps47
 go_upto_region 1 with (go_at_call 101;refine HF.out.mono ?_;rintro e w1 ⟨rfl,hb1⟩)
 go_region_held3 (fun w'=>w'.cell? ⟨g,m*4+1,none⟩=some (.int .i64 po)∧w'.cell? ⟨X,0,none⟩=some (.slice (some ⟨pb,poo,none⟩) np pc)∧w'.cell? ⟨g,m*4,none⟩=some (.int .i64 pr)∧w'.cell? ⟨pb,poo+pr*3+2,none⟩=some (.slice (some ⟨cb,co,none⟩) n cc)) (exact HC.out _ hb1.drew) (fail)
 all_goals
  obtain⟨W,hW⟩:∃W,w1.drew=W:=⟨_,rfl⟩
  have HB:Hid (Below w.heap.size w W):=hW ▸ hb1.drew
  rw[hW]
  clear hW hb1
  obtain⟨q1,_,_,_⟩:=HC.out W HB.out
  have q2:=HZ.out W HB.out
  go_upto_region 3 with (fail)
  first
   | rw[HN1.out]
   | rw[HN2.out]
  have HD2:=HD.out W HB.out
  obtain⟨e0,e1,e2,e3,e4⟩:=HI.out W HB.out
  have HD3:Hid (Calls Tryz.prog 102 #[.pointer (some ⟨X,0,none⟩),.agg #[.int .i64 op,.int .i64 a,.int .i64 b,.int .i64 c,.slice aa an ac]] (W.setCell ⟨g,m*4+1,none⟩ (.int .i64 nx)) fun e w'=>e=.returned (.bool true)∧Hid (Kp w')):=HD2
  clear HD2 q1 q2
  generalize W.setCell ⟨g,m*4+1,none⟩ (.int .i64 nx)=W2 at *
  go_wp2_with (go_at_call 102;refine HD3.out.mono ?_;rintro e w3 ⟨rfl,HK⟩)
  go_end0
  exact⟨⟨_,rfl⟩,HK⟩
set_option maxHeartbeats 2000000 in
theorem step_no (X g m pr po pb poo np pc cb co n cc:Nat) (op a b c nx:Int) (aa:Option Addr) (an ac:Nat) (w:World) (Kp:World→Prop)
  (HF:Hid (Calls Tryz.prog 101 #[.pointer (some ⟨X,0,none⟩)] w fun e w'=>e=.returned (.pointer (some ⟨g,m*4,none⟩))∧Below w.heap.size w w'))
  (HC:Hid (∀wi,Below w.heap.size w wi→wi.cell? ⟨g,m*4+1,none⟩=some (.int .i64 po)∧wi.cell? ⟨X,0,none⟩=some (.slice (some ⟨pb,poo,none⟩) np pc)∧wi.cell? ⟨g,m*4,none⟩=some (.int .i64 pr)∧wi.cell? ⟨pb,poo+pr*3+2,none⟩=some (.slice (some ⟨cb,co,none⟩) n cc)))
  (HZ:Hid (∀wi,Below w.heap.size w wi→wi.frozen? ⟨g,m*4+1,none⟩=false))
  (HI:Hid (∀wi,Below w.heap.size w wi→(wi.setCell ⟨g,m*4+1,none⟩ (.int .i64 nx)).cell? ⟨cb,co+po*5,none⟩=some (.int .i64 op)∧(wi.setCell ⟨g,m*4+1,none⟩ (.int .i64 nx)).cell? ⟨cb,co+po*5+1,none⟩=some (.int .i64 a)∧(wi.setCell ⟨g,m*4+1,none⟩ (.int .i64 nx)).cell? ⟨cb,co+po*5+2,none⟩=some (.int .i64 b)∧(wi.setCell ⟨g,m*4+1,none⟩ (.int .i64 nx)).cell? ⟨cb,co+po*5+3,none⟩=some (.int .i64 c)∧(wi.setCell ⟨g,m*4+1,none⟩ (.int .i64 nx)).cell? ⟨cb,co+po*5+4,none⟩=some (.slice aa an ac)))
  (HD:Hid (∀wi,Below w.heap.size w wi→Calls Tryz.prog 102 #[.pointer (some ⟨X,0,none⟩),.agg #[.int .i64 op,.int .i64 a,.int .i64 b,.int .i64 c,.slice aa an ac]] (wi.setCell ⟨g,m*4+1,none⟩ (.int .i64 nx)) fun e w'=>e=.returned (.bool false)∧Hid (Kp w')))
  (HK:Hid (∀wi,Kp wi→(∃v,wi.cell? ⟨g,m*4+1,none⟩=some v)∧wi.frozen? ⟨g,m*4+1,none⟩=false∧(∃v,(wi.setCell ⟨g,m*4+1,none⟩ (.int .i64 po)).cell? ⟨X,3,none⟩=some v)∧(wi.setCell ⟨g,m*4+1,none⟩ (.int .i64 po)).frozen? ⟨X,3,none⟩=false))
  (hnx:nx=min ((po:Int)+1) ((n:Int) - 1)) (hpr:pr<np) (hpo:po<n) (hn:n≤2000) :
  Calls Tryz.prog 47 #[.pointer (some ⟨X,0,none⟩)] w fun e w'=>(∃v,e=.returned v)∧Hid (∃w3,Kp w3∧w'=(w3.setCell ⟨g,m*4+1,none⟩ (.int .i64 po)).setCell ⟨X,3,none⟩ (.int .i64 2)):=by
 have h1:(0:Int)≤(pr:Int):=by omega
 have h2:(pr:Int)<(np:Int):=by omega
 have h3:(0:Int)≤(po:Int):=by omega
 have h4:(po:Int)<(n:Int):=by omega
 have HN1:Hid ((if (n:Int) - 1<(po:Int)+1 then (n:Int) - 1 else (po:Int)+1)=nx):=by show _=_;split<;>omega
 have HN2:Hid (min ((po:Int)+1) ((n:Int) - 1)=nx):=hnx.symm
 clear hnx
 go_enter Tryz.func47,Tryz.ntmps47
 go_upto_region 1 with (go_at_call 101;refine HF.out.mono ?_;rintro e w1 ⟨rfl,hb1⟩)
 go_region_held3 (fun w'=>w'.cell? ⟨g,m*4+1,none⟩=some (.int .i64 po)∧w'.cell? ⟨X,0,none⟩=some (.slice (some ⟨pb,poo,none⟩) np pc)∧w'.cell? ⟨g,m*4,none⟩=some (.int .i64 pr)∧w'.cell? ⟨pb,poo+pr*3+2,none⟩=some (.slice (some ⟨cb,co,none⟩) n cc)) (exact HC.out _ hb1.drew) (fail)
 all_goals
  obtain⟨W,hW⟩:∃W,w1.drew=W:=⟨_,rfl⟩
  have HB:Hid (Below w.heap.size w W):=hW ▸ hb1.drew
  rw[hW]
  clear hW hb1
  obtain⟨q1,_,_,_⟩:=HC.out W HB.out
  have q2:=HZ.out W HB.out
  go_upto_region 3 with (fail)
  first
   | rw[HN1.out]
   | rw[HN2.out]
  have HD2:=HD.out W HB.out
  obtain⟨e0,e1,e2,e3,e4⟩:=HI.out W HB.out
  have HD3:Hid (Calls Tryz.prog 102 #[.pointer (some ⟨X,0,none⟩),.agg #[.int .i64 op,.int .i64 a,.int .i64 b,.int .i64 c,.slice aa an ac]] (W.setCell ⟨g,m*4+1,none⟩ (.int .i64 nx)) fun e w'=>e=.returned (.bool false)∧Hid (Kp w')):=HD2
  clear HD2 q1 q2
  generalize W.setCell ⟨g,m*4+1,none⟩ (.int .i64 nx)=W2 at *
  go_wp2_with (go_at_call 102;refine HD3.out.mono ?_;rintro e w3 ⟨rfl,HKw⟩;obtain⟨⟨v1,k1⟩,k2,⟨v3,k3⟩,k4⟩:=HK.out w3 HKw.out)
  go_end0
  exact⟨⟨_,rfl⟩,w3,HKw.out,rfl⟩
end Go.Proofs.YtfaokaohhchdhaaGreatDoor
