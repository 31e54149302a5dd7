/- do, of a run at work. -/
import Derived.Test.YtfaokaohhchdhaaGreatDoorPart18
import Derived.Test.YtfaokaohhchdhaaGreatDoorPart15
namespace Go.Proofs.YtfaokaohhchdhaaGreatDoor
open Go.RowKit Go.Maps
def DoK (X B : Nat) (w : World) (pv : Value) (o : Option Rn) (w' : World) : Prop :=
 (o=none→Below w.heap.size w w')∧∀ R',o=some R'→RA X B w' pv R'∧Below B w w'
theorem doPost_iff {X B : Nat} {w : World} {pv : Value} {o : Option Rn} {e : Ending} {w' : World} : DoPost X B w pv o e w' ↔ e=.returned (.bool o.isSome)∧DoK X B w pv o w':=by
 unfold DoPost DoK
 cases o with
 | none => simp
 | some R => simp
theorem DoK.ahead {X B : Nat} {w wi : World} {pv : Value} {o : Option Rn} {w' : World} (h : DoK X B wi pv o w') (hb : Below w.heap.size w wi) (hB : B≤w.heap.size) : DoK X B w pv o w' :=
 ⟨fun e => below_step hb (h.1 e),fun R' e => ⟨(h.2 R' e).1,(hb.mono hB).trans (h.2 R' e).2⟩⟩
def CallC (np : Nat) (P : Nat→Pc) : Prop:=∀ (M X B : Nat) (i : In) (aa : Option Addr) (ac : Nat) (w : World) (pv : Value) (R : Rn),CodeOK np P→StaOK np P R.s→R.s.st=0→RA X B w pv R→ProcsAt M w pv np P→M≤B→i.op=7→InOK np (fun k => (P k).params) (procS P R.s).regs (procS P R.s).n i→NumsAt M w (.slice aa i.n ac) i.n i.z →
 Calls Tryz.prog 136 #[.pointer (some ⟨X,0,none⟩),.agg #[.int .i64 i.op,.int .i64 i.a,.int .i64 i.b,.int .i64 i.c,.slice aa i.n ac]] w (DoPost X B w pv ((doM P R.s i).map (outR R)))
theorem RA.le {X B : Nat} {w : World} {pv : Value} {R : Rn} (h : RA X B w pv R) : B≤w.heap.size:=by
 obtain ⟨_,_,_,_,_,h⟩:=h
 exact Nat.le_trans h.hX (Nat.le_of_lt h.lt)
theorem doP {np : Nat} {P : Nat→Pc} (hNew : NewC np P) (hCall : CallC np P) (M X B : Nat) (i : In) (aa : Option Addr) (ac : Nat) (w : World) (pv : Value) (R : Rn) (hc : CodeOK np P) (hs : StaOK np P R.s) (hst : R.s.st=0) (h : RA X B w pv R) (hp : ProcsAt M w pv np P) (hM : M≤B) (hl : R.said.length≤1000)
  (hi : InOK np (fun k => (P k).params) (procS P R.s).regs (procS P R.s).n i) (hav : NumsAt M w (.slice aa i.n ac) i.n i.z) :
  Calls Tryz.prog 102 #[.pointer (some ⟨X,0,none⟩),.agg #[.int .i64 i.op,.int .i64 i.a,.int .i64 i.b,.int .i64 i.c,.slice aa i.n ac]] w (DoPost X B w pv ((doM P R.s i).map (outR R))):=by
 have hRA:=h
 have hBw:=h.le
 obtain ⟨fv,cv,sv,rv,xv,h⟩:=h
 have hn : ¬ R.s.fs.length=0:=hs.unfin (by omega)
 have ht:=hs.top hn
 have hlen:=ht.len
 have hfew:=hs.few
 have hr0:=hc.r0 _ (show (topF R.s).proc.toNat < np by have:=ht.p0; have:=ht.p1; omega)
 obtain ⟨g,m,cap,rb,rc,rfl,hfl,hrv,T⟩:=h.top hn (by omega)
 obtain ⟨W,hW,b0,hsz,i0,i1,i2,i3,i4⟩:=ibox w i.op i.a i.b i.c (.slice aa i.n ac)
 have hT : ∀ wi,Below W.heap.size W wi→TopAt B wi g m rb rc (topF R.s):=fun wi hb => (T.below b0).below hb
 have HF : Hid (Calls Tryz.prog 101 #[.pointer (some ⟨X,0,none⟩)] W fun e w' => e=.returned (.pointer (some ⟨g,m * 4,none⟩))∧Below W.heap.size W w'):=vframe X B W pv cv sv g m cap rv xv R (h.below b0) (by omega)
 have hRW : ∀ wi,Below W.heap.size W wi→RA X B wi pv R:=fun wi hw => (hRA.below b0).below hw
 have hbw : ∀ wi,Below W.heap.size W wi→Below w.heap.size w wi:=fun wi hw => below_step b0 hw
 -- the instruction is handed on
 have hand : ∀ wi,Below W.heap.size W wi→wi.cell? ⟨w.heap.size,0,none⟩=some (.int .i64 i.op)∧wi.cell? ⟨w.heap.size,1,none⟩=some (.int .i64 i.a)∧wi.cell? ⟨w.heap.size,2,none⟩=some (.int .i64 i.b)∧wi.cell? ⟨w.heap.size,3,none⟩=some (.int .i64 i.c)∧wi.cell? ⟨w.heap.size,4,none⟩=some (.slice aa i.n ac):=fun wi hw => ⟨below_at hw i0,below_at hw i1,below_at hw i2,below_at hw i3,below_at hw i4⟩
 have havi : ∀ wi,Below W.heap.size W wi→NumsAt M wi (.slice aa i.n ac) i.n i.z:=fun wi hw => hav.below ((hbw wi hw).mono (Nat.le_trans hM hBw))
 have hpi : ∀ wi,Below W.heap.size W wi→ProcsAt M wi pv np P:=fun wi hw => hp.below ((hbw wi hw).mono (Nat.le_trans hM hBw))
 by_cases o6 : i.op=6
 ·have HC : ∀ wi,Below W.heap.size W wi→_:=fun wi hw => putM X B i aa ac wi pv R hs hst (hRW wi hw) o6 hi
  rw [o6] at hW hand HC ⊢
  refine (do_put X g m i.a i.b i.c ((doM P R.s i).map (outR R)).isSome aa i.n ac w W (DoK X B w pv ((doM P R.s i).map (outR R))) hW HF hand (fun wi hw => (HC wi hw).mono fun e w' he => ⟨(doPost_iff.1 he).1,(doPost_iff.1 he).2.ahead (hbw wi hw) hBw⟩)).mono ?_
  rintro e w' ⟨he,hk⟩
  exact doPost_iff.2 ⟨he,hk⟩
 by_cases o7 : i.op=7
 ·have HC : ∀ wi,Below W.heap.size W wi→_:=fun wi hw => hCall M X B i aa ac wi pv R hc hs hst (hRW wi hw) (hpi wi hw) hM o7 hi (havi wi hw)
  rw [o7] at hW hand HC ⊢
  refine (do_call X g m i.a i.b i.c ((doM P R.s i).map (outR R)).isSome aa i.n ac w W (DoK X B w pv ((doM P R.s i).map (outR R))) hW HF hand (fun wi hw => (HC wi hw).mono fun e w' he => ⟨(doPost_iff.1 he).1,(doPost_iff.1 he).2.ahead (hbw wi hw) hBw⟩)).mono ?_
  rintro e w' ⟨he,hk⟩
  exact doPost_iff.2 ⟨he,hk⟩
 by_cases o10 : i.op=10
 ·have e1 : doM P R.s i=some (R.s,[],true):=by
   unfold doM; rw [if_neg o6,if_neg o7,if_neg (by omega),if_neg (by omega),if_pos o10]
  rw [e1]
  rw [o10] at hW hand ⊢
  refine (do_pause X g m i.a i.b i.c aa i.n ac w W hW HF (fun wi hw => by
   obtain ⟨_,_,_,_,_,_,c6,c7⟩:=((h.below b0).below hw).cells
   exact ⟨(hand wi hw).1,⟨_,c6⟩,c7 6⟩)).mono ?_
  rintro e w' ⟨rfl,w1,hw1,rfl⟩
  have h1:=(h.below b0).below hw1
  have q1:=heap_setCell_same w1 X 6 _ _ (.bool true) h1.box
  have h2 : RunAt X B (w1.setCell ⟨X,6,none⟩ (.bool true)) pv _ cv sv rv xv ⟨R.s,R.said,true⟩:=h1.turn q1 (fun k hk => Below.heap_setCell _ _ _ k hk) rfl rfl rfl
  refine Or.inr ⟨_,rfl,rfl,?_,((hbw w1 hw1).mono hBw).setCell h.hX _⟩
  show RA X B _ pv ⟨R.s,R.said ++ [],R.paused || true⟩
  rw [List.append_nil,Bool.or_true]
  exact ⟨_,_,_,_,_,h2⟩
 by_cases o12 : i.op=12
 ·have e1 : doM P R.s i=some (setPos R.s i.b,[],false):=by
   unfold doM; rw [if_neg o6,if_neg o7,if_neg (by omega),if_neg (by omega),if_neg o10,if_neg (by omega),if_pos o12]
  rw [e1]
  rw [o12] at hW hand ⊢
  refine (do_jump X g m i.a i.b i.c aa i.n ac w W hW HF (fun wi hw => ⟨(hand wi hw).1,(hand wi hw).2.2.1,⟨_,(hT wi hw).c1⟩,(hT wi hw).gz _⟩)).mono ?_
  rintro e w' ⟨rfl,w1,hw1,rfl⟩
  obtain ⟨q1,q2⟩:=((h.below b0).below hw1).setPos hfl i.b
  refine Or.inr ⟨_,rfl,rfl,?_,((hbw w1 hw1).mono hBw).trans q2⟩
  show RA X B _ pv ⟨setPos R.s i.b,R.said ++ [],R.paused || false⟩
  rw [List.append_nil,Bool.or_false]
  exact ⟨_,_,_,_,_,q1⟩
 by_cases oA : i.op=8∨i.op=9∨i.op=11∨i.op=13
 ·obtain ⟨a,ha⟩:=nat_of (hi.ra (by omega) (by omega)).1
  have ha1:=(hi.ra (by omega) (by omega)).2
  unfold procS at ha1
  rw [ha] at ha1
  have ha2 : a < (topF R.s).regs.length:=by omega
  have hreg : regAt (topF R.s).regs i.a=(topF R.s).regs.getD a (0,0):=by unfold regAt; rw [ha]; rfl
  rw [ha] at hW hand
  have HI : ∀ wi,Below W.heap.size W wi→wi.cell? ⟨w.heap.size,0,none⟩=some (.int .i64 i.op)∧wi.cell? ⟨w.heap.size,1,none⟩=some (.int .i64 a)∧wi.cell? ⟨g,m * 4 + 2,none⟩=some (.slice (some ⟨rb,0,none⟩) (topF R.s).regs.length rc)∧wi.cell? ⟨rb,a * 2,none⟩=some (.int .i64 ((topF R.s).regs.getD a (0,0)).1)∧wi.cell? ⟨rb,a * 2 + 1,none⟩=some (.int .i64 ((topF R.s).regs.getD a (0,0)).2):=fun wi hw => ⟨(hand wi hw).1,(hand wi hw).2.1,(hT wi hw).c2,(hT wi hw).r0 a ha2,(hT wi hw).r1 a ha2⟩
  by_cases o8 : i.op=8
  ·have e1 : doM P R.s i=some (backS R.s ((topF R.s).regs.getD a (0,0)),[],false):=by
    unfold doM; rw [if_neg o6,if_neg o7,if_pos o8,hreg]
   rw [e1]
   rw [o8] at hW HI ⊢
   rw [ha]
   refine (do_back X g m rb rc (topF R.s).regs.length a i.b i.c _ _ aa i.n ac w W (fun w' => RA X B w' pv ⟨backS R.s ((topF R.s).regs.getD a (0,0)),R.said,R.paused⟩∧Below B w w') hW HF HI (fun wi hw => (backM X B ((topF R.s).regs.getD a (0,0)) wi pv R hc hs hst (hRW wi hw)).mono (by
    rintro e w' ⟨he,h1,h2⟩
    exact ⟨he,h1,((hbw wi hw).mono hBw).trans h2⟩)) ha2).mono ?_
   rintro e w' ⟨rfl,h1,h2⟩
   refine Or.inr ⟨_,rfl,rfl,?_,h2⟩
   show RA X B _ pv ⟨backS R.s _,R.said ++ [],R.paused || false⟩
   rw [List.append_nil,Bool.or_false]
   exact h1
  by_cases o9 : i.op=9
  ·have e1 : doM P R.s i=if ((topF R.s).regs.getD a (0,0)).1=1 then some (R.s,[((topF R.s).regs.getD a (0,0)).2],false) else none:=by
    unfold doM; rw [if_neg o6,if_neg o7,if_neg o8,if_pos o9,hreg]
   rw [e1]
   rw [o9] at hW HI ⊢
   rw [ha]
   by_cases hk : ((topF R.s).regs.getD a (0,0)).1=1
   ·rw [if_pos hk]
    refine (do_say X g m rb rc (topF R.s).regs.length a i.b i.c _ _ true aa i.n ac w W (fun w' => RA X B w' pv ⟨R.s,R.said ++ [((topF R.s).regs.getD a (0,0)).2],R.paused⟩∧Below B w w') hW HF HI (fun wi hw => by
     rw [hk]
     refine (vsay_yes X B _ wi pv R (hRW wi hw) hl).mono ?_
     rintro e w' ⟨he,h1,h2⟩
     exact ⟨he,h1,((hbw wi hw).mono hBw).trans h2⟩) ha2).mono ?_
    rintro e w' ⟨rfl,h1,h2⟩
    refine Or.inr ⟨_,rfl,rfl,?_,h2⟩
    show RA X B _ pv ⟨R.s,R.said ++ _,R.paused || false⟩
    rw [Bool.or_false]
    exact h1
   ·rw [if_neg hk]
    refine (do_say X g m rb rc (topF R.s).regs.length a i.b i.c _ _ false aa i.n ac w W (fun w' => Below w.heap.size w w') hW HF HI (fun wi hw => by
     refine (vsay_no X _ _ wi hk).mono ?_
     rintro e w' ⟨he,h1⟩
     exact ⟨he,below_step (hbw wi hw) h1⟩) ha2).mono ?_
    rintro e w' ⟨rfl,h1⟩
    exact Or.inl ⟨rfl,rfl,h1⟩
  by_cases o11 : i.op=11
  ·have e1 : doM P R.s i=if ((topF R.s).regs.getD a (0,0)).1=1 then some (⟨R.s.fs,R.s.cs,3,((topF R.s).regs.getD a (0,0)).2⟩,[],false) else none:=by
    unfold doM; rw [if_neg o6,if_neg o7,if_neg o8,if_neg o9,if_neg o10,if_pos o11,hreg]
   rw [e1]
   rw [o11] at hW HI ⊢
   rw [ha]
   by_cases hk : ((topF R.s).regs.getD a (0,0)).1=1
   ·rw [if_pos hk]
    refine (do_leave X g m rb rc (topF R.s).regs.length a i.b i.c _ _ true aa i.n ac w W (fun w' => RA X B w' pv ⟨⟨R.s.fs,R.s.cs,3,((topF R.s).regs.getD a (0,0)).2⟩,R.said,R.paused⟩∧Below B w w') hW HF HI (fun wi hw => by
     rw [hk]
     refine (leave_yes X B _ wi pv R (hRW wi hw)).mono ?_
     rintro e w' ⟨he,h1,h2⟩
     exact ⟨he,h1,((hbw wi hw).mono hBw).trans h2⟩) ha2).mono ?_
    rintro e w' ⟨rfl,h1,h2⟩
    refine Or.inr ⟨_,rfl,rfl,?_,h2⟩
    show RA X B _ pv ⟨⟨R.s.fs,R.s.cs,3,_⟩,R.said ++ [],R.paused || false⟩
    rw [List.append_nil,Bool.or_false]
    exact h1
   ·rw [if_neg hk]
    refine (do_leave X g m rb rc (topF R.s).regs.length a i.b i.c _ _ false aa i.n ac w W (fun w' => Below w.heap.size w w') hW HF HI (fun wi hw => by
     refine (leave_no X _ _ wi hk).mono ?_
     rintro e w' ⟨he,h1⟩
     exact ⟨he,below_step (hbw wi hw) h1⟩) ha2).mono ?_
    rintro e w' ⟨rfl,h1⟩
    exact Or.inl ⟨rfl,rfl,h1⟩
  have o13 : i.op=13:=by omega
  have e1 : doM P R.s i=some (if ¬ ((topF R.s).regs.getD a (0,0)).1=2∧((topF R.s).regs.getD a (0,0)).2=0 then setPos R.s i.b else R.s,[],false):=by
   unfold doM; rw [if_neg o6,if_neg o7,if_neg o8,if_neg o9,if_neg o10,if_neg o11,if_neg o12,if_pos o13,hreg]
  rw [e1]
  rw [o13] at hW HI ⊢
  rw [ha]
  refine (do_zero X g m rb rc (topF R.s).regs.length a i.b i.c _ _ aa i.n ac w W hW HF HI (fun wi hw => ⟨(hand wi hw).2.2.1,⟨_,(hT wi hw).c1⟩,(hT wi hw).gz _⟩) ha2).mono ?_
  rintro e w' ⟨rfl,w1,hw1,rfl⟩
  by_cases hz : ¬ ((topF R.s).regs.getD a (0,0)).1=2∧((topF R.s).regs.getD a (0,0)).2=0
  ·rw [zeroW_yes hz,if_pos hz]
   obtain ⟨q1,q2⟩:=((h.below b0).below hw1).setPos hfl i.b
   refine Or.inr ⟨_,rfl,rfl,?_,((hbw w1 hw1).mono hBw).trans q2⟩
   show RA X B _ pv ⟨setPos R.s i.b,R.said ++ [],R.paused || false⟩
   rw [List.append_nil,Bool.or_false]
   exact ⟨_,_,_,_,_,q1⟩
  ·rw [zeroW_no hz,if_neg hz]
   refine Or.inr ⟨_,rfl,rfl,?_,(hbw w1 hw1).mono hBw⟩
   show RA X B _ pv ⟨R.s,R.said ++ [],R.paused || false⟩
   rw [List.append_nil,Bool.or_false]
   exact hRW w1 hw1
 ·have o1:=hi.o0
  have o2:=hi.o1
  have e1 : (doM P R.s i).map (outR R)=(valueM R.s i).map fun x => outR R (setReg x.1 i.a x.2,[],false):=by
   unfold doM
   rw [if_neg o6,if_neg o7,if_neg (by omega),if_neg (by omega),if_neg o10,if_neg (by omega),if_neg o12,if_neg (by omega),Option.map_map]
   rfl
  rw [e1]
  have hne : ∀ k : Int,¬ i.op=k→(i.op == k)=false:=fun k hk => by simp [hk]
  have hS : ∀ wi,Below W.heap.size W wi→_:=fun wi hw => setM hNew M X B i aa ac wi pv R hc hs hst (hRW wi hw) (by omega) hi (havi wi hw) (Nat.le_trans hM (Nat.le_trans hBw (hbw wi hw).size))
  obtain ⟨o,hoo⟩ : ∃ o,((valueM R.s i).map fun x => outR R (setReg x.1 i.a x.2,[],false))=o:=⟨_,rfl⟩
  rw [hoo] at hS ⊢
  refine (do_set X g m i.op i.a i.b i.c o.isSome aa i.n ac w W (DoK X B w pv o) hW HF hand (fun wi hw => (hS wi hw).mono fun e w' he => ⟨(doPost_iff.1 he).1,(doPost_iff.1 he).2.ahead (hbw wi hw) hBw⟩) (hne 6 (by omega)) (hne 7 (by omega)) (hne 8 (by omega)) (hne 9 (by omega)) (hne 10 (by omega)) (hne 11 (by omega)) (hne 12 (by omega)) (hne 13 (by omega))).mono ?_
  rintro e w' ⟨he,hk⟩
  exact doPost_iff.2 ⟨he,hk⟩
set_option maxHeartbeats 2000000 in
theorem step_ok (X g m pr po pb poo np pc cb co n cc : Nat) (op a b c nx : Int) (aa : Option Addr) (an ac : Nat) (w : World) (Kp : World→Prop)
  (HF : Hid (Calls Tryz.prog 101 #[.pointer (some ⟨X,0,none⟩)] w fun e w' => e=.returned (.pointer (some ⟨g,m * 4,none⟩))∧Below w.heap.size w w'))
  (HC : Hid (∀ wi,Below w.heap.size w wi→wi.cell? ⟨g,m * 4 + 1,none⟩=some (.int .i64 po)∧wi.cell? ⟨X,0,none⟩=some (.slice (some ⟨pb,poo,none⟩) np pc)∧wi.cell? ⟨g,m * 4,none⟩=some (.int .i64 pr)∧wi.cell? ⟨pb,poo + pr * 3 + 2,none⟩=some (.slice (some ⟨cb,co,none⟩) n cc)))
  (HZ : Hid (∀ wi,Below w.heap.size w wi→wi.frozen? ⟨g,m * 4 + 1,none⟩=false))
  (HI : Hid (∀ wi,Below w.heap.size w wi→(wi.setCell ⟨g,m * 4 + 1,none⟩ (.int .i64 nx)).cell? ⟨cb,co + po * 5,none⟩=some (.int .i64 op)∧(wi.setCell ⟨g,m * 4 + 1,none⟩ (.int .i64 nx)).cell? ⟨cb,co + po * 5 + 1,none⟩=some (.int .i64 a)∧(wi.setCell ⟨g,m * 4 + 1,none⟩ (.int .i64 nx)).cell? ⟨cb,co + po * 5 + 2,none⟩=some (.int .i64 b)∧(wi.setCell ⟨g,m * 4 + 1,none⟩ (.int .i64 nx)).cell? ⟨cb,co + po * 5 + 3,none⟩=some (.int .i64 c)∧(wi.setCell ⟨g,m * 4 + 1,none⟩ (.int .i64 nx)).cell? ⟨cb,co + po * 5 + 4,none⟩=some (.slice aa an ac)))
  (HD : Hid (∀ wi,Below w.heap.size w wi→Calls Tryz.prog 102 #[.pointer (some ⟨X,0,none⟩),.agg #[.int .i64 op,.int .i64 a,.int .i64 b,.int .i64 c,.slice aa an ac]] (wi.setCell ⟨g,m * 4 + 1,none⟩ (.int .i64 nx)) fun e w' => e=.returned (.bool true)∧Hid (Kp w')))
  (hnx : nx=min ((po : Int) + 1) ((n : Int) - 1)) (hpr : pr < np) (hpo : po < n) (hn : n≤2000) :
  Calls Tryz.prog 47 #[.pointer (some ⟨X,0,none⟩)] w fun e w' => (∃ v,e=.returned v)∧Hid (Kp w'):=by
 have h1 : (0 : Int)≤(pr : Int):=by omega
 have h2 : (pr : Int) < (np : Int):=by omega
 have h3 : (0 : Int)≤(po : Int):=by omega
 have h4 : (po : Int) < (n : Int):=by omega
 have HN1 : Hid ((if (n : Int) - 1 < (po : Int) + 1 then (n : Int) - 1 else (po : Int) + 1)=nx):=by show _=_; split <;> omega
 have HN2 : Hid (min ((po : Int) + 1) ((n : Int) - 1)=nx):=hnx.symm
 clear hnx
 go_enter Tryz.func47,Tryz.ntmps47
 go_upto_region 1 with (go_at_call 101; refine HF.out.mono ?_; rintro e w1 ⟨rfl,hb1⟩)
 go_region_held3 (fun w' => w'.cell? ⟨g,m * 4 + 1,none⟩=some (.int .i64 po)∧w'.cell? ⟨X,0,none⟩=some (.slice (some ⟨pb,poo,none⟩) np pc)∧w'.cell? ⟨g,m * 4,none⟩=some (.int .i64 pr)∧w'.cell? ⟨pb,poo + pr * 3 + 2,none⟩=some (.slice (some ⟨cb,co,none⟩) n cc)) (exact HC.out _ hb1.drew) (fail)
 all_goals
  obtain ⟨W,hW⟩ : ∃ W,w1.drew=W:=⟨_,rfl⟩
  have HB : Hid (Below w.heap.size w W):=hW ▸ hb1.drew
  rw [hW]
  clear hW hb1
  obtain ⟨q1,_,_,_⟩:=HC.out W HB.out
  have q2:=HZ.out W HB.out
  go_upto_region 3 with (fail)
  first
   | rw [HN1.out]
   | rw [HN2.out]
  have HD2:=HD.out W HB.out
  obtain ⟨e0,e1,e2,e3,e4⟩:=HI.out W HB.out
  have HD3 : Hid (Calls Tryz.prog 102 #[.pointer (some ⟨X,0,none⟩),.agg #[.int .i64 op,.int .i64 a,.int .i64 b,.int .i64 c,.slice aa an ac]] (W.setCell ⟨g,m * 4 + 1,none⟩ (.int .i64 nx)) fun e w' => e=.returned (.bool true)∧Hid (Kp w')):=HD2
  clear HD2 q1 q2
  generalize W.setCell ⟨g,m * 4 + 1,none⟩ (.int .i64 nx)=W2 at *
  go_wp2_with (go_at_call 102; refine HD3.out.mono ?_; rintro e w3 ⟨rfl,HK⟩)
  go_end0
  exact ⟨⟨_,rfl⟩,HK⟩
set_option maxHeartbeats 2000000 in
theorem step_no (X g m pr po pb poo np pc cb co n cc : Nat) (op a b c nx : Int) (aa : Option Addr) (an ac : Nat) (w : World) (Kp : World→Prop)
  (HF : Hid (Calls Tryz.prog 101 #[.pointer (some ⟨X,0,none⟩)] w fun e w' => e=.returned (.pointer (some ⟨g,m * 4,none⟩))∧Below w.heap.size w w'))
  (HC : Hid (∀ wi,Below w.heap.size w wi→wi.cell? ⟨g,m * 4 + 1,none⟩=some (.int .i64 po)∧wi.cell? ⟨X,0,none⟩=some (.slice (some ⟨pb,poo,none⟩) np pc)∧wi.cell? ⟨g,m * 4,none⟩=some (.int .i64 pr)∧wi.cell? ⟨pb,poo + pr * 3 + 2,none⟩=some (.slice (some ⟨cb,co,none⟩) n cc)))
  (HZ : Hid (∀ wi,Below w.heap.size w wi→wi.frozen? ⟨g,m * 4 + 1,none⟩=false))
  (HI : Hid (∀ wi,Below w.heap.size w wi→(wi.setCell ⟨g,m * 4 + 1,none⟩ (.int .i64 nx)).cell? ⟨cb,co + po * 5,none⟩=some (.int .i64 op)∧(wi.setCell ⟨g,m * 4 + 1,none⟩ (.int .i64 nx)).cell? ⟨cb,co + po * 5 + 1,none⟩=some (.int .i64 a)∧(wi.setCell ⟨g,m * 4 + 1,none⟩ (.int .i64 nx)).cell? ⟨cb,co + po * 5 + 2,none⟩=some (.int .i64 b)∧(wi.setCell ⟨g,m * 4 + 1,none⟩ (.int .i64 nx)).cell? ⟨cb,co + po * 5 + 3,none⟩=some (.int .i64 c)∧(wi.setCell ⟨g,m * 4 + 1,none⟩ (.int .i64 nx)).cell? ⟨cb,co + po * 5 + 4,none⟩=some (.slice aa an ac)))
  (HD : Hid (∀ wi,Below w.heap.size w wi→Calls Tryz.prog 102 #[.pointer (some ⟨X,0,none⟩),.agg #[.int .i64 op,.int .i64 a,.int .i64 b,.int .i64 c,.slice aa an ac]] (wi.setCell ⟨g,m * 4 + 1,none⟩ (.int .i64 nx)) fun e w' => e=.returned (.bool false)∧Hid (Kp w')))
  (HK : Hid (∀ wi,Kp wi→(∃ v,wi.cell? ⟨g,m * 4 + 1,none⟩=some v)∧wi.frozen? ⟨g,m * 4 + 1,none⟩=false∧(∃ v,(wi.setCell ⟨g,m * 4 + 1,none⟩ (.int .i64 po)).cell? ⟨X,3,none⟩=some v)∧(wi.setCell ⟨g,m * 4 + 1,none⟩ (.int .i64 po)).frozen? ⟨X,3,none⟩=false))
  (hnx : nx=min ((po : Int) + 1) ((n : Int) - 1)) (hpr : pr < np) (hpo : po < n) (hn : n≤2000) :
  Calls Tryz.prog 47 #[.pointer (some ⟨X,0,none⟩)] w fun e w' => (∃ v,e=.returned v)∧Hid (∃ w3,Kp w3∧w'=(w3.setCell ⟨g,m * 4 + 1,none⟩ (.int .i64 po)).setCell ⟨X,3,none⟩ (.int .i64 2)):=by
 have h1 : (0 : Int)≤(pr : Int):=by omega
 have h2 : (pr : Int) < (np : Int):=by omega
 have h3 : (0 : Int)≤(po : Int):=by omega
 have h4 : (po : Int) < (n : Int):=by omega
 have HN1 : Hid ((if (n : Int) - 1 < (po : Int) + 1 then (n : Int) - 1 else (po : Int) + 1)=nx):=by show _=_; split <;> omega
 have HN2 : Hid (min ((po : Int) + 1) ((n : Int) - 1)=nx):=hnx.symm
 clear hnx
 go_enter Tryz.func47,Tryz.ntmps47
 go_upto_region 1 with (go_at_call 101; refine HF.out.mono ?_; rintro e w1 ⟨rfl,hb1⟩)
 go_region_held3 (fun w' => w'.cell? ⟨g,m * 4 + 1,none⟩=some (.int .i64 po)∧w'.cell? ⟨X,0,none⟩=some (.slice (some ⟨pb,poo,none⟩) np pc)∧w'.cell? ⟨g,m * 4,none⟩=some (.int .i64 pr)∧w'.cell? ⟨pb,poo + pr * 3 + 2,none⟩=some (.slice (some ⟨cb,co,none⟩) n cc)) (exact HC.out _ hb1.drew) (fail)
 all_goals
  obtain ⟨W,hW⟩ : ∃ W,w1.drew=W:=⟨_,rfl⟩
  have HB : Hid (Below w.heap.size w W):=hW ▸ hb1.drew
  rw [hW]
  clear hW hb1
  obtain ⟨q1,_,_,_⟩:=HC.out W HB.out
  have q2:=HZ.out W HB.out
  go_upto_region 3 with (fail)
  first
   | rw [HN1.out]
   | rw [HN2.out]
  have HD2:=HD.out W HB.out
  obtain ⟨e0,e1,e2,e3,e4⟩:=HI.out W HB.out
  have HD3 : Hid (Calls Tryz.prog 102 #[.pointer (some ⟨X,0,none⟩),.agg #[.int .i64 op,.int .i64 a,.int .i64 b,.int .i64 c,.slice aa an ac]] (W.setCell ⟨g,m * 4 + 1,none⟩ (.int .i64 nx)) fun e w' => e=.returned (.bool false)∧Hid (Kp w')):=HD2
  clear HD2 q1 q2
  generalize W.setCell ⟨g,m * 4 + 1,none⟩ (.int .i64 nx)=W2 at *
  go_wp2_with (go_at_call 102; refine HD3.out.mono ?_; rintro e w3 ⟨rfl,HKw⟩; obtain ⟨⟨v1,k1⟩,k2,⟨v3,k3⟩,k4⟩:=HK.out w3 HKw.out)
  go_end0
  exact ⟨⟨_,rfl⟩,w3,HKw.out,rfl⟩
theorem setPos_back (S : Sta) (k : Int) (hn : ¬ S.fs.length=0) : setPos (setPos S k) (topF S).pos=S:=by
 have e:=topF_setPos S k hn
 unfold setPos at e ⊢
 rw [e]
 unfold withTop
 simp only [List.length_set,List.set_set]
 have e2 : S.fs.set (S.fs.length - 1) ⟨(topF S).proc,(topF S).pos,(topF S).regs,(topF S).to⟩=S.fs:=by
  refine List.ext_getElem (by simp) fun i h1 h2 => ?_
  rw [List.getElem_set]
  split
  ·rename_i h
   subst h
   unfold topF fmAt
   rw [List.getD_eq_getElem?_getD,List.getElem?_eq_getElem h2]; rfl
  ·rfl
 rw [e2]
theorem ProcsAt.ins {M : Nat} {w : World} {pv : Value} {np : Nat} {P : Nat→Pc} (h : ProcsAt M w pv np P) {k j : Nat} (hk : k < np) (hj : j < (P k).n) : ∃ pb poo pc cb co cc aa ac,pv=.slice (some ⟨pb,poo,none⟩) np pc∧pb < M∧cb < M∧w.cell? ⟨pb,poo + k * 3 + 1,none⟩=some (.int .i64 (P k).regs)∧w.cell? ⟨pb,poo + k * 3 + 2,none⟩=some (.slice (some ⟨cb,co,none⟩) (P k).n cc) ∧
  w.cell? ⟨cb,co + j * 5,none⟩=some (.int .i64 ((P k).ins j).op)∧w.cell? ⟨cb,co + j * 5 + 1,none⟩=some (.int .i64 ((P k).ins j).a)∧w.cell? ⟨cb,co + j * 5 + 2,none⟩=some (.int .i64 ((P k).ins j).b)∧w.cell? ⟨cb,co + j * 5 + 3,none⟩=some (.int .i64 ((P k).ins j).c)∧w.cell? ⟨cb,co + j * 5 + 4,none⟩=some (.slice aa ((P k).ins j).n ac)∧NumsAt M w (.slice aa ((P k).ins j).n ac) ((P k).ins j).n ((P k).ins j).z:=by
 obtain ⟨pa,pc,rfl,_,h | ⟨pb,poo,rfl,hpb,h⟩⟩:=h
 ·omega
 obtain ⟨vc,c0,c1,c2,hv⟩:=h k hk
 obtain ⟨ca,cc,rfl,_,hv | ⟨cb,co,rfl,hcb,hv⟩⟩:=hv
 ·omega
 obtain ⟨va,d0,d1,d2,d3,d4,hav⟩:=hv j hj
 have hav':=hav
 obtain ⟨aa,ac,rfl,_⟩:=hav'
 exact ⟨pb,poo,pc,cb,co,cc,aa,ac,rfl,hpb,hcb,c1,c2,d0,d1,d2,d3,d4,hav⟩
theorem stepP {np : Nat} {P : Nat→Pc} (hNew : NewC np P) (hCall : CallC np P) (M X B : Nat) (w : World) (pv : Value) (R : Rn) (hc : CodeOK np P) (hs : StaOK np P R.s) (hst : R.s.st=0) (h : RA X B w pv R) (hp : ProcsAt M w pv np P) (hM : M≤B) (hl : R.said.length≤1000) :
  Calls Tryz.prog 47 #[.pointer (some ⟨X,0,none⟩)] w fun e w' => (∃ v,e=.returned v)∧Hid (RA X B w' pv (stepM P R)∧Below B w w'):=by
 have hBw:=h.le
 obtain ⟨fv,cv,sv,rv,xv,h⟩:=h
 have hn : ¬ R.s.fs.length=0:=hs.unfin (by omega)
 have ht:=hs.top hn
 have hlen:=ht.len
 have hfew:=hs.few
 obtain ⟨pr,hpr⟩:=nat_of ht.p0
 obtain ⟨po,hpo⟩:=nat_of ht.a0
 have hpr1:=ht.p1
 have hpo1:=ht.a1
 rw [hpr] at hpr1
 rw [hpr,hpo,Int.toNat_natCast] at hpo1
 have hprn : pr < np:=by omega
 have hr0:=hc.r0 pr hprn
 have hpoN : po < (P pr).n:=by omega
 have hlen' : ((topF R.s).regs.length : Int)=(P pr).regs:=by rw [hlen,hpr,Int.toNat_natCast]
 have hin : insS P R.s=(P pr).ins po:=by unfold insS procS; rw [hpr,hpo,Int.toNat_natCast,Int.toNat_natCast]
 have hnx : nextPos P R.s=min ((po : Int) + 1) (((P pr).n : Int) - 1):=by unfold nextPos procS; rw [hpr,hpo,Int.toNat_natCast]
 obtain ⟨nx,hnxe⟩ : ∃ nx,nextPos P R.s=nx:=⟨_,rfl⟩
 obtain ⟨n0,n1⟩:=nextPos_in hc hs hn
 obtain ⟨g,m,cap,rb,rc,rfl,hfl,hrv,T⟩:=h.top hn (by omega)
 obtain ⟨pb,poo,pc,cb,co,cc,aa,ac,rfl,hpb,hcb,p1,p2,d0,d1,d2,d3,d4,hav⟩:=hp.ins hprn hpoN
 have hR2 : ∀ wi,Below w.heap.size w wi→RunAt X B (wi.setCell ⟨g,m * 4 + 1,none⟩ (.int .i64 nx)) (.slice (some ⟨pb,poo,none⟩) np pc) (.slice (some ⟨g,0,none⟩) (m + 1) cap) cv sv rv xv ⟨setPos R.s nx,R.said,R.paused⟩∧Below B w (wi.setCell ⟨g,m * 4 + 1,none⟩ (.int .i64 nx)):=fun wi hw => by
  obtain ⟨q1,q2⟩:=(h.below hw).setPos hfl nx
  exact ⟨q1,(hw.mono hBw).trans q2⟩
 have hgB:=T.gB
 have keep : ∀ wi,Below w.heap.size w wi→∀ (p : Addr) (v : Value),p.block < M→w.cell? p=some v→(wi.setCell ⟨g,m * 4 + 1,none⟩ (.int .i64 nx)).cell? p=some v:=fun wi hw p v hpm hv => by
  rw [(hR2 wi hw).2.cell (by omega)]; exact hv
 have hsp : StaOK np P (setPos R.s nx):=by rw [← hnxe]; exact hs.setPos hn n0 n1
 have hDo : ∀ wi,Below w.heap.size w wi→_:=fun wi hw => doP hNew hCall M X B ((P pr).ins po) aa ac (wi.setCell ⟨g,m * 4 + 1,none⟩ (.int .i64 nx)) _ ⟨setPos R.s nx,R.said,R.paused⟩ hc hsp hst ⟨_,_,_,_,_,(hR2 wi hw).1⟩ (hp.below ((hR2 wi hw).2.mono hM)) hM hl (by rw [← hin,procS_setPos _ _ hn]; exact insS_right hc hs hn) (hav.below ((hR2 wi hw).2.mono hM))
 have HF : Hid (Calls Tryz.prog 101 #[.pointer (some ⟨X,0,none⟩)] w fun e w' => e=.returned (.pointer (some ⟨g,m * 4,none⟩))∧Below w.heap.size w w'):=vframe X B w _ cv sv g m cap rv xv R h (by omega)
 have HC : Hid (∀ wi,Below w.heap.size w wi→wi.cell? ⟨g,m * 4 + 1,none⟩=some (.int .i64 po)∧wi.cell? ⟨X,0,none⟩=some (.slice (some ⟨pb,poo,none⟩) np pc)∧wi.cell? ⟨g,m * 4,none⟩=some (.int .i64 pr)∧wi.cell? ⟨pb,poo + pr * 3 + 2,none⟩=some (.slice (some ⟨cb,co,none⟩) (P pr).n cc)):=fun wi hw => by
  obtain ⟨c0,_⟩:=(h.below hw).cells
  have T2:=T.below hw
  have t1:=T2.c1
  have t0:=T2.c0
  rw [hpo] at t1
  rw [hpr] at t0
  exact ⟨t1,c0,t0,below_at hw p2⟩
 have HZ : Hid (∀ wi,Below w.heap.size w wi→wi.frozen? ⟨g,m * 4 + 1,none⟩=false):=fun wi hw => (T.below hw).gz _
 have HI : Hid (∀ wi,Below w.heap.size w wi→(wi.setCell ⟨g,m * 4 + 1,none⟩ (.int .i64 nx)).cell? ⟨cb,co + po * 5,none⟩=some (.int .i64 ((P pr).ins po).op)∧(wi.setCell ⟨g,m * 4 + 1,none⟩ (.int .i64 nx)).cell? ⟨cb,co + po * 5 + 1,none⟩=some (.int .i64 ((P pr).ins po).a)∧(wi.setCell ⟨g,m * 4 + 1,none⟩ (.int .i64 nx)).cell? ⟨cb,co + po * 5 + 2,none⟩=some (.int .i64 ((P pr).ins po).b)∧(wi.setCell ⟨g,m * 4 + 1,none⟩ (.int .i64 nx)).cell? ⟨cb,co + po * 5 + 3,none⟩=some (.int .i64 ((P pr).ins po).c)∧(wi.setCell ⟨g,m * 4 + 1,none⟩ (.int .i64 nx)).cell? ⟨cb,co + po * 5 + 4,none⟩=some (.slice aa ((P pr).ins po).n ac)):=fun wi hw => ⟨keep wi hw _ _ hcb d0,keep wi hw _ _ hcb d1,keep wi hw _ _ hcb d2,keep wi hw _ _ hcb d3,keep wi hw _ _ hcb d4⟩
 have hc2:=hc.c1 pr hprn
 have hstep : stepM P R=match doM P (setPos R.s nx) ((P pr).ins po) with | some (S,l,b) => ⟨S,R.said ++ l,R.paused || b⟩ | none => ⟨⟨R.s.fs,R.s.cs,2,R.s.wh⟩,R.said,R.paused⟩:=by
  unfold stepM; rw [hnxe,hin]; cases doM P (setPos R.s nx) ((P pr).ins po) <;> rfl
 cases hv : doM P (setPos R.s nx) ((P pr).ins po) with
 | some x =>
  obtain ⟨S',l,b⟩:=x
  rw [hv] at hstep hDo
  refine (step_ok X g m pr po pb poo np pc cb co (P pr).n cc _ _ _ _ nx aa _ ac w (fun w' => RA X B w' _ (stepM P R)∧Below B w w') HF HC HZ HI (fun wi hw => (hDo wi hw).mono (by
   rintro e w' (⟨h3,_⟩ | ⟨R',h3,he,hr,hb⟩)
   ·cases h3
   ·injection h3 with h3
    subst h3
    exact ⟨he,by rw [hstep]; exact hr,(hR2 wi hw).2.trans hb⟩)) (by rw [← hnxe,hnx]) hprn hpoN hc2).mono ?_
  rintro e w' ⟨he,hk⟩
  exact ⟨he,hk⟩
 | none =>
  rw [hv] at hstep hDo
  have hKR : ∀ w3,(∃ wi,Below w.heap.size w wi∧Below (wi.setCell ⟨g,m * 4 + 1,none⟩ (.int .i64 nx)).heap.size (wi.setCell ⟨g,m * 4 + 1,none⟩ (.int .i64 nx)) w3)→RunAt X B w3 (.slice (some ⟨pb,poo,none⟩) np pc) (.slice (some ⟨g,0,none⟩) (m + 1) cap) cv sv rv xv ⟨setPos R.s nx,R.said,R.paused⟩∧Below B w w3:=fun w3 hk => by
   obtain ⟨wi,hw,hb⟩:=hk
   obtain ⟨q1,q2⟩:=hR2 wi hw
   exact ⟨q1.below hb,q2.trans (hb.mono (Nat.le_trans q1.hX (Nat.le_of_lt q1.lt)))⟩
  have hspl : (setPos R.s nx).fs.length=m + 1:=by unfold setPos withTop; rw [List.length_set]; exact hfl
  have hfin : ∀ w3,RunAt X B w3 (.slice (some ⟨pb,poo,none⟩) np pc) (.slice (some ⟨g,0,none⟩) (m + 1) cap) cv sv rv xv ⟨setPos R.s nx,R.said,R.paused⟩→RunAt X B (w3.setCell ⟨g,m * 4 + 1,none⟩ (.int .i64 po)) (.slice (some ⟨pb,poo,none⟩) np pc) (.slice (some ⟨g,0,none⟩) (m + 1) cap) cv sv rv xv R∧Below B w3 (w3.setCell ⟨g,m * 4 + 1,none⟩ (.int .i64 po)):=fun w3 hr => by
   obtain ⟨q1,q2⟩:=hr.setPos hspl po
   have e : (⟨setPos (setPos R.s nx) po,R.said,R.paused⟩ : Rn)=R:=by rw [← hpo,setPos_back _ _ hn]
   have q3 : RunAt X B (w3.setCell ⟨g,m * 4 + 1,none⟩ (.int .i64 po)) (.slice (some ⟨pb,poo,none⟩) np pc) (.slice (some ⟨g,0,none⟩) (m + 1) cap) cv sv rv xv ⟨setPos (setPos R.s nx) po,R.said,R.paused⟩:=q1
   rw [e] at q3
   exact ⟨q3,q2⟩
  refine (step_no X g m pr po pb poo np pc cb co (P pr).n cc _ _ _ _ nx aa _ ac w (fun w3 => ∃ wi,Below w.heap.size w wi∧Below (wi.setCell ⟨g,m * 4 + 1,none⟩ (.int .i64 nx)).heap.size (wi.setCell ⟨g,m * 4 + 1,none⟩ (.int .i64 nx)) w3) HF HC HZ HI (fun wi hw => (hDo wi hw).mono (by
   rintro e w' (⟨_,he,hb⟩ | ⟨R',h3,_⟩)
   ·exact ⟨he,wi,hw,hb⟩
   ·cases h3)) (fun w3 hk => by
    obtain ⟨hr,_⟩:=hKR w3 hk
    obtain ⟨f1,_⟩:=hfin w3 hr
    obtain ⟨_,_,_,c3,_,_,_,c7⟩:=f1.cells
    have hm3 : m < (setPos R.s nx).fs.length:=by omega
    obtain ⟨u,_,_,k2,_⟩:=hr.own.fcells hm3
    obtain ⟨_,_,e1,_,_,gz⟩:=hr.own.frow (by show ¬ (setPos R.s nx).fs.length=0; omega)
    injection e1 with e1 _ _
    injection e1 with e1
    injection e1 with e1 _ _
    subst e1
    exact ⟨⟨_,k2⟩,gz _,⟨_,c3⟩,c7 3⟩) (by rw [← hnxe,hnx]) hprn hpoN hc2).mono ?_
  rintro e w' ⟨he,w3,hk,rfl⟩
  obtain ⟨hr,hb⟩:=hKR w3 hk
  obtain ⟨f1,f2⟩:=hfin w3 hr
  have q1:=heap_setCell_same _ X 3 _ _ (.int .i64 2) f1.box
  have f3 : RunAt X B ((w3.setCell ⟨g,m * 4 + 1,none⟩ (.int .i64 po)).setCell ⟨X,3,none⟩ (.int .i64 2)) (.slice (some ⟨pb,poo,none⟩) np pc) (.slice (some ⟨g,0,none⟩) (m + 1) cap) cv sv rv xv ⟨⟨R.s.fs,R.s.cs,2,R.s.wh⟩,R.said,R.paused⟩:=f1.turn q1 (fun k hk => Below.heap_setCell _ _ _ k hk) rfl rfl rfl
  refine ⟨he,?_,(hb.trans f2).setCell h.hX _⟩
  rw [hstep]
  exact ⟨_,_,_,_,_,f3⟩
theorem Own.setX {X B : Nat} {w w' : World} {fv cv : Value} {rv xv : List Value} {S : Sta} {cur : Array Value} (h : Own B w fv cv rv xv S) (hX : w.heap[X]?=some (.cells cur 81 (0,0))) (hk : ∀ k,¬ k=X→w'.heap[k]?=w.heap[k]?) : Own B w' fv cv rv xv S:=by
 have kind : ∀ {e size v n xs g'},w.ownsRow B e size v n xs→¬ e=81→Value.ownBlock v=some g'→¬ g'=X:=fun hr hne hg e2 => by
  obtain ⟨c,fz,k⟩:=Lib.ownsRow_kind hr _ hg
  rw [e2,hX] at k
  injection k with k
  injection k with _ k2 _
  exact hne k2.symm
 have go : ∀ {e size v n xs},w.ownsRow B e size v n xs→¬ e=81→w'.ownsRow B e size v n xs:=fun hr hne => ownsRow_block hr fun k hk2 => hk k (kind hr hne hk2)
 exact ⟨go h.fr (by decide),go h.ce (by decide),h.rl,fun i hi => (by obtain ⟨u,h1,h2⟩:=h.regs i hi; exact ⟨u,h1,go h2 (by decide)⟩),fun i hi => (by obtain ⟨u,h1,h2⟩:=h.cells i hi; exact ⟨u,h1,go h2 (by decide)⟩),h.rr,h.xx,h.rx⟩
theorem callC {np : Nat} {P : Nat→Pc} : CallC np P:=by
 intro M X B i aa ac w pv R hc hs hst h hp hM ho hi hav
 have hBw:=h.le
 obtain ⟨fv,cv,sv,rv,xv,h⟩:=h
 have hn : ¬ R.s.fs.length=0:=hs.unfin (by omega)
 have ht:=hs.top hn
 have hlen:=ht.len
 have hfew:=hs.few
 have hr0:=hc.r0 _ (show (topF R.s).proc.toNat < np by have:=ht.p0; have:=ht.p1; omega)
 obtain ⟨g,m,cap,rb,rc,rfl,hfl,hrv,T⟩:=h.top hn (by omega)
 obtain ⟨W,hW,b0,hsz,i0,i1,i2,i3,i4⟩:=ibox w i.op i.a i.b i.c (.slice aa i.n ac)
 obtain ⟨hb0,hb1,hpar,hargs⟩:=hi.cal ho
 obtain ⟨b,hb⟩:=nat_of hb0
 obtain ⟨a,ha⟩:=nat_of (hi.ra (by omega) (by omega)).1
 have hbn : b < np:=by omega
 have hdo : doM P R.s i=if R.s.fs.length=10 then none else some (callS P R.s i,[],false):=by
  unfold doM; rw [if_neg (by omega),if_pos ho]
 rw [hdo]
 obtain ⟨_,c1,_⟩:=(h.below b0).cells
 by_cases h10 : R.s.fs.length=10
 ·rw [if_pos h10]
  obtain rfl : m=9:=by omega
  refine (vcall_no X i.op i.a i.b i.c aa _ i.n ac cap w W hW c1 b0).mono ?_
  rintro e w' ⟨rfl,hb⟩
  exact Or.inl ⟨rfl,rfl,hb⟩
 ·rw [if_neg h10]
  obtain ⟨pb,poo,pc,cb,co,cc,_,_,rfl,hpb,hcb,p1,_⟩:=hp.ins hbn (j:=0) (by have:=hc.c0 b hbn; omega)
  have hr1:=hc.r1 b hbn
  have hr2:=hc.r0 b hbn
  have hp1:=hc.par1 b hbn
  obtain ⟨nr,hnr⟩:=nat_of (show 0≤(P b).regs by omega)
  rw [hnr] at p1
  have hup : ∀ wi,Below W.heap.size W wi→Below w.heap.size w wi:=fun wi hw => below_step b0 hw
  have hL : ((topF R.s).regs.length : Int)=(procS P R.s).regs:=hlen
  have hBW : B≤W.heap.size:=Nat.le_trans hBw b0.size
  have hgB:=T.gB
  have hgl : g < w.heap.size:=(h.own.fr.lt g rfl).2
  have hcallS : callS P R.s i=⟨R.s.fs ++ [⟨i.b,0,argTo nr i.z (topF R.s).regs i.n,i.a⟩],R.s.cs,R.s.st,R.s.wh⟩:=by
   unfold callS
   rw [hb,Int.toNat_natCast,hnr,Int.toNat_natCast]; rfl
  rw [ho,ha,hb] at hW ⊢
  refine (vcall_core X g m cap rb rc (topF R.s).regs.length nr a b pb poo np pc i.z (topF R.s).regs (flatF R.s.fs rv) B i.c aa i.n ac w W W.heap.size rfl (fun w' => RA X B w' (.slice (some ⟨pb,poo,none⟩) np pc) ⟨callS P R.s i,R.said ++ [],R.paused || false⟩∧Below B w w') hW
   (fun wi hw => vframe X B wi _ cv sv g m cap rv xv R (h.below (hup wi hw)) (by omega))
   (fun wi hw => ?_) (fun j hj => ?_) (fun wi hw => ?_) ?_ (Nat.lt_of_lt_of_le h.lt b0.size) (by omega) hbn (by simp; omega) (by omega)).mono ?_
  ·obtain ⟨k0,k1,_⟩:=(h.below (hup wi hw)).cells
   refine ⟨k1,k0,(T.below (hup wi hw)).c2,?_,?_,below_at hw i4,below_at (hup wi hw) p1⟩
   ·rw [← hb]; exact below_at hw i2
   ·rw [← ha]; exact below_at hw i1
  ·obtain ⟨z0,z1⟩:=hargs j hj
   obtain ⟨zj,hzj⟩:=nat_of z0
   have hzn : zj < (topF R.s).regs.length:=by omega
   obtain ⟨aa',ac',e,_,hz | ⟨ab,ao,rfl,hab,hcl⟩⟩:=hav
   ·omega
   ·injection e with e1 _ _
    refine ⟨by have : ((i.n : Nat) : Int)≤nr:=(by rw [hpar,hb,Int.toNat_natCast]; omega); omega,ab,ao,zj,e1,hzj,hzn,fun wi hw => ⟨?_,(T.below (hup wi hw)).r0 zj hzn,(T.below (hup wi hw)).r1 zj hzn⟩⟩
    have:=hcl j hj
    rw [hzj] at this
    exact below_at (hup wi hw) this
  ·have:=(h.below (hup wi hw)).own.fr
   rw [hfl] at this
   exact ⟨this,Nat.le_trans hBW hw.size⟩
  ·show ∀ D V o g' cap' w2,_
   intro D V o g' cap' w2 hMD hVb hrow hown hgr
   have hRW:=h.below b0
   have hXW:=hRW.lt
   have hVs:=hVb.size
   have hot : ∀ k,k < V.heap.size→¬ k=g→w2.heap[k]?=V.heap[k]?:=fun k hk hne => by
    rw [hgr.block k (Nat.lt_of_lt_of_le hk (below_alloc V o).size) (fun e => hne (by injection e))]
    exact (below_alloc V o).block k hk
   have hoW : ∀ k,k < W.heap.size→¬ k=g→w2.heap[k]?=W.heap[k]?:=fun k hk hne => (hot k (by omega) hne).trans (hVb.block k hk)
   have hXg : ¬ X=g:=fun e => hRW.apart hRW.own.fr (by decide) (g:=g) rfl e.symm
   have hbx : w2.heap[X]?=W.heap[X]?:=hoW X hXW hXg
   have hDl : D < V.heap.size:=(hrow.lt D rfl).2
   have ho2 : Own B w2 (.slice (some ⟨g',0,none⟩) (m + 1 + 1) cap') cv (rv ++ [.slice (some ⟨D,0,none⟩) nr nr]) xv (callS P R.s i):=by
    rw [hcallS]
    refine hRW.own.push ?_ ?_ (fun k hk => ?_) fun k _ hk hne => hoW k hk fun e => hne (by rw [e]; rfl)
    ·rw [hfl,ha,hb]; exact hown
    ·exact ownsRow_lower (ownsRow_block hrow fun k hk => by
      injection hk with hk
      subst hk
      exact hot D hDl (by have:=b0.size; omega)) hBW
    ·have hDk : D=k:=Option.some.inj (show some D=some k from hk)
     omega
   have hsd2 : w2.ownsRow B 3 1 sv R.said.length (R.said.map (Value.int .i64)):=ownsRow_block hRW.sd fun k hk => hoW k (hRW.sd.lt k hk).2 fun e => ownsRow_apart hRW.sd hRW.own.fr (by decide) hk (by rw [e]; rfl)
   have hbox:=hbx.trans hRW.box
   obtain ⟨_,k1,_,_,_,_,_,k7⟩:=hRW.cells
   refine ⟨(World.cell?_of_block (w:=W) (a:=⟨X,1,none⟩) hbx).trans k1,(World.frozen?_of_block (w:=W) (a:=⟨X,1,none⟩) hbx).trans (k7 1),?_,?_⟩
   ·have hb2:=heap_setCell_same w2 X 1 _ _ (.slice (some ⟨g',0,none⟩) (m + 1 + 1) cap') hbox
    have hk : ∀ k,¬ k=X→(w2.setCell ⟨X,1,none⟩ (.slice (some ⟨g',0,none⟩) (m + 1 + 1) cap')).heap[k]?=w2.heap[k]?:=fun k hk => Below.heap_setCell _ _ _ k hk
    rw [List.append_nil,Bool.or_false]
    refine ⟨_,_,sv,_,_,?_,ho2.setX hbox hk,?_,h.hX⟩
    ·exact hb2
    ·exact ownsRow_block hsd2 fun k hkk => hk k fun e => by
      obtain ⟨c,fz,q⟩:=Lib.ownsRow_kind hsd2 k hkk
      rw [e,hbox] at q
      injection q with q
      injection q with _ q _
      exact absurd q (by decide)
   ·have b2 : Below B V w2:=(((below_alloc V o).mono (Nat.le_trans hBW hVs)).drew).grown hgr (by show B≤(V.alloc o).heap.size; exact Nat.le_trans (Nat.le_trans hBW hVs) (below_alloc V o).size) (fun k hk => by injection hk with hk; omega)
    exact ((b0.mono hBw).trans ((hVb.mono hBW).trans b2)).setCell h.hX _
  ·rintro e w' ⟨rfl,hk⟩
   exact Or.inr ⟨_,rfl,rfl,hk.out.1,hk.out.2⟩
end Go.Proofs.YtfaokaohhchdhaaGreatDoor
