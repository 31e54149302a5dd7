/- DiskKeeps: the law over memory. -/
import Derived.Test.YtfaggdkiffhdbaaDoorLawDKb
namespace Go.Proofs.YtfaggdkiffhdbaaDoor
open Go.RowKit Go.Maps

set_option maxRecDepth 20000 in
set_option maxHeartbeats 1500000 in
theorem diskKeeps (N : Nat) (w : World) (he : NEnv N w) (hN : N≤w.heap.size) (la ma : Option Addr) (lc mc : Nat) (l m : List Rc) (k : Int) (hl : RecsL w.heap.size w la lc l) (hm : RecsL w.heap.size w ma mc m) :
  Calls Tryd.prog 4 #[.slice la l.length lc,.slice ma m.length mc,.int .i64 k] w fun e w' => e=.returned (.bool true)∧Hid (Below w.heap.size w w'):=by
 have HE : Hid (∀ wk,Below w.heap.size w wk→NEnv N wk∧N≤wk.heap.size∧RecsL w.heap.size wk la lc l∧RecsL w.heap.size wk ma mc m):=fun wk hk => ⟨he.below (hk.mono hN),Nat.le_trans hN hk.size,hl.below hk,hm.below hk⟩
 have HF : Hid (Calls Tryd.prog 13 #[] w fun e w' => e=.returned (.bool true)∧Below w.heap.size w w'):=filed N w hN he
 -- what comes of it,plain
 obtain ⟨A,hA1,hA2,hA3,hA4⟩:=kRun_ok (l.take 5) [] (fun r hr => hl.i64 r (List.mem_of_mem_take hr)) (by simp [lnsR])
 obtain ⟨B,hB1,hB2,hB3,hB4⟩:=kRun_ok (m.take 5) A (fun r hr => hm.i64 r (List.mem_of_mem_take hr)) (by simp [lnsR] at hA4; omega)
 have ha5 : A.length≤5:=by rw [List.length_take] at hA3; omega
 have hb5 : B.length≤5:=by rw [List.length_take] at hB3; omega
 have hs1 : (lnsR A).length≤60000:=by simp [lnsR] at hA4; omega
 have hsy:=sync_good A hA2 (by omega) hs1
 obtain ⟨kk,hkk⟩ : ∃ kk : Nat,k % (((lnsR B).length + 1 : Nat) : Int)=(kk : Int):=⟨(k % (((lnsR B).length + 1 : Nat) : Int)).toNat,by have:=Int.emod_nonneg k (b:=(((lnsR B).length + 1 : Nat) : Int)) (by omega); omega⟩
 have hkl : kk≤(lnsR B).length:=by
  have:=Int.emod_lt_of_pos k (b:=(((lnsR B).length + 1 : Nat) : Int)) (by omega)
  omega
 have hcr:=crash_good A B kk hA2 (by omega) hB4 hkl
 obtain ⟨mm,hmm,hr1,hr2,hr3⟩:=recover_good A B kk hA2 hB2 (by omega) hB4
 have hB6 : (lnsR B).length≤60000:=by omega
 have hLl : (A ++ B.take mm).length=A.length + mm:=by rw [List.length_append,List.length_take]; omega
 -- contracts
 have HK1 : Hid (∀ X wk,w.heap.size≤X→Below w.heap.size w wk→BoxD X wk (.slice none 0 0) (.slice none 0 0)→Calls Tryd.prog 14 #[.slice la l.length lc,.pointer (some ⟨X,0,none⟩)] wk fun e w' => ∃ a c,e=.returned (.slice a A.length c)∧Hid (KP w.heap.size X wk (⟨[],lnsR A⟩,A) (.slice a A.length c) w')):=fun X wk hX hk hb => by
  obtain ⟨h1,h2,h3,_⟩:=HE.out wk hk
  have:=keepPut N w.heap.size X wk dk0 la lc l none none 0 0 h1 (Nat.le_trans hN hX) hX hb (DiskT.none _) ⟨by simp [dk0],by simp [dk0]⟩ h3
  rw [show kRun dk0 (l.take 5)=(⟨[],lnsR A⟩,A) from hA1] at this
  refine this.mono ?_
  rintro e w' ⟨a,c,n,rfl,hn,hp⟩
  have hn:=hn.out
  subst hn
  exact ⟨a,c,rfl,hp⟩
 have HK2 : Hid (∀ X wk sa sc wa wc,w.heap.size≤X→Below w.heap.size w wk→BoxD X wk (.slice sa (lnsR A).length sc) (.slice wa 0 wc)→DiskT wk sa sc wa wc ⟨lnsR A,[]⟩→Calls Tryd.prog 14 #[.slice ma m.length mc,.pointer (some ⟨X,0,none⟩)] wk fun e w' => ∃ a c,e=.returned (.slice a B.length c)∧Hid (KP w.heap.size X wk (⟨lnsR A,lnsR B⟩,B) (.slice a B.length c) w')):=fun X wk sa sc wa wc hX hk hb ht => by
  obtain ⟨h1,h2,_,h3⟩:=HE.out wk hk
  have:=keepPut N w.heap.size X wk ⟨lnsR A,[]⟩ ma mc m sa wa sc wc h1 (Nat.le_trans hN hX) hX hb ht ⟨by simp only []; omega,by simp⟩ h3
  rw [hB1] at this
  refine this.mono ?_
  rintro e w' ⟨a,c,n,rfl,hn,hp⟩
  have hn:=hn.out
  subst hn
  exact ⟨a,c,rfl,hp⟩
 have HS : Hid (∀ sa sc wa wc wk,Below w.heap.size w wk→DiskT wk sa sc wa wc ⟨[],lnsR A⟩→Calls Tryd.prog 16 #[.agg #[.slice sa 0 sc,.slice wa (lnsR A).length wc]] wk (DkK wk ⟨lnsR A,[]⟩ 0)):=fun sa sc wa wc wk hk hd => by
  obtain ⟨h1,h2,_⟩:=HE.out wk hk
  have:=dSyncC N wk.heap.size ⟨[],lnsR A⟩ sa wa sc wc wk h1 h2 (Nat.le_refl _) hd.in ⟨by simp,by simp only []; omega⟩
  rw [hsy] at this
  exact this
 have HAt : Hid (∀ wk,Calls Tryd.prog 18 #[.int .i64 k,.int .i64 (((lnsR B).length : Int) + 1)] wk fun e w' => e=.returned (.int .i64 kk)∧w'=wk):=fun wk => by
  have:=lawAt k ((lnsR B).length + 1) (by omega) (by omega) wk
  rw [hkk,show (((lnsR B).length + 1 : Nat) : Int)=((lnsR B).length : Int) + 1 by omega] at this
  exact this
 have HC : Hid (∀ sa sc wa wc wk,Below w.heap.size w wk→DiskT wk sa sc wa wc ⟨lnsR A,lnsR B⟩→Calls Tryd.prog 17 #[.agg #[.slice sa (lnsR A).length sc,.slice wa (lnsR B).length wc],.int .i64 kk] wk (DkK wk ⟨lnsR A,(lnsR B).take kk⟩ 0)):=fun sa sc wa wc wk hk hd => by
  obtain ⟨h1,h2,_⟩:=HE.out wk hk
  have:=dCrashC N wk.heap.size ⟨lnsR A,lnsR B⟩ kk sa wa sc wc wk h1 h2 (Nat.le_refl _) hd.in ⟨by simp only []; omega,by simp only []; omega⟩
  rw [hcr] at this
  exact this
 have HR1 : Hid (∀ sa sc wa wc wk,Below w.heap.size w wk→DiskT wk sa sc wa wc ⟨lnsR A,(lnsR B).take kk⟩→Calls Tryd.prog 19 #[.agg #[.slice sa (lnsR A).length sc,.slice wa ((lnsR B).take kk).length wc]] wk (DkRK wk ⟨lnsR (A ++ B.take mm),[]⟩ (A ++ B.take mm) 0)):=fun sa sc wa wc wk hk hd => by
  obtain ⟨h1,h2,_⟩:=HE.out wk hk
  have:=dRecoverC N wk.heap.size ⟨lnsR A,(lnsR B).take kk⟩ sa wa sc wc wk h1 h2 (Nat.le_refl _) hd.in ⟨by simp only []; omega,by simp only [List.length_take]; omega⟩
  rw [hr1] at this
  exact this
 have HR2 : Hid (∀ sa sc wa wc wk,Below w.heap.size w wk→DiskT wk sa sc wa wc ⟨lnsR (A ++ B.take mm),[]⟩→Calls Tryd.prog 19 #[.agg #[.slice sa (lnsR (A ++ B.take mm)).length sc,.slice wa 0 wc]] wk (DkRK wk ⟨lnsR (A ++ B.take mm),[]⟩ (A ++ B.take mm) 0)):=fun sa sc wa wc wk hk hd => by
  obtain ⟨h1,h2,_⟩:=HE.out wk hk
  have:=dRecoverC N wk.heap.size ⟨lnsR (A ++ B.take mm),[]⟩ sa wa sc wc wk h1 h2 (Nat.le_refl _) hd.in ⟨by simp only []; omega,by simp⟩
  rw [hr2] at this
  exact this
 have HTk : Hid ((A ++ B).take (A.length + mm)=A ++ B.take mm):=by
  show _=_
  rw [List.take_append,List.take_of_length_le (by omega),Nat.add_sub_cancel_left]
 have HLl : Hid ((A ++ B.take mm).length=A.length + mm):=hLl
 have HB60 : Hid ((lnsR B).length≤60000):=hB6
 have HAB : Hid (A.length≤5∧B.length≤5∧mm≤B.length):=⟨ha5,hb5,hmm⟩
 clear hl hm hA1 hA2 hA3 hA4 hB1 hB2 hB3 hB4 hs1 hsy hkk hkl hcr hr1 hr2 hr3 hB6 hLl he ha5 hb5 hmm
 generalize hL : A ++ B.take mm=L at *
 clear hL
 generalize lnsR L=tL at *
 generalize hT4 : (lnsR B).take kk=t4 at *
 clear hT4
 generalize lnsR A=tA at *
 generalize lnsR B=tB at *
 obtain ⟨nA,hnA⟩ : ∃ n,A.length=n:=⟨_,rfl⟩
 obtain ⟨nB,hnB⟩ : ∃ n,B.length=n:=⟨_,rfl⟩
 obtain ⟨sL,hsL⟩ : ∃ n,tL.length=n:=⟨_,rfl⟩
 obtain ⟨s4,hs4⟩ : ∃ n,t4.length=n:=⟨_,rfl⟩
 obtain ⟨sA,hsA⟩ : ∃ n,tA.length=n:=⟨_,rfl⟩
 obtain ⟨sB,hsB⟩ : ∃ n,tB.length=n:=⟨_,rfl⟩
 have HLn : Hid (tL.length=sL∧t4.length=s4∧tA.length=sA∧tB.length=sB∧A.length=nA∧B.length=nB):=⟨hsL,hs4,hsA,hsB,hnA,hnB⟩
 simp only [hnA,hnB,hsL,hs4,hsA,hsB] at HK1 HK2 HS HAt HC HR1 HR2 HTk HLl HAB HB60
 clear hnA hnB hsL hs4 hsA hsB
 obtain ⟨nL,hnL⟩ : ∃ nL,nA + mm=nL:=⟨_,rfl⟩
 obtain ⟨ha5,hb5,hmm⟩:=HAB.out
 have hb60:=HB60.out
 clear HB60
 have hl1 : nA≤nL:=by omega
 have hl2 : nL≤nA + nB:=by omega
 rw [hnL] at HTk HLl
 clear hnL hmm HAB mm
 have HK : Hid (∀ (W : World) (d : Dk) (nn mm : Nat) (e : Ending) (w' : World),d.safe.length=nn→d.wait.length=mm→DkK W d 0 e w'→∃ sa sc wa wc,e=.returned (.tuple #[.agg #[.slice sa nn sc,.slice wa mm wc],.int .i64 0])∧Hid (DiskT w' sa sc wa wc d)∧Hid (Below W.heap.size W w')):=fun W d nn mm e w' h1 h2 h => by
  subst h1 h2
  exact h
 have HKr : Hid (∀ (W : World) (e : Ending) (w' : World),DkRK W ⟨tL,[]⟩ L 0 e w'→∃ sa sc wa wc la lc,e=.returned (.tuple #[.agg #[.slice sa sL sc,.slice wa 0 wc],.slice la nL lc,.int .i64 0])∧Hid (DiskT w' sa sc wa wc ⟨tL,[]⟩)∧Hid (∀ wk,Below w'.heap.size w' wk→RecsL wk.heap.size wk la lc L)∧Hid (Below W.heap.size W w')):=fun W e w' h => by
  obtain ⟨sa,sc,wa,wc,la,lc,R,rfl,h1,h2,h3,h4⟩:=h
  obtain ⟨C,h2⟩:=h2.out
  refine ⟨sa,sc,wa,wc,la,lc,?_,h1,fun wk hk => ?_,h4⟩
  ·rw [← HLn.out.1,← HLl.out]; rfl
  ·have:=(h2.below hk).list
   rw [h3.out] at this
   exact this
 have HEq : Hid (∀ wk a1 c1 a2 c2,RecsL wk.heap.size wk a1 c1 L→RecsL wk.heap.size wk a2 c2 L→Calls Tryd.prog 20 #[.slice a1 nL c1,.slice a2 nL c2,.func (.func 10) #[] #[]] wk fun e w' => e=.returned (.bool true)∧Below wk.heap.size wk w'):=fun wk a1 c1 a2 c2 h1 h2 => by
  have:=eqRecsR wk.heap.size a1 a2 c1 c2 L L wk (Nat.le_refl _) h1 h2
  rw [HLl.out,eqRs_iff.2 rfl] at this
  exact this
 have HSame : Hid (∀ wk sa sc wa wc sb sbc wb wbc,DiskT wk sa sc wa wc ⟨tL,[]⟩→DiskT wk sb sbc wb wbc ⟨tL,[]⟩→Calls Tryd.prog 22 #[.agg #[.slice sa sL sc,.slice wa 0 wc],.agg #[.slice sb sL sbc,.slice wb 0 wbc]] wk fun e w' => e=.returned (.bool true)∧Below wk.heap.size wk w'):=fun wk sa sc wa wc sb sbc wb wbc h1 h2 => by
  have:=dSameC wk.heap.size ⟨tL,[]⟩ ⟨tL,[]⟩ sa wa sb wb sc wc sbc wbc wk (Nat.le_refl _) h1.in h2.in
  rw [dkEq_iff.2 rfl,HLn.out.1] at this
  exact this
 have HCat : Hid (∀ wk a ac b bc,w.heap.size≤wk.heap.size→PutL w.heap.size nA wk (.slice a nA ac) A→PutL w.heap.size nB wk (.slice b nB bc) B→Calls Tryd.prog 21 #[.slice (some ⟨wk.heap.size,0,none⟩) 2 2] (wk.alloc (.cells #[.slice a nA ac,.slice b nB bc] 34)) fun e w' => ∃ x c,e=.returned (.slice x (nA + nB : Nat) c)∧Hid (∀ w2,Below w'.heap.size w' w2→RecsL w2.heap.size w2 x c L)∧Hid (∀ w2,(Instr.slice 34 (.slice x (nA + nB : Nat) c) none (some (.int .i64 (nL : Nat))) none).run Tryd.prog w2=.ok (.slice x nL c) w2)∧Hid (Below wk.heap.size wk w')):=fun wk a ac b bc hk h1 h2 => by
  refine (cat2 w.heap.size wk hk a b nA nB ac bc A B h1 h2 (by omega) _ rfl).mono ?_
  rintro e w' ⟨x,c,rfl,h3,h4,h5⟩
  refine ⟨x,c,rfl,fun w2 hb => ?_,fun w2 => ls_to x _ c nL (by have:=h4.out.1; omega) h4.out.2.1 h4.out.2.2 w2,h5⟩
  have:=(h3.out.take nL)
  rw [HTk.out] at this
  exact (this.below hb).up hb.size
 go_enter Tryd.func4,Tryd.ntmps4
 go_upto_region 3 with (go_at_call 13; refine HF.out.mono ?_; rintro e w1 ⟨rfl,hb1⟩)
 go_upto_region 4 with (fail)
 obtain ⟨W1,hW1⟩ : ∃ W1,w1.alloc (.cells #[.slice none 0 0,.slice none 0 0] 37)=W1:=⟨_,rfl⟩
 try rw [hW1]
 have HX1 : Hid (BoxD w1.heap.size W1 (.slice none 0 0) (.slice none 0 0)):=by
  show BoxD _ _ _ _
  rw [← hW1]; exact heap_alloc_new w1 _
 have HW1 : Hid (Below w.heap.size w W1):=by
  show Below _ _ _
  rw [← hW1]; exact below_step hb1 (below_alloc w1 _)
 have HXs : Hid (w.heap.size≤w1.heap.size):=hb1.size
 obtain ⟨X,hX⟩ : ∃ X,w1.heap.size=X:=⟨_,rfl⟩
 rw [hX] at HX1 HXs ⊢
 clear hW1 hX hb1
 go_upto_region 5 with (fail)
 go_upto_region 6 with (go_at_call 14; refine (HK1.out X W1 HXs.out HW1.out HX1.out).mono ?_; rintro e w2 ⟨aA,cA,rfl,HP⟩)
 obtain ⟨RA,sa1,sc1,wa1,wc1,HA1,HA1m,HA1r,HX2,HT2,HB2,HK2p⟩:=HP.out
 have HW2 : Hid (Below w.heap.size w w2):=HW1.out.trans (HB2.out.mono HXs.out)
 have HPA2 : Hid (PutL w.heap.size nA w2 (.slice aA nA cA) A):=by
  have hlen : RA.length=nA:=by
   have:=congrArg List.length HA1m.out
   rw [List.length_map] at this
   exact this.trans HLn.out.2.2.2.2.1
  refine ⟨W1.heap.size,RA,?_,hlen,HA1m.out,HA1r.out⟩
  rw [← hlen]; rw [← hlen] at HA1; exact HA1.out
 have HX2' : Hid (BoxD X w2 (.slice sa1 0 sc1) (.slice wa1 sA wc1)):=by
  show BoxD _ _ _ _
  rw [← HLn.out.2.2.1]; exact HX2.out
 clear HX2 HK2p HA1 HA1m HA1r HP HB2
 obtain ⟨i0,i1,_⟩:=HX2'.out.at
 go_upto_region 7 with (go_at_call 16; refine (HS.out _ _ _ _ w2 HW2.out HT2.out).mono ?_; intro e w3 hp; obtain ⟨sb,sbc,wb,wbc,rfl,HD3,HB3⟩:=HK.out _ _ sA 0 e w3 HLn.out.2.2.1 rfl hp; obtain ⟨y0,y1,yf⟩:=(HX2'.out.below HB3.out).at; have f0:=yf 0; have f1:=yf 1)
 obtain ⟨W3,hW3,HF3,hb3,hk3⟩:=boxD_put (HX2'.out.below HB3.out) (.slice sb sA sbc) (.slice wb 0 wbc)
 try rw [hW3]
 have HX3 : Hid (BoxD X W3 (.slice sb sA sbc) (.slice wb 0 wbc)):=HF3
 have HT3 : Hid (DiskT W3 sb sbc wb wbc ⟨tA,[]⟩):=HD3.out.keep (hk3 5 (by decide))
 have HW3 : Hid (Below w.heap.size w W3):=(HW2.out.trans (HB3.out.mono HW2.out.size)).trans (hb3 _ HXs.out)
 have HPA3 : Hid (PutL w.heap.size nA W3 (.slice aA nA cA) A):=(HPA2.out.keep (Keeps.of HB3.out) (HB3.out.mono HW2.out.size)).keep (hk3 24 (by decide)) (hb3 _ HXs.out)
 clear hW3 HF3 hb3 hk3 i0 i1 y0 y1 yf f0 f1 HX2' HT2 HD3 HB3 HPA2
 go_upto_region 10 with (go_at_call 14; refine (HK2.out X W3 sb sbc wb wbc HXs.out HW3.out HX3.out HT3.out).mono ?_; rintro e w4 ⟨aB,cB,rfl,HP⟩)
 obtain ⟨RB,sa4,sc4,wa4,wc4,HA1,HA1m,HA1r,HX4,HT4,HB4,HK4p⟩:=HP.out
 have HW4 : Hid (Below w.heap.size w w4):=HW3.out.trans (HB4.out.mono HXs.out)
 have HPA4 : Hid (PutL w.heap.size nA w4 (.slice aA nA cA) A):=HPA3.out.keep HK4p.out (HB4.out.mono HXs.out)
 have HPB4 : Hid (PutL w.heap.size nB w4 (.slice aB nB cB) B):=by
  have hlen : RB.length=nB:=by
   have:=congrArg List.length HA1m.out
   rw [List.length_map] at this
   exact this.trans HLn.out.2.2.2.2.2
  refine ⟨W3.heap.size,RB,?_,hlen,HA1m.out,HA1r.out⟩
  rw [← hlen]; rw [← hlen] at HA1; exact HA1.out
 have HX4' : Hid (BoxD X w4 (.slice sa4 sA sc4) (.slice wa4 sB wc4)):=by
  show BoxD _ _ _ _
  rw [← HLn.out.2.2.1,← HLn.out.2.2.2.1]; exact HX4.out
 clear HX4 HK4p HA1 HA1m HA1r HP HB4 HPA3 HX3 HT3
 obtain ⟨i0,i1,_⟩:=HX4'.out.at
 have HX4d : Hid (BoxD X w4.drew (.slice sa4 sA sc4) (.slice wa4 sB wc4)):=HX4'.out
 have HT4d : Hid (DiskT w4.drew sa4 sc4 wa4 wc4 ⟨tA,tB⟩):=HT4.out.below (Below.refl _ _).drew
 go_cut [10] from 32 to 42 (fun q wx => q=.int .i64 0∧∃ sa sc wa wc,Hid (BoxD X wx (.slice sa sA sc) (.slice wa s4 wc))∧Hid (DiskT wx sa sc wa wc ⟨tA,t4⟩)∧Hid (Below w.heap.size w wx)∧Hid (PutL w.heap.size nA wx (.slice aA nA cA) A)∧Hid (PutL w.heap.size nB wx (.slice aB nB cB) B))
 case first =>
  go_region_with (first
   | (go_at_call 17; refine (HC.out _ _ _ _ _ HW4.out.drew HT4d.out).mono ?_; intro e w5 hp; obtain ⟨sb5,sbc5,wb5,wbc5,rfl,HD5,HB5⟩:=HK.out _ _ sA s4 e w5 HLn.out.2.2.1 HLn.out.2.1 hp; obtain ⟨y0,y1,yf⟩:=(HX4d.out.below HB5.out).at; have f0:=yf 0; have f1:=yf 1)
   | (go_at_call 18; refine ((Go.IntWalk.i64_in ((sB : Int) + 1) (by omega)).symm ▸ HAt.out w4.drew).mono ?_; rintro e w' ⟨rfl,rfl⟩))
  all_goals
   obtain ⟨W5,hW5,HF5,hb5,hk5⟩:=boxD_put (HX4d.out.below HB5.out) (.slice sb5 sA sbc5) (.slice wb5 s4 wbc5)
   have HB45 : Hid (Below w4.heap.size w4 w5):=((Below.refl _ w4).drew).trans HB5.out
   have HX5 : Hid (BoxD X W5 (.slice sb5 sA sbc5) (.slice wb5 s4 wbc5)):=HF5
   have HT5 : Hid (DiskT W5 sb5 sbc5 wb5 wbc5 ⟨tA,t4⟩):=HD5.out.keep (hk5 5 (by decide))
   have HW5 : Hid (Below w.heap.size w W5):=(HW4.out.trans (HB45.out.mono HW4.out.size)).trans (hb5 _ HXs.out)
   have HPA5 : Hid (PutL w.heap.size nA W5 (.slice aA nA cA) A):=(HPA4.out.keep (Keeps.of HB45.out) (HB45.out.mono HW4.out.size)).keep (hk5 24 (by decide)) (hb5 _ HXs.out)
   have HPB5 : Hid (PutL w.heap.size nB W5 (.slice aB nB cB) B):=(HPB4.out.keep (Keeps.of HB45.out) (HB45.out.mono HW4.out.size)).keep (hk5 24 (by decide)) (hb5 _ HXs.out)
   try rw [hW5]
   clear hW5 HF5 hb5 hk5 i0 i1 y0 y1 yf f0 f1 HD5 HB5 HB45
   go_wp2_with (fail)
   go_meet
   case rel => exact ⟨rfl,sb5,sbc5,wb5,wbc5,HX5,HT5,HW5,HPA5,HPB5⟩
 case rest =>
  obtain ⟨rfl,sa,sc,wa,wcc,HX5,HT5,HW5,HPA5,HPB5⟩:=hcut
  clear i0 i1 HX4d HT4d HX4' HT4 HW4 HPA4 HPB4
  obtain ⟨i0,i1,_⟩:=HX5.out.at
  go_upto_region 13 with (fail)
  go_upto_region 14 with (go_at_call 19; refine (HR1.out _ _ _ _ wc HW5.out HT5.out).mono ?_; intro e w6 hp; obtain ⟨ra,rc,rb,rbc,la6,lc6,rfl,HT6,HL6,HB6⟩:=HKr.out _ e w6 hp)
  obtain ⟨W6,hW6⟩ : ∃ W6,w6.alloc (.cells #[.slice ra sL rc,.slice rb 0 rbc] 37)=W6:=⟨_,rfl⟩
  try rw [hW6]
  have hb6 : Below w6.heap.size w6 W6:=hW6 ▸ below_alloc w6 _
  have HX6 : Hid (BoxD w6.heap.size W6 (.slice ra sL rc) (.slice rb 0 rbc)):=by
   show BoxD _ _ _ _
   rw [← hW6]; exact heap_alloc_new w6 _
  have HB56 : Hid (Below wc.heap.size wc W6):=below_step HB6.out hb6
  have HT6' : Hid (DiskT W6 ra rc rb rbc ⟨tL,[]⟩):=HT6.out.below hb6
  have HW6 : Hid (Below w.heap.size w W6):=HW5.out.trans (HB56.out.mono HW5.out.size)
  have HPA6 : Hid (PutL w.heap.size nA W6 (.slice aA nA cA) A):=HPA5.out.keep (Keeps.of HB56.out) (HB56.out.mono HW5.out.size)
  have HPB6 : Hid (PutL w.heap.size nB W6 (.slice aB nB cB) B):=HPB5.out.keep (Keeps.of HB56.out) (HB56.out.mono HW5.out.size)
  have HL6' : Hid (∀ wk,Below W6.heap.size W6 wk→RecsL wk.heap.size wk la6 lc6 L):=fun wk hk => HL6.out wk (below_step hb6 hk)
  obtain ⟨Y,hY⟩ : ∃ Y,w6.heap.size=Y:=⟨_,rfl⟩
  rw [hY] at HX6 ⊢
  clear hW6 hb6 hY HL6 HT6 HB56 HB6 i0 i1 HX5 HT5 HW5 HPA5 HPB5
  go_upto_region 16 with (first
   | (go_at_call 20; refine (HEq.out _ _ _ _ _ (HL6'.out _ hb7) (HLx.out _ (Below.refl _ _))).mono ?_; rintro e w8 ⟨rfl,hb8'⟩; have hb8:=below_step hb7 hb8'; clear hb8')
   | (go_at_call 21; refine (HCat.out W6 _ _ _ _ HW6.out.size HPA6.out HPB6.out).mono ?_; rintro e w7 ⟨xa,xc,rfl,HLx,HSx,hb7'⟩; have hb7:=hb7'.out; have hsx:=HSx.out))
  clear hsx HSx HLx hb7 hb7'
  have HX8 : Hid (BoxD Y w8 (.slice ra sL rc) (.slice rb 0 rbc)):=HX6.out.below hb8
  have HT8 : Hid (DiskT w8 ra rc rb rbc ⟨tL,[]⟩):=HT6'.out.below hb8
  have HW8 : Hid (Below w.heap.size w w8):=below_step HW6.out hb8
  have HL8 : Hid (∀ wk,Below w8.heap.size w8 wk→RecsL wk.heap.size wk la6 lc6 L):=fun wk hk => HL6'.out wk (below_step hb8 hk)
  clear hb8 HX6 HT6' HW6 HL6' HPA6 HPB6
  obtain ⟨i0,i1,_⟩:=HX8.out.at
  go_upto_region 17 with (go_at_call 19; refine (HR2.out _ _ _ _ w8 HW8.out HT8.out).mono ?_; intro e w9 hp; obtain ⟨sa9,sc9,wa9,wc9,la9,lc9,rfl,HT9,HL9,HB9⟩:=HKr.out _ e w9 hp)
  obtain ⟨W9,hW9⟩ : ∃ W9,w9.alloc (.cells #[.slice sa9 sL sc9,.slice wa9 0 wc9] 37)=W9:=⟨_,rfl⟩
  try rw [hW9]
  have hb9 : Below w9.heap.size w9 W9:=hW9 ▸ below_alloc w9 _
  have HX9 : Hid (BoxD w9.heap.size W9 (.slice sa9 sL sc9) (.slice wa9 0 wc9)):=by
   show BoxD _ _ _ _
   rw [← hW9]; exact heap_alloc_new w9 _
  have HB89 : Hid (Below w8.heap.size w8 W9):=below_step HB9.out hb9
  have HT9' : Hid (DiskT W9 sa9 sc9 wa9 wc9 ⟨tL,[]⟩):=HT9.out.below hb9
  have HT8' : Hid (DiskT W9 ra rc rb rbc ⟨tL,[]⟩):=HT8.out.below HB89.out
  have HX8' : Hid (BoxD Y W9 (.slice ra sL rc) (.slice rb 0 rbc)):=HX8.out.below HB89.out
  have HW9 : Hid (Below w.heap.size w W9):=HW8.out.trans (HB89.out.mono HW8.out.size)
  have HL9' : Hid (∀ wk,Below W9.heap.size W9 wk→RecsL wk.heap.size wk la9 lc9 L∧RecsL wk.heap.size wk la6 lc6 L):=fun wk hk => ⟨HL9.out wk (below_step hb9 hk),HL8.out wk (below_step HB89.out hk)⟩
  obtain ⟨Z,hZ⟩ : ∃ Z,w9.heap.size=Z:=⟨_,rfl⟩
  rw [hZ] at HX9 ⊢
  clear hW9 hb9 hZ HL9 HT9 HB89 HB9 i0 i1 HX8 HT8 HW8 HL8
  obtain ⟨i0,i1,_⟩:=HX8'.out.at
  obtain ⟨j0,j1,_⟩:=HX9.out.at
  go_wp2_with (first
   | (go_at_call 20; refine (HEq.out _ _ _ _ _ (HL9'.out _ hb10).1 (HL9'.out _ hb10).2).mono ?_; rintro e w11 ⟨rfl,hb11'⟩; have hb11:=below_step hb10 hb11'; clear hb11'; obtain ⟨k0,k1,_⟩:=(HX8'.out.below hb11).at)
   | (go_at_call 22; refine (HSame.out _ _ _ _ _ _ _ _ _ HT9'.out HT8'.out).mono ?_; rintro e w10 ⟨rfl,hb10⟩))
  go_ret
  exact ⟨rfl,HW9.out.trans (hb11.mono HW9.out.size)⟩

end Go.Proofs.YtfaggdkiffhdbaaDoor
