/- snap's reader, by the program: a state. -/
import Derived.Test.YtfaokaohhchdhaaGreatDoorPart29
namespace Go.Proofs.YtfaokaohhchdhaaGreatDoor
open Go.RowKit Go.Maps
theorem snFrs_len:∀(k:Nat) (r:SnRd),(snFrs k r).1.length=k
 | 0,_=>rfl
 | k+1,r=>by rw[snFrs];simp[snFrs_len k r]
theorem snCls_len:∀(k:Nat) (r:SnRd),(snCls k r).1.length=k
 | 0,_=>rfl
 | k+1,r=>by rw[snCls];simp[snCls_len k r]
theorem snC_le (most:Nat) (r:SnRd):(snC most r).1≤most:=by
 unfold snC;split<;>simp only[]<;>omega
set_option maxRecDepth 20000 in
set_option maxHeartbeats 4000000 in
theorem snStateC (R:Nat) (w:World) (r:SnRd) (h:RdAt R w r) :
  Calls Tryz.prog 77 #[.pointer (some ⟨R,0,none⟩)] w fun e w'=>∃fa fc ca cc,e=.returned (.agg #[.slice fa (snSta r).1.fs.length fc,.slice ca (snSta r).1.cs.length cc,.int .i64 (snSta r).1.st,.int .i64 (snSta r).1.wh]) ∧
   Hid (SOwn w.heap.size w' (.slice fa (snSta r).1.fs.length fc) (.slice ca (snSta r).1.cs.length cc) (snSta r).1)∧Hid (RdAt R w' (snSta r).2)∧Hid (But R w w'):=by
 have hR:Hid (R<w.heap.size):=h.lt
 obtain⟨W0,hW0⟩:∃W0,w.alloc (.cells #[.slice none 0 0,.slice none 0 0,.int .i64 0,.int .i64 0] 26)=W0:=⟨_,rfl⟩
 have HB0:Hid (Below w.heap.size w W0):=hW0 ▸ below_alloc w _
 have HS0:Hid (W0.heap.size=w.heap.size+1):=by show _=_;rw[←hW0];simp
 have HY0:Hid (Box4 26 w.heap.size W0 (.slice none 0 0) (.slice none 0 0) (.int .i64 0) (.int .i64 0)):=by
  show Box4 _ _ _ _ _ _ _
  unfold Box4
  rw[←hW0];exact heap_alloc_new w _
 have HNum:Hid (∀wi ri,RdAt R wi ri→Calls Tryz.prog 117 #[.pointer (some ⟨R,0,none⟩)] wi fun e w'=>e=.returned (.int .i64 (snN ri).1)∧Hid (RdAt R w' (snN ri).2)∧Hid (But R wi w')):=fun wi ri h=>snNumber R wi ri h
 have HCnt:Hid (∀(most:Nat) wi ri,RdAt R wi ri→Calls Tryz.prog 118 #[.pointer (some ⟨R,0,none⟩),.int .i64 most] wi fun e w'=>e=.returned (.int .i64 ((snC most ri).1:Nat))∧Hid (RdAt R w' (snC most ri).2)∧Hid (But R wi w')):=fun most wi ri h=>snCount R wi ri most h
 have HRow:Hid (∀(most:Nat) wi ri,most≤1000→RdAt R wi ri→Calls Tryz.prog 119 #[.pointer (some ⟨R,0,none⟩),.int .i64 most] wi fun e w'=>∃a c,e=.returned (.slice a (snRow most ri).1.length c)∧Hid (VRow wi.heap.size w' (.slice a (snRow most ri).1.length c) (snRow most ri).1)∧Hid (RdAt R w' (snRow most ri).2)∧Hid (But R wi w')):=fun most wi ri hm h=>snRowC R wi ri most hm h
 have HR0:Hid (RdAt R W0 r):=h.below HB0.out
 have HE:Hid (snSta r=(⟨(snFrs (snC 10 (snN (snN r).2).2).1 (snC 10 (snN (snN r).2).2).2).1,(snCls (snC 24 (snFrs (snC 10 (snN (snN r).2).2).1 (snC 10 (snN (snN r).2).2).2).2).1 (snC 24 (snFrs (snC 10 (snN (snN r).2).2).1 (snC 10 (snN (snN r).2).2).2).2).2).1,(snN r).1,(snN (snN r).2).1⟩,(snCls (snC 24 (snFrs (snC 10 (snN (snN r).2).2).1 (snC 10 (snN (snN r).2).2).2).2).1 (snC 24 (snFrs (snC 10 (snN (snN r).2).2).1 (snC 10 (snN (snN r).2).2).2).2).2).2)):=by show _=_;rfl
 have HA:Hid (Calls Tryz.prog 117 #[.pointer (some ⟨R,0,none⟩)] W0 fun e w'=>e=.returned (.int .i64 (snN r).1)∧Hid (RdAt R w' (snN r).2)∧Hid (But R W0 w')):=HNum.out _ _ HR0.out
 have HBn:Hid (∀wi,RdAt R wi (snN r).2→Calls Tryz.prog 117 #[.pointer (some ⟨R,0,none⟩)] wi fun e w'=>e=.returned (.int .i64 (snN (snN r).2).1)∧Hid (RdAt R w' (snN (snN r).2).2)∧Hid (But R wi w')):=fun wi h=>HNum.out _ _ h
 clear h
 generalize snSta r=z at *
 generalize (snN (snN r).2).1=b at *
 generalize (snN (snN r).2).2=r2 at *
 generalize (snN r).1=a at *
 generalize (snN r).2=r1 at *
 have hn10:(snC 10 r2).1≤10:=snC_le 10 r2
 have HC10:Hid (∀wi,RdAt R wi r2→Calls Tryz.prog 118 #[.pointer (some ⟨R,0,none⟩),.int .i64 10] wi fun e w'=>e=.returned (.int .i64 ((snC 10 r2).1:Nat))∧Hid (RdAt R w' (snC 10 r2).2)∧Hid (But R wi w')):=fun wi h=>HCnt.out 10 wi r2 h
 generalize (snC 10 r2).1=n at *
 generalize (snC 10 r2).2=rc at *
 go_enter Tryz.func77,Tryz.ntmps77
 go_upto_region 2 with (first
  | (go_at_call 117;refine (HBn.out _ HR1.out).mono ?_;rintro e w2 ⟨rfl,HR2,HB2⟩)
  | (go_at_call 117;refine HA.out.mono ?_;rintro e w1 ⟨rfl,HR1,HB1⟩))
 obtain⟨W3,hW3⟩:∃W3,w2.alloc (.cells #[.slice none 0 0,.slice none 0 0,.int .i64 a,.int .i64 b] 26)=W3:=⟨_,rfl⟩
 try rw[hW3]
 obtain⟨X,hX⟩:∃X,w2.heap.size=X:=⟨_,rfl⟩
 have HB02:Hid (But R w w2):=((But.of HB0.out).trans HB1.out).trans HB2.out
 have HXw:Hid (w.heap.size<X):=by show _<_;have:=HB1.out.size;have:=HB2.out.size;have:=HS0.out;omega
 have HB3:Hid (Below w2.heap.size w2 W3):=hW3 ▸ below_alloc w2 _
 have HIn:Hid (SIn R X w.heap.size w W3 (.slice none 0 0) (.slice none 0 0) [] [] ⟨[],[],a,b⟩ r2):=by
  refine⟨?_,?_,⟨⟨rfl,Or.inl ⟨rfl,rfl⟩⟩,⟨rfl,Or.inl ⟨rfl,rfl⟩⟩,rfl,fun i hi=>absurd hi (Nat.not_lt_zero _),fun i hi=>absurd hi (Nat.not_lt_zero _),fun i j u u' b h=>by simp at h,fun i j u u' b h=>by simp at h,fun i j u u' b h=>by simp at h⟩,HR2.out.below HB3.out,HB02.out.then (HB3.out.mono HB02.out.size)⟩
  ·show Box4 _ _ _ _ _ _ _
   unfold Box4
   rw[←hW3,←hX];exact heap_alloc_new w2 _
  ·have h1:=HY0.out.keep (HB1.out.block w.heap.size (Array.getElem?_eq_some_iff.1 HY0.out).1 (by have:=hR.out;omega))
   have h2:=h1.keep (HB2.out.block w.heap.size (Array.getElem?_eq_some_iff.1 h1).1 (by have:=hR.out;omega))
   exact h2.keep (HB3.out.block w.heap.size (Array.getElem?_eq_some_iff.1 h2).1)
 rw[hX]
 clear hW3 hX hW0 HB3 HB02 HR2 HB2 HR1 HB1 HA HBn
 have HCall:Hid (∀(fv cv:Value) (rv xv:List Value) (T:Sta) (wi wj:World) (ri rj:SnRd),SIn R X w.heap.size w wi fv cv rv xv T ri→But R wi wj→RdAt R wj rj→SIn R X w.heap.size w wj fv cv rv xv T rj):=fun fv cv rv xv T wi wj ri rj h hb hr=>h.call hR.out (Nat.le_of_lt HXw.out) (Nat.le_refl _) hb hr
 have HC10w:Hid (Calls Tryz.prog 118 #[.pointer (some ⟨R,0,none⟩),.int .i64 10] W3 fun e w'=>e=.returned (.int .i64 (n:Nat))∧Hid (RdAt R w' rc)∧Hid (But R W3 w')):=HC10.out W3 HIn.out.rd
 go_upto_region 3 with (first
  | (go_at_call 118;refine HC10w.out.mono ?_;rintro e w4 ⟨rfl,HR4,HB4⟩;have HI4:Hid (SIn R X w.heap.size w w4 (.slice none 0 0) (.slice none 0 0) [] [] ⟨[],[],a,b⟩ rc):=HCall.out _ _ _ _ _ _ _ _ _ HIn.out HB4.out HR4.out))
 clear HR4 HB4 HIn HC10 HC10w
 go_loopw [11] (fun i wr=>∃k:Nat,k≤n∧i=.int .i64 k∧Hid (∃fa fc rv,SIn R X w.heap.size w wr (.slice fa k fc) (.slice none 0 0) rv [] ⟨(snFrs k rc).1,[],a,b⟩ (snFrs k rc).2)) (fun i _=>n - (intOf i).toNat)
 case atStart=>exact⟨0,Nat.zero_le _,rfl,⟨none,0,[],HI4.out⟩⟩
 case round =>
  obtain⟨k,hk0,rfl,HEx⟩:=hrel
  obtain⟨fa,fc,rv,hI⟩:=HEx.out
  have HI:Hid (SIn R X w.heap.size w wr (.slice fa k fc) (.slice none 0 0) rv [] ⟨(snFrs k rc).1,[],a,b⟩ (snFrs k rc).2):=hI
  clear hI HEx
  by_cases hk:k<n
  ·have hki:(k:Int)<(n:Int):=by omega
   have HSucc:Hid (snFrs (k+1) rc=((snFrs k rc).1++[(snFrm (snFrs k rc).2).1],(snFrm (snFrs k rc).2).2)):=by show _=_;rfl
   have HLen:Hid ((snFrs k rc).1.length=k):=snFrs_len k rc
   generalize (snFrs k rc).1=fs at *
   generalize (snFrs k rc).2=rr at *
   have HFrm:Hid (snFrm rr=(⟨(snN rr).1,(snN (snN rr).2).1,(snRow 40 (snN (snN (snN rr).2).2).2).1,(snN (snN (snN rr).2).2).1⟩,(snRow 40 (snN (snN (snN rr).2).2).2).2)):=by show _=_;rfl
   have HN1:Hid (∀wi,RdAt R wi rr→Calls Tryz.prog 117 #[.pointer (some ⟨R,0,none⟩)] wi fun e w'=>e=.returned (.int .i64 (snN rr).1)∧Hid (RdAt R w' (snN rr).2)∧Hid (But R wi w')):=fun wi h=>HNum.out _ _ h
   have HN2:Hid (∀wi,RdAt R wi (snN rr).2→Calls Tryz.prog 117 #[.pointer (some ⟨R,0,none⟩)] wi fun e w'=>e=.returned (.int .i64 (snN (snN rr).2).1)∧Hid (RdAt R w' (snN (snN rr).2).2)∧Hid (But R wi w')):=fun wi h=>HNum.out _ _ h
   have HN3:Hid (∀wi,RdAt R wi (snN (snN rr).2).2→Calls Tryz.prog 117 #[.pointer (some ⟨R,0,none⟩)] wi fun e w'=>e=.returned (.int .i64 (snN (snN (snN rr).2).2).1)∧Hid (RdAt R w' (snN (snN (snN rr).2).2).2)∧Hid (But R wi w')):=fun wi h=>HNum.out _ _ h
   have HN4:Hid (∀wi,RdAt R wi (snN (snN (snN rr).2).2).2→Calls Tryz.prog 119 #[.pointer (some ⟨R,0,none⟩),.int .i64 40] wi fun e w'=>∃a c,e=.returned (.slice a (snRow 40 (snN (snN (snN rr).2).2).2).1.length c)∧Hid (VRow wi.heap.size w' (.slice a (snRow 40 (snN (snN (snN rr).2).2).2).1.length c) (snRow 40 (snN (snN (snN rr).2).2).2).1)∧Hid (RdAt R w' (snRow 40 (snN (snN (snN rr).2).2).2).2)∧Hid (But R wi w')):=fun wi h=>HRow.out 40 _ _ (by omega) h
   generalize (snRow 40 (snN (snN (snN rr).2).2).2).1=L at *
   generalize (snRow 40 (snN (snN (snN rr).2).2).2).2=q4 at *
   generalize (snN (snN (snN rr).2).2).1=x3 at *
   generalize (snN (snN (snN rr).2).2).2=q3 at *
   generalize (snN (snN rr).2).1=x2 at *
   generalize (snN (snN rr).2).2=q2 at *
   generalize (snN rr).1=x1 at *
   generalize (snN rr).2=q1 at *
   have HFrame:Hid (∀(wi wj wk:World) (u fv':Value) (o:Obj),SIn R X w.heap.size w wi (.slice fa k fc) (.slice none 0 0) rv [] ⟨fs,[],a,b⟩ q3→But R wi wj→RdAt R wj q4→VRow wi.heap.size wj u L→(wj.alloc o).grownBy wk (Value.slice fa k fc).ownBlock→wk.ownsRow w.heap.size 40 4 fv' (k+1) (flatF fs rv++[.int .i64 x1,.int .i64 x2,u,.int .i64 x3]) →
     (∃v,wk.cell? ⟨X,0,none⟩=some v)∧wk.frozen? ⟨X,0,none⟩=false∧SIn R X w.heap.size w (wk.setCell ⟨X,0,none⟩ fv') fv' (.slice none 0 0) (rv++[u]) [] ⟨fs++[⟨x1,x2,L,x3⟩],[],a,b⟩ q4):=fun wi wj wk u fv' o h4 b5 hr5 hu hg ho=>h4.frame hR.out (Nat.le_of_lt HXw.out) (Nat.le_refl _) (by have:=HXw.out;omega) b5 hr5 hu hg (by rw[HLen.out];exact ho)
   have HI0:Hid (SIn R X w.heap.size w wr.drew (.slice fa k fc) (.slice none 0 0) rv [] ⟨fs,[],a,b⟩ rr):=HI.out.draw
   have HCx:Hid (∀wi ri,SIn R X w.heap.size w wi (.slice fa k fc) (.slice none 0 0) rv [] ⟨fs,[],a,b⟩ ri→wi.cell? ⟨X,0,none⟩=some (.slice fa k fc)):=fun wi ri h=>h.box.at.1
   have xr:=HCx.out _ _ HI.out
   have hk1000:k≤1000:=by omega
   go_upto_region 4 with (fail)
   go_region_law (first
    | (refine step_frame _ rfl _ _ rfl w.heap.size k (.slice fa k fc) (flatF fs rv) x1 x2 x3 (.slice ua L.length uc) rfl (World.ownsRow.alloc HFr6.out _) _ rfl (heap_alloc_new _ _) rfl (by omega) (Nat.le_trans hs6 (below_alloc w6 _).size) ?_;intro g cap w7 hown hgr;obtain⟨⟨v7,c7⟩,f7,HI7⟩:=HF6 w7 _ _ _ HI3.out HB6.out HR6.out HU.out hgr.out hown.out)
    | (go_simp;go_wp2_with (first
     | (go_at_call 119;refine (HN4.out _ HI3.out.rd).mono ?_;rintro e w6 ⟨ua,uc,rfl,HU,HR6,HB6⟩;have HI6:Hid (SIn R X w.heap.size w w6 (.slice fa k fc) (.slice none 0 0) rv [] ⟨fs,[],a,b⟩ q4):=HCall.out _ _ _ _ _ _ _ _ _ HI3.out HB6.out HR6.out;have xr6:=HCx.out _ _ HI6.out;have xr6a:∀o:Obj,(w6.alloc o).cell? ⟨X,0,none⟩=some (.slice fa k fc):=fun o=>below_at (below_alloc w6 o) xr6;have HFr6:Hid (w6.ownsRow w.heap.size 40 4 (.slice fa k fc) k (flatF fs rv)):=(by have:=HI6.out.own.fr;rw[show (⟨fs,[],a,b⟩:Sta).fs.length=k from HLen.out]at this;exact this);have HF6:=HFrame.out w5 w6;have hs6:w.heap.size≤w6.heap.size:=HI6.out.but.size)
     | (go_at_call 117;refine (HN3.out _ HI2.out.rd).mono ?_;rintro e w5 ⟨rfl,HR5,HB5⟩;have HI3:Hid (SIn R X w.heap.size w w5 (.slice fa k fc) (.slice none 0 0) rv [] ⟨fs,[],a,b⟩ q3):=HCall.out _ _ _ _ _ _ _ _ _ HI2.out HB5.out HR5.out;have xr5:=HCx.out _ _ HI3.out)
     | (go_at_call 117;refine (HN2.out _ HI1.out.rd).mono ?_;rintro e w4 ⟨rfl,HR4,HB4⟩;have HI2:Hid (SIn R X w.heap.size w w4 (.slice fa k fc) (.slice none 0 0) rv [] ⟨fs,[],a,b⟩ q2):=HCall.out _ _ _ _ _ _ _ _ _ HI1.out HB4.out HR4.out;have xr4:=HCx.out _ _ HI2.out)
     | (go_at_call 117;refine (HN1.out _ HI0.out.rd).mono ?_;rintro e w3 ⟨rfl,HR3,HB3⟩;have HI1:Hid (SIn R X w.heap.size w w3 (.slice fa k fc) (.slice none 0 0) rv [] ⟨fs,[],a,b⟩ q1):=HCall.out _ _ _ _ _ _ _ _ _ HI0.out HB3.out HR3.out;have xr3:=HCx.out _ _ HI1.out))))
   all_goals
    clear xr xr3 xr4 xr5 xr6 xr6a HF6 c7 f7
    go_wp2_with (fail)
    go_roundw
    case rel=>exact⟨k+1,by omega,by go_num,⟨_,_,_,by rw[HSucc.out,HFrm.out];exact HI7⟩⟩
    case measure=>simp[intOf];omega
  ·obtain rfl:k=n:=by omega
   have HLen:Hid ((snFrs k rc).1.length=k):=snFrs_len k rc
   have hn24:(snC 24 (snFrs k rc).2).1≤24:=snC_le 24 _
   have HC24:Hid (Calls Tryz.prog 118 #[.pointer (some ⟨R,0,none⟩),.int .i64 24] wr fun e w'=>e=.returned (.int .i64 ((snC 24 (snFrs k rc).2).1:Nat))∧Hid (RdAt R w' (snC 24 (snFrs k rc).2).2)∧Hid (But R wr w')):=HCnt.out 24 wr _ HI.out.rd
   generalize (snC 24 (snFrs k rc).2).1=m at *
   generalize (snC 24 (snFrs k rc).2).2=rm at *
   generalize (snFrs k rc).1=fs at *
   generalize (snFrs k rc).2=rr at *
   go_upto_region 7 with (first
    | (go_at_call 118;refine HC24.out.mono ?_;rintro e w5 ⟨rfl,HR5,HB5⟩;have HI5:Hid (SIn R X w.heap.size w w5 (.slice fa k fc) (.slice none 0 0) rv [] ⟨fs,[],a,b⟩ rm):=HCall.out _ _ _ _ _ _ _ _ _ HI.out HB5.out HR5.out))
   clear HR5 HB5 HI HC24
   go_loopw [30] (fun i wr=>∃j:Nat,j≤m∧i=.int .i64 j∧Hid (∃ca cc xv,SIn R X w.heap.size w wr (.slice fa k fc) (.slice ca j cc) rv xv ⟨fs,(snCls j rm).1,a,b⟩ (snCls j rm).2)) (fun i _=>m - (intOf i).toNat)
   case atStart=>exact⟨0,Nat.zero_le _,rfl,⟨none,0,[],HI5.out⟩⟩
   case round =>
    obtain⟨j,hj0,rfl,HEx⟩:=hrel
    obtain⟨ca,cc,xv,hI⟩:=HEx.out
    have HI:Hid (SIn R X w.heap.size w wr (.slice fa k fc) (.slice ca j cc) rv xv ⟨fs,(snCls j rm).1,a,b⟩ (snCls j rm).2):=hI
    clear hI HEx
    by_cases hj:j<m
    ·have hji:(j:Int)<(m:Int):=by omega
     have HSucc:Hid (snCls (j+1) rm=((snCls j rm).1++[(snRow 4 (snCls j rm).2).1],(snRow 4 (snCls j rm).2).2)):=by show _=_;rfl
     have HLc:Hid ((snCls j rm).1.length=j):=snCls_len j rm
     generalize (snCls j rm).1=cs at *
     generalize (snCls j rm).2=q3 at *
     have HN4:Hid (∀wi,RdAt R wi q3→Calls Tryz.prog 119 #[.pointer (some ⟨R,0,none⟩),.int .i64 4] wi fun e w'=>∃a c,e=.returned (.slice a (snRow 4 q3).1.length c)∧Hid (VRow wi.heap.size w' (.slice a (snRow 4 q3).1.length c) (snRow 4 q3).1)∧Hid (RdAt R w' (snRow 4 q3).2)∧Hid (But R wi w')):=fun wi h=>HRow.out 4 _ _ (by omega) h
     generalize (snRow 4 q3).1=L at *
     generalize (snRow 4 q3).2=q4 at *
     have HCell:Hid (∀(wi wj wk:World) (u cv':Value) (o:Obj),SIn R X w.heap.size w wi (.slice fa k fc) (.slice ca j cc) rv xv ⟨fs,cs,a,b⟩ q3→But R wi wj→RdAt R wj q4→VRow wi.heap.size wj u L→(wj.alloc o).grownBy wk (Value.slice ca j cc).ownBlock→wk.ownsRow w.heap.size 35 1 cv' (j+1) (xv++[u]) →
       (∃v,wk.cell? ⟨X,1,none⟩=some v)∧wk.frozen? ⟨X,1,none⟩=false∧SIn R X w.heap.size w (wk.setCell ⟨X,1,none⟩ cv') (.slice fa k fc) cv' rv (xv++[u]) ⟨fs,cs++[L],a,b⟩ q4):=fun wi wj wk u cv' o h4 b5 hr5 hu hg ho=>h4.cell hR.out (Nat.le_of_lt HXw.out) (Nat.le_refl _) (by have:=HXw.out;omega) b5 hr5 hu hg (by rw[HLc.out];exact ho)
     have HI0:Hid (SIn R X w.heap.size w wr.drew (.slice fa k fc) (.slice ca j cc) rv xv ⟨fs,cs,a,b⟩ q3):=HI.out.draw
     have HCx:Hid (∀wi ri,SIn R X w.heap.size w wi (.slice fa k fc) (.slice ca j cc) rv xv ⟨fs,cs,a,b⟩ ri→wi.cell? ⟨X,1,none⟩=some (.slice ca j cc)):=fun wi ri h=>h.box.at.2.1
     have xr:=HCx.out _ _ HI.out
     go_upto_region 8 with (fail)
     go_region_law (first
      | (refine step_cell _ rfl _ _ rfl w.heap.size j (.slice ca j cc) xv (.slice ua L.length uc) rfl (World.ownsRow.alloc HCe6.out _) _ rfl (heap_alloc_new _ _) rfl (by omega) (Nat.le_trans hs6 (below_alloc w6 _).size) ?_;intro g cap w7 hown hgr;obtain⟨⟨v7,c7⟩,f7,HI7⟩:=HF6 w7 _ _ _ HI0.out HB6.out HR6.out HU.out hgr.out.1 hown.out)
      | (go_simp;go_wp2_with (first
       | (go_at_call 119;go_loud (refine (HN4.out _ HI0.out.rd).mono ?_);rintro e w6 ⟨ua,uc,rfl,HU,HR6,HB6⟩;have HI6:Hid (SIn R X w.heap.size w w6 (.slice fa k fc) (.slice ca j cc) rv xv ⟨fs,cs,a,b⟩ q4):=HCall.out _ _ _ _ _ _ _ _ _ HI0.out HB6.out HR6.out;have xr6:=HCx.out _ _ HI6.out;have xr6a:∀o:Obj,(w6.alloc o).cell? ⟨X,1,none⟩=some (.slice ca j cc):=fun o=>below_at (below_alloc w6 o) xr6;have HCe6:Hid (w6.ownsRow w.heap.size 35 1 (.slice ca j cc) j xv):=(by have:=HI6.out.own.ce;rw[show (⟨fs,cs,a,b⟩:Sta).cs.length=j from HLc.out]at this;exact this);have HF6:=HCell.out wr.drew w6;have hs6:w.heap.size≤w6.heap.size:=HI6.out.but.size))))
     all_goals
      clear xr xr6 xr6a HF6 c7 f7
      go_wp2_with (fail)
      go_roundw
      case rel=>exact⟨j+1,by omega,by go_num,⟨_,_,_,by rw[HSucc.out];exact HI7⟩⟩
      case measure=>simp[intOf];omega
    ·obtain rfl:j=m:=by omega
     have HLc:Hid ((snCls j rm).1.length=j):=snCls_len j rm
     generalize snCls j rm=cq at *
     obtain⟨cs,q⟩:=cq
     have HE2:Hid (z=(⟨fs,cs,a,b⟩,q)):=HE
     obtain⟨x0,x1,x2,x3,_⟩:=HI.out.box.at
     obtain⟨y0,y1,y2,y3,y4⟩:=HI.out.res.at
     have yf0:=y4 0
     have yf1:=y4 1
     have yf2:=y4 2
     have yf3:=y4 3
     clear y4
     obtain⟨W6,hW6,Bx6,bk,bs,bb,bkk⟩:=box_put (.slice fa k fc) (.slice ca j cc) (.int .i64 a) (.int .i64 b) HI.out.res
     have HFin:Hid (W6.heap[w.heap.size]?=some (.cells #[.slice fa k fc,.slice ca j cc,.int .i64 a,.int .i64 b] 26 (0,0))):=Bx6
     have HOw:Hid (SOwn w.heap.size W6 (.slice fa k fc) (.slice ca j cc) ⟨fs,cs,a,b⟩):=SOwn.keep ⟨rv,xv,HI.out.own⟩ bkk
     have HRd:Hid (RdAt R W6 q):=HI.out.rd.under (bb w.heap.size (Nat.le_refl _)) hR.out
     have HBt:Hid (But R w W6):=HI.out.but.then (bb w.heap.size (Nat.le_refl _))
     have HWe:=(show Hid _ from hW6)
     clear hW6 Bx6 bk bs bb bkk HI
     go_wp2_with (fail)
     rw[HWe.out]
     refine bodyPost_ret (results_cell_row rfl _ _ w.heap.size 26 _ (0,0) _ rfl HFin.out Tryz.underlying26 rfl (by kernel_rfl)) rfl ?_
     rw[HE2.out]
     have e1:fs.length=k:=HLen.out
     have e2:cs.length=j:=HLc.out
     refine⟨fa,fc,ca,cc,?_,?_,HRd,HBt⟩
     ·show _=Ending.returned (.agg #[.slice fa fs.length fc,.slice ca cs.length cc,.int .i64 a,.int .i64 b])
      rw[e1,e2]
     ·show SOwn _ _ (.slice fa fs.length fc) (.slice ca cs.length cc) _
      rw[e1,e2];exact HOw.out
end Go.Proofs.YtfaokaohhchdhaaGreatDoor
