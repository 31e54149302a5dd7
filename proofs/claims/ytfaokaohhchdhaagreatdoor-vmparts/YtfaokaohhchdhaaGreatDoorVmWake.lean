/- Wake; Run where something is wrong. -/
import Derived.Test.YtfaokaohhchdhaaGreatDoorPart20
import Derived.Test.YtfaokaohhchdhaaGreatDoorPart22
import Derived.Test.YtfaokaohhchdhaaGreatDoorVmSwpW
namespace Go.Proofs.YtfaokaohhchdhaaGreatDoor
open Go.RowKit Go.Maps
theorem box2 (w : World) (fv cv : Value) (st wh : Int) : ∃ W,(w.alloc (.cells #[fv,cv,.int .i64 st,.int .i64 wh] 26)).alloc (.cells #[.slice none 0 0,.slice none 0 0,.int .i64 0,.int .i64 0] 26)=W∧Below w.heap.size w W∧W.heap.size=w.heap.size + 2∧BoxXY w.heap.size W fv cv (.int .i64 st) (.int .i64 wh):=by
 obtain ⟨W1,hW1,b1,hsz1,i0,i1,i2,i3⟩:=sbox w fv cv st wh
 obtain ⟨W,hW⟩ : ∃ W,W1.alloc (.cells #[.slice none 0 0,.slice none 0 0,.int .i64 0,.int .i64 0] 26)=W:=⟨_,rfl⟩
 have b2 : Below W1.heap.size W1 W:=hW ▸ below_alloc W1 _
 refine ⟨W,by rw [hW1]; exact hW,below_step b1 b2,by rw [← hW]; simp; omega,?_,?_⟩
 ·unfold Box4
  rw [b2.block _ (by omega),← hW1]; exact heap_alloc_new w _
 ·unfold Box4
  rw [← hW,← hsz1]
  exact heap_alloc_new W1 _
theorem zeroY {Y : Nat} {w : World} (h : Box4 26 Y w (.slice none 0 0) (.slice none 0 0) (.int .i64 0) (.int .i64 0)) : ((((w.setCell ⟨Y,0,none⟩ (.slice none 0 0)).setCell ⟨Y,1,none⟩ (.slice none 0 0)).setCell ⟨Y,2,none⟩ (.int .i64 0)).setCell ⟨Y,3,none⟩ (.int .i64 0)).heap[Y]?=some (.cells #[.slice none 0 0,.slice none 0 0,.int .i64 0,.int .i64 0] 26 (0,0)):=by
 unfold Box4 at h
 have h1:=heap_setCell_same w Y 0 _ _ (.slice none 0 0) h
 have h2:=heap_setCell_same _ Y 1 _ _ (.slice none 0 0) h1
 have h3:=heap_setCell_same _ Y 2 _ _ (.int .i64 0) h2
 exact heap_setCell_same _ Y 3 _ _ (.int .i64 0) h3
theorem below4 {w w1 : World} {Y : Nat} {a b c d : Value} (h : Below w.heap.size w w1) (hY : w.heap.size≤Y) : Below w.heap.size w ((((w1.setCell ⟨Y,0,none⟩ a).setCell ⟨Y,1,none⟩ b).setCell ⟨Y,2,none⟩ c).setCell ⟨Y,3,none⟩ d):=(((h.setCell hY _).setCell hY _).setCell hY _).setCell hY _
set_option maxRecDepth 20000 in
set_option maxHeartbeats 4000000 in
theorem run_bad (pa : Option Addr) (np pc : Nat) (fa ca : Option Addr) (nf nc fc cc : Nat) (st wh fuel re : Int) (w W : World)
  (HW : Hid ((w.alloc (.cells #[.slice fa nf fc,.slice ca nc cc,.int .i64 st,.int .i64 wh] 26)).alloc (.cells #[.slice none 0 0,.slice none 0 0,.int .i64 0,.int .i64 0] 26)=W)) (HB : Hid (Below w.heap.size w W)) (HS : Hid (W.heap.size=w.heap.size + 2))
  (HX : Hid (BoxXY w.heap.size W (.slice fa nf fc) (.slice ca nc cc) (.int .i64 st) (.int .i64 wh)))
  (HChk : Hid (Calls Tryz.prog 44 #[.slice pa np pc,.agg #[.slice fa nf fc,.slice ca nc cc,.int .i64 st,.int .i64 wh],.int .i64 fuel] W fun e w' => e=.returned (.int .i64 re)∧Below W.heap.size W w')) (hre : (re != 0)=true) :
  Calls Tryz.prog 13 #[.slice pa np pc,.agg #[.slice fa nf fc,.slice ca nc cc,.int .i64 st,.int .i64 wh],.int .i64 fuel] w fun e w' => e=.returned (.tuple #[.agg #[.slice none 0 0,.slice none 0 0,.int .i64 0,.int .i64 0],.slice none 0 0,.int .i64 0,.int .i64 re])∧Hid (Below w.heap.size w w'):=by
 obtain ⟨s0,s1,s2,s3,s4⟩:=HX.out.at
 clear s4
 go_enter Tryz.func13,Tryz.ntmps13
 go_upto_region 1 with (fail)
 rw [HW.out]
 go_upto_region 3 with (go_at_call 44; refine HChk.out.mono ?_; rintro e w1 ⟨rfl,hb1⟩)
 have HY1 : Hid (Box4 26 (w.heap.size + 1) w1 (.slice none 0 0) (.slice none 0 0) (.int .i64 0) (.int .i64 0)):=HX.out.2.keep (hb1.block _ (by have:=HS.out; omega))
 obtain ⟨y0,y1,y2,y3,y4⟩:=HY1.out.at
 have y40:=y4 0
 have y41:=y4 1
 have y42:=y4 2
 have y43:=y4 3
 clear y4 s0 s1 s2 s3
 have HB1 : Hid (Below w.heap.size w w1):=below_step HB.out hb1
 have HF:=zeroY HY1.out
 have HF : Hid (((((w1.setCell ⟨w.heap.size + 1,0,none⟩ (.slice none 0 0)).setCell ⟨w.heap.size + 1,1,none⟩ (.slice none 0 0)).setCell ⟨w.heap.size + 1,2,none⟩ (.int .i64 0)).setCell ⟨w.heap.size + 1,3,none⟩ (.int .i64 0)).heap[w.heap.size + 1]?=some (.cells #[.slice none 0 0,.slice none 0 0,.int .i64 0,.int .i64 0] 26 (0,0))):=HF
 clear hb1
 go_wp2
 refine bodyPost_ret (results_row_tmp3 rfl _ _ (w.heap.size + 1) 26 _ (0,0) _ rfl HF.out Tryz.underlying26 rfl (by kernel_rfl)) rfl ?_
 exact ⟨rfl,below4 HB1.out (by omega)⟩
set_option maxRecDepth 20000 in
set_option maxHeartbeats 4000000 in
theorem wake_bad (pa : Option Addr) (np pc : Nat) (fa ca : Option Addr) (nf nc fc cc : Nat) (st wh re we : Int) (w W : World)
  (HW : Hid ((w.alloc (.cells #[.slice fa nf fc,.slice ca nc cc,.int .i64 st,.int .i64 wh] 26)).alloc (.cells #[.slice none 0 0,.slice none 0 0,.int .i64 0,.int .i64 0] 26)=W)) (HB : Hid (Below w.heap.size w W)) (HS : Hid (W.heap.size=w.heap.size + 2))
  (HX : Hid (BoxXY w.heap.size W (.slice fa nf fc) (.slice ca nc cc) (.int .i64 st) (.int .i64 wh)))
  (HChk : Hid (Calls Tryz.prog 20 #[.slice pa np pc,.agg #[.slice fa nf fc,.slice ca nc cc,.int .i64 st,.int .i64 wh]] W fun e w' => e=.returned (.int .i64 re)∧Below W.heap.size W w'))
  (hre : (re != 0)=true∧we=re∨re=0∧(st != 3)=true∧we=7) :
  Calls Tryz.prog 14 #[.slice pa np pc,.agg #[.slice fa nf fc,.slice ca nc cc,.int .i64 st,.int .i64 wh]] w fun e w' => e=noSta we∧Hid (Below w.heap.size w w'):=by
 obtain ⟨s0,s1,s2,s3,s4⟩:=HX.out.at
 clear s4
 have HK : Hid (∀ w1,Below W.heap.size W w1→BoxXY w.heap.size w1 (.slice fa nf fc) (.slice ca nc cc) (.int .i64 st) (.int .i64 wh)):=fun w1 hb => HX.out.keep fun k hk _ => hb.block k (by have:=HS.out; omega)
 rcases hre with ⟨hre,rfl⟩ | ⟨rfl,h3,rfl⟩
 ·go_enter Tryz.func14,Tryz.ntmps14
  go_upto_region 1 with (fail)
  rw [HW.out]
  go_upto_region 3 with (go_at_call 20; refine HChk.out.mono ?_; rintro e w1 ⟨rfl,hb1⟩)
  have HY1:=HK.out w1 hb1
  obtain ⟨y0,y1,y2,y3,y4⟩:=HY1.2.at
  have y40:=y4 0
  have y41:=y4 1
  have y42:=y4 2
  have y43:=y4 3
  have HB1 : Hid (Below w.heap.size w w1):=below_step HB.out hb1
  have HF : Hid (((((w1.setCell ⟨w.heap.size + 1,0,none⟩ (.slice none 0 0)).setCell ⟨w.heap.size + 1,1,none⟩ (.slice none 0 0)).setCell ⟨w.heap.size + 1,2,none⟩ (.int .i64 0)).setCell ⟨w.heap.size + 1,3,none⟩ (.int .i64 0)).heap[w.heap.size + 1]?=some (.cells #[.slice none 0 0,.slice none 0 0,.int .i64 0,.int .i64 0] 26 (0,0))):=zeroY HY1.2
  clear hb1 y4 s0 s1 s2 s3 HY1
  go_wp2
  refine bodyPost_ret (results_row_tmp rfl _ _ (w.heap.size + 1) 26 _ (0,0) _ rfl HF.out Tryz.underlying26 rfl (by kernel_rfl)) rfl ?_
  exact ⟨rfl,below4 HB1.out (by omega)⟩
 ·go_enter Tryz.func14,Tryz.ntmps14
  go_upto_region 1 with (fail)
  rw [HW.out]
  go_upto_region 4 with (go_at_call 20; refine HChk.out.mono ?_; rintro e w1 ⟨rfl,hb1⟩)
  have HY1:=HK.out w1 hb1
  obtain ⟨x0,x1,x2,x3,-⟩:=HY1.1.at
  obtain ⟨y0,y1,y2,y3,y4⟩:=HY1.2.at
  have y40:=y4 0
  have y41:=y4 1
  have y42:=y4 2
  have y43:=y4 3
  have HB1 : Hid (Below w.heap.size w w1):=below_step HB.out hb1
  have HF : Hid (((((w1.setCell ⟨w.heap.size + 1,0,none⟩ (.slice none 0 0)).setCell ⟨w.heap.size + 1,1,none⟩ (.slice none 0 0)).setCell ⟨w.heap.size + 1,2,none⟩ (.int .i64 0)).setCell ⟨w.heap.size + 1,3,none⟩ (.int .i64 0)).heap[w.heap.size + 1]?=some (.cells #[.slice none 0 0,.slice none 0 0,.int .i64 0,.int .i64 0] 26 (0,0))):=zeroY HY1.2
  clear hb1 y4 s0 s1 s2 s3 HY1
  go_wp2
  refine bodyPost_ret (results_row_tmp rfl _ _ (w.heap.size + 1) 26 _ (0,0) _ rfl HF.out Tryz.underlying26 rfl (by kernel_rfl)) rfl ?_
  exact ⟨rfl,below4 HB1.out (by omega)⟩
set_option maxRecDepth 20000 in
set_option maxHeartbeats 4000000 in
theorem wake_good (pa : Option Addr) (np pc : Nat) (fa ca : Option Addr) (nf nc fc cc : Nat) (wh : Int) (S : Sta) (w W : World)
  (HW : Hid ((w.alloc (.cells #[.slice fa nf fc,.slice ca nc cc,.int .i64 3,.int .i64 wh] 26)).alloc (.cells #[.slice none 0 0,.slice none 0 0,.int .i64 0,.int .i64 0] 26)=W)) (HB : Hid (Below w.heap.size w W)) (HS : Hid (W.heap.size=w.heap.size + 2))
  (HX : Hid (BoxXY w.heap.size W (.slice fa nf fc) (.slice ca nc cc) (.int .i64 3) (.int .i64 wh)))
  (HChk : Hid (Calls Tryz.prog 20 #[.slice pa np pc,.agg #[.slice fa nf fc,.slice ca nc cc,.int .i64 3,.int .i64 wh]] W fun e w' => e=.returned (.int .i64 0)∧Below W.heap.size W w'))
  (HCp : Hid (∀ wi,Below W.heap.size W wi→Calls Tryz.prog 45 #[.agg #[.slice fa nf fc,.slice ca nc cc,.int .i64 3,.int .i64 wh]] wi fun e w' => ∃ a c b d rv xv,e=.returned (.agg #[.slice a nf c,.slice b nc d,.int .i64 3,.int .i64 wh])∧Hid (Own wi.heap.size w' (.slice a nf c) (.slice b nc d) rv xv S)∧Hid (Below wi.heap.size wi w'))) :
  Calls Tryz.prog 14 #[.slice pa np pc,.agg #[.slice fa nf fc,.slice ca nc cc,.int .i64 3,.int .i64 wh]] w (StaPost w ⟨S.fs,S.cs,0,0⟩):=by
 obtain ⟨s0,s1,s2,s3,s4⟩:=HX.out.at
 clear s4
 have HK : Hid (∀ w1,Below W.heap.size W w1→BoxXY w.heap.size w1 (.slice fa nf fc) (.slice ca nc cc) (.int .i64 3) (.int .i64 wh)):=fun w1 hb => HX.out.keep fun k hk _ => hb.block k (by have:=HS.out; omega)
 go_enter Tryz.func14,Tryz.ntmps14
 go_upto_region 1 with (fail)
 rw [HW.out]
 go_upto_region 8 with (first
  | (go_at_call 20; refine HChk.out.mono ?_; rintro e w1 ⟨rfl,hb1⟩; have HY1:=HK.out w1 hb1; obtain ⟨x0,x1,x2,x3,-⟩:=HY1.1.at)
  | (go_at_call 45; refine (HCp.out _ hb1).mono ?_; rintro e w2 ⟨a,c,b,d,rv,xv,rfl,HO2,HB2⟩; have HY2:=HK.out w2 (below_step hb1 HB2.out); obtain ⟨z0,z1,z2,z3,z4⟩:=HY2.1.at; have z40:=z4 0; have z41:=z4 1; have z42:=z4 2; have z43:=z4 3; clear z4))
 clear x0 x1 x2 x3 z0 z1 z2 z3 z40 z41 z42 z43 s0 s1 s2 s3 HChk HX
 have hV:=HY2.set4 (.slice a nf c) (.slice b nc d) (.int .i64 3) (.int .i64 wh)
 obtain ⟨hv1,hv2⟩:=hV
 unfold Box4 at hv1
 have e5:=heap_setCell_same _ w.heap.size 2 _ _ (.int .i64 0) hv1
 have e6:=heap_setCell_same _ w.heap.size 3 _ _ (.int .i64 0) e5
 have HXV : Hid (BoxXY w.heap.size ((((((w2.setCell ⟨w.heap.size,0,none⟩ (.slice a nf c)).setCell ⟨w.heap.size,1,none⟩ (.slice b nc d)).setCell ⟨w.heap.size,2,none⟩ (.int .i64 3)).setCell ⟨w.heap.size,3,none⟩ (.int .i64 wh)).setCell ⟨w.heap.size,2,none⟩ (.int .i64 0)).setCell ⟨w.heap.size,3,none⟩ (.int .i64 0)) (.slice a nf c) (.slice b nc d) (.int .i64 0) (.int .i64 0)) :=
  ⟨e6,hv2.keep ((Below.heap_setCell _ _ _ _ (by show ¬ w.heap.size + 1=w.heap.size; omega)).trans (Below.heap_setCell _ _ _ _ (by show ¬ w.heap.size + 1=w.heap.size; omega)))⟩
 have HW2 : Hid (W.heap.size≤w1.heap.size):=hb1.size
 have HBV : Hid (Below w.heap.size w ((((((w2.setCell ⟨w.heap.size,0,none⟩ (.slice a nf c)).setCell ⟨w.heap.size,1,none⟩ (.slice b nc d)).setCell ⟨w.heap.size,2,none⟩ (.int .i64 3)).setCell ⟨w.heap.size,3,none⟩ (.int .i64 wh)).setCell ⟨w.heap.size,2,none⟩ (.int .i64 0)).setCell ⟨w.heap.size,3,none⟩ (.int .i64 0))) :=
  ((below4 (below_step HB.out (below_step hb1 HB2.out)) (Nat.le_refl _)).setCell (Nat.le_refl _) _).setCell (Nat.le_refl _) _
 have HOV : Hid (Own (w.heap.size + 2) ((((((w2.setCell ⟨w.heap.size,0,none⟩ (.slice a nf c)).setCell ⟨w.heap.size,1,none⟩ (.slice b nc d)).setCell ⟨w.heap.size,2,none⟩ (.int .i64 3)).setCell ⟨w.heap.size,3,none⟩ (.int .i64 wh)).setCell ⟨w.heap.size,2,none⟩ (.int .i64 0)).setCell ⟨w.heap.size,3,none⟩ (.int .i64 0)) (.slice a nf c) (.slice b nc d) rv xv S):=by
  have h1 : w.heap.size + 2≤w1.heap.size:=by have:=HW2.out; have:=HS.out; omega
  refine (HO2.out.stay fun k hk _ => ?_).lower h1
  have hne : ¬ k=w.heap.size:=by omega
  exact ((Below.heap_setCell _ _ _ _ hne).trans (Below.heap_setCell _ _ _ _ hne)).trans (set4_heap hne)
 clear hb1 hv1 hv2 e5 e6 HY1 HY2 HO2 HB2 HW2
 generalize (((((w2.setCell ⟨w.heap.size,0,none⟩ (.slice a nf c)).setCell ⟨w.heap.size,1,none⟩ (.slice b nc d)).setCell ⟨w.heap.size,2,none⟩ (.int .i64 3)).setCell ⟨w.heap.size,3,none⟩ (.int .i64 wh)).setCell ⟨w.heap.size,2,none⟩ (.int .i64 0)).setCell ⟨w.heap.size,3,none⟩ (.int .i64 0)=V at *
 obtain ⟨x0,x1,x2,x3,-⟩:=HXV.out.1.at
 obtain ⟨y0,y1,y2,y3,y4⟩:=HXV.out.2.at
 have y40:=y4 0
 have y41:=y4 1
 have y42:=y4 2
 have y43:=y4 3
 clear y4
 have HF : Hid (((((V.setCell ⟨w.heap.size + 1,0,none⟩ (.slice a nf c)).setCell ⟨w.heap.size + 1,1,none⟩ (.slice b nc d)).setCell ⟨w.heap.size + 1,2,none⟩ (.int .i64 0)).setCell ⟨w.heap.size + 1,3,none⟩ (.int .i64 0)).heap[w.heap.size + 1]?=some (.cells #[.slice a nf c,.slice b nc d,.int .i64 0,.int .i64 0] 26 (0,0))):=by
  have h0:=HXV.out.2
  unfold Box4 at h0
  have h1:=heap_setCell_same V (w.heap.size + 1) 0 _ _ (.slice a nf c) h0
  have h2:=heap_setCell_same _ (w.heap.size + 1) 1 _ _ (.slice b nc d) h1
  have h3:=heap_setCell_same _ (w.heap.size + 1) 2 _ _ (.int .i64 0) h2
  exact heap_setCell_same _ (w.heap.size + 1) 3 _ _ (.int .i64 0) h3
 go_wp2
 refine bodyPost_ret (results_row_tmp rfl _ _ (w.heap.size + 1) 26 _ (0,0) _ rfl HF.out Tryz.underlying26 rfl (by kernel_rfl)) rfl ?_
 refine ⟨a,nf,c,b,nc,d,rv,xv,rfl,?_,below4 HBV.out (by omega)⟩
 have hO:=HOV.out.stay (w':=((((V.setCell ⟨w.heap.size + 1,0,none⟩ (.slice a nf c)).setCell ⟨w.heap.size + 1,1,none⟩ (.slice b nc d)).setCell ⟨w.heap.size + 1,2,none⟩ (.int .i64 0)).setCell ⟨w.heap.size + 1,3,none⟩ (.int .i64 0))) fun k hk _ => set4_heap (by omega)
 have hO2:=hO.lower (B':=w.heap.size) (by omega)
 exact ⟨hO2.fr,hO2.ce,hO2.rl,hO2.regs,hO2.cells,hO2.rr,hO2.xx,hO2.rx⟩
theorem wakeP {np : Nat} {P : Nat→Pc} (M : Nat) (vp fv cv : Value) (S : Sta) (w : World) (hM : M≤w.heap.size) (hp : ProcsAt M w vp np P) (hs : StaAt w fv cv S) (hv : vmErr np P S=0) (h3 : S.st=3) :
  Calls Tryz.prog 14 #[vp,staV fv cv S.st S.wh] w (StaPost w ⟨S.fs,S.cs,0,0⟩):=by
 obtain ⟨hc,hok,_⟩:=vmErr_right hv
 obtain ⟨pa,pc,rfl,_⟩:=id hp
 obtain ⟨fa,fc,rfl,_⟩:=id hs.1
 obtain ⟨ca,cc,rfl,_⟩:=id hs.2
 obtain ⟨W,hW,b0,hsz,hX⟩:=box2 w (.slice fa S.fs.length fc) (.slice ca S.cs.length cc) S.st S.wh
 have hCk:=vmCheck M _ _ _ np P S W (Nat.le_trans hM b0.size) (hp.below (b0.mono hM)) (hs.below b0)
 have hCp:=fun wi (hw : Below W.heap.size W wi) => copied S _ _ wi (hs.below (below_step b0 hw)) hc hok
 rw [hv] at hCk
 unfold staV at hCk ⊢
 rw [h3] at hW hX hCk hCp ⊢
 refine wake_good pa np pc fa ca _ _ fc cc S.wh S w W hW b0 hsz hX hCk fun wi hw => ?_
 refine (hCp wi hw).mono ?_
 rintro e w' ⟨fv',cv',rv,xv,rfl,ho,hb⟩
 obtain ⟨a,c,rfl⟩:=own_shape ho.out.fr
 obtain ⟨b,d,rfl⟩:=own_shape ho.out.ce
 exact ⟨a,c,b,d,rv,xv,rfl,ho,hb⟩
theorem newP {np : Nat} {P : Nat→Pc} (M : Nat) (vp : Value) (w : World) (hM : M≤w.heap.size) (hp : ProcsAt M w vp np P) (he : codeErr np P=0) :
  Calls Tryz.prog 12 #[vp] w (StaPost w ⟨[⟨0,0,List.replicate (P 0).regs.toNat (0,0),0⟩],[],0,0⟩):=by
 have hc:=codeErr_right he
 have h0:=hc.n0
 obtain ⟨pb,poo,pc,cb,co,cc,_,_,rfl,hpb,hcb,p1,_⟩:=hp.ins (k:=0) (by omega) (j:=0) (by have:=hc.c0 0 (by omega); omega)
 have hr1:=hc.r1 0 (by omega)
 have hr2:=hc.r0 0 (by omega)
 obtain ⟨n,hn⟩:=nat_of (show 0≤(P 0).regs by omega)
 rw [hn,Int.toNat_natCast]
 rw [hn] at p1
 obtain ⟨W,hW⟩ : ∃ W,w.alloc (.cells #[.slice none 0 0,.slice none 0 0,.int .i64 0,.int .i64 0] 26)=W:=⟨_,rfl⟩
 have b0 : Below w.heap.size w W:=hW ▸ below_alloc w _
 have hCk:=codeCheck M _ np P W (Nat.le_trans hM b0.size) (hp.below (b0.mono hM))
 rw [he] at hCk
 exact vmNew_good pb poo np pc n w W hW hCk (by show Box4 _ _ _ _ _ _ _; unfold Box4; rw [← hW]; exact heap_alloc_new w _) (by show _ < _; rw [← hW]; simp) b0 (fun wi hw => by
  have:=below_at (below_step b0 hw) p1
  simpa using this) (by omega) (by omega)
end Go.Proofs.YtfaokaohhchdhaaGreatDoor
