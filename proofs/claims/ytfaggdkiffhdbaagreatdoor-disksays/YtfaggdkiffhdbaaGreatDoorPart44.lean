/- The reckoning's CheckDisk, SameDisk, Synced. -/
import Derived.Test.YtfaggdkiffhdbaaGreatDoorDiskOps2
import Derived.Test.YtfaggdkiffhdbaaGreatDoorDiskRef
import Derived.Test.YtfaggdkiffhdbaaGreatDoorDiskOps4
import Derived.Test.YtfaggdkiffhdbaaGreatDoorRTxt
import Derived.Deep.RegionHeld3
namespace Go.Proofs.YtfaggdkiffhdbaaGreatDoor
open Go.RowKit Go.Maps

set_option maxRecDepth 20000 in
set_option maxHeartbeats 2000000 in
/-- CheckDisk. -/
theorem rCheckDisk (N M : Nat) (d : Dk) (sa wa : Option Addr) (sc wc : Nat) (w : World) (he : NEnv N w) (hN : N≤w.heap.size) (hM : M≤w.heap.size) (h : DiskIn M w sa sc wa wc d) (hs : DSmall d) :
  Calls Tryz.prog 8 #[.agg #[.slice sa d.safe.length sc,.slice wa d.wait.length wc]] w fun e w' => e=.returned (.int .i64 (dErr d))∧Below w.heap.size w w':=by
 obtain ⟨W,hW,HB,_,i0,i1⟩:=dbox w (.slice sa d.safe.length sc) (.slice wa d.wait.length wc)
 have HBW : Hid (Below w.heap.size w W):=HB
 obtain ⟨s1,s2⟩:=hs
 by_cases hm1 : 60000 < d.safe.length
 ·have HE : Hid (dErr d=2):=by show _=_; unfold dErr; rw [if_pos (by omega)]
  have hmi : (60000 : Int) < (d.safe.length : Int):=by omega
  clear h hm1 HB
  generalize d.safe.length=n1 at *
  generalize d.wait.length=n2 at *
  go_enter Tryz.func8,Tryz.ntmps8
  go_upto_region 1 with (fail)
  try rw [hW]
  go_wp2_with (fail)
  go_ret
  exact ⟨by rw [HE.out]; rfl,HBW.out⟩
 by_cases hm : 60000 - d.safe.length < d.wait.length
 ·have HE : Hid (dErr d=2):=by show _=_; unfold dErr; rw [if_pos (by omega)]
  have hmi : (60000 : Int) - (d.safe.length : Int) < (d.wait.length : Int):=by omega
  have hmj : ¬ (60000 : Int) < (d.safe.length : Int):=by omega
  clear h hm hm1 HB
  generalize d.safe.length=n1 at *
  generalize d.wait.length=n2 at *
  go_enter Tryz.func8,Tryz.ntmps8
  go_upto_region 1 with (fail)
  try rw [hW]
  go_wp2_with (fail)
  go_ret
  exact ⟨by rw [HE.out]; rfl,HBW.out⟩
 ·have HE : Hid (dErr d=(dRead 120 d.safe).2.2):=by show _=_; unfold dErr; rw [if_neg (by omega)]
  have hmi : ¬ (60000 : Int) - (d.safe.length : Int) < (d.wait.length : Int):=by omega
  have hmj : ¬ (60000 : Int) < (d.safe.length : Int):=by omega
  have HR : Hid (Calls Tryz.prog 22 #[.string (bs d.safe),.int .i64 120] W fun e w' => ∃ x y,e=.returned (.tuple #[x,y,.int .i64 (dErr d)])∧Below W.heap.size W w'):=by
   refine (linesC N W (he.below (HB.mono hN)) (Nat.le_trans hN HB.size) d.safe (by omega) 120 (Nat.le_refl _)).mono ?_
   rintro e w' ⟨la,lc,L,rfl,_,_,hb⟩
   exact ⟨_,_,by rw [HE.out],hb⟩
  have hcv:=conv_bytes (h.1.below (HB.mono hM))
  clear h hm hm1 HB he hN hM
  generalize bs d.safe=st at *
  generalize d.safe.length=n1 at *
  generalize d.wait.length=n2 at *
  generalize dErr d=de at *
  go_enter Tryz.func8,Tryz.ntmps8
  go_upto_region 1 with (fail)
  try rw [hW]
  go_wp2_with (go_at_call 22; refine HR.out.mono ?_; rintro e w1 ⟨x,y,rfl,hb1⟩)
  go_ret
  exact ⟨rfl,below_step HBW.out hb1⟩

set_option maxHeartbeats 2000000 in
/-- SameDisk. -/
theorem rSameDisk (N : Nat) (d x : Dk) (sa wa sb wb : Option Addr) (sc wc sbc wbc : Nat) (w : World) (hN : N≤w.heap.size) (h1 : DiskIn N w sa sc wa wc d) (h2 : DiskIn N w sb sbc wb wbc x) :
  Calls Tryz.prog 12 #[.agg #[.slice sa d.safe.length sc,.slice wa d.wait.length wc],.agg #[.slice sb x.safe.length sbc,.slice wb x.wait.length wbc]] w fun e w' => e=.returned (.bool (dkEq d x))∧Below w.heap.size w w':=by
 obtain ⟨W,hW,HB,HX⟩:=two_dbox w (.slice sa d.safe.length sc) (.slice wa d.wait.length wc) (.slice sb x.safe.length sbc) (.slice wb x.wait.length wbc)
 have k1:=h1.below (HB.out.mono hN)
 have k2:=h2.below (HB.out.mono hN)
 have HE1 : Hid (Calls Tryz.prog 24 #[.slice sa d.safe.length sc,.slice sb x.safe.length sbc] W fun e w' => e=.returned (.bool (decide (d.safe=x.safe)))∧Below W.heap.size W w'):=eqBytes W k1.1 k2.1
 have HE2 : Hid (∀ wk,Below W.heap.size W wk→Calls Tryz.prog 24 #[.slice wa d.wait.length wc,.slice wb x.wait.length wbc] wk fun e w' => e=.returned (.bool (decide (d.wait=x.wait)))∧Below wk.heap.size wk w'):=fun wk hk => eqBytes wk (k1.2.below (hk.mono (Nat.le_trans hN HB.out.size))) (k2.2.below (hk.mono (Nat.le_trans hN HB.out.size)))
 have HQ : Hid (dkEq d x=(decide (d.safe=x.safe) && decide (d.wait=x.wait))):=by show _=_; rfl
 obtain ⟨i0,i1,j0,j1⟩:=HX.out W (Below.refl _ _)
 clear h1 h2 k1 k2
 generalize dkEq d x=bq at *
 generalize hbs : decide (d.safe=x.safe)=bs at *
 generalize hbi : decide (d.wait=x.wait)=bi at *
 clear hbs hbi
 generalize d.safe.length=n1 at *
 generalize d.wait.length=n2 at *
 generalize x.safe.length=n3 at *
 generalize x.wait.length=n4 at *
 cases bs with
 | true =>
  have hq : Hid (bq=bi):=by show _=_; rw [HQ.out]; rfl
  go_enter Tryz.func12,Tryz.ntmps12
  go_upto_region 1 with (fail)
  try rw [hW]
  go_wp2_with (first
   | (have hd:=hdone; go_at_call 24; refine (HE2.out w6 hw6).mono ?_; rintro e w7 ⟨rfl,hw7⟩)
   | (go_at_call 24; refine HE1.out.mono ?_; rintro e w6 ⟨rfl,hw6⟩; have hdone:=True.intro; obtain ⟨m0,m1,m2,m3⟩:=HX.out w6 hw6))
  go_ret
  exact ⟨ret_bool hq.out.symm,below_step HB.out (below_step hw6 hw7)⟩
 | false =>
  have hq : Hid (bq=false):=by show _=_; rw [HQ.out]; rfl
  go_enter Tryz.func12,Tryz.ntmps12
  go_upto_region 1 with (fail)
  try rw [hW]
  go_wp2_with (go_at_call 24; refine HE1.out.mono ?_; rintro e w6 ⟨rfl,hw6⟩)
  go_ret
  exact ⟨ret_bool hq.out.symm,below_step HB.out hw6⟩

/-- What is handed back: a disk,and a number; all that was is as it was. -/
def DkL (w : World) (d : Dk) (er : Int) (e : Ending) (w' : World) : Prop :=
 ∃ sa sc wa wc,e=.returned (.tuple #[.agg #[.slice sa d.safe.length sc,.slice wa d.wait.length wc],.int .i64 er])∧Hid (DiskIn w'.heap.size w' sa sc wa wc d)∧Hid (Below w.heap.size w w')
theorem DkL.nothing {w w' : World} {er : Int} (hb : Below w.heap.size w w') : DkL w dk0 er (.returned (.tuple #[.agg #[.slice none 0 0,.slice none 0 0],.int .i64 er])) w' :=
 ⟨none,0,none,0,rfl,DiskIn.none _ _,hb⟩
theorem boxD_other {X Y : Nat} {w : World} {sv wv a b : Value} (hn : ¬ Y=X) (h : BoxD Y w sv wv) : BoxD Y ((w.setCell ⟨X,0,none⟩ a).setCell ⟨X,1,none⟩ b) sv wv:=by
 unfold BoxD at *
 rw [heap_setCell_other _ _ _ _ hn,heap_setCell_other _ _ _ _ hn]
 exact h

theorem rTextE (N M : Nat) (r : Rc) (sc ic : Nat) (sa ia : Option Addr) (w : World) (hN : N≤w.heap.size) (he : NEnv N w) (hM : M≤w.heap.size) (h : RecIn M w sa sc ia ic r) (hk : (Lit.int .i64 r.kind).wf=true) :
  Calls Tryz.prog 25 #[.agg #[.int .i64 r.kind,.int .i64 r.co,.int .i64 r.ep,.int .i64 r.pl,.slice sa r.says.length sc,.slice ia r.img.length ic]] w fun e w' => e=.returned (.tuple #[.string (rcText r),.int .i64 (recErr r)])∧Below w.heap.size w w':=by
 have hck : RCk r sa sc ia ic:=fun wk => rCheck r sc ic sa ia wk hk
 by_cases h0 : recErr r=0
 ·rw [rcText_ok h0,h0]
  exact rTextC N M r sc ic sa ia w hN he hM h.1 h.2 hck h0
 ·unfold rcText
  rw [if_neg h0]
  exact rTextBad r sc ic sa ia w hck h0

set_option maxRecDepth 20000 in
set_option maxHeartbeats 3000000 in
/-- Synced. -/
theorem rSynced (N M : Nat) (d : Dk) (sa wa : Option Addr) (sc wc : Nat) (w : World) (he : NEnv N w) (hN : N≤w.heap.size) (hM : M≤w.heap.size) (h : DiskIn M w sa sc wa wc d) (h0 : dErr d=0) :
  Calls Tryz.prog 14 #[.agg #[.slice sa d.safe.length sc,.slice wa d.wait.length wc]] w (DkL w (dSyncR d).2 (dSyncR d).1):=by
 obtain ⟨W,hW,HBW,HY⟩:=dtwo w (.slice sa d.safe.length sc) (.slice wa d.wait.length wc)
 have HEn : Hid (∀ wk,Below w.heap.size w wk→NEnv N wk∧N≤wk.heap.size∧M≤wk.heap.size∧DiskIn M wk sa sc wa wc d):=fun wk hb => ⟨he.below (hb.mono hN),Nat.le_trans hN hb.size,Nat.le_trans hM hb.size,h.below (hb.mono hM)⟩
 have hlen:=(dErr_zero h0).1
 have HCat : Hid (∀ B,W.heap.size=B→Calls Tryz.prog 20 #[.slice (some ⟨B,0,none⟩) 2 2] (W.alloc (.cells #[.slice sa d.safe.length sc,.slice wa d.wait.length wc] 22)) fun e w' => ∃ x c,e=.returned (.slice x (syncD d).safe.length c)∧Hid (∃ D,BS D w' (.slice x (syncD d).safe.length c) (syncD d).safe)∧Hid (Below W.heap.size W w')):=fun B hB => by
  obtain ⟨_,_,h3,h4⟩:=HEn.out W HBW.out
  exact concat2 M W h3 sa wa sc wc d.safe d.wait h4.1 h4.2 (by omega) B hB
 have HCk2 : Hid (∀ x c wk,Below w.heap.size w wk→(∃ D,BS D wk (.slice x (syncD d).safe.length c) (syncD d).safe)→Calls Tryz.prog 8 #[.agg #[.slice x (syncD d).safe.length c,.slice none 0 0]] wk fun e w' => e=.returned (.int .i64 (dErr (syncD d)))∧Below wk.heap.size wk w'):=fun x c wk hk ⟨D,hb⟩ => by
  obtain ⟨h1,h2,_⟩:=HEn.out wk hk
  exact rCheckDisk N wk.heap.size (syncD d) x none c 0 wk h1 h2 (Nat.le_refl _) ⟨own_bytesL hb,BytesL.none _ _⟩ ⟨by unfold syncD; simp only [List.length_append]; omega,by unfold syncD; simp⟩
 have HRs : Hid (dSyncR d=if dErr (syncD d)=0 then (0,syncD d) else (dErr (syncD d),dk0)):=by show _=_; unfold dSyncR; rw [if_pos h0]
 have HW2 : Hid ((syncD d).wait=[]):=by show _=_; rfl
 have HBk : Hid (∀ wk,Below W.heap.size W wk→Below w.heap.size w wk):=fun wk hk => (HY.out wk hk).2.2
 clear h0 hlen HEn h hM hN he
 generalize dSyncR d=rs at *
 generalize d.safe.length=n1 at *
 generalize d.wait.length=n2 at *
 generalize syncD d=sd at *
 obtain ⟨i1,i2,_⟩:=(HY.out W (Below.refl _ _)).1.at
 go_enter Tryz.func14,Tryz.ntmps14
 go_upto_region 1 with (fail)
 try rw [hW]
 go_upto_region 2 with (go_at_call 20; refine (HCat.out _ rfl).mono ?_; rintro e w3 ⟨x,c,rfl,HX3,HB3⟩; obtain ⟨y0,y1,yf⟩:=(HY.out w3 HB3.out).1.at; have f0:=yf 0; have f1:=yf 1)
 obtain ⟨W4,hW4,HF4,hb4,hk4⟩:=boxD_put (HY.out w3 HB3.out).1 (.slice x sd.safe.length c) (.slice none 0 0)
 have HR4 : BoxD (w.heap.size + 1) W4 (.slice none 0 0) (.slice none 0 0):=hW4 ▸ boxD_other (by omega) (HY.out w3 HB3.out).2.1
 try rw [hW4]
 have HX4 : Hid (∃ D,BS D W4 (.slice x sd.safe.length c) sd.safe):=let ⟨D,h⟩:=HX3.out; ⟨D,own_keep h (hk4 5 (by decide))⟩
 have HB4 : Hid (Below w.heap.size w W4):=(HBk.out w3 HB3.out).trans (hb4 _ (Nat.le_refl _))
 have HD4 : Hid (BoxD w.heap.size W4 (.slice x sd.safe.length c) (.slice none 0 0)):=HF4
 have HE4 : Hid (BoxD (w.heap.size + 1) W4 (.slice none 0 0) (.slice none 0 0)):=HR4
 clear hW4 HF4 hb4 hk4 HR4 i1 i2 y0 y1 yf f0 f1 HX3 HB3 HCat hW
 obtain ⟨i1,i2,_⟩:=HD4.out.at
 go_upto_region 3 with (go_at_call 8; refine (HCk2.out _ _ W4 HB4.out HX4.out).mono ?_; rintro e w5 ⟨rfl,hb5⟩)
 have HD5 : Hid (BoxD w.heap.size w5 (.slice x sd.safe.length c) (.slice none 0 0)):=HD4.out.below hb5
 have HE5 : Hid (BoxD (w.heap.size + 1) w5 (.slice none 0 0) (.slice none 0 0)):=HE4.out.below hb5
 have HX5 : Hid (∃ D,BS D w5 (.slice x sd.safe.length c) sd.safe):=let ⟨D,h⟩:=HX4.out; ⟨D,h.keep hb5⟩
 have HB5 : Hid (Below w.heap.size w w5):=HB4.out.trans (hb5.mono HB4.out.size)
 clear i1 i2 hb5 HD4 HE4 HX4 HB4
 obtain ⟨i1,i2,_⟩:=HD5.out.at
 obtain ⟨y0,y1,yf⟩:=HE5.out.at
 have f0:=yf 0
 have f1:=yf 1
 by_cases h1 : dErr sd=0
 ·have hne : (dErr sd != 0)=false:=by rw [h1]; rfl
  have HR1 : Hid (rs=(0,sd)):=by show _=_; rw [HRs.out,if_pos h1]
  clear h1 HRs
  obtain ⟨W6,hW6,HF6,hb6,hk6⟩:=boxD_put HE5.out (.slice x sd.safe.length c) (.slice none 0 0)
  go_wp2_with (fail)
  try rw [hW6]
  refine bodyPost_ret (res_box rfl _ _ (w.heap.size + 1) 24 _ (0,0) _ rfl HF6 Tryz.underlying24 rfl (by kernel_rfl)) rfl ?_
  rw [HR1.out]
  obtain ⟨D,hD⟩:=HX5.out
  refine ⟨x,c,none,0,?_,⟨own_bytesL (own_keep hD (hk6 5 (by decide))),?_⟩,HB5.out.trans (hb6 _ (by omega))⟩
  ·show _=Ending.returned (.tuple #[.agg #[.slice x sd.safe.length c,.slice none sd.wait.length 0],.int .i64 0])
   rw [HW2.out]
   rfl
  ·show BytesL _ _ none 0 sd.wait
   rw [HW2.out]
   exact BytesL.none _ _
 ·have hne : (dErr sd != 0)=true:=by simpa using h1
  have HR1 : Hid (rs=(dErr sd,dk0)):=by show _=_; rw [HRs.out,if_neg h1]
  clear h1 HRs
  generalize dErr sd=er at *
  obtain ⟨W6,hW6,HF6,hb6,hk6⟩:=boxD_put HE5.out (.slice none 0 0) (.slice none 0 0)
  go_wp2_with (fail)
  try rw [hW6]
  refine bodyPost_ret (res_box rfl _ _ (w.heap.size + 1) 24 _ (0,0) _ rfl HF6 Tryz.underlying24 rfl (by kernel_rfl)) rfl ?_
  rw [HR1.out]
  exact DkL.nothing (HB5.out.trans (hb6 _ (by omega)))

end Go.Proofs.YtfaggdkiffhdbaaGreatDoor
