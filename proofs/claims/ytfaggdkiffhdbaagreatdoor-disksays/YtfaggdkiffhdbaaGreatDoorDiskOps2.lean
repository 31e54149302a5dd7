/- disk.Sync, Recover, by the program. -/
import Derived.Test.YtfaggdkiffhdbaaGreatDoorDiskOps
namespace Go.Proofs.YtfaggdkiffhdbaaGreatDoor
open Go.RowKit Go.Maps

def syncD (d : Dk) : Dk:=⟨d.safe ++ d.wait,[]⟩
/-- What Sync answers. -/
def dSyncR (d : Dk) : Int×Dk:=if dErr d=0 then (if dErr (syncD d)=0 then (0,syncD d) else (dErr (syncD d),dk0)) else (dErr d,dk0)

/-- Two boxes: a disk,and what is to be handed back. -/
theorem dtwo (w : World) (sv wv : Value) : ∃ W,(w.alloc (.cells #[sv,wv] 24)).alloc (.cells #[.slice none 0 0,.slice none 0 0] 24)=W∧Hid (Below w.heap.size w W) ∧
  Hid (∀ wk,Below W.heap.size W wk→BoxD w.heap.size wk sv wv∧BoxD (w.heap.size + 1) wk (.slice none 0 0) (.slice none 0 0)∧Below w.heap.size w wk):=by
 have b0:=below_alloc w (.cells #[sv,wv] 24)
 have h0 : BoxD w.heap.size (w.alloc (.cells #[sv,wv] 24)) sv wv:=heap_alloc_new w _
 have hs : (w.alloc (.cells #[sv,wv] 24)).heap.size=w.heap.size + 1:=by simp
 generalize w.alloc (.cells #[sv,wv] 24)=V at *
 have b1:=below_alloc V (.cells #[.slice none 0 0,.slice none 0 0] 24)
 have h1 : BoxD V.heap.size (V.alloc (.cells #[.slice none 0 0,.slice none 0 0] 24)) (.slice none 0 0) (.slice none 0 0):=heap_alloc_new V _
 rw [hs] at h1
 have h2:=h0.below b1
 generalize V.alloc (.cells #[.slice none 0 0,.slice none 0 0] 24)=W at *
 exact ⟨W,rfl,below_step b0 b1,fun wk hk => ⟨h2.below hk,h1.below hk,below_step (below_step b0 b1) hk⟩⟩

set_option maxRecDepth 20000 in
set_option maxHeartbeats 4000000 in
/-- disk.Sync. -/
theorem dSyncC (N M : Nat) (d : Dk) (sa wa : Option Addr) (sc wc : Nat) (w : World) (he : NEnv N w) (hN : N≤w.heap.size) (hM : M≤w.heap.size) (h : DiskIn M w sa sc wa wc d) (hs : DSmall d) :
  Calls Tryz.prog 5 #[.agg #[.slice sa d.safe.length sc,.slice wa d.wait.length wc]] w (DkK w (dSyncR d).2 (dSyncR d).1):=by
 obtain ⟨W,hW,HBW,HY⟩:=dtwo w (.slice sa d.safe.length sc) (.slice wa d.wait.length wc)
 have HCk : Hid (Calls Tryz.prog 10 #[.agg #[.slice sa d.safe.length sc,.slice wa d.wait.length wc]] W fun e w' => e=.returned (.int .i64 (dErr d))∧Below W.heap.size W w'):=dCheckC N M d sa wa sc wc W (he.below (HBW.out.mono hN)) (Nat.le_trans hN HBW.out.size) (Nat.le_trans hM HBW.out.size) (h.below (HBW.out.mono hM)) hs
 have HRs : Hid (dSyncR d=if dErr d=0 then (if dErr (syncD d)=0 then (0,syncD d) else (dErr (syncD d),dk0)) else (dErr d,dk0)):=by show _=_; rfl
 have HEn : Hid (∀ wk,Below W.heap.size W wk→NEnv N wk∧N≤wk.heap.size∧M≤wk.heap.size∧DiskIn M wk sa sc wa wc d):=fun wk hk => by
  have hb:=(HY.out wk hk).2.2
  exact ⟨he.below (hb.mono hN),Nat.le_trans hN hb.size,Nat.le_trans hM hb.size,h.below (hb.mono hM)⟩
 have HDz : Hid (dErr d=0→d.safe.length + d.wait.length≤60000):=fun h0 => (dErr_zero h0).1
 clear h hs he hN hM
 generalize dSyncR d=rs at *
 by_cases h0 : dErr d=0
 ·have hlen:=HDz.out h0
  have HCat : Hid (∀ wk B,Below W.heap.size W wk→wk.heap.size=B→Calls Tryz.prog 20 #[.slice (some ⟨B,0,none⟩) 2 2] (wk.alloc (.cells #[.slice sa d.safe.length sc,.slice wa d.wait.length wc] 22)) fun e w' => ∃ x c,e=.returned (.slice x (syncD d).safe.length c)∧Hid (∃ D,BS D w' (.slice x (syncD d).safe.length c) (syncD d).safe)∧Hid (Below wk.heap.size wk w')):=fun wk B hk hB => by
   obtain ⟨_,_,h3,h4⟩:=HEn.out wk hk
   exact concat2 M wk h3 sa wa sc wc d.safe d.wait h4.1 h4.2 (by omega) B hB
  have HCk2 : Hid (∀ x c wk,Below W.heap.size W wk→(∃ D,BS D wk (.slice x (syncD d).safe.length c) (syncD d).safe)→Calls Tryz.prog 10 #[.agg #[.slice x (syncD d).safe.length c,.slice none 0 0]] wk fun e w' => e=.returned (.int .i64 (dErr (syncD d)))∧Below wk.heap.size wk w'):=fun x c wk hk ⟨D,hb⟩ => by
   obtain ⟨h1,h2,_⟩:=HEn.out wk hk
   exact dCheckC N wk.heap.size (syncD d) x none c 0 wk h1 h2 (Nat.le_refl _) ⟨own_bytesL hb,BytesL.none _ _⟩ ⟨by unfold syncD; simp only [List.length_append]; omega,by unfold syncD; simp⟩
  have HS1 : Hid (dErr (syncD d)=0→rs=(0,syncD d)):=fun h1 => by rw [HRs.out,if_pos h0,if_pos h1]
  have HS2 : Hid (¬ dErr (syncD d)=0→rs=(dErr (syncD d),dk0)):=fun h1 => by rw [HRs.out,if_pos h0,if_neg h1]
  have HW2 : Hid ((syncD d).wait=[]):=by show _=_; rfl
  rw [h0] at HCk
  clear h0 HRs HDz hlen
  generalize d.safe.length=n1 at *
  generalize d.wait.length=n2 at *
  generalize syncD d=sd at *
  obtain ⟨i1,i2,_⟩:=(HY.out W (Below.refl _ _)).1.at
  go_enter Tryz.func5,Tryz.ntmps5
  go_upto_region 1 with (fail)
  try rw [hW]
  go_upto_region 2 with (go_at_call 10; refine HCk.out.mono ?_; rintro e w2 ⟨rfl,hb2⟩)
  clear i1 i2
  obtain ⟨i1,i2,_⟩:=(HY.out w2 hb2).1.at
  go_upto_region 5 with (go_at_call 20; refine (HCat.out w2 _ hb2 rfl).mono ?_; rintro e w3 ⟨x,c,rfl,HX3,HB3⟩)
  have hb3 : Below W.heap.size W w3:=below_step hb2 HB3.out
  obtain ⟨W4,hW4,hb4',hsz4,j0,j1⟩:=dbox w3 (.slice x sd.safe.length c) (.slice none 0 0)
  try rw [hW4]
  have hb4 : Below W.heap.size W W4:=below_step hb3 hb4'
  have HX4 : Hid (∃ D,BS D W4 (.slice x sd.safe.length c) sd.safe):=let ⟨D,h⟩:=HX3.out; ⟨D,h.keep hb4'⟩
  have HJ : Hid (∀ wk,Below W4.heap.size W4 wk→wk.cell? ⟨w3.heap.size,0,none⟩=some (.slice x sd.safe.length c)∧wk.cell? ⟨w3.heap.size,1,none⟩=some (.slice none 0 0)):=fun wk hk => ⟨at_below hk j0,at_below hk j1⟩
  clear hW4 hsz4 hb4' i1 i2 HCat
  go_upto_region 6 with (go_at_call 10; refine (HCk2.out _ _ W4 hb4 HX4.out).mono ?_; rintro e w5 ⟨rfl,hb5'⟩)
  have hb5 : Below W.heap.size W w5:=below_step hb4 hb5'
  have HX5 : Hid (∃ D,BS D w5 (.slice x sd.safe.length c) sd.safe):=let ⟨D,h⟩:=HX4.out; ⟨D,h.keep hb5'⟩
  clear j0 j1
  obtain ⟨j0,j1⟩:=HJ.out w5 hb5'
  obtain ⟨y0,y1,yf⟩:=(HY.out w5 hb5).2.1.at
  have f0:=yf 0
  have f1:=yf 1
  clear yf HCk2
  by_cases h1 : dErr sd=0
  ·have hne : (dErr sd != 0)=false:=by rw [h1]; rfl
   have HR1 : Hid (rs=(0,sd)):=HS1.out h1
   clear h1 HS1 HS2
   obtain ⟨W6,hW6,HF6,hb6,hk6⟩:=boxD_put (HY.out w5 hb5).2.1 (.slice x sd.safe.length c) (.slice none 0 0)
   go_wp2_with (fail)
   try rw [hW6]
   refine bodyPost_ret (res_box rfl _ _ (w.heap.size + 1) 24 _ (0,0) _ rfl HF6 Tryz.underlying24 rfl (by kernel_rfl)) rfl ?_
   rw [HR1.out]
   obtain ⟨D,hD⟩:=HX5.out
   refine ⟨x,c,none,0,?_,⟨own_bytesT (own_keep hD (hk6 5 (by decide))),?_⟩,(HY.out w5 hb5).2.2.trans (hb6 _ (by omega))⟩
   ·show _=Ending.returned (.tuple #[.agg #[.slice x sd.safe.length c,.slice none sd.wait.length 0],.int .i64 0])
    rw [HW2.out]
    rfl
   ·show BytesT _ none 0 sd.wait
    rw [HW2.out]
    exact BytesT.none _
  ·have hne : (dErr sd != 0)=true:=by simpa using h1
   have HR1 : Hid (rs=(dErr sd,dk0)):=HS2.out h1
   clear h1 HS1 HS2
   generalize dErr sd=er at *
   obtain ⟨W6,hW6,HF6,hb6,hk6⟩:=boxD_put (HY.out w5 hb5).2.1 (.slice none 0 0) (.slice none 0 0)
   go_wp2_with (fail)
   try rw [hW6]
   refine bodyPost_ret (res_box rfl _ _ (w.heap.size + 1) 24 _ (0,0) _ rfl HF6 Tryz.underlying24 rfl (by kernel_rfl)) rfl ?_
   rw [HR1.out]
   exact DkK.nothing ((HY.out w5 hb5).2.2.trans (hb6 _ (by omega)))
 ·have hne : (dErr d != 0)=true:=by simpa using h0
  have HR1 : Hid (rs=(dErr d,dk0)):=by show _=_; rw [HRs.out,if_neg h0]
  clear h0 HRs HDz
  generalize d.safe.length=n1 at *
  generalize d.wait.length=n2 at *
  generalize dErr d=er at *
  obtain ⟨i1,i2,_⟩:=(HY.out W (Below.refl _ _)).1.at
  go_enter Tryz.func5,Tryz.ntmps5
  go_upto_region 1 with (fail)
  try rw [hW]
  go_wp2_with (go_at_call 10; refine HCk.out.mono ?_; rintro e w2 ⟨rfl,hb2⟩; obtain ⟨y0,y1,yf⟩:=(HY.out w2 hb2).2.1.at; have f0:=yf 0; have f1:=yf 1)
  obtain ⟨W6,hW6,HF6,hb6,hk6⟩:=boxD_put (HY.out w2 hb2).2.1 (.slice none 0 0) (.slice none 0 0)
  try rw [hW6]
  refine bodyPost_ret (res_box rfl _ _ (w.heap.size + 1) 24 _ (0,0) _ rfl HF6 Tryz.underlying24 rfl (by kernel_rfl)) rfl ?_
  rw [HR1.out]
  exact DkK.nothing ((HY.out w2 hb2).2.2.trans (hb6 _ (by omega)))

end Go.Proofs.YtfaggdkiffhdbaaGreatDoor
