/- RecRead of the reckoning, where the row is none of a record. -/
import Derived.Test.YtfaggdkiffhdbaaGreatDoorRTxt
import Derived.Test.YtfaggdkiffhdbaaGreatDoorRefNums
import Derived.Test.YtfaggdkiffhdbaaGreatDoorRMap
namespace Go.Proofs.YtfaggdkiffhdbaaGreatDoor
open Go.RowKit Go.Maps

set_option maxRecDepth 20000 in
set_option maxHeartbeats 8000000 in
theorem rReadNo (N : Nat) (s : ByteArray) (hs : s.size≤60000) (w : World) (hN : N≤w.heap.size) (he : NEnv N w) (h : recOf (numsOf s.data.toList)=none) :
  Calls Tryz.prog 36 #[.string s] w fun e w' => e=.returned (.tuple #[.agg #[.int .i64 0,.int .i64 0,.int .i64 0,.int .i64 0,.slice none 0 0,.slice none 0 0],.int .i64 1])∧Below w.heap.size w w':=by
 obtain ⟨W,hW,HB,hsz,y0,y1,y2,y3,y4,y5⟩:=rbox w 0 0 0 0 (.slice none 0 0) (.slice none 0 0)
 have HY : Hid (Box6 w.heap.size W 0 0 0 0 (.slice none 0 0) (.slice none 0 0)):=by
  show Box6 _ _ _ _ _ _ _ _
  unfold Box6
  rw [← hW]; exact heap_alloc_new w _
 have HB0 : Hid (Below w.heap.size w W):=HB
 have HYk : Hid (∀ wk,Below W.heap.size W wk→Box6 w.heap.size wk 0 0 0 0 (.slice none 0 0) (.slice none 0 0)∧Below w.heap.size w wk):=fun wk hk => ⟨HY.out.keep (hk.block w.heap.size HY.out.lt),HB0.out.trans (hk.mono (by omega))⟩
 have HNu : Hid (Calls Tryz.prog 50 #[.string s] W fun e w' => ∃ v,e=.returned (.tuple #[v,.bool (!(numsOf s.data.toList).isEmpty)])∧Hid (IS W.heap.size w' v (numsOf s.data.toList))∧Hid (Below W.heap.size W w')):=rNumbers N s (by omega) W (by omega) (he.below (HB.mono hN))
 have HF : Hid (∀ x ∈ numsOf s.data.toList,i64 x):=numsOf_i64 _
 have HLn : Hid ((numsOf s.data.toList).length≤100001):=by have:=numsOf_len s; show _≤_; omega
 have HNo : Hid (recOf (numsOf s.data.toList)=none):=h
 clear h he y0 y1 y2 y3 y4 y5 hs
 generalize numsOf s.data.toList=zs at *
 go_enter Tryz.func36,Tryz.ntmps36
 go_upto_region 1 with (fail)
 try rw [hW]
 go_upto_region 2 with (go_at_call 50; refine HNu.out.mono ?_; rintro e w1 ⟨v,rfl,HI,HB1⟩)
 obtain ⟨HY1,HBw1⟩:=HYk.out w1 HB1.out
 obtain ⟨W6,hW6,HF6',hb6,_⟩:=box6_put HY1 0 0 0 0 (.slice none 0 0) (.slice none 0 0)
 obtain ⟨q0,q1,q2,q3,q4,q5,qf⟩:=HY1.at
 have f0:=qf 0
 have f1:=qf 1
 have f2:=qf 2
 have f3:=qf 3
 have f4:=qf 4
 have f5:=qf 5
 have HF6:=(show Hid _ from HF6')
 have HB6 : Hid (Below w.heap.size w W6):=HBw1.trans (hb6 _ (Nat.le_refl _))
 clear qf hb6 HF6' HY1 HBw1 hW HB hsz
 by_cases h0 : zs=[]
 ·have hem : zs.isEmpty=true:=by rw [h0]; rfl
  rw [hem]
  clear h0 hem
  go_wp2_with (fail)
  try rw [hW6]
  refine bodyPost_ret (res_box rfl _ _ w.heap.size 27 _ (0,0) _ rfl HF6.out Tryz.underlying27 rfl (by kernel_rfl)) rfl ?_
  exact ⟨rfl,HB6.out⟩
 have hpos : 0 < zs.length:=by cases zs with | nil => exact absurd rfl h0 | cons a l => simp
 have hem : zs.isEmpty=false:=by cases zs with | nil => exact absurd rfl h0 | cons a l => rfl
 rw [hem]
 obtain ⟨nb,no,cn,rfl,hnb,hc⟩:=is_cells HI.out hpos HF.out
 by_cases h5 : zs.length < 5
 ·have h5i : (zs.length : Int) < 5:=by omega
  clear h0 hem hc HI HNo h5
  go_wp2_with (fail)
  try rw [hW6]
  refine bodyPost_ret (res_box rfl _ _ w.heap.size 27 _ (0,0) _ rfl HF6.out Tryz.underlying27 rfl (by kernel_rfl)) rfl ?_
  exact ⟨rfl,HB6.out⟩
 have h5i : ¬ (zs.length : Int) < 5:=by omega
 have h4i : (4 : Int) < (zs.length : Int):=by omega
 have e4:=hc 4 (by omega)
 have hw : wthn (zs.getD 4 0) (((zs.drop 5).length : Nat) : Int)=false:=by
  have:=HNo.out
  unfold recOf at this
  rw [if_neg (by omega)] at this
  by_cases hx : wthn (zs.getD 4 0) (((zs.drop 5).length : Nat) : Int)=false
  ·exact hx
  ·rw [if_neg hx] at this; cases this
 have HIn : Hid (∀ wk,Calls Tryz.prog 51 #[.int .i64 (zs.getD 4 0),.int .i64 0,.int .i64 ((zs.length : Int) - 5)] wk fun e w' => e=.returned (.bool false)∧w'=wk):=fun wk => by
  have:=rinC (zs.getD 4 0) 0 ((zs.length : Int) - 5) wk
  rw [show (decide (0≤zs.getD 4 0) && decide (zs.getD 4 0≤(zs.length : Int) - 5))=false from by
   unfold wthn at hw
   rw [List.length_drop] at hw
   rw [show (zs.length : Int) - 5=((zs.length - 5 : Nat) : Int) by omega]
   exact hw] at this
  exact this
 have HN2 : Hid (zs.length≤100001):=HLn.out
 generalize zs.getD 4 0=sd at *
 have hnl:=HN2.out
 clear h0 hem hc HI HNo h5 hw
 generalize zs.length=n at *
 go_wp2_with (go_at_call 51; refine (HIn.out _).mono ?_; rintro e wz ⟨rfl,hz⟩; rw [hz]; clear hz)
 try rw [hW6]
 refine bodyPost_ret (res_box rfl _ _ w.heap.size 27 _ (0,0) _ rfl HF6.out Tryz.underlying27 rfl (by kernel_rfl)) rfl ?_
 exact ⟨rfl,HB6.out⟩

end Go.Proofs.YtfaggdkiffhdbaaGreatDoor
