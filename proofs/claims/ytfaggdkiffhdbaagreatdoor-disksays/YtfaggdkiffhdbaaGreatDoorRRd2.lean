/- RecRead of the reckoning. -/
import Derived.Test.YtfaggdkiffhdbaaGreatDoorRRd
import Derived.Test.YtfaggdkiffhdbaaGreatDoorPart23
import Derived.Test.YtfaggdkiffhdbaaGreatDoorRChk
namespace Go.Proofs.YtfaggdkiffhdbaaGreatDoor
open Go.RowKit Go.Maps

theorem wf_i64r {z : Int} (h : i64 z) : (Lit.int .i64 z).wf=true:=by
 have h1:=h.1
 have h2:=h.2
 simp [Lit.wf,IntKind.min,IntKind.max,IntKind.signed,IntKind.bits]
 omega

set_option maxRecDepth 20000 in
set_option maxHeartbeats 8000000 in
theorem rReadYes (N : Nat) (s : ByteArray) (hs : s.size≤60000) (w : World) (hN : N≤w.heap.size) (he : NEnv N w) (r : Rc) (h : recOf (numsOf s.data.toList)=some r) :
  Calls Tryz.prog 36 #[.string s] w (RecKt w (if recErr r=0 then r else rc0) (.int .i64 (recErr r))):=by
 obtain ⟨W,hW,HB,hsz,y0,y1,y2,y3,y4,y5⟩:=rbox w 0 0 0 0 (.slice none 0 0) (.slice none 0 0)
 have HY : Hid (Box6 w.heap.size W 0 0 0 0 (.slice none 0 0) (.slice none 0 0)):=by
  show Box6 _ _ _ _ _ _ _ _
  unfold Box6
  rw [← hW]; exact heap_alloc_new w _
 have HB0 : Hid (Below w.heap.size w W):=HB
 have HYk : Hid (∀ wk,Below W.heap.size W wk→Box6 w.heap.size wk 0 0 0 0 (.slice none 0 0) (.slice none 0 0)∧Below w.heap.size w wk):=fun wk hk => ⟨HY.out.keep (hk.block w.heap.size HY.out.lt),HB0.out.trans (hk.mono (by omega))⟩
 have HNu : Hid (Calls Tryz.prog 50 #[.string s] W fun e w' => ∃ v,e=.returned (.tuple #[v,.bool (!(numsOf s.data.toList).isEmpty)])∧Hid (IS W.heap.size w' v (numsOf s.data.toList))∧Hid (Below W.heap.size W w')):=rNumbers N s (by omega) W (by omega) (he.below (HB.mono hN))
 have HF : Hid (∀ x ∈ numsOf s.data.toList,i64 x):=numsOf_i64 _
 have HLn : Hid ((numsOf s.data.toList).length≤100001):=by have:=numsOf_len s; show _≤_; omega
 generalize numsOf s.data.toList=zs at *
 have hr:=h
 unfold recOf at hr
 have h5 : ¬ zs.length < 5:=fun e => by rw [if_pos e] at hr; cases hr
 rw [if_neg h5] at hr
 have hw5 : ¬ wthn (zs.getD 4 0) (((zs.drop 5).length : Nat) : Int)=false:=fun e => by rw [if_pos e] at hr; cases hr
 rw [if_neg hw5] at hr
 have hr:=Option.some.inj hr
 have hwt : wthn (zs.getD 4 0) (((zs.drop 5).length : Nat) : Int)=true:=by simpa using hw5
 rw [List.length_drop] at hwt
 have hwt':=hwt
 unfold wthn at hwt'
 simp only [Bool.and_eq_true,decide_eq_true_eq] at hwt'
 obtain ⟨sn,hsn⟩ : ∃ sn : Nat,zs.getD 4 0=(sn : Int):=⟨(zs.getD 4 0).toNat,by omega⟩
 rw [hsn] at hwt hwt' hr
 obtain ⟨n,hn⟩ : ∃ n,zs.length=n:=⟨_,rfl⟩
 have HZN : Hid (zs.length=n):=hn
 have hsm : sn≤n - 5:=by omega
 have HIn : Hid (∀ wk,Calls Tryz.prog 51 #[.int .i64 (sn : Int),.int .i64 0,.int .i64 ((n : Int) - 5)] wk fun e w' => e=.returned (.bool true)∧w'=wk):=fun wk => by
  have:=rinC (sn : Int) 0 ((n : Int) - 5) wk
  rw [show (decide (0≤(sn : Int)) && decide ((sn : Int)≤(n : Int) - 5))=true from by simp; omega] at this
  exact this
 have hi64 : recI64 r:=by
  rw [← hr]
  exact ⟨fun x hx => HF.out x (List.mem_of_mem_drop (List.mem_of_mem_take hx)),fun x hx => HF.out x (List.mem_of_mem_drop (List.mem_of_mem_drop hx))⟩
 have hk64 : i64 r.kind:=by
  rw [← hr]
  exact HF.out _ (by show zs.getD 0 0 ∈ zs; rw [List.getD_eq_getElem?_getD,List.getElem?_eq_getElem (by omega : 0 < zs.length)]; exact List.getElem_mem _)
 have HCk : Hid (∀ sa sc ia ic wk,Calls Tryz.prog 37 #[.agg #[.int .i64 r.kind,.int .i64 r.co,.int .i64 r.ep,.int .i64 r.pl,.slice sa r.says.length sc,.slice ia r.img.length ic]] wk fun e w' => e=.returned (.int .i64 (recErr r))∧Below wk.heap.size wk w'):=fun sa sc ia ic wk => rCheck r sc ic sa ia wk (wf_i64r hk64)
 have l1 : ((zs.drop 5).take sn).length=sn:=by rw [List.length_take,List.length_drop]; omega
 have l2 : ((zs.drop 5).drop sn).length=n - (5 + sn):=by rw [List.length_drop,List.length_drop]; omega
 simp only [Int.toNat_natCast] at hr
 obtain ⟨k0,k1,k2,k3,sy,im⟩:=r
 injection hr with r0 r1 r2 r3 r4 r5
 have HR : Hid (zs.getD 0 0=k0∧zs.getD 1 0=k1∧zs.getD 2 0=k2∧zs.getD 3 0=k3):=⟨r0,r1,r2,r3⟩
 rw [r4] at l1
 rw [r5] at l2
 have HSy : Hid (sy=(zs.drop 5).take sn):=r4.symm
 have HIm : Hid (im=(zs.drop 5).drop sn):=r5.symm
 obtain ⟨rr,hrr⟩ : ∃ rr : Rc,rr=⟨k0,k1,k2,k3,sy,im⟩:=⟨_,rfl⟩
 have HRr : Hid (rr=⟨k0,k1,k2,k3,sy,im⟩):=hrr
 rw [← hrr]
 have HCk2 : Hid (∀ sa sc ia ic wk,Calls Tryz.prog 37 #[.agg #[.int .i64 k0,.int .i64 k1,.int .i64 k2,.int .i64 k3,.slice sa sn sc,.slice ia (n - (5 + sn) : Nat) ic]] wk fun e w' => e=.returned (.int .i64 (recErr rr))∧Below wk.heap.size wk w'):=fun sa sc ia ic wk => by
  have:=HCk.out sa sc ia ic wk
  rw [l1,l2] at this
  rw [hrr]
  exact this
 have HL1 : Hid (sy.length=sn):=l1
 have HL2 : Hid (im.length=n - (5 + sn)):=l2
 have HFt : Hid ((∀ x ∈ sy,i64 x)∧∀ x ∈ im,i64 x):=hi64
 clear h he y0 y1 y2 y3 y4 y5 hs HCk hi64 hk64 hwt hwt' hw5 r0 r1 r2 r3 r4 r5 hrr l1 l2
 have hem : zs.isEmpty=false:=by cases zs with | nil => exact absurd (by simp) h5 | cons a l => rfl
 have hem2 : Hid (zs.isEmpty=false):=hem
 have HSn : Hid (zs.getD 4 0=(sn : Int)):=hsn
 have hnl : n≤100001:=by have:=HLn.out; omega
 rw [hn] at h5
 clear hem hsn
 go_enter Tryz.func36,Tryz.ntmps36
 go_upto_region 1 with (fail)
 try rw [hW]
 go_upto_region 2 with (go_at_call 50; refine HNu.out.mono ?_; rintro e w1 ⟨v,rfl,HI,HB1⟩)
 rw [hem2.out]
 obtain ⟨g,c,cs,rfl,hnc,hcb,hgB,hgw,hgb,hgc⟩:=is_block HI.out (by omega)
 rw [hn] at hnc ⊢
 have hcell : ∀ wk,Below w1.heap.size w1 wk→∀ (i : Nat),i < n→wk.cell? ⟨g,i,none⟩=some (.int .i64 (zs.getD i 0)):=fun wk hk i hi => by
  rw [hk.cell (p:=⟨g,i,none⟩) hgw]
  unfold World.cell?
  rw [hgb]
  exact hgc i _ (by rw [List.getD_eq_getElem?_getD,List.getElem?_eq_getElem (by omega)]; rfl)
 have HCell : Hid (∀ wk,Below w1.heap.size w1 wk→∀ (i : Nat),i < n→wk.cell? ⟨g,i,none⟩=some (.int .i64 (zs.getD i 0))):=hcell
 have HBk : Hid (w1.heap[g]?=some (Obj.cells cs 3 (0,0))∧∀ (i : Nat) (z : Int),zs[i]?=some z→cs[i]?=some (.int .i64 z)):=⟨hgb,hgc⟩
 have hz4 : zs.getD 4 0=(sn : Int):=HSn.out
 have q4:=hcell w1 (Below.refl _ _) 4 (by omega)
 rw [hz4] at q4
 have q0:=hcell w1 (Below.refl _ _) 0 (by omega)
 have q1:=hcell w1 (Below.refl _ _) 1 (by omega)
 have q2:=hcell w1 (Below.refl _ _) 2 (by omega)
 have q3:=hcell w1 (Below.refl _ _) 3 (by omega)
 rw [HR.out.1] at q0
 rw [HR.out.2.1] at q1
 rw [HR.out.2.2.1] at q2
 rw [HR.out.2.2.2] at q3
 have r0 : ∀ o : Obj,(w1.alloc o).cell? ⟨g,0,none⟩=some (.int .i64 k0):=fun o => at_below (below_alloc w1 o) q0
 have r1 : ∀ o : Obj,(w1.alloc o).cell? ⟨g,1,none⟩=some (.int .i64 k1):=fun o => at_below (below_alloc w1 o) q1
 have r2 : ∀ o : Obj,(w1.alloc o).cell? ⟨g,2,none⟩=some (.int .i64 k2):=fun o => at_below (below_alloc w1 o) q2
 have r3 : ∀ o : Obj,(w1.alloc o).cell? ⟨g,3,none⟩=some (.int .i64 k3):=fun o => at_below (below_alloc w1 o) q3
 have h5i : ¬ (n : Int) < 5:=by omega
 have h4i : (4 : Int) < (n : Int):=by omega
 have h0i : (0 : Int) < (n : Int):=by omega
 have h1i : (1 : Int) < (n : Int):=by omega
 have h2i : (2 : Int) < (n : Int):=by omega
 have h3i : (3 : Int) < (n : Int):=by omega
 have hsl1 : ∀ wk,(Instr.slice 25 (.slice (some ⟨g,0,none⟩) n c) (some (.int .i64 5)) (some (.int .i64 (5 + (sn : Int)))) none).run Tryz.prog wk=.ok (.slice (some ⟨g,if c=5 then 0 else 5,none⟩) sn (c - 5)) wk:=fun wk => by
  have:=sl_both g 0 n c 5 (5 + sn) (by omega) (by omega) wk
  rw [show 5 + sn - 5=sn by omega] at this
  simpa using this
 have hsl2 : ∀ wk,(Instr.slice 25 (.slice (some ⟨g,0,none⟩) n c) (some (.int .i64 (5 + (sn : Int)))) none none).run Tryz.prog wk=.ok (.slice (some ⟨g,if c=5 + sn then 0 else 5 + sn,none⟩) (n - (5 + sn)) (c - (5 + sn))) wk:=fun wk => by
  have:=sl_from g 0 n c (5 + sn) (by omega) wk
  simpa using this
 have HT : Hid (∀ wk,Keeps 3 w1 wk→RecT wk (some ⟨g,if c=5 then 0 else 5,none⟩) (c - 5) (some ⟨g,if c=5 + sn then 0 else 5 + sn,none⟩) (c - (5 + sn)) rr):=fun wk hk => by
  rw [HRr.out]
  have hbk:=hk g cs HBk.out.1
  refine ⟨⟨by rw [HL1.out]; omega,by omega,(fun e => by cases e),fun p hp => ?_,HFt.out.1⟩,⟨by rw [HL2.out]; omega,by omega,(fun e => by cases e),fun p hp => ?_,HFt.out.2⟩⟩
  ·cases hp
   by_cases h0 : sy=[]
   ·exact Or.inl h0
   ·have hl0 : 0 < sy.length:=List.length_pos_iff.2 h0
    rw [HL1.out] at hl0
    refine Or.inr ⟨g,5,cs,by rw [if_neg (by omega)],hbk,fun i z hi => HBk.out.2 _ _ ?_⟩
    rw [HSy.out] at hi
    have hil:=(List.getElem?_eq_some_iff.1 hi).1
    rw [List.length_take] at hil
    rw [List.getElem?_take,if_pos (by omega),List.getElem?_drop] at hi
    exact hi
  ·cases hp
   by_cases h0 : im=[]
   ·exact Or.inl h0
   ·have hl0 : 0 < im.length:=List.length_pos_iff.2 h0
    rw [HL2.out] at hl0
    refine Or.inr ⟨g,5 + sn,cs,by rw [if_neg (by omega)],hbk,fun i z hi => HBk.out.2 _ _ ?_⟩
    rw [HIm.out,List.getElem?_drop,List.getElem?_drop] at hi
    rw [show 5 + sn + i=5 + (sn + i) by omega]
    exact hi
 generalize (if c=5 then 0 else 5)=o5 at *
 generalize (if c=5 + sn then 0 else 5 + sn)=o6 at *
 obtain ⟨m2,hm2⟩ : ∃ m2,n - (5 + sn)=m2:=⟨_,rfl⟩
 have HM2 : Hid (n - (5 + sn)=m2):=hm2
 rw [hm2] at hsl2 HCk2
 generalize c - (5 + sn)=c6 at *
 generalize c - 5=c5 at *
 have hsb : (sn : Int)≤100001:=by omega
 clear hgb hgc hcell hm2 HI hz4 h5
 go_upto_region 5 with (go_at_call 51; refine (HIn.out _).mono ?_; rintro e wz ⟨rfl,hz⟩; rw [hz]; clear hz)
 go_region
 all_goals
  obtain ⟨W3,hW3⟩ : ∃ W3,(w1.alloc (.cells #[.int .i64 k0,.int .i64 k1,.int .i64 k2,.int .i64 k3,.slice (some ⟨g,o5,none⟩) sn c5,.slice (some ⟨g,o6,none⟩) m2 c6] 27)).drew=W3:=⟨_,rfl⟩
  try rw [hW3]
  have HBx : Hid (Box6 w1.heap.size W3 k0 k1 k2 k3 (.slice (some ⟨g,o5,none⟩) sn c5) (.slice (some ⟨g,o6,none⟩) m2 c6)):=by
   show Box6 _ _ _ _ _ _ _ _
   unfold Box6
   rw [← hW3]; exact heap_alloc_new w1 _
  have HB13 : Hid (Below w1.heap.size w1 W3):=hW3 ▸ (below_alloc w1 _).drew
  have HX : Hid (∀ wk,Below W3.heap.size W3 wk→Box6 w1.heap.size wk k0 k1 k2 k3 (.slice (some ⟨g,o5,none⟩) sn c5) (.slice (some ⟨g,o6,none⟩) m2 c6)):=fun wk hk => HBx.out.keep (hk.block w1.heap.size HBx.out.lt)
  have HZ : Hid (∀ wk,Below W3.heap.size W3 wk→Box6 w.heap.size wk 0 0 0 0 (.slice none 0 0) (.slice none 0 0)∧Below w.heap.size w wk):=fun wk hk => HYk.out wk (below_step HB1.out (below_step HB13.out hk))
  have HK : Hid (∀ wk,Below W3.heap.size W3 wk→Keeps 3 w1 wk):=fun wk hk => (Keeps.of HB13.out).trans (Keeps.of hk)
  clear hW3 q0 q1 q2 q3 q4 r0 r1 r2 r3 hsl1 hsl2 HCell HBk HNu HYk HY HB0 hW HB hsz
  have HCk3 : Hid (Calls Tryz.prog 37 #[.agg #[.int .i64 k0,.int .i64 k1,.int .i64 k2,.int .i64 k3,.slice (some ⟨g,o5,none⟩) sn c5,.slice (some ⟨g,o6,none⟩) m2 c6]] W3 fun e w' => e=.returned (.int .i64 (recErr rr))∧Below W3.heap.size W3 w'):=HCk2.out _ _ _ _ _
  obtain ⟨x0,x1,x2,x3,x4,x5,_⟩:=HBx.out.at
  by_cases hz : recErr rr=0
  ·have HZe : Hid (recErr rr=0):=hz
   rw [hz] at HCk3
   clear hz
   go_wp2_with (go_at_call 37; refine HCk3.out.mono ?_; rintro e w4 ⟨rfl,hb4⟩; obtain ⟨z0,z1,z2,z3,z4,z5,_⟩:=(HX.out w4 hb4).at; obtain ⟨y0,y1,y2,y3,y4,y5,yf⟩:=(HZ.out w4 hb4).1.at; have f0:=yf 0; have f1:=yf 1; have f2:=yf 2; have f3:=yf 3; have f4:=yf 4; have f5:=yf 5)
   obtain ⟨W6,hW6,HF6,hb6,hk6⟩:=box6_put (HZ.out w4 hb4).1 k0 k1 k2 k3 (.slice (some ⟨g,o5,none⟩) sn c5) (.slice (some ⟨g,o6,none⟩) m2 c6)
   try rw [hW6]
   refine bodyPost_ret (res_box rfl _ _ w.heap.size 27 _ (0,0) _ rfl HF6 Tryz.underlying27 rfl (by kernel_rfl)) rfl ?_
   refine ⟨_,_,_,_,?_,HT.out W6 ((HK.out w4 hb4).trans (hk6 3 (by decide))),(HZ.out w4 hb4).2.trans (hb6 _ (Nat.le_refl _))⟩
   rw [HRr.out]
   show _=Ending.returned (.tuple #[.agg #[.int .i64 k0,.int .i64 k1,.int .i64 k2,.int .i64 k3,.slice (some ⟨g,o5,none⟩) sy.length c5,.slice (some ⟨g,o6,none⟩) im.length c6],.int .i64 0])
   rw [HL1.out,HL2.out,HM2.out]
   rfl
  ·have heb : (recErr rr != 0)=true:=by simpa using hz
   have HZe : Hid (¬ recErr rr=0):=hz
   clear hz
   generalize recErr rr=er at *
   go_wp2_with (go_at_call 37; refine HCk3.out.mono ?_; rintro e w4 ⟨rfl,hb4⟩; obtain ⟨y0,y1,y2,y3,y4,y5,yf⟩:=(HZ.out w4 hb4).1.at; have f0:=yf 0; have f1:=yf 1; have f2:=yf 2; have f3:=yf 3; have f4:=yf 4; have f5:=yf 5)
   obtain ⟨W6,hW6,HF6,hb6,hk6⟩:=box6_put (HZ.out w4 hb4).1 0 0 0 0 (.slice none 0 0) (.slice none 0 0)
   try rw [hW6]
   refine bodyPost_ret (res_box rfl _ _ w.heap.size 27 _ (0,0) _ rfl HF6 Tryz.underlying27 rfl (by kernel_rfl)) rfl ?_
   exact RecKt.nothing ((HZ.out w4 hb4).2.trans (hb6 _ (Nat.le_refl _)))

theorem rcZs_none {s : List UInt8} (hs : s.length≤60000) (h : recOf (numsOf s)=none) : recSays s=(1,rc0):=by
 unfold recSays
 rw [if_neg (by omega),h]
theorem rcZs_some {s : List UInt8} {r : Rc} (hs : s.length≤60000) (h : recOf (numsOf s)=some r) : recSays s=(recErr r,if recErr r=0 then r else rc0):=by
 unfold recSays
 rw [if_neg (by omega),h]
 by_cases h0 : recErr r=0
 ·simp [h0]
 ·simp [h0]

/-- RecRead. -/
theorem rReadC (N : Nat) (s : ByteArray) (hs : s.size≤60000) (w : World) (hN : N≤w.heap.size) (he : NEnv N w) :
  Calls Tryz.prog 36 #[.string s] w (RecKt w (recSays s.data.toList).2 (.int .i64 (recSays s.data.toList).1)):=by
 have hl : s.data.toList.length≤60000:=by simpa using hs
 cases h : recOf (numsOf s.data.toList) with
 | none =>
  rw [rcZs_none hl h]
  refine (rReadNo N s hs w hN he h).mono ?_
  rintro e w' ⟨rfl,hb⟩
  exact RecKt.nothing hb
 | some r =>
  rw [rcZs_some hl h]
  exact rReadYes N s hs w hN he r h

end Go.Proofs.YtfaggdkiffhdbaaGreatDoor
