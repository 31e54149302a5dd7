/- The reckoning's Recovered. -/
import Derived.Test.YtfaggdkiffhdbaaGreatDoorDiskRef5
import Derived.Test.YtfaggdkiffhdbaaGreatDoorDiskOps3
namespace Go.Proofs.YtfaggdkiffhdbaaGreatDoor
open Go.RowKit Go.Maps

def DkRL (w : World) (d : Dk) (l : List Rc) (e : Ending) (w' : World) : Prop :=
 ∃ sa sc wa wc la lc L,e=.returned (.tuple #[.agg #[.slice sa d.safe.length sc,.slice wa d.wait.length wc],.slice la l.length lc])∧Hid (DiskIn w'.heap.size w' sa sc wa wc d)∧Hid (∃ C,RecRow C w' (.slice la l.length lc) L)∧Hid (L.map (·.1)=l)∧Hid (Below w.heap.size w w')
theorem keepB {w w' : World} {B : Nat} {o : Obj} (h : Below w.heap.size w w') (hB : w.heap[B]?=some o) : w'.heap[B]?=some o:=by
 rw [h.block B (Array.getElem?_eq_some_iff.1 hB).1]; exact hB

set_option maxRecDepth 20000 in
set_option maxHeartbeats 4000000 in
/-- Recovered. -/
theorem rRecovered (N M : Nat) (d : Dk) (sa wa : Option Addr) (sc wc : Nat) (w : World) (he : NEnv N w) (hN : N≤w.heap.size) (hM : M≤w.heap.size) (h : DiskIn M w sa sc wa wc d) (h0 : dErr d=0) :
  Calls Tryz.prog 15 #[.agg #[.slice sa d.safe.length sc,.slice wa d.wait.length wc]] w (DkRL w (dRecR d).2.1 (dRecR d).2.2):=by
 obtain ⟨W,hW,HBW,HY⟩:=dtwo w (.slice sa d.safe.length sc) (.slice wa d.wait.length wc)
 have HEn : Hid (∀ wk,Below w.heap.size w wk→NEnv N wk∧N≤wk.heap.size∧M≤wk.heap.size∧DiskIn M wk sa sc wa wc d):=fun wk hb => ⟨he.below (hb.mono hN),Nat.le_trans hN hb.size,Nat.le_trans hM hb.size,h.below (hb.mono hM)⟩
 obtain ⟨hlen,he0⟩:=dErr_zero h0
 have HBk : Hid (∀ wk,Below W.heap.size W wk→Below w.heap.size w wk):=fun wk hk => (HY.out wk hk).2.2
 -- what is read
 have hc1:=(dRead_many 120 d.safe).1
 obtain ⟨L1,hL1⟩ : ∃ L1,(dRead 120 d.safe).1=L1:=⟨_,rfl⟩
 rw [hL1] at hc1
 have hmany:=dRead_many (120 - L1.length) d.wait
 have happ:=dRead_app 120 d.safe d.wait he0
 rw [hL1] at happ
 have HRs : Hid (dRecR d=(0,⟨d.safe ++ d.wait.take (dRead (120 - L1.length) d.wait).2.1,[]⟩,L1 ++ (dRead (120 - L1.length) d.wait).1)):=by
  show _=_
  unfold dRecR
  rw [if_pos h0]
  unfold allD
  rw [happ]
  simp only [List.take_length_add_append]
 have HL1 : Hid (Calls Tryz.prog 22 #[.string (bs d.safe),.int .i64 120] W fun e w' => ∃ la lc L,e=.returned (.tuple #[.slice la L1.length lc,.int .i64 ((dRead 120 d.safe).2.1 : Nat),.int .i64 (dRead 120 d.safe).2.2]) ∧
   Hid (∃ C,RecRow C w' (.slice la L1.length lc) L)∧Hid (L.map (·.1)=L1)∧Hid (Below W.heap.size W w')):=by
  obtain ⟨h1,h2,_⟩:=HEn.out W HBW.out
  have:=linesC N W h1 h2 d.safe (by omega) 120 (Nat.le_refl _)
  rw [hL1] at this
  refine this.mono ?_
  rintro e w' ⟨la,lc,L,rfl,h3,h4,h5⟩
  exact ⟨la,lc,L,rfl,⟨_,h3.out⟩,h4,h5⟩
 have HL2 : Hid (∀ wk,Below w.heap.size w wk→Calls Tryz.prog 22 #[.string (bs d.wait),.int .i64 (120 - (L1.length : Int))] wk fun e w' => ∃ la lc L,e=.returned (.tuple #[.slice la (dRead (120 - L1.length) d.wait).1.length lc,.int .i64 ((dRead (120 - L1.length) d.wait).2.1 : Nat),.int .i64 (dRead (120 - L1.length) d.wait).2.2]) ∧
   Hid (∃ C,RecRow C w' (.slice la (dRead (120 - L1.length) d.wait).1.length lc) L)∧Hid (L.map (·.1)=(dRead (120 - L1.length) d.wait).1)∧Hid (Below wk.heap.size wk w')):=fun wk hk => by
  obtain ⟨h1,h2,_⟩:=HEn.out wk hk
  have:=linesC N wk h1 h2 d.wait (by omega) (120 - L1.length) (by omega)
  rw [show (((120 - L1.length : Nat)) : Int)=120 - (L1.length : Int) by omega] at this
  refine this.mono ?_
  rintro e w' ⟨la,lc,L,rfl,h3,h4,h5⟩
  exact ⟨la,lc,L,rfl,⟨_,h3.out⟩,h4,h5⟩
 have HCv : Hid (∀ wk,Below w.heap.size w wk→(convert 22 9 (.slice sa d.safe.length sc)).run Tryz.prog wk=.ok (.string (bs d.safe)) wk∧(convert 22 9 (.slice wa d.wait.length wc)).run Tryz.prog wk=.ok (.string (bs d.wait)) wk):=fun wk hk => by
  obtain ⟨_,_,_,h4⟩:=HEn.out wk hk
  exact ⟨conv_bytes h4.1,conv_bytes h4.2⟩
 have hwi:=h.2
 have HDI : Hid (∀ wk m,Below w.heap.size w wk→m≤d.wait.length→BytesL wk.heap.size wk sa sc d.safe∧BytesL wk.heap.size wk wa wc (d.wait.take m)):=fun wk m hk hm => by
  obtain ⟨_,_,h3,h4⟩:=HEn.out wk hk
  exact ⟨h4.1.up h3,(h4.2.take m wc hm (by have:=h4.2.le; omega) (Nat.le_refl _)).up h3⟩
 have hsl : ∀ m,m≤d.wait.length→∀ wk,(Instr.slice 22 (.slice wa d.wait.length wc) none (some (.int .i64 (m : Nat))) none).run Tryz.prog wk=.ok (.slice wa m wc) wk:=fun m hm => bl_to wa d.wait.length wc m (by have:=hwi.le; omega) hwi.big (fun e => (hwi.nil e).2)
 clear HEn h hM hN he h0 he0 happ hwi
 generalize dRecR d=rs at *
 generalize (dRead 120 d.safe).2.1=z1 at *
 generalize (dRead 120 d.safe).2.2=e1 at *
 clear hL1
 generalize hr2 : dRead (120 - L1.length) d.wait=r2 at *
 clear hr2
 obtain ⟨L2,m,e2⟩:=r2
 simp only at hmany HL2 HRs
 obtain ⟨hc2,hz2⟩:=hmany
 have hsl:=hsl m hz2
 have hmt : (d.wait.take m).length=m:=by rw [List.length_take]; omega
 have HDJ : Hid (∀ wk,Below w.heap.size w wk→BytesL wk.heap.size wk sa sc d.safe∧BytesL wk.heap.size wk wa wc (d.wait.take m)):=fun wk hk => HDI.out wk m hk hz2
 generalize d.wait.take m=wt at *
 generalize bs d.safe=st1 at *
 generalize bs d.wait=st2 at *
 generalize hsf : d.safe=sf at *
 clear hsf
 generalize d.wait.length=n2 at *
 obtain ⟨n1,hn1⟩ : ∃ n1,sf.length=n1:=⟨_,rfl⟩
 obtain ⟨k1,hk1⟩ : ∃ k1,L1.length=k1:=⟨_,rfl⟩
 obtain ⟨k2,hk2⟩ : ∃ k2,L2.length=k2:=⟨_,rfl⟩
 rw [hk1] at hc1
 rw [hk1,hk2] at hc2
 have HN : Hid (sf.length=n1∧wt.length=m∧L1.length=k1∧L2.length=k2):=⟨hn1,hmt,hk1,hk2⟩
 simp only [hn1,hk1,hk2] at HL1 HL2 HCv HY hlen hW ⊢
 clear hn1 hk1 hk2 hmt
 obtain ⟨i1,i2,_⟩:=(HY.out W (Below.refl _ _)).1.at
 have hcv:=(HCv.out W HBW.out).1
 go_enter Tryz.func15,Tryz.ntmps15
 go_upto_region 1 with (fail)
 try rw [hW]
 go_upto_region 2 with (go_at_call 22; refine HL1.out.mono ?_; rintro e w1 ⟨la,lc,R1,rfl,HA1,HM1,HB1⟩)
 clear i1 i2 hcv hW
 obtain ⟨i1,i2,_⟩:=(HY.out w1 HB1.out).1.at
 have hcv:=(HCv.out w1 (HBk.out w1 HB1.out)).2
 go_upto_region 3 with (go_at_call 22; refine (HL2.out w1 (HBk.out w1 HB1.out)).mono ?_; rintro e w2 ⟨lb,lbc,R2,rfl,HA2,HM2,HB2⟩)
 clear i1 i2 hcv HL1 HL2 HCv
 have hW2 : Below W.heap.size W w2:=below_step HB1.out HB2.out
 have HY1 : Hid (∀ wk,Below w2.heap.size w2 wk→BoxD w.heap.size wk (.slice sa n1 sc) (.slice wa n2 wc)):=fun wk hk => (HY.out wk (below_step hW2 hk)).1
 have HY2 : Hid (∀ wk,Below w2.heap.size w2 wk→BoxD (w.heap.size + 1) wk (.slice none 0 0) (.slice none 0 0)):=fun wk hk => (HY.out wk (below_step hW2 hk)).2.1
 have HU : Hid (∀ wk,Below w2.heap.size w2 wk→wk.cell? ⟨w.heap.size,0,none⟩=some (.slice sa n1 sc)∧wk.cell? ⟨w.heap.size,1,none⟩=some (.slice wa n2 wc)):=fun wk hk => ⟨(HY1.out wk hk).at.1,(HY1.out wk hk).at.2.1⟩
 have HU2 : Hid (∀ wk,Below w.heap.size w wk→wk.heap[w.heap.size]?=some (.cells #[.slice sa n1 sc,.slice wa n2 wc] 24 (0,0))→True):=fun _ _ _ => trivial
 have hWw : Below w.heap.size w w2:=HBk.out w2 hW2
 have HCB : Hid (∀ wk B,Below w2.heap.size w2 wk→wk.heap[B]?=some (.cells #[.slice sa n1 sc,.slice wa m wc] 22 (0,0))→Calls Tryz.prog 20 #[.slice (some ⟨B,0,none⟩) 2 2] wk fun e w' => ∃ x c,e=.returned (.slice x (n1 + m) c)∧Hid (∃ D,BS D w' (.slice x (n1 + m) c) (sf ++ wt))∧Hid (Below wk.heap.size wk w')):=fun wk B hk hB => by
  obtain ⟨h1,h2⟩:=HDJ.out wk (hWw.trans (hk.mono hWw.size))
  exact cat2B wk B sa wa n1 m sc wc sf wt hB h1 h2 HN.out.1 HN.out.2.1 (by omega)
 have HCR : Hid (∀ wk B,Below w2.heap.size w2 wk→wk.heap[B]?=some (.cells #[.slice la k1 lc,.slice lb k2 lbc] 33 (0,0))→Calls Tryz.prog 26 #[.slice (some ⟨B,0,none⟩) 2 2] wk fun e w' => ∃ x c,e=.returned (.slice x (k1 + k2) c)∧Hid (∃ D,RecRow D w' (.slice x (k1 + k2) c) (R1 ++ R2))∧Hid (Below wk.heap.size wk w')):=fun wk B hk hB => by
  obtain ⟨C1,h1⟩:=HA1.out
  obtain ⟨C2,h2⟩:=HA2.out
  have q1 : R1.length=k1:=by have:=congrArg List.length HM1.out; rw [List.length_map] at this; rw [this]; exact HN.out.2.2.1
  have q2 : R2.length=k2:=by have:=congrArg List.length HM2.out; rw [List.length_map] at this; rw [this]; exact HN.out.2.2.2
  exact cat2R wk B la lb k1 k2 lc lbc C1 C2 R1 R2 hB ((h1.below HB2.out).below hk) (h2.below hk) q1 q2 (by omega)
 have HFin : Hid (∀ wk x6 c6 x8 c8,Below w.heap.size w wk→(∃ D,BS D wk (.slice x6 (n1 + m) c6) (sf ++ wt))→(∃ D,RecRow D wk (.slice x8 (k1 + k2) c8) (R1 ++ R2))→DkRL w rs.2.1 rs.2.2 (.returned (.tuple #[.agg #[.slice x6 (n1 + m) c6,.slice none 0 0],.slice x8 (k1 + k2) c8])) wk):=fun wk x6 c6 x8 c8 hb ⟨D,h1⟩ ⟨E,h2⟩ => by
  have q1 : (sf ++ wt).length=n1 + m:=by rw [List.length_append,HN.out.1,HN.out.2.1]
  have q2 : (L1 ++ L2).length=k1 + k2:=by rw [List.length_append,HN.out.2.2.1,HN.out.2.2.2]
  rw [HRs.out]
  show DkRL w ⟨sf ++ wt,[]⟩ (L1 ++ L2) _ wk
  refine ⟨x6,c6,none,0,x8,c8,R1 ++ R2,?_,⟨own_bytesL h1,BytesL.none _ _⟩,⟨E,?_⟩,?_,hb⟩
  ·simp only [q1,q2]; rfl
  ·simp only [q2]; exact h2
  ·show _=_
   rw [List.map_append,HM1.out,HM2.out]
 obtain ⟨i1,i2⟩:=HU.out w2 (Below.refl _ _)
 clear HRs HDI HDJ HN HA1 HA2 HM1 HM2 HB1 HB2
 have hbd : Below w2.heap.size w2 w2.drew:=(Below.refl _ _).drew
 have hb1 : ∀ o1,Below w2.heap.size w2 ((w2.alloc o1).drew):=fun o1 => (below_alloc w2 o1).drew
 have hb2 : ∀ o1 o2,Below w2.heap.size w2 (((w2.alloc o1).alloc o2).drew):=fun o1 o2 => (below_step (below_alloc w2 o1) (below_alloc _ o2)).drew
 have g1 : ∀ (c : Array Value) (t : TypeId),((w2.alloc (.cells c t)).drew).heap[w2.heap.size]?=some (.cells c t (0,0)):=fun c t => heap_alloc_new w2 _
 have g2 : ∀ (c : Array Value) (t : TypeId) (o : Obj),(((w2.alloc (.cells c t)).alloc o).drew).heap[w2.heap.size]?=some (.cells c t (0,0)):=fun c t o => keepB (below_alloc _ o).drew (heap_alloc_new w2 _)
 have g4 : ∀ (o : Obj) (c : Array Value) (t : TypeId),(((w2.alloc o).alloc (.cells c t)).drew).heap[w2.heap.size + 1]?=some (.cells c t (0,0)):=fun o c t => by
  have:=heap_alloc_new (w2.alloc o) (.cells c t)
  rw [show (w2.alloc o).heap.size=w2.heap.size + 1 by simp] at this
  exact this
 have hb6a : ∀ (w6 : World) (o : Obj),Below w2.heap.size w2 w6→Below w2.heap.size w2 (w6.alloc o):=fun w6 o h => below_step h (below_alloc w6 o)
 go_region_held3 (fun w' => w'.cell? ⟨w.heap.size,0,none⟩=some (.slice sa n1 sc)∧w'.cell? ⟨w.heap.size,1,none⟩=some (.slice wa n2 wc))
    (first | exact HU.out _ hbd | exact HU.out _ (hb1 _) | exact HU.out _ (hb2 _ _) | exact hs8 | exact hs6 | exact HU.out _ (hb6a _ _ hb6) | go_keep)
    (first
     | (have hm:=mB; go_at_call 26; with_reducible refine (HCR.out _ _ hb6 hO).mono ?_; rintro e w8 ⟨xR,cR,rfl,HXR,HBR⟩; have hb8:=below_step hb6 HBR.out; have hs8:=HU.out _ hb8; obtain ⟨y0,y1,yf⟩:=(HY2.out _ hb8).at; have f0:=yf 0; have f1:=yf 1)
     | (have hm:=mR; go_at_call 20; with_reducible refine (HCB.out _ _ hb6 hO).mono ?_; rintro e w8 ⟨xB,cB,rfl,HXB,HBB⟩; have hb8:=below_step hb6 HBB.out; have hs8:=HU.out _ hb8; obtain ⟨y0,y1,yf⟩:=(HY2.out _ hb8).at; have f0:=yf 0; have f1:=yf 1)
     | (have hm:=mB; go_at_call 26; with_reducible refine (HCR.out _ _ (hb6a _ _ hb6) (heap_alloc_new w6 _)).mono ?_; rintro e w8 ⟨xR,cR,rfl,HXR,HBR⟩; have hb8:=below_step (hb6a _ _ hb6) HBR.out; have hs8:=HU.out _ hb8; obtain ⟨y0,y1,yf⟩:=(HY2.out _ hb8).at; have f0:=yf 0; have f1:=yf 1)
     | (have hm:=mR; go_at_call 20; with_reducible refine (HCB.out _ _ (hb6a _ _ hb6) (heap_alloc_new w6 _)).mono ?_; rintro e w8 ⟨xB,cB,rfl,HXB,HBB⟩; have hb8:=below_step (hb6a _ _ hb6) HBB.out; have hs8:=HU.out _ hb8; obtain ⟨y0,y1,yf⟩:=(HY2.out _ hb8).at; have f0:=yf 0; have f1:=yf 1)
     | (go_at_call 20; with_reducible refine (HCB.out _ _ (hb1 _) (g1 _ _)).mono ?_; rintro e w6 ⟨xB,cB,rfl,HXB,HBB⟩; have mB:=True.intro; have hb6:=below_step (hb1 _) HBB.out; have hs6:=HU.out _ hb6)
     | (go_at_call 20; with_reducible refine (HCB.out _ _ (hb2 _ _) (g2 _ _ _)).mono ?_; rintro e w6 ⟨xB,cB,rfl,HXB,HBB⟩; have mB:=True.intro; have hb6:=below_step (hb2 _ _) HBB.out; have hs6:=HU.out _ hb6; have hO:=(keepB HBB.out (g4 _ _ _)))
     | (go_at_call 20; with_reducible refine (HCB.out _ _ (hb2 _ _) (g4 _ _ _)).mono ?_; rintro e w6 ⟨xB,cB,rfl,HXB,HBB⟩; have mB:=True.intro; have hb6:=below_step (hb2 _ _) HBB.out; have hs6:=HU.out _ hb6; have hO:=(keepB HBB.out (g2 _ _ _)))
     | (go_at_call 26; with_reducible refine (HCR.out _ _ (hb1 _) (g1 _ _)).mono ?_; rintro e w6 ⟨xR,cR,rfl,HXR,HBR⟩; have mR:=True.intro; have hb6:=below_step (hb1 _) HBR.out; have hs6:=HU.out _ hb6)
     | (go_at_call 26; with_reducible refine (HCR.out _ _ (hb2 _ _) (g2 _ _ _)).mono ?_; rintro e w6 ⟨xR,cR,rfl,HXR,HBR⟩; have mR:=True.intro; have hb6:=below_step (hb2 _ _) HBR.out; have hs6:=HU.out _ hb6; have hO:=(keepB HBR.out (g4 _ _ _)))
     | (go_at_call 26; with_reducible refine (HCR.out _ _ (hb2 _ _) (g4 _ _ _)).mono ?_; rintro e w6 ⟨xR,cR,rfl,HXR,HBR⟩; have mR:=True.intro; have hb6:=below_step (hb2 _ _) HBR.out; have hs6:=HU.out _ hb6; have hO:=(keepB HBR.out (g2 _ _ _))))

 all_goals
  have hFB : Hid (∃ D,BS D w8 (.slice xB (n1 + m) cB) (sf ++ wt)):=by
   first
    | exact HXB.out
    | (obtain ⟨D,h⟩:=HXB.out; exact ⟨D,h.keep HBR.out⟩)
    | (obtain ⟨D,h⟩:=HXB.out; exact ⟨D,h.keep (below_step (below_alloc w6 _) HBR.out)⟩)
  have hFR : Hid (∃ D,RecRow D w8 (.slice xR (k1 + k2) cR) (R1 ++ R2)):=by
   first
    | exact HXR.out
    | (obtain ⟨D,h⟩:=HXR.out; exact ⟨D,h.below HBB.out⟩)
    | (obtain ⟨D,h⟩:=HXR.out; exact ⟨D,h.below (below_step (below_alloc w6 _) HBB.out)⟩)
  clear hbd hb1 hb2 g1 g2 g4 hb6a hs8 hs6 HXB HXR i1 i2 yf
  obtain ⟨W9,hW9,HF9,hb9,hk9⟩:=boxD_put (HY2.out _ hb8) (.slice xB (n1 + m) cB) (.slice none 0 0)
  go_wp2_with (fail)
  try rw [hW9]
  refine bodyPost_ret (res_box rfl _ _ (w.heap.size + 1) 24 _ (0,0) _ rfl HF9 Tryz.underlying24 rfl (by kernel_rfl)) rfl ?_
  exact HFin.out W9 xB cB xR cR ((hWw.trans (hb8.mono hWw.size)).trans (hb9 _ (by omega))) (let ⟨D,h⟩:=hFB.out; ⟨D,own_keep h (hk9 5 (by decide))⟩) (let ⟨D,h⟩:=hFR.out; ⟨D,h.keep (hk9 27 (by decide)) (hk9 3 (by decide))⟩)

end Go.Proofs.YtfaggdkiffhdbaaGreatDoor
