/- The reckoning's PutOn. -/
import Derived.Test.YtfaggdkiffhdbaaGreatDoorPart44
namespace Go.Proofs.YtfaggdkiffhdbaaGreatDoor
open Go.RowKit Go.Maps

set_option maxRecDepth 20000 in
set_option maxHeartbeats 4000000 in
/-- PutOn. -/
theorem rPutOn (N M : Nat) (d : Dk) (r : Rc) (sa wa ra ia : Option Addr) (sc wc rc ic : Nat) (w : World) (he : NEnv N w) (hN : N≤w.heap.size) (hM : M≤w.heap.size) (h : DiskIn M w sa sc wa wc d) (hd0 : dErr d=0) (hr : RecIn M w ra rc ia ic r) (hk : (Lit.int .i64 r.kind).wf=true) :
  Calls Tryz.prog 13 #[.agg #[.slice sa d.safe.length sc,.slice wa d.wait.length wc],.agg #[.int .i64 r.kind,.int .i64 r.co,.int .i64 r.ep,.int .i64 r.pl,.slice ra r.says.length rc,.slice ia r.img.length ic]] w (DkL w (dPutR d r).2 (dPutR d r).1):=by
 obtain ⟨W,hW,HBW,HY⟩:=dthree w (.slice sa d.safe.length sc) (.slice wa d.wait.length wc) r.kind r.co r.ep r.pl (.slice ra r.says.length rc) (.slice ia r.img.length ic)
 have HEn : Hid (∀ wk,Below W.heap.size W wk→NEnv N wk∧N≤wk.heap.size∧M≤wk.heap.size∧DiskIn M wk sa sc wa wc d∧RecIn M wk ra rc ia ic r):=fun wk hk => by
  have hb:=(HY.out wk hk).2.2.2
  exact ⟨he.below (hb.mono hN),Nat.le_trans hN hb.size,Nat.le_trans hM hb.size,h.below (hb.mono hM),hr.below (hb.mono hM)⟩
 have HDI : Hid (∀ wk,Below w.heap.size w wk→DiskIn M wk sa sc wa wc d):=fun wk hb => h.below (hb.mono hM)
 have HPr : Hid (Calls Tryz.prog 25 #[.agg #[.int .i64 r.kind,.int .i64 r.co,.int .i64 r.ep,.int .i64 r.pl,.slice ra r.says.length rc,.slice ia r.img.length ic]] W fun e w' => e=.returned (.tuple #[.string (rcText r),.int .i64 (recErr r)])∧Below W.heap.size W w'):=by
  obtain ⟨h1,h2,h3,_,h5⟩:=HEn.out W (Below.refl _ _)
  exact rTextE N M r rc ic ra ia W h2 h1 h3 h5 hk
 have hlen:=(dErr_zero hd0).1
 have HTs : Hid (recErr r=0→(recT r).length≤60000):=fun h0 => recT_short h0 ⟨hr.1.fit,hr.2.fit⟩
 have HMs : Hid (M≤w.heap.size):=hM
 clear h he hN hM hr hk
 by_cases h1 : recErr r=0
 ·have htl:=HTs.out h1
  have HT : Hid (rcText r=bs (recT r)):=rcText_ok h1
  rw [HT.out,h1] at HPr
  have ha : ∀ w,(Op.stringOp .add (bs (recT r)) ⟨#[10]⟩).run Tryz.prog w=.ok (.string (bs (recT r ++ [10]))) w:=add_both (recT r) [10] (by simp only [List.length_cons,List.length_nil]; omega)
  have hbl : (bs (recT r)).size=(recT r).length:=bsz _
  have hbl2 : (bs (recT r ++ [10])).size=(recT r).length + 1:=by rw [bsz]; simp
  by_cases hm : 60000 < d.safe.length + d.wait.length + ((recT r).length + 1)
  ·have HR1 : Hid (dPutR d r=(2,dk0)):=by show _=_; unfold dPutR; rw [if_pos hd0,if_pos h1,if_pos hm]
   have hmi : (60000 : Int) < (d.safe.length : Int) + (d.wait.length : Int) + ((recT r).length : Int) + 1:=by omega
   clear hd0 h1 hm HTs HEn HT HDI
   rw [← hbl] at hmi htl
   generalize dPutR d r=rs at *
   clear ha hbl2
   generalize bs (recT r)=s1 at *
   clear hbl
   generalize d.safe.length=n1 at *
   generalize d.wait.length=n2 at *
   generalize r.says.length=n3 at *
   generalize r.img.length=n4 at *
   generalize r.kind=r0 at *
   generalize r.co=r1 at *
   generalize r.ep=r2 at *
   generalize r.pl=r3 at *
   obtain ⟨j0,j1,j2,j3,j4,j5,_⟩:=(HY.out W (Below.refl _ _)).2.1.at
   go_enter Tryz.func13,Tryz.ntmps13
   go_upto_region 1 with (fail)
   try rw [hW]
   go_upto_region 2 with (go_at_call 25; refine HPr.out.mono ?_; rintro e w3 ⟨rfl,hb3⟩)
   clear j0 j1 j2 j3 j4 j5
   obtain ⟨i1,i2,_⟩:=(HY.out w3 hb3).1.at
   obtain ⟨y0,y1,yf⟩:=(HY.out w3 hb3).2.2.1.at
   have f0:=yf 0
   have f1:=yf 1
   clear yf
   obtain ⟨W6,hW6,HF6,hb6,hk6⟩:=boxD_put (HY.out w3 hb3).2.2.1 (.slice none 0 0) (.slice none 0 0)
   go_wp2_with (fail)
   try rw [hW6]
   refine bodyPost_ret (res_box rfl _ _ (w.heap.size + 2) 24 _ (0,0) _ rfl HF6 Tryz.underlying24 rfl (by kernel_rfl)) rfl ?_
   rw [HR1.out]
   exact DkL.nothing ((HY.out w3 hb3).2.2.2.trans (hb6 _ (by omega)))
  ·have HR1 : Hid (dPutR d r=(0,⟨d.safe,d.wait ++ (recT r ++ [10])⟩)):=by show _=_; unfold dPutR; rw [if_pos hd0,if_pos h1,if_neg hm]
   have hmi : decide ((60000 : Int) < (d.safe.length : Int) + (d.wait.length : Int) + ((recT r).length : Int) + 1)=false:=by rw [decide_eq_false_iff_not]; omega
   have hcv : ∀ wk,(convert 9 22 (.string (bs (recT r ++ [10])))).run Tryz.prog wk=_:=fun wk => run_bytes_of_string wk 9 22 5 (bs (recT r ++ [10])) Tryz.underlying9 Tryz.underlying22 Tryz.underlying5
   have hds:=(HEn.out W (Below.refl _ _)).2.2.2.1
   have hMW:=(HEn.out W (Below.refl _ _)).2.2.1
   have hll : d.wait.length + (recT r ++ [10]).length≤1000000:=by simp; omega
   have HPC : Hid (∀ u v wk,Below W.heap.size W v→Below (v.heap.size + 1 + 1) _ wk→Calls Tryz.prog 20 #[.slice (some ⟨v.heap.size + 1,0,none⟩) 2 2] wk (PutP W wk (d.wait ++ (recT r ++ [10])).length (d.wait ++ (recT r ++ [10])))):=fun u v wk hv hk => put_C M W wa wc d.wait (recT r ++ [10]) _ rfl hll hMW hds.2 u v wk hv hk
   clear hd0 h1 HTs HT hm hds hll HEn
   have hb1 : (bs (recT r ++ [10])).size≤100000:=by omega
   rw [← hbl] at hmi htl
   generalize dPutR d r=rs at *
   have HDd : Hid (∀ wk x c,Below w.heap.size w wk→(∃ D,BS D wk (.slice x (d.wait ++ (recT r ++ [10])).length c) (d.wait ++ (recT r ++ [10])))→DkL w rs.2 rs.1 (.returned (.tuple #[.agg #[.slice sa d.safe.length sc,.slice x (d.wait ++ (recT r ++ [10])).length c],.int .i64 0])) wk):=fun wk x c hb ⟨D,hx⟩ => by
    rw [HR1.out]
    exact ⟨sa,sc,x,c,rfl,⟨(HDI.out wk hb).1.up (Nat.le_trans HMs.out hb.size),own_bytesL hx⟩,hb⟩
   clear HR1 HDI HMs hMW
   generalize d.wait ++ (recT r ++ [10])=wl at *
   generalize bs (recT r ++ [10])=s2 at *
   generalize bs (recT r)=s1 at *
   clear hbl hbl2
   obtain ⟨wn,hwn⟩ : ∃ wn,wl.length=wn:=⟨_,rfl⟩
   rw [hwn] at HPC HDd
   clear hwn
   generalize d.safe.length=n1 at *
   generalize d.wait.length=n2 at *
   generalize r.says.length=n3 at *
   generalize r.img.length=n4 at *
   generalize r.kind=r0 at *
   generalize r.co=r1 at *
   generalize r.ep=r2 at *
   generalize r.pl=r3 at *
   obtain ⟨j0,j1,j2,j3,j4,j5,_⟩:=(HY.out W (Below.refl _ _)).2.1.at
   go_enter Tryz.func13,Tryz.ntmps13
   go_upto_region 1 with (fail)
   try rw [hW]
   go_upto_region 2 with (go_at_call 25; refine HPr.out.mono ?_; rintro e w3 ⟨rfl,hb3⟩)
   clear j0 j1 j2 j3 j4 j5
   obtain ⟨i1,i2,_⟩:=(HY.out w3 hb3).1.at
   go_upto_region 6 with (fail)
   have HUp : Hid (∀ wk,Below w3.heap.size w3 wk→wk.cell? ⟨w.heap.size,0,none⟩=some (.slice sa n1 sc)∧wk.cell? ⟨w.heap.size,1,none⟩=some (.slice wa n2 wc)):=fun wk hk => by
    obtain ⟨x1,x2,_⟩:=(HY.out wk (below_step hb3 hk)).1.at
    exact ⟨x1,x2⟩
   have hbd : Below w3.heap.size w3 w3.drew:=(Below.refl _ _).drew
   have hbc : ∀ o1,Below w3.heap.size w3 ((w3.alloc o1).drew.drew):=fun o1 => (below_alloc w3 o1).drew.drew
   have hbr : ∀ o1 o2,Below w3.heap.size w3 (((w3.alloc o1).alloc o2).drew.drew):=fun o1 o2 => (below_step (below_alloc w3 o1) (below_alloc _ o2)).drew.drew
   have icv1 : ∀ o1 : Obj,(w3.alloc o1).cell? ⟨w.heap.size,0,none⟩=some (.slice sa n1 sc):=fun o1 => (HUp.out _ (below_alloc w3 o1)).1
   have icv2 : ∀ o1 : Obj,(w3.alloc o1).cell? ⟨w.heap.size,1,none⟩=some (.slice wa n2 wc):=fun o1 => (HUp.out _ (below_alloc w3 o1)).2
   have ir : ∀ o1 o2 : Obj,((w3.alloc o1).alloc o2).cell? ⟨w.heap.size,0,none⟩=some (.slice sa n1 sc):=fun o1 o2 => (HUp.out _ (below_step (below_alloc w3 o1) (below_alloc _ o2))).1
   go_region_with (go_at_call 20; refine (HPC.out w3.drew w3 _ hb3 (Below.refl _ _).drew.drew).mono ?_; rintro e w8 ⟨x8,c8,rfl,HX8,HB8,HW8⟩; obtain ⟨x1,x2,_⟩:=(HY.out w8 HW8.out).1.at; obtain ⟨y0,y1,yf⟩:=(HY.out w8 HW8.out).2.2.1.at; have f0:=yf 0; have f1:=yf 1)
   all_goals
    clear x1 x2 yf hcv icv1 icv2 ir
    obtain ⟨W6,hW6,HF6,hb6,hk6⟩:=boxD_put (HY.out w8 HW8.out).2.2.1 (.slice sa n1 sc) (.slice x8 wn c8)
    go_wp2_with (fail)
    try rw [hW6]
    refine bodyPost_ret (res_box rfl _ _ (w.heap.size + 2) 24 _ (0,0) _ rfl HF6 Tryz.underlying24 rfl (by kernel_rfl)) rfl ?_
    obtain ⟨D8,h8⟩:=HX8.out
    exact HDd.out W6 x8 c8 ((HY.out w8 HW8.out).2.2.2.trans (hb6 _ (by omega))) ⟨D8,own_keep h8 (hk6 5 (by decide))⟩
 ·have hne : (recErr r != 0)=true:=by simpa using h1
  have HR1 : Hid (dPutR d r=(recErr r,dk0)):=by show _=_; unfold dPutR; rw [if_pos hd0,if_neg h1]
  clear hd0 h1 HTs HEn hlen HDI HMs
  generalize dPutR d r=rs at *
  generalize rcText r=s1 at *
  generalize recErr r=er at *
  generalize d.safe.length=n1 at *
  generalize d.wait.length=n2 at *
  generalize r.says.length=n3 at *
  generalize r.img.length=n4 at *
  generalize r.kind=r0 at *
  generalize r.co=r1 at *
  generalize r.ep=r2 at *
  generalize r.pl=r3 at *
  obtain ⟨j0,j1,j2,j3,j4,j5,_⟩:=(HY.out W (Below.refl _ _)).2.1.at
  go_enter Tryz.func13,Tryz.ntmps13
  go_upto_region 1 with (fail)
  try rw [hW]
  go_wp2_with (go_at_call 25; refine HPr.out.mono ?_; rintro e w3 ⟨rfl,hb3⟩; obtain ⟨y0,y1,yf⟩:=(HY.out w3 hb3).2.2.1.at; have f0:=yf 0; have f1:=yf 1)
  obtain ⟨W6,hW6,HF6,hb6,hk6⟩:=boxD_put (HY.out w3 hb3).2.2.1 (.slice none 0 0) (.slice none 0 0)
  try rw [hW6]
  refine bodyPost_ret (res_box rfl _ _ (w.heap.size + 2) 24 _ (0,0) _ rfl HF6 Tryz.underlying24 rfl (by kernel_rfl)) rfl ?_
  rw [HR1.out]
  exact DkL.nothing ((HY.out w3 hb3).2.2.2.trans (hb6 _ (by omega)))

end Go.Proofs.YtfaggdkiffhdbaaGreatDoor
