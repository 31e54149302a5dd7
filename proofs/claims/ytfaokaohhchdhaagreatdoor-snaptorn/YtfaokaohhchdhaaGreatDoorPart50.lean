/- packed: the closed fact of the statements on images. -/
import Derived.Test.YtfaokaohhchdhaaGreatDoorSnapU
import Derived.Test.YtfaokaohhchdhaaGreatDoorPart49
import Derived.Test.YtfaokaohhchdhaaGreatDoorPart21
import Derived.Test.YtfaokaohhchdhaaGreatDoorCodedC
import Derived.Test.YtfaokaohhchdhaaGreatDoorChecked
import Derived.Shelf.Slices.Clone
import Derived.Test.YtfaokaohhchdhaaGreatDoorPart18
import Derived.Test.YtfaokaohhchdhaaGreatDoorVmSwpW
import Derived.Test.YtfaokaohhchdhaaGreatDoorPart12
import Derived.Test.YtfaokaohhchdhaaGreatDoorPart15
import Derived.Deep.RegionHeld3
namespace Go.Proofs.YtfaokaohhchdhaaGreatDoor
open Go.RowKit Go.Maps
theorem slice_toP (za : Option Addr) (n zc m : Nat) (h1 : m≤zc) (h2 : zc≤9223372036854775807) (ha : za=none→zc=0) (wk : World) : (Instr.slice 30 (.slice za n zc) none (some (.int .i64 (m : Nat))) none).run Tryz.prog wk=.ok (.slice za m zc) wk:=by
 have hs3 : ∀ w : World,(sizeOf 3).run Tryz.prog w=.ok 1 w:=fun w => by kernel_rfl
 cases za with
 | none =>
  have h0:=ha rfl
  subst h0
  obtain rfl : m=0:=by omega
  simp [Instr.slice,Instr.sliceBounds,Instr.sliceBound,asIntOf,run_underlying Tryz.underlying30,hs3,go_sem]
 | some a =>
  simp [Instr.slice,Instr.sliceBounds,Instr.sliceBound,asIntOf,run_underlying Tryz.underlying30,hs3,go_sem]
  intro h; omega
theorem own_cut {B : Nat} {w : World} {a : Option Addr} {n c : Nat} {l : List Int} (h : NOwn B w (.slice a n c) l) : n≤c∧c≤9223372036854775807∧(a=none→c=0):=by
 rcases id h.2 with ⟨e,h0⟩ | ⟨g,cap,cur,e,_,_,h1,h2,_⟩
 ·injection e with e1 e2 e3
  subst e1 e2 e3
  exact ⟨Nat.le_refl _,by omega,fun _ => rfl⟩
 ·injection e with e1 e2 e3
  subst e1 e2 e3
  exact ⟨h1,by unfold maxLen at h2; omega,fun h => by cases h⟩
theorem NumsIn.take {R : Nat} {w : World} {a : Option Addr} {n c : Nat} {l : List Int} (h : NumsIn R w (.slice a n c) l) (k : Nat) (hk : k≤l.length) : NumsIn R w (.slice a k c) (l.take k):=by
 obtain ⟨a',cap,e,h1,h2,h3⟩:=h
 injection e with e1 e2 e3
 subst e1 e3
 have hl : (l.take k).length=k:=by rw [List.length_take]; omega
 refine ⟨a,c,by rw [hl],by omega,by omega,?_⟩
 rcases h3 with h3 | ⟨b,o,hb,hR,hc⟩
 ·left; rw [h3]; simp
 ·refine Or.inr ⟨b,o,hb,hR,fun i z hi => hc i z ?_⟩
  by_cases hik : i < k
  ·rwa [List.getElem?_take_of_lt hik] at hi
  ·rw [List.getElem?_eq_none (by omega)] at hi; cases hi
set_option maxRecDepth 20000 in
set_option maxHeartbeats 4000000 in
theorem packed_core (S : Sta) (n m : Nat) (hm : (n : Int) - 1=(m : Int)) (hn : n≤2000) (w : World) (Pg PA : World→Value→Prop) (PL : World→Option Addr→Nat→Prop)
  (HPg : Hid (Calls Tryz.prog 51 #[] w fun e w' => ∃ v,e=.returned v∧Hid (Pg w' v)∧Hid (Below w.heap.size w w')))
  (HCd : Hid (∀ v wk,Pg wk v→Calls Tryz.prog 50 #[v] wk fun e w' => ∃ a c,e=.returned (.slice a 2 c)∧Hid (PA w' (.slice a 2 c))∧Hid (Below wk.heap.size wk w')))
  (HUp : Hid (∀ wk wj v,PA wk v→Below wk.heap.size wk wj→PA wj v))
  (HUpL : Hid (∀ wk wj la lc,PL wk la lc→Below wk.heap.size wk wj→PL wj la lc))
  (HNw : Hid (∀ a c wk,PA wk (.slice a 2 c)→Calls Tryz.prog 12 #[.slice a 2 c] wk fun e w' => ∃ fa fc ca cc,e=.returned (.tuple #[.agg #[.slice fa S.fs.length fc,.slice ca S.cs.length cc,.int .i64 S.st,.int .i64 S.wh],.int .i64 0])∧Hid (StaAt w' (.slice fa S.fs.length fc) (.slice ca S.cs.length cc) S)∧Hid (Below wk.heap.size wk w')))
  (HPk : Hid (∀ a c fa fc ca cc wk,PA wk (.slice a 2 c)→StaAt wk (.slice fa S.fs.length fc) (.slice ca S.cs.length cc) S→Calls Tryz.prog 31 #[.slice a 2 c,.agg #[.slice fa S.fs.length fc,.slice ca S.cs.length cc,.int .i64 S.st,.int .i64 S.wh]] wk fun e w' => ∃ la lc,e=.returned (.tuple #[.slice la n lc,.int .i64 0])∧Hid (PL w' la lc)∧Hid (∀ wk,(Instr.slice 30 (.slice la n lc) none (some (.int .i64 (m : Nat))) none).run Tryz.prog wk=.ok (.slice la m lc) wk)∧Hid (Below wk.heap.size wk w')))
  (HUn : Hid (∀ a c la lc wk,PA wk (.slice a 2 c)→PL wk la lc→Calls Tryz.prog 32 #[.slice a 2 c,.slice la n lc] wk fun e w' => ∃ fa fc ca cc,e=.returned (.tuple #[.agg #[.slice fa S.fs.length fc,.slice ca S.cs.length cc,.int .i64 S.st,.int .i64 S.wh],.int .i64 0])∧Hid (StaAt w' (.slice fa S.fs.length fc) (.slice ca S.cs.length cc) S)∧Hid (Below wk.heap.size wk w')))
  (HTo : Hid (∀ a c la lc wk,PA wk (.slice a 2 c)→PL wk la lc→Calls Tryz.prog 32 #[.slice a 2 c,.slice la m lc] wk fun e w' => ∃ a1 n1 c1 a2 n2 c2 z1 z2,e=.returned (.tuple #[.agg #[.slice a1 n1 c1,.slice a2 n2 c2,.int .i64 z1,.int .i64 z2],.int .i64 8])∧Hid (Below wk.heap.size wk w')))
  (HSm : Hid (∀ fa fc ca cc ga gc ha hc wk,StaAt wk (.slice fa S.fs.length fc) (.slice ca S.cs.length cc) S→StaAt wk (.slice ga S.fs.length gc) (.slice ha S.cs.length hc) S→Calls Tryz.prog 18 #[.agg #[.slice fa S.fs.length fc,.slice ca S.cs.length cc,.int .i64 S.st,.int .i64 S.wh],.agg #[.slice ga S.fs.length gc,.slice ha S.cs.length hc,.int .i64 S.st,.int .i64 S.wh]] wk fun e w' => e=.returned (.bool true)∧Below wk.heap.size wk w')) :
  Calls Tryz.prog 33 #[] w fun e w' => e=.returned (.bool true)∧Below w.heap.size w w':=by
 have e1 : max 0 (m : Int)=(m : Int):=by omega
 have hm0 : (0 : Int)≤(n : Int) - 1:=by omega
 go_enter Tryz.func33,Tryz.ntmps33
 go_upto_region 3 with (first
  | (go_at_call 12; refine (HNw.out _ _ _ PA2.out).mono ?_; rintro e w3 ⟨fa,fc,ca,cc,rfl,HS3,HB3⟩)
  | (go_at_call 50; refine (HCd.out _ _ PG1.out).mono ?_; rintro e w2 ⟨pa,pc,rfl,PA2,HB2⟩)
  | (go_at_call 51; refine HPg.out.mono ?_; rintro e w1 ⟨v1,rfl,PG1,HB1⟩))
 obtain ⟨W,hW,b0,_,i0,i1,i2,i3⟩:=sbox w3 (.slice fa S.fs.length fc) (.slice ca S.cs.length cc) S.st S.wh
 try rw [hW]
 have HBW : Hid (Below w3.heap.size w3 W):=b0
 have HXW : Hid (∀ wk,Below W.heap.size W wk→wk.cell? ⟨w3.heap.size,0,none⟩=some (.slice fa S.fs.length fc)∧wk.cell? ⟨w3.heap.size,1,none⟩=some (.slice ca S.cs.length cc)∧wk.cell? ⟨w3.heap.size,2,none⟩=some (.int .i64 S.st)∧wk.cell? ⟨w3.heap.size,3,none⟩=some (.int .i64 S.wh)):=fun wk hk => ⟨below_at hk i0,below_at hk i1,below_at hk i2,below_at hk i3⟩
 have PA3 : Hid (PA W (.slice pa 2 pc)):=HUp.out _ _ _ PA2.out (below_step HB3.out HBW.out)
 have HS4 : Hid (StaAt W (.slice fa S.fs.length fc) (.slice ca S.cs.length cc) S):=HS3.out.below HBW.out
 have HBa : Hid (Below w.heap.size w W):=below_step HB1.out (below_step HB2.out (below_step HB3.out HBW.out))
 clear hW b0
 go_upto_region 4 with (go_at_call 31; refine (HPk.out _ _ _ _ _ _ _ PA3.out HS4.out).mono ?_; rintro e w5 ⟨la,lc,rfl,PL5,HSl,HB5⟩)
 have hsl:=HSl.out
 have PA5 : Hid (PA w5 (.slice pa 2 pc)):=HUp.out _ _ _ PA3.out HB5.out
 clear i0 i1 i2 i3
 go_upto_region 5 with (go_at_call 32; refine (HUn.out _ _ _ _ _ PA5.out PL5.out).mono ?_; rintro e w6 ⟨ga,gc,ha,hc,rfl,HS6,HB6⟩)
 obtain ⟨W7,hW7,b7,_,j0,j1,j2,j3⟩:=sbox w6 (.slice ga S.fs.length gc) (.slice ha S.cs.length hc) S.st S.wh
 try rw [hW7]
 have HB7 : Hid (Below w6.heap.size w6 W7):=b7
 have HB57 : Hid (Below w5.heap.size w5 W7):=below_step HB6.out b7
 have PA7 : Hid (PA W7 (.slice pa 2 pc)):=HUp.out _ _ _ PA5.out HB57.out
 have PL7 : Hid (PL W7 la lc):=HUpL.out _ _ _ _ PL5.out HB57.out
 have HX7 : Hid (∀ wk,Below W7.heap.size W7 wk→(wk.cell? ⟨w3.heap.size,0,none⟩=some (.slice fa S.fs.length fc)∧wk.cell? ⟨w3.heap.size,1,none⟩=some (.slice ca S.cs.length cc)∧wk.cell? ⟨w3.heap.size,2,none⟩=some (.int .i64 S.st)∧wk.cell? ⟨w3.heap.size,3,none⟩=some (.int .i64 S.wh))∧wk.cell? ⟨w6.heap.size,0,none⟩=some (.slice ga S.fs.length gc)∧wk.cell? ⟨w6.heap.size,1,none⟩=some (.slice ha S.cs.length hc)∧wk.cell? ⟨w6.heap.size,2,none⟩=some (.int .i64 S.st)∧wk.cell? ⟨w6.heap.size,3,none⟩=some (.int .i64 S.wh)):=fun wk hk => ⟨HXW.out wk (below_step HB5.out (below_step HB57.out hk)),below_at hk j0,below_at hk j1,below_at hk j2,below_at hk j3⟩
 have HSA : Hid (StaAt W7 (.slice fa S.fs.length fc) (.slice ca S.cs.length cc) S):=HS4.out.below (below_step HB5.out HB57.out)
 have HSB : Hid (StaAt W7 (.slice ga S.fs.length gc) (.slice ha S.cs.length hc) S):=HS6.out.below b7
 clear hW7 b7 j0 j1 j2 j3
 go_upto_region 6 with (go_at_call 32; refine (HTo.out _ _ _ _ _ PA7.out PL7.out).mono ?_; rintro e w8 ⟨a1,n1,c1,a2,n2,c2,z1,z2,rfl,HB8⟩)
 obtain ⟨W9,hW9⟩ : ∃ W9,w8.alloc (.cells #[.slice a1 n1 c1,.slice a2 n2 c2,.int .i64 z1,.int .i64 z2] 26)=W9:=⟨_,rfl⟩
 try rw [hW9]
 have HB9 : Hid (Below W7.heap.size W7 W9):=below_step HB8.out (hW9 ▸ below_alloc w8 _)
 clear hW9 hsl
 obtain ⟨⟨k0,k1,k2,k3⟩,l0,l1,l2,l3⟩:=HX7.out W9 HB9.out
 go_wp2_with (go_at_call 18; refine (HSm.out _ _ _ _ _ _ _ _ _ (HSA.out.below HB9.out) (HSB.out.below HB9.out)).mono ?_; rintro e w10 ⟨rfl,hb10⟩)
 go_ret
 exact ⟨rfl,below_step HBa.out (below_step HB5.out (below_step HB57.out (below_step HB9.out hb10)))⟩
theorem cnt_new : vmErr 2 cntP (newS cntP)=0:=by decide +kernel
theorem cnt_newSw : eqSt (newS cntP) (sweptS (newS cntP))=true:=by decide +kernel
theorem packed (N : Nat) (w : World) (hN : N≤w.heap.size) (he : Env N w) (hsp : Spc N w) : Calls Tryz.prog 33 #[] w fun e w' => e=.returned (.bool true)∧Below w.heap.size w w':=by
 obtain ⟨hc,ok,hce⟩:=vmErr_right cnt_new
 have hsw : sweptS (newS cntP)=newS cntP:=(eqSt_iff.1 cnt_newSw).symm
 have hz:=staZs_len (ok.small hc)
 have hpos : 0 < (staZs (newS cntP)).length:=by unfold staZs; simp
 obtain ⟨u0,u1⟩:=unp_image hc hce ok
 rw [hsw] at u0 u1
 refine packed_core (newS cntP) (staZs (newS cntP)).length ((staZs (newS cntP)).length - 1) (by omega) (by omega) w (RqAt 6 (bs countsL)) (fun wk v => ∃ M,M≤wk.heap.size∧ProcsAt M wk v 2 cntP) (fun wk la lc => ∃ B,NOwn B wk (.slice la (staZs (newS cntP)).length lc) (staZs (newS cntP)))
  (programC N w hN he hsp) (fun v wk h => ?_) (fun wk wj v ⟨M,hM,h⟩ hb => ⟨M,Nat.le_trans hM hb.size,h.below (hb.mono hM)⟩) (fun wk wj la lc ⟨B,h⟩ hb => ⟨B,h.below hb⟩)
  (fun a c wk ⟨M,hM,h⟩ => ?_) (fun a c fa fc ca cc wk ⟨M,hM,h⟩ hs => ?_) (fun a c la lc wk ⟨M,hM,h⟩ ⟨B,hl⟩ => ?_) (fun a c la lc wk ⟨M,hM,h⟩ ⟨B,hl⟩ => ?_) (fun fa fc ca cc ga gc ha hc wk h1 h2 => ?_)
 ·refine (codedCnt v wk h).mono ?_
  rintro e w' ⟨a,c,rfl,h1,h2⟩
  exact ⟨a,c,rfl,⟨_,Nat.le_refl _,h1.out⟩,h2⟩
 ·refine (newK M _ wk hM h cnt_right).mono ?_
  rintro e w' ⟨fa,fc,ca,cc,rfl,h1,h2⟩
  exact ⟨fa,fc,ca,cc,rfl,h1.out.at hc ok,h2⟩
 ·have:=packP M _ _ _ (newS cntP) wk hM h hs cnt_new
  rw [hsw] at this
  refine this.mono ?_
  rintro e w' ⟨la,lc,rfl,h1,h2⟩
  obtain ⟨k1,k2,k3⟩:=own_cut h1.out
  exact ⟨la,lc,rfl,⟨_,h1.out⟩,slice_toP la _ lc _ (by omega) k2 k3,h2⟩
 ·have:=unpackC M _ la lc (staZs (newS cntP)) wk hM h (fun _ => hl.numsIn (by omega))
  rw [u0,u1] at this
  refine this.mono ?_
  rintro e w' ⟨fa,fc,ca,cc,rfl,h1,h2⟩
  exact ⟨fa,fc,ca,cc,rfl,h1.out.at hc ok,h2⟩
 ·have ht:=unp_less hc ok (k:=(staZs (newS cntP)).length - 1) (by rw [hsw]; omega)
  rw [hsw] at ht
  have hln : ((staZs (newS cntP)).take ((staZs (newS cntP)).length - 1)).length=(staZs (newS cntP)).length - 1:=by rw [List.length_take]; omega
  have hin:=(hl.numsIn (by omega)).take ((staZs (newS cntP)).length - 1) (by omega)
  have:=unpackC M _ la lc ((staZs (newS cntP)).take ((staZs (newS cntP)).length - 1)) wk hM h (fun _ => by rw [hln]; exact hin)
  rw [hln,ht] at this
  refine this.mono ?_
  rintro e w' ⟨fa,fc,ca,cc,rfl,_,h2⟩
  exact ⟨_,_,_,_,_,_,_,_,rfl,h2⟩
 ·have:=vmSame (newS cntP) (newS cntP) _ _ _ _ wk h1 h2
  rw [eqSt_iff.2 rfl] at this
  exact this
set_option maxHeartbeats 1000000 in
theorem lawAt (k : Int) (n : Nat) (h0 : 0 < n) (hn : n≤1000000) (w : World) : Calls Tryz.prog 25 #[.int .i64 k,.int .i64 n] w fun e w' => e=.returned (.int .i64 (k % (n : Int)))∧w'=w:=by
 have b1 : k.tmod (n : Int) < (n : Int):=Int.tmod_lt_of_pos k (by omega)
 have b2 : -(n : Int) < k.tmod (n : Int):=by
  have:=Int.tmod_lt_of_pos (-k) (b:=(n : Int)) (by omega)
  rw [Int.neg_tmod] at this
  omega
 have hne : ¬ (n : Int)=0:=by omega
 have e:=Int.emod_eq_tmod (a:=k) (b:=(n : Int))
 have e2:=Int.emod_nonneg k hne
 have e3:=Int.emod_lt_of_pos k (b:=(n : Int)) (by omega)
 obtain ⟨t,ht⟩ : ∃ t,k.tmod (n : Int)=t:=⟨_,rfl⟩
 have key : k % (n : Int)=if t < 0 then t + n else t:=by
  have h1 : (n : Int) ∣ k - t:=by rw [← ht]; exact Int.dvd_self_sub_tmod
  have h2 : (n : Int) ∣ k - k % (n : Int):=Int.dvd_self_sub_emod
  have h3 : (n : Int) ∣ (k % (n : Int)) - t:=by
   have:=Int.dvd_sub h1 h2
   rwa [show k - t - (k - k % (n : Int))=k % (n : Int) - t by omega] at this
  obtain ⟨c,hc⟩:=h3
  rw [ht] at b1 b2
  have hc2 : c=0∨c=1:=by
   have hp : (n : Int) * c < n * 2:=by omega
   have hq : (n : Int) * (-1) < n * c:=by omega
   have:=Int.lt_of_mul_lt_mul_left hp (by omega)
   have:=Int.lt_of_mul_lt_mul_left hq (by omega)
   omega
  split
  ·rcases hc2 with rfl | rfl <;> omega
  ·rcases hc2 with rfl | rfl <;> omega
 have KEY : Hid (k % (n : Int)=if t < 0 then t + n else t):=key
 clear key e e2 e3
 rw [ht] at b1 b2
 by_cases h : t < 0
 ·go_enter Tryz.func25,Tryz.ntmps25
  go_wp2
  go_ret
  refine ⟨?_,rfl⟩
  rw [KEY.out,if_pos (by omega)]
  rfl
 ·go_enter Tryz.func25,Tryz.ntmps25
  go_wp2
  go_ret
  refine ⟨?_,rfl⟩
  rw [KEY.out,if_neg (by omega)]
  rfl
end Go.Proofs.YtfaokaohhchdhaaGreatDoor
namespace Go.Proofs.YtfaokaohhchdhaaGreatDoor
open Go.Shelf
def Tryz.laysNm215_ren : Go.Shelf.Ren:=⟨fun | 15 => 36 | n => n,fun | 22 => 30 | 3 => 3 | 4 => 4 | n => n,fun | n => n⟩
theorem Tryz.laysNm215 : Go.Proofs.Lays2.n15 Tryz.prog Tryz.laysNm215_ren:={
 mixed:=by kernel_rfl
 f15:=Tryz.func36.trans (congrArg some (by kernel_rfl))
 t3:=Tryz.underlying3
 a3:=Tryz.isAgg3
 z3:=Tryz.sizeOf3
 v3:=Tryz.zeroValue3
 t4:=Tryz.underlying4
 a4:=Tryz.isAgg4
 z4:=Tryz.sizeOf4
 v4:=Tryz.zeroValue4
 t22:=Tryz.underlying30
 a22:=Tryz.isAgg30
 z22:=Tryz.sizeOf30
 v22:=Tryz.zeroValue30
 i3:=by kernel_rfl }
open Go.RowKit Go.Lib in
theorem Tryz.slices_Clone_int (b off n c : Nat) (zs : List Int) (w : World) (hz : n≤zs.length) (hbig : n * 8≤140737488355328) (hc : ∀ j,j < zs.length→w.cell? ⟨b,off + j,none⟩=some (.int .i64 (zs.getD j 0))) :
  Calls Tryz.prog 36 #[.slice (some ⟨b,off,none⟩) n c] w fun e w' => ∃ v',e=.returned v'∧w'.ownsRow w.heap.size 3 1 v' n ((zs.take n).map (Value.int .i64))∧v' ≠ .slice none 0 0∧Below w.heap.size w w':=Any.slices_Clone_int Tryz.laysNm215 b off n c zs w hz hbig hc
end Go.Proofs.YtfaokaohhchdhaaGreatDoor
namespace Go.Proofs.YtfaokaohhchdhaaGreatDoor
open Go.RowKit Go.Maps
def TrueC (k : FuncId) (w : World) : Prop:=∀ wk,Below w.heap.size w wk→Calls Tryz.prog k #[] wk fun e w' => e=.returned (.bool true)∧Below wk.heap.size wk w'
theorem TrueC.up {k : FuncId} {w w' : World} (h : TrueC k w) (hb : Below w.heap.size w w') : TrueC k w':=fun wk hk => h wk (below_step hb hk)
end Go.Proofs.YtfaokaohhchdhaaGreatDoor
namespace Go.Proofs.YtfaokaohhchdhaaGreatDoor
end Go.Proofs.YtfaokaohhchdhaaGreatDoor
namespace Go.Proofs.YtfaokaohhchdhaaGreatDoor
open Go.RowKit Go.Maps
def StaGood (np : Nat) (P : Nat→Pc) (S : Sta) : Prop:=CodeOK np P∧StaOK np P S∧codeErr np P=0
theorem StaGood.err {np : Nat} {P : Nat→Pc} {S : Sta} (h : StaGood np P S) : vmErr np P S=0:=by unfold vmErr; rw [if_pos h.2.2]; exact staErr_zero.2 h.2.1
theorem StaGood.run {np : Nat} {P : Nat→Pc} {S : Sta} (h : StaGood np P S) (h0 : S.st=0) {f : Nat} (hf : f≤2000) : runErr np P S f=0:=by
 unfold runErr
 rw [if_pos h.err,if_neg (by omega),if_pos h0]
end Go.Proofs.YtfaokaohhchdhaaGreatDoor
