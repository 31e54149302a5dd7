/- vm.Check: what is wrong with a program, or with a state of it. -/
import Derived.Test.YtfaokaohhchdhaaGreatDoorVmMem
import Derived.Test.YtfaokaohhchdhaaGreatDoorPart9
import Derived.Deep.RegionHeld3
namespace Go.Proofs.YtfaokaohhchdhaaGreatDoor
open Go.RowKit Go.Maps
theorem frErr_5 {np:Nat} {P:Nat→Pc} {h nc:Nat} {f:Fm} (e:f.proc<0∨(np:Int)≤f.proc):frErr np P h nc f=5:=if_pos e
theorem frErr_3 {np:Nat} {P:Nat→Pc} {h nc:Nat} {f:Fm} (e:¬(f.proc<0∨(np:Int)≤f.proc)) (e2:f.pos<0∨((P f.proc.toNat).n:Int)≤f.pos∨f.to<0∨(h:Int)≤f.to):frErr np P h nc f=3:=by
 unfold frErr;rw[if_neg e,if_pos e2]
theorem frErr_4 {np:Nat} {P:Nat→Pc} {h nc:Nat} {f:Fm} (e:¬(f.proc<0∨(np:Int)≤f.proc)) (e2:¬(f.pos<0∨((P f.proc.toNat).n:Int)≤f.pos∨f.to<0∨(h:Int)≤f.to)) (e3:¬(f.regs.length:Int)=(P f.proc.toNat).regs):frErr np P h nc f=4:=by
 unfold frErr;rw[if_neg e,if_neg e2,if_pos e3]
theorem frErr_row {np:Nat} {P:Nat→Pc} {h nc:Nat} {f:Fm} (e:¬(f.proc<0∨(np:Int)≤f.proc)) (e2:¬(f.pos<0∨((P f.proc.toNat).n:Int)≤f.pos∨f.to<0∨(h:Int)≤f.to)) (e3:(f.regs.length:Int)=(P f.proc.toNat).regs):frErr np P h nc f=rowErr f.regs.length (fstAt f.regs) (sndAt f.regs) nc:=by
 unfold frErr;rw[if_neg e,if_neg e2,if_neg (fun h=>h e3)]
set_option maxHeartbeats 1000000 in
theorem checkFrame5 (pa:Option Addr) (np pc:Nat) (pr po tv:Int) (ua:Option Addr) (un uc:Nat) (h nc:Nat) (w:World) (e:pr<0∨(np:Int)≤pr) :
  Calls Tryz.prog 106 #[.agg #[.int .i64 pr,.int .i64 po,.slice ua un uc,.int .i64 tv],.slice pa np pc,.int .i64 h,.int .i64 nc] w fun e w'=>e=.returned (.int .i64 5)∧Below w.heap.size w w':=by
 by_cases h0:pr<0
 ·clear e
  go_enter Tryz.func106,Tryz.ntmps106
  go_wp2
  go_ret
  exact⟨rfl,below_alloc _ _⟩
 ·have h1:(np:Int)≤pr:=by omega
  clear e
  go_enter Tryz.func106,Tryz.ntmps106
  go_wp2
  go_ret
  exact⟨rfl,below_alloc _ _⟩
theorem fbox (w:World) (pr po tv:Int) (uv:Value):∃W,w.alloc (.cells #[.int .i64 pr,.int .i64 po,uv,.int .i64 tv] 40)=W∧Below w.heap.size w W∧W.heap.size=w.heap.size+1∧W.cell? ⟨w.heap.size,0,none⟩=some (.int .i64 pr)∧W.cell? ⟨w.heap.size,1,none⟩=some (.int .i64 po)∧W.cell? ⟨w.heap.size,2,none⟩=some uv∧W.cell? ⟨w.heap.size,3,none⟩=some (.int .i64 tv):=by
 refine⟨_,rfl,below_alloc _ _,by simp,?_,?_,?_,?_⟩<;>(rw[World.cell?_alloc_new];rfl)
set_option maxHeartbeats 1000000 in
theorem checkFrame3 (pb poo np pc pr cb co cn cc:Nat) (ppar preg:Int) (po tv:Int) (ua:Option Addr) (un uc:Nat) (h nc:Nat) (w W:World) (HW:Hid (w.alloc (.cells #[.int .i64 pr,.int .i64 po,.slice ua un uc,.int .i64 tv] 40)=W))
  (HI:Hid (∀wi,Below W.heap.size W wi→wi.cell? ⟨w.heap.size,0,none⟩=some (.int .i64 pr)∧wi.cell? ⟨w.heap.size,1,none⟩=some (.int .i64 po)∧wi.cell? ⟨w.heap.size,2,none⟩=some (.slice ua un uc)∧wi.cell? ⟨w.heap.size,3,none⟩=some (.int .i64 tv)))
  (HP:Hid (∀wi,Below W.heap.size W wi→wi.cell? ⟨pb,poo+pr*3,none⟩=some (.int .i64 ppar)∧wi.cell? ⟨pb,poo+pr*3+1,none⟩=some (.int .i64 preg)∧wi.cell? ⟨pb,poo+pr*3+2,none⟩=some (.slice (some ⟨cb,co,none⟩) cn cc)))
  (hpr:pr<np) (HB:Hid (Below w.heap.size w W)) (e:po<0∨(cn:Int)≤po∨tv<0∨(h:Int)≤tv) :
  Calls Tryz.prog 106 #[.agg #[.int .i64 pr,.int .i64 po,.slice ua un uc,.int .i64 tv],.slice (some ⟨pb,poo,none⟩) np pc,.int .i64 h,.int .i64 nc] w fun e w'=>e=.returned (.int .i64 3)∧Below w.heap.size w w':=by
 have h1:(0:Int)≤(pr:Int):=by omega
 have h2:(pr:Int)<(np:Int):=by omega
 have h3:¬(pr:Int)<0:=by omega
 have h4:¬(np:Int)≤(pr:Int):=by omega
 obtain⟨i0,i1,i2,i3⟩:=HI.out W (Below.refl _ _)
 obtain⟨p0,p1,p2⟩:=HP.out W (Below.refl _ _)
 go_enter Tryz.func106,Tryz.ntmps106
 go_upto_region 1 with (fail)
 rw[HW.out]
 go_upto_region 4 with (fail)
 clear i0 i1 i2 i3 p0 p1 p2
 obtain⟨W3,hW3⟩:∃W3,W.alloc (.cells #[.int .i64 ppar,.int .i64 preg,.slice (some ⟨cb,co,none⟩) cn cc] 38)=W3:=⟨_,rfl⟩
 have hb3:Below W.heap.size W W3:=hW3 ▸ below_alloc W _
 obtain⟨i0,i1,i2,i3⟩:=HI.out W3 hb3
 have j1:W3.cell? ⟨W.heap.size,1,none⟩=some (.int .i64 preg):=by rw[←hW3,World.cell?_alloc_new];rfl
 have j2:W3.cell? ⟨W.heap.size,2,none⟩=some (.slice (some ⟨cb,co,none⟩) cn cc):=by rw[←hW3,World.cell?_alloc_new];rfl
 have HB3:Hid (Below w.heap.size w W3):=HB.out.trans (hb3.mono HB.out.size)
 rw[hW3]
 clear hW3 hb3
 by_cases e1:po<0
 ·clear e
  go_wp2
  go_ret
  exact⟨rfl,HB3.out⟩
 by_cases e2:(cn:Int)≤po
 ·clear e
  go_wp2
  go_ret
  exact⟨rfl,HB3.out⟩
 by_cases e3:tv<0
 ·clear e
  go_wp2
  go_ret
  exact⟨rfl,HB3.out⟩
 have e4:(h:Int)≤tv:=by omega
 clear e
 go_wp2
 go_ret
 exact⟨rfl,HB3.out⟩
set_option maxHeartbeats 1000000 in
theorem checkFrame4 (pb poo np pc pr cb co cn cc:Nat) (ppar preg:Int) (po tv:Int) (ua:Option Addr) (un uc:Nat) (h nc:Nat) (w W:World) (HW:Hid (w.alloc (.cells #[.int .i64 pr,.int .i64 po,.slice ua un uc,.int .i64 tv] 40)=W))
  (HI:Hid (∀wi,Below W.heap.size W wi→wi.cell? ⟨w.heap.size,0,none⟩=some (.int .i64 pr)∧wi.cell? ⟨w.heap.size,1,none⟩=some (.int .i64 po)∧wi.cell? ⟨w.heap.size,2,none⟩=some (.slice ua un uc)∧wi.cell? ⟨w.heap.size,3,none⟩=some (.int .i64 tv)))
  (HP:Hid (∀wi,Below W.heap.size W wi→wi.cell? ⟨pb,poo+pr*3,none⟩=some (.int .i64 ppar)∧wi.cell? ⟨pb,poo+pr*3+1,none⟩=some (.int .i64 preg)∧wi.cell? ⟨pb,poo+pr*3+2,none⟩=some (.slice (some ⟨cb,co,none⟩) cn cc)))
  (hpr:pr<np) (HB:Hid (Below w.heap.size w W)) (e:¬(po<0∨(cn:Int)≤po∨tv<0∨(h:Int)≤tv)) (e5:¬(un:Int)=preg) :
  Calls Tryz.prog 106 #[.agg #[.int .i64 pr,.int .i64 po,.slice ua un uc,.int .i64 tv],.slice (some ⟨pb,poo,none⟩) np pc,.int .i64 h,.int .i64 nc] w fun e w'=>e=.returned (.int .i64 4)∧Below w.heap.size w w':=by
 have h1:(0:Int)≤(pr:Int):=by omega
 have h2:(pr:Int)<(np:Int):=by omega
 have h3:¬(pr:Int)<0:=by omega
 have h4:¬(np:Int)≤(pr:Int):=by omega
 obtain⟨i0,i1,i2,i3⟩:=HI.out W (Below.refl _ _)
 obtain⟨p0,p1,p2⟩:=HP.out W (Below.refl _ _)
 go_enter Tryz.func106,Tryz.ntmps106
 go_upto_region 1 with (fail)
 rw[HW.out]
 go_upto_region 4 with (fail)
 clear i0 i1 i2 i3 p0 p1 p2
 obtain⟨W3,hW3⟩:∃W3,W.alloc (.cells #[.int .i64 ppar,.int .i64 preg,.slice (some ⟨cb,co,none⟩) cn cc] 38)=W3:=⟨_,rfl⟩
 have hb3:Below W.heap.size W W3:=hW3 ▸ below_alloc W _
 obtain⟨i0,i1,i2,i3⟩:=HI.out W3 hb3
 have j1:W3.cell? ⟨W.heap.size,1,none⟩=some (.int .i64 preg):=by rw[←hW3,World.cell?_alloc_new];rfl
 have j2:W3.cell? ⟨W.heap.size,2,none⟩=some (.slice (some ⟨cb,co,none⟩) cn cc):=by rw[←hW3,World.cell?_alloc_new];rfl
 have HB3:Hid (Below w.heap.size w W3):=HB.out.trans (hb3.mono HB.out.size)
 rw[hW3]
 clear hW3 hb3
 have e1:¬po<0:=by omega
 have e2:¬(cn:Int)≤po:=by omega
 have e3:¬tv<0:=by omega
 have e4:¬(h:Int)≤tv:=by omega
 have e6:((un:Int) != preg)=true:=by simp[e5]
 clear e e5
 go_wp2
 go_ret
 exact⟨rfl,HB3.out⟩
set_option maxHeartbeats 2000000 in
theorem checkFrameR (pb poo np pc pr cb co cn cc:Nat) (ppar preg:Int) (po tv:Int) (ua:Option Addr) (un uc:Nat) (h nc:Nat) (w W:World) (HW:Hid (w.alloc (.cells #[.int .i64 pr,.int .i64 po,.slice ua un uc,.int .i64 tv] 40)=W))
  (HI:Hid (∀wi,Below W.heap.size W wi→wi.cell? ⟨w.heap.size,0,none⟩=some (.int .i64 pr)∧wi.cell? ⟨w.heap.size,1,none⟩=some (.int .i64 po)∧wi.cell? ⟨w.heap.size,2,none⟩=some (.slice ua un uc)∧wi.cell? ⟨w.heap.size,3,none⟩=some (.int .i64 tv)))
  (HP:Hid (∀wi,Below W.heap.size W wi→wi.cell? ⟨pb,poo+pr*3,none⟩=some (.int .i64 ppar)∧wi.cell? ⟨pb,poo+pr*3+1,none⟩=some (.int .i64 preg)∧wi.cell? ⟨pb,poo+pr*3+2,none⟩=some (.slice (some ⟨cb,co,none⟩) cn cc)))
  (hpr:pr<np) (HB:Hid (Below w.heap.size w W)) (k z:Nat→Int) (HV:Hid (ValsAt w (.slice ua un uc) un k z)) (e:¬(po<0∨(cn:Int)≤po∨tv<0∨(h:Int)≤tv)) (e5:(un:Int)=preg) :
  Calls Tryz.prog 106 #[.agg #[.int .i64 pr,.int .i64 po,.slice ua un uc,.int .i64 tv],.slice (some ⟨pb,poo,none⟩) np pc,.int .i64 h,.int .i64 nc] w fun e w'=>e=.returned (.int .i64 (rowErr un k z nc))∧Below w.heap.size w w':=by
 have h1:(0:Int)≤(pr:Int):=by omega
 have h2:(pr:Int)<(np:Int):=by omega
 have h3:¬(pr:Int)<0:=by omega
 have h4:¬(np:Int)≤(pr:Int):=by omega
 obtain⟨i0,i1,i2,i3⟩:=HI.out W (Below.refl _ _)
 obtain⟨p0,p1,p2⟩:=HP.out W (Below.refl _ _)
 go_enter Tryz.func106,Tryz.ntmps106
 go_upto_region 1 with (fail)
 rw[HW.out]
 go_upto_region 4 with (fail)
 clear i0 i1 i2 i3 p0 p1 p2
 obtain⟨W3,hW3⟩:∃W3,W.alloc (.cells #[.int .i64 ppar,.int .i64 preg,.slice (some ⟨cb,co,none⟩) cn cc] 38)=W3:=⟨_,rfl⟩
 have hb3:Below W.heap.size W W3:=hW3 ▸ below_alloc W _
 obtain⟨i0,i1,i2,i3⟩:=HI.out W3 hb3
 have j1:W3.cell? ⟨W.heap.size,1,none⟩=some (.int .i64 preg):=by rw[←hW3,World.cell?_alloc_new];rfl
 have j2:W3.cell? ⟨W.heap.size,2,none⟩=some (.slice (some ⟨cb,co,none⟩) cn cc):=by rw[←hW3,World.cell?_alloc_new];rfl
 have HB3:Hid (Below w.heap.size w W3):=HB.out.trans (hb3.mono HB.out.size)
 rw[hW3]
 clear hW3 hb3
 have e1:¬po<0:=by omega
 have e2:¬(cn:Int)≤po:=by omega
 have e3:¬tv<0:=by omega
 have e4:¬(h:Int)≤tv:=by omega
 have e6:((un:Int) != preg)=false:=by simp[e5]
 clear e e5
 obtain⟨ua',uc',eu,hun,hv⟩:=HV.out.below HB3.out
 cases eu
 go_wp2
 clear i0 i1 i2 i3 j1 j2
 go_loopw [59] (fun i wr=>∃j:Nat,j≤un∧i=.int .i64 j∧Below W3.heap.size W3 wr∧Hid (∀x,x<j→chk (k x) (z x) nc=0)) (fun i _=>un - (intOf i).toNat)
 case atStart=>exact⟨0,Nat.zero_le _,rfl,Below.refl _ _,fun j hj=>absurd hj (Nat.not_lt_zero _)⟩
 case round =>
  obtain⟨j,hj,rfl,hb,hall⟩:=hrel
  by_cases hlt:j<un
  ·rcases hv with hv|⟨p,o,rfl,hp,g⟩
   ·omega
   obtain⟨q0,q1⟩:=g j hlt
   rw[←hb.cell hp]at q0 q1
   clear g
   have hz:=hb.size
   by_cases he:chk (k j) (z j) nc=0
   ·have het:(chk (k j) (z j) nc != 0)=false:=by simp[he]
    have HE:Hid (chk (k j) (z j) nc=0):=he
    clear he
    go_wp2_with (go_at_call 154;refine (cCheck _ _ _ _).mono ?_;rintro e w1 ⟨rfl,hb1⟩)
    go_roundw
    case rel=>exact⟨j+1,by omega,by go_num,hb.trans (((below_alloc _ _).trans (hb1.mono (by simp))).mono hz),upTo hall.out HE.out⟩
    case measure=>simp[intOf];omega
   ·have het:(chk (k j) (z j) nc != 0)=true:=by simp[he]
    have HE:Hid (rowErr un k z nc=chk (k j) (z j) nc):=firstErr_at hall.out he hlt
    clear he
    go_wp2_with (go_at_call 154;refine (cCheck _ _ _ _).mono ?_;rintro e w1 ⟨rfl,hb1⟩)
    go_ret
    exact⟨ret_num HE.out.symm,HB3.out.trans ((hb.trans (((below_alloc _ _).trans (hb1.mono (by simp))).mono hz)).mono HB3.out.size)⟩
  ·go_wp2
   go_ret
   obtain rfl:j=un:=by omega
   exact⟨ret_num (firstErr_zero hall.out).symm,HB3.out.trans (hb.mono HB3.out.size)⟩
theorem checkFrame (M:Nat) (pv:Value) (np:Nat) (P:Nat→Pc) (f:Fm) (uv:Value) (h nc:Nat) (w:World) (hM:M≤w.heap.size) (hp:ProcsAt M w pv np P) (hcn:∀k,k<np→1≤(P k).n) (hu:RowAt w uv f.regs) :
  Calls Tryz.prog 106 #[.agg #[.int .i64 f.proc,.int .i64 f.pos,uv,.int .i64 f.to],pv,.int .i64 h,.int .i64 nc] w fun e w'=>e=.returned (.int .i64 (frErr np P h nc f))∧Below w.heap.size w w':=by
 have hu':=hu
 obtain⟨ua,uc,rfl,_⟩:=hu'
 have hp':=hp
 obtain⟨pa,pc,rfl,_,hp1⟩:=hp'
 by_cases e1:f.proc<0∨(np:Int)≤f.proc
 ·rw[frErr_5 e1]
  exact checkFrame5 pa np pc f.proc f.pos f.to ua _ uc h nc w e1
 obtain⟨pr,hpr⟩:∃n:Nat,f.proc=n:=⟨f.proc.toNat,by omega⟩
 have hprn:pr<np:=by omega
 rcases hp1 with hp1|⟨pb,poo,rfl,hpb,hp1⟩
 ·omega
 obtain⟨vc,c0,c1,c2,hv⟩:=hp1 pr hprn
 have hn1:=hcn pr hprn
 obtain⟨ca,cc,rfl,_,hv|⟨cb,co,rfl,hcb,_⟩⟩:=hv
 ·omega
 obtain⟨W,hW,b0,hsz,i0,i1,i2,i3⟩:=fbox w f.proc f.pos f.to (.slice ua f.regs.length uc)
 rw[hpr]at hW i0
 have HI:Hid (∀wi,Below W.heap.size W wi→wi.cell? ⟨w.heap.size,0,none⟩=some (.int .i64 pr)∧wi.cell? ⟨w.heap.size,1,none⟩=some (.int .i64 f.pos)∧wi.cell? ⟨w.heap.size,2,none⟩=some (.slice ua f.regs.length uc)∧wi.cell? ⟨w.heap.size,3,none⟩=some (.int .i64 f.to)):=fun wi hw=>⟨(hw.cell (cell_lt i0)).trans i0,(hw.cell (cell_lt i1)).trans i1,(hw.cell (cell_lt i2)).trans i2,(hw.cell (cell_lt i3)).trans i3⟩
 have HP:Hid (∀wi,Below W.heap.size W wi→wi.cell? ⟨pb,poo+pr*3,none⟩=some (.int .i64 (P pr).params)∧wi.cell? ⟨pb,poo+pr*3+1,none⟩=some (.int .i64 (P pr).regs)∧wi.cell? ⟨pb,poo+pr*3+2,none⟩=some (.slice (some ⟨cb,co,none⟩) (P pr).n cc)):=fun wi hw=>by
  have hb:=below_step b0 hw
  have hlt:pb<w.heap.size:=by omega
  exact⟨(hb.cell hlt).trans c0,(hb.cell hlt).trans c1,(hb.cell hlt).trans c2⟩
 have ept:(P f.proc.toNat)=P pr:=by rw[hpr,Int.toNat_natCast]
 by_cases e2:f.pos<0∨((P pr).n:Int)≤f.pos∨f.to<0∨(h:Int)≤f.to
 ·rw[frErr_3 e1 (by rw[ept];exact e2),hpr]
  exact checkFrame3 pb poo np pc pr cb co _ cc _ _ f.pos f.to ua _ uc h nc w W hW HI HP hprn b0 e2
 by_cases e3:(f.regs.length:Int)=(P pr).regs
 ·rw[frErr_row e1 (by rw[ept];exact e2) (by rw[ept];exact e3),hpr]
  exact checkFrameR pb poo np pc pr cb co _ cc _ _ f.pos f.to ua _ uc h nc w W hW HI HP hprn b0 _ _ hu e2 e3
 ·rw[frErr_4 e1 (by rw[ept];exact e2) (by rw[ept];exact e3),hpr]
  exact checkFrame4 pb poo np pc pr cb co _ cc _ _ f.pos f.to ua _ uc h nc w W hW HI HP hprn b0 e2 e3
theorem rowL_self (L:List (Int×Int)):rowL L.length (fstAt L) (sndAt L)=L:=by
 refine List.ext_getElem (by simp[rowL]) fun i h1 h2=>?_
 simp[rowL,fstAt,sndAt,List.getD_eq_getElem?_getD,List.getElem?_eq_getElem h2]
theorem cloneRow (v:Value) (L:List (Int×Int)) (w:World) (h:RowAt w v L) (hn:L.length≤1000) :
  Calls Tryz.prog 99 #[v] w fun e w'=>∃ad cap,e=.returned (.slice ad L.length cap)∧Hid (VRow w.heap.size w' (.slice ad L.length cap) L)∧Below w.heap.size w w':=by
 refine (cloneV v L.length _ _ w h hn).mono ?_
 rintro e w' ⟨ad,cap,rfl,h1,h2⟩
 rw[rowL_self]at h1
 exact⟨ad,cap,rfl,h1,h2⟩
theorem flatF_row:∀(fs:List Fm) (us:List Value) (i:Nat) (u:Value),us.length=fs.length→flatF fs (us.set i u)=(flatF fs us).set (i*4+2) u
 | [],us,i,u,_=>by simp[flatF]
 | f::fs,[],i,u,h=>by simp at h
 | f::fs,x::us,0,u,_=>rfl
 | f::fs,x::us,i+1,u,h=>by
  rw[show (i+1)*4+2=i*4+2+1+1+1+1 by omega]
  simp only[List.set_cons_succ,flatF,flatF_row fs us i u (by simpa using h)]
theorem flatF_one {fs:List Fm}:∀ {us:List Value},(∀u,u ∈ us→u.oneCell'=true)→∀u ∈ flatF fs us,u.oneCell'=true:=by
 induction fs with
 | nil=>intro us _ u h;exact absurd h List.not_mem_nil
 | cons f fs ih =>
  intro us hu u h
  cases us with
  | nil=>exact absurd h List.not_mem_nil
  | cons x us =>
   simp only[flatF,List.mem_cons]at h
   rcases h with rfl|rfl|rfl|rfl|h
   ·rfl
   ·rfl
   ·exact hu _ (by simp)
   ·rfl
   ·exact ih (fun y hy=>hu y (by simp[hy])) u h
theorem infoFrame:(Tryz.prog.info? 40).map (fun i=>(i.zero,i.size,i.bytes))=some (some (.agg #[.int .i64 0,.int .i64 0,.slice none 0 0,.int .i64 0]),4,48):=by kernel_rfl
theorem frames_us {w:World} {fs:List Fm} {b o:Nat} (hc:∀i,i<fs.length→∃u,w.cell? ⟨b,o+i*4,none⟩=some (.int .i64 (fmAt fs i).proc)∧w.cell? ⟨b,o+i*4+1,none⟩=some (.int .i64 (fmAt fs i).pos)∧w.cell? ⟨b,o+i*4+2,none⟩=some u∧w.cell? ⟨b,o+i*4+3,none⟩=some (.int .i64 (fmAt fs i).to)∧RowAt w u (fmAt fs i).regs) :
  ∃us:List Value,us.length=fs.length∧(∀i,i<fs.length→∃u,us[i]?=some u∧RowAt w u (fmAt fs i).regs)∧(∀u,u ∈ us→u.oneCell'=true)∧∀j u,(flatF fs us)[j]?=some u→w.cell? ((⟨b,o,none⟩:Addr).add j)=some u:=by
 obtain⟨U,hU⟩:=Deep.choose_lt hc
 have hat:∀i,i<fs.length→((List.range fs.length).map U)[i]?=some (U i):=fun i hi=>by simp[hi]
 have hlen:((List.range fs.length).map U).length=fs.length:=by simp
 refine⟨(List.range fs.length).map U,hlen,fun i hi=>⟨U i,hat i hi,(hU i hi).2.2.2.2⟩,fun u hu=>?_,fun j u hj=>?_⟩
 ·obtain⟨i,hi,rfl⟩:=List.mem_map.1 hu
  exact vals_one (hU i (List.mem_range.1 hi)).2.2.2.2
 ·have hj':j<fs.length*4:=by
   have:=(List.getElem?_eq_some_iff.1 hj).1
   rwa [flatF_len _ _ hlen]at this
  have hi:j / 4<fs.length:=by omega
  obtain⟨x,h0,h1,h2,h3,h4⟩:=flatF_at fs _ hlen (j / 4) hi
  rw[hat _ hi]at h0
  cases h0
  obtain⟨g0,g1,g2,g3,_⟩:=hU _ hi
  rw[WideShapes.add_plain]
  have hm:j % 4=0∨j % 4=1∨j % 4=2∨j % 4=3:=by omega
  rcases hm with e|e|e|e
  ·have ej:j / 4*4=j:=by omega
   rw[ej]at h1 g0
   rw[h1]at hj;rw[g0];exact hj
  ·have ej:j / 4*4+1=j:=by omega
   rw[ej]at h2
   rw[Nat.add_assoc,ej]at g1
   rw[h2]at hj;rw[g1];exact hj
  ·have ej:j / 4*4+2=j:=by omega
   rw[ej]at h3
   rw[Nat.add_assoc,ej]at g2
   rw[h3]at hj;rw[g2];exact hj
  ·have ej:j / 4*4+3=j:=by omega
   rw[ej]at h4
   rw[Nat.add_assoc,ej]at g3
   rw[h4]at hj;rw[g3];exact hj
theorem append_frames {ops:Array Oper} {rest:List Oper} {o:Oper} {a:Act} {Q:Exit→Act→World→Prop} (w:World) (hgd:o.guard=none) (s y:Operand)
  (ho:o.op=.call { callee:=.builtin .append,args:=#[s,y],argTypes:=#[23,23] }) (base:Nat) (v:Value) (n0:Nat) (xs:List Value) (hs:a.eval s=v) (hown:w.ownsRow base 40 4 v n0 xs)
  (ad:Addr) (n c:Nat) (news:List Value) (hy:a.eval y=.slice (some ad) n c) (hln:news.length=n*4) (hnews:∀j u,news[j]?=some u→w.cell? (ad.add j)=some u) (h1:∀u ∈ news,u.oneCell'=true) (hR:n0+n≤100000) (hbase:base≤w.heap.size)
  (h:∀ad' cap w2,w2.ownsRow base 40 4 (.slice ad' (n0+n) cap) (n0+n) (xs++news)→w.grownBy w2 v.ownBlock→wpList Tryz.prog ops Q rest (a.put o.dst (.slice ad' (n0+n) cap)) w2) :
  wpList Tryz.prog ops Q (o::rest) a w:=by
 obtain⟨i0,hi,hz0,hz1,hz2⟩:=info_parts infoFrame
 refine wpList_append_own _ hgd s y 23 ho base 40 i0 (.agg #[.int .i64 0,.int .i64 0,.slice none 0 0,.int .i64 0]) 4 48 Tryz.underlying23 hi hz0 hz1 hz2 rfl (by decide) v n0 xs hs hown ad n c news hy hln hnews h1 (by unfold maxLen;omega) (by omega) hbase ?_
 intro v' w2 hr hg _
 obtain⟨ad',cap,rfl⟩:=own_shape hr
 exact h ad' cap w2 hr hg
set_option maxHeartbeats 400000 in
theorem cloneF (w0:World) (v:Value) (fs:List Fm) (w:World) (h:FramesAt w0 v fs) (hb0:Below w0.heap.size w0 w) (hn:fs.length≤1000) :
  Calls Tryz.prog 98 #[v] w fun e w'=>∃ad cap us,e=.returned (.slice ad fs.length cap)∧Hid (us.length=fs.length∧w'.ownsRow w.heap.size 40 4 (.slice ad fs.length cap) fs.length (flatF fs us)∧(∀i,i<fs.length→∃u,us[i]?=some u∧RowAt w0 u (fmAt fs i).regs))∧Below w.heap.size w w':=by
 obtain⟨a,cap,rfl,_,h⟩:=h
 rcases a with _|ad
 ·have h0:fs.length=0:=by
   rcases h with h|⟨b,o,e,_⟩
   ·exact h
   ·cases e
  obtain rfl:fs=[]:=List.length_eq_zero_iff.1 h0
  have hq:=fun (w:World)=>Lib.run_eql_slice_nil (P:=Tryz.prog) w 23 40 none 0 cap 0 0 Tryz.underlying23
  clear h h0 hb0
  go_enter Tryz.func98,Tryz.ntmps98
  go_wp2_with fail
  go_ret
  exact⟨none,0,[],rfl,⟨rfl,World.ownsRow_nil _ _ _ _,fun i hi=>absurd hi (Nat.not_lt_zero _)⟩,Below.refl _ _⟩
 ·have hq:=fun (w:World)=>Lib.run_eql_slice_nil (P:=Tryz.prog) w 23 40 (some ad) fs.length cap 0 0 Tryz.underlying23
  obtain⟨us,HU⟩:∃us:List Value,Hid (us.length=fs.length∧(∀i,i<fs.length→∃u,us[i]?=some u∧RowAt w0 u (fmAt fs i).regs)∧(∀u ∈ flatF fs us,u.oneCell'=true)∧∀o:Obj,∀j u,(flatF fs us)[j]?=some u→(w.alloc o).cell? (ad.add j)=some u):=by
   rcases h with h0|⟨b,o,e,hlt,g⟩
   ·obtain rfl:fs=[]:=List.length_eq_zero_iff.1 h0
    exact⟨[],rfl,fun i hi=>absurd hi (Nat.not_lt_zero _),fun u hu=>absurd hu List.not_mem_nil,fun o j u hj=>by cases hj⟩
   ·cases e
    obtain⟨us,h1,h2,h3,h4⟩:=frames_us g
    refine⟨us,h1,h2,flatF_one h3,fun o' j u hj=>?_⟩
    have:=h4 j u hj
    rw[WideShapes.add_plain]at this ⊢
    exact ((below_alloc w o').cell (Nat.lt_of_lt_of_le hlt hb0.size)).trans ((hb0.cell hlt).trans this)
  clear h hb0
  have HN:Hid (fs.length≤1000):=hn
  generalize hln:fs.length=n at *
  go_enter Tryz.func98,Tryz.ntmps98
  go_wp2_with (at_builtin;refine append_frames _ rfl _ _ rfl w.heap.size _ 0 [] rfl (World.ownsRow_lit w #[] 0 (Nat.le_refl _) (by decide) rfl) ad n cap (flatF fs us) rfl (by rw[flatF_len fs us (by rw[hln];exact HU.out.1),hln]) (HU.out.2.2.2 _) HU.out.2.2.1 (by have:=HN.out;omega) (by simp) ?_;intro ad' cp w2 hown hgrow)
  have hg:(w.alloc (.cells #[] 40)).grownBy w2 (some w.heap.size):=hgrow
  go_ret
  refine⟨ad',cp,us,by simp,⟨HU.out.1,by simpa using hown,HU.out.2.1⟩,(below_alloc w _).grown hg (by simp) (fun k hk=>by cases hk;exact Nat.le_refl _)⟩
set_option maxHeartbeats 400000 in
theorem cloneC0 (w0:World) (v:Value) (n:Nat) (m:Nat→Nat) (K Z:Nat→Nat→Int) (w:World) (h:CellsAt w0 v n m K Z) (hb0:Below w0.heap.size w0 w) (hn:n≤1000) :
  Calls Tryz.prog 100 #[v] w fun e w'=>∃ad cap us,e=.returned (.slice ad n cap)∧Hid (us.length=n∧w'.ownsRow w.heap.size 35 1 (.slice ad n cap) n us∧(∀i,i<n→∃u,us[i]?=some u∧ValsAt w0 u (m i) (K i) (Z i)))∧Below w.heap.size w w':=by
 obtain⟨a,cap,rfl,_,h⟩:=h
 rcases a with _|ad
 ·obtain rfl:n=0:=by
   rcases h with h|⟨b,o,e,_⟩
   ·exact h
   ·cases e
  have hq:=fun (w:World)=>Lib.run_eql_slice_nil (P:=Tryz.prog) w 24 35 none 0 cap 0 0 Tryz.underlying24
  clear h hb0
  go_enter Tryz.func100,Tryz.ntmps100
  go_wp2_with fail
  go_ret
  exact⟨none,0,[],rfl,⟨rfl,World.ownsRow_nil _ _ _ _,fun i hi=>absurd hi (Nat.not_lt_zero _)⟩,Below.refl _ _⟩
 ·have hq:=fun (w:World)=>Lib.run_eql_slice_nil (P:=Tryz.prog) w 24 35 (some ad) n cap 0 0 Tryz.underlying24
  obtain⟨us,hul,HU⟩:∃us:List Value,us.length=n∧Hid ((∀i,i<n→∃u,us[i]?=some u∧ValsAt w0 u (m i) (K i) (Z i))∧(∀u ∈ us,u.oneCell'=true)∧∀o:Obj,∀j u,us[j]?=some u→(w.alloc o).cell? (ad.add j)=some u):=by
   rcases h with rfl|⟨b,o,e,hlt,g⟩
   ·exact⟨[],rfl,fun i hi=>absurd hi (Nat.not_lt_zero _),fun u hu=>absurd hu List.not_mem_nil,fun o j u hj=>by cases hj⟩
   ·cases e
    obtain⟨U,hU⟩:=Deep.choose_lt g
    have hat:∀i,i<n→((List.range n).map U)[i]?=some (U i):=fun i hi=>by simp[hi]
    refine⟨(List.range n).map U,by simp,fun i hi=>⟨U i,hat i hi,(hU i hi).2⟩,fun u hu=>?_,fun o' j u hj=>?_⟩
    ·obtain⟨i,hi,rfl⟩:=List.mem_map.1 hu
     exact vals_one (hU i (List.mem_range.1 hi)).2
    ·have hj':j<n:=by
      have:=(List.getElem?_eq_some_iff.1 hj).1
      simpa using this
     rw[hat j hj']at hj
     cases hj
     rw[WideShapes.add_plain]
     exact ((below_alloc w o').cell (Nat.lt_of_lt_of_le hlt hb0.size)).trans ((hb0.cell hlt).trans (hU j hj').1)
  clear h hb0
  subst hul
  go_enter Tryz.func100,Tryz.ntmps100
  go_wp2_with (at_builtin;refine append_cells _ rfl _ _ rfl w.heap.size _ [] rfl (World.ownsRow_lit w #[] 0 (Nat.le_refl _) (by decide) rfl) ad cap us rfl (HU.out.2.2 _) HU.out.2.1 (by simp;omega) (by simp) ?_;intro ad' cp w2 hown hgrow)
  have hg:(w.alloc (.cells #[] 35)).grownBy w2 (some w.heap.size):=hgrow
  go_ret
  refine⟨ad',cp,us,by simp,⟨rfl,by simpa using hown,HU.out.1⟩,(below_alloc w _).grown hg (by simp) (fun k hk=>by cases hk;exact Nat.le_refl _)⟩
def Box4 (t:TypeId) (X:Nat) (w:World) (a b c d:Value):Prop:=w.heap[X]?=some (.cells #[a,b,c,d] t (0,0))
theorem Box4.at {t:TypeId} {X:Nat} {w:World} {a b c d:Value} (h:Box4 t X w a b c d):w.cell? ⟨X,0,none⟩=some a∧w.cell? ⟨X,1,none⟩=some b∧w.cell? ⟨X,2,none⟩=some c∧w.cell? ⟨X,3,none⟩=some d∧∀i,w.frozen? ⟨X,i,none⟩=false:=by
 unfold Box4 at h
 refine⟨?_,?_,?_,?_,fun i=>?_⟩
 ·unfold World.cell?;rw[h];rfl
 ·unfold World.cell?;rw[h];rfl
 ·unfold World.cell?;rw[h];rfl
 ·unfold World.cell?;rw[h];rfl
 ·unfold World.frozen?;rw[h];simp
theorem Box4.set0 {t:TypeId} {X:Nat} {w:World} {a b c d:Value} (h:Box4 t X w a b c d) (v:Value):Box4 t X (w.setCell ⟨X,0,none⟩ v) v b c d:=by
 unfold Box4 at h ⊢
 rw[heap_setCell_same w X 0 _ _ v h];rfl
theorem Box4.set1 {t:TypeId} {X:Nat} {w:World} {a b c d:Value} (h:Box4 t X w a b c d) (v:Value):Box4 t X (w.setCell ⟨X,1,none⟩ v) a v c d:=by
 unfold Box4 at h ⊢
 rw[heap_setCell_same w X 1 _ _ v h];rfl
theorem Box4.keep {t:TypeId} {X:Nat} {w w':World} {a b c d:Value} (h:Box4 t X w a b c d) (hb:w'.heap[X]?=w.heap[X]?):Box4 t X w' a b c d:=by
 unfold Box4 at h ⊢;rw[hb];exact h
def BoxXY (X:Nat) (w:World) (a b c d:Value):Prop:=Box4 26 X w a b c d∧Box4 26 (X+1) w (.slice none 0 0) (.slice none 0 0) (.int .i64 0) (.int .i64 0)
theorem BoxXY.at {X:Nat} {w:World} {a b c d:Value} (h:BoxXY X w a b c d):w.cell? ⟨X,0,none⟩=some a∧w.cell? ⟨X,1,none⟩=some b∧w.cell? ⟨X,2,none⟩=some c∧w.cell? ⟨X,3,none⟩=some d∧∀i,w.frozen? ⟨X,i,none⟩=false:=Box4.at h.1
theorem BoxXY.set0 {X:Nat} {w:World} {a b c d:Value} (h:BoxXY X w a b c d) (v:Value):BoxXY X (w.setCell ⟨X,0,none⟩ v) v b c d:=⟨h.1.set0 v,h.2.keep (Below.heap_setCell w _ _ _ (by show ¬X+1=X;omega))⟩
theorem BoxXY.set1 {X:Nat} {w:World} {a b c d:Value} (h:BoxXY X w a b c d) (v:Value):BoxXY X (w.setCell ⟨X,1,none⟩ v) a v c d:=⟨h.1.set1 v,h.2.keep (Below.heap_setCell w _ _ _ (by show ¬X+1=X;omega))⟩
theorem BoxXY.keep {X:Nat} {w w':World} {a b c d:Value} (h:BoxXY X w a b c d) (hb:∀k,k<X+2→X≤k→w'.heap[k]?=w.heap[k]?):BoxXY X w' a b c d:=⟨h.1.keep (hb X (by omega) (by omega)),h.2.keep (hb (X+1) (by omega) (by omega))⟩
structure CFr (B:Nat) (w0 w:World) (fs:List Fm) (fv:Value) (n:Nat) (us:List Value) (j:Nat):Prop where
 row:w.ownsRow B 40 4 fv n (flatF fs us)
 ul:us.length=fs.length
 new:∀i,i<j→∃u,us[i]?=some u∧VRow B w u (fmAt fs i).regs
 old:∀i,j≤i→i<n→∃u,us[i]?=some u∧RowAt w0 u (fmAt fs i).regs
 rr:∀(i k:Nat) (u u':Value) (b:Nat),i<j→k<j→us[i]?=some u→us[k]?=some u'→u.ownBlock=some b→u'.ownBlock=some b→i=k
theorem ownsRow_lower {w:World} {B B':Nat} {e:TypeId} {size:Nat} {v:Value} {n:Nat} {xs:List Value} (h:w.ownsRow B e size v n xs) (hb:B'≤B):w.ownsRow B' e size v n xs :=
 ⟨h.1,h.2.imp id fun ⟨g,cap,cur,hv,hg,r⟩=>⟨g,cap,cur,hv,Nat.le_trans hb hg,r⟩⟩
theorem VRow.mono {B B':Nat} {w:World} {v:Value} {L:List (Int×Int)} (h:VRow B w v L) (hb:B'≤B):VRow B' w v L:=ownsRow_lower h hb
theorem CFr.step {B M:Nat} {w0 wr w3:World} {fs:List Fm} {g n cap:Nat} {us:List Value} {j:Nat} {v:Value} (h:CFr B w0 wr fs (.slice (some ⟨g,0,none⟩) n cap) n us j) (hn:fs.length=n) (hj:j<n) (hb:Below wr.heap.size wr w3) (hB:B≤wr.heap.size) (hv:VRow M w3 v (fmAt fs j).regs) (hM:wr.heap.size≤M) :
  CFr B w0 (w3.setCell ⟨g,j*4+2,none⟩ v) fs (.slice (some ⟨g,0,none⟩) n cap) n (us.set j v) (j+1):=by
 have hul:=h.ul
 have hlen:=flatF_len fs us hul
 have hrow:w3.ownsRow B 40 4 (.slice (some ⟨g,0,none⟩) n cap) n (flatF fs us):=ownsRow_block h.row fun k hk=>hb.block k (h.row.lt k hk).2
 have keep:∀ {B':Nat} {u:Value} {L:List (Int×Int)},VRow B' w3 u L→VRow B' (w3.setCell ⟨g,j*4+2,none⟩ v) u L:=fun hr=>ownsRow_block hr fun k hk=>Below.heap_setCell w3 _ _ k fun e=>ownsRow_apart hr hrow (by decide) hk (by rw[e];rfl)
 have old:∀i,i<j→∃u,us[i]?=some u∧VRow B wr u (fmAt fs i).regs∧VRow B (w3.setCell ⟨g,j*4+2,none⟩ v) u (fmAt fs i).regs:=fun i hi=>by
  obtain⟨u,h1,h2⟩:=h.new i hi
  exact⟨u,h1,h2,keep (ownsRow_block h2 fun k hk=>hb.block k (h2.lt k hk).2)⟩
 have hset:∀i,¬i=j→(us.set j v)[i]?=us[i]?:=fun i hi=>by rw[List.getElem?_set_ne (fun e=>hi e.symm)]
 have hsj:(us.set j v)[j]?=some v:=by rw[List.getElem?_set_self (by omega)]
 refine⟨?_,by simpa using hul,fun i hi=>?_,fun i h1 h2=>?_,fun i k u u' b hi hk hu hu' hx hx'=>?_⟩
 ·rw[flatF_row _ _ _ _ hul]
  exact ownsRow_set hrow (j*4+2) (by omega) _
 ·by_cases e:i=j
  ·subst e
   exact⟨v,hsj,keep (hv.mono (by omega))⟩
  ·obtain⟨u,h1,_,h3⟩:=old i (by omega)
   exact⟨u,by rw[hset i e];exact h1,h3⟩
 ·rw[hset i (by omega)];exact h.old i (by omega) h2
 ·have low:∀i u b,i<j→us[i]?=some u→Value.ownBlock u=some b→b<wr.heap.size:=fun i u b hi hu hx=>by
   obtain⟨y,h1,h2,_⟩:=old i hi
   rw[hu]at h1;cases h1
   exact (h2.lt b hx).2
  by_cases e1:i=j<;>by_cases e2:k=j
  ·omega
  ·subst e1
   rw[hsj]at hu;cases hu
   rw[hset k e2]at hu'
   have:=low k u' b (by omega) hu' hx'
   have:=(hv.lt b hx).1
   omega
  ·subst e2
   rw[hsj]at hu';cases hu'
   rw[hset i e1]at hu
   have:=low i u b (by omega) hu hx
   have:=(hv.lt b hx').1
   omega
  ·rw[hset i e1]at hu
   rw[hset k e2]at hu'
   exact h.rr i k u u' b (by omega) (by omega) hu hu' hx hx'
structure CCs (B:Nat) (w0 w:World) (cs:List (List (Int×Int))) (cv:Value) (n:Nat) (us:List Value) (j:Nat):Prop where
 row:w.ownsRow B 35 1 cv n us
 new:∀i,i<j→∃u,us[i]?=some u∧VRow B w u (cs.getD i [])
 old:∀i,j≤i→i<n→∃u,us[i]?=some u∧RowAt w0 u (cs.getD i [])
 xx:∀(i k:Nat) (u u':Value) (b:Nat),i<j→k<j→us[i]?=some u→us[k]?=some u'→u.ownBlock=some b→u'.ownBlock=some b→i=k
theorem CCs.step {B M:Nat} {w0 wr w3:World} {cs:List (List (Int×Int))} {g n cap:Nat} {us:List Value} {j:Nat} {v:Value} (h:CCs B w0 wr cs (.slice (some ⟨g,0,none⟩) n cap) n us j) (hj:j<n) (hb:Below wr.heap.size wr w3) (hB:B≤wr.heap.size) (hv:VRow M w3 v (cs.getD j [])) (hM:wr.heap.size≤M) :
  CCs B w0 (w3.setCell ⟨g,j,none⟩ v) cs (.slice (some ⟨g,0,none⟩) n cap) n (us.set j v) (j+1):=by
 have hul:=h.row.1
 have hrow:w3.ownsRow B 35 1 (.slice (some ⟨g,0,none⟩) n cap) n us:=ownsRow_block h.row fun k hk=>hb.block k (h.row.lt k hk).2
 have keep:∀ {B':Nat} {u:Value} {L:List (Int×Int)},VRow B' w3 u L→VRow B' (w3.setCell ⟨g,j,none⟩ v) u L:=fun hr=>ownsRow_block hr fun k hk=>Below.heap_setCell w3 _ _ k fun e=>ownsRow_apart hr hrow (by decide) hk (by rw[e];rfl)
 have old:∀i,i<j→∃u,us[i]?=some u∧VRow B wr u (cs.getD i [])∧VRow B (w3.setCell ⟨g,j,none⟩ v) u (cs.getD i []):=fun i hi=>by
  obtain⟨u,h1,h2⟩:=h.new i hi
  exact⟨u,h1,h2,keep (ownsRow_block h2 fun k hk=>hb.block k (h2.lt k hk).2)⟩
 have hset:∀i,¬i=j→(us.set j v)[i]?=us[i]?:=fun i hi=>by rw[List.getElem?_set_ne (fun e=>hi e.symm)]
 have hsj:(us.set j v)[j]?=some v:=by rw[List.getElem?_set_self (by omega)]
 refine⟨ownsRow_set hrow j (by omega) _,fun i hi=>?_,fun i h1 h2=>?_,fun i k u u' b hi hk hu hu' hx hx'=>?_⟩
 ·by_cases e:i=j
  ·subst e
   exact⟨v,hsj,keep (hv.mono (by omega))⟩
  ·obtain⟨u,h1,_,h3⟩:=old i (by omega)
   exact⟨u,by rw[hset i e];exact h1,h3⟩
 ·rw[hset i (by omega)];exact h.old i (by omega) h2
 ·have low:∀i u b,i<j→us[i]?=some u→Value.ownBlock u=some b→b<wr.heap.size:=fun i u b hi hu hx=>by
   obtain⟨y,h1,h2,_⟩:=old i hi
   rw[hu]at h1;cases h1
   exact (h2.lt b hx).2
  by_cases e1:i=j<;>by_cases e2:k=j
  ·omega
  ·subst e1
   rw[hsj]at hu;cases hu
   rw[hset k e2]at hu'
   have:=low k u' b (by omega) hu' hx'
   have:=(hv.lt b hx).1
   omega
  ·subst e2
   rw[hsj]at hu';cases hu'
   rw[hset i e1]at hu
   have:=low i u b (by omega) hu hx
   have:=(hv.lt b hx').1
   omega
  ·rw[hset i e1]at hu
   rw[hset k e2]at hu'
   exact h.xx i k u u' b (by omega) (by omega) hu hu' hx hx'
theorem CFr.below {B:Nat} {w0 w w':World} {fs:List Fm} {fv:Value} {n:Nat} {us:List Value} {j:Nat} (h:CFr B w0 w fs fv n us j) (hb:∀k,B≤k→k<w.heap.size→w'.heap[k]?=w.heap[k]?):CFr B w0 w' fs fv n us j:=by
 refine⟨ownsRow_block h.row fun k hk=>hb k (h.row.lt k hk).1 (h.row.lt k hk).2,h.ul,fun i hi=>?_,h.old,h.rr⟩
 obtain⟨u,h1,h2⟩:=h.new i hi
 exact⟨u,h1,ownsRow_block h2 fun k hk=>hb k (h2.lt k hk).1 (h2.lt k hk).2⟩
theorem own_of {B B2:Nat} {w0 w1 w:World} {S:Sta} {fv cv:Value} {nf nc:Nat} {us xs:List Value} (hf:CFr B w0 w1 S.fs fv nf us nf) (hc:CCs B2 w0 w S.cs cv nc xs nc) (hnf:S.fs.length=nf) (hnc:S.cs.length=nc) (hB:B≤B2) (hB2:w1.heap.size≤B2) (hb:∀k,B≤k→k<w1.heap.size→w.heap[k]?=w1.heap[k]?):Own B w fv cv us xs S:=by
 have hf':=hf.below hb
 subst hnf hnc
 refine⟨hf'.row,ownsRow_lower hc.row hB,hf.ul,hf'.new,fun i hi=>?_,fun i k u u' b hu hu'=>?_,fun i k u u' b hu hu'=>?_,fun i k u u' b hu hu' hx hx'=>?_⟩
 ·obtain⟨u,h1,h2⟩:=hc.new i hi
  exact⟨u,h1,h2.mono hB⟩
 ·have l1:=(List.getElem?_eq_some_iff.1 hu).1
  have l2:=(List.getElem?_eq_some_iff.1 hu').1
  have:=hf.ul
  exact hf.rr i k u u' b (by omega) (by omega) hu hu'
 ·have l1:=(List.getElem?_eq_some_iff.1 hu).1
  have l2:=(List.getElem?_eq_some_iff.1 hu').1
  have:=hc.row.1
  exact hc.xx i k u u' b (by omega) (by omega) hu hu'
 ·have l1:=(List.getElem?_eq_some_iff.1 hu).1
  have l2:=(List.getElem?_eq_some_iff.1 hu').1
  have:=hf.ul
  have:=hc.row.1
  obtain⟨y,h1,h2⟩:=hf.new i (by omega)
  rw[hu]at h1;cases h1
  obtain⟨z,h3,h4⟩:=hc.new k (by omega)
  rw[hu']at h3;cases h3
  have:=(h2.lt b hx).2
  have:=(h4.lt b hx').1
  omega
theorem Own.lower {B B':Nat} {w:World} {fv cv:Value} {rv xv:List Value} {S:Sta} (h:Own B w fv cv rv xv S) (hb:B'≤B):Own B' w fv cv rv xv S:=by
 refine⟨ownsRow_lower h.fr hb,ownsRow_lower h.ce hb,h.rl,fun i hi=>?_,fun i hi=>?_,h.rr,h.xx,h.rx⟩
 ·obtain⟨u,h1,h2⟩:=h.regs i hi;exact⟨u,h1,h2.mono hb⟩
 ·obtain⟨u,h1,h2⟩:=h.cells i hi;exact⟨u,h1,h2.mono hb⟩
end Go.Proofs.YtfaokaohhchdhaaGreatDoor
