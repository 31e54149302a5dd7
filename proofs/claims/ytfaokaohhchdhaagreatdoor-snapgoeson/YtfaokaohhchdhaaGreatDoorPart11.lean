/- checkFrames, Check, checkRun. -/
import Derived.Test.YtfaokaohhchdhaaGreatDoorPart10
namespace Go.Proofs.YtfaokaohhchdhaaGreatDoor
open Go.RowKit Go.Maps
theorem sbox (w:World) (fv cv:Value) (st wh:Int):∃W,w.alloc (.cells #[fv,cv,.int .i64 st,.int .i64 wh] 26)=W∧Below w.heap.size w W∧W.heap.size=w.heap.size+1∧W.cell? ⟨w.heap.size,0,none⟩=some fv∧W.cell? ⟨w.heap.size,1,none⟩=some cv∧W.cell? ⟨w.heap.size,2,none⟩=some (.int .i64 st)∧W.cell? ⟨w.heap.size,3,none⟩=some (.int .i64 wh):=by
 refine⟨_,rfl,below_alloc _ _,by simp,?_,?_,?_,?_⟩<;>(rw[World.cell?_alloc_new];rfl)
set_option maxHeartbeats 2000000 in
theorem checkFrames (M:Nat) (pa:Option Addr) (np pc:Nat) (P:Nat→Pc) (fs:List Fm) (fa ca:Option Addr) (nf fc nc cc:Nat) (st wh:Int) (w:World) (hM:M≤w.heap.size) (hp:ProcsAt M w (.slice pa np pc) np P) (hcn:∀k,k<np→1≤(P k).n) (hf:FramesAt w (.slice fa nf fc) fs) (hnf:fs.length=nf) :
  Calls Tryz.prog 63 #[.slice pa np pc,.agg #[.slice fa nf fc,.slice ca nc cc,.int .i64 st,.int .i64 wh]] w fun e w'=>e=.returned (.int .i64 (framesErr np P nc fs))∧Below w.heap.size w w':=by
 obtain⟨W,hW,b0,hsz,i0,i1,i2,i3⟩:=sbox w (.slice fa nf fc) (.slice ca nc cc) st wh
 have HW:Hid (w.alloc (.cells #[.slice fa nf fc,.slice ca nc cc,.int .i64 st,.int .i64 wh] 26)=W):=hW
 clear hW
 have hf':=hf
 obtain⟨fa',fc',ef,hfn,hf1⟩:=hf'
 rw[hnf]at ef
 cases ef
 rw[hnf]at hf1
 have HFr:Hid (∀(f:Fm) (uv:Value) (h:Nat) (wi:World),Below w.heap.size w wi→RowAt wi uv f.regs→Calls Tryz.prog 106 #[.agg #[.int .i64 f.proc,.int .i64 f.pos,uv,.int .i64 f.to],.slice pa np pc,.int .i64 h,.int .i64 nc] wi fun e w'=>e=.returned (.int .i64 (frErr np P h nc f))∧Below wi.heap.size wi w'):=fun f uv h wi hw hu=>checkFrame M _ np P f uv h nc wi (Nat.le_trans hM hw.size) (hp.below (hw.mono hM)) hcn hu
 have HIb:Hid (∀wi,Below W.heap.size W wi→wi.cell? ⟨w.heap.size,1,none⟩=some (.slice ca nc cc)):=fun wi hw=>(hw.cell (cell_lt i1)).trans i1
 have HB:Hid (Below w.heap.size w W):=b0
 have HNf:Hid (fs.length=nf):=hnf
 have HE0:Hid (framesErr np P nc fs=firstErr nf fun k=>frErr np P (ahead fs k) nc (fmAt fs k)):=by show _=_;unfold framesErr;rw[hnf]
 have hnf2:nf≤9223372036854775807:=by rw[←hnf];exact hfn
 clear hp hf hM hcn hnf hfn hsz b0
 go_enter Tryz.func63,Tryz.ntmps63
 go_upto_region 1 with (fail)
 rw[HW.out]
 go_upto_region 3 with (fail)
 clear i0 i1 i2 i3
 go_loopw [12,5] (fun i q wr=>∃j:Nat,j≤nf∧i=.int .i64 j∧q=.int .i64 (ahead fs j:Nat)∧Below W.heap.size W wr∧Hid (∀x,x<j→frErr np P (ahead fs x) nc (fmAt fs x)=0)) (fun i _ _=>nf - (intOf i).toNat)
 case atStart=>exact⟨0,Nat.zero_le _,rfl,rfl,Below.refl _ _,fun j hj=>absurd hj (Nat.not_lt_zero _)⟩
 case round =>
  obtain⟨j,hj,rfl,rfl,hb,hall⟩:=hrel
  by_cases hlt:j<nf
  ·rcases hf1 with hv|⟨fb,fo,rfl,hfb,g⟩
   ·omega
   obtain⟨uv,q0,q1,q2,q3,hrow⟩:=g j hlt
   have hbw:Below w.heap.size w wr:=HB.out.trans (hb.mono HB.out.size)
   rw[←hbw.cell hfb]at q0 q1 q2 q3
   have hrow':=hrow
   obtain⟨ua,uc,rfl,_⟩:=hrow'
   clear g
   obtain⟨W3,hW3,b3,hs3,x0,x1,x2,x3⟩:=fbox wr (fmAt fs j).proc (fmAt fs j).pos (fmAt fs j).to (.slice ua (fmAt fs j).regs.length uc)
   have HW3:Hid (wr.alloc (.cells #[.int .i64 (fmAt fs j).proc,.int .i64 (fmAt fs j).pos,.slice ua (fmAt fs j).regs.length uc,.int .i64 (fmAt fs j).to] 40)=W3):=hW3
   have y1:=HIb.out W3 (below_step hb b3)
   have HC:Hid (Calls Tryz.prog 106 #[.agg #[.int .i64 (fmAt fs j).proc,.int .i64 (fmAt fs j).pos,.slice ua (fmAt fs j).regs.length uc,.int .i64 (fmAt fs j).to],.slice pa np pc,.int .i64 (ahead fs j:Nat),.int .i64 nc] W3 fun e w'=>e=.returned (.int .i64 (frErr np P (ahead fs j) nc (fmAt fs j)))∧Below W3.heap.size W3 w'):=HFr.out _ _ _ W3 (below_step hbw b3) (ValsAt.below hrow (below_step hbw b3))
   have HN:Hid (ahead fs (j+1)=(fmAt fs j).regs.length):=by show _=_;unfold ahead;rw[if_neg (by omega)];rfl
   have HX2:Hid (∀wi,Below W3.heap.size W3 wi→wi.cell? ⟨wr.heap.size,2,none⟩=some (.slice ua (fmAt fs j).regs.length uc)):=fun wi hw=>(hw.cell (cell_lt x2)).trans x2
   have HBr:Hid (Below W.heap.size W W3):=below_step hb b3
   clear hW3 hrow b3 hs3 hb
   go_upto_region 5 with (fail)
   rw[HW3.out]
   clear q0 q1 q2 q3
   by_cases he:frErr np P (ahead fs j) nc (fmAt fs j)=0
   ·rw[he]at HC
    have HE:Hid (frErr np P (ahead fs j) nc (fmAt fs j)=0):=he
    clear he
    go_wp2_with (go_at_call 106;refine HC.out.mono ?_;rintro e w1 ⟨rfl,hb1⟩;have z2:=HX2.out w1 hb1)
    go_roundw
    case rel=>exact⟨j+1,by omega,by go_num,by rw[HN.out],below_step HBr.out hb1,upTo hall.out HE.out⟩
    case measure=>simp[intOf];omega
   ·have het:(frErr np P (ahead fs j) nc (fmAt fs j) != 0)=true:=by simp[he]
    have HE:Hid (framesErr np P nc fs=frErr np P (ahead fs j) nc (fmAt fs j)):=by show _=_;rw[HE0.out];exact firstErr_at (f:=fun k=>frErr np P (ahead fs k) nc (fmAt fs k)) hall.out he hlt
    clear he
    go_wp2_with (go_at_call 106;refine HC.out.mono ?_;rintro e w1 ⟨rfl,hb1⟩)
    go_ret
    exact⟨ret_num HE.out.symm,HB.out.trans ((below_step HBr.out hb1).mono HB.out.size)⟩
  ·go_wp2
   go_ret
   obtain rfl:j=nf:=by omega
   exact⟨ret_num (by rw[HE0.out];exact (firstErr_zero hall.out).symm),HB.out.trans (hb.mono HB.out.size)⟩
theorem staErr_3 {np:Nat} {P:Nat→Pc} {S:Sta} (h:S.st<0∨3<S.st∨S.wh < -1000000000∨1000000000<S.wh):staErr np P S=3:=if_pos h
theorem staErr_4 {np:Nat} {P:Nat→Pc} {S:Sta} (h:¬(S.st<0∨3<S.st∨S.wh < -1000000000∨1000000000<S.wh)) (h2:(¬S.st=3∧¬S.wh=0)∨(S.st=1∧¬S.fs.length=0)∨(¬S.st=1∧S.fs.length=0)):staErr np P S=4:=by
 unfold staErr;rw[if_neg h,if_pos h2]
theorem staErr_2 {np:Nat} {P:Nat→Pc} {S:Sta} (h:¬(S.st<0∨3<S.st∨S.wh < -1000000000∨1000000000<S.wh)) (h2:¬((¬S.st=3∧¬S.wh=0)∨(S.st=1∧¬S.fs.length=0)∨(¬S.st=1∧S.fs.length=0))) (h3:10<S.fs.length):staErr np P S=2:=by
 unfold staErr;rw[if_neg h,if_neg h2,if_pos h3]
theorem staErr_r {np:Nat} {P:Nat→Pc} {S:Sta} (h:¬(S.st<0∨3<S.st∨S.wh < -1000000000∨1000000000<S.wh)) (h2:¬((¬S.st=3∧¬S.wh=0)∨(S.st=1∧¬S.fs.length=0)∨(¬S.st=1∧S.fs.length=0))) (h3:¬10<S.fs.length):staErr np P S=if cellsErr S.cs=0 then framesErr np P S.cs.length S.fs else cellsErr S.cs:=by
 unfold staErr;rw[if_neg h,if_neg h2,if_neg h3]
set_option maxHeartbeats 2000000 in
theorem vmCheck_code (pa:Option Addr) (np pc:Nat) (ce:Int) (fv cv:Value) (st wh:Int) (w W:World) (HW:Hid (w.alloc (.cells #[fv,cv,.int .i64 st,.int .i64 wh] 26)=W)) (hsh:(∃a n c,fv=.slice a n c)∧∃a n c,cv=.slice a n c)
  (HC:Hid (Calls Tryz.prog 43 #[.slice pa np pc] W fun e w'=>e=.returned (.int .i64 ce)∧Below W.heap.size W w')) (HB:Hid (Below w.heap.size w W)) (hce:¬ce=0) :
  Calls Tryz.prog 20 #[.slice pa np pc,.agg #[fv,cv,.int .i64 st,.int .i64 wh]] w fun e w'=>e=.returned (.int .i64 ce)∧Below w.heap.size w w':=by
 obtain⟨⟨a1,n1,c1,rfl⟩,⟨a2,n2,c2,rfl⟩⟩:=hsh
 have h1:(ce != 0)=true:=by simp[hce]
 clear hce
 go_enter Tryz.func20,Tryz.ntmps20
 go_upto_region 1 with (fail)
 rw[HW.out]
 go_wp2_with (go_at_call 43;refine HC.out.mono ?_;rintro e w1 ⟨rfl,hb1⟩)
 go_ret
 exact⟨rfl,HB.out.trans (hb1.mono HB.out.size)⟩
set_option maxHeartbeats 4000000 in
theorem vmCheck_st (pa:Option Addr) (np pc:Nat) (fa ca:Option Addr) (nf fc nc cc:Nat) (st wh:Int) (w W:World) (HW:Hid (w.alloc (.cells #[.slice fa nf fc,.slice ca nc cc,.int .i64 st,.int .i64 wh] 26)=W))
  (HC:Hid (Calls Tryz.prog 43 #[.slice pa np pc] W fun e w'=>e=.returned (.int .i64 0)∧Below W.heap.size W w'))
  (HI:Hid (∀wi,Below W.heap.size W wi→wi.cell? ⟨w.heap.size,0,none⟩=some (.slice fa nf fc)∧wi.cell? ⟨w.heap.size,1,none⟩=some (.slice ca nc cc)∧wi.cell? ⟨w.heap.size,2,none⟩=some (.int .i64 st)∧wi.cell? ⟨w.heap.size,3,none⟩=some (.int .i64 wh))) (HB:Hid (Below w.heap.size w W))
  (h:st<0∨3<st∨wh < -1000000000∨1000000000<wh) :
  Calls Tryz.prog 20 #[.slice pa np pc,.agg #[.slice fa nf fc,.slice ca nc cc,.int .i64 st,.int .i64 wh]] w fun e w'=>e=.returned (.int .i64 3)∧Below w.heap.size w w':=by
 by_cases e1:st<0
 ·clear h
  go_enter Tryz.func20,Tryz.ntmps20
  go_upto_region 1 with (fail)
  rw[HW.out]
  go_wp2_with (go_at_call 43;refine HC.out.mono ?_;rintro e w1 ⟨rfl,hb1⟩;obtain⟨i0,i1,i2,i3⟩:=HI.out w1 hb1)
  go_ret
  exact⟨rfl,HB.out.trans (hb1.mono HB.out.size)⟩
 by_cases e2:3<st
 ·clear h
  go_enter Tryz.func20,Tryz.ntmps20
  go_upto_region 1 with (fail)
  rw[HW.out]
  go_wp2_with (go_at_call 43;refine HC.out.mono ?_;rintro e w1 ⟨rfl,hb1⟩;obtain⟨i0,i1,i2,i3⟩:=HI.out w1 hb1)
  go_ret
  exact⟨rfl,HB.out.trans (hb1.mono HB.out.size)⟩
 by_cases e3:wh < -1000000000
 ·clear h
  go_enter Tryz.func20,Tryz.ntmps20
  go_upto_region 1 with (fail)
  rw[HW.out]
  go_wp2_with (go_at_call 43;refine HC.out.mono ?_;rintro e w1 ⟨rfl,hb1⟩;obtain⟨i0,i1,i2,i3⟩:=HI.out w1 hb1)
  go_ret
  exact⟨rfl,HB.out.trans (hb1.mono HB.out.size)⟩
 have e4:1000000000<wh:=by omega
 clear h
 go_enter Tryz.func20,Tryz.ntmps20
 go_upto_region 1 with (fail)
 rw[HW.out]
 go_wp2_with (go_at_call 43;refine HC.out.mono ?_;rintro e w1 ⟨rfl,hb1⟩;obtain⟨i0,i1,i2,i3⟩:=HI.out w1 hb1)
 go_ret
 exact⟨rfl,HB.out.trans (hb1.mono HB.out.size)⟩
set_option maxHeartbeats 4000000 in
theorem vmCheck_form (pa:Option Addr) (np pc:Nat) (fa ca:Option Addr) (nf fc nc cc:Nat) (st wh:Int) (b3 bw b1 bl:Bool) (w W:World) (HW:Hid (w.alloc (.cells #[.slice fa nf fc,.slice ca nc cc,.int .i64 st,.int .i64 wh] 26)=W))
  (HC:Hid (Calls Tryz.prog 43 #[.slice pa np pc] W fun e w'=>e=.returned (.int .i64 0)∧Below W.heap.size W w'))
  (HI:Hid (∀wi,Below W.heap.size W wi→wi.cell? ⟨w.heap.size,0,none⟩=some (.slice fa nf fc)∧wi.cell? ⟨w.heap.size,1,none⟩=some (.slice ca nc cc)∧wi.cell? ⟨w.heap.size,2,none⟩=some (.int .i64 st)∧wi.cell? ⟨w.heap.size,3,none⟩=some (.int .i64 wh))) (HB:Hid (Below w.heap.size w W))
  (h1:¬st<0) (h2:¬3<st) (h3:¬wh < -1000000000) (h4:¬1000000000<wh) (k3:(st != 3)=b3) (kw:(wh != 0)=bw) (k1:(st == 1)=b1) (kl:((nf:Int) == 0)=bl) (hb:(b3 && bw || (b1 != bl))=true) :
  Calls Tryz.prog 20 #[.slice pa np pc,.agg #[.slice fa nf fc,.slice ca nc cc,.int .i64 st,.int .i64 wh]] w fun e w'=>e=.returned (.int .i64 4)∧Below w.heap.size w w':=by
 cases b3<;>cases bw<;>cases b1<;>cases bl<;>first|(exact absurd hb (by decide))|skip
 all_goals
  clear hb
  go_enter Tryz.func20,Tryz.ntmps20
  go_upto_region 1 with (fail)
  rw[HW.out]
  go_wp2_with (go_at_call 43;refine HC.out.mono ?_;rintro e w1 ⟨rfl,hb1⟩;obtain⟨i0,i1,i2,i3⟩:=HI.out w1 hb1)
  go_ret
  exact⟨rfl,HB.out.trans (hb1.mono HB.out.size)⟩
set_option maxHeartbeats 4000000 in
theorem vmCheck_rest (pa:Option Addr) (np pc:Nat) (fa ca:Option Addr) (nf fc nc cc:Nat) (st wh ae fe:Int) (b3 bw b1 bl:Bool) (w W:World) (HW:Hid (w.alloc (.cells #[.slice fa nf fc,.slice ca nc cc,.int .i64 st,.int .i64 wh] 26)=W))
  (HC:Hid (Calls Tryz.prog 43 #[.slice pa np pc] W fun e w'=>e=.returned (.int .i64 0)∧Below W.heap.size W w'))
  (HI:Hid (∀wi,Below W.heap.size W wi→wi.cell? ⟨w.heap.size,0,none⟩=some (.slice fa nf fc)∧wi.cell? ⟨w.heap.size,1,none⟩=some (.slice ca nc cc)∧wi.cell? ⟨w.heap.size,2,none⟩=some (.int .i64 st)∧wi.cell? ⟨w.heap.size,3,none⟩=some (.int .i64 wh))) (HB:Hid (Below w.heap.size w W))
  (HA:Hid (∀wi,Below W.heap.size W wi→Calls Tryz.prog 62 #[.slice ca nc cc] wi fun e w'=>e=.returned (.int .i64 ae)∧Below wi.heap.size wi w'))
  (HFr:Hid (∀wi,Below W.heap.size W wi→Calls Tryz.prog 63 #[.slice pa np pc,.agg #[.slice fa nf fc,.slice ca nc cc,.int .i64 st,.int .i64 wh]] wi fun e w'=>e=.returned (.int .i64 fe)∧Below wi.heap.size wi w'))
  (h1:¬st<0) (h2:¬3<st) (h3:¬wh < -1000000000) (h4:¬1000000000<wh) (k3:(st != 3)=b3) (kw:(wh != 0)=bw) (k1:(st == 1)=b1) (kl:((nf:Int) == 0)=bl) (hb:(b3 && bw || (b1 != bl))=false) :
  Calls Tryz.prog 20 #[.slice pa np pc,.agg #[.slice fa nf fc,.slice ca nc cc,.int .i64 st,.int .i64 wh]] w fun e w'=>e=.returned (.int .i64 (if 10<nf then 2 else if ae=0 then fe else ae))∧Below w.heap.size w w':=by
 obtain⟨res,hres⟩:∃r,(if 10<nf then (2:Int) else if ae=0 then fe else ae)=r:=⟨_,rfl⟩
 rw[hres]
 by_cases h10:10<nf
 ·have h5:(10:Int)<(nf:Int):=by omega
  rw[if_pos h10]at hres
  subst hres
  cases b3<;>cases bw<;>cases b1<;>cases bl<;>first|(exact absurd hb (by decide))|skip
  all_goals
   clear hb
   go_enter Tryz.func20,Tryz.ntmps20
   go_upto_region 1 with (fail)
   rw[HW.out]
   go_wp2_with (go_at_call 43;refine HC.out.mono ?_;rintro e w1 ⟨rfl,hb1⟩;obtain⟨i0,i1,i2,i3⟩:=HI.out w1 hb1)
   go_ret
   exact⟨rfl,HB.out.trans (hb1.mono HB.out.size)⟩
 have h5:¬(10:Int)<(nf:Int):=by omega
 rw[if_neg h10]at hres
 by_cases ha:ae=0
 ·rw[if_pos ha]at hres
  subst hres
  subst ha
  cases b3<;>cases bw<;>cases b1<;>cases bl<;>first|(exact absurd hb (by decide))|skip
  all_goals
   clear hb
   go_enter Tryz.func20,Tryz.ntmps20
   go_upto_region 1 with (fail)
   rw[HW.out]
   go_wp2_with (first
    | (go_at_call 43;refine HC.out.mono ?_;rintro e w1 ⟨rfl,hb1⟩;obtain⟨i0,i1,i2,i3⟩:=HI.out w1 hb1)
    | (go_at_call 62;refine (HA.out _ hb1).mono ?_;rintro e w2 ⟨rfl,hb2⟩;obtain⟨j0,j1,j2,j3⟩:=HI.out w2 (below_step hb1 hb2))
    | (go_at_call 63;refine (HFr.out _ (below_step hb1 hb2)).mono ?_;rintro e w3 ⟨rfl,hb3⟩))
   go_ret
   exact⟨rfl,HB.out.trans ((below_step (below_step hb1 hb2) hb3).mono HB.out.size)⟩
 ·have ha1:(ae != 0)=true:=by simp[ha]
  rw[if_neg ha]at hres
  subst hres
  clear ha
  cases b3<;>cases bw<;>cases b1<;>cases bl<;>first|(exact absurd hb (by decide))|skip
  all_goals
   clear hb
   go_enter Tryz.func20,Tryz.ntmps20
   go_upto_region 1 with (fail)
   rw[HW.out]
   go_wp2_with (first
    | (go_at_call 43;refine HC.out.mono ?_;rintro e w1 ⟨rfl,hb1⟩;obtain⟨i0,i1,i2,i3⟩:=HI.out w1 hb1)
    | (go_at_call 62;refine (HA.out _ hb1).mono ?_;rintro e w2 ⟨rfl,hb2⟩))
   go_ret
   exact⟨rfl,HB.out.trans ((below_step hb1 hb2).mono HB.out.size)⟩
theorem four_bool (p q r s:Prop) [Decidable p] [Decidable q] [Decidable r] [Decidable s]:(decide (¬p) && decide (¬q) || (decide r != decide s))=true ↔ ((¬p∧¬q)∨(r∧¬s)∨(¬r∧s)):=by
 by_cases hp:p<;>by_cases hq:q<;>by_cases hr:r<;>by_cases hs:s<;>simp[hp,hq,hr,hs]
theorem form_bool {st wh:Int} {nf:Nat}:((st != 3) && (wh != 0) || ((st == 1) != ((nf:Int) == 0)))=true ↔ ((¬st=3∧¬wh=0)∨(st=1∧¬nf=0)∨(¬st=1∧nf=0)):=by
 have e1:(st != 3)=decide (¬st=3):=by by_cases h:st=3<;>simp[h]
 have e2:(wh != 0)=decide (¬wh=0):=by by_cases h:wh=0<;>simp[h]
 have e3:(st == 1)=decide (st=1):=by by_cases h:st=1<;>simp[h]
 have e4:((nf:Int) == 0)=decide (nf=0):=by
  by_cases h:nf=0
  ·subst h;rfl
  ·have:¬(nf:Int)=0:=by omega
   simp[h]
 rw[e1,e2,e3,e4]
 exact four_bool _ _ _ _
theorem vmCheck (M:Nat) (vp fv cv:Value) (np:Nat) (P:Nat→Pc) (S:Sta) (w:World) (hM:M≤w.heap.size) (hp:ProcsAt M w vp np P) (hs:StaAt w fv cv S) :
  Calls Tryz.prog 20 #[vp,staV fv cv S.st S.wh] w fun e w'=>e=.returned (.int .i64 (vmErr np P S))∧Below w.heap.size w w':=by
 obtain⟨pa,pc,rfl,_⟩:=id hp
 obtain⟨fa,fc,rfl,_⟩:=id hs.1
 obtain⟨ca,cc,rfl,_⟩:=id hs.2
 obtain⟨W,hW,b0,hsz,i0,i1,i2,i3⟩:=sbox w (.slice fa S.fs.length fc) (.slice ca S.cs.length cc) S.st S.wh
 have hpW:=hp.below (b0.mono hM)
 have hMW:M≤W.heap.size:=Nat.le_trans hM b0.size
 have hC:=codeCheck M _ np P W hMW hpW
 have hsW:=hs.below b0
 have HI:∀wi,Below W.heap.size W wi→wi.cell? ⟨w.heap.size,0,none⟩=some (.slice fa S.fs.length fc)∧wi.cell? ⟨w.heap.size,1,none⟩=some (.slice ca S.cs.length cc)∧wi.cell? ⟨w.heap.size,2,none⟩=some (.int .i64 S.st)∧wi.cell? ⟨w.heap.size,3,none⟩=some (.int .i64 S.wh):=fun wi hw =>
  ⟨(hw.cell (cell_lt i0)).trans i0,(hw.cell (cell_lt i1)).trans i1,(hw.cell (cell_lt i2)).trans i2,(hw.cell (cell_lt i3)).trans i3⟩
 by_cases hce:codeErr np P=0
 ·have hv:vmErr np P S=staErr np P S:=if_pos hce
  rw[hv]
  rw[hce]at hC
  by_cases h3:S.st<0∨3<S.st∨S.wh < -1000000000∨1000000000<S.wh
  ·rw[staErr_3 h3]
   exact vmCheck_st pa np pc fa ca _ fc _ cc S.st S.wh w W hW hC HI b0 h3
  have g1:¬S.st<0:=fun h=>h3 (Or.inl h)
  have g2:¬3<S.st:=fun h=>h3 (Or.inr (Or.inl h))
  have g3:¬S.wh < -1000000000:=fun h=>h3 (Or.inr (Or.inr (Or.inl h)))
  have g4:¬1000000000<S.wh:=fun h=>h3 (Or.inr (Or.inr (Or.inr h)))
  by_cases h4:(¬S.st=3∧¬S.wh=0)∨(S.st=1∧¬S.fs.length=0)∨(¬S.st=1∧S.fs.length=0)
  ·rw[staErr_4 h3 h4]
   exact vmCheck_form pa np pc fa ca _ fc _ cc S.st S.wh _ _ _ _ w W hW hC HI b0 g1 g2 g3 g4 rfl rfl rfl rfl (form_bool.2 h4)
  have hform:((S.st != 3) && (S.wh != 0) || ((S.st == 1) != ((S.fs.length:Int) == 0)))=false:=by
   cases hh:((S.st != 3) && (S.wh != 0) || ((S.st == 1) != ((S.fs.length:Int) == 0)))
   ·rfl
   ·exact absurd (form_bool.1 hh) h4
  have hR:=vmCheck_rest pa np pc fa ca _ fc _ cc S.st S.wh (cellsErr S.cs) (framesErr np P S.cs.length S.fs) _ _ _ _ w W hW hC HI b0
   (fun wi hw=>cCheckAll _ _ _ _ _ wi (hsW.2.below hw))
   (fun wi hw=>checkFrames M pa np pc P S.fs fa ca _ fc _ cc S.st S.wh wi (Nat.le_trans hMW hw.size) (hpW.below (hw.mono hMW)) (codeErr_right hce).c0 (hsW.1.below hw) rfl)
   g1 g2 g3 g4 rfl rfl rfl rfl hform
  by_cases h10:10<S.fs.length
  ·rw[if_pos h10]at hR
   rw[staErr_2 h3 h4 h10]
   exact hR
  ·rw[if_neg h10]at hR
   rw[staErr_r h3 h4 h10]
   exact hR
 ·have hv:vmErr np P S=codeErr np P:=if_neg hce
  rw[hv]
  exact vmCheck_code pa np pc _ _ _ S.st S.wh w W hW ⟨⟨_,_,_,rfl⟩,⟨_,_,_,rfl⟩⟩ hC b0 hce
def runErr (np:Nat) (P:Nat→Pc) (S:Sta) (fuel:Int):Int :=
 if vmErr np P S=0 then (if fuel<0∨2000<fuel then 3 else if S.st=0 then 0 else 7) else vmErr np P S
set_option maxHeartbeats 2000000 in
theorem checkRun_core (pa fa ca:Option Addr) (np pc nf fc nc cc:Nat) (st wh fuel ve:Int) (w W:World) (HW:Hid (w.alloc (.cells #[.slice fa nf fc,.slice ca nc cc,.int .i64 st,.int .i64 wh] 26)=W))
  (HI:Hid (∀wi,Below W.heap.size W wi→wi.cell? ⟨w.heap.size,0,none⟩=some (.slice fa nf fc)∧wi.cell? ⟨w.heap.size,1,none⟩=some (.slice ca nc cc)∧wi.cell? ⟨w.heap.size,2,none⟩=some (.int .i64 st)∧wi.cell? ⟨w.heap.size,3,none⟩=some (.int .i64 wh))) (HB:Hid (Below w.heap.size w W))
  (HC:Hid (Calls Tryz.prog 20 #[.slice pa np pc,.agg #[.slice fa nf fc,.slice ca nc cc,.int .i64 st,.int .i64 wh]] W fun e w'=>e=.returned (.int .i64 ve)∧Below W.heap.size W w')) :
  Calls Tryz.prog 44 #[.slice pa np pc,.agg #[.slice fa nf fc,.slice ca nc cc,.int .i64 st,.int .i64 wh],.int .i64 fuel] w fun e w'=>e=.returned (.int .i64 (if ve=0 then (if fuel<0∨2000<fuel then 3 else if st=0 then 0 else 7) else ve))∧Below w.heap.size w w':=by
 obtain⟨i0,i1,i2,i3⟩:=HI.out W (Below.refl _ _)
 obtain⟨res,hres⟩:∃r,(if ve=0 then (if fuel<0∨2000<fuel then (3:Int) else if st=0 then 0 else 7) else ve)=r:=⟨_,rfl⟩
 rw[hres]
 by_cases hv:ve=0
 ·rw[if_pos hv]at hres
  subst hv
  by_cases f1:fuel<0
  ·rw[if_pos (Or.inl f1)]at hres
   subst hres
   go_enter Tryz.func44,Tryz.ntmps44
   go_upto_region 1 with (fail)
   rw[HW.out]
   go_wp2_with (go_at_call 20;refine HC.out.mono ?_;rintro e w1 ⟨rfl,hb1⟩;obtain⟨j0,j1,j2,j3⟩:=HI.out w1 hb1)
   go_ret
   exact⟨rfl,HB.out.trans (hb1.mono HB.out.size)⟩
  by_cases f2:2000<fuel
  ·rw[if_pos (Or.inr f2)]at hres
   subst hres
   go_enter Tryz.func44,Tryz.ntmps44
   go_upto_region 1 with (fail)
   rw[HW.out]
   go_wp2_with (go_at_call 20;refine HC.out.mono ?_;rintro e w1 ⟨rfl,hb1⟩;obtain⟨j0,j1,j2,j3⟩:=HI.out w1 hb1)
   go_ret
   exact⟨rfl,HB.out.trans (hb1.mono HB.out.size)⟩
  rw[if_neg (by omega)]at hres
  by_cases s0:st=0
  ·rw[if_pos s0]at hres
   subst hres
   subst s0
   go_enter Tryz.func44,Tryz.ntmps44
   go_upto_region 1 with (fail)
   rw[HW.out]
   go_wp2_with (go_at_call 20;refine HC.out.mono ?_;rintro e w1 ⟨rfl,hb1⟩;obtain⟨j0,j1,j2,j3⟩:=HI.out w1 hb1)
   go_ret
   exact⟨rfl,HB.out.trans (hb1.mono HB.out.size)⟩
  ·rw[if_neg s0]at hres
   have s1:(st != 0)=true:=by simp[s0]
   subst hres
   clear s0
   go_enter Tryz.func44,Tryz.ntmps44
   go_upto_region 1 with (fail)
   rw[HW.out]
   go_wp2_with (go_at_call 20;refine HC.out.mono ?_;rintro e w1 ⟨rfl,hb1⟩;obtain⟨j0,j1,j2,j3⟩:=HI.out w1 hb1)
   go_ret
   exact⟨rfl,HB.out.trans (hb1.mono HB.out.size)⟩
 ·rw[if_neg hv]at hres
  have v1:(ve != 0)=true:=by simp[hv]
  subst hres
  clear hv
  go_enter Tryz.func44,Tryz.ntmps44
  go_upto_region 1 with (fail)
  rw[HW.out]
  go_wp2_with (go_at_call 20;refine HC.out.mono ?_;rintro e w1 ⟨rfl,hb1⟩;obtain⟨j0,j1,j2,j3⟩:=HI.out w1 hb1)
  go_ret
  exact⟨rfl,HB.out.trans (hb1.mono HB.out.size)⟩
theorem checkRun (M:Nat) (vp fv cv:Value) (np:Nat) (P:Nat→Pc) (S:Sta) (fuel:Int) (w:World) (hM:M≤w.heap.size) (hp:ProcsAt M w vp np P) (hs:StaAt w fv cv S) :
  Calls Tryz.prog 44 #[vp,staV fv cv S.st S.wh,.int .i64 fuel] w fun e w'=>e=.returned (.int .i64 (runErr np P S fuel))∧Below w.heap.size w w':=by
 obtain⟨pa,pc,rfl,_⟩:=id hp
 obtain⟨fa,fc,rfl,_⟩:=id hs.1
 obtain⟨ca,cc,rfl,_⟩:=id hs.2
 obtain⟨W,hW,b0,hsz,i0,i1,i2,i3⟩:=sbox w (.slice fa S.fs.length fc) (.slice ca S.cs.length cc) S.st S.wh
 refine checkRun_core pa fa ca np pc _ fc _ cc S.st S.wh fuel _ w W hW (fun wi hw=>⟨(hw.cell (cell_lt i0)).trans i0,(hw.cell (cell_lt i1)).trans i1,(hw.cell (cell_lt i2)).trans i2,(hw.cell (cell_lt i3)).trans i3⟩) b0 ?_
 exact vmCheck M _ _ _ np P S W (Nat.le_trans hM b0.size) (hp.below (b0.mono hM)) (hs.below b0)
end Go.Proofs.YtfaokaohhchdhaaGreatDoor
