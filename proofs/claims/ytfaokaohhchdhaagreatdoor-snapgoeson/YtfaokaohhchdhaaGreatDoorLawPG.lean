/- SnapGoesOn: what is unpacked goes on as what was packed would: the statement's own walk. -/
import Derived.Test.YtfaokaohhchdhaaGreatDoorPart50
namespace Go.Proofs.YtfaokaohhchdhaaGreatDoor
open Go.RowKit Go.Maps
section
variable {np:Nat} {P:Nat→Pc}
theorem goesB_sim {S T:Sta} (h:Eqv S T) (said:List Int) (b:Bool):goesB P ⟨T,said,b⟩=goesB P ⟨S,said,b⟩:=by
 unfold goesB
 simp only[h.st,h.ins]
theorem runM_sim (hc:CodeOK np P):∀(k:Nat) (S T:Sta) (said:List Int) (b:Bool),StaOK np P S→StaOK np P T→Eqv S T→said.length≤40 →
  (runM P k ⟨T,said,b⟩).2=(runM P k ⟨S,said,b⟩).2∧(runM P k ⟨T,said,b⟩).1.said=(runM P k ⟨S,said,b⟩).1.said∧Eqv (runM P k ⟨S,said,b⟩).1.s (runM P k ⟨T,said,b⟩).1.s
 | 0,S,T,said,b,_,_,h,_=>⟨rfl,rfl,h⟩
 | k+1,S,T,said,b,hS,hT,h,hl=>by
  rw[runM,runM,goesB_sim h]
  by_cases hg:goesB P ⟨S,said,b⟩=true
  ·rw[if_pos hg,if_pos hg]
   have hs:S.st=0:=goesB_ready hg
   obtain⟨h1,h2,h3⟩:=stepM_sim hc hS hT hs h said b
   have r1:=stepM_right (R:=⟨S,said,b⟩) hc hS hs
   have r2:=stepM_right (R:=⟨T,said,b⟩) hc hT (by show T.st=0;rw[h.st];exact hs)
   have hl2:(stepM P ⟨S,said,b⟩).said.length≤40:=by
    rcases r1.2.2.2 with e|e
    ·rw[e];exact hl
    ·unfold goesB at hg
     simp only[Bool.and_eq_true,Bool.or_eq_true,decide_eq_true_eq,Bool.not_eq_true',decide_eq_false_iff_not]at hg
     have h40:said.length<40:=hg.2.2.resolve_right fun h=>h e
     have:(stepM P ⟨S,said,b⟩).said.length≤said.length+1:=r1.2.2.1
     omega
   generalize stepM P ⟨S,said,b⟩=A at *
   generalize stepM P ⟨T,said,b⟩=B at *
   obtain⟨As,Al,Ab⟩:=A
   obtain⟨Bs,Bl,Bb⟩:=B
   simp only[]at h1 h2 h3 r1 r2 hl2
   subst h2
   subst h3
   obtain⟨i1,i2,i3⟩:=runM_sim hc k As Bs Bl Bb r1.1 r2.1 h1 hl2
   exact⟨by simp only[i1],i2,i3⟩
  ·rw[if_neg hg,if_neg hg]
   exact⟨rfl,rfl,h⟩
end
set_option maxRecDepth 20000 in
set_option maxHeartbeats 8000000 in
theorem pg_good (S T X Y Z:Sta) (n f k np0:Nat) (fu:Int) (L said:List Int) (pa fa ca:Option Addr) (pc fc cc:Nat) (w W:World) (hL:L.length=n)
  (HW:Hid (w.alloc (.cells #[.slice fa S.fs.length fc,.slice ca S.cs.length cc,.int .i64 S.st,.int .i64 S.wh] 26)=W)) (HB:Hid (Below w.heap.size w W))
  (HX:Hid (∀wk,Below W.heap.size W wk→wk.cell? ⟨w.heap.size,0,none⟩=some (.slice fa S.fs.length fc)∧wk.cell? ⟨w.heap.size,1,none⟩=some (.slice ca S.cs.length cc)∧wk.cell? ⟨w.heap.size,2,none⟩=some (.int .i64 S.st)∧wk.cell? ⟨w.heap.size,3,none⟩=some (.int .i64 S.wh)))
  (HR:Hid (TrueC 33 W))
  (HP1:Hid (Calls Tryz.prog 31 #[.slice pa np0 pc,.agg #[.slice fa S.fs.length fc,.slice ca S.cs.length cc,.int .i64 S.st,.int .i64 S.wh]] W fun e w'=>∃la lc,e=.returned (.tuple #[.slice la n lc,.int .i64 0])∧Hid (NOwn W.heap.size w' (.slice la n lc) L)∧Hid (Below W.heap.size W w')))
  (HU:Hid (∀la lc wk,NOwn W.heap.size wk (.slice la n lc) L→Below W.heap.size W wk→Calls Tryz.prog 32 #[.slice pa np0 pc,.slice la n lc] wk fun e w'=>∃ga gc ha hc,e=.returned (.tuple #[.agg #[.slice ga T.fs.length gc,.slice ha T.cs.length hc,.int .i64 S.st,.int .i64 S.wh],.int .i64 0])∧Hid (StaAt w' (.slice ga T.fs.length gc) (.slice ha T.cs.length hc) T)∧Hid (Below wk.heap.size wk w')))
  (HSw:Hid (∀wk,Below W.heap.size W wk→Calls Tryz.prog 21 #[.agg #[.slice fa S.fs.length fc,.slice ca S.cs.length cc,.int .i64 S.st,.int .i64 S.wh]] wk fun e w'=>∃ga gc ha hc,e=.returned (.agg #[.slice ga T.fs.length gc,.slice ha T.cs.length hc,.int .i64 S.st,.int .i64 S.wh])∧Hid (StaAt w' (.slice ga T.fs.length gc) (.slice ha T.cs.length hc) T)∧Hid (Below wk.heap.size wk w')))
  (HSm:Hid (∀fa fc ca cc ga gc ha hc wk,StaAt wk (.slice fa T.fs.length fc) (.slice ca T.cs.length cc) T→StaAt wk (.slice ga T.fs.length gc) (.slice ha T.cs.length hc) T→Calls Tryz.prog 18 #[.agg #[.slice fa T.fs.length fc,.slice ca T.cs.length cc,.int .i64 S.st,.int .i64 S.wh],.agg #[.slice ga T.fs.length gc,.slice ha T.cs.length hc,.int .i64 S.st,.int .i64 S.wh]] wk fun e w'=>e=.returned (.bool true)∧Below wk.heap.size wk w'))
  (HP2:Hid (∀ga gc ha hc wk,Below W.heap.size W wk→StaAt wk (.slice ga T.fs.length gc) (.slice ha T.cs.length hc) T→Calls Tryz.prog 31 #[.slice pa np0 pc,.agg #[.slice ga T.fs.length gc,.slice ha T.cs.length hc,.int .i64 S.st,.int .i64 S.wh]] wk fun e w'=>∃la lc,e=.returned (.tuple #[.slice la n lc,.int .i64 0])∧Hid (NOwn wk.heap.size w' (.slice la n lc) L)∧Hid (Below wk.heap.size wk w')))
  (HEq:Hid (∀(l:List Int) (m D D2:Nat) a1 c1 a2 c2 wk,l=L∧m=n∨l=said∧m=said.length→NOwn D wk (.slice a1 m c1) l→NOwn D2 wk (.slice a2 m c2) l→Calls Tryz.prog 24 #[.slice a1 m c1,.slice a2 m c2] wk fun e w'=>e=.returned (.bool true)∧Below wk.heap.size wk w'))
  (HAt:Hid (∀wk,Calls Tryz.prog 25 #[.int .i64 fu,.int .i64 500] wk fun e w'=>e=.returned (.int .i64 (f:Int))∧w'=wk))
  (HR1:Hid (S.st=0→∀wk,Below W.heap.size W wk→Calls Tryz.prog 13 #[.slice pa np0 pc,.agg #[.slice fa S.fs.length fc,.slice ca S.cs.length cc,.int .i64 S.st,.int .i64 S.wh],.int .i64 f] wk fun e w'=>∃xa xc ya yc sa sc,e=.returned (.tuple #[.agg #[.slice xa X.fs.length xc,.slice ya X.cs.length yc,.int .i64 X.st,.int .i64 X.wh],.slice sa said.length sc,.int .i64 k,.int .i64 0])∧Hid (StaAt w' (.slice xa X.fs.length xc) (.slice ya X.cs.length yc) X)∧Hid (NOwn wk.heap.size w' (.slice sa said.length sc) said)∧Hid (Below wk.heap.size wk w')))
  (HR2:Hid (S.st=0→∀ga gc ha hc wk,Below W.heap.size W wk→StaAt wk (.slice ga T.fs.length gc) (.slice ha T.cs.length hc) T→Calls Tryz.prog 13 #[.slice pa np0 pc,.agg #[.slice ga T.fs.length gc,.slice ha T.cs.length hc,.int .i64 S.st,.int .i64 S.wh],.int .i64 f] wk fun e w'=>∃xa xc ya yc sa sc,e=.returned (.tuple #[.agg #[.slice xa Y.fs.length xc,.slice ya Y.cs.length yc,.int .i64 Y.st,.int .i64 Y.wh],.slice sa said.length sc,.int .i64 k,.int .i64 0])∧Hid (StaAt w' (.slice xa Y.fs.length xc) (.slice ya Y.cs.length yc) Y)∧Hid (NOwn wk.heap.size w' (.slice sa said.length sc) said)∧Hid (Below wk.heap.size wk w')))
  (HSX:Hid (S.st=0→∀fa fc ca cc wk,StaAt wk (.slice fa X.fs.length fc) (.slice ca X.cs.length cc) X→Calls Tryz.prog 21 #[.agg #[.slice fa X.fs.length fc,.slice ca X.cs.length cc,.int .i64 X.st,.int .i64 X.wh]] wk fun e w'=>∃ga gc ha hc,e=.returned (.agg #[.slice ga Z.fs.length gc,.slice ha Z.cs.length hc,.int .i64 Z.st,.int .i64 Z.wh])∧Hid (StaAt w' (.slice ga Z.fs.length gc) (.slice ha Z.cs.length hc) Z)∧Hid (Below wk.heap.size wk w')))
  (HSY:Hid (S.st=0→∀fa fc ca cc wk,StaAt wk (.slice fa Y.fs.length fc) (.slice ca Y.cs.length cc) Y→Calls Tryz.prog 21 #[.agg #[.slice fa Y.fs.length fc,.slice ca Y.cs.length cc,.int .i64 Y.st,.int .i64 Y.wh]] wk fun e w'=>∃ga gc ha hc,e=.returned (.agg #[.slice ga Z.fs.length gc,.slice ha Z.cs.length hc,.int .i64 Z.st,.int .i64 Z.wh])∧Hid (StaAt w' (.slice ga Z.fs.length gc) (.slice ha Z.cs.length hc) Z)∧Hid (Below wk.heap.size wk w')))
  (HSZ:Hid (∀fa fc ca cc ga gc ha hc wk,StaAt wk (.slice fa Z.fs.length fc) (.slice ca Z.cs.length cc) Z→StaAt wk (.slice ga Z.fs.length gc) (.slice ha Z.cs.length hc) Z→Calls Tryz.prog 18 #[.agg #[.slice fa Z.fs.length fc,.slice ca Z.cs.length cc,.int .i64 Z.st,.int .i64 Z.wh],.agg #[.slice ga Z.fs.length gc,.slice ha Z.cs.length hc,.int .i64 Z.st,.int .i64 Z.wh]] wk fun e w'=>e=.returned (.bool true)∧Below wk.heap.size wk w')) :
  Calls Tryz.prog 9 #[.slice pa np0 pc,.agg #[.slice fa S.fs.length fc,.slice ca S.cs.length cc,.int .i64 S.st,.int .i64 S.wh],.int .i64 fu] w fun e w'=>e=.returned (.bool true)∧Hid (Below w.heap.size w w'):=by
 have HLn:Hid (L.length=n):=hL
 clear hL
 go_enter Tryz.func9,Tryz.ntmps9
 go_upto_region 1 with (fail)
 try rw[HW.out]
 obtain⟨k0,k1,k2,k3⟩:=HX.out W (Below.refl _ _)
 go_upto_region 2 with (go_at_call 31;refine HP1.out.mono ?_;rintro e w1 ⟨la,lc,rfl,HN1,HB1⟩)
 clear k0 k1 k2 k3
 go_upto_region 4 with (go_at_call 33;refine (HR.out _ HB1.out).mono ?_;rintro e w2 ⟨rfl,hb2⟩)
 have HB2:Hid (Below W.heap.size W w2):=below_step HB1.out hb2
 have HN2:Hid (NOwn W.heap.size w2 (.slice la n lc) L):=HN1.out.below hb2
 clear hb2
 go_upto_region 5 with (go_at_call 32;refine (HU.out _ _ _ HN2.out HB2.out).mono ?_;rintro e w3 ⟨ga,gc,ha,hc,rfl,HT3,HB3⟩)
 obtain⟨W4,hW4,b4,_,j0,j1,j2,j3⟩:=sbox w3 (.slice ga T.fs.length gc) (.slice ha T.cs.length hc) S.st S.wh
 try rw[hW4]
 have HB24:Hid (Below w2.heap.size w2 W4):=below_step HB3.out b4
 have HBW4:Hid (Below W.heap.size W W4):=below_step HB2.out HB24.out
 have HT4:Hid (StaAt W4 (.slice ga T.fs.length gc) (.slice ha T.cs.length hc) T):=HT3.out.below b4
 have HN4:Hid (NOwn W.heap.size W4 (.slice la n lc) L):=HN2.out.below HB24.out
 have HX4:Hid (∀wk,Below W4.heap.size W4 wk→(wk.cell? ⟨w.heap.size,0,none⟩=some (.slice fa S.fs.length fc)∧wk.cell? ⟨w.heap.size,1,none⟩=some (.slice ca S.cs.length cc)∧wk.cell? ⟨w.heap.size,2,none⟩=some (.int .i64 S.st)∧wk.cell? ⟨w.heap.size,3,none⟩=some (.int .i64 S.wh))∧wk.cell? ⟨w3.heap.size,0,none⟩=some (.slice ga T.fs.length gc)∧wk.cell? ⟨w3.heap.size,1,none⟩=some (.slice ha T.cs.length hc)∧wk.cell? ⟨w3.heap.size,2,none⟩=some (.int .i64 S.st)∧wk.cell? ⟨w3.heap.size,3,none⟩=some (.int .i64 S.wh)):=fun wk hk=>⟨HX.out wk (below_step HBW4.out hk),below_at hk j0,below_at hk j1,below_at hk j2,below_at hk j3⟩
 have HUp:Hid (∀wk,Below W4.heap.size W4 wk→Below W.heap.size W wk):=fun wk hk=>below_step HBW4.out hk
 clear hW4 b4 j0 j1 j2 j3 HT3 HB3
 obtain⟨⟨k0,k1,k2,k3⟩,l0,l1,l2,l3⟩:=HX4.out W4 (Below.refl _ _)
 go_region_held3 (fun w'=>(w'.cell? ⟨w.heap.size,0,none⟩=some (.slice fa S.fs.length fc)∧w'.cell? ⟨w.heap.size,1,none⟩=some (.slice ca S.cs.length cc)∧w'.cell? ⟨w.heap.size,2,none⟩=some (.int .i64 S.st)∧w'.cell? ⟨w.heap.size,3,none⟩=some (.int .i64 S.wh))∧w'.cell? ⟨w3.heap.size,0,none⟩=some (.slice ga T.fs.length gc)∧w'.cell? ⟨w3.heap.size,1,none⟩=some (.slice ha T.cs.length hc)∧w'.cell? ⟨w3.heap.size,2,none⟩=some (.int .i64 S.st)∧w'.cell? ⟨w3.heap.size,3,none⟩=some (.int .i64 S.wh))
  (first|exact HX4.out _ (Below.refl _ _).drew|exact HX4.out _ hb6|exact HX4.out _ hb5)
  (first
   | (go_at_call 18;refine (HSm.out _ _ _ _ _ _ _ _ _ (HT4.out.below hb5) HT5.out).mono ?_;rintro e w6 ⟨rfl,hb6'⟩;have hb6:=below_step hb5 hb6';clear hb6')
   | (go_at_call 21;refine (HSw.out _ (HUp.out _ (Below.refl _ _).drew)).mono ?_;rintro e w5 ⟨f1,g1,c1,d1,rfl,HT5,hb5'⟩;have hb5:=below_step (Below.refl W4.heap.size W4).drew hb5'.out;clear hb5'))
 all_goals
  clear hb5 HT5 k0 k1 k2 k3 l0 l1 l2 l3
  obtain⟨⟨k0,k1,k2,k3⟩,l0,l1,l2,l3⟩:=HX4.out _ hb6
  go_upto_region 8 with (go_at_call 31;refine (HP2.out _ _ _ _ _ (HUp.out _ hb6) (HT4.out.below hb6)).mono ?_;rintro e w7 ⟨ma,mc,rfl,HM7,hb7⟩)
  have hb47:Below W4.heap.size W4 w7:=below_step hb6 hb7.out
  clear k0 k1 k2 k3 l0 l1 l2 l3
  obtain⟨⟨k0,k1,k2,k3⟩,l0,l1,l2,l3⟩:=HX4.out _ hb47
  go_upto_region 10 with (go_at_call 24;refine (HEq.out L n _ _ _ _ _ _ _ (Or.inl ⟨rfl,rfl⟩) (HN4.out.below hb47) HM7.out).mono ?_;rintro e w8 ⟨rfl,hb8⟩)
  have HB8:Hid (Below W4.heap.size W4 w8):=below_step hb47 hb8
  clear k0 k1 k2 k3 l0 l1 l2 l3 hb6 hb7 hb47 hb8 HM7
  obtain⟨⟨k0,k1,k2,k3⟩,l0,l1,l2,l3⟩:=HX4.out _ HB8.out
  by_cases hst:S.st=0
  ·have HRa:=(show Hid _ from HR1.out hst)
   have HRb:=(show Hid _ from HR2.out hst)
   have HSa:=(show Hid _ from HSX.out hst)
   have HSb:=(show Hid _ from HSY.out hst)
   have hsb:(S.st != 0)=false:=by rw[hst];rfl
   clear hst HR1 HR2 HSX HSY
   go_upto_region 14 with (first
    | (go_at_call 25;refine (HAt.out _).mono ?_;rintro e wq ⟨rfl,hwq⟩;rw[hwq];clear hwq)
    | (go_at_call 13;refine (HRa.out _ (HUp.out _ HB8.out)).mono ?_;rintro e w9 ⟨xa,xc,ya,yc,sa,sc,rfl,HX9,HS9,HB9⟩))
   obtain⟨WA,hWA,bA,_,m0,m1,m2,m3⟩:=sbox w9 (.slice xa X.fs.length xc) (.slice ya X.cs.length yc) X.st X.wh
   try rw[hWA]
   have HB8A:Hid (Below w8.heap.size w8 WA):=below_step HB9.out bA
   have HBA:Hid (Below W4.heap.size W4 WA):=below_step HB8.out HB8A.out
   have HXA:Hid (StaAt WA (.slice xa X.fs.length xc) (.slice ya X.cs.length yc) X):=HX9.out.below bA
   have HSA:Hid (NOwn w8.heap.size WA (.slice sa said.length sc) said):=HS9.out.below bA
   have HCA:Hid (∀wk,Below WA.heap.size WA wk→wk.cell? ⟨w9.heap.size,0,none⟩=some (.slice xa X.fs.length xc)∧wk.cell? ⟨w9.heap.size,1,none⟩=some (.slice ya X.cs.length yc)∧wk.cell? ⟨w9.heap.size,2,none⟩=some (.int .i64 X.st)∧wk.cell? ⟨w9.heap.size,3,none⟩=some (.int .i64 X.wh)):=fun wk hk=>⟨below_at hk m0,below_at hk m1,below_at hk m2,below_at hk m3⟩
   clear hWA bA m0 m1 m2 m3 HX9 HS9 HB9 k0 k1 k2 k3 l0 l1 l2 l3
   obtain⟨_,l0,l1,l2,l3⟩:=HX4.out _ HBA.out
   go_upto_region 15 with (go_at_call 13;refine (HRb.out _ _ _ _ _ (HUp.out _ HBA.out) (HT4.out.below HBA.out)).mono ?_;rintro e w10 ⟨xb,xbc,yb,ybc,sb,sbc,rfl,HY10,HS10,HB10⟩)
   obtain⟨WB,hWB,bB,_,m0,m1,m2,m3⟩:=sbox w10 (.slice xb Y.fs.length xbc) (.slice yb Y.cs.length ybc) Y.st Y.wh
   try rw[hWB]
   have HBAB:Hid (Below WA.heap.size WA WB):=below_step HB10.out bB
   have HBB:Hid (Below W4.heap.size W4 WB):=below_step HBA.out HBAB.out
   have HXB:Hid (StaAt WB (.slice xa X.fs.length xc) (.slice ya X.cs.length yc) X):=HXA.out.below HBAB.out
   have HYB:Hid (StaAt WB (.slice xb Y.fs.length xbc) (.slice yb Y.cs.length ybc) Y):=HY10.out.below bB
   have HE1:Hid (∀wk,Below WB.heap.size WB wk→Calls Tryz.prog 24 #[.slice sa said.length sc,.slice sb said.length sbc] wk fun e w'=>e=.returned (.bool true)∧Below wk.heap.size wk w'):=fun wk hk=>HEq.out said said.length _ _ _ _ _ _ _ (Or.inr ⟨rfl,rfl⟩) ((HSA.out.below HBAB.out).below hk) ((HS10.out.below bB).below hk)
   have HXC:Hid (∀wk,Below WB.heap.size WB wk→(wk.cell? ⟨w9.heap.size,0,none⟩=some (.slice xa X.fs.length xc)∧wk.cell? ⟨w9.heap.size,1,none⟩=some (.slice ya X.cs.length yc)∧wk.cell? ⟨w9.heap.size,2,none⟩=some (.int .i64 X.st)∧wk.cell? ⟨w9.heap.size,3,none⟩=some (.int .i64 X.wh))∧wk.cell? ⟨w10.heap.size,0,none⟩=some (.slice xb Y.fs.length xbc)∧wk.cell? ⟨w10.heap.size,1,none⟩=some (.slice yb Y.cs.length ybc)∧wk.cell? ⟨w10.heap.size,2,none⟩=some (.int .i64 Y.st)∧wk.cell? ⟨w10.heap.size,3,none⟩=some (.int .i64 Y.wh)):=fun wk hk=>⟨HCA.out wk (below_step HBAB.out hk),below_at hk m0,below_at hk m1,below_at hk m2,below_at hk m3⟩
   clear hWB bB m0 m1 m2 m3 HY10 HS10 HB10 l0 l1 l2 l3
   obtain⟨⟨k0,k1,k2,k3⟩,l0,l1,l2,l3⟩:=HXC.out WB (Below.refl _ _)
   go_region_held3 (fun w'=>(w'.cell? ⟨w9.heap.size,0,none⟩=some (.slice xa X.fs.length xc)∧w'.cell? ⟨w9.heap.size,1,none⟩=some (.slice ya X.cs.length yc)∧w'.cell? ⟨w9.heap.size,2,none⟩=some (.int .i64 X.st)∧w'.cell? ⟨w9.heap.size,3,none⟩=some (.int .i64 X.wh))∧w'.cell? ⟨w10.heap.size,0,none⟩=some (.slice xb Y.fs.length xbc)∧w'.cell? ⟨w10.heap.size,1,none⟩=some (.slice yb Y.cs.length ybc)∧w'.cell? ⟨w10.heap.size,2,none⟩=some (.int .i64 Y.st)∧w'.cell? ⟨w10.heap.size,3,none⟩=some (.int .i64 Y.wh))
    (first|exact HXC.out _ (Below.refl _ _).drew|exact HXC.out _ hb14|exact HXC.out _ hb13|exact HXC.out _ hb12|exact HXC.out _ hb11)
    (first
     | (go_at_call 18;refine (HSZ.out _ _ _ _ _ _ _ _ _ SA13 SB13.out).mono ?_;rintro e w14 ⟨rfl,hb14'⟩;have hb14:=below_step hb13 hb14';clear hb14')
     | (go_at_call 21;refine (HSb.out _ _ _ _ _ (HYB.out.below hb12)).mono ?_;rintro e w13 ⟨f2,g2,c2,d2,rfl,SB13,hb13'⟩;have SA13:=SA12.out.below hb13'.out;have hb13:=below_step hb12 hb13'.out;clear hb13')
     | (go_at_call 21;refine (HSa.out _ _ _ _ _ (HXB.out.below hb11)).mono ?_;rintro e w12 ⟨f1,g1,c1,d1,rfl,SA12,hb12'⟩;have hb12:=below_step hb11 hb12'.out;clear hb12')
     | (go_at_call 24;refine (HE1.out _ (Below.refl _ _).drew).mono ?_;rintro e w11 ⟨rfl,hb11'⟩;have hb11:=below_step (Below.refl WB.heap.size WB).drew hb11';clear hb11'))
   all_goals
    clear hb11 hb12 SA12 SA13 SB13 hb13
    go_wp2_with (fail)
    go_ret
    exact⟨rfl,below_step HB.out (HUp.out _ (below_step HBB.out hb14))⟩
  ·have hsb:(S.st != 0)=true:=by simpa using hst
   clear hst
   go_wp2_with (fail)
   go_ret
   exact⟨by simp,below_step HB.out (HUp.out _ HB8.out)⟩
set_option maxHeartbeats 4000000 in
theorem pg_bad (er fu:Int) (pa fa ca:Option Addr) (np0 pc nf fc nc cc:Nat) (st wh:Int) (w W:World) (he:(er != 0)=true)
  (HW:Hid (w.alloc (.cells #[.slice fa nf fc,.slice ca nc cc,.int .i64 st,.int .i64 wh] 26)=W)) (HB:Hid (Below w.heap.size w W))
  (HX:Hid (W.cell? ⟨w.heap.size,0,none⟩=some (.slice fa nf fc)∧W.cell? ⟨w.heap.size,1,none⟩=some (.slice ca nc cc)∧W.cell? ⟨w.heap.size,2,none⟩=some (.int .i64 st)∧W.cell? ⟨w.heap.size,3,none⟩=some (.int .i64 wh)))
  (HR:Hid (TrueC 33 W))
  (HP1:Hid (Calls Tryz.prog 31 #[.slice pa np0 pc,.agg #[.slice fa nf fc,.slice ca nc cc,.int .i64 st,.int .i64 wh]] W fun e w'=>e=.returned (.tuple #[.slice none 0 0,.int .i64 er])∧Hid (Below W.heap.size W w'))) :
  Calls Tryz.prog 9 #[.slice pa np0 pc,.agg #[.slice fa nf fc,.slice ca nc cc,.int .i64 st,.int .i64 wh],.int .i64 fu] w fun e w'=>e=.returned (.bool true)∧Hid (Below w.heap.size w w'):=by
 go_enter Tryz.func9,Tryz.ntmps9
 go_upto_region 1 with (fail)
 try rw[HW.out]
 obtain⟨k0,k1,k2,k3⟩:=HX.out
 go_upto_region 2 with (go_at_call 31;refine HP1.out.mono ?_;rintro e w1 ⟨rfl,HB1⟩)
 clear k0 k1 k2 k3
 go_wp2_with (first
  | (go_at_call 33;refine (HR.out _ hb2).mono ?_;rintro e w3 ⟨rfl,hb3'⟩;have hb3:=below_step hb2 hb3')
  | (go_at_call 33;refine (HR.out _ HB1.out).mono ?_;rintro e w2 ⟨rfl,hb2'⟩;have hb2:=below_step HB1.out hb2';clear hb2'))
 go_ret
 exact⟨rfl,below_step HB.out hb3⟩
theorem snapGoesOn {np:Nat} {P:Nat→Pc} (M:Nat) (vp fv cv:Value) (S:Sta) (fu:Int) (w:World) (hM:M≤w.heap.size) (hp:ProcsAt M w vp np P) (hs:StaAt w fv cv S) (HR:TrueC 33 w) :
  Calls Tryz.prog 9 #[vp,staV fv cv S.st S.wh,.int .i64 fu] w fun e w'=>e=.returned (.bool true)∧Hid (Below w.heap.size w w'):=by
 obtain⟨pa,pc,rfl,_⟩:=id hp
 obtain⟨fa,fc,rfl,_⟩:=id hs.1
 obtain⟨ca,cc,rfl,_⟩:=id hs.2
 obtain⟨W,hW,b0,_,i0,i1,i2,i3⟩:=sbox w (.slice fa S.fs.length fc) (.slice ca S.cs.length cc) S.st S.wh
 have hX:∀wk,Below W.heap.size W wk→wk.cell? ⟨w.heap.size,0,none⟩=some (.slice fa S.fs.length fc)∧wk.cell? ⟨w.heap.size,1,none⟩=some (.slice ca S.cs.length cc)∧wk.cell? ⟨w.heap.size,2,none⟩=some (.int .i64 S.st)∧wk.cell? ⟨w.heap.size,3,none⟩=some (.int .i64 S.wh):=fun wk hk=>⟨below_at hk i0,below_at hk i1,below_at hk i2,below_at hk i3⟩
 have hpk:∀wk,Below W.heap.size W wk→ProcsAt M wk (.slice pa np pc) np P:=fun wk hk=>hp.below ((below_step b0 hk).mono hM)
 have hMk:∀wk,Below W.heap.size W wk→M≤wk.heap.size:=fun wk hk=>Nat.le_trans hM (below_step b0 hk).size
 by_cases hv:vmErr np P S=0
 ·obtain⟨hc,ok,hce⟩:=vmErr_right hv
  have oks:=ok.swept hc
  have hz:=staZs_len (oks.small hc)
  have htw:=sweptS_twice hc ok
  have hvT:vmErr np P (sweptS S)=0:=by unfold vmErr;rw[if_pos hce];exact staErr_zero.2 oks
  obtain⟨u0,u1⟩:=unp_image hc hce ok
  obtain⟨f,hf⟩:∃f:Nat,fu % (500:Int)=f:=⟨(fu % 500).toNat,by omega⟩
  have hf5:f<500:=by omega
  have r1:=runM_right hc f ⟨S,[],false⟩ ok (Nat.zero_le _)
  have r2:=runM_right hc f ⟨sweptS S,[],false⟩ oks (Nat.zero_le _)
  obtain⟨q1,q2,q3⟩:=runM_sim hc f S (sweptS S) [] false ok oks (eqv_swept hc ok) (Nat.zero_le _)
  have qs:sweptS (runM P f ⟨sweptS S,[],false⟩).1.s=sweptS (runM P f ⟨S,[],false⟩).1.s:=let ⟨_,h⟩:=q3;Sim.swept hc r1.1 r2.1 h
  have g1:∀h0:S.st=0,runErr np P S f=0:=fun h0=>StaGood.run ⟨hc,ok,hce⟩ h0 (by omega)
  have g2:∀h0:S.st=0,runErr np P (sweptS S) f=0:=fun h0=>StaGood.run ⟨hc,oks,hce⟩ h0 (by omega)
  refine pg_good S (sweptS S) (runM P f ⟨S,[],false⟩).1.s (runM P f ⟨sweptS S,[],false⟩).1.s (sweptS (runM P f ⟨S,[],false⟩).1.s) (staZs (sweptS S)).length f (runM P f ⟨S,[],false⟩).2 np fu (staZs (sweptS S)) (runM P f ⟨S,[],false⟩).1.said pa fa ca pc fc cc w W rfl hW b0 hX (HR.up b0) ?_ (fun la lc wk h hb=>?_) (fun wk hb=>?_) (fun fa fc ca cc ga gc ha hc' wk h1 h2=>?_) (fun ga gc ha hc' wk hb h1=>?_) (fun l m D D2 a1 c1 a2 c2 wk hl h1 h2=>?_) (fun wk=>?_) (fun h0 wk hb=>?_) (fun h0 ga gc ha hc' wk hb h1=>?_) (fun h0 fa fc ca cc wk h1=>?_) (fun h0 fa fc ca cc wk h1=>?_) (fun fa fc ca cc ga gc ha hc' wk h1 h2=>?_)
  ·exact packP M _ _ _ S W (hMk W (Below.refl _ _)) (hpk W (Below.refl _ _)) (hs.below b0) hv
  ·have:=unpackC M (.slice pa np pc) la lc (staZs (sweptS S)) wk (hMk wk hb) (hpk wk hb) (fun _=>h.numsIn (by omega))
   rw[u0,u1]at this
   refine this.mono ?_
   rintro e w' ⟨fa,fc,ca,cc,rfl,h1,h2⟩
   exact⟨fa,fc,ca,cc,rfl,h1.out.at hc oks,h2⟩
  ·refine (sweepK S _ _ wk (hs.below (below_step b0 hb)) hc ok).mono ?_
   rintro e w' ⟨fa,fc,ca,cc,rfl,h1,h2⟩
   exact⟨fa,fc,ca,cc,rfl,h1.out.at hc oks,h2⟩
  ·have:=vmSame (sweptS S) (sweptS S) _ _ _ _ wk h1 h2
   rw[eqSt_iff.2 rfl]at this
   exact this
  ·have:=packP M (.slice pa np pc) _ _ (sweptS S) wk (hMk wk hb) (hpk wk hb) h1 hvT
   rw[htw]at this
   exact this
  ·have hlen:l.length=m∧m≤1000000:=by
    rcases hl with⟨rfl,rfl⟩|⟨rfl,rfl⟩
    ·exact⟨rfl,by omega⟩
    ·exact⟨rfl,by have:=r1.2.1;omega⟩
   obtain⟨rfl,hm⟩:=hlen
   refine (eqNums _ _ _ _ _ _ _ wk (h1.nums hm) (h2.nums hm)).mono ?_
   rintro e w' ⟨rfl,hb⟩
   exact⟨ret_bool (eqB_yes fun _ _=>rfl),hb⟩
  ·refine (lawAt fu 500 (by omega) (by omega) wk).mono ?_
   rintro e w' ⟨rfl,rfl⟩
   exact⟨by rw[show ((500:Nat):Int)=500 from rfl,hf],rfl⟩
  ·refine (runK M _ _ _ S f wk (hMk wk hb) (hpk wk hb) (hs.below (below_step b0 hb)) (g1 h0)).mono ?_
   rintro e w' ⟨xa,xc,ya,yc,sa,sc,rfl,h1,h2,h3⟩
   exact⟨xa,xc,ya,yc,sa,sc,rfl,h1.out.at hc r1.1,h2,h3⟩
  ·have:=runK M (.slice pa np pc) _ _ (sweptS S) f wk (hMk wk hb) (hpk wk hb) h1 (g2 h0)
   rw[q1,q2]at this
   refine this.mono ?_
   rintro e w' ⟨xa,xc,ya,yc,sa,sc,rfl,h1,h2,h3⟩
   exact⟨xa,xc,ya,yc,sa,sc,rfl,h1.out.at hc r2.1,h2,h3⟩
  ·refine (sweepK _ _ _ wk h1 hc r1.1).mono ?_
   rintro e w' ⟨fa,fc,ca,cc,rfl,h1,h2⟩
   exact⟨fa,fc,ca,cc,rfl,h1.out.at hc (r1.1.swept hc),h2⟩
  ·have:=sweepK _ _ _ wk h1 hc r2.1
   rw[qs]at this
   refine this.mono ?_
   rintro e w' ⟨fa,fc,ca,cc,rfl,h1,h2⟩
   refine⟨fa,fc,ca,cc,?_,h1.out.at hc (r1.1.swept hc),h2⟩
   have e1:(sweptS (runM P f ⟨sweptS S,[],false⟩).1.s).st=(sweptS (runM P f ⟨S,[],false⟩).1.s).st:=by rw[qs]
   have e2:(sweptS (runM P f ⟨sweptS S,[],false⟩).1.s).wh=(sweptS (runM P f ⟨S,[],false⟩).1.s).wh:=by rw[qs]
   rw[←e1,←e2]
   rfl
  ·have:=vmSame (sweptS (runM P f ⟨S,[],false⟩).1.s) (sweptS (runM P f ⟨S,[],false⟩).1.s) _ _ _ _ wk h1 h2
   rw[eqSt_iff.2 rfl]at this
   exact this
 ·exact pg_bad (vmErr np P S) fu pa _ _ np pc _ fc _ cc S.st S.wh w W (by simpa using hv) hW b0 (hX W (Below.refl _ _)) (HR.up b0) (packBad M _ _ _ S W (hMk W (Below.refl _ _)) (hpk W (Below.refl _ _)) (hs.below b0) hv)
end Go.Proofs.YtfaokaohhchdhaaGreatDoor
