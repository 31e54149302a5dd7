/- snap.Pack and Unpack, by the program. -/
import Derived.Test.YtfaokaohhchdhaaGreatDoorSnapT
namespace Go.Proofs.YtfaokaohhchdhaaGreatDoor
open Go.RowKit Go.Maps
section
variable {np:Nat} {P:Nat→Pc}
set_option maxHeartbeats 1000000 in
theorem packBad (M:Nat) (vp fv cv:Value) (S:Sta) (w:World) (hM:M≤w.heap.size) (hp:ProcsAt M w vp np P) (hs:StaAt w fv cv S) (he:¬vmErr np P S=0) :
  Calls Tryz.prog 31 #[vp,.agg #[fv,cv,.int .i64 S.st,.int .i64 S.wh]] w fun e w'=>e=.returned (.tuple #[.slice none 0 0,.int .i64 (vmErr np P S)])∧Hid (Below w.heap.size w w'):=by
 obtain⟨W,hW,b0,_,i0,i1,i2,i3⟩:=sbox w fv cv S.st S.wh
 have HC:Hid (Calls Tryz.prog 20 #[vp,.agg #[fv,cv,.int .i64 S.st,.int .i64 S.wh]] W fun e w'=>e=.returned (.int .i64 (vmErr np P S))∧Below W.heap.size W w'):=vmCheck M _ _ _ np P S W (Nat.le_trans hM b0.size) (hp.below (b0.mono hM)) (hs.below b0)
 have HB:=(show Hid _ from b0)
 generalize vmErr np P S=er at *
 have heb:(er != 0)=true:=by simpa using he
 generalize S.st=st at *
 generalize S.wh=wh at *
 obtain⟨pa,pc,rfl,_⟩:=hp
 obtain⟨fa,fc,rfl,_⟩:=hs.1
 obtain⟨ca,cc,rfl,_⟩:=hs.2
 clear hs b0 hM he
 go_enter Tryz.func31,Tryz.ntmps31
 go_upto_region 1 with (fail)
 try rw[hW]
 go_wp2_with (go_at_call 20;refine HC.out.mono ?_;rintro e w1 ⟨rfl,hb1⟩)
 go_ret2
 exact⟨rfl,below_step HB.out hb1⟩
set_option maxHeartbeats 2000000 in
theorem packP (M:Nat) (vp fv cv:Value) (S:Sta) (w:World) (hM:M≤w.heap.size) (hp:ProcsAt M w vp np P) (hs:StaAt w fv cv S) (he:vmErr np P S=0) :
  Calls Tryz.prog 31 #[vp,.agg #[fv,cv,.int .i64 S.st,.int .i64 S.wh]] w fun e w'=>∃a c,e=.returned (.tuple #[.slice a (staZs (sweptS S)).length c,.int .i64 0])∧Hid (NOwn w.heap.size w' (.slice a (staZs (sweptS S)).length c) (staZs (sweptS S)))∧Hid (Below w.heap.size w w'):=by
 obtain⟨hc,ok,hce⟩:=vmErr_right he
 obtain⟨W,hW,b0,_,i0,i1,i2,i3⟩:=sbox w fv cv S.st S.wh
 have HC:Hid (Calls Tryz.prog 20 #[vp,.agg #[fv,cv,.int .i64 S.st,.int .i64 S.wh]] W fun e w'=>e=.returned (.int .i64 0)∧Below W.heap.size W w'):=by
  have:=vmCheck M _ _ _ np P S W (Nat.le_trans hM b0.size) (hp.below (b0.mono hM)) (hs.below b0)
  rw[he]at this
  exact this
 have HSw:Hid (∀wk,Below W.heap.size W wk→Calls Tryz.prog 21 #[.agg #[fv,cv,.int .i64 S.st,.int .i64 S.wh]] wk fun e w'=>∃fa fc ca cc,e=.returned (.agg #[.slice fa (sweptS S).fs.length fc,.slice ca (sweptS S).cs.length cc,.int .i64 S.st,.int .i64 S.wh])∧Hid (StaAt w' (.slice fa (sweptS S).fs.length fc) (.slice ca (sweptS S).cs.length cc) (sweptS S))∧Below wk.heap.size wk w'):=fun wk hk=>by
  refine (sweepK S fv cv wk (hs.below (below_step b0 hk)) hc ok).mono ?_
  rintro e w' ⟨fa,fc,ca,cc,rfl,h1,h2⟩
  exact⟨fa,fc,ca,cc,rfl,h1.out.at hc (ok.swept hc),h2⟩
 have HWr:Hid (∀fa fc ca cc wk,StaAt wk (.slice fa (sweptS S).fs.length fc) (.slice ca (sweptS S).cs.length cc) (sweptS S)→Calls Tryz.prog 76 #[.agg #[.slice fa (sweptS S).fs.length fc,.slice ca (sweptS S).cs.length cc,.int .i64 S.st,.int .i64 S.wh]] wk fun e w'=>∃a c,e=.returned (.slice a (staZs (sweptS S)).length c)∧Hid (NOwn wk.heap.size w' (.slice a (staZs (sweptS S)).length c) (staZs (sweptS S)))∧Hid (Below wk.heap.size wk w')):=fun fa fc ca cc wk h=>writtenS (sweptS S) _ _ wk h ((ok.swept hc).small hc)
 have hl:(staZs (sweptS S)).length≤1060:=staZs_len ((ok.swept hc).small hc)
 have HK:Hid (∀wk,Below W.heap.size W wk→wk.cell? ⟨w.heap.size,0,none⟩=some fv∧wk.cell? ⟨w.heap.size,1,none⟩=some cv∧wk.cell? ⟨w.heap.size,2,none⟩=some (.int .i64 S.st)∧wk.cell? ⟨w.heap.size,3,none⟩=some (.int .i64 S.wh)):=fun wk hk=>⟨below_at hk i0,below_at hk i1,below_at hk i2,below_at hk i3⟩
 have HB:=(show Hid _ from b0)
 generalize staZs (sweptS S)=z at *
 obtain⟨n,hn⟩:∃n,z.length=n:=⟨_,rfl⟩
 rw[hn]at HWr hl ⊢
 generalize sweptS S=T at *
 generalize S.st=st at *
 generalize S.wh=wh at *
 obtain⟨pa,pc,rfl,_⟩:=hp
 obtain⟨fa,fc,rfl,_⟩:=hs.1
 obtain⟨ca,cc,rfl,_⟩:=hs.2
 clear hs b0 hM he hn hc ok hce
 go_enter Tryz.func31,Tryz.ntmps31
 go_upto_region 1 with (fail)
 try rw[hW]
 go_wp2_with (first
  | (go_at_call 20;refine HC.out.mono ?_;rintro e w1 ⟨rfl,hb1⟩;obtain⟨j0,j1,j2,j3⟩:=HK.out _ hb1)
  | (go_at_call 21;refine (HSw.out _ hb1).mono ?_;rintro e w2 ⟨ga,gc,ha,hc2,rfl,HT,hb2⟩)
  | (go_at_call 76;refine (HWr.out _ _ _ _ _ HT.out).mono ?_;rintro e w3 ⟨a,c,rfl,HN,hb3⟩))
 go_ret2
 exact⟨a,c,rfl,HN.out.lower (Nat.le_trans (Nat.le_trans HB.out.size hb1.size) hb2.size),below_step HB.out (below_step hb1 (below_step hb2 hb3.out))⟩
end
theorem NumsIn.up {R R':Nat} {w:World} {v:Value} {l:List Int} (h:NumsIn R w v l) (hr:R≤R'):NumsIn R' w v l:=by
 obtain⟨a,cap,rfl,h1,h2,h3|⟨b,o,rfl,hb,hc⟩⟩:=h
 ·exact⟨a,cap,rfl,h1,h2,Or.inl h3⟩
 ·exact⟨_,cap,rfl,h1,h2,Or.inr ⟨b,o,rfl,by omega,hc⟩⟩
theorem NOwn.numsIn {B:Nat} {w:World} {v:Value} {l:List Int} (h:NOwn B w v l) (hl:l.length≤100000):NumsIn w.heap.size w v l:=by
 rcases id h.2 with⟨rfl,h0⟩|⟨g,cap,cur,rfl,hg,hh,hc,_,_,ht⟩
 ·have:l=[]:=List.eq_nil_of_length_eq_zero h0
  subst this
  exact⟨none,0,rfl,by simp,by simp,Or.inl rfl⟩
 ·refine⟨_,cap,rfl,hl,hc,Or.inr ⟨g,0,rfl,(h.lt g rfl).2,fun i z hi=>?_⟩⟩
  have hil:=(List.getElem?_eq_some_iff.1 hi).1
  rw[Nat.zero_add]
  unfold World.cell?
  rw[hh]
  show cur[i]?=_
  rw[←Array.getElem?_toList,←List.getElem?_take_of_lt (i:=i) (j:=l.length*1) (by omega),ht]
  simp[hi]
theorem own_none (B:Nat) (w:World):SOwn B w (.slice none 0 0) (.slice none 0 0) snNone :=
 ⟨[],[],⟨rfl,Or.inl ⟨rfl,rfl⟩⟩,⟨rfl,Or.inl ⟨rfl,rfl⟩⟩,rfl,fun i hi=>absurd hi (Nat.not_lt_zero _),fun i hi=>absurd hi (Nat.not_lt_zero _),fun i j u u' b h=>by simp at h,fun i j u u' b h=>by simp at h,fun i j u u' b h=>by simp at h⟩
theorem own_small {B:Nat} {w:World} {fv cv:Value} {S:Sta} (h:SOwn B w fv cv S) (hs:SnSmall S):StaAt w fv cv S:=by
 obtain⟨rv,xv,h⟩:=h
 refine h.at (by have:=hs.f;omega) (by have:=hs.c;omega) (fun i hi=>?_) fun i hi=>?_
 ·have:=hs.r (fmAt S.fs i) (by unfold fmAt;rw[List.getD_eq_getElem?_getD,List.getElem?_eq_getElem hi];exact List.getElem_mem hi)
  omega
 ·have:=hs.v (S.cs.getD i []) (by rw[List.getD_eq_getElem?_getD,List.getElem?_eq_getElem hi];exact List.getElem_mem hi)
  omega
def UnpK (w:World) (T:Sta) (er:Int) (e:Ending) (w':World):Prop :=
 ∃fa fc ca cc,e=.returned (.tuple #[.agg #[.slice fa T.fs.length fc,.slice ca T.cs.length cc,.int .i64 T.st,.int .i64 T.wh],.int .i64 er])∧Hid (SOwn w.heap.size w' (.slice fa T.fs.length fc) (.slice ca T.cs.length cc) T)∧Hid (Below w.heap.size w w')
theorem UnpK.nothing {w w':World} {er:Int} (hb:Below w.heap.size w w'):UnpK w snNone er (.returned (.tuple #[.agg #[.slice none 0 0,.slice none 0 0,.int .i64 0,.int .i64 0],.int .i64 er])) w' :=
 ⟨none,0,none,0,rfl,own_none _ _,hb⟩
theorem unp_8 {np:Nat} {P:Nat→Pc} {l:List Int} (h:¬1200<l.length) (hb:(snSta ⟨l,false⟩).2.t=true∨¬(snSta ⟨l,false⟩).2.l=[]):unpErr np P l=8:=by
 unfold unpErr;rw[if_neg h,if_pos hb]
theorem unp_v {np:Nat} {P:Nat→Pc} {l:List Int} (h:¬1200<l.length) (hb:¬((snSta ⟨l,false⟩).2.t=true∨¬(snSta ⟨l,false⟩).2.l=[])) (hv:¬vmErr np P (snSta ⟨l,false⟩).1=0):unpErr np P l=vmErr np P (snSta ⟨l,false⟩).1:=by
 unfold unpErr;rw[if_neg h,if_neg hb,if_pos hv]
theorem unp_4 {np:Nat} {P:Nat→Pc} {l:List Int} (h:¬1200<l.length) (hb:¬((snSta ⟨l,false⟩).2.t=true∨¬(snSta ⟨l,false⟩).2.l=[])) (hv:vmErr np P (snSta ⟨l,false⟩).1=0) (hs:¬(snSta ⟨l,false⟩).1=sweptS (snSta ⟨l,false⟩).1):unpErr np P l=4:=by
 unfold unpErr;rw[if_neg h,if_neg hb,if_neg (by simp[hv]),if_pos hs]
theorem unp_0 {np:Nat} {P:Nat→Pc} {l:List Int} (h:¬1200<l.length) (hb:¬((snSta ⟨l,false⟩).2.t=true∨¬(snSta ⟨l,false⟩).2.l=[])) (hv:vmErr np P (snSta ⟨l,false⟩).1=0) (hs:(snSta ⟨l,false⟩).1=sweptS (snSta ⟨l,false⟩).1):unpErr np P l=0:=by
 unfold unpErr;rw[if_neg h,if_neg hb,if_neg (by simp[hv]),if_neg (fun h=>h hs)]
section
variable {np:Nat} {P:Nat→Pc}
set_option maxRecDepth 20000 in
set_option maxHeartbeats 4000000 in
theorem unpackC (M:Nat) (vp:Value) (la:Option Addr) (lc:Nat) (l:List Int) (w:World) (hM:M≤w.heap.size) (hp:ProcsAt M w vp np P) (hl:l.length≤1200→NumsIn w.heap.size w (.slice la l.length lc) l) :
  Calls Tryz.prog 32 #[vp,.slice la l.length lc] w (UnpK w (unpSta np P l) (unpErr np P l)):=by
 obtain⟨pa,pc,rfl,_⟩:=id hp
 obtain⟨W0,hW0⟩:∃W0,w.alloc (.cells #[.slice none 0 0,.slice none 0 0,.int .i64 0,.int .i64 0] 26)=W0:=⟨_,rfl⟩
 have HB0:Hid (Below w.heap.size w W0):=hW0 ▸ below_alloc w _
 have HS0:Hid (W0.heap.size=w.heap.size+1):=by show _=_;rw[←hW0];simp
 have HY0:Hid (Box4 26 w.heap.size W0 (.slice none 0 0) (.slice none 0 0) (.int .i64 0) (.int .i64 0)):=by
  show Box4 _ _ _ _ _ _ _
  unfold Box4
  rw[←hW0];exact heap_alloc_new w _
 obtain⟨n,hn⟩:∃n,l.length=n:=⟨_,rfl⟩
 have HN:Hid (l.length=n):=hn
 by_cases h1:1200<n
 ·have hE:unpErr np P l=2:=by unfold unpErr;rw[if_pos (by omega)]
  have hT:unpSta np P l=snNone:=by unfold unpSta;rw[hE,if_neg (by decide)]
  rw[hE,hT,hn]
  have h1i:(1200:Int)<(n:Int):=by omega
  obtain⟨y0,y1,y2,y3,y4⟩:=HY0.out.at
  have yf0:=y4 0
  have yf1:=y4 1
  have yf2:=y4 2
  have yf3:=y4 3
  clear y4
  obtain⟨W6,hW6,Bx6,_,_,bb,_⟩:=box_put (.slice none 0 0) (.slice none 0 0) (.int .i64 0) (.int .i64 0) HY0.out
  have HFin:Hid (W6.heap[w.heap.size]?=some (.cells #[.slice none 0 0,.slice none 0 0,.int .i64 0,.int .i64 0] 26 (0,0))):=Bx6
  have HBf:Hid (Below w.heap.size w W6):=HB0.out.trans (bb w.heap.size (Nat.le_refl _))
  clear Bx6 bb hE hT hl hn hp hM
  go_enter Tryz.func32,Tryz.ntmps32
  go_upto_region 1 with (fail)
  try rw[hW0]
  go_wp2_with (fail)
  try rw[hW6]
  refine bodyPost_ret (results_row_tmp rfl _ _ w.heap.size 26 _ (0,0) _ rfl HFin.out Tryz.underlying26 rfl (by kernel_rfl)) rfl ?_
  exact UnpK.nothing HBf.out
 ·have h1i:¬(1200:Int)<(n:Int):=by omega
  have hin:=hl (by omega)
  obtain⟨R,hRe⟩:∃R,W0.heap.size=R:=⟨_,rfl⟩
  have HRe:Hid (R=w.heap.size+1):=by show _=_;rw[←hRe,HS0.out]
  have h6:¬1200<l.length:=by omega
  have HL12:Hid (¬1200<l.length):=h6
  obtain⟨W1,hW1⟩:∃W1,W0.alloc (.cells #[.slice la n lc,.bool false] 118)=W1:=⟨_,rfl⟩
  have HB1:Hid (Below W0.heap.size W0 W1):=hW1 ▸ below_alloc W0 _
  have HR1:Hid (RdAt R W1 ⟨l,false⟩):=by
   refine⟨.slice la n lc,?_,?_⟩
   ·show RBox _ _ _ _
    unfold RBox
    rw[←hW1,←hRe];exact heap_alloc_new W0 _
   ·rw[hn]at hin
    exact (hin.low fun k hk=>(HB1.out.block k (by have:=HS0.out;omega)).trans (HB0.out.block k hk)).up (by have:=HRe.out;omega)
  have HSt:Hid (Calls Tryz.prog 77 #[.pointer (some ⟨R,0,none⟩)] W1 fun e w'=>∃fa fc ca cc,e=.returned (.agg #[.slice fa (snSta ⟨l,false⟩).1.fs.length fc,.slice ca (snSta ⟨l,false⟩).1.cs.length cc,.int .i64 (snSta ⟨l,false⟩).1.st,.int .i64 (snSta ⟨l,false⟩).1.wh]) ∧
   Hid (SOwn W1.heap.size w' (.slice fa (snSta ⟨l,false⟩).1.fs.length fc) (.slice ca (snSta ⟨l,false⟩).1.cs.length cc) (snSta ⟨l,false⟩).1)∧Hid (RdAt R w' (snSta ⟨l,false⟩).2)∧Hid (But R W1 w')):=snStateC _ W1 _ HR1.out
  have HE8:Hid ((snSta ⟨l,false⟩).2.t=true∨¬(snSta ⟨l,false⟩).2.l=[]→unpErr np P l=8):=unp_8 h6
  have HEv:Hid (¬((snSta ⟨l,false⟩).2.t=true∨¬(snSta ⟨l,false⟩).2.l=[])→¬vmErr np P (snSta ⟨l,false⟩).1=0→unpErr np P l=vmErr np P (snSta ⟨l,false⟩).1):=unp_v h6
  have HE4:Hid (¬((snSta ⟨l,false⟩).2.t=true∨¬(snSta ⟨l,false⟩).2.l=[])→vmErr np P (snSta ⟨l,false⟩).1=0→¬(snSta ⟨l,false⟩).1=sweptS (snSta ⟨l,false⟩).1→unpErr np P l=4):=unp_4 h6
  have HE0:Hid (¬((snSta ⟨l,false⟩).2.t=true∨¬(snSta ⟨l,false⟩).2.l=[])→vmErr np P (snSta ⟨l,false⟩).1=0→(snSta ⟨l,false⟩).1=sweptS (snSta ⟨l,false⟩).1→unpErr np P l=0):=unp_0 h6
  have HSta:Hid (unpSta np P l=if unpErr np P l=0 then (snSta ⟨l,false⟩).1 else snNone):=by show _=_;rfl
  have HBack:Hid ((snSta ⟨l,false⟩).2.t=false→(snSta ⟨l,false⟩).2.l=[]→SnSmall (snSta ⟨l,false⟩).1):=fun ht hl0=>by
   refine (snSta_back (z:=[]) (r:=⟨l,false⟩) (S:=(snSta ⟨l,false⟩).1) (Prod.ext rfl ?_)).2
   cases hr:(snSta ⟨l,false⟩).2 with
   | mk l' t'=>rw[hr]at ht hl0;simp only[]at ht hl0;subst ht hl0;rfl
  generalize (snSta ⟨l,false⟩).1=S at *
  generalize (snSta ⟨l,false⟩).2=q at *
  generalize unpErr np P l=er at *
  generalize unpSta np P l=T at *
  have HR:Hid (R<W1.heap.size):=HR1.out.lt
  have HPr:Hid (∀wk,Below w.heap.size w wk→ProcsAt M wk (.slice pa np pc) np P):=fun wk hk=>hp.below (hk.mono hM)
  have HMw:Hid (M≤w.heap.size):=hM
  rw[hn]
  clear hl hin h6 hp hM hn HR1
  go_enter Tryz.func32,Tryz.ntmps32
  go_upto_region 1 with (fail)
  try rw[hW0]
  go_upto_region 4 with (fail)
  try rw[hW1]
  try rw[hRe]
  go_upto_region 5 with (go_at_call 77;refine HSt.out.mono ?_;rintro e w2 ⟨fa,fc,ca,cc,rfl,HO2,HR2,HB2⟩)
  obtain⟨W3,hW3⟩:∃W3,w2.alloc (.cells #[.slice fa S.fs.length fc,.slice ca S.cs.length cc,.int .i64 S.st,.int .i64 S.wh] 26)=W3:=⟨_,rfl⟩
  try rw[hW3]
  have HB3:Hid (Below w2.heap.size w2 W3):=hW3 ▸ below_alloc w2 _
  have HO3:Hid (SOwn W1.heap.size W3 (.slice fa S.fs.length fc) (.slice ca S.cs.length cc) S):=HO2.out.below HB3.out
  have HR3:Hid (RdAt R W3 q):=HR2.out.below HB3.out
  have HBx:Hid (Box4 26 w2.heap.size W3 (.slice fa S.fs.length fc) (.slice ca S.cs.length cc) (.int .i64 S.st) (.int .i64 S.wh)):=by
   show Box4 _ _ _ _ _ _ _
   unfold Box4
   rw[←hW3];exact heap_alloc_new w2 _
  have HY3:Hid (Box4 26 w.heap.size W3 (.slice none 0 0) (.slice none 0 0) (.int .i64 0) (.int .i64 0)):=by
   have e1:W1.heap[w.heap.size]?=W0.heap[w.heap.size]?:=HB1.out.block _ (by have:=HS0.out;omega)
   have e2:w2.heap[w.heap.size]?=W1.heap[w.heap.size]?:=HB2.out.block _ (by have:=HR.out;have:=HRe.out;omega) (by have:=HRe.out;omega)
   have e3:W3.heap[w.heap.size]?=w2.heap[w.heap.size]?:=HB3.out.block _ (by have:=HR.out;have:=HB2.out.size;have:=HRe.out;omega)
   exact HY0.out.keep (e3.trans (e2.trans e1))
  have HBw:Hid (Below w.heap.size w W3):=by
   have h1:Below w.heap.size w W1:=HB0.out.trans (HB1.out.mono (by have:=HS0.out;omega))
   have h2:Below w.heap.size W1 w2:=HB2.out.low (by have:=HRe.out;omega) (by have:=HR.out;have:=HRe.out;omega)
   exact (h1.trans h2).trans (HB3.out.mono (by have:=HR.out;have:=HB2.out.size;have:=HRe.out;omega))
  have HXs:Hid (w.heap.size<w2.heap.size∧W1.heap.size≤w2.heap.size∧w.heap.size≤W1.heap.size∧w2.heap.size<W3.heap.size):=by
   have:=HR.out;have:=HRe.out;have:=HB2.out.size;have:=(Array.getElem?_eq_some_iff.1 HBx.out).1
   refine⟨?_,?_,?_,?_⟩<;>omega
  have HZero:Hid (∀wk,Below W3.heap.size W3 wk→(∃W6,((((wk.setCell ⟨w.heap.size,0,none⟩ (.slice none 0 0)).setCell ⟨w.heap.size,1,none⟩ (.slice none 0 0)).setCell ⟨w.heap.size,2,none⟩ (.int .i64 0)).setCell ⟨w.heap.size,3,none⟩ (.int .i64 0))=W6∧W6.heap[w.heap.size]?=some (.cells #[.slice none 0 0,.slice none 0 0,.int .i64 0,.int .i64 0] 26 (0,0))∧Below w.heap.size w W6)∧∀i,wk.frozen? ⟨w.heap.size,i,none⟩=false):=fun wk hk=>by
   have hb:=HY3.out.keep (hk.block w.heap.size (by have:=HXs.out;omega))
   obtain⟨W6,hW6,Bx6,_,_,bb,_⟩:=box_put (.slice none 0 0) (.slice none 0 0) (.int .i64 0) (.int .i64 0) hb
   exact⟨⟨W6,hW6,Bx6,(HBw.out.trans (hk.mono (by have:=HXs.out;omega))).trans (bb w.heap.size (Nat.le_refl _))⟩,hb.at.2.2.2.2⟩
  have HYc:Hid (∀wk,Below W3.heap.size W3 wk→wk.cell? ⟨w.heap.size,0,none⟩=some (.slice none 0 0)∧wk.cell? ⟨w.heap.size,1,none⟩=some (.slice none 0 0)∧wk.cell? ⟨w.heap.size,2,none⟩=some (.int .i64 0)∧wk.cell? ⟨w.heap.size,3,none⟩=some (.int .i64 0)):=fun wk hk=>by
   have hb:=HY3.out.keep (hk.block w.heap.size (by have:=HXs.out;omega))
   exact⟨hb.at.1,hb.at.2.1,hb.at.2.2.1,hb.at.2.2.2.1⟩
  have HXc:Hid (∀wk,Below W3.heap.size W3 wk→wk.cell? ⟨w2.heap.size,0,none⟩=some (.slice fa S.fs.length fc)∧wk.cell? ⟨w2.heap.size,1,none⟩=some (.slice ca S.cs.length cc)∧wk.cell? ⟨w2.heap.size,2,none⟩=some (.int .i64 S.st)∧wk.cell? ⟨w2.heap.size,3,none⟩=some (.int .i64 S.wh)):=fun wk hk=>by
   have hb:=HBx.out.keep (hk.block w2.heap.size (by have:=HXs.out;omega))
   exact⟨hb.at.1,hb.at.2.1,hb.at.2.2.1,hb.at.2.2.2.1⟩
  obtain⟨ql,qt⟩:=q
  obtain⟨rv,hbx,ra,rc,rfl,_⟩:=HR3.out
  obtain⟨r0,r1,_,_⟩:=hbx.cells
  obtain⟨qn,hqn⟩:∃qn,ql.length=qn:=⟨_,rfl⟩
  have HQn:Hid (ql.length=qn):=hqn
  rw[show (⟨ql,qt⟩:SnRd).l.length=qn from hqn]at r0
  have r1:W3.cell? ⟨R,1,none⟩=some (.bool qt):=r1
  clear hW3 hW1 hW0 hRe hqn hbx HR3 HR2 HB2 HB3 HO2 HSt
  generalize w2.heap.size=X at *
  have fin:∀(er':Int),er=er'→(er' ≠ 0)→T=snNone:=fun er' h h2=>by rw[HSta.out,h,if_neg h2]
  have HFinish:=(show Hid _ from fin)
  clear fin
  by_cases hbad:qt=true∨0<qn
  ·have h8:er=8:=by
    refine HE8.out ?_
    rcases hbad with h|h
    ·exact Or.inl h
    ·right
     intro e
     have:ql=[]:=e
     rw[this]at HQn
     have:=HQn.out
     simp at this
     omega
   have hT:T=snNone:=HFinish.out 8 h8 (by decide)
   have H8:Hid (er=8∧T=snNone):=⟨h8,hT⟩
   obtain⟨⟨W6,hW6,HF6,HB6⟩,hfz⟩:=HZero.out W3 (Below.refl _ _)
   obtain⟨y0,y1,y2,y3⟩:=HYc.out W3 (Below.refl _ _)
   have yf0:=hfz 0
   have yf1:=hfz 1
   have yf2:=hfz 2
   have yf3:=hfz 3
   have HF6:=(show Hid _ from HF6)
   have HB6:=(show Hid _ from HB6)
   clear hfz h8 hT
   cases qt with
   | true =>
    clear hbad
    go_wp2_with (fail)
    try rw[hW6]
    refine bodyPost_ret (results_row_tmp rfl _ _ w.heap.size 26 _ (0,0) _ rfl HF6.out Tryz.underlying26 rfl (by kernel_rfl)) rfl ?_
    rw[H8.out.1,H8.out.2]
    exact UnpK.nothing HB6.out
   | false =>
    have hq0:(0:Int)<(qn:Int):=by
     rcases hbad with h|h
     ·cases h
     ·omega
    clear hbad
    go_wp2_with (fail)
    try rw[hW6]
    refine bodyPost_ret (results_row_tmp rfl _ _ w.heap.size 26 _ (0,0) _ rfl HF6.out Tryz.underlying26 rfl (by kernel_rfl)) rfl ?_
    rw[H8.out.1,H8.out.2]
    exact UnpK.nothing HB6.out
  ·obtain rfl:qt=false:=by
    cases qt with
    | true=>exact absurd (Or.inl rfl) hbad
    | false=>rfl
   obtain rfl:qn=0:=by omega
   have hql:ql=[]:=List.eq_nil_of_length_eq_zero HQn.out
   have hgood:¬((⟨ql,false⟩:SnRd).t=true∨¬(⟨ql,false⟩:SnRd).l=[]):=by
    rintro (h|h)
    ·cases h
    ·exact h hql
   have HEv2:Hid (¬vmErr np P S=0→er=vmErr np P S):=HEv.out hgood
   have HE42:Hid (vmErr np P S=0→¬S=sweptS S→er=4):=HE4.out hgood
   have HE02:Hid (vmErr np P S=0→S=sweptS S→er=0):=HE0.out hgood
   have HSm:Hid (SnSmall S):=HBack.out rfl hql
   have HAt:Hid (∀wk,Below W3.heap.size W3 wk→StaAt wk (.slice fa S.fs.length fc) (.slice ca S.cs.length cc) S):=fun wk hk=>own_small (HO3.out.below hk) HSm.out
   have HCk:Hid (Calls Tryz.prog 20 #[.slice pa np pc,.agg #[.slice fa S.fs.length fc,.slice ca S.cs.length cc,.int .i64 S.st,.int .i64 S.wh]] W3 fun e w'=>e=.returned (.int .i64 (vmErr np P S))∧Below W3.heap.size W3 w'):=vmCheck M _ _ _ np P S W3 (Nat.le_trans HMw.out HBw.out.size) (HPr.out W3 HBw.out) (HAt.out W3 (Below.refl _ _))
   have hq0:¬(0:Int)<((0:Nat):Int):=by omega
   obtain⟨x0,x1,x2,x3⟩:=HXc.out W3 (Below.refl _ _)
   clear hbad hgood HE8 HEv HE4 HE0 HBack hql
   have HG:Hid (∀wk,Below W3.heap.size W3 wk→(wk.cell? ⟨w.heap.size,0,none⟩=some (.slice none 0 0)∧wk.cell? ⟨w.heap.size,1,none⟩=some (.slice none 0 0)∧wk.cell? ⟨w.heap.size,2,none⟩=some (.int .i64 0)∧wk.cell? ⟨w.heap.size,3,none⟩=some (.int .i64 0))∧wk.frozen? ⟨w.heap.size,0,none⟩=false∧wk.frozen? ⟨w.heap.size,1,none⟩=false∧wk.frozen? ⟨w.heap.size,2,none⟩=false∧wk.frozen? ⟨w.heap.size,3,none⟩=false):=fun wk hk=>⟨HYc.out wk hk,(HZero.out wk hk).2 0,(HZero.out wk hk).2 1,(HZero.out wk hk).2 2,(HZero.out wk hk).2 3⟩
   by_cases hv:vmErr np P S=0
   ·obtain⟨hc,ok,hce⟩:=vmErr_right hv
    rw[hv]at HCk
    have HSw:Hid (∀wk,Below W3.heap.size W3 wk→Calls Tryz.prog 21 #[.agg #[.slice fa S.fs.length fc,.slice ca S.cs.length cc,.int .i64 S.st,.int .i64 S.wh]] wk fun e w'=>∃fa fc ca cc,e=.returned (.agg #[.slice fa (sweptS S).fs.length fc,.slice ca (sweptS S).cs.length cc,.int .i64 S.st,.int .i64 S.wh])∧Hid (StaAt w' (.slice fa (sweptS S).fs.length fc) (.slice ca (sweptS S).cs.length cc) (sweptS S))∧Below wk.heap.size wk w'):=fun wk hk=>by
     refine (sweepK S _ _ wk (HAt.out wk hk) hc ok).mono ?_
     rintro e w' ⟨fa,fc,ca,cc,rfl,h1,h2⟩
     exact⟨fa,fc,ca,cc,rfl,h1.out.at hc (ok.swept hc),h2⟩
    have HSame:Hid (∀fa2 fc2 ca2 cc2 wk,Below W3.heap.size W3 wk→StaAt wk (.slice fa2 (sweptS S).fs.length fc2) (.slice ca2 (sweptS S).cs.length cc2) (sweptS S)→Calls Tryz.prog 18 #[.agg #[.slice fa S.fs.length fc,.slice ca S.cs.length cc,.int .i64 S.st,.int .i64 S.wh],.agg #[.slice fa2 (sweptS S).fs.length fc2,.slice ca2 (sweptS S).cs.length cc2,.int .i64 S.st,.int .i64 S.wh]] wk fun e w'=>e=.returned (.bool (eqSt S (sweptS S)))∧Below wk.heap.size wk w'):=fun fa2 fc2 ca2 cc2 wk hk h=>vmSame S (sweptS S) _ _ _ _ wk (HAt.out wk hk) h
    by_cases hsw:S=sweptS S
    ·have h0:er=0:=HE02.out hv hsw
     have hT:T=S:=by rw[HSta.out,if_pos h0]
     have heq:eqSt S (sweptS S)=true:=eqSt_iff.2 hsw
     rw[heq]at HSame
     have H8:Hid (er=0∧T=S):=⟨h0,hT⟩
     clear h0 hT
     clear hsw heq hv hc ok hce
     go_upto_region 10 with (go_at_call 20;refine HCk.out.mono ?_;rintro e w4 ⟨rfl,hb4⟩)
     have hb4d:Below W3.heap.size W3 w4.drew:=hb4.drew
     clear x0 x1 x2 x3 r0 r1
     obtain⟨x0,x1,x2,x3⟩:=HXc.out w4 hb4
     go_region_law (go_simp;go_wp2_with (first
      | (go_at_call 18;refine (HSame.out _ _ _ _ _ hb5 SB5.out).mono ?_;rintro e w6 ⟨rfl,hb6'⟩;have hb6:=below_step hb5 hb6';clear hb6';obtain⟨u0,u1,u2,u3⟩:=HXc.out _ hb6;obtain⟨⟨y0,y1,y2,y3⟩,yf0,yf1,yf2,yf3⟩:=HG.out _ hb6)
      | (go_at_call 21;refine (HSw.out _ hb4d).mono ?_;rintro e w5 ⟨f2,g2,c2,d2,rfl,SB5,hb5'⟩;have hb5:=below_step hb4d hb5';clear hb5';obtain⟨z0,z1,z2,z3⟩:=HXc.out _ hb5)))
     all_goals
      obtain⟨W7,hW7,Bx7,_,_,bb,bkk⟩:=box_put (.slice fa S.fs.length fc) (.slice ca S.cs.length cc) (.int .i64 S.st) (.int .i64 S.wh) (HY3.out.keep (hb6.block w.heap.size (by have:=HXs.out;omega)))
      have HF7:Hid (W7.heap[w.heap.size]?=some (.cells #[.slice fa S.fs.length fc,.slice ca S.cs.length cc,.int .i64 S.st,.int .i64 S.wh] 26 (0,0))):=Bx7
      have HO7:Hid (SOwn W1.heap.size W7 (.slice fa S.fs.length fc) (.slice ca S.cs.length cc) S):=(HO3.out.below hb6).keep bkk
      have HB7:Hid (Below w.heap.size w W7):=(HBw.out.trans (hb6.mono (by have:=HXs.out;omega))).trans (bb w.heap.size (Nat.le_refl _))
      clear Bx7 bb bkk z0 z1 z2 z3 x0 x1 x2 x3
      go_wp2_with (fail)
      try rw[hW7]
      refine bodyPost_ret (results_row_tmp rfl _ _ w.heap.size 26 _ (0,0) _ rfl HF7.out Tryz.underlying26 rfl (by kernel_rfl)) rfl ?_
      rw[H8.out.1,H8.out.2]
      exact⟨fa,fc,ca,cc,rfl,HO7.out.lower HXs.out.2.2.1,HB7⟩
    ·have h0:er=4:=HE42.out hv hsw
     have hT:T=snNone:=HFinish.out 4 h0 (by decide)
     have heq:eqSt S (sweptS S)=false:=by rw[Bool.eq_false_iff];exact fun h=>hsw (eqSt_iff.1 h)
     rw[heq]at HSame
     have H8:Hid (er=4∧T=snNone):=⟨h0,hT⟩
     clear h0 hT
     clear hsw heq hv hc ok hce
     go_upto_region 10 with (go_at_call 20;refine HCk.out.mono ?_;rintro e w4 ⟨rfl,hb4⟩)
     have hb4d:Below W3.heap.size W3 w4.drew:=hb4.drew
     clear x0 x1 x2 x3 r0 r1
     obtain⟨x0,x1,x2,x3⟩:=HXc.out w4 hb4
     go_region_law (go_simp;go_wp2_with (first
      | (go_at_call 18;refine (HSame.out _ _ _ _ _ hb5 SB5.out).mono ?_;rintro e w6 ⟨rfl,hb6'⟩;have hb6:=below_step hb5 hb6';clear hb6';obtain⟨u0,u1,u2,u3⟩:=HXc.out _ hb6;obtain⟨⟨y0,y1,y2,y3⟩,yf0,yf1,yf2,yf3⟩:=HG.out _ hb6)
      | (go_at_call 21;refine (HSw.out _ hb4d).mono ?_;rintro e w5 ⟨f2,g2,c2,d2,rfl,SB5,hb5'⟩;have hb5:=below_step hb4d hb5';clear hb5';obtain⟨z0,z1,z2,z3⟩:=HXc.out _ hb5)))
     all_goals
      obtain⟨⟨W7,hW7,HF7,HB7⟩,_⟩:=HZero.out w6 hb6
      clear z0 z1 z2 z3 x0 x1 x2 x3 u0 u1 u2 u3
      go_wp2_with (fail)
      try rw[hW7]
      refine bodyPost_ret (results_row_tmp rfl _ _ w.heap.size 26 _ (0,0) _ rfl HF7 Tryz.underlying26 rfl (by kernel_rfl)) rfl ?_
      rw[H8.out.1,H8.out.2]
      exact UnpK.nothing HB7
   ·have h0:er=vmErr np P S:=HEv2.out hv
    have hT:T=snNone:=HFinish.out _ h0 hv
    have H8:Hid (er=vmErr np P S∧T=snNone):=⟨h0,hT⟩
    have heb:(vmErr np P S != 0)=true:=by simpa using hv
    clear h0 hT
    generalize vmErr np P S=ev at *
    go_wp2_with (go_at_call 20;refine HCk.out.mono ?_;rintro e w4 ⟨rfl,hb4⟩;obtain⟨⟨y0,y1,y2,y3⟩,yf0,yf1,yf2,yf3⟩:=HG.out _ hb4)
    obtain⟨⟨W6,hW6,HF6,HB6⟩,_⟩:=HZero.out w4 hb4
    try rw[hW6]
    refine bodyPost_ret (results_row_tmp rfl _ _ w.heap.size 26 _ (0,0) _ rfl HF6 Tryz.underlying26 rfl (by kernel_rfl)) rfl ?_
    rw[H8.out.1,H8.out.2]
    exact UnpK.nothing HB6
end
end Go.Proofs.YtfaokaohhchdhaaGreatDoor
