/- codeOf: its walk. -/
import Derived.Test.YtfaokaohhchdhaaGreatDoorCodedC
namespace Go.Proofs.YtfaokaohhchdhaaGreatDoor
open Go.RowKit Go.Maps
def CodC (N nf:Nat) (par loc:Nat→Int) (bv:Nat→Value) (f:Value) (free:Nat) (d:Nat):Prop :=
 ∀(at0:Nat) (v:Value) (T:SL) (w:World) (L:List (List Int)),N≤w.heap.size→StmtsAt N w d v T→FunsAt N w f nf par loc bv→toksFew d T→codM nf par free d T at0=some L→at0+L.length≤10000 →
  Calls Tryz.prog 103 #[v,f,.int .i64 free,.int .i64 at0] w fun e w'=>∃ad cap,e=.returned (.slice ad L.length cap)∧Hid (InsRow w.heap.size (fun _=>False) w' (.slice ad L.length cap) L)∧Hid (L=[]→ad=none∧cap=0)∧Hid (Below w.heap.size w w')
theorem InsRow.own_ge {B:Nat} {no:Nat→Prop} {w:World} {v:Value} {L:List (List Int)} (h:InsRow B no w v L):∀k,v.ownBlock=some k→B≤k∧k<w.heap.size:=fun k hk=>by
 obtain⟨items,c1,_,_⟩:=h
 exact c1.1.lt k hk
theorem endB {W wr X w3:World} {r:Option Nat} (h4:Below W.heap.size W wr) (h1:Below wr.heap.size wr X) (hg:X.grownBy w3 r) (hr:∀k,r=some k→W.heap.size≤k):Below W.heap.size W w3 :=
 (h4.trans (h1.mono h4.size)).grown hg (Nat.le_trans h4.size h1.size) hr
theorem valCall {N nf:Nat} {par loc:Nat→Int} {bv:Nat→Value} {f v:Value} {n free:Nat} {k z:Nat→Int} {w wk:World} (hN:N≤w.heap.size) (hb:Below w.heap.size w wk) (ht:ToksAt N w v n k z) (hf:FunsAt N w f nf par loc bv) (hn:n≤1000) (hfr:free≤2000) {L:List (List Int)} {r:Nat} (h:valM n nf k z par n 0 free=some (L,r)) :
  Calls Tryz.prog 141 #[v,f,.int .i64 free] wk fun e w'=>∃ad cap r,e=.returned (.tuple #[.slice ad L.length cap,.int .i64 ((r:Nat):Int)])∧Hid (InsRow wk.heap.size (fun _=>False) w' (.slice ad L.length cap) L)∧Hid (Below wk.heap.size wk w'):=by
 have hs:=hb.size
 refine (valuedC (N:=N) (loc:=loc) (bv:=bv) (f:=f) n 0 free v wk L r (by omega) ?_ ?_ (hf.below (hb.mono hN)) hn (by omega) h).mono ?_
 ·have:=ht.below (hb.mono hN)
  simpa using this
 ·simpa using ht.room
 ·rintro e w' ⟨ad,cap,rfl,h1,h2⟩
  exact⟨ad,cap,_,rfl,h1,h2⟩
theorem one_len {nf:Nat} {par:Nat→Int} {free:Nat} {sub:Bool→Nat→Option (List (List Int))} {s:Nd} {here:Nat} {ce cl:List (List Int)}
  (h:(s.kind=1∧cl=ce++[[2,s.num,(free:Int),0]])∨(s.kind=2∧∃d r,valM s.nf nf s.fk s.fz par s.nf 0 (free+1)=some (d,r)∧cl=ce++d++[[6,(free:Int),(free:Int)+1,s.num]]) ∨
   (s.kind=3∧cl=ce++[[9,(free:Int),0,0]])∨(s.kind=4∧cl=ce++[[10,0,0,0]])∨(s.kind=5∧cl=ce++[[11,(free:Int),0,0]])∨(s.kind=8∧cl=ce++[[8,(free:Int),0,0]]) ∨
   ((s.kind=6∨s.kind=7)∧∃x y,sub false (here+ce.length+1)=some x∧sub true (here+ce.length+1+x.length+1)=some y ∧
    cl=ce++[[13,(free:Int),((here+ce.length+1+x.length+1:Nat):Int),0]]++x++[[12,0,(if s.kind=7 then ((here:Nat):Int) else ((here+ce.length+1+x.length+1+y.length:Nat):Int)),0]]++y)):ce.length<cl.length:=by
 rcases h with⟨_,rfl⟩|⟨_,d,r,_,rfl⟩|⟨_,rfl⟩|⟨_,rfl⟩|⟨_,rfl⟩|⟨_,rfl⟩|⟨_,x,y,_,_,rfl⟩<;>simp only[List.length_append,List.length_cons,List.length_nil]<;>omega
set_option maxRecDepth 20000 in
set_option maxHeartbeats 8000000 in
theorem cod_core {N nf:Nat} {par loc:Nat→Int} {bv:Nat→Value} {f:Value} {free d:Nat} (hfr:free≤1000) {at0:Nat} {v:Value} {T:SL} {w:World} {L:List (List Int)} (ih:T.len=0∨CodC N nf par loc bv f free d) (hN:N≤w.heap.size) (ht:StmtsAt N w (d+1) v T) (hf:FunsAt N w f nf par loc bv) (hfew:toksFew (d+1) T)
  (hv:iterM (fun i here=>oneM nf par free (fun b at1=>codM nf par free d (T.sub i b) at1) (T.nd i) here) at0 T.len=some L) (hl:at0+L.length≤10000) :
  Calls Tryz.prog 103 #[v,f,.int .i64 free,.int .i64 at0] w fun e w'=>∃ad cap,e=.returned (.slice ad L.length cap)∧Hid (InsRow w.heap.size (fun _=>False) w' (.slice ad L.length cap) L)∧Hid (L=[]→ad=none∧cap=0)∧Hid (Below w.heap.size w w'):=by
 obtain⟨g,hg⟩:∃g:Nat→Nat→Option (List (List Int)),(fun i here=>oneM nf par free (fun b at1=>codM nf par free d (T.sub i b) at1) (T.nd i) here)=g:=⟨_,rfl⟩
 rw[hg]at hv
 obtain⟨sa,sc,rfl,hlen,hcell⟩:=ht
 obtain⟨n,hn⟩:∃n,T.len=n:=⟨_,rfl⟩
 rw[hn]at hv hlen hcell ih ⊢
 obtain⟨fa,fc,rfl,_⟩:=hf.shape
 have HV:Hid (iterM g at0 n=some L):=hv
 have HL:Hid (at0+L.length≤10000):=hl
 have HG:Hid ((fun i here=>oneM nf par free (fun b at1=>codM nf par free d (T.sub i b) at1) (T.nd i) here)=g):=hg
 have HN:Hid (T.len=n):=hn
 have hat:at0≤10000:=by omega
 clear hv hl hg hn
 go_enter Tryz.func103,Tryz.ntmps103
 go_upto_region 3 with (fail)
 go_loopw [9,22] (fun ov kv wr=>∃i c,i≤n∧kv=.int .i64 (i:Nat)∧(∃ad cap,ov=.slice ad c.length cap∧Hid (c=[]→ad=none∧cap=0))∧Hid (iterM g at0 i=some c)∧Hid (InsRow w.heap.size (fun _=>False) wr ov c)∧Hid (Below w.heap.size w wr)) (fun _ kv _=>n - (intOf kv).toNat)
 case atStart=>exact⟨0,[],Nat.zero_le _,rfl,⟨none,0,rfl,fun _=>⟨rfl,rfl⟩⟩,rfl,InsRow.nil _ _ _,Below.refl _ _⟩
 case round =>
  obtain⟨i,c,hi,rfl,⟨oa,oc,rfl,HNil⟩,HI,HO,HB⟩:=hrel
  by_cases hlt:i<n
  ·rcases hcell with h0|⟨b,o,rfl,hb,hcell⟩
   ·omega
   obtain⟨ve,vf,va,vb,c0,c1,c2,c3,c4,c5,t1,t2,s1,s2⟩:=hcell i hlt
   obtain⟨p,hp,hpl⟩:=iterM_prefix HV.out (i+1) (by omega)
   obtain⟨c',cl,hp1,hp2,rfl⟩:=iterM_step hp
   rw[HI.out]at hp1
   injection hp1 with hp1
   subst hp1
   rw[←HG.out]at hp2
   have hclen:c.length+cl.length≤L.length:=by rw[List.length_append]at hpl;exact hpl
   obtain⟨ce,hce,hk⟩:=oneM_cases hp2
   have hcel:=one_len (s:=T.nd i) (sub:=fun b at1=>codM nf par free d (T.sub i b) at1) (here:=at0+c.length) (free:=free) (nf:=nf) (par:=par) (ce:=ce) (cl:=cl) hk
   obtain⟨few1,few2,fewk,few3,few4⟩:=hfew i (by rw[HN.out];exact hlt)
   generalize hsx:T.nd i=s at *
   obtain⟨kd,nm,ne,ek,ez,nf2,fk,fz⟩:=s
   replace c0:=below_at HB.out c0
   replace c1:=below_at HB.out c1
   replace c2:=below_at HB.out c2
   replace c3:=below_at HB.out c3
   replace c4:=below_at HB.out c4
   replace c5:=below_at HB.out c5
   obtain⟨ea,ec,rfl,_⟩:=t1.shape
   obtain⟨xa,xc,rfl,_⟩:=t2.shape
   obtain⟨aa,ac,rfl,_⟩:=s1.shape
   obtain⟨ba,bc,rfl,_⟩:=s2.shape
   simp only[]at c0 c1 few1 few2 fewk
   have HFK:Hid (¬kd=2):=fewk
   clear fewk
   have hN':N≤wr.heap.size:=Nat.le_trans hN HB.out.size
   have HVE:Hid (¬ne=0→∀wk,Below wr.heap.size wr wk→Calls Tryz.prog 141 #[.slice ea ne ec,.slice fa nf fc,.int .i64 free] wk fun e w'=>∃ad cap r,e=.returned (.tuple #[.slice ad ce.length cap,.int .i64 ((r:Nat):Int)])∧Hid (InsRow wk.heap.size (fun _=>False) w' (.slice ad ce.length cap) ce)∧Hid (Below wk.heap.size wk w')):=fun h0 wk hwk=>by
    rcases hce with⟨h1,_⟩|⟨_,r,hr⟩
    ·exact absurd h1 h0
    ·exact valCall hN (below_step HB.out hwk) t1 hf few1 (by omega) hr
   have HVN:Hid (ne=0→ce=[]):=fun h0=>by
    rcases hce with⟨_,h1⟩|⟨h1,_⟩
    ·exact h1
    ·exact absurd h0 h1
   have HST:Hid (ToksAt N w (.slice xa nf2 xc) nf2 fk fz∧StmtsAt N w d (.slice aa (T.sub i false).len ac) (T.sub i false)∧StmtsAt N w d (.slice ba (T.sub i true).len bc) (T.sub i true)∧nf2≤1000∧toksFew d (T.sub i false)∧toksFew d (T.sub i true)∧FunsAt N w (.slice fa nf fc) nf par loc bv):=⟨t2,s1,s2,few2,few3,few4,hf⟩
   have HP1:Hid (iterM g at0 (i+1)=some (c++cl)):=hp
   have HK:=(show Hid _ from hk)
   clear t1 t2 s1 s2 few3 few4 hf hfew hp2 hp hpl hk hce hcell
   obtain⟨la,hla⟩:∃x,(T.sub i false).len=x:=⟨_,rfl⟩
   obtain⟨lb,hlb⟩:∃x,(T.sub i true).len=x:=⟨_,rfl⟩
   rw[hla]at c4
   rw[hlb]at c5
   have hLc:at0+c.length≤10000:=by have:=HL.out;omega
   have hcl0:cl.length≤10000:=by have:=HL.out;omega
   obtain⟨W1,hW1⟩:∃W1,wr.alloc (.cells #[.int .i64 kd,.int .i64 nm,.slice ea ne ec,.slice xa nf2 xc,.slice aa la ac,.slice ba lb bc] 196)=W1:=⟨_,rfl⟩
   have HW1:Hid (wr.alloc (.cells #[.int .i64 kd,.int .i64 nm,.slice ea ne ec,.slice xa nf2 xc,.slice aa la ac,.slice ba lb bc] 196)=W1):=hW1
   have d0:W1.cell? ⟨wr.heap.size,0,none⟩=some (.int .i64 kd):=by rw[←hW1,World.cell?_alloc_new];rfl
   have d1:W1.cell? ⟨wr.heap.size,1,none⟩=some (.int .i64 nm):=by rw[←hW1,World.cell?_alloc_new];rfl
   have d2:W1.cell? ⟨wr.heap.size,2,none⟩=some (.slice ea ne ec):=by rw[←hW1,World.cell?_alloc_new];rfl
   have d3:W1.cell? ⟨wr.heap.size,3,none⟩=some (.slice xa nf2 xc):=by rw[←hW1,World.cell?_alloc_new];rfl
   have d4:W1.cell? ⟨wr.heap.size,4,none⟩=some (.slice aa la ac):=by rw[←hW1,World.cell?_alloc_new];rfl
   have d5:W1.cell? ⟨wr.heap.size,5,none⟩=some (.slice ba lb bc):=by rw[←hW1,World.cell?_alloc_new];rfl
   have HC1:Hid (∀wk,Below W1.heap.size W1 wk→wk.cell? ⟨wr.heap.size,0,none⟩=some (.int .i64 kd)∧wk.cell? ⟨wr.heap.size,1,none⟩=some (.int .i64 nm)∧wk.cell? ⟨wr.heap.size,3,none⟩=some (.slice xa nf2 xc)∧wk.cell? ⟨wr.heap.size,4,none⟩=some (.slice aa la ac)∧wk.cell? ⟨wr.heap.size,5,none⟩=some (.slice ba lb bc)):=fun wk hk=>⟨below_at hk d0,below_at hk d1,below_at hk d3,below_at hk d4,below_at hk d5⟩
   have HB1:Hid (Below wr.heap.size wr W1):=hW1 ▸ below_alloc wr _
   have HLab:Hid ((T.sub i false).len=la∧(T.sub i true).len=lb):=⟨hla,hlb⟩
   clear hW1 hla hlb d3 d4 d5
   go_upto_region 5 with (fail)
   rw[HW1.out]
   go_upto_if 33 with (fail)
   go_cut [13] from 33 to 41 (fun q wx=>∃ad cap,q=.slice ad ce.length cap∧Hid (InsRow W1.heap.size (fun _=>False) wx q ce)∧Hid (Below W1.heap.size W1 wx))
   case first =>
    by_cases h0:0<ne
    ·have h1:¬ne=0:=by omega
     go_wp2_with (go_at_call 141;go_loud (refine (HVE.out h1 W1 HB1.out).mono ?_;rintro e w2 ⟨ad1,cp1,r1,rfl,HR1,HB2⟩))
     go_meet
     exact⟨ad1,cp1,rfl,HR1,HB2⟩
    ·go_wp2_with fail
     go_meet
     have e:=HVN.out (by omega)
     exact⟨none,0,by rw[e];rfl,by rw[e];exact InsRow.nil _ _ _,Below.refl _ _⟩
   case rest =>
    obtain⟨ad1,cp1,rfl,HR1,HB2⟩:=hcut
    clear d0 d1 d2
    generalize wc=W2 at *
    obtain⟨d0,_,_,_,_⟩:=HC1.out W2 HB2.out
    go_upto_block 2 with (fail)
    go_cut [13,14,15,16,17,18,19] from 44 to 151 (fun q _ _ _ _ _ _ wx=>∃ad cap,q=.slice ad cl.length cap∧Hid (InsRow W1.heap.size (fun _=>False) wx q cl)∧Hid (Below W1.heap.size W1 wx))
    case first =>
     have hk:=HK.out
     have hce0:ce.length≤10000:=by omega
     rcases hk with⟨hk1,hk2⟩|⟨hk1,hk2⟩|⟨hk1,hk2⟩|⟨hk1,hk2⟩|⟨hk1,hk2⟩|⟨hk1,hk2⟩|⟨hk1,hk2⟩
     ·replace hk1:kd=1:=hk1
      replace hk2:cl=ce++[[2,nm,(free:Int),0]]:=hk2
      subst hk1
      subst hk2
      go_wp2_with (first|(at_builtin;go_loud (refine append_insR _ rfl _ _ rfl W1.heap.size W1.heap.size (fun _=>False) (.slice ad1 ce.length cp1) (.slice (some ⟨W2.heap.size,0,none⟩) 1 1) ce [[2,nm,(free:Int),0]++[]] rfl rfl (HR1.out.below (below_alloc _ _)) (insOne 2 nm (free:Int) 0 (.slice none 0 0) [] rfl HB2.out.size ⟨_,_,rfl,by simp,Or.inl rfl⟩ (fun k hk=>(argB_none hk).elim)) (Nat.le_refl _) (by simp) (by simp;omega) (Nat.le_trans HB2.out.size (below_alloc _ _).size) ?_;intro ad3 cp3 w3 HI7 HG3)))
      go_meet
      exact⟨_,_,by rw[List.length_append];rfl,HI7,endB HB2.out (below_alloc _ _) HG3.out fun k hk=>(HR1.out.own_ge k hk).1⟩
     ·exact absurd hk1 HFK.out
     ·replace hk1:kd=3:=hk1
      replace hk2:cl=ce++[[9,(free:Int),0,0]]:=hk2
      subst hk1
      subst hk2
      go_wp2_with (first|(at_builtin;go_loud (refine append_insR _ rfl _ _ rfl W1.heap.size W1.heap.size (fun _=>False) (.slice ad1 ce.length cp1) (.slice (some ⟨W2.heap.size,0,none⟩) 1 1) ce [[9,(free:Int),0,0]++[]] rfl rfl (HR1.out.below (below_alloc _ _)) (insOne 9 (free:Int) 0 0 (.slice none 0 0) [] rfl HB2.out.size ⟨_,_,rfl,by simp,Or.inl rfl⟩ (fun k hk=>(argB_none hk).elim)) (Nat.le_refl _) (by simp) (by simp;omega) (Nat.le_trans HB2.out.size (below_alloc _ _).size) ?_;intro ad3 cp3 w3 HI7 HG3)))
      go_meet
      exact⟨_,_,by rw[List.length_append];rfl,HI7,endB HB2.out (below_alloc _ _) HG3.out fun k hk=>(HR1.out.own_ge k hk).1⟩
     ·replace hk1:kd=4:=hk1
      replace hk2:cl=ce++[[10,0,0,0]]:=hk2
      subst hk1
      subst hk2
      go_wp2_with (first|(at_builtin;go_loud (refine append_insR _ rfl _ _ rfl W1.heap.size W1.heap.size (fun _=>False) (.slice ad1 ce.length cp1) (.slice (some ⟨W2.heap.size,0,none⟩) 1 1) ce [[10,0,0,0]++[]] rfl rfl (HR1.out.below (below_alloc _ _)) (insOne 10 0 0 0 (.slice none 0 0) [] rfl HB2.out.size ⟨_,_,rfl,by simp,Or.inl rfl⟩ (fun k hk=>(argB_none hk).elim)) (Nat.le_refl _) (by simp) (by simp;omega) (Nat.le_trans HB2.out.size (below_alloc _ _).size) ?_;intro ad3 cp3 w3 HI7 HG3)))
      go_meet
      exact⟨_,_,by rw[List.length_append];rfl,HI7,endB HB2.out (below_alloc _ _) HG3.out fun k hk=>(HR1.out.own_ge k hk).1⟩
     ·replace hk1:kd=5:=hk1
      replace hk2:cl=ce++[[11,(free:Int),0,0]]:=hk2
      subst hk1
      subst hk2
      go_wp2_with (first|(at_builtin;go_loud (refine append_insR _ rfl _ _ rfl W1.heap.size W1.heap.size (fun _=>False) (.slice ad1 ce.length cp1) (.slice (some ⟨W2.heap.size,0,none⟩) 1 1) ce [[11,(free:Int),0,0]++[]] rfl rfl (HR1.out.below (below_alloc _ _)) (insOne 11 (free:Int) 0 0 (.slice none 0 0) [] rfl HB2.out.size ⟨_,_,rfl,by simp,Or.inl rfl⟩ (fun k hk=>(argB_none hk).elim)) (Nat.le_refl _) (by simp) (by simp;omega) (Nat.le_trans HB2.out.size (below_alloc _ _).size) ?_;intro ad3 cp3 w3 HI7 HG3)))
      go_meet
      exact⟨_,_,by rw[List.length_append];rfl,HI7,endB HB2.out (below_alloc _ _) HG3.out fun k hk=>(HR1.out.own_ge k hk).1⟩
     ·replace hk1:kd=8:=hk1
      replace hk2:cl=ce++[[8,(free:Int),0,0]]:=hk2
      subst hk1
      subst hk2
      go_wp2_with (first|(at_builtin;go_loud (refine append_insR _ rfl _ _ rfl W1.heap.size W1.heap.size (fun _=>False) (.slice ad1 ce.length cp1) (.slice (some ⟨W2.heap.size,0,none⟩) 1 1) ce [[8,(free:Int),0,0]++[]] rfl rfl (HR1.out.below (below_alloc _ _)) (insOne 8 (free:Int) 0 0 (.slice none 0 0) [] rfl HB2.out.size ⟨_,_,rfl,by simp,Or.inl rfl⟩ (fun k hk=>(argB_none hk).elim)) (Nat.le_refl _) (by simp) (by simp;omega) (Nat.le_trans HB2.out.size (below_alloc _ _).size) ?_;intro ad3 cp3 w3 HI7 HG3)))
      go_meet
      exact⟨_,_,by rw[List.length_append];rfl,HI7,endB HB2.out (below_alloc _ _) HG3.out fun k hk=>(HR1.out.own_ge k hk).1⟩
     ·replace hk1:kd=6∨kd=7:=hk1
      obtain⟨x,y,hx,hy,hcl⟩:=hk2
      obtain⟨T2,S1,S2,F2,F3,F4,hf⟩:=HST.out
      obtain⟨hla,hlb⟩:=HLab.out
      rw[hla]at S1
      rw[hlb]at S2
      have ihd:=ih.resolve_left (by omega)
      have hcl':cl.length=ce.length+1+x.length+1+y.length:=by rw[hcl];simp only[List.length_append,List.length_cons,List.length_nil]
      have hbd:at0+c.length+cl.length≤10000:=by have:=HL.out;omega
      have hxl:x.length≤10000:=by omega
      have hyl:y.length≤10000:=by omega
      have HwW:Hid (Below w.heap.size w W2):=below_step (below_step HB.out HB1.out) (HB2.out)
      have HCA:Hid (∀wk,Below W2.heap.size W2 wk→Calls Tryz.prog 103 #[.slice aa la ac,.slice fa nf fc,.int .i64 free,.int .i64 ((at0:Int)+(c.length:Int)+(ce.length:Int)+1)] wk fun e w'=>∃ad cap,e=.returned (.slice ad x.length cap)∧Hid (InsRow wk.heap.size (fun _=>False) w' (.slice ad x.length cap) x∧(x=[]→Value.slice ad x.length cap=.slice none 0 0))∧Hid (Below wk.heap.size wk w')):=fun wk hwk=>by
       have hb:=below_step HwW.out hwk
       have:=ihd (at0+c.length+ce.length+1) _ _ wk x (Nat.le_trans hN hb.size) (S1.below (hb.mono hN)) (hf.below (hb.mono hN)) F3 hx (by omega)
       rw[show ((at0+c.length+ce.length+1:Nat):Int)=(at0:Int)+(c.length:Int)+(ce.length:Int)+1 by omega]at this
       refine this.mono ?_
       rintro e w' ⟨ad,cap,rfl,h1,h2,h3⟩
       exact⟨ad,cap,rfl,⟨h1.out,fun e=>by obtain⟨rfl,rfl⟩:=h2.out e;rw[e];rfl⟩,h3⟩
      have HCB:Hid (∀wk,Below W2.heap.size W2 wk→Calls Tryz.prog 103 #[.slice ba lb bc,.slice fa nf fc,.int .i64 free,.int .i64 ((at0:Int)+(c.length:Int)+(ce.length:Int)+1+(x.length:Int)+1)] wk fun e w'=>∃ad cap,e=.returned (.slice ad y.length cap)∧Hid (InsRow wk.heap.size (fun _=>False) w' (.slice ad y.length cap) y∧(y=[]→Value.slice ad y.length cap=.slice none 0 0))∧Hid (Below wk.heap.size wk w')):=fun wk hwk=>by
       have hb:=below_step HwW.out hwk
       have:=ihd (at0+c.length+ce.length+1+x.length+1) _ _ wk y (Nat.le_trans hN hb.size) (S2.below (hb.mono hN)) (hf.below (hb.mono hN)) F4 hy (by omega)
       rw[show ((at0+c.length+ce.length+1+x.length+1:Nat):Int)=(at0:Int)+(c.length:Int)+(ce.length:Int)+1+(x.length:Int)+1 by omega]at this
       refine this.mono ?_
       rintro e w' ⟨ad,cap,rfl,h1,h2,h3⟩
       exact⟨ad,cap,rfl,⟨h1.out,fun e=>by obtain⟨rfl,rfl⟩:=h2.out e;rw[e];rfl⟩,h3⟩
      obtain⟨J,hJ⟩:∃J:Int,(if kd=7 then ((at0:Int)+(c.length:Int)) else (at0:Int)+(c.length:Int)+(ce.length:Int)+1+(x.length:Int)+1+(y.length:Int))=J:=⟨_,rfl⟩
      have HCl:Hid (cl=ce++([[13,(free:Int),(at0:Int)+(c.length:Int)+(ce.length:Int)+1+(x.length:Int)+1,0]++[]]++x++[[12,0,J,0]++[]]++y)):=by
       show _=_
       rw[hcl,←hJ]
       simp only[List.append_assoc,List.append_nil,Int.natCast_add,Int.natCast_one]
      have HJ:Hid ((if kd=7 then ((at0:Int)+(c.length:Int)) else (at0:Int)+(c.length:Int)+(ce.length:Int)+1+(x.length:Int)+1+(y.length:Int))=J):=hJ
      have HLe:Hid (cl.length=ce.length+1+x.length+1+y.length):=hcl'
      clear hx hy T2 S1 S2 F2 F3 F4 hf hla hlb ihd hcl hcl' hJ few1 few2
      obtain⟨_,_,_,e4,e5⟩:=HC1.out W2 HB2.out
      have hcut6:kd=6∨kd=7:=hk1
      rcases hk1 with hk1|hk1
      ·subst hk1
       go_upto_region 26 with (go_at_call 103;go_loud (refine (HCA.out W2 (Below.refl _ _)).mono ?_;rintro e W3 ⟨xa3,xc3,rfl,HXr,HB3⟩;have e5':=below_at HB3.out e5;have d0':=below_at HB3.out d0))
       go_upto_region 28 with (go_at_call 103;go_loud (refine (HCB.out W3 HB3.out).mono ?_;rintro e W4 ⟨ya3,yc3,rfl,HYr,HB4⟩;have d0'':=below_at HB4.out d0'))
       go_upto_region 31 with (fail)
       have C4:Hid (Ch W1 W2 W4 W4 (.slice ad1 ce.length cp1) ce):=Ch.start HR1.out HB2.out (below_step HB3.out HB4.out)
       have HX4:Hid (InsRow W2.heap.size (fun _=>False) W4 (.slice xa3 x.length xc3) x∧InsRow W2.heap.size (fun _=>False) W4 (.slice ya3 y.length yc3) y∧W1.heap.size≤W2.heap.size∧W1.heap.size≤W4.heap.size):=⟨HXr.out.1.below HB4.out,HYr.out.1.lower HB3.out.size (fun _ _ e=>e),HB2.out.size,Nat.le_trans HB2.out.size (Nat.le_trans HB3.out.size HB4.out.size)⟩
       obtain⟨L1,hL1⟩:∃L1,ce++[[13,(free:Int),((at0:Int)+(c.length:Int)+(ce.length:Int)+1+(x.length:Int)+1),0]++[]]=L1:=⟨_,rfl⟩
       obtain⟨L2,hL2⟩:∃L2,L1++x=L2:=⟨_,rfl⟩
       obtain⟨L3,hL3⟩:∃L3,L2++[[12,0,((at0:Int)+(c.length:Int)+(ce.length:Int)+1+(x.length:Int)+1+(y.length:Int)),0]++[]]=L3:=⟨_,rfl⟩
       have hl1:ce.length+1≤100000:=by omega
       have hl2:L1.length+x.length≤100000:=by rw[←hL1];simp only[List.length_append,List.length_cons,List.length_nil];omega
       have hl3:L2.length+1≤100000:=by rw[←hL2,←hL1];simp only[List.length_append,List.length_cons,List.length_nil];omega
       have hl4:L3.length+y.length≤100000:=by rw[←hL3,←hL2,←hL1];simp only[List.length_append,List.length_cons,List.length_nil];omega
       have HCl3:Hid (cl=L3++y):=by
        have e:=HCl.out
        have ej:=HJ.out
        rw[if_neg (by decide)]at ej
        show _=_
        rw[←hL3,←hL2,←hL1,e,←ej]
        simp only[List.append_assoc]
       have HL1:Hid (ce++[[13,(free:Int),((at0:Int)+(c.length:Int)+(ce.length:Int)+1+(x.length:Int)+1),0]++[]]=L1):=hL1
       have HL2:Hid (L1++x=L2):=hL2
       have HL3:Hid (L2++[[12,0,((at0:Int)+(c.length:Int)+(ce.length:Int)+1+(x.length:Int)+1+(y.length:Int)),0]++[]]=L3):=hL3
       clear hL1 hL2 hL3
       go_wp2_with (first
        | (at_builtin;refine append_insA _ rfl _ _ rfl W1.heap.size W1.heap.size (fun _=>False) (.slice ad1 ce.length cp1) (.slice (some ⟨W4.heap.size,0,none⟩) 1 1) ce [[13,(free:Int),((at0:Int)+(c.length:Int)+(ce.length:Int)+1+(x.length:Int)+1),0]++[]] rfl rfl (C4.out.alloc _).row (insOne 13 (free:Int) ((at0:Int)+(c.length:Int)+(ce.length:Int)+1+(x.length:Int)+1) 0 (.slice none 0 0) [] rfl HX4.out.2.2.2 ⟨_,_,rfl,by simp,Or.inl rfl⟩ (fun k hk=>(argB_none hk).elim)) (Nat.le_refl _) (fun e=>by cases e) hl1 (Nat.le_trans HX4.out.2.2.2 (below_alloc _ _).size) ?_;intro a5 c5 W5 HA5;have C5:Hid (Ch W1 W2 W4 W5 (.slice a5 (ce.length+1) c5) L1):=(by have q:=(C4.out.alloc _).app HA5.out;rw[HL1.out]at q;exact q))
        | (at_builtin;refine append_insA _ rfl _ _ rfl W1.heap.size W2.heap.size (fun _=>False) (.slice a5 (ce.length+1) c5) (.slice xa3 x.length xc3) L1 x rfl rfl C5.out.row (C5.out.other HX4.out.1) HX4.out.2.2.1 HXr.out.2 hl2 (Nat.le_trans HX4.out.2.2.2 C5.out.size) ?_;intro a6 c6 W6 HA6;have C6:Hid (Ch W1 W2 W4 W6 (.slice a6 (L1.length+x.length) c6) L2):=(by have q:=C5.out.app HA6.out;rw[HL2.out]at q;exact q))
        | (at_builtin;refine append_insA _ rfl _ _ rfl W1.heap.size W1.heap.size (fun _=>False) (.slice a6 (L1.length+x.length) c6) (.slice (some ⟨W6.heap.size,0,none⟩) 1 1) L2 [[12,0,((at0:Int)+(c.length:Int)+(ce.length:Int)+1+(x.length:Int)+1+(y.length:Int)),0]++[]] rfl rfl (C6.out.alloc _).row (insOne 12 0 ((at0:Int)+(c.length:Int)+(ce.length:Int)+1+(x.length:Int)+1+(y.length:Int)) 0 (.slice none 0 0) [] rfl (Nat.le_trans HX4.out.2.2.2 C6.out.size) ⟨_,_,rfl,by simp,Or.inl rfl⟩ (fun k hk=>(argB_none hk).elim)) (Nat.le_refl _) (fun e=>by cases e) hl3 (Nat.le_trans (Nat.le_trans HX4.out.2.2.2 C6.out.size) (below_alloc _ _).size) ?_;intro a7 c7 W7 HA7;have C7:Hid (Ch W1 W2 W4 W7 (.slice a7 (L2.length+1) c7) L3):=(by have q:=(C6.out.alloc _).app HA7.out;rw[HL3.out]at q;exact q))
        | (at_builtin;refine append_insA _ rfl _ _ rfl W1.heap.size W2.heap.size (fun _=>False) (.slice a7 (L2.length+1) c7) (.slice ya3 y.length yc3) L3 y rfl rfl C7.out.row (C7.out.other HX4.out.2.1) HX4.out.2.2.1 HYr.out.2 hl4 (Nat.le_trans HX4.out.2.2.2 C7.out.size) ?_;intro a8 c8 W8 HA8;have C8:Hid (Ch W1 W2 W4 W8 (.slice a8 (L3.length+y.length) c8) (L3++y)):=C7.out.app HA8.out))
       go_meet
       refine⟨a8,c8,?_,?_,C8.out.low⟩
       ·rw[HCl3.out,List.length_append]
       ·rw[HCl3.out];exact C8.out.row
      ·subst hk1
       go_upto_region 26 with (go_at_call 103;go_loud (refine (HCA.out W2 (Below.refl _ _)).mono ?_;rintro e W3 ⟨xa3,xc3,rfl,HXr,HB3⟩;have e5':=below_at HB3.out e5;have d0':=below_at HB3.out d0))
       go_upto_region 28 with (go_at_call 103;go_loud (refine (HCB.out W3 HB3.out).mono ?_;rintro e W4 ⟨ya3,yc3,rfl,HYr,HB4⟩;have d0'':=below_at HB4.out d0'))
       go_upto_region 31 with (fail)
       have C4:Hid (Ch W1 W2 W4 W4 (.slice ad1 ce.length cp1) ce):=Ch.start HR1.out HB2.out (below_step HB3.out HB4.out)
       have HX4:Hid (InsRow W2.heap.size (fun _=>False) W4 (.slice xa3 x.length xc3) x∧InsRow W2.heap.size (fun _=>False) W4 (.slice ya3 y.length yc3) y∧W1.heap.size≤W2.heap.size∧W1.heap.size≤W4.heap.size):=⟨HXr.out.1.below HB4.out,HYr.out.1.lower HB3.out.size (fun _ _ e=>e),HB2.out.size,Nat.le_trans HB2.out.size (Nat.le_trans HB3.out.size HB4.out.size)⟩
       obtain⟨L1,hL1⟩:∃L1,ce++[[13,(free:Int),((at0:Int)+(c.length:Int)+(ce.length:Int)+1+(x.length:Int)+1),0]++[]]=L1:=⟨_,rfl⟩
       obtain⟨L2,hL2⟩:∃L2,L1++x=L2:=⟨_,rfl⟩
       obtain⟨L3,hL3⟩:∃L3,L2++[[12,0,((at0:Int)+(c.length:Int)),0]++[]]=L3:=⟨_,rfl⟩
       have hl1:ce.length+1≤100000:=by omega
       have hl2:L1.length+x.length≤100000:=by rw[←hL1];simp only[List.length_append,List.length_cons,List.length_nil];omega
       have hl3:L2.length+1≤100000:=by rw[←hL2,←hL1];simp only[List.length_append,List.length_cons,List.length_nil];omega
       have hl4:L3.length+y.length≤100000:=by rw[←hL3,←hL2,←hL1];simp only[List.length_append,List.length_cons,List.length_nil];omega
       have HCl3:Hid (cl=L3++y):=by
        have e:=HCl.out
        have ej:=HJ.out
        rw[if_pos (by decide)]at ej
        show _=_
        rw[←hL3,←hL2,←hL1,e,←ej]
        simp only[List.append_assoc]
       have HL1:Hid (ce++[[13,(free:Int),((at0:Int)+(c.length:Int)+(ce.length:Int)+1+(x.length:Int)+1),0]++[]]=L1):=hL1
       have HL2:Hid (L1++x=L2):=hL2
       have HL3:Hid (L2++[[12,0,((at0:Int)+(c.length:Int)),0]++[]]=L3):=hL3
       clear hL1 hL2 hL3
       go_wp2_with (first
        | (at_builtin;refine append_insA _ rfl _ _ rfl W1.heap.size W1.heap.size (fun _=>False) (.slice ad1 ce.length cp1) (.slice (some ⟨W4.heap.size,0,none⟩) 1 1) ce [[13,(free:Int),((at0:Int)+(c.length:Int)+(ce.length:Int)+1+(x.length:Int)+1),0]++[]] rfl rfl (C4.out.alloc _).row (insOne 13 (free:Int) ((at0:Int)+(c.length:Int)+(ce.length:Int)+1+(x.length:Int)+1) 0 (.slice none 0 0) [] rfl HX4.out.2.2.2 ⟨_,_,rfl,by simp,Or.inl rfl⟩ (fun k hk=>(argB_none hk).elim)) (Nat.le_refl _) (fun e=>by cases e) hl1 (Nat.le_trans HX4.out.2.2.2 (below_alloc _ _).size) ?_;intro a5 c5 W5 HA5;have C5:Hid (Ch W1 W2 W4 W5 (.slice a5 (ce.length+1) c5) L1):=(by have q:=(C4.out.alloc _).app HA5.out;rw[HL1.out]at q;exact q))
        | (at_builtin;refine append_insA _ rfl _ _ rfl W1.heap.size W2.heap.size (fun _=>False) (.slice a5 (ce.length+1) c5) (.slice xa3 x.length xc3) L1 x rfl rfl C5.out.row (C5.out.other HX4.out.1) HX4.out.2.2.1 HXr.out.2 hl2 (Nat.le_trans HX4.out.2.2.2 C5.out.size) ?_;intro a6 c6 W6 HA6;have C6:Hid (Ch W1 W2 W4 W6 (.slice a6 (L1.length+x.length) c6) L2):=(by have q:=C5.out.app HA6.out;rw[HL2.out]at q;exact q))
        | (at_builtin;refine append_insA _ rfl _ _ rfl W1.heap.size W1.heap.size (fun _=>False) (.slice a6 (L1.length+x.length) c6) (.slice (some ⟨W6.heap.size,0,none⟩) 1 1) L2 [[12,0,((at0:Int)+(c.length:Int)),0]++[]] rfl rfl (C6.out.alloc _).row (insOne 12 0 ((at0:Int)+(c.length:Int)) 0 (.slice none 0 0) [] rfl (Nat.le_trans HX4.out.2.2.2 C6.out.size) ⟨_,_,rfl,by simp,Or.inl rfl⟩ (fun k hk=>(argB_none hk).elim)) (Nat.le_refl _) (fun e=>by cases e) hl3 (Nat.le_trans (Nat.le_trans HX4.out.2.2.2 C6.out.size) (below_alloc _ _).size) ?_;intro a7 c7 W7 HA7;have C7:Hid (Ch W1 W2 W4 W7 (.slice a7 (L2.length+1) c7) L3):=(by have q:=(C6.out.alloc _).app HA7.out;rw[HL3.out]at q;exact q))
        | (at_builtin;refine append_insA _ rfl _ _ rfl W1.heap.size W2.heap.size (fun _=>False) (.slice a7 (L2.length+1) c7) (.slice ya3 y.length yc3) L3 y rfl rfl C7.out.row (C7.out.other HX4.out.2.1) HX4.out.2.2.1 HYr.out.2 hl4 (Nat.le_trans HX4.out.2.2.2 C7.out.size) ?_;intro a8 c8 W8 HA8;have C8:Hid (Ch W1 W2 W4 W8 (.slice a8 (L3.length+y.length) c8) (L3++y)):=C7.out.app HA8.out))
       go_meet
       refine⟨a8,c8,?_,?_,C8.out.low⟩
       ·rw[HCl3.out,List.length_append]
       ·rw[HCl3.out];exact C8.out.row
    case rest =>
     obtain⟨ad2,cp2,rfl,HR2,HB3⟩:=hcut
     generalize wc=W3 at *
     have hcl1:¬cl.length=0:=by omega
     have hcc:c.length+cl.length≤100000:=by have:=HL.out;omega
     have HWW:Hid (w.heap.size≤W1.heap.size∧W1.heap.size≤W3.heap.size):=⟨Nat.le_trans HB.out.size HB1.out.size,HB3.out.size⟩
     have HO3:Hid (InsRow w.heap.size (fun _=>False) W3 (.slice oa c.length oc) c):=HO.out.below (below_step HB1.out HB3.out)
     go_wp2_with (at_builtin;go_loud (refine append_insR _ rfl _ _ rfl w.heap.size W1.heap.size (fun _=>False) (.slice oa c.length oc) (.slice ad2 cl.length cp2) c cl rfl rfl HO3.out HR2.out HWW.out.1 hcl1 hcc (Nat.le_trans HWW.out.1 HWW.out.2) ?_;intro ad3 cp3 w4 HI7 HG3))
     go_roundw
     case rel =>
      refine⟨i+1,c++cl,by omega,by go_num,⟨ad3,cp3,by rw[List.length_append],fun e=>?_⟩,HP1,HI7,?_⟩
      ·have:=congrArg List.length e
       rw[List.length_append,List.length_nil]at this
       omega
      ·exact (HB.out.trans ((below_step HB1.out HB3.out).mono HB.out.size)).grown HG3.out (Nat.le_trans HWW.out.1 HWW.out.2) fun k hk=>(HO3.out.own_ge k hk).1
     case measure=>simp[intOf];omega
  ·obtain rfl:i=n:=by omega
   have e:=HV.out
   rw[HI.out]at e
   injection e with e
   subst e
   go_wp2
   go_ret
   exact⟨oa,oc,rfl,HO,HNil,HB⟩
end Go.Proofs.YtfaokaohhchdhaaGreatDoor
