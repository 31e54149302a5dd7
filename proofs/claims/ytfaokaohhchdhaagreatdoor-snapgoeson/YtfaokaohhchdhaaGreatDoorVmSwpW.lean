/- Sweep: its walk. -/
import Derived.Test.YtfaokaohhchdhaaGreatDoorPart22
import Derived.Laws.OwnMore
namespace Go.Proofs.YtfaokaohhchdhaaGreatDoor
open Go.RowKit Go.Maps
theorem infoLVal2:(Tryz.prog.info? 35).map (fun i=>(i.zero,i.size,i.bytes))=some (some (.slice none 0 0),1,24):=by kernel_rfl
theorem mkCs (n:Nat) (h:n≤1000) (w:World):Sem.run Tryz.prog (Instr.makeSlice 24 (.int .i64 n) (.int .i64 n)) w=.ok (.slice (some ⟨w.heap.size,0,none⟩) n n) (w.alloc (.cells (madeCells #[nilS] n) 35)):=by
 obtain⟨i0,hi,hz0,hz1,hz2⟩:=info_parts infoLVal2
 have hr:=run_make (P:=Tryz.prog) w 24 35 i0 _ Tryz.underlying24 hi hz0 .i64 .i64 n n (by omega) (Int.le_refl _) (by rw[hz2];omega) (by omega)
 simp only[Int.toNat_natCast,hz1,Nat.mul_one]at hr
 exact hr
theorem mkCs_row (n:Nat) (h:n≤1000) (B:Nat) (w:World) (hB:B≤w.heap.size):(w.alloc (.cells (madeCells #[nilS] n) 35)).ownsRow B 35 1 (.slice (some ⟨w.heap.size,0,none⟩) n n) n (List.replicate n nilS):=by
 rw[←toList_madeCells_one]
 exact World.ownsRow_lit w _ n hB (by unfold maxLen;omega) (by rw[size_madeCells,Nat.mul_one])
theorem BoxXY.set4 {X:Nat} {w:World} {a b c d:Value} (h:BoxXY X w a b c d) (a' b' c' d':Value):BoxXY X ((((w.setCell ⟨X,0,none⟩ a').setCell ⟨X,1,none⟩ b').setCell ⟨X,2,none⟩ c').setCell ⟨X,3,none⟩ d') a' b' c' d':=by
 obtain⟨h0,h1⟩:=h
 unfold Box4 at h0
 have e1:=heap_setCell_same w X 0 _ _ a' h0
 have e2:=heap_setCell_same _ X 1 _ _ b' e1
 have e3:=heap_setCell_same _ X 2 _ _ c' e2
 have e4:=heap_setCell_same _ X 3 _ _ d' e3
 have hne:¬X+1=X:=by omega
 exact⟨e4,h1.keep ((((Below.heap_setCell _ _ _ _ hne).trans (Below.heap_setCell _ _ _ _ hne)).trans (Below.heap_setCell _ _ _ _ hne)).trans (Below.heap_setCell _ _ _ _ hne))⟩
theorem set4_heap {X:Nat} {w:World} {a b c d:Value} {k:Nat} (h:¬k=X):((((w.setCell ⟨X,0,none⟩ a).setCell ⟨X,1,none⟩ b).setCell ⟨X,2,none⟩ c).setCell ⟨X,3,none⟩ d).heap[k]?=w.heap[k]? :=
 (((Below.heap_setCell _ _ _ _ h).trans (Below.heap_setCell _ _ _ _ h)).trans (Below.heap_setCell _ _ _ _ h)).trans (Below.heap_setCell _ _ _ _ h)
set_option maxRecDepth 20000 in
set_option maxHeartbeats 4000000 in
theorem sweepW {np:Nat} {P:Nat→Pc} (S:Sta) (hc:CodeOK np P) (hs:StaOK np P S) (nf nc fc cc:Nat) (fa ca:Option Addr) (st wh:Int) (w:World) (h:StaAt w (.slice fa nf fc) (.slice ca nc cc) S) (hnf:S.fs.length=nf) (hnc:S.cs.length=nc) (hst:S.st=st) (hwh:S.wh=wh) :
  Calls Tryz.prog 21 #[.agg #[.slice fa nf fc,.slice ca nc cc,.int .i64 st,.int .i64 wh]] w fun e w'=>∃fv' cv' rv xv,e=.returned (.agg #[fv',cv',.int .i64 st,.int .i64 wh])∧Hid (Own w.heap.size w' fv' cv' rv xv (sweptS S))∧Hid (Below w.heap.size w w'):=by
 obtain⟨W1,hW1,b1,hsz1,i0,i1,i2,i3⟩:=sbox w (.slice fa nf fc) (.slice ca nc cc) st wh
 obtain⟨W,hW⟩:∃W,W1.alloc (.cells #[.slice none 0 0,.slice none 0 0,.int .i64 0,.int .i64 0] 26)=W:=⟨_,rfl⟩
 have b2:Below W1.heap.size W1 W:=hW ▸ below_alloc W1 _
 have b0:Below w.heap.size w W:=below_step b1 b2
 have HWs:Hid (W.heap.size=w.heap.size+2):=(by show _=_;rw[←hW];simp;omega)
 have HX:Hid (BoxXY w.heap.size W (.slice fa nf fc) (.slice ca nc cc) (.int .i64 st) (.int .i64 wh)):=by
  refine⟨?_,?_⟩
  ·unfold Box4
   rw[b2.block _ (by omega),←hW1];exact heap_alloc_new w _
  ·unfold Box4
   rw[←hW,←hsz1]
   exact heap_alloc_new W1 _
 have HW:Hid ((w.alloc (.cells #[.slice fa nf fc,.slice ca nc cc,.int .i64 st,.int .i64 wh] 26)).alloc (.cells #[.slice none 0 0,.slice none 0 0,.int .i64 0,.int .i64 0] 26)=W):=(by show _=_;rw[hW1];exact hW)
 have HCp:Hid (Calls Tryz.prog 45 #[.agg #[.slice fa nf fc,.slice ca nc cc,.int .i64 st,.int .i64 wh]] W fun e w'=>∃a c b d rv xv,e=.returned (.agg #[.slice a nf c,.slice b nc d,.int .i64 st,.int .i64 wh])∧Hid (Own W.heap.size w' (.slice a nf c) (.slice b nc d) rv xv S)∧Hid (Below W.heap.size W w')):=by
  have:=copied S _ _ W (h.below b0) hc hs
  rw[hst,hwh]at this
  refine this.mono ?_
  rintro e w' ⟨fv',cv',rv,xv,rfl,ho,hb⟩
  obtain⟨a,c,rfl⟩:=own_shape ho.out.fr
  obtain⟨b,d,rfl⟩:=own_shape ho.out.ce
  rw[hnf]at ho ⊢
  rw[hnc]at ho ⊢
  exact⟨a,c,b,d,rv,xv,rfl,ho,hb⟩
 have HB0:Hid (Below w.heap.size w W):=b0
 have hv:=hs.valid hc
 obtain⟨R,hR⟩:∃R,reachedS S=R:=⟨_,rfl⟩
 have HR:Hid (reachedS S=R):=hR
 obtain⟨L,hL⟩:∃L,R.length=L:=⟨_,rfl⟩
 have HL:Hid (R.length=L):=hL
 obtain⟨Lr,hLr⟩:∃Lr,(regsOf S.fs).length=Lr:=⟨_,rfl⟩
 have HLr:Hid ((regsOf S.fs).length=Lr∧Lr≤400):=⟨hLr,by have:=hv.short;omega⟩
 have HG:Hid (Good nc R):=(by have:=hs.reached hc;rw[hR,hnc]at this;exact this)
 have hL24:L≤24:=(by have h1:=HG.out.len;have h2:=hs.cn;omega)
 have hlim:∀i,i<S.fs.length→1≤(fmAt S.fs i).regs.length∧(fmAt S.fs i).regs.length≤40:=fun i hi=>by
  have k:=hs.frames i hi
  have hpn:(fmAt S.fs i).proc.toNat<np:=by have:=k.p0;have:=k.p1;omega
  have:=hc.r1 _ hpn
  have:=hc.r0 _ hpn
  have:=k.len
  omega
 have HFew:Hid (nf≤10∧nc≤24∧(∀i,i<nf→1≤(fmAt S.fs i).regs.length∧(fmAt S.fs i).regs.length≤40)∧∀i,i<nc→1≤(S.cs.getD i []).length∧(S.cs.getD i []).length≤4):=by
  refine⟨by have:=hs.few;omega,by have:=hs.cn;omega,fun i hi=>hlim i (by omega),fun i hi=>?_⟩
  have hm:=getD_mem (d:=[]) (show i<S.cs.length by omega)
  exact⟨hs.cells.lo _ hm,hs.cells.hi _ hm⟩
 have HReg:Hid (∀wi a c cv,FramesAt wi (.slice a nf c) S.fs→Calls Tryz.prog 65 #[.agg #[.slice a nf c,cv,.int .i64 st,.int .i64 wh]] wi fun e w'=>∃ad cap,e=.returned (.slice ad Lr cap)∧Hid (RowAt w' (.slice ad Lr cap) (regsOf S.fs))∧Hid (Below wi.heap.size wi w')):=fun wi a c cv hf=>by
  refine (registersP S.fs a nf c cv st wh wi hf hnf HFew.out.1 (fun i hi=>by have:=HFew.out.2.2.1 i hi;omega)).mono ?_
  rintro e w' ⟨ad,cap,rfl,hr,hb⟩
  rw[hLr]at hr ⊢
  exact⟨ad,cap,rfl,VRow.at hr.out (by have:=HLr.out;omega),hb⟩
 have HRch:Hid (∀wi ad cap b d,CsAt wi (.slice b nc d) S.cs→RowAt wi (.slice ad Lr cap) (regsOf S.fs)→Calls Tryz.prog 64 #[.slice b nc d,.slice ad Lr cap] wi fun e w'=>∃sa sc,e=.returned (.tuple #[.slice sa L sc,.int .i64 0])∧Hid (IntsAt w' (.slice sa L sc) L (fun i=>R.getD i 0))∧Hid (Below wi.heap.size wi w')):=fun wi ad cap b d hcs hrow=>by
  refine (reach_ok _ _ _ _ _ _ _ _ _ wi hcs hrow hv).mono ?_
  rintro e w' ⟨s,rfl,hi,hb⟩
  have e1:reached S.cs.length (cLen S.cs) (cK S.cs) (cZ S.cs) (regsOf S.fs).length (fstAt (regsOf S.fs)) (sndAt (regsOf S.fs))=R:=hR
  rw[e1,hL]at hi
  obtain⟨sa,sc,rfl,_⟩:=id hi
  exact⟨sa,sc,rfl,hi,hb⟩
 have HFs:Hid (∀i,i<nf→∀v,v ∈ (fmAt S.fs i).regs→v.1=2→v.2 ∈ R∧0≤v.2∧v.2≤1000):=fun i hi v hv hk=>by
  have h1:=reg_reached (S:=S) (getD_mem (d:=noFm) (show i<S.fs.length by omega)) hv hk
  rw[hR]at h1
  have h2:=HG.out.2 _ h1
  have:=hs.cn
  exact⟨h1,by omega,by omega⟩
 have HCs:Hid (∀i,i<L→(1≤((R.map fun n=>S.cs.getD n.toNat []).getD i []).length∧((R.map fun n=>S.cs.getD n.toNat []).getD i []).length≤4)∧∀v,v ∈ (R.map fun n=>S.cs.getD n.toNat []).getD i []→v.1=2→v.2 ∈ R∧0≤v.2∧v.2≤1000):=fun i hi=>by
  have hiR:i<R.length:=by omega
  have e:(R.map fun n=>S.cs.getD n.toNat []).getD i []=S.cs.getD (R[i]).toNat []:=by
   rw[List.getD_eq_getElem?_getD,List.getElem?_map,List.getElem?_eq_getElem hiR];rfl
  have hm:R[i] ∈ reachedS S:=by rw[hR];exact List.getElem_mem hiR
  have h2:=HG.out.2 _ (List.getElem_mem hiR)
  have hm2:=getD_mem (d:=[]) (show (R[i]).toNat<S.cs.length by omega)
  rw[e]
  refine⟨⟨hs.cells.lo _ hm2,hs.cells.hi _ hm2⟩,fun v hv hk=>?_⟩
  have h1:=field_reached hc hs hm hv hk
  rw[hR]at h1
  have h3:=HG.out.2 _ h1
  have:=hs.cn
  exact⟨h1,by omega,by omega⟩
 have HHd:Hid (True∧S.st=st∧S.wh=wh∧S.fs.length=nf∧S.cs.length=nc):=⟨trivial,hst,hwh,hnf,hnc⟩
 clear h hnf hnc hst hwh hv hR hL hLr hlim hW hW1 i0 i1 i2 i3 b1 b2 b0 hsz1
 obtain⟨x0,x1,x2,x3,x4⟩:=HX.out.at
 clear x4
 have hmm:=@run_makeMap Tryz.prog
 have hmk:=mkCs L (by omega)
 go_enter Tryz.func21,Tryz.ntmps21
 go_upto_region 1 with (fail)
 rw[HW.out]
 go_upto_region 2 with (go_at_call 45;refine HCp.out.mono ?_;rintro e w1 ⟨a,c,b,d,rv,xv,rfl,HO1,HB1⟩;have HX1:=HX.out.keep (fun k hk _=>HB1.out.block k (by have:=HWs.out;omega));obtain⟨y0,y1,y2,y3,y4⟩:=HX1.at;have y40:=y4 0;have y41:=y4 1;have y42:=y4 2;have y43:=y4 3;clear y4)
 have HX2:Hid (BoxXY w.heap.size ((((w1.setCell ⟨w.heap.size,0,none⟩ (.slice a nf c)).setCell ⟨w.heap.size,1,none⟩ (.slice b nc d)).setCell ⟨w.heap.size,2,none⟩ (.int .i64 st)).setCell ⟨w.heap.size,3,none⟩ (.int .i64 wh)) (.slice a nf c) (.slice b nc d) (.int .i64 st) (.int .i64 wh)):=HX1.set4 _ _ _ _
 have HB2:Hid (Below w.heap.size w ((((w1.setCell ⟨w.heap.size,0,none⟩ (.slice a nf c)).setCell ⟨w.heap.size,1,none⟩ (.slice b nc d)).setCell ⟨w.heap.size,2,none⟩ (.int .i64 st)).setCell ⟨w.heap.size,3,none⟩ (.int .i64 wh))):=((((HB0.out.trans (HB1.out.mono HB0.out.size)).setCell (Nat.le_refl _) _).setCell (Nat.le_refl _) _).setCell (Nat.le_refl _) _).setCell (Nat.le_refl _) _
 have HO2:Hid (Own (w.heap.size+2) ((((w1.setCell ⟨w.heap.size,0,none⟩ (.slice a nf c)).setCell ⟨w.heap.size,1,none⟩ (.slice b nc d)).setCell ⟨w.heap.size,2,none⟩ (.int .i64 st)).setCell ⟨w.heap.size,3,none⟩ (.int .i64 wh)) (.slice a nf c) (.slice b nc d) rv xv S):=by
  rw[←HWs.out]
  exact HO1.out.stay fun k hk _=>set4_heap (by have:=HWs.out;omega)
 have HS2:Hid (w.heap.size+2≤((((w1.setCell ⟨w.heap.size,0,none⟩ (.slice a nf c)).setCell ⟨w.heap.size,1,none⟩ (.slice b nc d)).setCell ⟨w.heap.size,2,none⟩ (.int .i64 st)).setCell ⟨w.heap.size,3,none⟩ (.int .i64 wh)).heap.size):=by
  show _≤_
  have:=HB1.out.size;have:=HWs.out;simp[World.setCell];omega
 generalize (((w1.setCell ⟨w.heap.size,0,none⟩ (.slice a nf c)).setCell ⟨w.heap.size,1,none⟩ (.slice b nc d)).setCell ⟨w.heap.size,2,none⟩ (.int .i64 st)).setCell ⟨w.heap.size,3,none⟩ (.int .i64 wh)=w2 at *
 clear HX1 y0 y1 y2 y3 y40 y41 y42 y43 x0 x1 x2 x3 HO1 HB1 HX HCp HW HB0 HWs
 have HAt:Hid (∀wi,Below w2.heap.size w2 wi→StaAt wi (.slice a nf c) (.slice b nc d) S):=fun wi hw=>by
  obtain⟨f1,f2,f3,f4⟩:=HFew.out
  obtain⟨_,_,_,hnf,hnc⟩:=HHd.out
  exact (HO2.out.below hw).at (by omega) (by omega) (fun i hi=>by have:=f3 i (by omega);omega) (fun i hi=>by have:=f4 i (by omega);omega)
 have HXc:Hid (∀wi,Below w2.heap.size w2 wi→wi.cell? ⟨w.heap.size,0,none⟩=some (.slice a nf c)∧wi.cell? ⟨w.heap.size,1,none⟩=some (.slice b nc d)∧wi.cell? ⟨w.heap.size,2,none⟩=some (.int .i64 st)∧wi.cell? ⟨w.heap.size,3,none⟩=some (.int .i64 wh)):=fun wi hw=>by
  have:=HX2.out.keep (w':=wi) fun k hk _=>hw.block k (by have:=HS2.out;omega)
  obtain⟨y0,y1,y2,y3,_⟩:=this.at
  exact⟨y0,y1,y2,y3⟩
 go_region_held3 (fun w'=>w'.cell? ⟨w.heap.size,0,none⟩=some (.slice a nf c)∧w'.cell? ⟨w.heap.size,1,none⟩=some (.slice b nc d)∧w'.cell? ⟨w.heap.size,2,none⟩=some (.int .i64 st)∧w'.cell? ⟨w.heap.size,3,none⟩=some (.int .i64 wh))
  (first|exact HXc.out _ (Below.refl _ _).drew|exact HXc.out _ hb3|exact HXc.out _ hb4)
  (first
   | (go_at_call 65;refine (HReg.out _ a c _ (HAt.out _ (Below.refl _ _).drew).1).mono ?_;rintro e w3 ⟨ad,cap,rfl,HRow,HB3⟩;have hb3:Below w2.heap.size w2 w3:=below_step (Below.refl _ _).drew HB3.out)
   | (go_at_call 64;refine (HRch.out _ ad cap b d (HAt.out _ hb3).2 HRow.out).mono ?_;rintro e w4 ⟨sa,sc,rfl,HIn,HB4⟩;have hb4:Below w2.heap.size w2 w4:=below_step hb3 HB4.out))
 all_goals
  clear hb3 HB3 HB4 HRow
  have HB4:Hid (Below w2.heap.size w2 w4):=hb4
  clear hb4
  go_upto_region 8 with (fail)
  obtain⟨N4,hN4⟩:∃N4,w4.heap.size=N4:=⟨_,rfl⟩
  rw[hN4]
  have HN4:Hid (w4.heap.size=N4):=hN4
  have HBx:Hid (w.heap.size+2≤N4):=(by show _≤_;have:=HB4.out.size;have:=HS2.out;omega)
  have hA1:=below_alloc w4 (.map #[] 0)
  have hA2:=below_alloc (w4.alloc (.map #[] 0)) (.cells #[.map (some N4)] 100)
  have hA3:=below_alloc ((w4.alloc (.map #[] 0)).alloc (.cells #[.map (some N4)] 100)) (.cells (madeCells #[nilS] L) 35)
  have hz1:(w4.alloc (.map #[] 0)).heap.size=N4+1:=by simp[hN4]
  have hz2:((w4.alloc (.map #[] 0)).alloc (.cells #[.map (some N4)] 100)).heap.size=N4+1+1:=by simp[hN4]
  have HB5:Hid (Below N4 w4 (((w4.alloc (.map #[] 0)).alloc (.cells #[.map (some N4)] 100)).alloc (.cells (madeCells #[nilS] L) 35))):=by
   have:=below_step (below_step hA1 hA2) hA3
   rw[hN4]at this
   exact this
  have HM5:Hid (NumAt (((w4.alloc (.map #[] 0)).alloc (.cells #[.map (some N4)] 100)).alloc (.cells (madeCells #[nilS] L) 35)) (N4+1) N4 0 (R.take 0)):=by
   refine⟨?_,?_⟩
   ·rw[hA3.block _ (by rw[hz2];omega),←hz1]
    exact heap_alloc_new _ _
   ·have:=NumMap.made w4
    rw[hN4]at this
    exact this.stay ((hA3.block _ (by rw[hz2];omega)).trans (hA2.block _ (by rw[hz1];omega)))
  have HR5:Hid (World.ownsRow (((w4.alloc (.map #[] 0)).alloc (.cells #[.map (some N4)] 100)).alloc (.cells (madeCells #[nilS] L) 35)) (w.heap.size+2) 35 1 (.slice (some ⟨N4+1+1,0,none⟩) L L) L (pickTo xv R 0)):=by
   have:=mkCs_row L (by omega) (w.heap.size+2) ((w4.alloc (.map #[] 0)).alloc (.cells #[.map (some N4)] 100)) (by rw[hz2];have:=HBx.out;omega)
   rw[hz2]at this
   rw[pickTo_zero,HL.out]
   exact this
  clear hA1 hA2 hA3 hz1 hz2 hN4 hmm hmk
  generalize ((w4.alloc (.map #[] 0)).alloc (.cells #[.map (some N4)] 100)).alloc (.cells (madeCells #[nilS] L) 35)=w5 at *
  go_loopw [33] (fun q wr=>∃j:Nat,j≤L∧q=.int .i64 j∧Hid (Below N4 w4 wr)∧Hid (NumAt wr (N4+1) N4 j (R.take j))∧Hid (wr.ownsRow (w.heap.size+2) 35 1 (.slice (some ⟨N4+1+1,0,none⟩) L L) L (pickTo xv R j))) (fun q _=>L - (intOf q).toNat)
  case atStart=>exact⟨0,by omega,rfl,HB5,HM5,HR5⟩
  case round =>
   clear HB5 HM5 HR5
   obtain⟨j,hj,rfl,HB,HM,HR6⟩:=hrel
   by_cases hlt:j<L
   ·obtain⟨cn,hcn,hce⟩:=HG.out.at (t:=j) (by rw[HL.out];exact hlt)
    have hnew:((cn:Nat):Int) ∉ R.take j:=fun hm=>by
     obtain⟨i,hi,e⟩:=mem_getD' (d:=0) hm
     rw[List.length_take]at hi
     have hij:i<j:=by omega
     have e2:R[i]?=some (cn:Int):=by
      rw[List.getD_eq_getElem?_getD,List.getElem?_take_of_lt hij,List.getElem?_eq_getElem (by omega)]at e
      rw[List.getElem?_eq_getElem (by omega)]
      exact congrArg some e
     have e3:R[j]?=some (cn:Int):=by
      have hjR:j<R.length:=by rw[HL.out];exact hlt
      rw[List.getD_eq_getElem?_getD,List.getElem?_eq_getElem hjR]at hce
      rw[List.getElem?_eq_getElem hjR]
      exact congrArg some hce
     have:=(List.getElem?_inj (by omega) HG.out.1).1 (e2.trans e3.symm)
     omega
    have htk:R.take j++[((cn:Nat):Int)]=R.take (j+1):=by
     have hjR:j<R.length:=by rw[HL.out];exact hlt
     rw[List.getD_eq_getElem?_getD,List.getElem?_eq_getElem hjR]at hce
     rw[List.take_add_one,List.getElem?_eq_getElem hjR]
     simp only[Option.toList]
     rw[show R[j]=(cn:Int) from hce]
    have htl:(R.take j).length=j:=by rw[List.length_take,HL.out];omega
    have hnc:=HHd.out.2.2.2.2
    obtain⟨u,hxu,hvu⟩:=HO2.out.cells cn (by omega)
    have h14:=HFew.out.2.2.2 cn hcn
    obtain⟨ug,ucap,rfl⟩:=hvu.shape (by omega)
    obtain⟨bg,e1,hbl⟩:∃bg,b=some ⟨bg,0,none⟩∧bg<w2.heap.size:=by
     rcases HO2.out.ce.2 with⟨e,h0⟩|⟨g,cap',cur,e,hg,hh,_⟩
     ·omega
     ·injection e with e _ _
      exact⟨g,e,(Array.getElem?_eq_some_iff.1 hh).1⟩
    subst e1
    have hce2:w2.ownsRow (w.heap.size+2) 35 1 (.slice (some ⟨bg,0,none⟩) nc d) S.cs.length xv:=HO2.out.ce
    rw[hnc]at hce2
    have hxl2:=HO2.out.xl
    have hcell:w2.cell? ⟨bg,cn,none⟩=some (.slice (some ⟨ug,0,none⟩) (S.cs.getD cn []).length ucap):=(hce2.cellAt cn (by omega)).trans hxu
    clear hce2 hxl2
    obtain⟨i9,o9,e9,hi9,hc9⟩:∃i9 o9,sa=some ⟨i9,o9,none⟩∧i9<w4.heap.size∧w4.cell? ⟨i9,o9+j,none⟩=some (.int .i64 cn):=by
     obtain⟨a',c',e,h0|⟨b',o',e2,hb',hc'⟩⟩:=HIn.out
     ·omega
     ·injection e with e _ _
      refine⟨b',o',e.trans e2,hb',?_⟩
      rw[hc' j hlt]
      show some (Value.int .i64 (R.getD j 0))=_
      rw[hce]
    subst e9
    have hN4e:=HN4.out
    have q9:wr.cell? ⟨i9,o9+j,none⟩=some (.int .i64 cn):=(HB.out.cell (p:=⟨i9,o9+j,none⟩) (by show i9<N4;omega)).trans hc9
    have q8:wr.cell? ⟨N4+1,0,none⟩=some (.map (some N4)):=by unfold World.cell?;rw[HM.out.nb];rfl
    have hwf:(Lit.int .i64 ((cn:Nat):Int)).wf=true:=wf_small (by omega) (by have:=HFew.out.2.1;omega)
    have hwv:(Lit.int .i64 ((j:Nat):Int)).wf=true:=wf_small (by omega) (by omega)
    have HS6:Hid (∀w6,NumMap w6 N4 (j+1) (R.take j++[((cn:Nat):Int)])→wr.grownBy w6 (some N4)→w6.cell? ⟨w.heap.size,1,none⟩=some (.slice (some ⟨bg,0,none⟩) nc d)∧w6.cell? ⟨bg,cn,none⟩=some (.slice (some ⟨ug,0,none⟩) (S.cs.getD cn []).length ucap)∧(∃v,w6.cell? ⟨N4+1+1,j,none⟩=some v)∧w6.frozen? ⟨N4+1+1,j,none⟩=false ∧
      Hid (Below N4 w4 (w6.setCell ⟨N4+1+1,j,none⟩ (.slice (some ⟨ug,0,none⟩) (S.cs.getD cn []).length ucap))∧NumAt (w6.setCell ⟨N4+1+1,j,none⟩ (.slice (some ⟨ug,0,none⟩) (S.cs.getD cn []).length ucap)) (N4+1) N4 (j+1) (R.take (j+1))∧World.ownsRow (w6.setCell ⟨N4+1+1,j,none⟩ (.slice (some ⟨ug,0,none⟩) (S.cs.getD cn []).length ucap)) (w.heap.size+2) 35 1 (.slice (some ⟨N4+1+1,0,none⟩) L L) L (pickTo xv R (j+1)))):=fun w6 hnum hgr=>by
     have hk6:∀k,k<wr.heap.size→¬k=N4→w6.heap[k]?=wr.heap[k]?:=fun k hk hne=>hgr.block k hk fun e=>hne (by injection e)
     have hsz:=HB.out.size
     have hwr2:∀k,k<w2.heap.size→wr.heap[k]?=w2.heap[k]?:=fun k hk=>by
      have:=HB4.out.size
      rw[HB.out.block k (by omega),HB4.out.block k hk]
     have h62:∀k,k<w2.heap.size→w6.heap[k]?=w2.heap[k]?:=fun k hk=>by
      have:=HB4.out.size
      rw[hk6 k (by omega) (by omega),hwr2 k hk]
     have hrow6:w6.ownsRow (w.heap.size+2) 35 1 (.slice (some ⟨N4+1+1,0,none⟩) L L) L (pickTo xv R j):=ownsRow_block HR6.out fun g hg=>hk6 g (HR6.out.lt g hg).2 (by
      have:N4+1+1=g:=Option.some.inj (show some (N4+1+1)=some g from hg)
      omega)
     have hpl:(pickTo xv R j).length=L:=by rw[pickTo_len xv R (by rw[HL.out];omega),HL.out]
     obtain⟨y0,y1,_,_,_⟩:=HX2.out.at
     refine⟨?_,?_,?_,?_,?_,?_,?_⟩
     ·exact (World.cell?_of_block (w:=w2) (a:=⟨w.heap.size,1,none⟩) (h62 _ (by show w.heap.size<_;have:=HS2.out;omega))).trans y1
     ·exact (World.cell?_of_block (w:=w2) (a:=⟨bg,cn,none⟩) (h62 _ hbl)).trans hcell
     ·refine⟨(pickTo xv R j)[j]'(by omega),?_⟩
      rw[hrow6.cellAt j (by omega)]
      exact List.getElem?_eq_getElem _
     ·rcases hrow6.2 with⟨e,_⟩|⟨g,cap',cur,e,hg,hh,_⟩
      ·cases e
      ·injection e with e _ _
       injection e with e
       injection e with e _ _
       subst e
       unfold World.frozen?;rw[hh];simp
     ·have:Below N4 w4 w6:=⟨hgr.os.trans HB.out.os,hgr.tape.trans HB.out.tape,hgr.output.trans HB.out.output,Nat.le_trans HB.out.size hgr.size,fun k hk=>(hk6 k (by omega) (by omega)).trans (HB.out.block k hk)⟩
      exact this.setCell (by show N4≤N4+1+1;omega) _
     ·refine⟨?_,?_⟩
      ·rw[Below.heap_setCell _ _ _ _ (by show ¬N4+1=N4+1+1;omega),hk6 _ (Array.getElem?_eq_some_iff.1 HM.out.nb).1 (by omega)]
       exact HM.out.nb
      ·rw[←htk]
       exact hnum.stay (Below.heap_setCell _ _ _ _ (by show ¬N4=N4+1+1;omega))
     ·have h:=ownsRow_set hrow6 j (by omega) (.slice (some ⟨ug,0,none⟩) (S.cs.getD cn []).length ucap)
      have e:(xv.getD (R.getD j 0).toNat nilS)=.slice (some ⟨ug,0,none⟩) (S.cs.getD cn []).length ucap:=by
       rw[hce,Int.toNat_natCast,List.getD_eq_getElem?_getD,hxu];rfl
      rw[←pickTo_step xv R (by rw[HL.out];exact hlt),e]
      exact h
    have i1:(0:Int)≤(cn:Int):=by omega
    have i2:(cn:Int)<(nc:Int):=by omega
    clear hcell hxu hvu h14 hc9 htk hbl hi9 hN4e hnc hce hcn
    generalize (S.cs.getD cn []).length=ul at *
    go_wp2_with (at_mapUpdate;refine store_numL _ rfl _ _ _ rfl N4 j (R.take j) j htl rfl HM.out.num (by unfold maxLen;omega) cn rfl rfl hwf hwv hnew ?_;intro w6 hnum hgr;obtain⟨z1,z2,⟨z3,z4⟩,z5,HZ⟩:=HS6.out w6 hnum hgr;clear hnum hgr)
    go_roundw
    case rel=>exact⟨j+1,by omega,by go_num,HZ.out.1,HZ.out.2.1,HZ.out.2.2⟩
    case measure=>simp[intOf];omega
   ·obtain rfl:j=L:=by omega
    have hRt:R.take j=R:=by rw[←HL.out,List.take_length]
    have hpa:pickTo xv R j=R.map fun n=>xv.getD n.toNat nilS:=by rw[←HL.out];exact pickTo_all xv R
    have HM7:Hid (NumAt wr (N4+1) N4 j R):=(by have:=HM.out;rw[hRt]at this;exact this)
    have HB7:Hid (Below w2.heap.size w2 wr):=(by have:=HB.out;rw[←HN4.out]at this;exact below_step HB4.out this)
    have HO7:Hid (Own (w.heap.size+2) wr (.slice a nf c) (.slice (some ⟨N4+1+1,0,none⟩) j j) rv (R.map fun n=>xv.getD n.toNat nilS) ⟨mapTo (renumF R) S.fs 0,R.map fun n=>S.cs.getD n.toNat [],S.st,S.wh⟩):=by
     rw[mapTo_zero]
     refine (HO2.out.below HB7.out).pick HG.out.1 (fun x hx=>?_) ?_
     ·have:=HG.out.2 x hx
      have:=HHd.out.2.2.2.2
      omega
     ·rw[HL.out,←hpa];exact HR6.out
    have HX7:Hid (BoxXY w.heap.size wr (.slice a nf c) (.slice b nc d) (.int .i64 st) (.int .i64 wh)):=HX2.out.keep fun k hk _=>HB7.out.block k (by have:=HS2.out;omega)
    have HL7:Hid (Below w.heap.size w wr):=HB2.out.trans (HB7.out.mono HB2.out.size)
    have HS7:Hid (w.heap.size+2≤wr.heap.size):=Nat.le_trans HS2.out HB7.out.size
    clear hRt hpa HM HB HR6 HB7 HIn HX2 HO2 HB2 HB4 HN4 HAt HXc HReg HRch HLr
    generalize wr=w7 at *
    obtain⟨y0,y1,y2,y3,-⟩:=HX7.out.at
    have HCL:Hid ((R.map fun n=>S.cs.getD n.toNat []).length=j):=(by show _=_;rw[List.length_map];exact HL.out)
    go_upto_region 15 with (fail)
    clear y0 y1 y2 y3
    go_loopw [54] (fun q wr=>∃i:Nat,i≤nf∧q=.int .i64 i∧Hid (Below w.heap.size w wr)∧Hid (BoxXY w.heap.size wr (.slice a nf c) (.slice b nc d) (.int .i64 st) (.int .i64 wh))∧Hid (NumAt wr (N4+1) N4 j R)∧Hid (w.heap.size+2≤wr.heap.size) ∧
      Hid (Own (w.heap.size+2) wr (.slice a nf c) (.slice (some ⟨N4+1+1,0,none⟩) j j) rv (R.map fun n=>xv.getD n.toNat nilS) ⟨mapTo (renumF R) S.fs i,R.map fun n=>S.cs.getD n.toNat [],S.st,S.wh⟩)) (fun q _=>nf - (intOf q).toNat)
    case atStart=>exact⟨0,by omega,rfl,HL7,HX7,HM7,HS7,HO7⟩
    case round =>
     clear HL7 HX7 HM7 HS7 HO7
     obtain⟨i,hi,rfl,HLw,HXw,HMw,HSw,HOw⟩:=hrel
     by_cases hit:i<nf
     ·have hfl:=HHd.out.2.2.2.1
      have hmf:(mapTo (renumF R) S.fs i).length=nf:=by rw[mapTo_len,hfl]
      obtain⟨gf,cf,ef,-,hgfl,-⟩:=HOw.out.frow (show ¬(mapTo (renumF R) S.fs i).length=0 by omega)
      replace ef:(Value.slice a nf c)=.slice (some ⟨gf,0,none⟩) (mapTo (renumF R) S.fs i).length cf:=ef
      have ea:a=some ⟨gf,0,none⟩:=(Value.slice.inj ef).1
      clear ef
      subst ea
      obtain⟨u,hru,f0,f1,f2,f3,hvu⟩:=HOw.out.fcells (i:=i) (show i<(mapTo (renumF R) S.fs i).length by omega)
      have hfa:fmAt (mapTo (renumF R) S.fs i) i=fmAt S.fs i:=mapTo_at noFm (by omega)
      replace f0:wr.cell? ⟨gf,i*4,none⟩=some (.int .i64 (fmAt (mapTo (renumF R) S.fs i) i).proc):=f0
      replace f1:wr.cell? ⟨gf,i*4+1,none⟩=some (.int .i64 (fmAt (mapTo (renumF R) S.fs i) i).pos):=f1
      replace f3:wr.cell? ⟨gf,i*4+3,none⟩=some (.int .i64 (fmAt (mapTo (renumF R) S.fs i) i).to):=f3
      replace hvu:VRow (w.heap.size+2) wr u (fmAt (mapTo (renumF R) S.fs i) i).regs:=hvu
      rw[hfa]at f0 f1 f3 hvu
      have hl40:=HFew.out.2.2.1 i hit
      obtain⟨rg,rc,rfl⟩:=hvu.shape (by omega)
      have HV:Hid (VRow (w.heap.size+2) wr (.slice (some ⟨rg,0,none⟩) (fmAt S.fs i).regs.length rc) (fmAt S.fs i).regs):=hvu
      have HRu:Hid (rv[i]?=some (.slice (some ⟨rg,0,none⟩) (fmAt S.fs i).regs.length rc)):=hru
      obtain⟨rl,hrl⟩:∃rl,(fmAt S.fs i).regs.length=rl:=⟨_,rfl⟩
      rw[hrl]at f2 HV HRu hl40
      have HRl:Hid ((fmAt S.fs i).regs.length=rl):=hrl
      have HCall:Hid (∀o:Obj,Calls Tryz.prog 66 #[.slice (some ⟨rg,0,none⟩) rl rc,.pointer (some ⟨N4+1,0,none⟩)] (wr.alloc o) fun e w'=>e=.returned (.tuple #[])∧Hid (VRow (w.heap.size+2) w' (.slice (some ⟨rg,0,none⟩) rl rc) ((fmAt S.fs i).regs.map (renum R)))∧Hid (KeepG rg (wr.alloc o) w')):=fun o=>by
       have hb:=below_alloc wr o
       have hM:=HMw.out.below hb
       exact renumberP rg rl rc (N4+1) N4 j (w.heap.size+2) R _ _ (World.ownsRow.alloc HV.out o) hM.nb hM.num (HFs.out i hit) (by rw[HRl.out];omega)
      have HNext:Hid (∀(o:Obj) (w':World),VRow (w.heap.size+2) w' (.slice (some ⟨rg,0,none⟩) rl rc) ((fmAt S.fs i).regs.map (renum R))→KeepG rg (wr.alloc o) w'→Below w.heap.size w w'∧BoxXY w.heap.size w' (.slice (some ⟨gf,0,none⟩) nf c) (.slice b nc d) (.int .i64 st) (.int .i64 wh)∧NumAt w' (N4+1) N4 j R∧w.heap.size+2≤w'.heap.size ∧
        Own (w.heap.size+2) w' (.slice (some ⟨gf,0,none⟩) nf c) (.slice (some ⟨N4+1+1,0,none⟩) j j) rv (R.map fun n=>xv.getD n.toNat nilS) ⟨mapTo (renumF R) S.fs (i+1),R.map fun n=>S.cs.getD n.toNat [],S.st,S.wh⟩):=fun o w' hr hk=>by
       have hb:=below_alloc wr o
       have hV:=World.ownsRow.alloc HV.out o
       obtain⟨n1,n2⟩:=(HMw.out.below hb).apart hV
       have hX:=HXw.out.keep (w':=wr.alloc o) fun k hk2 _=>hb.block k (by have:=HSw.out;omega)
       obtain⟨x1,x2⟩:=hX.apart hV
       have hrg:=(HV.out.lt rg rfl).1
       have hsz:=hb.size
       have hs9:=HSw.out
       have hM:=HMw.out.below hb
       refine⟨HLw.out.trans ((hb.mono HLw.out.size).trans (hk.2.mono (by omega))),hX.keep fun k h1 h2=>hk.1 k (by omega) (by omega),hM.stay (hk.1 _ n1 (Array.getElem?_eq_some_iff.1 hM.nb).1) (hk.1 _ n2 hM.num.lt),by have:=hk.2.size;omega,?_⟩
       exact frames_step (HOw.out.below hb) (by have:=HHd.out.2.2.2.1;omega) HRu.out hk hr
      have i1:(i:Int)<(nf:Int):=by omega
      clear hru hvu hfa hmf hfl hrl hl40
      generalize (fmAt S.fs i).proc=p1 at *
      generalize (fmAt S.fs i).pos=p2 at *
      generalize (fmAt S.fs i).to=p3 at *
      have e1:(wr.alloc (.cells #[.int .i64 p1,.int .i64 p2,.slice (some ⟨rg,0,none⟩) rl rc,.int .i64 p3] 40)).cell? ⟨wr.heap.size,2,none⟩=some (.slice (some ⟨rg,0,none⟩) rl rc):=by rw[World.cell?_alloc_new];rfl
      have hN1:nf≤10:=HFew.out.1
      obtain⟨x0,x1,x2,x3,-⟩:=HXw.out.at
      go_wp2_with (go_at_call 66;refine (HCall.out _).mono ?_;rintro e w9 ⟨rfl,HV9,HK9⟩)
      have HN9:=HNext.out _ w9 HV9.out HK9.out
      have HN9a:Hid (Below w.heap.size w w9):=HN9.1
      have HN9b:Hid (BoxXY w.heap.size w9 (.slice (some ⟨gf,0,none⟩) nf c) (.slice b nc d) (.int .i64 st) (.int .i64 wh)):=HN9.2.1
      have HN9c:Hid (NumAt w9 (N4+1) N4 j R):=HN9.2.2.1
      have HN9d:Hid (w.heap.size+2≤w9.heap.size):=HN9.2.2.2.1
      have HN9e:Hid (Own (w.heap.size+2) w9 (.slice (some ⟨gf,0,none⟩) nf c) (.slice (some ⟨N4+1+1,0,none⟩) j j) rv (R.map fun n=>xv.getD n.toNat nilS) ⟨mapTo (renumF R) S.fs (i+1),R.map fun n=>S.cs.getD n.toNat [],S.st,S.wh⟩):=HN9.2.2.2.2
      clear HN9
      go_roundw
      case rel=>exact⟨i+1,by omega,by go_num,HN9a,HN9b,HN9c,HN9d,HN9e⟩
      case measure=>simp[intOf];omega
     ·obtain rfl:i=nf:=by omega
      have hall:mapTo (renumF R) S.fs i=S.fs.map (renumF R):=by rw[←HHd.out.2.2.2.1];exact mapTo_all _ _
      rw[hall]at HOw
      go_upto_region 20 with (fail)
      have HCLe:Hid ((mapTo (List.map (renum R)) (R.map fun n=>S.cs.getD n.toNat []) 0)=(R.map fun n=>S.cs.getD n.toNat [])):=mapTo_zero _ _
      rw[←HCLe.out]at HOw
      clear HCLe HFs HFew
      generalize hcs1:(R.map fun n=>S.cs.getD n.toNat [])=cs1 at *
      have HC1:Hid ((R.map fun n=>S.cs.getD n.toNat [])=cs1):=hcs1
      clear hcs1
      generalize hxs1:(R.map fun n=>xv.getD n.toNat nilS)=xs1 at *
      clear hxs1
      have hj24:j≤24:=hL24
      go_loopw [65] (fun q wq=>∃m:Nat,m≤j∧q=.int .i64 m∧Hid (Below w.heap.size w wq)∧Hid (BoxXY w.heap.size wq (.slice a i c) (.slice b nc d) (.int .i64 st) (.int .i64 wh))∧Hid (NumAt wq (N4+1) N4 j R)∧Hid (w.heap.size+2≤wq.heap.size) ∧
       Hid (Own (w.heap.size+2) wq (.slice a i c) (.slice (some ⟨N4+1+1,0,none⟩) j j) rv xs1 ⟨S.fs.map (renumF R),mapTo (List.map (renum R)) cs1 m,S.st,S.wh⟩)) (fun q _=>j - (intOf q).toNat)
      case atStart=>exact⟨0,by omega,rfl,HLw,HXw,HMw,HSw,HOw⟩
      case round =>
       clear HLw HXw HMw HSw HOw
       obtain⟨m,hm,rfl,HLw,HXw,HMw,HSw,HOw⟩:=hrel
       rename_i wq
       by_cases hmt:m<j
       ·have hml:m<cs1.length:=by have:=HCL.out;omega
        have hc14:=HCs.out m hmt
        have hmc:(mapTo (List.map (renum R)) cs1 m).length=cs1.length:=mapTo_len _ _ _
        have hfa:(mapTo (List.map (renum R)) cs1 m).getD m []=cs1.getD m []:=mapTo_at [] hml
        obtain⟨u,hxu,hvu⟩:=HOw.out.cells m (show m<(mapTo (List.map (renum R)) cs1 m).length by omega)
        replace hvu:VRow (w.heap.size+2) wr u ((mapTo (List.map (renum R)) cs1 m).getD m []):=hvu
        rw[hfa]at hvu
        obtain⟨rg,rc,rfl⟩:=hvu.shape (by omega)
        have hxl:=HOw.out.xl
        have hce:=HOw.out.ce
        have hcl:=HCL.out
        replace hce:wr.ownsRow (w.heap.size+2) 35 1 (.slice (some ⟨N4+1+1,0,none⟩) j j) (mapTo (List.map (renum R)) cs1 m).length xs1:=hce
        replace hxl:xs1.length=(mapTo (List.map (renum R)) cs1 m).length:=hxl
        rw[hmc,hcl]at hce
        have q1:wr.cell? ⟨N4+1+1,m,none⟩=some (.slice (some ⟨rg,0,none⟩) (cs1.getD m []).length rc):=(hce.cellAt m (by omega)).trans hxu
        have HV:Hid (VRow (w.heap.size+2) wr (.slice (some ⟨rg,0,none⟩) (cs1.getD m []).length rc) (cs1.getD m [])):=hvu
        have HRu:Hid (xs1[m]?=some (.slice (some ⟨rg,0,none⟩) (cs1.getD m []).length rc)):=hxu
        obtain⟨rl,hrl⟩:∃rl,(cs1.getD m []).length=rl:=⟨_,rfl⟩
        rw[hrl]at q1 HV HRu hc14
        have HRl:Hid ((cs1.getD m []).length=rl):=hrl
        have HCall:Hid (Calls Tryz.prog 66 #[.slice (some ⟨rg,0,none⟩) rl rc,.pointer (some ⟨N4+1,0,none⟩)] wr fun e w'=>e=.returned (.tuple #[])∧Hid (VRow (w.heap.size+2) w' (.slice (some ⟨rg,0,none⟩) rl rc) ((cs1.getD m []).map (renum R)))∧Hid (KeepG rg wr w')) :=
         renumberP rg rl rc (N4+1) N4 j (w.heap.size+2) R _ _ HV.out HMw.out.nb HMw.out.num hc14.2 (by rw[HRl.out];omega)
        have HNext:Hid (∀(w':World),VRow (w.heap.size+2) w' (.slice (some ⟨rg,0,none⟩) rl rc) ((cs1.getD m []).map (renum R))→KeepG rg wr w'→Below w.heap.size w w'∧BoxXY w.heap.size w' (.slice a i c) (.slice b nc d) (.int .i64 st) (.int .i64 wh)∧NumAt w' (N4+1) N4 j R∧w.heap.size+2≤w'.heap.size ∧
          Own (w.heap.size+2) w' (.slice a i c) (.slice (some ⟨N4+1+1,0,none⟩) j j) rv xs1 ⟨S.fs.map (renumF R),mapTo (List.map (renum R)) cs1 (m+1),S.st,S.wh⟩):=fun w' hr hk=>by
         obtain⟨n1,n2⟩:=HMw.out.apart HV.out
         obtain⟨x1,x2⟩:=HXw.out.apart HV.out
         have hrg:=(HV.out.lt rg rfl).1
         have hs9:=HSw.out
         refine⟨HLw.out.trans (hk.2.mono (by omega)),HXw.out.keep fun k h1 h2=>hk.1 k (by omega) (by omega),HMw.out.stay (hk.1 _ n1 (Array.getElem?_eq_some_iff.1 HMw.out.nb).1) (hk.1 _ n2 HMw.out.num.lt),by have:=hk.2.size;omega,?_⟩
         exact cells_step HOw.out hml HRu.out hk hr
        have i1:(m:Int)<(j:Int):=by omega
        clear hxu hvu hfa hmc hrl hc14 hce hxl hcl
        go_wp2_with (go_at_call 66;refine HCall.out.mono ?_;rintro e w9 ⟨rfl,HV9,HK9⟩)
        have HN9:=HNext.out w9 HV9.out HK9.out
        have HN9a:Hid (Below w.heap.size w w9):=HN9.1
        have HN9b:Hid (BoxXY w.heap.size w9 (.slice a i c) (.slice b nc d) (.int .i64 st) (.int .i64 wh)):=HN9.2.1
        have HN9c:Hid (NumAt w9 (N4+1) N4 j R):=HN9.2.2.1
        have HN9d:Hid (w.heap.size+2≤w9.heap.size):=HN9.2.2.2.1
        have HN9e:Hid (Own (w.heap.size+2) w9 (.slice a i c) (.slice (some ⟨N4+1+1,0,none⟩) j j) rv xs1 ⟨S.fs.map (renumF R),mapTo (List.map (renum R)) cs1 (m+1),S.st,S.wh⟩):=HN9.2.2.2.2
        clear HN9
        go_roundw
        case rel=>exact⟨m+1,by omega,by go_num,HN9a,HN9b,HN9c,HN9d,HN9e⟩
        case measure=>simp[intOf];omega
       ·obtain rfl:m=j:=by omega
        obtain⟨x0,x1,x2,x3,x4⟩:=HXw.out.at
        have x41:=x4 1
        have hX1:BoxXY w.heap.size (wr.setCell ⟨w.heap.size,1,none⟩ (.slice (some ⟨N4+1+1,0,none⟩) m m)) (.slice a i c) (.slice (some ⟨N4+1+1,0,none⟩) m m) (.int .i64 st) (.int .i64 wh):=HXw.out.set1 _
        obtain⟨_,hY⟩:=hX1
        have hYc:=hY.at
        have y40:=hYc.2.2.2.2 0
        have y41:=hYc.2.2.2.2 1
        have y42:=hYc.2.2.2.2 2
        have y43:=hYc.2.2.2.2 3
        have y0:=hYc.1
        have y1:=hYc.2.1
        have y2:=hYc.2.2.1
        have y3:=hYc.2.2.2.1
        clear x4 hYc
        have HFn:Hid (((((wr.setCell ⟨w.heap.size,1,none⟩ (.slice (some ⟨N4+1+1,0,none⟩) m m)).setCell ⟨w.heap.size+1,0,none⟩ (.slice a i c)).setCell ⟨w.heap.size+1,1,none⟩ (.slice (some ⟨N4+1+1,0,none⟩) m m)).setCell ⟨w.heap.size+1,2,none⟩ (.int .i64 st)).setCell ⟨w.heap.size+1,3,none⟩ (.int .i64 wh) |>.heap[w.heap.size+1]?=some (.cells #[.slice a i c,.slice (some ⟨N4+1+1,0,none⟩) m m,.int .i64 st,.int .i64 wh] 26 (0,0))):=by
         have h0:=hY
         unfold Box4 at h0
         have h1:=heap_setCell_same _ (w.heap.size+1) 0 _ _ (.slice a i c) h0
         have h2:=heap_setCell_same _ (w.heap.size+1) 1 _ _ (.slice (some ⟨N4+1+1,0,none⟩) m m) h1
         have h3:=heap_setCell_same _ (w.heap.size+1) 2 _ _ (.int .i64 st) h2
         exact heap_setCell_same _ (w.heap.size+1) 3 _ _ (.int .i64 wh) h3
        have HOn:Hid (Own w.heap.size ((((wr.setCell ⟨w.heap.size,1,none⟩ (.slice (some ⟨N4+1+1,0,none⟩) m m)).setCell ⟨w.heap.size+1,0,none⟩ (.slice a i c)).setCell ⟨w.heap.size+1,1,none⟩ (.slice (some ⟨N4+1+1,0,none⟩) m m)).setCell ⟨w.heap.size+1,2,none⟩ (.int .i64 st) |>.setCell ⟨w.heap.size+1,3,none⟩ (.int .i64 wh)) (.slice a i c) (.slice (some ⟨N4+1+1,0,none⟩) m m) rv xs1 (sweptS S)):=by
         have e1:mapTo (List.map (renum R)) cs1 m=(R.map fun n=>S.cs.getD n.toNat []).map (List.map (renum R)):=by
          have:=mapTo_all (List.map (renum R)) cs1
          rw[HCL.out]at this
          rw[this,HC1.out]
         have e2:(⟨S.fs.map (renumF R),mapTo (List.map (renum R)) cs1 m,S.st,S.wh⟩:Sta)=sweptS S:=by
          rw[e1,List.map_map]
          unfold sweptS
          rw[HR.out];rfl
         rw[←e2]
         refine (HOw.out.stay fun k h1 _=>?_).lower (by omega)
         exact (set4_heap (by show ¬k=w.heap.size+1;omega)).trans (Below.heap_setCell _ _ _ _ (by show ¬k=w.heap.size;omega))
        have HBn:Hid (Below w.heap.size w ((((wr.setCell ⟨w.heap.size,1,none⟩ (.slice (some ⟨N4+1+1,0,none⟩) m m)).setCell ⟨w.heap.size+1,0,none⟩ (.slice a i c)).setCell ⟨w.heap.size+1,1,none⟩ (.slice (some ⟨N4+1+1,0,none⟩) m m)).setCell ⟨w.heap.size+1,2,none⟩ (.int .i64 st) |>.setCell ⟨w.heap.size+1,3,none⟩ (.int .i64 wh))):=((((HLw.out.setCell (Nat.le_refl _) _).setCell (by show w.heap.size≤w.heap.size+1;omega) _).setCell (by show w.heap.size≤w.heap.size+1;omega) _).setCell (by show w.heap.size≤w.heap.size+1;omega) _).setCell (by show w.heap.size≤w.heap.size+1;omega) _
        clear hY HOw HLw HXw HMw
        go_wp2
        refine bodyPost_ret (results_cell_row rfl _ _ (w.heap.size+1) 26 _ (0,0) _ rfl HFn.out Tryz.underlying26 rfl (by kernel_rfl)) rfl ?_
        exact⟨_,_,_,_,rfl,HOn,HBn⟩
theorem sweepP {np:Nat} {P:Nat→Pc} (S:Sta) (fv cv:Value) (w:World) (h:StaAt w fv cv S) (hc:CodeOK np P) (hs:StaOK np P S) :
  Calls Tryz.prog 21 #[staV fv cv S.st S.wh] w fun e w'=>∃fv' cv' rv xv,e=.returned (staV fv' cv' S.st S.wh)∧Hid (Own w.heap.size w' fv' cv' rv xv (sweptS S))∧Hid (Below w.heap.size w w'):=by
 obtain⟨fa,fc,rfl,_⟩:=id h.1
 obtain⟨ca,cc,rfl,_⟩:=id h.2
 exact sweepW S hc hs _ _ fc cc fa ca S.st S.wh w h rfl rfl rfl rfl
end Go.Proofs.YtfaokaohhchdhaaGreatDoor
