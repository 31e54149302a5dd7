/- copied: a state in new memory. -/
import Derived.Test.YtfaokaohhchdhaaGreatDoorPart10
namespace Go.Proofs.YtfaokaohhchdhaaGreatDoor
open Go.RowKit Go.Maps
set_option maxHeartbeats 2000000 in
theorem copied1 (S:Sta) (fa ca:Option Addr) (nf nc fc cc:Nat) (st wh:Int) (w:World) (h1:FramesAt w (.slice fa nf fc) S.fs) (h2:CsAt w (.slice ca nc cc) S.cs) (hnf:S.fs.length=nf) (hnc:S.cs.length=nc) (hf:nf≤10) (hc:nc≤24) (hr:∀i,i<nf→(fmAt S.fs i).regs.length≤1000) (hx:∀i,i<nc→(S.cs.getD i []).length≤1000) :
  Calls Tryz.prog 45 #[.agg #[.slice fa nf fc,.slice ca nc cc,.int .i64 st,.int .i64 wh]] w fun e w'=>∃fv' cv' rv xv,e=.returned (.agg #[fv',cv',.int .i64 st,.int .i64 wh])∧Hid (Own w.heap.size w' fv' cv' rv xv S)∧Below w.heap.size w w':=by
 have HF:Hid (∀wi,Below w.heap.size w wi→Calls Tryz.prog 98 #[.slice fa nf fc] wi fun e w'=>∃ad cap us,e=.returned (.slice ad nf cap)∧Hid (us.length=S.fs.length∧w'.ownsRow wi.heap.size 40 4 (.slice ad nf cap) nf (flatF S.fs us)∧(∀i,i<nf→∃u,us[i]?=some u∧RowAt w u (fmAt S.fs i).regs))∧Below wi.heap.size wi w'):=fun wi hb=>by
  have:=cloneF w _ S.fs wi h1 hb (by omega)
  rw[hnf]at this
  refine this.mono ?_
  rintro e w' ⟨ad,cap,us,rfl,⟨k1,k2,k3⟩,k4⟩
  exact⟨ad,cap,us,rfl,⟨k1.trans hnf.symm,k2,k3⟩,k4⟩
 have HD:Hid (∀wi,Below w.heap.size w wi→Calls Tryz.prog 100 #[.slice ca nc cc] wi fun e w'=>∃ad cap us,e=.returned (.slice ad nc cap)∧Hid (us.length=nc∧w'.ownsRow wi.heap.size 35 1 (.slice ad nc cap) nc us∧(∀i,i<nc→∃u,us[i]?=some u∧RowAt w u (S.cs.getD i [])))∧Below wi.heap.size wi w'):=fun wi hb=>by
  have:=cloneC0 w _ nc _ _ _ wi (by unfold CsAt at h2;rw[hnc]at h2;exact h2) hb (by omega)
  exact this
 have HRow:Hid (∀(v:Value) (L:List (Int×Int)) (wi:World),RowAt wi v L→L.length≤1000→Calls Tryz.prog 99 #[v] wi fun e w'=>∃ad cap,e=.returned (.slice ad L.length cap)∧Hid (VRow wi.heap.size w' (.slice ad L.length cap) L)∧Below wi.heap.size wi w'):=cloneRow
 have hbW:Below w.heap.size w ((w.alloc (.cells #[.slice fa nf fc,.slice ca nc cc,.int .i64 st,.int .i64 wh] 26)).alloc (.cells #[.slice none 0 0,.slice none 0 0,.int .i64 0,.int .i64 0] 26)):=below_step (below_alloc w _) (below_alloc _ _)
 have HX:Hid (BoxXY w.heap.size ((w.alloc (.cells #[.slice fa nf fc,.slice ca nc cc,.int .i64 st,.int .i64 wh] 26)).alloc (.cells #[.slice none 0 0,.slice none 0 0,.int .i64 0,.int .i64 0] 26)) (.slice fa nf fc) (.slice ca nc cc) (.int .i64 st) (.int .i64 wh)):=by
  refine⟨?_,?_⟩
  ·unfold Box4
   rw[(below_alloc _ _).block _ (by simp),heap_alloc_new]
  ·unfold Box4
   have:=heap_alloc_new (w.alloc (.cells #[.slice fa nf fc,.slice ca nc cc,.int .i64 st,.int .i64 wh] 26)) (.cells #[.slice none 0 0,.slice none 0 0,.int .i64 0,.int .i64 0] 26)
   simpa using this
 have hsW:((w.alloc (.cells #[.slice fa nf fc,.slice ca nc cc,.int .i64 st,.int .i64 wh] 26)).alloc (.cells #[.slice none 0 0,.slice none 0 0,.int .i64 0,.int .i64 0] 26)).heap.size=w.heap.size+2:=by simp
 have HC:Hid (nc≤24∧∀i,i<nc→(S.cs.getD i []).length≤1000):=⟨hc,hx⟩
 have HR:Hid (∀i,i<nf→(fmAt S.fs i).regs.length≤1000):=hr
 have HNF:Hid (S.fs.length=nf):=hnf
 have HNC:Hid (S.cs.length=nc):=hnc
 clear h1 h2 hnf hnc hc hr hx
 obtain⟨W,hW⟩:∃W,(w.alloc (.cells #[.slice fa nf fc,.slice ca nc cc,.int .i64 st,.int .i64 wh] 26)).alloc (.cells #[.slice none 0 0,.slice none 0 0,.int .i64 0,.int .i64 0] 26)=W:=⟨_,rfl⟩
 rw[hW]at hbW HX hsW
 have HW:Hid ((w.alloc (.cells #[.slice fa nf fc,.slice ca nc cc,.int .i64 st,.int .i64 wh] 26)).alloc (.cells #[.slice none 0 0,.slice none 0 0,.int .i64 0,.int .i64 0] 26)=W):=hW
 clear hW
 obtain⟨x0,x1,x2,x3,x4⟩:=HX.out.at
 have x40:=x4 0
 clear x4
 go_enter Tryz.func45,Tryz.ntmps45
 go_upto_region 1 with (fail)
 rw[HW.out]
 go_upto_region 3 with (go_at_call 98;refine (HF.out _ hbW).mono ?_;rintro e w1 ⟨ad,cap,us,rfl,HU,hb1⟩;have HX1:=HX.out.keep (fun k _ _=>hb1.block k (by omega));obtain⟨y0,y1,y2,y3,y4⟩:=HX1.at;have y40:=y4 0;clear y4)
 have HX2:Hid (BoxXY w.heap.size (w1.setCell ⟨w.heap.size,0,none⟩ (.slice ad nf cap)) (.slice ad nf cap) (.slice ca nc cc) (.int .i64 st) (.int .i64 wh)):=HX1.set0 _
 have HB2:Hid (Below w.heap.size w (w1.setCell ⟨w.heap.size,0,none⟩ (.slice ad nf cap))):=(hbW.trans (hb1.mono hbW.size)).setCell (Nat.le_refl _) _
 have HS2:Hid (w.heap.size+2≤(w1.setCell ⟨w.heap.size,0,none⟩ (.slice ad nf cap)).heap.size):=by
  show _≤_
  have:=hb1.size;simp[World.setCell];omega
 have HC2:Hid (CFr (w.heap.size+2) w (w1.setCell ⟨w.heap.size,0,none⟩ (.slice ad nf cap)) S.fs (.slice ad nf cap) nf us 0):=by
  obtain⟨k1,k2,k3⟩:=HU.out
  rw[hsW]at k2
  exact⟨ownsRow_setCell_below k2 (by show w.heap.size<_;omega) _,k1,fun i hi=>absurd hi (Nat.not_lt_zero _),fun i _ hi=>k3 i hi,fun i k u u' b hi=>absurd hi (Nat.not_lt_zero _)⟩
 generalize w1.setCell ⟨w.heap.size,0,none⟩ (.slice ad nf cap)=w2 at *
 clear x0 x1 x2 x3 x40 y0 y1 y2 y3 y40 hb1 HX1 HX HU hbW hsW HW HF
 go_loopw [14] (fun q wr=>∃(j:Nat) (vs:List Value),j≤nf∧q=.int .i64 j∧Hid (Below w.heap.size w wr)∧Hid (BoxXY w.heap.size wr (.slice ad nf cap) (.slice ca nc cc) (.int .i64 st) (.int .i64 wh))∧Hid (CFr (w.heap.size+2) w wr S.fs (.slice ad nf cap) nf vs j)∧Hid (w.heap.size+2≤wr.heap.size)) (fun q _=>nf - (intOf q).toNat)
 case atStart=>exact⟨0,us,by omega,rfl,HB2,HX2,HC2,HS2⟩
 case round =>
  clear HB2 HX2 HC2 HS2
  obtain⟨j,vs,hj,rfl,HB,HX,HI,HS⟩:=hrel
  by_cases hlt:j<nf
  ·obtain⟨g,cap',cur,hv,hgB,hgg,_⟩:∃g cap' cur,(.slice ad nf cap:Value)=.slice (some ⟨g,0,none⟩) nf cap'∧w.heap.size+2≤g∧wr.heap[g]?=some (.cells cur 40 (0,0))∧True:=by
    rcases HI.out.row.2 with⟨h0,_⟩|⟨g,cap',cur,hv,hg,hh,_⟩
    ·cases h0;omega
    ·exact⟨g,cap',cur,hv,hg,hh,trivial⟩
   cases hv
   obtain⟨y0,y1,y2,y3,y4⟩:=HX.out.at
   have hlen:=flatF_len S.fs vs HI.out.ul
   have hnf:=HNF.out
   obtain⟨u,k0,k1,k2,k3,k4⟩:=flatF_at S.fs vs HI.out.ul j (by omega)
   have c0:wr.cell? ⟨g,j*4,none⟩=some (.int .i64 (fmAt S.fs j).proc):=(HI.out.row.cellAt (j*4) (by omega)).trans k1
   have c1:wr.cell? ⟨g,j*4+1,none⟩=some (.int .i64 (fmAt S.fs j).pos):=(HI.out.row.cellAt (j*4+1) (by omega)).trans k2
   have c2:wr.cell? ⟨g,j*4+2,none⟩=some u:=(HI.out.row.cellAt (j*4+2) (by omega)).trans k3
   have c3:wr.cell? ⟨g,j*4+3,none⟩=some (.int .i64 (fmAt S.fs j).to):=(HI.out.row.cellAt (j*4+3) (by omega)).trans k4
   have hfz:wr.frozen? ⟨g,j*4+2,none⟩=false:=by unfold World.frozen?;rw[hgg];simp
   have HRj:Hid (∀wi,Below w.heap.size w wi→Calls Tryz.prog 99 #[u] wi fun e w'=>∃ad cap,e=.returned (.slice ad (fmAt S.fs j).regs.length cap)∧Hid (VRow wi.heap.size w' (.slice ad (fmAt S.fs j).regs.length cap) (fmAt S.fs j).regs)∧Below wi.heap.size wi w'):=fun wi hb=>by
    obtain⟨u',e1,e2⟩:=HI.out.old j (Nat.le_refl _) hlt
    rw[k0]at e1;cases e1
    exact HRow.out _ _ wi (ValsAt.below e2 hb) (HR.out j hlt)
   have hgl:g<wr.heap.size:=(Array.getElem?_eq_some_iff.1 hgg).1
   have hus:∃a n c,u=.slice a n c:=by
    obtain⟨u',e1,a,c,e2,_⟩:=HI.out.old j (Nat.le_refl _) hlt
    rw[k0]at e1;cases e1
    exact⟨a,_,c,e2⟩
   obtain⟨ua,un,uc,rfl⟩:=hus
   have hji:(j:Int)<(nf:Int):=by omega
   clear k0 k1 k2 k3 k4 hgg hnf hlen y1 y2 y3 y4
   have HBal:Hid (∀o:Obj,Below w.heap.size w (wr.alloc o).drew):=fun o=>(below_up HB.out (below_alloc wr o) (Nat.le_refl _)).drew
   have HSz:Hid (∀o:Obj,(wr.alloc o).drew.heap.size=wr.heap.size+1):=fun o=>by show (wr.alloc o).heap.size=_;simp
   have KS:∀wi:World,(∀k,k<wr.heap.size+1→¬k=g→wi.heap[k]?=(wr.alloc (.cells #[.int .i64 (fmAt S.fs j).proc,.int .i64 (fmAt S.fs j).pos,.slice ua un uc,.int .i64 (fmAt S.fs j).to] 40)).heap[k]?)→wi.cell? ⟨w.heap.size,0,none⟩=some (.slice (some ⟨g,0,none⟩) nf cap)∧wi.cell? ⟨wr.heap.size,2,none⟩=some (.slice ua un uc):=fun wi hk=>by
    have hs:=HS.out
    constructor
    ·refine (World.cell?_of_block (w:=wr) (a:=⟨w.heap.size,0,none⟩) ?_).trans y0
     rw[hk _ (by show w.heap.size<_;omega) (by show ¬w.heap.size=g;omega)]
     exact (below_alloc wr _).block _ (by show w.heap.size<_;omega)
    ·refine (World.cell?_of_block (w:=wr.alloc (.cells #[.int .i64 (fmAt S.fs j).proc,.int .i64 (fmAt S.fs j).pos,.slice ua un uc,.int .i64 (fmAt S.fs j).to] 40)) (a:=⟨wr.heap.size,2,none⟩) (hk _ (by show wr.heap.size<_;omega) (by show ¬wr.heap.size=g;omega))).trans ?_
     rw[World.cell?_alloc_new];rfl
   have HKS:Hid (∀wi:World,(∀k,k<wr.heap.size+1→¬k=g→wi.heap[k]?=(wr.alloc (.cells #[.int .i64 (fmAt S.fs j).proc,.int .i64 (fmAt S.fs j).pos,.slice ua un uc,.int .i64 (fmAt S.fs j).to] 40)).heap[k]?)→wi.cell? ⟨w.heap.size,0,none⟩=some (.slice (some ⟨g,0,none⟩) nf cap)∧wi.cell? ⟨wr.heap.size,2,none⟩=some (.slice ua un uc)):=KS
   clear KS
   go_upto_region 5 with (fail)
   go_region_held3 (fun w'=>w'.cell? ⟨w.heap.size,0,none⟩=some (.slice (some ⟨g,0,none⟩) nf cap)∧w'.cell? ⟨wr.heap.size,2,none⟩=some (.slice ua un uc))
    (first
     | exact HKS.out _ (fun k _ _=>rfl)
     | exact HKS.out _ (fun k hk _=>hb3.block k (by have:=HSz.out (.cells #[.int .i64 (fmAt S.fs j).proc,.int .i64 (fmAt S.fs j).pos,.slice ua un uc,.int .i64 (fmAt S.fs j).to] 40);omega))
     | exact HKS.out _ (fun k hk hg=>(Below.heap_setCell _ _ _ k hg).trans (hb3.block k (by have:=HSz.out (.cells #[.int .i64 (fmAt S.fs j).proc,.int .i64 (fmAt S.fs j).pos,.slice ua un uc,.int .i64 (fmAt S.fs j).to] 40);omega))))
    (first
     | (go_at_call 99;refine (HRj.out _ (HBal.out _)).mono ?_;rintro e w3 ⟨ad3,cap3,rfl,HV3,hb3⟩;have hst:w3.cell? ⟨g,j*4+2,none⟩=some (.slice ua un uc)∧w3.frozen? ⟨g,j*4+2,none⟩=false:=⟨((hb3.cell (p:=⟨g,j*4+2,none⟩) (by have:=HSz.out (.cells #[.int .i64 (fmAt S.fs j).proc,.int .i64 (fmAt S.fs j).pos,.slice ua un uc,.int .i64 (fmAt S.fs j).to] 40);show g<_;omega)).trans ((below_alloc wr _).cell (p:=⟨g,j*4+2,none⟩) hgl)).trans c2,((hb3.frozen (p:=⟨g,j*4+2,none⟩) (by have:=HSz.out (.cells #[.int .i64 (fmAt S.fs j).proc,.int .i64 (fmAt S.fs j).pos,.slice ua un uc,.int .i64 (fmAt S.fs j).to] 40);show g<_;omega)).trans ((below_alloc wr _).frozen (p:=⟨g,j*4+2,none⟩) hgl)).trans hfz⟩;obtain⟨hst1,hst2⟩:=hst))
   all_goals
    have hbx:Below wr.heap.size wr w3:=below_step ((below_alloc wr (.cells #[.int .i64 (fmAt S.fs j).proc,.int .i64 (fmAt S.fs j).pos,.slice ua un uc,.int .i64 (fmAt S.fs j).to] 40)).drew) hb3
    have HN1:Hid (Below w.heap.size w (w3.setCell ⟨g,j*4+2,none⟩ (.slice ad3 (fmAt S.fs j).regs.length cap3))):=(HB.out.trans (hbx.mono HB.out.size)).setCell (by show w.heap.size≤g;omega) _
    have HN2:Hid (BoxXY w.heap.size (w3.setCell ⟨g,j*4+2,none⟩ (.slice ad3 (fmAt S.fs j).regs.length cap3)) (.slice (some ⟨g,0,none⟩) nf cap) (.slice ca nc cc) (.int .i64 st) (.int .i64 wh)):=HX.out.keep fun k _ _=>(Below.heap_setCell w3 _ _ _ (by show ¬k=g;omega)).trans (hbx.block k (by have:=HS.out;omega))
    have HN3:Hid (CFr (w.heap.size+2) w (w3.setCell ⟨g,j*4+2,none⟩ (.slice ad3 (fmAt S.fs j).regs.length cap3)) S.fs (.slice (some ⟨g,0,none⟩) nf cap) nf (vs.set j (.slice ad3 (fmAt S.fs j).regs.length cap3)) (j+1)):=HI.out.step HNF.out hlt hbx HS.out HV3.out (by have:=HSz.out (.cells #[.int .i64 (fmAt S.fs j).proc,.int .i64 (fmAt S.fs j).pos,.slice ua un uc,.int .i64 (fmAt S.fs j).to] 40);omega)
    have HN4:Hid (w.heap.size+2≤(w3.setCell ⟨g,j*4+2,none⟩ (.slice ad3 (fmAt S.fs j).regs.length cap3)).heap.size):=by
     show _≤_
     have:=hbx.size;have:=HS.out;simp[World.setCell];omega
    clear hb3 HV3 hst1 hst2 hbx HKS HBal HSz HRj HI HX HB HS y0 c0 c1 c2 c3 hfz hgl
    generalize w3.setCell ⟨g,j*4+2,none⟩ (.slice ad3 (fmAt S.fs j).regs.length cap3)=w4 at *
    go_wp2
    go_roundw
    case rel=>exact⟨j+1,_,by omega,by go_num,HN1,HN2,HN3,HN4⟩
    case measure=>simp[intOf];omega
  ·obtain rfl:j=nf:=by omega
   obtain⟨y0,y1,y2,y3,y4⟩:=HX.out.at
   have y41:=y4 1
   clear y4
   go_wp2_with (go_at_call 100;refine (HD.out _ HB.out).mono ?_;rintro e w5 ⟨ad5,cap5,us5,rfl,HU5,hb5⟩;have HX5:=HX.out.keep (fun k _ _=>hb5.block k (by have:=HS.out;omega));obtain⟨z0,z1,z2,z3,z4⟩:=HX5.at;have z41:=z4 1;clear z4)
   have HX6:Hid (BoxXY w.heap.size (w5.setCell ⟨w.heap.size,1,none⟩ (.slice ad5 nc cap5)) (.slice ad j cap) (.slice ad5 nc cap5) (.int .i64 st) (.int .i64 wh)):=HX5.set1 _
   have HB6:Hid (Below w.heap.size w (w5.setCell ⟨w.heap.size,1,none⟩ (.slice ad5 nc cap5))):=(HB.out.trans (hb5.mono HB.out.size)).setCell (Nat.le_refl _) _
   have HS6:Hid (wr.heap.size≤(w5.setCell ⟨w.heap.size,1,none⟩ (.slice ad5 nc cap5)).heap.size):=by
    show _≤_
    have:=hb5.size;simp[World.setCell];omega
   have HK6:Hid (∀k,w.heap.size+2≤k→k<wr.heap.size→(w5.setCell ⟨w.heap.size,1,none⟩ (.slice ad5 nc cap5)).heap[k]?=wr.heap[k]?):=fun k h1 h2=>(Below.heap_setCell w5 _ _ _ (by show ¬k=w.heap.size;omega)).trans (hb5.block k h2)
   have HC6:Hid (CCs wr.heap.size w (w5.setCell ⟨w.heap.size,1,none⟩ (.slice ad5 nc cap5)) S.cs (.slice ad5 nc cap5) nc us5 0):=by
    obtain⟨k1,k2,k3⟩:=HU5.out
    exact⟨ownsRow_setCell_below k2 (by show w.heap.size<_;have:=HS.out;omega) _,fun i hi=>absurd hi (Nat.not_lt_zero _),fun i _ hi=>k3 i hi,fun i k u u' b hi=>absurd hi (Nat.not_lt_zero _)⟩
   generalize w5.setCell ⟨w.heap.size,1,none⟩ (.slice ad5 nc cap5)=w6 at *
   clear y0 y1 y2 y3 y41 z0 z1 z2 z3 z41 hb5 HX5 HX HU5 HB HD
   generalize wr=V at *
   go_loopw [35] (fun q wr=>∃(k:Nat) (xs:List Value),k≤nc∧q=.int .i64 k∧Hid (Below w.heap.size w wr)∧Hid (BoxXY w.heap.size wr (.slice ad j cap) (.slice ad5 nc cap5) (.int .i64 st) (.int .i64 wh))∧Hid (CCs V.heap.size w wr S.cs (.slice ad5 nc cap5) nc xs k)∧Hid (V.heap.size≤wr.heap.size)∧Hid (∀k,w.heap.size+2≤k→k<V.heap.size→wr.heap[k]?=V.heap[k]?)) (fun q _=>nc - (intOf q).toNat)
   case atStart=>exact⟨0,us5,by omega,rfl,HB6,HX6,HC6,HS6,HK6⟩
   case round =>
    clear HB6 HX6 HC6 HS6 HK6
    obtain⟨k,xs,hk,rfl,HB,HX,HJ,HT,HK⟩:=hrel
    by_cases hlt:k<nc
    ·obtain⟨g,cap',cur,hv,hgB,hgg,_⟩:∃g cap' cur,(.slice ad5 nc cap5:Value)=.slice (some ⟨g,0,none⟩) nc cap'∧V.heap.size≤g∧wr.heap[g]?=some (.cells cur 35 (0,0))∧True:=by
      rcases HJ.out.row.2 with⟨h0,_⟩|⟨g,cap',cur,hv,hg,hh,_⟩
      ·cases h0;omega
      ·exact⟨g,cap',cur,hv,hg,hh,trivial⟩
     cases hv
     obtain⟨y0,y1,y2,y3,y4⟩:=HX.out.at
     have hxl:=HJ.out.row.1
     obtain⟨u,k0,k1⟩:=HJ.out.old k (Nat.le_refl _) hlt
     have c2:wr.cell? ⟨g,k,none⟩=some u:=(HJ.out.row.cellAt k (by omega)).trans k0
     have hfz:wr.frozen? ⟨g,k,none⟩=false:=by unfold World.frozen?;rw[hgg];simp
     have HC2:=HC.out.2 k hlt
     obtain⟨Lk,hLk⟩:∃L,S.cs.getD k []=L:=⟨_,rfl⟩
     rw[hLk]at k1 HC2
     have HLk:Hid (S.cs.getD k []=Lk):=hLk
     clear hLk
     have HRj:Hid (∀wi,Below w.heap.size w wi→Calls Tryz.prog 99 #[u] wi fun e w'=>∃ad cap,e=.returned (.slice ad Lk.length cap)∧Hid (VRow wi.heap.size w' (.slice ad Lk.length cap) Lk)∧Below wi.heap.size wi w'):=fun wi hb=>HRow.out _ _ wi (ValsAt.below k1 hb) HC2
     have hgl:g<wr.heap.size:=(Array.getElem?_eq_some_iff.1 hgg).1
     have hus:∃a n c,u=.slice a n c:=by
      obtain⟨a,c,e2,_⟩:=k1
      exact⟨a,_,c,e2⟩
     obtain⟨ua,un,uc,rfl⟩:=hus
     have hki:(k:Int)<(nc:Int):=by omega
     have hn24:=HC.out.1
     have HBd:Hid (Below w.heap.size w wr.drew):=HB.out.drew
     have HVw:Hid (w.heap.size+2≤V.heap.size):=HS
     have HKS:Hid (∀wi:World,(∀k,k<wr.heap.size→¬k=g→wi.heap[k]?=wr.heap[k]?)→wi.cell? ⟨w.heap.size,1,none⟩=some (.slice (some ⟨g,0,none⟩) nc cap5)):=fun wi hkk=>by
      have hs:=HVw.out
      have ht:=HT.out
      refine (World.cell?_of_block (w:=wr) (a:=⟨w.heap.size,1,none⟩) ?_).trans y1
      exact hkk _ (by show w.heap.size<_;omega) (by show ¬w.heap.size=g;omega)
     clear k0 k1 hgg hxl y0 y2 y3 y4 HC2
     go_upto_region 11 with (fail)
     go_region_held3 (fun w'=>w'.cell? ⟨w.heap.size,1,none⟩=some (.slice (some ⟨g,0,none⟩) nc cap5))
      (first
       | exact HKS.out _ (fun k _ _=>rfl)
       | exact HKS.out _ (fun k hk _=>hb3.block k hk)
       | exact HKS.out _ (fun k hk hg=>(Below.heap_setCell _ _ _ k hg).trans (hb3.block k hk)))
      (first
       | (go_at_call 99;refine (HRj.out _ HBd.out).mono ?_;rintro e w3 ⟨ad3,cap3,rfl,HV3,hb3⟩;have hst1:w3.cell? ⟨g,k,none⟩=some (.slice ua un uc):=(hb3.cell (p:=⟨g,k,none⟩) hgl).trans c2;have hst2:w3.frozen? ⟨g,k,none⟩=false:=(hb3.frozen (p:=⟨g,k,none⟩) hgl).trans hfz))
     all_goals
      have hbx:Below wr.heap.size wr w3:=(Below.refl _ _).drew.trans hb3
      have HN1:Hid (Below w.heap.size w (w3.setCell ⟨g,k,none⟩ (.slice ad3 Lk.length cap3))):=(HB.out.trans (hbx.mono HB.out.size)).setCell (by show w.heap.size≤g;have:=HVw.out;omega) _
      have HN2:Hid (BoxXY w.heap.size (w3.setCell ⟨g,k,none⟩ (.slice ad3 Lk.length cap3)) (.slice ad j cap) (.slice (some ⟨g,0,none⟩) nc cap5) (.int .i64 st) (.int .i64 wh)):=HX.out.keep fun i _ _=>(Below.heap_setCell w3 _ _ _ (by show ¬i=g;have:=HVw.out;omega)).trans (hbx.block i (by have:=HVw.out;have:=HT.out;omega))
      have HN3:Hid (CCs V.heap.size w (w3.setCell ⟨g,k,none⟩ (.slice ad3 Lk.length cap3)) S.cs (.slice (some ⟨g,0,none⟩) nc cap5) nc (xs.set k (.slice ad3 Lk.length cap3)) (k+1)):=HJ.out.step hlt hbx HT.out (by rw[HLk.out];exact HV3.out) (Nat.le_refl _)
      have HN4:Hid (V.heap.size≤(w3.setCell ⟨g,k,none⟩ (.slice ad3 Lk.length cap3)).heap.size):=by
       show _≤_
       have:=hbx.size;have:=HT.out;simp[World.setCell];omega
      have HN5:Hid (∀i,w.heap.size+2≤i→i<V.heap.size→(w3.setCell ⟨g,k,none⟩ (.slice ad3 Lk.length cap3)).heap[i]?=V.heap[i]?):=fun i h1 h2=>((Below.heap_setCell w3 _ _ _ (by show ¬i=g;omega)).trans (hbx.block i (by have:=HT.out;omega))).trans (HK.out i h1 h2)
      clear hb3 HV3 hst1 hst2 hbx HKS HBd HRj HJ HX HB HT HK y1 c2 hfz hgl
      generalize w3.setCell ⟨g,k,none⟩ (.slice ad3 Lk.length cap3)=w4 at *
      go_wp2
      go_roundw
      case rel=>exact⟨k+1,_,by omega,by go_num,HN1,HN2,HN3,HN4,HN5⟩
      case measure=>simp[intOf];omega
    ·obtain rfl:k=nc:=by omega
     obtain⟨y0,y1,y2,y3,y4⟩:=HX.out.at
     have HO0:Hid (Own (w.heap.size+2) wr (.slice ad j cap) (.slice ad5 k cap5) vs xs S):=own_of HI.out HJ.out HNF.out HNC.out HS.out (Nat.le_refl _) HK.out
     clear HI HJ HK HNF HNC
     obtain⟨z0,z1,z2,z3,z4⟩:=HX.out.2.at
     have z40:=z4 0
     have z41:=z4 1
     have z42:=z4 2
     have z43:=z4 3
     clear z4 y4
     have HF4:Hid (((((wr.setCell ⟨w.heap.size+1,0,none⟩ (.slice ad j cap)).setCell ⟨w.heap.size+1,1,none⟩ (.slice ad5 k cap5)).setCell ⟨w.heap.size+1,2,none⟩ (.int .i64 st)).setCell ⟨w.heap.size+1,3,none⟩ (.int .i64 wh)).heap[w.heap.size+1]?=some (.cells #[.slice ad j cap,.slice ad5 k cap5,.int .i64 st,.int .i64 wh] 26 (0,0))):=by
      have h0:=HX.out.2
      unfold Box4 at h0
      have h1:=heap_setCell_same wr (w.heap.size+1) 0 _ _ (.slice ad j cap) h0
      have h2:=heap_setCell_same _ (w.heap.size+1) 1 _ _ (.slice ad5 k cap5) h1
      have h3:=heap_setCell_same _ (w.heap.size+1) 2 _ _ (.int .i64 st) h2
      have h4:=heap_setCell_same _ (w.heap.size+1) 3 _ _ (.int .i64 wh) h3
      exact h4
     have HO2:Hid (Own w.heap.size (((((wr.setCell ⟨w.heap.size+1,0,none⟩ (.slice ad j cap)).setCell ⟨w.heap.size+1,1,none⟩ (.slice ad5 k cap5)).setCell ⟨w.heap.size+1,2,none⟩ (.int .i64 st)).setCell ⟨w.heap.size+1,3,none⟩ (.int .i64 wh))) (.slice ad j cap) (.slice ad5 k cap5) vs xs S):=by
      refine (HO0.out.stay fun i h1 _=>?_).lower (by omega)
      rw[Below.heap_setCell _ _ _ _ (by show ¬i=w.heap.size+1;omega),Below.heap_setCell _ _ _ _ (by show ¬i=w.heap.size+1;omega),Below.heap_setCell _ _ _ _ (by show ¬i=w.heap.size+1;omega),Below.heap_setCell _ _ _ _ (by show ¬i=w.heap.size+1;omega)]
     have HB4:Hid (Below w.heap.size w (((((wr.setCell ⟨w.heap.size+1,0,none⟩ (.slice ad j cap)).setCell ⟨w.heap.size+1,1,none⟩ (.slice ad5 k cap5)).setCell ⟨w.heap.size+1,2,none⟩ (.int .i64 st)).setCell ⟨w.heap.size+1,3,none⟩ (.int .i64 wh)))):=(((HB.out.setCell (by show w.heap.size≤w.heap.size+1;omega) _).setCell (by show w.heap.size≤w.heap.size+1;omega) _).setCell (by show w.heap.size≤w.heap.size+1;omega) _).setCell (by show w.heap.size≤w.heap.size+1;omega) _
     clear HO0 HX HB HRow HR HC
     go_wp2
     refine bodyPost_ret (results_cell_row rfl _ _ (w.heap.size+1) 26 _ (0,0) _ rfl HF4.out Tryz.underlying26 rfl (by kernel_rfl)) rfl ?_
     exact⟨_,_,_,_,rfl,HO2,HB4.out⟩
theorem copied {np:Nat} {P:Nat→Pc} (S:Sta) (fv cv:Value) (w:World) (h:StaAt w fv cv S) (hc:CodeOK np P) (hs:StaOK np P S) :
  Calls Tryz.prog 45 #[.agg #[fv,cv,.int .i64 S.st,.int .i64 S.wh]] w fun e w'=>∃fv' cv' rv xv,e=.returned (.agg #[fv',cv',.int .i64 S.st,.int .i64 S.wh])∧Hid (Own w.heap.size w' fv' cv' rv xv S)∧Below w.heap.size w w':=by
 obtain⟨h1,h2⟩:=h
 have h1':=h1
 have h2':=h2
 obtain⟨fa,fc,rfl,_⟩:=h1'
 obtain⟨ca,cc,rfl,_⟩:=h2'
 refine copied1 S fa ca _ _ fc cc S.st S.wh w h1 h2 rfl rfl hs.few hs.cn (fun i hi=>?_) fun i hi=>?_
 ·have k:=hs.frames i hi
  have:=hc.r1 (fmAt S.fs i).proc.toNat (by have:=k.p0;have:=k.p1;omega)
  have:=k.len
  omega
 ·have:=hs.cells.hi _ (getD_mem (d:=[]) hi)
  omega
end Go.Proofs.YtfaokaohhchdhaaGreatDoor
