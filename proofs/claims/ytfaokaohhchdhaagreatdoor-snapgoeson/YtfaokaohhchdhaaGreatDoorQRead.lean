/- SourceRead of the reckoning, followed. -/
import Derived.Test.YtfaokaohhchdhaaGreatDoorPart44
namespace Go.Proofs.YtfaokaohhchdhaaGreatDoor
open Go.RowKit Go.Maps
set_option maxRecDepth 20000 in
set_option maxHeartbeats 4000000 in
theorem sourceRead (N D:Nat) (s:ByteArray) (hs:s.size≤60000) (hD:6≤D) (w:World) (hN:N≤w.heap.size) (he:Env N w) (hsp:Spc N w) :
  Calls Tryz.prog 104 #[.string s] w fun e w'=>((Hid (rqGood D s)∧∃v,e=.returned (.tuple #[v,.int .i64 0])∧Hid (RqAt D s w' v))∨(Hid (¬rqGood D s)∧e=.returned (.tuple #[.slice none 0 0,.int .i64 1])))∧Below w.heap.size w w':=by
 have hmax:=wordsOf_max s
 have hsm:=wordsOf_small s
 have HSp:=split_run N s hs w he
 obtain⟨ws,hws⟩:∃ws,wordsOf s=ws:=⟨_,rfl⟩
 have HWS:Hid (wordsOf s=ws):=hws
 rw[hws]at hmax hsm HSp
 clear hws
 obtain⟨L,hL⟩:∃L,ws.length=L:=⟨_,rfl⟩
 rw[hL]at HSp
 have hL6:L≤60001:=by omega
 have HL:Hid (ws.length=L):=hL
 have HSm:Hid (∀x ∈ ws,x.size≤s.size):=hsm
 have HS2:Hid (Calls Tryz.prog 89 #[.string s,.string (bs [32])] w fun e w'=>e=.returned (.slice (some ⟨w.heap.size,0,none⟩) L L)∧w'=w.alloc (.cells (ws.map Value.string).toArray 9)):=HSp
 have HE:Hid (Env N w):=he
 have HSpc:Hid (Spc N w):=hsp
 clear he hsp HSp hsm hmax hL
 go_enter Tryz.func104,Tryz.ntmps104
 go_upto_region 4 with (first
  | (go_at_call 89;refine HS2.out.mono ?_;rintro e w1 ⟨rfl,h1⟩;rw[h1];clear h1))
 have hz1:(w.alloc (.cells (ws.map Value.string).toArray 9)).heap.size=w.heap.size+1:=by simp
 have hz2:((w.alloc (.cells (ws.map Value.string).toArray 9)).alloc (.cells #[.slice (some ⟨w.heap.size,0,none⟩) L L] 127)).heap.size=w.heap.size+1+1:=by simp
 have B1:=below_alloc w (.cells (ws.map Value.string).toArray 9)
 have B2:=below_alloc (w.alloc (.cells (ws.map Value.string).toArray 9)) (.cells #[.slice (some ⟨w.heap.size,0,none⟩) L L] 127)
 have B3:=below_alloc ((w.alloc (.cells (ws.map Value.string).toArray 9)).alloc (.cells #[.slice (some ⟨w.heap.size,0,none⟩) L L] 127)) (.cells #[.slice none 0 0] 51)
 rw[hz1]at B2
 rw[hz2]at B3
 have hc5:=(MapKept.heap_alloc ((w.alloc (.cells (ws.map Value.string).toArray 9)).alloc (.cells #[.slice (some ⟨w.heap.size,0,none⟩) L L] 127)) (.cells #[.slice none 0 0] 51)).1
 rw[hz2]at hc5
 have HC4:Hid (∀wi,Below (w.heap.size+1+1) (((w.alloc (.cells (ws.map Value.string).toArray 9)).alloc (.cells #[.slice (some ⟨w.heap.size,0,none⟩) L L] 127)).alloc (.cells #[.slice none 0 0] 51)) wi→wi.cell? ⟨w.heap.size+1,0,none⟩=some (.slice (some ⟨w.heap.size,0,none⟩) L L)∧∀j y,ws[j]?=some y→wi.cell? ⟨w.heap.size,j,none⟩=some (.string y)):=fun wi hb=>by
  have B23:=B3.trans hb
  constructor
  ·rw[B23.cell (p:=⟨w.heap.size+1,0,none⟩) (by show w.heap.size+1<_;omega)]
   have:=(MapKept.heap_alloc (w.alloc (.cells (ws.map Value.string).toArray 9)) (.cells #[.slice (some ⟨w.heap.size,0,none⟩) L L] 127)).1
   rw[hz1]at this
   unfold World.cell?;rw[this];rfl
  ·intro j y hy
   rw[(B2.trans (B23.mono (by omega))).cell (p:=⟨w.heap.size,j,none⟩) (by show w.heap.size<_;omega),World.cell?_alloc_new]
   rw[List.getElem?_toArray,List.getElem?_map,hy];rfl
 have HBw:Hid (∀wi,Below (w.heap.size+1+1) (((w.alloc (.cells (ws.map Value.string).toArray 9)).alloc (.cells #[.slice (some ⟨w.heap.size,0,none⟩) L L] 127)).alloc (.cells #[.slice none 0 0] 51)) wi→Below w.heap.size w wi):=fun wi hb =>
  B1.trans ((B2.mono (by omega)).trans ((B3.trans hb).mono (by omega)))
 have HH0:Hid (HdS (w.heap.size+1+1) (((w.alloc (.cells (ws.map Value.string).toArray 9)).alloc (.cells #[.slice (some ⟨w.heap.size,0,none⟩) L L] 127)).alloc (.cells #[.slice none 0 0] 51)) (((w.alloc (.cells (ws.map Value.string).toArray 9)).alloc (.cells #[.slice (some ⟨w.heap.size,0,none⟩) L L] 127)).alloc (.cells #[.slice none 0 0] 51)) (.slice none 0 0) []):=⟨⟨rfl,Or.inl ⟨rfl,rfl⟩⟩,hc5,Below.refl _ _⟩
 clear hz1 hz2 B1 B2 B3 hc5 HS2
 generalize ((w.alloc (.cells (ws.map Value.string).toArray 9)).alloc (.cells #[.slice (some ⟨w.heap.size,0,none⟩) L L] 127)).alloc (.cells #[.slice none 0 0] 51)=WS at *
 obtain⟨x5,hx5⟩:∃x5,w.heap.size+1+1=x5:=⟨_,rfl⟩
 rw[hx5]at HC4 HBw HH0 ⊢
 have HX5:Hid (w.heap.size+1+1=x5):=hx5
 have hx5b:w.heap.size+1<x5:=by omega
 clear hx5
 go_loopw [24] (fun i wr=>∃(j:Nat) (acc:List (Int×Int)) (v:Value),j≤L∧i=.int .i64 j∧acc.length≤j∧Hid (HdS x5 WS wr v acc)∧Hid (headsQ ws=acc++headsQ (ws.drop j))) (fun i _=>L - (intOf i).toNat)
 case atStart=>exact⟨0,[],_,by omega,rfl,by simp,HH0,(by show _=_;simp)⟩
 case round =>
  obtain⟨j,acc,v,hj0,rfl,hal,HH,HX⟩:=hrel
  obtain⟨hc4,hcw⟩:=HC4.out wr HH.out.low
  obtain⟨p5,f5⟩:=HH.out.c0
  by_cases hj:j<L
  ·obtain⟨x,hx⟩:∃x,ws[j]?=some x:=⟨_,List.getElem?_eq_getElem (by rw[HL.out];exact hj)⟩
   have q0:=hcw j x hx
   have hji:(j:Int)<(L:Int):=by omega
   have hj6:(j:Int)≤60001:=by omega
   by_cases hfu:x=funW
   ·have hxb:(x.toList == [102,117,110])=true:=by rw[funEq];simp[hfu]
    by_cases h2:j+2<L
    ·have h2i:(j:Int)+2<(L:Int):=by omega
     obtain⟨y1,hy1⟩:∃y,ws[j+1]?=some y:=⟨_,List.getElem?_eq_getElem (by rw[HL.out];omega)⟩
     obtain⟨y2,hy2⟩:∃y,ws[j+2]?=some y:=⟨_,List.getElem?_eq_getElem (by rw[HL.out];omega)⟩
     have r1:=hcw (j+1) y1 hy1
     have r2:=hcw (j+2) y2 hy2
     have HX2:Hid (headsQ ws=(acc++[(atoiV y1.data.toList,atoiV y2.data.toList)])++headsQ (ws.drop (j+1))):=by
      show _=_
      rw[HX.out,headsQ_hit hx hfu (by rw[HL.out];exact h2),numR_at hy1,List.tail_drop,numR_at hy2];simp
     have HAt:Hid (∀y wi,(y=y1∨y=y2)→Below x5 WS wi→Calls Tryz.prog 142 #[.string y] wi fun e w'=>∃er,e=.returned (.tuple #[.int .i64 (atoiV y.data.toList),er])∧Below wi.heap.size wi w'):=fun y wi hy hb=>by
      have hsz:y.size≤s.size:=by
       rcases hy with rfl|rfl
       ·exact HSm.out _ (List.mem_of_getElem? hy1)
       ·exact HSm.out _ (List.mem_of_getElem? hy2)
      exact atoi N y (by omega) wi (HE.out.below ((HBw.out wi hb).mono hN))
     have HWc:Hid (∀wi,Below x5 WS wi→wi.cell? ⟨w.heap.size+1,0,none⟩=some (.slice (some ⟨w.heap.size,0,none⟩) L L)∧wi.cell? ⟨w.heap.size,j+2,none⟩=some (.string y2)):=fun wi hb=>⟨(HC4.out wi hb).1,(HC4.out wi hb).2 _ _ hy2⟩
     obtain⟨m,hm⟩:∃m,(acc++[(atoiV y1.data.toList,atoiV y2.data.toList)]).length=m:=⟨_,rfl⟩
     have HM:Hid ((acc++[(atoiV y1.data.toList,atoiV y2.data.toList)]).length=m):=hm
     have hxw:w.heap.size<x5:=by omega
     clear hfu hx hy1 hy2 hcw HX h2 hm
     go_wp2_with (first
      | (go_at_call 142;have _:=b1;refine (HAt.out y2 w1 (Or.inr rfl) H1.low).mono ?_;rintro e w2 ⟨er2,rfl,b2⟩;have H2:=H1.keep b2;obtain⟨p5,f5⟩:=H2.c0)
      | (go_at_call 142;refine (HAt.out y1 wr (Or.inl rfl) HH.out.low).mono ?_;rintro e w1 ⟨er1,rfl,b1⟩;have H1:=HH.out.keep b1;obtain⟨g4,g2⟩:=HWc.out w1 H1.low)
      | (at_builtin;refine append_head w2 rfl _ _ rfl (x5+1) v acc _ _ rfl H2.fs _ _ rfl rfl (by omega) H2.lt ?_;intro v3 w3 H3 G3;obtain⟨ad,cp,hv3⟩:=own_shape H3.out;rw[HM.out]at hv3;subst hv3;obtain⟨hc3,hlow3,p5,f5⟩:=H2.grown G3.out))
     go_roundw
     case rel=>exact⟨j+1,_,_,by omega,by go_num,by simp;omega,H2.put H3.out G3.out,HX2⟩
     case measure=>simp[intOf];omega
    ·have h2i:¬(j:Int)+2<(L:Int):=by omega
     have HX2:Hid (headsQ ws=acc++headsQ (ws.drop (j+1))):=by
      show _=_
      rw[HX.out,headsQ_miss hx (fun h=>h2 (by have:=h.2;rw[HL.out]at this;exact this))]
     clear hfu hx hcw HX h2
     go_wp2_with fail
     go_roundw
     case rel=>exact⟨j+1,_,_,by omega,by go_num,by omega,HH,HX2⟩
     case measure=>simp[intOf];omega
   ·have hxb:(x.toList == [102,117,110])=false:=by rw[funEq];simp[hfu]
    have HX2:Hid (headsQ ws=acc++headsQ (ws.drop (j+1))):=by
     show _=_
     rw[HX.out,headsQ_miss hx (fun h=>hfu h.1)]
    clear hfu hx hcw HX
    go_wp2_with fail
    go_roundw
    case rel=>exact⟨j+1,_,_,by omega,by go_num,by omega,HH,HX2⟩
    case measure=>simp[intOf];omega
  ·obtain rfl:j=L:=by omega
   have hacc:headsQ ws=acc:=by
    rw[HX.out,List.drop_eq_nil_of_le (by rw[HL.out];exact Nat.le_refl _)]
    simp[headsQ]
   obtain⟨nf,hnf⟩:∃nf,rqN ws=nf:=⟨_,rfl⟩
   have hnf2:acc.length=nf:=by rw[←hnf,rqN,hacc]
   obtain⟨fa,fc,hv⟩:=own_shape HH.out.fs
   rw[hnf2]at hv
   subst hv
   have HFO:Hid (FunsOwn (x5+1) wr.heap.size wr (.slice fa nf fc) nf (rqP ws) (rqL ws) (fun _ => .slice none 0 0)):=by
    have:=HH.out.fs.own3 (by omega)
    rw[hnf2]at this
    unfold rqP rqL
    rw[hacc]
    exact this
   have HNf:Hid (rqN ws=nf):=hnf
   have hlow:=HH.out.low
   have hlt:=HH.out.lt
   clear hacc hnf hnf2 HX HH hal hcw hj
   by_cases hn0:nf=0
   ·have HB:Hid (¬rqGood D s):=fun h=>by
     have:=h.1.1
     rw[HWS.out,HNf.out]at this
     omega
    subst hn0
    go_wp2_with fail
    go_ret2
    exact⟨Or.inr ⟨HB,rfl⟩,HBw.out _ hlow⟩
   have hn0i:((nf:Int) == 0)=false:=by simp;omega
   by_cases hn4:4<nf
   ·have HB:Hid (¬rqGood D s):=fun h=>by
     have:=h.1.2
     rw[HWS.out,HNf.out]at this
     omega
    have hn4i:(4:Int)<(nf:Int):=by omega
    go_wp2_with fail
    go_ret2
    exact⟨Or.inr ⟨HB,rfl⟩,HBw.out _ hlow⟩
   have hn4i:¬(4:Int)<(nf:Int):=by omega
   go_upto_region 14 with (fail)
   generalize wr=W1 at *
   obtain⟨g,rfl⟩:∃g,fa=some ⟨g,0,none⟩:=by
    obtain⟨a,cp,e,_,h|⟨g2,cur,rfl,_⟩⟩:=HFO.out
    ·omega
    ·cases e;exact⟨g2,rfl⟩
   have HC5:Hid (W1.cell? ⟨x5,0,none⟩=some (.slice (some ⟨g,0,none⟩) nf fc)):=p5
   clear p5 f5 hc4
   go_loopw [73] (fun i wr=>∃k:Nat,k≤nf∧i=.int .i64 k∧Below W1.heap.size W1 wr∧Hid (∀x,x<k→parErr (rqP ws x)=0)) (fun i _=>nf - (intOf i).toNat)
   case atStart=>exact⟨0,by omega,rfl,Below.refl _ _,fun x hx=>absurd hx (Nat.not_lt_zero _)⟩
   case round =>
    obtain⟨k,hk0,rfl,hbw,HAll⟩:=hrel
    by_cases hk:k<nf
    ·obtain⟨c0,c1,c2,hgB,hgX⟩:=HFO.out.cells hk
     rw[←hbw.cell (p:=⟨g,k*3,none⟩) hgX]at c0
     rw[←hbw.cell (p:=⟨g,k*3+1,none⟩) hgX]at c1
     rw[←hbw.cell (p:=⟨g,k*3+2,none⟩) hgX]at c2
     have hki:(k:Int)<(nf:Int):=by omega
     by_cases hpe:parErr (rqP ws k)=0
     ·have hpr:=parErr_zero hpe
      have HIn:Hid (∀wi,Calls Tryz.prog 48 #[.int .i64 (rqP ws k),.int .i64 0,.int .i64 3] wi fun e w'=>e=.returned (.bool true)∧w'=wi):=fun wi=>by
       have:=inRange (rqP ws k) 0 3 wi
       rw[show decide (0≤rqP ws k∧rqP ws k≤3)=true by simp;omega]at this
       exact this
      have HPe:Hid (parErr (rqP ws k)=0):=hpe
      clear hpe hpr
      go_wp2_with (first
       | (go_at_call 48;refine (HIn.out _).mono ?_;rintro e w2 ⟨rfl,h2⟩;rw[h2];clear h2))
      go_roundw
      case rel =>
       refine⟨k+1,by omega,by go_num,hbw.alloc hbw.size _,fun x hx=>?_⟩
       by_cases e:x=k
       ·subst e;exact HPe.out
       ·exact HAll.out x (by omega)
      case measure=>simp[intOf];omega
     ·have hB:Hid (¬rqGood D s):=fun h=>by
       have:=h.2.1 k (by rw[HWS.out,HNf.out];exact hk)
       rw[HWS.out]at this
       exact hpe this
      have HIn:Hid (∀wi,Calls Tryz.prog 48 #[.int .i64 (rqP ws k),.int .i64 0,.int .i64 3] wi fun e w'=>e=.returned (.bool false)∧w'=wi):=fun wi=>by
       have:=inRange (rqP ws k) 0 3 wi
       rw[show decide (0≤rqP ws k∧rqP ws k≤3)=false by
        rw[decide_eq_false_iff_not]
        intro hh
        apply hpe
        unfold parErr
        rw[if_neg (by omega)]]at this
       exact this
      clear hpe
      go_wp2_with (first
       | (go_at_call 48;refine (HIn.out _).mono ?_;rintro e w2 ⟨rfl,h2⟩;rw[h2];clear h2))
      go_ret2
      exact⟨Or.inr ⟨hB,rfl⟩,(HBw.out _ hlow).trans ((hbw.alloc hbw.size _).mono (by have:=(HBw.out _ hlow).size;omega))⟩
    ·obtain rfl:k=nf:=by omega
     have hb1:Below w.heap.size w W1:=HBw.out _ hlow
     have hz1:=hb1.size
     have hz2:=hbw.size
     have hbW:Below w.heap.size w wr:=hb1.trans (hbw.mono hz1)
     have HFO2:Hid (FunsOwn (x5+1) W1.heap.size wr (.slice (some ⟨g,0,none⟩) k fc) k (rqP ws) (rqL ws) (fun _ => .slice none 0 0)):=HFO.out.keep fun b hb=>hbw.block b hb
     obtain⟨_,_,_,hgB,hgX⟩:=HFO.out.cells (i:=0) (by omega)
     have hlow2:Below x5 WS wr:=hlow.trans (hbw.mono (by omega))
     obtain⟨hc4,hcw⟩:=HC4.out wr hlow2
     have hc5:wr.cell? ⟨x5,0,none⟩=some (.slice (some ⟨g,0,none⟩) k fc):=by
      rw[hbw.cell (p:=⟨x5,0,none⟩) hlt];exact HC5.out
     have HQ0:Hid (QR (qcOf N wr.heap.size w.heap.size (w.heap.size+1) x5 ws (.slice (some ⟨g,0,none⟩) k fc) k (rqP ws)) (qcW wr (w.heap.size+1) x5) (ws,true)) :=
      qr_start (HE.out.below (hbW.mono hN)) (HSpc.out.below (hbW.mono hN)) (by omega) hc4 HL.out hcw (by omega) (fun y hy=>by have:=HSm.out y hy;omega) (by omega) hc5 (HFO2.out.at_ (by omega) (fun _ _=>⟨_,_,_,rfl⟩)) (fun i hi=>HAll.out i hi) (by omega)
     have hbq:Below wr.heap.size wr (qcW wr (w.heap.size+1) x5):=(five_at wr _ _ _ _ _).1
     have HBq:Hid (Below wr.heap.size wr (qcW wr (w.heap.size+1) x5)):=hbq
     have HFO3:Hid (FunsOwn (x5+1) W1.heap.size (qcW wr (w.heap.size+1) x5) (.slice (some ⟨g,0,none⟩) k fc) k (rqP ws) (rqL ws) (fun _ => .slice none 0 0)):=HFO2.out.keep fun b hb=>hbq.block b (by omega)
     have HPar:Hid (∀x,x<k→parErr (rqP ws x)=0):=HAll
     clear hbq hc4 hcw hc5 HFO2 HFO HAll
     go_upto_region 25 with (fail)
     show Code.wp _ _ _ _ (qcW wr (w.heap.size+1) x5)
     generalize qcW wr (w.heap.size+1) x5=Q0 at *
     obtain⟨A,hA⟩:∃A,wr.heap.size=A:=⟨_,rfl⟩
     rw[hA]at HQ0 HBq hz2 ⊢
     have hbQ:Below w.heap.size w Q0:=by
      have:=HBq.out
      rw[←hA]at this
      exact hbW.trans (this.mono hbW.size)
     obtain⟨c,hc⟩:∃c,c=qcOf N A w.heap.size (w.heap.size+1) x5 ws (.slice (some ⟨g,0,none⟩) k fc) k (rqP ws):=⟨_,rfl⟩
     rw[←hc]at HQ0
     have HWd:Hid (∀wi q,QR c wi q→Calls Tryz.prog 143 #[.pointer (some ⟨A,0,none⟩),.pointer (some ⟨w.heap.size+1,0,none⟩),.pointer (some ⟨A+1,0,none⟩)] wi fun e w'=>e=.returned (.string (hdW q.1))∧Hid (QR c w' (wordQ q))∧Sv A wi w'):=by
      subst hc;exact fun wi q h=>wordR _ wi q h
     have HBl:Hid (∀wi q,QR c wi q→Calls Tryz.prog 149 #[.int .i64 1,.pointer (some ⟨A+1+1,0,none⟩),.pointer (some ⟨A+1,0,none⟩),.pointer (some ⟨A+1+1+1,0,none⟩),.pointer (some ⟨A+1+1+1+1,0,none⟩)] wi fun e w'=>∃v,e=.returned v∧Hid (StmtsIn wi.heap.size w' 6 v (blkQ k (rqP ws) 6 q).1)∧Hid (QR c w' (blkQ k (rqP ws) 6 q).2)∧Sv A wi w'):=by
      subst hc;exact fun wi q h=>qblock _ 6 (by omega) wi q h
     have HCl:Hid (∀wi q,QR c wi q→wi.cell? ⟨A+1+1,0,none⟩=some (.func (.func 143) #[] #[.pointer (some ⟨A,0,none⟩),.pointer (some ⟨w.heap.size+1,0,none⟩),.pointer (some ⟨A+1,0,none⟩)])∧wi.cell? ⟨A+1+1+1+1,0,none⟩=some (.func (.func 149) #[] #[.pointer (some ⟨A+1+1,0,none⟩),.pointer (some ⟨A+1,0,none⟩),.pointer (some ⟨A+1+1+1,0,none⟩),.pointer (some ⟨A+1+1+1+1,0,none⟩)]) ∧
       wi.cell? ⟨x5,0,none⟩=some (.slice (some ⟨g,0,none⟩) k fc)∧wi.cell? ⟨A+1,0,none⟩=some (.bool q.2)∧wi.frozen? ⟨A+1,0,none⟩=false∧A+1+1+1+1<wi.heap.size):=by
      subst hc;exact fun wi q h=>⟨h.st.cw,h.st.cb,h.st.f5,h.okc.1,h.okc.2,h.lts.2.2.2⟩
     have HDn:Hid (∀wi q b,QR c wi q→QR c (wi.setCell ⟨A+1,0,none⟩ (.bool b)) (q.1,b)∧Sv A wi (wi.setCell ⟨A+1,0,none⟩ (.bool b))):=by
      subst hc;exact fun wi q b h=>⟨h.down b,Sv.set A wi (A+1) 0 _ (Or.inr rfl)⟩
     have HPf:Hid (∀wi q i v bv,QR c wi q→FunsAt A (wi.setCell ⟨g,i,none⟩ v) (.slice (some ⟨g,0,none⟩) k fc) k (rqP ws) (rqL ws) bv→QR c (wi.setCell ⟨g,i,none⟩ v) q):=by
      subst hc;exact fun wi q i v bv h hf=>h.putF ⟨by show N≤g;omega,by show w.heap.size<g;omega,by show w.heap.size+1<g;omega,by show x5<g;omega,by show g<A;omega⟩ hf
     have HAt:Hid (∀wi q,QR c wi q→∃n:Nat,n≤j∧q.1=ws.drop n∧wi.cell? ⟨A,0,none⟩=some (.int .i64 n)∧wi.cell? ⟨w.heap.size+1,0,none⟩=some (.slice (some ⟨w.heap.size,0,none⟩) j j)):=by
      subst hc
      intro wi q h
      obtain⟨n,h1,h2,h3⟩:=h.at_
      have h4:=h.st.w4
      have hW:ws.length=j:=HL.out
      refine⟨n,by rw[←hW];exact h1,h2,cell_of h3,?_⟩
      rw[←hW];exact h4
     have HEn:Hid (∀wi q,QR c wi q→Env N wi∧Spc N wi):=by
      subst hc;exact fun wi q h=>⟨h.st.env,h.st.spc⟩
     clear hc hA
     obtain⟨e1,e2,e3,e4,e5,e6⟩:=HCl.out _ _ HQ0.out
     go_upto_region 26 with (fail)
     clear e1 e2 e3 e4 e5 e6
     go_loopw [87] (fun i wi=>∃(n:Nat) (bv:Nat→Value),n≤k∧i=.int .i64 n∧Hid (FunsOwn (x5+1) W1.heap.size wi (.slice (some ⟨g,0,none⟩) k fc) k (rqP ws) (rqL ws) bv)∧Hid (QR c wi (leftQ k (rqP ws) ws n))∧Hid (∀i,i<k→(i<n→StmtsIn (A+5) wi 6 (bv i) (bodyQ k (rqP ws) ws i))∧(¬i<n→bv i=.slice none 0 0))∧Below w.heap.size w wi) (fun i _=>k - (intOf i).toNat)
     case atStart=>exact⟨0,_,by omega,rfl,HFO3,HQ0,(fun i _=>⟨fun h=>absurd h (Nat.not_lt_zero _),fun _=>rfl⟩),hbQ⟩
     case round =>
      obtain⟨n,bv,hn0',rfl,HFn,HQ,HS,hbw2⟩:=hrel
      obtain⟨e1,e2,e3,e4,e5,e6⟩:=HCl.out _ _ HQ.out
      by_cases hn:n<k
      ·have HNx:Hid (leftQ k (rqP ws) ws (n+1)=(blkQ k (rqP ws) 6 (startQ (leftQ k (rqP ws) ws n))).2):=rfl
       have HBn:Hid (bodyQ k (rqP ws) ws n=(blkQ k (rqP ws) 6 (startQ (leftQ k (rqP ws) ws n))).1):=rfl
       generalize leftQ k (rqP ws) ws n=q at *
       have hni:(n:Int)<(k:Int):=by omega
       have HW1:=HWd.out wr q HQ.out
       have HW1':Hid (Calls Tryz.prog 143 #[.pointer (some ⟨A,0,none⟩),.pointer (some ⟨w.heap.size+1,0,none⟩),.pointer (some ⟨A+1,0,none⟩)] wr fun e w'=>e=.returned (.string (hdW q.1))∧Hid (QR c w' (wordQ q))∧Sv A wr w'):=HW1
       clear HW1
       go_upto_if 92 with (first
        | (go_at_call 143;refine HW1'.out.mono ?_;rintro e y1 ⟨rfl,R1,s1⟩))
       go_cut [19] from 88 to 103 (fun i19 wx=>i19=.int .i64 n∧Hid (QR c wx (q.1.tail,q.2 && (!q.1.isEmpty && decide (hdW q.1=funW))))∧Sv A wr wx)
       case first =>
        obtain⟨_,_,_,k0,kf,_⟩:=HCl.out _ _ R1.out
        by_cases hf:hdW q.1=funW
        ·have hx:((hdW q.1).toList == [102,117,110])=true:=by rw[funEq];simp[hf]
         have hx2:((hdW q.1).toList != [102,117,110])=false:=by unfold bne;rw[hx];rfl
         have HR1:Hid (QR c y1 (q.1.tail,q.2 && (!q.1.isEmpty && decide (hdW q.1=funW)))):=by
          have:=R1.out
          unfold wordQ at this
          show QR _ _ _
          simpa[hf]using this
         clear hf hx2
         rw[hx]
         go_wp2_with fail
         go_meet
         exact⟨rfl,HR1,s1⟩
        ·have hx:((hdW q.1).toList == [102,117,110])=false:=by rw[funEq];simp[hf]
         have hx2:((hdW q.1).toList != [102,117,110])=true:=by unfold bne;rw[hx];rfl
         obtain⟨R2,s2⟩:=HDn.out y1 _ false R1.out
         have HR1:Hid (QR c (y1.setCell ⟨A+1,0,none⟩ (.bool false)) (q.1.tail,q.2 && (!q.1.isEmpty && decide (hdW q.1=funW)))):=by
          unfold wordQ at R2
          show QR _ _ _
          simpa[hf]using R2
         clear hf R2 hx2
         rw[hx]
         go_wp2_with fail
         go_meet
         exact⟨rfl,HR1,s1.trans s2⟩
       case rest =>
        obtain⟨rfl,R1',s1'⟩:=hcut
        clear R1 s1
        generalize wc=y2 at *
        obtain⟨d1,_,_,_,_,_⟩:=HCl.out _ _ R1'.out
        have HW2:Hid (Calls Tryz.prog 143 #[.pointer (some ⟨A,0,none⟩),.pointer (some ⟨w.heap.size+1,0,none⟩),.pointer (some ⟨A+1,0,none⟩)] y2 fun e w'=>e=.returned (.string (hdW q.1.tail))∧Hid (QR c w' (wordQ (q.1.tail,q.2 && (!q.1.isEmpty && decide (hdW q.1=funW)))))∧Sv A y2 w'):=HWd.out y2 _ R1'.out
        go_upto_region 31 with (first
         | (go_at_call 143;refine HW2.out.mono ?_;rintro e y3 ⟨rfl,R3,s3⟩))
        obtain⟨d3,_,_,_,_,_⟩:=HCl.out _ _ R3.out
        have HW3:=HWd.out y3 _ R3.out
        go_upto_region 32 with (first
         | (go_at_call 143;refine HW3.mono ?_;rintro e y4 ⟨rfl,R4,s4⟩))
        have R4':Hid (QR c y4 (startQ q)):=R4.out
        have s14:Sv A wr y4:=(s1'.trans s3).trans s4
        obtain⟨_,f2,f3,_,_,f6⟩:=HCl.out _ _ R4'.out
        have HB4:Hid (∀wi,QR c wi (startQ q)→Calls Tryz.prog 149 #[.int .i64 1,.pointer (some ⟨A+1+1,0,none⟩),.pointer (some ⟨A+1,0,none⟩),.pointer (some ⟨A+1+1+1,0,none⟩),.pointer (some ⟨A+1+1+1+1,0,none⟩)] wi fun e w'=>∃v,e=.returned v∧Hid (StmtsIn wi.heap.size w' 6 v (blkQ k (rqP ws) 6 (startQ q)).1)∧Hid (QR c w' (blkQ k (rqP ws) 6 (startQ q)).2)∧Sv A wi w'):=fun wi h=>HBl.out wi _ h
        have HFk:Hid (∀w5,Sv A wr w5→FunsOwn (x5+1) W1.heap.size w5 (.slice (some ⟨g,0,none⟩) k fc) k (rqP ws) (rqL ws) bv):=fun w5 hs=>HFn.out.keep fun b hb=>hs.block b (by omega) (by omega) (by omega)
        have hbv:Hid (bv n=.slice none 0 0):=(HS.out n hn).2 (by omega)
        clear d1 d3 HW2 HW3 HW1' R1' R3 R4 s3 s4 s1' e1 e2 e3 e4 e5
        have hsh:Hid (∀i,i<k→∃x m c,bv i=.slice x m c):=fun i hi=>by
         by_cases hin:i<n
         ·exact ((HS.out i hi).1 hin).shape
         ·exact⟨_,_,_,(HS.out i hi).2 hin⟩
        have f6':Hid (A+5≤y4.heap.size):=by show A+5≤y4.heap.size;omega
        go_region_with (first
         | (go_at_call 149;refine (HB4.out _ (by first|exact R4'.out|exact R4'.out.keep (Below.refl _ _).drew)).mono ?_;rintro e y5 ⟨v5,rfl,Q5,R5,s5⟩;obtain⟨pa,pn,pc,rfl⟩:=Q5.out.shape;have s15:Sv A wr y5:=(by first|exact s14.trans s5|exact (s14.trans (Sv.of (Below.refl _ _).drew)).trans s5);obtain⟨FP,c5,f5,hB5,hX5⟩:=(HFk.out y5 s15).put hn (.slice pa pn pc);rw[hbv.out]at c5;have g3:=(HCl.out _ _ R5.out).2.2.1))
        all_goals (
         go_wp2_with fail
         go_roundw
         case rel =>
          have hf5:Far (A+5) y5 (y5.setCell ⟨g,n*3+2,none⟩ (.slice pa pn pc)):=Far.set _ _ _ _ (by omega)
          refine⟨n+1,putB bv n (.slice pa pn pc),by omega,by go_num,FP,?_,?_,?_⟩
          ·show QR _ _ _
           rw[HNx.out]
           refine HPf.out y5 _ _ _ _ R5.out (FP.at_ (by omega) fun i hi=>?_)
           unfold putB
           split
           ·exact⟨_,_,_,rfl⟩
           ·exact hsh.out i hi
          ·intro i hi
           refine⟨fun hlt'=>?_,fun hge=>?_⟩
           ·unfold putB
            by_cases e:i=n
            ·subst e
             rw[if_pos rfl,HBn.out]
             exact (Q5.out.low (show A+5≤y4.heap.size from f6'.out)).far (Nat.le_refl _) (by omega) hf5
            ·rw[if_neg e]
             exact (((HS.out i hi).1 (by omega)).far (Nat.le_refl _) (by omega) (s15.far (by omega))).far (Nat.le_refl _) (by omega) hf5
           ·unfold putB
            rw[if_neg (by omega)]
            exact (HS.out i hi).2 (by omega)
          ·exact Below.setCell (hbw2.trans (s15.low (by omega) hbw2.size)) (by show w.heap.size≤g;omega) _
         case measure=>simp[intOf];omega)
      ·obtain rfl:n=k:=by omega
       have hsh:∀i,i<n→∃x m c,bv i=.slice x m c:=fun i hi=>((HS.out i hi).1 hi).shape
       have HFA:Hid (FunsAt wr.heap.size wr (.slice (some ⟨g,0,none⟩) n fc) n (rqP ws) (rqL ws) bv):=HFn.out.at_ (by omega) hsh
       have HSA:Hid (∀i,i<n→StmtsAt wr.heap.size wr D (bv i) (bodyQ n (rqP ws) ws i)):=fun i hi=>(((HS.out i hi).1 hi).le hD).stmts
       have HCk:Hid (∀wi,Below wr.heap.size wr wi→Calls Tryz.prog 152 #[.slice (some ⟨g,0,none⟩) n fc] wi fun e w'=>e=.returned (.int .i64 (progErr n (rqP ws) (rqL ws) D (bodyQ n (rqP ws) ws)))∧Below wi.heap.size wi w'):=fun wi hb =>
        refCheck wr.heap.size _ n (rqP ws) (rqL ws) bv D _ wi hb.size (HFA.out.below hb) (fun i hi=>(HSA.out i hi).below hb) (fun i hi=>kinds_blk n (rqP ws) D 6 _)
       obtain⟨n2,e7,e8,e9,e10⟩:=HAt.out wr _ HQ.out
       have HTx:Hid (progErr n (rqP ws) (rqL ws) D (bodyQ n (rqP ws) ws)=0→∀wi,Below wr.heap.size wr wi→Calls Tryz.prog 153 #[.slice (some ⟨g,0,none⟩) n fc] wi fun e w'=>e=.returned (.string (bs (textL (progW n (rqP ws) (rqL ws) D (bodyQ n (rqP ws) ws)))))∧Below wi.heap.size wi w'):=fun hp wi hb=>by
        obtain⟨hen,hspn⟩:=HEn.out wr _ HQ.out
        have hNr:N≤wr.heap.size:=by omega
        exact sourceText wr.heap.size _ n (rqP ws) (rqL ws) bv D _ wi hb.size ((hen.up hNr).below hb) ((hspn.up hNr).below hb) (HFA.out.below hb) (fun i hi=>(HSA.out i hi).below hb) hp
       have HG:Hid (rqGood D s ↔ leftQ n (rqP ws) ws n=([],true)∧progErr n (rqP ws) (rqL ws) D (bodyQ n (rqP ws) ws)=0∧bs (textL (progW n (rqP ws) (rqL ws) D (bodyQ n (rqP ws) ws)))=s):=by
        show _ ↔ _
        have eB:rqB ws=bodyQ n (rqP ws) ws:=by funext i;unfold rqB;rw[HNf.out]
        unfold rqGood rqLeft
        rw[HWS.out,HNf.out,eB]
        exact⟨fun h=>⟨h.2.2.1,h.2.2.2.1,h.2.2.2.2⟩,fun h=>⟨⟨by omega,by omega⟩,HPar.out,h.1,h.2.1,h.2.2⟩⟩
       have HRq:Hid (∀wi,Below wr.heap.size wr wi→RqAt D s wi (.slice (some ⟨g,0,none⟩) n fc)):=fun wi hb=>by
        have eB:rqB ws=bodyQ n (rqP ws) ws:=by funext i;unfold rqB;rw[HNf.out]
        unfold RqAt
        rw[HWS.out,HNf.out,eB]
        exact⟨bv,(HFA.out.below hb).up hb.size,fun i hi=>((HSA.out i hi).below hb).up hb.size⟩
       have HL2:Hid (ws.length=j):=HL
       generalize leftQ n (rqP ws) ws n=q at *
       generalize progErr n (rqP ws) (rqL ws) D (bodyQ n (rqP ws) ws)=er at *
       generalize bs (textL (progW n (rqP ws) (rqL ws) D (bodyQ n (rqP ws) ws)))=tx at *
       obtain⟨q1,b1⟩:=q
       have e4:wr.cell? ⟨A+1,0,none⟩=some (.bool b1):=e4
       have e8:q1=ws.drop n2:=e8
       have hlt5:x5<wr.heap.size:=by omega
       clear HFA HSA HS HFn HQ HWd HBl HCl HDn HPf HAt HEn e1 e2 e5 e6
       cases b1 with
       | false =>
        have HB:Hid (¬rqGood D s):=fun h=>by have:=(HG.out.1 h).1;simp at this
        clear HG e8
        go_wp2_with fail
        go_ret2
        first|exact⟨Or.inr ⟨HB,rfl⟩,hbw2⟩|exact⟨Or.inr rfl,hbw2⟩|(trace_state;fail)
       | true =>
        by_cases hat:n2<j
        ·have HB:Hid (¬rqGood D s):=fun h=>by
          have h1:=(HG.out.1 h).1
          have h2:ws.drop n2=[]:=(show q1=ws.drop n2 from e8).symm.trans (congrArg Prod.fst h1)
          have h3:=congrArg List.length h2
          rw[List.length_drop,HL2.out]at h3
          simp at h3
          omega
         have hati:(n2:Int)<(j:Int):=by omega
         clear HG e8
         go_wp2_with fail
         go_ret2
         first|exact⟨Or.inr ⟨HB,rfl⟩,hbw2⟩|exact⟨Or.inr rfl,hbw2⟩|(trace_state;fail)
        ·have hati:¬(n2:Int)<(j:Int):=by omega
         have HQe:Hid (q1=[]):=by
          show q1=[]
          refine (show q1=ws.drop n2 from e8).trans ?_
          exact List.drop_eq_nil_of_le (by rw[HL2.out];omega)
         clear e8 hat
         by_cases her:er=0
         ·have HTx2:=HTx.out her
          subst her
          by_cases ht:tx=s
          ·have HGd:Hid (rqGood D s):=HG.out.2 ⟨by rw[HQe.out],rfl,ht⟩
           have hq:(tx.toList == s.toList)=true:=by rw[strEq];simp[ht]
           have HTx3:Hid (∀wi,Below wr.heap.size wr wi→Calls Tryz.prog 153 #[.slice (some ⟨g,0,none⟩) n fc] wi fun e w'=>e=.returned (.string tx)∧Below wi.heap.size wi w'):=HTx2
           clear HG ht HTx HTx2
           go_wp2_with (first
            | (go_at_call 152;refine (HCk.out wr (Below.refl _ _)).mono ?_;rintro e z1 ⟨rfl,b1⟩;have r3:=(b1.cell (p:=⟨x5,0,none⟩) hlt5).trans e3)
            | (go_at_call 153;refine (HTx3.out z1 b1).mono ?_;rintro e z2 ⟨rfl,b2⟩;have b12:=b1.trans (b2.mono b1.size);have r4:=(b12.cell (p:=⟨x5,0,none⟩) hlt5).trans e3))
           go_ret2
           exact⟨Or.inl ⟨HGd,_,rfl,HRq.out _ b12⟩,hbw2.trans (b12.mono hbw2.size)⟩
          ·have HB:Hid (¬rqGood D s):=fun h=>ht (HG.out.1 h).2.2
           have hq:(tx.toList == s.toList)=false:=by rw[strEq];simp[ht]
           have HTx3:Hid (∀wi,Below wr.heap.size wr wi→Calls Tryz.prog 153 #[.slice (some ⟨g,0,none⟩) n fc] wi fun e w'=>e=.returned (.string tx)∧Below wi.heap.size wi w'):=HTx2
           clear HG ht HTx HTx2
           go_wp2_with (first
            | (go_at_call 152;refine (HCk.out wr (Below.refl _ _)).mono ?_;rintro e z1 ⟨rfl,b1⟩;have r3:=(b1.cell (p:=⟨x5,0,none⟩) hlt5).trans e3)
            | (go_at_call 153;refine (HTx3.out z1 b1).mono ?_;rintro e z2 ⟨rfl,b2⟩;have b12:=b1.trans (b2.mono b1.size);have r4:=(b12.cell (p:=⟨x5,0,none⟩) hlt5).trans e3))
           go_ret2
           exact⟨Or.inr ⟨HB,rfl⟩,hbw2.trans (b12.mono hbw2.size)⟩
         ·have HB:Hid (¬rqGood D s):=fun h=>her (HG.out.1 h).2.1
          have herb:(er != 0)=true:=by simp[her]
          clear HG her HTx
          go_wp2_with (first
           | (go_at_call 152;refine (HCk.out wr (Below.refl _ _)).mono ?_;rintro e z1 ⟨rfl,b1⟩;have r3:=(b1.cell (p:=⟨x5,0,none⟩) hlt5).trans e3))
          go_ret2
          exact⟨Or.inr ⟨HB,rfl⟩,hbw2.trans (b1.mono hbw2.size)⟩
end Go.Proofs.YtfaokaohhchdhaaGreatDoor
