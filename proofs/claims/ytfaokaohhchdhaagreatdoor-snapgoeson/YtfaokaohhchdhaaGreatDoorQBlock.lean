/- Statements between braces, by the reckoning's reader. -/
import Derived.Test.YtfaokaohhchdhaaGreatDoorPart37
namespace Go.Proofs.YtfaokaohhchdhaaGreatDoor
open Go.RowKit Go.Maps
set_option maxHeartbeats 2000000 in
theorem qblock_off (c:QC) (w:World) (q:Rs) (dp:Int) (h:QR c w q) (H:¬hdW q.1=obW∨6<dp∨q.2=false) :
  Calls Tryz.prog 149 #[.int .i64 dp,.pointer (some ⟨c.xw,0,none⟩),.pointer (some ⟨c.A+1,0,none⟩),.pointer (some ⟨c.xe,0,none⟩),.pointer (some ⟨c.xb,0,none⟩)] w fun e w'=>e=.returned (.slice none 0 0)∧Hid (QR c w' (q.1.tail,false))∧Sv c.A w w':=by
 have cw:=h.st.cw
 unfold QC.fw at cw
 have HWd:Hid (Calls Tryz.prog 143 #[.pointer (some ⟨c.A,0,none⟩),.pointer (some ⟨c.x4,0,none⟩),.pointer (some ⟨c.A+1,0,none⟩)] w fun e w'=>e=.returned (.string (hdW q.1))∧Hid (QR c w' (wordQ q))∧Sv c.A w w'):=wordR c w q h
 by_cases hob:hdW q.1=obW
 ·have hx:((hdW q.1).toList == [123])=true:=by rw[obEq];simp[hob]
  by_cases hd:6<dp
  ·clear h hob H
   generalize hdW q.1=s at *
   go_enter Tryz.func149,Tryz.ntmps149
   go_upto_region 4 with (first
    | (go_at_call 143;refine HWd.out.mono ?_;rintro e w1 ⟨rfl,H1,s1⟩;obtain⟨k0,kf⟩:=H1.out.okc))
   have H2:=H1.out.down false
   have s2:=s1.trans (Sv.set c.A w1 (c.A+1) 0 (.bool false) (Or.inr rfl))
   have H2':Hid (QR c (w1.setCell ⟨c.A+1,0,none⟩ (.bool false)) (q.1.tail,false)):=H2
   clear k0 kf
   obtain⟨k0,kf⟩:=H2.okc
   clear H2
   generalize w1.setCell ⟨c.A+1,0,none⟩ (.bool false)=w2 at *
   have k0:w2.cell? ⟨c.A+1,0,none⟩=some (.bool false):=k0
   go_loopw [8] (fun _ wr=>wr=w2) (fun _ _=>0)
   case atStart=>rfl
   case round =>
    subst hrel
    go_wp2_with fail
    go_ret
    exact⟨rfl,H2',s2⟩
  ·have hq:q.2=false:=by
    rcases H with H|H|H
    ·exact absurd hob H
    ·exact absurd H hd
    ·exact H
   have HQ:Hid (wordQ q=(q.1.tail,false)):=by
    show _=_
    unfold wordQ;rw[hq];rfl
   clear h hob H
   generalize hdW q.1=s at *
   go_enter Tryz.func149,Tryz.ntmps149
   go_upto_region 4 with (first
    | (go_at_call 143;refine HWd.out.mono ?_;rintro e w1 ⟨rfl,H1,s1⟩;rw[HQ.out]at H1;obtain⟨k0,kf⟩:=H1.out.okc))
   have k0:w1.cell? ⟨c.A+1,0,none⟩=some (.bool false):=k0
   go_loopw [8] (fun _ wr=>wr=w1) (fun _ _=>0)
   case atStart=>rfl
   case round =>
    subst hrel
    go_wp2_with fail
    go_ret
    exact⟨rfl,H1,s1⟩
 ·have hx:((hdW q.1).toList == [123])=false:=by rw[obEq];simp[hob]
  clear h hob H
  generalize hdW q.1=s at *
  go_enter Tryz.func149,Tryz.ntmps149
  go_upto_region 4 with (first
   | (go_at_call 143;refine HWd.out.mono ?_;rintro e w1 ⟨rfl,H1,s1⟩;obtain⟨k0,kf⟩:=H1.out.okc))
  have H2:=H1.out.down false
  have s2:=s1.trans (Sv.set c.A w1 (c.A+1) 0 (.bool false) (Or.inr rfl))
  have H2':Hid (QR c (w1.setCell ⟨c.A+1,0,none⟩ (.bool false)) (q.1.tail,false)):=H2
  clear k0 kf
  obtain⟨k0,kf⟩:=H2.okc
  clear H2
  generalize w1.setCell ⟨c.A+1,0,none⟩ (.bool false)=w2 at *
  have k0:w2.cell? ⟨c.A+1,0,none⟩=some (.bool false):=k0
  go_loopw [8] (fun _ wr=>wr=w2) (fun _ _=>0)
  case atStart=>rfl
  case round =>
   subst hrel
   go_wp2_with fail
   go_ret
   exact⟨rfl,H2',s2⟩
theorem qblock_zero (c:QC):QB c 0:=by
 intro w q h
 refine (qblock_off c w q _ h (Or.inr (Or.inl (by simp)))).mono ?_
 rintro e w' ⟨rfl,H,s⟩
 exact⟨_,rfl,⟨rfl,none,0,rfl⟩,H,s⟩
theorem loopQ_off {nf:Nat} {par:Nat→Int} {B:Rs→SL×Rs} {fu:Nat} {us:List Wd} (h:us.length<fu):loopQ nf par B fu (us,false)=([],(us,false)):=by
 obtain⟨fu,rfl⟩:∃v,fu=v+1:=⟨fu - 1,by omega⟩
 unfold loopQ;rw[if_pos rfl]
theorem loopQ_end {nf:Nat} {par:Nat→Int} {B:Rs→SL×Rs} {fu:Nat} {us:List Wd} (h:us.length<fu) (hc:hdW us=cbW):loopQ nf par B fu (us,true)=([],(us.tail,true)):=by
 obtain⟨fu,rfl⟩:∃v,fu=v+1:=⟨fu - 1,by omega⟩
 unfold loopQ;rw[if_neg (by simp),if_pos hc]
theorem loopQ_bad {nf:Nat} {par:Nat→Int} {B:Rs→SL×Rs} {fu:Nat} {us:List Wd} (h:us.length<fu) (hc:¬hdW us=cbW) (hk:kindOf (hdW us)=0):loopQ nf par B fu (us,true)=([],(us.tail,false)):=by
 obtain⟨fu,rfl⟩:∃v,fu=v+1:=⟨fu - 1,by omega⟩
 unfold loopQ;rw[if_neg (by simp),if_neg hc,if_pos hk]
theorem loopQ_go {nf:Nat} {par:Nat→Int} {B:Rs→SL×Rs} {fu:Nat} {us:List Wd} (hc:¬hdW us=cbW) (hk:¬kindOf (hdW us)=0):loopQ nf par B (fu+1) (us,true) =
  (itQ nf par B (kindOf (hdW us)) (us.tail,true)::(loopQ nf par B fu (q5 nf par B (kindOf (hdW us)) (us.tail,true)).2).1,(loopQ nf par B fu (q5 nf par B (kindOf (hdW us)) (us.tail,true)).2).2):=by
 rw[loopQ,if_neg (by simp),if_neg hc,if_neg hk]
theorem StmtsIn.nothing (L:Nat) (w:World):∀d,StmtsIn L w d (.slice none 0 0) noSL
 | 0=>⟨rfl,none,0,rfl⟩
 | d+1=>StmtsIn.empty L w d
theorem QS.start {c:QC} {wA w3:World} {K:Int} {q:Rs} (r:QR c w3 q) (s:Sv c.A wA w3) (t:c.A+1<wA.heap.size∧c.xw<wA.heap.size∧c.xe<wA.heap.size∧c.xb<wA.heap.size) :
  QS c wA w3.heap.size (w3.alloc (.cells #[.int .i64 K,.int .i64 0,.slice none 0 0,.slice none 0 0,.slice none 0 0,.slice none 0 0] 196)) K 0 (.slice none 0 0) (.slice none 0 0) (.slice none 0 0) (.slice none 0 0) q :=
 ⟨(MapKept.heap_alloc w3 _).1,r.keep (below_alloc _ _),s.trans (Sv.of (below_alloc _ _)),s.size,t⟩
theorem row_of {c:QC} {u K:Nat} {q:Rs} {L base:Nat} {wi:World} {num:Int} {v ve vf va vb:Value} (hL:base≤L) (hv:∀k,v.ownBlock=some k→k<L) (HN:(if hasN K then numR q.1 else 0)=num)
  (e:ToksIn L wi ve (q2 c.nf c.par K q).1) (f:ToksIn L wi vf (q3 c.nf c.par K q).1) (a:StmtsIn L wi u va (q4 c.nf c.par (blkQ c.nf c.par u) K q).1) (b:StmtsIn L wi u vb (q5 c.nf c.par (blkQ c.nf c.par u) K q).1) :
  RowOK (Else base v) u wi ⟨K,num,ve,vf,va,vb⟩ (itQ c.nf c.par (blkQ c.nf c.par u) K q):=by
 have hm:∀b,L≤b→b<wi.heap.size→wi.heap[b]?=wi.heap[b]?∧Else base v b:=fun b hb _=>⟨rfl,Nat.le_trans hL hb,fun e=>by have:=hv b e;omega⟩
 exact⟨rfl,HN.symm,e.lowT.toP.move hm (Nat.le_refl _),f.lowT.toP.move hm (Nat.le_refl _),a.toP.move hm (Nat.le_refl _),b.toP.move hm (Nat.le_refl _)⟩
def outT (r:List It×Rs):SL:=if r.2.2 then mkT r.1 else noSL
theorem outT_no (its:List It) (us:List Wd):outT (its,(us,false))=noSL:=rfl
theorem outT_yes (its:List It) (us:List Wd):outT (its,(us,true))=mkT its:=rfl
set_option maxRecDepth 20000 in
set_option maxHeartbeats 4000000 in
theorem qblock_on (c:QC) (u:Nat) (IH:Hid (QB c u)) (w:World) (ws:List Wd) (dp:Int) (hdp:Hid (dp+1=7 - (u:Int))) (hd6:dp≤6) (hd0 : -1000≤dp) (h:QR c w (obW::ws,true)) :
  Calls Tryz.prog 149 #[.int .i64 dp,.pointer (some ⟨c.xw,0,none⟩),.pointer (some ⟨c.A+1,0,none⟩),.pointer (some ⟨c.xe,0,none⟩),.pointer (some ⟨c.xb,0,none⟩)] w fun e w'=>∃v,e=.returned v ∧
   Hid (StmtsIn w.heap.size w' (u+1) v (outT (loopQ c.nf c.par (blkQ c.nf c.par u) (ws.length+1) (ws,true))))∧Hid (QR c w' (loopQ c.nf c.par (blkQ c.nf c.par u) (ws.length+1) (ws,true)).2)∧Sv c.A w w':=by
 have hlen:=h.len
 have hlen:ws.length+1≤100000:=hlen
 obtain⟨t1,t2,t3,t4⟩:=h.lts
 have cw:=h.st.cw
 unfold QC.fw at cw
 have HWd:Hid (Calls Tryz.prog 143 #[.pointer (some ⟨c.A,0,none⟩),.pointer (some ⟨c.x4,0,none⟩),.pointer (some ⟨c.A+1,0,none⟩)] w fun e w'=>e=.returned (.string obW)∧Hid (QR c w' (ws,true))∧Sv c.A w w'):=wordR c w (obW::ws,true) h
 have hx:(obW.toList == [123])=true:=by rw[obEq];simp
 clear h
 obtain⟨LQ,hLQ⟩:∃LQ,loopQ c.nf c.par (blkQ c.nf c.par u) (ws.length+1) (ws,true)=LQ:=⟨_,rfl⟩
 rw[hLQ]
 have HLQ:Hid (loopQ c.nf c.par (blkQ c.nf c.par u) (ws.length+1) (ws,true)=LQ):=hLQ
 clear hLQ
 generalize obW=s at *
 go_enter Tryz.func149,Tryz.ntmps149
 go_upto_region 4 with (first
  | (go_at_call 143;refine HWd.out.mono ?_;rintro e w1 ⟨rfl,H1,s1⟩;obtain⟨k0,kf⟩:=H1.out.okc))
 clear k0 kf hx HWd cw
 go_loopg [7] ws.length (fun k q wr=>∃(its:List It) (us:List Wd) (b:Bool) (fu:Nat),us.length=k∧us.length<fu∧its.length+us.length≤100000∧Hid (SS w.heap.size u wr q its)∧Hid (QR c wr (us,b))∧Sv c.A w wr∧Hid (LQ=(its++(loopQ c.nf c.par (blkQ c.nf c.par u) fu (us,b)).1,(loopQ c.nf c.par (blkQ c.nf c.par u) fu (us,b)).2)))
 case atStart=>exact⟨[],ws,true,ws.length+1,rfl,by omega,by simp;omega,SS.nil _ _ _,H1,s1,(by show _=_;rw[HLQ.out];simp)⟩
 case round =>
  obtain⟨its,us,b,fu,hk,hfu,hil,HS,HU,hsv,HX⟩:=hrel
  obtain⟨k0,kf⟩:=HU.out.okc
  have k0:wr.cell? ⟨c.A+1,0,none⟩=some (.bool b):=k0
  cases b with
  | false =>
   have HF:Hid (LQ=(its,(us,false))):=by
    show _=_
    rw[HX.out,loopQ_off hfu];simp
   go_wp2_with fail
   go_ret
   refine⟨_,rfl,?_,?_,hsv⟩
   ·show StmtsIn _ _ _ _ _
    rw[HF.out,outT_no]
    exact StmtsIn.empty _ _ _
   ·show QR _ _ _
    rw[HF.out]
    exact HU.out
  | true =>
   have cw:=HU.out.st.cw
   unfold QC.fw at cw
   have HWd:Hid (Calls Tryz.prog 143 #[.pointer (some ⟨c.A,0,none⟩),.pointer (some ⟨c.x4,0,none⟩),.pointer (some ⟨c.A+1,0,none⟩)] wr fun e w'=>e=.returned (.string (hdW us))∧Hid (QR c w' (wordQ (us,true)))∧Sv c.A wr w'):=wordR c wr (us,true) HU.out
   obtain⟨s,hs⟩:∃s,hdW us=s:=⟨_,rfl⟩
   have HSd:Hid (hdW us=s):=hs
   rw[hs]at HWd
   clear hs
   by_cases hcb:s=cbW
   ·have HF:Hid (LQ=(its,(us.tail,true))):=by
     show _=_
     rw[HX.out,loopQ_end hfu (HSd.out.trans hcb)];simp
    have hx:(s.toList == [125])=true:=by rw[cbEq];simp[hcb]
    have HWq:Hid (wordQ (us,true)=(us.tail,true)):=by
     show _=_
     cases us with
     | nil =>
      exfalso
      have:bs []=cbW:=HSd.out.trans hcb
      exact absurd this (by decide)
     | cons x us=>rfl
    clear hcb
    go_wp2_with (first
     | (go_at_call 143;refine HWd.out.mono ?_;rintro e w2 ⟨rfl,H2,s2⟩;rw[HWq.out]at H2;obtain⟨k0,kf⟩:=H2.out.okc))
    go_ret
    refine⟨_,rfl,?_,?_,hsv.trans s2⟩
    ·show StmtsIn _ _ _ _ _
     rw[HF.out,outT_yes]
     exact (HS.out.far (Nat.le_refl _) (s2.far (by omega))).stmts (by omega)
    ·show QR _ _ _
     rw[HF.out]
     exact H2.out
   ·have hx:(s.toList == [125])=false:=by rw[cbEq];simp[hcb]
    have HSp:Hid (∀wi,Sv c.A wr wi→Calls Tryz.prog 151 #[.string ⟨#[115,101,116,32,112,117,116,32,115,97,121,32,112,97,117,115,101,32,103,111,32,105,102,32,119,104,105,108,101,32,114,101,116,117,114,110]⟩] wi fun e w'=>∃g,e=.returned (.slice (some ⟨g,0,none⟩) 8 8) ∧
     (∀K,1≤K→K≤8→w'.cell? ⟨g,K - 1,none⟩=some (.string (bs (stL K))))∧Below wi.heap.size wi w'):=fun wi hs=>fieldsG c.N wi (HU.out.st.keep hs).spc
    obtain⟨K,hK⟩:∃K,kindOf s=K:=⟨_,rfl⟩
    have hK8:K≤8:=by rw[←hK];exact kindOf_lt s
    have HIx:Hid (∀g wi,(∀K,1≤K→K≤8→wi.cell? ⟨g,K - 1,none⟩=some (.string (bs (stL K))))→Calls Tryz.prog 150 #[.slice (some ⟨g,0,none⟩) 8 8,.string s] wi fun e w'=>e=.returned (.int .i64 ((K:Int) - 1))∧w'=wi):=fun g wi hg=>by
     have:=indexK g s wi hg
     rw[hK]at this;exact this
    have hKi:(K:Int)≤8:=by omega
    have hK0:(0:Int)≤(K:Int):=by omega
    have HKs:Hid (kindOf s=K):=hK
    have HCb:Hid (¬s=cbW):=hcb
    clear hK hcb
    have hsvz:=hsv.size
    go_upto_region 9 with (first
     | (go_at_call 143;refine HWd.out.mono ?_;rintro e w2 ⟨rfl,H2,s2⟩;obtain⟨k0,kf⟩:=H2.out.okc)
     | (go_at_call 151;refine (HSp.out w2 s2).mono ?_;rintro e w3 ⟨g,rfl,hg,b3⟩)
     | (go_at_call 150;refine (HIx.out g w3 hg).mono ?_;rintro e w4 ⟨rfl,h4⟩;rw[h4];clear h4))
    have HQ3:Hid (QR c w3 (wordQ (us,true))):=H2.out.keep b3
    have s3:Sv c.A wr w3:=s2.trans (Sv.of b3)
    have HQS:=QS.start (K:=(K:Int)) HQ3.out s3 ⟨by omega,by omega,by omega,by omega⟩
    have hX:wr.heap.size≤w3.heap.size:=s3.size
    obtain⟨X,hXe⟩:∃X,w3.heap.size=X:=⟨_,rfl⟩
    rw[hXe]at HQS hX ⊢
    clear hXe k0 kf b3 s2 hg hx HIx HSp
    generalize w3.alloc (.cells #[.int .i64 (K:Int),.int .i64 0,.slice none 0 0,.slice none 0 0,.slice none 0 0,.slice none 0 0] 196)=W at *
    have HQ0:Hid (QS c wr X W (K:Int) 0 (.slice none 0 0) (.slice none 0 0) (.slice none 0 0) (.slice none 0 0) (wordQ (us,true))):=HQS
    obtain⟨k0,kf⟩:=HQS.rd.okc
    obtain⟨c0,_,_,_,_,_,_⟩:=HQS.cells
    clear HQS
    by_cases hKz:K=0
    ·subst hKz
     have HF:Hid (LQ=(its,(us.tail,false))):=by
      show _=_
      rw[HX.out,loopQ_bad hfu (by rw[HSd.out];exact HCb.out) (by rw[HSd.out];exact HKs.out)];simp
     generalize hb2:(wordQ (us,true)).2=b2 at *
     clear hb2
     cases b2
     all_goals
      go_wp2_with fail
      go_ret
      refine⟨_,rfl,?_,?_,(hsv.trans HQ0.out.sv).trans (Sv.set c.A W (c.A+1) 0 _ (Or.inr rfl))⟩
      ·show StmtsIn _ _ _ _ _
       rw[HF.out,outT_no]
       exact StmtsIn.empty _ _ _
      ·show QR _ _ _
       rw[HF.out]
       exact HQ0.out.rd.down false
    ·have hup:0<us.length:=by
      rcases us with _|⟨x,us⟩
      ·exfalso
       have h1:bs []=s:=HSd.out
       have h2:=HKs.out
       rw[←h1]at h2
       exact hKz (h2.symm.trans (by decide))
      ·simp
     have HWq:wordQ (us,true)=(us.tail,true):=by
      rcases us with _|⟨x,us⟩
      ·simp at hup
      ·rfl
     rw[HWq]at HQ0 k0
     obtain⟨fu,rfl⟩:∃v,fu=v+1:=⟨fu - 1,by omega⟩
     obtain⟨q,hq⟩:∃q:Rs,(us.tail,true)=q:=⟨_,rfl⟩
     have HX2:Hid (LQ=((its++[itQ c.nf c.par (blkQ c.nf c.par u) K q])++(loopQ c.nf c.par (blkQ c.nf c.par u) fu (q5 c.nf c.par (blkQ c.nf c.par u) K q).2).1,(loopQ c.nf c.par (blkQ c.nf c.par u) fu (q5 c.nf c.par (blkQ c.nf c.par u) K q).2).2)):=by
      show _=_
      have h1:¬hdW us=cbW:=by rw[HSd.out];exact HCb.out
      have h2:kindOf (hdW us)=K:=by rw[HSd.out];exact HKs.out
      rw[HX.out,loopQ_go h1 (by rw[h2];exact hKz),h2,hq];simp
     have hq5:(q5 c.nf c.par (blkQ c.nf c.par u) K q).2.1.length<us.length:=by
      have:=q5_len c.nf c.par (blkQ_len c.nf c.par u) K q
      have e:q.1.length=us.tail.length:=by rw[←hq]
      rw[e,List.length_tail]at this
      omega
     have hKp:0<K:=by omega
     have hKd:decide (0<K)=true:=by simp;omega
     have k0:W.cell? ⟨c.A+1,0,none⟩=some (.bool true):=k0
     have H0:Hid (QS c wr X (W.setCell ⟨c.A+1,0,none⟩ (.bool true)) (K:Int) 0 (.slice none 0 0) (.slice none 0 0) (.slice none 0 0) (.slice none 0 0) q):=by
      have:=HQ0.out.call (Sv.set c.A W (c.A+1) 0 (.bool true) (Or.inr rfl)) (HQ0.out.rd.down true)
      rw[←hq];exact this
     have hfu2:us.length≤fu:=by omega
     clear hq HX HWq HKs HCb HSd hKz hup hfu
     go_upto_region 11 with (fail)
     generalize W.setCell ⟨c.A+1,0,none⟩ (.bool true)=W0 at *
     clear k0 kf c0 HQ0
     have hKm:(K:Int)≤8:=hKi
     obtain⟨num,hnum⟩:∃num,(if hasN K then numR q.1 else 0)=num:=⟨_,rfl⟩
     have HNum:Hid ((if hasN K then numR q.1 else 0)=num):=hnum
     clear hnum
     have HIH:Hid (∀wi qi,QR c wi qi→Calls Tryz.prog 149 #[.int .i64 (dp+1),.pointer (some ⟨c.xw,0,none⟩),.pointer (some ⟨c.A+1,0,none⟩),.pointer (some ⟨c.xe,0,none⟩),.pointer (some ⟨c.xb,0,none⟩)] wi fun e w'=>∃v,e=.returned v∧Hid (StmtsIn wi.heap.size w' u v (blkQ c.nf c.par u qi).1)∧Hid (QR c w' (blkQ c.nf c.par u qi).2)∧Sv c.A wi w'):=fun wi qi hqi=>by
      rw[hdp.out]
      exact IH.out wi qi hqi
     have hXp:c.A+2≤X+1:=by omega
     -- the number
     obtain⟨c0,_,_,_,_,_,_⟩:=H0.out.cells
     go_upto_if 38 with (fail)
     go_cut [8] from 17 to 82 (fun _ wx=>Hid (QS c wr X wx (K:Int) num (.slice none 0 0) (.slice none 0 0) (.slice none 0 0) (.slice none 0 0) (q1 K q)))
     case first =>
      by_cases hn:(K:Int)≤2
      ·have hN:hasN K=true:=by unfold hasN;simp;omega
       have HN1:Hid (num=numR q.1):=by show _=_;rw[←HNum.out,hN];rfl
       have HQ1:Hid (q1 K q=wordQ q):=by show _=_;unfold q1;rw[hN];rfl
       have cw2:=H0.out.rd.st.cw
       unfold QC.fw at cw2
       have HWd2:Hid (Calls Tryz.prog 143 #[.pointer (some ⟨c.A,0,none⟩),.pointer (some ⟨c.x4,0,none⟩),.pointer (some ⟨c.A+1,0,none⟩)] W0 fun e w'=>e=.returned (.string (hdW q.1))∧Hid (QR c w' (wordQ q))∧Sv c.A W0 w'):=wordR c W0 q H0.out.rd
       have HAt:Hid (∀wi,QSt c wi→Calls Tryz.prog 142 #[.string (hdW q.1)] wi fun e w'=>∃er,e=.returned (.tuple #[.int .i64 (numR q.1),er])∧Below wi.heap.size wi w'):=fun wi hst=>by
        have hsm:=H0.out.rd.small
        exact atoi c.N (hdW q.1) (by omega) wi hst.env
       clear hN
       go_wp2_with (first
        | (go_at_call 143;refine HWd2.out.mono ?_;rintro e x1 ⟨rfl,R1,s1⟩;have T1:=H0.out.call s1 R1.out)
        | (go_at_call 142;refine (HAt.out x1 R1.out.st).mono ?_;rintro e x2 ⟨er,rfl,b2⟩;have T2:=T1.keep b2;obtain⟨_,d1,_,_,_,_,df⟩:=T2.cells;have df1:=df 1))
       go_meet
       show QS _ _ _ _ _ _ _ _ _ _ _
       rw[HQ1.out,HN1.out]
       exact T2.put1 _
      ·have hN:hasN K=false:=by unfold hasN;simp;omega
       have HN1:Hid (num=0):=by show _=_;rw[←HNum.out,hN];rfl
       have HQ1:Hid (q1 K q=q):=by show _=_;unfold q1;rw[hN];rfl
       clear hN
       go_wp2_with fail
       go_meet
       show QS _ _ _ _ _ _ _ _ _ _ _
       rw[HQ1.out,HN1.out]
       exact H0.out
     case rest =>
      replace H0:=hcut
      clear hcut c0
      generalize wc=W1 at *
      -- E
      obtain⟨c0,_,_,_,_,_,_⟩:=H0.out.cells
      go_upto_if 48 with (fail)
      go_cut [8] from 17 to 82 (fun _ wx=>∃ea en ec,Hid (QS c wr X wx (K:Int) num (.slice ea en ec) (.slice none 0 0) (.slice none 0 0) (.slice none 0 0) (q2 c.nf c.par K q).2)∧Hid (ToksIn (X+1) wx (.slice ea en ec) (q2 c.nf c.par K q).1))
      case first =>
       by_cases h4:K=4
       ·have HQ2:Hid (q2 c.nf c.par K q=([],q1 K q)):=by show _=_;unfold q2;rw[if_pos h4]
        have h4b:((K:Int) != 4)=false:=by simp;omega
        clear h4
        go_wp2_with fail
        go_meet
        refine⟨none,0,0,?_,?_⟩
        ·show QS _ _ _ _ _ _ _ _ _ _ _
         rw[HQ2.out];exact H0.out
        ·show ToksIn _ _ _ _
         rw[HQ2.out];exact ToksIn.empty _ _
       ·have HQ2:Hid (q2 c.nf c.par K q=exprS c.nf c.par (q1 K q)):=by show _=_;unfold q2;rw[if_neg h4]
        have h4b:((K:Int) != 4)=true:=by simp;omega
        have ce2:=H0.out.rd.st.ce
        unfold QC.fe at ce2
        have HEx:=qexpr c W1 (q1 K q) H0.out.rd
        have HEx2:Hid (Calls Tryz.prog 144 #[.pointer (some ⟨c.A+1,0,none⟩),.pointer (some ⟨c.xw,0,none⟩),.pointer (some ⟨c.x5,0,none⟩)] W1 fun e w'=>∃v,e=.returned v∧Hid (ToksIn W1.heap.size w' v (exprS c.nf c.par (q1 K q)).1)∧Hid (QR c w' (exprS c.nf c.par (q1 K q)).2)∧Sv c.A W1 w'):=HEx
        have hlt:=H0.out.lt
        clear h4 HEx
        go_wp2_with (first
         | (go_at_call 144;refine HEx2.out.mono ?_;rintro e x1 ⟨v1,rfl,E1,R1,s1⟩;obtain⟨ea,en,ec,rfl⟩:=E1.out.shape;have T1:=H0.out.call s1 R1.out;obtain⟨_,_,d2,_,_,_,df⟩:=T1.cells;have df2:=df 2))
        go_meet
        refine⟨ea,en,ec,?_,?_⟩
        ·show QS _ _ _ _ _ _ _ _ _ _ _
         rw[HQ2.out];exact T1.put2 _
        ·show ToksIn _ _ _ _
         rw[HQ2.out];exact (E1.out.low (by omega)).far (Nat.le_refl _) (Far.set _ _ _ _ (by omega))
      case rest =>
       obtain⟨ea,en,ec,hc1,HE2⟩:=hcut
       replace H0:=hc1
       clear hc1 c0
       generalize wc=W2 at *
       -- F
       obtain⟨c0,_,_,_,_,_,_⟩:=H0.out.cells
       go_upto_if 54 with (fail)
       go_cut [8] from 17 to 82 (fun _ wx=>∃fa fn fc,Hid (QS c wr X wx (K:Int) num (.slice ea en ec) (.slice fa fn fc) (.slice none 0 0) (.slice none 0 0) (q3 c.nf c.par K q).2)∧Hid (ToksIn (X+1) wx (.slice ea en ec) (q2 c.nf c.par K q).1)∧Hid (ToksIn (X+1) wx (.slice fa fn fc) (q3 c.nf c.par K q).1))
       case first =>
        by_cases h2:K=2
        ·have HQ3:Hid (q3 c.nf c.par K q=exprS c.nf c.par (q2 c.nf c.par K q).2):=by show _=_;unfold q3;rw[if_pos h2]
         have h2b:((K:Int) == 2)=true:=by simp;omega
         have ce2:=H0.out.rd.st.ce
         unfold QC.fe at ce2
         have HEx2:Hid (Calls Tryz.prog 144 #[.pointer (some ⟨c.A+1,0,none⟩),.pointer (some ⟨c.xw,0,none⟩),.pointer (some ⟨c.x5,0,none⟩)] W2 fun e w'=>∃v,e=.returned v∧Hid (ToksIn W2.heap.size w' v (exprS c.nf c.par (q2 c.nf c.par K q).2).1)∧Hid (QR c w' (exprS c.nf c.par (q2 c.nf c.par K q).2).2)∧Sv c.A W2 w'):=qexpr c W2 (q2 c.nf c.par K q).2 H0.out.rd
         have hlt:=H0.out.lt
         clear h2
         go_wp2_with (first
          | (go_at_call 144;refine HEx2.out.mono ?_;rintro e x1 ⟨v1,rfl,E1,R1,s1⟩;obtain⟨fa,fn,fc,rfl⟩:=E1.out.shape;have T1:=H0.out.call s1 R1.out;obtain⟨_,_,_,d3,_,_,df⟩:=T1.cells;have df3:=df 3))
         go_meet
         refine⟨fa,fn,fc,?_,?_,?_⟩
         ·show QS _ _ _ _ _ _ _ _ _ _ _
          rw[HQ3.out];exact T1.put3 _
         ·exact (HE2.out.far (Nat.le_refl _) (s1.far hXp)).far (Nat.le_refl _) (Far.set _ _ _ _ (by omega))
         ·show ToksIn _ _ _ _
          rw[HQ3.out];exact (E1.out.low (by omega)).far (Nat.le_refl _) (Far.set _ _ _ _ (by omega))
        ·have HQ3:Hid (q3 c.nf c.par K q=([],(q2 c.nf c.par K q).2)):=by show _=_;unfold q3;rw[if_neg h2]
         have h2b:((K:Int) == 2)=false:=by simp;omega
         clear h2
         go_wp2_with fail
         go_meet
         refine⟨none,0,0,?_,HE2,?_⟩
         ·show QS _ _ _ _ _ _ _ _ _ _ _
          rw[HQ3.out];exact H0.out
         ·show ToksIn _ _ _ _
          rw[HQ3.out];exact ToksIn.empty _ _
       case rest =>
        obtain⟨fa,fn,fc,hc1,HE3,HF3⟩:=hcut
        replace H0:=hc1
        clear hc1 c0 HE2
        generalize wc=W3 at *
        -- A
        obtain⟨c0,_,_,_,_,_,_⟩:=H0.out.cells
        have hcl:K=6∨K=7∨(¬K=6∧¬K=7):=by omega
        rcases hcl with hcl|hcl|hcl
        ·have HQ4:Hid (q4 c.nf c.par (blkQ c.nf c.par u) K q=blkQ c.nf c.par u (q3 c.nf c.par K q).2):=by
          show _=_
          unfold q4
          rw[if_pos (by unfold hasA;simp;omega)]
         have HQ5:Hid (q5 c.nf c.par (blkQ c.nf c.par u) K q=blkQ c.nf c.par u (q4 c.nf c.par (blkQ c.nf c.par u) K q).2):=by
          show _=_
          unfold q5
          rw[if_pos (by omega)]
         have k6:((K:Int) == 6)=true:=by simp;omega
         have k7:((K:Int) == 7)=false:=by simp;omega
         clear hcl
         have cb2:=H0.out.rd.st.cb
         unfold QC.fb at cb2
         have HB1:Hid (Calls Tryz.prog 149 #[.int .i64 (dp+1),.pointer (some ⟨c.xw,0,none⟩),.pointer (some ⟨c.A+1,0,none⟩),.pointer (some ⟨c.xe,0,none⟩),.pointer (some ⟨c.xb,0,none⟩)] W3 fun e w'=>∃v,e=.returned v∧Hid (StmtsIn W3.heap.size w' u v (blkQ c.nf c.par u (q3 c.nf c.par K q).2).1)∧Hid (QR c w' (blkQ c.nf c.par u (q3 c.nf c.par K q).2).2)∧Sv c.A W3 w'):=HIH.out W3 _ H0.out.rd
         have hlt:=H0.out.lt
         go_upto_region 19 with (first
          | (go_at_call 149;refine HB1.out.mono ?_;rintro e x1 ⟨v1,rfl,A1,R1,s1⟩;obtain⟨aa,an,ac,rfl⟩:=A1.out.shape;have T1:=H0.out.call s1 R1.out;obtain⟨_,_,_,_,d4,_,df⟩:=T1.cells;have df4:=df 4))
         have HE4:Hid (ToksIn (X+1) (x1.setCell ⟨X,4,none⟩ (.slice aa an ac)) (.slice ea en ec) (q2 c.nf c.par K q).1):=(HE3.out.far (Nat.le_refl _) (s1.far hXp)).far (Nat.le_refl _) (Far.set _ _ _ _ (by omega))
         have HF4:Hid (ToksIn (X+1) (x1.setCell ⟨X,4,none⟩ (.slice aa an ac)) (.slice fa fn fc) (q3 c.nf c.par K q).1):=(HF3.out.far (Nat.le_refl _) (s1.far hXp)).far (Nat.le_refl _) (Far.set _ _ _ _ (by omega))
         have HA4:Hid (StmtsIn (X+1) (x1.setCell ⟨X,4,none⟩ (.slice aa an ac)) u (.slice aa an ac) (q4 c.nf c.par (blkQ c.nf c.par u) K q).1):=by
          show StmtsIn _ _ _ _ _
          rw[HQ4.out]
          exact (A1.out.low (by omega)).far (Nat.le_refl _) (by omega) (Far.set _ _ _ _ (by omega))
         have H4:Hid (QS c wr X (x1.setCell ⟨X,4,none⟩ (.slice aa an ac)) (K:Int) num (.slice ea en ec) (.slice fa fn fc) (.slice aa an ac) (.slice none 0 0) (q4 c.nf c.par (blkQ c.nf c.par u) K q).2):=by
          show QS _ _ _ _ _ _ _ _ _ _ _
          rw[HQ4.out];exact T1.put4 _
         generalize x1.setCell ⟨X,4,none⟩ (.slice aa an ac)=W4 at *
         clear HE3 HF3 H0 T1 d4 df df4 HB1 A1 R1 s1 c0 cb2 hlt
         replace H0:=H4
         clear H4
         obtain⟨c0,_,_,_,_,_,_⟩:=H0.out.cells
         have cb2:=H0.out.rd.st.cb
         unfold QC.fb at cb2
         have HB1:Hid (Calls Tryz.prog 149 #[.int .i64 (dp+1),.pointer (some ⟨c.xw,0,none⟩),.pointer (some ⟨c.A+1,0,none⟩),.pointer (some ⟨c.xe,0,none⟩),.pointer (some ⟨c.xb,0,none⟩)] W4 fun e w'=>∃v,e=.returned v∧Hid (StmtsIn W4.heap.size w' u v (blkQ c.nf c.par u (q4 c.nf c.par (blkQ c.nf c.par u) K q).2).1)∧Hid (QR c w' (blkQ c.nf c.par u (q4 c.nf c.par (blkQ c.nf c.par u) K q).2).2)∧Sv c.A W4 w'):=HIH.out W4 _ H0.out.rd
         have hlt:=H0.out.lt
         go_upto_region 21 with (first
          | (go_at_call 149;refine HB1.out.mono ?_;rintro e x1 ⟨v1,rfl,A1,R1,s1⟩;obtain⟨ba,bn,bc,rfl⟩:=A1.out.shape;have T1:=H0.out.call s1 R1.out;obtain⟨_,_,_,_,_,d5,df⟩:=T1.cells;have df5:=df 5))
         have HE5:Hid (ToksIn (X+1) (x1.setCell ⟨X,5,none⟩ (.slice ba bn bc)) (.slice ea en ec) (q2 c.nf c.par K q).1):=(HE4.out.far (Nat.le_refl _) (s1.far hXp)).far (Nat.le_refl _) (Far.set _ _ _ _ (by omega))
         have HF5:Hid (ToksIn (X+1) (x1.setCell ⟨X,5,none⟩ (.slice ba bn bc)) (.slice fa fn fc) (q3 c.nf c.par K q).1):=(HF4.out.far (Nat.le_refl _) (s1.far hXp)).far (Nat.le_refl _) (Far.set _ _ _ _ (by omega))
         have HA5:Hid (StmtsIn (X+1) (x1.setCell ⟨X,5,none⟩ (.slice ba bn bc)) u (.slice aa an ac) (q4 c.nf c.par (blkQ c.nf c.par u) K q).1):=(HA4.out.far (Nat.le_refl _) (by omega) (s1.far hXp)).far (Nat.le_refl _) (by omega) (Far.set _ _ _ _ (by omega))
         have HB5:Hid (StmtsIn (X+1) (x1.setCell ⟨X,5,none⟩ (.slice ba bn bc)) u (.slice ba bn bc) (q5 c.nf c.par (blkQ c.nf c.par u) K q).1):=by
          show StmtsIn _ _ _ _ _
          rw[HQ5.out]
          exact (A1.out.low (by omega)).far (Nat.le_refl _) (by omega) (Far.set _ _ _ _ (by omega))
         have H5:Hid (QS c wr X (x1.setCell ⟨X,5,none⟩ (.slice ba bn bc)) (K:Int) num (.slice ea en ec) (.slice fa fn fc) (.slice aa an ac) (.slice ba bn bc) (q5 c.nf c.par (blkQ c.nf c.par u) K q).2):=by
          show QS _ _ _ _ _ _ _ _ _ _ _
          rw[HQ5.out];exact T1.put5 _
         generalize x1.setCell ⟨X,5,none⟩ (.slice ba bn bc)=W5 at *
         clear HE4 HF4 HA4 H0 T1 d5 df df5 HB1 A1 R1 s1 cb2 hlt
         replace H0:=H5
         clear H5
         obtain⟨a0,a1,a2,a3,a4,a5,_⟩:=H0.out.cells
         have hlt5:=H0.out.lt
         have HSS:SS w.heap.size u W5 u7 its:=HS.out.far (Nat.le_refl _) (H0.out.sv.far (by omega))
         have HSS2:Hid (SS w.heap.size u W5 u7 its):=HSS
         have HRow:Hid (RowOK (Else w.heap.size u7) u W5 ⟨K,num,.slice ea en ec,.slice fa fn fc,.slice aa an ac,.slice ba bn bc⟩ (itQ c.nf c.par (blkQ c.nf c.par u) K q)):=row_of (by omega) (fun k hk=>by have:=(HS.out.own k hk).2;omega) HNum.out HE5.out HF5.out HA5.out HB5.out
         have Hown:Hid (∀k,u7.ownBlock=some k→w.heap.size≤k):=fun k hk=>(HS.out.own k hk).1
         obtain⟨it,hit⟩:∃it,itQ c.nf c.par (blkQ c.nf c.par u) K q=it:=⟨_,rfl⟩
         rw[hit]at HRow HX2
         obtain⟨⟨rest,b3⟩,hrs⟩:∃r:Rs,(q5 c.nf c.par (blkQ c.nf c.par u) K q).2=r:=⟨_,rfl⟩
         rw[hrs]at HX2 hq5 H0
         have hq5:rest.length<us.length:=hq5
         have hw5:w.heap.size≤W5.heap.size:=by omega
         clear HSS hit hrs HIH HNum c0
         go_wp2_with (first
          | (at_builtin;refine append_stmt W5 rfl _ _ rfl w.heap.size u u7 its it K num _ _ _ _ _ _ _ _ _ _ _ _ rfl HSS2.out HRow.out _ _ rfl rfl (by omega) hw5 ?_;intro v5 w5 S5 G5))
         go_roundg rest.length
         case rel =>
          refine⟨its++[it],rest,b3,fu,rfl,by omega,by simp;omega,S5,?_,G5.out.sv (B:=w.heap.size) Hown.out (Nat.le_refl _) (hsv.trans H0.out.sv),HX2⟩
          exact H0.out.rd.low w.heap.size t1 ⟨t2,t3,t4⟩ (G5.out.low Hown.out hw5)
         case measure=>omega
        ·have HQ4:Hid (q4 c.nf c.par (blkQ c.nf c.par u) K q=blkQ c.nf c.par u (q3 c.nf c.par K q).2):=by
          show _=_
          unfold q4
          rw[if_pos (by unfold hasA;simp;omega)]
         have HQ5:Hid (q5 c.nf c.par (blkQ c.nf c.par u) K q=(noSL,(q4 c.nf c.par (blkQ c.nf c.par u) K q).2)):=by
          show _=_
          unfold q5
          rw[if_neg (by omega)]
         have k6:((K:Int) == 6)=false:=by simp;omega
         have k7:((K:Int) == 7)=true:=by simp;omega
         clear hcl
         have cb2:=H0.out.rd.st.cb
         unfold QC.fb at cb2
         have HB1:Hid (Calls Tryz.prog 149 #[.int .i64 (dp+1),.pointer (some ⟨c.xw,0,none⟩),.pointer (some ⟨c.A+1,0,none⟩),.pointer (some ⟨c.xe,0,none⟩),.pointer (some ⟨c.xb,0,none⟩)] W3 fun e w'=>∃v,e=.returned v∧Hid (StmtsIn W3.heap.size w' u v (blkQ c.nf c.par u (q3 c.nf c.par K q).2).1)∧Hid (QR c w' (blkQ c.nf c.par u (q3 c.nf c.par K q).2).2)∧Sv c.A W3 w'):=HIH.out W3 _ H0.out.rd
         have hlt:=H0.out.lt
         go_upto_region 19 with (first
          | (go_at_call 149;refine HB1.out.mono ?_;rintro e x1 ⟨v1,rfl,A1,R1,s1⟩;obtain⟨aa,an,ac,rfl⟩:=A1.out.shape;have T1:=H0.out.call s1 R1.out;obtain⟨_,_,_,_,d4,_,df⟩:=T1.cells;have df4:=df 4))
         have HE4:Hid (ToksIn (X+1) (x1.setCell ⟨X,4,none⟩ (.slice aa an ac)) (.slice ea en ec) (q2 c.nf c.par K q).1):=(HE3.out.far (Nat.le_refl _) (s1.far hXp)).far (Nat.le_refl _) (Far.set _ _ _ _ (by omega))
         have HF4:Hid (ToksIn (X+1) (x1.setCell ⟨X,4,none⟩ (.slice aa an ac)) (.slice fa fn fc) (q3 c.nf c.par K q).1):=(HF3.out.far (Nat.le_refl _) (s1.far hXp)).far (Nat.le_refl _) (Far.set _ _ _ _ (by omega))
         have HA4:Hid (StmtsIn (X+1) (x1.setCell ⟨X,4,none⟩ (.slice aa an ac)) u (.slice aa an ac) (q4 c.nf c.par (blkQ c.nf c.par u) K q).1):=by
          show StmtsIn _ _ _ _ _
          rw[HQ4.out]
          exact (A1.out.low (by omega)).far (Nat.le_refl _) (by omega) (Far.set _ _ _ _ (by omega))
         have H4:Hid (QS c wr X (x1.setCell ⟨X,4,none⟩ (.slice aa an ac)) (K:Int) num (.slice ea en ec) (.slice fa fn fc) (.slice aa an ac) (.slice none 0 0) (q4 c.nf c.par (blkQ c.nf c.par u) K q).2):=by
          show QS _ _ _ _ _ _ _ _ _ _ _
          rw[HQ4.out];exact T1.put4 _
         generalize x1.setCell ⟨X,4,none⟩ (.slice aa an ac)=W4 at *
         clear HE3 HF3 H0 T1 d4 df df4 HB1 A1 R1 s1 c0 cb2 hlt
         replace H0:=H4
         clear H4
         obtain⟨c0,_,_,_,_,_,_⟩:=H0.out.cells
         go_upto_region 21 with (fail)
         rw[show (q4 c.nf c.par (blkQ c.nf c.par u) K q).2=(q5 c.nf c.par (blkQ c.nf c.par u) K q).2 by rw[HQ5.out]]at H0
         obtain⟨a0,a1,a2,a3,a4,a5,_⟩:=H0.out.cells
         have hlt5:=H0.out.lt
         have HSS:SS w.heap.size u W4 u7 its:=HS.out.far (Nat.le_refl _) (H0.out.sv.far (by omega))
         have HSS2:Hid (SS w.heap.size u W4 u7 its):=HSS
         have HRow:Hid (RowOK (Else w.heap.size u7) u W4 ⟨K,num,.slice ea en ec,.slice fa fn fc,.slice aa an ac,.slice none 0 0⟩ (itQ c.nf c.par (blkQ c.nf c.par u) K q)):=row_of (by omega) (fun k hk=>by have:=(HS.out.own k hk).2;omega) HNum.out HE4.out HF4.out HA4.out (by rw[HQ5.out];exact StmtsIn.nothing _ _ _)
         have Hown:Hid (∀k,u7.ownBlock=some k→w.heap.size≤k):=fun k hk=>(HS.out.own k hk).1
         obtain⟨it,hit⟩:∃it,itQ c.nf c.par (blkQ c.nf c.par u) K q=it:=⟨_,rfl⟩
         rw[hit]at HRow HX2
         obtain⟨⟨rest,b3⟩,hrs⟩:∃r:Rs,(q5 c.nf c.par (blkQ c.nf c.par u) K q).2=r:=⟨_,rfl⟩
         rw[hrs]at HX2 hq5 H0
         have hq5:rest.length<us.length:=hq5
         have hw5:w.heap.size≤W4.heap.size:=by omega
         clear HSS hit hrs HIH HNum c0
         go_wp2_with (first
          | (at_builtin;refine append_stmt W4 rfl _ _ rfl w.heap.size u u7 its it K num _ _ _ _ _ _ _ _ _ _ _ _ rfl HSS2.out HRow.out _ _ rfl rfl (by omega) hw5 ?_;intro v5 w5 S5 G5))
         go_roundg rest.length
         case rel =>
          refine⟨its++[it],rest,b3,fu,rfl,by omega,by simp;omega,S5,?_,G5.out.sv (B:=w.heap.size) Hown.out (Nat.le_refl _) (hsv.trans H0.out.sv),HX2⟩
          exact H0.out.rd.low w.heap.size t1 ⟨t2,t3,t4⟩ (G5.out.low Hown.out hw5)
         case measure=>omega
        ·have HQ4:Hid (q4 c.nf c.par (blkQ c.nf c.par u) K q=(noSL,(q3 c.nf c.par K q).2)):=by
          show _=_
          unfold q4
          rw[if_neg (by unfold hasA;simp;omega)]
         have HQ5:Hid (q5 c.nf c.par (blkQ c.nf c.par u) K q=(noSL,(q4 c.nf c.par (blkQ c.nf c.par u) K q).2)):=by
          show _=_
          unfold q5
          rw[if_neg (by omega)]
         have k6:((K:Int) == 6)=false:=by simp;omega
         have k7:((K:Int) == 7)=false:=by simp;omega
         clear hcl
         go_upto_region 21 with (fail)
         rw[show (q3 c.nf c.par K q).2=(q5 c.nf c.par (blkQ c.nf c.par u) K q).2 by rw[HQ5.out,HQ4.out]]at H0
         obtain⟨a0,a1,a2,a3,a4,a5,_⟩:=H0.out.cells
         have hlt5:=H0.out.lt
         have HSS:SS w.heap.size u W3 u7 its:=HS.out.far (Nat.le_refl _) (H0.out.sv.far (by omega))
         have HSS2:Hid (SS w.heap.size u W3 u7 its):=HSS
         have HRow:Hid (RowOK (Else w.heap.size u7) u W3 ⟨K,num,.slice ea en ec,.slice fa fn fc,.slice none 0 0,.slice none 0 0⟩ (itQ c.nf c.par (blkQ c.nf c.par u) K q)):=row_of (by omega) (fun k hk=>by have:=(HS.out.own k hk).2;omega) HNum.out HE3.out HF3.out (by rw[HQ4.out];exact StmtsIn.nothing _ _ _) (by rw[HQ5.out];exact StmtsIn.nothing _ _ _)
         have Hown:Hid (∀k,u7.ownBlock=some k→w.heap.size≤k):=fun k hk=>(HS.out.own k hk).1
         obtain⟨it,hit⟩:∃it,itQ c.nf c.par (blkQ c.nf c.par u) K q=it:=⟨_,rfl⟩
         rw[hit]at HRow HX2
         obtain⟨⟨rest,b3⟩,hrs⟩:∃r:Rs,(q5 c.nf c.par (blkQ c.nf c.par u) K q).2=r:=⟨_,rfl⟩
         rw[hrs]at HX2 hq5 H0
         have hq5:rest.length<us.length:=hq5
         have hw5:w.heap.size≤W3.heap.size:=by omega
         clear HSS hit hrs HIH HNum c0
         go_wp2_with (first
          | (at_builtin;refine append_stmt W3 rfl _ _ rfl w.heap.size u u7 its it K num _ _ _ _ _ _ _ _ _ _ _ _ rfl HSS2.out HRow.out _ _ rfl rfl (by omega) hw5 ?_;intro v5 w5 S5 G5))
         go_roundg rest.length
         case rel =>
          refine⟨its++[it],rest,b3,fu,rfl,by omega,by simp;omega,S5,?_,G5.out.sv (B:=w.heap.size) Hown.out (Nat.le_refl _) (hsv.trans H0.out.sv),HX2⟩
          exact H0.out.rd.low w.heap.size t1 ⟨t2,t3,t4⟩ (G5.out.low Hown.out hw5)
         case measure=>omega
theorem qblock_succ (c:QC) (u:Nat) (hu:u≤500) (IH:QB c u):QB c (u+1):=by
 intro w q h
 obtain⟨ws,b⟩:=q
 by_cases hob:hdW ws=obW∧b=true
 ·obtain⟨h1,rfl⟩:=hob
  cases ws with
  | nil=>exact absurd h1 (by decide)
  | cons x ws =>
   have hx:x=obW:=h1
   subst hx
   have e:blkQ c.nf c.par (u+1) (obW::ws,true)=(outT (loopQ c.nf c.par (blkQ c.nf c.par u) (ws.length+1) (ws,true)),(loopQ c.nf c.par (blkQ c.nf c.par u) (ws.length+1) (ws,true)).2):=by
    rw[blkQ,openQ_ob]
    rfl
   rw[e]
   exact qblock_on c u IH w ws _ (by show _=_;omega) (by omega) (by omega) h
 ·have e:blkQ c.nf c.par (u+1) (ws,b)=(noSL,(ws.tail,false)):=by
   have eo:openQ (ws,b)=(ws.tail,false):=by
    unfold openQ
    by_cases hb:b=true
    ·subst hb
     have:¬hdW ws=obW:=fun x=>hob ⟨x,rfl⟩
     simp[this]
    ·simp at hb;subst hb;rfl
   rw[blkQ,eo,loopQ_off (by simp)]
   rfl
  rw[e]
  refine (qblock_off c w (ws,b) _ h ?_).mono ?_
  ·by_cases hb:b=true
   ·exact Or.inl fun x=>hob ⟨x,hb⟩
   ·right;right;simpa using hb
  ·rintro e w' ⟨rfl,H,s⟩
   exact⟨_,rfl,StmtsIn.nothing _ _ _,H,s⟩
theorem qblock (c:QC):∀u,u≤500→QB c u
 | 0,_=>qblock_zero c
 | u+1,h=>qblock_succ c u (by omega) (qblock c u (by omega))
end Go.Proofs.YtfaokaohhchdhaaGreatDoor
