/- The text of statements between braces, by the reckoning: one depth more. -/
import Derived.Test.YtfaokaohhchdhaaGreatDoorPart37
namespace Go.Proofs.YtfaokaohhchdhaaGreatDoor
open Go.RowKit Go.Maps
set_option maxRecDepth 20000 in
set_option maxHeartbeats 4000000 in
theorem blockText_succ (N nf:Nat) (par:Nat→Int) (locals:Int) (hl:locals≤6) (hnf:nf≤1000) (d:Nat) (HB:Hid (BTextOK N nf par locals d)):BTextOK N nf par locals (d+1):=by
 intro l T w hN he hsp hs hes hlen
 obtain⟨a,cap,rfl,hn,hc⟩:=hs
 have HFin:Hid (blkT (d+1) T=(123::blankL (catTo (itW d T) T.len))++[32,125]):=blkT_succ d T
 have hl1:(blankL (catTo (itW d T) T.len)).length+3≤9000000:=by
  rw[HFin.out]at hlen;simp only[List.length_append,List.length_cons,List.length_nil]at hlen;omega
 have HE:Hid (Env N w):=he
 have HSp:Hid (Spc N w):=hsp
 have HES:Hid (errs (stErr nf par locals) (d+1) T=0):=hes
 have HC:Hid (T.len=0∨∃b o,a=some ⟨b,o,none⟩∧b<N∧∀i,i<T.len →
   ∃ve vf va vb,w.cell? ⟨b,o+i*6,none⟩=some (.int .i64 (T.nd i).kind)∧w.cell? ⟨b,o+i*6+1,none⟩=some (.int .i64 (T.nd i).num)∧w.cell? ⟨b,o+i*6+2,none⟩=some ve∧w.cell? ⟨b,o+i*6+3,none⟩=some vf ∧
    w.cell? ⟨b,o+i*6+4,none⟩=some va∧w.cell? ⟨b,o+i*6+5,none⟩=some vb ∧
    ToksAt N w ve (T.nd i).ne (T.nd i).ek (T.nd i).ez∧ToksAt N w vf (T.nd i).nf (T.nd i).fk (T.nd i).fz∧StmtsAt N w d va (T.sub i false)∧StmtsAt N w d vb (T.sub i true)):=hc
 clear he hsp hlen hc hes
 go_enter Tryz.func187,Tryz.ntmps187
 go_upto_region 3 with (fail)
 go_loopw [3,8] (fun q i wr=>∃j:Nat,j≤T.len∧i=.int .i64 j∧q=.string (bs (123::blankL (catTo (itW d T) j)))∧Below w.heap.size w wr) (fun _ i _=>T.len - (intOf i).toNat)
 case atStart=>exact⟨0,by omega,rfl,rfl,Below.refl _ _⟩
 case round =>
  obtain⟨j,hj0,rfl,rfl,hbw⟩:=hrel
  by_cases hj:j<T.len
  ·obtain h|⟨b,o,rfl,hb,hct⟩:=HC.out
   ·omega
   obtain⟨ve,vf,va,vb,c0,c1,c2,c3,c4,c5,t1,t2,s1,s2⟩:=hct j hj
   have hbN:b<w.heap.size:=Nat.lt_of_lt_of_le hb hN
   rw[←hbw.cell (p:=⟨b,o+j*6,none⟩) hbN]at c0
   rw[←hbw.cell (p:=⟨b,o+j*6+1,none⟩) hbN]at c1
   rw[←hbw.cell (p:=⟨b,o+j*6+2,none⟩) hbN]at c2
   rw[←hbw.cell (p:=⟨b,o+j*6+3,none⟩) hbN]at c3
   rw[←hbw.cell (p:=⟨b,o+j*6+4,none⟩) hbN]at c4
   rw[←hbw.cell (p:=⟨b,o+j*6+5,none⟩) hbN]at c5
   have hji:(j:Int)<(T.len:Int):=by omega
   obtain⟨x1,x2,x3⟩:=errs_item HES.out hj
   have F:=stFacts hl x1
   have hx24:(T.nd j).ne≤24∧(T.nd j).nf≤24:=st_24 x1
   have hk1:=F.k1
   have hk8:=F.k8
   obtain⟨K,hK⟩:∃K:Nat,(T.nd j).kind=K:=⟨(T.nd j).kind.toNat,by omega⟩
   have hK1:1≤K:=by omega
   have hK8:K≤8:=by omega
   obtain⟨k,hkK⟩:∃k,k=K - 1:=⟨_,rfl⟩
   have hwr:IntKind.i64.wrap ((K:Int) - 1)=(k:Int):=by
    rw[show (K:Int) - 1=(k:Int) by omega]
    rw[IntKind.wrap_i64];omega
   have hi0:(0:Int)≤(k:Int):=by omega
   have hi8:(k:Int)<8:=by omega
   have HkK:Hid (k=K - 1):=hkK
   clear hkK
   obtain⟨ye,ze,rfl,_⟩:=t1.shape
   obtain⟨yf,zf,rfl,_⟩:=t2.shape
   obtain⟨ya,za,rfl,_⟩:=s1.shape
   obtain⟨yb,zb,rfl,_⟩:=s2.shape
   rw[hK]at c0
   have HBox:=boxSix (w:=wr) (t:=196) (K:=(K:Int)) (z:=(T.nd j).num) (xe:=.slice ye (T.nd j).ne ze) (xf:=.slice yf (T.nd j).nf zf) (xa:=.slice ya (T.sub j false).len za) (xb:=.slice yb (T.sub j true).len zb) rfl
   have hal:=below_alloc wr (.cells #[.int .i64 (K:Int),.int .i64 (T.nd j).num,.slice ye (T.nd j).ne ze,.slice yf (T.nd j).nf zf,.slice ya (T.sub j false).len za,.slice yb (T.sub j true).len zb] 196)
   have HAl:Hid (Below wr.heap.size wr (wr.alloc (.cells #[.int .i64 (K:Int),.int .i64 (T.nd j).num,.slice ye (T.nd j).ne ze,.slice yf (T.nd j).nf zf,.slice ya (T.sub j false).len za,.slice yb (T.sub j true).len zb] 196))):=hal
   have HT1:Hid (ToksAt N w (.slice ye (T.nd j).ne ze) (T.nd j).ne (T.nd j).ek (T.nd j).ez):=t1
   have HT2:Hid (ToksAt N w (.slice yf (T.nd j).nf zf) (T.nd j).nf (T.nd j).fk (T.nd j).fz):=t2
   have HS1:Hid (StmtsAt N w d (.slice ya (T.sub j false).len za) (T.sub j false)):=s1
   have HS2:Hid (StmtsAt N w d (.slice yb (T.sub j true).len zb) (T.sub j true)):=s2
   have HF:Hid (StF nf locals (T.nd j) (T.sub j false) (T.sub j true)):=F
   clear hct t1 t2 s1 s2 hal F
   go_upto_region 5 with (fail)
   generalize wr.alloc (.cells #[.int .i64 (K:Int),.int .i64 (T.nd j).num,.slice ye (T.nd j).ne ze,.slice yf (T.nd j).nf zf,.slice ya (T.sub j false).len za,.slice yb (T.sub j true).len zb] 196)=W at *
   clear c0 c1 c2 c3 c4 c5
   have hbW:Below w.heap.size w W:=hbw.trans (HAl.out.mono hbw.size)
   have HFd:Hid (∀w3,Below W.heap.size W w3→Calls Tryz.prog 151 #[.string ⟨#[115,101,116,32,112,117,116,32,115,97,121,32,112,97,117,115,101,32,103,111,32,105,102,32,119,104,105,108,101,32,114,101,116,117,114,110]⟩] w3 fun e w'=>∃g,e=.returned (.slice (some ⟨g,0,none⟩) 8 8) ∧
     (∀K,1≤K→K≤8→w'.cell? ⟨g,K - 1,none⟩=some (.string (bs (stL K))))∧Below w3.heap.size w3 w'):=fun w3 h3=>fieldsG N w3 (HSp.out.below ((hbW.trans (h3.mono hbW.size)).mono hN))
   have b0:Below W.heap.size W W:=Below.refl _ _
   have hlj:(123::blankL (catTo (itW d T) j)).length+(32::stL K).length+(blankL (nPart (T.nd j))).length+(blankL (toksW (T.nd j).ek (T.nd j).ez (T.nd j).ne)).length+(blankL (toksW (T.nd j).fk (T.nd j).fz (T.nd j).nf)).length+(blankL (aPart (blkW d) (T.nd j) (T.sub j false))).length+(blankL (bPart (blkW d) (T.nd j) (T.sub j true))).length≤9000001:=by
    have h1:=blankTo_le (itW d T) (j:=j+1) (n:=T.len) (by omega)
    rw[catTo,blankL_append,itT,hK]at h1
    simp only[List.length_append,List.length_cons,Int.toNat_natCast]at h1 ⊢
    omega
   have HNx:Hid (123::blankL (catTo (itW d T) (j+1))=(((((123::blankL (catTo (itW d T) j))++(32::stL K))++blankL (nPart (T.nd j)))++(blankL (toksW (T.nd j).ek (T.nd j).ez (T.nd j).ne)++blankL (toksW (T.nd j).fk (T.nd j).fz (T.nd j).nf)))++blankL (aPart (blkW d) (T.nd j) (T.sub j false)))++blankL (bPart (blkW d) (T.nd j) (T.sub j true))):=by
    show _=_
    rw[catTo,blankL_append,itT,hK]
    simp only[List.append_assoc,List.cons_append,Int.toNat_natCast]
   have hadd1:∀w,(Op.stringOp .add ⟨#[32]⟩ (bs (stL K))).run Tryz.prog w=.ok (.string (bs (32::stL K))) w:=fun w=>by
    have:=add_blank (bs (stL K)) (by rw[bs_data];simp only[List.length_cons]at hlj;omega) w
    rwa [bs_data]at this
   have hadd2:=add_two (123::blankL (catTo (itW d T) j)) (32::stL K) (by omega)
   have HLj:Hid ((123::blankL (catTo (itW d T) j)).length+(32::stL K).length+(blankL (nPart (T.nd j))).length+(blankL (toksW (T.nd j).ek (T.nd j).ez (T.nd j).ne)).length+(blankL (toksW (T.nd j).fk (T.nd j).fz (T.nd j).nf)).length+(blankL (aPart (blkW d) (T.nd j) (T.sub j false))).length+(blankL (bPart (blkW d) (T.nd j) (T.sub j true))).length≤9000001):=hlj
   clear hlj
   generalize 123::blankL (catTo (itW d T) j)=X0 at *
   generalize 32::stL K=X1 at *
   have HEv:Hid (∀w3,Below W.heap.size W w3→N≤w3.heap.size∧Below N w w3):=fun w3 h3=>by
    have h4:=hbW.trans (h3.mono hbW.size)
    exact⟨Nat.le_trans hN h4.size,h4.mono hN⟩
   have HIt:Hid (∀w3,Below W.heap.size W w3→Calls Tryz.prog 85 #[.int .i64 (T.nd j).num] w3 fun e w'=>e=.returned (.string (numW (T.nd j).num))∧Below w3.heap.size w3 w'):=fun w3 h3 =>
    itoa N _ HF.out.num.1 HF.out.num.2 w3 (HE.out.below (HEv.out w3 h3).2)
   have HX1:Hid (∀w3,Below W.heap.size W w3→Calls Tryz.prog 218 #[.slice ye (T.nd j).ne ze] w3 fun e w'=>e=.returned (.string (bs (blankL (toksW (T.nd j).ek (T.nd j).ez (T.nd j).ne))))∧Below w3.heap.size w3 w'):=fun w3 h3 =>
    exprText N _ _ _ _ nf locals hl hnf hx24.1 (HF.out.tok 0 (by omega)) w3 (HEv.out w3 h3).1 (HE.out.below (HEv.out w3 h3).2) (HT1.out.below (HEv.out w3 h3).2)
   have HX2:Hid (∀w3,Below W.heap.size W w3→Calls Tryz.prog 218 #[.slice yf (T.nd j).nf zf] w3 fun e w'=>e=.returned (.string (bs (blankL (toksW (T.nd j).fk (T.nd j).fz (T.nd j).nf))))∧Below w3.heap.size w3 w'):=fun w3 h3 =>
    exprText N _ _ _ _ nf locals hl hnf hx24.2 (HF.out.tok 1 (by omega)) w3 (HEv.out w3 h3).1 (HE.out.below (HEv.out w3 h3).2) (HT2.out.below (HEv.out w3 h3).2)
   have HA:Hid ((blkT d (T.sub j false)).length≤9000000→∀w3,Below W.heap.size W w3→Calls Tryz.prog 187 #[.slice ya (T.sub j false).len za] w3 fun e w'=>e=.returned (.string (bs (blkT d (T.sub j false))))∧Below w3.heap.size w3 w'):=fun hle w3 h3 =>
    HB.out _ _ w3 (HEv.out w3 h3).1 (HE.out.below (HEv.out w3 h3).2) (HSp.out.below (HEv.out w3 h3).2) (HS1.out.below (HEv.out w3 h3).2) x2 hle
   have HBB:Hid ((blkT d (T.sub j true)).length≤9000000→∀w3,Below W.heap.size W w3→Calls Tryz.prog 187 #[.slice yb (T.sub j true).len zb] w3 fun e w'=>e=.returned (.string (bs (blkT d (T.sub j true))))∧Below w3.heap.size w3 w'):=fun hle w3 h3 =>
    HB.out _ _ w3 (HEv.out w3 h3).1 (HE.out.below (HEv.out w3 h3).2) (HSp.out.below (HEv.out w3 h3).2) (HS2.out.below (HEv.out w3 h3).2) x3 hle
   have q0:=(HBox.out W b0).1
   go_cut [3] from 9 to 62 (fun q wx=>q=.string (bs (X0++X1))∧Below W.heap.size W wx)
   case first =>
    go_region_with (first
     | (go_at_call 151;refine (HFd.out _ (by first|exact b0|exact b0.drew)).mono ?_;rintro e w9 ⟨g,rfl,hg,b9'⟩;have b9:Below W.heap.size W w9:=(by first|exact b0.trans b9'|exact b0.drew.trans b9');have hg1:=hg K hK1 hK8;rw[←HkK.out]at hg1;have q0:=(HBox.out _ b9).1))
    all_goals (try go_wp2_with fail)
    all_goals go_meet
    all_goals exact⟨rfl,(by first|exact b9|exact b9.drew)⟩
   case rest =>
    obtain⟨rfl,b9⟩:=hcut
    clear HFd HES HC hadd1 hadd2 q0
    have hlj:=HLj.out
    generalize hY0:X0++X1=Y0 at *
    have hY0l:Y0.length=X0.length+X1.length:=by rw[←hY0,List.length_append]
    have HPa:Hid (blankL (toksW (T.nd j).ek (T.nd j).ez (T.nd j).ne)++blankL (toksW (T.nd j).fk (T.nd j).fz (T.nd j).nf)=blankL (toksW (T.nd j).ek (T.nd j).ez (T.nd j).ne)++blankL (toksW (T.nd j).fk (T.nd j).fz (T.nd j).nf)):=rfl
    generalize blankL (toksW (T.nd j).ek (T.nd j).ez (T.nd j).ne)=P3 at *
    generalize blankL (toksW (T.nd j).fk (T.nd j).fz (T.nd j).nf)=P4 at *
    have h3:=add_two P3 P4 (by omega)
    have hPl:(P3++P4).length=P3.length+P4.length:=List.length_append
    clear HPa hY0
    generalize P3++P4=PP at *
    by_cases hn:K≤2
    ·have hni:(K:Int)≤2:=by omega
     have hk6:((K:Int) == 6)=false:=by simp;omega
     have hk7:((K:Int) == 7)=false:=by simp;omega
     have hP:nPart (T.nd j)=[numW (T.nd j).num]:=by unfold nPart;rw[if_pos (by omega)]
     have hA0:aPart (blkW d) (T.nd j) (T.sub j false)=[]:=by unfold aPart;rw[if_neg (by omega)]
     have hB0:bPart (blkW d) (T.nd j) (T.sub j true)=[]:=by unfold bPart;rw[if_neg (by omega)]
     rw[hP,hA0,hB0,blankL_one]at HNx hlj
     have h1:=add_blank (numW (T.nd j).num) (by simp only[List.length_cons]at hlj;omega)
     generalize 32::(numW (T.nd j).num).data.toList=P2 at *
     have h2:=add_two Y0 P2 (by omega)
     have hYl:(Y0++P2).length=Y0.length+P2.length:=List.length_append
     generalize Y0++P2=Y at *
     have h4:=add_two Y PP (by omega)
     obtain⟨q0,q1,q2,q3,q4,q5⟩:=HBox.out _ b9
     clear hlj HLj hP hA0 hB0 hYl hPl hY0l HA HBB
     go_upto_region 8 with (first|(go_at_call 85;refine (HIt.out _ b9).mono ?_;rintro e w10 ⟨rfl,b10⟩;replace b9:=(b9.trans (b10.mono b9.size):Below W.heap.size W w10);obtain⟨q0,q1,q2,q3,q4,q5⟩:=HBox.out _ b9))
     go_cut [3] from 9 to 62 (fun q wx=>q=.string (bs (Y++PP))∧Below W.heap.size W wx)
     case first =>
      go_region_with (first|(go_at_call 218;(first|(with_reducible refine (HX1.out _ ?_).mono ?_)|(with_reducible refine (HX2.out _ ?_).mono ?_));(first|exact b9|exact b9.drew);rintro e w11 ⟨rfl,b11⟩;replace b9:=(by first|exact b9.trans (b11.mono b9.size)|exact b9.drew.trans (b11.mono b9.size):Below W.heap.size W w11);obtain⟨q0,q1,q2,q3,q4,q5⟩:=HBox.out _ b9))
      all_goals (try go_wp2_with fail)
      all_goals go_meet
      all_goals exact⟨rfl,(by first|exact b9|exact b9.drew)⟩
     case rest =>
      obtain⟨rfl,b9⟩:=hcut
      obtain⟨q0,q1,q2,q3,q4,q5⟩:=HBox.out _ b9
      go_wp2_with fail
      go_roundw
      case rel=>exact⟨j+1,by omega,by go_num,(by rw[HNx.out];simp[blankL]),hbW.trans (b9.mono hbW.size)⟩
      case measure=>simp[intOf];omega
    ·have hni:¬(K:Int)≤2:=by omega
     have hP:nPart (T.nd j)=[]:=by unfold nPart;rw[if_neg (by omega)]
     rw[hP]at HNx hlj
     have e0:blankL []=[]:=rfl
     rw[e0,List.append_nil]at HNx
     rw[e0]at hlj
     generalize Y0=Y at *
     have h4:=add_two Y PP (by omega)
     have hYl:(Y++PP).length=Y.length+PP.length:=List.length_append
     obtain⟨q0,q1,q2,q3,q4,q5⟩:=HBox.out _ b9
     clear HLj hP e0
     go_upto_region 8 with (fail)
     go_cut [3] from 9 to 62 (fun q wx=>q=.string (bs (Y++PP))∧Below W.heap.size W wx)
     case first =>
      go_region_with (first|(go_at_call 218;(first|(with_reducible refine (HX1.out _ ?_).mono ?_)|(with_reducible refine (HX2.out _ ?_).mono ?_));(first|exact b9|exact b9.drew);rintro e w11 ⟨rfl,b11⟩;replace b9:=(by first|exact b9.trans (b11.mono b9.size)|exact b9.drew.trans (b11.mono b9.size):Below W.heap.size W w11);obtain⟨q0,q1,q2,q3,q4,q5⟩:=HBox.out _ b9))
      all_goals (try go_wp2_with fail)
      all_goals go_meet
      all_goals exact⟨rfl,(by first|exact b9|exact b9.drew)⟩
     case rest =>
      obtain⟨rfl,b9⟩:=hcut
      obtain⟨q0,q1,q2,q3,q4,q5⟩:=HBox.out _ b9
      generalize Y++PP=Z at *
      have hc3:(K=3∨K=4∨K=5∨K=8)∨K=7∨K=6:=by omega
      rcases hc3 with hc|rfl|rfl
      ·have hk6:((K:Int) == 6)=false:=by simp;omega
       have hk7:((K:Int) == 7)=false:=by simp;omega
       have hA0:aPart (blkW d) (T.nd j) (T.sub j false)=[]:=by unfold aPart;rw[if_neg (by omega)]
       have hB0:bPart (blkW d) (T.nd j) (T.sub j true)=[]:=by unfold bPart;rw[if_neg (by omega)]
       rw[hA0,hB0]at HNx
       clear hA0 hB0 hlj hYl HA HBB h3 h4 HX1 HX2 HIt
       go_wp2_with fail
       go_roundw
       case rel=>exact⟨j+1,by omega,by go_num,(by rw[HNx.out];simp[blankL]),hbW.trans (b9.mono hbW.size)⟩
       case measure=>simp[intOf];omega
      ·have hA0:aPart (blkW d) (T.nd j) (T.sub j false)=blkW d (T.sub j false):=by unfold aPart;rw[if_pos (by omega)]
       have hB0:bPart (blkW d) (T.nd j) (T.sub j true)=[]:=by unfold bPart;rw[if_neg (by omega)]
       rw[hA0,hB0,blkT_cons]at HNx hlj
       simp only[List.length_cons]at hlj
       have h5:=add_blank (bs (blkT d (T.sub j false))) (by rw[bs_data];omega)
       rw[bs_data]at h5
       have h6:=add_two Z (32::blkT d (T.sub j false)) (by simp only[List.length_cons];omega)
       have HA1:Hid (∀w3,Below W.heap.size W w3→Calls Tryz.prog 187 #[.slice ya (T.sub j false).len za] w3 fun e w'=>e=.returned (.string (bs (blkT d (T.sub j false))))∧Below w3.heap.size w3 w'):=HA.out (by omega)
       generalize blkT d (T.sub j false)=PA at *
       clear hA0 hB0 hlj hYl HA HBB h3 h4 HX1 HX2 HIt
       go_wp2_with (first|(go_at_call 187;refine (HA1.out _ b9).mono ?_;rintro e w12 ⟨rfl,b12⟩;replace b9:=(b9.trans (b12.mono b9.size):Below W.heap.size W w12);obtain⟨q0,q1,q2,q3,q4,q5⟩:=HBox.out _ b9))
       go_roundw
       case rel=>exact⟨j+1,by omega,by go_num,(by rw[HNx.out];simp[blankL]),hbW.trans (b9.mono hbW.size)⟩
       case measure=>simp[intOf];omega
      ·have hA0:aPart (blkW d) (T.nd j) (T.sub j false)=blkW d (T.sub j false):=by unfold aPart;rw[if_pos (by omega)]
       have hB0:bPart (blkW d) (T.nd j) (T.sub j true)=blkW d (T.sub j true):=by unfold bPart;rw[if_pos (by omega)]
       rw[hA0,hB0,blkT_cons,blkT_cons]at HNx hlj
       simp only[List.length_cons]at hlj
       have h5:=add_blank (bs (blkT d (T.sub j false))) (by rw[bs_data];omega)
       rw[bs_data]at h5
       have h6:=add_two Z (32::blkT d (T.sub j false)) (by simp only[List.length_cons];omega)
       have h7:=add_blank (bs (blkT d (T.sub j true))) (by rw[bs_data];omega)
       rw[bs_data]at h7
       have h8:=add_two (Z++(32::blkT d (T.sub j false))) (32::blkT d (T.sub j true)) (by simp only[List.length_append,List.length_cons];omega)
       have HA1:Hid (∀w3,Below W.heap.size W w3→Calls Tryz.prog 187 #[.slice ya (T.sub j false).len za] w3 fun e w'=>e=.returned (.string (bs (blkT d (T.sub j false))))∧Below w3.heap.size w3 w'):=HA.out (by omega)
       have HB1:Hid (∀w3,Below W.heap.size W w3→Calls Tryz.prog 187 #[.slice yb (T.sub j true).len zb] w3 fun e w'=>e=.returned (.string (bs (blkT d (T.sub j true))))∧Below w3.heap.size w3 w'):=HBB.out (by omega)
       generalize blkT d (T.sub j false)=PA at *
       generalize blkT d (T.sub j true)=PB at *
       generalize hQA:32::PA=QA at *
       generalize hQB:32::PB=QB at *
       generalize hZA:Z++QA=ZA at *
       clear hA0 hB0 hlj hYl HA HBB h3 h4 HX1 HX2 HIt
       have HZA:Hid (Z++QA=ZA):=hZA
       clear hQA hQB hZA
       go_wp2_with (first|(go_at_call 187;(first|(with_reducible refine (HA1.out _ ?_).mono ?_)|(with_reducible refine (HB1.out _ ?_).mono ?_));(exact b9);rintro e w12 ⟨rfl,b12⟩;replace b9:=(b9.trans (b12.mono b9.size):Below W.heap.size W w12);obtain⟨q0,q1,q2,q3,q4,q5⟩:=HBox.out _ b9))
       go_roundw
       case rel=>exact⟨j+1,by omega,by go_num,(by rw[HNx.out]),hbW.trans (b9.mono hbW.size)⟩
       case measure=>simp[intOf];omega
  ·obtain rfl:j=T.len:=by omega
   have hadd:∀w,(Op.stringOp .add (bs (123::blankL (catTo (itW d T) T.len))) ⟨#[32,125]⟩).run Tryz.prog w=.ok (.string (bs (blkT (d+1) T))) w:=fun w=>by
    have:=add_two (123::blankL (catTo (itW d T) T.len)) [32,125] (by simp only[List.length_cons,List.length_nil];omega) w
    rw[←HFin.out]at this
    exact this
   go_wp2_with fail
   go_ret
   exact⟨rfl,hbw⟩
end Go.Proofs.YtfaokaohhchdhaaGreatDoor
