/- The tokens of an expression, by the reckoning's reader. -/
import Derived.Test.YtfaokaohhchdhaaGreatDoorPart35
namespace Go.Proofs.YtfaokaohhchdhaaGreatDoor
open Go.RowKit Go.Maps
theorem at_ins2 {P:Program} {ops:Array Oper} {Q:Exit→Act→World→Prop} {t ty:TypeId} {m k v:Operand} {pos:String} {after:Array Edge} {rest:List Oper} {a:Act} {w:World}
  (h:wpList P ops Q ({ dst:=none,op:=.insert t m k v,type:=ty,pos:=pos,after:=after,guard:=none }::rest) a w):wpList P ops Q ({ dst:=none,op:=.insert t m k v,type:=ty,pos:=pos,after:=after,guard:=none }::rest) a w:=h
theorem after_five {w1 w2:World} {cs:Array Value} {t:TypeId} {b:Nat} (hb:b=w1.heap.size+1) (hg:((w1.alloc (.cells cs t)).alloc (.map #[] 0)).grownBy w2 (some b)):Below w1.heap.size w1 w2∧w2.heap[w1.heap.size]?=some (.cells cs t (0,0))∧w1.heap.size+2≤w2.heap.size:=by
 subst hb
 have b2:Below w1.heap.size w1 ((w1.alloc (.cells cs t)).alloc (.map #[] 0)):=below_step (below_alloc _ _) (below_alloc _ _)
 have hz:((w1.alloc (.cells cs t)).alloc (.map #[] 0)).heap.size=w1.heap.size+2:=by simp
 refine⟨⟨hg.os.trans b2.os,hg.tape.trans b2.tape,hg.output.trans b2.output,Nat.le_trans b2.size hg.size,fun k hk=>(hg.block k (by omega) (fun e=>by have:=Option.some.inj e;omega)).trans (b2.block k hk)⟩,?_,by rw[←hz];exact hg.size⟩
 rw[hg.block w1.heap.size (by omega) (fun e=>by have:=Option.some.inj e;omega)]
 have e:=(below_alloc (w1.alloc (.cells cs t)) (.map #[] 0)).block w1.heap.size (by simp)
 rw[e]
 exact (MapKept.heap_alloc w1 _).1
theorem box_two {w:World} {B:Nat} {a b:Value} {t:TypeId} (h:w.heap[B]?=some (.cells #[a,b] t (0,0))):w.cell? ⟨B,0,none⟩=some a∧w.cell? ⟨B,1,none⟩=some b∧w.frozen? ⟨B,0,none⟩=false∧w.frozen? ⟨B,1,none⟩=false:=by
 refine⟨?_,?_,?_,?_⟩
 ·unfold World.cell?;rw[h];rfl
 ·unfold World.cell?;rw[h];rfl
 ·unfold World.frozen?;rw[h];rfl
 ·unfold World.frozen?;rw[h];rfl
theorem box_set {w:World} {B:Nat} {a b x y:Value} {t:TypeId} (h:w.heap[B]?=some (.cells #[a,b] t (0,0))):((w.setCell ⟨B,0,none⟩ x).setCell ⟨B,1,none⟩ y).heap[B]?=some (.cells #[x,y] t (0,0)):=by
 rw[heap_setCell_same _ B 1 _ _ y (heap_setCell_same w B 0 _ _ x h)]
 rfl
theorem save_two (B:Nat) (w:World) (x y:Value):Save B w ((w.setCell ⟨B,0,none⟩ x).setCell ⟨B,1,none⟩ y):=by
 have h:Below B w ((w.setCell ⟨B,0,none⟩ x).setCell ⟨B,1,none⟩ y):=((Below.refl B w).setCell (Nat.le_refl _) _).setCell (Nat.le_refl _) _
 refine⟨h.os,h.tape,h.output,h.size,fun k hk hx=>?_⟩
 rw[Below.heap_setCell _ ⟨B,1,none⟩ y k hx]
 exact Below.heap_setCell w ⟨B,0,none⟩ x k hx
theorem TS.sv {A B:Nat} {w w':World} {v:Value} {l:List (Int×Int)} (h:TS B w v l) (hA:A+2≤B) (hs:Sv A w w'):TS B w' v l:=by
 refine⟨h.1,?_⟩
 rcases h.2 with⟨rfl,h0⟩|⟨g,cap,cur,rfl,h1,h2,h3⟩
 ·exact Or.inl ⟨rfl,h0⟩
 ·exact Or.inr ⟨g,cap,cur,rfl,h1,by rw[hs.block g (Array.getElem?_eq_some_iff.1 h2).1 (by omega) (by omega)];exact h2,h3⟩
theorem TS.lt {B:Nat} {w:World} {v:Value} {l:List (Int×Int)} (h:TS B w v l):∀k,v.ownBlock=some k→k<w.heap.size:=by
 intro k hk
 rcases h.2 with⟨rfl,_⟩|⟨g,cap,cur,rfl,hb,hg,_⟩
 ·cases hk
 ·cases hk;exact (Array.getElem?_eq_some_iff.1 hg).1
theorem op_text (s:Wd) (n:Nat) (t:Int×Int) (h:tokW 3 ((n:Int)+1)=s):opTo s (n+1) t=(3,(n:Int)+1):=by
 have e:tokW 3 ((n:Int)+1)=bs (opL (n+1)):=tokW_op (n+1)
 rw[opTo_succ,if_pos (by rw[←e];exact h)]
 rfl
theorem op_not (s:Wd) (n:Nat) (t:Int×Int) (h:¬tokW 3 ((n:Int)+1)=s):opTo s (n+1) t=opTo s n t:=by
 have e:tokW 3 ((n:Int)+1)=bs (opL (n+1)):=tokW_op (n+1)
 rw[opTo_succ,if_neg (by rw[←e];exact h)]
set_option maxRecDepth 20000 in
set_option maxHeartbeats 4000000 in
theorem qexpr_on (c:QC) (w:World) (ws:List Wd) (h:QR c w (ws,true)) :
  Calls Tryz.prog 144 #[.pointer (some ⟨c.A+1,0,none⟩),.pointer (some ⟨c.xw,0,none⟩),.pointer (some ⟨c.x5,0,none⟩)] w fun e w'=>∃v,e=.returned v∧Hid (ToksIn w.heap.size w' v (exprQ c.nf c.par ws 0 1).1)∧Hid (QR c w' (exprQ c.nf c.par ws 0 1).2)∧Sv c.A w w':=by
 have HR:Hid (QR c w (ws,true)):=h
 obtain⟨t1,t2,t3,t4⟩:=h.lts
 have hlen:=h.len
 have o3:=h.st.o3
 have lowN:=h.st.lowN
 have hnf:=h.st.nf4
 have HPar:Hid (∀i,i<c.nf→parErr (c.par i)=0):=h.st.parOK
 clear h
 go_enter Tryz.func144,Tryz.ntmps144
 go_upto_region 3 with (fail)
 go_loopg [4,5] ws.length (fun k q i wr=>∃(acc:List (Int×Int)) (us:List Wd) (A:Int),us.length=k∧acc.length≤24∧A≤1+2*acc.length∧i=.int .i64 A∧-100≤A∧Hid (TS w.heap.size wr q acc)∧Hid (QR c wr (us,true))∧Sv c.A w wr∧Hid (exprQ c.nf c.par ws 0 1=(acc++(exprQ c.nf c.par us acc.length A).1,(exprQ c.nf c.par us acc.length A).2)))
 case atStart=>exact⟨[],ws,1,rfl,by simp,by simp,rfl,by omega,⟨rfl,Or.inl ⟨rfl,rfl⟩⟩,HR,Sv.refl _ w,(by show _=_;simp)⟩
 case round =>
  obtain⟨acc,us,A,hk,hal,hA2,rfl,hA3,HT,HU,hsv,HX⟩:=hrel
  obtain⟨k0,kf⟩:=HU.out.okc
  have cw:=HU.out.st.cw
  unfold QC.fw at cw
  have k0:wr.cell? ⟨c.A+1,0,none⟩=some (.bool true):=k0
  by_cases hA:0<A
  ·have hws:=HU.out.small
   have hws:(hdW us).size≤100000:=hws
   have HWd:Hid (Calls Tryz.prog 143 #[.pointer (some ⟨c.A,0,none⟩),.pointer (some ⟨c.x4,0,none⟩),.pointer (some ⟨c.A+1,0,none⟩)] wr fun e w'=>e=.returned (.string (hdW us))∧Hid (QR c w' (wordQ (us,true)))∧Sv c.A wr w'):=wordR c wr (us,true) HU.out
   obtain⟨s,hs⟩:∃s,hdW us=s:=⟨_,rfl⟩
   have HS:Hid (hdW us=s):=hs
   rw[hs]at hws HWd
   clear hs
   go_upto_region 7 with (first
    | (go_at_call 143;refine HWd.out.mono ?_;rintro e w1 ⟨rfl,H1,s1⟩))
   have hz1:=H1.out.lts
   have HE1:Hid (∀wi,Below w1.heap.size w1 wi→Env c.N wi):=fun wi hb=>H1.out.st.env.below (hb.mono (by omega))
   have hmm:=@run_makeMap Tryz.prog
   have hum:Tryz.prog.underlying 147=some (.map 3 9):=under93
   have HTr:Hid (∀x wi,Calls Tryz.prog 145 #[.string s,.string (markF x)] wi fun e w'=>e=.returned (.string (behind s x))∧w'=wi):=fun x wi=>Tryz.strings_TrimPrefix s (markF x) wi
   have HAt:Hid (∀x wi,Below w1.heap.size w1 wi→Calls Tryz.prog 142 #[.string (behind s x)] wi fun e w'=>((∃v,e=.returned (.tuple #[.int .i64 v,.nilIface])∧Hid (Lib.atoiAll (behind s x).data.toList=.ok v))∨(∃v g,e=.returned (.tuple #[.int .i64 v,.iface 255 (.pointer (some ⟨g,0,none⟩))])∧Hid (∀u,¬Lib.atoiAll (behind s x).data.toList=.ok u)))∧Below wi.heap.size wi w'):=fun x wi hb =>
    atoiE c.N (behind s x) (by have:=behind_le s x;omega) wi (HE1.out wi hb)
   have HTk:Hid (∀x v wi,numK x=true→Lib.atoiAll (behind s x).data.toList=.ok v→Below w1.heap.size w1 wi→Calls Tryz.prog 146 #[.agg #[.int .i64 x,.int .i64 v]] wi fun e w'=>e=.returned (.string (tokW x v))∧Below wi.heap.size wi w'):=fun x v wi hx hv hb =>
    tokText c.N x v (tokFit_num hx (atoi_bound hv)) wi (HE1.out wi hb) (by have:=hb.size;omega)
   go_wp2_with (first
    | (with_reducible refine at_ins2 ?_;refine five_map _ _ rfl rfl rfl rfl rfl rfl rfl rfl rfl rfl rfl rfl rfl rfl rfl _ rfl (by simp) ?_;intro w2 htab hgr;have haf:=after_five rfl hgr)
    | (at_range;refine range_five _ rfl _ rfl _ rfl htab ?_;intro w3 cnt0 hrg0 hb3))
   go_frame
   obtain⟨hb2,hbx2,hz2⟩:=haf
   have hb3':Below w1.heap.size w1 w3:=hb2.trans (hb3.mono hb2.size)
   have hbx3:w3.heap[w1.heap.size]?=some (.cells #[.int .i64 0,.int .i64 0] 199 (0,0)):=by rw[hb3.block _ (by omega)];exact hbx2
   go_loopw [8] (fun _ wi=>∃(left:Int→Bool) (cnt:Nat) (k z:Int),Hid (Rg wi (w1.heap.size+1) w2.heap.size left cnt)∧Hid (wi.heap[w1.heap.size]?=some (.cells #[.int .i64 k,.int .i64 z] 199 (0,0)))∧Below w1.heap.size w1 wi∧Hid (HitsRel s left k z)) (fun _ wi=>wi.rangeLeft (w1.heap.size+1) w2.heap.size)
   case atStart=>exact⟨numK,cnt0,0,0,hrg0,hbx3,hb3',HitsRel.start s⟩
   case round =>
    clear htab hgr hb2 hbx2 hrg0 hb3 hb3' hbx3
    obtain⟨left,cnt,k,z,HRg,HBx,hbi,HH⟩:=hrel
    go_wp2_with (first
     | (at_next;refine next_five _ rfl _ rfl (w1.heap.size+1) w2.heap.size left cnt rfl HRg.out ?_ ?_))
    ·intro hl0
     have HKZ:Hid (hitsQ s=(k,z)):=HH.out.done hl0.out
     have hl2:=HRg.out.lt
     have hz5:w1.heap.size<wr.heap.size:=by omega
     clear hl0 HH HRg HTr HAt HTk hmm hum hl2
     have HTo:Hid (∀(m:Int) wi,1≤m→m≤5→Below w1.heap.size w1 wi→Calls Tryz.prog 146 #[.agg #[.int .i64 3,.int .i64 m]] wi fun e w'=>e=.returned (.string (tokW 3 m))∧Below wi.heap.size wi w'):=fun m wi h1 h5 hb =>
      tokText c.N 3 m (Or.inl ⟨rfl,h1,h5⟩) wi (HE1.out wi hb) (by have:=hb.size;omega)
     go_upto_region 14 with (fail)
     go_loopw [12] (fun i wi=>∃(n:Nat) (k2 z2:Int),n≤5∧i=.int .i64 ((n:Int)+1)∧Hid (wi.heap[w1.heap.size]?=some (.cells #[.int .i64 k2,.int .i64 z2] 199 (0,0)))∧Below w1.heap.size w1 wi∧w1.heap.size<wi.heap.size∧Hid (opTo s n (k,z)=(k2,z2))) (fun i _=>6 - (intOf i).toNat)
     case atStart=>exact⟨0,k,z,by omega,rfl,HBx,hbi,hz5,rfl⟩
     case round =>
      obtain⟨n,k2,z2,hn5,rfl,HB2,hb2i,hz2i,HOp⟩:=hrel
      by_cases hn:n<5
      ·have hni:(n:Int)+1≤5:=by omega
       have hn0:0≤(n:Int):=by omega
       go_wp2_with (first
        | (go_at_call 146;refine (HTo.out _ _ (by omega) (by omega) hb2i).mono ?_;rintro e w6 ⟨rfl,b6⟩;have hB6:Hid (w6.heap[w1.heap.size]?=some (.cells #[.int .i64 k2,.int .i64 z2] 199 (0,0))):=(b6.block _ hz2i).trans HB2.out;obtain⟨q0,q1,f0,f1⟩:=box_two hB6.out))
       ·rename_i heq
        have ht:tokW 3 ((n:Int)+1)=s:=by rw[strEq]at heq;simpa using heq
        have s6:=save_two w1.heap.size w6 (.int .i64 3) (.int .i64 ((n:Int)+1))
        have hz6:=b6.size
        have hz7:=s6.size
        exact⟨⟨n+1,3,(n:Int)+1,by omega,by go_num,box_set hB6.out,(hb2i.trans (b6.mono hb2i.size)).trans (s6.low (Nat.le_refl _) (by omega)),by omega,op_text s n (k,z) ht⟩,by simp[intOf];omega⟩
       ·rename_i heq
        have ht:¬tokW 3 ((n:Int)+1)=s:=by rw[strEq]at heq;simpa using heq
        have hz6:=b6.size
        exact⟨⟨n+1,k2,z2,by omega,by go_num,hB6,hb2i.trans (b6.mono hb2i.size),by omega,(op_not s n (k,z) ht).trans HOp.out⟩,by simp[intOf];omega⟩
      ·obtain rfl:n=5:=by omega
       have HTq:Hid (tokQ (hdW us)=(k2,z2)):=by
        show _=_
        rw[HS.out];unfold tokQ;rw[HKZ.out];exact HOp.out
       have HQ2:Hid (QR c wr (wordQ (us,true))):=H1.out.keep hb2i
       obtain⟨loc,bv,hfn⟩:=HQ2.out.st.funs
       obtain⟨af,capf,hfv,hfn9⟩:=hfn.shape
       have hf5:=HQ2.out.st.f5
       have hs1z:=s1.size
       have hsvz:=hsv.size
       have hsi:Sv c.A w wr:=(hsv.trans s1).trans (Sv.of hb2i)
       have HT2:Hid (TS w.heap.size wr u4 acc):=(HT.out.sv (by omega) s1).keep hb2i
       have hown:∀k,u4.ownBlock=some k→k<w1.heap.size:=fun k hk=>Nat.lt_of_lt_of_le (HT.out.lt k hk) hs1z
       obtain⟨q0,q1,f0,f1⟩:=box_two HB2.out
       have HFn:Hid (FunsAt c.A wr c.fv c.nf c.par loc bv):=hfn
       have HFV:Hid (c.fv=.slice af c.nf capf):=hfv
       rw[hfv]at hf5
       have hsz2:w.heap.size≤wr.heap.size:=hsi.size
       have HG:Hid (∀w4 v4,Grow wr u4 w4 v4→Below w.heap.size wr w4∧w4.heap[w1.heap.size]?=some (.cells #[.int .i64 k2,.int .i64 z2] 199 (0,0))∧QR c w4 (wordQ (us,true))∧Sv c.A w w4):=fun w4 v4 g=>by
        have hlow:=g.low (B:=w.heap.size) (fun k hk=>HT.out.own k hk) hsz2
        refine⟨hlow,?_,HQ2.out.low w.heap.size t1 ⟨t2,t3,t4⟩ hlow,g.sv (fun k hk=>HT.out.own k hk) (Nat.le_refl _) hsi⟩
        rw[g.block w1.heap.size hz2i (fun e=>by have:=hown _ e;omega)]
        exact HB2.out
       have HCk:Hid (∀wi,Calls Tryz.prog 147 #[.agg #[.int .i64 k2,.int .i64 z2],.slice af c.nf capf,.int .i64 6] wi fun e w'=>e=.returned (.int .i64 (tokErr k2 z2 c.nf 6))∧Below wi.heap.size wi w'):=fun wi=>refCheckTok k2 z2 af c.nf capf 6 wi
       obtain⟨m,hm⟩:∃m,(acc++[(k2,z2)]).length=m:=⟨_,rfl⟩
       have hma:m=acc.length+1:=by rw[←hm];simp
       have Hown:Hid (∀k,u4.ownBlock=some k→k<w1.heap.size):=hown
       clear hown
       have hx5:c.x5<w.heap.size:=by omega
       by_cases hgd:tokErr k2 z2 c.nf 6=0∧acc.length<24
       ·obtain⟨hu0,hX2⟩:=exprQ_good (nf:=c.nf) (par:=c.par) (us:=us) (n:=acc.length) hA (by rw[HTq.out];exact hgd)
        rw[HTq.out]at hX2
        have has:=asks_range hgd.1 HPar.out
        have HAs:Hid (∀wi,Below w.heap.size wr wi→Calls Tryz.prog 148 #[.agg #[.int .i64 k2,.int .i64 z2],.slice af c.nf capf] wi fun e w'=>e=.returned (.int .i64 (asksOf k2 z2 c.par))∧Below wi.heap.size wi w'):=fun wi hb=>by
         have:=HFn.out.below (hb.mono (by omega:c.A≤w.heap.size))
         rw[hfv]at this
         exact refAsks c.A k2 z2 _ c.nf c.par loc bv wi this (fun hk=>tokErr_call hgd.1 hk)
        have HX3:Hid (exprQ c.nf c.par ws 0 1=((acc++[(k2,z2)])++(exprQ c.nf c.par us.tail (acc++[(k2,z2)]).length (A+asksOf k2 z2 c.par - 1)).1,(exprQ c.nf c.par us.tail (acc++[(k2,z2)]).length (A+asksOf k2 z2 c.par - 1)).2)):=by
         show _=_
         rw[HX.out,hX2,hm,hma];simp
        rw[hgd.1]at HCk
        have HWq:Hid (wordQ (us,true)=(us.tail,true)):=by
         show _=_
         cases us with
         | nil=>exact absurd rfl hu0
         | cons x us=>rfl
        have hul:us.tail.length<us.length:=by
         cases us with
         | nil=>exact absurd rfl hu0
         | cons x us=>simp
        have hmi:(m:Int)≤24:=by omega
        have hmn:(0:Int)≤(m:Int):=by omega
        have HMa:Hid (m=acc.length+1):=hma
        clear hma
        have HM:Hid ((acc++[(k2,z2)]).length=m):=hm
        generalize asksOf k2 z2 c.par=aa at *
        clear hX2 hm HTq HKZ HOp HX HFn hfn hfv HS HPar hgd HTo HE1 HWd
        go_upto_region 19 with (first
         | (at_builtin;refine append_tok wr rfl _ _ rfl w.heap.size u4 acc k2 z2 rfl HT2.out _ _ rfl rfl (by omega) hsz2 ?_;intro v4 w4 H4 G4;obtain⟨ad,cp,hv4⟩:=own_shape H4.out;rw[HM.out]at hv4;subst hv4))
        obtain⟨hlow,hbx4,HQ4,hs4⟩:=HG.out _ _ G4.out
        have HQ4':Hid (QR c w4 (wordQ (us,true))):=HQ4
        clear q0 q1 f0 f1 hf5
        have g5:=HQ4.st.f5
        rw[HFV.out]at g5
        have hz4:w1.heap.size<w4.heap.size:=by have:=G4.out.size;omega
        have HB4:Hid (w4.heap[w1.heap.size]?=some (.cells #[.int .i64 k2,.int .i64 z2] 199 (0,0))):=hbx4
        obtain⟨q0,q1,f0,f1⟩:=box_two hbx4
        clear HQ4 hbx4 f0 f1
        have hz45:w.heap.size≤w4.heap.size:=hlow.size |> Nat.le_trans hsz2
        go_wp2_with (first
         | (go_at_call 147;refine (HCk.out _).mono ?_;rintro e w5 ⟨rfl,b5⟩;have q0:=(b5.cell (p:=⟨w1.heap.size,0,none⟩) hz4).trans (box_two HB4.out).1;have q1:=(b5.cell (p:=⟨w1.heap.size,1,none⟩) hz4).trans (box_two HB4.out).2.1;have g5':=(b5.cell (p:=⟨c.x5,0,none⟩) (Nat.lt_of_lt_of_le hx5 hz45)).trans g5)
         | (go_at_call 148;refine (HAs.out _ (hlow.trans (b5.mono hz45))).mono ?_;rintro e w6 ⟨rfl,b6⟩))
        go_roundg us.tail.length
        case rel =>
         refine⟨acc++[(k2,z2)],us.tail,_,rfl,by rw[HM.out];omega,by rw[HM.out,HMa.out];omega,rfl,by omega,(H4.out.keep b5).keep b6,?_,(hs4.trans (Sv.of b5)).trans (Sv.of b6),HX3⟩
         show QR _ _ _
         rw[←HWq.out]
         exact (HQ4'.out.keep b5).keep b6
        case measure=>omega
       ·have HX3:Hid (exprQ c.nf c.par ws 0 1=(acc++[(k2,z2)],(us.tail,false))):=by
         show _=_
         rw[HX.out,exprQ_bad hA (by rw[HTq.out];exact hgd),HTq.out]
        have HM:Hid ((acc++[(k2,z2)]).length=m):=hm
        have HMa:Hid (m=acc.length+1):=hma
        have HWq:Hid ((wordQ (us,true)).1=us.tail):=rfl
        have hbd:tokErr k2 z2 c.nf 6=0→(24:Int)<(m:Int):=fun e=>by
         have:¬acc.length<24:=fun h=>hgd ⟨e,h⟩
         omega
        generalize tokErr k2 z2 c.nf 6=er at *
        clear hm hma HTq HKZ HOp HX HFn hfn hfv HS HPar hgd HTo HE1 HWd
        by_cases her:er=0
        ·subst her
         have hmi:=hbd rfl
         clear hbd
         go_upto_region 19 with (first
          | (at_builtin;refine append_tok wr rfl _ _ rfl w.heap.size u4 acc k2 z2 rfl HT2.out _ _ rfl rfl (by omega) hsz2 ?_;intro v4 w4 H4 G4;obtain⟨ad,cp,hv4⟩:=own_shape H4.out;rw[HM.out]at hv4;subst hv4))
         obtain⟨hlow,hbx4,HQ4,hs4⟩:=HG.out _ _ G4.out
         have HQ4':Hid (QR c w4 (wordQ (us,true))):=HQ4
         clear q0 q1 f0 f1 hf5
         have g5:=HQ4.st.f5
         rw[HFV.out]at g5
         obtain⟨q0,q1,f0,f1⟩:=box_two hbx4
         clear HQ4 hbx4 f0 f1
         go_wp2_with (first
          | (go_at_call 147;refine (HCk.out _).mono ?_;rintro e w5 ⟨rfl,b5⟩;obtain⟨p0,pf⟩:=(HQ4'.out.keep b5).okc))
         go_ret
         have sd:=Sv.set c.A w5 (c.A+1) 0 (.bool false) (Or.inr rfl)
         refine⟨_,rfl,?_,?_,(hs4.trans (Sv.of b5)).trans sd⟩
         ·show ToksIn _ _ _ _
          rw[HX3.out]
          exact ((H4.out.keep b5).sv (by omega) sd).toks (by rw[HM.out,HMa.out];omega)
         ·show QR _ _ _
          rw[HX3.out]
          exact (HQ4'.out.keep b5).down false
        ·have her2:(er != 0)=true:=by simp[her]
         clear hbd her
         go_upto_region 19 with (first
          | (at_builtin;refine append_tok wr rfl _ _ rfl w.heap.size u4 acc k2 z2 rfl HT2.out _ _ rfl rfl (by omega) hsz2 ?_;intro v4 w4 H4 G4;obtain⟨ad,cp,hv4⟩:=own_shape H4.out;rw[HM.out]at hv4;subst hv4))
         obtain⟨hlow,hbx4,HQ4,hs4⟩:=HG.out _ _ G4.out
         have HQ4':Hid (QR c w4 (wordQ (us,true))):=HQ4
         clear q0 q1 f0 f1 hf5
         have g5:=HQ4.st.f5
         rw[HFV.out]at g5
         obtain⟨q0,q1,f0,f1⟩:=box_two hbx4
         clear HQ4 hbx4 f0 f1
         go_wp2_with (first
          | (go_at_call 147;refine (HCk.out _).mono ?_;rintro e w5 ⟨rfl,b5⟩;obtain⟨p0,pf⟩:=(HQ4'.out.keep b5).okc))
         go_ret
         have sd:=Sv.set c.A w5 (c.A+1) 0 (.bool false) (Or.inr rfl)
         refine⟨_,rfl,?_,?_,(hs4.trans (Sv.of b5)).trans sd⟩
         ·show ToksIn _ _ _ _
          rw[HX3.out]
          exact ((H4.out.keep b5).sv (by omega) sd).toks (by rw[HM.out,HMa.out];omega)
         ·show QR _ _ _
          rw[HX3.out]
          exact (HQ4'.out.keep b5).down false
    ·intro x w4 cnt1 hx hrg1 hlt s4 hen
     have hl2:=HRg.out.lt
     have hB4:w4.heap[w1.heap.size]?=some (.cells #[.int .i64 k,.int .i64 z] 199 (0,0)):=by rw[s4.block w1.heap.size (by omega) (by omega)];exact HBx.out
     have HB4:Hid (w4.heap[w1.heap.size]?=some (.cells #[.int .i64 k,.int .i64 z] 199 (0,0))):=hB4
     have hb4:Below w1.heap.size w1 w4:=hbi.trans (s4.low (by omega) (by omega))
     have hz4:w1.heap.size<w4.heap.size:=by have:=s4.size;omega
     have HM:Hid (cnt=cnt):=rfl
     have HRl:Hid (wr.rangeLeft (w1.heap.size+1) w2.heap.size=cnt):=HRg.out.left_eq
     clear hB4 HBx HRg
     go_wp2_with (first
      | (go_at_call 145;refine (HTr.out x _).mono ?_;rintro e w5 ⟨rfl,h5⟩;rw[h5];clear h5)
      | (go_at_call 142;refine (HAt.out x _ hb4).mono ?_;rintro e w5 ⟨⟨v,rfl,hv⟩|⟨v,g,rfl,hv⟩,b5⟩)
      | (go_at_call 146;refine (HTk.out x v w5 hx.out hv.out (hb4.trans (b5.mono hb4.size))).mono ?_;rintro e w6 ⟨rfl,b6⟩;have b56:Below w4.heap.size w4 w6:=b5.trans (b6.mono b5.size);have hB6:Hid (w6.heap[w1.heap.size]?=some (.cells #[.int .i64 k,.int .i64 z] 199 (0,0))):=(b56.block _ hz4).trans HB4.out;obtain⟨q0,q1,f0,f1⟩:=box_two hB6.out))
     ·rename_i heq
      have ht:tokW x v=s:=by rw[strEq]at heq;simpa using heq
      have hhit:hitQ s x.toNat=some v:=by rw[hit_ok hx.out hv.out,if_pos ht]
      have s6:=save_two w1.heap.size w6 (.int .i64 x) (.int .i64 v)
      have hz6:=b56.size
      have hrg7:=(hrg1.out.keep b56).kept s6 (by omega) (by omega)
      exact⟨⟨_,cnt1,x,v,hrg7,box_set hB6.out,(hb4.trans (b56.mono hb4.size)).trans (s6.low (Nat.le_refl _) (by omega)),HitsRel.hit hx.out hhit⟩,by rw[hrg7.left_eq,HRl.out];exact hlt.out⟩
     ·rename_i heq
      have ht:¬tokW x v=s:=by rw[strEq]at heq;simpa using heq
      have hhit:hitQ s x.toNat=none:=by rw[hit_ok hx.out hv.out,if_neg ht]
      have hrg7:=hrg1.out.keep b56
      exact⟨⟨_,cnt1,k,z,hrg7,hB6,hb4.trans (b56.mono hb4.size),HH.out.miss hhit⟩,by rw[hrg7.left_eq,HRl.out];exact hlt.out⟩
     ·have hhit:hitQ s x.toNat=none:=hit_bad hv.out
      have hrg7:=hrg1.out.keep b5
      exact⟨⟨_,cnt1,k,z,hrg7,(b5.block _ hz4).trans HB4.out,hb4.trans (b5.mono hb4.size),HH.out.miss hhit⟩,by rw[hrg7.left_eq,HRl.out];exact hlt.out⟩
  ·have HF:Hid (exprQ c.nf c.par ws 0 1=(acc,(us,true))):=by
    show _=_
    rw[HX.out,exprQ_stop hA];simp
   go_wp2_with fail
   go_ret
   refine⟨_,rfl,?_,?_,hsv⟩
   ·show ToksIn _ _ _ _
    rw[HF.out]
    exact HT.out.toks (by omega)
   ·show QR _ _ _
    rw[HF.out]
    exact HU.out
set_option maxHeartbeats 1000000 in
theorem qexpr_off (c:QC) (w:World) (ws:List Wd) (h:QR c w (ws,false)) :
  Calls Tryz.prog 144 #[.pointer (some ⟨c.A+1,0,none⟩),.pointer (some ⟨c.xw,0,none⟩),.pointer (some ⟨c.x5,0,none⟩)] w fun e w'=>e=.returned (.slice none 0 0)∧w'=w:=by
 have k0:w.cell? ⟨c.A+1,0,none⟩=some (.bool false):=h.okc.1
 clear h
 go_enter Tryz.func144,Tryz.ntmps144
 go_upto_region 3 with (fail)
 go_loopw [4,5] (fun q i wr=>q=.slice none 0 0∧i=.int .i64 1∧wr=w) (fun _ _ _=>0)
 case atStart=>exact⟨rfl,rfl,rfl⟩
 case round =>
  obtain⟨rfl,rfl,rfl⟩:=hrel
  go_wp2_with fail
  go_ret
  exact⟨rfl,rfl⟩
theorem qexpr (c:QC) (w:World) (q:Rs) (h:QR c w q) :
  Calls Tryz.prog 144 #[.pointer (some ⟨c.A+1,0,none⟩),.pointer (some ⟨c.xw,0,none⟩),.pointer (some ⟨c.x5,0,none⟩)] w fun e w'=>∃v,e=.returned v∧Hid (ToksIn w.heap.size w' v (exprS c.nf c.par q).1)∧Hid (QR c w' (exprS c.nf c.par q).2)∧Sv c.A w w':=by
 obtain⟨ws,b⟩:=q
 cases b with
 | true=>exact qexpr_on c w ws h
 | false =>
  refine (qexpr_off c w ws h).mono ?_
  rintro e w' ⟨rfl,rfl⟩
  exact⟨_,rfl,ToksIn.empty _ _,h,Sv.refl _ _⟩
end Go.Proofs.YtfaokaohhchdhaaGreatDoor
