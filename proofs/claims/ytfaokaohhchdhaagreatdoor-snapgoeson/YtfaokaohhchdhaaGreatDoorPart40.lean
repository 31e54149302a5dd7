/- One token's error, and how many expressions it asks for: by the program and by the reckoning beside it. -/
import Derived.Test.YtfaokaohhchdhaaGreatDoorBlockSucc
namespace Go.Proofs.YtfaokaohhchdhaaGreatDoor
section
open Go.RowKit
theorem formErr_yes {s:Nd} {la lb:Nat} (h:¬(s.kind<1∨8<s.kind∨(¬s.num=0∧¬s.kind=1∧¬s.kind=2)∨(0<s.ne∧s.kind=4)∨(0<s.nf∧¬s.kind=2)∨(0<la∧¬s.kind=6∧¬s.kind=7)∨(0<lb∧¬s.kind=6))):true=(formErr s la lb == 0):=by
 unfold formErr;rw[if_neg h];rfl
theorem formErr_no {s:Nd} {la lb:Nat} (h:s.kind<1∨8<s.kind∨(¬s.num=0∧¬s.kind=1∧¬s.kind=2)∨(0<s.ne∧s.kind=4)∨(0<s.nf∧¬s.kind=2)∨(0<la∧¬s.kind=6∧¬s.kind=7)∨(0<lb∧¬s.kind=6)):false=(formErr s la lb == 0):=by
 unfold formErr;rw[if_pos h];rfl
theorem headErr_ways {i:Nat} {p l:Int} (h:¬headErr i p l=0):p<0∨(0≤p∧3<p)∨(0≤p∧p≤3∧l<p)∨(0≤p∧p≤3∧¬l<p∧6<l)∨(0≤p∧p≤3∧¬l<p∧¬6<l∧i=0∧0<p):=by
 unfold headErr at h
 by_cases hh:p<0∨3<p∨l<p∨6<l∨(i=0∧0<p)
 ·omega
 ·rw[if_neg hh]at h;exact absurd rfl h
theorem headErr_good {i:Nat} {p l:Int} (h:headErr i p l=0):0≤p∧p≤3∧¬l<p∧¬6<l∧(i=0→¬0<p):=by
 unfold headErr at h
 split at h
 ·cases h
 ·omega
end
section
open Go.RowKit Go.Maps
theorem join_row (B:Nat) (v:Value) (R:List Wd) (w:World) (hw:WS B w v R) (hl:R.length≤8000) (ht:(textL R).length≤1000000) :
  Calls Tryz.prog 86 #[v,.string (bs [32])] w fun e w'=>e=.returned (.string (bs (textL R)))∧Below w.heap.size w w':=by
 rcases hw.2 with⟨rfl,h0⟩|⟨g,cap,cur,rfl,hb,hg,hn,hm,hsz,htk⟩
 ·have e:R=[]:=List.eq_nil_of_length_eq_zero h0
  subst e
  refine (Tryz.strings_Join_none none 0 (bs [32]) w).mono ?_
  rintro e w' ⟨rfl,rfl⟩
  exact⟨rfl,Below.refl _ _⟩
 ·refine (Tryz.strings_Join g 0 cap R (bs [32]) w (fun j x hj=>?_) (hw.lt g rfl) (by omega) hn (by rw[bs_data];show (textL R).length≤_;omega)).mono ?_
  ·have hj2:j<R.length:=(List.getElem?_eq_some_iff.1 hj).1
   have:=hw.cellAt j (by omega)
   rw[Nat.zero_add,this]
   rw[List.getElem?_map,hj];rfl
  ·rintro e w' ⟨rfl,hb2⟩
   exact⟨rfl,hb2⟩
def funIt (d:Nat) (par loc:Nat→Int) (body:Nat→SL) (i:Nat):List Wd:=funWs d (par i) (loc i) (body i)
theorem keepFun {wr w1:World} {p l:Int} {bv v v':Value} (hv:∀k,v.ownBlock=some k→k<wr.heap.size) (h:Grow (wr.alloc (.cells #[.int .i64 p,.int .i64 l,bv] 111)) v w1 v') :
  w1.cell? ⟨wr.heap.size,0,none⟩=some (.int .i64 p)∧w1.cell? ⟨wr.heap.size,1,none⟩=some (.int .i64 l)∧w1.cell? ⟨wr.heap.size,2,none⟩=some bv :=
 ⟨boxG h hv 0 rfl,boxG h hv 1 rfl,boxG h hv 2 rfl⟩
theorem blankL_eq:∀ws:List Wd,blankL ws=Lib.joinTail [32] (ws.map (·.data.toList))
 | []=>rfl
 | w::ws=>by
  have:=blankL_eq ws
  rw[List.map_cons,joinTail_cons,←this]
  simp[blankL]
theorem blockText (N nf:Nat) (par:Nat→Int) (locals:Int) (hl:locals≤6) (hnf:nf≤1000):∀d,BTextOK N nf par locals d
 | 0=>blockText_zero N nf par locals
 | d+1=>blockText_succ N nf par locals hl hnf d (blockText N nf par locals hl hnf d)
theorem funW_data:funW.data.toList=[102,117,110]:=by decide +kernel
theorem textL_fun (d:Nat) (p l:Int) (T:SL):textL (funWs d p l T)=(((([102,117,110,32]++Lib.itoa p)++[32])++Lib.itoa l)++[32])++blkT d T:=by
 have e:funWs d p l T=funW::([numW p]++([numW l]++blkW d T)):=by simp[funWs]
 unfold textL
 rw[e,List.map_cons,Lib.join_cons,←blankL_eq,blankL_append,blankL_append,blankL_one,blankL_one,blkT_cons,funW_data]
 simp[numW,bs_data]
theorem funIt_ne (d:Nat) (par loc:Nat→Int) (body:Nat→SL) (i:Nat):funIt d par loc body i ≠ []:=by
 unfold funIt funWs;simp
theorem step_str {ops:Array Oper} {o:Oper} {a:Act} {K:Act→World→Prop} {Q:Exit→Act→World→Prop} {E:Prop} (w:World) (hgd:o.guard=none) (s y:Operand)
  (ho:o.op=.call { callee:=.builtin .append,args:=#[s,y],argTypes:=#[127,127] }) (base:Nat) (v:Value) (R:List Wd) (x:Wd) (hs:a.eval s=v) (hown:WS base w v R)
  (t:TypeId) (B:Nat) (hB:w.heap.size=B) (hy:a.eval y=.slice (some ⟨B,0,none⟩) 1 1) (hR:R.length+1≤1000000) (hbase:base≤w.heap.size)
  (h:∀v' w2 (R':List Wd),Hid (R'=R++[x])→WS base w2 v' R'→Grow w v w2 v'→K (a.put o.dst v') w2) :
  if Region.wanted o (yielded ops a.tmps)=true then Oper.wp Tryz.prog o a (w.alloc (.cells #[.string x] t)) K Q else E:=by
 subst hB
 obtain⟨i0,hi,hz0,hz1,hz2⟩:=info_parts info9
 have hk:Below w.heap.size w (w.alloc (.cells #[.string x] t)):=below_alloc _ _
 refine step_append_lies _ hgd s y 127 ho base 9 i0 (.string ⟨#[]⟩) 1 16 Tryz.underlying127 hi hz0 hz1 hz2 rfl (by decide) v _ _ hs (hown.keep hk) ⟨w.heap.size,0,none⟩ 1 1 ([x].map Value.string) hy rfl (fun j u hj=>?_) (strs_one _) (by decide) (by unfold maxLen;omega) (by omega) (Nat.le_trans hbase hk.size) _ rfl ?_
 ·rw[WideShapes.add_plain,Nat.zero_add,World.cell?_alloc_new]
  show (([x].map Value.string).toArray)[j]?=some u
  rw[List.getElem?_toArray]
  exact hj
 ·intro g cap w2 h1 h2 h4 _
  refine h _ w2 (R++[x]) (show _=_ from rfl) ?_ ⟨h2.os,h2.tape,h2.output,Nat.le_trans hk.size h2.size,fun k hk1 hk2=>?_,fun k hk1 hk2=>?_⟩
  ·unfold WS
   rw[List.length_append,List.map_append]
   exact h1
  ·rw[h2.block k (Nat.lt_of_lt_of_le hk1 hk.size) (fun e=>hk2 e.symm)]
   exact hk.block k hk1
  ·have hkg:g=k:=Option.some.inj hk2
   rcases h4 with h4|h4
   ·rw[h4,hkg]
   ·have h6:=hk.size
    omega
theorem fun_short {nf:Nat} {par loc:Nat→Int} {d:Nat} {body:Nat→SL} (h:progErr nf par loc d body=0):∀i,i<nf→(textL (funIt d par loc body i)).length≤1000000:=by
 intro i hi
 have h1:=fun_len h i hi
 refine text_len (fun w hw=>progW_short h w ?_) (by unfold funIt;omega)
 have:∀ {n:Nat},i<n→∀w ∈ funIt d par loc body i,w ∈ catTo (funIt d par loc body) n:=by
  intro n
  induction n with
  | zero=>intro h;omega
  | succ n ih =>
   intro h w hw
   rw[catTo,List.mem_append]
   by_cases e:i=n
   ·subst e;exact Or.inr hw
   ·exact Or.inl (ih (by omega) w hw)
 exact this hi w hw
set_option maxRecDepth 20000 in
set_option maxHeartbeats 4000000 in
theorem sourceText (N:Nat) (f:Value) (nf:Nat) (par loc:Nat→Int) (bv:Nat→Value) (d:Nat) (body:Nat→SL) (w:World) (hN:N≤w.heap.size) (he:Env N w) (hsp:Spc N w) (hf:FunsAt N w f nf par loc bv) (hs:∀i,i<nf→StmtsAt N w d (bv i) (body i)) (hp:progErr nf par loc d body=0) :
  Calls Tryz.prog 153 #[f] w fun e w'=>e=.returned (.string (bs (textL (progW nf par loc d body))))∧Below w.heap.size w w':=by
 obtain⟨hn1,hn4,hh,hb⟩:=prog_zero hp
 have HP:Hid (progErr nf par loc d body=0):=hp
 have HS:Hid (∀i,i<nf→StmtsAt N w d (bv i) (body i)):=hs
 have HE:Hid (Env N w):=he
 have HSp:Hid (Spc N w):=hsp
 have HH:Hid (∀i,i<nf→0≤par i∧par i≤3∧par i≤loc i∧loc i≤6):=fun i hi=>head_range (hh i hi)
 have HEr:Hid (∀i,i<nf→errs (stErr nf par (loc i)) d (body i)=0):=fun i hi=>(bodyErr_errs (hb i hi)).2
 have HL:Hid (∀i,i<nf→(textL (funIt d par loc body i)).length≤1000000):=fun_short hp
 obtain⟨a,cap,rfl,hnl,h0|⟨bf,of,rfl,hbf,hcf⟩⟩:=hf
 ·omega
 have HCF:Hid (∀i,i<nf→w.cell? ⟨bf,of+i*3,none⟩=some (.int .i64 (par i))∧w.cell? ⟨bf,of+i*3+1,none⟩=some (.int .i64 (loc i))∧w.cell? ⟨bf,of+i*3+2,none⟩=some (bv i)∧∃x m c,bv i=.slice x m c):=hcf
 clear he hs hp hh hb hcf hsp
 go_enter Tryz.func153,Tryz.ntmps153
 go_upto_region 3 with (fail)
 go_loopw [3,8] (fun q i wr=>∃(j:Nat) (R:List Wd),j≤nf∧i=.int .i64 j∧Hid (WS w.heap.size wr q R)∧Hid (R=textsTo (funIt d par loc body) j)∧Below w.heap.size w wr) (fun _ i _=>nf - (intOf i).toNat)
 case atStart=>exact⟨0,[],by omega,rfl,WS.nil _ _,rfl,Below.refl _ _⟩
 case round =>
  obtain⟨j,R,hj0,rfl,HW,HR,hbw⟩:=hrel
  by_cases hj:j<nf
  ·obtain⟨c0,c1,c2,x,m,c,hx⟩:=HCF.out j hj
   have hbfw:bf<w.heap.size:=Nat.lt_of_lt_of_le hbf hN
   rw[←hbw.cell (p:=⟨bf,of+j*3,none⟩) hbfw]at c0
   rw[←hbw.cell (p:=⟨bf,of+j*3+1,none⟩) hbfw]at c1
   rw[←hbw.cell (p:=⟨bf,of+j*3+2,none⟩) hbfw,hx]at c2
   have hji:(j:Int)<(nf:Int):=by omega
   have hr:=HH.out j hj
   have HHj:Hid (0≤par j∧par j≤3∧par j≤loc j∧loc j≤6):=hr
   have hRl:R.length≤6000:=by
    rw[HR.out,textsTo_len];omega
   have hown:∀k,u3.ownBlock=some k→k<wr.heap.size:=HW.out.lt
   have hst:=HS.out j hj
   rw[hx]at hst
   have HSt:Hid (StmtsAt N w d (.slice x m c) (body j)):=hst
   have hsz:(wr.alloc (.cells #[.int .i64 (par j),.int .i64 (loc j),.slice x m c] 111)).heap.size=wr.heap.size+1:=by simp
   have HK:Hid (∀w1 v',Grow (wr.alloc (.cells #[.int .i64 (par j),.int .i64 (loc j),.slice x m c] 111)) u3 w1 v'→w1.cell? ⟨wr.heap.size,0,none⟩=some (.int .i64 (par j))∧w1.cell? ⟨wr.heap.size,1,none⟩=some (.int .i64 (loc j))∧w1.cell? ⟨wr.heap.size,2,none⟩=some (.slice x m c)):=fun w1 v' h=>keepFun hown h
   have hal:=below_alloc wr (.cells #[.int .i64 (par j),.int .i64 (loc j),.slice x m c] 111)
   have HAl:Hid (Below wr.heap.size wr (wr.alloc (.cells #[.int .i64 (par j),.int .i64 (loc j),.slice x m c] 111))):=hal
   have HWal:=HW.out.keep hal
   clear hr hown hst hal
   go_upto_region 5 with (fail)
   generalize wr.alloc (.cells #[.int .i64 (par j),.int .i64 (loc j),.slice x m c] 111)=W at *
   have HWW:Hid (WS w.heap.size W u3 R):=HWal
   have hbW:Below w.heap.size w W:=hbw.trans (HAl.out.mono hbw.size)
   have HEv:Hid (∀w3,Below W.heap.size W w3→N≤w3.heap.size∧Below N w w3):=fun w3 h3=>by
    have h4:=hbW.trans (h3.mono hbW.size)
    exact⟨Nat.le_trans hN h4.size,h4.mono hN⟩
   have HIt:Hid (∀z w3,(z=par j∨z=loc j)→Below W.heap.size W w3→Calls Tryz.prog 85 #[.int .i64 z] w3 fun e w'=>e=.returned (.string (numW z))∧Below w3.heap.size w3 w'):=fun z w3 hz h3=>by
    have:=HHj.out
    exact itoa N z (by omega) (by omega) w3 (HE.out.below (HEv.out w3 h3).2)
   have hlen:=HL.out j hj
   have HTx:Hid (textL (funIt d par loc body j)=(((([102,117,110,32]++Lib.itoa (par j))++[32])++Lib.itoa (loc j))++[32])++blkT d (body j)):=textL_fun d (par j) (loc j) (body j)
   rw[HTx.out]at hlen
   simp only[List.length_append,List.length_cons,List.length_nil]at hlen
   have HBt:Hid (∀w3,Below W.heap.size W w3→Calls Tryz.prog 187 #[.slice x m c] w3 fun e w'=>e=.returned (.string (bs (blkT d (body j))))∧Below w3.heap.size w3 w'):=fun w3 h3 =>
    blockText N nf par (loc j) (by have:=HHj.out;omega) (by omega) d _ _ w3 (HEv.out w3 h3).1 (HE.out.below (HEv.out w3 h3).2) (HSp.out.below (HEv.out w3 h3).2) (HSt.out.below (HEv.out w3 h3).2) (HEr.out j hj) (by omega)
   have a1:=add_lit [102,117,110,32] (by decide) (par j) (by have:=HHj.out;omega) (by have:=HHj.out;omega)
   have l1:([102,117,110,32]++Lib.itoa (par j)).length=4+(Lib.itoa (par j)).length:=by simp;omega
   generalize [102,117,110,32]++Lib.itoa (par j)=A1 at *
   have a2:∀w,(Op.stringOp .add (bs A1) ⟨#[32]⟩).run Tryz.prog w=.ok (.string (bs (A1++[32]))) w:=add_two A1 [32] (by simp only[List.length_cons,List.length_nil];omega)
   have l2:(A1++[32]).length=A1.length+1:=by simp
   generalize A1++[32]=A2 at *
   have a3:∀w,(Op.stringOp .add (bs A2) (numW (loc j))).run Tryz.prog w=.ok (.string (bs (A2++Lib.itoa (loc j)))) w:=add_two A2 (Lib.itoa (loc j)) (by omega)
   have l3:(A2++Lib.itoa (loc j)).length=A2.length+(Lib.itoa (loc j)).length:=List.length_append
   generalize A2++Lib.itoa (loc j)=A3 at *
   have a4:∀w,(Op.stringOp .add (bs A3) ⟨#[32]⟩).run Tryz.prog w=.ok (.string (bs (A3++[32]))) w:=add_two A3 [32] (by simp only[List.length_cons,List.length_nil];omega)
   have l4:(A3++[32]).length=A3.length+1:=by simp
   generalize A3++[32]=A4 at *
   have a5:=add_two A4 (blkT d (body j)) (by omega)
   generalize blkT d (body j)=PB at *
   generalize A4++PB=A5 at *
   have b0:Below W.heap.size W W:=Below.refl _ _
   clear HWal c0 c1 c2 hlen l1 l2 l3 l4
   go_region_held_law (fun w'=>w'.cell? ⟨wr.heap.size,0,none⟩=some (.int .i64 (par j))∧w'.cell? ⟨wr.heap.size,1,none⟩=some (.int .i64 (loc j))∧w'.cell? ⟨wr.heap.size,2,none⟩=some (.slice x m c))
    (first|exact HK.out _ _ (Grow.of _ b0.drew)|exact HK.out _ _ (Grow.of _ b9)|exact HK.out _ _ (Grow.of _ b9.drew)|exact HK.out _ _ (Grow.of _ (b9.alloc b9.size _))|exact HK.out _ _ ((Grow.of _ b9).trans hG9))
    (first
     | (go_at_call 85;refine (HIt.out _ _ (by first|exact Or.inl rfl|exact Or.inr rfl) (by first|exact b9|exact b9.drew|exact b0.drew)).mono ?_;rintro e w9 ⟨rfl,b9'⟩;have b9:Below W.heap.size W w9:=(by first|exact b9.trans (b9'.mono b9.size)|exact b9.drew.trans (b9'.mono b9.size)|exact b0.drew.trans b9'))
     | (go_at_call 187;refine (HBt.out _ (by first|exact b9|exact b9.drew|exact b0.drew)).mono ?_;rintro e w9 ⟨rfl,b9'⟩;have b9:Below W.heap.size W w9:=(by first|exact b9.trans (b9'.mono b9.size)|exact b9.drew.trans (b9'.mono b9.size)|exact b0.drew.trans b9'))
     | (refine step_str w9 rfl _ _ rfl w.heap.size u3 R (bs A5) rfl (HWW.out.keep b9) _ _ rfl rfl (by omega) (Nat.le_trans hbW.size b9.size) ?_;intro v9 w10 R9 eR9 hW9 hG9))
   have hG10:Grow W u3 w10 v9:=(Grow.of u3 b9).trans hG9
   have hb10:Below w.heap.size w w10:=hbW.trans (hG10.low (fun k hk=>HW.out.low k hk) hbW.size)
   have HW9:Hid (WS w.heap.size w10 v9 R9):=hW9
   clear hW9 hG9 hG10 b9 b9' b0
   go_wp2_with fail
   go_roundw
   case rel=>exact⟨j+1,_,by omega,by go_num,HW9,(by show _=_;rw[eR9.out,HR.out,textsTo,HTx.out]),hb10⟩
   case measure=>simp[intOf];omega
  ·obtain rfl:j=nf:=by omega
   have hT:textL R=textL (progW j par loc d body):=by
    rw[HR.out];exact texts_join (funIt_ne d par loc body) hn1
   have HJ:Hid (Calls Tryz.prog 86 #[u3,.string (bs [32])] wr fun e w'=>e=.returned (.string (bs (textL R)))∧Below wr.heap.size wr w'):=by
    refine join_row w.heap.size u3 R wr HW.out ?_ ?_
    ·rw[HR.out,textsTo_len];omega
    ·rw[hT];exact text_len (progW_short HP.out) (prog_len HP.out)
   rw[hT]at HJ
   clear hT
   go_wp2_with (first
    | (go_at_call 86;refine HJ.out.mono ?_;rintro e w12 ⟨rfl,b12⟩))
   go_ret
   exact⟨rfl,hbw.trans (b12.mono hbw.size)⟩
theorem info3:(Tryz.prog.info? 3).map (fun i=>(i.zero,i.size,i.bytes))=some (some (.int .i64 0),1,8):=by kernel_rfl
theorem append_int {ops:Array Oper} {rest:List Oper} {o:Oper} {a:Act} {Q:Exit→Act→World→Prop} (w:World) (hgd:o.guard=none) (s y:Operand)
  (ho:o.op=.call { callee:=.builtin .append,args:=#[s,y],argTypes:=#[30,30] }) (base:Nat) (v:Value) (R:List Int) (hs:a.eval s=v) (hown:w.ownsRow base 3 1 v R.length (R.map (Value.int .i64)))
  (x:Int) (t:TypeId) (B:Nat) (hB:w.heap.size=B) (hy:a.eval y=.slice (some ⟨B,0,none⟩) 1 1) (hR:R.length≤100000) (hbase:base≤w.heap.size)
  (h:∀ad cap w2,w2.ownsRow base 3 1 (.slice ad (R.length+1) cap) (R.length+1) (R.map (Value.int .i64)++[.int .i64 x])→(w.alloc (.cells #[.int .i64 x] t)).grownBy w2 v.ownBlock→wpList Tryz.prog ops Q rest (a.put o.dst (.slice ad (R.length+1) cap)) w2) :
  wpList Tryz.prog ops Q (o::rest) a (w.alloc (.cells #[.int .i64 x] t)):=by
 subst hB
 obtain⟨i0,hi,hz0,hz1,hz2⟩:=info_parts info3
 refine wpList_append_own _ hgd s y 30 ho base 3 i0 (.int .i64 0) 1 8 Tryz.underlying30 hi hz0 hz1 hz2 rfl (by decide) v _ _ hs (hown.alloc _) ⟨w.heap.size,0,none⟩ 1 1 [.int .i64 x] hy rfl (cell_one_new _ _ _) (ints_oneCell .i64 [x]) (by unfold maxLen;omega) (by omega) (by simp;omega) ?_
 intro v' w2 h1 h2 _
 obtain⟨ad,cap,rfl⟩:=own_shape h1
 exact h ad cap w2 h1 h2
theorem append_ints {ops:Array Oper} {rest:List Oper} {o:Oper} {a:Act} {Q:Exit→Act→World→Prop} (w:World) (hgd:o.guard=none) (s y:Operand)
  (ho:o.op=.call { callee:=.builtin .append,args:=#[s,y],argTypes:=#[30,30] }) (base:Nat) (v:Value) (R L:List Int) (hs:a.eval s=v) (hown:w.ownsRow base 3 1 v R.length (R.map (Value.int .i64)))
  (g cap:Nat) (hy:a.eval y=.slice (some ⟨g,0,none⟩) L.length cap) (hc:∀j,j<L.length→w.cell? ⟨g,j,none⟩=some (.int .i64 (L.getD j 0))) (hR:R.length+L.length≤100000) (hbase:base≤w.heap.size)
  (h:∀ad cap w2,w2.ownsRow base 3 1 (.slice ad (R.length+L.length) cap) (R.length+L.length) ((R++L).map (Value.int .i64))→w.grownBy w2 v.ownBlock→wpList Tryz.prog ops Q rest (a.put o.dst (.slice ad (R.length+L.length) cap)) w2) :
  wpList Tryz.prog ops Q (o::rest) a w:=by
 obtain⟨i0,hi,hz0,hz1,hz2⟩:=info_parts info3
 refine wpList_append_own _ hgd s y 30 ho base 3 i0 (.int .i64 0) 1 8 Tryz.underlying30 hi hz0 hz1 hz2 rfl (by decide) v _ _ hs hown ⟨g,0,none⟩ L.length cap (L.map (Value.int .i64)) hy (by simp) (fun j u hj=>?_) (ints_oneCell .i64 L) (by unfold maxLen;omega) (by omega) hbase ?_
 ·have hl:j<L.length:=by
   have:=(List.getElem?_eq_some_iff.1 hj).1
   simpa using this
  rw[WideShapes.add_plain,Nat.zero_add,hc j hl]
  rw[List.getElem?_map,List.getElem?_eq_getElem hl]at hj
  rw[←hj]
  simp[List.getD,hl]
 ·intro v' w2 h1 h2 _
  obtain⟨ad,cap,rfl⟩:=own_shape h1
  refine h ad cap w2 ?_ h2
  rw[List.map_append]
  exact h1
theorem own_ints {w:World} {base:Nat} {v:Value} {R:List Int} (h:w.ownsRow base 3 1 v R.length (R.map (Value.int .i64))):IntsAt w v R.length (fun i=>R.getD i 0):=by
 rcases h.2 with⟨rfl,h0⟩|⟨g,cap,cur,rfl,r⟩
 ·rw[h0];exact⟨none,0,rfl,Or.inl rfl⟩
 ·refine⟨_,cap,rfl,Or.inr ⟨g,0,rfl,(h.lt g rfl).2,fun i hi=>?_⟩⟩
  rw[Nat.zero_add,h.cellAt i (by omega)]
  simp[List.getElem?_eq_getElem hi]
theorem own_last {w:World} {base:Nat} {v:Value} {L:List Int} {r:Int} (h:w.ownsRow base 3 1 v (L++[r]).length ((L++[r]).map (Value.int .i64))) :
  ∃g cap,v=.slice (some ⟨g,0,none⟩) (L.length+1) cap∧base≤g∧g<w.heap.size∧L.length+1≤cap∧w.cell? ⟨g,L.length,none⟩=some (.int .i64 r)∧w.frozen? ⟨g,L.length,none⟩=false ∧
   w.ownsRow base 3 1 (.slice (some ⟨g,0,none⟩) L.length cap) L.length (L.map (Value.int .i64)) ∧
   (∀x:Int,(w.setCell ⟨g,L.length,none⟩ (.int .i64 x)).ownsRow base 3 1 (.slice (some ⟨g,0,none⟩) (L.length+1) cap) (L++[x]).length ((L++[x]).map (Value.int .i64))):=by
 have hl:(L++[r]).length=L.length+1:=by simp
 rw[hl,List.map_append]at h
 obtain⟨g,cap,rfl,hb,hlt,hc,_⟩:=own_block h
 refine⟨g,cap,rfl,hb,hlt,hc,?_,h.frozenAt _,ownsRow_pop (last:=[r].map (Value.int .i64)) (by simp) h,fun x=>?_⟩
 ·rw[h.cellAt _ (by omega)]
  simp
 ·have:=(h.stored L.length (.int .i64 x)).1
  have hl2:(L++[x]).length=L.length+1:=by simp
  rw[hl2,List.map_append]
  rw[List.set_append]at this
  simpa using this
theorem max_start (z:Nat→Int):0<z 0 ↔ ∃i,i<1∧0<z i :=
 ⟨fun h=>⟨0,by omega,h⟩,fun ⟨i,hi,h⟩=>by
  obtain rfl:i=0:=by omega
  exact h⟩
theorem max_step {z:Nat→Int} {m:Int} {j:Nat} (h:0<m ↔ ∃i,i<j∧0<z i):0<(if z j > m then z j else m) ↔ ∃i,i<j+1∧0<z i:=by
 constructor
 ·intro hp
  split at hp
  ·exact⟨j,by omega,hp⟩
  ·obtain⟨i,hi,hz⟩:=h.1 hp
   exact⟨i,by omega,hz⟩
 ·rintro⟨i,hi,hz⟩
  by_cases e:i=j
  ·subst e;split<;>omega
  ·have:=h.2 ⟨i,by omega,hz⟩
   split<;>omega
set_option maxHeartbeats 400000 in
theorem maxInts (v:Value) (n:Nat) (z:Nat→Int) (w:World) (h:IntsAt w v n z) (hn:1≤n) (hb:n≤1000) :
  Calls Tryz.prog 244 #[v] w fun e w'=>∃m:Int,e=.returned (.int .i64 m)∧Hid (0<m ↔ ∃i,i<n∧0<z i)∧w'=w:=by
 obtain⟨a,cap,rfl,h|⟨b,o,rfl,hlt,g⟩⟩:=h
 ·omega
 have q0:w.cell? ⟨b,o,none⟩=some (.int .i64 (z 0)):=g 0 (by omega)
 have hn1:¬(n:Int)<1:=by omega
 go_enter Tryz.func244,Tryz.ntmps244
 go_wp2
 clear q0
 go_loopw [3,4] (fun q i wr=>∃(j:Nat) (m:Int),1≤j∧j≤n∧i=.int .i64 j∧q=.int .i64 m∧wr=w∧Hid (0<m ↔ ∃i,i<j∧0<z i)) (fun _ i _=>n - (intOf i).toNat)
 case atStart=>exact⟨1,z 0,by omega,hn,rfl,rfl,rfl,max_start _⟩
 case round =>
  obtain⟨j,m,h1,hj,rfl,rfl,rfl,hm⟩:=hrel
  by_cases hlt2:j<n
  ·have q:=g j hlt2
   clear g
   go_wp2
   go_roundw
   case rel=>exact⟨j+1,_,by omega,by omega,by go_num,rfl,(by first|rfl|trivial),(by first|exact max_step hm.out|(have h:=max_step hm.out;have e:max m (z j)=if z j > m then z j else m:=(by rw[Int.max_def];split<;>split<;>omega);show _ ↔ _;rw[e];exact h))⟩
   case measure=>simp[intOf];omega
  ·obtain rfl:j=n:=by omega
   clear g
   go_wp2
   go_ret
   exact⟨m,rfl,hm,rfl⟩
def total:List Int→Int
 | []=>0
 | x::r=>x+total r
theorem total_append:∀A B:List Int,total (A++B)=total A+total B
 | [],B=>by simp[total]
 | x::A,B=>by simp only[List.cons_append,total,total_append A B];omega
theorem total_one (x:Int):total [x]=x:=by simp[total]
theorem total_nonneg:∀ {R:List Int},(∀r ∈ R,0≤r)→0≤total R
 | [],_=>by simp[total]
 | x::R,h=>by
  have h1:=h x (by simp)
  have h2:=total_nonneg (R:=R) fun r hr=>h r (by simp[hr])
  simp only[total];omega
theorem total_pos:∀ {R:List Int},(∀r ∈ R,0≤r)→(0<total R ↔ ∃i,i<R.length+1∧0<([0]++R).getD i 0)
 | [],_=>by
  simp only[total]
  refine⟨fun h=>absurd h (by decide),fun ⟨i,hi,h⟩=>?_⟩
  obtain rfl:i=0:=by simpa using hi
  simp at h
 | x::R,h=>by
  have h1:=h x (by simp)
  have hR:∀r ∈ R,0≤r:=fun r hr=>h r (by simp[hr])
  have h2:=total_nonneg (R:=R) hR
  have ih:=total_pos (R:=R) hR
  simp only[total]
  constructor
  ·intro hp
   by_cases hx:0<x
   ·exact⟨1,by simp,by simpa using hx⟩
   ·obtain⟨i,hi,hz⟩:=ih.1 (by omega)
    cases i with
    | zero=>simp at hz
    | succ i=>exact⟨i+2,by simp;omega,by simpa using hz⟩
  ·rintro⟨i,hi,hz⟩
   match i with
   | 0=>simp at hz
   | 1 =>
    have:0<x:=by simpa using hz
    omega
   | i+2 =>
    have:=ih.2 ⟨i+1,by simp at hi;omega,by simpa using hz⟩
    omega
structure OpenIs (R:List Int) (A:Int) (x:Nat):Prop where
 len:R.length≤x
 pos:∀r ∈ R,0≤r
 top:∀r ∈ R,r≤3
 none:x=0→R=[]
 sum:0<x→total R=A
 some:0<x→¬R=[]
theorem nil_or_snoc (R:List Int):R=[]∨∃L r,R=L++[r]:=by
 rcases List.eq_nil_or_concat R with h|⟨L,r,h⟩
 ·exact Or.inl h
 ·exact Or.inr ⟨L,r,by rw[h,List.concat_eq_append]⟩
def lenOf:Value→Nat
 | .slice _ n _=>n
 | _=>0
theorem own_below {B:Nat} {e:TypeId} {k:Nat} {v:Value} {n:Nat} {xs:List Value} {w w':World} (h:w.ownsRow B e k v n xs) (hb:Below w.heap.size w w'):w'.ownsRow B e k v n xs :=
 h.kept (row:=none) ⟨hb.os,hb.tape,hb.output,hb.size,fun j hj _=>hb.block j hj⟩ (by cases hv:v.ownBlock<;>simp)
theorem own_snoc {w:World} {base:Nat} {v:Value} {R:List Int} {x:Int} (h:w.ownsRow base 3 1 v (R.length+1) (R.map (Value.int .i64)++[.int .i64 x])):w.ownsRow base 3 1 v (R++[x]).length ((R++[x]).map (Value.int .i64)):=by
 have hl:(R++[x]).length=R.length+1:=by simp
 rw[hl,List.map_append]
 exact h
theorem own_cat {w:World} {base n:Nat} {v:Value} {R:List Int} (hn:R.length=n) (h:w.ownsRow base 3 1 v n (R.map (Value.int .i64))):IntsAt w v n (fun i=>R.getD i 0):=by
 subst hn;exact own_ints h
theorem open_first {k z par:Nat→Int} {a:Int} (ha:0≤a) (ha3:a≤3) (e:asked k z par 1=asked k z par 0+(a - 1)):OpenIs ([]++[a]) (asked k z par 1) 1 :=
 ⟨by simp,by simpa using ha,by simpa using ha3,fun h=>absurd h (by decide),fun _=>by rw[e];simp[total,asked];omega,fun _=>by simp⟩
theorem open_next {L:List Int} {r a A A':Int} {x:Nat} (hl:L.length+1≤x) (hL:∀y ∈ L,0≤y) (hL3:∀y ∈ L,y≤3) (hr:0<r) (hr3:r≤3) (ha:0≤a) (ha3:a≤3) (hs:total (L++[r])=A) (e:A'=A+(a - 1)):OpenIs ((L++[r - 1])++[a]) A' (x+1):=by
 refine⟨by simp;omega,fun y hy=>?_,fun y hy=>?_,fun h=>absurd h (Nat.succ_ne_zero _),fun _=>?_,fun _=>by simp⟩
 ·simp only[List.append_assoc,List.mem_append,List.mem_singleton]at hy
  rcases hy with hy|rfl|rfl
  ·exact hL y hy
  ·omega
  ·exact ha
 ·simp only[List.append_assoc,List.mem_append,List.mem_singleton]at hy
  rcases hy with hy|rfl|rfl
  ·exact hL3 y hy
  ·omega
  ·exact ha3
 ·rw[e,←hs]
  simp only[total_append,total_one]
  omega
set_option maxHeartbeats 4000000 in
theorem refExpr (N:Nat) (v f:Value) (n:Nat) (k z:Nat→Int) (nf:Nat) (par loc:Nat→Int) (bv:Nat→Value) (locals:Int) (w:World) (hN:N≤w.heap.size) (h:ToksAt N w v n k z) (hf:FunsAt N w f nf par loc bv) :
  Calls Tryz.prog 217 #[v,f,.int .i64 locals] w fun e w'=>e=.returned (.int .i64 (exprErr n k z nf par locals))∧Below w.heap.size w w':=by
 obtain⟨a,cap,rfl,hn,h⟩:=h
 have hf0:=hf
 obtain⟨af,capf,rfl,hnf,hf⟩:=hf
 by_cases hbig:24<n
 ·have HE:Hid (exprErr n k z nf par locals=2):=exprErr_many hbig
  have hbi:(24:Int)<(n:Int):=by omega
  go_enter Tryz.func217,Tryz.ntmps217
  go_wp2_with fail
  go_ret
  exact⟨ret_num HE.out.symm,Below.refl _ _⟩
 have hbi:¬(24:Int)<(n:Int):=by omega
 have HB:Hid (¬24<n):=hbig
 go_enter Tryz.func217,Tryz.ntmps217
 go_wp2_with fail
 go_loopw [18] (fun i wr=>∃j:Nat,j≤nf∧i=.int .i64 j∧Below w.heap.size w wr∧Hid (∀x,x<j→parErr (par x)=0)) (fun i _=>nf - (intOf i).toNat)
 case atStart=>exact⟨0,Nat.zero_le _,rfl,Below.refl _ _,fun j hj=>absurd hj (Nat.not_lt_zero _)⟩
 case round =>
  obtain⟨j,hj,rfl,hb,hall⟩:=hrel
  by_cases hlt:j<nf
  ·rcases hf with hf|⟨p,o,rfl,hp,g⟩
   ·omega
   obtain⟨q0,q1,q2,ba,bm,bc,eb⟩:=g j hlt
   have hp':p<w.heap.size:=by omega
   rw[eb]at q2
   rw[←hb.cell hp']at q0 q1 q2
   clear g
   have hz:=hb.size
   by_cases he:parErr (par j)=0
   ·obtain⟨e0,e1⟩:=parErr_zero he
    have HE:Hid (parErr (par j)=0):=he
    clear he
    go_wp2
    go_roundw
    case rel=>exact⟨j+1,by omega,by go_num,hb.alloc hz _,upTo hall.out HE.out⟩
    case measure=>simp[intOf];omega
   ·have HE:Hid (exprErr n k z nf par locals=3):=exprErr_par HB.out hlt he
    have he':par j<0∨3<par j:=by
     unfold parErr at he
     by_cases hh:par j<0∨3<par j
     ·exact hh
     ·rw[if_neg hh]at he;exact absurd rfl he
    clear he
    rcases he' with e0|e0
    ·have e1:¬0≤par j:=by omega
     go_wp2
     go_ret
     exact⟨ret_num HE.out.symm,hb.alloc hz _⟩
    ·have e1:0≤par j:=by omega
     have e2:¬par j≤3:=by omega
     go_wp2
     go_ret
     exact⟨ret_num HE.out.symm,hb.alloc hz _⟩
  ·obtain rfl:j=nf:=by omega
   clear hf
   go_wp2_with fail
   go_loopw [9,29] (fun q i wi=>∃(x:Nat) (R:List Int),x≤n∧i=.int .i64 x∧wi.ownsRow w.heap.size 3 1 q R.length (R.map (Value.int .i64))∧Below w.heap.size w wi∧Hid (∀y,y<x→stepErr k z j par locals y=0)∧Hid (OpenIs R (asked k z par x) x)) (fun _ i _=>n - (intOf i).toNat)
   case atStart=>exact⟨0,[],Nat.zero_le _,rfl,World.ownsRow_nil _ _ _ _,hb,fun j hj=>absurd hj (Nat.not_lt_zero _),⟨Nat.le_refl _,fun r hr=>absurd hr List.not_mem_nil,fun r hr=>absurd hr List.not_mem_nil,fun _=>rfl,fun h=>absurd h (Nat.lt_irrefl _),fun h=>absurd h (Nat.lt_irrefl _)⟩⟩
   case round =>
    clear hb
    obtain⟨x,R,hx,rfl,hown,hb,hin,hop⟩:=hrel
    have HX:Hid (asked k z par (x+1)=asked k z par x+(asksOf (k x) (z x) par - 1)):=rfl
    have hRl:=hop.out.len
    have hx24:n≤24:=by have:=HB.out;omega
    by_cases hxlt:x<n
    ·rcases h with h|⟨p,o,rfl,hp,g⟩
     ·omega
     obtain⟨q0,q1⟩:=g x hxlt
     have hp':p<w.heap.size:=by omega
     rw[←hb.cell hp']at q0 q1
     clear g
     have hz:=hb.size
     by_cases he:tokErr (k x) (z x) j locals=0
     ·have hk:=asks_range (par:=par) he hall.out
      have HC:Hid (k x=6→0≤z x∧(z x).toNat<j):=fun e=>tokErr_call he e
      have het:(tokErr (k x) (z x) j locals != 0)=false:=by simp[he]
      have HK:Hid (tokErr (k x) (z x) j locals=0):=he
      obtain⟨aq,cq,rfl⟩:=own_shape hown
      have HO:Hid (∀b,(Value.slice aq R.length cq).ownBlock=some b→b<wr.heap.size):=fun b hb=>(hown.lt b hb).2
      clear he
      go_wp2_with (go_at_call 147;refine (refCheckTok _ _ _ _ _ _ _).mono ?_;rintro e w1 ⟨rfl,hb1⟩;have m0:=box_in hb1 0 rfl;have m1:=box_in hb1 1 rfl)
      have hbw:Below w.heap.size w w1:=below_step hb (below_step (below_alloc _ _) hb1)
      have hown1:=own_below hown (below_step (below_alloc _ _) hb1)
      have hwB:wr.heap.size<w1.heap.size:=Nat.lt_of_lt_of_le (by simp) hb1.size
      clear hb1 hown hb q0 q1 het
      generalize wr.heap.size=B at *
      go_loopw [9] (fun q wi=>∃R':List Int,wi=w1∧w1.ownsRow w.heap.size 3 1 q R'.length (R'.map (Value.int .i64))∧Hid (∀b,q.ownBlock=some b→b<B)∧Hid (R'.length≤R.length∧(∀r ∈ R',0≤r)∧(∀r ∈ R',r≤3)∧total R'=total R)) (fun q _=>lenOf q)
      case atStart=>exact⟨R,rfl,hown1,HO,Nat.le_refl _,hop.out.pos,hop.out.top,rfl⟩
      case round =>
       clear hown1 HO
       obtain⟨R',rfl,hown,HO,HR⟩:=hrel
       rcases nil_or_snoc R' with rfl|⟨L,r,rfl⟩
       ·obtain⟨a2,c2,rfl⟩:=own_shape hown
        by_cases hx0:x=0
        ·have hxi:¬(0:Int)<(x:Int):=by omega
         have HS:Hid (stepErr k z j par locals x=0):=stepErr_good HK.out (by subst hx0;simp[asked])
         have HP:Hid (OpenIs ([]++[asksOf (k x) (z x) par]) (asked k z par (x+1)) (x+1)):=by
          subst hx0;exact open_first hk.1 hk.2 HX.out
         clear hx0
         go_wp2_with (first
          | (go_at_call 148;refine (refAsks N (k x) (z x) _ j par loc bv _ (hf0.below (hbw.mono hN)) HC.out).mono ?_;rintro e w2 ⟨rfl,hb2⟩)
          | (at_builtin;refine append_int _ rfl _ _ rfl w.heap.size _ [] rfl (own_below hown hb2) _ _ _ rfl rfl (by simp) (Nat.le_trans hbw.size hb2.size) ?_;intro ad cp w3 hown3 hgrow3))
         go_roundw
         case rel =>
          have b3:=(below_step hbw hb2).alloc (Nat.le_trans hbw.size hb2.size) (.cells #[.int .i64 (asksOf (k x) (z x) par)] 3)
          exact⟨x+1,_,by omega,by go_num,own_snoc hown3,b3.grown hgrow3 b3.size (fun b hb=>(hown.lt b hb).1),upTo hin.out HS.out,HP.out⟩
         case measure=>simp[intOf];omega
        ·have hxi:(0:Int)<(x:Int):=by omega
         have HE:Hid (exprErr n k z j par locals=4):=by
          have e0:asked k z par x=0:=by
           rw[←hop.out.sum (by omega),←HR.out.2.2.2];rfl
          exact (exprErr_step HB.out hall.out hxlt hin.out (by rw[stepErr_over HK.out e0];decide)).trans (stepErr_over HK.out e0)
         clear hx0
         go_wp2_with fail
         go_ret
         exact⟨ret_num HE.out.symm,hbw⟩
       ·obtain⟨g,c2,rfl,hg1,hg2,hgc,hcell,hfr,hpop,hset⟩:=own_last hown
        have hLl:L.length+1≤R.length:=by have:=HR.out.1;simp at this;exact this
        have hgB:g<B:=HO.out g rfl
        have hsl:=slice_to Tryz.underlying30 Tryz.sizeOf3 ⟨g,0,none⟩ (L.length+1) c2 L.length L.length rfl (by omega)
        by_cases hr:r=0
        ·subst hr
         go_wp2_with fail
         go_roundw
         case rel =>
          exact⟨L,trivial,hpop,fun b hb=>by cases hb;exact hgB,by omega,fun y hy=>HR.out.2.1 y (by simp[hy]),fun y hy=>HR.out.2.2.1 y (by simp[hy]),by rw[←HR.out.2.2.2,total_append,total_one];omega⟩
         case measure=>simp[lenOf]
        ·have hrt:(r == 0)=false:=by simp[hr]
         have hr0:0≤r:=HR.out.2.1 r (by simp)
         have hr3:r≤3:=HR.out.2.2.1 r (by simp)
         have hx0:0<x:=by omega
         have hxi:(0:Int)<(x:Int):=by omega
         have hsum:=hop.out.sum hx0
         have HL:Hid (∀y ∈ L,0≤y):=fun y hy=>HR.out.2.1 y (by simp[hy])
         have HL3:Hid (∀y ∈ L,y≤3):=fun y hy=>HR.out.2.2.1 y (by simp[hy])
         have HT:Hid (total (L++[r])=asked k z par x):=HR.out.2.2.2.trans hsum
         have HS:Hid (stepErr k z j par locals x=0):=stepErr_good HK.out (by
          have:=HT.out
          rw[total_append,total_one]at this
          have:=total_nonneg HL.out
          omega)
         have HP:Hid (OpenIs ((L++[r - 1])++[asksOf (k x) (z x) par]) (asked k z par (x+1)) (x+1)):=open_next (by omega) HL.out HL3.out (by omega) hr3 hk.1 hk.2 HT.out HX.out
         have hgne:¬g=B:=by omega
         clear hr hsum
         go_wp2_with (first
          | (go_at_call 148;refine (refAsks N (k x) (z x) _ j par loc bv _ (hf0.below ((hbw.setCell (p:=⟨g,L.length,none⟩) hg1 _).mono hN)) HC.out).mono ?_;rintro e w2 ⟨rfl,hb2⟩)
          | (at_builtin;refine append_int _ rfl _ _ rfl w.heap.size _ (L++[r - 1]) rfl (own_below (hset (r - 1)) hb2) _ _ _ rfl rfl (by simp;omega) (Nat.le_trans (hbw.setCell (p:=⟨g,L.length,none⟩) hg1 _).size hb2.size) ?_;intro ad cp w3 hown3 hgrow3))
         go_roundw
         case rel =>
          have b2:=below_step (hbw.setCell (p:=⟨g,L.length,none⟩) hg1 (.int .i64 (r - 1))) hb2
          have b3:=b2.alloc b2.size (.cells #[.int .i64 (asksOf (k x) (z x) par)] 3)
          exact⟨x+1,(L++[r - 1])++[asksOf (k x) (z x) par],by omega,by go_num,by simpa using own_snoc hown3,b3.grown hgrow3 b3.size (fun b hb=>by cases hb;exact hg1),upTo hin.out HS.out,HP.out⟩
         case measure=>simp[intOf];omega
     ·have het:(tokErr (k x) (z x) j locals != 0)=true:=by simp[he]
      have HE:Hid (exprErr n k z j par locals=tokErr (k x) (z x) j locals):=(exprErr_step HB.out hall.out hxlt hin.out (by rw[stepErr_bad he];exact he)).trans (stepErr_bad he)
      clear he
      go_wp2_with (go_at_call 147;refine (refCheckTok _ _ _ _ _ _ _).mono ?_;rintro e w1 ⟨rfl,hb1⟩)
      go_ret
      exact⟨ret_num HE.out.symm,below_step hb (below_step (below_alloc _ _) hb1)⟩
    ·obtain rfl:x=n:=by omega
     have HE:Hid (exprErr x k z j par locals=if 0<asked k z par x then 4 else 0):=exprErr_end HB.out hall.out hin.out
     by_cases hx0:x=0
     ·have HF:Hid (exprErr x k z j par locals=4):=HE.out.trans (if_pos (by rw[hx0];simp[asked]))
      have hxi:((x:Int) == 0)=true:=by simp[hx0]
      clear hx0
      go_wp2_with fail
      go_ret
      exact⟨ret_num HF.out.symm,hb⟩
     ·have hxi:((x:Int) == 0)=false:=by simp[hx0]
      have HS:Hid (total R=asked k z par x):=hop.out.sum (by omega)
      rcases nil_or_snoc R with rfl|⟨L,r,rfl⟩
      ·exact absurd rfl (hop.out.some (by omega))
      ·obtain⟨g,c2,rfl,hg1,hg2,hgc,_⟩:=own_last hown
       clear hx0
       have HLn:Hid ((L++[r]).length=L.length+1):=by simp[Hid]
       have hL24:L.length+1≤24:=by have:=hop.out.len;rw[HLn.out]at this;omega
       have HCell:Hid (∀b,b<(L++[r]).length→wr.cell? ⟨g,b,none⟩=some (.int .i64 ((L++[r]).getD b 0))):=fun b hb=>by
        obtain⟨_,_,e,h0|⟨_,_,e2,_,gg⟩⟩:=own_ints hown
        ·rw[h0]at hb;exact absurd hb (Nat.not_lt_zero _)
        ·have e3:=(Value.slice.inj e).1.trans e2
         cases e3
         have:=gg b hb
         rwa [Nat.zero_add]at this
       have HPos:Hid (0<total (L++[r]) ↔ ∃i,i<(L++[r]).length+1∧0<([0]++(L++[r])).getD i 0):=total_pos hop.out.pos
       have HO:Hid (w.heap.size≤wr.heap.size):=hb.size
       by_cases ha:0<asked k z par x
       ·have HF:Hid (exprErr x k z j par locals=4):=HE.out.trans (if_pos ha)
        go_wp2_with (first
         | (at_builtin;refine wpList_wanted rfl ?_;refine append_ints _ rfl _ _ rfl w.heap.size _ [0] (L++[r]) rfl (World.ownsRow_lit wr #[.int .i64 0] 1 HO.out (by decide) rfl) g c2 (by simp;rfl) (fun b hb=>(World.cell?_alloc_lt _ _ _ (by exact hg2)).trans (HCell.out b hb)) (by simp;omega) (by simp;omega) ?_;intro ad cp w3 hown3 hgrow3;rw[HLn.out]at hown3;have hI3:IntsAt w3 (.slice ad (1+(L.length+1)) cp) (1+(L.length+1)) (fun i=>([0]++(L++[r])).getD i 0):=own_cat (by simp;omega) hown3)
         | (go_at_call 244;refine (maxInts _ _ _ _ hI3 (by omega) (by omega)).mono ?_;rintro e w2 ⟨m,rfl,hm,rfl⟩;have hm0:0<m:=hm.out.2 (by have:=HPos.out.1 (by rw[HS.out];exact ha);rw[HLn.out,Nat.add_comm]at this;exact this)))
        go_ret
        exact⟨ret_num HF.out.symm,(hb.alloc hb.size _).grown hgrow3 (by simp;omega) (fun b hb'=>by cases hb';exact hb.size)⟩
       ·have HF:Hid (exprErr x k z j par locals=0):=HE.out.trans (if_neg ha)
        go_wp2_with (first
         | (at_builtin;refine wpList_wanted rfl ?_;refine append_ints _ rfl _ _ rfl w.heap.size _ [0] (L++[r]) rfl (World.ownsRow_lit wr #[.int .i64 0] 1 HO.out (by decide) rfl) g c2 (by simp;rfl) (fun b hb=>(World.cell?_alloc_lt _ _ _ (by exact hg2)).trans (HCell.out b hb)) (by simp;omega) (by simp;omega) ?_;intro ad cp w3 hown3 hgrow3;rw[HLn.out]at hown3;have hI3:IntsAt w3 (.slice ad (1+(L.length+1)) cp) (1+(L.length+1)) (fun i=>([0]++(L++[r])).getD i 0):=own_cat (by simp;omega) hown3)
         | (go_at_call 244;refine (maxInts _ _ _ _ hI3 (by omega) (by omega)).mono ?_;rintro e w2 ⟨m,rfl,hm,rfl⟩;have hm0:¬0<m:=fun hm1=>ha (by rw[←HS.out];refine HPos.out.2 ?_;have:=hm.out.1 hm1;rw[HLn.out,Nat.add_comm];exact this)))
        go_ret
        exact⟨ret_num HF.out.symm,(hb.alloc hb.size _).grown hgrow3 (by simp;omega) (fun b hb'=>by cases hb';exact hb.size)⟩
end
end Go.Proofs.YtfaokaohhchdhaaGreatDoor
