/- Runs in slices: the states and what is said, step by step, whatever the slices are. No Go in it. -/
import Derived.Test.YtfaokaohhchdhaaGreatDoorPart21
namespace Go.Proofs.YtfaokaohhchdhaaGreatDoor
section
theorem goesB_ready {P:Nat→Pc} {R:Rn} (h:goesB P R=true):R.s.st=0:=by
 unfold goesB at h
 rw[Bool.and_eq_true,decide_eq_true_iff]at h
 exact h.1
section
variable {np:Nat} {P:Nat→Pc} {S T:Sta}
end
end
section
open Go.RowKit Go.Maps
def RunPost (w:World) (S':Sta) (said:List Int) (k:Nat) (e:Ending) (w':World):Prop :=
 ∃fa nf fc ca nc cc sa sc rv xv,e=.returned (.tuple #[.agg #[.slice fa nf fc,.slice ca nc cc,.int .i64 S'.st,.int .i64 S'.wh],.slice sa said.length sc,.int .i64 k,.int .i64 0]) ∧
  Own w.heap.size w' (.slice fa nf fc) (.slice ca nc cc) rv xv S'∧w'.ownsRow w.heap.size 3 1 (.slice sa said.length sc) said.length (said.map (Value.int .i64))∧Below w.heap.size w w'
theorem vmErr_right {np:Nat} {P:Nat→Pc} {S:Sta} (h:vmErr np P S=0):CodeOK np P∧StaOK np P S∧codeErr np P=0:=by
 unfold vmErr at h
 by_cases hc:codeErr np P=0
 ·rw[if_pos hc]at h
  exact⟨codeErr_right hc,staErr_zero.1 h,hc⟩
 ·rw[if_neg hc]at h;exact absurd h hc
theorem runErr_right {np:Nat} {P:Nat→Pc} {S:Sta} {fuel:Int} (h:runErr np P S fuel=0):CodeOK np P∧StaOK np P S∧S.st=0∧0≤fuel∧fuel≤2000∧vmErr np P S=0:=by
 unfold runErr at h
 by_cases hv:vmErr np P S=0
 ·rw[if_pos hv]at h
  obtain⟨h1,h2,_⟩:=vmErr_right hv
  by_cases hf:fuel<0∨2000<fuel
  ·rw[if_pos hf]at h;cases h
  ·rw[if_neg hf]at h
   by_cases hs:S.st=0
   ·exact⟨h1,h2,hs,by omega,by omega,hv⟩
   ·rw[if_neg hs]at h;cases h
 ·rw[if_neg hv]at h;exact absurd h hv
def RunIt (P:Nat→Pc) (pv:Value) (S:Sta) (B:Nat) (W:World) (X k:Nat) (wr:World):Prop :=
 RA X B wr pv (itM P ⟨S,[],false⟩ k)∧Below B W wr∧∀j,j<k→goesB P (itM P ⟨S,[],false⟩ j)=true
theorem runP {np:Nat} {P:Nat→Pc} (hNew:NewC np P) (hCall:CallC np P) (M:Nat) (vp fv cv:Value) (S:Sta) (fuel:Nat) (w:World) (hM:M≤w.heap.size) (hp:ProcsAt M w vp np P) (hs:StaAt w fv cv S) (he:runErr np P S fuel=0) :
  Calls Tryz.prog 13 #[vp,staV fv cv S.st S.wh,.int .i64 fuel] w (RunPost w (runM P fuel ⟨S,[],false⟩).1.s (runM P fuel ⟨S,[],false⟩).1.said (runM P fuel ⟨S,[],false⟩).2):=by
 obtain⟨hc,hok,hst,_,hfu,_⟩:=runErr_right he
 obtain⟨pa,pc,rfl,_⟩:=id hp
 obtain⟨fa,fc,rfl,_⟩:=id hs.1
 obtain⟨ca,cc,rfl,_⟩:=id hs.2
 obtain⟨W1,hW1,b1,hsz1,i0,i1,i2,i3⟩:=sbox w (.slice fa S.fs.length fc) (.slice ca S.cs.length cc) S.st S.wh
 obtain⟨W,hW⟩:∃W,W1.alloc (.cells #[.slice none 0 0,.slice none 0 0,.int .i64 0,.int .i64 0] 26)=W:=⟨_,rfl⟩
 have b2:Below W1.heap.size W1 W:=hW ▸ below_alloc W1 _
 have b0:Below w.heap.size w W:=below_step b1 b2
 have hsz:W.heap.size=w.heap.size+2:=by rw[←hW];simp;omega
 have hY:Box4 26 (w.heap.size+1) W (.slice none 0 0) (.slice none 0 0) (.int .i64 0) (.int .i64 0):=by
  unfold Box4
  rw[←hW,←hsz1]
  exact heap_alloc_new W1 _
 have hWe:(w.alloc (.cells #[.slice fa S.fs.length fc,.slice ca S.cs.length cc,.int .i64 S.st,.int .i64 S.wh] 26)).alloc (.cells #[.slice none 0 0,.slice none 0 0,.int .i64 0,.int .i64 0] 26)=W:=by rw[hW1];exact hW
 have hpW:∀wi,Below W.heap.size W wi→ProcsAt M wi (.slice pa np pc) np P:=fun wi hw=>hp.below ((b0.mono hM).trans (hw.mono (by omega)))
 have hsW:∀wi,Below W.heap.size W wi→StaAt wi (.slice fa S.fs.length fc) (.slice ca S.cs.length cc) S:=fun wi hw=>hs.below (below_step b0 hw)
 have hok':∀k,(∀j,j<k→goesB P (itM P ⟨S,[],false⟩ j)=true)→StaOK np P (itM P ⟨S,[],false⟩ k).s∧(itM P ⟨S,[],false⟩ k).said.length≤40:=itM_right hc (R:=⟨S,[],false⟩) hok (Nat.zero_le _)
 have hup:∀wi wj,Below W.heap.size W wi→Below wi.heap.size wi wj→Below W.heap.size W wj:=fun wi wj h k=>below_up h k (Nat.le_refl _)
 have hrun:=run_core pa np pc fa ca S.fs.length S.cs.length fc cc S.st S.wh fuel w W (fun a c b d w2=>(∃rv xv,Own W.heap.size w2 (.slice a S.fs.length c) (.slice b S.cs.length d) rv xv S)∧Below W.heap.size W w2) (RunIt P (.slice pa np pc) S W.heap.size W) (fun k=>goesB P (itM P ⟨S,[],false⟩ k))
  hWe (fun wi hw=>⟨below_at hw (below_at b2 i0),below_at hw (below_at b2 i1),below_at hw (below_at b2 i2),below_at hw (below_at b2 i3)⟩)
  (by
   have:=checkRun M _ _ _ np P S fuel W (Nat.le_trans hM b0.size) (hpW W (Below.refl _ _)) (hsW W (Below.refl _ _))
   rw[he]at this
   exact this)
  (fun wi hw=>by
   refine (copied S _ _ wi (hsW wi hw) hc hok).mono ?_
   rintro e w' ⟨fv',cv',rv,xv,rfl,ho,hb⟩
   obtain⟨a,c,rfl⟩:=own_shape ho.out.fr
   obtain⟨b,d,rfl⟩:=own_shape ho.out.ce
   exact⟨a,c,b,d,rfl,⟨rv,xv,ho.out.lower hw.size⟩,hup _ _ hw hb⟩)
  (fun a c b d w2 hk=>by
   obtain⟨⟨rv,xv,ho⟩,hb⟩:=hk
   exact⟨⟨_,_,_,rv,xv,heap_alloc_new w2 _,ho.below (below_alloc w2 _),World.ownsRow_nil _ _ _ _,hb.size⟩,hup _ _ hb (below_alloc w2 _),fun j hj=>absurd hj (Nat.not_lt_zero _)⟩)
  (fun X k wr hi=>by
   obtain⟨hr,hb,hg⟩:=hi
   refine (goesP M X W.heap.size wr _ _ hc (hok' k hg).1 hr (hpW wr hb)).mono ?_
   rintro e w' ⟨rfl,hb'⟩
   exact⟨rfl,hr.below hb',hup _ _ hb hb',hg⟩)
  (fun X k wr hi hgo _=>by
   obtain⟨hr,hb,hg⟩:=hi
   refine (stepP hNew hCall M X W.heap.size wr _ _ hc (hok' k hg).1 (goesB_ready hgo) hr (hpW wr hb) (by omega) (by have:=(hok' k hg).2;omega)).mono ?_
   rintro e w' ⟨he',hr',hb'⟩
   refine⟨he',hr',hb.trans hb',fun j hj=>?_⟩
   by_cases e:j=k
   ·rw[e];exact hgo
   ·exact hg j (by omega))
  (fun X k wr hi=>by
   obtain⟨⟨fv,cv,sv,rv,xv,hr⟩,hb,hg⟩:=hi
   obtain⟨c0,c1,c2,c3,c4,c5,c6,c7⟩:=hr.cells
   obtain⟨a,c,rfl⟩:=own_shape hr.own.fr
   obtain⟨b,d,rfl⟩:=own_shape hr.own.ce
   obtain⟨s,t,rfl⟩:=own_shape hr.sd
   exact⟨_,_,_,_,_,_,_,_,_,_,_,c1,c2,c3,c4,c5⟩)
  (fun X k wr hi=>by
   obtain⟨⟨fv,cv,sv,rv,xv,hr⟩,hb,hg⟩:=hi
   refine⟨hY.keep (hb.block _ (by omega)),fun e=>?_⟩
   have:=hr.hX
   omega) (by omega)
 refine hrun.mono ?_
 rintro e w' ⟨X,k,wr,fa2,nf2,fc2,ca2,nc2,cc2,sa2,ns2,sc2,st2,wh2,⟨⟨fv,cv,sv,rv,xv,hr⟩,hb,hg⟩,hk,hgo,hend,d1,d2,d3,d4,d5,rfl,rfl⟩
 rw[runM_at hk hgo hend]
 obtain⟨c0,c1,c2,c3,c4,c5,c6,c7⟩:=hr.cells
 rw[c1]at d1
 rw[c2]at d2
 rw[c3]at d3
 rw[c4]at d4
 rw[c5]at d5
 injection d1 with d1
 injection d2 with d2
 injection d3 with d3
 injection d4 with d4
 injection d5 with d5
 injection d3 with _ d3
 injection d4 with _ d4
 subst d1 d2 d5
 have hns:ns2=(itM P ⟨S,[],false⟩ k).said.length:=by
  obtain⟨s,t,e⟩:=own_shape hr.sd
  injection e
 subst hns
 have hot:∀j,W.heap.size≤j→((((wr.setCell ⟨w.heap.size+1,0,none⟩ (.slice fa2 nf2 fc2)).setCell ⟨w.heap.size+1,1,none⟩ (.slice ca2 nc2 cc2)).setCell ⟨w.heap.size+1,2,none⟩ (.int .i64 st2)).setCell ⟨w.heap.size+1,3,none⟩ (.int .i64 wh2)).drew.heap[j]?=wr.heap[j]?:=fun j hj=>by
  have hne:¬j=w.heap.size+1:=by omega
  exact (((Below.heap_setCell _ _ _ _ hne).trans (Below.heap_setCell _ _ _ _ hne)).trans (Below.heap_setCell _ _ _ _ hne)).trans (Below.heap_setCell _ _ _ _ hne)
 refine⟨fa2,nf2,fc2,ca2,nc2,cc2,sa2,sc2,rv,xv,by rw[d3,d4],?_,?_,?_⟩
 ·exact (hr.own.stay fun j hj _=>hot j hj).lower b0.size
 ·exact ownsRow_lower (ownsRow_block hr.sd fun g hgg=>hot g (hr.sd.lt g hgg).1) b0.size
 ·have hbw:Below w.heap.size w wr:=b0.trans (hb.mono b0.size)
  exact ((((hbw.setCell (by show w.heap.size≤w.heap.size+1;omega) _).setCell (by show w.heap.size≤w.heap.size+1;omega) _).setCell (by show w.heap.size≤w.heap.size+1;omega) _).setCell (by show w.heap.size≤w.heap.size+1;omega) _).drew
def numOf (R:List Int) (y:Int):Int:=if y ∈ R then (R.idxOf y:Int) else 0
def NumMap (w:World) (b n:Nat) (R:List Int):Prop :=
 ∃D:DataW Unit,w.ownsMap Tryz.prog 3 (plainElem Tryz.prog 3) b n D∧∀y,D.atKey (Lit.int .i64 y) (.lit (.int .i64 0))=.lit (.int .i64 (numOf R y))
theorem NumMap.made (w:World):NumMap (w.alloc (.map #[] 0)) w.heap.size 0 [] :=
 ⟨.map [],World.ownsMap_made _ _ _ _,fun _=>rfl⟩
theorem NumMap.lt {w:World} {b n:Nat} {R:List Int} (h:NumMap w b n R):b<w.heap.size:=let ⟨_,h,_⟩:=h;h.lt
theorem NumMap.stay {w w':World} {b n:Nat} {R:List Int} (h:NumMap w b n R) (hb:w'.heap[b]?=w.heap[b]?):NumMap w' b n R:=by
 obtain⟨D,⟨es,clock,hh,r0⟩,r⟩:=h
 exact⟨D,⟨es,clock,hb.trans hh,r0⟩,r⟩
theorem NumMap.isMap {w:World} {b n:Nat} {R:List Int} (h:NumMap w b n R):∃es clock,w.heap[b]?=some (.map es clock):=by
 obtain⟨D,⟨es,clock,hh,_⟩,_⟩:=h
 exact⟨es,clock,hh⟩
theorem zero3v (w:World):(zeroValue 3).run Tryz.prog w=.ok (.int .i64 0) w:=by kernel_rfl
theorem look_num {ops:Array Oper} {rest:List Oper} {o:Oper} {a:Act} {Q:Exit→Act→World→Prop} (w:World) (hg:o.guard=none) (m x:Operand) (hop:o.op=Op.lookup 100 m x false)
  (b n:Nat) (R:List Int) (hm:a.eval m=.map (some b)) (hown:NumMap w b n R) (key:Int) (hx:a.eval x=.int .i64 key) (hwf:(Lit.int .i64 key).wf=true)
  (hK:wpList Tryz.prog ops Q rest (a.put o.dst (.int .i64 (numOf R key))) w):wpList Tryz.prog ops Q (o::rest) a w:=by
 obtain⟨D,hD,hat⟩:=hown
 refine wpList_lookup_own_int w hg m x 100 hop 3 3 .i64 law3v Tryz.underlying100 Tryz.underlying3 (zero3v w) b n D hm hD _ (.int .i64 key) hx (keyOf_int_mk Tryz.underlying3 hwf) ?_
 intro c hc _
 rw[hat]at hc
 injection hc with hc
 injection hc with _ hc
 rw[←hc]
 exact hK
theorem store_num {ops:Array Oper} {rest:List Oper} {o:Oper} {a:Act} {Q:Exit→Act→World→Prop} (w:World) (hg:o.guard=none) (m x v:Operand) (hop:o.op=Op.mapUpdate 100 m x v)
  (b n:Nat) (R:List Int) (hm:a.eval m=.map (some b)) (hown:NumMap w b n R) (hn:n<maxLen) (key:Int) (hx:a.eval x=.int .i64 key) (hv:a.eval v=.int .i64 R.length) (hwf:(Lit.int .i64 key).wf=true) (hwv:(Lit.int .i64 R.length).wf=true) (hnew:key ∉ R)
  (hK:∀w',NumMap w' b (n+1) (R++[key])→w.grownBy w' (some b)→wpList Tryz.prog ops Q rest (a.put o.dst undef) w'):wpList Tryz.prog ops Q (o::rest) a w:=by
 obtain⟨D,hD,hat⟩:=hown
 refine wpList_mapUpdate_own w hg m x v 100 hop 3 3 law3v Tryz.underlying100 (plainElem Tryz.prog 3) b n D hm hD hn _ _ _ hx hv (keyOf_int_mk Tryz.underlying3 hwf) _ [] (plainElem_int Tryz.underlying3 hwv) ?_
 intro w' hD' hgr
 refine hK w' ⟨_,hD',fun y=>?_⟩ hgr
 by_cases e:y=key
 ·subst e
  rw[atKey_put_same (k:=Lit.int .i64 y) hD.isMap trivial]
  unfold numOf
  rw[if_pos (by simp),List.idxOf_append,if_neg hnew]
  simp
 ·rw[atKey_put_other (fun h=>e (by cases h;rfl)),hat]
  unfold numOf
  by_cases hm:y ∈ R
  ·rw[if_pos hm,if_pos (by simp[hm]),List.idxOf_append,if_pos hm]
  ·rw[if_neg hm,if_neg (by simp[hm,e])]
theorem store_numL {ops:Array Oper} {rest:List Oper} {o:Oper} {a:Act} {Q:Exit→Act→World→Prop} (w:World) (hg:o.guard=none) (m x v:Operand) (hop:o.op=Op.mapUpdate 100 m x v)
  (b n:Nat) (R:List Int) (l:Nat) (hl:R.length=l) (hm:a.eval m=.map (some b)) (hown:NumMap w b n R) (hn:n<maxLen) (key:Int) (hx:a.eval x=.int .i64 key) (hv:a.eval v=.int .i64 l) (hwf:(Lit.int .i64 key).wf=true) (hwv:(Lit.int .i64 l).wf=true) (hnew:key ∉ R)
  (hK:∀w',NumMap w' b (n+1) (R++[key])→w.grownBy w' (some b)→wpList Tryz.prog ops Q rest (a.put o.dst undef) w'):wpList Tryz.prog ops Q (o::rest) a w:=by
 subst hl
 exact store_num w hg m x v hop b n R hm hown hn key hx hv hwf hwv hnew hK
theorem renum_numOf {R:List Int} {v:Int×Int} (h:v.1=2→v.2 ∈ R):renum R v=if v.1=2 then (v.1,numOf R v.2) else v:=by
 unfold renum numOf
 split
 ·rename_i e
  rw[if_pos (h e),e]
 ·rfl
def renTo (R:List Int) (L:List (Int×Int)) (j:Nat):List (Int×Int):=(L.take j).map (renum R)++L.drop j
theorem renTo_zero (R:List Int) (L:List (Int×Int)):renTo R L 0=L:=by simp[renTo]
theorem renTo_all (R:List Int) (L:List (Int×Int)):renTo R L L.length=L.map (renum R):=by simp[renTo]
theorem renTo_len (R:List Int) (L:List (Int×Int)) (j:Nat):(renTo R L j).length=L.length:=by
 unfold renTo;rw[List.length_append,List.length_map,List.length_take,List.length_drop];omega
theorem renTo_at {R:List Int} {L:List (Int×Int)} {j:Nat} (h:j<L.length):(renTo R L j).getD j (0,0)=L.getD j (0,0):=by
 unfold renTo
 rw[List.getD_eq_getElem?_getD,List.getElem?_append_right (by simp;omega),List.getD_eq_getElem?_getD]
 simp only[List.length_map,List.length_take,List.getElem?_drop]
 congr 2
 omega
theorem renTo_step {R:List Int} {L:List (Int×Int)} {j:Nat} (h:j<L.length):(renTo R L j).set j (renum R (L.getD j (0,0)))=renTo R L (j+1):=by
 unfold renTo
 rw[List.set_append_right _ _ (by simp;omega)]
 have e1:j - (List.map (renum R) (List.take j L)).length=0:=by simp;omega
 rw[e1,List.take_add_one,List.getElem?_eq_getElem h,List.drop_eq_getElem_cons h,List.set_cons_zero]
 rw[List.getD_eq_getElem?_getD,List.getElem?_eq_getElem h]
 simp only[Option.toList,List.map_append,List.map_cons,List.map_nil,List.append_assoc,List.cons_append,List.nil_append,Option.getD_some]
def KeepG (g:Nat) (w wr:World):Prop:=(∀k,¬k=g→k<w.heap.size→wr.heap[k]?=w.heap[k]?)∧Below g w wr
theorem VRow.set2 {B:Nat} {w:World} {g n cap:Nat} {L:List (Int×Int)} (h:VRow B w (.slice (some ⟨g,0,none⟩) n cap) L) {k:Nat} (hk:k<L.length) (z:Int) :
  VRow B (w.setCell ⟨g,k*2+1,none⟩ (.int .i64 z)) (.slice (some ⟨g,0,none⟩) n cap) (L.set k ((L.getD k (0,0)).1,z)):=by
 have hn:L.length=n:=h.vals.2.2.1.symm
 obtain⟨f0,_⟩:=flatV_at L k hk
 have hl:=flatV_len L
 have e:(flatV L).set (k*2) (.int .i64 (L.getD k (0,0)).1)=flatV L:=by
  apply List.ext_getElem?
  intro i
  rw[List.getElem?_set]
  by_cases he:k*2=i
  ·subst he
   rw[if_pos rfl,if_pos (by omega),f0];rfl
  ·rw[if_neg he]
 unfold VRow at h ⊢
 rw[List.length_set,flatV_set,e]
 subst hn
 exact ownsRow_set h (k*2+1) (by omega) _
set_option maxRecDepth 20000 in
set_option maxHeartbeats 2000000 in
theorem renumberP (g L0 cap Nb Mb nn B:Nat) (R:List Int) (L:List (Int×Int)) (w:World) (hv:VRow B w (.slice (some ⟨g,0,none⟩) L0 cap) L) (hN:w.heap[Nb]?=some (.cells #[.map (some Mb)] 100 (0,0))) (hM:NumMap w Mb nn R)
  (hR:∀v,v ∈ L→v.1=2→v.2 ∈ R∧0≤v.2∧v.2≤1000) (hL:L.length≤1000) :
  Calls Tryz.prog 66 #[.slice (some ⟨g,0,none⟩) L0 cap,.pointer (some ⟨Nb,0,none⟩)] w fun e w'=>e=.returned (.tuple #[])∧Hid (VRow B w' (.slice (some ⟨g,0,none⟩) L0 cap) (L.map (renum R)))∧Hid (KeepG g w w'):=by
 obtain⟨-,-,hL0,hgB,hgl⟩:=hv.vals
 subst hL0
 have hgN:¬g=Nb:=fun e=>by
  obtain⟨c,fz,k⟩:=Lib.ownsRow_kind hv g rfl
  rw[e,hN]at k
  injection k with k;injection k with _ k _;exact absurd k (by decide)
 have hgM:¬g=Mb:=fun e=>by
  obtain⟨c,fz,k⟩:=Lib.ownsRow_kind hv g rfl
  obtain⟨es,cl,k2⟩:=hM.isMap
  rw[e,k2]at k
  cases k
 have hNl:Nb<w.heap.size:=(Array.getElem?_eq_some_iff.1 hN).1
 have hMl:=hM.lt
 have HR:Hid (∀v,v ∈ L→v.1=2→v.2 ∈ R∧0≤v.2∧v.2≤1000):=hR
 have HL:Hid (L.length≤1000):=hL
 have HI:Hid (∀wr,(∀k,¬k=g→k<w.heap.size→wr.heap[k]?=w.heap[k]?)→wr.cell? ⟨Nb,0,none⟩=some (.map (some Mb))∧NumMap wr Mb nn R):=fun wr hk=>by
  refine⟨?_,hM.stay (hk Mb (fun e=>hgM e.symm) hMl)⟩
  unfold World.cell?;rw[hk Nb (fun e=>hgN e.symm) hNl,hN];rfl
 have HG:Hid (g<w.heap.size):=hgl
 have HV0:Hid (VRow B w (.slice (some ⟨g,0,none⟩) L.length cap) (renTo R L 0)):=by rw[renTo_zero];exact hv
 have HK0:Hid (KeepG g w w):=⟨fun _ _ _=>rfl,Below.refl _ _⟩
 clear hR hL hv hN hM
 generalize hn:L.length=n at *
 have HN:Hid (L.length=n):=hn
 clear hn
 go_enter Tryz.func66,Tryz.ntmps66
 go_wp2
 go_loopw [7] (fun q wr=>∃j:Nat,j≤n∧q=.int .i64 j∧Hid (VRow B wr (.slice (some ⟨g,0,none⟩) n cap) (renTo R L j))∧Hid (KeepG g w wr)) (fun q _=>n - (intOf q).toNat)
 case atStart=>exact⟨0,by omega,rfl,HV0,HK0⟩
 case round =>
  clear HV0 HK0
  obtain⟨j,hj,rfl,HV,HK⟩:=hrel
  by_cases hlt:j<n
  ·have hn1:n≤1000:=HL.out
   have hjL:j<L.length:=by rw[HN.out];exact hlt
   obtain⟨q0,q1,-,-,-⟩:=HV.out.vals
   obtain⟨z1,z2⟩:=q0 j (by rw[renTo_len];exact hjL)
   rw[renTo_at hjL]at z1 z2
   have y2:=q1 (j*2+1)
   have hin:L.getD j (0,0) ∈ L:=getD_mem hjL
   have hRv:=HR.out _ hin
   have HSt:Hid ((renTo R L j).set j (renum R (L.getD j (0,0)))=renTo R L (j+1)):=renTo_step hjL
   have HSet:Hid (∀(o:Obj) (z:Int),VRow B ((wr.alloc o).setCell ⟨g,j*2+1,none⟩ (.int .i64 z)) (.slice (some ⟨g,0,none⟩) n cap) ((renTo R L j).set j ((L.getD j (0,0)).1,z))):=fun o z=>by
    have h:VRow B (wr.alloc o) (.slice (some ⟨g,0,none⟩) n cap) (renTo R L j):=World.ownsRow.alloc HV.out o
    have:=h.set2 (k:=j) (by rw[renTo_len];exact hjL) z
    rw[renTo_at hjL]at this
    exact this
   have HAl:Hid (∀o:Obj,VRow B (wr.alloc o) (.slice (some ⟨g,0,none⟩) n cap) (renTo R L j)∧(∀k,¬k=g→k<w.heap.size→(wr.alloc o).heap[k]?=w.heap[k]?)∧Below g w (wr.alloc o)):=fun o=>by
    obtain⟨h1,h2⟩:=HK.out
    have hs:=h2.size
    exact⟨World.ownsRow.alloc HV.out o,fun k hk hkw=>((below_alloc wr o).block k (by omega)).trans (h1 k hk hkw),h2.trans ((below_alloc wr o).mono (by have:=HG.out;omega))⟩
   have hws:=HK.out.2.size
   have HKs:Hid (∀(o:Obj) (v:Value),KeepG g w ((wr.alloc o).setCell ⟨g,j*2+1,none⟩ v)):=fun o v=>by
    obtain⟨h0,h1,h2⟩:=HAl.out o
    exact⟨fun k hk hkw=>(Below.heap_setCell _ _ _ _ hk).trans (h1 k hk hkw),h2.setCell (Nat.le_refl _) _⟩
   have HIn:Hid (∀o:Obj,(wr.alloc o).cell? ⟨Nb,0,none⟩=some (.map (some Mb))∧NumMap (wr.alloc o) Mb nn R):=fun o=>HI.out _ (HAl.out o).2.1
   clear q0 q1 HV HR hin
   have HRn:Hid (renum R (L.getD j (0,0))=if (L.getD j (0,0)).1=2 then ((L.getD j (0,0)).1,numOf R (L.getD j (0,0)).2) else L.getD j (0,0)):=renum_numOf fun h=>(hRv h).1
   have HPr:Hid (((L.getD j (0,0)).1,(L.getD j (0,0)).2)=L.getD j (0,0)):=rfl
   by_cases hk:(L.getD j (0,0)).1=2
   ·obtain⟨-,r1,r2⟩:=hRv hk
    have HR2:Hid (∀(o:Obj),VRow B ((wr.alloc o).setCell ⟨g,j*2+1,none⟩ (.int .i64 (numOf R (L.getD j (0,0)).2))) (.slice (some ⟨g,0,none⟩) n cap) (renTo R L (j+1))):=fun o=>by
     rw[←HSt.out,HRn.out,if_pos hk]
     exact HSet.out o _
    have hwf:(Lit.int .i64 (L.getD j (0,0)).2).wf=true:=wf_small r1 r2
    rw[hk]at z1
    clear hRv HRn HPr HSt HSet HAl hk r1 r2
    generalize (L.getD j (0,0)).2=z at *
    have h3:=fun o=>(HIn.out o).1
    have h4:∀o:Obj,(wr.alloc o).frozen? ⟨g,j*2+1,none⟩=false:=fun o=>((below_alloc wr o).frozen (p:=⟨g,j*2+1,none⟩) (Nat.lt_of_lt_of_le HG.out hws)).trans y2
    have h5:∀o:Obj,(wr.alloc o).cell? ⟨g,j*2+1,none⟩=some (.int .i64 z):=fun o=>((below_alloc wr o).cell (p:=⟨g,j*2+1,none⟩) (Nat.lt_of_lt_of_le HG.out hws)).trans z2
    have i1:(j:Int)<(n:Int):=by omega
    go_wp2_with (at_lookup;refine look_num _ rfl _ _ rfl Mb nn R rfl (HIn.out _).2 z rfl hwf ?_)
    go_roundw
    case rel=>exact⟨j+1,by omega,by go_num,HR2.out _,HKs.out _ _⟩
    case measure=>simp[intOf];omega
   ·have HR2:Hid (∀(o:Obj),VRow B (wr.alloc o) (.slice (some ⟨g,0,none⟩) n cap) (renTo R L (j+1))):=fun o=>by
     have e:(renTo R L j).set j (L.getD j (0,0))=renTo R L j:=by
      apply List.ext_getElem?
      intro i
      rw[List.getElem?_set]
      by_cases he:j=i
      ·subst he
       rw[if_pos rfl,if_pos (by rw[renTo_len];exact hjL)]
       have:=renTo_at (R:=R) hjL
       rw[←this,List.getD_eq_getElem?_getD,List.getElem?_eq_getElem (by rw[renTo_len];exact hjL)];rfl
      ·rw[if_neg he]
     rw[←HSt.out,HRn.out,if_neg hk,e]
     exact (HAl.out o).1
    have HK2:Hid (∀o:Obj,KeepG g w (wr.alloc o)):=fun o=>(HAl.out o).2
    have hkb:((L.getD j (0,0)).1 == 2)=false:=beq_eq_false_iff_ne.2 hk
    clear hRv HRn HPr HSt HSet HAl hk
    generalize (L.getD j (0,0)).2=z at *
    generalize (L.getD j (0,0)).1=kk at *
    go_wp2_with fail
    go_roundw
    case rel=>exact⟨j+1,by omega,by go_num,HR2.out _,HK2.out _⟩
    case measure=>simp[intOf];omega
  ·obtain rfl:j=n:=by omega
   have hall:renTo R L j=L.map (renum R):=by rw[←HN.out];exact renTo_all R L
   rw[hall]at HV
   go_wp2
   go_end0
   exact⟨rfl,HV,HK⟩
theorem regsOf_take {fs:List Fm} {j:Nat} (h:j<fs.length):regsOf (fs.take (j+1))=regsOf (fs.take j)++(fmAt fs j).regs:=by
 have e:fs.take (j+1)=fs.take j++[fmAt fs j]:=by
  rw[List.take_add_one,List.getElem?_eq_getElem h]
  unfold fmAt
  rw[List.getD_eq_getElem?_getD,List.getElem?_eq_getElem h];rfl
 rw[e]
 simp[regsOf]
theorem RowAt.news {w:World} {u:Value} {L:List (Int×Int)} (h:RowAt w u L) (hn:1≤L.length):∃ad cap,u=.slice (some ad) L.length cap∧ad.block<w.heap.size∧∀j x,(flatV (rowL L.length (fstAt L) (sndAt L)))[j]?=some x→w.cell? (ad.add j)=some x:=by
 obtain⟨a,cap,rfl,_,h|⟨b,o,rfl,hlt,hc⟩⟩:=h
 ·omega
 ·exact⟨_,cap,rfl,hlt,row_news hc⟩
set_option maxRecDepth 20000 in
set_option maxHeartbeats 2000000 in
theorem registersP (fs:List Fm) (fa:Option Addr) (nf fc:Nat) (cv:Value) (st wh:Int) (w:World) (h:FramesAt w (.slice fa nf fc) fs) (hn:fs.length=nf) (hnf:nf≤10) (hr:∀i,i<nf→1≤(fmAt fs i).regs.length∧(fmAt fs i).regs.length≤1000) :
  Calls Tryz.prog 65 #[.agg #[.slice fa nf fc,cv,.int .i64 st,.int .i64 wh]] w fun e w'=>∃ad cap,e=.returned (.slice ad (regsOf fs).length cap)∧Hid (VRow w.heap.size w' (.slice ad (regsOf fs).length cap) (regsOf fs))∧Hid (Below w.heap.size w w'):=by
 have HL:Hid (∀j,j≤nf→(regsOf (fs.take j)).length≤j*1000):=fun j hj=>by
  have h1:=regsOf_len (fs:=fs.take j) (m:=1000) fun f hf=>by
   obtain⟨i,hi,e⟩:=mem_getD' (d:=noFm) hf
   have hi':i<j:=by rw[List.length_take]at hi;omega
   have e2:fmAt (fs.take j) i=f:=e
   rw[fmAt_take hi']at e2
   rw[←e2]
   exact (hr i (by omega)).2
  rw[List.length_take]at h1
  have:min j fs.length*1000≤j*1000:=Nat.mul_le_mul_right _ (by omega)
  omega
 have HFr:Hid (∀j,j<nf→∃b o ad cap,fa=some ⟨b,o,none⟩∧b<w.heap.size∧w.cell? ⟨b,o+j*4,none⟩=some (.int .i64 (fmAt fs j).proc)∧w.cell? ⟨b,o+j*4+1,none⟩=some (.int .i64 (fmAt fs j).pos)∧w.cell? ⟨b,o+j*4+2,none⟩=some (.slice (some ad) (fmAt fs j).regs.length cap)∧w.cell? ⟨b,o+j*4+3,none⟩=some (.int .i64 (fmAt fs j).to) ∧
   ad.block<w.heap.size∧∀k x,(flatV (rowL (fmAt fs j).regs.length (fstAt (fmAt fs j).regs) (sndAt (fmAt fs j).regs)))[k]?=some x→w.cell? (ad.add k)=some x):=fun j hj=>by
  obtain⟨a,cap,e,_,h|⟨b,o,rfl,hlt,hc⟩⟩:=h
  ·omega
  ·injection e with e1 e2 e3
   obtain⟨u,c0,c1,c2,c3,hv⟩:=hc j (by omega)
   obtain⟨ad,cp,rfl,hlt2,hnews⟩:=hv.news (hr j hj).1
   exact⟨b,o,ad,cp,e1,hlt,c0,c1,c2,c3,hlt2,hnews⟩
 have HN:Hid (fs.length=nf):=hn
 clear h hr hn
 obtain⟨W,hW⟩:∃W,w.alloc (.cells #[.slice fa nf fc,cv,.int .i64 st,.int .i64 wh] 26)=W:=⟨_,rfl⟩
 have x0:W.cell? ⟨w.heap.size,0,none⟩=some (.slice fa nf fc):=by rw[←hW,World.cell?_alloc_new];rfl
 have HB0:Hid (Below w.heap.size w W):=hW ▸ below_alloc w _
 have HW:Hid (w.alloc (.cells #[.slice fa nf fc,cv,.int .i64 st,.int .i64 wh] 26)=W):=hW
 have HR0:Hid (VRow w.heap.size W (.slice none 0 0) (regsOf (fs.take 0))):=World.ownsRow_nil _ _ _ _
 clear hW
 go_enter Tryz.func65,Tryz.ntmps65
 go_upto_region 1 with (fail)
 rw[HW.out]
 go_wp2
 go_loopw [3,9] (fun l q wr=>∃(j:Nat) (ad:Option Addr) (cap:Nat),j≤nf∧q=.int .i64 j∧l=.slice ad (regsOf (fs.take j)).length cap∧Hid (Below w.heap.size w wr)∧Hid (VRow w.heap.size wr (.slice ad (regsOf (fs.take j)).length cap) (regsOf (fs.take j)))) (fun _ q _=>nf - (intOf q).toNat)
 case atStart=>exact⟨0,none,0,by omega,rfl,rfl,HB0,HR0⟩
 case round =>
  clear HB0 HR0 x0
  obtain⟨j,ad,cap,hj,rfl,rfl,HB,HR⟩:=hrel
  by_cases hlt:j<nf
  ·obtain⟨b,o,a2,c2,rfl,hbl,y0,y1,y2,y3,hal,hnews⟩:=HFr.out j hlt
   have hst:=regsOf_take (fs:=fs) (j:=j) (by rw[HN.out];exact hlt)
   have hlj:=HL.out (j+1) (by omega)
   rw[hst,List.length_append]at hlj
   rw[←HB.out.cell (p:=⟨b,o+j*4,none⟩) hbl]at y0
   rw[←HB.out.cell (p:=⟨b,o+j*4+1,none⟩) hbl]at y1
   rw[←HB.out.cell (p:=⟨b,o+j*4+2,none⟩) hbl]at y2
   rw[←HB.out.cell (p:=⟨b,o+j*4+3,none⟩) hbl]at y3
   have HNw:Hid (∀ob:Obj,∀k x,(flatV (rowL (fmAt fs j).regs.length (fstAt (fmAt fs j).regs) (sndAt (fmAt fs j).regs)))[k]?=some x→(wr.alloc ob).cell? (a2.add k)=some x):=fun ob k x hx=>by
    have:=hnews k x hx
    have hl2:(a2.add k).block<w.heap.size:=by rw[show (a2.add k).block=a2.block from by unfold Addr.add;split<;>rfl];exact hal
    exact ((below_alloc wr ob).cell (Nat.lt_of_lt_of_le hl2 HB.out.size)).trans ((HB.out.cell hl2).trans this)
   have HSt:Hid (regsOf (fs.take (j+1))=regsOf (fs.take j)++(fmAt fs j).regs):=hst
   have hBw:=HB.out.size
   have HJ:Hid ((regsOf (fs.take j)).length+(fmAt fs j).regs.length≤100000):=(by show _≤_;have:(j+1)*1000≤10*1000:=Nat.mul_le_mul_right _ (by omega);omega)
   clear hst hnews hlj HFr hal
   generalize hLj:regsOf (fs.take j)=Lj at *
   generalize hRj:(fmAt fs j).regs=Rj at *
   generalize (fmAt fs j).proc=p1 at *
   generalize (fmAt fs j).pos=p2 at *
   generalize (fmAt fs j).to=p3 at *
   have HRj:Hid (rowL Rj.length (fstAt Rj) (sndAt Rj)=Rj):=rowL_self Rj
   clear hLj hRj
   go_wp2_with (at_builtin;refine append_vals _ rfl _ _ rfl w.heap.size _ Lj rfl (World.ownsRow.alloc HR.out _) a2 Rj.length c2 _ _ rfl (HNw.out _) HJ.out (Nat.le_trans hBw (below_alloc wr _).size) ?_;intro ad' cp w2 hown hgrow)
   have HB2:Hid (Below w.heap.size w w2):=((HB.out.trans ((below_alloc wr _).mono hBw))).grown hgrow (Nat.le_trans hBw (below_alloc wr _).size) (fun k hk=>(HR.out.lt k hk).1)
   have HR2:Hid (VRow w.heap.size w2 (.slice ad' (regsOf (fs.take (j+1))).length cp) (regsOf (fs.take (j+1)))):=by
    rw[HRj.out]at hown
    show World.ownsRow _ _ _ _ _ _ _
    rw[HSt.out,List.length_append]
    rw[List.length_append]at hown
    exact hown
   have HLe:Hid (Lj.length+Rj.length=(regsOf (fs.take (j+1))).length):=(by show _=_;rw[HSt.out,List.length_append])
   clear hown hgrow
   go_roundw
   case rel=>exact⟨j+1,ad',cp,by omega,by go_num,(by first|(rw[←HLe.out];done)|(rw[←HLe.out];go_num)),HB2,HR2⟩
   case measure=>simp[intOf];omega
  ·obtain rfl:j=nf:=by omega
   have hall:fs.take j=fs:=by rw[←HN.out,List.take_length]
   rw[hall]at HR ⊢
   go_wp2
   go_ret
   exact⟨ad,cap,rfl,HR,HB⟩
def mapTo {α:Type} (f:α→α) (L:List α) (j:Nat):List α:=(L.take j).map f++L.drop j
theorem mapTo_zero {α:Type} (f:α→α) (L:List α):mapTo f L 0=L:=by simp[mapTo]
theorem mapTo_all {α:Type} (f:α→α) (L:List α):mapTo f L L.length=L.map f:=by simp[mapTo]
theorem mapTo_len {α:Type} (f:α→α) (L:List α) (j:Nat):(mapTo f L j).length=L.length:=by
 unfold mapTo;rw[List.length_append,List.length_map,List.length_take,List.length_drop];omega
theorem mapTo_at {α:Type} {f:α→α} {L:List α} {j:Nat} (d:α) (h:j<L.length):(mapTo f L j).getD j d=L.getD j d:=by
 unfold mapTo
 rw[List.getD_eq_getElem?_getD,List.getElem?_append_right (by simp;omega),List.getD_eq_getElem?_getD]
 simp only[List.length_map,List.length_take,List.getElem?_drop]
 congr 2
 omega
theorem mapTo_step {α:Type} {f:α→α} {L:List α} {j:Nat} (d:α) (h:j<L.length):(mapTo f L j).set j (f (L.getD j d))=mapTo f L (j+1):=by
 unfold mapTo
 rw[List.set_append_right _ _ (by simp;omega)]
 have e1:j - (List.map f (List.take j L)).length=0:=by simp;omega
 rw[e1,List.take_add_one,List.getElem?_eq_getElem h,List.drop_eq_getElem_cons h,List.set_cons_zero]
 rw[List.getD_eq_getElem?_getD,List.getElem?_eq_getElem h]
 simp only[Option.toList,List.map_append,List.map_cons,List.map_nil,List.append_assoc,List.cons_append,List.nil_append,Option.getD_some]
def nilS:Value:=.slice none 0 0
def pickTo (xv:List Value) (R:List Int) (j:Nat):List Value:=(R.take j).map (fun n=>xv.getD n.toNat nilS)++List.replicate (R.length - j) nilS
theorem pickTo_len (xv:List Value) (R:List Int) {j:Nat} (h:j≤R.length):(pickTo xv R j).length=R.length:=by
 unfold pickTo;rw[List.length_append,List.length_map,List.length_take,List.length_replicate];omega
theorem pickTo_zero (xv:List Value) (R:List Int):pickTo xv R 0=List.replicate R.length nilS:=by simp[pickTo]
theorem pickTo_all (xv:List Value) (R:List Int):pickTo xv R R.length=R.map fun n=>xv.getD n.toNat nilS:=by simp[pickTo]
theorem pickTo_step (xv:List Value) (R:List Int) {j:Nat} (h:j<R.length):(pickTo xv R j).set j (xv.getD (R.getD j 0).toNat nilS)=pickTo xv R (j+1):=by
 unfold pickTo
 rw[List.set_append_right _ _ (by simp;omega)]
 have e1:j - (List.map (fun (n:Int)=>xv.getD n.toNat nilS) (List.take j R)).length=0:=by simp;omega
 obtain⟨m,hm⟩:∃m,R.length - j=m+1:=⟨R.length - j - 1,by omega⟩
 rw[e1,hm,List.replicate_succ,List.set_cons_zero,List.take_add_one,List.getElem?_eq_getElem h]
 rw[List.getD_eq_getElem?_getD (l:=R),List.getElem?_eq_getElem h,show R.length - (j+1)=m by omega]
 simp only[Option.toList,List.map_append,List.map_cons,List.map_nil,List.append_assoc,List.cons_append,List.nil_append,Option.getD_some]
theorem Own.pick {B:Nat} {w:World} {fv cv cv':Value} {rv xv:List Value} {S:Sta} (h:Own B w fv cv rv xv S) {R:List Int} (hn:R.Nodup) (hR:∀x,x ∈ R→0≤x∧x<(S.cs.length:Int)) (hrow:w.ownsRow B 35 1 cv' R.length (R.map fun n=>xv.getD n.toNat nilS)) :
  Own B w fv cv' rv (R.map fun n=>xv.getD n.toNat nilS) ⟨S.fs,R.map fun n=>S.cs.getD n.toNat [],S.st,S.wh⟩:=by
 have hxl:=h.xl
 have hat:∀(i:Nat) (u:Value),(R.map fun n=>xv.getD n.toNat nilS)[i]?=some u→∃n:Nat,R[i]?=some (n:Int)∧n<S.cs.length∧xv[n]?=some u:=fun i u hi=>by
  rw[List.getElem?_map]at hi
  cases hr:R[i]? with
  | none=>rw[hr]at hi;cases hi
  | some x =>
   rw[hr]at hi
   simp only[Option.map_some,Option.some.injEq]at hi
   obtain⟨h0,h1⟩:=hR x (List.mem_of_getElem? hr)
   have hlt:x.toNat<xv.length:=by omega
   refine⟨x.toNat,by congr 1;omega,by omega,?_⟩
   rw[←hi,List.getD_eq_getElem?_getD,List.getElem?_eq_getElem hlt];rfl
 refine⟨h.fr,?_,h.rl,h.regs,fun i hi=>?_,h.rr,fun i j u u' b hi hj hb hb'=>?_,fun i j u u' b hi hj hb=>?_⟩
 ·show w.ownsRow B 35 1 cv' (R.map _).length _
  rw[List.length_map];exact hrow
 ·have hi':i<R.length:=by simpa using hi
  have hiu:(R.map fun n=>xv.getD n.toNat nilS)[i]?=some (xv.getD (R[i]'hi').toNat nilS):=by simp[hi']
  obtain⟨n,h1,h2,h3⟩:=hat i _ hiu
  obtain⟨u,k1,k2⟩:=h.cells n h2
  rw[h3]at k1
  injection k1 with k1
  refine⟨_,hiu,?_⟩
  rw[k1]
  show VRow B w u ((R.map fun n=>S.cs.getD n.toNat []).getD i [])
  have e:(R.map fun n=>S.cs.getD n.toNat []).getD i []=S.cs.getD n []:=by
   rw[List.getD_eq_getElem?_getD,List.getElem?_map,h1]
   simp
  rw[e];exact k2
 ·obtain⟨n,h1,_,h3⟩:=hat i u hi
  obtain⟨m,k1,_,k3⟩:=hat j u' hj
  have e:=h.xx n m u u' b h3 k3 hb hb'
  subst e
  have hi':=(List.getElem?_eq_some_iff.1 h1).1
  exact (List.getElem?_inj hi' hn).1 (h1.trans k1.symm)
 ·obtain⟨m,k1,_,k3⟩:=hat j u' hj
  exact h.rx i m u u' b hi k3 hb
structure NumAt (w:World) (Nb Mb n:Nat) (R:List Int):Prop where
 nb:w.heap[Nb]?=some (.cells #[.map (some Mb)] 100 (0,0))
 num:NumMap w Mb n R
theorem NumAt.stay {w w':World} {Nb Mb n:Nat} {R:List Int} (h:NumAt w Nb Mb n R) (h1:w'.heap[Nb]?=w.heap[Nb]?) (h2:w'.heap[Mb]?=w.heap[Mb]?):NumAt w' Nb Mb n R:=⟨h1.trans h.nb,h.num.stay h2⟩
theorem NumAt.below {w w':World} {Nb Mb n:Nat} {R:List Int} (h:NumAt w Nb Mb n R) (hb:Below w.heap.size w w'):NumAt w' Nb Mb n R:=h.stay (hb.block _ (Array.getElem?_eq_some_iff.1 h.nb).1) (hb.block _ h.num.lt)
theorem NumAt.apart {w:World} {Nb Mb n:Nat} {R:List Int} (h:NumAt w Nb Mb n R) {B g m cap:Nat} {L:List (Int×Int)} (hv:VRow B w (.slice (some ⟨g,0,none⟩) m cap) L):¬Nb=g∧¬Mb=g:=by
 obtain⟨c,fz,k⟩:=Lib.ownsRow_kind hv g rfl
 refine⟨fun e=>?_,fun e=>?_⟩
 ·have:=h.nb
  rw[e,k]at this
  injection this with this;injection this with _ this _;exact absurd this (by decide)
 ·obtain⟨es,cl,k2⟩:=h.num.isMap
  rw[e,k]at k2
  cases k2
theorem BoxXY.apart {X:Nat} {w:World} {a b c d:Value} (h:BoxXY X w a b c d) {B g m cap:Nat} {L:List (Int×Int)} (hv:VRow B w (.slice (some ⟨g,0,none⟩) m cap) L):¬X=g∧¬X+1=g:=by
 obtain⟨c,fz,k⟩:=Lib.ownsRow_kind hv g rfl
 refine⟨fun e=>?_,fun e=>?_⟩
 ·have:=h.1
  unfold Box4 at this
  rw[e,k]at this
  injection this with this;injection this with _ this _;exact absurd this (by decide)
 ·have:=h.2
  unfold Box4 at this
  rw[e,k]at this
  injection this with this;injection this with _ this _;exact absurd this (by decide)
theorem frames_step {B:Nat} {w w':World} {fv cv:Value} {rv xv:List Value} {fs:List Fm} {cs:List (List (Int×Int))} {st wh:Int} {R:List Int} {j g n cap:Nat} (h:Own B w fv cv rv xv ⟨mapTo (renumF R) fs j,cs,st,wh⟩) (hj:j<fs.length) (hu:rv[j]?=some (.slice (some ⟨g,0,none⟩) n cap)) (hk:KeepG g w w')
  (hr:VRow B w' (.slice (some ⟨g,0,none⟩) n cap) ((fmAt fs j).regs.map (renum R))):Own B w' fv cv rv xv ⟨mapTo (renumF R) fs (j+1),cs,st,wh⟩:=by
 have hl:=mapTo_len (renumF R) fs j
 have hf:fmAt (mapTo (renumF R) fs j) j=fmAt fs j:=mapTo_at noFm hj
 have h2:=h.setRegs (i:=j) (w':=w') (by show j<(mapTo (renumF R) fs j).length;omega) hu (fun k _ hkw hne=>hk.1 k hne hkw) hr
 have e:(mapTo (renumF R) fs j).set j ⟨(fmAt (mapTo (renumF R) fs j) j).proc,(fmAt (mapTo (renumF R) fs j) j).pos,(fmAt fs j).regs.map (renum R),(fmAt (mapTo (renumF R) fs j) j).to⟩=mapTo (renumF R) fs (j+1):=by
  rw[hf]
  exact mapTo_step noFm hj
 rw[←e]
 exact h2
theorem cells_step {B:Nat} {w w':World} {fv cv:Value} {rv xv:List Value} {fs:List Fm} {cs:List (List (Int×Int))} {st wh:Int} {R:List Int} {j g n cap:Nat} (h:Own B w fv cv rv xv ⟨fs,mapTo (List.map (renum R)) cs j,st,wh⟩) (hj:j<cs.length) (hu:xv[j]?=some (.slice (some ⟨g,0,none⟩) n cap)) (hk:KeepG g w w')
  (hr:VRow B w' (.slice (some ⟨g,0,none⟩) n cap) ((cs.getD j []).map (renum R))):Own B w' fv cv rv xv ⟨fs,mapTo (List.map (renum R)) cs (j+1),st,wh⟩:=by
 have hl:=mapTo_len (List.map (renum R)) cs j
 have h2:=h.setFields (i:=j) (w':=w') (by show j<(mapTo (List.map (renum R)) cs j).length;omega) hu (fun k _ hkw hne=>hk.1 k hne hkw) hr
 have e:(mapTo (List.map (renum R)) cs j).set j ((cs.getD j []).map (renum R))=mapTo (List.map (renum R)) cs (j+1):=mapTo_step [] hj
 rw[←e]
 exact h2
end
end Go.Proofs.YtfaokaohhchdhaaGreatDoor
