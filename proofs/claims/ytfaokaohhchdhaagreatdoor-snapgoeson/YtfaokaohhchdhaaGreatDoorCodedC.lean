/- codeOf: the instructions of statements, by the reckoning. -/
import Derived.Test.YtfaokaohhchdhaaGreatDoorPart46
import Derived.Deep.Upon
namespace Go.Proofs.YtfaokaohhchdhaaGreatDoor
open Go.RowKit Go.Maps
theorem append_insE {ops:Array Oper} {rest:List Oper} {o:Oper} {a:Act} {Q:Exit→Act→World→Prop} (w:World) (hgd:o.guard=none) (s y:Operand)
  (ho:o.op=.call { callee:=.builtin .append,args:=#[s,y],argTypes:=#[36,36] }) (B B2:Nat) (no:Nat→Prop) (v u:Value) (L M:List (List Int)) (hs:a.eval s=v) (hy:a.eval y=u) (hv:InsRow B no w v L) (hu:InsRow B2 no w u M) (hBB:B≤B2) (hM:M=[]→u=.slice none 0 0) (hl:L.length+M.length≤100000) (hB:B≤w.heap.size)
  (h:∀ad cap w2,Hid (InsRow B no w2 (.slice ad (L.length+M.length) cap) (L++M))→Hid (w.grownBy w2 v.ownBlock)→wpList Tryz.prog ops Q rest (a.put o.dst (.slice ad (L.length+M.length) cap)) w2) :
  wpList Tryz.prog ops Q (o::rest) a w:=by
 by_cases h0:M=[]
 ·have e:=hM h0
  subst h0
  subst e
  obtain⟨ad,cap,e⟩:=hv.shape
  subst e
  have hle:L.length≤cap:=by
   obtain⟨items,c1,e1,_⟩:=id hv
   have hl1:items.length=L.length:=by rw[←e1,List.length_map]
   rcases c1.1.2 with⟨e,h0⟩|⟨g,cap',cur,e,_,_,h1,_⟩
   ·injection e with _ _ e3;omega
   ·injection e with _ _ e3;omega
  obtain⟨i0,hi,_,_,_⟩:=info_parts infoIns
  have hr:=run_append_nothing (P:=Tryz.prog) w 36 36 o.type 84 i0 Tryz.underlying36 hi ad L.length cap hle (.slice none 0 0) (Src.ofNil w Tryz.underlying36 0)
  refine wpList_plain hgd fun K hK=>?_
  unfold Oper.wp execOp
  simp only[ho,resolve,invoke,builtin,Sem.run_bind,Sem.run_pure,Result.andThen_ok,List.map_toArray,List.map_cons,List.map_nil,hs,hy,hr]
  refine hK _ _ (h ad cap w ?_ (World.grownBy.refl _ _))
  rw[List.append_nil]
  exact hv
 ·exact append_insR w hgd s y ho B B2 no v u L M hs hy hv hu hBB (by intro e;exact h0 (List.eq_nil_of_length_eq_zero e)) hl hB h
theorem append_insA {ops:Array Oper} {rest:List Oper} {o:Oper} {a:Act} {Q:Exit→Act→World→Prop} (w:World) (hgd:o.guard=none) (s y:Operand)
  (ho:o.op=.call { callee:=.builtin .append,args:=#[s,y],argTypes:=#[36,36] }) (B B2:Nat) (no:Nat→Prop) (v u:Value) (L M:List (List Int)) (hs:a.eval s=v) (hy:a.eval y=u) (hv:InsRow B no w v L) (hu:InsRow B2 no w u M) (hBB:B≤B2) (hM:M=[]→u=.slice none 0 0) (hl:L.length+M.length≤100000) (hB:B≤w.heap.size)
  (h:∀ad cap w2,Hid (InsRow B no w2 (.slice ad (L.length+M.length) cap) (L++M)∧w.grownBy w2 v.ownBlock∧((Value.slice ad (L.length+M.length) cap).ownBlock=v.ownBlock∨(Value.slice ad (L.length+M.length) cap).ownBlock=some w.heap.size))→wpList Tryz.prog ops Q rest (a.put o.dst (.slice ad (L.length+M.length) cap)) w2) :
  wpList Tryz.prog ops Q (o::rest) a w:=by
 by_cases h0:M=[]
 ·have e:=hM h0
  subst h0
  subst e
  obtain⟨ad,cap,e⟩:=hv.shape
  subst e
  have hle:L.length≤cap:=by
   obtain⟨items,c1,e1,_⟩:=id hv
   have hl1:items.length=L.length:=by rw[←e1,List.length_map]
   rcases c1.1.2 with⟨e,h0⟩|⟨g,cap',cur,e,_,_,h1,_⟩
   ·injection e with _ _ e3;omega
   ·injection e with _ _ e3;omega
  obtain⟨i0,hi,_,_,_⟩:=info_parts infoIns
  have hr:=run_append_nothing (P:=Tryz.prog) w 36 36 o.type 84 i0 Tryz.underlying36 hi ad L.length cap hle (.slice none 0 0) (Src.ofNil w Tryz.underlying36 0)
  refine wpList_plain hgd fun K hK=>?_
  unfold Oper.wp execOp
  simp only[ho,resolve,invoke,builtin,Sem.run_bind,Sem.run_pure,Result.andThen_ok,List.map_toArray,List.map_cons,List.map_nil,hs,hy,hr]
  refine hK _ _ (h ad cap w ⟨?_,World.grownBy.refl _ _,Or.inl (by cases ad<;>rfl)⟩)
  rw[List.append_nil]
  exact hv
 ·obtain⟨items,c1,e1,a1⟩:=id hv
  obtain⟨items2,c2,e2,a2⟩:=id hu
  have hl1:items.length=L.length:=by rw[←e1,List.length_map]
  have hl2:items2.length=M.length:=by rw[←e2,List.length_map]
  obtain⟨g,cap,rfl,hg1,hg2,hnews⟩:=c2.news (by intro e;exact h0 (List.eq_nil_of_length_eq_zero (by omega)))
  rw[hl2]at hy
  have hown:=c1.1
  rw[hl1]at hown
  obtain⟨i0,hi,hz0,hz1,hz2⟩:=info_parts infoIns
  refine wpList_append_own_at _ hgd s y 36 ho B 84 i0 (.agg #[.int .i64 0,.int .i64 0,.int .i64 0,.int .i64 0,.slice none 0 0]) 5 56 Tryz.underlying36 hi hz0 hz1 hz2 rfl (by decide) v L.length (flatI items) hs hown ⟨g,0,none⟩ M.length cap (flatI items2) hy (by rw[flatI_len,hl2]) hnews c2.one (by unfold maxLen;omega) (by omega) hB ?_
  intro v' w2 hr hg _ h3
  obtain⟨ad',cap',rfl⟩:=own_shape hr
  exact h ad' cap' w2 ⟨insJoin hBB ⟨c1,e1,a1⟩ ⟨c2,e2,a2⟩ hr hg,hg,h3⟩
theorem step_insA {ops:Array Oper} {o:Oper} {a:Act} {K:Act→World→Prop} {Q:Exit→Act→World→Prop} {E:Prop} (w:World) (hgd:o.guard=none) (s y:Operand)
  (ho:o.op=.call { callee:=.builtin .append,args:=#[s,y],argTypes:=#[36,36] }) (B B2:Nat) (no:Nat→Prop) (v u:Value) (L M:List (List Int)) (hs:a.eval s=v) (hy:a.eval y=u) (hv:InsRow B no w v L) (hu:InsRow B2 no w u M) (hBB:B≤B2) (hM:¬M.length=0) (hl:L.length+M.length≤100000) (hB:B≤w.heap.size)
  (h:∀ad cap w2,Hid (InsRow B no w2 (.slice ad (L.length+M.length) cap) (L++M)∧w.grownBy w2 v.ownBlock∧((Value.slice ad (L.length+M.length) cap).ownBlock=v.ownBlock∨(Value.slice ad (L.length+M.length) cap).ownBlock=some w.heap.size))→K (a.put o.dst (.slice ad (L.length+M.length) cap)) w2) :
  if Region.wanted o (yielded ops a.tmps)=true then Oper.wp Tryz.prog o a w K Q else E:=by
 obtain⟨items,c1,e1,a1⟩:=id hv
 obtain⟨items2,c2,e2,a2⟩:=id hu
 have hl1:items.length=L.length:=by rw[←e1,List.length_map]
 have hl2:items2.length=M.length:=by rw[←e2,List.length_map]
 obtain⟨g,cap,rfl,hg1,hg2,hnews⟩:=c2.news (by omega)
 rw[hl2]at hy
 have hown:=c1.1
 rw[hl1]at hown
 obtain⟨i0,hi,hz0,hz1,hz2⟩:=info_parts infoIns
 refine step_append_lies _ hgd s y 36 ho B 84 i0 (.agg #[.int .i64 0,.int .i64 0,.int .i64 0,.int .i64 0,.slice none 0 0]) 5 56 Tryz.underlying36 hi hz0 hz1 hz2 rfl (by decide) v L.length (flatI items) hs hown ⟨g,0,none⟩ M.length cap (flatI items2) hy (by rw[flatI_len,hl2]) hnews c2.one (by omega) (by unfold maxLen;omega) (by omega) hB _ rfl ?_
 intro g' cap' w2 hr hg h3 _
 refine h _ cap' w2 ⟨insJoin hBB ⟨c1,e1,a1⟩ ⟨c2,e2,a2⟩ hr hg,hg,?_⟩
 rcases h3 with h3|h3
 ·exact Or.inl h3.symm
 ·exact Or.inr (by rw[h3];rfl)
theorem keepRange {lo hi:Nat} {V w w2:World} {r:Option Nat} (h:∀k,lo≤k→k<hi→w.heap[k]?=V.heap[k]?) (hs:hi≤w.heap.size) (hg:w.grownBy w2 r) (hr:∀k,r=some k→k<lo∨hi≤k):∀k,lo≤k→k<hi→w2.heap[k]?=V.heap[k]?:=fun k h1 h2=>by
 rw[hg.block k (by omega) (fun e=>by have:=hr k e.symm;omega)]
 exact h k h1 h2
theorem InsRow.range {lo hi:Nat} {V w:World} {v:Value} {L:List (List Int)} (h:InsRow lo (fun _=>False) V v L) (hV:V.heap.size=hi) (hs:hi≤w.heap.size) (hk:∀k,lo≤k→k<hi→w.heap[k]?=V.heap[k]?):InsRow lo (fun _=>False) w v L:=by
 subst hV
 refine h.stay hs (fun k hk2=>?_) fun k h1 h2 _ _=>hk k h1 h2
 obtain⟨items,c1,_,_⟩:=h
 obtain⟨h1,h2⟩:=c1.1.lt k hk2
 exact hk k h1 h2
structure Ch (W1 W2 W4 w:World) (v:Value) (L:List (List Int)):Prop where
 row:InsRow W1.heap.size (fun _=>False) w v L
 keep:∀k,W2.heap.size≤k→k<W4.heap.size→w.heap[k]?=W4.heap[k]?
 own:∀k,v.ownBlock=some k→k<W2.heap.size∨W4.heap.size≤k
 size:W4.heap.size≤w.heap.size
 low:Below W1.heap.size W1 w
theorem Ch.start {W1 W2 W4:World} {v:Value} {L:List (List Int)} (h:InsRow W1.heap.size (fun _=>False) W2 v L) (h2:Below W1.heap.size W1 W2) (h4:Below W2.heap.size W2 W4):Ch W1 W2 W4 W4 v L :=
 ⟨h.below h4,fun _ _ _=>rfl,fun k hk=>by
  obtain⟨items,c1,_,_⟩:=h
  exact Or.inl (c1.1.lt k hk).2,Nat.le_refl _,h2.trans (h4.mono h2.size)⟩
theorem Ch.alloc {W1 W2 W4 w:World} {v:Value} {L:List (List Int)} (h:Ch W1 W2 W4 w v L) (o:Obj):Ch W1 W2 W4 (w.alloc o) v L :=
 ⟨h.row.below (below_alloc w o),fun k h1 h2=>by rw[(below_alloc w o).block k (Nat.lt_of_lt_of_le h2 h.size)];exact h.keep k h1 h2,h.own,Nat.le_trans h.size (below_alloc w o).size,h.low.trans ((below_alloc w o).mono h.low.size)⟩
theorem Ch.app {W1 W2 W4 w w2:World} {v v':Value} {L L':List (List Int)} (h:Ch W1 W2 W4 w v L) (h':InsRow W1.heap.size (fun _=>False) w2 v' L'∧w.grownBy w2 v.ownBlock∧(v'.ownBlock=v.ownBlock∨v'.ownBlock=some w.heap.size)):Ch W1 W2 W4 w2 v' L':=by
 obtain⟨h1,h2,h3⟩:=h'
 refine⟨h1,keepRange h.keep h.size h2 h.own,fun k hk=>?_,Nat.le_trans h.size h2.size,h.low.grown h2 h.low.size fun k hk=>?_⟩
 ·rcases h3 with e|e
  ·exact h.own k (by rw[←e];exact hk)
  ·rw[e]at hk
   injection hk with hk
   exact Or.inr (by rw[←hk];exact h.size)
 ·obtain⟨items,c1,_,_⟩:=h.row
  exact (c1.1.lt k hk).1
theorem Ch.other {W1 W2 W4 w:World} {v u:Value} {L M:List (List Int)} (h:Ch W1 W2 W4 w v L) (hu:InsRow W2.heap.size (fun _=>False) W4 u M):InsRow W2.heap.size (fun _=>False) w u M :=
 hu.range rfl h.size h.keep
def toksFew:Nat→SL→Prop
 | 0,_=>True
 | d+1,T=>∀i,i<T.len→(T.nd i).ne≤1000∧(T.nd i).nf≤1000∧(T.nd i).kind ≠ 2∧toksFew d (T.sub i false)∧toksFew d (T.sub i true)
theorem oneM_cases {nf:Nat} {par:Nat→Int} {free:Nat} {sub:Bool→Nat→Option (List (List Int))} {s:Nd} {here:Nat} {cl:List (List Int)} (h:oneM nf par free sub s here=some cl) :
  ∃ce,((s.ne=0∧ce=[])∨(¬s.ne=0∧∃r,valM s.ne nf s.ek s.ez par s.ne 0 free=some (ce,r))) ∧
   ((s.kind=1∧cl=ce++[[2,s.num,(free:Int),0]])∨(s.kind=2∧∃d r,valM s.nf nf s.fk s.fz par s.nf 0 (free+1)=some (d,r)∧cl=ce++d++[[6,(free:Int),(free:Int)+1,s.num]]) ∨
   (s.kind=3∧cl=ce++[[9,(free:Int),0,0]])∨(s.kind=4∧cl=ce++[[10,0,0,0]])∨(s.kind=5∧cl=ce++[[11,(free:Int),0,0]])∨(s.kind=8∧cl=ce++[[8,(free:Int),0,0]]) ∨
   ((s.kind=6∨s.kind=7)∧∃x y,sub false (here+ce.length+1)=some x∧sub true (here+ce.length+1+x.length+1)=some y ∧
    cl=ce++[[13,(free:Int),((here+ce.length+1+x.length+1:Nat):Int),0]]++x++[[12,0,(if s.kind=7 then ((here:Nat):Int) else ((here+ce.length+1+x.length+1+y.length:Nat):Int)),0]]++y)):=by
 unfold oneM at h
 obtain⟨ce,hce,h⟩:=Option.bind_eq_some_iff.1 h
 refine⟨ce,?_,?_⟩
 ·by_cases h0:s.ne=0
  ·rw[if_pos h0]at hce;injection hce with hce;exact Or.inl ⟨h0,hce.symm⟩
  ·rw[if_neg h0]at hce
   obtain⟨r,hr,e⟩:=Option.map_eq_some_iff.1 hce
   exact Or.inr ⟨h0,r.2,by rw[hr,←e]⟩
 ·by_cases h1:s.kind=1
  ·rw[if_pos h1]at h;injection h with h;exact Or.inl ⟨h1,h.symm⟩
  rw[if_neg h1]at h
  by_cases h2:s.kind=2
  ·rw[if_pos h2]at h
   obtain⟨r,hr,e⟩:=Option.map_eq_some_iff.1 h
   exact Or.inr (Or.inl ⟨h2,r.1,r.2,hr,e.symm⟩)
  rw[if_neg h2]at h
  by_cases h3:s.kind=3
  ·rw[if_pos h3]at h;injection h with h;exact Or.inr (Or.inr (Or.inl ⟨h3,h.symm⟩))
  rw[if_neg h3]at h
  by_cases h4:s.kind=4
  ·rw[if_pos h4]at h;injection h with h;exact Or.inr (Or.inr (Or.inr (Or.inl ⟨h4,h.symm⟩)))
  rw[if_neg h4]at h
  by_cases h5:s.kind=5
  ·rw[if_pos h5]at h;injection h with h;exact Or.inr (Or.inr (Or.inr (Or.inr (Or.inl ⟨h5,h.symm⟩))))
  rw[if_neg h5]at h
  by_cases h8:s.kind=8
  ·rw[if_pos h8]at h;injection h with h;exact Or.inr (Or.inr (Or.inr (Or.inr (Or.inr (Or.inl ⟨h8,h.symm⟩)))))
  rw[if_neg h8]at h
  by_cases h6:s.kind=6∨s.kind=7
  ·rw[if_pos h6]at h
   obtain⟨x,hx,h⟩:=Option.bind_eq_some_iff.1 h
   obtain⟨y,hy,e⟩:=Option.map_eq_some_iff.1 h
   exact Or.inr (Or.inr (Or.inr (Or.inr (Or.inr (Or.inr ⟨h6,x,y,hx,hy,e.symm⟩)))))
  ·rw[if_neg h6]at h;cases h
theorem iterM_step {g:Nat→Nat→Option (List (List Int))} {at0 i:Nat} {c:List (List Int)} (h:iterM g at0 (i+1)=some c):∃o cl,iterM g at0 i=some o∧g i (at0+o.length)=some cl∧c=o++cl:=by
 unfold iterM at h
 obtain⟨o,ho,h⟩:=Option.bind_eq_some_iff.1 h
 obtain⟨cl,hc,e⟩:=Option.map_eq_some_iff.1 h
 exact⟨o,cl,ho,hc,e.symm⟩
theorem iterM_prefix {g:Nat→Nat→Option (List (List Int))} {at0:Nat}:∀ {n:Nat} {c:List (List Int)},iterM g at0 n=some c→∀j,j≤n→∃o,iterM g at0 j=some o∧o.length≤c.length
 | 0,c,h,j,hj=>by
  obtain rfl:j=0:=by omega
  exact⟨_,h,Nat.le_refl _⟩
 | n+1,c,h,j,hj=>by
  by_cases e:j=n+1
  ·rw[e];exact⟨_,h,Nat.le_refl _⟩
  ·obtain⟨o,cl,h1,_,rfl⟩:=iterM_step h
   obtain⟨p,h2,h3⟩:=iterM_prefix h1 j (by omega)
   exact⟨p,h2,by rw[List.length_append];omega⟩
end Go.Proofs.YtfaokaohhchdhaaGreatDoor
