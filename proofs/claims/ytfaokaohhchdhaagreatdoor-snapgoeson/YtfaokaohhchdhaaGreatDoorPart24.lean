/- Wake; Run where something is wrong. -/
import Derived.Test.YtfaokaohhchdhaaGreatDoorVmSwpW
namespace Go.Proofs.YtfaokaohhchdhaaGreatDoor
open Go.RowKit Go.Maps
theorem newP {np:Nat} {P:Nat→Pc} (M:Nat) (vp:Value) (w:World) (hM:M≤w.heap.size) (hp:ProcsAt M w vp np P) (he:codeErr np P=0) :
  Calls Tryz.prog 12 #[vp] w (StaPost w ⟨[⟨0,0,List.replicate (P 0).regs.toNat (0,0),0⟩],[],0,0⟩):=by
 have hc:=codeErr_right he
 have h0:=hc.n0
 obtain⟨pb,poo,pc,cb,co,cc,_,_,rfl,hpb,hcb,p1,_⟩:=hp.ins (k:=0) (by omega) (j:=0) (by have:=hc.c0 0 (by omega);omega)
 have hr1:=hc.r1 0 (by omega)
 have hr2:=hc.r0 0 (by omega)
 obtain⟨n,hn⟩:=nat_of (show 0≤(P 0).regs by omega)
 rw[hn,Int.toNat_natCast]
 rw[hn]at p1
 obtain⟨W,hW⟩:∃W,w.alloc (.cells #[.slice none 0 0,.slice none 0 0,.int .i64 0,.int .i64 0] 26)=W:=⟨_,rfl⟩
 have b0:Below w.heap.size w W:=hW ▸ below_alloc w _
 have hCk:=codeCheck M _ np P W (Nat.le_trans hM b0.size) (hp.below (b0.mono hM))
 rw[he]at hCk
 exact vmNew_good pb poo np pc n w W hW hCk (by show Box4 _ _ _ _ _ _ _;unfold Box4;rw[←hW];exact heap_alloc_new w _) (by show _<_;rw[←hW];simp) b0 (fun wi hw=>by
  have:=below_at (below_step b0 hw) p1
  simpa using this) (by omega) (by omega)
theorem step_cell {ops:Array Oper} {o:Oper} {a:Act} {K:Act→World→Prop} {Q:Exit→Act→World→Prop} {E:Prop} (w:World) (hgd:o.guard=none) (s y:Operand)
  (ho:o.op=.call { callee:=.builtin .append,args:=#[s,y],argTypes:=#[24,24] }) (base n:Nat) (v:Value) (xs:List Value) (u:Value) (hs:a.eval s=v) (hown:w.ownsRow base 35 1 v n xs)
  (B:Nat) (hy:a.eval y=.slice (some ⟨B,0,none⟩) 1 1) (hc:w.heap[B]?=some (.cells #[u] 35 (0,0))) (hu:u.oneCell'=true) (hR:n≤100000) (hbase:base≤w.heap.size)
  (h:∀g cap w2,Hid (w2.ownsRow base 35 1 (.slice (some ⟨g,0,none⟩) (n+1) cap) (n+1) (xs++[u]))→Hid (w.grownBy w2 v.ownBlock∧(v.ownBlock=some g∨w.heap.size≤g))→K (a.put o.dst (.slice (some ⟨g,0,none⟩) (n+1) cap)) w2) :
  if Region.wanted o (yielded ops a.tmps)=true then Oper.wp Tryz.prog o a w K Q else E:=by
 obtain⟨i0,hi,hz0,hz1,hz2⟩:=info_parts infoLVal
 refine step_append_lies _ hgd s y 24 ho base 35 i0 (.slice none 0 0) 1 24 Tryz.underlying24 hi hz0 hz1 hz2 rfl (by decide) v _ _ hs hown ⟨B,0,none⟩ 1 1 [u] hy rfl (World.news_of_block hc) (fun x hx=>?_) (by decide) (by unfold maxLen;omega) (by omega) hbase _ rfl ?_
 ·rw[List.mem_singleton]at hx
  subst hx
  exact hu
 intro g cap w2 h1 h2 h3 _
 exact h g cap w2 h1 ⟨h2,h3.imp id fun e=>by omega⟩
structure NewAt (X Y n nc Bb:Nat) (ca:Option Addr) (cc:Nat) (xs:List Value) (V:World) (Kp:World→Prop):Prop where
 c2:V.cell? ⟨X,2,none⟩=some (.slice ca nc cc)
 own:V.ownsRow Bb 35 1 (.slice ca nc cc) nc xs
 hB:Bb≤V.heap.size
 hX:X<V.heap.size
 fin:∀o g cap w2,w2.ownsRow Bb 35 1 (.slice (some ⟨g,0,none⟩) (nc+1) cap) (nc+1) (xs++[.slice (some ⟨V.heap.size,0,none⟩) n n])→(((V.alloc (.cells (madeCells #[.int .i64 0,.int .i64 0] (n*2)) 92)).alloc o).drew).grownBy w2 (Value.slice ca nc cc).ownBlock→((Value.slice ca nc cc).ownBlock=some g∨V.heap.size≤g) →
  w2.cell? ⟨X,2,none⟩=some (.slice ca nc cc)∧w2.frozen? ⟨X,2,none⟩=false∧(w2.setCell ⟨X,2,none⟩ (.slice (some ⟨g,0,none⟩) (nc+1) cap)).cell? ⟨Y,0,none⟩=some (.int .i64 0)∧(w2.setCell ⟨X,2,none⟩ (.slice (some ⟨g,0,none⟩) (nc+1) cap)).cell? ⟨Y,1,none⟩=some (.int .i64 0) ∧
  (w2.setCell ⟨X,2,none⟩ (.slice (some ⟨g,0,none⟩) (nc+1) cap)).frozen? ⟨Y,0,none⟩=false∧(w2.setCell ⟨X,2,none⟩ (.slice (some ⟨g,0,none⟩) (nc+1) cap)).frozen? ⟨Y,1,none⟩=false ∧
  Hid ((((w2.setCell ⟨X,2,none⟩ (.slice (some ⟨g,0,none⟩) (nc+1) cap)).setCell ⟨Y,0,none⟩ (.int .i64 2)).setCell ⟨Y,1,none⟩ (.int .i64 nc)).heap[Y]?=some (.cells #[.int .i64 2,.int .i64 nc] 92 (0,0))) ∧
  Hid (Kp (((w2.setCell ⟨X,2,none⟩ (.slice (some ⟨g,0,none⟩) (nc+1) cap)).setCell ⟨Y,0,none⟩ (.int .i64 2)).setCell ⟨Y,1,none⟩ (.int .i64 nc)))
theorem size_up {V:World} {o o':Obj} {p:Prop} {g:Nat} (h:p∨((V.alloc o).alloc o').drew.heap.size≤g):p∨V.heap.size≤g:=h.imp id fun h=>by
 have h1:=(below_alloc V o).size
 have h2:=(below_alloc (V.alloc o) o').size
 have h3:((V.alloc o).alloc o').heap.size≤g:=h
 omega
theorem heap_new2 (w:World) (o:Obj) (cs:Array Value) (t:TypeId):((w.alloc o).alloc (.cells cs t)).heap[w.heap.size+1]?=some (.cells cs t (0,0)):=by
 have:=heap_alloc_new (w.alloc o) (.cells cs t)
 simpa using this
set_option maxRecDepth 20000 in
set_option maxHeartbeats 4000000 in
theorem new_plain (X n nc Bb:Nat) (ca:Option Addr) (cc:Nat) (xs:List Value) (w W:World) (Kp:World→Prop) (HW:Hid (w.alloc (.cells #[.int .i64 0,.int .i64 0] 92)=W)) (HN:Hid (NewAt X w.heap.size n nc Bb ca cc xs W Kp)) (hnc:((nc:Int) == 24)=false) (hn:n≤1000) (hc:nc≤1000) :
  Calls Tryz.prog 212 #[.pointer (some ⟨X,0,none⟩),.int .i64 n] w fun e w'=>e=.returned (.tuple #[.agg #[.int .i64 2,.int .i64 nc],.bool true])∧Hid (Kp w'):=by
 have c2:=HN.out.c2
 have hw1:IntKind.i64.wrap (nc:Int)=(nc:Int):=Go.IntWalk.i64_in _ (by omega)
 have hw2:IntKind.i64.wrap ((nc:Int)+1 - 1)=(nc:Int):=(by rw[Int.add_sub_cancel];exact hw1)
 have HNc:Hid (nc≤1000):=hc
 have c2a:∀o:Obj,(W.alloc o).cell? ⟨X,2,none⟩=some (.slice ca nc cc):=fun o=>((below_alloc W o).cell (p:=⟨X,2,none⟩) HN.out.hX).trans c2
 have c2b:∀o o':Obj,((W.alloc o).alloc o').cell? ⟨X,2,none⟩=some (.slice ca nc cc):=fun o o'=>((below_alloc (W.alloc o) o').cell (p:=⟨X,2,none⟩) (Nat.lt_of_lt_of_le HN.out.hX (below_alloc W o).size)).trans (c2a o)
 have hmk:=mkVals n hn
 go_enter Tryz.func212,Tryz.ntmps212
 go_upto_region 1 with (fail)
 rw[HW.out]
 go_upto_region 6 with (fail)
 go_region_law (refine step_cell _ rfl _ _ rfl Bb nc _ xs _ rfl (World.ownsRow.alloc (World.ownsRow.alloc HN.out.own _) _) _ rfl (heap_new2 W _ _ _) rfl (by have:=HNc.out;omega) (Nat.le_trans (Nat.le_trans HN.out.hB (below_alloc W _).size) (below_alloc _ _).size) ?_;intro g cap w2 hown hgr;obtain⟨q1,q2,q3,q4,q5,q6,q7,q8⟩:=HN.out.fin _ g cap w2 hown.out hgr.out.1 (size_up hgr.out.2))
 all_goals
  go_wp2
  refine bodyPost_ret (results_row_tmp rfl _ _ w.heap.size 92 _ (0,0) _ rfl q7.out Tryz.underlying92 rfl (by kernel_rfl)) rfl ?_
  exact⟨rfl,q8⟩
set_option maxRecDepth 20000 in
set_option maxHeartbeats 4000000 in
theorem new_full (X n nf ns:Nat) (fa ca:Option Addr) (fc cc:Nat) (st wh:Int) (w W:World) (K0:Option Addr→Nat→Option Addr→Nat→World→Prop) (Kp:World→Prop) (HW:Hid (w.alloc (.cells #[.int .i64 0,.int .i64 0] 92)=W))
  (HC:Hid (W.cell? ⟨X,1,none⟩=some (.slice fa nf fc)∧W.cell? ⟨X,2,none⟩=some (.slice ca 24 cc)∧W.cell? ⟨X,3,none⟩=some (.int .i64 st)∧W.cell? ⟨X,4,none⟩=some (.int .i64 wh)))
  (HSw:Hid (Calls Tryz.prog 21 #[.agg #[.slice fa nf fc,.slice ca 24 cc,.int .i64 st,.int .i64 wh]] W fun e w'=>∃a c b d,e=.returned (.agg #[.slice a nf c,.slice b ns d,.int .i64 st,.int .i64 wh])∧Hid (K0 a c b d w')))
  (H2:Hid (∀a c b d w1,K0 a c b d w1→∀o,(w1.alloc o).cell? ⟨w.heap.size,0,none⟩=some (.int .i64 0)∧(w1.alloc o).cell? ⟨w.heap.size,1,none⟩=some (.int .i64 0)∧(w1.alloc o).frozen? ⟨w.heap.size,0,none⟩=false∧(w1.alloc o).frozen? ⟨w.heap.size,1,none⟩=false ∧
   Hid ((((w1.alloc o).setCell ⟨w.heap.size,0,none⟩ (.int .i64 0)).setCell ⟨w.heap.size,1,none⟩ (.int .i64 0)).heap[w.heap.size]?=some (.cells #[.int .i64 0,.int .i64 0] 92 (0,0)))∧Hid (Kp (((w1.alloc o).setCell ⟨w.heap.size,0,none⟩ (.int .i64 0)).setCell ⟨w.heap.size,1,none⟩ (.int .i64 0)))))
  (hns:((ns:Int) == 24)=true) :
  Calls Tryz.prog 212 #[.pointer (some ⟨X,0,none⟩),.int .i64 n] w fun e w'=>e=.returned (.tuple #[.agg #[.int .i64 0,.int .i64 0],.bool false])∧Hid (Kp w'):=by
 obtain⟨c1,c2,c3,c4⟩:=HC.out
 go_enter Tryz.func212,Tryz.ntmps212
 go_upto_region 1 with (fail)
 rw[HW.out]
 go_wp2_with (go_at_call 21;refine HSw.out.mono ?_;rintro e w1 ⟨a,c,b,d,rfl,HK⟩;obtain⟨z1,z2,z3,z4,z5,z6⟩:=H2.out a c b d w1 HK.out (.cells #[.slice a nf c,.slice b ns d,.int .i64 st,.int .i64 wh] 26))
 refine bodyPost_ret (results_row_tmp rfl _ _ w.heap.size 92 _ (0,0) _ rfl z5.out Tryz.underlying92 rfl (by kernel_rfl)) rfl ?_
 exact⟨rfl,z6⟩
set_option maxRecDepth 20000 in
set_option maxHeartbeats 4000000 in
theorem new_swept (X n nf ns Bb:Nat) (fa ca:Option Addr) (fc cc:Nat) (st wh:Int) (w W:World) (K0:Option Addr→Nat→Option Addr→Nat→World→Prop) (Kp:World→Prop) (HW:Hid (w.alloc (.cells #[.int .i64 0,.int .i64 0] 92)=W))
  (HC:Hid (W.cell? ⟨X,1,none⟩=some (.slice fa nf fc)∧W.cell? ⟨X,2,none⟩=some (.slice ca 24 cc)∧W.cell? ⟨X,3,none⟩=some (.int .i64 st)∧W.cell? ⟨X,4,none⟩=some (.int .i64 wh)))
  (HSw:Hid (Calls Tryz.prog 21 #[.agg #[.slice fa nf fc,.slice ca 24 cc,.int .i64 st,.int .i64 wh]] W fun e w'=>∃a c b d,e=.returned (.agg #[.slice a nf c,.slice b ns d,.int .i64 st,.int .i64 wh])∧Hid (K0 a c b d w')))
  (H2:Hid (∀a c b d w1,K0 a c b d w1→∀o,(∃v,(w1.alloc o).cell? ⟨X,1,none⟩=some v)∧(∃v,(w1.alloc o).cell? ⟨X,2,none⟩=some v)∧(∃v,(w1.alloc o).cell? ⟨X,3,none⟩=some v)∧(∃v,(w1.alloc o).cell? ⟨X,4,none⟩=some v)∧(∀i,(w1.alloc o).frozen? ⟨X,i,none⟩=false) ∧
   ∃xs,Hid (NewAt X w.heap.size n ns Bb b d xs (((((w1.alloc o).setCell ⟨X,1,none⟩ (.slice a nf c)).setCell ⟨X,2,none⟩ (.slice b ns d)).setCell ⟨X,3,none⟩ (.int .i64 st)).setCell ⟨X,4,none⟩ (.int .i64 wh)) Kp)))
  (hns:((ns:Int) == 24)=false) (hn:n≤1000) (hc:ns≤1000) :
  Calls Tryz.prog 212 #[.pointer (some ⟨X,0,none⟩),.int .i64 n] w fun e w'=>e=.returned (.tuple #[.agg #[.int .i64 2,.int .i64 ns],.bool true])∧Hid (Kp w'):=by
 obtain⟨c1,c2,c3,c4⟩:=HC.out
 go_enter Tryz.func212,Tryz.ntmps212
 go_upto_region 1 with (fail)
 rw[HW.out]
 go_upto_region 6 with (go_at_call 21;refine HSw.out.mono ?_;rintro e w1 ⟨a,c,b,d,rfl,HK⟩;obtain⟨⟨v1,z1⟩,⟨v2,z2⟩,⟨v3,z3⟩,⟨v4,z4⟩,z5,xs,HN⟩:=H2.out a c b d w1 HK.out (.cells #[.slice a nf c,.slice b ns d,.int .i64 st,.int .i64 wh] 26);have z51:=z5 1;have z52:=z5 2;have z53:=z5 3;have z54:=z5 4;clear z5)
 clear z1 z2 z3 z4 z51 z52 z53 z54 c1 c2 c3 c4 HC H2 HSw HK
 generalize (((((w1.alloc (.cells #[.slice a nf c,.slice b ns d,.int .i64 st,.int .i64 wh] 26)).setCell ⟨X,1,none⟩ (.slice a nf c)).setCell ⟨X,2,none⟩ (.slice b ns d)).setCell ⟨X,3,none⟩ (.int .i64 st)).setCell ⟨X,4,none⟩ (.int .i64 wh))=V at *
 have c2:=HN.out.c2
 have hw1:IntKind.i64.wrap (ns:Int)=(ns:Int):=Go.IntWalk.i64_in _ (by omega)
 have hw2:IntKind.i64.wrap ((ns:Int)+1 - 1)=(ns:Int):=(by rw[Int.add_sub_cancel];exact hw1)
 have HNc:Hid (ns≤1000):=hc
 have c2a:∀o:Obj,(V.alloc o).cell? ⟨X,2,none⟩=some (.slice b ns d):=fun o=>((below_alloc V o).cell (p:=⟨X,2,none⟩) HN.out.hX).trans c2
 have c2b:∀o o':Obj,((V.alloc o).alloc o').cell? ⟨X,2,none⟩=some (.slice b ns d):=fun o o'=>((below_alloc (V.alloc o) o').cell (p:=⟨X,2,none⟩) (Nat.lt_of_lt_of_le HN.out.hX (below_alloc V o).size)).trans (c2a o)
 have hmk:=mkVals n hn
 go_region_law (refine step_cell _ rfl _ _ rfl Bb ns _ xs _ rfl (World.ownsRow.alloc (World.ownsRow.alloc HN.out.own _) _) _ rfl (heap_new2 V _ _ _) rfl (by have:=HNc.out;omega) (Nat.le_trans (Nat.le_trans HN.out.hB (below_alloc V _).size) (below_alloc _ _).size) ?_;intro g cap w2 hown hgr;obtain⟨q1,q2,q3,q4,q5,q6,q7,q8⟩:=HN.out.fin _ g cap w2 hown.out hgr.out.1 (size_up hgr.out.2))
 all_goals
  go_wp2
  refine bodyPost_ret (results_row_tmp rfl _ _ w.heap.size 92 _ (0,0) _ rfl q7.out Tryz.underlying92 rfl (by kernel_rfl)) rfl ?_
  exact⟨rfl,q8⟩
def NewK (X Y B:Nat) (pv fv cv sv:Value) (rv xv:List Value) (R:Rn) (n:Int) (V w':World):Prop :=
 (∃cv' u,RunAt X B w' pv fv cv' sv rv (xv++[u]) ⟨withCell R.s n,R.said,R.paused⟩∧∀k,OwnB fv cv' sv rv (xv++[u]) k→OwnB fv cv sv rv xv k∨V.heap.size≤k)∧Below B V w'∧∀k,k<V.heap.size→¬OwnB fv cv sv rv xv k→¬k=X→¬k=Y→w'.heap[k]?=V.heap[k]?
theorem newAt_of (X Y B n nc:Nat) (ca:Option Addr) (cc:Nat) (pv fv sv:Value) (rv xv:List Value) (R:Rn) (V:World) (h:RunAt X B V pv fv (.slice ca nc cc) sv rv xv R) (hnc:R.s.cs.length=nc) (hn:n≤1000) (hY:Box 92 Y V #[.int .i64 0,.int .i64 0]) (hYo:¬OwnB fv (.slice ca nc cc) sv rv xv Y) (hYX:¬Y=X) (hYB:B≤Y) :
  NewAt X Y n nc B ca cc xv V (NewK X Y B pv fv (.slice ca nc cc) sv rv xv R n V):=by
 obtain⟨_,_,c2,_,_,_,_,c7⟩:=h.cells
 have hBV:B≤V.heap.size:=Nat.le_trans h.hX (Nat.le_of_lt h.lt)
 have hce:=h.own.ce
 rw[hnc]at hce
 refine⟨c2,hce,hBV,h.lt,fun o g cap w2 hown hgr hg=>?_⟩
 have hYl:Y<V.heap.size:=by
  unfold Box at hY
  exact (Array.getElem?_eq_some_iff.1 hY).1
 have hA:=below_alloc V (.cells (madeCells #[.int .i64 0,.int .i64 0] (n*2)) 92)
 have hA2:=below_alloc (V.alloc (.cells (madeCells #[.int .i64 0,.int .i64 0] (n*2)) 92)) o
 have hsA:(V.alloc (.cells (madeCells #[.int .i64 0,.int .i64 0] (n*2)) 92)).heap.size=V.heap.size+1:=by simp
 have hot1:∀k,k<V.heap.size+1→¬(Value.slice ca nc cc).ownBlock=some k→w2.heap[k]?=(V.alloc (.cells (madeCells #[.int .i64 0,.int .i64 0] (n*2)) 92)).heap[k]?:=fun k hk hne=>by
  rw[hgr.block k (Nat.lt_of_lt_of_le (by rw[hsA];exact hk) hA2.size) (fun e=>hne e.symm)]
  exact hA2.block k (by omega)
 have hot:∀k,k<V.heap.size→¬(Value.slice ca nc cc).ownBlock=some k→w2.heap[k]?=V.heap[k]?:=fun k hk hne=>(hot1 k (by omega) hne).trans (hA.block k hk)
 have hXc:¬(Value.slice ca nc cc).ownBlock=some X:=fun e=>h.apart h.own.ce (by decide) e rfl
 have hYc:¬(Value.slice ca nc cc).ownBlock=some Y:=fun e=>hYo (Or.inr (Or.inl e))
 have hDc:¬(Value.slice ca nc cc).ownBlock=some V.heap.size:=fun e=>by have:=(h.own.ce.lt _ e).2;omega
 have hbx:w2.heap[X]?=V.heap[X]?:=hot X h.lt hXc
 have hby:w2.heap[Y]?=V.heap[Y]?:=hot Y hYl hYc
 have hbox:=hbx.trans h.box
 have hrow:VRow B w2 (.slice (some ⟨V.heap.size,0,none⟩) n n) (List.replicate n (0,0)):=ownsRow_block (made_row n hn B V hBV) fun k hk=>by
  injection hk with hk
  subst hk
  exact hot1 _ (Nat.lt_succ_self _) hDc
 have ho2:Own B w2 fv (.slice (some ⟨g,0,none⟩) (nc+1) cap) rv (xv++[.slice (some ⟨V.heap.size,0,none⟩) n n]) (withCell R.s n):=by
  have:=h.own.pushCell (w':=w2) (cv':=.slice (some ⟨g,0,none⟩) (nc+1) cap) (u:=.slice (some ⟨V.heap.size,0,none⟩) n n) (L:=List.replicate n (0,0)) (by rw[hnc];exact hown) hrow (fun k hk=>by
   have:V.heap.size=k:=Option.some.inj (show some V.heap.size=some k from hk)
   omega) fun k _ hk hne=>hot k hk hne
  exact this
 have hsd2:w2.ownsRow B 3 1 sv R.said.length (R.said.map (Value.int .i64)):=ownsRow_block h.sd fun k hk=>hot k (h.sd.lt k hk).2 fun e=>ownsRow_apart h.sd h.own.ce (by decide) hk e
 have hY2:Box 92 Y w2 #[.int .i64 0,.int .i64 0]:=hY.keep hby
 have hY3:Box 92 Y (w2.setCell ⟨X,2,none⟩ (.slice (some ⟨g,0,none⟩) (nc+1) cap)) #[.int .i64 0,.int .i64 0]:=hY2.keep (Below.heap_setCell _ _ _ _ hYX)
 refine⟨(World.cell?_of_block (w:=V) (a:=⟨X,2,none⟩) hbx).trans c2,(World.frozen?_of_block (w:=V) (a:=⟨X,2,none⟩) hbx).trans (c7 2),hY3.cell 0,hY3.cell 1,hY3.fz 0,hY3.fz 1,(hY3.put 0 _).put 1 _,?_⟩
 have hX3:=heap_setCell_same w2 X 2 _ _ (.slice (some ⟨g,0,none⟩) (nc+1) cap) hbox
 have hk3:∀k,¬k=X→(w2.setCell ⟨X,2,none⟩ (.slice (some ⟨g,0,none⟩) (nc+1) cap)).heap[k]?=w2.heap[k]?:=fun k hk=>Below.heap_setCell _ _ _ k hk
 have hk5:∀k,¬k=Y→(((w2.setCell ⟨X,2,none⟩ (.slice (some ⟨g,0,none⟩) (nc+1) cap)).setCell ⟨Y,0,none⟩ (.int .i64 2)).setCell ⟨Y,1,none⟩ (.int .i64 nc)).heap[k]?=(w2.setCell ⟨X,2,none⟩ (.slice (some ⟨g,0,none⟩) (nc+1) cap)).heap[k]?:=fun k hk=>(Below.heap_setCell _ _ _ k hk).trans (Below.heap_setCell _ _ _ k hk)
 have hsd3:=ownsRow_block (w':=(w2.setCell ⟨X,2,none⟩ (.slice (some ⟨g,0,none⟩) (nc+1) cap))) hsd2 fun k hkk=>hk3 k fun e=>by
  obtain⟨c,fz,q⟩:=Lib.ownsRow_kind hsd2 k hkk
  rw[e,hbox]at q
  injection q with q
  injection q with _ q _
  exact absurd q (by decide)
 have hr3:RunAt X B (w2.setCell ⟨X,2,none⟩ (.slice (some ⟨g,0,none⟩) (nc+1) cap)) pv fv (.slice (some ⟨g,0,none⟩) (nc+1) cap) sv rv (xv++[.slice (some ⟨V.heap.size,0,none⟩) n n]) ⟨withCell R.s n,R.said,R.paused⟩:=⟨hX3,ho2.setX hbox hk3,hsd3,h.hX⟩
 have hOwn:∀k,OwnB fv (.slice (some ⟨g,0,none⟩) (nc+1) cap) sv rv (xv++[.slice (some ⟨V.heap.size,0,none⟩) n n]) k→OwnB fv (.slice ca nc cc) sv rv xv k∨V.heap.size≤k:=fun k hk=>by
  rcases hk with hk|hk|hk|hk|⟨u,hu,hk⟩
  ·exact Or.inl (Or.inl hk)
  ·have e:g=k:=Option.some.inj (show some g=some k from hk)
   subst e
   exact hg.imp (fun e=>Or.inr (Or.inl e)) id
  ·exact Or.inl (Or.inr (Or.inr (Or.inl hk)))
  ·exact Or.inl (Or.inr (Or.inr (Or.inr (Or.inl hk))))
  ·rcases List.mem_append.1 hu with hu|hu
   ·exact Or.inl (Or.inr (Or.inr (Or.inr (Or.inr ⟨u,hu,hk⟩))))
   ·rw[List.mem_singleton]at hu
    subst hu
    have e:V.heap.size=k:=Option.some.inj (show some V.heap.size=some k from hk)
    exact Or.inr (by omega)
 refine⟨⟨_,_,hr3.keepB (hk5 X fun e=>hYX e.symm) (fun k hk=>hk5 k fun e=>?_),hOwn⟩,?_,fun k hk hno hkX hkY=>?_⟩
 ·rcases hOwn k hk with h1|h1
  ·exact hYo (e ▸ h1)
  ·omega
 ·have b1:Below B V w2:=(((hA.mono hBV).trans (hA2.mono (by omega))).drew).grown hgr (by show B≤((V.alloc _).alloc o).heap.size;have:=hA.size;have:=hA2.size;omega) (fun k hk=>(h.own.ce.lt k hk).1)
  exact ((b1.setCell h.hX _).setCell hYB _).setCell hYB _
 ·rw[hk5 k hkY,hk3 k hkX]
  exact hot k hk fun e=>hno (Or.inr (Or.inl e))
theorem newC {np:Nat} {P:Nat→Pc}:NewC np P:=by
 intro N X B n w pv R hc hs h1 h4 hRI hXN hNw
 obtain⟨fv,cv,sv,rv,xv,h,hown⟩:=hRI
 obtain⟨nn,rfl⟩:=nat_of (show 0≤n by omega)
 obtain⟨W,hW⟩:∃W,w.alloc (.cells #[.int .i64 0,.int .i64 0] 92)=W:=⟨_,rfl⟩
 have b0:Below w.heap.size w W:=hW ▸ below_alloc w _
 have hsz:W.heap.size=w.heap.size+1:=by rw[←hW];simp
 have hYW:Box 92 w.heap.size W #[.int .i64 0,.int .i64 0]:=by rw[←hW];exact box_new w _ _
 have hBw:B≤w.heap.size:=Nat.le_trans h.hX (Nat.le_of_lt h.lt)
 have hRW:=h.below b0
 have hXw:X<w.heap.size:=h.lt
 obtain⟨ca,cc,rfl⟩:=own_shape h.own.ce
 obtain⟨fa,fc,rfl⟩:=own_shape h.own.fr
 obtain⟨c0,c1,c2,c3,c4,c5,c6,c7⟩:=hRW.cells
 have hcn:=hs.cn
 by_cases h24:R.s.cs.length=24
 ·have hroom:roomS R.s=sweptS R.s:=if_pos h24
  have hst:StaAt W (.slice fa R.s.fs.length fc) (.slice ca R.s.cs.length cc) R.s:=hRW.own.at (by have:=hs.few;omega) (by omega) (fun i hi=>by
   have k:=hs.frames i hi
   have:=hc.r1 (fmAt R.s.fs i).proc.toNat (by have:=k.p0;have:=k.p1;omega)
   have:=k.len
   omega) (fun i hi=>by have:=hs.cells.hi _ (getD_mem (d:=[]) hi);omega)
  have hsw:=sweepP R.s _ _ W hst hc hs
  obtain⟨ns,hns⟩:∃ns,(sweptS R.s).cs.length=ns:=⟨_,rfl⟩
  have hns24:ns≤24:=by have:=(hs.swept hc).cn;omega
  have hfl:(sweptS R.s).fs.length=R.s.fs.length:=by simp[sweptS]
  rw[h24]at hsw c2
  have HSw:Calls Tryz.prog 21 #[.agg #[.slice fa R.s.fs.length fc,.slice ca 24 cc,.int .i64 R.s.st,.int .i64 R.s.wh]] W fun e w'=>∃a c b d,e=.returned (.agg #[.slice a R.s.fs.length c,.slice b ns d,.int .i64 R.s.st,.int .i64 R.s.wh])∧Hid ((∃rv' xv',Own W.heap.size w' (.slice a R.s.fs.length c) (.slice b ns d) rv' xv' (sweptS R.s))∧Below W.heap.size W w'):=by
   refine hsw.mono ?_
   rintro e w' ⟨fv',cv',rv',xv',rfl,ho,hb⟩
   obtain⟨b,d,rfl⟩:=own_shape ho.out.ce
   obtain⟨a,c,rfl⟩:=own_shape ho.out.fr
   rw[hns]at ho ⊢
   rw[hfl]at ho ⊢
   exact⟨a,c,b,d,rfl,⟨_,_,ho.out⟩,hb.out⟩
  by_cases hn4:ns=24
  ·have hno:newO R.s (nn:Int)=none:=by unfold newO;rw[hroom,hns,if_pos hn4]
   rw[hno]
   refine (new_full X nn R.s.fs.length ns fa ca fc cc R.s.st R.s.wh w W _ (fun w'=>Below w.heap.size w w') hW ⟨c1,c2,c3,c4⟩ HSw (fun a c b d w1 hk o=>?_) (beq_iff_eq.2 (by omega))).mono ?_
   ·have hb2:Below W.heap.size W (w1.alloc o):=below_step hk.2 (below_alloc w1 o)
    have hY2:Box 92 w.heap.size (w1.alloc o) #[.int .i64 0,.int .i64 0]:=hYW.keep (hb2.block _ (by omega))
    exact⟨hY2.cell 0,hY2.cell 1,hY2.fz 0,hY2.fz 1,(hY2.put 0 _).put 1 _,((below_step b0 hb2).setCell (Nat.le_refl _) _).setCell (Nat.le_refl _) _⟩
   ·rintro e w' ⟨rfl,hb⟩
    exact⟨fun _=>rfl,Or.inl ⟨rfl,⟨0,0,rfl⟩,hb.out⟩⟩
  ·have hno:newO R.s (nn:Int)=some (withCell (sweptS R.s) nn,(2,((ns:Nat):Int))):=by unfold newO;rw[hroom,hns,if_neg hn4]
   rw[hno]
   refine (new_swept X nn R.s.fs.length ns B fa ca fc cc R.s.st R.s.wh w W _ (fun w'=>ValPost N X B w pv R (some (withCell (sweptS R.s) nn,(2,((ns:Nat):Int)))) (.returned (.tuple #[.agg #[.int .i64 2,.int .i64 ns],.bool true])) w') hW ⟨c1,c2,c3,c4⟩ HSw (fun a c b d w1 hk o=>?_) (beq_eq_false_iff_ne.2 (by omega)) (by omega) (by omega)).mono ?_
   ·obtain⟨⟨rv',xv',ho⟩,hb1⟩:=hk
    have hb2:Below W.heap.size W (w1.alloc o):=below_step hb1 (below_alloc w1 o)
    have hXb:(w1.alloc o).heap[X]?=some (.cells #[pv,.slice fa R.s.fs.length fc,.slice ca R.s.cs.length cc,.int .i64 R.s.st,.int .i64 R.s.wh,sv,.bool R.paused] 81 (0,0)):=(hb2.block X hRW.lt).trans hRW.box
    have e:∀k,(w1.alloc o).cell? ⟨X,k,none⟩=(#[pv,.slice fa R.s.fs.length fc,.slice ca R.s.cs.length cc,.int .i64 R.s.st,.int .i64 R.s.wh,sv,.bool R.paused]:Array Value)[k]?:=fun k=>by
     unfold World.cell?;rw[hXb];rfl
    refine⟨⟨_,e 1⟩,⟨_,e 2⟩,⟨_,e 3⟩,⟨_,e 4⟩,fun i=>by unfold World.frozen?;rw[hXb];simp,xv',?_⟩
    have s1:=heap_setCell_same _ X 1 _ _ (.slice a R.s.fs.length c) hXb
    have s2:=heap_setCell_same _ X 2 _ _ (.slice b ns d) s1
    have s3:=heap_setCell_same _ X 3 _ _ (.int .i64 R.s.st) s2
    have s4:=heap_setCell_same _ X 4 _ _ (.int .i64 R.s.wh) s3
    have hkV:∀k,¬k=X→(((((w1.alloc o).setCell ⟨X,1,none⟩ (.slice a R.s.fs.length c)).setCell ⟨X,2,none⟩ (.slice b ns d)).setCell ⟨X,3,none⟩ (.int .i64 R.s.st)).setCell ⟨X,4,none⟩ (.int .i64 R.s.wh)).heap[k]?=(w1.alloc o).heap[k]?:=fun k hk =>
     (((Below.heap_setCell _ _ _ k hk).trans (Below.heap_setCell _ _ _ k hk)).trans (Below.heap_setCell _ _ _ k hk)).trans (Below.heap_setCell _ _ _ k hk)
    have hbV:Below B W (((((w1.alloc o).setCell ⟨X,1,none⟩ (.slice a R.s.fs.length c)).setCell ⟨X,2,none⟩ (.slice b ns d)).setCell ⟨X,3,none⟩ (.int .i64 R.s.st)).setCell ⟨X,4,none⟩ (.int .i64 R.s.wh)):=((((hb2.mono (by omega)).setCell h.hX _).setCell h.hX _).setCell h.hX _).setCell h.hX _
    have hszV:=hbV.size
    generalize hV:((((w1.alloc o).setCell ⟨X,1,none⟩ (.slice a R.s.fs.length c)).setCell ⟨X,2,none⟩ (.slice b ns d)).setCell ⟨X,3,none⟩ (.int .i64 R.s.st)).setCell ⟨X,4,none⟩ (.int .i64 R.s.wh)=V at *
    have hsdlt:∀k,sv.ownBlock=some k→k<N:=fun k hk=>hown k (Or.inr (Or.inr (Or.inl hk)))
    have hoA:Own W.heap.size (w1.alloc o) (.slice a R.s.fs.length c) (.slice b ns d) rv' xv' (sweptS R.s):=ho.below (below_alloc w1 o)
    have hRV:RunAt X B V pv (.slice a R.s.fs.length c) (.slice b ns d) sv rv' xv' ⟨sweptS R.s,R.said,R.paused⟩:=by
     refine⟨s4,(hoA.stay fun k h1 _=>hkV k (by omega)).lower (by omega),ownsRow_block hRW.sd fun k hk=>?_,h.hX⟩
     rw[hkV k (fun e2=>h.apart h.sd (by decide) hk e2)]
     exact hb2.block k (hRW.sd.lt k hk).2
    have hOB:∀k,OwnB (.slice a R.s.fs.length c) (.slice b ns d) sv rv' xv' k→k<N∨W.heap.size≤k:=fun k hk=>by
     rcases hk with hk|hk|hk|⟨u,hu,hk⟩|⟨u,hu,hk⟩
     ·exact Or.inr (hoA.fr.lt k hk).1
     ·exact Or.inr (hoA.ce.lt k hk).1
     ·exact Or.inl (hsdlt k hk)
     ·obtain⟨i,hi,e2⟩:=List.mem_iff_getElem.1 hu
      have hrl:=hoA.rl
      obtain⟨u',k1,k2⟩:=hoA.regs i (by omega)
      rw[List.getElem?_eq_getElem hi,e2]at k1
      injection k1 with k1
      subst k1
      exact Or.inr (k2.lt k hk).1
     ·obtain⟨i,hi,e2⟩:=List.mem_iff_getElem.1 hu
      have hxl:=hoA.xl
      obtain⟨u',k1,k2⟩:=hoA.cells i (by omega)
      rw[List.getElem?_eq_getElem hi,e2]at k1
      injection k1 with k1
      subst k1
      exact Or.inr (k2.lt k hk).1
    have hYV:Box 92 w.heap.size V #[.int .i64 0,.int .i64 0]:=hYW.keep ((hkV _ (by omega)).trans (hb2.block _ (by omega)))
    have hN:=newAt_of X w.heap.size B nn ns b d pv (.slice a R.s.fs.length c) sv rv' xv' ⟨sweptS R.s,R.said,R.paused⟩ V hRV hns (by omega) hYV (fun hk=>by rcases hOB _ hk with h1|h1<;>omega) (by omega) hBw
    refine⟨hN.c2,hN.own,hN.hB,hN.hX,fun o2 g cap w2 q1 q2 q3=>?_⟩
    obtain⟨p1,p2,p3,p4,p5,p6,p7,p8⟩:=hN.fin o2 g cap w2 q1 q2 q3
    refine⟨p1,p2,p3,p4,p5,p6,p7,?_⟩
    obtain⟨⟨cv',u,hr,hob⟩,hb,hk⟩:=p8.out
    refine Or.inr ⟨_,_,rfl,rfl,⟨_,_,_,_,_,hr,fun k hk2=>?_⟩,(b0.mono hBw).trans (hbV.trans hb),fun k hk1 hk2=>?_⟩
    ·rcases hob k hk2 with h1|h1
     ·exact (hOB k h1).imp id fun h=>by omega
     ·exact Or.inr (by omega)
    ·rw[hk k (by omega) (fun h2=>by rcases hOB _ h2 with h1|h1<;>omega) (by omega) (by omega),hkV k (by omega),hb2.block k (by omega)]
     exact b0.block k hk2
   ·rintro e w' ⟨rfl,hv⟩
    exact⟨(fun e=>(by cases e)),hv.out⟩
 ·have hroom:roomS R.s=R.s:=if_neg h24
  have hno:newO R.s (nn:Int)=some (withCell R.s nn,(2,((R.s.cs.length:Nat):Int))):=by unfold newO;rw[hroom,if_neg h24]
  rw[hno]
  have hYo:¬OwnB (.slice fa R.s.fs.length fc) (.slice ca R.s.cs.length cc) sv rv xv w.heap.size:=fun hk=>by have:=h.ownLt hk;omega
  have hN:=newAt_of X w.heap.size B nn R.s.cs.length ca cc pv (.slice fa R.s.fs.length fc) sv rv xv R W hRW rfl (by omega) hYW hYo (by omega) hBw
  refine (new_plain X nn R.s.cs.length B ca cc xv w W (NewK X w.heap.size B pv (.slice fa R.s.fs.length fc) (.slice ca R.s.cs.length cc) sv rv xv R nn W) hW hN (beq_eq_false_iff_ne.2 (by omega)) (by omega) (by omega)).mono ?_
  rintro e w' ⟨rfl,hk0⟩
  obtain⟨⟨cv',u,hr,hob⟩,hb,hk⟩:=hk0.out
  refine⟨(fun e=>(by cases e)),Or.inr ⟨_,_,rfl,rfl,⟨_,_,_,_,_,hr,fun k hk2=>?_⟩,(b0.mono hBw).trans hb,fun k hk1 hk2=>?_⟩⟩
  ·rcases hob k hk2 with h1|h1
   ·exact Or.inl (hown k h1)
   ·exact Or.inr (by omega)
  ·rw[hk k (by omega) (fun h2=>by have:=hown k h2;omega) (by omega) (by omega)]
   exact b0.block k hk2
end Go.Proofs.YtfaokaohhchdhaaGreatDoor
