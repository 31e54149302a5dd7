/- say, leave: what is said; where it goes. -/
import Derived.Test.YtfaokaohhchdhaaGreatDoorPart13
import Derived.Deep.AppendLies
import Derived.Deep.RegionLaw
import Derived.Laws.MakeOwn
namespace Go.Proofs.YtfaokaohhchdhaaGreatDoor
open Go.RowKit Go.Maps
set_option maxHeartbeats 1000000 in
theorem vsay_no (X:Nat) (v1 v2:Int) (w:World) (h:¬v1=1) :
  Calls Tryz.prog 138 #[.pointer (some ⟨X,0,none⟩),.agg #[.int .i64 v1,.int .i64 v2]] w fun e w'=>e=.returned (.bool false)∧Below w.heap.size w w':=by
 have hb:(v1 != 1)=true:=by simp[h]
 clear h
 go_enter Tryz.func138,Tryz.ntmps138
 go_wp2
 go_ret
 exact⟨rfl,below_alloc _ _⟩
set_option maxHeartbeats 1000000 in
theorem leave_no (X:Nat) (v1 v2:Int) (w:World) (h:¬v1=1) :
  Calls Tryz.prog 139 #[.pointer (some ⟨X,0,none⟩),.agg #[.int .i64 v1,.int .i64 v2]] w fun e w'=>e=.returned (.bool false)∧Below w.heap.size w w':=by
 have hb:(v1 != 1)=true:=by simp[h]
 clear h
 go_enter Tryz.func139,Tryz.ntmps139
 go_wp2
 go_ret
 exact⟨rfl,below_alloc _ _⟩
theorem step_intg {ops:Array Oper} {o:Oper} {a:Act} {K:Act→World→Prop} {Q:Exit→Act→World→Prop} {E:Prop} (w:World) (hgd:o.guard=none) (s y:Operand)
  (ho:o.op=.call { callee:=.builtin .append,args:=#[s,y],argTypes:=#[30,30] }) (base:Nat) (v:Value) (R:List Int) (x:Int) (hs:a.eval s=v) (hown:w.ownsRow base 3 1 v R.length (R.map (Value.int .i64)))
  (B:Nat) (hy:a.eval y=.slice (some ⟨B,0,none⟩) 1 1) (hc:w.cell? ⟨B,0,none⟩=some (.int .i64 x)) (hR:R.length≤100000) (hbase:base≤w.heap.size)
  (h:∀g cap w2,Hid (w2.ownsRow base 3 1 (.slice (some ⟨g,0,none⟩) (R.length+1) cap) (R++[x]).length ((R++[x]).map (Value.int .i64)))→Hid (w.grownBy w2 v.ownBlock)→K (a.put o.dst (.slice (some ⟨g,0,none⟩) (R.length+1) cap)) w2) :
  if Region.wanted o (yielded ops a.tmps)=true then Oper.wp Tryz.prog o a w K Q else E:=by
 obtain⟨i0,hi,hz0,hz1,hz2⟩:=info_parts info3v
 refine step_append_lies _ hgd s y 30 ho base 3 i0 (.int .i64 0) 1 8 Tryz.underlying30 hi hz0 hz1 hz2 rfl (by decide) v _ _ hs hown ⟨B,0,none⟩ 1 1 [.int .i64 x] hy rfl (fun j u hj=>?_) (ints_oneCell .i64 [x]) (by decide) (by unfold maxLen;omega) (by omega) hbase _ rfl ?_
 ·match j,hj with
  | 0,hj =>
   obtain rfl:Value.int .i64 x=u:=by simpa using hj
   rw[WideShapes.add_plain];exact hc
  | j+1,hj=>cases hj
 intro g cap w2 h1 h2 _ _
 refine h g cap w2 ?_ h2
 show w2.ownsRow base 3 1 _ _ _
 rw[List.length_append,List.map_append]
 exact h1
theorem RunAt.turn {X B:Nat} {w w':World} {pv fv cv sv:Value} {rv xv:List Value} {R R':Rn} (h:RunAt X B w pv fv cv sv rv xv R) (hb:w'.heap[X]?=some (.cells #[pv,fv,cv,.int .i64 R'.s.st,.int .i64 R'.s.wh,sv,.bool R'.paused] 81 (0,0))) (hk:∀k,¬k=X→w'.heap[k]?=w.heap[k]?) (hf:R'.s.fs=R.s.fs) (hc:R'.s.cs=R.s.cs) (hs:R'.said=R.said):RunAt X B w' pv fv cv sv rv xv R':=by
 obtain⟨h1,h2⟩:=h.setX hk
 obtain⟨⟨fs,cs,st,wh⟩,sd,pz⟩:=R
 obtain⟨⟨fs',cs',st',wh'⟩,sd',pz'⟩:=R'
 simp only at hf hc hs
 subst hf hc hs
 exact⟨hb,⟨h1.fr,h1.ce,h1.rl,h1.regs,h1.cells,h1.rr,h1.xx,h1.rx⟩,h2,h.hX⟩
set_option maxHeartbeats 1000000 in
theorem leave_yes (X B:Nat) (v2:Int) (w:World) (pv:Value) (R:Rn) (h:RA X B w pv R) :
  Calls Tryz.prog 139 #[.pointer (some ⟨X,0,none⟩),.agg #[.int .i64 1,.int .i64 v2]] w fun e w'=>e=.returned (.bool true)∧Hid (RA X B w' pv ⟨⟨R.s.fs,R.s.cs,3,v2⟩,R.said,R.paused⟩)∧Hid (Below B w w'):=by
 obtain⟨fv,cv,sv,rv,xv,h⟩:=h
 obtain⟨c0,c1,c2,c3,c4,c5,c6,c7⟩:=h.cells
 have hX:=h.lt
 have HFin:Hid (∀o:Obj,RA X B (((w.setCell ⟨X,3,none⟩ (.int .i64 3)).setCell ⟨X,4,none⟩ (.int .i64 v2)).alloc o).drew pv ⟨⟨R.s.fs,R.s.cs,3,v2⟩,R.said,R.paused⟩∧Below B w (((w.setCell ⟨X,3,none⟩ (.int .i64 3)).setCell ⟨X,4,none⟩ (.int .i64 v2)).alloc o).drew):=fun o=>by
  have b1:=heap_setCell_same w X 3 _ _ (.int .i64 3) h.box
  have b2:=heap_setCell_same _ X 4 _ _ (.int .i64 v2) b1
  have k1:RunAt X B ((w.setCell ⟨X,3,none⟩ (.int .i64 3)).setCell ⟨X,4,none⟩ (.int .i64 v2)) pv fv cv sv rv xv ⟨⟨R.s.fs,R.s.cs,3,v2⟩,R.said,R.paused⟩:=h.turn b2 (fun k hk=>(Below.heap_setCell _ _ _ k hk).trans (Below.heap_setCell _ _ _ k hk)) rfl rfl rfl
  have hb:Below B w ((w.setCell ⟨X,3,none⟩ (.int .i64 3)).setCell ⟨X,4,none⟩ (.int .i64 v2)):=((Below.refl B w).setCell h.hX _).setCell h.hX _
  exact⟨⟨_,_,_,_,_,k1.below (below_alloc _ _).drew⟩,hb.trans (((below_alloc _ _).drew).mono (by have:=h.hX;simp[World.setCell];omega))⟩
 have c73:=c7 3
 have c74:=c7 4
 clear c0 c1 c2 c5 c6 c7 h
 have hne:¬w.heap.size=X:=by omega
 go_enter Tryz.func139,Tryz.ntmps139
 go_upto_region 3 with (fail)
 go_region
 all_goals
  go_wp2
  go_ret
  exact⟨rfl,(HFin.out _).1,(HFin.out _).2⟩
set_option maxHeartbeats 1000000 in
theorem vsay_yes (X B:Nat) (v2:Int) (w:World) (pv:Value) (R:Rn) (h:RA X B w pv R) (hl:R.said.length≤1000) :
  Calls Tryz.prog 138 #[.pointer (some ⟨X,0,none⟩),.agg #[.int .i64 1,.int .i64 v2]] w fun e w'=>e=.returned (.bool true)∧Hid (RA X B w' pv ⟨R.s,R.said++[v2],R.paused⟩)∧Hid (Below B w w'):=by
 obtain⟨fv,cv,sv,rv,xv,h⟩:=h
 have hX:=h.lt
 have hB:B≤w.heap.size:=Nat.le_trans h.hX (Nat.le_of_lt hX)
 obtain⟨W,hW⟩:∃W,w.alloc (.cells #[.int .i64 1,.int .i64 v2] 92)=W:=⟨_,rfl⟩
 have hb0:Below w.heap.size w W:=hW ▸ below_alloc w _
 have x1:W.cell? ⟨w.heap.size,1,none⟩=some (.int .i64 v2):=by rw[←hW,World.cell?_alloc_new];rfl
 have x0:W.cell? ⟨w.heap.size,0,none⟩=some (.int .i64 1):=by rw[←hW,World.cell?_alloc_new];rfl
 have HW:Hid (w.alloc (.cells #[.int .i64 1,.int .i64 v2] 92)=W):=hW
 clear hW
 have HRW:=h.below hb0
 obtain⟨sa,scap,rfl⟩:=own_shape h.sd
 obtain⟨c0,c1,c2,c3,c4,c5,c6,c7⟩:=HRW.cells
 have c75:=c7 5
 have HBW:Hid (B≤W.heap.size):=Nat.le_trans hB hb0.size
 have HSd:Hid (W.drew.ownsRow B 3 1 (.slice sa R.said.length scap) R.said.length (R.said.map (Value.int .i64))):=HRW.sd
 have HFin:Hid (∀g cap w2,w2.ownsRow B 3 1 (.slice (some ⟨g,0,none⟩) (R.said.length+1) cap) (R.said++[v2]).length ((R.said++[v2]).map (Value.int .i64))→(∃o:Obj,(W.alloc o).drew.grownBy w2 (Value.slice sa R.said.length scap).ownBlock)→w2.cell? ⟨X,5,none⟩=some (.slice sa R.said.length scap)∧w2.frozen? ⟨X,5,none⟩=false∧Hid (RA X B (w2.setCell ⟨X,5,none⟩ (.slice (some ⟨g,0,none⟩) (R.said.length+1) cap)) pv ⟨R.s,R.said++[v2],R.paused⟩∧Below B w (w2.setCell ⟨X,5,none⟩ (.slice (some ⟨g,0,none⟩) (R.said.length+1) cap)))):=fun g cap w2 hown hgr=>by
  have hXW:X<W.heap.size:=HRW.lt
  obtain⟨o,hgr0⟩:=hgr
  have hgr:W.drew.grownBy w2 (Value.slice sa R.said.length scap).ownBlock:=⟨hgr0.os,hgr0.tape,hgr0.output,Nat.le_trans (below_alloc W o).size hgr0.size,fun k hk hne=>(hgr0.block k (Nat.lt_of_lt_of_le hk (below_alloc W o).size) hne).trans ((below_alloc W o).block k hk)⟩
  have hxb:w2.heap[X]?=W.heap[X]?:=hgr.block X hXW fun e=>HRW.apart HRW.sd (by decide) e.symm rfl
  have hown2:Own B w2 fv cv rv xv R.s:=by
   have ho:=HRW.own
   have go:∀ {e size v n xs},W.ownsRow B e size v n xs→¬e=3→w2.ownsRow B e size v n xs:=fun hr hne=>ownsRow_block hr fun k hk=>hgr.block k (hr.lt k hk).2 fun e=>ownsRow_apart hr HRW.sd hne hk e.symm
   exact⟨go ho.fr (by decide),go ho.ce (by decide),ho.rl,fun i hi=>(by obtain⟨u,h1,h2⟩:=ho.regs i hi;exact⟨u,h1,go h2 (by decide)⟩),fun i hi=>(by obtain⟨u,h1,h2⟩:=ho.cells i hi;exact⟨u,h1,go h2 (by decide)⟩),ho.rr,ho.xx,ho.rx⟩
  have hbox:=hxb.trans HRW.box
  refine⟨(World.cell?_of_block (w:=W) (a:=⟨X,5,none⟩) hxb).trans c5,(World.frozen?_of_block (w:=W) (a:=⟨X,5,none⟩) hxb).trans c75,⟨fv,cv,.slice (some ⟨g,0,none⟩) (R.said.length+1) cap,rv,xv,?_⟩,?_⟩
  ·have hb2:=heap_setCell_same w2 X 5 _ _ (.slice (some ⟨g,0,none⟩) (R.said.length+1) cap) hbox
   have hk:∀k,¬k=X→(w2.setCell ⟨X,5,none⟩ (.slice (some ⟨g,0,none⟩) (R.said.length+1) cap)).heap[k]?=w2.heap[k]?:=fun k hk=>Below.heap_setCell _ _ _ k hk
   have kind:∀ {e size v n xs g'},w2.ownsRow B e size v n xs→¬e=81→Value.ownBlock v=some g'→¬g'=X:=fun hr hne hg e2=>by
    obtain⟨c,fz,k⟩:=Lib.ownsRow_kind hr _ hg
    rw[e2,hbox]at k
    injection k with k
    injection k with _ k2 _
    exact hne k2.symm
   have go:∀ {e size v n xs},w2.ownsRow B e size v n xs→¬e=81→(w2.setCell ⟨X,5,none⟩ (.slice (some ⟨g,0,none⟩) (R.said.length+1) cap)).ownsRow B e size v n xs:=fun hr hne=>ownsRow_block hr fun k hk2=>hk k (kind hr hne hk2)
   exact⟨hb2,⟨go hown2.fr (by decide),go hown2.ce (by decide),hown2.rl,fun i hi=>(by obtain⟨u,h1,h2⟩:=hown2.regs i hi;exact⟨u,h1,go h2 (by decide)⟩),fun i hi=>(by obtain⟨u,h1,h2⟩:=hown2.cells i hi;exact⟨u,h1,go h2 (by decide)⟩),hown2.rr,hown2.xx,hown2.rx⟩,go hown (by decide),h.hX⟩
  ·have b1:Below B w W:=hb0.mono hB
   have b2:Below B W w2:=(Below.refl B W).drew.grown hgr HBW.out (fun k hk=>(HRW.sd.lt k hk).1)
   exact (b1.trans b2).setCell h.hX _
 have hl2:=hl
 have hXW:X<W.heap.size:=HRW.lt
 have c5a:∀o:Obj,(W.alloc o).cell? ⟨X,5,none⟩=some (.slice sa R.said.length scap):=fun o=>((below_alloc W o).cell (p:=⟨X,5,none⟩) hXW).trans c5
 generalize hsl:R.said.length=sl at *
 have HSl:Hid (R.said.length=sl):=hsl
 clear c0 c1 c2 c3 c4 c6 c7 h HRW hb0 hsl
 go_enter Tryz.func138,Tryz.ntmps138
 go_upto_region 1 with (fail)
 rw[HW.out]
 go_upto_region 3 with (fail)
 go_region_law (refine step_intg _ rfl _ _ rfl B _ R.said v2 rfl (by rw[HSl.out];exact World.ownsRow.alloc HSd.out _) _ rfl (World.cell?_alloc_new W _ _ _) (by rw[HSl.out];omega) (Nat.le_trans HBW.out (below_alloc W _).size) ?_;rw[HSl.out];intro g cap w2 hown hgr;obtain⟨q1,q2,q3⟩:=HFin.out g cap w2 hown.out ⟨_,hgr.out⟩)
 all_goals
  go_wp2
  go_ret
  exact⟨rfl,q3.out.1,q3.out.2⟩
theorem Own.ccell {B:Nat} {w:World} {fv cv:Value} {rv xv:List Value} {S:Sta} (h:Own B w fv cv rv xv S) {i:Nat} (hi:i<S.cs.length) (hne:¬(S.cs.getD i []).length=0):∃cb cc g cap,cv=.slice (some ⟨cb,0,none⟩) S.cs.length cc∧w.cell? ⟨cb,i,none⟩=some (.slice (some ⟨g,0,none⟩) (S.cs.getD i []).length cap)∧xv[i]?=some (.slice (some ⟨g,0,none⟩) (S.cs.getD i []).length cap)∧VRow B w (.slice (some ⟨g,0,none⟩) (S.cs.getD i []).length cap) (S.cs.getD i []):=by
 obtain⟨u,h1,h2⟩:=h.cells i hi
 obtain⟨g,cap,rfl⟩:=h2.shape hne
 have hxl:=h.xl
 have hce:=h.ce
 rcases h.ce.2 with⟨_,h0⟩|⟨cb,cc,cur,rfl,_⟩
 ·omega
 ·exact⟨cb,cc,g,cap,rfl,(hce.cellAt i (by omega)).trans h1,h1,h2⟩
set_option maxHeartbeats 1000000 in
theorem field_kind (X:Nat) (v1 v2 n:Int) (w:World) (h:¬v1=2) :
  Calls Tryz.prog 179 #[.pointer (some ⟨X,0,none⟩),.agg #[.int .i64 v1,.int .i64 v2],.int .i64 n] w fun e w'=>e=.returned (.pointer none)∧Below w.heap.size w w':=by
 have hb:(v1 != 2)=true:=by simp[h]
 clear h
 go_enter Tryz.func179,Tryz.ntmps179
 go_upto_region 1 with (fail)
 go_quiet (fail)
 go_wp2
 go_ret
 exact⟨rfl,below_step (below_alloc _ _) (below_drewN' _ _)⟩
set_option maxHeartbeats 1000000 in
theorem field_few (X cb cc nc k g cap L:Nat) (n:Int) (w:World) (hX:X<w.heap.size) (hcb:cb<w.heap.size) (c2:w.cell? ⟨X,2,none⟩=some (.slice (some ⟨cb,0,none⟩) nc cc)) (ck:w.cell? ⟨cb,k,none⟩=some (.slice (some ⟨g,0,none⟩) L cap)) (hk:k<nc) (hn:(L:Int)≤n) :
  Calls Tryz.prog 179 #[.pointer (some ⟨X,0,none⟩),.agg #[.int .i64 2,.int .i64 k],.int .i64 n] w fun e w'=>e=.returned (.pointer none)∧Below w.heap.size w w':=by
 have h1:(0:Int)≤(k:Int):=by omega
 have h2:(k:Int)<(nc:Int):=by omega
 go_enter Tryz.func179,Tryz.ntmps179
 go_upto_region 1 with (fail)
 go_quiet (fail)
 go_wp2
 go_ret
 exact⟨rfl,below_step (below_alloc _ _) (below_drewN' _ _)⟩
set_option maxHeartbeats 1000000 in
theorem field_yes (X cb cc nc k g cap L:Nat) (n:Nat) (w:World) (hX:X<w.heap.size) (hcb:cb<w.heap.size) (c2:w.cell? ⟨X,2,none⟩=some (.slice (some ⟨cb,0,none⟩) nc cc)) (ck:w.cell? ⟨cb,k,none⟩=some (.slice (some ⟨g,0,none⟩) L cap)) (hk:k<nc) (hn:n<L) :
  Calls Tryz.prog 179 #[.pointer (some ⟨X,0,none⟩),.agg #[.int .i64 2,.int .i64 k],.int .i64 n] w fun e w'=>e=.returned (.pointer (some ⟨g,n*2,none⟩))∧Below w.heap.size w w':=by
 have h1:(0:Int)≤(k:Int):=by omega
 have h2:(k:Int)<(nc:Int):=by omega
 have h3:¬(L:Int)≤(n:Int):=by omega
 have h4:(0:Int)≤(n:Int):=by omega
 have h5:(n:Int)<(L:Int):=by omega
 go_enter Tryz.func179,Tryz.ntmps179
 go_upto_region 1 with (fail)
 go_quiet (fail)
 go_wp2
 go_quiet (fail)
 go_wp2
 go_ret
 exact⟨rfl,below_step (below_step (below_alloc _ _) (below_drewN' _ _)) (below_drewN' _ _)⟩
theorem below_at {w w':World} (hb:Below w.heap.size w w') {p:Addr} {v:Value} (h:w.cell? p=some v):w'.cell? p=some v:=(hb.cell (cell_lt h)).trans h
structure TopAt (B:Nat) (w:World) (g m rb rc:Nat) (f:Fm):Prop where
 c0:w.cell? ⟨g,m*4,none⟩=some (.int .i64 f.proc)
 c1:w.cell? ⟨g,m*4+1,none⟩=some (.int .i64 f.pos)
 c2:w.cell? ⟨g,m*4+2,none⟩=some (.slice (some ⟨rb,0,none⟩) f.regs.length rc)
 c3:w.cell? ⟨g,m*4+3,none⟩=some (.int .i64 f.to)
 r0:∀k,k<f.regs.length→w.cell? ⟨rb,k*2,none⟩=some (.int .i64 (f.regs.getD k (0,0)).1)
 r1:∀k,k<f.regs.length→w.cell? ⟨rb,k*2+1,none⟩=some (.int .i64 (f.regs.getD k (0,0)).2)
 gB:B≤g
 rB:B≤rb
 gl:g<w.heap.size
 rl:rb<w.heap.size
 gz:∀i,w.frozen? ⟨g,i,none⟩=false
 rz:∀i,w.frozen? ⟨rb,i,none⟩=false
theorem TopAt.below {B:Nat} {w w':World} {g m rb rc:Nat} {f:Fm} (h:TopAt B w g m rb rc f) (hb:Below w.heap.size w w'):TopAt B w' g m rb rc f :=
 ⟨below_at hb h.c0,below_at hb h.c1,below_at hb h.c2,below_at hb h.c3,fun k hk=>below_at hb (h.r0 k hk),fun k hk=>below_at hb (h.r1 k hk),h.gB,h.rB,Nat.lt_of_lt_of_le h.gl hb.size,Nat.lt_of_lt_of_le h.rl hb.size,
  fun i=>(hb.frozen (p:=⟨g,i,none⟩) h.gl).trans (h.gz i),fun i=>(hb.frozen (p:=⟨rb,i,none⟩) h.rl).trans (h.rz i)⟩
theorem RunAt.top {X B:Nat} {w:World} {pv fv cv sv:Value} {rv xv:List Value} {R:Rn} (h:RunAt X B w pv fv cv sv rv xv R) (hn:¬R.s.fs.length=0) (hr:¬(topF R.s).regs.length=0) :
  ∃g m cap rb rc,fv=.slice (some ⟨g,0,none⟩) (m+1) cap∧R.s.fs.length=m+1∧rv[m]?=some (.slice (some ⟨rb,0,none⟩) (topF R.s).regs.length rc)∧TopAt B w g m rb rc (topF R.s):=by
 obtain⟨g,cap,rfl,h1,h2,h3⟩:=h.own.frow hn
 obtain⟨m,hm⟩:∃m,R.s.fs.length=m+1:=⟨R.s.fs.length - 1,by omega⟩
 have e:topF R.s=fmAt R.s.fs m:=by unfold topF;rw[hm];rfl
 rw[e]at hr ⊢
 obtain⟨u,k0,k1,k2,k3,k4,k5⟩:=h.own.fcells (i:=m) (by omega)
 obtain⟨rb,rc,rfl⟩:=k5.shape hr
 obtain⟨q0,q1,_,q2,q3⟩:=k5.vals
 exact⟨g,m,cap,rb,rc,by rw[hm],hm,k0,⟨k1,k2,k3,k4,fun k hk=>(q0 k hk).1,fun k hk=>(q0 k hk).2,h1,q2,h2,q3,h3,q1⟩⟩
theorem ibox (w:World) (op a b c:Int) (av:Value):∃W,w.alloc (.cells #[.int .i64 op,.int .i64 a,.int .i64 b,.int .i64 c,av] 84)=W∧Below w.heap.size w W∧W.heap.size=w.heap.size+1∧W.cell? ⟨w.heap.size,0,none⟩=some (.int .i64 op)∧W.cell? ⟨w.heap.size,1,none⟩=some (.int .i64 a)∧W.cell? ⟨w.heap.size,2,none⟩=some (.int .i64 b)∧W.cell? ⟨w.heap.size,3,none⟩=some (.int .i64 c)∧W.cell? ⟨w.heap.size,4,none⟩=some av:=by
 refine⟨_,rfl,below_alloc _ _,by simp,?_,?_,?_,?_,?_⟩<;>(rw[World.cell?_alloc_new];rfl)
theorem made_vals (n:Nat):(madeCells #[.int .i64 0,.int .i64 0] (n*2)).toList=flatV (List.replicate n (0,0)):=by
 apply List.ext_getElem?
 intro j
 have hl:=flatV_len (List.replicate n ((0,0):Int×Int))
 rw[List.length_replicate]at hl
 by_cases hj:j<n*2
 ·have hi:j / 2<(List.replicate n ((0,0):Int×Int)).length:=by rw[List.length_replicate];omega
  obtain⟨f0,f1⟩:=flatV_at (List.replicate n (0,0)) (j / 2) hi
  have e0:fstAt (List.replicate n ((0,0):Int×Int)) (j / 2)=0:=by unfold fstAt;rw[List.getD_eq_getElem?_getD,List.getElem?_eq_getElem hi,List.getElem_replicate];rfl
  have e1:sndAt (List.replicate n ((0,0):Int×Int)) (j / 2)=0:=by unfold sndAt;rw[List.getD_eq_getElem?_getD,List.getElem?_eq_getElem hi,List.getElem_replicate];rfl
  rw[e0]at f0
  rw[e1]at f1
  have hm:(madeCells #[.int .i64 0,.int .i64 0] (n*2)).toList[j]?=some (.int .i64 0):=by
   rcases (show j % 2=0∨j % 2=1 by omega) with h|h<;>simp[madeCells,hj,h]
  rw[hm]
  rcases (show j % 2=0∨j % 2=1 by omega) with h|h
  ·rw[show j / 2*2=j by omega]at f0;exact f0.symm
  ·rw[show j / 2*2+1=j by omega]at f1;exact f1.symm
 ·rw[List.getElem?_eq_none (by rw[Array.length_toList,size_madeCells];omega),List.getElem?_eq_none (by rw[hl];omega)]
theorem mkVals (n:Nat) (h:n≤1000) (w:World):Sem.run Tryz.prog (Instr.makeSlice 35 (.int .i64 n) (.int .i64 n)) w=.ok (.slice (some ⟨w.heap.size,0,none⟩) n n) (w.alloc (.cells (madeCells #[.int .i64 0,.int .i64 0] (n*2)) 92)):=by
 obtain⟨i0,hi,hz0,hz1,hz2⟩:=info_parts infoVal
 have hr:=run_make (P:=Tryz.prog) w 35 92 i0 _ Tryz.underlying35 hi hz0 .i64 .i64 n n (by omega) (Int.le_refl _) (by rw[hz2];omega) (by omega)
 simp only[Int.toNat_natCast,hz1]at hr
 exact hr
theorem made_row (n:Nat) (h:n≤1000) (B:Nat) (w:World) (hB:B≤w.heap.size):VRow B (w.alloc (.cells (madeCells #[.int .i64 0,.int .i64 0] (n*2)) 92)) (.slice (some ⟨w.heap.size,0,none⟩) n n) (List.replicate n (0,0)):=by
 unfold VRow
 rw[←made_vals,List.length_replicate]
 exact World.ownsRow_lit w _ n hB (by unfold maxLen;omega) (by rw[size_madeCells])
theorem step_frame {ops:Array Oper} {o:Oper} {a:Act} {K:Act→World→Prop} {Q:Exit→Act→World→Prop} {E:Prop} (w:World) (hgd:o.guard=none) (s y:Operand)
  (ho:o.op=.call { callee:=.builtin .append,args:=#[s,y],argTypes:=#[23,23] }) (base n:Nat) (v:Value) (xs:List Value) (p q t:Int) (u:Value) (hs:a.eval s=v) (hown:w.ownsRow base 40 4 v n xs)
  (B:Nat) (hy:a.eval y=.slice (some ⟨B,0,none⟩) 1 1) (hc:w.heap[B]?=some (.cells #[.int .i64 p,.int .i64 q,u,.int .i64 t] 40 (0,0))) (hu:u.oneCell'=true) (hR:n≤100000) (hbase:base≤w.heap.size)
  (h:∀g cap w2,Hid (w2.ownsRow base 40 4 (.slice (some ⟨g,0,none⟩) (n+1) cap) (n+1) (xs++[.int .i64 p,.int .i64 q,u,.int .i64 t]))→Hid (w.grownBy w2 v.ownBlock)→K (a.put o.dst (.slice (some ⟨g,0,none⟩) (n+1) cap)) w2) :
  if Region.wanted o (yielded ops a.tmps)=true then Oper.wp Tryz.prog o a w K Q else E:=by
 obtain⟨i0,hi,hz0,hz1,hz2⟩:=info_parts infoFrame
 refine step_append_lies _ hgd s y 23 ho base 40 i0 (.agg #[.int .i64 0,.int .i64 0,.slice none 0 0,.int .i64 0]) 4 48 Tryz.underlying23 hi hz0 hz1 hz2 rfl (by decide) v _ _ hs hown ⟨B,0,none⟩ 1 1 [.int .i64 p,.int .i64 q,u,.int .i64 t] hy rfl (World.news_of_block hc) (fun x hx=>?_) (by decide) (by unfold maxLen;omega) (by omega) hbase _ rfl ?_
 ·simp only[List.mem_cons,List.not_mem_nil,or_false]at hx
  rcases hx with rfl|rfl|rfl|rfl
  ·rfl
  ·rfl
  ·exact hu
  ·rfl
 intro g cap w2 h1 h2 _ _
 exact h g cap w2 h1 h2
set_option maxHeartbeats 2000000 in
theorem vcall_no (X:Nat) (op a b c:Int) (aa fa:Option Addr) (an ac fc:Nat) (w W:World) (HW:Hid (w.alloc (.cells #[.int .i64 op,.int .i64 a,.int .i64 b,.int .i64 c,.slice aa an ac] 84)=W))
  (c1:W.cell? ⟨X,1,none⟩=some (.slice fa 10 fc)) (HB:Hid (Below w.heap.size w W)) :
  Calls Tryz.prog 136 #[.pointer (some ⟨X,0,none⟩),.agg #[.int .i64 op,.int .i64 a,.int .i64 b,.int .i64 c,.slice aa an ac]] w fun e w'=>e=.returned (.bool false)∧Below w.heap.size w w':=by
 go_enter Tryz.func136,Tryz.ntmps136
 go_upto_region 1 with (fail)
 rw[HW.out]
 go_wp2
 go_ret
 exact⟨rfl,HB.out⟩
def argTo (n:Nat) (z:Nat→Int) (from':List (Int×Int)) (j:Nat):List (Int×Int):=(List.range n).map fun k=>if k<j then regAt from' (z k) else (0,0)
theorem argTo_zero (n:Nat) (z:Nat→Int) (L:List (Int×Int)):argTo n z L 0=List.replicate n (0,0):=by
 unfold argTo
 apply List.ext_getElem (by simp)
 intro i h1 h2
 simp
theorem argTo_len (n:Nat) (z:Nat→Int) (L:List (Int×Int)) (j:Nat):(argTo n z L j).length=n:=by simp[argTo]
theorem argTo_step (n:Nat) (z:Nat→Int) (L:List (Int×Int)) (j:Nat):(argTo n z L j).set j (regAt L (z j))=argTo n z L (j+1):=by
 apply List.ext_getElem?
 intro k
 rw[List.getElem?_set]
 unfold argTo
 by_cases hk:k<n
 ·by_cases e:j=k
  ·subst e;simp[hk]
  ·rw[if_neg e]
   simp only[List.getElem?_map,List.getElem?_range hk,Option.map_some]
   by_cases h:k<j
   ·rw[if_pos h,if_pos (by omega)]
   ·rw[if_neg h,if_neg (by omega)]
 ·have h1:¬k<(List.map (fun k=>if k<j then regAt L (z k) else (0,0)) (List.range n)).length:=by simp;omega
  rw[List.getElem?_eq_none (by simpa using hk),List.getElem?_eq_none (by simpa using hk)]
  split
  ·simp;omega
  ·rfl
set_option maxRecDepth 20000 in
set_option maxHeartbeats 4000000 in
theorem vcall_core (X g m cap rb rc n nr a b pb poo np pc:Nat) (z:Nat→Int) (L:List (Int×Int)) (XS:List Value) (Bb:Nat) (c:Int) (aa:Option Addr) (an ac:Nat) (w W:World) (M:Nat) (HM:Hid (W.heap.size=M)) (Kp:World→Prop)
  (HW:Hid (w.alloc (.cells #[.int .i64 7,.int .i64 a,.int .i64 b,.int .i64 c,.slice aa an ac] 84)=W))
  (HF:Hid (∀wi,Below M W wi→Calls Tryz.prog 101 #[.pointer (some ⟨X,0,none⟩)] wi fun e w'=>e=.returned (.pointer (some ⟨g,m*4,none⟩))∧Below wi.heap.size wi w'))
  (HC:Hid (∀wi,Below M W wi→wi.cell? ⟨X,1,none⟩=some (.slice (some ⟨g,0,none⟩) (m+1) cap)∧wi.cell? ⟨X,0,none⟩=some (.slice (some ⟨pb,poo,none⟩) np pc)∧wi.cell? ⟨g,m*4+2,none⟩=some (.slice (some ⟨rb,0,none⟩) n rc)∧wi.cell? ⟨w.heap.size,2,none⟩=some (.int .i64 b)∧wi.cell? ⟨w.heap.size,1,none⟩=some (.int .i64 a)∧wi.cell? ⟨w.heap.size,4,none⟩=some (.slice aa an ac)∧wi.cell? ⟨pb,poo+b*3+1,none⟩=some (.int .i64 nr)))
  (HA:Hid (∀j,j<an→j<nr∧∃ab ao zj,aa=some ⟨ab,ao,none⟩∧z j=((zj:Nat):Int)∧zj<n∧∀wi,Below M W wi→wi.cell? ⟨ab,ao+j,none⟩=some (.int .i64 zj)∧wi.cell? ⟨rb,zj*2,none⟩=some (.int .i64 (L.getD zj (0,0)).1)∧wi.cell? ⟨rb,zj*2+1,none⟩=some (.int .i64 (L.getD zj (0,0)).2)))
  (HO:Hid (∀wi,Below M W wi→wi.ownsRow Bb 40 4 (.slice (some ⟨g,0,none⟩) (m+1) cap) (m+1) XS∧Bb≤wi.heap.size))
  (HFin:Hid (∀D V o g' cap' w2,M≤D→Below M W V→VRow M V (.slice (some ⟨D,0,none⟩) nr nr) (argTo nr z L an)→w2.ownsRow Bb 40 4 (.slice (some ⟨g',0,none⟩) (m+1+1) cap') (m+1+1) (XS++[.int .i64 b,.int .i64 0,.slice (some ⟨D,0,none⟩) nr nr,.int .i64 a])→((V.alloc o).drew).grownBy w2 (some g)→w2.cell? ⟨X,1,none⟩=some (.slice (some ⟨g,0,none⟩) (m+1) cap)∧w2.frozen? ⟨X,1,none⟩=false∧Hid (Kp (w2.setCell ⟨X,1,none⟩ (.slice (some ⟨g',0,none⟩) (m+1+1) cap')))))
  (HX:Hid (X<M)) (hm1:m≤1000)
  (hb:b<np) (hm:¬((m:Int)+1 == 10)=true) (hnr:nr≤1000) :
  Calls Tryz.prog 136 #[.pointer (some ⟨X,0,none⟩),.agg #[.int .i64 7,.int .i64 a,.int .i64 b,.int .i64 c,.slice aa an ac]] w fun e w'=>e=.returned (.bool true)∧Hid (Kp w'):=by
 have hmb:((m:Int)+1 == 10)=false:=by simpa using hm
 have h1:(0:Int)≤(b:Int):=by omega
 have h2:(b:Int)<(np:Int):=by omega
 obtain⟨k1,k2,k3,k4,k5,k6,k7⟩:=HC.out W (Below.refl _ _)
 have hmk:=mkVals nr hnr
 go_enter Tryz.func136,Tryz.ntmps136
 go_upto_region 1 with (fail)
 rw[HW.out]
 clear hm
 go_upto_region 3 with (fail)
 clear k1 k2 k3 k4 k5 k6 k7
 have HS:Hid (∀wi,Below M W wi→wi.cell? ⟨X,0,none⟩=some (.slice (some ⟨pb,poo,none⟩) np pc)∧wi.cell? ⟨g,m*4+2,none⟩=some (.slice (some ⟨rb,0,none⟩) n rc)∧wi.cell? ⟨w.heap.size,2,none⟩=some (.int .i64 b)∧wi.cell? ⟨pb,poo+b*3+1,none⟩=some (.int .i64 nr)):=fun wi hw=>by
  obtain⟨_,k2,k3,k4,_,_,k7⟩:=HC.out wi hw
  exact⟨k2,k3,k4,k7⟩
 have HWS:Hid (∀V,Below M W V→M≤V.heap.size):=fun V h=>(by have:=HM.out;have:=h.size;omega)
 have HAl:Hid (∀wi o,Below M W wi→Below M W (wi.alloc o)):=fun wi o hw=>below_up hw (below_alloc _ _) (Nat.le_of_eq HM.out.symm)
 have HUp:Hid (∀wi wj,Below M W wi→Below wi.heap.size wi wj→Below M W wj):=fun wi wj hw hk=>below_up hw hk (Nat.le_of_eq HM.out.symm)
 go_region_held3 (fun w'=>w'.cell? ⟨X,0,none⟩=some (.slice (some ⟨pb,poo,none⟩) np pc)∧w'.cell? ⟨g,m*4+2,none⟩=some (.slice (some ⟨rb,0,none⟩) n rc)∧w'.cell? ⟨w.heap.size,2,none⟩=some (.int .i64 b)∧w'.cell? ⟨pb,poo+b*3+1,none⟩=some (.int .i64 nr))
  (first|exact HS.out _ (Below.refl _ _).drew|exact HS.out _ hb5|exact HS.out _ (HAl.out _ _ (Below.refl _ _).drew)|exact HS.out _ (HAl.out _ _ hb5)|exact HS.out _ ((HAl.out _ _ (Below.refl _ _)).drew))
  (first
   | (go_at_call 101;refine (HF.out _ (Below.refl _ _).drew).mono ?_;rintro e w5 ⟨rfl,hb5'⟩;have hb5:Below M W w5:=HUp.out _ _ (Below.refl _ _).drew hb5')
   | (go_at_call 101;refine (HF.out _ (HAl.out _ _ (Below.refl _ _)).drew).mono ?_;rintro e w5 ⟨rfl,hb5'⟩;have hb5:Below M W w5:=HUp.out _ _ (HAl.out _ _ (Below.refl _ _)).drew hb5'))
 have HV0:Hid (Below M W (w5.alloc (.cells (madeCells #[.int .i64 0,.int .i64 0] (nr*2)) 92))):=HAl.out _ _ hb5
 have HR0:Hid (VRow M (w5.alloc (.cells (madeCells #[.int .i64 0,.int .i64 0] (nr*2)) 92)) (.slice (some ⟨w5.heap.size,0,none⟩) nr nr) (argTo nr z L 0)):=by
  rw[argTo_zero];exact made_row nr hnr _ w5 (by have:=HM.out;have:=hb5.size;omega)
 have HD:Hid (M≤w5.heap.size):=(by show _≤_;have:=HM.out;have:=hb5.size;omega)
 clear hb5 hb5' hmk
 generalize w5.alloc (.cells (madeCells #[.int .i64 0,.int .i64 0] (nr*2)) 92)=V at *
 generalize w5.heap.size=D at *
 rotate_left
 have HV0:Hid (Below M W w5):=hb5
 have HR0:Hid (VRow M w5 (.slice (some ⟨W.heap.size,0,none⟩) nr nr) (argTo nr z L 0)):=by
  rw[argTo_zero]
  refine ownsRow_block (made_row nr hnr M W (by have:=HM.out;omega)) fun g hg=>hb5'.block g ?_
  cases hg
  show W.heap.size<(W.alloc _).heap.size
  simp
 have HD:Hid (M≤W.heap.size):=(by show _≤_;have:=HM.out;omega)
 clear hb5 hb5' hmk HM
 generalize W.heap.size=D at *
 generalize w5=V at *
 rotate_right
 all_goals
  have k6:=(HC.out V HV0.out).2.2.2.2.2.1
  clear HS HAl HF HUp
  try clear hHeld
  go_upto_region 4 with (fail)
  go_wp2
  clear k6
  go_loopw [34] (fun q wr=>∃j:Nat,j≤an∧q=.int .i64 j∧Hid (Below M W wr)∧Hid (VRow M wr (.slice (some ⟨D,0,none⟩) nr nr) (argTo nr z L j))) (fun q _=>an - (intOf q).toNat)
  case atStart=>exact⟨0,by omega,rfl,HV0,HR0⟩
  case round =>
   clear HV0 HR0
   obtain⟨j,hj,rfl,HB,HR⟩:=hrel
   by_cases hlt:j<an
   ·obtain⟨hjn,ab,ao,zj,rfl,hzj,hzn,hcl⟩:=HA.out j hlt
    obtain⟨x0,x1,x2⟩:=hcl wr HB.out
    clear hcl
    obtain⟨y1,y2,-,y4,y5⟩:=HR.out.vals
    rw[argTo_len]at y1
    obtain⟨u1,z1⟩:∃u,wr.cell? ⟨D,j*2,none⟩=some u:=⟨_,(y1 j hjn).1⟩
    obtain⟨u2,z2⟩:∃u,wr.cell? ⟨D,j*2+1,none⟩=some u:=⟨_,(y1 j hjn).2⟩
    have y21:=y2 (j*2)
    have y22:=y2 (j*2+1)
    have i1:(0:Int)≤(zj:Int):=by omega
    have i2:(zj:Int)<(n:Int):=by omega
    have i3:(j:Int)<(nr:Int):=by omega
    have HR2:Hid (VRow M ((wr.setCell ⟨D,j*2,none⟩ (.int .i64 (L.getD zj (0,0)).1)).setCell ⟨D,j*2+1,none⟩ (.int .i64 (L.getD zj (0,0)).2)) (.slice (some ⟨D,0,none⟩) nr nr) (argTo nr z L (j+1))):=by
     have h:=HR.out.set (k:=j) (by rw[argTo_len];exact hjn) (L.getD zj (0,0))
     have e:=argTo_step nr z L j
     unfold regAt at e
     rw[hzj,Int.toNat_natCast]at e
     rw[e]at h
     exact h
    have HB2:Hid (Below M W ((wr.setCell ⟨D,j*2,none⟩ (.int .i64 (L.getD zj (0,0)).1)).setCell ⟨D,j*2+1,none⟩ (.int .i64 (L.getD zj (0,0)).2))):=(HB.out.setCell HD.out _).setCell HD.out _
    have HBd:Hid (∀wi,Below M W wi→Below M W wi.drew):=fun wi h=>h.drew
    clear y1 y2 y4 y5 hzj HB HR HA HFin HO
    generalize (L.getD zj (0,0)).1=v1 at *
    generalize (L.getD zj (0,0)).2=v2 at *
    go_wp2
    go_roundw
    case rel=>exact⟨j+1,by omega,by go_num,HB2,HR2⟩
    case measure=>simp[intOf];omega
   ·obtain rfl:j=an:=by omega
    have c1:=(HC.out wr HB.out).1
    have q2:=(HC.out wr HB.out).2.2.2.1
    have q1:=(HC.out wr HB.out).2.2.2.2.1
    have HOw:=HO.out wr HB.out
    have HOw:Hid (wr.ownsRow Bb 40 4 (.slice (some ⟨g,0,none⟩) (m+1) cap) (m+1) XS∧Bb≤wr.heap.size):=HOw
    have HXw:Hid (X<wr.heap.size):=Nat.lt_of_lt_of_le HX.out (HWS.out _ HB.out)
    have c1a:∀o:Obj,(wr.alloc o).cell? ⟨X,1,none⟩=some (.slice (some ⟨g,0,none⟩) (m+1) cap):=fun o=>((below_alloc wr o).cell (p:=⟨X,1,none⟩) HXw.out).trans c1
    have HF2:=HFin.out D wr
    have HF2:Hid (∀o g' cap' w2,w2.ownsRow Bb 40 4 (.slice (some ⟨g',0,none⟩) (m+1+1) cap') (m+1+1) (XS++[.int .i64 b,.int .i64 0,.slice (some ⟨D,0,none⟩) nr nr,.int .i64 a])→((wr.alloc o).drew).grownBy w2 (some g)→w2.cell? ⟨X,1,none⟩=some (.slice (some ⟨g,0,none⟩) (m+1) cap)∧w2.frozen? ⟨X,1,none⟩=false∧Hid (Kp (w2.setCell ⟨X,1,none⟩ (.slice (some ⟨g',0,none⟩) (m+1+1) cap')))):=fun o g' cap' w2 h1 h2=>HF2 o g' cap' w2 HD.out HB.out HR.out h1 h2
    have HM1:Hid (m≤1000):=hm1
    clear HA HFin HO HR HB HC
    go_upto_region 9 with (fail)
    go_region_law (refine step_frame _ rfl _ _ rfl Bb (m+1) _ XS b 0 a _ rfl (World.ownsRow.alloc HOw.out.1 _) _ rfl (heap_alloc_new _ _) rfl (by have:=HM1.out;omega) (Nat.le_trans HOw.out.2 (below_alloc wr _).size) ?_;intro g' cap' w2 hown hgr;obtain⟨q5,q6,q7⟩:=HF2.out _ g' cap' w2 hown.out hgr.out)
    all_goals
     go_wp2
     go_ret
     exact⟨rfl,q7⟩
end Go.Proofs.YtfaokaohhchdhaaGreatDoor
