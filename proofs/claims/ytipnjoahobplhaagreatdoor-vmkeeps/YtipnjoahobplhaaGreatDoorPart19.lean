/- say, leave: what is said; where it goes. -/
import Derived.Test.YtipnjoahobplhaaGreatDoorVmOps
import Derived.Deep.AppendLies
import Derived.Deep.RegionLaw
namespace Go.Proofs.YtipnjoahobplhaaGreatDoor
open Go.RowKit Go.Maps
set_option maxHeartbeats 1000000 in
theorem vsay_no (X : Nat) (v1 v2 : Int) (w : World) (h : ¬ v1 = 1) :
  Calls Tryz.prog 106 #[.pointer (some ⟨X,0,none⟩),.agg #[.int .i64 v1,.int .i64 v2]] w fun e w' => e = .returned (.bool false)∧Below w.heap.size w w':=by
 have hb : (v1 != 1) = true:=by simp [h]
 clear h
 go_enter Tryz.func106,Tryz.ntmps106
 go_wp2
 go_ret
 exact ⟨rfl,below_alloc _ _⟩
set_option maxHeartbeats 1000000 in
theorem leave_no (X : Nat) (v1 v2 : Int) (w : World) (h : ¬ v1 = 1) :
  Calls Tryz.prog 107 #[.pointer (some ⟨X,0,none⟩),.agg #[.int .i64 v1,.int .i64 v2]] w fun e w' => e = .returned (.bool false)∧Below w.heap.size w w':=by
 have hb : (v1 != 1) = true:=by simp [h]
 clear h
 go_enter Tryz.func107,Tryz.ntmps107
 go_wp2
 go_ret
 exact ⟨rfl,below_alloc _ _⟩
theorem step_intg {ops : Array Oper} {o : Oper} {a : Act} {K : Act→World→Prop} {Q : Exit→Act→World→Prop} {E : Prop} (w : World) (hgd : o.guard = none) (s y : Operand)
  (ho : o.op = .call { callee:=.builtin .append,args:=#[s,y],argTypes:=#[30,30] }) (base : Nat) (v : Value) (R : List Int) (x : Int) (hs : a.eval s = v) (hown : w.ownsRow base 3 1 v R.length (R.map (Value.int .i64)))
  (B : Nat) (hy : a.eval y = .slice (some ⟨B,0,none⟩) 1 1) (hc : w.cell? ⟨B,0,none⟩ = some (.int .i64 x)) (hR : R.length ≤ 100000) (hbase : base ≤ w.heap.size)
  (h : ∀ g cap w2,Hid (w2.ownsRow base 3 1 (.slice (some ⟨g,0,none⟩) (R.length + 1) cap) (R ++ [x]).length ((R ++ [x]).map (Value.int .i64)))→Hid (w.grownBy w2 v.ownBlock)→K (a.put o.dst (.slice (some ⟨g,0,none⟩) (R.length + 1) cap)) w2) :
  if Region.wanted o (yielded ops a.tmps) = true then Oper.wp Tryz.prog o a w K Q else E:=by
 obtain ⟨i0,hi,hz0,hz1,hz2⟩:=info_parts info3v
 refine step_append_lies _ hgd s y 30 ho base 3 i0 (.int .i64 0) 1 8 Tryz.underlying30 hi hz0 hz1 hz2 rfl (by decide) v _ _ hs hown ⟨B,0,none⟩ 1 1 [.int .i64 x] hy rfl (fun j u hj => ?_) (ints_oneCell .i64 [x]) (by decide) (by unfold maxLen; omega) (by omega) hbase _ rfl ?_
 ·match j,hj with
  | 0,hj =>
   obtain rfl : Value.int .i64 x = u:=by simpa using hj
   rw [WideShapes.add_plain]; exact hc
  | j + 1,hj => cases hj
 intro g cap w2 h1 h2 _ _
 refine h g cap w2 ?_ h2
 show w2.ownsRow base 3 1 _ _ _
 rw [List.length_append,List.map_append]
 exact h1
theorem RunAt.turn {X B : Nat} {w w' : World} {pv fv cv sv : Value} {rv xv : List Value} {R R' : Rn} (h : RunAt X B w pv fv cv sv rv xv R) (hb : w'.heap[X]? = some (.cells #[pv,fv,cv,.int .i64 R'.s.st,.int .i64 R'.s.wh,sv,.bool R'.paused] 78 (0,0))) (hk : ∀ k,¬ k = X→w'.heap[k]? = w.heap[k]?) (hf : R'.s.fs = R.s.fs) (hc : R'.s.cs = R.s.cs) (hs : R'.said = R.said) : RunAt X B w' pv fv cv sv rv xv R':=by
 obtain ⟨h1,h2⟩:=h.setX hk
 obtain ⟨⟨fs,cs,st,wh⟩,sd,pz⟩:=R
 obtain ⟨⟨fs',cs',st',wh'⟩,sd',pz'⟩:=R'
 simp only at hf hc hs
 subst hf hc hs
 exact ⟨hb,⟨h1.fr,h1.ce,h1.rl,h1.regs,h1.cells,h1.rr,h1.xx,h1.rx⟩,h2,h.hX⟩
set_option maxHeartbeats 1000000 in
theorem leave_yes (X B : Nat) (v2 : Int) (w : World) (pv : Value) (R : Rn) (h : RA X B w pv R) :
  Calls Tryz.prog 107 #[.pointer (some ⟨X,0,none⟩),.agg #[.int .i64 1,.int .i64 v2]] w fun e w' => e = .returned (.bool true)∧Hid (RA X B w' pv ⟨⟨R.s.fs,R.s.cs,3,v2⟩,R.said,R.paused⟩)∧Hid (Below B w w'):=by
 obtain ⟨fv,cv,sv,rv,xv,h⟩:=h
 obtain ⟨c0,c1,c2,c3,c4,c5,c6,c7⟩:=h.cells
 have hX:=h.lt
 have HFin : Hid (∀ o : Obj,RA X B (((w.setCell ⟨X,3,none⟩ (.int .i64 3)).setCell ⟨X,4,none⟩ (.int .i64 v2)).alloc o).drew pv ⟨⟨R.s.fs,R.s.cs,3,v2⟩,R.said,R.paused⟩∧Below B w (((w.setCell ⟨X,3,none⟩ (.int .i64 3)).setCell ⟨X,4,none⟩ (.int .i64 v2)).alloc o).drew):=fun o => by
  have b1:=heap_setCell_same w X 3 _ _ (.int .i64 3) h.box
  have b2:=heap_setCell_same _ X 4 _ _ (.int .i64 v2) b1
  have k1 : RunAt X B ((w.setCell ⟨X,3,none⟩ (.int .i64 3)).setCell ⟨X,4,none⟩ (.int .i64 v2)) pv fv cv sv rv xv ⟨⟨R.s.fs,R.s.cs,3,v2⟩,R.said,R.paused⟩:=h.turn b2 (fun k hk => (Below.heap_setCell _ _ _ k hk).trans (Below.heap_setCell _ _ _ k hk)) rfl rfl rfl
  have hb : Below B w ((w.setCell ⟨X,3,none⟩ (.int .i64 3)).setCell ⟨X,4,none⟩ (.int .i64 v2)):=((Below.refl B w).setCell h.hX _).setCell h.hX _
  exact ⟨⟨_,_,_,_,_,k1.below (below_alloc _ _).drew⟩,hb.trans (((below_alloc _ _).drew).mono (by have:=h.hX; simp [World.setCell]; omega))⟩
 have c73:=c7 3
 have c74:=c7 4
 clear c0 c1 c2 c5 c6 c7 h
 have hne : ¬ w.heap.size = X:=by omega
 go_enter Tryz.func107,Tryz.ntmps107
 go_upto_region 3 with (fail)
 go_region
 all_goals
  go_wp2
  go_ret
  exact ⟨rfl,(HFin.out _).1,(HFin.out _).2⟩
set_option maxHeartbeats 1000000 in
theorem vsay_yes (X B : Nat) (v2 : Int) (w : World) (pv : Value) (R : Rn) (h : RA X B w pv R) (hl : R.said.length ≤ 1000) :
  Calls Tryz.prog 106 #[.pointer (some ⟨X,0,none⟩),.agg #[.int .i64 1,.int .i64 v2]] w fun e w' => e = .returned (.bool true)∧Hid (RA X B w' pv ⟨R.s,R.said ++ [v2],R.paused⟩)∧Hid (Below B w w'):=by
 obtain ⟨fv,cv,sv,rv,xv,h⟩:=h
 have hX:=h.lt
 have hB : B ≤ w.heap.size:=Nat.le_trans h.hX (Nat.le_of_lt hX)
 obtain ⟨W,hW⟩ : ∃ W,w.alloc (.cells #[.int .i64 1,.int .i64 v2] 61) = W:=⟨_,rfl⟩
 have hb0 : Below w.heap.size w W:=hW ▸ below_alloc w _
 have x1 : W.cell? ⟨w.heap.size,1,none⟩ = some (.int .i64 v2):=by rw [← hW,World.cell?_alloc_new]; rfl
 have x0 : W.cell? ⟨w.heap.size,0,none⟩ = some (.int .i64 1):=by rw [← hW,World.cell?_alloc_new]; rfl
 have HW : Hid (w.alloc (.cells #[.int .i64 1,.int .i64 v2] 61) = W):=hW
 clear hW
 have HRW:=h.below hb0
 obtain ⟨sa,scap,rfl⟩:=own_shape h.sd
 obtain ⟨c0,c1,c2,c3,c4,c5,c6,c7⟩:=HRW.cells
 have c75:=c7 5
 have HBW : Hid (B ≤ W.heap.size):=Nat.le_trans hB hb0.size
 have HSd : Hid (W.drew.ownsRow B 3 1 (.slice sa R.said.length scap) R.said.length (R.said.map (Value.int .i64))):=HRW.sd
 have HFin : Hid (∀ g cap w2,w2.ownsRow B 3 1 (.slice (some ⟨g,0,none⟩) (R.said.length + 1) cap) (R.said ++ [v2]).length ((R.said ++ [v2]).map (Value.int .i64))→(∃ o : Obj,(W.alloc o).drew.grownBy w2 (Value.slice sa R.said.length scap).ownBlock)→w2.cell? ⟨X,5,none⟩ = some (.slice sa R.said.length scap)∧w2.frozen? ⟨X,5,none⟩ = false∧Hid (RA X B (w2.setCell ⟨X,5,none⟩ (.slice (some ⟨g,0,none⟩) (R.said.length + 1) cap)) pv ⟨R.s,R.said ++ [v2],R.paused⟩∧Below B w (w2.setCell ⟨X,5,none⟩ (.slice (some ⟨g,0,none⟩) (R.said.length + 1) cap)))):=fun g cap w2 hown hgr => by
  have hXW : X < W.heap.size:=HRW.lt
  obtain ⟨o,hgr0⟩:=hgr
  have hgr : W.drew.grownBy w2 (Value.slice sa R.said.length scap).ownBlock:=⟨hgr0.os,hgr0.tape,hgr0.output,Nat.le_trans (below_alloc W o).size hgr0.size,fun k hk hne => (hgr0.block k (Nat.lt_of_lt_of_le hk (below_alloc W o).size) hne).trans ((below_alloc W o).block k hk)⟩
  have hxb : w2.heap[X]? = W.heap[X]?:=hgr.block X hXW fun e => HRW.apart HRW.sd (by decide) e.symm rfl
  have hown2 : Own B w2 fv cv rv xv R.s:=by
   have ho:=HRW.own
   have go : ∀ {e size v n xs},W.ownsRow B e size v n xs→¬ e = 3→w2.ownsRow B e size v n xs:=fun hr hne => ownsRow_block hr fun k hk => hgr.block k (hr.lt k hk).2 fun e => ownsRow_apart hr HRW.sd hne hk e.symm
   exact ⟨go ho.fr (by decide),go ho.ce (by decide),ho.rl,fun i hi => (by obtain ⟨u,h1,h2⟩:=ho.regs i hi; exact ⟨u,h1,go h2 (by decide)⟩),fun i hi => (by obtain ⟨u,h1,h2⟩:=ho.cells i hi; exact ⟨u,h1,go h2 (by decide)⟩),ho.rr,ho.xx,ho.rx⟩
  have hbox:=hxb.trans HRW.box
  refine ⟨(World.cell?_of_block (w:=W) (a:=⟨X,5,none⟩) hxb).trans c5,(World.frozen?_of_block (w:=W) (a:=⟨X,5,none⟩) hxb).trans c75,⟨fv,cv,.slice (some ⟨g,0,none⟩) (R.said.length + 1) cap,rv,xv,?_⟩,?_⟩
  ·have hb2:=heap_setCell_same w2 X 5 _ _ (.slice (some ⟨g,0,none⟩) (R.said.length + 1) cap) hbox
   have hk : ∀ k,¬ k = X→(w2.setCell ⟨X,5,none⟩ (.slice (some ⟨g,0,none⟩) (R.said.length + 1) cap)).heap[k]? = w2.heap[k]?:=fun k hk => Below.heap_setCell _ _ _ k hk
   have kind : ∀ {e size v n xs g'},w2.ownsRow B e size v n xs→¬ e = 78→Value.ownBlock v = some g'→¬ g' = X:=fun hr hne hg e2 => by
    obtain ⟨c,fz,k⟩:=Lib.ownsRow_kind hr _ hg
    rw [e2,hbox] at k
    injection k with k
    injection k with _ k2 _
    exact hne k2.symm
   have go : ∀ {e size v n xs},w2.ownsRow B e size v n xs→¬ e = 78→(w2.setCell ⟨X,5,none⟩ (.slice (some ⟨g,0,none⟩) (R.said.length + 1) cap)).ownsRow B e size v n xs:=fun hr hne => ownsRow_block hr fun k hk2 => hk k (kind hr hne hk2)
   exact ⟨hb2,⟨go hown2.fr (by decide),go hown2.ce (by decide),hown2.rl,fun i hi => (by obtain ⟨u,h1,h2⟩:=hown2.regs i hi; exact ⟨u,h1,go h2 (by decide)⟩),fun i hi => (by obtain ⟨u,h1,h2⟩:=hown2.cells i hi; exact ⟨u,h1,go h2 (by decide)⟩),hown2.rr,hown2.xx,hown2.rx⟩,go hown (by decide),h.hX⟩
  ·have b1 : Below B w W:=hb0.mono hB
   have b2 : Below B W w2:=(Below.refl B W).drew.grown hgr HBW.out (fun k hk => (HRW.sd.lt k hk).1)
   exact (b1.trans b2).setCell h.hX _
 have hl2:=hl
 have hXW : X < W.heap.size:=HRW.lt
 have c5a : ∀ o : Obj,(W.alloc o).cell? ⟨X,5,none⟩ = some (.slice sa R.said.length scap):=fun o => ((below_alloc W o).cell (p:=⟨X,5,none⟩) hXW).trans c5
 generalize hsl : R.said.length = sl at *
 have HSl : Hid (R.said.length = sl):=hsl
 clear c0 c1 c2 c3 c4 c6 c7 h HRW hb0 hsl
 go_enter Tryz.func106,Tryz.ntmps106
 go_upto_region 1 with (fail)
 rw [HW.out]
 go_upto_region 3 with (fail)
 go_region_law (refine step_intg _ rfl _ _ rfl B _ R.said v2 rfl (by rw [HSl.out]; exact World.ownsRow.alloc HSd.out _) _ rfl (World.cell?_alloc_new W _ _ _) (by rw [HSl.out]; omega) (Nat.le_trans HBW.out (below_alloc W _).size) ?_; rw [HSl.out]; intro g cap w2 hown hgr; obtain ⟨q1,q2,q3⟩:=HFin.out g cap w2 hown.out ⟨_,hgr.out⟩)
 all_goals
  go_wp2
  go_ret
  exact ⟨rfl,q3.out.1,q3.out.2⟩
theorem Own.ccell {B : Nat} {w : World} {fv cv : Value} {rv xv : List Value} {S : Sta} (h : Own B w fv cv rv xv S) {i : Nat} (hi : i < S.cs.length) (hne : ¬ (S.cs.getD i []).length = 0) : ∃ cb cc g cap,cv = .slice (some ⟨cb,0,none⟩) S.cs.length cc∧w.cell? ⟨cb,i,none⟩ = some (.slice (some ⟨g,0,none⟩) (S.cs.getD i []).length cap)∧xv[i]? = some (.slice (some ⟨g,0,none⟩) (S.cs.getD i []).length cap)∧VRow B w (.slice (some ⟨g,0,none⟩) (S.cs.getD i []).length cap) (S.cs.getD i []):=by
 obtain ⟨u,h1,h2⟩:=h.cells i hi
 obtain ⟨g,cap,rfl⟩:=h2.shape hne
 have hxl:=h.xl
 have hce:=h.ce
 rcases h.ce.2 with ⟨_,h0⟩ | ⟨cb,cc,cur,rfl,_⟩
 ·omega
 ·exact ⟨cb,cc,g,cap,rfl,(hce.cellAt i (by omega)).trans h1,h1,h2⟩
set_option maxHeartbeats 1000000 in
theorem field_kind (X : Nat) (v1 v2 n : Int) (w : World) (h : ¬ v1 = 2) :
  Calls Tryz.prog 137 #[.pointer (some ⟨X,0,none⟩),.agg #[.int .i64 v1,.int .i64 v2],.int .i64 n] w fun e w' => e = .returned (.pointer none)∧Below w.heap.size w w':=by
 have hb : (v1 != 2) = true:=by simp [h]
 clear h
 go_enter Tryz.func137,Tryz.ntmps137
 go_upto_region 1 with (fail)
 go_quiet (fail)
 go_wp2
 go_ret
 exact ⟨rfl,below_step (below_alloc _ _) (below_drewN' _ _)⟩
set_option maxHeartbeats 1000000 in
theorem field_few (X cb cc nc k g cap L : Nat) (n : Int) (w : World) (hX : X < w.heap.size) (hcb : cb < w.heap.size) (c2 : w.cell? ⟨X,2,none⟩ = some (.slice (some ⟨cb,0,none⟩) nc cc)) (ck : w.cell? ⟨cb,k,none⟩ = some (.slice (some ⟨g,0,none⟩) L cap)) (hk : k < nc) (hn : (L : Int) ≤ n) :
  Calls Tryz.prog 137 #[.pointer (some ⟨X,0,none⟩),.agg #[.int .i64 2,.int .i64 k],.int .i64 n] w fun e w' => e = .returned (.pointer none)∧Below w.heap.size w w':=by
 have h1 : (0 : Int) ≤ (k : Int):=by omega
 have h2 : (k : Int) < (nc : Int):=by omega
 go_enter Tryz.func137,Tryz.ntmps137
 go_upto_region 1 with (fail)
 go_quiet (fail)
 go_wp2
 go_ret
 exact ⟨rfl,below_step (below_alloc _ _) (below_drewN' _ _)⟩
set_option maxHeartbeats 1000000 in
theorem field_yes (X cb cc nc k g cap L : Nat) (n : Nat) (w : World) (hX : X < w.heap.size) (hcb : cb < w.heap.size) (c2 : w.cell? ⟨X,2,none⟩ = some (.slice (some ⟨cb,0,none⟩) nc cc)) (ck : w.cell? ⟨cb,k,none⟩ = some (.slice (some ⟨g,0,none⟩) L cap)) (hk : k < nc) (hn : n < L) :
  Calls Tryz.prog 137 #[.pointer (some ⟨X,0,none⟩),.agg #[.int .i64 2,.int .i64 k],.int .i64 n] w fun e w' => e = .returned (.pointer (some ⟨g,n * 2,none⟩))∧Below w.heap.size w w':=by
 have h1 : (0 : Int) ≤ (k : Int):=by omega
 have h2 : (k : Int) < (nc : Int):=by omega
 have h3 : ¬ (L : Int) ≤ (n : Int):=by omega
 have h4 : (0 : Int) ≤ (n : Int):=by omega
 have h5 : (n : Int) < (L : Int):=by omega
 go_enter Tryz.func137,Tryz.ntmps137
 go_upto_region 1 with (fail)
 go_quiet (fail)
 go_wp2
 go_quiet (fail)
 go_wp2
 go_ret
 exact ⟨rfl,below_step (below_step (below_alloc _ _) (below_drewN' _ _)) (below_drewN' _ _)⟩
theorem below_at {w w' : World} (hb : Below w.heap.size w w') {p : Addr} {v : Value} (h : w.cell? p = some v) : w'.cell? p = some v:=(hb.cell (cell_lt h)).trans h
structure TopAt (B : Nat) (w : World) (g m rb rc : Nat) (f : Fm) : Prop where
 c0 : w.cell? ⟨g,m * 4,none⟩ = some (.int .i64 f.proc)
 c1 : w.cell? ⟨g,m * 4 + 1,none⟩ = some (.int .i64 f.pos)
 c2 : w.cell? ⟨g,m * 4 + 2,none⟩ = some (.slice (some ⟨rb,0,none⟩) f.regs.length rc)
 c3 : w.cell? ⟨g,m * 4 + 3,none⟩ = some (.int .i64 f.to)
 r0 : ∀ k,k < f.regs.length→w.cell? ⟨rb,k * 2,none⟩ = some (.int .i64 (f.regs.getD k (0,0)).1)
 r1 : ∀ k,k < f.regs.length→w.cell? ⟨rb,k * 2 + 1,none⟩ = some (.int .i64 (f.regs.getD k (0,0)).2)
 gB : B ≤ g
 rB : B ≤ rb
 gl : g < w.heap.size
 rl : rb < w.heap.size
 gz : ∀ i,w.frozen? ⟨g,i,none⟩ = false
 rz : ∀ i,w.frozen? ⟨rb,i,none⟩ = false
theorem TopAt.below {B : Nat} {w w' : World} {g m rb rc : Nat} {f : Fm} (h : TopAt B w g m rb rc f) (hb : Below w.heap.size w w') : TopAt B w' g m rb rc f :=
 ⟨below_at hb h.c0,below_at hb h.c1,below_at hb h.c2,below_at hb h.c3,fun k hk => below_at hb (h.r0 k hk),fun k hk => below_at hb (h.r1 k hk),h.gB,h.rB,Nat.lt_of_lt_of_le h.gl hb.size,Nat.lt_of_lt_of_le h.rl hb.size,
  fun i => (hb.frozen (p:=⟨g,i,none⟩) h.gl).trans (h.gz i),fun i => (hb.frozen (p:=⟨rb,i,none⟩) h.rl).trans (h.rz i)⟩
theorem RunAt.top {X B : Nat} {w : World} {pv fv cv sv : Value} {rv xv : List Value} {R : Rn} (h : RunAt X B w pv fv cv sv rv xv R) (hn : ¬ R.s.fs.length = 0) (hr : ¬ (topF R.s).regs.length = 0) :
  ∃ g m cap rb rc,fv = .slice (some ⟨g,0,none⟩) (m + 1) cap∧R.s.fs.length = m + 1∧rv[m]? = some (.slice (some ⟨rb,0,none⟩) (topF R.s).regs.length rc)∧TopAt B w g m rb rc (topF R.s):=by
 obtain ⟨g,cap,rfl,h1,h2,h3⟩:=h.own.frow hn
 obtain ⟨m,hm⟩ : ∃ m,R.s.fs.length = m + 1:=⟨R.s.fs.length - 1,by omega⟩
 have e : topF R.s = fmAt R.s.fs m:=by unfold topF; rw [hm]; rfl
 rw [e] at hr ⊢
 obtain ⟨u,k0,k1,k2,k3,k4,k5⟩:=h.own.fcells (i:=m) (by omega)
 obtain ⟨rb,rc,rfl⟩:=k5.shape hr
 obtain ⟨q0,q1,_,q2,q3⟩:=k5.vals
 exact ⟨g,m,cap,rb,rc,by rw [hm],hm,k0,⟨k1,k2,k3,k4,fun k hk => (q0 k hk).1,fun k hk => (q0 k hk).2,h1,q2,h2,q3,h3,q1⟩⟩
theorem ibox (w : World) (op a b c : Int) (av : Value) : ∃ W,w.alloc (.cells #[.int .i64 op,.int .i64 a,.int .i64 b,.int .i64 c,av] 81) = W∧Below w.heap.size w W∧W.heap.size = w.heap.size + 1∧W.cell? ⟨w.heap.size,0,none⟩ = some (.int .i64 op)∧W.cell? ⟨w.heap.size,1,none⟩ = some (.int .i64 a)∧W.cell? ⟨w.heap.size,2,none⟩ = some (.int .i64 b)∧W.cell? ⟨w.heap.size,3,none⟩ = some (.int .i64 c)∧W.cell? ⟨w.heap.size,4,none⟩ = some av:=by
 refine ⟨_,rfl,below_alloc _ _,by simp,?_,?_,?_,?_,?_⟩ <;> (rw [World.cell?_alloc_new]; rfl)
set_option maxHeartbeats 2000000 in
theorem put_no (X g m rb rc n a b : Nat) (op c ka za : Int) (aa : Option Addr) (an ac : Nat) (w W : World) (HW : Hid (w.alloc (.cells #[.int .i64 op,.int .i64 a,.int .i64 b,.int .i64 c,.slice aa an ac] 81) = W))
  (HF : Hid (Calls Tryz.prog 83 #[.pointer (some ⟨X,0,none⟩)] W fun e w' => e = .returned (.pointer (some ⟨g,m * 4,none⟩))∧Below W.heap.size W w'))
  (HFl : Hid (∀ wi,Below W.heap.size W wi→Calls Tryz.prog 137 #[.pointer (some ⟨X,0,none⟩),.agg #[.int .i64 ka,.int .i64 za],.int .i64 c] wi fun e w' => e = .returned (.pointer none)∧Below wi.heap.size wi w'))
  (HC : Hid (∀ wi,Below W.heap.size W wi→wi.cell? ⟨w.heap.size,1,none⟩ = some (.int .i64 a)∧wi.cell? ⟨w.heap.size,3,none⟩ = some (.int .i64 c)∧wi.cell? ⟨rb,a * 2,none⟩ = some (.int .i64 ka)∧wi.cell? ⟨rb,a * 2 + 1,none⟩ = some (.int .i64 za)))
  (HG : Hid (∀ wi,Below W.heap.size W wi→wi.cell? ⟨g,m * 4 + 2,none⟩ = some (.slice (some ⟨rb,0,none⟩) n rc)))
  (ha : a < n) (hbW : Below w.heap.size w W) :
  Calls Tryz.prog 103 #[.pointer (some ⟨X,0,none⟩),.agg #[.int .i64 op,.int .i64 a,.int .i64 b,.int .i64 c,.slice aa an ac]] w fun e w' => e = .returned (.bool false)∧Below w.heap.size w w':=by
 have h1 : (0 : Int) ≤ (a : Int):=by omega
 have h2 : (a : Int) < (n : Int):=by omega
 have HB : Hid (Below w.heap.size w W):=hbW
 clear ha hbW
 go_enter Tryz.func103,Tryz.ntmps103
 go_upto_region 1 with (fail)
 rw [HW.out]
 go_upto_region 2 with (go_at_call 83; refine HF.out.mono ?_; rintro e w1 ⟨rfl,hb1⟩; have q2:=HG.out w1 hb1)
 go_region_held3 (fun w' => w'.cell? ⟨w.heap.size,1,none⟩ = some (.int .i64 a)∧w'.cell? ⟨w.heap.size,3,none⟩ = some (.int .i64 c)∧w'.cell? ⟨rb,a * 2,none⟩ = some (.int .i64 ka)∧w'.cell? ⟨rb,a * 2 + 1,none⟩ = some (.int .i64 za))
  (first | exact HC.out _ hb1.drew | exact HC.out _ (hb1.drew.trans (hb2.mono hb1.size)))
  (first | (go_at_call 137; refine (HFl.out _ hb1.drew).mono ?_; rintro e w2 ⟨rfl,hb2⟩))
 all_goals
  go_wp2
  go_ret
  exact ⟨rfl,HB.out.trans ((hb1.drew.trans (hb2.mono hb1.size)).mono HB.out.size)⟩
set_option maxHeartbeats 2000000 in
theorem put_yes (X g m rb rc n a b xg d : Nat) (op c ka za kb zb : Int) (aa : Option Addr) (an ac : Nat) (w W : World) (HW : Hid (w.alloc (.cells #[.int .i64 op,.int .i64 a,.int .i64 b,.int .i64 c,.slice aa an ac] 81) = W))
  (HF : Hid (Calls Tryz.prog 83 #[.pointer (some ⟨X,0,none⟩)] W fun e w' => e = .returned (.pointer (some ⟨g,m * 4,none⟩))∧Below W.heap.size W w'))
  (HFl : Hid (∀ wi,Below W.heap.size W wi→Calls Tryz.prog 137 #[.pointer (some ⟨X,0,none⟩),.agg #[.int .i64 ka,.int .i64 za],.int .i64 c] wi fun e w' => e = .returned (.pointer (some ⟨xg,d,none⟩))∧Below wi.heap.size wi w'))
  (HC : Hid (∀ wi,Below W.heap.size W wi→wi.cell? ⟨w.heap.size,1,none⟩ = some (.int .i64 a)∧wi.cell? ⟨w.heap.size,3,none⟩ = some (.int .i64 c)∧wi.cell? ⟨rb,a * 2,none⟩ = some (.int .i64 ka)∧wi.cell? ⟨rb,a * 2 + 1,none⟩ = some (.int .i64 za)))
  (HG : Hid (∀ wi,Below W.heap.size W wi→wi.cell? ⟨g,m * 4 + 2,none⟩ = some (.slice (some ⟨rb,0,none⟩) n rc)))
  (HD : Hid (∀ wi,Below W.heap.size W wi→wi.cell? ⟨w.heap.size,2,none⟩ = some (.int .i64 b)∧wi.cell? ⟨rb,b * 2,none⟩ = some (.int .i64 kb)∧wi.cell? ⟨rb,b * 2 + 1,none⟩ = some (.int .i64 zb)∧(∃ v,wi.cell? ⟨xg,d,none⟩ = some v)∧(∃ v,wi.cell? ⟨xg,d + 1,none⟩ = some v)∧wi.frozen? ⟨xg,d,none⟩ = false∧wi.frozen? ⟨xg,d + 1,none⟩ = false))
  (ha : a < n) (hb : b < n) (hbW : Below w.heap.size w W) :
  Calls Tryz.prog 103 #[.pointer (some ⟨X,0,none⟩),.agg #[.int .i64 op,.int .i64 a,.int .i64 b,.int .i64 c,.slice aa an ac]] w fun e w' => e = .returned (.bool true)∧Hid (∃ w2,Below w.heap.size w w2∧w' = (w2.setCell ⟨xg,d,none⟩ (.int .i64 kb)).setCell ⟨xg,d + 1,none⟩ (.int .i64 zb)):=by
 have h1 : (0 : Int) ≤ (a : Int):=by omega
 have h2 : (a : Int) < (n : Int):=by omega
 have h3 : (0 : Int) ≤ (b : Int):=by omega
 have h4 : (b : Int) < (n : Int):=by omega
 have HB : Hid (Below w.heap.size w W):=hbW
 clear ha hb hbW
 go_enter Tryz.func103,Tryz.ntmps103
 go_upto_region 1 with (fail)
 rw [HW.out]
 go_upto_region 2 with (go_at_call 83; refine HF.out.mono ?_; rintro e w1 ⟨rfl,hb1⟩; have q2:=HG.out w1 hb1)
 go_region_held3 (fun w' => w'.cell? ⟨w.heap.size,1,none⟩ = some (.int .i64 a)∧w'.cell? ⟨w.heap.size,3,none⟩ = some (.int .i64 c)∧w'.cell? ⟨rb,a * 2,none⟩ = some (.int .i64 ka)∧w'.cell? ⟨rb,a * 2 + 1,none⟩ = some (.int .i64 za))
  (first | exact HC.out _ hb1.drew | exact HC.out _ (hb1.drew.trans (hb2.mono hb1.size)))
  (first | (go_at_call 137; refine (HFl.out _ hb1.drew).mono ?_; rintro e w2 ⟨rfl,hb2⟩))
 all_goals
  have hb3 : Below W.heap.size W w2:=hb1.drew.trans (hb2.mono hb1.size)
  obtain ⟨d2,d3,d4,⟨v5,d5⟩,⟨v6,d6⟩,d7,d8⟩:=HD.out w2 hb3
  have HB3 : Hid (Below w.heap.size w w2):=HB.out.trans (hb3.mono HB.out.size)
  clear hb1 hb2 hb3
  go_wp2
  go_ret
  exact ⟨rfl,_,HB3.out,rfl⟩
def DoPost (X B : Nat) (w : World) (pv : Value) (o : Option Rn) (e : Ending) (w' : World) : Prop :=
 (o = none∧e = .returned (.bool false)∧Below w.heap.size w w') ∨ ∃ R',o = some R'∧e = .returned (.bool true)∧RA X B w' pv R'∧Below B w w'
def outR (R : Rn) (x : Sta × List Int × Bool) : Rn:=⟨x.1,R.said ++ x.2.1,R.paused || x.2.2⟩
section
variable {X B : Nat} {w w' : World} {pv fv cv sv : Value} {rv xv : List Value} {R : Rn}
theorem RunAt.stored {g n cap k : Nat} {L : List (Int × Int)} (h : RunAt X B w pv fv cv sv rv xv R) (hr : VRow B w (.slice (some ⟨g,0,none⟩) n cap) L) (hk : k < L.length) (x : Int × Int) :
  let w':=(w.setCell ⟨g,k * 2,none⟩ (.int .i64 x.1)).setCell ⟨g,k * 2 + 1,none⟩ (.int .i64 x.2)
  VRow B w' (.slice (some ⟨g,0,none⟩) n cap) (L.set k x)∧(∀ j,¬ j = g→w'.heap[j]? = w.heap[j]?)∧w'.heap[X]? = w.heap[X]?∧w'.ownsRow B 3 1 sv R.said.length (R.said.map (Value.int .i64))∧Below B w w':=by
 intro w'
 have hj : ∀ j,¬ j = g→w'.heap[j]? = w.heap[j]?:=fun j hj => (Below.heap_setCell _ _ _ j hj).trans (Below.heap_setCell _ _ _ j hj)
 refine ⟨hr.set hk x,hj,hj X fun e => ?_,ownsRow_block h.sd fun j hg => hj j fun e => ?_,?_⟩
 ·exact h.apart hr (by decide) rfl e.symm
 ·exact ownsRow_apart h.sd hr (by decide) hg (by rw [e]; rfl)
 ·exact ((Below.refl B w).setCell (hr.lt g rfl).1 _).setCell (hr.lt g rfl).1 _
theorem RunAt.setField (h : RunAt X B w pv fv cv sv rv xv R) {i c g cap : Nat} (hi : i < R.s.cs.length) (hu : xv[i]? = some (.slice (some ⟨g,0,none⟩) (R.s.cs.getD i []).length cap)) (hc : c < (R.s.cs.getD i []).length) (x : Int × Int) :
  RA X B ((w.setCell ⟨g,c * 2,none⟩ (.int .i64 x.1)).setCell ⟨g,c * 2 + 1,none⟩ (.int .i64 x.2)) pv ⟨⟨R.s.fs,R.s.cs.set i ((R.s.cs.getD i []).set c x),R.s.st,R.s.wh⟩,R.said,R.paused⟩∧Below B w ((w.setCell ⟨g,c * 2,none⟩ (.int .i64 x.1)).setCell ⟨g,c * 2 + 1,none⟩ (.int .i64 x.2)):=by
 obtain ⟨u,k0,k1⟩:=h.own.cells i hi
 rw [hu] at k0; cases k0
 obtain ⟨s1,s2,s3,s4,s5⟩:=h.stored k1 hc x
 exact ⟨⟨fv,cv,sv,rv,xv,s3.trans h.box,h.own.setFields hi hu (fun k _ _ hk => s2 k hk) s1,s4,h.hX⟩,s5⟩
theorem RunAt.setReg (h : RunAt X B w pv fv cv sv rv xv R) {m k g cap : Nat} (hm : R.s.fs.length = m + 1) (hu : rv[m]? = some (.slice (some ⟨g,0,none⟩) (topF R.s).regs.length cap)) (hk : k < (topF R.s).regs.length) (x : Int × Int) :
  RA X B ((w.setCell ⟨g,k * 2,none⟩ (.int .i64 x.1)).setCell ⟨g,k * 2 + 1,none⟩ (.int .i64 x.2)) pv ⟨Go.Proofs.YtipnjoahobplhaaGreatDoor.setReg R.s k x,R.said,R.paused⟩∧Below B w ((w.setCell ⟨g,k * 2,none⟩ (.int .i64 x.1)).setCell ⟨g,k * 2 + 1,none⟩ (.int .i64 x.2)):=by
 have e : topF R.s = fmAt R.s.fs m:=by unfold topF; rw [hm]; rfl
 obtain ⟨u,k0,k1⟩:=h.own.regs m (by omega)
 rw [hu] at k0; cases k0
 rw [← e] at k1
 obtain ⟨s1,s2,s3,s4,s5⟩:=h.stored k1 hk x
 have ho:=h.own.setRegs (i:=m) (by omega) hu (fun k _ _ hk => s2 k hk) s1
 refine ⟨⟨fv,cv,sv,rv,xv,s3.trans h.box,?_,s4,h.hX⟩,s5⟩
 show Own B _ fv cv rv xv ⟨R.s.fs.set (R.s.fs.length - 1) _,_,_,_⟩
 rw [show R.s.fs.length - 1 = m by omega,e]
 rw [e] at ho
 exact ho
theorem RunAt.setPos {g m cap : Nat} (h : RunAt X B w pv (.slice (some ⟨g,0,none⟩) (m + 1) cap) cv sv rv xv R) (hm : R.s.fs.length = m + 1) (p : Int) :
  RunAt X B (w.setCell ⟨g,m * 4 + 1,none⟩ (.int .i64 p)) pv (.slice (some ⟨g,0,none⟩) (m + 1) cap) cv sv rv xv ⟨Go.Proofs.YtipnjoahobplhaaGreatDoor.setPos R.s p,R.said,R.paused⟩∧Below B w (w.setCell ⟨g,m * 4 + 1,none⟩ (.int .i64 p)):=by
 have e : topF R.s = fmAt R.s.fs m:=by unfold topF; rw [hm]; rfl
 have hj : ∀ j,¬ j = g→(w.setCell ⟨g,m * 4 + 1,none⟩ (.int .i64 p)).heap[j]? = w.heap[j]?:=fun j hj => Below.heap_setCell _ _ _ j hj
 have ho:=h.own.setPos (i:=m) (by omega) p
 refine ⟨⟨(hj X fun e2 => h.apart h.own.fr (by decide) rfl e2.symm).trans h.box,?_,ownsRow_block h.sd fun j hg => hj j fun e2 => ownsRow_apart h.sd h.own.fr (by decide) hg (by rw [e2]; rfl),h.hX⟩,(Below.refl B w).setCell (h.own.fr.lt g rfl).1 _⟩
 show Own B _ _ cv rv xv ⟨R.s.fs.set (R.s.fs.length - 1) _,_,_,_⟩
 rw [show R.s.fs.length - 1 = m by omega,e]
 exact ho
end
theorem nat_of {a : Int} (h : 0 ≤ a) : ∃ n : Nat,a = n:=⟨a.toNat,by omega⟩
theorem putM {np : Nat} {P : Nat→Pc} (X B : Nat) (i : In) (aa : Option Addr) (ac : Nat) (w : World) (pv : Value) (R : Rn) (hs : StaOK np P R.s) (hst : R.s.st = 0) (h : RA X B w pv R) (ho : i.op = 6) (hi : InOK np (fun k => (P k).params) (procS P R.s).regs (procS P R.s).n i) :
  Calls Tryz.prog 103 #[.pointer (some ⟨X,0,none⟩),.agg #[.int .i64 i.op,.int .i64 i.a,.int .i64 i.b,.int .i64 i.c,.slice aa i.n ac]] w (DoPost X B w pv ((doM P R.s i).map (outR R))):=by
 obtain ⟨fv,cv,sv,rv,xv,h⟩:=h
 have hn : ¬ R.s.fs.length = 0:=hs.unfin (by omega)
 have ht:=hs.top hn
 have hlen:=ht.len
 obtain ⟨a,ha⟩:=nat_of (hi.ra (by omega) (by omega)).1
 obtain ⟨b,hb⟩:=nat_of (hi.rb (by omega)).1
 obtain ⟨c,hcc⟩:=nat_of (hi.fld (by omega)).1
 have ha1:=(hi.ra (by omega) (by omega)).2
 have hb1:=(hi.rb (by omega)).2
 unfold procS at ha1 hb1
 rw [ha] at ha1
 rw [hb] at hb1
 have ha2 : a < (topF R.s).regs.length:=by omega
 have hb2 : b < (topF R.s).regs.length:=by omega
 obtain ⟨g,m,cap,rb,rc,rfl,hfl,hrv,T⟩:=h.top hn (by omega)
 obtain ⟨W,hW,b0,hsz,i0,i1,i2,i3,i4⟩:=ibox w i.op i.a i.b i.c (.slice aa i.n ac)
 have hfew:=hs.few
 have HF : Hid (Calls Tryz.prog 83 #[.pointer (some ⟨X,0,none⟩)] W fun e w' => e = .returned (.pointer (some ⟨g,m * 4,none⟩))∧Below W.heap.size W w'):=vframe X B W pv cv sv g m cap rv xv R (h.below b0) (by omega)
 have hT : ∀ wi,Below W.heap.size W wi→TopAt B wi g m rb rc (topF R.s):=fun wi hb => (T.below b0).below hb
 rw [ha,hb,hcc] at hW
 rw [ha] at i1
 rw [hb] at i2
 rw [hcc] at i3
 have hdo : doM P R.s i = if hasField R.s ((topF R.s).regs.getD a (0,0)) i.c = true then some (Go.Proofs.YtipnjoahobplhaaGreatDoor.setField R.s ((topF R.s).regs.getD a (0,0)) i.c ((topF R.s).regs.getD b (0,0)),[],false) else none:=by
  unfold doM regAt
  rw [if_pos ho,ha,hb]; rfl
 rw [hdo,ha,hb,hcc]
 have hva:=ht.vals.at (a : Int)
 unfold regAt at hva
 rw [Int.toNat_natCast] at hva
 have HC : Hid (∀ wi,Below W.heap.size W wi→wi.cell? ⟨w.heap.size,1,none⟩ = some (.int .i64 a)∧wi.cell? ⟨w.heap.size,3,none⟩ = some (.int .i64 c)∧wi.cell? ⟨rb,a * 2,none⟩ = some (.int .i64 ((topF R.s).regs.getD a (0,0)).1)∧wi.cell? ⟨rb,a * 2 + 1,none⟩ = some (.int .i64 ((topF R.s).regs.getD a (0,0)).2)):=fun wi hw => ⟨below_at hw i1,below_at hw i3,(hT wi hw).r0 a ha2,(hT wi hw).r1 a ha2⟩
 have HG : Hid (∀ wi,Below W.heap.size W wi→wi.cell? ⟨g,m * 4 + 2,none⟩ = some (.slice (some ⟨rb,0,none⟩) (topF R.s).regs.length rc)):=fun wi hw => (hT wi hw).c2
 by_cases hk : ((topF R.s).regs.getD a (0,0)).1 = 2
 ·rw [hk] at hva
  obtain ⟨k1,k2⟩:=chk_ref hva
  obtain ⟨k,hkk⟩:=nat_of k1
  rw [hkk] at k2
  have hkn : k < R.s.cs.length:=by omega
  have hlo:=hs.cells.lo _ (getD_mem (d:=[]) hkn)
  have hhi:=hs.cells.hi _ (getD_mem (d:=[]) hkn)
  have hcn:=hs.cn
  obtain ⟨cb,cc,xg,xc,rfl,ck,hxk,hvr⟩:=h.own.ccell hkn (by omega)
  obtain ⟨_,_,c2,_⟩:=(h.below b0).cells
  have ckW:=below_at b0 ck
  have hXW:=(h.below b0).lt
  have hfield : hasField R.s ((topF R.s).regs.getD a (0,0)) c = decide ((c : Int) < (R.s.cs.getD k []).length):=by
   unfold hasField
   rw [hk,hkk,Int.toNat_natCast]; simp
  by_cases hlt : c < (R.s.cs.getD k []).length
  ·rw [if_pos (by rw [hfield]; exact decide_eq_true (by omega))]
   have hvW : VRow B W (.slice (some ⟨xg,0,none⟩) (R.s.cs.getD k []).length xc) (R.s.cs.getD k []):=ownsRow_block hvr fun j hj => b0.block j (hvr.lt j hj).2
   obtain ⟨q0,q1,_,q2,q3⟩:=hvW.vals
   have:=put_yes X g m rb rc (topF R.s).regs.length a b xg (c * 2) i.op c ((topF R.s).regs.getD a (0,0)).1 ((topF R.s).regs.getD a (0,0)).2 ((topF R.s).regs.getD b (0,0)).1 ((topF R.s).regs.getD b (0,0)).2 aa i.n ac w W hW HF
    (fun wi hw => by rw [hk,hkk]; exact field_yes X cb cc _ k xg xc _ c wi (Nat.lt_of_lt_of_le hXW hw.size) (Nat.lt_of_lt_of_le (cell_lt ckW) hw.size) (below_at hw c2) (below_at hw ckW) hkn hlt) HC HG
    (fun wi hw => ⟨below_at hw i2,(hT wi hw).r0 b hb2,(hT wi hw).r1 b hb2,⟨_,below_at hw (q0 c hlt).1⟩,⟨_,below_at hw (q0 c hlt).2⟩,(hw.frozen (p:=⟨xg,c * 2,none⟩) q3).trans (q1 _),(hw.frozen (p:=⟨xg,c * 2 + 1,none⟩) q3).trans (q1 _)⟩) ha2 hb2 b0
   refine this.mono ?_
   rintro e w' ⟨rfl,w2,hw2,rfl⟩
   have h2:=h.below hw2
   obtain ⟨r1,r2⟩:=h2.setField hkn hxk hlt ((topF R.s).regs.getD b (0,0))
   refine Or.inr ⟨_,rfl,rfl,?_,(hw2.mono (Nat.le_trans h.hX (Nat.le_of_lt h.lt))).trans r2⟩
   show RA X B _ pv ⟨Go.Proofs.YtipnjoahobplhaaGreatDoor.setField R.s _ _ _,R.said ++ [],R.paused || false⟩
   unfold Go.Proofs.YtipnjoahobplhaaGreatDoor.setField
   rw [hkk,Int.toNat_natCast,Int.toNat_natCast,List.append_nil,Bool.or_false]
   exact r1
  ·rw [if_neg (by rw [hfield]; intro e; have:=of_decide_eq_true e; omega)]
   have:=put_no X g m rb rc (topF R.s).regs.length a b i.op c ((topF R.s).regs.getD a (0,0)).1 ((topF R.s).regs.getD a (0,0)).2 aa i.n ac w W hW HF
    (fun wi hw => by rw [hk,hkk]; exact field_few X cb cc _ k xg xc _ c wi (Nat.lt_of_lt_of_le hXW hw.size) (Nat.lt_of_lt_of_le (cell_lt ckW) hw.size) (below_at hw c2) (below_at hw ckW) hkn (by omega)) HC HG ha2 b0
   refine this.mono ?_
   rintro e w' ⟨rfl,hw2⟩
   exact Or.inl ⟨rfl,rfl,hw2⟩
 ·rw [if_neg (by unfold hasField; intro e; exact hk (of_decide_eq_true e).1)]
  have:=put_no X g m rb rc (topF R.s).regs.length a b i.op c ((topF R.s).regs.getD a (0,0)).1 ((topF R.s).regs.getD a (0,0)).2 aa i.n ac w W hW HF (fun wi hw => field_kind X _ _ _ wi hk) HC HG ha2 b0
  refine this.mono ?_
  rintro e w' ⟨rfl,hw2⟩
  exact Or.inl ⟨rfl,rfl,hw2⟩
end Go.Proofs.YtipnjoahobplhaaGreatDoor
