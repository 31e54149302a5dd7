/- A run at work in memory. -/
import Derived.Test.YtfaokaohhchdhaaGreatDoorPart10
namespace Go.Proofs.YtfaokaohhchdhaaGreatDoor
open Go.RowKit Go.Maps
structure RunAt (X B:Nat) (w:World) (pv fv cv sv:Value) (rv xv:List Value) (R:Rn):Prop where
 box:w.heap[X]?=some (.cells #[pv,fv,cv,.int .i64 R.s.st,.int .i64 R.s.wh,sv,.bool R.paused] 81 (0,0))
 own:Own B w fv cv rv xv R.s
 sd:w.ownsRow B 3 1 sv R.said.length (R.said.map (Value.int .i64))
 hX:B≤X
section
variable {X B:Nat} {w w':World} {pv fv cv sv:Value} {rv xv:List Value} {R:Rn}
theorem RunAt.lt (h:RunAt X B w pv fv cv sv rv xv R):X<w.heap.size:=(Array.getElem?_eq_some_iff.1 h.box).1
theorem RunAt.cells (h:RunAt X B w pv fv cv sv rv xv R):w.cell? ⟨X,0,none⟩=some pv∧w.cell? ⟨X,1,none⟩=some fv∧w.cell? ⟨X,2,none⟩=some cv∧w.cell? ⟨X,3,none⟩=some (.int .i64 R.s.st)∧w.cell? ⟨X,4,none⟩=some (.int .i64 R.s.wh)∧w.cell? ⟨X,5,none⟩=some sv∧w.cell? ⟨X,6,none⟩=some (.bool R.paused)∧∀i,w.frozen? ⟨X,i,none⟩=false:=by
 have e:∀k,w.cell? ⟨X,k,none⟩=(#[pv,fv,cv,.int .i64 R.s.st,.int .i64 R.s.wh,sv,.bool R.paused]:Array Value)[k]?:=fun k=>by
  unfold World.cell?;rw[h.box];rfl
 exact⟨e 0,e 1,e 2,e 3,e 4,e 5,e 6,fun i=>by unfold World.frozen?;rw[h.box];simp⟩
theorem RunAt.apart (h:RunAt X B w pv fv cv sv rv xv R) {C:Nat} {e:TypeId} {size n:Nat} {v:Value} {xs:List Value} (hr:w.ownsRow C e size v n xs) (hne:¬e=81) {g:Nat} (hg:v.ownBlock=some g):¬g=X:=fun e2=>by
 obtain⟨c,fz,k⟩:=Lib.ownsRow_kind hr g hg
 rw[e2,h.box]at k
 injection k with k
 injection k with _ k2 _
 exact hne k2.symm
theorem RunAt.below (h:RunAt X B w pv fv cv sv rv xv R) (hb:Below w.heap.size w w'):RunAt X B w' pv fv cv sv rv xv R :=
 ⟨by rw[hb.block X h.lt];exact h.box,h.own.below hb,ownsRow_block h.sd fun g hg=>hb.block g (h.sd.lt g hg).2,h.hX⟩
theorem RunAt.setX (h:RunAt X B w pv fv cv sv rv xv R) (hk:∀k,¬k=X→w'.heap[k]?=w.heap[k]?):Own B w' fv cv rv xv R.s∧w'.ownsRow B 3 1 sv R.said.length (R.said.map (Value.int .i64)):=by
 have go:∀ {e size v n xs},w.ownsRow B e size v n xs→¬e=81→w'.ownsRow B e size v n xs:=fun hr hne=>ownsRow_block hr fun g hg=>hk g (h.apart hr hne hg)
 refine⟨⟨go h.own.fr (by decide),go h.own.ce (by decide),h.own.rl,fun i hi=>?_,fun i hi=>?_,h.own.rr,h.own.xx,h.own.rx⟩,go h.sd (by decide)⟩
 ·obtain⟨u,h1,h2⟩:=h.own.regs i hi;exact⟨u,h1,go h2 (by decide)⟩
 ·obtain⟨u,h1,h2⟩:=h.own.cells i hi;exact⟨u,h1,go h2 (by decide)⟩
theorem Own.frow {S:Sta} (h:Own B w fv cv rv xv S) (hn:¬S.fs.length=0):∃g cap,fv=.slice (some ⟨g,0,none⟩) S.fs.length cap∧B≤g∧g<w.heap.size∧∀i,w.frozen? ⟨g,i,none⟩=false:=by
 rcases h.fr.2 with⟨_,h0⟩|⟨g,cap,cur,rfl,hg,hh,_⟩
 ·exact absurd h0 hn
 ·exact⟨g,cap,rfl,hg,(Array.getElem?_eq_some_iff.1 hh).1,fun i=>by unfold World.frozen?;rw[hh];simp⟩
theorem Own.fcells {S:Sta} {g n cap:Nat} (h:Own B w (.slice (some ⟨g,0,none⟩) n cap) cv rv xv S) {i:Nat} (hi:i<S.fs.length):∃u,rv[i]?=some u∧w.cell? ⟨g,i*4,none⟩=some (.int .i64 (fmAt S.fs i).proc)∧w.cell? ⟨g,i*4+1,none⟩=some (.int .i64 (fmAt S.fs i).pos)∧w.cell? ⟨g,i*4+2,none⟩=some u∧w.cell? ⟨g,i*4+3,none⟩=some (.int .i64 (fmAt S.fs i).to)∧VRow B w u (fmAt S.fs i).regs:=by
 have hn:S.fs.length=n:=by
  rcases h.fr.2 with⟨h0,_⟩|⟨_,_,_,hv,_⟩
  ·cases h0
  ·injection hv with _ h2 _
   exact h2.symm
 subst hn
 have hl:=flatF_len S.fs rv h.rl
 obtain⟨u,h0,h1,h2,h3,h4⟩:=flatF_at S.fs rv h.rl i hi
 obtain⟨u',k0,k1⟩:=h.regs i hi
 rw[h0]at k0;cases k0
 exact⟨u,h0,(h.fr.cellAt (i*4) (by omega)).trans h1,(h.fr.cellAt (i*4+1) (by omega)).trans h2,(h.fr.cellAt (i*4+2) (by omega)).trans h3,(h.fr.cellAt (i*4+3) (by omega)).trans h4,k1⟩
theorem VRow.vals {L:List (Int×Int)} {g n cap:Nat} (h:VRow B w (.slice (some ⟨g,0,none⟩) n cap) L):(∀k,k<L.length→w.cell? ⟨g,k*2,none⟩=some (.int .i64 (L.getD k (0,0)).1)∧w.cell? ⟨g,k*2+1,none⟩=some (.int .i64 (L.getD k (0,0)).2))∧(∀i,w.frozen? ⟨g,i,none⟩=false)∧n=L.length∧B≤g∧g<w.heap.size:=by
 have hlen:=flatV_len L
 have hn:n=L.length:=by
  rcases h.2 with⟨h0,_⟩|⟨_,_,_,hv,_⟩
  ·cases h0
  ·injection hv
 subst hn
 refine⟨fun k hk=>?_,fun i=>?_,rfl,(h.lt g rfl).1,(h.lt g rfl).2⟩
 ·obtain⟨f0,f1⟩:=flatV_at L k hk
  exact⟨(World.ownsRow.cellAt h (k*2) (by omega)).trans f0,(World.ownsRow.cellAt h (k*2+1) (by omega)).trans f1⟩
 ·rcases h.2 with⟨h0,_⟩|⟨g',cap',cur,hv,hg,hh,_⟩
  ·cases h0
  ·cases hv
   unfold World.frozen?;rw[hh];simp
end
def RA (X B:Nat) (w:World) (pv:Value) (R:Rn):Prop:=∃fv cv sv rv xv,RunAt X B w pv fv cv sv rv xv R
theorem RA.below {X B:Nat} {w w':World} {pv:Value} {R:Rn} (h:RA X B w pv R) (hb:Below w.heap.size w w'):RA X B w' pv R:=by
 obtain⟨fv,cv,sv,rv,xv,h⟩:=h
 exact⟨fv,cv,sv,rv,xv,h.below hb⟩
def Box (t:TypeId) (X:Nat) (w:World) (cs:Array Value):Prop:=w.heap[X]?=some (.cells cs t (0,0))
theorem box_new (w:World) (cs:Array Value) (t:TypeId):Box t w.heap.size (w.alloc (.cells cs t)) cs:=heap_alloc_new w _
theorem Box.cell {t:TypeId} {X:Nat} {w:World} {cs:Array Value} (h:Box t X w cs) (i:Nat):w.cell? ⟨X,i,none⟩=cs[i]?:=by
 unfold Box at h;unfold World.cell?;rw[h];rfl
theorem Box.fz {t:TypeId} {X:Nat} {w:World} {cs:Array Value} (h:Box t X w cs) (i:Nat):w.frozen? ⟨X,i,none⟩=false:=by
 unfold Box at h;unfold World.frozen?;rw[h];simp
theorem Box.put {t:TypeId} {X:Nat} {w:World} {cs:Array Value} (h:Box t X w cs) (i:Nat) (v:Value):Box t X (w.setCell ⟨X,i,none⟩ v) (cs.setIfInBounds i v):=by
 unfold Box at h ⊢;rw[heap_setCell_same w X i _ _ v h]
theorem Box.keep {t:TypeId} {X:Nat} {w w':World} {cs:Array Value} (h:Box t X w cs) (hb:w'.heap[X]?=w.heap[X]?):Box t X w' cs:=by
 unfold Box at h ⊢;rw[hb];exact h
theorem results_row_tmp {P:Program} {fn:Func} {p u:Tmp} {ty:TypeId} (h:fn.results=#[.cell p ty,.tmp u]) (tmps:Array Value) (w:World) (g:Nat) (t:TypeId) (cs:Array Value) (fr:Nat×Nat) (d:TypeDesc)
  (hp:tmps.getD p undef=.pointer (some ⟨g,0,none⟩)) (hg:w.heap[g]?=some (.cells cs t fr))
  (hu:P.underlying ty=some d) (hd:(match d with | .struct _ | .array _ _=>true|_=>false)=true) (hi:(P.info? ty).map (·.size)=some cs.size) :
  (results fn tmps).run P w=.ok (.tuple #[.agg cs,tmps.getD u undef]) w:=by
 have hp':tmps[p]?.getD undef=.pointer (some ⟨g,0,none⟩):=by simpa using hp
 simp[results,h,hp',asAddr,run_loadVar_row w g t ty cs fr d hg hu hd hi]
theorem results_row_tmp3 {P:Program} {fn:Func} {p u1 u2 u3:Tmp} {ty:TypeId} (h:fn.results=#[.cell p ty,.tmp u1,.tmp u2,.tmp u3]) (tmps:Array Value) (w:World) (g:Nat) (t:TypeId) (cs:Array Value) (fr:Nat×Nat) (d:TypeDesc)
  (hp:tmps.getD p undef=.pointer (some ⟨g,0,none⟩)) (hg:w.heap[g]?=some (.cells cs t fr))
  (hu:P.underlying ty=some d) (hd:(match d with | .struct _ | .array _ _=>true|_=>false)=true) (hi:(P.info? ty).map (·.size)=some cs.size) :
  (results fn tmps).run P w=.ok (.tuple #[.agg cs,tmps.getD u1 undef,tmps.getD u2 undef,tmps.getD u3 undef]) w:=by
 have hp':tmps[p]?.getD undef=.pointer (some ⟨g,0,none⟩):=by simpa using hp
 simp[results,h,hp',asAddr,run_loadVar_row w g t ty cs fr d hg hu hd hi]
theorem res2at (W w1:World) (X:Nat) (t:TypeId) (a b x y:Value) (h0:Box t X W #[a,b]) (hb:Below W.heap.size W w1) (hX:X<W.heap.size):w1.cell? ⟨X,0,none⟩=some a∧w1.cell? ⟨X,1,none⟩=some b∧w1.frozen? ⟨X,0,none⟩=false∧w1.frozen? ⟨X,1,none⟩=false∧Hid (((w1.setCell ⟨X,0,none⟩ x).setCell ⟨X,1,none⟩ y).heap[X]?=some (.cells #[x,y] t (0,0))):=by
 have h:Box t X w1 #[a,b]:=h0.keep (hb.block _ hX)
 exact⟨h.cell 0,h.cell 1,h.fz 0,h.fz 1,(h.put 0 x).put 1 y⟩
set_option maxHeartbeats 400000 in
theorem vnumber (n:Int) (w:World):Calls Tryz.prog 210 #[.int .i64 n] w fun e w'=>e=.returned (.agg #[.int .i64 1,.int .i64 n])∧Below w.heap.size w w':=by
 go_enter Tryz.func210,Tryz.ntmps210
 go_wp2
 refine bodyPost_ret (results_cell_row rfl _ _ w.heap.size 92 _ (0,0) _ rfl (heap_alloc_new _ _) Tryz.underlying92 rfl (by kernel_rfl)) rfl ?_
 exact⟨rfl,below_alloc _ _⟩
theorem res2 (w w1:World) (t:TypeId) (a b x y:Value) (hb:Below (w.alloc (.cells #[a,b] t)).heap.size (w.alloc (.cells #[a,b] t)) w1):w1.cell? ⟨w.heap.size,0,none⟩=some a∧w1.cell? ⟨w.heap.size,1,none⟩=some b∧w1.frozen? ⟨w.heap.size,0,none⟩=false∧w1.frozen? ⟨w.heap.size,1,none⟩=false∧Hid (((w1.setCell ⟨w.heap.size,0,none⟩ x).setCell ⟨w.heap.size,1,none⟩ y).heap[w.heap.size]?=some (.cells #[x,y] t (0,0)))∧Hid (Below w.heap.size w ((w1.setCell ⟨w.heap.size,0,none⟩ x).setCell ⟨w.heap.size,1,none⟩ y)):=by
 have h:Box t w.heap.size w1 #[a,b]:=(box_new w #[a,b] t).keep (hb.block _ (by simp))
 refine⟨h.cell 0,h.cell 1,h.fz 0,h.fz 1,(h.put 0 x).put 1 y,?_⟩
 exact ((below_step (below_alloc w _) hb).setCell (Nat.le_refl _) _).setCell (Nat.le_refl _) _
def b2i (b:Bool):Int:=if b=true then 1 else 0
set_option maxHeartbeats 400000 in
theorem vtruth (b:Bool) (w:World):Calls Tryz.prog 241 #[.bool b] w fun e w'=>e=.returned (.agg #[.int .i64 1,.int .i64 (b2i b)])∧Below w.heap.size w w':=by
 cases b
 ·go_enter Tryz.func241,Tryz.ntmps241
  go_wp2_with (go_at_call 210;refine (vnumber _ _).mono ?_;rintro e w1 ⟨rfl,hb1⟩;obtain⟨q0,q1,q2,q3,q4,q5⟩:=res2 w w1 _ _ _ (.int .i64 1) (.int .i64 0) hb1)
  refine bodyPost_ret (results_cell_row rfl _ _ w.heap.size 92 _ (0,0) _ rfl q4.out Tryz.underlying92 rfl (by kernel_rfl)) rfl ?_
  exact⟨rfl,q5.out⟩
 ·go_enter Tryz.func241,Tryz.ntmps241
  go_wp2_with (go_at_call 210;refine (vnumber _ _).mono ?_;rintro e w1 ⟨rfl,hb1⟩;obtain⟨q0,q1,q2,q3,q4,q5⟩:=res2 w w1 _ _ _ (.int .i64 1) (.int .i64 1) hb1)
  refine bodyPost_ret (results_cell_row rfl _ _ w.heap.size 92 _ (0,0) _ rfl q4.out Tryz.underlying92 rfl (by kernel_rfl)) rfl ?_
  exact⟨rfl,q5.out⟩
set_option maxHeartbeats 400000 in
theorem vframe (X B:Nat) (w:World) (pv cv sv:Value) (g m cap:Nat) (rv xv:List Value) (R:Rn) (h:RunAt X B w pv (.slice (some ⟨g,0,none⟩) (m+1) cap) cv sv rv xv R) (hm:m≤1000) :
  Calls Tryz.prog 101 #[.pointer (some ⟨X,0,none⟩)] w fun e w'=>e=.returned (.pointer (some ⟨g,m*4,none⟩))∧Below w.heap.size w w':=by
 obtain⟨c0,c1,c2,c3,c4,c5,c6,c7⟩:=h.cells
 clear h
 clear c0 c2 c3 c4 c5 c6 c7
 have hw1:IntKind.i64.wrap (m:Int)=(m:Int):=Go.IntWalk.i64_in _ (by omega)
 have hw2:IntKind.i64.wrap ((m:Int)+1 - 1)=(m:Int):=(by rw[Int.add_sub_cancel];exact hw1)
 have hw3:(0:Int)≤(m:Int):=by omega
 have hw4:(m:Int)<(m:Int)+1:=by omega
 go_enter Tryz.func101,Tryz.ntmps101
 go_upto_region 1 with (fail)
 go_region_held3 (fun w'=>w'.cell? ⟨X,1,none⟩=some (.slice (some ⟨g,0,none⟩) (m+1) cap)) (go_keep) (fail)
 all_goals
  go_wp2
  go_ret
  exact⟨rfl,(Below.refl _ _).drew⟩
def OpP (op:Int) (a b:Int×Int) (e:Ending):Prop:=∃k z,e=.returned (.tuple #[.agg #[.int .i64 k,.int .i64 z],.bool (opM op a b).isSome])∧∀v,opM op a b=some v→v=(k,z)
theorem OpP.yes {op:Int} {a b:Int×Int} {k z:Int} (h:opM op a b=some (k,z)):OpP op a b (.returned (.tuple #[.agg #[.int .i64 k,.int .i64 z],.bool true])):=⟨k,z,by rw[h];rfl,fun v hv=>by rw[h]at hv;injection hv with hv;exact hv.symm⟩
theorem OpP.no {op:Int} {a b:Int×Int} {k z:Int} (h:opM op a b=none):OpP op a b (.returned (.tuple #[.agg #[.int .i64 k,.int .i64 z],.bool false])):=⟨k,z,by rw[h];rfl,fun v hv=>by rw[h]at hv;cases hv⟩
theorem op_boxes (a1 a2 b1 b2:Int) (w:World):Hid (Box 92 (w.heap.size+1+1) (((w.alloc (.cells #[.int .i64 a1,.int .i64 a2] 92)).alloc (.cells #[.int .i64 b1,.int .i64 b2] 92)).alloc (.cells #[.int .i64 0,.int .i64 0] 92)) #[.int .i64 0,.int .i64 0])∧Hid (Below w.heap.size w (((w.alloc (.cells #[.int .i64 a1,.int .i64 a2] 92)).alloc (.cells #[.int .i64 b1,.int .i64 b2] 92)).alloc (.cells #[.int .i64 0,.int .i64 0] 92))):=by
 refine⟨?_,below_step (below_step (below_alloc _ _) (below_alloc _ _)) (below_alloc _ _)⟩
 have:=box_new ((w.alloc (.cells #[.int .i64 a1,.int .i64 a2] 92)).alloc (.cells #[.int .i64 b1,.int .i64 b2] 92)) #[.int .i64 0,.int .i64 0] 92
 show Box _ _ _ _
 simpa using this
set_option maxHeartbeats 1000000 in
theorem operate5 (a1 a2 b1 b2:Int) (w:World) :
  Calls Tryz.prog 211 #[.int .i64 5,.agg #[.int .i64 a1,.int .i64 a2],.agg #[.int .i64 b1,.int .i64 b2]] w fun e w'=>OpP 5 (a1,a2) (b1,b2) e∧Below w.heap.size w w':=by
 have HQ:Hid (opM 5 (a1,a2) (b1,b2)=some (1,b2i (a1 == b1 && a2 == b2))):=by
  show opM 5 (a1,a2) (b1,b2)=_
  unfold opM b2i
  rw[if_pos rfl]
  have:((a1,a2)=(b1,b2)) ↔ ((a1 == b1 && a2 == b2)=true):=by simp
  simp only[this]
 have het:∀w:World,(binOp .eql 92 (.agg #[.int .i64 a1,.int .i64 a2]) (.agg #[.int .i64 b1,.int .i64 b2])).run Tryz.prog w=.ok (.bool (a1 == b1 && a2 == b2)) w:=by
  intro w;rw[run_eql_struct,eqVal];rfl
 obtain⟨HBx,HBl⟩:=op_boxes a1 a2 b1 b2 w
 generalize hc:(a1 == b1 && a2 == b2)=c at *
 clear hc
 go_enter Tryz.func211,Tryz.ntmps211
 go_wp2_with (go_at_call 241;refine (vtruth _ _).mono ?_;rintro e w1 ⟨rfl,hb1⟩;obtain⟨q0,q1,q2,q3,q4⟩:=res2at _ w1 (w.heap.size+1+1) _ _ _ (.int .i64 1) (.int .i64 (b2i c)) HBx.out hb1 (by simp))
 refine bodyPost_ret (results_row_tmp rfl _ _ (w.heap.size+1+1) 92 _ (0,0) _ rfl q4.out Tryz.underlying92 rfl (by kernel_rfl)) rfl ?_
 exact⟨OpP.yes HQ.out,((HBl.out.trans (hb1.mono HBl.out.size)).setCell (by show w.heap.size≤w.heap.size+1+1;omega) _).setCell (by show w.heap.size≤w.heap.size+1+1;omega) _⟩
theorem opM_kinds {op:Int} {a b:Int×Int} (h5:¬op=5) (hk:¬a.1=1∨¬b.1=1):opM op a b=none:=by unfold opM;rw[if_neg h5,if_pos hk]
theorem opM_less {a b:Int×Int} (ha:a.1=1) (hb:b.1=1):opM 4 a b=some (1,b2i (decide (a.2<b.2))):=by
 unfold opM b2i;rw[if_neg (by decide),if_neg (by omega),if_pos rfl];simp
theorem opM_num {op:Int} {a b:Int×Int} (h5:¬op=5) (h4:¬op=4) (ha:a.1=1) (hb:b.1=1):opM op a b=if -1000000000≤numOp op a.2 b.2∧numOp op a.2 b.2≤1000000000 then some (1,numOp op a.2 b.2) else none:=by
 unfold opM;rw[if_neg h5,if_neg (by omega),if_neg h4]
set_option maxHeartbeats 1000000 in
theorem operate_kinds (op a1 a2 b1 b2:Int) (w:World) (h5:¬op=5) (hk:¬a1=1∨¬b1=1) :
  Calls Tryz.prog 211 #[.int .i64 op,.agg #[.int .i64 a1,.int .i64 a2],.agg #[.int .i64 b1,.int .i64 b2]] w fun e w'=>OpP op (a1,a2) (b1,b2) e∧Below w.heap.size w w':=by
 have HQ:Hid (opM op (a1,a2) (b1,b2)=none):=opM_kinds h5 hk
 have h5b:(op == 5)=false:=by simp[h5]
 obtain⟨HBx,HBl⟩:=op_boxes a1 a2 b1 b2 w
 clear h5
 by_cases h1:a1=1
 ·have h2:¬b1=1:=by omega
  subst h1
  have h2b:(b1 != 1)=true:=by simp[h2]
  clear hk h2
  go_enter Tryz.func211,Tryz.ntmps211
  go_wp2_with fail
  refine bodyPost_ret (results_row_tmp rfl _ _ (w.heap.size+1+1) 92 _ (0,0) _ rfl HBx.out Tryz.underlying92 rfl (by kernel_rfl)) rfl ?_
  exact⟨OpP.no HQ.out,HBl.out⟩
 ·have h1b:(a1 != 1)=true:=by simp[h1]
  clear hk h1
  go_enter Tryz.func211,Tryz.ntmps211
  go_wp2_with fail
  refine bodyPost_ret (results_row_tmp rfl _ _ (w.heap.size+1+1) 92 _ (0,0) _ rfl HBx.out Tryz.underlying92 rfl (by kernel_rfl)) rfl ?_
  exact⟨OpP.no HQ.out,HBl.out⟩
set_option maxHeartbeats 1000000 in
theorem operate4 (a2 b2:Int) (w:World) :
  Calls Tryz.prog 211 #[.int .i64 4,.agg #[.int .i64 1,.int .i64 a2],.agg #[.int .i64 1,.int .i64 b2]] w fun e w'=>OpP 4 (1,a2) (1,b2) e∧Below w.heap.size w w':=by
 have HQ:Hid (opM 4 (1,a2) (1,b2)=some (1,b2i (decide (a2<b2)))):=opM_less rfl rfl
 obtain⟨HBx,HBl⟩:=op_boxes 1 a2 1 b2 w
 go_enter Tryz.func211,Tryz.ntmps211
 go_wp2_with (go_at_call 241;refine (vtruth _ _).mono ?_;rintro e w1 ⟨rfl,hb1⟩;obtain⟨q0,q1,q2,q3,q4⟩:=res2at _ w1 (w.heap.size+1+1) _ _ _ (.int .i64 1) (.int .i64 (b2i (decide (a2<b2)))) HBx.out hb1 (by simp))
 refine bodyPost_ret (results_row_tmp rfl _ _ (w.heap.size+1+1) 92 _ (0,0) _ rfl q4.out Tryz.underlying92 rfl (by kernel_rfl)) rfl ?_
 exact⟨OpP.yes HQ.out,((HBl.out.trans (hb1.mono HBl.out.size)).setCell (by show w.heap.size≤w.heap.size+1+1;omega) _).setCell (by show w.heap.size≤w.heap.size+1+1;omega) _⟩
set_option maxHeartbeats 1000000 in
theorem operate1 (a2 b2:Int) (w:World) (ha : -1000000000≤a2∧a2≤1000000000) (hb : -1000000000≤b2∧b2≤1000000000) :
  Calls Tryz.prog 211 #[.int .i64 1,.agg #[.int .i64 1,.int .i64 a2],.agg #[.int .i64 1,.int .i64 b2]] w fun e w'=>OpP 1 (1,a2) (1,b2) e∧Below w.heap.size w w':=by
 have HQ:Hid (opM 1 (1,a2) (1,b2)=if -1000000000≤a2+b2∧a2+b2≤1000000000 then some (1,a2+b2) else none):=opM_num (by decide) (by decide) rfl rfl
 obtain⟨HBx,HBl⟩:=op_boxes 1 a2 1 b2 w
 obtain⟨c,hc⟩:∃c,a2+b2=c:=⟨_,rfl⟩
 have hw:IntKind.i64.wrap (a2+b2)=c:=(Go.IntWalk.i64_in _ (by omega)).trans hc
 rw[hc]at HQ
 clear ha hb hc
 by_cases h1 : -1000000000≤c
 ·by_cases h2:c≤1000000000
  ·have HQ2:Hid (opM 1 (1,a2) (1,b2)=some (1,c)):=by show _=_;rw[HQ.out,if_pos ⟨h1,h2⟩]
   go_enter Tryz.func211,Tryz.ntmps211
   go_wp2_with (go_at_call 210;refine (vnumber _ _).mono ?_;rintro e w1 ⟨rfl,hb1⟩;obtain⟨q0,q1,q2,q3,q4⟩:=res2at _ w1 (w.heap.size+1+1) _ _ _ (.int .i64 1) (.int .i64 c) HBx.out hb1 (by simp))
   refine bodyPost_ret (results_row_tmp rfl _ _ (w.heap.size+1+1) 92 _ (0,0) _ rfl q4.out Tryz.underlying92 rfl (by kernel_rfl)) rfl ?_
   exact⟨OpP.yes HQ2.out,((HBl.out.trans (hb1.mono HBl.out.size)).setCell (by show w.heap.size≤w.heap.size+1+1;omega) _).setCell (by show w.heap.size≤w.heap.size+1+1;omega) _⟩
  ·have HQ2:Hid (opM 1 (1,a2) (1,b2)=none):=by show _=_;rw[HQ.out,if_neg (fun h=>h2 h.2)]
   have h2b:decide (c≤1000000000)=false:=by simp;omega
   go_enter Tryz.func211,Tryz.ntmps211
   go_wp2_with (go_at_call 210;refine (vnumber _ _).mono ?_;rintro e w1 ⟨rfl,hb1⟩;obtain⟨q0,q1,q2,q3,q4⟩:=res2at _ w1 (w.heap.size+1+1) _ _ _ (.int .i64 1) (.int .i64 c) HBx.out hb1 (by simp))
   refine bodyPost_ret (results_row_tmp rfl _ _ (w.heap.size+1+1) 92 _ (0,0) _ rfl q4.out Tryz.underlying92 rfl (by kernel_rfl)) rfl ?_
   exact⟨OpP.no HQ2.out,((HBl.out.trans (hb1.mono HBl.out.size)).setCell (by show w.heap.size≤w.heap.size+1+1;omega) _).setCell (by show w.heap.size≤w.heap.size+1+1;omega) _⟩
 ·have HQ2:Hid (opM 1 (1,a2) (1,b2)=none):=by show _=_;rw[HQ.out,if_neg (fun h=>h1 h.1)]
  go_enter Tryz.func211,Tryz.ntmps211
  go_wp2_with (go_at_call 210;refine (vnumber _ _).mono ?_;rintro e w1 ⟨rfl,hb1⟩;obtain⟨q0,q1,q2,q3,q4⟩:=res2at _ w1 (w.heap.size+1+1) _ _ _ (.int .i64 1) (.int .i64 c) HBx.out hb1 (by simp))
  refine bodyPost_ret (results_row_tmp rfl _ _ (w.heap.size+1+1) 92 _ (0,0) _ rfl q4.out Tryz.underlying92 rfl (by kernel_rfl)) rfl ?_
  exact⟨OpP.no HQ2.out,((HBl.out.trans (hb1.mono HBl.out.size)).setCell (by show w.heap.size≤w.heap.size+1+1;omega) _).setCell (by show w.heap.size≤w.heap.size+1+1;omega) _⟩
set_option maxHeartbeats 1000000 in
theorem operate2 (a2 b2:Int) (w:World) (ha : -1000000000≤a2∧a2≤1000000000) (hb : -1000000000≤b2∧b2≤1000000000) :
  Calls Tryz.prog 211 #[.int .i64 2,.agg #[.int .i64 1,.int .i64 a2],.agg #[.int .i64 1,.int .i64 b2]] w fun e w'=>OpP 2 (1,a2) (1,b2) e∧Below w.heap.size w w':=by
 have HQ:Hid (opM 2 (1,a2) (1,b2)=if -1000000000≤a2 - b2∧a2 - b2≤1000000000 then some (1,a2 - b2) else none):=opM_num (by decide) (by decide) rfl rfl
 obtain⟨HBx,HBl⟩:=op_boxes 1 a2 1 b2 w
 obtain⟨c,hc⟩:∃c,a2 - b2=c:=⟨_,rfl⟩
 have hw:IntKind.i64.wrap (a2 - b2)=c:=(Go.IntWalk.i64_in _ (by omega)).trans hc
 rw[hc]at HQ
 clear ha hb hc
 by_cases h1 : -1000000000≤c
 ·by_cases h2:c≤1000000000
  ·have HQ2:Hid (opM 2 (1,a2) (1,b2)=some (1,c)):=by show _=_;rw[HQ.out,if_pos ⟨h1,h2⟩]
   go_enter Tryz.func211,Tryz.ntmps211
   go_wp2_with (go_at_call 210;refine (vnumber _ _).mono ?_;rintro e w1 ⟨rfl,hb1⟩;obtain⟨q0,q1,q2,q3,q4⟩:=res2at _ w1 (w.heap.size+1+1) _ _ _ (.int .i64 1) (.int .i64 c) HBx.out hb1 (by simp))
   refine bodyPost_ret (results_row_tmp rfl _ _ (w.heap.size+1+1) 92 _ (0,0) _ rfl q4.out Tryz.underlying92 rfl (by kernel_rfl)) rfl ?_
   exact⟨OpP.yes HQ2.out,((HBl.out.trans (hb1.mono HBl.out.size)).setCell (by show w.heap.size≤w.heap.size+1+1;omega) _).setCell (by show w.heap.size≤w.heap.size+1+1;omega) _⟩
  ·have HQ2:Hid (opM 2 (1,a2) (1,b2)=none):=by show _=_;rw[HQ.out,if_neg (fun h=>h2 h.2)]
   have h2b:decide (c≤1000000000)=false:=by simp;omega
   go_enter Tryz.func211,Tryz.ntmps211
   go_wp2_with (go_at_call 210;refine (vnumber _ _).mono ?_;rintro e w1 ⟨rfl,hb1⟩;obtain⟨q0,q1,q2,q3,q4⟩:=res2at _ w1 (w.heap.size+1+1) _ _ _ (.int .i64 1) (.int .i64 c) HBx.out hb1 (by simp))
   refine bodyPost_ret (results_row_tmp rfl _ _ (w.heap.size+1+1) 92 _ (0,0) _ rfl q4.out Tryz.underlying92 rfl (by kernel_rfl)) rfl ?_
   exact⟨OpP.no HQ2.out,((HBl.out.trans (hb1.mono HBl.out.size)).setCell (by show w.heap.size≤w.heap.size+1+1;omega) _).setCell (by show w.heap.size≤w.heap.size+1+1;omega) _⟩
 ·have HQ2:Hid (opM 2 (1,a2) (1,b2)=none):=by show _=_;rw[HQ.out,if_neg (fun h=>h1 h.1)]
  go_enter Tryz.func211,Tryz.ntmps211
  go_wp2_with (go_at_call 210;refine (vnumber _ _).mono ?_;rintro e w1 ⟨rfl,hb1⟩;obtain⟨q0,q1,q2,q3,q4⟩:=res2at _ w1 (w.heap.size+1+1) _ _ _ (.int .i64 1) (.int .i64 c) HBx.out hb1 (by simp))
  refine bodyPost_ret (results_row_tmp rfl _ _ (w.heap.size+1+1) 92 _ (0,0) _ rfl q4.out Tryz.underlying92 rfl (by kernel_rfl)) rfl ?_
  exact⟨OpP.no HQ2.out,((HBl.out.trans (hb1.mono HBl.out.size)).setCell (by show w.heap.size≤w.heap.size+1+1;omega) _).setCell (by show w.heap.size≤w.heap.size+1+1;omega) _⟩
theorem mul_in {a b:Int} (ha : -1000000000≤a∧a≤1000000000) (hb : -1000000000≤b∧b≤1000000000) : -9223372036854775808≤a*b∧a*b≤9223372036854775807:=by
 have h1:(a.natAbs*b.natAbs:Nat)≤1000000000*1000000000:=Nat.mul_le_mul (by omega) (by omega)
 have h2:(a*b).natAbs=a.natAbs*b.natAbs:=Int.natAbs_mul a b
 omega
set_option maxHeartbeats 1000000 in
theorem operate3 (a2 b2:Int) (w:World) (ha : -1000000000≤a2∧a2≤1000000000) (hb : -1000000000≤b2∧b2≤1000000000) :
  Calls Tryz.prog 211 #[.int .i64 3,.agg #[.int .i64 1,.int .i64 a2],.agg #[.int .i64 1,.int .i64 b2]] w fun e w'=>OpP 3 (1,a2) (1,b2) e∧Below w.heap.size w w':=by
 have HQ:Hid (opM 3 (1,a2) (1,b2)=if -1000000000≤a2*b2∧a2*b2≤1000000000 then some (1,a2*b2) else none):=opM_num (by decide) (by decide) rfl rfl
 obtain⟨HBx,HBl⟩:=op_boxes 1 a2 1 b2 w
 obtain⟨c,hc⟩:∃c,a2*b2=c:=⟨_,rfl⟩
 have hw:IntKind.i64.wrap (a2*b2)=c:=(Go.IntWalk.i64_in _ (mul_in ha hb)).trans hc
 rw[hc]at HQ
 clear ha hb hc
 by_cases h1 : -1000000000≤c
 ·by_cases h2:c≤1000000000
  ·have HQ2:Hid (opM 3 (1,a2) (1,b2)=some (1,c)):=by show _=_;rw[HQ.out,if_pos ⟨h1,h2⟩]
   go_enter Tryz.func211,Tryz.ntmps211
   go_wp2_with (go_at_call 210;refine (vnumber _ _).mono ?_;rintro e w1 ⟨rfl,hb1⟩;obtain⟨q0,q1,q2,q3,q4⟩:=res2at _ w1 (w.heap.size+1+1) _ _ _ (.int .i64 1) (.int .i64 c) HBx.out hb1 (by simp))
   refine bodyPost_ret (results_row_tmp rfl _ _ (w.heap.size+1+1) 92 _ (0,0) _ rfl q4.out Tryz.underlying92 rfl (by kernel_rfl)) rfl ?_
   exact⟨OpP.yes HQ2.out,((HBl.out.trans (hb1.mono HBl.out.size)).setCell (by show w.heap.size≤w.heap.size+1+1;omega) _).setCell (by show w.heap.size≤w.heap.size+1+1;omega) _⟩
  ·have HQ2:Hid (opM 3 (1,a2) (1,b2)=none):=by show _=_;rw[HQ.out,if_neg (fun h=>h2 h.2)]
   have h2b:decide (c≤1000000000)=false:=by simp;omega
   go_enter Tryz.func211,Tryz.ntmps211
   go_wp2_with (go_at_call 210;refine (vnumber _ _).mono ?_;rintro e w1 ⟨rfl,hb1⟩;obtain⟨q0,q1,q2,q3,q4⟩:=res2at _ w1 (w.heap.size+1+1) _ _ _ (.int .i64 1) (.int .i64 c) HBx.out hb1 (by simp))
   refine bodyPost_ret (results_row_tmp rfl _ _ (w.heap.size+1+1) 92 _ (0,0) _ rfl q4.out Tryz.underlying92 rfl (by kernel_rfl)) rfl ?_
   exact⟨OpP.no HQ2.out,((HBl.out.trans (hb1.mono HBl.out.size)).setCell (by show w.heap.size≤w.heap.size+1+1;omega) _).setCell (by show w.heap.size≤w.heap.size+1+1;omega) _⟩
 ·have HQ2:Hid (opM 3 (1,a2) (1,b2)=none):=by show _=_;rw[HQ.out,if_neg (fun h=>h1 h.1)]
  go_enter Tryz.func211,Tryz.ntmps211
  go_wp2_with (go_at_call 210;refine (vnumber _ _).mono ?_;rintro e w1 ⟨rfl,hb1⟩;obtain⟨q0,q1,q2,q3,q4⟩:=res2at _ w1 (w.heap.size+1+1) _ _ _ (.int .i64 1) (.int .i64 c) HBx.out hb1 (by simp))
  refine bodyPost_ret (results_row_tmp rfl _ _ (w.heap.size+1+1) 92 _ (0,0) _ rfl q4.out Tryz.underlying92 rfl (by kernel_rfl)) rfl ?_
  exact⟨OpP.no HQ2.out,((HBl.out.trans (hb1.mono HBl.out.size)).setCell (by show w.heap.size≤w.heap.size+1+1;omega) _).setCell (by show w.heap.size≤w.heap.size+1+1;omega) _⟩
theorem operateM (op:Int) (a b:Int×Int) (nc:Nat) (w:World) (h1:1≤op) (h2:op≤5) (ha:chk a.1 a.2 nc=0) (hb:chk b.1 b.2 nc=0) :
  Calls Tryz.prog 211 #[.int .i64 op,.agg #[.int .i64 a.1,.int .i64 a.2],.agg #[.int .i64 b.1,.int .i64 b.2]] w fun e w'=>OpP op a b e∧Below w.heap.size w w':=by
 obtain⟨a1,a2⟩:=a
 obtain⟨b1,b2⟩:=b
 by_cases h5:op=5
 ·subst h5;exact operate5 a1 a2 b1 b2 w
 by_cases hk:¬a1=1∨¬b1=1
 ·exact operate_kinds op a1 a2 b1 b2 w h5 hk
 obtain rfl:a1=1:=by omega
 obtain rfl:b1=1:=by omega
 have ha:=chk_int ha
 have hb:=chk_int hb
 by_cases h4:op=4
 ·subst h4;exact operate4 a2 b2 w
 by_cases h3:op=3
 ·subst h3;exact operate3 a2 b2 w ha hb
 by_cases h22:op=2
 ·subst h22;exact operate2 a2 b2 w ha hb
 obtain rfl:op=1:=by omega
 exact operate1 a2 b2 w ha hb
end Go.Proofs.YtfaokaohhchdhaaGreatDoor
