/- A run at work in memory. -/
import Derived.Test.YtfaokaohhchdhaaGreatDoorPart12
import Derived.Deep.AppendLies
import Derived.Deep.RegionLaw
import Derived.Test.YtfaokaohhchdhaaGreatDoorPart11
import Derived.Laws.MakeOwn
import Derived.Deep.RegionWith
import Derived.Test.YtfaokaohhchdhaaGreatDoorVmCopied
namespace Go.Proofs.YtfaokaohhchdhaaGreatDoor
open Go.RowKit Go.Maps
structure RunAt (X B : Nat) (w : World) (pv fv cv sv : Value) (rv xv : List Value) (R : Rn) : Prop where
 box : w.heap[X]?=some (.cells #[pv,fv,cv,.int .i64 R.s.st,.int .i64 R.s.wh,sv,.bool R.paused] 81 (0,0))
 own : Own B w fv cv rv xv R.s
 sd : w.ownsRow B 3 1 sv R.said.length (R.said.map (Value.int .i64))
 hX : B≤X
section
variable {X B : Nat} {w w' : World} {pv fv cv sv : Value} {rv xv : List Value} {R : Rn}
theorem RunAt.lt (h : RunAt X B w pv fv cv sv rv xv R) : X < w.heap.size:=(Array.getElem?_eq_some_iff.1 h.box).1
theorem RunAt.cells (h : RunAt X B w pv fv cv sv rv xv R) : w.cell? ⟨X,0,none⟩=some pv∧w.cell? ⟨X,1,none⟩=some fv∧w.cell? ⟨X,2,none⟩=some cv∧w.cell? ⟨X,3,none⟩=some (.int .i64 R.s.st)∧w.cell? ⟨X,4,none⟩=some (.int .i64 R.s.wh)∧w.cell? ⟨X,5,none⟩=some sv∧w.cell? ⟨X,6,none⟩=some (.bool R.paused)∧∀ i,w.frozen? ⟨X,i,none⟩=false:=by
 have e : ∀ k,w.cell? ⟨X,k,none⟩=(#[pv,fv,cv,.int .i64 R.s.st,.int .i64 R.s.wh,sv,.bool R.paused] : Array Value)[k]?:=fun k => by
  unfold World.cell?; rw [h.box]; rfl
 exact ⟨e 0,e 1,e 2,e 3,e 4,e 5,e 6,fun i => by unfold World.frozen?; rw [h.box]; simp⟩
theorem RunAt.below (h : RunAt X B w pv fv cv sv rv xv R) (hb : Below w.heap.size w w') : RunAt X B w' pv fv cv sv rv xv R :=
 ⟨by rw [hb.block X h.lt]; exact h.box,h.own.below hb,ownsRow_block h.sd fun g hg => hb.block g (h.sd.lt g hg).2,h.hX⟩
theorem Own.frow {S : Sta} (h : Own B w fv cv rv xv S) (hn : ¬ S.fs.length=0) : ∃ g cap,fv=.slice (some ⟨g,0,none⟩) S.fs.length cap∧B≤g∧g < w.heap.size∧∀ i,w.frozen? ⟨g,i,none⟩=false:=by
 rcases h.fr.2 with ⟨_,h0⟩ | ⟨g,cap,cur,rfl,hg,hh,_⟩
 ·exact absurd h0 hn
 ·exact ⟨g,cap,rfl,hg,(Array.getElem?_eq_some_iff.1 hh).1,fun i => by unfold World.frozen?; rw [hh]; simp⟩
theorem Own.fcells {S : Sta} {g n cap : Nat} (h : Own B w (.slice (some ⟨g,0,none⟩) n cap) cv rv xv S) {i : Nat} (hi : i < S.fs.length) : ∃ u,rv[i]?=some u∧w.cell? ⟨g,i * 4,none⟩=some (.int .i64 (fmAt S.fs i).proc)∧w.cell? ⟨g,i * 4 + 1,none⟩=some (.int .i64 (fmAt S.fs i).pos)∧w.cell? ⟨g,i * 4 + 2,none⟩=some u∧w.cell? ⟨g,i * 4 + 3,none⟩=some (.int .i64 (fmAt S.fs i).to)∧VRow B w u (fmAt S.fs i).regs:=by
 have hn : S.fs.length=n:=by
  rcases h.fr.2 with ⟨h0,_⟩ | ⟨_,_,_,hv,_⟩
  ·cases h0
  ·injection hv with _ h2 _
   exact h2.symm
 subst hn
 have hl:=flatF_len S.fs rv h.rl
 obtain ⟨u,h0,h1,h2,h3,h4⟩:=flatF_at S.fs rv h.rl i hi
 obtain ⟨u',k0,k1⟩:=h.regs i hi
 rw [h0] at k0; cases k0
 exact ⟨u,h0,(h.fr.cellAt (i * 4) (by omega)).trans h1,(h.fr.cellAt (i * 4 + 1) (by omega)).trans h2,(h.fr.cellAt (i * 4 + 2) (by omega)).trans h3,(h.fr.cellAt (i * 4 + 3) (by omega)).trans h4,k1⟩
theorem VRow.vals {L : List (Int×Int)} {g n cap : Nat} (h : VRow B w (.slice (some ⟨g,0,none⟩) n cap) L) : (∀ k,k < L.length→w.cell? ⟨g,k * 2,none⟩=some (.int .i64 (L.getD k (0,0)).1)∧w.cell? ⟨g,k * 2 + 1,none⟩=some (.int .i64 (L.getD k (0,0)).2))∧(∀ i,w.frozen? ⟨g,i,none⟩=false)∧n=L.length∧B≤g∧g < w.heap.size:=by
 have hlen:=flatV_len L
 have hn : n=L.length:=by
  rcases h.2 with ⟨h0,_⟩ | ⟨_,_,_,hv,_⟩
  ·cases h0
  ·injection hv
 subst hn
 refine ⟨fun k hk => ?_,fun i => ?_,rfl,(h.lt g rfl).1,(h.lt g rfl).2⟩
 ·obtain ⟨f0,f1⟩:=flatV_at L k hk
  exact ⟨(World.ownsRow.cellAt h (k * 2) (by omega)).trans f0,(World.ownsRow.cellAt h (k * 2 + 1) (by omega)).trans f1⟩
 ·rcases h.2 with ⟨h0,_⟩ | ⟨g',cap',cur,hv,hg,hh,_⟩
  ·cases h0
  ·cases hv
   unfold World.frozen?; rw [hh]; simp
end
def RA (X B : Nat) (w : World) (pv : Value) (R : Rn) : Prop:=∃ fv cv sv rv xv,RunAt X B w pv fv cv sv rv xv R
theorem RA.below {X B : Nat} {w w' : World} {pv : Value} {R : Rn} (h : RA X B w pv R) (hb : Below w.heap.size w w') : RA X B w' pv R:=by
 obtain ⟨fv,cv,sv,rv,xv,h⟩:=h
 exact ⟨fv,cv,sv,rv,xv,h.below hb⟩
def Box (t : TypeId) (X : Nat) (w : World) (cs : Array Value) : Prop:=w.heap[X]?=some (.cells cs t (0,0))
theorem Box.cell {t : TypeId} {X : Nat} {w : World} {cs : Array Value} (h : Box t X w cs) (i : Nat) : w.cell? ⟨X,i,none⟩=cs[i]?:=by
 unfold Box at h; unfold World.cell?; rw [h]; rfl
theorem results_row_tmp {P : Program} {fn : Func} {p u : Tmp} {ty : TypeId} (h : fn.results=#[.cell p ty,.tmp u]) (tmps : Array Value) (w : World) (g : Nat) (t : TypeId) (cs : Array Value) (fr : Nat×Nat) (d : TypeDesc)
  (hp : tmps.getD p undef=.pointer (some ⟨g,0,none⟩)) (hg : w.heap[g]?=some (.cells cs t fr))
  (hu : P.underlying ty=some d) (hd : (match d with | .struct _ | .array _ _ => true | _ => false)=true) (hi : (P.info? ty).map (·.size)=some cs.size) :
  (results fn tmps).run P w=.ok (.tuple #[.agg cs,tmps.getD u undef]) w:=by
 have hp' : tmps[p]?.getD undef=.pointer (some ⟨g,0,none⟩):=by simpa using hp
 simp [results,h,hp',asAddr,run_loadVar_row w g t ty cs fr d hg hu hd hi]
theorem below_at {w w' : World} (hb : Below w.heap.size w w') {p : Addr} {v : Value} (h : w.cell? p=some v) : w'.cell? p=some v:=(hb.cell (cell_lt h)).trans h
structure TopAt (B : Nat) (w : World) (g m rb rc : Nat) (f : Fm) : Prop where
 c0 : w.cell? ⟨g,m * 4,none⟩=some (.int .i64 f.proc)
 c1 : w.cell? ⟨g,m * 4 + 1,none⟩=some (.int .i64 f.pos)
 c2 : w.cell? ⟨g,m * 4 + 2,none⟩=some (.slice (some ⟨rb,0,none⟩) f.regs.length rc)
 c3 : w.cell? ⟨g,m * 4 + 3,none⟩=some (.int .i64 f.to)
 r0 : ∀ k,k < f.regs.length→w.cell? ⟨rb,k * 2,none⟩=some (.int .i64 (f.regs.getD k (0,0)).1)
 r1 : ∀ k,k < f.regs.length→w.cell? ⟨rb,k * 2 + 1,none⟩=some (.int .i64 (f.regs.getD k (0,0)).2)
 gB : B≤g
 rB : B≤rb
 gl : g < w.heap.size
 rl : rb < w.heap.size
 gz : ∀ i,w.frozen? ⟨g,i,none⟩=false
 rz : ∀ i,w.frozen? ⟨rb,i,none⟩=false
theorem TopAt.below {B : Nat} {w w' : World} {g m rb rc : Nat} {f : Fm} (h : TopAt B w g m rb rc f) (hb : Below w.heap.size w w') : TopAt B w' g m rb rc f :=
 ⟨below_at hb h.c0,below_at hb h.c1,below_at hb h.c2,below_at hb h.c3,fun k hk => below_at hb (h.r0 k hk),fun k hk => below_at hb (h.r1 k hk),h.gB,h.rB,Nat.lt_of_lt_of_le h.gl hb.size,Nat.lt_of_lt_of_le h.rl hb.size,
  fun i => (hb.frozen (p:=⟨g,i,none⟩) h.gl).trans (h.gz i),fun i => (hb.frozen (p:=⟨rb,i,none⟩) h.rl).trans (h.rz i)⟩
theorem made_vals (n : Nat) : (madeCells #[.int .i64 0,.int .i64 0] (n * 2)).toList=flatV (List.replicate n (0,0)):=by
 apply List.ext_getElem?
 intro j
 have hl:=flatV_len (List.replicate n ((0,0) : Int×Int))
 rw [List.length_replicate] at hl
 by_cases hj : j < n * 2
 ·have hi : j / 2 < (List.replicate n ((0,0) : Int×Int)).length:=by rw [List.length_replicate]; omega
  obtain ⟨f0,f1⟩:=flatV_at (List.replicate n (0,0)) (j / 2) hi
  have e0 : fstAt (List.replicate n ((0,0) : Int×Int)) (j / 2)=0:=by unfold fstAt; rw [List.getD_eq_getElem?_getD,List.getElem?_eq_getElem hi,List.getElem_replicate]; rfl
  have e1 : sndAt (List.replicate n ((0,0) : Int×Int)) (j / 2)=0:=by unfold sndAt; rw [List.getD_eq_getElem?_getD,List.getElem?_eq_getElem hi,List.getElem_replicate]; rfl
  rw [e0] at f0
  rw [e1] at f1
  have hm : (madeCells #[.int .i64 0,.int .i64 0] (n * 2)).toList[j]?=some (.int .i64 0):=by
   rcases (show j % 2=0∨j % 2=1 by omega) with h | h <;> simp [madeCells,hj,h]
  rw [hm]
  rcases (show j % 2=0∨j % 2=1 by omega) with h | h
  ·rw [show j / 2 * 2=j by omega] at f0; exact f0.symm
  ·rw [show j / 2 * 2 + 1=j by omega] at f1; exact f1.symm
 ·rw [List.getElem?_eq_none (by rw [Array.length_toList,size_madeCells]; omega),List.getElem?_eq_none (by rw [hl]; omega)]
theorem mkVals (n : Nat) (h : n≤1000) (w : World) : Sem.run Tryz.prog (Instr.makeSlice 35 (.int .i64 n) (.int .i64 n)) w=.ok (.slice (some ⟨w.heap.size,0,none⟩) n n) (w.alloc (.cells (madeCells #[.int .i64 0,.int .i64 0] (n * 2)) 92)):=by
 obtain ⟨i0,hi,hz0,hz1,hz2⟩:=info_parts infoVal
 have hr:=run_make (P:=Tryz.prog) w 35 92 i0 _ Tryz.underlying35 hi hz0 .i64 .i64 n n (by omega) (Int.le_refl _) (by rw [hz2]; omega) (by omega)
 simp only [Int.toNat_natCast,hz1] at hr
 exact hr
theorem made_row (n : Nat) (h : n≤1000) (B : Nat) (w : World) (hB : B≤w.heap.size) : VRow B (w.alloc (.cells (madeCells #[.int .i64 0,.int .i64 0] (n * 2)) 92)) (.slice (some ⟨w.heap.size,0,none⟩) n n) (List.replicate n (0,0)):=by
 unfold VRow
 rw [← made_vals,List.length_replicate]
 exact World.ownsRow_lit w _ n hB (by unfold maxLen; omega) (by rw [size_madeCells])
theorem step_frame {ops : Array Oper} {o : Oper} {a : Act} {K : Act→World→Prop} {Q : Exit→Act→World→Prop} {E : Prop} (w : World) (hgd : o.guard=none) (s y : Operand)
  (ho : o.op=.call { callee:=.builtin .append,args:=#[s,y],argTypes:=#[23,23] }) (base n : Nat) (v : Value) (xs : List Value) (p q t : Int) (u : Value) (hs : a.eval s=v) (hown : w.ownsRow base 40 4 v n xs)
  (B : Nat) (hy : a.eval y=.slice (some ⟨B,0,none⟩) 1 1) (hc : w.heap[B]?=some (.cells #[.int .i64 p,.int .i64 q,u,.int .i64 t] 40 (0,0))) (hu : u.oneCell'=true) (hR : n≤100000) (hbase : base≤w.heap.size)
  (h : ∀ g cap w2,Hid (w2.ownsRow base 40 4 (.slice (some ⟨g,0,none⟩) (n + 1) cap) (n + 1) (xs ++ [.int .i64 p,.int .i64 q,u,.int .i64 t]))→Hid (w.grownBy w2 v.ownBlock)→K (a.put o.dst (.slice (some ⟨g,0,none⟩) (n + 1) cap)) w2) :
  if Region.wanted o (yielded ops a.tmps)=true then Oper.wp Tryz.prog o a w K Q else E:=by
 obtain ⟨i0,hi,hz0,hz1,hz2⟩:=info_parts infoFrame
 refine step_append_lies _ hgd s y 23 ho base 40 i0 (.agg #[.int .i64 0,.int .i64 0,.slice none 0 0,.int .i64 0]) 4 48 Tryz.underlying23 hi hz0 hz1 hz2 rfl (by decide) v _ _ hs hown ⟨B,0,none⟩ 1 1 [.int .i64 p,.int .i64 q,u,.int .i64 t] hy rfl (World.news_of_block hc) (fun x hx => ?_) (by decide) (by unfold maxLen; omega) (by omega) hbase _ rfl ?_
 ·simp only [List.mem_cons,List.not_mem_nil,or_false] at hx
  rcases hx with rfl | rfl | rfl | rfl
  ·rfl
  ·rfl
  ·exact hu
  ·rfl
 intro g cap w2 h1 h2 _ _
 exact h g cap w2 h1 h2
section
variable {X B : Nat} {w w' : World} {pv fv cv sv : Value} {rv xv : List Value} {R : Rn}
end
theorem nat_of {a : Int} (h : 0≤a) : ∃ n : Nat,a=n:=⟨a.toNat,by omega⟩
def OwnB (fv cv sv : Value) (rv xv : List Value) (k : Nat) : Prop :=
 fv.ownBlock=some k∨cv.ownBlock=some k∨sv.ownBlock=some k∨(∃ u,u ∈ rv∧Value.ownBlock u=some k)∨∃ u,u ∈ xv∧Value.ownBlock u=some k
section
variable {X B : Nat} {w w' : World} {pv fv cv sv : Value} {rv xv : List Value} {R : Rn}
end
def RI (A : Nat→Prop) (X B : Nat) (w : World) (pv : Value) (R : Rn) : Prop:=∃ fv cv sv rv xv,RunAt X B w pv fv cv sv rv xv R∧∀ k,OwnB fv cv sv rv xv k→A k
theorem RI.mono {A A' : Nat→Prop} {X B : Nat} {w : World} {pv : Value} {R : Rn} (h : RI A X B w pv R) (ha : ∀ k,A k→A' k) : RI A' X B w pv R:=by
 obtain ⟨fv,cv,sv,rv,xv,h,hk⟩:=h
 exact ⟨fv,cv,sv,rv,xv,h,fun k hh => ha k (hk k hh)⟩
theorem RA.le {X B : Nat} {w : World} {pv : Value} {R : Rn} (h : RA X B w pv R) : B≤w.heap.size:=by
 obtain ⟨_,_,_,_,_,h⟩:=h
 exact Nat.le_trans h.hX (Nat.le_of_lt h.lt)
theorem ProcsAt.ins {M : Nat} {w : World} {pv : Value} {np : Nat} {P : Nat→Pc} (h : ProcsAt M w pv np P) {k j : Nat} (hk : k < np) (hj : j < (P k).n) : ∃ pb poo pc cb co cc aa ac,pv=.slice (some ⟨pb,poo,none⟩) np pc∧pb < M∧cb < M∧w.cell? ⟨pb,poo + k * 3 + 1,none⟩=some (.int .i64 (P k).regs)∧w.cell? ⟨pb,poo + k * 3 + 2,none⟩=some (.slice (some ⟨cb,co,none⟩) (P k).n cc) ∧
  w.cell? ⟨cb,co + j * 5,none⟩=some (.int .i64 ((P k).ins j).op)∧w.cell? ⟨cb,co + j * 5 + 1,none⟩=some (.int .i64 ((P k).ins j).a)∧w.cell? ⟨cb,co + j * 5 + 2,none⟩=some (.int .i64 ((P k).ins j).b)∧w.cell? ⟨cb,co + j * 5 + 3,none⟩=some (.int .i64 ((P k).ins j).c)∧w.cell? ⟨cb,co + j * 5 + 4,none⟩=some (.slice aa ((P k).ins j).n ac)∧NumsAt M w (.slice aa ((P k).ins j).n ac) ((P k).ins j).n ((P k).ins j).z:=by
 obtain ⟨pa,pc,rfl,_,h | ⟨pb,poo,rfl,hpb,h⟩⟩:=h
 ·omega
 obtain ⟨vc,c0,c1,c2,hv⟩:=h k hk
 obtain ⟨ca,cc,rfl,_,hv | ⟨cb,co,rfl,hcb,hv⟩⟩:=hv
 ·omega
 obtain ⟨va,d0,d1,d2,d3,d4,hav⟩:=hv j hj
 have hav':=hav
 obtain ⟨aa,ac,rfl,_⟩:=hav'
 exact ⟨pb,poo,pc,cb,co,cc,aa,ac,rfl,hpb,hcb,c1,c2,d0,d1,d2,d3,d4,hav⟩
def StaPost (w : World) (S' : Sta) (e : Ending) (w' : World) : Prop :=
 ∃ fa nf fc ca nc cc rv xv,e=.returned (.tuple #[.agg #[.slice fa nf fc,.slice ca nc cc,.int .i64 S'.st,.int .i64 S'.wh],.int .i64 0])∧Own w.heap.size w' (.slice fa nf fc) (.slice ca nc cc) rv xv S'∧Below w.heap.size w w'
set_option maxRecDepth 20000 in
set_option maxHeartbeats 2000000 in
theorem vmNew_good (pb poo np pc n : Nat) (w W : World) (HW : Hid (w.alloc (.cells #[.slice none 0 0,.slice none 0 0,.int .i64 0,.int .i64 0] 26)=W)) (HC : Hid (Calls Tryz.prog 43 #[.slice (some ⟨pb,poo,none⟩) np pc] W fun e w' => e=.returned (.int .i64 0)∧Below W.heap.size W w')) (HY : Hid (Box4 26 w.heap.size W (.slice none 0 0) (.slice none 0 0) (.int .i64 0) (.int .i64 0))) (HYs : Hid (w.heap.size < W.heap.size)) (HB : Hid (Below w.heap.size w W))
  (HR : Hid (∀ wi,Below W.heap.size W wi→wi.cell? ⟨pb,poo + 1,none⟩=some (.int .i64 n))) (hnp : 0 < np) (hn : n≤1000) :
  Calls Tryz.prog 12 #[.slice (some ⟨pb,poo,none⟩) np pc] w (StaPost w ⟨[⟨0,0,List.replicate n (0,0),0⟩],[],0,0⟩):=by
 have hmk:=mkVals n hn
 have hi0 : (0 : Int) < (np : Int):=by omega
 have HN : Hid (n≤1000):=hn
 go_enter Tryz.func12,Tryz.ntmps12
 go_upto_region 1 with (fail)
 rw [HW.out]
 go_upto_region 4 with (go_at_call 43; refine HC.out.mono ?_; rintro e w1 ⟨rfl,hb1⟩)
 have q0:=HR.out w1 hb1
 have HB1 : Hid (Below w.heap.size w w1):=below_step HB.out hb1
 have HY1 : Hid (∀ wi,Below w1.heap.size w1 wi→Box4 26 w.heap.size wi (.slice none 0 0) (.slice none 0 0) (.int .i64 0) (.int .i64 0)):=fun wi hw => HY.out.keep ((hw.block _ (Nat.lt_of_lt_of_le HYs.out hb1.size)).trans (hb1.block _ HYs.out))
 have HA : Hid (∀ o o',Below w1.heap.size w1 ((w1.alloc o).alloc o')):=fun o o' => below_step (below_alloc _ _) (below_alloc _ _)
 have a0:=fun o o' => (HY1.out _ (HA.out o o')).at.1
 have a1:=fun o o' => (HY1.out _ (HA.out o o')).at.2.1
 have a2:=fun o o' => (HY1.out _ (HA.out o o')).at.2.2.1
 have a3:=fun o o' => (HY1.out _ (HA.out o o')).at.2.2.2.1
 have a40:=fun o o' => (HY1.out _ (HA.out o o')).at.2.2.2.2 0
 have a41:=fun o o' => (HY1.out _ (HA.out o o')).at.2.2.2.2 1
 have a42:=fun o o' => (HY1.out _ (HA.out o o')).at.2.2.2.2 2
 have a43:=fun o o' => (HY1.out _ (HA.out o o')).at.2.2.2.2 3
 have HF : Hid (∀ o o' x,((((((w1.alloc o).alloc o').setCell ⟨w.heap.size,0,none⟩ x).setCell ⟨w.heap.size,1,none⟩ (.slice none 0 0)).setCell ⟨w.heap.size,2,none⟩ (.int .i64 0)).setCell ⟨w.heap.size,3,none⟩ (.int .i64 0)).heap[w.heap.size]?=some (.cells #[x,.slice none 0 0,.int .i64 0,.int .i64 0] 26 (0,0))):=fun o o' x => by
  have h0:=HY1.out _ (HA.out o o')
  unfold Box4 at h0
  have h1:=heap_setCell_same _ w.heap.size 0 _ _ x h0
  have h2:=heap_setCell_same _ w.heap.size 1 _ _ (.slice none 0 0) h1
  have h3:=heap_setCell_same _ w.heap.size 2 _ _ (.int .i64 0) h2
  exact heap_setCell_same _ w.heap.size 3 _ _ (.int .i64 0) h3
 have HE : Hid (∀ x,Own w.heap.size ((((((w1.alloc (.cells (madeCells #[.int .i64 0,.int .i64 0] (n * 2)) 92)).alloc (.cells #[.int .i64 0,.int .i64 0,.slice (some ⟨w1.heap.size,0,none⟩) n n,.int .i64 0] 40)).setCell ⟨w.heap.size,0,none⟩ x).setCell ⟨w.heap.size,1,none⟩ (.slice none 0 0)).setCell ⟨w.heap.size,2,none⟩ (.int .i64 0)).setCell ⟨w.heap.size,3,none⟩ (.int .i64 0)) (.slice (some ⟨w1.heap.size + 1,0,none⟩) 1 1) (.slice none 0 0) [.slice (some ⟨w1.heap.size,0,none⟩) n n] [] ⟨[⟨0,0,List.replicate n (0,0),0⟩],[],0,0⟩):=fun x => by
  have hYl : w.heap.size < w1.heap.size:=Nat.lt_of_lt_of_le HYs.out hb1.size
  have hs1 : (w1.alloc (.cells (madeCells #[.int .i64 0,.int .i64 0] (n * 2)) 92)).heap.size=w1.heap.size + 1:=by simp
  have r1 : VRow (w.heap.size + 1) ((w1.alloc (.cells (madeCells #[.int .i64 0,.int .i64 0] (n * 2)) 92)).alloc (.cells #[.int .i64 0,.int .i64 0,.slice (some ⟨w1.heap.size,0,none⟩) n n,.int .i64 0] 40)) (.slice (some ⟨w1.heap.size,0,none⟩) n n) (List.replicate n (0,0)):=World.ownsRow.alloc (made_row n HN.out (w.heap.size + 1) w1 (by omega)) _
  have r2 : World.ownsRow ((w1.alloc (.cells (madeCells #[.int .i64 0,.int .i64 0] (n * 2)) 92)).alloc (.cells #[.int .i64 0,.int .i64 0,.slice (some ⟨w1.heap.size,0,none⟩) n n,.int .i64 0] 40)) (w.heap.size + 1) 40 4 (.slice (some ⟨w1.heap.size + 1,0,none⟩) 1 1) 1 [.int .i64 0,.int .i64 0,.slice (some ⟨w1.heap.size,0,none⟩) n n,.int .i64 0]:=by
   have:=World.ownsRow_lit (w1.alloc (.cells (madeCells #[.int .i64 0,.int .i64 0] (n * 2)) 92)) (base:=w.heap.size + 1) (e:=40) (size:=4) #[.int .i64 0,.int .i64 0,.slice (some ⟨w1.heap.size,0,none⟩) n n,.int .i64 0] 1 (by omega) (by decide) rfl
   rw [hs1] at this
   exact this
  have hO : Own (w.heap.size + 1) ((w1.alloc (.cells (madeCells #[.int .i64 0,.int .i64 0] (n * 2)) 92)).alloc (.cells #[.int .i64 0,.int .i64 0,.slice (some ⟨w1.heap.size,0,none⟩) n n,.int .i64 0] 40)) (.slice (some ⟨w1.heap.size + 1,0,none⟩) 1 1) (.slice none 0 0) [.slice (some ⟨w1.heap.size,0,none⟩) n n] [] ⟨[⟨0,0,List.replicate n (0,0),0⟩],[],0,0⟩:=by
   refine ⟨r2,World.ownsRow_nil _ _ _ _,rfl,fun i hi => ?_,fun i hi => absurd hi (Nat.not_lt_zero _),fun i j u u' b hi hj _ _ => ?_,fun i j u u' b hi => by simp at hi,fun i j u u' b _ hj => by simp at hj⟩
   ·have hi : i < 1:=hi
    obtain rfl : i=0:=by omega
    exact ⟨_,rfl,r1⟩
   ·have h1:=(List.getElem?_eq_some_iff.1 hi).1
    have h2:=(List.getElem?_eq_some_iff.1 hj).1
    simp only [List.length_cons,List.length_nil] at h1 h2
    omega
  refine (hO.stay fun k hk _ => ?_).lower (by omega)
  have hne : ¬ k=w.heap.size:=by omega
  exact (((Below.heap_setCell _ _ _ _ hne).trans (Below.heap_setCell _ _ _ _ hne)).trans (Below.heap_setCell _ _ _ _ hne)).trans (Below.heap_setCell _ _ _ _ hne)
 clear hb1
 go_wp2
 refine bodyPost_ret (results_row_tmp rfl _ _ w.heap.size 26 _ (0,0) _ rfl (HF.out _ _ _) Tryz.underlying26 rfl (by kernel_rfl)) rfl ?_
 exact ⟨_,_,_,_,_,_,_,_,rfl,HE.out _,((((HB1.out.trans ((HA.out _ _).mono HB1.out.size)).setCell (Nat.le_refl _) _).setCell (Nat.le_refl _) _).setCell (Nat.le_refl _) _).setCell (Nat.le_refl _) _⟩
end Go.Proofs.YtfaokaohhchdhaaGreatDoor
