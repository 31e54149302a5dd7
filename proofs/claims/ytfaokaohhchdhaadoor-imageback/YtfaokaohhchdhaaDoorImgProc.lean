/- readProc: a procedure of a text, by the program. -/
import Derived.Test.YtfaokaohhchdhaaDoorImgMem
import Derived.Test.YtfaokaohhchdhaaDoorTaking
import Derived.Deep.RegionHeld3
namespace Go.Proofs.YtfaokaohhchdhaaDoor
open Go.RowKit Go.Maps

theorem But.new {S : Nat} {w w1 : World} (h : But S w w1) {R : Nat} (hR : w.heap.size ≤ R) (i : Nat) (v : Value) : But S w (w1.setCell ⟨R,i,none⟩ v):=by
 have hb : Below R w1 (w1.setCell ⟨R,i,none⟩ v):=(Below.refl R w1).setCell (Nat.le_refl _) _
 exact ⟨hb.os.trans h.os,hb.tape.trans h.tape,hb.output.trans h.output,Nat.le_trans h.size hb.size,fun k hk hx => (Below.heap_setCell w1 ⟨R,i,none⟩ v k (by show ¬ k = R; omega)).trans (h.block k hk hx)⟩

theorem SB.but {S : Nat} {w : World} {s : ByteArray} (h : SB S w s) {R : Nat} (hR : ¬ S = R) (i : Nat) (v : Value) : SB S (w.setCell ⟨R,i,none⟩ v) s:=by
 unfold SB at *
 rw [Below.heap_setCell w ⟨R,i,none⟩ v S hR]; exact h

theorem procL_head {s : List UInt8} (h : ¬ ((nextL s).1.length = 3∧1 ≤ (nextL s).1.getD 2 0∧(nextL s).1.getD 2 0 ≤ 2000)) : procL s = none:=by unfold procL; rw [if_neg h]
theorem procL_lines {s : List UInt8} (h : (nextL s).1.length = 3∧1 ≤ (nextL s).1.getD 2 0∧(nextL s).1.getD 2 0 ≤ 2000) : procL s = (takeL ((nextL s).1.getD 2 0).toNat (nextL s).2).map fun r => (mkPc (nextL s).1 r.1,r.2):=by unfold procL; rw [if_pos h]

theorem takeL_bad {k : Nat} {s : List UInt8} (h : (nextL s).1.length < 4) : takeL (k + 1) s = none:=by unfold takeL; rw [if_pos h]
theorem takeL_good {k : Nat} {s : List UInt8} (h : ¬ (nextL s).1.length < 4) : takeL (k + 1) s = (takeL k (nextL s).2).map fun r => ((nextL s).1 :: r.1,r.2):=by
 rw [takeL,if_neg h]

theorem row_set {w : World} {R : Nat} {a b c : Value} {t : TypeId} (h : w.heap[R]? = some (.cells #[a,b,c] t (0,0))) (x y z : Value) :
  (((w.setCell ⟨R,0,none⟩ x).setCell ⟨R,1,none⟩ y).setCell ⟨R,2,none⟩ z).heap[R]? = some (.cells #[x,y,z] t (0,0)):=by
 have h1:=heap_setCell_same w R 0 _ _ x h
 have h2:=heap_setCell_same _ R 1 _ _ y h1
 have h3:=heap_setCell_same _ R 2 _ _ z h2
 rw [h3]; rfl

theorem res94 (tmps : Array Value) (w : World) (g : Nat) (x y z : Value) (b : Bool) (hp : tmps.getD 2 undef = .pointer (some ⟨g,0,none⟩)) (hb : tmps.getD 3 undef = .bool b) (hg : w.heap[g]? = some (.cells #[x,y,z] 58 (0,0))) :
  (results Tryd.f53 tmps).run Tryd.prog w = .ok (.tuple #[.agg #[x,y,z],.bool b]) w:=by
 have hp' : tmps[2]?.getD undef = .pointer (some ⟨g,0,none⟩):=by simpa using hp
 have hb' : tmps[3]?.getD undef = .bool b:=by simpa using hb
 simp [results,Tryd.results53,hp',hb',asAddr,run_loadVar_row w g 58 58 #[x,y,z] (0,0) _ hg Tryd.underlying58 rfl (by kernel_rfl)]

theorem but_row {S : Nat} {w w1 : World} (h : But S w w1) {R : Nat} (hR : w.heap.size ≤ R) (x y z : Value) : But S w (((w1.setCell ⟨R,0,none⟩ x).setCell ⟨R,1,none⟩ y).setCell ⟨R,2,none⟩ z):=((h.new hR 0 x).new hR 1 y).new hR 2 z

theorem blk_ne {w : World} {a b : Nat} {c d : Array Value} {t u : TypeId} {f g : Nat × Nat} (h : w.heap[a]? = some (.cells c t f)) (k : w.heap[b]? = some (.cells d u g)) (ht : ¬ t = u) : ¬ a = b:=by
 rintro rfl
 rw [h] at k
 injection k with k
 injection k with _ h2 _
 exact ht h2

theorem CodeRow.row {C : Nat} {w : World} {v : Value} {l : List (List Int × Value)} (h : CodeRow C w v l) : ∀ g,v.ownBlock = some g→C ≤ g∧∃ cur,w.heap[g]? = some (.cells cur 60 (0,0)):=by
 intro g hg
 rcases h.1.2 with ⟨rfl,_⟩ | ⟨g',cap,cur,rfl,hC,h2,_⟩
 ·cases hg
 ·cases hg
  exact ⟨hC,cur,h2⟩

/-- A row of numbers,and those behind the first four. -/
theorem IS.args {B : Nat} {w : World} {v : Value} {l : List Int} (h : IS B w v l) (h4 : 4 ≤ l.length) (hl : l.length ≤ 1000000) : ∃ g cap av,v = .slice (some ⟨g,0,none⟩) l.length cap∧B ≤ g∧(∃ cur,w.heap[g]? = some (.cells cur 3 (0,0)))∧(∀ i z,l[i]? = some z→w.cell? ⟨g,i,none⟩ = some (.int .i64 z)) ∧
  (∀ wi : World,(Instr.slice 22 (.slice (some ⟨g,0,none⟩) l.length cap) (some (.int .i64 4)) none none).run Tryd.prog wi = .ok av wi)∧ArgsAt w av (l.length - 4) (fun j => l.getD (j + 4) 0):=by
 obtain ⟨a0,c0,e0,hat⟩:=h.at
 rcases h.2 with ⟨rfl,h0⟩ | ⟨g,cap,cur,rfl,h1,h2,h3,_,_,ht⟩
 ·omega
 have hcell : ∀ i z,l[i]? = some z→w.cell? ⟨g,i,none⟩ = some (.int .i64 z):=by
  rcases hat with h | ⟨g',e,_,_,h⟩
  ·rw [h] at h4; simp at h4
  ·injection e0 with ea _ _
   rw [← ea] at e
   cases e
   exact h
 refine ⟨g,cap,.slice (some ⟨g,if cap = 4 then 0 else 0 + 4,none⟩) (l.length - 4) (cap - 4),rfl,h1,⟨cur,h2⟩,hcell,fun wi => ?_,?_⟩
 ·simp [Instr.slice,Instr.sliceBounds,Instr.sliceBound,asIntOf,run_underlying Tryd.underlying22,go_sem]
  rw [if_pos (by omega)]
  by_cases c : cap = 4
  ·rw [if_pos c,if_pos c]
  ·rw [if_neg c,if_neg c]
 ·refine ⟨_,_,rfl,by omega,?_⟩
  by_cases e : l.length - 4 = 0
  ·exact Or.inl e
  ·refine Or.inr ⟨g,_,cur,rfl,h2,fun i hi => ?_⟩
   rw [if_neg (by omega),Nat.zero_add]
   have hz : l[i + 4]? = some (l.getD (i + 4) 0):=by simp [show i + 4 < l.length by omega]
   have:=hcell (i + 4) _ hz
   unfold World.cell? at this
   rw [h2] at this
   rw [Nat.add_comm]
   exact this

theorem infoIns : (Tryd.prog.info? 60).map (fun i => (i.zero,i.size,i.bytes)) = some (some (.agg #[.int .i64 0,.int .i64 0,.int .i64 0,.int .i64 0,.slice none 0 0]),5,56):=by kernel_rfl

/-- An instruction more. -/
theorem wp_append_ins {o : Oper} {a : Act} {K : Act→World→Prop} {Q : Exit→Act→World→Prop} (W : World) (s y : Operand) (ho : o.op = .call { callee:=.builtin .append,args:=#[s,y],argTypes:=#[56,56] })
  (C : Nat) (cv : Value) (items : List (List Int × Value)) (x1 x2 x3 x4 : Int) (av : Value) (hav : ∃ b n c,av = .slice b n c) (hs : a.eval s = cv) (hown : CodeRow C W cv items) (B : Nat) (hB : W.heap.size = B) (hy : a.eval y = .slice (some ⟨B,0,none⟩) 1 1) (hl : items.length ≤ 100000) (hC : C ≤ W.heap.size)
  (h : ∀ ad cap w2,w2.ownsRow C 60 5 (.slice ad (items.length + 1) cap) (items.length + 1) (flatI items ++ [.int .i64 x1,.int .i64 x2,.int .i64 x3,.int .i64 x4,av])→(W.alloc (.cells #[.int .i64 x1,.int .i64 x2,.int .i64 x3,.int .i64 x4,av] 60)).grownBy w2 cv.ownBlock→K (a.put o.dst (.slice ad (items.length + 1) cap)) w2) :
  o.wp Tryd.prog a (W.alloc (.cells #[.int .i64 x1,.int .i64 x2,.int .i64 x3,.int .i64 x4,av] 60)) K Q:=by
 subst hB
 obtain ⟨i0,hi,hz0,hz1,hz2⟩:=info_parts infoIns
 obtain ⟨ab,an,ac,rfl⟩:=hav
 refine wp_append_own _ s y 56 ho C 60 i0 (.agg #[.int .i64 0,.int .i64 0,.int .i64 0,.int .i64 0,.slice none 0 0]) 5 56 Tryd.underlying56 hi hz0 hz1 hz2 rfl (by decide) cv _ _ hs (own_keep hown.1 (Keeps.of (below_alloc W _))) ⟨W.heap.size,0,none⟩ 1 1 [.int .i64 x1,.int .i64 x2,.int .i64 x3,.int .i64 x4,.slice ab an ac] hy rfl (fun j u hj => ?_) (fun u hu => ?_) (by unfold maxLen; omega) (by omega) (Nat.le_trans hC (below_alloc W _).size) ?_
 ·rw [WideShapes.add_plain,Nat.zero_add,World.cell?_alloc_new]
  simpa using hj
 ·simp only [List.mem_cons,List.mem_nil_iff,or_false] at hu
  rcases hu with rfl | rfl | rfl | rfl | rfl <;> rfl
 ·intro v' w2 h1 h2 _
  obtain ⟨ad,cap,rfl⟩:=own_shape h1
  exact h ad cap w2 h1 h2

/-- What stays and what comes,where an instruction is put behind the others. -/
theorem proc_step {S Q R C g : Nat} {w w3 w2 : World} {sb : ByteArray} {x0 x1 : Int} {cv : Value} {cr gr : Array Value} {items : List (List Int × Value)} {cs : Array Value} (hB : But S w w3) (hS : SB S w3 sb) (hQ : w3.heap[Q]? = some (.cells #[.int .i64 x0,.int .i64 x1,cv] 58 (0,0))) (hR : w3.heap[R]? = some (.cells cr 58 (0,0)))
  (hg : w3.heap[g]? = some (.cells gr 3 (0,0))) (hrow : CodeRow C w3 cv items) (hC : w.heap.size ≤ C) (hgr : (w3.drew.alloc (.cells cs 60)).grownBy w2 cv.ownBlock) :
  But S w w2∧SB S w2 sb∧w2.heap[Q]? = some (.cells #[.int .i64 x0,.int .i64 x1,cv] 58 (0,0))∧w2.heap[R]? = some (.cells cr 58 (0,0))∧w2.heap[g]? = some (.cells gr 3 (0,0))∧Keeps 3 w3 w2:=by
 have hb : Below w3.heap.size w3 (w3.drew.alloc (.cells cs 60)):=below_step ((Below.refl _ _).drew) (below_alloc _ _)
 have hrw:=hrow.row
 have keep : ∀ (k : Nat) (o : Obj),w3.heap[k]? = some o→(∀ c,¬ o = Obj.cells c 60 (0,0))→w2.heap[k]? = some o:=fun k o hk ho => by
  have hlt:=(Array.getElem?_eq_some_iff.1 hk).1
  rw [hgr.block k (Nat.lt_of_lt_of_le hlt hb.size) ?_,hb.block k hlt]
  ·exact hk
  ·intro e
   obtain ⟨_,cur,hc⟩:=hrw k e.symm
   rw [hc] at hk
   injection hk with hk
   exact ho cur hk.symm
 refine ⟨⟨hgr.os.trans (hb.os.trans hB.os),hgr.tape.trans (hb.tape.trans hB.tape),hgr.output.trans (hb.output.trans hB.output),Nat.le_trans hB.size (Nat.le_trans hb.size hgr.size),fun k hk hx => ?_⟩,keep _ _ hS (fun c e => by injection e with _ e2 _; exact absurd e2 (by decide)),keep _ _ hQ (fun c e => by injection e with _ e2 _; exact absurd e2 (by decide)),keep _ _ hR (fun c e => by injection e with _ e2 _; exact absurd e2 (by decide)),keep _ _ hg (fun c e => by injection e with _ e2 _; exact absurd e2 (by decide)),fun k cur hk => keep k _ hk (fun c e => by injection e with _ e2 _; exact absurd e2 (by decide))⟩
 have hk3:=Nat.lt_of_lt_of_le hk hB.size
 rw [hgr.block k (Nat.lt_of_lt_of_le hk3 hb.size) ?_,hb.block k hk3]
 ·exact hB.block k hk hx
 ·intro e
  have:=(hrw k e.symm).1
  omega

/-- .. and is stored. -/
theorem proc_store {S Q R C : Nat} {w w2 : World} {sb : ByteArray} {x0 x1 : Int} {cv v' : Value} {cr : Array Value} {items : List (List Int × Value)} {l : List Int} {av : Value} (hB : But S w w2) (hS : SB S w2 sb) (hQ : w2.heap[Q]? = some (.cells #[.int .i64 x0,.int .i64 x1,cv] 58 (0,0))) (hR : w2.heap[R]? = some (.cells cr 58 (0,0))) (hQR : ¬ R = Q) (hwQ : w.heap.size ≤ Q)
  (hown : w2.ownsRow C 60 5 v' (items.length + 1) (flatI items ++ [.int .i64 (l.getD 0 0),.int .i64 (l.getD 1 0),.int .i64 (l.getD 2 0),.int .i64 (l.getD 3 0),av])) (hi : ∀ x ∈ items,ArgsAt w2 x.2 (x.1.length - 4) (fun j => x.1.getD (j + 4) 0)) (ha : ArgsAt w2 av (l.length - 4) (fun j => l.getD (j + 4) 0)) :
  But S w (w2.setCell ⟨Q,2,none⟩ v')∧SB S (w2.setCell ⟨Q,2,none⟩ v') sb∧(w2.setCell ⟨Q,2,none⟩ v').heap[Q]? = some (.cells #[.int .i64 x0,.int .i64 x1,v'] 58 (0,0))∧(w2.setCell ⟨Q,2,none⟩ v').heap[R]? = some (.cells cr 58 (0,0))∧CodeRow C (w2.setCell ⟨Q,2,none⟩ v') v' (items ++ [(l,av)]):=by
 have hk3 : Keeps 3 w2 (w2.setCell ⟨Q,2,none⟩ v'):=Keeps.set hQ v' (by decide)
 have hk8 : Keeps 60 w2 (w2.setCell ⟨Q,2,none⟩ v'):=Keeps.set hQ v' (by decide)
 refine ⟨hB.new hwQ 2 v',hS.but (blk_ne hS hQ (by decide)) 2 v',?_,?_,?_,fun x hx => ?_⟩
 ·rw [heap_setCell_same w2 Q 2 _ _ v' hQ]; rfl
 ·rw [Below.heap_setCell w2 ⟨Q,2,none⟩ v' R hQR]; exact hR
 ·rw [List.length_append,flatI_snoc]
  exact own_keep hown hk8
 ·rcases List.mem_append.1 hx with hx | hx
  ·exact (hi x hx).stay hk3
  ·rw [List.mem_singleton] at hx
   subst hx
   exact ha.stay hk3

theorem heap_lt_alloc {w : World} {o : Obj} {g : Nat} (h : g < w.heap.size) : (w.drew.alloc o).heap[g]? = w.heap[g]?:=(below_alloc w.drew o).block g h

theorem heap_lt_alloc2 {w : World} {o : Obj} {g : Nat} (h : g < w.heap.size) : (w.alloc o).drew.heap[g]? = w.heap[g]?:=(below_alloc w o).block g h

theorem numsOf_few (l : List UInt8) : (numsOf l).length ≤ l.length + 1:=by
 unfold numsOf
 split
 ·rw [List.length_map]; exact splitC_many 32 l
 ·simp

theorem nums_few (s : List UInt8) (h : s.length ≤ 100000) : (nextL s).1.length ≤ 1000000:=by
 unfold nextL
 cases e : (cutAt 10 s).2 with
 | none => simp
 | some r =>
  obtain ⟨e1,_⟩:=cutAt_some 10 (l:=s) (x:=(cutAt 10 s).1) (r:=r) (by rw [← e])
  have h2:=congrArg List.length e1
  simp only [List.length_append,List.length_cons] at h2
  have h3:=numsOf_few (cutAt 10 s).1
  simp only []
  omega

/-- What readProc leaves. -/
def ProcPost (S : Nat) (s : ByteArray) (w : World) (e : Ending) (w' : World) : Prop :=
 (procL s.data.toList = none∧e = .returned (.tuple #[.agg #[.int .i64 0,.int .i64 0,.slice none 0 0],.bool false]) ∨
   ∃ r a c,procL s.data.toList = some r∧e = .returned (.tuple #[.agg #[.int .i64 r.1.params,.int .i64 r.1.regs,.slice a r.1.n c],.bool true])∧CodeHeap w' (.slice a r.1.n c) r.1.n r.1.ins∧SB S w' (bs r.2))∧But S w w'

theorem ProcPost.no {S : Nat} {s : ByteArray} {w w' : World} (h : procL s.data.toList = none) (hb : But S w w') : ProcPost S s w (.returned (.tuple #[.agg #[.int .i64 0,.int .i64 0,.slice none 0 0],.bool false])) w':=⟨Or.inl ⟨h,rfl⟩,hb⟩
theorem ProcPost.yes {S : Nat} {s : ByteArray} {w w' : World} {r : Pc × List UInt8} {a : Option Addr} {c : Nat} (h : procL s.data.toList = some r) (h1 : CodeHeap w' (.slice a r.1.n c) r.1.n r.1.ins) (h2 : SB S w' (bs r.2)) (hb : But S w w') :
  ProcPost S s w (.returned (.tuple #[.agg #[.int .i64 r.1.params,.int .i64 r.1.regs,.slice a r.1.n c],.bool true])) w':=⟨Or.inr ⟨r,a,c,h,rfl,h1,h2⟩,hb⟩

set_option maxRecDepth 20000 in
set_option maxHeartbeats 4000000 in
theorem readProc (N S : Nat) (s : ByteArray) (hs : s.size ≤ 100000) (w : World) (hNS : N ≤ S) (he : NEnv N w) (hS : SB S w s) :
  Calls Tryd.prog 53 #[.func (.func 51) #[] #[.pointer (some ⟨S,0,none⟩)]] w fun e w' => ProcPost S s w e w':=by
 have HE : Hid (NEnv N w):=he
 have HS : Hid (SB S w s):=hS
 have hSl:=hS.lt
 have HNx : Hid (∀ w1 (s1 : ByteArray),But S w w1→SB S w1 s1→s1.size ≤ 100000→Calls Tryd.prog 51 #[.pointer (some ⟨S,0,none⟩)] w1 fun e w' => ∃ v,e = .returned v∧Hid (IS w1.heap.size w' v (nextL s1.data.toList).1)∧Hid (SB S w' (bs (nextL s1.data.toList).2))∧Hid (But S w1 w')):=fun w1 s1 hb h1 hs1 =>
  nextC N S s1 hs1 w1 hNS (HE.out.below (hb.low hNS (by omega))) h1
 have HW0 : Hid (∀ o : Obj,But S w (w.alloc o)∧SB S (w.alloc o) s):=fun o => ⟨But.of (below_alloc w o),hS.keep (below_alloc w o)⟩
 clear he hS
 go_enter Tryd.func53,Tryd.ntmps53
 go_upto_region 2 with (first
  | (go_at_call 51; refine (HNx.out _ s (HW0.out _).1 (HW0.out _).2 hs).mono ?_; rintro e w1 ⟨hv,rfl,HI,HS1,HB1⟩))
 have hsW : (w.alloc (.cells #[.int .i64 0,.int .i64 0,.slice none 0 0] 58)).heap.size = w.heap.size + 1:=by simp
 have HR1 : Hid (w1.heap[w.heap.size]? = some (.cells #[.int .i64 0,.int .i64 0,.slice none 0 0] 58 (0,0))):=by
  show _ = _
  rw [HB1.out.block w.heap.size (by omega) (by omega)]
  exact heap_alloc_new w _
 have HB1w : Hid (But S w w1):=(HW0.out _).1.trans HB1.out
 have hw1 : w.heap.size < w1.heap.size:=by have:=HB1.out.size; omega
 have k0 : w1.cell? ⟨w.heap.size,0,none⟩ = some (.int .i64 0):=by unfold World.cell?; rw [HR1.out]; rfl
 have k1 : w1.cell? ⟨w.heap.size,1,none⟩ = some (.int .i64 0):=by unfold World.cell?; rw [HR1.out]; rfl
 have k2 : w1.cell? ⟨w.heap.size,2,none⟩ = some (.slice none 0 0):=by unfold World.cell?; rw [HR1.out]; rfl
 have kf : ∀ i,w1.frozen? ⟨w.heap.size,i,none⟩ = false:=fun i => by unfold World.frozen?; rw [HR1.out]; simp
 obtain ⟨ah,ch,rfl,hcells⟩:=HI.out.at
 have HL : Hid (takeL ((nextL s.data.toList).1.getD 2 0).toNat (nextL s.data.toList).2 = takeL ((nextL s.data.toList).1.getD 2 0).toNat (nextL s.data.toList).2):=rfl
 have HHead : Hid (¬ ((nextL s.data.toList).1.length = 3∧1 ≤ (nextL s.data.toList).1.getD 2 0∧(nextL s.data.toList).1.getD 2 0 ≤ 2000)→procL s.data.toList = none):=procL_head
 have HLines : Hid ((nextL s.data.toList).1.length = 3∧1 ≤ (nextL s.data.toList).1.getD 2 0∧(nextL s.data.toList).1.getD 2 0 ≤ 2000→procL s.data.toList = (takeL ((nextL s.data.toList).1.getD 2 0).toNat (nextL s.data.toList).2).map fun r => (mkPc (nextL s.data.toList).1 r.1,r.2)):=procL_lines
 have HShort : Hid ((nextL s.data.toList).2.length ≤ 100000):=Nat.le_trans (nextL_short _) (by simpa using hs)
 generalize (nextL s.data.toList).1 = hd at *
 generalize (nextL s.data.toList).2 = r1 at *
 clear HI HL
 by_cases h3 : hd.length = 3
 ·obtain ⟨g,rfl,hgl,hgw,hcell⟩ : ∃ g,ah = some ⟨g,0,none⟩∧(w.alloc (.cells #[.int .i64 0,.int .i64 0,.slice none 0 0] 58)).heap.size ≤ g∧g < w1.heap.size∧∀ i z,hd[i]? = some z→w1.cell? ⟨g,i,none⟩ = some (.int .i64 z):=by
   rcases hcells with h | h
   ·rw [h] at h3; cases h3
   ·exact h
  have hget : ∀ i,i < 3→hd[i]? = some (hd.getD i 0):=fun i hi => by simp [show i < hd.length by omega]
  have g0:=hcell 0 _ (hget 0 (by omega))
  have g1:=hcell 1 _ (hget 1 (by omega))
  have g2:=hcell 2 _ (hget 2 (by omega))
  have HG : Hid (w.heap.size < g):=(by show w.heap.size < g; omega)
  rw [h3]
  have h3b : ((3 : Int) != 3) = false:=by simp
  have HIH : Hid (∀ hd2,hd.getD 2 0 = hd2→True):=fun _ _ => trivial
  clear HIH hcell hget hcells
  have HH3 : Hid (hd.length = 3):=h3
  clear h3
  generalize hx0 : hd.getD 0 0 = x0 at *
  generalize hx1 : hd.getD 1 0 = x1 at *
  generalize hx2 : hd.getD 2 0 = x2 at *
  have HX0 : Hid (hd.getD 0 0 = x0):=hx0
  have HX1 : Hid (hd.getD 1 0 = x1):=hx1
  have HX2 : Hid (hd.getD 2 0 = x2):=hx2
  clear hx0 hx1 hx2
  by_cases hlo : x2 < 1
  ·have HN : Hid (procL s.data.toList = none):=HHead.out fun h => by omega
   clear HHead HLines
   go_wp2_with fail
   exact bodyPost_ret (res94 _ _ w.heap.size _ _ _ false rfl rfl (row_set HR1.out _ _ _)) rfl (ProcPost.no HN.out (but_row HB1w.out (Nat.le_refl _) _ _ _))
  by_cases hhi : 2000 < x2
  ·have HN : Hid (procL s.data.toList = none):=HHead.out fun h => by omega
   clear HHead HLines
   go_wp2_with fail
   exact bodyPost_ret (res94 _ _ w.heap.size _ _ _ false rfl rfl (row_set HR1.out _ _ _)) rfl (ProcPost.no HN.out (but_row HB1w.out (Nat.le_refl _) _ _ _))
  have hhi2 : ¬ x2 > 2000:=by omega
  have HP : Hid (procL s.data.toList = (takeL x2.toNat r1).map fun r => (mkPc hd r.1,r.2)):=HLines.out ⟨HH3.out,by omega,by omega⟩
  clear HHead HLines
  go_wp2_with fail
  have z0:=World.new_ne w1 ⟨g,0,none⟩ g0
  have z1:=World.new_ne w1 ⟨g,1,none⟩ g1
  go_region_held3 (fun w' => w'.cell? ⟨g,0,none⟩ = some (.int .i64 x0)∧w'.cell? ⟨g,1,none⟩ = some (.int .i64 x1)) (go_keep) (fail)
  have hmm : ∃ m : Nat,x2 = m:=⟨x2.toNat,by omega⟩
  obtain ⟨m,rfl⟩:=hmm
  rw [Int.toNat_natCast] at HP
  have g2' : (w1.alloc (.cells #[.int .i64 x0,.int .i64 x1,.slice none 0 0] 58)).cell? ⟨g,2,none⟩ = some (.int .i64 m):=by rw [(below_alloc w1 _).cell (p:=⟨g,2,none⟩) hgw]; exact g2
  go_upto_region 6 with (fail)
  have HInit : Hid (But S w (w1.alloc (.cells #[.int .i64 x0,.int .i64 x1,.slice none 0 0] 58)).drew∧SB S (w1.alloc (.cells #[.int .i64 x0,.int .i64 x1,.slice none 0 0] 58)).drew (bs r1)∧(w1.alloc (.cells #[.int .i64 x0,.int .i64 x1,.slice none 0 0] 58)).drew.heap[w1.heap.size]? = some (.cells #[.int .i64 x0,.int .i64 x1,.slice none 0 0] 58 (0,0)) ∧
    (w1.alloc (.cells #[.int .i64 x0,.int .i64 x1,.slice none 0 0] 58)).drew.heap[w.heap.size]? = some (.cells #[.int .i64 0,.int .i64 0,.slice none 0 0] 58 (0,0))∧CodeRow (w1.heap.size + 1) (w1.alloc (.cells #[.int .i64 x0,.int .i64 x1,.slice none 0 0] 58)).drew (.slice none 0 0) []):=by
   have hb:=(below_alloc w1 (.cells #[.int .i64 x0,.int .i64 x1,.slice none 0 0] 58))
   exact ⟨HB1w.out.trans (But.of hb.drew),HS1.out.keep hb.drew,heap_alloc_new w1 _,(hb.block w.heap.size hw1).trans HR1.out,CodeRow.nil _ _⟩
  have hsz2 : (w1.alloc (.cells #[.int .i64 x0,.int .i64 x1,.slice none 0 0] 58)).drew.heap.size = w1.heap.size + 1:=by show (w1.alloc _).heap.size = _; simp
  generalize (w1.alloc (.cells #[.int .i64 x0,.int .i64 x1,.slice none 0 0] 58)).drew = W2 at *
  clear g0 g1 g2 g2' z0 z1 k0 k1 k2 kf HR1 HS1 HB1 hgl HG
  go_loopw [35] (fun i wr => ∃ (k : Nat) (sk : List UInt8) (items : List (List Int × Value)) (cv : Value),k ≤ m∧i = .int .i64 k∧(Hid (items.length = k)∧Hid (takeL m r1 = (takeL (m - k) sk).map fun r => (items.map (·.1) ++ r.1,r.2)))∧Hid (sk.length ≤ 100000) ∧
   Hid (But S w wr∧SB S wr (bs sk)∧wr.heap[w1.heap.size]? = some (.cells #[.int .i64 x0,.int .i64 x1,cv] 58 (0,0))∧wr.heap[w.heap.size]? = some (.cells #[.int .i64 0,.int .i64 0,.slice none 0 0] 58 (0,0))∧CodeRow (w1.heap.size + 1) wr cv items)) (fun i _ => m - (intOf i).toNat)
  case atStart => exact ⟨0,r1,[],_,by omega,rfl,⟨rfl,by show _ = _; simp⟩,HShort,HInit⟩
  case round =>
   obtain ⟨k,sk,items,cv,hk0,rfl,⟨HIk,HTk⟩,HSh,HM⟩:=hrel
   obtain ⟨m1,m2,m3,m4,m5⟩:=HM.out
   have hszr:=m1.size
   by_cases hk : k < m
   ·have hki : (k : Int) < (m : Int):=by omega
    have HNxk : Hid (Calls Tryd.prog 51 #[.pointer (some ⟨S,0,none⟩)] wr fun e w' => ∃ v,e = .returned v∧Hid (IS wr.heap.size w' v (nextL sk).1)∧Hid (SB S w' (bs (nextL sk).2))∧Hid (But S wr w')):=HNx.out wr (bs sk) m1 m2 (by have:=HSh.out; simpa [bs,ByteArray.size] using this)
    have hgrow1 : w1.heap.size < wr.heap.size:=(Array.getElem?_eq_some_iff.1 m3).1
    clear m1 m2 m3 m4 m5
    go_upto_region 8 with (first
     | (go_at_call 51; refine HNxk.out.mono ?_; rintro e w3 ⟨lv,rfl,HI3,HS3,HB3⟩))
    have hw3:=HB3.out.size
    have HMem : Hid (But S w w3∧w3.heap[w1.heap.size]? = some (.cells #[.int .i64 x0,.int .i64 x1,cv] 58 (0,0))∧w3.heap[w.heap.size]? = some (.cells #[.int .i64 0,.int .i64 0,.slice none 0 0] 58 (0,0))∧CodeRow (w1.heap.size + 1) w3 cv items):=by
     obtain ⟨m1,m2,m3,m4,m5⟩:=HM.out
     exact ⟨m1.trans HB3.out,(HB3.out.block _ (by omega) (by omega)).trans m3,(HB3.out.block _ (by omega) (by omega)).trans m4,m5.stay (Keeps.but HB3.out m2 (by decide)) (Keeps.but HB3.out m2 (by decide))⟩
    have HShn : Hid ((nextL sk).2.length ≤ 100000):=Nat.le_trans (nextL_short sk) HSh.out
    have HBadL : Hid ((nextL sk).1.length < 4→takeL m r1 = none):=fun h => by
     obtain ⟨j,hj⟩ : ∃ j,m - k = j + 1:=⟨m - k - 1,by omega⟩
     rw [HTk.out,hj,takeL_bad h]; rfl
    have HGoodL : Hid (∀ av : Value,¬ (nextL sk).1.length < 4→Hid ((items ++ [((nextL sk).1,av)]).length = k + 1)∧Hid (takeL m r1 = (takeL (m - (k + 1)) (nextL sk).2).map fun r => ((items ++ [((nextL sk).1,av)]).map (·.1) ++ r.1,r.2))):=fun av h => by
     refine ⟨by show _ = _; rw [List.length_append,HIk.out]; rfl,?_⟩
     show _ = _
     obtain ⟨j,hj⟩ : ∃ j,m - k = j + 1:=⟨m - k - 1,by omega⟩
     rw [HTk.out,hj,takeL_good h,show m - (k + 1) = j by omega,Option.map_map]
     congr 1
     funext r
     simp
    have HLl : Hid ((nextL sk).1.length ≤ 1000000):=nums_few sk HSh.out
    generalize (nextL sk).1 = l at *
    generalize (nextL sk).2 = sk2 at *
    obtain ⟨x1',x2',x3',x4'⟩:=HMem.out
    by_cases h4 : l.length < 4
    ·have HN : Hid (procL s.data.toList = none):=by show _ = _; rw [HP.out,HBadL.out h4]; rfl
     obtain ⟨la,lc,rfl⟩:=HI3.out.shape
     have h4i : (l.length : Int) < 4:=by omega
     have k0 : w3.cell? ⟨w.heap.size,0,none⟩ = some (.int .i64 0):=by unfold World.cell?; rw [x3']; rfl
     have k1 : w3.cell? ⟨w.heap.size,1,none⟩ = some (.int .i64 0):=by unfold World.cell?; rw [x3']; rfl
     have k2 : w3.cell? ⟨w.heap.size,2,none⟩ = some (.slice none 0 0):=by unfold World.cell?; rw [x3']; rfl
     have kf : ∀ i,w3.frozen? ⟨w.heap.size,i,none⟩ = false:=fun i => by unfold World.frozen?; rw [x3']; simp
     clear x1' x2' x3' x4' HGoodL HBadL h4
     go_wp2_with fail
     obtain ⟨x1',x2',x3',x4'⟩:=HMem.out
     exact bodyPost_ret (res94 _ _ w.heap.size _ _ _ false rfl rfl (row_set x3' _ _ _)) rfl (ProcPost.no HN.out (but_row x1' (Nat.le_refl _) _ _ _))
    obtain ⟨g3,lcap,av,rfl,hg3,⟨gcur,hgb⟩,hlc,hsl,harg⟩:=HI3.out.args (by omega) HLl.out
    have h4i : ¬ (l.length : Int) < 4:=by omega
    have hget : ∀ i,i < 4→l[i]? = some (l.getD i 0):=fun i hi => by simp [show i < l.length by omega]
    have HG3 : Hid (∀ wi : World,wi.heap[g3]? = w3.heap[g3]?→wi.cell? ⟨g3,0,none⟩ = some (.int .i64 (l.getD 0 0))∧wi.cell? ⟨g3,1,none⟩ = some (.int .i64 (l.getD 1 0))∧wi.cell? ⟨g3,2,none⟩ = some (.int .i64 (l.getD 2 0))∧wi.cell? ⟨g3,3,none⟩ = some (.int .i64 (l.getD 3 0))):=fun wi hh => by
     have e : ∀ i,wi.cell? ⟨g3,i,none⟩ = w3.cell? ⟨g3,i,none⟩:=fun i => World.cell?_of_block (w:=w3) (a:=⟨g3,i,none⟩) hh
     exact ⟨by rw [e]; exact hlc 0 _ (hget 0 (by omega)),by rw [e]; exact hlc 1 _ (hget 1 (by omega)),by rw [e]; exact hlc 2 _ (hget 2 (by omega)),by rw [e]; exact hlc 3 _ (hget 3 (by omega))⟩
    have HG3l : Hid (g3 < w3.heap.size):=(Array.getElem?_eq_some_iff.1 hgb).1
    have HgQ : Hid (¬ g3 = w1.heap.size):=(by show ¬ g3 = w1.heap.size; omega)
    have HAV : Hid (∃ b n c,av = .slice b n c):=by obtain ⟨a,c,e,_⟩:=harg; exact ⟨a,_,c,e⟩
    have HArg : Hid (ArgsAt w3 av (l.length - 4) (fun j => l.getD (j + 4) 0)):=harg
    have HRow3 : Hid (CodeRow (w1.heap.size + 1) w3 cv items):=x4'
    have HIl : Hid (items.length ≤ 100000):=(by show items.length ≤ 100000; rw [HIk.out]; omega)
    have HC3 : Hid (w1.heap.size + 1 ≤ w3.heap.size):=(by show w1.heap.size + 1 ≤ w3.heap.size; omega)
    have HStep : Hid (∀ (cs : Array Value) (w2 : World),(w3.drew.alloc (.cells cs 60)).grownBy w2 cv.ownBlock→But S w w2∧SB S w2 (bs sk2)∧w2.heap[w1.heap.size]? = some (.cells #[.int .i64 x0,.int .i64 x1,cv] 58 (0,0))∧w2.heap[w.heap.size]? = some (.cells #[.int .i64 0,.int .i64 0,.slice none 0 0] 58 (0,0))∧w2.heap[g3]? = w3.heap[g3]?∧Keeps 3 w3 w2):=fun cs w2 hgr => by
     obtain ⟨a1,a2,a3,a4,a5,a6⟩:=proc_step x1' HS3.out x2' x3' hgb x4' (by omega) hgr
     exact ⟨a1,a2,a3,a4,a5.trans hgb.symm,a6⟩
    have HNxt:=HGoodL.out av h4
    have HNxt : Hid (Hid ((items ++ [(l,av)]).length = k + 1)∧Hid (takeL m r1 = (takeL (m - (k + 1)) sk2).map fun r => ((items ++ [(l,av)]).map (·.1) ++ r.1,r.2))):=HNxt
    obtain ⟨ab,an,ac,rfl⟩:=HAV.out
    have qca : ∀ o : Obj,(w3.alloc o).cell? ⟨w1.heap.size,2,none⟩ = some cv:=fun o => by rw [(below_alloc w3 o).cell (p:=⟨w1.heap.size,2,none⟩) (by show w1.heap.size < w3.heap.size; omega)]; unfold World.cell?; rw [x2']; rfl
    have qc : w3.cell? ⟨w1.heap.size,2,none⟩ = some cv:=by unfold World.cell?; rw [x2']; rfl
    have hcvs : ∃ ca cc,cv = .slice ca items.length cc:=own_shape x4'.1
    have HSh2 : Hid (sk2.length ≤ 100000):=HShn
    have hL4 : (4 : Int) ≤ (l.length : Int):=by omega
    have hL0 : 0 < l.length:=by omega
    have hL1 : 1 < l.length:=by omega
    have hL2 : 2 < l.length:=by omega
    have hL3 : 3 < l.length:=by omega
    have hM1 : (1 : Int) < (l.length : Int):=by omega
    have hM2 : (2 : Int) < (l.length : Int):=by omega
    have hM3 : (3 : Int) < (l.length : Int):=by omega
    obtain ⟨L,hLe⟩ : ∃ L,l.length = L:=⟨_,rfl⟩
    rw [hLe] at hsl h4i hL4 hL0 hL1 hL2 hL3 hM1 hM2 hM3 ⊢
    clear x1' x2' x3' x4' harg hlc hget HGoodL HBadL h4 HI3 hgb hg3 hLe hcvs
    go_upto_region 10 with (fail)
    refine held_begin (n:=21) (l0:=#[false,false,false,false,false,false,false,false,false,false,false,false,false,false,false,false,false,false,false,false,false]) (S:=fun w' => w'.cell? ⟨g3,0,none⟩ = some (.int .i64 (l.getD 0 0))∧w'.cell? ⟨g3,1,none⟩ = some (.int .i64 (l.getD 1 0))∧w'.cell? ⟨g3,2,none⟩ = some (.int .i64 (l.getD 2 0))∧w'.cell? ⟨g3,3,none⟩ = some (.int .i64 (l.getD 3 0))) (by kernel_rfl) (by kernel_rfl) (by kernel_rfl) (HG3.out _ rfl) (fun hHeld => ?_)
    refine take_yes (i:=0) (d:=43) (l2:=#[true,false,false,false,false,false,false,false,false,false,false,false,false,false,false,false,false,false,false,false,false]) (v:=?v0) rfl rfl (by kernel_rfl) (by kernel_rfl) (by kernel_rfl) (by kernel_rfl) (fun _ _ _ h => h) (by rfl) ?hy0 (by assumption) ?_
    case hy0 => (intro wS hSw; (try dsimp only at hSw); (go_simp <;> with_reducible rfl))
    simp only [Act.put,List.setIfInBounds_toArray,List.set_cons_succ,List.set_cons_zero]
    refine take_yes (i:=2) (d:=45) (l2:=#[true,false,true,false,false,false,false,false,false,false,false,false,false,false,false,false,false,false,false,false,false]) (v:=?v2) rfl rfl (by kernel_rfl) (by kernel_rfl) (by kernel_rfl) (by kernel_rfl) (fun _ _ _ h => h) (by rfl) ?hy2 (by assumption) ?_
    case hy2 => (intro wS hSw; (try dsimp only at hSw); (go_simp <;> with_reducible rfl))
    simp only [Act.put,List.setIfInBounds_toArray,List.set_cons_succ,List.set_cons_zero]
    refine take_yes (i:=3) (d:=46) (l2:=#[true,false,true,true,false,false,false,false,false,false,false,false,false,false,false,false,false,false,false,false,false]) (v:=?v3) rfl rfl (by kernel_rfl) (by kernel_rfl) (by kernel_rfl) (by kernel_rfl) (fun _ _ _ h => h) (by rfl) ?hy3 (by assumption) ?_
    case hy3 => (intro wS hSw; (try dsimp only at hSw); (go_simp <;> with_reducible rfl))
    simp only [Act.put,List.setIfInBounds_toArray,List.set_cons_succ,List.set_cons_zero]
    refine take_yes (i:=4) (d:=47) (l2:=#[true,false,true,true,true,false,false,false,false,false,false,false,false,false,false,false,false,false,false,false,false]) (v:=?v4) rfl rfl (by kernel_rfl) (by kernel_rfl) (by kernel_rfl) (by kernel_rfl) (fun _ _ _ h => h) (by rfl) ?hy4 (by assumption) ?_
    case hy4 => (intro wS hSw; (try dsimp only at hSw); (go_simp <;> with_reducible rfl))
    simp only [Act.put,List.setIfInBounds_toArray,List.set_cons_succ,List.set_cons_zero]
    refine take_yes (i:=5) (d:=48) (l2:=#[true,false,true,true,true,true,false,false,false,false,false,false,false,false,false,false,false,false,false,false,false]) (v:=?v5) rfl rfl (by kernel_rfl) (by kernel_rfl) (by kernel_rfl) (by kernel_rfl) (fun _ _ _ h => h) (by rfl) ?hy5 (by assumption) ?_
    case hy5 => (intro wS hSw; (try dsimp only at hSw); (go_simp <;> with_reducible rfl))
    simp only [Act.put,List.setIfInBounds_toArray,List.set_cons_succ,List.set_cons_zero]
    refine take_yes (i:=6) (d:=49) (l2:=#[true,false,true,true,true,true,true,false,false,false,false,false,false,false,false,false,false,false,false,false,false]) (v:=?v6) rfl rfl (by kernel_rfl) (by kernel_rfl) (by kernel_rfl) (by kernel_rfl) (fun _ _ _ h => h) (by rfl) ?hy6 (by assumption) ?_
    case hy6 => (intro wS hSw; (try dsimp only at hSw); (go_simp <;> with_reducible rfl))
    simp only [Act.put,List.setIfInBounds_toArray,List.set_cons_succ,List.set_cons_zero]
    refine take_yes (i:=7) (d:=50) (l2:=#[true,false,true,true,true,true,true,true,false,false,false,false,false,false,false,false,false,false,false,false,false]) (v:=?v7) rfl rfl (by kernel_rfl) (by kernel_rfl) (by kernel_rfl) (by kernel_rfl) (fun _ _ _ h => h) (by rfl) ?hy7 (by assumption) ?_
    case hy7 => (intro wS hSw; (try dsimp only at hSw); (go_simp <;> with_reducible rfl))
    simp only [Act.put,List.setIfInBounds_toArray,List.set_cons_succ,List.set_cons_zero]
    refine take_yes (i:=8) (d:=51) (l2:=#[true,false,true,true,true,true,true,true,true,false,false,false,false,false,false,false,false,false,false,false,false]) (v:=?v8) rfl rfl (by kernel_rfl) (by kernel_rfl) (by kernel_rfl) (by kernel_rfl) (fun _ _ _ h => h) (by rfl) ?hy8 (by assumption) ?_
    case hy8 => (intro wS hSw; (try dsimp only at hSw); (go_simp <;> with_reducible rfl))
    simp only [Act.put,List.setIfInBounds_toArray,List.set_cons_succ,List.set_cons_zero]
    refine take_yes (i:=9) (d:=52) (l2:=#[true,false,true,true,true,true,true,true,true,true,false,false,false,false,false,false,false,false,false,false,false]) (v:=?v9) rfl rfl (by kernel_rfl) (by kernel_rfl) (by kernel_rfl) (by kernel_rfl) (fun _ _ _ h => h) (by rfl) ?hy9 (by assumption) ?_
    case hy9 => (intro wS hSw; (try dsimp only at hSw); (go_simp <;> with_reducible rfl))
    simp only [Act.put,List.setIfInBounds_toArray,List.set_cons_succ,List.set_cons_zero]
    refine take_yes (i:=10) (d:=53) (l2:=#[true,false,true,true,true,true,true,true,true,true,true,false,false,false,false,false,false,false,false,false,false]) (v:=?v10) rfl rfl (by kernel_rfl) (by kernel_rfl) (by kernel_rfl) (by kernel_rfl) (fun _ _ _ h => h) (by rfl) ?hy10 (by assumption) ?_
    case hy10 => (intro wS hSw; (try dsimp only at hSw); (go_simp <;> with_reducible rfl))
    simp only [Act.put,List.setIfInBounds_toArray,List.set_cons_succ,List.set_cons_zero]
    refine take_yes (i:=11) (d:=54) (l2:=#[true,false,true,true,true,true,true,true,true,true,true,true,false,false,false,false,false,false,false,false,false]) (v:=?v11) rfl rfl (by kernel_rfl) (by kernel_rfl) (by kernel_rfl) (by kernel_rfl) (fun _ _ _ h => h) (by rfl) ?hy11 (by assumption) ?_
    case hy11 => (intro wS hSw; (try dsimp only at hSw); (go_simp <;> with_reducible rfl))
    simp only [Act.put,List.setIfInBounds_toArray,List.set_cons_succ,List.set_cons_zero]
    refine take_yes (i:=12) (d:=55) (l2:=#[true,false,true,true,true,true,true,true,true,true,true,true,true,false,false,false,false,false,false,false,false]) (v:=?v12) rfl rfl (by kernel_rfl) (by kernel_rfl) (by kernel_rfl) (by kernel_rfl) (fun _ _ _ h => h) (by rfl) ?hy12 (by assumption) ?_
    case hy12 => (intro wS hSw; (try dsimp only at hSw); (go_simp <;> with_reducible rfl))
    simp only [Act.put,List.setIfInBounds_toArray,List.set_cons_succ,List.set_cons_zero]
    refine take_yes (i:=13) (d:=56) (l2:=#[true,false,true,true,true,true,true,true,true,true,true,true,true,true,false,false,false,false,false,false,false]) (v:=?v13) rfl rfl (by kernel_rfl) (by kernel_rfl) (by kernel_rfl) (by kernel_rfl) (fun _ _ _ h => h) (by rfl) ?hy13 (by assumption) ?_
    case hy13 => (intro wS hSw; (try dsimp only at hSw); (go_simp <;> with_reducible rfl))
    simp only [Act.put,List.setIfInBounds_toArray,List.set_cons_succ,List.set_cons_zero]
    refine take_yes (i:=14) (d:=57) (l2:=#[true,false,true,true,true,true,true,true,true,true,true,true,true,true,true,false,false,false,false,false,false]) (v:=?v14) rfl rfl (by kernel_rfl) (by kernel_rfl) (by kernel_rfl) (by kernel_rfl) (fun _ _ _ h => h) (by rfl) ?hy14 (by assumption) ?_
    case hy14 => (intro wS hSw; (try dsimp only at hSw); (go_simp <;> with_reducible rfl))
    simp only [Act.put,List.setIfInBounds_toArray,List.set_cons_succ,List.set_cons_zero]
    refine take_yes (i:=15) (d:=58) (l2:=#[true,false,true,true,true,true,true,true,true,true,true,true,true,true,true,true,false,false,false,false,false]) (v:=?v15) rfl rfl (by kernel_rfl) (by kernel_rfl) (by kernel_rfl) (by kernel_rfl) (fun _ _ _ h => h) (by rfl) ?hy15 (by assumption) ?_
    case hy15 => (intro wS hSw; (try dsimp only at hSw); (go_simp <;> with_reducible rfl))
    simp only [Act.put,List.setIfInBounds_toArray,List.set_cons_succ,List.set_cons_zero]
    refine take_yes (i:=16) (d:=59) (l2:=#[true,false,true,true,true,true,true,true,true,true,true,true,true,true,true,true,true,false,false,false,false]) (v:=?v16) rfl rfl (by kernel_rfl) (by kernel_rfl) (by kernel_rfl) (by kernel_rfl) (fun _ _ _ h => h) (by rfl) ?hy16 (by assumption) ?_
    case hy16 => (intro wS hSw; (try dsimp only at hSw); (go_simp <;> with_reducible rfl))
    simp only [Act.put,List.setIfInBounds_toArray,List.set_cons_succ,List.set_cons_zero]
    refine two_up (i:=1) (j:=17) (d:=44) (e:=60) (l1:=#[true,true,true,true,true,true,true,true,true,true,true,true,true,true,true,true,true,false,false,false,false]) (l2:=#[true,false,true,true,true,true,true,true,true,true,true,true,true,true,true,true,true,true,false,false,false]) rfl rfl rfl rfl (by kernel_rfl) (by kernel_rfl) (by kernel_rfl) (by rfl) (by rfl) (fun K hK => ?_) (fun K hK => ?_)
    ·go_simp
     refine hK.out _ _ (HG3.out _ rfl) (fun hHeld1 => ?_)
     clear hK K hHeld
     simp only [Act.put,List.setIfInBounds_toArray,List.set_cons_succ,List.set_cons_zero]
     refine one_up (i:=17) (d:=60) (l2:=#[true,true,true,true,true,true,true,true,true,true,true,true,true,true,true,true,true,true,false,false,false]) rfl rfl (by kernel_rfl) (by kernel_rfl) (by rfl) (fun K hK => ?_)
     go_simp
     refine hK.out _ _ (HG3.out _ (heap_lt_alloc HG3l.out)) (fun hHeld2 => ?_)
     clear hK K hHeld1
     simp only [Act.put,List.setIfInBounds_toArray,List.set_cons_succ,List.set_cons_zero]
     refine one_up (i:=18) (d:=61) (l2:=#[true,true,true,true,true,true,true,true,true,true,true,true,true,true,true,true,true,true,true,false,false]) rfl rfl (by kernel_rfl) (by kernel_rfl) (by rfl) (fun K hK => ?_)
     refine wp_append_ins w3.drew _ _ rfl (w1.heap.size + 1) cv items _ _ _ _ _ ⟨_,_,_,rfl⟩ rfl HRow3.out _ rfl rfl HIl.out HC3.out (fun ad cap w2 hown2 hgr2 => ?_)
     obtain ⟨f1,f2,f3,f4,f5,f6⟩:=HStep.out _ _ hgr2
     refine hK.out _ _ (HG3.out _ f5) (fun hHeld3 => ?_)
     clear hK K hHeld2
     simp only [Act.put,List.setIfInBounds_toArray,List.set_cons_succ,List.set_cons_zero]
     have q2 : w2.cell? ⟨w1.heap.size,2,none⟩ = some cv:=by unfold World.cell?; rw [f3]; rfl
     have q3 : w2.frozen? ⟨w1.heap.size,2,none⟩ = false:=by unfold World.frozen?; rw [f3]; rfl
     have HFin : Hid (But S w (w2.setCell ⟨w1.heap.size,2,none⟩ (.slice ad (items.length + 1) cap))∧SB S (w2.setCell ⟨w1.heap.size,2,none⟩ (.slice ad (items.length + 1) cap)) (bs sk2)∧(w2.setCell ⟨w1.heap.size,2,none⟩ (.slice ad (items.length + 1) cap)).heap[w1.heap.size]? = some (.cells #[.int .i64 x0,.int .i64 x1,(.slice ad (items.length + 1) cap)] 58 (0,0))∧(w2.setCell ⟨w1.heap.size,2,none⟩ (.slice ad (items.length + 1) cap)).heap[w.heap.size]? = some (.cells #[.int .i64 0,.int .i64 0,.slice none 0 0] 58 (0,0))∧CodeRow (w1.heap.size + 1) (w2.setCell ⟨w1.heap.size,2,none⟩ (.slice ad (items.length + 1) cap)) (.slice ad (items.length + 1) cap) (items ++ [(l,.slice ab an ac)])):=proc_store f1 f2 f3 f4 (by omega) (by omega) hown2 (fun x hx => (HRow3.out.2 x hx).stay f6) (HArg.out.stay f6)
     have hset : (w2.setCell ⟨w1.heap.size,2,none⟩ (.slice ad (items.length + 1) cap)).heap[g3]? = w3.heap[g3]?:=by rw [Below.heap_setCell w2 ⟨w1.heap.size,2,none⟩ _ g3 (HgQ.out),f5]
     clear hown2 hgr2 f1 f2 f3 f4 f6
     refine take_yes (i:=19) (d:=62) (l2:=#[true,true,true,true,true,true,true,true,true,true,true,true,true,true,true,true,true,true,true,true,false]) (v:=?v19) rfl rfl (by kernel_rfl) (by kernel_rfl) (by kernel_rfl) (by kernel_rfl) (fun _ _ _ h => h) (by rfl) ?hy19 (by assumption) ?_
     case hy19 => (intro wS hSw; (try dsimp only at hSw); (go_simp <;> with_reducible rfl))
     simp only [Act.put,List.setIfInBounds_toArray,List.set_cons_succ,List.set_cons_zero]
     refine one_up_none (i:=20) (l2:=#[true,true,true,true,true,true,true,true,true,true,true,true,true,true,true,true,true,true,true,true,true]) rfl rfl (by kernel_rfl) (by kernel_rfl) (by rfl) (fun K hK => ?_)
     go_simp
     refine hK.out _ (HG3.out _ hset) (fun hHeld4 => ?_)
     clear hK K hHeld3 hHeld4
     refine wpAnyH_done (by kernel_rfl) ?_ _
     go_wp2_with fail
     go_roundw
     case rel => exact ⟨k + 1,sk2,items ++ [(l,.slice ab an ac)],_,by omega,by go_num,HNxt.out,HSh2,HFin⟩
     case measure => simp [intOf]; omega
    ·go_simp
     refine hK.out _ _ (HG3.out _ (heap_lt_alloc2 HG3l.out)) (fun hHeld1 => ?_)
     clear hK K hHeld
     simp only [Act.put,List.setIfInBounds_toArray,List.set_cons_succ,List.set_cons_zero]
     refine one_up (i:=1) (d:=44) (l2:=#[true,true,true,true,true,true,true,true,true,true,true,true,true,true,true,true,true,true,false,false,false]) rfl rfl (by kernel_rfl) (by kernel_rfl) (by rfl) (fun K hK => ?_)
     go_simp
     refine hK.out _ _ (HG3.out _ (heap_lt_alloc2 HG3l.out)) (fun hHeld2 => ?_)
     clear hK K hHeld1
     simp only [Act.put,List.setIfInBounds_toArray,List.set_cons_succ,List.set_cons_zero]
     change wpAnyH _ _ _ _ _ _ _ _ (w3.drew.alloc _)
     refine one_up (i:=18) (d:=61) (l2:=#[true,true,true,true,true,true,true,true,true,true,true,true,true,true,true,true,true,true,true,false,false]) rfl rfl (by kernel_rfl) (by kernel_rfl) (by rfl) (fun K hK => ?_)
     refine wp_append_ins w3.drew _ _ rfl (w1.heap.size + 1) cv items _ _ _ _ _ ⟨_,_,_,rfl⟩ rfl HRow3.out _ rfl rfl HIl.out HC3.out (fun ad cap w2 hown2 hgr2 => ?_)
     obtain ⟨f1,f2,f3,f4,f5,f6⟩:=HStep.out _ _ hgr2
     refine hK.out _ _ (HG3.out _ f5) (fun hHeld3 => ?_)
     clear hK K hHeld2
     simp only [Act.put,List.setIfInBounds_toArray,List.set_cons_succ,List.set_cons_zero]
     have q2 : w2.cell? ⟨w1.heap.size,2,none⟩ = some cv:=by unfold World.cell?; rw [f3]; rfl
     have q3 : w2.frozen? ⟨w1.heap.size,2,none⟩ = false:=by unfold World.frozen?; rw [f3]; rfl
     have HFin : Hid (But S w (w2.setCell ⟨w1.heap.size,2,none⟩ (.slice ad (items.length + 1) cap))∧SB S (w2.setCell ⟨w1.heap.size,2,none⟩ (.slice ad (items.length + 1) cap)) (bs sk2)∧(w2.setCell ⟨w1.heap.size,2,none⟩ (.slice ad (items.length + 1) cap)).heap[w1.heap.size]? = some (.cells #[.int .i64 x0,.int .i64 x1,(.slice ad (items.length + 1) cap)] 58 (0,0))∧(w2.setCell ⟨w1.heap.size,2,none⟩ (.slice ad (items.length + 1) cap)).heap[w.heap.size]? = some (.cells #[.int .i64 0,.int .i64 0,.slice none 0 0] 58 (0,0))∧CodeRow (w1.heap.size + 1) (w2.setCell ⟨w1.heap.size,2,none⟩ (.slice ad (items.length + 1) cap)) (.slice ad (items.length + 1) cap) (items ++ [(l,.slice ab an ac)])):=proc_store f1 f2 f3 f4 (by omega) (by omega) hown2 (fun x hx => (HRow3.out.2 x hx).stay f6) (HArg.out.stay f6)
     have hset : (w2.setCell ⟨w1.heap.size,2,none⟩ (.slice ad (items.length + 1) cap)).heap[g3]? = w3.heap[g3]?:=by rw [Below.heap_setCell w2 ⟨w1.heap.size,2,none⟩ _ g3 (HgQ.out),f5]
     clear hown2 hgr2 f1 f2 f3 f4 f6
     refine take_yes (i:=19) (d:=62) (l2:=#[true,true,true,true,true,true,true,true,true,true,true,true,true,true,true,true,true,true,true,true,false]) (v:=?v19) rfl rfl (by kernel_rfl) (by kernel_rfl) (by kernel_rfl) (by kernel_rfl) (fun _ _ _ h => h) (by rfl) ?hy19 (by assumption) ?_
     case hy19 => (intro wS hSw; (try dsimp only at hSw); (go_simp <;> with_reducible rfl))
     simp only [Act.put,List.setIfInBounds_toArray,List.set_cons_succ,List.set_cons_zero]
     refine one_up_none (i:=20) (l2:=#[true,true,true,true,true,true,true,true,true,true,true,true,true,true,true,true,true,true,true,true,true]) rfl rfl (by kernel_rfl) (by kernel_rfl) (by rfl) (fun K hK => ?_)
     go_simp
     refine hK.out _ (HG3.out _ hset) (fun hHeld4 => ?_)
     clear hK K hHeld3 hHeld4
     refine wpAnyH_done (by kernel_rfl) ?_ _
     go_wp2_with fail
     go_roundw
     case rel => exact ⟨k + 1,sk2,items ++ [(l,.slice ab an ac)],_,by omega,by go_num,HNxt.out,HSh2,HFin⟩
     case measure => simp [intOf]; omega
   ·obtain rfl : k = m:=by omega
    have HPm : Hid (procL s.data.toList = some (mkPc hd (items.map (·.1)),sk)):=by
     show _ = _
     rw [HP.out,HTk.out,Nat.sub_self,takeL]
     simp
    obtain ⟨ca,cc,rfl⟩ : ∃ ca cc,cv = .slice ca items.length cc:=own_shape m5.1
    have HPost : Hid (∀ w',CodeHeap w' (.slice ca items.length cc) items.length (fun k => insOf ((items.map (·.1)).getD k []))→SB S w' (bs sk)→But S w w'→ProcPost S s w (.returned (.tuple #[.agg #[.int .i64 x0,.int .i64 x1,.slice ca items.length cc],.bool true])) w'):=fun w' h1 h2 h3 => by
     have e1 : ((mkPc hd (items.map (·.1)),sk) : Pc × List UInt8).1.n = items.length:=by simp [mkPc]
     have e2 : ((mkPc hd (items.map (·.1)),sk) : Pc × List UInt8).1.params = x0:=HX0.out
     have e3 : ((mkPc hd (items.map (·.1)),sk) : Pc × List UInt8).1.regs = x1:=HX1.out
     have h:=ProcPost.yes (S:=S) (s:=s) (w:=w) (w':=w') (r:=(mkPc hd (items.map (·.1)),sk)) (a:=ca) (c:=cc) HPm.out (by rw [e1]; exact h1) h2 h3
     rw [e1,e2,e3] at h
     exact h
    have HEnd : Hid (∀ x y z : Value,ProcPost S s w (.returned (.tuple #[.agg #[.int .i64 x0,.int .i64 x1,.slice ca items.length cc],.bool true])) (((wr.setCell ⟨w.heap.size,0,none⟩ x).setCell ⟨w.heap.size,1,none⟩ y).setCell ⟨w.heap.size,2,none⟩ z)):=fun x y z => by
     have hne:=blk_ne m2 m4 (by decide)
     have r1' : (wr.setCell ⟨w.heap.size,0,none⟩ x).heap[w.heap.size]? = some (.cells #[x,.int .i64 0,.slice none 0 0] 58 (0,0)):=by rw [heap_setCell_same wr w.heap.size 0 _ _ x m4]; rfl
     have r2' : ((wr.setCell ⟨w.heap.size,0,none⟩ x).setCell ⟨w.heap.size,1,none⟩ y).heap[w.heap.size]? = some (.cells #[x,y,.slice none 0 0] 58 (0,0)):=by rw [heap_setCell_same _ w.heap.size 1 _ _ y r1']; rfl
     have kp : ∀ t : TypeId,¬ t = 58→Keeps t wr (((wr.setCell ⟨w.heap.size,0,none⟩ x).setCell ⟨w.heap.size,1,none⟩ y).setCell ⟨w.heap.size,2,none⟩ z):=fun t ht => ((Keeps.set m4 x ht).trans (Keeps.set r1' y ht)).trans (Keeps.set r2' z ht)
     exact HPost.out _ ((m5.heap (by rw [HIk.out]; omega)).stay (kp _ (by decide)) (kp _ (by decide))) (((m2.but hne 0 x).but hne 1 y).but hne 2 z) (but_row m1 (Nat.le_refl _) x y z)
    have HR4 : Hid (wr.heap[w.heap.size]? = some (.cells #[.int .i64 0,.int .i64 0,.slice none 0 0] 58 (0,0))):=m4
    have k0 : wr.cell? ⟨w.heap.size,0,none⟩ = some (.int .i64 0):=by unfold World.cell?; rw [m4]; rfl
    have k1 : wr.cell? ⟨w.heap.size,1,none⟩ = some (.int .i64 0):=by unfold World.cell?; rw [m4]; rfl
    have k2 : wr.cell? ⟨w.heap.size,2,none⟩ = some (.slice none 0 0):=by unfold World.cell?; rw [m4]; rfl
    have kf : ∀ i,wr.frozen? ⟨w.heap.size,i,none⟩ = false:=fun i => by unfold World.frozen?; rw [m4]; simp
    have j0 : wr.cell? ⟨w1.heap.size,0,none⟩ = some (.int .i64 x0):=by unfold World.cell?; rw [m3]; rfl
    have j1 : wr.cell? ⟨w1.heap.size,1,none⟩ = some (.int .i64 x1):=by unfold World.cell?; rw [m3]; rfl
    have j2 : wr.cell? ⟨w1.heap.size,2,none⟩ = some (.slice ca items.length cc):=by unfold World.cell?; rw [m3]; rfl
    clear m1 m2 m3 m4 m5
    go_wp2_with fail
    exact bodyPost_ret (res94 _ _ w.heap.size _ _ _ true rfl rfl (row_set HR4.out _ _ _)) rfl (HEnd.out _ _ _)
 ·have h3b : ((hd.length : Int) != 3) = true:=by simp; omega
  have HN : Hid (procL s.data.toList = none):=HHead.out fun h => h3 h.1
  clear h3 hcells HHead HLines
  go_wp2_with fail
  exact bodyPost_ret (res94 _ _ w.heap.size _ _ _ false rfl rfl (row_set HR1.out _ _ _)) rfl (ProcPost.no HN.out (but_row HB1w.out (Nat.le_refl _) _ _ _))

end Go.Proofs.YtfaokaohhchdhaaDoor
