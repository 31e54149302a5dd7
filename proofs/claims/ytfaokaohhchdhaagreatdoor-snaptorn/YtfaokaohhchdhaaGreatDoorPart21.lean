/- What is read of a text in memory: the text's box, rows of instructions and of procedures of the call's own; the next line's numbers, by the program. -/
import Derived.Test.YtfaokaohhchdhaaGreatDoorPart20
import Derived.Test.YtfaokaohhchdhaaGreatDoorPart1
import Derived.Test.YtfaokaohhchdhaaGreatDoorPart5
import Derived.Deep.RegionHeld3
import Derived.Test.YtfaokaohhchdhaaGreatDoorPart18
import Derived.Test.YtfaokaohhchdhaaGreatDoorPart14
namespace Go.Proofs.YtfaokaohhchdhaaGreatDoor
open Go.RowKit Go.Maps
structure But (S : Nat) (w w' : World) : Prop where
 os : w'.os=w.os
 tape : w'.tape=w.tape
 output : w'.output=w.output
 size : w.heap.size≤w'.heap.size
 block : ∀ k,k < w.heap.size→¬ k=S→w'.heap[k]?=w.heap[k]?
theorem But.refl (S : Nat) (w : World) : But S w w:=⟨rfl,rfl,rfl,Nat.le_refl _,fun _ _ _ => rfl⟩
theorem But.trans {S : Nat} {a b c : World} (h : But S a b) (k : But S b c) : But S a c :=
 ⟨k.os.trans h.os,k.tape.trans h.tape,k.output.trans h.output,Nat.le_trans h.size k.size,fun n hn hx => (k.block n (Nat.lt_of_lt_of_le hn h.size) hx).trans (h.block n hn hx)⟩
theorem But.of {S : Nat} {a b : World} (h : Below a.heap.size a b) : But S a b:=⟨h.os,h.tape,h.output,h.size,fun k hk _ => h.block k hk⟩
theorem But.low {S N : Nat} {a b : World} (h : But S a b) (h1 : N≤S) (h2 : N≤a.heap.size) : Below N a b:=⟨h.os,h.tape,h.output,h.size,fun k hk => h.block k (Nat.lt_of_lt_of_le hk h2) (by omega)⟩
theorem But.set (S : Nat) (w : World) (i : Nat) (v : Value) : But S w (w.setCell ⟨S,i,none⟩ v):=by
 have h : Below S w (w.setCell ⟨S,i,none⟩ v):=(Below.refl S w).setCell (Nat.le_refl _) _
 exact ⟨h.os,h.tape,h.output,h.size,fun k _ hx => Below.heap_setCell w ⟨S,i,none⟩ v k hx⟩
def SB (S : Nat) (w : World) (s : ByteArray) : Prop:=w.heap[S]?=some (.cells #[.string s] 9 (0,0))
theorem SB.lt {S : Nat} {w : World} {s : ByteArray} (h : SB S w s) : S < w.heap.size:=(Array.getElem?_eq_some_iff.1 h).1
theorem SB.cell {S : Nat} {w : World} {s : ByteArray} (h : SB S w s) : w.cell? ⟨S,0,none⟩=some (.string s):=by unfold World.cell?; rw [h]; rfl
def Keeps (t : TypeId) (w w' : World) : Prop:=∀ (k : Nat) (cur : Array Value),w.heap[k]?=some (Obj.cells cur t (0,0))→w'.heap[k]?=some (Obj.cells cur t (0,0))
theorem Keeps.refl (t : TypeId) (w : World) : Keeps t w w:=fun _ _ h => h
theorem Keeps.trans {t : TypeId} {a b c : World} (h : Keeps t a b) (k : Keeps t b c) : Keeps t a c:=fun i cur hi => k i cur (h i cur hi)
theorem Keeps.of {t : TypeId} {a b : World} (h : Below a.heap.size a b) : Keeps t a b:=fun k cur hk => by rw [h.block k (Array.getElem?_eq_some_iff.1 hk).1]; exact hk
theorem Keeps.grown {t u : TypeId} {a b : World} {row : Option Nat} (h : a.grownBy b row) (hr : ∀ g,row=some g→∃ cur,a.heap[g]?=some (.cells cur u (0,0))) (ht : ¬ t=u) : Keeps t a b:=fun k cur hk => by
 rw [h.block k (Array.getElem?_eq_some_iff.1 hk).1]
 ·exact hk
 ·intro e
  obtain ⟨c,hc⟩:=hr k e.symm
  rw [hc] at hk
  injection hk with hk
  injection hk with _ h2 _
  exact ht h2.symm
theorem Keeps.set {t u : TypeId} {a : World} {g i : Nat} {cur : Array Value} (hg : a.heap[g]?=some (.cells cur u (0,0))) (v : Value) (ht : ¬ t=u) : Keeps t a (a.setCell ⟨g,i,none⟩ v):=fun k c hk => by
 rw [Below.heap_setCell a ⟨g,i,none⟩ v k]
 ·exact hk
 ·rintro rfl
  rw [hg] at hk
  injection hk with hk
  injection hk with _ h2 _
  exact ht h2.symm
def ArgsAt (w : World) (v : Value) (n : Nat) (z : Nat→Int) : Prop :=
 ∃ a cap,v=.slice a n cap∧n≤100000000∧(n=0∨∃ g o cur,a=some ⟨g,o,none⟩∧w.heap[g]?=some (.cells cur 3 (0,0))∧∀ i,i < n→cur[o + i]?=some (.int .i64 (z i)))
theorem ArgsAt.stay {w w' : World} {v : Value} {n : Nat} {z : Nat→Int} (h : ArgsAt w v n z) (k : Keeps 3 w w') : ArgsAt w' v n z:=by
 obtain ⟨a,cap,rfl,hn,h | ⟨g,o,cur,rfl,hg,hc⟩⟩:=h
 ·exact ⟨a,cap,rfl,hn,Or.inl h⟩
 ·exact ⟨_,cap,rfl,hn,Or.inr ⟨g,o,cur,rfl,k g cur hg,hc⟩⟩
theorem ArgsAt.nums {w : World} {v : Value} {n : Nat} {z : Nat→Int} (h : ArgsAt w v n z) : NumsAt w.heap.size w v n z:=by
 obtain ⟨a,cap,rfl,hn,h | ⟨g,o,cur,rfl,hg,hc⟩⟩:=h
 ·exact ⟨a,cap,rfl,by omega,Or.inl h⟩
 ·refine ⟨_,cap,rfl,by omega,Or.inr ⟨g,o,rfl,(Array.getElem?_eq_some_iff.1 hg).1,fun i hi => ?_⟩⟩
  unfold World.cell?
  rw [hg]
  exact hc i hi
def flatI : List (List Int×Value)→List Value
 | [] => []
 | x :: l => [.int .i64 (x.1.getD 0 0),.int .i64 (x.1.getD 1 0),.int .i64 (x.1.getD 2 0),.int .i64 (x.1.getD 3 0),x.2] ++ flatI l
theorem flatI_len : ∀ l,(flatI l).length=l.length * 5
 | [] => rfl
 | x :: l => by rw [flatI,List.length_append,flatI_len l,List.length_cons]; simp only [List.length_cons,List.length_nil]; omega
theorem flatI_at : ∀ (l : List (List Int×Value)) (i : Nat) (x : List Int×Value),l[i]?=some x→(flatI l)[i * 5]?=some (.int .i64 (x.1.getD 0 0))∧(flatI l)[i * 5 + 1]?=some (.int .i64 (x.1.getD 1 0))∧(flatI l)[i * 5 + 2]?=some (.int .i64 (x.1.getD 2 0))∧(flatI l)[i * 5 + 3]?=some (.int .i64 (x.1.getD 3 0))∧(flatI l)[i * 5 + 4]?=some x.2
 | [],i,x,h => by cases h
 | y :: l,0,x,h => by
  simp only [List.getElem?_cons_zero,Option.some.injEq] at h
  subst h
  simp [flatI]
 | y :: l,i + 1,x,h => by
  have ih:=flatI_at l i x (by simpa using h)
  have e : ∀ t,(flatI (y :: l))[(i + 1) * 5 + t]?=(flatI l)[i * 5 + t]?:=fun t => by
   rw [flatI,List.getElem?_append_right (by simp only [List.length_cons,List.length_nil]; omega)]
   congr 1
   simp only [List.length_cons,List.length_nil]; omega
  have e0:=e 0
  simp only [Nat.add_zero] at e0
  rw [e0,e 1,e 2,e 3,e 4]
  exact ih
def CodeRow (C : Nat) (w : World) (v : Value) (l : List (List Int×Value)) : Prop :=
 w.ownsRow C 84 5 v l.length (flatI l)∧∀ x ∈ l,ArgsAt w x.2 (x.1.length - 4) (fun j => x.1.getD (j + 4) 0)
theorem CodeRow.nil (C : Nat) (w : World) : CodeRow C w (.slice none 0 0) []:=⟨⟨rfl,Or.inl ⟨rfl,rfl⟩⟩,fun _ h => by cases h⟩
theorem own_keep {C : Nat} {t : TypeId} {sz n : Nat} {w w' : World} {v : Value} {xs : List Value} (h : w.ownsRow C t sz v n xs) (k : Keeps t w w') : w'.ownsRow C t sz v n xs:=by
 refine ⟨h.1,?_⟩
 rcases h.2 with ⟨rfl,h0⟩ | ⟨g,cap,cur,rfl,h1,h2,h3⟩
 ·exact Or.inl ⟨rfl,h0⟩
 ·exact Or.inr ⟨g,cap,cur,rfl,h1,k g cur h2,h3⟩
def CodeHeap (w : World) (v : Value) (n : Nat) (ins : Nat→In) : Prop :=
 ∃ a cap,v=.slice a n cap∧n≤100000000∧(n=0∨∃ g cur,a=some ⟨g,0,none⟩∧w.heap[g]?=some (.cells cur 84 (0,0))∧∀ i,i < n→∃ va,cur[i * 5]?=some (.int .i64 (ins i).op)∧cur[i * 5 + 1]?=some (.int .i64 (ins i).a)∧cur[i * 5 + 2]?=some (.int .i64 (ins i).b) ∧
  cur[i * 5 + 3]?=some (.int .i64 (ins i).c)∧cur[i * 5 + 4]?=some va∧ArgsAt w va (ins i).n (ins i).z)
theorem CodeHeap.stay {w w' : World} {v : Value} {n : Nat} {ins : Nat→In} (h : CodeHeap w v n ins) (k : Keeps 84 w w') (k3 : Keeps 3 w w') : CodeHeap w' v n ins:=by
 obtain ⟨a,cap,rfl,hn,h | ⟨g,cur,rfl,hg,hc⟩⟩:=h
 ·exact ⟨a,cap,rfl,hn,Or.inl h⟩
 ·refine ⟨_,cap,rfl,hn,Or.inr ⟨g,cur,rfl,k g cur hg,fun i hi => ?_⟩⟩
  obtain ⟨va,c0,c1,c2,c3,c4,ha⟩:=hc i hi
  exact ⟨va,c0,c1,c2,c3,c4,ha.stay k3⟩
theorem CodeHeap.code {w : World} {v : Value} {n : Nat} {ins : Nat→In} (h : CodeHeap w v n ins) : CodeAt w.heap.size w v n ins:=by
 obtain ⟨a,cap,rfl,hn,h | ⟨g,cur,rfl,hg,hc⟩⟩:=h
 ·exact ⟨a,cap,rfl,by omega,Or.inl h⟩
 ·refine ⟨_,cap,rfl,by omega,Or.inr ⟨g,0,rfl,(Array.getElem?_eq_some_iff.1 hg).1,fun i hi => ?_⟩⟩
  obtain ⟨va,c0,c1,c2,c3,c4,ha⟩:=hc i hi
  unfold World.cell?
  rw [hg]
  exact ⟨va,by rw [Nat.zero_add]; exact c0,by rw [Nat.zero_add]; exact c1,by rw [Nat.zero_add]; exact c2,by rw [Nat.zero_add]; exact c3,by rw [Nat.zero_add]; exact c4,ha.nums⟩
theorem CodeRow.heap {C : Nat} {w : World} {v : Value} {l : List (List Int×Value)} (h : CodeRow C w v l) (hl : l.length≤100000000) : CodeHeap w v l.length (fun k => insOf ((l.map (·.1)).getD k [])):=by
 obtain ⟨h1,h2⟩:=h
 rcases h1.2 with ⟨rfl,h0⟩ | ⟨g,cap,cur,rfl,_,hg,_,_,_,ht⟩
 ·exact ⟨none,0,by rw [h0],hl,Or.inl h0⟩
 ·refine ⟨_,cap,rfl,hl,Or.inr ⟨g,cur,rfl,hg,fun i hi => ?_⟩⟩
  obtain ⟨x,hx⟩ : ∃ x,l[i]?=some x:=⟨l[i],by simp [hi]⟩
  obtain ⟨c0,c1,c2,c3,c4⟩:=flatI_at l i x hx
  have e : ∀ t,t < l.length * 5→cur[t]?=(flatI l)[t]?:=fun t htl => by
   rw [← ht,List.getElem?_take,if_pos htl,Array.getElem?_toList]
  have e2 : insOf ((l.map (·.1)).getD i [])=insOf x.1:=by
   congr 1
   simp [hx]
  simp only [e2]
  exact ⟨x.2,by rw [e _ (by omega)]; exact c0,by rw [e _ (by omega)]; exact c1,by rw [e _ (by omega)]; exact c2,by rw [e _ (by omega)]; exact c3,by rw [e _ (by omega)]; exact c4,h2 x (List.mem_of_getElem? hx)⟩
theorem IS.args {B : Nat} {w : World} {v : Value} {l : List Int} (h : IS B w v l) (h4 : 4≤l.length) (hl : l.length≤1000000) : ∃ g cap av,v=.slice (some ⟨g,0,none⟩) l.length cap∧B≤g∧(∃ cur,w.heap[g]?=some (.cells cur 3 (0,0)))∧(∀ i z,l[i]?=some z→w.cell? ⟨g,i,none⟩=some (.int .i64 z)) ∧
  (∀ wi : World,(Instr.slice 30 (.slice (some ⟨g,0,none⟩) l.length cap) (some (.int .i64 4)) none none).run Tryz.prog wi=.ok av wi)∧ArgsAt w av (l.length - 4) (fun j => l.getD (j + 4) 0):=by
 obtain ⟨a0,c0,e0,hat⟩:=h.at
 rcases h.2 with ⟨rfl,h0⟩ | ⟨g,cap,cur,rfl,h1,h2,h3,_,_,ht⟩
 ·omega
 have hcell : ∀ i z,l[i]?=some z→w.cell? ⟨g,i,none⟩=some (.int .i64 z):=by
  rcases hat with h | ⟨g',e,_,_,h⟩
  ·rw [h] at h4; simp at h4
  ·injection e0 with ea _ _
   rw [← ea] at e
   cases e
   exact h
 refine ⟨g,cap,.slice (some ⟨g,if cap=4 then 0 else 0 + 4,none⟩) (l.length - 4) (cap - 4),rfl,h1,⟨cur,h2⟩,hcell,fun wi => ?_,?_⟩
 ·simp [Instr.slice,Instr.sliceBounds,Instr.sliceBound,asIntOf,run_underlying Tryz.underlying30,go_sem]
  rw [if_pos (by omega)]
  by_cases c : cap=4
  ·rw [if_pos c,if_pos c]
  ·rw [if_neg c,if_neg c]
 ·refine ⟨_,_,rfl,by omega,?_⟩
  by_cases e : l.length - 4=0
  ·exact Or.inl e
  ·refine Or.inr ⟨g,_,cur,rfl,h2,fun i hi => ?_⟩
   rw [if_neg (by omega),Nat.zero_add]
   have hz : l[i + 4]?=some (l.getD (i + 4) 0):=by simp [show i + 4 < l.length by omega]
   have:=hcell (i + 4) _ hz
   unfold World.cell? at this
   rw [h2] at this
   rw [Nat.add_comm]
   exact this
theorem infoIns : (Tryz.prog.info? 84).map (fun i => (i.zero,i.size,i.bytes))=some (some (.agg #[.int .i64 0,.int .i64 0,.int .i64 0,.int .i64 0,.slice none 0 0]),5,56):=by kernel_rfl
theorem eqV_list {L M : List (Int×Int)} : eqV L.length M.length (fstAt L) (sndAt L) (fstAt M) (sndAt M)=true ↔ L=M:=by
 rw [eqV_iff]
 constructor
 ·rintro ⟨hl,h⟩
  apply List.ext_getElem hl
  intro i h1 h2
  obtain ⟨a,b⟩:=h i h1
  unfold fstAt at a
  unfold sndAt at b
  rw [List.getD_eq_getElem?_getD,List.getD_eq_getElem?_getD,List.getElem?_eq_getElem h1,List.getElem?_eq_getElem h2] at a b
  exact Prod.ext a b
 ·rintro rfl
  exact ⟨rfl,fun _ _ => ⟨rfl,rfl⟩⟩
theorem eqFm_iff {f g : Fm} : eqFm f g=true ↔ f=g:=by
 unfold eqFm
 rw [Bool.and_eq_true,Bool.and_eq_true,Bool.and_eq_true,beq_iff_eq,beq_iff_eq,beq_iff_eq,eqV_list]
 cases f; cases g
 simp only [Fm.mk.injEq]
 constructor
 ·rintro ⟨a,b,c,d⟩; exact ⟨a,b,d,c⟩
 ·rintro ⟨a,b,d,c⟩; exact ⟨a,b,c,d⟩
theorem eqFs_list {F G : List Fm} : eqFs F G=true ↔ F=G:=by
 rw [eqFs_iff]
 constructor
 ·rintro ⟨hl,h⟩
  apply List.ext_getElem hl
  intro i h1 h2
  have:=eqFm_iff.1 (h i h1)
  unfold fmAt at this
  rw [List.getD_eq_getElem?_getD,List.getD_eq_getElem?_getD,List.getElem?_eq_getElem h1,List.getElem?_eq_getElem h2] at this
  exact this
 ·rintro rfl
  exact ⟨rfl,fun _ _ => eqFm_iff.2 rfl⟩
theorem eqCs_list {C D : List (List (Int×Int))} : eqCs C D=true ↔ C=D:=by
 unfold eqCs
 rw [eqCl_iff]
 constructor
 ·rintro ⟨hl,h⟩
  apply List.ext_getElem hl
  intro i h1 h2
  have:=eqV_list.1 (h i h1)
  rw [List.getD_eq_getElem?_getD,List.getD_eq_getElem?_getD,List.getElem?_eq_getElem h1,List.getElem?_eq_getElem h2] at this
  exact this
 ·rintro rfl
  exact ⟨rfl,fun _ _ => eqV_list.2 rfl⟩
theorem eqSt_iff {S T : Sta} : eqSt S T=true ↔ S=T:=by
 unfold eqSt
 rw [Bool.and_eq_true,Bool.and_eq_true,Bool.and_eq_true,beq_iff_eq,beq_iff_eq,eqFs_list,eqCs_list]
 cases S; cases T
 simp only [Sta.mk.injEq]
 constructor
 ·rintro ⟨a,b,c,d⟩; exact ⟨c,d,a,b⟩
 ·rintro ⟨c,d,a,b⟩; exact ⟨a,b,c,d⟩
def lz (l : List Int) (i : Nat) : Int:=l.getD i 0
theorem eqB_list {l m : List Int} : eqB l.length m.length (lz l) (lz m)=decide (l=m):=by
 unfold eqB
 rw [Bool.eq_iff_iff,decide_eq_true_iff,decide_eq_true_iff]
 constructor
 ·rintro ⟨hl,h⟩
  apply List.ext_getElem hl
  intro i h1 h2
  have:=h i h1
  unfold lz at this
  rw [List.getD_eq_getElem?_getD,List.getD_eq_getElem?_getD,List.getElem?_eq_getElem h1,List.getElem?_eq_getElem h2] at this
  exact this
 ·rintro rfl
  exact ⟨rfl,fun _ _ => rfl⟩
def SOwn (B : Nat) (w : World) (fv cv : Value) (S : Sta) : Prop:=∃ rv xv,Own B w fv cv rv xv S
theorem SOwn.stay {B : Nat} {w w' : World} {fv cv : Value} {S : Sta} (h : SOwn B w fv cv S) (hb : ∀ k,B≤k→k < w.heap.size→w'.heap[k]?=w.heap[k]?) : SOwn B w' fv cv S:=let ⟨rv,xv,h⟩:=h; ⟨rv,xv,h.stay hb⟩
theorem SOwn.below {B : Nat} {w w' : World} {fv cv : Value} {S : Sta} (h : SOwn B w fv cv S) (hb : Below w.heap.size w w') : SOwn B w' fv cv S:=h.stay fun k _ hk => hb.block k hk
theorem SOwn.at {B : Nat} {w : World} {fv cv : Value} {S : Sta} {np : Nat} {P : Nat→Pc} (h : SOwn B w fv cv S) (hc : CodeOK np P) (ok : StaOK np P S) : StaAt w fv cv S:=by
 obtain ⟨rv,xv,h⟩:=h
 refine h.at (by have:=ok.few; omega) (by have:=ok.cn; omega) (fun i hi => ?_) fun i hi => ?_
 ·have k:=ok.frames i hi
  have hpn : (fmAt S.fs i).proc.toNat < np:=by have:=k.p0; have:=k.p1; omega
  have:=hc.r1 _ hpn
  have:=k.len
  omega
 ·have hm:=getD_mem (d:=[]) hi
  have:=ok.cells.hi _ hm
  omega
def NOwn (B : Nat) (w : World) (v : Value) (l : List Int) : Prop:=w.ownsRow B 3 1 v l.length (l.map (Value.int .i64))
theorem NOwn.stay {B : Nat} {w w' : World} {v : Value} {l : List Int} (h : NOwn B w v l) (hb : ∀ k,B≤k→k < w.heap.size→w'.heap[k]?=w.heap[k]?) : NOwn B w' v l:=ownsRow_block h fun k hk => hb k (h.lt k hk).1 (h.lt k hk).2
theorem NOwn.below {B : Nat} {w w' : World} {v : Value} {l : List Int} (h : NOwn B w v l) (hb : Below w.heap.size w w') : NOwn B w' v l:=h.stay fun k _ hk => hb.block k hk
theorem NOwn.nums {B : Nat} {w : World} {v : Value} {l : List Int} (h : NOwn B w v l) (hl : l.length≤1000000) : NumsAt w.heap.size w v l.length (lz l):=by
 obtain ⟨a,cap,rfl,h0 | ⟨b,o,rfl,hb,hc⟩⟩:=own_intsv h
 ·exact ⟨a,cap,rfl,by omega,Or.inl h0⟩
 ·exact ⟨_,cap,rfl,by omega,Or.inr ⟨b,o,rfl,hb,hc⟩⟩
def StaK (w : World) (S' : Sta) (e : Ending) (w' : World) : Prop :=
 ∃ fa fc ca cc,e=.returned (.tuple #[.agg #[.slice fa S'.fs.length fc,.slice ca S'.cs.length cc,.int .i64 S'.st,.int .i64 S'.wh],.int .i64 0]) ∧
  Hid (SOwn w.heap.size w' (.slice fa S'.fs.length fc) (.slice ca S'.cs.length cc) S')∧Below w.heap.size w w'
theorem own_len {B : Nat} {w : World} {e : TypeId} {s n m c : Nat} {a : Option Addr} {xs : List Value} (h : w.ownsRow B e s (.slice a m c) n xs) : m=n:=by
 obtain ⟨_,_,e⟩:=own_shape h
 injection e
section
variable {np : Nat} {P : Nat→Pc}
theorem newK (M : Nat) (vp : Value) (w : World) (hM : M≤w.heap.size) (hp : ProcsAt M w vp np P) (he : codeErr np P=0) :
  Calls Tryz.prog 12 #[vp] w (StaK w ⟨[⟨0,0,List.replicate (P 0).regs.toNat (0,0),0⟩],[],0,0⟩):=by
 refine (newP M vp w hM hp he).mono ?_
 rintro e w' ⟨fa,nf,fc,ca,nc,cc,rv,xv,rfl,ho,hb⟩
 obtain rfl:=own_len ho.fr
 obtain rfl:=own_len ho.ce
 exact ⟨fa,fc,ca,cc,rfl,⟨rv,xv,ho⟩,hb⟩
theorem sweepK (S : Sta) (fv cv : Value) (w : World) (h : StaAt w fv cv S) (hc : CodeOK np P) (hs : StaOK np P S) :
  Calls Tryz.prog 21 #[.agg #[fv,cv,.int .i64 S.st,.int .i64 S.wh]] w fun e w' => ∃ fa fc ca cc,e=.returned (.agg #[.slice fa (sweptS S).fs.length fc,.slice ca (sweptS S).cs.length cc,.int .i64 S.st,.int .i64 S.wh])∧Hid (SOwn w.heap.size w' (.slice fa (sweptS S).fs.length fc) (.slice ca (sweptS S).cs.length cc) (sweptS S))∧Below w.heap.size w w':=by
 refine (sweepP S fv cv w h hc hs).mono ?_
 rintro e w' ⟨fv',cv',rv,xv,rfl,ho,hb⟩
 obtain ⟨a,c,rfl⟩:=own_shape ho.out.fr
 obtain ⟨b,d,rfl⟩:=own_shape ho.out.ce
 exact ⟨a,c,b,d,rfl,⟨rv,xv,ho.out⟩,hb.out⟩
end
theorem SOwn.lower {B B' : Nat} {w : World} {fv cv : Value} {S : Sta} (h : SOwn B w fv cv S) (hb : B'≤B) : SOwn B' w fv cv S:=let ⟨rv,xv,h⟩:=h; ⟨rv,xv,h.lower hb⟩
theorem SOwn.keep {B : Nat} {w w' : World} {fv cv : Value} {S : Sta} (h : SOwn B w fv cv S) (hk : ∀ t,¬ t=26→Keeps t w w') : SOwn B w' fv cv S:=by
 obtain ⟨rv,xv,h⟩:=h
 have k1:=hk 40 (by decide)
 have k2:=hk 35 (by decide)
 have k3:=hk 92 (by decide)
 exact ⟨rv,xv,own_keep h.fr k1,own_keep h.ce k2,h.rl,fun i hi => let ⟨u,h1,h2⟩:=h.regs i hi; ⟨u,h1,own_keep h2 k3⟩,fun i hi => let ⟨u,h1,h2⟩:=h.cells i hi; ⟨u,h1,own_keep h2 k3⟩,h.rr,h.xx,h.rx⟩
theorem NOwn.lower {B B' : Nat} {w : World} {v : Value} {l : List Int} (h : NOwn B w v l) (hb : B'≤B) : NOwn B' w v l:=ownsRow_lower h hb
theorem box_put {X : Nat} {w : World} {a b c d : Value} (a' b' c' d' : Value) (h : Box4 26 X w a b c d) : ∃ W,((((w.setCell ⟨X,0,none⟩ a').setCell ⟨X,1,none⟩ b').setCell ⟨X,2,none⟩ c').setCell ⟨X,3,none⟩ d')=W∧Box4 26 X W a' b' c' d'∧(∀ k,¬ k=X→W.heap[k]?=w.heap[k]?)∧W.heap.size=w.heap.size∧(∀ N,N≤X→Below N w W)∧∀ t,¬ t=26→Keeps t w W:=by
 refine ⟨_,rfl,?_,fun k hk => set4_heap hk,by simp,fun N hN => ?_,fun t ht k cur hk => ?_⟩
 ·unfold Box4 at h ⊢
  have h1:=heap_setCell_same w X 0 _ _ a' h
  have h2:=heap_setCell_same _ X 1 _ _ b' h1
  have h3:=heap_setCell_same _ X 2 _ _ c' h2
  exact heap_setCell_same _ X 3 _ _ d' h3
 ·exact ((((Below.refl _ _).setCell hN _).setCell hN _).setCell hN _).setCell hN _
 ·rw [set4_heap]
  ·exact hk
  ·intro e
   unfold Box4 at h
   rw [e,h] at hk
   injection hk with hk
   injection hk with _ hk _
   exact ht hk.symm
end Go.Proofs.YtfaokaohhchdhaaGreatDoor
