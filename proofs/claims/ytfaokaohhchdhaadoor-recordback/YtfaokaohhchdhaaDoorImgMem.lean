/- What is read of a text in memory: the text's box, rows of instructions and of procedures of the call's own; the next line's numbers, by the program. -/
import Derived.Test.YtfaokaohhchdhaaDoorImgNums
import Derived.Test.YtfaokaohhchdhaaDoorSrcBase
namespace Go.Proofs.YtfaokaohhchdhaaDoor
open Go.RowKit Go.Maps

/-- All that was there is as it was,but for block S. -/
structure But (S : Nat) (w w' : World) : Prop where
 os : w'.os=w.os
 tape : w'.tape=w.tape
 output : w'.output=w.output
 size : w.heap.size≤w'.heap.size
 block : ∀ k,k < w.heap.size→¬ k=S→w'.heap[k]?=w.heap[k]?

theorem But.refl (S : Nat) (w : World) : But S w w:=⟨rfl,rfl,rfl,Nat.le_refl _,fun _ _ _ => rfl⟩
theorem But.trans {S : Nat} {a b c : World} (h : But S a b) (k : But S b c) : But S a c :=
 ⟨k.os.trans h.os,k.tape.trans h.tape,k.output.trans h.output,Nat.le_trans h.size k.size,fun n hn hx => (k.block n (Nat.lt_of_lt_of_le hn h.size) hx).trans (h.block n hn hx)⟩
theorem But.of {S : Nat} {a b : World} (h : Below a.heap.size a b) : But S a b:=⟨h.os,h.tape,h.output,h.size,fun k hk _ => h.block k hk⟩
theorem But.low {S N : Nat} {a b : World} (h : But S a b) (h1 : N≤S) (h2 : N≤a.heap.size) : Below N a b:=⟨h.os,h.tape,h.output,h.size,fun k hk => h.block k (Nat.lt_of_lt_of_le hk h2) (by omega)⟩
theorem But.set (S : Nat) (w : World) (i : Nat) (v : Value) : But S w (w.setCell ⟨S,i,none⟩ v):=by
 have h : Below S w (w.setCell ⟨S,i,none⟩ v):=(Below.refl S w).setCell (Nat.le_refl _) _
 exact ⟨h.os,h.tape,h.output,h.size,fun k _ hx => Below.heap_setCell w ⟨S,i,none⟩ v k hx⟩

/-- Block S holds the text s. -/
def SB (S : Nat) (w : World) (s : ByteArray) : Prop:=w.heap[S]?=some (.cells #[.string s] 9 (0,0))

theorem SB.lt {S : Nat} {w : World} {s : ByteArray} (h : SB S w s) : S < w.heap.size:=(Array.getElem?_eq_some_iff.1 h).1
theorem SB.cell {S : Nat} {w : World} {s : ByteArray} (h : SB S w s) : w.cell? ⟨S,0,none⟩=some (.string s):=by unfold World.cell?; rw [h]; rfl
theorem SB.thaw {S : Nat} {w : World} {s : ByteArray} (h : SB S w s) : w.frozen? ⟨S,0,none⟩=false:=by unfold World.frozen?; rw [h]; rfl
theorem SB.keep {S : Nat} {w w' : World} {s : ByteArray} (h : SB S w s) (hb : Below w.heap.size w w') : SB S w' s:=by unfold SB at *; rw [hb.block S (SB.lt h)]; exact h
theorem SB.set {S : Nat} {w : World} {s : ByteArray} (h : SB S w s) (t : ByteArray) : SB S (w.setCell ⟨S,0,none⟩ (.string t)) t:=by
 unfold SB at *
 rw [heap_setCell_same w S 0 _ _ _ h]
 rfl

/-- Each block of elements of type t is as it was. -/
def Keeps (t : TypeId) (w w' : World) : Prop:=∀ (k : Nat) (cur : Array Value),w.heap[k]?=some (Obj.cells cur t (0,0))→w'.heap[k]?=some (Obj.cells cur t (0,0))

theorem Keeps.refl (t : TypeId) (w : World) : Keeps t w w:=fun _ _ h => h
theorem Keeps.trans {t : TypeId} {a b c : World} (h : Keeps t a b) (k : Keeps t b c) : Keeps t a c:=fun i cur hi => k i cur (h i cur hi)
theorem Keeps.of {t : TypeId} {a b : World} (h : Below a.heap.size a b) : Keeps t a b:=fun k cur hk => by rw [h.block k (Array.getElem?_eq_some_iff.1 hk).1]; exact hk
theorem Keeps.but {t : TypeId} {S : Nat} {a b : World} {s : ByteArray} (h : But S a b) (hS : SB S a s) (ht : ¬ t=9) : Keeps t a b:=fun k cur hk => by
 rw [h.block k (Array.getElem?_eq_some_iff.1 hk).1]
 ·exact hk
 ·rintro rfl
  unfold SB at hS
  rw [hS] at hk
  injection hk with hk
  injection hk with _ h2 _
  exact ht h2.symm
theorem Keeps.grown {t u : TypeId} {a b : World} {row : Option Nat} (h : a.grownBy b row) (hr : ∀ g,row=some g→∃ cur,a.heap[g]?=some (.cells cur u (0,0))) (ht : ¬ t=u) : Keeps t a b:=fun k cur hk => by
 rw [h.block k (Array.getElem?_eq_some_iff.1 hk).1]
 ·exact hk
 ·intro e
  obtain ⟨c,hc⟩:=hr k e.symm
  rw [hc] at hk
  injection hk with hk
  injection hk with _ h2 _
  exact ht h2.symm
theorem Keeps.set {t u : TypeId} {a : World} {g i : Nat} {cur : Array Value} (hg : a.heap[g]?=some (.cells cur u (0,0))) (v : Value) (ht : ¬ t=u) : Keeps t a (a.setCell ⟨g,i,none⟩ v):=fun k c hk => by
 rw [Below.heap_setCell a ⟨g,i,none⟩ v k]
 ·exact hk
 ·rintro rfl
  rw [hg] at hk
  injection hk with hk
  injection hk with _ h2 _
  exact ht h2.symm

/-- 'v' is a slice of n numbers in a row of numbers. -/
def ArgsAt (w : World) (v : Value) (n : Nat) (z : Nat→Int) : Prop :=
 ∃ a cap,v=.slice a n cap∧n≤100000000∧(n=0∨∃ g o cur,a=some ⟨g,o,none⟩∧w.heap[g]?=some (.cells cur 3 (0,0))∧∀ i,i < n→cur[o + i]?=some (.int .i64 (z i)))

theorem ArgsAt.stay {w w' : World} {v : Value} {n : Nat} {z : Nat→Int} (h : ArgsAt w v n z) (k : Keeps 3 w w') : ArgsAt w' v n z:=by
 obtain ⟨a,cap,rfl,hn,h | ⟨g,o,cur,rfl,hg,hc⟩⟩:=h
 ·exact ⟨a,cap,rfl,hn,Or.inl h⟩
 ·exact ⟨_,cap,rfl,hn,Or.inr ⟨g,o,cur,rfl,k g cur hg,hc⟩⟩

theorem ArgsAt.nums {w : World} {v : Value} {n : Nat} {z : Nat→Int} (h : ArgsAt w v n z) : NumsAt w.heap.size w v n z:=by
 obtain ⟨a,cap,rfl,hn,h | ⟨g,o,cur,rfl,hg,hc⟩⟩:=h
 ·exact ⟨a,cap,rfl,by omega,Or.inl h⟩
 ·refine ⟨_,cap,rfl,by omega,Or.inr ⟨g,o,rfl,(Array.getElem?_eq_some_iff.1 hg).1,fun i hi => ?_⟩⟩
  unfold World.cell?
  rw [hg]
  exact hc i hi

/-- The cells of instructions: each one's numbers,and its Args. -/
def flatI : List (List Int×Value)→List Value
 | [] => []
 | x :: l => [.int .i64 (x.1.getD 0 0),.int .i64 (x.1.getD 1 0),.int .i64 (x.1.getD 2 0),.int .i64 (x.1.getD 3 0),x.2] ++ flatI l

theorem flatI_len : ∀ l,(flatI l).length=l.length * 5
 | [] => rfl
 | x :: l => by rw [flatI,List.length_append,flatI_len l,List.length_cons]; simp only [List.length_cons,List.length_nil]; omega

theorem flatI_snoc : ∀ (l : List (List Int×Value)) (x : List Int×Value),flatI (l ++ [x])=flatI l ++ [.int .i64 (x.1.getD 0 0),.int .i64 (x.1.getD 1 0),.int .i64 (x.1.getD 2 0),.int .i64 (x.1.getD 3 0),x.2]
 | [],x => by simp [flatI]
 | y :: l,x => by rw [List.cons_append,flatI,flatI_snoc l x,flatI,List.append_assoc]

theorem flatI_at : ∀ (l : List (List Int×Value)) (i : Nat) (x : List Int×Value),l[i]?=some x→(flatI l)[i * 5]?=some (.int .i64 (x.1.getD 0 0))∧(flatI l)[i * 5 + 1]?=some (.int .i64 (x.1.getD 1 0))∧(flatI l)[i * 5 + 2]?=some (.int .i64 (x.1.getD 2 0))∧(flatI l)[i * 5 + 3]?=some (.int .i64 (x.1.getD 3 0))∧(flatI l)[i * 5 + 4]?=some x.2
 | [],i,x,h => by cases h
 | y :: l,0,x,h => by
  simp only [List.getElem?_cons_zero,Option.some.injEq] at h
  subst h
  simp [flatI]
 | y :: l,i + 1,x,h => by
  have ih:=flatI_at l i x (by simpa using h)
  have e : ∀ t,(flatI (y :: l))[(i + 1) * 5 + t]?=(flatI l)[i * 5 + t]?:=fun t => by
   rw [flatI,List.getElem?_append_right (by simp only [List.length_cons,List.length_nil]; omega)]
   congr 1
   simp only [List.length_cons,List.length_nil]; omega
  have e0:=e 0
  simp only [Nat.add_zero] at e0
  rw [e0,e 1,e 2,e 3,e 4]
  exact ih

/-- 'v' is a row of instructions of the call's own,of blocks from C on. -/
def CodeRow (C : Nat) (w : World) (v : Value) (l : List (List Int×Value)) : Prop :=
 w.ownsRow C 60 5 v l.length (flatI l)∧∀ x ∈ l,ArgsAt w x.2 (x.1.length - 4) (fun j => x.1.getD (j + 4) 0)

theorem CodeRow.nil (C : Nat) (w : World) : CodeRow C w (.slice none 0 0) []:=⟨⟨rfl,Or.inl ⟨rfl,rfl⟩⟩,fun _ h => by cases h⟩

theorem own_keep {C : Nat} {t : TypeId} {sz n : Nat} {w w' : World} {v : Value} {xs : List Value} (h : w.ownsRow C t sz v n xs) (k : Keeps t w w') : w'.ownsRow C t sz v n xs:=by
 refine ⟨h.1,?_⟩
 rcases h.2 with ⟨rfl,h0⟩ | ⟨g,cap,cur,rfl,h1,h2,h3⟩
 ·exact Or.inl ⟨rfl,h0⟩
 ·exact Or.inr ⟨g,cap,cur,rfl,h1,k g cur h2,h3⟩

theorem CodeRow.stay {C : Nat} {w w' : World} {v : Value} {l : List (List Int×Value)} (h : CodeRow C w v l) (k : Keeps 60 w w') (k3 : Keeps 3 w w') : CodeRow C w' v l :=
 ⟨own_keep h.1 k,fun x hx => (h.2 x hx).stay k3⟩

/-- 'v' is a slice of n instructions,in a row of them. -/
def CodeHeap (w : World) (v : Value) (n : Nat) (ins : Nat→In) : Prop :=
 ∃ a cap,v=.slice a n cap∧n≤100000000∧(n=0∨∃ g cur,a=some ⟨g,0,none⟩∧w.heap[g]?=some (.cells cur 60 (0,0))∧∀ i,i < n→∃ va,cur[i * 5]?=some (.int .i64 (ins i).op)∧cur[i * 5 + 1]?=some (.int .i64 (ins i).a)∧cur[i * 5 + 2]?=some (.int .i64 (ins i).b) ∧
  cur[i * 5 + 3]?=some (.int .i64 (ins i).c)∧cur[i * 5 + 4]?=some va∧ArgsAt w va (ins i).n (ins i).z)

theorem CodeHeap.stay {w w' : World} {v : Value} {n : Nat} {ins : Nat→In} (h : CodeHeap w v n ins) (k : Keeps 60 w w') (k3 : Keeps 3 w w') : CodeHeap w' v n ins:=by
 obtain ⟨a,cap,rfl,hn,h | ⟨g,cur,rfl,hg,hc⟩⟩:=h
 ·exact ⟨a,cap,rfl,hn,Or.inl h⟩
 ·refine ⟨_,cap,rfl,hn,Or.inr ⟨g,cur,rfl,k g cur hg,fun i hi => ?_⟩⟩
  obtain ⟨va,c0,c1,c2,c3,c4,ha⟩:=hc i hi
  exact ⟨va,c0,c1,c2,c3,c4,ha.stay k3⟩

theorem CodeHeap.code {w : World} {v : Value} {n : Nat} {ins : Nat→In} (h : CodeHeap w v n ins) : CodeAt w.heap.size w v n ins:=by
 obtain ⟨a,cap,rfl,hn,h | ⟨g,cur,rfl,hg,hc⟩⟩:=h
 ·exact ⟨a,cap,rfl,by omega,Or.inl h⟩
 ·refine ⟨_,cap,rfl,by omega,Or.inr ⟨g,0,rfl,(Array.getElem?_eq_some_iff.1 hg).1,fun i hi => ?_⟩⟩
  obtain ⟨va,c0,c1,c2,c3,c4,ha⟩:=hc i hi
  unfold World.cell?
  rw [hg]
  exact ⟨va,by rw [Nat.zero_add]; exact c0,by rw [Nat.zero_add]; exact c1,by rw [Nat.zero_add]; exact c2,by rw [Nat.zero_add]; exact c3,by rw [Nat.zero_add]; exact c4,ha.nums⟩

theorem CodeRow.heap {C : Nat} {w : World} {v : Value} {l : List (List Int×Value)} (h : CodeRow C w v l) (hl : l.length≤100000000) : CodeHeap w v l.length (fun k => insOf ((l.map (·.1)).getD k [])):=by
 obtain ⟨h1,h2⟩:=h
 rcases h1.2 with ⟨rfl,h0⟩ | ⟨g,cap,cur,rfl,_,hg,_,_,_,ht⟩
 ·exact ⟨none,0,by rw [h0],hl,Or.inl h0⟩
 ·refine ⟨_,cap,rfl,hl,Or.inr ⟨g,cur,rfl,hg,fun i hi => ?_⟩⟩
  obtain ⟨x,hx⟩ : ∃ x,l[i]?=some x:=⟨l[i],by simp [hi]⟩
  obtain ⟨c0,c1,c2,c3,c4⟩:=flatI_at l i x hx
  have e : ∀ t,t < l.length * 5→cur[t]?=(flatI l)[t]?:=fun t htl => by
   rw [← ht,List.getElem?_take,if_pos htl,Array.getElem?_toList]
  have e2 : insOf ((l.map (·.1)).getD i [])=insOf x.1:=by
   congr 1
   simp [hx]
  simp only [e2]
  exact ⟨x.2,by rw [e _ (by omega)]; exact c0,by rw [e _ (by omega)]; exact c1,by rw [e _ (by omega)]; exact c2,by rw [e _ (by omega)]; exact c3,by rw [e _ (by omega)]; exact c4,h2 x (List.mem_of_getElem? hx)⟩

theorem nextL_short (s : List UInt8) : (nextL s).2.length≤s.length:=by
 unfold nextL
 cases h : (cutAt 10 s).2 with
 | none => exact Nat.le_refl _
 | some r =>
  obtain ⟨e1,_⟩:=cutAt_some 10 (l:=s) (x:=(cutAt 10 s).1) (r:=r) (by rw [← h])
  have:=congrArg List.length e1
  simp only [List.length_append,List.length_cons] at this
  simp only []
  omega

set_option maxHeartbeats 2000000 in
/-- The next line's numbers. -/
theorem nextC (N S : Nat) (s : ByteArray) (hs : s.size≤100000) (w : World) (hNS : N≤S) (he : NEnv N w) (hS : SB S w s) :
  Calls Tryd.prog 51 #[.pointer (some ⟨S,0,none⟩)] w fun e w' => ∃ v,e=.returned v∧Hid (IS w.heap.size w' v (nextL s.data.toList).1)∧Hid (SB S w' (bs (nextL s.data.toList).2))∧Hid (But S w w'):=by
 have HE : Hid (NEnv N w):=he
 have HS : Hid (SB S w s):=hS
 have q0:=hS.cell
 have hlt:=hS.lt
 cases hc : (cutAt 10 s.data.toList).2 with
 | none =>
  have HC : Hid (Calls Tryd.prog 52 #[.string s,.string ⟨#[10]⟩] w fun e w' => e=.returned (.tuple #[.string s,.string (bs []),.bool false])∧Below w.heap.size w w'):=by
   refine (ncut N s (by omega) w he).mono ?_
   rintro e w' ⟨⟨r,⟨h1,_⟩ | ⟨_,h2⟩⟩,hb⟩
   ·rw [hc] at h1; cases h1
   ·exact ⟨h2,hb⟩
  have HN : Hid (nextL s.data.toList=([],s.data.toList)):=by show _=_; unfold nextL; rw [hc]
  clear he hS hc
  go_enter Tryd.func51,Tryd.ntmps51
  go_wp2_with (first | (go_at_call 52; refine HC.out.mono ?_; rintro e w1 ⟨rfl,b1⟩))
  go_ret
  refine ⟨_,rfl,?_,?_,But.of b1⟩
  ·show IS _ _ _ _
   rw [HN.out]; exact IS.nil _ _
  ·show SB _ _ _
   rw [HN.out]; exact HS.out.keep b1
 | some r =>
  have HC : Hid (Calls Tryd.prog 52 #[.string s,.string ⟨#[10]⟩] w fun e w' => e=.returned (.tuple #[.string (bs (cutAt 10 s.data.toList).1),.string (bs r),.bool true])∧Below w.heap.size w w'):=by
   refine (ncut N s (by omega) w he).mono ?_
   rintro e w' ⟨⟨r',⟨h1,h2⟩ | ⟨h2,_⟩⟩,hb⟩
   ·rw [hc] at h1; cases h1; exact ⟨h2,hb⟩
   ·rw [hc] at h2; cases h2
  have HN : Hid (nextL s.data.toList=(numsOf (cutAt 10 s.data.toList).1,r)):=by show _=_; unfold nextL; rw [hc]
  have hsz : (bs (cutAt 10 s.data.toList).1).size≤100000:=by
   obtain ⟨e1,_⟩:=cutAt_some 10 (l:=s.data.toList) (x:=(cutAt 10 s.data.toList).1) (r:=r) (by rw [← hc])
   have:=congrArg List.length e1
   simp only [List.length_append,List.length_cons] at this
   have e2 : (bs (cutAt 10 s.data.toList).1).size=(cutAt 10 s.data.toList).1.length:=by simp [bs,ByteArray.size]
   have e3 : s.data.toList.length=s.size:=by simp
   omega
  have HNm : Hid (∀ w1,Below w.heap.size w w1→Calls Tryd.prog 21 #[.string (bs (cutAt 10 s.data.toList).1)] (w1.setCell ⟨S,0,none⟩ (.string (bs r))) fun e w' => ∃ v,e=.returned v∧Hid (IS (w1.setCell ⟨S,0,none⟩ (.string (bs r))).heap.size w' v (numsOf (cutAt 10 s.data.toList).1))∧Hid (Below (w1.setCell ⟨S,0,none⟩ (.string (bs r))).heap.size (w1.setCell ⟨S,0,none⟩ (.string (bs r))) w')):=fun w1 hb => by
   have hbN : Below N w (w1.setCell ⟨S,0,none⟩ (.string (bs r))):=((But.of hb).trans (But.set S w1 0 _)).low hNS (by omega)
   exact numbersOf N (bs (cutAt 10 s.data.toList).1) hsz _ (Nat.le_trans (by omega : N≤w.heap.size) hbN.size) (HE.out.below hbN)
  generalize bs (cutAt 10 s.data.toList).1=line at *
  clear he hS hc hsz
  go_enter Tryd.func51,Tryd.ntmps51
  go_wp2_with (first
   | (go_at_call 52; refine HC.out.mono ?_; rintro e w1 ⟨rfl,b1⟩; have q1:=(HS.out.keep b1).cell; have q2:=(HS.out.keep b1).thaw)
   | (go_at_call 21; refine (HNm.out _ b1).mono ?_; rintro e w2 ⟨v,rfl,HI,HB⟩))
  go_ret
  have hsz1 : (w1.setCell ⟨S,0,none⟩ (.string (bs r))).heap.size=w1.heap.size:=by simp
  refine ⟨_,rfl,?_,?_,((But.of b1).trans (But.set S w1 0 _)).trans (But.of HB.out)⟩
  ·show IS _ _ _ _
   rw [HN.out]
   exact HI.out.base (by rw [hsz1]; exact b1.size)
  ·show SB _ _ _
   rw [HN.out]
   exact ((HS.out.keep b1).set (bs r)).keep HB.out

end Go.Proofs.YtfaokaohhchdhaaDoor
