/- What is read of a text in memory: the text's box, rows of instructions and of procedures of the call's own; the next line's numbers, by the program. -/
import Derived.Test.YtfaggdkiffhdbaaGreatDoorImgNums
import Derived.Test.YtfaggdkiffhdbaaGreatDoorPart8
namespace Go.Proofs.YtfaggdkiffhdbaaGreatDoor
open Go.RowKit Go.Maps

/-- All that was there is as it was,but for block S. -/
structure But (S : Nat) (w w' : World) : Prop where
 os : w'.os=w.os
 tape : w'.tape=w.tape
 output : w'.output=w.output
 size : w.heap.size≤w'.heap.size
 block : ∀ k,k < w.heap.size→¬ k=S→w'.heap[k]?=w.heap[k]?

theorem But.refl (S : Nat) (w : World) : But S w w:=⟨rfl,rfl,rfl,Nat.le_refl _,fun _ _ _ => rfl⟩
theorem But.trans {S : Nat} {a b c : World} (h : But S a b) (k : But S b c) : But S a c :=
 ⟨k.os.trans h.os,k.tape.trans h.tape,k.output.trans h.output,Nat.le_trans h.size k.size,fun n hn hx => (k.block n (Nat.lt_of_lt_of_le hn h.size) hx).trans (h.block n hn hx)⟩
theorem But.of {S : Nat} {a b : World} (h : Below a.heap.size a b) : But S a b:=⟨h.os,h.tape,h.output,h.size,fun k hk _ => h.block k hk⟩
theorem But.low {S N : Nat} {a b : World} (h : But S a b) (h1 : N≤S) (h2 : N≤a.heap.size) : Below N a b:=⟨h.os,h.tape,h.output,h.size,fun k hk => h.block k (Nat.lt_of_lt_of_le hk h2) (by omega)⟩
theorem But.set (S : Nat) (w : World) (i : Nat) (v : Value) : But S w (w.setCell ⟨S,i,none⟩ v):=by
 have h : Below S w (w.setCell ⟨S,i,none⟩ v):=(Below.refl S w).setCell (Nat.le_refl _) _
 exact ⟨h.os,h.tape,h.output,h.size,fun k _ hx => Below.heap_setCell w ⟨S,i,none⟩ v k hx⟩

/-- Block S holds the text s. -/
def SB (S : Nat) (w : World) (s : ByteArray) : Prop:=w.heap[S]?=some (.cells #[.string s] 9 (0,0))

theorem SB.lt {S : Nat} {w : World} {s : ByteArray} (h : SB S w s) : S < w.heap.size:=(Array.getElem?_eq_some_iff.1 h).1
theorem SB.cell {S : Nat} {w : World} {s : ByteArray} (h : SB S w s) : w.cell? ⟨S,0,none⟩=some (.string s):=by unfold World.cell?; rw [h]; rfl
theorem SB.thaw {S : Nat} {w : World} {s : ByteArray} (h : SB S w s) : w.frozen? ⟨S,0,none⟩=false:=by unfold World.frozen?; rw [h]; rfl
theorem SB.keep {S : Nat} {w w' : World} {s : ByteArray} (h : SB S w s) (hb : Below w.heap.size w w') : SB S w' s:=by unfold SB at *; rw [hb.block S (SB.lt h)]; exact h
theorem SB.set {S : Nat} {w : World} {s : ByteArray} (h : SB S w s) (t : ByteArray) : SB S (w.setCell ⟨S,0,none⟩ (.string t)) t:=by
 unfold SB at *
 rw [heap_setCell_same w S 0 _ _ _ h]
 rfl

/-- Each block of elements of type t is as it was. -/
def Keeps (t : TypeId) (w w' : World) : Prop:=∀ (k : Nat) (cur : Array Value),w.heap[k]?=some (Obj.cells cur t (0,0))→w'.heap[k]?=some (Obj.cells cur t (0,0))

theorem Keeps.refl (t : TypeId) (w : World) : Keeps t w w:=fun _ _ h => h
theorem Keeps.trans {t : TypeId} {a b c : World} (h : Keeps t a b) (k : Keeps t b c) : Keeps t a c:=fun i cur hi => k i cur (h i cur hi)
theorem Keeps.of {t : TypeId} {a b : World} (h : Below a.heap.size a b) : Keeps t a b:=fun k cur hk => by rw [h.block k (Array.getElem?_eq_some_iff.1 hk).1]; exact hk
theorem Keeps.but {t : TypeId} {S : Nat} {a b : World} {s : ByteArray} (h : But S a b) (hS : SB S a s) (ht : ¬ t=9) : Keeps t a b:=fun k cur hk => by
 rw [h.block k (Array.getElem?_eq_some_iff.1 hk).1]
 ·exact hk
 ·rintro rfl
  unfold SB at hS
  rw [hS] at hk
  injection hk with hk
  injection hk with _ h2 _
  exact ht h2.symm
theorem Keeps.grown {t u : TypeId} {a b : World} {row : Option Nat} (h : a.grownBy b row) (hr : ∀ g,row=some g→∃ cur,a.heap[g]?=some (.cells cur u (0,0))) (ht : ¬ t=u) : Keeps t a b:=fun k cur hk => by
 rw [h.block k (Array.getElem?_eq_some_iff.1 hk).1]
 ·exact hk
 ·intro e
  obtain ⟨c,hc⟩:=hr k e.symm
  rw [hc] at hk
  injection hk with hk
  injection hk with _ h2 _
  exact ht h2.symm
theorem Keeps.set {t u : TypeId} {a : World} {g i : Nat} {cur : Array Value} (hg : a.heap[g]?=some (.cells cur u (0,0))) (v : Value) (ht : ¬ t=u) : Keeps t a (a.setCell ⟨g,i,none⟩ v):=fun k c hk => by
 rw [Below.heap_setCell a ⟨g,i,none⟩ v k]
 ·exact hk
 ·rintro rfl
  rw [hg] at hk
  injection hk with hk
  injection hk with _ h2 _
  exact ht h2.symm

/-- 'v' is a slice of n numbers in a row of numbers. -/
def ArgsAt (w : World) (v : Value) (n : Nat) (z : Nat→Int) : Prop :=
 ∃ a cap,v=.slice a n cap∧n≤100000000∧(n=0∨∃ g o cur,a=some ⟨g,o,none⟩∧w.heap[g]?=some (.cells cur 3 (0,0))∧∀ i,i < n→cur[o + i]?=some (.int .i64 (z i)))

theorem ArgsAt.stay {w w' : World} {v : Value} {n : Nat} {z : Nat→Int} (h : ArgsAt w v n z) (k : Keeps 3 w w') : ArgsAt w' v n z:=by
 obtain ⟨a,cap,rfl,hn,h | ⟨g,o,cur,rfl,hg,hc⟩⟩:=h
 ·exact ⟨a,cap,rfl,hn,Or.inl h⟩
 ·exact ⟨_,cap,rfl,hn,Or.inr ⟨g,o,cur,rfl,k g cur hg,hc⟩⟩

theorem ArgsAt.nums {w : World} {v : Value} {n : Nat} {z : Nat→Int} (h : ArgsAt w v n z) : NumsAt w.heap.size w v n z:=by
 obtain ⟨a,cap,rfl,hn,h | ⟨g,o,cur,rfl,hg,hc⟩⟩:=h
 ·exact ⟨a,cap,rfl,by omega,Or.inl h⟩
 ·refine ⟨_,cap,rfl,by omega,Or.inr ⟨g,o,rfl,(Array.getElem?_eq_some_iff.1 hg).1,fun i hi => ?_⟩⟩
  unfold World.cell?
  rw [hg]
  exact hc i hi

/-- The cells of instructions: each one's numbers,and its Args. -/
def flatI : List (List Int×Value)→List Value
 | [] => []
 | x :: l => [.int .i64 (x.1.getD 0 0),.int .i64 (x.1.getD 1 0),.int .i64 (x.1.getD 2 0),.int .i64 (x.1.getD 3 0),x.2] ++ flatI l

theorem flatI_len : ∀ l,(flatI l).length=l.length * 5
 | [] => rfl
 | x :: l => by rw [flatI,List.length_append,flatI_len l,List.length_cons]; simp only [List.length_cons,List.length_nil]; omega

theorem flatI_snoc : ∀ (l : List (List Int×Value)) (x : List Int×Value),flatI (l ++ [x])=flatI l ++ [.int .i64 (x.1.getD 0 0),.int .i64 (x.1.getD 1 0),.int .i64 (x.1.getD 2 0),.int .i64 (x.1.getD 3 0),x.2]
 | [],x => by simp [flatI]
 | y :: l,x => by rw [List.cons_append,flatI,flatI_snoc l x,flatI,List.append_assoc]

theorem flatI_at : ∀ (l : List (List Int×Value)) (i : Nat) (x : List Int×Value),l[i]?=some x→(flatI l)[i * 5]?=some (.int .i64 (x.1.getD 0 0))∧(flatI l)[i * 5 + 1]?=some (.int .i64 (x.1.getD 1 0))∧(flatI l)[i * 5 + 2]?=some (.int .i64 (x.1.getD 2 0))∧(flatI l)[i * 5 + 3]?=some (.int .i64 (x.1.getD 3 0))∧(flatI l)[i * 5 + 4]?=some x.2
 | [],i,x,h => by cases h
 | y :: l,0,x,h => by
  simp only [List.getElem?_cons_zero,Option.some.injEq] at h
  subst h
  simp [flatI]
 | y :: l,i + 1,x,h => by
  have ih:=flatI_at l i x (by simpa using h)
  have e : ∀ t,(flatI (y :: l))[(i + 1) * 5 + t]?=(flatI l)[i * 5 + t]?:=fun t => by
   rw [flatI,List.getElem?_append_right (by simp only [List.length_cons,List.length_nil]; omega)]
   congr 1
   simp only [List.length_cons,List.length_nil]; omega
  have e0:=e 0
  simp only [Nat.add_zero] at e0
  rw [e0,e 1,e 2,e 3,e 4]
  exact ih

theorem own_keep {C : Nat} {t : TypeId} {sz n : Nat} {w w' : World} {v : Value} {xs : List Value} (h : w.ownsRow C t sz v n xs) (k : Keeps t w w') : w'.ownsRow C t sz v n xs:=by
 refine ⟨h.1,?_⟩
 rcases h.2 with ⟨rfl,h0⟩ | ⟨g,cap,cur,rfl,h1,h2,h3⟩
 ·exact Or.inl ⟨rfl,h0⟩
 ·exact Or.inr ⟨g,cap,cur,rfl,h1,k g cur h2,h3⟩

theorem nextL_short (s : List UInt8) : (nextL s).2.length≤s.length:=by
 unfold nextL
 cases h : (cutAt 10 s).2 with
 | none => exact Nat.le_refl _
 | some r =>
  obtain ⟨e1,_⟩:=cutAt_some 10 (l:=s) (x:=(cutAt 10 s).1) (r:=r) (by rw [← h])
  have:=congrArg List.length e1
  simp only [List.length_append,List.length_cons] at this
  simp only []
  omega

end Go.Proofs.YtfaggdkiffhdbaaGreatDoor
