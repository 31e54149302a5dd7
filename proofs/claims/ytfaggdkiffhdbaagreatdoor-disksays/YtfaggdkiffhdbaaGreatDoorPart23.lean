/- Records whose lists lie in rows of numbers, wherever in them. -/
import Derived.Test.YtfaggdkiffhdbaaGreatDoorRecR
import Derived.Test.YtfaggdkiffhdbaaGreatDoorRecDef
namespace Go.Proofs.YtfaggdkiffhdbaaGreatDoor
open Go.RowKit Go.Maps

/-- The list l of numbers lies there,in a row of numbers. -/
structure NumsT (w : World) (a : Option Addr) (c : Nat) (l : List Int) : Prop where
 le : l.length≤c
 big : c≤9223372036854775807
 nil : a=none→l=[]∧c=0
 one : ∀ p,a=some p→l=[]∨∃ b o cs,p=⟨b,o,none⟩∧w.heap[b]?=some (Obj.cells cs 3 (0,0))∧∀ (i : Nat) (z : Int),l[i]?=some z→cs[o + i]?=some (.int .i64 z)
 fit : ∀ z ∈ l,i64 z

theorem NumsT.keep {w w' : World} {a : Option Addr} {c : Nat} {l : List Int} (h : NumsT w a c l) (k : Keeps 3 w w') : NumsT w' a c l:=by
 refine ⟨h.le,h.big,h.nil,fun p hp => ?_,h.fit⟩
 rcases h.one p hp with h0 | ⟨b,o,cs,e,hb,hc⟩
 ·exact Or.inl h0
 ·exact Or.inr ⟨b,o,cs,e,k b cs hb,hc⟩
theorem NumsT.list {w : World} {a : Option Addr} {c : Nat} {l : List Int} (h : NumsT w a c l) : NumsL w.heap.size w a c l:=by
 refine ⟨h.le,h.big,h.nil,fun p hp => ?_,h.fit⟩
 rcases h.one p hp with h0 | ⟨b,o,cs,e,hb,hc⟩
 ·exact Or.inl h0
 ·refine Or.inr ⟨b,o,e,(Array.getElem?_eq_some_iff.1 hb).1,fun i z hi => ?_⟩
  unfold World.cell?
  rw [hb]
  exact hc i z hi
theorem NumsT.none (w : World) : NumsT w .none 0 []:=⟨Nat.le_refl _,by omega,fun _ => ⟨rfl,rfl⟩,(fun p hp => by cases hp),(fun z hz => by cases hz)⟩

/-- A row of the call's own,as a block. -/
theorem is_block {B : Nat} {w : World} {v : Value} {zs : List Int} (h : IS B w v zs) (h0 : 0 < zs.length) : ∃ g c cs,v=.slice (some ⟨g,0,none⟩) zs.length c∧zs.length≤c∧c≤9223372036854775807∧B≤g∧g < w.heap.size∧w.heap[g]?=some (Obj.cells cs 3 (0,0))∧∀ (i : Nat) (z : Int),zs[i]?=some z→cs[i]?=some (.int .i64 z):=by
 rcases id h.2 with ⟨e,he⟩ | ⟨g,cap,cur,e,hg,hh,h1,h2,_,ht⟩
 ·omega
 ·have hl:=(h.lt g (by rw [e]; rfl)).2
  refine ⟨g,cap,cur,e,h1,by unfold maxLen at h2; omega,hg,hl,hh,fun i z hi => ?_⟩
  have hil:=(List.getElem?_eq_some_iff.1 hi).1
  rw [← Array.getElem?_toList,← List.getElem?_take_of_lt (i:=i) (j:=zs.length * 1) (by omega),ht]
  simp [hi]
theorem is_numsT {B : Nat} {w : World} {a : Option Addr} {n c : Nat} {l : List Int} (h : IS B w (.slice a n c) l) (hf : ∀ z ∈ l,i64 z) : NumsT w a c l:=by
 by_cases h0 : 0 < l.length
 ·obtain ⟨g,c',cs,e,h1,h2,_,_,hb,hc⟩:=is_block h h0
  injection e with e1 e2 e3
  subst e1 e3
  refine ⟨h1,h2,(fun e => by cases e),fun p hp => ?_,hf⟩
  cases hp
  exact Or.inr ⟨g,0,cs,rfl,hb,fun i z hi => by rw [Nat.zero_add]; exact hc i z hi⟩
 ·have hn:=own_numsL h hf
  obtain rfl : l=[]:=List.eq_nil_of_length_eq_zero (by omega)
  exact ⟨hn.le,hn.big,hn.nil,fun p hp => Or.inl rfl,hf⟩

/-- A record whose lists lie in rows of numbers. -/
def RecT (w : World) (sa : Option Addr) (sc : Nat) (ia : Option Addr) (ic : Nat) (r : Rc) : Prop:=NumsT w sa sc r.says∧NumsT w ia ic r.img
theorem RecT.keep {w w' : World} {sa ia : Option Addr} {sc ic : Nat} {r : Rc} (h : RecT w sa sc ia ic r) (k : Keeps 3 w w') : RecT w' sa sc ia ic r:=⟨h.1.keep k,h.2.keep k⟩
theorem RecT.below {w w' : World} {sa ia : Option Addr} {sc ic : Nat} {r : Rc} (h : RecT w sa sc ia ic r) (hb : Below w.heap.size w w') : RecT w' sa sc ia ic r:=h.keep (Keeps.of hb)
theorem RecT.rec {w : World} {sa ia : Option Addr} {sc ic : Nat} {r : Rc} (h : RecT w sa sc ia ic r) : RecIn w.heap.size w sa sc ia ic r:=⟨h.1.list,h.2.list⟩
theorem RecT.i64 {w : World} {sa ia : Option Addr} {sc ic : Nat} {r : Rc} (h : RecT w sa sc ia ic r) : recI64 r:=⟨h.1.fit,h.2.fit⟩
theorem RecOwn.T {w : World} {sa ia : Option Addr} {sc ic : Nat} {r : Rc} (h : RecOwn w sa sc ia ic r) : RecT w sa sc ia ic r:=⟨let ⟨_,h1⟩:=h.1; is_numsT h1 h.2.2.1,let ⟨_,h1⟩:=h.2.1; is_numsT h1 h.2.2.2⟩

/-- What is handed back: a record,and a number or a Bool. -/
def RecKt (w : World) (r : Rc) (u : Value) (e : Ending) (w' : World) : Prop :=
 ∃ sa sc ia ic,e=.returned (.tuple #[.agg #[.int .i64 r.kind,.int .i64 r.co,.int .i64 r.ep,.int .i64 r.pl,.slice sa r.says.length sc,.slice ia r.img.length ic],u])∧Hid (RecT w' sa sc ia ic r)∧Hid (Below w.heap.size w w')
theorem RecKt.nothing {w w' : World} {u : Value} (hb : Below w.heap.size w w') : RecKt w rc0 u (.returned (.tuple #[.agg #[.int .i64 0,.int .i64 0,.int .i64 0,.int .i64 0,.slice none 0 0,.slice none 0 0],u])) w' :=
 ⟨none,0,none,0,rfl,⟨NumsT.none _,NumsT.none _⟩,hb⟩
theorem RecK.T {w w' : World} {r : Rc} {u : Value} {e : Ending} (h : RecK w r u e w') : RecKt w r u e w':=by
 obtain ⟨sa,sc,ia,ic,he,ho,hb⟩:=h
 exact ⟨sa,sc,ia,ic,he,ho.out.T,hb⟩

/-- A slice of numbers,cut at both ends. -/
theorem sl_both (g o n c i j : Nat) (hij : i≤j) (hj : j≤c) (w : World) : (Instr.slice 25 (.slice (some ⟨g,o,none⟩) n c) (some (.int .i64 (i : Nat))) (some (.int .i64 (j : Nat))) none).run Tryz.prog w=.ok (.slice (some ⟨g,if c=i then o else o + i,none⟩) (j - i) (c - i)) w:=by
 have hs3 : ∀ w : World,(sizeOf 3).run Tryz.prog w=.ok 1 w:=fun w => by kernel_rfl
 simp [Instr.slice,Instr.sliceBounds,Instr.sliceBound,asIntOf,run_underlying Tryz.underlying25,hs3,go_sem]
 rw [if_pos hj,if_pos hij]
 by_cases h : c=i
 ·rw [if_pos h,if_pos h]
 ·rw [if_neg h,if_neg h]

end Go.Proofs.YtfaggdkiffhdbaaGreatDoor
namespace Go.Proofs.YtfaggdkiffhdbaaGreatDoor
open Go.RowKit

/-- The first line of a text: what is wrong with it,its record,how many bytes it has. -/
def dLine (s : List UInt8) : Int×Rc×Nat :=
 match (cutAt 10 s).2 with
 | none => (8,rc0,0)
 | some _ => ((recSays (cutAt 10 s).1).1,(recSays (cutAt 10 s).1).2,(cutAt 10 s).1.length + 1)

/-- The records at the begin of a text,m at most; how many bytes they have; what is wrong with the next line. -/
def dRead : Nat→List UInt8→List Rc×Nat×Int
 | 0,s => if s=[] then ([],0,0) else if (dLine s).1=0 then ([],0,2) else ([],0,(dLine s).1)
 | c + 1,s => if s=[] then ([],0,0) else if (dLine s).1=0 then
   ((dLine s).2.1 :: (dRead c (s.drop (dLine s).2.2)).1,(dLine s).2.2 + (dRead c (s.drop (dLine s).2.2)).2.1,(dRead c (s.drop (dLine s).2.2)).2.2)
  else ([],0,(dLine s).1)

theorem dLine_app {x r : List UInt8} (h : ¬ (10 : UInt8) ∈ x) : dLine (x ++ 10 :: r)=((recSays x).1,(recSays x).2,x.length + 1):=by
 unfold dLine
 rw [cutAt_app 10 x r h]
theorem dLine_none {s : List UInt8} (h : ¬ (10 : UInt8) ∈ s) : dLine s=(8,rc0,0):=by
 unfold dLine
 cases hc : (cutAt 10 s).2 with
 | none => rfl
 | some r =>
  obtain ⟨e1,_⟩:=cutAt_some 10 (l:=s) (x:=(cutAt 10 s).1) (r:=r) (by rw [← hc])
  exact absurd (by rw [e1]; simp) h
/-- A text has a first line,or none. -/
theorem line_cut (s : List UInt8) : ¬ (10 : UInt8) ∈ s∨∃ x r,s=x ++ 10 :: r∧¬ (10 : UInt8) ∈ x:=by
 cases hc : (cutAt 10 s).2 with
 | none =>
  obtain ⟨e1,e2⟩:=cutAt_none 10 (l:=s) (x:=(cutAt 10 s).1) (by rw [← hc])
  exact Or.inl e2
 | some r =>
  obtain ⟨e1,e2⟩:=cutAt_some 10 (l:=s) (x:=(cutAt 10 s).1) (r:=r) (by rw [← hc])
  exact Or.inr ⟨_,r,e1,e2⟩
theorem dLine_ok {s : List UInt8} (h : (dLine s).1=0) : ∃ x r,s=x ++ 10 :: r∧¬ (10 : UInt8) ∈ x∧(recSays x).1=0∧dLine s=(0,(recSays x).2,x.length + 1)∧s.drop (dLine s).2.2=r:=by
 rcases line_cut s with h0 | ⟨x,r,e,hx⟩
 ·rw [dLine_none h0] at h; simp at h
 ·subst e
  have hl:=dLine_app (r:=r) hx
  rw [hl] at h
  refine ⟨x,r,rfl,hx,h,by rw [hl,show (recSays x).1=0 from h],?_⟩
  rw [hl]
  simp
theorem dLine_size {s : List UInt8} (h : (dLine s).1=0) : 0 < (dLine s).2.2∧(dLine s).2.2≤s.length:=by
 obtain ⟨x,r,e,_,_,hl,_⟩:=dLine_ok h
 rw [hl]
 subst e
 simp

theorem dRead_nil (c : Nat) : dRead c []=([],0,0):=by cases c <;> simp [dRead]
theorem dRead_bad (c : Nat) {s : List UInt8} (hs : ¬ s=[]) (h : ¬ (dLine s).1=0) : dRead c s=([],0,(dLine s).1):=by
 cases c <;> simp [dRead,hs,h]
theorem dRead_full {s : List UInt8} (hs : ¬ s=[]) (h : (dLine s).1=0) : dRead 0 s=([],0,2):=by simp [dRead,hs,h]
theorem dRead_more (c : Nat) {s : List UInt8} (hs : ¬ s=[]) (h : (dLine s).1=0) : dRead (c + 1) s=((dLine s).2.1 :: (dRead c (s.drop (dLine s).2.2)).1,(dLine s).2.2 + (dRead c (s.drop (dLine s).2.2)).2.1,(dRead c (s.drop (dLine s).2.2)).2.2):=by
 rw [dRead,if_neg hs,if_pos h]

theorem dRead_many : ∀ (c : Nat) (s : List UInt8),(dRead c s).1.length≤c∧(dRead c s).2.1≤s.length
 | c,s => by
  by_cases hs : s=[]
  ·subst hs; rw [dRead_nil]; simp
  ·by_cases h : (dLine s).1=0
   ·cases c with
    | zero => rw [dRead_full hs h]; simp
    | succ c =>
     rw [dRead_more c hs h]
     obtain ⟨i1,i2⟩:=dRead_many c (s.drop (dLine s).2.2)
     have:=dLine_size h
     rw [List.length_drop] at i2
     refine ⟨?_,?_⟩
     ·show (_ :: (dRead c _).1).length≤c + 1
      rw [List.length_cons]; omega
     ·show (dLine s).2.2 + (dRead c _).2.1≤s.length
      omega
   ·rw [dRead_bad c hs h]; simp

/-- What is read so far. -/
def DIn (m : Nat) (s : List UInt8) (done : List Rc) (size : Nat) : Prop:=done.length≤m∧size≤s.length∧dRead m s=(done ++ (dRead (m - done.length) (s.drop size)).1,size + (dRead (m - done.length) (s.drop size)).2.1,(dRead (m - done.length) (s.drop size)).2.2)

theorem DIn.start (m : Nat) (s : List UInt8) : DIn m s [] 0:=⟨Nat.zero_le _,Nat.zero_le _,by simp⟩
theorem DIn.over {m : Nat} {s : List UInt8} {done : List Rc} {size : Nat} (h : DIn m s done size) (e : size=s.length) : dRead m s=(done,size,0):=by
 rw [h.2.2,List.drop_eq_nil_of_le (by omega),dRead_nil]; simp
theorem drop_ne {s : List UInt8} {n : Nat} (h : n < s.length) : ¬ s.drop n=[]:=fun e => by
 have:=congrArg List.length e
 rw [List.length_drop] at this; simp at this; omega
theorem DIn.bad {m : Nat} {s : List UInt8} {done : List Rc} {size : Nat} (h : DIn m s done size) (hs : size < s.length) (e : ¬ (dLine (s.drop size)).1=0) : dRead m s=(done,size,(dLine (s.drop size)).1):=by
 rw [h.2.2,dRead_bad _ (drop_ne hs) e]; simp
theorem DIn.many {m : Nat} {s : List UInt8} {done : List Rc} {size : Nat} (h : DIn m s done size) (hs : size < s.length) (e : (dLine (s.drop size)).1=0) (hm : done.length=m) : dRead m s=(done,size,2):=by
 rw [h.2.2,hm,Nat.sub_self,dRead_full (drop_ne hs) e]; simp
theorem DIn.more {m : Nat} {s : List UInt8} {done : List Rc} {size : Nat} (h : DIn m s done size) (hs : size < s.length) (e : (dLine (s.drop size)).1=0) (hm : done.length < m) : DIn m s (done ++ [(dLine (s.drop size)).2.1]) (size + (dLine (s.drop size)).2.2):=by
 obtain ⟨h1,h2,h3⟩:=h
 have hz:=dLine_size e
 rw [List.length_drop] at hz
 refine ⟨by rw [List.length_append]; simp; omega,by omega,?_⟩
 obtain ⟨k,hk⟩ : ∃ k,m - done.length=k + 1:=⟨m - done.length - 1,by omega⟩
 rw [hk,dRead_more k (drop_ne hs) e,List.drop_drop] at h3
 have hk2 : m - (done ++ [(dLine (s.drop size)).2.1]).length=k:=by rw [List.length_append]; simp; omega
 rw [hk2,h3,List.append_assoc,Nat.add_assoc]
 rfl

theorem dRead_app : ∀ (c : Nat) (s W : List UInt8),(dRead c s).2.2=0→dRead c (s ++ W)=((dRead c s).1 ++ (dRead (c - (dRead c s).1.length) W).1,s.length + (dRead (c - (dRead c s).1.length) W).2.1,(dRead (c - (dRead c s).1.length) W).2.2)
 | c,s,W,h => by
  by_cases hs : s=[]
  ·subst hs
   rw [dRead_nil]
   simp
  ·by_cases hl : (dLine s).1=0
   ·cases c with
    | zero => rw [dRead_full hs hl] at h; simp at h
    | succ c =>
     obtain ⟨x,r,e,hx,h0,hd,hr⟩:=dLine_ok hl
     rw [dRead_more c hs hl,hr] at h ⊢
     have hne : ¬ s ++ W=[]:=fun e => hs (List.append_eq_nil_iff.1 e).1
     have hsw : s ++ W=x ++ 10 :: (r ++ W):=by rw [e]; simp
     have hlw : dLine (s ++ W)=dLine s:=by
      rw [hsw,dLine_app hx,hd,h0]
     have hdr : (s ++ W).drop (dLine (s ++ W)).2.2=r ++ W:=by rw [hlw,hd,hsw]; simp
     rw [dRead_more c hne (by rw [hlw]; exact hl),hdr,hlw,dRead_app c r W h]
     simp only [List.length_cons,List.cons_append,Nat.add_sub_add_right]
     have hsl : s.length=x.length + 1 + r.length:=by rw [e]; simp; omega
     rw [hsl,hd]
     simp only [Nat.add_assoc]
   ·rw [dRead_bad c hs hl] at h
    exact absurd h hl
theorem dRead_whole : ∀ (c : Nat) (s : List UInt8),(dRead c s).2.2=0→(dRead c s).2.1=s.length:=fun c s h => by
 have:=dRead_app c s [] h
 rw [List.append_nil,dRead_nil] at this
 rw [this]
 simp

/-- Pieces with what they end with. -/
theorem splitA_none {s : List UInt8} (h : ¬ (10 : UInt8) ∈ s) : Lib.splitK [10] 1 (s.count 10) s=[s]:=by
 rw [List.count_eq_zero.2 h]; rfl
theorem splitA_line {x r : List UInt8} (h : ¬ (10 : UInt8) ∈ x) : Lib.splitK [10] 1 ((x ++ 10 :: r).count 10) (x ++ 10 :: r)=(x ++ [10]) :: Lib.splitK [10] 1 (r.count 10) r:=by
 rw [List.count_append,List.count_cons_self,List.count_eq_zero.2 h,Nat.zero_add]
 have hi:=index_c 10 x r h
 have hne : ¬ (Lib.index (x ++ 10 :: r) [10] == -1)=true:=fun e => by have:=beq_iff_eq.1 e; omega
 rw [Lib.splitK,if_neg hne,hi]
 have d : (x ++ 10 :: r).drop ((x.length : Int).toNat + [(10 : UInt8)].length)=r:=by simp
 have t : (x ++ 10 :: r).take ((x.length : Int).toNat + 1)=x ++ [10]:=by
  rw [show (x ++ 10 :: r)=(x ++ [10]) ++ r by simp,List.take_left' (by simp)]
 rw [d,t]

end Go.Proofs.YtfaggdkiffhdbaaGreatDoor
