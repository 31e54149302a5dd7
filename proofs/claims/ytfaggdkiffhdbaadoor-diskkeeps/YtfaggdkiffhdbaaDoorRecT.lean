/- Records whose lists lie in rows of numbers, wherever in them. -/
import Derived.Test.YtfaggdkiffhdbaaDoorRecR
namespace Go.Proofs.YtfaggdkiffhdbaaDoor
open Go.RowKit Go.Maps

/-- The list l of numbers lies there,in a row of numbers. -/
structure NumsT (w : World) (a : Option Addr) (c : Nat) (l : List Int) : Prop where
 le : l.length≤c
 big : c≤9223372036854775807
 nil : a=none→l=[]∧c=0
 one : ∀ p,a=some p→l=[]∨∃ b o cs,p=⟨b,o,none⟩∧w.heap[b]?=some (Obj.cells cs 3 (0,0))∧∀ (i : Nat) (z : Int),l[i]?=some z→cs[o + i]?=some (.int .i64 z)
 fit : ∀ z ∈ l,i64 z

theorem NumsT.keep {w w' : World} {a : Option Addr} {c : Nat} {l : List Int} (h : NumsT w a c l) (k : Keeps 3 w w') : NumsT w' a c l:=by
 refine ⟨h.le,h.big,h.nil,fun p hp => ?_,h.fit⟩
 rcases h.one p hp with h0 | ⟨b,o,cs,e,hb,hc⟩
 ·exact Or.inl h0
 ·exact Or.inr ⟨b,o,cs,e,k b cs hb,hc⟩
theorem NumsT.list {w : World} {a : Option Addr} {c : Nat} {l : List Int} (h : NumsT w a c l) : NumsL w.heap.size w a c l:=by
 refine ⟨h.le,h.big,h.nil,fun p hp => ?_,h.fit⟩
 rcases h.one p hp with h0 | ⟨b,o,cs,e,hb,hc⟩
 ·exact Or.inl h0
 ·refine Or.inr ⟨b,o,e,(Array.getElem?_eq_some_iff.1 hb).1,fun i z hi => ?_⟩
  unfold World.cell?
  rw [hb]
  exact hc i z hi
theorem NumsT.none (w : World) : NumsT w .none 0 []:=⟨Nat.le_refl _,by omega,fun _ => ⟨rfl,rfl⟩,(fun p hp => by cases hp),(fun z hz => by cases hz)⟩

/-- A row of the call's own,as a block. -/
theorem is_block {B : Nat} {w : World} {v : Value} {zs : List Int} (h : IS B w v zs) (h0 : 0 < zs.length) : ∃ g c cs,v=.slice (some ⟨g,0,none⟩) zs.length c∧zs.length≤c∧c≤9223372036854775807∧B≤g∧g < w.heap.size∧w.heap[g]?=some (Obj.cells cs 3 (0,0))∧∀ (i : Nat) (z : Int),zs[i]?=some z→cs[i]?=some (.int .i64 z):=by
 rcases id h.2 with ⟨e,he⟩ | ⟨g,cap,cur,e,hg,hh,h1,h2,_,ht⟩
 ·omega
 ·have hl:=(h.lt g (by rw [e]; rfl)).2
  refine ⟨g,cap,cur,e,h1,by unfold maxLen at h2; omega,hg,hl,hh,fun i z hi => ?_⟩
  have hil:=(List.getElem?_eq_some_iff.1 hi).1
  rw [← Array.getElem?_toList,← List.getElem?_take_of_lt (i:=i) (j:=zs.length * 1) (by omega),ht]
  simp [hi]
theorem is_numsT {B : Nat} {w : World} {a : Option Addr} {n c : Nat} {l : List Int} (h : IS B w (.slice a n c) l) (hf : ∀ z ∈ l,i64 z) : NumsT w a c l:=by
 by_cases h0 : 0 < l.length
 ·obtain ⟨g,c',cs,e,h1,h2,_,_,hb,hc⟩:=is_block h h0
  injection e with e1 e2 e3
  subst e1 e3
  refine ⟨h1,h2,(fun e => by cases e),fun p hp => ?_,hf⟩
  cases hp
  exact Or.inr ⟨g,0,cs,rfl,hb,fun i z hi => by rw [Nat.zero_add]; exact hc i z hi⟩
 ·have hn:=own_numsL h hf
  obtain rfl : l=[]:=List.eq_nil_of_length_eq_zero (by omega)
  exact ⟨hn.le,hn.big,hn.nil,fun p hp => Or.inl rfl,hf⟩

/-- A record whose lists lie in rows of numbers. -/
def RecT (w : World) (sa : Option Addr) (sc : Nat) (ia : Option Addr) (ic : Nat) (r : Rc) : Prop:=NumsT w sa sc r.says∧NumsT w ia ic r.img
theorem RecT.keep {w w' : World} {sa ia : Option Addr} {sc ic : Nat} {r : Rc} (h : RecT w sa sc ia ic r) (k : Keeps 3 w w') : RecT w' sa sc ia ic r:=⟨h.1.keep k,h.2.keep k⟩
theorem RecT.below {w w' : World} {sa ia : Option Addr} {sc ic : Nat} {r : Rc} (h : RecT w sa sc ia ic r) (hb : Below w.heap.size w w') : RecT w' sa sc ia ic r:=h.keep (Keeps.of hb)
theorem RecT.rec {w : World} {sa ia : Option Addr} {sc ic : Nat} {r : Rc} (h : RecT w sa sc ia ic r) : RecIn w.heap.size w sa sc ia ic r:=⟨h.1.list,h.2.list⟩
theorem RecT.i64 {w : World} {sa ia : Option Addr} {sc ic : Nat} {r : Rc} (h : RecT w sa sc ia ic r) : recI64 r:=⟨h.1.fit,h.2.fit⟩
theorem RecOwn.T {w : World} {sa ia : Option Addr} {sc ic : Nat} {r : Rc} (h : RecOwn w sa sc ia ic r) : RecT w sa sc ia ic r:=⟨let ⟨_,h1⟩:=h.1; is_numsT h1 h.2.2.1,let ⟨_,h1⟩:=h.2.1; is_numsT h1 h.2.2.2⟩

/-- What is handed back: a record,and a number or a Bool. -/
def RecKt (w : World) (r : Rc) (u : Value) (e : Ending) (w' : World) : Prop :=
 ∃ sa sc ia ic,e=.returned (.tuple #[.agg #[.int .i64 r.kind,.int .i64 r.co,.int .i64 r.ep,.int .i64 r.pl,.slice sa r.says.length sc,.slice ia r.img.length ic],u])∧Hid (RecT w' sa sc ia ic r)∧Hid (Below w.heap.size w w')
theorem RecKt.nothing {w w' : World} {u : Value} (hb : Below w.heap.size w w') : RecKt w rc0 u (.returned (.tuple #[.agg #[.int .i64 0,.int .i64 0,.int .i64 0,.int .i64 0,.slice none 0 0,.slice none 0 0],u])) w' :=
 ⟨none,0,none,0,rfl,⟨NumsT.none _,NumsT.none _⟩,hb⟩
theorem RecK.T {w w' : World} {r : Rc} {u : Value} {e : Ending} (h : RecK w r u e w') : RecKt w r u e w':=by
 obtain ⟨sa,sc,ia,ic,he,ho,hb⟩:=h
 exact ⟨sa,sc,ia,ic,he,ho.out.T,hb⟩

/-- A slice of numbers,cut at both ends. -/
theorem sl_both (g o n c i j : Nat) (hij : i≤j) (hj : j≤c) (w : World) : (Instr.slice 22 (.slice (some ⟨g,o,none⟩) n c) (some (.int .i64 (i : Nat))) (some (.int .i64 (j : Nat))) none).run Tryd.prog w=.ok (.slice (some ⟨g,if c=i then o else o + i,none⟩) (j - i) (c - i)) w:=by
 have hs3 : ∀ w : World,(sizeOf 3).run Tryd.prog w=.ok 1 w:=fun w => by kernel_rfl
 simp [Instr.slice,Instr.sliceBounds,Instr.sliceBound,asIntOf,run_underlying Tryd.underlying22,hs3,go_sem]
 rw [if_pos hj,if_pos hij]
 by_cases h : c=i
 ·rw [if_pos h,if_pos h]
 ·rw [if_neg h,if_neg h]

end Go.Proofs.YtfaggdkiffhdbaaDoor
