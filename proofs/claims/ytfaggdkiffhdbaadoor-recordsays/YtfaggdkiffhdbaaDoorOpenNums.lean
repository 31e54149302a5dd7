/- An argument that is a slice of numbers, opened: its shape, its numbers, their bounds. -/
import Derived.Test.YtfaggdkiffhdbaaDoorOpenCode
namespace Go.Proofs.YtfaggdkiffhdbaaDoor
open Go.ChangeShapes Go.WideShapes Go.ChangeAt Go.RowKit

/-- The list l of numbers lies there,below block N. -/
structure NumsL (N : Nat) (w : World) (a : Option Addr) (c : Nat) (l : List Int) : Prop where
 le : l.length≤c
 big : c≤9223372036854775807
 nil : a=none→l=[]∧c=0
 one : ∀ p,a=some p→l=[]∨∃ b o,p=⟨b,o,none⟩∧b < N∧∀ i z,l[i]?=some z→w.cell? ⟨b,o + i,none⟩=some (.int .i64 z)
 fit : ∀ z ∈ l,-9223372036854775808≤z∧z≤9223372036854775807

theorem NumsL.below {N : Nat} {w w' : World} {a : Option Addr} {c : Nat} {l : List Int} (h : NumsL N w a c l) (hb : Below N w w') : NumsL N w' a c l:=by
 refine ⟨h.le,h.big,h.nil,fun p hp => ?_,h.fit⟩
 rcases h.one p hp with h0 | ⟨b,o,e,hlt,hc⟩
 ·exact Or.inl h0
 ·exact Or.inr ⟨b,o,e,hlt,fun i z hi => (hb.cell (p:=⟨b,o + i,none⟩) hlt).trans (hc i z hi)⟩

theorem NumsL.nums {N : Nat} {w : World} {a : Option Addr} {c : Nat} {l : List Int} (h : NumsL N w a c l) : NumsAt N w (.slice a l.length c) l.length (fun i => l.getD i 0):=by
 refine ⟨a,c,rfl,by have:=h.le; have:=h.big; omega,?_⟩
 cases a with
 | none => exact Or.inl (by rw [(h.nil rfl).1]; rfl)
 | some p =>
  rcases h.one p rfl with h0 | ⟨b,o,rfl,hlt,hc⟩
  ·exact Or.inl (by rw [h0]; rfl)
  ·exact Or.inr ⟨b,o,rfl,hlt,fun i hi => hc i _ (by simp [hi])⟩

section
variable {H : Type} {enc : TypeId×Value→H} {W : World} {base : Nat} {spare : Nat→Bool} {held : Bool}
theorem list_of_trod {fuel : Nat} {v : Value} {x : DataW H×List MemPlace} (h : DataW.trod enc Tryd.prog W base spare held fuel 22 [v]=some x) : ∃ a c l,v=.slice a l.length c∧NumsL W.heap.size W a c l:=by
 have hc1 : Tryd.prog.cellsOf 3=1:=by kernel_rfl
 rcases open_ints Tryd.underlying22 Tryd.underlying3 hc1 h with ⟨e,_⟩ | ⟨p,len,cap,zs,e,_,hl,hm,hz,_,hcell,hwz⟩
 ·obtain rfl : v=.slice none 0 0:=by simpa using e
  exact ⟨none,0,[],rfl,⟨Nat.le_refl _,by omega,fun _ => ⟨rfl,rfl⟩,(fun p hp => by cases hp),(fun z hz => by cases hz)⟩⟩
 ·obtain rfl : v=.slice (some p) len cap:=by simpa using e
  have hlen : len≤zs.length:=by rw [hz]; split <;> omega
  have ht : (zs.take len).length=len:=by rw [List.length_take]; omega
  refine ⟨some p,cap,zs.take len,by rw [ht],⟨by omega,by unfold maxLen at hm; omega,(fun e => by cases e),(fun q hq => ?_),fun z hz => ?_⟩⟩
  ·cases hq
   by_cases h0 : len=0
   ·left; subst h0; rfl
   ·right
    obtain ⟨b,off,rfl,hc⟩:=ints_at hcell (by omega)
    have h1:=hc 0 (by omega)
    refine ⟨b,off,rfl,by have:=cell_lt h1; simpa using this,fun i z hi => ?_⟩
    have hil : i < len:=by have:=(List.getElem?_eq_some_iff.1 hi).1; omega
    rw [hc i (by omega)]
    rw [List.getElem?_take_of_lt hil] at hi
    simp [List.getD,hi]
  ·have:=hwz z (List.mem_of_mem_take hz)
   simp [Lit.wf] at this
   have e : IntKind.i64.min=-9223372036854775808:=by decide +kernel
   rw [e] at this
   exact this
end
end Go.Proofs.YtfaggdkiffhdbaaDoor
