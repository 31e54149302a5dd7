/- How programs of instructions that are read as data lie in memory. -/
import Derived.Test.YtfaggdkiffhdbaaGreatDoorPart6
import Derived.Deep.SlicePairs
namespace Go.Proofs.YtfaggdkiffhdbaaGreatDoor
open Go.ChangeShapes Go.WideShapes Go.ChangeAt Go.RowKit Go.Deep

theorem cLInt1 : Tryz.prog.cellsOf 25=1:=by kernel_rfl
theorem cInt1 : Tryz.prog.cellsOf 3=1:=by kernel_rfl

theorem plainAt {w : World} {a : Addr} {v : Value} (h : w.cell? (a.add 0)=some v) : a=⟨a.block,a.off,none⟩:=by
 have hs:=World.cell?_spot h
 obtain ⟨b,o,s⟩:=a
 have hs' : s=none:=by simpa [Addr.add] using hs
 rw [hs']

theorem lenFive {α : Type} {l : List α} (h : l.length=5) : ∃ a b c d e,l=[a,b,c,d,e]:=by
 rcases l with _ | ⟨a,_ | ⟨b,_ | ⟨c,_ | ⟨d,_ | ⟨e,_ | ⟨f,l⟩⟩⟩⟩⟩⟩
 ·cases h
 ·cases h
 ·cases h
 ·cases h
 ·cases h
 ·exact ⟨a,b,c,d,e,rfl⟩
 ·simp at h

theorem lenThree {α : Type} {l : List α} (h : l.length=3) : ∃ a b c,l=[a,b,c]:=by
 rcases l with _ | ⟨a,_ | ⟨b,_ | ⟨c,_ | ⟨d,l⟩⟩⟩⟩
 ·cases h
 ·cases h
 ·cases h
 ·exact ⟨a,b,c,rfl⟩
 ·simp at h

theorem pick_lt {α : Type} [Inhabited α] {n : Nat} {p : Nat→α→Prop} (h : ∀ i,i < n→∃ x,p i x) : ∃ f : Nat→α,∀ i,i < n→p i (f i) :=
 ⟨fun i => if hi : i < n then Classical.choose (h i hi) else default,fun i hi => by
  show p i (if hi : i < n then Classical.choose (h i hi) else default)
  rw [dif_pos hi]; exact Classical.choose_spec (h i hi)⟩

section
variable {H : Type} {enc : TypeId×Value→H} {W : World} {base : Nat} {spare : Nat→Bool} {held : Bool}

/-- A slice,opened at each index. -/
theorem sliceEach {t e : TypeId} {fuel : Nat} {v : Value} {x : DataW H×List MemPlace} (ht : Tryz.prog.underlying t=some (.slice e)) (h : DataW.trod enc Tryz.prog W base spare held fuel t [v]=some x) :
  v=.slice none 0 0∨∃ (a : Addr) (len cap n : Nat),v=.slice (some a) len cap∧len≤9223372036854775807 ∧
   ∀ i,i < len→∃ cs y,W.cells? base (a.add (i * Tryz.prog.cellsOf e)) (Tryz.prog.cellsOf e)=some cs∧DataW.trod enc Tryz.prog W base spare held n e cs=some y:=by
 rcases DataW.trod_slice ht h with ⟨hcs,_⟩ | ⟨a,len,cap,elems,rest,n,hfu,hcs,rfl,hb,hl,hm,hlen,hel,_⟩
 ·exact Or.inl (by simpa using hcs)
 ·refine Or.inr ⟨a,len,cap,n,by simpa using hcs,by unfold maxLen at hm; omega,fun i hi => ?_⟩
  have key:=hel i hi
  rw [List.getElem?_eq_getElem (by omega)] at key
  obtain ⟨cs',h1,h2⟩:=Option.bind_eq_some_iff.1 key
  exact ⟨cs',_,h1,h2⟩

theorem nums_of_trod {fuel : Nat} {v : Value} {x : DataW H×List MemPlace} (h : DataW.trod enc Tryz.prog W base spare held fuel 25 [v]=some x) : ∃ n z,NumsAt W.heap.size W v n z:=by
 rcases sliceEach Tryz.underlying25 h with rfl | ⟨a,len,cap,n,rfl,hl,hi⟩
 ·exact ⟨0,fun _ => 0,none,0,rfl,by omega,Or.inl rfl⟩
 ·have each : ∀ i,i < len→∃ z : Int,W.cell? (a.add i)=some (.int .i64 z):=by
   intro i hlt
   obtain ⟨cs,y,h1,h2⟩:=hi i hlt
   rw [cInt1,Nat.mul_one] at h1
   obtain ⟨_,hlen,hcell⟩:=World.cells?_some h1
   obtain ⟨z,e,_,_⟩:=DataW.trod_int Tryz.underlying3 h2
   subst e
   have:=hcell 0 (by omega)
   rw [add_add,Nat.add_zero] at this
   exact ⟨z,by simpa using this⟩
  obtain ⟨z,hz⟩:=pick_lt each
  refine ⟨len,z,some a,cap,rfl,hl,?_⟩
  by_cases h0 : len=0
  ·exact Or.inl h0
  ·right
   have hp:=plainAt (hz 0 (by omega))
   refine ⟨a.block,a.off,by rw [hp],?_,fun i hlt => ?_⟩
   ·have:=cell_lt (hz 0 (by omega))
    simpa [Addr.add] using this
   ·have:=hz i hlt
    rw [hp,add_plain] at this
    exact this

end
end Go.Proofs.YtfaggdkiffhdbaaGreatDoor
namespace Go.Proofs.YtfaggdkiffhdbaaGreatDoor
open Go.ChangeShapes Go.WideShapes Go.ChangeAt Go.RowKit

/-- The list l of numbers lies there,below block N. -/
structure NumsL (N : Nat) (w : World) (a : Option Addr) (c : Nat) (l : List Int) : Prop where
 le : l.length≤c
 big : c≤9223372036854775807
 nil : a=none→l=[]∧c=0
 one : ∀ p,a=some p→l=[]∨∃ b o,p=⟨b,o,none⟩∧b < N∧∀ i z,l[i]?=some z→w.cell? ⟨b,o + i,none⟩=some (.int .i64 z)
 fit : ∀ z ∈ l,-9223372036854775808≤z∧z≤9223372036854775807

theorem NumsL.below {N : Nat} {w w' : World} {a : Option Addr} {c : Nat} {l : List Int} (h : NumsL N w a c l) (hb : Below N w w') : NumsL N w' a c l:=by
 refine ⟨h.le,h.big,h.nil,fun p hp => ?_,h.fit⟩
 rcases h.one p hp with h0 | ⟨b,o,e,hlt,hc⟩
 ·exact Or.inl h0
 ·exact Or.inr ⟨b,o,e,hlt,fun i z hi => (hb.cell (p:=⟨b,o + i,none⟩) hlt).trans (hc i z hi)⟩

theorem NumsL.nums {N : Nat} {w : World} {a : Option Addr} {c : Nat} {l : List Int} (h : NumsL N w a c l) : NumsAt N w (.slice a l.length c) l.length (fun i => l.getD i 0):=by
 refine ⟨a,c,rfl,by have:=h.le; have:=h.big; omega,?_⟩
 cases a with
 | none => exact Or.inl (by rw [(h.nil rfl).1]; rfl)
 | some p =>
  rcases h.one p rfl with h0 | ⟨b,o,rfl,hlt,hc⟩
  ·exact Or.inl (by rw [h0]; rfl)
  ·exact Or.inr ⟨b,o,rfl,hlt,fun i hi => hc i _ (by simp [hi])⟩

section
variable {H : Type} {enc : TypeId×Value→H} {W : World} {base : Nat} {spare : Nat→Bool} {held : Bool}
theorem list_of_trod {fuel : Nat} {v : Value} {x : DataW H×List MemPlace} (h : DataW.trod enc Tryz.prog W base spare held fuel 25 [v]=some x) : ∃ a c l,v=.slice a l.length c∧NumsL W.heap.size W a c l:=by
 have hc1 : Tryz.prog.cellsOf 3=1:=by kernel_rfl
 rcases open_ints Tryz.underlying25 Tryz.underlying3 hc1 h with ⟨e,_⟩ | ⟨p,len,cap,zs,e,_,hl,hm,hz,_,hcell,hwz⟩
 ·obtain rfl : v=.slice none 0 0:=by simpa using e
  exact ⟨none,0,[],rfl,⟨Nat.le_refl _,by omega,fun _ => ⟨rfl,rfl⟩,(fun p hp => by cases hp),(fun z hz => by cases hz)⟩⟩
 ·obtain rfl : v=.slice (some p) len cap:=by simpa using e
  have hlen : len≤zs.length:=by rw [hz]; split <;> omega
  have ht : (zs.take len).length=len:=by rw [List.length_take]; omega
  refine ⟨some p,cap,zs.take len,by rw [ht],⟨by omega,by unfold maxLen at hm; omega,(fun e => by cases e),(fun q hq => ?_),fun z hz => ?_⟩⟩
  ·cases hq
   by_cases h0 : len=0
   ·left; subst h0; rfl
   ·right
    obtain ⟨b,off,rfl,hc⟩:=ints_at hcell (by omega)
    have h1:=hc 0 (by omega)
    refine ⟨b,off,rfl,by have:=cell_lt h1; simpa using this,fun i z hi => ?_⟩
    have hil : i < len:=by have:=(List.getElem?_eq_some_iff.1 hi).1; omega
    rw [hc i (by omega)]
    rw [List.getElem?_take_of_lt hil] at hi
    simp [List.getD,hi]
  ·have:=hwz z (List.mem_of_mem_take hz)
   simp [Lit.wf] at this
   have e : IntKind.i64.min=-9223372036854775808:=by decide +kernel
   rw [e] at this
   exact this
end
end Go.Proofs.YtfaggdkiffhdbaaGreatDoor
