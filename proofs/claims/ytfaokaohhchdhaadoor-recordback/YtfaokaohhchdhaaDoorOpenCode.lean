/- How programs of instructions that are read as data lie in memory. -/
import Derived.Test.YtfaokaohhchdhaaDoorInsBase
import Derived.Deep.SlicePairs
namespace Go.Proofs.YtfaokaohhchdhaaDoor
open Go.ChangeShapes Go.WideShapes Go.ChangeAt Go.RowKit Go.Deep

theorem cIns5 : Tryd.prog.cellsOf 60=5:=by kernel_rfl
theorem cProc3 : Tryd.prog.cellsOf 58=3:=by kernel_rfl
theorem cLInt1 : Tryd.prog.cellsOf 22=1:=by kernel_rfl
theorem cLIns1 : Tryd.prog.cellsOf 56=1:=by kernel_rfl
theorem cInt1 : Tryd.prog.cellsOf 3=1:=by kernel_rfl

theorem plainAt {w : World} {a : Addr} {v : Value} (h : w.cell? (a.add 0)=some v) : a=⟨a.block,a.off,none⟩:=by
 have hs:=World.cell?_spot h
 obtain ⟨b,o,s⟩:=a
 have hs' : s=none:=by simpa [Addr.add] using hs
 rw [hs']

theorem lenFive {α : Type} {l : List α} (h : l.length=5) : ∃ a b c d e,l=[a,b,c,d,e]:=by
 rcases l with _ | ⟨a,_ | ⟨b,_ | ⟨c,_ | ⟨d,_ | ⟨e,_ | ⟨f,l⟩⟩⟩⟩⟩⟩
 ·cases h
 ·cases h
 ·cases h
 ·cases h
 ·cases h
 ·exact ⟨a,b,c,d,e,rfl⟩
 ·simp at h

theorem lenThree {α : Type} {l : List α} (h : l.length=3) : ∃ a b c,l=[a,b,c]:=by
 rcases l with _ | ⟨a,_ | ⟨b,_ | ⟨c,_ | ⟨d,l⟩⟩⟩⟩
 ·cases h
 ·cases h
 ·cases h
 ·exact ⟨a,b,c,rfl⟩
 ·simp at h

theorem pick_lt {α : Type} [Inhabited α] {n : Nat} {p : Nat→α→Prop} (h : ∀ i,i < n→∃ x,p i x) : ∃ f : Nat→α,∀ i,i < n→p i (f i) :=
 ⟨fun i => if hi : i < n then Classical.choose (h i hi) else default,fun i hi => by
  show p i (if hi : i < n then Classical.choose (h i hi) else default)
  rw [dif_pos hi]; exact Classical.choose_spec (h i hi)⟩

section
variable {H : Type} {enc : TypeId×Value→H} {W : World} {base : Nat} {spare : Nat→Bool} {held : Bool}

/-- A slice,opened at each index. -/
theorem sliceEach {t e : TypeId} {fuel : Nat} {v : Value} {x : DataW H×List MemPlace} (ht : Tryd.prog.underlying t=some (.slice e)) (h : DataW.trod enc Tryd.prog W base spare held fuel t [v]=some x) :
  v=.slice none 0 0∨∃ (a : Addr) (len cap n : Nat),v=.slice (some a) len cap∧len≤9223372036854775807 ∧
   ∀ i,i < len→∃ cs y,W.cells? base (a.add (i * Tryd.prog.cellsOf e)) (Tryd.prog.cellsOf e)=some cs∧DataW.trod enc Tryd.prog W base spare held n e cs=some y:=by
 rcases DataW.trod_slice ht h with ⟨hcs,_⟩ | ⟨a,len,cap,elems,rest,n,hfu,hcs,rfl,hb,hl,hm,hlen,hel,_⟩
 ·exact Or.inl (by simpa using hcs)
 ·refine Or.inr ⟨a,len,cap,n,by simpa using hcs,by unfold maxLen at hm; omega,fun i hi => ?_⟩
  have key:=hel i hi
  rw [List.getElem?_eq_getElem (by omega)] at key
  obtain ⟨cs',h1,h2⟩:=Option.bind_eq_some_iff.1 key
  exact ⟨cs',_,h1,h2⟩

theorem nums_of_trod {fuel : Nat} {v : Value} {x : DataW H×List MemPlace} (h : DataW.trod enc Tryd.prog W base spare held fuel 22 [v]=some x) : ∃ n z,NumsAt W.heap.size W v n z:=by
 rcases sliceEach Tryd.underlying22 h with rfl | ⟨a,len,cap,n,rfl,hl,hi⟩
 ·exact ⟨0,fun _ => 0,none,0,rfl,by omega,Or.inl rfl⟩
 ·have each : ∀ i,i < len→∃ z : Int,W.cell? (a.add i)=some (.int .i64 z):=by
   intro i hlt
   obtain ⟨cs,y,h1,h2⟩:=hi i hlt
   rw [cInt1,Nat.mul_one] at h1
   obtain ⟨_,hlen,hcell⟩:=World.cells?_some h1
   obtain ⟨z,e,_,_⟩:=DataW.trod_int Tryd.underlying3 h2
   subst e
   have:=hcell 0 (by omega)
   rw [add_add,Nat.add_zero] at this
   exact ⟨z,by simpa using this⟩
  obtain ⟨z,hz⟩:=pick_lt each
  refine ⟨len,z,some a,cap,rfl,hl,?_⟩
  by_cases h0 : len=0
  ·exact Or.inl h0
  ·right
   have hp:=plainAt (hz 0 (by omega))
   refine ⟨a.block,a.off,by rw [hp],?_,fun i hlt => ?_⟩
   ·have:=cell_lt (hz 0 (by omega))
    simpa [Addr.add] using this
   ·have:=hz i hlt
    rw [hp,add_plain] at this
    exact this

theorem code_of_trod {fuel : Nat} {v : Value} {x : DataW H×List MemPlace} (h : DataW.trod enc Tryd.prog W base spare held fuel 56 [v]=some x) : ∃ n ins,CodeAt W.heap.size W v n ins:=by
 rcases sliceEach Tryd.underlying56 h with rfl | ⟨a,len,cap,n,rfl,hl,hi⟩
 ·exact ⟨0,fun _ => ⟨0,0,0,0,0,fun _ => 0⟩,none,0,rfl,by omega,Or.inl rfl⟩
 ·have each : ∀ i,i < len→∃ q : In,∃ va,W.cell? (a.add (i * 5))=some (.int .i64 q.op)∧W.cell? (a.add (i * 5 + 1))=some (.int .i64 q.a)∧W.cell? (a.add (i * 5 + 2))=some (.int .i64 q.b)∧W.cell? (a.add (i * 5 + 3))=some (.int .i64 q.c)∧W.cell? (a.add (i * 5 + 4))=some va∧NumsAt W.heap.size W va q.n q.z:=by
   intro i hlt
   obtain ⟨cs,y,h1,h2⟩:=hi i hlt
   rw [cIns5] at h1
   obtain ⟨_,hlen,hcell⟩:=World.cells?_some h1
   obtain ⟨xs,k,rfl,hxy,_,hxl,hf⟩:=DataW.trod_struct Tryd.underlying60 h2
   obtain ⟨y0,y1,y2,y3,y4,rfl⟩:=lenFive (l:=xs) hxl
   obtain ⟨v0,v1,v2,v3,v4,rfl⟩:=lenFive hlen
   have g0:=hf 0 _ rfl
   have g1:=hf 1 _ rfl
   have g2:=hf 2 _ rfl
   have g3:=hf 3 _ rfl
   have g4:=hf 4 _ rfl
   simp [cInt1,cLInt1] at g0 g1 g2 g3 g4
   have e0:=hcell 0 (by omega)
   have e1:=hcell 1 (by omega)
   have e2:=hcell 2 (by omega)
   have e3:=hcell 3 (by omega)
   have e4:=hcell 4 (by omega)
   obtain ⟨z0,q0,_,_⟩:=DataW.trod_int Tryd.underlying3 g0
   obtain ⟨z1,q1,_,_⟩:=DataW.trod_int Tryd.underlying3 g1
   obtain ⟨z2,q2,_,_⟩:=DataW.trod_int Tryd.underlying3 g2
   obtain ⟨z3,q3,_,_⟩:=DataW.trod_int Tryd.underlying3 g3
   simp at q0 q1 q2 q3
   subst q0 q1 q2 q3
   obtain ⟨m,z,hz⟩:=nums_of_trod g4
   rw [add_add] at e0 e1 e2 e3 e4
   exact ⟨⟨z0,z1,z2,z3,m,z⟩,v4,by simpa using e0,by simpa using e1,by simpa using e2,by simpa using e3,by simpa using e4,hz⟩
  haveI : Inhabited In:=⟨⟨0,0,0,0,0,fun _ => 0⟩⟩
  obtain ⟨q,hq⟩:=pick_lt each
  refine ⟨len,q,some a,cap,rfl,hl,?_⟩
  by_cases h0 : len=0
  ·exact Or.inl h0
  ·right
   obtain ⟨_,c0,_⟩:=hq 0 (by omega)
   have hp:=plainAt (v:=.int .i64 (q 0).op) (by simpa using c0)
   refine ⟨a.block,a.off,by rw [hp],?_,fun i hlt => ?_⟩
   ·have:=cell_lt c0
    simpa [Addr.add] using this
   ·obtain ⟨va,c0,c1,c2,c3,c4,s⟩:=hq i hlt
    rw [hp,add_plain] at c0 c1 c2 c3 c4
    exact ⟨va,c0,c1,c2,c3,c4,s⟩

/-- Procedures,read. -/
theorem procs_of_trod {fuel : Nat} {v : Value} {x : DataW H×List MemPlace} (h : DataW.trod enc Tryd.prog W base spare held fuel 34 [v]=some x) : ∃ n P,ProcsAt W.heap.size W v n P:=by
 rcases sliceEach Tryd.underlying34 h with rfl | ⟨a,len,cap,n,rfl,hl,hi⟩
 ·exact ⟨0,fun _ => ⟨0,0,0,fun _ => ⟨0,0,0,0,0,fun _ => 0⟩⟩,none,0,rfl,by omega,Or.inl rfl⟩
 ·have each : ∀ i,i < len→∃ q : Pc,∃ vc,W.cell? (a.add (i * 3))=some (.int .i64 q.params)∧W.cell? (a.add (i * 3 + 1))=some (.int .i64 q.regs)∧W.cell? (a.add (i * 3 + 2))=some vc∧CodeAt W.heap.size W vc q.n q.ins:=by
   intro i hlt
   obtain ⟨cs,y,h1,h2⟩:=hi i hlt
   rw [cProc3] at h1
   obtain ⟨_,hlen,hcell⟩:=World.cells?_some h1
   obtain ⟨xs,k,rfl,hxy,_,hxl,hf⟩:=DataW.trod_struct Tryd.underlying58 h2
   obtain ⟨y0,y1,y2,rfl⟩:=lenThree (l:=xs) hxl
   obtain ⟨v0,v1,v2,rfl⟩:=lenThree hlen
   have g0:=hf 0 _ rfl
   have g1:=hf 1 _ rfl
   have g2:=hf 2 _ rfl
   simp [cInt1,cLIns1] at g0 g1 g2
   have e0:=hcell 0 (by omega)
   have e1:=hcell 1 (by omega)
   have e2:=hcell 2 (by omega)
   obtain ⟨z0,q0,_,_⟩:=DataW.trod_int Tryd.underlying3 g0
   obtain ⟨z1,q1,_,_⟩:=DataW.trod_int Tryd.underlying3 g1
   simp at q0 q1
   subst q0 q1
   obtain ⟨m,ins,hz⟩:=code_of_trod g2
   rw [add_add] at e0 e1 e2
   exact ⟨⟨z0,z1,m,ins⟩,v2,by simpa using e0,by simpa using e1,by simpa using e2,hz⟩
  haveI : Inhabited Pc:=⟨⟨0,0,0,fun _ => ⟨0,0,0,0,0,fun _ => 0⟩⟩⟩
  obtain ⟨q,hq⟩:=pick_lt each
  refine ⟨len,q,some a,cap,rfl,hl,?_⟩
  by_cases h0 : len=0
  ·exact Or.inl h0
  ·right
   obtain ⟨_,c0,_⟩:=hq 0 (by omega)
   have hp:=plainAt (v:=.int .i64 (q 0).params) (by simpa using c0)
   refine ⟨a.block,a.off,by rw [hp],?_,fun i hlt => ?_⟩
   ·have:=cell_lt c0
    simpa [Addr.add] using this
   ·obtain ⟨vc,c0,c1,c2,s⟩:=hq i hlt
    rw [hp,add_plain] at c0 c1 c2
    exact ⟨vc,c0,c1,c2,s⟩

end
end Go.Proofs.YtfaokaohhchdhaaDoor
