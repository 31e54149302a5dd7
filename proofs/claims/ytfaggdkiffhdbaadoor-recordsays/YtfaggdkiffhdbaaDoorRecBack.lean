/- RecordBack: the law over memory. -/
import Derived.Test.YtfaggdkiffhdbaaDoorRecB
import Derived.Test.YtfaggdkiffhdbaaDoorOpenNums
import Derived.Lib.SmallJoins
namespace Go.Proofs.YtfaggdkiffhdbaaDoor
open Go.RowKit Go.Maps

def rcText (r : Rc) : ByteArray:=if recErr r=0 then bs (recT r) else ⟨#[]⟩
theorem rcText_ok {r : Rc} (h : recErr r=0) : rcText r=bs (recT r):=if_pos h

theorem recPrintE (N M : Nat) (r : Rc) (sc ic : Nat) (sa ia : Option Addr) (w : World) (hN : N≤w.heap.size) (he : NEnv N w) (hM : M≤w.heap.size) (h : RecIn M w sa sc ia ic r) :
  Calls Tryd.prog 5 #[.agg #[.int .i64 r.kind,.int .i64 r.co,.int .i64 r.ep,.int .i64 r.pl,.slice sa r.says.length sc,.slice ia r.img.length ic]] w fun e w' => e=.returned (.tuple #[.string (rcText r),.int .i64 (recErr r)])∧Below w.heap.size w w':=by
 by_cases h0 : recErr r=0
 ·rw [rcText_ok h0,h0]
  exact recPrintC N M r sc ic sa ia w hN he hM h.1 h.2 h0
 ·unfold rcText
  rw [if_neg h0]
  exact recPrintBad r sc ic sa ia w h0

theorem bsz (l : List UInt8) : (bs l).size=l.length:=by show l.toArray.size=_; simp

section
variable {H : Type} {enc : TypeId×Value→H} {W : World} {base : Nat} {spare : Nat→Bool} {held : Bool}
open Go.ChangeShapes Go.WideShapes Go.ChangeAt Go.Joins
theorem cRec6 : Tryd.prog.cellsOf 24=6:=by kernel_rfl
theorem cI1 : Tryd.prog.cellsOf 3=1:=by kernel_rfl
theorem cLI1 : Tryd.prog.cellsOf 22=1:=by kernel_rfl
theorem lenSix {α : Type} {l : List α} (h : l.length=6) : ∃ a b c d e f,l=[a,b,c,d,e,f]:=by
 rcases l with _ | ⟨a,_ | ⟨b,_ | ⟨c,_ | ⟨d,_ | ⟨e,_ | ⟨f,_ | ⟨g,l⟩⟩⟩⟩⟩⟩⟩
 ·cases h
 ·cases h
 ·cases h
 ·cases h
 ·cases h
 ·cases h
 ·exact ⟨a,b,c,d,e,f,rfl⟩
 ·simp at h

set_option maxRecDepth 20000 in
/-- A record,read. -/
theorem rec_of_trod {r : Reach} {b0 : Nat} {v : Value} {d : DataW H} {p : List MemPlace} (hv : Value.okWide Tryd.prog W r b0 24 v) (h : DataW.Trod enc Tryd.prog W base spare held 24 v d p) :
  ∃ sa sc ia ic R,v=.agg #[.int .i64 R.kind,.int .i64 R.co,.int .i64 R.ep,.int .i64 R.pl,.slice sa R.says.length sc,.slice ia R.img.length ic]∧RecIn W.heap.size W sa sc ia ic R:=by
 obtain ⟨cs,rfl,hsz⟩:=okWide_struct Tryd.underlying24 hv
 obtain ⟨fuel,hf0⟩:=h
 rw [cRec6] at hsz
 obtain ⟨v0,v1,v2,v3,v4,v5,hcs⟩:=lenSix (l:=cs.toList) (by simpa using hsz)
 obtain rfl : cs=#[v0,v1,v2,v3,v4,v5]:=by cases cs; simp_all
 have hf1 : DataW.trod enc Tryd.prog W base spare held fuel 24 [v0,v1,v2,v3,v4,v5]=some (d,p):=by simpa [Value.cells] using hf0
 obtain ⟨xs,k,_,hxy,_,hxl,hf⟩:=DataW.trod_struct Tryd.underlying24 hf1
 obtain ⟨y0,y1,y2,y3,y4,y5,rfl⟩:=lenSix (l:=xs) hxl
 have g0:=hf 0 _ rfl
 have g1:=hf 1 _ rfl
 have g2:=hf 2 _ rfl
 have g3:=hf 3 _ rfl
 have g4:=hf 4 _ rfl
 have g5:=hf 5 _ rfl
 simp [cI1,cLI1] at g0 g1 g2 g3 g4 g5
 obtain ⟨z0,q0,_,_⟩:=DataW.trod_int Tryd.underlying3 g0
 obtain ⟨z1,q1,_,_⟩:=DataW.trod_int Tryd.underlying3 g1
 obtain ⟨z2,q2,_,_⟩:=DataW.trod_int Tryd.underlying3 g2
 obtain ⟨z3,q3,_,_⟩:=DataW.trod_int Tryd.underlying3 g3
 simp at q0 q1 q2 q3
 obtain ⟨sa,sc,ls,e4,h4⟩:=list_of_trod g4
 obtain ⟨ia,ic,li,e5,h5⟩:=list_of_trod g5
 exact ⟨sa,sc,ia,ic,⟨z0,z1,z2,z3,ls,li⟩,by rw [q0,q1,q2,q3,e4,e5],h4,h5⟩
end

end Go.Proofs.YtfaggdkiffhdbaaDoor
