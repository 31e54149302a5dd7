/- lined: a closed fact; RecordBack: what is printed is read, what is read is printed as it was: the statement's own walk. -/
import Derived.Test.YtfaggdkiffhdbaaGreatDoorRecR
import Derived.Test.YtfaggdkiffhdbaaGreatDoorPart7
import Derived.Lib.SmallJoins
namespace Go.Proofs.YtfaggdkiffhdbaaGreatDoor
open Go.RowKit Go.Maps

def rcL : Rc:=⟨2,1,2,0,[7,-8],[1]⟩
theorem rcL_err : recErr rcL=0:=by decide
theorem rcL_text : recT rcL=[50,32,49,32,50,32,48,32,50,32,55,32,45,56,32,49]:=by decide +kernel
theorem rcL_i64 : recI64 rcL:=⟨by simp [rcL,i64],by simp [rcL,i64]⟩

theorem lit_nums (w : World) (l : List Int) (g : Nat) (n : Nat) (hn : l.length=n) (hl : n≤8) (hg : w.heap[g]?=some (.cells (l.map (Value.int .i64)).toArray 3 (0,0))) (hf : ∀ z ∈ l,i64 z) : NumsL w.heap.size w (some ⟨g,0,none⟩) n l:=by
 refine ⟨by omega,by omega,(fun e => by cases e),fun p hp => ?_,hf⟩
 cases hp
 right
 refine ⟨g,0,rfl,(Array.getElem?_eq_some_iff.1 hg).1,fun i z hi => ?_⟩
 rw [Nat.zero_add]
 unfold World.cell?
 rw [hg]
 show ((l.map (Value.int .i64)).toArray)[i]?=_
 simp [hi]

theorem recT_short {r : Rc} (h : recErr r=0) (hi : recI64 r) : (recT r).length≤60000:=by
 have h1:=lineL_len (recZs_i64 h hi)
 obtain ⟨_,_,hmn,_⟩:=recErr_zero h
 unfold recMany at hmn
 simp only [Bool.and_eq_true,decide_eq_true_eq] at hmn
 have h2 : (recZs r).length≤1245:=by unfold recZs; simp only [List.length_cons,List.length_append]; omega
 show (lineL (recZs r)).length≤60000
 omega

def rcText (r : Rc) : ByteArray:=if recErr r=0 then bs (recT r) else ⟨#[]⟩
theorem rcText_ok {r : Rc} (h : recErr r=0) : rcText r=bs (recT r):=if_pos h

theorem recPrintE (N M : Nat) (r : Rc) (sc ic : Nat) (sa ia : Option Addr) (w : World) (hN : N≤w.heap.size) (he : NEnv N w) (hM : M≤w.heap.size) (h : RecIn M w sa sc ia ic r) :
  Calls Tryz.prog 18 #[.agg #[.int .i64 r.kind,.int .i64 r.co,.int .i64 r.ep,.int .i64 r.pl,.slice sa r.says.length sc,.slice ia r.img.length ic]] w fun e w' => e=.returned (.tuple #[.string (rcText r),.int .i64 (recErr r)])∧Below w.heap.size w w':=by
 by_cases h0 : recErr r=0
 ·rw [rcText_ok h0,h0]
  exact recPrintC N M r sc ic sa ia w hN he hM h.1 h.2 h0
 ·unfold rcText
  rw [if_neg h0]
  exact recPrintBad r sc ic sa ia w h0

theorem bsz (l : List UInt8) : (bs l).size=l.length:=by show l.toArray.size=_; simp

section
variable {H : Type} {enc : TypeId×Value→H} {W : World} {base : Nat} {spare : Nat→Bool} {held : Bool}
open Go.ChangeShapes Go.WideShapes Go.ChangeAt Go.Joins
theorem cRec6 : Tryz.prog.cellsOf 27=6:=by kernel_rfl
theorem cI1 : Tryz.prog.cellsOf 3=1:=by kernel_rfl
theorem cLI1 : Tryz.prog.cellsOf 25=1:=by kernel_rfl
theorem lenSix {α : Type} {l : List α} (h : l.length=6) : ∃ a b c d e f,l=[a,b,c,d,e,f]:=by
 rcases l with _ | ⟨a,_ | ⟨b,_ | ⟨c,_ | ⟨d,_ | ⟨e,_ | ⟨f,_ | ⟨g,l⟩⟩⟩⟩⟩⟩⟩
 ·cases h
 ·cases h
 ·cases h
 ·cases h
 ·cases h
 ·cases h
 ·exact ⟨a,b,c,d,e,f,rfl⟩
 ·simp at h

set_option maxRecDepth 20000 in
/-- A record,read. -/
theorem rec_of_trod {r : Reach} {b0 : Nat} {v : Value} {d : DataW H} {p : List MemPlace} (hv : Value.okWide Tryz.prog W r b0 27 v) (h : DataW.Trod enc Tryz.prog W base spare held 27 v d p) :
  ∃ sa sc ia ic R,v=.agg #[.int .i64 R.kind,.int .i64 R.co,.int .i64 R.ep,.int .i64 R.pl,.slice sa R.says.length sc,.slice ia R.img.length ic]∧RecIn W.heap.size W sa sc ia ic R:=by
 obtain ⟨cs,rfl,hsz⟩:=okWide_struct Tryz.underlying27 hv
 obtain ⟨fuel,hf0⟩:=h
 rw [cRec6] at hsz
 obtain ⟨v0,v1,v2,v3,v4,v5,hcs⟩:=lenSix (l:=cs.toList) (by simpa using hsz)
 obtain rfl : cs=#[v0,v1,v2,v3,v4,v5]:=by cases cs; simp_all
 have hf1 : DataW.trod enc Tryz.prog W base spare held fuel 27 [v0,v1,v2,v3,v4,v5]=some (d,p):=by simpa [Value.cells] using hf0
 obtain ⟨xs,k,_,hxy,_,hxl,hf⟩:=DataW.trod_struct Tryz.underlying27 hf1
 obtain ⟨y0,y1,y2,y3,y4,y5,rfl⟩:=lenSix (l:=xs) hxl
 have g0:=hf 0 _ rfl
 have g1:=hf 1 _ rfl
 have g2:=hf 2 _ rfl
 have g3:=hf 3 _ rfl
 have g4:=hf 4 _ rfl
 have g5:=hf 5 _ rfl
 simp [cI1,cLI1] at g0 g1 g2 g3 g4 g5
 obtain ⟨z0,q0,_,_⟩:=DataW.trod_int Tryz.underlying3 g0
 obtain ⟨z1,q1,_,_⟩:=DataW.trod_int Tryz.underlying3 g1
 obtain ⟨z2,q2,_,_⟩:=DataW.trod_int Tryz.underlying3 g2
 obtain ⟨z3,q3,_,_⟩:=DataW.trod_int Tryz.underlying3 g3
 simp at q0 q1 q2 q3
 obtain ⟨sa,sc,ls,e4,h4⟩:=list_of_trod g4
 obtain ⟨ia,ic,li,e5,h5⟩:=list_of_trod g5
 exact ⟨sa,sc,ia,ic,⟨z0,z1,z2,z3,ls,li⟩,by rw [q0,q1,q2,q3,e4,e5],h4,h5⟩
end

end Go.Proofs.YtfaggdkiffhdbaaGreatDoor
