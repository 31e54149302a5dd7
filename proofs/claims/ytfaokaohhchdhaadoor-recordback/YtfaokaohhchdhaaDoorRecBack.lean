/- RecordBack: the law over memory. -/
import Derived.Test.YtfaokaohhchdhaaDoorRecB
import Derived.Test.YtfaokaohhchdhaaDoorOpenNums
import Derived.Lib.SmallJoins
namespace Go.Proofs.YtfaokaohhchdhaaDoor
open Go.RowKit Go.Maps

def rcText (r : Rc) : ByteArray:=if recErr r=0 then bs (recT r) else ⟨#[]⟩
theorem rcText_ok {r : Rc} (h : recErr r=0) : rcText r=bs (recT r):=if_pos h

theorem recPrintE (N M : Nat) (r : Rc) (sc ic : Nat) (sa ia : Option Addr) (w : World) (hN : N≤w.heap.size) (he : NEnv N w) (hM : M≤w.heap.size) (h : RecIn M w sa sc ia ic r) :
  Calls Tryd.prog 6 #[.agg #[.int .i64 r.kind,.int .i64 r.co,.int .i64 r.ep,.int .i64 r.pl,.slice sa r.says.length sc,.slice ia r.img.length ic]] w fun e w' => e=.returned (.tuple #[.string (rcText r),.int .i64 (recErr r)])∧Below w.heap.size w w':=by
 by_cases h0 : recErr r=0
 ·rw [rcText_ok h0,h0]
  exact recPrintC N M r sc ic sa ia w hN he hM h.1 h.2 h0
 ·unfold rcText
  rw [if_neg h0]
  exact recPrintBad r sc ic sa ia w h0

theorem bsz (l : List UInt8) : (bs l).size=l.length:=by show l.toArray.size=_; simp

theorem recordBack (N : Nat) (r q : Rc) (s : ByteArray) (sa ia sb ib : Option Addr) (sc ic sbc ibc : Nat) (w : World) (hN : N≤w.heap.size) (he : NEnv N w)
  (hr : RecIn w.heap.size w sa sc ia ic r) (hq : RecIn w.heap.size w sb sbc ib ibc q) :
  Calls Tryd.prog 4 #[.agg #[.int .i64 r.kind,.int .i64 r.co,.int .i64 r.ep,.int .i64 r.pl,.slice sa r.says.length sc,.slice ia r.img.length ic],.agg #[.int .i64 q.kind,.int .i64 q.co,.int .i64 q.ep,.int .i64 q.pl,.slice sb q.says.length sbc,.slice ib q.img.length ibc],.string s] w fun e w' => e=.returned (.bool true)∧Hid (Below w.heap.size w w'):=by
 obtain ⟨W,hW,HB,HX⟩:=two_rbox w r.kind r.co r.ep r.pl q.kind q.co q.ep q.pl (.slice sa r.says.length sc) (.slice ia r.img.length ic) (.slice sb q.says.length sbc) (.slice ib q.img.length ibc)
 have hir : recI64 r:=⟨hr.1.fit,hr.2.fit⟩
 have hiq : recI64 q:=⟨hq.1.fit,hq.2.fit⟩
 have hin : ∀ {wk},Below W.heap.size W wk→Below w.heap.size w wk:=fun hk => below_step HB.out hk
 have hNk : ∀ {wk},Below W.heap.size W wk→N≤wk.heap.size:=fun hk => Nat.le_trans hN (hin hk).size
 have hek : ∀ {wk},Below W.heap.size W wk→NEnv N wk:=fun hk => he.below ((hin hk).mono hN)
 have hrk : ∀ {wk},Below W.heap.size W wk→RecIn w.heap.size wk sa sc ia ic r:=fun hk => hr.below (hin hk)
 have hqk : ∀ {wk},Below W.heap.size W wk→RecIn w.heap.size wk sb sbc ib ibc q:=fun hk => hq.below (hin hk)
 refine rb_core r q (recSays s.data.toList).2 (recErr r) (recErr q) (recSays s.data.toList).1 (rcEq r q) (rcText r) (rcText q) s sa ia sb ib sc ic sbc ibc w W hW HB HX ?_ ?_ ?_ ?_ ?_ ?_ ?_ ?_ ?_ ?_
 ·exact fun wk hk => lined N wk (hNk hk) (hek hk)
 ·exact recPrintE N w.heap.size r sc ic sa ia W (hNk (Below.refl _ _)) (hek (Below.refl _ _)) HB.out.size (hrk (Below.refl _ _))
 ·exact fun wk hk => recPrintE N w.heap.size q sbc ibc sb ib wk (hNk hk) (hek hk) (hin hk).size (hqk hk)
 ·exact fun wk hk => recSameC w.heap.size r q sc ic sbc ibc sa ia sb ib wk (hin hk).size (hrk hk).1 (hrk hk).2 (hqk hk).1 (hqk hk).2
 ·intro h1 h2
  rw [rcText_ok h1,rcText_ok h2,ByteArray.toList_eq,ByteArray.toList_eq,bs_data,bs_data]
  have:=recT_inj h1 hir h2 hiq
  by_cases e : r=q
  ·rw [rcEq_iff.2 e,this.2 e]
   simp
  ·have e1 : rcEq r q=false:=by
    cases hx : rcEq r q
    ·rfl
    ·exact absurd (rcEq_iff.1 hx) e
   rw [e1]
   have : ¬ recT r=recT q:=fun h => e (this.1 h)
   simpa using this
 ·intro h1
  rw [rcText_ok h1,bsz]
  have:=recT_short h1 hir
  omega
 ·refine fun h1 wk hk => ?_
  have:=recParseC N (rcText r) wk (hNk hk) (hek hk)
  rw [show recSays (rcText r).data.toList=(0,r) by rw [rcText_ok h1,bs_data]; exact recSays_text h1 hir (recT_short h1 hir)] at this
  exact this
 ·refine fun xa xc ya yc wk hk ho => ?_
  have hr':=(hrk hk).up (hin hk).size
  have:=recSameC wk.heap.size r r xc yc sc ic xa ya sa ia wk (Nat.le_refl _) ho.rec.1 ho.rec.2 hr'.1 hr'.2
  rw [rcEq_iff.2 rfl] at this
  exact this
 ·exact fun wk hk => recParseC N s wk (hNk hk) (hek hk)
 ·refine fun h1 xa xc ya yc wk hk ho => ?_
  obtain ⟨h2,h3⟩:=recSays_back h1
  refine (recPrintC N wk.heap.size _ xc yc xa ya wk (hNk hk) (hek hk) (Nat.le_refl _) ho.rec.1 ho.rec.2 h2).mono ?_
  rintro e w' ⟨rfl,hb⟩
  refine ⟨_,rfl,?_,hb⟩
  rw [ByteArray.toList_eq,ByteArray.toList_eq,bs_data,h3]
  simp

section
variable {H : Type} {enc : TypeId×Value→H} {W : World} {base : Nat} {spare : Nat→Bool} {held : Bool}
open Go.ChangeShapes Go.WideShapes Go.ChangeAt Go.Joins
theorem cRec6 : Tryd.prog.cellsOf 24=6:=by kernel_rfl
theorem cI1 : Tryd.prog.cellsOf 3=1:=by kernel_rfl
theorem cLI1 : Tryd.prog.cellsOf 22=1:=by kernel_rfl
theorem lenSix {α : Type} {l : List α} (h : l.length=6) : ∃ a b c d e f,l=[a,b,c,d,e,f]:=by
 rcases l with _ | ⟨a,_ | ⟨b,_ | ⟨c,_ | ⟨d,_ | ⟨e,_ | ⟨f,_ | ⟨g,l⟩⟩⟩⟩⟩⟩⟩
 ·cases h
 ·cases h
 ·cases h
 ·cases h
 ·cases h
 ·cases h
 ·exact ⟨a,b,c,d,e,f,rfl⟩
 ·simp at h

set_option maxRecDepth 20000 in
/-- A record,read. -/
theorem rec_of_trod {r : Reach} {b0 : Nat} {v : Value} {d : DataW H} {p : List MemPlace} (hv : Value.okWide Tryd.prog W r b0 24 v) (h : DataW.Trod enc Tryd.prog W base spare held 24 v d p) :
  ∃ sa sc ia ic R,v=.agg #[.int .i64 R.kind,.int .i64 R.co,.int .i64 R.ep,.int .i64 R.pl,.slice sa R.says.length sc,.slice ia R.img.length ic]∧RecIn W.heap.size W sa sc ia ic R:=by
 obtain ⟨cs,rfl,hsz⟩:=okWide_struct Tryd.underlying24 hv
 obtain ⟨fuel,hf0⟩:=h
 rw [cRec6] at hsz
 obtain ⟨v0,v1,v2,v3,v4,v5,hcs⟩:=lenSix (l:=cs.toList) (by simpa using hsz)
 obtain rfl : cs=#[v0,v1,v2,v3,v4,v5]:=by cases cs; simp_all
 have hf1 : DataW.trod enc Tryd.prog W base spare held fuel 24 [v0,v1,v2,v3,v4,v5]=some (d,p):=by simpa [Value.cells] using hf0
 obtain ⟨xs,k,_,hxy,_,hxl,hf⟩:=DataW.trod_struct Tryd.underlying24 hf1
 obtain ⟨y0,y1,y2,y3,y4,y5,rfl⟩:=lenSix (l:=xs) hxl
 have g0:=hf 0 _ rfl
 have g1:=hf 1 _ rfl
 have g2:=hf 2 _ rfl
 have g3:=hf 3 _ rfl
 have g4:=hf 4 _ rfl
 have g5:=hf 5 _ rfl
 simp [cI1,cLI1] at g0 g1 g2 g3 g4 g5
 obtain ⟨z0,q0,_,_⟩:=DataW.trod_int Tryd.underlying3 g0
 obtain ⟨z1,q1,_,_⟩:=DataW.trod_int Tryd.underlying3 g1
 obtain ⟨z2,q2,_,_⟩:=DataW.trod_int Tryd.underlying3 g2
 obtain ⟨z3,q3,_,_⟩:=DataW.trod_int Tryd.underlying3 g3
 simp at q0 q1 q2 q3
 obtain ⟨sa,sc,ls,e4,h4⟩:=list_of_trod g4
 obtain ⟨ia,ic,li,e5,h5⟩:=list_of_trod g5
 exact ⟨sa,sc,ia,ic,⟨z0,z1,z2,z3,ls,li⟩,by rw [q0,q1,q2,q3,e4,e5],h4,h5⟩
end

end Go.Proofs.YtfaokaohhchdhaaDoor
