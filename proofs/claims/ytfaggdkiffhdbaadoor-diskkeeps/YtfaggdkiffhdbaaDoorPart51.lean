/- How lists of records, and rows of bytes, that are read as data lie in memory. -/
import Derived.Test.YtfaggdkiffhdbaaDoorDiskRs
import Derived.Test.YtfaggdkiffhdbaaDoorRecSy
import Derived.Test.YtfaggdkiffhdbaaDoorPart8
import Derived.Test.YtfaggdkiffhdbaaDoorImgEnv
import Derived.Test.YtfaggdkiffhdbaaDoorRows
import Derived.LaidMore
import Derived.Lib.LaidTab
import Derived.Stop.LaidErr
namespace Go.Proofs.YtfaggdkiffhdbaaDoor
open Go.ChangeShapes Go.WideShapes Go.ChangeAt Go.RowKit Go.Joins Go.Deep

section
variable {H : Type} {enc : TypeId×Value→H} {W : World} {base : Nat} {spare : Nat→Bool} {held : Bool}

/-- A list of records,read. -/
theorem recs_of_trod {fuel : Nat} {v : Value} {x : DataW H×List MemPlace} (h : DataW.trod enc Tryd.prog W base spare held fuel 34 [v]=some x) : ∃ a c l,v=.slice a l.length c∧RecsL W.heap.size W a c l:=by
 rcases DataW.trod_slice Tryd.underlying34 h with ⟨hcs,_⟩ | ⟨a,len,cap,elems,rest,n,hfu,hcs,rfl,hb,hl,hm,hlen,hel,_⟩
 ·exact ⟨none,0,[],by simpa using hcs,Nat.le_refl _,by omega,fun _ => ⟨rfl,rfl⟩,Or.inl rfl⟩
 ·obtain rfl : v=.slice (some a) len cap:=by simpa using hcs
  have each : ∀ i,i < len→∃ q : Rc×RAd,W.cell? (a.add (i * 6))=some (.int .i64 q.1.kind)∧W.cell? (a.add (i * 6 + 1))=some (.int .i64 q.1.co)∧W.cell? (a.add (i * 6 + 2))=some (.int .i64 q.1.ep)∧W.cell? (a.add (i * 6 + 3))=some (.int .i64 q.1.pl)∧W.cell? (a.add (i * 6 + 4))=some (.slice q.2.1 q.1.says.length q.2.2.1)∧W.cell? (a.add (i * 6 + 5))=some (.slice q.2.2.2.1 q.1.img.length q.2.2.2.2)∧RecIn W.heap.size W q.2.1 q.2.2.1 q.2.2.2.1 q.2.2.2.2 q.1:=by
   intro i hlt
   have key:=hel i hlt
   rw [List.getElem?_eq_getElem (by omega)] at key
   obtain ⟨cs,h1,h2⟩:=Option.bind_eq_some_iff.1 key
   rw [cRec6] at h1
   obtain ⟨_,hlen,hcell⟩:=World.cells?_some h1
   obtain ⟨xs,k,_,hxy,_,hxl,hf⟩:=DataW.trod_struct Tryd.underlying24 h2
   obtain ⟨y0,y1,y2,y3,y4,y5,rfl⟩:=lenSix (l:=xs) hxl
   obtain ⟨v0,v1,v2,v3,v4,v5,rfl⟩:=lenSix hlen
   have g0:=hf 0 _ rfl
   have g1:=hf 1 _ rfl
   have g2:=hf 2 _ rfl
   have g3:=hf 3 _ rfl
   have g4:=hf 4 _ rfl
   have g5:=hf 5 _ rfl
   simp [cI1,cLI1] at g0 g1 g2 g3 g4 g5
   have e0:=hcell 0 (by omega)
   have e1:=hcell 1 (by omega)
   have e2:=hcell 2 (by omega)
   have e3:=hcell 3 (by omega)
   have e4:=hcell 4 (by omega)
   have e5:=hcell 5 (by omega)
   obtain ⟨z0,q0,_,_⟩:=DataW.trod_int Tryd.underlying3 g0
   obtain ⟨z1,q1,_,_⟩:=DataW.trod_int Tryd.underlying3 g1
   obtain ⟨z2,q2,_,_⟩:=DataW.trod_int Tryd.underlying3 g2
   obtain ⟨z3,q3,_,_⟩:=DataW.trod_int Tryd.underlying3 g3
   simp at q0 q1 q2 q3
   subst q0 q1 q2 q3
   obtain ⟨sa,sc,ls,rfl,h4⟩:=list_of_trod g4
   obtain ⟨ia,ic,li,rfl,h5⟩:=list_of_trod g5
   rw [add_add] at e0 e1 e2 e3 e4 e5
   exact ⟨(⟨z0,z1,z2,z3,ls,li⟩,sa,sc,ia,ic),by simpa using e0,by simpa using e1,by simpa using e2,by simpa using e3,by simpa using e4,by simpa using e5,h4,h5⟩
  haveI : Inhabited (Rc×RAd):=⟨(rc0,none,0,none,0)⟩
  obtain ⟨q,hq⟩:=pick_lt each
  refine ⟨some a,cap,(List.range len).map fun i => (q i).1,by simp,by simpa using hl,by unfold maxLen at hm; omega,(fun e => by cases e),?_⟩
  by_cases h0 : len=0
  ·left; subst h0; rfl
  ·right
   obtain ⟨c0,_⟩:=hq 0 (by omega)
   have hp:=plainAt (v:=.int .i64 (q 0).1.kind) (by simpa using c0)
   refine ⟨a.block,a.off,by rw [hp],?_,fun i r hi => ?_⟩
   ·have:=cell_lt c0
    simpa [Addr.add] using this
   ·rw [List.getElem?_map] at hi
    obtain ⟨j,hj,rfl⟩:=Option.map_eq_some_iff.1 hi
    have hil:=(List.getElem?_eq_some_iff.1 hj).1
    rw [List.length_range] at hil
    obtain rfl : j=i:=by rw [List.getElem?_range hil] at hj; injection hj with hj; exact hj.symm
    obtain ⟨c0,c1,c2,c3,c4,c5,hr⟩:=hq j hil
    rw [hp,add_plain] at c0 c1 c2 c3 c4 c5
    refine ⟨_,_,_,_,?_,?_,?_,?_,?_,?_,hr⟩
    ·simpa using c0
    ·simpa [Nat.add_assoc] using c1
    ·simpa [Nat.add_assoc] using c2
    ·simpa [Nat.add_assoc] using c3
    ·simpa [Nat.add_assoc] using c4
    ·simpa [Nat.add_assoc] using c5
end
end Go.Proofs.YtfaggdkiffhdbaaDoor
namespace Go.Proofs.YtfaggdkiffhdbaaDoor
open Go.RowKit Go.ChangeShapes Go.WideShapes Go.ChangeAt

/-- The listed variables. -/
def nlaidL : List (String×DataW Unit):=Rows.recordSaysRow.laid

/-- One of them. -/
theorem nlaid_at {P : Program} {W : World} : ∀ {l : List (String×DataW Unit)},laidMet P l W→∀ {n : String} {d : DataW Unit},(n,d) ∈ l→∃ g t cs fuel p,P.globalNamed n=some g∧(P.globals[g]?).map (·.type)=some t∧W.var? P n=some cs∧DataW.trod (fun _ => ()) P W 0 (fun _ => true) false fuel t cs.toList=some (d,p)
 | [],_,_,_,h => by cases h
 | x :: l,hL,n,d,h => by
  rcases List.mem_cons.1 h with rfl | h
  ·obtain ⟨ps,⟨g,t,cs,fuel,p,q,h1,h2,h3,h4,_⟩,_⟩:=hL
   exact ⟨g,t,cs,fuel,p,h1,h2,h3,h4⟩
  ·exact nlaid_at hL.tail h

theorem nsome_iface {W : World} {name nm : String} {g : Nat} {t : TypeId} {ms : Array (String×TypeId)} {d : DataW Unit} {l : List (String×DataW Unit)} (hL : laidMet Tryd.prog l W) (hm : (name,.iface nm d) ∈ l)
  (hg : Tryd.prog.globalNamed name=some g) (htt : (Tryd.prog.globals[g]?).map (·.type)=some t) (ht : Tryd.prog.underlying t=some (.interface ms)) : ∃ tp p,W.var? Tryd.prog name=some #[.iface tp p]:=by
 obtain ⟨g',t',cs,fuel,p,h1,h2,h3,h4⟩:=nlaid_at hL hm
 obtain rfl:=Option.some.inj (hg.symm.trans h1)
 obtain rfl:=Option.some.inj (htt.symm.trans h2)
 obtain ⟨_,u,v,e,_⟩:=iface_of_trod ht h4
 exact ⟨u,v,by rw [h3,Array.eq_one_of_toList e]⟩

theorem ntSyn : (Tryd.prog.globals[1]?).map (·.type)=some 78:=by kernel_rfl
theorem ntRng : (Tryd.prog.globals[2]?).map (·.type)=some 78:=by kernel_rfl
theorem ntPow : (Tryd.prog.globals[3]?).map (·.type)=some 131:=by kernel_rfl
theorem ncA20 : Tryd.prog.cellsOf 131=20:=by kernel_rfl
theorem ncU64 : Tryd.prog.cellsOf 102=1:=by kernel_rfl

theorem npow_of_laid {W : World} (hL : laidMet Tryd.prog nlaidL W) : Lib.TabIs Tryd.prog W "internal/strconv.uint64pow10" .u64 Lib.pow10Tab:=by
 have hm : ("internal/strconv.uint64pow10",(Rows.laid_internal_strconv_uint64pow10 : DataW Unit)) ∈ nlaidL:=by unfold nlaidL Rows.recordSaysRow; simp
 obtain ⟨g',t',cs,fuel,p,h1,h2,h3,h4⟩:=nlaid_at hL hm
 obtain rfl:=Option.some.inj (ngPow.symm.trans h1)
 obtain rfl:=Option.some.inj (ntPow.symm.trans h2)
 have e : (Rows.laid_internal_strconv_uint64pow10 : DataW Unit)=Lib.tabData .u64 Lib.pow10Tab:=by unfold Rows.laid_internal_strconv_uint64pow10; rfl
 rw [e] at h4
 unfold Lib.TabIs
 rw [h3,← Lib.cells_of_tab Tryd.underlying131 Tryd.underlying102 ncU64 ncA20 h4]

theorem ngTop : Tryd.prog.globalNamed "math/bits.deBruijn64tab"=some 7:=by kernel_rfl
theorem nvar_lt {P : Program} {w : World} {n : String} {g : Nat} {cs : Array Value} (hg : P.globalNamed n=some g) (h : w.var? P n=some cs) : g < w.heap.size:=by
 unfold World.var? at h
 rw [hg] at h
 simp only [Option.bind_some] at h
 cases e : w.heap[g]? with
 | none => rw [e] at h; cases h
 | some o => exact (Array.getElem?_eq_some_iff.1 e).1

/-- The tables of a world in which the listed variables are as listed. -/
theorem nenv_of_laid {W : World} (hL : laidMet Tryd.prog nlaidL W) (hsh : W.ShapedOpen Tryd.prog) : NEnv W.heap.size W:=by
 have m4 : ("strconv.ErrRange",(Rows.laid_strconv_ErrRange : DataW Unit)) ∈ nlaidL:=by unfold nlaidL Rows.recordSaysRow; simp
 have m5 : ("strconv.ErrSyntax",(Rows.laid_strconv_ErrSyntax : DataW Unit)) ∈ nlaidL:=by unfold nlaidL Rows.recordSaysRow; simp
 obtain ⟨mx,hmx⟩:=Tryd.laysM146.s1_3 W hsh
 refine ⟨?_,npow_of_laid hL,nsome_iface hL m5 ngSyn ntSyn Tryd.underlying78,nsome_iface hL m4 ngRng ntRng Tryd.underlying78,⟨mx,hmx⟩⟩
 have m6 : ("math/bits.deBruijn64tab",(Rows.laid_math_bits_deBruijn64tab : DataW Unit)) ∈ nlaidL:=by unfold nlaidL Rows.recordSaysRow; simp
 obtain ⟨g',t',cs,fuel,p,h1,h2,h3,h4⟩:=nlaid_at hL m6
 have:=nvar_lt ngTop h3
 omega

end Go.Proofs.YtfaggdkiffhdbaaDoor
