/- What the listed variables read as gives the numbers' tables. -/
import Derived.Test.YtfaggdkiffhdbaaDoorImgEnv
import Derived.Test.YtfaggdkiffhdbaaDoorRows
import Derived.LaidMore
import Derived.Lib.LaidTab
import Derived.Stop.LaidErr
namespace Go.Proofs.YtfaggdkiffhdbaaDoor
open Go.RowKit Go.ChangeShapes Go.WideShapes Go.ChangeAt

/-- The listed variables. -/
def nlaidL : List (String×DataW Unit):=Rows.recordSaysRow.laid

/-- One of them. -/
theorem nlaid_at {P : Program} {W : World} : ∀ {l : List (String×DataW Unit)},laidMet P l W→∀ {n : String} {d : DataW Unit},(n,d) ∈ l→∃ g t cs fuel p,P.globalNamed n=some g∧(P.globals[g]?).map (·.type)=some t∧W.var? P n=some cs∧DataW.trod (fun _ => ()) P W 0 (fun _ => true) false fuel t cs.toList=some (d,p)
 | [],_,_,_,h => by cases h
 | x :: l,hL,n,d,h => by
  rcases List.mem_cons.1 h with rfl | h
  ·obtain ⟨ps,⟨g,t,cs,fuel,p,q,h1,h2,h3,h4,_⟩,_⟩:=hL
   exact ⟨g,t,cs,fuel,p,h1,h2,h3,h4⟩
  ·exact nlaid_at hL.tail h

theorem nsome_iface {W : World} {name nm : String} {g : Nat} {t : TypeId} {ms : Array (String×TypeId)} {d : DataW Unit} {l : List (String×DataW Unit)} (hL : laidMet Tryd.prog l W) (hm : (name,.iface nm d) ∈ l)
  (hg : Tryd.prog.globalNamed name=some g) (htt : (Tryd.prog.globals[g]?).map (·.type)=some t) (ht : Tryd.prog.underlying t=some (.interface ms)) : ∃ tp p,W.var? Tryd.prog name=some #[.iface tp p]:=by
 obtain ⟨g',t',cs,fuel,p,h1,h2,h3,h4⟩:=nlaid_at hL hm
 obtain rfl:=Option.some.inj (hg.symm.trans h1)
 obtain rfl:=Option.some.inj (htt.symm.trans h2)
 obtain ⟨_,u,v,e,_⟩:=iface_of_trod ht h4
 exact ⟨u,v,by rw [h3,Array.eq_one_of_toList e]⟩

theorem ntSyn : (Tryd.prog.globals[1]?).map (·.type)=some 78:=by kernel_rfl
theorem ntRng : (Tryd.prog.globals[2]?).map (·.type)=some 78:=by kernel_rfl
theorem ntPow : (Tryd.prog.globals[3]?).map (·.type)=some 131:=by kernel_rfl
theorem ncA20 : Tryd.prog.cellsOf 131=20:=by kernel_rfl
theorem ncU64 : Tryd.prog.cellsOf 102=1:=by kernel_rfl

theorem npow_of_laid {W : World} (hL : laidMet Tryd.prog nlaidL W) : Lib.TabIs Tryd.prog W "internal/strconv.uint64pow10" .u64 Lib.pow10Tab:=by
 have hm : ("internal/strconv.uint64pow10",(Rows.laid_internal_strconv_uint64pow10 : DataW Unit)) ∈ nlaidL:=by unfold nlaidL Rows.recordSaysRow; simp
 obtain ⟨g',t',cs,fuel,p,h1,h2,h3,h4⟩:=nlaid_at hL hm
 obtain rfl:=Option.some.inj (ngPow.symm.trans h1)
 obtain rfl:=Option.some.inj (ntPow.symm.trans h2)
 have e : (Rows.laid_internal_strconv_uint64pow10 : DataW Unit)=Lib.tabData .u64 Lib.pow10Tab:=by unfold Rows.laid_internal_strconv_uint64pow10; rfl
 rw [e] at h4
 unfold Lib.TabIs
 rw [h3,← Lib.cells_of_tab Tryd.underlying131 Tryd.underlying102 ncU64 ncA20 h4]

theorem ngTop : Tryd.prog.globalNamed "math/bits.deBruijn64tab"=some 7:=by kernel_rfl
theorem nvar_lt {P : Program} {w : World} {n : String} {g : Nat} {cs : Array Value} (hg : P.globalNamed n=some g) (h : w.var? P n=some cs) : g < w.heap.size:=by
 unfold World.var? at h
 rw [hg] at h
 simp only [Option.bind_some] at h
 cases e : w.heap[g]? with
 | none => rw [e] at h; cases h
 | some o => exact (Array.getElem?_eq_some_iff.1 e).1

/-- The tables of a world in which the listed variables are as listed. -/
theorem nenv_of_laid {W : World} (hL : laidMet Tryd.prog nlaidL W) (hsh : W.ShapedOpen Tryd.prog) : NEnv W.heap.size W:=by
 have m4 : ("strconv.ErrRange",(Rows.laid_strconv_ErrRange : DataW Unit)) ∈ nlaidL:=by unfold nlaidL Rows.recordSaysRow; simp
 have m5 : ("strconv.ErrSyntax",(Rows.laid_strconv_ErrSyntax : DataW Unit)) ∈ nlaidL:=by unfold nlaidL Rows.recordSaysRow; simp
 obtain ⟨mx,hmx⟩:=Tryd.laysM146.s1_3 W hsh
 refine ⟨?_,npow_of_laid hL,nsome_iface hL m5 ngSyn ntSyn Tryd.underlying78,nsome_iface hL m4 ngRng ntRng Tryd.underlying78,⟨mx,hmx⟩⟩
 have m6 : ("math/bits.deBruijn64tab",(Rows.laid_math_bits_deBruijn64tab : DataW Unit)) ∈ nlaidL:=by unfold nlaidL Rows.recordSaysRow; simp
 obtain ⟨g',t',cs,fuel,p,h1,h2,h3,h4⟩:=nlaid_at hL m6
 have:=nvar_lt ngTop h3
 omega

end Go.Proofs.YtfaggdkiffhdbaaDoor
