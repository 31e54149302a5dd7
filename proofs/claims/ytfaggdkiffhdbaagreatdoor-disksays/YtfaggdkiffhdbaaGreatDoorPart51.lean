/- A row of bytes, a disk, read as data. -/
import Derived.Test.YtfaggdkiffhdbaaGreatDoorDiskOps
import Derived.Test.YtfaggdkiffhdbaaGreatDoorPart33
import Derived.Test.YtfaggdkiffhdbaaGreatDoorPart7
import Derived.ChangeSame
import Derived.SizedLaws
import Derived.Test.YtfaggdkiffhdbaaGreatDoorImgEnv
import Derived.Test.YtfaggdkiffhdbaaGreatDoorRows
import Derived.LaidMore
import Derived.Lib.LaidTab
import Derived.Stop.LaidErr
namespace Go.Proofs.YtfaggdkiffhdbaaGreatDoor
open Go.ChangeShapes Go.WideShapes Go.ChangeAt Go.RowKit Go.Joins Go.Maps

section
variable {H : Type} {enc : TypeId×Value→H} {W : World} {base : Nat} {spare : Nat→Bool} {held : Bool}
theorem bytes_of_trod {fuel : Nat} {v : Value} {x : DataW H×List MemPlace} (h : DataW.trod enc Tryz.prog W base spare held fuel 22 [v]=some x) : ∃ a c l,v=.slice a l.length c∧BytesL W.heap.size W a c l∧(l=[]∨∃ el sp,x.1=.slice el sp∧l.length≤el.length):=by
 have hc1 : Tryz.prog.cellsOf 5=1:=by kernel_rfl
 rcases open_ints Tryz.underlying22 Tryz.underlying5 hc1 h with ⟨e,_⟩ | ⟨p,len,cap,zs,e,_,hl,hm,hz,hx,hcell,hwz⟩
 ·obtain rfl : v=.slice none 0 0:=by simpa using e
  exact ⟨none,0,[],rfl,BytesL.none _ _,Or.inl rfl⟩
 ·obtain rfl : v=.slice (some p) len cap:=by simpa using e
  have hlen : len≤zs.length:=by rw [hz]; split <;> omega
  have ht : ((zs.take len).map fun z => UInt8.ofNat z.toNat).length=len:=by rw [List.length_map,List.length_take]; omega
  refine ⟨some p,cap,(zs.take len).map fun z => UInt8.ofNat z.toNat,by rw [ht],⟨by omega,by unfold maxLen at hm; omega,(fun e => by cases e),(fun q hq => ?_)⟩,Or.inr ⟨lits .u8 (zs.take len),lits .u8 (zs.drop len),by rw [hx],by rw [ht]; unfold lits; simp; omega⟩⟩
  cases hq
  by_cases h0 : len=0
  ·left; subst h0; rfl
  ·right
   obtain ⟨b,off,rfl,hc⟩:=ints_at hcell (by omega)
   have h1:=hc 0 (by omega)
   refine ⟨b,off,rfl,by have:=cell_lt h1; simpa using this,fun i z hi => ?_⟩
   rw [List.getElem?_map] at hi
   obtain ⟨y,hy,rfl⟩:=Option.map_eq_some_iff.1 hi
   have hil : i < len:=by have:=(List.getElem?_eq_some_iff.1 hy).1; rw [List.length_take] at this; omega
   rw [List.getElem?_take_of_lt hil] at hy
   have hw:=hwz y (List.mem_of_getElem? hy)
   have e1 : zs.getD i 0=y:=by simp [List.getD,hy]
   rw [hc i (by omega),e1]
   simp only [Lit.wf,Bool.and_eq_true,decide_eq_true_eq] at hw
   have m1 : IntKind.u8.min=0:=by decide
   have m2 : IntKind.u8.max=255:=by decide
   rw [m1,m2] at hw
   have : ((UInt8.ofNat y.toNat).toNat : Int)=y:=by
    rw [UInt8.toNat_ofNat']
    omega
   rw [this]

set_option maxRecDepth 20000 in
theorem disk_of_trod {r : Reach} {b0 : Nat} {v : Value} {d : DataW H} {p : List MemPlace} (hv : Value.okWide Tryz.prog W r b0 24 v) (h : DataW.Trod enc Tryz.prog W base spare held 24 v d p) :
  ∃ sa sc wa wc D,v=.agg #[.slice sa (Dk.safe D).length sc,.slice wa (Dk.wait D).length wc]∧DiskIn W.heap.size W sa sc wa wc D∧((∀ n ∈ d.weights Tryz.prog 24,n≤reachBytes)→DSmall D):=by
 have c2 : Tryz.prog.cellsOf 24=2:=by kernel_rfl
 have cb : Tryz.prog.cellsOf 22=1:=by kernel_rfl
 have hb5 : Tryz.prog.bytesOf 5=1:=by kernel_rfl
 obtain ⟨cs,rfl,hsz⟩:=okWide_struct Tryz.underlying24 hv
 obtain ⟨fuel,hf0⟩:=h
 rw [c2] at hsz
 obtain ⟨v0,v1,hcs⟩ : ∃ v0 v1,cs=#[v0,v1]:=by
  obtain ⟨l⟩:=cs
  rcases l with _ | ⟨a,_ | ⟨b,_ | ⟨c,l⟩⟩⟩
  ·simp at hsz
  ·simp at hsz
  ·exact ⟨a,b,rfl⟩
  ·simp at hsz
 subst hcs
 have hf1 : DataW.trod enc Tryz.prog W base spare held fuel 24 [v0,v1]=some (d,p):=by simpa [Value.cells] using hf0
 obtain ⟨y0,y1,n,e,_,g0,g1⟩:=trod_struct2 Tryz.underlying24 hf1
 simp [cb] at g0 g1
 obtain ⟨sa,sc,l0,rfl,h0,k0⟩:=bytes_of_trod g0
 obtain ⟨wa,wc,l1,rfl,h1,k1⟩:=bytes_of_trod g1
 refine ⟨sa,sc,wa,wc,⟨l0,l1⟩,rfl,⟨h0,h1⟩,fun hw => ?_⟩
 injection e with e _
 subst e
 simp only [DataW.weights,Tryz.underlying24] at hw
 have hr:=reachBytes_lt
 constructor
 ·rcases k0 with rfl | ⟨el,sp,e0,hle⟩
  ·simp
  ·have:=hw ((el.length + sp.length) * Tryz.prog.bytesOf 5) (by simp [DataW.weightsEach,e0,DataW.weights,Tryz.underlying22])
   rw [hb5] at this
   simp only []
   omega
 ·rcases k1 with rfl | ⟨el,sp,e0,hle⟩
  ·simp
  ·have:=hw ((el.length + sp.length) * Tryz.prog.bytesOf 5) (by simp [DataW.weightsEach,e0,DataW.weights,Tryz.underlying22])
   rw [hb5] at this
   simp only []
   omega

set_option maxRecDepth 20000 in
theorem rec_of_trod2 {r : Reach} {b0 : Nat} {v : Value} {d : DataW H} {p : List MemPlace} (hv : Value.okWide Tryz.prog W r b0 27 v) (h : DataW.Trod enc Tryz.prog W base spare held 27 v d p) :
  ∃ sa sc ia ic R,v=.agg #[.int .i64 R.kind,.int .i64 R.co,.int .i64 R.ep,.int .i64 R.pl,.slice sa R.says.length sc,.slice ia R.img.length ic]∧RecIn W.heap.size W sa sc ia ic R∧(Lit.int .i64 R.kind).wf=true:=by
 obtain ⟨cs,rfl,hsz⟩:=okWide_struct Tryz.underlying27 hv
 obtain ⟨fuel,hf0⟩:=h
 rw [cRec6] at hsz
 obtain ⟨v0,v1,v2,v3,v4,v5,hcs⟩:=lenSix (l:=cs.toList) (by simpa using hsz)
 obtain rfl : cs=#[v0,v1,v2,v3,v4,v5]:=by cases cs; simp_all
 have hf1 : DataW.trod enc Tryz.prog W base spare held fuel 27 [v0,v1,v2,v3,v4,v5]=some (d,p):=by simpa [Value.cells] using hf0
 obtain ⟨xs,k,_,hxy,_,hxl,hf⟩:=DataW.trod_struct Tryz.underlying27 hf1
 obtain ⟨y0,y1,y2,y3,y4,y5,rfl⟩:=lenSix (l:=xs) hxl
 have g0:=hf 0 _ rfl
 have g1:=hf 1 _ rfl
 have g2:=hf 2 _ rfl
 have g3:=hf 3 _ rfl
 have g4:=hf 4 _ rfl
 have g5:=hf 5 _ rfl
 simp [cI1,cLI1] at g0 g1 g2 g3 g4 g5
 obtain ⟨z0,q0,_,w0⟩:=DataW.trod_int Tryz.underlying3 g0
 obtain ⟨z1,q1,_,_⟩:=DataW.trod_int Tryz.underlying3 g1
 obtain ⟨z2,q2,_,_⟩:=DataW.trod_int Tryz.underlying3 g2
 obtain ⟨z3,q3,_,_⟩:=DataW.trod_int Tryz.underlying3 g3
 simp at q0 q1 q2 q3
 obtain ⟨sa,sc,ls,e4,h4⟩:=list_of_trod g4
 obtain ⟨ia,ic,li,e5,h5⟩:=list_of_trod g5
 exact ⟨sa,sc,ia,ic,⟨z0,z1,z2,z3,ls,li⟩,by rw [q0,q1,q2,q3,e4,e5],⟨h4,h5⟩,w0⟩
end
end Go.Proofs.YtfaggdkiffhdbaaGreatDoor
namespace Go.Proofs.YtfaggdkiffhdbaaGreatDoor
open Go.RowKit Go.ChangeShapes Go.WideShapes Go.ChangeAt

/-- The listed variables. -/
def nlaidL : List (String×DataW Unit):=Rows.diskSaysRow.laid

/-- One of them. -/
theorem nlaid_at {P : Program} {W : World} : ∀ {l : List (String×DataW Unit)},laidMet P l W→∀ {n : String} {d : DataW Unit},(n,d) ∈ l→∃ g t cs fuel p,P.globalNamed n=some g∧(P.globals[g]?).map (·.type)=some t∧W.var? P n=some cs∧DataW.trod (fun _ => ()) P W 0 (fun _ => true) false fuel t cs.toList=some (d,p)
 | [],_,_,_,h => by cases h
 | x :: l,hL,n,d,h => by
  rcases List.mem_cons.1 h with rfl | h
  ·obtain ⟨ps,⟨g,t,cs,fuel,p,q,h1,h2,h3,h4,_⟩,_⟩:=hL
   exact ⟨g,t,cs,fuel,p,h1,h2,h3,h4⟩
  ·exact nlaid_at hL.tail h

theorem nsome_iface {W : World} {name nm : String} {g : Nat} {t : TypeId} {ms : Array (String×TypeId)} {d : DataW Unit} {l : List (String×DataW Unit)} (hL : laidMet Tryz.prog l W) (hm : (name,.iface nm d) ∈ l)
  (hg : Tryz.prog.globalNamed name=some g) (htt : (Tryz.prog.globals[g]?).map (·.type)=some t) (ht : Tryz.prog.underlying t=some (.interface ms)) : ∃ tp p,W.var? Tryz.prog name=some #[.iface tp p]:=by
 obtain ⟨g',t',cs,fuel,p,h1,h2,h3,h4⟩:=nlaid_at hL hm
 obtain rfl:=Option.some.inj (hg.symm.trans h1)
 obtain rfl:=Option.some.inj (htt.symm.trans h2)
 obtain ⟨_,u,v,e,_⟩:=iface_of_trod ht h4
 exact ⟨u,v,by rw [h3,Array.eq_one_of_toList e]⟩

theorem ntSyn : (Tryz.prog.globals[2]?).map (·.type)=some 91:=by kernel_rfl
theorem ntRng : (Tryz.prog.globals[3]?).map (·.type)=some 91:=by kernel_rfl
theorem ntPow : (Tryz.prog.globals[1]?).map (·.type)=some 130:=by kernel_rfl
theorem ncA20 : Tryz.prog.cellsOf 130=20:=by kernel_rfl
theorem ncU64 : Tryz.prog.cellsOf 105=1:=by kernel_rfl

theorem npow_of_laid {W : World} (hL : laidMet Tryz.prog nlaidL W) : Lib.TabIs Tryz.prog W "internal/strconv.uint64pow10" .u64 Lib.pow10Tab:=by
 have hm : ("internal/strconv.uint64pow10",(Rows.laid_internal_strconv_uint64pow10 : DataW Unit)) ∈ nlaidL:=by unfold nlaidL Rows.diskSaysRow; simp
 obtain ⟨g',t',cs,fuel,p,h1,h2,h3,h4⟩:=nlaid_at hL hm
 obtain rfl:=Option.some.inj (ngPow.symm.trans h1)
 obtain rfl:=Option.some.inj (ntPow.symm.trans h2)
 have e : (Rows.laid_internal_strconv_uint64pow10 : DataW Unit)=Lib.tabData .u64 Lib.pow10Tab:=by unfold Rows.laid_internal_strconv_uint64pow10; rfl
 rw [e] at h4
 unfold Lib.TabIs
 rw [h3,← Lib.cells_of_tab Tryz.underlying130 Tryz.underlying105 ncU64 ncA20 h4]

theorem ngTop : Tryz.prog.globalNamed "math/bits.deBruijn64tab"=some 7:=by kernel_rfl
theorem nvar_lt {P : Program} {w : World} {n : String} {g : Nat} {cs : Array Value} (hg : P.globalNamed n=some g) (h : w.var? P n=some cs) : g < w.heap.size:=by
 unfold World.var? at h
 rw [hg] at h
 simp only [Option.bind_some] at h
 cases e : w.heap[g]? with
 | none => rw [e] at h; cases h
 | some o => exact (Array.getElem?_eq_some_iff.1 e).1

/-- The tables of a world in which the listed variables are as listed. -/
theorem nenv_of_laid {W : World} (hL : laidMet Tryz.prog nlaidL W) (hsh : W.ShapedOpen Tryz.prog) : NEnv W.heap.size W:=by
 have m4 : ("strconv.ErrRange",(Rows.laid_strconv_ErrRange : DataW Unit)) ∈ nlaidL:=by unfold nlaidL Rows.diskSaysRow; simp
 have m5 : ("strconv.ErrSyntax",(Rows.laid_strconv_ErrSyntax : DataW Unit)) ∈ nlaidL:=by unfold nlaidL Rows.diskSaysRow; simp
 obtain ⟨mx,hmx⟩:=Tryz.laysM146.s1_3 W hsh
 refine ⟨?_,npow_of_laid hL,nsome_iface hL m5 ngSyn ntSyn Tryz.underlying91,nsome_iface hL m4 ngRng ntRng Tryz.underlying91,⟨mx,hmx⟩⟩
 have m6 : ("math/bits.deBruijn64tab",(Rows.laid_math_bits_deBruijn64tab : DataW Unit)) ∈ nlaidL:=by unfold nlaidL Rows.diskSaysRow; simp
 obtain ⟨g',t',cs,fuel,p,h1,h2,h3,h4⟩:=nlaid_at hL m6
 have:=nvar_lt ngTop h3
 omega

end Go.Proofs.YtfaggdkiffhdbaaGreatDoor
