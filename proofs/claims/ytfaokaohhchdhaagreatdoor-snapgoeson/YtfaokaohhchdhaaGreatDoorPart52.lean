/- What the listed variables read as gives the program's tables. -/
import Derived.LaidMore
import Derived.Lib.LaidTab
import Derived.Stop.LaidErr
import Derived.Test.YtfaokaohhchdhaaGreatDoorCards
import Derived.Test.YtfaokaohhchdhaaGreatDoorTie
import Derived.ChangeOld
import Derived.ChangeMaps5
import Derived.Stop.Joined
import Derived.Test.YtfaokaohhchdhaaGreatDoorLawPG
namespace Go.Proofs.YtfaokaohhchdhaaGreatDoor
open Go.RowKit Go.ChangeShapes Go.WideShapes Go.ChangeAt
def laidL:List (String×DataW Unit):=Rows.vmPartsRow.laid
theorem laid_at {P:Program} {W:World}:∀ {l:List (String×DataW Unit)},laidMet P l W→∀ {n:String} {d:DataW Unit},(n,d) ∈ l→∃g t cs fuel p,P.globalNamed n=some g∧(P.globals[g]?).map (·.type)=some t∧W.var? P n=some cs∧DataW.trod (fun _=>()) P W 0 (fun _=>true) false fuel t cs.toList=some (d,p)
 | [],_,_,_,h=>by cases h
 | x::l,hL,n,d,h=>by
  rcases List.mem_cons.1 h with rfl|h
  ·obtain⟨ps,⟨g,t,cs,fuel,p,q,h1,h2,h3,h4,_⟩,_⟩:=hL
   exact⟨g,t,cs,fuel,p,h1,h2,h3,h4⟩
  ·exact laid_at hL.tail h
theorem some_iface {W:World} {name nm:String} {g:Nat} {t:TypeId} {ms:Array (String×TypeId)} {d:DataW Unit} {l:List (String×DataW Unit)} (hL:laidMet Tryz.prog l W) (hm:(name,.iface nm d) ∈ l)
  (hg:Tryz.prog.globalNamed name=some g) (htt:(Tryz.prog.globals[g]?).map (·.type)=some t) (ht:Tryz.prog.underlying t=some (.interface ms)):∃tp p,W.var? Tryz.prog name=some #[.iface tp p]:=by
 obtain⟨g',t',cs,fuel,p,h1,h2,h3,h4⟩:=laid_at hL hm
 obtain rfl:=Option.some.inj (hg.symm.trans h1)
 obtain rfl:=Option.some.inj (htt.symm.trans h2)
 obtain⟨_,u,v,e,_⟩:=iface_of_trod ht h4
 exact⟨u,v,by rw[h3,Array.eq_one_of_toList e]⟩
theorem tSyn:(Tryz.prog.globals[4]?).map (·.type)=some 182:=by kernel_rfl
theorem tRng:(Tryz.prog.globals[5]?).map (·.type)=some 182:=by kernel_rfl
theorem tPow:(Tryz.prog.globals[3]?).map (·.type)=some 276:=by kernel_rfl
theorem cA20:Tryz.prog.cellsOf 276=20:=by kernel_rfl
theorem cU64:Tryz.prog.cellsOf 239=1:=by kernel_rfl
theorem pow_of_laid {W:World} (hL:laidMet Tryz.prog laidL W):Lib.TabIs Tryz.prog W "internal/strconv.uint64pow10" .u64 Lib.pow10Tab:=by
 have hm:("internal/strconv.uint64pow10",(Rows.laid_internal_strconv_uint64pow10:DataW Unit)) ∈ laidL:=by unfold laidL Rows.vmPartsRow;simp
 obtain⟨g',t',cs,fuel,p,h1,h2,h3,h4⟩:=laid_at hL hm
 obtain rfl:=Option.some.inj (gPow.symm.trans h1)
 obtain rfl:=Option.some.inj (tPow.symm.trans h2)
 have e:(Rows.laid_internal_strconv_uint64pow10:DataW Unit)=Lib.tabData .u64 Lib.pow10Tab:=by unfold Rows.laid_internal_strconv_uint64pow10;rfl
 rw[e]at h4
 unfold Lib.TabIs
 rw[h3,←Lib.cells_of_tab Tryz.underlying276 Tryz.underlying239 cU64 cA20 h4]
theorem env_of_laid {W:World} (hL:laidMet Tryz.prog laidL W) (hsh:W.ShapedOpen Tryz.prog):Env W.heap.size W:=by
 have m4:("strconv.ErrRange",(Rows.laid_strconv_ErrRange:DataW Unit)) ∈ laidL:=by unfold laidL Rows.vmPartsRow;simp
 have m5:("strconv.ErrSyntax",(Rows.laid_strconv_ErrSyntax:DataW Unit)) ∈ laidL:=by unfold laidL Rows.vmPartsRow;simp
 obtain⟨mx,hmx⟩:=Tryz.laysM146.s1_3 W hsh
 refine⟨?_,pow_of_laid hL,some_iface hL m5 gSyn tSyn Tryz.underlying182,some_iface hL m4 gRng tRng Tryz.underlying182,⟨mx,hmx⟩⟩
 obtain⟨o,_,h,_⟩:=hsh.2 11 (of_decide_eq_true (by kernel_rfl)) (of_decide_eq_true (by kernel_rfl))
 have:=(Array.getElem?_eq_some_iff.1 h).1
 omega
theorem tSpc:(Tryz.prog.globals[0]?).map (·.type)=some 227:=by kernel_rfl
theorem cA256:Tryz.prog.cellsOf 227=256:=by kernel_rfl
theorem cU8:Tryz.prog.cellsOf 5=1:=by kernel_rfl
set_option maxRecDepth 20000 in
theorem spc_of_laid {W:World} (hL:laidMet Tryz.prog laidL W) (he:11≤W.heap.size):Spc W.heap.size W:=by
 refine⟨by omega,?_⟩
 have hm:("strings.asciiSpace",(Rows.laid_strings_asciiSpace:DataW Unit)) ∈ laidL:=by unfold laidL Rows.vmPartsRow;simp
 obtain⟨g',t',cs,fuel,p,h1,h2,h3,h4⟩:=laid_at hL hm
 obtain rfl:=Option.some.inj (gSpace.symm.trans h1)
 obtain rfl:=Option.some.inj (tSpc.symm.trans h2)
 have e:(Rows.laid_strings_asciiSpace:DataW Unit)=Lib.tabData .u8 Lib.asciiSpaceTab:=by unfold Rows.laid_strings_asciiSpace;rfl
 rw[e]at h4
 unfold Lib.TabIs
 rw[h3,←Lib.cells_of_tab Tryz.underlying227 Tryz.underlying5 cU8 cA256 h4]
end Go.Proofs.YtfaokaohhchdhaaGreatDoor
namespace Go.Proofs.YtfaokaohhchdhaaGreatDoor.doorV
open Go.ChangeShapes Go.WideShapes Go.ChangeAt Go.RowKit Go.Joins Go.ChangeMaps
def placeKey:MemPlace→Nat
 | .cell b off=>(b*1024+off)*2
 | .map b=>b*2+1
def fresh:List Nat→Nat→Bool
 | [],_=>true
 | k::r,m=>!(m.testBit k) && fresh r (m ||| 2 ^ k)
theorem fresh_ok:∀ {l:List Nat} {m:Nat},fresh l m=true→l.Nodup∧∀k ∈ l,m.testBit k=false
 | [],_,_=>⟨List.nodup_nil,fun _ h=>by cases h⟩
 | k::r,m,h=>by
  unfold fresh at h
  rw[Bool.and_eq_true]at h
  obtain⟨h1,h2⟩:=h
  obtain⟨n1,n2⟩:=fresh_ok h2
  have hk:m.testBit k=false:=by simpa using h1
  refine⟨List.nodup_cons.2 ⟨fun hm=>?_,n1⟩,fun x hx=>?_⟩
  ·have:=n2 k hm
   rw[Nat.testBit_or,Nat.testBit_two_pow_self]at this
   simp at this
  ·rcases List.mem_cons.1 hx with rfl|hx
   ·exact hk
   ·have:=n2 x hx
    rw[Nat.testBit_or]at this
    exact (Bool.or_eq_false_iff.1 this).1
theorem nodup_of_fresh {ps:List MemPlace} (h:fresh (ps.map placeKey) 0=true):ps.Nodup:=List.Pairwise.of_map placeKey (fun _ _ hab e=>hab (congrArg placeKey e)) (fresh_ok h).1
theorem laidMet_run {P:Program} {w:World} {l:List (String×DataW Unit)} (fuel:Nat) (h:(DataW.laidRun P w fuel (l.map (·.1))).map (·.1)=some l)
  (hr:(DataW.laidRun P w fuel (l.map (·.1))).map (fun x=>fresh (x.2.map placeKey) 0 && laidRowsB P w x.2)=some true):laidMet P l w:=by
 cases hx:DataW.laidRun P w fuel (l.map (·.1)) with
 | none=>simp[hx]at h
 | some x =>
  obtain⟨l',ps⟩:=x
  simp only[hx,Option.map_some,Option.some.injEq]at h hr
  subst h
  simp only[Bool.and_eq_true]at hr
  exact laidMet_of_run fuel hx (decide_eq_true (nodup_of_fresh hr.1)) hr.2
def cellsOfData:DataW Unit→Array Value
 | .agg l=>(l.map fun x=>match x with
  | .lit (.int k z)=>Value.int k z
  | _ => .bool false).toArray
 | _=>#[]
noncomputable def startW (os:Os):World :=
 { World.doorLaid Tryz.prog 400 os with heap:=(World.doorLaid Tryz.prog 400 os).heap.modify 6 fun o=>match o with
   | .cells _ t frozen => .cells (cellsOfData Rows.laid_unicode_utf8_first) t frozen
   | o=>o }
theorem door_one (os:Os) (args:Array Value):(DataW.laidRun Tryz.prog ((startW os).forCall (fun _ _=>0) ⟨#[],args,[]⟩).memory 8 ((laidL.filter fun x=>x.2.handleName?.isNone).map (·.1))).map (·.1)=some (laidL.filter fun x=>x.2.handleName?.isNone):=by kernel_rfl
theorem door_two (os:Os) (args:Array Value):(DataW.laidRun Tryz.prog ((startW os).forCall (fun _ _=>0) ⟨#[],args,[]⟩).memory 8 ((laidL.filter fun x=>x.2.handleName?.isNone).map (·.1))).map (fun x=>fresh (x.2.map placeKey) 0 && laidRowsB Tryz.prog ((startW os).forCall (fun _ _=>0) ⟨#[],args,[]⟩).memory x.2)=some true:=by kernel_rfl
theorem door_met (os:Os) (args:Array Value):laidMetH Tryz.prog laidL ((startW os).forCall (fun _ _=>0) ⟨#[],args,[]⟩).memory :=
 laidMetH_of_parts3 (fuel:=8) (laidMet_run 8 (door_one os args) (door_two os args)) (by kernel_rfl) (by kernel_rfl)
end Go.Proofs.YtfaokaohhchdhaaGreatDoor.doorV
namespace Go.Proofs.YtfaokaohhchdhaaGreatDoor
open Go.ChangeShapes Go.WideShapes Go.ChangeAt Go.RowKit Go.Deep Go.Joins
theorem cVal2:Tryz.prog.cellsOf 92=2:=by kernel_rfl
theorem cLVal1:Tryz.prog.cellsOf 35=1:=by kernel_rfl
theorem cFrame4:Tryz.prog.cellsOf 40=4:=by kernel_rfl
theorem cState4:Tryz.prog.cellsOf 26=4:=by kernel_rfl
theorem lenFour {α:Type} {l:List α} (h:l.length=4):∃a b c d,l=[a,b,c,d]:=by
 rcases l with _|⟨a,_|⟨b,_|⟨c,_|⟨d,_|⟨e,l⟩⟩⟩⟩⟩
 ·cases h
 ·cases h
 ·cases h
 ·cases h
 ·exact⟨a,b,c,d,rfl⟩
 ·simp at h
theorem pairs_list (n:Nat) (k z:Nat→Int):∃L:List (Int×Int),L.length=n∧∀i,i<n→fstAt L i=k i∧sndAt L i=z i:=by
 refine⟨(List.range n).map fun i=>(k i,z i),by simp,fun i hi=>?_⟩
 unfold fstAt sndAt
 simp[List.getD,hi]
theorem ValsAt.row {w:World} {v:Value} {n:Nat} {k z:Nat→Int} (h:ValsAt w v n k z):∃L,RowAt w v L:=by
 obtain⟨L,h1,h2⟩:=pairs_list n k z
 refine⟨L,?_⟩
 subst h1
 obtain⟨a,cap,rfl,hn,h0|⟨b,o,rfl,hb,hc⟩⟩:=h
 ·exact⟨a,cap,rfl,hn,Or.inl h0⟩
 ·refine⟨_,cap,rfl,hn,Or.inr ⟨b,o,rfl,hb,fun i hi=>?_⟩⟩
  rw[(h2 i hi).1,(h2 i hi).2]
  exact hc i hi
section
variable {H:Type} {enc:TypeId×Value→H} {W:World} {base:Nat} {spare:Nat→Bool} {held:Bool}
theorem row_of_trod {fuel:Nat} {v:Value} {x:DataW H×List MemPlace} (h:DataW.trod enc Tryz.prog W base spare held fuel 35 [v]=some x):∃L,RowAt W v L:=by
 rcases sliceEach Tryz.underlying35 h with rfl|⟨a,len,cap,n,rfl,hl,hi⟩
 ·exact⟨[],none,0,rfl,by simp,Or.inl rfl⟩
 ·have each:∀i,i<len→∃q:Int×Int,W.cell? (a.add (i*2))=some (.int .i64 q.1)∧W.cell? (a.add (i*2+1))=some (.int .i64 q.2):=by
   intro i hlt
   obtain⟨cs,y,h1,h2⟩:=hi i hlt
   rw[cVal2]at h1
   obtain⟨_,hlen,hcell⟩:=World.cells?_some h1
   obtain⟨xs,k,rfl,hxy,_,hxl,hf⟩:=DataW.trod_struct Tryz.underlying92 h2
   obtain⟨y0,y1,rfl⟩:∃a b,xs=[a,b]:=by
    rcases xs with _|⟨a,_|⟨b,_|⟨c,l⟩⟩⟩
    ·cases hxl
    ·cases hxl
    ·exact⟨a,b,rfl⟩
    ·simp at hxl
   obtain⟨v0,v1,rfl⟩:∃a b,cs=[a,b]:=by
    rcases cs with _|⟨a,_|⟨b,_|⟨c,l⟩⟩⟩
    ·cases hlen
    ·cases hlen
    ·exact⟨a,b,rfl⟩
    ·simp at hlen
   have g0:=hf 0 _ rfl
   have g1:=hf 1 _ rfl
   simp[cInt1]at g0 g1
   have e0:=hcell 0 (by omega)
   have e1:=hcell 1 (by omega)
   obtain⟨z0,q0,_,_⟩:=DataW.trod_int Tryz.underlying3 g0
   obtain⟨z1,q1,_,_⟩:=DataW.trod_int Tryz.underlying3 g1
   simp at q0 q1
   subst q0 q1
   rw[add_add]at e0 e1
   exact⟨(z0,z1),by simpa using e0,by simpa using e1⟩
  obtain⟨q,hq⟩:=pick_lt each
  refine ValsAt.row (n:=len) (k:=fun i=>(q i).1) (z:=fun i=>(q i).2) ⟨some a,cap,rfl,hl,?_⟩
  by_cases h0:len=0
  ·exact Or.inl h0
  ·right
   obtain⟨c0,_⟩:=hq 0 (by omega)
   have hp:=plainAt (v:=.int .i64 (q 0).1) (by simpa using c0)
   refine⟨a.block,a.off,by rw[hp],?_,fun i hlt=>?_⟩
   ·have:=cell_lt c0
    simpa[Addr.add]using this
   ·obtain⟨c0,c1⟩:=hq i hlt
    rw[hp,add_plain]at c0 c1
    exact⟨c0,c1⟩
theorem cs_of_trod {fuel:Nat} {v:Value} {x:DataW H×List MemPlace} (h:DataW.trod enc Tryz.prog W base spare held fuel 24 [v]=some x):∃cs,CsAt W v cs:=by
 rcases sliceEach Tryz.underlying24 h with rfl|⟨a,len,cap,n,rfl,hl,hi⟩
 ·exact⟨[],none,0,rfl,by simp,Or.inl rfl⟩
 ·have each:∀i,i<len→∃q:List (Int×Int),∃u,W.cell? (a.add i)=some u∧RowAt W u q:=by
   intro i hlt
   obtain⟨cs,y,h1,h2⟩:=hi i hlt
   rw[cLVal1,Nat.mul_one]at h1
   obtain⟨_,hlen,hcell⟩:=World.cells?_some h1
   obtain⟨u,rfl⟩:∃a,cs=[a]:=by
    rcases cs with _|⟨a,_|⟨b,l⟩⟩
    ·cases hlen
    ·exact⟨a,rfl⟩
    ·simp at hlen
   obtain⟨L,hL⟩:=row_of_trod h2
   have e0:=hcell 0 (by omega)
   rw[add_add,Nat.add_zero]at e0
   exact⟨L,u,by simpa using e0,hL⟩
  obtain⟨q,hq⟩:=pick_lt each
  have hcs:∀i,i<len→((List.range len).map q).getD i []=q i:=fun i hi=>by simp[List.getD,hi]
  refine⟨(List.range len).map q,some a,cap,by simp,by simpa using hl,?_⟩
  rw[List.length_map,List.length_range]
  by_cases h0:len=0
  ·exact Or.inl h0
  ·right
   obtain⟨_,c0,_⟩:=hq 0 (by omega)
   have hp:=plainAt (by simpa using c0)
   refine⟨a.block,a.off,by rw[hp],?_,fun i hlt=>?_⟩
   ·have:=cell_lt c0
    simpa[Addr.add]using this
   ·obtain⟨u,c0,hr⟩:=hq i hlt
    rw[hp,add_plain]at c0
    refine⟨u,c0,?_⟩
    unfold cLen cK cZ
    rw[hcs i hlt]
    exact hr
theorem frames_of_trod {fuel:Nat} {v:Value} {x:DataW H×List MemPlace} (h:DataW.trod enc Tryz.prog W base spare held fuel 23 [v]=some x):∃fs,FramesAt W v fs:=by
 rcases sliceEach Tryz.underlying23 h with rfl|⟨a,len,cap,n,rfl,hl,hi⟩
 ·exact⟨[],none,0,rfl,by simp,Or.inl rfl⟩
 ·have each:∀i,i<len→∃q:Fm,∃u,W.cell? (a.add (i*4))=some (.int .i64 q.proc)∧W.cell? (a.add (i*4+1))=some (.int .i64 q.pos)∧W.cell? (a.add (i*4+2))=some u∧W.cell? (a.add (i*4+3))=some (.int .i64 q.to)∧RowAt W u q.regs:=by
   intro i hlt
   obtain⟨cs,y,h1,h2⟩:=hi i hlt
   rw[cFrame4]at h1
   obtain⟨_,hlen,hcell⟩:=World.cells?_some h1
   obtain⟨xs,k,rfl,hxy,_,hxl,hf⟩:=DataW.trod_struct Tryz.underlying40 h2
   obtain⟨y0,y1,y2,y3,rfl⟩:=lenFour (l:=xs) hxl
   obtain⟨v0,v1,v2,v3,rfl⟩:=lenFour hlen
   have g0:=hf 0 _ rfl
   have g1:=hf 1 _ rfl
   have g2:=hf 2 _ rfl
   have g3:=hf 3 _ rfl
   simp[cInt1,cLVal1]at g0 g1 g2 g3
   have e0:=hcell 0 (by omega)
   have e1:=hcell 1 (by omega)
   have e2:=hcell 2 (by omega)
   have e3:=hcell 3 (by omega)
   obtain⟨z0,q0,_,_⟩:=DataW.trod_int Tryz.underlying3 g0
   obtain⟨z1,q1,_,_⟩:=DataW.trod_int Tryz.underlying3 g1
   obtain⟨z3,q3,_,_⟩:=DataW.trod_int Tryz.underlying3 g3
   simp at q0 q1 q3
   subst q0 q1 q3
   obtain⟨L,hL⟩:=row_of_trod g2
   rw[add_add]at e0 e1 e2 e3
   exact⟨⟨z0,z1,L,z3⟩,v2,by simpa using e0,by simpa using e1,by simpa using e2,by simpa using e3,hL⟩
  haveI:Inhabited Fm:=⟨noFm⟩
  obtain⟨q,hq⟩:=pick_lt each
  have hfs:∀i,i<len→fmAt ((List.range len).map q) i=q i:=fun i hi=>by simp[fmAt,List.getD,hi]
  refine⟨(List.range len).map q,some a,cap,by simp,by simpa using hl,?_⟩
  rw[List.length_map,List.length_range]
  by_cases h0:len=0
  ·exact Or.inl h0
  ·right
   obtain⟨_,c0,_⟩:=hq 0 (by omega)
   have hp:=plainAt (v:=.int .i64 (q 0).proc) (by simpa using c0)
   refine⟨a.block,a.off,by rw[hp],?_,fun i hlt=>?_⟩
   ·have:=cell_lt c0
    simpa[Addr.add]using this
   ·obtain⟨u,c0,c1,c2,c3,hr⟩:=hq i hlt
    rw[hp,add_plain]at c0 c1 c2 c3
    rw[hfs i hlt]
    exact⟨u,c0,c1,c2,c3,hr⟩
set_option maxRecDepth 20000 in
theorem sta_of_trod {r:Reach} {b0:Nat} {v:Value} {d:DataW H} {p:List MemPlace} (hv:Value.okWide Tryz.prog W r b0 26 v) (h:DataW.Trod enc Tryz.prog W base spare held 26 v d p):∃fv cv S,v=staV fv cv S.st S.wh∧StaAt W fv cv S:=by
 obtain⟨c0,c1,c2,c3,y0,y1,y2,y3,mm,rfl,_,_,h0,h1,h2,h3⟩:=open_agg4 Tryz.underlying26 (by kernel_rfl) cState4 hv h
 obtain⟨fs,hf⟩:=frames_of_trod h0
 obtain⟨cs,hc⟩:=cs_of_trod h1
 obtain⟨st,e2,_,_⟩:=DataW.trod_int Tryz.underlying3 h2
 obtain⟨wh,e3,_,_⟩:=DataW.trod_int Tryz.underlying3 h3
 simp at e2 e3
 exact⟨c0,c1,⟨fs,cs,st,wh⟩,by rw[e2,e3];rfl,hf,hc⟩
end
end Go.Proofs.YtfaokaohhchdhaaGreatDoor
namespace Go.Proofs.YtfaokaohhchdhaaGreatDoor.snapGoesOn
open Go.ChangeShapes Go.WideShapes Go.ChangeAt Go.RowKit Go.Joins Go.ChangeMaps Go.Proofs.YtfaokaohhchdhaaGreatDoor.doorV
theorem own:ownKnob Tryz.prog.godebug=none:=by kernel_rfl
theorem laidOut:laidOutB Tryz.prog=true:=by kernel_rfl
set_option maxRecDepth 100000 in
theorem lifted (os:Os) (started:os.Started) (H:Type) (enc:TypeId×Value→H) :
  ReturnsInHanded {} Tryz.checked os 9 .any (fun w args=>(Rows.snapGoesOnSpec.pre enc Tryz.prog Tryz.f9 [] false w args∧laidMetH Tryz.prog laidL w)∧sizedMet enc Tryz.prog Tryz.f9 (OpenSpec.ofChange Rows.snapGoesOnSpec) false w args)
   (Rows.snapGoesOnSpec.post enc Tryz.prog Tryz.f9 false true false false):=by
 refine returnsInHanded_of_calls own started (by kernel_rfl)
  (ChangeSpec.witness_shaped (enc:=enc) (C:=Tryz.checked) (os:=os) (fn:=Tryz.f9) (X:=fun w _=>laidMetH Tryz.prog laidL w) false (startW os) #[.slice none 0 0,.agg #[.slice none 0 0,.slice none 0 0,.int .i64 0,.int .i64 0],.int .i64 0] 8 rfl (World.shaped_of_RefB (by kernel_rfl) (by kernel_rfl)) (by kernel_rfl) (by kernel_rfl) (by kernel_rfl) (door_met os _)) ?_
 intro w tape i _ hsh _ hok hpre _
 obtain⟨_,_,_,fn',hfn',_,_,_,_,hval0⟩:=hok
 have efn:fn'=Tryz.f9:=Option.some.inj (hfn'.symm.trans Tryz.func9)
 subst efn
 obtain⟨⟨⟨ds,gs,before,hw,_⟩,hx⟩,_⟩:=hpre
 have hW:=DataW.Whole.of_heap (w':=w.forCall tape i) (by rfl) hw
 have hL0:laidMetH Tryz.prog laidL (w.forCall tape i):=hx.of_heap (by rfl)
 have key:Calls Tryz.prog 9 i.args (w.forCall tape i) fun e W'=>∃v,e=.returned v∧Rows.snapGoesOnSpec.post enc Tryz.prog Tryz.f9 false true false false (w.forCall tape i) i.args v W':=by
  generalize hargs0:i.args=args at *
  generalize w.forCall tape i=W at *
  have hL:laidMet Tryz.prog laidL W:=by
   rw[MakeChecks.laidMetH_plain _ _ _ (by kernel_rfl)]at hL0
   exact hL0
  have he:=env_of_laid hL hsh
  have hsp:=spc_of_laid hL he.low
  have hval:∀(j:Nat) t v,Tryz.f9.params[j]?=some t→args[j]?=some v→Value.okWide Tryz.prog W .any w.heap.size t v:=hval0
  have hW':=hW
  obtain⟨p,q,hA0,hV,rfl,hfz,hnd⟩:=hW
  have hA:DataW.TrodAll enc Tryz.prog W 0 (fun _=>true) true Tryz.f9.params.toList args.toList ds p:=hA0
  rw[Tryz.params9]at hA hval
  obtain⟨v0,vs0,d0,ds0,p0,q0,hargs,rfl,rfl,h0,r0⟩:=trodAll_cons hA
  obtain⟨v1,vs1,d1,ds1,p1,q1,rfl,rfl,rfl,h1,r1⟩:=trodAll_cons r0
  obtain⟨v2,vs2,d2,ds2,p2,q2,rfl,rfl,rfl,h2,r2⟩:=trodAll_cons r1
  obtain⟨rfl,rfl,rfl⟩:=trodAll_nil r2
  obtain rfl:args=#[v0,v1,v2]:=by cases args;simp_all
  obtain⟨rfl,rfl⟩:=trodVars_none hV
  have lt0:∀x ∈ p0,x.block<W.heap.size:=by obtain⟨m,hm⟩:=h0;exact DataW.trod_lt m _ _ _ hm
  have lt1:∀x ∈ p1,x.block<W.heap.size:=by obtain⟨m,hm⟩:=h1;exact DataW.trod_lt m _ _ _ hm
  have lt2:∀x ∈ p2,x.block<W.heap.size:=by obtain⟨m,hm⟩:=h2;exact DataW.trod_lt m _ _ _ hm
  obtain⟨np0,P0,f0⟩:∃(n:Nat) (P:Nat→Pc),ProcsAt W.heap.size W v0 n P:=by
   obtain⟨a,len,cap,rfl⟩:=okWide_slice Tryz.underlying22 (hval 0 22 v0 rfl rfl)
   obtain⟨fuel,hf⟩:=h0
   exact procs_of_trod (by simpa[Value.cells]using hf)
  obtain⟨fv1,cv1,S1,rfl,s1⟩:=sta_of_trod (hval 1 26 v1 rfl rfl) h1
  obtain⟨z2,rfl,y2⟩:∃z,v2=.int .i64 z∧(Lit.int .i64 z).wf=true:=by
   obtain⟨x,rfl,_,_,y⟩:=open_int Tryz.underlying3 (hval 2 3 v2 rfl rfl) h2
   exact⟨x,rfl,y⟩
  clear hA0 hval0 hval
  have HR:TrueC 33 W:=fun wk hk=>packed W.heap.size wk hk.size (he.below hk) (hsp.below hk)
  refine (Go.Proofs.YtfaokaohhchdhaaGreatDoor.snapGoesOn W.heap.size v0 fv1 cv1 S1 z2 W (Nat.le_refl _) f0 s1 HR).mono fun e W' ⟨he,bel0⟩=>?_
  have bel:Below W.heap.size W W':=bel0
  subst he
  exact⟨_,rfl,_,_,_,[],_,[],hW',trodAll_mk1 (shut_bool Tryz.underlying4 _),
   (trodAll_cons_mk (Below.trod laidOut (by kernel_rfl) (of_decide_eq_true (by kernel_rfl)) h0 bel lt0)
    (trodAll_cons_mk (Below.trod laidOut (by kernel_rfl) (of_decide_eq_true (by kernel_rfl)) h1 bel lt1)
    (trodAll_cons_mk (Below.trod laidOut (by kernel_rfl) (of_decide_eq_true (by kernel_rfl)) h2 bel lt2)
    trodAll_mk0))),rfl,bel.frame _,fun h=>by cases h⟩
 refine key.mono fun e W' ⟨v,he,hp⟩=>?_
 subst he
 exact ChangeSpec.post_blind hp
set_option maxHeartbeats 2000000 in
theorem over:Rows.snapGoesOnRow.holds Tryz.pinned (OpenSpec.ofChange Rows.snapGoesOnSpec) :=
 OpenClaim.holds_of_wide 9 Tryz.f9 rfl rfl rfl rfl rfl rfl rfl ⟨rfl,rfl,rfl,rfl,rfl⟩ rfl rfl rfl rfl rfl (by as_aux_lemma=>kernel_rfl) Tryz.func9 (by as_aux_lemma=>kernel_rfl)
  (of_decide_eq_true (by as_aux_lemma=>kernel_rfl)) (by unfold Func.isWrapper;first|(rw[if_pos (by decide +kernel)];kernel_rfl)|(rw[if_neg (by decide +kernel)];exact⟨rfl,rfl⟩))
  (fun os started H enc _=>lifted os started H enc)
end Go.Proofs.YtfaokaohhchdhaaGreatDoor.snapGoesOn
namespace Go.Proofs.YtfaokaohhchdhaaGreatDoor
open Go
theorem snapGoesOn_proved:Rows.SnapGoesOnCardSaid :=
 Claim7.holds_tied_plain_at .later [] [.data,.data,.data,.data,.sentinel,.sentinel,.listed,.data,.pinned] true (true,"84d25689f33b212f52b3031d0bbd290d5144cff6e83dda15c9cf78d893216ad7") true
  snapGoesOn.over (fun _ h=>by cases h) (by kernel_rfl) (fun _ h=>by cases h) snapGoesOn_row_tie rfl ⟨rfl,rfl⟩ (by kernel_rfl) rfl
  (fun f fn hf hfn=>by
   obtain rfl:f=9:=Option.some.inj ((show Tryz.prog.funcNamed "wanderer/wandererlaw.SnapGoesOn"=some 9 by kernel_rfl).symm.trans hf) |>.symm
   obtain rfl:fn=Tryz.f9:=(Option.some.inj (Tryz.func9.symm.trans hfn)).symm
   exact⟨by kernel_rfl,fun j t ht=>by
    rw[Tryz.params9]at ht
    have h3:t=22∨t=26∨t=3:=by
     rcases j with _|_|_|j
     ·left;simpa using ht.symm
     ·right;left;simpa using ht.symm
     ·right;right;simpa using ht.symm
     ·simp at ht
    rcases h3 with rfl|rfl|rfl
    ·exact (show Tryz.prog.wantsStandIn 22=false by kernel_rfl)
    ·exact (show Tryz.prog.wantsStandIn 26=false by kernel_rfl)
    ·exact (show Tryz.prog.wantsStandIn 3=false by kernel_rfl)⟩)
  (by kernel_rfl)
#print axioms snapGoesOn_proved
end Go.Proofs.YtfaokaohhchdhaaGreatDoor
