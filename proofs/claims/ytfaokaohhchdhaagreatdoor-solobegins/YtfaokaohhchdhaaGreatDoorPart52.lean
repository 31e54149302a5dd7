/- What the listed variables read as gives the program's tables. -/
import Derived.Test.YtfaokaohhchdhaaGreatDoorQRead
import Derived.Test.YtfaokaohhchdhaaGreatDoorRows
import Derived.LaidMore
import Derived.Lib.LaidTab
import Derived.Stop.LaidErr
import Derived.Test.YtfaokaohhchdhaaGreatDoorCards
import Derived.Test.YtfaokaohhchdhaaGreatDoorTie
import Derived.Lib.SmallJoins
import Derived.ChangeOld
import Derived.ChangeMaps5
import Derived.Stop.Joined
import Derived.SevenTiedAt
import Derived.Test.YtfaokaohhchdhaaGreatDoorPart5
import Derived.Deep.SlicePairs
import Derived.Test.YtfaokaohhchdhaaGreatDoorVmMem
import Derived.Test.YtfaokaohhchdhaaGreatDoorLawSB
import Derived.Test.YtfaokaohhchdhaaGreatDoorPart49
namespace Go.Proofs.YtfaokaohhchdhaaGreatDoor
open Go.RowKit Go.ChangeShapes Go.WideShapes Go.ChangeAt
def laidL : List (String × DataW Unit):=Rows.vmPartsRow.laid
theorem laid_at {P : Program} {W : World} : ∀ {l : List (String × DataW Unit)},laidMet P l W→∀ {n : String} {d : DataW Unit},(n,d) ∈ l→∃ g t cs fuel p,P.globalNamed n = some g∧(P.globals[g]?).map (·.type) = some t∧W.var? P n = some cs∧DataW.trod (fun _ => ()) P W 0 (fun _ => true) false fuel t cs.toList = some (d,p)
 | [],_,_,_,h => by cases h
 | x :: l,hL,n,d,h => by
  rcases List.mem_cons.1 h with rfl | h
  ·obtain ⟨ps,⟨g,t,cs,fuel,p,q,h1,h2,h3,h4,_⟩,_⟩:=hL
   exact ⟨g,t,cs,fuel,p,h1,h2,h3,h4⟩
  ·exact laid_at hL.tail h
theorem some_iface {W : World} {name nm : String} {g : Nat} {t : TypeId} {ms : Array (String × TypeId)} {d : DataW Unit} {l : List (String × DataW Unit)} (hL : laidMet Tryz.prog l W) (hm : (name,.iface nm d) ∈ l)
  (hg : Tryz.prog.globalNamed name = some g) (htt : (Tryz.prog.globals[g]?).map (·.type) = some t) (ht : Tryz.prog.underlying t = some (.interface ms)) : ∃ tp p,W.var? Tryz.prog name = some #[.iface tp p]:=by
 obtain ⟨g',t',cs,fuel,p,h1,h2,h3,h4⟩:=laid_at hL hm
 obtain rfl:=Option.some.inj (hg.symm.trans h1)
 obtain rfl:=Option.some.inj (htt.symm.trans h2)
 obtain ⟨_,u,v,e,_⟩:=iface_of_trod ht h4
 exact ⟨u,v,by rw [h3,Array.eq_one_of_toList e]⟩
theorem tSyn : (Tryz.prog.globals[4]?).map (·.type) = some 182:=by kernel_rfl
theorem tRng : (Tryz.prog.globals[5]?).map (·.type) = some 182:=by kernel_rfl
theorem tPow : (Tryz.prog.globals[3]?).map (·.type) = some 276:=by kernel_rfl
theorem cA20 : Tryz.prog.cellsOf 276 = 20:=by kernel_rfl
theorem cU64 : Tryz.prog.cellsOf 239 = 1:=by kernel_rfl
theorem pow_of_laid {W : World} (hL : laidMet Tryz.prog laidL W) : Lib.TabIs Tryz.prog W "internal/strconv.uint64pow10" .u64 Lib.pow10Tab:=by
 have hm : ("internal/strconv.uint64pow10",(Rows.laid_internal_strconv_uint64pow10 : DataW Unit)) ∈ laidL:=by unfold laidL Rows.vmPartsRow; simp
 obtain ⟨g',t',cs,fuel,p,h1,h2,h3,h4⟩:=laid_at hL hm
 obtain rfl:=Option.some.inj (gPow.symm.trans h1)
 obtain rfl:=Option.some.inj (tPow.symm.trans h2)
 have e : (Rows.laid_internal_strconv_uint64pow10 : DataW Unit) = Lib.tabData .u64 Lib.pow10Tab:=by unfold Rows.laid_internal_strconv_uint64pow10; rfl
 rw [e] at h4
 unfold Lib.TabIs
 rw [h3,← Lib.cells_of_tab Tryz.underlying276 Tryz.underlying239 cU64 cA20 h4]
theorem env_of_laid {W : World} (hL : laidMet Tryz.prog laidL W) (hsh : W.ShapedOpen Tryz.prog) : Env W.heap.size W:=by
 have m4 : ("strconv.ErrRange",(Rows.laid_strconv_ErrRange : DataW Unit)) ∈ laidL:=by unfold laidL Rows.vmPartsRow; simp
 have m5 : ("strconv.ErrSyntax",(Rows.laid_strconv_ErrSyntax : DataW Unit)) ∈ laidL:=by unfold laidL Rows.vmPartsRow; simp
 obtain ⟨mx,hmx⟩:=Tryz.laysM146.s1_3 W hsh
 refine ⟨?_,pow_of_laid hL,some_iface hL m5 gSyn tSyn Tryz.underlying182,some_iface hL m4 gRng tRng Tryz.underlying182,⟨mx,hmx⟩⟩
 obtain ⟨o,_,h,_⟩:=hsh.2 11 (of_decide_eq_true (by kernel_rfl)) (of_decide_eq_true (by kernel_rfl))
 have:=(Array.getElem?_eq_some_iff.1 h).1
 omega
theorem tSpc : (Tryz.prog.globals[0]?).map (·.type) = some 227:=by kernel_rfl
theorem cA256 : Tryz.prog.cellsOf 227 = 256:=by kernel_rfl
theorem cU8 : Tryz.prog.cellsOf 5 = 1:=by kernel_rfl
set_option maxRecDepth 20000 in
theorem spc_of_laid {W : World} (hL : laidMet Tryz.prog laidL W) (he : 11 ≤ W.heap.size) : Spc W.heap.size W:=by
 refine ⟨by omega,?_⟩
 have hm : ("strings.asciiSpace",(Rows.laid_strings_asciiSpace : DataW Unit)) ∈ laidL:=by unfold laidL Rows.vmPartsRow; simp
 obtain ⟨g',t',cs,fuel,p,h1,h2,h3,h4⟩:=laid_at hL hm
 obtain rfl:=Option.some.inj (gSpace.symm.trans h1)
 obtain rfl:=Option.some.inj (tSpc.symm.trans h2)
 have e : (Rows.laid_strings_asciiSpace : DataW Unit) = Lib.tabData .u8 Lib.asciiSpaceTab:=by unfold Rows.laid_strings_asciiSpace; rfl
 rw [e] at h4
 unfold Lib.TabIs
 rw [h3,← Lib.cells_of_tab Tryz.underlying227 Tryz.underlying5 cU8 cA256 h4]
end Go.Proofs.YtfaokaohhchdhaaGreatDoor
namespace Go.Proofs.YtfaokaohhchdhaaGreatDoor.doorV
open Go.ChangeShapes Go.WideShapes Go.ChangeAt Go.RowKit Go.Joins Go.ChangeMaps
def placeKey : MemPlace→Nat
 | .cell b off => (b * 1024 + off) * 2
 | .map b => b * 2 + 1
def fresh : List Nat→Nat→Bool
 | [],_ => true
 | k :: r,m => !(m.testBit k) && fresh r (m ||| 2 ^ k)
theorem fresh_ok : ∀ {l : List Nat} {m : Nat},fresh l m = true→l.Nodup∧∀ k ∈ l,m.testBit k = false
 | [],_,_ => ⟨List.nodup_nil,fun _ h => by cases h⟩
 | k :: r,m,h => by
  unfold fresh at h
  rw [Bool.and_eq_true] at h
  obtain ⟨h1,h2⟩:=h
  obtain ⟨n1,n2⟩:=fresh_ok h2
  have hk : m.testBit k = false:=by simpa using h1
  refine ⟨List.nodup_cons.2 ⟨fun hm => ?_,n1⟩,fun x hx => ?_⟩
  ·have:=n2 k hm
   rw [Nat.testBit_or,Nat.testBit_two_pow_self] at this
   simp at this
  ·rcases List.mem_cons.1 hx with rfl | hx
   ·exact hk
   ·have:=n2 x hx
    rw [Nat.testBit_or] at this
    exact (Bool.or_eq_false_iff.1 this).1
theorem nodup_of_fresh {ps : List MemPlace} (h : fresh (ps.map placeKey) 0 = true) : ps.Nodup:=List.Pairwise.of_map placeKey (fun _ _ hab e => hab (congrArg placeKey e)) (fresh_ok h).1
theorem laidMet_run {P : Program} {w : World} {l : List (String × DataW Unit)} (fuel : Nat) (h : (DataW.laidRun P w fuel (l.map (·.1))).map (·.1) = some l)
  (hr : (DataW.laidRun P w fuel (l.map (·.1))).map (fun x => fresh (x.2.map placeKey) 0 && laidRowsB P w x.2) = some true) : laidMet P l w:=by
 cases hx : DataW.laidRun P w fuel (l.map (·.1)) with
 | none => simp [hx] at h
 | some x =>
  obtain ⟨l',ps⟩:=x
  simp only [hx,Option.map_some,Option.some.injEq] at h hr
  subst h
  simp only [Bool.and_eq_true] at hr
  exact laidMet_of_run fuel hx (decide_eq_true (nodup_of_fresh hr.1)) hr.2
def cellsOfData : DataW Unit→Array Value
 | .agg l => (l.map fun x => match x with
  | .lit (.int k z) => Value.int k z
  | _ => .bool false).toArray
 | _ => #[]
noncomputable def startW (os : Os) : World :=
 { World.doorLaid Tryz.prog 400 os with heap:=(World.doorLaid Tryz.prog 400 os).heap.modify 6 fun o => match o with
   | .cells _ t frozen => .cells (cellsOfData Rows.laid_unicode_utf8_first) t frozen
   | o => o }
theorem door_one (os : Os) (args : Array Value) : (DataW.laidRun Tryz.prog ((startW os).forCall (fun _ _ => 0) ⟨#[],args,[]⟩).memory 8 ((laidL.filter fun x => x.2.handleName?.isNone).map (·.1))).map (·.1) = some (laidL.filter fun x => x.2.handleName?.isNone):=by kernel_rfl
theorem door_two (os : Os) (args : Array Value) : (DataW.laidRun Tryz.prog ((startW os).forCall (fun _ _ => 0) ⟨#[],args,[]⟩).memory 8 ((laidL.filter fun x => x.2.handleName?.isNone).map (·.1))).map (fun x => fresh (x.2.map placeKey) 0 && laidRowsB Tryz.prog ((startW os).forCall (fun _ _ => 0) ⟨#[],args,[]⟩).memory x.2) = some true:=by kernel_rfl
theorem door_met (os : Os) (args : Array Value) : laidMetH Tryz.prog laidL ((startW os).forCall (fun _ _ => 0) ⟨#[],args,[]⟩).memory :=
 laidMetH_of_parts3 (fuel:=8) (laidMet_run 8 (door_one os args) (door_two os args)) (by kernel_rfl) (by kernel_rfl)
end Go.Proofs.YtfaokaohhchdhaaGreatDoor.doorV
namespace Go.Proofs.YtfaokaohhchdhaaGreatDoor
open Go.ChangeShapes Go.WideShapes Go.ChangeAt Go.RowKit Go.Deep
theorem cIns5 : Tryz.prog.cellsOf 84 = 5:=by kernel_rfl
theorem cProc3 : Tryz.prog.cellsOf 38 = 3:=by kernel_rfl
theorem cLInt1 : Tryz.prog.cellsOf 30 = 1:=by kernel_rfl
theorem cLIns1 : Tryz.prog.cellsOf 36 = 1:=by kernel_rfl
theorem cInt1 : Tryz.prog.cellsOf 3 = 1:=by kernel_rfl
theorem plainAt {w : World} {a : Addr} {v : Value} (h : w.cell? (a.add 0) = some v) : a = ⟨a.block,a.off,none⟩:=by
 have hs:=World.cell?_spot h
 obtain ⟨b,o,s⟩:=a
 have hs' : s = none:=by simpa [Addr.add] using hs
 rw [hs']
theorem lenFive {α : Type} {l : List α} (h : l.length = 5) : ∃ a b c d e,l = [a,b,c,d,e]:=by
 rcases l with _ | ⟨a,_ | ⟨b,_ | ⟨c,_ | ⟨d,_ | ⟨e,_ | ⟨f,l⟩⟩⟩⟩⟩⟩
 ·cases h
 ·cases h
 ·cases h
 ·cases h
 ·cases h
 ·exact ⟨a,b,c,d,e,rfl⟩
 ·simp at h
theorem lenThree {α : Type} {l : List α} (h : l.length = 3) : ∃ a b c,l = [a,b,c]:=by
 rcases l with _ | ⟨a,_ | ⟨b,_ | ⟨c,_ | ⟨d,l⟩⟩⟩⟩
 ·cases h
 ·cases h
 ·cases h
 ·exact ⟨a,b,c,rfl⟩
 ·simp at h
theorem pick_lt {α : Type} [Inhabited α] {n : Nat} {p : Nat→α→Prop} (h : ∀ i,i < n→∃ x,p i x) : ∃ f : Nat→α,∀ i,i < n→p i (f i) :=
 ⟨fun i => if hi : i < n then Classical.choose (h i hi) else default,fun i hi => by
  show p i (if hi : i < n then Classical.choose (h i hi) else default)
  rw [dif_pos hi]; exact Classical.choose_spec (h i hi)⟩
section
variable {H : Type} {enc : TypeId × Value→H} {W : World} {base : Nat} {spare : Nat→Bool} {held : Bool}
theorem sliceEach {t e : TypeId} {fuel : Nat} {v : Value} {x : DataW H × List MemPlace} (ht : Tryz.prog.underlying t = some (.slice e)) (h : DataW.trod enc Tryz.prog W base spare held fuel t [v] = some x) :
  v = .slice none 0 0 ∨ ∃ (a : Addr) (len cap n : Nat),v = .slice (some a) len cap∧len ≤ 9223372036854775807 ∧
   ∀ i,i < len→∃ cs y,W.cells? base (a.add (i * Tryz.prog.cellsOf e)) (Tryz.prog.cellsOf e) = some cs∧DataW.trod enc Tryz.prog W base spare held n e cs = some y:=by
 rcases DataW.trod_slice ht h with ⟨hcs,_⟩ | ⟨a,len,cap,elems,rest,n,hfu,hcs,rfl,hb,hl,hm,hlen,hel,_⟩
 ·exact Or.inl (by simpa using hcs)
 ·refine Or.inr ⟨a,len,cap,n,by simpa using hcs,by unfold maxLen at hm; omega,fun i hi => ?_⟩
  have key:=hel i hi
  rw [List.getElem?_eq_getElem (by omega)] at key
  obtain ⟨cs',h1,h2⟩:=Option.bind_eq_some_iff.1 key
  exact ⟨cs',_,h1,h2⟩
theorem nums_of_trod {fuel : Nat} {v : Value} {x : DataW H × List MemPlace} (h : DataW.trod enc Tryz.prog W base spare held fuel 30 [v] = some x) : ∃ n z,NumsAt W.heap.size W v n z:=by
 rcases sliceEach Tryz.underlying30 h with rfl | ⟨a,len,cap,n,rfl,hl,hi⟩
 ·exact ⟨0,fun _ => 0,none,0,rfl,by omega,Or.inl rfl⟩
 ·have each : ∀ i,i < len→∃ z : Int,W.cell? (a.add i) = some (.int .i64 z):=by
   intro i hlt
   obtain ⟨cs,y,h1,h2⟩:=hi i hlt
   rw [cInt1,Nat.mul_one] at h1
   obtain ⟨_,hlen,hcell⟩:=World.cells?_some h1
   obtain ⟨z,e,_,_⟩:=DataW.trod_int Tryz.underlying3 h2
   subst e
   have:=hcell 0 (by omega)
   rw [add_add,Nat.add_zero] at this
   exact ⟨z,by simpa using this⟩
  obtain ⟨z,hz⟩:=pick_lt each
  refine ⟨len,z,some a,cap,rfl,hl,?_⟩
  by_cases h0 : len = 0
  ·exact Or.inl h0
  ·right
   have hp:=plainAt (hz 0 (by omega))
   refine ⟨a.block,a.off,by rw [hp],?_,fun i hlt => ?_⟩
   ·have:=cell_lt (hz 0 (by omega))
    simpa [Addr.add] using this
   ·have:=hz i hlt
    rw [hp,add_plain] at this
    exact this
theorem code_of_trod {fuel : Nat} {v : Value} {x : DataW H × List MemPlace} (h : DataW.trod enc Tryz.prog W base spare held fuel 36 [v] = some x) : ∃ n ins,CodeAt W.heap.size W v n ins:=by
 rcases sliceEach Tryz.underlying36 h with rfl | ⟨a,len,cap,n,rfl,hl,hi⟩
 ·exact ⟨0,fun _ => ⟨0,0,0,0,0,fun _ => 0⟩,none,0,rfl,by omega,Or.inl rfl⟩
 ·have each : ∀ i,i < len→∃ q : In,∃ va,W.cell? (a.add (i * 5)) = some (.int .i64 q.op)∧W.cell? (a.add (i * 5 + 1)) = some (.int .i64 q.a)∧W.cell? (a.add (i * 5 + 2)) = some (.int .i64 q.b)∧W.cell? (a.add (i * 5 + 3)) = some (.int .i64 q.c)∧W.cell? (a.add (i * 5 + 4)) = some va∧NumsAt W.heap.size W va q.n q.z:=by
   intro i hlt
   obtain ⟨cs,y,h1,h2⟩:=hi i hlt
   rw [cIns5] at h1
   obtain ⟨_,hlen,hcell⟩:=World.cells?_some h1
   obtain ⟨xs,k,rfl,hxy,_,hxl,hf⟩:=DataW.trod_struct Tryz.underlying84 h2
   obtain ⟨y0,y1,y2,y3,y4,rfl⟩:=lenFive (l:=xs) hxl
   obtain ⟨v0,v1,v2,v3,v4,rfl⟩:=lenFive hlen
   have g0:=hf 0 _ rfl
   have g1:=hf 1 _ rfl
   have g2:=hf 2 _ rfl
   have g3:=hf 3 _ rfl
   have g4:=hf 4 _ rfl
   simp [cInt1,cLInt1] at g0 g1 g2 g3 g4
   have e0:=hcell 0 (by omega)
   have e1:=hcell 1 (by omega)
   have e2:=hcell 2 (by omega)
   have e3:=hcell 3 (by omega)
   have e4:=hcell 4 (by omega)
   obtain ⟨z0,q0,_,_⟩:=DataW.trod_int Tryz.underlying3 g0
   obtain ⟨z1,q1,_,_⟩:=DataW.trod_int Tryz.underlying3 g1
   obtain ⟨z2,q2,_,_⟩:=DataW.trod_int Tryz.underlying3 g2
   obtain ⟨z3,q3,_,_⟩:=DataW.trod_int Tryz.underlying3 g3
   simp at q0 q1 q2 q3
   subst q0 q1 q2 q3
   obtain ⟨m,z,hz⟩:=nums_of_trod g4
   rw [add_add] at e0 e1 e2 e3 e4
   exact ⟨⟨z0,z1,z2,z3,m,z⟩,v4,by simpa using e0,by simpa using e1,by simpa using e2,by simpa using e3,by simpa using e4,hz⟩
  haveI : Inhabited In:=⟨⟨0,0,0,0,0,fun _ => 0⟩⟩
  obtain ⟨q,hq⟩:=pick_lt each
  refine ⟨len,q,some a,cap,rfl,hl,?_⟩
  by_cases h0 : len = 0
  ·exact Or.inl h0
  ·right
   obtain ⟨_,c0,_⟩:=hq 0 (by omega)
   have hp:=plainAt (v:=.int .i64 (q 0).op) (by simpa using c0)
   refine ⟨a.block,a.off,by rw [hp],?_,fun i hlt => ?_⟩
   ·have:=cell_lt c0
    simpa [Addr.add] using this
   ·obtain ⟨va,c0,c1,c2,c3,c4,s⟩:=hq i hlt
    rw [hp,add_plain] at c0 c1 c2 c3 c4
    exact ⟨va,c0,c1,c2,c3,c4,s⟩
theorem procs_of_trod {fuel : Nat} {v : Value} {x : DataW H × List MemPlace} (h : DataW.trod enc Tryz.prog W base spare held fuel 22 [v] = some x) : ∃ n P,ProcsAt W.heap.size W v n P:=by
 rcases sliceEach Tryz.underlying22 h with rfl | ⟨a,len,cap,n,rfl,hl,hi⟩
 ·exact ⟨0,fun _ => ⟨0,0,0,fun _ => ⟨0,0,0,0,0,fun _ => 0⟩⟩,none,0,rfl,by omega,Or.inl rfl⟩
 ·have each : ∀ i,i < len→∃ q : Pc,∃ vc,W.cell? (a.add (i * 3)) = some (.int .i64 q.params)∧W.cell? (a.add (i * 3 + 1)) = some (.int .i64 q.regs)∧W.cell? (a.add (i * 3 + 2)) = some vc∧CodeAt W.heap.size W vc q.n q.ins:=by
   intro i hlt
   obtain ⟨cs,y,h1,h2⟩:=hi i hlt
   rw [cProc3] at h1
   obtain ⟨_,hlen,hcell⟩:=World.cells?_some h1
   obtain ⟨xs,k,rfl,hxy,_,hxl,hf⟩:=DataW.trod_struct Tryz.underlying38 h2
   obtain ⟨y0,y1,y2,rfl⟩:=lenThree (l:=xs) hxl
   obtain ⟨v0,v1,v2,rfl⟩:=lenThree hlen
   have g0:=hf 0 _ rfl
   have g1:=hf 1 _ rfl
   have g2:=hf 2 _ rfl
   simp [cInt1,cLIns1] at g0 g1 g2
   have e0:=hcell 0 (by omega)
   have e1:=hcell 1 (by omega)
   have e2:=hcell 2 (by omega)
   obtain ⟨z0,q0,_,_⟩:=DataW.trod_int Tryz.underlying3 g0
   obtain ⟨z1,q1,_,_⟩:=DataW.trod_int Tryz.underlying3 g1
   simp at q0 q1
   subst q0 q1
   obtain ⟨m,ins,hz⟩:=code_of_trod g2
   rw [add_add] at e0 e1 e2
   exact ⟨⟨z0,z1,m,ins⟩,v2,by simpa using e0,by simpa using e1,by simpa using e2,hz⟩
  haveI : Inhabited Pc:=⟨⟨0,0,0,fun _ => ⟨0,0,0,0,0,fun _ => 0⟩⟩⟩
  obtain ⟨q,hq⟩:=pick_lt each
  refine ⟨len,q,some a,cap,rfl,hl,?_⟩
  by_cases h0 : len = 0
  ·exact Or.inl h0
  ·right
   obtain ⟨_,c0,_⟩:=hq 0 (by omega)
   have hp:=plainAt (v:=.int .i64 (q 0).params) (by simpa using c0)
   refine ⟨a.block,a.off,by rw [hp],?_,fun i hlt => ?_⟩
   ·have:=cell_lt c0
    simpa [Addr.add] using this
   ·obtain ⟨vc,c0,c1,c2,s⟩:=hq i hlt
    rw [hp,add_plain] at c0 c1 c2
    exact ⟨vc,c0,c1,c2,s⟩
end
end Go.Proofs.YtfaokaohhchdhaaGreatDoor
namespace Go.Proofs.YtfaokaohhchdhaaGreatDoor
open Go.ChangeShapes Go.WideShapes Go.ChangeAt Go.RowKit Go.Deep Go.Joins
section
variable {H : Type} {enc : TypeId × Value→H} {W : World} {base : Nat} {spare : Nat→Bool} {held : Bool}
end
end Go.Proofs.YtfaokaohhchdhaaGreatDoor
namespace Go.Proofs.YtfaokaohhchdhaaGreatDoor.soloBegins
open Go.ChangeShapes Go.WideShapes Go.ChangeAt Go.RowKit Go.Joins Go.ChangeMaps Go.Proofs.YtfaokaohhchdhaaGreatDoor.doorV
theorem own : ownKnob Tryz.prog.godebug = none:=by kernel_rfl
theorem laidOut : laidOutB Tryz.prog = true:=by kernel_rfl
set_option maxRecDepth 100000 in
theorem lifted (os : Os) (started : os.Started) (H : Type) (enc : TypeId × Value→H) :
  ReturnsInHanded {} Tryz.checked os 7 .any (fun w args => (Rows.soloBeginsSpec.pre enc Tryz.prog Tryz.f7 [] false w args∧laidMetH Tryz.prog laidL w)∧sizedMet enc Tryz.prog Tryz.f7 (OpenSpec.ofChange Rows.soloBeginsSpec) false w args)
   (Rows.soloBeginsSpec.post enc Tryz.prog Tryz.f7 false true false false):=by
 refine returnsInHanded_of_calls own started (by kernel_rfl)
  (ChangeSpec.witness_shaped (enc:=enc) (C:=Tryz.checked) (os:=os) (fn:=Tryz.f7) (X:=fun w _ => laidMetH Tryz.prog laidL w) false (startW os) #[.slice none 0 0,.int .i64 0,.int .i64 0,.int .i64 0,.int .i64 0] 8 rfl (World.shaped_of_RefB (by kernel_rfl) (by kernel_rfl)) (by kernel_rfl) (by kernel_rfl) (by kernel_rfl) (door_met os _)) ?_
 intro w tape i _ hsh _ hok hpre _
 obtain ⟨_,_,_,fn',hfn',_,_,_,_,hval0⟩:=hok
 have efn : fn' = Tryz.f7:=Option.some.inj (hfn'.symm.trans Tryz.func7)
 subst efn
 obtain ⟨⟨⟨ds,gs,before,hw,_⟩,hx⟩,_⟩:=hpre
 have hW:=DataW.Whole.of_heap (w':=w.forCall tape i) (by rfl) hw
 have hL0 : laidMetH Tryz.prog laidL (w.forCall tape i):=hx.of_heap (by rfl)
 have key : Calls Tryz.prog 7 i.args (w.forCall tape i) fun e W' => ∃ v,e = .returned v∧Rows.soloBeginsSpec.post enc Tryz.prog Tryz.f7 false true false false (w.forCall tape i) i.args v W':=by
  generalize hargs0 : i.args = args at *
  generalize w.forCall tape i = W at *
  have hL : laidMet Tryz.prog laidL W:=by
   rw [MakeChecks.laidMetH_plain _ _ _ (by kernel_rfl)] at hL0
   exact hL0
  have he:=env_of_laid hL hsh
  have hsp:=spc_of_laid hL he.low
  have hval : ∀ (j : Nat) t v,Tryz.f7.params[j]? = some t→args[j]? = some v→Value.okWide Tryz.prog W .any w.heap.size t v:=hval0
  have hW':=hW
  obtain ⟨p,q,hA0,hV,rfl,hfz,hnd⟩:=hW
  have hA : DataW.TrodAll enc Tryz.prog W 0 (fun _ => true) true Tryz.f7.params.toList args.toList ds p:=hA0
  rw [Tryz.params7] at hA hval
  obtain ⟨v0,vs0,d0,ds0,p0,q0,hargs,rfl,rfl,h0,r0⟩:=trodAll_cons hA
  obtain ⟨v1,vs1,d1,ds1,p1,q1,rfl,rfl,rfl,h1,r1⟩:=trodAll_cons r0
  obtain ⟨v2,vs2,d2,ds2,p2,q2,rfl,rfl,rfl,h2,r2⟩:=trodAll_cons r1
  obtain ⟨v3,vs3,d3,ds3,p3,q3,rfl,rfl,rfl,h3,r3⟩:=trodAll_cons r2
  obtain ⟨v4,vs4,d4,ds4,p4,q4,rfl,rfl,rfl,h4,r4⟩:=trodAll_cons r3
  obtain ⟨rfl,rfl,rfl⟩:=trodAll_nil r4
  obtain rfl : args = #[v0,v1,v2,v3,v4]:=by cases args; simp_all
  obtain ⟨rfl,rfl⟩:=trodVars_none hV
  have lt0 : ∀ x ∈ p0,x.block < W.heap.size:=by obtain ⟨m,hm⟩:=h0; exact DataW.trod_lt m _ _ _ hm
  have lt1 : ∀ x ∈ p1,x.block < W.heap.size:=by obtain ⟨m,hm⟩:=h1; exact DataW.trod_lt m _ _ _ hm
  have lt2 : ∀ x ∈ p2,x.block < W.heap.size:=by obtain ⟨m,hm⟩:=h2; exact DataW.trod_lt m _ _ _ hm
  have lt3 : ∀ x ∈ p3,x.block < W.heap.size:=by obtain ⟨m,hm⟩:=h3; exact DataW.trod_lt m _ _ _ hm
  have lt4 : ∀ x ∈ p4,x.block < W.heap.size:=by obtain ⟨m,hm⟩:=h4; exact DataW.trod_lt m _ _ _ hm
  obtain ⟨np0,P0,f0⟩ : ∃ (n : Nat) (P : Nat→Pc),ProcsAt W.heap.size W v0 n P:=by
   obtain ⟨a,len,cap,rfl⟩:=okWide_slice Tryz.underlying22 (hval 0 22 v0 rfl rfl)
   obtain ⟨fuel,hf⟩:=h0
   exact procs_of_trod (by simpa [Value.cells] using hf)
  obtain ⟨z1,rfl,_⟩ : ∃ z,v1 = .int .i64 z∧(Lit.int .i64 z).wf = true:=by
   obtain ⟨x,rfl,_,_,y⟩:=open_int Tryz.underlying3 (hval 1 3 v1 rfl rfl) h1
   exact ⟨x,rfl,y⟩
  obtain ⟨z2,rfl,_⟩ : ∃ z,v2 = .int .i64 z∧(Lit.int .i64 z).wf = true:=by
   obtain ⟨x,rfl,_,_,y⟩:=open_int Tryz.underlying3 (hval 2 3 v2 rfl rfl) h2
   exact ⟨x,rfl,y⟩
  obtain ⟨z3,rfl,_⟩ : ∃ z,v3 = .int .i64 z∧(Lit.int .i64 z).wf = true:=by
   obtain ⟨x,rfl,_,_,y⟩:=open_int Tryz.underlying3 (hval 3 3 v3 rfl rfl) h3
   exact ⟨x,rfl,y⟩
  obtain ⟨z4,rfl,_⟩ : ∃ z,v4 = .int .i64 z∧(Lit.int .i64 z).wf = true:=by
   obtain ⟨x,rfl,_,_,y⟩:=open_int Tryz.underlying3 (hval 4 3 v4 rfl rfl) h4
   exact ⟨x,rfl,y⟩
  clear hA0 hval0 hval
  have HR : TrueC 29 W:=fun wk hk => alone W.heap.size wk hk.size (he.below hk) (hsp.below hk)
  refine (Go.Proofs.YtfaokaohhchdhaaGreatDoor.soloBegins W.heap.size v0 z1 z2 z3 z4 W (Nat.le_refl _) f0 HR).mono fun e W' ⟨he,bel0⟩ => ?_
  have bel : Below W.heap.size W W':=bel0
  subst he
  exact ⟨_,rfl,_,_,_,[],_,[],hW',trodAll_mk1 (shut_bool Tryz.underlying4 _),
   (trodAll_cons_mk (Below.trod laidOut (by kernel_rfl) (of_decide_eq_true (by kernel_rfl)) h0 bel lt0)
    (trodAll_cons_mk (Below.trod laidOut (by kernel_rfl) (of_decide_eq_true (by kernel_rfl)) h1 bel lt1)
    (trodAll_cons_mk (Below.trod laidOut (by kernel_rfl) (of_decide_eq_true (by kernel_rfl)) h2 bel lt2)
    (trodAll_cons_mk (Below.trod laidOut (by kernel_rfl) (of_decide_eq_true (by kernel_rfl)) h3 bel lt3)
    (trodAll_cons_mk (Below.trod laidOut (by kernel_rfl) (of_decide_eq_true (by kernel_rfl)) h4 bel lt4)
    trodAll_mk0))))),rfl,bel.frame _,fun h => by cases h⟩
 refine key.mono fun e W' ⟨v,he,hp⟩ => ?_
 subst he
 exact ChangeSpec.post_blind hp
set_option maxHeartbeats 2000000 in
theorem over : Rows.soloBeginsRow.holds Tryz.pinned (OpenSpec.ofChange Rows.soloBeginsSpec) :=
 OpenClaim.holds_of_wide 7 Tryz.f7 rfl rfl rfl rfl rfl rfl rfl ⟨rfl,rfl,rfl,rfl,rfl⟩ rfl rfl rfl rfl rfl (by as_aux_lemma => kernel_rfl) Tryz.func7 (by as_aux_lemma => kernel_rfl)
  (of_decide_eq_true (by as_aux_lemma => kernel_rfl)) (by unfold Func.isWrapper; first | (rw [if_pos (by decide +kernel)]; kernel_rfl) | (rw [if_neg (by decide +kernel)]; exact ⟨rfl,rfl⟩))
  (fun os started H enc _ => lifted os started H enc)
end Go.Proofs.YtfaokaohhchdhaaGreatDoor.soloBegins
namespace Go.Proofs.YtfaokaohhchdhaaGreatDoor
open Go
theorem soloBegins_proved : Rows.SoloBeginsCardSaid :=
 Claim7.holds_tied_plain_at .later [] [.data,.data,.data,.data,.sentinel,.sentinel,.listed,.data,.pinned] true (true,"84d25689f33b212f52b3031d0bbd290d5144cff6e83dda15c9cf78d893216ad7") true
  soloBegins.over (fun _ h => by cases h) (by kernel_rfl) (fun _ h => by cases h) soloBegins_row_tie rfl ⟨rfl,rfl⟩ (by kernel_rfl) rfl
  (fun f fn hf hfn => by
   obtain rfl : f = 7:=Option.some.inj ((show Tryz.prog.funcNamed "wanderer/wandererlaw.SoloBegins" = some 7 by kernel_rfl).symm.trans hf) |>.symm
   obtain rfl : fn = Tryz.f7:=(Option.some.inj (Tryz.func7.symm.trans hfn)).symm
   exact ⟨by kernel_rfl,fun j t ht => by
    rw [Tryz.params7] at ht
    have h3 : t = 22 ∨ t = 3:=by
     rcases j with _ | _ | _ | _ | _ | j
     ·left; simpa using ht.symm
     ·right; simpa using ht.symm
     ·right; simpa using ht.symm
     ·right; simpa using ht.symm
     ·right; simpa using ht.symm
     ·simp at ht
    rcases h3 with rfl | rfl
    ·exact (show Tryz.prog.wantsStandIn 22 = false by kernel_rfl)
    ·exact (show Tryz.prog.wantsStandIn 3 = false by kernel_rfl)⟩)
  (by kernel_rfl)
#print axioms soloBegins_proved
end Go.Proofs.YtfaokaohhchdhaaGreatDoor
