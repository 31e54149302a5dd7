/- What the listed variables read as gives the program's tables. -/
import Derived.Test.YtipnjoahobplhaaGreatDoorQRead
import Derived.Test.YtipnjoahobplhaaGreatDoorRows
import Derived.LaidMore
import Derived.Lib.LaidTab
import Derived.Stop.LaidErr
import Derived.Test.YtipnjoahobplhaaGreatDoorCards
import Derived.Test.YtipnjoahobplhaaGreatDoorTie
import Derived.Lib.SmallJoins
import Derived.ChangeOld
import Derived.ChangeMaps5
import Derived.Stop.Joined
import Derived.SevenTiedAt
import Derived.Test.YtipnjoahobplhaaGreatDoorPart5
import Derived.Deep.SlicePairs
import Derived.Test.YtipnjoahobplhaaGreatDoorVmMem
import Derived.Test.YtipnjoahobplhaaGreatDoorPart30
import Derived.Test.YtipnjoahobplhaaGreatDoorPart51
namespace Go.Proofs.YtipnjoahobplhaaGreatDoor
open Go.RowKit Go.ChangeShapes Go.WideShapes Go.ChangeAt
def laidL : List (String × DataW Unit):=Rows.vmSweptRow.laid
theorem laid_at {P : Program} {W : World} : ∀ {l : List (String × DataW Unit)},laidMet P l W→∀ {n : String} {d : DataW Unit},(n,d) ∈ l→∃ g t cs fuel p,P.globalNamed n = some g∧(P.globals[g]?).map (·.type) = some t∧W.var? P n = some cs∧DataW.trod (fun _ => ()) P W 0 (fun _ => true) false fuel t cs.toList = some (d,p)
 | [],_,_,_,h => by cases h
 | x :: l,hL,n,d,h => by
  rcases List.mem_cons.1 h with rfl | h
  ·obtain ⟨ps,⟨g,t,cs,fuel,p,q,h1,h2,h3,h4,_⟩,_⟩:=hL
   exact ⟨g,t,cs,fuel,p,h1,h2,h3,h4⟩
  ·exact laid_at hL.tail h
theorem some_iface {W : World} {name nm : String} {g : Nat} {t : TypeId} {ms : Array (String × TypeId)} {d : DataW Unit} {l : List (String × DataW Unit)} (hL : laidMet Tryz.prog l W) (hm : (name,.iface nm d) ∈ l)
  (hg : Tryz.prog.globalNamed name = some g) (htt : (Tryz.prog.globals[g]?).map (·.type) = some t) (ht : Tryz.prog.underlying t = some (.interface ms)) : ∃ tp p,W.var? Tryz.prog name = some #[.iface tp p]:=by
 obtain ⟨g',t',cs,fuel,p,h1,h2,h3,h4⟩:=laid_at hL hm
 obtain rfl:=Option.some.inj (hg.symm.trans h1)
 obtain rfl:=Option.some.inj (htt.symm.trans h2)
 obtain ⟨_,u,v,e,_⟩:=iface_of_trod ht h4
 exact ⟨u,v,by rw [h3,Array.eq_one_of_toList e]⟩
theorem tSyn : (Tryz.prog.globals[2]?).map (·.type) = some 161:=by kernel_rfl
theorem tRng : (Tryz.prog.globals[3]?).map (·.type) = some 161:=by kernel_rfl
theorem tPow : (Tryz.prog.globals[7]?).map (·.type) = some 284:=by kernel_rfl
theorem cA20 : Tryz.prog.cellsOf 284 = 20:=by kernel_rfl
theorem cU64 : Tryz.prog.cellsOf 237 = 1:=by kernel_rfl
theorem pow_of_laid {W : World} (hL : laidMet Tryz.prog laidL W) : Lib.TabIs Tryz.prog W "internal/strconv.uint64pow10" .u64 Lib.pow10Tab:=by
 have hm : ("internal/strconv.uint64pow10",(Rows.laid_internal_strconv_uint64pow10 : DataW Unit)) ∈ laidL:=by unfold laidL Rows.vmSweptRow; simp
 obtain ⟨g',t',cs,fuel,p,h1,h2,h3,h4⟩:=laid_at hL hm
 obtain rfl:=Option.some.inj (gPow.symm.trans h1)
 obtain rfl:=Option.some.inj (tPow.symm.trans h2)
 have e : (Rows.laid_internal_strconv_uint64pow10 : DataW Unit) = Lib.tabData .u64 Lib.pow10Tab:=by unfold Rows.laid_internal_strconv_uint64pow10; rfl
 rw [e] at h4
 unfold Lib.TabIs
 rw [h3,← Lib.cells_of_tab Tryz.underlying284 Tryz.underlying237 cU64 cA20 h4]
theorem env_of_laid {W : World} (hL : laidMet Tryz.prog laidL W) (hsh : W.ShapedOpen Tryz.prog) : Env W.heap.size W:=by
 have m4 : ("strconv.ErrRange",(Rows.laid_strconv_ErrRange : DataW Unit)) ∈ laidL:=by unfold laidL Rows.vmSweptRow; simp
 have m5 : ("strconv.ErrSyntax",(Rows.laid_strconv_ErrSyntax : DataW Unit)) ∈ laidL:=by unfold laidL Rows.vmSweptRow; simp
 obtain ⟨mx,hmx⟩:=Tryz.laysM146.s1_3 W hsh
 refine ⟨?_,pow_of_laid hL,some_iface hL m5 gSyn tSyn Tryz.underlying161,some_iface hL m4 gRng tRng Tryz.underlying161,⟨mx,hmx⟩⟩
 obtain ⟨o,_,h,_⟩:=hsh.2 11 (of_decide_eq_true (by kernel_rfl)) (of_decide_eq_true (by kernel_rfl))
 have:=(Array.getElem?_eq_some_iff.1 h).1
 omega
theorem tSpc : (Tryz.prog.globals[0]?).map (·.type) = some 191:=by kernel_rfl
theorem cA256 : Tryz.prog.cellsOf 191 = 256:=by kernel_rfl
theorem cU8 : Tryz.prog.cellsOf 5 = 1:=by kernel_rfl
set_option maxRecDepth 20000 in
theorem spc_of_laid {W : World} (hL : laidMet Tryz.prog laidL W) (he : 11 ≤ W.heap.size) : Spc W.heap.size W:=by
 refine ⟨by omega,?_⟩
 have hm : ("strings.asciiSpace",(Rows.laid_strings_asciiSpace : DataW Unit)) ∈ laidL:=by unfold laidL Rows.vmSweptRow; simp
 obtain ⟨g',t',cs,fuel,p,h1,h2,h3,h4⟩:=laid_at hL hm
 obtain rfl:=Option.some.inj (gSpace.symm.trans h1)
 obtain rfl:=Option.some.inj (tSpc.symm.trans h2)
 have e : (Rows.laid_strings_asciiSpace : DataW Unit) = Lib.tabData .u8 Lib.asciiSpaceTab:=by unfold Rows.laid_strings_asciiSpace; rfl
 rw [e] at h4
 unfold Lib.TabIs
 rw [h3,← Lib.cells_of_tab Tryz.underlying191 Tryz.underlying5 cU8 cA256 h4]
end Go.Proofs.YtipnjoahobplhaaGreatDoor
namespace Go.Proofs.YtipnjoahobplhaaGreatDoor.doorV
open Go.ChangeShapes Go.WideShapes Go.ChangeAt Go.RowKit Go.Joins Go.ChangeMaps
def placeKey : MemPlace→Nat
 | .cell b off => (b * 1024 + off) * 2
 | .map b => b * 2 + 1
def fresh : List Nat→Nat→Bool
 | [],_ => true
 | k :: r,m => !(m.testBit k) && fresh r (m ||| 2 ^ k)
theorem fresh_ok : ∀ {l : List Nat} {m : Nat},fresh l m = true→l.Nodup∧∀ k ∈ l,m.testBit k = false
 | [],_,_ => ⟨List.nodup_nil,fun _ h => by cases h⟩
 | k :: r,m,h => by
  unfold fresh at h
  rw [Bool.and_eq_true] at h
  obtain ⟨h1,h2⟩:=h
  obtain ⟨n1,n2⟩:=fresh_ok h2
  have hk : m.testBit k = false:=by simpa using h1
  refine ⟨List.nodup_cons.2 ⟨fun hm => ?_,n1⟩,fun x hx => ?_⟩
  ·have:=n2 k hm
   rw [Nat.testBit_or,Nat.testBit_two_pow_self] at this
   simp at this
  ·rcases List.mem_cons.1 hx with rfl | hx
   ·exact hk
   ·have:=n2 x hx
    rw [Nat.testBit_or] at this
    exact (Bool.or_eq_false_iff.1 this).1
theorem nodup_of_fresh {ps : List MemPlace} (h : fresh (ps.map placeKey) 0 = true) : ps.Nodup:=List.Pairwise.of_map placeKey (fun _ _ hab e => hab (congrArg placeKey e)) (fresh_ok h).1
theorem laidMet_run {P : Program} {w : World} {l : List (String × DataW Unit)} (fuel : Nat) (h : (DataW.laidRun P w fuel (l.map (·.1))).map (·.1) = some l)
  (hr : (DataW.laidRun P w fuel (l.map (·.1))).map (fun x => fresh (x.2.map placeKey) 0 && laidRowsB P w x.2) = some true) : laidMet P l w:=by
 cases hx : DataW.laidRun P w fuel (l.map (·.1)) with
 | none => simp [hx] at h
 | some x =>
  obtain ⟨l',ps⟩:=x
  simp only [hx,Option.map_some,Option.some.injEq] at h hr
  subst h
  simp only [Bool.and_eq_true] at hr
  exact laidMet_of_run fuel hx (decide_eq_true (nodup_of_fresh hr.1)) hr.2
def cellsOfData : DataW Unit→Array Value
 | .agg l => (l.map fun x => match x with
  | .lit (.int k z) => Value.int k z
  | _ => .bool false).toArray
 | _ => #[]
noncomputable def startW (os : Os) : World :=
 { World.doorLaid Tryz.prog 400 os with heap:=(World.doorLaid Tryz.prog 400 os).heap.modify 5 fun o => match o with
   | .cells _ t frozen => .cells (cellsOfData Rows.laid_unicode_utf8_first) t frozen
   | o => o }
theorem door_one (os : Os) (args : Array Value) : (DataW.laidRun Tryz.prog ((startW os).forCall (fun _ _ => 0) ⟨#[],args,[]⟩).memory 8 ((laidL.filter fun x => x.2.handleName?.isNone).map (·.1))).map (·.1) = some (laidL.filter fun x => x.2.handleName?.isNone):=by kernel_rfl
theorem door_two (os : Os) (args : Array Value) : (DataW.laidRun Tryz.prog ((startW os).forCall (fun _ _ => 0) ⟨#[],args,[]⟩).memory 8 ((laidL.filter fun x => x.2.handleName?.isNone).map (·.1))).map (fun x => fresh (x.2.map placeKey) 0 && laidRowsB Tryz.prog ((startW os).forCall (fun _ _ => 0) ⟨#[],args,[]⟩).memory x.2) = some true:=by kernel_rfl
theorem door_met (os : Os) (args : Array Value) : laidMetH Tryz.prog laidL ((startW os).forCall (fun _ _ => 0) ⟨#[],args,[]⟩).memory :=
 laidMetH_of_parts3 (fuel:=8) (laidMet_run 8 (door_one os args) (door_two os args)) (by kernel_rfl) (by kernel_rfl)
end Go.Proofs.YtipnjoahobplhaaGreatDoor.doorV
namespace Go.Proofs.YtipnjoahobplhaaGreatDoor
open Go.ChangeShapes Go.WideShapes Go.ChangeAt Go.RowKit Go.Deep
theorem cIns5 : Tryz.prog.cellsOf 81 = 5:=by kernel_rfl
theorem cProc3 : Tryz.prog.cellsOf 38 = 3:=by kernel_rfl
theorem cLInt1 : Tryz.prog.cellsOf 30 = 1:=by kernel_rfl
theorem cLIns1 : Tryz.prog.cellsOf 36 = 1:=by kernel_rfl
theorem cInt1 : Tryz.prog.cellsOf 3 = 1:=by kernel_rfl
theorem plainAt {w : World} {a : Addr} {v : Value} (h : w.cell? (a.add 0) = some v) : a = ⟨a.block,a.off,none⟩:=by
 have hs:=World.cell?_spot h
 obtain ⟨b,o,s⟩:=a
 have hs' : s = none:=by simpa [Addr.add] using hs
 rw [hs']
theorem lenFive {α : Type} {l : List α} (h : l.length = 5) : ∃ a b c d e,l = [a,b,c,d,e]:=by
 rcases l with _ | ⟨a,_ | ⟨b,_ | ⟨c,_ | ⟨d,_ | ⟨e,_ | ⟨f,l⟩⟩⟩⟩⟩⟩
 ·cases h
 ·cases h
 ·cases h
 ·cases h
 ·cases h
 ·exact ⟨a,b,c,d,e,rfl⟩
 ·simp at h
theorem lenThree {α : Type} {l : List α} (h : l.length = 3) : ∃ a b c,l = [a,b,c]:=by
 rcases l with _ | ⟨a,_ | ⟨b,_ | ⟨c,_ | ⟨d,l⟩⟩⟩⟩
 ·cases h
 ·cases h
 ·cases h
 ·exact ⟨a,b,c,rfl⟩
 ·simp at h
theorem pick_lt {α : Type} [Inhabited α] {n : Nat} {p : Nat→α→Prop} (h : ∀ i,i < n→∃ x,p i x) : ∃ f : Nat→α,∀ i,i < n→p i (f i) :=
 ⟨fun i => if hi : i < n then Classical.choose (h i hi) else default,fun i hi => by
  show p i (if hi : i < n then Classical.choose (h i hi) else default)
  rw [dif_pos hi]; exact Classical.choose_spec (h i hi)⟩
section
variable {H : Type} {enc : TypeId × Value→H} {W : World} {base : Nat} {spare : Nat→Bool} {held : Bool}
theorem sliceEach {t e : TypeId} {fuel : Nat} {v : Value} {x : DataW H × List MemPlace} (ht : Tryz.prog.underlying t = some (.slice e)) (h : DataW.trod enc Tryz.prog W base spare held fuel t [v] = some x) :
  v = .slice none 0 0 ∨ ∃ (a : Addr) (len cap n : Nat),v = .slice (some a) len cap∧len ≤ 9223372036854775807 ∧
   ∀ i,i < len→∃ cs y,W.cells? base (a.add (i * Tryz.prog.cellsOf e)) (Tryz.prog.cellsOf e) = some cs∧DataW.trod enc Tryz.prog W base spare held n e cs = some y:=by
 rcases DataW.trod_slice ht h with ⟨hcs,_⟩ | ⟨a,len,cap,elems,rest,n,hfu,hcs,rfl,hb,hl,hm,hlen,hel,_⟩
 ·exact Or.inl (by simpa using hcs)
 ·refine Or.inr ⟨a,len,cap,n,by simpa using hcs,by unfold maxLen at hm; omega,fun i hi => ?_⟩
  have key:=hel i hi
  rw [List.getElem?_eq_getElem (by omega)] at key
  obtain ⟨cs',h1,h2⟩:=Option.bind_eq_some_iff.1 key
  exact ⟨cs',_,h1,h2⟩
theorem nums_of_trod {fuel : Nat} {v : Value} {x : DataW H × List MemPlace} (h : DataW.trod enc Tryz.prog W base spare held fuel 30 [v] = some x) : ∃ n z,NumsAt W.heap.size W v n z:=by
 rcases sliceEach Tryz.underlying30 h with rfl | ⟨a,len,cap,n,rfl,hl,hi⟩
 ·exact ⟨0,fun _ => 0,none,0,rfl,by omega,Or.inl rfl⟩
 ·have each : ∀ i,i < len→∃ z : Int,W.cell? (a.add i) = some (.int .i64 z):=by
   intro i hlt
   obtain ⟨cs,y,h1,h2⟩:=hi i hlt
   rw [cInt1,Nat.mul_one] at h1
   obtain ⟨_,hlen,hcell⟩:=World.cells?_some h1
   obtain ⟨z,e,_,_⟩:=DataW.trod_int Tryz.underlying3 h2
   subst e
   have:=hcell 0 (by omega)
   rw [add_add,Nat.add_zero] at this
   exact ⟨z,by simpa using this⟩
  obtain ⟨z,hz⟩:=pick_lt each
  refine ⟨len,z,some a,cap,rfl,hl,?_⟩
  by_cases h0 : len = 0
  ·exact Or.inl h0
  ·right
   have hp:=plainAt (hz 0 (by omega))
   refine ⟨a.block,a.off,by rw [hp],?_,fun i hlt => ?_⟩
   ·have:=cell_lt (hz 0 (by omega))
    simpa [Addr.add] using this
   ·have:=hz i hlt
    rw [hp,add_plain] at this
    exact this
theorem code_of_trod {fuel : Nat} {v : Value} {x : DataW H × List MemPlace} (h : DataW.trod enc Tryz.prog W base spare held fuel 36 [v] = some x) : ∃ n ins,CodeAt W.heap.size W v n ins:=by
 rcases sliceEach Tryz.underlying36 h with rfl | ⟨a,len,cap,n,rfl,hl,hi⟩
 ·exact ⟨0,fun _ => ⟨0,0,0,0,0,fun _ => 0⟩,none,0,rfl,by omega,Or.inl rfl⟩
 ·have each : ∀ i,i < len→∃ q : In,∃ va,W.cell? (a.add (i * 5)) = some (.int .i64 q.op)∧W.cell? (a.add (i * 5 + 1)) = some (.int .i64 q.a)∧W.cell? (a.add (i * 5 + 2)) = some (.int .i64 q.b)∧W.cell? (a.add (i * 5 + 3)) = some (.int .i64 q.c)∧W.cell? (a.add (i * 5 + 4)) = some va∧NumsAt W.heap.size W va q.n q.z:=by
   intro i hlt
   obtain ⟨cs,y,h1,h2⟩:=hi i hlt
   rw [cIns5] at h1
   obtain ⟨_,hlen,hcell⟩:=World.cells?_some h1
   obtain ⟨xs,k,rfl,hxy,_,hxl,hf⟩:=DataW.trod_struct Tryz.underlying81 h2
   obtain ⟨y0,y1,y2,y3,y4,rfl⟩:=lenFive (l:=xs) hxl
   obtain ⟨v0,v1,v2,v3,v4,rfl⟩:=lenFive hlen
   have g0:=hf 0 _ rfl
   have g1:=hf 1 _ rfl
   have g2:=hf 2 _ rfl
   have g3:=hf 3 _ rfl
   have g4:=hf 4 _ rfl
   simp [cInt1,cLInt1] at g0 g1 g2 g3 g4
   have e0:=hcell 0 (by omega)
   have e1:=hcell 1 (by omega)
   have e2:=hcell 2 (by omega)
   have e3:=hcell 3 (by omega)
   have e4:=hcell 4 (by omega)
   obtain ⟨z0,q0,_,_⟩:=DataW.trod_int Tryz.underlying3 g0
   obtain ⟨z1,q1,_,_⟩:=DataW.trod_int Tryz.underlying3 g1
   obtain ⟨z2,q2,_,_⟩:=DataW.trod_int Tryz.underlying3 g2
   obtain ⟨z3,q3,_,_⟩:=DataW.trod_int Tryz.underlying3 g3
   simp at q0 q1 q2 q3
   subst q0 q1 q2 q3
   obtain ⟨m,z,hz⟩:=nums_of_trod g4
   rw [add_add] at e0 e1 e2 e3 e4
   exact ⟨⟨z0,z1,z2,z3,m,z⟩,v4,by simpa using e0,by simpa using e1,by simpa using e2,by simpa using e3,by simpa using e4,hz⟩
  haveI : Inhabited In:=⟨⟨0,0,0,0,0,fun _ => 0⟩⟩
  obtain ⟨q,hq⟩:=pick_lt each
  refine ⟨len,q,some a,cap,rfl,hl,?_⟩
  by_cases h0 : len = 0
  ·exact Or.inl h0
  ·right
   obtain ⟨_,c0,_⟩:=hq 0 (by omega)
   have hp:=plainAt (v:=.int .i64 (q 0).op) (by simpa using c0)
   refine ⟨a.block,a.off,by rw [hp],?_,fun i hlt => ?_⟩
   ·have:=cell_lt c0
    simpa [Addr.add] using this
   ·obtain ⟨va,c0,c1,c2,c3,c4,s⟩:=hq i hlt
    rw [hp,add_plain] at c0 c1 c2 c3 c4
    exact ⟨va,c0,c1,c2,c3,c4,s⟩
theorem procs_of_trod {fuel : Nat} {v : Value} {x : DataW H × List MemPlace} (h : DataW.trod enc Tryz.prog W base spare held fuel 22 [v] = some x) : ∃ n P,ProcsAt W.heap.size W v n P:=by
 rcases sliceEach Tryz.underlying22 h with rfl | ⟨a,len,cap,n,rfl,hl,hi⟩
 ·exact ⟨0,fun _ => ⟨0,0,0,fun _ => ⟨0,0,0,0,0,fun _ => 0⟩⟩,none,0,rfl,by omega,Or.inl rfl⟩
 ·have each : ∀ i,i < len→∃ q : Pc,∃ vc,W.cell? (a.add (i * 3)) = some (.int .i64 q.params)∧W.cell? (a.add (i * 3 + 1)) = some (.int .i64 q.regs)∧W.cell? (a.add (i * 3 + 2)) = some vc∧CodeAt W.heap.size W vc q.n q.ins:=by
   intro i hlt
   obtain ⟨cs,y,h1,h2⟩:=hi i hlt
   rw [cProc3] at h1
   obtain ⟨_,hlen,hcell⟩:=World.cells?_some h1
   obtain ⟨xs,k,rfl,hxy,_,hxl,hf⟩:=DataW.trod_struct Tryz.underlying38 h2
   obtain ⟨y0,y1,y2,rfl⟩:=lenThree (l:=xs) hxl
   obtain ⟨v0,v1,v2,rfl⟩:=lenThree hlen
   have g0:=hf 0 _ rfl
   have g1:=hf 1 _ rfl
   have g2:=hf 2 _ rfl
   simp [cInt1,cLIns1] at g0 g1 g2
   have e0:=hcell 0 (by omega)
   have e1:=hcell 1 (by omega)
   have e2:=hcell 2 (by omega)
   obtain ⟨z0,q0,_,_⟩:=DataW.trod_int Tryz.underlying3 g0
   obtain ⟨z1,q1,_,_⟩:=DataW.trod_int Tryz.underlying3 g1
   simp at q0 q1
   subst q0 q1
   obtain ⟨m,ins,hz⟩:=code_of_trod g2
   rw [add_add] at e0 e1 e2
   exact ⟨⟨z0,z1,m,ins⟩,v2,by simpa using e0,by simpa using e1,by simpa using e2,hz⟩
  haveI : Inhabited Pc:=⟨⟨0,0,0,fun _ => ⟨0,0,0,0,0,fun _ => 0⟩⟩⟩
  obtain ⟨q,hq⟩:=pick_lt each
  refine ⟨len,q,some a,cap,rfl,hl,?_⟩
  by_cases h0 : len = 0
  ·exact Or.inl h0
  ·right
   obtain ⟨_,c0,_⟩:=hq 0 (by omega)
   have hp:=plainAt (v:=.int .i64 (q 0).params) (by simpa using c0)
   refine ⟨a.block,a.off,by rw [hp],?_,fun i hlt => ?_⟩
   ·have:=cell_lt c0
    simpa [Addr.add] using this
   ·obtain ⟨vc,c0,c1,c2,s⟩:=hq i hlt
    rw [hp,add_plain] at c0 c1 c2
    exact ⟨vc,c0,c1,c2,s⟩
end
end Go.Proofs.YtipnjoahobplhaaGreatDoor
namespace Go.Proofs.YtipnjoahobplhaaGreatDoor
open Go.ChangeShapes Go.WideShapes Go.ChangeAt Go.RowKit Go.Deep Go.Joins
theorem cVal2 : Tryz.prog.cellsOf 61 = 2:=by kernel_rfl
theorem cLVal1 : Tryz.prog.cellsOf 35 = 1:=by kernel_rfl
theorem cFrame4 : Tryz.prog.cellsOf 40 = 4:=by kernel_rfl
theorem cState4 : Tryz.prog.cellsOf 26 = 4:=by kernel_rfl
theorem lenFour {α : Type} {l : List α} (h : l.length = 4) : ∃ a b c d,l = [a,b,c,d]:=by
 rcases l with _ | ⟨a,_ | ⟨b,_ | ⟨c,_ | ⟨d,_ | ⟨e,l⟩⟩⟩⟩⟩
 ·cases h
 ·cases h
 ·cases h
 ·cases h
 ·exact ⟨a,b,c,d,rfl⟩
 ·simp at h
theorem pairs_list (n : Nat) (k z : Nat→Int) : ∃ L : List (Int × Int),L.length = n∧∀ i,i < n→fstAt L i = k i∧sndAt L i = z i:=by
 refine ⟨(List.range n).map fun i => (k i,z i),by simp,fun i hi => ?_⟩
 unfold fstAt sndAt
 simp [List.getD,hi]
theorem ValsAt.row {w : World} {v : Value} {n : Nat} {k z : Nat→Int} (h : ValsAt w v n k z) : ∃ L,RowAt w v L:=by
 obtain ⟨L,h1,h2⟩:=pairs_list n k z
 refine ⟨L,?_⟩
 subst h1
 obtain ⟨a,cap,rfl,hn,h0 | ⟨b,o,rfl,hb,hc⟩⟩:=h
 ·exact ⟨a,cap,rfl,hn,Or.inl h0⟩
 ·refine ⟨_,cap,rfl,hn,Or.inr ⟨b,o,rfl,hb,fun i hi => ?_⟩⟩
  rw [(h2 i hi).1,(h2 i hi).2]
  exact hc i hi
section
variable {H : Type} {enc : TypeId × Value→H} {W : World} {base : Nat} {spare : Nat→Bool} {held : Bool}
theorem row_of_trod {fuel : Nat} {v : Value} {x : DataW H × List MemPlace} (h : DataW.trod enc Tryz.prog W base spare held fuel 35 [v] = some x) : ∃ L,RowAt W v L:=by
 rcases sliceEach Tryz.underlying35 h with rfl | ⟨a,len,cap,n,rfl,hl,hi⟩
 ·exact ⟨[],none,0,rfl,by simp,Or.inl rfl⟩
 ·have each : ∀ i,i < len→∃ q : Int × Int,W.cell? (a.add (i * 2)) = some (.int .i64 q.1)∧W.cell? (a.add (i * 2 + 1)) = some (.int .i64 q.2):=by
   intro i hlt
   obtain ⟨cs,y,h1,h2⟩:=hi i hlt
   rw [cVal2] at h1
   obtain ⟨_,hlen,hcell⟩:=World.cells?_some h1
   obtain ⟨xs,k,rfl,hxy,_,hxl,hf⟩:=DataW.trod_struct Tryz.underlying61 h2
   obtain ⟨y0,y1,rfl⟩ : ∃ a b,xs = [a,b]:=by
    rcases xs with _ | ⟨a,_ | ⟨b,_ | ⟨c,l⟩⟩⟩
    ·cases hxl
    ·cases hxl
    ·exact ⟨a,b,rfl⟩
    ·simp at hxl
   obtain ⟨v0,v1,rfl⟩ : ∃ a b,cs = [a,b]:=by
    rcases cs with _ | ⟨a,_ | ⟨b,_ | ⟨c,l⟩⟩⟩
    ·cases hlen
    ·cases hlen
    ·exact ⟨a,b,rfl⟩
    ·simp at hlen
   have g0:=hf 0 _ rfl
   have g1:=hf 1 _ rfl
   simp [cInt1] at g0 g1
   have e0:=hcell 0 (by omega)
   have e1:=hcell 1 (by omega)
   obtain ⟨z0,q0,_,_⟩:=DataW.trod_int Tryz.underlying3 g0
   obtain ⟨z1,q1,_,_⟩:=DataW.trod_int Tryz.underlying3 g1
   simp at q0 q1
   subst q0 q1
   rw [add_add] at e0 e1
   exact ⟨(z0,z1),by simpa using e0,by simpa using e1⟩
  obtain ⟨q,hq⟩:=pick_lt each
  refine ValsAt.row (n:=len) (k:=fun i => (q i).1) (z:=fun i => (q i).2) ⟨some a,cap,rfl,hl,?_⟩
  by_cases h0 : len = 0
  ·exact Or.inl h0
  ·right
   obtain ⟨c0,_⟩:=hq 0 (by omega)
   have hp:=plainAt (v:=.int .i64 (q 0).1) (by simpa using c0)
   refine ⟨a.block,a.off,by rw [hp],?_,fun i hlt => ?_⟩
   ·have:=cell_lt c0
    simpa [Addr.add] using this
   ·obtain ⟨c0,c1⟩:=hq i hlt
    rw [hp,add_plain] at c0 c1
    exact ⟨c0,c1⟩
theorem cs_of_trod {fuel : Nat} {v : Value} {x : DataW H × List MemPlace} (h : DataW.trod enc Tryz.prog W base spare held fuel 24 [v] = some x) : ∃ cs,CsAt W v cs:=by
 rcases sliceEach Tryz.underlying24 h with rfl | ⟨a,len,cap,n,rfl,hl,hi⟩
 ·exact ⟨[],none,0,rfl,by simp,Or.inl rfl⟩
 ·have each : ∀ i,i < len→∃ q : List (Int × Int),∃ u,W.cell? (a.add i) = some u∧RowAt W u q:=by
   intro i hlt
   obtain ⟨cs,y,h1,h2⟩:=hi i hlt
   rw [cLVal1,Nat.mul_one] at h1
   obtain ⟨_,hlen,hcell⟩:=World.cells?_some h1
   obtain ⟨u,rfl⟩ : ∃ a,cs = [a]:=by
    rcases cs with _ | ⟨a,_ | ⟨b,l⟩⟩
    ·cases hlen
    ·exact ⟨a,rfl⟩
    ·simp at hlen
   obtain ⟨L,hL⟩:=row_of_trod h2
   have e0:=hcell 0 (by omega)
   rw [add_add,Nat.add_zero] at e0
   exact ⟨L,u,by simpa using e0,hL⟩
  obtain ⟨q,hq⟩:=pick_lt each
  have hcs : ∀ i,i < len→((List.range len).map q).getD i [] = q i:=fun i hi => by simp [List.getD,hi]
  refine ⟨(List.range len).map q,some a,cap,by simp,by simpa using hl,?_⟩
  rw [List.length_map,List.length_range]
  by_cases h0 : len = 0
  ·exact Or.inl h0
  ·right
   obtain ⟨_,c0,_⟩:=hq 0 (by omega)
   have hp:=plainAt (by simpa using c0)
   refine ⟨a.block,a.off,by rw [hp],?_,fun i hlt => ?_⟩
   ·have:=cell_lt c0
    simpa [Addr.add] using this
   ·obtain ⟨u,c0,hr⟩:=hq i hlt
    rw [hp,add_plain] at c0
    refine ⟨u,c0,?_⟩
    unfold cLen cK cZ
    rw [hcs i hlt]
    exact hr
theorem frames_of_trod {fuel : Nat} {v : Value} {x : DataW H × List MemPlace} (h : DataW.trod enc Tryz.prog W base spare held fuel 23 [v] = some x) : ∃ fs,FramesAt W v fs:=by
 rcases sliceEach Tryz.underlying23 h with rfl | ⟨a,len,cap,n,rfl,hl,hi⟩
 ·exact ⟨[],none,0,rfl,by simp,Or.inl rfl⟩
 ·have each : ∀ i,i < len→∃ q : Fm,∃ u,W.cell? (a.add (i * 4)) = some (.int .i64 q.proc)∧W.cell? (a.add (i * 4 + 1)) = some (.int .i64 q.pos)∧W.cell? (a.add (i * 4 + 2)) = some u∧W.cell? (a.add (i * 4 + 3)) = some (.int .i64 q.to)∧RowAt W u q.regs:=by
   intro i hlt
   obtain ⟨cs,y,h1,h2⟩:=hi i hlt
   rw [cFrame4] at h1
   obtain ⟨_,hlen,hcell⟩:=World.cells?_some h1
   obtain ⟨xs,k,rfl,hxy,_,hxl,hf⟩:=DataW.trod_struct Tryz.underlying40 h2
   obtain ⟨y0,y1,y2,y3,rfl⟩:=lenFour (l:=xs) hxl
   obtain ⟨v0,v1,v2,v3,rfl⟩:=lenFour hlen
   have g0:=hf 0 _ rfl
   have g1:=hf 1 _ rfl
   have g2:=hf 2 _ rfl
   have g3:=hf 3 _ rfl
   simp [cInt1,cLVal1] at g0 g1 g2 g3
   have e0:=hcell 0 (by omega)
   have e1:=hcell 1 (by omega)
   have e2:=hcell 2 (by omega)
   have e3:=hcell 3 (by omega)
   obtain ⟨z0,q0,_,_⟩:=DataW.trod_int Tryz.underlying3 g0
   obtain ⟨z1,q1,_,_⟩:=DataW.trod_int Tryz.underlying3 g1
   obtain ⟨z3,q3,_,_⟩:=DataW.trod_int Tryz.underlying3 g3
   simp at q0 q1 q3
   subst q0 q1 q3
   obtain ⟨L,hL⟩:=row_of_trod g2
   rw [add_add] at e0 e1 e2 e3
   exact ⟨⟨z0,z1,L,z3⟩,v2,by simpa using e0,by simpa using e1,by simpa using e2,by simpa using e3,hL⟩
  haveI : Inhabited Fm:=⟨noFm⟩
  obtain ⟨q,hq⟩:=pick_lt each
  have hfs : ∀ i,i < len→fmAt ((List.range len).map q) i = q i:=fun i hi => by simp [fmAt,List.getD,hi]
  refine ⟨(List.range len).map q,some a,cap,by simp,by simpa using hl,?_⟩
  rw [List.length_map,List.length_range]
  by_cases h0 : len = 0
  ·exact Or.inl h0
  ·right
   obtain ⟨_,c0,_⟩:=hq 0 (by omega)
   have hp:=plainAt (v:=.int .i64 (q 0).proc) (by simpa using c0)
   refine ⟨a.block,a.off,by rw [hp],?_,fun i hlt => ?_⟩
   ·have:=cell_lt c0
    simpa [Addr.add] using this
   ·obtain ⟨u,c0,c1,c2,c3,hr⟩:=hq i hlt
    rw [hp,add_plain] at c0 c1 c2 c3
    rw [hfs i hlt]
    exact ⟨u,c0,c1,c2,c3,hr⟩
set_option maxRecDepth 20000 in
theorem sta_of_trod {r : Reach} {b0 : Nat} {v : Value} {d : DataW H} {p : List MemPlace} (hv : Value.okWide Tryz.prog W r b0 26 v) (h : DataW.Trod enc Tryz.prog W base spare held 26 v d p) : ∃ fv cv S,v = staV fv cv S.st S.wh∧StaAt W fv cv S:=by
 obtain ⟨c0,c1,c2,c3,y0,y1,y2,y3,mm,rfl,_,_,h0,h1,h2,h3⟩:=open_agg4 Tryz.underlying26 (by kernel_rfl) cState4 hv h
 obtain ⟨fs,hf⟩:=frames_of_trod h0
 obtain ⟨cs,hc⟩:=cs_of_trod h1
 obtain ⟨st,e2,_,_⟩:=DataW.trod_int Tryz.underlying3 h2
 obtain ⟨wh,e3,_,_⟩:=DataW.trod_int Tryz.underlying3 h3
 simp at e2 e3
 exact ⟨c0,c1,⟨fs,cs,st,wh⟩,by rw [e2,e3]; rfl,hf,hc⟩
end
end Go.Proofs.YtipnjoahobplhaaGreatDoor
