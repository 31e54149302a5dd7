/- One text: what it reads as is a program, of which Print says it. -/
import Derived.Test.YtfaokaohhchdhaaGreatDoorPart42
import Derived.Test.YtfaokaohhchdhaaGreatDoorPart44
import Derived.Test.YtfaokaohhchdhaaGreatDoorPart15
import Derived.Test.YtfaokaohhchdhaaGreatDoorPart29
import Derived.Test.YtfaokaohhchdhaaGreatDoorQRead
import Derived.Test.YtfaokaohhchdhaaGreatDoorPart48
import Derived.Test.YtfaokaohhchdhaaGreatDoorPart21
import Derived.Test.YtfaokaohhchdhaaGreatDoorPart4
import Derived.Deep.SlicePairs
namespace Go.Proofs.YtfaokaohhchdhaaGreatDoor
open Go.RowKit Go.Maps
def countsL : List UInt8:=[102,117,110,32,48,32,49,32,123,32,115,101,116,32,48,32,51,32,119,104,105,108,101,32,118,48,32,123,32,115,97,121,32,102,49,32,118,48,32,118,48,32,103,111,32,118,48,32,112,97,117,115,101,32,115,101,116,32,48,32,45,32,118,48,32,49,32,125,32,125,32,102,117,110,32,50,32,50,32,123,32,114,101,116,117,114,110,32,42,32,118,48,32,118,49,32,125]
end Go.Proofs.YtfaokaohhchdhaaGreatDoor
namespace Go.Proofs.YtfaokaohhchdhaaGreatDoor
open Go.RowKit
def cntI : Nat→List (List Int)
 | 0 => [[1,1,3,0],[2,0,1,0],[2,1,0,0],[13,1,16,0],[2,1,0,0],[2,2,0,0],[7,1,1,0,1,2],[9,1,0,0],[2,1,0,0],[11,1,0,0],[10,0,0,0],[2,1,0,0],[1,2,1,0],[3,1,1,2,2],[2,0,1,0],[12,0,2,0],[1,1,0,0],[8,1,0,0]]
 | _ => [[2,2,0,0],[2,3,1,0],[3,2,2,3,3],[8,2,0,0],[1,2,0,0],[8,2,0,0]]
def cntPar (j : Nat) : Int:=if j=0 then 0 else 2
theorem cnt_n : rqN (wordsOf (bs countsL))=2:=by decide +kernel
theorem cnt_par : rqP (wordsOf (bs countsL)) 0=0∧rqP (wordsOf (bs countsL)) 1=2:=by decide +kernel
theorem cnt_code : codedM 2 (rqP (wordsOf (bs countsL))) (rqL (wordsOf (bs countsL))) 6 (rqB (wordsOf (bs countsL))) 0=some (cntI 0)∧codedM 2 (rqP (wordsOf (bs countsL))) (rqL (wordsOf (bs countsL))) 6 (rqB (wordsOf (bs countsL))) 1=some (cntI 1):=by decide +kernel
def cntP : Nat→Pc:=pcOf cntPar cntI
theorem cnt_right : codeErr 2 cntP=0:=by decide +kernel
def newS (P : Nat→Pc) : Sta:=⟨[⟨0,0,List.replicate (P 0).regs.toNat (0,0),0⟩],[],0,0⟩
end Go.Proofs.YtfaokaohhchdhaaGreatDoor
namespace Go.Proofs.YtfaokaohhchdhaaGreatDoor
open Go.RowKit Go.Maps
def toksFewB : Nat→SL→Bool
 | 0,_ => true
 | d + 1,T => (List.range T.len).all fun i => decide ((T.nd i).ne≤1000) && (decide ((T.nd i).nf≤1000) && (decide ((T.nd i).kind ≠ 2) && (toksFewB d (T.sub i false) && toksFewB d (T.sub i true))))
theorem toksFew_of : ∀ {d : Nat} {T : SL},toksFewB d T=true→toksFew d T
 | 0,_,_ => trivial
 | d + 1,T,h => fun i hi => by
  have:=List.all_eq_true.1 h i (List.mem_range.2 hi)
  simp only [Bool.and_eq_true,decide_eq_true_eq] at this
  obtain ⟨h1,h2,h3,h4,h5⟩:=this
  exact ⟨h1,h2,h3,toksFew_of h4,toksFew_of h5⟩
theorem cnt_few : toksFewB 6 (rqB (wordsOf (bs countsL)) 0)=true∧toksFewB 6 (rqB (wordsOf (bs countsL)) 1)=true:=by decide +kernel
theorem cnt_left : rqLeft (wordsOf (bs countsL))=([],true):=by decide +kernel
theorem cnt_loc : rqL (wordsOf (bs countsL)) 0=1∧rqL (wordsOf (bs countsL)) 1=2:=by decide +kernel
theorem cnt_err : progErr 2 (rqP (wordsOf (bs countsL))) (rqL (wordsOf (bs countsL))) 6 (rqB (wordsOf (bs countsL)))=0:=by decide +kernel
theorem cnt_text : bs (textL (progW 2 (rqP (wordsOf (bs countsL))) (rqL (wordsOf (bs countsL))) 6 (rqB (wordsOf (bs countsL)))))=bs countsL:=by decide +kernel
theorem cnt_good : rqGood 6 (bs countsL):=by
 refine ⟨by rw [cnt_n]; decide,fun i hi => ?_,cnt_left,by rw [cnt_n]; exact cnt_err,by rw [cnt_n]; exact cnt_text⟩
 rw [cnt_n] at hi
 obtain rfl | rfl : i=0∨i=1:=by omega
 ·rw [cnt_par.1]; decide
 ·rw [cnt_par.2]; decide
theorem counts_lit2 : bs countsL=⟨([102,117,110,32,48,32,49,32,123,32,115,101,116,32,48,32,51,32,119,104,105,108,101,32,118,48,32,123,32,115,97,121,32,102,49,32,118,48,32,118,48,32,103,111,32,118,48,32].append [112,97,117,115,101,32,115,101,116,32,48,32,45,32,118,48,32,49,32,125,32,125,32,102,117,110,32,50,32,50,32,123,32,114,101,116,117,114,110,32,42,32,118,48,32,118,49,32,125]).toArray⟩:=by unfold countsL; rfl
set_option maxRecDepth 20000 in
set_option maxHeartbeats 4000000 in
theorem programC (N : Nat) (w : World) (hN : N≤w.heap.size) (he : Env N w) (hsp : Spc N w) : Calls Tryz.prog 51 #[] w fun e w' => ∃ v,e=.returned v∧Hid (RqAt 6 (bs countsL) w' v)∧Hid (Below w.heap.size w w'):=by
 have hG:=cnt_good
 have hsz : (bs countsL).size≤60000:=by rw [bs_size]; decide
 have hlit:=counts_lit2
 generalize bs countsL=s at *
 have HP : Hid (Calls Tryz.prog 104 #[.string ⟨([102,117,110,32,48,32,49,32,123,32,115,101,116,32,48,32,51,32,119,104,105,108,101,32,118,48,32,123,32,115,97,121,32,102,49,32,118,48,32,118,48,32,103,111,32,118,48,32].append [112,97,117,115,101,32,115,101,116,32,48,32,45,32,118,48,32,49,32,125,32,125,32,102,117,110,32,50,32,50,32,123,32,114,101,116,117,114,110,32,42,32,118,48,32,118,49,32,125]).toArray⟩] w fun e w' => ∃ v,e=.returned (.tuple #[v,.int .i64 0])∧Hid (RqAt 6 s w' v)∧Hid (Below w.heap.size w w')):=by
  rw [← hlit]
  refine (sourceRead N 6 s hsz (by decide) w hN he hsp).mono ?_
  rintro e w' ⟨⟨_,v,rfl,h⟩ | ⟨h,_⟩,hb⟩
  ·exact ⟨v,rfl,h,hb⟩
  ·exact absurd hG h.out
 clear he hsp hG hsz hlit
 go_enter Tryz.func51,Tryz.ntmps51
 go_wp2_with (go_at_call 104; refine HP.out.mono ?_; rintro e w1 ⟨v,rfl,P1,b1⟩)
 go_ret
 exact ⟨v,rfl,P1,b1⟩
theorem codedCnt (v : Value) (w : World) (h : RqAt 6 (bs countsL) w v) : Calls Tryz.prog 50 #[v] w fun e w' => ∃ a c,e=.returned (.slice a 2 c)∧Hid (ProcsAt w'.heap.size w' (.slice a 2 c) 2 cntP)∧Hid (Below w.heap.size w w'):=by
 obtain ⟨bv,h1,h2⟩:=h
 rw [cnt_n] at h1 h2
 refine (codedC w.heap.size v 2 _ _ bv 6 _ cntI w (Nat.le_refl _) h1 h2 (fun i hi => ?_) (fun i hi => ?_) (fun i hi => ?_) (by decide)).mono ?_
 ·obtain rfl | rfl : i=0∨i=1:=by omega
  ·exact toksFew_of cnt_few.1
  ·exact toksFew_of cnt_few.2
 ·obtain rfl | rfl : i=0∨i=1:=by omega
  ·rw [cnt_loc.1]; decide
  ·rw [cnt_loc.2]; decide
 ·obtain rfl | rfl : i=0∨i=1:=by omega
  ·exact ⟨cnt_code.1,by decide⟩
  ·exact ⟨cnt_code.2,by decide⟩
 ·rintro e w' ⟨a,c,rfl,h,hb⟩
  refine ⟨a,c,rfl,h.out.congr fun j hj => ?_,hb⟩
  obtain rfl | rfl : j=0∨j=1:=by omega
  ·show pcOf _ _ _=pcOf _ _ _
   unfold pcOf
   rw [cnt_par.1]; rfl
  ·show pcOf _ _ _=pcOf _ _ _
   unfold pcOf
   rw [cnt_par.2]; rfl
theorem Box4.lt {t : TypeId} {X : Nat} {w : World} {a b c d : Value} (h : Box4 t X w a b c d) : X < w.heap.size:=(Array.getElem?_eq_some_iff.1 h).1
end Go.Proofs.YtfaokaohhchdhaaGreatDoor
namespace Go.Proofs.YtfaokaohhchdhaaGreatDoor
open Go.ChangeShapes Go.WideShapes Go.ChangeAt Go.RowKit Go.Deep
theorem cIns5 : Tryz.prog.cellsOf 84=5:=by kernel_rfl
theorem cProc3 : Tryz.prog.cellsOf 38=3:=by kernel_rfl
theorem cLInt1 : Tryz.prog.cellsOf 30=1:=by kernel_rfl
theorem cLIns1 : Tryz.prog.cellsOf 36=1:=by kernel_rfl
theorem cInt1 : Tryz.prog.cellsOf 3=1:=by kernel_rfl
theorem plainAt {w : World} {a : Addr} {v : Value} (h : w.cell? (a.add 0)=some v) : a=⟨a.block,a.off,none⟩:=by
 have hs:=World.cell?_spot h
 obtain ⟨b,o,s⟩:=a
 have hs' : s=none:=by simpa [Addr.add] using hs
 rw [hs']
theorem lenFive {α : Type} {l : List α} (h : l.length=5) : ∃ a b c d e,l=[a,b,c,d,e]:=by
 rcases l with _ | ⟨a,_ | ⟨b,_ | ⟨c,_ | ⟨d,_ | ⟨e,_ | ⟨f,l⟩⟩⟩⟩⟩⟩
 ·cases h
 ·cases h
 ·cases h
 ·cases h
 ·cases h
 ·exact ⟨a,b,c,d,e,rfl⟩
 ·simp at h
theorem lenThree {α : Type} {l : List α} (h : l.length=3) : ∃ a b c,l=[a,b,c]:=by
 rcases l with _ | ⟨a,_ | ⟨b,_ | ⟨c,_ | ⟨d,l⟩⟩⟩⟩
 ·cases h
 ·cases h
 ·cases h
 ·exact ⟨a,b,c,rfl⟩
 ·simp at h
theorem pick_lt {α : Type} [Inhabited α] {n : Nat} {p : Nat→α→Prop} (h : ∀ i,i < n→∃ x,p i x) : ∃ f : Nat→α,∀ i,i < n→p i (f i) :=
 ⟨fun i => if hi : i < n then Classical.choose (h i hi) else default,fun i hi => by
  show p i (if hi : i < n then Classical.choose (h i hi) else default)
  rw [dif_pos hi]; exact Classical.choose_spec (h i hi)⟩
section
variable {H : Type} {enc : TypeId×Value→H} {W : World} {base : Nat} {spare : Nat→Bool} {held : Bool}
theorem sliceEach {t e : TypeId} {fuel : Nat} {v : Value} {x : DataW H×List MemPlace} (ht : Tryz.prog.underlying t=some (.slice e)) (h : DataW.trod enc Tryz.prog W base spare held fuel t [v]=some x) :
  v=.slice none 0 0∨∃ (a : Addr) (len cap n : Nat),v=.slice (some a) len cap∧len≤9223372036854775807 ∧
   ∀ i,i < len→∃ cs y,W.cells? base (a.add (i * Tryz.prog.cellsOf e)) (Tryz.prog.cellsOf e)=some cs∧DataW.trod enc Tryz.prog W base spare held n e cs=some y:=by
 rcases DataW.trod_slice ht h with ⟨hcs,_⟩ | ⟨a,len,cap,elems,rest,n,hfu,hcs,rfl,hb,hl,hm,hlen,hel,_⟩
 ·exact Or.inl (by simpa using hcs)
 ·refine Or.inr ⟨a,len,cap,n,by simpa using hcs,by unfold maxLen at hm; omega,fun i hi => ?_⟩
  have key:=hel i hi
  rw [List.getElem?_eq_getElem (by omega)] at key
  obtain ⟨cs',h1,h2⟩:=Option.bind_eq_some_iff.1 key
  exact ⟨cs',_,h1,h2⟩
theorem nums_of_trod {fuel : Nat} {v : Value} {x : DataW H×List MemPlace} (h : DataW.trod enc Tryz.prog W base spare held fuel 30 [v]=some x) : ∃ n z,NumsAt W.heap.size W v n z:=by
 rcases sliceEach Tryz.underlying30 h with rfl | ⟨a,len,cap,n,rfl,hl,hi⟩
 ·exact ⟨0,fun _ => 0,none,0,rfl,by omega,Or.inl rfl⟩
 ·have each : ∀ i,i < len→∃ z : Int,W.cell? (a.add i)=some (.int .i64 z):=by
   intro i hlt
   obtain ⟨cs,y,h1,h2⟩:=hi i hlt
   rw [cInt1,Nat.mul_one] at h1
   obtain ⟨_,hlen,hcell⟩:=World.cells?_some h1
   obtain ⟨z,e,_,_⟩:=DataW.trod_int Tryz.underlying3 h2
   subst e
   have:=hcell 0 (by omega)
   rw [add_add,Nat.add_zero] at this
   exact ⟨z,by simpa using this⟩
  obtain ⟨z,hz⟩:=pick_lt each
  refine ⟨len,z,some a,cap,rfl,hl,?_⟩
  by_cases h0 : len=0
  ·exact Or.inl h0
  ·right
   have hp:=plainAt (hz 0 (by omega))
   refine ⟨a.block,a.off,by rw [hp],?_,fun i hlt => ?_⟩
   ·have:=cell_lt (hz 0 (by omega))
    simpa [Addr.add] using this
   ·have:=hz i hlt
    rw [hp,add_plain] at this
    exact this
theorem code_of_trod {fuel : Nat} {v : Value} {x : DataW H×List MemPlace} (h : DataW.trod enc Tryz.prog W base spare held fuel 36 [v]=some x) : ∃ n ins,CodeAt W.heap.size W v n ins:=by
 rcases sliceEach Tryz.underlying36 h with rfl | ⟨a,len,cap,n,rfl,hl,hi⟩
 ·exact ⟨0,fun _ => ⟨0,0,0,0,0,fun _ => 0⟩,none,0,rfl,by omega,Or.inl rfl⟩
 ·have each : ∀ i,i < len→∃ q : In,∃ va,W.cell? (a.add (i * 5))=some (.int .i64 q.op)∧W.cell? (a.add (i * 5 + 1))=some (.int .i64 q.a)∧W.cell? (a.add (i * 5 + 2))=some (.int .i64 q.b)∧W.cell? (a.add (i * 5 + 3))=some (.int .i64 q.c)∧W.cell? (a.add (i * 5 + 4))=some va∧NumsAt W.heap.size W va q.n q.z:=by
   intro i hlt
   obtain ⟨cs,y,h1,h2⟩:=hi i hlt
   rw [cIns5] at h1
   obtain ⟨_,hlen,hcell⟩:=World.cells?_some h1
   obtain ⟨xs,k,rfl,hxy,_,hxl,hf⟩:=DataW.trod_struct Tryz.underlying84 h2
   obtain ⟨y0,y1,y2,y3,y4,rfl⟩:=lenFive (l:=xs) hxl
   obtain ⟨v0,v1,v2,v3,v4,rfl⟩:=lenFive hlen
   have g0:=hf 0 _ rfl
   have g1:=hf 1 _ rfl
   have g2:=hf 2 _ rfl
   have g3:=hf 3 _ rfl
   have g4:=hf 4 _ rfl
   simp [cInt1,cLInt1] at g0 g1 g2 g3 g4
   have e0:=hcell 0 (by omega)
   have e1:=hcell 1 (by omega)
   have e2:=hcell 2 (by omega)
   have e3:=hcell 3 (by omega)
   have e4:=hcell 4 (by omega)
   obtain ⟨z0,q0,_,_⟩:=DataW.trod_int Tryz.underlying3 g0
   obtain ⟨z1,q1,_,_⟩:=DataW.trod_int Tryz.underlying3 g1
   obtain ⟨z2,q2,_,_⟩:=DataW.trod_int Tryz.underlying3 g2
   obtain ⟨z3,q3,_,_⟩:=DataW.trod_int Tryz.underlying3 g3
   simp at q0 q1 q2 q3
   subst q0 q1 q2 q3
   obtain ⟨m,z,hz⟩:=nums_of_trod g4
   rw [add_add] at e0 e1 e2 e3 e4
   exact ⟨⟨z0,z1,z2,z3,m,z⟩,v4,by simpa using e0,by simpa using e1,by simpa using e2,by simpa using e3,by simpa using e4,hz⟩
  haveI : Inhabited In:=⟨⟨0,0,0,0,0,fun _ => 0⟩⟩
  obtain ⟨q,hq⟩:=pick_lt each
  refine ⟨len,q,some a,cap,rfl,hl,?_⟩
  by_cases h0 : len=0
  ·exact Or.inl h0
  ·right
   obtain ⟨_,c0,_⟩:=hq 0 (by omega)
   have hp:=plainAt (v:=.int .i64 (q 0).op) (by simpa using c0)
   refine ⟨a.block,a.off,by rw [hp],?_,fun i hlt => ?_⟩
   ·have:=cell_lt c0
    simpa [Addr.add] using this
   ·obtain ⟨va,c0,c1,c2,c3,c4,s⟩:=hq i hlt
    rw [hp,add_plain] at c0 c1 c2 c3 c4
    exact ⟨va,c0,c1,c2,c3,c4,s⟩
theorem procs_of_trod {fuel : Nat} {v : Value} {x : DataW H×List MemPlace} (h : DataW.trod enc Tryz.prog W base spare held fuel 22 [v]=some x) : ∃ n P,ProcsAt W.heap.size W v n P:=by
 rcases sliceEach Tryz.underlying22 h with rfl | ⟨a,len,cap,n,rfl,hl,hi⟩
 ·exact ⟨0,fun _ => ⟨0,0,0,fun _ => ⟨0,0,0,0,0,fun _ => 0⟩⟩,none,0,rfl,by omega,Or.inl rfl⟩
 ·have each : ∀ i,i < len→∃ q : Pc,∃ vc,W.cell? (a.add (i * 3))=some (.int .i64 q.params)∧W.cell? (a.add (i * 3 + 1))=some (.int .i64 q.regs)∧W.cell? (a.add (i * 3 + 2))=some vc∧CodeAt W.heap.size W vc q.n q.ins:=by
   intro i hlt
   obtain ⟨cs,y,h1,h2⟩:=hi i hlt
   rw [cProc3] at h1
   obtain ⟨_,hlen,hcell⟩:=World.cells?_some h1
   obtain ⟨xs,k,rfl,hxy,_,hxl,hf⟩:=DataW.trod_struct Tryz.underlying38 h2
   obtain ⟨y0,y1,y2,rfl⟩:=lenThree (l:=xs) hxl
   obtain ⟨v0,v1,v2,rfl⟩:=lenThree hlen
   have g0:=hf 0 _ rfl
   have g1:=hf 1 _ rfl
   have g2:=hf 2 _ rfl
   simp [cInt1,cLIns1] at g0 g1 g2
   have e0:=hcell 0 (by omega)
   have e1:=hcell 1 (by omega)
   have e2:=hcell 2 (by omega)
   obtain ⟨z0,q0,_,_⟩:=DataW.trod_int Tryz.underlying3 g0
   obtain ⟨z1,q1,_,_⟩:=DataW.trod_int Tryz.underlying3 g1
   simp at q0 q1
   subst q0 q1
   obtain ⟨m,ins,hz⟩:=code_of_trod g2
   rw [add_add] at e0 e1 e2
   exact ⟨⟨z0,z1,m,ins⟩,v2,by simpa using e0,by simpa using e1,by simpa using e2,hz⟩
  haveI : Inhabited Pc:=⟨⟨0,0,0,fun _ => ⟨0,0,0,0,0,fun _ => 0⟩⟩⟩
  obtain ⟨q,hq⟩:=pick_lt each
  refine ⟨len,q,some a,cap,rfl,hl,?_⟩
  by_cases h0 : len=0
  ·exact Or.inl h0
  ·right
   obtain ⟨_,c0,_⟩:=hq 0 (by omega)
   have hp:=plainAt (v:=.int .i64 (q 0).params) (by simpa using c0)
   refine ⟨a.block,a.off,by rw [hp],?_,fun i hlt => ?_⟩
   ·have:=cell_lt c0
    simpa [Addr.add] using this
   ·obtain ⟨vc,c0,c1,c2,s⟩:=hq i hlt
    rw [hp,add_plain] at c0 c1 c2
    exact ⟨vc,c0,c1,c2,s⟩
end
end Go.Proofs.YtfaokaohhchdhaaGreatDoor
namespace Go.Proofs.YtfaokaohhchdhaaGreatDoor
open Go.ChangeShapes Go.WideShapes Go.ChangeAt Go.RowKit
structure NumsL (N : Nat) (w : World) (a : Option Addr) (c : Nat) (l : List Int) : Prop where
 le : l.length≤c
 big : c≤9223372036854775807
 nil : a=none→l=[]∧c=0
 one : ∀ p,a=some p→l=[]∨∃ b o,p=⟨b,o,none⟩∧b < N∧∀ i z,l[i]?=some z→w.cell? ⟨b,o + i,none⟩=some (.int .i64 z)
 fit : ∀ z ∈ l,-9223372036854775808≤z∧z≤9223372036854775807
theorem NumsL.below {N : Nat} {w w' : World} {a : Option Addr} {c : Nat} {l : List Int} (h : NumsL N w a c l) (hb : Below N w w') : NumsL N w' a c l:=by
 refine ⟨h.le,h.big,h.nil,fun p hp => ?_,h.fit⟩
 rcases h.one p hp with h0 | ⟨b,o,e,hlt,hc⟩
 ·exact Or.inl h0
 ·exact Or.inr ⟨b,o,e,hlt,fun i z hi => (hb.cell (p:=⟨b,o + i,none⟩) hlt).trans (hc i z hi)⟩
section
variable {H : Type} {enc : TypeId×Value→H} {W : World} {base : Nat} {spare : Nat→Bool} {held : Bool}
end
end Go.Proofs.YtfaokaohhchdhaaGreatDoor
