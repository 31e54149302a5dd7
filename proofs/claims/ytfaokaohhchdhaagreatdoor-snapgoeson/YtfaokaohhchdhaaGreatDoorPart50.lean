/- One text: what it reads as is a program, of which Print says it. -/
import Derived.Test.YtfaokaohhchdhaaGreatDoorQRead
import Derived.Test.YtfaokaohhchdhaaGreatDoorPart49
import Derived.Test.YtfaokaohhchdhaaGreatDoorSnapU
namespace Go.Proofs.YtfaokaohhchdhaaGreatDoor
section
open Go.RowKit Go.Maps
def countsL:List UInt8:=[102,117,110,32,48,32,49,32,123,32,115,101,116,32,48,32,51,32,119,104,105,108,101,32,118,48,32,123,32,115,97,121,32,102,49,32,118,48,32,118,48,32,103,111,32,118,48,32,112,97,117,115,101,32,115,101,116,32,48,32,45,32,118,48,32,49,32,125,32,125,32,102,117,110,32,50,32,50,32,123,32,114,101,116,117,114,110,32,42,32,118,48,32,118,49,32,125]
end
section
open Go.RowKit
def cntI:Nat→List (List Int)
 | 0=>[[1,1,3,0],[2,0,1,0],[2,1,0,0],[13,1,16,0],[2,1,0,0],[2,2,0,0],[7,1,1,0,1,2],[9,1,0,0],[2,1,0,0],[11,1,0,0],[10,0,0,0],[2,1,0,0],[1,2,1,0],[3,1,1,2,2],[2,0,1,0],[12,0,2,0],[1,1,0,0],[8,1,0,0]]
 | _=>[[2,2,0,0],[2,3,1,0],[3,2,2,3,3],[8,2,0,0],[1,2,0,0],[8,2,0,0]]
def cntPar (j:Nat):Int:=if j=0 then 0 else 2
theorem cnt_n:rqN (wordsOf (bs countsL))=2:=by decide +kernel
theorem cnt_par:rqP (wordsOf (bs countsL)) 0=0∧rqP (wordsOf (bs countsL)) 1=2:=by decide +kernel
theorem cnt_code:codedM 2 (rqP (wordsOf (bs countsL))) (rqL (wordsOf (bs countsL))) 6 (rqB (wordsOf (bs countsL))) 0=some (cntI 0)∧codedM 2 (rqP (wordsOf (bs countsL))) (rqL (wordsOf (bs countsL))) 6 (rqB (wordsOf (bs countsL))) 1=some (cntI 1):=by decide +kernel
def cntP:Nat→Pc:=pcOf cntPar cntI
theorem cnt_right:codeErr 2 cntP=0:=by decide +kernel
def newS (P:Nat→Pc):Sta:=⟨[⟨0,0,List.replicate (P 0).regs.toNat (0,0),0⟩],[],0,0⟩
end
section
open Go.RowKit Go.Maps
def toksFewB:Nat→SL→Bool
 | 0,_=>true
 | d+1,T=>(List.range T.len).all fun i=>decide ((T.nd i).ne≤1000) && (decide ((T.nd i).nf≤1000) && (decide ((T.nd i).kind ≠ 2) && (toksFewB d (T.sub i false) && toksFewB d (T.sub i true))))
theorem toksFew_of:∀ {d:Nat} {T:SL},toksFewB d T=true→toksFew d T
 | 0,_,_=>trivial
 | d+1,T,h=>fun i hi=>by
  have:=List.all_eq_true.1 h i (List.mem_range.2 hi)
  simp only[Bool.and_eq_true,decide_eq_true_eq]at this
  obtain⟨h1,h2,h3,h4,h5⟩:=this
  exact⟨h1,h2,h3,toksFew_of h4,toksFew_of h5⟩
theorem cnt_few:toksFewB 6 (rqB (wordsOf (bs countsL)) 0)=true∧toksFewB 6 (rqB (wordsOf (bs countsL)) 1)=true:=by decide +kernel
theorem cnt_left:rqLeft (wordsOf (bs countsL))=([],true):=by decide +kernel
theorem cnt_loc:rqL (wordsOf (bs countsL)) 0=1∧rqL (wordsOf (bs countsL)) 1=2:=by decide +kernel
theorem cnt_err:progErr 2 (rqP (wordsOf (bs countsL))) (rqL (wordsOf (bs countsL))) 6 (rqB (wordsOf (bs countsL)))=0:=by decide +kernel
theorem cnt_text:bs (textL (progW 2 (rqP (wordsOf (bs countsL))) (rqL (wordsOf (bs countsL))) 6 (rqB (wordsOf (bs countsL)))))=bs countsL:=by decide +kernel
theorem cnt_good:rqGood 6 (bs countsL):=by
 refine⟨by rw[cnt_n];decide,fun i hi=>?_,cnt_left,by rw[cnt_n];exact cnt_err,by rw[cnt_n];exact cnt_text⟩
 rw[cnt_n]at hi
 obtain rfl|rfl:i=0∨i=1:=by omega
 ·rw[cnt_par.1];decide
 ·rw[cnt_par.2];decide
theorem counts_lit2:bs countsL=⟨([102,117,110,32,48,32,49,32,123,32,115,101,116,32,48,32,51,32,119,104,105,108,101,32,118,48,32,123,32,115,97,121,32,102,49,32,118,48,32,118,48,32,103,111,32,118,48,32].append [112,97,117,115,101,32,115,101,116,32,48,32,45,32,118,48,32,49,32,125,32,125,32,102,117,110,32,50,32,50,32,123,32,114,101,116,117,114,110,32,42,32,118,48,32,118,49,32,125]).toArray⟩:=by unfold countsL;rfl
set_option maxRecDepth 20000 in
set_option maxHeartbeats 4000000 in
theorem programC (N:Nat) (w:World) (hN:N≤w.heap.size) (he:Env N w) (hsp:Spc N w):Calls Tryz.prog 51 #[] w fun e w'=>∃v,e=.returned v∧Hid (RqAt 6 (bs countsL) w' v)∧Hid (Below w.heap.size w w'):=by
 have hG:=cnt_good
 have hsz:(bs countsL).size≤60000:=by rw[bs_size];decide
 have hlit:=counts_lit2
 generalize bs countsL=s at *
 have HP:Hid (Calls Tryz.prog 104 #[.string ⟨([102,117,110,32,48,32,49,32,123,32,115,101,116,32,48,32,51,32,119,104,105,108,101,32,118,48,32,123,32,115,97,121,32,102,49,32,118,48,32,118,48,32,103,111,32,118,48,32].append [112,97,117,115,101,32,115,101,116,32,48,32,45,32,118,48,32,49,32,125,32,125,32,102,117,110,32,50,32,50,32,123,32,114,101,116,117,114,110,32,42,32,118,48,32,118,49,32,125]).toArray⟩] w fun e w'=>∃v,e=.returned (.tuple #[v,.int .i64 0])∧Hid (RqAt 6 s w' v)∧Hid (Below w.heap.size w w')):=by
  rw[←hlit]
  refine (sourceRead N 6 s hsz (by decide) w hN he hsp).mono ?_
  rintro e w' ⟨⟨_,v,rfl,h⟩|⟨h,_⟩,hb⟩
  ·exact⟨v,rfl,h,hb⟩
  ·exact absurd hG h.out
 clear he hsp hG hsz hlit
 go_enter Tryz.func51,Tryz.ntmps51
 go_wp2_with (go_at_call 104;refine HP.out.mono ?_;rintro e w1 ⟨v,rfl,P1,b1⟩)
 go_ret
 exact⟨v,rfl,P1,b1⟩
theorem codedCnt (v:Value) (w:World) (h:RqAt 6 (bs countsL) w v):Calls Tryz.prog 50 #[v] w fun e w'=>∃a c,e=.returned (.slice a 2 c)∧Hid (ProcsAt w'.heap.size w' (.slice a 2 c) 2 cntP)∧Hid (Below w.heap.size w w'):=by
 obtain⟨bv,h1,h2⟩:=h
 rw[cnt_n]at h1 h2
 refine (codedC w.heap.size v 2 _ _ bv 6 _ cntI w (Nat.le_refl _) h1 h2 (fun i hi=>?_) (fun i hi=>?_) (fun i hi=>?_) (by decide)).mono ?_
 ·obtain rfl|rfl:i=0∨i=1:=by omega
  ·exact toksFew_of cnt_few.1
  ·exact toksFew_of cnt_few.2
 ·obtain rfl|rfl:i=0∨i=1:=by omega
  ·rw[cnt_loc.1];decide
  ·rw[cnt_loc.2];decide
 ·obtain rfl|rfl:i=0∨i=1:=by omega
  ·exact⟨cnt_code.1,by decide⟩
  ·exact⟨cnt_code.2,by decide⟩
 ·rintro e w' ⟨a,c,rfl,h,hb⟩
  refine⟨a,c,rfl,h.out.congr fun j hj=>?_,hb⟩
  obtain rfl|rfl:j=0∨j=1:=by omega
  ·show pcOf _ _ _=pcOf _ _ _
   unfold pcOf
   rw[cnt_par.1];rfl
  ·show pcOf _ _ _=pcOf _ _ _
   unfold pcOf
   rw[cnt_par.2];rfl
end
section
open Go.ChangeShapes Go.WideShapes Go.ChangeAt Go.RowKit Go.Deep
theorem cIns5:Tryz.prog.cellsOf 84=5:=by kernel_rfl
theorem cProc3:Tryz.prog.cellsOf 38=3:=by kernel_rfl
theorem cLInt1:Tryz.prog.cellsOf 30=1:=by kernel_rfl
theorem cLIns1:Tryz.prog.cellsOf 36=1:=by kernel_rfl
theorem cInt1:Tryz.prog.cellsOf 3=1:=by kernel_rfl
theorem plainAt {w:World} {a:Addr} {v:Value} (h:w.cell? (a.add 0)=some v):a=⟨a.block,a.off,none⟩:=by
 have hs:=World.cell?_spot h
 obtain⟨b,o,s⟩:=a
 have hs':s=none:=by simpa[Addr.add]using hs
 rw[hs']
theorem lenFive {α:Type} {l:List α} (h:l.length=5):∃a b c d e,l=[a,b,c,d,e]:=by
 rcases l with _|⟨a,_|⟨b,_|⟨c,_|⟨d,_|⟨e,_|⟨f,l⟩⟩⟩⟩⟩⟩
 ·cases h
 ·cases h
 ·cases h
 ·cases h
 ·cases h
 ·exact⟨a,b,c,d,e,rfl⟩
 ·simp at h
theorem lenThree {α:Type} {l:List α} (h:l.length=3):∃a b c,l=[a,b,c]:=by
 rcases l with _|⟨a,_|⟨b,_|⟨c,_|⟨d,l⟩⟩⟩⟩
 ·cases h
 ·cases h
 ·cases h
 ·exact⟨a,b,c,rfl⟩
 ·simp at h
theorem pick_lt {α:Type} [Inhabited α] {n:Nat} {p:Nat→α→Prop} (h:∀i,i<n→∃x,p i x):∃f:Nat→α,∀i,i<n→p i (f i) :=
 ⟨fun i=>if hi:i<n then Classical.choose (h i hi) else default,fun i hi=>by
  show p i (if hi:i<n then Classical.choose (h i hi) else default)
  rw[dif_pos hi];exact Classical.choose_spec (h i hi)⟩
section
variable {H:Type} {enc:TypeId×Value→H} {W:World} {base:Nat} {spare:Nat→Bool} {held:Bool}
theorem sliceEach {t e:TypeId} {fuel:Nat} {v:Value} {x:DataW H×List MemPlace} (ht:Tryz.prog.underlying t=some (.slice e)) (h:DataW.trod enc Tryz.prog W base spare held fuel t [v]=some x) :
  v=.slice none 0 0∨∃(a:Addr) (len cap n:Nat),v=.slice (some a) len cap∧len≤9223372036854775807 ∧
   ∀i,i<len→∃cs y,W.cells? base (a.add (i*Tryz.prog.cellsOf e)) (Tryz.prog.cellsOf e)=some cs∧DataW.trod enc Tryz.prog W base spare held n e cs=some y:=by
 rcases DataW.trod_slice ht h with⟨hcs,_⟩|⟨a,len,cap,elems,rest,n,hfu,hcs,rfl,hb,hl,hm,hlen,hel,_⟩
 ·exact Or.inl (by simpa using hcs)
 ·refine Or.inr ⟨a,len,cap,n,by simpa using hcs,by unfold maxLen at hm;omega,fun i hi=>?_⟩
  have key:=hel i hi
  rw[List.getElem?_eq_getElem (by omega)]at key
  obtain⟨cs',h1,h2⟩:=Option.bind_eq_some_iff.1 key
  exact⟨cs',_,h1,h2⟩
theorem nums_of_trod {fuel:Nat} {v:Value} {x:DataW H×List MemPlace} (h:DataW.trod enc Tryz.prog W base spare held fuel 30 [v]=some x):∃n z,NumsAt W.heap.size W v n z:=by
 rcases sliceEach Tryz.underlying30 h with rfl|⟨a,len,cap,n,rfl,hl,hi⟩
 ·exact⟨0,fun _=>0,none,0,rfl,by omega,Or.inl rfl⟩
 ·have each:∀i,i<len→∃z:Int,W.cell? (a.add i)=some (.int .i64 z):=by
   intro i hlt
   obtain⟨cs,y,h1,h2⟩:=hi i hlt
   rw[cInt1,Nat.mul_one]at h1
   obtain⟨_,hlen,hcell⟩:=World.cells?_some h1
   obtain⟨z,e,_,_⟩:=DataW.trod_int Tryz.underlying3 h2
   subst e
   have:=hcell 0 (by omega)
   rw[add_add,Nat.add_zero]at this
   exact⟨z,by simpa using this⟩
  obtain⟨z,hz⟩:=pick_lt each
  refine⟨len,z,some a,cap,rfl,hl,?_⟩
  by_cases h0:len=0
  ·exact Or.inl h0
  ·right
   have hp:=plainAt (hz 0 (by omega))
   refine⟨a.block,a.off,by rw[hp],?_,fun i hlt=>?_⟩
   ·have:=cell_lt (hz 0 (by omega))
    simpa[Addr.add]using this
   ·have:=hz i hlt
    rw[hp,add_plain]at this
    exact this
theorem code_of_trod {fuel:Nat} {v:Value} {x:DataW H×List MemPlace} (h:DataW.trod enc Tryz.prog W base spare held fuel 36 [v]=some x):∃n ins,CodeAt W.heap.size W v n ins:=by
 rcases sliceEach Tryz.underlying36 h with rfl|⟨a,len,cap,n,rfl,hl,hi⟩
 ·exact⟨0,fun _=>⟨0,0,0,0,0,fun _=>0⟩,none,0,rfl,by omega,Or.inl rfl⟩
 ·have each:∀i,i<len→∃q:In,∃va,W.cell? (a.add (i*5))=some (.int .i64 q.op)∧W.cell? (a.add (i*5+1))=some (.int .i64 q.a)∧W.cell? (a.add (i*5+2))=some (.int .i64 q.b)∧W.cell? (a.add (i*5+3))=some (.int .i64 q.c)∧W.cell? (a.add (i*5+4))=some va∧NumsAt W.heap.size W va q.n q.z:=by
   intro i hlt
   obtain⟨cs,y,h1,h2⟩:=hi i hlt
   rw[cIns5]at h1
   obtain⟨_,hlen,hcell⟩:=World.cells?_some h1
   obtain⟨xs,k,rfl,hxy,_,hxl,hf⟩:=DataW.trod_struct Tryz.underlying84 h2
   obtain⟨y0,y1,y2,y3,y4,rfl⟩:=lenFive (l:=xs) hxl
   obtain⟨v0,v1,v2,v3,v4,rfl⟩:=lenFive hlen
   have g0:=hf 0 _ rfl
   have g1:=hf 1 _ rfl
   have g2:=hf 2 _ rfl
   have g3:=hf 3 _ rfl
   have g4:=hf 4 _ rfl
   simp[cInt1,cLInt1]at g0 g1 g2 g3 g4
   have e0:=hcell 0 (by omega)
   have e1:=hcell 1 (by omega)
   have e2:=hcell 2 (by omega)
   have e3:=hcell 3 (by omega)
   have e4:=hcell 4 (by omega)
   obtain⟨z0,q0,_,_⟩:=DataW.trod_int Tryz.underlying3 g0
   obtain⟨z1,q1,_,_⟩:=DataW.trod_int Tryz.underlying3 g1
   obtain⟨z2,q2,_,_⟩:=DataW.trod_int Tryz.underlying3 g2
   obtain⟨z3,q3,_,_⟩:=DataW.trod_int Tryz.underlying3 g3
   simp at q0 q1 q2 q3
   subst q0 q1 q2 q3
   obtain⟨m,z,hz⟩:=nums_of_trod g4
   rw[add_add]at e0 e1 e2 e3 e4
   exact⟨⟨z0,z1,z2,z3,m,z⟩,v4,by simpa using e0,by simpa using e1,by simpa using e2,by simpa using e3,by simpa using e4,hz⟩
  haveI:Inhabited In:=⟨⟨0,0,0,0,0,fun _=>0⟩⟩
  obtain⟨q,hq⟩:=pick_lt each
  refine⟨len,q,some a,cap,rfl,hl,?_⟩
  by_cases h0:len=0
  ·exact Or.inl h0
  ·right
   obtain⟨_,c0,_⟩:=hq 0 (by omega)
   have hp:=plainAt (v:=.int .i64 (q 0).op) (by simpa using c0)
   refine⟨a.block,a.off,by rw[hp],?_,fun i hlt=>?_⟩
   ·have:=cell_lt c0
    simpa[Addr.add]using this
   ·obtain⟨va,c0,c1,c2,c3,c4,s⟩:=hq i hlt
    rw[hp,add_plain]at c0 c1 c2 c3 c4
    exact⟨va,c0,c1,c2,c3,c4,s⟩
theorem procs_of_trod {fuel:Nat} {v:Value} {x:DataW H×List MemPlace} (h:DataW.trod enc Tryz.prog W base spare held fuel 22 [v]=some x):∃n P,ProcsAt W.heap.size W v n P:=by
 rcases sliceEach Tryz.underlying22 h with rfl|⟨a,len,cap,n,rfl,hl,hi⟩
 ·exact⟨0,fun _=>⟨0,0,0,fun _=>⟨0,0,0,0,0,fun _=>0⟩⟩,none,0,rfl,by omega,Or.inl rfl⟩
 ·have each:∀i,i<len→∃q:Pc,∃vc,W.cell? (a.add (i*3))=some (.int .i64 q.params)∧W.cell? (a.add (i*3+1))=some (.int .i64 q.regs)∧W.cell? (a.add (i*3+2))=some vc∧CodeAt W.heap.size W vc q.n q.ins:=by
   intro i hlt
   obtain⟨cs,y,h1,h2⟩:=hi i hlt
   rw[cProc3]at h1
   obtain⟨_,hlen,hcell⟩:=World.cells?_some h1
   obtain⟨xs,k,rfl,hxy,_,hxl,hf⟩:=DataW.trod_struct Tryz.underlying38 h2
   obtain⟨y0,y1,y2,rfl⟩:=lenThree (l:=xs) hxl
   obtain⟨v0,v1,v2,rfl⟩:=lenThree hlen
   have g0:=hf 0 _ rfl
   have g1:=hf 1 _ rfl
   have g2:=hf 2 _ rfl
   simp[cInt1,cLIns1]at g0 g1 g2
   have e0:=hcell 0 (by omega)
   have e1:=hcell 1 (by omega)
   have e2:=hcell 2 (by omega)
   obtain⟨z0,q0,_,_⟩:=DataW.trod_int Tryz.underlying3 g0
   obtain⟨z1,q1,_,_⟩:=DataW.trod_int Tryz.underlying3 g1
   simp at q0 q1
   subst q0 q1
   obtain⟨m,ins,hz⟩:=code_of_trod g2
   rw[add_add]at e0 e1 e2
   exact⟨⟨z0,z1,m,ins⟩,v2,by simpa using e0,by simpa using e1,by simpa using e2,hz⟩
  haveI:Inhabited Pc:=⟨⟨0,0,0,fun _=>⟨0,0,0,0,0,fun _=>0⟩⟩⟩
  obtain⟨q,hq⟩:=pick_lt each
  refine⟨len,q,some a,cap,rfl,hl,?_⟩
  by_cases h0:len=0
  ·exact Or.inl h0
  ·right
   obtain⟨_,c0,_⟩:=hq 0 (by omega)
   have hp:=plainAt (v:=.int .i64 (q 0).params) (by simpa using c0)
   refine⟨a.block,a.off,by rw[hp],?_,fun i hlt=>?_⟩
   ·have:=cell_lt c0
    simpa[Addr.add]using this
   ·obtain⟨vc,c0,c1,c2,s⟩:=hq i hlt
    rw[hp,add_plain]at c0 c1 c2
    exact⟨vc,c0,c1,c2,s⟩
end
end
section
open Go.ChangeShapes Go.WideShapes Go.ChangeAt Go.RowKit
structure NumsL (N:Nat) (w:World) (a:Option Addr) (c:Nat) (l:List Int):Prop where
 le:l.length≤c
 big:c≤9223372036854775807
 nil:a=none→l=[]∧c=0
 one:∀p,a=some p→l=[]∨∃b o,p=⟨b,o,none⟩∧b<N∧∀i z,l[i]?=some z→w.cell? ⟨b,o+i,none⟩=some (.int .i64 z)
 fit:∀z ∈ l,-9223372036854775808≤z∧z≤9223372036854775807
theorem NumsL.below {N:Nat} {w w':World} {a:Option Addr} {c:Nat} {l:List Int} (h:NumsL N w a c l) (hb:Below N w w'):NumsL N w' a c l:=by
 refine⟨h.le,h.big,h.nil,fun p hp=>?_,h.fit⟩
 rcases h.one p hp with h0|⟨b,o,e,hlt,hc⟩
 ·exact Or.inl h0
 ·exact Or.inr ⟨b,o,e,hlt,fun i z hi=>(hb.cell (p:=⟨b,o+i,none⟩) hlt).trans (hc i z hi)⟩
section
variable {H:Type} {enc:TypeId×Value→H} {W:World} {base:Nat} {spare:Nat→Bool} {held:Bool}
end
end
section
open Go.RowKit Go.Maps
theorem slice_toP (za:Option Addr) (n zc m:Nat) (h1:m≤zc) (h2:zc≤9223372036854775807) (ha:za=none→zc=0) (wk:World):(Instr.slice 30 (.slice za n zc) none (some (.int .i64 (m:Nat))) none).run Tryz.prog wk=.ok (.slice za m zc) wk:=by
 have hs3:∀w:World,(sizeOf 3).run Tryz.prog w=.ok 1 w:=fun w=>by kernel_rfl
 cases za with
 | none =>
  have h0:=ha rfl
  subst h0
  obtain rfl:m=0:=by omega
  simp[Instr.slice,Instr.sliceBounds,Instr.sliceBound,asIntOf,run_underlying Tryz.underlying30,hs3,go_sem]
 | some a =>
  simp[Instr.slice,Instr.sliceBounds,Instr.sliceBound,asIntOf,run_underlying Tryz.underlying30,hs3,go_sem]
  intro h;omega
theorem own_cut {B:Nat} {w:World} {a:Option Addr} {n c:Nat} {l:List Int} (h:NOwn B w (.slice a n c) l):n≤c∧c≤9223372036854775807∧(a=none→c=0):=by
 rcases id h.2 with⟨e,h0⟩|⟨g,cap,cur,e,_,_,h1,h2,_⟩
 ·injection e with e1 e2 e3
  subst e1 e2 e3
  exact⟨Nat.le_refl _,by omega,fun _=>rfl⟩
 ·injection e with e1 e2 e3
  subst e1 e2 e3
  exact⟨h1,by unfold maxLen at h2;omega,fun h=>by cases h⟩
theorem NumsIn.take {R:Nat} {w:World} {a:Option Addr} {n c:Nat} {l:List Int} (h:NumsIn R w (.slice a n c) l) (k:Nat) (hk:k≤l.length):NumsIn R w (.slice a k c) (l.take k):=by
 obtain⟨a',cap,e,h1,h2,h3⟩:=h
 injection e with e1 e2 e3
 subst e1 e3
 have hl:(l.take k).length=k:=by rw[List.length_take];omega
 refine⟨a,c,by rw[hl],by omega,by omega,?_⟩
 rcases h3 with h3|⟨b,o,hb,hR,hc⟩
 ·left;rw[h3];simp
 ·refine Or.inr ⟨b,o,hb,hR,fun i z hi=>hc i z ?_⟩
  by_cases hik:i<k
  ·rwa [List.getElem?_take_of_lt hik]at hi
  ·rw[List.getElem?_eq_none (by omega)]at hi;cases hi
set_option maxRecDepth 20000 in
set_option maxHeartbeats 4000000 in
theorem packed_core (S:Sta) (n m:Nat) (hm:(n:Int) - 1=(m:Int)) (hn:n≤2000) (w:World) (Pg PA:World→Value→Prop) (PL:World→Option Addr→Nat→Prop)
  (HPg:Hid (Calls Tryz.prog 51 #[] w fun e w'=>∃v,e=.returned v∧Hid (Pg w' v)∧Hid (Below w.heap.size w w')))
  (HCd:Hid (∀v wk,Pg wk v→Calls Tryz.prog 50 #[v] wk fun e w'=>∃a c,e=.returned (.slice a 2 c)∧Hid (PA w' (.slice a 2 c))∧Hid (Below wk.heap.size wk w')))
  (HUp:Hid (∀wk wj v,PA wk v→Below wk.heap.size wk wj→PA wj v))
  (HUpL:Hid (∀wk wj la lc,PL wk la lc→Below wk.heap.size wk wj→PL wj la lc))
  (HNw:Hid (∀a c wk,PA wk (.slice a 2 c)→Calls Tryz.prog 12 #[.slice a 2 c] wk fun e w'=>∃fa fc ca cc,e=.returned (.tuple #[.agg #[.slice fa S.fs.length fc,.slice ca S.cs.length cc,.int .i64 S.st,.int .i64 S.wh],.int .i64 0])∧Hid (StaAt w' (.slice fa S.fs.length fc) (.slice ca S.cs.length cc) S)∧Hid (Below wk.heap.size wk w')))
  (HPk:Hid (∀a c fa fc ca cc wk,PA wk (.slice a 2 c)→StaAt wk (.slice fa S.fs.length fc) (.slice ca S.cs.length cc) S→Calls Tryz.prog 31 #[.slice a 2 c,.agg #[.slice fa S.fs.length fc,.slice ca S.cs.length cc,.int .i64 S.st,.int .i64 S.wh]] wk fun e w'=>∃la lc,e=.returned (.tuple #[.slice la n lc,.int .i64 0])∧Hid (PL w' la lc)∧Hid (∀wk,(Instr.slice 30 (.slice la n lc) none (some (.int .i64 (m:Nat))) none).run Tryz.prog wk=.ok (.slice la m lc) wk)∧Hid (Below wk.heap.size wk w')))
  (HUn:Hid (∀a c la lc wk,PA wk (.slice a 2 c)→PL wk la lc→Calls Tryz.prog 32 #[.slice a 2 c,.slice la n lc] wk fun e w'=>∃fa fc ca cc,e=.returned (.tuple #[.agg #[.slice fa S.fs.length fc,.slice ca S.cs.length cc,.int .i64 S.st,.int .i64 S.wh],.int .i64 0])∧Hid (StaAt w' (.slice fa S.fs.length fc) (.slice ca S.cs.length cc) S)∧Hid (Below wk.heap.size wk w')))
  (HTo:Hid (∀a c la lc wk,PA wk (.slice a 2 c)→PL wk la lc→Calls Tryz.prog 32 #[.slice a 2 c,.slice la m lc] wk fun e w'=>∃a1 n1 c1 a2 n2 c2 z1 z2,e=.returned (.tuple #[.agg #[.slice a1 n1 c1,.slice a2 n2 c2,.int .i64 z1,.int .i64 z2],.int .i64 8])∧Hid (Below wk.heap.size wk w')))
  (HSm:Hid (∀fa fc ca cc ga gc ha hc wk,StaAt wk (.slice fa S.fs.length fc) (.slice ca S.cs.length cc) S→StaAt wk (.slice ga S.fs.length gc) (.slice ha S.cs.length hc) S→Calls Tryz.prog 18 #[.agg #[.slice fa S.fs.length fc,.slice ca S.cs.length cc,.int .i64 S.st,.int .i64 S.wh],.agg #[.slice ga S.fs.length gc,.slice ha S.cs.length hc,.int .i64 S.st,.int .i64 S.wh]] wk fun e w'=>e=.returned (.bool true)∧Below wk.heap.size wk w')) :
  Calls Tryz.prog 33 #[] w fun e w'=>e=.returned (.bool true)∧Below w.heap.size w w':=by
 have e1:max 0 (m:Int)=(m:Int):=by omega
 have hm0:(0:Int)≤(n:Int) - 1:=by omega
 go_enter Tryz.func33,Tryz.ntmps33
 go_upto_region 3 with (first
  | (go_at_call 12;refine (HNw.out _ _ _ PA2.out).mono ?_;rintro e w3 ⟨fa,fc,ca,cc,rfl,HS3,HB3⟩)
  | (go_at_call 50;refine (HCd.out _ _ PG1.out).mono ?_;rintro e w2 ⟨pa,pc,rfl,PA2,HB2⟩)
  | (go_at_call 51;refine HPg.out.mono ?_;rintro e w1 ⟨v1,rfl,PG1,HB1⟩))
 obtain⟨W,hW,b0,_,i0,i1,i2,i3⟩:=sbox w3 (.slice fa S.fs.length fc) (.slice ca S.cs.length cc) S.st S.wh
 try rw[hW]
 have HBW:Hid (Below w3.heap.size w3 W):=b0
 have HXW:Hid (∀wk,Below W.heap.size W wk→wk.cell? ⟨w3.heap.size,0,none⟩=some (.slice fa S.fs.length fc)∧wk.cell? ⟨w3.heap.size,1,none⟩=some (.slice ca S.cs.length cc)∧wk.cell? ⟨w3.heap.size,2,none⟩=some (.int .i64 S.st)∧wk.cell? ⟨w3.heap.size,3,none⟩=some (.int .i64 S.wh)):=fun wk hk=>⟨below_at hk i0,below_at hk i1,below_at hk i2,below_at hk i3⟩
 have PA3:Hid (PA W (.slice pa 2 pc)):=HUp.out _ _ _ PA2.out (below_step HB3.out HBW.out)
 have HS4:Hid (StaAt W (.slice fa S.fs.length fc) (.slice ca S.cs.length cc) S):=HS3.out.below HBW.out
 have HBa:Hid (Below w.heap.size w W):=below_step HB1.out (below_step HB2.out (below_step HB3.out HBW.out))
 clear hW b0
 go_upto_region 4 with (go_at_call 31;refine (HPk.out _ _ _ _ _ _ _ PA3.out HS4.out).mono ?_;rintro e w5 ⟨la,lc,rfl,PL5,HSl,HB5⟩)
 have hsl:=HSl.out
 have PA5:Hid (PA w5 (.slice pa 2 pc)):=HUp.out _ _ _ PA3.out HB5.out
 clear i0 i1 i2 i3
 go_upto_region 5 with (go_at_call 32;refine (HUn.out _ _ _ _ _ PA5.out PL5.out).mono ?_;rintro e w6 ⟨ga,gc,ha,hc,rfl,HS6,HB6⟩)
 obtain⟨W7,hW7,b7,_,j0,j1,j2,j3⟩:=sbox w6 (.slice ga S.fs.length gc) (.slice ha S.cs.length hc) S.st S.wh
 try rw[hW7]
 have HB7:Hid (Below w6.heap.size w6 W7):=b7
 have HB57:Hid (Below w5.heap.size w5 W7):=below_step HB6.out b7
 have PA7:Hid (PA W7 (.slice pa 2 pc)):=HUp.out _ _ _ PA5.out HB57.out
 have PL7:Hid (PL W7 la lc):=HUpL.out _ _ _ _ PL5.out HB57.out
 have HX7:Hid (∀wk,Below W7.heap.size W7 wk→(wk.cell? ⟨w3.heap.size,0,none⟩=some (.slice fa S.fs.length fc)∧wk.cell? ⟨w3.heap.size,1,none⟩=some (.slice ca S.cs.length cc)∧wk.cell? ⟨w3.heap.size,2,none⟩=some (.int .i64 S.st)∧wk.cell? ⟨w3.heap.size,3,none⟩=some (.int .i64 S.wh))∧wk.cell? ⟨w6.heap.size,0,none⟩=some (.slice ga S.fs.length gc)∧wk.cell? ⟨w6.heap.size,1,none⟩=some (.slice ha S.cs.length hc)∧wk.cell? ⟨w6.heap.size,2,none⟩=some (.int .i64 S.st)∧wk.cell? ⟨w6.heap.size,3,none⟩=some (.int .i64 S.wh)):=fun wk hk=>⟨HXW.out wk (below_step HB5.out (below_step HB57.out hk)),below_at hk j0,below_at hk j1,below_at hk j2,below_at hk j3⟩
 have HSA:Hid (StaAt W7 (.slice fa S.fs.length fc) (.slice ca S.cs.length cc) S):=HS4.out.below (below_step HB5.out HB57.out)
 have HSB:Hid (StaAt W7 (.slice ga S.fs.length gc) (.slice ha S.cs.length hc) S):=HS6.out.below b7
 clear hW7 b7 j0 j1 j2 j3
 go_upto_region 6 with (go_at_call 32;refine (HTo.out _ _ _ _ _ PA7.out PL7.out).mono ?_;rintro e w8 ⟨a1,n1,c1,a2,n2,c2,z1,z2,rfl,HB8⟩)
 obtain⟨W9,hW9⟩:∃W9,w8.alloc (.cells #[.slice a1 n1 c1,.slice a2 n2 c2,.int .i64 z1,.int .i64 z2] 26)=W9:=⟨_,rfl⟩
 try rw[hW9]
 have HB9:Hid (Below W7.heap.size W7 W9):=below_step HB8.out (hW9 ▸ below_alloc w8 _)
 clear hW9 hsl
 obtain⟨⟨k0,k1,k2,k3⟩,l0,l1,l2,l3⟩:=HX7.out W9 HB9.out
 go_wp2_with (go_at_call 18;refine (HSm.out _ _ _ _ _ _ _ _ _ (HSA.out.below HB9.out) (HSB.out.below HB9.out)).mono ?_;rintro e w10 ⟨rfl,hb10⟩)
 go_ret
 exact⟨rfl,below_step HBa.out (below_step HB5.out (below_step HB57.out (below_step HB9.out hb10)))⟩
theorem cnt_new:vmErr 2 cntP (newS cntP)=0:=by decide +kernel
theorem cnt_newSw:eqSt (newS cntP) (sweptS (newS cntP))=true:=by decide +kernel
theorem packed (N:Nat) (w:World) (hN:N≤w.heap.size) (he:Env N w) (hsp:Spc N w):Calls Tryz.prog 33 #[] w fun e w'=>e=.returned (.bool true)∧Below w.heap.size w w':=by
 obtain⟨hc,ok,hce⟩:=vmErr_right cnt_new
 have hsw:sweptS (newS cntP)=newS cntP:=(eqSt_iff.1 cnt_newSw).symm
 have hz:=staZs_len (ok.small hc)
 have hpos:0<(staZs (newS cntP)).length:=by unfold staZs;simp
 obtain⟨u0,u1⟩:=unp_image hc hce ok
 rw[hsw]at u0 u1
 refine packed_core (newS cntP) (staZs (newS cntP)).length ((staZs (newS cntP)).length - 1) (by omega) (by omega) w (RqAt 6 (bs countsL)) (fun wk v=>∃M,M≤wk.heap.size∧ProcsAt M wk v 2 cntP) (fun wk la lc=>∃B,NOwn B wk (.slice la (staZs (newS cntP)).length lc) (staZs (newS cntP)))
  (programC N w hN he hsp) (fun v wk h=>?_) (fun wk wj v ⟨M,hM,h⟩ hb=>⟨M,Nat.le_trans hM hb.size,h.below (hb.mono hM)⟩) (fun wk wj la lc ⟨B,h⟩ hb=>⟨B,h.below hb⟩)
  (fun a c wk ⟨M,hM,h⟩=>?_) (fun a c fa fc ca cc wk ⟨M,hM,h⟩ hs=>?_) (fun a c la lc wk ⟨M,hM,h⟩ ⟨B,hl⟩=>?_) (fun a c la lc wk ⟨M,hM,h⟩ ⟨B,hl⟩=>?_) (fun fa fc ca cc ga gc ha hc wk h1 h2=>?_)
 ·refine (codedCnt v wk h).mono ?_
  rintro e w' ⟨a,c,rfl,h1,h2⟩
  exact⟨a,c,rfl,⟨_,Nat.le_refl _,h1.out⟩,h2⟩
 ·refine (newK M _ wk hM h cnt_right).mono ?_
  rintro e w' ⟨fa,fc,ca,cc,rfl,h1,h2⟩
  exact⟨fa,fc,ca,cc,rfl,h1.out.at hc ok,h2⟩
 ·have:=packP M _ _ _ (newS cntP) wk hM h hs cnt_new
  rw[hsw]at this
  refine this.mono ?_
  rintro e w' ⟨la,lc,rfl,h1,h2⟩
  obtain⟨k1,k2,k3⟩:=own_cut h1.out
  exact⟨la,lc,rfl,⟨_,h1.out⟩,slice_toP la _ lc _ (by omega) k2 k3,h2⟩
 ·have:=unpackC M _ la lc (staZs (newS cntP)) wk hM h (fun _=>hl.numsIn (by omega))
  rw[u0,u1]at this
  refine this.mono ?_
  rintro e w' ⟨fa,fc,ca,cc,rfl,h1,h2⟩
  exact⟨fa,fc,ca,cc,rfl,h1.out.at hc ok,h2⟩
 ·have ht:=unp_less hc ok (k:=(staZs (newS cntP)).length - 1) (by rw[hsw];omega)
  rw[hsw]at ht
  have hln:((staZs (newS cntP)).take ((staZs (newS cntP)).length - 1)).length=(staZs (newS cntP)).length - 1:=by rw[List.length_take];omega
  have hin:=(hl.numsIn (by omega)).take ((staZs (newS cntP)).length - 1) (by omega)
  have:=unpackC M _ la lc ((staZs (newS cntP)).take ((staZs (newS cntP)).length - 1)) wk hM h (fun _=>by rw[hln];exact hin)
  rw[hln,ht]at this
  refine this.mono ?_
  rintro e w' ⟨fa,fc,ca,cc,rfl,_,h2⟩
  exact⟨_,_,_,_,_,_,_,_,rfl,h2⟩
 ·have:=vmSame (newS cntP) (newS cntP) _ _ _ _ wk h1 h2
  rw[eqSt_iff.2 rfl]at this
  exact this
set_option maxHeartbeats 1000000 in
theorem lawAt (k:Int) (n:Nat) (h0:0<n) (hn:n≤1000000) (w:World):Calls Tryz.prog 25 #[.int .i64 k,.int .i64 n] w fun e w'=>e=.returned (.int .i64 (k % (n:Int)))∧w'=w:=by
 have b1:k.tmod (n:Int)<(n:Int):=Int.tmod_lt_of_pos k (by omega)
 have b2 : -(n:Int)<k.tmod (n:Int):=by
  have:=Int.tmod_lt_of_pos (-k) (b:=(n:Int)) (by omega)
  rw[Int.neg_tmod]at this
  omega
 have hne:¬(n:Int)=0:=by omega
 have e:=Int.emod_eq_tmod (a:=k) (b:=(n:Int))
 have e2:=Int.emod_nonneg k hne
 have e3:=Int.emod_lt_of_pos k (b:=(n:Int)) (by omega)
 obtain⟨t,ht⟩:∃t,k.tmod (n:Int)=t:=⟨_,rfl⟩
 have key:k % (n:Int)=if t<0 then t+n else t:=by
  have h1:(n:Int) ∣ k - t:=by rw[←ht];exact Int.dvd_self_sub_tmod
  have h2:(n:Int) ∣ k - k % (n:Int):=Int.dvd_self_sub_emod
  have h3:(n:Int) ∣ (k % (n:Int)) - t:=by
   have:=Int.dvd_sub h1 h2
   rwa [show k - t - (k - k % (n:Int))=k % (n:Int) - t by omega]at this
  obtain⟨c,hc⟩:=h3
  rw[ht]at b1 b2
  have hc2:c=0∨c=1:=by
   have hp:(n:Int)*c<n*2:=by omega
   have hq:(n:Int)*(-1)<n*c:=by omega
   have:=Int.lt_of_mul_lt_mul_left hp (by omega)
   have:=Int.lt_of_mul_lt_mul_left hq (by omega)
   omega
  split
  ·rcases hc2 with rfl|rfl<;>omega
  ·rcases hc2 with rfl|rfl<;>omega
 have KEY:Hid (k % (n:Int)=if t<0 then t+n else t):=key
 clear key e e2 e3
 rw[ht]at b1 b2
 by_cases h:t<0
 ·go_enter Tryz.func25,Tryz.ntmps25
  go_wp2
  go_ret
  refine⟨?_,rfl⟩
  rw[KEY.out,if_pos (by omega)]
  rfl
 ·go_enter Tryz.func25,Tryz.ntmps25
  go_wp2
  go_ret
  refine⟨?_,rfl⟩
  rw[KEY.out,if_neg (by omega)]
  rfl
end
section
open Go.Shelf
end
section
open Go.RowKit Go.Maps
def TrueC (k:FuncId) (w:World):Prop:=∀wk,Below w.heap.size w wk→Calls Tryz.prog k #[] wk fun e w'=>e=.returned (.bool true)∧Below wk.heap.size wk w'
theorem TrueC.up {k:FuncId} {w w':World} (h:TrueC k w) (hb:Below w.heap.size w w'):TrueC k w':=fun wk hk=>h wk (below_step hb hk)
end
section
end
section
open Go.RowKit Go.Maps
def StaGood (np:Nat) (P:Nat→Pc) (S:Sta):Prop:=CodeOK np P∧StaOK np P S∧codeErr np P=0
theorem StaGood.err {np:Nat} {P:Nat→Pc} {S:Sta} (h:StaGood np P S):vmErr np P S=0:=by unfold vmErr;rw[if_pos h.2.2];exact staErr_zero.2 h.2.1
theorem StaGood.run {np:Nat} {P:Nat→Pc} {S:Sta} (h:StaGood np P S) (h0:S.st=0) {f:Nat} (hf:f≤2000):runErr np P S f=0:=by
 unfold runErr
 rw[if_pos h.err,if_neg (by omega),if_pos h0]
end
end Go.Proofs.YtfaokaohhchdhaaGreatDoor
