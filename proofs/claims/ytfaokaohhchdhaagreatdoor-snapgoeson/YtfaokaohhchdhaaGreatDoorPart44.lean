/- CheckSource of the reckoning beside the program: the same error as Check's. -/
import Derived.Test.YtfaokaohhchdhaaGreatDoorSized
import Derived.Test.YtfaokaohhchdhaaGreatDoorQBlock
import Derived.Laws.EntriesVeiled
namespace Go.Proofs.YtfaokaohhchdhaaGreatDoor
section
open Go.RowKit
theorem bodyErr_ref {nf:Nat} {par:Nat→Int} {locals:Int} {d:Nat} {T:SL}:bodyErr nf par locals d T=if fineB d T 4=true then errs (stErr nf par locals) d T else 2:=by
 unfold bodyErr fineB
 by_cases h:(wk look1 d T 1 0).1=0
 ·rw[if_pos h,if_pos (by rw[beq_iff_eq];exact h)]
 ·rw[if_neg h,if_neg (by rw[beq_iff_eq];exact h)]
set_option maxHeartbeats 4000000 in
theorem refCheck (N:Nat) (f:Value) (nf:Nat) (par loc:Nat→Int) (bv:Nat→Value) (d:Nat) (body:Nat→SL) (w:World) (hN:N≤w.heap.size) (hf:FunsAt N w f nf par loc bv) (hs:∀i,i<nf→StmtsAt N w d (bv i) (body i)) (hk:∀i,i<nf→kindsFit d (body i)) :
  Calls Tryz.prog 152 #[f] w fun e w'=>e=.returned (.int .i64 (progErr nf par loc d body))∧Below w.heap.size w w':=by
 have hf0:=hf
 obtain⟨af,capf,rfl,hnf,hf⟩:=hf
 by_cases hn1:1≤(nf:Int)∧(nf:Int)≤4
 rotate_left
 ·have HE:Hid (progErr nf par loc d body=2):=progErr_many (by omega)
  have hx:decide (1≤(nf:Int)∧(nf:Int)≤4)=false:=by simpa using hn1
  clear hn1
  go_enter Tryz.func152,Tryz.ntmps152
  go_wp2_with (go_at_call 48;refine (inRange _ _ _ _).mono ?_;rw[hx];rintro e w1 ⟨rfl,rfl⟩)
  go_ret
  exact⟨ret_num HE.out.symm,Below.refl _ _⟩
 have hx:decide (1≤(nf:Int)∧(nf:Int)≤4)=true:=by simpa using hn1
 have HB:Hid (¬(nf<1∨4<nf)):=by
  show ¬(nf<1∨4<nf)
  omega
 clear hn1
 go_enter Tryz.func152,Tryz.ntmps152
 go_wp2_with (go_at_call 48;refine (inRange _ _ _ _).mono ?_;rw[hx];rintro e w1 ⟨rfl,h1⟩;rw[h1];clear h1)
 clear hx
 go_loopw [16] (fun i wr=>∃j:Nat,j≤nf∧i=.int .i64 j∧Below w.heap.size w wr∧Hid (∀x,x<j→headErr x (par x) (loc x)=0)) (fun i _=>nf - (intOf i).toNat)
 case atStart=>exact⟨0,Nat.zero_le _,rfl,Below.refl _ _,fun j hj=>absurd hj (Nat.not_lt_zero _)⟩
 case round =>
  obtain⟨j,hj,rfl,hb,hall⟩:=hrel
  by_cases hlt:j<nf
  ·rcases hf with hf|⟨p,o,rfl,hp,g⟩
   ·omega
   obtain⟨q0,q1,q2,ba,bm,bc,eb⟩:=g j hlt
   have hp':p<w.heap.size:=by omega
   rw[eb]at q2
   rw[←hb.cell hp']at q0 q1 q2
   clear g
   have hz:=hb.size
   by_cases he:headErr j (par j) (loc j)=0
   ·obtain⟨e0,e1,e2,e3,e4⟩:=headErr_good he
    have HE:Hid (headErr j (par j) (loc j)=0):=he
    have x1:decide (0≤par j∧par j≤3)=true:=by simp;omega
    have x2:decide (par j≤loc j∧loc j≤6)=true:=by simp;omega
    by_cases hj0:j=0
    ·have hj1:((j:Int) == 0)=true:=by simp[hj0]
     have hj2:(par j != 0)=false:=by have:=e4 hj0;simp;omega
     clear e0 e1 e2 e3 e4 hj0 he
     go_wp2_with (go_at_call 48;refine (inRange _ _ _ _).mono ?_;first|(rw[x1];rintro e w1 ⟨rfl,h1⟩;rw[h1];clear h1)|(rw[x2];rintro e w1 ⟨rfl,h1⟩;rw[h1];clear h1))
     go_roundw
     case rel=>exact⟨j+1,by omega,by go_num,hb.alloc hz _,upTo hall.out HE.out⟩
     case measure=>simp[intOf];omega
    ·have hj1:((j:Int) == 0)=false:=by simp[hj0]
     clear e0 e1 e2 e3 e4 hj0 he
     go_wp2_with (go_at_call 48;refine (inRange _ _ _ _).mono ?_;first|(rw[x1];rintro e w1 ⟨rfl,h1⟩;rw[h1];clear h1)|(rw[x2];rintro e w1 ⟨rfl,h1⟩;rw[h1];clear h1))
     go_roundw
     case rel=>exact⟨j+1,by omega,by go_num,hb.alloc hz _,upTo hall.out HE.out⟩
     case measure=>simp[intOf];omega
   ·have HE:Hid (progErr nf par loc d body=3):=progErr_head HB.out hlt he
    have he':=headErr_ways he
    by_cases g1:0≤par j∧par j≤3
    ·have x1:decide (0≤par j∧par j≤3)=true:=by simpa using g1
     by_cases g2:par j≤loc j∧loc j≤6
     ·have x2:decide (par j≤loc j∧loc j≤6)=true:=by simpa using g2
      have hj1:((j:Int) == 0)=true:=by simp;omega
      have hj2:(par j != 0)=true:=by simp;omega
      clear g1 g2 he he'
      go_wp2_with (go_at_call 48;refine (inRange _ _ _ _).mono ?_;first|(rw[x1];rintro e w1 ⟨rfl,h1⟩;rw[h1];clear h1)|(rw[x2];rintro e w1 ⟨rfl,h1⟩;rw[h1];clear h1))
      go_ret
      exact⟨ret_num HE.out.symm,hb.alloc hz _⟩
     ·have x2:decide (par j≤loc j∧loc j≤6)=false:=by simpa using g2
      clear g1 g2 he he'
      go_wp2_with (go_at_call 48;refine (inRange _ _ _ _).mono ?_;first|(rw[x1];rintro e w1 ⟨rfl,h1⟩;rw[h1];clear h1)|(rw[x2];rintro e w1 ⟨rfl,h1⟩;rw[h1];clear h1))
      go_ret
      exact⟨ret_num HE.out.symm,hb.alloc hz _⟩
    ·have x1:decide (0≤par j∧par j≤3)=false:=by simpa using g1
     clear g1 he he'
     go_wp2_with (go_at_call 48;refine (inRange _ _ _ _).mono ?_;rw[x1];rintro e w1 ⟨rfl,h1⟩;rw[h1];clear h1)
     go_ret
     exact⟨ret_num HE.out.symm,hb.alloc hz _⟩
  ·obtain rfl:j=nf:=by omega
   have HP:Hid (progErr j par loc d body=firstErr j (fun i=>bodyErr j par (loc i) d (body i))):=progErr_body HB.out hall.out
   go_wp2_with fail
   go_loopw [45] (fun i wr=>∃x:Nat,x≤j∧i=.int .i64 x∧Below w.heap.size w wr∧Hid (∀y,y<x→bodyErr j par (loc y) d (body y)=0)) (fun i _=>j - (intOf i).toNat)
   case atStart=>exact⟨0,Nat.zero_le _,rfl,hb,fun j hj=>absurd hj (Nat.not_lt_zero _)⟩
   case round =>
    clear hb
    obtain⟨x,hx,rfl,hb,hin⟩:=hrel
    by_cases hxlt:x<j
    ·rcases hf with hf|⟨p,o,rfl,hp,g⟩
     ·omega
     obtain⟨q0,q1,q2,_⟩:=g x hxlt
     have hp':p<w.heap.size:=by omega
     rw[←hb.cell hp']at q0 q1 q2
     clear g
     have hNr:N≤wr.heap.size:=Nat.le_trans hN hb.size
     have hst:=(hs x hxlt).below (hb.mono hN)
     have hst':=hst
     obtain⟨ba,bc,eb,_⟩:=hst'.shape
     rw[eb]at q2 hst
     have hfn:=hf0.below (hb.mono hN)
     have hkx:=hk x hxlt
     have HN1:Hid (∀o:Obj,N≤(wr.alloc o).heap.size):=fun o=>Nat.le_trans hNr (below_alloc _ _).size
     have HT:Hid (∀o:Obj,StmtsAt N (wr.alloc o) d (.slice ba (body x).len bc) (body x)):=fun o=>hst.below ((below_alloc _ _).mono hNr)
     have HR:Hid (bodyErr j par (loc x) d (body x)=if fineB d (body x) 4=true then errs (stErr j par (loc x)) d (body x) else 2):=bodyErr_ref
     have HSz:Hid (∀ob:Obj,Calls Tryz.prog 185 #[.slice ba (body x).len bc,.int .i64 4] (wr.alloc ob) fun e w'=>e=.returned (.tuple #[.int .i64 (sizeR d (body x) 4),.bool (fineB d (body x) 4)])∧Below (wr.alloc ob).heap.size (wr.alloc ob) w'):=fun ob =>
      sized N d _ (body x) 4 _ (HN1.out ob) (HT.out ob) (Or.inl (by decide)) (by decide)
     have HCk:Hid (∀w1,Below wr.heap.size wr w1→Calls Tryz.prog 186 #[.slice ba (body x).len bc,.slice (some ⟨p,o,none⟩) j capf,.int .i64 (loc x)] w1 fun e w'=>e=.returned (.int .i64 (errs (stErr j par (loc x)) d (body x)))∧Below w1.heap.size w1 w'):=fun w1 hb1 =>
      refStmts N _ j par loc bv (loc x) d _ (body x) w1 (Nat.le_trans hNr hb1.size) (hst.below (hb1.mono hNr)) hkx (hfn.below (hb1.mono hNr))
     by_cases hfi:fineB d (body x) 4=true
     ·rw[hfi]at HSz
      have HR2:Hid (bodyErr j par (loc x) d (body x)=errs (stErr j par (loc x)) d (body x)):=HR.out.trans (if_pos hfi)
      clear hfi
      by_cases he:errs (stErr j par (loc x)) d (body x)=0
      ·rw[he]at HCk
       have HZ:Hid (bodyErr j par (loc x) d (body x)=0):=HR2.out.trans he
       clear he
       go_wp2_with (first
        | (go_at_call 186;refine (HCk.out _ (below_step (below_alloc _ _) hb1)).mono ?_;rintro e w2 ⟨rfl,hb2⟩)
        | (go_at_call 185;refine (HSz.out _).mono ?_;rintro e w1 ⟨rfl,hb1⟩;have m1:=box_in hb1 1 rfl;have m2:=box_in hb1 2 rfl))
       go_roundw
       case rel=>exact⟨x+1,by omega,by go_num,below_step hb (below_step (below_step (below_alloc _ _) hb1) hb2),upTo hin.out HZ.out⟩
       case measure=>simp[intOf];omega
      ·have het:(errs (stErr j par (loc x)) d (body x) != 0)=true:=by simp[he]
       have HE:Hid (progErr j par loc d body=errs (stErr j par (loc x)) d (body x)):=(HP.out.trans (firstErr_at hin.out (by rw[HR2.out];exact he) hxlt)).trans HR2.out
       clear he
       go_wp2_with (first
        | (go_at_call 186;refine (HCk.out _ (below_step (below_alloc _ _) hb1)).mono ?_;rintro e w2 ⟨rfl,hb2⟩)
        | (go_at_call 185;refine (HSz.out _).mono ?_;rintro e w1 ⟨rfl,hb1⟩;have m1:=box_in hb1 1 rfl;have m2:=box_in hb1 2 rfl))
       go_ret
       exact⟨ret_num HE.out.symm,below_step hb (below_step (below_step (below_alloc _ _) hb1) hb2)⟩
     ·have hfi':fineB d (body x) 4=false:=by simpa using hfi
      rw[hfi']at HSz
      have HR2:bodyErr j par (loc x) d (body x)=2:=HR.out.trans (if_neg hfi)
      have HE:Hid (progErr j par loc d body=2):=(HP.out.trans (firstErr_at hin.out (by rw[HR2];decide) hxlt)).trans HR2
      clear hfi hfi' HR2
      go_wp2_with (go_at_call 185;refine (HSz.out _).mono ?_;rintro e w1 ⟨rfl,hb1⟩)
      go_ret
      exact⟨ret_num HE.out.symm,below_step hb (below_step (below_alloc _ _) hb1)⟩
    ·obtain rfl:x=j:=by omega
     have HE:Hid (progErr x par loc d body=0):=HP.out.trans (firstErr_zero hin.out)
     go_wp2_with fail
     go_ret
     exact⟨ret_num HE.out.symm,hb⟩
end
section
open Go.RowKit Go.Maps
def FunsOwn (B X:Nat) (w:World) (fv:Value) (nf:Nat) (par loc:Nat→Int) (bv:Nat→Value):Prop :=
 ∃a cap,fv=.slice a nf cap∧nf≤100000∧(nf=0∨∃g cur,a=some ⟨g,0,none⟩∧B≤g∧g<X∧w.heap[g]?=some (.cells cur 111 (0,0))∧∀i,i<nf→cur[i*3]?=some (.int .i64 (par i))∧cur[i*3+1]?=some (.int .i64 (loc i))∧cur[i*3+2]?=some (bv i))
theorem FS.own3 {B:Nat} {w:World} {v:Value} {l:List (Int×Int)} (h:FS B w v l) (hl:l.length≤100000):FunsOwn B w.heap.size w v l.length (fun i=>(l.getD i (0,0)).1) (fun i=>(l.getD i (0,0)).2) (fun _ => .slice none 0 0):=by
 rcases h.2 with⟨rfl,h0⟩|⟨g,cap,cur,rfl,hb,hg,hr⟩
 ·exact⟨none,0,by rw[h0],hl,Or.inl h0⟩
 ·refine⟨_,cap,rfl,hl,Or.inr ⟨g,cur,rfl,hb,(Array.getElem?_eq_some_iff.1 hg).1,hg,fun i hi=>?_⟩⟩
  have e:∀t,t<l.length*3→cur[t]?=(flatFh l)[t]?:=fun t ht=>by
   have:=h.cellAt t ht
   unfold World.cell? at this
   rw[hg]at this
   exact this
  obtain⟨e1,e2,e3⟩:=flatFh_at l i hi
  rw[e _ (by omega),e _ (by omega),e _ (by omega),e1,e2,e3]
  exact⟨rfl,rfl,rfl⟩
theorem FunsOwn.keep {B X:Nat} {w w':World} {fv:Value} {nf:Nat} {par loc:Nat→Int} {bv:Nat→Value} (h:FunsOwn B X w fv nf par loc bv) (hs:∀k,k<X→w'.heap[k]?=w.heap[k]?):FunsOwn B X w' fv nf par loc bv:=by
 obtain⟨a,cap,rfl,hn,h|⟨g,cur,rfl,hB,hX,hg,hc⟩⟩:=h
 ·exact⟨a,cap,rfl,hn,Or.inl h⟩
 ·exact⟨_,cap,rfl,hn,Or.inr ⟨g,cur,rfl,hB,hX,by rw[hs g hX];exact hg,hc⟩⟩
def putB (bv:Nat→Value) (j:Nat) (v:Value) (i:Nat):Value:=if i=j then v else bv i
theorem FunsOwn.put {B X g cap:Nat} {w:World} {nf:Nat} {par loc:Nat→Int} {bv:Nat→Value} (h:FunsOwn B X w (.slice (some ⟨g,0,none⟩) nf cap) nf par loc bv) {j:Nat} (hj:j<nf) (v:Value) :
  FunsOwn B X (w.setCell ⟨g,j*3+2,none⟩ v) (.slice (some ⟨g,0,none⟩) nf cap) nf par loc (putB bv j v)∧w.cell? ⟨g,j*3+2,none⟩=some (bv j)∧w.frozen? ⟨g,j*3+2,none⟩=false∧B≤g∧g<X:=by
 obtain⟨a,cap',e,hn,h|⟨g',cur,rfl,hB,hgX,hg,hc⟩⟩:=h
 ·omega
 cases e
 refine⟨⟨_,cap,rfl,hn,Or.inr ⟨g,_,rfl,hB,hgX,heap_setCell_same w g (j*3+2) cur _ v hg,fun i hi=>?_⟩⟩,?_,?_,hB,hgX⟩
 ·obtain⟨c0,c1,c2⟩:=hc i hi
  have hsz:j*3+2<cur.size:=by
   obtain⟨hx,_⟩:=Array.getElem?_eq_some_iff.1 (hc j hj).2.2
   exact hx
  rw[Array.getElem?_setIfInBounds,Array.getElem?_setIfInBounds,Array.getElem?_setIfInBounds,if_neg (by omega),if_neg (by omega)]
  refine⟨c0,c1,?_⟩
  unfold putB
  by_cases e:i=j
  ·subst e;rw[if_pos rfl,if_pos hsz,if_pos rfl]
  ·rw[if_neg (by omega),if_neg e];exact c2
 ·unfold World.cell?;rw[hg];exact (hc j hj).2.2
 ·unfold World.frozen?;rw[hg];simp
theorem split_small (sep:ByteArray):∀(k:Nat) (s:ByteArray),∀x ∈ Lib.splitB sep 0 k s,x.size≤s.size
 | 0,s,x,hx=>by
  rw[Lib.splitB_zero,List.mem_singleton]at hx
  subst hx;exact Nat.le_refl _
 | k+1,s,x,hx=>by
  unfold Lib.splitB at hx
  split at hx
  ·rw[List.mem_singleton]at hx;subst hx;exact Nat.le_refl _
  ·rw[List.mem_cons]at hx
   rcases hx with rfl|hx
   ·rw[ByteArray.size_extract];omega
   ·have:=split_small sep k _ x hx
    rw[ByteArray.size_extract]at this
    omega
theorem wordsOf_len (s:ByteArray):(wordsOf s).length=Lib.countB s (bs [32])+1:=Lib.splitB_all (bs [32]) (Nat.le_refl _) 0 _ s rfl
theorem wordsOf_max (s:ByteArray):(wordsOf s).length≤s.size+1:=by
 rw[wordsOf_len]
 have:=Lib.countB_le (bs [32]) (Nat.le_refl _) s.size s (Nat.le_refl _)
 omega
theorem wordsOf_small (s:ByteArray):∀x ∈ wordsOf s,x.size≤s.size:=split_small (bs [32]) _ s
theorem split_run (N:Nat) (s:ByteArray) (hs:s.size≤60000) (w:World) (he:Env N w) :
  Calls Tryz.prog 89 #[.string s,.string (bs [32])] w fun e w'=>e=.returned (.slice (some ⟨w.heap.size,0,none⟩) (wordsOf s).length (wordsOf s).length)∧w'=w.alloc (.cells ((wordsOf s).map Value.string).toArray 9):=by
 obtain⟨m,hm⟩:=he.max
 rw[wordsOf_len]
 exact Tryz.strings_Split s (bs [32]) m w (by omega) hm (Nat.le_refl _)
def rqGood (D:Nat) (s:ByteArray):Prop :=
 (1≤rqN (wordsOf s)∧rqN (wordsOf s)≤4)∧(∀i,i<rqN (wordsOf s)→parErr (rqP (wordsOf s) i)=0)∧rqLeft (wordsOf s)=([],true) ∧
  progErr (rqN (wordsOf s)) (rqP (wordsOf s)) (rqL (wordsOf s)) D (rqB (wordsOf s))=0∧bs (textL (progW (rqN (wordsOf s)) (rqP (wordsOf s)) (rqL (wordsOf s)) D (rqB (wordsOf s))))=s
def RqAt (D:Nat) (s:ByteArray) (w:World) (v:Value):Prop :=
 ∃bv,FunsAt w.heap.size w v (rqN (wordsOf s)) (rqP (wordsOf s)) (rqL (wordsOf s)) bv∧∀i,i<rqN (wordsOf s)→StmtsAt w.heap.size w D (bv i) (rqB (wordsOf s) i)
structure HdS (X:Nat) (wS wi:World) (v:Value) (acc:List (Int×Int)):Prop where
 fs:FS (X+1) wi v acc
 cell:wi.heap[X]?=some (.cells #[v] 51 (0,0))
 low:Below X wS wi
theorem HdS.lt {X:Nat} {wS wi:World} {v:Value} {acc:List (Int×Int)} (h:HdS X wS wi v acc):X<wi.heap.size:=(Array.getElem?_eq_some_iff.1 h.cell).1
theorem HdS.keep {X:Nat} {wS wi w':World} {v:Value} {acc:List (Int×Int)} (h:HdS X wS wi v acc) (hb:Below wi.heap.size wi w'):HdS X wS w' v acc :=
 ⟨h.fs.below hb (fun k hk=>(h.fs.own k hk).2),by rw[hb.block _ h.lt];exact h.cell,h.low.trans (hb.mono (by have:=h.lt;omega))⟩
theorem HdS.c0 {X:Nat} {wS wi:World} {v:Value} {acc:List (Int×Int)} (h:HdS X wS wi v acc):wi.cell? ⟨X,0,none⟩=some v∧wi.frozen? ⟨X,0,none⟩=false:=by
 constructor
 ·unfold World.cell?;rw[h.cell];rfl
 ·unfold World.frozen?;rw[h.cell];rfl
theorem HdS.grown {X:Nat} {wS wi w':World} {v v':Value} {acc:List (Int×Int)} (h:HdS X wS wi v acc) (hg:Grow wi v w' v'):w'.heap[X]?=some (.cells #[v] 51 (0,0))∧Below X wS w'∧w'.cell? ⟨X,0,none⟩=some v∧w'.frozen? ⟨X,0,none⟩=false:=by
 have hlt:=h.lt
 have hlow:Below (X+1) wi w':=hg.low (fun k hk=>(h.fs.own k hk).1) hlt
 have hc:w'.heap[X]?=some (.cells #[v] 51 (0,0)):=by rw[hlow.block _ (by omega)];exact h.cell
 refine⟨hc,h.low.trans (hlow.mono (by omega)),?_,?_⟩
 ·unfold World.cell?;rw[hc];rfl
 ·unfold World.frozen?;rw[hc];rfl
theorem HdS.put {X:Nat} {wS wi w':World} {v v':Value} {acc:List (Int×Int)} {p l:Int} (h:HdS X wS wi v acc) (hf:FS (X+1) w' v' (acc++[(p,l)])) (hg:Grow wi v w' v'):HdS X wS (w'.setCell ⟨X,0,none⟩ v') v' (acc++[(p,l)]):=by
 obtain⟨hc,hlow,_,_⟩:=h.grown hg
 have hb:Below X w' (w'.setCell ⟨X,0,none⟩ v'):=(Below.refl X w').setCell (Nat.le_refl X) v'
 refine⟨?_,by rw[heap_setCell_same w' X 0 _ _ v' hc];rfl,hlow.trans hb⟩
 refine⟨hf.1,?_⟩
 rcases hf.2 with⟨rfl,h0⟩|⟨g,cap,cur,rfl,h1,h2,h3⟩
 ·exact Or.inl ⟨rfl,h0⟩
 ·exact Or.inr ⟨g,cap,cur,rfl,h1,by rw[Below.heap_setCell w' ⟨X,0,none⟩ _ g (by show ¬g=X;omega)];exact h2,h3⟩
theorem headsQ_hit {ws:List Wd} {j:Nat} {x:Wd} (hx:ws[j]?=some x) (hf:x=funW) (hl:j+2<ws.length):headsQ (ws.drop j)=(numR (ws.drop (j+1)),numR (ws.drop (j+1)).tail)::headsQ (ws.drop (j+1)):=by
 obtain⟨y,hy,hd⟩:=drop_cons (ws:=ws) (j:=j) (by omega)
 rw[hx]at hy;injection hy with hy;subst hy
 rw[hd,headsQ,if_pos ⟨hf,by rw[List.length_drop];omega⟩]
theorem headsQ_miss {ws:List Wd} {j:Nat} {x:Wd} (hx:ws[j]?=some x) (hf:¬(x=funW∧j+2<ws.length)):headsQ (ws.drop j)=headsQ (ws.drop (j+1)):=by
 have hlt:j<ws.length:=(List.getElem?_eq_some_iff.1 hx).1
 obtain⟨y,hy,hd⟩:=drop_cons (ws:=ws) (j:=j) hlt
 rw[hx]at hy;injection hy with hy;subst hy
 rw[hd,headsQ,if_neg fun h=>hf ⟨h.1,by have:=h.2;rw[List.length_drop]at this;omega⟩]
theorem numR_at {ws:List Wd} {j:Nat} {x:Wd} (hx:ws[j]?=some x):numR (ws.drop j)=atoiV x.data.toList:=by
 have hlt:j<ws.length:=(List.getElem?_eq_some_iff.1 hx).1
 obtain⟨y,hy,hd⟩:=drop_cons (ws:=ws) (j:=j) hlt
 rw[hx]at hy;injection hy with hy;subst hy
 rw[hd];rfl
theorem FunsOwn.cells {B X g cap:Nat} {w:World} {nf:Nat} {par loc:Nat→Int} {bv:Nat→Value} (h:FunsOwn B X w (.slice (some ⟨g,0,none⟩) nf cap) nf par loc bv) {i:Nat} (hi:i<nf) :
  w.cell? ⟨g,i*3,none⟩=some (.int .i64 (par i))∧w.cell? ⟨g,i*3+1,none⟩=some (.int .i64 (loc i))∧w.cell? ⟨g,i*3+2,none⟩=some (bv i)∧B≤g∧g<X:=by
 obtain⟨a,cap',e,hn,h|⟨g',cur,rfl,hB,hgX,hg,hc⟩⟩:=h
 ·omega
 cases e
 obtain⟨c0,c1,c2⟩:=hc i hi
 refine⟨?_,?_,?_,hB,hgX⟩
 ·unfold World.cell?;rw[hg];exact c0
 ·unfold World.cell?;rw[hg];exact c1
 ·unfold World.cell?;rw[hg];exact c2
theorem Spc.up {N M:Nat} {w:World} (h:Spc N w) (hm:N≤M):Spc M w:=⟨Nat.le_trans h.low hm,h.tab⟩
def qcOf (N A wb x4 x5:Nat) (W:List Wd) (fv:Value) (nf:Nat) (par:Nat→Int):QC:=⟨N,A,wb,x4,x5,A+1+1,A+1+1+1,A+1+1+1+1,W,fv,nf,par⟩
def qcW (wr:World) (x4 x5:Nat):World :=
 ((((wr.alloc (.cells #[.int .i64 0] 3)).alloc (.cells #[.bool true] 4)).alloc
  (.cells #[.func (.func 143) #[] #[.pointer (some ⟨wr.heap.size,0,none⟩),.pointer (some ⟨x4,0,none⟩),.pointer (some ⟨wr.heap.size+1,0,none⟩)]] 185)).alloc
  (.cells #[.func (.func 144) #[] #[.pointer (some ⟨wr.heap.size+1,0,none⟩),.pointer (some ⟨wr.heap.size+1+1,0,none⟩),.pointer (some ⟨x5,0,none⟩)]] 204)).alloc
  (.cells #[.func (.func 149) #[] #[.pointer (some ⟨wr.heap.size+1+1,0,none⟩),.pointer (some ⟨wr.heap.size+1,0,none⟩),.pointer (some ⟨wr.heap.size+1+1+1,0,none⟩),.pointer (some ⟨wr.heap.size+1+1+1+1,0,none⟩)]] 205)
theorem five_allocs (w:World) (a b c d e:Obj):((((w.alloc a).alloc b).alloc c).alloc d).alloc e={ w with heap:=((((w.heap.push a).push b).push c).push d).push e }:=rfl
theorem five_at (w:World) (a b c d e:Obj):Below w.heap.size w (((((w.alloc a).alloc b).alloc c).alloc d).alloc e)∧(((((w.alloc a).alloc b).alloc c).alloc d).alloc e).heap[w.heap.size]?=some a∧(((((w.alloc a).alloc b).alloc c).alloc d).alloc e).heap[w.heap.size+1]?=some b ∧
  (((((w.alloc a).alloc b).alloc c).alloc d).alloc e).heap[w.heap.size+1+1]?=some c∧(((((w.alloc a).alloc b).alloc c).alloc d).alloc e).heap[w.heap.size+1+1+1]?=some d∧(((((w.alloc a).alloc b).alloc c).alloc d).alloc e).heap[w.heap.size+1+1+1+1]?=some e∧(((((w.alloc a).alloc b).alloc c).alloc d).alloc e).heap.size=w.heap.size+5:=by
 refine⟨below_step (below_step (below_step (below_step (below_alloc _ _) (below_alloc _ _)) (below_alloc _ _)) (below_alloc _ _)) (below_alloc _ _),?_,?_,?_,?_,?_,by simp⟩
 all_goals
  rw[five_allocs]
  simp only[Array.getElem?_push,Array.size_push]
  repeat (first|rw[if_pos trivial]|rw[if_pos rfl]|rw[if_neg (by omega)])
theorem cell_of {w:World} {b:Nat} {v:Value} {t:TypeId} (h:w.heap[b]?=some (.cells #[v] t (0,0))):w.cell? ⟨b,0,none⟩=some v:=by
 unfold World.cell?;rw[h];rfl
theorem qr_start {N wb x4 x5 L nf:Nat} {wr:World} {ws:List Wd} {fv:Value} {par loc:Nat→Int} {bv:Nat→Value} (he:Env N wr) (hsp:Spc N wr) (hN:N≤wr.heap.size) (h4:wr.cell? ⟨x4,0,none⟩=some (.slice (some ⟨wb,0,none⟩) L L)) (hL:ws.length=L) (hw:∀j y,ws[j]?=some y→wr.cell? ⟨wb,j,none⟩=some (.string y)) (hwb:wb<wr.heap.size)
  (hsm:∀y ∈ ws,y.size≤100000) (hlen:L≤100000) (h5:wr.cell? ⟨x5,0,none⟩=some fv) (hf:FunsAt wr.heap.size wr fv nf par loc bv) (hpar:∀i,i<nf→parErr (par i)=0) (hn4:nf≤4) :
  QR (qcOf N wr.heap.size wb x4 x5 ws fv nf par) (qcW wr x4 x5) (ws,true):=by
 have l4:=cell_lt h4
 have l5:=cell_lt h5
 obtain⟨hb,a0,a1,a2,a3,a4,hz⟩:=five_at wr (.cells #[.int .i64 0] 3) (.cells #[.bool true] 4) (.cells #[.func (.func 143) #[] #[.pointer (some ⟨wr.heap.size,0,none⟩),.pointer (some ⟨x4,0,none⟩),.pointer (some ⟨wr.heap.size+1,0,none⟩)]] 185)
  (.cells #[.func (.func 144) #[] #[.pointer (some ⟨wr.heap.size+1,0,none⟩),.pointer (some ⟨wr.heap.size+1+1,0,none⟩),.pointer (some ⟨x5,0,none⟩)]] 204)
  (.cells #[.func (.func 149) #[] #[.pointer (some ⟨wr.heap.size+1+1,0,none⟩),.pointer (some ⟨wr.heap.size+1,0,none⟩),.pointer (some ⟨wr.heap.size+1+1+1,0,none⟩),.pointer (some ⟨wr.heap.size+1+1+1+1,0,none⟩)]] 205)
 refine⟨⟨he.below (hb.mono hN),hsp.below (hb.mono hN),hN,?_,fun j y hj=>?_,hsm,by show ws.length≤_;omega,?_,⟨loc,bv,hf.below hb⟩,hpar,hn4,cell_of a2,cell_of a3,cell_of a4,hwb,l4,l5,?_,?_,?_,?_⟩,⟨0,Nat.zero_le _,rfl,a0⟩,a1⟩
 ·show (qcW wr x4 x5).cell? ⟨x4,0,none⟩=some (.slice (some ⟨wb,0,none⟩) ws.length ws.length)
  rw[hL]
  exact (hb.cell (p:=⟨x4,0,none⟩) l4).trans h4
 ·exact (hb.cell (p:=⟨wb,j,none⟩) hwb).trans (hw j y hj)
 ·exact (hb.cell (p:=⟨x5,0,none⟩) l5).trans h5
 ·show wr.heap.size+1<wr.heap.size+1+1;omega
 ·show wr.heap.size+1<wr.heap.size+1+1+1;omega
 ·show wr.heap.size+1<wr.heap.size+1+1+1+1;omega
 ·show wr.heap.size+1<(qcW wr x4 x5).heap.size
  unfold qcW
  omega
theorem FunsOwn.at_ {B X A:Nat} {w:World} {fv:Value} {nf:Nat} {par loc:Nat→Int} {bv:Nat→Value} (h:FunsOwn B X w fv nf par loc bv) (hX:X≤A) (hs:∀i,i<nf→∃x m c,bv i=.slice x m c):FunsAt A w fv nf par loc bv:=by
 obtain⟨a,cap,rfl,hn,h|⟨g,cur,rfl,hB,hgX,hg,hc⟩⟩:=h
 ·exact⟨a,cap,rfl,by omega,Or.inl h⟩
 ·refine⟨_,cap,rfl,by omega,Or.inr ⟨g,0,rfl,by omega,fun i hi=>?_⟩⟩
  unfold World.cell?
  rw[hg,Nat.zero_add]
  exact⟨(hc i hi).1,(hc i hi).2.1,(hc i hi).2.2,hs i hi⟩
theorem QR.putF {c:QC} {w:World} {q:Rs} {g i:Nat} {v:Value} {loc:Nat→Int} {bv:Nat→Value} (h:QR c w q) (hg:c.N≤g∧c.wb<g∧c.x4<g∧c.x5<g∧g<c.A) (hf:FunsAt c.A (w.setCell ⟨g,i,none⟩ v) c.fv c.nf c.par loc bv):QR c (w.setCell ⟨g,i,none⟩ v) q:=by
 obtain⟨g1,g2,g3,g4,g5⟩:=hg
 have hb:Below g w (w.setCell ⟨g,i,none⟩ v):=(Below.refl g w).setCell (Nat.le_refl g) v
 have he:∀k,¬k=g→(w.setCell ⟨g,i,none⟩ v).heap[k]?=w.heap[k]?:=fun k hk=>Below.heap_setCell w ⟨g,i,none⟩ v k hk
 have hc:∀b o,¬b=g→(w.setCell ⟨g,i,none⟩ v).cell? ⟨b,o,none⟩=w.cell? ⟨b,o,none⟩:=fun b o hk=>World.cell?_of_block (w:=w) (a:=⟨b,o,none⟩) (he b hk)
 have o4:=h.st.o4
 have o5:=h.st.o5
 have o6:=h.st.o6
 obtain⟨n,h1,h2,h3⟩:=h.at_
 refine⟨⟨h.st.env.below (hb.mono g1),h.st.spc.below (hb.mono g1),h.st.lowN,?_,fun j y hj=>?_,h.st.small,h.st.len,?_,⟨loc,bv,hf⟩,h.st.parOK,h.st.nf4,?_,?_,?_,h.st.o1,h.st.o2,h.st.o3,o4,o5,o6,Nat.lt_of_lt_of_le h.st.top hb.size⟩,⟨n,h1,h2,by rw[he _ (by omega)];exact h3⟩,by rw[he _ (by omega)];exact h.ok⟩
 ·rw[hc _ _ (by omega)];exact h.st.w4
 ·rw[hc _ _ (by omega)];exact h.st.wds j y hj
 ·rw[hc _ _ (by omega)];exact h.st.f5
 ·rw[hc _ _ (by omega)];exact h.st.cw
 ·rw[hc _ _ (by omega)];exact h.st.ce
 ·rw[hc _ _ (by omega)];exact h.st.cb
theorem kinds_mkT {d:Nat} {its:List It} (h:∀it ∈ its,(Lit.int .i64 it.nd.kind).wf=true∧kindsFit d it.a∧kindsFit d it.b):kindsFit (d+1) (mkT its):=by
 intro i hi
 have hi:i<its.length:=hi
 have:=h its[i] (List.getElem_mem hi)
 rw[mkT_nd,mkT_a,mkT_b]
 simpa[List.getD,hi]using this
theorem kinds_no:∀d,kindsFit d noSL
 | 0=>trivial
 | _+1=>fun _ hi=>absurd hi (Nat.not_lt_zero _)
theorem kind_wf (K:Nat) (h:K≤8):(Lit.int .i64 (K:Int)).wf=true:=by
 have:K=0∨K=1∨K=2∨K=3∨K=4∨K=5∨K=6∨K=7∨K=8:=by omega
 rcases this with rfl|rfl|rfl|rfl|rfl|rfl|rfl|rfl|rfl<;>decide
theorem kinds_loop (nf:Nat) (par:Nat→Int) (B:Rs→SL×Rs) (d:Nat) (hB:∀q,kindsFit d (B q).1):∀(fu:Nat) (q:Rs),∀it ∈ (loopQ nf par B fu q).1,(Lit.int .i64 it.nd.kind).wf=true∧kindsFit d it.a∧kindsFit d it.b:=by
 intro fu
 induction fu with
 | zero=>intro q it hit;cases hit
 | succ fu ih =>
  intro q it hit
  unfold loopQ at hit
  split at hit
  ·cases hit
  split at hit
  ·cases hit
  split at hit
  ·cases hit
  ·rw[List.mem_cons]at hit
   rcases hit with rfl|hit
   ·refine⟨kind_wf _ (kindOf_lt _),?_,?_⟩
    ·show kindsFit d (q4 nf par B _ _).1
     unfold q4;split
     ·exact hB _
     ·exact kinds_no d
    ·show kindsFit d (q5 nf par B _ _).1
     unfold q5;split
     ·exact hB _
     ·exact kinds_no d
   ·exact ih _ it hit
theorem kinds_blk (nf:Nat) (par:Nat→Int):∀(d u:Nat) (q:Rs),kindsFit d (blkQ nf par u q).1
 | 0,_,_=>trivial
 | d+1,0,_=>kinds_no _
 | d+1,u+1,q=>by
  unfold blkQ
  show kindsFit (d+1) (if _ then _ else _)
  split
  ·exact kinds_mkT (kinds_loop nf par _ d (fun q=>kinds_blk nf par d u q) _ _)
  ·exact kinds_no _
end
end Go.Proofs.YtfaokaohhchdhaaGreatDoor
