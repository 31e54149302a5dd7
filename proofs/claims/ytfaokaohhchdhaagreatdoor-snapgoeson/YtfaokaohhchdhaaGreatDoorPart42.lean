/- Small facts on how statements lie, and on how many there are. -/
import Derived.Test.YtfaokaohhchdhaaGreatDoorRows
import Derived.Deep.SlicePairs
import Derived.Test.YtfaokaohhchdhaaGreatDoorForm
namespace Go.Proofs.YtfaokaohhchdhaaGreatDoor
section
open Go.RowKit Go.Maps
theorem StmtsAt.deeper {N:Nat} {w:World}:∀ {d:Nat} {v:Value} {T:SL},StmtsAt N w d v T→StmtsAt N w (d+1) v T
 | 0,v,T,h=>by
  obtain⟨e,a,cap,rfl⟩:=h
  exact⟨a,cap,by rw[e],by omega,Or.inl e⟩
 | d+1,v,T,h=>by
  obtain⟨a,cap,rfl,hn,h|⟨b,o,rfl,hlt,hc⟩⟩:=h
  ·exact⟨a,cap,rfl,hn,Or.inl h⟩
  ·refine⟨_,cap,rfl,hn,Or.inr ⟨b,o,rfl,hlt,fun i hi=>?_⟩⟩
   obtain⟨ve,vf,va,vb,c0,c1,c2,c3,c4,c5,t1,t2,s1,s2⟩:=hc i hi
   exact⟨ve,vf,va,vb,c0,c1,c2,c3,c4,c5,t1,t2,s1.deeper,s2.deeper⟩
def wt (d:Nat) (T:SL) (i:Nat):Nat:=1+size d (T.sub i false)+size d (T.sub i true)
theorem size_succ (d:Nat) (T:SL):size (d+1) T=sumTo T.len (wt d T):=rfl
theorem size_none {d:Nat} {T:SL} (h:T.len=0):size d T=0:=by
 cases d with
 | zero=>rfl
 | succ d=>rw[size_succ,h];rfl
def sizeR (d:Nat) (T:SL) (left:Nat):Int:=if fineB d T left=true then (size d T:Int) else 0
theorem fine_no {d:Nat} {T:SL} {l j:Nat} (hj:j<T.len) (h:¬(fits d (T.sub j false) l∧fits d (T.sub j true) l∧sumTo (j+1) (wt d T)≤30)):fineB (d+1) T (l+1)=false:=by
 rw[Bool.eq_false_iff]
 intro e
 obtain⟨h1,h2⟩:=fineB_iff.1 e
 rcases h1 with h1|⟨_,h1⟩
 ·omega
 ·have:=sumTo_mono (f:=wt d T) (j:=j+1) (n:=T.len) (by omega)
  exact h ⟨(h1 j hj).1,(h1 j hj).2,by rw[size_succ]at h2;omega⟩
theorem fine_yes {d:Nat} {T:SL} {l:Nat} (h:∀j,j<T.len→fits d (T.sub j false) l∧fits d (T.sub j true) l) (hs:sumTo T.len (wt d T)≤30):fineB (d+1) T (l+1)=true :=
 fineB_iff.2 ⟨Or.inr ⟨by omega,h⟩,hs⟩
theorem fine_zero {d:Nat} {T:SL} (h:¬T.len=0):fineB (d+1) T 0=false:=by
 rw[Bool.eq_false_iff]
 intro e
 obtain⟨h1,_⟩:=fineB_iff.1 e
 rcases h1 with h1|⟨h1,_⟩
 ·exact h h1
 ·omega
theorem ret_two {a b:Int} {x y:Bool} (h:a=b) (k:x=y):Ending.returned (.tuple #[.int .i64 a,.bool x])=.returned (.tuple #[.int .i64 b,.bool y]):=by rw[h,k]
theorem sizeR_no {d:Nat} {T:SL} {left:Nat} (h:fineB d T left=false):sizeR d T left=0:=by unfold sizeR;rw[h];rfl
theorem sizeR_yes {d:Nat} {T:SL} {left:Nat} (h:fineB d T left=true):sizeR d T left=size d T:=by unfold sizeR;rw[h];rfl
end
section
open Go.ChangeShapes Go.WideShapes Go.ChangeAt Go.RowKit Go.Deep
def kindsFit:Nat→SL→Prop
 | 0,_=>True
 | d+1,T=>∀i,i<T.len→(Lit.int .i64 (T.nd i).kind).wf=true∧kindsFit d (T.sub i false)∧kindsFit d (T.sub i true)
section
variable {H:Type}
variable {enc:TypeId×Value→H} {W:World} {base:Nat} {spare:Nat→Bool} {held:Bool}
theorem StmtsAt.le {N:Nat} {w:World} {d e:Nat} {v:Value} {T:SL} (h:StmtsAt N w d v T) (hd:d≤e):StmtsAt N w e v T:=by
 induction e with
 | zero =>
  obtain rfl:d=0:=by omega
  exact h
 | succ e ih =>
  by_cases c:d=e+1
  ·subst c;exact h
  ·exact (ih (by omega)).deeper
end
end
section
open Go.RowKit Go.Maps
theorem inRange (n a b:Int) (w:World):Calls Tryz.prog 48 #[.int .i64 n,.int .i64 a,.int .i64 b] w fun e w'=>e=.returned (.bool (decide (a≤n∧n≤b)))∧w'=w:=by
 go_enter Tryz.func48,Tryz.ntmps48
 go_wp2
 all_goals
  go_ret
  refine⟨ret_bool ?_,rfl⟩
  go_light
  simp_all
  try omega
theorem below (n m:Int) (w:World):Calls Tryz.prog 60 #[.int .i64 n,.int .i64 m] w fun e w'=>e=.returned (.bool (decide (0≤n∧n<m)))∧w'=w:=by
 go_enter Tryz.func60,Tryz.ntmps60
 go_wp2
 all_goals
  go_ret
  refine⟨ret_bool ?_,rfl⟩
  go_light
  simp_all
  try omega
theorem at_ins {P:Program} {ops:Array Oper} {Q:Exit→Act→World→Prop} {t ty:TypeId} {m k v:Operand} {pos:String} {after:Array Edge} {rest:List Oper} {a:Act} {w:World}
  (h:wpList P ops Q ({ dst:=none,op:=.insert t m k v,type:=ty,pos:=pos,after:=after,guard:=none }::rest) a w):wpList P ops Q ({ dst:=none,op:=.insert t m k v,type:=ty,pos:=pos,after:=after,guard:=none }::rest) a w:=h
theorem box_grown {w w1:World} {cs:Array Value} {t:TypeId} {o:Obj} (hg:((w.alloc (.cells cs t)).alloc o).grownBy w1 (some (w.heap.size+1))) (i:Nat) {c:Value} (h:cs[i]?=some c):w1.cell? ⟨w.heap.size,i,none⟩=some c:=by
 have e:=hg.block w.heap.size (by simp;omega) (fun e=>by have:=Option.some.inj e;omega)
 refine (World.cell?_of_block (w:=(w.alloc (.cells cs t)).alloc o) (a:=⟨w.heap.size,i,none⟩) e).trans ?_
 rw[World.cell?_alloc_lt _ _ _ (by simp),World.cell?_alloc_new]
 exact h
theorem below_grown {w w1:World} {o1 o2:Obj} (hg:((w.alloc o1).alloc o2).grownBy w1 (some (w.heap.size+1))):Below w.heap.size w w1 :=
 (below_step (below_alloc w o1) (below_alloc _ o2)).grown hg (by simp;omega) (fun k hk=>by cases hk;omega)
theorem stErr_form {nf:Nat} {par:Nat→Int} {locals:Int} {s:Nd} {la lb:Nat} (h:formX s la lb=true):stErr nf par locals s la lb=4:=by
 unfold formX at h
 exact if_neg (by simpa using h)
theorem formX_zero {s:Nd} {la lb:Nat} (h:formX s la lb=false):formErr s la lb=0:=by
 unfold formX at h
 simpa using h
theorem formX_ok {s:Nd} {la lb:Nat} (h:formX s la lb=false):okF s.kind=true:=by
 have:=formX_zero h
 unfold formErr at this
 split at this
 ·cases this
 ·unfold okF;simp;omega
def numX (s:Nd) (locals:Int):Bool:=!(numErr s locals == 0)
theorem numX_set {s:Nd} {locals:Int} (h:s.kind=1):numX s locals=!decide (0≤s.num∧s.num<locals):=by
 unfold numX numErr
 by_cases hx:0≤s.num∧s.num<locals
 ·rw[if_neg (by omega)];simp[hx]
 ·rw[if_pos (by omega)];simp[hx]
theorem numX_put {s:Nd} {locals:Int} (h:s.kind=2):numX s locals=!decide (0≤s.num∧s.num≤3):=by
 unfold numX numErr
 by_cases hx:0≤s.num∧s.num≤3
 ·rw[if_neg (by omega)];simp[hx]
 ·rw[if_pos (by omega)];simp[hx]
theorem numX_other {s:Nd} {locals:Int} (h1:¬s.kind=1) (h2:¬s.kind=2):numX s locals=false:=by
 unfold numX numErr
 rw[if_neg (by omega)];rfl
def ownE (nf:Nat) (par:Nat→Int) (locals:Int) (s:Nd):Int:=if s.kind=4 then 0 else exprErr s.ne s.ek s.ez nf par locals
theorem stErr_num {nf:Nat} {par:Nat→Int} {locals:Int} {s:Nd} {la lb:Nat} (h:formX s la lb=false) (hn:numX s locals=true):stErr nf par locals s la lb=3:=by
 unfold stErr
 rw[if_pos (formX_zero h)]
 unfold numX at hn
 rw[if_neg (by simpa using hn)]
theorem stErr_own {nf:Nat} {par:Nat→Int} {locals:Int} {s:Nd} {la lb:Nat} (h:formX s la lb=false) (hn:numX s locals=false) :
  stErr nf par locals s la lb=if ownE nf par locals s=0 then (if s.kind=2 then exprErr s.nf s.fk s.fz nf par locals else 0) else ownE nf par locals s:=by
 unfold stErr ownE
 rw[if_pos (formX_zero h)]
 unfold numX at hn
 rw[if_pos (by simpa using hn)]
 by_cases k4:s.kind=4
 ·simp[k4]
 ·simp[k4]
set_option maxRecDepth 20000 in
set_option maxHeartbeats 16000000 in
theorem refStmts (N:Nat) (f:Value) (nf:Nat) (par loc:Nat→Int) (bv:Nat→Value) (locals:Int):∀(d:Nat) (v:Value) (T:SL) (w:World),N≤w.heap.size→StmtsAt N w d v T→kindsFit d T→FunsAt N w f nf par loc bv →
  Calls Tryz.prog 186 #[v,f,.int .i64 locals] w fun e w'=>e=.returned (.int .i64 (errs (stErr nf par locals) d T))∧Below w.heap.size w w':=by
 intro d
 induction d with
 | zero =>
  intro v T w hN h _ hf
  obtain⟨h0,a,cap,rfl⟩:=h
  go_enter Tryz.func186,Tryz.ntmps186
  go_wp2_with fail
  go_loopw [15] (fun i wr=>i=.int .i64 0∧wr=w) (fun i _=>0)
  case atStart=>exact⟨rfl,rfl⟩
  case round =>
   obtain⟨rfl,rfl⟩:=hrel
   go_wp2_with fail
   go_ret
   exact⟨rfl,Below.refl _ _⟩
 | succ d ih =>
  intro v T w hN h hkf hf
  have hmm:=@run_makeMap Tryz.prog
  obtain⟨a,cap,rfl,hn,h⟩:=h
  obtain⟨af,capf,rfl,hnf⟩:=hf.shape
  have HE0:Hid (errs (stErr nf par locals) (d+1) T=firstErr T.len fun i =>
   if stErr nf par locals (T.nd i) (T.sub i false).len (T.sub i true).len=0 then
    (if errs (stErr nf par locals) d (T.sub i false)=0 then errs (stErr nf par locals) d (T.sub i true) else errs (stErr nf par locals) d (T.sub i false))
   else stErr nf par locals (T.nd i) (T.sub i false).len (T.sub i true).len):=rfl
  generalize errs (stErr nf par locals) (d+1) T=ER at *
  go_enter Tryz.func186,Tryz.ntmps186
  go_wp2_with fail
  go_loopw [15] (fun i wr=>∃j:Nat,j≤T.len∧i=.int .i64 j∧Below w.heap.size w wr∧Hid (∀x,x<j→(if stErr nf par locals (T.nd x) (T.sub x false).len (T.sub x true).len=0 then
    (if errs (stErr nf par locals) d (T.sub x false)=0 then errs (stErr nf par locals) d (T.sub x true) else errs (stErr nf par locals) d (T.sub x false))
   else stErr nf par locals (T.nd x) (T.sub x false).len (T.sub x true).len)=0)) (fun i _=>T.len - (intOf i).toNat)
  case atStart=>exact⟨0,Nat.zero_le _,rfl,Below.refl _ _,fun j hj=>absurd hj (Nat.not_lt_zero _)⟩
  case round =>
   obtain⟨j,hj,rfl,hb,hall⟩:=hrel
   by_cases hlt:j<T.len
   ·rcases h with h|⟨b,o,rfl,hp,g⟩
    ·omega
    obtain⟨ve,vf,va,vb,q0,q1,q2,q3,q4,q5,t1,t2,s1,s2⟩:=g j hlt
    have hp':b<w.heap.size:=by omega
    rw[←hb.cell hp']at q0 q1 q2 q3 q4 q5
    have hbN:=hb.mono hN
    have t1:=t1.below hbN
    have t2:=t2.below hbN
    have s1:=s1.below hbN
    have s2:=s2.below hbN
    have hf1:=hf.below hbN
    clear g
    obtain⟨ae,ce,rfl,_⟩:=t1.shape
    obtain⟨ag,cg,rfl,_⟩:=t2.shape
    obtain⟨aa,ca,rfl,la⟩:=s1.shape
    obtain⟨ab,cb,rfl,lb⟩:=s2.shape
    have hz:=hb.size
    have hNr:N≤wr.heap.size:=by omega
    obtain⟨hwf,kA,kB⟩:=hkf j hlt
    have HI:Hid ((if stErr nf par locals (T.nd j) (T.sub j false).len (T.sub j true).len=0 then
     (if errs (stErr nf par locals) d (T.sub j false)=0 then errs (stErr nf par locals) d (T.sub j true) else errs (stErr nf par locals) d (T.sub j false))
     else stErr nf par locals (T.nd j) (T.sub j false).len (T.sub j true).len)=0→∀x,x<j+1→(if stErr nf par locals (T.nd x) (T.sub x false).len (T.sub x true).len=0 then
     (if errs (stErr nf par locals) d (T.sub x false)=0 then errs (stErr nf par locals) d (T.sub x true) else errs (stErr nf par locals) d (T.sub x false))
     else stErr nf par locals (T.nd x) (T.sub x false).len (T.sub x true).len)=0):=fun h=>upTo hall.out h
    have HS:Hid (∀y,¬y=0→(if stErr nf par locals (T.nd j) (T.sub j false).len (T.sub j true).len=0 then
     (if errs (stErr nf par locals) d (T.sub j false)=0 then errs (stErr nf par locals) d (T.sub j true) else errs (stErr nf par locals) d (T.sub j false))
     else stErr nf par locals (T.nd j) (T.sub j false).len (T.sub j true).len)=y→ER=y):=fun y hy he=>by
      rw[HE0.out,firstErr_at hall.out (by rw[he];exact hy) hlt,he]
    generalize T.nd j=s at *
    generalize (T.sub j false).len=lA at *
    generalize (T.sub j true).len=lB at *
    go_upto_region 6 with (first
     | (with_reducible refine at_ins ?_;refine use_map _ _ rfl rfl rfl rfl rfl rfl rfl rfl rfl rfl rfl rfl rfl rfl rfl rfl rfl rfl rfl rfl rfl rfl rfl rfl _ rfl (by simp) ?_;intro w1 htab hgr;have m0:=box_grown hgr 0 rfl)
     | (at_lookup;refine look_use _ rfl _ _ rfl _ _ rfl htab _ rfl hwf ?_))
    have m1:=box_grown hgr 1 rfl
    have m2:=box_grown hgr 2 rfl
    have m3:=box_grown hgr 3 rfl
    have m4:=box_grown hgr 4 rfl
    have m5:=box_grown hgr 5 rfl
    have hb1:Below wr.heap.size wr w1:=below_grown hgr
    have hlt1:wr.heap.size<w1.heap.size:=cell_lt m0
    clear hgr htab q0 q1 q2 q3 q4 q5 hmm
    go_cut [10,15,83] from 15 to 140 (fun s10 s15 s83 wc=>s10=.bool (okF s.kind)∧s15=.int .i64 j∧s83=.bool (formX s lA lB)∧wc=w1.alloc (.cells #[.string (useF s.kind)] 9))
    case first =>
     clear HI HS hall ih s1 s2 t1 t2 hf1 hf kA kB hkf HE0 hb hbN hb1 hwf hlt hj hz hNr
     have hc9:(w1.alloc (.cells #[.string (useF s.kind)] 9)).cell? ⟨w1.heap.size,0,none⟩=some (.string (useF s.kind)):=World.cell?_alloc_new _ _ _ 0
     by_cases hok:okF s.kind=true
     ·have hbx:=below_alloc w1 (.cells #[.string (useF s.kind)] 9)
      refine r6 s lA lB ae ag aa ab ce cg ca cb _ _ _ _ _ _ _ _ _ _ _ _ _ _ _ _ _ _ _ _ _ _ _ _ _ _ _ _ _ _ _ _ _ _ _ _ _ _ _ _ _ _ _ _ _ _ _ _ _ _ _ _ _ _ _ _ _ _ _ _ _ _ _ _ _ _ _ _ _ _ _ _ _ _ _ _ _ _ _ _ _ _ _ _ _ _ _ _ _ _ _ _ _ _ _ _ _ _ _ _ _ _ _ _ _ _ _ _ _ _ _ _ _ _ _ _ _ _ _ _ _ _ _ _ _ _ _ _ _ _ _ _ _ _ _ _ _ _ _ _ _ _ ((hbx.cell (p:=⟨wr.heap.size,1,none⟩) hlt1).trans m1) ((hbx.cell (p:=⟨wr.heap.size,2,none⟩) hlt1).trans m2) ((hbx.cell (p:=⟨wr.heap.size,3,none⟩) hlt1).trans m3) ((hbx.cell (p:=⟨wr.heap.size,4,none⟩) hlt1).trans m4) ((hbx.cell (p:=⟨wr.heap.size,5,none⟩) hlt1).trans m5) hc9 hok ?_
      intros
      go_wp2_with fail
      go_meet
      case rel=>exact⟨by rw[hok],rfl,rfl,rfl⟩
     ·have hok':okF s.kind=false:=by simpa using hok
      clear hok
      go_wp2_with fail
      go_meet
      case rel =>
       refine⟨by rw[hok'],rfl,?_,rfl⟩
       go_light
       simp only[okF,decide_eq_false_iff_not]at hok'
       exact congrArg Value.bool (formX_yes (by omega))
    case rest =>
     obtain⟨rfl,rfl,rfl,rfl⟩:=hcut
     have hb2:Below wr.heap.size wr (w1.alloc (.cells #[.string (useF s.kind)] 9)):=below_step hb1 (below_alloc _ _)
     have hc9:(w1.alloc (.cells #[.string (useF s.kind)] 9)).cell? ⟨w1.heap.size,0,none⟩=some (.string (useF s.kind)):=World.cell?_alloc_new _ _ _ 0
     have hbx:=below_alloc w1 (.cells #[.string (useF s.kind)] 9)
     rw[←hbx.cell (p:=⟨wr.heap.size,0,none⟩) hlt1]at m0
     rw[←hbx.cell (p:=⟨wr.heap.size,1,none⟩) hlt1]at m1
     rw[←hbx.cell (p:=⟨wr.heap.size,2,none⟩) hlt1]at m2
     rw[←hbx.cell (p:=⟨wr.heap.size,3,none⟩) hlt1]at m3
     rw[←hbx.cell (p:=⟨wr.heap.size,4,none⟩) hlt1]at m4
     rw[←hbx.cell (p:=⟨wr.heap.size,5,none⟩) hlt1]at m5
     have hlt9:w1.heap.size<(w1.alloc (.cells #[.string (useF s.kind)] 9)).heap.size:=by simp
     have hltB:wr.heap.size<(w1.alloc (.cells #[.string (useF s.kind)] 9)).heap.size:=Nat.lt_trans hlt1 hlt9
     have hbT:Below w.heap.size w (w1.alloc (.cells #[.string (useF s.kind)] 9)):=below_step hb hb2
     clear hbx hb1 hlt1
     generalize w1.alloc (.cells #[.string (useF s.kind)] 9)=w2 at *
     generalize w1.heap.size=P9 at *
     have hN2:N≤w2.heap.size:=Nat.le_trans hNr hb2.size
     have t1:=t1.below (hb2.mono hNr)
     have t2:=t2.below (hb2.mono hNr)
     have s1:=s1.below (hb2.mono hNr)
     have s2:=s2.below (hb2.mono hNr)
     have hf1:=hf1.below (hb2.mono hNr)
     generalize wr.heap.size=B at *
     by_cases hF:formX s lA lB=true
     ·have HR:Hid (ER=4):=HS.out 4 (by decide) (by rw[stErr_form hF];rfl)
      rw[hF]
      go_wp2_with fail
      go_ret
      exact⟨ret_num HR.out.symm,hbT⟩
     have hF':formX s lA lB=false:=by simpa using hF
     have HOK:Hid (okF s.kind=true):=formX_ok hF'
     clear hF
     rw[hF']
     go_upto_region 8 with fail
     go_cut [15,104] from 15 to 140 (fun s15 s104 wc=>s15=.int .i64 j∧s104=.bool (numX s locals)∧wc=w2)
     case first =>
      clear HI HS hall ih s1 s2 t1 t2 hf1 hf kA kB hkf HE0 hb hbN hwf hlt hj hz hNr
      by_cases k1:s.kind=1
      ·have b1:(s.kind == 1)=true:=by simp[k1]
       have HX:Hid (numX s locals=!decide (0≤s.num∧s.num<locals)):=numX_set k1
       by_cases hx:0≤s.num∧s.num<locals
       ·have hx':decide (0≤s.num∧s.num<locals)=true:=by simpa using hx
        have b2:(s.kind == 2)=false:=by simp[k1]
        rw[hx']at HX
        clear k1 hx
        go_wp2_with (go_at_call 60;refine (below _ _ _).mono ?_;rw[hx'];rintro e w3 ⟨rfl,rfl⟩)
        go_meet
        case rel=>exact⟨rfl,by rw[HX.out];rfl,rfl⟩
       ·have hx':decide (0≤s.num∧s.num<locals)=false:=by simpa using hx
        rw[hx']at HX
        clear k1 hx
        go_wp2_with (go_at_call 60;refine (below _ _ _).mono ?_;rw[hx'];rintro e w3 ⟨rfl,rfl⟩)
        go_meet
        case rel=>exact⟨rfl,by rw[HX.out];rfl,rfl⟩
      ·have b1:(s.kind == 1)=false:=by simp[k1]
       by_cases k2:s.kind=2
       ·have b2:(s.kind == 2)=true:=by simp[k2]
        have HX:Hid (numX s locals=!decide (0≤s.num∧s.num≤3)):=numX_put k2
        by_cases hx:0≤s.num∧s.num≤3
        ·have hx':decide (0≤s.num∧s.num≤3)=true:=by simpa using hx
         rw[hx']at HX
         clear k1 k2 hx
         go_wp2_with (go_at_call 48;refine (inRange _ _ _ _).mono ?_;rw[hx'];rintro e w3 ⟨rfl,rfl⟩)
         go_meet
         case rel=>exact⟨rfl,by rw[HX.out];rfl,rfl⟩
        ·have hx':decide (0≤s.num∧s.num≤3)=false:=by simpa using hx
         rw[hx']at HX
         clear k1 k2 hx
         go_wp2_with (go_at_call 48;refine (inRange _ _ _ _).mono ?_;rw[hx'];rintro e w3 ⟨rfl,rfl⟩)
         go_meet
         case rel=>exact⟨rfl,by rw[HX.out];rfl,rfl⟩
       ·have b2:(s.kind == 2)=false:=by simp[k2]
        have HX:Hid (numX s locals=false):=numX_other k1 k2
        clear k1 k2
        go_wp2_with fail
        go_meet
        case rel=>exact⟨rfl,by rw[HX.out],rfl⟩
     case rest =>
      obtain⟨rfl,rfl,rfl⟩:=hcut
      generalize wc=w2 at *
      by_cases hX:numX s locals=true
      ·have HR:Hid (ER=3):=HS.out 3 (by decide) (by rw[stErr_num hF' hX];rfl)
       rw[hX]
       go_wp2_with fail
       go_ret
       exact⟨ret_num HR.out.symm,hbT⟩
      have hX':numX s locals=false:=by simpa using hX
      clear hX
      rw[hX']
      have HE1:Hid (stErr nf par locals s lA lB=if ownE nf par locals s=0 then (if s.kind=2 then exprErr s.nf s.fk s.fz nf par locals else 0) else ownE nf par locals s):=stErr_own hF' hX'
      go_upto_if 106 with (go_at_call 215;refine (hasC _ (by decide) s.kind HOK.out _ _ hc9).mono ?_;rintro e w3 ⟨rfl,h3⟩;rw[h3];clear h3)
      generalize hE1:ownE nf par locals s=E1 at HE1
      have HE1':Hid (ownE nf par locals s=E1):=hE1
      clear hE1
      go_cut [12,15] from 15 to 140 (fun s12 s15 wc=>s12=.int .i64 E1∧s15=.int .i64 j∧Below w2.heap.size w2 wc)
      case first =>
       by_cases k4:s.kind=4
       ·have hh:hasS ⟨#[69]⟩ s.kind=false:=by rw[k4];rfl
        have HO:Hid (E1=0):=HE1'.out.symm.trans (if_pos k4)
        clear k4
        rw[hh]
        go_wp2_with fail
        go_meet
        case rel=>exact⟨by rw[HO.out],rfl,Below.refl _ _⟩
       ·have hh:hasS ⟨#[69]⟩ s.kind=true:=by show (!decide (s.kind=4))=true;simp[k4]
        have HO:Hid (E1=exprErr s.ne s.ek s.ez nf par locals):=HE1'.out.symm.trans (if_neg k4)
        clear k4
        rw[hh]
        go_wp2_with (go_at_call 217;refine (refExpr N _ _ s.ne s.ek s.ez nf par loc bv locals _ hN2 t1 hf1).mono ?_;rintro e w3 ⟨rfl,hb3⟩)
        go_meet
        case rel=>exact⟨by rw[HO.out],rfl,hb3⟩
      case rest =>
       obtain⟨rfl,rfl,hb3⟩:=hcut
       rw[←hb3.cell (p:=⟨B,3,none⟩) hltB]at m3
       rw[←hb3.cell (p:=⟨B,4,none⟩) hltB]at m4
       rw[←hb3.cell (p:=⟨B,5,none⟩) hltB]at m5
       rw[←hb3.cell (p:=⟨P9,0,none⟩) hlt9]at hc9
       have hbT3:=below_step hbT hb3
       have hN3:N≤wc.heap.size:=Nat.le_trans hN2 hb3.size
       have hB3:B<wc.heap.size:=Nat.lt_of_lt_of_le hltB hb3.size
       have t2:=t2.below (hb3.mono hN2)
       have s1:=s1.below (hb3.mono hN2)
       have s2:=s2.below (hb3.mono hN2)
       have hf1:=hf1.below (hb3.mono hN2)
       clear hb3 m0 m1 m2 t1
       generalize wc=w3 at *
       generalize hE2:stErr nf par locals s lA lB=E2 at *
       clear hE2
       go_upto_region 13 with fail
       go_cut [12,15,117] from 15 to 140 (fun s12 s15 s117 wc=>s12=.int .i64 E1∧s15=.int .i64 j∧s117=.bool (E1 == 0 && hasF s.kind)∧wc=w3)
       case first =>
        by_cases e0:E1=0
        ·subst e0
         go_wp2_with (go_at_call 215;refine (hasC _ (by decide) s.kind HOK.out _ _ hc9).mono ?_;rintro e w4 ⟨rfl,rfl⟩)
         go_meet
         case rel=>exact⟨rfl,rfl,by simp;rfl,rfl⟩
        ·have e1:(E1 == 0)=false:=by simp[e0]
         clear e0
         go_wp2_with fail
         go_meet
         case rel=>exact⟨rfl,rfl,by rw[e1];rfl,rfl⟩
       case rest =>
        obtain⟨rfl,rfl,rfl,rfl⟩:=hcut
        generalize wc=w3 at *
        go_upto_if 117 with fail
        go_cut [12,15] from 15 to 140 (fun s12 s15 wc=>s12=.int .i64 E2∧s15=.int .i64 j∧Below w3.heap.size w3 wc)
        case first =>
         by_cases k2:E1=0∧s.kind=2
         ·have hh:(E1 == 0 && hasF s.kind)=true:=by unfold hasF;simp[k2.1,k2.2]
          have HO:Hid (E2=exprErr s.nf s.fk s.fz nf par locals):=by
           show E2=_
           rw[HE1.out,if_pos k2.1,if_pos k2.2]
          clear k2
          rw[hh]
          go_wp2_with (go_at_call 217;refine (refExpr N _ _ s.nf s.fk s.fz nf par loc bv locals _ hN3 t2 hf1).mono ?_;rintro e w4 ⟨rfl,hb4⟩)
          go_meet
          case rel=>exact⟨by rw[HO.out],rfl,hb4⟩
         ·have hh:(E1 == 0 && hasF s.kind)=false:=by unfold hasF;simpa using k2
          have HO:Hid (E2=E1):=by
           show E2=E1
           rw[HE1.out]
           by_cases e0:E1=0
           ·rw[if_pos e0,if_neg (fun h=>k2 ⟨e0,h⟩),e0]
           ·rw[if_neg e0]
          clear k2
          rw[hh]
          go_wp2_with fail
          go_meet
          case rel=>exact⟨by rw[HO.out],rfl,Below.refl _ _⟩
        case rest =>
         obtain⟨rfl,rfl,hb4⟩:=hcut
         rw[←hb4.cell (p:=⟨B,4,none⟩) hB3]at m4
         rw[←hb4.cell (p:=⟨B,5,none⟩) hB3]at m5
         have hbT4:=below_step hbT3 hb4
         have hN4:N≤wc.heap.size:=Nat.le_trans hN3 hb4.size
         have hB4:B<wc.heap.size:=Nat.lt_of_lt_of_le hB3 hb4.size
         have s1:=s1.below (hb4.mono hN3)
         have s2:=s2.below (hb4.mono hN3)
         have hf1:=hf1.below (hb4.mono hN3)
         clear hb4 m3 hc9 t2
         generalize wc=w4 at *
         by_cases e2:E2=0
         ·subst e2
          have HCA:Hid (Calls Tryz.prog 186 #[.slice aa lA ca,.slice af nf capf,.int .i64 locals] w4 fun e w'=>e=.returned (.int .i64 (errs (stErr nf par locals) d (T.sub j false)))∧Below w4.heap.size w4 w'):=ih _ _ _ hN4 s1 kA hf1
          by_cases ea:errs (stErr nf par locals) d (T.sub j false)=0
          ·rw[ea]at HCA
           have HCB:Hid (∀w5,Below w4.heap.size w4 w5→Calls Tryz.prog 186 #[.slice ab lB cb,.slice af nf capf,.int .i64 locals] w5 fun e w'=>e=.returned (.int .i64 (errs (stErr nf par locals) d (T.sub j true)))∧Below w5.heap.size w5 w'):=fun w5 hb5=>ih _ _ _ (Nat.le_trans hN4 hb5.size) (s2.below (hb5.mono hN4)) kB (hf1.below (hb5.mono hN4))
           by_cases eb:errs (stErr nf par locals) d (T.sub j true)=0
           ·rw[eb]at HCB
            have HZ:=HI.out (by rw[if_pos rfl,if_pos ea,eb])
            have HZ':Hid (∀x,x<j+1→(if stErr nf par locals (T.nd x) (T.sub x false).len (T.sub x true).len=0 then
             (if errs (stErr nf par locals) d (T.sub x false)=0 then errs (stErr nf par locals) d (T.sub x true) else errs (stErr nf par locals) d (T.sub x false))
             else stErr nf par locals (T.nd x) (T.sub x false).len (T.sub x true).len)=0):=HZ
            clear ea eb HZ
            go_wp2_with (go_at_call 186;first
             | (refine (HCB.out _ hb5).mono ?_;rintro e w6 ⟨rfl,hb6⟩)
             | (refine HCA.out.mono ?_;rintro e w5 ⟨rfl,hb5⟩;have m6:=(hb5.cell (p:=⟨B,5,none⟩) hB4).trans m5))
            go_roundw
            case rel=>exact⟨j+1,by omega,by go_num,below_step hbT4 (below_step hb5 hb6),HZ'.out⟩
            case measure=>simp[intOf];omega
           ·have HR:Hid (ER=errs (stErr nf par locals) d (T.sub j true)):=HS.out _ eb (by rw[if_pos rfl,if_pos ea])
            have het:(errs (stErr nf par locals) d (T.sub j true) != 0)=true:=by simp[eb]
            clear ea eb
            go_wp2_with (go_at_call 186;first
             | (refine (HCB.out _ hb5).mono ?_;rintro e w6 ⟨rfl,hb6⟩)
             | (refine HCA.out.mono ?_;rintro e w5 ⟨rfl,hb5⟩;have m6:=(hb5.cell (p:=⟨B,5,none⟩) hB4).trans m5))
            go_ret
            exact⟨ret_num HR.out.symm,below_step hbT4 (below_step hb5 hb6)⟩
          ·have HR:Hid (ER=errs (stErr nf par locals) d (T.sub j false)):=HS.out _ ea (by rw[if_pos rfl,if_neg ea])
           have het:(errs (stErr nf par locals) d (T.sub j false) != 0)=true:=by simp[ea]
           have het2:(errs (stErr nf par locals) d (T.sub j false) == 0)=false:=by simp[ea]
           clear ea
           go_wp2_with (go_at_call 186;refine HCA.out.mono ?_;rintro e w5 ⟨rfl,hb5⟩)
           go_ret
           exact⟨ret_num HR.out.symm,below_step hbT4 hb5⟩
         ·have HR:Hid (ER=E2):=HS.out _ e2 (by rw[if_neg e2])
          have het:(E2 != 0)=true:=by simp[e2]
          have het2:(E2 == 0)=false:=by simp[e2]
          clear e2
          go_wp2_with fail
          go_ret
          exact⟨ret_num HR.out.symm,hbT4⟩
   ·obtain rfl:j=T.len:=by omega
    have HR:Hid (ER=0):=HE0.out.trans (firstErr_zero hall.out)
    go_wp2_with fail
    go_ret
    exact⟨ret_num HR.out.symm,hb⟩
end
end Go.Proofs.YtfaokaohhchdhaaGreatDoor
