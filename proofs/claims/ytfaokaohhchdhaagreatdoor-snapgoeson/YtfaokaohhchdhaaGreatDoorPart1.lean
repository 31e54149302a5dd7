/- What the program's tokens, statements and functions are in memory, and that they stay so while blocks are only added. -/
import Derived.Test.YtfaokaohhchdhaaGreatDoorPart0
import Derived.Deep.Light
import Derived.Maps.OwnSet
import Derived.Maps.AppendAt
import Derived.Lib.SliceRun
namespace Go.Proofs.YtfaokaohhchdhaaGreatDoor
section
open Go.ChangeShapes Go.WideShapes Go.ChangeAt Go.RowKit
def ToksAt (N:Nat) (w:World) (v:Value) (n:Nat) (k z:Nat→Int):Prop :=
 ∃a cap,v=.slice a n cap∧n≤min cap 9223372036854775807∧(n=0∨∃b o,a=some ⟨b,o,none⟩∧b<N∧∀i,i<n→w.cell? ⟨b,o+i*2,none⟩=some (.int .i64 (k i))∧w.cell? ⟨b,o+i*2+1,none⟩=some (.int .i64 (z i)))
def FunsAt (N:Nat) (w:World) (v:Value) (n:Nat) (par loc:Nat→Int) (bv:Nat→Value):Prop :=
 ∃a cap,v=.slice a n cap∧n≤9223372036854775807∧(n=0∨∃b o,a=some ⟨b,o,none⟩∧b<N∧∀i,i<n→w.cell? ⟨b,o+i*3,none⟩=some (.int .i64 (par i))∧w.cell? ⟨b,o+i*3+1,none⟩=some (.int .i64 (loc i))∧w.cell? ⟨b,o+i*3+2,none⟩=some (bv i)∧∃x m c,bv i=.slice x m c)
def StmtsAt (N:Nat) (w:World):Nat→Value→SL→Prop
 | 0,v,T=>T.len=0∧∃a cap,v=.slice a 0 cap
 | d+1,v,T=>∃a cap,v=.slice a T.len cap∧T.len≤9223372036854775807∧(T.len=0∨∃b o,a=some ⟨b,o,none⟩∧b<N∧∀i,i<T.len →
   ∃ve vf va vb,w.cell? ⟨b,o+i*6,none⟩=some (.int .i64 (T.nd i).kind)∧w.cell? ⟨b,o+i*6+1,none⟩=some (.int .i64 (T.nd i).num)∧w.cell? ⟨b,o+i*6+2,none⟩=some ve∧w.cell? ⟨b,o+i*6+3,none⟩=some vf ∧
    w.cell? ⟨b,o+i*6+4,none⟩=some va∧w.cell? ⟨b,o+i*6+5,none⟩=some vb ∧
    ToksAt N w ve (T.nd i).ne (T.nd i).ek (T.nd i).ez∧ToksAt N w vf (T.nd i).nf (T.nd i).fk (T.nd i).fz∧StmtsAt N w d va (T.sub i false)∧StmtsAt N w d vb (T.sub i true))
theorem ToksAt.below {N:Nat} {w w':World} {v:Value} {n:Nat} {k z:Nat→Int} (h:ToksAt N w v n k z) (hb:Below N w w'):ToksAt N w' v n k z:=by
 obtain⟨a,cap,rfl,hn,h|⟨b,o,rfl,hlt,hc⟩⟩:=h
 ·exact⟨a,cap,rfl,hn,Or.inl h⟩
 ·exact⟨_,cap,rfl,hn,Or.inr ⟨b,o,rfl,hlt,fun i hi=>by rw[hb.cell hlt,hb.cell hlt];exact hc i hi⟩⟩
theorem FunsAt.below {N:Nat} {w w':World} {v:Value} {n:Nat} {p l:Nat→Int} {bv:Nat→Value} (h:FunsAt N w v n p l bv) (hb:Below N w w'):FunsAt N w' v n p l bv:=by
 obtain⟨a,cap,rfl,hn,h|⟨b,o,rfl,hlt,hc⟩⟩:=h
 ·exact⟨a,cap,rfl,hn,Or.inl h⟩
 ·exact⟨_,cap,rfl,hn,Or.inr ⟨b,o,rfl,hlt,fun i hi=>by rw[hb.cell hlt,hb.cell hlt,hb.cell hlt];exact hc i hi⟩⟩
theorem StmtsAt.below {N:Nat} {w w':World} (hb:Below N w w'):∀ {d:Nat} {v:Value} {T:SL},StmtsAt N w d v T→StmtsAt N w' d v T
 | 0,_,_,h=>h
 | d+1,v,T,h=>by
  obtain⟨a,cap,rfl,hn,h|⟨b,o,rfl,hlt,hc⟩⟩:=h
  ·exact⟨a,cap,rfl,hn,Or.inl h⟩
  ·refine⟨_,cap,rfl,hn,Or.inr ⟨b,o,rfl,hlt,fun i hi=>?_⟩⟩
   obtain⟨ve,vf,va,vb,c0,c1,c2,c3,c4,c5,t1,t2,s1,s2⟩:=hc i hi
   exact⟨ve,vf,va,vb,by rw[hb.cell hlt];exact c0,by rw[hb.cell hlt];exact c1,by rw[hb.cell hlt];exact c2,by rw[hb.cell hlt];exact c3,by rw[hb.cell hlt];exact c4,by rw[hb.cell hlt];exact c5,
    t1.below hb,t2.below hb,s1.below hb,s2.below hb⟩
theorem ToksAt.up {N M:Nat} {w:World} {v:Value} {n:Nat} {k z:Nat→Int} (h:ToksAt N w v n k z) (hm:N≤M):ToksAt M w v n k z:=by
 obtain⟨a,cap,rfl,hn,h|⟨b,o,rfl,hlt,hc⟩⟩:=h
 ·exact⟨a,cap,rfl,hn,Or.inl h⟩
 ·exact⟨_,cap,rfl,hn,Or.inr ⟨b,o,rfl,by omega,hc⟩⟩
theorem FunsAt.up {N M:Nat} {w:World} {v:Value} {n:Nat} {p l:Nat→Int} {bv:Nat→Value} (h:FunsAt N w v n p l bv) (hm:N≤M):FunsAt M w v n p l bv:=by
 obtain⟨a,cap,rfl,hn,h|⟨b,o,rfl,hlt,hc⟩⟩:=h
 ·exact⟨a,cap,rfl,hn,Or.inl h⟩
 ·exact⟨_,cap,rfl,hn,Or.inr ⟨b,o,rfl,by omega,hc⟩⟩
theorem StmtsAt.up {N M:Nat} {w:World} (hm:N≤M):∀ {d:Nat} {v:Value} {T:SL},StmtsAt N w d v T→StmtsAt M w d v T
 | 0,_,_,h=>h
 | d+1,v,T,h=>by
  obtain⟨a,cap,rfl,hn,h|⟨b,o,rfl,hlt,hc⟩⟩:=h
  ·exact⟨a,cap,rfl,hn,Or.inl h⟩
  ·refine⟨_,cap,rfl,hn,Or.inr ⟨b,o,rfl,by omega,fun i hi=>?_⟩⟩
   obtain⟨ve,vf,va,vb,c0,c1,c2,c3,c4,c5,t1,t2,s1,s2⟩:=hc i hi
   exact⟨ve,vf,va,vb,c0,c1,c2,c3,c4,c5,t1.up hm,t2.up hm,s1.up hm,s2.up hm⟩
theorem StmtsAt.shape {N:Nat} {w:World} {d:Nat} {v:Value} {T:SL} (h:StmtsAt N w d v T):∃a cap,v=.slice a T.len cap∧T.len≤9223372036854775807:=by
 cases d with
 | zero=>obtain⟨e,a,cap,rfl⟩:=h;rw[e];exact⟨a,cap,rfl,by omega⟩
 | succ d=>obtain⟨a,cap,rfl,hn,_⟩:=h;exact⟨a,cap,rfl,hn⟩
theorem ToksAt.shape {N:Nat} {w:World} {v:Value} {n:Nat} {k z:Nat→Int} (h:ToksAt N w v n k z):∃a cap,v=.slice a n cap∧n≤9223372036854775807:=by
 obtain⟨a,cap,rfl,hn,_⟩:=h;exact⟨a,cap,rfl,by omega⟩
theorem ToksAt.room {N:Nat} {w:World} {v:Value} {n:Nat} {k z:Nat→Int} (h:ToksAt N w v n k z):∃a cap,v=.slice a n cap∧n≤cap:=by
 obtain⟨a,cap,rfl,hn,_⟩:=h;exact⟨a,cap,rfl,by omega⟩
theorem FunsAt.shape {N:Nat} {w:World} {v:Value} {n:Nat} {p l:Nat→Int} {bv:Nat→Value} (h:FunsAt N w v n p l bv):∃a cap,v=.slice a n cap∧n≤9223372036854775807:=by
 obtain⟨a,cap,rfl,hn,_⟩:=h;exact⟨a,cap,rfl,hn⟩
theorem ret_num {a b:Int} (h:a=b):Ending.returned (.int .i64 a)=.returned (.int .i64 b):=by rw[h]
theorem below_up {N:Nat} {a b c:World} (h:Below N a b) (k:Below b.heap.size b c) (hn:N≤a.heap.size):Below N a c:=h.trans (k.mono (Nat.le_trans hn h.size))
theorem box_at {w w1:World} {cs:Array Value} {t:TypeId} {M:Nat} (hb:Below M (w.alloc (.cells cs t)) w1) (hM:w.heap.size<M) (i:Nat) {c:Value} (h:cs[i]?=some c):w1.cell? ⟨w.heap.size,i,none⟩=some c:=by
 rw[hb.cell (p:=⟨w.heap.size,i,none⟩) hM,World.cell?_alloc_new]
 exact h
theorem box_in {w w1:World} {cs:Array Value} {t:TypeId} (hb:Below (w.alloc (.cells cs t)).heap.size (w.alloc (.cells cs t)) w1) (i:Nat) {c:Value} (h:cs[i]?=some c):w1.cell? ⟨w.heap.size,i,none⟩=some c :=
 box_at hb (by simp) i h
end
section
open Go.RowKit Go.Maps
theorem wpList_wanted {P:Program} {ops:Array Oper} {Q:Exit→Act→World→Prop} {a:Act} {w:World} {rest:List Oper} {o:Oper} (hw:Region.wanted o (yielded ops a.tmps)=true)
  (h:wpList P ops Q ({ o with guard:=none }::rest) a w):wpList P ops Q (o::rest) a w:=by
 unfold wpList at h ⊢
 rw[if_pos (by simp[Region.wanted])]at h
 rw[if_pos hw]
 exact h
theorem own_shape {w:World} {base:Nat} {e:TypeId} {size:Nat} {v:Value} {n:Nat} {xs:List Value} (h:w.ownsRow base e size v n xs):∃a cap,v=.slice a n cap:=by
 rcases h.2 with⟨rfl,rfl⟩|⟨g,cap,cur,rfl,_⟩
 ·exact⟨none,0,rfl⟩
 ·exact⟨_,cap,rfl⟩
theorem own_block {w:World} {base:Nat} {e:TypeId} {size:Nat} {v:Value} {n:Nat} {xs:List Value} (h:w.ownsRow base e size v (n+1) xs):∃g cap,v=.slice (some ⟨g,0,none⟩) (n+1) cap∧base≤g∧g<w.heap.size∧n+1≤cap∧cap≤maxLen:=by
 rcases h.2 with⟨rfl,h0⟩|⟨g,cap,cur,rfl,hb,hh,hn,hm,_⟩
 ·cases h0
 ·exact⟨g,cap,rfl,hb,(h.lt g rfl).2,hn,hm⟩
theorem slice_to {t e:TypeId} {k:Nat} (u:Tryz.prog.underlying t=some (.slice e)) (hz:∀w,(sizeOf e).run Tryz.prog w=.ok k w) (g:Addr) (n c m:Nat) (x:Int) (hx:x=m) (hm:m≤c) (w:World):(Instr.slice t (.slice (some g) n c) none (some (.int .i64 x)) none).run Tryz.prog w=.ok (.slice (some g) m c) w:=by
 subst hx
 simp[Instr.slice,Instr.sliceBounds,Instr.sliceBound,asIntOf,run_underlying u,go_sem]
 rw[if_pos hm,hz]
 rfl
end
section
open Go.RowKit
set_option maxHeartbeats 400000 in
theorem cCheck (k n c:Int) (w:World) :
  Calls Tryz.prog 154 #[.agg #[.int .i64 k,.int .i64 n],.int .i64 c] w fun e w'=>e=.returned (.int .i64 (chk k n c))∧Below w.heap.size w w':=by
 go_enter Tryz.func154,Tryz.ntmps154
 go_wp2
 all_goals
  go_ret
  refine⟨ret_num ?_,below_alloc _ _⟩
  go_light
  simp only[beq_iff_eq,bne_iff_ne,ne_eq,beq_eq_false_iff_ne,bne_eq_false_iff_eq]at *
  unfold chk
  (repeat' split)<;>omega
set_option maxHeartbeats 400000 in
theorem cCheckRow (v:Value) (n:Nat) (k z:Nat→Int) (c:Int) (w:World) (h:ValsAt w v n k z) :
  Calls Tryz.prog 105 #[v,.int .i64 c] w fun e w'=>e=.returned (.int .i64 (rowErr n k z c))∧Below w.heap.size w w':=by
 obtain⟨a,cap,rfl,hn,h⟩:=h
 go_enter Tryz.func105,Tryz.ntmps105
 go_wp2
 go_loopw [10] (fun i wr=>∃j:Nat,j≤n∧i=.int .i64 j∧Below w.heap.size w wr∧Hid (∀x,x<j→chk (k x) (z x) c=0)) (fun i _=>n - (intOf i).toNat)
 case atStart=>exact⟨0,Nat.zero_le _,rfl,Below.refl _ _,fun j hj=>absurd hj (Nat.not_lt_zero _)⟩
 case round =>
  obtain⟨j,hj,rfl,hb,hall⟩:=hrel
  by_cases hlt:j<n
  ·rcases h with h|⟨p,o,rfl,hp,g⟩
   ·omega
   obtain⟨q0,q1⟩:=g j hlt
   rw[←hb.cell hp]at q0 q1
   clear g
   have hz:=hb.size
   by_cases he:chk (k j) (z j) c=0
   ·have het:(chk (k j) (z j) c != 0)=false:=by simp[he]
    have HE:Hid (chk (k j) (z j) c=0):=he
    clear he
    go_wp2_with (go_at_call 154;refine (cCheck _ _ _ _).mono ?_;rintro e w1 ⟨rfl,hb1⟩)
    go_roundw
    case rel=>exact⟨j+1,by omega,by go_num,hb.trans (((below_alloc _ _).trans (hb1.mono (by simp))).mono hz),upTo hall.out HE.out⟩
    case measure=>simp[intOf];omega
   ·have het:(chk (k j) (z j) c != 0)=true:=by simp[he]
    have HE:Hid (rowErr n k z c=chk (k j) (z j) c):=firstErr_at hall.out he hlt
    clear he
    go_wp2_with (go_at_call 154;refine (cCheck _ _ _ _).mono ?_;rintro e w1 ⟨rfl,hb1⟩)
    go_ret
    exact⟨ret_num HE.out.symm,hb.trans (((below_alloc _ _).trans (hb1.mono (by simp))).mono hz)⟩
  ·go_wp2
   go_ret
   obtain rfl:j=n:=by omega
   exact⟨ret_num (firstErr_zero hall.out).symm,hb⟩
set_option maxHeartbeats 400000 in
theorem cCheckAll (v:Value) (n:Nat) (m:Nat→Nat) (K Z:Nat→Nat→Int) (w:World) (h:CellsAt w v n m K Z) :
  Calls Tryz.prog 62 #[v] w fun e w'=>e=.returned (.int .i64 (allErr n m K Z))∧Below w.heap.size w w':=by
 obtain⟨a,cap,rfl,hn,h⟩:=h
 by_cases hbig:24<n
 ·have HE:Hid (allErr n m K Z=2):=if_pos hbig
  have hbi:(24:Int)<(n:Int):=by omega
  go_enter Tryz.func62,Tryz.ntmps62
  go_wp2
  go_ret
  exact⟨ret_num HE.out.symm,Below.refl _ _⟩
 have HA:Hid (allErr n m K Z=firstErr n fun i=>cellErr (m i) (K i) (Z i) n):=if_neg hbig
 have hbi:¬(24:Int)<(n:Int):=by omega
 go_enter Tryz.func62,Tryz.ntmps62
 go_wp2
 go_loopw [11] (fun i wr=>∃j:Nat,j≤n∧i=.int .i64 j∧Below w.heap.size w wr∧Hid (∀x,x<j→cellErr (m x) (K x) (Z x) n=0)) (fun i _=>n - (intOf i).toNat)
 case atStart=>exact⟨0,Nat.zero_le _,rfl,Below.refl _ _,fun j hj=>absurd hj (Nat.not_lt_zero _)⟩
 case round =>
  obtain⟨j,hj,rfl,hb,hall⟩:=hrel
  by_cases hlt:j<n
  ·rcases h with h|⟨p,o,rfl,hp,g⟩
   ·omega
   obtain⟨u,q0,hv⟩:=g j hlt
   rw[←hb.cell hp]at q0
   have hv1:=hv.below hb
   clear g hv
   have hz:=hb.size
   have hv2:=hv1
   obtain⟨a1,cap1,rfl,hn1,_⟩:=hv2
   by_cases h1:m j<1
   ·have HE:Hid (allErr n m K Z=2):=by
     have e1:cellErr (m j) (K j) (Z j) n=2:=if_pos (Or.inl h1)
     rw[HA.out,firstErr_at hall.out (by rw[e1];decide) hlt];exact e1
    have h1i:(m j:Int)<1:=by omega
    go_wp2_with fail
    go_ret
    exact⟨ret_num HE.out.symm,hb⟩
   by_cases h4:4<m j
   ·have HE:Hid (allErr n m K Z=2):=by
     have e1:cellErr (m j) (K j) (Z j) n=2:=if_pos (Or.inr h4)
     rw[HA.out,firstErr_at hall.out (by rw[e1];decide) hlt];exact e1
    have h1i:¬(m j:Int)<1:=by omega
    have h4i:(4:Int)<(m j:Int):=by omega
    go_wp2_with fail
    go_ret
    exact⟨ret_num HE.out.symm,hb⟩
   have HC:Hid (cellErr (m j) (K j) (Z j) n=rowErr (m j) (K j) (Z j) n):=if_neg (by omega)
   have h1i:¬(m j:Int)<1:=by omega
   have h4i:¬(4:Int)<(m j:Int):=by omega
   by_cases he:rowErr (m j) (K j) (Z j) n=0
   ·have het:(rowErr (m j) (K j) (Z j) n != 0)=false:=by simp[he]
    have HE:Hid (rowErr (m j) (K j) (Z j) n=0):=he
    clear he
    go_wp2_with (go_at_call 105;refine (cCheckRow _ _ _ _ _ _ hv1).mono ?_;rintro e w1 ⟨rfl,hb1⟩)
    go_roundw
    case rel=>exact⟨j+1,by omega,by go_num,below_step hb hb1,upTo hall.out (HC.out.trans HE.out)⟩
    case measure=>simp[intOf];omega
   ·have het:(rowErr (m j) (K j) (Z j) n != 0)=true:=by simp[he]
    have HE:Hid (allErr n m K Z=rowErr (m j) (K j) (Z j) n):=by
     rw[HA.out,firstErr_at hall.out (by rw[HC.out];exact he) hlt];exact HC.out
    clear he
    go_wp2_with (go_at_call 105;refine (cCheckRow _ _ _ _ _ _ hv1).mono ?_;rintro e w1 ⟨rfl,hb1⟩)
    go_ret
    exact⟨ret_num HE.out.symm,below_step hb hb1⟩
  ·go_wp2_with fail
   go_ret
   obtain rfl:j=n:=by omega
   exact⟨ret_num (HA.out.trans (firstErr_zero hall.out)).symm,hb⟩
theorem reachErr_all {n:Nat} {m:Nat→Nat} {K Z:Nat→Nat→Int} {f:Nat} {kf zf:Nat→Int} (h:¬allErr n m K Z=0):reachErr n m K Z f kf zf=allErr n m K Z:=if_neg h
theorem reachErr_many {n:Nat} {m:Nat→Nat} {K Z:Nat→Nat→Int} {f:Nat} {kf zf:Nat→Int} (h:allErr n m K Z=0) (hf:400<f):reachErr n m K Z f kf zf=2:=by
 unfold reachErr;rw[if_pos h,if_pos hf]
theorem reachErr_row {n:Nat} {m:Nat→Nat} {K Z:Nat→Nat→Int} {f:Nat} {kf zf:Nat→Int} (h:allErr n m K Z=0) (hf:¬400<f):reachErr n m K Z f kf zf=rowErr f kf zf n:=by
 unfold reachErr;rw[if_pos h,if_neg hf]
set_option maxHeartbeats 400000 in
theorem cCheckReach (v u:Value) (n:Nat) (m:Nat→Nat) (K Z:Nat→Nat→Int) (f:Nat) (kf zf:Nat→Int) (w:World) (h:CellsAt w v n m K Z) (hu:ValsAt w u f kf zf) :
  Calls Tryz.prog 107 #[v,u] w fun e w'=>e=.returned (.int .i64 (reachErr n m K Z f kf zf))∧Below w.heap.size w w':=by
 have h':=h
 have hu':=hu
 obtain⟨a,cap,rfl,hn,_⟩:=h'
 obtain⟨b,cap1,rfl,hf,_⟩:=hu'
 by_cases he:allErr n m K Z=0
 ·have het:(allErr n m K Z != 0)=false:=by simp[he]
  by_cases hbig:400<f
  ·have HE:Hid (reachErr n m K Z f kf zf=2):=reachErr_many he hbig
   have hbi:(400:Int)<(f:Int):=by omega
   clear he
   go_enter Tryz.func107,Tryz.ntmps107
   go_wp2_with (go_at_call 62;refine (cCheckAll _ _ _ _ _ _ h).mono ?_;rintro e w1 ⟨rfl,hb1⟩)
   go_ret
   exact⟨ret_num HE.out.symm,hb1⟩
  ·have HE:Hid (reachErr n m K Z f kf zf=rowErr f kf zf n):=reachErr_row he hbig
   have hbi:¬(400:Int)<(f:Int):=by omega
   clear he
   go_enter Tryz.func107,Tryz.ntmps107
   go_wp2_with (first|(go_at_call 62;refine (cCheckAll _ _ _ _ _ _ h).mono ?_;rintro e w1 ⟨rfl,hb1⟩)|(go_at_call 105;refine (cCheckRow _ _ _ _ _ _ (hu.below hb1)).mono ?_;rintro e w2 ⟨rfl,hb2⟩))
   go_ret
   exact⟨ret_num HE.out.symm,below_step hb1 hb2⟩
 ·have het:(allErr n m K Z != 0)=true:=by simp[he]
  have HE:Hid (reachErr n m K Z f kf zf=allErr n m K Z):=reachErr_all he
  clear he
  go_enter Tryz.func107,Tryz.ntmps107
  go_wp2_with (go_at_call 62;refine (cCheckAll _ _ _ _ _ _ h).mono ?_;rintro e w1 ⟨rfl,hb1⟩)
  go_ret
  exact⟨ret_num HE.out.symm,hb1⟩
end
section
def eqV (n1 n2:Nat) (k1 z1 k2 z2:Nat→Int):Bool:=decide (n1=n2∧∀i,i<n1→k1 i=k2 i∧z1 i=z2 i)
theorem eqV_iff {n1 n2:Nat} {k1 z1 k2 z2:Nat→Int}:eqV n1 n2 k1 z1 k2 z2=true ↔ n1=n2∧∀i,i<n1→k1 i=k2 i∧z1 i=z2 i:=by
 unfold eqV;exact decide_eq_true_iff
theorem eqV_yes {n:Nat} {k1 z1 k2 z2:Nat→Int} (h:∀i,i<n→k1 i=k2 i∧z1 i=z2 i):eqV n n k1 z1 k2 z2=true:=eqV_iff.2 ⟨rfl,h⟩
theorem eqV_no {n1 n2:Nat} {k1 z1 k2 z2:Nat→Int} {k:Nat} (hk:k<n1) (h:¬(k1 k=k2 k∧z1 k=z2 k)):eqV n1 n2 k1 z1 k2 z2=false:=by
 rw[Bool.eq_false_iff];intro e;exact h ((eqV_iff.1 e).2 k hk)
theorem eqV_len {n1 n2:Nat} {k1 z1 k2 z2:Nat→Int} (h:¬n1=n2):eqV n1 n2 k1 z1 k2 z2=false:=by
 rw[Bool.eq_false_iff];intro e;exact h (eqV_iff.1 e).1
end
section
open Go.RowKit
theorem eqVal (a b c d:Int) (w:World):(Op.equalIn 10000 92 (.agg #[.int .i64 a,.int .i64 b]) (.agg #[.int .i64 c,.int .i64 d])).run Tryz.prog w=.ok (a == c && b == d) w:=by
 have u3:=Tryz.underlying3
 have a3:=Tryz.isAgg3
 have z3:=Tryz.sizeOf3
 have hS:Tryz.prog.underlying 92=some (.struct (Tryz.prog.fieldsOf 92)):=by kernel_rfl
 rw[show (10000:Nat)=9999+1 from rfl,run_equalIn_agg w 9999 92 _ _ hS (by kernel_rfl)]
 simp only[Program.fieldsOf,Tryz.underlying92]
 go_simp
 by_cases h1:a=c<;>by_cases h2:b=d<;>simp[h1,h2]
theorem neqVal (a b c d:Int) (w:World):(binOp .neq 92 (.agg #[.int .i64 a,.int .i64 b]) (.agg #[.int .i64 c,.int .i64 d])).run Tryz.prog w=.ok (.bool (!(a == c && b == d))) w:=by
 rw[run_neq_struct,eqVal];rfl
set_option maxHeartbeats 400000 in
theorem eqValsC (v1 v2:Value) (n1 n2:Nat) (k1 z1 k2 z2:Nat→Int) (w:World) (h1:ValsAt w v1 n1 k1 z1) (h2:ValsAt w v2 n2 k2 z2) :
  Calls Tryz.prog 55 #[v1,v2] w fun e w'=>e=.returned (.bool (eqV n1 n2 k1 z1 k2 z2))∧∃n,w'=w.drewN n:=by
 obtain⟨a1,c1,rfl,b1,h1⟩:=h1
 obtain⟨a2,c2,rfl,b2,h2⟩:=h2
 by_cases hn:n1=n2
 ·subst hn
  have ht:((n1:Int) != (n1:Int))=false:=by simp
  go_enter Tryz.func55,Tryz.ntmps55
  go_wp2
  go_loopw [13] (fun i wr=>∃k m:Nat,k≤n1∧i=.int .i64 k∧wr=w.drewN m∧Hid (∀j,j<k→k1 j=k2 j∧z1 j=z2 j)) (fun i _=>n1 - (intOf i).toNat)
  case atStart=>exact⟨0,0,Nat.zero_le _,rfl,rfl,fun j hj=>absurd hj (Nat.not_lt_zero _)⟩
  case round =>
   obtain⟨k,m,hk,rfl,rfl,hall⟩:=hrel
   by_cases hlt:k<n1
   ·rcases h1 with h1|⟨p1,o1,rfl,l1,g1⟩
    ·omega
    rcases h2 with h2|⟨p2,o2,rfl,l2,g2⟩
    ·omega
    obtain⟨q1,r1⟩:=g1 k hlt
    obtain⟨q2,r2⟩:=g2 k hlt
    clear g1 g2
    by_cases he:k1 k=k2 k∧z1 k=z2 k
    ·have HE:Hid (k1 k=k2 k∧z1 k=z2 k):=he
     have het:∀w:World,(binOp .neq 92 (.agg #[.int .i64 (k1 k),.int .i64 (z1 k)]) (.agg #[.int .i64 (k2 k),.int .i64 (z2 k)])).run Tryz.prog w=.ok (.bool false) w:=by
      intro w;rw[neqVal,he.1,he.2];simp
     clear he
     go_wp2
     go_quiet (fail)
     go_wp2
     go_roundw
     case rel=>exact⟨k+1,m+nq,by omega,by go_num,by simp,upTo hall.out HE.out⟩
     case measure=>simp[intOf];omega
    ·have HE:Hid (eqV n1 n1 k1 z1 k2 z2=false):=eqV_no hlt he
     have het:∀w:World,(binOp .neq 92 (.agg #[.int .i64 (k1 k),.int .i64 (z1 k)]) (.agg #[.int .i64 (k2 k),.int .i64 (z2 k)])).run Tryz.prog w=.ok (.bool true) w:=by
      intro w
      rw[neqVal]
      have:(k1 k == k2 k && z1 k == z2 k)=false:=by
       rw[Bool.eq_false_iff];intro e;rw[Bool.and_eq_true,beq_iff_eq,beq_iff_eq]at e;exact he e
      rw[this];rfl
     clear he
     go_wp2
     go_quiet (fail)
     go_wp2
     go_ret
     exact⟨ret_bool HE.out.symm,m+nq,by simp⟩
   ·go_wp2
    go_ret
    obtain rfl:k=n1:=by omega
    exact⟨ret_bool (eqV_yes hall.out).symm,_,rfl⟩
 ·have ht:((n1:Int) != (n2:Int))=true:=by simp;omega
  have HN:Hid (eqV n1 n2 k1 z1 k2 z2=false):=eqV_len hn
  clear hn
  go_enter Tryz.func55,Tryz.ntmps55
  go_wp2
  go_ret
  exact⟨ret_bool HN.out.symm,0,rfl⟩
def eqCl (n1 n2:Nat) (m1 m2:Nat→Nat) (K1 Z1 K2 Z2:Nat→Nat→Int):Bool:=decide (n1=n2∧∀i,i<n1→eqV (m1 i) (m2 i) (K1 i) (Z1 i) (K2 i) (Z2 i)=true)
theorem eqCl_iff {n1 n2:Nat} {m1 m2:Nat→Nat} {K1 Z1 K2 Z2:Nat→Nat→Int}:eqCl n1 n2 m1 m2 K1 Z1 K2 Z2=true ↔ n1=n2∧∀i,i<n1→eqV (m1 i) (m2 i) (K1 i) (Z1 i) (K2 i) (Z2 i)=true:=by
 unfold eqCl;exact decide_eq_true_iff
theorem eqCl_yes {n:Nat} {m1 m2:Nat→Nat} {K1 Z1 K2 Z2:Nat→Nat→Int} (h:∀i,i<n→eqV (m1 i) (m2 i) (K1 i) (Z1 i) (K2 i) (Z2 i)=true):eqCl n n m1 m2 K1 Z1 K2 Z2=true:=eqCl_iff.2 ⟨rfl,h⟩
theorem eqCl_no {n1 n2:Nat} {m1 m2:Nat→Nat} {K1 Z1 K2 Z2:Nat→Nat→Int} {k:Nat} (hk:k<n1) (h:eqV (m1 k) (m2 k) (K1 k) (Z1 k) (K2 k) (Z2 k)=false):eqCl n1 n2 m1 m2 K1 Z1 K2 Z2=false:=by
 rw[Bool.eq_false_iff];intro e;have:=(eqCl_iff.1 e).2 k hk;rw[h]at this;cases this
theorem eqCl_len {n1 n2:Nat} {m1 m2:Nat→Nat} {K1 Z1 K2 Z2:Nat→Nat→Int} (h:¬n1=n2):eqCl n1 n2 m1 m2 K1 Z1 K2 Z2=false:=by
 rw[Bool.eq_false_iff];intro e;exact h (eqCl_iff.1 e).1
set_option maxHeartbeats 400000 in
theorem cSame (v1 v2:Value) (n1 n2:Nat) (m1 m2:Nat→Nat) (K1 Z1 K2 Z2:Nat→Nat→Int) (w:World) (h1:CellsAt w v1 n1 m1 K1 Z1) (h2:CellsAt w v2 n2 m2 K2 Z2) :
  Calls Tryz.prog 57 #[v1,v2] w fun e w'=>e=.returned (.bool (eqCl n1 n2 m1 m2 K1 Z1 K2 Z2))∧∃n,w'=w.drewN n:=by
 obtain⟨a1,c1,rfl,b1,h1⟩:=h1
 obtain⟨a2,c2,rfl,b2,h2⟩:=h2
 by_cases hn:n1=n2
 ·subst hn
  have ht:((n1:Int) != (n1:Int))=false:=by simp
  go_enter Tryz.func57,Tryz.ntmps57
  go_wp2
  go_loopw [13] (fun i wr=>∃k m:Nat,k≤n1∧i=.int .i64 k∧wr=w.drewN m∧Hid (∀j,j<k→eqV (m1 j) (m2 j) (K1 j) (Z1 j) (K2 j) (Z2 j)=true)) (fun i _=>n1 - (intOf i).toNat)
  case atStart=>exact⟨0,0,Nat.zero_le _,rfl,rfl,fun j hj=>absurd hj (Nat.not_lt_zero _)⟩
  case round =>
   obtain⟨k,m,hk,rfl,hw,hall⟩:=hrel
   by_cases hlt:k<n1
   ·rcases h1 with h1|⟨p1,o1,rfl,l1,g1⟩
    ·omega
    rcases h2 with h2|⟨p2,o2,rfl,l2,g2⟩
    ·omega
    obtain⟨u1,q1,r1⟩:=g1 k hlt
    obtain⟨u2,q2,r2⟩:=g2 k hlt
    have s1:wr.cell? ⟨p1,o1+k,none⟩=some u1:=by rw[hw,World.cell?_drewN];exact q1
    have s2:wr.cell? ⟨p2,o2+k,none⟩=some u2:=by rw[hw,World.cell?_drewN];exact q2
    have HQ:Hid (∀y,Calls Tryz.prog 55 #[u1,u2] (wr.drewN y) fun e w'=>e=.returned (.bool (eqV (m1 k) (m2 k) (K1 k) (Z1 k) (K2 k) (Z2 k)))∧∃n,w'=(wr.drewN y).drewN n):=by
     intro y
     rw[hw]
     exact eqValsC _ _ _ _ _ _ _ _ _ ((r1.drewN m).drewN y) ((r2.drewN m).drewN y)
    have HW:Hid (wr=w.drewN m):=hw
    clear g1 g2 r1 r2 q1 q2 hw
    by_cases he:eqV (m1 k) (m2 k) (K1 k) (Z1 k) (K2 k) (Z2 k)=true
    ·have HE:Hid (eqV (m1 k) (m2 k) (K1 k) (Z1 k) (K2 k) (Z2 k)=true):=he
     rw[he]at HQ
     clear he
     go_wp2
     go_quiet ((go_at_call 55;exact Calls.quiet_of (HQ.out _)))
     go_wp2
     go_roundw
     case rel=>exact⟨k+1,m+nq,by omega,by go_num,by rw[HW.out,World.drewN_drewN],upTo hall.out HE.out⟩
     case measure=>simp[intOf];omega
    ·have hf:eqV (m1 k) (m2 k) (K1 k) (Z1 k) (K2 k) (Z2 k)=false:=by simpa using he
     have HE:Hid (eqCl n1 n1 m1 m2 K1 Z1 K2 Z2=false):=eqCl_no hlt hf
     rw[hf]at HQ
     clear he hf
     go_wp2
     go_quiet ((go_at_call 55;exact Calls.quiet_of (HQ.out _)))
     go_wp2
     go_ret
     exact⟨ret_bool HE.out.symm,m+nq,by rw[HW.out,World.drewN_drewN]⟩
   ·subst hw
    go_wp2
    go_ret
    obtain rfl:k=n1:=by omega
    exact⟨ret_bool (eqCl_yes hall.out).symm,_,rfl⟩
 ·have ht:((n1:Int) != (n2:Int))=true:=by simp;omega
  have HN:Hid (eqCl n1 n2 m1 m2 K1 Z1 K2 Z2=false):=eqCl_len hn
  clear hn
  go_enter Tryz.func57,Tryz.ntmps57
  go_wp2
  go_ret
  exact⟨ret_bool HN.out.symm,0,rfl⟩
end
end Go.Proofs.YtfaokaohhchdhaaGreatDoor
