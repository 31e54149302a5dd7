/- What the program's tokens, statements and functions are in memory, and that they stay so while blocks are only added. -/
import Derived.Test.YtfaggdkiffhdbaaGreatDoorPart6
import Derived.Test.YtfaggdkiffhdbaaGreatDoorSrc
import Derived.Deep.Light
namespace Go.Proofs.YtfaggdkiffhdbaaGreatDoor
open Go.ChangeShapes Go.WideShapes Go.ChangeAt Go.RowKit

/-- 'v' is a slice of 'n' tokens,below block N; token i is 'k i','z i'. -/
def ToksAt (N : Nat) (w : World) (v : Value) (n : Nat) (k z : Nat→Int) : Prop :=
 ∃ a cap,v=.slice a n cap∧n≤min cap 9223372036854775807∧(n=0∨∃ b o,a=some ⟨b,o,none⟩∧b < N∧∀ i,i < n→w.cell? ⟨b,o + i * 2,none⟩=some (.int .i64 (k i))∧w.cell? ⟨b,o + i * 2 + 1,none⟩=some (.int .i64 (z i)))

/-- 'v' is a slice of 'n' functions,below block N; 'bv i' is the slice of the statements of number i. -/
def FunsAt (N : Nat) (w : World) (v : Value) (n : Nat) (par loc : Nat→Int) (bv : Nat→Value) : Prop :=
 ∃ a cap,v=.slice a n cap∧n≤9223372036854775807∧(n=0∨∃ b o,a=some ⟨b,o,none⟩∧b < N∧∀ i,i < n→w.cell? ⟨b,o + i * 3,none⟩=some (.int .i64 (par i))∧w.cell? ⟨b,o + i * 3 + 1,none⟩=some (.int .i64 (loc i))∧w.cell? ⟨b,o + i * 3 + 2,none⟩=some (bv i)∧∃ x m c,bv i=.slice x m c)

/-- 'v' is a slice of the statements T,with all in them,below block N. -/
def StmtsAt (N : Nat) (w : World) : Nat→Value→SL→Prop
 | 0,v,T => T.len=0∧∃ a cap,v=.slice a 0 cap
 | d + 1,v,T => ∃ a cap,v=.slice a T.len cap∧T.len≤9223372036854775807∧(T.len=0∨∃ b o,a=some ⟨b,o,none⟩∧b < N∧∀ i,i < T.len →
   ∃ ve vf va vb,w.cell? ⟨b,o + i * 6,none⟩=some (.int .i64 (T.nd i).kind)∧w.cell? ⟨b,o + i * 6 + 1,none⟩=some (.int .i64 (T.nd i).num)∧w.cell? ⟨b,o + i * 6 + 2,none⟩=some ve∧w.cell? ⟨b,o + i * 6 + 3,none⟩=some vf ∧
    w.cell? ⟨b,o + i * 6 + 4,none⟩=some va∧w.cell? ⟨b,o + i * 6 + 5,none⟩=some vb ∧
    ToksAt N w ve (T.nd i).ne (T.nd i).ek (T.nd i).ez∧ToksAt N w vf (T.nd i).nf (T.nd i).fk (T.nd i).fz∧StmtsAt N w d va (T.sub i false)∧StmtsAt N w d vb (T.sub i true))

theorem ToksAt.below {N : Nat} {w w' : World} {v : Value} {n : Nat} {k z : Nat→Int} (h : ToksAt N w v n k z) (hb : Below N w w') : ToksAt N w' v n k z:=by
 obtain ⟨a,cap,rfl,hn,h | ⟨b,o,rfl,hlt,hc⟩⟩:=h
 ·exact ⟨a,cap,rfl,hn,Or.inl h⟩
 ·exact ⟨_,cap,rfl,hn,Or.inr ⟨b,o,rfl,hlt,fun i hi => by rw [hb.cell hlt,hb.cell hlt]; exact hc i hi⟩⟩

theorem FunsAt.below {N : Nat} {w w' : World} {v : Value} {n : Nat} {p l : Nat→Int} {bv : Nat→Value} (h : FunsAt N w v n p l bv) (hb : Below N w w') : FunsAt N w' v n p l bv:=by
 obtain ⟨a,cap,rfl,hn,h | ⟨b,o,rfl,hlt,hc⟩⟩:=h
 ·exact ⟨a,cap,rfl,hn,Or.inl h⟩
 ·exact ⟨_,cap,rfl,hn,Or.inr ⟨b,o,rfl,hlt,fun i hi => by rw [hb.cell hlt,hb.cell hlt,hb.cell hlt]; exact hc i hi⟩⟩

theorem StmtsAt.below {N : Nat} {w w' : World} (hb : Below N w w') : ∀ {d : Nat} {v : Value} {T : SL},StmtsAt N w d v T→StmtsAt N w' d v T
 | 0,_,_,h => h
 | d + 1,v,T,h => by
  obtain ⟨a,cap,rfl,hn,h | ⟨b,o,rfl,hlt,hc⟩⟩:=h
  ·exact ⟨a,cap,rfl,hn,Or.inl h⟩
  ·refine ⟨_,cap,rfl,hn,Or.inr ⟨b,o,rfl,hlt,fun i hi => ?_⟩⟩
   obtain ⟨ve,vf,va,vb,c0,c1,c2,c3,c4,c5,t1,t2,s1,s2⟩:=hc i hi
   exact ⟨ve,vf,va,vb,by rw [hb.cell hlt]; exact c0,by rw [hb.cell hlt]; exact c1,by rw [hb.cell hlt]; exact c2,by rw [hb.cell hlt]; exact c3,by rw [hb.cell hlt]; exact c4,by rw [hb.cell hlt]; exact c5,
    t1.below hb,t2.below hb,s1.below hb,s2.below hb⟩

theorem ToksAt.up {N M : Nat} {w : World} {v : Value} {n : Nat} {k z : Nat→Int} (h : ToksAt N w v n k z) (hm : N≤M) : ToksAt M w v n k z:=by
 obtain ⟨a,cap,rfl,hn,h | ⟨b,o,rfl,hlt,hc⟩⟩:=h
 ·exact ⟨a,cap,rfl,hn,Or.inl h⟩
 ·exact ⟨_,cap,rfl,hn,Or.inr ⟨b,o,rfl,by omega,hc⟩⟩

theorem FunsAt.up {N M : Nat} {w : World} {v : Value} {n : Nat} {p l : Nat→Int} {bv : Nat→Value} (h : FunsAt N w v n p l bv) (hm : N≤M) : FunsAt M w v n p l bv:=by
 obtain ⟨a,cap,rfl,hn,h | ⟨b,o,rfl,hlt,hc⟩⟩:=h
 ·exact ⟨a,cap,rfl,hn,Or.inl h⟩
 ·exact ⟨_,cap,rfl,hn,Or.inr ⟨b,o,rfl,by omega,hc⟩⟩

theorem StmtsAt.up {N M : Nat} {w : World} (hm : N≤M) : ∀ {d : Nat} {v : Value} {T : SL},StmtsAt N w d v T→StmtsAt M w d v T
 | 0,_,_,h => h
 | d + 1,v,T,h => by
  obtain ⟨a,cap,rfl,hn,h | ⟨b,o,rfl,hlt,hc⟩⟩:=h
  ·exact ⟨a,cap,rfl,hn,Or.inl h⟩
  ·refine ⟨_,cap,rfl,hn,Or.inr ⟨b,o,rfl,by omega,fun i hi => ?_⟩⟩
   obtain ⟨ve,vf,va,vb,c0,c1,c2,c3,c4,c5,t1,t2,s1,s2⟩:=hc i hi
   exact ⟨ve,vf,va,vb,c0,c1,c2,c3,c4,c5,t1.up hm,t2.up hm,s1.up hm,s2.up hm⟩

theorem StmtsAt.shape {N : Nat} {w : World} {d : Nat} {v : Value} {T : SL} (h : StmtsAt N w d v T) : ∃ a cap,v=.slice a T.len cap∧T.len≤9223372036854775807:=by
 cases d with
 | zero => obtain ⟨e,a,cap,rfl⟩:=h; rw [e]; exact ⟨a,cap,rfl,by omega⟩
 | succ d => obtain ⟨a,cap,rfl,hn,_⟩:=h; exact ⟨a,cap,rfl,hn⟩

theorem ToksAt.shape {N : Nat} {w : World} {v : Value} {n : Nat} {k z : Nat→Int} (h : ToksAt N w v n k z) : ∃ a cap,v=.slice a n cap∧n≤9223372036854775807:=by
 obtain ⟨a,cap,rfl,hn,_⟩:=h; exact ⟨a,cap,rfl,by omega⟩

/-- No more than it may hold. -/
theorem ToksAt.room {N : Nat} {w : World} {v : Value} {n : Nat} {k z : Nat→Int} (h : ToksAt N w v n k z) : ∃ a cap,v=.slice a n cap∧n≤cap:=by
 obtain ⟨a,cap,rfl,hn,_⟩:=h; exact ⟨a,cap,rfl,by omega⟩

theorem FunsAt.shape {N : Nat} {w : World} {v : Value} {n : Nat} {p l : Nat→Int} {bv : Nat→Value} (h : FunsAt N w v n p l bv) : ∃ a cap,v=.slice a n cap∧n≤9223372036854775807:=by
 obtain ⟨a,cap,rfl,hn,_⟩:=h; exact ⟨a,cap,rfl,hn⟩

/-- Where nothing is deeper than so,the depth may be counted so. -/
theorem StmtsAt.trim {N : Nat} {w : World} : ∀ {d : Nat} {v : Value} {T : SL} {left : Nat},fits d T left→StmtsAt N w d v T→StmtsAt N w left v T
 | 0,v,T,left,_,h => by
  cases left with
  | zero => exact h
  | succ l => obtain ⟨e,a,cap,rfl⟩:=h; exact ⟨a,cap,by rw [e],by omega,Or.inl e⟩
 | d + 1,v,T,left,hf,h => by
  obtain ⟨a,cap,rfl,hn,hc⟩:=h
  by_cases e : T.len=0
  ·cases left with
   | zero => exact ⟨e,a,cap,by rw [e]⟩
   | succ l => exact ⟨a,cap,rfl,hn,Or.inl e⟩
  ·rcases hf with hf | ⟨h0,hf⟩
   ·exact absurd hf e
   rcases hc with hc | ⟨b,o,rfl,hlt,hc⟩
   ·exact absurd hc e
   cases left with
   | zero => omega
   | succ l =>
    refine ⟨_,cap,rfl,hn,Or.inr ⟨b,o,rfl,hlt,fun i hi => ?_⟩⟩
    obtain ⟨ve,vf,va,vb,c0,c1,c2,c3,c4,c5,t1,t2,s1,s2⟩:=hc i hi
    exact ⟨ve,vf,va,vb,c0,c1,c2,c3,c4,c5,t1,t2,StmtsAt.trim (hf i hi).1 s1,StmtsAt.trim (hf i hi).2 s2⟩

theorem ret_num {a b : Int} (h : a=b) : Ending.returned (.int .i64 a)=.returned (.int .i64 b):=by rw [h]

theorem below_up {N : Nat} {a b c : World} (h : Below N a b) (k : Below b.heap.size b c) (hn : N≤a.heap.size) : Below N a c:=h.trans (k.mono (Nat.le_trans hn h.size))

/-- What was boxed reads as it did. -/
theorem box_at {w w1 : World} {cs : Array Value} {t : TypeId} {M : Nat} (hb : Below M (w.alloc (.cells cs t)) w1) (hM : w.heap.size < M) (i : Nat) {c : Value} (h : cs[i]?=some c) : w1.cell? ⟨w.heap.size,i,none⟩=some c:=by
 rw [hb.cell (p:=⟨w.heap.size,i,none⟩) hM,World.cell?_alloc_new]
 exact h

theorem box_in {w w1 : World} {cs : Array Value} {t : TypeId} (hb : Below (w.alloc (.cells cs t)).heap.size (w.alloc (.cells cs t)) w1) (i : Nat) {c : Value} (h : cs[i]?=some c) : w1.cell? ⟨w.heap.size,i,none⟩=some c :=
 box_at hb (by simp) i h

end Go.Proofs.YtfaggdkiffhdbaaGreatDoor
namespace Go.Proofs.YtfaggdkiffhdbaaGreatDoor
open Go.RowKit

def eqInB (a b : In) : Bool:=decide (a.op=b.op) && (decide (a.a=b.a) && (decide (a.b=b.b) && (decide (a.c=b.c) && eqB a.n b.n a.z b.z)))
def eqCodeB (n m : Nat) (f g : Nat→In) : Bool:=decide (n=m∧∀ k,k < n→eqInB (f k) (g k)=true)
def eqPcB (p q : Pc) : Bool:=decide (p.params=q.params) && (decide (p.regs=q.regs) && eqCodeB p.n q.n p.ins q.ins)
def eqCB (n m : Nat) (P Q : Nat→Pc) : Bool:=decide (n=m∧∀ k,k < n→eqPcB (P k) (Q k)=true)

theorem eqCodeB_yes {n : Nat} {f g : Nat→In} (h : ∀ k,k < n→eqInB (f k) (g k)=true) : eqCodeB n n f g=true:=by unfold eqCodeB; exact decide_eq_true ⟨rfl,h⟩
theorem eqCodeB_no {n m : Nat} {f g : Nat→In} {k : Nat} (hk : k < n) (h : eqInB (f k) (g k)=false) : eqCodeB n m f g=false:=by
 unfold eqCodeB; rw [decide_eq_false_iff_not]; rintro ⟨_,hh⟩; have:=hh k hk; rw [h] at this; cases this
theorem eqCodeB_len {n m : Nat} {f g : Nat→In} (h : ¬ n=m) : eqCodeB n m f g=false:=by unfold eqCodeB; rw [decide_eq_false_iff_not]; rintro ⟨hh,_⟩; exact h hh
theorem eqCB_yes {n : Nat} {f g : Nat→Pc} (h : ∀ k,k < n→eqPcB (f k) (g k)=true) : eqCB n n f g=true:=by unfold eqCB; exact decide_eq_true ⟨rfl,h⟩
theorem eqCB_no {n m : Nat} {f g : Nat→Pc} {k : Nat} (hk : k < n) (h : eqPcB (f k) (g k)=false) : eqCB n m f g=false:=by
 unfold eqCB; rw [decide_eq_false_iff_not]; rintro ⟨_,hh⟩; have:=hh k hk; rw [h] at this; cases this
theorem eqCB_len {n m : Nat} {f g : Nat→Pc} (h : ¬ n=m) : eqCB n m f g=false:=by unfold eqCB; rw [decide_eq_false_iff_not]; rintro ⟨hh,_⟩; exact h hh

set_option maxHeartbeats 400000 in
theorem eqNums (N : Nat) (v1 v2 : Value) (n1 n2 : Nat) (z1 z2 : Nat→Int) (w : World) (h1 : NumsAt N w v1 n1 z1) (h2 : NumsAt N w v2 n2 z2) :
  Calls Tryz.prog 27 #[v1,v2] w fun e w' => e=.returned (.bool (eqB n1 n2 z1 z2))∧Below w.heap.size w w':=by
 obtain ⟨a1,c1,rfl,b1,h1⟩:=h1
 obtain ⟨a2,c2,rfl,b2,h2⟩:=h2
 by_cases hn : n1=n2
 ·subst hn
  have ht : ((n1 : Int) != (n1 : Int))=false:=by simp
  go_enter Tryz.func27,Tryz.ntmps27
  go_wp2
  go_loopw [13] (fun i wr => ∃ k m : Nat,k≤n1∧i=.int .i64 k∧wr=w.drewN m∧Hid (∀ j,j < k→z1 j=z2 j)) (fun i _ => n1 - (intOf i).toNat)
  case atStart => exact ⟨0,0,Nat.zero_le _,rfl,rfl,fun j hj => absurd hj (Nat.not_lt_zero _)⟩
  case round =>
   obtain ⟨k,m,hk,rfl,rfl,hall⟩:=hrel
   by_cases hlt : k < n1
   ·rcases h1 with h1 | ⟨p1,o1,rfl,l1,g1⟩
    ·omega
    rcases h2 with h2 | ⟨p2,o2,rfl,l2,g2⟩
    ·omega
    have q1:=g1 k hlt
    have q2:=g2 k hlt
    clear g1 g2
    by_cases he : z1 k=z2 k
    ·have HE : Hid (z1 k=z2 k):=he
     have het : (z1 k != z2 k)=false:=by simp [he]
     clear he
     go_wp2
     go_quiet (fail)
     go_wp2
     go_roundw
     case rel => exact ⟨k + 1,m + nq,by omega,by go_num,by simp,upTo hall.out HE.out⟩
     case measure => simp [intOf]; omega
    ·have HE : Hid (eqB n1 n1 z1 z2=false):=eqB_no hlt he
     have het : (z1 k != z2 k)=true:=by simp [he]
     clear he
     go_wp2
     go_quiet (fail)
     go_wp2
     go_ret
     exact ⟨ret_bool HE.out.symm,by simpa using below_drewN' w (m + nq)⟩
   ·go_wp2
    go_ret
    obtain rfl : k=n1:=by omega
    exact ⟨ret_bool (eqB_yes hall.out).symm,below_drewN' _ _⟩
 ·have ht : ((n1 : Int) != (n2 : Int))=true:=by simp; omega
  have HN : Hid (eqB n1 n2 z1 z2=false):=eqB_len hn
  clear hn
  go_enter Tryz.func27,Tryz.ntmps27
  go_wp2
  go_ret
  exact ⟨ret_bool HN.out.symm,Below.refl _ _⟩

end Go.Proofs.YtfaggdkiffhdbaaGreatDoor
