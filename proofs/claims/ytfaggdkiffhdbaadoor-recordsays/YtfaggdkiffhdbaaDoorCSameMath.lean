/- Two programs of instructions are alike just if all is: slices.Equal over numbers; the plain side. -/
import Derived.Test.YtfaggdkiffhdbaaDoorInsBase
import Derived.Test.YtfaggdkiffhdbaaDoorSrcBase
namespace Go.Proofs.YtfaggdkiffhdbaaDoor
open Go.RowKit

def eqInB (a b : In) : Bool:=decide (a.op=b.op) && (decide (a.a=b.a) && (decide (a.b=b.b) && (decide (a.c=b.c) && eqB a.n b.n a.z b.z)))
def eqCodeB (n m : Nat) (f g : Nat→In) : Bool:=decide (n=m∧∀ k,k < n→eqInB (f k) (g k)=true)
def eqPcB (p q : Pc) : Bool:=decide (p.params=q.params) && (decide (p.regs=q.regs) && eqCodeB p.n q.n p.ins q.ins)
def eqCB (n m : Nat) (P Q : Nat→Pc) : Bool:=decide (n=m∧∀ k,k < n→eqPcB (P k) (Q k)=true)

theorem eqCodeB_yes {n : Nat} {f g : Nat→In} (h : ∀ k,k < n→eqInB (f k) (g k)=true) : eqCodeB n n f g=true:=by unfold eqCodeB; exact decide_eq_true ⟨rfl,h⟩
theorem eqCodeB_no {n m : Nat} {f g : Nat→In} {k : Nat} (hk : k < n) (h : eqInB (f k) (g k)=false) : eqCodeB n m f g=false:=by
 unfold eqCodeB; rw [decide_eq_false_iff_not]; rintro ⟨_,hh⟩; have:=hh k hk; rw [h] at this; cases this
theorem eqCodeB_len {n m : Nat} {f g : Nat→In} (h : ¬ n=m) : eqCodeB n m f g=false:=by unfold eqCodeB; rw [decide_eq_false_iff_not]; rintro ⟨hh,_⟩; exact h hh
theorem eqCB_yes {n : Nat} {f g : Nat→Pc} (h : ∀ k,k < n→eqPcB (f k) (g k)=true) : eqCB n n f g=true:=by unfold eqCB; exact decide_eq_true ⟨rfl,h⟩
theorem eqCB_no {n m : Nat} {f g : Nat→Pc} {k : Nat} (hk : k < n) (h : eqPcB (f k) (g k)=false) : eqCB n m f g=false:=by
 unfold eqCB; rw [decide_eq_false_iff_not]; rintro ⟨_,hh⟩; have:=hh k hk; rw [h] at this; cases this
theorem eqCB_len {n m : Nat} {f g : Nat→Pc} (h : ¬ n=m) : eqCB n m f g=false:=by unfold eqCB; rw [decide_eq_false_iff_not]; rintro ⟨hh,_⟩; exact h hh

set_option maxHeartbeats 400000 in
theorem eqNums (N : Nat) (v1 v2 : Value) (n1 n2 : Nat) (z1 z2 : Nat→Int) (w : World) (h1 : NumsAt N w v1 n1 z1) (h2 : NumsAt N w v2 n2 z2) :
  Calls Tryd.prog 32 #[v1,v2] w fun e w' => e=.returned (.bool (eqB n1 n2 z1 z2))∧Below w.heap.size w w':=by
 obtain ⟨a1,c1,rfl,b1,h1⟩:=h1
 obtain ⟨a2,c2,rfl,b2,h2⟩:=h2
 by_cases hn : n1=n2
 ·subst hn
  have ht : ((n1 : Int) != (n1 : Int))=false:=by simp
  go_enter Tryd.func32,Tryd.ntmps32
  go_wp2
  go_loopw [13] (fun i wr => ∃ k m : Nat,k≤n1∧i=.int .i64 k∧wr=w.drewN m∧Hid (∀ j,j < k→z1 j=z2 j)) (fun i _ => n1 - (intOf i).toNat)
  case atStart => exact ⟨0,0,Nat.zero_le _,rfl,rfl,fun j hj => absurd hj (Nat.not_lt_zero _)⟩
  case round =>
   obtain ⟨k,m,hk,rfl,rfl,hall⟩:=hrel
   by_cases hlt : k < n1
   ·rcases h1 with h1 | ⟨p1,o1,rfl,l1,g1⟩
    ·omega
    rcases h2 with h2 | ⟨p2,o2,rfl,l2,g2⟩
    ·omega
    have q1:=g1 k hlt
    have q2:=g2 k hlt
    clear g1 g2
    by_cases he : z1 k=z2 k
    ·have HE : Hid (z1 k=z2 k):=he
     have het : (z1 k != z2 k)=false:=by simp [he]
     clear he
     go_wp2
     go_quiet (fail)
     go_wp2
     go_roundw
     case rel => exact ⟨k + 1,m + nq,by omega,by go_num,by simp,upTo hall.out HE.out⟩
     case measure => simp [intOf]; omega
    ·have HE : Hid (eqB n1 n1 z1 z2=false):=eqB_no hlt he
     have het : (z1 k != z2 k)=true:=by simp [he]
     clear he
     go_wp2
     go_quiet (fail)
     go_wp2
     go_ret
     exact ⟨ret_bool HE.out.symm,by simpa using below_drewN' w (m + nq)⟩
   ·go_wp2
    go_ret
    obtain rfl : k=n1:=by omega
    exact ⟨ret_bool (eqB_yes hall.out).symm,below_drewN' _ _⟩
 ·have ht : ((n1 : Int) != (n2 : Int))=true:=by simp; omega
  have HN : Hid (eqB n1 n2 z1 z2=false):=eqB_len hn
  clear hn
  go_enter Tryd.func32,Tryd.ntmps32
  go_wp2
  go_ret
  exact ⟨ret_bool HN.out.symm,Below.refl _ _⟩

end Go.Proofs.YtfaggdkiffhdbaaDoor
