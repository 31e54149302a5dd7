/- cCheckRow, CheckAll, cCheckReach of the program, and CheckCells of the reckoning beside it: the first error. -/
import Derived.Test.YtipnjoahobplhaaGreatDoorPart3
import Derived.Maps.OwnSet
import Derived.Maps.AppendAt
namespace Go.Proofs.YtipnjoahobplhaaGreatDoor
open Go.RowKit
set_option maxHeartbeats 400000 in
theorem cCheckRow (v : Value) (n : Nat) (k z : Nat→Int) (c : Int) (w : World) (h : ValsAt w v n k z) :
  Calls Tryz.prog 87 #[v,.int .i64 c] w fun e w' => e = .returned (.int .i64 (rowErr n k z c))∧Below w.heap.size w w':=by
 obtain ⟨a,cap,rfl,hn,h⟩:=h
 go_enter Tryz.func87,Tryz.ntmps87
 go_wp2
 go_loopw [10] (fun i wr => ∃ j : Nat,j ≤ n∧i = .int .i64 j∧Below w.heap.size w wr∧Hid (∀ x,x < j→chk (k x) (z x) c = 0)) (fun i _ => n - (intOf i).toNat)
 case atStart => exact ⟨0,Nat.zero_le _,rfl,Below.refl _ _,fun j hj => absurd hj (Nat.not_lt_zero _)⟩
 case round =>
  obtain ⟨j,hj,rfl,hb,hall⟩:=hrel
  by_cases hlt : j < n
  ·rcases h with h | ⟨p,o,rfl,hp,g⟩
   ·omega
   obtain ⟨q0,q1⟩:=g j hlt
   rw [← hb.cell hp] at q0 q1
   clear g
   have hz:=hb.size
   by_cases he : chk (k j) (z j) c = 0
   ·have het : (chk (k j) (z j) c != 0) = false:=by simp [he]
    have HE : Hid (chk (k j) (z j) c = 0):=he
    clear he
    go_wp2_with (go_at_call 123; refine (cCheck _ _ _ _).mono ?_; rintro e w1 ⟨rfl,hb1⟩)
    go_roundw
    case rel => exact ⟨j + 1,by omega,by go_num,hb.trans (((below_alloc _ _).trans (hb1.mono (by simp))).mono hz),upTo hall.out HE.out⟩
    case measure => simp [intOf]; omega
   ·have het : (chk (k j) (z j) c != 0) = true:=by simp [he]
    have HE : Hid (rowErr n k z c = chk (k j) (z j) c):=firstErr_at hall.out he hlt
    clear he
    go_wp2_with (go_at_call 123; refine (cCheck _ _ _ _).mono ?_; rintro e w1 ⟨rfl,hb1⟩)
    go_ret
    exact ⟨ret_num HE.out.symm,hb.trans (((below_alloc _ _).trans (hb1.mono (by simp))).mono hz)⟩
  ·go_wp2
   go_ret
   obtain rfl : j = n:=by omega
   exact ⟨ret_num (firstErr_zero hall.out).symm,hb⟩
set_option maxHeartbeats 400000 in
theorem cCheckAll (v : Value) (n : Nat) (m : Nat→Nat) (K Z : Nat→Nat→Int) (w : World) (h : CellsAt w v n m K Z) :
  Calls Tryz.prog 57 #[v] w fun e w' => e = .returned (.int .i64 (allErr n m K Z))∧Below w.heap.size w w':=by
 obtain ⟨a,cap,rfl,hn,h⟩:=h
 by_cases hbig : 24 < n
 ·have HE : Hid (allErr n m K Z = 2):=if_pos hbig
  have hbi : (24 : Int) < (n : Int):=by omega
  go_enter Tryz.func57,Tryz.ntmps57
  go_wp2
  go_ret
  exact ⟨ret_num HE.out.symm,Below.refl _ _⟩
 have HA : Hid (allErr n m K Z = firstErr n fun i => cellErr (m i) (K i) (Z i) n):=if_neg hbig
 have hbi : ¬ (24 : Int) < (n : Int):=by omega
 go_enter Tryz.func57,Tryz.ntmps57
 go_wp2
 go_loopw [11] (fun i wr => ∃ j : Nat,j ≤ n∧i = .int .i64 j∧Below w.heap.size w wr∧Hid (∀ x,x < j→cellErr (m x) (K x) (Z x) n = 0)) (fun i _ => n - (intOf i).toNat)
 case atStart => exact ⟨0,Nat.zero_le _,rfl,Below.refl _ _,fun j hj => absurd hj (Nat.not_lt_zero _)⟩
 case round =>
  obtain ⟨j,hj,rfl,hb,hall⟩:=hrel
  by_cases hlt : j < n
  ·rcases h with h | ⟨p,o,rfl,hp,g⟩
   ·omega
   obtain ⟨u,q0,hv⟩:=g j hlt
   rw [← hb.cell hp] at q0
   have hv1:=hv.below hb
   clear g hv
   have hz:=hb.size
   have hv2:=hv1
   obtain ⟨a1,cap1,rfl,hn1,_⟩:=hv2
   by_cases h1 : m j < 1
   ·have HE : Hid (allErr n m K Z = 2):=by
     have e1 : cellErr (m j) (K j) (Z j) n = 2:=if_pos (Or.inl h1)
     rw [HA.out,firstErr_at hall.out (by rw [e1]; decide) hlt]; exact e1
    have h1i : (m j : Int) < 1:=by omega
    go_wp2_with fail
    go_ret
    exact ⟨ret_num HE.out.symm,hb⟩
   by_cases h4 : 4 < m j
   ·have HE : Hid (allErr n m K Z = 2):=by
     have e1 : cellErr (m j) (K j) (Z j) n = 2:=if_pos (Or.inr h4)
     rw [HA.out,firstErr_at hall.out (by rw [e1]; decide) hlt]; exact e1
    have h1i : ¬ (m j : Int) < 1:=by omega
    have h4i : (4 : Int) < (m j : Int):=by omega
    go_wp2_with fail
    go_ret
    exact ⟨ret_num HE.out.symm,hb⟩
   have HC : Hid (cellErr (m j) (K j) (Z j) n = rowErr (m j) (K j) (Z j) n):=if_neg (by omega)
   have h1i : ¬ (m j : Int) < 1:=by omega
   have h4i : ¬ (4 : Int) < (m j : Int):=by omega
   by_cases he : rowErr (m j) (K j) (Z j) n = 0
   ·have het : (rowErr (m j) (K j) (Z j) n != 0) = false:=by simp [he]
    have HE : Hid (rowErr (m j) (K j) (Z j) n = 0):=he
    clear he
    go_wp2_with (go_at_call 87; refine (cCheckRow _ _ _ _ _ _ hv1).mono ?_; rintro e w1 ⟨rfl,hb1⟩)
    go_roundw
    case rel => exact ⟨j + 1,by omega,by go_num,below_step hb hb1,upTo hall.out (HC.out.trans HE.out)⟩
    case measure => simp [intOf]; omega
   ·have het : (rowErr (m j) (K j) (Z j) n != 0) = true:=by simp [he]
    have HE : Hid (allErr n m K Z = rowErr (m j) (K j) (Z j) n):=by
     rw [HA.out,firstErr_at hall.out (by rw [HC.out]; exact he) hlt]; exact HC.out
    clear he
    go_wp2_with (go_at_call 87; refine (cCheckRow _ _ _ _ _ _ hv1).mono ?_; rintro e w1 ⟨rfl,hb1⟩)
    go_ret
    exact ⟨ret_num HE.out.symm,below_step hb hb1⟩
  ·go_wp2_with fail
   go_ret
   obtain rfl : j = n:=by omega
   exact ⟨ret_num (HA.out.trans (firstErr_zero hall.out)).symm,hb⟩
theorem reachErr_all {n : Nat} {m : Nat→Nat} {K Z : Nat→Nat→Int} {f : Nat} {kf zf : Nat→Int} (h : ¬ allErr n m K Z = 0) : reachErr n m K Z f kf zf = allErr n m K Z:=if_neg h
theorem reachErr_many {n : Nat} {m : Nat→Nat} {K Z : Nat→Nat→Int} {f : Nat} {kf zf : Nat→Int} (h : allErr n m K Z = 0) (hf : 400 < f) : reachErr n m K Z f kf zf = 2:=by
 unfold reachErr; rw [if_pos h,if_pos hf]
theorem reachErr_row {n : Nat} {m : Nat→Nat} {K Z : Nat→Nat→Int} {f : Nat} {kf zf : Nat→Int} (h : allErr n m K Z = 0) (hf : ¬ 400 < f) : reachErr n m K Z f kf zf = rowErr f kf zf n:=by
 unfold reachErr; rw [if_pos h,if_neg hf]
set_option maxHeartbeats 400000 in
theorem cCheckReach (v u : Value) (n : Nat) (m : Nat→Nat) (K Z : Nat→Nat→Int) (f : Nat) (kf zf : Nat→Int) (w : World) (h : CellsAt w v n m K Z) (hu : ValsAt w u f kf zf) :
  Calls Tryz.prog 89 #[v,u] w fun e w' => e = .returned (.int .i64 (reachErr n m K Z f kf zf))∧Below w.heap.size w w':=by
 have h':=h
 have hu':=hu
 obtain ⟨a,cap,rfl,hn,_⟩:=h'
 obtain ⟨b,cap1,rfl,hf,_⟩:=hu'
 by_cases he : allErr n m K Z = 0
 ·have het : (allErr n m K Z != 0) = false:=by simp [he]
  by_cases hbig : 400 < f
  ·have HE : Hid (reachErr n m K Z f kf zf = 2):=reachErr_many he hbig
   have hbi : (400 : Int) < (f : Int):=by omega
   clear he
   go_enter Tryz.func89,Tryz.ntmps89
   go_wp2_with (go_at_call 57; refine (cCheckAll _ _ _ _ _ _ h).mono ?_; rintro e w1 ⟨rfl,hb1⟩)
   go_ret
   exact ⟨ret_num HE.out.symm,hb1⟩
  ·have HE : Hid (reachErr n m K Z f kf zf = rowErr f kf zf n):=reachErr_row he hbig
   have hbi : ¬ (400 : Int) < (f : Int):=by omega
   clear he
   go_enter Tryz.func89,Tryz.ntmps89
   go_wp2_with (first | (go_at_call 57; refine (cCheckAll _ _ _ _ _ _ h).mono ?_; rintro e w1 ⟨rfl,hb1⟩) | (go_at_call 87; refine (cCheckRow _ _ _ _ _ _ (hu.below hb1)).mono ?_; rintro e w2 ⟨rfl,hb2⟩))
   go_ret
   exact ⟨ret_num HE.out.symm,below_step hb1 hb2⟩
 ·have het : (allErr n m K Z != 0) = true:=by simp [he]
  have HE : Hid (reachErr n m K Z f kf zf = allErr n m K Z):=reachErr_all he
  clear he
  go_enter Tryz.func89,Tryz.ntmps89
  go_wp2_with (go_at_call 57; refine (cCheckAll _ _ _ _ _ _ h).mono ?_; rintro e w1 ⟨rfl,hb1⟩)
  go_ret
  exact ⟨ret_num HE.out.symm,hb1⟩
end Go.Proofs.YtipnjoahobplhaaGreatDoor
namespace Go.Proofs.YtipnjoahobplhaaGreatDoor
def eqV (n1 n2 : Nat) (k1 z1 k2 z2 : Nat→Int) : Bool:=decide (n1 = n2∧∀ i,i < n1→k1 i = k2 i∧z1 i = z2 i)
theorem eqV_iff {n1 n2 : Nat} {k1 z1 k2 z2 : Nat→Int} : eqV n1 n2 k1 z1 k2 z2 = true ↔ n1 = n2∧∀ i,i < n1→k1 i = k2 i∧z1 i = z2 i:=by
 unfold eqV; exact decide_eq_true_iff
theorem eqV_yes {n : Nat} {k1 z1 k2 z2 : Nat→Int} (h : ∀ i,i < n→k1 i = k2 i∧z1 i = z2 i) : eqV n n k1 z1 k2 z2 = true:=eqV_iff.2 ⟨rfl,h⟩
theorem eqV_no {n1 n2 : Nat} {k1 z1 k2 z2 : Nat→Int} {k : Nat} (hk : k < n1) (h : ¬ (k1 k = k2 k∧z1 k = z2 k)) : eqV n1 n2 k1 z1 k2 z2 = false:=by
 rw [Bool.eq_false_iff]; intro e; exact h ((eqV_iff.1 e).2 k hk)
theorem eqV_len {n1 n2 : Nat} {k1 z1 k2 z2 : Nat→Int} (h : ¬ n1 = n2) : eqV n1 n2 k1 z1 k2 z2 = false:=by
 rw [Bool.eq_false_iff]; intro e; exact h (eqV_iff.1 e).1
end Go.Proofs.YtipnjoahobplhaaGreatDoor
namespace Go.Proofs.YtipnjoahobplhaaGreatDoor
open Go.RowKit
theorem eqVal (a b c d : Int) (w : World) : (Op.equalIn 10000 61 (.agg #[.int .i64 a,.int .i64 b]) (.agg #[.int .i64 c,.int .i64 d])).run Tryz.prog w = .ok (a == c && b == d) w:=by
 have u3:=Tryz.underlying3
 have a3:=Tryz.isAgg3
 have z3:=Tryz.sizeOf3
 have hS : Tryz.prog.underlying 61 = some (.struct (Tryz.prog.fieldsOf 61)):=by kernel_rfl
 rw [show (10000 : Nat) = 9999 + 1 from rfl,run_equalIn_agg w 9999 61 _ _ hS (by kernel_rfl)]
 simp only [Program.fieldsOf,Tryz.underlying61]
 go_simp
 by_cases h1 : a = c <;> by_cases h2 : b = d <;> simp [h1,h2]
theorem neqVal (a b c d : Int) (w : World) : (binOp .neq 61 (.agg #[.int .i64 a,.int .i64 b]) (.agg #[.int .i64 c,.int .i64 d])).run Tryz.prog w = .ok (.bool (!(a == c && b == d))) w:=by
 rw [run_neq_struct,eqVal]; rfl
set_option maxHeartbeats 400000 in
theorem eqValsC (v1 v2 : Value) (n1 n2 : Nat) (k1 z1 k2 z2 : Nat→Int) (w : World) (h1 : ValsAt w v1 n1 k1 z1) (h2 : ValsAt w v2 n2 k2 z2) :
  Calls Tryz.prog 50 #[v1,v2] w fun e w' => e = .returned (.bool (eqV n1 n2 k1 z1 k2 z2))∧∃ n,w' = w.drewN n:=by
 obtain ⟨a1,c1,rfl,b1,h1⟩:=h1
 obtain ⟨a2,c2,rfl,b2,h2⟩:=h2
 by_cases hn : n1 = n2
 ·subst hn
  have ht : ((n1 : Int) != (n1 : Int)) = false:=by simp
  go_enter Tryz.func50,Tryz.ntmps50
  go_wp2
  go_loopw [13] (fun i wr => ∃ k m : Nat,k ≤ n1∧i = .int .i64 k∧wr = w.drewN m∧Hid (∀ j,j < k→k1 j = k2 j∧z1 j = z2 j)) (fun i _ => n1 - (intOf i).toNat)
  case atStart => exact ⟨0,0,Nat.zero_le _,rfl,rfl,fun j hj => absurd hj (Nat.not_lt_zero _)⟩
  case round =>
   obtain ⟨k,m,hk,rfl,rfl,hall⟩:=hrel
   by_cases hlt : k < n1
   ·rcases h1 with h1 | ⟨p1,o1,rfl,l1,g1⟩
    ·omega
    rcases h2 with h2 | ⟨p2,o2,rfl,l2,g2⟩
    ·omega
    obtain ⟨q1,r1⟩:=g1 k hlt
    obtain ⟨q2,r2⟩:=g2 k hlt
    clear g1 g2
    by_cases he : k1 k = k2 k∧z1 k = z2 k
    ·have HE : Hid (k1 k = k2 k∧z1 k = z2 k):=he
     have het : ∀ w : World,(binOp .neq 61 (.agg #[.int .i64 (k1 k),.int .i64 (z1 k)]) (.agg #[.int .i64 (k2 k),.int .i64 (z2 k)])).run Tryz.prog w = .ok (.bool false) w:=by
      intro w; rw [neqVal,he.1,he.2]; simp
     clear he
     go_wp2
     go_quiet (fail)
     go_wp2
     go_roundw
     case rel => exact ⟨k + 1,m + nq,by omega,by go_num,by simp,upTo hall.out HE.out⟩
     case measure => simp [intOf]; omega
    ·have HE : Hid (eqV n1 n1 k1 z1 k2 z2 = false):=eqV_no hlt he
     have het : ∀ w : World,(binOp .neq 61 (.agg #[.int .i64 (k1 k),.int .i64 (z1 k)]) (.agg #[.int .i64 (k2 k),.int .i64 (z2 k)])).run Tryz.prog w = .ok (.bool true) w:=by
      intro w
      rw [neqVal]
      have : (k1 k == k2 k && z1 k == z2 k) = false:=by
       rw [Bool.eq_false_iff]; intro e; rw [Bool.and_eq_true,beq_iff_eq,beq_iff_eq] at e; exact he e
      rw [this]; rfl
     clear he
     go_wp2
     go_quiet (fail)
     go_wp2
     go_ret
     exact ⟨ret_bool HE.out.symm,m + nq,by simp⟩
   ·go_wp2
    go_ret
    obtain rfl : k = n1:=by omega
    exact ⟨ret_bool (eqV_yes hall.out).symm,_,rfl⟩
 ·have ht : ((n1 : Int) != (n2 : Int)) = true:=by simp; omega
  have HN : Hid (eqV n1 n2 k1 z1 k2 z2 = false):=eqV_len hn
  clear hn
  go_enter Tryz.func50,Tryz.ntmps50
  go_wp2
  go_ret
  exact ⟨ret_bool HN.out.symm,0,rfl⟩
def eqCl (n1 n2 : Nat) (m1 m2 : Nat→Nat) (K1 Z1 K2 Z2 : Nat→Nat→Int) : Bool:=decide (n1 = n2∧∀ i,i < n1→eqV (m1 i) (m2 i) (K1 i) (Z1 i) (K2 i) (Z2 i) = true)
theorem eqCl_iff {n1 n2 : Nat} {m1 m2 : Nat→Nat} {K1 Z1 K2 Z2 : Nat→Nat→Int} : eqCl n1 n2 m1 m2 K1 Z1 K2 Z2 = true ↔ n1 = n2∧∀ i,i < n1→eqV (m1 i) (m2 i) (K1 i) (Z1 i) (K2 i) (Z2 i) = true:=by
 unfold eqCl; exact decide_eq_true_iff
theorem eqCl_yes {n : Nat} {m1 m2 : Nat→Nat} {K1 Z1 K2 Z2 : Nat→Nat→Int} (h : ∀ i,i < n→eqV (m1 i) (m2 i) (K1 i) (Z1 i) (K2 i) (Z2 i) = true) : eqCl n n m1 m2 K1 Z1 K2 Z2 = true:=eqCl_iff.2 ⟨rfl,h⟩
theorem eqCl_no {n1 n2 : Nat} {m1 m2 : Nat→Nat} {K1 Z1 K2 Z2 : Nat→Nat→Int} {k : Nat} (hk : k < n1) (h : eqV (m1 k) (m2 k) (K1 k) (Z1 k) (K2 k) (Z2 k) = false) : eqCl n1 n2 m1 m2 K1 Z1 K2 Z2 = false:=by
 rw [Bool.eq_false_iff]; intro e; have:=(eqCl_iff.1 e).2 k hk; rw [h] at this; cases this
theorem eqCl_len {n1 n2 : Nat} {m1 m2 : Nat→Nat} {K1 Z1 K2 Z2 : Nat→Nat→Int} (h : ¬ n1 = n2) : eqCl n1 n2 m1 m2 K1 Z1 K2 Z2 = false:=by
 rw [Bool.eq_false_iff]; intro e; exact h (eqCl_iff.1 e).1
set_option maxHeartbeats 400000 in
theorem cSame (v1 v2 : Value) (n1 n2 : Nat) (m1 m2 : Nat→Nat) (K1 Z1 K2 Z2 : Nat→Nat→Int) (w : World) (h1 : CellsAt w v1 n1 m1 K1 Z1) (h2 : CellsAt w v2 n2 m2 K2 Z2) :
  Calls Tryz.prog 52 #[v1,v2] w fun e w' => e = .returned (.bool (eqCl n1 n2 m1 m2 K1 Z1 K2 Z2))∧∃ n,w' = w.drewN n:=by
 obtain ⟨a1,c1,rfl,b1,h1⟩:=h1
 obtain ⟨a2,c2,rfl,b2,h2⟩:=h2
 by_cases hn : n1 = n2
 ·subst hn
  have ht : ((n1 : Int) != (n1 : Int)) = false:=by simp
  go_enter Tryz.func52,Tryz.ntmps52
  go_wp2
  go_loopw [13] (fun i wr => ∃ k m : Nat,k ≤ n1∧i = .int .i64 k∧wr = w.drewN m∧Hid (∀ j,j < k→eqV (m1 j) (m2 j) (K1 j) (Z1 j) (K2 j) (Z2 j) = true)) (fun i _ => n1 - (intOf i).toNat)
  case atStart => exact ⟨0,0,Nat.zero_le _,rfl,rfl,fun j hj => absurd hj (Nat.not_lt_zero _)⟩
  case round =>
   obtain ⟨k,m,hk,rfl,hw,hall⟩:=hrel
   by_cases hlt : k < n1
   ·rcases h1 with h1 | ⟨p1,o1,rfl,l1,g1⟩
    ·omega
    rcases h2 with h2 | ⟨p2,o2,rfl,l2,g2⟩
    ·omega
    obtain ⟨u1,q1,r1⟩:=g1 k hlt
    obtain ⟨u2,q2,r2⟩:=g2 k hlt
    have s1 : wr.cell? ⟨p1,o1 + k,none⟩ = some u1:=by rw [hw,World.cell?_drewN]; exact q1
    have s2 : wr.cell? ⟨p2,o2 + k,none⟩ = some u2:=by rw [hw,World.cell?_drewN]; exact q2
    have HQ : Hid (∀ y,Calls Tryz.prog 50 #[u1,u2] (wr.drewN y) fun e w' => e = .returned (.bool (eqV (m1 k) (m2 k) (K1 k) (Z1 k) (K2 k) (Z2 k)))∧∃ n,w' = (wr.drewN y).drewN n):=by
     intro y
     rw [hw]
     exact eqValsC _ _ _ _ _ _ _ _ _ ((r1.drewN m).drewN y) ((r2.drewN m).drewN y)
    have HW : Hid (wr = w.drewN m):=hw
    clear g1 g2 r1 r2 q1 q2 hw
    by_cases he : eqV (m1 k) (m2 k) (K1 k) (Z1 k) (K2 k) (Z2 k) = true
    ·have HE : Hid (eqV (m1 k) (m2 k) (K1 k) (Z1 k) (K2 k) (Z2 k) = true):=he
     rw [he] at HQ
     clear he
     go_wp2
     go_quiet ((go_at_call 50; exact Calls.quiet_of (HQ.out _)))
     go_wp2
     go_roundw
     case rel => exact ⟨k + 1,m + nq,by omega,by go_num,by rw [HW.out,World.drewN_drewN],upTo hall.out HE.out⟩
     case measure => simp [intOf]; omega
    ·have hf : eqV (m1 k) (m2 k) (K1 k) (Z1 k) (K2 k) (Z2 k) = false:=by simpa using he
     have HE : Hid (eqCl n1 n1 m1 m2 K1 Z1 K2 Z2 = false):=eqCl_no hlt hf
     rw [hf] at HQ
     clear he hf
     go_wp2
     go_quiet ((go_at_call 50; exact Calls.quiet_of (HQ.out _)))
     go_wp2
     go_ret
     exact ⟨ret_bool HE.out.symm,m + nq,by rw [HW.out,World.drewN_drewN]⟩
   ·subst hw
    go_wp2
    go_ret
    obtain rfl : k = n1:=by omega
    exact ⟨ret_bool (eqCl_yes hall.out).symm,_,rfl⟩
 ·have ht : ((n1 : Int) != (n2 : Int)) = true:=by simp; omega
  have HN : Hid (eqCl n1 n2 m1 m2 K1 Z1 K2 Z2 = false):=eqCl_len hn
  clear hn
  go_enter Tryz.func52,Tryz.ntmps52
  go_wp2
  go_ret
  exact ⟨ret_bool HN.out.symm,0,rfl⟩
end Go.Proofs.YtipnjoahobplhaaGreatDoor
namespace Go.Proofs.YtipnjoahobplhaaGreatDoor
open Go.RowKit Go.Maps
def setD (R : List Int) : DataW Unit:=setOf (.agg []) (R.map (Lit.int .i64))
theorem setD_nil : setD [] = .map []:=rfl
theorem setD_snoc (R : List Int) (x : Int) : setD (R ++ [x]) = (setD R).put (.int .i64 x) (.agg []):=by
 unfold setD; rw [List.map_append]; exact setOf_snoc _ _ _
theorem any_int (x : Int) : ∀ l : List Int,l.any ((fun y : Lit => y.sameKey (.int .i64 x)) ∘ Lit.int .i64) = l.contains x
 | [] => rfl
 | a :: r => by
  rw [List.any_cons,List.contains_cons,any_int x r]
  congr 1
  show decide (IntKind.i64 = IntKind.i64∧a = x) = (x == a)
  by_cases e : a = x
  ·subst e; simp
  ·have e' : ¬ x = a:=fun h => e h.symm
   simp [e,e']
theorem has_setD (R : List Int) (x : Int) : Maps.has (setD R) (.int .i64 x) = R.contains x:=by
 unfold setD
 rw [has_setOf _ _ _ (fun y hy => by obtain ⟨_,_,rfl⟩:=List.mem_map.1 hy; trivial),List.any_map]
 exact any_int x _
theorem law3v : Keyed Tryz.prog 3:=int_keyed Tryz.underlying3
theorem zeroU (w : World) : (zeroValue 135).run Tryz.prog w = .ok (.agg #[]) w:=by kernel_rfl
theorem info3v : (Tryz.prog.info? 3).map (fun i => (i.zero,i.size,i.bytes)) = some (some (.int .i64 0),1,8):=by kernel_rfl
structure RSt (w : World) (rb mb sb base : Nat) (R : List Int) : Prop where
 lr : rb < base
 lm : mb < base
 ls : sb < base
 nrm : rb ≠ mb
 nsr : sb ≠ rb
 nsm : sb ≠ mb
 size : base ≤ w.heap.size
 list : ∃ v,w.cell? ⟨rb,0,none⟩ = some v∧w.ownsRow base 3 1 v R.length (R.map (Value.int .i64))
 free : w.frozen? ⟨rb,0,none⟩ = false
 name : w.cell? ⟨mb,0,none⟩ = some (.map (some sb))
 set : w.ownsMap Tryz.prog 3 (unitElem (H:=Unit)) sb R.length (setD R)
theorem RSt.alloc {w : World} {rb mb sb base : Nat} {R : List Int} (h : RSt w rb mb sb base R) (o : Obj) : RSt (w.alloc o) rb mb sb base R:=by
 have hb:=below_alloc w o
 have hs:=h.size
 obtain ⟨v,hv,hrow⟩:=h.list
 exact ⟨h.lr,h.lm,h.ls,h.nrm,h.nsr,h.nsm,Nat.le_trans hs hb.size,⟨v,(hb.cell (p:=⟨rb,0,none⟩) (Nat.lt_of_lt_of_le h.lr hs)).trans hv,hrow.alloc o⟩,
  (hb.frozen (p:=⟨rb,0,none⟩) (Nat.lt_of_lt_of_le h.lr hs)).trans h.free,(hb.cell (p:=⟨mb,0,none⟩) (Nat.lt_of_lt_of_le h.lm hs)).trans h.name,h.set.alloc o⟩
theorem RSt.put {w w1 : World} {rb mb sb base : Nat} {R : List Int} {v : Value} (h : RSt w rb mb sb base R) (hv : w.cell? ⟨rb,0,none⟩ = some v) (hrow : w.ownsRow base 3 1 v R.length (R.map (Value.int .i64)))
  (hg : w.grownBy w1 (some sb)) : w1.cell? ⟨rb,0,none⟩ = some v∧w1.frozen? ⟨rb,0,none⟩ = false∧w1.cell? ⟨mb,0,none⟩ = some (.map (some sb))∧w1.ownsRow base 3 1 v R.length (R.map (Value.int .i64))∧base ≤ w1.heap.size:=by
 have hs:=h.size
 have hr:=hg.block rb (Nat.lt_of_lt_of_le h.lr hs) (fun e => h.nsr (Option.some.inj e).symm)
 have hm:=hg.block mb (Nat.lt_of_lt_of_le h.lm hs) (fun e => h.nsm (Option.some.inj e).symm)
 refine ⟨(World.cell?_of_block (w:=w) (a:=⟨rb,0,none⟩) hr).trans hv,(World.frozen?_of_block (w:=w) (a:=⟨rb,0,none⟩) hr).trans h.free,(World.cell?_of_block (w:=w) (a:=⟨mb,0,none⟩) hm).trans h.name,
  hrow.kept hg (Or.inr fun e => ?_),Nat.le_trans hs hg.size⟩
 have:=(hrow.lt sb e).1
 have:=h.ls
 omega
theorem RSt.add {w w1 w2 : World} {rb mb sb base : Nat} {R : List Int} {v v' : Value} {x : Int} {o : Obj} (h : RSt w rb mb sb base R) (hv : w.cell? ⟨rb,0,none⟩ = some v) (hrow : w.ownsRow base 3 1 v R.length (R.map (Value.int .i64)))
  (hg : w.grownBy w1 (some sb)) (hset : w1.ownsMap Tryz.prog 3 (unitElem (H:=Unit)) sb (R.length + 1) ((setD R).put (.int .i64 x) (.agg [])))
  (hg2 : (w1.alloc o).grownBy w2 v.ownBlock) (hrow2 : w2.ownsRow base 3 1 v' (R.length + 1) (R.map (Value.int .i64) ++ [.int .i64 x])) :
  w2.cell? ⟨rb,0,none⟩ = some v∧w2.frozen? ⟨rb,0,none⟩ = false∧RSt (w2.setCell ⟨rb,0,none⟩ v') rb mb sb base (R ++ [x]):=by
 obtain ⟨c1,f1,m1,r1,s1⟩:=h.put hv hrow hg
 have low : ∀ b,b < base→w2.heap[b]? = w1.heap[b]?:=fun b hb => by
  have e1:=hg2.block b (by simp; omega) (fun e => by have:=(r1.lt b e.symm).1; omega)
  exact e1.trans (Below.heap_alloc w1 o b (by omega))
 have cr : w2.cell? ⟨rb,0,none⟩ = some v:=(World.cell?_of_block (w:=w1) (a:=⟨rb,0,none⟩) (low rb h.lr)).trans c1
 have fr : w2.frozen? ⟨rb,0,none⟩ = false:=(World.frozen?_of_block (w:=w1) (a:=⟨rb,0,none⟩) (low rb h.lr)).trans f1
 refine ⟨cr,fr,⟨h.lr,h.lm,h.ls,h.nrm,h.nsr,h.nsm,?_,⟨v',World.cell?_setCell_same _ _ _ cr,?_⟩,?_,?_,?_⟩⟩
 ·have:=hg2.size
  simp [World.setCell] at this ⊢
  omega
 ·have:=ownsRow_setCell_below hrow2 (a:=⟨rb,0,none⟩) h.lr v'
  simpa using this
 ·rw [World.frozen?_setCell]; exact fr
 ·rw [World.cell?_setCell_other _ _ _ _ (fun e => h.nrm (congrArg Addr.block e))]
  exact (World.cell?_of_block (w:=w1) (a:=⟨mb,0,none⟩) (low mb h.lm)).trans m1
 ·rw [setD_snoc]
  have hk : w2.ownsMap Tryz.prog 3 (unitElem (H:=Unit)) sb (R.length + 1) ((setD R).put (.int .i64 x) (.agg [])):=(hset.alloc o).kept hg2 (fun e => by have:=(r1.lt sb e.symm).1; have:=h.ls; omega)
  have:=hk.setCell (a:=⟨rb,0,none⟩) h.nsr v'
  simpa using this
theorem wf_small {x : Int} (h0 : 0 ≤ x) (h1 : x ≤ 1000) : (Lit.int .i64 x).wf = true:=WalkArith.wf_i64 (by omega)
theorem append_intv {ops : Array Oper} {rest : List Oper} {o : Oper} {a : Act} {Q : Exit→Act→World→Prop} (w : World) (hgd : o.guard = none) (s y : Operand)
  (ho : o.op = .call { callee:=.builtin .append,args:=#[s,y],argTypes:=#[30,30] }) (base : Nat) (v : Value) (R : List Int) (hs : a.eval s = v) (hown : w.ownsRow base 3 1 v R.length (R.map (Value.int .i64)))
  (x : Int) (t : TypeId) (B : Nat) (hB : w.heap.size = B) (hy : a.eval y = .slice (some ⟨B,0,none⟩) 1 1) (hR : R.length ≤ 100000) (hbase : base ≤ w.heap.size)
  (h : ∀ ad cap w2,w2.ownsRow base 3 1 (.slice ad (R.length + 1) cap) (R.length + 1) (R.map (Value.int .i64) ++ [.int .i64 x])→(w.alloc (.cells #[.int .i64 x] t)).grownBy w2 v.ownBlock→wpList Tryz.prog ops Q rest (a.put o.dst (.slice ad (R.length + 1) cap)) w2) :
  wpList Tryz.prog ops Q (o :: rest) a (w.alloc (.cells #[.int .i64 x] t)):=by
 subst hB
 obtain ⟨i0,hi,hz0,hz1,hz2⟩:=info_parts info3v
 refine wpList_append_own _ hgd s y 30 ho base 3 i0 (.int .i64 0) 1 8 Tryz.underlying30 hi hz0 hz1 hz2 rfl (by decide) v _ _ hs (hown.alloc _) ⟨w.heap.size,0,none⟩ 1 1 [.int .i64 x] hy rfl (cell_one_new _ _ _) (ints_oneCell .i64 [x]) (by unfold maxLen; omega) (by omega) (by simp; omega) ?_
 intro v' w2 h1 h2 _
 obtain ⟨ad,cap,rfl⟩:=own_shape h1
 exact h ad cap w2 h1 h2
theorem boxv_kept {wr w1 : World} {sb : Nat} {c0 c1 : Value} {t t' : TypeId} (hg : ((wr.alloc (.cells #[c0,c1] t)).alloc (.cells #[] t')).grownBy w1 (some sb)) (hs : sb < wr.heap.size) :
  w1.cell? ⟨wr.heap.size,1,none⟩ = some c1:=by
 have e:=hg.block wr.heap.size (by simp; omega) (fun e => by have:=Option.some.inj e; omega)
 refine (World.cell?_of_block (w:=(wr.alloc (.cells #[c0,c1] t)).alloc (.cells #[] t')) (a:=⟨wr.heap.size,1,none⟩) e).trans ?_
 rw [World.cell?_alloc_lt _ _ _ (by simp),World.cell?_alloc_new]
 rfl
set_option maxHeartbeats 1000000 in
theorem cMeetV (v : Value) (n : Nat) (k z : Nat→Int) (w0 w : World) (rb mb sb base : Nat) (R : List Int) (h : ValsAt w0 v n k z) (hb0 : Below w0.heap.size w0 w) (hst : RSt w rb mb sb base R)
  (l1 : w0.heap.size ≤ rb) (l2 : w0.heap.size ≤ sb) (hlen : R.length + n ≤ 1000) (hz : ∀ i,i < n→k i = 2→0 ≤ z i∧z i ≤ 1000) :
  Calls Tryz.prog 90 #[v,.pointer (some ⟨mb,0,none⟩),.pointer (some ⟨rb,0,none⟩)] w fun e w' => e = .returned (.tuple #[])∧RSt w' rb mb sb base (meetTo n k z R)∧Below w0.heap.size w0 w':=by
 obtain ⟨a,cap,rfl,hn,h⟩:=h
 go_enter Tryz.func90,Tryz.ntmps90
 go_wp2
 go_loopw [10] (fun i wr => ∃ j : Nat,j ≤ n∧i = .int .i64 j∧RSt wr rb mb sb base (meetTo j k z R)∧Below w0.heap.size w0 wr) (fun i _ => n - (intOf i).toNat)
 case atStart => exact ⟨0,Nat.zero_le _,rfl,hst,hb0⟩
 case round =>
  clear hst hb0
  obtain ⟨j,hj,rfl,hst,hb⟩:=hrel
  by_cases hlt : j < n
  ·rcases h with h | ⟨p,o,rfl,hp,g⟩
   ·omega
   obtain ⟨q0,q1⟩:=g j hlt
   rw [← hb.cell hp] at q0 q1
   clear g
   have hl:=meetTo_len j k z R
   have HS : Hid (meetTo (j + 1) k z R = meet1 (meetTo j k z R) (k j) (z j)):=rfl
   have hzj:=hz j hlt
   generalize meetTo j k z R = R1 at *
   generalize k j = kj at *
   generalize z j = zj at *
   have hsz:=hb.size
   have hbs:=hst.size
   by_cases hk : kj = 2
   ·subst hk
    obtain ⟨z0,z1⟩:=hzj rfl
    have hkey : keyOf Tryz.prog 3 (.int .i64 zj) = some (.int .i64 zj):=keyOf_int_mk Tryz.underlying3 (wf_small z0 z1)
    obtain ⟨u,hu,hrow⟩:=hst.list
    have hnm:=hst.name
    have hfr:=hst.free
    have hmap:=hst.set
    have hmb : mb < wr.heap.size:=Nat.lt_of_lt_of_le hst.lm hbs
    have hrb : rb < wr.heap.size:=Nat.lt_of_lt_of_le hst.lr hbs
    have hsb : sb < wr.heap.size:=Nat.lt_of_lt_of_le hst.ls hbs
    by_cases hin : zj ∈ R1
    ·have hht : Maps.has (setD R1) (.int .i64 zj) = true:=by rw [has_setD]; simpa using hin
     have HE : Hid (meet1 R1 2 zj = R1):=meet1_old hin
     have HT : Hid (RSt wr rb mb sb base R1):=hst
     clear hin hst hrow hfr hu
     go_wp2_with (at_lookup; refine wpList_lookup_own_unit _ rfl _ _ 134 rfl 3 135 law3v Tryz.underlying134 (zeroU _) sb _ _ rfl (hmap.alloc _) _ _ rfl hkey ?_)
     go_roundw
     case rel => exact ⟨j + 1,by omega,by go_num,by rw [HS.out,HE.out]; exact (HT.out.alloc _).alloc _,(hb.alloc hsz _).alloc (by simp; omega) _⟩
     case measure => simp [intOf]; omega
    ·have hht : Maps.has (setD R1) (.int .i64 zj) = false:=by rw [has_setD]; simpa using hin
     have HE : Hid (meet1 R1 2 zj = R1 ++ [zj]):=meet1_new rfl hin
     have HT : Hid (RSt wr rb mb sb base R1):=hst
     clear hin hst
     go_wp2_with (first
      | (at_lookup; refine wpList_lookup_own_unit _ rfl _ _ 134 rfl 3 135 law3v Tryz.underlying134 (zeroU _) sb _ _ rfl (hmap.alloc _) _ _ rfl hkey ?_)
      | (at_mapUpdate; refine wpList_mapUpdate_own _ rfl _ _ _ 134 rfl 3 135 law3v Tryz.underlying134 (unitElem (H:=Unit)) sb _ _ rfl ((hmap.alloc _).alloc _) (by unfold maxLen; omega) _ _ _ rfl rfl hkey _ [] unitElem_mk ?_; intro w1 hown1 hgrow1; obtain ⟨c1,f1,m1,r1,s1⟩:=((HT.out.alloc _).alloc _).put (v:=u) (by go_simp) ((hrow.alloc _).alloc _) hgrow1; have c5:=boxv_kept hgrow1 hsb)
      | (at_builtin; refine append_intv _ rfl _ _ rfl base _ R1 rfl r1 zj _ _ rfl rfl (by omega) s1 ?_; intro ad cp w2 hown2 hgrow2; obtain ⟨c2,f2,HT2⟩:=((HT.out.alloc _).alloc _).add (v:=u) (by go_simp) ((hrow.alloc _).alloc _) hgrow1 hown1 hgrow2 hown2))
     go_roundw
     case rel =>
      have b2:=((hb.alloc hsz _).alloc (by simp; omega) _).grown hgrow1 (by simp; omega) (fun k hk => by cases hk; exact l2)
      have b3:=(b2.alloc b2.size _).grown hgrow2 (Nat.le_trans b2.size (by simp)) (fun k hk => Nat.le_trans (Nat.le_trans l1 (Nat.le_of_lt HT.out.lr)) (r1.lt k hk).1)
      exact ⟨j + 1,by omega,by go_num,by rw [HS.out,HE.out]; exact HT2,b3.setCell l1 _⟩
     case measure => simp [intOf]; omega
   ·have hkt : (kj != 2) = true:=by simp [hk]
    have HE : Hid (meet1 R1 kj zj = R1):=meet1_no hk
    clear hk
    go_wp2
    go_roundw
    case rel => exact ⟨j + 1,by omega,by go_num,by rw [HS.out,HE.out]; exact hst.alloc _,hb.alloc hsz _⟩
    case measure => simp [intOf]; omega
  ·go_wp2
   go_end0
   obtain rfl : j = n:=by omega
   exact ⟨rfl,hst,hb⟩
end Go.Proofs.YtipnjoahobplhaaGreatDoor
