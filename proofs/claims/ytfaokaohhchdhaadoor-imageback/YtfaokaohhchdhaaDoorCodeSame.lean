/- code.Same: programs of instructions are alike just if all is, by the program. -/
import Derived.Test.YtfaokaohhchdhaaDoorCSameMath
namespace Go.Proofs.YtfaokaohhchdhaaDoor
open Go.RowKit

set_option maxHeartbeats 2000000 in
theorem sameIns (N : Nat) (i j : In) (v1 v2 : Value) (w : World) (hN : N ≤ w.heap.size) (h1 : NumsAt N w v1 i.n i.z) (h2 : NumsAt N w v2 j.n j.z) :
  Calls Tryd.prog 55 #[.agg #[.int .i64 i.op,.int .i64 i.a,.int .i64 i.b,.int .i64 i.c,v1],.agg #[.int .i64 j.op,.int .i64 j.a,.int .i64 j.b,.int .i64 j.c,v2]] w fun e w' => e = .returned (.bool (eqInB i j))∧Below w.heap.size w w':=by
 obtain ⟨a1,c1,rfl,_⟩:=h1.shape
 obtain ⟨a2,c2,rfl,_⟩:=h2.shape
 have HW : Hid (∀ o1 o2 : Obj,Below w.heap.size w ((w.alloc o1).alloc o2)):=fun o1 o2 => below_step (below_alloc _ _) (below_alloc _ _)
 have HC : Hid (∀ wk,Below w.heap.size w wk→Calls Tryd.prog 27 #[.slice a1 i.n c1,.slice a2 j.n c2] wk fun e w' => e = .returned (.bool (eqB i.n j.n i.z j.z))∧Below wk.heap.size wk w'):=fun wk hk =>
  eqNums N _ _ _ _ _ _ wk (h1.below (hk.mono hN)) (h2.below (hk.mono hN))
 clear h1 h2
 by_cases k0 : i.op = j.op
 ·by_cases k1 : i.a = j.a
  ·by_cases k2 : i.b = j.b
   ·by_cases k3 : i.c = j.c
    ·have HE : Hid (eqInB i j = eqB i.n j.n i.z j.z):=by show _ = _; unfold eqInB; simp [k0,k1,k2,k3]
     have b0 : (i.op == j.op) = true:=by simp [k0]
     have b1 : (i.a == j.a) = true:=by simp [k1]
     have b2 : (i.b == j.b) = true:=by simp [k2]
     have b3 : (i.c == j.c) = true:=by simp [k3]
     clear k0 k1 k2 k3
     go_enter Tryd.func55,Tryd.ntmps55
     go_wp2_with (go_at_call 27; refine (HC.out _ (HW.out _ _)).mono ?_; rintro e w1 ⟨rfl,hb1⟩)
     go_ret
     exact ⟨ret_bool HE.out.symm,below_step (HW.out _ _) hb1⟩
    ·have HE : Hid (eqInB i j = false):=by show _ = _; unfold eqInB; simp [k3]
     have b0 : (i.op == j.op) = true:=by simp [k0]
     have b1 : (i.a == j.a) = true:=by simp [k1]
     have b2 : (i.b == j.b) = true:=by simp [k2]
     have b3 : (i.c == j.c) = false:=by simp [k3]
     clear HC k0 k1 k2 k3
     go_enter Tryd.func55,Tryd.ntmps55
     go_wp2_with fail
     go_ret
     exact ⟨ret_bool HE.out.symm,HW.out _ _⟩
   ·have HE : Hid (eqInB i j = false):=by show _ = _; unfold eqInB; simp [k2]
    have b0 : (i.op == j.op) = true:=by simp [k0]
    have b1 : (i.a == j.a) = true:=by simp [k1]
    have b2 : (i.b == j.b) = false:=by simp [k2]
    clear HC k0 k1 k2
    go_enter Tryd.func55,Tryd.ntmps55
    go_wp2_with fail
    go_ret
    exact ⟨ret_bool HE.out.symm,HW.out _ _⟩
  ·have HE : Hid (eqInB i j = false):=by show _ = _; unfold eqInB; simp [k1]
   have b0 : (i.op == j.op) = true:=by simp [k0]
   have b1 : (i.a == j.a) = false:=by simp [k1]
   clear HC k0 k1
   go_enter Tryd.func55,Tryd.ntmps55
   go_wp2_with fail
   go_ret
   exact ⟨ret_bool HE.out.symm,HW.out _ _⟩
 ·have HE : Hid (eqInB i j = false):=by show _ = _; unfold eqInB; simp [k0]
  have b0 : (i.op == j.op) = false:=by simp [k0]
  clear HC k0
  go_enter Tryd.func55,Tryd.ntmps55
  go_wp2_with fail
  go_ret
  exact ⟨ret_bool HE.out.symm,HW.out _ _⟩

set_option maxHeartbeats 2000000 in
theorem sameCode (N : Nat) (v1 v2 : Value) (n1 n2 : Nat) (f g : Nat→In) (w : World) (hN : N ≤ w.heap.size) (hf : CodeAt N w v1 n1 f) (hg : CodeAt N w v2 n2 g) :
  Calls Tryd.prog 54 #[v1,v2,.func (.func 55) #[] #[]] w fun e w' => e = .returned (.bool (eqCodeB n1 n2 f g))∧Below w.heap.size w w':=by
 obtain ⟨a1,c1,rfl,hn1,hf⟩:=hf
 obtain ⟨a2,c2,rfl,hn2,hg⟩:=hg
 by_cases hn : n1 = n2
 ·subst hn
  have ht : ((n1 : Int) != (n1 : Int)) = false:=by simp
  go_enter Tryd.func54,Tryd.ntmps54
  go_wp2_with fail
  go_loopw [17] (fun i wr => ∃ j : Nat,j ≤ n1∧i = .int .i64 j∧Below w.heap.size w wr∧Hid (∀ x,x < j→eqInB (f x) (g x) = true)) (fun i _ => n1 - (intOf i).toNat)
  case atStart => exact ⟨0,Nat.zero_le _,rfl,Below.refl _ _,fun j hj => absurd hj (Nat.not_lt_zero _)⟩
  case round =>
   obtain ⟨j,hj,rfl,hb,hall⟩:=hrel
   by_cases hlt : j < n1
   ·rcases hf with hf | ⟨q1,o1,rfl,r1,g1⟩
    ·omega
    rcases hg with hg | ⟨q2,o2,rfl,r2,g2⟩
    ·omega
    obtain ⟨va,x0,x1,x2,x3,x4,s1⟩:=g1 j hlt
    obtain ⟨vb,y0,y1,y2,y3,y4,s2⟩:=g2 j hlt
    have q1' : q1 < w.heap.size:=by omega
    have q2' : q2 < w.heap.size:=by omega
    rw [← hb.cell q1'] at x0 x1 x2 x3 x4
    rw [← hb.cell q2'] at y0 y1 y2 y3 y4
    have q2w : q2 < wr.heap.size:=Nat.lt_of_lt_of_le q2' hb.size
    have hNr : N ≤ wr.heap.size:=Nat.le_trans hN hb.size
    have s1:=s1.below (hb.mono hN)
    have s2:=s2.below (hb.mono hN)
    obtain ⟨z1,d1,rfl,_⟩:=s1.shape
    obtain ⟨z2,d2,rfl,_⟩:=s2.shape
    clear g1 g2
    have HW : Hid (∀ o1 o2 : Obj,Below wr.heap.size wr ((wr.alloc o1).alloc o2)):=fun o1 o2 => below_step (below_alloc _ _) (below_alloc _ _)
    have HC : Hid (∀ wk,Below wr.heap.size wr wk→Calls Tryd.prog 55 #[.agg #[.int .i64 (f j).op,.int .i64 (f j).a,.int .i64 (f j).b,.int .i64 (f j).c,.slice z1 (f j).n d1],.agg #[.int .i64 (g j).op,.int .i64 (g j).a,.int .i64 (g j).b,.int .i64 (g j).c,.slice z2 (g j).n d2]] wk fun e w' => e = .returned (.bool (eqInB (f j) (g j)))∧Below wk.heap.size wk w'):=fun wk hk =>
     sameIns N (f j) (g j) _ _ wk (Nat.le_trans hNr hk.size) (s1.below (hk.mono hNr)) (s2.below (hk.mono hNr))
    clear s1 s2
    cases he : eqInB (f j) (g j) with
    | true =>
     rw [he] at HC
     have HE : Hid (eqInB (f j) (g j) = true):=he
     clear he
     go_wp2_with (go_at_call 55; refine (HC.out _ (HW.out _ _)).mono ?_; rintro e w1 ⟨rfl,hb1⟩)
     go_roundw
     case rel => exact ⟨j + 1,by omega,by go_num,below_step hb (below_step (HW.out _ _) hb1),upTo hall.out HE.out⟩
     case measure => simp [intOf]; omega
    | false =>
     rw [he] at HC
     have HE : Hid (eqCodeB n1 n1 f g = false):=eqCodeB_no hlt he
     clear he
     go_wp2_with (go_at_call 55; refine (HC.out _ (HW.out _ _)).mono ?_; rintro e w1 ⟨rfl,hb1⟩)
     go_ret
     exact ⟨ret_bool HE.out.symm,below_step hb (below_step (HW.out _ _) hb1)⟩
   ·obtain rfl : j = n1:=by omega
    go_wp2_with fail
    go_ret
    exact ⟨ret_bool (eqCodeB_yes hall.out).symm,hb⟩
 ·have ht : ((n1 : Int) != (n2 : Int)) = true:=by simp; omega
  have HN : Hid (eqCodeB n1 n2 f g = false):=eqCodeB_len hn
  clear hn
  go_enter Tryd.func54,Tryd.ntmps54
  go_wp2_with fail
  go_ret
  exact ⟨ret_bool HN.out.symm,Below.refl _ _⟩

set_option maxHeartbeats 1000000 in
theorem sameProc (N : Nat) (p q : Pc) (v1 v2 : Value) (w : World) (hN : N ≤ w.heap.size) (h1 : CodeAt N w v1 p.n p.ins) (h2 : CodeAt N w v2 q.n q.ins) :
  Calls Tryd.prog 34 #[.agg #[.int .i64 p.params,.int .i64 p.regs,v1],.agg #[.int .i64 q.params,.int .i64 q.regs,v2]] w fun e w' => e = .returned (.bool (eqPcB p q))∧Below w.heap.size w w':=by
 have HC0 : Hid (∀ wk,Below w.heap.size w wk→Calls Tryd.prog 54 #[v1,v2,.func (.func 55) #[] #[]] wk fun e w' => e = .returned (.bool (eqCodeB p.n q.n p.ins q.ins))∧Below wk.heap.size wk w'):=fun wk hk =>
  sameCode N _ _ _ _ _ _ wk (Nat.le_trans hN hk.size) (h1.below (hk.mono hN)) (h2.below (hk.mono hN))
 obtain ⟨a1,c1,rfl,_⟩:=h1
 obtain ⟨a2,c2,rfl,_⟩:=h2
 have HC:=HC0
 have HW : Hid (∀ o1 o2 : Obj,Below w.heap.size w ((w.alloc o1).alloc o2)):=fun o1 o2 => below_step (below_alloc _ _) (below_alloc _ _)
 by_cases k1 : p.params = q.params
 ·by_cases k2 : p.regs = q.regs
  ·have HE : Hid (eqPcB p q = eqCodeB p.n q.n p.ins q.ins):=by show _ = _; unfold eqPcB; simp [k1,k2]
   have b1 : (p.params == q.params) = true:=by simp [k1]
   have b2 : (p.regs == q.regs) = true:=by simp [k2]
   clear k1 k2 HC0
   go_enter Tryd.func34,Tryd.ntmps34
   go_wp2_with (go_at_call 54; refine (HC.out _ (HW.out _ _)).mono ?_; rintro e w1 ⟨rfl,hb1⟩)
   go_ret
   exact ⟨ret_bool HE.out.symm,below_step (HW.out _ _) hb1⟩
  ·have HE : Hid (eqPcB p q = false):=by show _ = _; unfold eqPcB; simp [k2]
   have b1 : (p.params == q.params) = true:=by simp [k1]
   have b2 : (p.regs == q.regs) = false:=by simp [k2]
   clear k1 k2 HC0 HC
   go_enter Tryd.func34,Tryd.ntmps34
   go_wp2_with fail
   go_ret
   exact ⟨ret_bool HE.out.symm,HW.out _ _⟩
 ·have HE : Hid (eqPcB p q = false):=by show _ = _; unfold eqPcB; simp [k1]
  have b1 : (p.params == q.params) = false:=by simp [k1]
  clear k1 HC0 HC
  go_enter Tryd.func34,Tryd.ntmps34
  go_wp2_with fail
  go_ret
  exact ⟨ret_bool HE.out.symm,HW.out _ _⟩

set_option maxHeartbeats 2000000 in
theorem sameProcs (N : Nat) (v1 v2 : Value) (n1 n2 : Nat) (f g : Nat→Pc) (w : World) (hN : N ≤ w.heap.size) (hf : ProcsAt N w v1 n1 f) (hg : ProcsAt N w v2 n2 g) :
  Calls Tryd.prog 33 #[v1,v2,.func (.func 34) #[] #[]] w fun e w' => e = .returned (.bool (eqCB n1 n2 f g))∧Below w.heap.size w w':=by
 obtain ⟨a1,c1,rfl,hn1,hf⟩:=hf
 obtain ⟨a2,c2,rfl,hn2,hg⟩:=hg
 by_cases hn : n1 = n2
 ·subst hn
  have ht : ((n1 : Int) != (n1 : Int)) = false:=by simp
  go_enter Tryd.func33,Tryd.ntmps33
  go_wp2_with fail
  go_loopw [17] (fun i wr => ∃ j : Nat,j ≤ n1∧i = .int .i64 j∧Below w.heap.size w wr∧Hid (∀ x,x < j→eqPcB (f x) (g x) = true)) (fun i _ => n1 - (intOf i).toNat)
  case atStart => exact ⟨0,Nat.zero_le _,rfl,Below.refl _ _,fun j hj => absurd hj (Nat.not_lt_zero _)⟩
  case round =>
   obtain ⟨j,hj,rfl,hb,hall⟩:=hrel
   by_cases hlt : j < n1
   ·rcases hf with hf | ⟨q1,o1,rfl,r1,g1⟩
    ·omega
    rcases hg with hg | ⟨q2,o2,rfl,r2,g2⟩
    ·omega
    obtain ⟨va,x0,x1,x2,s1⟩:=g1 j hlt
    obtain ⟨vb,y0,y1,y2,s2⟩:=g2 j hlt
    have q1' : q1 < w.heap.size:=by omega
    have q2' : q2 < w.heap.size:=by omega
    rw [← hb.cell q1'] at x0 x1 x2
    rw [← hb.cell q2'] at y0 y1 y2
    have q2w : q2 < wr.heap.size:=Nat.lt_of_lt_of_le q2' hb.size
    have hNr : N ≤ wr.heap.size:=Nat.le_trans hN hb.size
    have s1:=s1.below (hb.mono hN)
    have s2:=s2.below (hb.mono hN)
    clear g1 g2
    have HW : Hid (∀ o1 o2 : Obj,Below wr.heap.size wr ((wr.alloc o1).alloc o2)):=fun o1 o2 => below_step (below_alloc _ _) (below_alloc _ _)
    have HC : Hid (∀ wk,Below wr.heap.size wr wk→Calls Tryd.prog 34 #[.agg #[.int .i64 (f j).params,.int .i64 (f j).regs,va],.agg #[.int .i64 (g j).params,.int .i64 (g j).regs,vb]] wk fun e w' => e = .returned (.bool (eqPcB (f j) (g j)))∧Below wk.heap.size wk w'):=fun wk hk =>
     sameProc N (f j) (g j) _ _ wk (Nat.le_trans hNr hk.size) (s1.below (hk.mono hNr)) (s2.below (hk.mono hNr))
    obtain ⟨z1,d1,rfl,_⟩:=s1
    obtain ⟨z2,d2,rfl,_⟩:=s2
    cases he : eqPcB (f j) (g j) with
    | true =>
     rw [he] at HC
     have HE : Hid (eqPcB (f j) (g j) = true):=he
     clear he
     go_wp2_with (go_at_call 34; refine (HC.out _ (HW.out _ _)).mono ?_; rintro e w1 ⟨rfl,hb1⟩)
     go_roundw
     case rel => exact ⟨j + 1,by omega,by go_num,below_step hb (below_step (HW.out _ _) hb1),upTo hall.out HE.out⟩
     case measure => simp [intOf]; omega
    | false =>
     rw [he] at HC
     have HE : Hid (eqCB n1 n1 f g = false):=eqCB_no hlt he
     clear he
     go_wp2_with (go_at_call 34; refine (HC.out _ (HW.out _ _)).mono ?_; rintro e w1 ⟨rfl,hb1⟩)
     go_ret
     exact ⟨ret_bool HE.out.symm,below_step hb (below_step (HW.out _ _) hb1)⟩
   ·obtain rfl : j = n1:=by omega
    go_wp2_with fail
    go_ret
    exact ⟨ret_bool (eqCB_yes hall.out).symm,hb⟩
 ·have ht : ((n1 : Int) != (n2 : Int)) = true:=by simp; omega
  have HN : Hid (eqCB n1 n2 f g = false):=eqCB_len hn
  clear hn
  go_enter Tryd.func33,Tryd.ntmps33
  go_wp2_with fail
  go_ret
  exact ⟨ret_bool HN.out.symm,Below.refl _ _⟩

theorem codeSame (N : Nat) (v1 v2 : Value) (n1 n2 : Nat) (f g : Nat→Pc) (w : World) (hN : N ≤ w.heap.size) (hf : ProcsAt N w v1 n1 f) (hg : ProcsAt N w v2 n2 g) :
  Calls Tryd.prog 16 #[v1,v2] w fun e w' => e = .returned (.bool (eqCB n1 n2 f g))∧Below w.heap.size w w':=by
 go_enter Tryd.func16,Tryd.ntmps16
 go_wp2_with (go_at_call 33; refine (sameProcs N v1 v2 n1 n2 f g _ hN hf hg).mono ?_; rintro e w1 ⟨rfl,hb1⟩)
 go_ret
 exact ⟨rfl,hb1⟩

end Go.Proofs.YtfaokaohhchdhaaDoor
