/- What the program's instructions are in memory; the small tests of one instruction, by the program. -/
import Derived.Test.YtfaokaohhchdhaaDoorEqInts
import Derived.Test.YtfaokaohhchdhaaDoorCodeDef
import Derived.Deep.Light
namespace Go.Proofs.YtfaokaohhchdhaaDoor
open Go.ChangeShapes Go.WideShapes Go.ChangeAt Go.RowKit

/-- 'v' is a slice of 'n' ints,below block N. -/
def NumsAt (N : Nat) (w : World) (v : Value) (n : Nat) (z : Nat→Int) : Prop :=
 ∃ a cap,v=.slice a n cap∧n≤9223372036854775807∧(n=0∨∃ b o,a=some ⟨b,o,none⟩∧b < N∧∀ i,i < n→w.cell? ⟨b,o + i,none⟩=some (.int .i64 (z i)))

/-- 'v' is a slice of the n instructions ins,below block N; 'av k' is the slice of the Args of number k. -/
def CodeAt (N : Nat) (w : World) (v : Value) (n : Nat) (ins : Nat→In) : Prop :=
 ∃ a cap,v=.slice a n cap∧n≤9223372036854775807∧(n=0∨∃ b o,a=some ⟨b,o,none⟩∧b < N∧∀ i,i < n→∃ va,
  w.cell? ⟨b,o + i * 5,none⟩=some (.int .i64 (ins i).op)∧w.cell? ⟨b,o + i * 5 + 1,none⟩=some (.int .i64 (ins i).a)∧w.cell? ⟨b,o + i * 5 + 2,none⟩=some (.int .i64 (ins i).b) ∧
   w.cell? ⟨b,o + i * 5 + 3,none⟩=some (.int .i64 (ins i).c)∧w.cell? ⟨b,o + i * 5 + 4,none⟩=some va∧NumsAt N w va (ins i).n (ins i).z)

/-- 'v' is a slice of the np procedures P,below block N. -/
def ProcsAt (N : Nat) (w : World) (v : Value) (np : Nat) (P : Nat→Pc) : Prop :=
 ∃ a cap,v=.slice a np cap∧np≤9223372036854775807∧(np=0∨∃ b o,a=some ⟨b,o,none⟩∧b < N∧∀ i,i < np→∃ vc,
  w.cell? ⟨b,o + i * 3,none⟩=some (.int .i64 (P i).params)∧w.cell? ⟨b,o + i * 3 + 1,none⟩=some (.int .i64 (P i).regs)∧w.cell? ⟨b,o + i * 3 + 2,none⟩=some vc∧CodeAt N w vc (P i).n (P i).ins)

theorem NumsAt.below {N : Nat} {w w' : World} {v : Value} {n : Nat} {z : Nat→Int} (h : NumsAt N w v n z) (hb : Below N w w') : NumsAt N w' v n z:=by
 obtain ⟨a,cap,rfl,hn,h | ⟨b,o,rfl,hlt,hc⟩⟩:=h
 ·exact ⟨a,cap,rfl,hn,Or.inl h⟩
 ·exact ⟨_,cap,rfl,hn,Or.inr ⟨b,o,rfl,hlt,fun i hi => by rw [hb.cell hlt]; exact hc i hi⟩⟩

theorem CodeAt.below {N : Nat} {w w' : World} {v : Value} {n : Nat} {ins : Nat→In} (h : CodeAt N w v n ins) (hb : Below N w w') : CodeAt N w' v n ins:=by
 obtain ⟨a,cap,rfl,hn,h | ⟨b,o,rfl,hlt,hc⟩⟩:=h
 ·exact ⟨a,cap,rfl,hn,Or.inl h⟩
 ·refine ⟨_,cap,rfl,hn,Or.inr ⟨b,o,rfl,hlt,fun i hi => ?_⟩⟩
  obtain ⟨va,c0,c1,c2,c3,c4,hv⟩:=hc i hi
  exact ⟨va,by rw [hb.cell hlt]; exact c0,by rw [hb.cell hlt]; exact c1,by rw [hb.cell hlt]; exact c2,by rw [hb.cell hlt]; exact c3,by rw [hb.cell hlt]; exact c4,hv.below hb⟩

theorem ProcsAt.below {N : Nat} {w w' : World} {v : Value} {np : Nat} {P : Nat→Pc} (h : ProcsAt N w v np P) (hb : Below N w w') : ProcsAt N w' v np P:=by
 obtain ⟨a,cap,rfl,hn,h | ⟨b,o,rfl,hlt,hc⟩⟩:=h
 ·exact ⟨a,cap,rfl,hn,Or.inl h⟩
 ·refine ⟨_,cap,rfl,hn,Or.inr ⟨b,o,rfl,hlt,fun i hi => ?_⟩⟩
  obtain ⟨vc,c0,c1,c2,hv⟩:=hc i hi
  exact ⟨vc,by rw [hb.cell hlt]; exact c0,by rw [hb.cell hlt]; exact c1,by rw [hb.cell hlt]; exact c2,hv.below hb⟩

theorem NumsAt.shape {N : Nat} {w : World} {v : Value} {n : Nat} {z : Nat→Int} (h : NumsAt N w v n z) : ∃ a cap,v=.slice a n cap∧n≤9223372036854775807:=by
 obtain ⟨a,cap,rfl,hn,_⟩:=h; exact ⟨a,cap,rfl,hn⟩

set_option maxHeartbeats 1000000 in
theorem isFrom (n lo hi : Int) (w : World) : Calls Tryd.prog 48 #[.int .i64 n,.int .i64 lo,.int .i64 hi] w fun e w' => e=.returned (.bool (fromB n lo hi))∧w'=w:=by
 go_enter Tryd.func48,Tryd.ntmps48
 go_wp2
 all_goals
  go_ret
  refine ⟨ret_bool ?_,rfl⟩
  go_light
  unfold fromB
  simp_all
  try omega

/-- An instruction as a value. -/
def insV (i : In) (a : Option Addr) (cap : Nat) : Value:=.agg #[.int .i64 i.op,.int .i64 i.a,.int .i64 i.b,.int .i64 i.c,.slice a i.n cap]

set_option maxHeartbeats 4000000 in
theorem bare (i : In) (a : Option Addr) (cap : Nat) (w : World) : Calls Tryd.prog 84 #[.agg #[.int .i64 i.op,.int .i64 i.a,.int .i64 i.b,.int .i64 i.c,.slice a i.n cap]] w fun e w' => e=.returned (.bool (bareB i))∧Below w.heap.size w w':=by
 obtain ⟨op,x,y,z,n,f⟩:=i
 go_enter Tryd.func84,Tryd.ntmps84
 go_wp2
 all_goals
  go_ret
  refine ⟨ret_bool ?_,below_alloc _ _⟩
  go_light
  unfold bareB
  simp_all
  try (rw [Bool.eq_iff_iff]; simp; try omega)

set_option maxHeartbeats 4000000 in
theorem restFits (N : Nat) (i : In) (v : Value) (code : Int) (hc : 1≤code) (hc2 : code≤100000) (w : World) (hN : N≤w.heap.size) (h : NumsAt N w v i.n i.z) :
  Calls Tryd.prog 83 #[.agg #[.int .i64 i.op,.int .i64 i.a,.int .i64 i.b,.int .i64 i.c,v],.int .i64 code] w fun e w' => e=.returned (.bool (restB i code))∧Below w.heap.size w w':=by
 obtain ⟨op,x,y,z,n,f⟩:=i
 obtain ⟨a,cap,rfl,hn,h⟩:=h
 have HF : Hid (∀ n lo hi wi,Calls Tryd.prog 48 #[.int .i64 n,.int .i64 lo,.int .i64 hi] wi fun e w' => e=.returned (.bool (fromB n lo hi))∧w'=wi):=isFrom
 by_cases h1 : n=1
 ·subst h1
  obtain ⟨b,o,rfl,hb,hc0⟩ : ∃ b o,a=some ⟨b,o,none⟩∧b < N∧∀ i,i < 1→w.cell? ⟨b,o + i,none⟩=some (.int .i64 (f i)):=by
   rcases h with h | h
   ·cases h
   ·exact h
  have q0 : ∀ ob : Obj,(w.alloc ob).cell? ⟨b,o,none⟩=some (.int .i64 (f 0)):=fun ob => by
   rw [(below_alloc w ob).cell (p:=⟨b,o,none⟩) (Nat.lt_of_lt_of_le hb hN)]; exact hc0 0 (by omega)
  clear hc0 h
  go_enter Tryd.func83,Tryd.ntmps83
  go_wp2_with (go_at_call 48; refine (HF.out _ _ _ _).mono ?_; rintro e w1 ⟨rfl,h1⟩; rw [h1]; clear h1)
  all_goals
   go_ret
   refine ⟨ret_bool ?_,below_alloc _ _⟩
   go_light
   unfold restB
   simp_all
 ·have h1i : ((n : Int) == 1)=false:=by simp; omega
  have h1n : decide (n=1)=false:=by simp [h1]
  clear h
  go_enter Tryd.func83,Tryd.ntmps83
  go_wp2_with (go_at_call 48; refine (HF.out _ _ _ _).mono ?_; rintro e w1 ⟨rfl,h1⟩; rw [h1]; clear h1)
  all_goals
   go_ret
   refine ⟨ret_bool ?_,below_alloc _ _⟩
   go_light
   unfold restB
   simp_all

end Go.Proofs.YtfaokaohhchdhaaDoor
