/- What the program's slices of numbers, of values and of cells are in memory, and that they stay so while blocks are only added: plain facts on worlds for the walks. -/
import Derived.Test.YtfaggdkiffhdbaaGreatDoorChecked
import Derived.WalkKit
import Derived.ProofKit
import Derived.OpenShut
import Derived.WalkSmall
import Derived.Deep.QuietTactic
import Derived.BigQuiet
import Derived.Test.YtfaggdkiffhdbaaGreatDoorPart0
import Derived.Deep.Light
namespace Go.Proofs.YtfaggdkiffhdbaaGreatDoor
open Go.ChangeShapes Go.WideShapes Go.ChangeAt Go.RowKit

/-- 'v' is a slice of 'n' ints that lie in w; number i is 'z i'. -/
def IntsAt (w : World) (v : Value) (n : Nat) (z : Nat→Int) : Prop :=
 ∃ a cap,v=.slice a n cap∧(n=0∨∃ b o,a=some ⟨b,o,none⟩∧b < w.heap.size∧∀ i,i < n→w.cell? ⟨b,o + i,none⟩=some (.int .i64 (z i)))

/-- 'v' is a slice of 'n' values (two numbers each); value i is 'k i','z i'. -/
def ValsAt (w : World) (v : Value) (n : Nat) (k z : Nat→Int) : Prop :=
 ∃ a cap,v=.slice a n cap∧n≤9223372036854775807∧(n=0∨∃ b o,a=some ⟨b,o,none⟩∧b < w.heap.size∧∀ i,i < n→w.cell? ⟨b,o + i * 2,none⟩=some (.int .i64 (k i))∧w.cell? ⟨b,o + i * 2 + 1,none⟩=some (.int .i64 (z i)))

/-- 'v' is a slice of 'n' cells; cell i has 'm i' fields; field j of it is 'K i j','Z i j'. -/
def CellsAt (w : World) (v : Value) (n : Nat) (m : Nat→Nat) (K Z : Nat→Nat→Int) : Prop :=
 ∃ a cap,v=.slice a n cap∧n≤9223372036854775807∧(n=0∨∃ b o,a=some ⟨b,o,none⟩∧b < w.heap.size∧∀ i,i < n→∃ u,w.cell? ⟨b,o + i,none⟩=some u∧ValsAt w u (m i) (K i) (Z i))

theorem cell_lt {w : World} {a : Addr} {v : Value} (h : w.cell? a=some v) : a.block < w.heap.size:=by
 unfold World.cell? at h
 by_cases hb : a.block < w.heap.size
 ·exact hb
 ·simp [Array.getElem?_eq_none (Nat.le_of_not_lt hb)] at h

theorem IntsAt.below {w w' : World} {v : Value} {n : Nat} {z : Nat→Int} (h : IntsAt w v n z) (hb : Below w.heap.size w w') : IntsAt w' v n z:=by
 obtain ⟨a,cap,rfl,h | ⟨b,o,rfl,hlt,hc⟩⟩:=h
 ·exact ⟨a,cap,rfl,Or.inl h⟩
 ·exact ⟨_,cap,rfl,Or.inr ⟨b,o,rfl,Nat.lt_of_lt_of_le hlt hb.size,fun i hi => by rw [hb.cell hlt]; exact hc i hi⟩⟩

theorem ValsAt.below {w w' : World} {v : Value} {n : Nat} {k z : Nat→Int} (h : ValsAt w v n k z) (hb : Below w.heap.size w w') : ValsAt w' v n k z:=by
 obtain ⟨a,cap,rfl,hn,h | ⟨b,o,rfl,hlt,hc⟩⟩:=h
 ·exact ⟨a,cap,rfl,hn,Or.inl h⟩
 ·exact ⟨_,cap,rfl,hn,Or.inr ⟨b,o,rfl,Nat.lt_of_lt_of_le hlt hb.size,fun i hi => by rw [hb.cell hlt,hb.cell hlt]; exact hc i hi⟩⟩

theorem CellsAt.below {w w' : World} {v : Value} {n : Nat} {m : Nat→Nat} {K Z : Nat→Nat→Int} (h : CellsAt w v n m K Z) (hb : Below w.heap.size w w') : CellsAt w' v n m K Z:=by
 obtain ⟨a,cap,rfl,hn,h | ⟨b,o,rfl,hlt,hc⟩⟩:=h
 ·exact ⟨a,cap,rfl,hn,Or.inl h⟩
 ·refine ⟨_,cap,rfl,hn,Or.inr ⟨b,o,rfl,Nat.lt_of_lt_of_le hlt hb.size,fun i hi => ?_⟩⟩
  obtain ⟨u,hu,hv⟩:=hc i hi
  exact ⟨u,by rw [hb.cell hlt]; exact hu,hv.below hb⟩

/-- The number in the i-th of some cells. -/
def numAt (cs : List Value) (i : Nat) : Int:=intOf (cs[i]?.getD (.bool false))

/-- Is it an int? -/
def isNum : Value→Bool
 | .int .i64 _ => true
 | _ => false

theorem isNum_eq {v : Value} (h : isNum v=true) : v=.int .i64 (intOf v):=by
 unfold isNum at h
 split at h
 ·rfl
 ·cases h

/-- Are all cells ints? -/
def allInts (cs : List Value) : Bool:=cs.all isNum

theorem allInts_at {cs : List Value} (h : allInts cs=true) {i : Nat} (hi : i < cs.length) : cs[i]?=some (.int .i64 (numAt cs i)):=by
 have:=List.all_eq_true.1 h cs[i] (List.getElem_mem hi)
 simp only [numAt,List.getElem?_eq_getElem hi,Option.getD_some]
 exact congrArg some (isNum_eq this)

/-- A block that holds ints is a slice of them. -/
theorem ints_cells (W : World) (b n cap : Nat) (cs : List Value) (hn : cs.length=n) (hlt : b < W.heap.size) (h : allInts cs=true) (hc : ∀ i,W.cell? ⟨b,i,none⟩=cs[i]?) :
  IntsAt W (.slice (some ⟨b,0,none⟩) n cap) n (numAt cs):=by
 subst hn
 refine ⟨_,cap,rfl,Or.inr ⟨b,0,rfl,hlt,fun i hi => ?_⟩⟩
 rw [Nat.zero_add,hc]
 exact allInts_at h hi

theorem below_alloc (w : World) (o : Obj) : Below w.heap.size w (w.alloc o):=(Below.refl _ _).alloc (Nat.le_refl _) o

theorem below_drewN' (w : World) (n : Nat) : Below w.heap.size w (w.drewN n):=below_drewN (Below.refl _ _) n

theorem IntsAt.alloc {w : World} {v : Value} {n : Nat} {z : Nat→Int} (h : IntsAt w v n z) (o : Obj) : IntsAt (w.alloc o) v n z:=h.below (below_alloc w o)
theorem IntsAt.drewN {w : World} {v : Value} {n : Nat} {z : Nat→Int} (h : IntsAt w v n z) (m : Nat) : IntsAt (w.drewN m) v n z:=h.below (below_drewN' w m)
theorem ValsAt.alloc {w : World} {v : Value} {n : Nat} {k z : Nat→Int} (h : ValsAt w v n k z) (o : Obj) : ValsAt (w.alloc o) v n k z:=h.below (below_alloc w o)
theorem ValsAt.drewN {w : World} {v : Value} {n : Nat} {k z : Nat→Int} (h : ValsAt w v n k z) (m : Nat) : ValsAt (w.drewN m) v n k z:=h.below (below_drewN' w m)

/-- What is as it was below all of the first world,step by step. -/
theorem below_step {a b c : World} (h : Below a.heap.size a b) (k : Below b.heap.size b c) : Below a.heap.size a c:=h.trans (k.mono h.size)

end Go.Proofs.YtfaggdkiffhdbaaGreatDoor
namespace Go.Proofs.YtfaggdkiffhdbaaGreatDoor
open Go.RowKit

/-- Two rows of numbers are alike. -/
def eqB (n1 n2 : Nat) (z1 z2 : Nat→Int) : Bool:=decide (n1=n2∧∀ i,i < n1→z1 i=z2 i)

theorem eqB_iff {n1 n2 : Nat} {z1 z2 : Nat→Int} : eqB n1 n2 z1 z2=true ↔ n1=n2∧∀ i,i < n1→z1 i=z2 i:=by
 unfold eqB; exact decide_eq_true_iff

theorem eqB_yes {n : Nat} {z1 z2 : Nat→Int} (h : ∀ i,i < n→z1 i=z2 i) : eqB n n z1 z2=true:=eqB_iff.2 ⟨rfl,h⟩

theorem eqB_no {n1 n2 : Nat} {z1 z2 : Nat→Int} {k : Nat} (hk : k < n1) (h : ¬ z1 k=z2 k) : eqB n1 n2 z1 z2=false:=by
 rw [Bool.eq_false_iff]; intro e; exact h ((eqB_iff.1 e).2 k hk)

theorem eqB_len {n1 n2 : Nat} {z1 z2 : Nat→Int} (h : ¬ n1=n2) : eqB n1 n2 z1 z2=false:=by
 rw [Bool.eq_false_iff]; intro e; exact h (eqB_iff.1 e).1

theorem ret_bool {a b : Bool} (h : a=b) : Ending.returned (.bool a)=.returned (.bool b):=by rw [h]

theorem upTo {p : Nat→Prop} {k : Nat} (h : ∀ j,j < k→p j) (hk : p k) : ∀ j,j < k + 1→p j:=fun j hj =>
 if e : j < k then h j e else by
  have : j=k:=by omega
  subst this; exact hk

end Go.Proofs.YtfaggdkiffhdbaaGreatDoor
namespace Go.Proofs.YtfaggdkiffhdbaaGreatDoor
open Go.ChangeShapes Go.WideShapes Go.ChangeAt Go.RowKit

/-- 'v' is a slice of 'n' ints,below block N. -/
def NumsAt (N : Nat) (w : World) (v : Value) (n : Nat) (z : Nat→Int) : Prop :=
 ∃ a cap,v=.slice a n cap∧n≤9223372036854775807∧(n=0∨∃ b o,a=some ⟨b,o,none⟩∧b < N∧∀ i,i < n→w.cell? ⟨b,o + i,none⟩=some (.int .i64 (z i)))

/-- 'v' is a slice of the n instructions ins,below block N; 'av k' is the slice of the Args of number k. -/
def CodeAt (N : Nat) (w : World) (v : Value) (n : Nat) (ins : Nat→In) : Prop :=
 ∃ a cap,v=.slice a n cap∧n≤9223372036854775807∧(n=0∨∃ b o,a=some ⟨b,o,none⟩∧b < N∧∀ i,i < n→∃ va,
  w.cell? ⟨b,o + i * 5,none⟩=some (.int .i64 (ins i).op)∧w.cell? ⟨b,o + i * 5 + 1,none⟩=some (.int .i64 (ins i).a)∧w.cell? ⟨b,o + i * 5 + 2,none⟩=some (.int .i64 (ins i).b) ∧
   w.cell? ⟨b,o + i * 5 + 3,none⟩=some (.int .i64 (ins i).c)∧w.cell? ⟨b,o + i * 5 + 4,none⟩=some va∧NumsAt N w va (ins i).n (ins i).z)

/-- 'v' is a slice of the np procedures P,below block N. -/
def ProcsAt (N : Nat) (w : World) (v : Value) (np : Nat) (P : Nat→Pc) : Prop :=
 ∃ a cap,v=.slice a np cap∧np≤9223372036854775807∧(np=0∨∃ b o,a=some ⟨b,o,none⟩∧b < N∧∀ i,i < np→∃ vc,
  w.cell? ⟨b,o + i * 3,none⟩=some (.int .i64 (P i).params)∧w.cell? ⟨b,o + i * 3 + 1,none⟩=some (.int .i64 (P i).regs)∧w.cell? ⟨b,o + i * 3 + 2,none⟩=some vc∧CodeAt N w vc (P i).n (P i).ins)

theorem NumsAt.below {N : Nat} {w w' : World} {v : Value} {n : Nat} {z : Nat→Int} (h : NumsAt N w v n z) (hb : Below N w w') : NumsAt N w' v n z:=by
 obtain ⟨a,cap,rfl,hn,h | ⟨b,o,rfl,hlt,hc⟩⟩:=h
 ·exact ⟨a,cap,rfl,hn,Or.inl h⟩
 ·exact ⟨_,cap,rfl,hn,Or.inr ⟨b,o,rfl,hlt,fun i hi => by rw [hb.cell hlt]; exact hc i hi⟩⟩

theorem CodeAt.below {N : Nat} {w w' : World} {v : Value} {n : Nat} {ins : Nat→In} (h : CodeAt N w v n ins) (hb : Below N w w') : CodeAt N w' v n ins:=by
 obtain ⟨a,cap,rfl,hn,h | ⟨b,o,rfl,hlt,hc⟩⟩:=h
 ·exact ⟨a,cap,rfl,hn,Or.inl h⟩
 ·refine ⟨_,cap,rfl,hn,Or.inr ⟨b,o,rfl,hlt,fun i hi => ?_⟩⟩
  obtain ⟨va,c0,c1,c2,c3,c4,hv⟩:=hc i hi
  exact ⟨va,by rw [hb.cell hlt]; exact c0,by rw [hb.cell hlt]; exact c1,by rw [hb.cell hlt]; exact c2,by rw [hb.cell hlt]; exact c3,by rw [hb.cell hlt]; exact c4,hv.below hb⟩

theorem ProcsAt.below {N : Nat} {w w' : World} {v : Value} {np : Nat} {P : Nat→Pc} (h : ProcsAt N w v np P) (hb : Below N w w') : ProcsAt N w' v np P:=by
 obtain ⟨a,cap,rfl,hn,h | ⟨b,o,rfl,hlt,hc⟩⟩:=h
 ·exact ⟨a,cap,rfl,hn,Or.inl h⟩
 ·refine ⟨_,cap,rfl,hn,Or.inr ⟨b,o,rfl,hlt,fun i hi => ?_⟩⟩
  obtain ⟨vc,c0,c1,c2,hv⟩:=hc i hi
  exact ⟨vc,by rw [hb.cell hlt]; exact c0,by rw [hb.cell hlt]; exact c1,by rw [hb.cell hlt]; exact c2,hv.below hb⟩

theorem NumsAt.shape {N : Nat} {w : World} {v : Value} {n : Nat} {z : Nat→Int} (h : NumsAt N w v n z) : ∃ a cap,v=.slice a n cap∧n≤9223372036854775807:=by
 obtain ⟨a,cap,rfl,hn,_⟩:=h; exact ⟨a,cap,rfl,hn⟩

/-- An instruction as a value. -/
def insV (i : In) (a : Option Addr) (cap : Nat) : Value:=.agg #[.int .i64 i.op,.int .i64 i.a,.int .i64 i.b,.int .i64 i.c,.slice a i.n cap]

end Go.Proofs.YtfaggdkiffhdbaaGreatDoor
