/- The plain reckoning behind the cells: which error a value has, which row of values, which cells; what is met from a row of values. No Go in it. -/
import Derived.Test.YtfaokaohhchdhaaGreatDoorChecked
import Derived.WalkKit
import Derived.ProofKit
import Derived.OpenShut
import Derived.WalkSmall
import Derived.Deep.QuietTactic
import Derived.BigQuiet
namespace Go.Proofs.YtfaokaohhchdhaaGreatDoor

/-- What is wrong with a value of kind k and number n among c cells. -/
def chk (k n c : Int) : Int :=
 if k = 0 then (if n = 0 then 0 else 4)
 else if k = 1 then (if n < -1000000000 ∨ 1000000000 < n then 3 else 0)
 else if k = 2 then (if n < 0 ∨ c ≤ n then 5 else 0)
 else 4

/-- The first of n numbers that isn't 0; else 0. -/
def firstErr : Nat→(Nat→Int)→Int
 | 0,_ => 0
 | n + 1,f => if firstErr n f = 0 then f n else firstErr n f

theorem firstErr_zero {f : Nat→Int} : ∀ {n : Nat},(∀ j,j < n→f j = 0)→firstErr n f = 0
 | 0,_ => rfl
 | n + 1,h => by
  have:=firstErr_zero (n:=n) fun j hj => h j (by omega)
  simp only [firstErr,this,if_true]
  exact h n (by omega)

theorem firstErr_at {f : Nat→Int} {i : Nat} (h0 : ∀ j,j < i→f j = 0) (hi : ¬ f i = 0) : ∀ {n : Nat},i < n→firstErr n f = f i
 | 0,h => absurd h (Nat.not_lt_zero _)
 | n + 1,h => by
  by_cases e : i = n
  ·subst e; simp only [firstErr,firstErr_zero h0,if_true]
  ·have:=firstErr_at h0 hi (n:=n) (by omega)
   simp only [firstErr,this,hi,if_false]

theorem firstErr_is_zero {f : Nat→Int} : ∀ {n : Nat},firstErr n f = 0→∀ j,j < n→f j = 0
 | 0,_,j,hj => absurd hj (Nat.not_lt_zero _)
 | n + 1,h,j,hj => by
  simp only [firstErr] at h
  by_cases e : firstErr n f = 0
  ·rw [if_pos e] at h
   by_cases ej : j = n
   ·subst ej; exact h
   ·exact firstErr_is_zero e j (by omega)
  ·rw [if_neg e] at h; exact absurd h e

theorem firstErr_congr {f g : Nat→Int} : ∀ {n : Nat},(∀ j,j < n→f j = g j)→firstErr n f = firstErr n g
 | 0,_ => rfl
 | n + 1,h => by
  simp only [firstErr]
  rw [firstErr_congr (n:=n) fun j hj => h j (by omega),h n (by omega)]

/-- What is wrong with a row of n values. -/
def rowErr (n : Nat) (k z : Nat→Int) (c : Int) : Int:=firstErr n fun i => chk (k i) (z i) c

/-- .. with a cell of m fields. -/
def cellErr (m : Nat) (k z : Nat→Int) (c : Int) : Int:=if m < 1 ∨ 4 < m then 2 else rowErr m k z c

/-- .. with n cells. -/
def allErr (n : Nat) (m : Nat→Nat) (K Z : Nat→Nat→Int) : Int :=
 if 24 < n then 2 else firstErr n fun i => cellErr (m i) (K i) (Z i) n

/-- .. with what Reach is given. -/
def reachErr (n : Nat) (m : Nat→Nat) (K Z : Nat→Nat→Int) (f : Nat) (kf zf : Nat→Int) : Int :=
 if allErr n m K Z = 0 then (if 400 < f then 2 else rowErr f kf zf n) else allErr n m K Z

/-- An error is a small number. -/
theorem chk_range (k n c : Int) : chk k n c = 0 ∨ chk k n c = 3 ∨ chk k n c = 4 ∨ chk k n c = 5:=by
 unfold chk
 repeat' split
 all_goals simp

end Go.Proofs.YtfaokaohhchdhaaGreatDoor

namespace Go.Proofs.YtfaokaohhchdhaaGreatDoor

/-- One value more is looked at: the cell that it is goes to the end,if it isn't there yet. -/
def meet1 (R : List Int) (k z : Int) : List Int:=if k = 2∧¬ z ∈ R then R ++ [z] else R

/-- .. the first i values of a row. -/
def meetTo : Nat→(Nat→Int)→(Nat→Int)→List Int→List Int
 | 0,_,_,R => R
 | i + 1,k,z,R => meet1 (meetTo i k z R) (k i) (z i)

theorem meet1_no {R : List Int} {k z : Int} (h : ¬ k = 2) : meet1 R k z = R:=if_neg fun e => h e.1
theorem meet1_old {R : List Int} {k z : Int} (h : z ∈ R) : meet1 R k z = R:=if_neg fun e => e.2 h
theorem meet1_new {R : List Int} {k z : Int} (hk : k = 2) (h : ¬ z ∈ R) : meet1 R k z = R ++ [z]:=if_pos ⟨hk,h⟩

theorem meet1_len (R : List Int) (k z : Int) : (meet1 R k z).length ≤ R.length + 1:=by
 unfold meet1; split
 ·simp
 ·omega

theorem meetTo_len : ∀ (i : Nat) (k z : Nat→Int) (R : List Int),(meetTo i k z R).length ≤ R.length + i
 | 0,_,_,R => by simp [meetTo]
 | i + 1,k,z,R => by
  have:=meetTo_len i k z R
  have h1:=meet1_len (meetTo i k z R) (k i) (z i)
  simp only [meetTo]; omega

end Go.Proofs.YtfaokaohhchdhaaGreatDoor
namespace Go.Proofs.YtfaokaohhchdhaaGreatDoor
open Go.ChangeShapes Go.WideShapes Go.ChangeAt Go.RowKit

/-- 'v' is a slice of 'n' ints that lie in w; number i is 'z i'. -/
def IntsAt (w : World) (v : Value) (n : Nat) (z : Nat→Int) : Prop :=
 ∃ a cap,v = .slice a n cap∧(n = 0 ∨ ∃ b o,a = some ⟨b,o,none⟩∧b < w.heap.size∧∀ i,i < n→w.cell? ⟨b,o + i,none⟩ = some (.int .i64 (z i)))

/-- 'v' is a slice of 'n' values (two numbers each); value i is 'k i','z i'. -/
def ValsAt (w : World) (v : Value) (n : Nat) (k z : Nat→Int) : Prop :=
 ∃ a cap,v = .slice a n cap∧n ≤ 9223372036854775807∧(n = 0 ∨ ∃ b o,a = some ⟨b,o,none⟩∧b < w.heap.size∧∀ i,i < n→w.cell? ⟨b,o + i * 2,none⟩ = some (.int .i64 (k i))∧w.cell? ⟨b,o + i * 2 + 1,none⟩ = some (.int .i64 (z i)))

/-- 'v' is a slice of 'n' cells; cell i has 'm i' fields; field j of it is 'K i j','Z i j'. -/
def CellsAt (w : World) (v : Value) (n : Nat) (m : Nat→Nat) (K Z : Nat→Nat→Int) : Prop :=
 ∃ a cap,v = .slice a n cap∧n ≤ 9223372036854775807∧(n = 0 ∨ ∃ b o,a = some ⟨b,o,none⟩∧b < w.heap.size∧∀ i,i < n→∃ u,w.cell? ⟨b,o + i,none⟩ = some u∧ValsAt w u (m i) (K i) (Z i))

theorem cell_lt {w : World} {a : Addr} {v : Value} (h : w.cell? a = some v) : a.block < w.heap.size:=by
 unfold World.cell? at h
 by_cases hb : a.block < w.heap.size
 ·exact hb
 ·simp [Array.getElem?_eq_none (Nat.le_of_not_lt hb)] at h

theorem IntsAt.below {w w' : World} {v : Value} {n : Nat} {z : Nat→Int} (h : IntsAt w v n z) (hb : Below w.heap.size w w') : IntsAt w' v n z:=by
 obtain ⟨a,cap,rfl,h | ⟨b,o,rfl,hlt,hc⟩⟩:=h
 ·exact ⟨a,cap,rfl,Or.inl h⟩
 ·exact ⟨_,cap,rfl,Or.inr ⟨b,o,rfl,Nat.lt_of_lt_of_le hlt hb.size,fun i hi => by rw [hb.cell hlt]; exact hc i hi⟩⟩

theorem ValsAt.below {w w' : World} {v : Value} {n : Nat} {k z : Nat→Int} (h : ValsAt w v n k z) (hb : Below w.heap.size w w') : ValsAt w' v n k z:=by
 obtain ⟨a,cap,rfl,hn,h | ⟨b,o,rfl,hlt,hc⟩⟩:=h
 ·exact ⟨a,cap,rfl,hn,Or.inl h⟩
 ·exact ⟨_,cap,rfl,hn,Or.inr ⟨b,o,rfl,Nat.lt_of_lt_of_le hlt hb.size,fun i hi => by rw [hb.cell hlt,hb.cell hlt]; exact hc i hi⟩⟩

theorem CellsAt.below {w w' : World} {v : Value} {n : Nat} {m : Nat→Nat} {K Z : Nat→Nat→Int} (h : CellsAt w v n m K Z) (hb : Below w.heap.size w w') : CellsAt w' v n m K Z:=by
 obtain ⟨a,cap,rfl,hn,h | ⟨b,o,rfl,hlt,hc⟩⟩:=h
 ·exact ⟨a,cap,rfl,hn,Or.inl h⟩
 ·refine ⟨_,cap,rfl,hn,Or.inr ⟨b,o,rfl,Nat.lt_of_lt_of_le hlt hb.size,fun i hi => ?_⟩⟩
  obtain ⟨u,hu,hv⟩:=hc i hi
  exact ⟨u,by rw [hb.cell hlt]; exact hu,hv.below hb⟩

/-- The number in the i-th of some cells. -/
def numAt (cs : List Value) (i : Nat) : Int:=intOf (cs[i]?.getD (.bool false))

/-- Is it an int? -/
def isNum : Value→Bool
 | .int .i64 _ => true
 | _ => false

theorem isNum_eq {v : Value} (h : isNum v = true) : v = .int .i64 (intOf v):=by
 unfold isNum at h
 split at h
 ·rfl
 ·cases h

/-- Are all cells ints? -/
def allInts (cs : List Value) : Bool:=cs.all isNum

theorem allInts_at {cs : List Value} (h : allInts cs = true) {i : Nat} (hi : i < cs.length) : cs[i]? = some (.int .i64 (numAt cs i)):=by
 have:=List.all_eq_true.1 h cs[i] (List.getElem_mem hi)
 simp only [numAt,List.getElem?_eq_getElem hi,Option.getD_some]
 exact congrArg some (isNum_eq this)

/-- A block that holds ints is a slice of them. -/
theorem ints_cells (W : World) (b n cap : Nat) (cs : List Value) (hn : cs.length = n) (hlt : b < W.heap.size) (h : allInts cs = true) (hc : ∀ i,W.cell? ⟨b,i,none⟩ = cs[i]?) :
  IntsAt W (.slice (some ⟨b,0,none⟩) n cap) n (numAt cs):=by
 subst hn
 refine ⟨_,cap,rfl,Or.inr ⟨b,0,rfl,hlt,fun i hi => ?_⟩⟩
 rw [Nat.zero_add,hc]
 exact allInts_at h hi

theorem below_alloc (w : World) (o : Obj) : Below w.heap.size w (w.alloc o):=(Below.refl _ _).alloc (Nat.le_refl _) o

theorem below_drewN' (w : World) (n : Nat) : Below w.heap.size w (w.drewN n):=below_drewN (Below.refl _ _) n

theorem IntsAt.alloc {w : World} {v : Value} {n : Nat} {z : Nat→Int} (h : IntsAt w v n z) (o : Obj) : IntsAt (w.alloc o) v n z:=h.below (below_alloc w o)
theorem IntsAt.drewN {w : World} {v : Value} {n : Nat} {z : Nat→Int} (h : IntsAt w v n z) (m : Nat) : IntsAt (w.drewN m) v n z:=h.below (below_drewN' w m)
theorem ValsAt.alloc {w : World} {v : Value} {n : Nat} {k z : Nat→Int} (h : ValsAt w v n k z) (o : Obj) : ValsAt (w.alloc o) v n k z:=h.below (below_alloc w o)
theorem ValsAt.drewN {w : World} {v : Value} {n : Nat} {k z : Nat→Int} (h : ValsAt w v n k z) (m : Nat) : ValsAt (w.drewN m) v n k z:=h.below (below_drewN' w m)

/-- What is as it was below all of the first world,step by step. -/
theorem below_step {a b c : World} (h : Below a.heap.size a b) (k : Below b.heap.size b c) : Below a.heap.size a c:=h.trans (k.mono h.size)

end Go.Proofs.YtfaokaohhchdhaaGreatDoor
namespace Go.Proofs.YtfaokaohhchdhaaGreatDoor
open Go.RowKit

/-- Two rows of numbers are alike. -/
def eqB (n1 n2 : Nat) (z1 z2 : Nat→Int) : Bool:=decide (n1 = n2∧∀ i,i < n1→z1 i = z2 i)

theorem eqB_iff {n1 n2 : Nat} {z1 z2 : Nat→Int} : eqB n1 n2 z1 z2 = true ↔ n1 = n2∧∀ i,i < n1→z1 i = z2 i:=by
 unfold eqB; exact decide_eq_true_iff

theorem eqB_yes {n : Nat} {z1 z2 : Nat→Int} (h : ∀ i,i < n→z1 i = z2 i) : eqB n n z1 z2 = true:=eqB_iff.2 ⟨rfl,h⟩

theorem eqB_no {n1 n2 : Nat} {z1 z2 : Nat→Int} {k : Nat} (hk : k < n1) (h : ¬ z1 k = z2 k) : eqB n1 n2 z1 z2 = false:=by
 rw [Bool.eq_false_iff]; intro e; exact h ((eqB_iff.1 e).2 k hk)

theorem eqB_len {n1 n2 : Nat} {z1 z2 : Nat→Int} (h : ¬ n1 = n2) : eqB n1 n2 z1 z2 = false:=by
 rw [Bool.eq_false_iff]; intro e; exact h (eqB_iff.1 e).1

theorem ret_bool {a b : Bool} (h : a = b) : Ending.returned (.bool a) = .returned (.bool b):=by rw [h]

theorem upTo {p : Nat→Prop} {k : Nat} (h : ∀ j,j < k→p j) (hk : p k) : ∀ j,j < k + 1→p j:=fun j hj =>
 if e : j < k then h j e else by
  have : j = k:=by omega
  subst this; exact hk

end Go.Proofs.YtfaokaohhchdhaaGreatDoor
