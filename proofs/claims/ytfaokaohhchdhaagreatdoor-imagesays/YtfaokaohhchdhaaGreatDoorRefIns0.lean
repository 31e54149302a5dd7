/- checkIns of the reckoning: one instruction's error. -/
import Derived.Test.YtfaokaohhchdhaaGreatDoorRefInsMath
namespace Go.Proofs.YtfaokaohhchdhaaGreatDoor
open Go.RowKit Go.Maps

/-- The walk stands at an entry of a table. -/
theorem at_ins_ {P : Program} {ops : Array Oper} {Q : Exit→Act→World→Prop} {t ty : TypeId} {m k v : Operand} {pos : String} {after : Array Edge} {rest : List Oper} {a : Act} {w : World}
  (h : wpList P ops Q ({ dst:=none,op:=.insert t m k v,type:=ty,pos:=pos,after:=after,guard:=none } :: rest) a w) : wpList P ops Q ({ dst:=none,op:=.insert t m k v,type:=ty,pos:=pos,after:=after,guard:=none } :: rest) a w:=h

theorem boxes_grown {w w1 : World} {cs ds : Array Value} {t u : TypeId} {o : Obj} (hg : (((w.alloc (.cells cs t)).alloc (.cells ds u)).alloc o).grownBy w1 (some (w.heap.size + 1 + 1))) :
  (∀ (i : Nat) (c : Value),cs[i]? = some c→w1.cell? ⟨w.heap.size,i,none⟩ = some c)∧(∀ (i : Nat) (c : Value),ds[i]? = some c→w1.cell? ⟨w.heap.size + 1,i,none⟩ = some c)∧Below w.heap.size w w1∧w.heap.size + 1 + 1 < w1.heap.size:=by
 have hs1 : (w.alloc (.cells cs t)).heap.size = w.heap.size + 1:=by simp
 have hs2 : ((w.alloc (.cells cs t)).alloc (.cells ds u)).heap.size = w.heap.size + 1 + 1:=by simp
 have hs3 : (((w.alloc (.cells cs t)).alloc (.cells ds u)).alloc o).heap.size = w.heap.size + 1 + 1 + 1:=by simp
 have b12:=below_step (below_alloc (w.alloc (.cells cs t)) (.cells ds u)) (below_alloc _ o)
 have b2:=below_alloc ((w.alloc (.cells cs t)).alloc (.cells ds u)) o
 refine ⟨fun i c h => ?_,fun i c h => ?_,(below_step (below_alloc w (.cells cs t)) b12).grown hg (by omega) (fun k hk => by cases hk; omega),by have:=hg.size; omega⟩
 ·refine (World.cell?_of_block (w:=((w.alloc (.cells cs t)).alloc (.cells ds u)).alloc o) (a:=⟨w.heap.size,i,none⟩) (hg.block w.heap.size (by omega) (fun e => by have:=Option.some.inj e; omega))).trans ?_
  rw [b12.cell (p:=⟨w.heap.size,i,none⟩) (by rw [hs1]; exact Nat.lt_succ_self _),World.cell?_alloc_new]
  exact h
 ·refine (World.cell?_of_block (w:=((w.alloc (.cells cs t)).alloc (.cells ds u)).alloc o) (a:=⟨w.heap.size + 1,i,none⟩) (hg.block (w.heap.size + 1) (by omega) (fun e => by have:=Option.some.inj e; omega))).trans ?_
  rw [b2.cell (p:=⟨w.heap.size + 1,i,none⟩) (by rw [hs2]; exact Nat.lt_succ_self _),← hs1,World.cell?_alloc_new]
  exact h

theorem insErr_op {np : Nat} {par : Nat→Int} {regs : Int} {code : Nat} {i : In} (h : okC i.op = false) : insErr np par regs code i = 4:=by
 unfold insErr; rw [if_pos]; exact h
theorem insErr_regs {np : Nat} {par : Nat→Int} {regs : Int} {code : Nat} {i : In} (h : okC i.op = true) (h2 : regsB i regs = false) : insErr np par regs code i = 3:=by
 have h' : ¬ fromB i.op 1 13 = false:=by have : fromB i.op 1 13 = true:=h; rw [this]; simp
 unfold insErr; rw [if_neg h',if_pos h2]
theorem insErr_who {np : Nat} {par : Nat→Int} {regs : Int} {code : Nat} {i : In} (h : okC i.op = true) (h2 : regsB i regs = true) (h3 : i.op = 7∧fromB i.b 0 ((np : Int) - 1) = false) : insErr np par regs code i = 5:=by
 have h' : ¬ fromB i.op 1 13 = false:=by have : fromB i.op 1 13 = true:=h; rw [this]; simp
 unfold insErr; rw [if_neg h',if_neg (by rw [h2]; simp),if_pos h3]
theorem insErr_rest {np : Nat} {par : Nat→Int} {regs : Int} {code : Nat} {i : In} (h : okC i.op = true) (h2 : regsB i regs = true) (h3 : ¬ (i.op = 7∧fromB i.b 0 ((np : Int) - 1) = false)) (h4 : restB i code = false) : insErr np par regs code i = 3:=by
 have h' : ¬ fromB i.op 1 13 = false:=by have : fromB i.op 1 13 = true:=h; rw [this]; simp
 unfold insErr; rw [if_neg h',if_neg (by rw [h2]; simp),if_neg h3,if_pos h4]
theorem insErr_bare {np : Nat} {par : Nat→Int} {regs : Int} {code : Nat} {i : In} (h : okC i.op = true) (h2 : regsB i regs = true) (h3 : ¬ (i.op = 7∧fromB i.b 0 ((np : Int) - 1) = false)) (h4 : restB i code = true) (h5 : bareB i = false ∨ (i.op = 7∧¬ (i.n : Int) = par i.b.toNat)) : insErr np par regs code i = 4:=by
 have h' : ¬ fromB i.op 1 13 = false:=by have : fromB i.op 1 13 = true:=h; rw [this]; simp
 unfold insErr; rw [if_neg h',if_neg (by rw [h2]; simp),if_neg h3,if_neg (by rw [h4]; simp),if_pos h5]
theorem insErr_args {np : Nat} {par : Nat→Int} {regs : Int} {code : Nat} {i : In} (h : okC i.op = true) (h2 : regsB i regs = true) (h3 : ¬ (i.op = 7∧fromB i.b 0 ((np : Int) - 1) = false)) (h4 : restB i code = true) (h5 : ¬ (bareB i = false ∨ (i.op = 7∧¬ (i.n : Int) = par i.b.toNat))) (h6 : i.op = 7∧argsB i regs = false) : insErr np par regs code i = 3:=by
 have h' : ¬ fromB i.op 1 13 = false:=by have : fromB i.op 1 13 = true:=h; rw [this]; simp
 unfold insErr; rw [if_neg h',if_neg (by rw [h2]; simp),if_neg h3,if_neg (by rw [h4]; simp),if_neg h5,if_pos h6]
theorem insErr_none {np : Nat} {par : Nat→Int} {regs : Int} {code : Nat} {i : In} (h : okC i.op = true) (h2 : regsB i regs = true) (h3 : ¬ (i.op = 7∧fromB i.b 0 ((np : Int) - 1) = false)) (h4 : restB i code = true) (h5 : ¬ (bareB i = false ∨ (i.op = 7∧¬ (i.n : Int) = par i.b.toNat))) (h6 : ¬ (i.op = 7∧argsB i regs = false)) : insErr np par regs code i = 0:=by
 have h' : ¬ fromB i.op 1 13 = false:=by have : fromB i.op 1 13 = true:=h; rw [this]; simp
 unfold insErr; rw [if_neg h',if_neg (by rw [h2]; simp),if_neg h3,if_neg (by rw [h4]; simp),if_neg h5,if_neg h6]
theorem argsNo {i : In} {regs : Int} {k : Nat} (hk : k < i.n) (h : fromB (i.z k) 0 (regs - 1) = false) : argsB i regs = false:=by
 unfold argsB
 rw [decide_eq_false_iff_not]
 intro hh
 unfold fromB at h
 rw [decide_eq_false_iff_not] at h
 exact h (hh k hk)
theorem argsYes {i : In} {regs : Int} (h : ∀ k,k < i.n→fromB (i.z k) 0 (regs - 1) = true) : argsB i regs = true:=by
 unfold argsB
 rw [decide_eq_true_iff]
 intro k hk
 have:=h k hk
 unfold fromB at this
 exact of_decide_eq_true this

end Go.Proofs.YtfaokaohhchdhaaGreatDoor
