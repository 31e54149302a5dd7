/- Rows of the call's own: the last of them, a row without it, another in its place; guarded operations; slices.Max. -/
import Derived.Test.YtfaokaohhchdhaaGreatDoorSrcBase
import Derived.Maps.OwnSet
import Derived.Maps.AppendAt
import Derived.Lib.SliceRun
import Derived.Test.YtfaokaohhchdhaaGreatDoorPart1
import Derived.Test.YtfaokaohhchdhaaGreatDoorSrc
namespace Go.Proofs.YtfaokaohhchdhaaGreatDoor
open Go.RowKit Go.Maps

/-- An operation whose guard lets it go is done as if it had none. -/
theorem wpList_wanted {P : Program} {ops : Array Oper} {Q : Exit→Act→World→Prop} {a : Act} {w : World} {rest : List Oper} {o : Oper} (hw : Region.wanted o (yielded ops a.tmps) = true)
  (h : wpList P ops Q ({ o with guard:=none } :: rest) a w) : wpList P ops Q (o :: rest) a w:=by
 unfold wpList at h ⊢
 rw [if_pos (by simp [Region.wanted])] at h
 rw [if_pos hw]
 exact h

theorem own_shape {w : World} {base : Nat} {e : TypeId} {size : Nat} {v : Value} {n : Nat} {xs : List Value} (h : w.ownsRow base e size v n xs) : ∃ a cap,v = .slice a n cap:=by
 rcases h.2 with ⟨rfl,rfl⟩ | ⟨g,cap,cur,rfl,_⟩
 ·exact ⟨none,0,rfl⟩
 ·exact ⟨_,cap,rfl⟩

theorem own_block {w : World} {base : Nat} {e : TypeId} {size : Nat} {v : Value} {n : Nat} {xs : List Value} (h : w.ownsRow base e size v (n + 1) xs) : ∃ g cap,v = .slice (some ⟨g,0,none⟩) (n + 1) cap∧base ≤ g∧g < w.heap.size∧n + 1 ≤ cap∧cap ≤ maxLen:=by
 rcases h.2 with ⟨rfl,h0⟩ | ⟨g,cap,cur,rfl,hb,hh,hn,hm,_⟩
 ·cases h0
 ·exact ⟨g,cap,rfl,hb,(h.lt g rfl).2,hn,hm⟩

/-- The first m of a slice. -/
theorem slice_to {t e : TypeId} {k : Nat} (u : Tryz.prog.underlying t = some (.slice e)) (hz : ∀ w,(sizeOf e).run Tryz.prog w = .ok k w) (g : Addr) (n c m : Nat) (x : Int) (hx : x = m) (hm : m ≤ c) (w : World) : (Instr.slice t (.slice (some g) n c) none (some (.int .i64 x)) none).run Tryz.prog w = .ok (.slice (some g) m c) w:=by
 subst hx
 simp [Instr.slice,Instr.sliceBounds,Instr.sliceBound,asIntOf,run_underlying u,go_sem]
 rw [if_pos hm,hz]
 rfl

end Go.Proofs.YtfaokaohhchdhaaGreatDoor
namespace Go.Proofs.YtfaokaohhchdhaaGreatDoor

/-- An instruction. -/
structure In where
 op : Int
 a : Int
 b : Int
 c : Int
 n : Nat
 z : Nat→Int

def fromB (n lo hi : Int) : Bool:=decide (lo ≤ n∧n ≤ hi)

/-- Are A,B and C,where they are registers,of those that there are? -/
def regsB (i : In) (regs : Int) : Bool :=
 if i.op = 10 ∨ i.op = 12 then true
 else if i.op = 3 then fromB i.a 0 (regs - 1) && (fromB i.b 0 (regs - 1) && fromB i.c 0 (regs - 1))
 else if i.op = 2 ∨ i.op = 4 ∨ i.op = 6 then fromB i.a 0 (regs - 1) && fromB i.b 0 (regs - 1)
 else fromB i.a 0 (regs - 1)

/-- Is what is neither a register nor a procedure as it may be? -/
def restB (i : In) (code : Int) : Bool :=
 if i.op = 1 then fromB i.b (-1000000000) 1000000000
 else if i.op = 5 then fromB i.b 1 4
 else if i.op = 4 ∨ i.op = 6 then fromB i.c 0 3
 else if i.op = 3 then decide (i.n = 1) && fromB (i.z 0) 1 5
 else if i.op = 12 ∨ i.op = 13 then fromB i.b 0 (code - 1)
 else true

/-- Is all zero that it has no use for? -/
def bareB (i : In) : Bool :=
 if i.op = 3 then true
 else if i.op = 7 then decide (i.c = 0)
 else if i.op = 4 ∨ i.op = 6 then decide (i.n = 0)
 else if i.op = 1 ∨ i.op = 5 ∨ i.op = 2 ∨ i.op = 13 then decide (i.c = 0) && decide (i.n = 0)
 else if i.op = 8 ∨ i.op = 9 ∨ i.op = 11 then decide (i.b = 0) && (decide (i.c = 0) && decide (i.n = 0))
 else if i.op = 12 then decide (i.a = 0) && (decide (i.c = 0) && decide (i.n = 0))
 else decide (i.a = 0) && (decide (i.b = 0) && (decide (i.c = 0) && decide (i.n = 0)))

def argsB (i : In) (regs : Int) : Bool:=decide (∀ k,k < i.n→0 ≤ i.z k∧i.z k ≤ regs - 1)

/-- What is wrong with an instruction,of np procedures with so many parameters,where there are so many registers and instructions. -/
def insErr (np : Nat) (par : Nat→Int) (regs : Int) (code : Nat) (i : In) : Int :=
 if fromB i.op 1 13 = false then 4
 else if regsB i regs = false then 3
 else if i.op = 7∧fromB i.b 0 ((np : Int) - 1) = false then 5
 else if restB i code = false then 3
 else if bareB i = false ∨ (i.op = 7∧¬ (i.n : Int) = par i.b.toNat) then 4
 else if i.op = 7∧argsB i regs = false then 3
 else 0

/-- A procedure. -/
structure Pc where
 params : Int
 regs : Int
 n : Nat
 ins : Nat→In

/-- What is wrong with a procedure's head. -/
def pcErr (j : Nat) (p : Pc) : Int :=
 if fromB p.params 0 3 = false ∨ fromB p.regs (max 1 p.params) 40 = false ∨ (j = 0∧0 < p.params) then 3
 else if p.n < 1 ∨ 2000 < p.n then 2 else 0

/-- .. with its instructions. -/
def bodyCErr (np : Nat) (par : Nat→Int) (p : Pc) : Int :=
 if firstErr p.n (fun k => insErr np par p.regs p.n (p.ins k)) = 0 then (if (p.ins (p.n - 1)).op = 8 ∨ (p.ins (p.n - 1)).op = 12 then 0 else 4)
 else firstErr p.n (fun k => insErr np par p.regs p.n (p.ins k))

/-- .. with a program. -/
def codeErr (np : Nat) (P : Nat→Pc) : Int :=
 if np < 1 ∨ 4 < np then 2
 else if firstErr np (fun j => pcErr j (P j)) = 0 then firstErr np (fun j => bodyCErr np (fun k => (P k).params) (P j))
 else firstErr np (fun j => pcErr j (P j))

def allTo : Nat→(Nat→Bool)→Bool
 | 0,_ => true
 | n + 1,f => allTo n f && f n

theorem allTo_iff {f : Nat→Bool} : ∀ {n : Nat},allTo n f = true ↔ ∀ i,i < n→f i = true
 | 0 => ⟨fun _ i hi => absurd hi (Nat.not_lt_zero _),fun _ => rfl⟩
 | n + 1 => by
  simp only [allTo,Bool.and_eq_true,allTo_iff (n:=n)]
  constructor
  ·rintro ⟨h1,h2⟩ i hi
   by_cases e : i = n
   ·subst e; exact h2
   ·exact h1 i (by omega)
  ·intro h; exact ⟨fun i hi => h i (by omega),h n (by omega)⟩

theorem allTo_congr {f g : Nat→Bool} : ∀ {n : Nat},(∀ i,i < n→f i = g i)→allTo n f = allTo n g
 | 0,_ => rfl
 | n + 1,h => by simp only [allTo]; rw [allTo_congr (n:=n) fun i hi => h i (by omega),h n (by omega)]

theorem allTo_no {f : Nat→Bool} {n i : Nat} (hi : i < n) (h : f i = false) : allTo n f = false:=by
 rw [Bool.eq_false_iff]; intro e; rw [allTo_iff.1 e i hi] at h; cases h

/-- Two rows of tokens are alike. -/
def eqV (n1 n2 : Nat) (k1 z1 k2 z2 : Nat→Int) : Bool:=decide (n1 = n2∧∀ i,i < n1→k1 i = k2 i∧z1 i = z2 i)
theorem eqV_iff {n1 n2 : Nat} {k1 z1 k2 z2 : Nat→Int} : eqV n1 n2 k1 z1 k2 z2 = true ↔ n1 = n2∧∀ i,i < n1→k1 i = k2 i∧z1 i = z2 i:=by
 unfold eqV; exact decide_eq_true_iff
theorem eqV_yes {n : Nat} {k1 z1 k2 z2 : Nat→Int} (h : ∀ i,i < n→k1 i = k2 i∧z1 i = z2 i) : eqV n n k1 z1 k2 z2 = true:=eqV_iff.2 ⟨rfl,h⟩
theorem eqV_no {n1 n2 : Nat} {k1 z1 k2 z2 : Nat→Int} {k : Nat} (hk : k < n1) (h : ¬ (k1 k = k2 k∧z1 k = z2 k)) : eqV n1 n2 k1 z1 k2 z2 = false:=by
 rw [Bool.eq_false_iff]; intro e; exact h ((eqV_iff.1 e).2 k hk)
theorem eqV_len {n1 n2 : Nat} {k1 z1 k2 z2 : Nat→Int} (h : ¬ n1 = n2) : eqV n1 n2 k1 z1 k2 z2 = false:=by
 rw [Bool.eq_false_iff]; intro e; exact h (eqV_iff.1 e).1

/-- Two statements are alike,but for those in them. -/
def eqH (s t : Nd) : Bool:=decide (s.kind = t.kind) && decide (s.num = t.num) && eqV s.ne t.ne s.ek s.ez t.ek t.ez && eqV s.nf t.nf s.fk s.fz t.fk t.fz

/-- One statement against another,with all in them. -/
def eqI (E : SL→SL→Bool) (T U : SL) (i : Nat) : Bool:=eqH (T.nd i) (U.nd i) && (E (T.sub i false) (U.sub i false) && E (T.sub i true) (U.sub i true))

/-- Two lists of statements are alike. -/
def eqS : Nat→SL→SL→Bool
 | 0,_,_ => true
 | d + 1,T,U => decide (T.len = U.len) && allTo T.len (eqI (eqS d) T U)

theorem eqS_len {d : Nat} {T U : SL} (h : ¬ T.len = U.len) : eqS (d + 1) T U = false:=by
 simp [eqS,h]
theorem eqS_all {d : Nat} {T U : SL} (h : T.len = U.len) : eqS (d + 1) T U = allTo T.len (eqI (eqS d) T U):=by
 simp [eqS,h]

/-- There is nothing deeper than so. -/
def proper : Nat→SL→Prop
 | 0,T => T.len = 0
 | d + 1,T => ∀ i,i < T.len→proper d (T.sub i false)∧proper d (T.sub i true)

theorem proper_succ : ∀ {d : Nat} {T : SL},proper d T→proper (d + 1) T
 | 0,T,h => fun i hi => by have : T.len = 0:=h; omega
 | d + 1,T,h => fun i hi => ⟨proper_succ (h i hi).1,proper_succ (h i hi).2⟩

theorem proper_le {d e : Nat} {T : SL} (h : proper d T) (hd : d ≤ e) : proper e T := by
  induction e with
  | zero => obtain rfl : d = 0 := by omega
            exact h
  | succ e ih =>
    by_cases c : d = e + 1
    · subst c; exact h
    · exact proper_succ (ih (by omega))

theorem eqS_succ : ∀ {d : Nat} {T U : SL},proper d T→proper d U→eqS (d + 1) T U = eqS d T U
 | 0,T,U,h,k => by
  have h' : T.len = 0:=h
  have k' : U.len = 0:=k
  rw [eqS_all (by omega),h']; rfl
 | d + 1,T,U,h,k => by
  by_cases c : T.len = U.len
  ·rw [eqS_all c,eqS_all c]
   refine allTo_congr fun i hi => ?_
   unfold eqI
   rw [eqS_succ (h i hi).1 (k i (by omega)).1,eqS_succ (h i hi).2 (k i (by omega)).2]
  ·rw [eqS_len c,eqS_len c]

theorem size_succ' : ∀ {d : Nat} {T : SL},proper d T→size (d + 1) T = size d T
 | 0,T,h => by
  have h' : T.len = 0:=h
  simp only [size]; rw [h']; rfl
 | d + 1,T,h => by
  show sumTo T.len (fun i => 1 + size (d + 1) (T.sub i false) + size (d + 1) (T.sub i true)) = sumTo T.len (fun i => 1 + size d (T.sub i false) + size d (T.sub i true))
  exact sumTo_congr fun i hi => by rw [size_succ' (h i hi).1,size_succ' (h i hi).2]

/-- Two functions are alike. -/
def eqF (d : Nat) (p1 l1 p2 l2 : Int) (T U : SL) : Bool:=decide (p1 = p2) && decide (l1 = l2) && eqS d T U

/-- Two programs are alike. -/
def eqP (d n1 n2 : Nat) (p1 l1 p2 l2 : Nat→Int) (B C : Nat→SL) : Bool:=decide (n1 = n2) && allTo n1 (fun i => eqF d (p1 i) (l1 i) (p2 i) (l2 i) (B i) (C i))
theorem eqP_len {d n1 n2 : Nat} {p1 l1 p2 l2 : Nat→Int} {B C : Nat→SL} (h : ¬ n1 = n2) : eqP d n1 n2 p1 l1 p2 l2 B C = false:=by simp [eqP,h]
theorem eqP_yes {d n : Nat} {p1 l1 p2 l2 : Nat→Int} {B C : Nat→SL} (h : ∀ i,i < n→eqF d (p1 i) (l1 i) (p2 i) (l2 i) (B i) (C i) = true) : eqP d n n p1 l1 p2 l2 B C = true:=by
 simp only [eqP,decide_true,Bool.true_and]; exact allTo_iff.2 h
theorem eqP_no {d n1 n2 : Nat} {p1 l1 p2 l2 : Nat→Int} {B C : Nat→SL} {i : Nat} (hi : i < n1) (h : eqF d (p1 i) (l1 i) (p2 i) (l2 i) (B i) (C i) = false) : eqP d n1 n2 p1 l1 p2 l2 B C = false:=by
 unfold eqP; rw [allTo_no hi h,Bool.and_false]

end Go.Proofs.YtfaokaohhchdhaaGreatDoor
