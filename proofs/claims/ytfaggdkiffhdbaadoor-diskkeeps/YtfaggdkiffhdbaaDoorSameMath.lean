/- When programs are alike: the plain reckoning; and that a list of pairs still to be held against each other comes to the same. -/
import Derived.Test.YtfaggdkiffhdbaaDoorSrc
namespace Go.Proofs.YtfaggdkiffhdbaaDoor

def allTo : Nat→(Nat→Bool)→Bool
 | 0,_ => true
 | n + 1,f => allTo n f && f n

theorem allTo_iff {f : Nat→Bool} : ∀ {n : Nat},allTo n f=true ↔ ∀ i,i < n→f i=true
 | 0 => ⟨fun _ i hi => absurd hi (Nat.not_lt_zero _),fun _ => rfl⟩
 | n + 1 => by
  simp only [allTo,Bool.and_eq_true,allTo_iff (n:=n)]
  constructor
  ·rintro ⟨h1,h2⟩ i hi
   by_cases e : i=n
   ·subst e; exact h2
   ·exact h1 i (by omega)
  ·intro h; exact ⟨fun i hi => h i (by omega),h n (by omega)⟩

theorem allTo_congr {f g : Nat→Bool} : ∀ {n : Nat},(∀ i,i < n→f i=g i)→allTo n f=allTo n g
 | 0,_ => rfl
 | n + 1,h => by simp only [allTo]; rw [allTo_congr (n:=n) fun i hi => h i (by omega),h n (by omega)]

theorem allTo_no {f : Nat→Bool} {n i : Nat} (hi : i < n) (h : f i=false) : allTo n f=false:=by
 rw [Bool.eq_false_iff]; intro e; rw [allTo_iff.1 e i hi] at h; cases h

/-- Two rows of tokens are alike. -/
def eqV (n1 n2 : Nat) (k1 z1 k2 z2 : Nat→Int) : Bool:=decide (n1=n2∧∀ i,i < n1→k1 i=k2 i∧z1 i=z2 i)
theorem eqV_iff {n1 n2 : Nat} {k1 z1 k2 z2 : Nat→Int} : eqV n1 n2 k1 z1 k2 z2=true ↔ n1=n2∧∀ i,i < n1→k1 i=k2 i∧z1 i=z2 i:=by
 unfold eqV; exact decide_eq_true_iff
theorem eqV_yes {n : Nat} {k1 z1 k2 z2 : Nat→Int} (h : ∀ i,i < n→k1 i=k2 i∧z1 i=z2 i) : eqV n n k1 z1 k2 z2=true:=eqV_iff.2 ⟨rfl,h⟩
theorem eqV_no {n1 n2 : Nat} {k1 z1 k2 z2 : Nat→Int} {k : Nat} (hk : k < n1) (h : ¬ (k1 k=k2 k∧z1 k=z2 k)) : eqV n1 n2 k1 z1 k2 z2=false:=by
 rw [Bool.eq_false_iff]; intro e; exact h ((eqV_iff.1 e).2 k hk)
theorem eqV_len {n1 n2 : Nat} {k1 z1 k2 z2 : Nat→Int} (h : ¬ n1=n2) : eqV n1 n2 k1 z1 k2 z2=false:=by
 rw [Bool.eq_false_iff]; intro e; exact h (eqV_iff.1 e).1

/-- Two statements are alike,but for those in them. -/
def eqH (s t : Nd) : Bool:=decide (s.kind=t.kind) && decide (s.num=t.num) && eqV s.ne t.ne s.ek s.ez t.ek t.ez && eqV s.nf t.nf s.fk s.fz t.fk t.fz

/-- One statement against another,with all in them. -/
def eqI (E : SL→SL→Bool) (T U : SL) (i : Nat) : Bool:=eqH (T.nd i) (U.nd i) && (E (T.sub i false) (U.sub i false) && E (T.sub i true) (U.sub i true))

/-- Two lists of statements are alike. -/
def eqS : Nat→SL→SL→Bool
 | 0,_,_ => true
 | d + 1,T,U => decide (T.len=U.len) && allTo T.len (eqI (eqS d) T U)

theorem eqS_len {d : Nat} {T U : SL} (h : ¬ T.len=U.len) : eqS (d + 1) T U=false:=by
 simp [eqS,h]
theorem eqS_all {d : Nat} {T U : SL} (h : T.len=U.len) : eqS (d + 1) T U=allTo T.len (eqI (eqS d) T U):=by
 simp [eqS,h]

/-- There is nothing deeper than so. -/
def proper : Nat→SL→Prop
 | 0,T => T.len=0
 | d + 1,T => ∀ i,i < T.len→proper d (T.sub i false)∧proper d (T.sub i true)

theorem proper_succ : ∀ {d : Nat} {T : SL},proper d T→proper (d + 1) T
 | 0,T,h => fun i hi => by have : T.len=0:=h; omega
 | d + 1,T,h => fun i hi => ⟨proper_succ (h i hi).1,proper_succ (h i hi).2⟩

theorem proper_le {d e : Nat} {T : SL} (h : proper d T) (hd : d ≤ e) : proper e T := by
  induction e with
  | zero => obtain rfl : d = 0 := by omega
            exact h
  | succ e ih =>
    by_cases c : d = e + 1
    · subst c; exact h
    · exact proper_succ (ih (by omega))

theorem eqS_succ : ∀ {d : Nat} {T U : SL},proper d T→proper d U→eqS (d + 1) T U=eqS d T U
 | 0,T,U,h,k => by
  have h' : T.len=0:=h
  have k' : U.len=0:=k
  rw [eqS_all (by omega),h']; rfl
 | d + 1,T,U,h,k => by
  by_cases c : T.len=U.len
  ·rw [eqS_all c,eqS_all c]
   refine allTo_congr fun i hi => ?_
   unfold eqI
   rw [eqS_succ (h i hi).1 (k i (by omega)).1,eqS_succ (h i hi).2 (k i (by omega)).2]
  ·rw [eqS_len c,eqS_len c]

theorem size_succ' : ∀ {d : Nat} {T : SL},proper d T→size (d + 1) T=size d T
 | 0,T,h => by
  have h' : T.len=0:=h
  simp only [size]; rw [h']; rfl
 | d + 1,T,h => by
  show sumTo T.len (fun i => 1 + size (d + 1) (T.sub i false) + size (d + 1) (T.sub i true))=sumTo T.len (fun i => 1 + size d (T.sub i false) + size d (T.sub i true))
  exact sumTo_congr fun i hi => by rw [size_succ' (h i hi).1,size_succ' (h i hi).2]

/-- Two functions are alike. -/
def eqF (d : Nat) (p1 l1 p2 l2 : Int) (T U : SL) : Bool:=decide (p1=p2) && decide (l1=l2) && eqS d T U

/-- Two programs are alike. -/
def eqP (d n1 n2 : Nat) (p1 l1 p2 l2 : Nat→Int) (B C : Nat→SL) : Bool:=decide (n1=n2) && allTo n1 (fun i => eqF d (p1 i) (l1 i) (p2 i) (l2 i) (B i) (C i))
theorem eqP_len {d n1 n2 : Nat} {p1 l1 p2 l2 : Nat→Int} {B C : Nat→SL} (h : ¬ n1=n2) : eqP d n1 n2 p1 l1 p2 l2 B C=false:=by simp [eqP,h]
theorem eqP_yes {d n : Nat} {p1 l1 p2 l2 : Nat→Int} {B C : Nat→SL} (h : ∀ i,i < n→eqF d (p1 i) (l1 i) (p2 i) (l2 i) (B i) (C i)=true) : eqP d n n p1 l1 p2 l2 B C=true:=by
 simp only [eqP,decide_true,Bool.true_and]; exact allTo_iff.2 h
theorem eqP_no {d n1 n2 : Nat} {p1 l1 p2 l2 : Nat→Int} {B C : Nat→SL} {i : Nat} (hi : i < n1) (h : eqF d (p1 i) (l1 i) (p2 i) (l2 i) (B i) (C i)=false) : eqP d n1 n2 p1 l1 p2 l2 B C=false:=by
 unfold eqP; rw [allTo_no hi h,Bool.and_false]

end Go.Proofs.YtfaggdkiffhdbaaDoor
