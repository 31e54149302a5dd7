/- headFits, checkCode and code.Check: what is wrong with a program of instructions, by the program. -/
import Derived.Test.YtfaggdkiffhdbaaDoorCheckIns
namespace Go.Proofs.YtfaggdkiffhdbaaDoor
open Go.RowKit

def headB (pm regs : Int) : Bool:=fromB pm 0 3 && fromB regs (max 1 pm) 40

theorem CodeAt.shape {N : Nat} {w : World} {v : Value} {n : Nat} {ins : Nat→In} (h : CodeAt N w v n ins) : ∃ a cap,v=.slice a n cap∧n≤9223372036854775807:=by
 obtain ⟨a,cap,rfl,hn,_⟩:=h; exact ⟨a,cap,rfl,hn⟩
theorem ProcsAt.shape {N : Nat} {w : World} {v : Value} {n : Nat} {P : Nat→Pc} (h : ProcsAt N w v n P) : ∃ a cap,v=.slice a n cap∧n≤9223372036854775807:=by
 obtain ⟨a,cap,rfl,hn,_⟩:=h; exact ⟨a,cap,rfl,hn⟩

theorem bodyC_at {np : Nat} {par : Nat→Int} {p : Pc} {k : Nat} (hk : k < p.n) (h : ∀ x,x < k→insErr np par p.regs p.n (p.ins x)=0) (he : ¬ insErr np par p.regs p.n (p.ins k)=0) : bodyCErr np par p=insErr np par p.regs p.n (p.ins k):=by
 unfold bodyCErr
 have:=firstErr_at (f:=fun k => insErr np par p.regs p.n (p.ins k)) h he hk
 have e : firstErr p.n (fun k => insErr np par p.regs p.n (p.ins k))=insErr np par p.regs p.n (p.ins k):=this
 rw [e,if_neg he]

theorem bodyC_all {np : Nat} {par : Nat→Int} {p : Pc} (h : ∀ x,x < p.n→insErr np par p.regs p.n (p.ins x)=0) : bodyCErr np par p=if (p.ins (p.n - 1)).op=8∨(p.ins (p.n - 1)).op=12 then 0 else 4:=by
 unfold bodyCErr
 rw [if_pos (firstErr_zero h)]

theorem codeErr_many {np : Nat} {P : Nat→Pc} (h : np < 1∨4 < np) : codeErr np P=2:=by unfold codeErr; rw [if_pos h]
theorem codeErr_head {np : Nat} {P : Nat→Pc} (h : ¬ (np < 1∨4 < np)) {j : Nat} (hj : j < np) (ha : ∀ x,x < j→pcErr x (P x)=0) (he : ¬ pcErr j (P j)=0) : codeErr np P=pcErr j (P j):=by
 have e : firstErr np (fun j => pcErr j (P j))=pcErr j (P j):=firstErr_at (f:=fun j => pcErr j (P j)) ha he hj
 unfold codeErr
 rw [if_neg h,e,if_neg he]
theorem codeErr_body {np : Nat} {P : Nat→Pc} (h : ¬ (np < 1∨4 < np)) (h0 : ∀ x,x < np→pcErr x (P x)=0) {j : Nat} (hj : j < np) (ha : ∀ x,x < j→bodyCErr np (fun k => (P k).params) (P x)=0) (he : ¬ bodyCErr np (fun k => (P k).params) (P j)=0) : codeErr np P=bodyCErr np (fun k => (P k).params) (P j):=by
 unfold codeErr
 rw [if_neg h,if_pos (firstErr_zero h0)]
 exact firstErr_at (f:=fun j => bodyCErr np (fun k => (P k).params) (P j)) ha he hj
theorem codeErr_none {np : Nat} {P : Nat→Pc} (h : ¬ (np < 1∨4 < np)) (h0 : ∀ x,x < np→pcErr x (P x)=0) (ha : ∀ x,x < np→bodyCErr np (fun k => (P k).params) (P x)=0) : codeErr np P=0:=by
 unfold codeErr
 rw [if_neg h,if_pos (firstErr_zero h0),firstErr_zero ha]
theorem pcErr_head {j : Nat} {p : Pc} (h : headB p.params p.regs=false) : pcErr j p=3:=by
 unfold headB at h
 unfold pcErr
 rw [if_pos]
 rw [Bool.and_eq_false_iff] at h
 rcases h with h | h
 ·exact Or.inl h
 ·exact Or.inr (Or.inl h)
theorem pcErr_first {j : Nat} {p : Pc} (h : j=0∧0 < p.params) : pcErr j p=3:=by
 unfold pcErr
 rw [if_pos (Or.inr (Or.inr h))]
theorem pcErr_rest {j : Nat} {p : Pc} (h : headB p.params p.regs=true) (h0 : ¬ (j=0∧0 < p.params)) : pcErr j p=if p.n < 1∨2000 < p.n then 2 else 0:=by
 unfold headB at h
 rw [Bool.and_eq_true] at h
 unfold pcErr
 rw [if_neg]
 rw [h.1,h.2]
 simp
 omega
theorem pcErr_fits {j : Nat} {p : Pc} (h : pcErr j p=0) : (1≤p.regs∧p.regs≤40)∧(1≤p.n∧p.n≤2000):=by
 unfold pcErr at h
 split at h
 ·cases h
 ·next h1 =>
  split at h
  ·cases h
  ·rw [not_or,not_or] at h1
   have b : fromB p.regs (max 1 p.params) 40=true:=by simpa using h1.2.1
   unfold fromB at b
   have b:=of_decide_eq_true b
   omega

end Go.Proofs.YtfaggdkiffhdbaaDoor
