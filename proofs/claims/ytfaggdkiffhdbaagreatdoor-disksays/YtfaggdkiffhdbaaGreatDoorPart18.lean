/- Are the registers of an instruction of those that there are, by the program. -/
import Derived.Test.YtfaggdkiffhdbaaGreatDoorPart6
import Derived.Deep.CutRange
import Derived.Deep.RegionHeld
import Derived.Test.YtfaggdkiffhdbaaGreatDoorChecked
import Derived.Test.YtfaggdkiffhdbaaGreatDoorPart8
namespace Go.Proofs.YtfaggdkiffhdbaaGreatDoor
open Go.ChangeShapes Go.WideShapes Go.ChangeAt Go.RowKit

theorem argsB_no {i : In} {regs : Int} {k : Nat} (hk : k < i.n) (h : fromB (i.z k) 0 (regs - 1)=false) : argsB i regs=false:=by
 unfold argsB
 rw [decide_eq_false_iff_not]
 intro hh
 unfold fromB at h
 rw [decide_eq_false_iff_not] at h
 exact h (hh k hk)
theorem argsB_yes {i : In} {regs : Int} (h : ∀ k,k < i.n→fromB (i.z k) 0 (regs - 1)=true) : argsB i regs=true:=by
 unfold argsB
 rw [decide_eq_true_iff]
 intro k hk
 have:=h k hk
 unfold fromB at this
 exact of_decide_eq_true this

end Go.Proofs.YtfaggdkiffhdbaaGreatDoor
namespace Go.Proofs.YtfaggdkiffhdbaaGreatDoor

variable {P : Program} {ops : Array Oper} {Q : Exit→Act→World→Prop} {md : Region.Mode} {S : World→Prop}

theorem held_begin {id n : Nat} {l0 : Array Bool} {a : Act} {w : World} (hm : P.follows .mixedOrders=true) (hn : ops.size=n) (hl : Array.replicate ops.size false=l0) (hS : S w.drew)
  (h : S w.drew→wpAnyH P .any ops Q S n l0 a w.drew) : (Code.region id ops true).wp P Q a w:=by
 subst hl
 subst hn
 exact wp_region_held_drew hm hS h

theorem take_yes {i d fuel : Nat} {oi : Oper} {v : Value} {listed l2 : Array Bool} {a : Act} {w : World} (hi : ops[i]?=some oi) (hd : oi.dst=some d) (hl : listed.setIfInBounds i true=l2)
  (hs : Region.noSelect ops=true) (hf : Region.free md ops listed i=true) (hr : (Region.ready md ops listed).contains i=true)
  (hQ : ∀ c a w,Q (.panic c) (a.put (some d) v) w→Q (.panic c) a w) (hw : Region.wanted oi (yielded ops a.tmps)=true) (hy : ∀ w,S w→(execOp a.eval oi).run P w=.ok (.value v) w) (hS : S w)
  (h : wpAnyH P md ops Q S fuel l2 (a.put (some d) v) w) : wpAnyH P md ops Q S (fuel + 1) listed a w:=by
 subst hl
 rw [← hd] at h hQ
 exact wpAnyH_take hi hs hf hr hQ (Or.inl ⟨hw,hy⟩) hS h

theorem take_no {i d fuel : Nat} {oi : Oper} {listed l2 : Array Bool} {a : Act} {w : World} (hi : ops[i]?=some oi) (hd : oi.dst=some d) (hl : listed.setIfInBounds i true=l2)
  (hs : Region.noSelect ops=true) (hf : Region.free md ops listed i=true) (hr : (Region.ready md ops listed).contains i=true)
  (hQ : ∀ c a w,Q (.panic c) (a.put (some d) undef) w→Q (.panic c) a w) (hw : Region.wanted oi (yielded ops a.tmps)=false) (hS : S w)
  (h : wpAnyH P md ops Q S fuel l2 (a.put (some d) undef) w) : wpAnyH P md ops Q S (fuel + 1) listed a w:=by
 subst hl
 rw [← hd] at h hQ
 exact wpAnyH_take hi hs hf hr hQ (Or.inr ⟨hw,rfl⟩) hS h

/-- One alone may come up: a call. -/
theorem one_up {i d fuel : Nat} {oi : Oper} {listed l2 : Array Bool} {a : Act} {w : World} (hi : ops[i]?=some oi) (_hd : oi.dst=some d) (hl : listed.setIfInBounds i true=l2) (hr : Region.ready md ops listed=[i])
  (hw : Region.wanted oi (yielded ops a.tmps)=true)
  (h : ∀ K' : Act→World→Prop,Shut (∀ v w,S w→(S w→wpAnyH P md ops Q S fuel l2 (a.put (some d) v) w)→K' (a.put (some d) v) w)→Oper.wp P oi a w K' Q) : wpAnyH P md ops Q S (fuel + 1) listed a w:=by
 subst hl
 refine wpAnyH_ready (rs:=[i]) hr (by simp) (AllReadyH.cons hi (fun K hK => ?_) AllReadyH.nil)
 rw [if_pos hw]
 exact h K (fun v w hS hW => hK _ _ hS hW)

/-- .. what hands back nothing: a store. -/
theorem one_up_none {i fuel : Nat} {oi : Oper} {listed l2 : Array Bool} {a : Act} {w : World} (hi : ops[i]?=some oi) (hd : oi.dst=none) (hl : listed.setIfInBounds i true=l2) (hr : Region.ready md ops listed=[i])
  (hw : Region.wanted oi (yielded ops a.tmps)=true)
  (h : ∀ K' : Act→World→Prop,Shut (∀ w,S w→(S w→wpAnyH P md ops Q S fuel l2 a w)→K' a w)→Oper.wp P oi a w K' Q) : wpAnyH P md ops Q S (fuel + 1) listed a w:=by
 have _:=hd
 subst hl
 refine wpAnyH_ready (rs:=[i]) hr (by simp) (AllReadyH.cons hi (fun K hK => ?_) AllReadyH.nil)
 rw [if_pos hw]
 exact h K (fun w hS hW => hK _ _ hS hW)

/-- Two may come up,both with a value. -/
theorem two_up {i j d e fuel : Nat} {oi oj : Oper} {listed l1 l2 : Array Bool} {a : Act} {w : World} (hi : ops[i]?=some oi) (hj : ops[j]?=some oj) (_hd : oi.dst=some d) (_he : oj.dst=some e) (hl1 : listed.setIfInBounds i true=l1) (hl2 : listed.setIfInBounds j true=l2) (hr : Region.ready md ops listed=[i,j])
  (hwi : Region.wanted oi (yielded ops a.tmps)=true) (hwj : Region.wanted oj (yielded ops a.tmps)=true)
  (h1 : ∀ K' : Act→World→Prop,Shut (∀ v w,S w→(S w→wpAnyH P md ops Q S fuel l1 (a.put (some d) v) w)→K' (a.put (some d) v) w)→Oper.wp P oi a w K' Q)
  (h2 : ∀ K' : Act→World→Prop,Shut (∀ v w,S w→(S w→wpAnyH P md ops Q S fuel l2 (a.put (some e) v) w)→K' (a.put (some e) v) w)→Oper.wp P oj a w K' Q) : wpAnyH P md ops Q S (fuel + 1) listed a w:=by
 subst hl1
 subst hl2
 refine wpAnyH_ready (rs:=[i,j]) hr (by simp) (AllReadyH.cons hi (fun K hK => ?_) (AllReadyH.cons hj (fun K hK => ?_) AllReadyH.nil))
 ·rw [if_pos hwi]
  exact h1 K (fun v w hS hW => hK _ _ hS hW)
 ·rw [if_pos hwj]
  exact h2 K (fun v w hS hW => hK _ _ hS hW)

end Go.Proofs.YtfaggdkiffhdbaaGreatDoor
namespace Go.Proofs.YtfaggdkiffhdbaaGreatDoor
open Go.ChangeShapes Go.WideShapes Go.ChangeAt Go.RowKit

end Go.Proofs.YtfaggdkiffhdbaaGreatDoor
namespace Go.Proofs.YtfaggdkiffhdbaaGreatDoor
open Go.RowKit

def headB (pm regs : Int) : Bool:=fromB pm 0 3 && fromB regs (max 1 pm) 40

theorem CodeAt.shape {N : Nat} {w : World} {v : Value} {n : Nat} {ins : Nat→In} (h : CodeAt N w v n ins) : ∃ a cap,v=.slice a n cap∧n≤9223372036854775807:=by
 obtain ⟨a,cap,rfl,hn,_⟩:=h; exact ⟨a,cap,rfl,hn⟩
theorem ProcsAt.shape {N : Nat} {w : World} {v : Value} {n : Nat} {P : Nat→Pc} (h : ProcsAt N w v n P) : ∃ a cap,v=.slice a n cap∧n≤9223372036854775807:=by
 obtain ⟨a,cap,rfl,hn,_⟩:=h; exact ⟨a,cap,rfl,hn⟩

theorem bodyC_at {np : Nat} {par : Nat→Int} {p : Pc} {k : Nat} (hk : k < p.n) (h : ∀ x,x < k→insErr np par p.regs p.n (p.ins x)=0) (he : ¬ insErr np par p.regs p.n (p.ins k)=0) : bodyCErr np par p=insErr np par p.regs p.n (p.ins k):=by
 unfold bodyCErr
 have:=firstErr_at (f:=fun k => insErr np par p.regs p.n (p.ins k)) h he hk
 have e : firstErr p.n (fun k => insErr np par p.regs p.n (p.ins k))=insErr np par p.regs p.n (p.ins k):=this
 rw [e,if_neg he]

theorem bodyC_all {np : Nat} {par : Nat→Int} {p : Pc} (h : ∀ x,x < p.n→insErr np par p.regs p.n (p.ins x)=0) : bodyCErr np par p=if (p.ins (p.n - 1)).op=8∨(p.ins (p.n - 1)).op=12 then 0 else 4:=by
 unfold bodyCErr
 rw [if_pos (firstErr_zero h)]

theorem codeErr_many {np : Nat} {P : Nat→Pc} (h : np < 1∨4 < np) : codeErr np P=2:=by unfold codeErr; rw [if_pos h]
theorem codeErr_head {np : Nat} {P : Nat→Pc} (h : ¬ (np < 1∨4 < np)) {j : Nat} (hj : j < np) (ha : ∀ x,x < j→pcErr x (P x)=0) (he : ¬ pcErr j (P j)=0) : codeErr np P=pcErr j (P j):=by
 have e : firstErr np (fun j => pcErr j (P j))=pcErr j (P j):=firstErr_at (f:=fun j => pcErr j (P j)) ha he hj
 unfold codeErr
 rw [if_neg h,e,if_neg he]
theorem codeErr_body {np : Nat} {P : Nat→Pc} (h : ¬ (np < 1∨4 < np)) (h0 : ∀ x,x < np→pcErr x (P x)=0) {j : Nat} (hj : j < np) (ha : ∀ x,x < j→bodyCErr np (fun k => (P k).params) (P x)=0) (he : ¬ bodyCErr np (fun k => (P k).params) (P j)=0) : codeErr np P=bodyCErr np (fun k => (P k).params) (P j):=by
 unfold codeErr
 rw [if_neg h,if_pos (firstErr_zero h0)]
 exact firstErr_at (f:=fun j => bodyCErr np (fun k => (P k).params) (P j)) ha he hj
theorem codeErr_none {np : Nat} {P : Nat→Pc} (h : ¬ (np < 1∨4 < np)) (h0 : ∀ x,x < np→pcErr x (P x)=0) (ha : ∀ x,x < np→bodyCErr np (fun k => (P k).params) (P x)=0) : codeErr np P=0:=by
 unfold codeErr
 rw [if_neg h,if_pos (firstErr_zero h0),firstErr_zero ha]
theorem pcErr_head {j : Nat} {p : Pc} (h : headB p.params p.regs=false) : pcErr j p=3:=by
 unfold headB at h
 unfold pcErr
 rw [if_pos]
 rw [Bool.and_eq_false_iff] at h
 rcases h with h | h
 ·exact Or.inl h
 ·exact Or.inr (Or.inl h)
theorem pcErr_first {j : Nat} {p : Pc} (h : j=0∧0 < p.params) : pcErr j p=3:=by
 unfold pcErr
 rw [if_pos (Or.inr (Or.inr h))]
theorem pcErr_rest {j : Nat} {p : Pc} (h : headB p.params p.regs=true) (h0 : ¬ (j=0∧0 < p.params)) : pcErr j p=if p.n < 1∨2000 < p.n then 2 else 0:=by
 unfold headB at h
 rw [Bool.and_eq_true] at h
 unfold pcErr
 rw [if_neg]
 rw [h.1,h.2]
 simp
 omega
theorem pcErr_fits {j : Nat} {p : Pc} (h : pcErr j p=0) : (1≤p.regs∧p.regs≤40)∧(1≤p.n∧p.n≤2000):=by
 unfold pcErr at h
 split at h
 ·cases h
 ·next h1 =>
  split at h
  ·cases h
  ·rw [not_or,not_or] at h1
   have b : fromB p.regs (max 1 p.params) 40=true:=by simpa using h1.2.1
   unfold fromB at b
   have b:=of_decide_eq_true b
   omega

end Go.Proofs.YtfaggdkiffhdbaaGreatDoor
