/- Laws of a region that draws its order, in a form that stays small: an operation taken first, wanted or not; the one call that may come up. -/
import Derived.Deep.RegionHeld
import Derived.Test.YtfaggdkiffhdbaaDoorChecked
namespace Go.Proofs.YtfaggdkiffhdbaaDoor

variable {P : Program} {ops : Array Oper} {Q : Exit→Act→World→Prop} {md : Region.Mode} {S : World→Prop}

theorem held_begin {id n : Nat} {l0 : Array Bool} {a : Act} {w : World} (hm : P.follows .mixedOrders=true) (hn : ops.size=n) (hl : Array.replicate ops.size false=l0) (hS : S w.drew)
  (h : S w.drew→wpAnyH P .any ops Q S n l0 a w.drew) : (Code.region id ops true).wp P Q a w:=by
 subst hl
 subst hn
 exact wp_region_held_drew hm hS h

theorem take_yes {i d fuel : Nat} {oi : Oper} {v : Value} {listed l2 : Array Bool} {a : Act} {w : World} (hi : ops[i]?=some oi) (hd : oi.dst=some d) (hl : listed.setIfInBounds i true=l2)
  (hs : Region.noSelect ops=true) (hf : Region.free md ops listed i=true) (hr : (Region.ready md ops listed).contains i=true)
  (hQ : ∀ c a w,Q (.panic c) (a.put (some d) v) w→Q (.panic c) a w) (hw : Region.wanted oi (yielded ops a.tmps)=true) (hy : ∀ w,S w→(execOp a.eval oi).run P w=.ok (.value v) w) (hS : S w)
  (h : wpAnyH P md ops Q S fuel l2 (a.put (some d) v) w) : wpAnyH P md ops Q S (fuel + 1) listed a w:=by
 subst hl
 rw [← hd] at h hQ
 exact wpAnyH_take hi hs hf hr hQ (Or.inl ⟨hw,hy⟩) hS h

theorem take_no {i d fuel : Nat} {oi : Oper} {listed l2 : Array Bool} {a : Act} {w : World} (hi : ops[i]?=some oi) (hd : oi.dst=some d) (hl : listed.setIfInBounds i true=l2)
  (hs : Region.noSelect ops=true) (hf : Region.free md ops listed i=true) (hr : (Region.ready md ops listed).contains i=true)
  (hQ : ∀ c a w,Q (.panic c) (a.put (some d) undef) w→Q (.panic c) a w) (hw : Region.wanted oi (yielded ops a.tmps)=false) (hS : S w)
  (h : wpAnyH P md ops Q S fuel l2 (a.put (some d) undef) w) : wpAnyH P md ops Q S (fuel + 1) listed a w:=by
 subst hl
 rw [← hd] at h hQ
 exact wpAnyH_take hi hs hf hr hQ (Or.inr ⟨hw,rfl⟩) hS h

/-- One alone may come up: a call. -/
theorem one_up {i d fuel : Nat} {oi : Oper} {listed l2 : Array Bool} {a : Act} {w : World} (hi : ops[i]?=some oi) (_hd : oi.dst=some d) (hl : listed.setIfInBounds i true=l2) (hr : Region.ready md ops listed=[i])
  (hw : Region.wanted oi (yielded ops a.tmps)=true)
  (h : ∀ K' : Act→World→Prop,Shut (∀ v w,S w→(S w→wpAnyH P md ops Q S fuel l2 (a.put (some d) v) w)→K' (a.put (some d) v) w)→Oper.wp P oi a w K' Q) : wpAnyH P md ops Q S (fuel + 1) listed a w:=by
 subst hl
 refine wpAnyH_ready (rs:=[i]) hr (by simp) (AllReadyH.cons hi (fun K hK => ?_) AllReadyH.nil)
 rw [if_pos hw]
 exact h K (fun v w hS hW => hK _ _ hS hW)

/-- .. what hands back nothing: a store. -/
theorem one_up_none {i fuel : Nat} {oi : Oper} {listed l2 : Array Bool} {a : Act} {w : World} (hi : ops[i]?=some oi) (hd : oi.dst=none) (hl : listed.setIfInBounds i true=l2) (hr : Region.ready md ops listed=[i])
  (hw : Region.wanted oi (yielded ops a.tmps)=true)
  (h : ∀ K' : Act→World→Prop,Shut (∀ w,S w→(S w→wpAnyH P md ops Q S fuel l2 a w)→K' a w)→Oper.wp P oi a w K' Q) : wpAnyH P md ops Q S (fuel + 1) listed a w:=by
 have _:=hd
 subst hl
 refine wpAnyH_ready (rs:=[i]) hr (by simp) (AllReadyH.cons hi (fun K hK => ?_) AllReadyH.nil)
 rw [if_pos hw]
 exact h K (fun w hS hW => hK _ _ hS hW)

/-- Two may come up,both with a value. -/
theorem two_up {i j d e fuel : Nat} {oi oj : Oper} {listed l1 l2 : Array Bool} {a : Act} {w : World} (hi : ops[i]?=some oi) (hj : ops[j]?=some oj) (_hd : oi.dst=some d) (_he : oj.dst=some e) (hl1 : listed.setIfInBounds i true=l1) (hl2 : listed.setIfInBounds j true=l2) (hr : Region.ready md ops listed=[i,j])
  (hwi : Region.wanted oi (yielded ops a.tmps)=true) (hwj : Region.wanted oj (yielded ops a.tmps)=true)
  (h1 : ∀ K' : Act→World→Prop,Shut (∀ v w,S w→(S w→wpAnyH P md ops Q S fuel l1 (a.put (some d) v) w)→K' (a.put (some d) v) w)→Oper.wp P oi a w K' Q)
  (h2 : ∀ K' : Act→World→Prop,Shut (∀ v w,S w→(S w→wpAnyH P md ops Q S fuel l2 (a.put (some e) v) w)→K' (a.put (some e) v) w)→Oper.wp P oj a w K' Q) : wpAnyH P md ops Q S (fuel + 1) listed a w:=by
 subst hl1
 subst hl2
 refine wpAnyH_ready (rs:=[i,j]) hr (by simp) (AllReadyH.cons hi (fun K hK => ?_) (AllReadyH.cons hj (fun K hK => ?_) AllReadyH.nil))
 ·rw [if_pos hwi]
  exact h1 K (fun v w hS hW => hK _ _ hS hW)
 ·rw [if_pos hwj]
  exact h2 K (fun v w hS hW => hK _ _ hS hW)

end Go.Proofs.YtfaggdkiffhdbaaDoor
