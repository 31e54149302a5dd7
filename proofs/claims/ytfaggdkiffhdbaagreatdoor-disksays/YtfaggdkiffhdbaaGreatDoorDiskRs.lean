/- Records in memory; slices.EqualFunc over them. -/
import Derived.Test.YtfaggdkiffhdbaaGreatDoorDiskMem
import Derived.Test.YtfaggdkiffhdbaaGreatDoorRSame
namespace Go.Proofs.YtfaggdkiffhdbaaGreatDoor
open Go.RowKit Go.Maps

/-! ### Records in memory,and slices.EqualFunc over them -/

/-- The records l lie there,below block N. -/
structure RecsL (N : Nat) (w : World) (a : Option Addr) (c : Nat) (l : List Rc) : Prop where
 le : l.length≤c
 big : c≤9223372036854775807
 nil : a=none→l=[]∧c=0
 one : l=[]∨∃ b o,a=some ⟨b,o,none⟩∧b < N∧∀ i r,l[i]?=some r→∃ sa sc ia ic,w.cell? ⟨b,o + i * 6,none⟩=some (.int .i64 r.kind)∧w.cell? ⟨b,o + i * 6 + 1,none⟩=some (.int .i64 r.co)∧w.cell? ⟨b,o + i * 6 + 2,none⟩=some (.int .i64 r.ep)∧w.cell? ⟨b,o + i * 6 + 3,none⟩=some (.int .i64 r.pl)∧w.cell? ⟨b,o + i * 6 + 4,none⟩=some (.slice sa r.says.length sc)∧w.cell? ⟨b,o + i * 6 + 5,none⟩=some (.slice ia r.img.length ic)∧RecIn N w sa sc ia ic r

theorem RecsL.below {N : Nat} {w w' : World} {a : Option Addr} {c : Nat} {l : List Rc} (h : RecsL N w a c l) (hb : Below N w w') : RecsL N w' a c l:=by
 refine ⟨h.le,h.big,h.nil,?_⟩
 rcases h.one with h0 | ⟨b,o,e,hlt,hc⟩
 ·exact Or.inl h0
 ·refine Or.inr ⟨b,o,e,hlt,fun i r hi => ?_⟩
  obtain ⟨sa,sc,ia,ic,h0,h1,h2,h3,h4,h5,h6⟩:=hc i r hi
  have e : ∀ {x v},w.cell? ⟨b,x,none⟩=some v→w'.cell? ⟨b,x,none⟩=some v:=fun {x v} hx => (hb.cell (p:=⟨b,x,none⟩) hlt).trans hx
  exact ⟨sa,sc,ia,ic,e h0,e h1,e h2,e h3,e h4,e h5,h6.below hb⟩
theorem RecsL.up {N M : Nat} {w : World} {a : Option Addr} {c : Nat} {l : List Rc} (h : RecsL N w a c l) (hm : N≤M) : RecsL M w a c l:=by
 refine ⟨h.le,h.big,h.nil,?_⟩
 rcases h.one with h0 | ⟨b,o,e,hlt,hc⟩
 ·exact Or.inl h0
 ·refine Or.inr ⟨b,o,e,by omega,fun i r hi => ?_⟩
  obtain ⟨sa,sc,ia,ic,h0,h1,h2,h3,h4,h5,h6⟩:=hc i r hi
  exact ⟨sa,sc,ia,ic,h0,h1,h2,h3,h4,h5,h6.up hm⟩
theorem RecRow.list {C : Nat} {w : World} {a : Option Addr} {n c : Nat} {l : List (Rc×RAd)} (h : RecRow C w (.slice a n c) l) : RecsL w.heap.size w a c (l.map (·.1)):=by
 rcases id h.1.2 with ⟨e,h0⟩ | ⟨g,cap,cur,e,hg,hh,h1,h2,_,ht⟩
 ·injection e with e1 e2 e3
  subst e1 e2 e3
  obtain rfl : l=[]:=List.eq_nil_of_length_eq_zero h0
  exact ⟨Nat.le_refl _,by omega,fun _ => ⟨rfl,rfl⟩,Or.inl rfl⟩
 ·injection e with e1 e2 e3
  subst e1 e3
  refine ⟨by rw [List.length_map]; exact h1,by unfold maxLen at h2; omega,(fun e => by cases e),Or.inr ⟨g,0,rfl,(Array.getElem?_eq_some_iff.1 hh).1,fun i r hi => ?_⟩⟩
  rw [List.getElem?_map] at hi
  obtain ⟨x,hx,rfl⟩:=Option.map_eq_some_iff.1 hi
  have hil:=(List.getElem?_eq_some_iff.1 hx).1
  have e : ∀ j,j < 6→w.cell? ⟨g,0 + i * 6 + j,none⟩=(recVs x.1 x.2)[j]?:=fun j hj => by
   unfold World.cell?
   rw [hh]
   show cur[0 + i * 6 + j]?=_
   rw [Nat.zero_add,← Array.getElem?_toList,← List.getElem?_take_of_lt (i:=i * 6 + j) (j:=l.length * 6) (by omega),ht]
   exact flatR_at l i j x hx hj
  exact ⟨x.2.1,x.2.2.1,x.2.2.2.1,x.2.2.2.2,e 0 (by omega),e 1 (by omega),e 2 (by omega),e 3 (by omega),e 4 (by omega),e 5 (by omega),(h.2 x (List.mem_of_getElem? hx)).rec⟩

noncomputable def eqRs (l l2 : List Rc) : Bool:=@decide (l=l2) (Classical.propDecidable _)
theorem eqRs_iff {l l2 : List Rc} : eqRs l l2=true ↔ l=l2:=by unfold eqRs; exact @decide_eq_true_iff _ (Classical.propDecidable _)
theorem eqRs_yes {l l2 : List Rc} (hl : l.length=l2.length) (h : ∀ i,i < l.length→rcEq (l.getD i rc0) (l2.getD i rc0)=true) : eqRs l l2=true:=by
 rw [eqRs_iff]
 apply List.ext_getElem hl
 intro i h1 h2
 have:=rcEq_iff.1 (h i h1)
 rw [List.getD_eq_getElem?_getD,List.getD_eq_getElem?_getD,List.getElem?_eq_getElem h1,List.getElem?_eq_getElem h2] at this
 exact this
theorem eqRs_no {l l2 : List Rc} {k : Nat} (h : rcEq (l.getD k rc0) (l2.getD k rc0)=false) : eqRs l l2=false:=by
 rw [Bool.eq_false_iff]
 intro e
 have:=eqRs_iff.1 e
 subst this
 rw [rcEq_iff.2 rfl] at h
 cases h
theorem eqRs_len {l l2 : List Rc} (h : ¬ l.length=l2.length) : eqRs l l2=false:=by
 rw [Bool.eq_false_iff]
 intro e
 have:=eqRs_iff.1 e
 subst this
 exact h rfl

set_option maxRecDepth 20000 in
set_option maxHeartbeats 4000000 in
theorem eqRecsW (N : Nat) (a1 a2 : Option Addr) (c1 c2 : Nat) (F G : List Rc) (w : World) (hN : N≤w.heap.size) (hf : RecsL N w a1 c1 F) (hg : RecsL N w a2 c2 G) :
  Calls Tryz.prog 16 #[.slice a1 F.length c1,.slice a2 G.length c2,.func (.func 17) #[] #[]] w fun e w' => e=.returned (.bool (eqRs F G))∧Below w.heap.size w w':=by
 have hm1 : F.length≤9223372036854775807:=by have:=hf.le; have:=hf.big; omega
 have hm2 : G.length≤9223372036854775807:=by have:=hg.le; have:=hg.big; omega
 obtain ⟨n1,hl1⟩ : ∃ n,F.length=n:=⟨_,rfl⟩
 obtain ⟨n2,hl2⟩ : ∃ n,G.length=n:=⟨_,rfl⟩
 have HL : Hid (F.length=n1∧G.length=n2):=⟨hl1,hl2⟩
 have HF : Hid (RecsL N w a1 c1 F):=hf
 have HG : Hid (RecsL N w a2 c2 G):=hg
 rw [hl1] at hm1 ⊢
 rw [hl2] at hm2 ⊢
 clear hl1 hl2 hf hg
 by_cases hn : n1=n2
 ·subst hn
  have ht : ((n1 : Int) != (n1 : Int))=false:=by simp
  go_enter Tryz.func16,Tryz.ntmps16
  go_wp2_with fail
  go_loopw [17] (fun i wr => ∃ j : Nat,j≤n1∧i=.int .i64 j∧Hid (Below w.heap.size w wr)∧Hid (∀ x,x < j→rcEq (F.getD x rc0) (G.getD x rc0)=true)) (fun i _ => n1 - (intOf i).toNat)
  case atStart => exact ⟨0,Nat.zero_le _,rfl,Below.refl _ _,fun j hj => absurd hj (Nat.not_lt_zero _)⟩
  case round =>
   obtain ⟨j,hj,rfl,HB,hall⟩:=hrel
   by_cases hlt : j < n1
   ·have hfj : F[j]?=some (F.getD j rc0):=by rw [List.getD_eq_getElem?_getD,List.getElem?_eq_getElem (by have:=HL.out.1; omega)]; rfl
    have hgj : G[j]?=some (G.getD j rc0):=by rw [List.getD_eq_getElem?_getD,List.getElem?_eq_getElem (by have:=HL.out.2; omega)]; rfl
    rcases (HF.out.below (HB.out.mono hN)).one with h0 | ⟨q1,o1,rfl,r1,g1⟩
    ·rw [h0] at hfj; simp at hfj
    rcases (HG.out.below (HB.out.mono hN)).one with h0 | ⟨q2,o2,rfl,r2,g2⟩
    ·rw [h0] at hgj; simp at hgj
    obtain ⟨sa,sc,ia,ic,x0,x1,x2,x3,x4,x5,hx⟩:=g1 j _ hfj
    obtain ⟨sb,sbc,ib,ibc,y0',y1',y2',y3',y4',y5',hy⟩:=g2 j _ hgj
    have HX : Hid (RecIn N wr sa sc ia ic (F.getD j rc0)):=hx
    have HY : Hid (RecIn N wr sb sbc ib ibc (G.getD j rc0)):=hy
    have hwr : w.heap.size≤wr.heap.size:=HB.out.size
    have q2w : q2 < wr.heap.size:=by omega
    have y0 : ∀ o : Obj,(wr.alloc o).cell? ⟨q2,o2 + j * 6,none⟩=some (.int .i64 (G.getD j rc0).kind):=fun o => at_below (below_alloc wr o) y0'
    have y1 : ∀ o : Obj,(wr.alloc o).cell? ⟨q2,o2 + j * 6 + 1,none⟩=some (.int .i64 (G.getD j rc0).co):=fun o => at_below (below_alloc wr o) y1'
    have y2 : ∀ o : Obj,(wr.alloc o).cell? ⟨q2,o2 + j * 6 + 2,none⟩=some (.int .i64 (G.getD j rc0).ep):=fun o => at_below (below_alloc wr o) y2'
    have y3 : ∀ o : Obj,(wr.alloc o).cell? ⟨q2,o2 + j * 6 + 3,none⟩=some (.int .i64 (G.getD j rc0).pl):=fun o => at_below (below_alloc wr o) y3'
    have y4 : ∀ o : Obj,(wr.alloc o).cell? ⟨q2,o2 + j * 6 + 4,none⟩=some (.slice sb (G.getD j rc0).says.length sbc):=fun o => at_below (below_alloc wr o) y4'
    have y5 : ∀ o : Obj,(wr.alloc o).cell? ⟨q2,o2 + j * 6 + 5,none⟩=some (.slice ib (G.getD j rc0).img.length ibc):=fun o => at_below (below_alloc wr o) y5'
    obtain ⟨W1,hW1,HB1,HW1⟩:=two_rbox wr (F.getD j rc0).kind (F.getD j rc0).co (F.getD j rc0).ep (F.getD j rc0).pl (G.getD j rc0).kind (G.getD j rc0).co (G.getD j rc0).ep (G.getD j rc0).pl (.slice sa (F.getD j rc0).says.length sc) (.slice ia (F.getD j rc0).img.length ic) (.slice sb (G.getD j rc0).says.length sbc) (.slice ib (G.getD j rc0).img.length ibc)
    have HNw : Hid (N≤wr.heap.size):=Nat.le_trans hN hwr
    have HC : Hid (Calls Tryz.prog 17 #[.agg #[.int .i64 (F.getD j rc0).kind,.int .i64 (F.getD j rc0).co,.int .i64 (F.getD j rc0).ep,.int .i64 (F.getD j rc0).pl,.slice sa (F.getD j rc0).says.length sc,.slice ia (F.getD j rc0).img.length ic],.agg #[.int .i64 (G.getD j rc0).kind,.int .i64 (G.getD j rc0).co,.int .i64 (G.getD j rc0).ep,.int .i64 (G.getD j rc0).pl,.slice sb (G.getD j rc0).says.length sbc,.slice ib (G.getD j rc0).img.length ibc]] W1 fun e w' => e=.returned (.bool (rcEq (F.getD j rc0) (G.getD j rc0)))∧Below W1.heap.size W1 w') :=
     rSameC N (F.getD j rc0) (G.getD j rc0) sc ic sbc ibc sa ia sb ib W1 (Nat.le_trans HNw.out HB1.out.size) (HX.out.below (HB1.out.mono HNw.out)).1 (HX.out.below (HB1.out.mono HNw.out)).2 (HY.out.below (HB1.out.mono HNw.out)).1 (HY.out.below (HB1.out.mono HNw.out)).2
    clear g1 g2 hfj hgj y0' y1' y2' y3' y4' y5' hx hy
    generalize he : rcEq (F.getD j rc0) (G.getD j rc0)=er at *
    have HE : Hid (rcEq (F.getD j rc0) (G.getD j rc0)=er):=he
    clear he
    obtain ⟨⟨k0,k1,k2,k3,k4,k5⟩,l0,l1,l2,l3,l4,l5⟩:=HW1.out W1 (Below.refl _ _)
    generalize (F.getD j rc0).kind=f0 at *
    generalize (F.getD j rc0).co=f1 at *
    generalize (F.getD j rc0).ep=f2 at *
    generalize (F.getD j rc0).pl=f3 at *
    generalize (F.getD j rc0).says.length=f4 at *
    generalize (F.getD j rc0).img.length=f5 at *
    generalize (G.getD j rc0).kind=h0 at *
    generalize (G.getD j rc0).co=h1 at *
    generalize (G.getD j rc0).ep=h2 at *
    generalize (G.getD j rc0).pl=h3 at *
    generalize (G.getD j rc0).says.length=h4 at *
    generalize (G.getD j rc0).img.length=h5 at *
    go_upto_region 7 with (fail)
    try rw [hW1]
    clear x0 x1 x2 x3 x4 x5 y0 y1 y2 y3 y4 y5 hW1
    cases er with
    | true =>
     go_wp2_with (go_at_call 17; refine HC.out.mono ?_; rintro e w1 ⟨rfl,hb1⟩)
     go_roundw
     case rel => exact ⟨j + 1,by omega,by go_num,below_step HB.out (below_step HB1.out hb1),upTo hall.out HE.out⟩
     case measure => simp [intOf]; omega
    | false =>
     have HQ : Hid (eqRs F G=false):=eqRs_no HE.out
     go_wp2_with (go_at_call 17; refine HC.out.mono ?_; rintro e w1 ⟨rfl,hb1⟩)
     go_ret
     exact ⟨ret_bool HQ.out.symm,below_step HB.out (below_step HB1.out hb1)⟩
   ·obtain rfl : j=n1:=by omega
    have HE : Hid (eqRs F G=true):=eqRs_yes (HL.out.1.trans HL.out.2.symm) fun i hi => hall.out i (by have:=HL.out.1; omega)
    go_wp2_with fail
    go_ret
    exact ⟨ret_bool HE.out.symm,HB.out⟩
 ·have ht : ((n1 : Int) != (n2 : Int))=true:=by simp; omega
  have HQ : Hid (eqRs F G=false):=eqRs_len (by have:=HL.out; omega)
  clear hn
  go_enter Tryz.func16,Tryz.ntmps16
  go_wp2_with fail
  go_ret
  exact ⟨ret_bool HQ.out.symm,Below.refl _ _⟩

end Go.Proofs.YtfaggdkiffhdbaaGreatDoor
