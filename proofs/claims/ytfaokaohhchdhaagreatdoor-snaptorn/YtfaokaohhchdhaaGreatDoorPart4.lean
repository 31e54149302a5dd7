/- A step keeps a state right; a run too; what is said is no more than the steps. No Go in it. -/
import Derived.Test.YtfaokaohhchdhaaGreatDoorPart3
import Derived.Test.YtfaokaohhchdhaaGreatDoorPart0
import Derived.Deep.Light
import Derived.Lib.OwnKind
import Derived.OneCell
namespace Go.Proofs.YtfaokaohhchdhaaGreatDoor
section
variable {np : Nat} {P : Nat→Pc} {S : Sta}
theorem fmAt_lt {fs gs : List Fm} {k : Nat} (h : k < fs.length) : fmAt (fs ++ gs) k=fmAt fs k:=by
 unfold fmAt
 rw [List.getD_eq_getElem?_getD,List.getElem?_append_left h,List.getD_eq_getElem?_getD]
theorem fmAt_end {fs : List Fm} {f : Fm} : fmAt (fs ++ [f]) fs.length=f:=by
 unfold fmAt
 rw [List.getD_eq_getElem?_getD,List.getElem?_append_right (Nat.le_refl _)]; simp
theorem fmAt_take {fs : List Fm} {n k : Nat} (h : k < n) : fmAt (fs.take n) k=fmAt fs k:=by
 unfold fmAt
 rw [List.getD_eq_getElem?_getD,List.getElem?_take_of_lt h,List.getD_eq_getElem?_getD]
end
end Go.Proofs.YtfaokaohhchdhaaGreatDoor
namespace Go.Proofs.YtfaokaohhchdhaaGreatDoor
open Go.ChangeShapes Go.WideShapes Go.ChangeAt Go.RowKit
def NumsAt (N : Nat) (w : World) (v : Value) (n : Nat) (z : Nat→Int) : Prop :=
 ∃ a cap,v=.slice a n cap∧n≤9223372036854775807∧(n=0∨∃ b o,a=some ⟨b,o,none⟩∧b < N∧∀ i,i < n→w.cell? ⟨b,o + i,none⟩=some (.int .i64 (z i)))
def CodeAt (N : Nat) (w : World) (v : Value) (n : Nat) (ins : Nat→In) : Prop :=
 ∃ a cap,v=.slice a n cap∧n≤9223372036854775807∧(n=0∨∃ b o,a=some ⟨b,o,none⟩∧b < N∧∀ i,i < n→∃ va,
  w.cell? ⟨b,o + i * 5,none⟩=some (.int .i64 (ins i).op)∧w.cell? ⟨b,o + i * 5 + 1,none⟩=some (.int .i64 (ins i).a)∧w.cell? ⟨b,o + i * 5 + 2,none⟩=some (.int .i64 (ins i).b) ∧
   w.cell? ⟨b,o + i * 5 + 3,none⟩=some (.int .i64 (ins i).c)∧w.cell? ⟨b,o + i * 5 + 4,none⟩=some va∧NumsAt N w va (ins i).n (ins i).z)
def ProcsAt (N : Nat) (w : World) (v : Value) (np : Nat) (P : Nat→Pc) : Prop :=
 ∃ a cap,v=.slice a np cap∧np≤9223372036854775807∧(np=0∨∃ b o,a=some ⟨b,o,none⟩∧b < N∧∀ i,i < np→∃ vc,
  w.cell? ⟨b,o + i * 3,none⟩=some (.int .i64 (P i).params)∧w.cell? ⟨b,o + i * 3 + 1,none⟩=some (.int .i64 (P i).regs)∧w.cell? ⟨b,o + i * 3 + 2,none⟩=some vc∧CodeAt N w vc (P i).n (P i).ins)
theorem NumsAt.below {N : Nat} {w w' : World} {v : Value} {n : Nat} {z : Nat→Int} (h : NumsAt N w v n z) (hb : Below N w w') : NumsAt N w' v n z:=by
 obtain ⟨a,cap,rfl,hn,h | ⟨b,o,rfl,hlt,hc⟩⟩:=h
 ·exact ⟨a,cap,rfl,hn,Or.inl h⟩
 ·exact ⟨_,cap,rfl,hn,Or.inr ⟨b,o,rfl,hlt,fun i hi => by rw [hb.cell hlt]; exact hc i hi⟩⟩
theorem CodeAt.below {N : Nat} {w w' : World} {v : Value} {n : Nat} {ins : Nat→In} (h : CodeAt N w v n ins) (hb : Below N w w') : CodeAt N w' v n ins:=by
 obtain ⟨a,cap,rfl,hn,h | ⟨b,o,rfl,hlt,hc⟩⟩:=h
 ·exact ⟨a,cap,rfl,hn,Or.inl h⟩
 ·refine ⟨_,cap,rfl,hn,Or.inr ⟨b,o,rfl,hlt,fun i hi => ?_⟩⟩
  obtain ⟨va,c0,c1,c2,c3,c4,hv⟩:=hc i hi
  exact ⟨va,by rw [hb.cell hlt]; exact c0,by rw [hb.cell hlt]; exact c1,by rw [hb.cell hlt]; exact c2,by rw [hb.cell hlt]; exact c3,by rw [hb.cell hlt]; exact c4,hv.below hb⟩
theorem ProcsAt.below {N : Nat} {w w' : World} {v : Value} {np : Nat} {P : Nat→Pc} (h : ProcsAt N w v np P) (hb : Below N w w') : ProcsAt N w' v np P:=by
 obtain ⟨a,cap,rfl,hn,h | ⟨b,o,rfl,hlt,hc⟩⟩:=h
 ·exact ⟨a,cap,rfl,hn,Or.inl h⟩
 ·refine ⟨_,cap,rfl,hn,Or.inr ⟨b,o,rfl,hlt,fun i hi => ?_⟩⟩
  obtain ⟨vc,c0,c1,c2,hv⟩:=hc i hi
  exact ⟨vc,by rw [hb.cell hlt]; exact c0,by rw [hb.cell hlt]; exact c1,by rw [hb.cell hlt]; exact c2,hv.below hb⟩
theorem NumsAt.shape {N : Nat} {w : World} {v : Value} {n : Nat} {z : Nat→Int} (h : NumsAt N w v n z) : ∃ a cap,v=.slice a n cap∧n≤9223372036854775807:=by
 obtain ⟨a,cap,rfl,hn,_⟩:=h; exact ⟨a,cap,rfl,hn⟩
set_option maxHeartbeats 1000000 in
theorem isFrom (n lo hi : Int) (w : World) : Calls Tryz.prog 95 #[.int .i64 n,.int .i64 lo,.int .i64 hi] w fun e w' => e=.returned (.bool (fromB n lo hi))∧w'=w:=by
 go_enter Tryz.func95,Tryz.ntmps95
 go_wp2
 all_goals
  go_ret
  refine ⟨ret_bool ?_,rfl⟩
  go_light
  unfold fromB
  simp_all
  try omega
set_option maxHeartbeats 4000000 in
theorem bare (i : In) (a : Option Addr) (cap : Nat) (w : World) : Calls Tryz.prog 176 #[.agg #[.int .i64 i.op,.int .i64 i.a,.int .i64 i.b,.int .i64 i.c,.slice a i.n cap]] w fun e w' => e=.returned (.bool (bareB i))∧Below w.heap.size w w':=by
 obtain ⟨op,x,y,z,n,f⟩:=i
 go_enter Tryz.func176,Tryz.ntmps176
 go_wp2
 all_goals
  go_ret
  refine ⟨ret_bool ?_,below_alloc _ _⟩
  go_light
  unfold bareB
  simp_all
  try (rw [Bool.eq_iff_iff]; simp; try omega)
set_option maxHeartbeats 4000000 in
theorem restFits (N : Nat) (i : In) (v : Value) (code : Int) (hc : 1≤code) (hc2 : code≤100000) (w : World) (hN : N≤w.heap.size) (h : NumsAt N w v i.n i.z) :
  Calls Tryz.prog 175 #[.agg #[.int .i64 i.op,.int .i64 i.a,.int .i64 i.b,.int .i64 i.c,v],.int .i64 code] w fun e w' => e=.returned (.bool (restB i code))∧Below w.heap.size w w':=by
 obtain ⟨op,x,y,z,n,f⟩:=i
 obtain ⟨a,cap,rfl,hn,h⟩:=h
 have HF : Hid (∀ n lo hi wi,Calls Tryz.prog 95 #[.int .i64 n,.int .i64 lo,.int .i64 hi] wi fun e w' => e=.returned (.bool (fromB n lo hi))∧w'=wi):=isFrom
 by_cases h1 : n=1
 ·subst h1
  obtain ⟨b,o,rfl,hb,hc0⟩ : ∃ b o,a=some ⟨b,o,none⟩∧b < N∧∀ i,i < 1→w.cell? ⟨b,o + i,none⟩=some (.int .i64 (f i)):=by
   rcases h with h | h
   ·cases h
   ·exact h
  have q0 : ∀ ob : Obj,(w.alloc ob).cell? ⟨b,o,none⟩=some (.int .i64 (f 0)):=fun ob => by
   rw [(below_alloc w ob).cell (p:=⟨b,o,none⟩) (Nat.lt_of_lt_of_le hb hN)]; exact hc0 0 (by omega)
  clear hc0 h
  go_enter Tryz.func175,Tryz.ntmps175
  go_wp2_with (go_at_call 95; refine (HF.out _ _ _ _).mono ?_; rintro e w1 ⟨rfl,h1⟩; rw [h1]; clear h1)
  all_goals
   go_ret
   refine ⟨ret_bool ?_,below_alloc _ _⟩
   go_light
   unfold restB
   simp_all
 ·have h1i : ((n : Int) == 1)=false:=by simp; omega
  have h1n : decide (n=1)=false:=by simp [h1]
  clear h
  go_enter Tryz.func175,Tryz.ntmps175
  go_wp2_with (go_at_call 95; refine (HF.out _ _ _ _).mono ?_; rintro e w1 ⟨rfl,h1⟩; rw [h1]; clear h1)
  all_goals
   go_ret
   refine ⟨ret_bool ?_,below_alloc _ _⟩
   go_light
   unfold restB
   simp_all
end Go.Proofs.YtfaokaohhchdhaaGreatDoor
namespace Go.Proofs.YtfaokaohhchdhaaGreatDoor
open Go.RowKit Go.Maps
def RowAt (w : World) (v : Value) (L : List (Int×Int)) : Prop:=ValsAt w v L.length (fstAt L) (sndAt L)
def FramesAt (w : World) (v : Value) (fs : List Fm) : Prop :=
 ∃ a cap,v=.slice a fs.length cap∧fs.length≤9223372036854775807∧(fs.length=0∨∃ b o,a=some ⟨b,o,none⟩∧b < w.heap.size∧∀ i,i < fs.length→∃ u,
  w.cell? ⟨b,o + i * 4,none⟩=some (.int .i64 (fmAt fs i).proc)∧w.cell? ⟨b,o + i * 4 + 1,none⟩=some (.int .i64 (fmAt fs i).pos)∧w.cell? ⟨b,o + i * 4 + 2,none⟩=some u∧w.cell? ⟨b,o + i * 4 + 3,none⟩=some (.int .i64 (fmAt fs i).to)∧RowAt w u (fmAt fs i).regs)
def CsAt (w : World) (v : Value) (cs : List (List (Int×Int))) : Prop:=CellsAt w v cs.length (cLen cs) (cK cs) (cZ cs)
def staV (fv cv : Value) (st wh : Int) : Value:=.agg #[fv,cv,.int .i64 st,.int .i64 wh]
def StaAt (w : World) (fv cv : Value) (S : Sta) : Prop:=FramesAt w fv S.fs∧CsAt w cv S.cs
theorem FramesAt.below {w w' : World} {v : Value} {fs : List Fm} (h : FramesAt w v fs) (hb : Below w.heap.size w w') : FramesAt w' v fs:=by
 obtain ⟨a,cap,rfl,hn,h | ⟨b,o,rfl,hlt,hc⟩⟩:=h
 ·exact ⟨a,cap,rfl,hn,Or.inl h⟩
 ·refine ⟨_,cap,rfl,hn,Or.inr ⟨b,o,rfl,Nat.lt_of_lt_of_le hlt hb.size,fun i hi => ?_⟩⟩
  obtain ⟨u,c0,c1,c2,c3,hv⟩:=hc i hi
  exact ⟨u,by rw [hb.cell hlt]; exact c0,by rw [hb.cell hlt]; exact c1,by rw [hb.cell hlt]; exact c2,by rw [hb.cell hlt]; exact c3,ValsAt.below hv hb⟩
theorem CsAt.below {w w' : World} {v : Value} {cs : List (List (Int×Int))} (h : CsAt w v cs) (hb : Below w.heap.size w w') : CsAt w' v cs:=CellsAt.below h hb
theorem StaAt.below {w w' : World} {fv cv : Value} {S : Sta} (h : StaAt w fv cv S) (hb : Below w.heap.size w w') : StaAt w' fv cv S:=⟨h.1.below hb,h.2.below hb⟩
/-! ### Rows of the call's own -/
theorem ownsRow_set {w : World} {B : Nat} {e : TypeId} {size g n cap : Nat} {xs : List Value} (h : w.ownsRow B e size (.slice (some ⟨g,0,none⟩) n cap) n xs) (i : Nat) (_hi : i < xs.length) (u : Value) : (w.setCell ⟨g,i,none⟩ u).ownsRow B e size (.slice (some ⟨g,0,none⟩) n cap) n (xs.set i u):=by
 obtain ⟨h1,h2⟩:=h
 rcases h2 with ⟨h0,_⟩ | ⟨g',cap',cur,hv,hg,hh,hn,hcap,hsz,htake⟩
 ·cases h0
 ·cases hv
  refine ⟨by simpa using h1,.inr ⟨g,cap,cur.setIfInBounds i u,rfl,hg,by rw [heap_setCell_same w g i _ _ u hh],hn,hcap,by simpa using hsz,?_⟩⟩
  rw [Array.toList_setIfInBounds,← htake,List.take_set]
theorem ownsRow_block {w w' : World} {B : Nat} {e : TypeId} {size : Nat} {v : Value} {n : Nat} {xs : List Value} (h : w.ownsRow B e size v n xs) (hb : ∀ g,v.ownBlock=some g→w'.heap[g]?=w.heap[g]?) : w'.ownsRow B e size v n xs:=by
 refine ⟨h.1,?_⟩
 rcases h.2 with hn | ⟨g,cap,cur,rfl,hg,hh,r⟩
 ·exact Or.inl hn
 ·exact Or.inr ⟨g,cap,cur,rfl,hg,by rw [hb g rfl]; exact hh,r⟩
theorem ownsRow_apart {w : World} {B B' : Nat} {e e' : TypeId} {s s' : Nat} {v v' : Value} {n n' : Nat} {xs xs' : List Value} (h : w.ownsRow B e s v n xs) (h' : w.ownsRow B' e' s' v' n' xs') (hne : ¬ e=e') {g : Nat} (hg : v.ownBlock=some g) : ¬ v'.ownBlock=some g:=fun hg' => by
 obtain ⟨c,fz,k⟩:=Lib.ownsRow_kind h g hg
 obtain ⟨c',fz',k'⟩:=Lib.ownsRow_kind h' g hg'
 rw [k] at k'
 injection k' with k'
 injection k' with _ k2 _
 exact hne k2
def VRow (B : Nat) (w : World) (v : Value) (L : List (Int×Int)) : Prop:=w.ownsRow B 92 2 v L.length (flatV L)
theorem flatV_set : ∀ (L : List (Int×Int)) (k : Nat) (x : Int×Int),flatV (L.set k x)=((flatV L).set (k * 2) (.int .i64 x.1)).set (k * 2 + 1) (.int .i64 x.2)
 | [],k,x => by simp [flatV]
 | p :: L,0,x => rfl
 | p :: L,k + 1,x => by
  have:=flatV_set L k x
  rw [show (k + 1) * 2=k * 2 + 1 + 1 by omega]
  simp only [List.set_cons_succ,flatV,this]
theorem VRow.shape {B : Nat} {w : World} {v : Value} {L : List (Int×Int)} (h : VRow B w v L) (hn : ¬ L.length=0) : ∃ g cap,v=.slice (some ⟨g,0,none⟩) L.length cap:=by
 rcases h.2 with ⟨rfl,h0⟩ | ⟨g,cap,cur,rfl,_⟩
 ·exact absurd h0 hn
 ·exact ⟨g,cap,rfl⟩
theorem VRow.at {B : Nat} {w : World} {v : Value} {L : List (Int×Int)} (h : VRow B w v L) (hL : L.length≤100000) : RowAt w v L:=own_vals h hL
def flatF : List Fm→List Value→List Value
 | f :: fs,u :: us => .int .i64 f.proc :: .int .i64 f.pos :: u :: .int .i64 f.to :: flatF fs us
 | _,_ => []
theorem flatF_len : ∀ (fs : List Fm) (rv : List Value),rv.length=fs.length→(flatF fs rv).length=fs.length * 4
 | [],[],_ => rfl
 | f :: fs,u :: us,h => by
  have:=flatF_len fs us (by simpa using h)
  simp only [flatF,List.length_cons,this]; omega
 | [],_ :: _,h => by simp at h
 | _ :: _,[],h => by simp at h
theorem flatF_at : ∀ (fs : List Fm) (rv : List Value),rv.length=fs.length→∀ (i : Nat),i < fs.length→∃ u,rv[i]?=some u∧(flatF fs rv)[i * 4]?=some (.int .i64 (fmAt fs i).proc)∧(flatF fs rv)[i * 4 + 1]?=some (.int .i64 (fmAt fs i).pos)∧(flatF fs rv)[i * 4 + 2]?=some u∧(flatF fs rv)[i * 4 + 3]?=some (.int .i64 (fmAt fs i).to)
 | f :: fs,u :: us,h,0,_ => ⟨u,rfl,rfl,rfl,rfl,rfl⟩
 | f :: fs,u :: us,h,i + 1,hi => by
  obtain ⟨x,h0,h1,h2,h3,h4⟩:=flatF_at fs us (by simpa using h) i (by simpa using hi)
  have e : fmAt (f :: fs) (i + 1)=fmAt fs i:=rfl
  refine ⟨x,by simpa using h0,?_⟩
  rw [e,show (i + 1) * 4=i * 4 + 1 + 1 + 1 + 1 by omega]
  simp only [flatF,List.getElem?_cons_succ]
  exact ⟨h1,h2,h3,h4⟩
 | [],_,_,_,hi => absurd hi (Nat.not_lt_zero _)
 | _ :: _,[],h,_,_ => by simp at h
theorem flatF_append : ∀ (fs : List Fm) (rv : List Value) (f : Fm) (u : Value),rv.length=fs.length→flatF (fs ++ [f]) (rv ++ [u])=flatF fs rv ++ [.int .i64 f.proc,.int .i64 f.pos,u,.int .i64 f.to]
 | [],[],f,u,_ => rfl
 | g :: fs,x :: us,f,u,h => by
  simp only [List.cons_append,flatF,flatF_append fs us f u (by simpa using h)]
 | [],_ :: _,_,_,h => by simp at h
 | _ :: _,[],_,_,h => by simp at h
theorem flatF_regs : ∀ (fs : List Fm) (rv : List Value) (i : Nat) (L : List (Int×Int)),flatF (fs.set i ⟨(fmAt fs i).proc,(fmAt fs i).pos,L,(fmAt fs i).to⟩) rv=flatF fs rv
 | [],_,_,_ => rfl
 | f :: fs,[],0,_ => rfl
 | f :: fs,[],i + 1,_ => rfl
 | f :: fs,u :: us,0,L => rfl
 | f :: fs,u :: us,i + 1,L => by
  have e : fmAt (f :: fs) (i + 1)=fmAt fs i:=rfl
  rw [e]
  simp only [List.set_cons_succ,flatF,flatF_regs fs us i L]
structure Own (B : Nat) (w : World) (fv cv : Value) (rv xv : List Value) (S : Sta) : Prop where
 fr : w.ownsRow B 40 4 fv S.fs.length (flatF S.fs rv)
 ce : w.ownsRow B 35 1 cv S.cs.length xv
 rl : rv.length=S.fs.length
 regs : ∀ i,i < S.fs.length→∃ u,rv[i]?=some u∧VRow B w u (fmAt S.fs i).regs
 cells : ∀ i,i < S.cs.length→∃ u,xv[i]?=some u∧VRow B w u (S.cs.getD i [])
 rr : ∀ (i j : Nat) (u u' : Value) (b : Nat),rv[i]?=some u→rv[j]?=some u'→u.ownBlock=some b→u'.ownBlock=some b→i=j
 xx : ∀ (i j : Nat) (u u' : Value) (b : Nat),xv[i]?=some u→xv[j]?=some u'→u.ownBlock=some b→u'.ownBlock=some b→i=j
 rx : ∀ (i j : Nat) (u u' : Value) (b : Nat),rv[i]?=some u→xv[j]?=some u'→u.ownBlock=some b→¬ u'.ownBlock=some b
section
variable {B : Nat} {w w' : World} {fv cv : Value} {rv xv : List Value} {S : Sta}
theorem Own.xl (h : Own B w fv cv rv xv S) : xv.length=S.cs.length:=by have:=h.ce.1; omega
theorem Own.stay (h : Own B w fv cv rv xv S) (hb : ∀ k,B≤k→k < w.heap.size→w'.heap[k]?=w.heap[k]?) : Own B w' fv cv rv xv S:=by
 have go : ∀ {e size v n xs},w.ownsRow B e size v n xs→w'.ownsRow B e size v n xs:=fun hr => ownsRow_block hr fun g hg => hb g (hr.lt g hg).1 (hr.lt g hg).2
 refine ⟨go h.fr,go h.ce,h.rl,fun i hi => ?_,fun i hi => ?_,h.rr,h.xx,h.rx⟩
 ·obtain ⟨u,h1,h2⟩:=h.regs i hi; exact ⟨u,h1,go h2⟩
 ·obtain ⟨u,h1,h2⟩:=h.cells i hi; exact ⟨u,h1,go h2⟩
theorem Own.below (h : Own B w fv cv rv xv S) (hb : Below w.heap.size w w') : Own B w' fv cv rv xv S:=h.stay fun k _ hk => hb.block k hk
theorem Own.at (h : Own B w fv cv rv xv S) (hf : S.fs.length≤100000) (hc : S.cs.length≤100000) (hr : ∀ i,i < S.fs.length→(fmAt S.fs i).regs.length≤100000) (hx : ∀ i,i < S.cs.length→(S.cs.getD i []).length≤100000) : StaAt w fv cv S:=by
 constructor
 ·rcases h.fr.2 with ⟨rfl,h0⟩ | ⟨g,cap,cur,rfl,r⟩
  ·exact ⟨none,0,by rw [h0],by omega,Or.inl h0⟩
  ·refine ⟨_,cap,rfl,by omega,Or.inr ⟨g,0,rfl,(h.fr.lt g rfl).2,fun i hi => ?_⟩⟩
   have hl:=flatF_len S.fs rv h.rl
   obtain ⟨u,h0,h1,h2,h3,h4⟩:=flatF_at S.fs rv h.rl i hi
   obtain ⟨u',k0,k1⟩:=h.regs i hi
   rw [h0] at k0; cases k0
   rw [Nat.zero_add]
   exact ⟨u,by rw [h.fr.cellAt (i * 4) (by omega)]; exact h1,by rw [h.fr.cellAt (i * 4 + 1) (by omega)]; exact h2,by rw [h.fr.cellAt (i * 4 + 2) (by omega)]; exact h3,by rw [h.fr.cellAt (i * 4 + 3) (by omega)]; exact h4,VRow.at k1 (hr i hi)⟩
 ·have hl:=h.xl
  have:=own_cells (us:=xv) (m:=cLen S.cs) (K:=cK S.cs) (Z:=cZ S.cs) (by rw [hl]; exact h.ce) (fun i hi => by
   obtain ⟨u,h1,h2⟩:=h.cells i (by omega)
   exact ⟨u,h1,VRow.at h2 (hx i (by omega))⟩) (by omega)
  rw [hl] at this
  exact this
theorem Own.setRegs (h : Own B w fv cv rv xv S) {i g n cap : Nat} (hi : i < S.fs.length) (hu : rv[i]?=some (.slice (some ⟨g,0,none⟩) n cap)) (hb : ∀ k,B≤k→k < w.heap.size→¬ k=g→w'.heap[k]?=w.heap[k]?) {L : List (Int×Int)}
  (hr : VRow B w' (.slice (some ⟨g,0,none⟩) n cap) L) : Own B w' fv cv rv xv ⟨S.fs.set i ⟨(fmAt S.fs i).proc,(fmAt S.fs i).pos,L,(fmAt S.fs i).to⟩,S.cs,S.st,S.wh⟩:=by
 obtain ⟨u0,k0,k1⟩:=h.regs i hi
 rw [hu] at k0; cases k0
 refine ⟨?_,?_,by simpa using h.rl,fun j hj => ?_,fun j hj => ?_,h.rr,h.xx,h.rx⟩
 ·show w'.ownsRow B 40 4 fv (S.fs.set i _).length (flatF (S.fs.set i _) rv)
  rw [flatF_regs,List.length_set]
  exact ownsRow_block h.fr fun k hk => hb k (h.fr.lt k hk).1 (h.fr.lt k hk).2 fun e => ownsRow_apart h.fr k1 (by decide) hk (by rw [e]; rfl)
 ·exact ownsRow_block h.ce fun k hk => hb k (h.ce.lt k hk).1 (h.ce.lt k hk).2 fun e => ownsRow_apart h.ce k1 (by decide) hk (by rw [e]; rfl)
 ·have hj' : j < S.fs.length:=by simpa using hj
  show ∃ u,rv[j]?=some u∧VRow B w' u (fmAt (S.fs.set i _) j).regs
  rw [fmAt_set hi]
  by_cases e : j=i
  ·rw [if_pos e,e]; exact ⟨_,hu,hr⟩
  ·rw [if_neg e]
   obtain ⟨u,h1,h2⟩:=h.regs j hj'
   exact ⟨u,h1,ownsRow_block h2 fun k hk => hb k (h2.lt k hk).1 (h2.lt k hk).2 fun e2 => e (h.rr j i u _ k h1 hu hk (by rw [e2]; rfl))⟩
 ·obtain ⟨u,h1,h2⟩:=h.cells j hj
  exact ⟨u,h1,ownsRow_block h2 fun k hk => hb k (h2.lt k hk).1 (h2.lt k hk).2 fun e2 => h.rx i j _ u k hu h1 (by rw [e2]; rfl) hk⟩
theorem Own.setFields (h : Own B w fv cv rv xv S) {i g n cap : Nat} (hi : i < S.cs.length) (hu : xv[i]?=some (.slice (some ⟨g,0,none⟩) n cap)) (hb : ∀ k,B≤k→k < w.heap.size→¬ k=g→w'.heap[k]?=w.heap[k]?) {L : List (Int×Int)}
  (hr : VRow B w' (.slice (some ⟨g,0,none⟩) n cap) L) : Own B w' fv cv rv xv ⟨S.fs,S.cs.set i L,S.st,S.wh⟩:=by
 obtain ⟨u0,k0,k1⟩:=h.cells i hi
 rw [hu] at k0; cases k0
 refine ⟨?_,?_,h.rl,fun j hj => ?_,fun j hj => ?_,h.rr,h.xx,h.rx⟩
 ·exact ownsRow_block h.fr fun k hk => hb k (h.fr.lt k hk).1 (h.fr.lt k hk).2 fun e => ownsRow_apart h.fr k1 (by decide) hk (by rw [e]; rfl)
 ·show w'.ownsRow B 35 1 cv (S.cs.set i L).length xv
  rw [List.length_set]
  exact ownsRow_block h.ce fun k hk => hb k (h.ce.lt k hk).1 (h.ce.lt k hk).2 fun e => ownsRow_apart h.ce k1 (by decide) hk (by rw [e]; rfl)
 ·obtain ⟨u,h1,h2⟩:=h.regs j hj
  exact ⟨u,h1,ownsRow_block h2 fun k hk => hb k (h2.lt k hk).1 (h2.lt k hk).2 fun e2 => h.rx j i u _ k h1 hu hk (by rw [e2]; rfl)⟩
 ·have hj' : j < S.cs.length:=by simpa using hj
  show ∃ u,xv[j]?=some u∧VRow B w' u ((S.cs.set i L).getD j [])
  rw [getD_set hi]
  by_cases e : j=i
  ·rw [if_pos e,e]; exact ⟨_,hu,hr⟩
  ·rw [if_neg e]
   obtain ⟨u,h1,h2⟩:=h.cells j hj'
   exact ⟨u,h1,ownsRow_block h2 fun k hk => hb k (h2.lt k hk).1 (h2.lt k hk).2 fun e2 => e (h.xx j i u _ k h1 hu hk (by rw [e2]; rfl))⟩
end
end Go.Proofs.YtfaokaohhchdhaaGreatDoor
