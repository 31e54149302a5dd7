/- Runs in slices: the states and what is said, step by step, whatever the slices are. No Go in it. -/
import Derived.Test.YtfaokaohhchdhaaGreatDoorPart21
import Derived.Test.YtfaokaohhchdhaaGreatDoorPart20
import Derived.Test.YtfaokaohhchdhaaGreatDoorPart12
import Derived.Test.YtfaokaohhchdhaaGreatDoorPart14
import Derived.Maps.OwnSet
namespace Go.Proofs.YtfaokaohhchdhaaGreatDoor
def stS (P : Nat→Pc) (S : Sta) : Sta:=(stepM P ⟨S,[],false⟩).s
def sdS (P : Nat→Pc) (S : Sta) : List Int:=(stepM P ⟨S,[],false⟩).said
def stN (P : Nat→Pc) (S : Sta) : Nat→Sta
 | 0 => S
 | k + 1 => stS P (stN P S k)
def sdN (P : Nat→Pc) (S : Sta) : Nat→List Int
 | 0 => []
 | k + 1 => sdN P S k ++ sdS P (stN P S k)
def rdyN (P : Nat→Pc) (S : Sta) (k : Nat) : Prop:=∀ j,j < k→(stN P S j).st=0
theorem stepM_s (P : Nat→Pc) (R : Rn) : (stepM P R).s=stS P R.s:=by
 unfold stS stepM
 cases doM P (setPos R.s (nextPos P R.s)) (insS P R.s) with
 | none => rfl
 | some x => obtain ⟨a,b,c⟩:=x; rfl
theorem stepM_said (P : Nat→Pc) (R : Rn) : (stepM P R).said=R.said ++ sdS P R.s:=by
 unfold sdS stepM
 cases doM P (setPos R.s (nextPos P R.s)) (insS P R.s) with
 | none => simp
 | some x => obtain ⟨a,b,c⟩:=x; simp
theorem itM_s (P : Nat→Pc) (R : Rn) : ∀ k,(itM P R k).s=stN P R.s k
 | 0 => rfl
 | k + 1 => by
  show (stepM P (itM P R k)).s=stS P (stN P R.s k)
  rw [stepM_s,itM_s P R k]
theorem itM_said (P : Nat→Pc) (R : Rn) : ∀ k,(itM P R k).said=R.said ++ sdN P R.s k
 | 0 => by simp [itM,sdN]
 | k + 1 => by
  show (stepM P (itM P R k)).said=R.said ++ (sdN P R.s k ++ sdS P (stN P R.s k))
  rw [stepM_said,itM_said P R k,itM_s,List.append_assoc]
theorem runM_is (P : Nat→Pc) : ∀ (fuel : Nat) (R : Rn),∃ k,k≤fuel∧(∀ j,j < k→goesB P (itM P R j)=true)∧(k=fuel∨goesB P (itM P R k)=false)∧runM P fuel R=(itM P R k,k)
 | 0,R => ⟨0,Nat.le_refl _,fun j hj => absurd hj (Nat.not_lt_zero _),Or.inl rfl,rfl⟩
 | fuel + 1,R => by
  by_cases h : goesB P R=true
  ·obtain ⟨k,h1,h2,h3,h4⟩:=runM_is P fuel (stepM P R)
   refine ⟨k + 1,by omega,fun j hj => ?_,h3.imp (by omega) (by rw [itM_succ]; exact id),?_⟩
   ·cases j with
    | zero => exact h
    | succ j => rw [itM_succ]; exact h2 j (by omega)
   ·rw [itM_succ]
    show (if goesB P R=true then _ else _)=_
    rw [if_pos h,h4]
  ·refine ⟨0,by omega,fun j hj => absurd hj (Nat.not_lt_zero _),Or.inr (by show goesB P R=false; simpa using h),?_⟩
   show (if goesB P R=true then _ else _)=_
   rw [if_neg h]; rfl
theorem goesB_ready {P : Nat→Pc} {R : Rn} (h : goesB P R=true) : R.s.st=0:=by
 unfold goesB at h
 rw [Bool.and_eq_true,decide_eq_true_iff] at h
 exact h.1
theorem runM_slice (P : Nat→Pc) (S : Sta) (fuel : Nat) : ∃ k,k≤fuel∧runM P fuel ⟨S,[],false⟩=(itM P ⟨S,[],false⟩ k,k)∧(itM P ⟨S,[],false⟩ k).s=stN P S k∧(itM P ⟨S,[],false⟩ k).said=sdN P S k∧rdyN P S k∧(S.st=0→0 < fuel→0 < k):=by
 obtain ⟨k,h1,h2,h3,h4⟩:=runM_is P fuel ⟨S,[],false⟩
 refine ⟨k,h1,h4,itM_s P _ k,by rw [itM_said]; rfl,fun j hj => ?_,fun hs hf => ?_⟩
 ·have:=goesB_ready (h2 j hj)
  rwa [itM_s] at this
 ·cases k with
  | zero =>
   rcases h3 with e | e
   ·omega
   ·exfalso
    have : goesB P ⟨S,[],false⟩=true:=by unfold goesB; simp [hs]
    rw [show itM P ⟨S,[],false⟩ 0=⟨S,[],false⟩ from rfl,this] at e
    cases e
  | succ k => omega
theorem stN_add (P : Nat→Pc) (S : Sta) (a : Nat) : ∀ b,stN P S (a + b)=stN P (stN P S a) b
 | 0 => rfl
 | b + 1 => by
  show stS P (stN P S (a + b))=stS P (stN P (stN P S a) b)
  rw [stN_add P S a b]
theorem sdN_add (P : Nat→Pc) (S : Sta) (a : Nat) : ∀ b,sdN P S (a + b)=sdN P S a ++ sdN P (stN P S a) b
 | 0 => by simp [sdN]
 | b + 1 => by
  show sdN P S (a + b) ++ sdS P (stN P S (a + b))=sdN P S a ++ (sdN P (stN P S a) b ++ sdS P (stN P (stN P S a) b))
  rw [sdN_add P S a b,stN_add,List.append_assoc]
section
variable {np : Nat} {P : Nat→Pc} {S T : Sta}
theorem stN_right (hc : CodeOK np P) (h : StaOK np P S) : ∀ k,rdyN P S k→StaOK np P (stN P S k)
 | 0,_ => h
 | k + 1,hr => by
  have ih:=stN_right hc h k fun j hj => hr j (by omega)
  exact (stepM_right (R:=⟨stN P S k,[],false⟩) hc ih (hr k (by omega))).1
theorem stN_sim (hc : CodeOK np P) (hS : StaOK np P S) (hT : StaOK np P T) (h : Eqv S T) : ∀ k,rdyN P T k→Eqv (stN P S k) (stN P T k)∧sdN P T k=sdN P S k∧rdyN P S k
 | 0,_ => ⟨h,rfl,fun j hj => absurd hj (Nat.not_lt_zero _)⟩
 | k + 1,hr => by
  obtain ⟨i1,i2,i3⟩:=stN_sim hc hS hT h k fun j hj => hr j (by omega)
  have hk : (stN P S k).st=0:=by rw [← i1.st]; exact hr k (by omega)
  obtain ⟨s1,s2,_⟩:=stepM_sim hc (stN_right hc hS k i3) (stN_right hc hT k fun j hj => hr j (by omega)) hk i1 [] false
  refine ⟨s1,?_,fun j hj => ?_⟩
  ·show sdN P T k ++ sdS P (stN P T k)=sdN P S k ++ sdS P (stN P S k)
   rw [i2]
   congr 1
  ·by_cases e : j < k
   ·exact i3 j e
   ·obtain rfl : j=k:=by omega
    exact hk
theorem slice_more (hc : CodeOK np P) (hS : StaOK np P S) (hT : StaOK np P T) {a : Nat} (ha : rdyN P S a) (h : Eqv (stN P S a) T) {k : Nat} (hk : rdyN P T k) : Eqv (stN P S (a + k)) (stN P T k)∧sdN P S (a + k)=sdN P S a ++ sdN P T k∧rdyN P S (a + k)∧StaOK np P (stN P T k):=by
 have hSa:=stN_right hc hS a ha
 obtain ⟨h1,h2,h3⟩:=stN_sim hc hSa hT h k hk
 refine ⟨by rw [stN_add]; exact h1,by rw [sdN_add,h2],fun j hj => ?_,stN_right hc hT k hk⟩
 by_cases e : j < a
 ·exact ha j e
 ·have:=h3 (j - a) (by omega)
  rw [← stN_add,show a + (j - a)=j by omega] at this
  exact this
end
end Go.Proofs.YtfaokaohhchdhaaGreatDoor
namespace Go.Proofs.YtfaokaohhchdhaaGreatDoor
open Go.RowKit Go.Maps
def RunPost (w : World) (S' : Sta) (said : List Int) (k : Nat) (e : Ending) (w' : World) : Prop :=
 ∃ fa nf fc ca nc cc sa sc rv xv,e=.returned (.tuple #[.agg #[.slice fa nf fc,.slice ca nc cc,.int .i64 S'.st,.int .i64 S'.wh],.slice sa said.length sc,.int .i64 k,.int .i64 0]) ∧
  Own w.heap.size w' (.slice fa nf fc) (.slice ca nc cc) rv xv S'∧w'.ownsRow w.heap.size 3 1 (.slice sa said.length sc) said.length (said.map (Value.int .i64))∧Below w.heap.size w w'
theorem vmErr_right {np : Nat} {P : Nat→Pc} {S : Sta} (h : vmErr np P S=0) : CodeOK np P∧StaOK np P S∧codeErr np P=0:=by
 unfold vmErr at h
 by_cases hc : codeErr np P=0
 ·rw [if_pos hc] at h
  exact ⟨codeErr_right hc,staErr_zero.1 h,hc⟩
 ·rw [if_neg hc] at h; exact absurd h hc
theorem runErr_right {np : Nat} {P : Nat→Pc} {S : Sta} {fuel : Int} (h : runErr np P S fuel=0) : CodeOK np P∧StaOK np P S∧S.st=0∧0≤fuel∧fuel≤2000∧vmErr np P S=0:=by
 unfold runErr at h
 by_cases hv : vmErr np P S=0
 ·rw [if_pos hv] at h
  obtain ⟨h1,h2,_⟩:=vmErr_right hv
  by_cases hf : fuel < 0∨2000 < fuel
  ·rw [if_pos hf] at h; cases h
  ·rw [if_neg hf] at h
   by_cases hs : S.st=0
   ·exact ⟨h1,h2,hs,by omega,by omega,hv⟩
   ·rw [if_neg hs] at h; cases h
 ·rw [if_neg hv] at h; exact absurd h hv
def RunIt (P : Nat→Pc) (pv : Value) (S : Sta) (B : Nat) (W : World) (X k : Nat) (wr : World) : Prop :=
 RA X B wr pv (itM P ⟨S,[],false⟩ k)∧Below B W wr∧∀ j,j < k→goesB P (itM P ⟨S,[],false⟩ j)=true
theorem runP {np : Nat} {P : Nat→Pc} (hNew : NewC np P) (hCall : CallC np P) (M : Nat) (vp fv cv : Value) (S : Sta) (fuel : Nat) (w : World) (hM : M≤w.heap.size) (hp : ProcsAt M w vp np P) (hs : StaAt w fv cv S) (he : runErr np P S fuel=0) :
  Calls Tryz.prog 13 #[vp,staV fv cv S.st S.wh,.int .i64 fuel] w (RunPost w (runM P fuel ⟨S,[],false⟩).1.s (runM P fuel ⟨S,[],false⟩).1.said (runM P fuel ⟨S,[],false⟩).2):=by
 obtain ⟨hc,hok,hst,_,hfu,_⟩:=runErr_right he
 obtain ⟨pa,pc,rfl,_⟩:=id hp
 obtain ⟨fa,fc,rfl,_⟩:=id hs.1
 obtain ⟨ca,cc,rfl,_⟩:=id hs.2
 obtain ⟨W1,hW1,b1,hsz1,i0,i1,i2,i3⟩:=sbox w (.slice fa S.fs.length fc) (.slice ca S.cs.length cc) S.st S.wh
 obtain ⟨W,hW⟩ : ∃ W,W1.alloc (.cells #[.slice none 0 0,.slice none 0 0,.int .i64 0,.int .i64 0] 26)=W:=⟨_,rfl⟩
 have b2 : Below W1.heap.size W1 W:=hW ▸ below_alloc W1 _
 have b0 : Below w.heap.size w W:=below_step b1 b2
 have hsz : W.heap.size=w.heap.size + 2:=by rw [← hW]; simp; omega
 have hY : Box4 26 (w.heap.size + 1) W (.slice none 0 0) (.slice none 0 0) (.int .i64 0) (.int .i64 0):=by
  unfold Box4
  rw [← hW,← hsz1]
  exact heap_alloc_new W1 _
 have hWe : (w.alloc (.cells #[.slice fa S.fs.length fc,.slice ca S.cs.length cc,.int .i64 S.st,.int .i64 S.wh] 26)).alloc (.cells #[.slice none 0 0,.slice none 0 0,.int .i64 0,.int .i64 0] 26)=W:=by rw [hW1]; exact hW
 have hpW : ∀ wi,Below W.heap.size W wi→ProcsAt M wi (.slice pa np pc) np P:=fun wi hw => hp.below ((b0.mono hM).trans (hw.mono (by omega)))
 have hsW : ∀ wi,Below W.heap.size W wi→StaAt wi (.slice fa S.fs.length fc) (.slice ca S.cs.length cc) S:=fun wi hw => hs.below (below_step b0 hw)
 have hok' : ∀ k,(∀ j,j < k→goesB P (itM P ⟨S,[],false⟩ j)=true)→StaOK np P (itM P ⟨S,[],false⟩ k).s∧(itM P ⟨S,[],false⟩ k).said.length≤40:=itM_right hc (R:=⟨S,[],false⟩) hok (Nat.zero_le _)
 have hup : ∀ wi wj,Below W.heap.size W wi→Below wi.heap.size wi wj→Below W.heap.size W wj:=fun wi wj h k => below_up h k (Nat.le_refl _)
 have hrun:=run_core pa np pc fa ca S.fs.length S.cs.length fc cc S.st S.wh fuel w W (fun a c b d w2 => (∃ rv xv,Own W.heap.size w2 (.slice a S.fs.length c) (.slice b S.cs.length d) rv xv S)∧Below W.heap.size W w2) (RunIt P (.slice pa np pc) S W.heap.size W) (fun k => goesB P (itM P ⟨S,[],false⟩ k))
  hWe (fun wi hw => ⟨below_at hw (below_at b2 i0),below_at hw (below_at b2 i1),below_at hw (below_at b2 i2),below_at hw (below_at b2 i3)⟩)
  (by
   have:=checkRun M _ _ _ np P S fuel W (Nat.le_trans hM b0.size) (hpW W (Below.refl _ _)) (hsW W (Below.refl _ _))
   rw [he] at this
   exact this)
  (fun wi hw => by
   refine (copied S _ _ wi (hsW wi hw) hc hok).mono ?_
   rintro e w' ⟨fv',cv',rv,xv,rfl,ho,hb⟩
   obtain ⟨a,c,rfl⟩:=own_shape ho.out.fr
   obtain ⟨b,d,rfl⟩:=own_shape ho.out.ce
   exact ⟨a,c,b,d,rfl,⟨rv,xv,ho.out.lower hw.size⟩,hup _ _ hw hb⟩)
  (fun a c b d w2 hk => by
   obtain ⟨⟨rv,xv,ho⟩,hb⟩:=hk
   exact ⟨⟨_,_,_,rv,xv,heap_alloc_new w2 _,ho.below (below_alloc w2 _),World.ownsRow_nil _ _ _ _,hb.size⟩,hup _ _ hb (below_alloc w2 _),fun j hj => absurd hj (Nat.not_lt_zero _)⟩)
  (fun X k wr hi => by
   obtain ⟨hr,hb,hg⟩:=hi
   refine (goesP M X W.heap.size wr _ _ hc (hok' k hg).1 hr (hpW wr hb)).mono ?_
   rintro e w' ⟨rfl,hb'⟩
   exact ⟨rfl,hr.below hb',hup _ _ hb hb',hg⟩)
  (fun X k wr hi hgo _ => by
   obtain ⟨hr,hb,hg⟩:=hi
   refine (stepP hNew hCall M X W.heap.size wr _ _ hc (hok' k hg).1 (goesB_ready hgo) hr (hpW wr hb) (by omega) (by have:=(hok' k hg).2; omega)).mono ?_
   rintro e w' ⟨he',hr',hb'⟩
   refine ⟨he',hr',hb.trans hb',fun j hj => ?_⟩
   by_cases e : j=k
   ·rw [e]; exact hgo
   ·exact hg j (by omega))
  (fun X k wr hi => by
   obtain ⟨⟨fv,cv,sv,rv,xv,hr⟩,hb,hg⟩:=hi
   obtain ⟨c0,c1,c2,c3,c4,c5,c6,c7⟩:=hr.cells
   obtain ⟨a,c,rfl⟩:=own_shape hr.own.fr
   obtain ⟨b,d,rfl⟩:=own_shape hr.own.ce
   obtain ⟨s,t,rfl⟩:=own_shape hr.sd
   exact ⟨_,_,_,_,_,_,_,_,_,_,_,c1,c2,c3,c4,c5⟩)
  (fun X k wr hi => by
   obtain ⟨⟨fv,cv,sv,rv,xv,hr⟩,hb,hg⟩:=hi
   refine ⟨hY.keep (hb.block _ (by omega)),fun e => ?_⟩
   have:=hr.hX
   omega) (by omega)
 refine hrun.mono ?_
 rintro e w' ⟨X,k,wr,fa2,nf2,fc2,ca2,nc2,cc2,sa2,ns2,sc2,st2,wh2,⟨⟨fv,cv,sv,rv,xv,hr⟩,hb,hg⟩,hk,hgo,hend,d1,d2,d3,d4,d5,rfl,rfl⟩
 rw [runM_at hk hgo hend]
 obtain ⟨c0,c1,c2,c3,c4,c5,c6,c7⟩:=hr.cells
 rw [c1] at d1
 rw [c2] at d2
 rw [c3] at d3
 rw [c4] at d4
 rw [c5] at d5
 injection d1 with d1
 injection d2 with d2
 injection d3 with d3
 injection d4 with d4
 injection d5 with d5
 injection d3 with _ d3
 injection d4 with _ d4
 subst d1 d2 d5
 have hns : ns2=(itM P ⟨S,[],false⟩ k).said.length:=by
  obtain ⟨s,t,e⟩:=own_shape hr.sd
  injection e
 subst hns
 have hot : ∀ j,W.heap.size≤j→((((wr.setCell ⟨w.heap.size + 1,0,none⟩ (.slice fa2 nf2 fc2)).setCell ⟨w.heap.size + 1,1,none⟩ (.slice ca2 nc2 cc2)).setCell ⟨w.heap.size + 1,2,none⟩ (.int .i64 st2)).setCell ⟨w.heap.size + 1,3,none⟩ (.int .i64 wh2)).drew.heap[j]?=wr.heap[j]?:=fun j hj => by
  have hne : ¬ j=w.heap.size + 1:=by omega
  exact (((Below.heap_setCell _ _ _ _ hne).trans (Below.heap_setCell _ _ _ _ hne)).trans (Below.heap_setCell _ _ _ _ hne)).trans (Below.heap_setCell _ _ _ _ hne)
 refine ⟨fa2,nf2,fc2,ca2,nc2,cc2,sa2,sc2,rv,xv,by rw [d3,d4],?_,?_,?_⟩
 ·exact (hr.own.stay fun j hj _ => hot j hj).lower b0.size
 ·exact ownsRow_lower (ownsRow_block hr.sd fun g hgg => hot g (hr.sd.lt g hgg).1) b0.size
 ·have hbw : Below w.heap.size w wr:=b0.trans (hb.mono b0.size)
  exact ((((hbw.setCell (by show w.heap.size≤w.heap.size + 1; omega) _).setCell (by show w.heap.size≤w.heap.size + 1; omega) _).setCell (by show w.heap.size≤w.heap.size + 1; omega) _).setCell (by show w.heap.size≤w.heap.size + 1; omega) _).drew
def numOf (R : List Int) (y : Int) : Int:=if y ∈ R then (R.idxOf y : Int) else 0
def NumMap (w : World) (b n : Nat) (R : List Int) : Prop :=
 ∃ D : DataW Unit,w.ownsMap Tryz.prog 3 (plainElem Tryz.prog 3) b n D∧∀ y,D.atKey (Lit.int .i64 y) (.lit (.int .i64 0))=.lit (.int .i64 (numOf R y))
theorem NumMap.made (w : World) : NumMap (w.alloc (.map #[] 0)) w.heap.size 0 [] :=
 ⟨.map [],World.ownsMap_made _ _ _ _,fun _ => rfl⟩
theorem NumMap.lt {w : World} {b n : Nat} {R : List Int} (h : NumMap w b n R) : b < w.heap.size:=let ⟨_,h,_⟩:=h; h.lt
theorem NumMap.stay {w w' : World} {b n : Nat} {R : List Int} (h : NumMap w b n R) (hb : w'.heap[b]?=w.heap[b]?) : NumMap w' b n R:=by
 obtain ⟨D,⟨es,clock,hh,r0⟩,r⟩:=h
 exact ⟨D,⟨es,clock,hb.trans hh,r0⟩,r⟩
theorem NumMap.isMap {w : World} {b n : Nat} {R : List Int} (h : NumMap w b n R) : ∃ es clock,w.heap[b]?=some (.map es clock):=by
 obtain ⟨D,⟨es,clock,hh,_⟩,_⟩:=h
 exact ⟨es,clock,hh⟩
theorem zero3v (w : World) : (zeroValue 3).run Tryz.prog w=.ok (.int .i64 0) w:=by kernel_rfl
theorem look_num {ops : Array Oper} {rest : List Oper} {o : Oper} {a : Act} {Q : Exit→Act→World→Prop} (w : World) (hg : o.guard=none) (m x : Operand) (hop : o.op=Op.lookup 100 m x false)
  (b n : Nat) (R : List Int) (hm : a.eval m=.map (some b)) (hown : NumMap w b n R) (key : Int) (hx : a.eval x=.int .i64 key) (hwf : (Lit.int .i64 key).wf=true)
  (hK : wpList Tryz.prog ops Q rest (a.put o.dst (.int .i64 (numOf R key))) w) : wpList Tryz.prog ops Q (o :: rest) a w:=by
 obtain ⟨D,hD,hat⟩:=hown
 refine wpList_lookup_own_int w hg m x 100 hop 3 3 .i64 law3v Tryz.underlying100 Tryz.underlying3 (zero3v w) b n D hm hD _ (.int .i64 key) hx (keyOf_int_mk Tryz.underlying3 hwf) ?_
 intro c hc _
 rw [hat] at hc
 injection hc with hc
 injection hc with _ hc
 rw [← hc]
 exact hK
theorem store_num {ops : Array Oper} {rest : List Oper} {o : Oper} {a : Act} {Q : Exit→Act→World→Prop} (w : World) (hg : o.guard=none) (m x v : Operand) (hop : o.op=Op.mapUpdate 100 m x v)
  (b n : Nat) (R : List Int) (hm : a.eval m=.map (some b)) (hown : NumMap w b n R) (hn : n < maxLen) (key : Int) (hx : a.eval x=.int .i64 key) (hv : a.eval v=.int .i64 R.length) (hwf : (Lit.int .i64 key).wf=true) (hwv : (Lit.int .i64 R.length).wf=true) (hnew : key ∉ R)
  (hK : ∀ w',NumMap w' b (n + 1) (R ++ [key])→w.grownBy w' (some b)→wpList Tryz.prog ops Q rest (a.put o.dst undef) w') : wpList Tryz.prog ops Q (o :: rest) a w:=by
 obtain ⟨D,hD,hat⟩:=hown
 refine wpList_mapUpdate_own w hg m x v 100 hop 3 3 law3v Tryz.underlying100 (plainElem Tryz.prog 3) b n D hm hD hn _ _ _ hx hv (keyOf_int_mk Tryz.underlying3 hwf) _ [] (plainElem_int Tryz.underlying3 hwv) ?_
 intro w' hD' hgr
 refine hK w' ⟨_,hD',fun y => ?_⟩ hgr
 by_cases e : y=key
 ·subst e
  rw [atKey_put_same (k:=Lit.int .i64 y) hD.isMap trivial]
  unfold numOf
  rw [if_pos (by simp),List.idxOf_append,if_neg hnew]
  simp
 ·rw [atKey_put_other (fun h => e (by cases h; rfl)),hat]
  unfold numOf
  by_cases hm : y ∈ R
  ·rw [if_pos hm,if_pos (by simp [hm]),List.idxOf_append,if_pos hm]
  ·rw [if_neg hm,if_neg (by simp [hm,e])]
theorem store_numL {ops : Array Oper} {rest : List Oper} {o : Oper} {a : Act} {Q : Exit→Act→World→Prop} (w : World) (hg : o.guard=none) (m x v : Operand) (hop : o.op=Op.mapUpdate 100 m x v)
  (b n : Nat) (R : List Int) (l : Nat) (hl : R.length=l) (hm : a.eval m=.map (some b)) (hown : NumMap w b n R) (hn : n < maxLen) (key : Int) (hx : a.eval x=.int .i64 key) (hv : a.eval v=.int .i64 l) (hwf : (Lit.int .i64 key).wf=true) (hwv : (Lit.int .i64 l).wf=true) (hnew : key ∉ R)
  (hK : ∀ w',NumMap w' b (n + 1) (R ++ [key])→w.grownBy w' (some b)→wpList Tryz.prog ops Q rest (a.put o.dst undef) w') : wpList Tryz.prog ops Q (o :: rest) a w:=by
 subst hl
 exact store_num w hg m x v hop b n R hm hown hn key hx hv hwf hwv hnew hK
theorem renum_numOf {R : List Int} {v : Int×Int} (h : v.1=2→v.2 ∈ R) : renum R v=if v.1=2 then (v.1,numOf R v.2) else v:=by
 unfold renum numOf
 split
 ·rename_i e
  rw [if_pos (h e),e]
 ·rfl
def renTo (R : List Int) (L : List (Int×Int)) (j : Nat) : List (Int×Int):=(L.take j).map (renum R) ++ L.drop j
theorem renTo_zero (R : List Int) (L : List (Int×Int)) : renTo R L 0=L:=by simp [renTo]
theorem renTo_all (R : List Int) (L : List (Int×Int)) : renTo R L L.length=L.map (renum R):=by simp [renTo]
theorem renTo_len (R : List Int) (L : List (Int×Int)) (j : Nat) : (renTo R L j).length=L.length:=by
 unfold renTo; rw [List.length_append,List.length_map,List.length_take,List.length_drop]; omega
theorem renTo_at {R : List Int} {L : List (Int×Int)} {j : Nat} (h : j < L.length) : (renTo R L j).getD j (0,0)=L.getD j (0,0):=by
 unfold renTo
 rw [List.getD_eq_getElem?_getD,List.getElem?_append_right (by simp; omega),List.getD_eq_getElem?_getD]
 simp only [List.length_map,List.length_take,List.getElem?_drop]
 congr 2
 omega
theorem renTo_step {R : List Int} {L : List (Int×Int)} {j : Nat} (h : j < L.length) : (renTo R L j).set j (renum R (L.getD j (0,0)))=renTo R L (j + 1):=by
 unfold renTo
 rw [List.set_append_right _ _ (by simp; omega)]
 have e1 : j - (List.map (renum R) (List.take j L)).length=0:=by simp; omega
 rw [e1,List.take_add_one,List.getElem?_eq_getElem h,List.drop_eq_getElem_cons h,List.set_cons_zero]
 rw [List.getD_eq_getElem?_getD,List.getElem?_eq_getElem h]
 simp only [Option.toList,List.map_append,List.map_cons,List.map_nil,List.append_assoc,List.cons_append,List.nil_append,Option.getD_some]
def KeepG (g : Nat) (w wr : World) : Prop:=(∀ k,¬ k=g→k < w.heap.size→wr.heap[k]?=w.heap[k]?)∧Below g w wr
theorem VRow.set2 {B : Nat} {w : World} {g n cap : Nat} {L : List (Int×Int)} (h : VRow B w (.slice (some ⟨g,0,none⟩) n cap) L) {k : Nat} (hk : k < L.length) (z : Int) :
  VRow B (w.setCell ⟨g,k * 2 + 1,none⟩ (.int .i64 z)) (.slice (some ⟨g,0,none⟩) n cap) (L.set k ((L.getD k (0,0)).1,z)):=by
 have hn : L.length=n:=h.vals.2.2.1.symm
 obtain ⟨f0,_⟩:=flatV_at L k hk
 have hl:=flatV_len L
 have e : (flatV L).set (k * 2) (.int .i64 (L.getD k (0,0)).1)=flatV L:=by
  apply List.ext_getElem?
  intro i
  rw [List.getElem?_set]
  by_cases he : k * 2=i
  ·subst he
   rw [if_pos rfl,if_pos (by omega),f0]; rfl
  ·rw [if_neg he]
 unfold VRow at h ⊢
 rw [List.length_set,flatV_set,e]
 subst hn
 exact ownsRow_set h (k * 2 + 1) (by omega) _
set_option maxRecDepth 20000 in
set_option maxHeartbeats 2000000 in
theorem renumberP (g L0 cap Nb Mb nn B : Nat) (R : List Int) (L : List (Int×Int)) (w : World) (hv : VRow B w (.slice (some ⟨g,0,none⟩) L0 cap) L) (hN : w.heap[Nb]?=some (.cells #[.map (some Mb)] 100 (0,0))) (hM : NumMap w Mb nn R)
  (hR : ∀ v,v ∈ L→v.1=2→v.2 ∈ R∧0≤v.2∧v.2≤1000) (hL : L.length≤1000) :
  Calls Tryz.prog 66 #[.slice (some ⟨g,0,none⟩) L0 cap,.pointer (some ⟨Nb,0,none⟩)] w fun e w' => e=.returned (.tuple #[])∧Hid (VRow B w' (.slice (some ⟨g,0,none⟩) L0 cap) (L.map (renum R)))∧Hid (KeepG g w w'):=by
 obtain ⟨-,-,hL0,hgB,hgl⟩:=hv.vals
 subst hL0
 have hgN : ¬ g=Nb:=fun e => by
  obtain ⟨c,fz,k⟩:=Lib.ownsRow_kind hv g rfl
  rw [e,hN] at k
  injection k with k; injection k with _ k _; exact absurd k (by decide)
 have hgM : ¬ g=Mb:=fun e => by
  obtain ⟨c,fz,k⟩:=Lib.ownsRow_kind hv g rfl
  obtain ⟨es,cl,k2⟩:=hM.isMap
  rw [e,k2] at k
  cases k
 have hNl : Nb < w.heap.size:=(Array.getElem?_eq_some_iff.1 hN).1
 have hMl:=hM.lt
 have HR : Hid (∀ v,v ∈ L→v.1=2→v.2 ∈ R∧0≤v.2∧v.2≤1000):=hR
 have HL : Hid (L.length≤1000):=hL
 have HI : Hid (∀ wr,(∀ k,¬ k=g→k < w.heap.size→wr.heap[k]?=w.heap[k]?)→wr.cell? ⟨Nb,0,none⟩=some (.map (some Mb))∧NumMap wr Mb nn R):=fun wr hk => by
  refine ⟨?_,hM.stay (hk Mb (fun e => hgM e.symm) hMl)⟩
  unfold World.cell?; rw [hk Nb (fun e => hgN e.symm) hNl,hN]; rfl
 have HG : Hid (g < w.heap.size):=hgl
 have HV0 : Hid (VRow B w (.slice (some ⟨g,0,none⟩) L.length cap) (renTo R L 0)):=by rw [renTo_zero]; exact hv
 have HK0 : Hid (KeepG g w w):=⟨fun _ _ _ => rfl,Below.refl _ _⟩
 clear hR hL hv hN hM
 generalize hn : L.length=n at *
 have HN : Hid (L.length=n):=hn
 clear hn
 go_enter Tryz.func66,Tryz.ntmps66
 go_wp2
 go_loopw [7] (fun q wr => ∃ j : Nat,j≤n∧q=.int .i64 j∧Hid (VRow B wr (.slice (some ⟨g,0,none⟩) n cap) (renTo R L j))∧Hid (KeepG g w wr)) (fun q _ => n - (intOf q).toNat)
 case atStart => exact ⟨0,by omega,rfl,HV0,HK0⟩
 case round =>
  clear HV0 HK0
  obtain ⟨j,hj,rfl,HV,HK⟩:=hrel
  by_cases hlt : j < n
  ·have hn1 : n≤1000:=HL.out
   have hjL : j < L.length:=by rw [HN.out]; exact hlt
   obtain ⟨q0,q1,-,-,-⟩:=HV.out.vals
   obtain ⟨z1,z2⟩:=q0 j (by rw [renTo_len]; exact hjL)
   rw [renTo_at hjL] at z1 z2
   have y2:=q1 (j * 2 + 1)
   have hin : L.getD j (0,0) ∈ L:=getD_mem hjL
   have hRv:=HR.out _ hin
   have HSt : Hid ((renTo R L j).set j (renum R (L.getD j (0,0)))=renTo R L (j + 1)):=renTo_step hjL
   have HSet : Hid (∀ (o : Obj) (z : Int),VRow B ((wr.alloc o).setCell ⟨g,j * 2 + 1,none⟩ (.int .i64 z)) (.slice (some ⟨g,0,none⟩) n cap) ((renTo R L j).set j ((L.getD j (0,0)).1,z))):=fun o z => by
    have h : VRow B (wr.alloc o) (.slice (some ⟨g,0,none⟩) n cap) (renTo R L j):=World.ownsRow.alloc HV.out o
    have:=h.set2 (k:=j) (by rw [renTo_len]; exact hjL) z
    rw [renTo_at hjL] at this
    exact this
   have HAl : Hid (∀ o : Obj,VRow B (wr.alloc o) (.slice (some ⟨g,0,none⟩) n cap) (renTo R L j)∧(∀ k,¬ k=g→k < w.heap.size→(wr.alloc o).heap[k]?=w.heap[k]?)∧Below g w (wr.alloc o)):=fun o => by
    obtain ⟨h1,h2⟩:=HK.out
    have hs:=h2.size
    exact ⟨World.ownsRow.alloc HV.out o,fun k hk hkw => ((below_alloc wr o).block k (by omega)).trans (h1 k hk hkw),h2.trans ((below_alloc wr o).mono (by have:=HG.out; omega))⟩
   have hws:=HK.out.2.size
   have HKs : Hid (∀ (o : Obj) (v : Value),KeepG g w ((wr.alloc o).setCell ⟨g,j * 2 + 1,none⟩ v)):=fun o v => by
    obtain ⟨h0,h1,h2⟩:=HAl.out o
    exact ⟨fun k hk hkw => (Below.heap_setCell _ _ _ _ hk).trans (h1 k hk hkw),h2.setCell (Nat.le_refl _) _⟩
   have HIn : Hid (∀ o : Obj,(wr.alloc o).cell? ⟨Nb,0,none⟩=some (.map (some Mb))∧NumMap (wr.alloc o) Mb nn R):=fun o => HI.out _ (HAl.out o).2.1
   clear q0 q1 HV HR hin
   have HRn : Hid (renum R (L.getD j (0,0))=if (L.getD j (0,0)).1=2 then ((L.getD j (0,0)).1,numOf R (L.getD j (0,0)).2) else L.getD j (0,0)):=renum_numOf fun h => (hRv h).1
   have HPr : Hid (((L.getD j (0,0)).1,(L.getD j (0,0)).2)=L.getD j (0,0)):=rfl
   by_cases hk : (L.getD j (0,0)).1=2
   ·obtain ⟨-,r1,r2⟩:=hRv hk
    have HR2 : Hid (∀ (o : Obj),VRow B ((wr.alloc o).setCell ⟨g,j * 2 + 1,none⟩ (.int .i64 (numOf R (L.getD j (0,0)).2))) (.slice (some ⟨g,0,none⟩) n cap) (renTo R L (j + 1))):=fun o => by
     rw [← HSt.out,HRn.out,if_pos hk]
     exact HSet.out o _
    have hwf : (Lit.int .i64 (L.getD j (0,0)).2).wf=true:=wf_small r1 r2
    rw [hk] at z1
    clear hRv HRn HPr HSt HSet HAl hk r1 r2
    generalize (L.getD j (0,0)).2=z at *
    have h3:=fun o => (HIn.out o).1
    have h4 : ∀ o : Obj,(wr.alloc o).frozen? ⟨g,j * 2 + 1,none⟩=false:=fun o => ((below_alloc wr o).frozen (p:=⟨g,j * 2 + 1,none⟩) (Nat.lt_of_lt_of_le HG.out hws)).trans y2
    have h5 : ∀ o : Obj,(wr.alloc o).cell? ⟨g,j * 2 + 1,none⟩=some (.int .i64 z):=fun o => ((below_alloc wr o).cell (p:=⟨g,j * 2 + 1,none⟩) (Nat.lt_of_lt_of_le HG.out hws)).trans z2
    have i1 : (j : Int) < (n : Int):=by omega
    go_wp2_with (at_lookup; refine look_num _ rfl _ _ rfl Mb nn R rfl (HIn.out _).2 z rfl hwf ?_)
    go_roundw
    case rel => exact ⟨j + 1,by omega,by go_num,HR2.out _,HKs.out _ _⟩
    case measure => simp [intOf]; omega
   ·have HR2 : Hid (∀ (o : Obj),VRow B (wr.alloc o) (.slice (some ⟨g,0,none⟩) n cap) (renTo R L (j + 1))):=fun o => by
     have e : (renTo R L j).set j (L.getD j (0,0))=renTo R L j:=by
      apply List.ext_getElem?
      intro i
      rw [List.getElem?_set]
      by_cases he : j=i
      ·subst he
       rw [if_pos rfl,if_pos (by rw [renTo_len]; exact hjL)]
       have:=renTo_at (R:=R) hjL
       rw [← this,List.getD_eq_getElem?_getD,List.getElem?_eq_getElem (by rw [renTo_len]; exact hjL)]; rfl
      ·rw [if_neg he]
     rw [← HSt.out,HRn.out,if_neg hk,e]
     exact (HAl.out o).1
    have HK2 : Hid (∀ o : Obj,KeepG g w (wr.alloc o)):=fun o => (HAl.out o).2
    have hkb : ((L.getD j (0,0)).1 == 2)=false:=beq_eq_false_iff_ne.2 hk
    clear hRv HRn HPr HSt HSet HAl hk
    generalize (L.getD j (0,0)).2=z at *
    generalize (L.getD j (0,0)).1=kk at *
    go_wp2_with fail
    go_roundw
    case rel => exact ⟨j + 1,by omega,by go_num,HR2.out _,HK2.out _⟩
    case measure => simp [intOf]; omega
  ·obtain rfl : j=n:=by omega
   have hall : renTo R L j=L.map (renum R):=by rw [← HN.out]; exact renTo_all R L
   rw [hall] at HV
   go_wp2
   go_end0
   exact ⟨rfl,HV,HK⟩
end Go.Proofs.YtfaokaohhchdhaaGreatDoor
