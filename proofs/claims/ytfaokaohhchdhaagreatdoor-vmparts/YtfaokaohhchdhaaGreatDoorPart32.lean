/- codeOf: the instructions of statements, by the reckoning. -/
import Derived.Test.YtfaokaohhchdhaaGreatDoorCodedV
import Derived.Deep.Upon
import Derived.Deep.AppendLies
import Derived.Deep.RegionLaw
import Derived.Test.YtfaokaohhchdhaaGreatDoorPart30
import Derived.Test.YtfaokaohhchdhaaGreatDoorPart22
import Derived.Test.YtfaokaohhchdhaaGreatDoorPart29
import Derived.Lib.SplitLaws
import Derived.Test.YtfaokaohhchdhaaGreatDoorShelf
import Derived.Test.YtfaokaohhchdhaaGreatDoorPart1
import Derived.Deep.RegionHeld3
import Derived.Lib.SmallJoins
namespace Go.Proofs.YtfaokaohhchdhaaGreatDoor
open Go.RowKit Go.Maps
theorem append_insE {ops : Array Oper} {rest : List Oper} {o : Oper} {a : Act} {Q : Exit→Act→World→Prop} (w : World) (hgd : o.guard=none) (s y : Operand)
  (ho : o.op=.call { callee:=.builtin .append,args:=#[s,y],argTypes:=#[36,36] }) (B B2 : Nat) (no : Nat→Prop) (v u : Value) (L M : List (List Int)) (hs : a.eval s=v) (hy : a.eval y=u) (hv : InsRow B no w v L) (hu : InsRow B2 no w u M) (hBB : B≤B2) (hM : M=[]→u=.slice none 0 0) (hl : L.length + M.length≤100000) (hB : B≤w.heap.size)
  (h : ∀ ad cap w2,Hid (InsRow B no w2 (.slice ad (L.length + M.length) cap) (L ++ M))→Hid (w.grownBy w2 v.ownBlock)→wpList Tryz.prog ops Q rest (a.put o.dst (.slice ad (L.length + M.length) cap)) w2) :
  wpList Tryz.prog ops Q (o :: rest) a w:=by
 by_cases h0 : M=[]
 ·have e:=hM h0
  subst h0
  subst e
  obtain ⟨ad,cap,e⟩:=hv.shape
  subst e
  have hle : L.length≤cap:=by
   obtain ⟨items,c1,e1,_⟩:=id hv
   have hl1 : items.length=L.length:=by rw [← e1,List.length_map]
   rcases c1.1.2 with ⟨e,h0⟩ | ⟨g,cap',cur,e,_,_,h1,_⟩
   ·injection e with _ _ e3; omega
   ·injection e with _ _ e3; omega
  obtain ⟨i0,hi,_,_,_⟩:=info_parts infoIns
  have hr:=run_append_nothing (P:=Tryz.prog) w 36 36 o.type 84 i0 Tryz.underlying36 hi ad L.length cap hle (.slice none 0 0) (Src.ofNil w Tryz.underlying36 0)
  refine wpList_plain hgd fun K hK => ?_
  unfold Oper.wp execOp
  simp only [ho,resolve,invoke,builtin,Sem.run_bind,Sem.run_pure,Result.andThen_ok,List.map_toArray,List.map_cons,List.map_nil,hs,hy,hr]
  refine hK _ _ (h ad cap w ?_ (World.grownBy.refl _ _))
  rw [List.append_nil]
  exact hv
 ·exact append_insR w hgd s y ho B B2 no v u L M hs hy hv hu hBB (by intro e; exact h0 (List.eq_nil_of_length_eq_zero e)) hl hB h
theorem append_insA {ops : Array Oper} {rest : List Oper} {o : Oper} {a : Act} {Q : Exit→Act→World→Prop} (w : World) (hgd : o.guard=none) (s y : Operand)
  (ho : o.op=.call { callee:=.builtin .append,args:=#[s,y],argTypes:=#[36,36] }) (B B2 : Nat) (no : Nat→Prop) (v u : Value) (L M : List (List Int)) (hs : a.eval s=v) (hy : a.eval y=u) (hv : InsRow B no w v L) (hu : InsRow B2 no w u M) (hBB : B≤B2) (hM : M=[]→u=.slice none 0 0) (hl : L.length + M.length≤100000) (hB : B≤w.heap.size)
  (h : ∀ ad cap w2,Hid (InsRow B no w2 (.slice ad (L.length + M.length) cap) (L ++ M)∧w.grownBy w2 v.ownBlock∧((Value.slice ad (L.length + M.length) cap).ownBlock=v.ownBlock∨(Value.slice ad (L.length + M.length) cap).ownBlock=some w.heap.size))→wpList Tryz.prog ops Q rest (a.put o.dst (.slice ad (L.length + M.length) cap)) w2) :
  wpList Tryz.prog ops Q (o :: rest) a w:=by
 by_cases h0 : M=[]
 ·have e:=hM h0
  subst h0
  subst e
  obtain ⟨ad,cap,e⟩:=hv.shape
  subst e
  have hle : L.length≤cap:=by
   obtain ⟨items,c1,e1,_⟩:=id hv
   have hl1 : items.length=L.length:=by rw [← e1,List.length_map]
   rcases c1.1.2 with ⟨e,h0⟩ | ⟨g,cap',cur,e,_,_,h1,_⟩
   ·injection e with _ _ e3; omega
   ·injection e with _ _ e3; omega
  obtain ⟨i0,hi,_,_,_⟩:=info_parts infoIns
  have hr:=run_append_nothing (P:=Tryz.prog) w 36 36 o.type 84 i0 Tryz.underlying36 hi ad L.length cap hle (.slice none 0 0) (Src.ofNil w Tryz.underlying36 0)
  refine wpList_plain hgd fun K hK => ?_
  unfold Oper.wp execOp
  simp only [ho,resolve,invoke,builtin,Sem.run_bind,Sem.run_pure,Result.andThen_ok,List.map_toArray,List.map_cons,List.map_nil,hs,hy,hr]
  refine hK _ _ (h ad cap w ⟨?_,World.grownBy.refl _ _,Or.inl (by cases ad <;> rfl)⟩)
  rw [List.append_nil]
  exact hv
 ·obtain ⟨items,c1,e1,a1⟩:=id hv
  obtain ⟨items2,c2,e2,a2⟩:=id hu
  have hl1 : items.length=L.length:=by rw [← e1,List.length_map]
  have hl2 : items2.length=M.length:=by rw [← e2,List.length_map]
  obtain ⟨g,cap,rfl,hg1,hg2,hnews⟩:=c2.news (by intro e; exact h0 (List.eq_nil_of_length_eq_zero (by omega)))
  rw [hl2] at hy
  have hown:=c1.1
  rw [hl1] at hown
  obtain ⟨i0,hi,hz0,hz1,hz2⟩:=info_parts infoIns
  refine wpList_append_own_at _ hgd s y 36 ho B 84 i0 (.agg #[.int .i64 0,.int .i64 0,.int .i64 0,.int .i64 0,.slice none 0 0]) 5 56 Tryz.underlying36 hi hz0 hz1 hz2 rfl (by decide) v L.length (flatI items) hs hown ⟨g,0,none⟩ M.length cap (flatI items2) hy (by rw [flatI_len,hl2]) hnews c2.one (by unfold maxLen; omega) (by omega) hB ?_
  intro v' w2 hr hg _ h3
  obtain ⟨ad',cap',rfl⟩:=own_shape hr
  exact h ad' cap' w2 ⟨insJoin hBB ⟨c1,e1,a1⟩ ⟨c2,e2,a2⟩ hr hg,hg,h3⟩
theorem step_insA {ops : Array Oper} {o : Oper} {a : Act} {K : Act→World→Prop} {Q : Exit→Act→World→Prop} {E : Prop} (w : World) (hgd : o.guard=none) (s y : Operand)
  (ho : o.op=.call { callee:=.builtin .append,args:=#[s,y],argTypes:=#[36,36] }) (B B2 : Nat) (no : Nat→Prop) (v u : Value) (L M : List (List Int)) (hs : a.eval s=v) (hy : a.eval y=u) (hv : InsRow B no w v L) (hu : InsRow B2 no w u M) (hBB : B≤B2) (hM : ¬ M.length=0) (hl : L.length + M.length≤100000) (hB : B≤w.heap.size)
  (h : ∀ ad cap w2,Hid (InsRow B no w2 (.slice ad (L.length + M.length) cap) (L ++ M)∧w.grownBy w2 v.ownBlock∧((Value.slice ad (L.length + M.length) cap).ownBlock=v.ownBlock∨(Value.slice ad (L.length + M.length) cap).ownBlock=some w.heap.size))→K (a.put o.dst (.slice ad (L.length + M.length) cap)) w2) :
  if Region.wanted o (yielded ops a.tmps)=true then Oper.wp Tryz.prog o a w K Q else E:=by
 obtain ⟨items,c1,e1,a1⟩:=id hv
 obtain ⟨items2,c2,e2,a2⟩:=id hu
 have hl1 : items.length=L.length:=by rw [← e1,List.length_map]
 have hl2 : items2.length=M.length:=by rw [← e2,List.length_map]
 obtain ⟨g,cap,rfl,hg1,hg2,hnews⟩:=c2.news (by omega)
 rw [hl2] at hy
 have hown:=c1.1
 rw [hl1] at hown
 obtain ⟨i0,hi,hz0,hz1,hz2⟩:=info_parts infoIns
 refine step_append_lies _ hgd s y 36 ho B 84 i0 (.agg #[.int .i64 0,.int .i64 0,.int .i64 0,.int .i64 0,.slice none 0 0]) 5 56 Tryz.underlying36 hi hz0 hz1 hz2 rfl (by decide) v L.length (flatI items) hs hown ⟨g,0,none⟩ M.length cap (flatI items2) hy (by rw [flatI_len,hl2]) hnews c2.one (by omega) (by unfold maxLen; omega) (by omega) hB _ rfl ?_
 intro g' cap' w2 hr hg h3 _
 refine h _ cap' w2 ⟨insJoin hBB ⟨c1,e1,a1⟩ ⟨c2,e2,a2⟩ hr hg,hg,?_⟩
 rcases h3 with h3 | h3
 ·exact Or.inl h3.symm
 ·exact Or.inr (by rw [h3]; rfl)
theorem keepRange {lo hi : Nat} {V w w2 : World} {r : Option Nat} (h : ∀ k,lo≤k→k < hi→w.heap[k]?=V.heap[k]?) (hs : hi≤w.heap.size) (hg : w.grownBy w2 r) (hr : ∀ k,r=some k→k < lo∨hi≤k) : ∀ k,lo≤k→k < hi→w2.heap[k]?=V.heap[k]?:=fun k h1 h2 => by
 rw [hg.block k (by omega) (fun e => by have:=hr k e.symm; omega)]
 exact h k h1 h2
theorem InsRow.range {lo hi : Nat} {V w : World} {v : Value} {L : List (List Int)} (h : InsRow lo (fun _ => False) V v L) (hV : V.heap.size=hi) (hs : hi≤w.heap.size) (hk : ∀ k,lo≤k→k < hi→w.heap[k]?=V.heap[k]?) : InsRow lo (fun _ => False) w v L:=by
 subst hV
 refine h.stay hs (fun k hk2 => ?_) fun k h1 h2 _ _ => hk k h1 h2
 obtain ⟨items,c1,_,_⟩:=h
 obtain ⟨h1,h2⟩:=c1.1.lt k hk2
 exact hk k h1 h2
structure Ch (W1 W2 W4 w : World) (v : Value) (L : List (List Int)) : Prop where
 row : InsRow W1.heap.size (fun _ => False) w v L
 keep : ∀ k,W2.heap.size≤k→k < W4.heap.size→w.heap[k]?=W4.heap[k]?
 own : ∀ k,v.ownBlock=some k→k < W2.heap.size∨W4.heap.size≤k
 size : W4.heap.size≤w.heap.size
 low : Below W1.heap.size W1 w
theorem Ch.start {W1 W2 W4 : World} {v : Value} {L : List (List Int)} (h : InsRow W1.heap.size (fun _ => False) W2 v L) (h2 : Below W1.heap.size W1 W2) (h4 : Below W2.heap.size W2 W4) : Ch W1 W2 W4 W4 v L :=
 ⟨h.below h4,fun _ _ _ => rfl,fun k hk => by
  obtain ⟨items,c1,_,_⟩:=h
  exact Or.inl (c1.1.lt k hk).2,Nat.le_refl _,h2.trans (h4.mono h2.size)⟩
theorem Ch.alloc {W1 W2 W4 w : World} {v : Value} {L : List (List Int)} (h : Ch W1 W2 W4 w v L) (o : Obj) : Ch W1 W2 W4 (w.alloc o) v L :=
 ⟨h.row.below (below_alloc w o),fun k h1 h2 => by rw [(below_alloc w o).block k (Nat.lt_of_lt_of_le h2 h.size)]; exact h.keep k h1 h2,h.own,Nat.le_trans h.size (below_alloc w o).size,h.low.trans ((below_alloc w o).mono h.low.size)⟩
theorem Ch.app {W1 W2 W4 w w2 : World} {v v' : Value} {L L' : List (List Int)} (h : Ch W1 W2 W4 w v L) (h' : InsRow W1.heap.size (fun _ => False) w2 v' L'∧w.grownBy w2 v.ownBlock∧(v'.ownBlock=v.ownBlock∨v'.ownBlock=some w.heap.size)) : Ch W1 W2 W4 w2 v' L':=by
 obtain ⟨h1,h2,h3⟩:=h'
 refine ⟨h1,keepRange h.keep h.size h2 h.own,fun k hk => ?_,Nat.le_trans h.size h2.size,h.low.grown h2 h.low.size fun k hk => ?_⟩
 ·rcases h3 with e | e
  ·exact h.own k (by rw [← e]; exact hk)
  ·rw [e] at hk
   injection hk with hk
   exact Or.inr (by rw [← hk]; exact h.size)
 ·obtain ⟨items,c1,_,_⟩:=h.row
  exact (c1.1.lt k hk).1
theorem Ch.other {W1 W2 W4 w : World} {v u : Value} {L M : List (List Int)} (h : Ch W1 W2 W4 w v L) (hu : InsRow W2.heap.size (fun _ => False) W4 u M) : InsRow W2.heap.size (fun _ => False) w u M :=
 hu.range rfl h.size h.keep
def toksFew : Nat→SL→Prop
 | 0,_ => True
 | d + 1,T => ∀ i,i < T.len→(T.nd i).ne≤1000∧(T.nd i).nf≤1000∧(T.nd i).kind ≠ 2∧toksFew d (T.sub i false)∧toksFew d (T.sub i true)
theorem oneM_cases {nf : Nat} {par : Nat→Int} {free : Nat} {sub : Bool→Nat→Option (List (List Int))} {s : Nd} {here : Nat} {cl : List (List Int)} (h : oneM nf par free sub s here=some cl) :
  ∃ ce,((s.ne=0∧ce=[])∨(¬ s.ne=0∧∃ r,valM s.ne nf s.ek s.ez par s.ne 0 free=some (ce,r))) ∧
   ((s.kind=1∧cl=ce ++ [[2,s.num,(free : Int),0]])∨(s.kind=2∧∃ d r,valM s.nf nf s.fk s.fz par s.nf 0 (free + 1)=some (d,r)∧cl=ce ++ d ++ [[6,(free : Int),(free : Int) + 1,s.num]]) ∨
   (s.kind=3∧cl=ce ++ [[9,(free : Int),0,0]])∨(s.kind=4∧cl=ce ++ [[10,0,0,0]])∨(s.kind=5∧cl=ce ++ [[11,(free : Int),0,0]])∨(s.kind=8∧cl=ce ++ [[8,(free : Int),0,0]]) ∨
   ((s.kind=6∨s.kind=7)∧∃ x y,sub false (here + ce.length + 1)=some x∧sub true (here + ce.length + 1 + x.length + 1)=some y ∧
    cl=ce ++ [[13,(free : Int),((here + ce.length + 1 + x.length + 1 : Nat) : Int),0]] ++ x ++ [[12,0,(if s.kind=7 then ((here : Nat) : Int) else ((here + ce.length + 1 + x.length + 1 + y.length : Nat) : Int)),0]] ++ y)):=by
 unfold oneM at h
 obtain ⟨ce,hce,h⟩:=Option.bind_eq_some_iff.1 h
 refine ⟨ce,?_,?_⟩
 ·by_cases h0 : s.ne=0
  ·rw [if_pos h0] at hce; injection hce with hce; exact Or.inl ⟨h0,hce.symm⟩
  ·rw [if_neg h0] at hce
   obtain ⟨r,hr,e⟩:=Option.map_eq_some_iff.1 hce
   exact Or.inr ⟨h0,r.2,by rw [hr,← e]⟩
 ·by_cases h1 : s.kind=1
  ·rw [if_pos h1] at h; injection h with h; exact Or.inl ⟨h1,h.symm⟩
  rw [if_neg h1] at h
  by_cases h2 : s.kind=2
  ·rw [if_pos h2] at h
   obtain ⟨r,hr,e⟩:=Option.map_eq_some_iff.1 h
   exact Or.inr (Or.inl ⟨h2,r.1,r.2,hr,e.symm⟩)
  rw [if_neg h2] at h
  by_cases h3 : s.kind=3
  ·rw [if_pos h3] at h; injection h with h; exact Or.inr (Or.inr (Or.inl ⟨h3,h.symm⟩))
  rw [if_neg h3] at h
  by_cases h4 : s.kind=4
  ·rw [if_pos h4] at h; injection h with h; exact Or.inr (Or.inr (Or.inr (Or.inl ⟨h4,h.symm⟩)))
  rw [if_neg h4] at h
  by_cases h5 : s.kind=5
  ·rw [if_pos h5] at h; injection h with h; exact Or.inr (Or.inr (Or.inr (Or.inr (Or.inl ⟨h5,h.symm⟩))))
  rw [if_neg h5] at h
  by_cases h8 : s.kind=8
  ·rw [if_pos h8] at h; injection h with h; exact Or.inr (Or.inr (Or.inr (Or.inr (Or.inr (Or.inl ⟨h8,h.symm⟩)))))
  rw [if_neg h8] at h
  by_cases h6 : s.kind=6∨s.kind=7
  ·rw [if_pos h6] at h
   obtain ⟨x,hx,h⟩:=Option.bind_eq_some_iff.1 h
   obtain ⟨y,hy,e⟩:=Option.map_eq_some_iff.1 h
   exact Or.inr (Or.inr (Or.inr (Or.inr (Or.inr (Or.inr ⟨h6,x,y,hx,hy,e.symm⟩)))))
  ·rw [if_neg h6] at h; cases h
theorem iterM_step {g : Nat→Nat→Option (List (List Int))} {at0 i : Nat} {c : List (List Int)} (h : iterM g at0 (i + 1)=some c) : ∃ o cl,iterM g at0 i=some o∧g i (at0 + o.length)=some cl∧c=o ++ cl:=by
 unfold iterM at h
 obtain ⟨o,ho,h⟩:=Option.bind_eq_some_iff.1 h
 obtain ⟨cl,hc,e⟩:=Option.map_eq_some_iff.1 h
 exact ⟨o,cl,ho,hc,e.symm⟩
theorem iterM_prefix {g : Nat→Nat→Option (List (List Int))} {at0 : Nat} : ∀ {n : Nat} {c : List (List Int)},iterM g at0 n=some c→∀ j,j≤n→∃ o,iterM g at0 j=some o∧o.length≤c.length
 | 0,c,h,j,hj => by
  obtain rfl : j=0:=by omega
  exact ⟨_,h,Nat.le_refl _⟩
 | n + 1,c,h,j,hj => by
  by_cases e : j=n + 1
  ·rw [e]; exact ⟨_,h,Nat.le_refl _⟩
  ·obtain ⟨o,cl,h1,_,rfl⟩:=iterM_step h
   obtain ⟨p,h2,h3⟩:=iterM_prefix h1 j (by omega)
   exact ⟨p,h2,by rw [List.length_append]; omega⟩
set_option maxHeartbeats 1000000 in
theorem lawAt (k : Int) (n : Nat) (h0 : 0 < n) (hn : n≤1000000) (w : World) : Calls Tryz.prog 25 #[.int .i64 k,.int .i64 n] w fun e w' => e=.returned (.int .i64 (k % (n : Int)))∧w'=w:=by
 have b1 : k.tmod (n : Int) < (n : Int):=Int.tmod_lt_of_pos k (by omega)
 have b2 : -(n : Int) < k.tmod (n : Int):=by
  have:=Int.tmod_lt_of_pos (-k) (b:=(n : Int)) (by omega)
  rw [Int.neg_tmod] at this
  omega
 have hne : ¬ (n : Int)=0:=by omega
 have e:=Int.emod_eq_tmod (a:=k) (b:=(n : Int))
 have e2:=Int.emod_nonneg k hne
 have e3:=Int.emod_lt_of_pos k (b:=(n : Int)) (by omega)
 obtain ⟨t,ht⟩ : ∃ t,k.tmod (n : Int)=t:=⟨_,rfl⟩
 have key : k % (n : Int)=if t < 0 then t + n else t:=by
  have h1 : (n : Int) ∣ k - t:=by rw [← ht]; exact Int.dvd_self_sub_tmod
  have h2 : (n : Int) ∣ k - k % (n : Int):=Int.dvd_self_sub_emod
  have h3 : (n : Int) ∣ (k % (n : Int)) - t:=by
   have:=Int.dvd_sub h1 h2
   rwa [show k - t - (k - k % (n : Int))=k % (n : Int) - t by omega] at this
  obtain ⟨c,hc⟩:=h3
  rw [ht] at b1 b2
  have hc2 : c=0∨c=1:=by
   have hp : (n : Int) * c < n * 2:=by omega
   have hq : (n : Int) * (-1) < n * c:=by omega
   have:=Int.lt_of_mul_lt_mul_left hp (by omega)
   have:=Int.lt_of_mul_lt_mul_left hq (by omega)
   omega
  split
  ·rcases hc2 with rfl | rfl <;> omega
  ·rcases hc2 with rfl | rfl <;> omega
 have KEY : Hid (k % (n : Int)=if t < 0 then t + n else t):=key
 clear key e e2 e3
 rw [ht] at b1 b2
 by_cases h : t < 0
 ·go_enter Tryz.func25,Tryz.ntmps25
  go_wp2
  go_ret
  refine ⟨?_,rfl⟩
  rw [KEY.out,if_pos (by omega)]
  rfl
 ·go_enter Tryz.func25,Tryz.ntmps25
  go_wp2
  go_ret
  refine ⟨?_,rfl⟩
  rw [KEY.out,if_neg (by omega)]
  rfl
theorem append_nums {ops : Array Oper} {rest : List Oper} {o : Oper} {a : Act} {Q : Exit→Act→World→Prop} (w : World) (hgd : o.guard=none) (s y : Operand)
  (ho : o.op=.call { callee:=.builtin .append,args:=#[s,y],argTypes:=#[30,30] }) (B B2 : Nat) (v u : Value) (R L : List Int) (hs : a.eval s=v) (hy : a.eval y=u) (hv : NOwn B w v R) (hu : NOwn B2 w u L) (hl : R.length + L.length≤100000) (hB : B≤w.heap.size)
  (h : ∀ ad cap w2,Hid (NOwn B w2 (.slice ad (R.length + L.length) cap) (R ++ L))→Hid (w.grownBy w2 v.ownBlock)→wpList Tryz.prog ops Q rest (a.put o.dst (.slice ad (R.length + L.length) cap)) w2) :
  wpList Tryz.prog ops Q (o :: rest) a w:=by
 obtain ⟨i0,hi,hz0,hz1,hz2⟩:=info_parts info3v
 rcases id hu.2 with ⟨rfl,h0⟩ | ⟨g,cap,cur,rfl,hg1,hh,hr⟩
 ·have hL : L=[]:=List.eq_nil_of_length_eq_zero h0
  subst hL
  obtain ⟨ad,cap,e⟩:=own_shape hv
  subst e
  have hle : R.length≤cap:=by
   rcases id hv.2 with ⟨e,h0⟩ | ⟨g,cap',cur,e,_,_,h1,_⟩
   ·injection e with _ _ e3; omega
   ·injection e with _ _ e3; omega
  have hrn:=run_append_nothing (P:=Tryz.prog) w 30 30 o.type 3 i0 Tryz.underlying30 hi ad R.length cap hle (.slice none 0 0) (Src.ofNil w Tryz.underlying30 0)
  refine wpList_plain hgd fun K hK => ?_
  unfold Oper.wp execOp
  simp only [ho,resolve,invoke,builtin,Sem.run_bind,Sem.run_pure,Result.andThen_ok,List.map_toArray,List.map_cons,List.map_nil,hs,hy,hrn]
  refine hK _ _ (h ad cap w ?_ (World.grownBy.refl _ _))
  rw [List.append_nil]
  exact hv
 ·refine wpList_append_own _ hgd s y 30 ho B 3 i0 (.int .i64 0) 1 8 Tryz.underlying30 hi hz0 hz1 hz2 rfl (by decide) v R.length (R.map (Value.int .i64)) hs hv ⟨g,0,none⟩ L.length cap (L.map (Value.int .i64)) hy (by simp) (fun j x hj => ?_) (ints_oneCell .i64 L) (by unfold maxLen; omega) (by omega) hB ?_
  ·rw [WideShapes.add_plain,Nat.zero_add]
   have hlt : j < L.length:=by have:=(List.getElem?_eq_some_iff.1 hj).1; simpa using this
   obtain ⟨_,_,_,hr⟩:=hr
   unfold World.cell?
   rw [hh]
   show cur[j]?=_
   rw [← Array.getElem?_toList,← List.getElem?_take_of_lt (i:=j) (j:=L.length * 1) (by omega),hr]
   exact hj
  ·intro v' w2 h1 h2 _
   obtain ⟨ad',cap',rfl⟩:=own_shape h1
   refine h ad' cap' w2 ?_ h2
   show w2.ownsRow _ _ _ _ _ _
   rw [List.length_append,List.map_append]
   exact h1
end Go.Proofs.YtfaokaohhchdhaaGreatDoor
namespace Go.Proofs.YtfaokaohhchdhaaGreatDoor
end Go.Proofs.YtfaokaohhchdhaaGreatDoor
namespace Go.Proofs.YtfaokaohhchdhaaGreatDoor
open Go.RowKit
theorem exprErr_zero {n : Nat} {k z : Nat→Int} {nf : Nat} {par : Nat→Int} {locals : Int} (h : exprErr n k z nf par locals=0) :
  n≤24∧(∀ i,i < nf→parErr (par i)=0)∧(∀ j,j < n→stepErr k z nf par locals j=0)∧¬ 0 < asked k z par n:=by
 by_cases h1 : 24 < n
 ·rw [exprErr_many h1] at h; cases h
 have h2 : firstErr nf (fun i => parErr (par i))=0:=by
  unfold exprErr at h
  rw [if_neg h1] at h
  by_cases c : firstErr nf (fun i => parErr (par i))=0
  ·exact c
  ·rw [if_neg c] at h; cases h
 have h2':=firstErr_is_zero h2
 have h3 : firstErr n (stepErr k z nf par locals)=0:=by
  unfold exprErr at h
  rw [if_neg h1,if_pos h2] at h
  by_cases c : firstErr n (stepErr k z nf par locals)=0
  ·exact c
  ·rw [if_neg c] at h; exact absurd h c
 have h3':=firstErr_is_zero h3
 refine ⟨by omega,h2',h3',fun c => ?_⟩
 rw [exprErr_end h1 h2' h3',if_pos c] at h
 cases h
theorem formErr_zero {s : Nd} {la lb : Nat} (h : formErr s la lb=0) : 1≤s.kind∧s.kind≤8∧(s.num=0∨s.kind=1∨s.kind=2)∧(s.ne=0∨¬ s.kind=4)∧(s.nf=0∨s.kind=2)∧(la=0∨s.kind=6∨s.kind=7)∧(lb=0∨s.kind=6):=by
 unfold formErr at h
 split at h
 ·cases h
 ·next hc => omega
theorem stErr_zero {nf : Nat} {par : Nat→Int} {locals : Int} {s : Nd} {la lb : Nat} (h : stErr nf par locals s la lb=0) :
  formErr s la lb=0∧numErr s locals=0∧(s.kind=4∨exprErr s.ne s.ek s.ez nf par locals=0)∧(¬ s.kind=2∨exprErr s.nf s.fk s.fz nf par locals=0):=by
 unfold stErr at h
 by_cases h1 : formErr s la lb=0
 ·rw [if_pos h1] at h
  by_cases h2 : numErr s locals=0
  ·rw [if_pos h2] at h
   by_cases h3 : s.kind=4
   ·exact ⟨h1,h2,Or.inl h3,Or.inl (by omega)⟩
   ·rw [if_neg h3] at h
    by_cases h4 : exprErr s.ne s.ek s.ez nf par locals=0
    ·rw [if_pos h4] at h
     by_cases h5 : s.kind=2
     ·rw [if_pos h5] at h; exact ⟨h1,h2,Or.inr h4,Or.inr h⟩
     ·exact ⟨h1,h2,Or.inr h4,Or.inl h5⟩
    ·rw [if_neg h4] at h; exact absurd h h4
  ·rw [if_neg h2] at h; cases h
 ·rw [if_neg h1] at h; cases h
theorem errs_item {E : Nd→Nat→Nat→Int} {d : Nat} {T : SL} (h : errs E (d + 1) T=0) {i : Nat} (hi : i < T.len) :
  E (T.nd i) (T.sub i false).len (T.sub i true).len=0∧errs E d (T.sub i false)=0∧errs E d (T.sub i true)=0:=by
 have h1:=firstErr_is_zero h i hi
 split at h1
 ·next h2 =>
  split at h1
  ·next h3 => exact ⟨h2,h3,h1⟩
  ·next h3 => exact absurd h1 h3
 ·next h2 => exact absurd h1 h2
theorem prog_zero {nf : Nat} {par loc : Nat→Int} {d : Nat} {body : Nat→SL} (h : progErr nf par loc d body=0) : 1≤nf∧nf≤4∧(∀ i,i < nf→headErr i (par i) (loc i)=0)∧∀ i,i < nf→bodyErr nf par (loc i) d (body i)=0:=by
 unfold progErr at h
 by_cases h1 : nf < 1∨4 < nf
 ·rw [if_pos h1] at h; cases h
 ·rw [if_neg h1] at h
  by_cases h2 : firstErr nf (fun i => headErr i (par i) (loc i))=0
  ·rw [if_pos h2] at h
   exact ⟨by omega,by omega,firstErr_is_zero h2,firstErr_is_zero h⟩
  ·rw [if_neg h2] at h; cases h
/-! ### What no word is -/
def plainW (w : Wd) : Prop:=w ≠ funW∧¬ (32 : UInt8) ∈ w.data.toList
theorem itoa_plain (p : List UInt8) (z : Int) (hp : ¬ (32 : UInt8) ∈ p) (hf : p=[]∨p=[118]∨p=[46]∨p=[110,101,119]∨p=[102]) : plainW (bs (p ++ Lib.itoa z)):=by
 obtain ⟨c,r,e,hc,hr⟩:=itoa_bytes z
 rw [e]
 refine ⟨fun h => ?_,fun h => ?_⟩
 ·have h:=bs_inj h
  rcases hf with rfl | rfl | rfl | rfl | rfl
  ·injection h with h1 h2; subst h1; simp at hc
  ·injection h with h1 h2; cases h1
  ·injection h with h1 h2; cases h1
  ·injection h with h1 h2; cases h1
  ·injection h with h1 h2; injection h2 with h2 h3; subst h2; simp at hc
 ·rw [bs_data,List.mem_append,List.mem_cons] at h
  rcases h with h | h | h
  ·exact hp h
  ·subst h; simp at hc
  ·have:=hr _ h; simp at this
theorem tokW_plain {k z : Int} {nf : Nat} {locals : Int} (h : tokErr k z nf locals=0) : plainW (tokW k z):=by
 unfold tokW
 split
 ·next hk =>
  subst hk
  have hz5 : z=1∨z=2∨z=3∨z=4∨z=5:=by
   unfold tokErr at h
   rw [if_neg (by decide),if_neg (by decide),if_pos rfl] at h
   split at h
   ·cases h
   ·omega
  rcases hz5 with rfl | rfl | rfl | rfl | rfl <;> exact ⟨by decide,by decide⟩
 ·next hk =>
  have : k.toNat=0∨k.toNat=1∨k.toNat=2∨k.toNat=3∨k.toNat=4∨k.toNat=5∨k.toNat=6∨7≤k.toNat:=by omega
  have hm : mkL k.toNat=[]∨mkL k.toNat=[118]∨mkL k.toNat=[46]∨mkL k.toNat=[110,101,119]∨mkL k.toNat=[102]:=by
   rcases this with e | e | e | e | e | e | e | e
   ·rw [e]; exact Or.inl rfl
   ·rw [e]; exact Or.inl rfl
   ·rw [e]; exact Or.inr (Or.inl rfl)
   ·rw [e]; exact Or.inl rfl
   ·rw [e]; exact Or.inr (Or.inr (Or.inl rfl))
   ·rw [e]; exact Or.inr (Or.inr (Or.inr (Or.inl rfl)))
   ·rw [e]; exact Or.inr (Or.inr (Or.inr (Or.inr rfl)))
   ·left; unfold mkL; split <;> first | omega | rfl
  refine itoa_plain _ z ?_ hm
  rcases hm with e | e | e | e | e <;> rw [e] <;> decide
theorem toksW_plain {k z : Nat→Int} {nf : Nat} {locals : Int} : ∀ {n : Nat},(∀ j,j < n→tokErr (k j) (z j) nf locals=0)→∀ w ∈ toksW k z n,plainW w
 | 0,_,w,hw => by cases hw
 | n + 1,h,w,hw => by
  rcases List.mem_append.1 hw with hw | hw
  ·exact toksW_plain (fun j hj => h j (by omega)) w hw
  ·rw [List.mem_singleton] at hw; subst hw; exact tokW_plain (h n (by omega))
theorem catTo_mem {f : Nat→List Wd} {w : Wd} : ∀ {n : Nat},w ∈ catTo f n→∃ i,i < n∧w ∈ f i
 | 0,h => by cases h
 | n + 1,h => by
  rcases List.mem_append.1 h with h | h
  ·obtain ⟨i,hi,hw⟩:=catTo_mem h
   exact ⟨i,by omega,hw⟩
  ·exact ⟨n,by omega,h⟩
theorem expr_toks {n : Nat} {k z : Nat→Int} {nf : Nat} {par : Nat→Int} {locals : Int} (h : exprErr n k z nf par locals=0) : ∀ j,j < n→tokErr (k j) (z j) nf locals=0 :=
 fun j hj => (stepErr_tok ((exprErr_zero h).2.2.1 j hj)).1
/-! ### The heads -/
theorem bodyErr_errs {nf : Nat} {par : Nat→Int} {locals : Int} {d : Nat} {T : SL} (h : bodyErr nf par locals d T=0) : sound d T∧errs (stErr nf par locals) d T=0:=by
 unfold bodyErr at h
 by_cases c : (wk look1 d T 1 0).1=0
 ·rw [if_pos c] at h; exact ⟨wk1_iff.1 c,h⟩
 ·rw [if_neg c] at h; cases h
theorem head_range {i : Nat} {p l : Int} (h : headErr i p l=0) : 0≤p∧p≤3∧p≤l∧l≤6:=by
 unfold headErr at h
 split at h
 ·cases h
 ·omega
/-! ### Words and texts -/
theorem joinTail_cons (x : List UInt8) (r : List (List UInt8)) : Lib.joinTail [32] (x :: r)=32 :: (x ++ Lib.joinTail [32] r):=by simp [Lib.joinTail]
def wordsOf (s : ByteArray) : List Wd:=Lib.splitB (bs [32]) 0 (Lib.countB s (bs [32])) s
end Go.Proofs.YtfaokaohhchdhaaGreatDoor
namespace Go.Proofs.YtfaokaohhchdhaaGreatDoor
open Go.RowKit Go.Maps
structure Env (N : Nat) (w : World) : Prop where
 low : 11≤N
 pow : Lib.TabIs Tryz.prog w "internal/strconv.uint64pow10" .u64 Lib.pow10Tab
 syn : ∃ tp p,w.var? Tryz.prog "strconv.ErrSyntax"=some #[.iface tp p]
 rng : ∃ tp p,w.var? Tryz.prog "strconv.ErrRange"=some #[.iface tp p]
 max : ∃ m,w.cell? ⟨2,0,none⟩=some (.int .i64 m)
theorem gPow : Tryz.prog.globalNamed "internal/strconv.uint64pow10"=some 3:=by kernel_rfl
theorem gSyn : Tryz.prog.globalNamed "strconv.ErrSyntax"=some 4:=by kernel_rfl
theorem gRng : Tryz.prog.globalNamed "strconv.ErrRange"=some 5:=by kernel_rfl
theorem var_of_block {P : Program} {w w' : World} {n : String} {g : Nat} (hg : P.globalNamed n=some g) (hb : w'.heap[g]?=w.heap[g]?) : w'.var? P n=w.var? P n:=by
 unfold World.var?
 rw [hg]
 simp only [Option.bind_some,hb]
theorem Env.below {N : Nat} {w w' : World} (h : Env N w) (hb : Below N w w') : Env N w':=by
 have l:=h.low
 refine ⟨l,?_,?_,?_,?_⟩
 ·unfold Lib.TabIs; rw [var_of_block gPow (hb.block 3 (by omega))]; exact h.pow
 ·rw [var_of_block gSyn (hb.block 4 (by omega))]; exact h.syn
 ·rw [var_of_block gRng (hb.block 5 (by omega))]; exact h.rng
 ·rw [hb.cell (p:=⟨2,0,none⟩) (by show 2 < N; omega)]; exact h.max
theorem Env.up {N M : Nat} {w : World} (h : Env N w) (hm : N≤M) : Env M w:=⟨Nat.le_trans h.low hm,h.pow,h.syn,h.rng,h.max⟩
theorem below_grow (w : World) (k : Nat) (os : Array Obj) : Below w.heap.size w (Sort.grow (w.drewN k) os) :=
 ⟨rfl,rfl,rfl,by simp [Sort.grow,World.drewN],fun j hj => by
  show (w.heap ++ os)[j]?=w.heap[j]?
  rw [Array.getElem?_append_left hj]⟩
theorem itoa (N : Nat) (z : Int) (h0 : -9223372036854775808≤z) (h1 : z≤9223372036854775807) (w : World) (he : Env N w) :
  Calls Tryz.prog 85 #[.int .i64 z] w fun e w' => e=.returned (.string (numW z))∧Below w.heap.size w w':=by
 refine (Tryz.strconv_Itoa z h0 h1 w he.pow).mono ?_
 rintro e w' ⟨rfl,k,os,rfl⟩
 exact ⟨rfl,below_grow w k os⟩
theorem atoi (N : Nat) (s : Wd) (hs : s.size≤1000000) (w : World) (he : Env N w) :
  Calls Tryz.prog 142 #[.string s] w fun e w' => ∃ er,e=.returned (.tuple #[.int .i64 (atoiV s.data.toList),er])∧Below w.heap.size w w':=by
 cases h : Lib.atoiAll s.data.toList with
 | ok v =>
  have e0 : atoiV s.data.toList=v:=by unfold atoiV; rw [h]
  rw [e0]
  refine (Tryz.strconv_Atoi_ok s (by omega) v h w).mono ?_
  rintro e w' ⟨rfl,rfl | ⟨t,rfl⟩⟩
  ·exact ⟨_,rfl,Below.refl _ _⟩
  ·exact ⟨_,rfl,Lib.bytesWorld_below _ _ _⟩
 | «syntax» =>
  have e0 : atoiV s.data.toList=0:=by unfold atoiV; rw [h]
  rw [e0]
  obtain ⟨tp,p,hv⟩:=he.syn
  refine (Tryz.strconv_Atoi_syntax_var s (by omega) h tp p w hv).mono ?_
  rintro e w' ⟨n,rfl,_,_,hb⟩
  exact ⟨_,rfl,hb⟩
 | range =>
  have e0 : atoiV s.data.toList=Lib.atoiSat s.data.toList:=by unfold atoiV; rw [h]
  rw [e0]
  obtain ⟨tp,p,hv⟩:=he.rng
  refine (Tryz.strconv_Atoi_range_var s (by omega) h tp p w hv).mono ?_
  rintro e w' ⟨n,rfl,_,_,hb⟩
  exact ⟨_,rfl,hb⟩
/-! ### Rows of words of the call's own -/
structure Grow (w : World) (v : Value) (w' : World) (v' : Value) : Prop where
 os : w'.os=w.os
 tape : w'.tape=w.tape
 output : w'.output=w.output
 size : w.heap.size≤w'.heap.size
 block : ∀ k,k < w.heap.size→¬ v.ownBlock=some k→w'.heap[k]?=w.heap[k]?
 own : ∀ k,k < w.heap.size→v'.ownBlock=some k→v.ownBlock=some k
theorem Grow.trans {a b c : World} {u v x : Value} (h : Grow a u b v) (k : Grow b v c x) : Grow a u c x :=
 ⟨k.os.trans h.os,k.tape.trans h.tape,k.output.trans h.output,Nat.le_trans h.size k.size,
  fun n hn hx => (k.block n (Nat.lt_of_lt_of_le hn h.size) fun e => hx (h.own n hn e)).trans (h.block n hn hx),
  fun n hn e => h.own n hn (k.own n (Nat.lt_of_lt_of_le hn h.size) e)⟩
theorem Grow.of {a b : World} (v : Value) (h : Below a.heap.size a b) : Grow a v b v:=⟨h.os,h.tape,h.output,h.size,fun n hn _ => h.block n hn,fun _ _ e => e⟩
def WS (B : Nat) (w : World) (v : Value) (R : List Wd) : Prop:=w.ownsRow B 9 1 v R.length (R.map Value.string)
theorem WS.nil (B : Nat) (w : World) : WS B w (.slice none 0 0) []:=⟨rfl,Or.inl ⟨rfl,rfl⟩⟩
theorem WS.low {B : Nat} {w : World} {v : Value} {R : List Wd} (h : WS B w v R) : ∀ k,v.ownBlock=some k→B≤k:=by
 intro k hk
 rcases h.2 with ⟨rfl,_⟩ | ⟨g,cap,cur,rfl,hb,_⟩
 ·cases hk
 ·cases hk; exact hb
theorem WS.lt {B : Nat} {w : World} {v : Value} {R : List Wd} (h : WS B w v R) : ∀ k,v.ownBlock=some k→k < w.heap.size:=by
 intro k hk
 rcases h.2 with ⟨rfl,_⟩ | ⟨g,cap,cur,rfl,hb,hg,_⟩
 ·cases hk
 ·cases hk; exact (Array.getElem?_eq_some_iff.1 hg).1
theorem WS.keep {B : Nat} {w w' : World} {v : Value} {R : List Wd} (h : WS B w v R) (hb : Below w.heap.size w w') : WS B w' v R:=by
 unfold WS at *
 refine ⟨h.1,?_⟩
 rcases h.2 with ⟨rfl,h0⟩ | ⟨g,cap,cur,rfl,h1,h2,h3⟩
 ·exact Or.inl ⟨rfl,h0⟩
 ·exact Or.inr ⟨g,cap,cur,rfl,h1,by rw [hb.block g (Array.getElem?_eq_some_iff.1 h2).1]; exact h2,h3⟩
theorem Grow.low {B : Nat} {a b : World} {u v : Value} (h : Grow a u b v) (hu : ∀ k,u.ownBlock=some k→B≤k) (hB : B≤a.heap.size) : Below B a b :=
 ⟨h.os,h.tape,h.output,h.size,fun k hk => h.block k (Nat.lt_of_lt_of_le hk hB) fun e => by have:=hu k e; omega⟩
theorem info9 : (Tryz.prog.info? 9).map (fun i => (i.zero,i.size,i.bytes))=some (some (.string ⟨#[]⟩),1,16):=by kernel_rfl
theorem strs_one (L : List Wd) : ∀ u ∈ L.map Value.string,u.oneCell'=true:=by
 intro u hu
 obtain ⟨x,_,rfl⟩:=List.mem_map.1 hu
 rfl
end Go.Proofs.YtfaokaohhchdhaaGreatDoor
