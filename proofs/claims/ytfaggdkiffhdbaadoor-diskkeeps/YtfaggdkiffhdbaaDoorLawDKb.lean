/- For DiskKeeps: whatever is kept of what wasn't synced, all that was is there, and of the rest a beginning: the law over memory. -/
import Derived.Test.YtfaggdkiffhdbaaDoorLawDKa
namespace Go.Proofs.YtfaggdkiffhdbaaDoor
open Go.RowKit Go.Maps

set_option maxHeartbeats 1000000 in
theorem lawAt (k : Int) (n : Nat) (h0 : 0 < n) (hn : n≤1000000) (w : World) : Calls Tryd.prog 18 #[.int .i64 k,.int .i64 n] w fun e w' => e=.returned (.int .i64 (k % (n : Int)))∧w'=w:=by
 have b1 : k.tmod (n : Int) < (n : Int):=Int.tmod_lt_of_pos k (by omega)
 have b2 : -(n : Int) < k.tmod (n : Int):=by
  have:=Int.tmod_lt_of_pos (-k) (b:=(n : Int)) (by omega)
  rw [Int.neg_tmod] at this
  omega
 have hne : ¬ (n : Int)=0:=by omega
 have e:=Int.emod_eq_tmod (a:=k) (b:=(n : Int))
 have e2:=Int.emod_nonneg k hne
 have e3:=Int.emod_lt_of_pos k (b:=(n : Int)) (by omega)
 obtain ⟨t,ht⟩ : ∃ t,k.tmod (n : Int)=t:=⟨_,rfl⟩
 have key : k % (n : Int)=if t < 0 then t + n else t:=by
  have h1 : (n : Int) ∣ k - t:=by rw [← ht]; exact Int.dvd_self_sub_tmod
  have h2 : (n : Int) ∣ k - k % (n : Int):=Int.dvd_self_sub_emod
  have h3 : (n : Int) ∣ (k % (n : Int)) - t:=by
   have:=Int.dvd_sub h1 h2
   rwa [show k - t - (k - k % (n : Int))=k % (n : Int) - t by omega] at this
  obtain ⟨c,hc⟩:=h3
  rw [ht] at b1 b2
  have hc2 : c=0∨c=1:=by
   have hp : (n : Int) * c < n * 2:=by omega
   have hq : (n : Int) * (-1) < n * c:=by omega
   have:=Int.lt_of_mul_lt_mul_left hp (by omega)
   have:=Int.lt_of_mul_lt_mul_left hq (by omega)
   omega
  split
  ·rcases hc2 with rfl | rfl <;> omega
  ·rcases hc2 with rfl | rfl <;> omega
 have KEY : Hid (k % (n : Int)=if t < 0 then t + n else t):=key
 clear key e e2 e3
 rw [ht] at b1 b2
 by_cases h : t < 0
 ·go_enter Tryd.func18,Tryd.ntmps18
  go_wp2
  go_ret
  refine ⟨?_,rfl⟩
  rw [KEY.out,if_pos (by omega)]
  rfl
 ·go_enter Tryd.func18,Tryd.ntmps18
  go_wp2
  go_ret
  refine ⟨?_,rfl⟩
  rw [KEY.out,if_neg (by omega)]
  rfl

theorem RecsL.i64 {N : Nat} {w : World} {a : Option Addr} {c : Nat} {l : List Rc} (h : RecsL N w a c l) : ∀ r ∈ l,recI64 r:=by
 intro r hr
 obtain ⟨i,hi⟩:=List.mem_iff_getElem?.1 hr
 rcases h.one with h0 | ⟨b,o,_,_,hc⟩
 ·rw [h0] at hr; cases hr
 ·obtain ⟨_,_,_,_,_,_,_,_,_,_,hx⟩:=hc i r hi
  exact ⟨hx.1.fit,hx.2.fit⟩
theorem RecsL.take {N : Nat} {w : World} {a : Option Addr} {c : Nat} {l : List Rc} (h : RecsL N w a c l) (m : Nat) : RecsL N w a c (l.take m):=by
 refine ⟨by rw [List.length_take]; have:=h.le; omega,h.big,fun e => by obtain ⟨h1,h2⟩:=h.nil e; rw [h1]; exact ⟨by simp,h2⟩,?_⟩
 rcases h.one with h0 | ⟨b,o,e,hb,hc⟩
 ·exact Or.inl (by rw [h0]; simp)
 ·refine Or.inr ⟨b,o,e,hb,fun i r hi => hc i r ?_⟩
  have hil:=(List.getElem?_eq_some_iff.1 hi).1
  rw [List.length_take] at hil
  rw [List.getElem?_take,if_pos (by omega)] at hi
  exact hi
theorem own_recsL {C M n c : Nat} {w : World} {a : Option Addr} {l : List (Rc×RAd)} (hl : l.length=n) (h : w.ownsRow C 24 6 (.slice a n c) n (flatR l)) (hr : ∀ x ∈ l,RecIn M w x.2.1 x.2.2.1 x.2.2.2.1 x.2.2.2.2 x.1) (hM : M≤w.heap.size) : RecsL w.heap.size w a c (l.map (·.1)):=by
 subst hl
 rcases id h.2 with ⟨e,h0⟩ | ⟨g,cap,cur,e,hg,hh,h1,h2,_,ht⟩
 ·injection e with e1 e2 e3
  subst e1 e3
  obtain rfl : l=[]:=List.eq_nil_of_length_eq_zero h0
  exact ⟨Nat.le_refl _,by omega,fun _ => ⟨rfl,rfl⟩,Or.inl rfl⟩
 ·injection e with e1 e2 e3
  subst e1 e3
  refine ⟨by rw [List.length_map]; exact h1,by unfold maxLen at h2; omega,(fun e => by cases e),Or.inr ⟨g,0,rfl,(Array.getElem?_eq_some_iff.1 hh).1,fun i r hi => ?_⟩⟩
  rw [List.getElem?_map] at hi
  obtain ⟨x,hx,rfl⟩:=Option.map_eq_some_iff.1 hi
  have hil:=(List.getElem?_eq_some_iff.1 hx).1
  have e : ∀ j,j < 6→w.cell? ⟨g,0 + i * 6 + j,none⟩=(recVs x.1 x.2)[j]?:=fun j hj => by
   unfold World.cell?
   rw [hh]
   show cur[0 + i * 6 + j]?=_
   rw [Nat.zero_add,← Array.getElem?_toList,← List.getElem?_take_of_lt (i:=i * 6 + j) (j:=l.length * 6) (by omega),ht]
   exact flatR_at l i j x hx hj
  exact ⟨x.2.1,x.2.2.1,x.2.2.2.1,x.2.2.2.2,e 0 (by omega),e 1 (by omega),e 2 (by omega),e 3 (by omega),e 4 (by omega),e 5 (by omega),(hr x (List.mem_of_getElem? hx)).up hM⟩

/-- What is known of a list that was put. -/
def PutL (M n : Nat) (w : World) (v : Value) (A : List Rc) : Prop:=∃ (C : Nat) (l : List (Rc×RAd)),w.ownsRow C 24 6 v n (flatR l)∧l.length=n∧l.map (·.1)=A∧∀ x ∈ l,RecIn M w x.2.1 x.2.2.1 x.2.2.2.1 x.2.2.2.2 x.1
theorem PutL.keep {M n : Nat} {w w' : World} {v : Value} {A : List Rc} (h : PutL M n w v A) (k : Keeps 24 w w') (hb : Below M w w') : PutL M n w' v A:=by
 obtain ⟨C,l,h1,h2,h3,h4⟩:=h
 exact ⟨C,l,own_keep h1 k,h2,h3,fun x hx => (h4 x hx).below hb⟩
/-- Two of them,one behind the other. -/
theorem cat2 (M : Nat) (w : World) (hM : M≤w.heap.size) (a b : Option Addr) (n m ac bc : Nat) (A B : List Rc) (ha : PutL M n w (.slice a n ac) A) (hb : PutL M m w (.slice b m bc) B) (hl : n + m≤1000) (Y : Nat) (hY : w.heap.size=Y) :
  Calls Tryd.prog 21 #[.slice (some ⟨Y,0,none⟩) 2 2] (w.alloc (.cells #[.slice a n ac,.slice b m bc] 34)) fun e w' => ∃ x c,e=.returned (.slice x (n + m : Nat) c)∧Hid (RecsL w'.heap.size w' x c (A ++ B))∧Hid (n + m≤c∧c≤9223372036854775807∧(x=none→c=0))∧Hid (Below w.heap.size w w'):=by
 subst hY
 obtain ⟨C1,l1,o1,e1,m1,r1⟩:=ha
 obtain ⟨C2,l2,o2,e2,m2,r2⟩:=hb
 have hk : Below w.heap.size w (w.alloc (.cells #[.slice a n ac,.slice b m bc] 34)):=below_alloc _ _
 have hrows : RowsRc (w.heap.size + 1) (w.alloc (.cells #[.slice a n ac,.slice b m bc] 34)) (.slice (some ⟨w.heap.size,0,none⟩) 2 2) [l1,l2]:=by
  refine ⟨_,_,_,rfl,by simp,by omega,fun i l hi => ?_⟩
  rcases i with _ | _ | i
  ·simp at hi; subst hi
   refine ⟨a,ac,?_,((own_cellsR e1 o1).below hk).up (by omega)⟩
   rw [World.cell?_alloc_new,e1]; rfl
  ·simp at hi; subst hi
   refine ⟨b,bc,?_,((own_cellsR e2 o2).below hk).up (by omega)⟩
   rw [World.cell?_alloc_new,e2]; rfl
  ·simp at hi
 have hfl : [l1,l2].flatten=l1 ++ l2:=by simp
 have hlen : (l1 ++ l2).length=n + m:=by rw [List.length_append,e1,e2]
 have:=concatRc (w.heap.size + 1) _ [l1,l2] _ (by simp) hrows (by rw [hfl,hlen]; exact hl)
 rw [hfl,hlen] at this
 refine this.mono ?_
 rintro e w' ⟨x,c,rfl,ho,hb⟩
 have hb' : Below w.heap.size w w':=below_step hk hb.out
 have hR : RecsL w'.heap.size w' x c (A ++ B):=by
  have:=own_recsL hlen ho.out (fun y hy => by
   rcases List.mem_append.1 hy with hy | hy
   ·exact (r1 y hy).below (hb'.mono hM)
   ·exact (r2 y hy).below (hb'.mono hM)) (Nat.le_trans hM hb'.size)
  rw [List.map_append,m1,m2] at this
  exact this
 refine ⟨x,c,rfl,hR,⟨?_,hR.big,fun e => (hR.nil e).2⟩,hb'⟩
 have:=hR.le
 rw [← m1,← m2,← List.map_append,List.length_map,hlen] at this
 exact this

end Go.Proofs.YtfaggdkiffhdbaaDoor
