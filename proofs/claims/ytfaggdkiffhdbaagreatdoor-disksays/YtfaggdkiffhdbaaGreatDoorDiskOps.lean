/- disk.Check, Same, Sync, Recover, by the program. -/
import Derived.Test.YtfaggdkiffhdbaaGreatDoorDiskRd
import Derived.Test.YtfaggdkiffhdbaaGreatDoorDiskEq
import Derived.Test.YtfaggdkiffhdbaaGreatDoorDiskRs
namespace Go.Proofs.YtfaggdkiffhdbaaGreatDoor
open Go.RowKit Go.Maps

/-- A disk. -/
structure Dk where
 safe : List UInt8
 wait : List UInt8
def dk0 : Dk:=⟨[],[]⟩
def dErr (d : Dk) : Int:=if 60000 < d.safe.length + d.wait.length then 2 else (dRead 120 d.safe).2.2
theorem dErr_zero {d : Dk} (h : dErr d=0) : d.safe.length + d.wait.length≤60000∧(dRead 120 d.safe).2.2=0:=by
 unfold dErr at h
 split at h
 ·simp at h
 ·exact ⟨by omega,h⟩
/-- Its bytes,below block N. -/
def DiskIn (N : Nat) (w : World) (sa : Option Addr) (sc : Nat) (wa : Option Addr) (wc : Nat) (d : Dk) : Prop:=BytesL N w sa sc d.safe∧BytesL N w wa wc d.wait
theorem DiskIn.below {N : Nat} {w w' : World} {sa wa : Option Addr} {sc wc : Nat} {d : Dk} (h : DiskIn N w sa sc wa wc d) (hb : Below N w w') : DiskIn N w' sa sc wa wc d:=⟨h.1.below hb,h.2.below hb⟩
theorem DiskIn.up {N M : Nat} {w : World} {sa wa : Option Addr} {sc wc : Nat} {d : Dk} (h : DiskIn N w sa sc wa wc d) (hm : N≤M) : DiskIn M w sa sc wa wc d:=⟨h.1.up hm,h.2.up hm⟩
theorem DiskIn.none (N : Nat) (w : World) : DiskIn N w .none 0 .none 0 dk0:=⟨BytesL.none _ _,BytesL.none _ _⟩
def DSmall (d : Dk) : Prop:=d.safe.length≤1000000000000000∧d.wait.length≤1000000000000000

theorem dbox (w : World) (sv wv : Value) : ∃ W,w.alloc (.cells #[sv,wv] 24)=W∧Below w.heap.size w W∧W.heap.size=w.heap.size + 1∧W.cell? ⟨w.heap.size,0,none⟩=some sv∧W.cell? ⟨w.heap.size,1,none⟩=some wv:=by
 refine ⟨_,rfl,below_alloc _ _,by simp,?_,?_⟩ <;> (rw [World.cell?_alloc_new]; rfl)

/-- A box of a disk. -/
def BoxD (X : Nat) (w : World) (sv wv : Value) : Prop:=w.heap[X]?=some (.cells #[sv,wv] 24 (0,0))
theorem BoxD.keep {X : Nat} {w w' : World} {sv wv : Value} (h : BoxD X w sv wv) (hb : w'.heap[X]?=w.heap[X]?) : BoxD X w' sv wv:=by unfold BoxD at *; rw [hb]; exact h
theorem BoxD.lt {X : Nat} {w : World} {sv wv : Value} (h : BoxD X w sv wv) : X < w.heap.size:=(Array.getElem?_eq_some_iff.1 h).1
theorem BoxD.below {X : Nat} {w w' : World} {sv wv : Value} (h : BoxD X w sv wv) (hb : Below w.heap.size w w') : BoxD X w' sv wv:=h.keep (hb.block X h.lt)
theorem BoxD.at {X : Nat} {w : World} {sv wv : Value} (h : BoxD X w sv wv) : w.cell? ⟨X,0,none⟩=some sv∧w.cell? ⟨X,1,none⟩=some wv∧∀ i,w.frozen? ⟨X,i,none⟩=false:=by
 unfold BoxD at h
 refine ⟨?_,?_,fun i => ?_⟩
 ·unfold World.cell?; rw [h]; rfl
 ·unfold World.cell?; rw [h]; rfl
 ·unfold World.frozen?; rw [h]; simp
theorem boxD_put {X : Nat} {w : World} {sv wv : Value} (h : BoxD X w sv wv) (sv' wv' : Value) : ∃ W,((w.setCell ⟨X,0,none⟩ sv').setCell ⟨X,1,none⟩ wv')=W ∧
  W.heap[X]?=some (.cells #[sv',wv'] 24 (0,0))∧(∀ N,N≤X→Below N w W)∧∀ t,¬ t=24→Keeps t w W:=by
 unfold BoxD at h
 have h1:=heap_setCell_same w X 0 _ _ sv' h
 refine ⟨_,rfl,heap_setCell_same _ X 1 _ _ wv' h1,fun N hN => ((Below.refl _ _).setCell hN _).setCell hN _,fun t ht => (Keeps.set h _ ht).trans (Keeps.set h1 _ ht)⟩
/-- Results of which the first lies in a box,and two more. -/
theorem res_box3 {P : Program} {fn : Func} {p u v : Tmp} {ty : TypeId} (h : fn.results=#[.cell p ty,.tmp u,.tmp v]) (tmps : Array Value) (w : World) (g : Nat) (t : TypeId) (cs : Array Value) (fr : Nat×Nat) (d : TypeDesc)
  (hp : tmps.getD p undef=.pointer (some ⟨g,0,none⟩)) (hg : w.heap[g]?=some (.cells cs t fr))
  (hu : P.underlying ty=some d) (hd : (match d with | .struct _ | .array _ _ => true | _ => false)=true) (hi : (P.info? ty).map (·.size)=some cs.size) :
  (results fn tmps).run P w=.ok (.tuple #[.agg cs,tmps.getD u undef,tmps.getD v undef]) w:=by
 have hp' : tmps[p]?.getD undef=.pointer (some ⟨g,0,none⟩):=by simpa using hp
 simp [results,h,hp',asAddr,run_loadVar_row w g t ty cs fr d hg hu hd hi]

set_option maxRecDepth 20000 in
set_option maxHeartbeats 2000000 in
/-- disk.Check. -/
theorem dCheckC (N M : Nat) (d : Dk) (sa wa : Option Addr) (sc wc : Nat) (w : World) (he : NEnv N w) (hN : N≤w.heap.size) (hM : M≤w.heap.size) (h : DiskIn M w sa sc wa wc d) (hs : DSmall d) :
  Calls Tryz.prog 10 #[.agg #[.slice sa d.safe.length sc,.slice wa d.wait.length wc]] w fun e w' => e=.returned (.int .i64 (dErr d))∧Below w.heap.size w w':=by
 obtain ⟨W,hW,HB,_,i0,i1⟩:=dbox w (.slice sa d.safe.length sc) (.slice wa d.wait.length wc)
 have HBW : Hid (Below w.heap.size w W):=HB
 obtain ⟨s1,s2⟩:=hs
 by_cases hm : 60000 < d.safe.length + d.wait.length
 ·have HE : Hid (dErr d=2):=by show _=_; unfold dErr; rw [if_pos hm]
  have hmi : (60000 : Int) < (d.safe.length : Int) + (d.wait.length : Int):=by omega
  clear h hm HB
  generalize d.safe.length=n1 at *
  generalize d.wait.length=n2 at *
  go_enter Tryz.func10,Tryz.ntmps10
  go_upto_region 1 with (fail)
  try rw [hW]
  go_wp2_with (fail)
  go_ret
  exact ⟨by rw [HE.out]; rfl,HBW.out⟩
 ·have HE : Hid (dErr d=(dRead 120 d.safe).2.2):=by show _=_; unfold dErr; rw [if_neg hm]
  have hmi : ¬ (60000 : Int) < (d.safe.length : Int) + (d.wait.length : Int):=by omega
  have HR : Hid (Calls Tryz.prog 21 #[.slice sa d.safe.length sc] W fun e w' => ∃ x y,e=.returned (.tuple #[x,y,.int .i64 (dErr d)])∧Below W.heap.size W w'):=by
   refine (dreadC N W (he.below (HB.mono hN)) (Nat.le_trans hN HB.size) M (Nat.le_trans hM HB.size) sa sc d.safe (h.1.below (HB.mono hM)) (by omega)).mono ?_
   rintro e w' ⟨la,lc,L,rfl,_,_,hb⟩
   exact ⟨_,_,by rw [HE.out],hb⟩
  clear h hm HB he hN hM
  generalize d.safe.length=n1 at *
  generalize d.wait.length=n2 at *
  generalize dErr d=de at *
  go_enter Tryz.func10,Tryz.ntmps10
  go_upto_region 1 with (fail)
  try rw [hW]
  go_wp2_with (go_at_call 21; refine HR.out.mono ?_; rintro e w1 ⟨x,y,rfl,hb1⟩)
  go_ret
  exact ⟨rfl,below_step HBW.out hb1⟩

def dkEq (a b : Dk) : Bool:=decide (a.safe=b.safe) && decide (a.wait=b.wait)
theorem dkEq_iff {a b : Dk} : dkEq a b=true ↔ a=b:=by
 obtain ⟨a1,a2⟩:=a
 obtain ⟨b1,b2⟩:=b
 simp [dkEq]

theorem two_dbox (w : World) (s1 w1 s2 w2 : Value) : ∃ W,(w.alloc (.cells #[s1,w1] 24)).alloc (.cells #[s2,w2] 24)=W∧Hid (Below w.heap.size w W) ∧
  Hid (∀ wk,Below W.heap.size W wk→wk.cell? ⟨w.heap.size,0,none⟩=some s1∧wk.cell? ⟨w.heap.size,1,none⟩=some w1∧wk.cell? ⟨w.heap.size + 1,0,none⟩=some s2∧wk.cell? ⟨w.heap.size + 1,1,none⟩=some w2):=by
 obtain ⟨V,hV,b0,hs,i0,i1⟩:=dbox w s1 w1
 rw [hV]
 obtain ⟨W,hW,b1,_,j0,j1⟩:=dbox V s2 w2
 rw [hs] at j0 j1
 exact ⟨W,hW,below_step b0 b1,fun wk hk => ⟨at_below (below_step b1 hk) i0,at_below (below_step b1 hk) i1,at_below hk j0,at_below hk j1⟩⟩

set_option maxHeartbeats 2000000 in
/-- disk.Same. -/
theorem dSameC (N : Nat) (d x : Dk) (sa wa sb wb : Option Addr) (sc wc sbc wbc : Nat) (w : World) (hN : N≤w.heap.size) (h1 : DiskIn N w sa sc wa wc d) (h2 : DiskIn N w sb sbc wb wbc x) :
  Calls Tryz.prog 11 #[.agg #[.slice sa d.safe.length sc,.slice wa d.wait.length wc],.agg #[.slice sb x.safe.length sbc,.slice wb x.wait.length wbc]] w fun e w' => e=.returned (.bool (dkEq d x))∧Below w.heap.size w w':=by
 obtain ⟨W,hW,HB,HX⟩:=two_dbox w (.slice sa d.safe.length sc) (.slice wa d.wait.length wc) (.slice sb x.safe.length sbc) (.slice wb x.wait.length wbc)
 have k1:=h1.below (HB.out.mono hN)
 have k2:=h2.below (HB.out.mono hN)
 have HE1 : Hid (Calls Tryz.prog 23 #[.slice sa d.safe.length sc,.slice sb x.safe.length sbc] W fun e w' => e=.returned (.bool (decide (d.safe=x.safe)))∧w'=W):=bytesEq W k1.1 k2.1
 have HE2 : Hid (Calls Tryz.prog 23 #[.slice wa d.wait.length wc,.slice wb x.wait.length wbc] W fun e w' => e=.returned (.bool (decide (d.wait=x.wait)))∧w'=W):=bytesEq W k1.2 k2.2
 have HQ : Hid (dkEq d x=(decide (d.safe=x.safe) && decide (d.wait=x.wait))):=by show _=_; rfl
 obtain ⟨i0,i1,j0,j1⟩:=HX.out W (Below.refl _ _)
 clear h1 h2 k1 k2
 generalize dkEq d x=bq at *
 generalize hbs : decide (d.safe=x.safe)=bs at *
 generalize hbi : decide (d.wait=x.wait)=bi at *
 clear hbs hbi
 generalize d.safe.length=n1 at *
 generalize d.wait.length=n2 at *
 generalize x.safe.length=n3 at *
 generalize x.wait.length=n4 at *
 cases bs with
 | true =>
  have hq : Hid (bq=bi):=by show _=_; rw [HQ.out]; rfl
  go_enter Tryz.func11,Tryz.ntmps11
  go_upto_region 1 with (fail)
  try rw [hW]
  go_wp2_with (first
   | (have hd:=hdone; go_at_call 23; refine HE2.out.mono ?_; rintro e w7 ⟨rfl,hw7⟩; rw [hw7])
   | (go_at_call 23; refine HE1.out.mono ?_; rintro e w6 ⟨rfl,hw6⟩; rw [hw6]; have hdone:=True.intro))
  go_ret
  exact ⟨ret_bool hq.out.symm,HB.out⟩
 | false =>
  have hq : Hid (bq=false):=by show _=_; rw [HQ.out]; rfl
  go_enter Tryz.func11,Tryz.ntmps11
  go_upto_region 1 with (fail)
  try rw [hW]
  go_wp2_with (go_at_call 23; refine HE1.out.mono ?_; rintro e w6 ⟨rfl,hw6⟩; rw [hw6])
  go_ret
  exact ⟨ret_bool hq.out.symm,HB.out⟩

/-- The bytes l lie there,in a row of bytes. -/
structure BytesT (w : World) (a : Option Addr) (c : Nat) (l : List UInt8) : Prop where
 le : l.length≤c
 big : c≤9223372036854775807
 nil : a=none→l=[]∧c=0
 one : ∀ p,a=some p→l=[]∨∃ b o cs,p=⟨b,o,none⟩∧w.heap[b]?=some (Obj.cells cs 5 (0,0))∧∀ (i : Nat) (z : UInt8),l[i]?=some z→cs[o + i]?=some (.int .u8 (z.toNat : Int))
theorem BytesT.keep {w w' : World} {a : Option Addr} {c : Nat} {l : List UInt8} (h : BytesT w a c l) (k : Keeps 5 w w') : BytesT w' a c l:=by
 refine ⟨h.le,h.big,h.nil,fun p hp => ?_⟩
 rcases h.one p hp with h0 | ⟨b,o,cs,e,hb,hc⟩
 ·exact Or.inl h0
 ·exact Or.inr ⟨b,o,cs,e,k b cs hb,hc⟩
theorem BytesT.list {w : World} {a : Option Addr} {c : Nat} {l : List UInt8} (h : BytesT w a c l) : BytesL w.heap.size w a c l:=by
 refine ⟨h.le,h.big,h.nil,fun p hp => ?_⟩
 rcases h.one p hp with h0 | ⟨b,o,cs,e,hb,hc⟩
 ·exact Or.inl h0
 ·refine Or.inr ⟨b,o,e,(Array.getElem?_eq_some_iff.1 hb).1,fun i z hi => ?_⟩
  unfold World.cell?
  rw [hb]
  exact hc i z hi
theorem BytesT.none (w : World) : BytesT w .none 0 []:=⟨Nat.le_refl _,by omega,fun _ => ⟨rfl,rfl⟩,fun p hp => by cases hp⟩
theorem BytesT.take {w : World} {a : Option Addr} {c : Nat} {l : List UInt8} (h : BytesT w a c l) (m k : Nat) (hm : m≤l.length) (hk : m≤k) (hc : k≤c) : BytesT w a k (l.take m):=by
 refine ⟨by rw [List.length_take]; omega,by have:=h.big; omega,fun e => ?_,fun p hp => ?_⟩
 ·obtain ⟨h1,h2⟩:=h.nil e
  rw [h1]
  exact ⟨by simp,by omega⟩
 ·rcases h.one p hp with h1 | ⟨b,o,cs,e,hb,hx⟩
  ·exact Or.inl (by rw [h1]; simp)
  ·refine Or.inr ⟨b,o,cs,e,hb,fun i z hi => hx i z ?_⟩
   have hil:=(List.getElem?_eq_some_iff.1 hi).1
   rw [List.length_take] at hil
   rw [List.getElem?_take,if_pos (by omega)] at hi
   exact hi
theorem own_bytesT {B : Nat} {w : World} {a : Option Addr} {n c : Nat} {l : List UInt8} (h : BS B w (.slice a n c) l) : BytesT w a c l:=by
 rcases id h.2 with ⟨e,h0⟩ | ⟨g,cap,cur,e,hg,hh,h1,h2,_,ht⟩
 ·injection e with e1 e2 e3
  subst e1 e2 e3
  obtain rfl : l=[]:=List.eq_nil_of_length_eq_zero h0
  exact BytesT.none _
 ·injection e with e1 e2 e3
  subst e1 e3
  refine ⟨h1,by unfold maxLen at h2; omega,(fun e => by cases e),fun p hp => ?_⟩
  cases hp
  refine Or.inr ⟨g,0,cur,rfl,hh,fun i z hi => ?_⟩
  have hil:=(List.getElem?_eq_some_iff.1 hi).1
  rw [Nat.zero_add,← Array.getElem?_toList,← List.getElem?_take_of_lt (i:=i) (j:=l.length * 1) (by omega),ht]
  unfold Lib.byteCells
  rw [List.getElem?_map,hi]
  rfl
/-- A disk whose bytes lie in rows of bytes. -/
def DiskT (w : World) (sa : Option Addr) (sc : Nat) (wa : Option Addr) (wc : Nat) (d : Dk) : Prop:=BytesT w sa sc d.safe∧BytesT w wa wc d.wait
theorem DiskT.keep {w w' : World} {sa wa : Option Addr} {sc wc : Nat} {d : Dk} (h : DiskT w sa sc wa wc d) (k : Keeps 5 w w') : DiskT w' sa sc wa wc d:=⟨h.1.keep k,h.2.keep k⟩
theorem DiskT.below {w w' : World} {sa wa : Option Addr} {sc wc : Nat} {d : Dk} (h : DiskT w sa sc wa wc d) (hb : Below w.heap.size w w') : DiskT w' sa sc wa wc d:=h.keep (Keeps.of hb)
theorem DiskT.in {w : World} {sa wa : Option Addr} {sc wc : Nat} {d : Dk} (h : DiskT w sa sc wa wc d) : DiskIn w.heap.size w sa sc wa wc d:=⟨h.1.list,h.2.list⟩
theorem DiskT.none (w : World) : DiskT w .none 0 .none 0 dk0:=⟨BytesT.none _,BytesT.none _⟩

/-- What is handed back: a disk,and a number. -/
def DkK (w : World) (d : Dk) (er : Int) (e : Ending) (w' : World) : Prop :=
 ∃ sa sc wa wc,e=.returned (.tuple #[.agg #[.slice sa d.safe.length sc,.slice wa d.wait.length wc],.int .i64 er])∧Hid (DiskT w' sa sc wa wc d)∧Hid (Below w.heap.size w w')
theorem DkK.nothing {w w' : World} {er : Int} (hb : Below w.heap.size w w') : DkK w dk0 er (.returned (.tuple #[.agg #[.slice none 0 0,.slice none 0 0],.int .i64 er])) w' :=
 ⟨none,0,none,0,rfl,DiskT.none _,hb⟩

/-- Two rows of bytes,one behind the other. -/
theorem concat2 (M : Nat) (w : World) (hM : M≤w.heap.size) (a b : Option Addr) (ac bc : Nat) (s t : List UInt8) (ha : BytesL M w a ac s) (hb : BytesL M w b bc t) (hl : s.length + t.length≤1000000) (B : Nat) (hB : w.heap.size=B) :
  Calls Tryz.prog 20 #[.slice (some ⟨B,0,none⟩) 2 2] (w.alloc (.cells #[.slice a s.length ac,.slice b t.length bc] 22)) fun e w' => ∃ x c,e=.returned (.slice x (s ++ t).length c)∧Hid (∃ D,BS D w' (.slice x (s ++ t).length c) (s ++ t))∧Hid (Below w.heap.size w w'):=by
 subst hB
 have hk : Below w.heap.size w (w.alloc (.cells #[.slice a s.length ac,.slice b t.length bc] 22)):=below_alloc _ _
 have hrows : RowsB (w.heap.size + 1) (w.alloc (.cells #[.slice a s.length ac,.slice b t.length bc] 22)) (.slice (some ⟨w.heap.size,0,none⟩) 2 2) [s,t]:=by
  refine ⟨_,_,_,rfl,by simp,by omega,fun i l hi => ?_⟩
  rcases i with _ | _ | i
  ·simp at hi; subst hi
   refine ⟨a,ac,?_,(ha.below (hk.mono hM)).up (by omega)⟩
   rw [World.cell?_alloc_new]; rfl
  ·simp at hi; subst hi
   refine ⟨b,bc,?_,(hb.below (hk.mono hM)).up (by omega)⟩
   rw [World.cell?_alloc_new]; rfl
  ·simp at hi
 have hfl : [s,t].flatten=s ++ t:=by simp
 have:=concatB (w.heap.size + 1) _ [s,t] _ (by simp) hrows (by rw [hfl,List.length_append]; exact hl)
 rw [hfl] at this
 refine this.mono ?_
 rintro e w' ⟨x,c,rfl,h1,h2⟩
 exact ⟨x,c,rfl,⟨_,h1⟩,below_step hk h2⟩

end Go.Proofs.YtfaggdkiffhdbaaGreatDoor
