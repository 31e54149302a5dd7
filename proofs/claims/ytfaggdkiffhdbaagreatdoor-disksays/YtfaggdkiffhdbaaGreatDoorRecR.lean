/- record.read, Parse, by the program. -/
import Derived.Test.YtfaggdkiffhdbaaGreatDoorPart21
import Derived.Test.YtfaggdkiffhdbaaGreatDoorImgNums
import Derived.Test.YtfaggdkiffhdbaaGreatDoorImgMem
import Derived.Deep.RegionHeld3
namespace Go.Proofs.YtfaggdkiffhdbaaGreatDoor
open Go.RowKit Go.Maps

/-- A record of the call's own,or of the caller's: its lists,below block N. -/
def RecIn (N : Nat) (w : World) (sa : Option Addr) (sc : Nat) (ia : Option Addr) (ic : Nat) (r : Rc) : Prop:=NumsL N w sa sc r.says∧NumsL N w ia ic r.img
theorem RecIn.below {N : Nat} {w w' : World} {sa ia : Option Addr} {sc ic : Nat} {r : Rc} (h : RecIn N w sa sc ia ic r) (hb : Below N w w') : RecIn N w' sa sc ia ic r:=⟨h.1.below hb,h.2.below hb⟩
theorem NumsL.up {N M : Nat} {w : World} {a : Option Addr} {c : Nat} {l : List Int} (h : NumsL N w a c l) (hm : N≤M) : NumsL M w a c l:=by
 refine ⟨h.le,h.big,h.nil,fun p hp => ?_,h.fit⟩
 rcases h.one p hp with h0 | ⟨b,o,e,hlt,hc⟩
 ·exact Or.inl h0
 ·exact Or.inr ⟨b,o,e,by omega,hc⟩
theorem RecIn.up {N M : Nat} {w : World} {sa ia : Option Addr} {sc ic : Nat} {r : Rc} (h : RecIn N w sa sc ia ic r) (hm : N≤M) : RecIn M w sa sc ia ic r:=⟨h.1.up hm,h.2.up hm⟩
theorem own_numsL {B : Nat} {w : World} {a : Option Addr} {n c : Nat} {l : List Int} (h : IS B w (.slice a n c) l) (hf : ∀ z ∈ l,i64 z) : NumsL w.heap.size w a c l:=by
 rcases id h.2 with ⟨e,h0⟩ | ⟨g,cap,cur,e,hg,hh,h1,h2,_,ht⟩
 ·injection e with e1 e2 e3
  subst e1 e2 e3
  have : l=[]:=List.eq_nil_of_length_eq_zero h0
  subst this
  exact ⟨Nat.le_refl _,by omega,fun _ => ⟨rfl,rfl⟩,(fun p hp => by cases hp),hf⟩
 ·injection e with e1 e2 e3
  subst e1 e3
  refine ⟨h1,by unfold maxLen at h2; omega,(fun e => by cases e),fun p hp => ?_,hf⟩
  cases hp
  right
  refine ⟨g,0,rfl,(h.lt g rfl).2,fun i z hi => ?_⟩
  have hil:=(List.getElem?_eq_some_iff.1 hi).1
  rw [Nat.zero_add]
  unfold World.cell?
  rw [hh]
  show cur[i]?=_
  rw [← Array.getElem?_toList,← List.getElem?_take_of_lt (i:=i) (j:=l.length * 1) (by omega),ht]
  simp [hi]

/-- slices.Clone of numbers,from the o-th cell of a row on. -/
theorem cloneR (w : World) (g o n c : Nat) (L : List Int) (hc : ∀ j,j < L.length→w.cell? ⟨g,o + j,none⟩=some (.int .i64 (L.getD j 0))) (hn : L.length=n) (hl : n≤100000) :
  Calls Tryz.prog 63 #[.slice (some ⟨g,o,none⟩) n c] w fun e w' => ∃ a cc,e=.returned (.slice a n cc)∧Hid (IS w.heap.size w' (.slice a n cc) L)∧Hid (Below w.heap.size w w'):=by
 refine (Tryz.slices_Clone_int g o n c L w (by omega) (by omega) hc).mono ?_
 rintro e w' ⟨v',rfl,ho,_,hb⟩
 obtain ⟨a,cc,rfl⟩:=own_shape ho
 refine ⟨a,cc,rfl,?_,hb⟩
 rw [List.take_of_length_le (by omega)] at ho
 show World.ownsRow _ _ _ _ _ _ _
 rw [hn]
 exact ho

/-- A slice of numbers,cut. -/
theorem sl_from (g o n c m : Nat) (h1 : m≤n) (w : World) : (Instr.slice 25 (.slice (some ⟨g,o,none⟩) n c) (some (.int .i64 (m : Nat))) none none).run Tryz.prog w=.ok (.slice (some ⟨g,if c=m then o else o + m,none⟩) (n - m) (c - m)) w:=by
 have hs3 : ∀ w : World,(sizeOf 3).run Tryz.prog w=.ok 1 w:=fun w => by kernel_rfl
 simp [Instr.slice,Instr.sliceBounds,Instr.sliceBound,asIntOf,run_underlying Tryz.underlying25,hs3,go_sem]
 rw [if_pos h1]
 by_cases c : c=m
 ·rw [if_pos c,if_pos c]
 ·rw [if_neg c,if_neg c]
theorem sl_to (g o n c m : Nat) (h1 : m≤c) (w : World) : (Instr.slice 25 (.slice (some ⟨g,o,none⟩) n c) none (some (.int .i64 (m : Nat))) none).run Tryz.prog w=.ok (.slice (some ⟨g,o,none⟩) m c) w:=by
 have hs3 : ∀ w : World,(sizeOf 3).run Tryz.prog w=.ok 1 w:=fun w => by kernel_rfl
 simp [Instr.slice,Instr.sliceBounds,Instr.sliceBound,asIntOf,run_underlying Tryz.underlying25,hs3,go_sem]
 intro h; omega

def rcZero : Value:=.agg #[.int .i64 0,.int .i64 0,.int .i64 0,.int .i64 0,.slice none 0 0,.slice none 0 0]
/-- A box of six cells. -/
def Box6 (X : Nat) (w : World) (k c e p : Int) (sv iv : Value) : Prop:=w.heap[X]?=some (.cells #[.int .i64 k,.int .i64 c,.int .i64 e,.int .i64 p,sv,iv] 27 (0,0))
theorem Box6.keep {X : Nat} {w w' : World} {k c e p : Int} {sv iv : Value} (h : Box6 X w k c e p sv iv) (hb : w'.heap[X]?=w.heap[X]?) : Box6 X w' k c e p sv iv:=by unfold Box6 at *; rw [hb]; exact h
theorem Box6.lt {X : Nat} {w : World} {k c e p : Int} {sv iv : Value} (h : Box6 X w k c e p sv iv) : X < w.heap.size:=(Array.getElem?_eq_some_iff.1 h).1
theorem Box6.at {X : Nat} {w : World} {k c e p : Int} {sv iv : Value} (h : Box6 X w k c e p sv iv) : w.cell? ⟨X,0,none⟩=some (.int .i64 k)∧w.cell? ⟨X,1,none⟩=some (.int .i64 c)∧w.cell? ⟨X,2,none⟩=some (.int .i64 e)∧w.cell? ⟨X,3,none⟩=some (.int .i64 p)∧w.cell? ⟨X,4,none⟩=some sv∧w.cell? ⟨X,5,none⟩=some iv∧∀ i,w.frozen? ⟨X,i,none⟩=false:=by
 unfold Box6 at h
 refine ⟨?_,?_,?_,?_,?_,?_,fun i => ?_⟩
 ·unfold World.cell?; rw [h]; rfl
 ·unfold World.cell?; rw [h]; rfl
 ·unfold World.cell?; rw [h]; rfl
 ·unfold World.cell?; rw [h]; rfl
 ·unfold World.cell?; rw [h]; rfl
 ·unfold World.cell?; rw [h]; rfl
 ·unfold World.frozen?; rw [h]; simp
/-- A box that is written whole. -/
theorem box6_put {X : Nat} {w : World} {k c e p : Int} {sv iv : Value} (h : Box6 X w k c e p sv iv) (k' c' e' p' : Int) (sv' iv' : Value) : ∃ W,((((((w.setCell ⟨X,0,none⟩ (.int .i64 k')).setCell ⟨X,1,none⟩ (.int .i64 c')).setCell ⟨X,2,none⟩ (.int .i64 e')).setCell ⟨X,3,none⟩ (.int .i64 p')).setCell ⟨X,4,none⟩ sv').setCell ⟨X,5,none⟩ iv')=W ∧
  W.heap[X]?=some (.cells #[.int .i64 k',.int .i64 c',.int .i64 e',.int .i64 p',sv',iv'] 27 (0,0))∧(∀ N,N≤X→Below N w W)∧∀ t,¬ t=27→Keeps t w W:=by
 unfold Box6 at h
 have h1:=heap_setCell_same w X 0 _ _ (.int .i64 k') h
 have h2:=heap_setCell_same _ X 1 _ _ (.int .i64 c') h1
 have h3:=heap_setCell_same _ X 2 _ _ (.int .i64 e') h2
 have h4:=heap_setCell_same _ X 3 _ _ (.int .i64 p') h3
 have h5:=heap_setCell_same _ X 4 _ _ sv' h4
 refine ⟨_,rfl,heap_setCell_same _ X 5 _ _ iv' h5,fun N hN => ?_,fun t ht => ?_⟩
 ·exact ((((((Below.refl _ _).setCell hN _).setCell hN _).setCell hN _).setCell hN _).setCell hN _).setCell hN _
 ·exact (Keeps.set h _ ht).trans ((Keeps.set h1 _ ht).trans ((Keeps.set h2 _ ht).trans ((Keeps.set h3 _ ht).trans ((Keeps.set h4 _ ht).trans (Keeps.set h5 _ ht)))))

theorem keeps_set6 {t : TypeId} {X : Nat} {w : World} {k c e p : Int} {sv iv : Value} (h : Box6 X w k c e p sv iv) (i : Nat) (v : Value) (ht : ¬ t=27) : Keeps t w (w.setCell ⟨X,i,none⟩ v):=by
 unfold Box6 at h
 exact Keeps.set h v ht
theorem box6_45 {X : Nat} {w : World} {k c e p : Int} {sv iv : Value} (h : Box6 X w k c e p sv iv) (a b : Value) : ∃ W,(w.setCell ⟨X,4,none⟩ a).setCell ⟨X,5,none⟩ b=W∧Box6 X W k c e p a b∧(∀ N,N≤X→Below N w W)∧∀ t,¬ t=27→Keeps t w W:=by
 have h1 : Box6 X (w.setCell ⟨X,4,none⟩ a) k c e p a iv:=by unfold Box6 at *; exact heap_setCell_same w X 4 _ _ a h
 refine ⟨_,rfl,?_,fun N hN => ((Below.refl _ _).setCell hN _).setCell hN _,fun t ht => (keeps_set6 h 4 a ht).trans (keeps_set6 h1 5 b ht)⟩
 unfold Box6 at *
 exact heap_setCell_same _ X 5 _ _ b h1
/-- Results of which the first lies in a box. -/
theorem res_box {P : Program} {fn : Func} {p u : Tmp} {ty : TypeId} (h : fn.results=#[.cell p ty,.tmp u]) (tmps : Array Value) (w : World) (g : Nat) (t : TypeId) (cs : Array Value) (fr : Nat×Nat) (d : TypeDesc)
  (hp : tmps.getD p undef=.pointer (some ⟨g,0,none⟩)) (hg : w.heap[g]?=some (.cells cs t fr))
  (hu : P.underlying ty=some d) (hd : (match d with | .struct _ | .array _ _ => true | _ => false)=true) (hi : (P.info? ty).map (·.size)=some cs.size) :
  (results fn tmps).run P w=.ok (.tuple #[.agg cs,tmps.getD u undef]) w:=by
 have hp' : tmps[p]?.getD undef=.pointer (some ⟨g,0,none⟩):=by simpa using hp
 simp [results,h,hp',asAddr,run_loadVar_row w g t ty cs fr d hg hu hd hi]

/-- A record whose lists are the call's own. -/
def RecOwn (w : World) (sa : Option Addr) (sc : Nat) (ia : Option Addr) (ic : Nat) (r : Rc) : Prop:=(∃ D,IS D w (.slice sa r.says.length sc) r.says)∧(∃ D,IS D w (.slice ia r.img.length ic) r.img)∧recI64 r
theorem RecOwn.keep {w w' : World} {sa ia : Option Addr} {sc ic : Nat} {r : Rc} (h : RecOwn w sa sc ia ic r) (k : Keeps 3 w w') : RecOwn w' sa sc ia ic r:=⟨let ⟨D,h⟩:=h.1; ⟨D,own_keep h k⟩,let ⟨D,h⟩:=h.2.1; ⟨D,own_keep h k⟩,h.2.2⟩
theorem RecOwn.below {w w' : World} {sa ia : Option Addr} {sc ic : Nat} {r : Rc} (h : RecOwn w sa sc ia ic r) (hb : Below w.heap.size w w') : RecOwn w' sa sc ia ic r:=h.keep (Keeps.of hb)
theorem RecOwn.rec {w : World} {sa ia : Option Addr} {sc ic : Nat} {r : Rc} (h : RecOwn w sa sc ia ic r) : RecIn w.heap.size w sa sc ia ic r:=⟨let ⟨_,h1⟩:=h.1; own_numsL h1 h.2.2.1,let ⟨_,h1⟩:=h.2.1; own_numsL h1 h.2.2.2⟩

/-- What is handed back: a record,and a number or a Bool. -/
def RecK (w : World) (r : Rc) (u : Value) (e : Ending) (w' : World) : Prop :=
 ∃ sa sc ia ic,e=.returned (.tuple #[.agg #[.int .i64 r.kind,.int .i64 r.co,.int .i64 r.ep,.int .i64 r.pl,.slice sa r.says.length sc,.slice ia r.img.length ic],u])∧Hid (RecOwn w' sa sc ia ic r)∧Hid (Below w.heap.size w w')
theorem RecK.nothing {w w' : World} {u : Value} (hb : Below w.heap.size w w') : RecK w rc0 u (.returned (.tuple #[.agg #[.int .i64 0,.int .i64 0,.int .i64 0,.int .i64 0,.slice none 0 0,.slice none 0 0],u])) w' :=
 ⟨none,0,none,0,rfl,⟨⟨0,IS.nil 0 w'⟩,⟨0,IS.nil 0 w'⟩,(fun z hz => by cases hz),(fun z hz => by cases hz)⟩,hb⟩

theorem getD_at {l : List Int} {j : Nat} (h : j < l.length) : l[j]?=some (l.getD j 0):=by rw [List.getD_eq_getElem?_getD,List.getElem?_eq_getElem h]; rfl

/-- What read answers. -/
def readR (z : List Int) : Rc:=(recOf z).getD rc0
def readB (z : List Int) : Bool:=(recOf z).isSome

set_option maxRecDepth 20000 in
set_option maxHeartbeats 8000000 in
theorem recReadC (v : Value) (B : Nat) (z : List Int) (w : World) (hv : IS B w v z) (hz : z.length≤100001) (hf : ∀ x ∈ z,i64 x) :
  Calls Tryz.prog 46 #[v] w (RecK w (readR z) (.bool (readB z))):=by
 have hat:=hv.at
 obtain ⟨a,c,rfl,hcell⟩:=hat
 have hcap : z.length≤c:=by
  rcases id hv.2 with ⟨e,h0⟩ | ⟨g,cap,cur,e,_,_,h1,_⟩
  ·injection e with _ _ e3; omega
  ·injection e with _ _ e3; omega
 obtain ⟨W,hW,HB,hsz,y0,y1,y2,y3,y4,y5⟩:=rbox w 0 0 0 0 (.slice none 0 0) (.slice none 0 0)
 have HY : Hid (Box6 w.heap.size W 0 0 0 0 (.slice none 0 0) (.slice none 0 0)):=by
  show Box6 _ _ _ _ _ _ _ _
  unfold Box6
  rw [← hW]; exact heap_alloc_new w _
 have HB0 : Hid (Below w.heap.size w W):=HB
 have HNo : Hid (recOf z=none→readR z=rc0∧readB z=false):=fun h => by unfold readR readB; rw [h]; exact ⟨rfl,rfl⟩
 have HZero : Hid (∀ wk,Below W.heap.size W wk→(∃ W6,((((((wk.setCell ⟨w.heap.size,0,none⟩ (.int .i64 0)).setCell ⟨w.heap.size,1,none⟩ (.int .i64 0)).setCell ⟨w.heap.size,2,none⟩ (.int .i64 0)).setCell ⟨w.heap.size,3,none⟩ (.int .i64 0)).setCell ⟨w.heap.size,4,none⟩ (.slice none 0 0)).setCell ⟨w.heap.size,5,none⟩ (.slice none 0 0))=W6 ∧
   W6.heap[w.heap.size]?=some (.cells #[.int .i64 0,.int .i64 0,.int .i64 0,.int .i64 0,.slice none 0 0,.slice none 0 0] 27 (0,0))∧Below w.heap.size w W6)∧(wk.cell? ⟨w.heap.size,0,none⟩=some (.int .i64 0)∧wk.cell? ⟨w.heap.size,1,none⟩=some (.int .i64 0)∧wk.cell? ⟨w.heap.size,2,none⟩=some (.int .i64 0)∧wk.cell? ⟨w.heap.size,3,none⟩=some (.int .i64 0)∧wk.cell? ⟨w.heap.size,4,none⟩=some (.slice none 0 0)∧wk.cell? ⟨w.heap.size,5,none⟩=some (.slice none 0 0)) ∧
   wk.frozen? ⟨w.heap.size,0,none⟩=false∧wk.frozen? ⟨w.heap.size,1,none⟩=false∧wk.frozen? ⟨w.heap.size,2,none⟩=false∧wk.frozen? ⟨w.heap.size,3,none⟩=false∧wk.frozen? ⟨w.heap.size,4,none⟩=false∧wk.frozen? ⟨w.heap.size,5,none⟩=false):=fun wk hk => by
  have hb:=HY.out.keep (hk.block w.heap.size HY.out.lt)
  obtain ⟨W6,hW6,HF6,hb6,_⟩:=box6_put hb 0 0 0 0 (.slice none 0 0) (.slice none 0 0)
  obtain ⟨q0,q1,q2,q3,q4,q5,q6⟩:=hb.at
  exact ⟨⟨W6,hW6,HF6,(HB0.out.trans (hk.mono (by omega))).trans (hb6 _ (Nat.le_refl _))⟩,⟨q0,q1,q2,q3,q4,q5⟩,q6 0,q6 1,q6 2,q6 3,q6 4,q6 5⟩
 obtain ⟨n,hn⟩ : ∃ n,z.length=n:=⟨_,rfl⟩
 have HN : Hid (z.length=n):=hn
 have HNz : Hid (n≤100001):=by show n≤_; omega
 by_cases h5 : n < 5
 ·have h5i : (n : Int) < 5:=by omega
  have HE:=HNo.out (by unfold recOf; rw [if_pos (by omega)])
  rw [HE.1,HE.2,hn]
  obtain ⟨⟨W6,hW6,HF6,HB6⟩,_,f0,f1,f2,f3,f4,f5⟩:=HZero.out W (Below.refl _ _)
  have HF6:=(show Hid _ from HF6)
  have HB6:=(show Hid _ from HB6)
  clear hn hz hv hcell HE hcap
  go_enter Tryz.func46,Tryz.ntmps46
  go_upto_region 1 with (fail)
  try rw [hW]
  go_wp2_with (fail)
  try rw [hW6]
  refine bodyPost_ret (res_box rfl _ _ w.heap.size 27 _ (0,0) _ rfl HF6.out Tryz.underlying27 rfl (by kernel_rfl)) rfl ?_
  exact RecK.nothing HB6.out
 obtain ⟨g,rfl,hgB,hgw,hcg⟩ : ∃ g,a=some ⟨g,0,none⟩∧B≤g∧g < w.heap.size∧∀ i x,z[i]?=some x→w.cell? ⟨g,i,none⟩=some (.int .i64 x):=by
  rcases hcell with h | h
  ·rw [h] at hn; simp at hn; omega
  ·exact h
 have HCg : Hid (∀ wk,Below w.heap.size w wk→∀ i x,z[i]?=some x→wk.cell? ⟨g,i,none⟩=some (.int .i64 x)):=fun wk hk i x hi => (hk.cell (p:=⟨g,i,none⟩) hgw).trans (hcg i x hi)
 have h5i : ¬ (n : Int) < 5:=by omega
 have h4i : (4 : Int) < (n : Int):=by omega
 obtain ⟨sd,hsd⟩ : ∃ sd,z.getD 4 0=sd:=⟨_,rfl⟩
 have hz4 : z[4]?=some sd:=by rw [← hsd]; simp [show 4 < z.length by omega]
 have q4:=HCg.out W HB 4 sd hz4
 have hsl5 : ∀ wk,(Instr.slice 25 (.slice (some ⟨g,0,none⟩) n c) (some (.int .i64 5)) none none).run Tryz.prog wk=.ok (.slice (some ⟨g,if c=5 then 0 else 5,none⟩) (n - 5) (c - 5)) wk:=fun wk => by
  have:=sl_from g 0 n c 5 (by omega) wk
  simpa using this
 have HSd : Hid (z.getD 4 0=sd):=hsd
 have hcn : n≤c:=by omega
 clear hsd hz4 hcell hcg y0 y1 y2 y3 y4 y5
 obtain ⟨o5,ho5⟩ : ∃ o5,(if c=5 then 0 else 5)=o5:=⟨_,rfl⟩
 have HO5 : Hid ((if c=5 then 0 else 5)=o5):=ho5
 simp only [ho5] at hsl5
 obtain ⟨m,hm⟩ : ∃ m,n - 5=m:=⟨_,rfl⟩
 have HM : Hid (n - 5=m):=hm
 rw [hm] at hsl5
 rw [hn]
 clear ho5 hm
 have HW5 : ∀ wk,Calls Tryz.prog 41 #[.int .i64 sd,.int .i64 m] wk fun e w' => e=.returned (.bool (wthn sd m))∧w'=wk:=recWithin sd m
 go_enter Tryz.func46,Tryz.ntmps46
 go_upto_region 1 with (fail)
 try rw [hW]
 go_upto_region 3 with (fail)
 go_quiet (fail)
 obtain ⟨W1,hW1⟩ : ∃ W1,W.drewN nq=W1:=⟨_,rfl⟩
 rw [hW1]
 have HB1 : Hid (Below W.heap.size W W1):=hW1 ▸ below_drewN' _ _
 clear hW1 hsl5 q4 hW hsz HB
 have hlen : (z.drop 5).length=m:=by rw [List.length_drop,HN.out]; exact HM.out
 by_cases hw : wthn sd m=false
 ·have HE:=HNo.out (by unfold recOf; rw [if_neg (by have:=HN.out; omega),HSd.out,hlen,if_pos hw])
  have HE1 : Hid (readR z=rc0∧readB z=false):=HE
  obtain ⟨⟨W6,hW6,HF6,HB6⟩,_,f0,f1,f2,f3,f4,f5⟩:=HZero.out W1 HB1.out
  have HF6:=(show Hid _ from HF6)
  have HB6:=(show Hid _ from HB6)
  clear HE hlen hv hz hf
  go_wp2_with (go_at_call 41; refine (HW5 _).mono ?_; rintro e wq ⟨rfl,hwq⟩; rw [hwq]; clear hwq)
  try rw [hW6]
  refine bodyPost_ret (res_box rfl _ _ w.heap.size 27 _ (0,0) _ rfl HF6.out Tryz.underlying27 rfl (by kernel_rfl)) rfl ?_
  rw [HE1.out.1,HE1.out.2]
  exact RecK.nothing HB6.out
 have hw : wthn sd m=true:=by simpa using hw
 have hw2 : 0≤sd∧sd≤(m : Int):=by unfold wthn at hw; simpa using hw
 obtain ⟨s,rfl⟩ : ∃ s : Nat,sd=s:=⟨sd.toNat,by omega⟩
 have hsm : s≤m:=by omega
 have HYes : Hid (readR z=⟨z.getD 0 0,z.getD 1 0,z.getD 2 0,z.getD 3 0,(z.drop 5).take s,(z.drop 5).drop s⟩∧readB z=true):=by
  have e : recOf z=some ⟨z.getD 0 0,z.getD 1 0,z.getD 2 0,z.getD 3 0,(z.drop 5).take s,(z.drop 5).drop s⟩:=by
   unfold recOf
   rw [if_neg (by have:=HN.out; omega),HSd.out,hlen,if_neg (by simp [hw])]
   simp
  unfold readR readB
  rw [e]
  exact ⟨rfl,rfl⟩
 have HFt : Hid ((∀ x ∈ (z.drop 5).take s,i64 x)∧∀ x ∈ (z.drop 5).drop s,i64 x):=⟨fun x hx => hf x (List.mem_of_mem_drop (List.mem_of_mem_take hx)),fun x hx => hf x (List.mem_of_mem_drop (List.mem_of_mem_drop hx))⟩
 have HRest : Hid (∀ wk,Below w.heap.size w wk→∀ j x,(z.drop 5)[j]?=some x→wk.cell? ⟨g,o5 + j,none⟩=some (.int .i64 x)):=fun wk hk j x hj => by
  have hj1:=(List.getElem?_eq_some_iff.1 hj).1
  rw [List.getElem?_drop] at hj
  have hc5 : ¬ c=5:=by rw [List.length_drop] at hj1; have:=HN.out; omega
  rw [← HO5.out,if_neg hc5]
  exact HCg.out wk hk (5 + j) x hj
 have HLd : Hid ((z.drop 5).length=m):=hlen
 have HBw : Hid (Below w.heap.size w W1):=HB0.out.trans (HB1.out.mono HB0.out.size)
 obtain ⟨z0,hz0⟩ : ∃ x,z[0]?=some x:=⟨z[0]'(by have:=HN.out; omega),by simp⟩
 obtain ⟨z1,hz1⟩ : ∃ x,z[1]?=some x:=⟨z[1]'(by have:=HN.out; omega),by simp⟩
 obtain ⟨z2,hz2⟩ : ∃ x,z[2]?=some x:=⟨z[2]'(by have:=HN.out; omega),by simp⟩
 obtain ⟨z3,hz3⟩ : ∃ x,z[3]?=some x:=⟨z[3]'(by have:=HN.out; omega),by simp⟩
 have HZs : Hid (z.getD 0 0=z0∧z.getD 1 0=z1∧z.getD 2 0=z2∧z.getD 3 0=z3):=by
  refine ⟨?_,?_,?_,?_⟩
  ·rw [List.getD_eq_getElem?_getD,hz0]; rfl
  ·rw [List.getD_eq_getElem?_getD,hz1]; rfl
  ·rw [List.getD_eq_getElem?_getD,hz2]; rfl
  ·rw [List.getD_eq_getElem?_getD,hz3]; rfl
 have q0:=HCg.out W1 HBw.out 0 z0 hz0
 have q1:=HCg.out W1 HBw.out 1 z1 hz1
 have q2:=HCg.out W1 HBw.out 2 z2 hz2
 have q3:=HCg.out W1 HBw.out 3 z3 hz3
 have r0 : ∀ o : Obj,(W1.alloc o).cell? ⟨g,0,none⟩=some (.int .i64 z0):=fun o => at_below (below_alloc W1 o) q0
 have r1 : ∀ o : Obj,(W1.alloc o).cell? ⟨g,1,none⟩=some (.int .i64 z1):=fun o => at_below (below_alloc W1 o) q1
 have r2 : ∀ o : Obj,(W1.alloc o).cell? ⟨g,2,none⟩=some (.int .i64 z2):=fun o => at_below (below_alloc W1 o) q2
 have r3 : ∀ o : Obj,(W1.alloc o).cell? ⟨g,3,none⟩=some (.int .i64 z3):=fun o => at_below (below_alloc W1 o) q3
 have h0i : (0 : Int) < (n : Int):=by omega
 have h1i : (1 : Int) < (n : Int):=by omega
 have h2i : (2 : Int) < (n : Int):=by omega
 have h3i : (3 : Int) < (n : Int):=by omega
 clear hz0 hz1 hz2 hz3 hv hz hf hlen hw2
 go_upto_region 6 with (go_at_call 41; refine (HW5 _).mono ?_; rintro e wq ⟨rfl,hwq⟩; rw [hwq]; clear hwq)
 go_region
 all_goals
  clear q0 q1 q2 q3 r0 r1 r2 r3
  obtain ⟨X,hX⟩ : ∃ X,W1.heap.size=X:=⟨_,rfl⟩
  obtain ⟨W2,hW2⟩ : ∃ W2,(W1.alloc (.cells #[.int .i64 z0,.int .i64 z1,.int .i64 z2,.int .i64 z3,.slice none 0 0,.slice none 0 0] 27)).drew=W2:=⟨_,rfl⟩
  try rw [hW2]
  have HBx : Hid (Box6 X W2 z0 z1 z2 z3 (.slice none 0 0) (.slice none 0 0)):=by
   show Box6 _ _ _ _ _ _ _ _
   unfold Box6
   rw [← hW2,← hX]; exact heap_alloc_new W1 _
  have HB12 : Hid (Below W1.heap.size W1 W2):=hW2 ▸ (below_alloc W1 _).drew
  have HXw : Hid (w.heap.size < X):=by show _ < _; rw [← hX]; have:=HB1.out.size; have:=HY.out.lt; omega
  rw [hX]
  have HB2w : Hid (Below w.heap.size w W2):=HBw.out.trans (HB12.out.mono HBw.out.size)
  have HBW2 : Hid (Below W.heap.size W W2):=below_step HB1.out HB12.out
  clear hW2 hX
  have hs1 : ∀ wk,(Instr.slice 25 (.slice (some ⟨g,o5,none⟩) m (c - 5)) none (some (.int .i64 (s : Nat))) none).run Tryz.prog wk=.ok (.slice (some ⟨g,o5,none⟩) s (c - 5)) wk:=sl_to g o5 m (c - 5) s (by have:=HM.out; omega)
  have hs2 : ∀ wk,(Instr.slice 25 (.slice (some ⟨g,o5,none⟩) m (c - 5)) (some (.int .i64 (s : Nat))) none none).run Tryz.prog wk=.ok (.slice (some ⟨g,if c - 5=s then o5 else o5 + s,none⟩) (m - s) (c - 5 - s)) wk:=sl_from g o5 m (c - 5) s hsm
  have HO6 : Hid (∀ wk,Below w.heap.size w wk→∀ j x,((z.drop 5).drop s)[j]?=some x→wk.cell? ⟨g,(if c - 5=s then o5 else o5 + s) + j,none⟩=some (.int .i64 x)):=fun wk hk j x hj => by
   have hj1:=(List.getElem?_eq_some_iff.1 hj).1
   rw [List.getElem?_drop] at hj
   have hc5 : ¬ c - 5=s:=by rw [List.length_drop] at hj1; have:=HLd.out; have:=HM.out; omega
   rw [if_neg hc5,Nat.add_assoc]
   exact HRest.out wk hk (s + j) x hj
  generalize (if c - 5=s then o5 else o5 + s)=o6 at *
  have HC1 : Hid (∀ wk,Below w.heap.size w wk→Calls Tryz.prog 63 #[.slice (some ⟨g,o5,none⟩) s (c - 5)] wk fun e w' => ∃ a cc,e=.returned (.slice a s cc)∧Hid (IS wk.heap.size w' (.slice a s cc) ((z.drop 5).take s))∧Hid (Below wk.heap.size wk w')):=fun wk hk => by
   have hl : ((z.drop 5).take s).length=s:=by rw [List.length_take,HLd.out]; omega
   refine cloneR wk g o5 s _ _ (fun j hj => ?_) hl (by have:=HM.out; have:=HNz.out; omega)
   refine HRest.out wk hk j _ ?_
   have : j < s:=by omega
   rw [← List.getElem?_take_of_lt this]
   exact getD_at hj
  have HC2 : Hid (∀ wk,Below w.heap.size w wk→Calls Tryz.prog 63 #[.slice (some ⟨g,o6,none⟩) (m - s : Nat) (c - 5 - s)] wk fun e w' => ∃ a cc,e=.returned (.slice a (m - s : Nat) cc)∧Hid (IS wk.heap.size w' (.slice a (m - s : Nat) cc) ((z.drop 5).drop s))∧Hid (Below wk.heap.size wk w')):=fun wk hk => by
   have hl : ((z.drop 5).drop s).length=m - s:=by rw [List.length_drop,HLd.out]
   refine cloneR wk g o6 (m - s) _ _ (fun j hj => ?_) hl (by have:=HM.out; have:=HNz.out; omega)
   exact HO6.out wk hk j _ (getD_at hj)
  obtain ⟨n2,hn2⟩ : ∃ n2,m - s=n2:=⟨_,rfl⟩
  have HN2 : Hid (m - s=n2):=hn2
  rw [hn2] at hs2 HC2
  clear hn2
  go_upto_region 7 with (fail)
  go_region_law (go_simp; go_wp2_with (first
   | (go_at_call 63; refine (HC2.out w3 (HB2w.out.trans (HB3.out.mono HB2w.out.size))).mono ?_; rintro e w4 ⟨a4,c4,rfl,HI4,HB4⟩; have HB34 : Hid (Below W2.heap.size W2 w4):=below_step HB3.out HB4.out; have hbx4:=HBx.out.keep (HB34.out.block X HBx.out.lt); obtain ⟨x0,x1,x2,x3,x4,x5,xf⟩:=hbx4.at; have xf4:=xf 4; have xf5:=xf 5)
   | (go_at_call 63; refine (HC1.out W2.drew HB2w.out.drew).mono ?_; rintro e w3 ⟨a3,c3,rfl,HI3,HB3'⟩; have HB3 : Hid (Below W2.heap.size W2 w3):=below_step (Below.refl W2.heap.size W2).drew HB3'.out)))
  all_goals
   obtain ⟨W5,hW5,hbx5,hb5,hk5⟩:=box6_45 hbx4 (.slice a3 s c3) (.slice a4 n2 c4)
   try rw [hW5]
   have HI3a : Hid (IS W2.heap.size w4 (.slice a3 s c3) ((z.drop 5).take s)):=HI3.out.keep HB4.out
   have HS5 : Hid (IS W2.heap.size W5 (.slice a3 s c3) ((z.drop 5).take s)):=own_keep HI3a.out (hk5 3 (by decide))
   have HI5 : Hid (IS w3.heap.size W5 (.slice a4 n2 c4) ((z.drop 5).drop s)):=own_keep HI4.out (hk5 3 (by decide))
   have HB45 : Hid (Below w.heap.size w4 W5):=hb5 _ (Nat.le_of_lt HXw.out)
   have HBw4 : Hid (Below w.heap.size w w4):=HB2w.out.trans (HB34.out.mono HB2w.out.size)
   have HY5 : Hid (Box6 w.heap.size W5 0 0 0 0 (.slice none 0 0) (.slice none 0 0)):=by
    have e1 : w4.heap[w.heap.size]?=W.heap[w.heap.size]?:=(HB34.out.block _ (by have:=HBW2.out.size; have:=HY.out.lt; omega)).trans (HBW2.out.block _ HY.out.lt)
    have e2 : W5.heap[w.heap.size]?=w4.heap[w.heap.size]?:=by
     rw [← hW5,Below.heap_setCell _ ⟨X,5,none⟩ _ w.heap.size (by show ¬ w.heap.size=X; have:=HXw.out; omega),Below.heap_setCell _ ⟨X,4,none⟩ _ w.heap.size (by show ¬ w.heap.size=X; have:=HXw.out; omega)]
    exact HY.out.keep (e2.trans e1)
   obtain ⟨u0,u1,u2,u3,u4,u5,_⟩:=hbx5.at
   obtain ⟨y0,y1,y2,y3,y4,y5,yf⟩:=HY5.out.at
   have yf0:=yf 0
   have yf1:=yf 1
   have yf2:=yf 2
   have yf3:=yf 3
   have yf4:=yf 4
   have yf5:=yf 5
   obtain ⟨W6,hW6,HF6,hb6,hk6⟩:=box6_put HY5.out z0 z1 z2 z3 (.slice a3 s c3) (.slice a4 n2 c4)
   have HF6:=(show Hid _ from HF6)
   have HS6 : Hid (IS W2.heap.size W6 (.slice a3 s c3) ((z.drop 5).take s)):=own_keep HS5.out (hk6 3 (by decide))
   have HI6 : Hid (IS w3.heap.size W6 (.slice a4 n2 c4) ((z.drop 5).drop s)):=own_keep HI5.out (hk6 3 (by decide))
   have HB6 : Hid (Below w.heap.size w W6):=(HBw4.out.trans HB45.out).trans (hb6 _ (Nat.le_refl _))
   clear hW5 hbx5 hb5 hk5 hb6 hk6 yf xf x0 x1 x2 x3 x4 x5 xf4 xf5 hbx4 hs1 hs2
   go_wp2_with (fail)
   try rw [hW6]
   refine bodyPost_ret (res_box rfl _ _ w.heap.size 27 _ (0,0) _ rfl HF6.out Tryz.underlying27 rfl (by kernel_rfl)) rfl ?_
   rw [HYes.out.1,HYes.out.2,HZs.out.1,HZs.out.2.1,HZs.out.2.2.1,HZs.out.2.2.2]
   have l1 : ((z.drop 5).take s).length=s:=by rw [List.length_take,HLd.out]; omega
   have l2 : ((z.drop 5).drop s).length=n2:=by rw [List.length_drop,HLd.out]; exact HN2.out
   refine ⟨a3,c3,a4,c4,?_,⟨⟨_,(show IS _ _ (.slice a3 ((z.drop 5).take s).length c3) _ by rw [l1]; exact HS6.out)⟩,⟨_,(show IS _ _ (.slice a4 ((z.drop 5).drop s).length c4) _ by rw [l2]; exact HI6.out)⟩,HFt.out⟩,HB6⟩
   show _=Ending.returned (.tuple #[.agg #[.int .i64 z0,.int .i64 z1,.int .i64 z2,.int .i64 z3,.slice a3 ((z.drop 5).take s).length c3,.slice a4 ((z.drop 5).drop s).length c4],.bool true])
   rw [l1,l2]
   rfl

theorem numsOf_i64 (l : List UInt8) : ∀ x ∈ numsOf l,i64 x:=by
 intro x hx
 unfold numsOf at hx
 split at hx
 ·rename_i ha
  obtain ⟨p,hp,rfl⟩:=List.mem_map.1 hx
  have hok:=List.all_eq_true.1 ha p hp
  unfold numOK at hok
  unfold atoiV
  cases h : Lib.atoiAll p with
  | ok v => exact Lib.atoiAll_bounds h
  | «syntax» => rw [h] at hok; cases hok
  | range => rw [h] at hok; cases hok
 ·cases hx

theorem numsOf_len (s : ByteArray) : (numsOf s.data.toList).length≤s.size + 1:=by
 unfold numsOf
 split
 ·rw [List.length_map]
  have:=splitC_many 32 s.data.toList
  simpa using this
 ·simp

set_option maxRecDepth 20000 in
set_option maxHeartbeats 4000000 in
theorem recParseC (N : Nat) (s : ByteArray) (w : World) (hN : N≤w.heap.size) (he : NEnv N w) :
  Calls Tryz.prog 33 #[.string s] w (RecK w (recSays s.data.toList).2 (.int .i64 (recSays s.data.toList).1)):=by
 obtain ⟨W,hW,HB,hsz,y0,y1,y2,y3,y4,y5⟩:=rbox w 0 0 0 0 (.slice none 0 0) (.slice none 0 0)
 have HY : Hid (Box6 w.heap.size W 0 0 0 0 (.slice none 0 0) (.slice none 0 0)):=by
  show Box6 _ _ _ _ _ _ _ _
  unfold Box6
  rw [← hW]; exact heap_alloc_new w _
 have HB0 : Hid (Below w.heap.size w W):=HB
 have HYk : Hid (∀ wk,Below W.heap.size W wk→Box6 w.heap.size wk 0 0 0 0 (.slice none 0 0) (.slice none 0 0)∧Below w.heap.size w wk):=fun wk hk => ⟨HY.out.keep (hk.block w.heap.size HY.out.lt),HB0.out.trans (hk.mono (by omega))⟩
 have hss : s.data.toList.length=s.size:=by simp
 by_cases hl : 60000 < s.size
 ·have HE : Hid (recSays s.data.toList=(2,rc0)):=by show _=_; unfold recSays; rw [if_pos (by omega)]
  rw [HE.out]
  have hli : (60000 : Int) < (s.size : Int):=by omega
  obtain ⟨q0,q1,q2,q3,q4,q5,qf⟩:=HY.out.at
  have f0:=qf 0
  have f1:=qf 1
  have f2:=qf 2
  have f3:=qf 3
  have f4:=qf 4
  have f5:=qf 5
  obtain ⟨W6,hW6,HF6,hb6,_⟩:=box6_put HY.out 0 0 0 0 (.slice none 0 0) (.slice none 0 0)
  have HF6:=(show Hid _ from HF6)
  have HB6 : Hid (Below w.heap.size w W6):=HB0.out.trans (hb6 _ (Nat.le_refl _))
  clear qf hb6 hss hl
  go_enter Tryz.func33,Tryz.ntmps33
  go_upto_region 1 with (fail)
  try rw [hW]
  go_wp2_with (fail)
  try rw [hW6]
  refine bodyPost_ret (res_box rfl _ _ w.heap.size 27 _ (0,0) _ rfl HF6.out Tryz.underlying27 rfl (by kernel_rfl)) rfl ?_
  exact RecK.nothing HB6.out
 have hli : ¬ (60000 : Int) < (s.size : Int):=by omega
 have HNums : Hid (Calls Tryz.prog 47 #[.string s] W fun e w' => ∃ v,e=.returned v∧Hid (IS W.heap.size w' v (numsOf s.data.toList))∧Hid (Below W.heap.size W w')):=numbersOf N s (by omega) W (Nat.le_trans hN HB.size) (he.below (HB.mono hN))
 have hlen : (numsOf s.data.toList).length≤100001:=Nat.le_trans (numsOf_len s) (by omega)
 have HRd : Hid (∀ v (D : Nat) wk,IS D wk v (numsOf s.data.toList)→Calls Tryz.prog 46 #[v] wk (RecK wk (readR (numsOf s.data.toList)) (.bool (readB (numsOf s.data.toList))))):=fun v D wk h => recReadC v D _ wk h hlen (numsOf_i64 _)
 have HSays : Hid (recSays s.data.toList=if readB (numsOf s.data.toList)=false then (1,rc0) else if recErr (readR (numsOf s.data.toList))=0 then (0,readR (numsOf s.data.toList)) else (recErr (readR (numsOf s.data.toList)),rc0)):=by
  show _=_
  unfold recSays readB readR
  rw [if_neg (by omega)]
  cases recOf (numsOf s.data.toList) with
  | none => rfl
  | some r => rfl
 generalize recSays s.data.toList=rs at *
 generalize readB (numsOf s.data.toList)=rb at *
 generalize readR (numsOf s.data.toList)=r at *
 have HCk : Hid (∀ sa sc ia ic wk,Calls Tryz.prog 28 #[.agg #[.int .i64 r.kind,.int .i64 r.co,.int .i64 r.ep,.int .i64 r.pl,.slice sa r.says.length sc,.slice ia r.img.length ic]] wk fun e w' => e=.returned (.int .i64 (recErr r))∧Below wk.heap.size wk w'):=fun sa sc ia ic wk => recCheckC r sc ic sa ia wk
 clear hlen hss hl he hN HB y0 y1 y2 y3 y4 y5
 go_enter Tryz.func33,Tryz.ntmps33
 go_upto_region 1 with (fail)
 try rw [hW]
 go_upto_region 4 with (first
  | (go_at_call 47; refine HNums.out.mono ?_; rintro e w1 ⟨v1,rfl,HI1,HB1⟩)
  | (go_at_call 46; refine (HRd.out _ _ _ HI1.out).mono ?_; rintro e w2 ⟨sa,sc,ia,ic,rfl,HR2,HB2⟩))
 obtain ⟨W3,hW3,hb3,_,x0,x1,x2,x3,x4,x5⟩:=rbox w2 r.kind r.co r.ep r.pl (.slice sa r.says.length sc) (.slice ia r.img.length ic)
 try rw [hW3]
 have HB23 : Hid (Below w2.heap.size w2 W3):=hb3
 have HBW3 : Hid (Below W.heap.size W W3):=below_step HB1.out (below_step HB2.out hb3)
 have HR3 : Hid (RecOwn W3 sa sc ia ic r):=HR2.out.below hb3
 have HX : Hid (∀ wk,Below W3.heap.size W3 wk→wk.cell? ⟨w2.heap.size,0,none⟩=some (.int .i64 r.kind)∧wk.cell? ⟨w2.heap.size,1,none⟩=some (.int .i64 r.co)∧wk.cell? ⟨w2.heap.size,2,none⟩=some (.int .i64 r.ep)∧wk.cell? ⟨w2.heap.size,3,none⟩=some (.int .i64 r.pl)∧wk.cell? ⟨w2.heap.size,4,none⟩=some (.slice sa r.says.length sc)∧wk.cell? ⟨w2.heap.size,5,none⟩=some (.slice ia r.img.length ic)):=fun wk hk => ⟨at_below hk x0,at_below hk x1,at_below hk x2,at_below hk x3,at_below hk x4,at_below hk x5⟩
 have HZ : Hid (∀ wk,Below W3.heap.size W3 wk→(wk.cell? ⟨w.heap.size,0,none⟩=some (.int .i64 0)∧wk.cell? ⟨w.heap.size,1,none⟩=some (.int .i64 0)∧wk.cell? ⟨w.heap.size,2,none⟩=some (.int .i64 0)∧wk.cell? ⟨w.heap.size,3,none⟩=some (.int .i64 0)∧wk.cell? ⟨w.heap.size,4,none⟩=some (.slice none 0 0)∧wk.cell? ⟨w.heap.size,5,none⟩=some (.slice none 0 0)) ∧
   wk.frozen? ⟨w.heap.size,0,none⟩=false∧wk.frozen? ⟨w.heap.size,1,none⟩=false∧wk.frozen? ⟨w.heap.size,2,none⟩=false∧wk.frozen? ⟨w.heap.size,3,none⟩=false∧wk.frozen? ⟨w.heap.size,4,none⟩=false∧wk.frozen? ⟨w.heap.size,5,none⟩=false):=fun wk hk => by
  obtain ⟨q0,q1,q2,q3,q4,q5,q6⟩:=(HYk.out wk (below_step HBW3.out hk)).1.at
  exact ⟨⟨q0,q1,q2,q3,q4,q5⟩,q6 0,q6 1,q6 2,q6 3,q6 4,q6 5⟩
 have HPut : Hid (∀ wk (k c e p : Int) (sv iv : Value),Below W3.heap.size W3 wk→∃ W6,((((((wk.setCell ⟨w.heap.size,0,none⟩ (.int .i64 k)).setCell ⟨w.heap.size,1,none⟩ (.int .i64 c)).setCell ⟨w.heap.size,2,none⟩ (.int .i64 e)).setCell ⟨w.heap.size,3,none⟩ (.int .i64 p)).setCell ⟨w.heap.size,4,none⟩ sv).setCell ⟨w.heap.size,5,none⟩ iv)=W6 ∧
   W6.heap[w.heap.size]?=some (.cells #[.int .i64 k,.int .i64 c,.int .i64 e,.int .i64 p,sv,iv] 27 (0,0))∧Below w.heap.size w W6∧∀ t,¬ t=27→Keeps t wk W6):=fun wk k c e p sv iv hk => by
  obtain ⟨hy,hbw⟩:=HYk.out wk (below_step HBW3.out hk)
  obtain ⟨W6,h1,h2,h3,h4⟩:=box6_put hy k c e p sv iv
  exact ⟨W6,h1,h2,hbw.trans (h3 _ (Nat.le_refl _)),h4⟩
 clear hW3 hb3 hW hsz HI1 HR2 HNums HRd
 cases rb with
 | false =>
  obtain ⟨⟨y0,y1,y2,y3,y4,y5⟩,f0,f1,f2,f3,f4,f5⟩:=HZ.out W3 (Below.refl _ _)
  obtain ⟨W6,hW6,HF6,HB6,_⟩:=HPut.out W3 0 0 0 0 (.slice none 0 0) (.slice none 0 0) (Below.refl _ _)
  have HF6:=(show Hid _ from HF6)
  have HB6:=(show Hid _ from HB6)
  have HSays2 : Hid (rs=(1,rc0)):=by show _=_; rw [HSays.out]; rfl
  clear HSays
  go_wp2_with (fail)
  try rw [hW6]
  refine bodyPost_ret (res_box rfl _ _ w.heap.size 27 _ (0,0) _ rfl HF6.out Tryz.underlying27 rfl (by kernel_rfl)) rfl ?_
  rw [HSays2.out]
  exact RecK.nothing HB6.out
 | true =>
  have HCk3 : Hid (Calls Tryz.prog 28 #[.agg #[.int .i64 r.kind,.int .i64 r.co,.int .i64 r.ep,.int .i64 r.pl,.slice sa r.says.length sc,.slice ia r.img.length ic]] W3 fun e w' => e=.returned (.int .i64 (recErr r))∧Below W3.heap.size W3 w'):=HCk.out _ _ _ _ _
  clear HCk
  by_cases hz : recErr r=0
  ·have HSays2 : Hid (rs=(0,r)):=by show _=_; rw [HSays.out,if_neg (by decide),if_pos hz]
   rw [hz] at HCk3
   clear hz HSays
   go_wp2_with (go_at_call 28; refine HCk3.out.mono ?_; rintro e w4 ⟨rfl,hb4⟩; obtain ⟨z0,z1,z2,z3,z4,z5⟩:=HX.out w4 hb4; obtain ⟨⟨y0,y1,y2,y3,y4,y5⟩,f0,f1,f2,f3,f4,f5⟩:=HZ.out w4 hb4)
   obtain ⟨W6,hW6,HF6,HB6,hk6⟩:=HPut.out w4 r.kind r.co r.ep r.pl (.slice sa r.says.length sc) (.slice ia r.img.length ic) hb4
   try rw [hW6]
   refine bodyPost_ret (res_box rfl _ _ w.heap.size 27 _ (0,0) _ rfl HF6 Tryz.underlying27 rfl (by kernel_rfl)) rfl ?_
   rw [HSays2.out]
   exact ⟨sa,sc,ia,ic,rfl,(HR3.out.below hb4).keep (hk6 3 (by decide)),HB6⟩
  ·have heb : (recErr r != 0)=true:=by simpa using hz
   have HSays2 : Hid (rs=(recErr r,rc0)):=by show _=_; rw [HSays.out,if_neg (by decide),if_neg hz]
   clear hz HSays
   generalize recErr r=er at *
   go_wp2_with (go_at_call 28; refine HCk3.out.mono ?_; rintro e w4 ⟨rfl,hb4⟩; obtain ⟨⟨y0,y1,y2,y3,y4,y5⟩,f0,f1,f2,f3,f4,f5⟩:=HZ.out w4 hb4)
   obtain ⟨W6,hW6,HF6,HB6,_⟩:=HPut.out w4 0 0 0 0 (.slice none 0 0) (.slice none 0 0) hb4
   try rw [hW6]
   refine bodyPost_ret (res_box rfl _ _ w.heap.size 27 _ (0,0) _ rfl HF6 Tryz.underlying27 rfl (by kernel_rfl)) rfl ?_
   rw [HSays2.out]
   exact RecK.nothing HB6
end Go.Proofs.YtfaggdkiffhdbaaGreatDoor
