/- slices.Equal and bytes.Equal over bytes; slices.Concat, bytes.Clone. -/
import Derived.Test.YtfaggdkiffhdbaaGreatDoorDiskMem
import Derived.Test.YtfaggdkiffhdbaaGreatDoorRefText
namespace Go.Proofs.YtfaggdkiffhdbaaGreatDoor
open Go.RowKit Go.Maps

/-- 'v' is a slice of n bytes,below block N. -/
def BAt (N : Nat) (w : World) (v : Value) (n : Nat) (z : Nat→Int) : Prop:=∃ a cap,v=.slice a n cap∧(n=0∨∃ b o,a=some ⟨b,o,none⟩∧b < N∧∀ i,i < n→w.cell? ⟨b,o + i,none⟩=some (.int .u8 (z i)))
theorem BytesL.bat {N : Nat} {w : World} {a : Option Addr} {c : Nat} {l : List UInt8} (h : BytesL N w a c l) : BAt N w (.slice a l.length c) l.length (fun i => (numsB l).getD i 0):=by
 refine ⟨a,c,rfl,?_⟩
 by_cases h0 : l.length=0
 ·exact Or.inl h0
 ·obtain ⟨b,o,e,hb,hc⟩:=h.place (by omega)
  refine Or.inr ⟨b,o,e,hb,fun i hi => ?_⟩
  obtain ⟨z,hz,e2⟩:=numsB_at hi
  show _=some (Value.int .u8 ((numsB l).getD i 0))
  rw [e2]
  exact hc i z hz

theorem eqBts (N : Nat) (v1 v2 : Value) (n1 n2 : Nat) (z1 z2 : Nat→Int) (w : World) (hm1 : n1≤9223372036854775807) (hm2 : n2≤9223372036854775807) (h1 : BAt N w v1 n1 z1) (h2 : BAt N w v2 n2 z2) :
  Calls Tryz.prog 24 #[v1,v2] w fun e w' => e=.returned (.bool (eqB n1 n2 z1 z2))∧Below w.heap.size w w':=by
 obtain ⟨a1,c1,rfl,h1⟩:=h1
 obtain ⟨a2,c2,rfl,h2⟩:=h2
 by_cases hn : n1=n2
 ·subst hn
  have ht : ((n1 : Int) != (n1 : Int))=false:=by simp
  go_enter Tryz.func24,Tryz.ntmps24
  go_wp2
  go_loopw [13] (fun i wr => ∃ k m : Nat,k≤n1∧i=.int .i64 k∧wr=w.drewN m∧Hid (∀ j,j < k→z1 j=z2 j)) (fun i _ => n1 - (intOf i).toNat)
  case atStart => exact ⟨0,0,Nat.zero_le _,rfl,rfl,fun j hj => absurd hj (Nat.not_lt_zero _)⟩
  case round =>
   obtain ⟨k,m,hk,rfl,rfl,hall⟩:=hrel
   by_cases hlt : k < n1
   ·rcases h1 with h1 | ⟨p1,o1,rfl,l1,g1⟩
    ·omega
    rcases h2 with h2 | ⟨p2,o2,rfl,l2,g2⟩
    ·omega
    have q1:=g1 k hlt
    have q2:=g2 k hlt
    clear g1 g2
    by_cases he : z1 k=z2 k
    ·have HE : Hid (z1 k=z2 k):=he
     have het : (z1 k != z2 k)=false:=by simp [he]
     clear he
     go_wp2
     go_quiet (fail)
     go_wp2
     go_roundw
     case rel => exact ⟨k + 1,m + nq,by omega,by go_num,by simp,upTo hall.out HE.out⟩
     case measure => simp [intOf]; omega
    ·have HE : Hid (eqB n1 n1 z1 z2=false):=eqB_no hlt he
     have het : (z1 k != z2 k)=true:=by simp [he]
     clear he
     go_wp2
     go_quiet (fail)
     go_wp2
     go_ret
     exact ⟨ret_bool HE.out.symm,by simpa using below_drewN' w (m + nq)⟩
   ·go_wp2
    go_ret
    obtain rfl : k=n1:=by omega
    exact ⟨ret_bool (eqB_yes hall.out).symm,below_drewN' _ _⟩
 ·have ht : ((n1 : Int) != (n2 : Int))=true:=by simp; omega
  have HN : Hid (eqB n1 n2 z1 z2=false):=eqB_len hn
  clear hn
  go_enter Tryz.func24,Tryz.ntmps24
  go_wp2
  go_ret
  exact ⟨ret_bool HN.out.symm,Below.refl _ _⟩

theorem numsB_inj {l l2 : List UInt8} (h : numsB l=numsB l2) : l=l2:=by
 have:=congrArg Lib.bytesOf h
 rwa [numsB_of,numsB_of] at this
theorem eqBytes {N : Nat} {a a2 : Option Addr} {c c2 : Nat} {l l2 : List UInt8} (w : World) (h : BytesL N w a c l) (h2 : BytesL N w a2 c2 l2) :
  Calls Tryz.prog 24 #[.slice a l.length c,.slice a2 l2.length c2] w fun e w' => e=.returned (.bool (decide (l=l2)))∧Below w.heap.size w w':=by
 refine (eqBts N _ _ _ _ _ _ w (by have:=h.le; have:=h.big; omega) (by have:=h2.le; have:=h2.big; omega) h.bat h2.bat).mono ?_
 rintro e w' ⟨rfl,hb⟩
 refine ⟨ret_bool ?_,hb⟩
 unfold eqB
 rw [Bool.eq_iff_iff,decide_eq_true_iff,decide_eq_true_iff]
 constructor
 ·rintro ⟨hl,hx⟩
  apply numsB_inj
  apply List.ext_getElem (by rw [numsB_len,numsB_len]; exact hl)
  intro i h1 h2
  rw [numsB_len] at h1
  have this : (numsB l).getD i 0=(numsB l2).getD i 0:=hx i h1
  rw [List.getD_eq_getElem?_getD,List.getD_eq_getElem?_getD,List.getElem?_eq_getElem (by rw [numsB_len]; exact h1),List.getElem?_eq_getElem (by rw [numsB_len]; omega)] at this
  exact this
 ·rintro rfl
  exact ⟨rfl,fun _ _ => rfl⟩

/-- A row of bytes of the call's own. -/
theorem own_bytesL {B : Nat} {w : World} {a : Option Addr} {n c : Nat} {l : List UInt8} (h : BS B w (.slice a n c) l) : BytesL w.heap.size w a c l:=by
 rcases id h.2 with ⟨e,h0⟩ | ⟨g,cap,cur,e,hg,hh,h1,h2,_,ht⟩
 ·injection e with e1 e2 e3
  subst e1 e2 e3
  obtain rfl : l=[]:=List.eq_nil_of_length_eq_zero h0
  exact BytesL.none _ _
 ·injection e with e1 e2 e3
  subst e1 e3
  refine ⟨h1,by unfold maxLen at h2; omega,(fun e => by cases e),fun p hp => ?_⟩
  cases hp
  right
  refine ⟨g,0,rfl,(h.lt g rfl).2,fun i z hi => ?_⟩
  have hil:=(List.getElem?_eq_some_iff.1 hi).1
  rw [Nat.zero_add]
  unfold World.cell?
  rw [hh]
  show cur[i]?=_
  rw [← Array.getElem?_toList,← List.getElem?_take_of_lt (i:=i) (j:=l.length * 1) (by omega),ht]
  unfold Lib.byteCells
  rw [List.getElem?_map,hi]
  rfl

/-- bytes.Clone. -/
theorem cloneB {N : Nat} {a : Option Addr} {c : Nat} {l : List UInt8} (w : World) (h : BytesL N w a c l) (hl : l.length≤1000000) :
  Calls Tryz.prog 19 #[.slice a l.length c] w fun e w' => ∃ a' c',e=.returned (.slice a' l.length c')∧Hid (BS w.heap.size w' (.slice a' l.length c') l)∧Hid (Below w.heap.size w w'):=by
 cases a with
 | none =>
  obtain ⟨rfl,rfl⟩:=h.nil rfl
  refine (Tryz.bytes_Clone_nil _ _ w).mono ?_
  rintro e w' ⟨rfl,rfl⟩
  exact ⟨none,0,rfl,BS.nil _ _,Below.refl _ _⟩
 | some p =>
  refine (Tryz.bytes_Clone_at p l.length c (numsB l) w (numsB_len l) (by omega) fun i hi => ?_).mono ?_
  ·rcases h.one p rfl with h1 | ⟨b,o,e,hb,hc⟩
   ·rw [h1] at hi; simp at hi
   ·obtain ⟨z,hz,e2⟩:=numsB_at hi
    rw [e,WideShapes.add_plain,e2]
    exact hc i z hz
  ·rintro e w' ⟨v',rfl,ho,_,hb⟩
   have hbs : BS w.heap.size w' v' l:=by
    unfold BS
    have e2 : (numsB l).map (Value.int .u8)=Lib.byteCells l:=by unfold numsB Lib.byteCells; rw [List.map_map]; rfl
    rw [← e2]
    exact ho
   obtain ⟨a',c',rfl⟩:=hbs.shape
   exact ⟨a',c',rfl,hbs,hb⟩

/-- bytes.Equal. -/
theorem bytesEq {N : Nat} {a a2 : Option Addr} {c c2 : Nat} {l l2 : List UInt8} (w : World) (h : BytesL N w a c l) (h2 : BytesL N w a2 c2 l2) :
  Calls Tryz.prog 23 #[.slice a l.length c,.slice a2 l2.length c2] w fun e w' => e=.returned (.bool (decide (l=l2)))∧w'=w:=by
 refine (Tryz.bytes_Equal_all a a2 l.length c l2.length c2 (numsB l) (numsB l2) w (numsB_len l) (numsB_len l2) h.in h2.in).mono ?_
 rintro e w' ⟨rfl,rfl⟩
 refine ⟨ret_bool ?_,rfl⟩
 rw [numsB_of,numsB_of,Bool.eq_iff_iff,beq_iff_eq,decide_eq_true_iff]

/-! ### slices.Concat over bytes -/

theorem info5b : (Tryz.prog.info? 5).map (fun i => (i.zero,i.size,i.bytes))=some (some (.int .u8 0),1,1):=by kernel_rfl
theorem zerosB (w : World) (n : Nat) (hn : n≤1000000) :
  (w.drew.alloc (.cells (Builtin.zeroCells (Value.cells (.int .u8 0)) n ++ Builtin.zeroCells (Value.cells (.int .u8 0)) (grownCap w n 0 5 - n)) 5)).ownsRow w.heap.size 5 1
   (.slice (some ⟨w.heap.size,0,none⟩) 0 (grownCap w n 0 5)) 0 []:=by
 have hge:=grownCap_ge w n 0 5
 refine ⟨rfl,Or.inr ⟨w.heap.size,_,_,rfl,Nat.le_refl _,heap_alloc_new w.drew _,Nat.zero_le _,grownCap_le_maxLen w n 0 5 (by unfold maxLen; omega),?_,by simp⟩⟩
 rw [Array.size_append,size_zeroCells,size_zeroCells]
 show n * 1 + _ * 1=_ * 1
 omega
set_option maxHeartbeats 400000 in
theorem growB (n : Nat) (w : World) (hn : n≤1000000) :
  Calls Tryz.prog 31 #[.slice none 0 0,.int .i64 n] w fun e w' => ∃ v,e=.returned v∧BS w.heap.size w' v []∧Below w.heap.size w w':=by
 by_cases h0 : n=0
 ·subst h0
  go_enter Tryz.func31,Tryz.ntmps31
  go_wp2_with fail
  go_ret
  exact ⟨_,rfl,World.ownsRow_nil _ _ _ _,Below.refl _ _⟩
 ·obtain ⟨i0,hi,hz0,hz1,hz2⟩:=info_parts info5b
  have hp : (0 : Int) < (n : Int):=by omega
  have HR : Hid (∀ (ty : TypeId) (w : World),(Builtin.append_ #[22,3] ty #[.slice none 0 0,.int .i64 n]).run Tryz.prog w=_):=fun ty w => Lib.run_append_nil_zeros (P:=Tryz.prog) w 22 3 ty 5 i0 _ .i64 .i64 Tryz.underlying22 Tryz.underlying3 hi hz0 n (by omega) (by omega) (by omega) (by rw [hz2]; omega)
  clear hi hz0 hz1 hz2
  go_enter Tryz.func31,Tryz.ntmps31
  go_wp2_with (at_builtin; refine Lib.wpList_append_run _ rfl _ _ _ _ rfl _ _ rfl rfl _ _ (HR.out _ _) ?_)
  go_ret
  exact ⟨_,rfl,zerosB w n hn,((Below.refl _ _).drew).alloc (Nat.le_refl _) _⟩

/-- Bytes of memory behind a row of the call's own. -/
theorem append_bytes {ops : Array Oper} {rest : List Oper} {o : Oper} {a : Act} {Q : Exit→Act→World→Prop} (w : World) (hgd : o.guard=none) (s y : Operand)
  (ho : o.op=.call { callee:=.builtin .append,args:=#[s,y],argTypes:=#[22,22] }) (base : Nat) (v : Value) (l : List UInt8) (hs : a.eval s=v) (hown : BS base w v l)
  (N : Nat) (x : Option Addr) (c : Nat) (l2 : List UInt8) (hy : a.eval y=.slice x l2.length c) (hnv : BytesL N w x c l2) (hl : l.length + l2.length≤10000000) (hbase : base≤w.heap.size)
  (h : ∀ v' w2,BS base w2 v' (l ++ l2)→Below base w w2→wpList Tryz.prog ops Q rest (a.put o.dst v') w2) :
  wpList Tryz.prog ops Q (o :: rest) a w:=by
 obtain ⟨i0,hi,hz0,hz1,hz2⟩:=info_parts info5b
 cases x with
 | none =>
  obtain ⟨rfl,rfl⟩:=hnv.nil rfl
  refine Lib.wpList_append_run _ hgd s y 22 22 ho _ _ hs hy v w ?_ (h _ _ (by simpa using hown) (Below.refl _ _))
  rcases hown.2 with ⟨rfl,_⟩ | ⟨g,cap,cur,rfl,_,_,hnc,_⟩
  ·simp [Builtin.append_,run_underlying Tryz.underlying22,sizeOf,typeInfo,hi,Builtin.lenOf,Builtin.firstCells]
  ·simp [Builtin.append_,run_underlying Tryz.underlying22,sizeOf,typeInfo,hi,Builtin.lenOf,Builtin.firstCells,hnc,storeCells]
 | some ad =>
  have hcell : ∀ j u,(Lib.byteCells l2)[j]?=some u→w.cell? (ad.add j)=some u:=by
   intro j u hj
   unfold Lib.byteCells at hj
   have hjn : j < l2.length:=by have:=(List.getElem?_eq_some_iff.1 hj).1; simpa using this
   rcases hnv.one ad rfl with h1 | ⟨b,o',e,hb,hcc⟩
   ·rw [h1] at hjn; simp at hjn
   ·rw [e,WideShapes.add_plain,hcc j _ (List.getElem?_eq_getElem hjn)]
    rw [List.getElem?_map,List.getElem?_eq_getElem hjn] at hj
    exact hj
  refine wpList_append_own_at _ hgd s y 22 ho base 5 i0 (.int .u8 0) 1 1 Tryz.underlying22 hi hz0 hz1 hz2 rfl (by decide) v _ _ hs hown ad l2.length c (Lib.byteCells l2) hy (by simp [Lib.byteCells]) hcell (fun u hu => by unfold Lib.byteCells at hu; obtain ⟨k,_,rfl⟩:=List.mem_map.1 hu; rfl) (by unfold maxLen; omega) (by omega) hbase ?_
  intro v' w2 h1 h2 _ _
  refine h v' w2 ?_ ((Below.refl _ _).grown h2 hbase (fun k hk => (hown.lt k hk).1))
  unfold BS
  have e2 : Lib.byteCells (l ++ l2)=Lib.byteCells l ++ Lib.byteCells l2:=by unfold Lib.byteCells; rw [List.map_append]
  rw [e2,List.length_append]
  exact h1

/-- 'v' is a slice of rows of bytes,below block N. -/
def RowsB (N : Nat) (w : World) (v : Value) (Ls : List (List UInt8)) : Prop :=
 ∃ b o cap,v=.slice (some ⟨b,o,none⟩) Ls.length cap∧Ls.length≤2000∧b < N∧∀ i l,Ls[i]?=some l→∃ a c,w.cell? ⟨b,o + i,none⟩=some (.slice a l.length c)∧BytesL N w a c l

def flatTo (Ls : List (List UInt8)) (j : Nat) : List UInt8:=(Ls.take j).flatten
theorem flatTo_succ {Ls : List (List UInt8)} {j : Nat} {l : List UInt8} (h : Ls[j]?=some l) : flatTo Ls (j + 1)=flatTo Ls j ++ l:=by
 unfold flatTo
 rw [List.take_add_one,h]
 simp
theorem flatTo_le (Ls : List (List UInt8)) (j : Nat) : (flatTo Ls j).length≤Ls.flatten.length:=by
 unfold flatTo
 conv => rhs; rw [← List.take_append_drop j Ls,List.flatten_append,List.length_append]
 omega
theorem flatTo_all (Ls : List (List UInt8)) : flatTo Ls Ls.length=Ls.flatten:=by unfold flatTo; rw [List.take_length]

set_option maxHeartbeats 1000000 in
theorem concatB (N : Nat) (v : Value) (Ls : List (List UInt8)) (w : World) (hN : N≤w.heap.size) (h : RowsB N w v Ls) (hsum : Ls.flatten.length≤1000000) :
  Calls Tryz.prog 20 #[v] w fun e w' => ∃ a c,e=.returned (.slice a Ls.flatten.length c)∧Hid (BS w.heap.size w' (.slice a Ls.flatten.length c) Ls.flatten)∧Hid (Below w.heap.size w w'):=by
 obtain ⟨p,o,cap,rfl,hn,hp,gc⟩:=h
 have HL : Hid (∀ j,(flatTo Ls j).length≤1000000):=fun j => Nat.le_trans (flatTo_le Ls j) hsum
 have HG : Hid (∀ i l,Ls[i]?=some l→∃ a c,w.cell? ⟨p,o + i,none⟩=some (.slice a l.length c)∧BytesL N w a c l):=gc
 have HA : Hid (∀ j,j < Ls.length→∃ l,Ls[j]?=some l∧flatTo Ls (j + 1)=flatTo Ls j ++ l):=fun j hj => ⟨_,List.getElem?_eq_getElem hj,flatTo_succ (List.getElem?_eq_getElem hj)⟩
 have HAll : Hid (flatTo Ls Ls.length=Ls.flatten):=flatTo_all Ls
 have hpw : p < w.heap.size:=by omega
 obtain ⟨n,hnn⟩ : ∃ n,Ls.length=n:=⟨_,rfl⟩
 have HFin : Hid (∀ (v' : Value) wk,BS w.heap.size wk v' (flatTo Ls n)→Below w.heap.size w wk→∃ a c,Ending.returned v'=.returned (.slice a Ls.flatten.length c)∧Hid (BS w.heap.size wk (.slice a Ls.flatten.length c) Ls.flatten)∧Hid (Below w.heap.size w wk)):=fun v' wk hb hk => by
  rw [← hnn,HAll.out] at hb
  obtain ⟨a,c,rfl⟩:=hb.shape
  exact ⟨a,c,rfl,hb,hk⟩
 rw [hnn] at HA hn ⊢
 clear gc hnn hsum HAll
 go_enter Tryz.func20,Tryz.ntmps20
 go_wp2_with fail
 go_loop [3,11] (fun sz i => ∃ j : Nat,j≤n∧i=.int .i64 j∧sz=.int .i64 (flatTo Ls j).length) (fun _ i => n - (intOf i).toNat)
 case atStart => exact ⟨0,Nat.zero_le _,rfl,rfl⟩
 case round =>
  obtain ⟨j,hj,rfl,rfl⟩:=hrel
  by_cases hlt : j < n
  ·obtain ⟨l,hl,hfl⟩:=HA.out j hlt
   obtain ⟨xa,xc,hx,_⟩:=HG.out j l hl
   have HNx : Hid ((flatTo Ls (j + 1)).length=(flatTo Ls j).length + l.length):=by show _=_; rw [hfl,List.length_append]
   have h1 : (flatTo Ls j).length + l.length≤1000000:=by have:=HL.out (j + 1); rw [HNx.out] at this; exact this
   generalize (flatTo Ls j).length=q at *
   generalize l.length=m at *
   clear hfl hl
   have hneg : ¬ ((q : Int) + (m : Int) < 0):=by omega
   go_wp2_with fail
   go_round
   case rel => exact ⟨j + 1,by omega,by go_num,by rw [HNx.out]; go_num⟩
   case measure => simp [intOf]; omega
  ·have ej : j=n:=by omega
   subst ej
   go_wp2_with fail
   refine (growB _ _ (HL.out j)).mono ?_
   rintro e w1 ⟨v1,rfl,hrow0,hb1⟩
   have HR0 : Hid (BS w.heap.size w1 v1 []):=hrow0
   clear hrow0
   go_wp2_with fail
   go_loopw [6,27] (fun av i wr => ∃ j' : Nat,j'≤j∧i=.int .i64 j'∧Hid (BS w.heap.size wr av (flatTo Ls j'))∧Hid (Below w.heap.size w wr)) (fun _ i _ => j - (intOf i).toNat)
   case atStart => exact ⟨0,Nat.zero_le _,rfl,HR0,hb1⟩
   case round =>
    clear hb1 HR0
    obtain ⟨t,ht,rfl,HRow,HB⟩:=hrel
    have hsz:=HB.out.size
    by_cases hlt2 : t < j
    ·obtain ⟨l,hl,hfl⟩:=HA.out t hlt2
     obtain ⟨xa,xc,hx,hvx⟩:=HG.out t l hl
     rw [← HB.out.cell (p:=⟨p,o + t,none⟩) hpw] at hx
     have HV : Hid (BytesL N wr xa xc l):=hvx.below (HB.out.mono hN)
     have HS : Hid (flatTo Ls (t + 1)=flatTo Ls t ++ l):=hfl
     have h1 : (flatTo Ls t).length + l.length≤10000000:=by have:=HL.out (t + 1); rw [hfl,List.length_append] at this; omega
     clear hvx hl hfl
     go_wp2_with (at_builtin; refine append_bytes wr rfl _ _ rfl w.heap.size u6 _ rfl HRow.out N _ _ _ rfl HV.out h1 hsz ?_; intro v3 w3 hI3 hB3)
     go_roundw
     case rel => exact ⟨t + 1,by omega,by go_num,(by show BS _ _ _ _; rw [HS.out]; exact hI3),HB.out.trans hB3⟩
     case measure => simp [intOf]; omega
    ·have et : t=j:=by omega
     subst et
     go_wp2_with fail
     go_ret
     exact HFin.out _ _ HRow.out HB.out

end Go.Proofs.YtfaggdkiffhdbaaGreatDoor
