/- slices.Grow and slices.Concat over records; a record more, whatever is known of its lists. -/
import Derived.Test.YtfaggdkiffhdbaaGreatDoorDiskEq
import Derived.Test.YtfaggdkiffhdbaaGreatDoorDiskRs
namespace Go.Proofs.YtfaggdkiffhdbaaGreatDoor
open Go.RowKit Go.Maps

/-- A record more: the row alone. -/
theorem append_raw {ops : Array Oper} {rest : List Oper} {o : Oper} {a : Act} {Q : Exit→Act→World→Prop} (W : World) (hgd : o.guard=none) (s y : Operand)
  (ho : o.op=.call { callee:=.builtin .append,args:=#[s,y],argTypes:=#[33,33] }) (C n : Nat) (v : Value) (l : List (Rc×RAd)) (r : Rc) (q : RAd) (hs : a.eval s=v) (hown : W.ownsRow C 27 6 v n (flatR l)) (hn : l.length=n) (B : Nat) (hB : W.heap[B]?=some (.cells #[.int .i64 r.kind,.int .i64 r.co,.int .i64 r.ep,.int .i64 r.pl,.slice q.1 r.says.length q.2.1,.slice q.2.2.1 r.img.length q.2.2.2] 27 (0,0))) (hy : a.eval y=.slice (some ⟨B,0,none⟩) 1 1) (hl : n≤100000) (hC : C≤W.heap.size)
  (h : ∀ v' w2,Hid (w2.ownsRow C 27 6 v' (n + 1) (flatR (l ++ [(r,q)])))→Hid (Below C W w2)→Hid (∀ t,¬ t=27→Keeps t W w2)→wpList Tryz.prog ops Q rest (a.put o.dst v') w2) :
  wpList Tryz.prog ops Q (o :: rest) a W:=by
 subst hn
 obtain ⟨i0,hi,hz0,hz1,hz2⟩:=info_parts infoRec
 refine wpList_append_own _ hgd s y 33 ho C 27 i0 (.agg #[.int .i64 0,.int .i64 0,.int .i64 0,.int .i64 0,.slice none 0 0,.slice none 0 0]) 6 80 Tryz.underlying33 hi hz0 hz1 hz2 rfl (by decide) v _ _ hs hown ⟨B,0,none⟩ 1 1 (recVs r q) hy rfl (fun j u hj => ?_) (fun u hu => ?_) (by unfold maxLen; omega) (by omega) hC ?_
 ·rw [WideShapes.add_plain,Nat.zero_add]
  unfold World.cell?
  rw [hB]
  simpa [recVs] using hj
 ·unfold recVs at hu
  simp only [List.mem_cons,List.mem_nil_iff,or_false] at hu
  rcases hu with rfl | rfl | rfl | rfl | rfl | rfl <;> rfl
 ·intro v' w2 h1 h2 _
  have hrow : ∀ g,v.ownBlock=some g→C≤g∧∃ cur,W.heap[g]?=some (.cells cur 27 (0,0)):=by
   intro g hg
   rcases hown.2 with ⟨rfl,_⟩ | ⟨g',cap,cur,rfl,hC,h2,_⟩
   ·cases hg
   ·cases hg
    exact ⟨hC,cur,h2⟩
  refine h v' w2 ?_ ((Below.refl _ _).grown h2 hC fun k hk => (hrow k hk).1) fun t ht => Keeps.grown h2 (fun g hg => (hrow g hg).2) ht
  rw [show flatR (l ++ [(r,q)])=flatR l ++ recVs r q by unfold flatR; rw [List.flatMap_append]; simp]
  exact h1

/-- The cells of records lie there,below block N. -/
structure CellsR (N : Nat) (w : World) (a : Option Addr) (c : Nat) (l : List (Rc×RAd)) : Prop where
 le : l.length≤c
 big : c≤9223372036854775807
 nil : a=none→l=[]∧c=0
 one : ∀ p,a=some p→l=[]∨∃ b o,p=⟨b,o,none⟩∧b < N∧∀ j u,(flatR l)[j]?=some u→w.cell? ⟨b,o + j,none⟩=some u
theorem CellsR.below {N : Nat} {w w' : World} {a : Option Addr} {c : Nat} {l : List (Rc×RAd)} (h : CellsR N w a c l) (hb : Below N w w') : CellsR N w' a c l:=by
 refine ⟨h.le,h.big,h.nil,fun p hp => ?_⟩
 rcases h.one p hp with h0 | ⟨b,o,e,hlt,hc⟩
 ·exact Or.inl h0
 ·exact Or.inr ⟨b,o,e,hlt,fun j u hj => (hb.cell (p:=⟨b,o + j,none⟩) hlt).trans (hc j u hj)⟩
theorem CellsR.up {N M : Nat} {w : World} {a : Option Addr} {c : Nat} {l : List (Rc×RAd)} (h : CellsR N w a c l) (hm : N≤M) : CellsR M w a c l:=by
 refine ⟨h.le,h.big,h.nil,fun p hp => ?_⟩
 rcases h.one p hp with h0 | ⟨b,o,e,hlt,hc⟩
 ·exact Or.inl h0
 ·exact Or.inr ⟨b,o,e,by omega,hc⟩
theorem own_cellsR {B : Nat} {w : World} {a : Option Addr} {n c : Nat} {l : List (Rc×RAd)} (hl : l.length=n) (h : w.ownsRow B 27 6 (.slice a n c) n (flatR l)) : CellsR w.heap.size w a c l:=by
 subst hl
 rcases id h.2 with ⟨e,h0⟩ | ⟨g,cap,cur,e,hg,hh,h1,h2,_,ht⟩
 ·injection e with e1 e2 e3
  subst e1 e3
  obtain rfl : l=[]:=List.eq_nil_of_length_eq_zero h0
  exact ⟨Nat.le_refl _,by omega,fun _ => ⟨rfl,rfl⟩,fun p hp => by cases hp⟩
 ·injection e with e1 e2 e3
  subst e1 e3
  refine ⟨h1,by unfold maxLen at h2; omega,(fun e => by cases e),fun p hp => ?_⟩
  cases hp
  refine Or.inr ⟨g,0,rfl,(Array.getElem?_eq_some_iff.1 hh).1,fun j u hj => ?_⟩
  have hjl:=(List.getElem?_eq_some_iff.1 hj).1
  rw [flatR_len] at hjl
  unfold World.cell?
  rw [hh]
  show cur[0 + j]?=_
  rw [Nat.zero_add,← Array.getElem?_toList,← List.getElem?_take_of_lt (i:=j) (j:=l.length * 6) (by omega),ht]
  exact hj

theorem zerosR (w : World) (n : Nat) (hn : n≤1000) :
  (w.drew.alloc (.cells (Builtin.zeroCells (Value.cells (.agg #[.int .i64 0,.int .i64 0,.int .i64 0,.int .i64 0,.slice none 0 0,.slice none 0 0])) n ++ Builtin.zeroCells (Value.cells (.agg #[.int .i64 0,.int .i64 0,.int .i64 0,.int .i64 0,.slice none 0 0,.slice none 0 0])) (grownCap w n 0 27 - n)) 27)).ownsRow w.heap.size 27 6
   (.slice (some ⟨w.heap.size,0,none⟩) 0 (grownCap w n 0 27)) 0 []:=by
 have hge:=grownCap_ge w n 0 27
 refine ⟨rfl,Or.inr ⟨w.heap.size,_,_,rfl,Nat.le_refl _,heap_alloc_new w.drew _,Nat.zero_le _,grownCap_le_maxLen w n 0 27 (by unfold maxLen; omega),?_,by simp⟩⟩
 rw [Array.size_append,size_zeroCells,size_zeroCells]
 show n * 6 + _ * 6=_ * 6
 omega
set_option maxHeartbeats 400000 in
theorem growRc (n : Nat) (w : World) (hn : n≤1000) :
  Calls Tryz.prog 40 #[.slice none 0 0,.int .i64 n] w fun e w' => ∃ v,e=.returned v∧w'.ownsRow w.heap.size 27 6 v 0 (flatR [])∧Below w.heap.size w w':=by
 by_cases h0 : n=0
 ·subst h0
  go_enter Tryz.func40,Tryz.ntmps40
  go_wp2_with fail
  go_ret
  exact ⟨_,rfl,World.ownsRow_nil _ _ _ _,Below.refl _ _⟩
 ·obtain ⟨i0,hi,hz0,hz1,hz2⟩:=info_parts infoRec
  have hp : (0 : Int) < (n : Int):=by omega
  have HR : Hid (∀ (ty : TypeId) (w : World),(Builtin.append_ #[33,3] ty #[.slice none 0 0,.int .i64 n]).run Tryz.prog w=_):=fun ty w => Lib.run_append_nil_zeros (P:=Tryz.prog) w 33 3 ty 27 i0 _ .i64 .i64 Tryz.underlying33 Tryz.underlying3 hi hz0 n (by omega) (by omega) (by omega) (by rw [hz2]; omega)
  clear hi hz0 hz1 hz2
  go_enter Tryz.func40,Tryz.ntmps40
  go_wp2_with (at_builtin; refine Lib.wpList_append_run _ rfl _ _ _ _ rfl _ _ rfl rfl _ _ (HR.out _ _) ?_)
  go_ret
  exact ⟨_,rfl,zerosR w n hn,((Below.refl _ _).drew).alloc (Nat.le_refl _) _⟩

/-- Records of memory behind a row of the call's own. -/
theorem append_recs {ops : Array Oper} {rest : List Oper} {o : Oper} {a : Act} {Q : Exit→Act→World→Prop} (w : World) (hgd : o.guard=none) (s y : Operand)
  (ho : o.op=.call { callee:=.builtin .append,args:=#[s,y],argTypes:=#[33,33] }) (base n : Nat) (v : Value) (l : List (Rc×RAd)) (hs : a.eval s=v) (hown : w.ownsRow base 27 6 v n (flatR l)) (hn : l.length=n)
  (N : Nat) (x : Option Addr) (c m : Nat) (l2 : List (Rc×RAd)) (hm : l2.length=m) (hy : a.eval y=.slice x m c) (hnv : CellsR N w x c l2) (hl : n + m≤100000) (hbase : base≤w.heap.size)
  (h : ∀ v' w2,w2.ownsRow base 27 6 v' (n + m) (flatR (l ++ l2))→Below base w w2→wpList Tryz.prog ops Q rest (a.put o.dst v') w2) :
  wpList Tryz.prog ops Q (o :: rest) a w:=by
 subst hn
 subst hm
 obtain ⟨i0,hi,hz0,hz1,hz2⟩:=info_parts infoRec
 have hfl : flatR (l ++ l2)=flatR l ++ flatR l2:=by unfold flatR; rw [List.flatMap_append]
 cases x with
 | none =>
  obtain ⟨rfl,rfl⟩:=hnv.nil rfl
  refine Lib.wpList_append_run _ hgd s y 33 33 ho _ _ hs hy v w ?_ (h _ _ (by simpa using hown) (Below.refl _ _))
  rcases hown.2 with ⟨rfl,_⟩ | ⟨g,cap,cur,rfl,_,_,hnc,_⟩
  ·simp [Builtin.append_,run_underlying Tryz.underlying33,sizeOf,typeInfo,hi,Builtin.lenOf,Builtin.firstCells]
  ·simp [Builtin.append_,run_underlying Tryz.underlying33,sizeOf,typeInfo,hi,Builtin.lenOf,Builtin.firstCells,hnc,storeCells]
 | some ad =>
  have hcell : ∀ j u,(flatR l2)[j]?=some u→w.cell? (ad.add j)=some u:=by
   intro j u hj
   rcases hnv.one ad rfl with h1 | ⟨b,o',e,hb,hcc⟩
   ·rw [h1] at hj; simp [flatR] at hj
   ·rw [e,WideShapes.add_plain]
    exact hcc j u hj
  refine wpList_append_own_at _ hgd s y 33 ho base 27 i0 (.agg #[.int .i64 0,.int .i64 0,.int .i64 0,.int .i64 0,.slice none 0 0,.slice none 0 0]) 6 80 Tryz.underlying33 hi hz0 hz1 hz2 rfl (by decide) v _ _ hs hown ad l2.length c (flatR l2) hy (flatR_len l2) hcell (fun u hu => ?_) (by unfold maxLen; omega) (by omega) hbase ?_
  ·unfold flatR at hu
   obtain ⟨x,_,hx⟩:=List.mem_flatMap.1 hu
   unfold recVs at hx
   simp only [List.mem_cons,List.mem_nil_iff,or_false] at hx
   rcases hx with rfl | rfl | rfl | rfl | rfl | rfl <;> rfl
  intro v' w2 h1 h2 _ _
  refine h v' w2 ?_ ((Below.refl _ _).grown h2 hbase (fun k hk => (hown.lt k hk).1))
  rw [hfl]
  exact h1

/-- 'v' is a slice of rows of records,below block N. -/
def RowsRc (N : Nat) (w : World) (v : Value) (Ls : List (List (Rc×RAd))) : Prop :=
 ∃ b o cap,v=.slice (some ⟨b,o,none⟩) Ls.length cap∧Ls.length≤2000∧b < N∧∀ i l,Ls[i]?=some l→∃ a c,w.cell? ⟨b,o + i,none⟩=some (.slice a l.length c)∧CellsR N w a c l

def catRTo (Ls : List (List (Rc×RAd))) (j : Nat) : List (Rc×RAd):=(Ls.take j).flatten
theorem catRTo_succ {Ls : List (List (Rc×RAd))} {j : Nat} {l : List (Rc×RAd)} (h : Ls[j]?=some l) : catRTo Ls (j + 1)=catRTo Ls j ++ l:=by
 unfold catRTo
 rw [List.take_add_one,h]
 simp
theorem catRTo_le (Ls : List (List (Rc×RAd))) (j : Nat) : (catRTo Ls j).length≤Ls.flatten.length:=by
 unfold catRTo
 conv => rhs; rw [← List.take_append_drop j Ls,List.flatten_append,List.length_append]
 omega
theorem catRTo_all (Ls : List (List (Rc×RAd))) : catRTo Ls Ls.length=Ls.flatten:=by unfold catRTo; rw [List.take_length]

set_option maxHeartbeats 1000000 in
theorem concatRc (N : Nat) (v : Value) (Ls : List (List (Rc×RAd))) (w : World) (hN : N≤w.heap.size) (h : RowsRc N w v Ls) (hsum : Ls.flatten.length≤1000) :
  Calls Tryz.prog 26 #[v] w fun e w' => ∃ a c,e=.returned (.slice a Ls.flatten.length c)∧Hid (w'.ownsRow w.heap.size 27 6 (.slice a Ls.flatten.length c) Ls.flatten.length (flatR Ls.flatten))∧Hid (Below w.heap.size w w'):=by
 obtain ⟨p,o,cap,rfl,hn,hp,gc⟩:=h
 have HL : Hid (∀ j,(catRTo Ls j).length≤1000):=fun j => Nat.le_trans (catRTo_le Ls j) hsum
 have HG : Hid (∀ i l,Ls[i]?=some l→∃ a c,w.cell? ⟨p,o + i,none⟩=some (.slice a l.length c)∧CellsR N w a c l):=gc
 have HA : Hid (∀ j,j < Ls.length→∃ l,Ls[j]?=some l∧catRTo Ls (j + 1)=catRTo Ls j ++ l):=fun j hj => ⟨_,List.getElem?_eq_getElem hj,catRTo_succ (List.getElem?_eq_getElem hj)⟩
 have HAll : Hid (catRTo Ls Ls.length=Ls.flatten):=catRTo_all Ls
 have hpw : p < w.heap.size:=by omega
 obtain ⟨n,hnn⟩ : ∃ n,Ls.length=n:=⟨_,rfl⟩
 have HFin : Hid (∀ (v' : Value) wk,wk.ownsRow w.heap.size 27 6 v' (catRTo Ls n).length (flatR (catRTo Ls n))→Below w.heap.size w wk→∃ a c,Ending.returned v'=.returned (.slice a Ls.flatten.length c)∧Hid (wk.ownsRow w.heap.size 27 6 (.slice a Ls.flatten.length c) Ls.flatten.length (flatR Ls.flatten))∧Hid (Below w.heap.size w wk)):=fun v' wk hb hk => by
  rw [← hnn,HAll.out] at hb
  obtain ⟨a,c,rfl⟩:=own_shape hb
  exact ⟨a,c,rfl,hb,hk⟩
 rw [hnn] at HA hn ⊢
 clear gc hnn hsum HAll
 go_enter Tryz.func26,Tryz.ntmps26
 go_wp2_with fail
 go_loop [3,11] (fun sz i => ∃ j : Nat,j≤n∧i=.int .i64 j∧sz=.int .i64 (catRTo Ls j).length) (fun _ i => n - (intOf i).toNat)
 case atStart => exact ⟨0,Nat.zero_le _,rfl,rfl⟩
 case round =>
  obtain ⟨j,hj,rfl,rfl⟩:=hrel
  by_cases hlt : j < n
  ·obtain ⟨l,hl,hfl⟩:=HA.out j hlt
   obtain ⟨xa,xc,hx,_⟩:=HG.out j l hl
   have HNx : Hid ((catRTo Ls (j + 1)).length=(catRTo Ls j).length + l.length):=by show _=_; rw [hfl,List.length_append]
   have h1 : (catRTo Ls j).length + l.length≤1000:=by have:=HL.out (j + 1); rw [HNx.out] at this; exact this
   generalize (catRTo Ls j).length=q at *
   generalize l.length=m at *
   clear hfl hl
   have hneg : ¬ ((q : Int) + (m : Int) < 0):=by omega
   go_wp2_with fail
   go_round
   case rel => exact ⟨j + 1,by omega,by go_num,by rw [HNx.out]; go_num⟩
   case measure => simp [intOf]; omega
  ·have ej : j=n:=by omega
   subst ej
   go_wp2_with fail
   refine (growRc _ _ (HL.out j)).mono ?_
   rintro e w1 ⟨v1,rfl,hrow0,hb1⟩
   have HR0 : Hid (w1.ownsRow w.heap.size 27 6 v1 (catRTo Ls 0).length (flatR (catRTo Ls 0))):=hrow0
   clear hrow0
   go_wp2_with fail
   go_loopw [6,27] (fun av i wr => ∃ j' : Nat,j'≤j∧i=.int .i64 j'∧Hid (wr.ownsRow w.heap.size 27 6 av (catRTo Ls j').length (flatR (catRTo Ls j')))∧Hid (Below w.heap.size w wr)) (fun _ i _ => j - (intOf i).toNat)
   case atStart => exact ⟨0,Nat.zero_le _,rfl,HR0,hb1⟩
   case round =>
    clear hb1 HR0
    obtain ⟨t,ht,rfl,HRow,HB⟩:=hrel
    have hsz:=HB.out.size
    by_cases hlt2 : t < j
    ·obtain ⟨l,hl,hfl⟩:=HA.out t hlt2
     obtain ⟨xa,xc,hx,hvx⟩:=HG.out t l hl
     rw [← HB.out.cell (p:=⟨p,o + t,none⟩) hpw] at hx
     have HV : Hid (CellsR N wr xa xc l):=hvx.below (HB.out.mono hN)
     have HS : Hid (catRTo Ls (t + 1)=catRTo Ls t ++ l):=hfl
     have h1 : (catRTo Ls t).length + l.length≤100000:=by have:=HL.out (t + 1); rw [hfl,List.length_append] at this; omega
     clear hvx hl hfl
     go_wp2_with (at_builtin; refine append_recs wr rfl _ _ rfl w.heap.size _ u6 _ rfl HRow.out rfl N _ _ _ l rfl rfl HV.out h1 hsz ?_; intro v3 w3 hI3 hB3)
     go_roundw
     case rel => exact ⟨t + 1,by omega,by go_num,(by show World.ownsRow _ _ _ _ _ _ _; rw [HS.out,List.length_append]; exact hI3),HB.out.trans hB3⟩
     case measure => simp [intOf]; omega
    ·have et : t=j:=by omega
     subst et
     go_wp2_with fail
     go_ret
     exact HFin.out _ _ HRow.out HB.out

end Go.Proofs.YtfaggdkiffhdbaaGreatDoor
