/- slices.Grow and slices.Concat over rows of numbers; a line more: CodeText's closure, of the reckoning. -/
import Derived.Test.YtfaggdkiffhdbaaGreatDoorImgMem
import Derived.Test.YtfaggdkiffhdbaaGreatDoorPart19
import Derived.Deep.RegionWith
namespace Go.Proofs.YtfaggdkiffhdbaaGreatDoor
open Go.RowKit Go.Maps

theorem zerosI (w : World) (n : Nat) (hn : n≤2000) :
  (w.drew.alloc (.cells (Builtin.zeroCells (Value.cells (.int .i64 0)) n ++ Builtin.zeroCells (Value.cells (.int .i64 0)) (grownCap w n 0 3 - n)) 3)).ownsRow w.heap.size 3 1
   (.slice (some ⟨w.heap.size,0,none⟩) 0 (grownCap w n 0 3)) 0 []:=by
 have hge:=grownCap_ge w n 0 3
 refine ⟨rfl,Or.inr ⟨w.heap.size,_,_,rfl,Nat.le_refl _,heap_alloc_new w.drew _,Nat.zero_le _,grownCap_le_maxLen w n 0 3 (by unfold maxLen; omega),?_,by simp⟩⟩
 rw [Array.size_append,size_zeroCells,size_zeroCells]
 show n * 1 + _ * 1=_ * 1
 omega

set_option maxHeartbeats 400000 in
theorem growI (n : Nat) (w : World) (hn : n≤2000) :
  Calls Tryz.prog 44 #[.slice none 0 0,.int .i64 n] w fun e w' => ∃ v,e=.returned v∧IS w.heap.size w' v []∧Below w.heap.size w w':=by
 by_cases h0 : n=0
 ·subst h0
  go_enter Tryz.func44,Tryz.ntmps44
  go_wp2_with fail
  go_ret
  exact ⟨_,rfl,World.ownsRow_nil _ _ _ _,Below.refl _ _⟩
 ·obtain ⟨i0,hi,hz0,hz1,hz2⟩:=info_parts info3i
  have hp : (0 : Int) < (n : Int):=by omega
  have HR : Hid (∀ (ty : TypeId) (w : World),(Builtin.append_ #[25,3] ty #[.slice none 0 0,.int .i64 n]).run Tryz.prog w=_):=fun ty w => Lib.run_append_nil_zeros (P:=Tryz.prog) w 25 3 ty 3 i0 _ .i64 .i64 Tryz.underlying25 Tryz.underlying3 hi hz0 n (by omega) (by omega) (by omega) (by rw [hz2]; omega)
  clear hi hz0 hz1 hz2
  go_enter Tryz.func44,Tryz.ntmps44
  go_wp2_with (at_builtin; refine Lib.wpList_append_run _ rfl _ _ _ _ rfl _ _ rfl rfl _ _ (HR.out _ _) ?_)
  go_ret
  exact ⟨_,rfl,zerosI w n hn,((Below.refl _ _).drew).alloc (Nat.le_refl _) _⟩

/-- Numbers of memory behind a row of the call's own. -/
theorem append_ints {ops : Array Oper} {rest : List Oper} {o : Oper} {a : Act} {Q : Exit→Act→World→Prop} (w : World) (hgd : o.guard=none) (s y : Operand)
  (ho : o.op=.call { callee:=.builtin .append,args:=#[s,y],argTypes:=#[25,25] }) (base : Nat) (v : Value) (l : List Int) (hs : a.eval s=v) (hown : IS base w v l)
  (N : Nat) (x : Option Addr) (n c : Nat) (z : Nat→Int) (hy : a.eval y=.slice x n c) (hnv : NumsAt N w (.slice x n c) n z) (hl : l.length + n≤100000) (hbase : base≤w.heap.size)
  (h : ∀ v' w2,IS base w2 v' (l ++ (List.range n).map z)→Below base w w2→wpList Tryz.prog ops Q rest (a.put o.dst v') w2) :
  wpList Tryz.prog ops Q (o :: rest) a w:=by
 obtain ⟨i0,hi,hz0,hz1,hz2⟩:=info_parts info3i
 obtain ⟨a',cap',e,hn1,hc⟩:=hnv
 cases e
 cases x with
 | none =>
  have hn0 : n=0:=by
   rcases hc with h | ⟨b,o,h,_⟩
   ·exact h
   ·cases h
  subst hn0
  refine Lib.wpList_append_run _ hgd s y 25 25 ho _ _ hs hy v w ?_ (h _ _ (by simpa using hown) (Below.refl _ _))
  rcases hown.2 with ⟨rfl,_⟩ | ⟨g,cap,cur,rfl,_,_,hnc,_⟩
  ·simp [Builtin.append_,run_underlying Tryz.underlying25,sizeOf,typeInfo,hi,Builtin.lenOf,Builtin.firstCells]
  ·simp [Builtin.append_,run_underlying Tryz.underlying25,sizeOf,typeInfo,hi,Builtin.lenOf,Builtin.firstCells,hnc,storeCells]
 | some ad =>
  have hcell : ∀ j u,((List.range n).map fun k => Value.int .i64 (z k))[j]?=some u→w.cell? (ad.add j)=some u:=by
   intro j u hj
   have hjn : j < n:=by have:=(List.getElem?_eq_some_iff.1 hj).1; simpa using this
   rcases hc with h | ⟨b,o,h,hb,hcc⟩
   ·omega
   ·cases h
    rw [WideShapes.add_plain,hcc j hjn]
    simpa [hjn] using hj
  refine wpList_append_own_at _ hgd s y 25 ho base 3 i0 (.int .i64 0) 1 8 Tryz.underlying25 hi hz0 hz1 hz2 rfl (by decide) v _ _ hs hown ad n c ((List.range n).map fun k => Value.int .i64 (z k)) hy (by simp) hcell (fun u hu => by obtain ⟨k,_,rfl⟩:=List.mem_map.1 hu; rfl) (by unfold maxLen; omega) (by omega) hbase ?_
  intro v' w2 h1 h2 _ _
  refine h v' w2 ?_ ((Below.refl _ _).grown h2 hbase (fun k hk => (hown.lt k hk).1))
  unfold IS
  have e2 : (l ++ (List.range n).map z).map (Value.int .i64)=l.map (Value.int .i64) ++ (List.range n).map fun k => Value.int .i64 (z k):=by simp [Function.comp_def]
  rw [e2,List.length_append,List.length_map,List.length_range]
  exact h1

/-- 'v' is a slice of n rows of numbers,below block N. -/
def RowsI (N : Nat) (w : World) (v : Value) (n : Nat) (m : Nat→Nat) (Z : Nat→Nat→Int) : Prop :=
 ∃ b o cap,v=.slice (some ⟨b,o,none⟩) n cap∧n≤2000∧b < N∧∀ i,i < n→∃ u,w.cell? ⟨b,o + i,none⟩=some u∧NumsAt N w u (m i) (Z i)

def catI (m : Nat→Nat) (Z : Nat→Nat→Int) : Nat→List Int
 | 0 => []
 | j + 1 => catI m Z j ++ (List.range (m j)).map (Z j)

theorem catI_len (m : Nat→Nat) (Z : Nat→Nat→Int) (j : Nat) : (catI m Z (j + 1)).length=(catI m Z j).length + m j:=by simp [catI]
theorem catI_le (m : Nat→Nat) (Z : Nat→Nat→Int) (j : Nat) : ∀ d,(catI m Z j).length≤(catI m Z (j + d)).length
 | 0 => Nat.le_refl _
 | d + 1 => by
  have h1:=catI_le m Z j d
  have h2:=catI_len m Z (j + d)
  have h3 : (catI m Z (j + (d + 1))).length=(catI m Z (j + d + 1)).length:=rfl
  omega

set_option maxHeartbeats 1000000 in
theorem concatI (N : Nat) (v : Value) (n : Nat) (m : Nat→Nat) (Z : Nat→Nat→Int) (w : World) (hN : N≤w.heap.size) (h : RowsI N w v n m Z) (hsum : (catI m Z n).length≤2000) :
  Calls Tryz.prog 30 #[v] w fun e w' => ∃ v',e=.returned v'∧Hid (IS w.heap.size w' v' (catI m Z n))∧Hid (Below w.heap.size w w'):=by
 obtain ⟨p,o,cap,rfl,hn,hp,gc⟩:=h
 have HL : Hid (∀ j,j≤n→(catI m Z j).length≤2000):=fun j hj => by
  have:=catI_le m Z j (n - j)
  rw [show j + (n - j)=n by omega] at this
  omega
 have HG : Hid (∀ i,i < n→∃ u,w.cell? ⟨p,o + i,none⟩=some u∧NumsAt N w u (m i) (Z i)):=gc
 have hpw : p < w.heap.size:=by omega
 clear gc
 go_enter Tryz.func30,Tryz.ntmps30
 go_wp2_with fail
 go_loop [3,11] (fun sz i => ∃ j : Nat,j≤n∧i=.int .i64 j∧sz=.int .i64 (catI m Z j).length) (fun _ i => n - (intOf i).toNat)
 case atStart => exact ⟨0,Nat.zero_le _,rfl,rfl⟩
 case round =>
  obtain ⟨j,hj,rfl,rfl⟩:=hrel
  by_cases hlt : j < n
  ·obtain ⟨x,hx,hvx⟩:=HG.out j hlt
   obtain ⟨xa,xcap,rfl,hxn,_⟩:=hvx
   have HNx : Hid ((catI m Z (j + 1)).length=(catI m Z j).length + m j):=catI_len m Z j
   have h1 : (catI m Z j).length + m j≤2000:=by have:=HL.out (j + 1) hlt; rw [HNx.out] at this; exact this
   generalize (catI m Z j).length=q at *
   have hneg : ¬ ((q : Int) + (m j : Int) < 0):=by omega
   go_wp2_with fail
   go_round
   case rel => exact ⟨j + 1,by omega,by go_num,by rw [HNx.out]; go_num⟩
   case measure => simp [intOf]; omega
  ·have ej : j=n:=by omega
   subst ej
   go_wp2_with fail
   refine (growI _ _ hsum).mono ?_
   rintro e w1 ⟨v1,rfl,hrow0,hb1⟩
   have HR0 : Hid (IS w.heap.size w1 v1 []):=hrow0
   clear hrow0
   go_wp2_with fail
   go_loopw [6,27] (fun av i wr => ∃ j' : Nat,j'≤j∧i=.int .i64 j'∧Hid (IS w.heap.size wr av (catI m Z j'))∧Hid (Below w.heap.size w wr)) (fun _ i _ => j - (intOf i).toNat)
   case atStart => exact ⟨0,Nat.zero_le _,rfl,HR0,hb1⟩
   case round =>
    clear hb1 HR0
    obtain ⟨t,ht,rfl,HRow,HB⟩:=hrel
    have hsz:=HB.out.size
    by_cases hlt2 : t < j
    ·obtain ⟨x,hx,hvx⟩:=HG.out t hlt2
     rw [← HB.out.cell (p:=⟨p,o + t,none⟩) hpw] at hx
     have HV : Hid (NumsAt N wr x (m t) (Z t)):=hvx.below (HB.out.mono hN)
     obtain ⟨xa,xcap,rfl,hxn⟩:=hvx.shape
     have h1 : (catI m Z t).length + m t≤100000:=by have:=HL.out (t + 1) hlt2; rw [catI_len] at this; omega
     clear hvx
     go_wp2_with (at_builtin; refine append_ints wr rfl _ _ rfl w.heap.size u6 _ rfl HRow.out N _ _ _ _ rfl HV.out h1 hsz ?_; intro v3 w3 hI3 hB3)
     go_roundw
     case rel => exact ⟨t + 1,by omega,by go_num,hI3,HB.out.trans hB3⟩
     case measure => simp [intOf]; omega
    ·have et : t=j:=by omega
     subst et
     go_wp2_with fail
     go_ret
     exact ⟨_,rfl,HRow,HB⟩

theorem add_both (a b : List UInt8) (h : a.length + b.length≤11000000) (w : World) : (Op.stringOp .add (bs a) (bs b)).run Tryz.prog w=.ok (.string (bs (a ++ b))) w:=by
 have e : bs a ++ bs b=bs (a ++ b):=by apply ByteArray.ext; simp [bs]
 have h1 : ∀ x : List UInt8,(bs x).size=x.length:=fun x => by simp [bs,ByteArray.size]
 rw [run_string_add_sum w _ _ (by rw [h1,h1]; omega),e]

end Go.Proofs.YtfaggdkiffhdbaaGreatDoor
