/- Rows of strings of the call's own. -/
import Derived.Test.YtfaggdkiffhdbaaDoorShelf
import Derived.Test.YtfaggdkiffhdbaaDoorOwnRow
import Derived.Test.YtfaggdkiffhdbaaDoorImgEnv
namespace Go.Proofs.YtfaggdkiffhdbaaDoor
open Go.RowKit Go.Maps

/-! ### Rows of words of the call's own -/

/-- All that was there is as it was,but for the row v; and v' is that row,or a new one. -/
structure Grown (w : World) (v : Value) (w' : World) (v' : Value) : Prop where
 os : w'.os=w.os
 tape : w'.tape=w.tape
 output : w'.output=w.output
 size : w.heap.size≤w'.heap.size
 block : ∀ k,k < w.heap.size→¬ v.ownBlock=some k→w'.heap[k]?=w.heap[k]?
 own : ∀ k,k < w.heap.size→v'.ownBlock=some k→v.ownBlock=some k

theorem Grown.refl (w : World) (v : Value) : Grown w v w v:=⟨rfl,rfl,rfl,Nat.le_refl _,fun _ _ _ => rfl,fun _ _ h => h⟩
theorem Grown.trans {a b c : World} {u v x : Value} (h : Grown a u b v) (k : Grown b v c x) : Grown a u c x :=
 ⟨k.os.trans h.os,k.tape.trans h.tape,k.output.trans h.output,Nat.le_trans h.size k.size,
  fun n hn hx => (k.block n (Nat.lt_of_lt_of_le hn h.size) fun e => hx (h.own n hn e)).trans (h.block n hn hx),
  fun n hn e => h.own n hn (k.own n (Nat.lt_of_lt_of_le hn h.size) e)⟩
theorem Grown.of {a b : World} (v : Value) (h : Below a.heap.size a b) : Grown a v b v:=⟨h.os,h.tape,h.output,h.size,fun n hn _ => h.block n hn,fun _ _ e => e⟩
theorem Grown.drew {a b : World} {u v : Value} (h : Grown a u b v) : Grown a u b.drew v:=⟨h.os,h.tape,h.output,h.size,h.block,h.own⟩

/-- A row of the words R,of blocks from B on. -/
def StrS (B : Nat) (w : World) (v : Value) (R : List ByteArray) : Prop:=w.ownsRow B 9 1 v R.length (R.map Value.string)

theorem StrS.nil (B : Nat) (w : World) : StrS B w (.slice none 0 0) []:=⟨rfl,Or.inl ⟨rfl,rfl⟩⟩

theorem StrS.low {B : Nat} {w : World} {v : Value} {R : List ByteArray} (h : StrS B w v R) : ∀ k,v.ownBlock=some k→B≤k:=by
 intro k hk
 rcases h.2 with ⟨rfl,_⟩ | ⟨g,cap,cur,rfl,hb,_⟩
 ·cases hk
 ·cases hk; exact hb

theorem StrS.lt {B : Nat} {w : World} {v : Value} {R : List ByteArray} (h : StrS B w v R) : ∀ k,v.ownBlock=some k→k < w.heap.size:=by
 intro k hk
 rcases h.2 with ⟨rfl,_⟩ | ⟨g,cap,cur,rfl,hb,hg,_⟩
 ·cases hk
 ·cases hk; exact (Array.getElem?_eq_some_iff.1 hg).1

theorem StrS.keep {B : Nat} {w w' : World} {v : Value} {R : List ByteArray} (h : StrS B w v R) (hb : Below w.heap.size w w') : StrS B w' v R:=by
 unfold StrS at *
 refine ⟨h.1,?_⟩
 rcases h.2 with ⟨rfl,h0⟩ | ⟨g,cap,cur,rfl,h1,h2,h3⟩
 ·exact Or.inl ⟨rfl,h0⟩
 ·exact Or.inr ⟨g,cap,cur,rfl,h1,by rw [hb.block g (Array.getElem?_eq_some_iff.1 h2).1]; exact h2,h3⟩

theorem Grown.low {B : Nat} {a b : World} {u v : Value} (h : Grown a u b v) (hu : ∀ k,u.ownBlock=some k→B≤k) (hB : B≤a.heap.size) : Below B a b :=
 ⟨h.os,h.tape,h.output,h.size,fun k hk => h.block k (Nat.lt_of_lt_of_le hk hB) fun e => by have:=hu k e; omega⟩

theorem infoStr : (Tryd.prog.info? 9).map (fun i => (i.zero,i.size,i.bytes))=some (some (.string ⟨#[]⟩),1,16):=by kernel_rfl

theorem strs_cell (L : List ByteArray) : ∀ u ∈ L.map Value.string,u.oneCell'=true:=by
 intro u hu
 obtain ⟨x,_,rfl⟩:=List.mem_map.1 hu
 rfl

/-- Words more at the end of a row of the call's own. -/
theorem put_strs {ops : Array Oper} {rest : List Oper} {o : Oper} {a : Act} {Q : Exit→Act→World→Prop} (w : World) (hgd : o.guard=none) (s y : Operand)
  (ho : o.op=.call { callee:=.builtin .append,args:=#[s,y],argTypes:=#[55,55] }) (base : Nat) (v : Value) (R L : List ByteArray) (hs : a.eval s=v) (hown : StrS base w v R)
  (t : TypeId) (B m : Nat) (hB : w.heap.size=B) (hm : L.length=m) (hy : a.eval y=.slice (some ⟨B,0,none⟩) m m) (hR : R.length + L.length≤1000000) (hbase : base≤w.heap.size)
  (h : ∀ v' w2,StrS base w2 v' (R ++ L)→Grown w v w2 v'→wpList Tryd.prog ops Q rest (a.put o.dst v') w2) :
  wpList Tryd.prog ops Q (o :: rest) a (w.alloc (.cells (L.map Value.string).toArray t)):=by
 subst hB
 subst hm
 obtain ⟨i0,hi,hz0,hz1,hz2⟩:=info_parts infoStr
 have hk : Below w.heap.size w (w.alloc (.cells (L.map Value.string).toArray t)):=below_alloc _ _
 refine wpList_append_own_at _ hgd s y 55 ho base 9 i0 (.string ⟨#[]⟩) 1 16 Tryd.underlying55 hi hz0 hz1 hz2 rfl (by decide) v _ _ hs (hown.keep hk) ⟨w.heap.size,0,none⟩ L.length L.length (L.map Value.string) hy (by simp) (fun j u hj => ?_) (strs_cell L) (by unfold maxLen; omega) (by omega) (Nat.le_trans hbase hk.size) ?_
 ·rw [WideShapes.add_plain,Nat.zero_add,World.cell?_alloc_new]
  simpa using hj
 ·intro v' w2 h1 h2 _ h4
  refine h v' w2 ?_ ⟨h2.os,h2.tape,h2.output,Nat.le_trans hk.size h2.size,fun k hk1 hk2 => ?_,fun k hk1 hk2 => ?_⟩
  ·unfold StrS
   rw [List.length_append,List.map_append]
   exact h1
  ·rw [h2.block k (Nat.lt_of_lt_of_le hk1 hk.size) (fun e => hk2 e.symm)]
   exact hk.block k hk1
  ·rcases h4 with h4 | h4
   ·rw [← h4]; exact hk2
   ·have h5 : (w.alloc (.cells (L.map Value.string).toArray t)).heap.size=k:=Option.some.inj (h4.symm.trans hk2)
    have h6:=hk.size
    omega

theorem put_str {ops : Array Oper} {rest : List Oper} {o : Oper} {a : Act} {Q : Exit→Act→World→Prop} (w : World) (hgd : o.guard=none) (s y : Operand)
  (ho : o.op=.call { callee:=.builtin .append,args:=#[s,y],argTypes:=#[55,55] }) (base : Nat) (v : Value) (R : List ByteArray) (x : ByteArray) (hs : a.eval s=v) (hown : StrS base w v R)
  (t : TypeId) (B : Nat) (hB : w.heap.size=B) (hy : a.eval y=.slice (some ⟨B,0,none⟩) 1 1) (hR : R.length + 1≤1000000) (hbase : base≤w.heap.size)
  (h : ∀ v' w2,StrS base w2 v' (R ++ [x])→Grown w v w2 v'→wpList Tryd.prog ops Q rest (a.put o.dst v') w2) :
  wpList Tryd.prog ops Q (o :: rest) a (w.alloc (.cells #[.string x] t)) :=
 put_strs w hgd s y ho base v R [x] hs hown t B 1 hB rfl hy hR hbase h

end Go.Proofs.YtfaggdkiffhdbaaDoor
