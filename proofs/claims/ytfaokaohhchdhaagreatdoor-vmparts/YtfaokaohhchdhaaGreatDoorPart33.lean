/- Which kind of statement a word begins, by the program. -/
import Derived.Test.YtfaokaohhchdhaaGreatDoorPart32
import Derived.Laws.StructEq
import Derived.Test.YtfaokaohhchdhaaGreatDoorPart1
import Derived.Handy
import Derived.Deep.LoopGhost
import Derived.Lib.ItoaLen
import Derived.Laws.Concat
namespace Go.Proofs.YtfaokaohhchdhaaGreatDoor
open Go.RowKit Go.Maps
theorem strEq (a b : ByteArray) : (a.toList == b.toList)=decide (a=b):=by
 rw [← beq_toListBytes]
 by_cases h : a=b
 ·subst h; rw [beq_toListBytes]; simp
 ·rw [beq_toListBytes,decide_eq_false h,beq_eq_false_iff_ne]
  intro e
  exact h (ByteArray.ext (by rw [ByteArray.toList_eq,ByteArray.toList_eq] at e; exact Array.toList_inj.1 e))
theorem kindOf_miss {x : Wd} (h0 : ∀ j,j < 9→¬ bs (stL j)=x) : kindOf x=0:=by
 unfold kindOf
 rw [List.find?_eq_none.2 (fun j hj => by simp [h0 j (List.mem_range.1 hj)])]
 rfl
theorem kindOf_lt (x : Wd) : kindOf x≤8:=by
 unfold kindOf
 cases h : (List.range 9).find? fun k => decide (bs (stL k)=x) with
 | none => simp
 | some k =>
  have:=List.mem_of_find?_eq_some h
  simp at this ⊢
  omega
end Go.Proofs.YtfaokaohhchdhaaGreatDoor
namespace Go.Proofs.YtfaokaohhchdhaaGreatDoor
open Go.RowKit
structure Save (X : Nat) (w w' : World) : Prop where
 os : w'.os=w.os
 tape : w'.tape=w.tape
 output : w'.output=w.output
 size : w.heap.size≤w'.heap.size
 block : ∀ k,k < w.heap.size→¬ k=X→w'.heap[k]?=w.heap[k]?
theorem Save.low {X N : Nat} {a b : World} (h : Save X a b) (h1 : N≤X) (h2 : N≤a.heap.size) : Below N a b:=⟨h.os,h.tape,h.output,h.size,fun k hk => h.block k (Nat.lt_of_lt_of_le hk h2) (by omega)⟩
end Go.Proofs.YtfaokaohhchdhaaGreatDoor
namespace Go.Proofs.YtfaokaohhchdhaaGreatDoor
open Go.RowKit Go.Maps
/-! ### Rows of tokens of the call's own -/
def flatT : List (Int×Int)→List Value
 | [] => []
 | t :: l => .int .i64 t.1 :: .int .i64 t.2 :: flatT l
theorem flatT_append : ∀ (l m : List (Int×Int)),flatT (l ++ m)=flatT l ++ flatT m
 | [],_ => rfl
 | t :: l,m => by simp [flatT,flatT_append l m]
theorem flatT_at : ∀ (l : List (Int×Int)) (i : Nat),i < l.length→(flatT l)[i * 2]?=some (.int .i64 (l.getD i (0,0)).1)∧(flatT l)[i * 2 + 1]?=some (.int .i64 (l.getD i (0,0)).2)
 | [],i,h => absurd h (Nat.not_lt_zero _)
 | t :: l,0,_ => ⟨rfl,rfl⟩
 | t :: l,i + 1,h => by
  have:=flatT_at l i (by simpa using h)
  rw [show (i + 1) * 2=i * 2 + 1 + 1 by omega]
  simpa [flatT] using this
def TS (B : Nat) (w : World) (v : Value) (l : List (Int×Int)) : Prop:=w.ownsRow B 199 2 v l.length (flatT l)
def ToksIn (L : Nat) (w : World) (v : Value) (l : List (Int×Int)) : Prop :=
 ∃ a cap,v=.slice a l.length cap∧l.length≤min cap 100000∧(l=[]∨∃ g,a=some ⟨g,0,none⟩∧L≤g∧g < w.heap.size∧∀ i,i < l.length→w.cell? ⟨g,i * 2,none⟩=some (.int .i64 (l.getD i (0,0)).1)∧w.cell? ⟨g,i * 2 + 1,none⟩=some (.int .i64 (l.getD i (0,0)).2))
theorem TS.toks {B : Nat} {w : World} {v : Value} {l : List (Int×Int)} (h : TS B w v l) (hl : l.length≤100000) : ToksIn B w v l:=by
 rcases h.2 with ⟨rfl,h0⟩ | ⟨g,cap,cur,rfl,hb,hg,hlc,_⟩
 ·have e : l=[]:=List.eq_nil_of_length_eq_zero h0
  subst e
  exact ⟨none,0,rfl,by simp,Or.inl rfl⟩
 ·refine ⟨_,cap,rfl,by omega,Or.inr ⟨g,rfl,hb,(Array.getElem?_eq_some_iff.1 hg).1,fun i hi => ?_⟩⟩
  obtain ⟨e1,e2⟩:=flatT_at l i hi
  rw [h.cellAt _ (by omega),h.cellAt _ (by omega),e1,e2]
  exact ⟨rfl,rfl⟩
theorem ToksIn.low {L M : Nat} {w : World} {v : Value} {l : List (Int×Int)} (h : ToksIn L w v l) (hM : M≤L) : ToksIn M w v l:=by
 obtain ⟨a,cap,rfl,hn,h | ⟨g,rfl,hL,hg,hc⟩⟩:=h
 ·exact ⟨a,cap,rfl,hn,Or.inl h⟩
 ·exact ⟨_,cap,rfl,hn,Or.inr ⟨g,rfl,by omega,hg,hc⟩⟩
theorem info75 : (Tryz.prog.info? 199).map (fun i => (i.zero,i.size,i.bytes))=some (some (.agg #[.int .i64 0,.int .i64 0]),2,16):=by kernel_rfl
theorem TS.keep {B : Nat} {w w' : World} {v : Value} {l : List (Int×Int)} (h : TS B w v l) (hb : Below w.heap.size w w') : TS B w' v l:=by
 refine ⟨h.1,?_⟩
 rcases h.2 with ⟨rfl,h0⟩ | ⟨g,cap,cur,rfl,h1,h2,h3⟩
 ·exact Or.inl ⟨rfl,h0⟩
 ·exact Or.inr ⟨g,cap,cur,rfl,h1,by rw [hb.block g (Array.getElem?_eq_some_iff.1 h2).1]; exact h2,h3⟩
theorem append_tok {ops : Array Oper} {rest : List Oper} {o : Oper} {a : Act} {Q : Exit→Act→World→Prop} (w : World) (hgd : o.guard=none) (s y : Operand)
  (ho : o.op=.call { callee:=.builtin .append,args:=#[s,y],argTypes:=#[194,194] }) (base : Nat) (v : Value) (l : List (Int×Int)) (k z : Int) (hs : a.eval s=v) (hown : TS base w v l)
  (t : TypeId) (B : Nat) (hB : w.heap.size=B) (hy : a.eval y=.slice (some ⟨B,0,none⟩) 1 1) (hR : l.length + 1≤1000000) (hbase : base≤w.heap.size)
  (h : ∀ v' w2,Hid (TS base w2 v' (l ++ [(k,z)]))→Hid (Grow w v w2 v')→wpList Tryz.prog ops Q rest (a.put o.dst v') w2) :
  wpList Tryz.prog ops Q (o :: rest) a (w.alloc (.cells #[.int .i64 k,.int .i64 z] t)):=by
 subst hB
 obtain ⟨i0,hi,hz0,hz1,hz2⟩:=info_parts info75
 have hk : Below w.heap.size w (w.alloc (.cells #[.int .i64 k,.int .i64 z] t)):=below_alloc _ _
 refine wpList_append_own_at _ hgd s y 194 ho base 199 i0 (.agg #[.int .i64 0,.int .i64 0]) 2 16 Tryz.underlying194 hi hz0 hz1 hz2 rfl (by decide) v _ _ hs (hown.keep hk) ⟨w.heap.size,0,none⟩ 1 1 [.int .i64 k,.int .i64 z] hy rfl (fun j u hj => ?_) (ints_oneCell .i64 [k,z]) (by unfold maxLen; omega) (by omega) (Nat.le_trans hbase hk.size) ?_
 ·rw [WideShapes.add_plain,Nat.zero_add,World.cell?_alloc_new]
  show ([Value.int .i64 k,.int .i64 z].toArray)[j]?=some u
  rw [List.getElem?_toArray]
  exact hj
 ·intro v' w2 h1 h2 _ h4
  refine h v' w2 ?_ ⟨h2.os,h2.tape,h2.output,Nat.le_trans hk.size h2.size,fun k hk1 hk2 => ?_,fun k hk1 hk2 => ?_⟩
  ·show TS _ _ _ _
   unfold TS
   rw [List.length_append,flatT_append]
   exact h1
  ·rw [h2.block k (Nat.lt_of_lt_of_le hk1 hk.size) (fun e => hk2 e.symm)]
   exact hk.block k hk1
  ·rcases h4 with h4 | h4
   ·rw [← h4]; exact hk2
   ·have h5:=Option.some.inj (h4.symm.trans hk2)
    have h6:=hk.size
    omega
theorem TS.own {B : Nat} {w : World} {v : Value} {l : List (Int×Int)} (h : TS B w v l) : ∀ k,v.ownBlock=some k→B≤k:=by
 intro k hk
 rcases h.2 with ⟨rfl,_⟩ | ⟨g,cap,cur,rfl,hb,_⟩
 ·cases hk
 ·cases hk; exact hb
theorem bs_size (l : List UInt8) : (bs l).size=l.length:=by show l.toArray.size=_; simp
theorem bs_append (a b : List UInt8) : bs a ++ bs b=bs (a ++ b):=by unfold bs; rw [ByteArray.mk_append_mk]
theorem boxG {w w1 : World} {cs : Array Value} {t : TypeId} {v v' : Value} (hg : Grow (w.alloc (.cells cs t)) v w1 v') (hv : ∀ k,v.ownBlock=some k→k < w.heap.size) (i : Nat) {c : Value} (h : cs[i]?=some c) : w1.cell? ⟨w.heap.size,i,none⟩=some c:=by
 rw [World.cell?_of_block (w:=w.alloc (.cells cs t)) (a:=⟨w.heap.size,i,none⟩) (hg.block w.heap.size (by simp) fun e => by have:=hv _ e; omega),World.cell?_alloc_new]
 exact h
def nPart (s : Nd) : List Wd:=if s.kind=1∨s.kind=2 then [numW s.num] else []
def aPart (B : SL→List Wd) (s : Nd) (a : SL) : List Wd:=if s.kind=6∨s.kind=7 then B a else []
def bPart (B : SL→List Wd) (s : Nd) (b : SL) : List Wd:=if s.kind=6 then B b else []
def tN (s : Nd) (j : Nat) : Nat:=if j=0 then s.ne else s.nf
def tK (s : Nd) (j : Nat) : Nat→Int:=if j=0 then s.ek else s.fk
def tZ (s : Nd) (j : Nat) : Nat→Int:=if j=0 then s.ez else s.fz
def tPart (s : Nd) : Nat→List Wd
 | 0 => []
 | j + 1 => tPart s j ++ toksW (tK s j) (tZ s j) (tN s j)
theorem tPart_two (s : Nd) : tPart s 2=toksW s.ek s.ez s.ne ++ toksW s.fk s.fz s.nf:=by simp [tPart,tK,tZ,tN]
theorem stmtW_all (B : SL→List Wd) (s : Nd) (a b : SL) : stmtW B s a b=((([bs (stL s.kind.toNat)] ++ nPart s) ++ tPart s 2) ++ aPart B s a) ++ bPart B s b:=by
 rw [tPart_two]
 simp [stmtW,nPart,aPart,bPart]
structure StF (nf : Nat) (locals : Int) (s : Nd) (a b : SL) : Prop where
 k1 : 1≤s.kind
 k8 : s.kind≤8
 tok : ∀ j,j < 2→∀ i,i < tN s j→tokErr (tK s j i) (tZ s j i) nf locals=0
 num : -9223372036854775808≤s.num∧s.num≤9223372036854775807
theorem stFacts {nf : Nat} {par : Nat→Int} {locals : Int} {s : Nd} {a b : SL} (hl : locals≤6) (hs : stErr nf par locals s a.len b.len=0) : StF nf locals s a b:=by
 obtain ⟨f0,f1,f2,f3⟩:=stErr_zero hs
 obtain ⟨k1,k2,kn,ke,kf,ka,kb⟩:=formErr_zero f0
 refine ⟨k1,k2,fun j hj i hi => ?_,?_⟩
 ·have : j=0∨j=1:=by omega
  rcases this with rfl | rfl
  ·have hi : i < s.ne:=hi
   exact expr_toks (f2.resolve_left fun c => by omega) i hi
  ·have hi : i < s.nf:=hi
   exact expr_toks (f3.resolve_left fun c => by omega) i hi
 ·unfold numErr at f1
  split at f1
  ·cases f1
  ·omega
def ToksLow (L : Nat) (w : World) (v : Value) (n : Nat) (k z : Nat→Int) : Prop :=
 ∃ a cap,v=.slice a n cap∧n≤min cap 100000∧(n=0∨∃ b o,a=some ⟨b,o,none⟩∧L≤b∧b < w.heap.size∧∀ i,i < n→w.cell? ⟨b,o + i * 2,none⟩=some (.int .i64 (k i))∧w.cell? ⟨b,o + i * 2 + 1,none⟩=some (.int .i64 (z i)))
theorem ToksIn.lowT {L : Nat} {w : World} {v : Value} {l : List (Int×Int)} (h : ToksIn L w v l) : ToksLow L w v l.length (fun i => (l.getD i (0,0)).1) (fun i => (l.getD i (0,0)).2):=by
 obtain ⟨a,cap,rfl,hn,h | ⟨g,rfl,hL,hg,hc⟩⟩:=h
 ·exact ⟨a,cap,rfl,hn,Or.inl (by rw [h]; rfl)⟩
 ·exact ⟨_,cap,rfl,hn,Or.inr ⟨g,0,rfl,hL,hg,fun i hi => by rw [Nat.zero_add]; exact hc i hi⟩⟩
theorem ToksLow.save {X L : Nat} {w w' : World} {v : Value} {n : Nat} {k z : Nat→Int} (h : ToksLow L w v n k z) (hs : ∀ k,k < w.heap.size→L≤k→w'.heap[k]?=w.heap[k]?) (hz : w.heap.size≤w'.heap.size) (_ : X < L) : ToksLow L w' v n k z:=by
 obtain ⟨a,cap,rfl,hn,h | ⟨b,o,rfl,hL,hg,hc⟩⟩:=h
 ·exact ⟨a,cap,rfl,hn,Or.inl h⟩
 ·refine ⟨_,cap,rfl,hn,Or.inr ⟨b,o,rfl,hL,Nat.lt_of_lt_of_le hg hz,fun i hi => ?_⟩⟩
  rw [World.cell?_of_block (w:=w) (a:=⟨b,o + i * 2,none⟩) (hs b hg hL),World.cell?_of_block (w:=w) (a:=⟨b,o + i * 2 + 1,none⟩) (hs b hg hL)]
  exact hc i hi
theorem ToksLow.toks {L : Nat} {w : World} {v : Value} {n : Nat} {k z : Nat→Int} (h : ToksLow L w v n k z) : ToksAt w.heap.size w v n k z:=by
 obtain ⟨a,cap,rfl,hn,h | ⟨b,o,rfl,hL,hg,hc⟩⟩:=h
 ·exact ⟨a,cap,rfl,by omega,Or.inl h⟩
 ·exact ⟨_,cap,rfl,by omega,Or.inr ⟨b,o,rfl,hg,hc⟩⟩
theorem ToksLow.low {L M : Nat} {w : World} {v : Value} {n : Nat} {k z : Nat→Int} (h : ToksLow L w v n k z) (hM : M≤L) : ToksLow M w v n k z:=by
 obtain ⟨a,cap,rfl,hn,h | ⟨b,o,rfl,hL,hg,hc⟩⟩:=h
 ·exact ⟨a,cap,rfl,hn,Or.inl h⟩
 ·exact ⟨_,cap,rfl,hn,Or.inr ⟨b,o,rfl,by omega,hg,hc⟩⟩
def StmtsIn (L : Nat) (w : World) : Nat→Value→SL→Prop
 | 0,v,T => T.len=0∧∃ a cap,v=.slice a 0 cap
 | d + 1,v,T => ∃ a cap,v=.slice a T.len cap∧T.len≤100000∧(T.len=0∨∃ b o,a=some ⟨b,o,none⟩∧L≤b∧b < w.heap.size∧∀ i,i < T.len →
   ∃ ve vf va vb,w.cell? ⟨b,o + i * 6,none⟩=some (.int .i64 (T.nd i).kind)∧w.cell? ⟨b,o + i * 6 + 1,none⟩=some (.int .i64 (T.nd i).num)∧w.cell? ⟨b,o + i * 6 + 2,none⟩=some ve∧w.cell? ⟨b,o + i * 6 + 3,none⟩=some vf ∧
    w.cell? ⟨b,o + i * 6 + 4,none⟩=some va∧w.cell? ⟨b,o + i * 6 + 5,none⟩=some vb ∧
    ToksLow L w ve (T.nd i).ne (T.nd i).ek (T.nd i).ez∧ToksLow L w vf (T.nd i).nf (T.nd i).fk (T.nd i).fz∧StmtsIn L w d va (T.sub i false)∧StmtsIn L w d vb (T.sub i true))
theorem StmtsIn.save {L : Nat} {w w' : World} (hs : ∀ k,k < w.heap.size→L≤k→w'.heap[k]?=w.heap[k]?) (hz : w.heap.size≤w'.heap.size) (h0 : 0 < L) : ∀ {d : Nat} {v : Value} {T : SL},StmtsIn L w d v T→StmtsIn L w' d v T
 | 0,_,_,h => h
 | d + 1,v,T,h => by
  obtain ⟨a,cap,rfl,hn,h | ⟨b,o,rfl,hL,hlt,hc⟩⟩:=h
  ·exact ⟨a,cap,rfl,hn,Or.inl h⟩
  ·refine ⟨_,cap,rfl,hn,Or.inr ⟨b,o,rfl,hL,Nat.lt_of_lt_of_le hlt hz,fun i hi => ?_⟩⟩
   obtain ⟨ve,vf,va,vb,c0,c1,c2,c3,c4,c5,t1,t2,s1,s2⟩:=hc i hi
   have e : ∀ o,w'.cell? ⟨b,o,none⟩=w.cell? ⟨b,o,none⟩:=fun o => World.cell?_of_block (w:=w) (a:=⟨b,o,none⟩) (hs b hlt hL)
   exact ⟨ve,vf,va,vb,by rw [e]; exact c0,by rw [e]; exact c1,by rw [e]; exact c2,by rw [e]; exact c3,by rw [e]; exact c4,by rw [e]; exact c5,
    t1.save hs hz h0,t2.save hs hz h0,StmtsIn.save hs hz h0 s1,StmtsIn.save hs hz h0 s2⟩
theorem StmtsIn.low {L M : Nat} {w : World} (hM : M≤L) : ∀ {d : Nat} {v : Value} {T : SL},StmtsIn L w d v T→StmtsIn M w d v T
 | 0,_,_,h => h
 | d + 1,v,T,h => by
  obtain ⟨a,cap,rfl,hn,h | ⟨b,o,rfl,hL,hlt,hc⟩⟩:=h
  ·exact ⟨a,cap,rfl,hn,Or.inl h⟩
  ·refine ⟨_,cap,rfl,hn,Or.inr ⟨b,o,rfl,by omega,hlt,fun i hi => ?_⟩⟩
   obtain ⟨ve,vf,va,vb,c0,c1,c2,c3,c4,c5,t1,t2,s1,s2⟩:=hc i hi
   exact ⟨ve,vf,va,vb,c0,c1,c2,c3,c4,c5,t1.low hM,t2.low hM,StmtsIn.low hM s1,StmtsIn.low hM s2⟩
theorem StmtsIn.stmts {L : Nat} {w : World} : ∀ {d : Nat} {v : Value} {T : SL},StmtsIn L w d v T→StmtsAt w.heap.size w d v T
 | 0,_,_,h => h
 | d + 1,v,T,h => by
  obtain ⟨a,cap,rfl,hn,h | ⟨b,o,rfl,hL,hlt,hc⟩⟩:=h
  ·exact ⟨a,cap,rfl,by omega,Or.inl h⟩
  ·refine ⟨_,cap,rfl,by omega,Or.inr ⟨b,o,rfl,hlt,fun i hi => ?_⟩⟩
   obtain ⟨ve,vf,va,vb,c0,c1,c2,c3,c4,c5,t1,t2,s1,s2⟩:=hc i hi
   exact ⟨ve,vf,va,vb,c0,c1,c2,c3,c4,c5,t1.toks,t2.toks,StmtsIn.stmts s1,StmtsIn.stmts s2⟩
theorem StmtsIn.succ {L : Nat} {w : World} : ∀ {d : Nat} {v : Value} {T : SL},StmtsIn L w d v T→StmtsIn L w (d + 1) v T
 | 0,v,T,h => by
  obtain ⟨e,a,cap,rfl⟩:=h
  exact ⟨a,cap,by rw [e],by omega,Or.inl e⟩
 | d + 1,v,T,h => by
  obtain ⟨a,cap,rfl,hn,h | ⟨b,o,rfl,hL,hlt,hc⟩⟩:=h
  ·exact ⟨a,cap,rfl,hn,Or.inl h⟩
  ·refine ⟨_,cap,rfl,hn,Or.inr ⟨b,o,rfl,hL,hlt,fun i hi => ?_⟩⟩
   obtain ⟨ve,vf,va,vb,c0,c1,c2,c3,c4,c5,t1,t2,s1,s2⟩:=hc i hi
   exact ⟨ve,vf,va,vb,c0,c1,c2,c3,c4,c5,t1,t2,StmtsIn.succ s1,StmtsIn.succ s2⟩
theorem StmtsIn.le {L : Nat} {w : World} {d e : Nat} {v : Value} {T : SL} (h : StmtsIn L w d v T) (hd : d≤e) : StmtsIn L w e v T:=by
 induction e with
 | zero =>
  obtain rfl : d=0:=by omega
  exact h
 | succ e ih =>
  by_cases c : d=e + 1
  ·subst c; exact h
  ·exact (ih (by omega)).succ
theorem StmtsIn.shape {L : Nat} {w : World} {d : Nat} {v : Value} {T : SL} (h : StmtsIn L w d v T) : ∃ a n cap,v=.slice a n cap:=by
 cases d with
 | zero => obtain ⟨_,a,cap,rfl⟩:=h; exact ⟨a,0,cap,rfl⟩
 | succ d => obtain ⟨a,cap,rfl,_⟩:=h; exact ⟨a,_,cap,rfl⟩
theorem ToksIn.shape {L : Nat} {w : World} {v : Value} {l : List (Int×Int)} (h : ToksIn L w v l) : ∃ a n cap,v=.slice a n cap:=by
 obtain ⟨a,cap,rfl,_⟩:=h; exact ⟨a,_,cap,rfl⟩
theorem StmtsIn.empty (L : Nat) (w : World) (d : Nat) : StmtsIn L w (d + 1) (.slice none 0 0) noSL:=⟨none,0,rfl,by show 0≤_; omega,Or.inl rfl⟩
theorem ToksIn.empty (L : Nat) (w : World) : ToksIn L w (.slice none 0 0) []:=⟨none,0,rfl,by show 0≤_; omega,Or.inl rfl⟩
structure Far (m : Nat) (a b : World) : Prop where
 block : ∀ k,k < a.heap.size→m≤k→b.heap[k]?=a.heap[k]?
 size : a.heap.size≤b.heap.size
theorem Far.set {m : Nat} (a : World) (b i : Nat) (v : Value) (hb : b < m) : Far m a (a.setCell ⟨b,i,none⟩ v):=⟨fun k _ hm => Below.heap_setCell _ _ _ k (by show ¬ k=b; omega),Nat.le_of_eq (World.size_setCell _ _ _).symm⟩
theorem ToksIn.far {L m : Nat} {a b : World} {v : Value} {l : List (Int×Int)} (h : ToksIn L a v l) (hm : m≤L) (hf : Far m a b) : ToksIn L b v l:=by
 obtain ⟨x,cap,rfl,hn,h | ⟨g,rfl,hL,hg,hc⟩⟩:=h
 ·exact ⟨x,cap,rfl,hn,Or.inl h⟩
 ·refine ⟨_,cap,rfl,hn,Or.inr ⟨g,rfl,hL,Nat.lt_of_lt_of_le hg hf.size,fun i hi => ?_⟩⟩
  rw [World.cell?_of_block (w:=a) (a:=⟨g,i * 2,none⟩) (hf.block g hg (by omega)),World.cell?_of_block (w:=a) (a:=⟨g,i * 2 + 1,none⟩) (hf.block g hg (by omega))]
  exact hc i hi
theorem StmtsIn.far {L m : Nat} {a b : World} {d : Nat} {v : Value} {T : SL} (h : StmtsIn L a d v T) (hm : m≤L) (h0 : 0 < L) (hf : Far m a b) : StmtsIn L b d v T:=h.save (fun k hk hL => hf.block k hk (by omega)) hf.size h0
end Go.Proofs.YtfaokaohhchdhaaGreatDoor
namespace Go.Proofs.YtfaokaohhchdhaaGreatDoor
open Go.RowKit
abbrev Rs:=List Wd×Bool
def wordQ (q : Rs) : Rs:=(q.1.tail,q.2 && !q.1.isEmpty)
def hitQ (w : Wd) (k : Nat) : Option Int:=match Lib.atoiAll (Lib.trimPrefix w.data.toList (mkL k)) with
 | .ok n => if bs (mkL k ++ Lib.itoa n)=w then some n else none
 | _ => none
def numKinds : List Nat:=[1,2,4,5,6]
def hitsQ (w : Wd) : Int×Int:=match numKinds.find? fun k => (hitQ w k).isSome with
 | some k => ((k : Int),(hitQ w k).getD 0)
 | none => (0,0)
def opTo (w : Wd) : Nat→Int×Int→Int×Int
 | 0,t => t
 | n + 1,t => if bs (opL (n + 1))=w then (3,((n + 1 : Nat) : Int)) else opTo w n t
def tokQ (w : Wd) : Int×Int:=opTo w 5 (hitsQ w)
def exprQ (nf : Nat) (par : Nat→Int) : List Wd→Nat→Int→List (Int×Int)×Rs
 | [],_,q => if 0 < q then ([tokQ (bs [])],([],false)) else ([],([],true))
 | w :: ws,n,q => if 0 < q then
   (if tokErr (tokQ w).1 (tokQ w).2 nf 6=0∧n < 24 then
    (tokQ w :: (exprQ nf par ws (n + 1) (q + asksOf (tokQ w).1 (tokQ w).2 par - 1)).1,(exprQ nf par ws (n + 1) (q + asksOf (tokQ w).1 (tokQ w).2 par - 1)).2)
   else ([tokQ w],(ws,false)))
  else ([],(w :: ws,true))
def exprS (nf : Nat) (par : Nat→Int) (q : Rs) : List (Int×Int)×Rs:=if q.2 then exprQ nf par q.1 0 1 else ([],q)
def q1 (k : Nat) (q : Rs) : Rs:=if hasN k then wordQ q else q
def q2 (nf : Nat) (par : Nat→Int) (k : Nat) (q : Rs) : List (Int×Int)×Rs:=if k=4 then ([],q1 k q) else exprS nf par (q1 k q)
def q3 (nf : Nat) (par : Nat→Int) (k : Nat) (q : Rs) : List (Int×Int)×Rs:=if k=2 then exprS nf par (q2 nf par k q).2 else ([],(q2 nf par k q).2)
def q4 (nf : Nat) (par : Nat→Int) (B : Rs→SL×Rs) (k : Nat) (q : Rs) : SL×Rs:=if hasA k then B (q3 nf par k q).2 else (noSL,(q3 nf par k q).2)
def q5 (nf : Nat) (par : Nat→Int) (B : Rs→SL×Rs) (k : Nat) (q : Rs) : SL×Rs:=if k=6 then B (q4 nf par B k q).2 else (noSL,(q4 nf par B k q).2)
def itQ (nf : Nat) (par : Nat→Int) (B : Rs→SL×Rs) (k : Nat) (q : Rs) : It :=
 ⟨mkNd k (if hasN k then numR q.1 else 0) (q2 nf par k q).1 (q3 nf par k q).1,(q4 nf par B k q).1,(q5 nf par B k q).1⟩
def loopQ (nf : Nat) (par : Nat→Int) (B : Rs→SL×Rs) : Nat→Rs→List It×Rs
 | 0,q => ([],(q.1,false))
 | u + 1,q => if q.2=false then ([],q) else if hdW q.1=cbW then ([],(q.1.tail,true)) else if kindOf (hdW q.1)=0 then ([],(q.1.tail,false)) else
   (itQ nf par B (kindOf (hdW q.1)) (q.1.tail,true) :: (loopQ nf par B u (q5 nf par B (kindOf (hdW q.1)) (q.1.tail,true)).2).1,(loopQ nf par B u (q5 nf par B (kindOf (hdW q.1)) (q.1.tail,true)).2).2)
def openQ (q : Rs) : Rs:=(q.1.tail,q.2 && (!q.1.isEmpty && decide (hdW q.1=obW)))
def blkQ (nf : Nat) (par : Nat→Int) : Nat→Rs→SL×Rs
 | 0,q => (noSL,(q.1.tail,false))
 | u + 1,q => (if (loopQ nf par (blkQ nf par u) ((openQ q).1.length + 1) (openQ q)).2.2 then mkT (loopQ nf par (blkQ nf par u) ((openQ q).1.length + 1) (openQ q)).1 else noSL,(loopQ nf par (blkQ nf par u) ((openQ q).1.length + 1) (openQ q)).2)
def headsQ : List Wd→List (Int×Int)
 | [] => []
 | w :: ws => if w=funW∧2≤ws.length then (numR ws,numR ws.tail) :: headsQ ws else headsQ ws
def startQ (q : Rs) : Rs:=wordQ (wordQ (q.1.tail,q.2 && (!q.1.isEmpty && decide (hdW q.1=funW))))
def leftQ (nf : Nat) (par : Nat→Int) (ws : List Wd) : Nat→Rs
 | 0 => (ws,true)
 | j + 1 => (blkQ nf par 6 (startQ (leftQ nf par ws j))).2
def bodyQ (nf : Nat) (par : Nat→Int) (ws : List Wd) (j : Nat) : SL:=(blkQ nf par 6 (startQ (leftQ nf par ws j))).1
def rqN (ws : List Wd) : Nat:=(headsQ ws).length
def rqP (ws : List Wd) (i : Nat) : Int:=((headsQ ws).getD i (0,0)).1
def rqL (ws : List Wd) (i : Nat) : Int:=((headsQ ws).getD i (0,0)).2
def rqB (ws : List Wd) (i : Nat) : SL:=bodyQ (rqN ws) (rqP ws) ws i
def rqLeft (ws : List Wd) : Rs:=leftQ (rqN ws) (rqP ws) ws (rqN ws)
/-! ### No more words than there were -/
theorem exprQ_len (nf : Nat) (par : Nat→Int) : ∀ (ws : List Wd) (n : Nat) (q : Int),(exprQ nf par ws n q).2.1.length≤ws.length
 | [],n,q => by unfold exprQ; split <;> simp
 | w :: ws,n,q => by
  unfold exprQ
  split
  ·split
   ·have:=exprQ_len nf par ws (n + 1) (q + asksOf (tokQ w).1 (tokQ w).2 par - 1)
    simp only [List.length_cons]; omega
   ·simp
  ·simp
theorem exprS_len (nf : Nat) (par : Nat→Int) (q : Rs) : (exprS nf par q).2.1.length≤q.1.length:=by
 unfold exprS
 split
 ·exact exprQ_len nf par _ _ _
 ·exact Nat.le_refl _
theorem wordQ_len (q : Rs) : (wordQ q).1.length≤q.1.length:=by unfold wordQ; simp
theorem q1_len (k : Nat) (q : Rs) : (q1 k q).1.length≤q.1.length:=by
 unfold q1; split
 ·exact wordQ_len q
 ·exact Nat.le_refl _
theorem q2_len (nf : Nat) (par : Nat→Int) (k : Nat) (q : Rs) : (q2 nf par k q).2.1.length≤q.1.length:=by
 unfold q2; split
 ·exact q1_len k q
 ·exact Nat.le_trans (exprS_len _ _ _) (q1_len k q)
theorem q3_len (nf : Nat) (par : Nat→Int) (k : Nat) (q : Rs) : (q3 nf par k q).2.1.length≤q.1.length:=by
 unfold q3; split
 ·exact Nat.le_trans (exprS_len _ _ _) (q2_len nf par k q)
 ·exact q2_len nf par k q
theorem q4_len (nf : Nat) (par : Nat→Int) {B : Rs→SL×Rs} (hB : ∀ q,(B q).2.1.length≤q.1.length) (k : Nat) (q : Rs) : (q4 nf par B k q).2.1.length≤q.1.length:=by
 unfold q4; split
 ·exact Nat.le_trans (hB _) (q3_len nf par k q)
 ·exact q3_len nf par k q
theorem q5_len (nf : Nat) (par : Nat→Int) {B : Rs→SL×Rs} (hB : ∀ q,(B q).2.1.length≤q.1.length) (k : Nat) (q : Rs) : (q5 nf par B k q).2.1.length≤q.1.length:=by
 unfold q5; split
 ·exact Nat.le_trans (hB _) (q4_len nf par hB k q)
 ·exact q4_len nf par hB k q
theorem loopQ_len (nf : Nat) (par : Nat→Int) {B : Rs→SL×Rs} (hB : ∀ q,(B q).2.1.length≤q.1.length) : ∀ (u : Nat) (q : Rs),(loopQ nf par B u q).2.1.length≤q.1.length
 | 0,q => Nat.le_refl _
 | u + 1,q => by
  unfold loopQ
  split
  ·exact Nat.le_refl _
  split
  ·simp
  split
  ·simp
  ·have h1:=loopQ_len nf par hB u (q5 nf par B (kindOf (hdW q.1)) (q.1.tail,true)).2
   have h2:=q5_len nf par hB (kindOf (hdW q.1)) (q.1.tail,true)
   have h3 : q.1.tail.length≤q.1.length:=by simp
   exact Nat.le_trans h1 (Nat.le_trans h2 h3)
theorem openQ_len (q : Rs) : (openQ q).1.length≤q.1.length:=by unfold openQ; simp
theorem blkQ_len (nf : Nat) (par : Nat→Int) : ∀ (u : Nat) (q : Rs),(blkQ nf par u q).2.1.length≤q.1.length
 | 0,q => by unfold blkQ; simp
 | u + 1,q => by
  unfold blkQ
  exact Nat.le_trans (loopQ_len nf par (blkQ_len nf par u) _ _) (openQ_len q)
/-! ### Tokens -/
theorem hit_head {w : Wd} {k : Nat} {n : Int} (h : hitQ w k=some n) : w=bs (mkL k ++ Lib.itoa n):=by
 unfold hitQ at h
 split at h
 ·split at h
  ·next e => injection h with h; subst h; exact e.symm
  ·cases h
 ·cases h
theorem mark_first {k : Nat} (hk : k ∈ numKinds) (n : Int) : ∃ c r,mkL k ++ Lib.itoa n=c :: r ∧
  ((k=1∧(c.toNat=45∧r ≠ []∨48≤c.toNat∧c.toNat≤57))∨(k=2∧c.toNat=118)∨(k=4∧c.toNat=46)∨(k=5∧c.toNat=110)∨(k=6∧c.toNat=102)):=by
 simp only [numKinds,List.mem_cons,List.not_mem_nil,or_false] at hk
 rcases hk with rfl | rfl | rfl | rfl | rfl
 ·obtain ⟨c,r,e,hc,_⟩:=itoa_bytes n
  exact ⟨c,r,e,Or.inl ⟨rfl,hc⟩⟩
 ·exact ⟨_,_,rfl,by simp⟩
 ·exact ⟨_,_,rfl,by simp⟩
 ·exact ⟨_,_,rfl,by simp⟩
 ·exact ⟨_,_,rfl,by simp⟩
theorem hit_one {w : Wd} {k k' : Nat} {n n' : Int} (hk : k ∈ numKinds) (hk' : k' ∈ numKinds) (h : hitQ w k=some n) (h' : hitQ w k'=some n') : k=k'∧n=n':=by
 have e:=hit_head h
 have e':=hit_head h'
 rw [e] at e'
 have e':=bs_inj e'
 obtain ⟨c,r,a,hc⟩:=mark_first hk n
 obtain ⟨c',r',a',hc'⟩:=mark_first hk' n'
 rw [a,a'] at e'
 injection e' with e1 e2
 subst e1
 have : k=k':=by omega
 subst this
 rw [h] at h'
 injection h' with h'
 exact ⟨rfl,h'⟩
theorem hits_some {w : Wd} {k : Nat} {n : Int} (hk : k ∈ numKinds) (h : hitQ w k=some n) : hitsQ w=((k : Int),n):=by
 unfold hitsQ
 cases hf : numKinds.find? fun k => (hitQ w k).isSome with
 | none =>
  have:=List.find?_eq_none.1 hf k hk
  rw [h] at this; simp at this
 | some k' =>
  have h1:=List.find?_some hf
  have h2:=List.mem_of_find?_eq_some hf
  obtain ⟨n',h3⟩:=Option.isSome_iff_exists.1 h1
  obtain ⟨rfl,rfl⟩:=hit_one hk h2 h h3
  simp only [h,Option.getD_some]
theorem hits_none {w : Wd} (h : ∀ k ∈ numKinds,hitQ w k=none) : hitsQ w=(0,0):=by
 unfold hitsQ
 have : (numKinds.find? fun k => (hitQ w k).isSome)=none:=by
  rw [List.find?_eq_none]
  intro k hk
  rw [h k hk]; simp
 rw [this]
theorem openQ_ob (ws : List Wd) : openQ (obW :: ws,true)=(ws,true):=by
 unfold openQ
 simp [hdW]
end Go.Proofs.YtfaokaohhchdhaaGreatDoor
