/- The tokens of an expression, by the reader. -/
import Derived.Test.YtfaokaohhchdhaaGreatDoorPart27
import Derived.Deep.LoopGhost
import Derived.Lib.ItoaLen
import Derived.Laws.Concat
import Derived.Test.YtfaokaohhchdhaaGreatDoorPart1
namespace Go.Proofs.YtfaokaohhchdhaaGreatDoor
open Go.RowKit Go.Maps
/-! ### Rows of tokens of the call's own -/
def flatT : List (Int×Int)→List Value
 | [] => []
 | t :: l => .int .i64 t.1 :: .int .i64 t.2 :: flatT l
theorem flatT_append : ∀ (l m : List (Int×Int)),flatT (l ++ m)=flatT l ++ flatT m
 | [],_ => rfl
 | t :: l,m => by simp [flatT,flatT_append l m]
theorem flatT_at : ∀ (l : List (Int×Int)) (i : Nat),i < l.length→(flatT l)[i * 2]?=some (.int .i64 (l.getD i (0,0)).1)∧(flatT l)[i * 2 + 1]?=some (.int .i64 (l.getD i (0,0)).2)
 | [],i,h => absurd h (Nat.not_lt_zero _)
 | t :: l,0,_ => ⟨rfl,rfl⟩
 | t :: l,i + 1,h => by
  have:=flatT_at l i (by simpa using h)
  rw [show (i + 1) * 2=i * 2 + 1 + 1 by omega]
  simpa [flatT] using this
def TS (B : Nat) (w : World) (v : Value) (l : List (Int×Int)) : Prop:=w.ownsRow B 199 2 v l.length (flatT l)
def ToksIn (L : Nat) (w : World) (v : Value) (l : List (Int×Int)) : Prop :=
 ∃ a cap,v=.slice a l.length cap∧l.length≤min cap 100000∧(l=[]∨∃ g,a=some ⟨g,0,none⟩∧L≤g∧g < w.heap.size∧∀ i,i < l.length→w.cell? ⟨g,i * 2,none⟩=some (.int .i64 (l.getD i (0,0)).1)∧w.cell? ⟨g,i * 2 + 1,none⟩=some (.int .i64 (l.getD i (0,0)).2))
theorem TS.toks {B : Nat} {w : World} {v : Value} {l : List (Int×Int)} (h : TS B w v l) (hl : l.length≤100000) : ToksIn B w v l:=by
 rcases h.2 with ⟨rfl,h0⟩ | ⟨g,cap,cur,rfl,hb,hg,hlc,_⟩
 ·have e : l=[]:=List.eq_nil_of_length_eq_zero h0
  subst e
  exact ⟨none,0,rfl,by simp,Or.inl rfl⟩
 ·refine ⟨_,cap,rfl,by omega,Or.inr ⟨g,rfl,hb,(Array.getElem?_eq_some_iff.1 hg).1,fun i hi => ?_⟩⟩
  obtain ⟨e1,e2⟩:=flatT_at l i hi
  rw [h.cellAt _ (by omega),h.cellAt _ (by omega),e1,e2]
  exact ⟨rfl,rfl⟩
theorem ToksIn.low {L M : Nat} {w : World} {v : Value} {l : List (Int×Int)} (h : ToksIn L w v l) (hM : M≤L) : ToksIn M w v l:=by
 obtain ⟨a,cap,rfl,hn,h | ⟨g,rfl,hL,hg,hc⟩⟩:=h
 ·exact ⟨a,cap,rfl,hn,Or.inl h⟩
 ·exact ⟨_,cap,rfl,hn,Or.inr ⟨g,rfl,by omega,hg,hc⟩⟩
theorem info75 : (Tryz.prog.info? 199).map (fun i => (i.zero,i.size,i.bytes))=some (some (.agg #[.int .i64 0,.int .i64 0]),2,16):=by kernel_rfl
theorem TS.keep {B : Nat} {w w' : World} {v : Value} {l : List (Int×Int)} (h : TS B w v l) (hb : Below w.heap.size w w') : TS B w' v l:=by
 refine ⟨h.1,?_⟩
 rcases h.2 with ⟨rfl,h0⟩ | ⟨g,cap,cur,rfl,h1,h2,h3⟩
 ·exact Or.inl ⟨rfl,h0⟩
 ·exact Or.inr ⟨g,cap,cur,rfl,h1,by rw [hb.block g (Array.getElem?_eq_some_iff.1 h2).1]; exact h2,h3⟩
theorem append_tok {ops : Array Oper} {rest : List Oper} {o : Oper} {a : Act} {Q : Exit→Act→World→Prop} (w : World) (hgd : o.guard=none) (s y : Operand)
  (ho : o.op=.call { callee:=.builtin .append,args:=#[s,y],argTypes:=#[194,194] }) (base : Nat) (v : Value) (l : List (Int×Int)) (k z : Int) (hs : a.eval s=v) (hown : TS base w v l)
  (t : TypeId) (B : Nat) (hB : w.heap.size=B) (hy : a.eval y=.slice (some ⟨B,0,none⟩) 1 1) (hR : l.length + 1≤1000000) (hbase : base≤w.heap.size)
  (h : ∀ v' w2,Hid (TS base w2 v' (l ++ [(k,z)]))→Hid (Grow w v w2 v')→wpList Tryz.prog ops Q rest (a.put o.dst v') w2) :
  wpList Tryz.prog ops Q (o :: rest) a (w.alloc (.cells #[.int .i64 k,.int .i64 z] t)):=by
 subst hB
 obtain ⟨i0,hi,hz0,hz1,hz2⟩:=info_parts info75
 have hk : Below w.heap.size w (w.alloc (.cells #[.int .i64 k,.int .i64 z] t)):=below_alloc _ _
 refine wpList_append_own_at _ hgd s y 194 ho base 199 i0 (.agg #[.int .i64 0,.int .i64 0]) 2 16 Tryz.underlying194 hi hz0 hz1 hz2 rfl (by decide) v _ _ hs (hown.keep hk) ⟨w.heap.size,0,none⟩ 1 1 [.int .i64 k,.int .i64 z] hy rfl (fun j u hj => ?_) (ints_oneCell .i64 [k,z]) (by unfold maxLen; omega) (by omega) (Nat.le_trans hbase hk.size) ?_
 ·rw [WideShapes.add_plain,Nat.zero_add,World.cell?_alloc_new]
  show ([Value.int .i64 k,.int .i64 z].toArray)[j]?=some u
  rw [List.getElem?_toArray]
  exact hj
 ·intro v' w2 h1 h2 _ h4
  refine h v' w2 ?_ ⟨h2.os,h2.tape,h2.output,Nat.le_trans hk.size h2.size,fun k hk1 hk2 => ?_,fun k hk1 hk2 => ?_⟩
  ·show TS _ _ _ _
   unfold TS
   rw [List.length_append,flatT_append]
   exact h1
  ·rw [h2.block k (Nat.lt_of_lt_of_le hk1 hk.size) (fun e => hk2 e.symm)]
   exact hk.block k hk1
  ·rcases h4 with h4 | h4
   ·rw [← h4]; exact hk2
   ·have h5:=Option.some.inj (h4.symm.trans hk2)
    have h6:=hk.size
    omega
theorem TS.own {B : Nat} {w : World} {v : Value} {l : List (Int×Int)} (h : TS B w v l) : ∀ k,v.ownBlock=some k→B≤k:=by
 intro k hk
 rcases h.2 with ⟨rfl,_⟩ | ⟨g,cap,cur,rfl,hb,_⟩
 ·cases hk
 ·cases hk; exact hb
theorem bs_size (l : List UInt8) : (bs l).size=l.length:=by show l.toArray.size=_; simp
theorem bs_append (a b : List UInt8) : bs a ++ bs b=bs (a ++ b):=by unfold bs; rw [ByteArray.mk_append_mk]
theorem boxG {w w1 : World} {cs : Array Value} {t : TypeId} {v v' : Value} (hg : Grow (w.alloc (.cells cs t)) v w1 v') (hv : ∀ k,v.ownBlock=some k→k < w.heap.size) (i : Nat) {c : Value} (h : cs[i]?=some c) : w1.cell? ⟨w.heap.size,i,none⟩=some c:=by
 rw [World.cell?_of_block (w:=w.alloc (.cells cs t)) (a:=⟨w.heap.size,i,none⟩) (hg.block w.heap.size (by simp) fun e => by have:=hv _ e; omega),World.cell?_alloc_new]
 exact h
def nPart (s : Nd) : List Wd:=if s.kind=1∨s.kind=2 then [numW s.num] else []
def aPart (B : SL→List Wd) (s : Nd) (a : SL) : List Wd:=if s.kind=6∨s.kind=7 then B a else []
def bPart (B : SL→List Wd) (s : Nd) (b : SL) : List Wd:=if s.kind=6 then B b else []
def tN (s : Nd) (j : Nat) : Nat:=if j=0 then s.ne else s.nf
def tK (s : Nd) (j : Nat) : Nat→Int:=if j=0 then s.ek else s.fk
def tZ (s : Nd) (j : Nat) : Nat→Int:=if j=0 then s.ez else s.fz
def tPart (s : Nd) : Nat→List Wd
 | 0 => []
 | j + 1 => tPart s j ++ toksW (tK s j) (tZ s j) (tN s j)
theorem tPart_two (s : Nd) : tPart s 2=toksW s.ek s.ez s.ne ++ toksW s.fk s.fz s.nf:=by simp [tPart,tK,tZ,tN]
theorem stmtW_all (B : SL→List Wd) (s : Nd) (a b : SL) : stmtW B s a b=((([bs (stL s.kind.toNat)] ++ nPart s) ++ tPart s 2) ++ aPart B s a) ++ bPart B s b:=by
 rw [tPart_two]
 simp [stmtW,nPart,aPart,bPart]
structure StF (nf : Nat) (locals : Int) (s : Nd) (a b : SL) : Prop where
 k1 : 1≤s.kind
 k8 : s.kind≤8
 tok : ∀ j,j < 2→∀ i,i < tN s j→tokErr (tK s j i) (tZ s j i) nf locals=0
 num : -9223372036854775808≤s.num∧s.num≤9223372036854775807
theorem stFacts {nf : Nat} {par : Nat→Int} {locals : Int} {s : Nd} {a b : SL} (hl : locals≤6) (hs : stErr nf par locals s a.len b.len=0) : StF nf locals s a b:=by
 obtain ⟨f0,f1,f2,f3⟩:=stErr_zero hs
 obtain ⟨k1,k2,kn,ke,kf,ka,kb⟩:=formErr_zero f0
 refine ⟨k1,k2,fun j hj i hi => ?_,?_⟩
 ·have : j=0∨j=1:=by omega
  rcases this with rfl | rfl
  ·have hi : i < s.ne:=hi
   exact expr_toks (f2.resolve_left fun c => by omega) i hi
  ·have hi : i < s.nf:=hi
   exact expr_toks (f3.resolve_left fun c => by omega) i hi
 ·unfold numErr at f1
  split at f1
  ·cases f1
  ·omega
def ToksLow (L : Nat) (w : World) (v : Value) (n : Nat) (k z : Nat→Int) : Prop :=
 ∃ a cap,v=.slice a n cap∧n≤min cap 100000∧(n=0∨∃ b o,a=some ⟨b,o,none⟩∧L≤b∧b < w.heap.size∧∀ i,i < n→w.cell? ⟨b,o + i * 2,none⟩=some (.int .i64 (k i))∧w.cell? ⟨b,o + i * 2 + 1,none⟩=some (.int .i64 (z i)))
theorem ToksIn.lowT {L : Nat} {w : World} {v : Value} {l : List (Int×Int)} (h : ToksIn L w v l) : ToksLow L w v l.length (fun i => (l.getD i (0,0)).1) (fun i => (l.getD i (0,0)).2):=by
 obtain ⟨a,cap,rfl,hn,h | ⟨g,rfl,hL,hg,hc⟩⟩:=h
 ·exact ⟨a,cap,rfl,hn,Or.inl (by rw [h]; rfl)⟩
 ·exact ⟨_,cap,rfl,hn,Or.inr ⟨g,0,rfl,hL,hg,fun i hi => by rw [Nat.zero_add]; exact hc i hi⟩⟩
theorem ToksLow.save {X L : Nat} {w w' : World} {v : Value} {n : Nat} {k z : Nat→Int} (h : ToksLow L w v n k z) (hs : ∀ k,k < w.heap.size→L≤k→w'.heap[k]?=w.heap[k]?) (hz : w.heap.size≤w'.heap.size) (_ : X < L) : ToksLow L w' v n k z:=by
 obtain ⟨a,cap,rfl,hn,h | ⟨b,o,rfl,hL,hg,hc⟩⟩:=h
 ·exact ⟨a,cap,rfl,hn,Or.inl h⟩
 ·refine ⟨_,cap,rfl,hn,Or.inr ⟨b,o,rfl,hL,Nat.lt_of_lt_of_le hg hz,fun i hi => ?_⟩⟩
  rw [World.cell?_of_block (w:=w) (a:=⟨b,o + i * 2,none⟩) (hs b hg hL),World.cell?_of_block (w:=w) (a:=⟨b,o + i * 2 + 1,none⟩) (hs b hg hL)]
  exact hc i hi
theorem ToksLow.toks {L : Nat} {w : World} {v : Value} {n : Nat} {k z : Nat→Int} (h : ToksLow L w v n k z) : ToksAt w.heap.size w v n k z:=by
 obtain ⟨a,cap,rfl,hn,h | ⟨b,o,rfl,hL,hg,hc⟩⟩:=h
 ·exact ⟨a,cap,rfl,by omega,Or.inl h⟩
 ·exact ⟨_,cap,rfl,by omega,Or.inr ⟨b,o,rfl,hg,hc⟩⟩
theorem ToksLow.low {L M : Nat} {w : World} {v : Value} {n : Nat} {k z : Nat→Int} (h : ToksLow L w v n k z) (hM : M≤L) : ToksLow M w v n k z:=by
 obtain ⟨a,cap,rfl,hn,h | ⟨b,o,rfl,hL,hg,hc⟩⟩:=h
 ·exact ⟨a,cap,rfl,hn,Or.inl h⟩
 ·exact ⟨_,cap,rfl,hn,Or.inr ⟨b,o,rfl,by omega,hg,hc⟩⟩
def StmtsIn (L : Nat) (w : World) : Nat→Value→SL→Prop
 | 0,v,T => T.len=0∧∃ a cap,v=.slice a 0 cap
 | d + 1,v,T => ∃ a cap,v=.slice a T.len cap∧T.len≤100000∧(T.len=0∨∃ b o,a=some ⟨b,o,none⟩∧L≤b∧b < w.heap.size∧∀ i,i < T.len →
   ∃ ve vf va vb,w.cell? ⟨b,o + i * 6,none⟩=some (.int .i64 (T.nd i).kind)∧w.cell? ⟨b,o + i * 6 + 1,none⟩=some (.int .i64 (T.nd i).num)∧w.cell? ⟨b,o + i * 6 + 2,none⟩=some ve∧w.cell? ⟨b,o + i * 6 + 3,none⟩=some vf ∧
    w.cell? ⟨b,o + i * 6 + 4,none⟩=some va∧w.cell? ⟨b,o + i * 6 + 5,none⟩=some vb ∧
    ToksLow L w ve (T.nd i).ne (T.nd i).ek (T.nd i).ez∧ToksLow L w vf (T.nd i).nf (T.nd i).fk (T.nd i).fz∧StmtsIn L w d va (T.sub i false)∧StmtsIn L w d vb (T.sub i true))
theorem StmtsIn.save {L : Nat} {w w' : World} (hs : ∀ k,k < w.heap.size→L≤k→w'.heap[k]?=w.heap[k]?) (hz : w.heap.size≤w'.heap.size) (h0 : 0 < L) : ∀ {d : Nat} {v : Value} {T : SL},StmtsIn L w d v T→StmtsIn L w' d v T
 | 0,_,_,h => h
 | d + 1,v,T,h => by
  obtain ⟨a,cap,rfl,hn,h | ⟨b,o,rfl,hL,hlt,hc⟩⟩:=h
  ·exact ⟨a,cap,rfl,hn,Or.inl h⟩
  ·refine ⟨_,cap,rfl,hn,Or.inr ⟨b,o,rfl,hL,Nat.lt_of_lt_of_le hlt hz,fun i hi => ?_⟩⟩
   obtain ⟨ve,vf,va,vb,c0,c1,c2,c3,c4,c5,t1,t2,s1,s2⟩:=hc i hi
   have e : ∀ o,w'.cell? ⟨b,o,none⟩=w.cell? ⟨b,o,none⟩:=fun o => World.cell?_of_block (w:=w) (a:=⟨b,o,none⟩) (hs b hlt hL)
   exact ⟨ve,vf,va,vb,by rw [e]; exact c0,by rw [e]; exact c1,by rw [e]; exact c2,by rw [e]; exact c3,by rw [e]; exact c4,by rw [e]; exact c5,
    t1.save hs hz h0,t2.save hs hz h0,StmtsIn.save hs hz h0 s1,StmtsIn.save hs hz h0 s2⟩
theorem StmtsIn.low {L M : Nat} {w : World} (hM : M≤L) : ∀ {d : Nat} {v : Value} {T : SL},StmtsIn L w d v T→StmtsIn M w d v T
 | 0,_,_,h => h
 | d + 1,v,T,h => by
  obtain ⟨a,cap,rfl,hn,h | ⟨b,o,rfl,hL,hlt,hc⟩⟩:=h
  ·exact ⟨a,cap,rfl,hn,Or.inl h⟩
  ·refine ⟨_,cap,rfl,hn,Or.inr ⟨b,o,rfl,by omega,hlt,fun i hi => ?_⟩⟩
   obtain ⟨ve,vf,va,vb,c0,c1,c2,c3,c4,c5,t1,t2,s1,s2⟩:=hc i hi
   exact ⟨ve,vf,va,vb,c0,c1,c2,c3,c4,c5,t1.low hM,t2.low hM,StmtsIn.low hM s1,StmtsIn.low hM s2⟩
theorem StmtsIn.stmts {L : Nat} {w : World} : ∀ {d : Nat} {v : Value} {T : SL},StmtsIn L w d v T→StmtsAt w.heap.size w d v T
 | 0,_,_,h => h
 | d + 1,v,T,h => by
  obtain ⟨a,cap,rfl,hn,h | ⟨b,o,rfl,hL,hlt,hc⟩⟩:=h
  ·exact ⟨a,cap,rfl,by omega,Or.inl h⟩
  ·refine ⟨_,cap,rfl,by omega,Or.inr ⟨b,o,rfl,hlt,fun i hi => ?_⟩⟩
   obtain ⟨ve,vf,va,vb,c0,c1,c2,c3,c4,c5,t1,t2,s1,s2⟩:=hc i hi
   exact ⟨ve,vf,va,vb,c0,c1,c2,c3,c4,c5,t1.toks,t2.toks,StmtsIn.stmts s1,StmtsIn.stmts s2⟩
theorem StmtsIn.succ {L : Nat} {w : World} : ∀ {d : Nat} {v : Value} {T : SL},StmtsIn L w d v T→StmtsIn L w (d + 1) v T
 | 0,v,T,h => by
  obtain ⟨e,a,cap,rfl⟩:=h
  exact ⟨a,cap,by rw [e],by omega,Or.inl e⟩
 | d + 1,v,T,h => by
  obtain ⟨a,cap,rfl,hn,h | ⟨b,o,rfl,hL,hlt,hc⟩⟩:=h
  ·exact ⟨a,cap,rfl,hn,Or.inl h⟩
  ·refine ⟨_,cap,rfl,hn,Or.inr ⟨b,o,rfl,hL,hlt,fun i hi => ?_⟩⟩
   obtain ⟨ve,vf,va,vb,c0,c1,c2,c3,c4,c5,t1,t2,s1,s2⟩:=hc i hi
   exact ⟨ve,vf,va,vb,c0,c1,c2,c3,c4,c5,t1,t2,StmtsIn.succ s1,StmtsIn.succ s2⟩
theorem StmtsIn.le {L : Nat} {w : World} {d e : Nat} {v : Value} {T : SL} (h : StmtsIn L w d v T) (hd : d≤e) : StmtsIn L w e v T:=by
 induction e with
 | zero =>
  obtain rfl : d=0:=by omega
  exact h
 | succ e ih =>
  by_cases c : d=e + 1
  ·subst c; exact h
  ·exact (ih (by omega)).succ
theorem StmtsIn.shape {L : Nat} {w : World} {d : Nat} {v : Value} {T : SL} (h : StmtsIn L w d v T) : ∃ a n cap,v=.slice a n cap:=by
 cases d with
 | zero => obtain ⟨_,a,cap,rfl⟩:=h; exact ⟨a,0,cap,rfl⟩
 | succ d => obtain ⟨a,cap,rfl,_⟩:=h; exact ⟨a,_,cap,rfl⟩
theorem ToksIn.shape {L : Nat} {w : World} {v : Value} {l : List (Int×Int)} (h : ToksIn L w v l) : ∃ a n cap,v=.slice a n cap:=by
 obtain ⟨a,cap,rfl,_⟩:=h; exact ⟨a,_,cap,rfl⟩
theorem StmtsIn.empty (L : Nat) (w : World) (d : Nat) : StmtsIn L w (d + 1) (.slice none 0 0) noSL:=⟨none,0,rfl,by show 0≤_; omega,Or.inl rfl⟩
theorem ToksIn.empty (L : Nat) (w : World) : ToksIn L w (.slice none 0 0) []:=⟨none,0,rfl,by show 0≤_; omega,Or.inl rfl⟩
structure Far (m : Nat) (a b : World) : Prop where
 block : ∀ k,k < a.heap.size→m≤k→b.heap[k]?=a.heap[k]?
 size : a.heap.size≤b.heap.size
theorem Far.trans {m : Nat} {a b c : World} (h : Far m a b) (k : Far m b c) : Far m a c:=⟨fun n hn hm => (k.block n (Nat.lt_of_lt_of_le hn h.size) hm).trans (h.block n hn hm),Nat.le_trans h.size k.size⟩
theorem Far.refl (m : Nat) (a : World) : Far m a a:=⟨fun _ _ _ => rfl,Nat.le_refl _⟩
theorem Far.of {X m : Nat} {a b : World} (h : Save X a b) (hX : X < m) : Far m a b:=⟨fun k hk hm => h.block k hk (by omega),h.size⟩
theorem Far.set {m : Nat} (a : World) (b i : Nat) (v : Value) (hb : b < m) : Far m a (a.setCell ⟨b,i,none⟩ v):=⟨fun k _ hm => Below.heap_setCell _ _ _ k (by show ¬ k=b; omega),Nat.le_of_eq (World.size_setCell _ _ _).symm⟩
theorem ToksIn.far {L m : Nat} {a b : World} {v : Value} {l : List (Int×Int)} (h : ToksIn L a v l) (hm : m≤L) (hf : Far m a b) : ToksIn L b v l:=by
 obtain ⟨x,cap,rfl,hn,h | ⟨g,rfl,hL,hg,hc⟩⟩:=h
 ·exact ⟨x,cap,rfl,hn,Or.inl h⟩
 ·refine ⟨_,cap,rfl,hn,Or.inr ⟨g,rfl,hL,Nat.lt_of_lt_of_le hg hf.size,fun i hi => ?_⟩⟩
  rw [World.cell?_of_block (w:=a) (a:=⟨g,i * 2,none⟩) (hf.block g hg (by omega)),World.cell?_of_block (w:=a) (a:=⟨g,i * 2 + 1,none⟩) (hf.block g hg (by omega))]
  exact hc i hi
theorem StmtsIn.far {L m : Nat} {a b : World} {d : Nat} {v : Value} {T : SL} (h : StmtsIn L a d v T) (hm : m≤L) (h0 : 0 < L) (hf : Far m a b) : StmtsIn L b d v T:=h.save (fun k hk hL => hf.block k hk (by omega)) hf.size h0
end Go.Proofs.YtfaokaohhchdhaaGreatDoor
