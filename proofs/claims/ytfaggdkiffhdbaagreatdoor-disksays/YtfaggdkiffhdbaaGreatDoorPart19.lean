/- image.Print: the text of a right program, by the program. -/
import Derived.Test.YtfaggdkiffhdbaaGreatDoorImgLine
import Derived.Test.YtfaggdkiffhdbaaGreatDoorPart18
import Derived.Lib.BufferRead
import Derived.Lib.AppendZeros
import Derived.Test.YtfaggdkiffhdbaaGreatDoorShelf
import Derived.Test.YtfaggdkiffhdbaaGreatDoorOwnRow
import Derived.Test.YtfaggdkiffhdbaaGreatDoorImgEnv
namespace Go.Proofs.YtfaggdkiffhdbaaGreatDoor
open Go.RowKit Go.Maps

theorem lnT_len {zs : List Int} (h : ∀ z ∈ zs,i64 z) : (lnT zs).length≤22 * zs.length + 1:=by
 unfold lnT
 rw [List.length_append,← lnTo_all]
 have:=lnTo_len h zs.length (Nat.le_refl _)
 simp only [List.length_cons,List.length_nil]; omega

theorem catB_len {f : Nat→List UInt8} {c : Nat} : ∀ (m i : Nat),(∀ k,k < m→(f (i + k)).length≤c)→(catB f i m).length≤m * c
 | 0,_,_ => by simp [catB]
 | m + 1,i,h => by
  have h0:=h 0 (by omega)
  have ih:=catB_len m (i + 1) fun k hk => by have:=h (k + 1) (by omega); rw [show i + (k + 1)=i + 1 + k by omega] at this; exact this
  rw [catB,List.length_append,Nat.succ_mul]
  simp only [Nat.add_zero] at h0
  omega

theorem insZs_len (i : In) : (insZs i).length=4 + i.n:=by simp [insZs]; omega

theorem code_line {np : Nat} {P : Nat→Pc} (h : codeErr np P=0) {j k : Nat} (hj : j < np) (hk : k < (P j).n) : (lnT (insZs ((P j).ins k))).length≤155:=by
 have h1:=lnT_len (code_i64 h hj hk)
 have h2:=(code_ins h hj hk).2.1
 rw [insZs_len] at h1
 omega

theorem head_i64 {np : Nat} {P : Nat→Pc} (h : codeErr np P=0) {j : Nat} (hj : j < np) : ∀ z ∈ headZs (P j),i64 z:=by
 obtain ⟨h1,h2,h3,h4⟩:=code_zero h
 obtain ⟨a,b,c,d⟩:=pcErr_zero (h3 j hj)
 intro z hz
 simp only [headZs,List.mem_cons,List.mem_nil_iff,or_false] at hz
 unfold i64
 rcases hz with rfl | rfl | rfl <;> omega

theorem proc_len {np : Nat} {P : Nat→Pc} (h : codeErr np P=0) {j : Nat} (hj : j < np) {m : Nat} (hm : m≤(P j).n) : (lnT (headZs (P j)) ++ codeT (P j).ins m).length≤400000:=by
 obtain ⟨h1,h2,h3,h4⟩:=code_zero h
 obtain ⟨a,b,c,d⟩:=pcErr_zero (h3 j hj)
 have e1:=lnT_len (head_i64 h hj)
 have e2:=catB_len (f:=fun k => lnT (insZs ((P j).ins k))) (c:=155) m 0 fun k hk => by rw [Nat.zero_add]; exact code_line h hj (by omega)
 have e3 : (headZs (P j)).length=3:=rfl
 rw [List.length_append]
 unfold codeT
 omega

theorem prog_len {np : Nat} {P : Nat→Pc} (h : codeErr np P=0) {j : Nat} (hj : j≤np) : (progT P j).length≤1600000:=by
 obtain ⟨h1,h2,h3,h4⟩:=code_zero h
 have e2:=catB_len (f:=fun k => pcT (P k)) (c:=400000) j 0 fun k hk => by rw [Nat.zero_add]; exact proc_len h (by omega) (Nat.le_refl _)
 unfold progT
 omega

/-- A new block of numbers. -/
theorem is_made (W : World) (zs : List Int) (n : Nat) (hn : zs.length=n) (hl : n≤1000) : IS 0 (W.alloc (.cells (zs.map (Value.int .i64)).toArray 3)) (.slice (some ⟨W.heap.size,0,none⟩) n n) zs:=by
 subst hn
 refine ⟨by simp,Or.inr ⟨W.heap.size,zs.length,_,rfl,Nat.zero_le _,heap_alloc_new W _,Nat.le_refl _,by unfold maxLen; omega,by simp,?_⟩⟩
 rw [Nat.mul_one]
 exact List.take_of_length_le (by simp)

/-- Numbers of memory behind a new row of four. -/
theorem append_args {ops : Array Oper} {rest : List Oper} {o : Oper} {a : Act} {Q : Exit→Act→World→Prop} (W : World) (hgd : o.guard=none) (s y : Operand)
  (ho : o.op=.call { callee:=.builtin .append,args:=#[s,y],argTypes:=#[25,25] }) (x1 x2 x3 x4 : Int) (B : Nat) (hB : W.heap.size=B) (hs : a.eval s=.slice (some ⟨B,0,none⟩) 4 4)
  (N : Nat) (hN : N≤W.heap.size) (x : Option Addr) (n c : Nat) (z : Nat→Int) (hy : a.eval y=.slice x n c) (hnv : NumsAt N W (.slice x n c) n z) (hn : n≤1000)
  (h : ∀ v' w2,IS 0 w2 v' (x1 :: x2 :: x3 :: x4 :: (List.range n).map z)→Below W.heap.size W w2→wpList Tryz.prog ops Q rest (a.put o.dst v') w2) :
  wpList Tryz.prog ops Q (o :: rest) a (W.alloc (.cells #[.int .i64 x1,.int .i64 x2,.int .i64 x3,.int .i64 x4] 3)):=by
 subst hB
 obtain ⟨i0,hi,hz0,hz1,hz2⟩:=info_parts info3i
 have hk : Below W.heap.size W (W.alloc (.cells #[.int .i64 x1,.int .i64 x2,.int .i64 x3,.int .i64 x4] 3)):=below_alloc _ _
 have hown : IS 0 (W.alloc (.cells #[.int .i64 x1,.int .i64 x2,.int .i64 x3,.int .i64 x4] 3)) (.slice (some ⟨W.heap.size,0,none⟩) 4 4) [x1,x2,x3,x4]:=is_made W [x1,x2,x3,x4] 4 rfl (by omega)
 obtain ⟨a',cap',e,hn1,hc⟩:=hnv
 cases e
 cases x with
 | none =>
  have hn0 : n=0:=by
   rcases hc with h | ⟨b,o,h,_⟩
   ·exact h
   ·cases h
  subst hn0
  refine Lib.wpList_append_run _ hgd s y 25 25 ho _ _ hs hy (.slice (some ⟨W.heap.size,0,none⟩) 4 4) (W.alloc (.cells #[.int .i64 x1,.int .i64 x2,.int .i64 x3,.int .i64 x4] 3)) ?_ (h _ _ hown hk)
  simp [Builtin.append_,run_underlying Tryz.underlying25,sizeOf,typeInfo,hi,Builtin.lenOf,Builtin.firstCells,storeCells]
 | some ad =>
  have hcell : ∀ j u,((List.range n).map fun k => Value.int .i64 (z k))[j]?=some u→(W.alloc (.cells #[.int .i64 x1,.int .i64 x2,.int .i64 x3,.int .i64 x4] 3)).cell? (ad.add j)=some u:=by
   intro j u hj
   have hjn : j < n:=by have:=(List.getElem?_eq_some_iff.1 hj).1; simpa using this
   rcases hc with h | ⟨b,o,h,hb,hcc⟩
   ·omega
   ·cases h
    rw [WideShapes.add_plain,hk.cell (p:=⟨b,o + j,none⟩) (Nat.lt_of_lt_of_le hb hN),hcc j hjn]
    simpa [hjn] using hj
  refine wpList_append_own_at _ hgd s y 25 ho 0 3 i0 (.int .i64 0) 1 8 Tryz.underlying25 hi hz0 hz1 hz2 rfl (by decide) _ _ _ hs hown ad n c ((List.range n).map fun k => Value.int .i64 (z k)) hy (by simp) hcell (fun u hu => by obtain ⟨k,_,rfl⟩:=List.mem_map.1 hu; rfl) (by unfold maxLen; simp only [List.length_cons,List.length_nil]; omega) (by simp only [List.length_cons,List.length_nil]; omega) (Nat.zero_le _) ?_
  intro v' w2 h1 h2 _ _
  refine h v' w2 ?_ (hk.grown h2 hk.size (fun k hk => by cases hk; exact Nat.le_refl _))
  unfold IS
  have e1 : (x1 :: x2 :: x3 :: x4 :: (List.range n).map z).length=[x1,x2,x3,x4].length + n:=by simp; omega
  have e2 : (x1 :: x2 :: x3 :: x4 :: (List.range n).map z).map (Value.int .i64)=[x1,x2,x3,x4].map (Value.int .i64) ++ (List.range n).map fun k => Value.int .i64 (z k):=by simp [Function.comp_def]
  rw [e1,e2]
  exact h1

/-- A row of bytes as a string. -/
theorem bytes_string {B : Nat} {w : World} {v : Value} {l : List UInt8} (h : BS B w v l) : (convert 22 9 v).run Tryz.prog w=.ok (.string (bs l)) w:=by
 rcases h.2 with ⟨rfl,h0⟩ | ⟨g,cap,cur,rfl,_,hg,_,_,_,ht⟩
 ·obtain rfl:=List.length_eq_zero_iff.1 h0
  exact Lib.run_convert_nil_bytes w 22 9 5 0 Tryz.underlying22 Tryz.underlying5 Tryz.underlying9
 ·rw [Nat.mul_one] at ht
  exact run_convert_bytes_back w 22 9 5 _ cap l Tryz.underlying22 Tryz.underlying5 Tryz.underlying9 (Lib.bytes_of_row hg ht)

def printL (np : Nat) (P : Nat→Pc) : List UInt8:=if codeErr np P=0 then progT P np else []

/-! ### Rows of words of the call's own -/

/-- All that was there is as it was,but for the row v; and v' is that row,or a new one. -/
structure Grown (w : World) (v : Value) (w' : World) (v' : Value) : Prop where
 os : w'.os=w.os
 tape : w'.tape=w.tape
 output : w'.output=w.output
 size : w.heap.size≤w'.heap.size
 block : ∀ k,k < w.heap.size→¬ v.ownBlock=some k→w'.heap[k]?=w.heap[k]?
 own : ∀ k,k < w.heap.size→v'.ownBlock=some k→v.ownBlock=some k

theorem Grown.refl (w : World) (v : Value) : Grown w v w v:=⟨rfl,rfl,rfl,Nat.le_refl _,fun _ _ _ => rfl,fun _ _ h => h⟩
theorem Grown.trans {a b c : World} {u v x : Value} (h : Grown a u b v) (k : Grown b v c x) : Grown a u c x :=
 ⟨k.os.trans h.os,k.tape.trans h.tape,k.output.trans h.output,Nat.le_trans h.size k.size,
  fun n hn hx => (k.block n (Nat.lt_of_lt_of_le hn h.size) fun e => hx (h.own n hn e)).trans (h.block n hn hx),
  fun n hn e => h.own n hn (k.own n (Nat.lt_of_lt_of_le hn h.size) e)⟩
theorem Grown.of {a b : World} (v : Value) (h : Below a.heap.size a b) : Grown a v b v:=⟨h.os,h.tape,h.output,h.size,fun n hn _ => h.block n hn,fun _ _ e => e⟩
theorem Grown.drew {a b : World} {u v : Value} (h : Grown a u b v) : Grown a u b.drew v:=⟨h.os,h.tape,h.output,h.size,h.block,h.own⟩

/-- A row of the words R,of blocks from B on. -/
def StrS (B : Nat) (w : World) (v : Value) (R : List ByteArray) : Prop:=w.ownsRow B 9 1 v R.length (R.map Value.string)

theorem StrS.nil (B : Nat) (w : World) : StrS B w (.slice none 0 0) []:=⟨rfl,Or.inl ⟨rfl,rfl⟩⟩

theorem StrS.low {B : Nat} {w : World} {v : Value} {R : List ByteArray} (h : StrS B w v R) : ∀ k,v.ownBlock=some k→B≤k:=by
 intro k hk
 rcases h.2 with ⟨rfl,_⟩ | ⟨g,cap,cur,rfl,hb,_⟩
 ·cases hk
 ·cases hk; exact hb

theorem StrS.lt {B : Nat} {w : World} {v : Value} {R : List ByteArray} (h : StrS B w v R) : ∀ k,v.ownBlock=some k→k < w.heap.size:=by
 intro k hk
 rcases h.2 with ⟨rfl,_⟩ | ⟨g,cap,cur,rfl,hb,hg,_⟩
 ·cases hk
 ·cases hk; exact (Array.getElem?_eq_some_iff.1 hg).1

theorem StrS.keep {B : Nat} {w w' : World} {v : Value} {R : List ByteArray} (h : StrS B w v R) (hb : Below w.heap.size w w') : StrS B w' v R:=by
 unfold StrS at *
 refine ⟨h.1,?_⟩
 rcases h.2 with ⟨rfl,h0⟩ | ⟨g,cap,cur,rfl,h1,h2,h3⟩
 ·exact Or.inl ⟨rfl,h0⟩
 ·exact Or.inr ⟨g,cap,cur,rfl,h1,by rw [hb.block g (Array.getElem?_eq_some_iff.1 h2).1]; exact h2,h3⟩

theorem Grown.low {B : Nat} {a b : World} {u v : Value} (h : Grown a u b v) (hu : ∀ k,u.ownBlock=some k→B≤k) (hB : B≤a.heap.size) : Below B a b :=
 ⟨h.os,h.tape,h.output,h.size,fun k hk => h.block k (Nat.lt_of_lt_of_le hk hB) fun e => by have:=hu k e; omega⟩

theorem infoStr : (Tryz.prog.info? 9).map (fun i => (i.zero,i.size,i.bytes))=some (some (.string ⟨#[]⟩),1,16):=by kernel_rfl

theorem strs_cell (L : List ByteArray) : ∀ u ∈ L.map Value.string,u.oneCell'=true:=by
 intro u hu
 obtain ⟨x,_,rfl⟩:=List.mem_map.1 hu
 rfl

/-- Words more at the end of a row of the call's own. -/
theorem put_strs {ops : Array Oper} {rest : List Oper} {o : Oper} {a : Act} {Q : Exit→Act→World→Prop} (w : World) (hgd : o.guard=none) (s y : Operand)
  (ho : o.op=.call { callee:=.builtin .append,args:=#[s,y],argTypes:=#[63,63] }) (base : Nat) (v : Value) (R L : List ByteArray) (hs : a.eval s=v) (hown : StrS base w v R)
  (t : TypeId) (B m : Nat) (hB : w.heap.size=B) (hm : L.length=m) (hy : a.eval y=.slice (some ⟨B,0,none⟩) m m) (hR : R.length + L.length≤1000000) (hbase : base≤w.heap.size)
  (h : ∀ v' w2,StrS base w2 v' (R ++ L)→Grown w v w2 v'→wpList Tryz.prog ops Q rest (a.put o.dst v') w2) :
  wpList Tryz.prog ops Q (o :: rest) a (w.alloc (.cells (L.map Value.string).toArray t)):=by
 subst hB
 subst hm
 obtain ⟨i0,hi,hz0,hz1,hz2⟩:=info_parts infoStr
 have hk : Below w.heap.size w (w.alloc (.cells (L.map Value.string).toArray t)):=below_alloc _ _
 refine wpList_append_own_at _ hgd s y 63 ho base 9 i0 (.string ⟨#[]⟩) 1 16 Tryz.underlying63 hi hz0 hz1 hz2 rfl (by decide) v _ _ hs (hown.keep hk) ⟨w.heap.size,0,none⟩ L.length L.length (L.map Value.string) hy (by simp) (fun j u hj => ?_) (strs_cell L) (by unfold maxLen; omega) (by omega) (Nat.le_trans hbase hk.size) ?_
 ·rw [WideShapes.add_plain,Nat.zero_add,World.cell?_alloc_new]
  simpa using hj
 ·intro v' w2 h1 h2 _ h4
  refine h v' w2 ?_ ⟨h2.os,h2.tape,h2.output,Nat.le_trans hk.size h2.size,fun k hk1 hk2 => ?_,fun k hk1 hk2 => ?_⟩
  ·unfold StrS
   rw [List.length_append,List.map_append]
   exact h1
  ·rw [h2.block k (Nat.lt_of_lt_of_le hk1 hk.size) (fun e => hk2 e.symm)]
   exact hk.block k hk1
  ·rcases h4 with h4 | h4
   ·rw [← h4]; exact hk2
   ·have h5 : (w.alloc (.cells (L.map Value.string).toArray t)).heap.size=k:=Option.some.inj (h4.symm.trans hk2)
    have h6:=hk.size
    omega

theorem put_str {ops : Array Oper} {rest : List Oper} {o : Oper} {a : Act} {Q : Exit→Act→World→Prop} (w : World) (hgd : o.guard=none) (s y : Operand)
  (ho : o.op=.call { callee:=.builtin .append,args:=#[s,y],argTypes:=#[63,63] }) (base : Nat) (v : Value) (R : List ByteArray) (x : ByteArray) (hs : a.eval s=v) (hown : StrS base w v R)
  (t : TypeId) (B : Nat) (hB : w.heap.size=B) (hy : a.eval y=.slice (some ⟨B,0,none⟩) 1 1) (hR : R.length + 1≤1000000) (hbase : base≤w.heap.size)
  (h : ∀ v' w2,StrS base w2 v' (R ++ [x])→Grown w v w2 v'→wpList Tryz.prog ops Q rest (a.put o.dst v') w2) :
  wpList Tryz.prog ops Q (o :: rest) a (w.alloc (.cells #[.string x] t)) :=
 put_strs w hgd s y ho base v R [x] hs hown t B 1 hB rfl hy hR hbase h

end Go.Proofs.YtfaggdkiffhdbaaGreatDoor
