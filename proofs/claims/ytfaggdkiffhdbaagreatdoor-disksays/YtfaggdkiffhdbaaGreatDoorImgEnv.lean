/- What the numbers' tables hold, and that they stay so; rows of bytes and of numbers of the call's own; strconv.Itoa, Atoi, AppendInt, strings.Split and Cut as image calls them. -/
import Derived.Test.YtfaggdkiffhdbaaGreatDoorShelf
import Derived.Test.YtfaggdkiffhdbaaGreatDoorOwnRow
import Derived.Test.YtfaggdkiffhdbaaGreatDoorImgRead
import Derived.Test.YtfaggdkiffhdbaaGreatDoorPart6
import Derived.Lib.ItoaLen
import Derived.Lib.OthersKept
import Derived.Lib.BufferKept
import Derived.Deep.Light
namespace Go.Proofs.YtfaggdkiffhdbaaGreatDoor
open Go.RowKit Go.Maps

/-- The tables that the numbers' functions read,below block N. -/
structure NEnv (N : Nat) (w : World) : Prop where
 low : 8≤N
 pow : Lib.TabIs Tryz.prog w "internal/strconv.uint64pow10" .u64 Lib.pow10Tab
 syn : ∃ tp p,w.var? Tryz.prog "strconv.ErrSyntax"=some #[.iface tp p]
 rng : ∃ tp p,w.var? Tryz.prog "strconv.ErrRange"=some #[.iface tp p]
 max : ∃ m,w.cell? ⟨0,0,none⟩=some (.int .i64 m)

theorem ngPow : Tryz.prog.globalNamed "internal/strconv.uint64pow10"=some 1:=by kernel_rfl
theorem ngSyn : Tryz.prog.globalNamed "strconv.ErrSyntax"=some 2:=by kernel_rfl
theorem ngRng : Tryz.prog.globalNamed "strconv.ErrRange"=some 3:=by kernel_rfl

theorem var_block {P : Program} {w w' : World} {n : String} {g : Nat} (hg : P.globalNamed n=some g) (hb : w'.heap[g]?=w.heap[g]?) : w'.var? P n=w.var? P n:=by
 unfold World.var?
 rw [hg]
 simp only [Option.bind_some,hb]

theorem NEnv.below {N : Nat} {w w' : World} (h : NEnv N w) (hb : Below N w w') : NEnv N w':=by
 have l:=h.low
 refine ⟨l,?_,?_,?_,?_⟩
 ·unfold Lib.TabIs; rw [var_block ngPow (hb.block 1 (by omega))]; exact h.pow
 ·rw [var_block ngSyn (hb.block 2 (by omega))]; exact h.syn
 ·rw [var_block ngRng (hb.block 3 (by omega))]; exact h.rng
 ·rw [hb.cell (p:=⟨0,0,none⟩) (by show 0 < N; omega)]; exact h.max

theorem nbelow_grow (w : World) (k : Nat) (os : Array Obj) : Below w.heap.size w (Sort.grow (w.drewN k) os) :=
 ⟨rfl,rfl,rfl,by simp [Sort.grow,World.drewN],fun j hj => by
  show (w.heap ++ os)[j]?=w.heap[j]?
  rw [Array.getElem?_append_left hj]⟩

/-- strconv.Itoa. -/
theorem nitoa (N : Nat) (z : Int) (h : i64 z) (w : World) (he : NEnv N w) :
  Calls Tryz.prog 38 #[.int .i64 z] w fun e w' => e=.returned (.string (bs (Lib.itoa z)))∧Below w.heap.size w w':=by
 refine (Tryz.strconv_Itoa z h.1 h.2 w he.pow).mono ?_
 rintro e w' ⟨rfl,k,os,rfl⟩
 exact ⟨rfl,nbelow_grow w k os⟩

/-- strconv.Atoi of a numeral. -/
theorem natoi_ok (s : ByteArray) (hs : s.size≤1000000) (v : Int) (h : Lib.atoiAll s.data.toList=.ok v) (w : World) :
  Calls Tryz.prog 65 #[.string s] w fun e w' => e=.returned (.tuple #[.int .i64 v,.nilIface])∧Below w.heap.size w w':=by
 refine (Tryz.strconv_Atoi_ok s (by omega) v h w).mono ?_
 rintro e w' ⟨rfl,rfl | ⟨t,rfl⟩⟩
 ·exact ⟨rfl,Below.refl _ _⟩
 ·exact ⟨rfl,Lib.bytesWorld_below _ _ _⟩

/-- .. of what is none. -/
theorem natoi_bad (N : Nat) (s : ByteArray) (hs : s.size≤1000000) (h : ∀ v,¬ Lib.atoiAll s.data.toList=.ok v) (w : World) (he : NEnv N w) :
  Calls Tryz.prog 65 #[.string s] w fun e w' => ∃ z t p,e=.returned (.tuple #[.int .i64 z,.iface t p])∧Below w.heap.size w w':=by
 cases h0 : Lib.atoiAll s.data.toList with
 | ok v => exact absurd h0 (h v)
 | «syntax» =>
  obtain ⟨tp,p,hv⟩:=he.syn
  refine (Tryz.strconv_Atoi_syntax_var s (by omega) h0 tp p w hv).mono ?_
  rintro e w' ⟨n,rfl,_,_,hb⟩
  exact ⟨_,_,_,rfl,hb⟩
 | range =>
  obtain ⟨tp,p,hv⟩:=he.rng
  refine (Tryz.strconv_Atoi_range_var s (by omega) h0 tp p w hv).mono ?_
  rintro e w' ⟨n,rfl,_,_,hb⟩
  exact ⟨_,_,_,rfl,hb⟩

/-- A text's pieces,as Go's strings. -/
def piecesB (c : UInt8) (s : ByteArray) : List ByteArray:=Lib.splitB (bs [c]) 0 (Lib.countB s (bs [c])) s

theorem piecesB_data (c : UInt8) (s : ByteArray) : (piecesB c s).map (·.data.toList)=splitC c s.data.toList:=splitB_C c s
theorem piecesB_len (c : UInt8) (s : ByteArray) : (piecesB c s).length=Lib.countB s (bs [c]) + 1:=Lib.splitB_all (bs [c]) (by show 1≤1; omega) 0 _ s rfl

/-- strings.Split at one byte. -/
theorem nsplit (N : Nat) (c : UInt8) (s : ByteArray) (hs : s.size≤1000000) (w : World) (he : NEnv N w) :
  Calls Tryz.prog 64 #[.string s,.string ⟨#[c]⟩] w fun e w' => e=.returned (.slice (some ⟨w.heap.size,0,none⟩) (piecesB c s).length (piecesB c s).length)∧w'=w.alloc (.cells ((piecesB c s).map Value.string).toArray 9):=by
 obtain ⟨m,hm⟩:=he.max
 refine (Tryz.strings_Split s ⟨#[c]⟩ m w (by omega) hm (by show 1≤1; omega)).mono ?_
 rintro e w' ⟨rfl,rfl⟩
 rw [piecesB_len]
 exact ⟨rfl,rfl⟩

/-! ### Rows of the call's own -/

/-- 'v' is a row of the bytes l,of blocks from B on. -/
def BS (B : Nat) (w : World) (v : Value) (l : List UInt8) : Prop:=w.ownsRow B 5 1 v l.length (Lib.byteCells l)
/-- 'v' is a row of the numbers zs,of blocks from B on. -/
def IS (B : Nat) (w : World) (v : Value) (zs : List Int) : Prop:=w.ownsRow B 3 1 v zs.length (zs.map (Value.int .i64))

/-- All below B is as it was,and so is each block that is no row of bytes. -/
def KB (B : Nat) (w w' : World) : Prop:=Below B w w'∧Lib.OthersKept 5 none w w'

theorem KB.refl (B : Nat) (w : World) : KB B w w:=⟨Below.refl _ _,Lib.OthersKept.refl _ _ _⟩
theorem KB.trans {B : Nat} {a b c : World} (h : KB B a b) (k : KB B b c) : KB B a c:=⟨h.1.trans k.1,h.2.trans k.2⟩
theorem KB.of {B : Nat} {a b : World} (h : Below a.heap.size a b) (hB : B≤a.heap.size) : KB B a b:=⟨h.mono hB,(Lib.OthersKept.refl _ _ _).below h⟩

theorem BS.nil (B : Nat) (w : World) : BS B w (.slice none 0 0) []:=⟨rfl,Or.inl ⟨rfl,rfl⟩⟩
theorem IS.nil (B : Nat) (w : World) : IS B w (.slice none 0 0) []:=⟨rfl,Or.inl ⟨rfl,rfl⟩⟩

theorem BS.keep {B : Nat} {w w' : World} {v : Value} {l : List UInt8} (h : BS B w v l) (hb : Below w.heap.size w w') : BS B w' v l:=by
 unfold BS at *
 refine ⟨h.1,?_⟩
 rcases h.2 with ⟨rfl,h0⟩ | ⟨g,cap,cur,rfl,h1,h2,h3⟩
 ·exact Or.inl ⟨rfl,h0⟩
 ·exact Or.inr ⟨g,cap,cur,rfl,h1,by rw [hb.block g (Array.getElem?_eq_some_iff.1 h2).1]; exact h2,h3⟩

theorem IS.keep {B : Nat} {w w' : World} {v : Value} {l : List Int} (h : IS B w v l) (hb : Below w.heap.size w w') : IS B w' v l:=by
 unfold IS at *
 refine ⟨h.1,?_⟩
 rcases h.2 with ⟨rfl,h0⟩ | ⟨g,cap,cur,rfl,h1,h2,h3⟩
 ·exact Or.inl ⟨rfl,h0⟩
 ·exact Or.inr ⟨g,cap,cur,rfl,h1,by rw [hb.block g (Array.getElem?_eq_some_iff.1 h2).1]; exact h2,h3⟩

/-- A row of numbers stays while rows of bytes grow. -/
theorem IS.kept {B C : Nat} {w w' : World} {v : Value} {l : List Int} (h : IS C w v l) (hb : KB B w w') : IS C w' v l:=by
 unfold IS at *
 refine ⟨h.1,?_⟩
 rcases h.2 with ⟨rfl,h0⟩ | ⟨g,cap,cur,rfl,h1,h2,h3⟩
 ·exact Or.inl ⟨rfl,h0⟩
 ·exact Or.inr ⟨g,cap,cur,rfl,h1,hb.2 g _ h2 (by simp) (fun c fz e => by injection e with _ e2 _; exact absurd e2 (by decide)),h3⟩

theorem IS.at {B : Nat} {w : World} {v : Value} {l : List Int} (h : IS B w v l) : ∃ a cap,v=.slice a l.length cap∧(l=[]∨∃ g,a=some ⟨g,0,none⟩∧B≤g∧g < w.heap.size∧∀ i z,l[i]?=some z→w.cell? ⟨g,i,none⟩=some (.int .i64 z)):=by
 rcases h.2 with ⟨rfl,h0⟩ | ⟨g,cap,cur,rfl,h1,h2,h3⟩
 ·exact ⟨none,0,by rw [h0],Or.inl (List.length_eq_zero_iff.1 h0)⟩
 ·refine ⟨_,cap,rfl,Or.inr ⟨g,rfl,h1,(Array.getElem?_eq_some_iff.1 h2).1,fun i z hz => ?_⟩⟩
  have:=h.cellAt i (by have:=(List.getElem?_eq_some_iff.1 hz).1; omega)
  rw [List.getElem?_map,hz] at this
  exact this

theorem BS.shape {B : Nat} {w : World} {v : Value} {l : List UInt8} (h : BS B w v l) : ∃ a cap,v=.slice a l.length cap:=own_shape h
theorem IS.shape {B : Nat} {w : World} {v : Value} {l : List Int} (h : IS B w v l) : ∃ a cap,v=.slice a l.length cap:=own_shape h

theorem info5 : (Tryz.prog.info? 5).map (fun i => (i.zero,i.size,i.bytes))=some (some (.int .u8 0),1,1):=by kernel_rfl
theorem info3i : (Tryz.prog.info? 3).map (fun i => (i.zero,i.size,i.bytes))=some (some (.int .i64 0),1,8):=by kernel_rfl

/-- A byte more. -/
theorem append_byte {ops : Array Oper} {rest : List Oper} {o : Oper} {a : Act} {Q : Exit→Act→World→Prop} (w : World) (hgd : o.guard=none) (s y : Operand)
  (ho : o.op=.call { callee:=.builtin .append,args:=#[s,y],argTypes:=#[22,22] }) (base : Nat) (v : Value) (l : List UInt8) (x : UInt8) (hs : a.eval s=v) (hown : BS base w v l)
  (t : TypeId) (B : Nat) (hB : w.heap.size=B) (hy : a.eval y=.slice (some ⟨B,0,none⟩) 1 1) (hR : l.length + 1≤100000000) (hbase : base≤w.heap.size)
  (h : ∀ v' w2,BS base w2 v' (l ++ [x])→KB base w w2→wpList Tryz.prog ops Q rest (a.put o.dst v') w2) :
  wpList Tryz.prog ops Q (o :: rest) a (w.alloc (.cells #[.int .u8 x.toNat] t)):=by
 subst hB
 obtain ⟨i0,hi,hz0,hz1,hz2⟩:=info_parts info5
 have hk : Below w.heap.size w (w.alloc (.cells #[.int .u8 x.toNat] t)):=below_alloc _ _
 refine wpList_append_own_at _ hgd s y 22 ho base 5 i0 (.int .u8 0) 1 1 Tryz.underlying22 hi hz0 hz1 hz2 rfl (by decide) v _ _ hs (hown.keep hk) ⟨w.heap.size,0,none⟩ 1 1 [.int .u8 x.toNat] hy rfl (fun j u hj => ?_) (fun u hu => by rw [List.mem_singleton] at hu; subst hu; rfl) (by unfold maxLen; omega) (by omega) (Nat.le_trans hbase hk.size) ?_
 ·rw [WideShapes.add_plain,Nat.zero_add,World.cell?_alloc_new]
  simpa using hj
 ·intro v' w2 h1 h2 _ _
  refine h v' w2 ?_ ?_
  ·unfold BS Lib.byteCells
   rw [List.length_append,List.map_append]
   exact h1
  ·have hlow : ∀ k,v.ownBlock=some k→base≤k∧k < w.heap.size:=fun k hk => ⟨(hown.lt k hk).1,(hown.lt k hk).2⟩
   have hbel : Below base w w2:=(hk.mono hbase).grown h2 (Nat.le_trans hbase hk.size) (fun k hk => (hlow k hk).1)
   refine ⟨hbel,((Lib.OthersKept.refl 5 none w).alloc _).grown h2 fun g hg => ?_⟩
   rcases hown.2 with ⟨rfl,_⟩ | ⟨g',cap,cur,rfl,_,h22,_⟩
   ·cases hg
   ·obtain rfl : g'=g:=Option.some.inj hg
    exact ⟨cur,(0,0),by rw [hk.block g' (Array.getElem?_eq_some_iff.1 h22).1]; exact h22⟩

/-- A number more at the end of a row of the call's own. -/
theorem append_num {ops : Array Oper} {rest : List Oper} {o : Oper} {a : Act} {Q : Exit→Act→World→Prop} (w : World) (hgd : o.guard=none) (s y : Operand)
  (ho : o.op=.call { callee:=.builtin .append,args:=#[s,y],argTypes:=#[25,25] }) (base : Nat) (v : Value) (l : List Int) (x : Int) (hs : a.eval s=v) (hown : IS base w v l)
  (t : TypeId) (B : Nat) (hB : w.heap.size=B) (hy : a.eval y=.slice (some ⟨B,0,none⟩) 1 1) (hR : l.length + 1≤100000000) (hbase : base≤w.heap.size)
  (h : ∀ v' w2,IS base w2 v' (l ++ [x])→Below base w w2→wpList Tryz.prog ops Q rest (a.put o.dst v') w2) :
  wpList Tryz.prog ops Q (o :: rest) a (w.alloc (.cells #[.int .i64 x] t)):=by
 subst hB
 obtain ⟨i0,hi,hz0,hz1,hz2⟩:=info_parts info3i
 have hk : Below w.heap.size w (w.alloc (.cells #[.int .i64 x] t)):=below_alloc _ _
 refine wpList_append_own_at _ hgd s y 25 ho base 3 i0 (.int .i64 0) 1 8 Tryz.underlying25 hi hz0 hz1 hz2 rfl (by decide) v _ _ hs (hown.keep hk) ⟨w.heap.size,0,none⟩ 1 1 [.int .i64 x] hy rfl (fun j u hj => ?_) (fun u hu => by rw [List.mem_singleton] at hu; subst hu; rfl) (by unfold maxLen; omega) (by omega) (Nat.le_trans hbase hk.size) ?_
 ·rw [WideShapes.add_plain,Nat.zero_add,World.cell?_alloc_new]
  simpa using hj
 ·intro v' w2 h1 h2 _ _
  refine h v' w2 ?_ ?_
  ·unfold IS
   rw [List.length_append,List.map_append]
   exact h1
  ·exact (hk.mono hbase).grown h2 (Nat.le_trans hbase hk.size) (fun k hk => (hown.lt k hk).1)

/-- strconv.AppendInt. -/
theorem nappend (N B : Nat) (hNB : N≤B) (z : Int) (hz : i64 z) (v : Value) (l : List UInt8) (w : World) (hB : B≤w.heap.size) (he : NEnv N w) (hown : BS B w v l) (hl : l.length≤100000000) :
  Calls Tryz.prog 43 #[v,.int .i64 z,.int .i64 10] w fun e w' => ∃ v',e=.returned v'∧Hid (BS B w' v' (l ++ Lib.itoa z))∧KB B w w':=by
 refine (Tryz.strconv_AppendInt_10 B l.length z hz.1 hz.2 v (Lib.byteCells l) w hown hB (by omega) (fun w' hb => (he.below (hb.mono hNB)).pow)).mono ?_
 rintro e w' ⟨v',rfl,h1,h2,h3⟩
 refine ⟨v',rfl,?_,h2,h3⟩
 show BS _ _ _ _
 unfold BS Lib.byteCells
 rw [List.length_append,List.map_append]
 exact h1

end Go.Proofs.YtfaggdkiffhdbaaGreatDoor
