/- Expressions, statements and their lists: what is written is read. No Go in it. -/
import Derived.Test.YtfaokaohhchdhaaGreatDoorPart27
import Derived.Lib.SmallJoins
import Derived.Laws.StructEq
import Derived.Handy
import Derived.Deep.LoopGhost
import Derived.Laws.Concat
namespace Go.Proofs.YtfaokaohhchdhaaGreatDoor
section
open Go.RowKit
theorem exprErr_zero {n:Nat} {k z:Nat→Int} {nf:Nat} {par:Nat→Int} {locals:Int} (h:exprErr n k z nf par locals=0) :
  n≤24∧(∀i,i<nf→parErr (par i)=0)∧(∀j,j<n→stepErr k z nf par locals j=0)∧¬0<asked k z par n:=by
 by_cases h1:24<n
 ·rw[exprErr_many h1]at h;cases h
 have h2:firstErr nf (fun i=>parErr (par i))=0:=by
  unfold exprErr at h
  rw[if_neg h1]at h
  by_cases c:firstErr nf (fun i=>parErr (par i))=0
  ·exact c
  ·rw[if_neg c]at h;cases h
 have h2':=firstErr_is_zero h2
 have h3:firstErr n (stepErr k z nf par locals)=0:=by
  unfold exprErr at h
  rw[if_neg h1,if_pos h2]at h
  by_cases c:firstErr n (stepErr k z nf par locals)=0
  ·exact c
  ·rw[if_neg c]at h;exact absurd h c
 have h3':=firstErr_is_zero h3
 refine⟨by omega,h2',h3',fun c=>?_⟩
 rw[exprErr_end h1 h2' h3',if_pos c]at h
 cases h
theorem formErr_zero {s:Nd} {la lb:Nat} (h:formErr s la lb=0):1≤s.kind∧s.kind≤8∧(s.num=0∨s.kind=1∨s.kind=2)∧(s.ne=0∨¬s.kind=4)∧(s.nf=0∨s.kind=2)∧(la=0∨s.kind=6∨s.kind=7)∧(lb=0∨s.kind=6):=by
 unfold formErr at h
 split at h
 ·cases h
 ·next hc=>omega
theorem stErr_zero {nf:Nat} {par:Nat→Int} {locals:Int} {s:Nd} {la lb:Nat} (h:stErr nf par locals s la lb=0) :
  formErr s la lb=0∧numErr s locals=0∧(s.kind=4∨exprErr s.ne s.ek s.ez nf par locals=0)∧(¬s.kind=2∨exprErr s.nf s.fk s.fz nf par locals=0):=by
 unfold stErr at h
 by_cases h1:formErr s la lb=0
 ·rw[if_pos h1]at h
  by_cases h2:numErr s locals=0
  ·rw[if_pos h2]at h
   by_cases h3:s.kind=4
   ·exact⟨h1,h2,Or.inl h3,Or.inl (by omega)⟩
   ·rw[if_neg h3]at h
    by_cases h4:exprErr s.ne s.ek s.ez nf par locals=0
    ·rw[if_pos h4]at h
     by_cases h5:s.kind=2
     ·rw[if_pos h5]at h;exact⟨h1,h2,Or.inr h4,Or.inr h⟩
     ·exact⟨h1,h2,Or.inr h4,Or.inl h5⟩
    ·rw[if_neg h4]at h;exact absurd h h4
  ·rw[if_neg h2]at h;cases h
 ·rw[if_neg h1]at h;cases h
theorem errs_item {E:Nd→Nat→Nat→Int} {d:Nat} {T:SL} (h:errs E (d+1) T=0) {i:Nat} (hi:i<T.len) :
  E (T.nd i) (T.sub i false).len (T.sub i true).len=0∧errs E d (T.sub i false)=0∧errs E d (T.sub i true)=0:=by
 have h1:=firstErr_is_zero h i hi
 split at h1
 ·next h2 =>
  split at h1
  ·next h3=>exact⟨h2,h3,h1⟩
  ·next h3=>exact absurd h1 h3
 ·next h2=>exact absurd h1 h2
theorem prog_zero {nf:Nat} {par loc:Nat→Int} {d:Nat} {body:Nat→SL} (h:progErr nf par loc d body=0):1≤nf∧nf≤4∧(∀i,i<nf→headErr i (par i) (loc i)=0)∧∀i,i<nf→bodyErr nf par (loc i) d (body i)=0:=by
 unfold progErr at h
 by_cases h1:nf<1∨4<nf
 ·rw[if_pos h1]at h;cases h
 ·rw[if_neg h1]at h
  by_cases h2:firstErr nf (fun i=>headErr i (par i) (loc i))=0
  ·rw[if_pos h2]at h
   exact⟨by omega,by omega,firstErr_is_zero h2,firstErr_is_zero h⟩
  ·rw[if_neg h2]at h;cases h
/-! ### What no word is -/
def plainW (w:Wd):Prop:=w ≠ funW∧¬(32:UInt8) ∈ w.data.toList
theorem itoa_plain (p:List UInt8) (z:Int) (hp:¬(32:UInt8) ∈ p) (hf:p=[]∨p=[118]∨p=[46]∨p=[110,101,119]∨p=[102]):plainW (bs (p++Lib.itoa z)):=by
 obtain⟨c,r,e,hc,hr⟩:=itoa_bytes z
 rw[e]
 refine⟨fun h=>?_,fun h=>?_⟩
 ·have h:=bs_inj h
  rcases hf with rfl|rfl|rfl|rfl|rfl
  ·injection h with h1 h2;subst h1;simp at hc
  ·injection h with h1 h2;cases h1
  ·injection h with h1 h2;cases h1
  ·injection h with h1 h2;cases h1
  ·injection h with h1 h2;injection h2 with h2 h3;subst h2;simp at hc
 ·rw[bs_data,List.mem_append,List.mem_cons]at h
  rcases h with h|h|h
  ·exact hp h
  ·subst h;simp at hc
  ·have:=hr _ h;simp at this
theorem tokW_plain {k z:Int} {nf:Nat} {locals:Int} (h:tokErr k z nf locals=0):plainW (tokW k z):=by
 unfold tokW
 split
 ·next hk =>
  subst hk
  have hz5:z=1∨z=2∨z=3∨z=4∨z=5:=by
   unfold tokErr at h
   rw[if_neg (by decide),if_neg (by decide),if_pos rfl]at h
   split at h
   ·cases h
   ·omega
  rcases hz5 with rfl|rfl|rfl|rfl|rfl<;>exact⟨by decide,by decide⟩
 ·next hk =>
  have:k.toNat=0∨k.toNat=1∨k.toNat=2∨k.toNat=3∨k.toNat=4∨k.toNat=5∨k.toNat=6∨7≤k.toNat:=by omega
  have hm:mkL k.toNat=[]∨mkL k.toNat=[118]∨mkL k.toNat=[46]∨mkL k.toNat=[110,101,119]∨mkL k.toNat=[102]:=by
   rcases this with e|e|e|e|e|e|e|e
   ·rw[e];exact Or.inl rfl
   ·rw[e];exact Or.inl rfl
   ·rw[e];exact Or.inr (Or.inl rfl)
   ·rw[e];exact Or.inl rfl
   ·rw[e];exact Or.inr (Or.inr (Or.inl rfl))
   ·rw[e];exact Or.inr (Or.inr (Or.inr (Or.inl rfl)))
   ·rw[e];exact Or.inr (Or.inr (Or.inr (Or.inr rfl)))
   ·left;unfold mkL;split<;>first|omega|rfl
  refine itoa_plain _ z ?_ hm
  rcases hm with e|e|e|e|e<;>rw[e]<;>decide
theorem toksW_plain {k z:Nat→Int} {nf:Nat} {locals:Int}:∀ {n:Nat},(∀j,j<n→tokErr (k j) (z j) nf locals=0)→∀w ∈ toksW k z n,plainW w
 | 0,_,w,hw=>by cases hw
 | n+1,h,w,hw=>by
  rcases List.mem_append.1 hw with hw|hw
  ·exact toksW_plain (fun j hj=>h j (by omega)) w hw
  ·rw[List.mem_singleton]at hw;subst hw;exact tokW_plain (h n (by omega))
theorem catTo_mem {f:Nat→List Wd} {w:Wd}:∀ {n:Nat},w ∈ catTo f n→∃i,i<n∧w ∈ f i
 | 0,h=>by cases h
 | n+1,h=>by
  rcases List.mem_append.1 h with h|h
  ·obtain⟨i,hi,hw⟩:=catTo_mem h
   exact⟨i,by omega,hw⟩
  ·exact⟨n,by omega,h⟩
theorem expr_toks {n:Nat} {k z:Nat→Int} {nf:Nat} {par:Nat→Int} {locals:Int} (h:exprErr n k z nf par locals=0):∀j,j<n→tokErr (k j) (z j) nf locals=0 :=
 fun j hj=>(stepErr_tok ((exprErr_zero h).2.2.1 j hj)).1
/-! ### The heads -/
theorem bodyErr_errs {nf:Nat} {par:Nat→Int} {locals:Int} {d:Nat} {T:SL} (h:bodyErr nf par locals d T=0):sound d T∧errs (stErr nf par locals) d T=0:=by
 unfold bodyErr at h
 by_cases c:(wk look1 d T 1 0).1=0
 ·rw[if_pos c]at h;exact⟨wk1_iff.1 c,h⟩
 ·rw[if_neg c]at h;cases h
theorem head_range {i:Nat} {p l:Int} (h:headErr i p l=0):0≤p∧p≤3∧p≤l∧l≤6:=by
 unfold headErr at h
 split at h
 ·cases h
 ·omega
/-! ### Words and texts -/
theorem joinTail_cons (x:List UInt8) (r:List (List UInt8)):Lib.joinTail [32] (x::r)=32::(x++Lib.joinTail [32] r):=by simp[Lib.joinTail]
def wordsOf (s:ByteArray):List Wd:=Lib.splitB (bs [32]) 0 (Lib.countB s (bs [32])) s
end
section
open Go.RowKit Go.Maps
structure Env (N:Nat) (w:World):Prop where
 low:11≤N
 pow:Lib.TabIs Tryz.prog w "internal/strconv.uint64pow10" .u64 Lib.pow10Tab
 syn:∃tp p,w.var? Tryz.prog "strconv.ErrSyntax"=some #[.iface tp p]
 rng:∃tp p,w.var? Tryz.prog "strconv.ErrRange"=some #[.iface tp p]
 max:∃m,w.cell? ⟨2,0,none⟩=some (.int .i64 m)
theorem gPow:Tryz.prog.globalNamed "internal/strconv.uint64pow10"=some 3:=by kernel_rfl
theorem gSyn:Tryz.prog.globalNamed "strconv.ErrSyntax"=some 4:=by kernel_rfl
theorem gRng:Tryz.prog.globalNamed "strconv.ErrRange"=some 5:=by kernel_rfl
theorem var_of_block {P:Program} {w w':World} {n:String} {g:Nat} (hg:P.globalNamed n=some g) (hb:w'.heap[g]?=w.heap[g]?):w'.var? P n=w.var? P n:=by
 unfold World.var?
 rw[hg]
 simp only[Option.bind_some,hb]
theorem Env.below {N:Nat} {w w':World} (h:Env N w) (hb:Below N w w'):Env N w':=by
 have l:=h.low
 refine⟨l,?_,?_,?_,?_⟩
 ·unfold Lib.TabIs;rw[var_of_block gPow (hb.block 3 (by omega))];exact h.pow
 ·rw[var_of_block gSyn (hb.block 4 (by omega))];exact h.syn
 ·rw[var_of_block gRng (hb.block 5 (by omega))];exact h.rng
 ·rw[hb.cell (p:=⟨2,0,none⟩) (by show 2<N;omega)];exact h.max
theorem Env.up {N M:Nat} {w:World} (h:Env N w) (hm:N≤M):Env M w:=⟨Nat.le_trans h.low hm,h.pow,h.syn,h.rng,h.max⟩
theorem below_grow (w:World) (k:Nat) (os:Array Obj):Below w.heap.size w (Sort.grow (w.drewN k) os) :=
 ⟨rfl,rfl,rfl,by simp[Sort.grow,World.drewN],fun j hj=>by
  show (w.heap++os)[j]?=w.heap[j]?
  rw[Array.getElem?_append_left hj]⟩
theorem itoa (N:Nat) (z:Int) (h0 : -9223372036854775808≤z) (h1:z≤9223372036854775807) (w:World) (he:Env N w) :
  Calls Tryz.prog 85 #[.int .i64 z] w fun e w'=>e=.returned (.string (numW z))∧Below w.heap.size w w':=by
 refine (Tryz.strconv_Itoa z h0 h1 w he.pow).mono ?_
 rintro e w' ⟨rfl,k,os,rfl⟩
 exact⟨rfl,below_grow w k os⟩
theorem atoi (N:Nat) (s:Wd) (hs:s.size≤1000000) (w:World) (he:Env N w) :
  Calls Tryz.prog 142 #[.string s] w fun e w'=>∃er,e=.returned (.tuple #[.int .i64 (atoiV s.data.toList),er])∧Below w.heap.size w w':=by
 cases h:Lib.atoiAll s.data.toList with
 | ok v =>
  have e0:atoiV s.data.toList=v:=by unfold atoiV;rw[h]
  rw[e0]
  refine (Tryz.strconv_Atoi_ok s (by omega) v h w).mono ?_
  rintro e w' ⟨rfl,rfl|⟨t,rfl⟩⟩
  ·exact⟨_,rfl,Below.refl _ _⟩
  ·exact⟨_,rfl,Lib.bytesWorld_below _ _ _⟩
 | «syntax» =>
  have e0:atoiV s.data.toList=0:=by unfold atoiV;rw[h]
  rw[e0]
  obtain⟨tp,p,hv⟩:=he.syn
  refine (Tryz.strconv_Atoi_syntax_var s (by omega) h tp p w hv).mono ?_
  rintro e w' ⟨n,rfl,_,_,hb⟩
  exact⟨_,rfl,hb⟩
 | range =>
  have e0:atoiV s.data.toList=Lib.atoiSat s.data.toList:=by unfold atoiV;rw[h]
  rw[e0]
  obtain⟨tp,p,hv⟩:=he.rng
  refine (Tryz.strconv_Atoi_range_var s (by omega) h tp p w hv).mono ?_
  rintro e w' ⟨n,rfl,_,_,hb⟩
  exact⟨_,rfl,hb⟩
/-! ### Rows of words of the call's own -/
structure Grow (w:World) (v:Value) (w':World) (v':Value):Prop where
 os:w'.os=w.os
 tape:w'.tape=w.tape
 output:w'.output=w.output
 size:w.heap.size≤w'.heap.size
 block:∀k,k<w.heap.size→¬v.ownBlock=some k→w'.heap[k]?=w.heap[k]?
 own:∀k,k<w.heap.size→v'.ownBlock=some k→v.ownBlock=some k
theorem Grow.trans {a b c:World} {u v x:Value} (h:Grow a u b v) (k:Grow b v c x):Grow a u c x :=
 ⟨k.os.trans h.os,k.tape.trans h.tape,k.output.trans h.output,Nat.le_trans h.size k.size,
  fun n hn hx=>(k.block n (Nat.lt_of_lt_of_le hn h.size) fun e=>hx (h.own n hn e)).trans (h.block n hn hx),
  fun n hn e=>h.own n hn (k.own n (Nat.lt_of_lt_of_le hn h.size) e)⟩
theorem Grow.of {a b:World} (v:Value) (h:Below a.heap.size a b):Grow a v b v:=⟨h.os,h.tape,h.output,h.size,fun n hn _=>h.block n hn,fun _ _ e=>e⟩
def WS (B:Nat) (w:World) (v:Value) (R:List Wd):Prop:=w.ownsRow B 9 1 v R.length (R.map Value.string)
theorem WS.nil (B:Nat) (w:World):WS B w (.slice none 0 0) []:=⟨rfl,Or.inl ⟨rfl,rfl⟩⟩
theorem WS.low {B:Nat} {w:World} {v:Value} {R:List Wd} (h:WS B w v R):∀k,v.ownBlock=some k→B≤k:=by
 intro k hk
 rcases h.2 with⟨rfl,_⟩|⟨g,cap,cur,rfl,hb,_⟩
 ·cases hk
 ·cases hk;exact hb
theorem WS.lt {B:Nat} {w:World} {v:Value} {R:List Wd} (h:WS B w v R):∀k,v.ownBlock=some k→k<w.heap.size:=by
 intro k hk
 rcases h.2 with⟨rfl,_⟩|⟨g,cap,cur,rfl,hb,hg,_⟩
 ·cases hk
 ·cases hk;exact (Array.getElem?_eq_some_iff.1 hg).1
theorem WS.keep {B:Nat} {w w':World} {v:Value} {R:List Wd} (h:WS B w v R) (hb:Below w.heap.size w w'):WS B w' v R:=by
 unfold WS at *
 refine⟨h.1,?_⟩
 rcases h.2 with⟨rfl,h0⟩|⟨g,cap,cur,rfl,h1,h2,h3⟩
 ·exact Or.inl ⟨rfl,h0⟩
 ·exact Or.inr ⟨g,cap,cur,rfl,h1,by rw[hb.block g (Array.getElem?_eq_some_iff.1 h2).1];exact h2,h3⟩
theorem Grow.low {B:Nat} {a b:World} {u v:Value} (h:Grow a u b v) (hu:∀k,u.ownBlock=some k→B≤k) (hB:B≤a.heap.size):Below B a b :=
 ⟨h.os,h.tape,h.output,h.size,fun k hk=>h.block k (Nat.lt_of_lt_of_le hk hB) fun e=>by have:=hu k e;omega⟩
theorem info9:(Tryz.prog.info? 9).map (fun i=>(i.zero,i.size,i.bytes))=some (some (.string ⟨#[]⟩),1,16):=by kernel_rfl
theorem strs_one (L:List Wd):∀u ∈ L.map Value.string,u.oneCell'=true:=by
 intro u hu
 obtain⟨x,_,rfl⟩:=List.mem_map.1 hu
 rfl
theorem strEq (a b:ByteArray):(a.toList == b.toList)=decide (a=b):=by
 rw[←beq_toListBytes]
 by_cases h:a=b
 ·subst h;rw[beq_toListBytes];simp
 ·rw[beq_toListBytes,decide_eq_false h,beq_eq_false_iff_ne]
  intro e
  exact h (ByteArray.ext (by rw[ByteArray.toList_eq,ByteArray.toList_eq]at e;exact Array.toList_inj.1 e))
theorem kindOf_miss {x:Wd} (h0:∀j,j<9→¬bs (stL j)=x):kindOf x=0:=by
 unfold kindOf
 rw[List.find?_eq_none.2 (fun j hj=>by simp[h0 j (List.mem_range.1 hj)])]
 rfl
theorem kindOf_lt (x:Wd):kindOf x≤8:=by
 unfold kindOf
 cases h:(List.range 9).find? fun k=>decide (bs (stL k)=x) with
 | none=>simp
 | some k =>
  have:=List.mem_of_find?_eq_some h
  simp at this ⊢
  omega
end
section
open Go.RowKit
structure Save (X:Nat) (w w':World):Prop where
 os:w'.os=w.os
 tape:w'.tape=w.tape
 output:w'.output=w.output
 size:w.heap.size≤w'.heap.size
 block:∀k,k<w.heap.size→¬k=X→w'.heap[k]?=w.heap[k]?
theorem Save.trans {X:Nat} {a b c:World} (h:Save X a b) (k:Save X b c):Save X a c :=
 ⟨k.os.trans h.os,k.tape.trans h.tape,k.output.trans h.output,Nat.le_trans h.size k.size,fun n hn hx=>(k.block n (Nat.lt_of_lt_of_le hn h.size) hx).trans (h.block n hn hx)⟩
theorem Save.low {X N:Nat} {a b:World} (h:Save X a b) (h1:N≤X) (h2:N≤a.heap.size):Below N a b:=⟨h.os,h.tape,h.output,h.size,fun k hk=>h.block k (Nat.lt_of_lt_of_le hk h2) (by omega)⟩
theorem Save.cell {X:Nat} {a b:World} (h:Save X a b) {p:Addr} (h1:p.block<a.heap.size) (h2:¬p.block=X):b.cell? p=a.cell? p:=World.cell?_of_block (w:=a) (a:=p) (h.block p.block h1 h2)
end
section
open Go.RowKit Go.Maps
def WordsAt (X:Nat) (fv:Value) (w:World) (v:Value) (ws:List Wd):Prop :=
 (∀x ∈ ws,x.size≤100000)∧ws.length≤100000∧∃a cap,v=.slice a ws.length cap∧ws.length≤cap∧(ws=[]∨∃g o,a=some ⟨g,o,none⟩∧g<X∧¬fv.ownBlock=some g∧∀j x,ws[j]?=some x→w.cell? ⟨g,o+j,none⟩=some (.string x))
theorem WordsAt.low {X:Nat} {fv:Value} {w w':World} {v:Value} {ws:List Wd} (h:WordsAt X fv w v ws) (hs:∀k,k<X→¬fv.ownBlock=some k→w'.heap[k]?=w.heap[k]?):WordsAt X fv w' v ws:=by
 obtain⟨h0,h1,a,cap,rfl,hc,h|⟨g,o,rfl,hg,hf,hcell⟩⟩:=h
 ·exact⟨h0,h1,a,cap,rfl,hc,Or.inl h⟩
 ·exact⟨h0,h1,_,cap,rfl,hc,Or.inr ⟨g,o,rfl,hg,hf,fun j x hj=>by rw[World.cell?_of_block (w:=w) (a:=⟨g,o+j,none⟩) (hs g hg hf)];exact hcell j x hj⟩⟩
def ParAt (X:Nat) (w:World) (fv:Value) (nf:Nat) (par:Nat→Int):Prop :=
 ∃a cap,fv=.slice a nf cap∧nf≤100000∧(nf=0∨∃b o,a=some ⟨b,o,none⟩∧b<X∧∀i,i<nf→w.cell? ⟨b,o+i*3,none⟩=some (.int .i64 (par i)))
theorem ParAt.low {X:Nat} {w w':World} {fv:Value} {nf:Nat} {par:Nat→Int} (h:ParAt X w fv nf par) (hs:∀k,k<X→w'.heap[k]?=w.heap[k]?):ParAt X w' fv nf par:=by
 obtain⟨a,cap,rfl,hn,h|⟨b,o,rfl,hb,hc⟩⟩:=h
 ·exact⟨a,cap,rfl,hn,Or.inl h⟩
 ·exact⟨_,cap,rfl,hn,Or.inr ⟨b,o,rfl,hb,fun i hi=>by rw[World.cell?_of_block (w:=w) (a:=⟨b,o+i*3,none⟩) (hs b hb)];exact hc i hi⟩⟩
/-! ### Rows of tokens of the call's own -/
def flatT:List (Int×Int)→List Value
 | []=>[]
 | t::l => .int .i64 t.1 :: .int .i64 t.2::flatT l
theorem flatT_append:∀(l m:List (Int×Int)),flatT (l++m)=flatT l++flatT m
 | [],_=>rfl
 | t::l,m=>by simp[flatT,flatT_append l m]
theorem flatT_at:∀(l:List (Int×Int)) (i:Nat),i<l.length→(flatT l)[i*2]?=some (.int .i64 (l.getD i (0,0)).1)∧(flatT l)[i*2+1]?=some (.int .i64 (l.getD i (0,0)).2)
 | [],i,h=>absurd h (Nat.not_lt_zero _)
 | t::l,0,_=>⟨rfl,rfl⟩
 | t::l,i+1,h=>by
  have:=flatT_at l i (by simpa using h)
  rw[show (i+1)*2=i*2+1+1 by omega]
  simpa[flatT]using this
def TS (B:Nat) (w:World) (v:Value) (l:List (Int×Int)):Prop:=w.ownsRow B 199 2 v l.length (flatT l)
def ToksIn (L:Nat) (w:World) (v:Value) (l:List (Int×Int)):Prop :=
 ∃a cap,v=.slice a l.length cap∧l.length≤min cap 100000∧(l=[]∨∃g,a=some ⟨g,0,none⟩∧L≤g∧g<w.heap.size∧∀i,i<l.length→w.cell? ⟨g,i*2,none⟩=some (.int .i64 (l.getD i (0,0)).1)∧w.cell? ⟨g,i*2+1,none⟩=some (.int .i64 (l.getD i (0,0)).2))
theorem TS.toks {B:Nat} {w:World} {v:Value} {l:List (Int×Int)} (h:TS B w v l) (hl:l.length≤100000):ToksIn B w v l:=by
 rcases h.2 with⟨rfl,h0⟩|⟨g,cap,cur,rfl,hb,hg,hlc,_⟩
 ·have e:l=[]:=List.eq_nil_of_length_eq_zero h0
  subst e
  exact⟨none,0,rfl,by simp,Or.inl rfl⟩
 ·refine⟨_,cap,rfl,by omega,Or.inr ⟨g,rfl,hb,(Array.getElem?_eq_some_iff.1 hg).1,fun i hi=>?_⟩⟩
  obtain⟨e1,e2⟩:=flatT_at l i hi
  rw[h.cellAt _ (by omega),h.cellAt _ (by omega),e1,e2]
  exact⟨rfl,rfl⟩
theorem ToksIn.low {L M:Nat} {w:World} {v:Value} {l:List (Int×Int)} (h:ToksIn L w v l) (hM:M≤L):ToksIn M w v l:=by
 obtain⟨a,cap,rfl,hn,h|⟨g,rfl,hL,hg,hc⟩⟩:=h
 ·exact⟨a,cap,rfl,hn,Or.inl h⟩
 ·exact⟨_,cap,rfl,hn,Or.inr ⟨g,rfl,by omega,hg,hc⟩⟩
theorem info75:(Tryz.prog.info? 199).map (fun i=>(i.zero,i.size,i.bytes))=some (some (.agg #[.int .i64 0,.int .i64 0]),2,16):=by kernel_rfl
theorem TS.keep {B:Nat} {w w':World} {v:Value} {l:List (Int×Int)} (h:TS B w v l) (hb:Below w.heap.size w w'):TS B w' v l:=by
 refine⟨h.1,?_⟩
 rcases h.2 with⟨rfl,h0⟩|⟨g,cap,cur,rfl,h1,h2,h3⟩
 ·exact Or.inl ⟨rfl,h0⟩
 ·exact Or.inr ⟨g,cap,cur,rfl,h1,by rw[hb.block g (Array.getElem?_eq_some_iff.1 h2).1];exact h2,h3⟩
theorem append_tok {ops:Array Oper} {rest:List Oper} {o:Oper} {a:Act} {Q:Exit→Act→World→Prop} (w:World) (hgd:o.guard=none) (s y:Operand)
  (ho:o.op=.call { callee:=.builtin .append,args:=#[s,y],argTypes:=#[194,194] }) (base:Nat) (v:Value) (l:List (Int×Int)) (k z:Int) (hs:a.eval s=v) (hown:TS base w v l)
  (t:TypeId) (B:Nat) (hB:w.heap.size=B) (hy:a.eval y=.slice (some ⟨B,0,none⟩) 1 1) (hR:l.length+1≤1000000) (hbase:base≤w.heap.size)
  (h:∀v' w2,Hid (TS base w2 v' (l++[(k,z)]))→Hid (Grow w v w2 v')→wpList Tryz.prog ops Q rest (a.put o.dst v') w2) :
  wpList Tryz.prog ops Q (o::rest) a (w.alloc (.cells #[.int .i64 k,.int .i64 z] t)):=by
 subst hB
 obtain⟨i0,hi,hz0,hz1,hz2⟩:=info_parts info75
 have hk:Below w.heap.size w (w.alloc (.cells #[.int .i64 k,.int .i64 z] t)):=below_alloc _ _
 refine wpList_append_own_at _ hgd s y 194 ho base 199 i0 (.agg #[.int .i64 0,.int .i64 0]) 2 16 Tryz.underlying194 hi hz0 hz1 hz2 rfl (by decide) v _ _ hs (hown.keep hk) ⟨w.heap.size,0,none⟩ 1 1 [.int .i64 k,.int .i64 z] hy rfl (fun j u hj=>?_) (ints_oneCell .i64 [k,z]) (by unfold maxLen;omega) (by omega) (Nat.le_trans hbase hk.size) ?_
 ·rw[WideShapes.add_plain,Nat.zero_add,World.cell?_alloc_new]
  show ([Value.int .i64 k,.int .i64 z].toArray)[j]?=some u
  rw[List.getElem?_toArray]
  exact hj
 ·intro v' w2 h1 h2 _ h4
  refine h v' w2 ?_ ⟨h2.os,h2.tape,h2.output,Nat.le_trans hk.size h2.size,fun k hk1 hk2=>?_,fun k hk1 hk2=>?_⟩
  ·show TS _ _ _ _
   unfold TS
   rw[List.length_append,flatT_append]
   exact h1
  ·rw[h2.block k (Nat.lt_of_lt_of_le hk1 hk.size) (fun e=>hk2 e.symm)]
   exact hk.block k hk1
  ·rcases h4 with h4|h4
   ·rw[←h4];exact hk2
   ·have h5:=Option.some.inj (h4.symm.trans hk2)
    have h6:=hk.size
    omega
theorem TS.own {B:Nat} {w:World} {v:Value} {l:List (Int×Int)} (h:TS B w v l):∀k,v.ownBlock=some k→B≤k:=by
 intro k hk
 rcases h.2 with⟨rfl,_⟩|⟨g,cap,cur,rfl,hb,_⟩
 ·cases hk
 ·cases hk;exact hb
theorem bs_size (l:List UInt8):(bs l).size=l.length:=by show l.toArray.size=_;simp
theorem bs_append (a b:List UInt8):bs a++bs b=bs (a++b):=by unfold bs;rw[ByteArray.mk_append_mk]
theorem boxG {w w1:World} {cs:Array Value} {t:TypeId} {v v':Value} (hg:Grow (w.alloc (.cells cs t)) v w1 v') (hv:∀k,v.ownBlock=some k→k<w.heap.size) (i:Nat) {c:Value} (h:cs[i]?=some c):w1.cell? ⟨w.heap.size,i,none⟩=some c:=by
 rw[World.cell?_of_block (w:=w.alloc (.cells cs t)) (a:=⟨w.heap.size,i,none⟩) (hg.block w.heap.size (by simp) fun e=>by have:=hv _ e;omega),World.cell?_alloc_new]
 exact h
def nPart (s:Nd):List Wd:=if s.kind=1∨s.kind=2 then [numW s.num] else []
def aPart (B:SL→List Wd) (s:Nd) (a:SL):List Wd:=if s.kind=6∨s.kind=7 then B a else []
def bPart (B:SL→List Wd) (s:Nd) (b:SL):List Wd:=if s.kind=6 then B b else []
def tN (s:Nd) (j:Nat):Nat:=if j=0 then s.ne else s.nf
def tK (s:Nd) (j:Nat):Nat→Int:=if j=0 then s.ek else s.fk
def tZ (s:Nd) (j:Nat):Nat→Int:=if j=0 then s.ez else s.fz
def tPart (s:Nd):Nat→List Wd
 | 0=>[]
 | j+1=>tPart s j++toksW (tK s j) (tZ s j) (tN s j)
theorem tPart_two (s:Nd):tPart s 2=toksW s.ek s.ez s.ne++toksW s.fk s.fz s.nf:=by simp[tPart,tK,tZ,tN]
theorem stmtW_all (B:SL→List Wd) (s:Nd) (a b:SL):stmtW B s a b=((([bs (stL s.kind.toNat)]++nPart s)++tPart s 2)++aPart B s a)++bPart B s b:=by
 rw[tPart_two]
 simp[stmtW,nPart,aPart,bPart]
structure StF (nf:Nat) (locals:Int) (s:Nd) (a b:SL):Prop where
 k1:1≤s.kind
 k8:s.kind≤8
 tok:∀j,j<2→∀i,i<tN s j→tokErr (tK s j i) (tZ s j i) nf locals=0
 num : -9223372036854775808≤s.num∧s.num≤9223372036854775807
theorem stFacts {nf:Nat} {par:Nat→Int} {locals:Int} {s:Nd} {a b:SL} (hl:locals≤6) (hs:stErr nf par locals s a.len b.len=0):StF nf locals s a b:=by
 obtain⟨f0,f1,f2,f3⟩:=stErr_zero hs
 obtain⟨k1,k2,kn,ke,kf,ka,kb⟩:=formErr_zero f0
 refine⟨k1,k2,fun j hj i hi=>?_,?_⟩
 ·have:j=0∨j=1:=by omega
  rcases this with rfl|rfl
  ·have hi:i<s.ne:=hi
   exact expr_toks (f2.resolve_left fun c=>by omega) i hi
  ·have hi:i<s.nf:=hi
   exact expr_toks (f3.resolve_left fun c=>by omega) i hi
 ·unfold numErr at f1
  split at f1
  ·cases f1
  ·omega
def ToksLow (L:Nat) (w:World) (v:Value) (n:Nat) (k z:Nat→Int):Prop :=
 ∃a cap,v=.slice a n cap∧n≤min cap 100000∧(n=0∨∃b o,a=some ⟨b,o,none⟩∧L≤b∧b<w.heap.size∧∀i,i<n→w.cell? ⟨b,o+i*2,none⟩=some (.int .i64 (k i))∧w.cell? ⟨b,o+i*2+1,none⟩=some (.int .i64 (z i)))
theorem ToksIn.lowT {L:Nat} {w:World} {v:Value} {l:List (Int×Int)} (h:ToksIn L w v l):ToksLow L w v l.length (fun i=>(l.getD i (0,0)).1) (fun i=>(l.getD i (0,0)).2):=by
 obtain⟨a,cap,rfl,hn,h|⟨g,rfl,hL,hg,hc⟩⟩:=h
 ·exact⟨a,cap,rfl,hn,Or.inl (by rw[h];rfl)⟩
 ·exact⟨_,cap,rfl,hn,Or.inr ⟨g,0,rfl,hL,hg,fun i hi=>by rw[Nat.zero_add];exact hc i hi⟩⟩
theorem ToksLow.save {X L:Nat} {w w':World} {v:Value} {n:Nat} {k z:Nat→Int} (h:ToksLow L w v n k z) (hs:∀k,k<w.heap.size→L≤k→w'.heap[k]?=w.heap[k]?) (hz:w.heap.size≤w'.heap.size) (_:X<L):ToksLow L w' v n k z:=by
 obtain⟨a,cap,rfl,hn,h|⟨b,o,rfl,hL,hg,hc⟩⟩:=h
 ·exact⟨a,cap,rfl,hn,Or.inl h⟩
 ·refine⟨_,cap,rfl,hn,Or.inr ⟨b,o,rfl,hL,Nat.lt_of_lt_of_le hg hz,fun i hi=>?_⟩⟩
  rw[World.cell?_of_block (w:=w) (a:=⟨b,o+i*2,none⟩) (hs b hg hL),World.cell?_of_block (w:=w) (a:=⟨b,o+i*2+1,none⟩) (hs b hg hL)]
  exact hc i hi
theorem ToksLow.toks {L:Nat} {w:World} {v:Value} {n:Nat} {k z:Nat→Int} (h:ToksLow L w v n k z):ToksAt w.heap.size w v n k z:=by
 obtain⟨a,cap,rfl,hn,h|⟨b,o,rfl,hL,hg,hc⟩⟩:=h
 ·exact⟨a,cap,rfl,by omega,Or.inl h⟩
 ·exact⟨_,cap,rfl,by omega,Or.inr ⟨b,o,rfl,hg,hc⟩⟩
theorem ToksLow.low {L M:Nat} {w:World} {v:Value} {n:Nat} {k z:Nat→Int} (h:ToksLow L w v n k z) (hM:M≤L):ToksLow M w v n k z:=by
 obtain⟨a,cap,rfl,hn,h|⟨b,o,rfl,hL,hg,hc⟩⟩:=h
 ·exact⟨a,cap,rfl,hn,Or.inl h⟩
 ·exact⟨_,cap,rfl,hn,Or.inr ⟨b,o,rfl,by omega,hg,hc⟩⟩
def StmtsIn (L:Nat) (w:World):Nat→Value→SL→Prop
 | 0,v,T=>T.len=0∧∃a cap,v=.slice a 0 cap
 | d+1,v,T=>∃a cap,v=.slice a T.len cap∧T.len≤100000∧(T.len=0∨∃b o,a=some ⟨b,o,none⟩∧L≤b∧b<w.heap.size∧∀i,i<T.len →
   ∃ve vf va vb,w.cell? ⟨b,o+i*6,none⟩=some (.int .i64 (T.nd i).kind)∧w.cell? ⟨b,o+i*6+1,none⟩=some (.int .i64 (T.nd i).num)∧w.cell? ⟨b,o+i*6+2,none⟩=some ve∧w.cell? ⟨b,o+i*6+3,none⟩=some vf ∧
    w.cell? ⟨b,o+i*6+4,none⟩=some va∧w.cell? ⟨b,o+i*6+5,none⟩=some vb ∧
    ToksLow L w ve (T.nd i).ne (T.nd i).ek (T.nd i).ez∧ToksLow L w vf (T.nd i).nf (T.nd i).fk (T.nd i).fz∧StmtsIn L w d va (T.sub i false)∧StmtsIn L w d vb (T.sub i true))
theorem StmtsIn.save {L:Nat} {w w':World} (hs:∀k,k<w.heap.size→L≤k→w'.heap[k]?=w.heap[k]?) (hz:w.heap.size≤w'.heap.size) (h0:0<L):∀ {d:Nat} {v:Value} {T:SL},StmtsIn L w d v T→StmtsIn L w' d v T
 | 0,_,_,h=>h
 | d+1,v,T,h=>by
  obtain⟨a,cap,rfl,hn,h|⟨b,o,rfl,hL,hlt,hc⟩⟩:=h
  ·exact⟨a,cap,rfl,hn,Or.inl h⟩
  ·refine⟨_,cap,rfl,hn,Or.inr ⟨b,o,rfl,hL,Nat.lt_of_lt_of_le hlt hz,fun i hi=>?_⟩⟩
   obtain⟨ve,vf,va,vb,c0,c1,c2,c3,c4,c5,t1,t2,s1,s2⟩:=hc i hi
   have e:∀o,w'.cell? ⟨b,o,none⟩=w.cell? ⟨b,o,none⟩:=fun o=>World.cell?_of_block (w:=w) (a:=⟨b,o,none⟩) (hs b hlt hL)
   exact⟨ve,vf,va,vb,by rw[e];exact c0,by rw[e];exact c1,by rw[e];exact c2,by rw[e];exact c3,by rw[e];exact c4,by rw[e];exact c5,
    t1.save hs hz h0,t2.save hs hz h0,StmtsIn.save hs hz h0 s1,StmtsIn.save hs hz h0 s2⟩
theorem StmtsIn.low {L M:Nat} {w:World} (hM:M≤L):∀ {d:Nat} {v:Value} {T:SL},StmtsIn L w d v T→StmtsIn M w d v T
 | 0,_,_,h=>h
 | d+1,v,T,h=>by
  obtain⟨a,cap,rfl,hn,h|⟨b,o,rfl,hL,hlt,hc⟩⟩:=h
  ·exact⟨a,cap,rfl,hn,Or.inl h⟩
  ·refine⟨_,cap,rfl,hn,Or.inr ⟨b,o,rfl,by omega,hlt,fun i hi=>?_⟩⟩
   obtain⟨ve,vf,va,vb,c0,c1,c2,c3,c4,c5,t1,t2,s1,s2⟩:=hc i hi
   exact⟨ve,vf,va,vb,c0,c1,c2,c3,c4,c5,t1.low hM,t2.low hM,StmtsIn.low hM s1,StmtsIn.low hM s2⟩
theorem StmtsIn.stmts {L:Nat} {w:World}:∀ {d:Nat} {v:Value} {T:SL},StmtsIn L w d v T→StmtsAt w.heap.size w d v T
 | 0,_,_,h=>h
 | d+1,v,T,h=>by
  obtain⟨a,cap,rfl,hn,h|⟨b,o,rfl,hL,hlt,hc⟩⟩:=h
  ·exact⟨a,cap,rfl,by omega,Or.inl h⟩
  ·refine⟨_,cap,rfl,by omega,Or.inr ⟨b,o,rfl,hlt,fun i hi=>?_⟩⟩
   obtain⟨ve,vf,va,vb,c0,c1,c2,c3,c4,c5,t1,t2,s1,s2⟩:=hc i hi
   exact⟨ve,vf,va,vb,c0,c1,c2,c3,c4,c5,t1.toks,t2.toks,StmtsIn.stmts s1,StmtsIn.stmts s2⟩
theorem StmtsIn.succ {L:Nat} {w:World}:∀ {d:Nat} {v:Value} {T:SL},StmtsIn L w d v T→StmtsIn L w (d+1) v T
 | 0,v,T,h=>by
  obtain⟨e,a,cap,rfl⟩:=h
  exact⟨a,cap,by rw[e],by omega,Or.inl e⟩
 | d+1,v,T,h=>by
  obtain⟨a,cap,rfl,hn,h|⟨b,o,rfl,hL,hlt,hc⟩⟩:=h
  ·exact⟨a,cap,rfl,hn,Or.inl h⟩
  ·refine⟨_,cap,rfl,hn,Or.inr ⟨b,o,rfl,hL,hlt,fun i hi=>?_⟩⟩
   obtain⟨ve,vf,va,vb,c0,c1,c2,c3,c4,c5,t1,t2,s1,s2⟩:=hc i hi
   exact⟨ve,vf,va,vb,c0,c1,c2,c3,c4,c5,t1,t2,StmtsIn.succ s1,StmtsIn.succ s2⟩
theorem StmtsIn.le {L:Nat} {w:World} {d e:Nat} {v:Value} {T:SL} (h:StmtsIn L w d v T) (hd:d≤e):StmtsIn L w e v T:=by
 induction e with
 | zero =>
  obtain rfl:d=0:=by omega
  exact h
 | succ e ih =>
  by_cases c:d=e+1
  ·subst c;exact h
  ·exact (ih (by omega)).succ
theorem StmtsIn.shape {L:Nat} {w:World} {d:Nat} {v:Value} {T:SL} (h:StmtsIn L w d v T):∃a n cap,v=.slice a n cap:=by
 cases d with
 | zero=>obtain⟨_,a,cap,rfl⟩:=h;exact⟨a,0,cap,rfl⟩
 | succ d=>obtain⟨a,cap,rfl,_⟩:=h;exact⟨a,_,cap,rfl⟩
theorem ToksIn.shape {L:Nat} {w:World} {v:Value} {l:List (Int×Int)} (h:ToksIn L w v l):∃a n cap,v=.slice a n cap:=by
 obtain⟨a,cap,rfl,_⟩:=h;exact⟨a,_,cap,rfl⟩
theorem StmtsIn.empty (L:Nat) (w:World) (d:Nat):StmtsIn L w (d+1) (.slice none 0 0) noSL:=⟨none,0,rfl,by show 0≤_;omega,Or.inl rfl⟩
theorem ToksIn.empty (L:Nat) (w:World):ToksIn L w (.slice none 0 0) []:=⟨none,0,rfl,by show 0≤_;omega,Or.inl rfl⟩
structure Far (m:Nat) (a b:World):Prop where
 block:∀k,k<a.heap.size→m≤k→b.heap[k]?=a.heap[k]?
 size:a.heap.size≤b.heap.size
theorem Far.trans {m:Nat} {a b c:World} (h:Far m a b) (k:Far m b c):Far m a c:=⟨fun n hn hm=>(k.block n (Nat.lt_of_lt_of_le hn h.size) hm).trans (h.block n hn hm),Nat.le_trans h.size k.size⟩
theorem Far.set {m:Nat} (a:World) (b i:Nat) (v:Value) (hb:b<m):Far m a (a.setCell ⟨b,i,none⟩ v):=⟨fun k _ hm=>Below.heap_setCell _ _ _ k (by show ¬k=b;omega),Nat.le_of_eq (World.size_setCell _ _ _).symm⟩
theorem ToksIn.far {L m:Nat} {a b:World} {v:Value} {l:List (Int×Int)} (h:ToksIn L a v l) (hm:m≤L) (hf:Far m a b):ToksIn L b v l:=by
 obtain⟨x,cap,rfl,hn,h|⟨g,rfl,hL,hg,hc⟩⟩:=h
 ·exact⟨x,cap,rfl,hn,Or.inl h⟩
 ·refine⟨_,cap,rfl,hn,Or.inr ⟨g,rfl,hL,Nat.lt_of_lt_of_le hg hf.size,fun i hi=>?_⟩⟩
  rw[World.cell?_of_block (w:=a) (a:=⟨g,i*2,none⟩) (hf.block g hg (by omega)),World.cell?_of_block (w:=a) (a:=⟨g,i*2+1,none⟩) (hf.block g hg (by omega))]
  exact hc i hi
theorem StmtsIn.far {L m:Nat} {a b:World} {d:Nat} {v:Value} {T:SL} (h:StmtsIn L a d v T) (hm:m≤L) (h0:0<L) (hf:Far m a b):StmtsIn L b d v T:=h.save (fun k hk hL=>hf.block k hk (by omega)) hf.size h0
end
end Go.Proofs.YtfaokaohhchdhaaGreatDoor
