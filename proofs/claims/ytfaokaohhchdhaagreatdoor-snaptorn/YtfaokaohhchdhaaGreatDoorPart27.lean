/- Expressions, statements and their lists: what is written is read. No Go in it. -/
import Derived.Test.YtfaokaohhchdhaaGreatDoorPart20
import Derived.Lib.SplitLaws
import Derived.Test.YtfaokaohhchdhaaGreatDoorShelf
import Derived.Test.YtfaokaohhchdhaaGreatDoorPart1
import Derived.Deep.RegionHeld3
import Derived.Lib.SmallJoins
import Derived.Laws.StructEq
import Derived.Handy
namespace Go.Proofs.YtfaokaohhchdhaaGreatDoor
open Go.RowKit
theorem exprErr_zero {n : Nat} {k z : Nat→Int} {nf : Nat} {par : Nat→Int} {locals : Int} (h : exprErr n k z nf par locals=0) :
  n≤24∧(∀ i,i < nf→parErr (par i)=0)∧(∀ j,j < n→stepErr k z nf par locals j=0)∧¬ 0 < asked k z par n:=by
 by_cases h1 : 24 < n
 ·rw [exprErr_many h1] at h; cases h
 have h2 : firstErr nf (fun i => parErr (par i))=0:=by
  unfold exprErr at h
  rw [if_neg h1] at h
  by_cases c : firstErr nf (fun i => parErr (par i))=0
  ·exact c
  ·rw [if_neg c] at h; cases h
 have h2':=firstErr_is_zero h2
 have h3 : firstErr n (stepErr k z nf par locals)=0:=by
  unfold exprErr at h
  rw [if_neg h1,if_pos h2] at h
  by_cases c : firstErr n (stepErr k z nf par locals)=0
  ·exact c
  ·rw [if_neg c] at h; exact absurd h c
 have h3':=firstErr_is_zero h3
 refine ⟨by omega,h2',h3',fun c => ?_⟩
 rw [exprErr_end h1 h2' h3',if_pos c] at h
 cases h
theorem formErr_zero {s : Nd} {la lb : Nat} (h : formErr s la lb=0) : 1≤s.kind∧s.kind≤8∧(s.num=0∨s.kind=1∨s.kind=2)∧(s.ne=0∨¬ s.kind=4)∧(s.nf=0∨s.kind=2)∧(la=0∨s.kind=6∨s.kind=7)∧(lb=0∨s.kind=6):=by
 unfold formErr at h
 split at h
 ·cases h
 ·next hc => omega
theorem stErr_zero {nf : Nat} {par : Nat→Int} {locals : Int} {s : Nd} {la lb : Nat} (h : stErr nf par locals s la lb=0) :
  formErr s la lb=0∧numErr s locals=0∧(s.kind=4∨exprErr s.ne s.ek s.ez nf par locals=0)∧(¬ s.kind=2∨exprErr s.nf s.fk s.fz nf par locals=0):=by
 unfold stErr at h
 by_cases h1 : formErr s la lb=0
 ·rw [if_pos h1] at h
  by_cases h2 : numErr s locals=0
  ·rw [if_pos h2] at h
   by_cases h3 : s.kind=4
   ·exact ⟨h1,h2,Or.inl h3,Or.inl (by omega)⟩
   ·rw [if_neg h3] at h
    by_cases h4 : exprErr s.ne s.ek s.ez nf par locals=0
    ·rw [if_pos h4] at h
     by_cases h5 : s.kind=2
     ·rw [if_pos h5] at h; exact ⟨h1,h2,Or.inr h4,Or.inr h⟩
     ·exact ⟨h1,h2,Or.inr h4,Or.inl h5⟩
    ·rw [if_neg h4] at h; exact absurd h h4
  ·rw [if_neg h2] at h; cases h
 ·rw [if_neg h1] at h; cases h
theorem errs_item {E : Nd→Nat→Nat→Int} {d : Nat} {T : SL} (h : errs E (d + 1) T=0) {i : Nat} (hi : i < T.len) :
  E (T.nd i) (T.sub i false).len (T.sub i true).len=0∧errs E d (T.sub i false)=0∧errs E d (T.sub i true)=0:=by
 have h1:=firstErr_is_zero h i hi
 split at h1
 ·next h2 =>
  split at h1
  ·next h3 => exact ⟨h2,h3,h1⟩
  ·next h3 => exact absurd h1 h3
 ·next h2 => exact absurd h1 h2
theorem prog_zero {nf : Nat} {par loc : Nat→Int} {d : Nat} {body : Nat→SL} (h : progErr nf par loc d body=0) : 1≤nf∧nf≤4∧(∀ i,i < nf→headErr i (par i) (loc i)=0)∧∀ i,i < nf→bodyErr nf par (loc i) d (body i)=0:=by
 unfold progErr at h
 by_cases h1 : nf < 1∨4 < nf
 ·rw [if_pos h1] at h; cases h
 ·rw [if_neg h1] at h
  by_cases h2 : firstErr nf (fun i => headErr i (par i) (loc i))=0
  ·rw [if_pos h2] at h
   exact ⟨by omega,by omega,firstErr_is_zero h2,firstErr_is_zero h⟩
  ·rw [if_neg h2] at h; cases h
/-! ### What no word is -/
def plainW (w : Wd) : Prop:=w ≠ funW∧¬ (32 : UInt8) ∈ w.data.toList
theorem itoa_plain (p : List UInt8) (z : Int) (hp : ¬ (32 : UInt8) ∈ p) (hf : p=[]∨p=[118]∨p=[46]∨p=[110,101,119]∨p=[102]) : plainW (bs (p ++ Lib.itoa z)):=by
 obtain ⟨c,r,e,hc,hr⟩:=itoa_bytes z
 rw [e]
 refine ⟨fun h => ?_,fun h => ?_⟩
 ·have h:=bs_inj h
  rcases hf with rfl | rfl | rfl | rfl | rfl
  ·injection h with h1 h2; subst h1; simp at hc
  ·injection h with h1 h2; cases h1
  ·injection h with h1 h2; cases h1
  ·injection h with h1 h2; cases h1
  ·injection h with h1 h2; injection h2 with h2 h3; subst h2; simp at hc
 ·rw [bs_data,List.mem_append,List.mem_cons] at h
  rcases h with h | h | h
  ·exact hp h
  ·subst h; simp at hc
  ·have:=hr _ h; simp at this
theorem tokW_plain {k z : Int} {nf : Nat} {locals : Int} (h : tokErr k z nf locals=0) : plainW (tokW k z):=by
 unfold tokW
 split
 ·next hk =>
  subst hk
  have hz5 : z=1∨z=2∨z=3∨z=4∨z=5:=by
   unfold tokErr at h
   rw [if_neg (by decide),if_neg (by decide),if_pos rfl] at h
   split at h
   ·cases h
   ·omega
  rcases hz5 with rfl | rfl | rfl | rfl | rfl <;> exact ⟨by decide,by decide⟩
 ·next hk =>
  have : k.toNat=0∨k.toNat=1∨k.toNat=2∨k.toNat=3∨k.toNat=4∨k.toNat=5∨k.toNat=6∨7≤k.toNat:=by omega
  have hm : mkL k.toNat=[]∨mkL k.toNat=[118]∨mkL k.toNat=[46]∨mkL k.toNat=[110,101,119]∨mkL k.toNat=[102]:=by
   rcases this with e | e | e | e | e | e | e | e
   ·rw [e]; exact Or.inl rfl
   ·rw [e]; exact Or.inl rfl
   ·rw [e]; exact Or.inr (Or.inl rfl)
   ·rw [e]; exact Or.inl rfl
   ·rw [e]; exact Or.inr (Or.inr (Or.inl rfl))
   ·rw [e]; exact Or.inr (Or.inr (Or.inr (Or.inl rfl)))
   ·rw [e]; exact Or.inr (Or.inr (Or.inr (Or.inr rfl)))
   ·left; unfold mkL; split <;> first | omega | rfl
  refine itoa_plain _ z ?_ hm
  rcases hm with e | e | e | e | e <;> rw [e] <;> decide
theorem toksW_plain {k z : Nat→Int} {nf : Nat} {locals : Int} : ∀ {n : Nat},(∀ j,j < n→tokErr (k j) (z j) nf locals=0)→∀ w ∈ toksW k z n,plainW w
 | 0,_,w,hw => by cases hw
 | n + 1,h,w,hw => by
  rcases List.mem_append.1 hw with hw | hw
  ·exact toksW_plain (fun j hj => h j (by omega)) w hw
  ·rw [List.mem_singleton] at hw; subst hw; exact tokW_plain (h n (by omega))
theorem catTo_mem {f : Nat→List Wd} {w : Wd} : ∀ {n : Nat},w ∈ catTo f n→∃ i,i < n∧w ∈ f i
 | 0,h => by cases h
 | n + 1,h => by
  rcases List.mem_append.1 h with h | h
  ·obtain ⟨i,hi,hw⟩:=catTo_mem h
   exact ⟨i,by omega,hw⟩
  ·exact ⟨n,by omega,h⟩
theorem expr_toks {n : Nat} {k z : Nat→Int} {nf : Nat} {par : Nat→Int} {locals : Int} (h : exprErr n k z nf par locals=0) : ∀ j,j < n→tokErr (k j) (z j) nf locals=0 :=
 fun j hj => (stepErr_tok ((exprErr_zero h).2.2.1 j hj)).1
/-! ### The heads -/
theorem bodyErr_errs {nf : Nat} {par : Nat→Int} {locals : Int} {d : Nat} {T : SL} (h : bodyErr nf par locals d T=0) : sound d T∧errs (stErr nf par locals) d T=0:=by
 unfold bodyErr at h
 by_cases c : (wk look1 d T 1 0).1=0
 ·rw [if_pos c] at h; exact ⟨wk1_iff.1 c,h⟩
 ·rw [if_neg c] at h; cases h
theorem head_range {i : Nat} {p l : Int} (h : headErr i p l=0) : 0≤p∧p≤3∧p≤l∧l≤6:=by
 unfold headErr at h
 split at h
 ·cases h
 ·omega
/-! ### Words and texts -/
theorem joinTail_cons (x : List UInt8) (r : List (List UInt8)) : Lib.joinTail [32] (x :: r)=32 :: (x ++ Lib.joinTail [32] r):=by simp [Lib.joinTail]
def wordsOf (s : ByteArray) : List Wd:=Lib.splitB (bs [32]) 0 (Lib.countB s (bs [32])) s
end Go.Proofs.YtfaokaohhchdhaaGreatDoor
namespace Go.Proofs.YtfaokaohhchdhaaGreatDoor
open Go.RowKit Go.Maps
structure Env (N : Nat) (w : World) : Prop where
 low : 11≤N
 pow : Lib.TabIs Tryz.prog w "internal/strconv.uint64pow10" .u64 Lib.pow10Tab
 syn : ∃ tp p,w.var? Tryz.prog "strconv.ErrSyntax"=some #[.iface tp p]
 rng : ∃ tp p,w.var? Tryz.prog "strconv.ErrRange"=some #[.iface tp p]
 max : ∃ m,w.cell? ⟨2,0,none⟩=some (.int .i64 m)
theorem gPow : Tryz.prog.globalNamed "internal/strconv.uint64pow10"=some 3:=by kernel_rfl
theorem gSyn : Tryz.prog.globalNamed "strconv.ErrSyntax"=some 4:=by kernel_rfl
theorem gRng : Tryz.prog.globalNamed "strconv.ErrRange"=some 5:=by kernel_rfl
theorem var_of_block {P : Program} {w w' : World} {n : String} {g : Nat} (hg : P.globalNamed n=some g) (hb : w'.heap[g]?=w.heap[g]?) : w'.var? P n=w.var? P n:=by
 unfold World.var?
 rw [hg]
 simp only [Option.bind_some,hb]
theorem Env.below {N : Nat} {w w' : World} (h : Env N w) (hb : Below N w w') : Env N w':=by
 have l:=h.low
 refine ⟨l,?_,?_,?_,?_⟩
 ·unfold Lib.TabIs; rw [var_of_block gPow (hb.block 3 (by omega))]; exact h.pow
 ·rw [var_of_block gSyn (hb.block 4 (by omega))]; exact h.syn
 ·rw [var_of_block gRng (hb.block 5 (by omega))]; exact h.rng
 ·rw [hb.cell (p:=⟨2,0,none⟩) (by show 2 < N; omega)]; exact h.max
theorem Env.up {N M : Nat} {w : World} (h : Env N w) (hm : N≤M) : Env M w:=⟨Nat.le_trans h.low hm,h.pow,h.syn,h.rng,h.max⟩
theorem below_grow (w : World) (k : Nat) (os : Array Obj) : Below w.heap.size w (Sort.grow (w.drewN k) os) :=
 ⟨rfl,rfl,rfl,by simp [Sort.grow,World.drewN],fun j hj => by
  show (w.heap ++ os)[j]?=w.heap[j]?
  rw [Array.getElem?_append_left hj]⟩
theorem itoa (N : Nat) (z : Int) (h0 : -9223372036854775808≤z) (h1 : z≤9223372036854775807) (w : World) (he : Env N w) :
  Calls Tryz.prog 85 #[.int .i64 z] w fun e w' => e=.returned (.string (numW z))∧Below w.heap.size w w':=by
 refine (Tryz.strconv_Itoa z h0 h1 w he.pow).mono ?_
 rintro e w' ⟨rfl,k,os,rfl⟩
 exact ⟨rfl,below_grow w k os⟩
theorem atoi (N : Nat) (s : Wd) (hs : s.size≤1000000) (w : World) (he : Env N w) :
  Calls Tryz.prog 142 #[.string s] w fun e w' => ∃ er,e=.returned (.tuple #[.int .i64 (atoiV s.data.toList),er])∧Below w.heap.size w w':=by
 cases h : Lib.atoiAll s.data.toList with
 | ok v =>
  have e0 : atoiV s.data.toList=v:=by unfold atoiV; rw [h]
  rw [e0]
  refine (Tryz.strconv_Atoi_ok s (by omega) v h w).mono ?_
  rintro e w' ⟨rfl,rfl | ⟨t,rfl⟩⟩
  ·exact ⟨_,rfl,Below.refl _ _⟩
  ·exact ⟨_,rfl,Lib.bytesWorld_below _ _ _⟩
 | «syntax» =>
  have e0 : atoiV s.data.toList=0:=by unfold atoiV; rw [h]
  rw [e0]
  obtain ⟨tp,p,hv⟩:=he.syn
  refine (Tryz.strconv_Atoi_syntax_var s (by omega) h tp p w hv).mono ?_
  rintro e w' ⟨n,rfl,_,_,hb⟩
  exact ⟨_,rfl,hb⟩
 | range =>
  have e0 : atoiV s.data.toList=Lib.atoiSat s.data.toList:=by unfold atoiV; rw [h]
  rw [e0]
  obtain ⟨tp,p,hv⟩:=he.rng
  refine (Tryz.strconv_Atoi_range_var s (by omega) h tp p w hv).mono ?_
  rintro e w' ⟨n,rfl,_,_,hb⟩
  exact ⟨_,rfl,hb⟩
/-! ### Rows of words of the call's own -/
structure Grow (w : World) (v : Value) (w' : World) (v' : Value) : Prop where
 os : w'.os=w.os
 tape : w'.tape=w.tape
 output : w'.output=w.output
 size : w.heap.size≤w'.heap.size
 block : ∀ k,k < w.heap.size→¬ v.ownBlock=some k→w'.heap[k]?=w.heap[k]?
 own : ∀ k,k < w.heap.size→v'.ownBlock=some k→v.ownBlock=some k
theorem Grow.refl (w : World) (v : Value) : Grow w v w v:=⟨rfl,rfl,rfl,Nat.le_refl _,fun _ _ _ => rfl,fun _ _ h => h⟩
theorem Grow.trans {a b c : World} {u v x : Value} (h : Grow a u b v) (k : Grow b v c x) : Grow a u c x :=
 ⟨k.os.trans h.os,k.tape.trans h.tape,k.output.trans h.output,Nat.le_trans h.size k.size,
  fun n hn hx => (k.block n (Nat.lt_of_lt_of_le hn h.size) fun e => hx (h.own n hn e)).trans (h.block n hn hx),
  fun n hn e => h.own n hn (k.own n (Nat.lt_of_lt_of_le hn h.size) e)⟩
theorem Grow.of {a b : World} (v : Value) (h : Below a.heap.size a b) : Grow a v b v:=⟨h.os,h.tape,h.output,h.size,fun n hn _ => h.block n hn,fun _ _ e => e⟩
def WS (B : Nat) (w : World) (v : Value) (R : List Wd) : Prop:=w.ownsRow B 9 1 v R.length (R.map Value.string)
theorem WS.nil (B : Nat) (w : World) : WS B w (.slice none 0 0) []:=⟨rfl,Or.inl ⟨rfl,rfl⟩⟩
theorem WS.low {B : Nat} {w : World} {v : Value} {R : List Wd} (h : WS B w v R) : ∀ k,v.ownBlock=some k→B≤k:=by
 intro k hk
 rcases h.2 with ⟨rfl,_⟩ | ⟨g,cap,cur,rfl,hb,_⟩
 ·cases hk
 ·cases hk; exact hb
theorem WS.lt {B : Nat} {w : World} {v : Value} {R : List Wd} (h : WS B w v R) : ∀ k,v.ownBlock=some k→k < w.heap.size:=by
 intro k hk
 rcases h.2 with ⟨rfl,_⟩ | ⟨g,cap,cur,rfl,hb,hg,_⟩
 ·cases hk
 ·cases hk; exact (Array.getElem?_eq_some_iff.1 hg).1
theorem WS.keep {B : Nat} {w w' : World} {v : Value} {R : List Wd} (h : WS B w v R) (hb : Below w.heap.size w w') : WS B w' v R:=by
 unfold WS at *
 refine ⟨h.1,?_⟩
 rcases h.2 with ⟨rfl,h0⟩ | ⟨g,cap,cur,rfl,h1,h2,h3⟩
 ·exact Or.inl ⟨rfl,h0⟩
 ·exact Or.inr ⟨g,cap,cur,rfl,h1,by rw [hb.block g (Array.getElem?_eq_some_iff.1 h2).1]; exact h2,h3⟩
theorem Grow.low {B : Nat} {a b : World} {u v : Value} (h : Grow a u b v) (hu : ∀ k,u.ownBlock=some k→B≤k) (hB : B≤a.heap.size) : Below B a b :=
 ⟨h.os,h.tape,h.output,h.size,fun k hk => h.block k (Nat.lt_of_lt_of_le hk hB) fun e => by have:=hu k e; omega⟩
theorem info9 : (Tryz.prog.info? 9).map (fun i => (i.zero,i.size,i.bytes))=some (some (.string ⟨#[]⟩),1,16):=by kernel_rfl
theorem strs_one (L : List Wd) : ∀ u ∈ L.map Value.string,u.oneCell'=true:=by
 intro u hu
 obtain ⟨x,_,rfl⟩:=List.mem_map.1 hu
 rfl
theorem strEq (a b : ByteArray) : (a.toList == b.toList)=decide (a=b):=by
 rw [← beq_toListBytes]
 by_cases h : a=b
 ·subst h; rw [beq_toListBytes]; simp
 ·rw [beq_toListBytes,decide_eq_false h,beq_eq_false_iff_ne]
  intro e
  exact h (ByteArray.ext (by rw [ByteArray.toList_eq,ByteArray.toList_eq] at e; exact Array.toList_inj.1 e))
theorem kindOf_miss {x : Wd} (h0 : ∀ j,j < 9→¬ bs (stL j)=x) : kindOf x=0:=by
 unfold kindOf
 rw [List.find?_eq_none.2 (fun j hj => by simp [h0 j (List.mem_range.1 hj)])]
 rfl
theorem kindOf_lt (x : Wd) : kindOf x≤8:=by
 unfold kindOf
 cases h : (List.range 9).find? fun k => decide (bs (stL k)=x) with
 | none => simp
 | some k =>
  have:=List.mem_of_find?_eq_some h
  simp at this ⊢
  omega
end Go.Proofs.YtfaokaohhchdhaaGreatDoor
namespace Go.Proofs.YtfaokaohhchdhaaGreatDoor
open Go.RowKit
structure Save (X : Nat) (w w' : World) : Prop where
 os : w'.os=w.os
 tape : w'.tape=w.tape
 output : w'.output=w.output
 size : w.heap.size≤w'.heap.size
 block : ∀ k,k < w.heap.size→¬ k=X→w'.heap[k]?=w.heap[k]?
theorem Save.refl (X : Nat) (w : World) : Save X w w:=⟨rfl,rfl,rfl,Nat.le_refl _,fun _ _ _ => rfl⟩
theorem Save.trans {X : Nat} {a b c : World} (h : Save X a b) (k : Save X b c) : Save X a c :=
 ⟨k.os.trans h.os,k.tape.trans h.tape,k.output.trans h.output,Nat.le_trans h.size k.size,fun n hn hx => (k.block n (Nat.lt_of_lt_of_le hn h.size) hx).trans (h.block n hn hx)⟩
theorem Save.of {X : Nat} {a b : World} (h : Below a.heap.size a b) : Save X a b:=⟨h.os,h.tape,h.output,h.size,fun k hk _ => h.block k hk⟩
theorem Save.alloc (X : Nat) (w : World) (o : Obj) : Save X w (w.alloc o):=Save.of (below_alloc w o)
theorem Save.low {X N : Nat} {a b : World} (h : Save X a b) (h1 : N≤X) (h2 : N≤a.heap.size) : Below N a b:=⟨h.os,h.tape,h.output,h.size,fun k hk => h.block k (Nat.lt_of_lt_of_le hk h2) (by omega)⟩
theorem Save.cell {X : Nat} {a b : World} (h : Save X a b) {p : Addr} (h1 : p.block < a.heap.size) (h2 : ¬ p.block=X) : b.cell? p=a.cell? p:=World.cell?_of_block (w:=a) (a:=p) (h.block p.block h1 h2)
theorem Save.box {X : Nat} {w w1 : World} {cs : Array Value} {t : TypeId} (hb : Save X (w.alloc (.cells cs t)) w1) (hX : X < w.heap.size) (i : Nat) {c : Value} (h : cs[i]?=some c) : w1.cell? ⟨w.heap.size,i,none⟩=some c:=by
 rw [hb.cell (p:=⟨w.heap.size,i,none⟩) (by simp) (by simp; omega),World.cell?_alloc_new]
 exact h
end Go.Proofs.YtfaokaohhchdhaaGreatDoor
namespace Go.Proofs.YtfaokaohhchdhaaGreatDoor
open Go.RowKit Go.Maps
def WordsAt (X : Nat) (fv : Value) (w : World) (v : Value) (ws : List Wd) : Prop :=
 (∀ x ∈ ws,x.size≤100000)∧ws.length≤100000∧∃ a cap,v=.slice a ws.length cap∧ws.length≤cap∧(ws=[]∨∃ g o,a=some ⟨g,o,none⟩∧g < X∧¬ fv.ownBlock=some g∧∀ j x,ws[j]?=some x→w.cell? ⟨g,o + j,none⟩=some (.string x))
theorem WordsAt.low {X : Nat} {fv : Value} {w w' : World} {v : Value} {ws : List Wd} (h : WordsAt X fv w v ws) (hs : ∀ k,k < X→¬ fv.ownBlock=some k→w'.heap[k]?=w.heap[k]?) : WordsAt X fv w' v ws:=by
 obtain ⟨h0,h1,a,cap,rfl,hc,h | ⟨g,o,rfl,hg,hf,hcell⟩⟩:=h
 ·exact ⟨h0,h1,a,cap,rfl,hc,Or.inl h⟩
 ·exact ⟨h0,h1,_,cap,rfl,hc,Or.inr ⟨g,o,rfl,hg,hf,fun j x hj => by rw [World.cell?_of_block (w:=w) (a:=⟨g,o + j,none⟩) (hs g hg hf)]; exact hcell j x hj⟩⟩
def ParAt (X : Nat) (w : World) (fv : Value) (nf : Nat) (par : Nat→Int) : Prop :=
 ∃ a cap,fv=.slice a nf cap∧nf≤100000∧(nf=0∨∃ b o,a=some ⟨b,o,none⟩∧b < X∧∀ i,i < nf→w.cell? ⟨b,o + i * 3,none⟩=some (.int .i64 (par i)))
theorem ParAt.low {X : Nat} {w w' : World} {fv : Value} {nf : Nat} {par : Nat→Int} (h : ParAt X w fv nf par) (hs : ∀ k,k < X→w'.heap[k]?=w.heap[k]?) : ParAt X w' fv nf par:=by
 obtain ⟨a,cap,rfl,hn,h | ⟨b,o,rfl,hb,hc⟩⟩:=h
 ·exact ⟨a,cap,rfl,hn,Or.inl h⟩
 ·exact ⟨_,cap,rfl,hn,Or.inr ⟨b,o,rfl,hb,fun i hi => by rw [World.cell?_of_block (w:=w) (a:=⟨b,o + i * 3,none⟩) (hs b hb)]; exact hc i hi⟩⟩
end Go.Proofs.YtfaokaohhchdhaaGreatDoor
