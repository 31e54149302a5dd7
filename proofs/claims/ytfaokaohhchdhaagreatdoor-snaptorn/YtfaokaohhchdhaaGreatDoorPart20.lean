/- The words of a program, and how a row of words is read as one: the plain reckoning. No Go in it. -/
import Derived.Test.YtfaokaohhchdhaaGreatDoorPart1
import Derived.Lib.ItoaNum
import Derived.Lib.AtoiAll
import Derived.Lib.Join
import Derived.Lib.Split
import Derived.RowKit
import Derived.Test.YtfaokaohhchdhaaGreatDoorPart3
import Derived.Lib.SplitLaws
import Derived.Lib.CutLaws
import Derived.Test.YtfaokaohhchdhaaGreatDoorShelf
import Derived.Test.YtfaokaohhchdhaaGreatDoorPart4
import Derived.Lib.ItoaLen
import Derived.Lib.OthersKept
import Derived.Lib.BufferKept
import Derived.Deep.Light
import Derived.OwnWalk
import Derived.Lib.AtoiAllCases
namespace Go.Proofs.YtfaokaohhchdhaaGreatDoor
open Go.RowKit
abbrev Wd:=ByteArray
def bs (l : List UInt8) : Wd:=⟨l.toArray⟩
theorem bs_data (l : List UInt8) : (bs l).data.toList=l:=rfl
theorem bs_inj {l m : List UInt8} (h : bs l=bs m) : l=m:=by
 have:=congrArg (fun x : ByteArray => x.data.toList) h
 exact this
theorem bs_of (w : Wd) : bs w.data.toList=w:=rfl
def stL : Nat→List UInt8
 | 1 => [115,101,116]
 | 2 => [112,117,116]
 | 3 => [115,97,121]
 | 4 => [112,97,117,115,101]
 | 5 => [103,111]
 | 6 => [105,102]
 | 7 => [119,104,105,108,101]
 | 8 => [114,101,116,117,114,110]
 | _ => []
def opL : Nat→List UInt8
 | 1 => [43]
 | 2 => [45]
 | 3 => [42]
 | 4 => [60]
 | 5 => [61]
 | _ => []
def mkL : Nat→List UInt8
 | 2 => [118]
 | 4 => [46]
 | 5 => [110,101,119]
 | 6 => [102]
 | _ => []
def obW : Wd:=bs [123]
def cbW : Wd:=bs [125]
def funW : Wd:=bs [102,117,110]
def numW (n : Int) : Wd:=bs (Lib.itoa n)
def tokW (k z : Int) : Wd:=if k=3 then bs (opL z.toNat) else bs (mkL k.toNat ++ Lib.itoa z)
def toksW (k z : Nat→Int) : Nat→List Wd
 | 0 => []
 | n + 1 => toksW k z n ++ [tokW (k n) (z n)]
def catTo (f : Nat→List Wd) : Nat→List Wd
 | 0 => []
 | n + 1 => catTo f n ++ f n
def stmtW (B : SL→List Wd) (s : Nd) (a b : SL) : List Wd :=
 ((((bs (stL s.kind.toNat) :: (if s.kind=1∨s.kind=2 then [numW s.num] else [])) ++ toksW s.ek s.ez s.ne) ++ toksW s.fk s.fz s.nf) ++ (if s.kind=6∨s.kind=7 then B a else [])) ++ (if s.kind=6 then B b else [])
def blkW : Nat→SL→List Wd
 | 0,_ => [obW,cbW]
 | d + 1,T => (obW :: catTo (fun i => stmtW (blkW d) (T.nd i) (T.sub i false) (T.sub i true)) T.len) ++ [cbW]
def funWs (d : Nat) (p l : Int) (T : SL) : List Wd:=[funW,numW p,numW l] ++ blkW d T
def progW (nf : Nat) (par loc : Nat→Int) (d : Nat) (body : Nat→SL) : List Wd:=catTo (fun i => funWs d (par i) (loc i) (body i)) nf
def textL (ws : List Wd) : List UInt8:=Lib.join (ws.map (·.data.toList)) [32]
def atoiV (l : List UInt8) : Int:=match Lib.atoiAll l with
 | .ok v => v
 | .«syntax» => 0
 | .range => Lib.atoiSat l
def hdW (ws : List Wd) : Wd:=ws.headD (bs [])
def numR (ws : List Wd) : Int:=atoiV (hdW ws).data.toList
def kindOf (w : Wd) : Nat:=((List.range 9).find? fun k => decide (bs (stL k)=w)).getD 0
structure It where
 nd : Nd
 a : SL
 b : SL
def noSL : SL:=fun _ => (0,fun _ => ⟨0,0,0,fun _ => 0,fun _ => 0,0,fun _ => 0,fun _ => 0⟩)
def noIt : It:=⟨⟨0,0,0,fun _ => 0,fun _ => 0,0,fun _ => 0,fun _ => 0⟩,noSL,noSL⟩
def mkT (l : List It) : SL:=fun p => match p with
 | [] => (l.length,fun i => (l.getD i noIt).nd)
 | (i,false) :: q => (l.getD i noIt).a q
 | (i,true) :: q => (l.getD i noIt).b q
theorem mkT_len (l : List It) : (mkT l).len=l.length:=rfl
theorem mkT_nd (l : List It) (i : Nat) : (mkT l).nd i=(l.getD i noIt).nd:=rfl
theorem mkT_a (l : List It) (i : Nat) : (mkT l).sub i false=(l.getD i noIt).a:=rfl
theorem mkT_b (l : List It) (i : Nat) : (mkT l).sub i true=(l.getD i noIt).b:=rfl
def mkNd (k n : Int) (e f : List (Int×Int)) : Nd:=⟨k,n,e.length,fun i => (e.getD i (0,0)).1,fun i => (e.getD i (0,0)).2,f.length,fun i => (f.getD i (0,0)).1,fun i => (f.getD i (0,0)).2⟩
def hasN (k : Nat) : Bool:=k == 1 || k == 2
def hasA (k : Nat) : Bool:=k == 6 || k == 7
theorem dig_toNat (d : Nat) (h : d < 10) : (UInt8.ofNat (48 + d)).toNat=48 + d:=by
 simp only [UInt8.toNat_ofNat']; omega
theorem parse_snoc (c : UInt8) : ∀ (l : List UInt8) (acc v : Nat),Lib.parseUint10 acc l=.ok v→Lib.parseUint10 acc (l ++ [c])=Lib.parseUint10 v [c]
 | [],acc,v,h => by simp only [Lib.parseUint10] at h; injection h with h; subst h; rfl
 | b :: l,acc,v,h => by
  simp only [Lib.parseUint10,List.cons_append] at h ⊢
  split at h
  ·next h1 =>
   rw [if_pos h1]
   split at h
   ·cases h
   ·next h2 =>
    rw [if_neg h2]
    split at h
    ·cases h
    ·next h3 =>
     rw [if_neg h3]
     exact parse_snoc c l _ v h
  ·cases h
theorem parse_digits (u : Nat) (hu : u < 18446744073709551616) : Lib.parseUint10 0 (Lib.decDigits u)=.ok u:=by
 induction u using Nat.strongRecOn with
 | _ u ih =>
  by_cases h : u < 10
  ·rw [Lib.decDigits_one h]
   simp only [Lib.parseUint10,dig_toNat u h]
   rw [if_pos (by omega),if_neg (by omega),if_neg (by omega)]
   congr 1; omega
  ·rw [Lib.decDigits,dif_neg h,parse_snoc _ _ _ _ (ih (u / 10) (by omega) (by omega))]
   simp only [Lib.parseUint10,dig_toNat (u % 10) (by omega)]
   rw [if_pos (by omega),if_neg (by omega),if_neg (by omega)]
   congr 1; omega
theorem digits_are (u : Nat) : Lib.decDigits u ≠ []∧∀ c ∈ Lib.decDigits u,48≤c.toNat∧c.toNat≤57:=by
 induction u using Nat.strongRecOn with
 | _ u ih =>
  by_cases h : u < 10
  ·rw [Lib.decDigits_one h]
   refine ⟨by simp,fun c hc => ?_⟩
   rw [List.mem_singleton] at hc
   subst hc
   rw [dig_toNat u h]; omega
  ·rw [Lib.decDigits,dif_neg h]
   refine ⟨by simp,fun c hc => ?_⟩
   rcases List.mem_append.1 hc with hc | hc
   ·exact (ih (u / 10) (by omega)).2 c hc
   ·rw [List.mem_singleton] at hc
    subst hc
    rw [dig_toNat (u % 10) (by omega)]; omega
theorem itoa_bytes (z : Int) : ∃ c r,Lib.itoa z=c :: r∧(c.toNat=45∧r ≠ []∨48≤c.toNat∧c.toNat≤57)∧∀ b ∈ r,48≤b.toNat∧b.toNat≤57:=by
 unfold Lib.itoa
 split
 ·obtain ⟨h1,h2⟩:=digits_are z.natAbs
  exact ⟨45,_,rfl,Or.inl ⟨rfl,h1⟩,h2⟩
 ·obtain ⟨h1,h2⟩:=digits_are z.toNat
  cases h : Lib.decDigits z.toNat with
  | nil => exact absurd h h1
  | cons c r =>
   rw [h] at h2
   exact ⟨c,r,rfl,Or.inr (h2 c (by simp)),fun b hb => h2 b (by simp [hb])⟩
theorem kindOf_st : ∀ k : Nat,1≤k→k≤8→kindOf (bs (stL k))=k:=by
 intro k h1 h2
 have : k=1∨k=2∨k=3∨k=4∨k=5∨k=6∨k=7∨k=8:=by omega
 rcases this with rfl | rfl | rfl | rfl | rfl | rfl | rfl | rfl <;> decide
def insOf (l : List Int) : In:=⟨l.getD 0 0,l.getD 1 0,l.getD 2 0,l.getD 3 0,l.length - 4,fun k => l.getD (k + 4) 0⟩
def mkPc (h : List Int) (ls : List (List Int)) : Pc:=⟨h.getD 0 0,h.getD 1 0,ls.length,fun k => insOf (ls.getD k [])⟩
/-! ### Pieces -/
/-! ### Numbers -/
def i64 (z : Int) : Prop:=-9223372036854775808≤z∧z≤9223372036854775807
def nthP (L : List Pc) (i : Nat) : Pc:=L.getD i (mkPc [] [])
/-! ### Right programs have small numbers -/
/-! ### Like programs have like errors -/
end Go.Proofs.YtfaokaohhchdhaaGreatDoor
namespace Go.Proofs.YtfaokaohhchdhaaGreatDoor
open Go.RowKit Go.Maps
structure NEnv (N : Nat) (w : World) : Prop where
 low : 9≤N
 pow : Lib.TabIs Tryz.prog w "internal/strconv.uint64pow10" .u64 Lib.pow10Tab
 syn : ∃ tp p,w.var? Tryz.prog "strconv.ErrSyntax"=some #[.iface tp p]
 rng : ∃ tp p,w.var? Tryz.prog "strconv.ErrRange"=some #[.iface tp p]
 max : ∃ m,w.cell? ⟨2,0,none⟩=some (.int .i64 m)
theorem ngPow : Tryz.prog.globalNamed "internal/strconv.uint64pow10"=some 3:=by kernel_rfl
theorem ngSyn : Tryz.prog.globalNamed "strconv.ErrSyntax"=some 4:=by kernel_rfl
theorem ngRng : Tryz.prog.globalNamed "strconv.ErrRange"=some 5:=by kernel_rfl
theorem var_block {P : Program} {w w' : World} {n : String} {g : Nat} (hg : P.globalNamed n=some g) (hb : w'.heap[g]?=w.heap[g]?) : w'.var? P n=w.var? P n:=by
 unfold World.var?
 rw [hg]
 simp only [Option.bind_some,hb]
theorem NEnv.below {N : Nat} {w w' : World} (h : NEnv N w) (hb : Below N w w') : NEnv N w':=by
 have l:=h.low
 refine ⟨l,?_,?_,?_,?_⟩
 ·unfold Lib.TabIs; rw [var_block ngPow (hb.block 3 (by omega))]; exact h.pow
 ·rw [var_block ngSyn (hb.block 4 (by omega))]; exact h.syn
 ·rw [var_block ngRng (hb.block 5 (by omega))]; exact h.rng
 ·rw [hb.cell (p:=⟨2,0,none⟩) (by show 2 < N; omega)]; exact h.max
/-! ### Rows of the call's own -/
def BS (B : Nat) (w : World) (v : Value) (l : List UInt8) : Prop:=w.ownsRow B 5 1 v l.length (Lib.byteCells l)
def IS (B : Nat) (w : World) (v : Value) (zs : List Int) : Prop:=w.ownsRow B 3 1 v zs.length (zs.map (Value.int .i64))
def KB (B : Nat) (w w' : World) : Prop:=Below B w w'∧Lib.OthersKept 5 none w w'
theorem KB.refl (B : Nat) (w : World) : KB B w w:=⟨Below.refl _ _,Lib.OthersKept.refl _ _ _⟩
theorem KB.trans {B : Nat} {a b c : World} (h : KB B a b) (k : KB B b c) : KB B a c:=⟨h.1.trans k.1,h.2.trans k.2⟩
theorem KB.of {B : Nat} {a b : World} (h : Below a.heap.size a b) (hB : B≤a.heap.size) : KB B a b:=⟨h.mono hB,(Lib.OthersKept.refl _ _ _).below h⟩
theorem BS.nil (B : Nat) (w : World) : BS B w (.slice none 0 0) []:=⟨rfl,Or.inl ⟨rfl,rfl⟩⟩
theorem IS.nil (B : Nat) (w : World) : IS B w (.slice none 0 0) []:=⟨rfl,Or.inl ⟨rfl,rfl⟩⟩
theorem IS.at {B : Nat} {w : World} {v : Value} {l : List Int} (h : IS B w v l) : ∃ a cap,v=.slice a l.length cap∧(l=[]∨∃ g,a=some ⟨g,0,none⟩∧B≤g∧g < w.heap.size∧∀ i z,l[i]?=some z→w.cell? ⟨g,i,none⟩=some (.int .i64 z)):=by
 rcases h.2 with ⟨rfl,h0⟩ | ⟨g,cap,cur,rfl,h1,h2,h3⟩
 ·exact ⟨none,0,by rw [h0],Or.inl (List.length_eq_zero_iff.1 h0)⟩
 ·refine ⟨_,cap,rfl,Or.inr ⟨g,rfl,h1,(Array.getElem?_eq_some_iff.1 h2).1,fun i z hz => ?_⟩⟩
  have:=h.cellAt i (by have:=(List.getElem?_eq_some_iff.1 hz).1; omega)
  rw [List.getElem?_map,hz] at this
  exact this
theorem info3i : (Tryz.prog.info? 3).map (fun i => (i.zero,i.size,i.bytes))=some (some (.int .i64 0),1,8):=by kernel_rfl
end Go.Proofs.YtfaokaohhchdhaaGreatDoor
