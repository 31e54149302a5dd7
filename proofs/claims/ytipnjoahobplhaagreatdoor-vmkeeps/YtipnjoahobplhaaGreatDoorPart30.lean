/- The words of a program, and how a row of words is read as one: the plain reckoning. No Go in it. -/
import Derived.Test.YtipnjoahobplhaaGreatDoorPart4
import Derived.Lib.ItoaNum
import Derived.Lib.AtoiAll
import Derived.Lib.Join
import Derived.Lib.Split
import Derived.RowKit
import Derived.Test.YtipnjoahobplhaaGreatDoorPart0
import Derived.Lib.SplitLaws
import Derived.Lib.CutLaws
import Derived.Test.YtipnjoahobplhaaGreatDoorShelf
import Derived.Test.YtipnjoahobplhaaGreatDoorPart3
import Derived.Test.YtipnjoahobplhaaGreatDoorPart5
import Derived.Lib.ItoaLen
import Derived.Lib.OthersKept
import Derived.Lib.BufferKept
import Derived.Deep.Light
import Derived.OwnWalk
import Derived.Lib.AtoiAllCases
import Derived.Test.YtipnjoahobplhaaGreatDoorPart10
import Derived.Deep.RegionHeld3
import Derived.Test.YtipnjoahobplhaaGreatDoorPart27
import Derived.Test.YtipnjoahobplhaaGreatDoorPart26
import Derived.Test.YtipnjoahobplhaaGreatDoorPart28
import Derived.Test.YtipnjoahobplhaaGreatDoorPart17
import Derived.Test.YtipnjoahobplhaaGreatDoorPart2
import Derived.Test.YtipnjoahobplhaaGreatDoorVSwept
namespace Go.Proofs.YtipnjoahobplhaaGreatDoor
open Go.RowKit
abbrev Wd:=ByteArray
def bs (l : List UInt8) : Wd:=⟨l.toArray⟩
theorem bs_data (l : List UInt8) : (bs l).data.toList = l:=rfl
theorem bs_inj {l m : List UInt8} (h : bs l = bs m) : l = m:=by
 have:=congrArg (fun x : ByteArray => x.data.toList) h
 exact this
theorem bs_of (w : Wd) : bs w.data.toList = w:=rfl
def stL : Nat→List UInt8
 | 1 => [115,101,116]
 | 2 => [112,117,116]
 | 3 => [115,97,121]
 | 4 => [112,97,117,115,101]
 | 5 => [103,111]
 | 6 => [105,102]
 | 7 => [119,104,105,108,101]
 | 8 => [114,101,116,117,114,110]
 | _ => []
def opL : Nat→List UInt8
 | 1 => [43]
 | 2 => [45]
 | 3 => [42]
 | 4 => [60]
 | 5 => [61]
 | _ => []
def mkL : Nat→List UInt8
 | 2 => [118]
 | 4 => [46]
 | 5 => [110,101,119]
 | 6 => [102]
 | _ => []
def obW : Wd:=bs [123]
def cbW : Wd:=bs [125]
def funW : Wd:=bs [102,117,110]
def numW (n : Int) : Wd:=bs (Lib.itoa n)
def tokW (k z : Int) : Wd:=if k = 3 then bs (opL z.toNat) else bs (mkL k.toNat ++ Lib.itoa z)
def toksW (k z : Nat→Int) : Nat→List Wd
 | 0 => []
 | n + 1 => toksW k z n ++ [tokW (k n) (z n)]
def catTo (f : Nat→List Wd) : Nat→List Wd
 | 0 => []
 | n + 1 => catTo f n ++ f n
def stmtW (B : SL→List Wd) (s : Nd) (a b : SL) : List Wd :=
 ((((bs (stL s.kind.toNat) :: (if s.kind = 1 ∨ s.kind = 2 then [numW s.num] else [])) ++ toksW s.ek s.ez s.ne) ++ toksW s.fk s.fz s.nf) ++ (if s.kind = 6 ∨ s.kind = 7 then B a else [])) ++ (if s.kind = 6 then B b else [])
def blkW : Nat→SL→List Wd
 | 0,_ => [obW,cbW]
 | d + 1,T => (obW :: catTo (fun i => stmtW (blkW d) (T.nd i) (T.sub i false) (T.sub i true)) T.len) ++ [cbW]
def funWs (d : Nat) (p l : Int) (T : SL) : List Wd:=[funW,numW p,numW l] ++ blkW d T
def progW (nf : Nat) (par loc : Nat→Int) (d : Nat) (body : Nat→SL) : List Wd:=catTo (fun i => funWs d (par i) (loc i) (body i)) nf
def textL (ws : List Wd) : List UInt8:=Lib.join (ws.map (·.data.toList)) [32]
def atoiV (l : List UInt8) : Int:=match Lib.atoiAll l with
 | .ok v => v
 | .«syntax» => 0
 | .range => Lib.atoiSat l
def hdW (ws : List Wd) : Wd:=ws.headD (bs [])
def numR (ws : List Wd) : Int:=atoiV (hdW ws).data.toList
def kindOf (w : Wd) : Nat:=((List.range 9).find? fun k => decide (bs (stL k) = w)).getD 0
def opOf (w : Wd) : Option Nat:=(List.range 6).find? fun k => decide (bs (opL k) = w)
def hasMark (w : Wd) (k : Nat) : Bool:=!(mkL k).isEmpty && (mkL k).isPrefixOf w.data.toList
def markTo (w : Wd) : Nat→Nat
 | 0 => 1
 | n + 1 => if hasMark w n then n else markTo w n
def tokOf (w : Wd) : Int × Int:=match opOf w with
 | some n => (3,(n : Int))
 | none => ((markTo w 7 : Int),atoiV (w.data.toList.drop (mkL (markTo w 7)).length))
def asksR (nf : Nat) (par : Nat→Int) (t : Int × Int) : Int :=
 if t.1 = 4 then 1 else if t.1 = 3 then 2 else if t.1 = 6∧0 ≤ t.2∧t.2 < nf then par t.2.toNat else 0
def exprR (nf : Nat) (par : Nat→Int) : Int→List Wd→List (Int × Int) × List Wd
 | _,[] => ([],[])
 | q,w :: ws => if 0 < q then
   (tokOf w :: (exprR nf par (wrap64 (wrap64 (q + asksR nf par (tokOf w)) - 1)) ws).1,(exprR nf par (wrap64 (wrap64 (q + asksR nf par (tokOf w)) - 1)) ws).2)
  else ([],w :: ws)
structure It where
 nd : Nd
 a : SL
 b : SL
def noSL : SL:=fun _ => (0,fun _ => ⟨0,0,0,fun _ => 0,fun _ => 0,0,fun _ => 0,fun _ => 0⟩)
def noIt : It:=⟨⟨0,0,0,fun _ => 0,fun _ => 0,0,fun _ => 0,fun _ => 0⟩,noSL,noSL⟩
def mkT (l : List It) : SL:=fun p => match p with
 | [] => (l.length,fun i => (l.getD i noIt).nd)
 | (i,false) :: q => (l.getD i noIt).a q
 | (i,true) :: q => (l.getD i noIt).b q
theorem mkT_len (l : List It) : (mkT l).len = l.length:=rfl
theorem mkT_nd (l : List It) (i : Nat) : (mkT l).nd i = (l.getD i noIt).nd:=rfl
theorem mkT_a (l : List It) (i : Nat) : (mkT l).sub i false = (l.getD i noIt).a:=rfl
theorem mkT_b (l : List It) (i : Nat) : (mkT l).sub i true = (l.getD i noIt).b:=rfl
def mkNd (k n : Int) (e f : List (Int × Int)) : Nd:=⟨k,n,e.length,fun i => (e.getD i (0,0)).1,fun i => (e.getD i (0,0)).2,f.length,fun i => (f.getD i (0,0)).1,fun i => (f.getD i (0,0)).2⟩
def hasN (k : Nat) : Bool:=k == 1 || k == 2
def hasA (k : Nat) : Bool:=k == 6 || k == 7
def st1 (k : Nat) (ws : List Wd) : List Wd:=if hasN k then ws.tail else ws
def st2 (nf : Nat) (par : Nat→Int) (k : Nat) (ws : List Wd) : List (Int × Int) × List Wd:=if k = 4 then ([],st1 k ws) else exprR nf par 1 (st1 k ws)
theorem dig_toNat (d : Nat) (h : d < 10) : (UInt8.ofNat (48 + d)).toNat = 48 + d:=by
 simp only [UInt8.toNat_ofNat']; omega
theorem parse_snoc (c : UInt8) : ∀ (l : List UInt8) (acc v : Nat),Lib.parseUint10 acc l = .ok v→Lib.parseUint10 acc (l ++ [c]) = Lib.parseUint10 v [c]
 | [],acc,v,h => by simp only [Lib.parseUint10] at h; injection h with h; subst h; rfl
 | b :: l,acc,v,h => by
  simp only [Lib.parseUint10,List.cons_append] at h ⊢
  split at h
  ·next h1 =>
   rw [if_pos h1]
   split at h
   ·cases h
   ·next h2 =>
    rw [if_neg h2]
    split at h
    ·cases h
    ·next h3 =>
     rw [if_neg h3]
     exact parse_snoc c l _ v h
  ·cases h
theorem parse_digits (u : Nat) (hu : u < 18446744073709551616) : Lib.parseUint10 0 (Lib.decDigits u) = .ok u:=by
 induction u using Nat.strongRecOn with
 | _ u ih =>
  by_cases h : u < 10
  ·rw [Lib.decDigits_one h]
   simp only [Lib.parseUint10,dig_toNat u h]
   rw [if_pos (by omega),if_neg (by omega),if_neg (by omega)]
   congr 1; omega
  ·rw [Lib.decDigits,dif_neg h,parse_snoc _ _ _ _ (ih (u / 10) (by omega) (by omega))]
   simp only [Lib.parseUint10,dig_toNat (u % 10) (by omega)]
   rw [if_pos (by omega),if_neg (by omega),if_neg (by omega)]
   congr 1; omega
theorem digits_are (u : Nat) : Lib.decDigits u ≠ []∧∀ c ∈ Lib.decDigits u,48 ≤ c.toNat∧c.toNat ≤ 57:=by
 induction u using Nat.strongRecOn with
 | _ u ih =>
  by_cases h : u < 10
  ·rw [Lib.decDigits_one h]
   refine ⟨by simp,fun c hc => ?_⟩
   rw [List.mem_singleton] at hc
   subst hc
   rw [dig_toNat u h]; omega
  ·rw [Lib.decDigits,dif_neg h]
   refine ⟨by simp,fun c hc => ?_⟩
   rcases List.mem_append.1 hc with hc | hc
   ·exact (ih (u / 10) (by omega)).2 c hc
   ·rw [List.mem_singleton] at hc
    subst hc
    rw [dig_toNat (u % 10) (by omega)]; omega
theorem itoa_bytes (z : Int) : ∃ c r,Lib.itoa z = c :: r∧(c.toNat = 45∧r ≠ [] ∨ 48 ≤ c.toNat∧c.toNat ≤ 57)∧∀ b ∈ r,48 ≤ b.toNat∧b.toNat ≤ 57:=by
 unfold Lib.itoa
 split
 ·obtain ⟨h1,h2⟩:=digits_are z.natAbs
  exact ⟨45,_,rfl,Or.inl ⟨rfl,h1⟩,h2⟩
 ·obtain ⟨h1,h2⟩:=digits_are z.toNat
  cases h : Lib.decDigits z.toNat with
  | nil => exact absurd h h1
  | cons c r =>
   rw [h] at h2
   exact ⟨c,r,rfl,Or.inr (h2 c (by simp)),fun b hb => h2 b (by simp [hb])⟩
theorem kindOf_st : ∀ k : Nat,1 ≤ k→k ≤ 8→kindOf (bs (stL k)) = k:=by
 intro k h1 h2
 have : k = 1 ∨ k = 2 ∨ k = 3 ∨ k = 4 ∨ k = 5 ∨ k = 6 ∨ k = 7 ∨ k = 8:=by omega
 rcases this with rfl | rfl | rfl | rfl | rfl | rfl | rfl | rfl <;> decide
def insOf (l : List Int) : In:=⟨l.getD 0 0,l.getD 1 0,l.getD 2 0,l.getD 3 0,l.length - 4,fun k => l.getD (k + 4) 0⟩
def mkPc (h : List Int) (ls : List (List Int)) : Pc:=⟨h.getD 0 0,h.getD 1 0,ls.length,fun k => insOf (ls.getD k [])⟩
/-! ### Pieces -/
/-! ### Numbers -/
def i64 (z : Int) : Prop:=-9223372036854775808 ≤ z∧z ≤ 9223372036854775807
def nthP (L : List Pc) (i : Nat) : Pc:=L.getD i (mkPc [] [])
/-! ### Right programs have small numbers -/
/-! ### Like programs have like errors -/
end Go.Proofs.YtipnjoahobplhaaGreatDoor
namespace Go.Proofs.YtipnjoahobplhaaGreatDoor
open Go.RowKit Go.Maps
/-! ### Rows of the call's own -/
def Keeps (t : TypeId) (w w' : World) : Prop:=∀ (k : Nat) (cur : Array Value),w.heap[k]? = some (Obj.cells cur t (0,0))→w'.heap[k]? = some (Obj.cells cur t (0,0))
theorem Keeps.of {t : TypeId} {a b : World} (h : Below a.heap.size a b) : Keeps t a b:=fun k cur hk => by rw [h.block k (Array.getElem?_eq_some_iff.1 hk).1]; exact hk
theorem Keeps.set {t u : TypeId} {a : World} {g i : Nat} {cur : Array Value} (hg : a.heap[g]? = some (.cells cur u (0,0))) (v : Value) (ht : ¬ t = u) : Keeps t a (a.setCell ⟨g,i,none⟩ v):=fun k c hk => by
 rw [Below.heap_setCell a ⟨g,i,none⟩ v k]
 ·exact hk
 ·rintro rfl
  rw [hg] at hk
  injection hk with hk
  injection hk with _ h2 _
  exact ht h2.symm
def ArgsAt (w : World) (v : Value) (n : Nat) (z : Nat→Int) : Prop :=
 ∃ a cap,v = .slice a n cap∧n ≤ 100000000∧(n = 0 ∨ ∃ g o cur,a = some ⟨g,o,none⟩∧w.heap[g]? = some (.cells cur 3 (0,0))∧∀ i,i < n→cur[o + i]? = some (.int .i64 (z i)))
theorem ArgsAt.stay {w w' : World} {v : Value} {n : Nat} {z : Nat→Int} (h : ArgsAt w v n z) (k : Keeps 3 w w') : ArgsAt w' v n z:=by
 obtain ⟨a,cap,rfl,hn,h | ⟨g,o,cur,rfl,hg,hc⟩⟩:=h
 ·exact ⟨a,cap,rfl,hn,Or.inl h⟩
 ·exact ⟨_,cap,rfl,hn,Or.inr ⟨g,o,cur,rfl,k g cur hg,hc⟩⟩
theorem ArgsAt.nums {w : World} {v : Value} {n : Nat} {z : Nat→Int} (h : ArgsAt w v n z) : NumsAt w.heap.size w v n z:=by
 obtain ⟨a,cap,rfl,hn,h | ⟨g,o,cur,rfl,hg,hc⟩⟩:=h
 ·exact ⟨a,cap,rfl,by omega,Or.inl h⟩
 ·refine ⟨_,cap,rfl,by omega,Or.inr ⟨g,o,rfl,(Array.getElem?_eq_some_iff.1 hg).1,fun i hi => ?_⟩⟩
  unfold World.cell?
  rw [hg]
  exact hc i hi
def flatI : List (List Int × Value)→List Value
 | [] => []
 | x :: l => [.int .i64 (x.1.getD 0 0),.int .i64 (x.1.getD 1 0),.int .i64 (x.1.getD 2 0),.int .i64 (x.1.getD 3 0),x.2] ++ flatI l
theorem flatI_len : ∀ l,(flatI l).length = l.length * 5
 | [] => rfl
 | x :: l => by rw [flatI,List.length_append,flatI_len l,List.length_cons]; simp only [List.length_cons,List.length_nil]; omega
theorem flatI_at : ∀ (l : List (List Int × Value)) (i : Nat) (x : List Int × Value),l[i]? = some x→(flatI l)[i * 5]? = some (.int .i64 (x.1.getD 0 0))∧(flatI l)[i * 5 + 1]? = some (.int .i64 (x.1.getD 1 0))∧(flatI l)[i * 5 + 2]? = some (.int .i64 (x.1.getD 2 0))∧(flatI l)[i * 5 + 3]? = some (.int .i64 (x.1.getD 3 0))∧(flatI l)[i * 5 + 4]? = some x.2
 | [],i,x,h => by cases h
 | y :: l,0,x,h => by
  simp only [List.getElem?_cons_zero,Option.some.injEq] at h
  subst h
  simp [flatI]
 | y :: l,i + 1,x,h => by
  have ih:=flatI_at l i x (by simpa using h)
  have e : ∀ t,(flatI (y :: l))[(i + 1) * 5 + t]? = (flatI l)[i * 5 + t]?:=fun t => by
   rw [flatI,List.getElem?_append_right (by simp only [List.length_cons,List.length_nil]; omega)]
   congr 1
   simp only [List.length_cons,List.length_nil]; omega
  have e0:=e 0
  simp only [Nat.add_zero] at e0
  rw [e0,e 1,e 2,e 3,e 4]
  exact ih
def CodeRow (C : Nat) (w : World) (v : Value) (l : List (List Int × Value)) : Prop :=
 w.ownsRow C 81 5 v l.length (flatI l)∧∀ x ∈ l,ArgsAt w x.2 (x.1.length - 4) (fun j => x.1.getD (j + 4) 0)
theorem CodeRow.nil (C : Nat) (w : World) : CodeRow C w (.slice none 0 0) []:=⟨⟨rfl,Or.inl ⟨rfl,rfl⟩⟩,fun _ h => by cases h⟩
theorem own_keep {C : Nat} {t : TypeId} {sz n : Nat} {w w' : World} {v : Value} {xs : List Value} (h : w.ownsRow C t sz v n xs) (k : Keeps t w w') : w'.ownsRow C t sz v n xs:=by
 refine ⟨h.1,?_⟩
 rcases h.2 with ⟨rfl,h0⟩ | ⟨g,cap,cur,rfl,h1,h2,h3⟩
 ·exact Or.inl ⟨rfl,h0⟩
 ·exact Or.inr ⟨g,cap,cur,rfl,h1,k g cur h2,h3⟩
def CodeHeap (w : World) (v : Value) (n : Nat) (ins : Nat→In) : Prop :=
 ∃ a cap,v = .slice a n cap∧n ≤ 100000000∧(n = 0 ∨ ∃ g cur,a = some ⟨g,0,none⟩∧w.heap[g]? = some (.cells cur 81 (0,0))∧∀ i,i < n→∃ va,cur[i * 5]? = some (.int .i64 (ins i).op)∧cur[i * 5 + 1]? = some (.int .i64 (ins i).a)∧cur[i * 5 + 2]? = some (.int .i64 (ins i).b) ∧
  cur[i * 5 + 3]? = some (.int .i64 (ins i).c)∧cur[i * 5 + 4]? = some va∧ArgsAt w va (ins i).n (ins i).z)
theorem CodeHeap.stay {w w' : World} {v : Value} {n : Nat} {ins : Nat→In} (h : CodeHeap w v n ins) (k : Keeps 81 w w') (k3 : Keeps 3 w w') : CodeHeap w' v n ins:=by
 obtain ⟨a,cap,rfl,hn,h | ⟨g,cur,rfl,hg,hc⟩⟩:=h
 ·exact ⟨a,cap,rfl,hn,Or.inl h⟩
 ·refine ⟨_,cap,rfl,hn,Or.inr ⟨g,cur,rfl,k g cur hg,fun i hi => ?_⟩⟩
  obtain ⟨va,c0,c1,c2,c3,c4,ha⟩:=hc i hi
  exact ⟨va,c0,c1,c2,c3,c4,ha.stay k3⟩
theorem CodeHeap.code {w : World} {v : Value} {n : Nat} {ins : Nat→In} (h : CodeHeap w v n ins) : CodeAt w.heap.size w v n ins:=by
 obtain ⟨a,cap,rfl,hn,h | ⟨g,cur,rfl,hg,hc⟩⟩:=h
 ·exact ⟨a,cap,rfl,by omega,Or.inl h⟩
 ·refine ⟨_,cap,rfl,by omega,Or.inr ⟨g,0,rfl,(Array.getElem?_eq_some_iff.1 hg).1,fun i hi => ?_⟩⟩
  obtain ⟨va,c0,c1,c2,c3,c4,ha⟩:=hc i hi
  unfold World.cell?
  rw [hg]
  exact ⟨va,by rw [Nat.zero_add]; exact c0,by rw [Nat.zero_add]; exact c1,by rw [Nat.zero_add]; exact c2,by rw [Nat.zero_add]; exact c3,by rw [Nat.zero_add]; exact c4,ha.nums⟩
theorem CodeRow.heap {C : Nat} {w : World} {v : Value} {l : List (List Int × Value)} (h : CodeRow C w v l) (hl : l.length ≤ 100000000) : CodeHeap w v l.length (fun k => insOf ((l.map (·.1)).getD k [])):=by
 obtain ⟨h1,h2⟩:=h
 rcases h1.2 with ⟨rfl,h0⟩ | ⟨g,cap,cur,rfl,_,hg,_,_,_,ht⟩
 ·exact ⟨none,0,by rw [h0],hl,Or.inl h0⟩
 ·refine ⟨_,cap,rfl,hl,Or.inr ⟨g,cur,rfl,hg,fun i hi => ?_⟩⟩
  obtain ⟨x,hx⟩ : ∃ x,l[i]? = some x:=⟨l[i],by simp [hi]⟩
  obtain ⟨c0,c1,c2,c3,c4⟩:=flatI_at l i x hx
  have e : ∀ t,t < l.length * 5→cur[t]? = (flatI l)[t]?:=fun t htl => by
   rw [← ht,List.getElem?_take,if_pos htl,Array.getElem?_toList]
  have e2 : insOf ((l.map (·.1)).getD i []) = insOf x.1:=by
   congr 1
   simp [hx]
  simp only [e2]
  exact ⟨x.2,by rw [e _ (by omega)]; exact c0,by rw [e _ (by omega)]; exact c1,by rw [e _ (by omega)]; exact c2,by rw [e _ (by omega)]; exact c3,by rw [e _ (by omega)]; exact c4,h2 x (List.mem_of_getElem? hx)⟩
theorem infoIns : (Tryz.prog.info? 81).map (fun i => (i.zero,i.size,i.bytes)) = some (some (.agg #[.int .i64 0,.int .i64 0,.int .i64 0,.int .i64 0,.slice none 0 0]),5,56):=by kernel_rfl
theorem eqV_list {L M : List (Int × Int)} : eqV L.length M.length (fstAt L) (sndAt L) (fstAt M) (sndAt M) = true ↔ L = M:=by
 rw [eqV_iff]
 constructor
 ·rintro ⟨hl,h⟩
  apply List.ext_getElem hl
  intro i h1 h2
  obtain ⟨a,b⟩:=h i h1
  unfold fstAt at a
  unfold sndAt at b
  rw [List.getD_eq_getElem?_getD,List.getD_eq_getElem?_getD,List.getElem?_eq_getElem h1,List.getElem?_eq_getElem h2] at a b
  exact Prod.ext a b
 ·rintro rfl
  exact ⟨rfl,fun _ _ => ⟨rfl,rfl⟩⟩
theorem eqFm_iff {f g : Fm} : eqFm f g = true ↔ f = g:=by
 unfold eqFm
 rw [Bool.and_eq_true,Bool.and_eq_true,Bool.and_eq_true,beq_iff_eq,beq_iff_eq,beq_iff_eq,eqV_list]
 cases f; cases g
 simp only [Fm.mk.injEq]
 constructor
 ·rintro ⟨a,b,c,d⟩; exact ⟨a,b,d,c⟩
 ·rintro ⟨a,b,d,c⟩; exact ⟨a,b,c,d⟩
theorem eqFs_list {F G : List Fm} : eqFs F G = true ↔ F = G:=by
 rw [eqFs_iff]
 constructor
 ·rintro ⟨hl,h⟩
  apply List.ext_getElem hl
  intro i h1 h2
  have:=eqFm_iff.1 (h i h1)
  unfold fmAt at this
  rw [List.getD_eq_getElem?_getD,List.getD_eq_getElem?_getD,List.getElem?_eq_getElem h1,List.getElem?_eq_getElem h2] at this
  exact this
 ·rintro rfl
  exact ⟨rfl,fun _ _ => eqFm_iff.2 rfl⟩
theorem eqCs_list {C D : List (List (Int × Int))} : eqCs C D = true ↔ C = D:=by
 unfold eqCs
 rw [eqCl_iff]
 constructor
 ·rintro ⟨hl,h⟩
  apply List.ext_getElem hl
  intro i h1 h2
  have:=eqV_list.1 (h i h1)
  rw [List.getD_eq_getElem?_getD,List.getD_eq_getElem?_getD,List.getElem?_eq_getElem h1,List.getElem?_eq_getElem h2] at this
  exact this
 ·rintro rfl
  exact ⟨rfl,fun _ _ => eqV_list.2 rfl⟩
theorem eqSt_iff {S T : Sta} : eqSt S T = true ↔ S = T:=by
 unfold eqSt
 rw [Bool.and_eq_true,Bool.and_eq_true,Bool.and_eq_true,beq_iff_eq,beq_iff_eq,eqFs_list,eqCs_list]
 cases S; cases T
 simp only [Sta.mk.injEq]
 constructor
 ·rintro ⟨a,b,c,d⟩; exact ⟨c,d,a,b⟩
 ·rintro ⟨c,d,a,b⟩; exact ⟨a,b,c,d⟩
def lz (l : List Int) (i : Nat) : Int:=l.getD i 0
def SOwn (B : Nat) (w : World) (fv cv : Value) (S : Sta) : Prop:=∃ rv xv,Own B w fv cv rv xv S
theorem SOwn.stay {B : Nat} {w w' : World} {fv cv : Value} {S : Sta} (h : SOwn B w fv cv S) (hb : ∀ k,B ≤ k→k < w.heap.size→w'.heap[k]? = w.heap[k]?) : SOwn B w' fv cv S:=let ⟨rv,xv,h⟩:=h; ⟨rv,xv,h.stay hb⟩
theorem SOwn.below {B : Nat} {w w' : World} {fv cv : Value} {S : Sta} (h : SOwn B w fv cv S) (hb : Below w.heap.size w w') : SOwn B w' fv cv S:=h.stay fun k _ hk => hb.block k hk
theorem SOwn.at {B : Nat} {w : World} {fv cv : Value} {S : Sta} {np : Nat} {P : Nat→Pc} (h : SOwn B w fv cv S) (hc : CodeOK np P) (ok : StaOK np P S) : StaAt w fv cv S:=by
 obtain ⟨rv,xv,h⟩:=h
 refine h.at (by have:=ok.few; omega) (by have:=ok.cn; omega) (fun i hi => ?_) fun i hi => ?_
 ·have k:=ok.frames i hi
  have hpn : (fmAt S.fs i).proc.toNat < np:=by have:=k.p0; have:=k.p1; omega
  have:=hc.r1 _ hpn
  have:=k.len
  omega
 ·have hm:=getD_mem (d:=[]) hi
  have:=ok.cells.hi _ hm
  omega
def NOwn (B : Nat) (w : World) (v : Value) (l : List Int) : Prop:=w.ownsRow B 3 1 v l.length (l.map (Value.int .i64))
theorem NOwn.stay {B : Nat} {w w' : World} {v : Value} {l : List Int} (h : NOwn B w v l) (hb : ∀ k,B ≤ k→k < w.heap.size→w'.heap[k]? = w.heap[k]?) : NOwn B w' v l:=ownsRow_block h fun k hk => hb k (h.lt k hk).1 (h.lt k hk).2
theorem NOwn.below {B : Nat} {w w' : World} {v : Value} {l : List Int} (h : NOwn B w v l) (hb : Below w.heap.size w w') : NOwn B w' v l:=h.stay fun k _ hk => hb.block k hk
theorem NOwn.nums {B : Nat} {w : World} {v : Value} {l : List Int} (h : NOwn B w v l) (hl : l.length ≤ 1000000) : NumsAt w.heap.size w v l.length (lz l):=by
 obtain ⟨a,cap,rfl,h0 | ⟨b,o,rfl,hb,hc⟩⟩:=own_intsv h
 ·exact ⟨a,cap,rfl,by omega,Or.inl h0⟩
 ·exact ⟨_,cap,rfl,by omega,Or.inr ⟨b,o,rfl,hb,hc⟩⟩
def RunK (w : World) (S' : Sta) (said : List Int) (k : Nat) (e : Ending) (w' : World) : Prop :=
 ∃ fa fc ca cc sa sc,e = .returned (.tuple #[.agg #[.slice fa S'.fs.length fc,.slice ca S'.cs.length cc,.int .i64 S'.st,.int .i64 S'.wh],.slice sa said.length sc,.int .i64 k,.int .i64 0]) ∧
  Hid (SOwn w.heap.size w' (.slice fa S'.fs.length fc) (.slice ca S'.cs.length cc) S')∧Hid (NOwn w.heap.size w' (.slice sa said.length sc) said)∧Below w.heap.size w w'
def StaK (w : World) (S' : Sta) (e : Ending) (w' : World) : Prop :=
 ∃ fa fc ca cc,e = .returned (.tuple #[.agg #[.slice fa S'.fs.length fc,.slice ca S'.cs.length cc,.int .i64 S'.st,.int .i64 S'.wh],.int .i64 0]) ∧
  Hid (SOwn w.heap.size w' (.slice fa S'.fs.length fc) (.slice ca S'.cs.length cc) S')∧Below w.heap.size w w'
theorem own_len {B : Nat} {w : World} {e : TypeId} {s n m c : Nat} {a : Option Addr} {xs : List Value} (h : w.ownsRow B e s (.slice a m c) n xs) : m = n:=by
 obtain ⟨_,_,e⟩:=own_shape h
 injection e
section
variable {np : Nat} {P : Nat→Pc}
theorem runK (M : Nat) (vp fv cv : Value) (S : Sta) (fuel : Nat) (w : World) (hM : M ≤ w.heap.size) (hp : ProcsAt M w vp np P) (hs : StaAt w fv cv S) (he : runErr np P S fuel = 0) :
  Calls Tryz.prog 14 #[vp,.agg #[fv,cv,.int .i64 S.st,.int .i64 S.wh],.int .i64 fuel] w (RunK w (runM P fuel ⟨S,[],false⟩).1.s (runM P fuel ⟨S,[],false⟩).1.said (runM P fuel ⟨S,[],false⟩).2):=by
 refine (runP newC callC M vp fv cv S fuel w hM hp hs he).mono ?_
 rintro e w' ⟨fa,nf,fc,ca,nc,cc,sa,sc,rv,xv,rfl,ho,hn,hb⟩
 obtain rfl:=own_len ho.fr
 obtain rfl:=own_len ho.ce
 exact ⟨fa,fc,ca,cc,sa,sc,rfl,⟨rv,xv,ho⟩,hn,hb⟩
theorem wakeK (M : Nat) (vp fv cv : Value) (S : Sta) (w : World) (hM : M ≤ w.heap.size) (hp : ProcsAt M w vp np P) (hs : StaAt w fv cv S) (hv : vmErr np P S = 0) (h3 : S.st = 3) :
  Calls Tryz.prog 15 #[vp,.agg #[fv,cv,.int .i64 S.st,.int .i64 S.wh]] w (StaK w ⟨S.fs,S.cs,0,0⟩):=by
 refine (wakeP M vp fv cv S w hM hp hs hv h3).mono ?_
 rintro e w' ⟨fa,nf,fc,ca,nc,cc,rv,xv,rfl,ho,hb⟩
 obtain rfl:=own_len ho.fr
 obtain rfl:=own_len ho.ce
 exact ⟨fa,fc,ca,cc,rfl,⟨rv,xv,ho⟩,hb⟩
theorem newK (M : Nat) (vp : Value) (w : World) (hM : M ≤ w.heap.size) (hp : ProcsAt M w vp np P) (he : codeErr np P = 0) :
  Calls Tryz.prog 13 #[vp] w (StaK w ⟨[⟨0,0,List.replicate (P 0).regs.toNat (0,0),0⟩],[],0,0⟩):=by
 refine (newP M vp w hM hp he).mono ?_
 rintro e w' ⟨fa,nf,fc,ca,nc,cc,rv,xv,rfl,ho,hb⟩
 obtain rfl:=own_len ho.fr
 obtain rfl:=own_len ho.ce
 exact ⟨fa,fc,ca,cc,rfl,⟨rv,xv,ho⟩,hb⟩
theorem sweepK (S : Sta) (fv cv : Value) (w : World) (h : StaAt w fv cv S) (hc : CodeOK np P) (hs : StaOK np P S) :
  Calls Tryz.prog 22 #[.agg #[fv,cv,.int .i64 S.st,.int .i64 S.wh]] w fun e w' => ∃ fa fc ca cc,e = .returned (.agg #[.slice fa (sweptS S).fs.length fc,.slice ca (sweptS S).cs.length cc,.int .i64 S.st,.int .i64 S.wh])∧Hid (SOwn w.heap.size w' (.slice fa (sweptS S).fs.length fc) (.slice ca (sweptS S).cs.length cc) (sweptS S))∧Below w.heap.size w w':=by
 refine (sweepP S fv cv w h hc hs).mono ?_
 rintro e w' ⟨fv',cv',rv,xv,rfl,ho,hb⟩
 obtain ⟨a,c,rfl⟩:=own_shape ho.out.fr
 obtain ⟨b,d,rfl⟩:=own_shape ho.out.ce
 exact ⟨a,c,b,d,rfl,⟨rv,xv,ho.out⟩,hb.out⟩
end
theorem box_put {X : Nat} {w : World} {a b c d : Value} (a' b' c' d' : Value) (h : Box4 26 X w a b c d) : ∃ W,((((w.setCell ⟨X,0,none⟩ a').setCell ⟨X,1,none⟩ b').setCell ⟨X,2,none⟩ c').setCell ⟨X,3,none⟩ d') = W∧Box4 26 X W a' b' c' d'∧(∀ k,¬ k = X→W.heap[k]? = w.heap[k]?)∧W.heap.size = w.heap.size∧(∀ N,N ≤ X→Below N w W)∧∀ t,¬ t = 26→Keeps t w W:=by
 refine ⟨_,rfl,?_,fun k hk => set4_heap hk,by simp,fun N hN => ?_,fun t ht k cur hk => ?_⟩
 ·unfold Box4 at h ⊢
  have h1:=heap_setCell_same w X 0 _ _ a' h
  have h2:=heap_setCell_same _ X 1 _ _ b' h1
  have h3:=heap_setCell_same _ X 2 _ _ c' h2
  exact heap_setCell_same _ X 3 _ _ d' h3
 ·exact ((((Below.refl _ _).setCell hN _).setCell hN _).setCell hN _).setCell hN _
 ·rw [set4_heap]
  ·exact hk
  ·intro e
   unfold Box4 at h
   rw [e,h] at hk
   injection hk with hk
   injection hk with _ hk _
   exact ht hk.symm
theorem vmSwept {np : Nat} {P : Nat→Pc} (M : Nat) (vp fv cv : Value) (S : Sta) (w : World) (hM : M ≤ w.heap.size) (hp : ProcsAt M w vp np P) (hs : StaAt w fv cv S) (HR : TrueC 17 w) :
  Calls Tryz.prog 7 #[vp,staV fv cv S.st S.wh] w fun e w' => e = .returned (.bool true)∧Hid (Below w.heap.size w w'):=by
 obtain ⟨pa,pc,rfl,_⟩:=id hp
 obtain ⟨fa,fc,rfl,_⟩:=id hs.1
 obtain ⟨ca,cc,rfl,_⟩:=id hs.2
 obtain ⟨W,hW,b0,_,i0,i1,i2,i3⟩:=sbox w (.slice fa S.fs.length fc) (.slice ca S.cs.length cc) S.st S.wh
 have hX : ∀ wk,Below W.heap.size W wk→wk.cell? ⟨w.heap.size,0,none⟩ = some (.slice fa S.fs.length fc)∧wk.cell? ⟨w.heap.size,1,none⟩ = some (.slice ca S.cs.length cc)∧wk.cell? ⟨w.heap.size,2,none⟩ = some (.int .i64 S.st)∧wk.cell? ⟨w.heap.size,3,none⟩ = some (.int .i64 S.wh):=fun wk hk => ⟨below_at hk i0,below_at hk i1,below_at hk i2,below_at hk i3⟩
 have hpk : ∀ wk,Below W.heap.size W wk→ProcsAt M wk (.slice pa np pc) np P:=fun wk hk => hp.below ((below_step b0 hk).mono hM)
 have hMk : ∀ wk,Below W.heap.size W wk→M ≤ wk.heap.size:=fun wk hk => Nat.le_trans hM (below_step b0 hk).size
 have hCk : ∀ wk,Below W.heap.size W wk→Calls Tryz.prog 21 #[.slice pa np pc,.agg #[.slice fa S.fs.length fc,.slice ca S.cs.length cc,.int .i64 S.st,.int .i64 S.wh]] wk fun e w' => e = .returned (.int .i64 (vmErr np P S))∧Below wk.heap.size wk w':=fun wk hk =>
  vmCheck M _ _ _ np P S wk (hMk wk hk) (hpk wk hk) (hs.below (below_step b0 hk))
 by_cases he : vmErr np P S = 0
 ·rw [he] at hCk
  obtain ⟨hc,ok,hce⟩:=vmErr_right he
  have okT:=ok.swept hc
  have heT : vmErr np P (sweptS S) = 0:=by unfold vmErr; rw [if_pos hce]; exact staErr_zero.2 okT
  have hfl:=swept_fs S
  refine vswept_good (np:=np) (P:=P) S pa pc _ fc _ cc fa ca S.st S.wh w W hW b0 hX (HR.up b0) hCk (fun wk hk => ?_) (fun ga gc ha mc hc' w0 h0 hb => ?_) (fun ga gc ha mc hc' w0 h0 => ?_) (fun ga gc ha mc hc' ka kc la lc w0 h0 h1 => ?_) (hs.below b0) ⟨hc,ok⟩ ⟨rfl,rfl⟩ (by have:=ok.few; omega)
  ·refine (sweepK S _ _ wk (hs.below (below_step b0 hk)) hc ok).mono ?_
   rintro e w' ⟨fa',fc',ca',cc',rfl,h,hb⟩
   have hh:=h.out.at hc okT
   rw [hfl] at hh ⊢
   exact ⟨fa',fc',ca',_,cc',rfl,hh,swept_few hc ok,hb⟩
  ·have:=vmCheck M _ _ _ np P (sweptS S) w0 (hMk w0 hb) (hpk w0 hb) h0
   rw [heT] at this
   exact this
  ·obtain ⟨_,_,e,_⟩:=id h0.2
   injection e with _ e _
   subst e
   refine (sweepK (sweptS S) _ _ w0 h0 hc okT).mono ?_
   rintro e w' ⟨fa',fc',ca',cc',rfl,h,hb⟩
   have hh:=h.out.at hc (okT.swept hc)
   rw [sweptS_twice hc ok,hfl] at hh
   rw [sweptS_twice hc ok,hfl]
   exact ⟨fa',fc',ca',cc',rfl,hh,hb⟩
  ·have:=vmSame (sweptS S) (sweptS S) _ _ _ _ w0 h1 h0
   rw [eqSt_iff.2 rfl] at this
   exact this
 ·exact vswept_bad pa np pc _ fc _ cc fa ca S.st S.wh _ w W hW b0 hX (HR.up b0) hCk (by simpa using he)
end Go.Proofs.YtipnjoahobplhaaGreatDoor
namespace Go.Proofs.YtipnjoahobplhaaGreatDoor
open Go.RowKit
theorem exprErr_zero {n : Nat} {k z : Nat→Int} {nf : Nat} {par : Nat→Int} {locals : Int} (h : exprErr n k z nf par locals = 0) :
  n ≤ 24∧(∀ i,i < nf→parErr (par i) = 0)∧(∀ j,j < n→stepErr k z nf par locals j = 0)∧¬ 0 < asked k z par n:=by
 by_cases h1 : 24 < n
 ·rw [exprErr_many h1] at h; cases h
 have h2 : firstErr nf (fun i => parErr (par i)) = 0:=by
  unfold exprErr at h
  rw [if_neg h1] at h
  by_cases c : firstErr nf (fun i => parErr (par i)) = 0
  ·exact c
  ·rw [if_neg c] at h; cases h
 have h2':=firstErr_is_zero h2
 have h3 : firstErr n (stepErr k z nf par locals) = 0:=by
  unfold exprErr at h
  rw [if_neg h1,if_pos h2] at h
  by_cases c : firstErr n (stepErr k z nf par locals) = 0
  ·exact c
  ·rw [if_neg c] at h; exact absurd h c
 have h3':=firstErr_is_zero h3
 refine ⟨by omega,h2',h3',fun c => ?_⟩
 rw [exprErr_end h1 h2' h3',if_pos c] at h
 cases h
theorem formErr_zero {s : Nd} {la lb : Nat} (h : formErr s la lb = 0) : 1 ≤ s.kind∧s.kind ≤ 8∧(s.num = 0 ∨ s.kind = 1 ∨ s.kind = 2)∧(s.ne = 0 ∨ ¬ s.kind = 4)∧(s.nf = 0 ∨ s.kind = 2)∧(la = 0 ∨ s.kind = 6 ∨ s.kind = 7)∧(lb = 0 ∨ s.kind = 6):=by
 unfold formErr at h
 split at h
 ·cases h
 ·next hc => omega
theorem stErr_zero {nf : Nat} {par : Nat→Int} {locals : Int} {s : Nd} {la lb : Nat} (h : stErr nf par locals s la lb = 0) :
  formErr s la lb = 0∧numErr s locals = 0∧(s.kind = 4 ∨ exprErr s.ne s.ek s.ez nf par locals = 0)∧(¬ s.kind = 2 ∨ exprErr s.nf s.fk s.fz nf par locals = 0):=by
 unfold stErr at h
 by_cases h1 : formErr s la lb = 0
 ·rw [if_pos h1] at h
  by_cases h2 : numErr s locals = 0
  ·rw [if_pos h2] at h
   by_cases h3 : s.kind = 4
   ·exact ⟨h1,h2,Or.inl h3,Or.inl (by omega)⟩
   ·rw [if_neg h3] at h
    by_cases h4 : exprErr s.ne s.ek s.ez nf par locals = 0
    ·rw [if_pos h4] at h
     by_cases h5 : s.kind = 2
     ·rw [if_pos h5] at h; exact ⟨h1,h2,Or.inr h4,Or.inr h⟩
     ·exact ⟨h1,h2,Or.inr h4,Or.inl h5⟩
    ·rw [if_neg h4] at h; exact absurd h h4
  ·rw [if_neg h2] at h; cases h
 ·rw [if_neg h1] at h; cases h
theorem errs_item {E : Nd→Nat→Nat→Int} {d : Nat} {T : SL} (h : errs E (d + 1) T = 0) {i : Nat} (hi : i < T.len) :
  E (T.nd i) (T.sub i false).len (T.sub i true).len = 0∧errs E d (T.sub i false) = 0∧errs E d (T.sub i true) = 0:=by
 have h1:=firstErr_is_zero h i hi
 split at h1
 ·next h2 =>
  split at h1
  ·next h3 => exact ⟨h2,h3,h1⟩
  ·next h3 => exact absurd h1 h3
 ·next h2 => exact absurd h1 h2
end Go.Proofs.YtipnjoahobplhaaGreatDoor
