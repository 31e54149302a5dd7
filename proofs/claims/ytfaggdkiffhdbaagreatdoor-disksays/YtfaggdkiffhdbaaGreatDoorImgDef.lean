/- Programs of instructions as texts: what is written, and how a text is read: the plain reckoning. No Go in it. -/
import Derived.Test.YtfaggdkiffhdbaaGreatDoorPart0
import Derived.Test.YtfaggdkiffhdbaaGreatDoorWordsNum
import Derived.Lib.SplitLaws
import Derived.Lib.CutLaws
namespace Go.Proofs.YtfaggdkiffhdbaaGreatDoor
open Go.RowKit

/-- A text,cut at the first c. -/
def cutAt (c : UInt8) : List UInt8→List UInt8×Option (List UInt8)
 | [] => ([],none)
 | b :: l => if b=c then ([],some l) else (b :: (cutAt c l).1,(cutAt c l).2)

/-- A text's pieces between c's. -/
def splitC (c : UInt8) : List UInt8→List (List UInt8)
 | [] => [[]]
 | b :: l => if b=c then [] :: splitC c l else (b :: (splitC c l).headD []) :: (splitC c l).tail

/-- Is it how a number is written? -/
def numOK (w : List UInt8) : Bool:=match Lib.atoiAll w with
 | .ok n => decide (Lib.itoa n=w)
 | _ => false

/-- A line's numbers; none of a line that isn't one of numbers. -/
def numsOf (l : List UInt8) : List Int:=if (splitC 32 l).all numOK then (splitC 32 l).map atoiV else []

/-- Numbers as a line. -/
def lineL (zs : List Int) : List UInt8:=Lib.join (zs.map Lib.itoa) [32]

/-- The next line's numbers,and what is behind it. -/
def nextL (s : List UInt8) : List Int×List UInt8:=match (cutAt 10 s).2 with
 | some r => (numsOf (cutAt 10 s).1,r)
 | none => ([],s)

def insOf (l : List Int) : In:=⟨l.getD 0 0,l.getD 1 0,l.getD 2 0,l.getD 3 0,l.length - 4,fun k => l.getD (k + 4) 0⟩

/-- So many lines of instructions. -/
def takeL : Nat→List UInt8→Option (List (List Int)×List UInt8)
 | 0,s => some ([],s)
 | k + 1,s => if (nextL s).1.length < 4 then none else (takeL k (nextL s).2).map fun r => ((nextL s).1 :: r.1,r.2)

def mkPc (h : List Int) (ls : List (List Int)) : Pc:=⟨h.getD 0 0,h.getD 1 0,ls.length,fun k => insOf (ls.getD k [])⟩

/-- A procedure,and what is behind it. -/
def procL (s : List UInt8) : Option (Pc×List UInt8) :=
 if (nextL s).1.length=3∧1≤(nextL s).1.getD 2 0∧(nextL s).1.getD 2 0≤2000 then
  (takeL ((nextL s).1.getD 2 0).toNat (nextL s).2).map fun r => (mkPc (nextL s).1 r.1,r.2)
 else none

/-- All procedures. -/
def readL : Nat→List UInt8→Option (List Pc)
 | 0,s => if s=[] then some [] else none
 | u + 1,s => if s=[] then some [] else match procL s with
  | none => none
  | some r => (readL u r.2).map fun l => r.1 :: l

/-- From the i-th on,m of them,one behind the other. -/
def catB (f : Nat→List UInt8) : Nat→Nat→List UInt8
 | _,0 => []
 | i,m + 1 => f i ++ catB f (i + 1) m

theorem catB_snoc (f : Nat→List UInt8) : ∀ (m i : Nat),catB f i (m + 1)=catB f i m ++ f (i + m)
 | 0,i => by simp [catB]
 | m + 1,i => by
  rw [catB,catB_snoc f m (i + 1),catB,List.append_assoc,show i + 1 + m=i + (m + 1) by omega]

def insZs (i : In) : List Int:=i.op :: i.a :: i.b :: i.c :: (List.range i.n).map i.z
def lnT (zs : List Int) : List UInt8:=lineL zs ++ [10]
def codeT (ins : Nat→In) (n : Nat) : List UInt8:=catB (fun k => lnT (insZs (ins k))) 0 n
def headZs (p : Pc) : List Int:=[p.params,p.regs,(p.n : Int)]
def pcT (p : Pc) : List UInt8:=lnT (headZs p) ++ codeT p.ins p.n
/-- The text of np procedures. -/
def progT (P : Nat→Pc) (np : Nat) : List UInt8:=catB (fun k => pcT (P k)) 0 np

/-- Are instructions,procedures,programs alike? -/
def eqIn (a b : In) : Prop:=a.op=b.op∧a.a=b.a∧a.b=b.b∧a.c=b.c∧a.n=b.n∧∀ k,k < a.n→a.z k=b.z k
def eqPc (p q : Pc) : Prop:=p.params=q.params∧p.regs=q.regs∧p.n=q.n∧∀ k,k < p.n→eqIn (p.ins k) (q.ins k)
def eqC (np nq : Nat) (P Q : Nat→Pc) : Prop:=np=nq∧∀ k,k < np→eqPc (P k) (Q k)

/-! ### Pieces -/

theorem splitC_ne (c : UInt8) : ∀ l,splitC c l ≠ []
 | [] => by simp [splitC]
 | b :: l => by unfold splitC; split <;> simp

theorem splitC_cons (c : UInt8) (l : List UInt8) : ∃ x xs,splitC c l=x :: xs:=by
 cases h : splitC c l with
 | nil => exact absurd h (splitC_ne c l)
 | cons x xs => exact ⟨x,xs,rfl⟩

theorem join_split (c : UInt8) : ∀ l,Lib.join (splitC c l) [c]=l
 | [] => by simp [splitC,Lib.join_one]
 | b :: l => by
  have ih:=join_split c l
  obtain ⟨x,xs,e⟩:=splitC_cons c l
  unfold splitC
  rw [e] at ih ⊢
  rw [Lib.join_cons] at ih
  split
  ·next h =>
   subst h
   rw [Lib.join_cons]
   simp only [Lib.joinTail,List.map_cons,List.flatten_cons,List.nil_append,List.cons_append]
   exact congrArg _ ih
  ·simp only [List.headD_cons,List.tail_cons]
   rw [Lib.join_cons,List.cons_append,ih]

theorem split_plain (c : UInt8) : ∀ l : List UInt8,¬ c ∈ l→splitC c l=[l]
 | [],_ => rfl
 | b :: l,h => by
  have hb : ¬ b=c:=fun e => h (by simp [e])
  rw [splitC,if_neg hb,split_plain c l fun e => h (by simp [e])]
  rfl

theorem split_at (c : UInt8) : ∀ (l r : List UInt8),¬ c ∈ l→splitC c (l ++ c :: r)=l :: splitC c r
 | [],r,_ => by simp [splitC]
 | b :: l,r,h => by
  have hb : ¬ b=c:=fun e => h (by simp [e])
  rw [List.cons_append,splitC,if_neg hb,split_at c l r fun e => h (by simp [e])]
  rfl

theorem split_join (c : UInt8) : ∀ (ws : List (List UInt8)) (w : List UInt8),(∀ x ∈ w :: ws,¬ c ∈ x)→splitC c (Lib.join (w :: ws) [c])=w :: ws
 | [],w,h => by rw [Lib.join_one]; exact split_plain c w (h w (by simp))
 | x :: ws,w,h => by
  have e1 : Lib.join (w :: x :: ws) [c]=w ++ c :: Lib.join (x :: ws) [c]:=by
   rw [Lib.join_cons,Lib.join_cons]; simp [Lib.joinTail]
  rw [e1,split_at c w _ (h w (by simp)),split_join c ws x fun y hy => h y (by simp at hy ⊢; exact Or.inr hy)]

theorem splitC_mem (c : UInt8) : ∀ (l : List UInt8),∀ x ∈ splitC c l,¬ c ∈ x
 | [],x,hx => by simp [splitC] at hx; subst hx; simp
 | b :: l,x,hx => by
  have ih:=splitC_mem c l
  obtain ⟨y,ys,e⟩:=splitC_cons c l
  unfold splitC at hx
  rw [e] at ih hx
  split at hx
  ·rcases List.mem_cons.1 hx with rfl | hx
   ·simp
   ·exact ih x hx
  ·next hb =>
   simp only [List.headD_cons,List.tail_cons] at hx
   rcases List.mem_cons.1 hx with rfl | hx
   ·have:=ih y (by simp)
    simp only [List.mem_cons,not_or]
    exact ⟨Ne.symm hb,this⟩
   ·exact ih x (by simp [hx])

theorem index_c (c : UInt8) : ∀ (l r : List UInt8),¬ c ∈ l→Lib.index (l ++ c :: r) [c]=(l.length : Int)
 | [],r,_ => by simp [Lib.index,List.isPrefixOf]
 | b :: l,r,h => by
  have hb : ¬ b=c:=fun e => h (by simp [e])
  have ih:=index_c c l r fun e => h (by simp [e])
  have hp : ([c] : List UInt8).isPrefixOf (b :: (l ++ c :: r))=false:=by simp [List.isPrefixOf,Ne.symm hb]
  rw [List.cons_append,Lib.index,hp,ih]
  have : ¬ ((l.length : Int) == -1)=true:=fun e => by have:=beq_iff_eq.1 e; omega
  rw [if_neg (by decide),if_neg this]
  simp

theorem index_noc (c : UInt8) : ∀ (l : List UInt8),¬ c ∈ l→Lib.index l [c]=-1
 | [],_ => by simp [Lib.index]
 | b :: l,h => by
  have hb : ¬ b=c:=fun e => h (by simp [e])
  have ih:=index_noc c l fun e => h (by simp [e])
  have hp : ([c] : List UInt8).isPrefixOf (b :: l)=false:=by simp [List.isPrefixOf,Ne.symm hb]
  rw [Lib.index,hp,ih]
  rfl

/-- What is cut. -/
theorem cutAt_some (c : UInt8) : ∀ {l x r : List UInt8},cutAt c l=(x,some r)→l=x ++ c :: r∧¬ c ∈ x
 | [],x,r,h => by simp [cutAt] at h
 | b :: l,x,r,h => by
  unfold cutAt at h
  split at h
  ·next hb => cases h; subst hb; simp
  ·next hb =>
   obtain ⟨h1,h2⟩:=Prod.mk.inj h
   obtain ⟨e1,e2⟩:=cutAt_some c (l:=l) (x:=(cutAt c l).1) (r:=r) (by rw [← h2])
   subst h1
   refine ⟨by rw [List.cons_append,← e1],?_⟩
   simp only [List.mem_cons,not_or]
   exact ⟨Ne.symm hb,e2⟩

theorem cutAt_none (c : UInt8) : ∀ {l x : List UInt8},cutAt c l=(x,none)→x=l∧¬ c ∈ l
 | [],x,h => by simp [cutAt] at h; subst h; simp
 | b :: l,x,h => by
  unfold cutAt at h
  split at h
  ·cases h
  ·next hb =>
   obtain ⟨h1,h2⟩:=Prod.mk.inj h
   obtain ⟨e1,e2⟩:=cutAt_none c (l:=l) (x:=(cutAt c l).1) (by rw [← h2])
   subst h1
   refine ⟨by rw [e1],?_⟩
   simp only [List.mem_cons,not_or]
   exact ⟨Ne.symm hb,e2⟩

theorem cutAt_app (c : UInt8) : ∀ (l r : List UInt8),¬ c ∈ l→cutAt c (l ++ c :: r)=(l,some r)
 | [],r,_ => by simp [cutAt]
 | b :: l,r,h => by
  have hb : ¬ b=c:=fun e => h (by simp [e])
  rw [List.cons_append,cutAt,if_neg hb,cutAt_app c l r fun e => h (by simp [e])]

theorem lib_cut (c : UInt8) (s : List UInt8) : Lib.cut s [c]=match (cutAt c s).2 with
  | some r => ((cutAt c s).1,r,true)
  | none => (s,[],false):=by
 cases h : (cutAt c s).2 with
 | some r =>
  obtain ⟨e1,e2⟩:=cutAt_some c (l:=s) (x:=(cutAt c s).1) (r:=r) (by rw [← h])
  simp only []
  have hi:=index_c c (cutAt c s).1 r e2
  rw [← e1] at hi
  unfold Lib.cut
  rw [hi,if_pos (by omega)]
  generalize (cutAt c s).1=x at *
  subst e1
  simp
 | none =>
  obtain ⟨e1,e2⟩:=cutAt_none c (l:=s) (x:=(cutAt c s).1) (by rw [← h])
  simp only []
  unfold Lib.cut
  rw [index_noc c s e2,if_neg (by omega)]

theorem lib_split_go (c : UInt8) : ∀ (k : Nat) (s : List UInt8),s.count c=k→Lib.splitK [c] 0 k s=splitC c s
 | k,s,hk => by
  cases h : (cutAt c s).2 with
  | none =>
   obtain ⟨e1,e2⟩:=cutAt_none c (l:=s) (x:=(cutAt c s).1) (by rw [← h])
   rw [List.count_eq_zero.2 e2] at hk
   subst hk
   rw [split_plain c s e2]; rfl
  | some r =>
   obtain ⟨e1,e2⟩:=cutAt_some c (l:=s) (x:=(cutAt c s).1) (r:=r) (by rw [← h])
   generalize (cutAt c s).1=x at *
   subst e1
   rw [List.count_append,List.count_cons_self,List.count_eq_zero.2 e2] at hk
   obtain ⟨j,rfl⟩ : ∃ j,k=j + 1:=⟨k - 1,by omega⟩
   have hi:=index_c c x r e2
   have hne : ¬ (Lib.index (x ++ c :: r) [c] == -1)=true:=fun e => by have:=beq_iff_eq.1 e; omega
   rw [Lib.splitK,if_neg hne,hi,split_at c x r e2]
   have d : (x ++ c :: r).drop ((x.length : Int).toNat + [c].length)=r:=by simp
   have t : (x ++ c :: r).take ((x.length : Int).toNat + 0)=x:=by simp
   rw [d,t,lib_split_go c j r (by omega)]
 termination_by k => k

theorem lib_split (c : UInt8) (s : List UInt8) : Lib.split s [c]=splitC c s:=by
 unfold Lib.split
 rw [Lib.count_one]
 exact lib_split_go c _ s rfl

/-- What is between blanks,as Go's strings. -/
theorem splitB_C (c : UInt8) (s : ByteArray) : (Lib.splitB (bs [c]) 0 (Lib.countB s (bs [c])) s).map (·.data.toList)=splitC c s.data.toList:=by
 rw [Lib.splitB_data]
 exact lib_split c s.data.toList

/-! ### Numbers -/

theorem itoa_noc (z : Int) : ¬ (32 : UInt8) ∈ Lib.itoa z∧¬ (10 : UInt8) ∈ Lib.itoa z:=by
 obtain ⟨c,r,e,hc,hr⟩:=itoa_bytes z
 rw [e]
 constructor
 ·intro h
  rcases List.mem_cons.1 h with h | h
  ·subst h; simp at hc
  ·have:=hr _ h; simp at this
 ·intro h
  rcases List.mem_cons.1 h with h | h
  ·subst h; simp at hc
  ·have:=hr _ h; simp at this

def i64 (z : Int) : Prop:=-9223372036854775808≤z∧z≤9223372036854775807

theorem numOK_itoa {z : Int} (h : i64 z) : numOK (Lib.itoa z)=true:=by
 unfold numOK
 rw [atoi_itoa z h.1 h.2]
 simp

theorem numsOf_line {zs : List Int} (h0 : zs ≠ []) (h : ∀ z ∈ zs,i64 z) : numsOf (lineL zs)=zs:=by
 obtain ⟨z,zs,rfl⟩ : ∃ a l,zs=a :: l:=by cases zs with
  | nil => exact absurd rfl h0
  | cons a l => exact ⟨a,l,rfl⟩
 have e : splitC 32 (lineL (z :: zs))=(z :: zs).map Lib.itoa:=by
  unfold lineL
  rw [List.map_cons]
  refine split_join 32 _ _ fun x hx => ?_
  rw [← List.map_cons] at hx
  obtain ⟨y,_,rfl⟩:=List.mem_map.1 hx
  exact (itoa_noc y).1
 unfold numsOf
 rw [e,if_pos]
 ·rw [List.map_map]
  conv => rhs; rw [← List.map_id (z :: zs)]
  refine List.map_congr_left fun y hy => ?_
  exact atoiV_itoa (h y hy).1 (h y hy).2
 ·rw [List.all_eq_true]
  intro x hx
  obtain ⟨y,hy,rfl⟩:=List.mem_map.1 hx
  exact numOK_itoa (h y hy)

theorem numOK_back {w : List UInt8} (h : numOK w=true) : Lib.itoa (atoiV w)=w:=by
 unfold numOK at h
 unfold atoiV
 split at h
 ·next n e => rw [e]; exact of_decide_eq_true h
 ·cases h

theorem numsOf_back {l : List UInt8} (h : numsOf l ≠ []) : lineL (numsOf l)=l:=by
 unfold numsOf at h ⊢
 split at h
 ·next ha =>
  rw [if_pos ha]
  unfold lineL
  rw [List.map_map]
  have : (splitC 32 l).map (Lib.itoa ∘ atoiV)=splitC 32 l:=by
   conv => rhs; rw [← List.map_id (splitC 32 l)]
   refine List.map_congr_left fun w hw => ?_
   exact numOK_back (List.all_eq_true.1 ha w hw)
  rw [this,join_split]
 ·exact absurd rfl h

theorem line_noLF (zs : List Int) : ¬ (10 : UInt8) ∈ lineL zs:=by
 intro h
 unfold lineL Lib.join List.intercalate at h
 rw [List.mem_flatten] at h
 obtain ⟨l,hl,hc⟩:=h
 have : ∀ (xs : List (List UInt8)),(∀ x ∈ xs,¬ (10 : UInt8) ∈ x)→∀ l ∈ xs.intersperse [32],¬ (10 : UInt8) ∈ l:=by
  intro xs
  induction xs with
  | nil => intro _ l hl; simp at hl
  | cons x xs ih =>
   intro hx l hl
   cases xs with
   | nil => simp at hl; subst hl; exact hx _ (by simp)
   | cons y ys =>
    rw [List.intersperse] at hl
    ·rcases List.mem_cons.1 hl with rfl | hl
     ·exact hx _ (by simp)
     rcases List.mem_cons.1 hl with rfl | hl
     ·simp
     ·exact ih (fun x hx' => hx x (by simp at hx' ⊢; exact Or.inr hx')) l hl
    ·simp
 refine this _ (fun x hx => ?_) l hl hc
 obtain ⟨z,_,rfl⟩:=List.mem_map.1 hx
 exact (itoa_noc z).2

theorem nextL_line {zs : List Int} (h0 : zs ≠ []) (h : ∀ z ∈ zs,i64 z) (r : List UInt8) : nextL (lnT zs ++ r)=(zs,r):=by
 unfold nextL lnT
 rw [List.append_assoc]
 have : cutAt 10 (lineL zs ++ ([10] ++ r))=(lineL zs,some r):=cutAt_app 10 _ _ (line_noLF zs)
 rw [this]
 simp only []
 rw [numsOf_line h0 h]

/-- What was read was written so. -/
theorem nextL_back {s : List UInt8} (h : (nextL s).1 ≠ []) : s=lnT (nextL s).1 ++ (nextL s).2:=by
 unfold nextL at h ⊢
 cases e : (cutAt 10 s).2 with
 | none => rw [e] at h; exact absurd rfl h
 | some r =>
  rw [e] at h
  simp only [] at h ⊢
  obtain ⟨e1,_⟩:=cutAt_some 10 (l:=s) (x:=(cutAt 10 s).1) (r:=r) (by rw [← e])
  unfold lnT
  rw [numsOf_back h,List.append_assoc]
  exact e1

theorem insZs_of {l : List Int} (h : 4≤l.length) : insZs (insOf l)=l:=by
 match l,h with
 | a :: b :: c :: d :: r,_ =>
  unfold insZs insOf
  simp only [List.getD_cons_zero,List.getD_cons_succ]
  congr 4
  simp only [List.length_cons]
  apply List.ext_getElem
  ·simp
  ·intro i h1 h2
   simp at h1 h2 ⊢
   rw [List.getElem?_eq_getElem h2]; rfl

theorem takeL_len : ∀ {k : Nat} {s : List UInt8} {r : List (List Int)×List UInt8},takeL k s=some r→r.1.length=k
 | 0,s,r,h => by simp [takeL] at h; subst h; rfl
 | k + 1,s,r,h => by
  unfold takeL at h
  split at h
  ·cases h
  ·obtain ⟨r',h1,h2⟩:=Option.map_eq_some_iff.1 h
   subst h2
   simp [takeL_len h1]

theorem takeL_back : ∀ {k : Nat} {s : List UInt8} {r : List (List Int)×List UInt8},takeL k s=some r→∀ (i : Nat) (f : Nat→List Int),(∀ j,j < k→f (i + j)=r.1.getD j [])→s=catB (fun j => lnT (insZs (insOf (f j)))) i k ++ r.2
 | 0,s,r,h,i,f,hf => by simp [takeL] at h; subst h; rfl
 | k + 1,s,r,h,i,f,hf => by
  unfold takeL at h
  split at h
  ·cases h
  ·next h4 =>
   obtain ⟨r',h1,h2⟩:=Option.map_eq_some_iff.1 h
   subst h2
   have ih:=takeL_back h1 (i + 1) f fun j hj => by
    have:=hf (j + 1) (by omega)
    rw [show i + 1 + j=i + (j + 1) by omega,this]
    simp
   have h0:=hf 0 (by omega)
   simp only [Nat.add_zero,List.getD_cons_zero] at h0
   rw [catB,h0,insZs_of (by omega),List.append_assoc,← ih]
   exact nextL_back (fun e => by rw [e] at h4; simp at h4)

theorem procL_back {s : List UInt8} {r : Pc×List UInt8} (h : procL s=some r) : s=pcT r.1 ++ r.2:=by
 unfold procL at h
 split at h
 ·next hc =>
  obtain ⟨r',h1,h2⟩:=Option.map_eq_some_iff.1 h
  subst h2
  have hl:=takeL_len h1
  have hb:=takeL_back h1 0 (fun j => r'.1.getD j []) fun j _ => by rw [Nat.zero_add]
  have e3 : headZs (mkPc (nextL s).1 r'.1)=(nextL s).1:=by
   unfold headZs mkPc
   simp only []
   rw [hl]
   have e2 : (((nextL s).1.getD 2 0).toNat : Int)=(nextL s).1.getD 2 0:=by omega
   rw [e2]
   generalize (nextL s).1=l at *
   match l,hc.1 with
   | [a,b,c],_ => rfl
  unfold pcT codeT
  rw [e3]
  simp only [mkPc]
  rw [hl,List.append_assoc,← hb]
  exact nextL_back (fun e => by rw [e] at hc; simp at hc)
 ·cases h

theorem readL_back : ∀ {u : Nat} {s : List UInt8} {L : List Pc},readL u s=some L→∀ (i : Nat) (P : Nat→Pc),(∀ j,j < L.length→P (i + j)=L.getD j (mkPc [] []))→s=catB (fun k => pcT (P k)) i L.length
 | 0,s,L,h,i,P,_ => by
  unfold readL at h
  split at h
  ·next e => cases h; exact e
  ·cases h
 | u + 1,s,L,h,i,P,hP => by
  unfold readL at h
  split at h
  ·next e => cases h; exact e
  ·cases e : procL s with
   | none => rw [e] at h; cases h
   | some r =>
    rw [e] at h
    obtain ⟨l,h1,h2⟩:=Option.map_eq_some_iff.1 h
    subst h2
    have ih:=readL_back h1 (i + 1) P fun j hj => by
     have:=hP (j + 1) (by simp; omega)
     rw [show i + 1 + j=i + (j + 1) by omega,this]
     simp
    have h0:=hP 0 (by simp)
    simp only [Nat.add_zero,List.getD_cons_zero] at h0
    rw [List.length_cons,catB,h0,← ih]
    exact procL_back e

def nthP (L : List Pc) (i : Nat) : Pc:=L.getD i (mkPc [] [])

/-- What is read is printed as it was. -/
theorem read_back {u : Nat} {s : List UInt8} {L : List Pc} (h : readL u s=some L) : progT (nthP L) L.length=s :=
 (readL_back h 0 (nthP L) fun j _ => by rw [Nat.zero_add]; rfl).symm

end Go.Proofs.YtfaggdkiffhdbaaGreatDoor
