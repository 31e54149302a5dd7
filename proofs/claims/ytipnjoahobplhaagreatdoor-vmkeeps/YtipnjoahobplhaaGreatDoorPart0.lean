/- The plain reckoning behind the cells: which error a value has, which row of values, which cells; what is met from a row of values. No Go in it. -/

namespace Go.Proofs.YtipnjoahobplhaaGreatDoor
def chk (k n c : Int) : Int :=
 if k = 0 then (if n = 0 then 0 else 4)
 else if k = 1 then (if n < -1000000000 ∨ 1000000000 < n then 3 else 0)
 else if k = 2 then (if n < 0 ∨ c ≤ n then 5 else 0)
 else 4
def firstErr : Nat→(Nat→Int)→Int
 | 0,_ => 0
 | n + 1,f => if firstErr n f = 0 then f n else firstErr n f
theorem firstErr_zero {f : Nat→Int} : ∀ {n : Nat},(∀ j,j < n→f j = 0)→firstErr n f = 0
 | 0,_ => rfl
 | n + 1,h => by
  have:=firstErr_zero (n:=n) fun j hj => h j (by omega)
  simp only [firstErr,this,if_true]
  exact h n (by omega)
theorem firstErr_at {f : Nat→Int} {i : Nat} (h0 : ∀ j,j < i→f j = 0) (hi : ¬ f i = 0) : ∀ {n : Nat},i < n→firstErr n f = f i
 | 0,h => absurd h (Nat.not_lt_zero _)
 | n + 1,h => by
  by_cases e : i = n
  ·subst e; simp only [firstErr,firstErr_zero h0,if_true]
  ·have:=firstErr_at h0 hi (n:=n) (by omega)
   simp only [firstErr,this,hi,if_false]
theorem firstErr_is_zero {f : Nat→Int} : ∀ {n : Nat},firstErr n f = 0→∀ j,j < n→f j = 0
 | 0,_,j,hj => absurd hj (Nat.not_lt_zero _)
 | n + 1,h,j,hj => by
  simp only [firstErr] at h
  by_cases e : firstErr n f = 0
  ·rw [if_pos e] at h
   by_cases ej : j = n
   ·subst ej; exact h
   ·exact firstErr_is_zero e j (by omega)
  ·rw [if_neg e] at h; exact absurd h e
def rowErr (n : Nat) (k z : Nat→Int) (c : Int) : Int:=firstErr n fun i => chk (k i) (z i) c
def cellErr (m : Nat) (k z : Nat→Int) (c : Int) : Int:=if m < 1 ∨ 4 < m then 2 else rowErr m k z c
def allErr (n : Nat) (m : Nat→Nat) (K Z : Nat→Nat→Int) : Int :=
 if 24 < n then 2 else firstErr n fun i => cellErr (m i) (K i) (Z i) n
def reachErr (n : Nat) (m : Nat→Nat) (K Z : Nat→Nat→Int) (f : Nat) (kf zf : Nat→Int) : Int :=
 if allErr n m K Z = 0 then (if 400 < f then 2 else rowErr f kf zf n) else allErr n m K Z
end Go.Proofs.YtipnjoahobplhaaGreatDoor
namespace Go.Proofs.YtipnjoahobplhaaGreatDoor
def meet1 (R : List Int) (k z : Int) : List Int:=if k = 2∧¬ z ∈ R then R ++ [z] else R
def meetTo : Nat→(Nat→Int)→(Nat→Int)→List Int→List Int
 | 0,_,_,R => R
 | i + 1,k,z,R => meet1 (meetTo i k z R) (k i) (z i)
theorem meet1_no {R : List Int} {k z : Int} (h : ¬ k = 2) : meet1 R k z = R:=if_neg fun e => h e.1
theorem meet1_old {R : List Int} {k z : Int} (h : z ∈ R) : meet1 R k z = R:=if_neg fun e => e.2 h
theorem meet1_new {R : List Int} {k z : Int} (hk : k = 2) (h : ¬ z ∈ R) : meet1 R k z = R ++ [z]:=if_pos ⟨hk,h⟩
theorem meet1_len (R : List Int) (k z : Int) : (meet1 R k z).length ≤ R.length + 1:=by
 unfold meet1; split
 ·simp
 ·omega
theorem meetTo_len : ∀ (i : Nat) (k z : Nat→Int) (R : List Int),(meetTo i k z R).length ≤ R.length + i
 | 0,_,_,R => by simp [meetTo]
 | i + 1,k,z,R => by
  have:=meetTo_len i k z R
  have h1:=meet1_len (meetTo i k z R) (k i) (z i)
  simp only [meetTo]; omega
structure In where
 op : Int
 a : Int
 b : Int
 c : Int
 n : Nat
 z : Nat→Int
def fromB (n lo hi : Int) : Bool:=decide (lo ≤ n∧n ≤ hi)
def regsB (i : In) (regs : Int) : Bool :=
 if i.op = 10 ∨ i.op = 12 then true
 else if i.op = 3 then fromB i.a 0 (regs - 1) && (fromB i.b 0 (regs - 1) && fromB i.c 0 (regs - 1))
 else if i.op = 2 ∨ i.op = 4 ∨ i.op = 6 then fromB i.a 0 (regs - 1) && fromB i.b 0 (regs - 1)
 else fromB i.a 0 (regs - 1)
def restB (i : In) (code : Int) : Bool :=
 if i.op = 1 then fromB i.b (-1000000000) 1000000000
 else if i.op = 5 then fromB i.b 1 4
 else if i.op = 4 ∨ i.op = 6 then fromB i.c 0 3
 else if i.op = 3 then decide (i.n = 1) && fromB (i.z 0) 1 5
 else if i.op = 12 ∨ i.op = 13 then fromB i.b 0 (code - 1)
 else true
def bareB (i : In) : Bool :=
 if i.op = 3 then true
 else if i.op = 7 then decide (i.c = 0)
 else if i.op = 4 ∨ i.op = 6 then decide (i.n = 0)
 else if i.op = 1 ∨ i.op = 5 ∨ i.op = 2 ∨ i.op = 13 then decide (i.c = 0) && decide (i.n = 0)
 else if i.op = 8 ∨ i.op = 9 ∨ i.op = 11 then decide (i.b = 0) && (decide (i.c = 0) && decide (i.n = 0))
 else if i.op = 12 then decide (i.a = 0) && (decide (i.c = 0) && decide (i.n = 0))
 else decide (i.a = 0) && (decide (i.b = 0) && (decide (i.c = 0) && decide (i.n = 0)))
def argsB (i : In) (regs : Int) : Bool:=decide (∀ k,k < i.n→0 ≤ i.z k∧i.z k ≤ regs - 1)
def insErr (np : Nat) (par : Nat→Int) (regs : Int) (code : Nat) (i : In) : Int :=
 if fromB i.op 1 13 = false then 4
 else if regsB i regs = false then 3
 else if i.op = 7∧fromB i.b 0 ((np : Int) - 1) = false then 5
 else if restB i code = false then 3
 else if bareB i = false ∨ (i.op = 7∧¬ (i.n : Int) = par i.b.toNat) then 4
 else if i.op = 7∧argsB i regs = false then 3
 else 0
structure Pc where
 params : Int
 regs : Int
 n : Nat
 ins : Nat→In
def pcErr (j : Nat) (p : Pc) : Int :=
 if fromB p.params 0 3 = false ∨ fromB p.regs (max 1 p.params) 40 = false ∨ (j = 0∧0 < p.params) then 3
 else if p.n < 1 ∨ 2000 < p.n then 2 else 0
def bodyCErr (np : Nat) (par : Nat→Int) (p : Pc) : Int :=
 if firstErr p.n (fun k => insErr np par p.regs p.n (p.ins k)) = 0 then (if (p.ins (p.n - 1)).op = 8 ∨ (p.ins (p.n - 1)).op = 12 then 0 else 4)
 else firstErr p.n (fun k => insErr np par p.regs p.n (p.ins k))
def codeErr (np : Nat) (P : Nat→Pc) : Int :=
 if np < 1 ∨ 4 < np then 2
 else if firstErr np (fun j => pcErr j (P j)) = 0 then firstErr np (fun j => bodyCErr np (fun k => (P k).params) (P j))
 else firstErr np (fun j => pcErr j (P j))
def stepR (m : Nat→Nat) (K Z : Nat→Nat→Int) (t : Nat) (R : List Int) : List Int :=
 meetTo (m (R.getD t 0).toNat) (K (R.getD t 0).toNat) (Z (R.getD t 0).toNat) R
def rt (m : Nat→Nat) (K Z : Nat→Nat→Int) (f : Nat) (kf zf : Nat→Int) : Nat→List Int
 | 0 => meetTo f kf zf []
 | t + 1 => if t < (rt m K Z f kf zf t).length then stepR m K Z t (rt m K Z f kf zf t) else rt m K Z f kf zf t
theorem meet1_more (R : List Int) (k z : Int) : R.length ≤ (meet1 R k z).length:=by
 unfold meet1; split
 ·simp
 ·exact Nat.le_refl _
theorem meetTo_more : ∀ (i : Nat) (k z : Nat→Int) (R : List Int),R.length ≤ (meetTo i k z R).length
 | 0,_,_,_ => Nat.le_refl _
 | i + 1,k,z,R => Nat.le_trans (meetTo_more i k z R) (meet1_more _ _ _)
def Good (n : Nat) (R : List Int) : Prop:=R.Nodup∧∀ x,x ∈ R→0 ≤ x∧x < n
theorem good_nil (n : Nat) : Good n []:=⟨List.nodup_nil,fun _ h => absurd h List.not_mem_nil⟩
theorem meet1_good {n : Nat} {R : List Int} {k z : Int} (h : Good n R) (hz : k = 2→0 ≤ z∧z < n) : Good n (meet1 R k z):=by
 unfold meet1
 split
 ·rename_i e
  refine ⟨List.nodup_append.2 ⟨h.1,by simp,fun a ha b hb e1 => ?_⟩,fun x hx => ?_⟩
  ·simp at hb; subst hb; subst e1; exact e.2 ha
  ·rcases List.mem_append.1 hx with hx | hx
   ·exact h.2 x hx
   ·simp at hx; subst hx; exact hz e.1
 ·exact h
theorem meetTo_good {n : Nat} {k z : Nat→Int} {R : List Int} (h : Good n R) : ∀ {i : Nat},(∀ j,j < i→k j = 2→0 ≤ z j∧z j < n)→Good n (meetTo i k z R)
 | 0,_ => h
 | i + 1,hz => meet1_good (meetTo_good h fun j hj => hz j (by omega)) (hz i (by omega))
theorem nodup_len : ∀ (n : Nat) (R : List Int),R.Nodup→(∀ x,x ∈ R→0 ≤ x∧x < n)→R.length ≤ n
 | 0,R,_,h => by
  cases R with
  | nil => simp
  | cons a r => have:=h a (by simp); omega
 | n + 1,R,hn,h => by
  by_cases hm : (n : Int) ∈ R
  ·have h1:=nodup_len n (R.erase n) (hn.erase _) (fun x hx => by
    have h2:=h x (List.mem_of_mem_erase hx)
    have h3 : x ≠ n:=fun e => by subst e; exact (List.Nodup.not_mem_erase hn) hx
    omega)
   rw [List.length_erase_of_mem hm] at h1
   omega
  ·have:=nodup_len n R hn (fun x hx => by
    have h2:=h x hx
    have h3 : x ≠ n:=fun e => hm (e ▸ hx)
    omega)
   omega
theorem Good.len {n : Nat} {R : List Int} (h : Good n R) : R.length ≤ n:=nodup_len n R h.1 h.2
structure Valid (n : Nat) (m : Nat→Nat) (K Z : Nat→Nat→Int) (f : Nat) (kf zf : Nat→Int) : Prop where
 few : n ≤ 24
 least : ∀ i,i < n→1 ≤ m i
 most : ∀ i,i < n→m i ≤ 4
 fields : ∀ i,i < n→∀ j,j < m i→chk (K i j) (Z i j) n = 0
 short : f ≤ 400
 vals : ∀ j,j < f→chk (kf j) (zf j) n = 0
theorem chk_ref {z c : Int} (h : chk 2 z c = 0) : 0 ≤ z∧z < c:=by
 unfold chk at h
 simp at h
 omega
theorem allErr_zero {n : Nat} {m : Nat→Nat} {K Z : Nat→Nat→Int} : allErr n m K Z = 0 ↔ n ≤ 24∧∀ i,i < n→1 ≤ m i∧m i ≤ 4∧∀ j,j < m i→chk (K i j) (Z i j) n = 0:=by
 constructor
 ·intro h
  unfold allErr at h
  by_cases hn : 24 < n
  ·rw [if_pos hn] at h; cases h
  ·rw [if_neg hn] at h
   refine ⟨by omega,fun i hi => ?_⟩
   have h1:=firstErr_is_zero h i hi
   unfold cellErr at h1
   by_cases hm : m i < 1 ∨ 4 < m i
   ·rw [if_pos hm] at h1; cases h1
   ·rw [if_neg hm] at h1
    exact ⟨by omega,by omega,firstErr_is_zero h1⟩
 ·rintro ⟨hn,h⟩
  unfold allErr
  rw [if_neg (by omega)]
  refine firstErr_zero fun i hi => ?_
  obtain ⟨h1,h4,hf⟩:=h i hi
  unfold cellErr
  rw [if_neg (by omega)]
  exact firstErr_zero hf
theorem reachErr_zero {n : Nat} {m : Nat→Nat} {K Z : Nat→Nat→Int} {f : Nat} {kf zf : Nat→Int} : reachErr n m K Z f kf zf = 0 ↔ Valid n m K Z f kf zf:=by
 constructor
 ·intro h
  unfold reachErr at h
  by_cases ha : allErr n m K Z = 0
  ·rw [if_pos ha] at h
   obtain ⟨hn,hc⟩:=allErr_zero.1 ha
   by_cases hf : 400 < f
   ·rw [if_pos hf] at h; cases h
   ·rw [if_neg hf] at h
    exact ⟨hn,fun i hi => (hc i hi).1,fun i hi => (hc i hi).2.1,fun i hi => (hc i hi).2.2,by omega,firstErr_is_zero h⟩
  ·rw [if_neg ha] at h; exact absurd h ha
 ·intro h
  unfold reachErr
  rw [if_pos (allErr_zero.2 ⟨h.few,fun i hi => ⟨h.least i hi,h.most i hi,h.fields i hi⟩⟩),if_neg (by have:=h.short; omega)]
  exact firstErr_zero h.vals
section
variable {n : Nat} {m : Nat→Nat} {K Z : Nat→Nat→Int} {f : Nat} {kf zf : Nat→Int}
theorem Valid.from (h : Valid n m K Z f kf zf) (j : Nat) (hj : j < f) (hk : kf j = 2) : 0 ≤ zf j∧zf j < n:=by
 have:=h.vals j hj; rw [hk] at this; exact chk_ref this
theorem Valid.field (h : Valid n m K Z f kf zf) (i : Nat) (hi : i < n) (j : Nat) (hj : j < m i) (hk : K i j = 2) : 0 ≤ Z i j∧Z i j < n:=by
 have:=h.fields i hi j hj; rw [hk] at this; exact chk_ref this
theorem Good.at {R : List Int} (h : Good n R) {t : Nat} (ht : t < R.length) : ∃ c : Nat,c < n∧R.getD t 0 = c:=by
 have hm : R.getD t 0 ∈ R:=by
  rw [List.getD_eq_getElem?_getD,List.getElem?_eq_getElem ht]; exact List.getElem_mem ht
 have:=h.2 _ hm
 exact ⟨(R.getD t 0).toNat,by omega,by omega⟩
theorem stepR_good (hv : Valid n m K Z f kf zf) {R : List Int} (h : Good n R) {t : Nat} (ht : t < R.length) : Good n (stepR m K Z t R):=by
 obtain ⟨c,hc,e⟩:=h.at ht
 unfold stepR
 rw [e]
 exact meetTo_good h fun j hj hk => hv.field c hc j hj hk
theorem rt_good (hv : Valid n m K Z f kf zf) : ∀ t,Good n (rt m K Z f kf zf t)
 | 0 => meetTo_good (good_nil n) hv.from
 | t + 1 => by
  unfold rt
  split
  ·rename_i h; exact stepR_good hv (rt_good hv t) h
  ·exact rt_good hv t
theorem rt_next {t : Nat} (h : t < (rt m K Z f kf zf t).length) : rt m K Z f kf zf (t + 1) = stepR m K Z t (rt m K Z f kf zf t):=by
 show (if _ then _ else _) = _
 exact if_pos h
theorem rt_stays {t : Nat} (h : ¬ t < (rt m K Z f kf zf t).length) : ∀ d,rt m K Z f kf zf (t + d) = rt m K Z f kf zf t
 | 0 => rfl
 | d + 1 => by
  have ih:=rt_stays h d
  have e : rt m K Z f kf zf (t + d + 1) = rt m K Z f kf zf (t + d):=if_neg (by rw [ih]; omega)
  exact e.trans ih
def reached (n : Nat) (m : Nat→Nat) (K Z : Nat→Nat→Int) (f : Nat) (kf zf : Nat→Int) : List Int:=rt m K Z f kf zf n
theorem rt_done {t : Nat} (ht : t ≤ n) (h : ¬ t < (rt m K Z f kf zf t).length) : reached n m K Z f kf zf = rt m K Z f kf zf t:=by
 have:=rt_stays h (n - t)
 rw [show t + (n - t) = n by omega] at this
 exact this
end
theorem mem_meet1 {R : List Int} {k z x : Int} : x ∈ meet1 R k z ↔ x ∈ R ∨ (k = 2∧x = z):=by
 unfold meet1
 split
 ·rename_i h
  simp only [List.mem_append,List.mem_singleton]
  constructor
  ·rintro (e | e)
   ·exact Or.inl e
   ·exact Or.inr ⟨h.1,e⟩
  ·rintro (e | e)
   ·exact Or.inl e
   ·exact Or.inr e.2
 ·rename_i h
  refine ⟨Or.inl,fun e => e.elim id fun ⟨h1,h2⟩ => ?_⟩
  by_cases hz : z ∈ R
  ·rw [h2]; exact hz
  ·exact absurd ⟨h1,hz⟩ h
theorem mem_meetTo {k z : Nat→Int} {R : List Int} {x : Int} : ∀ {i : Nat},x ∈ meetTo i k z R ↔ x ∈ R ∨ ∃ j,j < i∧k j = 2∧x = z j
 | 0 => ⟨Or.inl,fun h => h.elim id fun ⟨_,h,_⟩ => absurd h (Nat.not_lt_zero _)⟩
 | i + 1 => by
  have ih:=mem_meetTo (k:=k) (z:=z) (R:=R) (x:=x) (i:=i)
  show x ∈ meet1 _ _ _ ↔ _
  rw [mem_meet1,ih]
  constructor
  ·rintro ((h | ⟨j,hj,e⟩) | e)
   ·exact Or.inl h
   ·exact Or.inr ⟨j,by omega,e⟩
   ·exact Or.inr ⟨i,by omega,e⟩
  ·rintro (h | ⟨j,hj,e⟩)
   ·exact Or.inl (Or.inl h)
   ·by_cases ej : j = i
    ·subst ej; exact Or.inr e
    ·exact Or.inl (Or.inr ⟨j,by omega,e⟩)
theorem meet1_prefix (R : List Int) (k z : Int) : ∃ S,meet1 R k z = R ++ S:=by
 unfold meet1
 split
 ·exact ⟨_,rfl⟩
 ·exact ⟨[],by simp⟩
theorem meetTo_prefix (k z : Nat→Int) (R : List Int) : ∀ i,∃ S,meetTo i k z R = R ++ S
 | 0 => ⟨[],by simp [meetTo]⟩
 | i + 1 => by
  obtain ⟨S,h⟩:=meetTo_prefix k z R i
  obtain ⟨T,h2⟩:=meet1_prefix (meetTo i k z R) (k i) (z i)
  exact ⟨S ++ T,by show meet1 _ _ _ = _; rw [h2,h,List.append_assoc]⟩
theorem getD_prefix {R S : List Int} {i : Nat} (h : i < R.length) : (R ++ S).getD i 0 = R.getD i 0:=by
 simp [List.getD,List.getElem?_append_left h]
section
variable {n : Nat} {m : Nat→Nat} {K Z : Nat→Nat→Int} {f : Nat} {kf zf : Nat→Int}
theorem rt_prefix (t : Nat) : ∃ S,rt m K Z f kf zf (t + 1) = rt m K Z f kf zf t ++ S:=by
 by_cases h : t < (rt m K Z f kf zf t).length
 ·rw [rt_next h]; exact meetTo_prefix _ _ _ _
 ·exact ⟨[],by rw [rt_stays h 1]; simp⟩
theorem rt_from {t : Nat} {x : Int} (h : x ∈ rt m K Z f kf zf 0) : x ∈ rt m K Z f kf zf t:=by
 induction t with
 | zero => exact h
 | succ t ih => obtain ⟨S,e⟩:=rt_prefix (m:=m) (K:=K) (Z:=Z) (f:=f) (kf:=kf) (zf:=zf) t; rw [e]; exact List.mem_append_left _ ih
theorem rt_closed : ∀ t i,i < t→i < (rt m K Z f kf zf t).length→∀ j,j < m ((rt m K Z f kf zf t).getD i 0).toNat→K ((rt m K Z f kf zf t).getD i 0).toNat j = 2→Z ((rt m K Z f kf zf t).getD i 0).toNat j ∈ rt m K Z f kf zf t
 | 0,_,h,_,_,_,_ => absurd h (Nat.not_lt_zero _)
 | t + 1,i,hi,hl,j,hj,hk => by
  by_cases h : t < (rt m K Z f kf zf t).length
  ·obtain ⟨S,e⟩:=rt_prefix (m:=m) (K:=K) (Z:=Z) (f:=f) (kf:=kf) (zf:=zf) t
   have hil : i < (rt m K Z f kf zf t).length:=by omega
   have eg : (rt m K Z f kf zf (t + 1)).getD i 0 = (rt m K Z f kf zf t).getD i 0:=by rw [e]; exact getD_prefix hil
   rw [eg] at hj hk ⊢
   by_cases hit : i = t
   ·subst hit
    rw [rt_next h]
    exact mem_meetTo.2 (Or.inr ⟨j,hj,hk,rfl⟩)
   ·rw [e]
    exact List.mem_append_left _ (rt_closed t i (by omega) hil j hj hk)
  ·have es : rt m K Z f kf zf (t + 1) = rt m K Z f kf zf t:=rt_stays h 1
   rw [es] at hl hj hk ⊢
   exact rt_closed t i (by omega) hl j hj hk
theorem mem_getD {R : List Int} {x : Int} (h : x ∈ R) : ∃ i,i < R.length∧R.getD i 0 = x:=by
 obtain ⟨i,hi,e⟩:=List.mem_iff_getElem.1 h
 exact ⟨i,hi,by simp [List.getD,List.getElem?_eq_getElem hi,e]⟩
theorem reached_closed (hv : Valid n m K Z f kf zf) {c : Nat} (hc : (c : Int) ∈ reached n m K Z f kf zf) {j : Nat} (hj : j < m c) (hk : K c j = 2) : Z c j ∈ reached n m K Z f kf zf:=by
 obtain ⟨i,hi,e⟩:=mem_getD hc
 have hl:=(rt_good hv n).len
 have:=rt_closed (m:=m) (K:=K) (Z:=Z) (f:=f) (kf:=kf) (zf:=zf) n i (by unfold reached at hi; omega) hi
 unfold reached at e ⊢
 rw [e] at this
 exact this j hj hk
theorem reached_from {j : Nat} (hj : j < f) (hk : kf j = 2) : zf j ∈ reached n m K Z f kf zf :=
 rt_from (mem_meetTo.2 (Or.inr ⟨j,hj,hk,rfl⟩))
end
/-! ### The values of all that is reached,one behind the other -/
def rowL (n : Nat) (k z : Nat→Int) : List (Int × Int):=(List.range n).map fun i => (k i,z i)
theorem rowL_len (n : Nat) (k z : Nat→Int) : (rowL n k z).length = n:=by simp [rowL]
def fstAt (L : List (Int × Int)) (i : Nat) : Int:=(L.getD i (0,0)).1
def sndAt (L : List (Int × Int)) (i : Nat) : Int:=(L.getD i (0,0)).2
theorem pair_at {L : List (Int × Int)} {i : Nat} (h : i < L.length) : (fstAt L i,sndAt L i) ∈ L:=by
 have : L.getD i (0,0) = L[i]:=by simp [List.getD,List.getElem?_eq_getElem h]
 unfold fstAt sndAt
 rw [this]
 exact List.getElem_mem h
theorem at_pair {L : List (Int × Int)} {p : Int × Int} (h : p ∈ L) : ∃ i,i < L.length∧p = (fstAt L i,sndAt L i):=by
 obtain ⟨i,hi,e⟩:=List.mem_iff_getElem.1 h
 refine ⟨i,hi,?_⟩
 have : L.getD i (0,0) = L[i]:=by simp [List.getD,List.getElem?_eq_getElem hi]
 unfold fstAt sndAt
 rw [this,e]
section
variable {n : Nat} {m : Nat→Nat} {K Z : Nat→Nat→Int} {f : Nat} {kf zf : Nat→Int}
end
structure Fm where
 proc : Int
 pos : Int
 regs : List (Int × Int)
 to : Int
structure Sta where
 fs : List Fm
 cs : List (List (Int × Int))
 st : Int
 wh : Int
def noFm : Fm:=⟨0,0,[],0⟩
def fmAt (fs : List Fm) (i : Nat) : Fm:=fs.getD i noFm
def cLen (cs : List (List (Int × Int))) (i : Nat) : Nat:=(cs.getD i []).length
def cK (cs : List (List (Int × Int))) (i j : Nat) : Int:=fstAt (cs.getD i []) j
def cZ (cs : List (List (Int × Int))) (i j : Nat) : Int:=sndAt (cs.getD i []) j
def ahead (fs : List Fm) (k : Nat) : Nat:=if k = 0 then 1 else (fmAt fs (k - 1)).regs.length
def frErr (np : Nat) (P : Nat→Pc) (h nc : Nat) (f : Fm) : Int :=
 if f.proc < 0 ∨ (np : Int) ≤ f.proc then 5
 else if f.pos < 0 ∨ ((P f.proc.toNat).n : Int) ≤ f.pos ∨ f.to < 0 ∨ (h : Int) ≤ f.to then 3
 else if ¬ (f.regs.length : Int) = (P f.proc.toNat).regs then 4
 else rowErr f.regs.length (fstAt f.regs) (sndAt f.regs) nc
def framesErr (np : Nat) (P : Nat→Pc) (nc : Nat) (fs : List Fm) : Int:=firstErr fs.length fun k => frErr np P (ahead fs k) nc (fmAt fs k)
def cellsErr (cs : List (List (Int × Int))) : Int:=allErr cs.length (cLen cs) (cK cs) (cZ cs)
def staErr (np : Nat) (P : Nat→Pc) (S : Sta) : Int :=
 if S.st < 0 ∨ 3 < S.st ∨ S.wh < -1000000000 ∨ 1000000000 < S.wh then 3
 else if (¬ S.st = 3∧¬ S.wh = 0) ∨ (S.st = 1∧¬ S.fs.length = 0) ∨ (¬ S.st = 1∧S.fs.length = 0) then 4
 else if 10 < S.fs.length then 2
 else if cellsErr S.cs = 0 then framesErr np P S.cs.length S.fs else cellsErr S.cs
def vmErr (np : Nat) (P : Nat→Pc) (S : Sta) : Int:=if codeErr np P = 0 then staErr np P S else codeErr np P
def regsOf (fs : List Fm) : List (Int × Int):=(fs.map Fm.regs).flatten
def reachedS (S : Sta) : List Int:=reached S.cs.length (cLen S.cs) (cK S.cs) (cZ S.cs) (regsOf S.fs).length (fstAt (regsOf S.fs)) (sndAt (regsOf S.fs))
def renum (R : List Int) (v : Int × Int) : Int × Int:=if v.1 = 2 then (2,(R.idxOf v.2 : Int)) else v
def renumF (R : List Int) (f : Fm) : Fm:=⟨f.proc,f.pos,f.regs.map (renum R),f.to⟩
def sweptS (S : Sta) : Sta:=⟨S.fs.map (renumF (reachedS S)),(reachedS S).map fun n => (S.cs.getD n.toNat []).map (renum (reachedS S)),S.st,S.wh⟩
def topF (S : Sta) : Fm:=fmAt S.fs (S.fs.length - 1)
def withTop (S : Sta) (f : Fm) : Sta:=⟨S.fs.set (S.fs.length - 1) f,S.cs,S.st,S.wh⟩
def regAt (L : List (Int × Int)) (a : Int) : Int × Int:=L.getD a.toNat (0,0)
def setReg (S : Sta) (a : Int) (v : Int × Int) : Sta:=withTop S ⟨(topF S).proc,(topF S).pos,(topF S).regs.set a.toNat v,(topF S).to⟩
def setPos (S : Sta) (k : Int) : Sta:=withTop S ⟨(topF S).proc,k,(topF S).regs,(topF S).to⟩
def numOp (op x y : Int) : Int:=if op = 1 then x + y else if op = 2 then x - y else if op = 3 then x * y else 0
def opM (op : Int) (a b : Int × Int) : Option (Int × Int) :=
 if op = 5 then some (1,if a = b then 1 else 0)
 else if ¬ a.1 = 1 ∨ ¬ b.1 = 1 then none
 else if op = 4 then some (1,if a.2 < b.2 then 1 else 0)
 else if -1000000000 ≤ numOp op a.2 b.2∧numOp op a.2 b.2 ≤ 1000000000 then some (1,numOp op a.2 b.2) else none
def hasField (S : Sta) (v : Int × Int) (c : Int) : Bool:=decide (v.1 = 2∧c < (S.cs.getD v.2.toNat []).length)
def fieldOf (S : Sta) (v : Int × Int) (c : Int) : Int × Int:=regAt (S.cs.getD v.2.toNat []) c
def setField (S : Sta) (v : Int × Int) (c : Int) (x : Int × Int) : Sta:=⟨S.fs,S.cs.set v.2.toNat ((S.cs.getD v.2.toNat []).set c.toNat x),S.st,S.wh⟩
def roomS (S : Sta) : Sta:=if S.cs.length = 24 then sweptS S else S
def withCell (S : Sta) (n : Int) : Sta:=⟨S.fs,S.cs ++ [List.replicate n.toNat (0,0)],S.st,S.wh⟩
def valueM (S : Sta) (i : In) : Option (Sta × (Int × Int)) :=
 if i.op = 1 then some (S,(1,i.b))
 else if i.op = 2 then some (S,regAt (topF S).regs i.b)
 else if i.op = 3 then (opM (i.z 0) (regAt (topF S).regs i.b) (regAt (topF S).regs i.c)).map fun v => (S,v)
 else if i.op = 5 then (if (roomS S).cs.length = 24 then none else some (withCell (roomS S) i.b,(2,((roomS S).cs.length : Int))))
 else if hasField S (regAt (topF S).regs i.b) i.c = true then some (S,fieldOf S (regAt (topF S).regs i.b) i.c) else none
def argRegs (n : Nat) (i : In) (from' : List (Int × Int)) : List (Int × Int):=(List.range n).map fun k => if k < i.n then regAt from' (i.z k) else (0,0)
def callS (P : Nat→Pc) (S : Sta) (i : In) : Sta:=⟨S.fs ++ [⟨i.b,0,argRegs (P i.b.toNat).regs.toNat i (topF S).regs,i.a⟩],S.cs,S.st,S.wh⟩
def popS (S : Sta) : Sta:=⟨S.fs.take (S.fs.length - 1),S.cs,S.st,S.wh⟩
def backS (S : Sta) (v : Int × Int) : Sta :=
 if S.fs.length - 1 = 0 then ⟨[],S.cs,1,S.wh⟩ else setReg (popS S) (topF S).to v
def doM (P : Nat→Pc) (S : Sta) (i : In) : Option (Sta × List Int × Bool) :=
 if i.op = 6 then (if hasField S (regAt (topF S).regs i.a) i.c = true then some (setField S (regAt (topF S).regs i.a) i.c (regAt (topF S).regs i.b),[],false) else none)
 else if i.op = 7 then (if S.fs.length = 10 then none else some (callS P S i,[],false))
 else if i.op = 8 then some (backS S (regAt (topF S).regs i.a),[],false)
 else if i.op = 9 then (if (regAt (topF S).regs i.a).1 = 1 then some (S,[(regAt (topF S).regs i.a).2],false) else none)
 else if i.op = 10 then some (S,[],true)
 else if i.op = 11 then (if (regAt (topF S).regs i.a).1 = 1 then some (⟨S.fs,S.cs,3,(regAt (topF S).regs i.a).2⟩,[],false) else none)
 else if i.op = 12 then some (setPos S i.b,[],false)
 else if i.op = 13 then some (if ¬ (regAt (topF S).regs i.a).1 = 2∧(regAt (topF S).regs i.a).2 = 0 then setPos S i.b else S,[],false)
 else (valueM S i).map fun x => (setReg x.1 i.a x.2,[],false)
def procS (P : Nat→Pc) (S : Sta) : Pc:=P (topF S).proc.toNat
def insS (P : Nat→Pc) (S : Sta) : In:=(procS P S).ins (topF S).pos.toNat
def nextPos (P : Nat→Pc) (S : Sta) : Int:=min ((topF S).pos + 1) ((procS P S).n - 1)
structure Rn where
 s : Sta
 said : List Int
 paused : Bool
def stepM (P : Nat→Pc) (R : Rn) : Rn :=
 match doM P (setPos R.s (nextPos P R.s)) (insS P R.s) with
 | some (S,l,b) => ⟨S,R.said ++ l,R.paused || b⟩
 | none => ⟨⟨R.s.fs,R.s.cs,2,R.s.wh⟩,R.said,R.paused⟩
def goesB (P : Nat→Pc) (R : Rn) : Bool:=decide (R.s.st = 0) && (!R.paused && (decide (R.said.length < 40) || !decide ((insS P R.s).op = 9)))
def runM (P : Nat→Pc) : Nat→Rn→Rn × Nat
 | 0,R => (R,0)
 | k + 1,R => if goesB P R = true then ((runM P k (stepM P R)).1,(runM P k (stepM P R)).2 + 1) else (R,0)
def itM (P : Nat→Pc) (R : Rn) : Nat→Rn
 | 0 => R
 | k + 1 => stepM P (itM P R k)
theorem itM_succ (P : Nat→Pc) (R : Rn) : ∀ k,itM P R (k + 1) = itM P (stepM P R) k
 | 0 => rfl
 | k + 1 => by
  show stepM P (itM P R (k + 1)) = stepM P (itM P (stepM P R) k)
  rw [itM_succ P R k]
theorem runM_at {P : Nat→Pc} : ∀ {fuel k : Nat} {R : Rn},k ≤ fuel→(∀ j,j < k→goesB P (itM P R j) = true)→(k = fuel ∨ goesB P (itM P R k) = false)→runM P fuel R = (itM P R k,k)
 | 0,k,R,hk,_,_ => by
  obtain rfl : k = 0:=by omega
  rfl
 | fuel + 1,0,R,_,_,he => by
  rcases he with he | he
  ·omega
  ·show (if goesB P R = true then _ else _) = _
   rw [if_neg (by rw [show goesB P R = false from he]; decide)]; rfl
 | fuel + 1,k + 1,R,hk,hj,he => by
  have h0 : goesB P R = true:=hj 0 (by omega)
  show (if goesB P R = true then _ else _) = _
  rw [if_pos h0]
  have:=runM_at (P:=P) (fuel:=fuel) (k:=k) (R:=stepM P R) (by omega) (fun j hjk => by rw [← itM_succ]; exact hj (j + 1) (by omega)) (he.imp (by omega) (by rw [itM_succ]; exact id))
  rw [this,itM_succ]
end Go.Proofs.YtipnjoahobplhaaGreatDoor
