/- A text as its lines: the plain reckoning. -/
import Derived.Test.YtfaokaohhchdhaaGreatDoorImgProc
import Derived.Test.YtfaokaohhchdhaaGreatDoorRefCode
namespace Go.Proofs.YtfaokaohhchdhaaGreatDoor
open Go.RowKit Go.Maps

/-- Lines,one behind the other,each with its end. -/
def unl : List (List UInt8)→List UInt8
 | [] => []
 | l :: ls => l ++ 10 :: unl ls

theorem nextL_unl {l : List UInt8} {ls : List (List UInt8)} (h : ¬ (10 : UInt8) ∈ l) : nextL (unl (l :: ls)) = (numsOf l,unl ls):=by
 unfold nextL
 rw [unl,cutAt_app 10 l _ h]

theorem takeL_few : ∀ (k : Nat) (ls : List (List UInt8)),(∀ x ∈ ls,¬ (10 : UInt8) ∈ x)→ls.length < k→takeL k (unl ls) = none
 | 0,ls,_,h => by omega
 | k + 1,[],_,_ => takeL_bad (by simp [unl,nextL,cutAt])
 | k + 1,l :: ls,hx,h => by
  have e:=nextL_unl (ls:=ls) (hx l (by simp))
  by_cases c : (numsOf l).length < 4
  ·exact takeL_bad (by rw [e]; exact c)
  ·rw [takeL_good (by rw [e]; exact c),e]
   simp only []
   rw [takeL_few k ls (fun x h' => hx x (by simp [h'])) (by simp at h; omega)]; rfl

theorem join_unl : ∀ (ls : List (List UInt8)) (x : List UInt8),Lib.join (ls ++ [x]) [10] = unl ls ++ x
 | [],x => by simp [Lib.join,unl]
 | [l],x => by simp [Lib.join,unl]
 | l :: m :: ls,x => by
  have ih:=join_unl (m :: ls) x
  simp only [List.cons_append] at ih ⊢
  have e : Lib.join (l :: m :: (ls ++ [x])) [10] = l ++ [10] ++ Lib.join (m :: (ls ++ [x])) [10]:=by simp [Lib.join,List.intercalate]
  rw [e,ih]
  simp [unl]

theorem unl_app : ∀ (a b : List (List UInt8)),unl (a ++ b) = unl a ++ unl b
 | [],b => rfl
 | x :: a,b => by rw [List.cons_append,unl,unl_app a b,unl,List.append_assoc]; rfl

/-- Nothing,or ended by a line's end. -/
def lfEnd (l : List UInt8) : Prop:=l = [] ∨ l.getLast? = some 10

theorem lfEnd.app {a b : List UInt8} (ha : lfEnd a) (hb : lfEnd b) : lfEnd (a ++ b):=by
 rcases hb with rfl | hb
 ·rw [List.append_nil]; exact ha
 ·right; rw [List.getLast?_append,hb]; rfl
theorem lfEnd_ln (zs : List Int) : lfEnd (lnT zs):=Or.inr (by unfold lnT; simp)
theorem lfEnd_cat {f : Nat→List UInt8} (hf : ∀ k,lfEnd (f k)) : ∀ m i,lfEnd (catB f i m)
 | 0,_ => Or.inl rfl
 | m + 1,i => by rw [catB]; exact (hf i).app (lfEnd_cat hf m (i + 1))
theorem lfEnd_prog (P : Nat→Pc) (n : Nat) : lfEnd (progT P n):=by
 unfold progT
 refine lfEnd_cat (fun k => ?_) n 0
 unfold pcT codeT
 exact (lfEnd_ln _).app (lfEnd_cat (fun k => lfEnd_ln _) _ _)

theorem readL_open {u : Nat} {a x : List UInt8} (h0 : x ≠ []) (hx : ¬ (10 : UInt8) ∈ x) : readL u (a ++ x) = none:=by
 cases h : readL u (a ++ x) with
 | none => rfl
 | some L =>
  have e:=read_back h
  have:=lfEnd_prog (nthP L) L.length
  rw [e] at this
  rcases this with h1 | h1
  ·exact absurd (List.append_eq_nil_iff.1 h1).2 h0
  ·rw [List.getLast?_append] at h1
   cases hl : x.getLast? with
   | none => exact absurd (List.getLast?_eq_none_iff.1 hl) h0
   | some y =>
    rw [hl] at h1
    simp at h1
    subst h1
    exact absurd (List.mem_of_getLast? hl) hx

theorem numsOf_i64 (l : List UInt8) : ∀ z ∈ numsOf l,i64 z:=by
 intro z hz
 unfold numsOf at hz
 split at hz
 ·rename_i ha
  obtain ⟨w,hw,rfl⟩:=List.mem_map.1 hz
  have hk:=List.all_eq_true.1 ha w hw
  unfold numOK at hk
  unfold atoiV
  cases hv : Lib.atoiAll w with
  | ok v => exact Lib.atoiAll_bounds hv
  | _ => rw [hv] at hk; cases hk
 ·cases hz

theorem nextL_i64 (s : List UInt8) : ∀ z ∈ (nextL s).1,i64 z:=by
 unfold nextL
 split
 ·exact numsOf_i64 _
 ·intro z hz; cases hz

theorem getD_i64 {l : List Int} (h : ∀ z ∈ l,i64 z) (k : Nat) : i64 (l.getD k 0):=by
 by_cases c : k < l.length
 ·exact h _ (by simp [c])
 ·simp [c,i64]

theorem takeL_i64 : ∀ {k : Nat} {s : List UInt8} {r : List (List Int) × List UInt8},takeL k s = some r→∀ l ∈ r.1,∀ z ∈ l,i64 z
 | 0,s,r,h => by simp [takeL] at h; subst h; intro l hl; cases hl
 | k + 1,s,r,h => by
  unfold takeL at h
  split at h
  ·cases h
  ·obtain ⟨r',h1,h2⟩:=Option.map_eq_some_iff.1 h
   subst h2
   intro l hl
   rcases List.mem_cons.1 hl with rfl | hl
   ·exact nextL_i64 s
   ·exact takeL_i64 h1 l hl

theorem wf_i64 {z : Int} (h : i64 z) : (Lit.int .i64 z).wf = true:=by
 unfold i64 at h
 simp [Lit.wf,IntKind.min,IntKind.max,IntKind.signed,IntKind.bits]
 omega

theorem procL_fit {s : List UInt8} {r : Pc × List UInt8} (h : procL s = some r) : ∀ k,k < r.1.n→(Lit.int .i64 (r.1.ins k).op).wf = true:=by
 unfold procL at h
 split at h
 ·obtain ⟨r',h1,h2⟩:=Option.map_eq_some_iff.1 h
  subst h2
  intro k hk
  have hk' : k < r'.1.length:=hk
  show (Lit.int .i64 ((r'.1.getD k []).getD 0 0)).wf = true
  refine wf_i64 (getD_i64 (takeL_i64 h1 _ ?_) 0)
  simp [hk']
 ·cases h

theorem readL_fit : ∀ {u : Nat} {s : List UInt8} {L : List Pc},readL u s = some L→∀ p ∈ L,∀ k,k < p.n→(Lit.int .i64 (p.ins k).op).wf = true
 | 0,s,L,h => by
  unfold readL at h
  split at h
  ·cases h; intro p hp; cases hp
  ·cases h
 | u + 1,s,L,h => by
  unfold readL at h
  split at h
  ·cases h; intro p hp; cases hp
  ·split at h
   ·cases h
   ·rename_i r hr
    obtain ⟨L',h1,h2⟩:=Option.map_eq_some_iff.1 h
    subst h2
    intro p hp
    rcases List.mem_cons.1 hp with rfl | hp
    ·exact procL_fit hr
    ·exact readL_fit h1 p hp

theorem read_fit {u : Nat} {s : List UInt8} {L : List Pc} (h : readL u s = some L) : opsFit L.length (nthP L):=by
 intro j hj k hk
 have e : nthP L j = L[j]:=by unfold nthP; simp [hj]
 rw [e] at hk ⊢
 exact readL_fit h _ (List.getElem_mem hj) k hk

end Go.Proofs.YtfaokaohhchdhaaGreatDoor
