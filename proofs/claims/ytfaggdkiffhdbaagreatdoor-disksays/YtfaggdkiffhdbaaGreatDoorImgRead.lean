/- What is printed of a right program is read as it is; like programs have like errors and texts. No Go in it. -/
import Derived.Test.YtfaggdkiffhdbaaGreatDoorImgDef
namespace Go.Proofs.YtfaggdkiffhdbaaGreatDoor
open Go.RowKit

theorem takeL_text {ins : Nat→In} (r : List UInt8) : ∀ (m i : Nat),(∀ j,j < m→∀ z ∈ insZs (ins (i + j)),i64 z) →
  takeL m (catB (fun k => lnT (insZs (ins k))) i m ++ r)=some ((List.range m).map (fun j => insZs (ins (i + j))),r)
 | 0,i,_ => rfl
 | m + 1,i,h => by
  have hn:=nextL_line (zs:=insZs (ins i)) (by simp [insZs]) (h 0 (by omega)) (catB (fun k => lnT (insZs (ins k))) (i + 1) m ++ r)
  have ih:=takeL_text r m (i + 1) fun j hj => by rw [show i + 1 + j=i + (j + 1) by omega]; exact h (j + 1) (by omega)
  rw [catB,List.append_assoc,takeL,hn]
  simp only []
  rw [if_neg (by simp [insZs]),ih]
  simp only [Option.map_some]
  congr 2
  rw [List.range_succ_eq_map,List.map_cons,List.map_map]
  congr 1
  refine List.map_congr_left fun j _ => ?_
  show insZs (ins (i + 1 + j))=insZs (ins (i + (j + 1)))
  rw [show i + 1 + j=i + (j + 1) by omega]

theorem insOf_zs (i : In) : eqIn i (insOf (insZs i)):=by
 refine ⟨rfl,rfl,rfl,rfl,by simp [insOf,insZs],fun k hk => ?_⟩
 simp [insOf,insZs,hk]

theorem procL_text {p : Pc} (r : List UInt8) (h1 : i64 p.params∧i64 p.regs) (hn : 1≤p.n) (hn2 : p.n≤2000) (h : ∀ j,j < p.n→∀ z ∈ insZs (p.ins j),i64 z) :
  ∃ q,procL (pcT p ++ r)=some (q,r)∧eqPc p q:=by
 have hh:=nextL_line (zs:=headZs p) (by simp [headZs]) (fun z hz => by
  simp only [headZs,List.mem_cons,List.mem_nil_iff,or_false] at hz
  rcases hz with rfl | rfl | rfl
  ·exact h1.1
  ·exact h1.2
  ·unfold i64; omega) (codeT p.ins p.n ++ r)
 have ht:=takeL_text (ins:=p.ins) r p.n 0 fun j hj => by rw [Nat.zero_add]; exact h j hj
 refine ⟨mkPc (headZs p) ((List.range p.n).map fun j => insZs (p.ins (0 + j))),?_,rfl,rfl,by simp [mkPc],fun k hk => ?_⟩
 ·unfold procL pcT
  rw [List.append_assoc,hh]
  simp only []
  have e2 : (headZs p).getD 2 0=(p.n : Int):=rfl
  rw [e2,if_pos ⟨rfl,by omega,by omega⟩,Int.toNat_natCast]
  unfold codeT
  rw [ht]
  rfl
 ·have : (mkPc (headZs p) ((List.range p.n).map fun j => insZs (p.ins (0 + j)))).ins k=insOf (insZs (p.ins k)):=by
   simp [mkPc,hk]
  rw [this]
  exact insOf_zs _

theorem pcT_ne (p : Pc) : pcT p ≠ []:=by unfold pcT lnT; simp

theorem readL_text {P : Nat→Pc} : ∀ (m i u : Nat),m≤u→(∀ j,j < m→(i64 (P (i + j)).params∧i64 (P (i + j)).regs)∧1≤(P (i + j)).n∧(P (i + j)).n≤2000∧∀ k,k < (P (i + j)).n→∀ z ∈ insZs ((P (i + j)).ins k),i64 z) →
  ∃ L,readL u (catB (fun k => pcT (P k)) i m)=some L∧L.length=m∧∀ j,j < m→eqPc (P (i + j)) (nthP L j)
 | 0,i,u,_,_ => by
  refine ⟨[],?_,rfl,fun j hj => absurd hj (Nat.not_lt_zero _)⟩
  cases u <;> simp [readL,catB]
 | m + 1,i,u,hu,h => by
  obtain ⟨v,rfl⟩ : ∃ v,u=v + 1:=⟨u - 1,by omega⟩
  obtain ⟨L,e,hl,hL⟩:=readL_text m (i + 1) v (by omega) fun j hj => by rw [show i + 1 + j=i + (j + 1) by omega]; exact h (j + 1) (by omega)
  obtain ⟨a,b,c,d⟩:=h 0 (by omega)
  simp only [Nat.add_zero] at a b c d
  obtain ⟨q,hq,hpq⟩:=procL_text (catB (fun k => pcT (P k)) (i + 1) m) a b c d
  refine ⟨q :: L,?_,by simp [hl],fun j hj => ?_⟩
  ·rw [catB,readL,if_neg (by simp [pcT_ne]),hq]
   simp only []
   rw [e]; rfl
  ·cases j with
   | zero => exact hpq
   | succ j =>
    have:=hL j (by omega)
    rw [show i + 1 + j=i + (j + 1) by omega] at this
    exact this

/-! ### Right programs have small numbers -/

theorem fromB_iffR {n lo hi : Int} : fromB n lo hi=true ↔ lo≤n∧n≤hi:=by unfold fromB; exact decide_eq_true_iff

theorem ins_small {np : Nat} {par : Nat→Int} {regs : Int} {code : Nat} {i : In} (hr : regs≤40) (hc : code≤2000) (hnp : np≤4) (hpar : ∀ k,k < np→par k≤3) (h : insErr np par regs code i=0) :
  (1≤i.op∧i.op≤13)∧i.n≤3∧(-1000000000≤i.a∧i.a≤1000000000)∧(-1000000000≤i.b∧i.b≤1000000000)∧(-1000000000≤i.c∧i.c≤1000000000)∧∀ k,k < i.n→0≤i.z k∧i.z k≤1000000000:=by
 unfold insErr at h
 by_cases h1 : fromB i.op 1 13=false
 ·rw [if_pos h1] at h; cases h
 rw [if_neg h1] at h
 by_cases h2 : regsB i regs=false
 ·rw [if_pos h2] at h; cases h
 rw [if_neg h2] at h
 by_cases h3 : i.op=7∧fromB i.b 0 ((np : Int) - 1)=false
 ·rw [if_pos h3] at h; cases h
 rw [if_neg h3] at h
 by_cases h4 : restB i code=false
 ·rw [if_pos h4] at h; cases h
 rw [if_neg h4] at h
 by_cases h5 : bareB i=false∨(i.op=7∧¬ (i.n : Int)=par i.b.toNat)
 ·rw [if_pos h5] at h; cases h
 rw [if_neg h5] at h
 by_cases h6 : i.op=7∧argsB i regs=false
 ·rw [if_pos h6] at h; cases h
 have h1:=fromB_iffR.1 (by simpa using h1)
 have h2 : regsB i regs=true:=by simpa using h2
 have h4 : restB i code=true:=by simpa using h4
 have h5a : bareB i=true:=by simpa using (not_or.1 h5).1
 have h5b:=(not_or.1 h5).2
 have hop : i.op=1∨i.op=2∨i.op=3∨i.op=4∨i.op=5∨i.op=6∨i.op=7∨i.op=8∨i.op=9∨i.op=10∨i.op=11∨i.op=12∨i.op=13:=by omega
 unfold regsB at h2
 unfold restB at h4
 unfold bareB at h5a
 rcases hop with e | e | e | e | e | e | e | e | e | e | e | e | e
 all_goals
  rw [e] at h2 h4 h5a h5b h3 h6 h1
  simp [fromB_iffR] at h2 h4 h5a h5b h3 h6
 all_goals try (refine ⟨by omega,by omega,by omega,by omega,by omega,fun k hk => ?_⟩; first | omega)
 ·refine ⟨by omega,by omega,by omega,by omega,by omega,fun k hk => ?_⟩
  have : k=0:=by omega
  subst this; omega
 ·have h3' : 0≤i.b∧i.b≤(np : Int) - 1:=by
   have:=h3
   unfold fromB at this
   simpa using this
  have hp:=hpar i.b.toNat (by omega)
  refine ⟨by omega,by omega,by omega,by omega,by omega,fun k hk => ?_⟩
  unfold argsB at h6
  have:=(of_decide_eq_true h6) k hk
  omega

theorem pcErr_zero {j : Nat} {p : Pc} (h : pcErr j p=0) : (0≤p.params∧p.params≤3)∧(1≤p.regs∧p.params≤p.regs∧p.regs≤40)∧(1≤p.n∧p.n≤2000)∧(j=0→p.params=0):=by
 unfold pcErr at h
 split at h
 ·cases h
 ·next h1 =>
  split at h
  ·cases h
  ·next h2 =>
   rw [not_or,not_or] at h1
   have a:=fromB_iffR.1 (by simpa using h1.1)
   have b:=fromB_iffR.1 (by simpa using h1.2.1)
   refine ⟨a,⟨by omega,by omega,b.2⟩,by omega,fun hj => ?_⟩
   have:=h1.2.2
   omega

theorem code_zero {np : Nat} {P : Nat→Pc} (h : codeErr np P=0) : 1≤np∧np≤4∧(∀ j,j < np→pcErr j (P j)=0)∧∀ j,j < np→bodyCErr np (fun k => (P k).params) (P j)=0:=by
 unfold codeErr at h
 split at h
 ·cases h
 ·next h1 =>
  split at h
  ·next h2 => exact ⟨by omega,by omega,firstErr_is_zero h2,firstErr_is_zero h⟩
  ·next h2 => exact absurd h h2

theorem body_zero {np : Nat} {par : Nat→Int} {p : Pc} (h : bodyCErr np par p=0) : (∀ k,k < p.n→insErr np par p.regs p.n (p.ins k)=0)∧((p.ins (p.n - 1)).op=8∨(p.ins (p.n - 1)).op=12):=by
 unfold bodyCErr at h
 split at h
 ·next h1 =>
  refine ⟨firstErr_is_zero h1,?_⟩
  split at h
  ·assumption
  ·cases h
 ·next h1 => exact absurd h h1

theorem code_ins {np : Nat} {P : Nat→Pc} (h : codeErr np P=0) {j k : Nat} (hj : j < np) (hk : k < (P j).n) :
  (1≤((P j).ins k).op∧((P j).ins k).op≤13)∧((P j).ins k).n≤3∧(-1000000000≤((P j).ins k).a∧((P j).ins k).a≤1000000000)∧(-1000000000≤((P j).ins k).b∧((P j).ins k).b≤1000000000)∧(-1000000000≤((P j).ins k).c∧((P j).ins k).c≤1000000000)∧∀ x,x < ((P j).ins k).n→0≤((P j).ins k).z x∧((P j).ins k).z x≤1000000000:=by
 obtain ⟨h1,h2,h3,h4⟩:=code_zero h
 obtain ⟨a,b,c,d⟩:=pcErr_zero (h3 j hj)
 exact ins_small b.2.2 c.2 h2 (fun k hk => (pcErr_zero (h3 k hk)).1.2) ((body_zero (h4 j hj)).1 k hk)

theorem code_i64 {np : Nat} {P : Nat→Pc} (h : codeErr np P=0) {j k : Nat} (hj : j < np) (hk : k < (P j).n) : ∀ z ∈ insZs ((P j).ins k),i64 z:=by
 obtain ⟨h1,h2,h3,h4,h5,h6⟩:=code_ins h hj hk
 intro z hz
 unfold insZs at hz
 simp only [List.mem_cons,List.mem_map,List.mem_range] at hz
 unfold i64
 rcases hz with rfl | rfl | rfl | rfl | ⟨x,hx,rfl⟩
 ·omega
 ·omega
 ·omega
 ·omega
 ·have:=h6 x hx; omega

/-- What is printed is read as it is. -/
theorem read_text {np : Nat} {P : Nat→Pc} (h : codeErr np P=0) (u : Nat) (hu : 4≤u) : ∃ L,readL u (progT P np)=some L∧eqC np L.length P (nthP L):=by
 obtain ⟨h1,h2,h3,h4⟩:=code_zero h
 obtain ⟨L,e,hl,hL⟩:=readL_text (P:=P) np 0 u (by omega) fun j hj => by
  rw [Nat.zero_add]
  obtain ⟨a,b,c,d⟩:=pcErr_zero (h3 j hj)
  exact ⟨⟨by unfold i64; omega,by unfold i64; omega⟩,c.1,c.2,fun k hk => code_i64 h hj hk⟩
 exact ⟨L,e,hl.symm,fun k hk => by have:=hL k hk; rw [Nat.zero_add] at this; exact this⟩

/-! ### Like programs have like errors -/

theorem argsB_congr {a b : In} {regs : Int} (h : eqIn a b) : argsB a regs=argsB b regs:=by
 obtain ⟨_,_,_,_,h5,h6⟩:=h
 unfold argsB
 rw [decide_eq_decide]
 constructor
 ·intro h k hk; rw [← h6 k (by omega)]; exact h k (by omega)
 ·intro h k hk; rw [h6 k hk]; exact h k (by omega)

theorem insErr_congr {np : Nat} {par par2 : Nat→Int} {regs : Int} {code : Nat} {a b : In} (h : eqIn a b) (hp : ∀ k,k < np→par k=par2 k) : insErr np par regs code a=insErr np par2 regs code b:=by
 have ha:=argsB_congr (regs:=regs) h
 obtain ⟨h1,h2,h3,h4,h5,h6⟩:=h
 have e1 : regsB a regs=regsB b regs:=by unfold regsB; rw [h1,h2,h3,h4]
 have e2 : restB a code=restB b code:=by
  unfold restB
  rw [h1,h3,h4,h5]
  by_cases e : a.n=1
  ·rw [h6 0 (by omega)]
  ·have e' : ¬ b.n=1:=by omega
   simp [e']
 have e3 : bareB a=bareB b:=by unfold bareB; rw [h1,h2,h3,h4,h5]
 unfold insErr
 rw [e1,e2,e3,ha,h1,h3,h5]
 by_cases c : b.op=7∧fromB b.b 0 ((np : Int) - 1)=false
 ·rw [if_pos c,if_pos c]
 ·rw [if_neg c,if_neg c]
  have : (b.op=7∧¬ (b.n : Int)=par b.b.toNat) ↔ (b.op=7∧¬ (b.n : Int)=par2 b.b.toNat):=by
   by_cases o : b.op=7
   ·have hf : 0≤b.b∧b.b≤(np : Int) - 1:=fromB_iffR.1 (by
     have:=not_and.1 c o
     simpa using this)
    rw [hp b.b.toNat (by omega)]
   ·simp [o]
  simp only [this]

theorem pcErr_congr {j : Nat} {p q : Pc} (h : eqPc p q) : pcErr j p=pcErr j q:=by
 obtain ⟨h1,h2,h3,_⟩:=h
 unfold pcErr
 rw [h1,h2,h3]

theorem bodyCErr_congr {np : Nat} {par par2 : Nat→Int} {p q : Pc} (h : eqPc p q) (hp : ∀ k,k < np→par k=par2 k) (hn : 1≤p.n) : bodyCErr np par p=bodyCErr np par2 q:=by
 obtain ⟨h1,h2,h3,h4⟩:=h
 have e : firstErr p.n (fun k => insErr np par p.regs p.n (p.ins k))=firstErr q.n (fun k => insErr np par2 q.regs q.n (q.ins k)):=by
  rw [← h3,← h2]
  exact firstErr_congr fun k hk => insErr_congr (h4 k hk) hp
 unfold bodyCErr
 rw [e]
 have : (p.ins (p.n - 1)).op=(q.ins (q.n - 1)).op:=by rw [← h3]; exact (h4 (p.n - 1) (by omega)).1
 rw [this]

theorem codeErr_congr {np nq : Nat} {P Q : Nat→Pc} (h : eqC np nq P Q) : codeErr np P=codeErr nq Q:=by
 obtain ⟨rfl,h⟩:=h
 unfold codeErr
 have e1 : firstErr np (fun j => pcErr j (P j))=firstErr np (fun j => pcErr j (Q j)):=firstErr_congr fun j hj => pcErr_congr (h j hj)
 rw [e1]
 split
 ·rfl
 ·split
  ·next hz =>
   refine firstErr_congr fun j hj => ?_
   have hn:=(pcErr_zero (firstErr_is_zero hz j hj)).2.2.1.1
   exact bodyCErr_congr (h j hj) (fun k hk => (h k hk).1) (by rw [(h j hj).2.2.1]; exact hn)
  ·rfl

end Go.Proofs.YtfaggdkiffhdbaaGreatDoor
