/- Images of states in plain Lean: what is written, how a row of numbers is read. No Go in it. -/
import Derived.Test.YtfaokaohhchdhaaGreatDoorPart15
namespace Go.Proofs.YtfaokaohhchdhaaGreatDoor
def pairZs (L : List (Int×Int)) : List Int:=L.flatMap fun v => [v.1,v.2]
def rowZs (L : List (Int×Int)) : List Int:=(L.length : Int) :: pairZs L
def frZs (f : Fm) : List Int:=f.proc :: f.pos :: f.to :: rowZs f.regs
def staZs (S : Sta) : List Int:=S.st :: S.wh :: (S.fs.length : Int) :: (S.fs.flatMap frZs ++ (S.cs.length : Int) :: S.cs.flatMap rowZs)
structure SnRd where
 l : List Int
 t : Bool
def snN (r : SnRd) : Int×SnRd:=match r.l with
 | [] => (0,⟨[],true⟩)
 | a :: l => (a,⟨l,r.t⟩)
def snC (most : Nat) (r : SnRd) : Nat×SnRd :=
 if (snN r).1 < 0∨(most : Int) < (snN r).1 then (0,⟨(snN r).2.l,true⟩) else ((snN r).1.toNat,(snN r).2)
def snVals : Nat→SnRd→List (Int×Int)×SnRd
 | 0,r => ([],r)
 | k + 1,r => ((snVals k r).1 ++ [((snN (snVals k r).2).1,(snN (snN (snVals k r).2).2).1)],(snN (snN (snVals k r).2).2).2)
def snRow (most : Nat) (r : SnRd) : List (Int×Int)×SnRd:=snVals (snC most r).1 (snC most r).2
def snFrm (r : SnRd) : Fm×SnRd :=
 (⟨(snN r).1,(snN (snN r).2).1,(snRow 40 (snN (snN (snN r).2).2).2).1,(snN (snN (snN r).2).2).1⟩,(snRow 40 (snN (snN (snN r).2).2).2).2)
def snFrs : Nat→SnRd→List Fm×SnRd
 | 0,r => ([],r)
 | k + 1,r => ((snFrs k r).1 ++ [(snFrm (snFrs k r).2).1],(snFrm (snFrs k r).2).2)
def snCls : Nat→SnRd→List (List (Int×Int))×SnRd
 | 0,r => ([],r)
 | k + 1,r => ((snCls k r).1 ++ [(snRow 4 (snCls k r).2).1],(snRow 4 (snCls k r).2).2)
def snSta1 (r : SnRd) : Nat×SnRd:=snC 10 (snN (snN r).2).2
def snSta2 (r : SnRd) : Nat×SnRd:=snC 24 (snFrs (snSta1 r).1 (snSta1 r).2).2
def snSta (r : SnRd) : Sta×SnRd :=
 (⟨(snFrs (snSta1 r).1 (snSta1 r).2).1,(snCls (snSta2 r).1 (snSta2 r).2).1,(snN r).1,(snN (snN r).2).1⟩,(snCls (snSta2 r).1 (snSta2 r).2).2)
theorem snN_cons (a : Int) (l : List Int) (t : Bool) : snN ⟨a :: l,t⟩=(a,⟨l,t⟩):=rfl
theorem snC_cons {most n : Nat} (h : n≤most) (l : List Int) (t : Bool) : snC most ⟨(n : Int) :: l,t⟩=(n,⟨l,t⟩):=by
 unfold snC
 rw [snN_cons,if_neg (by simp only []; omega)]
 simp
theorem snVals_text (L : List (Int×Int)) (z : List Int) (t : Bool) : ∀ k,k≤L.length→snVals k ⟨pairZs L ++ z,t⟩=(L.take k,⟨pairZs (L.drop k) ++ z,t⟩)
 | 0,_ => by simp [snVals]
 | k + 1,hk => by
  rw [snVals,snVals_text L z t k (by omega)]
  have hd : L.drop k=L[k] :: L.drop (k + 1):=List.drop_eq_getElem_cons (by omega)
  simp only [hd]
  have e : pairZs (L[k] :: L.drop (k + 1)) ++ z=L[k].1 :: L[k].2 :: (pairZs (L.drop (k + 1)) ++ z):=rfl
  rw [e,snN_cons]
  simp only [snN_cons]
  rw [List.take_succ_eq_append_getElem (by omega)]
theorem snRow_text {most : Nat} {L : List (Int×Int)} (h : L.length≤most) (z : List Int) (t : Bool) : snRow most ⟨rowZs L ++ z,t⟩=(L,⟨z,t⟩):=by
 unfold snRow
 have e : rowZs L ++ z=(L.length : Int) :: (pairZs L ++ z):=rfl
 rw [e,snC_cons h]
 simp only []
 rw [snVals_text L z t _ (Nat.le_refl _)]
 simp [pairZs]
theorem snFrm_text {f : Fm} (h : f.regs.length≤40) (z : List Int) (t : Bool) : snFrm ⟨frZs f ++ z,t⟩=(f,⟨z,t⟩):=by
 unfold snFrm
 have e : frZs f ++ z=f.proc :: f.pos :: f.to :: (rowZs f.regs ++ z):=rfl
 rw [e]
 simp only [snN_cons]
 rw [snRow_text h]
theorem snFrs_text (L : List Fm) (z : List Int) (t : Bool) (h : ∀ f,f ∈ L→f.regs.length≤40) : ∀ k,k≤L.length→snFrs k ⟨L.flatMap frZs ++ z,t⟩=(L.take k,⟨(L.drop k).flatMap frZs ++ z,t⟩)
 | 0,_ => by simp [snFrs]
 | k + 1,hk => by
  rw [snFrs,snFrs_text L z t h k (by omega)]
  have hd : L.drop k=L[k] :: L.drop (k + 1):=List.drop_eq_getElem_cons (by omega)
  simp only [hd]
  have e : (L[k] :: L.drop (k + 1)).flatMap frZs ++ z=frZs L[k] ++ ((L.drop (k + 1)).flatMap frZs ++ z):=by rw [List.flatMap_cons,List.append_assoc]
  rw [e,snFrm_text (h _ (List.getElem_mem _))]
  simp only []
  rw [List.take_succ_eq_append_getElem (by omega)]
theorem snCls_text (L : List (List (Int×Int))) (z : List Int) (t : Bool) (h : ∀ f,f ∈ L→f.length≤4) : ∀ k,k≤L.length→snCls k ⟨L.flatMap rowZs ++ z,t⟩=(L.take k,⟨(L.drop k).flatMap rowZs ++ z,t⟩)
 | 0,_ => by simp [snCls]
 | k + 1,hk => by
  rw [snCls,snCls_text L z t h k (by omega)]
  have hd : L.drop k=L[k] :: L.drop (k + 1):=List.drop_eq_getElem_cons (by omega)
  simp only [hd]
  have e : (L[k] :: L.drop (k + 1)).flatMap rowZs ++ z=rowZs L[k] ++ ((L.drop (k + 1)).flatMap rowZs ++ z):=by rw [List.flatMap_cons,List.append_assoc]
  rw [e,snRow_text (h _ (List.getElem_mem _))]
  simp only []
  rw [List.take_succ_eq_append_getElem (by omega)]
structure SnSmall (S : Sta) : Prop where
 f : S.fs.length≤10
 r : ∀ f,f ∈ S.fs→f.regs.length≤40
 c : S.cs.length≤24
 v : ∀ c,c ∈ S.cs→c.length≤4
theorem snSta_text {S : Sta} (h : SnSmall S) (z : List Int) (t : Bool) : snSta ⟨staZs S ++ z,t⟩=(S,⟨z,t⟩):=by
 have e : staZs S ++ z=S.st :: S.wh :: (S.fs.length : Int) :: (S.fs.flatMap frZs ++ ((S.cs.length : Int) :: (S.cs.flatMap rowZs ++ z))):=by unfold staZs; simp [List.append_assoc]
 have h1 : snSta1 ⟨staZs S ++ z,t⟩=(S.fs.length,⟨S.fs.flatMap frZs ++ ((S.cs.length : Int) :: (S.cs.flatMap rowZs ++ z)),t⟩):=by
  unfold snSta1
  rw [e]
  simp only [snN_cons]
  rw [snC_cons h.f]
 have h2 : snFrs S.fs.length ⟨S.fs.flatMap frZs ++ ((S.cs.length : Int) :: (S.cs.flatMap rowZs ++ z)),t⟩=(S.fs,⟨(S.cs.length : Int) :: (S.cs.flatMap rowZs ++ z),t⟩):=by
  rw [snFrs_text _ _ _ h.r _ (Nat.le_refl _)]
  simp
 have h3 : snSta2 ⟨staZs S ++ z,t⟩=(S.cs.length,⟨S.cs.flatMap rowZs ++ z,t⟩):=by
  unfold snSta2
  rw [h1]
  simp only [h2]
  rw [snC_cons h.c]
 have h4 : snCls S.cs.length ⟨S.cs.flatMap rowZs ++ z,t⟩=(S.cs,⟨z,t⟩):=by
  rw [snCls_text _ _ _ h.v _ (Nat.le_refl _)]
  simp
 unfold snSta
 rw [h1,h3]
 simp only [h2,h4]
 rw [e]
 simp only [snN_cons]
theorem snN_back {r : SnRd} {a : Int} {z : List Int} (h : snN r=(a,⟨z,false⟩)) : r=⟨a :: z,false⟩:=by
 obtain ⟨l,t⟩:=r
 cases l with
 | nil => unfold snN at h; simp at h
 | cons b l => unfold snN at h; simp at h; obtain ⟨rfl,rfl,rfl⟩:=h; rfl
theorem snC_back {most n : Nat} {r : SnRd} {z : List Int} (h : snC most r=(n,⟨z,false⟩)) : r=⟨(n : Int) :: z,false⟩∧n≤most:=by
 unfold snC at h
 split at h
 ·simp at h
 ·rename_i hh
  obtain ⟨h1,h2⟩:=Prod.mk.inj h
  have e : snN r=((n : Int),⟨z,false⟩):=Prod.ext (by omega) h2
  exact ⟨snN_back e,by omega⟩
theorem snVals_back : ∀ {k : Nat} {r : SnRd} {L : List (Int×Int)} {z : List Int},snVals k r=(L,⟨z,false⟩)→r=⟨pairZs L ++ z,false⟩∧L.length=k
 | 0,r,L,z,h => by
  unfold snVals at h
  obtain ⟨rfl,rfl⟩:=Prod.mk.inj h
  exact ⟨rfl,rfl⟩
 | k + 1,r,L,z,h => by
  rw [snVals] at h
  obtain ⟨h1,h2⟩:=Prod.mk.inj h
  have e2:=snN_back (r:=(snN (snVals k r).2).2) (a:=(snN (snN (snVals k r).2).2).1) (z:=z) (Prod.ext rfl h2)
  have e1:=snN_back (r:=(snVals k r).2) (a:=(snN (snVals k r).2).1) (z:=(snN (snN (snVals k r).2).2).1 :: z) (Prod.ext rfl e2)
  obtain ⟨e0,hl⟩:=snVals_back (k:=k) (r:=r) (L:=(snVals k r).1) (z:=(snN (snVals k r).2).1 :: (snN (snN (snVals k r).2).2).1 :: z) (Prod.ext rfl e1)
  rw [← h1]
  exact ⟨e0.trans (congrArg (fun l => SnRd.mk l false) (by simp [pairZs])),by simp [hl]⟩
theorem snRow_back {most : Nat} {r : SnRd} {L : List (Int×Int)} {z : List Int} (h : snRow most r=(L,⟨z,false⟩)) : r=⟨rowZs L ++ z,false⟩∧L.length≤most:=by
 unfold snRow at h
 obtain ⟨e1,hl⟩:=snVals_back h
 obtain ⟨e0,hm⟩:=snC_back (n:=(snC most r).1) (z:=pairZs L ++ z) (Prod.ext rfl e1)
 refine ⟨?_,by omega⟩
 rw [e0,← hl]
 rfl
theorem snFrm_back {r : SnRd} {f : Fm} {z : List Int} (h : snFrm r=(f,⟨z,false⟩)) : r=⟨frZs f ++ z,false⟩∧f.regs.length≤40:=by
 unfold snFrm at h
 obtain ⟨h1,h2⟩:=Prod.mk.inj h
 obtain ⟨e3,hl⟩:=snRow_back (L:=(snRow 40 (snN (snN (snN r).2).2).2).1) (z:=z) (Prod.ext rfl h2)
 have e2:=snN_back (a:=(snN (snN (snN r).2).2).1) (Prod.ext rfl e3)
 have e1:=snN_back (a:=(snN (snN r).2).1) (Prod.ext rfl e2)
 have e0:=snN_back (a:=(snN r).1) (Prod.ext rfl e1)
 rw [← h1]
 exact ⟨e0,hl⟩
theorem snFrs_back : ∀ {k : Nat} {r : SnRd} {L : List Fm} {z : List Int},snFrs k r=(L,⟨z,false⟩)→r=⟨L.flatMap frZs ++ z,false⟩∧L.length=k∧∀ f,f ∈ L→f.regs.length≤40
 | 0,r,L,z,h => by
  unfold snFrs at h
  obtain ⟨rfl,rfl⟩:=Prod.mk.inj h
  exact ⟨rfl,rfl,fun f hf => by cases hf⟩
 | k + 1,r,L,z,h => by
  rw [snFrs] at h
  obtain ⟨h1,h2⟩:=Prod.mk.inj h
  obtain ⟨e1,hl1⟩:=snFrm_back (f:=(snFrm (snFrs k r).2).1) (z:=z) (Prod.ext rfl h2)
  obtain ⟨e0,hl,hm⟩:=snFrs_back (k:=k) (r:=r) (L:=(snFrs k r).1) (Prod.ext rfl e1)
  rw [← h1]
  refine ⟨e0.trans (congrArg (fun l => SnRd.mk l false) (by simp)),by simp [hl],fun f hf => ?_⟩
  ·rcases List.mem_append.1 hf with hf | hf
   ·exact hm f hf
   ·rw [List.mem_singleton] at hf; subst hf; exact hl1
theorem snCls_back : ∀ {k : Nat} {r : SnRd} {L : List (List (Int×Int))} {z : List Int},snCls k r=(L,⟨z,false⟩)→r=⟨L.flatMap rowZs ++ z,false⟩∧L.length=k∧∀ f,f ∈ L→f.length≤4
 | 0,r,L,z,h => by
  unfold snCls at h
  obtain ⟨rfl,rfl⟩:=Prod.mk.inj h
  exact ⟨rfl,rfl,fun f hf => by cases hf⟩
 | k + 1,r,L,z,h => by
  rw [snCls] at h
  obtain ⟨h1,h2⟩:=Prod.mk.inj h
  obtain ⟨e1,hl1⟩:=snRow_back (L:=(snRow 4 (snCls k r).2).1) (z:=z) (Prod.ext rfl h2)
  obtain ⟨e0,hl,hm⟩:=snCls_back (k:=k) (r:=r) (L:=(snCls k r).1) (Prod.ext rfl e1)
  rw [← h1]
  refine ⟨e0.trans (congrArg (fun l => SnRd.mk l false) (by simp)),by simp [hl],fun f hf => ?_⟩
  ·rcases List.mem_append.1 hf with hf | hf
   ·exact hm f hf
   ·rw [List.mem_singleton] at hf; subst hf; exact hl1
theorem snSta_back {r : SnRd} {S : Sta} {z : List Int} (h : snSta r=(S,⟨z,false⟩)) : r=⟨staZs S ++ z,false⟩∧SnSmall S:=by
 unfold snSta at h
 obtain ⟨h1,h2⟩:=Prod.mk.inj h
 obtain ⟨e4,hl4,hm4⟩:=snCls_back (L:=(snCls (snSta2 r).1 (snSta2 r).2).1) (z:=z) (Prod.ext rfl h2)
 obtain ⟨e3,hb3⟩:=snC_back (most:=24) (n:=(snSta2 r).1) (r:=(snFrs (snSta1 r).1 (snSta1 r).2).2) (Prod.ext rfl e4)
 obtain ⟨e2,hl2,hm2⟩:=snFrs_back (L:=(snFrs (snSta1 r).1 (snSta1 r).2).1) (Prod.ext rfl e3)
 obtain ⟨e1,hb1⟩:=snC_back (most:=10) (n:=(snSta1 r).1) (r:=(snN (snN r).2).2) (Prod.ext rfl e2)
 have e0:=snN_back (a:=(snN (snN r).2).1) (Prod.ext rfl e1)
 have e:=snN_back (a:=(snN r).1) (Prod.ext rfl e0)
 rw [← h1]
 refine ⟨?_,⟨by simp only []; omega,hm2,by simp only []; omega,hm4⟩⟩
 refine e.trans ?_
 unfold staZs
 simp only [hl2,hl4]
 simp [List.append_assoc]
theorem staZs_inj {S T : Sta} (hS : SnSmall S) (hT : SnSmall T) (h : staZs S=staZs T) : S=T:=by
 have h1:=snSta_text hS [] false
 have h2:=snSta_text hT [] false
 rw [h,h2] at h1
 exact (Prod.mk.inj h1).1.symm
theorem torn_less {S : Sta} (hS : SnSmall S) {k : Nat} (hk : k < (staZs S).length) : ¬ ∃ T,snSta ⟨(staZs S).take k,false⟩=(T,⟨[],false⟩):=by
 rintro ⟨T,h⟩
 obtain ⟨e,hT⟩:=snSta_back h
 rw [List.append_nil] at e
 have e' : (staZs S).take k=staZs T:=by injection e
 have h1:=snSta_text hT ((staZs S).drop k) false
 rw [← e',List.take_append_drop] at h1
 have h2:=snSta_text hS [] false
 rw [List.append_nil,h1] at h2
 have h3:=(Prod.mk.inj h2).2
 have h4 : (staZs S).drop k=[]:=by injection h3
 have:=congrArg List.length h4
 rw [List.length_drop] at this
 simp at this
 omega
theorem torn_more {S : Sta} (hS : SnSmall S) (m : Int) : snSta ⟨staZs S ++ [m],false⟩=(S,⟨[m],false⟩):=snSta_text hS [m] false
def snNone : Sta:=⟨[],[],0,0⟩
open Classical in
noncomputable def unpErr (np : Nat) (P : Nat→Pc) (l : List Int) : Int :=
 if 1200 < l.length then 2
 else if (snSta ⟨l,false⟩).2.t=true∨¬ (snSta ⟨l,false⟩).2.l=[] then 8
 else if ¬ vmErr np P (snSta ⟨l,false⟩).1=0 then vmErr np P (snSta ⟨l,false⟩).1
 else if ¬ (snSta ⟨l,false⟩).1=sweptS (snSta ⟨l,false⟩).1 then 4
 else 0
open Classical in
noncomputable def unpSta (np : Nat) (P : Nat→Pc) (l : List Int) : Sta:=if unpErr np P l=0 then (snSta ⟨l,false⟩).1 else snNone
theorem pairZs_len (L : List (Int×Int)) : (pairZs L).length=2 * L.length:=by
 induction L with
 | nil => rfl
 | cons a L ih => show (a.1 :: a.2 :: pairZs L).length=_; simp only [List.length_cons,ih]; omega
theorem flat_le {α : Type} {f : α→List Int} {c : Nat} : ∀ {L : List α},(∀ x,x ∈ L→(f x).length≤c)→(L.flatMap f).length≤L.length * c
 | [],_ => by simp
 | a :: L,h => by
  have ih:=flat_le (f:=f) (c:=c) (L:=L) fun x hx => h x (List.mem_cons_of_mem _ hx)
  have h0:=h a (List.mem_cons_self ..)
  rw [List.flatMap_cons,List.length_append,List.length_cons,Nat.succ_mul]
  omega
theorem staZs_len {S : Sta} (h : SnSmall S) : (staZs S).length≤1060:=by
 have h1 : (S.fs.flatMap frZs).length≤S.fs.length * 84:=flat_le fun f hf => by
  have:=h.r f hf
  show (f.proc :: f.pos :: f.to :: (f.regs.length : Int) :: pairZs f.regs).length≤84
  simp only [List.length_cons,pairZs_len]; omega
 have h2 : (S.cs.flatMap rowZs).length≤S.cs.length * 9:=flat_le fun c hc => by
  have:=h.v c hc
  show ((c.length : Int) :: pairZs c).length≤9
  simp only [List.length_cons,pairZs_len]; omega
 have:=h.f
 have:=h.c
 unfold staZs
 simp only [List.length_cons,List.length_append]
 have : S.fs.length * 84≤10 * 84:=Nat.mul_le_mul_right _ (by omega)
 have : S.cs.length * 9≤24 * 9:=Nat.mul_le_mul_right _ (by omega)
 omega
section
variable {np : Nat} {P : Nat→Pc}
theorem StaOK.small (hc : CodeOK np P) {S : Sta} (h : StaOK np P S) : SnSmall S:=by
 refine ⟨h.few,fun f hf => ?_,h.cn,fun c hcs => h.cells.hi c hcs⟩
 obtain ⟨i,hi,rfl⟩:=List.mem_iff_getElem.1 hf
 have k:=h.frames i hi
 have e : fmAt S.fs i=S.fs[i]:=by unfold fmAt; simp [hi]
 rw [e] at k
 have hpn : S.fs[i].proc.toNat < np:=by have:=k.p0; have:=k.p1; omega
 have:=hc.r1 _ hpn
 have:=k.len
 omega
theorem unp_image (hc : CodeOK np P) (he : codeErr np P=0) {S : Sta} (h : StaOK np P S) : unpErr np P (staZs (sweptS S))=0∧unpSta np P (staZs (sweptS S))=sweptS S:=by
 have ho:=h.swept hc
 have hs:=ho.small hc
 have h1:=snSta_text hs [] false
 rw [List.append_nil] at h1
 have hl:=staZs_len hs
 have hz : unpErr np P (staZs (sweptS S))=0:=by
  unfold unpErr
  rw [if_neg (by omega),h1]
  simp only []
  rw [if_neg (by simp)]
  have hv : vmErr np P (sweptS S)=0:=by unfold vmErr; rw [if_pos he]; exact staErr_zero.2 ho
  rw [if_neg (by simp [hv]),if_neg (by simp [sweptS_twice hc h])]
 refine ⟨hz,?_⟩
 unfold unpSta
 rw [if_pos hz,h1]
theorem unp_less (hc : CodeOK np P) {S : Sta} (h : StaOK np P S) {k : Nat} (hk : k < (staZs (sweptS S)).length) : unpErr np P ((staZs (sweptS S)).take k)=8:=by
 have hs:=(h.swept hc).small hc
 have hl:=staZs_len hs
 have ht:=torn_less hs hk
 unfold unpErr
 rw [if_neg (by rw [List.length_take]; omega),if_pos]
 by_cases h1 : (snSta ⟨(staZs (sweptS S)).take k,false⟩).2.t=true
 ·exact Or.inl h1
 ·right
  intro h2
  refine ht ⟨_,Prod.ext rfl ?_⟩
  cases hr : (snSta ⟨(staZs (sweptS S)).take k,false⟩).2 with
  | mk l t => rw [hr] at h1 h2; simp only [] at h1 h2; subst h2; simp only [Bool.not_eq_true] at h1; rw [h1]
theorem unp_more (hc : CodeOK np P) {S : Sta} (h : StaOK np P S) (m : Int) : unpErr np P (staZs (sweptS S) ++ [m])=8:=by
 have hs:=(h.swept hc).small hc
 have hl:=staZs_len hs
 unfold unpErr
 rw [if_neg (by rw [List.length_append]; simp only [List.length_cons,List.length_nil]; omega),torn_more hs,if_pos (by simp)]
theorem same_image (hc : CodeOK np P) {S T : Sta} (h : StaOK np P S) (h' : StaOK np P T) : staZs (sweptS S)=staZs (sweptS T) ↔ sweptS S=sweptS T :=
 ⟨staZs_inj ((h.swept hc).small hc) ((h'.swept hc).small hc),fun e => by rw [e]⟩
end
end Go.Proofs.YtfaokaohhchdhaaGreatDoor
