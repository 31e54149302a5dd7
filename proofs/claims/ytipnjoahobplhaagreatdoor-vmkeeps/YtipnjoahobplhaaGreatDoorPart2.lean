/- A step keeps a state right; a run too; what is said is no more than the steps. No Go in it. -/
import Derived.Test.YtipnjoahobplhaaGreatDoorVmRight
import Derived.Test.YtipnjoahobplhaaGreatDoorChecked
import Derived.WalkKit
import Derived.ProofKit
import Derived.OpenShut
import Derived.WalkSmall
import Derived.Deep.QuietTactic
import Derived.BigQuiet
import Derived.Test.YtipnjoahobplhaaGreatDoorPart0
namespace Go.Proofs.YtipnjoahobplhaaGreatDoor
section
variable {np : Nat} {P : Nat→Pc} {S : Sta}
theorem fmAt_lt {fs gs : List Fm} {k : Nat} (h : k < fs.length) : fmAt (fs ++ gs) k = fmAt fs k:=by
 unfold fmAt
 rw [List.getD_eq_getElem?_getD,List.getElem?_append_left h,List.getD_eq_getElem?_getD]
theorem fmAt_end {fs : List Fm} {f : Fm} : fmAt (fs ++ [f]) fs.length = f:=by
 unfold fmAt
 rw [List.getD_eq_getElem?_getD,List.getElem?_append_right (Nat.le_refl _)]; simp
theorem fmAt_take {fs : List Fm} {n k : Nat} (h : k < n) : fmAt (fs.take n) k = fmAt fs k:=by
 unfold fmAt
 rw [List.getD_eq_getElem?_getD,List.getElem?_take_of_lt h,List.getD_eq_getElem?_getD]
theorem ahead_lt {fs gs : List Fm} {k : Nat} (h : k ≤ fs.length) : ahead (fs ++ gs) k = ahead fs k:=by
 unfold ahead
 split
 ·rfl
 ·rw [fmAt_lt (by omega)]
theorem ahead_take {fs : List Fm} {n k : Nat} (h : k < n) : ahead (fs.take n) k = ahead fs k:=by
 unfold ahead
 split
 ·rfl
 ·rw [fmAt_take (by omega)]
theorem topF_setPos (S : Sta) (k : Int) (hn : ¬ S.fs.length = 0) : topF (setPos S k) = ⟨(topF S).proc,k,(topF S).regs,(topF S).to⟩:=by
 unfold topF setPos withTop
 rw [List.length_set,fmAt_set (by omega),if_pos rfl]; rfl
theorem argRegs_len (n : Nat) (i : In) (L : List (Int × Int)) : (argRegs n i L).length = n:=by simp [argRegs]
theorem argRegs_ok {n : Nat} {i : In} {L : List (Int × Int)} {nc : Nat} (h : rowOK nc L) : rowOK nc (argRegs n i L):=fun v hv => by
 obtain ⟨k,_,rfl⟩:=List.mem_map.1 hv
 split
 ·exact h.at _
 ·rfl
theorem StaOK.call (hc : CodeOK np P) (h : StaOK np P S) (hn : ¬ S.fs.length = 0) (h10 : ¬ S.fs.length = 10) {i : In} (hb : 0 ≤ i.b∧i.b < np) (ha : 0 ≤ i.a∧i.a < (procS P S).regs) : StaOK np P (callS P S i):=by
 have hf:=h.few
 have ht:=h.top hn
 have hlen : (callS P S i).fs.length = S.fs.length + 1:=by simp [callS]
 have hs1 : ¬ S.st = 1:=fun e => hn (h.fin e)
 refine ⟨h.s0,h.s1,h.w0,h.w1,h.wz,fun e => absurd e hs1,fun _ => by omega,by omega,h.cn,h.cells,fun k hk => ?_⟩
 show FrOK np P (ahead (S.fs ++ [_]) k) S.cs.length (fmAt (S.fs ++ [_]) k)
 by_cases e : k < S.fs.length
 ·rw [ahead_lt (by omega),fmAt_lt e]; exact h.frames k e
 ·obtain rfl : k = S.fs.length:=by omega
  rw [ahead_lt (Nat.le_refl _),fmAt_end]
  have hbn : i.b.toNat < np:=by omega
  have r0:=hc.r0 _ hbn
  have c0:=hc.c0 _ hbn
  refine ⟨hb.1,hb.2,Int.le_refl _,by show (0 : Int) < _; simp only []; omega,ha.1,?_,?_,argRegs_ok ht.vals⟩
  ·show i.a < ((ahead S.fs S.fs.length : Nat) : Int)
   unfold ahead
   rw [if_neg hn]
   have:=ht.len
   have h2:=ha.2
   unfold procS at h2
   show i.a < ((topF S).regs.length : Int)
   omega
  ·show ((argRegs _ _ _).length : Int) = _
   rw [argRegs_len]; simp only []; omega
theorem StaOK.pop (h : StaOK np P S) (hn : ¬ S.fs.length - 1 = 0) : StaOK np P (popS S):=by
 have hlen : (popS S).fs.length = S.fs.length - 1:=by simp [popS]
 have hf:=h.few
 have hs1 : ¬ S.st = 1:=fun e => hn (by have:=h.fin e; omega)
 refine ⟨h.s0,h.s1,h.w0,h.w1,h.wz,fun e => absurd e hs1,fun _ => by omega,by omega,h.cn,h.cells,fun k hk => ?_⟩
 show FrOK np P (ahead (S.fs.take _) k) S.cs.length (fmAt (S.fs.take _) k)
 rw [ahead_take (by omega),fmAt_take (by omega)]
 exact h.frames k (by omega)
theorem StaOK.back (h : StaOK np P S) (hs : S.st = 0) {v : Int × Int} (hv : chk v.1 v.2 S.cs.length = 0) : StaOK np P (backS S v):=by
 unfold backS
 split
 ·have:=h.wz (by omega)
  exact ⟨by show (0 : Int) ≤ 1; decide,by show (1 : Int) ≤ 3; decide,h.w0,h.w1,fun _ => this,fun _ => rfl,fun e => absurd rfl e,Nat.zero_le _,h.cn,h.cells,fun k hk => absurd hk (Nat.not_lt_zero _)⟩
 ·rename_i hn
  exact (h.pop hn).setReg (by simp [popS]; omega) _ hv
theorem opM_ok {op : Int} {a b v : Int × Int} {nc : Nat} (h : opM op a b = some v) : chk v.1 v.2 nc = 0:=by
 unfold opM at h
 split at h
 ·injection h with h; subst h
  refine chk_num ?_
  split <;> decide
 ·split at h
  ·cases h
  ·split at h
   ·injection h with h; subst h
    refine chk_num ?_
    split <;> decide
   ·split at h
    ·rename_i hr
     injection h with h; subst h
     exact chk_num hr
    ·cases h
theorem StaOK.room (hc : CodeOK np P) (h : StaOK np P S) : StaOK np P (roomS S):=by
 unfold roomS; split
 ·exact h.swept hc
 ·exact h
theorem roomS_fs (S : Sta) : (roomS S).fs.length = S.fs.length:=by
 unfold roomS; split
 ·simp [sweptS]
 ·rfl
theorem roomS_st (S : Sta) : (roomS S).st = S.st:=by
 unfold roomS; split <;> rfl
theorem valueM_right (hc : CodeOK np P) (h : StaOK np P S) (hn : ¬ S.fs.length = 0) {i : In} (hi : InOK np (fun k => (P k).params) (procS P S).regs (procS P S).n i) {x : Sta × (Int × Int)} (e : valueM S i = some x) : StaOK np P x.1∧¬ x.1.fs.length = 0∧x.1.st = S.st∧chk x.2.1 x.2.2 x.1.cs.length = 0:=by
 have ht:=h.top hn
 unfold valueM at e
 split at e
 ·rename_i o
  injection e with e; subst e
  exact ⟨h,hn,rfl,chk_num (hi.num o)⟩
 split at e
 ·injection e with e; subst e
  exact ⟨h,hn,rfl,ht.vals.at _⟩
 split at e
 ·cases hv : opM (i.z 0) (regAt (topF S).regs i.b) (regAt (topF S).regs i.c) with
  | none => rw [hv] at e; cases e
  | some v =>
   rw [hv] at e
   injection e with e; subst e
   exact ⟨h,hn,rfl,opM_ok hv⟩
 split at e
 ·rename_i o
  split at e
  ·cases e
  ·rename_i h24
   injection e with e; subst e
   have hr:=h.room hc
   have hl : (withCell (roomS S) i.b).cs.length = (roomS S).cs.length + 1:=by simp [withCell]
   refine ⟨hr.withCell (hi.new o) h24,?_,roomS_st S,chk_at ⟨?_,?_⟩⟩
   ·show ¬ (roomS S).fs.length = 0
    rw [roomS_fs]; exact hn
   ·show (0 : Int) ≤ ((roomS S).cs.length : Int); omega
   ·show ((roomS S).cs.length : Int) < _
    rw [hl]; omega
 split at e
 ·injection e with e; subst e
  refine ⟨h,hn,rfl,?_⟩
  show chk (fieldOf _ _ _).1 (fieldOf _ _ _).2 S.cs.length = 0
  unfold fieldOf
  by_cases hk : (regAt (topF S).regs i.b).2.toNat < S.cs.length
  ·exact (h.cells.vals _ (getD_mem hk)).at _
  ·rw [getD_none (by omega)]; rfl
 ·cases e
theorem doM_right (hc : CodeOK np P) (h : StaOK np P S) (hs : S.st = 0) {i : In} (hi : InOK np (fun k => (P k).params) (procS P S).regs (procS P S).n i) {S' : Sta} {l : List Int} {b : Bool} (e : doM P S i = some (S',l,b)) : StaOK np P S'∧(l = [] ∨ (i.op = 9∧∃ x,l = [x])):=by
 have hn : ¬ S.fs.length = 0:=h.unfin (by omega)
 have ht:=h.top hn
 unfold doM at e
 split at e
 ·split at e
  ·injection e with e; injection e with e1 e2; injection e2 with e2 e3; subst e1 e2
   exact ⟨h.setField (ht.vals.at _),Or.inl rfl⟩
  ·cases e
 split at e
 ·rename_i o
  split at e
  ·cases e
  ·rename_i h10
   injection e with e; injection e with e1 e2; injection e2 with e2 e3; subst e1 e2
   exact ⟨h.call hc hn h10 ⟨(hi.cal o).1,(hi.cal o).2.1⟩ (hi.ra (by omega) (by omega)),Or.inl rfl⟩
 split at e
 ·injection e with e; injection e with e1 e2; injection e2 with e2 e3; subst e1 e2
  exact ⟨h.back hs (ht.vals.at _),Or.inl rfl⟩
 split at e
 ·rename_i o
  split at e
  ·injection e with e; injection e with e1 e2; injection e2 with e2 e3; subst e1 e2
   exact ⟨h,Or.inr ⟨o,_,rfl⟩⟩
  ·cases e
 split at e
 ·injection e with e; injection e with e1 e2; injection e2 with e2 e3; subst e1 e2
  exact ⟨h,Or.inl rfl⟩
 split at e
 ·split at e
  ·rename_i hk
   injection e with e; injection e with e1 e2; injection e2 with e2 e3; subst e1 e2
   have:=ht.vals.at i.a
   rw [hk] at this
   exact ⟨h.status (Or.inr (Or.inr ⟨rfl,chk_int this⟩)) (by omega),Or.inl rfl⟩
  ·cases e
 split at e
 ·rename_i o
  injection e with e; injection e with e1 e2; injection e2 with e2 e3; subst e1 e2
  have:=hi.jmp (Or.inl o)
  exact ⟨h.setPos hn this.1 this.2,Or.inl rfl⟩
 split at e
 ·rename_i o
  injection e with e; injection e with e1 e2; injection e2 with e2 e3; subst e1 e2
  have:=hi.jmp (Or.inr o)
  refine ⟨?_,Or.inl rfl⟩
  split
  ·exact h.setPos hn this.1 this.2
  ·exact h
 ·cases hv : valueM S i with
  | none => rw [hv] at e; cases e
  | some x =>
   rw [hv] at e
   injection e with e; injection e with e1 e2; injection e2 with e2 e3; subst e1 e2
   obtain ⟨v1,v2,v3,v4⟩:=valueM_right hc h hn hi hv
   exact ⟨v1.setReg v2 _ v4,Or.inl rfl⟩
theorem nextPos_in (hc : CodeOK np P) (h : StaOK np P S) (hn : ¬ S.fs.length = 0) : 0 ≤ nextPos P S∧nextPos P S < (procS P S).n:=by
 have ht:=h.top hn
 have:=hc.c0 _ (show (topF S).proc.toNat < np by have:=ht.p0; have:=ht.p1; omega)
 have:=ht.a0
 unfold nextPos procS
 omega
theorem insS_right (hc : CodeOK np P) (h : StaOK np P S) (hn : ¬ S.fs.length = 0) : InOK np (fun k => (P k).params) (procS P S).regs (procS P S).n (insS P S):=by
 have ht:=h.top hn
 have:=ht.a0
 have:=ht.a1
 exact hc.ins _ (by have:=ht.p0; have:=ht.p1; omega) _ (by show (topF S).pos.toNat < _; omega)
theorem procS_setPos (S : Sta) (k : Int) (hn : ¬ S.fs.length = 0) : procS P (setPos S k) = procS P S:=by
 unfold procS; rw [topF_setPos S k hn]
theorem stepM_right {R : Rn} (hc : CodeOK np P) (h : StaOK np P R.s) (hs : R.s.st = 0) : StaOK np P (stepM P R).s∧R.said.length ≤ (stepM P R).said.length∧(stepM P R).said.length ≤ R.said.length + 1∧((stepM P R).said.length = R.said.length ∨ (insS P R.s).op = 9):=by
 have hn : ¬ R.s.fs.length = 0:=h.unfin (by omega)
 obtain ⟨n0,n1⟩:=nextPos_in hc h hn
 have hp:=h.setPos hn n0 n1
 unfold stepM
 cases hv : doM P (setPos R.s (nextPos P R.s)) (insS P R.s) with
 | none =>
  refine ⟨h.status (Or.inr (Or.inl ⟨rfl,h.wz (by omega)⟩)) (by omega),?_,?_,Or.inl rfl⟩ <;> simp
 | some x =>
  obtain ⟨S',l,b⟩:=x
  obtain ⟨h1,h2⟩:=doM_right hc hp hs (by rw [procS_setPos _ _ hn]; exact insS_right hc h hn) hv
  refine ⟨h1,?_⟩
  rcases h2 with rfl | ⟨o,x,rfl⟩
  ·simp
  ·simp [o]
theorem itM_right (hc : CodeOK np P) {R : Rn} (h : StaOK np P R.s) (hl : R.said.length ≤ 40) : ∀ k,(∀ j,j < k→goesB P (itM P R j) = true)→StaOK np P (itM P R k).s∧(itM P R k).said.length ≤ 40
 | 0,_ => ⟨h,hl⟩
 | k + 1,hj => by
  obtain ⟨h1,h2⟩:=itM_right hc h hl k fun j hjk => hj j (by omega)
  have hg:=hj k (by omega)
  unfold goesB at hg
  rw [Bool.and_eq_true,Bool.and_eq_true,Bool.or_eq_true,decide_eq_true_iff,decide_eq_true_iff] at hg
  obtain ⟨i1,i2,i3,i4⟩:=stepM_right hc h1 hg.1
  refine ⟨i1,?_⟩
  show (stepM P (itM P R k)).said.length ≤ 40
  rcases hg.2.2 with e | e
  ·omega
  ·have : ¬ (insS P (itM P R k).s).op = 9:=by simpa using e
   omega
end
def idx (R : List Int) (x : Int) : Int:=(R.idxOf x : Int)
theorem idx_inj {R : List Int} {x y : Int} (hx : x ∈ R) (hy : y ∈ R) (h : idx R x = idx R y) : x = y:=by
 unfold idx at h
 have h1:=List.idxOf_lt_length_of_mem hx
 have h2:=List.idxOf_lt_length_of_mem hy
 have e1:=List.getElem_idxOf h1
 have e2:=List.getElem_idxOf h2
 have e : R.idxOf x = R.idxOf y:=by omega
 rw [← e1,← e2]
 simp only [e]
theorem idx_at {R : List Int} (hn : R.Nodup) {i : Nat} (hi : i < R.length) : idx R (R.getD i 0) = i:=by
 unfold idx
 rw [List.getD_eq_getElem?_getD,List.getElem?_eq_getElem hi,Option.getD_some,hn.idxOf_getElem i hi]
theorem meet1_map {R A : List Int} (hA : ∀ x,x ∈ A→x ∈ R) {k z z' : Int} (hz : k = 2→z ∈ R∧z' = idx R z) : meet1 (A.map (idx R)) k z' = (meet1 A k z).map (idx R):=by
 by_cases hk : k = 2
 ·obtain ⟨h1,rfl⟩:=hz hk
  by_cases hm : z ∈ A
  ·rw [meet1_old hm,meet1_old (List.mem_map.2 ⟨z,hm,rfl⟩)]
  ·rw [meet1_new hk hm,meet1_new hk,List.map_append]; · rfl
   intro h
   obtain ⟨y,hy,e⟩:=List.mem_map.1 h
   exact hm (idx_inj (hA y hy) h1 e ▸ hy)
 ·rw [meet1_no hk,meet1_no hk]
theorem meet1_in {R A : List Int} (hA : ∀ x,x ∈ A→x ∈ R) {k z : Int} (hz : k = 2→z ∈ R) : ∀ x,x ∈ meet1 A k z→x ∈ R:=fun x hx => by
 rcases mem_meet1.1 hx with h | ⟨h1,rfl⟩
 ·exact hA x h
 ·exact hz h1
theorem meetTo_in {R A : List Int} (hA : ∀ x,x ∈ A→x ∈ R) {k z : Nat→Int} : ∀ {i : Nat},(∀ j,j < i→k j = 2→z j ∈ R)→∀ x,x ∈ meetTo i k z A→x ∈ R
 | 0,_ => hA
 | i + 1,h => meet1_in (meetTo_in hA fun j hj => h j (by omega)) (h i (by omega))
theorem meetTo_map {R A : List Int} (hA : ∀ x,x ∈ A→x ∈ R) {k z k' z' : Nat→Int} : ∀ {i : Nat},(∀ j,j < i→k' j = k j)→(∀ j,j < i→k j = 2→z j ∈ R∧z' j = idx R (z j))→meetTo i k' z' (A.map (idx R)) = (meetTo i k z A).map (idx R)
 | 0,_,_ => rfl
 | i + 1,hk,h => by
  show meet1 (meetTo i k' z' (A.map (idx R))) (k' i) (z' i) = (meet1 (meetTo i k z A) (k i) (z i)).map (idx R)
  rw [meetTo_map hA (fun j hj => hk j (by omega)) (fun j hj => h j (by omega)),hk i (by omega)]
  exact meet1_map (meetTo_in hA fun j hj e => (h j (by omega) e).1) (h i (by omega))
section
variable {n : Nat} {m : Nat→Nat} {K Z : Nat→Nat→Int} {f : Nat} {kf zf : Nat→Int}
theorem rt_more (t : Nat) : ∀ d,∃ S,rt m K Z f kf zf (t + d) = rt m K Z f kf zf t ++ S
 | 0 => ⟨[],by simp⟩
 | d + 1 => by
  obtain ⟨S,h⟩:=rt_more t d
  obtain ⟨S',h'⟩:=rt_prefix (m:=m) (K:=K) (Z:=Z) (f:=f) (kf:=kf) (zf:=zf) (t + d)
  exact ⟨S ++ S',by rw [show t + (d + 1) = t + d + 1 by omega,h',h,List.append_assoc]⟩
theorem rt_of_reached (hv : Valid n m K Z f kf zf) (t : Nat) : ∃ S,reached n m K Z f kf zf = rt m K Z f kf zf t ++ S:=by
 by_cases h : t ≤ n
 ·obtain ⟨S,e⟩:=rt_more (m:=m) (K:=K) (Z:=Z) (f:=f) (kf:=kf) (zf:=zf) t (n - t)
  rw [show t + (n - t) = n by omega] at e
  exact ⟨S,e⟩
 ·have hl:=(rt_good hv n).len
  have:=rt_stays (m:=m) (K:=K) (Z:=Z) (f:=f) (kf:=kf) (zf:=zf) (t:=n) (by omega) (t - n)
  rw [show n + (t - n) = t by omega] at this
  exact ⟨[],by rw [this,List.append_nil]; rfl⟩
theorem rt_all (hv : Valid n m K Z f kf zf) {t : Nat} (ht : (reached n m K Z f kf zf).length ≤ t) : rt m K Z f kf zf t = reached n m K Z f kf zf:=by
 obtain ⟨S,e⟩:=rt_of_reached hv t
 by_cases h : t ≤ n
 ·refine (rt_done h ?_).symm
  have : (reached n m K Z f kf zf).length = (rt m K Z f kf zf t).length + S.length:=by rw [e,List.length_append]
  omega
 ·have hl:=(rt_good hv n).len
  have:=rt_stays (m:=m) (K:=K) (Z:=Z) (f:=f) (kf:=kf) (zf:=zf) (t:=n) (by omega) (t - n)
  rw [show n + (t - n) = t by omega] at this
  exact this
theorem rt_map (hv : Valid n m K Z f kf zf) {m' : Nat→Nat} {K' Z' : Nat→Nat→Int} {kf' zf' : Nat→Int} {R : List Int} (hR : R = reached n m K Z f kf zf)
  (hf : ∀ j,j < f→kf' j = kf j) (hz : ∀ j,j < f→kf j = 2→zf' j = idx R (zf j))
  (hm : ∀ i,i < R.length→m' i = m (R.getD i 0).toNat) (hK : ∀ i,i < R.length→∀ j,K' i j = K (R.getD i 0).toNat j) (hZ : ∀ i,i < R.length→∀ j,j < m' i→K' i j = 2→Z' i j = idx R (Z (R.getD i 0).toNat j)) :
  ∀ t,rt m' K' Z' f kf' zf' t = (rt m K Z f kf zf t).map (idx R)
 | 0 => by
  have:=meetTo_map (R:=R) (A:=[]) (fun x h => absurd h List.not_mem_nil) (k:=kf) (z:=zf) (k':=kf') (z':=zf') (i:=f) hf (fun j hj e => ⟨by rw [hR]; exact reached_from hj e,hz j hj e⟩)
  exact this
 | t + 1 => by
  have ih:=rt_map hv hR hf hz hm hK hZ t
  obtain ⟨S,e⟩:=rt_of_reached hv t
  rw [← hR] at e
  have hg : Good n R:=by rw [hR]; exact rt_good hv n
  have hA : ∀ x,x ∈ rt m K Z f kf zf t→x ∈ R:=fun x hx => by rw [e]; exact List.mem_append_left _ hx
  show (if t < (rt m' K' Z' f kf' zf' t).length then stepR m' K' Z' t (rt m' K' Z' f kf' zf' t) else rt m' K' Z' f kf' zf' t) = (if t < (rt m K Z f kf zf t).length then stepR m K Z t (rt m K Z f kf zf t) else rt m K Z f kf zf t).map (idx R)
  rw [ih,List.length_map]
  by_cases h : t < (rt m K Z f kf zf t).length
  ·rw [if_pos h,if_pos h]
   have hl : t < R.length:=by rw [e,List.length_append]; omega
   have e0 : (rt m K Z f kf zf t).getD t 0 = R.getD t 0:=by rw [e,getD_prefix h]
   have e1 : ((rt m K Z f kf zf t).map (idx R)).getD t 0 = (t : Int):=by
    rw [List.getD_eq_getElem?_getD,List.getElem?_map]
    have : (rt m K Z f kf zf t)[t]? = some (R.getD t 0):=by
     rw [← e0,List.getD_eq_getElem?_getD,List.getElem?_eq_getElem h]; rfl
    rw [this]
    exact idx_at hg.1 hl
   unfold stepR
   rw [e0,e1,Int.toNat_natCast,hm t hl]
   have hmem : (((R.getD t 0).toNat : Nat) : Int) ∈ reached n m K Z f kf zf:=by
    obtain ⟨c,_,hc⟩:=hg.at hl
    have hx : R.getD t 0 ∈ R:=getD_mem hl
    rw [hc] at hx ⊢
    rw [Int.toNat_natCast,← hR]; exact hx
   refine meetTo_map hA (fun j _ => hK t hl j) fun j hj e2 => ⟨?_,hZ t hl j (by rw [hm t hl]; exact hj) (by rw [hK t hl]; exact e2)⟩
   rw [hR]
   rw [hR] at hj e2
   rw [hR] at hmem
   exact reached_closed hv hmem hj e2
  ·rw [if_neg h,if_neg h]
end
theorem renum_kind (R : List Int) (v : Int × Int) : (renum R v).1 = v.1:=by
 unfold renum; split
 ·rename_i h; exact h.symm
 ·rfl
theorem renum_num (R : List Int) {v : Int × Int} (h : v.1 = 2) : (renum R v).2 = idx R v.2:=by unfold renum; rw [if_pos h]; rfl
theorem getD_map {α β : Type} (g : α→β) (L : List α) (i : Nat) (d : α) (e : β) (h : i < L.length) : (L.map g).getD i e = g (L.getD i d):=by
 rw [List.getD_eq_getElem?_getD,List.getElem?_map,List.getElem?_eq_getElem h,List.getD_eq_getElem?_getD,List.getElem?_eq_getElem h]; rfl
theorem fstAt_renum (R : List Int) (L : List (Int × Int)) (i : Nat) : fstAt (L.map (renum R)) i = fstAt L i:=by
 unfold fstAt
 by_cases h : i < L.length
 ·rw [getD_map (renum R) L i (0,0) (0,0) h,renum_kind]
 ·rw [getD_none (by simp; omega),getD_none (by omega)]
theorem sndAt_renum (R : List Int) {L : List (Int × Int)} {i : Nat} (h : i < L.length) (hk : fstAt L i = 2) : sndAt (L.map (renum R)) i = idx R (sndAt L i):=by
 unfold sndAt
 rw [getD_map (renum R) L i (0,0) (0,0) h,renum_num R hk]
theorem regsOf_renum (R : List Int) : ∀ fs : List Fm,regsOf (fs.map (renumF R)) = (regsOf fs).map (renum R)
 | [] => rfl
 | f :: r => by
  have:=regsOf_renum R r
  unfold regsOf at this ⊢
  simp only [List.map_cons,List.flatten_cons,List.map_append,this]
  rfl
section
variable {np : Nat} {P : Nat→Pc} {S : Sta}
theorem reached_swept (hc : CodeOK np P) (h : StaOK np P S) : reachedS (sweptS S) = (reachedS S).map (idx (reachedS S)):=by
 have hv:=h.valid hc
 have hg:=h.reached hc
 have hcl:=sweptS_cells S
 have hrow : ∀ i,i < (reachedS S).length→(sweptS S).cs.getD i [] = (S.cs.getD ((reachedS S).getD i 0).toNat []).map (renum (reachedS S)):=fun i hi => getD_map _ _ i 0 [] hi
 have hT:=rt_map hv (m':=cLen (sweptS S).cs) (K':=cK (sweptS S).cs) (Z':=cZ (sweptS S).cs) (kf':=fstAt (regsOf (sweptS S).fs)) (zf':=sndAt (regsOf (sweptS S).fs)) (R:=reachedS S) rfl
  (fun j _ => by show fstAt (regsOf (S.fs.map _)) j = _; rw [regsOf_renum,fstAt_renum])
  (fun j hj e => by show sndAt (regsOf (S.fs.map _)) j = _; rw [regsOf_renum,sndAt_renum _ hj e])
  (fun i hi => by unfold cLen; rw [hrow i hi,List.length_map])
  (fun i hi j => by unfold cK; rw [hrow i hi,fstAt_renum])
  (fun i hi j hj e => by
   unfold cZ
   unfold cK at e
   unfold cLen at hj
   rw [hrow i hi,List.length_map] at hj
   rw [hrow i hi,fstAt_renum] at e
   rw [hrow i hi,sndAt_renum _ hj e])
  (reachedS S).length
 have hl : (regsOf (sweptS S).fs).length = (regsOf S.fs).length:=by
  show (regsOf (S.fs.map _)).length = _
  rw [regsOf_renum,List.length_map]
 show reached (sweptS S).cs.length (cLen (sweptS S).cs) (cK (sweptS S).cs) (cZ (sweptS S).cs) (regsOf (sweptS S).fs).length (fstAt (regsOf (sweptS S).fs)) (sndAt (regsOf (sweptS S).fs)) = _
 rw [hcl,hl]
 show rt (cLen (sweptS S).cs) (cK (sweptS S).cs) (cZ (sweptS S).cs) (regsOf S.fs).length (fstAt (regsOf (sweptS S).fs)) (sndAt (regsOf (sweptS S).fs)) (reachedS S).length = _
 have hall : rt (cLen S.cs) (cK S.cs) (cZ S.cs) (regsOf S.fs).length (fstAt (regsOf S.fs)) (sndAt (regsOf S.fs)) (reachedS S).length = reachedS S:=rt_all hv (Nat.le_refl _)
 rw [hT,hall]
theorem idx_list {R : List Int} (hn : R.Nodup) {i : Nat} (hi : i < R.length) : (R.map (idx R)).getD i 0 = i:=by
 rw [getD_map (idx R) R i 0 0 hi,idx_at hn hi]
theorem idx_nodup {R : List Int} (hn : R.Nodup) : (R.map (idx R)).Nodup:=by
 exact List.pairwise_map.2 (hn.imp_of_mem fun ha hb hne e => hne (idx_inj ha hb e))
theorem idx_idx {R : List Int} (hn : R.Nodup) {x : Int} (hx : x ∈ R) : idx (R.map (idx R)) (idx R x) = idx R x:=by
 have h1:=List.idxOf_lt_length_of_mem hx
 have e : (R.map (idx R)).getD (R.idxOf x) 0 = idx R x:=idx_list hn h1
 have:=idx_at (idx_nodup hn) (i:=R.idxOf x) (by simpa using h1)
 rw [e] at this
 exact this
theorem renum_twice {R : List Int} (hn : R.Nodup) {v : Int × Int} (hv : v.1 = 2→v.2 ∈ R) : renum (R.map (idx R)) (renum R v) = renum R v:=by
 by_cases e : v.1 = 2
 ·have e1 : renum R v = (2,idx R v.2):=by unfold renum; rw [if_pos e]; rfl
  rw [e1]
  unfold renum
  rw [if_pos rfl]
  have:=idx_idx hn (hv e)
  show ((2 : Int),idx (R.map (idx R)) (idx R v.2)) = _
  rw [this]
 ·have e1 : renum R v = v:=by unfold renum; rw [if_neg e]
  rw [e1]; unfold renum; rw [if_neg e]
theorem sweptS_twice (hc : CodeOK np P) (h : StaOK np P S) : sweptS (sweptS S) = sweptS S:=by
 have hg:=h.reached hc
 have hR:=reached_swept hc h
 have hfs : ∀ f,f ∈ S.fs→renumF ((reachedS S).map (idx (reachedS S))) (renumF (reachedS S) f) = renumF (reachedS S) f:=fun f hf => by
  unfold renumF
  congr 1
  rw [List.map_map]
  exact List.map_congr_left fun v hv => renum_twice hg.1 fun e => reg_reached hf hv e
 have e1 : (sweptS (sweptS S)).fs = (sweptS S).fs:=by
  show (S.fs.map _).map (renumF (reachedS (sweptS S))) = S.fs.map _
  rw [hR,List.map_map]
  exact List.map_congr_left hfs
 have e2 : (sweptS (sweptS S)).cs = (sweptS S).cs:=by
  show (reachedS (sweptS S)).map (fun n => ((sweptS S).cs.getD n.toNat []).map (renum (reachedS (sweptS S)))) = (reachedS S).map _
  rw [hR,List.map_map]
  refine List.map_congr_left fun x hx => ?_
  have h1:=List.idxOf_lt_length_of_mem hx
  have hrow : (sweptS S).cs.getD (idx (reachedS S) x).toNat [] = (S.cs.getD x.toNat []).map (renum (reachedS S)):=by
   have:=getD_map (fun n : Int => (S.cs.getD n.toNat []).map (renum (reachedS S))) (reachedS S) ((reachedS S).idxOf x) 0 [] h1
   have e0 : (reachedS S).getD ((reachedS S).idxOf x) 0 = x:=by
    rw [List.getD_eq_getElem?_getD,List.getElem?_eq_getElem h1]; exact List.getElem_idxOf h1
   rw [e0] at this
   exact this
  show ((sweptS S).cs.getD (idx (reachedS S) x).toNat []).map (renum _) = _
  rw [hrow,List.map_map]
  exact List.map_congr_left fun v hv => renum_twice hg.1 fun e => field_reached hc h hx hv e
 show Sta.mk _ _ _ _ = Sta.mk _ _ _ _
 exact congr (congr (congr (congrArg Sta.mk e1) e2) rfl) rfl
end
/-! ### What is reached -/
section
variable {np : Nat} {P : Nat→Pc} {S T : Sta} {r : Int→Int→Prop}
end
section
variable {np : Nat} {P : Nat→Pc} {S T : Sta} {r : Int→Int→Prop}
end
theorem goesB_ready {P : Nat→Pc} {R : Rn} (h : goesB P R = true) : R.s.st = 0:=by
 unfold goesB at h
 rw [Bool.and_eq_true,decide_eq_true_iff] at h
 exact h.1
section
variable {np : Nat} {P : Nat→Pc} {S T : Sta}
end
section
variable {np : Nat} {P : Nat→Pc} {S : Sta}
theorem swept_fs (S : Sta) : (sweptS S).fs.length = S.fs.length:=by simp [sweptS]
theorem swept_frame {k : Nat} (h : k < S.fs.length) : fmAt (sweptS S).fs k = renumF (reachedS S) (fmAt S.fs k):=fmAt_map h
theorem swept_few (hc : CodeOK np P) (h : StaOK np P S) : (sweptS S).cs.length ≤ S.cs.length:=by
 rw [sweptS_cells]; exact (h.reached hc).len
theorem swept_reg (hc : CodeOK np P) (h : StaOK np P S) {k j : Nat} (hk : k < S.fs.length) (hj : j < (fmAt S.fs k).regs.length) :
  fstAt (fmAt (sweptS S).fs k).regs j = fstAt (fmAt S.fs k).regs j∧(¬ fstAt (fmAt S.fs k).regs j = 2→sndAt (fmAt (sweptS S).fs k).regs j = sndAt (fmAt S.fs k).regs j) ∧
   (fstAt (fmAt S.fs k).regs j = 2→∃ a b : Nat,sndAt (fmAt S.fs k).regs j = (a : Int)∧a < S.cs.length∧sndAt (fmAt (sweptS S).fs k).regs j = (b : Int)∧b < (sweptS S).cs.length∧cLen (sweptS S).cs b = cLen S.cs a):=by
 rw [swept_frame hk]
 obtain ⟨v,hv⟩ : ∃ v,(fmAt S.fs k).regs.getD j (0,0) = v:=⟨_,rfl⟩
 have hmem : v ∈ (fmAt S.fs k).regs:=hv ▸ getD_mem hj
 have e1 : ((renumF (reachedS S) (fmAt S.fs k)).regs.getD j (0,0)) = renum (reachedS S) v:=by rw [← hv]; exact getD_map _ _ _ _ _ hj
 unfold fstAt sndAt
 rw [e1,hv]
 refine ⟨renum_kind _ _,fun hne => ?_,fun h2 => ?_⟩
 ·unfold renum; rw [if_neg hne]
 ·have hr:=reg_reached (getD_mem (d:=noFm) hk) hmem h2
  have hg:=(h.reached hc).2 _ hr
  have hi : (reachedS S).idxOf v.2 < (reachedS S).length:=List.idxOf_lt_length_of_mem hr
  refine ⟨v.2.toNat,(reachedS S).idxOf v.2,by omega,by omega,?_,by rw [sweptS_cells]; exact hi,?_⟩
  ·rw [renum_num _ h2]; rfl
  ·unfold cLen
   have : (sweptS S).cs.getD ((reachedS S).idxOf v.2) [] = (S.cs.getD v.2.toNat []).map (renum (reachedS S)):=by
    show ((reachedS S).map fun n => (S.cs.getD n.toNat []).map (renum (reachedS S))).getD _ [] = _
    rw [getD_map (fun n : Int => (S.cs.getD n.toNat []).map (renum (reachedS S))) (reachedS S) _ 0 [] hi]
    congr 2
    rw [List.getD_eq_getElem?_getD,List.getElem?_eq_getElem hi,List.getElem_idxOf hi]
    rfl
   rw [this,List.length_map]
end
end Go.Proofs.YtipnjoahobplhaaGreatDoor
namespace Go.Proofs.YtipnjoahobplhaaGreatDoor
open Go.ChangeShapes Go.WideShapes Go.ChangeAt Go.RowKit
def IntsAt (w : World) (v : Value) (n : Nat) (z : Nat→Int) : Prop :=
 ∃ a cap,v = .slice a n cap∧(n = 0 ∨ ∃ b o,a = some ⟨b,o,none⟩∧b < w.heap.size∧∀ i,i < n→w.cell? ⟨b,o + i,none⟩ = some (.int .i64 (z i)))
def ValsAt (w : World) (v : Value) (n : Nat) (k z : Nat→Int) : Prop :=
 ∃ a cap,v = .slice a n cap∧n ≤ 9223372036854775807∧(n = 0 ∨ ∃ b o,a = some ⟨b,o,none⟩∧b < w.heap.size∧∀ i,i < n→w.cell? ⟨b,o + i * 2,none⟩ = some (.int .i64 (k i))∧w.cell? ⟨b,o + i * 2 + 1,none⟩ = some (.int .i64 (z i)))
def CellsAt (w : World) (v : Value) (n : Nat) (m : Nat→Nat) (K Z : Nat→Nat→Int) : Prop :=
 ∃ a cap,v = .slice a n cap∧n ≤ 9223372036854775807∧(n = 0 ∨ ∃ b o,a = some ⟨b,o,none⟩∧b < w.heap.size∧∀ i,i < n→∃ u,w.cell? ⟨b,o + i,none⟩ = some u∧ValsAt w u (m i) (K i) (Z i))
theorem cell_lt {w : World} {a : Addr} {v : Value} (h : w.cell? a = some v) : a.block < w.heap.size:=by
 unfold World.cell? at h
 by_cases hb : a.block < w.heap.size
 ·exact hb
 ·simp [Array.getElem?_eq_none (Nat.le_of_not_lt hb)] at h
theorem ValsAt.below {w w' : World} {v : Value} {n : Nat} {k z : Nat→Int} (h : ValsAt w v n k z) (hb : Below w.heap.size w w') : ValsAt w' v n k z:=by
 obtain ⟨a,cap,rfl,hn,h | ⟨b,o,rfl,hlt,hc⟩⟩:=h
 ·exact ⟨a,cap,rfl,hn,Or.inl h⟩
 ·exact ⟨_,cap,rfl,hn,Or.inr ⟨b,o,rfl,Nat.lt_of_lt_of_le hlt hb.size,fun i hi => by rw [hb.cell hlt,hb.cell hlt]; exact hc i hi⟩⟩
theorem CellsAt.below {w w' : World} {v : Value} {n : Nat} {m : Nat→Nat} {K Z : Nat→Nat→Int} (h : CellsAt w v n m K Z) (hb : Below w.heap.size w w') : CellsAt w' v n m K Z:=by
 obtain ⟨a,cap,rfl,hn,h | ⟨b,o,rfl,hlt,hc⟩⟩:=h
 ·exact ⟨a,cap,rfl,hn,Or.inl h⟩
 ·refine ⟨_,cap,rfl,hn,Or.inr ⟨b,o,rfl,Nat.lt_of_lt_of_le hlt hb.size,fun i hi => ?_⟩⟩
  obtain ⟨u,hu,hv⟩:=hc i hi
  exact ⟨u,by rw [hb.cell hlt]; exact hu,hv.below hb⟩
theorem below_alloc (w : World) (o : Obj) : Below w.heap.size w (w.alloc o):=(Below.refl _ _).alloc (Nat.le_refl _) o
theorem below_drewN' (w : World) (n : Nat) : Below w.heap.size w (w.drewN n):=below_drewN (Below.refl _ _) n
theorem ValsAt.drewN {w : World} {v : Value} {n : Nat} {k z : Nat→Int} (h : ValsAt w v n k z) (m : Nat) : ValsAt (w.drewN m) v n k z:=h.below (below_drewN' w m)
theorem below_step {a b c : World} (h : Below a.heap.size a b) (k : Below b.heap.size b c) : Below a.heap.size a c:=h.trans (k.mono h.size)
end Go.Proofs.YtipnjoahobplhaaGreatDoor
namespace Go.Proofs.YtipnjoahobplhaaGreatDoor
open Go.RowKit
def eqB (n1 n2 : Nat) (z1 z2 : Nat→Int) : Bool:=decide (n1 = n2∧∀ i,i < n1→z1 i = z2 i)
theorem eqB_iff {n1 n2 : Nat} {z1 z2 : Nat→Int} : eqB n1 n2 z1 z2 = true ↔ n1 = n2∧∀ i,i < n1→z1 i = z2 i:=by
 unfold eqB; exact decide_eq_true_iff
theorem eqB_yes {n : Nat} {z1 z2 : Nat→Int} (h : ∀ i,i < n→z1 i = z2 i) : eqB n n z1 z2 = true:=eqB_iff.2 ⟨rfl,h⟩
theorem eqB_no {n1 n2 : Nat} {z1 z2 : Nat→Int} {k : Nat} (hk : k < n1) (h : ¬ z1 k = z2 k) : eqB n1 n2 z1 z2 = false:=by
 rw [Bool.eq_false_iff]; intro e; exact h ((eqB_iff.1 e).2 k hk)
theorem eqB_len {n1 n2 : Nat} {z1 z2 : Nat→Int} (h : ¬ n1 = n2) : eqB n1 n2 z1 z2 = false:=by
 rw [Bool.eq_false_iff]; intro e; exact h (eqB_iff.1 e).1
theorem ret_bool {a b : Bool} (h : a = b) : Ending.returned (.bool a) = .returned (.bool b):=by rw [h]
theorem upTo {p : Nat→Prop} {k : Nat} (h : ∀ j,j < k→p j) (hk : p k) : ∀ j,j < k + 1→p j:=fun j hj =>
 if e : j < k then h j e else by
  have : j = k:=by omega
  subst this; exact hk
end Go.Proofs.YtipnjoahobplhaaGreatDoor
