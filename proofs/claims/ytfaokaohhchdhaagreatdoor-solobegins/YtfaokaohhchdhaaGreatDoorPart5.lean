/- A step keeps a state right; a run too; what is said is no more than the steps. No Go in it. -/
import Derived.Test.YtfaokaohhchdhaaGreatDoorVmRight
import Derived.Test.YtfaokaohhchdhaaGreatDoorPart0
import Derived.Test.YtfaokaohhchdhaaGreatDoorPart3
import Derived.Deep.Light
namespace Go.Proofs.YtfaokaohhchdhaaGreatDoor
section
variable {np : Nat} {P : Nat→Pc} {S : Sta}
theorem fmAt_lt {fs gs : List Fm} {k : Nat} (h : k < fs.length) : fmAt (fs ++ gs) k = fmAt fs k:=by
 unfold fmAt
 rw [List.getD_eq_getElem?_getD,List.getElem?_append_left h,List.getD_eq_getElem?_getD]
theorem fmAt_end {fs : List Fm} {f : Fm} : fmAt (fs ++ [f]) fs.length = f:=by
 unfold fmAt
 rw [List.getD_eq_getElem?_getD,List.getElem?_append_right (Nat.le_refl _)]; simp
theorem fmAt_take {fs : List Fm} {n k : Nat} (h : k < n) : fmAt (fs.take n) k = fmAt fs k:=by
 unfold fmAt
 rw [List.getD_eq_getElem?_getD,List.getElem?_take_of_lt h,List.getD_eq_getElem?_getD]
theorem ahead_lt {fs gs : List Fm} {k : Nat} (h : k ≤ fs.length) : ahead (fs ++ gs) k = ahead fs k:=by
 unfold ahead
 split
 ·rfl
 ·rw [fmAt_lt (by omega)]
theorem ahead_take {fs : List Fm} {n k : Nat} (h : k < n) : ahead (fs.take n) k = ahead fs k:=by
 unfold ahead
 split
 ·rfl
 ·rw [fmAt_take (by omega)]
theorem topF_setPos (S : Sta) (k : Int) (hn : ¬ S.fs.length = 0) : topF (setPos S k) = ⟨(topF S).proc,k,(topF S).regs,(topF S).to⟩:=by
 unfold topF setPos withTop
 rw [List.length_set,fmAt_set (by omega),if_pos rfl]; rfl
theorem argRegs_len (n : Nat) (i : In) (L : List (Int × Int)) : (argRegs n i L).length = n:=by simp [argRegs]
theorem argRegs_ok {n : Nat} {i : In} {L : List (Int × Int)} {nc : Nat} (h : rowOK nc L) : rowOK nc (argRegs n i L):=fun v hv => by
 obtain ⟨k,_,rfl⟩:=List.mem_map.1 hv
 split
 ·exact h.at _
 ·rfl
theorem StaOK.call (hc : CodeOK np P) (h : StaOK np P S) (hn : ¬ S.fs.length = 0) (h10 : ¬ S.fs.length = 10) {i : In} (hb : 0 ≤ i.b∧i.b < np) (ha : 0 ≤ i.a∧i.a < (procS P S).regs) : StaOK np P (callS P S i):=by
 have hf:=h.few
 have ht:=h.top hn
 have hlen : (callS P S i).fs.length = S.fs.length + 1:=by simp [callS]
 have hs1 : ¬ S.st = 1:=fun e => hn (h.fin e)
 refine ⟨h.s0,h.s1,h.w0,h.w1,h.wz,fun e => absurd e hs1,fun _ => by omega,by omega,h.cn,h.cells,fun k hk => ?_⟩
 show FrOK np P (ahead (S.fs ++ [_]) k) S.cs.length (fmAt (S.fs ++ [_]) k)
 by_cases e : k < S.fs.length
 ·rw [ahead_lt (by omega),fmAt_lt e]; exact h.frames k e
 ·obtain rfl : k = S.fs.length:=by omega
  rw [ahead_lt (Nat.le_refl _),fmAt_end]
  have hbn : i.b.toNat < np:=by omega
  have r0:=hc.r0 _ hbn
  have c0:=hc.c0 _ hbn
  refine ⟨hb.1,hb.2,Int.le_refl _,by show (0 : Int) < _; simp only []; omega,ha.1,?_,?_,argRegs_ok ht.vals⟩
  ·show i.a < ((ahead S.fs S.fs.length : Nat) : Int)
   unfold ahead
   rw [if_neg hn]
   have:=ht.len
   have h2:=ha.2
   unfold procS at h2
   show i.a < ((topF S).regs.length : Int)
   omega
  ·show ((argRegs _ _ _).length : Int) = _
   rw [argRegs_len]; simp only []; omega
theorem StaOK.pop (h : StaOK np P S) (hn : ¬ S.fs.length - 1 = 0) : StaOK np P (popS S):=by
 have hlen : (popS S).fs.length = S.fs.length - 1:=by simp [popS]
 have hf:=h.few
 have hs1 : ¬ S.st = 1:=fun e => hn (by have:=h.fin e; omega)
 refine ⟨h.s0,h.s1,h.w0,h.w1,h.wz,fun e => absurd e hs1,fun _ => by omega,by omega,h.cn,h.cells,fun k hk => ?_⟩
 show FrOK np P (ahead (S.fs.take _) k) S.cs.length (fmAt (S.fs.take _) k)
 rw [ahead_take (by omega),fmAt_take (by omega)]
 exact h.frames k (by omega)
theorem StaOK.back (h : StaOK np P S) (hs : S.st = 0) {v : Int × Int} (hv : chk v.1 v.2 S.cs.length = 0) : StaOK np P (backS S v):=by
 unfold backS
 split
 ·have:=h.wz (by omega)
  exact ⟨by show (0 : Int) ≤ 1; decide,by show (1 : Int) ≤ 3; decide,h.w0,h.w1,fun _ => this,fun _ => rfl,fun e => absurd rfl e,Nat.zero_le _,h.cn,h.cells,fun k hk => absurd hk (Nat.not_lt_zero _)⟩
 ·rename_i hn
  exact (h.pop hn).setReg (by simp [popS]; omega) _ hv
theorem opM_ok {op : Int} {a b v : Int × Int} {nc : Nat} (h : opM op a b = some v) : chk v.1 v.2 nc = 0:=by
 unfold opM at h
 split at h
 ·injection h with h; subst h
  refine chk_num ?_
  split <;> decide
 ·split at h
  ·cases h
  ·split at h
   ·injection h with h; subst h
    refine chk_num ?_
    split <;> decide
   ·split at h
    ·rename_i hr
     injection h with h; subst h
     exact chk_num hr
    ·cases h
theorem StaOK.room (hc : CodeOK np P) (h : StaOK np P S) : StaOK np P (roomS S):=by
 unfold roomS; split
 ·exact h.swept hc
 ·exact h
theorem roomS_fs (S : Sta) : (roomS S).fs.length = S.fs.length:=by
 unfold roomS; split
 ·simp [sweptS]
 ·rfl
theorem roomS_st (S : Sta) : (roomS S).st = S.st:=by
 unfold roomS; split <;> rfl
theorem valueM_right (hc : CodeOK np P) (h : StaOK np P S) (hn : ¬ S.fs.length = 0) {i : In} (hi : InOK np (fun k => (P k).params) (procS P S).regs (procS P S).n i) {x : Sta × (Int × Int)} (e : valueM S i = some x) : StaOK np P x.1∧¬ x.1.fs.length = 0∧x.1.st = S.st∧chk x.2.1 x.2.2 x.1.cs.length = 0:=by
 have ht:=h.top hn
 unfold valueM at e
 split at e
 ·rename_i o
  injection e with e; subst e
  exact ⟨h,hn,rfl,chk_num (hi.num o)⟩
 split at e
 ·injection e with e; subst e
  exact ⟨h,hn,rfl,ht.vals.at _⟩
 split at e
 ·cases hv : opM (i.z 0) (regAt (topF S).regs i.b) (regAt (topF S).regs i.c) with
  | none => rw [hv] at e; cases e
  | some v =>
   rw [hv] at e
   injection e with e; subst e
   exact ⟨h,hn,rfl,opM_ok hv⟩
 split at e
 ·rename_i o
  split at e
  ·cases e
  ·rename_i h24
   injection e with e; subst e
   have hr:=h.room hc
   have hl : (withCell (roomS S) i.b).cs.length = (roomS S).cs.length + 1:=by simp [withCell]
   refine ⟨hr.withCell (hi.new o) h24,?_,roomS_st S,chk_at ⟨?_,?_⟩⟩
   ·show ¬ (roomS S).fs.length = 0
    rw [roomS_fs]; exact hn
   ·show (0 : Int) ≤ ((roomS S).cs.length : Int); omega
   ·show ((roomS S).cs.length : Int) < _
    rw [hl]; omega
 split at e
 ·injection e with e; subst e
  refine ⟨h,hn,rfl,?_⟩
  show chk (fieldOf _ _ _).1 (fieldOf _ _ _).2 S.cs.length = 0
  unfold fieldOf
  by_cases hk : (regAt (topF S).regs i.b).2.toNat < S.cs.length
  ·exact (h.cells.vals _ (getD_mem hk)).at _
  ·rw [getD_none (by omega)]; rfl
 ·cases e
theorem doM_right (hc : CodeOK np P) (h : StaOK np P S) (hs : S.st = 0) {i : In} (hi : InOK np (fun k => (P k).params) (procS P S).regs (procS P S).n i) {S' : Sta} {l : List Int} {b : Bool} (e : doM P S i = some (S',l,b)) : StaOK np P S'∧(l = [] ∨ (i.op = 9∧∃ x,l = [x])):=by
 have hn : ¬ S.fs.length = 0:=h.unfin (by omega)
 have ht:=h.top hn
 unfold doM at e
 split at e
 ·split at e
  ·injection e with e; injection e with e1 e2; injection e2 with e2 e3; subst e1 e2
   exact ⟨h.setField (ht.vals.at _),Or.inl rfl⟩
  ·cases e
 split at e
 ·rename_i o
  split at e
  ·cases e
  ·rename_i h10
   injection e with e; injection e with e1 e2; injection e2 with e2 e3; subst e1 e2
   exact ⟨h.call hc hn h10 ⟨(hi.cal o).1,(hi.cal o).2.1⟩ (hi.ra (by omega) (by omega)),Or.inl rfl⟩
 split at e
 ·injection e with e; injection e with e1 e2; injection e2 with e2 e3; subst e1 e2
  exact ⟨h.back hs (ht.vals.at _),Or.inl rfl⟩
 split at e
 ·rename_i o
  split at e
  ·injection e with e; injection e with e1 e2; injection e2 with e2 e3; subst e1 e2
   exact ⟨h,Or.inr ⟨o,_,rfl⟩⟩
  ·cases e
 split at e
 ·injection e with e; injection e with e1 e2; injection e2 with e2 e3; subst e1 e2
  exact ⟨h,Or.inl rfl⟩
 split at e
 ·split at e
  ·rename_i hk
   injection e with e; injection e with e1 e2; injection e2 with e2 e3; subst e1 e2
   have:=ht.vals.at i.a
   rw [hk] at this
   exact ⟨h.status (Or.inr (Or.inr ⟨rfl,chk_int this⟩)) (by omega),Or.inl rfl⟩
  ·cases e
 split at e
 ·rename_i o
  injection e with e; injection e with e1 e2; injection e2 with e2 e3; subst e1 e2
  have:=hi.jmp (Or.inl o)
  exact ⟨h.setPos hn this.1 this.2,Or.inl rfl⟩
 split at e
 ·rename_i o
  injection e with e; injection e with e1 e2; injection e2 with e2 e3; subst e1 e2
  have:=hi.jmp (Or.inr o)
  refine ⟨?_,Or.inl rfl⟩
  split
  ·exact h.setPos hn this.1 this.2
  ·exact h
 ·cases hv : valueM S i with
  | none => rw [hv] at e; cases e
  | some x =>
   rw [hv] at e
   injection e with e; injection e with e1 e2; injection e2 with e2 e3; subst e1 e2
   obtain ⟨v1,v2,v3,v4⟩:=valueM_right hc h hn hi hv
   exact ⟨v1.setReg v2 _ v4,Or.inl rfl⟩
theorem nextPos_in (hc : CodeOK np P) (h : StaOK np P S) (hn : ¬ S.fs.length = 0) : 0 ≤ nextPos P S∧nextPos P S < (procS P S).n:=by
 have ht:=h.top hn
 have:=hc.c0 _ (show (topF S).proc.toNat < np by have:=ht.p0; have:=ht.p1; omega)
 have:=ht.a0
 unfold nextPos procS
 omega
theorem insS_right (hc : CodeOK np P) (h : StaOK np P S) (hn : ¬ S.fs.length = 0) : InOK np (fun k => (P k).params) (procS P S).regs (procS P S).n (insS P S):=by
 have ht:=h.top hn
 have:=ht.a0
 have:=ht.a1
 exact hc.ins _ (by have:=ht.p0; have:=ht.p1; omega) _ (by show (topF S).pos.toNat < _; omega)
theorem procS_setPos (S : Sta) (k : Int) (hn : ¬ S.fs.length = 0) : procS P (setPos S k) = procS P S:=by
 unfold procS; rw [topF_setPos S k hn]
theorem stepM_right {R : Rn} (hc : CodeOK np P) (h : StaOK np P R.s) (hs : R.s.st = 0) : StaOK np P (stepM P R).s∧R.said.length ≤ (stepM P R).said.length∧(stepM P R).said.length ≤ R.said.length + 1∧((stepM P R).said.length = R.said.length ∨ (insS P R.s).op = 9):=by
 have hn : ¬ R.s.fs.length = 0:=h.unfin (by omega)
 obtain ⟨n0,n1⟩:=nextPos_in hc h hn
 have hp:=h.setPos hn n0 n1
 unfold stepM
 cases hv : doM P (setPos R.s (nextPos P R.s)) (insS P R.s) with
 | none =>
  refine ⟨h.status (Or.inr (Or.inl ⟨rfl,h.wz (by omega)⟩)) (by omega),?_,?_,Or.inl rfl⟩ <;> simp
 | some x =>
  obtain ⟨S',l,b⟩:=x
  obtain ⟨h1,h2⟩:=doM_right hc hp hs (by rw [procS_setPos _ _ hn]; exact insS_right hc h hn) hv
  refine ⟨h1,?_⟩
  rcases h2 with rfl | ⟨o,x,rfl⟩
  ·simp
  ·simp [o]
theorem runM_right (hc : CodeOK np P) : ∀ (k : Nat) (R : Rn),StaOK np P R.s→R.said.length ≤ 40→StaOK np P (runM P k R).1.s∧(runM P k R).1.said.length ≤ 40∧(runM P k R).2 ≤ k∧(runM P k R).1.said.length ≤ R.said.length + (runM P k R).2
 | 0,R,h,hl => ⟨h,hl,Nat.le_refl _,Nat.le_refl _⟩
 | k + 1,R,h,hl => by
  unfold runM
  split
  ·rename_i hg
   unfold goesB at hg
   rw [Bool.and_eq_true,Bool.and_eq_true,Bool.or_eq_true,decide_eq_true_iff,decide_eq_true_iff] at hg
   obtain ⟨h1,h2,h3,h4⟩:=stepM_right hc h hg.1
   have hl' : (stepM P R).said.length ≤ 40:=by
    rcases hg.2.2 with e | e
    ·omega
    ·have : ¬ (insS P R.s).op = 9:=by simpa using e
     omega
   obtain ⟨i1,i2,i3,i4⟩:=runM_right hc k (stepM P R) h1 hl'
   exact ⟨i1,i2,by show (runM P k (stepM P R)).2 + 1 ≤ k + 1; omega,by show (runM P k (stepM P R)).1.said.length ≤ R.said.length + ((runM P k (stepM P R)).2 + 1); omega⟩
  ·exact ⟨h,hl,Nat.zero_le _,Nat.le_refl _⟩
theorem itM_right (hc : CodeOK np P) {R : Rn} (h : StaOK np P R.s) (hl : R.said.length ≤ 40) : ∀ k,(∀ j,j < k→goesB P (itM P R j) = true)→StaOK np P (itM P R k).s∧(itM P R k).said.length ≤ 40
 | 0,_ => ⟨h,hl⟩
 | k + 1,hj => by
  obtain ⟨h1,h2⟩:=itM_right hc h hl k fun j hjk => hj j (by omega)
  have hg:=hj k (by omega)
  unfold goesB at hg
  rw [Bool.and_eq_true,Bool.and_eq_true,Bool.or_eq_true,decide_eq_true_iff,decide_eq_true_iff] at hg
  obtain ⟨i1,i2,i3,i4⟩:=stepM_right hc h1 hg.1
  refine ⟨i1,?_⟩
  show (stepM P (itM P R k)).said.length ≤ 40
  rcases hg.2.2 with e | e
  ·omega
  ·have : ¬ (insS P (itM P R k).s).op = 9:=by simpa using e
   omega
end
end Go.Proofs.YtfaokaohhchdhaaGreatDoor
namespace Go.Proofs.YtfaokaohhchdhaaGreatDoor
open Go.ChangeShapes Go.WideShapes Go.ChangeAt Go.RowKit
def NumsAt (N : Nat) (w : World) (v : Value) (n : Nat) (z : Nat→Int) : Prop :=
 ∃ a cap,v = .slice a n cap∧n ≤ 9223372036854775807∧(n = 0 ∨ ∃ b o,a = some ⟨b,o,none⟩∧b < N∧∀ i,i < n→w.cell? ⟨b,o + i,none⟩ = some (.int .i64 (z i)))
def CodeAt (N : Nat) (w : World) (v : Value) (n : Nat) (ins : Nat→In) : Prop :=
 ∃ a cap,v = .slice a n cap∧n ≤ 9223372036854775807∧(n = 0 ∨ ∃ b o,a = some ⟨b,o,none⟩∧b < N∧∀ i,i < n→∃ va,
  w.cell? ⟨b,o + i * 5,none⟩ = some (.int .i64 (ins i).op)∧w.cell? ⟨b,o + i * 5 + 1,none⟩ = some (.int .i64 (ins i).a)∧w.cell? ⟨b,o + i * 5 + 2,none⟩ = some (.int .i64 (ins i).b) ∧
   w.cell? ⟨b,o + i * 5 + 3,none⟩ = some (.int .i64 (ins i).c)∧w.cell? ⟨b,o + i * 5 + 4,none⟩ = some va∧NumsAt N w va (ins i).n (ins i).z)
def ProcsAt (N : Nat) (w : World) (v : Value) (np : Nat) (P : Nat→Pc) : Prop :=
 ∃ a cap,v = .slice a np cap∧np ≤ 9223372036854775807∧(np = 0 ∨ ∃ b o,a = some ⟨b,o,none⟩∧b < N∧∀ i,i < np→∃ vc,
  w.cell? ⟨b,o + i * 3,none⟩ = some (.int .i64 (P i).params)∧w.cell? ⟨b,o + i * 3 + 1,none⟩ = some (.int .i64 (P i).regs)∧w.cell? ⟨b,o + i * 3 + 2,none⟩ = some vc∧CodeAt N w vc (P i).n (P i).ins)
theorem NumsAt.below {N : Nat} {w w' : World} {v : Value} {n : Nat} {z : Nat→Int} (h : NumsAt N w v n z) (hb : Below N w w') : NumsAt N w' v n z:=by
 obtain ⟨a,cap,rfl,hn,h | ⟨b,o,rfl,hlt,hc⟩⟩:=h
 ·exact ⟨a,cap,rfl,hn,Or.inl h⟩
 ·exact ⟨_,cap,rfl,hn,Or.inr ⟨b,o,rfl,hlt,fun i hi => by rw [hb.cell hlt]; exact hc i hi⟩⟩
theorem CodeAt.below {N : Nat} {w w' : World} {v : Value} {n : Nat} {ins : Nat→In} (h : CodeAt N w v n ins) (hb : Below N w w') : CodeAt N w' v n ins:=by
 obtain ⟨a,cap,rfl,hn,h | ⟨b,o,rfl,hlt,hc⟩⟩:=h
 ·exact ⟨a,cap,rfl,hn,Or.inl h⟩
 ·refine ⟨_,cap,rfl,hn,Or.inr ⟨b,o,rfl,hlt,fun i hi => ?_⟩⟩
  obtain ⟨va,c0,c1,c2,c3,c4,hv⟩:=hc i hi
  exact ⟨va,by rw [hb.cell hlt]; exact c0,by rw [hb.cell hlt]; exact c1,by rw [hb.cell hlt]; exact c2,by rw [hb.cell hlt]; exact c3,by rw [hb.cell hlt]; exact c4,hv.below hb⟩
theorem ProcsAt.below {N : Nat} {w w' : World} {v : Value} {np : Nat} {P : Nat→Pc} (h : ProcsAt N w v np P) (hb : Below N w w') : ProcsAt N w' v np P:=by
 obtain ⟨a,cap,rfl,hn,h | ⟨b,o,rfl,hlt,hc⟩⟩:=h
 ·exact ⟨a,cap,rfl,hn,Or.inl h⟩
 ·refine ⟨_,cap,rfl,hn,Or.inr ⟨b,o,rfl,hlt,fun i hi => ?_⟩⟩
  obtain ⟨vc,c0,c1,c2,hv⟩:=hc i hi
  exact ⟨vc,by rw [hb.cell hlt]; exact c0,by rw [hb.cell hlt]; exact c1,by rw [hb.cell hlt]; exact c2,hv.below hb⟩
theorem NumsAt.shape {N : Nat} {w : World} {v : Value} {n : Nat} {z : Nat→Int} (h : NumsAt N w v n z) : ∃ a cap,v = .slice a n cap∧n ≤ 9223372036854775807:=by
 obtain ⟨a,cap,rfl,hn,_⟩:=h; exact ⟨a,cap,rfl,hn⟩
set_option maxHeartbeats 1000000 in
theorem isFrom (n lo hi : Int) (w : World) : Calls Tryz.prog 95 #[.int .i64 n,.int .i64 lo,.int .i64 hi] w fun e w' => e = .returned (.bool (fromB n lo hi))∧w' = w:=by
 go_enter Tryz.func95,Tryz.ntmps95
 go_wp2
 all_goals
  go_ret
  refine ⟨ret_bool ?_,rfl⟩
  go_light
  unfold fromB
  simp_all
  try omega
set_option maxHeartbeats 4000000 in
theorem bare (i : In) (a : Option Addr) (cap : Nat) (w : World) : Calls Tryz.prog 176 #[.agg #[.int .i64 i.op,.int .i64 i.a,.int .i64 i.b,.int .i64 i.c,.slice a i.n cap]] w fun e w' => e = .returned (.bool (bareB i))∧Below w.heap.size w w':=by
 obtain ⟨op,x,y,z,n,f⟩:=i
 go_enter Tryz.func176,Tryz.ntmps176
 go_wp2
 all_goals
  go_ret
  refine ⟨ret_bool ?_,below_alloc _ _⟩
  go_light
  unfold bareB
  simp_all
  try (rw [Bool.eq_iff_iff]; simp; try omega)
set_option maxHeartbeats 4000000 in
theorem restFits (N : Nat) (i : In) (v : Value) (code : Int) (hc : 1 ≤ code) (hc2 : code ≤ 100000) (w : World) (hN : N ≤ w.heap.size) (h : NumsAt N w v i.n i.z) :
  Calls Tryz.prog 175 #[.agg #[.int .i64 i.op,.int .i64 i.a,.int .i64 i.b,.int .i64 i.c,v],.int .i64 code] w fun e w' => e = .returned (.bool (restB i code))∧Below w.heap.size w w':=by
 obtain ⟨op,x,y,z,n,f⟩:=i
 obtain ⟨a,cap,rfl,hn,h⟩:=h
 have HF : Hid (∀ n lo hi wi,Calls Tryz.prog 95 #[.int .i64 n,.int .i64 lo,.int .i64 hi] wi fun e w' => e = .returned (.bool (fromB n lo hi))∧w' = wi):=isFrom
 by_cases h1 : n = 1
 ·subst h1
  obtain ⟨b,o,rfl,hb,hc0⟩ : ∃ b o,a = some ⟨b,o,none⟩∧b < N∧∀ i,i < 1→w.cell? ⟨b,o + i,none⟩ = some (.int .i64 (f i)):=by
   rcases h with h | h
   ·cases h
   ·exact h
  have q0 : ∀ ob : Obj,(w.alloc ob).cell? ⟨b,o,none⟩ = some (.int .i64 (f 0)):=fun ob => by
   rw [(below_alloc w ob).cell (p:=⟨b,o,none⟩) (Nat.lt_of_lt_of_le hb hN)]; exact hc0 0 (by omega)
  clear hc0 h
  go_enter Tryz.func175,Tryz.ntmps175
  go_wp2_with (go_at_call 95; refine (HF.out _ _ _ _).mono ?_; rintro e w1 ⟨rfl,h1⟩; rw [h1]; clear h1)
  all_goals
   go_ret
   refine ⟨ret_bool ?_,below_alloc _ _⟩
   go_light
   unfold restB
   simp_all
 ·have h1i : ((n : Int) == 1) = false:=by simp; omega
  have h1n : decide (n = 1) = false:=by simp [h1]
  clear h
  go_enter Tryz.func175,Tryz.ntmps175
  go_wp2_with (go_at_call 95; refine (HF.out _ _ _ _).mono ?_; rintro e w1 ⟨rfl,h1⟩; rw [h1]; clear h1)
  all_goals
   go_ret
   refine ⟨ret_bool ?_,below_alloc _ _⟩
   go_light
   unfold restB
   simp_all
end Go.Proofs.YtfaokaohhchdhaaGreatDoor
