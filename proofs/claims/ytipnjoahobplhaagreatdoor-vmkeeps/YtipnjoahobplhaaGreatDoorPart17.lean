/- vm.Same: states are alike just if all is. -/
import Derived.Test.YtipnjoahobplhaaGreatDoorVmMem
import Derived.Test.YtipnjoahobplhaaGreatDoorPart15
import Derived.Test.YtipnjoahobplhaaGreatDoorCodeCheck
namespace Go.Proofs.YtipnjoahobplhaaGreatDoor
open Go.RowKit Go.Maps
def eqFm (f g : Fm) : Bool:=f.proc == g.proc && (f.pos == g.pos && (f.to == g.to && eqV f.regs.length g.regs.length (fstAt f.regs) (sndAt f.regs) (fstAt g.regs) (sndAt g.regs)))
def eqFs (F G : List Fm) : Bool:=decide (F.length = G.length∧∀ i,i < F.length→eqFm (fmAt F i) (fmAt G i) = true)
def eqCs (C D : List (List (Int × Int))) : Bool:=eqCl C.length D.length (cLen C) (cLen D) (cK C) (cZ C) (cK D) (cZ D)
def eqSt (S T : Sta) : Bool:=S.st == T.st && (S.wh == T.wh && (eqFs S.fs T.fs && eqCs S.cs T.cs))
theorem eqFs_iff {F G : List Fm} : eqFs F G = true ↔ F.length = G.length∧∀ i,i < F.length→eqFm (fmAt F i) (fmAt G i) = true:=by unfold eqFs; exact decide_eq_true_iff
theorem eqFs_no {F G : List Fm} {k : Nat} (hk : k < F.length) (h : eqFm (fmAt F k) (fmAt G k) = false) : eqFs F G = false:=by
 rw [Bool.eq_false_iff]; intro e; have:=(eqFs_iff.1 e).2 k hk; rw [h] at this; cases this
theorem eqFs_len {F G : List Fm} (h : ¬ F.length = G.length) : eqFs F G = false:=by
 rw [Bool.eq_false_iff]; intro e; exact h (eqFs_iff.1 e).1
set_option maxHeartbeats 2000000 in
theorem sameFrame (f g : Fm) (v1 v2 : Value) (w : World) (h1 : RowAt w v1 f.regs) (h2 : RowAt w v2 g.regs) :
  Calls Tryz.prog 51 #[.agg #[.int .i64 f.proc,.int .i64 f.pos,v1,.int .i64 f.to],.agg #[.int .i64 g.proc,.int .i64 g.pos,v2,.int .i64 g.to]] w fun e w' => e = .returned (.bool (eqFm f g))∧Below w.heap.size w w':=by
 obtain ⟨a1,c1,rfl,_⟩:=id h1
 obtain ⟨a2,c2,rfl,_⟩:=id h2
 have HW : Hid (∀ o1 o2 : Obj,Below w.heap.size w ((w.alloc o1).alloc o2)):=fun o1 o2 => below_step (below_alloc _ _) (below_alloc _ _)
 have HC : Hid (∀ wk,Below w.heap.size w wk→Calls Tryz.prog 50 #[.slice a1 f.regs.length c1,.slice a2 g.regs.length c2] wk fun e w' => e = .returned (.bool (eqV f.regs.length g.regs.length (fstAt f.regs) (sndAt f.regs) (fstAt g.regs) (sndAt g.regs)))∧Below wk.heap.size wk w'):=fun wk hk => by
  refine (eqValsC _ _ _ _ _ _ _ _ wk (ValsAt.below h1 hk) (ValsAt.below h2 hk)).mono ?_
  rintro e w' ⟨rfl,n,rfl⟩
  exact ⟨rfl,below_drewN' _ _⟩
 clear h1 h2
 have HE : Hid (eqFm f g = (f.proc == g.proc && (f.pos == g.pos && (f.to == g.to && eqV f.regs.length g.regs.length (fstAt f.regs) (sndAt f.regs) (fstAt g.regs) (sndAt g.regs))))):=rfl
 generalize eqFm f g = r at *
 generalize eqV f.regs.length g.regs.length (fstAt f.regs) (sndAt f.regs) (fstAt g.regs) (sndAt g.regs) = q at *
 cases b0 : f.proc == g.proc with
 | false =>
  have HR : Hid (r = false):=(by show _ = _; rw [HE.out,b0]; rfl)
  clear HC HE
  go_enter Tryz.func51,Tryz.ntmps51
  go_wp2_with fail
  go_ret
  exact ⟨ret_bool HR.out.symm,HW.out _ _⟩
 | true =>
  cases b1 : f.pos == g.pos with
  | false =>
   have HR : Hid (r = false):=(by show _ = _; rw [HE.out,b0,b1]; rfl)
   clear HC HE
   go_enter Tryz.func51,Tryz.ntmps51
   go_wp2_with fail
   go_ret
   exact ⟨ret_bool HR.out.symm,HW.out _ _⟩
  | true =>
   cases b2 : f.to == g.to with
   | false =>
    have HR : Hid (r = false):=(by show _ = _; rw [HE.out,b0,b1,b2]; rfl)
    clear HC HE
    go_enter Tryz.func51,Tryz.ntmps51
    go_wp2_with fail
    go_ret
    exact ⟨ret_bool HR.out.symm,HW.out _ _⟩
   | true =>
    have HR : Hid (r = q):=(by show _ = _; rw [HE.out,b0,b1,b2]; rfl)
    clear HE
    go_enter Tryz.func51,Tryz.ntmps51
    go_wp2_with (go_at_call 50; refine (HC.out _ (HW.out _ _)).mono ?_; rintro e w1 ⟨rfl,hb1⟩)
    go_ret
    exact ⟨ret_bool HR.out.symm,below_step (HW.out _ _) hb1⟩
set_option maxHeartbeats 2000000 in
theorem sameFrames (v1 v2 : Value) (F G : List Fm) (w : World) (hf : FramesAt w v1 F) (hg : FramesAt w v2 G) :
  Calls Tryz.prog 48 #[v1,v2,.func (.func 51) #[] #[]] w fun e w' => e = .returned (.bool (eqFs F G))∧Below w.heap.size w w':=by
 obtain ⟨a1,c1,rfl,hn1,hf⟩:=hf
 obtain ⟨a2,c2,rfl,hn2,hg⟩:=hg
 obtain ⟨n1,hl1⟩ : ∃ n,F.length = n:=⟨_,rfl⟩
 obtain ⟨n2,hl2⟩ : ∃ n,G.length = n:=⟨_,rfl⟩
 have HL : Hid (F.length = n1∧G.length = n2):=⟨hl1,hl2⟩
 rw [hl1] at hf hn1 ⊢
 rw [hl2] at hg hn2 ⊢
 clear hl1 hl2
 by_cases hn : n1 = n2
 ·subst hn
  have ht : ((n1 : Int) != (n1 : Int)) = false:=by simp
  go_enter Tryz.func48,Tryz.ntmps48
  go_wp2_with fail
  go_loopw [17] (fun i wr => ∃ j : Nat,j ≤ n1∧i = .int .i64 j∧Below w.heap.size w wr∧Hid (∀ x,x < j→eqFm (fmAt F x) (fmAt G x) = true)) (fun i _ => n1 - (intOf i).toNat)
  case atStart => exact ⟨0,Nat.zero_le _,rfl,Below.refl _ _,fun j hj => absurd hj (Nat.not_lt_zero _)⟩
  case round =>
   obtain ⟨j,hj,rfl,hb,hall⟩:=hrel
   by_cases hlt : j < n1
   ·rcases hf with hf | ⟨q1,o1,rfl,r1,g1⟩
    ·omega
    rcases hg with hg | ⟨q2,o2,rfl,r2,g2⟩
    ·omega
    obtain ⟨va,x0,x1,x2,x3,s1⟩:=g1 j hlt
    obtain ⟨vb,y0,y1,y2,y3,s2⟩:=g2 j hlt
    rw [← hb.cell r1] at x0 x1 x2 x3
    rw [← hb.cell r2] at y0 y1 y2 y3
    have q2w : q2 < wr.heap.size:=Nat.lt_of_lt_of_le r2 hb.size
    have s1 : RowAt wr va (fmAt F j).regs:=ValsAt.below s1 hb
    have s2 : RowAt wr vb (fmAt G j).regs:=ValsAt.below s2 hb
    obtain ⟨z1,d1,rfl,_⟩:=id s1
    obtain ⟨z2,d2,rfl,_⟩:=id s2
    clear g1 g2
    have HW : Hid (∀ o1 o2 : Obj,Below wr.heap.size wr ((wr.alloc o1).alloc o2)):=fun o1 o2 => below_step (below_alloc _ _) (below_alloc _ _)
    have HC : Hid (∀ wk,Below wr.heap.size wr wk→Calls Tryz.prog 51 #[.agg #[.int .i64 (fmAt F j).proc,.int .i64 (fmAt F j).pos,.slice z1 (fmAt F j).regs.length d1,.int .i64 (fmAt F j).to],.agg #[.int .i64 (fmAt G j).proc,.int .i64 (fmAt G j).pos,.slice z2 (fmAt G j).regs.length d2,.int .i64 (fmAt G j).to]] wk fun e w' => e = .returned (.bool (eqFm (fmAt F j) (fmAt G j)))∧Below wk.heap.size wk w'):=fun wk hk =>
     sameFrame (fmAt F j) (fmAt G j) _ _ wk (ValsAt.below s1 hk) (ValsAt.below s2 hk)
    clear s1 s2
    generalize (fmAt F j).regs.length = m1 at *
    generalize (fmAt G j).regs.length = m2 at *
    cases he : eqFm (fmAt F j) (fmAt G j) with
    | true =>
     rw [he] at HC
     have HE : Hid (eqFm (fmAt F j) (fmAt G j) = true):=he
     clear he
     go_wp2_with (go_at_call 51; refine (HC.out _ (HW.out _ _)).mono ?_; rintro e w1 ⟨rfl,hb1⟩)
     go_roundw
     case rel => exact ⟨j + 1,by omega,by go_num,below_step hb (below_step (HW.out _ _) hb1),upTo hall.out HE.out⟩
     case measure => simp [intOf]; omega
    | false =>
     rw [he] at HC
     have HE : Hid (eqFs F G = false):=eqFs_no (by rw [HL.out.1]; exact hlt) he
     clear he
     go_wp2_with (go_at_call 51; refine (HC.out _ (HW.out _ _)).mono ?_; rintro e w1 ⟨rfl,hb1⟩)
     go_ret
     exact ⟨ret_bool HE.out.symm,below_step hb (below_step (HW.out _ _) hb1)⟩
   ·obtain rfl : j = n1:=by omega
    have HE : Hid (eqFs F G = true):=eqFs_iff.2 ⟨HL.out.1.trans HL.out.2.symm,fun i hi => hall.out i (by have:=HL.out.1; omega)⟩
    go_wp2_with fail
    go_ret
    exact ⟨ret_bool HE.out.symm,hb⟩
 ·have ht : ((n1 : Int) != (n2 : Int)) = true:=by simp; omega
  have HN : Hid (eqFs F G = false):=eqFs_len (by have:=HL.out; omega)
  clear hn
  go_enter Tryz.func48,Tryz.ntmps48
  go_wp2_with fail
  go_ret
  exact ⟨ret_bool HN.out.symm,Below.refl _ _⟩
set_option maxRecDepth 20000 in
set_option maxHeartbeats 4000000 in
theorem vmSame_core (fa ca fb cb : Option Addr) (nf fc nc cc mf fd mc cd : Nat) (st wh su wi : Int) (qf qc r : Bool) (w : World) (HE : Hid (r = (st == su && (wh == wi && (qf && qc)))))
  (HF : Hid (∀ wk,Below w.heap.size w wk→Calls Tryz.prog 48 #[.slice fa nf fc,.slice fb mf fd,.func (.func 51) #[] #[]] wk fun e w' => e = .returned (.bool qf)∧Below wk.heap.size wk w'))
  (HC : Hid (∀ wk,Below w.heap.size w wk→Calls Tryz.prog 52 #[.slice ca nc cc,.slice cb mc cd] wk fun e w' => e = .returned (.bool qc)∧Below wk.heap.size wk w')) :
  Calls Tryz.prog 19 #[.agg #[.slice fa nf fc,.slice ca nc cc,.int .i64 st,.int .i64 wh],.agg #[.slice fb mf fd,.slice cb mc cd,.int .i64 su,.int .i64 wi]] w fun e w' => e = .returned (.bool r)∧Below w.heap.size w w':=by
 obtain ⟨W1,hW1,b1,hsz1,i0,i1,i2,i3⟩:=sbox w (.slice fa nf fc) (.slice ca nc cc) st wh
 obtain ⟨W2,hW2,b2,hsz2,j0,j1,j2,j3⟩:=sbox W1 (.slice fb mf fd) (.slice cb mc cd) su wi
 have HB : Hid (Below w.heap.size w W2):=below_step b1 b2
 rw [hsz1] at j0 j1 j2 j3
 have HA : Hid (∀ wk,Below W2.heap.size W2 wk→wk.cell? ⟨w.heap.size,0,none⟩ = some (.slice fa nf fc)∧wk.cell? ⟨w.heap.size,1,none⟩ = some (.slice ca nc cc)∧wk.cell? ⟨w.heap.size,2,none⟩ = some (.int .i64 st)∧wk.cell? ⟨w.heap.size,3,none⟩ = some (.int .i64 wh)∧wk.cell? ⟨w.heap.size + 1,0,none⟩ = some (.slice fb mf fd)∧wk.cell? ⟨w.heap.size + 1,1,none⟩ = some (.slice cb mc cd)∧wk.cell? ⟨w.heap.size + 1,2,none⟩ = some (.int .i64 su)∧wk.cell? ⟨w.heap.size + 1,3,none⟩ = some (.int .i64 wi)):=fun wk hk => by
  have k2:=below_step b2 hk
  have e : ∀ {W W' : World} {p : Addr} {v : Value},Below W.heap.size W W'→W.cell? p = some v→W'.cell? p = some v:=fun hb h => (hb.cell (cell_lt h)).trans h
  exact ⟨e k2 i0,e k2 i1,e k2 i2,e k2 i3,e hk j0,e hk j1,e hk j2,e hk j3⟩
 have HW : Hid ((w.alloc (.cells #[.slice fa nf fc,.slice ca nc cc,.int .i64 st,.int .i64 wh] 26)).alloc (.cells #[.slice fb mf fd,.slice cb mc cd,.int .i64 su,.int .i64 wi] 26) = W2):=(by show _ = _; rw [hW1]; exact hW2)
 have HF2 : Hid (∀ wk,Below W2.heap.size W2 wk→Calls Tryz.prog 48 #[.slice fa nf fc,.slice fb mf fd,.func (.func 51) #[] #[]] wk fun e w' => e = .returned (.bool qf)∧Below wk.heap.size wk w'):=fun wk hk => HF.out wk (below_step HB.out hk)
 have HC2 : Hid (∀ wk,Below W2.heap.size W2 wk→Calls Tryz.prog 52 #[.slice ca nc cc,.slice cb mc cd] wk fun e w' => e = .returned (.bool qc)∧Below wk.heap.size wk w'):=fun wk hk => HC.out wk (below_step HB.out hk)
 obtain ⟨x0,x1,x2,x3,y0,y1,y2,y3⟩:=HA.out W2 (Below.refl _ _)
 clear hW1 hW2 i0 i1 i2 i3 j0 j1 j2 j3 b1 b2 hsz1 hsz2 HF HC
 cases b0 : st == su with
 | false =>
  have HR : Hid (r = false):=(by show _ = _; rw [HE.out,b0]; rfl)
  clear HF2 HC2 HE
  go_enter Tryz.func19,Tryz.ntmps19
  go_upto_region 1 with (fail)
  rw [HW.out]
  go_wp2_with fail
  go_ret
  exact ⟨ret_bool HR.out.symm,HB.out⟩
 | true =>
  cases b1 : wh == wi with
  | false =>
   have HR : Hid (r = false):=(by show _ = _; rw [HE.out,b0,b1]; rfl)
   clear HF2 HC2 HE
   go_enter Tryz.func19,Tryz.ntmps19
   go_upto_region 1 with (fail)
   rw [HW.out]
   go_wp2_with fail
   go_ret
   exact ⟨ret_bool HR.out.symm,HB.out⟩
  | true =>
   cases qf with
   | false =>
    have HR : Hid (r = false):=(by show _ = _; rw [HE.out,b0,b1]; rfl)
    clear HC2 HE
    go_enter Tryz.func19,Tryz.ntmps19
    go_upto_region 1 with (fail)
    rw [HW.out]
    go_wp2_with (go_at_call 48; refine (HF2.out _ (Below.refl _ _)).mono ?_; rintro e w1 ⟨rfl,hb1⟩; obtain ⟨z0,z1,z2,z3,z4,z5,z6,z7⟩:=HA.out w1 hb1)
    go_ret
    exact ⟨ret_bool HR.out.symm,below_step HB.out hb1⟩
   | true =>
    have HR : Hid (r = qc):=(by show _ = _; rw [HE.out,b0,b1]; rfl)
    clear HE
    go_enter Tryz.func19,Tryz.ntmps19
    go_upto_region 1 with (fail)
    rw [HW.out]
    go_wp2_with (first
     | (go_at_call 48; refine (HF2.out _ (Below.refl _ _)).mono ?_; rintro e w1 ⟨rfl,hb1⟩; obtain ⟨z0,z1,z2,z3,z4,z5,z6,z7⟩:=HA.out w1 hb1)
     | (go_at_call 52; refine (HC2.out _ hb1).mono ?_; rintro e w3 ⟨rfl,hb3⟩))
    go_ret
    exact ⟨ret_bool HR.out.symm,below_step (below_step HB.out hb1) hb3⟩
theorem vmSame (S T : Sta) (fv cv fu cu : Value) (w : World) (h1 : StaAt w fv cv S) (h2 : StaAt w fu cu T) :
  Calls Tryz.prog 19 #[staV fv cv S.st S.wh,staV fu cu T.st T.wh] w fun e w' => e = .returned (.bool (eqSt S T))∧Below w.heap.size w w':=by
 obtain ⟨fa,fc,rfl,_⟩:=id h1.1
 obtain ⟨ca,cc,rfl,_⟩:=id h1.2
 obtain ⟨fb,fd,rfl,_⟩:=id h2.1
 obtain ⟨cb,cd,rfl,_⟩:=id h2.2
 refine vmSame_core fa ca fb cb _ fc _ cc _ fd _ cd S.st S.wh T.st T.wh (eqFs S.fs T.fs) (eqCs S.cs T.cs) _ w rfl (fun wk hk => sameFrames _ _ _ _ wk (h1.1.below hk) (h2.1.below hk)) fun wk hk => ?_
 refine (cSame _ _ _ _ _ _ _ _ _ _ wk (h1.2.below hk) (h2.2.below hk)).mono ?_
 rintro e w' ⟨rfl,n,rfl⟩
 exact ⟨rfl,below_drewN' _ _⟩
theorem staErr_3 {np : Nat} {P : Nat→Pc} {S : Sta} (h : S.st < 0 ∨ 3 < S.st ∨ S.wh < -1000000000 ∨ 1000000000 < S.wh) : staErr np P S = 3:=if_pos h
theorem staErr_4 {np : Nat} {P : Nat→Pc} {S : Sta} (h : ¬ (S.st < 0 ∨ 3 < S.st ∨ S.wh < -1000000000 ∨ 1000000000 < S.wh)) (h2 : (¬ S.st = 3∧¬ S.wh = 0) ∨ (S.st = 1∧¬ S.fs.length = 0) ∨ (¬ S.st = 1∧S.fs.length = 0)) : staErr np P S = 4:=by
 unfold staErr; rw [if_neg h,if_pos h2]
theorem staErr_2 {np : Nat} {P : Nat→Pc} {S : Sta} (h : ¬ (S.st < 0 ∨ 3 < S.st ∨ S.wh < -1000000000 ∨ 1000000000 < S.wh)) (h2 : ¬ ((¬ S.st = 3∧¬ S.wh = 0) ∨ (S.st = 1∧¬ S.fs.length = 0) ∨ (¬ S.st = 1∧S.fs.length = 0))) (h3 : 10 < S.fs.length) : staErr np P S = 2:=by
 unfold staErr; rw [if_neg h,if_neg h2,if_pos h3]
theorem staErr_r {np : Nat} {P : Nat→Pc} {S : Sta} (h : ¬ (S.st < 0 ∨ 3 < S.st ∨ S.wh < -1000000000 ∨ 1000000000 < S.wh)) (h2 : ¬ ((¬ S.st = 3∧¬ S.wh = 0) ∨ (S.st = 1∧¬ S.fs.length = 0) ∨ (¬ S.st = 1∧S.fs.length = 0))) (h3 : ¬ 10 < S.fs.length) : staErr np P S = if cellsErr S.cs = 0 then framesErr np P S.cs.length S.fs else cellsErr S.cs:=by
 unfold staErr; rw [if_neg h,if_neg h2,if_neg h3]
set_option maxHeartbeats 2000000 in
theorem vmCheck_code (pa : Option Addr) (np pc : Nat) (ce : Int) (fv cv : Value) (st wh : Int) (w W : World) (HW : Hid (w.alloc (.cells #[fv,cv,.int .i64 st,.int .i64 wh] 26) = W)) (hsh : (∃ a n c,fv = .slice a n c)∧∃ a n c,cv = .slice a n c)
  (HC : Hid (Calls Tryz.prog 38 #[.slice pa np pc] W fun e w' => e = .returned (.int .i64 ce)∧Below W.heap.size W w')) (HB : Hid (Below w.heap.size w W)) (hce : ¬ ce = 0) :
  Calls Tryz.prog 21 #[.slice pa np pc,.agg #[fv,cv,.int .i64 st,.int .i64 wh]] w fun e w' => e = .returned (.int .i64 ce)∧Below w.heap.size w w':=by
 obtain ⟨⟨a1,n1,c1,rfl⟩,⟨a2,n2,c2,rfl⟩⟩:=hsh
 have h1 : (ce != 0) = true:=by simp [hce]
 clear hce
 go_enter Tryz.func21,Tryz.ntmps21
 go_upto_region 1 with (fail)
 rw [HW.out]
 go_wp2_with (go_at_call 38; refine HC.out.mono ?_; rintro e w1 ⟨rfl,hb1⟩)
 go_ret
 exact ⟨rfl,HB.out.trans (hb1.mono HB.out.size)⟩
set_option maxHeartbeats 4000000 in
theorem vmCheck_st (pa : Option Addr) (np pc : Nat) (fa ca : Option Addr) (nf fc nc cc : Nat) (st wh : Int) (w W : World) (HW : Hid (w.alloc (.cells #[.slice fa nf fc,.slice ca nc cc,.int .i64 st,.int .i64 wh] 26) = W))
  (HC : Hid (Calls Tryz.prog 38 #[.slice pa np pc] W fun e w' => e = .returned (.int .i64 0)∧Below W.heap.size W w'))
  (HI : Hid (∀ wi,Below W.heap.size W wi→wi.cell? ⟨w.heap.size,0,none⟩ = some (.slice fa nf fc)∧wi.cell? ⟨w.heap.size,1,none⟩ = some (.slice ca nc cc)∧wi.cell? ⟨w.heap.size,2,none⟩ = some (.int .i64 st)∧wi.cell? ⟨w.heap.size,3,none⟩ = some (.int .i64 wh))) (HB : Hid (Below w.heap.size w W))
  (h : st < 0 ∨ 3 < st ∨ wh < -1000000000 ∨ 1000000000 < wh) :
  Calls Tryz.prog 21 #[.slice pa np pc,.agg #[.slice fa nf fc,.slice ca nc cc,.int .i64 st,.int .i64 wh]] w fun e w' => e = .returned (.int .i64 3)∧Below w.heap.size w w':=by
 by_cases e1 : st < 0
 ·clear h
  go_enter Tryz.func21,Tryz.ntmps21
  go_upto_region 1 with (fail)
  rw [HW.out]
  go_wp2_with (go_at_call 38; refine HC.out.mono ?_; rintro e w1 ⟨rfl,hb1⟩; obtain ⟨i0,i1,i2,i3⟩:=HI.out w1 hb1)
  go_ret
  exact ⟨rfl,HB.out.trans (hb1.mono HB.out.size)⟩
 by_cases e2 : 3 < st
 ·clear h
  go_enter Tryz.func21,Tryz.ntmps21
  go_upto_region 1 with (fail)
  rw [HW.out]
  go_wp2_with (go_at_call 38; refine HC.out.mono ?_; rintro e w1 ⟨rfl,hb1⟩; obtain ⟨i0,i1,i2,i3⟩:=HI.out w1 hb1)
  go_ret
  exact ⟨rfl,HB.out.trans (hb1.mono HB.out.size)⟩
 by_cases e3 : wh < -1000000000
 ·clear h
  go_enter Tryz.func21,Tryz.ntmps21
  go_upto_region 1 with (fail)
  rw [HW.out]
  go_wp2_with (go_at_call 38; refine HC.out.mono ?_; rintro e w1 ⟨rfl,hb1⟩; obtain ⟨i0,i1,i2,i3⟩:=HI.out w1 hb1)
  go_ret
  exact ⟨rfl,HB.out.trans (hb1.mono HB.out.size)⟩
 have e4 : 1000000000 < wh:=by omega
 clear h
 go_enter Tryz.func21,Tryz.ntmps21
 go_upto_region 1 with (fail)
 rw [HW.out]
 go_wp2_with (go_at_call 38; refine HC.out.mono ?_; rintro e w1 ⟨rfl,hb1⟩; obtain ⟨i0,i1,i2,i3⟩:=HI.out w1 hb1)
 go_ret
 exact ⟨rfl,HB.out.trans (hb1.mono HB.out.size)⟩
set_option maxHeartbeats 4000000 in
theorem vmCheck_form (pa : Option Addr) (np pc : Nat) (fa ca : Option Addr) (nf fc nc cc : Nat) (st wh : Int) (b3 bw b1 bl : Bool) (w W : World) (HW : Hid (w.alloc (.cells #[.slice fa nf fc,.slice ca nc cc,.int .i64 st,.int .i64 wh] 26) = W))
  (HC : Hid (Calls Tryz.prog 38 #[.slice pa np pc] W fun e w' => e = .returned (.int .i64 0)∧Below W.heap.size W w'))
  (HI : Hid (∀ wi,Below W.heap.size W wi→wi.cell? ⟨w.heap.size,0,none⟩ = some (.slice fa nf fc)∧wi.cell? ⟨w.heap.size,1,none⟩ = some (.slice ca nc cc)∧wi.cell? ⟨w.heap.size,2,none⟩ = some (.int .i64 st)∧wi.cell? ⟨w.heap.size,3,none⟩ = some (.int .i64 wh))) (HB : Hid (Below w.heap.size w W))
  (h1 : ¬ st < 0) (h2 : ¬ 3 < st) (h3 : ¬ wh < -1000000000) (h4 : ¬ 1000000000 < wh) (k3 : (st != 3) = b3) (kw : (wh != 0) = bw) (k1 : (st == 1) = b1) (kl : ((nf : Int) == 0) = bl) (hb : (b3 && bw || (b1 != bl)) = true) :
  Calls Tryz.prog 21 #[.slice pa np pc,.agg #[.slice fa nf fc,.slice ca nc cc,.int .i64 st,.int .i64 wh]] w fun e w' => e = .returned (.int .i64 4)∧Below w.heap.size w w':=by
 cases b3 <;> cases bw <;> cases b1 <;> cases bl <;> first | (exact absurd hb (by decide)) | skip
 all_goals
  clear hb
  go_enter Tryz.func21,Tryz.ntmps21
  go_upto_region 1 with (fail)
  rw [HW.out]
  go_wp2_with (go_at_call 38; refine HC.out.mono ?_; rintro e w1 ⟨rfl,hb1⟩; obtain ⟨i0,i1,i2,i3⟩:=HI.out w1 hb1)
  go_ret
  exact ⟨rfl,HB.out.trans (hb1.mono HB.out.size)⟩
set_option maxHeartbeats 4000000 in
theorem vmCheck_rest (pa : Option Addr) (np pc : Nat) (fa ca : Option Addr) (nf fc nc cc : Nat) (st wh ae fe : Int) (b3 bw b1 bl : Bool) (w W : World) (HW : Hid (w.alloc (.cells #[.slice fa nf fc,.slice ca nc cc,.int .i64 st,.int .i64 wh] 26) = W))
  (HC : Hid (Calls Tryz.prog 38 #[.slice pa np pc] W fun e w' => e = .returned (.int .i64 0)∧Below W.heap.size W w'))
  (HI : Hid (∀ wi,Below W.heap.size W wi→wi.cell? ⟨w.heap.size,0,none⟩ = some (.slice fa nf fc)∧wi.cell? ⟨w.heap.size,1,none⟩ = some (.slice ca nc cc)∧wi.cell? ⟨w.heap.size,2,none⟩ = some (.int .i64 st)∧wi.cell? ⟨w.heap.size,3,none⟩ = some (.int .i64 wh))) (HB : Hid (Below w.heap.size w W))
  (HA : Hid (∀ wi,Below W.heap.size W wi→Calls Tryz.prog 57 #[.slice ca nc cc] wi fun e w' => e = .returned (.int .i64 ae)∧Below wi.heap.size wi w'))
  (HFr : Hid (∀ wi,Below W.heap.size W wi→Calls Tryz.prog 58 #[.slice pa np pc,.agg #[.slice fa nf fc,.slice ca nc cc,.int .i64 st,.int .i64 wh]] wi fun e w' => e = .returned (.int .i64 fe)∧Below wi.heap.size wi w'))
  (h1 : ¬ st < 0) (h2 : ¬ 3 < st) (h3 : ¬ wh < -1000000000) (h4 : ¬ 1000000000 < wh) (k3 : (st != 3) = b3) (kw : (wh != 0) = bw) (k1 : (st == 1) = b1) (kl : ((nf : Int) == 0) = bl) (hb : (b3 && bw || (b1 != bl)) = false) :
  Calls Tryz.prog 21 #[.slice pa np pc,.agg #[.slice fa nf fc,.slice ca nc cc,.int .i64 st,.int .i64 wh]] w fun e w' => e = .returned (.int .i64 (if 10 < nf then 2 else if ae = 0 then fe else ae))∧Below w.heap.size w w':=by
 obtain ⟨res,hres⟩ : ∃ r,(if 10 < nf then (2 : Int) else if ae = 0 then fe else ae) = r:=⟨_,rfl⟩
 rw [hres]
 by_cases h10 : 10 < nf
 ·have h5 : (10 : Int) < (nf : Int):=by omega
  rw [if_pos h10] at hres
  subst hres
  cases b3 <;> cases bw <;> cases b1 <;> cases bl <;> first | (exact absurd hb (by decide)) | skip
  all_goals
   clear hb
   go_enter Tryz.func21,Tryz.ntmps21
   go_upto_region 1 with (fail)
   rw [HW.out]
   go_wp2_with (go_at_call 38; refine HC.out.mono ?_; rintro e w1 ⟨rfl,hb1⟩; obtain ⟨i0,i1,i2,i3⟩:=HI.out w1 hb1)
   go_ret
   exact ⟨rfl,HB.out.trans (hb1.mono HB.out.size)⟩
 have h5 : ¬ (10 : Int) < (nf : Int):=by omega
 rw [if_neg h10] at hres
 by_cases ha : ae = 0
 ·rw [if_pos ha] at hres
  subst hres
  subst ha
  cases b3 <;> cases bw <;> cases b1 <;> cases bl <;> first | (exact absurd hb (by decide)) | skip
  all_goals
   clear hb
   go_enter Tryz.func21,Tryz.ntmps21
   go_upto_region 1 with (fail)
   rw [HW.out]
   go_wp2_with (first
    | (go_at_call 38; refine HC.out.mono ?_; rintro e w1 ⟨rfl,hb1⟩; obtain ⟨i0,i1,i2,i3⟩:=HI.out w1 hb1)
    | (go_at_call 57; refine (HA.out _ hb1).mono ?_; rintro e w2 ⟨rfl,hb2⟩; obtain ⟨j0,j1,j2,j3⟩:=HI.out w2 (below_step hb1 hb2))
    | (go_at_call 58; refine (HFr.out _ (below_step hb1 hb2)).mono ?_; rintro e w3 ⟨rfl,hb3⟩))
   go_ret
   exact ⟨rfl,HB.out.trans ((below_step (below_step hb1 hb2) hb3).mono HB.out.size)⟩
 ·have ha1 : (ae != 0) = true:=by simp [ha]
  rw [if_neg ha] at hres
  subst hres
  clear ha
  cases b3 <;> cases bw <;> cases b1 <;> cases bl <;> first | (exact absurd hb (by decide)) | skip
  all_goals
   clear hb
   go_enter Tryz.func21,Tryz.ntmps21
   go_upto_region 1 with (fail)
   rw [HW.out]
   go_wp2_with (first
    | (go_at_call 38; refine HC.out.mono ?_; rintro e w1 ⟨rfl,hb1⟩; obtain ⟨i0,i1,i2,i3⟩:=HI.out w1 hb1)
    | (go_at_call 57; refine (HA.out _ hb1).mono ?_; rintro e w2 ⟨rfl,hb2⟩))
   go_ret
   exact ⟨rfl,HB.out.trans ((below_step hb1 hb2).mono HB.out.size)⟩
theorem four_bool (p q r s : Prop) [Decidable p] [Decidable q] [Decidable r] [Decidable s] : (decide (¬ p) && decide (¬ q) || (decide r != decide s)) = true ↔ ((¬ p∧¬ q) ∨ (r∧¬ s) ∨ (¬ r∧s)):=by
 by_cases hp : p <;> by_cases hq : q <;> by_cases hr : r <;> by_cases hs : s <;> simp [hp,hq,hr,hs]
theorem form_bool {st wh : Int} {nf : Nat} : ((st != 3) && (wh != 0) || ((st == 1) != ((nf : Int) == 0))) = true ↔ ((¬ st = 3∧¬ wh = 0) ∨ (st = 1∧¬ nf = 0) ∨ (¬ st = 1∧nf = 0)):=by
 have e1 : (st != 3) = decide (¬ st = 3):=by by_cases h : st = 3 <;> simp [h]
 have e2 : (wh != 0) = decide (¬ wh = 0):=by by_cases h : wh = 0 <;> simp [h]
 have e3 : (st == 1) = decide (st = 1):=by by_cases h : st = 1 <;> simp [h]
 have e4 : ((nf : Int) == 0) = decide (nf = 0):=by
  by_cases h : nf = 0
  ·subst h; rfl
  ·have : ¬ (nf : Int) = 0:=by omega
   simp [h]
 rw [e1,e2,e3,e4]
 exact four_bool _ _ _ _
theorem vmCheck (M : Nat) (vp fv cv : Value) (np : Nat) (P : Nat→Pc) (S : Sta) (w : World) (hM : M ≤ w.heap.size) (hp : ProcsAt M w vp np P) (hs : StaAt w fv cv S) :
  Calls Tryz.prog 21 #[vp,staV fv cv S.st S.wh] w fun e w' => e = .returned (.int .i64 (vmErr np P S))∧Below w.heap.size w w':=by
 obtain ⟨pa,pc,rfl,_⟩:=id hp
 obtain ⟨fa,fc,rfl,_⟩:=id hs.1
 obtain ⟨ca,cc,rfl,_⟩:=id hs.2
 obtain ⟨W,hW,b0,hsz,i0,i1,i2,i3⟩:=sbox w (.slice fa S.fs.length fc) (.slice ca S.cs.length cc) S.st S.wh
 have hpW:=hp.below (b0.mono hM)
 have hMW : M ≤ W.heap.size:=Nat.le_trans hM b0.size
 have hC:=codeCheck M _ np P W hMW hpW
 have hsW:=hs.below b0
 have HI : ∀ wi,Below W.heap.size W wi→wi.cell? ⟨w.heap.size,0,none⟩ = some (.slice fa S.fs.length fc)∧wi.cell? ⟨w.heap.size,1,none⟩ = some (.slice ca S.cs.length cc)∧wi.cell? ⟨w.heap.size,2,none⟩ = some (.int .i64 S.st)∧wi.cell? ⟨w.heap.size,3,none⟩ = some (.int .i64 S.wh):=fun wi hw =>
  ⟨(hw.cell (cell_lt i0)).trans i0,(hw.cell (cell_lt i1)).trans i1,(hw.cell (cell_lt i2)).trans i2,(hw.cell (cell_lt i3)).trans i3⟩
 by_cases hce : codeErr np P = 0
 ·have hv : vmErr np P S = staErr np P S:=if_pos hce
  rw [hv]
  rw [hce] at hC
  by_cases h3 : S.st < 0 ∨ 3 < S.st ∨ S.wh < -1000000000 ∨ 1000000000 < S.wh
  ·rw [staErr_3 h3]
   exact vmCheck_st pa np pc fa ca _ fc _ cc S.st S.wh w W hW hC HI b0 h3
  have g1 : ¬ S.st < 0:=fun h => h3 (Or.inl h)
  have g2 : ¬ 3 < S.st:=fun h => h3 (Or.inr (Or.inl h))
  have g3 : ¬ S.wh < -1000000000:=fun h => h3 (Or.inr (Or.inr (Or.inl h)))
  have g4 : ¬ 1000000000 < S.wh:=fun h => h3 (Or.inr (Or.inr (Or.inr h)))
  by_cases h4 : (¬ S.st = 3∧¬ S.wh = 0) ∨ (S.st = 1∧¬ S.fs.length = 0) ∨ (¬ S.st = 1∧S.fs.length = 0)
  ·rw [staErr_4 h3 h4]
   exact vmCheck_form pa np pc fa ca _ fc _ cc S.st S.wh _ _ _ _ w W hW hC HI b0 g1 g2 g3 g4 rfl rfl rfl rfl (form_bool.2 h4)
  have hform : ((S.st != 3) && (S.wh != 0) || ((S.st == 1) != ((S.fs.length : Int) == 0))) = false:=by
   cases hh : ((S.st != 3) && (S.wh != 0) || ((S.st == 1) != ((S.fs.length : Int) == 0)))
   ·rfl
   ·exact absurd (form_bool.1 hh) h4
  have hR:=vmCheck_rest pa np pc fa ca _ fc _ cc S.st S.wh (cellsErr S.cs) (framesErr np P S.cs.length S.fs) _ _ _ _ w W hW hC HI b0
   (fun wi hw => cCheckAll _ _ _ _ _ wi (hsW.2.below hw))
   (fun wi hw => checkFrames M pa np pc P S.fs fa ca _ fc _ cc S.st S.wh wi (Nat.le_trans hMW hw.size) (hpW.below (hw.mono hMW)) (codeErr_right hce).c0 (hsW.1.below hw) rfl)
   g1 g2 g3 g4 rfl rfl rfl rfl hform
  by_cases h10 : 10 < S.fs.length
  ·rw [if_pos h10] at hR
   rw [staErr_2 h3 h4 h10]
   exact hR
  ·rw [if_neg h10] at hR
   rw [staErr_r h3 h4 h10]
   exact hR
 ·have hv : vmErr np P S = codeErr np P:=if_neg hce
  rw [hv]
  exact vmCheck_code pa np pc _ _ _ S.st S.wh w W hW ⟨⟨_,_,_,rfl⟩,⟨_,_,_,rfl⟩⟩ hC b0 hce
def runErr (np : Nat) (P : Nat→Pc) (S : Sta) (fuel : Int) : Int :=
 if vmErr np P S = 0 then (if fuel < 0 ∨ 2000 < fuel then 3 else if S.st = 0 then 0 else 7) else vmErr np P S
set_option maxHeartbeats 2000000 in
theorem checkRun_core (pa fa ca : Option Addr) (np pc nf fc nc cc : Nat) (st wh fuel ve : Int) (w W : World) (HW : Hid (w.alloc (.cells #[.slice fa nf fc,.slice ca nc cc,.int .i64 st,.int .i64 wh] 26) = W))
  (HI : Hid (∀ wi,Below W.heap.size W wi→wi.cell? ⟨w.heap.size,0,none⟩ = some (.slice fa nf fc)∧wi.cell? ⟨w.heap.size,1,none⟩ = some (.slice ca nc cc)∧wi.cell? ⟨w.heap.size,2,none⟩ = some (.int .i64 st)∧wi.cell? ⟨w.heap.size,3,none⟩ = some (.int .i64 wh))) (HB : Hid (Below w.heap.size w W))
  (HC : Hid (Calls Tryz.prog 21 #[.slice pa np pc,.agg #[.slice fa nf fc,.slice ca nc cc,.int .i64 st,.int .i64 wh]] W fun e w' => e = .returned (.int .i64 ve)∧Below W.heap.size W w')) :
  Calls Tryz.prog 39 #[.slice pa np pc,.agg #[.slice fa nf fc,.slice ca nc cc,.int .i64 st,.int .i64 wh],.int .i64 fuel] w fun e w' => e = .returned (.int .i64 (if ve = 0 then (if fuel < 0 ∨ 2000 < fuel then 3 else if st = 0 then 0 else 7) else ve))∧Below w.heap.size w w':=by
 obtain ⟨i0,i1,i2,i3⟩:=HI.out W (Below.refl _ _)
 obtain ⟨res,hres⟩ : ∃ r,(if ve = 0 then (if fuel < 0 ∨ 2000 < fuel then (3 : Int) else if st = 0 then 0 else 7) else ve) = r:=⟨_,rfl⟩
 rw [hres]
 by_cases hv : ve = 0
 ·rw [if_pos hv] at hres
  subst hv
  by_cases f1 : fuel < 0
  ·rw [if_pos (Or.inl f1)] at hres
   subst hres
   go_enter Tryz.func39,Tryz.ntmps39
   go_upto_region 1 with (fail)
   rw [HW.out]
   go_wp2_with (go_at_call 21; refine HC.out.mono ?_; rintro e w1 ⟨rfl,hb1⟩; obtain ⟨j0,j1,j2,j3⟩:=HI.out w1 hb1)
   go_ret
   exact ⟨rfl,HB.out.trans (hb1.mono HB.out.size)⟩
  by_cases f2 : 2000 < fuel
  ·rw [if_pos (Or.inr f2)] at hres
   subst hres
   go_enter Tryz.func39,Tryz.ntmps39
   go_upto_region 1 with (fail)
   rw [HW.out]
   go_wp2_with (go_at_call 21; refine HC.out.mono ?_; rintro e w1 ⟨rfl,hb1⟩; obtain ⟨j0,j1,j2,j3⟩:=HI.out w1 hb1)
   go_ret
   exact ⟨rfl,HB.out.trans (hb1.mono HB.out.size)⟩
  rw [if_neg (by omega)] at hres
  by_cases s0 : st = 0
  ·rw [if_pos s0] at hres
   subst hres
   subst s0
   go_enter Tryz.func39,Tryz.ntmps39
   go_upto_region 1 with (fail)
   rw [HW.out]
   go_wp2_with (go_at_call 21; refine HC.out.mono ?_; rintro e w1 ⟨rfl,hb1⟩; obtain ⟨j0,j1,j2,j3⟩:=HI.out w1 hb1)
   go_ret
   exact ⟨rfl,HB.out.trans (hb1.mono HB.out.size)⟩
  ·rw [if_neg s0] at hres
   have s1 : (st != 0) = true:=by simp [s0]
   subst hres
   clear s0
   go_enter Tryz.func39,Tryz.ntmps39
   go_upto_region 1 with (fail)
   rw [HW.out]
   go_wp2_with (go_at_call 21; refine HC.out.mono ?_; rintro e w1 ⟨rfl,hb1⟩; obtain ⟨j0,j1,j2,j3⟩:=HI.out w1 hb1)
   go_ret
   exact ⟨rfl,HB.out.trans (hb1.mono HB.out.size)⟩
 ·rw [if_neg hv] at hres
  have v1 : (ve != 0) = true:=by simp [hv]
  subst hres
  clear hv
  go_enter Tryz.func39,Tryz.ntmps39
  go_upto_region 1 with (fail)
  rw [HW.out]
  go_wp2_with (go_at_call 21; refine HC.out.mono ?_; rintro e w1 ⟨rfl,hb1⟩; obtain ⟨j0,j1,j2,j3⟩:=HI.out w1 hb1)
  go_ret
  exact ⟨rfl,HB.out.trans (hb1.mono HB.out.size)⟩
theorem checkRun (M : Nat) (vp fv cv : Value) (np : Nat) (P : Nat→Pc) (S : Sta) (fuel : Int) (w : World) (hM : M ≤ w.heap.size) (hp : ProcsAt M w vp np P) (hs : StaAt w fv cv S) :
  Calls Tryz.prog 39 #[vp,staV fv cv S.st S.wh,.int .i64 fuel] w fun e w' => e = .returned (.int .i64 (runErr np P S fuel))∧Below w.heap.size w w':=by
 obtain ⟨pa,pc,rfl,_⟩:=id hp
 obtain ⟨fa,fc,rfl,_⟩:=id hs.1
 obtain ⟨ca,cc,rfl,_⟩:=id hs.2
 obtain ⟨W,hW,b0,hsz,i0,i1,i2,i3⟩:=sbox w (.slice fa S.fs.length fc) (.slice ca S.cs.length cc) S.st S.wh
 refine checkRun_core pa fa ca np pc _ fc _ cc S.st S.wh fuel _ w W hW (fun wi hw => ⟨(hw.cell (cell_lt i0)).trans i0,(hw.cell (cell_lt i1)).trans i1,(hw.cell (cell_lt i2)).trans i2,(hw.cell (cell_lt i3)).trans i3⟩) b0 ?_
 exact vmCheck M _ _ _ np P S W (Nat.le_trans hM b0.size) (hp.below (b0.mono hM)) (hs.below b0)
end Go.Proofs.YtipnjoahobplhaaGreatDoor
