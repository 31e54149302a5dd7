/- vm.Same: states are alike just if all is. -/
import Derived.Test.YtfaokaohhchdhaaGreatDoorPart22
namespace Go.Proofs.YtfaokaohhchdhaaGreatDoor
section
open Go.RowKit Go.Maps
def eqFm (f g:Fm):Bool:=f.proc == g.proc && (f.pos == g.pos && (f.to == g.to && eqV f.regs.length g.regs.length (fstAt f.regs) (sndAt f.regs) (fstAt g.regs) (sndAt g.regs)))
def eqFs (F G:List Fm):Bool:=decide (F.length=G.length∧∀i,i<F.length→eqFm (fmAt F i) (fmAt G i)=true)
def eqCs (C D:List (List (Int×Int))):Bool:=eqCl C.length D.length (cLen C) (cLen D) (cK C) (cZ C) (cK D) (cZ D)
def eqSt (S T:Sta):Bool:=S.st == T.st && (S.wh == T.wh && (eqFs S.fs T.fs && eqCs S.cs T.cs))
theorem eqFs_iff {F G:List Fm}:eqFs F G=true ↔ F.length=G.length∧∀i,i<F.length→eqFm (fmAt F i) (fmAt G i)=true:=by unfold eqFs;exact decide_eq_true_iff
theorem eqFs_no {F G:List Fm} {k:Nat} (hk:k<F.length) (h:eqFm (fmAt F k) (fmAt G k)=false):eqFs F G=false:=by
 rw[Bool.eq_false_iff];intro e;have:=(eqFs_iff.1 e).2 k hk;rw[h]at this;cases this
theorem eqFs_len {F G:List Fm} (h:¬F.length=G.length):eqFs F G=false:=by
 rw[Bool.eq_false_iff];intro e;exact h (eqFs_iff.1 e).1
set_option maxHeartbeats 2000000 in
theorem sameFrame (f g:Fm) (v1 v2:Value) (w:World) (h1:RowAt w v1 f.regs) (h2:RowAt w v2 g.regs) :
  Calls Tryz.prog 56 #[.agg #[.int .i64 f.proc,.int .i64 f.pos,v1,.int .i64 f.to],.agg #[.int .i64 g.proc,.int .i64 g.pos,v2,.int .i64 g.to]] w fun e w'=>e=.returned (.bool (eqFm f g))∧Below w.heap.size w w':=by
 obtain⟨a1,c1,rfl,_⟩:=id h1
 obtain⟨a2,c2,rfl,_⟩:=id h2
 have HW:Hid (∀o1 o2:Obj,Below w.heap.size w ((w.alloc o1).alloc o2)):=fun o1 o2=>below_step (below_alloc _ _) (below_alloc _ _)
 have HC:Hid (∀wk,Below w.heap.size w wk→Calls Tryz.prog 55 #[.slice a1 f.regs.length c1,.slice a2 g.regs.length c2] wk fun e w'=>e=.returned (.bool (eqV f.regs.length g.regs.length (fstAt f.regs) (sndAt f.regs) (fstAt g.regs) (sndAt g.regs)))∧Below wk.heap.size wk w'):=fun wk hk=>by
  refine (eqValsC _ _ _ _ _ _ _ _ wk (ValsAt.below h1 hk) (ValsAt.below h2 hk)).mono ?_
  rintro e w' ⟨rfl,n,rfl⟩
  exact⟨rfl,below_drewN' _ _⟩
 clear h1 h2
 have HE:Hid (eqFm f g=(f.proc == g.proc && (f.pos == g.pos && (f.to == g.to && eqV f.regs.length g.regs.length (fstAt f.regs) (sndAt f.regs) (fstAt g.regs) (sndAt g.regs))))):=rfl
 generalize eqFm f g=r at *
 generalize eqV f.regs.length g.regs.length (fstAt f.regs) (sndAt f.regs) (fstAt g.regs) (sndAt g.regs)=q at *
 cases b0:f.proc == g.proc with
 | false =>
  have HR:Hid (r=false):=(by show _=_;rw[HE.out,b0];rfl)
  clear HC HE
  go_enter Tryz.func56,Tryz.ntmps56
  go_wp2_with fail
  go_ret
  exact⟨ret_bool HR.out.symm,HW.out _ _⟩
 | true =>
  cases b1:f.pos == g.pos with
  | false =>
   have HR:Hid (r=false):=(by show _=_;rw[HE.out,b0,b1];rfl)
   clear HC HE
   go_enter Tryz.func56,Tryz.ntmps56
   go_wp2_with fail
   go_ret
   exact⟨ret_bool HR.out.symm,HW.out _ _⟩
  | true =>
   cases b2:f.to == g.to with
   | false =>
    have HR:Hid (r=false):=(by show _=_;rw[HE.out,b0,b1,b2];rfl)
    clear HC HE
    go_enter Tryz.func56,Tryz.ntmps56
    go_wp2_with fail
    go_ret
    exact⟨ret_bool HR.out.symm,HW.out _ _⟩
   | true =>
    have HR:Hid (r=q):=(by show _=_;rw[HE.out,b0,b1,b2];rfl)
    clear HE
    go_enter Tryz.func56,Tryz.ntmps56
    go_wp2_with (go_at_call 55;refine (HC.out _ (HW.out _ _)).mono ?_;rintro e w1 ⟨rfl,hb1⟩)
    go_ret
    exact⟨ret_bool HR.out.symm,below_step (HW.out _ _) hb1⟩
set_option maxHeartbeats 2000000 in
theorem sameFrames (v1 v2:Value) (F G:List Fm) (w:World) (hf:FramesAt w v1 F) (hg:FramesAt w v2 G) :
  Calls Tryz.prog 53 #[v1,v2,.func (.func 56) #[] #[]] w fun e w'=>e=.returned (.bool (eqFs F G))∧Below w.heap.size w w':=by
 obtain⟨a1,c1,rfl,hn1,hf⟩:=hf
 obtain⟨a2,c2,rfl,hn2,hg⟩:=hg
 obtain⟨n1,hl1⟩:∃n,F.length=n:=⟨_,rfl⟩
 obtain⟨n2,hl2⟩:∃n,G.length=n:=⟨_,rfl⟩
 have HL:Hid (F.length=n1∧G.length=n2):=⟨hl1,hl2⟩
 rw[hl1]at hf hn1 ⊢
 rw[hl2]at hg hn2 ⊢
 clear hl1 hl2
 by_cases hn:n1=n2
 ·subst hn
  have ht:((n1:Int) != (n1:Int))=false:=by simp
  go_enter Tryz.func53,Tryz.ntmps53
  go_wp2_with fail
  go_loopw [17] (fun i wr=>∃j:Nat,j≤n1∧i=.int .i64 j∧Below w.heap.size w wr∧Hid (∀x,x<j→eqFm (fmAt F x) (fmAt G x)=true)) (fun i _=>n1 - (intOf i).toNat)
  case atStart=>exact⟨0,Nat.zero_le _,rfl,Below.refl _ _,fun j hj=>absurd hj (Nat.not_lt_zero _)⟩
  case round =>
   obtain⟨j,hj,rfl,hb,hall⟩:=hrel
   by_cases hlt:j<n1
   ·rcases hf with hf|⟨q1,o1,rfl,r1,g1⟩
    ·omega
    rcases hg with hg|⟨q2,o2,rfl,r2,g2⟩
    ·omega
    obtain⟨va,x0,x1,x2,x3,s1⟩:=g1 j hlt
    obtain⟨vb,y0,y1,y2,y3,s2⟩:=g2 j hlt
    rw[←hb.cell r1]at x0 x1 x2 x3
    rw[←hb.cell r2]at y0 y1 y2 y3
    have q2w:q2<wr.heap.size:=Nat.lt_of_lt_of_le r2 hb.size
    have s1:RowAt wr va (fmAt F j).regs:=ValsAt.below s1 hb
    have s2:RowAt wr vb (fmAt G j).regs:=ValsAt.below s2 hb
    obtain⟨z1,d1,rfl,_⟩:=id s1
    obtain⟨z2,d2,rfl,_⟩:=id s2
    clear g1 g2
    have HW:Hid (∀o1 o2:Obj,Below wr.heap.size wr ((wr.alloc o1).alloc o2)):=fun o1 o2=>below_step (below_alloc _ _) (below_alloc _ _)
    have HC:Hid (∀wk,Below wr.heap.size wr wk→Calls Tryz.prog 56 #[.agg #[.int .i64 (fmAt F j).proc,.int .i64 (fmAt F j).pos,.slice z1 (fmAt F j).regs.length d1,.int .i64 (fmAt F j).to],.agg #[.int .i64 (fmAt G j).proc,.int .i64 (fmAt G j).pos,.slice z2 (fmAt G j).regs.length d2,.int .i64 (fmAt G j).to]] wk fun e w'=>e=.returned (.bool (eqFm (fmAt F j) (fmAt G j)))∧Below wk.heap.size wk w'):=fun wk hk =>
     sameFrame (fmAt F j) (fmAt G j) _ _ wk (ValsAt.below s1 hk) (ValsAt.below s2 hk)
    clear s1 s2
    generalize (fmAt F j).regs.length=m1 at *
    generalize (fmAt G j).regs.length=m2 at *
    cases he:eqFm (fmAt F j) (fmAt G j) with
    | true =>
     rw[he]at HC
     have HE:Hid (eqFm (fmAt F j) (fmAt G j)=true):=he
     clear he
     go_wp2_with (go_at_call 56;refine (HC.out _ (HW.out _ _)).mono ?_;rintro e w1 ⟨rfl,hb1⟩)
     go_roundw
     case rel=>exact⟨j+1,by omega,by go_num,below_step hb (below_step (HW.out _ _) hb1),upTo hall.out HE.out⟩
     case measure=>simp[intOf];omega
    | false =>
     rw[he]at HC
     have HE:Hid (eqFs F G=false):=eqFs_no (by rw[HL.out.1];exact hlt) he
     clear he
     go_wp2_with (go_at_call 56;refine (HC.out _ (HW.out _ _)).mono ?_;rintro e w1 ⟨rfl,hb1⟩)
     go_ret
     exact⟨ret_bool HE.out.symm,below_step hb (below_step (HW.out _ _) hb1)⟩
   ·obtain rfl:j=n1:=by omega
    have HE:Hid (eqFs F G=true):=eqFs_iff.2 ⟨HL.out.1.trans HL.out.2.symm,fun i hi=>hall.out i (by have:=HL.out.1;omega)⟩
    go_wp2_with fail
    go_ret
    exact⟨ret_bool HE.out.symm,hb⟩
 ·have ht:((n1:Int) != (n2:Int))=true:=by simp;omega
  have HN:Hid (eqFs F G=false):=eqFs_len (by have:=HL.out;omega)
  clear hn
  go_enter Tryz.func53,Tryz.ntmps53
  go_wp2_with fail
  go_ret
  exact⟨ret_bool HN.out.symm,Below.refl _ _⟩
set_option maxRecDepth 20000 in
set_option maxHeartbeats 4000000 in
theorem vmSame_core (fa ca fb cb:Option Addr) (nf fc nc cc mf fd mc cd:Nat) (st wh su wi:Int) (qf qc r:Bool) (w:World) (HE:Hid (r=(st == su && (wh == wi && (qf && qc)))))
  (HF:Hid (∀wk,Below w.heap.size w wk→Calls Tryz.prog 53 #[.slice fa nf fc,.slice fb mf fd,.func (.func 56) #[] #[]] wk fun e w'=>e=.returned (.bool qf)∧Below wk.heap.size wk w'))
  (HC:Hid (∀wk,Below w.heap.size w wk→Calls Tryz.prog 57 #[.slice ca nc cc,.slice cb mc cd] wk fun e w'=>e=.returned (.bool qc)∧Below wk.heap.size wk w')) :
  Calls Tryz.prog 18 #[.agg #[.slice fa nf fc,.slice ca nc cc,.int .i64 st,.int .i64 wh],.agg #[.slice fb mf fd,.slice cb mc cd,.int .i64 su,.int .i64 wi]] w fun e w'=>e=.returned (.bool r)∧Below w.heap.size w w':=by
 obtain⟨W1,hW1,b1,hsz1,i0,i1,i2,i3⟩:=sbox w (.slice fa nf fc) (.slice ca nc cc) st wh
 obtain⟨W2,hW2,b2,hsz2,j0,j1,j2,j3⟩:=sbox W1 (.slice fb mf fd) (.slice cb mc cd) su wi
 have HB:Hid (Below w.heap.size w W2):=below_step b1 b2
 rw[hsz1]at j0 j1 j2 j3
 have HA:Hid (∀wk,Below W2.heap.size W2 wk→wk.cell? ⟨w.heap.size,0,none⟩=some (.slice fa nf fc)∧wk.cell? ⟨w.heap.size,1,none⟩=some (.slice ca nc cc)∧wk.cell? ⟨w.heap.size,2,none⟩=some (.int .i64 st)∧wk.cell? ⟨w.heap.size,3,none⟩=some (.int .i64 wh)∧wk.cell? ⟨w.heap.size+1,0,none⟩=some (.slice fb mf fd)∧wk.cell? ⟨w.heap.size+1,1,none⟩=some (.slice cb mc cd)∧wk.cell? ⟨w.heap.size+1,2,none⟩=some (.int .i64 su)∧wk.cell? ⟨w.heap.size+1,3,none⟩=some (.int .i64 wi)):=fun wk hk=>by
  have k2:=below_step b2 hk
  have e:∀ {W W':World} {p:Addr} {v:Value},Below W.heap.size W W'→W.cell? p=some v→W'.cell? p=some v:=fun hb h=>(hb.cell (cell_lt h)).trans h
  exact⟨e k2 i0,e k2 i1,e k2 i2,e k2 i3,e hk j0,e hk j1,e hk j2,e hk j3⟩
 have HW:Hid ((w.alloc (.cells #[.slice fa nf fc,.slice ca nc cc,.int .i64 st,.int .i64 wh] 26)).alloc (.cells #[.slice fb mf fd,.slice cb mc cd,.int .i64 su,.int .i64 wi] 26)=W2):=(by show _=_;rw[hW1];exact hW2)
 have HF2:Hid (∀wk,Below W2.heap.size W2 wk→Calls Tryz.prog 53 #[.slice fa nf fc,.slice fb mf fd,.func (.func 56) #[] #[]] wk fun e w'=>e=.returned (.bool qf)∧Below wk.heap.size wk w'):=fun wk hk=>HF.out wk (below_step HB.out hk)
 have HC2:Hid (∀wk,Below W2.heap.size W2 wk→Calls Tryz.prog 57 #[.slice ca nc cc,.slice cb mc cd] wk fun e w'=>e=.returned (.bool qc)∧Below wk.heap.size wk w'):=fun wk hk=>HC.out wk (below_step HB.out hk)
 obtain⟨x0,x1,x2,x3,y0,y1,y2,y3⟩:=HA.out W2 (Below.refl _ _)
 clear hW1 hW2 i0 i1 i2 i3 j0 j1 j2 j3 b1 b2 hsz1 hsz2 HF HC
 cases b0:st == su with
 | false =>
  have HR:Hid (r=false):=(by show _=_;rw[HE.out,b0];rfl)
  clear HF2 HC2 HE
  go_enter Tryz.func18,Tryz.ntmps18
  go_upto_region 1 with (fail)
  rw[HW.out]
  go_wp2_with fail
  go_ret
  exact⟨ret_bool HR.out.symm,HB.out⟩
 | true =>
  cases b1:wh == wi with
  | false =>
   have HR:Hid (r=false):=(by show _=_;rw[HE.out,b0,b1];rfl)
   clear HF2 HC2 HE
   go_enter Tryz.func18,Tryz.ntmps18
   go_upto_region 1 with (fail)
   rw[HW.out]
   go_wp2_with fail
   go_ret
   exact⟨ret_bool HR.out.symm,HB.out⟩
  | true =>
   cases qf with
   | false =>
    have HR:Hid (r=false):=(by show _=_;rw[HE.out,b0,b1];rfl)
    clear HC2 HE
    go_enter Tryz.func18,Tryz.ntmps18
    go_upto_region 1 with (fail)
    rw[HW.out]
    go_wp2_with (go_at_call 53;refine (HF2.out _ (Below.refl _ _)).mono ?_;rintro e w1 ⟨rfl,hb1⟩;obtain⟨z0,z1,z2,z3,z4,z5,z6,z7⟩:=HA.out w1 hb1)
    go_ret
    exact⟨ret_bool HR.out.symm,below_step HB.out hb1⟩
   | true =>
    have HR:Hid (r=qc):=(by show _=_;rw[HE.out,b0,b1];rfl)
    clear HE
    go_enter Tryz.func18,Tryz.ntmps18
    go_upto_region 1 with (fail)
    rw[HW.out]
    go_wp2_with (first
     | (go_at_call 53;refine (HF2.out _ (Below.refl _ _)).mono ?_;rintro e w1 ⟨rfl,hb1⟩;obtain⟨z0,z1,z2,z3,z4,z5,z6,z7⟩:=HA.out w1 hb1)
     | (go_at_call 57;refine (HC2.out _ hb1).mono ?_;rintro e w3 ⟨rfl,hb3⟩))
    go_ret
    exact⟨ret_bool HR.out.symm,below_step (below_step HB.out hb1) hb3⟩
theorem vmSame (S T:Sta) (fv cv fu cu:Value) (w:World) (h1:StaAt w fv cv S) (h2:StaAt w fu cu T) :
  Calls Tryz.prog 18 #[staV fv cv S.st S.wh,staV fu cu T.st T.wh] w fun e w'=>e=.returned (.bool (eqSt S T))∧Below w.heap.size w w':=by
 obtain⟨fa,fc,rfl,_⟩:=id h1.1
 obtain⟨ca,cc,rfl,_⟩:=id h1.2
 obtain⟨fb,fd,rfl,_⟩:=id h2.1
 obtain⟨cb,cd,rfl,_⟩:=id h2.2
 refine vmSame_core fa ca fb cb _ fc _ cc _ fd _ cd S.st S.wh T.st T.wh (eqFs S.fs T.fs) (eqCs S.cs T.cs) _ w rfl (fun wk hk=>sameFrames _ _ _ _ wk (h1.1.below hk) (h2.1.below hk)) fun wk hk=>?_
 refine (cSame _ _ _ _ _ _ _ _ _ _ wk (h1.2.below hk) (h2.2.below hk)).mono ?_
 rintro e w' ⟨rfl,n,rfl⟩
 exact⟨rfl,below_drewN' _ _⟩
end
section
open Go.RowKit
set_option maxHeartbeats 400000 in
theorem eqNums (N:Nat) (v1 v2:Value) (n1 n2:Nat) (z1 z2:Nat→Int) (w:World) (h1:NumsAt N w v1 n1 z1) (h2:NumsAt N w v2 n2 z2) :
  Calls Tryz.prog 24 #[v1,v2] w fun e w'=>e=.returned (.bool (eqB n1 n2 z1 z2))∧Below w.heap.size w w':=by
 obtain⟨a1,c1,rfl,b1,h1⟩:=h1
 obtain⟨a2,c2,rfl,b2,h2⟩:=h2
 by_cases hn:n1=n2
 ·subst hn
  have ht:((n1:Int) != (n1:Int))=false:=by simp
  go_enter Tryz.func24,Tryz.ntmps24
  go_wp2
  go_loopw [13] (fun i wr=>∃k m:Nat,k≤n1∧i=.int .i64 k∧wr=w.drewN m∧Hid (∀j,j<k→z1 j=z2 j)) (fun i _=>n1 - (intOf i).toNat)
  case atStart=>exact⟨0,0,Nat.zero_le _,rfl,rfl,fun j hj=>absurd hj (Nat.not_lt_zero _)⟩
  case round =>
   obtain⟨k,m,hk,rfl,rfl,hall⟩:=hrel
   by_cases hlt:k<n1
   ·rcases h1 with h1|⟨p1,o1,rfl,l1,g1⟩
    ·omega
    rcases h2 with h2|⟨p2,o2,rfl,l2,g2⟩
    ·omega
    have q1:=g1 k hlt
    have q2:=g2 k hlt
    clear g1 g2
    by_cases he:z1 k=z2 k
    ·have HE:Hid (z1 k=z2 k):=he
     have het:(z1 k != z2 k)=false:=by simp[he]
     clear he
     go_wp2
     go_quiet (fail)
     go_wp2
     go_roundw
     case rel=>exact⟨k+1,m+nq,by omega,by go_num,by simp,upTo hall.out HE.out⟩
     case measure=>simp[intOf];omega
    ·have HE:Hid (eqB n1 n1 z1 z2=false):=eqB_no hlt he
     have het:(z1 k != z2 k)=true:=by simp[he]
     clear he
     go_wp2
     go_quiet (fail)
     go_wp2
     go_ret
     exact⟨ret_bool HE.out.symm,by simpa using below_drewN' w (m+nq)⟩
   ·go_wp2
    go_ret
    obtain rfl:k=n1:=by omega
    exact⟨ret_bool (eqB_yes hall.out).symm,below_drewN' _ _⟩
 ·have ht:((n1:Int) != (n2:Int))=true:=by simp;omega
  have HN:Hid (eqB n1 n2 z1 z2=false):=eqB_len hn
  clear hn
  go_enter Tryz.func24,Tryz.ntmps24
  go_wp2
  go_ret
  exact⟨ret_bool HN.out.symm,Below.refl _ _⟩
end
section
section
variable {np:Nat} {P:Nat→Pc} {S:Sta}
end
end
end Go.Proofs.YtfaokaohhchdhaaGreatDoor
