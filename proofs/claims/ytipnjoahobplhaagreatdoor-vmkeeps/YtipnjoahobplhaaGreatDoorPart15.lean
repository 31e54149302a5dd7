/- vm.Check: what is wrong with a program, or with a state of it. -/
import Derived.Test.YtipnjoahobplhaaGreatDoorVmMem
import Derived.Test.YtipnjoahobplhaaGreatDoorCodeCheck
import Derived.Deep.RegionHeld3
import Derived.Test.YtipnjoahobplhaaGreatDoorPart7
namespace Go.Proofs.YtipnjoahobplhaaGreatDoor
open Go.RowKit Go.Maps
theorem frErr_5 {np : Nat} {P : Nat→Pc} {h nc : Nat} {f : Fm} (e : f.proc < 0 ∨ (np : Int) ≤ f.proc) : frErr np P h nc f = 5:=if_pos e
theorem frErr_3 {np : Nat} {P : Nat→Pc} {h nc : Nat} {f : Fm} (e : ¬ (f.proc < 0 ∨ (np : Int) ≤ f.proc)) (e2 : f.pos < 0 ∨ ((P f.proc.toNat).n : Int) ≤ f.pos ∨ f.to < 0 ∨ (h : Int) ≤ f.to) : frErr np P h nc f = 3:=by
 unfold frErr; rw [if_neg e,if_pos e2]
theorem frErr_4 {np : Nat} {P : Nat→Pc} {h nc : Nat} {f : Fm} (e : ¬ (f.proc < 0 ∨ (np : Int) ≤ f.proc)) (e2 : ¬ (f.pos < 0 ∨ ((P f.proc.toNat).n : Int) ≤ f.pos ∨ f.to < 0 ∨ (h : Int) ≤ f.to)) (e3 : ¬ (f.regs.length : Int) = (P f.proc.toNat).regs) : frErr np P h nc f = 4:=by
 unfold frErr; rw [if_neg e,if_neg e2,if_pos e3]
theorem frErr_row {np : Nat} {P : Nat→Pc} {h nc : Nat} {f : Fm} (e : ¬ (f.proc < 0 ∨ (np : Int) ≤ f.proc)) (e2 : ¬ (f.pos < 0 ∨ ((P f.proc.toNat).n : Int) ≤ f.pos ∨ f.to < 0 ∨ (h : Int) ≤ f.to)) (e3 : (f.regs.length : Int) = (P f.proc.toNat).regs) : frErr np P h nc f = rowErr f.regs.length (fstAt f.regs) (sndAt f.regs) nc:=by
 unfold frErr; rw [if_neg e,if_neg e2,if_neg (fun h => h e3)]
set_option maxHeartbeats 1000000 in
theorem checkFrame5 (pa : Option Addr) (np pc : Nat) (pr po tv : Int) (ua : Option Addr) (un uc : Nat) (h nc : Nat) (w : World) (e : pr < 0 ∨ (np : Int) ≤ pr) :
  Calls Tryz.prog 88 #[.agg #[.int .i64 pr,.int .i64 po,.slice ua un uc,.int .i64 tv],.slice pa np pc,.int .i64 h,.int .i64 nc] w fun e w' => e = .returned (.int .i64 5)∧Below w.heap.size w w':=by
 by_cases h0 : pr < 0
 ·clear e
  go_enter Tryz.func88,Tryz.ntmps88
  go_wp2
  go_ret
  exact ⟨rfl,below_alloc _ _⟩
 ·have h1 : (np : Int) ≤ pr:=by omega
  clear e
  go_enter Tryz.func88,Tryz.ntmps88
  go_wp2
  go_ret
  exact ⟨rfl,below_alloc _ _⟩
theorem fbox (w : World) (pr po tv : Int) (uv : Value) : ∃ W,w.alloc (.cells #[.int .i64 pr,.int .i64 po,uv,.int .i64 tv] 40) = W∧Below w.heap.size w W∧W.heap.size = w.heap.size + 1∧W.cell? ⟨w.heap.size,0,none⟩ = some (.int .i64 pr)∧W.cell? ⟨w.heap.size,1,none⟩ = some (.int .i64 po)∧W.cell? ⟨w.heap.size,2,none⟩ = some uv∧W.cell? ⟨w.heap.size,3,none⟩ = some (.int .i64 tv):=by
 refine ⟨_,rfl,below_alloc _ _,by simp,?_,?_,?_,?_⟩ <;> (rw [World.cell?_alloc_new]; rfl)
set_option maxHeartbeats 1000000 in
theorem checkFrame3 (pb poo np pc pr cb co cn cc : Nat) (ppar preg : Int) (po tv : Int) (ua : Option Addr) (un uc : Nat) (h nc : Nat) (w W : World) (HW : Hid (w.alloc (.cells #[.int .i64 pr,.int .i64 po,.slice ua un uc,.int .i64 tv] 40) = W))
  (HI : Hid (∀ wi,Below W.heap.size W wi→wi.cell? ⟨w.heap.size,0,none⟩ = some (.int .i64 pr)∧wi.cell? ⟨w.heap.size,1,none⟩ = some (.int .i64 po)∧wi.cell? ⟨w.heap.size,2,none⟩ = some (.slice ua un uc)∧wi.cell? ⟨w.heap.size,3,none⟩ = some (.int .i64 tv)))
  (HP : Hid (∀ wi,Below W.heap.size W wi→wi.cell? ⟨pb,poo + pr * 3,none⟩ = some (.int .i64 ppar)∧wi.cell? ⟨pb,poo + pr * 3 + 1,none⟩ = some (.int .i64 preg)∧wi.cell? ⟨pb,poo + pr * 3 + 2,none⟩ = some (.slice (some ⟨cb,co,none⟩) cn cc)))
  (hpr : pr < np) (HB : Hid (Below w.heap.size w W)) (e : po < 0 ∨ (cn : Int) ≤ po ∨ tv < 0 ∨ (h : Int) ≤ tv) :
  Calls Tryz.prog 88 #[.agg #[.int .i64 pr,.int .i64 po,.slice ua un uc,.int .i64 tv],.slice (some ⟨pb,poo,none⟩) np pc,.int .i64 h,.int .i64 nc] w fun e w' => e = .returned (.int .i64 3)∧Below w.heap.size w w':=by
 have h1 : (0 : Int) ≤ (pr : Int):=by omega
 have h2 : (pr : Int) < (np : Int):=by omega
 have h3 : ¬ (pr : Int) < 0:=by omega
 have h4 : ¬ (np : Int) ≤ (pr : Int):=by omega
 obtain ⟨i0,i1,i2,i3⟩:=HI.out W (Below.refl _ _)
 obtain ⟨p0,p1,p2⟩:=HP.out W (Below.refl _ _)
 go_enter Tryz.func88,Tryz.ntmps88
 go_upto_region 1 with (fail)
 rw [HW.out]
 go_upto_region 4 with (fail)
 clear i0 i1 i2 i3 p0 p1 p2
 obtain ⟨W3,hW3⟩ : ∃ W3,W.alloc (.cells #[.int .i64 ppar,.int .i64 preg,.slice (some ⟨cb,co,none⟩) cn cc] 38) = W3:=⟨_,rfl⟩
 have hb3 : Below W.heap.size W W3:=hW3 ▸ below_alloc W _
 obtain ⟨i0,i1,i2,i3⟩:=HI.out W3 hb3
 have j1 : W3.cell? ⟨W.heap.size,1,none⟩ = some (.int .i64 preg):=by rw [← hW3,World.cell?_alloc_new]; rfl
 have j2 : W3.cell? ⟨W.heap.size,2,none⟩ = some (.slice (some ⟨cb,co,none⟩) cn cc):=by rw [← hW3,World.cell?_alloc_new]; rfl
 have HB3 : Hid (Below w.heap.size w W3):=HB.out.trans (hb3.mono HB.out.size)
 rw [hW3]
 clear hW3 hb3
 by_cases e1 : po < 0
 ·clear e
  go_wp2
  go_ret
  exact ⟨rfl,HB3.out⟩
 by_cases e2 : (cn : Int) ≤ po
 ·clear e
  go_wp2
  go_ret
  exact ⟨rfl,HB3.out⟩
 by_cases e3 : tv < 0
 ·clear e
  go_wp2
  go_ret
  exact ⟨rfl,HB3.out⟩
 have e4 : (h : Int) ≤ tv:=by omega
 clear e
 go_wp2
 go_ret
 exact ⟨rfl,HB3.out⟩
set_option maxHeartbeats 1000000 in
theorem checkFrame4 (pb poo np pc pr cb co cn cc : Nat) (ppar preg : Int) (po tv : Int) (ua : Option Addr) (un uc : Nat) (h nc : Nat) (w W : World) (HW : Hid (w.alloc (.cells #[.int .i64 pr,.int .i64 po,.slice ua un uc,.int .i64 tv] 40) = W))
  (HI : Hid (∀ wi,Below W.heap.size W wi→wi.cell? ⟨w.heap.size,0,none⟩ = some (.int .i64 pr)∧wi.cell? ⟨w.heap.size,1,none⟩ = some (.int .i64 po)∧wi.cell? ⟨w.heap.size,2,none⟩ = some (.slice ua un uc)∧wi.cell? ⟨w.heap.size,3,none⟩ = some (.int .i64 tv)))
  (HP : Hid (∀ wi,Below W.heap.size W wi→wi.cell? ⟨pb,poo + pr * 3,none⟩ = some (.int .i64 ppar)∧wi.cell? ⟨pb,poo + pr * 3 + 1,none⟩ = some (.int .i64 preg)∧wi.cell? ⟨pb,poo + pr * 3 + 2,none⟩ = some (.slice (some ⟨cb,co,none⟩) cn cc)))
  (hpr : pr < np) (HB : Hid (Below w.heap.size w W)) (e : ¬ (po < 0 ∨ (cn : Int) ≤ po ∨ tv < 0 ∨ (h : Int) ≤ tv)) (e5 : ¬ (un : Int) = preg) :
  Calls Tryz.prog 88 #[.agg #[.int .i64 pr,.int .i64 po,.slice ua un uc,.int .i64 tv],.slice (some ⟨pb,poo,none⟩) np pc,.int .i64 h,.int .i64 nc] w fun e w' => e = .returned (.int .i64 4)∧Below w.heap.size w w':=by
 have h1 : (0 : Int) ≤ (pr : Int):=by omega
 have h2 : (pr : Int) < (np : Int):=by omega
 have h3 : ¬ (pr : Int) < 0:=by omega
 have h4 : ¬ (np : Int) ≤ (pr : Int):=by omega
 obtain ⟨i0,i1,i2,i3⟩:=HI.out W (Below.refl _ _)
 obtain ⟨p0,p1,p2⟩:=HP.out W (Below.refl _ _)
 go_enter Tryz.func88,Tryz.ntmps88
 go_upto_region 1 with (fail)
 rw [HW.out]
 go_upto_region 4 with (fail)
 clear i0 i1 i2 i3 p0 p1 p2
 obtain ⟨W3,hW3⟩ : ∃ W3,W.alloc (.cells #[.int .i64 ppar,.int .i64 preg,.slice (some ⟨cb,co,none⟩) cn cc] 38) = W3:=⟨_,rfl⟩
 have hb3 : Below W.heap.size W W3:=hW3 ▸ below_alloc W _
 obtain ⟨i0,i1,i2,i3⟩:=HI.out W3 hb3
 have j1 : W3.cell? ⟨W.heap.size,1,none⟩ = some (.int .i64 preg):=by rw [← hW3,World.cell?_alloc_new]; rfl
 have j2 : W3.cell? ⟨W.heap.size,2,none⟩ = some (.slice (some ⟨cb,co,none⟩) cn cc):=by rw [← hW3,World.cell?_alloc_new]; rfl
 have HB3 : Hid (Below w.heap.size w W3):=HB.out.trans (hb3.mono HB.out.size)
 rw [hW3]
 clear hW3 hb3
 have e1 : ¬ po < 0:=by omega
 have e2 : ¬ (cn : Int) ≤ po:=by omega
 have e3 : ¬ tv < 0:=by omega
 have e4 : ¬ (h : Int) ≤ tv:=by omega
 have e6 : ((un : Int) != preg) = true:=by simp [e5]
 clear e e5
 go_wp2
 go_ret
 exact ⟨rfl,HB3.out⟩
set_option maxHeartbeats 2000000 in
theorem checkFrameR (pb poo np pc pr cb co cn cc : Nat) (ppar preg : Int) (po tv : Int) (ua : Option Addr) (un uc : Nat) (h nc : Nat) (w W : World) (HW : Hid (w.alloc (.cells #[.int .i64 pr,.int .i64 po,.slice ua un uc,.int .i64 tv] 40) = W))
  (HI : Hid (∀ wi,Below W.heap.size W wi→wi.cell? ⟨w.heap.size,0,none⟩ = some (.int .i64 pr)∧wi.cell? ⟨w.heap.size,1,none⟩ = some (.int .i64 po)∧wi.cell? ⟨w.heap.size,2,none⟩ = some (.slice ua un uc)∧wi.cell? ⟨w.heap.size,3,none⟩ = some (.int .i64 tv)))
  (HP : Hid (∀ wi,Below W.heap.size W wi→wi.cell? ⟨pb,poo + pr * 3,none⟩ = some (.int .i64 ppar)∧wi.cell? ⟨pb,poo + pr * 3 + 1,none⟩ = some (.int .i64 preg)∧wi.cell? ⟨pb,poo + pr * 3 + 2,none⟩ = some (.slice (some ⟨cb,co,none⟩) cn cc)))
  (hpr : pr < np) (HB : Hid (Below w.heap.size w W)) (k z : Nat→Int) (HV : Hid (ValsAt w (.slice ua un uc) un k z)) (e : ¬ (po < 0 ∨ (cn : Int) ≤ po ∨ tv < 0 ∨ (h : Int) ≤ tv)) (e5 : (un : Int) = preg) :
  Calls Tryz.prog 88 #[.agg #[.int .i64 pr,.int .i64 po,.slice ua un uc,.int .i64 tv],.slice (some ⟨pb,poo,none⟩) np pc,.int .i64 h,.int .i64 nc] w fun e w' => e = .returned (.int .i64 (rowErr un k z nc))∧Below w.heap.size w w':=by
 have h1 : (0 : Int) ≤ (pr : Int):=by omega
 have h2 : (pr : Int) < (np : Int):=by omega
 have h3 : ¬ (pr : Int) < 0:=by omega
 have h4 : ¬ (np : Int) ≤ (pr : Int):=by omega
 obtain ⟨i0,i1,i2,i3⟩:=HI.out W (Below.refl _ _)
 obtain ⟨p0,p1,p2⟩:=HP.out W (Below.refl _ _)
 go_enter Tryz.func88,Tryz.ntmps88
 go_upto_region 1 with (fail)
 rw [HW.out]
 go_upto_region 4 with (fail)
 clear i0 i1 i2 i3 p0 p1 p2
 obtain ⟨W3,hW3⟩ : ∃ W3,W.alloc (.cells #[.int .i64 ppar,.int .i64 preg,.slice (some ⟨cb,co,none⟩) cn cc] 38) = W3:=⟨_,rfl⟩
 have hb3 : Below W.heap.size W W3:=hW3 ▸ below_alloc W _
 obtain ⟨i0,i1,i2,i3⟩:=HI.out W3 hb3
 have j1 : W3.cell? ⟨W.heap.size,1,none⟩ = some (.int .i64 preg):=by rw [← hW3,World.cell?_alloc_new]; rfl
 have j2 : W3.cell? ⟨W.heap.size,2,none⟩ = some (.slice (some ⟨cb,co,none⟩) cn cc):=by rw [← hW3,World.cell?_alloc_new]; rfl
 have HB3 : Hid (Below w.heap.size w W3):=HB.out.trans (hb3.mono HB.out.size)
 rw [hW3]
 clear hW3 hb3
 have e1 : ¬ po < 0:=by omega
 have e2 : ¬ (cn : Int) ≤ po:=by omega
 have e3 : ¬ tv < 0:=by omega
 have e4 : ¬ (h : Int) ≤ tv:=by omega
 have e6 : ((un : Int) != preg) = false:=by simp [e5]
 clear e e5
 obtain ⟨ua',uc',eu,hun,hv⟩:=HV.out.below HB3.out
 cases eu
 go_wp2
 clear i0 i1 i2 i3 j1 j2
 go_loopw [59] (fun i wr => ∃ j : Nat,j ≤ un∧i = .int .i64 j∧Below W3.heap.size W3 wr∧Hid (∀ x,x < j→chk (k x) (z x) nc = 0)) (fun i _ => un - (intOf i).toNat)
 case atStart => exact ⟨0,Nat.zero_le _,rfl,Below.refl _ _,fun j hj => absurd hj (Nat.not_lt_zero _)⟩
 case round =>
  obtain ⟨j,hj,rfl,hb,hall⟩:=hrel
  by_cases hlt : j < un
  ·rcases hv with hv | ⟨p,o,rfl,hp,g⟩
   ·omega
   obtain ⟨q0,q1⟩:=g j hlt
   rw [← hb.cell hp] at q0 q1
   clear g
   have hz:=hb.size
   by_cases he : chk (k j) (z j) nc = 0
   ·have het : (chk (k j) (z j) nc != 0) = false:=by simp [he]
    have HE : Hid (chk (k j) (z j) nc = 0):=he
    clear he
    go_wp2_with (go_at_call 123; refine (cCheck _ _ _ _).mono ?_; rintro e w1 ⟨rfl,hb1⟩)
    go_roundw
    case rel => exact ⟨j + 1,by omega,by go_num,hb.trans (((below_alloc _ _).trans (hb1.mono (by simp))).mono hz),upTo hall.out HE.out⟩
    case measure => simp [intOf]; omega
   ·have het : (chk (k j) (z j) nc != 0) = true:=by simp [he]
    have HE : Hid (rowErr un k z nc = chk (k j) (z j) nc):=firstErr_at hall.out he hlt
    clear he
    go_wp2_with (go_at_call 123; refine (cCheck _ _ _ _).mono ?_; rintro e w1 ⟨rfl,hb1⟩)
    go_ret
    exact ⟨ret_num HE.out.symm,HB3.out.trans ((hb.trans (((below_alloc _ _).trans (hb1.mono (by simp))).mono hz)).mono HB3.out.size)⟩
  ·go_wp2
   go_ret
   obtain rfl : j = un:=by omega
   exact ⟨ret_num (firstErr_zero hall.out).symm,HB3.out.trans (hb.mono HB3.out.size)⟩
theorem checkFrame (M : Nat) (pv : Value) (np : Nat) (P : Nat→Pc) (f : Fm) (uv : Value) (h nc : Nat) (w : World) (hM : M ≤ w.heap.size) (hp : ProcsAt M w pv np P) (hcn : ∀ k,k < np→1 ≤ (P k).n) (hu : RowAt w uv f.regs) :
  Calls Tryz.prog 88 #[.agg #[.int .i64 f.proc,.int .i64 f.pos,uv,.int .i64 f.to],pv,.int .i64 h,.int .i64 nc] w fun e w' => e = .returned (.int .i64 (frErr np P h nc f))∧Below w.heap.size w w':=by
 have hu':=hu
 obtain ⟨ua,uc,rfl,_⟩:=hu'
 have hp':=hp
 obtain ⟨pa,pc,rfl,_,hp1⟩:=hp'
 by_cases e1 : f.proc < 0 ∨ (np : Int) ≤ f.proc
 ·rw [frErr_5 e1]
  exact checkFrame5 pa np pc f.proc f.pos f.to ua _ uc h nc w e1
 obtain ⟨pr,hpr⟩ : ∃ n : Nat,f.proc = n:=⟨f.proc.toNat,by omega⟩
 have hprn : pr < np:=by omega
 rcases hp1 with hp1 | ⟨pb,poo,rfl,hpb,hp1⟩
 ·omega
 obtain ⟨vc,c0,c1,c2,hv⟩:=hp1 pr hprn
 have hn1:=hcn pr hprn
 obtain ⟨ca,cc,rfl,_,hv | ⟨cb,co,rfl,hcb,_⟩⟩:=hv
 ·omega
 obtain ⟨W,hW,b0,hsz,i0,i1,i2,i3⟩:=fbox w f.proc f.pos f.to (.slice ua f.regs.length uc)
 rw [hpr] at hW i0
 have HI : Hid (∀ wi,Below W.heap.size W wi→wi.cell? ⟨w.heap.size,0,none⟩ = some (.int .i64 pr)∧wi.cell? ⟨w.heap.size,1,none⟩ = some (.int .i64 f.pos)∧wi.cell? ⟨w.heap.size,2,none⟩ = some (.slice ua f.regs.length uc)∧wi.cell? ⟨w.heap.size,3,none⟩ = some (.int .i64 f.to)):=fun wi hw => ⟨(hw.cell (cell_lt i0)).trans i0,(hw.cell (cell_lt i1)).trans i1,(hw.cell (cell_lt i2)).trans i2,(hw.cell (cell_lt i3)).trans i3⟩
 have HP : Hid (∀ wi,Below W.heap.size W wi→wi.cell? ⟨pb,poo + pr * 3,none⟩ = some (.int .i64 (P pr).params)∧wi.cell? ⟨pb,poo + pr * 3 + 1,none⟩ = some (.int .i64 (P pr).regs)∧wi.cell? ⟨pb,poo + pr * 3 + 2,none⟩ = some (.slice (some ⟨cb,co,none⟩) (P pr).n cc)):=fun wi hw => by
  have hb:=below_step b0 hw
  have hlt : pb < w.heap.size:=by omega
  exact ⟨(hb.cell hlt).trans c0,(hb.cell hlt).trans c1,(hb.cell hlt).trans c2⟩
 have ept : (P f.proc.toNat) = P pr:=by rw [hpr,Int.toNat_natCast]
 by_cases e2 : f.pos < 0 ∨ ((P pr).n : Int) ≤ f.pos ∨ f.to < 0 ∨ (h : Int) ≤ f.to
 ·rw [frErr_3 e1 (by rw [ept]; exact e2),hpr]
  exact checkFrame3 pb poo np pc pr cb co _ cc _ _ f.pos f.to ua _ uc h nc w W hW HI HP hprn b0 e2
 by_cases e3 : (f.regs.length : Int) = (P pr).regs
 ·rw [frErr_row e1 (by rw [ept]; exact e2) (by rw [ept]; exact e3),hpr]
  exact checkFrameR pb poo np pc pr cb co _ cc _ _ f.pos f.to ua _ uc h nc w W hW HI HP hprn b0 _ _ hu e2 e3
 ·rw [frErr_4 e1 (by rw [ept]; exact e2) (by rw [ept]; exact e3),hpr]
  exact checkFrame4 pb poo np pc pr cb co _ cc _ _ f.pos f.to ua _ uc h nc w W hW HI HP hprn b0 e2 e3
theorem sbox (w : World) (fv cv : Value) (st wh : Int) : ∃ W,w.alloc (.cells #[fv,cv,.int .i64 st,.int .i64 wh] 26) = W∧Below w.heap.size w W∧W.heap.size = w.heap.size + 1∧W.cell? ⟨w.heap.size,0,none⟩ = some fv∧W.cell? ⟨w.heap.size,1,none⟩ = some cv∧W.cell? ⟨w.heap.size,2,none⟩ = some (.int .i64 st)∧W.cell? ⟨w.heap.size,3,none⟩ = some (.int .i64 wh):=by
 refine ⟨_,rfl,below_alloc _ _,by simp,?_,?_,?_,?_⟩ <;> (rw [World.cell?_alloc_new]; rfl)
set_option maxHeartbeats 2000000 in
theorem checkFrames (M : Nat) (pa : Option Addr) (np pc : Nat) (P : Nat→Pc) (fs : List Fm) (fa ca : Option Addr) (nf fc nc cc : Nat) (st wh : Int) (w : World) (hM : M ≤ w.heap.size) (hp : ProcsAt M w (.slice pa np pc) np P) (hcn : ∀ k,k < np→1 ≤ (P k).n) (hf : FramesAt w (.slice fa nf fc) fs) (hnf : fs.length = nf) :
  Calls Tryz.prog 58 #[.slice pa np pc,.agg #[.slice fa nf fc,.slice ca nc cc,.int .i64 st,.int .i64 wh]] w fun e w' => e = .returned (.int .i64 (framesErr np P nc fs))∧Below w.heap.size w w':=by
 obtain ⟨W,hW,b0,hsz,i0,i1,i2,i3⟩:=sbox w (.slice fa nf fc) (.slice ca nc cc) st wh
 have HW : Hid (w.alloc (.cells #[.slice fa nf fc,.slice ca nc cc,.int .i64 st,.int .i64 wh] 26) = W):=hW
 clear hW
 have hf':=hf
 obtain ⟨fa',fc',ef,hfn,hf1⟩:=hf'
 rw [hnf] at ef
 cases ef
 rw [hnf] at hf1
 have HFr : Hid (∀ (f : Fm) (uv : Value) (h : Nat) (wi : World),Below w.heap.size w wi→RowAt wi uv f.regs→Calls Tryz.prog 88 #[.agg #[.int .i64 f.proc,.int .i64 f.pos,uv,.int .i64 f.to],.slice pa np pc,.int .i64 h,.int .i64 nc] wi fun e w' => e = .returned (.int .i64 (frErr np P h nc f))∧Below wi.heap.size wi w'):=fun f uv h wi hw hu => checkFrame M _ np P f uv h nc wi (Nat.le_trans hM hw.size) (hp.below (hw.mono hM)) hcn hu
 have HIb : Hid (∀ wi,Below W.heap.size W wi→wi.cell? ⟨w.heap.size,1,none⟩ = some (.slice ca nc cc)):=fun wi hw => (hw.cell (cell_lt i1)).trans i1
 have HB : Hid (Below w.heap.size w W):=b0
 have HNf : Hid (fs.length = nf):=hnf
 have HE0 : Hid (framesErr np P nc fs = firstErr nf fun k => frErr np P (ahead fs k) nc (fmAt fs k)):=by show _ = _; unfold framesErr; rw [hnf]
 have hnf2 : nf ≤ 9223372036854775807:=by rw [← hnf]; exact hfn
 clear hp hf hM hcn hnf hfn hsz b0
 go_enter Tryz.func58,Tryz.ntmps58
 go_upto_region 1 with (fail)
 rw [HW.out]
 go_upto_region 3 with (fail)
 clear i0 i1 i2 i3
 go_loopw [12,5] (fun i q wr => ∃ j : Nat,j ≤ nf∧i = .int .i64 j∧q = .int .i64 (ahead fs j : Nat)∧Below W.heap.size W wr∧Hid (∀ x,x < j→frErr np P (ahead fs x) nc (fmAt fs x) = 0)) (fun i _ _ => nf - (intOf i).toNat)
 case atStart => exact ⟨0,Nat.zero_le _,rfl,rfl,Below.refl _ _,fun j hj => absurd hj (Nat.not_lt_zero _)⟩
 case round =>
  obtain ⟨j,hj,rfl,rfl,hb,hall⟩:=hrel
  by_cases hlt : j < nf
  ·rcases hf1 with hv | ⟨fb,fo,rfl,hfb,g⟩
   ·omega
   obtain ⟨uv,q0,q1,q2,q3,hrow⟩:=g j hlt
   have hbw : Below w.heap.size w wr:=HB.out.trans (hb.mono HB.out.size)
   rw [← hbw.cell hfb] at q0 q1 q2 q3
   have hrow':=hrow
   obtain ⟨ua,uc,rfl,_⟩:=hrow'
   clear g
   obtain ⟨W3,hW3,b3,hs3,x0,x1,x2,x3⟩:=fbox wr (fmAt fs j).proc (fmAt fs j).pos (fmAt fs j).to (.slice ua (fmAt fs j).regs.length uc)
   have HW3 : Hid (wr.alloc (.cells #[.int .i64 (fmAt fs j).proc,.int .i64 (fmAt fs j).pos,.slice ua (fmAt fs j).regs.length uc,.int .i64 (fmAt fs j).to] 40) = W3):=hW3
   have y1:=HIb.out W3 (below_step hb b3)
   have HC : Hid (Calls Tryz.prog 88 #[.agg #[.int .i64 (fmAt fs j).proc,.int .i64 (fmAt fs j).pos,.slice ua (fmAt fs j).regs.length uc,.int .i64 (fmAt fs j).to],.slice pa np pc,.int .i64 (ahead fs j : Nat),.int .i64 nc] W3 fun e w' => e = .returned (.int .i64 (frErr np P (ahead fs j) nc (fmAt fs j)))∧Below W3.heap.size W3 w'):=HFr.out _ _ _ W3 (below_step hbw b3) (ValsAt.below hrow (below_step hbw b3))
   have HN : Hid (ahead fs (j + 1) = (fmAt fs j).regs.length):=by show _ = _; unfold ahead; rw [if_neg (by omega)]; rfl
   have HX2 : Hid (∀ wi,Below W3.heap.size W3 wi→wi.cell? ⟨wr.heap.size,2,none⟩ = some (.slice ua (fmAt fs j).regs.length uc)):=fun wi hw => (hw.cell (cell_lt x2)).trans x2
   have HBr : Hid (Below W.heap.size W W3):=below_step hb b3
   clear hW3 hrow b3 hs3 hb
   go_upto_region 5 with (fail)
   rw [HW3.out]
   clear q0 q1 q2 q3
   by_cases he : frErr np P (ahead fs j) nc (fmAt fs j) = 0
   ·rw [he] at HC
    have HE : Hid (frErr np P (ahead fs j) nc (fmAt fs j) = 0):=he
    clear he
    go_wp2_with (go_at_call 88; refine HC.out.mono ?_; rintro e w1 ⟨rfl,hb1⟩; have z2:=HX2.out w1 hb1)
    go_roundw
    case rel => exact ⟨j + 1,by omega,by go_num,by rw [HN.out],below_step HBr.out hb1,upTo hall.out HE.out⟩
    case measure => simp [intOf]; omega
   ·have het : (frErr np P (ahead fs j) nc (fmAt fs j) != 0) = true:=by simp [he]
    have HE : Hid (framesErr np P nc fs = frErr np P (ahead fs j) nc (fmAt fs j)):=by show _ = _; rw [HE0.out]; exact firstErr_at (f:=fun k => frErr np P (ahead fs k) nc (fmAt fs k)) hall.out he hlt
    clear he
    go_wp2_with (go_at_call 88; refine HC.out.mono ?_; rintro e w1 ⟨rfl,hb1⟩)
    go_ret
    exact ⟨ret_num HE.out.symm,HB.out.trans ((below_step HBr.out hb1).mono HB.out.size)⟩
  ·go_wp2
   go_ret
   obtain rfl : j = nf:=by omega
   exact ⟨ret_num (by rw [HE0.out]; exact (firstErr_zero hall.out).symm),HB.out.trans (hb.mono HB.out.size)⟩
end Go.Proofs.YtipnjoahobplhaaGreatDoor
