/- CheckCode of the reckoning: what is wrong with a program of instructions. -/
import Derived.Test.YtfaokaohhchdhaaGreatDoorRefIns1
import Derived.Test.YtfaokaohhchdhaaGreatDoorRefIns2
import Derived.Test.YtfaokaohhchdhaaGreatDoorRefIns3
import Derived.Test.YtfaokaohhchdhaaGreatDoorRefIns4
import Derived.Test.YtfaokaohhchdhaaGreatDoorRefIns5
import Derived.Test.YtfaokaohhchdhaaGreatDoorRefIns6
import Derived.Test.YtfaokaohhchdhaaGreatDoorRefIns7
import Derived.Test.YtfaokaohhchdhaaGreatDoorRefIns12
import Derived.Test.YtfaokaohhchdhaaGreatDoorRefIns13
import Derived.Test.YtfaokaohhchdhaaGreatDoorCodeCheck
namespace Go.Proofs.YtfaokaohhchdhaaGreatDoor
open Go.RowKit Go.Maps

set_option maxRecDepth 20000 in
set_option maxHeartbeats 2000000 in
theorem refIns_no (i : In) (xa : Option Addr) (ca : Nat) (vc vp : Value) (pm regs : Int) (np : Nat) (par : Nat→Int) (code : Nat) (w : World) (hvc : ∃ x n cp,vc = .slice x n cp) (hwf : (Lit.int .i64 i.op).wf = true) (hok : okC i.op = false) :
  Calls Tryz.prog 49 #[.agg #[.int .i64 i.op,.int .i64 i.a,.int .i64 i.b,.int .i64 i.c,.slice xa i.n ca],.agg #[.int .i64 pm,.int .i64 regs,vc],vp] w fun e w' => e = .returned (.int .i64 (insErr np par regs code i))∧Below w.heap.size w w':=by
 have hmm:=@run_makeMap
 obtain ⟨xc,cn,cc,rfl⟩:=hvc
 have HE : Hid (insErr np par regs code i = 4):=insErr_op hok
 go_enter Tryz.func49,Tryz.ntmps49
 go_upto_region 2 with (first
  | (with_reducible refine at_ins_ ?_; refine use_map13 _ _ rfl rfl rfl rfl rfl rfl rfl rfl rfl rfl rfl rfl rfl rfl rfl rfl rfl rfl rfl rfl rfl rfl rfl rfl rfl rfl rfl rfl rfl rfl rfl rfl rfl rfl rfl rfl rfl rfl rfl _ rfl (by simp) ?_; intro w1 htab hgr; obtain ⟨hbx,hby,hb1,hsz1⟩:=boxes_grown hgr; have m0:=hbx 0 (.int .i64 i.op) rfl)
  | (at_lookup; refine look_ins _ rfl _ _ rfl _ _ rfl htab _ rfl hwf ?_))
 clear hgr htab hbx hby
 go_wp2_with fail
 go_ret
 exact ⟨ret_num HE.out.symm,hb1⟩

theorem refIns (N : Nat) (i : In) (va vc vp : Value) (pm regs : Int) (code np : Nat) (P : Nat→Pc) (w : World) (hN : N ≤ w.heap.size)
  (ha : NumsAt N w va i.n i.z) (hvc : ∃ x cp,vc = .slice x code cp) (hp : ProcsAt N w vp np P) (hwf : (Lit.int .i64 i.op).wf = true) :
  Calls Tryz.prog 49 #[.agg #[.int .i64 i.op,.int .i64 i.a,.int .i64 i.b,.int .i64 i.c,va],.agg #[.int .i64 pm,.int .i64 regs,vc],vp] w fun e w' => e = .returned (.int .i64 (insErr np (fun k => (P k).params) regs code i))∧Below w.heap.size w w':=by
 cases hok : okC i.op with
 | false =>
  obtain ⟨xa,ca,rfl,_⟩:=ha.shape
  obtain ⟨x,cp,rfl⟩:=hvc
  exact refIns_no i xa ca _ vp pm regs np _ code w ⟨_,_,_,rfl⟩ hwf hok
 | true =>
  have hh : 1 ≤ i.op∧i.op ≤ 13:=of_decide_eq_true hok
  by_cases h7 : i.op = 7
  ·exact refIns_7 N i va vc vp pm regs code np P w hN ha hvc hp hwf hok h7
  by_cases h1 : i.op = 1
  ·exact refIns_1 N i va vc vp pm regs code np P w hN ha hvc hp hwf hok h1
  by_cases h5 : i.op = 5
  ·exact refIns_5 N i va vc vp pm regs code np P w hN ha hvc hp hwf hok h5
  by_cases h4 : i.op = 4
  ·exact refIns_4 N i va vc vp pm regs code np P w hN ha hvc hp hwf hok h4
  by_cases h6 : i.op = 6
  ·exact refIns_6 N i va vc vp pm regs code np P w hN ha hvc hp hwf hok h6
  by_cases h3 : i.op = 3
  ·exact refIns_3 N i va vc vp pm regs code np P w hN ha hvc hp hwf hok h3
  by_cases h12 : i.op = 12
  ·exact refIns_12 N i va vc vp pm regs code np P w hN ha hvc hp hwf hok h12
  by_cases h13 : i.op = 13
  ·exact refIns_13 N i va vc vp pm regs code np P w hN ha hvc hp hwf hok h13
  ·exact refIns_2 N i va vc vp pm regs code np P w hN ha hvc hp hwf hok (by omega)

/-- All ops are numbers that an int can be. -/
def opsFit (np : Nat) (P : Nat→Pc) : Prop:=∀ j,j < np→∀ k,k < (P j).n→(Lit.int .i64 ((P j).ins k).op).wf = true

set_option maxRecDepth 20000 in
set_option maxHeartbeats 8000000 in
/-- CheckCode. -/
theorem refCheckCode (N : Nat) (vp : Value) (np : Nat) (P : Nat→Pc) (w : World) (hN : N ≤ w.heap.size) (hp : ProcsAt N w vp np P) (hwf : opsFit np P) :
  Calls Tryz.prog 15 #[vp] w fun e w' => e = .returned (.int .i64 (codeErr np P))∧Below w.heap.size w w':=by
 have HF : Hid (∀ n lo hi wi,Calls Tryz.prog 48 #[.int .i64 n,.int .i64 lo,.int .i64 hi] wi fun e w' => e = .returned (.bool (fromB n lo hi))∧w' = wi):=rIn
 have HFb : Hid (∀ n lo hi b wi,fromB n lo hi = b→Calls Tryz.prog 48 #[.int .i64 n,.int .i64 lo,.int .i64 hi] wi fun e w' => e = .returned (.bool b)∧w' = wi):=fun n lo hi b wi h => by have:=HF.out n lo hi wi; rw [h] at this; exact this
 have HP : Hid (ProcsAt N w vp np P):=hp
 have HWf : Hid (opsFit np P):=hwf
 obtain ⟨ap,cp,rfl,hnp,hp⟩:=hp
 by_cases hn : np < 1 ∨ 4 < np
 ·have HE : Hid (codeErr np P = 2):=codeErr_many hn
  have HF1 : Hid (∀ wi,Calls Tryz.prog 48 #[.int .i64 np,.int .i64 1,.int .i64 4] wi fun e w' => e = .returned (.bool false)∧w' = wi):=fun wi => HFb.out _ _ _ _ wi (by unfold fromB; rw [decide_eq_false_iff_not]; omega)
  clear hn hp hwf
  go_enter Tryz.func15,Tryz.ntmps15
  go_wp2_with (go_at_call 48; refine (HF1.out _).mono ?_; rintro e w1 ⟨rfl,h1⟩; rw [h1]; clear h1)
  go_ret
  exact ⟨ret_num HE.out.symm,Below.refl _ _⟩
 have hn4 : np ≤ 4:=by omega
 have HM : Hid (¬ (np < 1 ∨ 4 < np)):=hn
 have HF1 : Hid (∀ wi,Calls Tryz.prog 48 #[.int .i64 np,.int .i64 1,.int .i64 4] wi fun e w' => e = .returned (.bool true)∧w' = wi):=fun wi => HFb.out _ _ _ _ wi (by unfold fromB; rw [decide_eq_true_iff]; omega)
 obtain ⟨pb,po,rfl,hpb,hp⟩ : ∃ b o,ap = some ⟨b,o,none⟩∧b < N∧∀ i,i < np→∃ vc,w.cell? ⟨b,o + i * 3,none⟩ = some (.int .i64 (P i).params)∧w.cell? ⟨b,o + i * 3 + 1,none⟩ = some (.int .i64 (P i).regs)∧w.cell? ⟨b,o + i * 3 + 2,none⟩ = some vc∧CodeAt N w vc (P i).n (P i).ins:=by
  rcases hp with h | h
  ·omega
  ·exact h
 have HC : Hid (∀ wi,Below w.heap.size w wi→∀ i,i < np→∃ vc,wi.cell? ⟨pb,po + i * 3,none⟩ = some (.int .i64 (P i).params)∧wi.cell? ⟨pb,po + i * 3 + 1,none⟩ = some (.int .i64 (P i).regs)∧wi.cell? ⟨pb,po + i * 3 + 2,none⟩ = some vc∧Hid (CodeAt N w vc (P i).n (P i).ins)):=fun wi hb i hi => by
  obtain ⟨vc,c0,c1,c2,hv⟩:=hp i hi
  have hlt : pb < w.heap.size:=by omega
  exact ⟨vc,by rw [hb.cell hlt]; exact c0,by rw [hb.cell hlt]; exact c1,by rw [hb.cell hlt]; exact c2,hv⟩
 clear hp hn hwf
 go_enter Tryz.func15,Tryz.ntmps15
 go_upto_region 4 with (first | (go_at_call 48; refine (HF1.out _).mono ?_; rintro e w1 ⟨rfl,h1⟩; rw [h1]; clear h1))
 go_loopw [17] (fun q wr => ∃ k : Nat,k ≤ np∧q = .int .i64 k∧Hid (Below w.heap.size w wr)∧Hid (∀ x,x < k→pcErr x (P x) = 0)) (fun q _ => np - (intOf q).toNat)
 case atStart => exact ⟨0,by omega,rfl,Below.refl _ _,fun x hx => absurd hx (Nat.not_lt_zero _)⟩
 case round =>
  obtain ⟨k,hk0,rfl,HB,HA⟩:=hrel
  have hsz:=HB.out.size
  have hpw : pb < wr.heap.size:=by omega
  by_cases hk : k < np
  ·obtain ⟨vc,c0,c1,c2,HV⟩:=HC.out wr HB.out k hk
   obtain ⟨av,cv,rfl,hcn⟩:=HV.out.shape
   have hki : (k : Int) < (np : Int):=by omega
   have HBr : Hid (∀ o : Obj,Below w.heap.size w (wr.alloc o)):=fun o => HB.out.trans ((below_alloc wr o).mono hsz)
   have HHd : Hid (pcErr k (P k) = 3→codeErr np P = 3):=fun h => by rw [codeErr_head HM.out hk HA.out (by rw [h]; decide),h]
   have HHm : Hid (pcErr k (P k) = 2→codeErr np P = 2):=fun h => by rw [codeErr_head HM.out hk HA.out (by rw [h]; decide),h]
   cases e1 : fromB (P k).params 0 3 with
   | false =>
    have HE : Hid (codeErr np P = 3):=HHd.out (pcErr_head (by unfold headB; rw [e1]; rfl))
    have HI1 : Hid (∀ wi,Calls Tryz.prog 48 #[.int .i64 (P k).params,.int .i64 0,.int .i64 3] wi fun e w' => e = .returned (.bool false)∧w' = wi):=fun wi => HFb.out _ _ _ _ wi e1
    clear e1
    go_wp2_with (go_at_call 48; refine (HI1.out _).mono ?_; rintro e w1 ⟨rfl,h1⟩; rw [h1]; clear h1)
    go_ret
    exact ⟨ret_num HE.out.symm,HBr.out _⟩
   | true =>
    have HI1 : Hid (∀ wi,Calls Tryz.prog 48 #[.int .i64 (P k).params,.int .i64 0,.int .i64 3] wi fun e w' => e = .returned (.bool true)∧w' = wi):=fun wi => HFb.out _ _ _ _ wi e1
    have hpm : 0 ≤ (P k).params∧(P k).params ≤ 3:=by unfold fromB at e1; exact of_decide_eq_true e1
    by_cases hmx : 1 < (P k).params
    ·have HMx : Hid (max 1 (P k).params = (P k).params):=(by show max 1 (P k).params = (P k).params; omega)
     cases e2 : fromB (P k).regs (P k).params 40 with
     | false =>
      have HE : Hid (codeErr np P = 3):=HHd.out (pcErr_head (by unfold headB; rw [HMx.out,e1,e2]; rfl))
      have HI2 : Hid (∀ wi,Calls Tryz.prog 48 #[.int .i64 (P k).regs,.int .i64 (P k).params,.int .i64 40] wi fun e w' => e = .returned (.bool false)∧w' = wi):=fun wi => HFb.out _ _ _ _ wi e2
      clear e1 e2
      go_wp2_with (go_at_call 48; (first | with_reducible refine (HI1.out _).mono ?_ | with_reducible refine (HI2.out _).mono ?_); rintro e w1 ⟨rfl,h1⟩; rw [h1]; clear h1)
      go_ret
      exact ⟨ret_num HE.out.symm,HBr.out _⟩
     | true =>
      have HI2 : Hid (∀ wi,Calls Tryz.prog 48 #[.int .i64 (P k).regs,.int .i64 (P k).params,.int .i64 40] wi fun e w' => e = .returned (.bool true)∧w' = wi):=fun wi => HFb.out _ _ _ _ wi e2
      have HHb : Hid (headB (P k).params (P k).regs = true):=by show _ = _; unfold headB; rw [HMx.out,e1,e2]; rfl
      clear e1 e2
      by_cases h0 : k = 0∧¬ (P k).params = 0
      ·have HE : Hid (codeErr np P = 3):=HHd.out (pcErr_first ⟨h0.1,by omega⟩)
       have k0 : ((k : Int) == 0) = true:=by simp [h0.1]
       have k1 : ((P k).params != 0) = true:=by simp [h0.2]
       clear h0
       go_wp2_with (go_at_call 48; (first | with_reducible refine (HI1.out _).mono ?_ | with_reducible refine (HI2.out _).mono ?_); rintro e w1 ⟨rfl,h1⟩; rw [h1]; clear h1)
       go_ret
       exact ⟨ret_num HE.out.symm,HBr.out _⟩
      ·have HPc : Hid (pcErr k (P k) = if (P k).n < 1 ∨ 2000 < (P k).n then 2 else 0):=pcErr_rest HHb.out (fun h => h0 ⟨h.1,by omega⟩)
       have HZ : Hid (k = 0→(P k).params = 0):=fun h => by
        by_cases hz : (P k).params = 0
        ·exact hz
        ·exact absurd ⟨h,hz⟩ h0
       clear h0
       cases hm : fromB (P k).n 1 2000 with
       | false =>
        have hm2 : (P k).n < 1 ∨ 2000 < (P k).n:=by
         unfold fromB at hm
         rw [decide_eq_false_iff_not] at hm
         omega
        have HE : Hid (codeErr np P = 2):=HHm.out (by rw [HPc.out,if_pos hm2])
        have HI3 : Hid (∀ wi,Calls Tryz.prog 48 #[.int .i64 (P k).n,.int .i64 1,.int .i64 2000] wi fun e w' => e = .returned (.bool false)∧w' = wi):=fun wi => HFb.out _ _ _ _ wi hm
        clear hm hm2
        by_cases k00 : k = 0
        ·have k0 : ((k : Int) == 0) = true:=by simp [k00]
         have k2 : ((P k).params != 0) = false:=by simp [HZ.out k00]
         clear k00
         go_wp2_with (go_at_call 48; (first | with_reducible refine (HI1.out _).mono ?_ | with_reducible refine (HI2.out _).mono ?_ | with_reducible refine (HI3.out _).mono ?_); rintro e w1 ⟨rfl,h1⟩; rw [h1]; clear h1)
         go_ret
         exact ⟨ret_num HE.out.symm,HBr.out _⟩
        ·have k0 : ((k : Int) == 0) = false:=by simp [k00]
         clear k00
         go_wp2_with (go_at_call 48; (first | with_reducible refine (HI1.out _).mono ?_ | with_reducible refine (HI2.out _).mono ?_ | with_reducible refine (HI3.out _).mono ?_); rintro e w1 ⟨rfl,h1⟩; rw [h1]; clear h1)
         go_ret
         exact ⟨ret_num HE.out.symm,HBr.out _⟩
       | true =>
        have hm2 : ¬ ((P k).n < 1 ∨ 2000 < (P k).n):=by
         unfold fromB at hm
         have:=of_decide_eq_true hm
         omega
        have HE : Hid (pcErr k (P k) = 0):=by show _ = _; rw [HPc.out,if_neg hm2]
        have HI3 : Hid (∀ wi,Calls Tryz.prog 48 #[.int .i64 (P k).n,.int .i64 1,.int .i64 2000] wi fun e w' => e = .returned (.bool true)∧w' = wi):=fun wi => HFb.out _ _ _ _ wi hm
        clear hm hm2
        by_cases k00 : k = 0
        ·have k0 : ((k : Int) == 0) = true:=by simp [k00]
         have k2 : ((P k).params != 0) = false:=by simp [HZ.out k00]
         clear k00
         go_wp2_with (go_at_call 48; (first | with_reducible refine (HI1.out _).mono ?_ | with_reducible refine (HI2.out _).mono ?_ | with_reducible refine (HI3.out _).mono ?_); rintro e w1 ⟨rfl,h1⟩; rw [h1]; clear h1)
         go_roundw
         case rel => exact ⟨k + 1,by omega,by go_num,HBr.out _,upTo HA.out HE.out⟩
         case measure => simp [intOf]; omega
        ·have k0 : ((k : Int) == 0) = false:=by simp [k00]
         clear k00
         go_wp2_with (go_at_call 48; (first | with_reducible refine (HI1.out _).mono ?_ | with_reducible refine (HI2.out _).mono ?_ | with_reducible refine (HI3.out _).mono ?_); rintro e w1 ⟨rfl,h1⟩; rw [h1]; clear h1)
         go_roundw
         case rel => exact ⟨k + 1,by omega,by go_num,HBr.out _,upTo HA.out HE.out⟩
         case measure => simp [intOf]; omega
    ·have HMx : Hid (max 1 (P k).params = 1):=(by show max 1 (P k).params = 1; omega)
     cases e2 : fromB (P k).regs 1 40 with
     | false =>
      have HE : Hid (codeErr np P = 3):=HHd.out (pcErr_head (by unfold headB; rw [HMx.out,e1,e2]; rfl))
      have HI2 : Hid (∀ wi,Calls Tryz.prog 48 #[.int .i64 (P k).regs,.int .i64 1,.int .i64 40] wi fun e w' => e = .returned (.bool false)∧w' = wi):=fun wi => HFb.out _ _ _ _ wi e2
      clear e1 e2
      go_wp2_with (go_at_call 48; (first | with_reducible refine (HI1.out _).mono ?_ | with_reducible refine (HI2.out _).mono ?_); rintro e w1 ⟨rfl,h1⟩; rw [h1]; clear h1)
      go_ret
      exact ⟨ret_num HE.out.symm,HBr.out _⟩
     | true =>
      have HI2 : Hid (∀ wi,Calls Tryz.prog 48 #[.int .i64 (P k).regs,.int .i64 1,.int .i64 40] wi fun e w' => e = .returned (.bool true)∧w' = wi):=fun wi => HFb.out _ _ _ _ wi e2
      have HHb : Hid (headB (P k).params (P k).regs = true):=by show _ = _; unfold headB; rw [HMx.out,e1,e2]; rfl
      clear e1 e2
      by_cases h0 : k = 0∧¬ (P k).params = 0
      ·have HE : Hid (codeErr np P = 3):=HHd.out (pcErr_first ⟨h0.1,by omega⟩)
       have k0 : ((k : Int) == 0) = true:=by simp [h0.1]
       have k1 : ((P k).params != 0) = true:=by simp [h0.2]
       clear h0
       go_wp2_with (go_at_call 48; (first | with_reducible refine (HI1.out _).mono ?_ | with_reducible refine (HI2.out _).mono ?_); rintro e w1 ⟨rfl,h1⟩; rw [h1]; clear h1)
       go_ret
       exact ⟨ret_num HE.out.symm,HBr.out _⟩
      ·have HPc : Hid (pcErr k (P k) = if (P k).n < 1 ∨ 2000 < (P k).n then 2 else 0):=pcErr_rest HHb.out (fun h => h0 ⟨h.1,by omega⟩)
       have HZ : Hid (k = 0→(P k).params = 0):=fun h => by
        by_cases hz : (P k).params = 0
        ·exact hz
        ·exact absurd ⟨h,hz⟩ h0
       clear h0
       cases hm : fromB (P k).n 1 2000 with
       | false =>
        have hm2 : (P k).n < 1 ∨ 2000 < (P k).n:=by
         unfold fromB at hm
         rw [decide_eq_false_iff_not] at hm
         omega
        have HE : Hid (codeErr np P = 2):=HHm.out (by rw [HPc.out,if_pos hm2])
        have HI3 : Hid (∀ wi,Calls Tryz.prog 48 #[.int .i64 (P k).n,.int .i64 1,.int .i64 2000] wi fun e w' => e = .returned (.bool false)∧w' = wi):=fun wi => HFb.out _ _ _ _ wi hm
        clear hm hm2
        by_cases k00 : k = 0
        ·have k0 : ((k : Int) == 0) = true:=by simp [k00]
         have k2 : ((P k).params != 0) = false:=by simp [HZ.out k00]
         clear k00
         go_wp2_with (go_at_call 48; (first | with_reducible refine (HI1.out _).mono ?_ | with_reducible refine (HI2.out _).mono ?_ | with_reducible refine (HI3.out _).mono ?_); rintro e w1 ⟨rfl,h1⟩; rw [h1]; clear h1)
         go_ret
         exact ⟨ret_num HE.out.symm,HBr.out _⟩
        ·have k0 : ((k : Int) == 0) = false:=by simp [k00]
         clear k00
         go_wp2_with (go_at_call 48; (first | with_reducible refine (HI1.out _).mono ?_ | with_reducible refine (HI2.out _).mono ?_ | with_reducible refine (HI3.out _).mono ?_); rintro e w1 ⟨rfl,h1⟩; rw [h1]; clear h1)
         go_ret
         exact ⟨ret_num HE.out.symm,HBr.out _⟩
       | true =>
        have hm2 : ¬ ((P k).n < 1 ∨ 2000 < (P k).n):=by
         unfold fromB at hm
         have:=of_decide_eq_true hm
         omega
        have HE : Hid (pcErr k (P k) = 0):=by show _ = _; rw [HPc.out,if_neg hm2]
        have HI3 : Hid (∀ wi,Calls Tryz.prog 48 #[.int .i64 (P k).n,.int .i64 1,.int .i64 2000] wi fun e w' => e = .returned (.bool true)∧w' = wi):=fun wi => HFb.out _ _ _ _ wi hm
        clear hm hm2
        by_cases k00 : k = 0
        ·have k0 : ((k : Int) == 0) = true:=by simp [k00]
         have k2 : ((P k).params != 0) = false:=by simp [HZ.out k00]
         clear k00
         go_wp2_with (go_at_call 48; (first | with_reducible refine (HI1.out _).mono ?_ | with_reducible refine (HI2.out _).mono ?_ | with_reducible refine (HI3.out _).mono ?_); rintro e w1 ⟨rfl,h1⟩; rw [h1]; clear h1)
         go_roundw
         case rel => exact ⟨k + 1,by omega,by go_num,HBr.out _,upTo HA.out HE.out⟩
         case measure => simp [intOf]; omega
        ·have k0 : ((k : Int) == 0) = false:=by simp [k00]
         clear k00
         go_wp2_with (go_at_call 48; (first | with_reducible refine (HI1.out _).mono ?_ | with_reducible refine (HI2.out _).mono ?_ | with_reducible refine (HI3.out _).mono ?_); rintro e w1 ⟨rfl,h1⟩; rw [h1]; clear h1)
         go_roundw
         case rel => exact ⟨k + 1,by omega,by go_num,HBr.out _,upTo HA.out HE.out⟩
         case measure => simp [intOf]; omega
  ·obtain rfl : k = np:=by omega
   have HB1:=HB
   clear HB
   have HA1:=HA
   clear HA
   go_upto_region 12 with (fail)
   generalize wr = w1 at *
   go_loopw [52] (fun q wr => ∃ j : Nat,j ≤ k∧q = .int .i64 j∧Hid (Below w.heap.size w wr)∧Hid (∀ x,x < j→bodyCErr k (fun k => (P k).params) (P x) = 0)) (fun q _ => k - (intOf q).toNat)
   case atStart => exact ⟨0,by omega,rfl,HB1,fun x hx => absurd hx (Nat.not_lt_zero _)⟩
   case round =>
    clear hsz hpw HB1
    obtain ⟨j,hj0,rfl,HB,HA⟩:=hrel
    have hsz:=HB.out.size
    have hpw : pb < wr.heap.size:=by omega
    by_cases hj : j < k
    ·obtain ⟨vc,c0,c1,c2,HV⟩:=HC.out wr HB.out j hj
     obtain ⟨av,cv,rfl,hcn⟩:=HV.out.shape
     have hji : (j : Int) < (k : Int):=by omega
     obtain ⟨⟨f1,f2⟩,⟨f3,f4⟩⟩:=pcErr_fits (HA1.out j hj)
     obtain ⟨cb,co,e1,hcb,hcc⟩ : ∃ b o,av = some ⟨b,o,none⟩∧b < N∧∀ i,i < (P j).n→∃ va,w.cell? ⟨b,o + i * 5,none⟩ = some (.int .i64 ((P j).ins i).op)∧w.cell? ⟨b,o + i * 5 + 1,none⟩ = some (.int .i64 ((P j).ins i).a)∧w.cell? ⟨b,o + i * 5 + 2,none⟩ = some (.int .i64 ((P j).ins i).b) ∧
       w.cell? ⟨b,o + i * 5 + 3,none⟩ = some (.int .i64 ((P j).ins i).c)∧w.cell? ⟨b,o + i * 5 + 4,none⟩ = some va∧NumsAt N w va ((P j).ins i).n ((P j).ins i).z:=by
      obtain ⟨a',c',e,_,h | h⟩:=HV.out
      ·omega
      ·cases e; exact h
     subst e1
     have HCC : Hid (∀ wi,Below w.heap.size w wi→∀ i,i < (P j).n→∃ va,wi.cell? ⟨cb,co + i * 5,none⟩ = some (.int .i64 ((P j).ins i).op)∧wi.cell? ⟨cb,co + i * 5 + 1,none⟩ = some (.int .i64 ((P j).ins i).a)∧wi.cell? ⟨cb,co + i * 5 + 2,none⟩ = some (.int .i64 ((P j).ins i).b) ∧
       wi.cell? ⟨cb,co + i * 5 + 3,none⟩ = some (.int .i64 ((P j).ins i).c)∧wi.cell? ⟨cb,co + i * 5 + 4,none⟩ = some va∧Hid (NumsAt N w va ((P j).ins i).n ((P j).ins i).z)):=fun wi hb i hi => by
      obtain ⟨va,d0,d1,d2,d3,d4,hv⟩:=hcc i hi
      have hlt : cb < w.heap.size:=by omega
      exact ⟨va,by rw [hb.cell hlt]; exact d0,by rw [hb.cell hlt]; exact d1,by rw [hb.cell hlt]; exact d2,by rw [hb.cell hlt]; exact d3,by rw [hb.cell hlt]; exact d4,hv⟩
     have HBX : Hid (∀ w1,Below (wr.alloc (.cells #[.int .i64 (P j).params,.int .i64 (P j).regs,.slice (some ⟨cb,co,none⟩) (P j).n cv] 38)).heap.size (wr.alloc (.cells #[.int .i64 (P j).params,.int .i64 (P j).regs,.slice (some ⟨cb,co,none⟩) (P j).n cv] 38)) w1 →
       w1.cell? ⟨wr.heap.size,0,none⟩ = some (.int .i64 (P j).params)∧w1.cell? ⟨wr.heap.size,1,none⟩ = some (.int .i64 (P j).regs)∧w1.cell? ⟨wr.heap.size,2,none⟩ = some (.slice (some ⟨cb,co,none⟩) (P j).n cv)):=fun w1 hb => ⟨box_in hb 0 rfl,box_in hb 1 rfl,box_in hb 2 rfl⟩
     have HBa : Hid (Below w.heap.size w (wr.alloc (.cells #[.int .i64 (P j).params,.int .i64 (P j).regs,.slice (some ⟨cb,co,none⟩) (P j).n cv] 38))):=HB.out.trans ((below_alloc wr _).mono hsz)
     have hsA : (wr.alloc (.cells #[.int .i64 (P j).params,.int .i64 (P j).regs,.slice (some ⟨cb,co,none⟩) (P j).n cv] 38)).heap.size = wr.heap.size + 1:=by simp
     clear hcc
     go_upto_region 15 with (fail)
     generalize hWA : wr.alloc (.cells #[.int .i64 (P j).params,.int .i64 (P j).regs,.slice (some ⟨cb,co,none⟩) (P j).n cv] 38) = WA at *
     generalize hXA : wr.heap.size = XA at *
     have hXl : XA < WA.heap.size:=by omega
     have hwX : w.heap.size ≤ XA:=hsz
     have HWA : Hid (wr.heap.size = XA):=hXA
     clear hWA c0 c1 c2 hsA hXA
     go_loopw [59] (fun q wy => ∃ x : Nat,x ≤ (P j).n∧q = .int .i64 x∧Hid (Below WA.heap.size WA wy)∧Hid (∀ y,y < x→insErr k (fun k => (P k).params) (P j).regs (P j).n ((P j).ins y) = 0)) (fun q _ => (P j).n - (intOf q).toNat)
     case atStart => exact ⟨0,by omega,rfl,Below.refl _ _,fun x hx => absurd hx (Nat.not_lt_zero _)⟩
     case round =>
      obtain ⟨x,hx0,rfl,HBy,HAy⟩:=hrel
      obtain ⟨x0,x1,x2⟩:=HBX.out _ HBy.out
      have hszy:=HBy.out.size
      have HBw : Hid (Below w.heap.size w wr):=HBa.out.trans (HBy.out.mono (by omega))
      have hcw : cb < wr.heap.size:=by omega
      have hXw : XA < wr.heap.size:=by omega
      by_cases hx : x < (P j).n
      ·obtain ⟨va,d0,d1,d2,d3,d4,HVa⟩:=HCC.out _ HBw.out x hx
       obtain ⟨aa,cva,rfl,_⟩:=HVa.out.shape
       have hxi : (x : Int) < ((P j).n : Int):=by omega
       have HIn : Hid (∀ wi,Below wr.heap.size wr wi→Calls Tryz.prog 49 #[.agg #[.int .i64 ((P j).ins x).op,.int .i64 ((P j).ins x).a,.int .i64 ((P j).ins x).b,.int .i64 ((P j).ins x).c,.slice aa ((P j).ins x).n cva],.agg #[.int .i64 (P j).params,.int .i64 (P j).regs,.slice (some ⟨cb,co,none⟩) (P j).n cv],.slice (some ⟨pb,po,none⟩) k cp] wi
         fun e w' => e = .returned (.int .i64 (insErr k (fun k => (P k).params) (P j).regs (P j).n ((P j).ins x)))∧Below wi.heap.size wi w'):=fun wi hb => by
        have hbw : Below w.heap.size w wi:=HBw.out.trans (hb.mono HBw.out.size)
        exact refIns N ((P j).ins x) _ _ _ (P j).params (P j).regs (P j).n k P wi (Nat.le_trans hN hbw.size) (HVa.out.below (hbw.mono hN)) ⟨_,_,rfl⟩ (HP.out.below (hbw.mono hN)) (HWf.out j hj x hx)
       by_cases he : insErr k (fun k => (P k).params) (P j).regs (P j).n ((P j).ins x) = 0
       ·rw [he] at HIn
        have HE : Hid (insErr k (fun k => (P k).params) (P j).regs (P j).n ((P j).ins x) = 0):=he
        clear he
        go_wp2_with (go_at_call 49; refine (HIn.out _ (below_alloc wr _)).mono ?_; rintro e w2 ⟨rfl,b2⟩)
        go_roundw
        case rel => exact ⟨x + 1,by omega,by go_num,HBy.out.trans ((below_step (below_alloc wr _) b2).mono (by omega)),upTo HAy.out HE.out⟩
        case measure => simp [intOf]; omega
       ·have hne : ((insErr k (fun k => (P k).params) (P j).regs (P j).n ((P j).ins x)) != 0) = true:=by simp [he]
        have HE0 : bodyCErr k (fun k => (P k).params) (P j) = insErr k (fun k => (P k).params) (P j).regs (P j).n ((P j).ins x):=bodyC_at hx HAy.out he
        have HE : Hid (codeErr k P = insErr k (fun k => (P k).params) (P j).regs (P j).n ((P j).ins x)):=by
         show _ = _
         rw [codeErr_body HM.out HA1.out hj HA.out (by rw [HE0]; exact he),HE0]
        clear he HE0
        go_wp2_with (go_at_call 49; refine (HIn.out _ (below_alloc wr _)).mono ?_; rintro e w2 ⟨rfl,b2⟩)
        go_ret
        exact ⟨ret_num HE.out.symm,HBw.out.trans ((below_step (below_alloc wr _) b2).mono HBw.out.size)⟩
      ·obtain rfl : x = (P j).n:=by omega
       have HE : Hid (bodyCErr k (fun k => (P k).params) (P j) = if ((P j).ins ((P j).n - 1)).op = 8 ∨ ((P j).ins ((P j).n - 1)).op = 12 then 0 else 4):=bodyC_all HAy.out
       obtain ⟨va,d0,_⟩:=HCC.out _ HBw.out ((P j).n - 1) (by omega)
       obtain ⟨m,hm⟩ : ∃ m,(P j).n = m + 1:=⟨(P j).n - 1,by omega⟩
       rw [hm] at d0 HE x2 f3 f4 hcn ⊢
       simp only [Nat.add_sub_cancel] at d0 HE
       clear HCC HBX hm
       by_cases h8 : ((P j).ins m).op = 8
       ·have HE2 : Hid (bodyCErr k (fun k => (P k).params) (P j) = 0):=by show _ = _; rw [HE.out,if_pos (Or.inl h8)]
        have h8b : (((P j).ins m).op != 8) = false:=by simp [h8]
        clear h8 HE
        go_wp2_with fail
        go_roundw
        case rel => exact ⟨j + 1,by omega,by go_num,HBw,upTo HA.out HE2.out⟩
        case measure => simp [intOf]; omega
       have h8b : (((P j).ins m).op != 8) = true:=by simp [h8]
       by_cases h12 : ((P j).ins m).op = 12
       ·have HE2 : Hid (bodyCErr k (fun k => (P k).params) (P j) = 0):=by show _ = _; rw [HE.out,if_pos (Or.inr h12)]
        have h12b : (((P j).ins m).op != 12) = false:=by simp [h12]
        clear h8 h12 HE
        go_wp2_with fail
        go_roundw
        case rel => exact ⟨j + 1,by omega,by go_num,HBw,upTo HA.out HE2.out⟩
        case measure => simp [intOf]; omega
       ·have HE2 : bodyCErr k (fun k => (P k).params) (P j) = 4:=by rw [HE.out,if_neg (by omega)]
        have HE3 : Hid (codeErr k P = 4):=by show _ = _; rw [codeErr_body HM.out HA1.out hj HA.out (by rw [HE2]; decide),HE2]
        have h12b : (((P j).ins m).op != 12) = true:=by simp [h12]
        clear h8 h12 HE HE2
        go_wp2_with fail
        go_ret
        exact ⟨ret_num HE3.out.symm,HBw.out⟩
    ·obtain rfl : j = k:=by omega
     have HE : Hid (codeErr j P = 0):=codeErr_none HM.out HA1.out HA.out
     go_wp2_with fail
     go_ret
     exact ⟨ret_num HE.out.symm,HB.out⟩

end Go.Proofs.YtfaokaohhchdhaaGreatDoor
