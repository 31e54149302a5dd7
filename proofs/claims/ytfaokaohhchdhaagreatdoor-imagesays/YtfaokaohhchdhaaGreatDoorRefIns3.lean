/- checkIns of the reckoning: one instruction's error, 3. -/
import Derived.Test.YtfaokaohhchdhaaGreatDoorRefIns0
namespace Go.Proofs.YtfaokaohhchdhaaGreatDoor
open Go.RowKit Go.Maps

set_option maxRecDepth 20000 in
set_option maxHeartbeats 8000000 in
theorem refIns_3 (N : Nat) (i : In) (va vc vp : Value) (pm regs : Int) (code np : Nat) (P : Nat→Pc) (w : World) (hN : N ≤ w.heap.size)
  (ha : NumsAt N w va i.n i.z) (hvc : ∃ x cp,vc = .slice x code cp) (hp : ProcsAt N w vp np P) (hwf : (Lit.int .i64 i.op).wf = true) (hok : okC i.op = true) (h7 : i.op = 3) :
  Calls Tryz.prog 49 #[.agg #[.int .i64 i.op,.int .i64 i.a,.int .i64 i.b,.int .i64 i.c,va],.agg #[.int .i64 pm,.int .i64 regs,vc],vp] w fun e w' => e = .returned (.int .i64 (insErr np (fun k => (P k).params) regs code i))∧Below w.heap.size w w':=by
 have hmm:=@run_makeMap
 obtain ⟨xa,ca,rfl,hna,hac⟩:=ha
 have HAC : Hid (i.n = 0 ∨ ∃ b o,xa = some ⟨b,o,none⟩∧b < N∧∀ k,k < i.n→w.cell? ⟨b,o + k,none⟩ = some (.int .i64 (i.z k))):=hac
 obtain ⟨xc,cc,rfl⟩:=hvc
 have HPr : Hid (ProcsAt N w vp np P):=hp
 obtain ⟨xp,cp,rfl,hnp,hpc⟩:=hp
 have HBl : Hid (∀ n m wi,Calls Tryz.prog 60 #[.int .i64 n,.int .i64 m] wi fun e w' => e = .returned (.bool (fromB n 0 (m - 1)))∧w' = wi):=rBelow
 have HIn : Hid (∀ n lo hi wi,Calls Tryz.prog 48 #[.int .i64 n,.int .i64 lo,.int .i64 hi] wi fun e w' => e = .returned (.bool (fromB n lo hi))∧w' = wi):=rIn
 have HFi : Hid (∀ n wi,Calls Tryz.prog 58 #[.int .i64 n] wi fun e w' => e = .returned (.bool (fromB n (-1000000000) 1000000000))∧w' = wi):=rFits
 have HU : Hid (∀ k : Nat,k < 3→∀ wi : World,(Instr.index 9 (.string (useC i.op)) (.int .i64 (k : Int))).run Tryz.prog wi = .ok (.int .u8 (uc i.op k)) wi):=fun k hk wi => useC_index i.op hok k hk wi
 have HOK : Hid (okC i.op = true):=hok
 have hwf1:=hwf
 obtain ⟨U,hUe⟩ : ∃ U,useC i.op = U:=⟨_,rfl⟩
 have HUe : Hid (useC i.op = U):=hUe
 have H7e : Hid (i.op = 3):=h7
 clear hac hpc hwf h7
 go_enter Tryz.func49,Tryz.ntmps49
 go_upto_region 2 with (first
  | (with_reducible refine at_ins_ ?_; refine use_map13 _ _ rfl rfl rfl rfl rfl rfl rfl rfl rfl rfl rfl rfl rfl rfl rfl rfl rfl rfl rfl rfl rfl rfl rfl rfl rfl rfl rfl rfl rfl rfl rfl rfl rfl rfl rfl rfl rfl rfl rfl _ rfl (by simp) ?_; intro w1 htab hgr; obtain ⟨hbx,hby,hb1,hsz1⟩:=boxes_grown hgr; have m0:=hbx 0 (.int .i64 i.op) rfl)
  | (at_lookup; refine look_ins _ rfl _ _ rfl _ _ rfl htab _ rfl hwf1 ?_))
 rw [hUe] at HU
 have m1:=hbx 1 (.int .i64 i.a) rfl
 have m2:=hbx 2 (.int .i64 i.b) rfl
 have m3:=hbx 3 (.int .i64 i.c) rfl
 have m4:=hbx 4 (.slice xa i.n ca) rfl
 have n0:=hby 0 (.int .i64 pm) rfl
 have n1:=hby 1 (.int .i64 regs) rfl
 have n2:=hby 2 (.slice xc code cc) rfl
 clear hgr htab hbx hby hUe hok hmm
 go_upto_region 5 with (fail)
 have hb2:=below_step hb1 (below_alloc w1 (.cells #[.int .i64 i.a,.int .i64 i.b,.int .i64 i.c] 3))
 have HN3 : Hid (∀ k,k < 3→∀ wi,Below (w1.alloc (.cells #[.int .i64 i.a,.int .i64 i.b,.int .i64 i.c] 3)).heap.size (w1.alloc (.cells #[.int .i64 i.a,.int .i64 i.b,.int .i64 i.c] 3)) wi→wi.cell? ⟨w1.heap.size,k,none⟩ = some (.int .i64 (abc i k))):=fun k hk wi hb => by
  rcases (show k = 0 ∨ k = 1 ∨ k = 2 by omega) with rfl | rfl | rfl
  ·exact box_in hb 0 rfl
  ·exact box_in hb 1 rfl
  ·exact box_in hb 2 rfl
 have hs4 : (w1.alloc (.cells #[.int .i64 i.a,.int .i64 i.b,.int .i64 i.c] 3)).heap.size = w1.heap.size + 1:=by simp
 have hx : ∀ o : Obj,Below w1.heap.size w1 (w1.alloc o):=fun o => below_alloc w1 o
 have m0':=(hx (.cells #[.int .i64 i.a,.int .i64 i.b,.int .i64 i.c] 3)).cell (p:=⟨w.heap.size,0,none⟩) (by show w.heap.size < _; omega)
 have m1':=(hx (.cells #[.int .i64 i.a,.int .i64 i.b,.int .i64 i.c] 3)).cell (p:=⟨w.heap.size,1,none⟩) (by show w.heap.size < _; omega)
 have m2':=(hx (.cells #[.int .i64 i.a,.int .i64 i.b,.int .i64 i.c] 3)).cell (p:=⟨w.heap.size,2,none⟩) (by show w.heap.size < _; omega)
 have m3':=(hx (.cells #[.int .i64 i.a,.int .i64 i.b,.int .i64 i.c] 3)).cell (p:=⟨w.heap.size,3,none⟩) (by show w.heap.size < _; omega)
 have m4':=(hx (.cells #[.int .i64 i.a,.int .i64 i.b,.int .i64 i.c] 3)).cell (p:=⟨w.heap.size,4,none⟩) (by show w.heap.size < _; omega)
 have n1':=(hx (.cells #[.int .i64 i.a,.int .i64 i.b,.int .i64 i.c] 3)).cell (p:=⟨w.heap.size + 1,1,none⟩) (by show w.heap.size + 1 < _; omega)
 have n2':=(hx (.cells #[.int .i64 i.a,.int .i64 i.b,.int .i64 i.c] 3)).cell (p:=⟨w.heap.size + 1,2,none⟩) (by show w.heap.size + 1 < _; omega)
 rw [m0] at m0'
 rw [m1] at m1'
 rw [m2] at m2'
 rw [m3] at m3'
 rw [m4] at m4'
 rw [n1] at n1'
 rw [n2] at n2'
 clear m0 m1 m2 m3 m4 n0 n1 n2 hx
 generalize hX : w1.heap.size = X at *
 generalize hW : w1.alloc (.cells #[.int .i64 i.a,.int .i64 i.b,.int .i64 i.c] 3) = W at *
 clear hW hb1
 have hXW : X < W.heap.size:=by omega
 have hwX : w.heap.size + 1 + 1 < X:=by omega
 clear hs4 hX hsz1
 go_loopw [34] (fun q wr => ∃ k : Nat,k ≤ 3∧q = .int .i64 k∧wr = W∧Hid (∀ x,x < k→uc i.op x = 114→fromB (abc i x) 0 (regs - 1) = true)) (fun q _ => 3 - (intOf q).toNat)
 case atStart => exact ⟨0,by omega,rfl,rfl,fun x hx => absurd hx (Nat.not_lt_zero _)⟩
 case round =>
  obtain ⟨k,hk0,rfl,rfl,HA⟩:=hrel
  by_cases hk : k < 3
  ·have hki : (k : Int) < 3:=by omega
   have hidx:=HU.out k hk
   have q0:=HN3.out k hk wr (Below.refl _ _)
   by_cases hu : uc i.op k = 114
   ·have hub : (uc i.op k == 114) = true:=by simp [hu]
    cases hf : fromB (abc i k) 0 (regs - 1) with
    | true =>
     have HF : Hid (uc i.op k = 114→fromB (abc i k) 0 (regs - 1) = true):=fun _ => hf
     have HB2 : Hid (∀ wi,Calls Tryz.prog 60 #[.int .i64 (abc i k),.int .i64 regs] wi fun e w' => e = .returned (.bool true)∧w' = wi):=fun wi => by have:=HBl.out (abc i k) regs wi; rw [hf] at this; exact this
     clear hf hu
     go_wp2_with (first | (go_at_call 60; refine (HB2.out _).mono ?_; rintro e wz ⟨rfl,hz⟩; rw [hz]; clear hz))
     go_roundw
     case rel => exact ⟨k + 1,by omega,by go_num,trivial,upTo HA.out HF.out⟩
     case measure => simp [intOf]; omega
    | false =>
     have HE : Hid (insErr np (fun k => (P k).params) regs code i = 3):=insErr_regs HOK.out (regsB_bad HOK.out hk hu hf)
     have HB2 : Hid (∀ wi,Calls Tryz.prog 60 #[.int .i64 (abc i k),.int .i64 regs] wi fun e w' => e = .returned (.bool false)∧w' = wi):=fun wi => by have:=HBl.out (abc i k) regs wi; rw [hf] at this; exact this
     clear hf hu
     go_wp2_with (first | (go_at_call 60; refine (HB2.out _).mono ?_; rintro e wz ⟨rfl,hz⟩; rw [hz]; clear hz))
     go_ret
     exact ⟨ret_num HE.out.symm,hb2⟩
   ·have hub : (uc i.op k == 114) = false:=by simp [hu]
    have HF : Hid (uc i.op k = 114→fromB (abc i k) 0 (regs - 1) = true):=fun h => absurd h hu
    clear hu
    go_wp2_with fail
    go_roundw
    case rel => exact ⟨k + 1,by omega,by go_num,trivial,upTo HA.out HF.out⟩
    case measure => simp [intOf]; omega
  ·obtain rfl : k = 3:=by omega
   have HRg : Hid (regsB i regs = true):=regsB_all HOK.out HA.out
   clear HA
   have h7:=H7e.out
   have c7 : (i.op == 7) = false:=by simp; omega
   have c1 : (i.op == 1) = false:=by simp; omega
   have c5 : (i.op == 5) = false:=by simp; omega
   have c4 : (i.op == 4) = false:=by simp; omega
   have c6 : (i.op == 6) = false:=by simp; omega
   have c3 : (i.op == 3) = true:=by simp [h7]
   have c12 : (i.op == 12) = false:=by simp; omega
   have c13 : (i.op == 13) = false:=by simp; omega
   have H7 : Hid (¬ i.op = 7):=(by show ¬ i.op = 7; omega)
   have HWho : Hid (¬ (i.op = 7∧fromB i.b 0 ((np : Int) - 1) = false)):=fun h => H7.out h.1
   have HAr : Hid (argsOf (fun k => (P k).params) i = 1):=by show _ = _; unfold argsOf; rw [if_neg H7.out,if_pos h7]
   have HR0 : Hid (restB i code = (decide (i.n = 1) && fromB (i.z 0) 1 5)):=by show _ = _; unfold restB; simp [h7]
   by_cases hn1 : i.n = 1
   ·obtain ⟨ab,ao,e1,hab,hcell⟩ : ∃ b o,xa = some ⟨b,o,none⟩∧b < N∧∀ k,k < i.n→w.cell? ⟨b,o + k,none⟩ = some (.int .i64 (i.z k)):=by
     rcases HAC.out with h | h
     ·omega
     ·exact h
    have qz : wr.cell? ⟨ab,ao,none⟩ = some (.int .i64 (i.z 0)):=by
     rw [hb2.cell (p:=⟨ab,ao,none⟩) (Nat.lt_of_lt_of_le hab hN)]; exact hcell 0 (by omega)
    have HXa : Hid (xa = some ⟨ab,ao,none⟩):=e1
    rw [hn1,e1] at m4'
    have HR1 : Hid (restB i code = fromB (i.z 0) 1 5):=by show _ = _; rw [HR0.out,hn1]; simp
    have HRb : Hid (∀ wi,Calls Tryz.prog 48 #[.int .i64 (i.z 0),.int .i64 1,.int .i64 5] wi fun e w' => e = .returned (.bool (restB i code))∧w' = wi):=fun wi => by rw [HR1.out]; exact HIn.out _ _ _ wi
    have HN1 : Hid (i.n = 1):=hn1
    clear hcell e1
    cases hrest : restB i code with
    | false =>
     have HE : Hid (insErr np (fun k => (P k).params) regs code i = 3):=insErr_rest HOK.out HRg.out HWho.out hrest
     rw [hrest] at HRb
     clear hrest h7 hn1
     go_wp2_with (first | (go_at_call 48; refine (HRb.out _).mono ?_; rintro e wz ⟨rfl,hz⟩; rw [hz]; clear hz))
     go_ret
     exact ⟨ret_num HE.out.symm,hb2⟩
    | true =>
     have HRest : Hid (restB i code = true):=hrest
     rw [hrest] at HRb
     clear hrest h7 hn1
     go_upto_region 29 with (first | (go_at_call 48; refine (HRb.out _).mono ?_; rintro e wz ⟨rfl,hz⟩; rw [hz]; clear hz))
     rw [← HN1.out,← HXa.out] at m4'
     go_upto_region 32 with (fail)
     have HN4 : Hid (∀ k,k < 3→∀ wi,Below (wr.alloc (.cells #[.int .i64 i.a,.int .i64 i.b,.int .i64 i.c] 3)).heap.size (wr.alloc (.cells #[.int .i64 i.a,.int .i64 i.b,.int .i64 i.c] 3)) wi→wi.cell? ⟨wr.heap.size,k,none⟩ = some (.int .i64 (abc i k))):=fun k hk wi hb => by
      rcases (show k = 0 ∨ k = 1 ∨ k = 2 by omega) with rfl | rfl | rfl
      ·exact box_in hb 0 rfl
      ·exact box_in hb 1 rfl
      ·exact box_in hb 2 rfl
     have HMm : Hid (∀ wi,Below wr.heap.size wr wi→wi.cell? ⟨w.heap.size,0,none⟩ = some (.int .i64 i.op)∧wi.cell? ⟨w.heap.size,4,none⟩ = some (.slice xa i.n ca)∧wi.cell? ⟨w.heap.size + 1,1,none⟩ = some (.int .i64 regs)):=fun wi hb => by
      refine ⟨?_,?_,?_⟩
      ·rw [hb.cell (p:=⟨w.heap.size,0,none⟩) (by show w.heap.size < _; omega)]; exact m0'
      ·rw [hb.cell (p:=⟨w.heap.size,4,none⟩) (by show w.heap.size < _; omega)]; exact m4'
      ·rw [hb.cell (p:=⟨w.heap.size + 1,1,none⟩) (by show w.heap.size + 1 < _; omega)]; exact n1'
     have hb3:=below_step hb2 (below_alloc wr (.cells #[.int .i64 i.a,.int .i64 i.b,.int .i64 i.c] 3))
     have hb4:=below_alloc wr (.cells #[.int .i64 i.a,.int .i64 i.b,.int .i64 i.c] 3)
     obtain ⟨e0,e4,f1⟩:=HMm.out _ hb4
     have hs5 : (wr.alloc (.cells #[.int .i64 i.a,.int .i64 i.b,.int .i64 i.c] 3)).heap.size = wr.heap.size + 1:=by simp
     clear m0' m1' m2' m3' m4' n1' n2' HMm hb4
     generalize hY : wr.heap.size = Y at *
     generalize hW5 : wr.alloc (.cells #[.int .i64 i.a,.int .i64 i.b,.int .i64 i.c] 3) = W5 at *
     clear hW5
     have hYW : Y < W5.heap.size:=by omega
     clear hs5 hY
     go_loopw [115] (fun q wy => ∃ k : Nat,k ≤ 3∧q = .int .i64 k∧wy = W5∧Hid (∀ x,x < k→uc i.op x = 45→abc i x = 0)) (fun q _ => 3 - (intOf q).toNat)
     case atStart => exact ⟨0,by omega,rfl,rfl,fun x hx => absurd hx (Nat.not_lt_zero _)⟩
     case round =>
      obtain ⟨k,hk0,rfl,hwy,HA⟩:=hrel
      subst hwy
      by_cases hk : k < 3
      ·have hki : (k : Int) < 3:=by omega
       have hidx:=HU.out k hk
       have q0:=HN4.out k hk _ (Below.refl _ _)
       by_cases hu : uc i.op k = 45
       ·have hub : (uc i.op k == 45) = true:=by simp [hu]
        by_cases hz : abc i k = 0
        ·have HF : Hid (uc i.op k = 45→abc i k = 0):=fun _ => hz
         have hzb : (abc i k != 0) = false:=by simp [hz]
         clear hu hz
         go_wp2_with fail
         go_roundw
         case rel => exact ⟨k + 1,by omega,by go_num,trivial,upTo HA.out HF.out⟩
         case measure => simp [intOf]; omega
        ·have HE : Hid (insErr np (fun k => (P k).params) regs code i = 4):=insErr_bare HOK.out HRg.out HWho.out HRest.out (bareB_zero (par:=fun k => (P k).params) HOK.out hk hu hz)
         have hzb : (abc i k != 0) = true:=by simp [hz]
         clear hu hz
         go_wp2_with fail
         go_ret
         exact ⟨ret_num HE.out.symm,hb3⟩
       ·have hub : (uc i.op k == 45) = false:=by simp [hu]
        have HF : Hid (uc i.op k = 45→abc i k = 0):=fun h => absurd h hu
        clear hu
        go_wp2_with fail
        go_roundw
        case rel => exact ⟨k + 1,by omega,by go_num,trivial,upTo HA.out HF.out⟩
        case measure => simp [intOf]; omega
      ·obtain rfl : k = 3:=by omega
       by_cases hlen : (i.n : Int) = 1
       ·have hlb : ((i.n : Int) != 1) = false:=by rw [bne_eq_false_iff_eq]; exact hlen
        have HBare : Hid (¬ (bareB i = false ∨ (i.op = 7∧¬ (i.n : Int) = (P i.b.toNat).params))):=bareB_good (par:=fun k => (P k).params) HOK.out HRest.out HA.out (by rw [HAr.out]; exact hlen)
        clear hlen HA
        go_upto_region 40 with (fail)
        obtain ⟨n9,hn9⟩ : ∃ n9,i.n = n9:=⟨_,rfl⟩
        have HN9 : Hid (i.n = n9):=hn9
        rw [hn9] at e4 hlb HAC hna ⊢
        clear hn9
        go_loopw [137] (fun q wy => ∃ k : Nat,k ≤ n9∧q = .int .i64 k∧wy = wr∧Hid (∀ x,x < k→i.op = 7→fromB (i.z x) 0 (regs - 1) = true)) (fun q _ => n9 - (intOf q).toNat)
        case atStart => exact ⟨0,by omega,rfl,rfl,fun x hx => absurd hx (Nat.not_lt_zero _)⟩
        case round =>
         obtain ⟨k,hk0,rfl,hwy,HA⟩:=hrel
         subst hwy
         by_cases hk : k < n9
         ·have hki : (k : Int) < (n9 : Int):=by omega
          obtain h | ⟨ab,ao,rfl,hab,hcell⟩:=HAC.out
          ·omega
          have q0 : wr.cell? ⟨ab,ao + k,none⟩ = some (.int .i64 (i.z k)):=by
           rw [hb3.cell (p:=⟨ab,ao + k,none⟩) (Nat.lt_of_lt_of_le hab hN)]; exact hcell k hk
          clear hcell
          have HF : Hid (i.op = 7→fromB (i.z k) 0 (regs - 1) = true):=fun h => absurd h H7.out
          go_wp2_with fail
          go_roundw
          case rel => exact ⟨k + 1,by omega,by go_num,trivial,upTo HA.out HF.out⟩
          case measure => simp [intOf]; omega
         ·obtain rfl : k = n9:=by omega
          have HE : Hid (insErr np (fun k => (P k).params) regs code i = 0):=insErr_none HOK.out HRg.out HWho.out HRest.out HBare.out (fun h => by
           have:=argsYes (i:=i) (regs:=regs) (fun x hx => HA.out x (by rw [HN9.out] at hx; exact hx) h.1)
           rw [this] at h
           cases h.2)
          go_wp2_with fail
          go_ret
          exact ⟨ret_num HE.out.symm,hb3⟩
       ·have HE : Hid (insErr np (fun k => (P k).params) regs code i = 4):=insErr_bare HOK.out HRg.out HWho.out HRest.out (bareB_len (par:=fun k => (P k).params) HOK.out HRest.out (by rw [HAr.out]; exact hlen))
        have hlb : ((i.n : Int) != 1) = true:=by rw [bne_iff_ne]; exact hlen
        clear hlen
        go_wp2_with fail
        go_ret
        exact ⟨ret_num HE.out.symm,hb3⟩
   ·have hnb : ((i.n : Int) == 1) = false:=by simp; omega
    have HE : Hid (insErr np (fun k => (P k).params) regs code i = 3):=insErr_rest HOK.out HRg.out HWho.out (by rw [HR0.out]; simp [hn1])
    clear h7 hn1
    go_wp2_with fail
    go_ret
    exact ⟨ret_num HE.out.symm,hb2⟩

end Go.Proofs.YtfaokaohhchdhaaGreatDoor
