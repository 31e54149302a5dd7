/- Are the registers of an instruction of those that there are, by the program. -/
import Derived.Test.YtfaokaohhchdhaaGreatDoorInsBase
import Derived.Deep.CutRange
namespace Go.Proofs.YtfaokaohhchdhaaGreatDoor
open Go.ChangeShapes Go.WideShapes Go.ChangeAt Go.RowKit

set_option maxHeartbeats 1000000 in
theorem fitsC (r regs : Int) (h1 : -1000000 ≤ regs) (h2 : regs ≤ 1000000) (p : Addr) (w : World) (h : w.cell? p = some (.int .i64 regs)) :
  Calls Tryz.prog 208 #[.int .i64 r,.pointer (some p)] w fun e w' => e = .returned (.bool (fromB r 0 (regs - 1)))∧w' = w:=by
 have HF : Hid (∀ n lo hi wi,Calls Tryz.prog 95 #[.int .i64 n,.int .i64 lo,.int .i64 hi] wi fun e w' => e = .returned (.bool (fromB n lo hi))∧w' = wi):=isFrom
 go_enter Tryz.func208,Tryz.ntmps208
 go_wp2_with (go_at_call 95; refine (HF.out _ _ _ _).mono ?_; rintro e w1 ⟨rfl,h1⟩; rw [h1]; clear h1)
 go_ret
 exact ⟨rfl,rfl⟩

set_option maxHeartbeats 4000000 in
theorem regsFit (i : In) (a : Option Addr) (cap : Nat) (regs : Int) (h1 : 1 ≤ regs) (h2 : regs ≤ 1000000) (w : World) :
  Calls Tryz.prog 174 #[.agg #[.int .i64 i.op,.int .i64 i.a,.int .i64 i.b,.int .i64 i.c,.slice a i.n cap],.int .i64 regs] w fun e w' => e = .returned (.bool (regsB i regs))∧Below w.heap.size w w':=by
 obtain ⟨op,x,y,z,n,f⟩:=i
 have hmf : ∀ (fn : Fn) (first cap : Array Value) (w : World),(Instr.makeFunc fn first cap).run Tryz.prog w = .ok (.func fn first cap) w:=fun _ _ _ _ => rfl
 have HFt : Hid (∀ r wi,wi.cell? ⟨w.heap.size + 1,0,none⟩ = some (.int .i64 regs)→Calls Tryz.prog 208 #[.int .i64 r,.pointer (some ⟨w.heap.size + 1,0,none⟩)] wi fun e w' => e = .returned (.bool (fromB r 0 (regs - 1)))∧w' = wi):=fun r wi h => fitsC r regs (by omega) (by omega) _ wi h
 have hbb : ∀ o1 o2 : Obj,Below w.heap.size w ((w.alloc o1).alloc o2):=fun o1 o2 => below_step (below_alloc _ _) (below_alloc _ _)
 have HB : Hid (∀ o1 o2 : Obj,Below w.heap.size w ((w.alloc o1).alloc o2)):=hbb
 clear hbb
 go_enter Tryz.func174,Tryz.ntmps174
 go_wp2_with (go_at_call 208; refine (HFt.out _ _ (by simp [go_sem])).mono ?_; rintro e w1 ⟨rfl,h1⟩; rw [h1]; clear h1)
 all_goals
  go_ret
  refine ⟨ret_bool ?_,HB.out _ _⟩
  go_light
  unfold regsB
  simp_all

set_option maxHeartbeats 1000000 in
theorem outC (r pm regs : Int) (h1 : -1000000 ≤ regs) (h2 : regs ≤ 1000000) (B : Nat) (w : World) (h : w.cell? ⟨B,1,none⟩ = some (.int .i64 regs)) :
  Calls Tryz.prog 178 #[.int .i64 r,.pointer (some ⟨B,0,none⟩)] w fun e w' => e = .returned (.bool (!fromB r 0 (regs - 1)))∧w' = w:=by
 have HF : Hid (∀ n lo hi wi,Calls Tryz.prog 95 #[.int .i64 n,.int .i64 lo,.int .i64 hi] wi fun e w' => e = .returned (.bool (fromB n lo hi))∧w' = wi):=isFrom
 have _:=pm
 go_enter Tryz.func178,Tryz.ntmps178
 go_wp2_with (go_at_call 95; refine (HF.out _ _ _ _).mono ?_; rintro e w1 ⟨rfl,h1⟩; rw [h1]; clear h1)
 go_ret
 exact ⟨rfl,rfl⟩

theorem argsB_no {i : In} {regs : Int} {k : Nat} (hk : k < i.n) (h : fromB (i.z k) 0 (regs - 1) = false) : argsB i regs = false:=by
 unfold argsB
 rw [decide_eq_false_iff_not]
 intro hh
 unfold fromB at h
 rw [decide_eq_false_iff_not] at h
 exact h (hh k hk)
theorem argsB_yes {i : In} {regs : Int} (h : ∀ k,k < i.n→fromB (i.z k) 0 (regs - 1) = true) : argsB i regs = true:=by
 unfold argsB
 rw [decide_eq_true_iff]
 intro k hk
 have:=h k hk
 unfold fromB at this
 exact of_decide_eq_true this

set_option maxHeartbeats 2000000 in
theorem indexOut (N : Nat) (i : In) (v : Value) (regs : Int) (h1 : -1000000 ≤ regs) (h2 : regs ≤ 1000000) (B : Nat) (w : World) (hN : N ≤ w.heap.size) (h : w.cell? ⟨B,1,none⟩ = some (.int .i64 regs)) (hv : NumsAt N w v i.n i.z) :
  Calls Tryz.prog 209 #[v,.func (.func 178) #[] #[.pointer (some ⟨B,0,none⟩)]] w fun e w' => (∃ z : Int,e = .returned (.int .i64 z)∧((z == -1) = argsB i regs)∧-1 ≤ z)∧w' = w:=by
 have HC : Hid (∀ r,Calls Tryz.prog 178 #[.int .i64 r,.pointer (some ⟨B,0,none⟩)] w fun e w' => e = .returned (.bool (!fromB r 0 (regs - 1)))∧w' = w):=fun r => outC r 0 regs h1 h2 B w h
 obtain ⟨a,cap,rfl,hn,hc⟩:=hv
 have HCe : Hid (i.n = 0 ∨ ∃ b o,a = some ⟨b,o,none⟩∧b < N∧∀ k,k < i.n→w.cell? ⟨b,o + k,none⟩ = some (.int .i64 (i.z k))):=hc
 clear hc h h1 h2
 obtain ⟨n,hni⟩ : ∃ n,i.n = n:=⟨_,rfl⟩
 have HN : Hid (i.n = n):=hni
 rw [hni] at HCe hn ⊢
 clear hni
 go_enter Tryz.func209,Tryz.ntmps209
 go_upto_region 2 with (fail)
 go_loopw [8] (fun q wr => ∃ k : Nat,k ≤ n∧q = .int .i64 k∧wr = w∧Hid (∀ x,x < k→fromB (i.z x) 0 (regs - 1) = true)) (fun q _ => n - (intOf q).toNat)
 case atStart => exact ⟨0,by omega,rfl,rfl,fun x hx => absurd hx (Nat.not_lt_zero _)⟩
 case round =>
  obtain ⟨k,hk0,rfl,rfl,HA⟩:=hrel
  by_cases hk : k < n
  ·obtain h | ⟨b,o,rfl,hb,hct⟩:=HCe.out
   ·omega
   have q0:=hct k hk
   have hki : (k : Int) < (n : Int):=by omega
   have HC2:=HC.out (i.z k)
   cases hf : fromB (i.z k) 0 (regs - 1) with
   | true =>
    rw [hf] at HC2
    have HC3 : Hid (Calls Tryz.prog 178 #[.int .i64 (i.z k),.pointer (some ⟨B,0,none⟩)] wr fun e w' => e = .returned (.bool false)∧w' = wr):=HC2
    have HF : Hid (fromB (i.z k) 0 (regs - 1) = true):=hf
    clear hct HC2 hf
    go_wp2_with (go_at_call 178; refine HC3.out.mono ?_; rintro e w1 ⟨rfl,h1⟩; rw [h1]; clear h1)
    go_roundw
    case rel =>
     refine ⟨k + 1,by omega,by go_num,trivial,fun x hx => ?_⟩
     by_cases e : x = k
     ·subst e; exact HF.out
     ·exact HA.out x (by omega)
    case measure => simp [intOf]; omega
   | false =>
    rw [hf] at HC2
    have HC3 : Hid (Calls Tryz.prog 178 #[.int .i64 (i.z k),.pointer (some ⟨B,0,none⟩)] wr fun e w' => e = .returned (.bool true)∧w' = wr):=HC2
    have HF : Hid (argsB i regs = false):=argsB_no (by rw [HN.out]; exact hk) hf
    clear hct HC2 hf
    go_wp2_with (go_at_call 178; refine HC3.out.mono ?_; rintro e w1 ⟨rfl,h1⟩; rw [h1]; clear h1)
    go_ret
    exact ⟨⟨_,rfl,by rw [HF.out]; simp,by omega⟩,rfl⟩
  ·obtain rfl : k = n:=by omega
   have HF : Hid (argsB i regs = true):=argsB_yes (fun x hx => HA.out x (by rw [HN.out] at hx; exact hx))
   go_wp2_with fail
   go_ret
   exact ⟨⟨-1,rfl,by rw [HF.out]; rfl,by omega⟩,rfl⟩

set_option maxHeartbeats 1000000 in
theorem containsOut (N : Nat) (i : In) (v : Value) (regs : Int) (h1 : -1000000 ≤ regs) (h2 : regs ≤ 1000000) (B : Nat) (w : World) (hN : N ≤ w.heap.size) (h : w.cell? ⟨B,1,none⟩ = some (.int .i64 regs)) (hv : NumsAt N w v i.n i.z) :
  Calls Tryz.prog 177 #[v,.func (.func 178) #[] #[.pointer (some ⟨B,0,none⟩)]] w fun e w' => e = .returned (.bool (!argsB i regs))∧w' = w:=by
 have HI : Hid (Calls Tryz.prog 209 #[v,.func (.func 178) #[] #[.pointer (some ⟨B,0,none⟩)]] w fun e w' => (∃ z : Int,e = .returned (.int .i64 z)∧((z == -1) = argsB i regs)∧-1 ≤ z)∧w' = w):=indexOut N i v regs h1 h2 B w hN h hv
 obtain ⟨a,cap,rfl,_⟩:=hv.shape
 clear h hv
 go_enter Tryz.func177,Tryz.ntmps177
 go_wp2_with (go_at_call 209; refine HI.out.mono ?_; rintro e w1 ⟨⟨z,rfl,hz,hz1⟩,h1⟩; rw [h1]; clear h1; have HZ : Hid ((z == -1) = argsB i regs):=hz; clear hz)
 go_ret
 refine ⟨ret_bool ?_,rfl⟩
 rw [← HZ.out,Bool.eq_iff_iff]
 simp
 omega

end Go.Proofs.YtfaokaohhchdhaaGreatDoor
