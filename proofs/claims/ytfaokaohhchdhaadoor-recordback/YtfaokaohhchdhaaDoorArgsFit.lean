/- Is one of the Args no register, by the program; checkIns: one instruction's error. -/
import Derived.Test.YtfaokaohhchdhaaDoorRegsFit
import Derived.Deep.CutRange
namespace Go.Proofs.YtfaokaohhchdhaaDoor
open Go.ChangeShapes Go.WideShapes Go.ChangeAt Go.RowKit

set_option maxHeartbeats 1000000 in
theorem outC (r pm regs : Int) (h1 : -1000000≤regs) (h2 : regs≤1000000) (B : Nat) (w : World) (h : w.cell? ⟨B,1,none⟩=some (.int .i64 regs)) :
  Calls Tryd.prog 86 #[.int .i64 r,.pointer (some ⟨B,0,none⟩)] w fun e w' => e=.returned (.bool (!fromB r 0 (regs - 1)))∧w'=w:=by
 have HF : Hid (∀ n lo hi wi,Calls Tryd.prog 48 #[.int .i64 n,.int .i64 lo,.int .i64 hi] wi fun e w' => e=.returned (.bool (fromB n lo hi))∧w'=wi):=isFrom
 have _:=pm
 go_enter Tryd.func86,Tryd.ntmps86
 go_wp2_with (go_at_call 48; refine (HF.out _ _ _ _).mono ?_; rintro e w1 ⟨rfl,h1⟩; rw [h1]; clear h1)
 go_ret
 exact ⟨rfl,rfl⟩

theorem argsB_no {i : In} {regs : Int} {k : Nat} (hk : k < i.n) (h : fromB (i.z k) 0 (regs - 1)=false) : argsB i regs=false:=by
 unfold argsB
 rw [decide_eq_false_iff_not]
 intro hh
 unfold fromB at h
 rw [decide_eq_false_iff_not] at h
 exact h (hh k hk)
theorem argsB_yes {i : In} {regs : Int} (h : ∀ k,k < i.n→fromB (i.z k) 0 (regs - 1)=true) : argsB i regs=true:=by
 unfold argsB
 rw [decide_eq_true_iff]
 intro k hk
 have:=h k hk
 unfold fromB at this
 exact of_decide_eq_true this

set_option maxHeartbeats 2000000 in
theorem indexOut (N : Nat) (i : In) (v : Value) (regs : Int) (h1 : -1000000≤regs) (h2 : regs≤1000000) (B : Nat) (w : World) (hN : N≤w.heap.size) (h : w.cell? ⟨B,1,none⟩=some (.int .i64 regs)) (hv : NumsAt N w v i.n i.z) :
  Calls Tryd.prog 104 #[v,.func (.func 86) #[] #[.pointer (some ⟨B,0,none⟩)]] w fun e w' => (∃ z : Int,e=.returned (.int .i64 z)∧((z == -1)=argsB i regs)∧-1≤z)∧w'=w:=by
 have HC : Hid (∀ r,Calls Tryd.prog 86 #[.int .i64 r,.pointer (some ⟨B,0,none⟩)] w fun e w' => e=.returned (.bool (!fromB r 0 (regs - 1)))∧w'=w):=fun r => outC r 0 regs h1 h2 B w h
 obtain ⟨a,cap,rfl,hn,hc⟩:=hv
 have HCe : Hid (i.n=0∨∃ b o,a=some ⟨b,o,none⟩∧b < N∧∀ k,k < i.n→w.cell? ⟨b,o + k,none⟩=some (.int .i64 (i.z k))):=hc
 clear hc h h1 h2
 obtain ⟨n,hni⟩ : ∃ n,i.n=n:=⟨_,rfl⟩
 have HN : Hid (i.n=n):=hni
 rw [hni] at HCe hn ⊢
 clear hni
 go_enter Tryd.func104,Tryd.ntmps104
 go_upto_region 2 with (fail)
 go_loopw [8] (fun q wr => ∃ k : Nat,k≤n∧q=.int .i64 k∧wr=w∧Hid (∀ x,x < k→fromB (i.z x) 0 (regs - 1)=true)) (fun q _ => n - (intOf q).toNat)
 case atStart => exact ⟨0,by omega,rfl,rfl,fun x hx => absurd hx (Nat.not_lt_zero _)⟩
 case round =>
  obtain ⟨k,hk0,rfl,rfl,HA⟩:=hrel
  by_cases hk : k < n
  ·obtain h | ⟨b,o,rfl,hb,hct⟩:=HCe.out
   ·omega
   have q0:=hct k hk
   have hki : (k : Int) < (n : Int):=by omega
   have HC2:=HC.out (i.z k)
   cases hf : fromB (i.z k) 0 (regs - 1) with
   | true =>
    rw [hf] at HC2
    have HC3 : Hid (Calls Tryd.prog 86 #[.int .i64 (i.z k),.pointer (some ⟨B,0,none⟩)] wr fun e w' => e=.returned (.bool false)∧w'=wr):=HC2
    have HF : Hid (fromB (i.z k) 0 (regs - 1)=true):=hf
    clear hct HC2 hf
    go_wp2_with (go_at_call 86; refine HC3.out.mono ?_; rintro e w1 ⟨rfl,h1⟩; rw [h1]; clear h1)
    go_roundw
    case rel =>
     refine ⟨k + 1,by omega,by go_num,trivial,fun x hx => ?_⟩
     by_cases e : x=k
     ·subst e; exact HF.out
     ·exact HA.out x (by omega)
    case measure => simp [intOf]; omega
   | false =>
    rw [hf] at HC2
    have HC3 : Hid (Calls Tryd.prog 86 #[.int .i64 (i.z k),.pointer (some ⟨B,0,none⟩)] wr fun e w' => e=.returned (.bool true)∧w'=wr):=HC2
    have HF : Hid (argsB i regs=false):=argsB_no (by rw [HN.out]; exact hk) hf
    clear hct HC2 hf
    go_wp2_with (go_at_call 86; refine HC3.out.mono ?_; rintro e w1 ⟨rfl,h1⟩; rw [h1]; clear h1)
    go_ret
    exact ⟨⟨_,rfl,by rw [HF.out]; simp,by omega⟩,rfl⟩
  ·obtain rfl : k=n:=by omega
   have HF : Hid (argsB i regs=true):=argsB_yes (fun x hx => HA.out x (by rw [HN.out] at hx; exact hx))
   go_wp2_with fail
   go_ret
   exact ⟨⟨-1,rfl,by rw [HF.out]; rfl,by omega⟩,rfl⟩

set_option maxHeartbeats 1000000 in
theorem containsOut (N : Nat) (i : In) (v : Value) (regs : Int) (h1 : -1000000≤regs) (h2 : regs≤1000000) (B : Nat) (w : World) (hN : N≤w.heap.size) (h : w.cell? ⟨B,1,none⟩=some (.int .i64 regs)) (hv : NumsAt N w v i.n i.z) :
  Calls Tryd.prog 85 #[v,.func (.func 86) #[] #[.pointer (some ⟨B,0,none⟩)]] w fun e w' => e=.returned (.bool (!argsB i regs))∧w'=w:=by
 have HI : Hid (Calls Tryd.prog 104 #[v,.func (.func 86) #[] #[.pointer (some ⟨B,0,none⟩)]] w fun e w' => (∃ z : Int,e=.returned (.int .i64 z)∧((z == -1)=argsB i regs)∧-1≤z)∧w'=w):=indexOut N i v regs h1 h2 B w hN h hv
 obtain ⟨a,cap,rfl,_⟩:=hv.shape
 clear h hv
 go_enter Tryd.func85,Tryd.ntmps85
 go_wp2_with (go_at_call 104; refine HI.out.mono ?_; rintro e w1 ⟨⟨z,rfl,hz,hz1⟩,h1⟩; rw [h1]; clear h1; have HZ : Hid ((z == -1)=argsB i regs):=hz; clear hz)
 go_ret
 refine ⟨ret_bool ?_,rfl⟩
 rw [← HZ.out,Bool.eq_iff_iff]
 simp
 omega

end Go.Proofs.YtfaokaohhchdhaaDoor
