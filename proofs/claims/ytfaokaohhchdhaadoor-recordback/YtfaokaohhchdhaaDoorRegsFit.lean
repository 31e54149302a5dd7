/- Are the registers of an instruction of those that there are, by the program. -/
import Derived.Test.YtfaokaohhchdhaaDoorInsBase
namespace Go.Proofs.YtfaokaohhchdhaaDoor
open Go.ChangeShapes Go.WideShapes Go.ChangeAt Go.RowKit

set_option maxHeartbeats 1000000 in
theorem fitsC (r regs : Int) (h1 : -1000000≤regs) (h2 : regs≤1000000) (p : Addr) (w : World) (h : w.cell? p=some (.int .i64 regs)) :
  Calls Tryd.prog 103 #[.int .i64 r,.pointer (some p)] w fun e w' => e=.returned (.bool (fromB r 0 (regs - 1)))∧w'=w:=by
 have HF : Hid (∀ n lo hi wi,Calls Tryd.prog 48 #[.int .i64 n,.int .i64 lo,.int .i64 hi] wi fun e w' => e=.returned (.bool (fromB n lo hi))∧w'=wi):=isFrom
 go_enter Tryd.func103,Tryd.ntmps103
 go_wp2_with (go_at_call 48; refine (HF.out _ _ _ _).mono ?_; rintro e w1 ⟨rfl,h1⟩; rw [h1]; clear h1)
 go_ret
 exact ⟨rfl,rfl⟩

set_option maxHeartbeats 4000000 in
theorem regsFit (i : In) (a : Option Addr) (cap : Nat) (regs : Int) (h1 : 1≤regs) (h2 : regs≤1000000) (w : World) :
  Calls Tryd.prog 82 #[.agg #[.int .i64 i.op,.int .i64 i.a,.int .i64 i.b,.int .i64 i.c,.slice a i.n cap],.int .i64 regs] w fun e w' => e=.returned (.bool (regsB i regs))∧Below w.heap.size w w':=by
 obtain ⟨op,x,y,z,n,f⟩:=i
 have hmf : ∀ (fn : Fn) (first cap : Array Value) (w : World),(Instr.makeFunc fn first cap).run Tryd.prog w=.ok (.func fn first cap) w:=fun _ _ _ _ => rfl
 have HFt : Hid (∀ r wi,wi.cell? ⟨w.heap.size + 1,0,none⟩=some (.int .i64 regs)→Calls Tryd.prog 103 #[.int .i64 r,.pointer (some ⟨w.heap.size + 1,0,none⟩)] wi fun e w' => e=.returned (.bool (fromB r 0 (regs - 1)))∧w'=wi):=fun r wi h => fitsC r regs (by omega) (by omega) _ wi h
 have hbb : ∀ o1 o2 : Obj,Below w.heap.size w ((w.alloc o1).alloc o2):=fun o1 o2 => below_step (below_alloc _ _) (below_alloc _ _)
 have HB : Hid (∀ o1 o2 : Obj,Below w.heap.size w ((w.alloc o1).alloc o2)):=hbb
 clear hbb
 go_enter Tryd.func82,Tryd.ntmps82
 go_wp2_with (go_at_call 103; refine (HFt.out _ _ (by simp [go_sem])).mono ?_; rintro e w1 ⟨rfl,h1⟩; rw [h1]; clear h1)
 all_goals
  go_ret
  refine ⟨ret_bool ?_,HB.out _ _⟩
  go_light
  unfold regsB
  simp_all

end Go.Proofs.YtfaokaohhchdhaaDoor
