/- checkIns: one instruction's error, by the program. -/
import Derived.Test.YtfaokaohhchdhaaDoorCInsA
import Derived.Test.YtfaokaohhchdhaaDoorCInsB
import Derived.Test.YtfaokaohhchdhaaDoorCIns7
import Derived.Test.YtfaokaohhchdhaaDoorCIns7c
namespace Go.Proofs.YtfaokaohhchdhaaDoor
open Go.ChangeShapes Go.WideShapes Go.ChangeAt Go.RowKit

set_option maxRecDepth 20000 in
set_option maxHeartbeats 4000000 in
theorem cIns_0 (N : Nat) (i : In) (va vc vp : Value) (pm regs : Int) (code : Nat) (hr1 : 1≤regs) (hr2 : regs≤40) (hc1 : 1≤code) (hc2 : code≤2000) (w : World) (hN : N≤w.heap.size)
  (ha : NumsAt N w va i.n i.z) (hvc : ∃ x cp,vc=.slice x code cp) (e1 : fromB i.op 1 13=false) :
  Calls Tryd.prog 65 #[.agg #[.int .i64 i.op,.int .i64 i.a,.int .i64 i.b,.int .i64 i.c,va],.agg #[.int .i64 pm,.int .i64 regs,vc],vp] w fun e w' => e=.returned (.int .i64 4)∧Below w.heap.size w w':=by
 obtain ⟨xa,ca,rfl,hna⟩:=ha.shape
 obtain ⟨xc,cc,rfl⟩:=hvc
 have HF : Hid (∀ n lo hi wi,Calls Tryd.prog 48 #[.int .i64 n,.int .i64 lo,.int .i64 hi] wi fun e w' => e=.returned (.bool (fromB n lo hi))∧w'=wi):=isFrom
 have HRg : Hid (∀ wi,Calls Tryd.prog 82 #[.agg #[.int .i64 i.op,.int .i64 i.a,.int .i64 i.b,.int .i64 i.c,.slice xa i.n ca],.int .i64 regs] wi fun e w' => e=.returned (.bool (regsB i regs))∧Below wi.heap.size wi w'):=fun wi => regsFit i xa ca regs hr1 (by omega) wi
 have HRs : Hid (∀ wi,Below w.heap.size w wi→Calls Tryd.prog 83 #[.agg #[.int .i64 i.op,.int .i64 i.a,.int .i64 i.b,.int .i64 i.c,.slice xa i.n ca],.int .i64 code] wi fun e w' => e=.returned (.bool (restB i code))∧Below wi.heap.size wi w'):=fun wi hb => restFits N i _ code (by omega) (by omega) wi (Nat.le_trans hN hb.size) (ha.below (hb.mono hN))
 have HBr : Hid (∀ wi,Calls Tryd.prog 84 #[.agg #[.int .i64 i.op,.int .i64 i.a,.int .i64 i.b,.int .i64 i.c,.slice xa i.n ca]] wi fun e w' => e=.returned (.bool (bareB i))∧Below wi.heap.size wi w'):=fun wi => bare i xa ca wi
 have HCo : Hid (∀ wi,Below w.heap.size w wi→wi.cell? ⟨w.heap.size + 1,1,none⟩=some (.int .i64 regs)→Calls Tryd.prog 85 #[.slice xa i.n ca,.func (.func 86) #[] #[.pointer (some ⟨w.heap.size + 1,0,none⟩)]] wi fun e w' => e=.returned (.bool (!argsB i regs))∧w'=wi):=fun wi hb hc => containsOut N i _ regs (by omega) (by omega) _ wi (Nat.le_trans hN hb.size) hc (ha.below (hb.mono hN))
 have HBx : Hid (∀ w1,Below ((w.alloc (.cells #[.int .i64 i.op,.int .i64 i.a,.int .i64 i.b,.int .i64 i.c,.slice xa i.n ca] 60)).alloc (.cells #[.int .i64 pm,.int .i64 regs,.slice xc code cc] 58)).heap.size ((w.alloc (.cells #[.int .i64 i.op,.int .i64 i.a,.int .i64 i.b,.int .i64 i.c,.slice xa i.n ca] 60)).alloc (.cells #[.int .i64 pm,.int .i64 regs,.slice xc code cc] 58)) w1 →
   (w1.cell? ⟨w.heap.size,0,none⟩=some (.int .i64 i.op)∧w1.cell? ⟨w.heap.size,1,none⟩=some (.int .i64 i.a)∧w1.cell? ⟨w.heap.size,2,none⟩=some (.int .i64 i.b)∧w1.cell? ⟨w.heap.size,3,none⟩=some (.int .i64 i.c)∧w1.cell? ⟨w.heap.size,4,none⟩=some (.slice xa i.n ca)) ∧
   (w1.cell? ⟨w.heap.size + 1,0,none⟩=some (.int .i64 pm)∧w1.cell? ⟨w.heap.size + 1,1,none⟩=some (.int .i64 regs)∧w1.cell? ⟨w.heap.size + 1,2,none⟩=some (.slice xc code cc))):=fun w1 hb => by
  have hb1:=below_step (below_alloc (w.alloc (.cells #[.int .i64 i.op,.int .i64 i.a,.int .i64 i.b,.int .i64 i.c,.slice xa i.n ca] 60)) (.cells #[.int .i64 pm,.int .i64 regs,.slice xc code cc] 58)) hb
  have r0:=box_in hb 0 rfl
  have r1:=box_in hb 1 rfl
  have r2:=box_in hb 2 rfl
  simp only [World.size_alloc] at r0 r1 r2
  exact ⟨⟨box_in hb1 0 rfl,box_in hb1 1 rfl,box_in hb1 2 rfl,box_in hb1 3 rfl,box_in hb1 4 rfl⟩,⟨r0,r1,r2⟩⟩
 have hbW : Below w.heap.size w ((w.alloc (.cells #[.int .i64 i.op,.int .i64 i.a,.int .i64 i.b,.int .i64 i.c,.slice xa i.n ca] 60)).alloc (.cells #[.int .i64 pm,.int .i64 regs,.slice xc code cc] 58)):=below_step (below_alloc _ _) (below_alloc _ _)
 have HBW : Hid (Below w.heap.size w ((w.alloc (.cells #[.int .i64 i.op,.int .i64 i.a,.int .i64 i.b,.int .i64 i.c,.slice xa i.n ca] 60)).alloc (.cells #[.int .i64 pm,.int .i64 regs,.slice xc code cc] 58))):=hbW
 clear hbW
 have hmf : ∀ (fn : Fn) (first cap : Array Value) (w : World),(Instr.makeFunc fn first cap).run Tryd.prog w=.ok (.func fn first cap) w:=fun _ _ _ _ => rfl
 have HF1 : Hid (∀ wi,Calls Tryd.prog 48 #[.int .i64 i.op,.int .i64 1,.int .i64 13] wi fun e w' => e=.returned (.bool false)∧w'=wi):=fun wi => by have:=HF.out i.op 1 13 wi; rw [e1] at this; exact this
 clear ha HF HRg HRs HBr HCo HBx e1
 go_enter Tryd.func65,Tryd.ntmps65
 go_wp2_with (first | (go_at_call 48; refine (HF1.out _).mono ?_; rintro e w1 ⟨rfl,h1⟩; rw [h1]; clear h1))
 go_ret
 exact ⟨rfl,HBW.out⟩

set_option maxRecDepth 20000 in
set_option maxHeartbeats 4000000 in
theorem cIns_1 (N : Nat) (i : In) (va vc vp : Value) (pm regs : Int) (code : Nat) (hr1 : 1≤regs) (hr2 : regs≤40) (hc1 : 1≤code) (hc2 : code≤2000) (w : World) (hN : N≤w.heap.size)
  (ha : NumsAt N w va i.n i.z) (hvc : ∃ x cp,vc=.slice x code cp) (e1 : fromB i.op 1 13=true) (e2 : regsB i regs=false) :
  Calls Tryd.prog 65 #[.agg #[.int .i64 i.op,.int .i64 i.a,.int .i64 i.b,.int .i64 i.c,va],.agg #[.int .i64 pm,.int .i64 regs,vc],vp] w fun e w' => e=.returned (.int .i64 3)∧Below w.heap.size w w':=by
 obtain ⟨xa,ca,rfl,hna⟩:=ha.shape
 obtain ⟨xc,cc,rfl⟩:=hvc
 have HF : Hid (∀ n lo hi wi,Calls Tryd.prog 48 #[.int .i64 n,.int .i64 lo,.int .i64 hi] wi fun e w' => e=.returned (.bool (fromB n lo hi))∧w'=wi):=isFrom
 have HRg : Hid (∀ wi,Calls Tryd.prog 82 #[.agg #[.int .i64 i.op,.int .i64 i.a,.int .i64 i.b,.int .i64 i.c,.slice xa i.n ca],.int .i64 regs] wi fun e w' => e=.returned (.bool (regsB i regs))∧Below wi.heap.size wi w'):=fun wi => regsFit i xa ca regs hr1 (by omega) wi
 have HRs : Hid (∀ wi,Below w.heap.size w wi→Calls Tryd.prog 83 #[.agg #[.int .i64 i.op,.int .i64 i.a,.int .i64 i.b,.int .i64 i.c,.slice xa i.n ca],.int .i64 code] wi fun e w' => e=.returned (.bool (restB i code))∧Below wi.heap.size wi w'):=fun wi hb => restFits N i _ code (by omega) (by omega) wi (Nat.le_trans hN hb.size) (ha.below (hb.mono hN))
 have HBr : Hid (∀ wi,Calls Tryd.prog 84 #[.agg #[.int .i64 i.op,.int .i64 i.a,.int .i64 i.b,.int .i64 i.c,.slice xa i.n ca]] wi fun e w' => e=.returned (.bool (bareB i))∧Below wi.heap.size wi w'):=fun wi => bare i xa ca wi
 have HCo : Hid (∀ wi,Below w.heap.size w wi→wi.cell? ⟨w.heap.size + 1,1,none⟩=some (.int .i64 regs)→Calls Tryd.prog 85 #[.slice xa i.n ca,.func (.func 86) #[] #[.pointer (some ⟨w.heap.size + 1,0,none⟩)]] wi fun e w' => e=.returned (.bool (!argsB i regs))∧w'=wi):=fun wi hb hc => containsOut N i _ regs (by omega) (by omega) _ wi (Nat.le_trans hN hb.size) hc (ha.below (hb.mono hN))
 have HBx : Hid (∀ w1,Below ((w.alloc (.cells #[.int .i64 i.op,.int .i64 i.a,.int .i64 i.b,.int .i64 i.c,.slice xa i.n ca] 60)).alloc (.cells #[.int .i64 pm,.int .i64 regs,.slice xc code cc] 58)).heap.size ((w.alloc (.cells #[.int .i64 i.op,.int .i64 i.a,.int .i64 i.b,.int .i64 i.c,.slice xa i.n ca] 60)).alloc (.cells #[.int .i64 pm,.int .i64 regs,.slice xc code cc] 58)) w1 →
   (w1.cell? ⟨w.heap.size,0,none⟩=some (.int .i64 i.op)∧w1.cell? ⟨w.heap.size,1,none⟩=some (.int .i64 i.a)∧w1.cell? ⟨w.heap.size,2,none⟩=some (.int .i64 i.b)∧w1.cell? ⟨w.heap.size,3,none⟩=some (.int .i64 i.c)∧w1.cell? ⟨w.heap.size,4,none⟩=some (.slice xa i.n ca)) ∧
   (w1.cell? ⟨w.heap.size + 1,0,none⟩=some (.int .i64 pm)∧w1.cell? ⟨w.heap.size + 1,1,none⟩=some (.int .i64 regs)∧w1.cell? ⟨w.heap.size + 1,2,none⟩=some (.slice xc code cc))):=fun w1 hb => by
  have hb1:=below_step (below_alloc (w.alloc (.cells #[.int .i64 i.op,.int .i64 i.a,.int .i64 i.b,.int .i64 i.c,.slice xa i.n ca] 60)) (.cells #[.int .i64 pm,.int .i64 regs,.slice xc code cc] 58)) hb
  have r0:=box_in hb 0 rfl
  have r1:=box_in hb 1 rfl
  have r2:=box_in hb 2 rfl
  simp only [World.size_alloc] at r0 r1 r2
  exact ⟨⟨box_in hb1 0 rfl,box_in hb1 1 rfl,box_in hb1 2 rfl,box_in hb1 3 rfl,box_in hb1 4 rfl⟩,⟨r0,r1,r2⟩⟩
 have hbW : Below w.heap.size w ((w.alloc (.cells #[.int .i64 i.op,.int .i64 i.a,.int .i64 i.b,.int .i64 i.c,.slice xa i.n ca] 60)).alloc (.cells #[.int .i64 pm,.int .i64 regs,.slice xc code cc] 58)):=below_step (below_alloc _ _) (below_alloc _ _)
 have HBW : Hid (Below w.heap.size w ((w.alloc (.cells #[.int .i64 i.op,.int .i64 i.a,.int .i64 i.b,.int .i64 i.c,.slice xa i.n ca] 60)).alloc (.cells #[.int .i64 pm,.int .i64 regs,.slice xc code cc] 58))):=hbW
 clear hbW
 have hmf : ∀ (fn : Fn) (first cap : Array Value) (w : World),(Instr.makeFunc fn first cap).run Tryd.prog w=.ok (.func fn first cap) w:=fun _ _ _ _ => rfl
 have HF1 : Hid (∀ wi,Calls Tryd.prog 48 #[.int .i64 i.op,.int .i64 1,.int .i64 13] wi fun e w' => e=.returned (.bool true)∧w'=wi):=fun wi => by have:=HF.out i.op 1 13 wi; rw [e1] at this; exact this
 rw [e2] at HRg
 clear ha HF HRs HBr HCo HBx e1 e2
 go_enter Tryd.func65,Tryd.ntmps65
 go_wp2_with (first
  | (go_at_call 48; refine (HF1.out _).mono ?_; rintro e w1 ⟨rfl,h1⟩; rw [h1]; clear h1)
  | (go_at_call 82; refine (HRg.out _).mono ?_; rintro e w1 ⟨rfl,b1⟩))
 go_ret
 exact ⟨rfl,HBW.out.trans (b1.mono HBW.out.size)⟩

set_option maxRecDepth 20000 in
set_option maxHeartbeats 4000000 in
theorem cIns_2 (N : Nat) (i : In) (va vc vp : Value) (pm regs : Int) (code : Nat) (hr1 : 1≤regs) (hr2 : regs≤40) (hc1 : 1≤code) (hc2 : code≤2000) (w : World) (hN : N≤w.heap.size)
  (ha : NumsAt N w va i.n i.z) (hvc : ∃ x cp,vc=.slice x code cp) (e1 : fromB i.op 1 13=true) (e2 : regsB i regs=true) (e7 : ¬ i.op=7) (e4 : restB i code=false) :
  Calls Tryd.prog 65 #[.agg #[.int .i64 i.op,.int .i64 i.a,.int .i64 i.b,.int .i64 i.c,va],.agg #[.int .i64 pm,.int .i64 regs,vc],vp] w fun e w' => e=.returned (.int .i64 3)∧Below w.heap.size w w':=by
 obtain ⟨xa,ca,rfl,hna⟩:=ha.shape
 obtain ⟨xc,cc,rfl⟩:=hvc
 have HF : Hid (∀ n lo hi wi,Calls Tryd.prog 48 #[.int .i64 n,.int .i64 lo,.int .i64 hi] wi fun e w' => e=.returned (.bool (fromB n lo hi))∧w'=wi):=isFrom
 have HRg : Hid (∀ wi,Calls Tryd.prog 82 #[.agg #[.int .i64 i.op,.int .i64 i.a,.int .i64 i.b,.int .i64 i.c,.slice xa i.n ca],.int .i64 regs] wi fun e w' => e=.returned (.bool (regsB i regs))∧Below wi.heap.size wi w'):=fun wi => regsFit i xa ca regs hr1 (by omega) wi
 have HRs : Hid (∀ wi,Below w.heap.size w wi→Calls Tryd.prog 83 #[.agg #[.int .i64 i.op,.int .i64 i.a,.int .i64 i.b,.int .i64 i.c,.slice xa i.n ca],.int .i64 code] wi fun e w' => e=.returned (.bool (restB i code))∧Below wi.heap.size wi w'):=fun wi hb => restFits N i _ code (by omega) (by omega) wi (Nat.le_trans hN hb.size) (ha.below (hb.mono hN))
 have HBr : Hid (∀ wi,Calls Tryd.prog 84 #[.agg #[.int .i64 i.op,.int .i64 i.a,.int .i64 i.b,.int .i64 i.c,.slice xa i.n ca]] wi fun e w' => e=.returned (.bool (bareB i))∧Below wi.heap.size wi w'):=fun wi => bare i xa ca wi
 have HCo : Hid (∀ wi,Below w.heap.size w wi→wi.cell? ⟨w.heap.size + 1,1,none⟩=some (.int .i64 regs)→Calls Tryd.prog 85 #[.slice xa i.n ca,.func (.func 86) #[] #[.pointer (some ⟨w.heap.size + 1,0,none⟩)]] wi fun e w' => e=.returned (.bool (!argsB i regs))∧w'=wi):=fun wi hb hc => containsOut N i _ regs (by omega) (by omega) _ wi (Nat.le_trans hN hb.size) hc (ha.below (hb.mono hN))
 have HBx : Hid (∀ w1,Below ((w.alloc (.cells #[.int .i64 i.op,.int .i64 i.a,.int .i64 i.b,.int .i64 i.c,.slice xa i.n ca] 60)).alloc (.cells #[.int .i64 pm,.int .i64 regs,.slice xc code cc] 58)).heap.size ((w.alloc (.cells #[.int .i64 i.op,.int .i64 i.a,.int .i64 i.b,.int .i64 i.c,.slice xa i.n ca] 60)).alloc (.cells #[.int .i64 pm,.int .i64 regs,.slice xc code cc] 58)) w1 →
   (w1.cell? ⟨w.heap.size,0,none⟩=some (.int .i64 i.op)∧w1.cell? ⟨w.heap.size,1,none⟩=some (.int .i64 i.a)∧w1.cell? ⟨w.heap.size,2,none⟩=some (.int .i64 i.b)∧w1.cell? ⟨w.heap.size,3,none⟩=some (.int .i64 i.c)∧w1.cell? ⟨w.heap.size,4,none⟩=some (.slice xa i.n ca)) ∧
   (w1.cell? ⟨w.heap.size + 1,0,none⟩=some (.int .i64 pm)∧w1.cell? ⟨w.heap.size + 1,1,none⟩=some (.int .i64 regs)∧w1.cell? ⟨w.heap.size + 1,2,none⟩=some (.slice xc code cc))):=fun w1 hb => by
  have hb1:=below_step (below_alloc (w.alloc (.cells #[.int .i64 i.op,.int .i64 i.a,.int .i64 i.b,.int .i64 i.c,.slice xa i.n ca] 60)) (.cells #[.int .i64 pm,.int .i64 regs,.slice xc code cc] 58)) hb
  have r0:=box_in hb 0 rfl
  have r1:=box_in hb 1 rfl
  have r2:=box_in hb 2 rfl
  simp only [World.size_alloc] at r0 r1 r2
  exact ⟨⟨box_in hb1 0 rfl,box_in hb1 1 rfl,box_in hb1 2 rfl,box_in hb1 3 rfl,box_in hb1 4 rfl⟩,⟨r0,r1,r2⟩⟩
 have hbW : Below w.heap.size w ((w.alloc (.cells #[.int .i64 i.op,.int .i64 i.a,.int .i64 i.b,.int .i64 i.c,.slice xa i.n ca] 60)).alloc (.cells #[.int .i64 pm,.int .i64 regs,.slice xc code cc] 58)):=below_step (below_alloc _ _) (below_alloc _ _)
 have HBW : Hid (Below w.heap.size w ((w.alloc (.cells #[.int .i64 i.op,.int .i64 i.a,.int .i64 i.b,.int .i64 i.c,.slice xa i.n ca] 60)).alloc (.cells #[.int .i64 pm,.int .i64 regs,.slice xc code cc] 58))):=hbW
 clear hbW
 have hmf : ∀ (fn : Fn) (first cap : Array Value) (w : World),(Instr.makeFunc fn first cap).run Tryd.prog w=.ok (.func fn first cap) w:=fun _ _ _ _ => rfl
 have HF1 : Hid (∀ wi,Calls Tryd.prog 48 #[.int .i64 i.op,.int .i64 1,.int .i64 13] wi fun e w' => e=.returned (.bool true)∧w'=wi):=fun wi => by have:=HF.out i.op 1 13 wi; rw [e1] at this; exact this
 rw [e2] at HRg
 rw [e4] at HRs
 have e7b : (i.op == 7)=false:=by simp [e7]
 clear ha HF HBr HCo e1 e2 e4
 go_enter Tryd.func65,Tryd.ntmps65
 go_wp2_with (first
  | (go_at_call 48; refine (HF1.out _).mono ?_; rintro e w1 ⟨rfl,h1⟩; rw [h1]; clear h1)
  | (go_at_call 82; refine (HRg.out _).mono ?_; rintro e w1 ⟨rfl,b1⟩; obtain ⟨⟨a0,a1,a2,a3,a4⟩,⟨p0,p1,p2⟩⟩:=HBx.out _ b1; have B1 : Hid (Below w.heap.size w w1):=HBW.out.trans (b1.mono HBW.out.size))
  | (go_at_call 83; refine (HRs.out _ B1.out).mono ?_; rintro e w2 ⟨rfl,b2⟩))
 go_ret
 exact ⟨rfl,B1.out.trans (b2.mono B1.out.size)⟩

/-- One instruction's error. -/
theorem checkIns (N : Nat) (i : In) (va vc vp : Value) (pm regs : Int) (code np : Nat) (P : Nat→Pc) (hr1 : 1≤regs) (hr2 : regs≤40) (hc1 : 1≤code) (hc2 : code≤2000) (hn4 : np≤4) (w : World) (hN : N≤w.heap.size)
  (ha : NumsAt N w va i.n i.z) (hvc : ∃ x cp,vc=.slice x code cp) (hp : ProcsAt N w vp np P) :
  Calls Tryd.prog 65 #[.agg #[.int .i64 i.op,.int .i64 i.a,.int .i64 i.b,.int .i64 i.c,va],.agg #[.int .i64 pm,.int .i64 regs,vc],vp] w fun e w' => e=.returned (.int .i64 (insErr np (fun k => (P k).params) regs code i))∧Below w.heap.size w w':=by
 cases e1 : fromB i.op 1 13 with
 | false =>
  have HE : insErr np (fun k => (P k).params) regs code i=4:=by unfold insErr; rw [if_pos e1]
  rw [HE]
  exact cIns_0 N i va vc vp pm regs code hr1 hr2 hc1 hc2 w hN ha hvc e1
 | true =>
  cases e2 : regsB i regs with
  | false =>
   have HE : insErr np (fun k => (P k).params) regs code i=3:=by unfold insErr; rw [if_neg (by rw [e1]; simp),if_pos e2]
   rw [HE]
   exact cIns_1 N i va vc vp pm regs code hr1 hr2 hc1 hc2 w hN ha hvc e1 e2
  | true =>
   by_cases e7 : i.op=7
   ·have e4 : restB i code=true:=by unfold restB; simp [e7]
    cases e3 : fromB i.b 0 ((np : Int) - 1) with
    | false =>
     have HE : insErr np (fun k => (P k).params) regs code i=5:=by unfold insErr; rw [if_neg (by rw [e1]; simp),if_neg (by rw [e2]; simp),if_pos ⟨e7,e3⟩]
     rw [HE]
     exact cIns_7a N i va vc vp pm regs code np P hr1 hr2 hc1 hc2 hn4 w hN ha hvc hp e1 e2 e7 e3
    | true =>
     cases e5 : bareB i with
     | false =>
      have HE : insErr np (fun k => (P k).params) regs code i=4:=by unfold insErr; rw [if_neg (by rw [e1]; simp),if_neg (by rw [e2]; simp),if_neg (by rw [e3]; simp),if_neg (by rw [e4]; simp),if_pos (Or.inl e5)]
      rw [HE]
      exact cIns_7b N i va vc vp pm regs code np P hr1 hr2 hc1 hc2 hn4 w hN ha hvc hp e1 e2 e7 e3 e5
     | true =>
      by_cases e6 : (i.n : Int)=(P i.b.toNat).params
      ·have e6' : ¬ (bareB i=false∨(i.op=7∧¬ (i.n : Int)=(P i.b.toNat).params)):=by rw [e5]; simp [e6]
       cases e8 : argsB i regs with
       | false =>
        have HE : insErr np (fun k => (P k).params) regs code i=3:=by unfold insErr; rw [if_neg (by rw [e1]; simp),if_neg (by rw [e2]; simp),if_neg (by rw [e3]; simp),if_neg (by rw [e4]; simp),if_neg e6',if_pos ⟨e7,e8⟩]
        rw [HE]
        exact cIns_7d N i va vc vp pm regs code np P hr1 hr2 hc1 hc2 hn4 w hN ha hvc hp e1 e2 e7 e3 e5 e6 e8
       | true =>
        have HE : insErr np (fun k => (P k).params) regs code i=0:=by unfold insErr; rw [if_neg (by rw [e1]; simp),if_neg (by rw [e2]; simp),if_neg (by rw [e3]; simp),if_neg (by rw [e4]; simp),if_neg e6',if_neg (by rw [e8]; simp)]
        rw [HE]
        exact cIns_7e N i va vc vp pm regs code np P hr1 hr2 hc1 hc2 hn4 w hN ha hvc hp e1 e2 e7 e3 e5 e6 e8
      ·have HE : insErr np (fun k => (P k).params) regs code i=4:=by unfold insErr; rw [if_neg (by rw [e1]; simp),if_neg (by rw [e2]; simp),if_neg (by rw [e3]; simp),if_neg (by rw [e4]; simp),if_pos (Or.inr ⟨e7,e6⟩)]
       rw [HE]
       exact cIns_7c N i va vc vp pm regs code np P hr1 hr2 hc1 hc2 hn4 w hN ha hvc hp e1 e2 e7 e3 e5 e6
   ·have n3 : ¬ (i.op=7∧fromB i.b 0 ((np : Int) - 1)=false):=fun h => e7 h.1
    cases e4 : restB i code with
    | false =>
     have HE : insErr np (fun k => (P k).params) regs code i=3:=by unfold insErr; rw [if_neg (by rw [e1]; simp),if_neg (by rw [e2]; simp),if_neg n3,if_pos e4]
     rw [HE]
     exact cIns_2 N i va vc vp pm regs code hr1 hr2 hc1 hc2 w hN ha hvc e1 e2 e7 e4
    | true =>
     cases e5 : bareB i with
     | false =>
      have HE : insErr np (fun k => (P k).params) regs code i=4:=by unfold insErr; rw [if_neg (by rw [e1]; simp),if_neg (by rw [e2]; simp),if_neg n3,if_neg (by rw [e4]; simp),if_pos (Or.inl e5)]
      rw [HE]
      exact cIns_A N i va vc vp pm regs code hr1 hr2 hc1 hc2 w hN ha hvc e1 e2 e7 e4 e5
     | true =>
      have HE : insErr np (fun k => (P k).params) regs code i=0:=by
       unfold insErr; rw [if_neg (by rw [e1]; simp),if_neg (by rw [e2]; simp),if_neg n3,if_neg (by rw [e4]; simp),if_neg (by rw [e5]; simp [e7]),if_neg (by simp [e7])]
      rw [HE]
      exact cIns_B N i va vc vp pm regs code hr1 hr2 hc1 hc2 w hN ha hvc e1 e2 e7 e4 e5

end Go.Proofs.YtfaokaohhchdhaaDoor
