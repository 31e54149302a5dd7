/- checkIns: one instruction's error, by the program. -/
import Derived.Test.YtfaokaohhchdhaaGreatDoorPart7
import Derived.Test.YtfaokaohhchdhaaGreatDoorCIns7c
namespace Go.Proofs.YtfaokaohhchdhaaGreatDoor
section
open Go.ChangeShapes Go.WideShapes Go.ChangeAt Go.RowKit
set_option maxRecDepth 20000 in
set_option maxHeartbeats 4000000 in
theorem cIns_0 (N:Nat) (i:In) (va vc vp:Value) (pm regs:Int) (code:Nat) (hr1:1≤regs) (hr2:regs≤40) (hc1:1≤code) (hc2:code≤2000) (w:World) (hN:N≤w.heap.size)
  (ha:NumsAt N w va i.n i.z) (hvc:∃x cp,vc=.slice x code cp) (e1:fromB i.op 1 13=false) :
  Calls Tryz.prog 134 #[.agg #[.int .i64 i.op,.int .i64 i.a,.int .i64 i.b,.int .i64 i.c,va],.agg #[.int .i64 pm,.int .i64 regs,vc],vp] w fun e w'=>e=.returned (.int .i64 4)∧Below w.heap.size w w':=by
 obtain⟨xa,ca,rfl,hna⟩:=ha.shape
 obtain⟨xc,cc,rfl⟩:=hvc
 have HF:Hid (∀n lo hi wi,Calls Tryz.prog 95 #[.int .i64 n,.int .i64 lo,.int .i64 hi] wi fun e w'=>e=.returned (.bool (fromB n lo hi))∧w'=wi):=isFrom
 have HRg:Hid (∀wi,Calls Tryz.prog 174 #[.agg #[.int .i64 i.op,.int .i64 i.a,.int .i64 i.b,.int .i64 i.c,.slice xa i.n ca],.int .i64 regs] wi fun e w'=>e=.returned (.bool (regsB i regs))∧Below wi.heap.size wi w'):=fun wi=>regsFit i xa ca regs hr1 (by omega) wi
 have HRs:Hid (∀wi,Below w.heap.size w wi→Calls Tryz.prog 175 #[.agg #[.int .i64 i.op,.int .i64 i.a,.int .i64 i.b,.int .i64 i.c,.slice xa i.n ca],.int .i64 code] wi fun e w'=>e=.returned (.bool (restB i code))∧Below wi.heap.size wi w'):=fun wi hb=>restFits N i _ code (by omega) (by omega) wi (Nat.le_trans hN hb.size) (ha.below (hb.mono hN))
 have HBr:Hid (∀wi,Calls Tryz.prog 176 #[.agg #[.int .i64 i.op,.int .i64 i.a,.int .i64 i.b,.int .i64 i.c,.slice xa i.n ca]] wi fun e w'=>e=.returned (.bool (bareB i))∧Below wi.heap.size wi w'):=fun wi=>bare i xa ca wi
 have HCo:Hid (∀wi,Below w.heap.size w wi→wi.cell? ⟨w.heap.size+1,1,none⟩=some (.int .i64 regs)→Calls Tryz.prog 177 #[.slice xa i.n ca,.func (.func 178) #[] #[.pointer (some ⟨w.heap.size+1,0,none⟩)]] wi fun e w'=>e=.returned (.bool (!argsB i regs))∧w'=wi):=fun wi hb hc=>containsOut N i _ regs (by omega) (by omega) _ wi (Nat.le_trans hN hb.size) hc (ha.below (hb.mono hN))
 have HBx:Hid (∀w1,Below ((w.alloc (.cells #[.int .i64 i.op,.int .i64 i.a,.int .i64 i.b,.int .i64 i.c,.slice xa i.n ca] 84)).alloc (.cells #[.int .i64 pm,.int .i64 regs,.slice xc code cc] 38)).heap.size ((w.alloc (.cells #[.int .i64 i.op,.int .i64 i.a,.int .i64 i.b,.int .i64 i.c,.slice xa i.n ca] 84)).alloc (.cells #[.int .i64 pm,.int .i64 regs,.slice xc code cc] 38)) w1 →
   (w1.cell? ⟨w.heap.size,0,none⟩=some (.int .i64 i.op)∧w1.cell? ⟨w.heap.size,1,none⟩=some (.int .i64 i.a)∧w1.cell? ⟨w.heap.size,2,none⟩=some (.int .i64 i.b)∧w1.cell? ⟨w.heap.size,3,none⟩=some (.int .i64 i.c)∧w1.cell? ⟨w.heap.size,4,none⟩=some (.slice xa i.n ca)) ∧
   (w1.cell? ⟨w.heap.size+1,0,none⟩=some (.int .i64 pm)∧w1.cell? ⟨w.heap.size+1,1,none⟩=some (.int .i64 regs)∧w1.cell? ⟨w.heap.size+1,2,none⟩=some (.slice xc code cc))):=fun w1 hb=>by
  have hb1:=below_step (below_alloc (w.alloc (.cells #[.int .i64 i.op,.int .i64 i.a,.int .i64 i.b,.int .i64 i.c,.slice xa i.n ca] 84)) (.cells #[.int .i64 pm,.int .i64 regs,.slice xc code cc] 38)) hb
  have r0:=box_in hb 0 rfl
  have r1:=box_in hb 1 rfl
  have r2:=box_in hb 2 rfl
  simp only[World.size_alloc]at r0 r1 r2
  exact⟨⟨box_in hb1 0 rfl,box_in hb1 1 rfl,box_in hb1 2 rfl,box_in hb1 3 rfl,box_in hb1 4 rfl⟩,⟨r0,r1,r2⟩⟩
 have hbW:Below w.heap.size w ((w.alloc (.cells #[.int .i64 i.op,.int .i64 i.a,.int .i64 i.b,.int .i64 i.c,.slice xa i.n ca] 84)).alloc (.cells #[.int .i64 pm,.int .i64 regs,.slice xc code cc] 38)):=below_step (below_alloc _ _) (below_alloc _ _)
 have HBW:Hid (Below w.heap.size w ((w.alloc (.cells #[.int .i64 i.op,.int .i64 i.a,.int .i64 i.b,.int .i64 i.c,.slice xa i.n ca] 84)).alloc (.cells #[.int .i64 pm,.int .i64 regs,.slice xc code cc] 38))):=hbW
 clear hbW
 have hmf:∀(fn:Fn) (first cap:Array Value) (w:World),(Instr.makeFunc fn first cap).run Tryz.prog w=.ok (.func fn first cap) w:=fun _ _ _ _=>rfl
 have HF1:Hid (∀wi,Calls Tryz.prog 95 #[.int .i64 i.op,.int .i64 1,.int .i64 13] wi fun e w'=>e=.returned (.bool false)∧w'=wi):=fun wi=>by have:=HF.out i.op 1 13 wi;rw[e1]at this;exact this
 clear ha HF HRg HRs HBr HCo HBx e1
 go_enter Tryz.func134,Tryz.ntmps134
 go_wp2_with (first|(go_at_call 95;refine (HF1.out _).mono ?_;rintro e w1 ⟨rfl,h1⟩;rw[h1];clear h1))
 go_ret
 exact⟨rfl,HBW.out⟩
set_option maxRecDepth 20000 in
set_option maxHeartbeats 4000000 in
theorem cIns_1 (N:Nat) (i:In) (va vc vp:Value) (pm regs:Int) (code:Nat) (hr1:1≤regs) (hr2:regs≤40) (hc1:1≤code) (hc2:code≤2000) (w:World) (hN:N≤w.heap.size)
  (ha:NumsAt N w va i.n i.z) (hvc:∃x cp,vc=.slice x code cp) (e1:fromB i.op 1 13=true) (e2:regsB i regs=false) :
  Calls Tryz.prog 134 #[.agg #[.int .i64 i.op,.int .i64 i.a,.int .i64 i.b,.int .i64 i.c,va],.agg #[.int .i64 pm,.int .i64 regs,vc],vp] w fun e w'=>e=.returned (.int .i64 3)∧Below w.heap.size w w':=by
 obtain⟨xa,ca,rfl,hna⟩:=ha.shape
 obtain⟨xc,cc,rfl⟩:=hvc
 have HF:Hid (∀n lo hi wi,Calls Tryz.prog 95 #[.int .i64 n,.int .i64 lo,.int .i64 hi] wi fun e w'=>e=.returned (.bool (fromB n lo hi))∧w'=wi):=isFrom
 have HRg:Hid (∀wi,Calls Tryz.prog 174 #[.agg #[.int .i64 i.op,.int .i64 i.a,.int .i64 i.b,.int .i64 i.c,.slice xa i.n ca],.int .i64 regs] wi fun e w'=>e=.returned (.bool (regsB i regs))∧Below wi.heap.size wi w'):=fun wi=>regsFit i xa ca regs hr1 (by omega) wi
 have HRs:Hid (∀wi,Below w.heap.size w wi→Calls Tryz.prog 175 #[.agg #[.int .i64 i.op,.int .i64 i.a,.int .i64 i.b,.int .i64 i.c,.slice xa i.n ca],.int .i64 code] wi fun e w'=>e=.returned (.bool (restB i code))∧Below wi.heap.size wi w'):=fun wi hb=>restFits N i _ code (by omega) (by omega) wi (Nat.le_trans hN hb.size) (ha.below (hb.mono hN))
 have HBr:Hid (∀wi,Calls Tryz.prog 176 #[.agg #[.int .i64 i.op,.int .i64 i.a,.int .i64 i.b,.int .i64 i.c,.slice xa i.n ca]] wi fun e w'=>e=.returned (.bool (bareB i))∧Below wi.heap.size wi w'):=fun wi=>bare i xa ca wi
 have HCo:Hid (∀wi,Below w.heap.size w wi→wi.cell? ⟨w.heap.size+1,1,none⟩=some (.int .i64 regs)→Calls Tryz.prog 177 #[.slice xa i.n ca,.func (.func 178) #[] #[.pointer (some ⟨w.heap.size+1,0,none⟩)]] wi fun e w'=>e=.returned (.bool (!argsB i regs))∧w'=wi):=fun wi hb hc=>containsOut N i _ regs (by omega) (by omega) _ wi (Nat.le_trans hN hb.size) hc (ha.below (hb.mono hN))
 have HBx:Hid (∀w1,Below ((w.alloc (.cells #[.int .i64 i.op,.int .i64 i.a,.int .i64 i.b,.int .i64 i.c,.slice xa i.n ca] 84)).alloc (.cells #[.int .i64 pm,.int .i64 regs,.slice xc code cc] 38)).heap.size ((w.alloc (.cells #[.int .i64 i.op,.int .i64 i.a,.int .i64 i.b,.int .i64 i.c,.slice xa i.n ca] 84)).alloc (.cells #[.int .i64 pm,.int .i64 regs,.slice xc code cc] 38)) w1 →
   (w1.cell? ⟨w.heap.size,0,none⟩=some (.int .i64 i.op)∧w1.cell? ⟨w.heap.size,1,none⟩=some (.int .i64 i.a)∧w1.cell? ⟨w.heap.size,2,none⟩=some (.int .i64 i.b)∧w1.cell? ⟨w.heap.size,3,none⟩=some (.int .i64 i.c)∧w1.cell? ⟨w.heap.size,4,none⟩=some (.slice xa i.n ca)) ∧
   (w1.cell? ⟨w.heap.size+1,0,none⟩=some (.int .i64 pm)∧w1.cell? ⟨w.heap.size+1,1,none⟩=some (.int .i64 regs)∧w1.cell? ⟨w.heap.size+1,2,none⟩=some (.slice xc code cc))):=fun w1 hb=>by
  have hb1:=below_step (below_alloc (w.alloc (.cells #[.int .i64 i.op,.int .i64 i.a,.int .i64 i.b,.int .i64 i.c,.slice xa i.n ca] 84)) (.cells #[.int .i64 pm,.int .i64 regs,.slice xc code cc] 38)) hb
  have r0:=box_in hb 0 rfl
  have r1:=box_in hb 1 rfl
  have r2:=box_in hb 2 rfl
  simp only[World.size_alloc]at r0 r1 r2
  exact⟨⟨box_in hb1 0 rfl,box_in hb1 1 rfl,box_in hb1 2 rfl,box_in hb1 3 rfl,box_in hb1 4 rfl⟩,⟨r0,r1,r2⟩⟩
 have hbW:Below w.heap.size w ((w.alloc (.cells #[.int .i64 i.op,.int .i64 i.a,.int .i64 i.b,.int .i64 i.c,.slice xa i.n ca] 84)).alloc (.cells #[.int .i64 pm,.int .i64 regs,.slice xc code cc] 38)):=below_step (below_alloc _ _) (below_alloc _ _)
 have HBW:Hid (Below w.heap.size w ((w.alloc (.cells #[.int .i64 i.op,.int .i64 i.a,.int .i64 i.b,.int .i64 i.c,.slice xa i.n ca] 84)).alloc (.cells #[.int .i64 pm,.int .i64 regs,.slice xc code cc] 38))):=hbW
 clear hbW
 have hmf:∀(fn:Fn) (first cap:Array Value) (w:World),(Instr.makeFunc fn first cap).run Tryz.prog w=.ok (.func fn first cap) w:=fun _ _ _ _=>rfl
 have HF1:Hid (∀wi,Calls Tryz.prog 95 #[.int .i64 i.op,.int .i64 1,.int .i64 13] wi fun e w'=>e=.returned (.bool true)∧w'=wi):=fun wi=>by have:=HF.out i.op 1 13 wi;rw[e1]at this;exact this
 rw[e2]at HRg
 clear ha HF HRs HBr HCo HBx e1 e2
 go_enter Tryz.func134,Tryz.ntmps134
 go_wp2_with (first
  | (go_at_call 95;refine (HF1.out _).mono ?_;rintro e w1 ⟨rfl,h1⟩;rw[h1];clear h1)
  | (go_at_call 174;refine (HRg.out _).mono ?_;rintro e w1 ⟨rfl,b1⟩))
 go_ret
 exact⟨rfl,HBW.out.trans (b1.mono HBW.out.size)⟩
set_option maxRecDepth 20000 in
set_option maxHeartbeats 4000000 in
theorem cIns_2 (N:Nat) (i:In) (va vc vp:Value) (pm regs:Int) (code:Nat) (hr1:1≤regs) (hr2:regs≤40) (hc1:1≤code) (hc2:code≤2000) (w:World) (hN:N≤w.heap.size)
  (ha:NumsAt N w va i.n i.z) (hvc:∃x cp,vc=.slice x code cp) (e1:fromB i.op 1 13=true) (e2:regsB i regs=true) (e7:¬i.op=7) (e4:restB i code=false) :
  Calls Tryz.prog 134 #[.agg #[.int .i64 i.op,.int .i64 i.a,.int .i64 i.b,.int .i64 i.c,va],.agg #[.int .i64 pm,.int .i64 regs,vc],vp] w fun e w'=>e=.returned (.int .i64 3)∧Below w.heap.size w w':=by
 obtain⟨xa,ca,rfl,hna⟩:=ha.shape
 obtain⟨xc,cc,rfl⟩:=hvc
 have HF:Hid (∀n lo hi wi,Calls Tryz.prog 95 #[.int .i64 n,.int .i64 lo,.int .i64 hi] wi fun e w'=>e=.returned (.bool (fromB n lo hi))∧w'=wi):=isFrom
 have HRg:Hid (∀wi,Calls Tryz.prog 174 #[.agg #[.int .i64 i.op,.int .i64 i.a,.int .i64 i.b,.int .i64 i.c,.slice xa i.n ca],.int .i64 regs] wi fun e w'=>e=.returned (.bool (regsB i regs))∧Below wi.heap.size wi w'):=fun wi=>regsFit i xa ca regs hr1 (by omega) wi
 have HRs:Hid (∀wi,Below w.heap.size w wi→Calls Tryz.prog 175 #[.agg #[.int .i64 i.op,.int .i64 i.a,.int .i64 i.b,.int .i64 i.c,.slice xa i.n ca],.int .i64 code] wi fun e w'=>e=.returned (.bool (restB i code))∧Below wi.heap.size wi w'):=fun wi hb=>restFits N i _ code (by omega) (by omega) wi (Nat.le_trans hN hb.size) (ha.below (hb.mono hN))
 have HBr:Hid (∀wi,Calls Tryz.prog 176 #[.agg #[.int .i64 i.op,.int .i64 i.a,.int .i64 i.b,.int .i64 i.c,.slice xa i.n ca]] wi fun e w'=>e=.returned (.bool (bareB i))∧Below wi.heap.size wi w'):=fun wi=>bare i xa ca wi
 have HCo:Hid (∀wi,Below w.heap.size w wi→wi.cell? ⟨w.heap.size+1,1,none⟩=some (.int .i64 regs)→Calls Tryz.prog 177 #[.slice xa i.n ca,.func (.func 178) #[] #[.pointer (some ⟨w.heap.size+1,0,none⟩)]] wi fun e w'=>e=.returned (.bool (!argsB i regs))∧w'=wi):=fun wi hb hc=>containsOut N i _ regs (by omega) (by omega) _ wi (Nat.le_trans hN hb.size) hc (ha.below (hb.mono hN))
 have HBx:Hid (∀w1,Below ((w.alloc (.cells #[.int .i64 i.op,.int .i64 i.a,.int .i64 i.b,.int .i64 i.c,.slice xa i.n ca] 84)).alloc (.cells #[.int .i64 pm,.int .i64 regs,.slice xc code cc] 38)).heap.size ((w.alloc (.cells #[.int .i64 i.op,.int .i64 i.a,.int .i64 i.b,.int .i64 i.c,.slice xa i.n ca] 84)).alloc (.cells #[.int .i64 pm,.int .i64 regs,.slice xc code cc] 38)) w1 →
   (w1.cell? ⟨w.heap.size,0,none⟩=some (.int .i64 i.op)∧w1.cell? ⟨w.heap.size,1,none⟩=some (.int .i64 i.a)∧w1.cell? ⟨w.heap.size,2,none⟩=some (.int .i64 i.b)∧w1.cell? ⟨w.heap.size,3,none⟩=some (.int .i64 i.c)∧w1.cell? ⟨w.heap.size,4,none⟩=some (.slice xa i.n ca)) ∧
   (w1.cell? ⟨w.heap.size+1,0,none⟩=some (.int .i64 pm)∧w1.cell? ⟨w.heap.size+1,1,none⟩=some (.int .i64 regs)∧w1.cell? ⟨w.heap.size+1,2,none⟩=some (.slice xc code cc))):=fun w1 hb=>by
  have hb1:=below_step (below_alloc (w.alloc (.cells #[.int .i64 i.op,.int .i64 i.a,.int .i64 i.b,.int .i64 i.c,.slice xa i.n ca] 84)) (.cells #[.int .i64 pm,.int .i64 regs,.slice xc code cc] 38)) hb
  have r0:=box_in hb 0 rfl
  have r1:=box_in hb 1 rfl
  have r2:=box_in hb 2 rfl
  simp only[World.size_alloc]at r0 r1 r2
  exact⟨⟨box_in hb1 0 rfl,box_in hb1 1 rfl,box_in hb1 2 rfl,box_in hb1 3 rfl,box_in hb1 4 rfl⟩,⟨r0,r1,r2⟩⟩
 have hbW:Below w.heap.size w ((w.alloc (.cells #[.int .i64 i.op,.int .i64 i.a,.int .i64 i.b,.int .i64 i.c,.slice xa i.n ca] 84)).alloc (.cells #[.int .i64 pm,.int .i64 regs,.slice xc code cc] 38)):=below_step (below_alloc _ _) (below_alloc _ _)
 have HBW:Hid (Below w.heap.size w ((w.alloc (.cells #[.int .i64 i.op,.int .i64 i.a,.int .i64 i.b,.int .i64 i.c,.slice xa i.n ca] 84)).alloc (.cells #[.int .i64 pm,.int .i64 regs,.slice xc code cc] 38))):=hbW
 clear hbW
 have hmf:∀(fn:Fn) (first cap:Array Value) (w:World),(Instr.makeFunc fn first cap).run Tryz.prog w=.ok (.func fn first cap) w:=fun _ _ _ _=>rfl
 have HF1:Hid (∀wi,Calls Tryz.prog 95 #[.int .i64 i.op,.int .i64 1,.int .i64 13] wi fun e w'=>e=.returned (.bool true)∧w'=wi):=fun wi=>by have:=HF.out i.op 1 13 wi;rw[e1]at this;exact this
 rw[e2]at HRg
 rw[e4]at HRs
 have e7b:(i.op == 7)=false:=by simp[e7]
 clear ha HF HBr HCo e1 e2 e4
 go_enter Tryz.func134,Tryz.ntmps134
 go_wp2_with (first
  | (go_at_call 95;refine (HF1.out _).mono ?_;rintro e w1 ⟨rfl,h1⟩;rw[h1];clear h1)
  | (go_at_call 174;refine (HRg.out _).mono ?_;rintro e w1 ⟨rfl,b1⟩;obtain⟨⟨a0,a1,a2,a3,a4⟩,⟨p0,p1,p2⟩⟩:=HBx.out _ b1;have B1:Hid (Below w.heap.size w w1):=HBW.out.trans (b1.mono HBW.out.size))
  | (go_at_call 175;refine (HRs.out _ B1.out).mono ?_;rintro e w2 ⟨rfl,b2⟩))
 go_ret
 exact⟨rfl,B1.out.trans (b2.mono B1.out.size)⟩
theorem checkIns (N:Nat) (i:In) (va vc vp:Value) (pm regs:Int) (code np:Nat) (P:Nat→Pc) (hr1:1≤regs) (hr2:regs≤40) (hc1:1≤code) (hc2:code≤2000) (hn4:np≤4) (w:World) (hN:N≤w.heap.size)
  (ha:NumsAt N w va i.n i.z) (hvc:∃x cp,vc=.slice x code cp) (hp:ProcsAt N w vp np P) :
  Calls Tryz.prog 134 #[.agg #[.int .i64 i.op,.int .i64 i.a,.int .i64 i.b,.int .i64 i.c,va],.agg #[.int .i64 pm,.int .i64 regs,vc],vp] w fun e w'=>e=.returned (.int .i64 (insErr np (fun k=>(P k).params) regs code i))∧Below w.heap.size w w':=by
 cases e1:fromB i.op 1 13 with
 | false =>
  have HE:insErr np (fun k=>(P k).params) regs code i=4:=by unfold insErr;rw[if_pos e1]
  rw[HE]
  exact cIns_0 N i va vc vp pm regs code hr1 hr2 hc1 hc2 w hN ha hvc e1
 | true =>
  cases e2:regsB i regs with
  | false =>
   have HE:insErr np (fun k=>(P k).params) regs code i=3:=by unfold insErr;rw[if_neg (by rw[e1];simp),if_pos e2]
   rw[HE]
   exact cIns_1 N i va vc vp pm regs code hr1 hr2 hc1 hc2 w hN ha hvc e1 e2
  | true =>
   by_cases e7:i.op=7
   ·have e4:restB i code=true:=by unfold restB;simp[e7]
    cases e3:fromB i.b 0 ((np:Int) - 1) with
    | false =>
     have HE:insErr np (fun k=>(P k).params) regs code i=5:=by unfold insErr;rw[if_neg (by rw[e1];simp),if_neg (by rw[e2];simp),if_pos ⟨e7,e3⟩]
     rw[HE]
     exact cIns_7a N i va vc vp pm regs code np P hr1 hr2 hc1 hc2 hn4 w hN ha hvc hp e1 e2 e7 e3
    | true =>
     cases e5:bareB i with
     | false =>
      have HE:insErr np (fun k=>(P k).params) regs code i=4:=by unfold insErr;rw[if_neg (by rw[e1];simp),if_neg (by rw[e2];simp),if_neg (by rw[e3];simp),if_neg (by rw[e4];simp),if_pos (Or.inl e5)]
      rw[HE]
      exact cIns_7b N i va vc vp pm regs code np P hr1 hr2 hc1 hc2 hn4 w hN ha hvc hp e1 e2 e7 e3 e5
     | true =>
      by_cases e6:(i.n:Int)=(P i.b.toNat).params
      ·have e6':¬(bareB i=false∨(i.op=7∧¬(i.n:Int)=(P i.b.toNat).params)):=by rw[e5];simp[e6]
       cases e8:argsB i regs with
       | false =>
        have HE:insErr np (fun k=>(P k).params) regs code i=3:=by unfold insErr;rw[if_neg (by rw[e1];simp),if_neg (by rw[e2];simp),if_neg (by rw[e3];simp),if_neg (by rw[e4];simp),if_neg e6',if_pos ⟨e7,e8⟩]
        rw[HE]
        exact cIns_7d N i va vc vp pm regs code np P hr1 hr2 hc1 hc2 hn4 w hN ha hvc hp e1 e2 e7 e3 e5 e6 e8
       | true =>
        have HE:insErr np (fun k=>(P k).params) regs code i=0:=by unfold insErr;rw[if_neg (by rw[e1];simp),if_neg (by rw[e2];simp),if_neg (by rw[e3];simp),if_neg (by rw[e4];simp),if_neg e6',if_neg (by rw[e8];simp)]
        rw[HE]
        exact cIns_7e N i va vc vp pm regs code np P hr1 hr2 hc1 hc2 hn4 w hN ha hvc hp e1 e2 e7 e3 e5 e6 e8
      ·have HE:insErr np (fun k=>(P k).params) regs code i=4:=by unfold insErr;rw[if_neg (by rw[e1];simp),if_neg (by rw[e2];simp),if_neg (by rw[e3];simp),if_neg (by rw[e4];simp),if_pos (Or.inr ⟨e7,e6⟩)]
       rw[HE]
       exact cIns_7c N i va vc vp pm regs code np P hr1 hr2 hc1 hc2 hn4 w hN ha hvc hp e1 e2 e7 e3 e5 e6
   ·have n3:¬(i.op=7∧fromB i.b 0 ((np:Int) - 1)=false):=fun h=>e7 h.1
    cases e4:restB i code with
    | false =>
     have HE:insErr np (fun k=>(P k).params) regs code i=3:=by unfold insErr;rw[if_neg (by rw[e1];simp),if_neg (by rw[e2];simp),if_neg n3,if_pos e4]
     rw[HE]
     exact cIns_2 N i va vc vp pm regs code hr1 hr2 hc1 hc2 w hN ha hvc e1 e2 e7 e4
    | true =>
     cases e5:bareB i with
     | false =>
      have HE:insErr np (fun k=>(P k).params) regs code i=4:=by unfold insErr;rw[if_neg (by rw[e1];simp),if_neg (by rw[e2];simp),if_neg n3,if_neg (by rw[e4];simp),if_pos (Or.inl e5)]
      rw[HE]
      exact cIns_A N i va vc vp pm regs code hr1 hr2 hc1 hc2 w hN ha hvc e1 e2 e7 e4 e5
     | true =>
      have HE:insErr np (fun k=>(P k).params) regs code i=0:=by
       unfold insErr;rw[if_neg (by rw[e1];simp),if_neg (by rw[e2];simp),if_neg n3,if_neg (by rw[e4];simp),if_neg (by rw[e5];simp[e7]),if_neg (by simp[e7])]
      rw[HE]
      exact cIns_B N i va vc vp pm regs code hr1 hr2 hc1 hc2 w hN ha hvc e1 e2 e7 e4 e5
end
section
open Go.RowKit
def headB (pm regs:Int):Bool:=fromB pm 0 3 && fromB regs (max 1 pm) 40
set_option maxHeartbeats 1000000 in
theorem headFits (pm regs:Int) (vc:Value) (w:World) (hvc:∃x n c,vc=.slice x n c):Calls Tryz.prog 96 #[.agg #[.int .i64 pm,.int .i64 regs,vc]] w fun e w'=>e=.returned (.bool (headB pm regs))∧Below w.heap.size w w':=by
 obtain⟨x,n,c,rfl⟩:=hvc
 have HF:Hid (∀n lo hi wi,Calls Tryz.prog 95 #[.int .i64 n,.int .i64 lo,.int .i64 hi] wi fun e w'=>e=.returned (.bool (fromB n lo hi))∧w'=wi):=isFrom
 by_cases h:1<pm
 ·have HM:Hid (max 1 pm=pm):=(by show max 1 pm=pm;omega)
  go_enter Tryz.func96,Tryz.ntmps96
  go_wp2_with (go_at_call 95;refine (HF.out _ _ _ _).mono ?_;rintro e w1 ⟨rfl,h1⟩;rw[h1];clear h1)
  all_goals
   go_ret
   refine⟨ret_bool ?_,below_alloc _ _⟩
   go_light
   unfold headB
   rw[HM.out]
   simp_all
 ·have HM:Hid (max 1 pm=1):=(by show max 1 pm=1;omega)
  go_enter Tryz.func96,Tryz.ntmps96
  go_wp2_with (go_at_call 95;refine (HF.out _ _ _ _).mono ?_;rintro e w1 ⟨rfl,h1⟩;rw[h1];clear h1)
  all_goals
   go_ret
   refine⟨ret_bool ?_,below_alloc _ _⟩
   go_light
   unfold headB
   rw[HM.out]
   simp_all
theorem CodeAt.shape {N:Nat} {w:World} {v:Value} {n:Nat} {ins:Nat→In} (h:CodeAt N w v n ins):∃a cap,v=.slice a n cap∧n≤9223372036854775807:=by
 obtain⟨a,cap,rfl,hn,_⟩:=h;exact⟨a,cap,rfl,hn⟩
theorem ProcsAt.shape {N:Nat} {w:World} {v:Value} {n:Nat} {P:Nat→Pc} (h:ProcsAt N w v n P):∃a cap,v=.slice a n cap∧n≤9223372036854775807:=by
 obtain⟨a,cap,rfl,hn,_⟩:=h;exact⟨a,cap,rfl,hn⟩
theorem bodyC_at {np:Nat} {par:Nat→Int} {p:Pc} {k:Nat} (hk:k<p.n) (h:∀x,x<k→insErr np par p.regs p.n (p.ins x)=0) (he:¬insErr np par p.regs p.n (p.ins k)=0):bodyCErr np par p=insErr np par p.regs p.n (p.ins k):=by
 unfold bodyCErr
 have:=firstErr_at (f:=fun k=>insErr np par p.regs p.n (p.ins k)) h he hk
 have e:firstErr p.n (fun k=>insErr np par p.regs p.n (p.ins k))=insErr np par p.regs p.n (p.ins k):=this
 rw[e,if_neg he]
theorem bodyC_all {np:Nat} {par:Nat→Int} {p:Pc} (h:∀x,x<p.n→insErr np par p.regs p.n (p.ins x)=0):bodyCErr np par p=if (p.ins (p.n - 1)).op=8∨(p.ins (p.n - 1)).op=12 then 0 else 4:=by
 unfold bodyCErr
 rw[if_pos (firstErr_zero h)]
set_option maxHeartbeats 4000000 in
theorem checkCode (N:Nat) (p:Pc) (vc vp:Value) (np:Nat) (P:Nat→Pc) (hr1:1≤p.regs) (hr2:p.regs≤40) (hc1:1≤p.n) (hc2:p.n≤2000) (hn4:np≤4) (w:World) (hN:N≤w.heap.size)
  (hc:CodeAt N w vc p.n p.ins) (hp:ProcsAt N w vp np P) :
  Calls Tryz.prog 97 #[.agg #[.int .i64 p.params,.int .i64 p.regs,vc],vp] w fun e w'=>e=.returned (.int .i64 (bodyCErr np (fun k=>(P k).params) p))∧Below w.heap.size w w':=by
 obtain⟨pm,regs,n,ins⟩:=p
 dsimp only at *
 obtain⟨ac,cc,rfl,_,hc⟩:=hc
 obtain⟨cb,co,rfl,hcb,hc⟩:∃b o,ac=some ⟨b,o,none⟩∧b<N∧∀i,i<n→∃va,w.cell? ⟨b,o+i*5,none⟩=some (.int .i64 (ins i).op)∧w.cell? ⟨b,o+i*5+1,none⟩=some (.int .i64 (ins i).a)∧w.cell? ⟨b,o+i*5+2,none⟩=some (.int .i64 (ins i).b) ∧
   w.cell? ⟨b,o+i*5+3,none⟩=some (.int .i64 (ins i).c)∧w.cell? ⟨b,o+i*5+4,none⟩=some va∧NumsAt N w va (ins i).n (ins i).z:=by
  rcases hc with h|h
  ·omega
  ·exact h
 have HC:Hid (∀wi,Below w.heap.size w wi→∀i,i<n→∃va,wi.cell? ⟨cb,co+i*5,none⟩=some (.int .i64 (ins i).op)∧wi.cell? ⟨cb,co+i*5+1,none⟩=some (.int .i64 (ins i).a)∧wi.cell? ⟨cb,co+i*5+2,none⟩=some (.int .i64 (ins i).b) ∧
   wi.cell? ⟨cb,co+i*5+3,none⟩=some (.int .i64 (ins i).c)∧wi.cell? ⟨cb,co+i*5+4,none⟩=some va∧Hid (NumsAt N wi va (ins i).n (ins i).z)):=fun wi hb i hi=>by
  obtain⟨va,c0,c1,c2,c3,c4,hv⟩:=hc i hi
  have hlt:cb<w.heap.size:=by omega
  exact⟨va,by rw[hb.cell hlt];exact c0,by rw[hb.cell hlt];exact c1,by rw[hb.cell hlt];exact c2,by rw[hb.cell hlt];exact c3,by rw[hb.cell hlt];exact c4,hv.below (hb.mono hN)⟩
 have HP:Hid (ProcsAt N w vp np P):=hp
 obtain⟨ap,cp,rfl,hnp⟩:=hp.shape
 have HBX:Hid (∀w1,Below (w.alloc (.cells #[.int .i64 pm,.int .i64 regs,.slice (some ⟨cb,co,none⟩) n cc] 38)).heap.size (w.alloc (.cells #[.int .i64 pm,.int .i64 regs,.slice (some ⟨cb,co,none⟩) n cc] 38)) w1 →
   w1.cell? ⟨w.heap.size,0,none⟩=some (.int .i64 pm)∧w1.cell? ⟨w.heap.size,1,none⟩=some (.int .i64 regs)∧w1.cell? ⟨w.heap.size,2,none⟩=some (.slice (some ⟨cb,co,none⟩) n cc)):=fun w1 hb=>⟨box_in hb 0 rfl,box_in hb 1 rfl,box_in hb 2 rfl⟩
 have hbW:=below_alloc w (.cells #[.int .i64 pm,.int .i64 regs,.slice (some ⟨cb,co,none⟩) n cc] 38)
 have hsW:(w.alloc (.cells #[.int .i64 pm,.int .i64 regs,.slice (some ⟨cb,co,none⟩) n cc] 38)).heap.size=w.heap.size+1:=by simp
 clear hc hp
 go_enter Tryz.func97,Tryz.ntmps97
 go_upto_region 2 with (fail)
 generalize hWe:w.alloc (.cells #[.int .i64 pm,.int .i64 regs,.slice (some ⟨cb,co,none⟩) n cc] 38)=W at *
 clear hWe
 go_loopw [12] (fun q wr=>∃k:Nat,k≤n∧q=.int .i64 k∧Hid (Below W.heap.size W wr)∧Hid (∀x,x<k→insErr np (fun k=>(P k).params) regs n (ins x)=0)) (fun q _=>n - (intOf q).toNat)
 case atStart=>exact⟨0,by omega,rfl,Below.refl _ _,fun x hx=>absurd hx (Nat.not_lt_zero _)⟩
 case round =>
  obtain⟨k,hk0,rfl,HB,HA⟩:=hrel
  obtain⟨x0,x1,x2⟩:=HBX.out _ HB.out
  have hsz:=HB.out.size
  have hszw:w.heap.size<wr.heap.size:=by omega
  have hcw:cb<wr.heap.size:=by omega
  by_cases hk:k<n
  ·obtain⟨va,c0,c1,c2,c3,c4,HV⟩:=HC.out wr (hbW.trans (HB.out.mono (by omega))) k hk
   obtain⟨av,cv,rfl,_⟩:=HV.out.shape
   have hki:(k:Int)<(n:Int):=by omega
   have HIn:Hid (∀wi,Below wr.heap.size wr wi→Calls Tryz.prog 134 #[.agg #[.int .i64 (ins k).op,.int .i64 (ins k).a,.int .i64 (ins k).b,.int .i64 (ins k).c,.slice av (ins k).n cv],.agg #[.int .i64 pm,.int .i64 regs,.slice (some ⟨cb,co,none⟩) n cc],.slice ap np cp] wi
     fun e w'=>e=.returned (.int .i64 (insErr np (fun k=>(P k).params) regs n (ins k)))∧Below wi.heap.size wi w'):=fun wi hb=>by
    have hbw:Below w.heap.size w wi:=(hbW.trans (HB.out.mono (by omega))).trans (hb.mono (by omega))
    exact checkIns N (ins k) _ _ _ pm regs n np P hr1 hr2 hc1 hc2 hn4 wi (Nat.le_trans hN hbw.size) (HV.out.below (hb.mono (by omega))) ⟨_,_,rfl⟩ (HP.out.below (hbw.mono hN))
   have hal:∀o:Obj,Below wr.heap.size wr (wr.alloc o):=fun o=>below_alloc wr o
   have HAL:Hid (∀o:Obj,∀(i:Nat) (v:Value),Below wr.heap.size wr ((wr.alloc o).setCell ⟨wr.heap.size,i,none⟩ v)):=fun o i v=>(below_alloc wr o).setCell (Nat.le_refl _) _
   clear hal
   by_cases he:insErr np (fun k=>(P k).params) regs n (ins k)=0
   ·rw[he]at HIn
    have HE:Hid (insErr np (fun k=>(P k).params) regs n (ins k)=0):=he
    clear he
    go_wp2_with (go_at_call 134;refine (HIn.out _ (below_alloc wr _)).mono ?_;rintro e w2 ⟨rfl,b2⟩)
    go_roundw
    case rel=>exact⟨k+1,by omega,by go_num,HB.out.trans ((below_step (below_alloc wr _) b2).mono (by omega)),upTo HA.out HE.out⟩
    case measure=>simp[intOf];omega
   ·have hne:((insErr np (fun k=>(P k).params) regs n (ins k)) != 0)=true:=by simp[he]
    have HE:Hid (bodyCErr np (fun k=>(P k).params) ⟨pm,regs,n,ins⟩=insErr np (fun k=>(P k).params) regs n (ins k)):=bodyC_at (p:=⟨pm,regs,n,ins⟩) hk HA.out he
    clear he
    go_wp2_with (go_at_call 134;refine (HIn.out _ (below_alloc wr _)).mono ?_;rintro e w2 ⟨rfl,b2⟩)
    go_ret
    exact⟨ret_num HE.out.symm,(hbW.trans (HB.out.mono (by omega))).trans ((below_step (below_alloc wr _) b2).mono (by omega))⟩
  ·obtain rfl:k=n:=by omega
   have HE:Hid (bodyCErr np (fun k=>(P k).params) ⟨pm,regs,k,ins⟩=if (ins (k - 1)).op=8∨(ins (k - 1)).op=12 then 0 else 4):=bodyC_all (p:=⟨pm,regs,k,ins⟩) HA.out
   obtain⟨va,c0,_⟩:=HC.out wr (hbW.trans (HB.out.mono (by omega))) (k - 1) (by omega)
   obtain⟨m,rfl⟩:∃m,k=m+1:=⟨k - 1,by omega⟩
   simp only[Nat.add_sub_cancel]at c0 HE
   have hBw:Below w.heap.size w wr:=hbW.trans (HB.out.mono (by omega))
   have HBw:Hid (Below w.heap.size w wr):=hBw
   clear hBw
   by_cases h8:(ins m).op=8
   ·have HE2:Hid (bodyCErr np (fun k=>(P k).params) ⟨pm,regs,m+1,ins⟩=0):=by show _=_;rw[HE.out,if_pos (Or.inl h8)]
    have h8b:((ins m).op != 8)=false:=by simp[h8]
    clear h8 HE
    go_wp2_with fail
    go_ret
    exact⟨ret_num HE2.out.symm,HBw.out⟩
   have h8b:((ins m).op != 8)=true:=by simp[h8]
   by_cases h12:(ins m).op=12
   ·have HE2:Hid (bodyCErr np (fun k=>(P k).params) ⟨pm,regs,m+1,ins⟩=0):=by show _=_;rw[HE.out,if_pos (Or.inr h12)]
    have h12b:((ins m).op != 12)=false:=by simp[h12]
    clear h8 h12 HE
    go_wp2_with fail
    go_ret
    exact⟨ret_num HE2.out.symm,HBw.out⟩
   ·have HE2:Hid (bodyCErr np (fun k=>(P k).params) ⟨pm,regs,m+1,ins⟩=4):=by show _=_;rw[HE.out,if_neg (by omega)]
    have h12b:((ins m).op != 12)=true:=by simp[h12]
    clear h8 h12 HE
    go_wp2_with fail
    go_ret
    exact⟨ret_num HE2.out.symm,HBw.out⟩
theorem codeErr_many {np:Nat} {P:Nat→Pc} (h:np<1∨4<np):codeErr np P=2:=by unfold codeErr;rw[if_pos h]
theorem codeErr_head {np:Nat} {P:Nat→Pc} (h:¬(np<1∨4<np)) {j:Nat} (hj:j<np) (ha:∀x,x<j→pcErr x (P x)=0) (he:¬pcErr j (P j)=0):codeErr np P=pcErr j (P j):=by
 have e:firstErr np (fun j=>pcErr j (P j))=pcErr j (P j):=firstErr_at (f:=fun j=>pcErr j (P j)) ha he hj
 unfold codeErr
 rw[if_neg h,e,if_neg he]
theorem codeErr_body {np:Nat} {P:Nat→Pc} (h:¬(np<1∨4<np)) (h0:∀x,x<np→pcErr x (P x)=0) {j:Nat} (hj:j<np) (ha:∀x,x<j→bodyCErr np (fun k=>(P k).params) (P x)=0) (he:¬bodyCErr np (fun k=>(P k).params) (P j)=0):codeErr np P=bodyCErr np (fun k=>(P k).params) (P j):=by
 unfold codeErr
 rw[if_neg h,if_pos (firstErr_zero h0)]
 exact firstErr_at (f:=fun j=>bodyCErr np (fun k=>(P k).params) (P j)) ha he hj
theorem codeErr_none {np:Nat} {P:Nat→Pc} (h:¬(np<1∨4<np)) (h0:∀x,x<np→pcErr x (P x)=0) (ha:∀x,x<np→bodyCErr np (fun k=>(P k).params) (P x)=0):codeErr np P=0:=by
 unfold codeErr
 rw[if_neg h,if_pos (firstErr_zero h0),firstErr_zero ha]
theorem pcErr_head {j:Nat} {p:Pc} (h:headB p.params p.regs=false):pcErr j p=3:=by
 unfold headB at h
 unfold pcErr
 rw[if_pos]
 rw[Bool.and_eq_false_iff]at h
 rcases h with h|h
 ·exact Or.inl h
 ·exact Or.inr (Or.inl h)
theorem pcErr_first {j:Nat} {p:Pc} (h:j=0∧0<p.params):pcErr j p=3:=by
 unfold pcErr
 rw[if_pos (Or.inr (Or.inr h))]
theorem pcErr_rest {j:Nat} {p:Pc} (h:headB p.params p.regs=true) (h0:¬(j=0∧0<p.params)):pcErr j p=if p.n<1∨2000<p.n then 2 else 0:=by
 unfold headB at h
 rw[Bool.and_eq_true]at h
 unfold pcErr
 rw[if_neg]
 rw[h.1,h.2]
 simp
 omega
theorem pcErr_fits {j:Nat} {p:Pc} (h:pcErr j p=0):(1≤p.regs∧p.regs≤40)∧(1≤p.n∧p.n≤2000):=by
 unfold pcErr at h
 split at h
 ·cases h
 ·next h1 =>
  split at h
  ·cases h
  ·rw[not_or,not_or]at h1
   have b:fromB p.regs (max 1 p.params) 40=true:=by simpa using h1.2.1
   unfold fromB at b
   have b:=of_decide_eq_true b
   omega
set_option maxHeartbeats 4000000 in
theorem codeCheck (N:Nat) (vp:Value) (np:Nat) (P:Nat→Pc) (w:World) (hN:N≤w.heap.size) (hp:ProcsAt N w vp np P) :
  Calls Tryz.prog 43 #[vp] w fun e w'=>e=.returned (.int .i64 (codeErr np P))∧Below w.heap.size w w':=by
 have HF:Hid (∀n lo hi wi,Calls Tryz.prog 95 #[.int .i64 n,.int .i64 lo,.int .i64 hi] wi fun e w'=>e=.returned (.bool (fromB n lo hi))∧w'=wi):=isFrom
 have HP:Hid (ProcsAt N w vp np P):=hp
 obtain⟨ap,cp,rfl,hnp,hp⟩:=hp
 by_cases hn:np<1∨4<np
 ·have HE:Hid (codeErr np P=2):=codeErr_many hn
  have HF1:Hid (∀wi,Calls Tryz.prog 95 #[.int .i64 np,.int .i64 1,.int .i64 4] wi fun e w'=>e=.returned (.bool false)∧w'=wi):=fun wi=>by
   have:=HF.out np 1 4 wi
   have e:fromB np 1 4=false:=by unfold fromB;rw[decide_eq_false_iff_not];omega
   rw[e]at this;exact this
  clear hn hp
  go_enter Tryz.func43,Tryz.ntmps43
  go_wp2_with (go_at_call 95;refine (HF1.out _).mono ?_;rintro e w1 ⟨rfl,h1⟩;rw[h1];clear h1)
  go_ret
  exact⟨ret_num HE.out.symm,Below.refl _ _⟩
 have hn4:np≤4:=by omega
 have HM:Hid (¬(np<1∨4<np)):=hn
 have HF1:Hid (∀wi,Calls Tryz.prog 95 #[.int .i64 np,.int .i64 1,.int .i64 4] wi fun e w'=>e=.returned (.bool true)∧w'=wi):=fun wi=>by
  have:=HF.out np 1 4 wi
  have e:fromB np 1 4=true:=by unfold fromB;rw[decide_eq_true_iff];omega
  rw[e]at this;exact this
 obtain⟨pb,po,rfl,hpb,hp⟩:∃b o,ap=some ⟨b,o,none⟩∧b<N∧∀i,i<np→∃vc,w.cell? ⟨b,o+i*3,none⟩=some (.int .i64 (P i).params)∧w.cell? ⟨b,o+i*3+1,none⟩=some (.int .i64 (P i).regs)∧w.cell? ⟨b,o+i*3+2,none⟩=some vc∧CodeAt N w vc (P i).n (P i).ins:=by
  rcases hp with h|h
  ·omega
  ·exact h
 have HC:Hid (∀wi,Below w.heap.size w wi→∀i,i<np→∃vc,wi.cell? ⟨pb,po+i*3,none⟩=some (.int .i64 (P i).params)∧wi.cell? ⟨pb,po+i*3+1,none⟩=some (.int .i64 (P i).regs)∧wi.cell? ⟨pb,po+i*3+2,none⟩=some vc∧Hid (CodeAt N wi vc (P i).n (P i).ins)):=fun wi hb i hi=>by
  obtain⟨vc,c0,c1,c2,hv⟩:=hp i hi
  have hlt:pb<w.heap.size:=by omega
  exact⟨vc,by rw[hb.cell hlt];exact c0,by rw[hb.cell hlt];exact c1,by rw[hb.cell hlt];exact c2,hv.below (hb.mono hN)⟩
 clear hp hn
 go_enter Tryz.func43,Tryz.ntmps43
 go_upto_region 4 with (first|(go_at_call 95;refine (HF1.out _).mono ?_;rintro e w1 ⟨rfl,h1⟩;rw[h1];clear h1))
 go_loopw [14] (fun q wr=>∃k:Nat,k≤np∧q=.int .i64 k∧Hid (Below w.heap.size w wr)∧Hid (∀x,x<k→pcErr x (P x)=0)) (fun q _=>np - (intOf q).toNat)
 case atStart=>exact⟨0,by omega,rfl,Below.refl _ _,fun x hx=>absurd hx (Nat.not_lt_zero _)⟩
 case round =>
  obtain⟨k,hk0,rfl,HB,HA⟩:=hrel
  have hsz:=HB.out.size
  have hpw:pb<wr.heap.size:=by omega
  by_cases hk:k<np
  ·obtain⟨vc,c0,c1,c2,HV⟩:=HC.out wr HB.out k hk
   obtain⟨av,cv,rfl,hcn⟩:=HV.out.shape
   have hki:(k:Int)<(np:Int):=by omega
   have HBX:Hid (∀w1,Below (wr.alloc (.cells #[.int .i64 (P k).params,.int .i64 (P k).regs,.slice av (P k).n cv] 38)).heap.size (wr.alloc (.cells #[.int .i64 (P k).params,.int .i64 (P k).regs,.slice av (P k).n cv] 38)) w1 →
     w1.cell? ⟨wr.heap.size,0,none⟩=some (.int .i64 (P k).params)∧w1.cell? ⟨wr.heap.size,1,none⟩=some (.int .i64 (P k).regs)∧w1.cell? ⟨wr.heap.size,2,none⟩=some (.slice av (P k).n cv)):=fun w1 hb=>⟨box_in hb 0 rfl,box_in hb 1 rfl,box_in hb 2 rfl⟩
   have HHd:Hid (∀wi,Calls Tryz.prog 96 #[.agg #[.int .i64 (P k).params,.int .i64 (P k).regs,.slice av (P k).n cv]] wi fun e w'=>e=.returned (.bool (headB (P k).params (P k).regs))∧Below wi.heap.size wi w'):=fun wi=>headFits _ _ _ wi ⟨_,_,_,rfl⟩
   cases eh:headB (P k).params (P k).regs with
   | false =>
    rw[eh]at HHd
    have HE:Hid (codeErr np P=3):=by show _=_;rw[codeErr_head HM.out hk HA.out (by rw[pcErr_head eh];decide),pcErr_head eh]
    clear eh
    go_wp2_with (first
     | (go_at_call 96;refine (HHd.out _).mono ?_;rintro e w1 ⟨rfl,b1⟩;obtain⟨x0,x1,x2⟩:=HBX.out _ b1))
    go_ret
    exact⟨ret_num HE.out.symm,HB.out.trans ((below_step (below_alloc wr _) b1).mono (by omega))⟩
   | true =>
    rw[eh]at HHd
    by_cases h0:k=0∧0<(P k).params
    ·have HE:Hid (codeErr np P=3):=by show _=_;rw[codeErr_head HM.out hk HA.out (by rw[pcErr_first h0];decide),pcErr_first h0]
     have k0:((k:Int) == 0)=true:=by simp[h0.1]
     have k1:decide ((P k).params > 0)=true:=by simp[h0.2]
     have k2:(P k).params > 0:=h0.2
     clear eh h0
     go_wp2_with (first
      | (go_at_call 96;refine (HHd.out _).mono ?_;rintro e w1 ⟨rfl,b1⟩;obtain⟨x0,x1,x2⟩:=HBX.out _ b1))
     go_ret
     exact⟨ret_num HE.out.symm,HB.out.trans ((below_step (below_alloc wr _) b1).mono (by omega))⟩
    ·have HPc:Hid (pcErr k (P k)=if (P k).n<1∨2000<(P k).n then 2 else 0):=pcErr_rest eh h0
     have HF2:Hid (∀b,fromB (P k).n 1 2000=b→∀wi,Calls Tryz.prog 95 #[.int .i64 (P k).n,.int .i64 1,.int .i64 2000] wi fun e w'=>e=.returned (.bool b)∧w'=wi):=fun b hb wi=>by
      have:=HF.out (P k).n 1 2000 wi
      rw[hb]at this;exact this
     have HZ:Hid (¬(k=0∧0<(P k).params)):=h0
     clear eh h0
     cases hm:fromB (P k).n 1 2000 with
     | false =>
      have hm2:(P k).n<1∨2000<(P k).n:=by
       unfold fromB at hm
       rw[decide_eq_false_iff_not]at hm
       omega
      have HE:Hid (codeErr np P=2):=by show _=_;rw[codeErr_head HM.out hk HA.out (by rw[HPc.out,if_pos hm2];decide),HPc.out,if_pos hm2]
      have HF3:=HF2.out false hm
      have HF4:Hid (∀wi,Calls Tryz.prog 95 #[.int .i64 (P k).n,.int .i64 1,.int .i64 2000] wi fun e w'=>e=.returned (.bool false)∧w'=wi):=HF3
      clear hm hm2 HF3
      by_cases k00:k=0
      ·have k0:((k:Int) == 0)=true:=by simp[k00]
       have k2:¬(P k).params > 0:=fun h=>HZ.out ⟨k00,h⟩
       clear k00
       go_wp2_with (first
        | (go_at_call 96;refine (HHd.out _).mono ?_;rintro e w1 ⟨rfl,b1⟩;obtain⟨x0,x1,x2⟩:=HBX.out _ b1)
        | (go_at_call 95;refine (HF4.out _).mono ?_;rintro e w2 ⟨rfl,h1⟩;rw[h1];clear h1))
       go_ret
       exact⟨ret_num HE.out.symm,HB.out.trans ((below_step (below_alloc wr _) b1).mono (by omega))⟩
      ·have k0:((k:Int) == 0)=false:=by simp[k00]
       clear k00
       go_wp2_with (first
        | (go_at_call 96;refine (HHd.out _).mono ?_;rintro e w1 ⟨rfl,b1⟩;obtain⟨x0,x1,x2⟩:=HBX.out _ b1)
        | (go_at_call 95;refine (HF4.out _).mono ?_;rintro e w2 ⟨rfl,h1⟩;rw[h1];clear h1))
       go_ret
       exact⟨ret_num HE.out.symm,HB.out.trans ((below_step (below_alloc wr _) b1).mono (by omega))⟩
     | true =>
      have hm2:¬((P k).n<1∨2000<(P k).n):=by
       unfold fromB at hm
       have:=of_decide_eq_true hm
       omega
      have HE:Hid (pcErr k (P k)=0):=by show _=_;rw[HPc.out,if_neg hm2]
      have HF3:=HF2.out true hm
      have HF4:Hid (∀wi,Calls Tryz.prog 95 #[.int .i64 (P k).n,.int .i64 1,.int .i64 2000] wi fun e w'=>e=.returned (.bool true)∧w'=wi):=HF3
      clear hm hm2 HF3
      by_cases k00:k=0
      ·have k0:((k:Int) == 0)=true:=by simp[k00]
       have k2:¬(P k).params > 0:=fun h=>HZ.out ⟨k00,h⟩
       clear k00
       go_wp2_with (first
        | (go_at_call 96;refine (HHd.out _).mono ?_;rintro e w1 ⟨rfl,b1⟩;obtain⟨x0,x1,x2⟩:=HBX.out _ b1)
        | (go_at_call 95;refine (HF4.out _).mono ?_;rintro e w2 ⟨rfl,h1⟩;rw[h1];clear h1))
       go_roundw
       case rel=>exact⟨k+1,by omega,by go_num,HB.out.trans ((below_step (below_alloc wr _) b1).mono (by omega)),upTo HA.out HE.out⟩
       case measure=>simp[intOf];omega
      ·have k0:((k:Int) == 0)=false:=by simp[k00]
       clear k00
       go_wp2_with (first
        | (go_at_call 96;refine (HHd.out _).mono ?_;rintro e w1 ⟨rfl,b1⟩;obtain⟨x0,x1,x2⟩:=HBX.out _ b1)
        | (go_at_call 95;refine (HF4.out _).mono ?_;rintro e w2 ⟨rfl,h1⟩;rw[h1];clear h1))
       go_roundw
       case rel=>exact⟨k+1,by omega,by go_num,HB.out.trans ((below_step (below_alloc wr _) b1).mono (by omega)),upTo HA.out HE.out⟩
       case measure=>simp[intOf];omega
  ·obtain rfl:k=np:=by omega
   have HB1:=HB
   clear HB
   have HA1:=HA
   clear HA
   go_upto_region 12 with (fail)
   generalize wr=w1 at *
   go_loopw [39] (fun q wr=>∃j:Nat,j≤k∧q=.int .i64 j∧Hid (Below w.heap.size w wr)∧Hid (∀x,x<j→bodyCErr k (fun k=>(P k).params) (P x)=0)) (fun q _=>k - (intOf q).toNat)
   case atStart=>exact⟨0,by omega,rfl,HB1,fun x hx=>absurd hx (Nat.not_lt_zero _)⟩
   case round =>
    clear hsz hpw HB1
    obtain⟨j,hj0,rfl,HB,HA⟩:=hrel
    have hsz:=HB.out.size
    have hpw:pb<wr.heap.size:=by omega
    by_cases hj:j<k
    ·obtain⟨vc,c0,c1,c2,HV⟩:=HC.out wr HB.out j hj
     obtain⟨av,cv,rfl,hcn⟩:=HV.out.shape
     have hji:(j:Int)<(k:Int):=by omega
     obtain⟨⟨f1,f2⟩,⟨f3,f4⟩⟩:=pcErr_fits (HA1.out j hj)
     have HCo:Hid (∀wi,Below wr.heap.size wr wi→Calls Tryz.prog 97 #[.agg #[.int .i64 (P j).params,.int .i64 (P j).regs,.slice av (P j).n cv],.slice (some ⟨pb,po,none⟩) k cp] wi fun e w'=>e=.returned (.int .i64 (bodyCErr k (fun k=>(P k).params) (P j)))∧Below wi.heap.size wi w'):=fun wi hb=>by
      have hbw:Below w.heap.size w wi:=HB.out.trans (hb.mono hsz)
      exact checkCode N (P j) _ _ k P f1 f2 f3 f4 hn4 wi (Nat.le_trans hN hbw.size) (HV.out.below (hb.mono (by omega))) (HP.out.below (hbw.mono hN))
     clear f1 f2 f3 f4
     by_cases he:bodyCErr k (fun k=>(P k).params) (P j)=0
     ·rw[he]at HCo
      have HE:Hid (bodyCErr k (fun k=>(P k).params) (P j)=0):=he
      clear he
      go_wp2_with (go_at_call 97;refine (HCo.out _ (below_alloc wr _)).mono ?_;rintro e w2 ⟨rfl,b2⟩)
      go_roundw
      case rel=>exact⟨j+1,by omega,by go_num,HB.out.trans ((below_step (below_alloc wr _) b2).mono (by omega)),upTo HA.out HE.out⟩
      case measure=>simp[intOf];omega
     ·have hne:((bodyCErr k (fun k=>(P k).params) (P j)) != 0)=true:=by simp[he]
      have HE:Hid (codeErr k P=bodyCErr k (fun k=>(P k).params) (P j)):=codeErr_body HM.out HA1.out hj HA.out he
      clear he
      go_wp2_with (go_at_call 97;refine (HCo.out _ (below_alloc wr _)).mono ?_;rintro e w2 ⟨rfl,b2⟩)
      go_ret
      exact⟨ret_num HE.out.symm,HB.out.trans ((below_step (below_alloc wr _) b2).mono (by omega))⟩
    ·obtain rfl:j=k:=by omega
     have HE:Hid (codeErr j P=0):=codeErr_none HM.out HA1.out HA.out
     go_wp2_with fail
     go_ret
     exact⟨ret_num HE.out.symm,HB.out⟩
end
end Go.Proofs.YtfaokaohhchdhaaGreatDoor
