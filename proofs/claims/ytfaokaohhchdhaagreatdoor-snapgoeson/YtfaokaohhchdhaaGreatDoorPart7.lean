/- checkIns where op isn't a call's, and all that has no use is zero. -/
import Derived.Test.YtfaokaohhchdhaaGreatDoorPart6
namespace Go.Proofs.YtfaokaohhchdhaaGreatDoor
open Go.ChangeShapes Go.WideShapes Go.ChangeAt Go.RowKit
set_option maxRecDepth 20000 in
set_option maxHeartbeats 4000000 in
theorem cIns_B (N:Nat) (i:In) (va vc vp:Value) (pm regs:Int) (code:Nat) (hr1:1≤regs) (hr2:regs≤40) (hc1:1≤code) (hc2:code≤2000) (w:World) (hN:N≤w.heap.size)
  (ha:NumsAt N w va i.n i.z) (hvc:∃x cp,vc=.slice x code cp) (e1:fromB i.op 1 13=true) (e2:regsB i regs=true) (e7:¬i.op=7) (e4:restB i code=true) (e5:bareB i=true) :
  Calls Tryz.prog 134 #[.agg #[.int .i64 i.op,.int .i64 i.a,.int .i64 i.b,.int .i64 i.c,va],.agg #[.int .i64 pm,.int .i64 regs,vc],vp] w fun e w'=>e=.returned (.int .i64 0)∧Below w.heap.size w w':=by
 obtain⟨xa,ca,rfl,hna⟩:=ha.shape
 obtain⟨xc,cc,rfl⟩:=hvc
 have HF:Hid (∀n lo hi wi,Calls Tryz.prog 95 #[.int .i64 n,.int .i64 lo,.int .i64 hi] wi fun e w'=>e=.returned (.bool (fromB n lo hi))∧w'=wi):=isFrom
 have HRg:Hid (∀wi,Calls Tryz.prog 174 #[.agg #[.int .i64 i.op,.int .i64 i.a,.int .i64 i.b,.int .i64 i.c,.slice xa i.n ca],.int .i64 regs] wi fun e w'=>e=.returned (.bool (regsB i regs))∧Below wi.heap.size wi w'):=fun wi=>regsFit i xa ca regs hr1 (by omega) wi
 have HRs:Hid (∀wi,Below w.heap.size w wi→Calls Tryz.prog 175 #[.agg #[.int .i64 i.op,.int .i64 i.a,.int .i64 i.b,.int .i64 i.c,.slice xa i.n ca],.int .i64 code] wi fun e w'=>e=.returned (.bool (restB i code))∧Below wi.heap.size wi w'):=fun wi hb=>restFits N i _ code (by omega) (by omega) wi (Nat.le_trans hN hb.size) (ha.below (hb.mono hN))
 have HBr:Hid (∀wi,Calls Tryz.prog 176 #[.agg #[.int .i64 i.op,.int .i64 i.a,.int .i64 i.b,.int .i64 i.c,.slice xa i.n ca]] wi fun e w'=>e=.returned (.bool (bareB i))∧Below wi.heap.size wi w'):=fun wi=>bare i xa ca wi
 have HCo:Hid (∀wi,Below w.heap.size w wi→wi.cell? ⟨w.heap.size+1,1,none⟩=some (.int .i64 regs)→Calls Tryz.prog 177 #[.slice xa i.n ca,.func (.func 178) #[] #[.pointer (some ⟨w.heap.size+1,0,none⟩)]] wi fun e w'=>e=.returned (.bool (!argsB i regs))∧w'=wi):=fun wi hb hc=>containsOut N i _ regs (by omega) (by omega) _ wi (Nat.le_trans hN hb.size) hc (ha.below (hb.mono hN))
 have HBx:Hid (∀w1,Below ((w.alloc (.cells #[.int .i64 i.op,.int .i64 i.a,.int .i64 i.b,.int .i64 i.c,.slice xa i.n ca] 84)).alloc (.cells #[.int .i64 pm,.int .i64 regs,.slice xc code cc] 38)).heap.size ((w.alloc (.cells #[.int .i64 i.op,.int .i64 i.a,.int .i64 i.b,.int .i64 i.c,.slice xa i.n ca] 84)).alloc (.cells #[.int .i64 pm,.int .i64 regs,.slice xc code cc] 38)) w1 →
   (w1.cell? ⟨w.heap.size,0,none⟩=some (.int .i64 i.op)∧w1.cell? ⟨w.heap.size,1,none⟩=some (.int .i64 i.a)∧w1.cell? ⟨w.heap.size,2,none⟩=some (.int .i64 i.b)∧w1.cell? ⟨w.heap.size,3,none⟩=some (.int .i64 i.c)∧w1.cell? ⟨w.heap.size,4,none⟩=some (.slice xa i.n ca)) ∧
   (w1.cell? ⟨w.heap.size+1,0,none⟩=some (.int .i64 pm)∧w1.cell? ⟨w.heap.size+1,1,none⟩=some (.int .i64 regs)∧w1.cell? ⟨w.heap.size+1,2,none⟩=some (.slice xc code cc))):=fun w1 hb=>by
  have hb1:=below_step (below_alloc (w.alloc (.cells #[.int .i64 i.op,.int .i64 i.a,.int .i64 i.b,.int .i64 i.c,.slice xa i.n ca] 84)) (.cells #[.int .i64 pm,.int .i64 regs,.slice xc code cc] 38)) hb
  have r0:=box_in hb 0 rfl
  have r1:=box_in hb 1 rfl
  have r2:=box_in hb 2 rfl
  simp only[World.size_alloc]at r0 r1 r2
  exact⟨⟨box_in hb1 0 rfl,box_in hb1 1 rfl,box_in hb1 2 rfl,box_in hb1 3 rfl,box_in hb1 4 rfl⟩,⟨r0,r1,r2⟩⟩
 have hbW:Below w.heap.size w ((w.alloc (.cells #[.int .i64 i.op,.int .i64 i.a,.int .i64 i.b,.int .i64 i.c,.slice xa i.n ca] 84)).alloc (.cells #[.int .i64 pm,.int .i64 regs,.slice xc code cc] 38)):=below_step (below_alloc _ _) (below_alloc _ _)
 have HBW:Hid (Below w.heap.size w ((w.alloc (.cells #[.int .i64 i.op,.int .i64 i.a,.int .i64 i.b,.int .i64 i.c,.slice xa i.n ca] 84)).alloc (.cells #[.int .i64 pm,.int .i64 regs,.slice xc code cc] 38))):=hbW
 clear hbW
 have hmf:∀(fn:Fn) (first cap:Array Value) (w:World),(Instr.makeFunc fn first cap).run Tryz.prog w=.ok (.func fn first cap) w:=fun _ _ _ _=>rfl
 have HF1:Hid (∀wi,Calls Tryz.prog 95 #[.int .i64 i.op,.int .i64 1,.int .i64 13] wi fun e w'=>e=.returned (.bool true)∧w'=wi):=fun wi=>by have:=HF.out i.op 1 13 wi;rw[e1]at this;exact this
 rw[e2]at HRg
 rw[e4]at HRs
 rw[e5]at HBr
 have e7b:(i.op == 7)=false:=by simp[e7]
 clear ha HF HCo e1 e2 e4 e5
 go_enter Tryz.func134,Tryz.ntmps134
 go_wp2_with (first
  | (go_at_call 95;refine (HF1.out _).mono ?_;rintro e w1 ⟨rfl,h1⟩;rw[h1];clear h1)
  | (go_at_call 174;refine (HRg.out _).mono ?_;rintro e w1 ⟨rfl,b1⟩;obtain⟨⟨a0,a1,a2,a3,a4⟩,⟨p0,p1,p2⟩⟩:=HBx.out _ b1;have B1:Hid (Below w.heap.size w w1):=HBW.out.trans (b1.mono HBW.out.size))
  | (go_at_call 175;refine (HRs.out _ B1.out).mono ?_;rintro e w2 ⟨rfl,b2⟩))
 have HS:Hid (∀w',Below w2.heap.size w2 w'→(w'.cell? ⟨w.heap.size,0,none⟩=some (.int .i64 i.op)∧w'.cell? ⟨w.heap.size,1,none⟩=some (.int .i64 i.a)∧w'.cell? ⟨w.heap.size,2,none⟩=some (.int .i64 i.b)∧w'.cell? ⟨w.heap.size,3,none⟩=some (.int .i64 i.c)∧w'.cell? ⟨w.heap.size,4,none⟩=some (.slice xa i.n ca))):=fun w' h=>(HBx.out _ ((b1.trans (b2.mono b1.size)).trans (h.mono (b1.trans (b2.mono b1.size)).size))).1
 have B2:Hid (Below w.heap.size w w2):=B1.out.trans (b2.mono B1.out.size)
 have b0:Below w2.heap.size w2 w2:=Below.refl _ _
 clear a0 a1 a2 a3 a4 p0 p1 p2 b1 b2
 refine held_begin (n:=21) (l0:=#[false,false,false,false,false,false,false,false,false,false,false,false,false,false,false,false,false,false,false,false,false]) (S:=fun w'=>(w'.cell? ⟨w.heap.size,0,none⟩=some (.int .i64 i.op)∧w'.cell? ⟨w.heap.size,1,none⟩=some (.int .i64 i.a)∧w'.cell? ⟨w.heap.size,2,none⟩=some (.int .i64 i.b)∧w'.cell? ⟨w.heap.size,3,none⟩=some (.int .i64 i.c)∧w'.cell? ⟨w.heap.size,4,none⟩=some (.slice xa i.n ca))) (by kernel_rfl) (by kernel_rfl) (by kernel_rfl) (HS.out _ b0.drew) (fun hHeld=>?_)
 refine take_yes (i:=0) (d:=39) (l2:=#[true,false,false,false,false,false,false,false,false,false,false,false,false,false,false,false,false,false,false,false,false]) (v:=?v0) rfl rfl (by kernel_rfl) (by kernel_rfl) (by kernel_rfl) (by kernel_rfl) (fun _ _ _ h=>h) (by rfl) ?hy0 (by assumption) ?_
 case hy0=>(intro wS hSw;(try dsimp only at hSw);(go_simp<;>with_reducible rfl))
 simp only[Act.put,List.setIfInBounds_toArray,List.set_cons_succ,List.set_cons_zero]
 refine one_up (i:=1) (d:=40) (l2:=#[true,true,false,false,false,false,false,false,false,false,false,false,false,false,false,false,false,false,false,false,false]) rfl rfl (by kernel_rfl) (by kernel_rfl) (by rfl) (fun K hK=>?_)
 go_simp
 refine (HBr.out _).mono ?_
 rintro e w9 ⟨rfl,b9'⟩
 have b9:Below w2.heap.size w2 w9:=b0.drew.trans b9'
 refine hK.out _ _ (HS.out _ b9) (fun hHeld9=>?_)
 clear hK K hHeld
 simp only[Act.put,List.setIfInBounds_toArray,List.set_cons_succ,List.set_cons_zero]
 refine take_yes (i:=2) (d:=41) (l2:=#[true,true,true,false,false,false,false,false,false,false,false,false,false,false,false,false,false,false,false,false,false]) (v:=?v2) rfl rfl (by kernel_rfl) (by kernel_rfl) (by kernel_rfl) (by kernel_rfl) (fun _ _ _ h=>h) (by rfl) ?hy2 (by assumption) ?_
 case hy2=>(intro wS hSw;(try dsimp only at hSw);(go_simp<;>with_reducible rfl))
 simp only[Act.put,List.setIfInBounds_toArray,List.set_cons_succ,List.set_cons_zero]
 refine take_yes (i:=3) (d:=42) (l2:=#[true,true,true,true,false,false,false,false,false,false,false,false,false,false,false,false,false,false,false,false,false]) (v:=?v3) rfl rfl (by kernel_rfl) (by kernel_rfl) (by kernel_rfl) (by kernel_rfl) (fun _ _ _ h=>h) (by rfl) ?hy3 (by assumption) ?_
 case hy3=>(intro wS hSw;(try dsimp only at hSw);(go_simp<;>with_reducible rfl))
 simp only[Act.put,List.setIfInBounds_toArray,List.set_cons_succ,List.set_cons_zero]
 refine take_yes (i:=4) (d:=43) (l2:=#[true,true,true,true,true,false,false,false,false,false,false,false,false,false,false,false,false,false,false,false,false]) (v:=?v4) rfl rfl (by kernel_rfl) (by kernel_rfl) (by kernel_rfl) (by kernel_rfl) (fun _ _ _ h=>h) (by rfl) ?hy4 (by assumption) ?_
 case hy4=>(intro wS hSw;(try dsimp only at hSw);(go_simp<;>with_reducible rfl))
 simp only[Act.put,List.setIfInBounds_toArray,List.set_cons_succ,List.set_cons_zero]
 refine take_yes (i:=5) (d:=44) (l2:=#[true,true,true,true,true,true,false,false,false,false,false,false,false,false,false,false,false,false,false,false,false]) (v:=?v5) rfl rfl (by kernel_rfl) (by kernel_rfl) (by kernel_rfl) (by kernel_rfl) (fun _ _ _ h=>h) (by rfl) ?hy5 (by assumption) ?_
 case hy5=>(intro wS hSw;(try dsimp only at hSw);(go_simp<;>with_reducible rfl))
 simp only[Act.put,List.setIfInBounds_toArray,List.set_cons_succ,List.set_cons_zero]
 refine take_yes (i:=6) (d:=45) (l2:=#[true,true,true,true,true,true,true,false,false,false,false,false,false,false,false,false,false,false,false,false,false]) (v:=?v6) rfl rfl (by kernel_rfl) (by kernel_rfl) (by kernel_rfl) (by kernel_rfl) (fun _ _ _ h=>h) (by rfl) ?hy6 (by assumption) ?_
 case hy6=>(intro wS hSw;(try dsimp only at hSw);(go_simp<;>with_reducible rfl))
 simp only[Act.put,List.setIfInBounds_toArray,List.set_cons_succ,List.set_cons_zero]
 refine take_yes (i:=7) (d:=46) (l2:=#[true,true,true,true,true,true,true,true,false,false,false,false,false,false,false,false,false,false,false,false,false]) (v:=?v7) rfl rfl (by kernel_rfl) (by kernel_rfl) (by kernel_rfl) (by kernel_rfl) (fun _ _ _ h=>h) (by rfl) ?hy7 (by assumption) ?_
 case hy7=>(intro wS hSw;(try dsimp only at hSw);(go_simp<;>with_reducible rfl))
 simp only[Act.put,List.setIfInBounds_toArray,List.set_cons_succ,List.set_cons_zero]
 refine take_no (i:=8) (d:=47) (l2:=#[true,true,true,true,true,true,true,true,true,false,false,false,false,false,false,false,false,false,false,false,false]) rfl rfl (by kernel_rfl) (by kernel_rfl) (by kernel_rfl) (by kernel_rfl) (fun _ _ _ h=>h) (by rfl) (by assumption) ?_
 simp only[Act.put,List.setIfInBounds_toArray,List.set_cons_succ,List.set_cons_zero]
 refine take_no (i:=9) (d:=48) (l2:=#[true,true,true,true,true,true,true,true,true,true,false,false,false,false,false,false,false,false,false,false,false]) rfl rfl (by kernel_rfl) (by kernel_rfl) (by kernel_rfl) (by kernel_rfl) (fun _ _ _ h=>h) (by rfl) (by assumption) ?_
 simp only[Act.put,List.setIfInBounds_toArray,List.set_cons_succ,List.set_cons_zero]
 refine take_no (i:=10) (d:=49) (l2:=#[true,true,true,true,true,true,true,true,true,true,true,false,false,false,false,false,false,false,false,false,false]) rfl rfl (by kernel_rfl) (by kernel_rfl) (by kernel_rfl) (by kernel_rfl) (fun _ _ _ h=>h) (by rfl) (by assumption) ?_
 simp only[Act.put,List.setIfInBounds_toArray,List.set_cons_succ,List.set_cons_zero]
 refine take_no (i:=11) (d:=50) (l2:=#[true,true,true,true,true,true,true,true,true,true,true,true,false,false,false,false,false,false,false,false,false]) rfl rfl (by kernel_rfl) (by kernel_rfl) (by kernel_rfl) (by kernel_rfl) (fun _ _ _ h=>h) (by rfl) (by assumption) ?_
 simp only[Act.put,List.setIfInBounds_toArray,List.set_cons_succ,List.set_cons_zero]
 refine take_no (i:=12) (d:=51) (l2:=#[true,true,true,true,true,true,true,true,true,true,true,true,true,false,false,false,false,false,false,false,false]) rfl rfl (by kernel_rfl) (by kernel_rfl) (by kernel_rfl) (by kernel_rfl) (fun _ _ _ h=>h) (by rfl) (by assumption) ?_
 simp only[Act.put,List.setIfInBounds_toArray,List.set_cons_succ,List.set_cons_zero]
 refine take_no (i:=13) (d:=52) (l2:=#[true,true,true,true,true,true,true,true,true,true,true,true,true,true,false,false,false,false,false,false,false]) rfl rfl (by kernel_rfl) (by kernel_rfl) (by kernel_rfl) (by kernel_rfl) (fun _ _ _ h=>h) (by rfl) (by assumption) ?_
 simp only[Act.put,List.setIfInBounds_toArray,List.set_cons_succ,List.set_cons_zero]
 refine take_no (i:=14) (d:=53) (l2:=#[true,true,true,true,true,true,true,true,true,true,true,true,true,true,true,false,false,false,false,false,false]) rfl rfl (by kernel_rfl) (by kernel_rfl) (by kernel_rfl) (by kernel_rfl) (fun _ _ _ h=>h) (by rfl) (by assumption) ?_
 simp only[Act.put,List.setIfInBounds_toArray,List.set_cons_succ,List.set_cons_zero]
 refine take_no (i:=15) (d:=54) (l2:=#[true,true,true,true,true,true,true,true,true,true,true,true,true,true,true,true,false,false,false,false,false]) rfl rfl (by kernel_rfl) (by kernel_rfl) (by kernel_rfl) (by kernel_rfl) (fun _ _ _ h=>h) (by rfl) (by assumption) ?_
 simp only[Act.put,List.setIfInBounds_toArray,List.set_cons_succ,List.set_cons_zero]
 refine take_no (i:=16) (d:=55) (l2:=#[true,true,true,true,true,true,true,true,true,true,true,true,true,true,true,true,true,false,false,false,false]) rfl rfl (by kernel_rfl) (by kernel_rfl) (by kernel_rfl) (by kernel_rfl) (fun _ _ _ h=>h) (by rfl) (by assumption) ?_
 simp only[Act.put,List.setIfInBounds_toArray,List.set_cons_succ,List.set_cons_zero]
 refine take_no (i:=17) (d:=56) (l2:=#[true,true,true,true,true,true,true,true,true,true,true,true,true,true,true,true,true,true,false,false,false]) rfl rfl (by kernel_rfl) (by kernel_rfl) (by kernel_rfl) (by kernel_rfl) (fun _ _ _ h=>h) (by rfl) (by assumption) ?_
 simp only[Act.put,List.setIfInBounds_toArray,List.set_cons_succ,List.set_cons_zero]
 refine take_yes (i:=18) (d:=57) (l2:=#[true,true,true,true,true,true,true,true,true,true,true,true,true,true,true,true,true,true,true,false,false]) (v:=?v18) rfl rfl (by kernel_rfl) (by kernel_rfl) (by kernel_rfl) (by kernel_rfl) (fun _ _ _ h=>h) (by rfl) ?hy18 (by assumption) ?_
 case hy18=>(intro wS hSw;(try dsimp only at hSw);(go_simp<;>with_reducible rfl))
 simp only[Act.put,List.setIfInBounds_toArray,List.set_cons_succ,List.set_cons_zero]
 refine take_yes (i:=19) (d:=58) (l2:=#[true,true,true,true,true,true,true,true,true,true,true,true,true,true,true,true,true,true,true,true,false]) (v:=?v19) rfl rfl (by kernel_rfl) (by kernel_rfl) (by kernel_rfl) (by kernel_rfl) (fun _ _ _ h=>h) (by rfl) ?hy19 (by assumption) ?_
 case hy19=>(intro wS hSw;(try dsimp only at hSw);(go_simp<;>with_reducible rfl))
 simp only[Act.put,List.setIfInBounds_toArray,List.set_cons_succ,List.set_cons_zero]
 refine take_yes (i:=20) (d:=38) (l2:=#[true,true,true,true,true,true,true,true,true,true,true,true,true,true,true,true,true,true,true,true,true]) (v:=?v20) rfl rfl (by kernel_rfl) (by kernel_rfl) (by kernel_rfl) (by kernel_rfl) (fun _ _ _ h=>h) (by rfl) ?hy20 (by assumption) ?_
 case hy20=>(intro wS hSw;(try dsimp only at hSw);(go_simp<;>with_reducible rfl))
 simp only[Act.put,List.setIfInBounds_toArray,List.set_cons_succ,List.set_cons_zero]
 refine wpAnyH_done (by kernel_rfl) ?_ _
 have HB9:Hid (Below w.heap.size w w9):=B2.out.trans (b9.mono B2.out.size)
 obtain⟨a0,a1,a2,a3,a4⟩:=HS.out _ b9
 go_wp2_with fail
 go_ret
 exact⟨rfl,HB9.out⟩
set_option maxRecDepth 20000 in
set_option maxHeartbeats 4000000 in
theorem cIns_7a (N:Nat) (i:In) (va vc vp:Value) (pm regs:Int) (code np:Nat) (P:Nat→Pc) (hr1:1≤regs) (hr2:regs≤40) (hc1:1≤code) (hc2:code≤2000) (hn4:np≤4) (w:World) (hN:N≤w.heap.size)
  (ha:NumsAt N w va i.n i.z) (hvc:∃x cp,vc=.slice x code cp) (hp:ProcsAt N w vp np P) (e1:fromB i.op 1 13=true) (e2:regsB i regs=true) (e7:i.op=7) (e3:fromB i.b 0 ((np:Int) - 1)=false) :
  Calls Tryz.prog 134 #[.agg #[.int .i64 i.op,.int .i64 i.a,.int .i64 i.b,.int .i64 i.c,va],.agg #[.int .i64 pm,.int .i64 regs,vc],vp] w fun e w'=>e=.returned (.int .i64 5)∧Below w.heap.size w w':=by
 obtain⟨xa,ca,rfl,hna⟩:=ha.shape
 obtain⟨xc,cc,rfl⟩:=hvc
 have HF:Hid (∀n lo hi wi,Calls Tryz.prog 95 #[.int .i64 n,.int .i64 lo,.int .i64 hi] wi fun e w'=>e=.returned (.bool (fromB n lo hi))∧w'=wi):=isFrom
 have HRg:Hid (∀wi,Calls Tryz.prog 174 #[.agg #[.int .i64 i.op,.int .i64 i.a,.int .i64 i.b,.int .i64 i.c,.slice xa i.n ca],.int .i64 regs] wi fun e w'=>e=.returned (.bool (regsB i regs))∧Below wi.heap.size wi w'):=fun wi=>regsFit i xa ca regs hr1 (by omega) wi
 have HRs:Hid (∀wi,Below w.heap.size w wi→Calls Tryz.prog 175 #[.agg #[.int .i64 i.op,.int .i64 i.a,.int .i64 i.b,.int .i64 i.c,.slice xa i.n ca],.int .i64 code] wi fun e w'=>e=.returned (.bool (restB i code))∧Below wi.heap.size wi w'):=fun wi hb=>restFits N i _ code (by omega) (by omega) wi (Nat.le_trans hN hb.size) (ha.below (hb.mono hN))
 have HBr:Hid (∀wi,Calls Tryz.prog 176 #[.agg #[.int .i64 i.op,.int .i64 i.a,.int .i64 i.b,.int .i64 i.c,.slice xa i.n ca]] wi fun e w'=>e=.returned (.bool (bareB i))∧Below wi.heap.size wi w'):=fun wi=>bare i xa ca wi
 have HCo:Hid (∀wi,Below w.heap.size w wi→wi.cell? ⟨w.heap.size+1,1,none⟩=some (.int .i64 regs)→Calls Tryz.prog 177 #[.slice xa i.n ca,.func (.func 178) #[] #[.pointer (some ⟨w.heap.size+1,0,none⟩)]] wi fun e w'=>e=.returned (.bool (!argsB i regs))∧w'=wi):=fun wi hb hc=>containsOut N i _ regs (by omega) (by omega) _ wi (Nat.le_trans hN hb.size) hc (ha.below (hb.mono hN))
 have HBx:Hid (∀w1,Below ((w.alloc (.cells #[.int .i64 i.op,.int .i64 i.a,.int .i64 i.b,.int .i64 i.c,.slice xa i.n ca] 84)).alloc (.cells #[.int .i64 pm,.int .i64 regs,.slice xc code cc] 38)).heap.size ((w.alloc (.cells #[.int .i64 i.op,.int .i64 i.a,.int .i64 i.b,.int .i64 i.c,.slice xa i.n ca] 84)).alloc (.cells #[.int .i64 pm,.int .i64 regs,.slice xc code cc] 38)) w1 →
   (w1.cell? ⟨w.heap.size,0,none⟩=some (.int .i64 i.op)∧w1.cell? ⟨w.heap.size,1,none⟩=some (.int .i64 i.a)∧w1.cell? ⟨w.heap.size,2,none⟩=some (.int .i64 i.b)∧w1.cell? ⟨w.heap.size,3,none⟩=some (.int .i64 i.c)∧w1.cell? ⟨w.heap.size,4,none⟩=some (.slice xa i.n ca)) ∧
   (w1.cell? ⟨w.heap.size+1,0,none⟩=some (.int .i64 pm)∧w1.cell? ⟨w.heap.size+1,1,none⟩=some (.int .i64 regs)∧w1.cell? ⟨w.heap.size+1,2,none⟩=some (.slice xc code cc))):=fun w1 hb=>by
  have hb1:=below_step (below_alloc (w.alloc (.cells #[.int .i64 i.op,.int .i64 i.a,.int .i64 i.b,.int .i64 i.c,.slice xa i.n ca] 84)) (.cells #[.int .i64 pm,.int .i64 regs,.slice xc code cc] 38)) hb
  have r0:=box_in hb 0 rfl
  have r1:=box_in hb 1 rfl
  have r2:=box_in hb 2 rfl
  simp only[World.size_alloc]at r0 r1 r2
  exact⟨⟨box_in hb1 0 rfl,box_in hb1 1 rfl,box_in hb1 2 rfl,box_in hb1 3 rfl,box_in hb1 4 rfl⟩,⟨r0,r1,r2⟩⟩
 have hbW:Below w.heap.size w ((w.alloc (.cells #[.int .i64 i.op,.int .i64 i.a,.int .i64 i.b,.int .i64 i.c,.slice xa i.n ca] 84)).alloc (.cells #[.int .i64 pm,.int .i64 regs,.slice xc code cc] 38)):=below_step (below_alloc _ _) (below_alloc _ _)
 have HBW:Hid (Below w.heap.size w ((w.alloc (.cells #[.int .i64 i.op,.int .i64 i.a,.int .i64 i.b,.int .i64 i.c,.slice xa i.n ca] 84)).alloc (.cells #[.int .i64 pm,.int .i64 regs,.slice xc code cc] 38))):=hbW
 clear hbW
 have hmf:∀(fn:Fn) (first cap:Array Value) (w:World),(Instr.makeFunc fn first cap).run Tryz.prog w=.ok (.func fn first cap) w:=fun _ _ _ _=>rfl
 have HF1:Hid (∀wi,Calls Tryz.prog 95 #[.int .i64 i.op,.int .i64 1,.int .i64 13] wi fun e w'=>e=.returned (.bool true)∧w'=wi):=fun wi=>by have:=HF.out i.op 1 13 wi;rw[e1]at this;exact this
 have HF3:Hid (∀wi,Calls Tryz.prog 95 #[.int .i64 i.b,.int .i64 0,.int .i64 ((np:Int) - 1)] wi fun e w'=>e=.returned (.bool false)∧w'=wi):=fun wi=>by have:=HF.out i.b 0 ((np:Int) - 1) wi;rw[e3]at this;exact this
 obtain⟨xp,cp,rfl,hnp,hpc⟩:=hp
 rw[e2]at HRg
 have e7b:(i.op == 7)=true:=by simp[e7]
 clear ha HF HCo HRs HBr hpc e1 e2 e3 e7
 go_enter Tryz.func134,Tryz.ntmps134
 go_wp2_with (first
  | (go_at_call 95;(first|with_reducible refine (HF1.out _).mono ?_|with_reducible refine (HF3.out _).mono ?_);rintro e w1 ⟨rfl,h1⟩;rw[h1];clear h1)
  | (go_at_call 174;refine (HRg.out _).mono ?_;rintro e w1 ⟨rfl,b1⟩;obtain⟨⟨a0,a1,a2,a3,a4⟩,⟨p0,p1,p2⟩⟩:=HBx.out _ b1;have B1:Hid (Below w.heap.size w w1):=HBW.out.trans (b1.mono HBW.out.size)))
 go_ret
 exact⟨rfl,B1.out⟩
set_option maxRecDepth 20000 in
set_option maxHeartbeats 4000000 in
theorem cIns_7b (N:Nat) (i:In) (va vc vp:Value) (pm regs:Int) (code np:Nat) (P:Nat→Pc) (hr1:1≤regs) (hr2:regs≤40) (hc1:1≤code) (hc2:code≤2000) (hn4:np≤4) (w:World) (hN:N≤w.heap.size)
  (ha:NumsAt N w va i.n i.z) (hvc:∃x cp,vc=.slice x code cp) (hp:ProcsAt N w vp np P) (e1:fromB i.op 1 13=true) (e2:regsB i regs=true) (e7:i.op=7) (e3:fromB i.b 0 ((np:Int) - 1)=true) (e5:bareB i=false) :
  Calls Tryz.prog 134 #[.agg #[.int .i64 i.op,.int .i64 i.a,.int .i64 i.b,.int .i64 i.c,va],.agg #[.int .i64 pm,.int .i64 regs,vc],vp] w fun e w'=>e=.returned (.int .i64 4)∧Below w.heap.size w w':=by
 obtain⟨xa,ca,rfl,hna⟩:=ha.shape
 obtain⟨xc,cc,rfl⟩:=hvc
 have HF:Hid (∀n lo hi wi,Calls Tryz.prog 95 #[.int .i64 n,.int .i64 lo,.int .i64 hi] wi fun e w'=>e=.returned (.bool (fromB n lo hi))∧w'=wi):=isFrom
 have HRg:Hid (∀wi,Calls Tryz.prog 174 #[.agg #[.int .i64 i.op,.int .i64 i.a,.int .i64 i.b,.int .i64 i.c,.slice xa i.n ca],.int .i64 regs] wi fun e w'=>e=.returned (.bool (regsB i regs))∧Below wi.heap.size wi w'):=fun wi=>regsFit i xa ca regs hr1 (by omega) wi
 have HRs:Hid (∀wi,Below w.heap.size w wi→Calls Tryz.prog 175 #[.agg #[.int .i64 i.op,.int .i64 i.a,.int .i64 i.b,.int .i64 i.c,.slice xa i.n ca],.int .i64 code] wi fun e w'=>e=.returned (.bool (restB i code))∧Below wi.heap.size wi w'):=fun wi hb=>restFits N i _ code (by omega) (by omega) wi (Nat.le_trans hN hb.size) (ha.below (hb.mono hN))
 have HBr:Hid (∀wi,Calls Tryz.prog 176 #[.agg #[.int .i64 i.op,.int .i64 i.a,.int .i64 i.b,.int .i64 i.c,.slice xa i.n ca]] wi fun e w'=>e=.returned (.bool (bareB i))∧Below wi.heap.size wi w'):=fun wi=>bare i xa ca wi
 have HCo:Hid (∀wi,Below w.heap.size w wi→wi.cell? ⟨w.heap.size+1,1,none⟩=some (.int .i64 regs)→Calls Tryz.prog 177 #[.slice xa i.n ca,.func (.func 178) #[] #[.pointer (some ⟨w.heap.size+1,0,none⟩)]] wi fun e w'=>e=.returned (.bool (!argsB i regs))∧w'=wi):=fun wi hb hc=>containsOut N i _ regs (by omega) (by omega) _ wi (Nat.le_trans hN hb.size) hc (ha.below (hb.mono hN))
 have HBx:Hid (∀w1,Below ((w.alloc (.cells #[.int .i64 i.op,.int .i64 i.a,.int .i64 i.b,.int .i64 i.c,.slice xa i.n ca] 84)).alloc (.cells #[.int .i64 pm,.int .i64 regs,.slice xc code cc] 38)).heap.size ((w.alloc (.cells #[.int .i64 i.op,.int .i64 i.a,.int .i64 i.b,.int .i64 i.c,.slice xa i.n ca] 84)).alloc (.cells #[.int .i64 pm,.int .i64 regs,.slice xc code cc] 38)) w1 →
   (w1.cell? ⟨w.heap.size,0,none⟩=some (.int .i64 i.op)∧w1.cell? ⟨w.heap.size,1,none⟩=some (.int .i64 i.a)∧w1.cell? ⟨w.heap.size,2,none⟩=some (.int .i64 i.b)∧w1.cell? ⟨w.heap.size,3,none⟩=some (.int .i64 i.c)∧w1.cell? ⟨w.heap.size,4,none⟩=some (.slice xa i.n ca)) ∧
   (w1.cell? ⟨w.heap.size+1,0,none⟩=some (.int .i64 pm)∧w1.cell? ⟨w.heap.size+1,1,none⟩=some (.int .i64 regs)∧w1.cell? ⟨w.heap.size+1,2,none⟩=some (.slice xc code cc))):=fun w1 hb=>by
  have hb1:=below_step (below_alloc (w.alloc (.cells #[.int .i64 i.op,.int .i64 i.a,.int .i64 i.b,.int .i64 i.c,.slice xa i.n ca] 84)) (.cells #[.int .i64 pm,.int .i64 regs,.slice xc code cc] 38)) hb
  have r0:=box_in hb 0 rfl
  have r1:=box_in hb 1 rfl
  have r2:=box_in hb 2 rfl
  simp only[World.size_alloc]at r0 r1 r2
  exact⟨⟨box_in hb1 0 rfl,box_in hb1 1 rfl,box_in hb1 2 rfl,box_in hb1 3 rfl,box_in hb1 4 rfl⟩,⟨r0,r1,r2⟩⟩
 have hbW:Below w.heap.size w ((w.alloc (.cells #[.int .i64 i.op,.int .i64 i.a,.int .i64 i.b,.int .i64 i.c,.slice xa i.n ca] 84)).alloc (.cells #[.int .i64 pm,.int .i64 regs,.slice xc code cc] 38)):=below_step (below_alloc _ _) (below_alloc _ _)
 have HBW:Hid (Below w.heap.size w ((w.alloc (.cells #[.int .i64 i.op,.int .i64 i.a,.int .i64 i.b,.int .i64 i.c,.slice xa i.n ca] 84)).alloc (.cells #[.int .i64 pm,.int .i64 regs,.slice xc code cc] 38))):=hbW
 clear hbW
 have hmf:∀(fn:Fn) (first cap:Array Value) (w:World),(Instr.makeFunc fn first cap).run Tryz.prog w=.ok (.func fn first cap) w:=fun _ _ _ _=>rfl
 have HF1:Hid (∀wi,Calls Tryz.prog 95 #[.int .i64 i.op,.int .i64 1,.int .i64 13] wi fun e w'=>e=.returned (.bool true)∧w'=wi):=fun wi=>by have:=HF.out i.op 1 13 wi;rw[e1]at this;exact this
 have HF3:Hid (∀wi,Calls Tryz.prog 95 #[.int .i64 i.b,.int .i64 0,.int .i64 ((np:Int) - 1)] wi fun e w'=>e=.returned (.bool true)∧w'=wi):=fun wi=>by have:=HF.out i.b 0 ((np:Int) - 1) wi;rw[e3]at this;exact this
 obtain⟨xp,cp,rfl,hnp,hpc⟩:=hp
 have e4:restB i code=true:=by unfold restB;simp[e7]
 rw[e2]at HRg
 rw[e4]at HRs
 rw[e5]at HBr
 have e7b:(i.op == 7)=true:=by simp[e7]
 clear ha HF HCo hpc e1 e2 e3 e4 e5 e7
 go_enter Tryz.func134,Tryz.ntmps134
 go_wp2_with (first
  | (go_at_call 95;(first|with_reducible refine (HF1.out _).mono ?_|with_reducible refine (HF3.out _).mono ?_);rintro e w1 ⟨rfl,h1⟩;rw[h1];clear h1)
  | (go_at_call 174;refine (HRg.out _).mono ?_;rintro e w1 ⟨rfl,b1⟩;obtain⟨⟨a0,a1,a2,a3,a4⟩,⟨p0,p1,p2⟩⟩:=HBx.out _ b1;have B1:Hid (Below w.heap.size w w1):=HBW.out.trans (b1.mono HBW.out.size))
  | (go_at_call 175;refine (HRs.out _ B1.out).mono ?_;rintro e w2 ⟨rfl,b2⟩))
 have HS:Hid (∀w',Below w2.heap.size w2 w'→(w'.cell? ⟨w.heap.size,0,none⟩=some (.int .i64 i.op)∧w'.cell? ⟨w.heap.size,1,none⟩=some (.int .i64 i.a)∧w'.cell? ⟨w.heap.size,2,none⟩=some (.int .i64 i.b)∧w'.cell? ⟨w.heap.size,3,none⟩=some (.int .i64 i.c)∧w'.cell? ⟨w.heap.size,4,none⟩=some (.slice xa i.n ca))):=fun w' h=>(HBx.out _ ((b1.trans (b2.mono b1.size)).trans (h.mono (b1.trans (b2.mono b1.size)).size))).1
 have B2:Hid (Below w.heap.size w w2):=B1.out.trans (b2.mono B1.out.size)
 have b0:Below w2.heap.size w2 w2:=Below.refl _ _
 clear a0 a1 a2 a3 a4 p0 p1 p2 b1 b2
 refine held_begin (n:=21) (l0:=#[false,false,false,false,false,false,false,false,false,false,false,false,false,false,false,false,false,false,false,false,false]) (S:=fun w'=>(w'.cell? ⟨w.heap.size,0,none⟩=some (.int .i64 i.op)∧w'.cell? ⟨w.heap.size,1,none⟩=some (.int .i64 i.a)∧w'.cell? ⟨w.heap.size,2,none⟩=some (.int .i64 i.b)∧w'.cell? ⟨w.heap.size,3,none⟩=some (.int .i64 i.c)∧w'.cell? ⟨w.heap.size,4,none⟩=some (.slice xa i.n ca))) (by kernel_rfl) (by kernel_rfl) (by kernel_rfl) (HS.out _ b0.drew) (fun hHeld=>?_)
 refine take_yes (i:=0) (d:=39) (l2:=#[true,false,false,false,false,false,false,false,false,false,false,false,false,false,false,false,false,false,false,false,false]) (v:=?v0) rfl rfl (by kernel_rfl) (by kernel_rfl) (by kernel_rfl) (by kernel_rfl) (fun _ _ _ h=>h) (by rfl) ?hy0 (by assumption) ?_
 case hy0=>(intro wS hSw;(try dsimp only at hSw);(go_simp<;>with_reducible rfl))
 simp only[Act.put,List.setIfInBounds_toArray,List.set_cons_succ,List.set_cons_zero]
 refine one_up (i:=1) (d:=40) (l2:=#[true,true,false,false,false,false,false,false,false,false,false,false,false,false,false,false,false,false,false,false,false]) rfl rfl (by kernel_rfl) (by kernel_rfl) (by rfl) (fun K hK=>?_)
 go_simp
 refine (HBr.out _).mono ?_
 rintro e w9 ⟨rfl,b9'⟩
 have b9:Below w2.heap.size w2 w9:=b0.drew.trans b9'
 refine hK.out _ _ (HS.out _ b9) (fun hHeld9=>?_)
 clear hK K hHeld
 simp only[Act.put,List.setIfInBounds_toArray,List.set_cons_succ,List.set_cons_zero]
 refine take_yes (i:=2) (d:=41) (l2:=#[true,true,true,false,false,false,false,false,false,false,false,false,false,false,false,false,false,false,false,false,false]) (v:=?v2) rfl rfl (by kernel_rfl) (by kernel_rfl) (by kernel_rfl) (by kernel_rfl) (fun _ _ _ h=>h) (by rfl) ?hy2 (by assumption) ?_
 case hy2=>(intro wS hSw;(try dsimp only at hSw);(go_simp<;>with_reducible rfl))
 simp only[Act.put,List.setIfInBounds_toArray,List.set_cons_succ,List.set_cons_zero]
 refine take_yes (i:=3) (d:=42) (l2:=#[true,true,true,true,false,false,false,false,false,false,false,false,false,false,false,false,false,false,false,false,false]) (v:=?v3) rfl rfl (by kernel_rfl) (by kernel_rfl) (by kernel_rfl) (by kernel_rfl) (fun _ _ _ h=>h) (by rfl) ?hy3 (by assumption) ?_
 case hy3=>(intro wS hSw;(try dsimp only at hSw);(go_simp<;>with_reducible rfl))
 simp only[Act.put,List.setIfInBounds_toArray,List.set_cons_succ,List.set_cons_zero]
 refine take_no (i:=4) (d:=43) (l2:=#[true,true,true,true,true,false,false,false,false,false,false,false,false,false,false,false,false,false,false,false,false]) rfl rfl (by kernel_rfl) (by kernel_rfl) (by kernel_rfl) (by kernel_rfl) (fun _ _ _ h=>h) (by rfl) (by assumption) ?_
 simp only[Act.put,List.setIfInBounds_toArray,List.set_cons_succ,List.set_cons_zero]
 refine take_no (i:=5) (d:=44) (l2:=#[true,true,true,true,true,true,false,false,false,false,false,false,false,false,false,false,false,false,false,false,false]) rfl rfl (by kernel_rfl) (by kernel_rfl) (by kernel_rfl) (by kernel_rfl) (fun _ _ _ h=>h) (by rfl) (by assumption) ?_
 simp only[Act.put,List.setIfInBounds_toArray,List.set_cons_succ,List.set_cons_zero]
 refine take_no (i:=6) (d:=45) (l2:=#[true,true,true,true,true,true,true,false,false,false,false,false,false,false,false,false,false,false,false,false,false]) rfl rfl (by kernel_rfl) (by kernel_rfl) (by kernel_rfl) (by kernel_rfl) (fun _ _ _ h=>h) (by rfl) (by assumption) ?_
 simp only[Act.put,List.setIfInBounds_toArray,List.set_cons_succ,List.set_cons_zero]
 refine take_no (i:=7) (d:=46) (l2:=#[true,true,true,true,true,true,true,true,false,false,false,false,false,false,false,false,false,false,false,false,false]) rfl rfl (by kernel_rfl) (by kernel_rfl) (by kernel_rfl) (by kernel_rfl) (fun _ _ _ h=>h) (by rfl) (by assumption) ?_
 simp only[Act.put,List.setIfInBounds_toArray,List.set_cons_succ,List.set_cons_zero]
 refine take_no (i:=8) (d:=47) (l2:=#[true,true,true,true,true,true,true,true,true,false,false,false,false,false,false,false,false,false,false,false,false]) rfl rfl (by kernel_rfl) (by kernel_rfl) (by kernel_rfl) (by kernel_rfl) (fun _ _ _ h=>h) (by rfl) (by assumption) ?_
 simp only[Act.put,List.setIfInBounds_toArray,List.set_cons_succ,List.set_cons_zero]
 refine take_no (i:=9) (d:=48) (l2:=#[true,true,true,true,true,true,true,true,true,true,false,false,false,false,false,false,false,false,false,false,false]) rfl rfl (by kernel_rfl) (by kernel_rfl) (by kernel_rfl) (by kernel_rfl) (fun _ _ _ h=>h) (by rfl) (by assumption) ?_
 simp only[Act.put,List.setIfInBounds_toArray,List.set_cons_succ,List.set_cons_zero]
 refine take_no (i:=10) (d:=49) (l2:=#[true,true,true,true,true,true,true,true,true,true,true,false,false,false,false,false,false,false,false,false,false]) rfl rfl (by kernel_rfl) (by kernel_rfl) (by kernel_rfl) (by kernel_rfl) (fun _ _ _ h=>h) (by rfl) (by assumption) ?_
 simp only[Act.put,List.setIfInBounds_toArray,List.set_cons_succ,List.set_cons_zero]
 refine take_no (i:=11) (d:=50) (l2:=#[true,true,true,true,true,true,true,true,true,true,true,true,false,false,false,false,false,false,false,false,false]) rfl rfl (by kernel_rfl) (by kernel_rfl) (by kernel_rfl) (by kernel_rfl) (fun _ _ _ h=>h) (by rfl) (by assumption) ?_
 simp only[Act.put,List.setIfInBounds_toArray,List.set_cons_succ,List.set_cons_zero]
 refine take_no (i:=12) (d:=51) (l2:=#[true,true,true,true,true,true,true,true,true,true,true,true,true,false,false,false,false,false,false,false,false]) rfl rfl (by kernel_rfl) (by kernel_rfl) (by kernel_rfl) (by kernel_rfl) (fun _ _ _ h=>h) (by rfl) (by assumption) ?_
 simp only[Act.put,List.setIfInBounds_toArray,List.set_cons_succ,List.set_cons_zero]
 refine take_no (i:=13) (d:=52) (l2:=#[true,true,true,true,true,true,true,true,true,true,true,true,true,true,false,false,false,false,false,false,false]) rfl rfl (by kernel_rfl) (by kernel_rfl) (by kernel_rfl) (by kernel_rfl) (fun _ _ _ h=>h) (by rfl) (by assumption) ?_
 simp only[Act.put,List.setIfInBounds_toArray,List.set_cons_succ,List.set_cons_zero]
 refine take_no (i:=14) (d:=53) (l2:=#[true,true,true,true,true,true,true,true,true,true,true,true,true,true,true,false,false,false,false,false,false]) rfl rfl (by kernel_rfl) (by kernel_rfl) (by kernel_rfl) (by kernel_rfl) (fun _ _ _ h=>h) (by rfl) (by assumption) ?_
 simp only[Act.put,List.setIfInBounds_toArray,List.set_cons_succ,List.set_cons_zero]
 refine take_no (i:=15) (d:=54) (l2:=#[true,true,true,true,true,true,true,true,true,true,true,true,true,true,true,true,false,false,false,false,false]) rfl rfl (by kernel_rfl) (by kernel_rfl) (by kernel_rfl) (by kernel_rfl) (fun _ _ _ h=>h) (by rfl) (by assumption) ?_
 simp only[Act.put,List.setIfInBounds_toArray,List.set_cons_succ,List.set_cons_zero]
 refine take_no (i:=16) (d:=55) (l2:=#[true,true,true,true,true,true,true,true,true,true,true,true,true,true,true,true,true,false,false,false,false]) rfl rfl (by kernel_rfl) (by kernel_rfl) (by kernel_rfl) (by kernel_rfl) (fun _ _ _ h=>h) (by rfl) (by assumption) ?_
 simp only[Act.put,List.setIfInBounds_toArray,List.set_cons_succ,List.set_cons_zero]
 refine take_no (i:=17) (d:=56) (l2:=#[true,true,true,true,true,true,true,true,true,true,true,true,true,true,true,true,true,true,false,false,false]) rfl rfl (by kernel_rfl) (by kernel_rfl) (by kernel_rfl) (by kernel_rfl) (fun _ _ _ h=>h) (by rfl) (by assumption) ?_
 simp only[Act.put,List.setIfInBounds_toArray,List.set_cons_succ,List.set_cons_zero]
 refine take_no (i:=18) (d:=57) (l2:=#[true,true,true,true,true,true,true,true,true,true,true,true,true,true,true,true,true,true,true,false,false]) rfl rfl (by kernel_rfl) (by kernel_rfl) (by kernel_rfl) (by kernel_rfl) (fun _ _ _ h=>h) (by rfl) (by assumption) ?_
 simp only[Act.put,List.setIfInBounds_toArray,List.set_cons_succ,List.set_cons_zero]
 refine take_yes (i:=19) (d:=58) (l2:=#[true,true,true,true,true,true,true,true,true,true,true,true,true,true,true,true,true,true,true,true,false]) (v:=?v19) rfl rfl (by kernel_rfl) (by kernel_rfl) (by kernel_rfl) (by kernel_rfl) (fun _ _ _ h=>h) (by rfl) ?hy19 (by assumption) ?_
 case hy19=>(intro wS hSw;(try dsimp only at hSw);(go_simp<;>with_reducible rfl))
 simp only[Act.put,List.setIfInBounds_toArray,List.set_cons_succ,List.set_cons_zero]
 refine take_yes (i:=20) (d:=38) (l2:=#[true,true,true,true,true,true,true,true,true,true,true,true,true,true,true,true,true,true,true,true,true]) (v:=?v20) rfl rfl (by kernel_rfl) (by kernel_rfl) (by kernel_rfl) (by kernel_rfl) (fun _ _ _ h=>h) (by rfl) ?hy20 (by assumption) ?_
 case hy20=>(intro wS hSw;(try dsimp only at hSw);(go_simp<;>with_reducible rfl))
 simp only[Act.put,List.setIfInBounds_toArray,List.set_cons_succ,List.set_cons_zero]
 refine wpAnyH_done (by kernel_rfl) ?_ _
 have HB9:Hid (Below w.heap.size w w9):=B2.out.trans (b9.mono B2.out.size)
 obtain⟨a0,a1,a2,a3,a4⟩:=HS.out _ b9
 go_wp2_with fail
 go_ret
 exact⟨rfl,HB9.out⟩
end Go.Proofs.YtfaokaohhchdhaaGreatDoor
