/- Are the registers of an instruction of those that there are, by the program. -/
import Derived.Test.YtfaokaohhchdhaaGreatDoorPart4
import Derived.Deep.CutRange
import Derived.Deep.RegionHeld
namespace Go.Proofs.YtfaokaohhchdhaaGreatDoor
section
open Go.ChangeShapes Go.WideShapes Go.ChangeAt Go.RowKit
set_option maxHeartbeats 1000000 in
theorem fitsC (r regs:Int) (h1 : -1000000≤regs) (h2:regs≤1000000) (p:Addr) (w:World) (h:w.cell? p=some (.int .i64 regs)) :
  Calls Tryz.prog 208 #[.int .i64 r,.pointer (some p)] w fun e w'=>e=.returned (.bool (fromB r 0 (regs - 1)))∧w'=w:=by
 have HF:Hid (∀n lo hi wi,Calls Tryz.prog 95 #[.int .i64 n,.int .i64 lo,.int .i64 hi] wi fun e w'=>e=.returned (.bool (fromB n lo hi))∧w'=wi):=isFrom
 go_enter Tryz.func208,Tryz.ntmps208
 go_wp2_with (go_at_call 95;refine (HF.out _ _ _ _).mono ?_;rintro e w1 ⟨rfl,h1⟩;rw[h1];clear h1)
 go_ret
 exact⟨rfl,rfl⟩
set_option maxHeartbeats 4000000 in
theorem regsFit (i:In) (a:Option Addr) (cap:Nat) (regs:Int) (h1:1≤regs) (h2:regs≤1000000) (w:World) :
  Calls Tryz.prog 174 #[.agg #[.int .i64 i.op,.int .i64 i.a,.int .i64 i.b,.int .i64 i.c,.slice a i.n cap],.int .i64 regs] w fun e w'=>e=.returned (.bool (regsB i regs))∧Below w.heap.size w w':=by
 obtain⟨op,x,y,z,n,f⟩:=i
 have hmf:∀(fn:Fn) (first cap:Array Value) (w:World),(Instr.makeFunc fn first cap).run Tryz.prog w=.ok (.func fn first cap) w:=fun _ _ _ _=>rfl
 have HFt:Hid (∀r wi,wi.cell? ⟨w.heap.size+1,0,none⟩=some (.int .i64 regs)→Calls Tryz.prog 208 #[.int .i64 r,.pointer (some ⟨w.heap.size+1,0,none⟩)] wi fun e w'=>e=.returned (.bool (fromB r 0 (regs - 1)))∧w'=wi):=fun r wi h=>fitsC r regs (by omega) (by omega) _ wi h
 have hbb:∀o1 o2:Obj,Below w.heap.size w ((w.alloc o1).alloc o2):=fun o1 o2=>below_step (below_alloc _ _) (below_alloc _ _)
 have HB:Hid (∀o1 o2:Obj,Below w.heap.size w ((w.alloc o1).alloc o2)):=hbb
 clear hbb
 go_enter Tryz.func174,Tryz.ntmps174
 go_wp2_with (go_at_call 208;refine (HFt.out _ _ (by simp[go_sem])).mono ?_;rintro e w1 ⟨rfl,h1⟩;rw[h1];clear h1)
 all_goals
  go_ret
  refine⟨ret_bool ?_,HB.out _ _⟩
  go_light
  unfold regsB
  simp_all
set_option maxHeartbeats 1000000 in
theorem outC (r pm regs:Int) (h1 : -1000000≤regs) (h2:regs≤1000000) (B:Nat) (w:World) (h:w.cell? ⟨B,1,none⟩=some (.int .i64 regs)) :
  Calls Tryz.prog 178 #[.int .i64 r,.pointer (some ⟨B,0,none⟩)] w fun e w'=>e=.returned (.bool (!fromB r 0 (regs - 1)))∧w'=w:=by
 have HF:Hid (∀n lo hi wi,Calls Tryz.prog 95 #[.int .i64 n,.int .i64 lo,.int .i64 hi] wi fun e w'=>e=.returned (.bool (fromB n lo hi))∧w'=wi):=isFrom
 have _:=pm
 go_enter Tryz.func178,Tryz.ntmps178
 go_wp2_with (go_at_call 95;refine (HF.out _ _ _ _).mono ?_;rintro e w1 ⟨rfl,h1⟩;rw[h1];clear h1)
 go_ret
 exact⟨rfl,rfl⟩
theorem argsB_no {i:In} {regs:Int} {k:Nat} (hk:k<i.n) (h:fromB (i.z k) 0 (regs - 1)=false):argsB i regs=false:=by
 unfold argsB
 rw[decide_eq_false_iff_not]
 intro hh
 unfold fromB at h
 rw[decide_eq_false_iff_not]at h
 exact h (hh k hk)
theorem argsB_yes {i:In} {regs:Int} (h:∀k,k<i.n→fromB (i.z k) 0 (regs - 1)=true):argsB i regs=true:=by
 unfold argsB
 rw[decide_eq_true_iff]
 intro k hk
 have:=h k hk
 unfold fromB at this
 exact of_decide_eq_true this
set_option maxHeartbeats 2000000 in
theorem indexOut (N:Nat) (i:In) (v:Value) (regs:Int) (h1 : -1000000≤regs) (h2:regs≤1000000) (B:Nat) (w:World) (hN:N≤w.heap.size) (h:w.cell? ⟨B,1,none⟩=some (.int .i64 regs)) (hv:NumsAt N w v i.n i.z) :
  Calls Tryz.prog 209 #[v,.func (.func 178) #[] #[.pointer (some ⟨B,0,none⟩)]] w fun e w'=>(∃z:Int,e=.returned (.int .i64 z)∧((z == -1)=argsB i regs)∧-1≤z)∧w'=w:=by
 have HC:Hid (∀r,Calls Tryz.prog 178 #[.int .i64 r,.pointer (some ⟨B,0,none⟩)] w fun e w'=>e=.returned (.bool (!fromB r 0 (regs - 1)))∧w'=w):=fun r=>outC r 0 regs h1 h2 B w h
 obtain⟨a,cap,rfl,hn,hc⟩:=hv
 have HCe:Hid (i.n=0∨∃b o,a=some ⟨b,o,none⟩∧b<N∧∀k,k<i.n→w.cell? ⟨b,o+k,none⟩=some (.int .i64 (i.z k))):=hc
 clear hc h h1 h2
 obtain⟨n,hni⟩:∃n,i.n=n:=⟨_,rfl⟩
 have HN:Hid (i.n=n):=hni
 rw[hni]at HCe hn ⊢
 clear hni
 go_enter Tryz.func209,Tryz.ntmps209
 go_upto_region 2 with (fail)
 go_loopw [8] (fun q wr=>∃k:Nat,k≤n∧q=.int .i64 k∧wr=w∧Hid (∀x,x<k→fromB (i.z x) 0 (regs - 1)=true)) (fun q _=>n - (intOf q).toNat)
 case atStart=>exact⟨0,by omega,rfl,rfl,fun x hx=>absurd hx (Nat.not_lt_zero _)⟩
 case round =>
  obtain⟨k,hk0,rfl,rfl,HA⟩:=hrel
  by_cases hk:k<n
  ·obtain h|⟨b,o,rfl,hb,hct⟩:=HCe.out
   ·omega
   have q0:=hct k hk
   have hki:(k:Int)<(n:Int):=by omega
   have HC2:=HC.out (i.z k)
   cases hf:fromB (i.z k) 0 (regs - 1) with
   | true =>
    rw[hf]at HC2
    have HC3:Hid (Calls Tryz.prog 178 #[.int .i64 (i.z k),.pointer (some ⟨B,0,none⟩)] wr fun e w'=>e=.returned (.bool false)∧w'=wr):=HC2
    have HF:Hid (fromB (i.z k) 0 (regs - 1)=true):=hf
    clear hct HC2 hf
    go_wp2_with (go_at_call 178;refine HC3.out.mono ?_;rintro e w1 ⟨rfl,h1⟩;rw[h1];clear h1)
    go_roundw
    case rel =>
     refine⟨k+1,by omega,by go_num,trivial,fun x hx=>?_⟩
     by_cases e:x=k
     ·subst e;exact HF.out
     ·exact HA.out x (by omega)
    case measure=>simp[intOf];omega
   | false =>
    rw[hf]at HC2
    have HC3:Hid (Calls Tryz.prog 178 #[.int .i64 (i.z k),.pointer (some ⟨B,0,none⟩)] wr fun e w'=>e=.returned (.bool true)∧w'=wr):=HC2
    have HF:Hid (argsB i regs=false):=argsB_no (by rw[HN.out];exact hk) hf
    clear hct HC2 hf
    go_wp2_with (go_at_call 178;refine HC3.out.mono ?_;rintro e w1 ⟨rfl,h1⟩;rw[h1];clear h1)
    go_ret
    exact⟨⟨_,rfl,by rw[HF.out];simp,by omega⟩,rfl⟩
  ·obtain rfl:k=n:=by omega
   have HF:Hid (argsB i regs=true):=argsB_yes (fun x hx=>HA.out x (by rw[HN.out]at hx;exact hx))
   go_wp2_with fail
   go_ret
   exact⟨⟨-1,rfl,by rw[HF.out];rfl,by omega⟩,rfl⟩
set_option maxHeartbeats 1000000 in
theorem containsOut (N:Nat) (i:In) (v:Value) (regs:Int) (h1 : -1000000≤regs) (h2:regs≤1000000) (B:Nat) (w:World) (hN:N≤w.heap.size) (h:w.cell? ⟨B,1,none⟩=some (.int .i64 regs)) (hv:NumsAt N w v i.n i.z) :
  Calls Tryz.prog 177 #[v,.func (.func 178) #[] #[.pointer (some ⟨B,0,none⟩)]] w fun e w'=>e=.returned (.bool (!argsB i regs))∧w'=w:=by
 have HI:Hid (Calls Tryz.prog 209 #[v,.func (.func 178) #[] #[.pointer (some ⟨B,0,none⟩)]] w fun e w'=>(∃z:Int,e=.returned (.int .i64 z)∧((z == -1)=argsB i regs)∧-1≤z)∧w'=w):=indexOut N i v regs h1 h2 B w hN h hv
 obtain⟨a,cap,rfl,_⟩:=hv.shape
 clear h hv
 go_enter Tryz.func177,Tryz.ntmps177
 go_wp2_with (go_at_call 209;refine HI.out.mono ?_;rintro e w1 ⟨⟨z,rfl,hz,hz1⟩,h1⟩;rw[h1];clear h1;have HZ:Hid ((z == -1)=argsB i regs):=hz;clear hz)
 go_ret
 refine⟨ret_bool ?_,rfl⟩
 rw[←HZ.out,Bool.eq_iff_iff]
 simp
 omega
end
section
variable {P:Program} {ops:Array Oper} {Q:Exit→Act→World→Prop} {md:Region.Mode} {S:World→Prop}
theorem held_begin {id n:Nat} {l0:Array Bool} {a:Act} {w:World} (hm:P.follows .mixedOrders=true) (hn:ops.size=n) (hl:Array.replicate ops.size false=l0) (hS:S w.drew)
  (h:S w.drew→wpAnyH P .any ops Q S n l0 a w.drew):(Code.region id ops true).wp P Q a w:=by
 subst hl
 subst hn
 exact wp_region_held_drew hm hS h
theorem take_yes {i d fuel:Nat} {oi:Oper} {v:Value} {listed l2:Array Bool} {a:Act} {w:World} (hi:ops[i]?=some oi) (hd:oi.dst=some d) (hl:listed.setIfInBounds i true=l2)
  (hs:Region.noSelect ops=true) (hf:Region.free md ops listed i=true) (hr:(Region.ready md ops listed).contains i=true)
  (hQ:∀c a w,Q (.panic c) (a.put (some d) v) w→Q (.panic c) a w) (hw:Region.wanted oi (yielded ops a.tmps)=true) (hy:∀w,S w→(execOp a.eval oi).run P w=.ok (.value v) w) (hS:S w)
  (h:wpAnyH P md ops Q S fuel l2 (a.put (some d) v) w):wpAnyH P md ops Q S (fuel+1) listed a w:=by
 subst hl
 rw[←hd]at h hQ
 exact wpAnyH_take hi hs hf hr hQ (Or.inl ⟨hw,hy⟩) hS h
theorem take_no {i d fuel:Nat} {oi:Oper} {listed l2:Array Bool} {a:Act} {w:World} (hi:ops[i]?=some oi) (hd:oi.dst=some d) (hl:listed.setIfInBounds i true=l2)
  (hs:Region.noSelect ops=true) (hf:Region.free md ops listed i=true) (hr:(Region.ready md ops listed).contains i=true)
  (hQ:∀c a w,Q (.panic c) (a.put (some d) undef) w→Q (.panic c) a w) (hw:Region.wanted oi (yielded ops a.tmps)=false) (hS:S w)
  (h:wpAnyH P md ops Q S fuel l2 (a.put (some d) undef) w):wpAnyH P md ops Q S (fuel+1) listed a w:=by
 subst hl
 rw[←hd]at h hQ
 exact wpAnyH_take hi hs hf hr hQ (Or.inr ⟨hw,rfl⟩) hS h
theorem one_up {i d fuel:Nat} {oi:Oper} {listed l2:Array Bool} {a:Act} {w:World} (hi:ops[i]?=some oi) (_hd:oi.dst=some d) (hl:listed.setIfInBounds i true=l2) (hr:Region.ready md ops listed=[i])
  (hw:Region.wanted oi (yielded ops a.tmps)=true)
  (h:∀K':Act→World→Prop,Shut (∀v w,S w→(S w→wpAnyH P md ops Q S fuel l2 (a.put (some d) v) w)→K' (a.put (some d) v) w)→Oper.wp P oi a w K' Q):wpAnyH P md ops Q S (fuel+1) listed a w:=by
 subst hl
 refine wpAnyH_ready (rs:=[i]) hr (by simp) (AllReadyH.cons hi (fun K hK=>?_) AllReadyH.nil)
 rw[if_pos hw]
 exact h K (fun v w hS hW=>hK _ _ hS hW)
end
section
open Go.ChangeShapes Go.WideShapes Go.ChangeAt Go.RowKit
set_option maxRecDepth 20000 in
set_option maxHeartbeats 4000000 in
theorem cIns_A (N:Nat) (i:In) (va vc vp:Value) (pm regs:Int) (code:Nat) (hr1:1≤regs) (hr2:regs≤40) (hc1:1≤code) (hc2:code≤2000) (w:World) (hN:N≤w.heap.size)
  (ha:NumsAt N w va i.n i.z) (hvc:∃x cp,vc=.slice x code cp) (e1:fromB i.op 1 13=true) (e2:regsB i regs=true) (e7:¬i.op=7) (e4:restB i code=true) (e5:bareB i=false) :
  Calls Tryz.prog 134 #[.agg #[.int .i64 i.op,.int .i64 i.a,.int .i64 i.b,.int .i64 i.c,va],.agg #[.int .i64 pm,.int .i64 regs,vc],vp] w fun e w'=>e=.returned (.int .i64 4)∧Below w.heap.size w w':=by
 obtain⟨xa,ca,rfl,hna⟩:=ha.shape
 obtain⟨xc,cc,rfl⟩:=hvc
 have HF:Hid (∀n lo hi wi,Calls Tryz.prog 95 #[.int .i64 n,.int .i64 lo,.int .i64 hi] wi fun e w'=>e=.returned (.bool (fromB n lo hi))∧w'=wi):=isFrom
 have HRg:Hid (∀wi,Calls Tryz.prog 174 #[.agg #[.int .i64 i.op,.int .i64 i.a,.int .i64 i.b,.int .i64 i.c,.slice xa i.n ca],.int .i64 regs] wi fun e w'=>e=.returned (.bool (regsB i regs))∧Below wi.heap.size wi w'):=fun wi=>regsFit i xa ca regs hr1 (by omega) wi
 have HRs:Hid (∀wi,Below w.heap.size w wi→Calls Tryz.prog 175 #[.agg #[.int .i64 i.op,.int .i64 i.a,.int .i64 i.b,.int .i64 i.c,.slice xa i.n ca],.int .i64 code] wi fun e w'=>e=.returned (.bool (restB i code))∧Below wi.heap.size wi w'):=fun wi hb=>restFits N i _ code (by omega) (by omega) wi (Nat.le_trans hN hb.size) (ha.below (hb.mono hN))
 have HBr:Hid (∀wi,Calls Tryz.prog 176 #[.agg #[.int .i64 i.op,.int .i64 i.a,.int .i64 i.b,.int .i64 i.c,.slice xa i.n ca]] wi fun e w'=>e=.returned (.bool (bareB i))∧Below wi.heap.size wi w'):=fun wi=>bare i xa ca wi
 have HCo:Hid (∀wi,Below w.heap.size w wi→wi.cell? ⟨w.heap.size+1,1,none⟩=some (.int .i64 regs)→Calls Tryz.prog 177 #[.slice xa i.n ca,.func (.func 178) #[] #[.pointer (some ⟨w.heap.size+1,0,none⟩)]] wi fun e w'=>e=.returned (.bool (!argsB i regs))∧w'=wi):=fun wi hb hc=>containsOut N i _ regs (by omega) (by omega) _ wi (Nat.le_trans hN hb.size) hc (ha.below (hb.mono hN))
 have HBx:Hid (∀w1,Below ((w.alloc (.cells #[.int .i64 i.op,.int .i64 i.a,.int .i64 i.b,.int .i64 i.c,.slice xa i.n ca] 84)).alloc (.cells #[.int .i64 pm,.int .i64 regs,.slice xc code cc] 38)).heap.size ((w.alloc (.cells #[.int .i64 i.op,.int .i64 i.a,.int .i64 i.b,.int .i64 i.c,.slice xa i.n ca] 84)).alloc (.cells #[.int .i64 pm,.int .i64 regs,.slice xc code cc] 38)) w1 →
   (w1.cell? ⟨w.heap.size,0,none⟩=some (.int .i64 i.op)∧w1.cell? ⟨w.heap.size,1,none⟩=some (.int .i64 i.a)∧w1.cell? ⟨w.heap.size,2,none⟩=some (.int .i64 i.b)∧w1.cell? ⟨w.heap.size,3,none⟩=some (.int .i64 i.c)∧w1.cell? ⟨w.heap.size,4,none⟩=some (.slice xa i.n ca)) ∧
   (w1.cell? ⟨w.heap.size+1,0,none⟩=some (.int .i64 pm)∧w1.cell? ⟨w.heap.size+1,1,none⟩=some (.int .i64 regs)∧w1.cell? ⟨w.heap.size+1,2,none⟩=some (.slice xc code cc))):=fun w1 hb=>by
  have hb1:=below_step (below_alloc (w.alloc (.cells #[.int .i64 i.op,.int .i64 i.a,.int .i64 i.b,.int .i64 i.c,.slice xa i.n ca] 84)) (.cells #[.int .i64 pm,.int .i64 regs,.slice xc code cc] 38)) hb
  have r0:=box_in hb 0 rfl
  have r1:=box_in hb 1 rfl
  have r2:=box_in hb 2 rfl
  simp only[World.size_alloc]at r0 r1 r2
  exact⟨⟨box_in hb1 0 rfl,box_in hb1 1 rfl,box_in hb1 2 rfl,box_in hb1 3 rfl,box_in hb1 4 rfl⟩,⟨r0,r1,r2⟩⟩
 have hbW:Below w.heap.size w ((w.alloc (.cells #[.int .i64 i.op,.int .i64 i.a,.int .i64 i.b,.int .i64 i.c,.slice xa i.n ca] 84)).alloc (.cells #[.int .i64 pm,.int .i64 regs,.slice xc code cc] 38)):=below_step (below_alloc _ _) (below_alloc _ _)
 have HBW:Hid (Below w.heap.size w ((w.alloc (.cells #[.int .i64 i.op,.int .i64 i.a,.int .i64 i.b,.int .i64 i.c,.slice xa i.n ca] 84)).alloc (.cells #[.int .i64 pm,.int .i64 regs,.slice xc code cc] 38))):=hbW
 clear hbW
 have hmf:∀(fn:Fn) (first cap:Array Value) (w:World),(Instr.makeFunc fn first cap).run Tryz.prog w=.ok (.func fn first cap) w:=fun _ _ _ _=>rfl
 have HF1:Hid (∀wi,Calls Tryz.prog 95 #[.int .i64 i.op,.int .i64 1,.int .i64 13] wi fun e w'=>e=.returned (.bool true)∧w'=wi):=fun wi=>by have:=HF.out i.op 1 13 wi;rw[e1]at this;exact this
 rw[e2]at HRg
 rw[e4]at HRs
 rw[e5]at HBr
 have e7b:(i.op == 7)=false:=by simp[e7]
 clear ha HF HCo e1 e2 e4 e5
 go_enter Tryz.func134,Tryz.ntmps134
 go_wp2_with (first
  | (go_at_call 95;refine (HF1.out _).mono ?_;rintro e w1 ⟨rfl,h1⟩;rw[h1];clear h1)
  | (go_at_call 174;refine (HRg.out _).mono ?_;rintro e w1 ⟨rfl,b1⟩;obtain⟨⟨a0,a1,a2,a3,a4⟩,⟨p0,p1,p2⟩⟩:=HBx.out _ b1;have B1:Hid (Below w.heap.size w w1):=HBW.out.trans (b1.mono HBW.out.size))
  | (go_at_call 175;refine (HRs.out _ B1.out).mono ?_;rintro e w2 ⟨rfl,b2⟩))
 have HS:Hid (∀w',Below w2.heap.size w2 w'→(w'.cell? ⟨w.heap.size,0,none⟩=some (.int .i64 i.op)∧w'.cell? ⟨w.heap.size,1,none⟩=some (.int .i64 i.a)∧w'.cell? ⟨w.heap.size,2,none⟩=some (.int .i64 i.b)∧w'.cell? ⟨w.heap.size,3,none⟩=some (.int .i64 i.c)∧w'.cell? ⟨w.heap.size,4,none⟩=some (.slice xa i.n ca))):=fun w' h=>(HBx.out _ ((b1.trans (b2.mono b1.size)).trans (h.mono (b1.trans (b2.mono b1.size)).size))).1
 have B2:Hid (Below w.heap.size w w2):=B1.out.trans (b2.mono B1.out.size)
 have b0:Below w2.heap.size w2 w2:=Below.refl _ _
 clear a0 a1 a2 a3 a4 p0 p1 p2 b1 b2
 refine held_begin (n:=21) (l0:=#[false,false,false,false,false,false,false,false,false,false,false,false,false,false,false,false,false,false,false,false,false]) (S:=fun w'=>(w'.cell? ⟨w.heap.size,0,none⟩=some (.int .i64 i.op)∧w'.cell? ⟨w.heap.size,1,none⟩=some (.int .i64 i.a)∧w'.cell? ⟨w.heap.size,2,none⟩=some (.int .i64 i.b)∧w'.cell? ⟨w.heap.size,3,none⟩=some (.int .i64 i.c)∧w'.cell? ⟨w.heap.size,4,none⟩=some (.slice xa i.n ca))) (by kernel_rfl) (by kernel_rfl) (by kernel_rfl) (HS.out _ b0.drew) (fun hHeld=>?_)
 refine take_yes (i:=0) (d:=39) (l2:=#[true,false,false,false,false,false,false,false,false,false,false,false,false,false,false,false,false,false,false,false,false]) (v:=?v0) rfl rfl (by kernel_rfl) (by kernel_rfl) (by kernel_rfl) (by kernel_rfl) (fun _ _ _ h=>h) (by rfl) ?hy0 (by assumption) ?_
 case hy0=>(intro wS hSw;(try dsimp only at hSw);(go_simp<;>with_reducible rfl))
 simp only[Act.put,List.setIfInBounds_toArray,List.set_cons_succ,List.set_cons_zero]
 refine one_up (i:=1) (d:=40) (l2:=#[true,true,false,false,false,false,false,false,false,false,false,false,false,false,false,false,false,false,false,false,false]) rfl rfl (by kernel_rfl) (by kernel_rfl) (by rfl) (fun K hK=>?_)
 go_simp
 refine (HBr.out _).mono ?_
 rintro e w9 ⟨rfl,b9'⟩
 have b9:Below w2.heap.size w2 w9:=b0.drew.trans b9'
 refine hK.out _ _ (HS.out _ b9) (fun hHeld9=>?_)
 clear hK K hHeld
 simp only[Act.put,List.setIfInBounds_toArray,List.set_cons_succ,List.set_cons_zero]
 refine take_yes (i:=2) (d:=41) (l2:=#[true,true,true,false,false,false,false,false,false,false,false,false,false,false,false,false,false,false,false,false,false]) (v:=?v2) rfl rfl (by kernel_rfl) (by kernel_rfl) (by kernel_rfl) (by kernel_rfl) (fun _ _ _ h=>h) (by rfl) ?hy2 (by assumption) ?_
 case hy2=>(intro wS hSw;(try dsimp only at hSw);(go_simp<;>with_reducible rfl))
 simp only[Act.put,List.setIfInBounds_toArray,List.set_cons_succ,List.set_cons_zero]
 refine take_yes (i:=3) (d:=42) (l2:=#[true,true,true,true,false,false,false,false,false,false,false,false,false,false,false,false,false,false,false,false,false]) (v:=?v3) rfl rfl (by kernel_rfl) (by kernel_rfl) (by kernel_rfl) (by kernel_rfl) (fun _ _ _ h=>h) (by rfl) ?hy3 (by assumption) ?_
 case hy3=>(intro wS hSw;(try dsimp only at hSw);(go_simp<;>with_reducible rfl))
 simp only[Act.put,List.setIfInBounds_toArray,List.set_cons_succ,List.set_cons_zero]
 refine take_no (i:=4) (d:=43) (l2:=#[true,true,true,true,true,false,false,false,false,false,false,false,false,false,false,false,false,false,false,false,false]) rfl rfl (by kernel_rfl) (by kernel_rfl) (by kernel_rfl) (by kernel_rfl) (fun _ _ _ h=>h) (by rfl) (by assumption) ?_
 simp only[Act.put,List.setIfInBounds_toArray,List.set_cons_succ,List.set_cons_zero]
 refine take_no (i:=5) (d:=44) (l2:=#[true,true,true,true,true,true,false,false,false,false,false,false,false,false,false,false,false,false,false,false,false]) rfl rfl (by kernel_rfl) (by kernel_rfl) (by kernel_rfl) (by kernel_rfl) (fun _ _ _ h=>h) (by rfl) (by assumption) ?_
 simp only[Act.put,List.setIfInBounds_toArray,List.set_cons_succ,List.set_cons_zero]
 refine take_no (i:=6) (d:=45) (l2:=#[true,true,true,true,true,true,true,false,false,false,false,false,false,false,false,false,false,false,false,false,false]) rfl rfl (by kernel_rfl) (by kernel_rfl) (by kernel_rfl) (by kernel_rfl) (fun _ _ _ h=>h) (by rfl) (by assumption) ?_
 simp only[Act.put,List.setIfInBounds_toArray,List.set_cons_succ,List.set_cons_zero]
 refine take_no (i:=7) (d:=46) (l2:=#[true,true,true,true,true,true,true,true,false,false,false,false,false,false,false,false,false,false,false,false,false]) rfl rfl (by kernel_rfl) (by kernel_rfl) (by kernel_rfl) (by kernel_rfl) (fun _ _ _ h=>h) (by rfl) (by assumption) ?_
 simp only[Act.put,List.setIfInBounds_toArray,List.set_cons_succ,List.set_cons_zero]
 refine take_no (i:=8) (d:=47) (l2:=#[true,true,true,true,true,true,true,true,true,false,false,false,false,false,false,false,false,false,false,false,false]) rfl rfl (by kernel_rfl) (by kernel_rfl) (by kernel_rfl) (by kernel_rfl) (fun _ _ _ h=>h) (by rfl) (by assumption) ?_
 simp only[Act.put,List.setIfInBounds_toArray,List.set_cons_succ,List.set_cons_zero]
 refine take_no (i:=9) (d:=48) (l2:=#[true,true,true,true,true,true,true,true,true,true,false,false,false,false,false,false,false,false,false,false,false]) rfl rfl (by kernel_rfl) (by kernel_rfl) (by kernel_rfl) (by kernel_rfl) (fun _ _ _ h=>h) (by rfl) (by assumption) ?_
 simp only[Act.put,List.setIfInBounds_toArray,List.set_cons_succ,List.set_cons_zero]
 refine take_no (i:=10) (d:=49) (l2:=#[true,true,true,true,true,true,true,true,true,true,true,false,false,false,false,false,false,false,false,false,false]) rfl rfl (by kernel_rfl) (by kernel_rfl) (by kernel_rfl) (by kernel_rfl) (fun _ _ _ h=>h) (by rfl) (by assumption) ?_
 simp only[Act.put,List.setIfInBounds_toArray,List.set_cons_succ,List.set_cons_zero]
 refine take_no (i:=11) (d:=50) (l2:=#[true,true,true,true,true,true,true,true,true,true,true,true,false,false,false,false,false,false,false,false,false]) rfl rfl (by kernel_rfl) (by kernel_rfl) (by kernel_rfl) (by kernel_rfl) (fun _ _ _ h=>h) (by rfl) (by assumption) ?_
 simp only[Act.put,List.setIfInBounds_toArray,List.set_cons_succ,List.set_cons_zero]
 refine take_no (i:=12) (d:=51) (l2:=#[true,true,true,true,true,true,true,true,true,true,true,true,true,false,false,false,false,false,false,false,false]) rfl rfl (by kernel_rfl) (by kernel_rfl) (by kernel_rfl) (by kernel_rfl) (fun _ _ _ h=>h) (by rfl) (by assumption) ?_
 simp only[Act.put,List.setIfInBounds_toArray,List.set_cons_succ,List.set_cons_zero]
 refine take_no (i:=13) (d:=52) (l2:=#[true,true,true,true,true,true,true,true,true,true,true,true,true,true,false,false,false,false,false,false,false]) rfl rfl (by kernel_rfl) (by kernel_rfl) (by kernel_rfl) (by kernel_rfl) (fun _ _ _ h=>h) (by rfl) (by assumption) ?_
 simp only[Act.put,List.setIfInBounds_toArray,List.set_cons_succ,List.set_cons_zero]
 refine take_no (i:=14) (d:=53) (l2:=#[true,true,true,true,true,true,true,true,true,true,true,true,true,true,true,false,false,false,false,false,false]) rfl rfl (by kernel_rfl) (by kernel_rfl) (by kernel_rfl) (by kernel_rfl) (fun _ _ _ h=>h) (by rfl) (by assumption) ?_
 simp only[Act.put,List.setIfInBounds_toArray,List.set_cons_succ,List.set_cons_zero]
 refine take_no (i:=15) (d:=54) (l2:=#[true,true,true,true,true,true,true,true,true,true,true,true,true,true,true,true,false,false,false,false,false]) rfl rfl (by kernel_rfl) (by kernel_rfl) (by kernel_rfl) (by kernel_rfl) (fun _ _ _ h=>h) (by rfl) (by assumption) ?_
 simp only[Act.put,List.setIfInBounds_toArray,List.set_cons_succ,List.set_cons_zero]
 refine take_no (i:=16) (d:=55) (l2:=#[true,true,true,true,true,true,true,true,true,true,true,true,true,true,true,true,true,false,false,false,false]) rfl rfl (by kernel_rfl) (by kernel_rfl) (by kernel_rfl) (by kernel_rfl) (fun _ _ _ h=>h) (by rfl) (by assumption) ?_
 simp only[Act.put,List.setIfInBounds_toArray,List.set_cons_succ,List.set_cons_zero]
 refine take_no (i:=17) (d:=56) (l2:=#[true,true,true,true,true,true,true,true,true,true,true,true,true,true,true,true,true,true,false,false,false]) rfl rfl (by kernel_rfl) (by kernel_rfl) (by kernel_rfl) (by kernel_rfl) (fun _ _ _ h=>h) (by rfl) (by assumption) ?_
 simp only[Act.put,List.setIfInBounds_toArray,List.set_cons_succ,List.set_cons_zero]
 refine take_no (i:=18) (d:=57) (l2:=#[true,true,true,true,true,true,true,true,true,true,true,true,true,true,true,true,true,true,true,false,false]) rfl rfl (by kernel_rfl) (by kernel_rfl) (by kernel_rfl) (by kernel_rfl) (fun _ _ _ h=>h) (by rfl) (by assumption) ?_
 simp only[Act.put,List.setIfInBounds_toArray,List.set_cons_succ,List.set_cons_zero]
 refine take_yes (i:=19) (d:=58) (l2:=#[true,true,true,true,true,true,true,true,true,true,true,true,true,true,true,true,true,true,true,true,false]) (v:=?v19) rfl rfl (by kernel_rfl) (by kernel_rfl) (by kernel_rfl) (by kernel_rfl) (fun _ _ _ h=>h) (by rfl) ?hy19 (by assumption) ?_
 case hy19=>(intro wS hSw;(try dsimp only at hSw);(go_simp<;>with_reducible rfl))
 simp only[Act.put,List.setIfInBounds_toArray,List.set_cons_succ,List.set_cons_zero]
 refine take_yes (i:=20) (d:=38) (l2:=#[true,true,true,true,true,true,true,true,true,true,true,true,true,true,true,true,true,true,true,true,true]) (v:=?v20) rfl rfl (by kernel_rfl) (by kernel_rfl) (by kernel_rfl) (by kernel_rfl) (fun _ _ _ h=>h) (by rfl) ?hy20 (by assumption) ?_
 case hy20=>(intro wS hSw;(try dsimp only at hSw);(go_simp<;>with_reducible rfl))
 simp only[Act.put,List.setIfInBounds_toArray,List.set_cons_succ,List.set_cons_zero]
 refine wpAnyH_done (by kernel_rfl) ?_ _
 have HB9:Hid (Below w.heap.size w w9):=B2.out.trans (b9.mono B2.out.size)
 obtain⟨a0,a1,a2,a3,a4⟩:=HS.out _ b9
 go_wp2_with fail
 go_ret
 exact⟨rfl,HB9.out⟩
end
end Go.Proofs.YtfaokaohhchdhaaGreatDoor
