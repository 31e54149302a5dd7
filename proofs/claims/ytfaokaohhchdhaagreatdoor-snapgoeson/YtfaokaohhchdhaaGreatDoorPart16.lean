/- value: what an instruction makes for its register A. -/
import Derived.Test.YtfaokaohhchdhaaGreatDoorPart15
namespace Go.Proofs.YtfaokaohhchdhaaGreatDoor
open Go.RowKit Go.Maps
theorem vbox (w:World) (op a b c:Int) (av:Value):∃W,(w.alloc (.cells #[.int .i64 op,.int .i64 a,.int .i64 b,.int .i64 c,av] 84)).alloc (.cells #[.int .i64 0,.int .i64 0] 92)=W∧Below w.heap.size w W∧W.heap.size=w.heap.size+2∧W.cell? ⟨w.heap.size,0,none⟩=some (.int .i64 op)∧W.cell? ⟨w.heap.size,1,none⟩=some (.int .i64 a)∧W.cell? ⟨w.heap.size,2,none⟩=some (.int .i64 b)∧W.cell? ⟨w.heap.size,3,none⟩=some (.int .i64 c)∧W.cell? ⟨w.heap.size,4,none⟩=some av∧Box 92 (w.heap.size+1) W #[.int .i64 0,.int .i64 0]:=by
 obtain⟨W1,h0,h1,h2,h3,h4,h5,h6,h7⟩:=ibox w op a b c av
 rw[h0]
 have hb:=below_alloc W1 (.cells #[.int .i64 0,.int .i64 0] 92)
 refine⟨_,rfl,below_step h1 hb,by simp;omega,below_at hb h3,below_at hb h4,below_at hb h5,below_at hb h6,below_at hb h7,?_⟩
 have:=box_new W1 #[.int .i64 0,.int .i64 0] 92
 rw[h2]at this
 exact this
theorem vres (w W w1:World) (x y:Value) (hb0:Below w.heap.size w W) (hs:W.heap.size=w.heap.size+2) (h0:Box 92 (w.heap.size+1) W #[.int .i64 0,.int .i64 0]) (hb:Below W.heap.size W w1):w1.cell? ⟨w.heap.size+1,0,none⟩=some (.int .i64 0)∧w1.cell? ⟨w.heap.size+1,1,none⟩=some (.int .i64 0)∧w1.frozen? ⟨w.heap.size+1,0,none⟩=false∧w1.frozen? ⟨w.heap.size+1,1,none⟩=false∧Hid (((w1.setCell ⟨w.heap.size+1,0,none⟩ x).setCell ⟨w.heap.size+1,1,none⟩ y).heap[w.heap.size+1]?=some (.cells #[x,y] 92 (0,0)))∧Hid (Below w.heap.size w ((w1.setCell ⟨w.heap.size+1,0,none⟩ x).setCell ⟨w.heap.size+1,1,none⟩ y)):=by
 obtain⟨q0,q1,q2,q3,q4⟩:=res2at W w1 (w.heap.size+1) _ _ _ x y h0 hb (by omega)
 exact⟨q0,q1,q2,q3,q4,((hb0.trans (hb.mono hb0.size)).setCell (by show w.heap.size≤w.heap.size+1;omega) _).setCell (by show w.heap.size≤w.heap.size+1;omega) _⟩
set_option maxHeartbeats 2000000 in
theorem value_num (X g m rb rc n:Nat) (a b c:Int) (aa:Option Addr) (an ac:Nat) (w W:World) (HW:Hid ((w.alloc (.cells #[.int .i64 1,.int .i64 a,.int .i64 b,.int .i64 c,.slice aa an ac] 84)).alloc (.cells #[.int .i64 0,.int .i64 0] 92)=W))
  (HF:Hid (Calls Tryz.prog 101 #[.pointer (some ⟨X,0,none⟩)] W fun e w'=>e=.returned (.pointer (some ⟨g,m*4,none⟩))∧Below W.heap.size W w'))
  (HG:Hid (∀wi,Below W.heap.size W wi→wi.cell? ⟨g,m*4+2,none⟩=some (.slice (some ⟨rb,0,none⟩) n rc)∧wi.cell? ⟨w.heap.size,0,none⟩=some (.int .i64 1)∧wi.cell? ⟨w.heap.size,2,none⟩=some (.int .i64 b)))
  (hb0:Below w.heap.size w W) (hs:W.heap.size=w.heap.size+2) (h0:Box 92 (w.heap.size+1) W #[.int .i64 0,.int .i64 0]) :
  Calls Tryz.prog 180 #[.pointer (some ⟨X,0,none⟩),.agg #[.int .i64 1,.int .i64 a,.int .i64 b,.int .i64 c,.slice aa an ac]] w fun e w'=>e=.returned (.tuple #[.agg #[.int .i64 1,.int .i64 b],.bool true])∧Below w.heap.size w w':=by
 have HV:Hid (∀w1,Below W.heap.size W w1→w1.cell? ⟨w.heap.size+1,0,none⟩=some (.int .i64 0)∧w1.cell? ⟨w.heap.size+1,1,none⟩=some (.int .i64 0)∧w1.frozen? ⟨w.heap.size+1,0,none⟩=false∧w1.frozen? ⟨w.heap.size+1,1,none⟩=false∧Hid (((w1.setCell ⟨w.heap.size+1,0,none⟩ (.int .i64 1)).setCell ⟨w.heap.size+1,1,none⟩ (.int .i64 b)).heap[w.heap.size+1]?=some (.cells #[.int .i64 1,.int .i64 b] 92 (0,0)))∧Hid (Below w.heap.size w ((w1.setCell ⟨w.heap.size+1,0,none⟩ (.int .i64 1)).setCell ⟨w.heap.size+1,1,none⟩ (.int .i64 b)))):=fun w1 hb=>vres w W w1 _ _ hb0 hs h0 hb
 clear hb0 hs h0
 go_enter Tryz.func180,Tryz.ntmps180
 go_upto_region 1 with (fail)
 rw[HW.out]
 go_upto_region 2 with (go_at_call 101;refine HF.out.mono ?_;rintro e w1 ⟨rfl,hb1⟩;obtain⟨q0,q1,q2⟩:=HG.out w1 hb1)
 go_wp2_with (go_at_call 210;refine (vnumber _ _).mono ?_;rintro e w2 ⟨rfl,hb2⟩;obtain⟨z0,z1,z2,z3,z4,z5⟩:=HV.out w2 (below_step hb1 hb2))
 refine bodyPost_ret (results_row_tmp rfl _ _ (w.heap.size+1) 92 _ (0,0) _ rfl z4.out Tryz.underlying92 rfl (by kernel_rfl)) rfl ?_
 exact⟨rfl,z5.out⟩
set_option maxHeartbeats 2000000 in
theorem value_move (X g m rb rc n b:Nat) (a c kb zb:Int) (aa:Option Addr) (an ac:Nat) (w W:World) (HW:Hid ((w.alloc (.cells #[.int .i64 2,.int .i64 a,.int .i64 b,.int .i64 c,.slice aa an ac] 84)).alloc (.cells #[.int .i64 0,.int .i64 0] 92)=W))
  (HF:Hid (Calls Tryz.prog 101 #[.pointer (some ⟨X,0,none⟩)] W fun e w'=>e=.returned (.pointer (some ⟨g,m*4,none⟩))∧Below W.heap.size W w'))
  (HG:Hid (∀wi,Below W.heap.size W wi→wi.cell? ⟨g,m*4+2,none⟩=some (.slice (some ⟨rb,0,none⟩) n rc)∧wi.cell? ⟨w.heap.size,0,none⟩=some (.int .i64 2)∧wi.cell? ⟨w.heap.size,2,none⟩=some (.int .i64 b)∧wi.cell? ⟨rb,b*2,none⟩=some (.int .i64 kb)∧wi.cell? ⟨rb,b*2+1,none⟩=some (.int .i64 zb)))
  (hb:b<n) (hb0:Below w.heap.size w W) (hs:W.heap.size=w.heap.size+2) (h0:Box 92 (w.heap.size+1) W #[.int .i64 0,.int .i64 0]) :
  Calls Tryz.prog 180 #[.pointer (some ⟨X,0,none⟩),.agg #[.int .i64 2,.int .i64 a,.int .i64 b,.int .i64 c,.slice aa an ac]] w fun e w'=>e=.returned (.tuple #[.agg #[.int .i64 kb,.int .i64 zb],.bool true])∧Below w.heap.size w w':=by
 have HV:Hid (∀w1,Below W.heap.size W w1→w1.cell? ⟨w.heap.size+1,0,none⟩=some (.int .i64 0)∧w1.cell? ⟨w.heap.size+1,1,none⟩=some (.int .i64 0)∧w1.frozen? ⟨w.heap.size+1,0,none⟩=false∧w1.frozen? ⟨w.heap.size+1,1,none⟩=false∧Hid (((w1.setCell ⟨w.heap.size+1,0,none⟩ (.int .i64 kb)).setCell ⟨w.heap.size+1,1,none⟩ (.int .i64 zb)).heap[w.heap.size+1]?=some (.cells #[.int .i64 kb,.int .i64 zb] 92 (0,0)))∧Hid (Below w.heap.size w ((w1.setCell ⟨w.heap.size+1,0,none⟩ (.int .i64 kb)).setCell ⟨w.heap.size+1,1,none⟩ (.int .i64 zb)))):=fun w1 hb=>vres w W w1 _ _ hb0 hs h0 hb
 have h1:(0:Int)≤(b:Int):=by omega
 have h2:(b:Int)<(n:Int):=by omega
 clear hb0 hs h0
 go_enter Tryz.func180,Tryz.ntmps180
 go_upto_region 1 with (fail)
 rw[HW.out]
 go_upto_region 2 with (go_at_call 101;refine HF.out.mono ?_;rintro e w1 ⟨rfl,hb1⟩;obtain⟨q0,q1,q2,q3,q4⟩:=HG.out w1 hb1;obtain⟨z0,z1,z2,z3,z4,z5⟩:=HV.out w1 hb1)
 go_wp2_with (fail)
 refine bodyPost_ret (results_row_tmp rfl _ _ (w.heap.size+1) 92 _ (0,0) _ rfl z4.out Tryz.underlying92 rfl (by kernel_rfl)) rfl ?_
 exact⟨rfl,z5.out⟩
set_option maxHeartbeats 2000000 in
theorem value_op (X g m rb rc n b c:Nat) (a z kb zb kc zc:Int) (ok:Bool) (Pk:Int→Int→Prop) (ab ao ac:Nat) (w W:World) (HW:Hid ((w.alloc (.cells #[.int .i64 3,.int .i64 a,.int .i64 b,.int .i64 c,.slice (some ⟨ab,ao,none⟩) 1 ac] 84)).alloc (.cells #[.int .i64 0,.int .i64 0] 92)=W))
  (HF:Hid (Calls Tryz.prog 101 #[.pointer (some ⟨X,0,none⟩)] W fun e w'=>e=.returned (.pointer (some ⟨g,m*4,none⟩))∧Below W.heap.size W w'))
  (HO:Hid (∀wi,Calls Tryz.prog 211 #[.int .i64 z,.agg #[.int .i64 kb,.int .i64 zb],.agg #[.int .i64 kc,.int .i64 zc]] wi fun e w'=>∃k v,e=.returned (.tuple #[.agg #[.int .i64 k,.int .i64 v],.bool ok])∧Hid (Pk k v)∧Below wi.heap.size wi w'))
  (HG:Hid (∀wi,Below W.heap.size W wi→wi.cell? ⟨g,m*4+2,none⟩=some (.slice (some ⟨rb,0,none⟩) n rc)∧wi.cell? ⟨w.heap.size,0,none⟩=some (.int .i64 3)))
  (HC:Hid (∀wi,Below W.heap.size W wi→wi.cell? ⟨w.heap.size,4,none⟩=some (.slice (some ⟨ab,ao,none⟩) 1 ac)∧wi.cell? ⟨ab,ao,none⟩=some (.int .i64 z)∧wi.cell? ⟨w.heap.size,2,none⟩=some (.int .i64 b)∧wi.cell? ⟨rb,b*2,none⟩=some (.int .i64 kb)∧wi.cell? ⟨rb,b*2+1,none⟩=some (.int .i64 zb)∧wi.cell? ⟨w.heap.size,3,none⟩=some (.int .i64 c)∧wi.cell? ⟨rb,c*2,none⟩=some (.int .i64 kc)∧wi.cell? ⟨rb,c*2+1,none⟩=some (.int .i64 zc)))
  (hb:b<n) (hc:c<n) (hab:¬ab=w.heap.size+1) (hrb:¬rb=w.heap.size+1) (hb0:Below w.heap.size w W) (hs:W.heap.size=w.heap.size+2) (h0:Box 92 (w.heap.size+1) W #[.int .i64 0,.int .i64 0]) :
  Calls Tryz.prog 180 #[.pointer (some ⟨X,0,none⟩),.agg #[.int .i64 3,.int .i64 a,.int .i64 b,.int .i64 c,.slice (some ⟨ab,ao,none⟩) 1 ac]] w fun e w'=>∃k v,e=.returned (.tuple #[.agg #[.int .i64 k,.int .i64 v],.bool ok])∧Hid (Pk k v)∧Below w.heap.size w w':=by
 have HV:Hid (∀(k v:Int) (w1:World),Below W.heap.size W w1→w1.cell? ⟨w.heap.size+1,0,none⟩=some (.int .i64 0)∧w1.cell? ⟨w.heap.size+1,1,none⟩=some (.int .i64 0)∧w1.frozen? ⟨w.heap.size+1,0,none⟩=false∧w1.frozen? ⟨w.heap.size+1,1,none⟩=false∧Hid (((w1.setCell ⟨w.heap.size+1,0,none⟩ (.int .i64 k)).setCell ⟨w.heap.size+1,1,none⟩ (.int .i64 v)).heap[w.heap.size+1]?=some (.cells #[.int .i64 k,.int .i64 v] 92 (0,0)))∧Hid (Below w.heap.size w ((w1.setCell ⟨w.heap.size+1,0,none⟩ (.int .i64 k)).setCell ⟨w.heap.size+1,1,none⟩ (.int .i64 v)))):=fun k v w1 hb=>vres w W w1 _ _ hb0 hs h0 hb
 have HKS:Hid (∀(w3:World) (x y:Value),Below W.heap.size W w3→((w3.setCell ⟨w.heap.size+1,0,none⟩ x).setCell ⟨w.heap.size+1,1,none⟩ y).cell? ⟨w.heap.size,4,none⟩=some (.slice (some ⟨ab,ao,none⟩) 1 ac)∧((w3.setCell ⟨w.heap.size+1,0,none⟩ x).setCell ⟨w.heap.size+1,1,none⟩ y).cell? ⟨ab,ao,none⟩=some (.int .i64 z)∧((w3.setCell ⟨w.heap.size+1,0,none⟩ x).setCell ⟨w.heap.size+1,1,none⟩ y).cell? ⟨w.heap.size,2,none⟩=some (.int .i64 b)∧((w3.setCell ⟨w.heap.size+1,0,none⟩ x).setCell ⟨w.heap.size+1,1,none⟩ y).cell? ⟨rb,b*2,none⟩=some (.int .i64 kb)∧((w3.setCell ⟨w.heap.size+1,0,none⟩ x).setCell ⟨w.heap.size+1,1,none⟩ y).cell? ⟨rb,b*2+1,none⟩=some (.int .i64 zb)∧((w3.setCell ⟨w.heap.size+1,0,none⟩ x).setCell ⟨w.heap.size+1,1,none⟩ y).cell? ⟨w.heap.size,3,none⟩=some (.int .i64 c)∧((w3.setCell ⟨w.heap.size+1,0,none⟩ x).setCell ⟨w.heap.size+1,1,none⟩ y).cell? ⟨rb,c*2,none⟩=some (.int .i64 kc)∧((w3.setCell ⟨w.heap.size+1,0,none⟩ x).setCell ⟨w.heap.size+1,1,none⟩ y).cell? ⟨rb,c*2+1,none⟩=some (.int .i64 zc)):=fun w3 x y hw3=>by
  have kk:∀p:Addr,¬p.block=w.heap.size+1→((w3.setCell ⟨w.heap.size+1,0,none⟩ x).setCell ⟨w.heap.size+1,1,none⟩ y).cell? p=w3.cell? p:=fun p hp=>World.cell?_of_block ((Below.heap_setCell _ _ _ _ hp).trans (Below.heap_setCell _ _ _ _ hp))
  obtain⟨e1,e2,e3,e4,e5,e6,e7,e8⟩:=HC.out w3 hw3
  have hne:¬w.heap.size=w.heap.size+1:=by omega
  exact⟨(kk _ hne).trans e1,(kk _ hab).trans e2,(kk _ hne).trans e3,(kk _ hrb).trans e4,(kk _ hrb).trans e5,(kk _ hne).trans e6,(kk _ hrb).trans e7,(kk _ hrb).trans e8⟩
 have h1:(0:Int)≤(b:Int):=by omega
 have h2:(b:Int)<(n:Int):=by omega
 have h3:(0:Int)≤(c:Int):=by omega
 have h4:(c:Int)<(n:Int):=by omega
 clear hb0 hs h0
 go_enter Tryz.func180,Tryz.ntmps180
 go_upto_region 1 with (fail)
 rw[HW.out]
 go_upto_region 8 with (go_at_call 101;refine HF.out.mono ?_;rintro e w1 ⟨rfl,hb1⟩;obtain⟨q0,q1⟩:=HG.out w1 hb1)
 go_region_held3 (fun w'=>w'.cell? ⟨w.heap.size,4,none⟩=some (.slice (some ⟨ab,ao,none⟩) 1 ac)∧w'.cell? ⟨ab,ao,none⟩=some (.int .i64 z)∧w'.cell? ⟨w.heap.size,2,none⟩=some (.int .i64 b)∧w'.cell? ⟨rb,b*2,none⟩=some (.int .i64 kb)∧w'.cell? ⟨rb,b*2+1,none⟩=some (.int .i64 zb)∧w'.cell? ⟨w.heap.size,3,none⟩=some (.int .i64 c)∧w'.cell? ⟨rb,c*2,none⟩=some (.int .i64 kc)∧w'.cell? ⟨rb,c*2+1,none⟩=some (.int .i64 zc))
  (first|exact HC.out _ hb1.drew|exact HC.out _ (hb1.drew.trans (hb2.mono hb1.size))|exact HKS.out _ _ _ (hb1.drew.trans (hb2.mono hb1.size)))
  (first|(go_at_call 211;refine (HO.out _).mono ?_;rintro e w2 ⟨k,v,rfl,HPk,hb2⟩;obtain⟨z0,z1,z2,z3,z4,z5⟩:=HV.out k v w2 (hb1.drew.trans (hb2.mono hb1.size))))
 all_goals
  go_wp2
  refine bodyPost_ret (results_row_tmp rfl _ _ (w.heap.size+1) 92 _ (0,0) _ rfl z4.out Tryz.underlying92 rfl (by kernel_rfl)) rfl ?_
  exact⟨_,_,rfl,HPk,z5.out⟩
set_option maxHeartbeats 2000000 in
theorem value_get_no (X g m rb rc n b:Nat) (a c kb zb:Int) (aa:Option Addr) (an ac:Nat) (w W:World) (HW:Hid ((w.alloc (.cells #[.int .i64 4,.int .i64 a,.int .i64 b,.int .i64 c,.slice aa an ac] 84)).alloc (.cells #[.int .i64 0,.int .i64 0] 92)=W))
  (HF:Hid (Calls Tryz.prog 101 #[.pointer (some ⟨X,0,none⟩)] W fun e w'=>e=.returned (.pointer (some ⟨g,m*4,none⟩))∧Below W.heap.size W w'))
  (HFl:Hid (∀wi,Below W.heap.size W wi→Calls Tryz.prog 179 #[.pointer (some ⟨X,0,none⟩),.agg #[.int .i64 kb,.int .i64 zb],.int .i64 c] wi fun e w'=>e=.returned (.pointer none)∧Below wi.heap.size wi w'))
  (HG:Hid (∀wi,Below W.heap.size W wi→wi.cell? ⟨g,m*4+2,none⟩=some (.slice (some ⟨rb,0,none⟩) n rc)∧wi.cell? ⟨w.heap.size,0,none⟩=some (.int .i64 4)))
  (HC:Hid (∀wi,Below W.heap.size W wi→wi.cell? ⟨w.heap.size,2,none⟩=some (.int .i64 b)∧wi.cell? ⟨rb,b*2,none⟩=some (.int .i64 kb)∧wi.cell? ⟨rb,b*2+1,none⟩=some (.int .i64 zb)∧wi.cell? ⟨w.heap.size,3,none⟩=some (.int .i64 c)))
  (hb:b<n) (hb0:Below w.heap.size w W) (hs:W.heap.size=w.heap.size+2) (h0:Box 92 (w.heap.size+1) W #[.int .i64 0,.int .i64 0]) :
  Calls Tryz.prog 180 #[.pointer (some ⟨X,0,none⟩),.agg #[.int .i64 4,.int .i64 a,.int .i64 b,.int .i64 c,.slice aa an ac]] w fun e w'=>e=.returned (.tuple #[.agg #[.int .i64 0,.int .i64 0],.bool false])∧Below w.heap.size w w':=by
 have HV:Hid (∀w1,Below W.heap.size W w1→w1.cell? ⟨w.heap.size+1,0,none⟩=some (.int .i64 0)∧w1.cell? ⟨w.heap.size+1,1,none⟩=some (.int .i64 0)∧w1.frozen? ⟨w.heap.size+1,0,none⟩=false∧w1.frozen? ⟨w.heap.size+1,1,none⟩=false∧Hid (((w1.setCell ⟨w.heap.size+1,0,none⟩ (.int .i64 0)).setCell ⟨w.heap.size+1,1,none⟩ (.int .i64 0)).heap[w.heap.size+1]?=some (.cells #[.int .i64 0,.int .i64 0] 92 (0,0)))∧Hid (Below w.heap.size w ((w1.setCell ⟨w.heap.size+1,0,none⟩ (.int .i64 0)).setCell ⟨w.heap.size+1,1,none⟩ (.int .i64 0)))):=fun w1 hb=>vres w W w1 _ _ hb0 hs h0 hb
 have h1:(0:Int)≤(b:Int):=by omega
 have h2:(b:Int)<(n:Int):=by omega
 clear hb0 hs h0
 go_enter Tryz.func180,Tryz.ntmps180
 go_upto_region 1 with (fail)
 rw[HW.out]
 go_upto_region 11 with (go_at_call 101;refine HF.out.mono ?_;rintro e w1 ⟨rfl,hb1⟩;obtain⟨q0,q1⟩:=HG.out w1 hb1)
 go_region_held3 (fun w'=>w'.cell? ⟨w.heap.size,2,none⟩=some (.int .i64 b)∧w'.cell? ⟨rb,b*2,none⟩=some (.int .i64 kb)∧w'.cell? ⟨rb,b*2+1,none⟩=some (.int .i64 zb)∧w'.cell? ⟨w.heap.size,3,none⟩=some (.int .i64 c))
  (first|exact HC.out _ hb1.drew|exact HC.out _ (hb1.drew.trans (hb2.mono hb1.size)))
  (first|(go_at_call 179;refine (HFl.out _ hb1.drew).mono ?_;rintro e w2 ⟨rfl,hb2⟩;obtain⟨z0,z1,z2,z3,z4,z5⟩:=HV.out w2 (hb1.drew.trans (hb2.mono hb1.size))))
 all_goals
  clear hb1 hb2
  go_wp2
  refine bodyPost_ret (results_row_tmp rfl _ _ (w.heap.size+1) 92 _ (0,0) _ rfl z4.out Tryz.underlying92 rfl (by kernel_rfl)) rfl ?_
  exact⟨rfl,z5.out⟩
set_option maxHeartbeats 2000000 in
theorem value_get_yes (X g m rb rc n b xg d:Nat) (a c kb zb k z:Int) (aa:Option Addr) (an ac:Nat) (w W:World) (HW:Hid ((w.alloc (.cells #[.int .i64 4,.int .i64 a,.int .i64 b,.int .i64 c,.slice aa an ac] 84)).alloc (.cells #[.int .i64 0,.int .i64 0] 92)=W))
  (HF:Hid (Calls Tryz.prog 101 #[.pointer (some ⟨X,0,none⟩)] W fun e w'=>e=.returned (.pointer (some ⟨g,m*4,none⟩))∧Below W.heap.size W w'))
  (HFl:Hid (∀wi,Below W.heap.size W wi→Calls Tryz.prog 179 #[.pointer (some ⟨X,0,none⟩),.agg #[.int .i64 kb,.int .i64 zb],.int .i64 c] wi fun e w'=>e=.returned (.pointer (some ⟨xg,d,none⟩))∧Below wi.heap.size wi w'))
  (HG:Hid (∀wi,Below W.heap.size W wi→wi.cell? ⟨g,m*4+2,none⟩=some (.slice (some ⟨rb,0,none⟩) n rc)∧wi.cell? ⟨w.heap.size,0,none⟩=some (.int .i64 4)))
  (HC:Hid (∀wi,Below W.heap.size W wi→wi.cell? ⟨w.heap.size,2,none⟩=some (.int .i64 b)∧wi.cell? ⟨rb,b*2,none⟩=some (.int .i64 kb)∧wi.cell? ⟨rb,b*2+1,none⟩=some (.int .i64 zb)∧wi.cell? ⟨w.heap.size,3,none⟩=some (.int .i64 c)))
  (HD:Hid (∀wi,Below W.heap.size W wi→wi.cell? ⟨xg,d,none⟩=some (.int .i64 k)∧wi.cell? ⟨xg,d+1,none⟩=some (.int .i64 z)))
  (hb:b<n) (hb0:Below w.heap.size w W) (hs:W.heap.size=w.heap.size+2) (h0:Box 92 (w.heap.size+1) W #[.int .i64 0,.int .i64 0]) :
  Calls Tryz.prog 180 #[.pointer (some ⟨X,0,none⟩),.agg #[.int .i64 4,.int .i64 a,.int .i64 b,.int .i64 c,.slice aa an ac]] w fun e w'=>e=.returned (.tuple #[.agg #[.int .i64 k,.int .i64 z],.bool true])∧Below w.heap.size w w':=by
 have HV:Hid (∀w1,Below W.heap.size W w1→w1.cell? ⟨w.heap.size+1,0,none⟩=some (.int .i64 0)∧w1.cell? ⟨w.heap.size+1,1,none⟩=some (.int .i64 0)∧w1.frozen? ⟨w.heap.size+1,0,none⟩=false∧w1.frozen? ⟨w.heap.size+1,1,none⟩=false∧Hid (((w1.setCell ⟨w.heap.size+1,0,none⟩ (.int .i64 k)).setCell ⟨w.heap.size+1,1,none⟩ (.int .i64 z)).heap[w.heap.size+1]?=some (.cells #[.int .i64 k,.int .i64 z] 92 (0,0)))∧Hid (Below w.heap.size w ((w1.setCell ⟨w.heap.size+1,0,none⟩ (.int .i64 k)).setCell ⟨w.heap.size+1,1,none⟩ (.int .i64 z)))):=fun w1 hb=>vres w W w1 _ _ hb0 hs h0 hb
 have h1:(0:Int)≤(b:Int):=by omega
 have h2:(b:Int)<(n:Int):=by omega
 clear hb0 hs h0
 go_enter Tryz.func180,Tryz.ntmps180
 go_upto_region 1 with (fail)
 rw[HW.out]
 go_upto_region 11 with (go_at_call 101;refine HF.out.mono ?_;rintro e w1 ⟨rfl,hb1⟩;obtain⟨q0,q1⟩:=HG.out w1 hb1)
 go_region_held3 (fun w'=>w'.cell? ⟨w.heap.size,2,none⟩=some (.int .i64 b)∧w'.cell? ⟨rb,b*2,none⟩=some (.int .i64 kb)∧w'.cell? ⟨rb,b*2+1,none⟩=some (.int .i64 zb)∧w'.cell? ⟨w.heap.size,3,none⟩=some (.int .i64 c))
  (first|exact HC.out _ hb1.drew|exact HC.out _ (hb1.drew.trans (hb2.mono hb1.size)))
  (first|(go_at_call 179;refine (HFl.out _ hb1.drew).mono ?_;rintro e w2 ⟨rfl,hb2⟩;obtain⟨z0,z1,z2,z3,z4,z5⟩:=HV.out w2 (hb1.drew.trans (hb2.mono hb1.size));obtain⟨d1,d2⟩:=HD.out w2 (hb1.drew.trans (hb2.mono hb1.size))))
 all_goals
  clear hb1 hb2
  go_wp2
  refine bodyPost_ret (results_row_tmp rfl _ _ (w.heap.size+1) 92 _ (0,0) _ rfl z4.out Tryz.underlying92 rfl (by kernel_rfl)) rfl ?_
  exact⟨rfl,z5.out⟩
theorem set2_other {w:World} {g d e:Nat} {x y:Value} {p:Addr} (h:¬p.block=g):((w.setCell ⟨g,d,none⟩ x).setCell ⟨g,e,none⟩ y).cell? p=w.cell? p:=World.cell?_of_block ((Below.heap_setCell _ _ _ _ h).trans (Below.heap_setCell _ _ _ _ h))
set_option maxHeartbeats 2000000 in
theorem value_new (X g m rb rc n:Nat) (a b c k v:Int) (ok:Bool) (aa:Option Addr) (an ac:Nat) (w W:World) (Kp:World→Prop) (HW:Hid ((w.alloc (.cells #[.int .i64 5,.int .i64 a,.int .i64 b,.int .i64 c,.slice aa an ac] 84)).alloc (.cells #[.int .i64 0,.int .i64 0] 92)=W))
  (HF:Hid (Calls Tryz.prog 101 #[.pointer (some ⟨X,0,none⟩)] W fun e w'=>e=.returned (.pointer (some ⟨g,m*4,none⟩))∧Below W.heap.size W w'))
  (HN:Hid (∀wi,Below W.heap.size W wi→Calls Tryz.prog 212 #[.pointer (some ⟨X,0,none⟩),.int .i64 b] wi fun e w'=>e=.returned (.tuple #[.agg #[.int .i64 k,.int .i64 v],.bool ok])∧Hid (Kp w')))
  (HG:Hid (∀wi,Below W.heap.size W wi→wi.cell? ⟨g,m*4+2,none⟩=some (.slice (some ⟨rb,0,none⟩) n rc)∧wi.cell? ⟨w.heap.size,0,none⟩=some (.int .i64 5)))
  (HC:Hid (∀wi,Below W.heap.size W wi→wi.cell? ⟨w.heap.size,2,none⟩=some (.int .i64 b)))
  (HK:Hid (∀wi,Kp wi→wi.cell? ⟨w.heap.size,2,none⟩=some (.int .i64 b)∧wi.cell? ⟨w.heap.size+1,0,none⟩=some (.int .i64 0)∧wi.cell? ⟨w.heap.size+1,1,none⟩=some (.int .i64 0)∧wi.frozen? ⟨w.heap.size+1,0,none⟩=false∧wi.frozen? ⟨w.heap.size+1,1,none⟩=false∧Hid (((wi.setCell ⟨w.heap.size+1,0,none⟩ (.int .i64 k)).setCell ⟨w.heap.size+1,1,none⟩ (.int .i64 v)).heap[w.heap.size+1]?=some (.cells #[.int .i64 k,.int .i64 v] 92 (0,0))))) :
  Calls Tryz.prog 180 #[.pointer (some ⟨X,0,none⟩),.agg #[.int .i64 5,.int .i64 a,.int .i64 b,.int .i64 c,.slice aa an ac]] w fun e w'=>e=.returned (.tuple #[.agg #[.int .i64 k,.int .i64 v],.bool ok])∧Hid (∃w2,Kp w2∧w'=(w2.setCell ⟨w.heap.size+1,0,none⟩ (.int .i64 k)).setCell ⟨w.heap.size+1,1,none⟩ (.int .i64 v)):=by
 go_enter Tryz.func180,Tryz.ntmps180
 go_upto_region 1 with (fail)
 rw[HW.out]
 go_upto_region 10 with (go_at_call 101;refine HF.out.mono ?_;rintro e w1 ⟨rfl,hb1⟩;obtain⟨q0,q1⟩:=HG.out w1 hb1)
 first
  | (go_region_held3 (fun w'=>w'.cell? ⟨w.heap.size,2,none⟩=some (.int .i64 b))
    (first|exact HC.out _ hb1.drew|exact z9|exact (set2_other (by show ¬w.heap.size=w.heap.size+1;omega)).trans z9)
    (first|(go_at_call 212;refine (HN.out _ hb1.drew).mono ?_;rintro e w2 ⟨rfl,HK2⟩;obtain⟨z9,z0,z1,z2,z3,z4⟩:=HK.out w2 HK2.out)))
  | (have q2:=HC.out w1 hb1;go_wp2_with (go_at_call 212;refine (HN.out _ hb1).mono ?_;rintro e w2 ⟨rfl,HK2⟩;obtain⟨z9,z0,z1,z2,z3,z4⟩:=HK.out w2 HK2.out))
 all_goals
  try clear hb1
  try go_wp2
  refine bodyPost_ret (results_row_tmp rfl _ _ (w.heap.size+1) 92 _ (0,0) _ rfl z4.out Tryz.underlying92 rfl (by kernel_rfl)) rfl ?_
  exact⟨rfl,_,HK2.out,rfl⟩
def OwnB (fv cv sv:Value) (rv xv:List Value) (k:Nat):Prop :=
 fv.ownBlock=some k∨cv.ownBlock=some k∨sv.ownBlock=some k∨(∃u,u ∈ rv∧Value.ownBlock u=some k)∨∃u,u ∈ xv∧Value.ownBlock u=some k
section
variable {X B:Nat} {w w':World} {pv fv cv sv:Value} {rv xv:List Value} {R:Rn}
theorem RunAt.ownLt (h:RunAt X B w pv fv cv sv rv xv R) {k:Nat} (hk:OwnB fv cv sv rv xv k):k<w.heap.size:=by
 rcases hk with hk|hk|hk|⟨u,hu,hk⟩|⟨u,hu,hk⟩
 ·exact (h.own.fr.lt k hk).2
 ·exact (h.own.ce.lt k hk).2
 ·exact (h.sd.lt k hk).2
 ·obtain⟨i,hi,e⟩:=List.mem_iff_getElem.1 hu
  have hrl:=h.own.rl
  obtain⟨u',k1,k2⟩:=h.own.regs i (by omega)
  rw[List.getElem?_eq_getElem hi,e]at k1
  injection k1 with k1
  subst k1
  exact (k2.lt k hk).2
 ·obtain⟨i,hi,e⟩:=List.mem_iff_getElem.1 hu
  have hxl:=h.own.xl
  obtain⟨u',k1,k2⟩:=h.own.cells i (by omega)
  rw[List.getElem?_eq_getElem hi,e]at k1
  injection k1 with k1
  subst k1
  exact (k2.lt k hk).2
theorem RunAt.keepB (h:RunAt X B w pv fv cv sv rv xv R) (hX:w'.heap[X]?=w.heap[X]?) (hb:∀k,OwnB fv cv sv rv xv k→w'.heap[k]?=w.heap[k]?):RunAt X B w' pv fv cv sv rv xv R:=by
 refine⟨hX.trans h.box,⟨ownsRow_block h.own.fr fun g hg=>hb g (Or.inl hg),ownsRow_block h.own.ce fun g hg=>hb g (Or.inr (Or.inl hg)),h.own.rl,fun i hi=>?_,fun i hi=>?_,h.own.rr,h.own.xx,h.own.rx⟩,ownsRow_block h.sd fun g hg=>hb g (Or.inr (Or.inr (Or.inl hg))),h.hX⟩
 ·obtain⟨u,h1,h2⟩:=h.own.regs i hi
  exact⟨u,h1,ownsRow_block h2 fun g hg=>hb g (Or.inr (Or.inr (Or.inr (Or.inl ⟨u,List.mem_of_getElem? h1,hg⟩))))⟩
 ·obtain⟨u,h1,h2⟩:=h.own.cells i hi
  exact⟨u,h1,ownsRow_block h2 fun g hg=>hb g (Or.inr (Or.inr (Or.inr (Or.inr ⟨u,List.mem_of_getElem? h1,hg⟩))))⟩
end
def RI (A:Nat→Prop) (X B:Nat) (w:World) (pv:Value) (R:Rn):Prop:=∃fv cv sv rv xv,RunAt X B w pv fv cv sv rv xv R∧∀k,OwnB fv cv sv rv xv k→A k
theorem RI.keep {A:Nat→Prop} {X B:Nat} {w w':World} {pv:Value} {R:Rn} (h:RI A X B w pv R) (hX:w'.heap[X]?=w.heap[X]?) (hb:∀k,A k→k<w.heap.size→w'.heap[k]?=w.heap[k]?):RI A X B w' pv R:=by
 obtain⟨fv,cv,sv,rv,xv,h,ha⟩:=h
 exact⟨fv,cv,sv,rv,xv,h.keepB hX fun k hk=>hb k (ha k hk) (h.ownLt hk),ha⟩
theorem RI.mono {A A':Nat→Prop} {X B:Nat} {w:World} {pv:Value} {R:Rn} (h:RI A X B w pv R) (ha:∀k,A k→A' k):RI A' X B w pv R:=by
 obtain⟨fv,cv,sv,rv,xv,h,hk⟩:=h
 exact⟨fv,cv,sv,rv,xv,h,fun k hh=>ha k (hk k hh)⟩
def ValPost (N X B:Nat) (w:World) (pv:Value) (R:Rn) (o:Option (Sta×(Int×Int))) (e:Ending) (w':World):Prop :=
 (o=none∧(∃k z,e=.returned (.tuple #[.agg #[.int .i64 k,.int .i64 z],.bool false]))∧Below w.heap.size w w') ∨
 ∃S' v,o=some (S',v)∧e=.returned (.tuple #[.agg #[.int .i64 v.1,.int .i64 v.2],.bool true])∧RI (fun k=>k<N∨w.heap.size≤k) X B w' pv ⟨S',R.said,R.paused⟩∧Below B w w'∧∀k,N≤k→k<w.heap.size→w'.heap[k]?=w.heap[k]?
def newO (S:Sta) (n:Int):Option (Sta×(Int×Int)):=if (roomS S).cs.length=24 then none else some (withCell (roomS S) n,(2,((roomS S).cs.length:Int)))
def NewC (np:Nat) (P:Nat→Pc):Prop:=∀(N X B:Nat) (n:Int) (w:World) (pv:Value) (R:Rn),CodeOK np P→StaOK np P R.s→1≤n→n≤4→RI (fun k=>k<N) X B w pv R→X<N→N≤w.heap.size →
 Calls Tryz.prog 212 #[.pointer (some ⟨X,0,none⟩),.int .i64 n] w fun e w'=>(newO R.s n=none→e=.returned (.tuple #[.agg #[.int .i64 0,.int .i64 0],.bool false]))∧ValPost N X B w pv R (newO R.s n) e w'
theorem valueP {np:Nat} {P:Nat→Pc} (hNew:NewC np P) (N M X B:Nat) (i:In) (aa:Option Addr) (ac:Nat) (w:World) (pv:Value) (R:Rn) (hc:CodeOK np P) (hs:StaOK np P R.s) (hst:R.s.st=0) (h:RI (fun k=>k<N) X B w pv R) (hXN:X<N) (hNw:N≤w.heap.size)
  (ho:i.op=1∨i.op=2∨i.op=3∨i.op=4∨i.op=5) (hi:InOK np (fun k=>(P k).params) (procS P R.s).regs (procS P R.s).n i) (hav:NumsAt M w (.slice aa i.n ac) i.n i.z) (hM:M≤w.heap.size) :
  Calls Tryz.prog 180 #[.pointer (some ⟨X,0,none⟩),.agg #[.int .i64 i.op,.int .i64 i.a,.int .i64 i.b,.int .i64 i.c,.slice aa i.n ac]] w (ValPost N X B w pv R (valueM R.s i)):=by
 have hRI:=h
 obtain⟨fv,cv,sv,rv,xv,h,hown⟩:=h
 have hn:¬R.s.fs.length=0:=hs.unfin (by omega)
 have ht:=hs.top hn
 have hlen:=ht.len
 have hr0:=hc.r0 _ (show (topF R.s).proc.toNat<np by have:=ht.p0;have:=ht.p1;omega)
 obtain⟨g,m,cap,rb,rc,rfl,hfl,hrv,T⟩:=h.top hn (by omega)
 obtain⟨W,hW,b0,hsz,i0,i1,i2,i3,i4,hbx⟩:=vbox w i.op i.a i.b i.c (.slice aa i.n ac)
 have hfew:=hs.few
 have HF:Hid (Calls Tryz.prog 101 #[.pointer (some ⟨X,0,none⟩)] W fun e w'=>e=.returned (.pointer (some ⟨g,m*4,none⟩))∧Below W.heap.size W w'):=vframe X B W pv cv sv g m cap rv xv R (h.below b0) (by omega)
 have hT:∀wi,Below W.heap.size W wi→TopAt B wi g m rb rc (topF R.s):=fun wi hb=>(T.below b0).below hb
 have hBw:B≤w.heap.size:=Nat.le_trans h.hX (Nat.le_of_lt h.lt)
 -- what leaves all that was: a value of the state as it is
 have yes:∀(v:Int×Int) (w':World),Below w.heap.size w w'→ValPost N X B w pv R (some (R.s,v)) (.returned (.tuple #[.agg #[.int .i64 v.1,.int .i64 v.2],.bool true])) w':=fun v w' hb =>
  Or.inr ⟨_,_,rfl,rfl,⟨_,cv,sv,rv,xv,h.below hb,fun k hk=>Or.inl (hown k hk)⟩,hb.mono hBw,fun k _ hk=>hb.block k hk⟩
 have no:∀(k z:Int) (w':World),Below w.heap.size w w'→ValPost N X B w pv R none (.returned (.tuple #[.agg #[.int .i64 k,.int .i64 z],.bool false])) w':=fun k z w' hb=>Or.inl ⟨rfl,⟨k,z,rfl⟩,hb⟩
 by_cases o1:i.op=1
 ·have e1:valueM R.s i=some (R.s,(1,i.b)):=by unfold valueM;rw[if_pos o1]
  rw[e1]
  rw[o1]at hW i0 ⊢
  refine (value_num X g m rb rc (topF R.s).regs.length i.a i.b i.c aa i.n ac w W hW HF (fun wi hw=>⟨(hT wi hw).c2,below_at hw i0,below_at hw i2⟩) b0 hsz hbx).mono ?_
  rintro e w' ⟨rfl,hb⟩
  exact yes (1,i.b) w' hb
 by_cases o2:i.op=2
 ·obtain⟨b,hb⟩:=nat_of (hi.rb (by omega)).1
  have hb1:=(hi.rb (by omega)).2
  unfold procS at hb1
  rw[hb]at hb1
  have hb2:b<(topF R.s).regs.length:=by omega
  have e1:valueM R.s i=some (R.s,(topF R.s).regs.getD b (0,0)):=by unfold valueM regAt;rw[if_neg o1,if_pos o2,hb];rfl
  rw[e1]
  rw[o2,hb]at hW ⊢
  rw[o2]at i0
  rw[hb]at i2
  refine (value_move X g m rb rc (topF R.s).regs.length b i.a i.c _ _ aa i.n ac w W hW HF (fun wi hw=>⟨(hT wi hw).c2,below_at hw i0,below_at hw i2,(hT wi hw).r0 b hb2,(hT wi hw).r1 b hb2⟩) hb2 b0 hsz hbx).mono ?_
  rintro e w' ⟨rfl,hbb⟩
  exact yes _ w' hbb
 by_cases o3:i.op=3
 ·obtain⟨b,hb⟩:=nat_of (hi.rb (by omega)).1
  obtain⟨c,hcc⟩:=nat_of (hi.rc o3).1
  have hb1:=(hi.rb (by omega)).2
  have hc1:=(hi.rc o3).2
  unfold procS at hb1 hc1
  rw[hb]at hb1
  rw[hcc]at hc1
  have hb2:b<(topF R.s).regs.length:=by omega
  have hc2:c<(topF R.s).regs.length:=by omega
  obtain⟨hn1,hz1,hz2⟩:=hi.opr o3
  obtain⟨ea,ec,e1,_,hav⟩:=hav
  cases e1
  rw[hn1]at hav hW i4 ⊢
  rcases hav with hav|⟨ab,ao,rfl,hab,hav⟩
  ·omega
  have hz:=hav 0 (by omega)
  rw[Nat.add_zero]at hz
  have hvb:=ht.vals.at (b:Int)
  have hvc:=ht.vals.at (c:Int)
  unfold regAt at hvb hvc
  rw[Int.toNat_natCast]at hvb hvc
  have e2:valueM R.s i=(opM (i.z 0) ((topF R.s).regs.getD b (0,0)) ((topF R.s).regs.getD c (0,0))).map fun v=>(R.s,v):=by unfold valueM regAt;rw[if_neg o1,if_neg o2,if_pos o3,hb,hcc];rfl
  rw[e2]
  rw[o3,hb,hcc]at hW ⊢
  rw[o3]at i0
  rw[hb]at i2
  rw[hcc]at i3
  have HC3:Hid (∀wi,Below W.heap.size W wi→wi.cell? ⟨w.heap.size,4,none⟩=some (.slice (some ⟨ab,ao,none⟩) 1 ac)∧wi.cell? ⟨ab,ao,none⟩=some (.int .i64 (i.z 0))∧wi.cell? ⟨w.heap.size,2,none⟩=some (.int .i64 b)∧wi.cell? ⟨rb,b*2,none⟩=some (.int .i64 ((topF R.s).regs.getD b (0,0)).1)∧wi.cell? ⟨rb,b*2+1,none⟩=some (.int .i64 ((topF R.s).regs.getD b (0,0)).2)∧wi.cell? ⟨w.heap.size,3,none⟩=some (.int .i64 c)∧wi.cell? ⟨rb,c*2,none⟩=some (.int .i64 ((topF R.s).regs.getD c (0,0)).1)∧wi.cell? ⟨rb,c*2+1,none⟩=some (.int .i64 ((topF R.s).regs.getD c (0,0)).2)):=fun wi hw=>⟨below_at hw i4,below_at hw (below_at b0 hz),below_at hw i2,(hT wi hw).r0 b hb2,(hT wi hw).r1 b hb2,below_at hw i3,(hT wi hw).r0 c hc2,(hT wi hw).r1 c hc2⟩
  have hrl:=T.rl
  cases hv:opM (i.z 0) ((topF R.s).regs.getD b (0,0)) ((topF R.s).regs.getD c (0,0)) with
  | none =>
   refine (value_op X g m rb rc (topF R.s).regs.length b c i.a (i.z 0) _ _ _ _ false (fun _ _=>True) ab ao ac w W hW HF (fun wi=>(operateM (i.z 0) _ _ R.s.cs.length wi hz1 hz2 hvb hvc).mono (by
     rintro e w' ⟨⟨k,z,rfl,_⟩,hb⟩
     rw[hv]
     exact⟨k,z,rfl,trivial,hb⟩)) (fun wi hw=>⟨(hT wi hw).c2,below_at hw i0⟩) HC3 hb2 hc2 (by omega) (by omega) b0 hsz hbx).mono ?_
   rintro e w' ⟨k,z,rfl,_,hbb⟩
   exact no k z w' hbb
  | some v =>
   refine (value_op X g m rb rc (topF R.s).regs.length b c i.a (i.z 0) _ _ _ _ true (fun k z=>v=(k,z)) ab ao ac w W hW HF (fun wi=>(operateM (i.z 0) _ _ R.s.cs.length wi hz1 hz2 hvb hvc).mono (by
     rintro e w' ⟨⟨k,z,rfl,hk⟩,hb⟩
     have:=hk v hv
     rw[hv]
     exact⟨k,z,rfl,this,hb⟩)) (fun wi hw=>⟨(hT wi hw).c2,below_at hw i0⟩) HC3 hb2 hc2 (by omega) (by omega) b0 hsz hbx).mono ?_
   rintro e w' ⟨k,z,rfl,hvk,hbb⟩
   obtain rfl:v=(k,z):=hvk
   exact yes (k,z) w' hbb
 by_cases o5:i.op=5
 ·have e1:valueM R.s i=newO R.s i.b:=by unfold valueM newO;rw[if_neg o1,if_neg o2,if_neg o3,if_pos o5]
  rw[e1]
  rw[o5]at hW i0 ⊢
  obtain⟨n1,n4⟩:=hi.new o5
  have hXs:X<w.heap.size:=h.lt
  have hNc:∀wi,Below W.heap.size W wi→_:=fun wi hw=>hNew N X B i.b wi pv R hc hs n1 n4 ⟨_,cv,sv,rv,xv,(h.below b0).below hw,hown⟩ hXN (Nat.le_trans hNw (Nat.le_trans b0.size hw.size))
  cases hno:newO R.s i.b with
  | none =>
   refine (value_new X g m rb rc (topF R.s).regs.length i.a i.b i.c 0 0 false aa i.n ac w W (fun wi=>Below W.heap.size W wi) hW HF (fun wi hw=>(hNc wi hw).mono (by
     rintro e w' ⟨h1,h2⟩
     refine⟨h1 hno,?_⟩
     rcases h2 with⟨_,_,hb⟩|⟨S',v,h3,_⟩
     ·exact below_step hw hb
     ·rw[hno]at h3;cases h3)) (fun wi hw=>⟨(hT wi hw).c2,below_at hw i0⟩) (fun wi hw=>below_at hw i2)
    (fun wi hw=>by
     obtain⟨q0,q1,q2,q3,q4,_⟩:=vres w W wi (.int .i64 0) (.int .i64 0) b0 hsz hbx hw
     exact⟨below_at hw i2,q0,q1,q2,q3,q4⟩)).mono ?_
   rintro e w' ⟨rfl,w2,hw2,rfl⟩
   exact no 0 0 _ (vres w W w2 (.int .i64 0) (.int .i64 0) b0 hsz hbx hw2).2.2.2.2.2
  | some x =>
   obtain⟨S',v⟩:=x
   have hkeep:∀wi w':World,Below W.heap.size W wi→(∀k,N≤k→k<wi.heap.size→w'.heap[k]?=wi.heap[k]?)→∀k,N≤k→k<W.heap.size→w'.heap[k]?=W.heap[k]?:=fun wi w' hw hk k h1 h2=>(hk k h1 (Nat.lt_of_lt_of_le h2 hw.size)).trans (hw.block k h2)
   refine (value_new X g m rb rc (topF R.s).regs.length i.a i.b i.c v.1 v.2 true aa i.n ac w W (fun wi=>RI (fun k=>k<N∨W.heap.size≤k) X B wi pv ⟨S',R.said,R.paused⟩∧Below B w wi∧∀k,N≤k→k<W.heap.size→wi.heap[k]?=W.heap[k]?) hW HF (fun wi hw=>(hNc wi hw).mono (by
     rintro e w' ⟨h1,h2⟩
     rcases h2 with⟨h3,_⟩|⟨S2,v2,h3,he,hr,hb,hk⟩
     ·rw[hno]at h3;cases h3
     ·rw[hno]at h3
      injection h3 with h3
      injection h3 with h3 h4
      subst h3 h4
      exact⟨he,hr.mono fun k hk=>hk.imp id fun h=>Nat.le_trans hw.size h,(b0.mono hBw).trans ((hw.mono (Nat.le_trans hBw b0.size)).trans hb),hkeep wi w' hw hk⟩)) (fun wi hw=>⟨(hT wi hw).c2,below_at hw i0⟩) (fun wi hw=>below_at hw i2)
    (fun wi hw=>by
     have hbx2:Box 92 (w.heap.size+1) wi #[.int .i64 0,.int .i64 0]:=hbx.keep (hw.2.2 (w.heap.size+1) (by omega) (by omega))
     exact⟨(World.cell?_of_block (w:=W) (a:=⟨w.heap.size,2,none⟩) (hw.2.2 w.heap.size hNw (by omega))).trans i2,hbx2.cell 0,hbx2.cell 1,hbx2.fz 0,hbx2.fz 1,(hbx2.put 0 _).put 1 _⟩)).mono ?_
   rintro e w' ⟨rfl,w2,⟨hr,hb,hk⟩,rfl⟩
   have hot:∀k,¬k=w.heap.size+1→((w2.setCell ⟨w.heap.size+1,0,none⟩ (.int .i64 v.1)).setCell ⟨w.heap.size+1,1,none⟩ (.int .i64 v.2)).heap[k]?=w2.heap[k]?:=fun k hk=>(Below.heap_setCell _ _ _ k hk).trans (Below.heap_setCell _ _ _ k hk)
   refine Or.inr ⟨S',v,rfl,rfl,((hr.keep (hot X (by omega)) fun k hk _=>hot k (by omega)).mono fun k hk=>hk.imp id fun h=>by omega),(hb.setCell (by show B≤w.heap.size+1;omega) _).setCell (by show B≤w.heap.size+1;omega) _,fun k h1 h2=>?_⟩
   rw[hot k (by omega),hk k h1 (by omega)]
   exact b0.block k h2
 have o4:i.op=4:=by omega
 obtain⟨b,hb⟩:=nat_of (hi.rb (by omega)).1
 obtain⟨c,hcc⟩:=nat_of (hi.fld (by omega)).1
 have hb1:=(hi.rb (by omega)).2
 unfold procS at hb1
 rw[hb]at hb1
 have hb2:b<(topF R.s).regs.length:=by omega
 have e1:valueM R.s i=if hasField R.s ((topF R.s).regs.getD b (0,0)) i.c=true then some (R.s,fieldOf R.s ((topF R.s).regs.getD b (0,0)) i.c) else none:=by
  unfold valueM regAt;rw[if_neg o1,if_neg o2,if_neg o3,if_neg o5,hb];rfl
 rw[e1]
 rw[o4,hb,hcc]at hW
 rw[o4]at i0
 rw[hb]at i2
 rw[hcc]at i3
 rw[o4,hb,hcc]
 have hva:=ht.vals.at (b:Int)
 unfold regAt at hva
 rw[Int.toNat_natCast]at hva
 have HC4:Hid (∀wi,Below W.heap.size W wi→wi.cell? ⟨w.heap.size,2,none⟩=some (.int .i64 b)∧wi.cell? ⟨rb,b*2,none⟩=some (.int .i64 ((topF R.s).regs.getD b (0,0)).1)∧wi.cell? ⟨rb,b*2+1,none⟩=some (.int .i64 ((topF R.s).regs.getD b (0,0)).2)∧wi.cell? ⟨w.heap.size,3,none⟩=some (.int .i64 c)):=fun wi hw=>⟨below_at hw i2,(hT wi hw).r0 b hb2,(hT wi hw).r1 b hb2,below_at hw i3⟩
 have HG4:Hid (∀wi,Below W.heap.size W wi→wi.cell? ⟨g,m*4+2,none⟩=some (.slice (some ⟨rb,0,none⟩) (topF R.s).regs.length rc)∧wi.cell? ⟨w.heap.size,0,none⟩=some (.int .i64 4)):=fun wi hw=>⟨(hT wi hw).c2,below_at hw i0⟩
 by_cases hk:((topF R.s).regs.getD b (0,0)).1=2
 ·rw[hk]at hva
  obtain⟨k1,k2⟩:=chk_ref hva
  obtain⟨k,hkk⟩:=nat_of k1
  rw[hkk]at k2
  have hkn:k<R.s.cs.length:=by omega
  have hlo:=hs.cells.lo _ (getD_mem (d:=[]) hkn)
  obtain⟨cb,cc,xg,xc,rfl,ck,hxk,hvr⟩:=h.own.ccell hkn (by omega)
  obtain⟨_,_,c2,_⟩:=(h.below b0).cells
  have ckW:=below_at b0 ck
  have hXW:=(h.below b0).lt
  have hfield:hasField R.s ((topF R.s).regs.getD b (0,0)) c=decide ((c:Int)<(R.s.cs.getD k []).length):=by
   unfold hasField
   rw[hk,hkk,Int.toNat_natCast];simp
  by_cases hlt:c<(R.s.cs.getD k []).length
  ·rw[if_pos (by rw[hfield];exact decide_eq_true (by omega))]
   have hvW:VRow B W (.slice (some ⟨xg,0,none⟩) (R.s.cs.getD k []).length xc) (R.s.cs.getD k []):=ownsRow_block hvr fun j hj=>b0.block j (hvr.lt j hj).2
   obtain⟨q0,q1,_,q2,q3⟩:=hvW.vals
   have hfo:fieldOf R.s ((topF R.s).regs.getD b (0,0)) c=(R.s.cs.getD k []).getD c (0,0):=by unfold fieldOf regAt;rw[hkk,Int.toNat_natCast,Int.toNat_natCast]
   rw[hfo]
   refine (value_get_yes X g m rb rc (topF R.s).regs.length b xg (c*2) i.a c _ _ ((R.s.cs.getD k []).getD c (0,0)).1 ((R.s.cs.getD k []).getD c (0,0)).2 aa i.n ac w W hW HF
    (fun wi hw=>by rw[hk,hkk];exact field_yes X cb cc _ k xg xc _ c wi (Nat.lt_of_lt_of_le hXW hw.size) (Nat.lt_of_lt_of_le (cell_lt ckW) hw.size) (below_at hw c2) (below_at hw ckW) hkn hlt) HG4 HC4
    (fun wi hw=>⟨below_at hw (q0 c hlt).1,below_at hw (q0 c hlt).2⟩) hb2 b0 hsz hbx).mono ?_
   rintro e w' ⟨rfl,hbb⟩
   exact yes _ w' hbb
  ·rw[if_neg (by rw[hfield];intro e;have:=of_decide_eq_true e;omega)]
   refine (value_get_no X g m rb rc (topF R.s).regs.length b i.a c _ _ aa i.n ac w W hW HF
    (fun wi hw=>by rw[hk,hkk];exact field_few X cb cc _ k xg xc _ c wi (Nat.lt_of_lt_of_le hXW hw.size) (Nat.lt_of_lt_of_le (cell_lt ckW) hw.size) (below_at hw c2) (below_at hw ckW) hkn (by omega)) HG4 HC4 hb2 b0 hsz hbx).mono ?_
   rintro e w' ⟨rfl,hbb⟩
   exact no 0 0 w' hbb
 ·rw[if_neg (by unfold hasField;intro e;exact hk (of_decide_eq_true e).1)]
  refine (value_get_no X g m rb rc (topF R.s).regs.length b i.a c _ _ aa i.n ac w W hW HF (fun wi hw=>field_kind X _ _ _ wi hk) HG4 HC4 hb2 b0 hsz hbx).mono ?_
  rintro e w' ⟨rfl,hbb⟩
  exact no 0 0 w' hbb
end Go.Proofs.YtfaokaohhchdhaaGreatDoor
