/- value: what an instruction makes for its register A. -/
import Derived.Test.YtfaokaohhchdhaaGreatDoorPart17
namespace Go.Proofs.YtfaokaohhchdhaaGreatDoor
open Go.RowKit Go.Maps
theorem vbox (w : World) (op a b c : Int) (av : Value) : ∃ W,(w.alloc (.cells #[.int .i64 op,.int .i64 a,.int .i64 b,.int .i64 c,av] 84)).alloc (.cells #[.int .i64 0,.int .i64 0] 92) = W∧Below w.heap.size w W∧W.heap.size = w.heap.size + 2∧W.cell? ⟨w.heap.size,0,none⟩ = some (.int .i64 op)∧W.cell? ⟨w.heap.size,1,none⟩ = some (.int .i64 a)∧W.cell? ⟨w.heap.size,2,none⟩ = some (.int .i64 b)∧W.cell? ⟨w.heap.size,3,none⟩ = some (.int .i64 c)∧W.cell? ⟨w.heap.size,4,none⟩ = some av∧Box 92 (w.heap.size + 1) W #[.int .i64 0,.int .i64 0]:=by
 obtain ⟨W1,h0,h1,h2,h3,h4,h5,h6,h7⟩:=ibox w op a b c av
 rw [h0]
 have hb:=below_alloc W1 (.cells #[.int .i64 0,.int .i64 0] 92)
 refine ⟨_,rfl,below_step h1 hb,by simp; omega,below_at hb h3,below_at hb h4,below_at hb h5,below_at hb h6,below_at hb h7,?_⟩
 have:=box_new W1 #[.int .i64 0,.int .i64 0] 92
 rw [h2] at this
 exact this
theorem vres (w W w1 : World) (x y : Value) (hb0 : Below w.heap.size w W) (hs : W.heap.size = w.heap.size + 2) (h0 : Box 92 (w.heap.size + 1) W #[.int .i64 0,.int .i64 0]) (hb : Below W.heap.size W w1) : w1.cell? ⟨w.heap.size + 1,0,none⟩ = some (.int .i64 0)∧w1.cell? ⟨w.heap.size + 1,1,none⟩ = some (.int .i64 0)∧w1.frozen? ⟨w.heap.size + 1,0,none⟩ = false∧w1.frozen? ⟨w.heap.size + 1,1,none⟩ = false∧Hid (((w1.setCell ⟨w.heap.size + 1,0,none⟩ x).setCell ⟨w.heap.size + 1,1,none⟩ y).heap[w.heap.size + 1]? = some (.cells #[x,y] 92 (0,0)))∧Hid (Below w.heap.size w ((w1.setCell ⟨w.heap.size + 1,0,none⟩ x).setCell ⟨w.heap.size + 1,1,none⟩ y)):=by
 obtain ⟨q0,q1,q2,q3,q4⟩:=res2at W w1 (w.heap.size + 1) _ _ _ x y h0 hb (by omega)
 exact ⟨q0,q1,q2,q3,q4,((hb0.trans (hb.mono hb0.size)).setCell (by show w.heap.size ≤ w.heap.size + 1; omega) _).setCell (by show w.heap.size ≤ w.heap.size + 1; omega) _⟩
set_option maxHeartbeats 2000000 in
theorem value_num (X g m rb rc n : Nat) (a b c : Int) (aa : Option Addr) (an ac : Nat) (w W : World) (HW : Hid ((w.alloc (.cells #[.int .i64 1,.int .i64 a,.int .i64 b,.int .i64 c,.slice aa an ac] 84)).alloc (.cells #[.int .i64 0,.int .i64 0] 92) = W))
  (HF : Hid (Calls Tryz.prog 101 #[.pointer (some ⟨X,0,none⟩)] W fun e w' => e = .returned (.pointer (some ⟨g,m * 4,none⟩))∧Below W.heap.size W w'))
  (HG : Hid (∀ wi,Below W.heap.size W wi→wi.cell? ⟨g,m * 4 + 2,none⟩ = some (.slice (some ⟨rb,0,none⟩) n rc)∧wi.cell? ⟨w.heap.size,0,none⟩ = some (.int .i64 1)∧wi.cell? ⟨w.heap.size,2,none⟩ = some (.int .i64 b)))
  (hb0 : Below w.heap.size w W) (hs : W.heap.size = w.heap.size + 2) (h0 : Box 92 (w.heap.size + 1) W #[.int .i64 0,.int .i64 0]) :
  Calls Tryz.prog 180 #[.pointer (some ⟨X,0,none⟩),.agg #[.int .i64 1,.int .i64 a,.int .i64 b,.int .i64 c,.slice aa an ac]] w fun e w' => e = .returned (.tuple #[.agg #[.int .i64 1,.int .i64 b],.bool true])∧Below w.heap.size w w':=by
 have HV : Hid (∀ w1,Below W.heap.size W w1→w1.cell? ⟨w.heap.size + 1,0,none⟩ = some (.int .i64 0)∧w1.cell? ⟨w.heap.size + 1,1,none⟩ = some (.int .i64 0)∧w1.frozen? ⟨w.heap.size + 1,0,none⟩ = false∧w1.frozen? ⟨w.heap.size + 1,1,none⟩ = false∧Hid (((w1.setCell ⟨w.heap.size + 1,0,none⟩ (.int .i64 1)).setCell ⟨w.heap.size + 1,1,none⟩ (.int .i64 b)).heap[w.heap.size + 1]? = some (.cells #[.int .i64 1,.int .i64 b] 92 (0,0)))∧Hid (Below w.heap.size w ((w1.setCell ⟨w.heap.size + 1,0,none⟩ (.int .i64 1)).setCell ⟨w.heap.size + 1,1,none⟩ (.int .i64 b)))):=fun w1 hb => vres w W w1 _ _ hb0 hs h0 hb
 clear hb0 hs h0
 go_enter Tryz.func180,Tryz.ntmps180
 go_upto_region 1 with (fail)
 rw [HW.out]
 go_upto_region 2 with (go_at_call 101; refine HF.out.mono ?_; rintro e w1 ⟨rfl,hb1⟩; obtain ⟨q0,q1,q2⟩:=HG.out w1 hb1)
 go_wp2_with (go_at_call 210; refine (vnumber _ _).mono ?_; rintro e w2 ⟨rfl,hb2⟩; obtain ⟨z0,z1,z2,z3,z4,z5⟩:=HV.out w2 (below_step hb1 hb2))
 refine bodyPost_ret (results_row_tmp rfl _ _ (w.heap.size + 1) 92 _ (0,0) _ rfl z4.out Tryz.underlying92 rfl (by kernel_rfl)) rfl ?_
 exact ⟨rfl,z5.out⟩
set_option maxHeartbeats 2000000 in
theorem value_move (X g m rb rc n b : Nat) (a c kb zb : Int) (aa : Option Addr) (an ac : Nat) (w W : World) (HW : Hid ((w.alloc (.cells #[.int .i64 2,.int .i64 a,.int .i64 b,.int .i64 c,.slice aa an ac] 84)).alloc (.cells #[.int .i64 0,.int .i64 0] 92) = W))
  (HF : Hid (Calls Tryz.prog 101 #[.pointer (some ⟨X,0,none⟩)] W fun e w' => e = .returned (.pointer (some ⟨g,m * 4,none⟩))∧Below W.heap.size W w'))
  (HG : Hid (∀ wi,Below W.heap.size W wi→wi.cell? ⟨g,m * 4 + 2,none⟩ = some (.slice (some ⟨rb,0,none⟩) n rc)∧wi.cell? ⟨w.heap.size,0,none⟩ = some (.int .i64 2)∧wi.cell? ⟨w.heap.size,2,none⟩ = some (.int .i64 b)∧wi.cell? ⟨rb,b * 2,none⟩ = some (.int .i64 kb)∧wi.cell? ⟨rb,b * 2 + 1,none⟩ = some (.int .i64 zb)))
  (hb : b < n) (hb0 : Below w.heap.size w W) (hs : W.heap.size = w.heap.size + 2) (h0 : Box 92 (w.heap.size + 1) W #[.int .i64 0,.int .i64 0]) :
  Calls Tryz.prog 180 #[.pointer (some ⟨X,0,none⟩),.agg #[.int .i64 2,.int .i64 a,.int .i64 b,.int .i64 c,.slice aa an ac]] w fun e w' => e = .returned (.tuple #[.agg #[.int .i64 kb,.int .i64 zb],.bool true])∧Below w.heap.size w w':=by
 have HV : Hid (∀ w1,Below W.heap.size W w1→w1.cell? ⟨w.heap.size + 1,0,none⟩ = some (.int .i64 0)∧w1.cell? ⟨w.heap.size + 1,1,none⟩ = some (.int .i64 0)∧w1.frozen? ⟨w.heap.size + 1,0,none⟩ = false∧w1.frozen? ⟨w.heap.size + 1,1,none⟩ = false∧Hid (((w1.setCell ⟨w.heap.size + 1,0,none⟩ (.int .i64 kb)).setCell ⟨w.heap.size + 1,1,none⟩ (.int .i64 zb)).heap[w.heap.size + 1]? = some (.cells #[.int .i64 kb,.int .i64 zb] 92 (0,0)))∧Hid (Below w.heap.size w ((w1.setCell ⟨w.heap.size + 1,0,none⟩ (.int .i64 kb)).setCell ⟨w.heap.size + 1,1,none⟩ (.int .i64 zb)))):=fun w1 hb => vres w W w1 _ _ hb0 hs h0 hb
 have h1 : (0 : Int) ≤ (b : Int):=by omega
 have h2 : (b : Int) < (n : Int):=by omega
 clear hb0 hs h0
 go_enter Tryz.func180,Tryz.ntmps180
 go_upto_region 1 with (fail)
 rw [HW.out]
 go_upto_region 2 with (go_at_call 101; refine HF.out.mono ?_; rintro e w1 ⟨rfl,hb1⟩; obtain ⟨q0,q1,q2,q3,q4⟩:=HG.out w1 hb1; obtain ⟨z0,z1,z2,z3,z4,z5⟩:=HV.out w1 hb1)
 go_wp2_with (fail)
 refine bodyPost_ret (results_row_tmp rfl _ _ (w.heap.size + 1) 92 _ (0,0) _ rfl z4.out Tryz.underlying92 rfl (by kernel_rfl)) rfl ?_
 exact ⟨rfl,z5.out⟩
set_option maxHeartbeats 2000000 in
theorem value_op (X g m rb rc n b c : Nat) (a z kb zb kc zc : Int) (ok : Bool) (Pk : Int→Int→Prop) (ab ao ac : Nat) (w W : World) (HW : Hid ((w.alloc (.cells #[.int .i64 3,.int .i64 a,.int .i64 b,.int .i64 c,.slice (some ⟨ab,ao,none⟩) 1 ac] 84)).alloc (.cells #[.int .i64 0,.int .i64 0] 92) = W))
  (HF : Hid (Calls Tryz.prog 101 #[.pointer (some ⟨X,0,none⟩)] W fun e w' => e = .returned (.pointer (some ⟨g,m * 4,none⟩))∧Below W.heap.size W w'))
  (HO : Hid (∀ wi,Calls Tryz.prog 211 #[.int .i64 z,.agg #[.int .i64 kb,.int .i64 zb],.agg #[.int .i64 kc,.int .i64 zc]] wi fun e w' => ∃ k v,e = .returned (.tuple #[.agg #[.int .i64 k,.int .i64 v],.bool ok])∧Hid (Pk k v)∧Below wi.heap.size wi w'))
  (HG : Hid (∀ wi,Below W.heap.size W wi→wi.cell? ⟨g,m * 4 + 2,none⟩ = some (.slice (some ⟨rb,0,none⟩) n rc)∧wi.cell? ⟨w.heap.size,0,none⟩ = some (.int .i64 3)))
  (HC : Hid (∀ wi,Below W.heap.size W wi→wi.cell? ⟨w.heap.size,4,none⟩ = some (.slice (some ⟨ab,ao,none⟩) 1 ac)∧wi.cell? ⟨ab,ao,none⟩ = some (.int .i64 z)∧wi.cell? ⟨w.heap.size,2,none⟩ = some (.int .i64 b)∧wi.cell? ⟨rb,b * 2,none⟩ = some (.int .i64 kb)∧wi.cell? ⟨rb,b * 2 + 1,none⟩ = some (.int .i64 zb)∧wi.cell? ⟨w.heap.size,3,none⟩ = some (.int .i64 c)∧wi.cell? ⟨rb,c * 2,none⟩ = some (.int .i64 kc)∧wi.cell? ⟨rb,c * 2 + 1,none⟩ = some (.int .i64 zc)))
  (hb : b < n) (hc : c < n) (hab : ¬ ab = w.heap.size + 1) (hrb : ¬ rb = w.heap.size + 1) (hb0 : Below w.heap.size w W) (hs : W.heap.size = w.heap.size + 2) (h0 : Box 92 (w.heap.size + 1) W #[.int .i64 0,.int .i64 0]) :
  Calls Tryz.prog 180 #[.pointer (some ⟨X,0,none⟩),.agg #[.int .i64 3,.int .i64 a,.int .i64 b,.int .i64 c,.slice (some ⟨ab,ao,none⟩) 1 ac]] w fun e w' => ∃ k v,e = .returned (.tuple #[.agg #[.int .i64 k,.int .i64 v],.bool ok])∧Hid (Pk k v)∧Below w.heap.size w w':=by
 have HV : Hid (∀ (k v : Int) (w1 : World),Below W.heap.size W w1→w1.cell? ⟨w.heap.size + 1,0,none⟩ = some (.int .i64 0)∧w1.cell? ⟨w.heap.size + 1,1,none⟩ = some (.int .i64 0)∧w1.frozen? ⟨w.heap.size + 1,0,none⟩ = false∧w1.frozen? ⟨w.heap.size + 1,1,none⟩ = false∧Hid (((w1.setCell ⟨w.heap.size + 1,0,none⟩ (.int .i64 k)).setCell ⟨w.heap.size + 1,1,none⟩ (.int .i64 v)).heap[w.heap.size + 1]? = some (.cells #[.int .i64 k,.int .i64 v] 92 (0,0)))∧Hid (Below w.heap.size w ((w1.setCell ⟨w.heap.size + 1,0,none⟩ (.int .i64 k)).setCell ⟨w.heap.size + 1,1,none⟩ (.int .i64 v)))):=fun k v w1 hb => vres w W w1 _ _ hb0 hs h0 hb
 have HKS : Hid (∀ (w3 : World) (x y : Value),Below W.heap.size W w3→((w3.setCell ⟨w.heap.size + 1,0,none⟩ x).setCell ⟨w.heap.size + 1,1,none⟩ y).cell? ⟨w.heap.size,4,none⟩ = some (.slice (some ⟨ab,ao,none⟩) 1 ac)∧((w3.setCell ⟨w.heap.size + 1,0,none⟩ x).setCell ⟨w.heap.size + 1,1,none⟩ y).cell? ⟨ab,ao,none⟩ = some (.int .i64 z)∧((w3.setCell ⟨w.heap.size + 1,0,none⟩ x).setCell ⟨w.heap.size + 1,1,none⟩ y).cell? ⟨w.heap.size,2,none⟩ = some (.int .i64 b)∧((w3.setCell ⟨w.heap.size + 1,0,none⟩ x).setCell ⟨w.heap.size + 1,1,none⟩ y).cell? ⟨rb,b * 2,none⟩ = some (.int .i64 kb)∧((w3.setCell ⟨w.heap.size + 1,0,none⟩ x).setCell ⟨w.heap.size + 1,1,none⟩ y).cell? ⟨rb,b * 2 + 1,none⟩ = some (.int .i64 zb)∧((w3.setCell ⟨w.heap.size + 1,0,none⟩ x).setCell ⟨w.heap.size + 1,1,none⟩ y).cell? ⟨w.heap.size,3,none⟩ = some (.int .i64 c)∧((w3.setCell ⟨w.heap.size + 1,0,none⟩ x).setCell ⟨w.heap.size + 1,1,none⟩ y).cell? ⟨rb,c * 2,none⟩ = some (.int .i64 kc)∧((w3.setCell ⟨w.heap.size + 1,0,none⟩ x).setCell ⟨w.heap.size + 1,1,none⟩ y).cell? ⟨rb,c * 2 + 1,none⟩ = some (.int .i64 zc)):=fun w3 x y hw3 => by
  have kk : ∀ p : Addr,¬ p.block = w.heap.size + 1→((w3.setCell ⟨w.heap.size + 1,0,none⟩ x).setCell ⟨w.heap.size + 1,1,none⟩ y).cell? p = w3.cell? p:=fun p hp => World.cell?_of_block ((Below.heap_setCell _ _ _ _ hp).trans (Below.heap_setCell _ _ _ _ hp))
  obtain ⟨e1,e2,e3,e4,e5,e6,e7,e8⟩:=HC.out w3 hw3
  have hne : ¬ w.heap.size = w.heap.size + 1:=by omega
  exact ⟨(kk _ hne).trans e1,(kk _ hab).trans e2,(kk _ hne).trans e3,(kk _ hrb).trans e4,(kk _ hrb).trans e5,(kk _ hne).trans e6,(kk _ hrb).trans e7,(kk _ hrb).trans e8⟩
 have h1 : (0 : Int) ≤ (b : Int):=by omega
 have h2 : (b : Int) < (n : Int):=by omega
 have h3 : (0 : Int) ≤ (c : Int):=by omega
 have h4 : (c : Int) < (n : Int):=by omega
 clear hb0 hs h0
 go_enter Tryz.func180,Tryz.ntmps180
 go_upto_region 1 with (fail)
 rw [HW.out]
 go_upto_region 8 with (go_at_call 101; refine HF.out.mono ?_; rintro e w1 ⟨rfl,hb1⟩; obtain ⟨q0,q1⟩:=HG.out w1 hb1)
 go_region_held3 (fun w' => w'.cell? ⟨w.heap.size,4,none⟩ = some (.slice (some ⟨ab,ao,none⟩) 1 ac)∧w'.cell? ⟨ab,ao,none⟩ = some (.int .i64 z)∧w'.cell? ⟨w.heap.size,2,none⟩ = some (.int .i64 b)∧w'.cell? ⟨rb,b * 2,none⟩ = some (.int .i64 kb)∧w'.cell? ⟨rb,b * 2 + 1,none⟩ = some (.int .i64 zb)∧w'.cell? ⟨w.heap.size,3,none⟩ = some (.int .i64 c)∧w'.cell? ⟨rb,c * 2,none⟩ = some (.int .i64 kc)∧w'.cell? ⟨rb,c * 2 + 1,none⟩ = some (.int .i64 zc))
  (first | exact HC.out _ hb1.drew | exact HC.out _ (hb1.drew.trans (hb2.mono hb1.size)) | exact HKS.out _ _ _ (hb1.drew.trans (hb2.mono hb1.size)))
  (first | (go_at_call 211; refine (HO.out _).mono ?_; rintro e w2 ⟨k,v,rfl,HPk,hb2⟩; obtain ⟨z0,z1,z2,z3,z4,z5⟩:=HV.out k v w2 (hb1.drew.trans (hb2.mono hb1.size))))
 all_goals
  go_wp2
  refine bodyPost_ret (results_row_tmp rfl _ _ (w.heap.size + 1) 92 _ (0,0) _ rfl z4.out Tryz.underlying92 rfl (by kernel_rfl)) rfl ?_
  exact ⟨_,_,rfl,HPk,z5.out⟩
set_option maxHeartbeats 2000000 in
theorem value_get_no (X g m rb rc n b : Nat) (a c kb zb : Int) (aa : Option Addr) (an ac : Nat) (w W : World) (HW : Hid ((w.alloc (.cells #[.int .i64 4,.int .i64 a,.int .i64 b,.int .i64 c,.slice aa an ac] 84)).alloc (.cells #[.int .i64 0,.int .i64 0] 92) = W))
  (HF : Hid (Calls Tryz.prog 101 #[.pointer (some ⟨X,0,none⟩)] W fun e w' => e = .returned (.pointer (some ⟨g,m * 4,none⟩))∧Below W.heap.size W w'))
  (HFl : Hid (∀ wi,Below W.heap.size W wi→Calls Tryz.prog 179 #[.pointer (some ⟨X,0,none⟩),.agg #[.int .i64 kb,.int .i64 zb],.int .i64 c] wi fun e w' => e = .returned (.pointer none)∧Below wi.heap.size wi w'))
  (HG : Hid (∀ wi,Below W.heap.size W wi→wi.cell? ⟨g,m * 4 + 2,none⟩ = some (.slice (some ⟨rb,0,none⟩) n rc)∧wi.cell? ⟨w.heap.size,0,none⟩ = some (.int .i64 4)))
  (HC : Hid (∀ wi,Below W.heap.size W wi→wi.cell? ⟨w.heap.size,2,none⟩ = some (.int .i64 b)∧wi.cell? ⟨rb,b * 2,none⟩ = some (.int .i64 kb)∧wi.cell? ⟨rb,b * 2 + 1,none⟩ = some (.int .i64 zb)∧wi.cell? ⟨w.heap.size,3,none⟩ = some (.int .i64 c)))
  (hb : b < n) (hb0 : Below w.heap.size w W) (hs : W.heap.size = w.heap.size + 2) (h0 : Box 92 (w.heap.size + 1) W #[.int .i64 0,.int .i64 0]) :
  Calls Tryz.prog 180 #[.pointer (some ⟨X,0,none⟩),.agg #[.int .i64 4,.int .i64 a,.int .i64 b,.int .i64 c,.slice aa an ac]] w fun e w' => e = .returned (.tuple #[.agg #[.int .i64 0,.int .i64 0],.bool false])∧Below w.heap.size w w':=by
 have HV : Hid (∀ w1,Below W.heap.size W w1→w1.cell? ⟨w.heap.size + 1,0,none⟩ = some (.int .i64 0)∧w1.cell? ⟨w.heap.size + 1,1,none⟩ = some (.int .i64 0)∧w1.frozen? ⟨w.heap.size + 1,0,none⟩ = false∧w1.frozen? ⟨w.heap.size + 1,1,none⟩ = false∧Hid (((w1.setCell ⟨w.heap.size + 1,0,none⟩ (.int .i64 0)).setCell ⟨w.heap.size + 1,1,none⟩ (.int .i64 0)).heap[w.heap.size + 1]? = some (.cells #[.int .i64 0,.int .i64 0] 92 (0,0)))∧Hid (Below w.heap.size w ((w1.setCell ⟨w.heap.size + 1,0,none⟩ (.int .i64 0)).setCell ⟨w.heap.size + 1,1,none⟩ (.int .i64 0)))):=fun w1 hb => vres w W w1 _ _ hb0 hs h0 hb
 have h1 : (0 : Int) ≤ (b : Int):=by omega
 have h2 : (b : Int) < (n : Int):=by omega
 clear hb0 hs h0
 go_enter Tryz.func180,Tryz.ntmps180
 go_upto_region 1 with (fail)
 rw [HW.out]
 go_upto_region 11 with (go_at_call 101; refine HF.out.mono ?_; rintro e w1 ⟨rfl,hb1⟩; obtain ⟨q0,q1⟩:=HG.out w1 hb1)
 go_region_held3 (fun w' => w'.cell? ⟨w.heap.size,2,none⟩ = some (.int .i64 b)∧w'.cell? ⟨rb,b * 2,none⟩ = some (.int .i64 kb)∧w'.cell? ⟨rb,b * 2 + 1,none⟩ = some (.int .i64 zb)∧w'.cell? ⟨w.heap.size,3,none⟩ = some (.int .i64 c))
  (first | exact HC.out _ hb1.drew | exact HC.out _ (hb1.drew.trans (hb2.mono hb1.size)))
  (first | (go_at_call 179; refine (HFl.out _ hb1.drew).mono ?_; rintro e w2 ⟨rfl,hb2⟩; obtain ⟨z0,z1,z2,z3,z4,z5⟩:=HV.out w2 (hb1.drew.trans (hb2.mono hb1.size))))
 all_goals
  clear hb1 hb2
  go_wp2
  refine bodyPost_ret (results_row_tmp rfl _ _ (w.heap.size + 1) 92 _ (0,0) _ rfl z4.out Tryz.underlying92 rfl (by kernel_rfl)) rfl ?_
  exact ⟨rfl,z5.out⟩
set_option maxHeartbeats 2000000 in
theorem value_get_yes (X g m rb rc n b xg d : Nat) (a c kb zb k z : Int) (aa : Option Addr) (an ac : Nat) (w W : World) (HW : Hid ((w.alloc (.cells #[.int .i64 4,.int .i64 a,.int .i64 b,.int .i64 c,.slice aa an ac] 84)).alloc (.cells #[.int .i64 0,.int .i64 0] 92) = W))
  (HF : Hid (Calls Tryz.prog 101 #[.pointer (some ⟨X,0,none⟩)] W fun e w' => e = .returned (.pointer (some ⟨g,m * 4,none⟩))∧Below W.heap.size W w'))
  (HFl : Hid (∀ wi,Below W.heap.size W wi→Calls Tryz.prog 179 #[.pointer (some ⟨X,0,none⟩),.agg #[.int .i64 kb,.int .i64 zb],.int .i64 c] wi fun e w' => e = .returned (.pointer (some ⟨xg,d,none⟩))∧Below wi.heap.size wi w'))
  (HG : Hid (∀ wi,Below W.heap.size W wi→wi.cell? ⟨g,m * 4 + 2,none⟩ = some (.slice (some ⟨rb,0,none⟩) n rc)∧wi.cell? ⟨w.heap.size,0,none⟩ = some (.int .i64 4)))
  (HC : Hid (∀ wi,Below W.heap.size W wi→wi.cell? ⟨w.heap.size,2,none⟩ = some (.int .i64 b)∧wi.cell? ⟨rb,b * 2,none⟩ = some (.int .i64 kb)∧wi.cell? ⟨rb,b * 2 + 1,none⟩ = some (.int .i64 zb)∧wi.cell? ⟨w.heap.size,3,none⟩ = some (.int .i64 c)))
  (HD : Hid (∀ wi,Below W.heap.size W wi→wi.cell? ⟨xg,d,none⟩ = some (.int .i64 k)∧wi.cell? ⟨xg,d + 1,none⟩ = some (.int .i64 z)))
  (hb : b < n) (hb0 : Below w.heap.size w W) (hs : W.heap.size = w.heap.size + 2) (h0 : Box 92 (w.heap.size + 1) W #[.int .i64 0,.int .i64 0]) :
  Calls Tryz.prog 180 #[.pointer (some ⟨X,0,none⟩),.agg #[.int .i64 4,.int .i64 a,.int .i64 b,.int .i64 c,.slice aa an ac]] w fun e w' => e = .returned (.tuple #[.agg #[.int .i64 k,.int .i64 z],.bool true])∧Below w.heap.size w w':=by
 have HV : Hid (∀ w1,Below W.heap.size W w1→w1.cell? ⟨w.heap.size + 1,0,none⟩ = some (.int .i64 0)∧w1.cell? ⟨w.heap.size + 1,1,none⟩ = some (.int .i64 0)∧w1.frozen? ⟨w.heap.size + 1,0,none⟩ = false∧w1.frozen? ⟨w.heap.size + 1,1,none⟩ = false∧Hid (((w1.setCell ⟨w.heap.size + 1,0,none⟩ (.int .i64 k)).setCell ⟨w.heap.size + 1,1,none⟩ (.int .i64 z)).heap[w.heap.size + 1]? = some (.cells #[.int .i64 k,.int .i64 z] 92 (0,0)))∧Hid (Below w.heap.size w ((w1.setCell ⟨w.heap.size + 1,0,none⟩ (.int .i64 k)).setCell ⟨w.heap.size + 1,1,none⟩ (.int .i64 z)))):=fun w1 hb => vres w W w1 _ _ hb0 hs h0 hb
 have h1 : (0 : Int) ≤ (b : Int):=by omega
 have h2 : (b : Int) < (n : Int):=by omega
 clear hb0 hs h0
 go_enter Tryz.func180,Tryz.ntmps180
 go_upto_region 1 with (fail)
 rw [HW.out]
 go_upto_region 11 with (go_at_call 101; refine HF.out.mono ?_; rintro e w1 ⟨rfl,hb1⟩; obtain ⟨q0,q1⟩:=HG.out w1 hb1)
 go_region_held3 (fun w' => w'.cell? ⟨w.heap.size,2,none⟩ = some (.int .i64 b)∧w'.cell? ⟨rb,b * 2,none⟩ = some (.int .i64 kb)∧w'.cell? ⟨rb,b * 2 + 1,none⟩ = some (.int .i64 zb)∧w'.cell? ⟨w.heap.size,3,none⟩ = some (.int .i64 c))
  (first | exact HC.out _ hb1.drew | exact HC.out _ (hb1.drew.trans (hb2.mono hb1.size)))
  (first | (go_at_call 179; refine (HFl.out _ hb1.drew).mono ?_; rintro e w2 ⟨rfl,hb2⟩; obtain ⟨z0,z1,z2,z3,z4,z5⟩:=HV.out w2 (hb1.drew.trans (hb2.mono hb1.size)); obtain ⟨d1,d2⟩:=HD.out w2 (hb1.drew.trans (hb2.mono hb1.size))))
 all_goals
  clear hb1 hb2
  go_wp2
  refine bodyPost_ret (results_row_tmp rfl _ _ (w.heap.size + 1) 92 _ (0,0) _ rfl z4.out Tryz.underlying92 rfl (by kernel_rfl)) rfl ?_
  exact ⟨rfl,z5.out⟩
theorem set2_other {w : World} {g d e : Nat} {x y : Value} {p : Addr} (h : ¬ p.block = g) : ((w.setCell ⟨g,d,none⟩ x).setCell ⟨g,e,none⟩ y).cell? p = w.cell? p:=World.cell?_of_block ((Below.heap_setCell _ _ _ _ h).trans (Below.heap_setCell _ _ _ _ h))
set_option maxHeartbeats 2000000 in
theorem value_new (X g m rb rc n : Nat) (a b c k v : Int) (ok : Bool) (aa : Option Addr) (an ac : Nat) (w W : World) (Kp : World→Prop) (HW : Hid ((w.alloc (.cells #[.int .i64 5,.int .i64 a,.int .i64 b,.int .i64 c,.slice aa an ac] 84)).alloc (.cells #[.int .i64 0,.int .i64 0] 92) = W))
  (HF : Hid (Calls Tryz.prog 101 #[.pointer (some ⟨X,0,none⟩)] W fun e w' => e = .returned (.pointer (some ⟨g,m * 4,none⟩))∧Below W.heap.size W w'))
  (HN : Hid (∀ wi,Below W.heap.size W wi→Calls Tryz.prog 212 #[.pointer (some ⟨X,0,none⟩),.int .i64 b] wi fun e w' => e = .returned (.tuple #[.agg #[.int .i64 k,.int .i64 v],.bool ok])∧Hid (Kp w')))
  (HG : Hid (∀ wi,Below W.heap.size W wi→wi.cell? ⟨g,m * 4 + 2,none⟩ = some (.slice (some ⟨rb,0,none⟩) n rc)∧wi.cell? ⟨w.heap.size,0,none⟩ = some (.int .i64 5)))
  (HC : Hid (∀ wi,Below W.heap.size W wi→wi.cell? ⟨w.heap.size,2,none⟩ = some (.int .i64 b)))
  (HK : Hid (∀ wi,Kp wi→wi.cell? ⟨w.heap.size,2,none⟩ = some (.int .i64 b)∧wi.cell? ⟨w.heap.size + 1,0,none⟩ = some (.int .i64 0)∧wi.cell? ⟨w.heap.size + 1,1,none⟩ = some (.int .i64 0)∧wi.frozen? ⟨w.heap.size + 1,0,none⟩ = false∧wi.frozen? ⟨w.heap.size + 1,1,none⟩ = false∧Hid (((wi.setCell ⟨w.heap.size + 1,0,none⟩ (.int .i64 k)).setCell ⟨w.heap.size + 1,1,none⟩ (.int .i64 v)).heap[w.heap.size + 1]? = some (.cells #[.int .i64 k,.int .i64 v] 92 (0,0))))) :
  Calls Tryz.prog 180 #[.pointer (some ⟨X,0,none⟩),.agg #[.int .i64 5,.int .i64 a,.int .i64 b,.int .i64 c,.slice aa an ac]] w fun e w' => e = .returned (.tuple #[.agg #[.int .i64 k,.int .i64 v],.bool ok])∧Hid (∃ w2,Kp w2∧w' = (w2.setCell ⟨w.heap.size + 1,0,none⟩ (.int .i64 k)).setCell ⟨w.heap.size + 1,1,none⟩ (.int .i64 v)):=by
 go_enter Tryz.func180,Tryz.ntmps180
 go_upto_region 1 with (fail)
 rw [HW.out]
 go_upto_region 10 with (go_at_call 101; refine HF.out.mono ?_; rintro e w1 ⟨rfl,hb1⟩; obtain ⟨q0,q1⟩:=HG.out w1 hb1)
 first
  | (go_region_held3 (fun w' => w'.cell? ⟨w.heap.size,2,none⟩ = some (.int .i64 b))
    (first | exact HC.out _ hb1.drew | exact z9 | exact (set2_other (by show ¬ w.heap.size = w.heap.size + 1; omega)).trans z9)
    (first | (go_at_call 212; refine (HN.out _ hb1.drew).mono ?_; rintro e w2 ⟨rfl,HK2⟩; obtain ⟨z9,z0,z1,z2,z3,z4⟩:=HK.out w2 HK2.out)))
  | (have q2:=HC.out w1 hb1; go_wp2_with (go_at_call 212; refine (HN.out _ hb1).mono ?_; rintro e w2 ⟨rfl,HK2⟩; obtain ⟨z9,z0,z1,z2,z3,z4⟩:=HK.out w2 HK2.out))
 all_goals
  try clear hb1
  try go_wp2
  refine bodyPost_ret (results_row_tmp rfl _ _ (w.heap.size + 1) 92 _ (0,0) _ rfl z4.out Tryz.underlying92 rfl (by kernel_rfl)) rfl ?_
  exact ⟨rfl,_,HK2.out,rfl⟩
end Go.Proofs.YtfaokaohhchdhaaGreatDoor
