/- call: its walk, in letters. -/
import Derived.Test.YtipnjoahobplhaaGreatDoorPart19
import Derived.Test.YtipnjoahobplhaaGreatDoorPart7
import Derived.Deep.AppendLies
import Derived.Deep.RegionLaw
import Derived.Laws.MakeOwn
import Derived.Test.YtipnjoahobplhaaGreatDoorPart23
import Derived.Test.YtipnjoahobplhaaGreatDoorPart17
import Derived.Test.YtipnjoahobplhaaGreatDoorVmCopied
namespace Go.Proofs.YtipnjoahobplhaaGreatDoor
open Go.RowKit Go.Maps
theorem made_vals (n : Nat) : (madeCells #[.int .i64 0,.int .i64 0] (n * 2)).toList = flatV (List.replicate n (0,0)):=by
 apply List.ext_getElem?
 intro j
 have hl:=flatV_len (List.replicate n ((0,0) : Int × Int))
 rw [List.length_replicate] at hl
 by_cases hj : j < n * 2
 ·have hi : j / 2 < (List.replicate n ((0,0) : Int × Int)).length:=by rw [List.length_replicate]; omega
  obtain ⟨f0,f1⟩:=flatV_at (List.replicate n (0,0)) (j / 2) hi
  have e0 : fstAt (List.replicate n ((0,0) : Int × Int)) (j / 2) = 0:=by unfold fstAt; rw [List.getD_eq_getElem?_getD,List.getElem?_eq_getElem hi,List.getElem_replicate]; rfl
  have e1 : sndAt (List.replicate n ((0,0) : Int × Int)) (j / 2) = 0:=by unfold sndAt; rw [List.getD_eq_getElem?_getD,List.getElem?_eq_getElem hi,List.getElem_replicate]; rfl
  rw [e0] at f0
  rw [e1] at f1
  have hm : (madeCells #[.int .i64 0,.int .i64 0] (n * 2)).toList[j]? = some (.int .i64 0):=by
   rcases (show j % 2 = 0 ∨ j % 2 = 1 by omega) with h | h <;> simp [madeCells,hj,h]
  rw [hm]
  rcases (show j % 2 = 0 ∨ j % 2 = 1 by omega) with h | h
  ·rw [show j / 2 * 2 = j by omega] at f0; exact f0.symm
  ·rw [show j / 2 * 2 + 1 = j by omega] at f1; exact f1.symm
 ·rw [List.getElem?_eq_none (by rw [Array.length_toList,size_madeCells]; omega),List.getElem?_eq_none (by rw [hl]; omega)]
theorem mkVals (n : Nat) (h : n ≤ 1000) (w : World) : Sem.run Tryz.prog (Instr.makeSlice 35 (.int .i64 n) (.int .i64 n)) w = .ok (.slice (some ⟨w.heap.size,0,none⟩) n n) (w.alloc (.cells (madeCells #[.int .i64 0,.int .i64 0] (n * 2)) 61)):=by
 obtain ⟨i0,hi,hz0,hz1,hz2⟩:=info_parts infoVal
 have hr:=run_make (P:=Tryz.prog) w 35 61 i0 _ Tryz.underlying35 hi hz0 .i64 .i64 n n (by omega) (Int.le_refl _) (by rw [hz2]; omega) (by omega)
 simp only [Int.toNat_natCast,hz1] at hr
 exact hr
theorem made_row (n : Nat) (h : n ≤ 1000) (B : Nat) (w : World) (hB : B ≤ w.heap.size) : VRow B (w.alloc (.cells (madeCells #[.int .i64 0,.int .i64 0] (n * 2)) 61)) (.slice (some ⟨w.heap.size,0,none⟩) n n) (List.replicate n (0,0)):=by
 unfold VRow
 rw [← made_vals,List.length_replicate]
 exact World.ownsRow_lit w _ n hB (by unfold maxLen; omega) (by rw [size_madeCells])
theorem step_frame {ops : Array Oper} {o : Oper} {a : Act} {K : Act→World→Prop} {Q : Exit→Act→World→Prop} {E : Prop} (w : World) (hgd : o.guard = none) (s y : Operand)
  (ho : o.op = .call { callee:=.builtin .append,args:=#[s,y],argTypes:=#[23,23] }) (base n : Nat) (v : Value) (xs : List Value) (p q t : Int) (u : Value) (hs : a.eval s = v) (hown : w.ownsRow base 40 4 v n xs)
  (B : Nat) (hy : a.eval y = .slice (some ⟨B,0,none⟩) 1 1) (hc : w.heap[B]? = some (.cells #[.int .i64 p,.int .i64 q,u,.int .i64 t] 40 (0,0))) (hu : u.oneCell' = true) (hR : n ≤ 100000) (hbase : base ≤ w.heap.size)
  (h : ∀ g cap w2,Hid (w2.ownsRow base 40 4 (.slice (some ⟨g,0,none⟩) (n + 1) cap) (n + 1) (xs ++ [.int .i64 p,.int .i64 q,u,.int .i64 t]))→Hid (w.grownBy w2 v.ownBlock)→K (a.put o.dst (.slice (some ⟨g,0,none⟩) (n + 1) cap)) w2) :
  if Region.wanted o (yielded ops a.tmps) = true then Oper.wp Tryz.prog o a w K Q else E:=by
 obtain ⟨i0,hi,hz0,hz1,hz2⟩:=info_parts infoFrame
 refine step_append_lies _ hgd s y 23 ho base 40 i0 (.agg #[.int .i64 0,.int .i64 0,.slice none 0 0,.int .i64 0]) 4 48 Tryz.underlying23 hi hz0 hz1 hz2 rfl (by decide) v _ _ hs hown ⟨B,0,none⟩ 1 1 [.int .i64 p,.int .i64 q,u,.int .i64 t] hy rfl (World.news_of_block hc) (fun x hx => ?_) (by decide) (by unfold maxLen; omega) (by omega) hbase _ rfl ?_
 ·simp only [List.mem_cons,List.not_mem_nil,or_false] at hx
  rcases hx with rfl | rfl | rfl | rfl
  ·rfl
  ·rfl
  ·exact hu
  ·rfl
 intro g cap w2 h1 h2 _ _
 exact h g cap w2 h1 h2
set_option maxHeartbeats 2000000 in
theorem vcall_no (X : Nat) (op a b c : Int) (aa fa : Option Addr) (an ac fc : Nat) (w W : World) (HW : Hid (w.alloc (.cells #[.int .i64 op,.int .i64 a,.int .i64 b,.int .i64 c,.slice aa an ac] 81) = W))
  (c1 : W.cell? ⟨X,1,none⟩ = some (.slice fa 10 fc)) (HB : Hid (Below w.heap.size w W)) :
  Calls Tryz.prog 104 #[.pointer (some ⟨X,0,none⟩),.agg #[.int .i64 op,.int .i64 a,.int .i64 b,.int .i64 c,.slice aa an ac]] w fun e w' => e = .returned (.bool false)∧Below w.heap.size w w':=by
 go_enter Tryz.func104,Tryz.ntmps104
 go_upto_region 1 with (fail)
 rw [HW.out]
 go_wp2
 go_ret
 exact ⟨rfl,HB.out⟩
def argTo (n : Nat) (z : Nat→Int) (from' : List (Int × Int)) (j : Nat) : List (Int × Int):=(List.range n).map fun k => if k < j then regAt from' (z k) else (0,0)
theorem argTo_zero (n : Nat) (z : Nat→Int) (L : List (Int × Int)) : argTo n z L 0 = List.replicate n (0,0):=by
 unfold argTo
 apply List.ext_getElem (by simp)
 intro i h1 h2
 simp
theorem argTo_len (n : Nat) (z : Nat→Int) (L : List (Int × Int)) (j : Nat) : (argTo n z L j).length = n:=by simp [argTo]
theorem argTo_step (n : Nat) (z : Nat→Int) (L : List (Int × Int)) (j : Nat) : (argTo n z L j).set j (regAt L (z j)) = argTo n z L (j + 1):=by
 apply List.ext_getElem?
 intro k
 rw [List.getElem?_set]
 unfold argTo
 by_cases hk : k < n
 ·by_cases e : j = k
  ·subst e; simp [hk]
  ·rw [if_neg e]
   simp only [List.getElem?_map,List.getElem?_range hk,Option.map_some]
   by_cases h : k < j
   ·rw [if_pos h,if_pos (by omega)]
   ·rw [if_neg h,if_neg (by omega)]
 ·have h1 : ¬ k < (List.map (fun k => if k < j then regAt L (z k) else (0,0)) (List.range n)).length:=by simp; omega
  rw [List.getElem?_eq_none (by simpa using hk),List.getElem?_eq_none (by simpa using hk)]
  split
  ·simp; omega
  ·rfl
set_option maxRecDepth 20000 in
set_option maxHeartbeats 4000000 in
theorem vcall_core (X g m cap rb rc n nr a b pb poo np pc : Nat) (z : Nat→Int) (L : List (Int × Int)) (XS : List Value) (Bb : Nat) (c : Int) (aa : Option Addr) (an ac : Nat) (w W : World) (M : Nat) (HM : Hid (W.heap.size = M)) (Kp : World→Prop)
  (HW : Hid (w.alloc (.cells #[.int .i64 7,.int .i64 a,.int .i64 b,.int .i64 c,.slice aa an ac] 81) = W))
  (HF : Hid (∀ wi,Below M W wi→Calls Tryz.prog 83 #[.pointer (some ⟨X,0,none⟩)] wi fun e w' => e = .returned (.pointer (some ⟨g,m * 4,none⟩))∧Below wi.heap.size wi w'))
  (HC : Hid (∀ wi,Below M W wi→wi.cell? ⟨X,1,none⟩ = some (.slice (some ⟨g,0,none⟩) (m + 1) cap)∧wi.cell? ⟨X,0,none⟩ = some (.slice (some ⟨pb,poo,none⟩) np pc)∧wi.cell? ⟨g,m * 4 + 2,none⟩ = some (.slice (some ⟨rb,0,none⟩) n rc)∧wi.cell? ⟨w.heap.size,2,none⟩ = some (.int .i64 b)∧wi.cell? ⟨w.heap.size,1,none⟩ = some (.int .i64 a)∧wi.cell? ⟨w.heap.size,4,none⟩ = some (.slice aa an ac)∧wi.cell? ⟨pb,poo + b * 3 + 1,none⟩ = some (.int .i64 nr)))
  (HA : Hid (∀ j,j < an→j < nr∧∃ ab ao zj,aa = some ⟨ab,ao,none⟩∧z j = ((zj : Nat) : Int)∧zj < n∧∀ wi,Below M W wi→wi.cell? ⟨ab,ao + j,none⟩ = some (.int .i64 zj)∧wi.cell? ⟨rb,zj * 2,none⟩ = some (.int .i64 (L.getD zj (0,0)).1)∧wi.cell? ⟨rb,zj * 2 + 1,none⟩ = some (.int .i64 (L.getD zj (0,0)).2)))
  (HO : Hid (∀ wi,Below M W wi→wi.ownsRow Bb 40 4 (.slice (some ⟨g,0,none⟩) (m + 1) cap) (m + 1) XS∧Bb ≤ wi.heap.size))
  (HFin : Hid (∀ D V o g' cap' w2,M ≤ D→Below M W V→VRow M V (.slice (some ⟨D,0,none⟩) nr nr) (argTo nr z L an)→w2.ownsRow Bb 40 4 (.slice (some ⟨g',0,none⟩) (m + 1 + 1) cap') (m + 1 + 1) (XS ++ [.int .i64 b,.int .i64 0,.slice (some ⟨D,0,none⟩) nr nr,.int .i64 a])→((V.alloc o).drew).grownBy w2 (some g)→w2.cell? ⟨X,1,none⟩ = some (.slice (some ⟨g,0,none⟩) (m + 1) cap)∧w2.frozen? ⟨X,1,none⟩ = false∧Hid (Kp (w2.setCell ⟨X,1,none⟩ (.slice (some ⟨g',0,none⟩) (m + 1 + 1) cap')))))
  (HX : Hid (X < M)) (hm1 : m ≤ 1000)
  (hb : b < np) (hm : ¬ ((m : Int) + 1 == 10) = true) (hnr : nr ≤ 1000) :
  Calls Tryz.prog 104 #[.pointer (some ⟨X,0,none⟩),.agg #[.int .i64 7,.int .i64 a,.int .i64 b,.int .i64 c,.slice aa an ac]] w fun e w' => e = .returned (.bool true)∧Hid (Kp w'):=by
 have hmb : ((m : Int) + 1 == 10) = false:=by simpa using hm
 have h1 : (0 : Int) ≤ (b : Int):=by omega
 have h2 : (b : Int) < (np : Int):=by omega
 obtain ⟨k1,k2,k3,k4,k5,k6,k7⟩:=HC.out W (Below.refl _ _)
 have hmk:=mkVals nr hnr
 go_enter Tryz.func104,Tryz.ntmps104
 go_upto_region 1 with (fail)
 rw [HW.out]
 clear hm
 go_upto_region 3 with (fail)
 clear k1 k2 k3 k4 k5 k6 k7
 have HS : Hid (∀ wi,Below M W wi→wi.cell? ⟨X,0,none⟩ = some (.slice (some ⟨pb,poo,none⟩) np pc)∧wi.cell? ⟨g,m * 4 + 2,none⟩ = some (.slice (some ⟨rb,0,none⟩) n rc)∧wi.cell? ⟨w.heap.size,2,none⟩ = some (.int .i64 b)∧wi.cell? ⟨pb,poo + b * 3 + 1,none⟩ = some (.int .i64 nr)):=fun wi hw => by
  obtain ⟨_,k2,k3,k4,_,_,k7⟩:=HC.out wi hw
  exact ⟨k2,k3,k4,k7⟩
 have HWS : Hid (∀ V,Below M W V→M ≤ V.heap.size):=fun V h => (by have:=HM.out; have:=h.size; omega)
 have HAl : Hid (∀ wi o,Below M W wi→Below M W (wi.alloc o)):=fun wi o hw => below_up hw (below_alloc _ _) (Nat.le_of_eq HM.out.symm)
 have HUp : Hid (∀ wi wj,Below M W wi→Below wi.heap.size wi wj→Below M W wj):=fun wi wj hw hk => below_up hw hk (Nat.le_of_eq HM.out.symm)
 go_region_held3 (fun w' => w'.cell? ⟨X,0,none⟩ = some (.slice (some ⟨pb,poo,none⟩) np pc)∧w'.cell? ⟨g,m * 4 + 2,none⟩ = some (.slice (some ⟨rb,0,none⟩) n rc)∧w'.cell? ⟨w.heap.size,2,none⟩ = some (.int .i64 b)∧w'.cell? ⟨pb,poo + b * 3 + 1,none⟩ = some (.int .i64 nr))
  (first | exact HS.out _ (Below.refl _ _).drew | exact HS.out _ hb5 | exact HS.out _ (HAl.out _ _ (Below.refl _ _).drew) | exact HS.out _ (HAl.out _ _ hb5) | exact HS.out _ ((HAl.out _ _ (Below.refl _ _)).drew))
  (first
   | (go_at_call 83; refine (HF.out _ (Below.refl _ _).drew).mono ?_; rintro e w5 ⟨rfl,hb5'⟩; have hb5 : Below M W w5:=HUp.out _ _ (Below.refl _ _).drew hb5')
   | (go_at_call 83; refine (HF.out _ (HAl.out _ _ (Below.refl _ _)).drew).mono ?_; rintro e w5 ⟨rfl,hb5'⟩; have hb5 : Below M W w5:=HUp.out _ _ (HAl.out _ _ (Below.refl _ _)).drew hb5'))
 have HV0 : Hid (Below M W (w5.alloc (.cells (madeCells #[.int .i64 0,.int .i64 0] (nr * 2)) 61))):=HAl.out _ _ hb5
 have HR0 : Hid (VRow M (w5.alloc (.cells (madeCells #[.int .i64 0,.int .i64 0] (nr * 2)) 61)) (.slice (some ⟨w5.heap.size,0,none⟩) nr nr) (argTo nr z L 0)):=by
  rw [argTo_zero]; exact made_row nr hnr _ w5 (by have:=HM.out; have:=hb5.size; omega)
 have HD : Hid (M ≤ w5.heap.size):=(by show _ ≤ _; have:=HM.out; have:=hb5.size; omega)
 clear hb5 hb5' hmk
 generalize w5.alloc (.cells (madeCells #[.int .i64 0,.int .i64 0] (nr * 2)) 61) = V at *
 generalize w5.heap.size = D at *
 rotate_left
 have HV0 : Hid (Below M W w5):=hb5
 have HR0 : Hid (VRow M w5 (.slice (some ⟨W.heap.size,0,none⟩) nr nr) (argTo nr z L 0)):=by
  rw [argTo_zero]
  refine ownsRow_block (made_row nr hnr M W (by have:=HM.out; omega)) fun g hg => hb5'.block g ?_
  cases hg
  show W.heap.size < (W.alloc _).heap.size
  simp
 have HD : Hid (M ≤ W.heap.size):=(by show _ ≤ _; have:=HM.out; omega)
 clear hb5 hb5' hmk HM
 generalize W.heap.size = D at *
 generalize w5 = V at *
 rotate_right
 all_goals
  have k6:=(HC.out V HV0.out).2.2.2.2.2.1
  clear HS HAl HF HUp
  try clear hHeld
  go_upto_region 4 with (fail)
  go_wp2
  clear k6
  go_loopw [34] (fun q wr => ∃ j : Nat,j ≤ an∧q = .int .i64 j∧Hid (Below M W wr)∧Hid (VRow M wr (.slice (some ⟨D,0,none⟩) nr nr) (argTo nr z L j))) (fun q _ => an - (intOf q).toNat)
  case atStart => exact ⟨0,by omega,rfl,HV0,HR0⟩
  case round =>
   clear HV0 HR0
   obtain ⟨j,hj,rfl,HB,HR⟩:=hrel
   by_cases hlt : j < an
   ·obtain ⟨hjn,ab,ao,zj,rfl,hzj,hzn,hcl⟩:=HA.out j hlt
    obtain ⟨x0,x1,x2⟩:=hcl wr HB.out
    clear hcl
    obtain ⟨y1,y2,-,y4,y5⟩:=HR.out.vals
    rw [argTo_len] at y1
    obtain ⟨u1,z1⟩ : ∃ u,wr.cell? ⟨D,j * 2,none⟩ = some u:=⟨_,(y1 j hjn).1⟩
    obtain ⟨u2,z2⟩ : ∃ u,wr.cell? ⟨D,j * 2 + 1,none⟩ = some u:=⟨_,(y1 j hjn).2⟩
    have y21:=y2 (j * 2)
    have y22:=y2 (j * 2 + 1)
    have i1 : (0 : Int) ≤ (zj : Int):=by omega
    have i2 : (zj : Int) < (n : Int):=by omega
    have i3 : (j : Int) < (nr : Int):=by omega
    have HR2 : Hid (VRow M ((wr.setCell ⟨D,j * 2,none⟩ (.int .i64 (L.getD zj (0,0)).1)).setCell ⟨D,j * 2 + 1,none⟩ (.int .i64 (L.getD zj (0,0)).2)) (.slice (some ⟨D,0,none⟩) nr nr) (argTo nr z L (j + 1))):=by
     have h:=HR.out.set (k:=j) (by rw [argTo_len]; exact hjn) (L.getD zj (0,0))
     have e:=argTo_step nr z L j
     unfold regAt at e
     rw [hzj,Int.toNat_natCast] at e
     rw [e] at h
     exact h
    have HB2 : Hid (Below M W ((wr.setCell ⟨D,j * 2,none⟩ (.int .i64 (L.getD zj (0,0)).1)).setCell ⟨D,j * 2 + 1,none⟩ (.int .i64 (L.getD zj (0,0)).2))):=(HB.out.setCell HD.out _).setCell HD.out _
    have HBd : Hid (∀ wi,Below M W wi→Below M W wi.drew):=fun wi h => h.drew
    clear y1 y2 y4 y5 hzj HB HR HA HFin HO
    generalize (L.getD zj (0,0)).1 = v1 at *
    generalize (L.getD zj (0,0)).2 = v2 at *
    go_wp2
    go_roundw
    case rel => exact ⟨j + 1,by omega,by go_num,HB2,HR2⟩
    case measure => simp [intOf]; omega
   ·obtain rfl : j = an:=by omega
    have c1:=(HC.out wr HB.out).1
    have q2:=(HC.out wr HB.out).2.2.2.1
    have q1:=(HC.out wr HB.out).2.2.2.2.1
    have HOw:=HO.out wr HB.out
    have HOw : Hid (wr.ownsRow Bb 40 4 (.slice (some ⟨g,0,none⟩) (m + 1) cap) (m + 1) XS∧Bb ≤ wr.heap.size):=HOw
    have HXw : Hid (X < wr.heap.size):=Nat.lt_of_lt_of_le HX.out (HWS.out _ HB.out)
    have c1a : ∀ o : Obj,(wr.alloc o).cell? ⟨X,1,none⟩ = some (.slice (some ⟨g,0,none⟩) (m + 1) cap):=fun o => ((below_alloc wr o).cell (p:=⟨X,1,none⟩) HXw.out).trans c1
    have HF2:=HFin.out D wr
    have HF2 : Hid (∀ o g' cap' w2,w2.ownsRow Bb 40 4 (.slice (some ⟨g',0,none⟩) (m + 1 + 1) cap') (m + 1 + 1) (XS ++ [.int .i64 b,.int .i64 0,.slice (some ⟨D,0,none⟩) nr nr,.int .i64 a])→((wr.alloc o).drew).grownBy w2 (some g)→w2.cell? ⟨X,1,none⟩ = some (.slice (some ⟨g,0,none⟩) (m + 1) cap)∧w2.frozen? ⟨X,1,none⟩ = false∧Hid (Kp (w2.setCell ⟨X,1,none⟩ (.slice (some ⟨g',0,none⟩) (m + 1 + 1) cap')))):=fun o g' cap' w2 h1 h2 => HF2 o g' cap' w2 HD.out HB.out HR.out h1 h2
    have HM1 : Hid (m ≤ 1000):=hm1
    clear HA HFin HO HR HB HC
    go_upto_region 9 with (fail)
    go_region_law (refine step_frame _ rfl _ _ rfl Bb (m + 1) _ XS b 0 a _ rfl (World.ownsRow.alloc HOw.out.1 _) _ rfl (heap_alloc_new _ _) rfl (by have:=HM1.out; omega) (Nat.le_trans HOw.out.2 (below_alloc wr _).size) ?_; intro g' cap' w2 hown hgr; obtain ⟨q5,q6,q7⟩:=HF2.out _ g' cap' w2 hown.out hgr.out)
    all_goals
     go_wp2
     go_ret
     exact ⟨rfl,q7⟩
theorem Own.setX {X B : Nat} {w w' : World} {fv cv : Value} {rv xv : List Value} {S : Sta} {cur : Array Value} (h : Own B w fv cv rv xv S) (hX : w.heap[X]? = some (.cells cur 78 (0,0))) (hk : ∀ k,¬ k = X→w'.heap[k]? = w.heap[k]?) : Own B w' fv cv rv xv S:=by
 have kind : ∀ {e size v n xs g'},w.ownsRow B e size v n xs→¬ e = 78→Value.ownBlock v = some g'→¬ g' = X:=fun hr hne hg e2 => by
  obtain ⟨c,fz,k⟩:=Lib.ownsRow_kind hr _ hg
  rw [e2,hX] at k
  injection k with k
  injection k with _ k2 _
  exact hne k2.symm
 have go : ∀ {e size v n xs},w.ownsRow B e size v n xs→¬ e = 78→w'.ownsRow B e size v n xs:=fun hr hne => ownsRow_block hr fun k hk2 => hk k (kind hr hne hk2)
 exact ⟨go h.fr (by decide),go h.ce (by decide),h.rl,fun i hi => (by obtain ⟨u,h1,h2⟩:=h.regs i hi; exact ⟨u,h1,go h2 (by decide)⟩),fun i hi => (by obtain ⟨u,h1,h2⟩:=h.cells i hi; exact ⟨u,h1,go h2 (by decide)⟩),h.rr,h.xx,h.rx⟩
theorem callC {np : Nat} {P : Nat→Pc} : CallC np P:=by
 intro M X B i aa ac w pv R hc hs hst h hp hM ho hi hav
 have hBw:=h.le
 obtain ⟨fv,cv,sv,rv,xv,h⟩:=h
 have hn : ¬ R.s.fs.length = 0:=hs.unfin (by omega)
 have ht:=hs.top hn
 have hlen:=ht.len
 have hfew:=hs.few
 have hr0:=hc.r0 _ (show (topF R.s).proc.toNat < np by have:=ht.p0; have:=ht.p1; omega)
 obtain ⟨g,m,cap,rb,rc,rfl,hfl,hrv,T⟩:=h.top hn (by omega)
 obtain ⟨W,hW,b0,hsz,i0,i1,i2,i3,i4⟩:=ibox w i.op i.a i.b i.c (.slice aa i.n ac)
 obtain ⟨hb0,hb1,hpar,hargs⟩:=hi.cal ho
 obtain ⟨b,hb⟩:=nat_of hb0
 obtain ⟨a,ha⟩:=nat_of (hi.ra (by omega) (by omega)).1
 have hbn : b < np:=by omega
 have hdo : doM P R.s i = if R.s.fs.length = 10 then none else some (callS P R.s i,[],false):=by
  unfold doM; rw [if_neg (by omega),if_pos ho]
 rw [hdo]
 obtain ⟨_,c1,_⟩:=(h.below b0).cells
 by_cases h10 : R.s.fs.length = 10
 ·rw [if_pos h10]
  obtain rfl : m = 9:=by omega
  refine (vcall_no X i.op i.a i.b i.c aa _ i.n ac cap w W hW c1 b0).mono ?_
  rintro e w' ⟨rfl,hb⟩
  exact Or.inl ⟨rfl,rfl,hb⟩
 ·rw [if_neg h10]
  obtain ⟨pb,poo,pc,cb,co,cc,_,_,rfl,hpb,hcb,p1,_⟩:=hp.ins hbn (j:=0) (by have:=hc.c0 b hbn; omega)
  have hr1:=hc.r1 b hbn
  have hr2:=hc.r0 b hbn
  have hp1:=hc.par1 b hbn
  obtain ⟨nr,hnr⟩:=nat_of (show 0 ≤ (P b).regs by omega)
  rw [hnr] at p1
  have hup : ∀ wi,Below W.heap.size W wi→Below w.heap.size w wi:=fun wi hw => below_step b0 hw
  have hL : ((topF R.s).regs.length : Int) = (procS P R.s).regs:=hlen
  have hBW : B ≤ W.heap.size:=Nat.le_trans hBw b0.size
  have hgB:=T.gB
  have hgl : g < w.heap.size:=(h.own.fr.lt g rfl).2
  have hcallS : callS P R.s i = ⟨R.s.fs ++ [⟨i.b,0,argTo nr i.z (topF R.s).regs i.n,i.a⟩],R.s.cs,R.s.st,R.s.wh⟩:=by
   unfold callS
   rw [hb,Int.toNat_natCast,hnr,Int.toNat_natCast]; rfl
  rw [ho,ha,hb] at hW ⊢
  refine (vcall_core X g m cap rb rc (topF R.s).regs.length nr a b pb poo np pc i.z (topF R.s).regs (flatF R.s.fs rv) B i.c aa i.n ac w W W.heap.size rfl (fun w' => RA X B w' (.slice (some ⟨pb,poo,none⟩) np pc) ⟨callS P R.s i,R.said ++ [],R.paused || false⟩∧Below B w w') hW
   (fun wi hw => vframe X B wi _ cv sv g m cap rv xv R (h.below (hup wi hw)) (by omega))
   (fun wi hw => ?_) (fun j hj => ?_) (fun wi hw => ?_) ?_ (Nat.lt_of_lt_of_le h.lt b0.size) (by omega) hbn (by simp; omega) (by omega)).mono ?_
  ·obtain ⟨k0,k1,_⟩:=(h.below (hup wi hw)).cells
   refine ⟨k1,k0,(T.below (hup wi hw)).c2,?_,?_,below_at hw i4,below_at (hup wi hw) p1⟩
   ·rw [← hb]; exact below_at hw i2
   ·rw [← ha]; exact below_at hw i1
  ·obtain ⟨z0,z1⟩:=hargs j hj
   obtain ⟨zj,hzj⟩:=nat_of z0
   have hzn : zj < (topF R.s).regs.length:=by omega
   obtain ⟨aa',ac',e,_,hz | ⟨ab,ao,rfl,hab,hcl⟩⟩:=hav
   ·omega
   ·injection e with e1 _ _
    refine ⟨by have : ((i.n : Nat) : Int) ≤ nr:=(by rw [hpar,hb,Int.toNat_natCast]; omega); omega,ab,ao,zj,e1,hzj,hzn,fun wi hw => ⟨?_,(T.below (hup wi hw)).r0 zj hzn,(T.below (hup wi hw)).r1 zj hzn⟩⟩
    have:=hcl j hj
    rw [hzj] at this
    exact below_at (hup wi hw) this
  ·have:=(h.below (hup wi hw)).own.fr
   rw [hfl] at this
   exact ⟨this,Nat.le_trans hBW hw.size⟩
  ·show ∀ D V o g' cap' w2,_
   intro D V o g' cap' w2 hMD hVb hrow hown hgr
   have hRW:=h.below b0
   have hXW:=hRW.lt
   have hVs:=hVb.size
   have hot : ∀ k,k < V.heap.size→¬ k = g→w2.heap[k]? = V.heap[k]?:=fun k hk hne => by
    rw [hgr.block k (Nat.lt_of_lt_of_le hk (below_alloc V o).size) (fun e => hne (by injection e))]
    exact (below_alloc V o).block k hk
   have hoW : ∀ k,k < W.heap.size→¬ k = g→w2.heap[k]? = W.heap[k]?:=fun k hk hne => (hot k (by omega) hne).trans (hVb.block k hk)
   have hXg : ¬ X = g:=fun e => hRW.apart hRW.own.fr (by decide) (g:=g) rfl e.symm
   have hbx : w2.heap[X]? = W.heap[X]?:=hoW X hXW hXg
   have hDl : D < V.heap.size:=(hrow.lt D rfl).2
   have ho2 : Own B w2 (.slice (some ⟨g',0,none⟩) (m + 1 + 1) cap') cv (rv ++ [.slice (some ⟨D,0,none⟩) nr nr]) xv (callS P R.s i):=by
    rw [hcallS]
    refine hRW.own.push ?_ ?_ (fun k hk => ?_) fun k _ hk hne => hoW k hk fun e => hne (by rw [e]; rfl)
    ·rw [hfl,ha,hb]; exact hown
    ·exact ownsRow_lower (ownsRow_block hrow fun k hk => by
      injection hk with hk
      subst hk
      exact hot D hDl (by have:=b0.size; omega)) hBW
    ·have hDk : D = k:=Option.some.inj (show some D = some k from hk)
     omega
   have hsd2 : w2.ownsRow B 3 1 sv R.said.length (R.said.map (Value.int .i64)):=ownsRow_block hRW.sd fun k hk => hoW k (hRW.sd.lt k hk).2 fun e => ownsRow_apart hRW.sd hRW.own.fr (by decide) hk (by rw [e]; rfl)
   have hbox:=hbx.trans hRW.box
   obtain ⟨_,k1,_,_,_,_,_,k7⟩:=hRW.cells
   refine ⟨(World.cell?_of_block (w:=W) (a:=⟨X,1,none⟩) hbx).trans k1,(World.frozen?_of_block (w:=W) (a:=⟨X,1,none⟩) hbx).trans (k7 1),?_,?_⟩
   ·have hb2:=heap_setCell_same w2 X 1 _ _ (.slice (some ⟨g',0,none⟩) (m + 1 + 1) cap') hbox
    have hk : ∀ k,¬ k = X→(w2.setCell ⟨X,1,none⟩ (.slice (some ⟨g',0,none⟩) (m + 1 + 1) cap')).heap[k]? = w2.heap[k]?:=fun k hk => Below.heap_setCell _ _ _ k hk
    rw [List.append_nil,Bool.or_false]
    refine ⟨_,_,sv,_,_,?_,ho2.setX hbox hk,?_,h.hX⟩
    ·exact hb2
    ·exact ownsRow_block hsd2 fun k hkk => hk k fun e => by
      obtain ⟨c,fz,q⟩:=Lib.ownsRow_kind hsd2 k hkk
      rw [e,hbox] at q
      injection q with q
      injection q with _ q _
      exact absurd q (by decide)
   ·have b2 : Below B V w2:=(((below_alloc V o).mono (Nat.le_trans hBW hVs)).drew).grown hgr (by show B ≤ (V.alloc o).heap.size; exact Nat.le_trans (Nat.le_trans hBW hVs) (below_alloc V o).size) (fun k hk => by injection hk with hk; omega)
    exact ((b0.mono hBw).trans ((hVb.mono hBW).trans b2)).setCell h.hX _
  ·rintro e w' ⟨rfl,hk⟩
   exact Or.inr ⟨_,rfl,rfl,hk.out.1,hk.out.2⟩
def StaPost (w : World) (S' : Sta) (e : Ending) (w' : World) : Prop :=
 ∃ fa nf fc ca nc cc rv xv,e = .returned (.tuple #[.agg #[.slice fa nf fc,.slice ca nc cc,.int .i64 S'.st,.int .i64 S'.wh],.int .i64 0])∧Own w.heap.size w' (.slice fa nf fc) (.slice ca nc cc) rv xv S'∧Below w.heap.size w w'
def noSta (er : Int) : Ending:=.returned (.tuple #[.agg #[.slice none 0 0,.slice none 0 0,.int .i64 0,.int .i64 0],.int .i64 er])
set_option maxRecDepth 20000 in
set_option maxHeartbeats 2000000 in
theorem vmNew_good (pb poo np pc n : Nat) (w W : World) (HW : Hid (w.alloc (.cells #[.slice none 0 0,.slice none 0 0,.int .i64 0,.int .i64 0] 26) = W)) (HC : Hid (Calls Tryz.prog 38 #[.slice (some ⟨pb,poo,none⟩) np pc] W fun e w' => e = .returned (.int .i64 0)∧Below W.heap.size W w')) (HY : Hid (Box4 26 w.heap.size W (.slice none 0 0) (.slice none 0 0) (.int .i64 0) (.int .i64 0))) (HYs : Hid (w.heap.size < W.heap.size)) (HB : Hid (Below w.heap.size w W))
  (HR : Hid (∀ wi,Below W.heap.size W wi→wi.cell? ⟨pb,poo + 1,none⟩ = some (.int .i64 n))) (hnp : 0 < np) (hn : n ≤ 1000) :
  Calls Tryz.prog 13 #[.slice (some ⟨pb,poo,none⟩) np pc] w (StaPost w ⟨[⟨0,0,List.replicate n (0,0),0⟩],[],0,0⟩):=by
 have hmk:=mkVals n hn
 have hi0 : (0 : Int) < (np : Int):=by omega
 have HN : Hid (n ≤ 1000):=hn
 go_enter Tryz.func13,Tryz.ntmps13
 go_upto_region 1 with (fail)
 rw [HW.out]
 go_upto_region 4 with (go_at_call 38; refine HC.out.mono ?_; rintro e w1 ⟨rfl,hb1⟩)
 have q0:=HR.out w1 hb1
 have HB1 : Hid (Below w.heap.size w w1):=below_step HB.out hb1
 have HY1 : Hid (∀ wi,Below w1.heap.size w1 wi→Box4 26 w.heap.size wi (.slice none 0 0) (.slice none 0 0) (.int .i64 0) (.int .i64 0)):=fun wi hw => HY.out.keep ((hw.block _ (Nat.lt_of_lt_of_le HYs.out hb1.size)).trans (hb1.block _ HYs.out))
 have HA : Hid (∀ o o',Below w1.heap.size w1 ((w1.alloc o).alloc o')):=fun o o' => below_step (below_alloc _ _) (below_alloc _ _)
 have a0:=fun o o' => (HY1.out _ (HA.out o o')).at.1
 have a1:=fun o o' => (HY1.out _ (HA.out o o')).at.2.1
 have a2:=fun o o' => (HY1.out _ (HA.out o o')).at.2.2.1
 have a3:=fun o o' => (HY1.out _ (HA.out o o')).at.2.2.2.1
 have a40:=fun o o' => (HY1.out _ (HA.out o o')).at.2.2.2.2 0
 have a41:=fun o o' => (HY1.out _ (HA.out o o')).at.2.2.2.2 1
 have a42:=fun o o' => (HY1.out _ (HA.out o o')).at.2.2.2.2 2
 have a43:=fun o o' => (HY1.out _ (HA.out o o')).at.2.2.2.2 3
 have HF : Hid (∀ o o' x,((((((w1.alloc o).alloc o').setCell ⟨w.heap.size,0,none⟩ x).setCell ⟨w.heap.size,1,none⟩ (.slice none 0 0)).setCell ⟨w.heap.size,2,none⟩ (.int .i64 0)).setCell ⟨w.heap.size,3,none⟩ (.int .i64 0)).heap[w.heap.size]? = some (.cells #[x,.slice none 0 0,.int .i64 0,.int .i64 0] 26 (0,0))):=fun o o' x => by
  have h0:=HY1.out _ (HA.out o o')
  unfold Box4 at h0
  have h1:=heap_setCell_same _ w.heap.size 0 _ _ x h0
  have h2:=heap_setCell_same _ w.heap.size 1 _ _ (.slice none 0 0) h1
  have h3:=heap_setCell_same _ w.heap.size 2 _ _ (.int .i64 0) h2
  exact heap_setCell_same _ w.heap.size 3 _ _ (.int .i64 0) h3
 have HE : Hid (∀ x,Own w.heap.size ((((((w1.alloc (.cells (madeCells #[.int .i64 0,.int .i64 0] (n * 2)) 61)).alloc (.cells #[.int .i64 0,.int .i64 0,.slice (some ⟨w1.heap.size,0,none⟩) n n,.int .i64 0] 40)).setCell ⟨w.heap.size,0,none⟩ x).setCell ⟨w.heap.size,1,none⟩ (.slice none 0 0)).setCell ⟨w.heap.size,2,none⟩ (.int .i64 0)).setCell ⟨w.heap.size,3,none⟩ (.int .i64 0)) (.slice (some ⟨w1.heap.size + 1,0,none⟩) 1 1) (.slice none 0 0) [.slice (some ⟨w1.heap.size,0,none⟩) n n] [] ⟨[⟨0,0,List.replicate n (0,0),0⟩],[],0,0⟩):=fun x => by
  have hYl : w.heap.size < w1.heap.size:=Nat.lt_of_lt_of_le HYs.out hb1.size
  have hs1 : (w1.alloc (.cells (madeCells #[.int .i64 0,.int .i64 0] (n * 2)) 61)).heap.size = w1.heap.size + 1:=by simp
  have r1 : VRow (w.heap.size + 1) ((w1.alloc (.cells (madeCells #[.int .i64 0,.int .i64 0] (n * 2)) 61)).alloc (.cells #[.int .i64 0,.int .i64 0,.slice (some ⟨w1.heap.size,0,none⟩) n n,.int .i64 0] 40)) (.slice (some ⟨w1.heap.size,0,none⟩) n n) (List.replicate n (0,0)):=World.ownsRow.alloc (made_row n HN.out (w.heap.size + 1) w1 (by omega)) _
  have r2 : World.ownsRow ((w1.alloc (.cells (madeCells #[.int .i64 0,.int .i64 0] (n * 2)) 61)).alloc (.cells #[.int .i64 0,.int .i64 0,.slice (some ⟨w1.heap.size,0,none⟩) n n,.int .i64 0] 40)) (w.heap.size + 1) 40 4 (.slice (some ⟨w1.heap.size + 1,0,none⟩) 1 1) 1 [.int .i64 0,.int .i64 0,.slice (some ⟨w1.heap.size,0,none⟩) n n,.int .i64 0]:=by
   have:=World.ownsRow_lit (w1.alloc (.cells (madeCells #[.int .i64 0,.int .i64 0] (n * 2)) 61)) (base:=w.heap.size + 1) (e:=40) (size:=4) #[.int .i64 0,.int .i64 0,.slice (some ⟨w1.heap.size,0,none⟩) n n,.int .i64 0] 1 (by omega) (by decide) rfl
   rw [hs1] at this
   exact this
  have hO : Own (w.heap.size + 1) ((w1.alloc (.cells (madeCells #[.int .i64 0,.int .i64 0] (n * 2)) 61)).alloc (.cells #[.int .i64 0,.int .i64 0,.slice (some ⟨w1.heap.size,0,none⟩) n n,.int .i64 0] 40)) (.slice (some ⟨w1.heap.size + 1,0,none⟩) 1 1) (.slice none 0 0) [.slice (some ⟨w1.heap.size,0,none⟩) n n] [] ⟨[⟨0,0,List.replicate n (0,0),0⟩],[],0,0⟩:=by
   refine ⟨r2,World.ownsRow_nil _ _ _ _,rfl,fun i hi => ?_,fun i hi => absurd hi (Nat.not_lt_zero _),fun i j u u' b hi hj _ _ => ?_,fun i j u u' b hi => by simp at hi,fun i j u u' b _ hj => by simp at hj⟩
   ·have hi : i < 1:=hi
    obtain rfl : i = 0:=by omega
    exact ⟨_,rfl,r1⟩
   ·have h1:=(List.getElem?_eq_some_iff.1 hi).1
    have h2:=(List.getElem?_eq_some_iff.1 hj).1
    simp only [List.length_cons,List.length_nil] at h1 h2
    omega
  refine (hO.stay fun k hk _ => ?_).lower (by omega)
  have hne : ¬ k = w.heap.size:=by omega
  exact (((Below.heap_setCell _ _ _ _ hne).trans (Below.heap_setCell _ _ _ _ hne)).trans (Below.heap_setCell _ _ _ _ hne)).trans (Below.heap_setCell _ _ _ _ hne)
 clear hb1
 go_wp2
 refine bodyPost_ret (results_row_tmp rfl _ _ w.heap.size 26 _ (0,0) _ rfl (HF.out _ _ _) Tryz.underlying26 rfl (by kernel_rfl)) rfl ?_
 exact ⟨_,_,_,_,_,_,_,_,rfl,HE.out _,((((HB1.out.trans ((HA.out _ _).mono HB1.out.size)).setCell (Nat.le_refl _) _).setCell (Nat.le_refl _) _).setCell (Nat.le_refl _) _).setCell (Nat.le_refl _) _⟩
end Go.Proofs.YtipnjoahobplhaaGreatDoor
