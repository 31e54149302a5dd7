/- CheckRec and SameRec of the reckoning. -/
import Derived.Test.YtfaggdkiffhdbaaGreatDoorRMap
import Derived.Test.YtfaggdkiffhdbaaGreatDoorRecC
import Derived.Deep.QuietTactic
import Derived.BigQuiet
namespace Go.Proofs.YtfaggdkiffhdbaaGreatDoor
open Go.RowKit Go.Maps

theorem box_grown {w w1 : World} {cs : Array Value} {t : TypeId} {o : Obj} (hg : ((w.alloc (.cells cs t)).alloc o).grownBy w1 (some (w.heap.size + 1))) :
  (∀ (i : Nat) (c : Value),cs[i]?=some c→w1.cell? ⟨w.heap.size,i,none⟩=some c)∧Below w.heap.size w w1∧w.heap.size + 1 < w1.heap.size:=by
 have hs1 : (w.alloc (.cells cs t)).heap.size=w.heap.size + 1:=by simp
 have hs2 : ((w.alloc (.cells cs t)).alloc o).heap.size=w.heap.size + 1 + 1:=by simp
 have b2:=below_alloc (w.alloc (.cells cs t)) o
 refine ⟨fun i c h => ?_,(below_step (below_alloc w (.cells cs t)) b2).grown hg (by omega) (fun k hk => by cases hk; omega),by have:=hg.size; omega⟩
 refine (World.cell?_of_block (w:=(w.alloc (.cells cs t)).alloc o) (a:=⟨w.heap.size,i,none⟩) (hg.block w.heap.size (by omega) (fun e => by have:=Option.some.inj e; omega))).trans ?_
 rw [b2.cell (p:=⟨w.heap.size,i,none⟩) (by rw [hs1]; exact Nat.lt_succ_self _),World.cell?_alloc_new]
 exact h

theorem recKind_ok (r : Rc) : recKind r=okR r.kind:=by
 unfold recKind okR
 simp

theorem cell_drewN (w : World) (y : Nat) (p : Addr) (hp : p.block < w.heap.size:=by omega) : (w.drewN y).cell? p=w.cell? p:=(below_drewN' w y).cell hp

/-- Where the checks stand behind the table. -/
theorem use_cell {w w1 : World} {X : Nat} {s : ByteArray} (hb : Below X w w1) (hX : X < w1.heap.size) : ∃ W,w1.alloc (.cells #[.string s] 9)=W∧Below X w W∧Below w1.heap.size w1 W∧W.cell? ⟨w1.heap.size,0,none⟩=some (.string s):=by
 refine ⟨_,rfl,hb.trans ((below_alloc w1 _).mono (Nat.le_of_lt hX)),below_alloc w1 _,?_⟩
 rw [World.cell?_alloc_new]
 rfl

set_option maxRecDepth 20000 in
set_option maxHeartbeats 8000000 in
theorem rCheck (r : Rc) (sc ic : Nat) (sa ia : Option Addr) (w : World) (hwf : (Lit.int .i64 r.kind).wf=true) :
  Calls Tryz.prog 37 #[.agg #[.int .i64 r.kind,.int .i64 r.co,.int .i64 r.ep,.int .i64 r.pl,.slice sa r.says.length sc,.slice ia r.img.length ic]] w fun e w' => e=.returned (.int .i64 (recErr r))∧Below w.heap.size w w':=by
 have hmm:=@run_makeMap
 have HIn : Hid (∀ n hi wi,Calls Tryz.prog 51 #[.int .i64 n,.int .i64 0,.int .i64 hi] wi fun e w' => e=.returned (.bool (wthn n hi))∧w'=wi):=fun n hi wi => rinC n 0 hi wi
 have HE : Hid (recErr r=if okR r.kind=false then 4 else if recRange r=false then 3 else if recMany r=false then 2 else if recForm r=false then 4 else 0):=by show _=_; rw [← recKind_ok]; rfl
 have HRg : Hid (recRange r=(wthn r.co 2 && wthn r.ep 100 && wthn r.pl 2)):=by show _=_; rfl
 have HMn : Hid (recMany r=(decide (r.says.length≤40) && decide (r.img.length≤1200))):=by show _=_; rfl
 have HFm : Hid (recForm r=((decide (r.pl=0) || hasP r.kind) && (decide (r.says.length=0) || hasS r.kind) && (hasI r.kind == decide (0 < r.img.length)) && decide (0 < r.ep))):=by
  show _=_
  unfold recForm hasP hasS hasI
  simp [Bool.or_assoc]
 have HhP : Hid (okR r.kind=true→∀ p wk,wk.cell? p=some (.string (useR r.kind))→Calls Tryz.prog 52 #[.string ⟨#[80]⟩,.pointer (some p)] wk fun e w' => e=.returned (.bool (hasP r.kind))∧w'=wk):=fun hk p wk h => rhasP _ hk p wk h
 have HhS : Hid (okR r.kind=true→∀ p wk,wk.cell? p=some (.string (useR r.kind))→Calls Tryz.prog 52 #[.string ⟨#[83]⟩,.pointer (some p)] wk fun e w' => e=.returned (.bool (hasS r.kind))∧w'=wk):=fun hk p wk h => rhasS _ hk p wk h
 have HhI : Hid (okR r.kind=true→∀ p wk,wk.cell? p=some (.string (useR r.kind))→Calls Tryz.prog 52 #[.string ⟨#[73]⟩,.pointer (some p)] wk fun e w' => e=.returned (.bool (hasI r.kind))∧w'=wk):=fun hk p wk h => rhasI _ hk p wk h
 generalize recErr r=er at *
 generalize recRange r=br at *
 generalize recMany r=bm at *
 generalize recForm r=bf at *
 generalize r.says.length=n at *
 generalize r.img.length=m at *
 generalize r.kind=k at *
 generalize r.co=c at *
 generalize r.ep=ep at *
 generalize r.pl=pl at *
 generalize hasP k=bP at *
 generalize hasS k=bS at *
 generalize hasI k=bI at *
 generalize hU : useR k=U at *
 generalize hok : okR k=ok at *
 go_enter Tryz.func37,Tryz.ntmps37
 go_upto_region 2 with (first
  | (with_reducible refine at_ins_r ?_; refine use_map5 _ _ rfl rfl rfl rfl rfl rfl rfl rfl rfl rfl rfl rfl rfl rfl rfl _ rfl (by simp) ?_; intro w1 htab hgr; obtain ⟨hbx,hb1,hsz1⟩:=box_grown hgr; have m0:=hbx 0 (.int .i64 k) rfl)
  | (at_lookup; refine look_tab _ rfl _ _ rfl useR okR _ _ rfl htab _ rfl hwf ?_; rw [hU,hok]))
 have m1:=hbx 1 (.int .i64 c) rfl
 have m2:=hbx 2 (.int .i64 ep) rfl
 have m3:=hbx 3 (.int .i64 pl) rfl
 have m4:=hbx 4 (.slice sa n sc) rfl
 have m5:=hbx 5 (.slice ia m ic) rfl
 clear hgr htab hbx hmm hwf
 obtain ⟨W,hW,hbW,hb1W,hu⟩:=use_cell (s:=U) hb1 (by omega)
 try rw [hW]
 have k1:=(hb1W.cell (p:=⟨w.heap.size,1,none⟩) (by show w.heap.size < _; omega)).trans m1
 have k2:=(hb1W.cell (p:=⟨w.heap.size,2,none⟩) (by show w.heap.size < _; omega)).trans m2
 have k3:=(hb1W.cell (p:=⟨w.heap.size,3,none⟩) (by show w.heap.size < _; omega)).trans m3
 have k4:=(hb1W.cell (p:=⟨w.heap.size,4,none⟩) (by show w.heap.size < _; omega)).trans m4
 have k5:=(hb1W.cell (p:=⟨w.heap.size,5,none⟩) (by show w.heap.size < _; omega)).trans m5
 have HhP1 : Hid (ok=true→∀ y,Calls Tryz.prog 52 #[.string ⟨#[80]⟩,.pointer (some ⟨w1.heap.size,0,none⟩)] (W.drewN y) fun e w' => e=.returned (.bool bP)∧w'=W.drewN y):=fun h y => HhP.out h _ _ ((cell_drewN W y _ (cell_lt hu)).trans hu)
 have HhS1 : Hid (ok=true→∀ y,Calls Tryz.prog 52 #[.string ⟨#[83]⟩,.pointer (some ⟨w1.heap.size,0,none⟩)] (W.drewN y) fun e w' => e=.returned (.bool bS)∧w'=W.drewN y):=fun h y => HhS.out h _ _ ((cell_drewN W y _ (cell_lt hu)).trans hu)
 have HhI1 : Hid (ok=true→∀ y,Calls Tryz.prog 52 #[.string ⟨#[73]⟩,.pointer (some ⟨w1.heap.size,0,none⟩)] (W.drewN y) fun e w' => e=.returned (.bool bI)∧w'=W.drewN y):=fun h y => HhI.out h _ _ ((cell_drewN W y _ (cell_lt hu)).trans hu)
 have HBW : Hid (Below w.heap.size w W):=hbW
 clear HhP HhS HhI hu m0 m1 m2 m3 m4 m5 hW hb1 hb1W hsz1 hbW hU hok
 cases ok with
 | false =>
  have hx : Hid (er=4):=by show _=_; rw [HE.out,if_pos rfl]
  go_wp2
  go_ret
  exact ⟨ret_num hx.out.symm,HBW.out⟩
 | true =>
 have HhP:=(show Hid _ from HhP1.out rfl)
 have HhS:=(show Hid _ from HhS1.out rfl)
 have HhI:=(show Hid _ from HhI1.out rfl)
 clear HhP1 HhS1 HhI1
 by_cases hc : wthn c 2=false
 ·have hx : Hid (er=3):=by show _=_; rw [HE.out,if_neg (by decide),if_pos]; rw [HRg.out]; simp [hc]
  go_wp2_with (go_at_call 51; refine (HIn.out _ _ _).mono ?_; rintro e wz ⟨rfl,hz⟩; rw [hz]; clear hz)
  go_ret
  exact ⟨ret_num hx.out.symm,HBW.out⟩
 have hc : wthn c 2=true:=by simpa using hc
 by_cases hep : wthn ep 100=false
 ·have hx : Hid (er=3):=by show _=_; rw [HE.out,if_neg (by decide),if_pos]; rw [HRg.out]; simp [hep]
  go_wp2_with (go_at_call 51; refine (HIn.out _ _ _).mono ?_; rintro e wz ⟨rfl,hz⟩; rw [hz]; clear hz)
  go_ret
  exact ⟨ret_num hx.out.symm,HBW.out⟩
 have hep : wthn ep 100=true:=by simpa using hep
 by_cases hpl : wthn pl 2=false
 ·have hx : Hid (er=3):=by show _=_; rw [HE.out,if_neg (by decide),if_pos]; rw [HRg.out]; simp [hpl]
  go_wp2_with (go_at_call 51; refine (HIn.out _ _ _).mono ?_; rintro e wz ⟨rfl,hz⟩; rw [hz]; clear hz)
  go_ret
  exact ⟨ret_num hx.out.symm,HBW.out⟩
 have hpl : wthn pl 2=true:=by simpa using hpl
 have HR1 : Hid (br=true):=by show _=_; rw [HRg.out]; simp [hc,hep,hpl]
 by_cases hn : 40 < n
 ·have hx : Hid (er=2):=by show _=_; rw [HE.out,if_neg (by decide),if_neg (by rw [HR1.out]; decide),if_pos]; rw [HMn.out]; simp; omega
  have hni : (40 : Int) < (n : Int):=by omega
  go_wp2_with (go_at_call 51; refine (HIn.out _ _ _).mono ?_; rintro e wz ⟨rfl,hz⟩; rw [hz]; clear hz)
  go_ret
  exact ⟨ret_num hx.out.symm,HBW.out⟩
 have hni : ¬ (40 : Int) < (n : Int):=by omega
 by_cases hm : 1200 < m
 ·have hx : Hid (er=2):=by show _=_; rw [HE.out,if_neg (by decide),if_neg (by rw [HR1.out]; decide),if_pos]; rw [HMn.out]; simp; omega
  have hmi : (1200 : Int) < (m : Int):=by omega
  go_wp2_with (go_at_call 51; refine (HIn.out _ _ _).mono ?_; rintro e wz ⟨rfl,hz⟩; rw [hz]; clear hz)
  go_ret
  exact ⟨ret_num hx.out.symm,HBW.out⟩
 have hmi : ¬ (1200 : Int) < (m : Int):=by omega
 have HM1 : Hid (bm=true):=by show _=_; rw [HMn.out]; simp; omega
 have H4 : Hid (bf=false→er=4):=fun h => by rw [HE.out,if_neg (by decide),if_neg (by rw [HR1.out]; decide),if_neg (by rw [HM1.out]; decide),if_pos h]
 have H0 : Hid (bf=true→er=0):=fun h => by rw [HE.out,if_neg (by decide),if_neg (by rw [HR1.out]; decide),if_neg (by rw [HM1.out]; decide),if_neg (by rw [h]; decide)]
 clear hn hm
 go_upto_region 9 with (go_at_call 51; refine (HIn.out _ _ _).mono ?_; rintro e wz ⟨rfl,hz⟩; rw [hz]; clear hz)
 have HW0:=hep
 clear HE HRg HMn HIn HR1 HM1 hni hmi hc hep hpl
 have hA : ((pl != 0)=true∧¬ pl=0∧bP=false)∨(((pl != 0)=false∧pl=0)∨((pl != 0)=true∧¬ pl=0∧bP=true)):=by
  by_cases h : pl=0
  ·exact Or.inr (Or.inl ⟨by simpa using h,h⟩)
  ·cases bP
   ·exact Or.inl ⟨by simpa using h,h,rfl⟩
   ·exact Or.inr (Or.inr ⟨by simpa using h,h,rfl⟩)
 have hB : (decide (0 < n)=true∧¬ n=0∧bS=false)∨((decide (0 < n)=false∧n=0)∨(decide (0 < n)=true∧¬ n=0∧bS=true)):=by
  by_cases h : n=0
  ·exact Or.inr (Or.inl ⟨by simp; omega,h⟩)
  ·cases bS
   ·exact Or.inl ⟨by simp; omega,h,rfl⟩
   ·exact Or.inr (Or.inr ⟨by simp; omega,h,rfl⟩)
 have hC : ((decide (0 < m)=true∧0 < m∧bI=false)∨(decide (0 < m)=false∧¬ 0 < m∧bI=true))∨((decide (0 < m)=true∧0 < m∧bI=true)∨(decide (0 < m)=false∧¬ 0 < m∧bI=false)):=by
  by_cases h : 0 < m <;> cases bI
  ·exact Or.inl (Or.inl ⟨by simp; omega,h,rfl⟩)
  ·exact Or.inr (Or.inl ⟨by simp; omega,h,rfl⟩)
  ·exact Or.inr (Or.inr ⟨by simp; omega,h,rfl⟩)
  ·exact Or.inl (Or.inr ⟨by simp; omega,h,rfl⟩)
 rcases hA with ⟨p1,hp,rfl⟩ | hA
 ·have hx : Hid (er=4):=H4.out (by rw [HFm.out]; simp [hp])
  clear hp hB hC
  go_quiet ((go_at_call 52; first | exact Calls.quiet_of_same (HhP.out _) | exact Calls.quiet_of_same (HhS.out _) | exact Calls.quiet_of_same (HhI.out _)))
  go_wp2
  go_ret
  exact ⟨ret_num hx.out.symm,below_step HBW.out (below_drewN' _ _)⟩
 rcases hB with ⟨n1,hn,rfl⟩ | hB
 ·have hx : Hid (er=4):=H4.out (by rw [HFm.out]; simp [hn])
  clear hn hC
  rcases hA with ⟨p1,hp⟩ | ⟨p1,hp,rfl⟩
  all_goals
   clear hp
   go_quiet ((go_at_call 52; first | exact Calls.quiet_of_same (HhP.out _) | exact Calls.quiet_of_same (HhS.out _) | exact Calls.quiet_of_same (HhI.out _)))
   go_wp2
   go_ret
   exact ⟨ret_num hx.out.symm,below_step HBW.out (below_drewN' _ _)⟩
 rcases hC with hC | hC
 ·rcases hA with ⟨p1,hp⟩ | ⟨p1,hp,rfl⟩ <;> rcases hB with ⟨n1,hn⟩ | ⟨n1,hn,rfl⟩ <;> rcases hC with ⟨m1,hm,rfl⟩ | ⟨m1,hm,rfl⟩
  all_goals
   have hx : Hid (er=4):=H4.out (by rw [HFm.out]; simp [hm])
   clear hp hn hm
   go_quiet ((go_at_call 52; first | exact Calls.quiet_of_same (HhP.out _) | exact Calls.quiet_of_same (HhS.out _) | exact Calls.quiet_of_same (HhI.out _)))
   go_wp2
   go_ret
   exact ⟨ret_num hx.out.symm,below_step HBW.out (below_drewN' _ _)⟩
 by_cases hz : ep=0
 ·have hx : Hid (er=4):=H4.out (by rw [HFm.out]; simp [hz])
  have e1 : (ep == 0)=true:=by simp [hz]
  clear hz
  rcases hA with ⟨p1,hp⟩ | ⟨p1,hp,rfl⟩ <;> rcases hB with ⟨n1,hn⟩ | ⟨n1,hn,rfl⟩ <;> rcases hC with ⟨m1,hm,rfl⟩ | ⟨m1,hm,rfl⟩
  all_goals
   clear hp hn hm
   go_quiet ((go_at_call 52; first | exact Calls.quiet_of_same (HhP.out _) | exact Calls.quiet_of_same (HhS.out _) | exact Calls.quiet_of_same (HhI.out _)))
   go_wp2
   go_ret
   exact ⟨ret_num hx.out.symm,below_step HBW.out (below_drewN' _ _)⟩
 ·have e1 : (ep == 0)=false:=by simpa using hz
  have he : 0 < ep:=by unfold wthn at HW0; simp at HW0; omega
  rcases hA with ⟨p1,hp⟩ | ⟨p1,hp,rfl⟩ <;> rcases hB with ⟨n1,hn⟩ | ⟨n1,hn,rfl⟩ <;> rcases hC with ⟨m1,hm,rfl⟩ | ⟨m1,hm,rfl⟩
  all_goals
   have hx : Hid (er=0):=H0.out (by rw [HFm.out]; simp [hp,hn,hm,he])
   clear hp hn hm he hz HW0
   go_quiet ((go_at_call 52; first | exact Calls.quiet_of_same (HhP.out _) | exact Calls.quiet_of_same (HhS.out _) | exact Calls.quiet_of_same (HhI.out _)))
   go_wp2
   go_ret
   exact ⟨ret_num hx.out.symm,below_step HBW.out (below_drewN' _ _)⟩

end Go.Proofs.YtfaggdkiffhdbaaGreatDoor
