/- record.Check, Same, by the program: their own walks. -/
import Derived.Test.YtfaggdkiffhdbaaGreatDoorRecW
namespace Go.Proofs.YtfaggdkiffhdbaaGreatDoor
open Go.RowKit Go.Maps

theorem at_below {w w' : World} (hb : Below w.heap.size w w') {p : Addr} {v : Value} (h : w.cell? p=some v) : w'.cell? p=some v:=(hb.cell (cell_lt h)).trans h

set_option maxHeartbeats 4000000 in
theorem recCheckC (r : Rc) (sc ic : Nat) (sa ia : Option Addr) (w : World) :
  Calls Tryz.prog 28 #[.agg #[.int .i64 r.kind,.int .i64 r.co,.int .i64 r.ep,.int .i64 r.pl,.slice sa r.says.length sc,.slice ia r.img.length ic]] w fun e w' => e=.returned (.int .i64 (recErr r))∧Below w.heap.size w w':=by
 obtain ⟨W,hW,HB,_,i0,i1,i2,i3,i4,i5⟩:=rbox w r.kind r.co r.ep r.pl (.slice sa r.says.length sc) (.slice ia r.img.length ic)
 have HW : ∀ (n most : Int) (wk : World),Calls Tryz.prog 41 #[.int .i64 n,.int .i64 most] wk fun e w' => e=.returned (.bool (wthn n most))∧w'=wk:=recWithin
 have HF : Hid (∀ wk,Calls Tryz.prog 42 #[.agg #[.int .i64 r.kind,.int .i64 r.co,.int .i64 r.ep,.int .i64 r.pl,.slice sa r.says.length sc,.slice ia r.img.length ic]] wk fun e w' => e=.returned (.bool (recForm r))∧Below wk.heap.size wk w'):=fun wk => recFormed r.kind r.co r.ep r.pl _ _ sc ic sa ia wk
 have HE : Hid (recErr r=if recKind r=false then 4 else if recRange r=false then 3 else if recMany r=false then 2 else if recForm r=false then 4 else 0):=by show _=_; rfl
 have HKd : Hid (recKind r=(decide (1≤r.kind) && decide (r.kind≤5))):=by show _=_; rfl
 have HRg : Hid (recRange r=(wthn r.co 2 && wthn r.ep 100 && wthn r.pl 2)):=by show _=_; rfl
 have HMn : Hid (recMany r=(decide (r.says.length≤40) && decide (r.img.length≤1200))):=by show _=_; rfl
 generalize recErr r=er at *
 generalize recKind r=bk at *
 generalize recRange r=br at *
 generalize recMany r=bm at *
 generalize recForm r=bf at *
 generalize r.says.length=n at *
 generalize r.img.length=m at *
 generalize r.kind=k at *
 generalize r.co=c at *
 generalize r.ep=ep at *
 generalize r.pl=pl at *
 by_cases hk1 : k < 1
 ·have hx : Hid (er=4):=by show _=_; rw [HE.out,if_pos]; rw [HKd.out]; simp; omega
  go_enter Tryz.func28,Tryz.ntmps28
  go_upto_region 1 with (fail)
  try rw [hW]
  go_wp2
  go_ret
  exact ⟨ret_num hx.out.symm,HB⟩
 by_cases hk5 : 5 < k
 ·have hx : Hid (er=4):=by show _=_; rw [HE.out,if_pos]; rw [HKd.out]; simp; omega
  go_enter Tryz.func28,Tryz.ntmps28
  go_upto_region 1 with (fail)
  try rw [hW]
  go_wp2
  go_ret
  exact ⟨ret_num hx.out.symm,HB⟩
 have HK1 : Hid (bk=true):=by show _=_; rw [HKd.out]; simp; omega
 by_cases hc : wthn c 2=false
 ·have hx : Hid (er=3):=by show _=_; rw [HE.out,if_neg (by rw [HK1.out]; decide),if_pos]; rw [HRg.out]; simp [hc]
  go_enter Tryz.func28,Tryz.ntmps28
  go_upto_region 1 with (fail)
  try rw [hW]
  go_wp2_with (go_at_call 41; refine (recWithin _ _ _).mono ?_; rintro e wq ⟨rfl,rfl⟩)
  go_ret
  exact ⟨ret_num hx.out.symm,HB⟩
 have hc : wthn c 2=true:=by simpa using hc
 by_cases hep : wthn ep 100=false
 ·have hx : Hid (er=3):=by show _=_; rw [HE.out,if_neg (by rw [HK1.out]; decide),if_pos]; rw [HRg.out]; simp [hep]
  go_enter Tryz.func28,Tryz.ntmps28
  go_upto_region 1 with (fail)
  try rw [hW]
  go_wp2_with (go_at_call 41; refine (recWithin _ _ _).mono ?_; rintro e wq ⟨rfl,rfl⟩)
  go_ret
  exact ⟨ret_num hx.out.symm,HB⟩
 have hep : wthn ep 100=true:=by simpa using hep
 by_cases hpl : wthn pl 2=false
 ·have hx : Hid (er=3):=by show _=_; rw [HE.out,if_neg (by rw [HK1.out]; decide),if_pos]; rw [HRg.out]; simp [hpl]
  go_enter Tryz.func28,Tryz.ntmps28
  go_upto_region 1 with (fail)
  try rw [hW]
  go_wp2_with (go_at_call 41; refine (recWithin _ _ _).mono ?_; rintro e wq ⟨rfl,rfl⟩)
  go_ret
  exact ⟨ret_num hx.out.symm,HB⟩
 have hpl : wthn pl 2=true:=by simpa using hpl
 have HR1 : Hid (br=true):=by show _=_; rw [HRg.out]; simp [hc,hep,hpl]
 by_cases hn : 40 < n
 ·have hx : Hid (er=2):=by show _=_; rw [HE.out,if_neg (by rw [HK1.out]; decide),if_neg (by rw [HR1.out]; decide),if_pos]; rw [HMn.out]; simp; omega
  have hni : (40 : Int) < (n : Int):=by omega
  go_enter Tryz.func28,Tryz.ntmps28
  go_upto_region 1 with (fail)
  try rw [hW]
  go_wp2_with (go_at_call 41; refine (recWithin _ _ _).mono ?_; rintro e wq ⟨rfl,rfl⟩)
  go_ret
  exact ⟨ret_num hx.out.symm,HB⟩
 have hni : ¬ (40 : Int) < (n : Int):=by omega
 by_cases hm : 1200 < m
 ·have hx : Hid (er=2):=by show _=_; rw [HE.out,if_neg (by rw [HK1.out]; decide),if_neg (by rw [HR1.out]; decide),if_pos]; rw [HMn.out]; simp; omega
  have hmi : (1200 : Int) < (m : Int):=by omega
  go_enter Tryz.func28,Tryz.ntmps28
  go_upto_region 1 with (fail)
  try rw [hW]
  go_wp2_with (go_at_call 41; refine (recWithin _ _ _).mono ?_; rintro e wq ⟨rfl,rfl⟩)
  go_ret
  exact ⟨ret_num hx.out.symm,HB⟩
 have hmi : ¬ (1200 : Int) < (m : Int):=by omega
 have HM1 : Hid (bm=true):=by show _=_; rw [HMn.out]; simp; omega
 clear hn hm
 cases bf with
 | true =>
  have hx : Hid (er=0):=by show _=_; rw [HE.out,if_neg (by rw [HK1.out]; decide),if_neg (by rw [HR1.out]; decide),if_neg (by rw [HM1.out]; decide),if_neg (by decide)]
  go_enter Tryz.func28,Tryz.ntmps28
  go_upto_region 1 with (fail)
  try rw [hW]
  go_wp2_with (first
   | (go_at_call 41; refine (recWithin _ _ _).mono ?_; rintro e wq ⟨rfl,rfl⟩)
   | (go_at_call 42; refine (HF.out _).mono ?_; rintro e w1 ⟨rfl,hb1⟩))
  go_ret
  exact ⟨ret_num hx.out.symm,below_step HB hb1⟩
 | false =>
  have hx : Hid (er=4):=by show _=_; rw [HE.out,if_neg (by rw [HK1.out]; decide),if_neg (by rw [HR1.out]; decide),if_neg (by rw [HM1.out]; decide),if_pos rfl]
  go_enter Tryz.func28,Tryz.ntmps28
  go_upto_region 1 with (fail)
  try rw [hW]
  go_wp2_with (first
   | (go_at_call 41; refine (recWithin _ _ _).mono ?_; rintro e wq ⟨rfl,rfl⟩)
   | (go_at_call 42; refine (HF.out _).mono ?_; rintro e w1 ⟨rfl,hb1⟩))
  go_ret
  exact ⟨ret_num hx.out.symm,below_step HB hb1⟩

/-- Two lists of numbers. -/
theorem eqList {N : Nat} {a a2 : Option Addr} {c c2 : Nat} {l l2 : List Int} (w : World) (h : NumsL N w a c l) (h2 : NumsL N w a2 c2 l2) :
  Calls Tryz.prog 27 #[.slice a l.length c,.slice a2 l2.length c2] w fun e w' => e=.returned (.bool (decide (l=l2)))∧Below w.heap.size w w':=by
 refine (eqNums N _ _ _ _ _ _ w h.nums h2.nums).mono ?_
 rintro e w' ⟨rfl,hb⟩
 refine ⟨ret_bool ?_,hb⟩
 unfold eqB
 rw [Bool.eq_iff_iff,decide_eq_true_iff,decide_eq_true_iff]
 constructor
 ·rintro ⟨hl,hx⟩
  apply List.ext_getElem hl
  intro i h1 h2
  have:=hx i h1
  simpa [h1,h2] using this
 ·rintro rfl
  exact ⟨rfl,fun _ _ => rfl⟩

def rcEq (a b : Rc) : Bool:=decide (a.kind=b.kind) && decide (a.co=b.co) && decide (a.ep=b.ep) && decide (a.pl=b.pl) && decide (a.says=b.says) && decide (a.img=b.img)
theorem rcEq_iff {a b : Rc} : rcEq a b=true ↔ a=b:=by
 obtain ⟨a1,a2,a3,a4,a5,a6⟩:=a
 obtain ⟨b1,b2,b3,b4,b5,b6⟩:=b
 simp [rcEq,and_assoc]

theorem two_rbox (w : World) (k c e p k' c' e' p' : Int) (sv iv sv' iv' : Value) : ∃ W,(w.alloc (.cells #[.int .i64 k,.int .i64 c,.int .i64 e,.int .i64 p,sv,iv] 27)).alloc (.cells #[.int .i64 k',.int .i64 c',.int .i64 e',.int .i64 p',sv',iv'] 27)=W∧Hid (Below w.heap.size w W) ∧
  Hid (∀ wk,Below W.heap.size W wk→(wk.cell? ⟨w.heap.size,0,none⟩=some (.int .i64 k)∧wk.cell? ⟨w.heap.size,1,none⟩=some (.int .i64 c)∧wk.cell? ⟨w.heap.size,2,none⟩=some (.int .i64 e)∧wk.cell? ⟨w.heap.size,3,none⟩=some (.int .i64 p)∧wk.cell? ⟨w.heap.size,4,none⟩=some sv∧wk.cell? ⟨w.heap.size,5,none⟩=some iv)∧wk.cell? ⟨w.heap.size + 1,0,none⟩=some (.int .i64 k')∧wk.cell? ⟨w.heap.size + 1,1,none⟩=some (.int .i64 c')∧wk.cell? ⟨w.heap.size + 1,2,none⟩=some (.int .i64 e')∧wk.cell? ⟨w.heap.size + 1,3,none⟩=some (.int .i64 p')∧wk.cell? ⟨w.heap.size + 1,4,none⟩=some sv'∧wk.cell? ⟨w.heap.size + 1,5,none⟩=some iv'):=by
 obtain ⟨V,hV,b0,hs,i0,i1,i2,i3,i4,i5⟩:=rbox w k c e p sv iv
 rw [hV]
 obtain ⟨W,hW,b1,_,j0,j1,j2,j3,j4,j5⟩:=rbox V k' c' e' p' sv' iv'
 rw [hs] at j0 j1 j2 j3 j4 j5
 exact ⟨W,hW,below_step b0 b1,fun wk hk => ⟨⟨at_below (below_step b1 hk) i0,at_below (below_step b1 hk) i1,at_below (below_step b1 hk) i2,at_below (below_step b1 hk) i3,at_below (below_step b1 hk) i4,at_below (below_step b1 hk) i5⟩,at_below hk j0,at_below hk j1,at_below hk j2,at_below hk j3,at_below hk j4,at_below hk j5⟩⟩

end Go.Proofs.YtfaggdkiffhdbaaGreatDoor
