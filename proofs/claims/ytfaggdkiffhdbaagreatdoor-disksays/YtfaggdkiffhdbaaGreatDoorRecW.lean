/- record.Check, Same, by the program. -/
import Derived.Test.YtfaggdkiffhdbaaGreatDoorRecDef
import Derived.Test.YtfaggdkiffhdbaaGreatDoorPart7
import Derived.Test.YtfaggdkiffhdbaaGreatDoorPart8
import Derived.Test.YtfaggdkiffhdbaaGreatDoorImgEnv
namespace Go.Proofs.YtfaggdkiffhdbaaGreatDoor
open Go.RowKit Go.Maps

theorem recWithin (n most : Int) (w : World) : Calls Tryz.prog 41 #[.int .i64 n,.int .i64 most] w fun e w' => e=.returned (.bool (wthn n most))∧w'=w:=by
 by_cases h0 : 0≤n
 ·by_cases h1 : n≤most
  ·have hw : wthn n most=true:=by simp [wthn,h0,h1]
   rw [hw]
   go_enter Tryz.func41,Tryz.ntmps41
   go_wp2
   go_ret
   exact ⟨rfl,rfl⟩
  ·have hw : wthn n most=false:=by simp [wthn,h1]
   rw [hw]
   go_enter Tryz.func41,Tryz.ntmps41
   go_wp2
   go_ret
   exact ⟨rfl,rfl⟩
 ·have hw : wthn n most=false:=by simp [wthn,h0]
  rw [hw]
  go_enter Tryz.func41,Tryz.ntmps41
  go_wp2
  go_ret
  exact ⟨rfl,rfl⟩

/-- A record's box. -/
theorem rbox (w : World) (k c e p : Int) (sv iv : Value) : ∃ W,w.alloc (.cells #[.int .i64 k,.int .i64 c,.int .i64 e,.int .i64 p,sv,iv] 27)=W∧Below w.heap.size w W∧W.heap.size=w.heap.size + 1 ∧
  W.cell? ⟨w.heap.size,0,none⟩=some (.int .i64 k)∧W.cell? ⟨w.heap.size,1,none⟩=some (.int .i64 c)∧W.cell? ⟨w.heap.size,2,none⟩=some (.int .i64 e)∧W.cell? ⟨w.heap.size,3,none⟩=some (.int .i64 p)∧W.cell? ⟨w.heap.size,4,none⟩=some sv∧W.cell? ⟨w.heap.size,5,none⟩=some iv:=by
 refine ⟨_,rfl,below_alloc _ _,by simp,?_,?_,?_,?_,?_,?_⟩ <;> (rw [World.cell?_alloc_new]; rfl)

def formB (k pl ep : Int) (n m : Nat) : Bool:=(decide (pl=0) || decide (k=3)) && (decide (n=0) || decide (k=2)) && ((decide (k=1) || decide (k=2) || decide (k=4)) == decide (0 < m)) && decide (0 < ep)

set_option maxHeartbeats 8000000 in
theorem recFormed (k c ep pl : Int) (n m sc ic : Nat) (sa ia : Option Addr) (w : World) :
  Calls Tryz.prog 42 #[.agg #[.int .i64 k,.int .i64 c,.int .i64 ep,.int .i64 pl,.slice sa n sc,.slice ia m ic]] w fun e w' => e=.returned (.bool (formB k pl ep n m))∧Below w.heap.size w w':=by
 obtain ⟨W,hW,HB,_,i0,i1,i2,i3,i4,i5⟩:=rbox w k c ep pl (.slice sa n sc) (.slice ia m ic)
 have hk : ((k == 1)=true∧(k == 2)=false∧(k == 3)=false∧(k == 4)=false∧k=1)∨((k == 1)=false∧(k == 2)=true∧(k == 3)=false∧(k == 4)=false∧k=2)∨((k == 1)=false∧(k == 2)=false∧(k == 3)=true∧(k == 4)=false∧k=3)∨((k == 1)=false∧(k == 2)=false∧(k == 3)=false∧(k == 4)=true∧k=4)∨((k == 1)=false∧(k == 2)=false∧(k == 3)=false∧(k == 4)=false∧¬ (k=1∨k=2∨k=3∨k=4)):=by
  by_cases h1 : k=1
  ·subst h1; left; decide
  by_cases h2 : k=2
  ·subst h2; right; left; decide
  by_cases h3 : k=3
  ·subst h3; right; right; left; decide
  by_cases h4 : k=4
  ·subst h4; right; right; right; left; decide
  ·right; right; right; right
   refine ⟨by simpa using h1,by simpa using h2,by simpa using h3,by simpa using h4,?_⟩
   omega
 have hp : ((pl == 0)=true∧pl=0)∨((pl == 0)=false∧¬ pl=0):=by
  by_cases h : pl=0
  ·exact Or.inl ⟨by simpa using h,h⟩
  ·exact Or.inr ⟨by simpa using h,h⟩
 have hn : (((n : Int) == 0)=true∧n=0)∨(((n : Int) == 0)=false∧¬ n=0):=by
  by_cases h : n=0
  ·exact Or.inl ⟨by simp [h],h⟩
  ·exact Or.inr ⟨by simp [h],h⟩
 have hm : (decide (0 < m)=true∧0 < m)∨(decide (0 < m)=false∧¬ 0 < m):=by
  by_cases h : 0 < m
  ·exact Or.inl ⟨by simp [h],h⟩
  ·exact Or.inr ⟨by simp [h],h⟩
 have he : (decide (0 < ep)=true∧0 < ep)∨(decide (0 < ep)=false∧¬ 0 < ep):=by
  by_cases h : 0 < ep
  ·exact Or.inl ⟨by simp [h],h⟩
  ·exact Or.inr ⟨by simp [h],h⟩
 have HF : ∀ b,formB k pl ep n m=b→Hid (formB k pl ep n m=b):=fun b h => h
 rcases hk with ⟨k1,k2,k3,k4,hk⟩ | ⟨k1,k2,k3,k4,hk⟩ | ⟨k1,k2,k3,k4,hk⟩ | ⟨k1,k2,k3,k4,hk⟩ | ⟨k1,k2,k3,k4,hk⟩ <;> rcases hp with ⟨p1,hp⟩ | ⟨p1,hp⟩ <;> rcases hn with ⟨n1,hn⟩ | ⟨n1,hn⟩ <;> rcases hm with ⟨m1,hm⟩ | ⟨m1,hm⟩ <;> rcases he with ⟨e1,he⟩ | ⟨e1,he⟩
 all_goals
  clear hk hp hn hm he HF
  go_enter Tryz.func42,Tryz.ntmps42
  go_upto_region 1 with (fail)
  try rw [hW]
  go_wp2
  go_ret
  refine ⟨ret_bool ?_,HB⟩
  show _=formB k pl ep n m
  have d1 : decide (k=1)=(k == 1):=rfl
  have d2 : decide (k=2)=(k == 2):=rfl
  have d3 : decide (k=3)=(k == 3):=rfl
  have d4 : decide (k=4)=(k == 4):=rfl
  have dp : decide (pl=0)=(pl == 0):=rfl
  have dn : decide (n=0)=((n : Int) == 0):=by by_cases h : n=0 <;> simp [h]
  unfold formB
  rw [d1,d2,d3,d4,dp,dn,k1,k2,k3,k4,p1,n1,m1,e1]
  try rfl
end Go.Proofs.YtfaggdkiffhdbaaGreatDoor
