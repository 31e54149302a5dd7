/- The reckoning's table of what each kind of record has a use for, as a map, and strings.Contains of a letter in it. -/
import Derived.Test.YtfaggdkiffhdbaaGreatDoorOwnRow
import Derived.Test.YtfaggdkiffhdbaaGreatDoorRecDef
import Derived.Maps.StringElems
import Derived.Laws.Externs
import Derived.Lib.Bytealg
namespace Go.Proofs.YtfaggdkiffhdbaaGreatDoor
open Go.RowKit Go.Maps

/-- What a kind has a use for. -/
def useR (K : Int) : ByteArray :=
 if K=1 then ⟨#[73]⟩
 else if K=2 then ⟨#[83,73]⟩
 else if K=3 then ⟨#[80]⟩
 else if K=4 then ⟨#[73]⟩
 else if K=5 then ⟨#[]⟩
 else ⟨#[]⟩
/-- Is it a kind? -/
def okR (K : Int) : Bool:=decide (1≤K∧K≤5)
def hasP (K : Int) : Bool:=decide (K=3)
def hasS (K : Int) : Bool:=decide (K=2)
def hasI (K : Int) : Bool:=decide (K=1∨K=2∨K=4)

set_option maxHeartbeats 1000000 in
set_option maxRecDepth 100000 in
theorem indexByte73 (s : ByteArray) (c r : Int) (hr : Lib.indexByte s.data.toList c.toNat.toUInt8=r) (w : World) : Calls Tryz.prog 95 #[.string s,.int .u8 c] w fun e w' => e=.returned (.int .i64 r)∧w'=w:=by
 subst hr
 go_enter Tryz.func95,Tryz.ntmps95
 go_wp2
 rw [run_callFunc_extern Tryz.func106 (by kernel_rfl) (by kernel_rfl) (by kernel_rfl) (e:=Extern.BytealgIndexByte.indexByte) (by kernel_rfl),Lib.run_indexByteString]
 simp only [Result.andThen]
 rw [Oper.upon_value]
 go_wp2
 go_ret
 exact ⟨rfl,rfl⟩

/-- Block b is a map from ints to strings that tells f,where g says that it has something. -/
def TabIs (w : World) (b n : Nat) (f : Int→ByteArray) (g : Int→Bool) : Prop :=
 ∃ D : DataW Unit,w.ownsMap Tryz.prog 3 (plainElem Tryz.prog 9) b n D∧(∀ x : Int,D.atKey (.int .i64 x) (.lit (.string []))=.lit (.string (f x).data.toList))∧(∀ x : Int,Maps.has D (.int .i64 x)=g x)

theorem law3 : Keyed Tryz.prog 3:=int_keyed Tryz.underlying3
theorem zero9 (w : World) : (zeroValue 9).run Tryz.prog w=.ok (.string ⟨#[]⟩) w:=by kernel_rfl
theorem under93 : Tryz.prog.underlying 84=some (.map 3 9):=by kernel_rfl

theorem TabIs.made (w : World) : TabIs (w.alloc (.map #[] 0)) w.heap.size 0 (fun _ => ⟨#[]⟩) (fun _ => false) :=
 ⟨.map [],World.ownsMap_made _ _ _ _,fun _ => rfl,fun _ => rfl⟩

theorem TabIs.alloc {w : World} {b n : Nat} {f : Int→ByteArray} {g : Int→Bool} (h : TabIs w b n f g) (o : Obj) : TabIs (w.alloc o) b n f g:=by
 obtain ⟨D,h,r⟩:=h
 exact ⟨D,h.alloc o,r⟩

/-- One entry of the table. -/
theorem ins_step {ops : Array Oper} {rest : List Oper} {o : Oper} {a : Act} {Q : Exit→Act→World→Prop} (w : World) (hg : o.guard=none) (hd : o.dst=none) (m : Operand) (key : Int) (s : ByteArray) (hop : o.op=Op.insert 84 m (.const (.int .i64 key)) (.const (.string s)))
  (b n : Nat) (f : Int→ByteArray) (g : Int→Bool) (hm : a.eval m=.map (some b)) (hown : TabIs w b n f g) (hn : n < maxLen) (hwf : (Lit.int .i64 key).wf=true) (hs : s.size≤maxLen)
  (hK : ∀ w',TabIs w' b (n + 1) (fun y => if y=key then s else f y) (fun y => decide (y=key) || g y)→w.grownBy w' (some b)→wpList Tryz.prog ops Q rest a w') : wpList Tryz.prog ops Q (o :: rest) a w:=by
 refine wpList_plain hg fun K' hK' => ?_
 obtain ⟨D,hD,hat,hhas⟩:=hown
 obtain ⟨w',hrun,r1,r2⟩:=hD.update law3 under93 hn (keyOf_int_mk Tryz.underlying3 hwf) (plainElem_string (H:=Unit) Tryz.underlying9 hs)
 have hput : a.put o.dst undef=a:=by rw [hd]; rfl
 unfold Oper.wp
 have e1 : a.eval (.const (.int .i64 key))=.int .i64 key:=rfl
 have e2 : a.eval (.const (.string s))=.string s:=rfl
 simp [execOp,hop,hm,e1,e2,hrun,Result.andThen]
 rw [← hput] at hK
 refine hK' _ _ (hK w' ⟨_,r1,fun y => ?_,fun y => ?_⟩ r2)
 ·by_cases e : y=key
  ·subst e
   rw [atKey_put_same (k:=Lit.int .i64 y) hD.isMap trivial]
   simp
  ·rw [atKey_put_other (fun h => e (by cases h; rfl)),hat]
   simp [e]
 ·by_cases e : y=key
  ·subst e
   rw [has_put_same (k:=Lit.int .i64 y) hD.isMap trivial]
   simp
  ·rw [has_put_other (fun h => e (by cases h; rfl)),hhas]
   simp [e]

theorem TabIs.same {w : World} {b n : Nat} {f f' : Int→ByteArray} {g g' : Int→Bool} (h : TabIs w b n f g) (hf : ∀ x,f x=f' x) (hg : ∀ x,g x=g' x) : TabIs w b n f' g':=by
 obtain ⟨D,h,h1,h2⟩:=h
 exact ⟨D,h,fun x => by rw [h1,hf],fun x => by rw [h2,hg]⟩

theorem grown_more {a b c : World} {k : Nat} (h : a.grownBy b (some k)) (h2 : b.grownBy c (some k)) : a.grownBy c (some k) :=
 ⟨h2.os.trans h.os,h2.tape.trans h.tape,h2.output.trans h.output,Nat.le_trans h.size h2.size,fun i hi hk => (h2.block i (Nat.lt_of_lt_of_le hi h.size) hk).trans (h.block i hi hk)⟩

set_option maxHeartbeats 400000 in
theorem inr_I_P (p : Addr) (w : World) (h : w.cell? p=some (.string ⟨#[73]⟩)) : Calls Tryz.prog 52 #[.string ⟨#[80]⟩,.pointer (some p)] w fun e w' => e=.returned (.bool false)∧w'=w:=by
 go_enter Tryz.func52,Tryz.ntmps52
 go_wp2_with (first | (go_at_call 95; refine (indexByte73 _ _ (-1) (by decide) _).mono ?_; rintro e w1 ⟨rfl,rfl⟩) | go_in)
 go_ret
 exact ⟨rfl,rfl⟩

set_option maxHeartbeats 400000 in
theorem inr_I_S (p : Addr) (w : World) (h : w.cell? p=some (.string ⟨#[73]⟩)) : Calls Tryz.prog 52 #[.string ⟨#[83]⟩,.pointer (some p)] w fun e w' => e=.returned (.bool false)∧w'=w:=by
 go_enter Tryz.func52,Tryz.ntmps52
 go_wp2_with (first | (go_at_call 95; refine (indexByte73 _ _ (-1) (by decide) _).mono ?_; rintro e w1 ⟨rfl,rfl⟩) | go_in)
 go_ret
 exact ⟨rfl,rfl⟩

set_option maxHeartbeats 400000 in
theorem inr_I_I (p : Addr) (w : World) (h : w.cell? p=some (.string ⟨#[73]⟩)) : Calls Tryz.prog 52 #[.string ⟨#[73]⟩,.pointer (some p)] w fun e w' => e=.returned (.bool true)∧w'=w:=by
 go_enter Tryz.func52,Tryz.ntmps52
 go_wp2_with (first | (go_at_call 95; refine (indexByte73 _ _ (0) (by decide) _).mono ?_; rintro e w1 ⟨rfl,rfl⟩) | go_in)
 go_ret
 exact ⟨rfl,rfl⟩

set_option maxHeartbeats 400000 in
theorem inr_SI_P (p : Addr) (w : World) (h : w.cell? p=some (.string ⟨#[83,73]⟩)) : Calls Tryz.prog 52 #[.string ⟨#[80]⟩,.pointer (some p)] w fun e w' => e=.returned (.bool false)∧w'=w:=by
 go_enter Tryz.func52,Tryz.ntmps52
 go_wp2_with (first | (go_at_call 95; refine (indexByte73 _ _ (-1) (by decide) _).mono ?_; rintro e w1 ⟨rfl,rfl⟩) | go_in)
 go_ret
 exact ⟨rfl,rfl⟩

set_option maxHeartbeats 400000 in
theorem inr_SI_S (p : Addr) (w : World) (h : w.cell? p=some (.string ⟨#[83,73]⟩)) : Calls Tryz.prog 52 #[.string ⟨#[83]⟩,.pointer (some p)] w fun e w' => e=.returned (.bool true)∧w'=w:=by
 go_enter Tryz.func52,Tryz.ntmps52
 go_wp2_with (first | (go_at_call 95; refine (indexByte73 _ _ (0) (by decide) _).mono ?_; rintro e w1 ⟨rfl,rfl⟩) | go_in)
 go_ret
 exact ⟨rfl,rfl⟩

set_option maxHeartbeats 400000 in
theorem inr_SI_I (p : Addr) (w : World) (h : w.cell? p=some (.string ⟨#[83,73]⟩)) : Calls Tryz.prog 52 #[.string ⟨#[73]⟩,.pointer (some p)] w fun e w' => e=.returned (.bool true)∧w'=w:=by
 go_enter Tryz.func52,Tryz.ntmps52
 go_wp2_with (first | (go_at_call 95; refine (indexByte73 _ _ (1) (by decide) _).mono ?_; rintro e w1 ⟨rfl,rfl⟩) | go_in)
 go_ret
 exact ⟨rfl,rfl⟩

set_option maxHeartbeats 400000 in
theorem inr_P_P (p : Addr) (w : World) (h : w.cell? p=some (.string ⟨#[80]⟩)) : Calls Tryz.prog 52 #[.string ⟨#[80]⟩,.pointer (some p)] w fun e w' => e=.returned (.bool true)∧w'=w:=by
 go_enter Tryz.func52,Tryz.ntmps52
 go_wp2_with (first | (go_at_call 95; refine (indexByte73 _ _ (0) (by decide) _).mono ?_; rintro e w1 ⟨rfl,rfl⟩) | go_in)
 go_ret
 exact ⟨rfl,rfl⟩

set_option maxHeartbeats 400000 in
theorem inr_P_S (p : Addr) (w : World) (h : w.cell? p=some (.string ⟨#[80]⟩)) : Calls Tryz.prog 52 #[.string ⟨#[83]⟩,.pointer (some p)] w fun e w' => e=.returned (.bool false)∧w'=w:=by
 go_enter Tryz.func52,Tryz.ntmps52
 go_wp2_with (first | (go_at_call 95; refine (indexByte73 _ _ (-1) (by decide) _).mono ?_; rintro e w1 ⟨rfl,rfl⟩) | go_in)
 go_ret
 exact ⟨rfl,rfl⟩

set_option maxHeartbeats 400000 in
theorem inr_P_I (p : Addr) (w : World) (h : w.cell? p=some (.string ⟨#[80]⟩)) : Calls Tryz.prog 52 #[.string ⟨#[73]⟩,.pointer (some p)] w fun e w' => e=.returned (.bool false)∧w'=w:=by
 go_enter Tryz.func52,Tryz.ntmps52
 go_wp2_with (first | (go_at_call 95; refine (indexByte73 _ _ (-1) (by decide) _).mono ?_; rintro e w1 ⟨rfl,rfl⟩) | go_in)
 go_ret
 exact ⟨rfl,rfl⟩

set_option maxHeartbeats 400000 in
theorem inr_no_P (p : Addr) (w : World) (h : w.cell? p=some (.string ⟨#[]⟩)) : Calls Tryz.prog 52 #[.string ⟨#[80]⟩,.pointer (some p)] w fun e w' => e=.returned (.bool false)∧w'=w:=by
 go_enter Tryz.func52,Tryz.ntmps52
 go_wp2_with (first | (go_at_call 95; refine (indexByte73 _ _ (-1) (by decide) _).mono ?_; rintro e w1 ⟨rfl,rfl⟩) | go_in)
 go_ret
 exact ⟨rfl,rfl⟩

set_option maxHeartbeats 400000 in
theorem inr_no_S (p : Addr) (w : World) (h : w.cell? p=some (.string ⟨#[]⟩)) : Calls Tryz.prog 52 #[.string ⟨#[83]⟩,.pointer (some p)] w fun e w' => e=.returned (.bool false)∧w'=w:=by
 go_enter Tryz.func52,Tryz.ntmps52
 go_wp2_with (first | (go_at_call 95; refine (indexByte73 _ _ (-1) (by decide) _).mono ?_; rintro e w1 ⟨rfl,rfl⟩) | go_in)
 go_ret
 exact ⟨rfl,rfl⟩

set_option maxHeartbeats 400000 in
theorem inr_no_I (p : Addr) (w : World) (h : w.cell? p=some (.string ⟨#[]⟩)) : Calls Tryz.prog 52 #[.string ⟨#[73]⟩,.pointer (some p)] w fun e w' => e=.returned (.bool false)∧w'=w:=by
 go_enter Tryz.func52,Tryz.ntmps52
 go_wp2_with (first | (go_at_call 95; refine (indexByte73 _ _ (-1) (by decide) _).mono ?_; rintro e w1 ⟨rfl,rfl⟩) | go_in)
 go_ret
 exact ⟨rfl,rfl⟩

theorem rhasP (K : Int) (hK : okR K=true) (p : Addr) (w : World) (h : w.cell? p=some (.string (useR K))) : Calls Tryz.prog 52 #[.string ⟨#[80]⟩,.pointer (some p)] w fun e w' => e=.returned (.bool (hasP K))∧w'=w:=by
 have hk : 1≤K∧K≤5:=of_decide_eq_true hK
 rcases (show K=1∨K=2∨K=3∨K=4∨K=5 by omega) with rfl | rfl | rfl | rfl | rfl
 ·exact inr_I_P p w h
 ·exact inr_SI_P p w h
 ·exact inr_P_P p w h
 ·exact inr_I_P p w h
 ·exact inr_no_P p w h

theorem rhasS (K : Int) (hK : okR K=true) (p : Addr) (w : World) (h : w.cell? p=some (.string (useR K))) : Calls Tryz.prog 52 #[.string ⟨#[83]⟩,.pointer (some p)] w fun e w' => e=.returned (.bool (hasS K))∧w'=w:=by
 have hk : 1≤K∧K≤5:=of_decide_eq_true hK
 rcases (show K=1∨K=2∨K=3∨K=4∨K=5 by omega) with rfl | rfl | rfl | rfl | rfl
 ·exact inr_I_S p w h
 ·exact inr_SI_S p w h
 ·exact inr_P_S p w h
 ·exact inr_I_S p w h
 ·exact inr_no_S p w h

theorem rhasI (K : Int) (hK : okR K=true) (p : Addr) (w : World) (h : w.cell? p=some (.string (useR K))) : Calls Tryz.prog 52 #[.string ⟨#[73]⟩,.pointer (some p)] w fun e w' => e=.returned (.bool (hasI K))∧w'=w:=by
 have hk : 1≤K∧K≤5:=of_decide_eq_true hK
 rcases (show K=1∨K=2∨K=3∨K=4∨K=5 by omega) with rfl | rfl | rfl | rfl | rfl
 ·exact inr_I_I p w h
 ·exact inr_SI_I p w h
 ·exact inr_P_I p w h
 ·exact inr_I_I p w h
 ·exact inr_no_I p w h

/-- All entries of the table. -/
theorem use_map5 {ops : Array Oper} {rest : List Oper} {o1 o2 o3 o4 o5 : Oper} {a : Act} {Q : Exit → Act → World → Prop} (w : World) (m : Operand)
    (g1 : o1.guard = none) (d1 : o1.dst = none) (p1 : o1.op = Op.insert 84 m (.const (.int .i64 1)) (.const (.string ⟨#[73]⟩)))
    (g2 : o2.guard = none) (d2 : o2.dst = none) (p2 : o2.op = Op.insert 84 m (.const (.int .i64 2)) (.const (.string ⟨#[83, 73]⟩)))
    (g3 : o3.guard = none) (d3 : o3.dst = none) (p3 : o3.op = Op.insert 84 m (.const (.int .i64 3)) (.const (.string ⟨#[80]⟩)))
    (g4 : o4.guard = none) (d4 : o4.dst = none) (p4 : o4.op = Op.insert 84 m (.const (.int .i64 4)) (.const (.string ⟨#[73]⟩)))
    (g5 : o5.guard = none) (d5 : o5.dst = none) (p5 : o5.op = Op.insert 84 m (.const (.int .i64 5)) (.const (.string ⟨#[]⟩)))
   (b : Nat) (hm : a.eval m = .map (some b)) (hB : w.heap.size = b)
    (hK : ∀ w', TabIs w' b 5 useR okR → (w.alloc (.map #[] 0)).grownBy w' (some b) → wpList Tryz.prog ops Q rest a w') : wpList Tryz.prog ops Q (o1 :: o2 :: o3 :: o4 :: o5 :: rest) a (w.alloc (.map #[] 0)) := by
  have hown := TabIs.made w
  rw [hB] at hown
  refine ins_step _ g1 d1 m 1 _ p1 b 0 _ _ hm hown (by decide) (by decide) (by decide) fun w1 h1 e1 => ?_
  refine ins_step _ g2 d2 m 2 _ p2 b 1 _ _ hm h1 (by decide) (by decide) (by decide) fun w2 h2 e2 => ?_
  refine ins_step _ g3 d3 m 3 _ p3 b 2 _ _ hm h2 (by decide) (by decide) (by decide) fun w3 h3 e3 => ?_
  refine ins_step _ g4 d4 m 4 _ p4 b 3 _ _ hm h3 (by decide) (by decide) (by decide) fun w4 h4 e4 => ?_
  refine ins_step _ g5 d5 m 5 _ p5 b 4 _ _ hm h4 (by decide) (by decide) (by decide) fun w5 h5 e5 => ?_
  refine hK w5 (h5.same (fun x => ?_) (fun x => ?_)) (grown_more (grown_more (grown_more (grown_more e1 e2) e3) e4) e5)
  · unfold useR
    by_cases x1 : x = 1
    · subst x1; rfl
    by_cases x2 : x = 2
    · subst x2; rfl
    by_cases x3 : x = 3
    · subst x3; rfl
    by_cases x4 : x = 4
    · subst x4; rfl
    by_cases x5 : x = 5
    · subst x5; rfl
    simp [x1, x2, x3, x4, x5]
  · unfold okR
    by_cases hx : 1 ≤ x ∧ x ≤ 5
    · rcases (show x = 1 ∨ x = 2 ∨ x = 3 ∨ x = 4 ∨ x = 5 by omega) with rfl | rfl | rfl | rfl | rfl <;> rfl
    · have x1 : ¬ x = 1 := by omega
      have x2 : ¬ x = 2 := by omega
      have x3 : ¬ x = 3 := by omega
      have x4 : ¬ x = 4 := by omega
      have x5 : ¬ x = 5 := by omega
      simp [x1, x2, x3, x4, x5, hx]

/-- A look into the table. -/
theorem look_tab {ops : Array Oper} {rest : List Oper} {o : Oper} {a : Act} {Q : Exit→Act→World→Prop} (w : World) (hg : o.guard=none) (m x : Operand) (hop : o.op=Op.lookup 84 m x true)
  (f : Int→ByteArray) (g : Int→Bool) (b n : Nat) (hm : a.eval m=.map (some b)) (hown : TabIs w b n f g) (key : Int) (hx : a.eval x=.int .i64 key) (hwf : (Lit.int .i64 key).wf=true)
  (hK : wpList Tryz.prog ops Q rest (a.put o.dst (.tuple #[.string (f key),.bool (g key)])) w) : wpList Tryz.prog ops Q (o :: rest) a w:=by
 obtain ⟨D,hD,hat,hhas⟩:=hown
 refine wpList_lookup_own_ok w hg m x 84 hop 3 9 law3 under93 (plainElem Tryz.prog 9) (zero9 w) (.lit (.string [])) [] (plainElem_string (H:=Unit) Tryz.underlying9 (s:=⟨#[]⟩) (by decide)) b n D hm hD _ _ hx (keyOf_int_mk Tryz.underlying3 hwf) ?_
 intro v ps hv
 obtain ⟨s,rfl,hs⟩:=plainElem_string_inv Tryz.underlying9 hv
 rw [hhas]
 have e : s=f key:=by
  rw [hat] at hs
  have h1 : (f key).data.toList=s.data.toList:=by simpa using (congrArg Prod.fst hs.1)
  exact (ByteArray.ext (Array.toList_inj.1 h1)).symm
 rw [e]
 exact hK

/-- The walk stands at an entry of a table. -/
theorem at_ins_r {P : Program} {ops : Array Oper} {Q : Exit→Act→World→Prop} {t ty : TypeId} {m k v : Operand} {pos : String} {after : Array Edge} {rest : List Oper} {a : Act} {w : World}
  (h : wpList P ops Q ({ dst:=none,op:=.insert t m k v,type:=ty,pos:=pos,after:=after,guard:=none } :: rest) a w) : wpList P ops Q ({ dst:=none,op:=.insert t m k v,type:=ty,pos:=pos,after:=after,guard:=none } :: rest) a w:=h

theorem rinC (n lo hi : Int) (w : World) : Calls Tryz.prog 51 #[.int .i64 n,.int .i64 lo,.int .i64 hi] w fun e w' => e=.returned (.bool (decide (lo≤n) && decide (n≤hi)))∧w'=w:=by
 by_cases h0 : lo≤n
 ·by_cases h1 : n≤hi
  ·have hw : (decide (lo≤n) && decide (n≤hi))=true:=by simp [h0,h1]
   rw [hw]
   go_enter Tryz.func51,Tryz.ntmps51
   go_wp2
   go_ret
   exact ⟨rfl,rfl⟩
  ·have hw : (decide (lo≤n) && decide (n≤hi))=false:=by simp [h1]
   rw [hw]
   go_enter Tryz.func51,Tryz.ntmps51
   go_wp2
   go_ret
   exact ⟨rfl,rfl⟩
 ·have hw : (decide (lo≤n) && decide (n≤hi))=false:=by simp [h0]
  rw [hw]
  go_enter Tryz.func51,Tryz.ntmps51
  go_wp2
  go_ret
  exact ⟨rfl,rfl⟩

end Go.Proofs.YtfaggdkiffhdbaaGreatDoor
