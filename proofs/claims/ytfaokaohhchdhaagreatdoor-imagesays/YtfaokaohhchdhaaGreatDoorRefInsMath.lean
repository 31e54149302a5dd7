/- The table of what each instruction has a use for, as a map; small tests: the reckoning beside the program. -/
import Derived.Test.YtfaokaohhchdhaaGreatDoorUseMap
import Derived.Test.YtfaokaohhchdhaaGreatDoorImgRead
import Derived.Test.YtfaokaohhchdhaaGreatDoorInsBase
namespace Go.Proofs.YtfaokaohhchdhaaGreatDoor
open Go.RowKit Go.Maps

/-- What an instruction has a use for,of A,B and C. -/
def useC (K : Int) : ByteArray :=
 if K = 1 then ⟨#[114,110,45]⟩
 else if K = 2 then ⟨#[114,114,45]⟩
 else if K = 3 then ⟨#[114,114,114]⟩
 else if K = 4 then ⟨#[114,114,110]⟩
 else if K = 5 then ⟨#[114,110,45]⟩
 else if K = 6 then ⟨#[114,114,110]⟩
 else if K = 7 then ⟨#[114,110,45]⟩
 else if K = 8 then ⟨#[114,45,45]⟩
 else if K = 9 then ⟨#[114,45,45]⟩
 else if K = 10 then ⟨#[45,45,45]⟩
 else if K = 11 then ⟨#[114,45,45]⟩
 else if K = 12 then ⟨#[45,110,45]⟩
 else if K = 13 then ⟨#[114,110,45]⟩
 else ⟨#[]⟩
def okC (K : Int) : Bool:=decide (1 ≤ K∧K ≤ 13)

theorem use_map13 {ops : Array Oper} {rest : List Oper} {o1 o2 o3 o4 o5 o6 o7 o8 o9 o10 o11 o12 o13 : Oper} {a : Act} {Q : Exit→Act→World→Prop} (w : World) (m : Operand)
  (g1 : o1.guard = none) (d1 : o1.dst = none) (p1 : o1.op = Op.insert 147 m (.const (.int .i64 1)) (.const (.string ⟨#[114,110,45]⟩)))
  (g2 : o2.guard = none) (d2 : o2.dst = none) (p2 : o2.op = Op.insert 147 m (.const (.int .i64 2)) (.const (.string ⟨#[114,114,45]⟩)))
  (g3 : o3.guard = none) (d3 : o3.dst = none) (p3 : o3.op = Op.insert 147 m (.const (.int .i64 3)) (.const (.string ⟨#[114,114,114]⟩)))
  (g4 : o4.guard = none) (d4 : o4.dst = none) (p4 : o4.op = Op.insert 147 m (.const (.int .i64 4)) (.const (.string ⟨#[114,114,110]⟩)))
  (g5 : o5.guard = none) (d5 : o5.dst = none) (p5 : o5.op = Op.insert 147 m (.const (.int .i64 5)) (.const (.string ⟨#[114,110,45]⟩)))
  (g6 : o6.guard = none) (d6 : o6.dst = none) (p6 : o6.op = Op.insert 147 m (.const (.int .i64 6)) (.const (.string ⟨#[114,114,110]⟩)))
  (g7 : o7.guard = none) (d7 : o7.dst = none) (p7 : o7.op = Op.insert 147 m (.const (.int .i64 7)) (.const (.string ⟨#[114,110,45]⟩)))
  (g8 : o8.guard = none) (d8 : o8.dst = none) (p8 : o8.op = Op.insert 147 m (.const (.int .i64 8)) (.const (.string ⟨#[114,45,45]⟩)))
  (g9 : o9.guard = none) (d9 : o9.dst = none) (p9 : o9.op = Op.insert 147 m (.const (.int .i64 9)) (.const (.string ⟨#[114,45,45]⟩)))
  (g10 : o10.guard = none) (d10 : o10.dst = none) (p10 : o10.op = Op.insert 147 m (.const (.int .i64 10)) (.const (.string ⟨#[45,45,45]⟩)))
  (g11 : o11.guard = none) (d11 : o11.dst = none) (p11 : o11.op = Op.insert 147 m (.const (.int .i64 11)) (.const (.string ⟨#[114,45,45]⟩)))
  (g12 : o12.guard = none) (d12 : o12.dst = none) (p12 : o12.op = Op.insert 147 m (.const (.int .i64 12)) (.const (.string ⟨#[45,110,45]⟩)))
  (g13 : o13.guard = none) (d13 : o13.dst = none) (p13 : o13.op = Op.insert 147 m (.const (.int .i64 13)) (.const (.string ⟨#[114,110,45]⟩)))
  (b : Nat) (hm : a.eval m = .map (some b)) (hB : w.heap.size = b)
  (hK : ∀ w',TabIs w' b 13 useC okC→(w.alloc (.map #[] 0)).grownBy w' (some b)→wpList Tryz.prog ops Q rest a w') : wpList Tryz.prog ops Q (o1 :: o2 :: o3 :: o4 :: o5 :: o6 :: o7 :: o8 :: o9 :: o10 :: o11 :: o12 :: o13 :: rest) a (w.alloc (.map #[] 0)):=by
 have hown:=TabIs.made w
 rw [hB] at hown
 refine ins_step _ g1 d1 m 1 _ p1 b 0 _ _ hm hown (by decide) (by decide) (by decide) fun w1 h1 e1 => ?_
 refine ins_step _ g2 d2 m 2 _ p2 b 1 _ _ hm h1 (by decide) (by decide) (by decide) fun w2 h2 e2 => ?_
 refine ins_step _ g3 d3 m 3 _ p3 b 2 _ _ hm h2 (by decide) (by decide) (by decide) fun w3 h3 e3 => ?_
 refine ins_step _ g4 d4 m 4 _ p4 b 3 _ _ hm h3 (by decide) (by decide) (by decide) fun w4 h4 e4 => ?_
 refine ins_step _ g5 d5 m 5 _ p5 b 4 _ _ hm h4 (by decide) (by decide) (by decide) fun w5 h5 e5 => ?_
 refine ins_step _ g6 d6 m 6 _ p6 b 5 _ _ hm h5 (by decide) (by decide) (by decide) fun w6 h6 e6 => ?_
 refine ins_step _ g7 d7 m 7 _ p7 b 6 _ _ hm h6 (by decide) (by decide) (by decide) fun w7 h7 e7 => ?_
 refine ins_step _ g8 d8 m 8 _ p8 b 7 _ _ hm h7 (by decide) (by decide) (by decide) fun w8 h8 e8 => ?_
 refine ins_step _ g9 d9 m 9 _ p9 b 8 _ _ hm h8 (by decide) (by decide) (by decide) fun w9 h9 e9 => ?_
 refine ins_step _ g10 d10 m 10 _ p10 b 9 _ _ hm h9 (by decide) (by decide) (by decide) fun w10 h10 e10 => ?_
 refine ins_step _ g11 d11 m 11 _ p11 b 10 _ _ hm h10 (by decide) (by decide) (by decide) fun w11 h11 e11 => ?_
 refine ins_step _ g12 d12 m 12 _ p12 b 11 _ _ hm h11 (by decide) (by decide) (by decide) fun w12 h12 e12 => ?_
 refine ins_step _ g13 d13 m 13 _ p13 b 12 _ _ hm h12 (by decide) (by decide) (by decide) fun w13 h13 e13 => ?_
 refine hK w13 (h13.same (fun x => ?_) (fun x => ?_)) (grown_more (grown_more (grown_more (grown_more (grown_more (grown_more (grown_more (grown_more (grown_more (grown_more (grown_more (grown_more e1 e2) e3) e4) e5) e6) e7) e8) e9) e10) e11) e12) e13)
 ·unfold useC
  by_cases x1 : x = 1
  ·subst x1; rfl
  by_cases x2 : x = 2
  ·subst x2; rfl
  by_cases x3 : x = 3
  ·subst x3; rfl
  by_cases x4 : x = 4
  ·subst x4; rfl
  by_cases x5 : x = 5
  ·subst x5; rfl
  by_cases x6 : x = 6
  ·subst x6; rfl
  by_cases x7 : x = 7
  ·subst x7; rfl
  by_cases x8 : x = 8
  ·subst x8; rfl
  by_cases x9 : x = 9
  ·subst x9; rfl
  by_cases x10 : x = 10
  ·subst x10; rfl
  by_cases x11 : x = 11
  ·subst x11; rfl
  by_cases x12 : x = 12
  ·subst x12; rfl
  by_cases x13 : x = 13
  ·subst x13; rfl
  simp [x1,x2,x3,x4,x5,x6,x7,x8,x9,x10,x11,x12,x13]
 ·unfold okC
  by_cases hx : 1 ≤ x∧x ≤ 13
  ·rcases (show x = 1 ∨ x = 2 ∨ x = 3 ∨ x = 4 ∨ x = 5 ∨ x = 6 ∨ x = 7 ∨ x = 8 ∨ x = 9 ∨ x = 10 ∨ x = 11 ∨ x = 12 ∨ x = 13 by omega) with rfl | rfl | rfl | rfl | rfl | rfl | rfl | rfl | rfl | rfl | rfl | rfl | rfl <;> rfl
  ·have x1 : ¬ x = 1:=by omega
   have x2 : ¬ x = 2:=by omega
   have x3 : ¬ x = 3:=by omega
   have x4 : ¬ x = 4:=by omega
   have x5 : ¬ x = 5:=by omega
   have x6 : ¬ x = 6:=by omega
   have x7 : ¬ x = 7:=by omega
   have x8 : ¬ x = 8:=by omega
   have x9 : ¬ x = 9:=by omega
   have x10 : ¬ x = 10:=by omega
   have x11 : ¬ x = 11:=by omega
   have x12 : ¬ x = 12:=by omega
   have x13 : ¬ x = 13:=by omega
   simp [x1,x2,x3,x4,x5,x6,x7,x8,x9,x10,x11,x12,x13,hx]

/-- A look into the table. -/
theorem look_ins {ops : Array Oper} {rest : List Oper} {o : Oper} {a : Act} {Q : Exit→Act→World→Prop} (w : World) (hg : o.guard = none) (m x : Operand) (hop : o.op = Op.lookup 147 m x true)
  (b n : Nat) (hm : a.eval m = .map (some b)) (hown : TabIs w b n useC okC) (key : Int) (hx : a.eval x = .int .i64 key) (hwf : (Lit.int .i64 key).wf = true)
  (hK : wpList Tryz.prog ops Q rest (a.put o.dst (.tuple #[.string (useC key),.bool (okC key)])) w) : wpList Tryz.prog ops Q (o :: rest) a w:=by
 obtain ⟨D,hD,hat,hhas⟩:=hown
 refine wpList_lookup_own_ok w hg m x 147 hop 3 9 law3 under93 (plainElem Tryz.prog 9) (zero9 w) (.lit (.string [])) [] (plainElem_string (H:=Unit) Tryz.underlying9 (s:=⟨#[]⟩) (by decide)) b n D hm hD _ _ hx (keyOf_int_mk Tryz.underlying3 hwf) ?_
 intro v ps hv
 obtain ⟨s,rfl,hs⟩:=plainElem_string_inv Tryz.underlying9 hv
 rw [hhas]
 have e : s = useC key:=by
  rw [hat] at hs
  have h1 : (useC key).data.toList = s.data.toList:=by simpa using (congrArg Prod.fst hs.1)
  exact (ByteArray.ext (Array.toList_inj.1 h1)).symm
 rw [e]
 exact hK

/-- What it has a use for at k: 114 a register,110 a number,45 nothing. -/
def uc (K : Int) (k : Nat) : Int:=((useC K).data.toList.getD k 0).toNat

theorem idxU0 (x y z : UInt8) (w : World) : (Instr.index 9 (.string ⟨#[x,y,z]⟩) (.int .i64 0)).run Tryz.prog w = .ok (.int .u8 x.toNat) w:=by kernel_rfl
theorem idxU1 (x y z : UInt8) (w : World) : (Instr.index 9 (.string ⟨#[x,y,z]⟩) (.int .i64 1)).run Tryz.prog w = .ok (.int .u8 y.toNat) w:=by kernel_rfl
theorem idxU2 (x y z : UInt8) (w : World) : (Instr.index 9 (.string ⟨#[x,y,z]⟩) (.int .i64 2)).run Tryz.prog w = .ok (.int .u8 z.toNat) w:=by kernel_rfl

theorem useC_index (K : Int) (hK : okC K = true) (k : Nat) (hk : k < 3) (w : World) : (Instr.index 9 (.string (useC K)) (.int .i64 k)).run Tryz.prog w = .ok (.int .u8 (uc K k)) w:=by
 have h : 1 ≤ K∧K ≤ 13:=of_decide_eq_true hK
 rcases (show K = 1 ∨ K = 2 ∨ K = 3 ∨ K = 4 ∨ K = 5 ∨ K = 6 ∨ K = 7 ∨ K = 8 ∨ K = 9 ∨ K = 10 ∨ K = 11 ∨ K = 12 ∨ K = 13 by omega) with rfl | rfl | rfl | rfl | rfl | rfl | rfl | rfl | rfl | rfl | rfl | rfl | rfl
 all_goals
  rcases (show k = 0 ∨ k = 1 ∨ k = 2 by omega) with rfl | rfl | rfl
  ·exact idxU0 _ _ _ w
  ·exact idxU1 _ _ _ w
  ·exact idxU2 _ _ _ w

set_option maxHeartbeats 400000 in
theorem rIn (n lo hi : Int) (w : World) : Calls Tryz.prog 48 #[.int .i64 n,.int .i64 lo,.int .i64 hi] w fun e w' => e = .returned (.bool (fromB n lo hi))∧w' = w:=by
 go_enter Tryz.func48,Tryz.ntmps48
 go_wp2
 all_goals
  go_ret
  refine ⟨ret_bool ?_,rfl⟩
  go_light
  unfold fromB
  simp_all
  try omega

set_option maxHeartbeats 400000 in
theorem rBelow (n m : Int) (w : World) : Calls Tryz.prog 60 #[.int .i64 n,.int .i64 m] w fun e w' => e = .returned (.bool (fromB n 0 (m - 1)))∧w' = w:=by
 go_enter Tryz.func60,Tryz.ntmps60
 go_wp2
 all_goals
  go_ret
  refine ⟨ret_bool ?_,rfl⟩
  go_light
  unfold fromB
  simp_all
  try omega

set_option maxHeartbeats 400000 in
theorem rFits (n : Int) (w : World) : Calls Tryz.prog 58 #[.int .i64 n] w fun e w' => e = .returned (.bool (fromB n (-1000000000) 1000000000))∧w' = w:=by
 go_enter Tryz.func58,Tryz.ntmps58
 go_wp2_with (go_at_call 48; refine (rIn _ _ _ _).mono ?_; rintro e w1 ⟨rfl,h1⟩; rw [h1]; clear h1)
 go_ret
 exact ⟨rfl,rfl⟩

/-- A,B and C by their places. -/
def abc (i : In) (k : Nat) : Int:=if k = 0 then i.a else if k = 1 then i.b else i.c

theorem regsB_all {i : In} {regs : Int} (ho : okC i.op = true) (h : ∀ k,k < 3→uc i.op k = 114→fromB (abc i k) 0 (regs - 1) = true) : regsB i regs = true:=by
 have h0:=h 0 (by omega)
 have h1:=h 1 (by omega)
 have h2:=h 2 (by omega)
 obtain ⟨op,a,b,c,n,z⟩:=i
 have hh : 1 ≤ op∧op ≤ 13:=of_decide_eq_true ho
 simp only [abc] at h0 h1 h2
 rcases (show op = 1 ∨ op = 2 ∨ op = 3 ∨ op = 4 ∨ op = 5 ∨ op = 6 ∨ op = 7 ∨ op = 8 ∨ op = 9 ∨ op = 10 ∨ op = 11 ∨ op = 12 ∨ op = 13 by omega) with rfl | rfl | rfl | rfl | rfl | rfl | rfl | rfl | rfl | rfl | rfl | rfl | rfl
 all_goals
  simp [uc,useC] at h0 h1 h2
  simp [regsB, *]

theorem regsB_bad {i : In} {regs : Int} (ho : okC i.op = true) {k : Nat} (hk : k < 3) (hu : uc i.op k = 114) (h : fromB (abc i k) 0 (regs - 1) = false) : regsB i regs = false:=by
 obtain ⟨op,a,b,c,n,z⟩:=i
 have hh : 1 ≤ op∧op ≤ 13:=of_decide_eq_true ho
 rcases (show op = 1 ∨ op = 2 ∨ op = 3 ∨ op = 4 ∨ op = 5 ∨ op = 6 ∨ op = 7 ∨ op = 8 ∨ op = 9 ∨ op = 10 ∨ op = 11 ∨ op = 12 ∨ op = 13 by omega) with rfl | rfl | rfl | rfl | rfl | rfl | rfl | rfl | rfl | rfl | rfl | rfl | rfl
 all_goals
  rcases (show k = 0 ∨ k = 1 ∨ k = 2 by omega) with rfl | rfl | rfl
  all_goals
   simp [uc,useC] at hu
   try (simp [abc] at h; simp [regsB,h])

/-- How many Args it should have. -/
def argsOf (par : Nat→Int) (i : In) : Int:=if i.op = 7 then par i.b.toNat else if i.op = 3 then 1 else 0

theorem bareB_good {i : In} {par : Nat→Int} {code : Int} (ho : okC i.op = true) (hr : restB i code = true) (h : ∀ k,k < 3→uc i.op k = 45→abc i k = 0) (hn : (i.n : Int) = argsOf par i) : ¬ (bareB i = false ∨ (i.op = 7∧¬ (i.n : Int) = par i.b.toNat)):=by
 have h0:=h 0 (by omega)
 have h1:=h 1 (by omega)
 have h2:=h 2 (by omega)
 obtain ⟨op,a,b,c,n,z⟩:=i
 have hh : 1 ≤ op∧op ≤ 13:=of_decide_eq_true ho
 simp only [abc] at h0 h1 h2
 rcases (show op = 1 ∨ op = 2 ∨ op = 3 ∨ op = 4 ∨ op = 5 ∨ op = 6 ∨ op = 7 ∨ op = 8 ∨ op = 9 ∨ op = 10 ∨ op = 11 ∨ op = 12 ∨ op = 13 by omega) with rfl | rfl | rfl | rfl | rfl | rfl | rfl | rfl | rfl | rfl | rfl | rfl | rfl
 all_goals
  simp [uc,useC] at h0 h1 h2
  simp [argsOf] at hn
  simp [bareB, *]

theorem bareB_zero {i : In} {par : Nat→Int} (ho : okC i.op = true) {k : Nat} (hk : k < 3) (hu : uc i.op k = 45) (h : ¬ abc i k = 0) : bareB i = false ∨ (i.op = 7∧¬ (i.n : Int) = par i.b.toNat):=by
 left
 obtain ⟨op,a,b,c,n,z⟩:=i
 have hh : 1 ≤ op∧op ≤ 13:=of_decide_eq_true ho
 rcases (show op = 1 ∨ op = 2 ∨ op = 3 ∨ op = 4 ∨ op = 5 ∨ op = 6 ∨ op = 7 ∨ op = 8 ∨ op = 9 ∨ op = 10 ∨ op = 11 ∨ op = 12 ∨ op = 13 by omega) with rfl | rfl | rfl | rfl | rfl | rfl | rfl | rfl | rfl | rfl | rfl | rfl | rfl
 all_goals
  rcases (show k = 0 ∨ k = 1 ∨ k = 2 by omega) with rfl | rfl | rfl
  all_goals
   simp [uc,useC] at hu
   try (simp [abc] at h; simp [bareB,h])

theorem bareB_len {i : In} {par : Nat→Int} {code : Int} (ho : okC i.op = true) (hr : restB i code = true) (hn : ¬ (i.n : Int) = argsOf par i) : bareB i = false ∨ (i.op = 7∧¬ (i.n : Int) = par i.b.toNat):=by
 obtain ⟨op,a,b,c,n,z⟩:=i
 have hh : 1 ≤ op∧op ≤ 13:=of_decide_eq_true ho
 rcases (show op = 1 ∨ op = 2 ∨ op = 3 ∨ op = 4 ∨ op = 5 ∨ op = 6 ∨ op = 7 ∨ op = 8 ∨ op = 9 ∨ op = 10 ∨ op = 11 ∨ op = 12 ∨ op = 13 by omega) with rfl | rfl | rfl | rfl | rfl | rfl | rfl | rfl | rfl | rfl | rfl | rfl | rfl
 all_goals
  simp [argsOf] at hn
  simp [restB] at hr
  first
   | (simp [bareB, *]; done)
   | (exfalso; omega)

end Go.Proofs.YtfaokaohhchdhaaGreatDoor
