/- The table of what each kind of statement has a use for, and strings.Contains of a letter in it: the reckoning beside the program. -/
import Derived.Test.YtfaokaohhchdhaaGreatDoorPart1
import Derived.Maps.StringElems
import Derived.Laws.Externs
import Derived.Lib.Bytealg
namespace Go.Proofs.YtfaokaohhchdhaaGreatDoor
open Go.RowKit Go.Maps
def useF (K : Int) : ByteArray :=
 if K=1 then ⟨#[78,69]⟩
 else if K=2 then ⟨#[78,69,70]⟩
 else if K=3 then ⟨#[69]⟩
 else if K=4 then ⟨#[]⟩
 else if K=5 then ⟨#[69]⟩
 else if K=6 then ⟨#[69,65,66]⟩
 else if K=7 then ⟨#[69,65]⟩
 else if K=8 then ⟨#[69]⟩
 else ⟨#[]⟩
def okF (K : Int) : Bool:=decide (1≤K∧K≤8)
def usesN (K : Int) : Bool:=decide (K=1∨K=2)
def hasE (K : Int) : Bool:=!decide (K=4)
def hasF (K : Int) : Bool:=decide (K=2)
def usesA (K : Int) : Bool:=decide (K=6∨K=7)
def hasB (K : Int) : Bool:=decide (K=6)
set_option maxHeartbeats 1000000 in
set_option maxRecDepth 100000 in
theorem indexByte73 (s : ByteArray) (c r : Int) (hr : Lib.indexByte s.data.toList c.toNat.toUInt8=r) (w : World) : Calls Tryz.prog 227 #[.string s,.int .u8 c] w fun e w' => e=.returned (.int .i64 r)∧w'=w:=by
 subst hr
 go_enter Tryz.func227,Tryz.ntmps227
 go_wp2
 rw [run_callFunc_extern Tryz.func249 (by kernel_rfl) (by kernel_rfl) (by kernel_rfl) (e:=Extern.BytealgIndexByte.indexByte) (by kernel_rfl),Lib.run_indexByteString]
 simp only [Result.andThen]
 rw [Oper.upon_value]
 go_wp2
 go_ret
 exact ⟨rfl,rfl⟩
set_option maxHeartbeats 400000 in
theorem in_NE_N (p : Addr) (w : World) (h : w.cell? p=some (.string ⟨#[78,69]⟩)) : Calls Tryz.prog 215 #[.string ⟨#[78]⟩,.pointer (some p)] w fun e w' => e=.returned (.bool true)∧w'=w:=by
 go_enter Tryz.func215,Tryz.ntmps215
 go_wp2_with (first | (go_at_call 227; refine (indexByte73 _ _ (0) (by decide) _).mono ?_; rintro e w1 ⟨rfl,rfl⟩) | go_in)
 go_ret
 exact ⟨rfl,rfl⟩
set_option maxHeartbeats 400000 in
theorem in_NE_E (p : Addr) (w : World) (h : w.cell? p=some (.string ⟨#[78,69]⟩)) : Calls Tryz.prog 215 #[.string ⟨#[69]⟩,.pointer (some p)] w fun e w' => e=.returned (.bool true)∧w'=w:=by
 go_enter Tryz.func215,Tryz.ntmps215
 go_wp2_with (first | (go_at_call 227; refine (indexByte73 _ _ (1) (by decide) _).mono ?_; rintro e w1 ⟨rfl,rfl⟩) | go_in)
 go_ret
 exact ⟨rfl,rfl⟩
set_option maxHeartbeats 400000 in
theorem in_NE_F (p : Addr) (w : World) (h : w.cell? p=some (.string ⟨#[78,69]⟩)) : Calls Tryz.prog 215 #[.string ⟨#[70]⟩,.pointer (some p)] w fun e w' => e=.returned (.bool false)∧w'=w:=by
 go_enter Tryz.func215,Tryz.ntmps215
 go_wp2_with (first | (go_at_call 227; refine (indexByte73 _ _ (-1) (by decide) _).mono ?_; rintro e w1 ⟨rfl,rfl⟩) | go_in)
 go_ret
 exact ⟨rfl,rfl⟩
set_option maxHeartbeats 400000 in
theorem in_NE_A (p : Addr) (w : World) (h : w.cell? p=some (.string ⟨#[78,69]⟩)) : Calls Tryz.prog 215 #[.string ⟨#[65]⟩,.pointer (some p)] w fun e w' => e=.returned (.bool false)∧w'=w:=by
 go_enter Tryz.func215,Tryz.ntmps215
 go_wp2_with (first | (go_at_call 227; refine (indexByte73 _ _ (-1) (by decide) _).mono ?_; rintro e w1 ⟨rfl,rfl⟩) | go_in)
 go_ret
 exact ⟨rfl,rfl⟩
set_option maxHeartbeats 400000 in
theorem in_NE_B (p : Addr) (w : World) (h : w.cell? p=some (.string ⟨#[78,69]⟩)) : Calls Tryz.prog 215 #[.string ⟨#[66]⟩,.pointer (some p)] w fun e w' => e=.returned (.bool false)∧w'=w:=by
 go_enter Tryz.func215,Tryz.ntmps215
 go_wp2_with (first | (go_at_call 227; refine (indexByte73 _ _ (-1) (by decide) _).mono ?_; rintro e w1 ⟨rfl,rfl⟩) | go_in)
 go_ret
 exact ⟨rfl,rfl⟩
set_option maxHeartbeats 400000 in
theorem in_NEF_N (p : Addr) (w : World) (h : w.cell? p=some (.string ⟨#[78,69,70]⟩)) : Calls Tryz.prog 215 #[.string ⟨#[78]⟩,.pointer (some p)] w fun e w' => e=.returned (.bool true)∧w'=w:=by
 go_enter Tryz.func215,Tryz.ntmps215
 go_wp2_with (first | (go_at_call 227; refine (indexByte73 _ _ (0) (by decide) _).mono ?_; rintro e w1 ⟨rfl,rfl⟩) | go_in)
 go_ret
 exact ⟨rfl,rfl⟩
set_option maxHeartbeats 400000 in
theorem in_NEF_E (p : Addr) (w : World) (h : w.cell? p=some (.string ⟨#[78,69,70]⟩)) : Calls Tryz.prog 215 #[.string ⟨#[69]⟩,.pointer (some p)] w fun e w' => e=.returned (.bool true)∧w'=w:=by
 go_enter Tryz.func215,Tryz.ntmps215
 go_wp2_with (first | (go_at_call 227; refine (indexByte73 _ _ (1) (by decide) _).mono ?_; rintro e w1 ⟨rfl,rfl⟩) | go_in)
 go_ret
 exact ⟨rfl,rfl⟩
set_option maxHeartbeats 400000 in
theorem in_NEF_F (p : Addr) (w : World) (h : w.cell? p=some (.string ⟨#[78,69,70]⟩)) : Calls Tryz.prog 215 #[.string ⟨#[70]⟩,.pointer (some p)] w fun e w' => e=.returned (.bool true)∧w'=w:=by
 go_enter Tryz.func215,Tryz.ntmps215
 go_wp2_with (first | (go_at_call 227; refine (indexByte73 _ _ (2) (by decide) _).mono ?_; rintro e w1 ⟨rfl,rfl⟩) | go_in)
 go_ret
 exact ⟨rfl,rfl⟩
set_option maxHeartbeats 400000 in
theorem in_NEF_A (p : Addr) (w : World) (h : w.cell? p=some (.string ⟨#[78,69,70]⟩)) : Calls Tryz.prog 215 #[.string ⟨#[65]⟩,.pointer (some p)] w fun e w' => e=.returned (.bool false)∧w'=w:=by
 go_enter Tryz.func215,Tryz.ntmps215
 go_wp2_with (first | (go_at_call 227; refine (indexByte73 _ _ (-1) (by decide) _).mono ?_; rintro e w1 ⟨rfl,rfl⟩) | go_in)
 go_ret
 exact ⟨rfl,rfl⟩
set_option maxHeartbeats 400000 in
theorem in_NEF_B (p : Addr) (w : World) (h : w.cell? p=some (.string ⟨#[78,69,70]⟩)) : Calls Tryz.prog 215 #[.string ⟨#[66]⟩,.pointer (some p)] w fun e w' => e=.returned (.bool false)∧w'=w:=by
 go_enter Tryz.func215,Tryz.ntmps215
 go_wp2_with (first | (go_at_call 227; refine (indexByte73 _ _ (-1) (by decide) _).mono ?_; rintro e w1 ⟨rfl,rfl⟩) | go_in)
 go_ret
 exact ⟨rfl,rfl⟩
set_option maxHeartbeats 400000 in
theorem in_E_N (p : Addr) (w : World) (h : w.cell? p=some (.string ⟨#[69]⟩)) : Calls Tryz.prog 215 #[.string ⟨#[78]⟩,.pointer (some p)] w fun e w' => e=.returned (.bool false)∧w'=w:=by
 go_enter Tryz.func215,Tryz.ntmps215
 go_wp2_with (first | (go_at_call 227; refine (indexByte73 _ _ (-1) (by decide) _).mono ?_; rintro e w1 ⟨rfl,rfl⟩) | go_in)
 go_ret
 exact ⟨rfl,rfl⟩
set_option maxHeartbeats 400000 in
theorem in_E_E (p : Addr) (w : World) (h : w.cell? p=some (.string ⟨#[69]⟩)) : Calls Tryz.prog 215 #[.string ⟨#[69]⟩,.pointer (some p)] w fun e w' => e=.returned (.bool true)∧w'=w:=by
 go_enter Tryz.func215,Tryz.ntmps215
 go_wp2_with (first | (go_at_call 227; refine (indexByte73 _ _ (0) (by decide) _).mono ?_; rintro e w1 ⟨rfl,rfl⟩) | go_in)
 go_ret
 exact ⟨rfl,rfl⟩
set_option maxHeartbeats 400000 in
theorem in_E_F (p : Addr) (w : World) (h : w.cell? p=some (.string ⟨#[69]⟩)) : Calls Tryz.prog 215 #[.string ⟨#[70]⟩,.pointer (some p)] w fun e w' => e=.returned (.bool false)∧w'=w:=by
 go_enter Tryz.func215,Tryz.ntmps215
 go_wp2_with (first | (go_at_call 227; refine (indexByte73 _ _ (-1) (by decide) _).mono ?_; rintro e w1 ⟨rfl,rfl⟩) | go_in)
 go_ret
 exact ⟨rfl,rfl⟩
set_option maxHeartbeats 400000 in
theorem in_E_A (p : Addr) (w : World) (h : w.cell? p=some (.string ⟨#[69]⟩)) : Calls Tryz.prog 215 #[.string ⟨#[65]⟩,.pointer (some p)] w fun e w' => e=.returned (.bool false)∧w'=w:=by
 go_enter Tryz.func215,Tryz.ntmps215
 go_wp2_with (first | (go_at_call 227; refine (indexByte73 _ _ (-1) (by decide) _).mono ?_; rintro e w1 ⟨rfl,rfl⟩) | go_in)
 go_ret
 exact ⟨rfl,rfl⟩
set_option maxHeartbeats 400000 in
theorem in_E_B (p : Addr) (w : World) (h : w.cell? p=some (.string ⟨#[69]⟩)) : Calls Tryz.prog 215 #[.string ⟨#[66]⟩,.pointer (some p)] w fun e w' => e=.returned (.bool false)∧w'=w:=by
 go_enter Tryz.func215,Tryz.ntmps215
 go_wp2_with (first | (go_at_call 227; refine (indexByte73 _ _ (-1) (by decide) _).mono ?_; rintro e w1 ⟨rfl,rfl⟩) | go_in)
 go_ret
 exact ⟨rfl,rfl⟩
set_option maxHeartbeats 400000 in
theorem in_none_N (p : Addr) (w : World) (h : w.cell? p=some (.string ⟨#[]⟩)) : Calls Tryz.prog 215 #[.string ⟨#[78]⟩,.pointer (some p)] w fun e w' => e=.returned (.bool false)∧w'=w:=by
 go_enter Tryz.func215,Tryz.ntmps215
 go_wp2_with (first | (go_at_call 227; refine (indexByte73 _ _ (-1) (by decide) _).mono ?_; rintro e w1 ⟨rfl,rfl⟩) | go_in)
 go_ret
 exact ⟨rfl,rfl⟩
set_option maxHeartbeats 400000 in
theorem in_none_E (p : Addr) (w : World) (h : w.cell? p=some (.string ⟨#[]⟩)) : Calls Tryz.prog 215 #[.string ⟨#[69]⟩,.pointer (some p)] w fun e w' => e=.returned (.bool false)∧w'=w:=by
 go_enter Tryz.func215,Tryz.ntmps215
 go_wp2_with (first | (go_at_call 227; refine (indexByte73 _ _ (-1) (by decide) _).mono ?_; rintro e w1 ⟨rfl,rfl⟩) | go_in)
 go_ret
 exact ⟨rfl,rfl⟩
set_option maxHeartbeats 400000 in
theorem in_none_F (p : Addr) (w : World) (h : w.cell? p=some (.string ⟨#[]⟩)) : Calls Tryz.prog 215 #[.string ⟨#[70]⟩,.pointer (some p)] w fun e w' => e=.returned (.bool false)∧w'=w:=by
 go_enter Tryz.func215,Tryz.ntmps215
 go_wp2_with (first | (go_at_call 227; refine (indexByte73 _ _ (-1) (by decide) _).mono ?_; rintro e w1 ⟨rfl,rfl⟩) | go_in)
 go_ret
 exact ⟨rfl,rfl⟩
set_option maxHeartbeats 400000 in
theorem in_none_A (p : Addr) (w : World) (h : w.cell? p=some (.string ⟨#[]⟩)) : Calls Tryz.prog 215 #[.string ⟨#[65]⟩,.pointer (some p)] w fun e w' => e=.returned (.bool false)∧w'=w:=by
 go_enter Tryz.func215,Tryz.ntmps215
 go_wp2_with (first | (go_at_call 227; refine (indexByte73 _ _ (-1) (by decide) _).mono ?_; rintro e w1 ⟨rfl,rfl⟩) | go_in)
 go_ret
 exact ⟨rfl,rfl⟩
set_option maxHeartbeats 400000 in
theorem in_none_B (p : Addr) (w : World) (h : w.cell? p=some (.string ⟨#[]⟩)) : Calls Tryz.prog 215 #[.string ⟨#[66]⟩,.pointer (some p)] w fun e w' => e=.returned (.bool false)∧w'=w:=by
 go_enter Tryz.func215,Tryz.ntmps215
 go_wp2_with (first | (go_at_call 227; refine (indexByte73 _ _ (-1) (by decide) _).mono ?_; rintro e w1 ⟨rfl,rfl⟩) | go_in)
 go_ret
 exact ⟨rfl,rfl⟩
set_option maxHeartbeats 400000 in
theorem in_EAB_N (p : Addr) (w : World) (h : w.cell? p=some (.string ⟨#[69,65,66]⟩)) : Calls Tryz.prog 215 #[.string ⟨#[78]⟩,.pointer (some p)] w fun e w' => e=.returned (.bool false)∧w'=w:=by
 go_enter Tryz.func215,Tryz.ntmps215
 go_wp2_with (first | (go_at_call 227; refine (indexByte73 _ _ (-1) (by decide) _).mono ?_; rintro e w1 ⟨rfl,rfl⟩) | go_in)
 go_ret
 exact ⟨rfl,rfl⟩
set_option maxHeartbeats 400000 in
theorem in_EAB_E (p : Addr) (w : World) (h : w.cell? p=some (.string ⟨#[69,65,66]⟩)) : Calls Tryz.prog 215 #[.string ⟨#[69]⟩,.pointer (some p)] w fun e w' => e=.returned (.bool true)∧w'=w:=by
 go_enter Tryz.func215,Tryz.ntmps215
 go_wp2_with (first | (go_at_call 227; refine (indexByte73 _ _ (0) (by decide) _).mono ?_; rintro e w1 ⟨rfl,rfl⟩) | go_in)
 go_ret
 exact ⟨rfl,rfl⟩
set_option maxHeartbeats 400000 in
theorem in_EAB_F (p : Addr) (w : World) (h : w.cell? p=some (.string ⟨#[69,65,66]⟩)) : Calls Tryz.prog 215 #[.string ⟨#[70]⟩,.pointer (some p)] w fun e w' => e=.returned (.bool false)∧w'=w:=by
 go_enter Tryz.func215,Tryz.ntmps215
 go_wp2_with (first | (go_at_call 227; refine (indexByte73 _ _ (-1) (by decide) _).mono ?_; rintro e w1 ⟨rfl,rfl⟩) | go_in)
 go_ret
 exact ⟨rfl,rfl⟩
set_option maxHeartbeats 400000 in
theorem in_EAB_A (p : Addr) (w : World) (h : w.cell? p=some (.string ⟨#[69,65,66]⟩)) : Calls Tryz.prog 215 #[.string ⟨#[65]⟩,.pointer (some p)] w fun e w' => e=.returned (.bool true)∧w'=w:=by
 go_enter Tryz.func215,Tryz.ntmps215
 go_wp2_with (first | (go_at_call 227; refine (indexByte73 _ _ (1) (by decide) _).mono ?_; rintro e w1 ⟨rfl,rfl⟩) | go_in)
 go_ret
 exact ⟨rfl,rfl⟩
set_option maxHeartbeats 400000 in
theorem in_EAB_B (p : Addr) (w : World) (h : w.cell? p=some (.string ⟨#[69,65,66]⟩)) : Calls Tryz.prog 215 #[.string ⟨#[66]⟩,.pointer (some p)] w fun e w' => e=.returned (.bool true)∧w'=w:=by
 go_enter Tryz.func215,Tryz.ntmps215
 go_wp2_with (first | (go_at_call 227; refine (indexByte73 _ _ (2) (by decide) _).mono ?_; rintro e w1 ⟨rfl,rfl⟩) | go_in)
 go_ret
 exact ⟨rfl,rfl⟩
set_option maxHeartbeats 400000 in
theorem in_EA_N (p : Addr) (w : World) (h : w.cell? p=some (.string ⟨#[69,65]⟩)) : Calls Tryz.prog 215 #[.string ⟨#[78]⟩,.pointer (some p)] w fun e w' => e=.returned (.bool false)∧w'=w:=by
 go_enter Tryz.func215,Tryz.ntmps215
 go_wp2_with (first | (go_at_call 227; refine (indexByte73 _ _ (-1) (by decide) _).mono ?_; rintro e w1 ⟨rfl,rfl⟩) | go_in)
 go_ret
 exact ⟨rfl,rfl⟩
set_option maxHeartbeats 400000 in
theorem in_EA_E (p : Addr) (w : World) (h : w.cell? p=some (.string ⟨#[69,65]⟩)) : Calls Tryz.prog 215 #[.string ⟨#[69]⟩,.pointer (some p)] w fun e w' => e=.returned (.bool true)∧w'=w:=by
 go_enter Tryz.func215,Tryz.ntmps215
 go_wp2_with (first | (go_at_call 227; refine (indexByte73 _ _ (0) (by decide) _).mono ?_; rintro e w1 ⟨rfl,rfl⟩) | go_in)
 go_ret
 exact ⟨rfl,rfl⟩
set_option maxHeartbeats 400000 in
theorem in_EA_F (p : Addr) (w : World) (h : w.cell? p=some (.string ⟨#[69,65]⟩)) : Calls Tryz.prog 215 #[.string ⟨#[70]⟩,.pointer (some p)] w fun e w' => e=.returned (.bool false)∧w'=w:=by
 go_enter Tryz.func215,Tryz.ntmps215
 go_wp2_with (first | (go_at_call 227; refine (indexByte73 _ _ (-1) (by decide) _).mono ?_; rintro e w1 ⟨rfl,rfl⟩) | go_in)
 go_ret
 exact ⟨rfl,rfl⟩
set_option maxHeartbeats 400000 in
theorem in_EA_A (p : Addr) (w : World) (h : w.cell? p=some (.string ⟨#[69,65]⟩)) : Calls Tryz.prog 215 #[.string ⟨#[65]⟩,.pointer (some p)] w fun e w' => e=.returned (.bool true)∧w'=w:=by
 go_enter Tryz.func215,Tryz.ntmps215
 go_wp2_with (first | (go_at_call 227; refine (indexByte73 _ _ (1) (by decide) _).mono ?_; rintro e w1 ⟨rfl,rfl⟩) | go_in)
 go_ret
 exact ⟨rfl,rfl⟩
set_option maxHeartbeats 400000 in
theorem in_EA_B (p : Addr) (w : World) (h : w.cell? p=some (.string ⟨#[69,65]⟩)) : Calls Tryz.prog 215 #[.string ⟨#[66]⟩,.pointer (some p)] w fun e w' => e=.returned (.bool false)∧w'=w:=by
 go_enter Tryz.func215,Tryz.ntmps215
 go_wp2_with (first | (go_at_call 227; refine (indexByte73 _ _ (-1) (by decide) _).mono ?_; rintro e w1 ⟨rfl,rfl⟩) | go_in)
 go_ret
 exact ⟨rfl,rfl⟩
theorem hasC_N (K : Int) (hK : okF K=true) (p : Addr) (w : World) (h : w.cell? p=some (.string (useF K))) : Calls Tryz.prog 215 #[.string ⟨#[78]⟩,.pointer (some p)] w fun e w' => e=.returned (.bool (usesN K))∧w'=w:=by
 have hk : 1≤K∧K≤8:=of_decide_eq_true hK
 rcases (show K=1∨K=2∨K=3∨K=4∨K=5∨K=6∨K=7∨K=8 by omega) with rfl | rfl | rfl | rfl | rfl | rfl | rfl | rfl
 ·exact in_NE_N p w h
 ·exact in_NEF_N p w h
 ·exact in_E_N p w h
 ·exact in_none_N p w h
 ·exact in_E_N p w h
 ·exact in_EAB_N p w h
 ·exact in_EA_N p w h
 ·exact in_E_N p w h
theorem hasC_E (K : Int) (hK : okF K=true) (p : Addr) (w : World) (h : w.cell? p=some (.string (useF K))) : Calls Tryz.prog 215 #[.string ⟨#[69]⟩,.pointer (some p)] w fun e w' => e=.returned (.bool (hasE K))∧w'=w:=by
 have hk : 1≤K∧K≤8:=of_decide_eq_true hK
 rcases (show K=1∨K=2∨K=3∨K=4∨K=5∨K=6∨K=7∨K=8 by omega) with rfl | rfl | rfl | rfl | rfl | rfl | rfl | rfl
 ·exact in_NE_E p w h
 ·exact in_NEF_E p w h
 ·exact in_E_E p w h
 ·exact in_none_E p w h
 ·exact in_E_E p w h
 ·exact in_EAB_E p w h
 ·exact in_EA_E p w h
 ·exact in_E_E p w h
theorem hasC_F (K : Int) (hK : okF K=true) (p : Addr) (w : World) (h : w.cell? p=some (.string (useF K))) : Calls Tryz.prog 215 #[.string ⟨#[70]⟩,.pointer (some p)] w fun e w' => e=.returned (.bool (hasF K))∧w'=w:=by
 have hk : 1≤K∧K≤8:=of_decide_eq_true hK
 rcases (show K=1∨K=2∨K=3∨K=4∨K=5∨K=6∨K=7∨K=8 by omega) with rfl | rfl | rfl | rfl | rfl | rfl | rfl | rfl
 ·exact in_NE_F p w h
 ·exact in_NEF_F p w h
 ·exact in_E_F p w h
 ·exact in_none_F p w h
 ·exact in_E_F p w h
 ·exact in_EAB_F p w h
 ·exact in_EA_F p w h
 ·exact in_E_F p w h
theorem hasC_A (K : Int) (hK : okF K=true) (p : Addr) (w : World) (h : w.cell? p=some (.string (useF K))) : Calls Tryz.prog 215 #[.string ⟨#[65]⟩,.pointer (some p)] w fun e w' => e=.returned (.bool (usesA K))∧w'=w:=by
 have hk : 1≤K∧K≤8:=of_decide_eq_true hK
 rcases (show K=1∨K=2∨K=3∨K=4∨K=5∨K=6∨K=7∨K=8 by omega) with rfl | rfl | rfl | rfl | rfl | rfl | rfl | rfl
 ·exact in_NE_A p w h
 ·exact in_NEF_A p w h
 ·exact in_E_A p w h
 ·exact in_none_A p w h
 ·exact in_E_A p w h
 ·exact in_EAB_A p w h
 ·exact in_EA_A p w h
 ·exact in_E_A p w h
theorem hasC_B (K : Int) (hK : okF K=true) (p : Addr) (w : World) (h : w.cell? p=some (.string (useF K))) : Calls Tryz.prog 215 #[.string ⟨#[66]⟩,.pointer (some p)] w fun e w' => e=.returned (.bool (hasB K))∧w'=w:=by
 have hk : 1≤K∧K≤8:=of_decide_eq_true hK
 rcases (show K=1∨K=2∨K=3∨K=4∨K=5∨K=6∨K=7∨K=8 by omega) with rfl | rfl | rfl | rfl | rfl | rfl | rfl | rfl
 ·exact in_NE_B p w h
 ·exact in_NEF_B p w h
 ·exact in_E_B p w h
 ·exact in_none_B p w h
 ·exact in_E_B p w h
 ·exact in_EAB_B p w h
 ·exact in_EA_B p w h
 ·exact in_E_B p w h
def hasS (c : ByteArray) (K : Int) : Bool :=
 match c.data.toList with
 | [78] => usesN K
 | [69] => hasE K
 | [70] => hasF K
 | [65] => usesA K
 | [66] => hasB K
 | _ => false
theorem hasC (c : ByteArray) (hc : c.data.toList=[78]∨c.data.toList=[69]∨c.data.toList=[70]∨c.data.toList=[65]∨c.data.toList=[66]) (K : Int) (hK : okF K=true) (p : Addr) (w : World) (h : w.cell? p=some (.string (useF K))) : Calls Tryz.prog 215 #[.string c,.pointer (some p)] w fun e w' => e=.returned (.bool (hasS c K))∧w'=w:=by
 have key : ∀ l : List UInt8,c.data.toList=l→c=⟨⟨l⟩⟩:=fun l e => ByteArray.ext (Array.toList_inj.1 e)
 rcases hc with e | e | e | e | e
 ·rw [key _ e]; exact hasC_N K hK p w h
 ·rw [key _ e]; exact hasC_E K hK p w h
 ·rw [key _ e]; exact hasC_F K hK p w h
 ·rw [key _ e]; exact hasC_A K hK p w h
 ·rw [key _ e]; exact hasC_B K hK p w h
end Go.Proofs.YtfaokaohhchdhaaGreatDoor
