import Derived.Test.YtbmenihakkogkabGreatDoorPart11
namespace Go.Proofs.YtbmenihakkogkabGreatDoor
open Go.RowKit
set_option maxHeartbeats 1000000 in
theorem checkStmt_form (N : Nat) (s : Nd) (la lb : Nat) (ve vf : Value) (aa ab : Option Addr) (ca cb : Nat) (f : Value) (nf : Nat) (par loc : Nat → Int) (bv : Nat → Value) (locals : Int) (w : World) (_hN : N ≤ w.heap.size)
    (he : ToksAt N w ve s.ne s.ek s.ez) (hf : ToksAt N w vf s.nf s.fk s.fz) (_hp : FunsAt N w f nf par loc bv) (hF : (formErr s la lb == 0) = false) :
    Calls Tryz.prog 150 #[.agg #[.int .i64 s.kind, .int .i64 s.num, ve, vf, .slice aa la ca, .slice ab lb cb], f, .int .i64 locals] w fun e w' => e = .returned (.int .i64 4) ∧ Below w.heap.size w w' := by
  obtain ⟨ae, ce, rfl, hne⟩ := he.shape
  obtain ⟨af, cf, rfl, hnf⟩ := hf.shape
  go_enter Tryz.func150, Tryz.ntmps150
  go_wp2_with ((go_at_call 187; refine (formed s la lb _ _ _ _ _ _ _ _ _).mono ?_; rintro e w1 ⟨rfl, hb1⟩; have m0 := bxi hb1 0 rfl; have m1 := bxi hb1 1 rfl; have m2 := bxi hb1 2 rfl; have m3 := bxi hb1 3 rfl))
  go_ret
  exact ⟨rfl, bst (bal _ _) hb1⟩
set_option maxHeartbeats 1000000 in
theorem checkStmt_set1 (N : Nat) (s : Nd) (la lb : Nat) (ve vf : Value) (aa ab : Option Addr) (ca cb : Nat) (f : Value) (nf : Nat) (par loc : Nat → Int) (bv : Nat → Value) (locals : Int) (w : World) (_hN : N ≤ w.heap.size)
    (he : ToksAt N w ve s.ne s.ek s.ez) (hf : ToksAt N w vf s.nf s.fk s.fz) (_hp : FunsAt N w f nf par loc bv) (hF : (formErr s la lb == 0) = true) (b1 : (s.kind == 1) = true) (b2 : s.num < 0) :
    Calls Tryz.prog 150 #[.agg #[.int .i64 s.kind, .int .i64 s.num, ve, vf, .slice aa la ca, .slice ab lb cb], f, .int .i64 locals] w fun e w' => e = .returned (.int .i64 3) ∧ Below w.heap.size w w' := by
  obtain ⟨ae, ce, rfl, hne⟩ := he.shape
  obtain ⟨af, cf, rfl, hnf⟩ := hf.shape
  go_enter Tryz.func150, Tryz.ntmps150
  go_wp2_with ((go_at_call 187; refine (formed s la lb _ _ _ _ _ _ _ _ _).mono ?_; rintro e w1 ⟨rfl, hb1⟩; have m0 := bxi hb1 0 rfl; have m1 := bxi hb1 1 rfl; have m2 := bxi hb1 2 rfl; have m3 := bxi hb1 3 rfl))
  go_ret
  exact ⟨rfl, bst (bal _ _) hb1⟩
set_option maxHeartbeats 1000000 in
theorem checkStmt_set2 (N : Nat) (s : Nd) (la lb : Nat) (ve vf : Value) (aa ab : Option Addr) (ca cb : Nat) (f : Value) (nf : Nat) (par loc : Nat → Int) (bv : Nat → Value) (locals : Int) (w : World) (_hN : N ≤ w.heap.size)
    (he : ToksAt N w ve s.ne s.ek s.ez) (hf : ToksAt N w vf s.nf s.fk s.fz) (_hp : FunsAt N w f nf par loc bv) (hF : (formErr s la lb == 0) = true) (b1 : (s.kind == 1) = true) (b2 : ¬ s.num < 0) (b3 : locals ≤ s.num) :
    Calls Tryz.prog 150 #[.agg #[.int .i64 s.kind, .int .i64 s.num, ve, vf, .slice aa la ca, .slice ab lb cb], f, .int .i64 locals] w fun e w' => e = .returned (.int .i64 3) ∧ Below w.heap.size w w' := by
  obtain ⟨ae, ce, rfl, hne⟩ := he.shape
  obtain ⟨af, cf, rfl, hnf⟩ := hf.shape
  go_enter Tryz.func150, Tryz.ntmps150
  go_wp2_with ((go_at_call 187; refine (formed s la lb _ _ _ _ _ _ _ _ _).mono ?_; rintro e w1 ⟨rfl, hb1⟩; have m0 := bxi hb1 0 rfl; have m1 := bxi hb1 1 rfl; have m2 := bxi hb1 2 rfl; have m3 := bxi hb1 3 rfl))
  go_ret
  exact ⟨rfl, bst (bal _ _) hb1⟩
set_option maxHeartbeats 1000000 in
theorem checkStmt_put1 (N : Nat) (s : Nd) (la lb : Nat) (ve vf : Value) (aa ab : Option Addr) (ca cb : Nat) (f : Value) (nf : Nat) (par loc : Nat → Int) (bv : Nat → Value) (locals : Int) (w : World) (_hN : N ≤ w.heap.size)
    (he : ToksAt N w ve s.ne s.ek s.ez) (hf : ToksAt N w vf s.nf s.fk s.fz) (_hp : FunsAt N w f nf par loc bv) (hF : (formErr s la lb == 0) = true) (b1 : (s.kind == 1) = false) (b0 : (s.kind == 2) = true) (b2 : s.num < 0) :
    Calls Tryz.prog 150 #[.agg #[.int .i64 s.kind, .int .i64 s.num, ve, vf, .slice aa la ca, .slice ab lb cb], f, .int .i64 locals] w fun e w' => e = .returned (.int .i64 3) ∧ Below w.heap.size w w' := by
  obtain ⟨ae, ce, rfl, hne⟩ := he.shape
  obtain ⟨af, cf, rfl, hnf⟩ := hf.shape
  go_enter Tryz.func150, Tryz.ntmps150
  go_wp2_with ((go_at_call 187; refine (formed s la lb _ _ _ _ _ _ _ _ _).mono ?_; rintro e w1 ⟨rfl, hb1⟩; have m0 := bxi hb1 0 rfl; have m1 := bxi hb1 1 rfl; have m2 := bxi hb1 2 rfl; have m3 := bxi hb1 3 rfl))
  go_ret
  exact ⟨rfl, bst (bal _ _) hb1⟩
set_option maxHeartbeats 1000000 in
theorem checkStmt_put2 (N : Nat) (s : Nd) (la lb : Nat) (ve vf : Value) (aa ab : Option Addr) (ca cb : Nat) (f : Value) (nf : Nat) (par loc : Nat → Int) (bv : Nat → Value) (locals : Int) (w : World) (_hN : N ≤ w.heap.size)
    (he : ToksAt N w ve s.ne s.ek s.ez) (hf : ToksAt N w vf s.nf s.fk s.fz) (_hp : FunsAt N w f nf par loc bv) (hF : (formErr s la lb == 0) = true) (b1 : (s.kind == 1) = false) (b0 : (s.kind == 2) = true) (b2 : ¬ s.num < 0) (b3 : 4 ≤ s.num) :
    Calls Tryz.prog 150 #[.agg #[.int .i64 s.kind, .int .i64 s.num, ve, vf, .slice aa la ca, .slice ab lb cb], f, .int .i64 locals] w fun e w' => e = .returned (.int .i64 3) ∧ Below w.heap.size w w' := by
  obtain ⟨ae, ce, rfl, hne⟩ := he.shape
  obtain ⟨af, cf, rfl, hnf⟩ := hf.shape
  go_enter Tryz.func150, Tryz.ntmps150
  go_wp2_with ((go_at_call 187; refine (formed s la lb _ _ _ _ _ _ _ _ _).mono ?_; rintro e w1 ⟨rfl, hb1⟩; have m0 := bxi hb1 0 rfl; have m1 := bxi hb1 1 rfl; have m2 := bxi hb1 2 rfl; have m3 := bxi hb1 3 rfl))
  go_ret
  exact ⟨rfl, bst (bal _ _) hb1⟩
set_option maxHeartbeats 1000000 in
theorem checkStmt_pause (N : Nat) (s : Nd) (la lb : Nat) (ve vf : Value) (aa ab : Option Addr) (ca cb : Nat) (f : Value) (nf : Nat) (par loc : Nat → Int) (bv : Nat → Value) (locals : Int) (w : World) (_hN : N ≤ w.heap.size)
    (he : ToksAt N w ve s.ne s.ek s.ez) (hf : ToksAt N w vf s.nf s.fk s.fz) (_hp : FunsAt N w f nf par loc bv) (hF : (formErr s la lb == 0) = true) (b1 : (s.kind == 1) = false) (b0 : (s.kind == 2) = false) (b4 : (s.kind == 4) = true) :
    Calls Tryz.prog 150 #[.agg #[.int .i64 s.kind, .int .i64 s.num, ve, vf, .slice aa la ca, .slice ab lb cb], f, .int .i64 locals] w fun e w' => e = .returned (.int .i64 0) ∧ Below w.heap.size w w' := by
  obtain ⟨ae, ce, rfl, hne⟩ := he.shape
  obtain ⟨af, cf, rfl, hnf⟩ := hf.shape
  go_enter Tryz.func150, Tryz.ntmps150
  go_wp2_with ((go_at_call 187; refine (formed s la lb _ _ _ _ _ _ _ _ _).mono ?_; rintro e w1 ⟨rfl, hb1⟩; have m0 := bxi hb1 0 rfl; have m1 := bxi hb1 1 rfl; have m2 := bxi hb1 2 rfl; have m3 := bxi hb1 3 rfl))
  go_ret
  exact ⟨rfl, bst (bal _ _) hb1⟩
set_option maxHeartbeats 1000000 in
theorem checkStmt_bad1 (N : Nat) (s : Nd) (la lb : Nat) (ve vf : Value) (aa ab : Option Addr) (ca cb : Nat) (f : Value) (nf : Nat) (par loc : Nat → Int) (bv : Nat → Value) (locals : Int) (w : World) (hN : N ≤ w.heap.size)
    (he : ToksAt N w ve s.ne s.ek s.ez) (hf : ToksAt N w vf s.nf s.fk s.fz) (hp : FunsAt N w f nf par loc bv) (hF : (formErr s la lb == 0) = true) (b1 : (s.kind == 1) = true) (b0 : (s.kind == 2) = false) (b2 : ¬ s.num < 0) (b3 : ¬ locals ≤ s.num) (b4 : (s.kind == 4) = false) (_b5 : (s.kind != 2) = true) (bx : (exprErr s.ne s.ek s.ez nf par locals != 0) = true) :
    Calls Tryz.prog 150 #[.agg #[.int .i64 s.kind, .int .i64 s.num, ve, vf, .slice aa la ca, .slice ab lb cb], f, .int .i64 locals] w fun e w' => e = .returned (.int .i64 (exprErr s.ne s.ek s.ez nf par locals)) ∧ Below w.heap.size w w' := by
  obtain ⟨ae, ce, rfl, hne⟩ := he.shape
  obtain ⟨af, cf, rfl, hnf⟩ := hf.shape
  go_enter Tryz.func150, Tryz.ntmps150
  go_wp2_with (first | (go_at_call 187; refine (formed s la lb _ _ _ _ _ _ _ _ _).mono ?_; rintro e w1 ⟨rfl, hb1⟩; have m0 := bxi hb1 0 rfl; have m1 := bxi hb1 1 rfl; have m2 := bxi hb1 2 rfl; have m3 := bxi hb1 3 rfl) | (go_at_call 188; refine (expr N _ _ s.ne s.ek s.ez nf par loc bv _ _ (Nat.le_trans hN (bst (bal _ _) hb1).size) (he.below ((bst (bal _ _) hb1).mono hN)) (hp.below ((bst (bal _ _) hb1).mono hN))).mono ?_; rintro e w2 ⟨rfl, hb2⟩; have p0 := bxi (bst hb1 hb2) 0 rfl; have p3 := bxi (bst hb1 hb2) 3 rfl; clear m0 m1 m2 m3))
  go_ret
  exact ⟨rfl, bst (bal _ _) (bst hb1 hb2)⟩
set_option maxHeartbeats 1000000 in
theorem checkStmt_ok1 (N : Nat) (s : Nd) (la lb : Nat) (ve vf : Value) (aa ab : Option Addr) (ca cb : Nat) (f : Value) (nf : Nat) (par loc : Nat → Int) (bv : Nat → Value) (locals : Int) (w : World) (hN : N ≤ w.heap.size)
    (he : ToksAt N w ve s.ne s.ek s.ez) (hf : ToksAt N w vf s.nf s.fk s.fz) (hp : FunsAt N w f nf par loc bv) (hF : (formErr s la lb == 0) = true) (b1 : (s.kind == 1) = true) (b0 : (s.kind == 2) = false) (b2 : ¬ s.num < 0) (b3 : ¬ locals ≤ s.num) (b4 : (s.kind == 4) = false) (b5 : (s.kind != 2) = true) (bx : (exprErr s.ne s.ek s.ez nf par locals != 0) = false) :
    Calls Tryz.prog 150 #[.agg #[.int .i64 s.kind, .int .i64 s.num, ve, vf, .slice aa la ca, .slice ab lb cb], f, .int .i64 locals] w fun e w' => e = .returned (.int .i64 (exprErr s.ne s.ek s.ez nf par locals)) ∧ Below w.heap.size w w' := by
  obtain ⟨ae, ce, rfl, hne⟩ := he.shape
  obtain ⟨af, cf, rfl, hnf⟩ := hf.shape
  go_enter Tryz.func150, Tryz.ntmps150
  go_wp2_with (first | (go_at_call 187; refine (formed s la lb _ _ _ _ _ _ _ _ _).mono ?_; rintro e w1 ⟨rfl, hb1⟩; have m0 := bxi hb1 0 rfl; have m1 := bxi hb1 1 rfl; have m2 := bxi hb1 2 rfl; have m3 := bxi hb1 3 rfl) | (go_at_call 188; refine (expr N _ _ s.ne s.ek s.ez nf par loc bv _ _ (Nat.le_trans hN (bst (bal _ _) hb1).size) (he.below ((bst (bal _ _) hb1).mono hN)) (hp.below ((bst (bal _ _) hb1).mono hN))).mono ?_; rintro e w2 ⟨rfl, hb2⟩; have p0 := bxi (bst hb1 hb2) 0 rfl; have p3 := bxi (bst hb1 hb2) 3 rfl; clear m0 m1 m2 m3))
  go_ret
  exact ⟨rfl, bst (bal _ _) (bst hb1 hb2)⟩
set_option maxHeartbeats 1000000 in
theorem checkStmt_bad2 (N : Nat) (s : Nd) (la lb : Nat) (ve vf : Value) (aa ab : Option Addr) (ca cb : Nat) (f : Value) (nf : Nat) (par loc : Nat → Int) (bv : Nat → Value) (locals : Int) (w : World) (hN : N ≤ w.heap.size)
    (he : ToksAt N w ve s.ne s.ek s.ez) (hf : ToksAt N w vf s.nf s.fk s.fz) (hp : FunsAt N w f nf par loc bv) (hF : (formErr s la lb == 0) = true) (b1 : (s.kind == 1) = false) (b0 : (s.kind == 2) = true) (b2 : ¬ s.num < 0) (b3 : ¬ 4 ≤ s.num) (b4 : (s.kind == 4) = false) (_b5 : (s.kind != 2) = false) (bx : (exprErr s.ne s.ek s.ez nf par locals != 0) = true) :
    Calls Tryz.prog 150 #[.agg #[.int .i64 s.kind, .int .i64 s.num, ve, vf, .slice aa la ca, .slice ab lb cb], f, .int .i64 locals] w fun e w' => e = .returned (.int .i64 (exprErr s.ne s.ek s.ez nf par locals)) ∧ Below w.heap.size w w' := by
  obtain ⟨ae, ce, rfl, hne⟩ := he.shape
  obtain ⟨af, cf, rfl, hnf⟩ := hf.shape
  go_enter Tryz.func150, Tryz.ntmps150
  go_wp2_with (first | (go_at_call 187; refine (formed s la lb _ _ _ _ _ _ _ _ _).mono ?_; rintro e w1 ⟨rfl, hb1⟩; have m0 := bxi hb1 0 rfl; have m1 := bxi hb1 1 rfl; have m2 := bxi hb1 2 rfl; have m3 := bxi hb1 3 rfl) | (go_at_call 188; refine (expr N _ _ s.ne s.ek s.ez nf par loc bv _ _ (Nat.le_trans hN (bst (bal _ _) hb1).size) (he.below ((bst (bal _ _) hb1).mono hN)) (hp.below ((bst (bal _ _) hb1).mono hN))).mono ?_; rintro e w2 ⟨rfl, hb2⟩; have p0 := bxi (bst hb1 hb2) 0 rfl; have p3 := bxi (bst hb1 hb2) 3 rfl; clear m0 m1 m2 m3))
  go_ret
  exact ⟨rfl, bst (bal _ _) (bst hb1 hb2)⟩
set_option maxHeartbeats 1000000 in
theorem checkStmt_ok2 (N : Nat) (s : Nd) (la lb : Nat) (ve vf : Value) (aa ab : Option Addr) (ca cb : Nat) (f : Value) (nf : Nat) (par loc : Nat → Int) (bv : Nat → Value) (locals : Int) (w : World) (hN : N ≤ w.heap.size)
    (he : ToksAt N w ve s.ne s.ek s.ez) (hf : ToksAt N w vf s.nf s.fk s.fz) (hp : FunsAt N w f nf par loc bv) (hF : (formErr s la lb == 0) = true) (b1 : (s.kind == 1) = false) (b0 : (s.kind == 2) = true) (b2 : ¬ s.num < 0) (b3 : ¬ 4 ≤ s.num) (b4 : (s.kind == 4) = false) (b5 : (s.kind != 2) = false) (bx : (exprErr s.ne s.ek s.ez nf par locals != 0) = false) :
    Calls Tryz.prog 150 #[.agg #[.int .i64 s.kind, .int .i64 s.num, ve, vf, .slice aa la ca, .slice ab lb cb], f, .int .i64 locals] w fun e w' => e = .returned (.int .i64 (exprErr s.nf s.fk s.fz nf par locals)) ∧ Below w.heap.size w w' := by
  obtain ⟨ae, ce, rfl, hne⟩ := he.shape
  obtain ⟨af, cf, rfl, hnf⟩ := hf.shape
  go_enter Tryz.func150, Tryz.ntmps150
  go_wp2_with (first | (go_at_call 187; refine (formed s la lb _ _ _ _ _ _ _ _ _).mono ?_; rintro e w1 ⟨rfl, hb1⟩; have m0 := bxi hb1 0 rfl; have m1 := bxi hb1 1 rfl; have m2 := bxi hb1 2 rfl; have m3 := bxi hb1 3 rfl) | (go_at_call 188; refine (expr N _ _ s.nf s.fk s.fz nf par loc bv _ _ (Nat.le_trans hN (bst (bal _ _) (bst hb1 hb2)).size) (hf.below ((bst (bal _ _) (bst hb1 hb2)).mono hN)) (hp.below ((bst (bal _ _) (bst hb1 hb2)).mono hN))).mono ?_; rintro e w3 ⟨rfl, hb3⟩) | (go_at_call 188; refine (expr N _ _ s.ne s.ek s.ez nf par loc bv _ _ (Nat.le_trans hN (bst (bal _ _) hb1).size) (he.below ((bst (bal _ _) hb1).mono hN)) (hp.below ((bst (bal _ _) hb1).mono hN))).mono ?_; rintro e w2 ⟨rfl, hb2⟩; have p0 := bxi (bst hb1 hb2) 0 rfl; have p3 := bxi (bst hb1 hb2) 3 rfl; clear m0 m1 m2 m3))
  go_ret
  exact ⟨rfl, bst (bal _ _) (bst (bst hb1 hb2) hb3)⟩
set_option maxHeartbeats 1000000 in
theorem checkStmt_bad3 (N : Nat) (s : Nd) (la lb : Nat) (ve vf : Value) (aa ab : Option Addr) (ca cb : Nat) (f : Value) (nf : Nat) (par loc : Nat → Int) (bv : Nat → Value) (locals : Int) (w : World) (hN : N ≤ w.heap.size)
    (he : ToksAt N w ve s.ne s.ek s.ez) (hf : ToksAt N w vf s.nf s.fk s.fz) (hp : FunsAt N w f nf par loc bv) (hF : (formErr s la lb == 0) = true) (b1 : (s.kind == 1) = false) (b0 : (s.kind == 2) = false) (b4 : (s.kind == 4) = false) (_b5 : (s.kind != 2) = true) (bx : (exprErr s.ne s.ek s.ez nf par locals != 0) = true) :
    Calls Tryz.prog 150 #[.agg #[.int .i64 s.kind, .int .i64 s.num, ve, vf, .slice aa la ca, .slice ab lb cb], f, .int .i64 locals] w fun e w' => e = .returned (.int .i64 (exprErr s.ne s.ek s.ez nf par locals)) ∧ Below w.heap.size w w' := by
  obtain ⟨ae, ce, rfl, hne⟩ := he.shape
  obtain ⟨af, cf, rfl, hnf⟩ := hf.shape
  go_enter Tryz.func150, Tryz.ntmps150
  go_wp2_with (first | (go_at_call 187; refine (formed s la lb _ _ _ _ _ _ _ _ _).mono ?_; rintro e w1 ⟨rfl, hb1⟩; have m0 := bxi hb1 0 rfl; have m1 := bxi hb1 1 rfl; have m2 := bxi hb1 2 rfl; have m3 := bxi hb1 3 rfl) | (go_at_call 188; refine (expr N _ _ s.ne s.ek s.ez nf par loc bv _ _ (Nat.le_trans hN (bst (bal _ _) hb1).size) (he.below ((bst (bal _ _) hb1).mono hN)) (hp.below ((bst (bal _ _) hb1).mono hN))).mono ?_; rintro e w2 ⟨rfl, hb2⟩; have p0 := bxi (bst hb1 hb2) 0 rfl; have p3 := bxi (bst hb1 hb2) 3 rfl; clear m0 m1 m2 m3))
  go_ret
  exact ⟨rfl, bst (bal _ _) (bst hb1 hb2)⟩
set_option maxHeartbeats 1000000 in
theorem checkStmt_ok3 (N : Nat) (s : Nd) (la lb : Nat) (ve vf : Value) (aa ab : Option Addr) (ca cb : Nat) (f : Value) (nf : Nat) (par loc : Nat → Int) (bv : Nat → Value) (locals : Int) (w : World) (hN : N ≤ w.heap.size)
    (he : ToksAt N w ve s.ne s.ek s.ez) (hf : ToksAt N w vf s.nf s.fk s.fz) (hp : FunsAt N w f nf par loc bv) (hF : (formErr s la lb == 0) = true) (b1 : (s.kind == 1) = false) (b0 : (s.kind == 2) = false) (b4 : (s.kind == 4) = false) (b5 : (s.kind != 2) = true) (bx : (exprErr s.ne s.ek s.ez nf par locals != 0) = false) :
    Calls Tryz.prog 150 #[.agg #[.int .i64 s.kind, .int .i64 s.num, ve, vf, .slice aa la ca, .slice ab lb cb], f, .int .i64 locals] w fun e w' => e = .returned (.int .i64 (exprErr s.ne s.ek s.ez nf par locals)) ∧ Below w.heap.size w w' := by
  obtain ⟨ae, ce, rfl, hne⟩ := he.shape
  obtain ⟨af, cf, rfl, hnf⟩ := hf.shape
  go_enter Tryz.func150, Tryz.ntmps150
  go_wp2_with (first | (go_at_call 187; refine (formed s la lb _ _ _ _ _ _ _ _ _).mono ?_; rintro e w1 ⟨rfl, hb1⟩; have m0 := bxi hb1 0 rfl; have m1 := bxi hb1 1 rfl; have m2 := bxi hb1 2 rfl; have m3 := bxi hb1 3 rfl) | (go_at_call 188; refine (expr N _ _ s.ne s.ek s.ez nf par loc bv _ _ (Nat.le_trans hN (bst (bal _ _) hb1).size) (he.below ((bst (bal _ _) hb1).mono hN)) (hp.below ((bst (bal _ _) hb1).mono hN))).mono ?_; rintro e w2 ⟨rfl, hb2⟩; have p0 := bxi (bst hb1 hb2) 0 rfl; have p3 := bxi (bst hb1 hb2) 3 rfl; clear m0 m1 m2 m3))
  go_ret
  exact ⟨rfl, bst (bal _ _) (bst hb1 hb2)⟩
theorem numErr_set {s : Nd} {locals : Int} (h : s.kind = 1) : (numErr s locals = 0 ↔ ¬ s.num < 0 ∧ ¬ locals ≤ s.num) := by
  unfold numErr; split <;> omega
theorem numErr_put {s : Nd} {locals : Int} (h : s.kind = 2) : (numErr s locals = 0 ↔ ¬ s.num < 0 ∧ ¬ 4 ≤ s.num) := by
  unfold numErr; split <;> omega
theorem numErr_other {s : Nd} {locals : Int} (h1 : ¬ s.kind = 1) (h2 : ¬ s.kind = 2) : numErr s locals = 0 := by
  unfold numErr; split <;> omega
theorem checkStmt (N : Nat) (s : Nd) (la lb : Nat) (ve vf : Value) (aa ab : Option Addr) (ca cb : Nat) (f : Value) (nf : Nat) (par loc : Nat → Int) (bv : Nat → Value) (locals : Int) (w : World) (hN : N ≤ w.heap.size)
    (he : ToksAt N w ve s.ne s.ek s.ez) (hf : ToksAt N w vf s.nf s.fk s.fz) (hp : FunsAt N w f nf par loc bv) :
    Calls Tryz.prog 150 #[.agg #[.int .i64 s.kind, .int .i64 s.num, ve, vf, .slice aa la ca, .slice ab lb cb], f, .int .i64 locals] w fun e w' => e = .returned (.int .i64 (stErr nf par locals s la lb)) ∧ Below w.heap.size w w' := by
  by_cases h1 : formErr s la lb = 0
  rotate_left
  · have e : stErr nf par locals s la lb = 4 := if_neg h1
    rw [e]; exact checkStmt_form N s la lb ve vf aa ab ca cb f nf par loc bv locals w hN he hf hp (by simpa using h1)
  have hF : (formErr s la lb == 0) = true := by simp [h1]
  by_cases h2 : numErr s locals = 0
  rotate_left
  · have e : stErr nf par locals s la lb = 3 := by unfold stErr; rw [if_pos h1, if_neg h2]
    rw [e]
    by_cases k1 : s.kind = 1
    · rw [numErr_set k1] at h2
      by_cases hn : s.num < 0
      · exact checkStmt_set1 N s la lb ve vf aa ab ca cb f nf par loc bv locals w hN he hf hp hF (by simp [k1]) hn
      · exact checkStmt_set2 N s la lb ve vf aa ab ca cb f nf par loc bv locals w hN he hf hp hF (by simp [k1]) hn (by omega)
    · by_cases k2 : s.kind = 2
      · rw [numErr_put k2] at h2
        by_cases hn : s.num < 0
        · exact checkStmt_put1 N s la lb ve vf aa ab ca cb f nf par loc bv locals w hN he hf hp hF (by simp [k1]) (by simp [k2]) hn
        · exact checkStmt_put2 N s la lb ve vf aa ab ca cb f nf par loc bv locals w hN he hf hp hF (by simp [k1]) (by simp [k2]) hn (by omega)
      · exact absurd (numErr_other k1 k2) h2
  by_cases k4 : s.kind = 4
  · have e : stErr nf par locals s la lb = 0 := by unfold stErr; rw [if_pos h1, if_pos h2, if_pos k4]
    rw [e]
    exact checkStmt_pause N s la lb ve vf aa ab ca cb f nf par loc bv locals w hN he hf hp hF (by simp [k4]) (by simp [k4]) (by simp [k4])
  by_cases hx : exprErr s.ne s.ek s.ez nf par locals = 0
  rotate_left
  · have e : stErr nf par locals s la lb = exprErr s.ne s.ek s.ez nf par locals := by unfold stErr; rw [if_pos h1, if_pos h2, if_neg k4, if_neg hx]
    rw [e]
    by_cases k1 : s.kind = 1
    · rw [numErr_set k1] at h2
      exact checkStmt_bad1 N s la lb ve vf aa ab ca cb f nf par loc bv locals w hN he hf hp hF (by simp [k1]) (by simp [k1]) h2.1 h2.2 (by simp [k4]) (by simp [k1]) (by simpa using hx)
    · by_cases k2 : s.kind = 2
      · rw [numErr_put k2] at h2
        exact checkStmt_bad2 N s la lb ve vf aa ab ca cb f nf par loc bv locals w hN he hf hp hF (by simp [k1]) (by simp [k2]) h2.1 h2.2 (by simp [k4]) (by simp [k2]) (by simpa using hx)
      · exact checkStmt_bad3 N s la lb ve vf aa ab ca cb f nf par loc bv locals w hN he hf hp hF (by simp [k1]) (by simp [k2]) (by simp [k4]) (by simp [k2]) (by simpa using hx)
  by_cases k2 : s.kind = 2
  · have e : stErr nf par locals s la lb = exprErr s.nf s.fk s.fz nf par locals := by unfold stErr; rw [if_pos h1, if_pos h2, if_neg k4, if_pos hx, if_pos k2]
    rw [e]
    rw [numErr_put k2] at h2
    exact checkStmt_ok2 N s la lb ve vf aa ab ca cb f nf par loc bv locals w hN he hf hp hF (by simp [k2]) (by simp [k2]) h2.1 h2.2 (by simp [k4]) (by simp [k2]) (by simpa using hx)
  · have e : stErr nf par locals s la lb = exprErr s.ne s.ek s.ez nf par locals := by unfold stErr; rw [if_pos h1, if_pos h2, if_neg k4, if_pos hx, if_neg k2, hx]
    rw [e]
    by_cases k1 : s.kind = 1
    · rw [numErr_set k1] at h2
      exact checkStmt_ok1 N s la lb ve vf aa ab ca cb f nf par loc bv locals w hN he hf hp hF (by simp [k1]) (by simp [k1]) h2.1 h2.2 (by simp [k4]) (by simp [k1]) (by simpa using hx)
    · exact checkStmt_ok3 N s la lb ve vf aa ab ca cb f nf par loc bv locals w hN he hf hp hF (by simp [k1]) (by simp [k2]) (by simp [k4]) (by simp [k2]) (by simpa using hx)
end Go.Proofs.YtbmenihakkogkabGreatDoor
