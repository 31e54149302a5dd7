/- CellSays, case by case: the values or the cells are wrong, too many, or all is right. -/
import Derived.Test.YtnkhdhbjdemdkaaRing
import Derived.Deep.RegionHeld3
namespace Go.Proofs.Ytnkhdhbjdemdkaa
open Go.RowKit Go.Maps

/-- All that w held is there in w' as it was. -/
def Later (w w' : World) : Prop := Below w.heap.size w w'
theorem Later.refl (w : World) : Later w w := Below.refl _ _
theorem Later.drew {w w' : World} (h : Later w w') : Later w w'.drew := Below.drew h
theorem Later.step {a b c : World} (h : Later a b) (k : Below b.heap.size b c) : Later a c := below_step h k

theorem keepS {W w1 w2 : World} {b : Nat} {x y : Value} (hb : b < W.heap.size) (h : w1.cell? ⟨b, 0, none⟩ = some x ∧ w1.cell? ⟨b, 1, none⟩ = some y ∧ Later W w1) (k : Below w1.heap.size w1 w2) :
    w2.cell? ⟨b, 0, none⟩ = some x ∧ w2.cell? ⟨b, 1, none⟩ = some y ∧ Later W w2 := by
  have hs := Below.size h.2.2
  have hlt : b < w1.heap.size := Nat.lt_of_lt_of_le hb hs
  exact ⟨(k.cell (p := ⟨b, 0, none⟩) hlt).trans h.1, (k.cell (p := ⟨b, 1, none⟩) hlt).trans h.2.1, h.2.2.step k⟩

theorem later_cells {p q : Prop} {W w1 : World} {v : Value} {n : Nat} {m : Nat → Nat} {K Z : Nat → Nat → Int} (h : CellsAt W v n m K Z) (hS : p ∧ q ∧ Later W w1) : CellsAt w1 v n m K Z := h.below hS.2.2

theorem same_b (v1 v2 : Value) (n1 n2 : Nat) (m1 m2 : Nat → Nat) (K1 Z1 K2 Z2 : Nat → Nat → Int) (w : World) (h1 : CellsAt w v1 n1 m1 K1 Z1) (h2 : CellsAt w v2 n2 m2 K2 Z2) :
    Calls Try.prog 14 #[v1, v2] w fun e w' => e = .returned (.bool (eqC n1 n2 m1 m2 K1 Z1 K2 Z2)) ∧ Below w.heap.size w w' :=
  (same v1 v2 n1 n2 m1 m2 K1 Z1 K2 Z2 w h1 h2).mono fun _ _ ⟨he, n, hw⟩ => ⟨he, by rw [hw]; exact below_drewN' w n⟩

theorem sameCells_b (v1 v2 : Value) (n1 n2 : Nat) (m1 m2 : Nat → Nat) (K1 Z1 K2 Z2 : Nat → Nat → Int) (w : World) (h1 : CellsAt w v1 n1 m1 K1 Z1) (h2 : CellsAt w v2 n2 m2 K2 Z2) :
    Calls Try.prog 15 #[v1, v2] w fun e w' => e = .returned (.bool (eqC n1 n2 m1 m2 K1 Z1 K2 Z2)) ∧ Below w.heap.size w w' :=
  (sameCells v1 v2 n1 n2 m1 m2 K1 Z1 K2 Z2 w h1 h2).mono fun _ _ ⟨he, n, hw⟩ => ⟨he, by rw [hw]; exact below_drewN' w n⟩

set_option maxHeartbeats 2000000 in
theorem says_A (v u mv : Value) (n : Nat) (m : Nat → Nat) (K Z : Nat → Nat → Int) (f : Nat) (kf zf : Nat → Int) (k0 z0 c0 : Int) (n2 : Nat) (m2 : Nat → Nat) (K2 Z2 : Nat → Nat → Int) (w : World)
    (h : CellsAt w v n m K Z) (hu : ValsAt w u f kf zf) (hm : CellsAt w mv n2 m2 K2 Z2) (hbad : ¬ allErr n m K Z = 0) :
    Calls Try.prog 4 #[v, u, .agg #[.int .i64 k0, .int .i64 z0], .int .i64 c0, mv] w fun e w' => e = .returned (.bool true) ∧ Below w.heap.size w w' := by
  have hu0 := hu
  obtain ⟨ua, ucap, rfl, hfn, hux⟩ := hu0
  have hl0 := h
  obtain ⟨la, lcap, rfl, hln, _⟩ := hl0
  have HE : Hid (reachErr n m K Z f kf zf = allErr n m K Z) := reachErr_all hbad
  have HBR : Hid (¬ reachErr n m K Z f kf zf = 0) := by rw [HE.out]; exact hbad
  have t1 : (allErr n m K Z == 0) = false := by simpa using hbad
  have t2 : (allErr n m K Z != 0) = true := by simpa using hbad
  have t3 : (allErr n m K Z == allErr n m K Z) = true := by simp
  clear hbad
  go_enter Try.func4, Try.ntmps4
  go_wp2_with fail
  refine (reach_bad _ _ _ _ _ _ _ _ _ _ (h.below (below_alloc _ _)) (hu.below (below_alloc _ _)) HBR.out).mono ?_
  rintro e w1 ⟨rfl, hb1⟩
  rw [HE.out]
  go_wp2_with fail
  have hbw := below_step (below_alloc _ _) hb1
  refine (checkCells _ _ _ _ _ _ (h.below hbw)).mono ?_
  rintro e w2 ⟨rfl, hb2⟩
  have c1 : w2.cell? ⟨w.heap.size, 0, none⟩ = some (.int .i64 k0) := by
    rw [hb2.cell (Nat.lt_of_lt_of_le (by simp) hb1.size), hb1.cell (by simp), World.cell?_alloc_new]; rfl
  have c2 : w2.cell? ⟨w.heap.size, 1, none⟩ = some (.int .i64 z0) := by
    rw [hb2.cell (Nat.lt_of_lt_of_le (by simp) hb1.size), hb1.cell (by simp), World.cell?_alloc_new]; rfl
  have hlt : w.heap.size < w2.heap.size := Nat.lt_of_lt_of_le (Nat.lt_of_lt_of_le (by simp) hb1.size) hb2.size
  have hbw2 := below_step hbw hb2
  have h2 := h.below hbw2
  have hm2 := hm.below hbw2
  clear h hu hm hb1 hb2 hbw
  go_wp2_with fail
  have e1 : (chk k0 z0 c0 != chk k0 z0 c0) = false := by simp
  have e2 : (allErr n m K Z != allErr n m K Z) = false := by simp
  have e3 : (eqC n n2 m m2 K Z K2 Z2 == eqC n n2 m m2 K Z K2 Z2) = true := by simp
  go_region_held3 (fun w' => w'.cell? ⟨w.heap.size, 0, none⟩ = some (.int .i64 k0) ∧ w'.cell? ⟨w.heap.size, 1, none⟩ = some (.int .i64 z0) ∧ Later w2 w')
    (first | exact ⟨c1, c2, Later.drew (Later.refl _)⟩ | exact keepS hlt (by assumption) (by assumption))
    (first
      | (go_at_call 10; refine (met _).mono ?_; rintro e w' ⟨rfl, hbx⟩)
      | (go_at_call 11; refine (check _ _ _ _).mono ?_; rintro e w' ⟨rfl, hbx⟩)
      | (go_at_call 12; refine (checkValue _ _ _ _).mono ?_; rintro e w' ⟨rfl, hbx⟩)
      | (go_at_call 13; refine (checkAll _ _ _ _ _ _ (later_cells h2 (by assumption))).mono ?_; rintro e w' ⟨rfl, hbx⟩)
      | (go_at_call 14; refine (same_b _ _ _ _ _ _ _ _ _ _ _ (later_cells h2 (by assumption)) (later_cells hm2 (by assumption))).mono ?_; rintro e w' ⟨rfl, hbx⟩)
      | (go_at_call 15; refine (sameCells_b _ _ _ _ _ _ _ _ _ _ _ (later_cells h2 (by assumption)) (later_cells hm2 (by assumption))).mono ?_; rintro e w' ⟨rfl, hbx⟩))
  have hL : Later w2 w' := (‹w'.cell? ⟨w.heap.size, 0, none⟩ = some (.int .i64 k0) ∧ w'.cell? ⟨w.heap.size, 1, none⟩ = some (.int .i64 z0) ∧ Later w2 w'›).2.2
  go_wp2_with fail
  go_ret
  exact ⟨rfl, below_step hbw2 hL⟩

set_option maxHeartbeats 2000000 in
theorem says_B (v u mv : Value) (n : Nat) (m : Nat → Nat) (K Z : Nat → Nat → Int) (f : Nat) (kf zf : Nat → Int) (k0 z0 c0 : Int) (n2 : Nat) (m2 : Nat → Nat) (K2 Z2 : Nat → Nat → Int) (w : World)
    (h : CellsAt w v n m K Z) (hu : ValsAt w u f kf zf) (hm : CellsAt w mv n2 m2 K2 Z2) (hall : allErr n m K Z = 0) (hbig : 400 < f) :
    Calls Try.prog 4 #[v, u, .agg #[.int .i64 k0, .int .i64 z0], .int .i64 c0, mv] w fun e w' => e = .returned (.bool true) ∧ Below w.heap.size w w' := by
  have hu0 := hu
  obtain ⟨ua, ucap, rfl, hfn, hux⟩ := hu0
  have hl0 := h
  obtain ⟨la, lcap, rfl, hln, _⟩ := hl0
  have HE : Hid (reachErr n m K Z f kf zf = 2) := reachErr_many hall hbig
  have HBR : Hid (¬ reachErr n m K Z f kf zf = 0) := fun h => by rw [HE.out] at h; cases h
  have t1 : (allErr n m K Z == 0) = true := by simpa using hall
  have hfi : (400 : Int) < (f : Int) := by omega
  clear hall
  go_enter Try.func4, Try.ntmps4
  go_wp2_with fail
  refine (reach_bad _ _ _ _ _ _ _ _ _ _ (h.below (below_alloc _ _)) (hu.below (below_alloc _ _)) HBR.out).mono ?_
  rintro e w1 ⟨rfl, hb1⟩
  rw [HE.out]
  go_wp2_with fail
  have hbw := below_step (below_alloc _ _) hb1
  refine (checkCells _ _ _ _ _ _ (h.below hbw)).mono ?_
  rintro e w2 ⟨rfl, hb2⟩
  have c1 : w2.cell? ⟨w.heap.size, 0, none⟩ = some (.int .i64 k0) := by
    rw [hb2.cell (Nat.lt_of_lt_of_le (by simp) hb1.size), hb1.cell (by simp), World.cell?_alloc_new]; rfl
  have c2 : w2.cell? ⟨w.heap.size, 1, none⟩ = some (.int .i64 z0) := by
    rw [hb2.cell (Nat.lt_of_lt_of_le (by simp) hb1.size), hb1.cell (by simp), World.cell?_alloc_new]; rfl
  have hlt : w.heap.size < w2.heap.size := Nat.lt_of_lt_of_le (Nat.lt_of_lt_of_le (by simp) hb1.size) hb2.size
  have hbw2 := below_step hbw hb2
  have h2 := h.below hbw2
  have hm2 := hm.below hbw2
  clear h hu hm hb1 hb2 hbw
  go_wp2_with fail
  have e1 : (chk k0 z0 c0 != chk k0 z0 c0) = false := by simp
  have e2 : (allErr n m K Z != allErr n m K Z) = false := by simp
  have e3 : (eqC n n2 m m2 K Z K2 Z2 == eqC n n2 m m2 K Z K2 Z2) = true := by simp
  go_region_held3 (fun w' => w'.cell? ⟨w.heap.size, 0, none⟩ = some (.int .i64 k0) ∧ w'.cell? ⟨w.heap.size, 1, none⟩ = some (.int .i64 z0) ∧ Later w2 w')
    (first | exact ⟨c1, c2, Later.drew (Later.refl _)⟩ | exact keepS hlt (by assumption) (by assumption))
    (first
      | (go_at_call 10; refine (met _).mono ?_; rintro e w' ⟨rfl, hbx⟩)
      | (go_at_call 11; refine (check _ _ _ _).mono ?_; rintro e w' ⟨rfl, hbx⟩)
      | (go_at_call 12; refine (checkValue _ _ _ _).mono ?_; rintro e w' ⟨rfl, hbx⟩)
      | (go_at_call 13; refine (checkAll _ _ _ _ _ _ (later_cells h2 (by assumption))).mono ?_; rintro e w' ⟨rfl, hbx⟩)
      | (go_at_call 14; refine (same_b _ _ _ _ _ _ _ _ _ _ _ (later_cells h2 (by assumption)) (later_cells hm2 (by assumption))).mono ?_; rintro e w' ⟨rfl, hbx⟩)
      | (go_at_call 15; refine (sameCells_b _ _ _ _ _ _ _ _ _ _ _ (later_cells h2 (by assumption)) (later_cells hm2 (by assumption))).mono ?_; rintro e w' ⟨rfl, hbx⟩))
  have hL : Later w2 w' := (‹w'.cell? ⟨w.heap.size, 0, none⟩ = some (.int .i64 k0) ∧ w'.cell? ⟨w.heap.size, 1, none⟩ = some (.int .i64 z0) ∧ Later w2 w'›).2.2
  go_wp2_with fail
  go_ret
  exact ⟨rfl, below_step hbw2 hL⟩

set_option maxHeartbeats 2000000 in
theorem says_C (v u mv : Value) (n : Nat) (m : Nat → Nat) (K Z : Nat → Nat → Int) (f : Nat) (kf zf : Nat → Int) (k0 z0 c0 : Int) (n2 : Nat) (m2 : Nat → Nat) (K2 Z2 : Nat → Nat → Int) (w : World)
    (h : CellsAt w v n m K Z) (hu : ValsAt w u f kf zf) (hm : CellsAt w mv n2 m2 K2 Z2) (hall : allErr n m K Z = 0) (hbig : ¬ 400 < f) (hrow : ¬ rowErr f kf zf n = 0) :
    Calls Try.prog 4 #[v, u, .agg #[.int .i64 k0, .int .i64 z0], .int .i64 c0, mv] w fun e w' => e = .returned (.bool true) ∧ Below w.heap.size w w' := by
  have hu0 := hu
  obtain ⟨ua, ucap, rfl, hfn, hux⟩ := hu0
  have hl0 := h
  obtain ⟨la, lcap, rfl, hln, _⟩ := hl0
  have HE : Hid (reachErr n m K Z f kf zf = rowErr f kf zf n) := reachErr_row hall hbig
  have HBR : Hid (¬ reachErr n m K Z f kf zf = 0) := by rw [HE.out]; exact hrow
  have HALL : Hid (allErr n m K Z = 0) := hall
  have HROW : Hid (¬ rowErr f kf zf n = 0) := hrow
  have t1 : (allErr n m K Z == 0) = true := by simpa using hall
  have hfi : ¬ (400 : Int) < (f : Int) := by omega
  clear hall hrow
  go_enter Try.func4, Try.ntmps4
  go_wp2_with fail
  refine (reach_bad _ _ _ _ _ _ _ _ _ _ (h.below (below_alloc _ _)) (hu.below (below_alloc _ _)) HBR.out).mono ?_
  rintro e w1 ⟨rfl, hb1⟩
  rw [HE.out]
  go_wp2_with fail
  have hbw := below_step (below_alloc _ _) hb1
  refine (checkCells _ _ _ _ _ _ (h.below hbw)).mono ?_
  rintro e w2 ⟨rfl, hb2⟩
  have c1 : w2.cell? ⟨w.heap.size, 0, none⟩ = some (.int .i64 k0) := by
    rw [hb2.cell (Nat.lt_of_lt_of_le (by simp) hb1.size), hb1.cell (by simp), World.cell?_alloc_new]; rfl
  have c2 : w2.cell? ⟨w.heap.size, 1, none⟩ = some (.int .i64 z0) := by
    rw [hb2.cell (Nat.lt_of_lt_of_le (by simp) hb1.size), hb1.cell (by simp), World.cell?_alloc_new]; rfl
  have hlt : w.heap.size < w2.heap.size := Nat.lt_of_lt_of_le (Nat.lt_of_lt_of_le (by simp) hb1.size) hb2.size
  have hbw2 := below_step hbw hb2
  have h2 := h.below hbw2
  have hm2 := hm.below hbw2
  clear h hu hm hb1 hb2 hbw
  go_wp2_with fail
  have e1 : (chk k0 z0 c0 != chk k0 z0 c0) = false := by simp
  have e2 : (allErr n m K Z != allErr n m K Z) = false := by simp
  have e3 : (eqC n n2 m m2 K Z K2 Z2 == eqC n n2 m m2 K Z K2 Z2) = true := by simp
  go_region_held3 (fun w' => w'.cell? ⟨w.heap.size, 0, none⟩ = some (.int .i64 k0) ∧ w'.cell? ⟨w.heap.size, 1, none⟩ = some (.int .i64 z0) ∧ Later w2 w')
    (first | exact ⟨c1, c2, Later.drew (Later.refl _)⟩ | exact keepS hlt (by assumption) (by assumption))
    (first
      | (go_at_call 10; refine (met _).mono ?_; rintro e w' ⟨rfl, hbx⟩)
      | (go_at_call 11; refine (check _ _ _ _).mono ?_; rintro e w' ⟨rfl, hbx⟩)
      | (go_at_call 12; refine (checkValue _ _ _ _).mono ?_; rintro e w' ⟨rfl, hbx⟩)
      | (go_at_call 13; refine (checkAll _ _ _ _ _ _ (later_cells h2 (by assumption))).mono ?_; rintro e w' ⟨rfl, hbx⟩)
      | (go_at_call 14; refine (same_b _ _ _ _ _ _ _ _ _ _ _ (later_cells h2 (by assumption)) (later_cells hm2 (by assumption))).mono ?_; rintro e w' ⟨rfl, hbx⟩)
      | (go_at_call 15; refine (sameCells_b _ _ _ _ _ _ _ _ _ _ _ (later_cells h2 (by assumption)) (later_cells hm2 (by assumption))).mono ?_; rintro e w' ⟨rfl, hbx⟩))
  have hL : Later w2 w' := (‹w'.cell? ⟨w.heap.size, 0, none⟩ = some (.int .i64 k0) ∧ w'.cell? ⟨w.heap.size, 1, none⟩ = some (.int .i64 z0) ∧ Later w2 w'›).2.2
  have hbl := below_step hbw2 hL
  clear hL c1 c2 h2 hm2 hbw2
  go_wp2_with fail
  go_loopw [13, 61] (fun bv i wr => ∃ j : Nat, j ≤ f ∧ i = .int .i64 j ∧ (∃ b : Int, bv = .int .i64 b ∧ Hid (b = 0)) ∧ Below w.heap.size w wr ∧ Hid (∀ x, x < j → chk (kf x) (zf x) n = 0)) (fun _ i _ => f - (intOf i).toNat)
  case atStart => exact ⟨0, Nat.zero_le _, rfl, ⟨_, rfl, HALL.out⟩, hbl, fun j hj => absurd hj (Nat.not_lt_zero _)⟩
  case round =>
    obtain ⟨j, hj, rfl, ⟨b, rfl, hb0⟩, hb, hall⟩ := hrel
    clear hbl
    have hsz := hb.size
    by_cases hjl : j < f
    · rcases hux with hq | ⟨pu, ou, rfl, hpu, gu⟩
      · omega
      obtain ⟨q0, q1⟩ := gu j hjl
      rw [← hb.cell hpu] at q0 q1
      clear gu
      by_cases he : chk (kf j) (zf j) n = 0
      · have het : (chk (kf j) (zf j) n != 0) = false := by simp [he]
        have HC : Hid (chk (kf j) (zf j) n = 0) := he
        clear he
        go_wp2_with (go_at_call 12; refine (checkValue _ _ _ _).mono ?_; rintro e w3 ⟨rfl, hb3⟩)
        go_roundw
        case rel => exact ⟨j + 1, by omega, by go_num, ⟨_, rfl, HC⟩, below_step hb (below_step (below_alloc _ _) hb3), upTo hall.out HC.out⟩
        case measure => simp [intOf]; omega
      · have het : (chk (kf j) (zf j) n != 0) = true := by simp [he]
        have heq : (rowErr f kf zf n == chk (kf j) (zf j) n) = true := by
          have : rowErr f kf zf n = chk (kf j) (zf j) n := firstErr_at hall.out he hjl
          rw [this]; simp
        clear he
        go_wp2_with (go_at_call 12; refine (checkValue _ _ _ _).mono ?_; rintro e w3 ⟨rfl, hb3⟩)
        go_ret
        exact ⟨rfl, below_step hb (below_step (below_alloc _ _) hb3)⟩
    · obtain rfl : j = f := by omega
      exact absurd (firstErr_zero hall.out) HROW.out

set_option maxHeartbeats 2000000 in
theorem says_D (v u mv : Value) (n : Nat) (m : Nat → Nat) (K Z : Nat → Nat → Int) (f : Nat) (kf zf : Nat → Int) (k0 z0 c0 : Int) (n2 : Nat) (m2 : Nat → Nat) (K2 Z2 : Nat → Nat → Int) (w : World)
    (h : CellsAt w v n m K Z) (hu : ValsAt w u f kf zf) (hm : CellsAt w mv n2 m2 K2 Z2) (hv : Valid n m K Z f kf zf) :
    Calls Try.prog 4 #[v, u, .agg #[.int .i64 k0, .int .i64 z0], .int .i64 c0, mv] w fun e w' => e = .returned (.bool true) ∧ Below w.heap.size w w' := by
  have hu0 := hu
  obtain ⟨ua, ucap, rfl, hfn, hux⟩ := hu0
  have hl0 := h
  obtain ⟨la, lcap, rfl, hln, _⟩ := hl0
  have HV : Hid (Valid n m K Z f kf zf) := hv
  have HALL : Hid (allErr n m K Z = 0) := allErr_zero.2 ⟨hv.few, fun i hi => ⟨hv.least i hi, hv.most i hi, hv.fields i hi⟩⟩
  have t1 : (allErr n m K Z == 0) = true := by simpa using HALL.out
  have hfi : ¬ (400 : Int) < (f : Int) := by have := hv.short; omega
  clear hv
  go_enter Try.func4, Try.ntmps4
  go_wp2_with fail
  refine (reach_ok _ _ _ _ _ _ _ _ _ _ (h.below (below_alloc _ _)) (hu.below (below_alloc _ _)) HV.out).mono ?_
  rintro e w1 ⟨s, rfl, hs, hb1⟩
  have hs0 := hs
  obtain ⟨sa, scap, rfl, _⟩ := hs0
  go_wp2_with fail
  have hbw := below_step (below_alloc _ _) hb1
  refine (checkCells _ _ _ _ _ _ (h.below hbw)).mono ?_
  rintro e w2 ⟨rfl, hb2⟩
  have c1 : w2.cell? ⟨w.heap.size, 0, none⟩ = some (.int .i64 k0) := by
    rw [hb2.cell (Nat.lt_of_lt_of_le (by simp) hb1.size), hb1.cell (by simp), World.cell?_alloc_new]; rfl
  have c2 : w2.cell? ⟨w.heap.size, 1, none⟩ = some (.int .i64 z0) := by
    rw [hb2.cell (Nat.lt_of_lt_of_le (by simp) hb1.size), hb1.cell (by simp), World.cell?_alloc_new]; rfl
  have hlt : w.heap.size < w2.heap.size := Nat.lt_of_lt_of_le (Nat.lt_of_lt_of_le (by simp) hb1.size) hb2.size
  have hbw2 := below_step hbw hb2
  have h2 := h.below hbw2
  have hm2 := hm.below hbw2
  have hs2 := hs.below hb2
  clear hm hb1 hb2 hbw hs
  go_wp2_with fail
  have e1 : (chk k0 z0 c0 != chk k0 z0 c0) = false := by simp
  have e2 : (allErr n m K Z != allErr n m K Z) = false := by simp
  have e3 : (eqC n n2 m m2 K Z K2 Z2 == eqC n n2 m m2 K Z K2 Z2) = true := by simp
  go_region_held3 (fun w' => w'.cell? ⟨w.heap.size, 0, none⟩ = some (.int .i64 k0) ∧ w'.cell? ⟨w.heap.size, 1, none⟩ = some (.int .i64 z0) ∧ Later w2 w')
    (first | exact ⟨c1, c2, Later.drew (Later.refl _)⟩ | exact keepS hlt (by assumption) (by assumption))
    (first
      | (go_at_call 10; refine (met _).mono ?_; rintro e w' ⟨rfl, hbx⟩)
      | (go_at_call 11; refine (check _ _ _ _).mono ?_; rintro e w' ⟨rfl, hbx⟩)
      | (go_at_call 12; refine (checkValue _ _ _ _).mono ?_; rintro e w' ⟨rfl, hbx⟩)
      | (go_at_call 13; refine (checkAll _ _ _ _ _ _ (later_cells h2 (by assumption))).mono ?_; rintro e w' ⟨rfl, hbx⟩)
      | (go_at_call 14; refine (same_b _ _ _ _ _ _ _ _ _ _ _ (later_cells h2 (by assumption)) (later_cells hm2 (by assumption))).mono ?_; rintro e w' ⟨rfl, hbx⟩)
      | (go_at_call 15; refine (sameCells_b _ _ _ _ _ _ _ _ _ _ _ (later_cells h2 (by assumption)) (later_cells hm2 (by assumption))).mono ?_; rintro e w' ⟨rfl, hbx⟩))
  have hL : Later w2 w' := (‹w'.cell? ⟨w.heap.size, 0, none⟩ = some (.int .i64 k0) ∧ w'.cell? ⟨w.heap.size, 1, none⟩ = some (.int .i64 z0) ∧ Later w2 w'›).2.2
  have hs3 := hs2.below hL
  clear hs2
  have hbl := below_step hbw2 hL
  clear hL c1 c2 h2 hm2 hbw2
  go_wp2_with fail
  go_loopw [13, 61] (fun bv i wr => ∃ j : Nat, j ≤ f ∧ i = .int .i64 j ∧ (∃ b : Int, bv = .int .i64 b ∧ Hid (b = 0)) ∧ Below w.heap.size w wr ∧ Hid (∀ x, x < j → chk (kf x) (zf x) n = 0) ∧ IntsAt wr (.slice sa (reached n m K Z f kf zf).length scap) (reached n m K Z f kf zf).length (fun i => (reached n m K Z f kf zf).getD i 0)) (fun _ i _ => f - (intOf i).toNat)
  case atStart => exact ⟨0, Nat.zero_le _, rfl, ⟨_, rfl, HALL.out⟩, hbl, fun j hj => absurd hj (Nat.not_lt_zero _), hs3⟩
  case round =>
    obtain ⟨j, hj, rfl, ⟨b, rfl, hb0⟩, hb, hall, hs4⟩ := hrel
    clear hbl
    have hsz := hb.size
    by_cases hjl : j < f
    · rcases hux with hq | ⟨pu, ou, rfl, hpu, gu⟩
      · omega
      obtain ⟨q0, q1⟩ := gu j hjl
      rw [← hb.cell hpu] at q0 q1
      clear gu
      have HC : Hid (chk (kf j) (zf j) n = 0) := HV.out.vals j hjl
      have het : (chk (kf j) (zf j) n != 0) = false := by simpa using HC.out
      go_wp2_with (go_at_call 12; refine (checkValue _ _ _ _).mono ?_; rintro e w3 ⟨rfl, hb3⟩)
      go_roundw
      case rel =>
        have hb4 := below_step (below_alloc _ _) hb3
        exact ⟨j + 1, by omega, by go_num, ⟨_, rfl, HC⟩, below_step hb hb4, upTo hall.out HC.out, hs4.below hb4⟩
      case measure => simp [intOf]; omega
    · obtain rfl : b = 0 := hb0
      have hlr : (reached n m K Z f kf zf).length ≤ maxLen := by have h1 := (rt_good HV.out n).len; have h2 := HV.out.few; unfold reached maxLen; omega
      go_wp2_with fail
      refine (met_ref _ _ _ _ _ _ _ _ _ _ (h.below hb) (hu.below hb) HV.out).mono ?_
      rintro e w4 ⟨s4, rfl, hs5, hb5⟩
      have hs6 := hs4.below hb5
      have hs50 := hs5
      obtain ⟨sa4, scap4, rfl, _⟩ := hs50
      go_wp2_with fail
      refine (eqInts _ _ _ _ _ _ _ hs6 hs5 hlr hlr).mono ?_
      rintro e w6 ⟨rfl, m6, rfl⟩
      rw [eqB_yes (fun _ _ => rfl)]
      go_wp2_with fail
      go_ret
      exact ⟨rfl, below_step (below_step hb hb5) (below_drewN' _ _)⟩

end Go.Proofs.Ytnkhdhbjdemdkaa
