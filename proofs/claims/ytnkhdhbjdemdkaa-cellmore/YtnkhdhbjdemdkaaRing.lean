/- The closed fact of the cells' statements: two of three cells are met. -/
import Derived.Test.YtnkhdhbjdemdkaaMet
namespace Go.Proofs.Ytnkhdhbjdemdkaa
open Go.RowKit Go.Maps

def mR (i : Nat) : Nat := if i = 1 then 2 else 1
def KR (i j : Nat) : Int := if i = 0 then 0 else if i = 1 then (if j = 0 then 2 else 1) else 2
def ZR (i j : Nat) : Int := if i = 0 then 0 else if i = 1 then (if j = 0 then 2 else 5) else 1

theorem ring_cells (w : World) : CellsAt ((((w.alloc (.cells #[.int .i64 0, .int .i64 0] 30)).alloc (.cells #[.int .i64 2, .int .i64 2, .int .i64 1, .int .i64 5] 30)).alloc (.cells #[.int .i64 2, .int .i64 1] 30)).alloc
    (.cells #[.slice (some ⟨w.heap.size, 0, none⟩) 1 1, .slice (some ⟨w.heap.size + 1, 0, none⟩) 2 2, .slice (some ⟨w.heap.size + 1 + 1, 0, none⟩) 1 1] 28)) (.slice (some ⟨w.heap.size + 1 + 1 + 1, 0, none⟩) 3 3) 3 mR KR ZR := by
  refine ⟨_, _, rfl, by omega, Or.inr ⟨_, 0, rfl, by simp, fun i hi => ?_⟩⟩
  match i, hi with
  | 0, _ =>
    refine ⟨.slice (some ⟨w.heap.size, 0, none⟩) 1 1, by go_simp, ⟨_, _, rfl, by decide, Or.inr ⟨_, 0, rfl, by simp; omega, fun j hj => ?_⟩⟩⟩
    match j, hj with
    | 0, _ => exact ⟨by go_simp; rfl, by go_simp; rfl⟩
  | 1, _ =>
    refine ⟨.slice (some ⟨w.heap.size + 1, 0, none⟩) 2 2, by go_simp, ⟨_, _, rfl, by decide, Or.inr ⟨_, 0, rfl, by simp, fun j hj => ?_⟩⟩⟩
    match j, hj with
    | 0, _ => exact ⟨by go_simp; rfl, by go_simp; rfl⟩
    | 1, _ => exact ⟨by go_simp; rfl, by go_simp; rfl⟩
  | 2, _ =>
    refine ⟨.slice (some ⟨w.heap.size + 1 + 1, 0, none⟩) 1 1, by go_simp, ⟨_, _, rfl, by decide, Or.inr ⟨_, 0, rfl, by simp, fun j hj => ?_⟩⟩⟩
    match j, hj with
    | 0, _ => exact ⟨by go_simp; rfl, by go_simp; rfl⟩

set_option maxHeartbeats 400000 in
theorem ring (w : World) : Calls Try.prog 24 #[] w fun e w' => ∃ b, e = .returned (.slice (some ⟨b, 0, none⟩) 3 3) ∧ CellsAt w' (.slice (some ⟨b, 0, none⟩) 3 3) 3 mR KR ZR ∧ Below w.heap.size w w' := by
  go_enter Try.func24, Try.ntmps24
  go_wp2
  go_ret
  refine ⟨_, rfl, ring_cells w, ?_⟩
  repeat (first | exact Below.refl _ _ | refine Below.alloc ?_ (by simp <;> omega) _)

theorem CellsAt.less {w : World} {a : Option Addr} {n c n' : Nat} {m : Nat → Nat} {K Z : Nat → Nat → Int} (h : CellsAt w (.slice a n c) n m K Z) (hn : n' ≤ n) : CellsAt w (.slice a n' c) n' m K Z := by
  obtain ⟨a', c', e, hb, h | ⟨b, o, rfl, hlt, g⟩⟩ := h
  · cases e; exact ⟨_, _, rfl, by omega, Or.inl (by omega)⟩
  · cases e; exact ⟨_, _, rfl, by omega, Or.inr ⟨b, o, rfl, hlt, fun i hi => g i (by omega)⟩⟩

def kR (i : Nat) : Int := if i = 0 then 0 else 2
def zR (i : Nat) : Int := if i = 0 then 0 else 2

theorem ring_valid : Valid 3 mR KR ZR 2 kR zR := reachErr_zero.1 (by decide)
theorem ring_reached : reached 3 mR KR ZR 2 kR zR = [2, 1] := by decide
theorem ring_err : allErr 2 mR KR ZR = 5 := by decide

theorem vals_two (w : World) : ValsAt (w.alloc (.cells #[.int .i64 0, .int .i64 0, .int .i64 2, .int .i64 2] 30)) (.slice (some ⟨w.heap.size, 0, none⟩) 2 2) 2 kR zR := by
  refine ⟨_, _, rfl, by omega, Or.inr ⟨_, 0, rfl, by simp, fun i hi => ?_⟩⟩
  match i, hi with
  | 0, _ => exact ⟨by go_simp; rfl, by go_simp; rfl⟩
  | 1, _ => exact ⟨by go_simp; rfl, by go_simp; rfl⟩

set_option maxHeartbeats 1000000 in
theorem met (w : World) : Calls Try.prog 10 #[] w fun e w' => e = .returned (.bool true) ∧ Below w.heap.size w w' := by
  go_enter Try.func10, Try.ntmps10
  go_wp2_with fail
  refine (ring _).mono ?_
  rintro e w1 ⟨b, rfl, hc, hb1⟩
  go_wp2_with fail
  refine (reach_ok _ _ 3 mR KR ZR 2 kR zR _ (hc.below (below_alloc _ _)) (vals_two _) ring_valid).mono ?_
  rintro e w2 ⟨s, rfl, hs, hb2⟩
  rw [ring_reached] at hs
  have hbw := below_step (below_step hb1 (below_alloc _ _)) hb2
  clear hc hb1 hb2
  have hs' := hs
  obtain ⟨sa, scap, rfl, _⟩ := hs'
  go_wp2_with fail
  refine (eqInts _ _ 2 2 _ (numAt [.int .i64 2, .int .i64 1]) _ (hs.alloc _) (ints_cells _ _ _ _ _ rfl (by simp) (by decide) (fun i => by go_simp)) (by decide) (by decide)).mono ?_
  rintro e w3 ⟨rfl, m3, rfl⟩
  rw [show eqB 2 2 (fun i => [2, 1].getD i 0) (numAt [.int .i64 2, .int .i64 1]) = true from by decide]
  go_wp2_with fail
  refine (ring _).mono ?_
  rintro e w4 ⟨b4, rfl, hc4, hb4⟩
  have hbw4 := below_step (below_step hbw (below_step (below_alloc _ _) (below_drewN' _ _))) hb4
  clear hb4 hbw hs
  go_wp2_with fail
  refine (checkAll _ 2 mR KR ZR _ (hc4.less (by decide))).mono ?_
  rintro e w5 ⟨rfl, hb5⟩
  rw [ring_err]
  go_wp2_with fail
  go_ret
  exact ⟨rfl, below_step hbw4 hb5⟩
end Go.Proofs.Ytnkhdhbjdemdkaa
