/- Names returns true: each constant of package api has the value that the statement lists. No condition. -/
import Derived.Test.YtnkhdhbjdemdkaaEqInts
namespace Go.Proofs.Ytnkhdhbjdemdkaa.names
open Go.ChangeShapes Go.WideShapes Go.ChangeAt Go.RowKit

theorem codes (k : Nat) (h : k < 9) : (#[Value.int .i64 0, .int .i64 1, .int .i64 2, .int .i64 3, .int .i64 4, .int .i64 5, .int .i64 6, .int .i64 7, .int .i64 8])[k]? = some (.int .i64 k) := by
  match k, h with
  | 0, _ => rfl
  | 1, _ => rfl
  | 2, _ => rfl
  | 3, _ => rfl
  | 4, _ => rfl
  | 5, _ => rfl
  | 6, _ => rfl
  | 7, _ => rfl
  | 8, _ => rfl

def limits : List Value := [.int .i64 1000000000, .int .i64 24, .int .i64 4, .int .i64 3, .int .i64 6, .int .i64 30, .int .i64 4, .int .i64 40, .int .i64 2000, .int .i64 4, .int .i64 24, .int .i64 10, .int .i64 1200, .int .i64 40, .int .i64 2000, .int .i64 60000, .int .i64 3, .int .i64 3, .int .i64 100, .int .i64 120, .int .i64 40, .int .i64 120]
def kinds : List Value := [.int .i64 1, .int .i64 2, .int .i64 3, .int .i64 4, .int .i64 5, .int .i64 6, .int .i64 1, .int .i64 2, .int .i64 3, .int .i64 4, .int .i64 5, .int .i64 1, .int .i64 2, .int .i64 3, .int .i64 4, .int .i64 5, .int .i64 6, .int .i64 7, .int .i64 8, .int .i64 0, .int .i64 1, .int .i64 2, .int .i64 0, .int .i64 1, .int .i64 2, .int .i64 3]
def ops : List Value := [.int .i64 1, .int .i64 2, .int .i64 3, .int .i64 4, .int .i64 5, .int .i64 6, .int .i64 7, .int .i64 8, .int .i64 9, .int .i64 10, .int .i64 11, .int .i64 12, .int .i64 13, .int .i64 1, .int .i64 2, .int .i64 3, .int .i64 4, .int .i64 5, .int .i64 1, .int .i64 2, .int .i64 3, .int .i64 4, .int .i64 5, .int .i64 6, .int .i64 7, .int .i64 8, .int .i64 9]

theorem eqB_self (n : Nat) (z : Nat → Int) : eqB n n z z = true := eqB_yes fun _ _ => rfl

set_option maxHeartbeats 1000000 in
theorem walk (w : World) :
    Calls Try.prog 3 #[] w fun e w' => e = .returned (.bool true) ∧ Below w.heap.size w w' := by
  go_enter Try.func3, Try.ntmps3
  go_wp2_with fail
  go_loop [10] (fun i => ∃ k : Nat, k ≤ 9 ∧ i = .int .i64 k) (fun i => 9 - (intOf i).toNat)
  case atStart => exact ⟨0, Nat.zero_le _, rfl⟩
  case round =>
    obtain ⟨k, hk, rfl⟩ := hrel
    by_cases hlt : k < 9
    · have hc : (w.alloc (.cells #[Value.int .i64 0, .int .i64 1, .int .i64 2, .int .i64 3, .int .i64 4, .int .i64 5, .int .i64 6, .int .i64 7, .int .i64 8] 22)).cell? ⟨w.heap.size, k, none⟩ = some (.int .i64 k) := by
        rw [World.cell?_alloc_new]; exact codes k hlt
      have ht : ((k : Int) != (k : Int)) = false := by simp
      go_wp2
      go_round
      case rel => exact ⟨k + 1, by omega, by go_num⟩
      case measure => simp [intOf]; omega
    · go_wp2_with fail
      refine (eqInts _ _ 22 22 (numAt limits) (numAt limits) _ (ints_cells _ _ _ _ _ rfl (by simp) (by decide) (fun i => by go_simp; rfl)) (ints_cells _ _ _ _ _ rfl (by simp) (by decide) (fun i => by go_simp; rfl)) (by decide) (by decide)).mono ?_
      rintro e w1 ⟨rfl, m1, rfl⟩
      rw [eqB_self]
      go_wp2_with fail
      refine (eqInts _ _ 26 26 (numAt kinds) (numAt kinds) _ (ints_cells _ _ _ _ _ rfl (by simp) (by decide) (fun i => by go_simp; rfl)) (ints_cells _ _ _ _ _ rfl (by simp) (by decide) (fun i => by go_simp; rfl)) (by decide) (by decide)).mono ?_
      rintro e w2 ⟨rfl, m2, rfl⟩
      rw [eqB_self]
      go_wp2_with fail
      refine (eqInts _ _ 27 27 (numAt ops) (numAt ops) _ (ints_cells _ _ _ _ _ rfl (by simp) (by decide) (fun i => by go_simp; rfl)) (ints_cells _ _ _ _ _ rfl (by simp) (by decide) (fun i => by go_simp; rfl)) (by decide) (by decide)).mono ?_
      rintro e w3 ⟨rfl, m3, rfl⟩
      rw [eqB_self]
      go_wp2_with fail
      go_ret
      refine ⟨rfl, ?_⟩
      repeat (first | exact Below.refl _ _ | refine below_drewN ?_ _ | refine Below.alloc ?_ (by simp <;> omega) _)

theorem own : ownKnob Try.prog.godebug = none := by kernel_rfl

set_option maxRecDepth 100000 in
theorem lifted (os : Os) (started : os.Started) (H : Type) (enc : TypeId × Value → H) :
    ReturnsInHanded {} Try.checked os 3 .any (Rows.namesSpec.pre6 enc Try.prog Try.f3 Rows.namesRow.domain false) (Rows.namesSpec.post enc Try.prog Try.f3 false true false false) := by
  refine returnsInHanded_of_change (C := Try.checked) own started (by kernel_rfl) Try.func3
    (ChangeSpec.witness6 (enc := enc) (C := Try.checked) false ⟨#[], #[], []⟩ 8 (by kernel_rfl) (by kernel_rfl) (by kernel_rfl) (by kernel_rfl)) ?_
  intro W base args ds gs before _ hW _ _
  have hW' := hW
  obtain ⟨p, q, hA0, hV, rfl, hfz, hnd⟩ := hW
  have hA : DataW.TrodAll enc Try.prog W 0 (fun _ => true) true Try.f3.params.toList args.toList ds p := hA0
  rw [Try.params3] at hA
  obtain ⟨rfl, rfl, rfl⟩ := trodAll_none hA
  obtain ⟨rfl, rfl⟩ := trodVars_none hV
  clear hA0
  simp only [List.append_nil] at hW'
  refine (walk W).mono fun e W' ⟨he, bel⟩ => ?_
  subst he
  exact ⟨_, rfl, _, _, _, [], [], [], hW', trodAll_mk1 (shut_bool Try.underlying4 _), trodAll_mk0, rfl, bel.frame _, fun h => by cases h⟩

theorem over : Rows.namesRow.holds Try.pinned (OpenSpec.ofChange Rows.namesSpec) :=
  OpenClaim.holds_of_wide 3 Try.f3 rfl rfl rfl rfl rfl rfl rfl ⟨rfl, rfl, rfl, rfl, rfl⟩ rfl rfl rfl rfl rfl (by kernel_rfl) Try.func3 (by kernel_rfl)
    (of_decide_eq_true (by kernel_rfl)) (by unfold Func.isWrapper; first | (rw [if_pos (by decide +kernel)]; kernel_rfl) | (rw [if_neg (by decide +kernel)]; exact ⟨rfl, rfl⟩))
    (fun os started H enc _ => lifted os started H enc)

end Go.Proofs.Ytnkhdhbjdemdkaa.names

namespace Go.Proofs.Ytnkhdhbjdemdkaa
/-- The statement. -/
theorem names_proved : Rows.NamesSaid := names.over
#print axioms names_proved
end Go.Proofs.Ytnkhdhbjdemdkaa
