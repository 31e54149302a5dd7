/- CellClosed returns true for all cells and values: what is reached is reached once, it is of the values or in a field of what is reached, and so is nothing else; nothing that was handed in is changed. No condition. -/
import Derived.Test.YtnkhdhbjdemdkaaClosed
import Derived.Test.YtnkhdhbjdemdkaaOpen
import Derived.ChangeOld
namespace Go.Proofs.Ytnkhdhbjdemdkaa.cellClosed
open Go.ChangeShapes Go.WideShapes Go.ChangeAt Go.RowKit

theorem own : ownKnob Try.prog.godebug = none := by kernel_rfl
theorem laidOut : laidOutB Try.prog = true := by kernel_rfl

theorem walk (v u : Value) (n : Nat) (m : Nat → Nat) (K Z : Nat → Nat → Int) (f : Nat) (kf zf : Nat → Int) (w : World) (h : CellsAt w v n m K Z) (hu : ValsAt w u f kf zf) :
    Calls Try.prog 5 #[v, u] w fun e w' => e = .returned (.bool true) ∧ Below w.heap.size w w' := by
  by_cases hr : reachErr n m K Z f kf zf = 0
  · exact closed_ok v u n m K Z f kf zf w h hu (reachErr_zero.1 hr)
  · exact closed_bad v u n m K Z f kf zf w h hu hr

set_option maxRecDepth 100000 in
theorem lifted (os : Os) (started : os.Started) (H : Type) (enc : TypeId × Value → H) :
    ReturnsInHanded {} Try.checked os 5 .any (Rows.cellClosedSpec.pre6 enc Try.prog Try.f5 Rows.cellClosedRow.domain false) (Rows.cellClosedSpec.post enc Try.prog Try.f5 false true false false) := by
  refine returnsInHanded_of_change (C := Try.checked) own started (by kernel_rfl) Try.func5
    (ChangeSpec.witness6 (enc := enc) (C := Try.checked) false ⟨#[], #[.slice none 0 0, .slice none 0 0], []⟩ 8 (by kernel_rfl) (by kernel_rfl) (by kernel_rfl) (by kernel_rfl)) ?_
  intro W base args ds gs before hval0 hW _ _
  have hval : ∀ (j : Nat) t v, Try.f5.params[j]? = some t → args[j]? = some v → Value.okWide Try.prog W .any base t v := hval0
  have hW' := hW
  obtain ⟨p, q, hA0, hV, rfl, hfz, hnd⟩ := hW
  have hA : DataW.TrodAll enc Try.prog W 0 (fun _ => true) true Try.f5.params.toList args.toList ds p := hA0
  rw [Try.params5] at hA hval
  obtain ⟨v0, vs0, d0, ds0, p0, q0, hargs, rfl, rfl, h0, r0⟩ := trodAll_cons hA
  obtain ⟨v1, vs1, d1, ds1, p1, q1, rfl, rfl, rfl, h1, r1⟩ := trodAll_cons r0
  obtain ⟨rfl, rfl, rfl⟩ := trodAll_nil r1
  obtain rfl : args = #[v0, v1] := by cases args; simp_all
  obtain ⟨rfl, rfl⟩ := trodVars_none hV
  have lt0 : ∀ x ∈ p0, x.block < W.heap.size := by obtain ⟨m, hm⟩ := h0; exact DataW.trod_lt m _ _ _ hm
  have lt1 : ∀ x ∈ p1, x.block < W.heap.size := by obtain ⟨m, hm⟩ := h1; exact DataW.trod_lt m _ _ _ hm
  obtain ⟨n, m, K, Z, w0⟩ : ∃ n m K Z, CellsAt W v0 n m K Z := by
    obtain ⟨a, len, cap, rfl⟩ := okWide_slice Try.underlying27 (hval 0 27 v0 rfl rfl)
    obtain ⟨fuel, hf⟩ := h0
    exact cells_of_trod (by simpa [Value.cells] using hf)
  obtain ⟨f, kf, zf, w1⟩ : ∃ n k z, ValsAt W v1 n k z := by
    obtain ⟨a, len, cap, rfl⟩ := okWide_slice Try.underlying28 (hval 1 28 v1 rfl rfl)
    obtain ⟨fuel, hf⟩ := h1
    exact vals_of_trod (by simpa [Value.cells] using hf)
  clear hA0 hval0 hval
  refine (walk v0 v1 n m K Z f kf zf W w0 w1).mono fun e W' ⟨he, bel⟩ => ?_
  subst he
  exact ⟨_, rfl, _, _, _, [], _, [], hW', trodAll_mk1 (shut_bool Try.underlying4 _),
    (trodAll_cons_mk (Below.trod laidOut (by kernel_rfl) (of_decide_eq_true (by kernel_rfl)) h0 bel lt0)
      (trodAll_cons_mk (Below.trod laidOut (by kernel_rfl) (of_decide_eq_true (by kernel_rfl)) h1 bel lt1) trodAll_mk0)), rfl, bel.frame _, fun h => by cases h⟩

theorem over : Rows.cellClosedRow.holds Try.pinned (OpenSpec.ofChange Rows.cellClosedSpec) :=
  OpenClaim.holds_of_wide 5 Try.f5 rfl rfl rfl rfl rfl rfl rfl ⟨rfl, rfl, rfl, rfl, rfl⟩ rfl rfl rfl rfl rfl (by kernel_rfl) Try.func5 (by kernel_rfl)
    (of_decide_eq_true (by kernel_rfl)) (by unfold Func.isWrapper; first | (rw [if_pos (by decide +kernel)]; kernel_rfl) | (rw [if_neg (by decide +kernel)]; exact ⟨rfl, rfl⟩))
    (fun os started H enc _ => lifted os started H enc)

end Go.Proofs.Ytnkhdhbjdemdkaa.cellClosed

namespace Go.Proofs.Ytnkhdhbjdemdkaa
/-- The statement. -/
theorem cellClosed_proved : Rows.CellClosedSaid := cellClosed.over
#print axioms cellClosed_proved
end Go.Proofs.Ytnkhdhbjdemdkaa
