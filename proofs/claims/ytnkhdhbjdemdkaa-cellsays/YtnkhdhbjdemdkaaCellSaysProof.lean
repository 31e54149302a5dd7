/- CellSays returns true for all cells, values and numbers: Check, CheckAll, Same and Reach answer as the reckoning beside them does, errors too; nothing that was handed in is changed. No condition. -/
import Derived.Test.YtnkhdhbjdemdkaaSays
import Derived.Test.YtnkhdhbjdemdkaaOpen
import Derived.Lib.SmallJoins
import Derived.ChangeOld
namespace Go.Proofs.Ytnkhdhbjdemdkaa.cellSays
open Go.ChangeShapes Go.WideShapes Go.ChangeAt Go.RowKit Go.Joins

theorem own : ownKnob Try.prog.godebug = none := by kernel_rfl
theorem laidOut : laidOutB Try.prog = true := by kernel_rfl

theorem walk (v u mv : Value) (n : Nat) (m : Nat → Nat) (K Z : Nat → Nat → Int) (f : Nat) (kf zf : Nat → Int) (k0 z0 c0 : Int) (n2 : Nat) (m2 : Nat → Nat) (K2 Z2 : Nat → Nat → Int) (w : World)
    (h : CellsAt w v n m K Z) (hu : ValsAt w u f kf zf) (hm : CellsAt w mv n2 m2 K2 Z2) :
    Calls Try.prog 4 #[v, u, .agg #[.int .i64 k0, .int .i64 z0], .int .i64 c0, mv] w fun e w' => e = .returned (.bool true) ∧ Below w.heap.size w w' := by
  by_cases ha : allErr n m K Z = 0
  · by_cases hf : 400 < f
    · exact says_B v u mv n m K Z f kf zf k0 z0 c0 n2 m2 K2 Z2 w h hu hm ha hf
    · by_cases hr : rowErr f kf zf n = 0
      · exact says_D v u mv n m K Z f kf zf k0 z0 c0 n2 m2 K2 Z2 w h hu hm (reachErr_zero.1 ((reachErr_row ha hf).trans hr))
      · exact says_C v u mv n m K Z f kf zf k0 z0 c0 n2 m2 K2 Z2 w h hu hm ha hf hr
  · exact says_A v u mv n m K Z f kf zf k0 z0 c0 n2 m2 K2 Z2 w h hu hm ha

set_option maxRecDepth 100000 in
theorem lifted (os : Os) (started : os.Started) (H : Type) (enc : TypeId × Value → H) :
    ReturnsInHanded {} Try.checked os 4 .any (Rows.cellSaysSpec.pre6 enc Try.prog Try.f4 Rows.cellSaysRow.domain false) (Rows.cellSaysSpec.post enc Try.prog Try.f4 false true false false) := by
  refine returnsInHanded_of_change (C := Try.checked) own started (by kernel_rfl) Try.func4
    (ChangeSpec.witness6 (enc := enc) (C := Try.checked) false ⟨#[], #[.slice none 0 0, .slice none 0 0, .agg #[.int .i64 0, .int .i64 0], .int .i64 0, .slice none 0 0], []⟩ 8 (by kernel_rfl) (by kernel_rfl) (by kernel_rfl) (by kernel_rfl)) ?_
  intro W base args ds gs before hval0 hW _ _
  have hval : ∀ (j : Nat) t v, Try.f4.params[j]? = some t → args[j]? = some v → Value.okWide Try.prog W .any base t v := hval0
  have hW' := hW
  obtain ⟨p, q, hA0, hV, rfl, hfz, hnd⟩ := hW
  have hA : DataW.TrodAll enc Try.prog W 0 (fun _ => true) true Try.f4.params.toList args.toList ds p := hA0
  rw [Try.params4] at hA hval
  obtain ⟨v0, vs0, d0, ds0, p0, q0, hargs, rfl, rfl, h0, r0⟩ := trodAll_cons hA
  obtain ⟨v1, vs1, d1, ds1, p1, q1, rfl, rfl, rfl, h1, r1⟩ := trodAll_cons r0
  obtain ⟨v2, vs2, d2, ds2, p2, q2, rfl, rfl, rfl, h2, r2⟩ := trodAll_cons r1
  obtain ⟨v3, vs3, d3, ds3, p3, q3, rfl, rfl, rfl, h3, r3⟩ := trodAll_cons r2
  obtain ⟨v4, vs4, d4, ds4, p4, q4, rfl, rfl, rfl, h4, r4⟩ := trodAll_cons r3
  obtain ⟨rfl, rfl, rfl⟩ := trodAll_nil r4
  obtain rfl : args = #[v0, v1, v2, v3, v4] := by cases args; simp_all
  obtain ⟨rfl, rfl⟩ := trodVars_none hV
  have lt0 : ∀ x ∈ p0, x.block < W.heap.size := by obtain ⟨m, hm⟩ := h0; exact DataW.trod_lt m _ _ _ hm
  have lt1 : ∀ x ∈ p1, x.block < W.heap.size := by obtain ⟨m, hm⟩ := h1; exact DataW.trod_lt m _ _ _ hm
  have lt2 : ∀ x ∈ p2, x.block < W.heap.size := by obtain ⟨m, hm⟩ := h2; exact DataW.trod_lt m _ _ _ hm
  have lt3 : ∀ x ∈ p3, x.block < W.heap.size := by obtain ⟨m, hm⟩ := h3; exact DataW.trod_lt m _ _ _ hm
  have lt4 : ∀ x ∈ p4, x.block < W.heap.size := by obtain ⟨m, hm⟩ := h4; exact DataW.trod_lt m _ _ _ hm
  obtain ⟨n, m, K, Z, w0⟩ : ∃ n m K Z, CellsAt W v0 n m K Z := by
    obtain ⟨a, len, cap, rfl⟩ := okWide_slice Try.underlying27 (hval 0 27 v0 rfl rfl)
    obtain ⟨fuel, hf⟩ := h0
    exact cells_of_trod (by simpa [Value.cells] using hf)
  obtain ⟨f, kf, zf, w1⟩ : ∃ n k z, ValsAt W v1 n k z := by
    obtain ⟨a, len, cap, rfl⟩ := okWide_slice Try.underlying28 (hval 1 28 v1 rfl rfl)
    obtain ⟨fuel, hf⟩ := h1
    exact vals_of_trod (by simpa [Value.cells] using hf)
  obtain ⟨k0, z0, rfl⟩ : ∃ k0 z0, v2 = .agg #[.int .i64 k0, .int .i64 z0] := by
    obtain ⟨c0, c1, y0, y1, mm, rfl, _, _, hy0, hy1⟩ := open_agg2 Try.underlying30 (by kernel_rfl) cells30 (hval 2 30 v2 rfl rfl) h2
    obtain ⟨a, e0, _, _⟩ := DataW.trod_int Try.underlying3 hy0
    obtain ⟨b, e1, _, _⟩ := DataW.trod_int Try.underlying3 hy1
    simp at e0 e1
    exact ⟨a, b, by rw [e0, e1]⟩
  obtain ⟨c0, rfl⟩ : ∃ c0, v3 = .int .i64 c0 := by
    obtain ⟨x, rfl, _, _, _⟩ := open_int Try.underlying3 (hval 3 3 v3 rfl rfl) h3
    exact ⟨x, rfl⟩
  obtain ⟨n2, m2, K2, Z2, w4⟩ : ∃ n m K Z, CellsAt W v4 n m K Z := by
    obtain ⟨a, len, cap, rfl⟩ := okWide_slice Try.underlying27 (hval 4 27 v4 rfl rfl)
    obtain ⟨fuel, hf⟩ := h4
    exact cells_of_trod (by simpa [Value.cells] using hf)
  clear hA0 hval0 hval
  refine (walk v0 v1 v4 n m K Z f kf zf k0 z0 c0 n2 m2 K2 Z2 W w0 w1 w4).mono fun e W' ⟨he, bel⟩ => ?_
  subst he
  exact ⟨_, rfl, _, _, _, [], _, [], hW', trodAll_mk1 (shut_bool Try.underlying4 _),
    (trodAll_cons_mk (Below.trod laidOut (by kernel_rfl) (of_decide_eq_true (by kernel_rfl)) h0 bel lt0)
      (trodAll_cons_mk (Below.trod laidOut (by kernel_rfl) (of_decide_eq_true (by kernel_rfl)) h1 bel lt1)
        (trodAll_cons_mk (Below.trod laidOut (by kernel_rfl) (of_decide_eq_true (by kernel_rfl)) h2 bel lt2)
          (trodAll_cons_mk (Below.trod laidOut (by kernel_rfl) (of_decide_eq_true (by kernel_rfl)) h3 bel lt3)
            (trodAll_cons_mk (Below.trod laidOut (by kernel_rfl) (of_decide_eq_true (by kernel_rfl)) h4 bel lt4) trodAll_mk0))))), rfl, bel.frame _, fun h => by cases h⟩

theorem over : Rows.cellSaysRow.holds Try.pinned (OpenSpec.ofChange Rows.cellSaysSpec) :=
  OpenClaim.holds_of_wide 4 Try.f4 rfl rfl rfl rfl rfl rfl rfl ⟨rfl, rfl, rfl, rfl, rfl⟩ rfl rfl rfl rfl rfl (by kernel_rfl) Try.func4 (by kernel_rfl)
    (of_decide_eq_true (by kernel_rfl)) (by unfold Func.isWrapper; first | (rw [if_pos (by decide +kernel)]; kernel_rfl) | (rw [if_neg (by decide +kernel)]; exact ⟨rfl, rfl⟩))
    (fun os started H enc _ => lifted os started H enc)

end Go.Proofs.Ytnkhdhbjdemdkaa.cellSays

namespace Go.Proofs.Ytnkhdhbjdemdkaa
/-- The statement. -/
theorem cellSays_proved : Rows.CellSaysSaid := cellSays.over
#print axioms cellSays_proved
end Go.Proofs.Ytnkhdhbjdemdkaa
