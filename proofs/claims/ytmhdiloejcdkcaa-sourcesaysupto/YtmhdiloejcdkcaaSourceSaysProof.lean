/- SourceSays returns true for all programs, tokens and numbers that are together of bulk at most 1048576: Check, Same and Expr answer as the reckoning beside them does, errors too; nothing that was handed in is changed. Condition: that bulk; beyond it a list of pairs that Same makes can pass what a slice may hold. -/
import Derived.Test.YtmhdiloejcdkcaaSrcSays
import Derived.Test.YtmhdiloejcdkcaaOpenSrc
import Derived.Lib.SmallJoins
import Derived.ChangeOld
import Derived.JoinedCond
namespace Go.Proofs.Ytmhdiloejcdkcaa.sourceSays
open Go.ChangeShapes Go.WideShapes Go.ChangeAt Go.RowKit Go.Joins

theorem own : ownKnob Try.prog.godebug = none := by kernel_rfl
theorem laidOut : laidOutB Try.prog = true := by kernel_rfl

set_option maxRecDepth 100000 in
theorem contract (H : Type) (enc : TypeId × Value → H) (W : World) (base : Nat) (args : Array Value) (ds gs : List (DataW H)) (before : List MemPlace)
    (hval0 : ∀ (j : Nat) t v, Try.f7.params[j]? = some t → args[j]? = some v → Value.okWide Try.prog W .any base t v)
    (hW : DataW.Whole enc Try.prog Try.f7.params.toList Rows.sourceSaysSpec.vars false W args.toList ds gs before) (hk : Rows.uptoSmall H (ds ++ gs) = true) :
    Calls Try.prog 7 args W fun e W' => ∃ v, e = .returned v ∧ Rows.sourceSaysSpec.post enc Try.prog Try.f7 false true false false W args v W' := by
  have hval : ∀ (j : Nat) t v, Try.f7.params[j]? = some t → args[j]? = some v → Value.okWide Try.prog W .any base t v := hval0
  have hW' := hW
  obtain ⟨p, q, hA0, hV, rfl, hfz, hnd⟩ := hW
  have hA : DataW.TrodAll enc Try.prog W 0 (fun _ => true) true Try.f7.params.toList args.toList ds p := hA0
  rw [Try.params7] at hA hval
  obtain ⟨v0, vs0, d0, ds0, p0, q0, hargs, rfl, rfl, h0, r0⟩ := trodAll_cons hA
  obtain ⟨v1, vs1, d1, ds1, p1, q1, rfl, rfl, rfl, h1, r1⟩ := trodAll_cons r0
  obtain ⟨v2, vs2, d2, ds2, p2, q2, rfl, rfl, rfl, h2, r2⟩ := trodAll_cons r1
  obtain ⟨v3, vs3, d3, ds3, p3, q3, rfl, rfl, rfl, h3, r3⟩ := trodAll_cons r2
  obtain ⟨rfl, rfl, rfl⟩ := trodAll_nil r3
  obtain rfl : args = #[v0, v1, v2, v3] := by cases args; simp_all
  obtain ⟨rfl, rfl⟩ := trodVars_none hV
  have lt0 : ∀ x ∈ p0, x.block < W.heap.size := by obtain ⟨m, hm⟩ := h0; exact DataW.trod_lt m _ _ _ hm
  have lt1 : ∀ x ∈ p1, x.block < W.heap.size := by obtain ⟨m, hm⟩ := h1; exact DataW.trod_lt m _ _ _ hm
  have lt2 : ∀ x ∈ p2, x.block < W.heap.size := by obtain ⟨m, hm⟩ := h2; exact DataW.trod_lt m _ _ _ hm
  have lt3 : ∀ x ∈ p3, x.block < W.heap.size := by obtain ⟨m, hm⟩ := h3; exact DataW.trod_lt m _ _ _ hm
  have hsmall : Rows.uptoBulk d0 ≤ 1048576 := by
    have h : Rows.uptoBulkAll ([d0, d1, d2, d3] ++ []) ≤ 1048576 := of_decide_eq_true hk
    simp only [List.append_nil, Rows.uptoBulkAll] at h
    omega
  obtain ⟨e0, n0, par0, loc0, bv0, B0, f0, s0, k0, z0⟩ : ∃ (fuel n : Nat) (par loc : Nat → Int) (bv : Nat → Value) (B : Nat → SL), FunsAt W.heap.size W v0 n par loc bv ∧ (∀ i, i < n → StmtsAt W.heap.size W fuel (bv i) (B i)) ∧ (∀ i, i < n → kindsFit fuel (B i)) ∧ ∀ i, i < n → size fuel (B i) ≤ Rows.uptoBulk d0 := by
    obtain ⟨a, len, cap, rfl⟩ := okWide_slice Try.underlying45 (hval 0 45 v0 rfl rfl)
    obtain ⟨fuel, hf⟩ := h0
    exact ⟨fuel, funs_of_trod (by simpa [Value.cells] using hf)⟩
  obtain ⟨e1, n1, par1, loc1, bv1, B1, f1, s1, k1, z1⟩ : ∃ (fuel n : Nat) (par loc : Nat → Int) (bv : Nat → Value) (B : Nat → SL), FunsAt W.heap.size W v1 n par loc bv ∧ (∀ i, i < n → StmtsAt W.heap.size W fuel (bv i) (B i)) ∧ (∀ i, i < n → kindsFit fuel (B i)) ∧ ∀ i, i < n → size fuel (B i) ≤ Rows.uptoBulk d1 := by
    obtain ⟨a, len, cap, rfl⟩ := okWide_slice Try.underlying45 (hval 1 45 v1 rfl rfl)
    obtain ⟨fuel, hf⟩ := h1
    exact ⟨fuel, funs_of_trod (by simpa [Value.cells] using hf)⟩
  obtain ⟨n2, kk2, zz2, t2⟩ : ∃ n k z, ToksAt W.heap.size W v2 n k z := by
    obtain ⟨a, len, cap, rfl⟩ := okWide_slice Try.underlying46 (hval 2 46 v2 rfl rfl)
    obtain ⟨fuel, hf⟩ := h2
    exact toks_of_trod (by simpa [Value.cells] using hf)
  obtain ⟨c3, rfl⟩ : ∃ c3, v3 = .int .i64 c3 := by
    obtain ⟨x, rfl, _, _, _⟩ := open_int Try.underlying3 (hval 3 3 v3 rfl rfl) h3
    exact ⟨x, rfl⟩
  clear hA0 hval0 hval
  refine (srcSays (max e0 e1) v0 v1 v2 c3 n0 n1 par0 loc0 par1 loc1 bv0 bv1 B0 B1 n2 kk2 zz2 W f0 f1 t2 (fun i hi => (s0 i hi).le (by omega)) (fun i hi => (s1 i hi).le (by omega))
    (fun i hi => by rw [size_le_same (s0 i hi).proper (by omega)]; have := z0 i hi; omega) (fun i hi => kindsFit_le (s0 i hi).proper (k0 i hi) (by omega))).mono fun e W' ⟨he, bel⟩ => ?_
  subst he
  exact ⟨_, rfl, _, _, _, [], _, [], hW', trodAll_mk1 (shut_bool Try.underlying4 _),
    (trodAll_cons_mk (Below.trod laidOut (by kernel_rfl) (of_decide_eq_true (by kernel_rfl)) h0 bel lt0)
      (trodAll_cons_mk (Below.trod laidOut (by kernel_rfl) (of_decide_eq_true (by kernel_rfl)) h1 bel lt1)
        (trodAll_cons_mk (Below.trod laidOut (by kernel_rfl) (of_decide_eq_true (by kernel_rfl)) h2 bel lt2)
          (trodAll_cons_mk (Below.trod laidOut (by kernel_rfl) (of_decide_eq_true (by kernel_rfl)) h3 bel lt3) trodAll_mk0)))), rfl, bel.frame _, fun h => by cases h⟩

set_option maxRecDepth 100000 in
theorem lifted (os : Os) (started : os.Started) (H : Type) (enc : TypeId × Value → H) (F : Stop.Interp) :
    ReturnsInHanded {} Try.checked os 7 .any ((Rows.OpenSpec.upto Rows.sourceSaysSpec).pre6 enc Try.prog Try.f7 Rows.sourceSaysUptoRow.domain false) (((Rows.OpenSpec.upto Rows.sourceSaysSpec).at F).post enc Try.prog Try.f7 false true false false) := by
  refine returnsInHanded_of_cond (C := Try.checked) (s := Rows.OpenSpec.upto Rows.sourceSaysSpec) (k := Rows.uptoSmall) rfl own started (by kernel_rfl) Try.func7
    (OpenSpec.witness (enc := enc) (C := Try.checked) (s := Rows.OpenSpec.upto Rows.sourceSaysSpec) (k := Rows.uptoSmall) rfl false ⟨#[], #[.slice none 0 0, .slice none 0 0, .slice none 0 0, .int .i64 0], []⟩ 8 (by kernel_rfl) (by kernel_rfl) (by kernel_rfl)
      (x := ([.nil, .nil, .nil, .lit (.int .i64 0)], [], [])) (by kernel_rfl) rfl (by kernel_rfl)) ?_
  intro W base args ds gs before hval hW _ hk _
  exact contract H enc W base args ds gs before hval hW hk

theorem over : Rows.sourceSaysUptoRow.holds Try.pinned (Rows.OpenSpec.upto Rows.sourceSaysSpec) :=
  OpenClaim.holds_of_cond 7 Try.f7 rfl rfl rfl rfl rfl rfl rfl ⟨rfl, rfl, rfl, rfl, rfl⟩ rfl rfl rfl rfl rfl (by kernel_rfl) Try.func7 (by kernel_rfl)
    (of_decide_eq_true (by kernel_rfl)) (by unfold Func.isWrapper; first | (rw [if_pos (by decide +kernel)]; kernel_rfl) | (rw [if_neg (by decide +kernel)]; exact ⟨rfl, rfl⟩))
    (fun os started H enc _ F => lifted os started H enc F)

end Go.Proofs.Ytmhdiloejcdkcaa.sourceSays

namespace Go.Proofs.Ytmhdiloejcdkcaa
/-- The statement. -/
theorem sourceSays_proved : Rows.SourceSaysUptoSaid := sourceSays.over
#print axioms sourceSays_proved
end Go.Proofs.Ytmhdiloejcdkcaa
