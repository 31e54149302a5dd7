/- CellMore returns true for all cells and values: a cell more to which nothing leads changes nothing of what is reached; from more values no less is, and the first ones first; nothing that was handed in is changed. No condition. -/
import Derived.Test.YtnkhdhbjdemdkaaMore
import Derived.Test.YtnkhdhbjdemdkaaOpen
import Derived.SizedLaws
import Derived.ChangeOld
namespace Go.Proofs.Ytnkhdhbjdemdkaa.cellMore
open Go.ChangeShapes Go.WideShapes Go.ChangeAt Go.RowKit

theorem own : ownKnob Try.prog.godebug = none := by kernel_rfl
theorem laidOut : laidOutB Try.prog = true := by kernel_rfl
theorem bytes30 : Try.prog.bytesOf 30 = 16 := by kernel_rfl

theorem walk (v u mv : Value) (n : Nat) (m : Nat → Nat) (K Z : Nat → Nat → Int) (f : Nat) (kf zf : Nat → Int) (g : Nat) (kg zg : Nat → Int) (w : World) (h : CellsAt w v n m K Z) (hu : ValsAt w u f kf zf) (hm : ValsAt w mv g kg zg) (hg : g ≤ 140737488355328) :
    Calls Try.prog 6 #[v, u, mv] w fun e w' => e = .returned (.bool true) ∧ Below w.heap.size w w' := by
  by_cases hr : reachErr n m K Z f kf zf = 0
  · have hv := reachErr_zero.1 hr
    by_cases hbig : 100 < f + g
    · exact more_many v u mv n m K Z f kf zf g kg zg w h hu hm hv hg hbig
    · by_cases hr2 : reachErr n m K Z (both f g kf zf kg zg).length (fstAt (both f g kf zf kg zg)) (sndAt (both f g kf zf kg zg)) = 0
      · by_cases hn : n < 24
        · exact more_less_ok v u mv n m K Z f kf zf g kg zg w h hu hm hv (by omega) hn (reachErr_zero.1 hr2)
        · exact more_full_ok v u mv n m K Z f kf zf g kg zg w h hu hm hv (by omega) hn (reachErr_zero.1 hr2)
      · by_cases hn : n < 24
        · exact more_less_bad v u mv n m K Z f kf zf g kg zg w h hu hm hv (by omega) hn hr2
        · exact more_full_bad v u mv n m K Z f kf zf g kg zg w h hu hm hv (by omega) hn hr2
  · exact more_bad v u mv n m K Z f kf zf w h hu hr

set_option maxRecDepth 100000 in
theorem lifted (os : Os) (started : os.Started) (H : Type) (enc : TypeId × Value → H) :
    ReturnsInHanded {} Try.checked os 6 .any (Rows.cellMoreSpec.pre6 enc Try.prog Try.f6 Rows.cellMoreRow.domain false) (Rows.cellMoreSpec.post enc Try.prog Try.f6 false true false false) := by
  refine returnsInHanded_of_change_sized (C := Try.checked) own started (by kernel_rfl) Try.func6
    (ChangeSpec.witness6 (enc := enc) (C := Try.checked) false ⟨#[], #[.slice none 0 0, .slice none 0 0, .slice none 0 0], []⟩ 8 (by kernel_rfl) (by kernel_rfl) (by kernel_rfl) (by kernel_rfl)) ?_
  intro W base args ds gs before hval0 hW _ hsz _
  have hval : ∀ (j : Nat) t v, Try.f6.params[j]? = some t → args[j]? = some v → Value.okWide Try.prog W .any base t v := hval0
  have hW' := hW
  obtain ⟨p, q, hA0, hV, rfl, hfz, hnd⟩ := hW
  have hA : DataW.TrodAll enc Try.prog W 0 (fun _ => true) true Try.f6.params.toList args.toList ds p := hA0
  rw [Try.params6] at hA hval
  obtain ⟨v0, vs0, d0, ds0, p0, q0, hargs, rfl, rfl, h0, r0⟩ := trodAll_cons hA
  obtain ⟨v1, vs1, d1, ds1, p1, q1, rfl, rfl, rfl, h1, r1⟩ := trodAll_cons r0
  obtain ⟨v2, vs2, d2, ds2, p2, q2, rfl, rfl, rfl, h2, r2⟩ := trodAll_cons r1
  obtain ⟨rfl, rfl, rfl⟩ := trodAll_nil r2
  obtain rfl : args = #[v0, v1, v2] := by cases args; simp_all
  obtain ⟨rfl, rfl⟩ := trodVars_none hV
  have lt0 : ∀ x ∈ p0, x.block < W.heap.size := by obtain ⟨m, hm⟩ := h0; exact DataW.trod_lt m _ _ _ hm
  have lt1 : ∀ x ∈ p1, x.block < W.heap.size := by obtain ⟨m, hm⟩ := h1; exact DataW.trod_lt m _ _ _ hm
  have lt2 : ∀ x ∈ p2, x.block < W.heap.size := by obtain ⟨m, hm⟩ := h2; exact DataW.trod_lt m _ _ _ hm
  obtain ⟨n, m, K, Z, w0⟩ : ∃ n m K Z, CellsAt W v0 n m K Z := by
    obtain ⟨a, len, cap, rfl⟩ := okWide_slice Try.underlying27 (hval 0 27 v0 rfl rfl)
    obtain ⟨fuel, hf⟩ := h0
    exact cells_of_trod (by simpa [Value.cells] using hf)
  obtain ⟨f, kf, zf, w1⟩ : ∃ n k z, ValsAt W v1 n k z := by
    obtain ⟨a, len, cap, rfl⟩ := okWide_slice Try.underlying28 (hval 1 28 v1 rfl rfl)
    obtain ⟨fuel, hf⟩ := h1
    exact vals_of_trod (by simpa [Value.cells] using hf)
  obtain ⟨g, kg, zg, w2, hlong⟩ : ∃ n k z, ValsAt W v2 n k z ∧ (n = 0 ∨ ∃ elems rest, d2 = .slice elems rest ∧ elems.length = n) := by
    obtain ⟨a, len, cap, rfl⟩ := okWide_slice Try.underlying28 (hval 2 28 v2 rfl rfl)
    obtain ⟨fuel, hf⟩ := h2
    exact vals_of_trod_long (x := (d2, p2)) (by simpa [Value.cells] using hf)
  have hg : g ≤ 140737488355328 := by
    rcases hlong with rfl | ⟨elems, rest, hd, hl⟩
    · omega
    · have hts : (Try.f6.params.toList ++ Rows.cellMoreSpec.plain.varTypes Try.prog)[2]? = some 28 := by rw [Try.params6]; rfl
      have this : (elems.length + rest.length) * Try.prog.bytesOf 30 ≤ reachBytes := sized_slice hsz (j := 2) (t := 28) (e := 30) (elems := elems) (spare := rest) hts (by rw [hd]; rfl) Try.underlying28
      rw [bytes30] at this
      simp only [reachBytes] at this
      omega
  clear hA0 hval0 hval hsz hlong
  refine (walk v0 v1 v2 n m K Z f kf zf g kg zg W w0 w1 w2 hg).mono fun e W' ⟨he, bel⟩ => ?_
  subst he
  exact ⟨_, rfl, _, _, _, [], _, [], hW', trodAll_mk1 (shut_bool Try.underlying4 _),
    (trodAll_cons_mk (Below.trod laidOut (by kernel_rfl) (of_decide_eq_true (by kernel_rfl)) h0 bel lt0)
      (trodAll_cons_mk (Below.trod laidOut (by kernel_rfl) (of_decide_eq_true (by kernel_rfl)) h1 bel lt1)
        (trodAll_cons_mk (Below.trod laidOut (by kernel_rfl) (of_decide_eq_true (by kernel_rfl)) h2 bel lt2) trodAll_mk0))), rfl, bel.frame _, fun h => by cases h⟩

theorem over : Rows.cellMoreRow.holds Try.pinned (OpenSpec.ofChange Rows.cellMoreSpec) :=
  OpenClaim.holds_of_wide 6 Try.f6 rfl rfl rfl rfl rfl rfl rfl ⟨rfl, rfl, rfl, rfl, rfl⟩ rfl rfl rfl rfl rfl (by kernel_rfl) Try.func6 (by kernel_rfl)
    (of_decide_eq_true (by kernel_rfl)) (by unfold Func.isWrapper; first | (rw [if_pos (by decide +kernel)]; kernel_rfl) | (rw [if_neg (by decide +kernel)]; exact ⟨rfl, rfl⟩))
    (fun os started H enc _ => lifted os started H enc)

end Go.Proofs.Ytnkhdhbjdemdkaa.cellMore

namespace Go.Proofs.Ytnkhdhbjdemdkaa
/-- The statement. -/
theorem cellMore_proved : Rows.CellMoreSaid := cellMore.over
#print axioms cellMore_proved
end Go.Proofs.Ytnkhdhbjdemdkaa
