/- How what is read as data lies in memory: rows of values, and cells. -/
import Derived.Test.YtnkhdhbjdemdkaaBase
import Derived.Deep.SlicePairs
namespace Go.Proofs.Ytnkhdhbjdemdkaa
open Go.ChangeShapes Go.WideShapes Go.ChangeAt Go.RowKit Go.Deep

theorem cells30 : Try.prog.cellsOf 30 = 2 := by kernel_rfl
theorem cells28 : Try.prog.cellsOf 28 = 1 := by kernel_rfl
theorem cells3 : Try.prog.cellsOf 3 = 1 := by kernel_rfl

theorem plain_at {w : World} {a : Addr} {v : Value} (h : w.cell? (a.add 0) = some v) : a = ⟨a.block, a.off, none⟩ := by
  have hs := World.cell?_spot h
  obtain ⟨b, o, s⟩ := a
  have hs' : s = none := by simpa [Addr.add] using hs
  rw [hs']

section
variable {H : Type} {enc : TypeId × Value → H} {W : World} {base : Nat} {spare : Nat → Bool} {held : Bool}

theorem vals_of_trod {fuel : Nat} {v : Value} {x : DataW H × List MemPlace} (h : DataW.trod enc Try.prog W base spare held fuel 28 [v] = some x) : ∃ n k z, ValsAt W v n k z := by
  rcases open_slice_pairs Try.underlying28 Try.underlying30 cells30 rfl rfl cells3 cells3 h with ⟨hcs, _⟩ | ⟨a, len, cap, m, n, V0, V1, D0, D1, P0, P1, hcs, hb, hl, hm, hmm, _, hx⟩
  · obtain rfl : v = .slice none 0 0 := by simpa using hcs
    exact ⟨0, fun _ => 0, fun _ => 0, none, 0, rfl, by omega, Or.inl rfl⟩
  · obtain rfl : v = .slice (some a) len cap := by simpa using hcs
    have hlm : len ≤ m := by rw [hmm]; split <;> omega
    refine ⟨len, fun i => intOf (V0 i), fun i => intOf (V1 i), some a, cap, rfl, by unfold maxLen at hm; omega, ?_⟩
    by_cases h0 : len = 0
    · exact Or.inl h0
    right
    have hp := plain_at (hx 0 (by omega)).1
    refine ⟨a.block, a.off, by rw [hp], ?_, fun i hi => ?_⟩
    · have := cell_lt (hx 0 (by omega)).1
      simpa [Addr.add] using this
    · obtain ⟨c0, c1, t0, t1⟩ := hx i (by omega)
      obtain ⟨y0, e0, _, _⟩ := DataW.trod_int Try.underlying3 t0
      obtain ⟨y1, e1, _, _⟩ := DataW.trod_int Try.underlying3 t1
      simp at e0 e1
      rw [hp, add_plain] at c0 c1
      exact ⟨c0.trans (by simp [e0, intOf]), c1.trans (by simp [e1, intOf])⟩

/-- .. and the datum is as long. -/
theorem vals_of_trod_long {fuel : Nat} {v : Value} {x : DataW H × List MemPlace} (h : DataW.trod enc Try.prog W base spare held fuel 28 [v] = some x) :
    ∃ n k z, ValsAt W v n k z ∧ (n = 0 ∨ ∃ elems rest, x.1 = .slice elems rest ∧ elems.length = n) := by
  obtain ⟨n, k, z, hv⟩ := vals_of_trod h
  refine ⟨n, k, z, hv, ?_⟩
  rcases open_slice_pairs Try.underlying28 Try.underlying30 cells30 rfl rfl cells3 cells3 h with ⟨hcs, _⟩ | ⟨a, len, cap, m, n', V0, V1, D0, D1, P0, P1, hcs, hb, hl, hm, hmm, hx, _⟩
  · obtain rfl : v = .slice none 0 0 := by simpa using hcs
    obtain ⟨a, c, e, _⟩ := hv
    cases e
    exact Or.inl rfl
  · obtain rfl : v = .slice (some a) len cap := by simpa using hcs
    obtain ⟨a', c', e, _⟩ := hv
    cases e
    exact Or.inr ⟨_, _, congrArg Prod.fst hx, by simp⟩

theorem cells_of_trod {fuel : Nat} {v : Value} {x : DataW H × List MemPlace} (h : DataW.trod enc Try.prog W base spare held fuel 27 [v] = some x) : ∃ n m K Z, CellsAt W v n m K Z := by
  rcases open_slice1 Try.underlying27 cells28 h with ⟨hcs, _⟩ | ⟨a, len, cap, m, n, V, D, Pl, hcs, hb, hl, hm, hmm, _, hx⟩
  · obtain rfl : v = .slice none 0 0 := by simpa using hcs
    exact ⟨0, fun _ => 0, fun _ _ => 0, fun _ _ => 0, none, 0, rfl, by omega, Or.inl rfl⟩
  · obtain rfl : v = .slice (some a) len cap := by simpa using hcs
    have hlm : len ≤ m := by rw [hmm]; split <;> omega
    obtain ⟨q, hq⟩ := choose_lt (α := Nat × (Nat → Int) × (Nat → Int)) (n := len) (p := fun i q => ValsAt W (V i) q.1 q.2.1 q.2.2) (fun i hi => by
      obtain ⟨n, k, z, hv⟩ := vals_of_trod (hx i (by omega)).2
      exact ⟨(n, k, z), hv⟩)
    refine ⟨len, fun i => (q i).1, fun i => (q i).2.1, fun i => (q i).2.2, some a, cap, rfl, by unfold maxLen at hm; omega, ?_⟩
    by_cases h0 : len = 0
    · exact Or.inl h0
    right
    have hp := plain_at (hx 0 (by omega)).1
    refine ⟨a.block, a.off, by rw [hp], ?_, fun i hi => ?_⟩
    · have := cell_lt (hx 0 (by omega)).1
      simpa [Addr.add] using this
    · refine ⟨V i, ?_, hq i hi⟩
      have c := (hx i (by omega)).1
      rw [hp, add_plain] at c
      exact c

end
end Go.Proofs.Ytnkhdhbjdemdkaa
