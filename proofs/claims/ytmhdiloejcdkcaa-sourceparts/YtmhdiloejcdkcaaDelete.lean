/- slices.Delete of one statement, over a row of the call's own. -/
import Derived.Test.YtmhdiloejcdkcaaRowS
import Derived.Deep.RegionLaw
import Derived.Laws.IdiomCopy
namespace Go.Proofs.Ytmhdiloejcdkcaa
open Go.RowKit Go.Maps

/-- Others in the place of some of a list. -/
def setAll : List Value → Nat → List Value → List Value
  | xs, _, [] => xs
  | xs, o, v :: r => setAll (xs.set o v) (o + 1) r

theorem setAll_len : ∀ (vs xs : List Value) (o : Nat), (setAll xs o vs).length = xs.length
  | [], _, _ => rfl
  | v :: r, xs, o => by rw [setAll, setAll_len r]; simp

theorem setAll_at : ∀ (vs xs : List Value) (o j : Nat), o + vs.length ≤ xs.length → (setAll xs o vs)[j]? = if o ≤ j ∧ j < o + vs.length then vs[j - o]? else xs[j]?
  | [], xs, o, j, _ => by
    rw [setAll, if_neg (by simp)]
  | v :: r, xs, o, j, h => by
    simp only [List.length_cons] at h
    rw [setAll, setAll_at r (xs.set o v) (o + 1) j (by rw [List.length_set]; omega)]
    by_cases h1 : o + 1 ≤ j ∧ j < o + 1 + r.length
    · rw [if_pos h1, if_pos (by simp only [List.length_cons]; omega), show j - o = (j - (o + 1)) + 1 by omega, List.getElem?_cons_succ]
    · rw [if_neg h1]
      by_cases h2 : j = o
      · subst h2
        rw [if_pos (by simp only [List.length_cons]; omega), Nat.sub_self, List.getElem?_set_self (by omega)]
        rfl
      · rw [if_neg (by simp only [List.length_cons]; omega), List.getElem?_set_ne (by omega)]

theorem own_setCells {base e size g n cap : Nat} : ∀ (vs : List Value) (w : World) (xs : List Value) (o : Nat), w.ownsRow base e size (.slice (some ⟨g, 0, none⟩) n cap) n xs → (w.setCells g o vs).ownsRow base e size (.slice (some ⟨g, 0, none⟩) n cap) n (setAll xs o vs)
  | [], _, _, _, h => h
  | v :: r, _, _, o, h => own_setCells r _ _ _ (h.stored o v).1

theorem below_setCells {B g : Nat} {a : World} (hg : B ≤ g) : ∀ (vs : List Value) (w : World) (o : Nat), Below B a w → Below B a (w.setCells g o vs)
  | [], _, _, h => h
  | v :: r, _, o, h => below_setCells hg r _ _ (h.setCell (p := ⟨g, o, none⟩) hg v)

def zeros6 : List Value := [.int .i64 0, .int .i64 0, .slice none 0 0, .slice none 0 0, .slice none 0 0, .slice none 0 0]

/-- clear of one statement. -/
theorem clear_one (w : World) (ty : TypeId) (g o c : Nat) (hc : ∀ j, j < 6 → (w.cell? ⟨g, o + j, none⟩).isSome = true) (hf : ∀ j, j < 6 → w.frozen? ⟨g, o + j, none⟩ = false) :
    (Builtin.clear_ #[52] ty #[.slice (some ⟨g, o, none⟩) 1 c]).run Try.prog w = .ok (.tuple #[]) (w.setCells g o zeros6) := by
  have hzc : (Builtin.zeroCells (Value.agg #[.int .i64 0, .int .i64 0, .slice none 0 0, .slice none 0 0, .slice none 0 0, .slice none 0 0]).cells 1).toList = zeros6 := by
    simp [Builtin.zeroCells, Value.cells, zeros6, List.range_succ]
  have hst := run_storeCells_cells (P := Try.prog) g o zeros6 0 w (by simpa [zeros6] using hc) (by simpa [zeros6] using hf) (by intro v hv'; simp [zeros6] at hv'; rcases hv' with rfl | rfl <;> rfl)
  simp only [Nat.add_zero] at hst
  simp [Builtin.clear_, run_underlying Try.underlying52, hzc, hst]

/-- What is behind number k. -/
def behind (n k : Nat) (c : Nat → Value) : List Value := cellsL ((n - k) * 6) (fun j => c ((k + 1) * 6 + j))

theorem deleted_cells {n k : Nat} {c : Nat → Value} (hk : k ≤ n) : setAll (setAll (cellsL ((n + 1) * 6) c) (k * 6) (behind n k c)) (n * 6) zeros6 = cellsL (n * 6) (pickC (without k) c) ++ zeros6 := by
  have hb : (behind n k c).length = (n - k) * 6 := cellsL_len _ _
  have h6 : zeros6.length = 6 := rfl
  refine List.ext_getElem? fun j => ?_
  have hl1 : (setAll (cellsL ((n + 1) * 6) c) (k * 6) (behind n k c)).length = (n + 1) * 6 := by rw [setAll_len, cellsL_len]
  rw [setAll_at _ _ _ _ (by rw [hl1, h6]; omega), setAll_at _ _ _ _ (by rw [cellsL_len, hb]; omega)]
  by_cases h1 : n * 6 ≤ j ∧ j < n * 6 + zeros6.length
  · rw [if_pos h1, List.getElem?_append_right (by rw [cellsL_len]; omega), cellsL_len]
  · rw [if_neg h1]
    by_cases h2 : j < n * 6
    · rw [List.getElem?_append_left (by rw [cellsL_len]; omega), cellsL_at h2]
      by_cases h3 : k * 6 ≤ j ∧ j < k * 6 + (behind n k c).length
      · rw [if_pos h3]
        unfold behind
        rw [cellsL_at (by omega)]
        unfold pickC without
        rw [if_neg (by omega)]
        congr 2
        omega
      · rw [if_neg h3, cellsL_at (by omega)]
        unfold pickC without
        rw [if_pos (by omega)]
        congr 2
        omega
    · rw [if_neg (by omega), List.getElem?_append_right (by rw [cellsL_len]; omega), cellsL_len, List.getElem?_eq_none (by rw [cellsL_len]; omega), List.getElem?_eq_none (by omega)]

set_option maxHeartbeats 2000000 in
set_option maxRecDepth 100000 in
theorem delete (base g cap n k : Nat) (c : Nat → Value) (w : World) (hown : w.ownsRow base 58 6 (.slice (some ⟨g, 0, none⟩) (n + 1) cap) (n + 1) (cellsL ((n + 1) * 6) c)) (h1 : ∀ u ∈ cellsL ((n + 1) * 6) c, u.oneCell' = true) (hk : k ≤ n) (hn : n ≤ 1000) :
    Calls Try.prog 32 #[.slice (some ⟨g, 0, none⟩) (n + 1) cap, .int .i64 k, .int .i64 (k + 1)] w fun e w' => e = .returned (.slice (some ⟨g, 0, none⟩) n cap) ∧ w'.ownsRow base 58 6 (.slice (some ⟨g, 0, none⟩) n cap) n (cellsL (n * 6) (pickC (without k) c)) ∧ Below base w w' := by
  obtain ⟨i0, hi0, hz0, hz1, hz2⟩ := info_parts info58
  obtain ⟨_, _, e', hgb, hgl, hnc, hcm⟩ := own_block hown
  cases e'
  unfold maxLen at hcm
  have hcell : ∀ j, j < (n + 1) * 6 → w.cell? ⟨g, j, none⟩ = some (c j) := fun j hj => by rw [hown.cellAt j (by omega), cellsL_at hj]
  have hb : (behind n k c).length = (n - k) * 6 := cellsL_len _ _
  obtain ⟨A, hA, hnews⟩ : ∃ A : Addr, (if cap = k + 1 then some (⟨g, 0, none⟩ : Addr) else some ⟨g, (k + 1) * 6, none⟩) = some A ∧ Hid (∀ j u, (behind n k c)[j]? = some u → w.drew.cell? (A.add j) = some u) := by
    by_cases h : cap = k + 1
    · refine ⟨⟨g, 0, none⟩, by simp [h], fun j u hu => ?_⟩
      have := (cellsL_some hu).1
      omega
    · refine ⟨⟨g, (k + 1) * 6, none⟩, by simp [h], fun j u hu => ?_⟩
      obtain ⟨hj, rfl⟩ := cellsL_some hu
      rw [WideShapes.add_plain]
      exact hcell _ (by omega)
  have s1 : Hid ((behind n k c).length = (n - k) * 6) := hb
  have s2 : Hid (∀ u ∈ behind n k c, u.oneCell' = true) := fun u hu => by
    obtain ⟨j, hj⟩ := List.mem_iff_getElem?.1 hu
    obtain ⟨hl, rfl⟩ := cellsL_some hj
    exact h1 _ (List.mem_iff_getElem?.2 ⟨(k + 1) * 6 + j, cellsL_at (by omega)⟩)
  have s3 : Hid (∀ j, j < (behind n k c).length → (w.drew.cell? ⟨g, 0 + k * 6 + j, none⟩).isSome = true ∧ w.drew.frozen? ⟨g, 0 + k * 6 + j, none⟩ = false) := fun j hj => by
    rw [hb] at hj
    refine ⟨?_, hown.frozenAt _⟩
    show (w.cell? _).isSome = true
    rw [hcell _ (by omega)]; rfl
  have HO : Hid (((w.drew.setCells g (k * 6) (behind n k c)).setCells g (n * 6) zeros6).ownsRow base 58 6 (.slice (some ⟨g, 0, none⟩) n cap) n (cellsL (n * 6) (pickC (without k) c))) := by
    have o1 := own_setCells (behind n k c) w.drew (cellsL ((n + 1) * 6) c) (k * 6) hown.drew
    have o2 := own_setCells zeros6 _ _ (n * 6) o1
    rw [deleted_cells hk] at o2
    exact ownsRow_pop (cellsL_len _ _) o2
  have HB : Hid (Below base w ((w.drew.setCells g (k * 6) (behind n k c)).setCells g (n * 6) zeros6)) := below_setCells hgb _ _ _ (below_setCells hgb _ _ _ ((Below.refl _ _).drew))
  have hcl : ∀ ty cc, (Builtin.clear_ #[52] ty #[.slice (some ⟨g, n * 6, none⟩) 1 cc]).run Try.prog (w.drew.setCells g (k * 6) (behind n k c)) = .ok (.tuple #[]) ((w.drew.setCells g (k * 6) (behind n k c)).setCells g (n * 6) zeros6) := fun ty cc => by
    have o1 := own_setCells (behind n k c) w.drew (cellsL ((n + 1) * 6) c) (k * 6) hown.drew
    refine clear_one _ ty g (n * 6) cc (fun j hj => ?_) (fun j _ => o1.frozenAt _)
    rw [o1.cellAt _ (by omega), List.getElem?_eq_getElem (by rw [setAll_len, cellsL_len]; omega)]
    rfl
  have hic : k ≤ cap := by omega
  have hp0 : (0 : Int) ≤ (k : Int) + 1 := by omega
  have hp1 : (k : Int) + 1 ≤ ((n + 1 : Nat) : Int) := by omega
  have hp2 : ((k : Int) + 1).toNat = k + 1 := by omega
  have hkk : ((k : Int) == (k : Int) + 1) = false := by simp; omega
  have hkn : k + (n - k) = n := by omega
  have hcn : ¬ cap = n := by omega
  clear hown h1 hcell hb
  go_enter Try.func32, Try.ntmps32
  go_wp2_with fail
  go_region_law (refine step_append_room rfl (.tmp 22) (.tmp 25) 52 rfl 58 i0 6 Try.underlying52 hi0 hz1 g 0 k cap (by simp [Act.eval, Act.put]) A (n - k) (cap - (k + 1)) (behind n k c) (by simp [Act.eval, Act.put]) s1.out hnews.out s2.out (by omega) s3.out ?_)
  go_wp2_with fail
  go_ret
  exact ⟨rfl, HO.out, HB.out⟩

end Go.Proofs.Ytmhdiloejcdkcaa
