/- What is reached is closed, and nothing else is: the plain reckoning. No Go in it. -/
import Derived.Test.YtnkhdhbjdemdkaaReachMath
namespace Go.Proofs.Ytnkhdhbjdemdkaa

theorem mem_meet1 {R : List Int} {k z x : Int} : x ∈ meet1 R k z ↔ x ∈ R ∨ (k = 2 ∧ x = z) := by
  unfold meet1
  split
  · rename_i h
    simp only [List.mem_append, List.mem_singleton]
    constructor
    · rintro (e | e)
      · exact Or.inl e
      · exact Or.inr ⟨h.1, e⟩
    · rintro (e | e)
      · exact Or.inl e
      · exact Or.inr e.2
  · rename_i h
    refine ⟨Or.inl, fun e => e.elim id fun ⟨h1, h2⟩ => ?_⟩
    by_cases hz : z ∈ R
    · rw [h2]; exact hz
    · exact absurd ⟨h1, hz⟩ h

theorem mem_meetTo {k z : Nat → Int} {R : List Int} {x : Int} : ∀ {i : Nat}, x ∈ meetTo i k z R ↔ x ∈ R ∨ ∃ j, j < i ∧ k j = 2 ∧ x = z j
  | 0 => ⟨Or.inl, fun h => h.elim id fun ⟨_, h, _⟩ => absurd h (Nat.not_lt_zero _)⟩
  | i + 1 => by
    have ih := mem_meetTo (k := k) (z := z) (R := R) (x := x) (i := i)
    show x ∈ meet1 _ _ _ ↔ _
    rw [mem_meet1, ih]
    constructor
    · rintro ((h | ⟨j, hj, e⟩) | e)
      · exact Or.inl h
      · exact Or.inr ⟨j, by omega, e⟩
      · exact Or.inr ⟨i, by omega, e⟩
    · rintro (h | ⟨j, hj, e⟩)
      · exact Or.inl (Or.inl h)
      · by_cases ej : j = i
        · subst ej; exact Or.inr e
        · exact Or.inl (Or.inr ⟨j, by omega, e⟩)

theorem meet1_prefix (R : List Int) (k z : Int) : ∃ S, meet1 R k z = R ++ S := by
  unfold meet1
  split
  · exact ⟨_, rfl⟩
  · exact ⟨[], by simp⟩

theorem meetTo_prefix (k z : Nat → Int) (R : List Int) : ∀ i, ∃ S, meetTo i k z R = R ++ S
  | 0 => ⟨[], by simp [meetTo]⟩
  | i + 1 => by
    obtain ⟨S, h⟩ := meetTo_prefix k z R i
    obtain ⟨T, h2⟩ := meet1_prefix (meetTo i k z R) (k i) (z i)
    exact ⟨S ++ T, by show meet1 _ _ _ = _; rw [h2, h, List.append_assoc]⟩

theorem getD_prefix {R S : List Int} {i : Nat} (h : i < R.length) : (R ++ S).getD i 0 = R.getD i 0 := by
  simp [List.getD, List.getElem?_append_left h]

theorem nodup_sub : ∀ (a b : List Int), a.Nodup → (∀ x, x ∈ a → x ∈ b) → a.length ≤ b.length
  | [], _, _, _ => Nat.zero_le _
  | x :: a, b, hn, h => by
    have hx : x ∈ b := h x (by simp)
    obtain ⟨hxa, hna⟩ := List.nodup_cons.1 hn
    have := nodup_sub a (b.erase x) hna (fun y hy => by
      have hne : y ≠ x := fun e => hxa (e ▸ hy)
      exact (List.mem_erase_of_ne hne).2 (h y (by simp [hy])))
    rw [List.length_erase_of_mem hx] at this
    have hl : 0 < b.length := List.length_pos_of_mem hx
    simp only [List.length_cons]
    omega

section
variable {n : Nat} {m : Nat → Nat} {K Z : Nat → Nat → Int} {f : Nat} {kf zf : Nat → Int}

theorem rt_prefix (t : Nat) : ∃ S, rt m K Z f kf zf (t + 1) = rt m K Z f kf zf t ++ S := by
  by_cases h : t < (rt m K Z f kf zf t).length
  · rw [rt_next h]; exact meetTo_prefix _ _ _ _
  · exact ⟨[], by rw [rt_stays h 1]; simp⟩

theorem rt_from {t : Nat} {x : Int} (h : x ∈ rt m K Z f kf zf 0) : x ∈ rt m K Z f kf zf t := by
  induction t with
  | zero => exact h
  | succ t ih => obtain ⟨S, e⟩ := rt_prefix (m := m) (K := K) (Z := Z) (f := f) (kf := kf) (zf := zf) t; rw [e]; exact List.mem_append_left _ ih

theorem rt_closed : ∀ t i, i < t → i < (rt m K Z f kf zf t).length → ∀ j, j < m ((rt m K Z f kf zf t).getD i 0).toNat → K ((rt m K Z f kf zf t).getD i 0).toNat j = 2 → Z ((rt m K Z f kf zf t).getD i 0).toNat j ∈ rt m K Z f kf zf t
  | 0, _, h, _, _, _, _ => absurd h (Nat.not_lt_zero _)
  | t + 1, i, hi, hl, j, hj, hk => by
    by_cases h : t < (rt m K Z f kf zf t).length
    · obtain ⟨S, e⟩ := rt_prefix (m := m) (K := K) (Z := Z) (f := f) (kf := kf) (zf := zf) t
      have hil : i < (rt m K Z f kf zf t).length := by omega
      have eg : (rt m K Z f kf zf (t + 1)).getD i 0 = (rt m K Z f kf zf t).getD i 0 := by rw [e]; exact getD_prefix hil
      rw [eg] at hj hk ⊢
      by_cases hit : i = t
      · subst hit
        rw [rt_next h]
        exact mem_meetTo.2 (Or.inr ⟨j, hj, hk, rfl⟩)
      · rw [e]
        exact List.mem_append_left _ (rt_closed t i (by omega) hil j hj hk)
    · have es : rt m K Z f kf zf (t + 1) = rt m K Z f kf zf t := rt_stays h 1
      rw [es] at hl hj hk ⊢
      exact rt_closed t i (by omega) hl j hj hk

theorem mem_getD {R : List Int} {x : Int} (h : x ∈ R) : ∃ i, i < R.length ∧ R.getD i 0 = x := by
  obtain ⟨i, hi, e⟩ := List.mem_iff_getElem.1 h
  exact ⟨i, hi, by simp [List.getD, List.getElem?_eq_getElem hi, e]⟩

/-- What a field of what is reached leads to is reached. -/
theorem reached_closed (hv : Valid n m K Z f kf zf) {c : Nat} (hc : (c : Int) ∈ reached n m K Z f kf zf) {j : Nat} (hj : j < m c) (hk : K c j = 2) : Z c j ∈ reached n m K Z f kf zf := by
  obtain ⟨i, hi, e⟩ := mem_getD hc
  have hl := (rt_good hv n).len
  have := rt_closed (m := m) (K := K) (Z := Z) (f := f) (kf := kf) (zf := zf) n i (by unfold reached at hi; omega) hi
  unfold reached at e ⊢
  rw [e] at this
  exact this j hj hk

/-- What a value leads to is reached. -/
theorem reached_from {j : Nat} (hj : j < f) (hk : kf j = 2) : zf j ∈ reached n m K Z f kf zf :=
  rt_from (mem_meetTo.2 (Or.inr ⟨j, hj, hk, rfl⟩))

/-- What is reached is one of the values, or in a field of what is reached. -/
theorem rt_sound (hv : Valid n m K Z f kf zf) : ∀ t x, x ∈ rt m K Z f kf zf t → (∃ j, j < f ∧ kf j = 2 ∧ x = zf j) ∨ ∃ c : Nat, (c : Int) ∈ rt m K Z f kf zf t ∧ ∃ j, j < m c ∧ K c j = 2 ∧ x = Z c j
  | 0, x, h => by
    rcases mem_meetTo.1 h with h | h
    · exact absurd h List.not_mem_nil
    · exact Or.inl h
  | t + 1, x, h => by
    obtain ⟨S, e⟩ := rt_prefix (m := m) (K := K) (Z := Z) (f := f) (kf := kf) (zf := zf) t
    have old : x ∈ rt m K Z f kf zf t → (∃ j, j < f ∧ kf j = 2 ∧ x = zf j) ∨ ∃ c : Nat, (c : Int) ∈ rt m K Z f kf zf (t + 1) ∧ ∃ j, j < m c ∧ K c j = 2 ∧ x = Z c j := fun hx => by
      rcases rt_sound hv t x hx with h1 | ⟨c, hc, r⟩
      · exact Or.inl h1
      · exact Or.inr ⟨c, by rw [e]; exact List.mem_append_left _ hc, r⟩
    by_cases ht : t < (rt m K Z f kf zf t).length
    · obtain ⟨c, hcn, hce⟩ := (rt_good hv t).at ht
      have hcm : (c : Int) ∈ rt m K Z f kf zf t := by
        rw [← hce, List.getD_eq_getElem?_getD, List.getElem?_eq_getElem ht]; exact List.getElem_mem ht
      rw [rt_next ht] at h
      unfold stepR at h
      rcases mem_meetTo.1 h with h | ⟨j, hj, hk, hx⟩
      · exact old h
      · rw [hce] at hj hk hx
        exact Or.inr ⟨c, by rw [e]; exact List.mem_append_left _ hcm, j, hj, hk, hx⟩
    · rw [rt_stays ht 1] at h
      exact old h

end

/-! ### The values of all that is reached, one behind the other -/

/-- A row of values as pairs. -/
def rowL (n : Nat) (k z : Nat → Int) : List (Int × Int) := (List.range n).map fun i => (k i, z i)

theorem rowL_len (n : Nat) (k z : Nat → Int) : (rowL n k z).length = n := by simp [rowL]

theorem mem_rowL {n : Nat} {k z : Nat → Int} {p : Int × Int} : p ∈ rowL n k z ↔ ∃ j, j < n ∧ p = (k j, z j) := by
  unfold rowL
  simp only [List.mem_map, List.mem_range]
  exact ⟨fun ⟨j, h, e⟩ => ⟨j, h, e.symm⟩, fun ⟨j, h, e⟩ => ⟨j, h, e.symm⟩⟩

def fstAt (L : List (Int × Int)) (i : Nat) : Int := (L.getD i (0, 0)).1
def sndAt (L : List (Int × Int)) (i : Nat) : Int := (L.getD i (0, 0)).2

theorem pair_at {L : List (Int × Int)} {i : Nat} (h : i < L.length) : (fstAt L i, sndAt L i) ∈ L := by
  have : L.getD i (0, 0) = L[i] := by simp [List.getD, List.getElem?_eq_getElem h]
  unfold fstAt sndAt
  rw [this]
  exact List.getElem_mem h

theorem at_pair {L : List (Int × Int)} {p : Int × Int} (h : p ∈ L) : ∃ i, i < L.length ∧ p = (fstAt L i, sndAt L i) := by
  obtain ⟨i, hi, e⟩ := List.mem_iff_getElem.1 h
  refine ⟨i, hi, ?_⟩
  have : L.getD i (0, 0) = L[i] := by simp [List.getD, List.getElem?_eq_getElem hi]
  unfold fstAt sndAt
  rw [this, e]

/-- The values, and the fields of the first t that are reached. -/
def allTo (m : Nat → Nat) (K Z : Nat → Nat → Int) (f : Nat) (kf zf : Nat → Int) (R : List Int) : Nat → List (Int × Int)
  | 0 => rowL f kf zf
  | t + 1 => allTo m K Z f kf zf R t ++ rowL (m (R.getD t 0).toNat) (K (R.getD t 0).toNat) (Z (R.getD t 0).toNat)

theorem mem_allTo {m : Nat → Nat} {K Z : Nat → Nat → Int} {f : Nat} {kf zf : Nat → Int} {R : List Int} {p : Int × Int} : ∀ {t : Nat}, p ∈ allTo m K Z f kf zf R t ↔ p ∈ rowL f kf zf ∨ ∃ i, i < t ∧ p ∈ rowL (m (R.getD i 0).toNat) (K (R.getD i 0).toNat) (Z (R.getD i 0).toNat)
  | 0 => ⟨Or.inl, fun h => h.elim id fun ⟨_, h, _⟩ => absurd h (Nat.not_lt_zero _)⟩
  | t + 1 => by
    have ih := mem_allTo (m := m) (K := K) (Z := Z) (f := f) (kf := kf) (zf := zf) (R := R) (p := p) (t := t)
    show p ∈ _ ++ _ ↔ _
    rw [List.mem_append, ih]
    constructor
    · rintro ((h | ⟨i, hi, e⟩) | e)
      · exact Or.inl h
      · exact Or.inr ⟨i, by omega, e⟩
      · exact Or.inr ⟨t, by omega, e⟩
    · rintro (h | ⟨i, hi, e⟩)
      · exact Or.inl (Or.inl h)
      · by_cases ei : i = t
        · subst ei; exact Or.inr e
        · exact Or.inl (Or.inr ⟨i, by omega, e⟩)

section
variable {n : Nat} {m : Nat → Nat} {K Z : Nat → Nat → Int} {f : Nat} {kf zf : Nat → Int}

theorem allTo_len (hv : Valid n m K Z f kf zf) {R : List Int} (hR : Good n R) : ∀ t, t ≤ R.length → (allTo m K Z f kf zf R t).length ≤ 400 + 4 * t
  | 0, _ => by show (rowL f kf zf).length ≤ _; rw [rowL_len]; have := hv.short; omega
  | t + 1, ht => by
    have ih := allTo_len hv hR t (by omega)
    obtain ⟨c, hcn, hce⟩ := hR.at (t := t) (by omega)
    have h4 := hv.most c hcn
    simp only [allTo, List.length_append, rowL_len, hce, Int.toNat_natCast]
    omega

/-- All of what is reached, as the statement gathers it. -/
def allOf (n : Nat) (m : Nat → Nat) (K Z : Nat → Nat → Int) (f : Nat) (kf zf : Nat → Int) : List (Int × Int) :=
  allTo m K Z f kf zf (reached n m K Z f kf zf) (reached n m K Z f kf zf).length

/-- A cell that stands in all of it is reached. -/
theorem allOf_in (hv : Valid n m K Z f kf zf) {i : Nat} (hi : i < (allOf n m K Z f kf zf).length) (hk : fstAt (allOf n m K Z f kf zf) i = 2) : sndAt (allOf n m K Z f kf zf) i ∈ reached n m K Z f kf zf := by
  have hp := pair_at hi
  rcases mem_allTo.1 hp with h | ⟨t, ht, h⟩
  · obtain ⟨j, hj, e⟩ := mem_rowL.1 h
    have e1 := congrArg Prod.fst e
    have e2 := congrArg Prod.snd e
    simp only at e1 e2
    rw [e2]
    exact reached_from hj (e1.symm.trans hk)
  · obtain ⟨c, hcn, hce⟩ := (rt_good hv n).at (t := t) ht
    have hce' : (reached n m K Z f kf zf).getD t 0 = (c : Int) := hce
    rw [hce'] at h
    simp only [Int.toNat_natCast] at h
    obtain ⟨j, hj, e⟩ := mem_rowL.1 h
    have e1 := congrArg Prod.fst e
    have e2 := congrArg Prod.snd e
    simp only at e1 e2
    rw [e2]
    have hcm : (c : Int) ∈ reached n m K Z f kf zf := by
      rw [← hce', List.getD_eq_getElem?_getD, List.getElem?_eq_getElem ht]; exact List.getElem_mem ht
    exact reached_closed hv hcm hj (e1.symm.trans hk)

/-- What is needed is as many as what is reached. -/
theorem needed_len (hv : Valid n m K Z f kf zf) :
    (meetTo (allOf n m K Z f kf zf).length (fstAt (allOf n m K Z f kf zf)) (sndAt (allOf n m K Z f kf zf)) []).length = (reached n m K Z f kf zf).length := by
  have hR : Good n (reached n m K Z f kf zf) := rt_good hv n
  apply Nat.le_antisymm
  · refine nodup_sub _ _ ?_ ?_
    · refine (meetTo_good (n := n) (good_nil n) fun j hj hk => ?_).1
      exact hR.2 _ (allOf_in hv hj hk)
    · intro x hx
      rcases mem_meetTo.1 hx with h | ⟨j, hj, hk, rfl⟩
      · exact absurd h List.not_mem_nil
      · exact allOf_in hv hj hk
  · refine nodup_sub _ _ hR.1 ?_
    intro x hx
    have hp : ((2 : Int), x) ∈ allOf n m K Z f kf zf := by
      refine mem_allTo.2 ?_
      rcases rt_sound hv n x hx with ⟨j, hj, hk, e⟩ | ⟨c, hc, j, hj, hk, e⟩
      · exact Or.inl (mem_rowL.2 ⟨j, hj, by rw [hk, e]⟩)
      · obtain ⟨i, hi, ei⟩ := mem_getD hc
        have ei' : (reached n m K Z f kf zf).getD i 0 = (c : Int) := ei
        refine Or.inr ⟨i, hi, ?_⟩
        rw [ei']
        exact mem_rowL.2 ⟨j, hj, by simp only [Int.toNat_natCast]; rw [hk, e]⟩
    obtain ⟨i, hi, e⟩ := at_pair hp
    have e1 := congrArg Prod.fst e
    have e2 := congrArg Prod.snd e
    simp only at e1 e2
    exact mem_meetTo.2 (Or.inr ⟨i, hi, e1.symm, e2⟩)

end
end Go.Proofs.Ytnkhdhbjdemdkaa
