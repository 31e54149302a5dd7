/- A cell more to which nothing leads; more values: what is reached then. No Go in it. -/
import Derived.Test.YtnkhdhbjdemdkaaClosedMath
namespace Go.Proofs.Ytnkhdhbjdemdkaa

section
variable {n : Nat} {m : Nat → Nat} {K Z : Nat → Nat → Int} {f : Nat} {kf zf : Nat → Int}

/-- One cell more, of one field that is nothing. -/
def mMore (n : Nat) (m : Nat → Nat) (i : Nat) : Nat := if i = n then 1 else m i
def kMore (n : Nat) (K : Nat → Nat → Int) (i j : Nat) : Int := if i = n then 0 else K i j

theorem chk_more {k z : Int} {c : Nat} (h : chk k z c = 0) : chk k z ((c + 1 : Nat) : Int) = 0 := by
  unfold chk at h ⊢
  by_cases h0 : k = 0
  · simp only [h0, if_true] at h ⊢; exact h
  · by_cases h1 : k = 1
    · simp only [h1] at h ⊢; exact h
    · by_cases h2 : k = 2
      · simp only [h2] at h ⊢
        simp at h ⊢
        omega
      · simp only [h0, h1, h2, if_false] at h
        cases h

theorem valid_more (hv : Valid n m K Z f kf zf) (hn : n < 24) : Valid (n + 1) (mMore n m) (kMore n K) (kMore n Z) f kf zf := by
  refine ⟨by omega, fun i hi => ?_, fun i hi => ?_, fun i hi j hj => ?_, hv.short, fun j hj => chk_more (hv.vals j hj)⟩
  · unfold mMore
    split
    · omega
    · exact hv.least i (by omega)
  · unfold mMore
    split
    · omega
    · exact hv.most i (by omega)
  · unfold mMore at hj
    unfold kMore
    by_cases e : i = n
    · simp only [e, if_true]; rfl
    · simp only [e, if_false] at hj ⊢
      exact chk_more (hv.fields i (by omega) j hj)

theorem rt_more (hv : Valid n m K Z f kf zf) : ∀ t, rt (mMore n m) (kMore n K) (kMore n Z) f kf zf t = rt m K Z f kf zf t
  | 0 => rfl
  | t + 1 => by
    have ih := rt_more hv t
    by_cases h : t < (rt m K Z f kf zf t).length
    · rw [rt_next h, rt_next (by rw [ih]; exact h), ih]
      obtain ⟨c, hc, e⟩ := (rt_good hv t).at h
      unfold stepR
      rw [e]
      have en : ¬ ((c : Int).toNat = n) := by simp; omega
      have e1 : mMore n m (c : Int).toNat = m (c : Int).toNat := if_neg en
      have e2 : kMore n K (c : Int).toNat = K (c : Int).toNat := funext fun j => if_neg en
      have e3 : kMore n Z (c : Int).toNat = Z (c : Int).toNat := funext fun j => if_neg en
      rw [e1, e2, e3]
    · rw [rt_stays h 1, rt_stays (by rw [ih]; exact h) 1, ih]

/-- It changes nothing of what is reached. -/
theorem reached_more (hv : Valid n m K Z f kf zf) : reached (n + 1) (mMore n m) (kMore n K) (kMore n Z) f kf zf = reached n m K Z f kf zf := by
  have hl := (rt_good hv n).len
  have h : ¬ n < (rt m K Z f kf zf n).length := by omega
  show rt _ _ _ _ _ _ (n + 1) = rt _ _ _ _ _ _ n
  rw [rt_more hv, rt_stays h 1]

/-- What is reached is in all that holds what the values lead to, and what its own fields lead to. -/
theorem rt_least (hv : Valid n m K Z f kf zf) {S : List Int} (h0 : ∀ j, j < f → kf j = 2 → zf j ∈ S) (hS : ∀ c : Nat, c < n → (c : Int) ∈ S → ∀ j, j < m c → K c j = 2 → Z c j ∈ S) : ∀ t x, x ∈ rt m K Z f kf zf t → x ∈ S
  | 0, x, h => by
    rcases mem_meetTo.1 h with h | ⟨j, hj, hk, e⟩
    · exact absurd h List.not_mem_nil
    · rw [e]; exact h0 j hj hk
  | t + 1, x, h => by
    have ih := rt_least hv h0 hS t
    by_cases ht : t < (rt m K Z f kf zf t).length
    · rw [rt_next ht] at h
      unfold stepR at h
      obtain ⟨c, hc, e⟩ := (rt_good hv t).at ht
      rcases mem_meetTo.1 h with h | ⟨j, hj, hk, hx⟩
      · exact ih x h
      · rw [e] at hj hk hx
        have hcm : (c : Int) ∈ rt m K Z f kf zf t := by
          rw [← e, List.getD_eq_getElem?_getD, List.getElem?_eq_getElem ht]; exact List.getElem_mem ht
        rw [hx]
        exact hS c hc (ih _ hcm) j hj hk
    · rw [rt_stays ht 1] at h
      exact ih x h

theorem reached_mono {f2 : Nat} {k2 z2 : Nat → Int} (hv : Valid n m K Z f kf zf) (hv2 : Valid n m K Z f2 k2 z2) (hsub : ∀ j, j < f → kf j = 2 → ∃ i, i < f2 ∧ k2 i = 2 ∧ zf j = z2 i) {x : Int} (hx : x ∈ reached n m K Z f kf zf) :
    x ∈ reached n m K Z f2 k2 z2 := by
  refine rt_least hv (fun j hj hk => ?_) (fun c _ hc j hj hk => reached_closed hv2 hc hj hk) n x hx
  obtain ⟨i, hi, hk2, e⟩ := hsub j hj hk
  rw [e]
  exact reached_from hi hk2

theorem rt_head (t : Nat) : ∃ S, rt m K Z f kf zf t = rt m K Z f kf zf 0 ++ S := by
  induction t with
  | zero => exact ⟨[], by simp⟩
  | succ t ih =>
    obtain ⟨S, e⟩ := ih
    obtain ⟨T, e2⟩ := rt_prefix (m := m) (K := K) (Z := Z) (f := f) (kf := kf) (zf := zf) t
    exact ⟨S ++ T, by rw [e2, e, List.append_assoc]⟩

theorem rt_empty (h : rt m K Z f kf zf 0 = []) : ∀ t, rt m K Z f kf zf t = [] := fun t => by
  have := rt_stays (m := m) (K := K) (Z := Z) (f := f) (kf := kf) (zf := zf) (t := 0) (by rw [h]; simp) t
  rw [Nat.zero_add] at this
  rw [this, h]

theorem meetTo_add {k z k2 z2 : Nat → Int} {R : List Int} {a : Nat} (ha : ∀ i, i < a → k i = k2 i ∧ z i = z2 i) : meetTo a k z R = meetTo a k2 z2 R := by
  induction a with
  | zero => rfl
  | succ a ih =>
    have := ih fun i hi => ha i (by omega)
    show meet1 _ _ _ = meet1 _ _ _
    rw [this, (ha a (by omega)).1, (ha a (by omega)).2]

theorem meetTo_split {k z : Nat → Int} {R : List Int} (a : Nat) : ∀ b, ∃ S, meetTo (a + b) k z R = meetTo a k z R ++ S
  | 0 => ⟨[], by simp⟩
  | b + 1 => by
    obtain ⟨S, e⟩ := meetTo_split (k := k) (z := z) (R := R) a b
    obtain ⟨T, e2⟩ := meet1_prefix (meetTo (a + b) k z R) (k (a + b)) (z (a + b))
    have e3 : meetTo (a + (b + 1)) k z R = meet1 (meetTo (a + b) k z R) (k (a + b)) (z (a + b)) := rfl
    exact ⟨S ++ T, by rw [e3, e2, e, List.append_assoc]⟩

/-- From more values the first one that is reached stays the first. -/
theorem reached_first {f2 : Nat} {k2 z2 : Nat → Int} (hf : f ≤ f2) (hsame : ∀ i, i < f → kf i = k2 i ∧ zf i = z2 i) (hne : ¬ (reached n m K Z f kf zf).length = 0) :
    0 < (reached n m K Z f2 k2 z2).length ∧ (reached n m K Z f2 k2 z2).getD 0 0 = (reached n m K Z f kf zf).getD 0 0 := by
  have h0 : ¬ rt m K Z f kf zf 0 = [] := fun e => hne (by show (rt m K Z f kf zf n).length = 0; rw [rt_empty e n]; rfl)
  have hl : 0 < (rt m K Z f kf zf 0).length := List.length_pos_iff.2 h0
  obtain ⟨S, e1⟩ := rt_head (m := m) (K := K) (Z := Z) (f := f) (kf := kf) (zf := zf) n
  obtain ⟨T, e2⟩ := rt_head (m := m) (K := K) (Z := Z) (f := f2) (kf := k2) (zf := z2) n
  obtain ⟨U, e3⟩ := meetTo_split (k := k2) (z := z2) (R := []) f (f2 - f)
  rw [show f + (f2 - f) = f2 by omega, ← meetTo_add hsame] at e3
  have e3' : rt m K Z f2 k2 z2 0 = rt m K Z f kf zf 0 ++ U := e3
  have g1 : reached n m K Z f kf zf = rt m K Z f kf zf 0 ++ S := e1
  have g2 : reached n m K Z f2 k2 z2 = rt m K Z f kf zf 0 ++ (U ++ T) := by
    show rt m K Z f2 k2 z2 n = _
    rw [e2, e3', List.append_assoc]
  rw [g1, g2, getD_prefix hl, getD_prefix hl]
  exact ⟨by rw [List.length_append]; omega, rfl⟩

end

/-- Rows one behind the other: the first j. -/
def catTo (m : Nat → Nat) (K Z : Nat → Nat → Int) : Nat → List (Int × Int)
  | 0 => []
  | j + 1 => catTo m K Z j ++ rowL (m j) (K j) (Z j)

end Go.Proofs.Ytnkhdhbjdemdkaa
