/- What is reached, as a list: from a row of values, cell by cell; that it ends, holds each cell once, and only cells. No Go in it. -/
import Derived.Test.YtnkhdhbjdemdkaaMath
namespace Go.Proofs.Ytnkhdhbjdemdkaa

/-- The cells whose fields are looked at in round t: the t-th that is there. -/
def stepR (m : Nat → Nat) (K Z : Nat → Nat → Int) (t : Nat) (R : List Int) : List Int :=
  meetTo (m (R.getD t 0).toNat) (K (R.getD t 0).toNat) (Z (R.getD t 0).toNat) R

/-- What is there behind t rounds. -/
def rt (m : Nat → Nat) (K Z : Nat → Nat → Int) (f : Nat) (kf zf : Nat → Int) : Nat → List Int
  | 0 => meetTo f kf zf []
  | t + 1 => if t < (rt m K Z f kf zf t).length then stepR m K Z t (rt m K Z f kf zf t) else rt m K Z f kf zf t

theorem meet1_more (R : List Int) (k z : Int) : R.length ≤ (meet1 R k z).length := by
  unfold meet1; split
  · simp
  · exact Nat.le_refl _

theorem meetTo_more : ∀ (i : Nat) (k z : Nat → Int) (R : List Int), R.length ≤ (meetTo i k z R).length
  | 0, _, _, _ => Nat.le_refl _
  | i + 1, k, z, R => Nat.le_trans (meetTo_more i k z R) (meet1_more _ _ _)

/-- Each once, and each one of n. -/
def Good (n : Nat) (R : List Int) : Prop := R.Nodup ∧ ∀ x, x ∈ R → 0 ≤ x ∧ x < n

theorem good_nil (n : Nat) : Good n [] := ⟨List.nodup_nil, fun _ h => absurd h List.not_mem_nil⟩

theorem meet1_good {n : Nat} {R : List Int} {k z : Int} (h : Good n R) (hz : k = 2 → 0 ≤ z ∧ z < n) : Good n (meet1 R k z) := by
  unfold meet1
  split
  · rename_i e
    refine ⟨List.nodup_append.2 ⟨h.1, by simp, fun a ha b hb e1 => ?_⟩, fun x hx => ?_⟩
    · simp at hb; subst hb; subst e1; exact e.2 ha
    · rcases List.mem_append.1 hx with hx | hx
      · exact h.2 x hx
      · simp at hx; subst hx; exact hz e.1
  · exact h

theorem meetTo_good {n : Nat} {k z : Nat → Int} {R : List Int} (h : Good n R) : ∀ {i : Nat}, (∀ j, j < i → k j = 2 → 0 ≤ z j ∧ z j < n) → Good n (meetTo i k z R)
  | 0, _ => h
  | i + 1, hz => meet1_good (meetTo_good h fun j hj => hz j (by omega)) (hz i (by omega))

theorem nodup_len : ∀ (n : Nat) (R : List Int), R.Nodup → (∀ x, x ∈ R → 0 ≤ x ∧ x < n) → R.length ≤ n
  | 0, R, _, h => by
    cases R with
    | nil => simp
    | cons a r => have := h a (by simp); omega
  | n + 1, R, hn, h => by
    by_cases hm : (n : Int) ∈ R
    · have h1 := nodup_len n (R.erase n) (hn.erase _) (fun x hx => by
        have h2 := h x (List.mem_of_mem_erase hx)
        have h3 : x ≠ n := fun e => by subst e; exact (List.Nodup.not_mem_erase hn) hx
        omega)
      rw [List.length_erase_of_mem hm] at h1
      omega
    · have := nodup_len n R hn (fun x hx => by
        have h2 := h x hx
        have h3 : x ≠ n := fun e => hm (e ▸ hx)
        omega)
      omega

theorem Good.len {n : Nat} {R : List Int} (h : Good n R) : R.length ≤ n := nodup_len n R h.1 h.2

/-- What Reach takes. -/
structure Valid (n : Nat) (m : Nat → Nat) (K Z : Nat → Nat → Int) (f : Nat) (kf zf : Nat → Int) : Prop where
  few : n ≤ 24
  least : ∀ i, i < n → 1 ≤ m i
  most : ∀ i, i < n → m i ≤ 4
  fields : ∀ i, i < n → ∀ j, j < m i → chk (K i j) (Z i j) n = 0
  short : f ≤ 400
  vals : ∀ j, j < f → chk (kf j) (zf j) n = 0

theorem chk_ref {z c : Int} (h : chk 2 z c = 0) : 0 ≤ z ∧ z < c := by
  unfold chk at h
  simp at h
  omega

theorem allErr_zero {n : Nat} {m : Nat → Nat} {K Z : Nat → Nat → Int} : allErr n m K Z = 0 ↔ n ≤ 24 ∧ ∀ i, i < n → 1 ≤ m i ∧ m i ≤ 4 ∧ ∀ j, j < m i → chk (K i j) (Z i j) n = 0 := by
  constructor
  · intro h
    unfold allErr at h
    by_cases hn : 24 < n
    · rw [if_pos hn] at h; cases h
    · rw [if_neg hn] at h
      refine ⟨by omega, fun i hi => ?_⟩
      have h1 := firstErr_is_zero h i hi
      unfold cellErr at h1
      by_cases hm : m i < 1 ∨ 4 < m i
      · rw [if_pos hm] at h1; cases h1
      · rw [if_neg hm] at h1
        exact ⟨by omega, by omega, firstErr_is_zero h1⟩
  · rintro ⟨hn, h⟩
    unfold allErr
    rw [if_neg (by omega)]
    refine firstErr_zero fun i hi => ?_
    obtain ⟨h1, h4, hf⟩ := h i hi
    unfold cellErr
    rw [if_neg (by omega)]
    exact firstErr_zero hf

theorem reachErr_zero {n : Nat} {m : Nat → Nat} {K Z : Nat → Nat → Int} {f : Nat} {kf zf : Nat → Int} : reachErr n m K Z f kf zf = 0 ↔ Valid n m K Z f kf zf := by
  constructor
  · intro h
    unfold reachErr at h
    by_cases ha : allErr n m K Z = 0
    · rw [if_pos ha] at h
      obtain ⟨hn, hc⟩ := allErr_zero.1 ha
      by_cases hf : 400 < f
      · rw [if_pos hf] at h; cases h
      · rw [if_neg hf] at h
        exact ⟨hn, fun i hi => (hc i hi).1, fun i hi => (hc i hi).2.1, fun i hi => (hc i hi).2.2, by omega, firstErr_is_zero h⟩
    · rw [if_neg ha] at h; exact absurd h ha
  · intro h
    unfold reachErr
    rw [if_pos (allErr_zero.2 ⟨h.few, fun i hi => ⟨h.least i hi, h.most i hi, h.fields i hi⟩⟩), if_neg (by have := h.short; omega)]
    exact firstErr_zero h.vals

section
variable {n : Nat} {m : Nat → Nat} {K Z : Nat → Nat → Int} {f : Nat} {kf zf : Nat → Int}

theorem Valid.from (h : Valid n m K Z f kf zf) (j : Nat) (hj : j < f) (hk : kf j = 2) : 0 ≤ zf j ∧ zf j < n := by
  have := h.vals j hj; rw [hk] at this; exact chk_ref this

theorem Valid.field (h : Valid n m K Z f kf zf) (i : Nat) (hi : i < n) (j : Nat) (hj : j < m i) (hk : K i j = 2) : 0 ≤ Z i j ∧ Z i j < n := by
  have := h.fields i hi j hj; rw [hk] at this; exact chk_ref this

theorem Good.at {R : List Int} (h : Good n R) {t : Nat} (ht : t < R.length) : ∃ c : Nat, c < n ∧ R.getD t 0 = c := by
  have hm : R.getD t 0 ∈ R := by
    rw [List.getD_eq_getElem?_getD, List.getElem?_eq_getElem ht]; exact List.getElem_mem ht
  have := h.2 _ hm
  exact ⟨(R.getD t 0).toNat, by omega, by omega⟩

theorem stepR_good (hv : Valid n m K Z f kf zf) {R : List Int} (h : Good n R) {t : Nat} (ht : t < R.length) : Good n (stepR m K Z t R) := by
  obtain ⟨c, hc, e⟩ := h.at ht
  unfold stepR
  rw [e]
  exact meetTo_good h fun j hj hk => hv.field c hc j hj hk

theorem rt_good (hv : Valid n m K Z f kf zf) : ∀ t, Good n (rt m K Z f kf zf t)
  | 0 => meetTo_good (good_nil n) hv.from
  | t + 1 => by
    unfold rt
    split
    · rename_i h; exact stepR_good hv (rt_good hv t) h
    · exact rt_good hv t

theorem rt_next {t : Nat} (h : t < (rt m K Z f kf zf t).length) : rt m K Z f kf zf (t + 1) = stepR m K Z t (rt m K Z f kf zf t) := by
  show (if _ then _ else _) = _
  exact if_pos h

theorem rt_stays {t : Nat} (h : ¬ t < (rt m K Z f kf zf t).length) : ∀ d, rt m K Z f kf zf (t + d) = rt m K Z f kf zf t
  | 0 => rfl
  | d + 1 => by
    have ih := rt_stays h d
    have e : rt m K Z f kf zf (t + d + 1) = rt m K Z f kf zf (t + d) := if_neg (by rw [ih]; omega)
    exact e.trans ih

/-- All that is reached. -/
def reached (n : Nat) (m : Nat → Nat) (K Z : Nat → Nat → Int) (f : Nat) (kf zf : Nat → Int) : List Int := rt m K Z f kf zf n

theorem rt_done {t : Nat} (ht : t ≤ n) (h : ¬ t < (rt m K Z f kf zf t).length) : reached n m K Z f kf zf = rt m K Z f kf zf t := by
  have := rt_stays h (n - t)
  rw [show t + (n - t) = n by omega] at this
  exact this

end
end Go.Proofs.Ytnkhdhbjdemdkaa
