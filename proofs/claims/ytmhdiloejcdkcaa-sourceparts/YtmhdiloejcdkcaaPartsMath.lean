/- A program without one statement, or with one doubled: it stays right, or has too many statements. The plain reckoning. -/
import Derived.Test.YtmhdiloejcdkcaaSized
namespace Go.Proofs.Ytmhdiloejcdkcaa

/-- The statements at other places: number i is what number 'h i' was. -/
def pickT (n : Nat) (h : Nat → Nat) (T : SL) : SL := fun p =>
  match p with
  | [] => (n, fun i => (T []).2 (h i))
  | (i, b) :: r => T ((h i, b) :: r)

theorem pickT_len (n : Nat) (h : Nat → Nat) (T : SL) : (pickT n h T).len = n := rfl
theorem pickT_nd (n : Nat) (h : Nat → Nat) (T : SL) (i : Nat) : (pickT n h T).nd i = T.nd (h i) := rfl
theorem pickT_sub (n : Nat) (h : Nat → Nat) (T : SL) (i : Nat) (b : Bool) : (pickT n h T).sub i b = T.sub (h i) b := rfl

theorem pick_errs {E : Nd → Nat → Nat → Int} {d n : Nat} {h : Nat → Nat} {T : SL} (hh : ∀ i, i < n → h i < T.len) (he : errs E (d + 1) T = 0) : errs E (d + 1) (pickT n h T) = 0 := by
  simp only [errs] at he ⊢
  have hz := firstErr_is_zero he
  refine firstErr_zero fun i hi => ?_
  exact hz (h i) (hh i hi)

theorem pick_fits {d n : Nat} {h : Nat → Nat} {T : SL} {left : Nat} (hh : ∀ i, i < n → h i < T.len) (hf : fits (d + 1) T left) : fits (d + 1) (pickT n h T) left := by
  by_cases h0 : n = 0
  · exact Or.inl h0
  · rcases hf with hf | ⟨hl, hf⟩
    · have := hh 0 (by omega)
      omega
    · exact Or.inr ⟨hl, fun i hi => hf (h i) (hh i hi)⟩

/-- Without number k. -/
def without (k : Nat) (i : Nat) : Nat := if i < k then i else i + 1
/-- With number k twice. -/
def doubled (k : Nat) (i : Nat) : Nat := if i ≤ k then i else i - 1

theorem sum_without (f : Nat → Nat) (k : Nat) : ∀ n, k ≤ n → sumTo n (fun i => f (without k i)) ≤ sumTo (n + 1) f
  | 0, hk => by simp [sumTo]
  | n + 1, hk => by
    by_cases e : k = n + 1
    · have : sumTo (n + 1) (fun i => f (without k i)) = sumTo (n + 1) f := sumTo_congr fun i hi => by unfold without; rw [if_pos (by omega)]
      rw [this]
      exact sumTo_mono (by omega)
    · have ih := sum_without f k n (by omega)
      have e2 : without k n = n + 1 := by unfold without; rw [if_neg (by omega)]
      show sumTo n (fun i => f (without k i)) + f (without k n) ≤ sumTo (n + 1) f + f (n + 1)
      rw [e2]
      omega

theorem size_without {d k n : Nat} {T : SL} (hn : T.len = n + 1) (hk : k ≤ n) : size (d + 1) (pickT n (without k) T) ≤ size (d + 1) T := by
  show sumTo n (fun i => 1 + size d (T.sub (without k i) false) + size d (T.sub (without k i) true)) ≤ sumTo T.len _
  rw [hn]
  exact sum_without (fun i => 1 + size d (T.sub i false) + size d (T.sub i true)) k n hk

/-- A body without one of its statements is right where it was. -/
theorem body_without {nf : Nat} {par : Nat → Int} {locals : Int} {d k n : Nat} {T : SL} (hn : T.len = n + 1) (hk : k ≤ n) (h : bodyErr nf par locals (d + 1) T = 0) : bodyErr nf par locals (d + 1) (pickT n (without k) T) = 0 := by
  have hh : ∀ i, i < n → without k i < T.len := fun i hi => by unfold without; split <;> omega
  unfold bodyErr at h ⊢
  by_cases hs : (wk look1 (d + 1) T 1 0).1 = 0
  · rw [if_pos hs] at h
    obtain ⟨h1, h2⟩ := wk1_iff.1 hs
    have h3 := size_without (d := d) hn hk
    rw [if_pos (wk1_iff.2 ⟨pick_fits hh h1, by omega⟩)]
    exact pick_errs hh h
  · rw [if_neg hs] at h; cases h

/-- A body with one of its statements doubled is right where it was, or has too many. -/
theorem body_doubled {nf : Nat} {par : Nat → Int} {locals : Int} {d k n : Nat} {T : SL} (hn : T.len = n) (hk : k < n) (h : bodyErr nf par locals (d + 1) T = 0) : bodyErr nf par locals (d + 1) (pickT (n + 1) (doubled k) T) = 0 ∨ bodyErr nf par locals (d + 1) (pickT (n + 1) (doubled k) T) = 2 := by
  have hh : ∀ i, i < n + 1 → doubled k i < T.len := fun i hi => by unfold doubled; split <;> omega
  unfold bodyErr at h ⊢
  by_cases hs : (wk look1 (d + 1) T 1 0).1 = 0
  · rw [if_pos hs] at h
    by_cases hs2 : (wk look1 (d + 1) (pickT (n + 1) (doubled k) T) 1 0).1 = 0
    · rw [if_pos hs2]
      exact Or.inl (pick_errs hh h)
    · rw [if_neg hs2]; exact Or.inr rfl
  · rw [if_neg hs] at h; cases h

/-- What a right program is. -/
theorem progErr_zero {nf : Nat} {par loc : Nat → Int} {d : Nat} {body : Nat → SL} (h : progErr nf par loc d body = 0) : 1 ≤ nf ∧ nf ≤ 4 ∧ (∀ i, i < nf → headErr i (par i) (loc i) = 0) ∧ ∀ i, i < nf → bodyErr nf par (loc i) d (body i) = 0 := by
  unfold progErr at h
  by_cases h1 : nf < 1 ∨ 4 < nf
  · rw [if_pos h1] at h; cases h
  · rw [if_neg h1] at h
    by_cases h2 : firstErr nf (fun i => headErr i (par i) (loc i)) = 0
    · rw [if_pos h2] at h
      exact ⟨by omega, by omega, firstErr_is_zero h2, firstErr_is_zero h⟩
    · rw [if_neg h2] at h; cases h

/-- Another body in the place of number i. -/
def bodyAt (body : Nat → SL) (i : Nat) (T : SL) : Nat → SL := fun j => if j = i then T else body j

theorem prog_other {nf : Nat} {par loc : Nat → Int} {d i : Nat} {body : Nat → SL} {T : SL} (h : progErr nf par loc d body = 0) (hi : i < nf) : progErr nf par loc d (bodyAt body i T) = bodyErr nf par (loc i) d T := by
  obtain ⟨h1, h2, h3, h4⟩ := progErr_zero h
  rw [progErr_body (by omega) h3]
  by_cases hb : bodyErr nf par (loc i) d T = 0
  · rw [hb]
    refine firstErr_zero fun j hj => ?_
    unfold bodyAt
    by_cases e : j = i
    · subst e; rw [if_pos rfl]; exact hb
    · rw [if_neg e]; exact h4 j hj
  · have e1 : bodyErr nf par (loc i) d (bodyAt body i T i) = bodyErr nf par (loc i) d T := by unfold bodyAt; rw [if_pos rfl]
    rw [firstErr_at (i := i) (fun j hj => ?_) (by rw [e1]; exact hb) hi, e1]
    unfold bodyAt
    rw [if_neg (by omega)]
    exact h4 j (by omega)

end Go.Proofs.Ytmhdiloejcdkcaa
