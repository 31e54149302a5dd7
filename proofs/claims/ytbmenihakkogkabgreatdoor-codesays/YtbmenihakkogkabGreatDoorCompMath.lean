/- What is compiled is right: the plain part. Instructions that are right stay so where there are more registers and more instructions; each kind that is laid is right. -/
import Derived.Test.YtbmenihakkogkabGreatDoorPart14
import Derived.Test.YtbmenihakkogkabGreatDoorPart1
namespace Go.Proofs.YtbmenihakkogkabGreatDoor

/-- An instruction is right, of np procedures, where there are R registers and c instructions. -/
def good (np : Nat) (par : Nat → Int) (R : Int) (c : Nat) (i : In) : Prop := insErr np par R c i = 0

theorem fromB_iffC {n lo hi : Int} : fromB n lo hi = true ↔ lo ≤ n ∧ n ≤ hi := by unfold fromB; exact decide_eq_true_iff
theorem fromB_up {n lo hi hi' : Int} (h : fromB n lo hi = true) (hh : hi ≤ hi') : fromB n lo hi' = true := by
  rw [fromB_iffC] at *; omega

theorem regsB_up {i : In} {R R' : Int} (h : regsB i R = true) (hR : R ≤ R') : regsB i R' = true := by
  unfold regsB at *
  split
  · rfl
  next h1 =>
  rw [if_neg h1] at h
  split
  · next h2 =>
    rw [if_pos h2] at h
    simp only [Bool.and_eq_true] at h ⊢
    exact ⟨fromB_up h.1 (by omega), fromB_up h.2.1 (by omega), fromB_up h.2.2 (by omega)⟩
  next h2 =>
  rw [if_neg h2] at h
  split
  · next h3 =>
    rw [if_pos h3] at h
    simp only [Bool.and_eq_true] at h ⊢
    exact ⟨fromB_up h.1 (by omega), fromB_up h.2 (by omega)⟩
  next h3 =>
  rw [if_neg h3] at h
  exact fromB_up h (by omega)

theorem restB_up {i : In} {c c' : Int} (h : restB i c = true) (hc : c ≤ c') : restB i c' = true := by
  unfold restB at *
  split
  · next h1 => rw [if_pos h1] at h; exact h
  next h1 =>
  rw [if_neg h1] at h
  split
  · next h2 => rw [if_pos h2] at h; exact h
  next h2 =>
  rw [if_neg h2] at h
  split
  · next h3 => rw [if_pos h3] at h; exact h
  next h3 =>
  rw [if_neg h3] at h
  split
  · next h4 => rw [if_pos h4] at h; exact h
  next h4 =>
  rw [if_neg h4] at h
  split
  · next h5 => rw [if_pos h5] at h; exact fromB_up h (by omega)
  · rfl

theorem argsB_up {i : In} {R R' : Int} (h : argsB i R = true) (hR : R ≤ R') : argsB i R' = true := by
  unfold argsB at *
  rw [decide_eq_true_iff] at *
  intro k hk
  have := h k hk
  omega

theorem good_iff {np : Nat} {par : Nat → Int} {R : Int} {c : Nat} {i : In} : good np par R c i ↔ fromB i.op 1 13 = true ∧ regsB i R = true ∧ (i.op = 7 → fromB i.b 0 ((np : Int) - 1) = true) ∧ restB i c = true ∧ bareB i = true ∧ (i.op = 7 → (i.n : Int) = par i.b.toNat) ∧ (i.op = 7 → argsB i R = true) := by
  unfold good insErr
  constructor
  · intro h
    split at h
    · cases h
    next h1 =>
    split at h
    · cases h
    next h2 =>
    split at h
    · cases h
    next h3 =>
    split at h
    · cases h
    next h4 =>
    split at h
    · cases h
    next h5 =>
    split at h
    · cases h
    next h6 =>
    refine ⟨by simpa using h1, by simpa using h2, fun e => ?_, by simpa using h4, ?_, fun e => ?_, fun e => ?_⟩
    · cases hb : fromB i.b 0 ((np : Int) - 1)
      · exact absurd ⟨e, hb⟩ h3
      · rfl
    · cases hb : bareB i
      · exact absurd (Or.inl hb) h5
      · rfl
    · exact Classical.byContradiction fun hn => h5 (Or.inr ⟨e, hn⟩)
    · cases hb : argsB i R
      · exact absurd ⟨e, hb⟩ h6
      · rfl
  · rintro ⟨h1, h2, h3, h4, h5, h6, h7⟩
    rw [if_neg (by rw [h1]; simp), if_neg (by rw [h2]; simp), if_neg (fun h => by rw [h3 h.1] at h; simp at h), if_neg (by rw [h4]; simp), if_neg (fun h => by
      rcases h with h | h
      · rw [h5] at h; cases h
      · exact h.2 (h6 h.1)), if_neg (fun h => by rw [h7 h.1] at h; simp at h)]

theorem good.up {np : Nat} {par : Nat → Int} {R R' : Int} {c c' : Nat} {i : In} (h : good np par R c i) (hR : R ≤ R') (hc : c ≤ c') : good np par R' c' i := by
  rw [good_iff] at *
  obtain ⟨h1, h2, h3, h4, h5, h6, h7⟩ := h
  exact ⟨h1, regsB_up h2 hR, h3, restB_up h4 (by omega), h5, h6, fun e => argsB_up (h7 e) hR⟩

/-- Each kind of instruction that is laid. -/
theorem good_num {np : Nat} {par : Nat → Int} {R : Int} {c : Nat} {a b : Int} {z : Nat → Int} (ha : 0 ≤ a ∧ a < R) (hb : -1000000000 ≤ b ∧ b ≤ 1000000000) : good np par R c ⟨1, a, b, 0, 0, z⟩ := by
  rw [good_iff]
  simp [fromB, regsB, restB, bareB]; omega
theorem good_move {np : Nat} {par : Nat → Int} {R : Int} {c : Nat} {a b : Int} {z : Nat → Int} (ha : 0 ≤ a ∧ a < R) (hb : 0 ≤ b ∧ b < R) : good np par R c ⟨2, a, b, 0, 0, z⟩ := by
  rw [good_iff]
  simp [fromB, regsB, restB, bareB]; omega
theorem good_op {np : Nat} {par : Nat → Int} {R : Int} {c : Nat} {a b d : Int} {z : Nat → Int} (ha : 0 ≤ a ∧ a < R) (hb : 0 ≤ b ∧ b < R) (hd : 0 ≤ d ∧ d < R) (hz : 1 ≤ z 0 ∧ z 0 ≤ 5) : good np par R c ⟨3, a, b, d, 1, z⟩ := by
  rw [good_iff]
  simp [fromB, regsB, restB, bareB]; omega
theorem good_get {np : Nat} {par : Nat → Int} {R : Int} {c : Nat} {a b d : Int} {z : Nat → Int} (ha : 0 ≤ a ∧ a < R) (hb : 0 ≤ b ∧ b < R) (hd : 0 ≤ d ∧ d ≤ 3) : good np par R c ⟨4, a, b, d, 0, z⟩ := by
  rw [good_iff]
  simp [fromB, regsB, restB, bareB]; omega
theorem good_new {np : Nat} {par : Nat → Int} {R : Int} {c : Nat} {a b : Int} {z : Nat → Int} (ha : 0 ≤ a ∧ a < R) (hb : 1 ≤ b ∧ b ≤ 4) : good np par R c ⟨5, a, b, 0, 0, z⟩ := by
  rw [good_iff]
  simp [fromB, regsB, restB, bareB]; omega
theorem good_put {np : Nat} {par : Nat → Int} {R : Int} {c : Nat} {a b d : Int} {z : Nat → Int} (ha : 0 ≤ a ∧ a < R) (hb : 0 ≤ b ∧ b < R) (hd : 0 ≤ d ∧ d ≤ 3) : good np par R c ⟨6, a, b, d, 0, z⟩ := by
  rw [good_iff]
  simp [fromB, regsB, restB, bareB]; omega
theorem good_call {np : Nat} {par : Nat → Int} {R : Int} {c : Nat} {a b : Int} {n : Nat} {z : Nat → Int} (ha : 0 ≤ a ∧ a < R) (hb : 0 ≤ b ∧ b < np) (hn : (n : Int) = par b.toNat) (hz : ∀ k, k < n → 0 ≤ z k ∧ z k < R) : good np par R c ⟨7, a, b, 0, n, z⟩ := by
  rw [good_iff]
  refine ⟨by simp [fromB], by simp [fromB, regsB]; omega, fun _ => by simp [fromB]; omega, by simp [restB], by simp [bareB], fun _ => hn, fun _ => ?_⟩
  unfold argsB
  rw [decide_eq_true_iff]
  intro k hk
  have := hz k hk
  exact ⟨this.1, by show z k ≤ R - 1; omega⟩
/-- Return, say, go. -/
theorem good_one {np : Nat} {par : Nat → Int} {R : Int} {c : Nat} {o a : Int} {z : Nat → Int} (ho : o = 8 ∨ o = 9 ∨ o = 11) (ha : 0 ≤ a ∧ a < R) : good np par R c ⟨o, a, 0, 0, 0, z⟩ := by
  rw [good_iff]
  rcases ho with rfl | rfl | rfl <;> simp [fromB, regsB, restB, bareB] <;> omega
theorem good_pause {np : Nat} {par : Nat → Int} {R : Int} {c : Nat} {z : Nat → Int} : good np par R c ⟨10, 0, 0, 0, 0, z⟩ := by
  rw [good_iff]
  simp [fromB, regsB, restB, bareB]
theorem good_jump {np : Nat} {par : Nat → Int} {R : Int} {c : Nat} {b : Int} {z : Nat → Int} (hb : 0 ≤ b ∧ b < c) : good np par R c ⟨12, 0, b, 0, 0, z⟩ := by
  rw [good_iff]
  simp [fromB, regsB, restB, bareB]; omega
theorem good_zero {np : Nat} {par : Nat → Int} {R : Int} {c : Nat} {a b : Int} {z : Nat → Int} (ha : 0 ≤ a ∧ a < R) (hb : 0 ≤ b ∧ b < c) : good np par R c ⟨13, a, b, 0, 0, z⟩ := by
  rw [good_iff]
  simp [fromB, regsB, restB, bareB]; omega
/-- Where a jump leads elsewhere, it is as right. -/
theorem good.land {np : Nat} {par : Nat → Int} {R : Int} {c : Nat} {i : In} (h : good np par R c i) (ho : i.op = 12 ∨ i.op = 13) {b : Int} (hb : 0 ≤ b ∧ b < c) : good np par R c { i with b := b } := by
  rw [good_iff] at *
  obtain ⟨o, a, b', d, n, z⟩ := i
  simp only at ho
  rcases ho with rfl | rfl <;> simp [fromB, regsB, restB, bareB] at h ⊢ <;> omega

theorem firstErr_nil {f : Nat → Int} : ∀ {n : Nat}, (∀ k, k < n → f k = 0) → firstErr n f = 0
  | 0, _ => rfl
  | n + 1, h => by
    have h1 := firstErr_nil (n := n) fun k hk => h k (by omega)
    simp only [firstErr]
    rw [h1, if_pos rfl]
    exact h n (by omega)

/-- A procedure of right instructions, ended by a return. -/
theorem body_right {np : Nat} {par : Nat → Int} {p : Pc} (h : ∀ k, k < p.n → good np par p.regs p.n (p.ins k)) (he : (p.ins (p.n - 1)).op = 8) : bodyCErr np par p = 0 := by
  unfold bodyCErr
  rw [firstErr_nil h, if_pos rfl, if_pos (Or.inl he)]

theorem code_right {np : Nat} {P : Nat → Pc} (h1 : 1 ≤ np) (h4 : np ≤ 4) (hh : ∀ j, j < np → 0 ≤ (P j).params ∧ (P j).params ≤ 3 ∧ (P j).params ≤ (P j).regs ∧ 1 ≤ (P j).regs ∧ (P j).regs ≤ 40 ∧ 1 ≤ (P j).n ∧ (P j).n ≤ 2000) (h0 : (P 0).params = 0)
    (hb : ∀ j, j < np → bodyCErr np (fun k => (P k).params) (P j) = 0) : codeErr np P = 0 := by
  unfold codeErr
  have e1 : firstErr np (fun j => pcErr j (P j)) = 0 := firstErr_nil fun j hj => by
    obtain ⟨a, b, c, d, e, f, g⟩ := hh j hj
    show pcErr j (P j) = 0
    unfold pcErr
    rw [if_neg (fun h => ?_), if_neg (by omega)]
    rcases h with h | h | ⟨rfl, h⟩
    · have : fromB (P j).params 0 3 = true := fromB_iffC.2 ⟨a, b⟩
      rw [this] at h; cases h
    · have : fromB (P j).regs (max 1 (P j).params) 40 = true := fromB_iffC.2 ⟨by omega, e⟩
      rw [this] at h; cases h
    · omega
  rw [if_neg (by omega), e1, if_pos rfl]
  exact firstErr_nil hb

/-! ### Registers -/

/-- So many registers an expression of d tokens may want. -/
def peak (d : Nat) : Nat := (2 * d + 1) / 3

theorem peak_pos {d : Nat} (h : 1 ≤ d) : 1 ≤ peak d := by unfold peak; omega
theorem peak_mono {d e : Nat} (h : d ≤ e) : peak d ≤ peak e := by unfold peak; omega
/-- The i-th of at most three parts (i from 0): those ahead of it take i registers, and i tokens at least, the token itself one more. -/
theorem peak_part {i d e : Nat} (hi : i ≤ 2) (h : 1 + i + d ≤ e) : i + peak d ≤ peak e := by unfold peak; omega
theorem peak_all {e : Nat} (h : e ≤ 24) : peak e ≤ 16 := by unfold peak; omega

end Go.Proofs.YtbmenihakkogkabGreatDoor
