/- Programs: what is written is read; like programs have like texts, and unlike ones unlike texts. No Go in it. -/
import Derived.Test.YtomfkfhipemlcabDoorWordsRead
import Derived.Lib.SplitLaws
namespace Go.Proofs.YtomfkfhipemlcabDoor
open Go.RowKit

theorem prog_zero {nf : Nat} {par loc : Nat → Int} {d : Nat} {body : Nat → SL} (h : progErr nf par loc d body = 0) : 1 ≤ nf ∧ nf ≤ 4 ∧ (∀ i, i < nf → headErr i (par i) (loc i) = 0) ∧ ∀ i, i < nf → bodyErr nf par (loc i) d (body i) = 0 := by
  unfold progErr at h
  by_cases h1 : nf < 1 ∨ 4 < nf
  · rw [if_pos h1] at h; cases h
  · rw [if_neg h1] at h
    by_cases h2 : firstErr nf (fun i => headErr i (par i) (loc i)) = 0
    · rw [if_pos h2] at h
      exact ⟨by omega, by omega, firstErr_is_zero h2, firstErr_is_zero h⟩
    · rw [if_neg h2] at h; cases h

/-! ### What no word is -/

/-- A word without a blank, other than 'fun'. -/
def plainW (w : Wd) : Prop := w ≠ funW ∧ ¬ (32 : UInt8) ∈ w.data.toList

theorem itoa_plain (p : List UInt8) (z : Int) (hp : ¬ (32 : UInt8) ∈ p) (hf : p = [] ∨ p = [118] ∨ p = [46] ∨ p = [110, 101, 119] ∨ p = [102]) : plainW (bs (p ++ Lib.itoa z)) := by
  obtain ⟨c, r, e, hc, hr⟩ := itoa_bytes z
  rw [e]
  refine ⟨fun h => ?_, fun h => ?_⟩
  · have h := bs_inj h
    rcases hf with rfl | rfl | rfl | rfl | rfl
    · injection h with h1 h2; subst h1; simp at hc
    · injection h with h1 h2; cases h1
    · injection h with h1 h2; cases h1
    · injection h with h1 h2; cases h1
    · injection h with h1 h2; injection h2 with h2 h3; subst h2; simp at hc
  · rw [bs_data, List.mem_append, List.mem_cons] at h
    rcases h with h | h | h
    · exact hp h
    · subst h; simp at hc
    · have := hr _ h; simp at this

theorem numW_plain (z : Int) : plainW (numW z) := itoa_plain [] z (by simp) (Or.inl rfl)

theorem tokW_plain {k z : Int} {nf : Nat} {locals : Int} (h : tokErr k z nf locals = 0) : plainW (tokW k z) := by
  unfold tokW
  split
  · next hk =>
    subst hk
    have hz5 : z = 1 ∨ z = 2 ∨ z = 3 ∨ z = 4 ∨ z = 5 := by
      unfold tokErr at h
      rw [if_neg (by decide), if_neg (by decide), if_pos rfl] at h
      split at h
      · cases h
      · omega
    rcases hz5 with rfl | rfl | rfl | rfl | rfl <;> exact ⟨by decide, by decide⟩
  · next hk =>
    have : k.toNat = 0 ∨ k.toNat = 1 ∨ k.toNat = 2 ∨ k.toNat = 3 ∨ k.toNat = 4 ∨ k.toNat = 5 ∨ k.toNat = 6 ∨ 7 ≤ k.toNat := by omega
    have hm : mkL k.toNat = [] ∨ mkL k.toNat = [118] ∨ mkL k.toNat = [46] ∨ mkL k.toNat = [110, 101, 119] ∨ mkL k.toNat = [102] := by
      rcases this with e | e | e | e | e | e | e | e
      · rw [e]; exact Or.inl rfl
      · rw [e]; exact Or.inl rfl
      · rw [e]; exact Or.inr (Or.inl rfl)
      · rw [e]; exact Or.inl rfl
      · rw [e]; exact Or.inr (Or.inr (Or.inl rfl))
      · rw [e]; exact Or.inr (Or.inr (Or.inr (Or.inl rfl)))
      · rw [e]; exact Or.inr (Or.inr (Or.inr (Or.inr rfl)))
      · left; unfold mkL; split <;> first | omega | rfl
    refine itoa_plain _ z ?_ hm
    rcases hm with e | e | e | e | e <;> rw [e] <;> decide

theorem stL_plain (k : Nat) : plainW (bs (stL k)) := by
  by_cases h : k ≤ 8
  · have : k = 0 ∨ k = 1 ∨ k = 2 ∨ k = 3 ∨ k = 4 ∨ k = 5 ∨ k = 6 ∨ k = 7 ∨ k = 8 := by omega
    rcases this with rfl | rfl | rfl | rfl | rfl | rfl | rfl | rfl | rfl <;> exact ⟨by decide, by decide⟩
  · have e : stL k = [] := by unfold stL; split <;> first | omega | rfl
    rw [e]; exact ⟨by decide, by decide⟩

theorem toksW_plain {k z : Nat → Int} {nf : Nat} {locals : Int} : ∀ {n : Nat}, (∀ j, j < n → tokErr (k j) (z j) nf locals = 0) → ∀ w ∈ toksW k z n, plainW w
  | 0, _, w, hw => by cases hw
  | n + 1, h, w, hw => by
    rcases List.mem_append.1 hw with hw | hw
    · exact toksW_plain (fun j hj => h j (by omega)) w hw
    · rw [List.mem_singleton] at hw; subst hw; exact tokW_plain (h n (by omega))

theorem catTo_mem {f : Nat → List Wd} {w : Wd} : ∀ {n : Nat}, w ∈ catTo f n → ∃ i, i < n ∧ w ∈ f i
  | 0, h => by cases h
  | n + 1, h => by
    rcases List.mem_append.1 h with h | h
    · obtain ⟨i, hi, hw⟩ := catTo_mem h
      exact ⟨i, by omega, hw⟩
    · exact ⟨n, by omega, h⟩

theorem expr_toks {n : Nat} {k z : Nat → Int} {nf : Nat} {par : Nat → Int} {locals : Int} (h : exprErr n k z nf par locals = 0) : ∀ j, j < n → tokErr (k j) (z j) nf locals = 0 :=
  fun j hj => (stepErr_tok ((exprErr_zero h).2.2.1 j hj)).1

theorem blkW_plain {nf : Nat} {par : Nat → Int} {locals : Int} : ∀ {d : Nat} {T : SL}, errs (stErr nf par locals) d T = 0 → ∀ w ∈ blkW d T, plainW w
  | 0, T, _, w, hw => by
    have : w = obW ∨ w = cbW := by simpa [blkW] using hw
    rcases this with rfl | rfl <;> exact ⟨by decide, by decide⟩
  | d + 1, T, h, w, hw => by
    rw [blkW, List.cons_append, List.mem_cons, List.mem_append, List.mem_singleton] at hw
    rcases hw with rfl | hw | rfl
    · exact ⟨by decide, by decide⟩
    · obtain ⟨i, hi, hw⟩ := catTo_mem hw
      obtain ⟨s0, s1, s2⟩ := errs_item h hi
      obtain ⟨f0, f1, f2, f3⟩ := stErr_zero s0
      obtain ⟨k1, k2, kn, ke, kf, ka, kb⟩ := formErr_zero f0
      simp only [stmtW, List.mem_append, List.mem_cons] at hw
      rcases hw with ((((rfl | hw) | hw) | hw) | hw) | hw
      · exact stL_plain _
      · split at hw
        · rw [List.mem_singleton] at hw; subst hw; exact numW_plain _
        · cases hw
      · by_cases c : (T.nd i).kind = 4
        · have hz : (T.nd i).ne = 0 := by omega
          rw [hz] at hw; cases hw
        · exact toksW_plain (expr_toks (f2.resolve_left c)) w hw
      · by_cases c : (T.nd i).kind = 2
        · exact toksW_plain (expr_toks (f3.resolve_left fun x => x c)) w hw
        · have hz : (T.nd i).nf = 0 := by omega
          rw [hz] at hw; cases hw
      · split at hw
        · exact blkW_plain s1 w hw
        · cases hw
      · split at hw
        · exact blkW_plain s2 w hw
        · cases hw
    · exact ⟨by decide, by decide⟩

/-! ### The heads -/

theorem headsR_plain (rest : List Wd) : ∀ {ws : List Wd}, (∀ w ∈ ws, plainW w) → headsR (ws ++ rest) = headsR rest
  | [], _ => rfl
  | w :: ws, h => by
    rw [List.cons_append, headsR, if_neg (h w (by simp)).1]
    exact headsR_plain rest fun x hx => h x (by simp [hx])

theorem numR_num {z : Int} (h0 : -9223372036854775808 ≤ z) (h1 : z ≤ 9223372036854775807) (r : List Wd) : numR (numW z :: r) = z := atoiV_itoa h0 h1

theorem bodyErr_errs {nf : Nat} {par : Nat → Int} {locals : Int} {d : Nat} {T : SL} (h : bodyErr nf par locals d T = 0) : sound d T ∧ errs (stErr nf par locals) d T = 0 := by
  unfold bodyErr at h
  by_cases c : (wk look1 d T 1 0).1 = 0
  · rw [if_pos c] at h; exact ⟨wk1_iff.1 c, h⟩
  · rw [if_neg c] at h; cases h

theorem head_range {i : Nat} {p l : Int} (h : headErr i p l = 0) : 0 ≤ p ∧ p ≤ 3 ∧ p ≤ l ∧ l ≤ 6 := by
  unfold headErr at h
  split at h
  · cases h
  · omega

/-- The words from function i on. -/
def fromW (_nf : Nat) (par loc : Nat → Int) (d : Nat) (body : Nat → SL) (i m : Nat) : List Wd := catF (fun i => funWs d (par i) (loc i) (body i)) i m

theorem heads_from {nf : Nat} {par loc : Nat → Int} {d : Nat} {body : Nat → SL} (h : progErr nf par loc d body = 0) : ∀ (m i : Nat), i + m = nf → headsR (fromW nf par loc d body i m) = pairs par loc i m
  | 0, _, _ => rfl
  | m + 1, i, hi => by
    obtain ⟨_, _, hh, hb⟩ := prog_zero h
    have r := head_range (hh i (by omega))
    have e : fromW nf par loc d body i (m + 1) = funW :: numW (par i) :: numW (loc i) :: (blkW d (body i) ++ fromW nf par loc d body (i + 1) m) := by
      simp [fromW, catF, funWs]
    rw [e, headsR, if_pos rfl, numR_num (by omega) (by omega), List.tail_cons, numR_num (by omega) (by omega)]
    have e2 : headsR (numW (par i) :: numW (loc i) :: (blkW d (body i) ++ fromW nf par loc d body (i + 1) m)) = pairs par loc (i + 1) m := by
      have : numW (par i) :: numW (loc i) :: (blkW d (body i) ++ fromW nf par loc d body (i + 1) m) = (numW (par i) :: numW (loc i) :: blkW d (body i)) ++ fromW nf par loc d body (i + 1) m := by simp
      rw [this, headsR_plain, heads_from h m (i + 1) (by omega)]
      intro w hw
      rw [List.mem_cons, List.mem_cons] at hw
      rcases hw with rfl | rfl | hw
      · exact numW_plain _
      · exact numW_plain _
      · exact blkW_plain (bodyErr_errs (hb i (by omega))).2 w hw
    rw [e2]
    rfl

theorem blkR_par {nf : Nat} {p q : Nat → Int} (hpq : ∀ i, i < nf → p i = q i) : ∀ (u : Nat) (ws : List Wd), loopR nf p u ws = loopR nf q u ws := by
  have hx : ∀ (ws : List Wd) (a : Int), exprR nf p a ws = exprR nf q a ws := by
    have ha : ∀ t, asksR nf p t = asksR nf q t := by
      intro t
      unfold asksR
      split
      · rfl
      split
      · rfl
      split
      · next h => exact hpq _ (by omega)
      · rfl
    intro ws
    induction ws with
    | nil => intro a; rfl
    | cons w ws ih => intro a; simp only [exprR, ha, ih]
  intro u
  induction u with
  | zero => intro ws; rfl
  | succ u ih =>
    intro ws
    have h2 : ∀ k ws, st2 nf p k ws = st2 nf q k ws := fun k ws => by unfold st2; rw [hx]
    have h3 : ∀ k ws, st3 nf p k ws = st3 nf q k ws := fun k ws => by unfold st3; rw [h2, hx]
    have h4 : ∀ B k ws, st4 nf p B k ws = st4 nf q B k ws := fun B k ws => by unfold st4; rw [h3]
    have h5 : ∀ B k ws, st5 nf p B k ws = st5 nf q B k ws := fun B k ws => by unfold st5; rw [h4]
    have hs : ∀ B k ws, stR nf p B k ws = stR nf q B k ws := fun B k ws => by unfold stR; rw [h2, h3, h4, h5]
    simp only [loopR, ih, hs, h5]

/-- What is written is read. -/
theorem read_text {nf : Nat} {par loc : Nat → Int} {d : Nat} {body : Nat → SL} (h : progErr nf par loc d body = 0) :
    rdN (progW nf par loc d body) = nf ∧ (∀ i, i < nf → rdP (progW nf par loc d body) i = par i ∧ rdL (progW nf par loc d body) i = loc i ∧ eqS d (body i) (rdB (progW nf par loc d body) i) = true) := by
  have e0 : progW nf par loc d body = fromW nf par loc d body 0 nf := catTo_eq _ nf
  have e1 : headsR (progW nf par loc d body) = pairs par loc 0 nf := by rw [e0]; exact heads_from h nf 0 (by omega)
  have e2 : rdN (progW nf par loc d body) = nf := by unfold rdN; rw [e1, pairs_length]
  obtain ⟨hn1, hn4, hh, hb⟩ := prog_zero h
  have e3 : ∀ i, i < nf → rdP (progW nf par loc d body) i = par i ∧ rdL (progW nf par loc d body) i = loc i := fun i hi => by
    unfold rdP rdL
    rw [e1, pairs_at _ _ _ _ _ hi, Nat.zero_add]
    exact ⟨rfl, rfl⟩
  have left : ∀ i m, i + m = nf → leftR nf par ((progW nf par loc d body).length + 1) (progW nf par loc d body) i = fromW nf par loc d body i m ∧ (fromW nf par loc d body i m).length ≤ (progW nf par loc d body).length := by
    intro i
    induction i with
    | zero =>
      intro m hm
      obtain rfl : m = nf := by omega
      rw [← e0]; exact ⟨rfl, Nat.le_refl _⟩
    | succ i ih =>
      intro m hm
      obtain ⟨l1, l2⟩ := ih (m + 1) (by omega)
      have e : fromW nf par loc d body i (m + 1) = funW :: numW (par i) :: numW (loc i) :: (blkW d (body i) ++ fromW nf par loc d body (i + 1) m) := by
        simp [fromW, catF, funWs]
      rw [e] at l1 l2
      simp only [List.length_cons, List.length_append] at l2
      refine ⟨?_, by omega⟩
      rw [leftR, l1]
      exact (loopR_text (by have := head_range (hh i (by omega)); omega) (by omega) d _ (bodyErr_errs (hb i (by omega))).2 _ _ (by rw [List.length_append]; omega)).1
  refine ⟨e2, fun i hi => ⟨(e3 i hi).1, (e3 i hi).2, ?_⟩⟩
  obtain ⟨l1, l2⟩ := left i (nf - i) (by omega)
  obtain ⟨m, hm⟩ : ∃ m, nf - i = m + 1 := ⟨nf - i - 1, by omega⟩
  rw [hm] at l1 l2
  have e : fromW nf par loc d body i (m + 1) = funW :: numW (par i) :: numW (loc i) :: (blkW d (body i) ++ fromW nf par loc d body (i + 1) m) := by
    simp [fromW, catF, funWs]
  rw [e] at l1 l2
  simp only [List.length_cons, List.length_append] at l2
  unfold rdB bodyR
  rw [e2]
  have ep : ∀ u ws, blkR nf (rdP (progW nf par loc d body)) u ws = blkR nf par u ws := fun u ws => by
    unfold blkR; rw [blkR_par fun j hj => (e3 j hj).1]
  have el : ∀ j, leftR nf (rdP (progW nf par loc d body)) ((progW nf par loc d body).length + 1) (progW nf par loc d body) j = leftR nf par ((progW nf par loc d body).length + 1) (progW nf par loc d body) j := by
    intro j
    induction j with
    | zero => rfl
    | succ j ih => rw [leftR, leftR, ih, ep]
  rw [el, ep, l1]
  exact (loopR_text (by have := head_range (hh i hi); omega) (by omega) d _ (bodyErr_errs (hb i hi)).2 _ _ (by rw [List.length_append]; omega)).2

end Go.Proofs.YtomfkfhipemlcabDoor
