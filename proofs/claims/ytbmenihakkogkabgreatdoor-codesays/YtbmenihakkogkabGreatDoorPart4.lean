/- Programs: what is written is read; like programs have like texts, and unlike ones unlike texts. No Go in it. Like programs have like texts and like errors; unlike ones unlike texts; a text falls apart into its words. No Go in it. -/
import Derived.Test.YtbmenihakkogkabGreatDoorWordsRead
import Derived.Lib.SplitLaws
namespace Go.Proofs.YtbmenihakkogkabGreatDoor
open Go.RowKit

theorem prog_zero {nf : Nat} {par loc : Nat → Int} {d : Nat} {body : Nat → SL} (h : progErr nf par loc d body = 0) : 1 ≤ nf ∧ nf ≤ 4 ∧ (∀ i, i < nf → headErr i (par i) (loc i) = 0) ∧ ∀ i, i < nf → bodyErr nf par (loc i) d (body i) = 0 := by
  unfold progErr at h
  by_cases h1 : nf < 1 ∨ 4 < nf
  · rw [if_pos h1] at h; cases h
  · rw [if_neg h1] at h
    by_cases h2 : firstErr nf (fun i => headErr i (par i) (loc i)) = 0
    · rw [if_pos h2] at h
      exact ⟨by omega, by omega, firstErr_is_zero h2, firstErr_is_zero h⟩
    · rw [if_neg h2] at h; cases h

/-! ### What no word is -/

/-- A word without a blank, other than 'fun'. -/
def plainW (w : Wd) : Prop := w ≠ funW ∧ ¬ (32 : UInt8) ∈ w.data.toList

theorem itoa_plain (p : List UInt8) (z : Int) (hp : ¬ (32 : UInt8) ∈ p) (hf : p = [] ∨ p = [118] ∨ p = [46] ∨ p = [110, 101, 119] ∨ p = [102]) : plainW (bs (p ++ Lib.itoa z)) := by
  obtain ⟨c, r, e, hc, hr⟩ := itoa_bytes z
  rw [e]
  refine ⟨fun h => ?_, fun h => ?_⟩
  · have h := bs_inj h
    rcases hf with rfl | rfl | rfl | rfl | rfl
    · injection h with h1 h2; subst h1; simp at hc
    · injection h with h1 h2; cases h1
    · injection h with h1 h2; cases h1
    · injection h with h1 h2; cases h1
    · injection h with h1 h2; injection h2 with h2 h3; subst h2; simp at hc
  · rw [bs_data, List.mem_append, List.mem_cons] at h
    rcases h with h | h | h
    · exact hp h
    · subst h; simp at hc
    · have := hr _ h; simp at this

theorem numW_plain (z : Int) : plainW (numW z) := itoa_plain [] z (by simp) (Or.inl rfl)

theorem tokW_plain {k z : Int} {nf : Nat} {locals : Int} (h : tokErr k z nf locals = 0) : plainW (tokW k z) := by
  unfold tokW
  split
  · next hk =>
    subst hk
    have hz5 : z = 1 ∨ z = 2 ∨ z = 3 ∨ z = 4 ∨ z = 5 := by
      unfold tokErr at h
      rw [if_neg (by decide), if_neg (by decide), if_pos rfl] at h
      split at h
      · cases h
      · omega
    rcases hz5 with rfl | rfl | rfl | rfl | rfl <;> exact ⟨by decide, by decide⟩
  · next hk =>
    have : k.toNat = 0 ∨ k.toNat = 1 ∨ k.toNat = 2 ∨ k.toNat = 3 ∨ k.toNat = 4 ∨ k.toNat = 5 ∨ k.toNat = 6 ∨ 7 ≤ k.toNat := by omega
    have hm : mkL k.toNat = [] ∨ mkL k.toNat = [118] ∨ mkL k.toNat = [46] ∨ mkL k.toNat = [110, 101, 119] ∨ mkL k.toNat = [102] := by
      rcases this with e | e | e | e | e | e | e | e
      · rw [e]; exact Or.inl rfl
      · rw [e]; exact Or.inl rfl
      · rw [e]; exact Or.inr (Or.inl rfl)
      · rw [e]; exact Or.inl rfl
      · rw [e]; exact Or.inr (Or.inr (Or.inl rfl))
      · rw [e]; exact Or.inr (Or.inr (Or.inr (Or.inl rfl)))
      · rw [e]; exact Or.inr (Or.inr (Or.inr (Or.inr rfl)))
      · left; unfold mkL; split <;> first | omega | rfl
    refine itoa_plain _ z ?_ hm
    rcases hm with e | e | e | e | e <;> rw [e] <;> decide

theorem stL_plain (k : Nat) : plainW (bs (stL k)) := by
  by_cases h : k ≤ 8
  · have : k = 0 ∨ k = 1 ∨ k = 2 ∨ k = 3 ∨ k = 4 ∨ k = 5 ∨ k = 6 ∨ k = 7 ∨ k = 8 := by omega
    rcases this with rfl | rfl | rfl | rfl | rfl | rfl | rfl | rfl | rfl <;> exact ⟨by decide, by decide⟩
  · have e : stL k = [] := by unfold stL; split <;> first | omega | rfl
    rw [e]; exact ⟨by decide, by decide⟩

theorem toksW_plain {k z : Nat → Int} {nf : Nat} {locals : Int} : ∀ {n : Nat}, (∀ j, j < n → tokErr (k j) (z j) nf locals = 0) → ∀ w ∈ toksW k z n, plainW w
  | 0, _, w, hw => by cases hw
  | n + 1, h, w, hw => by
    rcases List.mem_append.1 hw with hw | hw
    · exact toksW_plain (fun j hj => h j (by omega)) w hw
    · rw [List.mem_singleton] at hw; subst hw; exact tokW_plain (h n (by omega))

theorem catTo_mem {f : Nat → List Wd} {w : Wd} : ∀ {n : Nat}, w ∈ catTo f n → ∃ i, i < n ∧ w ∈ f i
  | 0, h => by cases h
  | n + 1, h => by
    rcases List.mem_append.1 h with h | h
    · obtain ⟨i, hi, hw⟩ := catTo_mem h
      exact ⟨i, by omega, hw⟩
    · exact ⟨n, by omega, h⟩

theorem expr_toks {n : Nat} {k z : Nat → Int} {nf : Nat} {par : Nat → Int} {locals : Int} (h : exprErr n k z nf par locals = 0) : ∀ j, j < n → tokErr (k j) (z j) nf locals = 0 :=
  fun j hj => (stepErr_tok ((exprErr_zero h).2.2.1 j hj)).1

theorem blkW_plain {nf : Nat} {par : Nat → Int} {locals : Int} : ∀ {d : Nat} {T : SL}, errs (stErr nf par locals) d T = 0 → ∀ w ∈ blkW d T, plainW w
  | 0, T, _, w, hw => by
    have : w = obW ∨ w = cbW := by simpa [blkW] using hw
    rcases this with rfl | rfl <;> exact ⟨by decide, by decide⟩
  | d + 1, T, h, w, hw => by
    rw [blkW, List.cons_append, List.mem_cons, List.mem_append, List.mem_singleton] at hw
    rcases hw with rfl | hw | rfl
    · exact ⟨by decide, by decide⟩
    · obtain ⟨i, hi, hw⟩ := catTo_mem hw
      obtain ⟨s0, s1, s2⟩ := errs_item h hi
      obtain ⟨f0, f1, f2, f3⟩ := stErr_zero s0
      obtain ⟨k1, k2, kn, ke, kf, ka, kb⟩ := formErr_zero f0
      simp only [stmtW, List.mem_append, List.mem_cons] at hw
      rcases hw with ((((rfl | hw) | hw) | hw) | hw) | hw
      · exact stL_plain _
      · split at hw
        · rw [List.mem_singleton] at hw; subst hw; exact numW_plain _
        · cases hw
      · by_cases c : (T.nd i).kind = 4
        · have hz : (T.nd i).ne = 0 := by omega
          rw [hz] at hw; cases hw
        · exact toksW_plain (expr_toks (f2.resolve_left c)) w hw
      · by_cases c : (T.nd i).kind = 2
        · exact toksW_plain (expr_toks (f3.resolve_left fun x => x c)) w hw
        · have hz : (T.nd i).nf = 0 := by omega
          rw [hz] at hw; cases hw
      · split at hw
        · exact blkW_plain s1 w hw
        · cases hw
      · split at hw
        · exact blkW_plain s2 w hw
        · cases hw
    · exact ⟨by decide, by decide⟩

/-! ### The heads -/

theorem headsR_plain (rest : List Wd) : ∀ {ws : List Wd}, (∀ w ∈ ws, plainW w) → headsR (ws ++ rest) = headsR rest
  | [], _ => rfl
  | w :: ws, h => by
    rw [List.cons_append, headsR, if_neg (h w (by simp)).1]
    exact headsR_plain rest fun x hx => h x (by simp [hx])

theorem numR_num {z : Int} (h0 : -9223372036854775808 ≤ z) (h1 : z ≤ 9223372036854775807) (r : List Wd) : numR (numW z :: r) = z := atoiV_itoa h0 h1

theorem bodyErr_errs {nf : Nat} {par : Nat → Int} {locals : Int} {d : Nat} {T : SL} (h : bodyErr nf par locals d T = 0) : sound d T ∧ errs (stErr nf par locals) d T = 0 := by
  unfold bodyErr at h
  by_cases c : (wk look1 d T 1 0).1 = 0
  · rw [if_pos c] at h; exact ⟨wk1_iff.1 c, h⟩
  · rw [if_neg c] at h; cases h

theorem head_range {i : Nat} {p l : Int} (h : headErr i p l = 0) : 0 ≤ p ∧ p ≤ 3 ∧ p ≤ l ∧ l ≤ 6 := by
  unfold headErr at h
  split at h
  · cases h
  · omega

/-- The words from function i on. -/
def fromW (_nf : Nat) (par loc : Nat → Int) (d : Nat) (body : Nat → SL) (i m : Nat) : List Wd := catF (fun i => funWs d (par i) (loc i) (body i)) i m

theorem heads_from {nf : Nat} {par loc : Nat → Int} {d : Nat} {body : Nat → SL} (h : progErr nf par loc d body = 0) : ∀ (m i : Nat), i + m = nf → headsR (fromW nf par loc d body i m) = pairs par loc i m
  | 0, _, _ => rfl
  | m + 1, i, hi => by
    obtain ⟨_, _, hh, hb⟩ := prog_zero h
    have r := head_range (hh i (by omega))
    have e : fromW nf par loc d body i (m + 1) = funW :: numW (par i) :: numW (loc i) :: (blkW d (body i) ++ fromW nf par loc d body (i + 1) m) := by
      simp [fromW, catF, funWs]
    rw [e, headsR, if_pos rfl, numR_num (by omega) (by omega), List.tail_cons, numR_num (by omega) (by omega)]
    have e2 : headsR (numW (par i) :: numW (loc i) :: (blkW d (body i) ++ fromW nf par loc d body (i + 1) m)) = pairs par loc (i + 1) m := by
      have : numW (par i) :: numW (loc i) :: (blkW d (body i) ++ fromW nf par loc d body (i + 1) m) = (numW (par i) :: numW (loc i) :: blkW d (body i)) ++ fromW nf par loc d body (i + 1) m := by simp
      rw [this, headsR_plain, heads_from h m (i + 1) (by omega)]
      intro w hw
      rw [List.mem_cons, List.mem_cons] at hw
      rcases hw with rfl | rfl | hw
      · exact numW_plain _
      · exact numW_plain _
      · exact blkW_plain (bodyErr_errs (hb i (by omega))).2 w hw
    rw [e2]
    rfl

theorem blkR_par {nf : Nat} {p q : Nat → Int} (hpq : ∀ i, i < nf → p i = q i) : ∀ (u : Nat) (ws : List Wd), loopR nf p u ws = loopR nf q u ws := by
  have hx : ∀ (ws : List Wd) (a : Int), exprR nf p a ws = exprR nf q a ws := by
    have ha : ∀ t, asksR nf p t = asksR nf q t := by
      intro t
      unfold asksR
      split
      · rfl
      split
      · rfl
      split
      · next h => exact hpq _ (by omega)
      · rfl
    intro ws
    induction ws with
    | nil => intro a; rfl
    | cons w ws ih => intro a; simp only [exprR, ha, ih]
  intro u
  induction u with
  | zero => intro ws; rfl
  | succ u ih =>
    intro ws
    have h2 : ∀ k ws, st2 nf p k ws = st2 nf q k ws := fun k ws => by unfold st2; rw [hx]
    have h3 : ∀ k ws, st3 nf p k ws = st3 nf q k ws := fun k ws => by unfold st3; rw [h2, hx]
    have h4 : ∀ B k ws, st4 nf p B k ws = st4 nf q B k ws := fun B k ws => by unfold st4; rw [h3]
    have h5 : ∀ B k ws, st5 nf p B k ws = st5 nf q B k ws := fun B k ws => by unfold st5; rw [h4]
    have hs : ∀ B k ws, stR nf p B k ws = stR nf q B k ws := fun B k ws => by unfold stR; rw [h2, h3, h4, h5]
    simp only [loopR, ih, hs, h5]

/-- What is written is read. -/
theorem wread_text {nf : Nat} {par loc : Nat → Int} {d : Nat} {body : Nat → SL} (h : progErr nf par loc d body = 0) :
    rdN (progW nf par loc d body) = nf ∧ (∀ i, i < nf → rdP (progW nf par loc d body) i = par i ∧ rdL (progW nf par loc d body) i = loc i ∧ eqS d (body i) (rdB (progW nf par loc d body) i) = true) := by
  have e0 : progW nf par loc d body = fromW nf par loc d body 0 nf := catTo_eq _ nf
  have e1 : headsR (progW nf par loc d body) = pairs par loc 0 nf := by rw [e0]; exact heads_from h nf 0 (by omega)
  have e2 : rdN (progW nf par loc d body) = nf := by unfold rdN; rw [e1, pairs_length]
  obtain ⟨hn1, hn4, hh, hb⟩ := prog_zero h
  have e3 : ∀ i, i < nf → rdP (progW nf par loc d body) i = par i ∧ rdL (progW nf par loc d body) i = loc i := fun i hi => by
    unfold rdP rdL
    rw [e1, pairs_at _ _ _ _ _ hi, Nat.zero_add]
    exact ⟨rfl, rfl⟩
  have left : ∀ i m, i + m = nf → leftR nf par ((progW nf par loc d body).length + 1) (progW nf par loc d body) i = fromW nf par loc d body i m ∧ (fromW nf par loc d body i m).length ≤ (progW nf par loc d body).length := by
    intro i
    induction i with
    | zero =>
      intro m hm
      obtain rfl : m = nf := by omega
      rw [← e0]; exact ⟨rfl, Nat.le_refl _⟩
    | succ i ih =>
      intro m hm
      obtain ⟨l1, l2⟩ := ih (m + 1) (by omega)
      have e : fromW nf par loc d body i (m + 1) = funW :: numW (par i) :: numW (loc i) :: (blkW d (body i) ++ fromW nf par loc d body (i + 1) m) := by
        simp [fromW, catF, funWs]
      rw [e] at l1 l2
      simp only [List.length_cons, List.length_append] at l2
      refine ⟨?_, by omega⟩
      rw [leftR, l1]
      exact (loopR_text (by have := head_range (hh i (by omega)); omega) (by omega) d _ (bodyErr_errs (hb i (by omega))).2 _ _ (by rw [List.length_append]; omega)).1
  refine ⟨e2, fun i hi => ⟨(e3 i hi).1, (e3 i hi).2, ?_⟩⟩
  obtain ⟨l1, l2⟩ := left i (nf - i) (by omega)
  obtain ⟨m, hm⟩ : ∃ m, nf - i = m + 1 := ⟨nf - i - 1, by omega⟩
  rw [hm] at l1 l2
  have e : fromW nf par loc d body i (m + 1) = funW :: numW (par i) :: numW (loc i) :: (blkW d (body i) ++ fromW nf par loc d body (i + 1) m) := by
    simp [fromW, catF, funWs]
  rw [e] at l1 l2
  simp only [List.length_cons, List.length_append] at l2
  unfold rdB bodyR
  rw [e2]
  have ep : ∀ u ws, blkR nf (rdP (progW nf par loc d body)) u ws = blkR nf par u ws := fun u ws => by
    unfold blkR; rw [blkR_par fun j hj => (e3 j hj).1]
  have el : ∀ j, leftR nf (rdP (progW nf par loc d body)) ((progW nf par loc d body).length + 1) (progW nf par loc d body) j = leftR nf par ((progW nf par loc d body).length + 1) (progW nf par loc d body) j := by
    intro j
    induction j with
    | zero => rfl
    | succ j ih => rw [leftR, leftR, ih, ep]
  rw [el, ep, l1]
  exact (loopR_text (by have := head_range (hh i hi); omega) (by omega) d _ (bodyErr_errs (hb i hi)).2 _ _ (by rw [List.length_append]; omega)).2

end Go.Proofs.YtbmenihakkogkabGreatDoor

namespace Go.Proofs.YtbmenihakkogkabGreatDoor
open Go.RowKit

theorem eqH_iff {s t : Nd} : eqH s t = true ↔ s.kind = t.kind ∧ s.num = t.num ∧ (s.ne = t.ne ∧ ∀ i, i < s.ne → s.ek i = t.ek i ∧ s.ez i = t.ez i) ∧ (s.nf = t.nf ∧ ∀ i, i < s.nf → s.fk i = t.fk i ∧ s.fz i = t.fz i) := by
  unfold eqH
  rw [Bool.and_eq_true, Bool.and_eq_true, Bool.and_eq_true, decide_eq_true_iff, decide_eq_true_iff, eqV_iff, eqV_iff]
  constructor
  · rintro ⟨⟨⟨a, b⟩, c⟩, d⟩; exact ⟨a, b, c, d⟩
  · rintro ⟨a, b, c, d⟩; exact ⟨⟨⟨a, b⟩, c⟩, d⟩

theorem eqS_iff {d : Nat} {T U : SL} : eqS (d + 1) T U = true ↔ T.len = U.len ∧ ∀ i, i < T.len → eqH (T.nd i) (U.nd i) = true ∧ eqS d (T.sub i false) (U.sub i false) = true ∧ eqS d (T.sub i true) (U.sub i true) = true := by
  simp only [eqS, Bool.and_eq_true, decide_eq_true_iff, allTo_iff, eqI]

theorem eqH_join {s t u : Nd} (h : eqH s u = true) (k : eqH t u = true) : eqH s t = true := by
  rw [eqH_iff] at *
  obtain ⟨a, b, ⟨c, c'⟩, ⟨e, e'⟩⟩ := h
  obtain ⟨a1, b1, ⟨c1, c1'⟩, ⟨e1, e1'⟩⟩ := k
  refine ⟨by omega, by omega, ⟨by omega, fun i hi => ?_⟩, ⟨by omega, fun i hi => ?_⟩⟩
  · have x := c' i hi; have y := c1' i (by omega); omega
  · have x := e' i hi; have y := e1' i (by omega); omega

theorem eqS_join : ∀ {d : Nat} {T U V : SL}, eqS d T V = true → eqS d U V = true → eqS d T U = true
  | 0, _, _, _, _, _ => rfl
  | d + 1, T, U, V, h, k => by
    rw [eqS_iff] at *
    refine ⟨by omega, fun i hi => ?_⟩
    obtain ⟨a, b, c⟩ := h.2 i hi
    obtain ⟨a1, b1, c1⟩ := k.2 i (by omega)
    exact ⟨eqH_join a a1, eqS_join b b1, eqS_join c c1⟩

theorem eqH_refl (s : Nd) : eqH s s = true := eqH_iff.2 ⟨rfl, rfl, ⟨rfl, fun _ _ => ⟨rfl, rfl⟩⟩, ⟨rfl, fun _ _ => ⟨rfl, rfl⟩⟩⟩
theorem eqS_refl : ∀ (d : Nat) (T : SL), eqS d T T = true
  | 0, _ => rfl
  | d + 1, _ => eqS_iff.2 ⟨rfl, fun _ _ => ⟨eqH_refl _, eqS_refl d _, eqS_refl d _⟩⟩
theorem eqS_symm {d : Nat} {T U : SL} (h : eqS d T U = true) : eqS d U T = true := eqS_join (eqS_refl d U) h

theorem toksW_congr {k z k2 z2 : Nat → Int} : ∀ {n : Nat}, (∀ i, i < n → k i = k2 i ∧ z i = z2 i) → toksW k z n = toksW k2 z2 n
  | 0, _ => rfl
  | n + 1, h => by rw [toksW, toksW, toksW_congr fun i hi => h i (by omega), (h n (by omega)).1, (h n (by omega)).2]

theorem catTo_congr {f g : Nat → List Wd} : ∀ {n : Nat}, (∀ i, i < n → f i = g i) → catTo f n = catTo g n
  | 0, _ => rfl
  | n + 1, h => by rw [catTo, catTo, catTo_congr fun i hi => h i (by omega), h n (by omega)]

theorem blkW_congr : ∀ {d : Nat} {T U : SL}, eqS d T U = true → blkW d T = blkW d U
  | 0, _, _, _ => rfl
  | d + 1, T, U, h => by
    rw [eqS_iff] at h
    rw [blkW, blkW, ← h.1]
    congr 2
    refine catTo_congr fun i hi => ?_
    obtain ⟨a, b, c⟩ := h.2 i hi
    rw [eqH_iff] at a
    obtain ⟨a1, a2, ⟨a3, a3'⟩, ⟨a4, a4'⟩⟩ := a
    unfold stmtW
    rw [← a1, ← a2, toksW_congr a3', toksW_congr a4', a3, a4, blkW_congr b, blkW_congr c]

theorem exprErr_congr {n nf : Nat} {k z k2 z2 : Nat → Int} {par par2 : Nat → Int} {locals : Int} (h : ∀ i, i < n → k i = k2 i ∧ z i = z2 i) (hp : ∀ i, i < nf → par i = par2 i) : exprErr n k z nf par locals = exprErr n k2 z2 nf par2 locals := by
  by_cases h1 : 24 < n
  · rw [exprErr_many h1, exprErr_many h1]
  have e0 : firstErr nf (fun i => parErr (par i)) = firstErr nf (fun i => parErr (par2 i)) := firstErr_congr fun i hi => by rw [hp i hi]
  by_cases h2 : firstErr nf (fun i => parErr (par i)) = 0
  · have h2' : firstErr nf (fun i => parErr (par2 i)) = 0 := by rw [← e0]; exact h2
    -- as long as no token is wrong, as many are asked for
    have ak : ∀ j, j ≤ n → (∀ x, x < j → tokErr (k x) (z x) nf locals = 0) → asked k z par j = asked k2 z2 par2 j := by
      intro j
      induction j with
      | zero => intro _ _; rfl
      | succ j ih =>
        intro hj ht
        simp only [asked]
        rw [ih (by omega) fun x hx => ht x (by omega), (h j (by omega)).1, (h j (by omega)).2]
        have ha : asksOf (k2 j) (z2 j) par = asksOf (k2 j) (z2 j) par2 := by
          unfold asksOf
          split
          · rfl
          split
          · rfl
          split
          · next c =>
            have t := ht j (by omega)
            rw [(h j (by omega)).1, (h j (by omega)).2] at t
            exact hp _ (tokErr_call t c).2
          · rfl
        rw [ha]
    have st : ∀ j, j < n → (∀ x, x < j → stepErr k z nf par locals x = 0) → stepErr k z nf par locals j = stepErr k2 z2 nf par2 locals j := by
      intro j hj hx
      unfold stepErr
      rw [ak j (by omega) fun x hxj => (stepErr_tok (hx x hxj)).1, (h j hj).1, (h j hj).2]
    have fe : ∀ j, j ≤ n → firstErr j (stepErr k z nf par locals) = firstErr j (stepErr k2 z2 nf par2 locals) := by
      intro j
      induction j with
      | zero => intro _; rfl
      | succ j ih =>
        intro hj
        simp only [firstErr]
        rw [← ih (by omega)]
        by_cases c : firstErr j (stepErr k z nf par locals) = 0
        · rw [if_pos c, if_pos c, st j (by omega) (firstErr_is_zero c)]
        · rw [if_neg c, if_neg c]
    unfold exprErr
    rw [if_neg h1, if_neg h1, if_pos h2, if_pos h2', ← fe n (Nat.le_refl n)]
    by_cases c : firstErr n (stepErr k z nf par locals) = 0
    · rw [if_pos c, if_pos c, ak n (Nat.le_refl n) fun x hx => (stepErr_tok (firstErr_is_zero c x hx)).1]
    · rw [if_neg c, if_neg c]
  · have h2' : ¬ firstErr nf (fun i => parErr (par2 i)) = 0 := by rw [← e0]; exact h2
    unfold exprErr
    rw [if_neg h1, if_neg h1, if_neg h2, if_neg h2']

theorem stErr_congr {nf : Nat} {par par2 : Nat → Int} {locals : Int} {s t : Nd} {la lb : Nat} (h : eqH s t = true) (hp : ∀ i, i < nf → par i = par2 i) : stErr nf par locals s la lb = stErr nf par2 locals t la lb := by
  rw [eqH_iff] at h
  obtain ⟨a1, a2, ⟨a3, a3'⟩, ⟨a4, a4'⟩⟩ := h
  have e1 : formErr s la lb = formErr t la lb := by unfold formErr; rw [a1, a2, a3, a4]
  have e2 : numErr s locals = numErr t locals := by unfold numErr; rw [a1, a2]
  unfold stErr
  rw [e1, e2, a1, exprErr_congr a3' hp, exprErr_congr a4' hp, a3, a4]

theorem eqS_len_eq {d : Nat} {T U : SL} (h : eqS (d + 1) T U = true) : T.len = U.len := (eqS_iff.1 h).1

/-- There are at most d levels, and they are alike. -/
theorem errs_congr {nf : Nat} {par par2 : Nat → Int} {locals : Int} (hp : ∀ i, i < nf → par i = par2 i) : ∀ {d : Nat} {T U : SL}, eqS (d + 1) T U = true → errs (stErr nf par locals) d T = errs (stErr nf par2 locals) d U
  | 0, _, _, _ => rfl
  | d + 1, T, U, h => by
    rw [eqS_iff] at h
    simp only [errs]
    rw [← h.1]
    refine firstErr_congr fun i hi => ?_
    obtain ⟨a, b, c⟩ := h.2 i hi
    rw [stErr_congr a hp, eqS_len_eq b, eqS_len_eq c, errs_congr hp b, errs_congr hp c]

theorem size_congr : ∀ {d : Nat} {T U : SL}, eqS d T U = true → size d T = size d U
  | 0, _, _, _ => rfl
  | d + 1, T, U, h => by
    rw [eqS_iff] at h
    simp only [size]
    rw [← h.1]
    refine sumTo_congr fun i hi => ?_
    obtain ⟨_, b, c⟩ := h.2 i hi
    rw [size_congr b, size_congr c]

theorem fits_congr : ∀ {d : Nat} {T U : SL} {left : Nat}, eqS d T U = true → fits d T left → fits d U left
  | 0, _, _, _, _, _ => trivial
  | d + 1, T, U, left, h, hf => by
    rw [eqS_iff] at h
    rcases hf with hf | ⟨h0, hf⟩
    · exact Or.inl (by omega)
    · refine Or.inr ⟨h0, fun i hi => ?_⟩
      obtain ⟨_, b, c⟩ := h.2 i (by omega)
      obtain ⟨x, y⟩ := hf i (by omega)
      exact ⟨fits_congr b x, fits_congr c y⟩

theorem eqS_pred : ∀ {d : Nat} {T U : SL}, eqS (d + 1) T U = true → eqS d T U = true
  | 0, _, _, _ => rfl
  | d + 1, T, U, h => by
    rw [eqS_iff] at h ⊢
    refine ⟨h.1, fun i hi => ?_⟩
    obtain ⟨a, b, c⟩ := h.2 i hi
    exact ⟨a, eqS_pred b, eqS_pred c⟩

theorem prog_congr {nf : Nat} {p1 l1 p2 l2 : Nat → Int} {d : Nat} {B C : Nat → SL} (h : ∀ i, i < nf → p1 i = p2 i ∧ l1 i = l2 i ∧ eqS (d + 1) (B i) (C i) = true) (he : progErr nf p1 l1 d B = 0) : progErr nf p2 l2 d C = 0 := by
  obtain ⟨hn1, hn4, hh, hb⟩ := prog_zero he
  have hh2 : ∀ i, i < nf → headErr i (p2 i) (l2 i) = 0 := fun i hi => by rw [← (h i hi).1, ← (h i hi).2.1]; exact hh i hi
  rw [progErr_body (by omega) hh2]
  refine firstErr_zero fun i hi => ?_
  obtain ⟨a, b, c⟩ := h i hi
  obtain ⟨s1, s2⟩ := bodyErr_errs (hb i hi)
  have s : sound d (C i) := ⟨fits_congr (eqS_pred c) s1.1, by rw [← size_congr (eqS_pred c)]; exact s1.2⟩
  unfold bodyErr
  rw [if_pos (wk1_iff.2 s), ← b]
  exact (errs_congr (fun j hj => (h j hj).1) c).symm.trans s2

theorem progW_congr {nf : Nat} {p1 l1 p2 l2 : Nat → Int} {d : Nat} {B C : Nat → SL} (h : ∀ i, i < nf → p1 i = p2 i ∧ l1 i = l2 i ∧ eqS d (B i) (C i) = true) : progW nf p1 l1 d B = progW nf p2 l2 d C := by
  unfold progW
  refine catTo_congr fun i hi => ?_
  obtain ⟨a, b, c⟩ := h i hi
  unfold funWs
  rw [a, b, blkW_congr c]

/-- Like words are of like programs. -/
theorem progW_inj {nf ng : Nat} {p1 l1 p2 l2 : Nat → Int} {d : Nat} {B C : Nat → SL} (he : progErr nf p1 l1 d B = 0) (hg : progErr ng p2 l2 d C = 0) (h : progW nf p1 l1 d B = progW ng p2 l2 d C) :
    nf = ng ∧ ∀ i, i < nf → p1 i = p2 i ∧ l1 i = l2 i ∧ eqS d (B i) (C i) = true := by
  obtain ⟨a1, a2⟩ := wread_text he
  obtain ⟨b1, b2⟩ := wread_text hg
  rw [h] at a1 a2
  have e : nf = ng := by omega
  refine ⟨e, fun i hi => ?_⟩
  obtain ⟨x1, x2, x3⟩ := a2 i hi
  obtain ⟨y1, y2, y3⟩ := b2 i (by omega)
  exact ⟨by omega, by omega, eqS_join x3 y3⟩

/-! ### Words and texts -/

theorem progW_plain {nf : Nat} {par loc : Nat → Int} {d : Nat} {body : Nat → SL} (h : progErr nf par loc d body = 0) : ∀ w ∈ progW nf par loc d body, ¬ (32 : UInt8) ∈ w.data.toList := by
  intro w hw
  obtain ⟨i, hi, hw⟩ := catTo_mem hw
  obtain ⟨_, _, hh, hb⟩ := prog_zero h
  rw [funWs, List.mem_append] at hw
  rcases hw with hw | hw
  · have : w = funW ∨ w = numW (par i) ∨ w = numW (loc i) := by simpa using hw
    rcases this with rfl | rfl | rfl
    · decide
    · exact (numW_plain _).2
    · exact (numW_plain _).2
  · exact (blkW_plain (bodyErr_errs (hb i hi)).2 w hw).2

theorem index_blank : ∀ (l r : List UInt8), ¬ (32 : UInt8) ∈ l → Lib.index (l ++ 32 :: r) [32] = (l.length : Int)
  | [], r, _ => by simp [Lib.index, List.isPrefixOf]
  | b :: l, r, h => by
    have hb : ¬ b = 32 := fun e => h (by simp [e])
    have ih := index_blank l r fun e => h (by simp [e])
    have hp : ([32] : List UInt8).isPrefixOf (b :: (l ++ 32 :: r)) = false := by simp [List.isPrefixOf, Ne.symm hb]
    rw [List.cons_append, Lib.index, hp, ih]
    have : ¬ ((l.length : Int) == -1) = true := fun e => by have := beq_iff_eq.1 e; omega
    rw [if_neg (by decide), if_neg this]
    simp

theorem index_none : ∀ (l : List UInt8), ¬ (32 : UInt8) ∈ l → Lib.index l [32] = -1
  | [], _ => by simp [Lib.index]
  | b :: l, h => by
    have hb : ¬ b = 32 := fun e => h (by simp [e])
    have ih := index_none l fun e => h (by simp [e])
    have hp : ([32] : List UInt8).isPrefixOf (b :: l) = false := by simp [List.isPrefixOf, Ne.symm hb]
    rw [Lib.index, hp, ih]
    rfl

theorem joinTail_cons (x : List UInt8) (r : List (List UInt8)) : Lib.joinTail [32] (x :: r) = 32 :: (x ++ Lib.joinTail [32] r) := by simp [Lib.joinTail]

theorem split_words : ∀ (ws : List (List UInt8)) (w : List UInt8) (k : Nat), (∀ x ∈ w :: ws, ¬ (32 : UInt8) ∈ x) → k = ws.length → Lib.splitK [32] 0 k (Lib.join (w :: ws) [32]) = w :: ws
  | [], w, k, h, hk => by
    subst hk
    rw [Lib.join_one]; rfl
  | x :: ws, w, k, h, hk => by
    subst hk
    have hi : Lib.index (Lib.join (w :: x :: ws) [32]) [32] = (w.length : Int) := by
      rw [Lib.join_cons, joinTail_cons]
      exact index_blank w _ (h w (by simp))
    have : ¬ (Lib.index (Lib.join (w :: x :: ws) [32]) [32] == -1) = true := fun e => by have := beq_iff_eq.1 e; omega
    rw [List.length_cons, Lib.splitK, if_neg this, hi]
    have e1 : Lib.join (w :: x :: ws) [32] = w ++ 32 :: Lib.join (x :: ws) [32] := by rw [Lib.join_cons, joinTail_cons, Lib.join_cons]
    rw [e1]
    have ih := split_words ws x ws.length (fun y hy => h y (by simp at hy ⊢; exact Or.inr hy)) rfl
    have e2 : (w ++ 32 :: Lib.join (x :: ws) [32]).take ((w.length : Int).toNat + 0) = w := by simp
    have e3 : (w ++ 32 :: Lib.join (x :: ws) [32]).drop ((w.length : Int).toNat + [(32 : UInt8)].length) = Lib.join (x :: ws) [32] := by
      simp
    rw [e2, e3, ih]

theorem count_words : ∀ (ws : List (List UInt8)) (w : List UInt8), (∀ x ∈ w :: ws, ¬ (32 : UInt8) ∈ x) → (Lib.join (w :: ws) [32]).count 32 = ws.length
  | [], w, h => by rw [Lib.join_one]; exact List.count_eq_zero.2 (h w (by simp))
  | x :: ws, w, h => by
    rw [Lib.join_cons, joinTail_cons, ← Lib.join_cons, List.count_append, List.count_cons_self, count_words ws x (fun y hy => h y (by simp at hy ⊢; exact Or.inr hy)), List.count_eq_zero.2 (h w (by simp))]
    simp

/-- The words of a text. -/
def wordsOf (s : ByteArray) : List Wd := Lib.splitB (bs [32]) 0 (Lib.countB s (bs [32])) s

theorem wordsOf_data (s : ByteArray) : (wordsOf s).map (·.data.toList) = Lib.split s.data.toList [32] := Lib.splitB_data (bs [32]) 0 (Lib.countB s (bs [32])) s

theorem map_data_inj : ∀ {a b : List Wd}, a.map (·.data.toList) = b.map (·.data.toList) → a = b
  | [], [], _ => rfl
  | [], _ :: _, h => by cases h
  | _ :: _, [], h => by cases h
  | x :: a, y :: b, h => by
    simp only [List.map_cons] at h
    injection h with h1 h2
    rw [map_data_inj h2, show x = y from congrArg bs h1]

theorem wordsOf_text {ws : List Wd} (h0 : ws ≠ []) (h : ∀ w ∈ ws, ¬ (32 : UInt8) ∈ w.data.toList) : wordsOf (bs (textL ws)) = ws := by
  apply map_data_inj
  rw [wordsOf_data, bs_data]
  cases ws with
  | nil => exact absurd rfl h0
  | cons w ws =>
    have h' : ∀ x ∈ w.data.toList :: ws.map (·.data.toList), ¬ (32 : UInt8) ∈ x := by
      intro x hx
      have : x ∈ (w :: ws).map (·.data.toList) := hx
      obtain ⟨y, hy, rfl⟩ := List.mem_map.1 this
      exact h y hy
    unfold Lib.split textL
    rw [Lib.count_one]
    have := split_words (ws.map (·.data.toList)) w.data.toList ((Lib.join (w.data.toList :: ws.map (·.data.toList)) [32]).count 32) h' (count_words _ _ h')
    exact this

theorem progW_ne {nf : Nat} {par loc : Nat → Int} {d : Nat} {body : Nat → SL} (h : 1 ≤ nf) : progW nf par loc d body ≠ [] := by
  obtain ⟨m, rfl⟩ : ∃ m, nf = m + 1 := ⟨nf - 1, by omega⟩
  unfold progW funWs
  rw [catTo]
  simp

/-- The text of a right program falls apart into its words. -/
theorem wordsOf_prog {nf : Nat} {par loc : Nat → Int} {d : Nat} {body : Nat → SL} (h : progErr nf par loc d body = 0) : wordsOf (bs (textL (progW nf par loc d body))) = progW nf par loc d body :=
  wordsOf_text (progW_ne (prog_zero h).1) (progW_plain h)

theorem text_inj {nf ng : Nat} {p1 l1 p2 l2 : Nat → Int} {d : Nat} {B C : Nat → SL} (he : progErr nf p1 l1 d B = 0) (hg : progErr ng p2 l2 d C = 0) (h : textL (progW nf p1 l1 d B) = textL (progW ng p2 l2 d C)) : progW nf p1 l1 d B = progW ng p2 l2 d C := by
  rw [← wordsOf_prog he, ← wordsOf_prog hg, h]

end Go.Proofs.YtbmenihakkogkabGreatDoor
