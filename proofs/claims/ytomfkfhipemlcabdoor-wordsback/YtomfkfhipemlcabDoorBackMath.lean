/- What is printed is read; unlike programs have unlike texts: the plain reckoning behind the law. No Go in it. -/
import Derived.Test.YtomfkfhipemlcabDoorParseProg
namespace Go.Proofs.YtomfkfhipemlcabDoor
open Go.RowKit

theorem proper_none : ∀ d, proper d noSL
  | 0 => rfl
  | _ + 1 => fun _ hi => absurd hi (Nat.not_lt_zero _)

theorem loop_proper (nf : Nat) (par : Nat → Int) : ∀ (u : Nat) (ws : List Wd), proper (u + 1) (mkT (loopR nf par u ws).1)
  | 0, ws => fun i hi => absurd hi (Nat.not_lt_zero _)
  | u + 1, ws => by
    intro i hi
    rw [mkT_a, mkT_b]
    rw [mkT_len] at hi
    by_cases c : kindOf (hdW ws) = 0
    · rw [loopR, if_pos c] at hi
      exact absurd hi (Nat.not_lt_zero _)
    · rw [loopR_go c] at hi ⊢
      have hb : ∀ us, proper (u + 1) (blkR nf par u us).1 := fun us => loop_proper nf par u us.tail
      cases i with
      | zero =>
        show proper (u + 1) (stR nf par (blkR nf par u) (kindOf (hdW ws)) ws.tail).a ∧ proper (u + 1) (stR nf par (blkR nf par u) (kindOf (hdW ws)) ws.tail).b
        constructor
        · show proper (u + 1) (st4 nf par (blkR nf par u) (kindOf (hdW ws)) ws.tail).1
          unfold st4; split
          · exact hb _
          · exact proper_none _
        · show proper (u + 1) (st5 nf par (blkR nf par u) (kindOf (hdW ws)) ws.tail).1
          unfold st5; split
          · exact hb _
          · exact proper_none _
      | succ i =>
        have h := loop_proper nf par u (st5 nf par (blkR nf par u) (kindOf (hdW ws)) ws.tail).2 i (by
          rw [mkT_len]
          simpa using hi)
        rw [mkT_a, mkT_b] at h
        exact ⟨proper_succ h.1, proper_succ h.2⟩

theorem rdB_proper (ws : List Wd) (i : Nat) : proper (ws.length + 2) (rdB ws i) := loop_proper _ _ _ _

theorem eqP_iff {d n1 n2 : Nat} {p1 l1 p2 l2 : Nat → Int} {B C : Nat → SL} : eqP d n1 n2 p1 l1 p2 l2 B C = true ↔ n1 = n2 ∧ ∀ i, i < n1 → p1 i = p2 i ∧ l1 i = l2 i ∧ eqS d (B i) (C i) = true := by
  unfold eqP eqF
  rw [Bool.and_eq_true, decide_eq_true_iff, allTo_iff]
  constructor
  · rintro ⟨h1, h2⟩
    refine ⟨h1, fun i hi => ?_⟩
    have := h2 i hi
    simp only [Bool.and_eq_true, decide_eq_true_iff] at this
    exact ⟨this.1.1, this.1.2, this.2⟩
  · rintro ⟨h1, h2⟩
    refine ⟨h1, fun i hi => ?_⟩
    obtain ⟨a, b, c⟩ := h2 i hi
    simp only [Bool.and_eq_true, decide_eq_true_iff]
    exact ⟨⟨a, b⟩, c⟩

/-- Texts are alike just if the programs are. -/
theorem back_same {M nf ng : Nat} {p1 l1 p2 l2 : Nat → Int} {B C : Nat → SL} (he : progErr nf p1 l1 M B = 0) (hg : progErr ng p2 l2 M C = 0) :
    ((printT nf p1 l1 M B).toList == (printT ng p2 l2 M C).toList) = eqP M nf ng p1 l1 p2 l2 B C := by
  unfold printT
  rw [if_pos he, if_pos hg, strEq]
  by_cases h : eqP M nf ng p1 l1 p2 l2 B C = true
  · rw [h]
    obtain ⟨rfl, h2⟩ := eqP_iff.1 h
    rw [progW_congr h2, decide_eq_true rfl]
  · have h' : eqP M nf ng p1 l1 p2 l2 B C = false := by simpa using h
    rw [h', decide_eq_false]
    intro e
    exact h (eqP_iff.2 (progW_inj he hg (text_inj he hg (bs_inj e))))

/-- What is printed is read. -/
theorem back_read {M nf : Nat} {par loc : Nat → Int} {body : Nat → SL} (he : progErr nf par loc M body = 0) (hp : ∀ i, i < nf → proper M (body i)) (hM : (progW nf par loc M body).length + 2 ≤ M) :
    rdGood M (printT nf par loc M body) ∧ (wordsOf (printT nf par loc M body)).length + 2 ≤ M ∧ eqP M (rdN (wordsOf (printT nf par loc M body))) nf (rdP (wordsOf (printT nf par loc M body))) (rdL (wordsOf (printT nf par loc M body))) par loc (rdB (wordsOf (printT nf par loc M body))) body = true := by
  have eT : printT nf par loc M body = bs (textL (progW nf par loc M body)) := if_pos he
  rw [eT]
  have ew := wordsOf_prog he
  obtain ⟨r1, r2⟩ := read_text he
  have hpr : ∀ i, proper M (rdB (progW nf par loc M body) i) := fun i => proper_le (rdB_proper _ i) hM
  unfold rdGood rdErr rdText
  rw [ew, r1]
  have hs1 : ∀ i, i < nf → par i = rdP (progW nf par loc M body) i ∧ loc i = rdL (progW nf par loc M body) i ∧ eqS (M + 1) (body i) (rdB (progW nf par loc M body) i) = true := fun i hi => by
    obtain ⟨a, b, c⟩ := r2 i hi
    exact ⟨a.symm, b.symm, by rw [eqS_succ (hp i hi) (hpr i)]; exact c⟩
  have hs0 : ∀ i, i < nf → rdP (progW nf par loc M body) i = par i ∧ rdL (progW nf par loc M body) i = loc i ∧ eqS M (rdB (progW nf par loc M body) i) (body i) = true := fun i hi => by
    obtain ⟨a, b, c⟩ := r2 i hi
    exact ⟨a, b, eqS_symm c⟩
  exact ⟨⟨prog_congr hs1 he, by rw [progW_congr hs0]⟩, hM, eqP_iff.2 ⟨rfl, hs0⟩⟩

theorem size_small {M nf : Nat} {par loc : Nat → Int} {body : Nat → SL} (he : progErr nf par loc M body = 0) : ∀ i, i < nf → size M (body i) ≤ 4000000 := fun i hi => by
  have := (bodyErr_errs ((prog_zero he).2.2.2 i hi)).1.2
  omega

theorem progErr_words {M nf : Nat} {par loc : Nat → Int} {body : Nat → SL} (he : progErr nf par loc M body = 0) (hM : 9000 ≤ M) : (progW nf par loc M body).length + 2 ≤ M := by
  have := prog_len he
  omega

end Go.Proofs.YtomfkfhipemlcabDoor
