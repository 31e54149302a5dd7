/- Both readers read the same texts as programs, and the same programs. No Go in it. -/
import Derived.Test.YtfblnmbcaglliabGreatDoorPartParse
import Derived.Test.YtfblnmbcaglliabGreatDoorQRead0
namespace Go.Proofs.YtfblnmbcaglliabGreatDoor
open Go.RowKit

theorem proper_mkT {d : Nat} {its : List It} (h : ∀ it ∈ its, proper d it.a ∧ proper d it.b) : proper (d + 1) (mkT its) := by
  intro i hi
  have hi : i < its.length := hi
  have := h its[i] (List.getElem_mem hi)
  rw [mkT_a, mkT_b]
  simpa [List.getD, hi] using this

theorem proper_loopQ (nf : Nat) (par : Nat → Int) (B : Rs → SL × Rs) (d : Nat) (hB : ∀ q, proper d (B q).1) : ∀ (fu : Nat) (q : Rs), ∀ it ∈ (loopQ nf par B fu q).1, proper d it.a ∧ proper d it.b := by
  intro fu
  induction fu with
  | zero => intro q it hit; cases hit
  | succ fu ih =>
    intro q it hit
    unfold loopQ at hit
    split at hit
    · cases hit
    split at hit
    · cases hit
    split at hit
    · cases hit
    · rw [List.mem_cons] at hit
      rcases hit with rfl | hit
      · refine ⟨?_, ?_⟩
        · show proper d (q4 nf par B _ _).1
          unfold q4; split
          · exact hB _
          · exact proper_none d
        · show proper d (q5 nf par B _ _).1
          unfold q5; split
          · exact hB _
          · exact proper_none d
      · exact ih _ it hit

theorem proper_blkQ (nf : Nat) (par : Nat → Int) : ∀ (u : Nat) (q : Rs), proper u (blkQ nf par u q).1
  | 0, _ => proper_none 0
  | u + 1, q => by
    unfold blkQ
    show proper (u + 1) (if _ then _ else _)
    split
    · exact proper_mkT (proper_loopQ nf par _ u (fun q => proper_blkQ nf par u q) _ _)
    · exact proper_none _

theorem rqB_proper (ws : List Wd) (i : Nat) : proper 6 (rqB ws i) := proper_blkQ _ _ 6 _

theorem rq_of {D nf : Nat} {par loc : Nat → Int} {body : Nat → SL} {s : Wd} (he : progErr nf par loc D body = 0) (hs : bs (textL (progW nf par loc D body)) = s) (hp : ∀ i, i < nf → proper D (body i)) (hD : 6 ≤ D) : rqGood D s := by
  have ew : wordsOf s = progW nf par loc D body := by rw [← hs]; exact wordsOf_prog he
  obtain ⟨r1, rl, r2⟩ := readQ_text he
  obtain ⟨hn1, hn4, hh, _⟩ := prog_zero he
  have hpr : ∀ i, proper D (rqB (progW nf par loc D body) i) := fun i => proper_le (rqB_proper _ i) hD
  have hs1 : ∀ i, i < nf → par i = rqP (progW nf par loc D body) i ∧ loc i = rqL (progW nf par loc D body) i ∧ eqS (D + 1) (body i) (rqB (progW nf par loc D body) i) = true := fun i hi => by
    obtain ⟨a, b, c⟩ := r2 i hi
    exact ⟨a.symm, b.symm, by rw [eqS_succ (hp i hi) (hpr i)]; exact c⟩
  have hs0 : ∀ i, i < nf → rqP (progW nf par loc D body) i = par i ∧ rqL (progW nf par loc D body) i = loc i ∧ eqS D (rqB (progW nf par loc D body) i) (body i) = true := fun i hi => by
    obtain ⟨a, b, c⟩ := r2 i hi
    exact ⟨a, b, eqS_symm c⟩
  unfold rqGood
  rw [ew, r1]
  refine ⟨⟨hn1, hn4⟩, fun i hi => ?_, rl, prog_congr hs1 he, by rw [progW_congr hs0]; exact hs⟩
  rw [(r2 i hi).1]
  have := head_range (hh i hi)
  unfold parErr
  rw [if_neg (by omega)]

theorem rd_rq {D : Nat} {s : Wd} (hD : (wordsOf s).length + 2 ≤ D) (h6 : 6 ≤ D) (h : rdGood D s) : rqGood D s := by
  obtain ⟨h1, h2⟩ := h
  exact rq_of h1 h2 (fun i _ => proper_le (rdB_proper _ i) hD) h6

theorem rq_rd {D : Nat} {s : Wd} (hD : 9000 ≤ D) (h : rqGood D s) : rdGood D s := by
  obtain ⟨_, _, _, h1, h2⟩ := h
  obtain ⟨r, _, _⟩ := back_read h1 (fun i _ => proper_le (rqB_proper _ i) (by omega)) (progErr_words h1 hD)
  have e : printT (rqN (wordsOf s)) (rqP (wordsOf s)) (rqL (wordsOf s)) D (rqB (wordsOf s)) = s := by
    unfold printT; rw [if_pos h1]; exact h2
  rw [e] at r
  exact r

/-- .. and they are alike. -/
theorem both_same {D : Nat} {s : Wd} (h : rdGood D s) (k : rqGood D s) : eqP D (rdN (wordsOf s)) (rqN (wordsOf s)) (rdP (wordsOf s)) (rdL (wordsOf s)) (rqP (wordsOf s)) (rqL (wordsOf s)) (rdB (wordsOf s)) (rqB (wordsOf s)) = true := by
  obtain ⟨h1, h2⟩ := h
  obtain ⟨_, _, _, k1, k2⟩ := k
  exact eqP_iff.2 (progW_inj h1 k1 (text_inj h1 k1 (bs_inj (h2.trans k2.symm))))

end Go.Proofs.YtfblnmbcaglliabGreatDoor
