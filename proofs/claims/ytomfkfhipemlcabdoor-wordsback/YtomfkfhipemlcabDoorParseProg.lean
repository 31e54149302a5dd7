/- Parse, by the program: the program that the words read as, if Print says that very text of it. -/
import Derived.Test.YtomfkfhipemlcabDoorRdRead
import Derived.Test.YtomfkfhipemlcabDoorPrintProg
import Derived.Test.YtomfkfhipemlcabDoorOpenSrc
namespace Go.Proofs.YtomfkfhipemlcabDoor
open Go.RowKit Go.Maps

theorem split_small (sep : ByteArray) : ∀ (k : Nat) (s : ByteArray), ∀ x ∈ Lib.splitB sep 0 k s, x.size ≤ s.size
  | 0, s, x, hx => by
    rw [Lib.splitB_zero, List.mem_singleton] at hx
    subst hx; exact Nat.le_refl _
  | k + 1, s, x, hx => by
    unfold Lib.splitB at hx
    split at hx
    · rw [List.mem_singleton] at hx; subst hx; exact Nat.le_refl _
    · rw [List.mem_cons] at hx
      rcases hx with rfl | hx
      · rw [ByteArray.size_extract]; omega
      · have := split_small sep k _ x hx
        rw [ByteArray.size_extract] at this
        omega

theorem wordsOf_len (s : ByteArray) : (wordsOf s).length = Lib.countB s (bs [32]) + 1 := Lib.splitB_all (bs [32]) (Nat.le_refl _) 0 _ s rfl
theorem wordsOf_max (s : ByteArray) : (wordsOf s).length ≤ s.size + 1 := by
  rw [wordsOf_len]
  have := Lib.countB_le (bs [32]) (Nat.le_refl _) s.size s (Nat.le_refl _)
  omega
theorem wordsOf_small (s : ByteArray) : ∀ x ∈ wordsOf s, x.size ≤ s.size := split_small (bs [32]) _ s

/-- What the words of a text read as: its error, its text. -/
def rdErr (D : Nat) (s : ByteArray) : Int := progErr (rdN (wordsOf s)) (rdP (wordsOf s)) (rdL (wordsOf s)) D (rdB (wordsOf s))
def rdText (D : Nat) (s : ByteArray) : Wd := bs (textL (progW (rdN (wordsOf s)) (rdP (wordsOf s)) (rdL (wordsOf s)) D (rdB (wordsOf s))))
/-- Is a text the text of what it reads as? -/
def rdGood (D : Nat) (s : ByteArray) : Prop := rdErr D s = 0 ∧ rdText D s = s

set_option maxHeartbeats 1000000 in
theorem parse_long (s : ByteArray) (hs : 60000 < s.size) (w : World) : Calls Tryd.prog 7 #[.string s] w fun e w' => e = .returned (.tuple #[.slice none 0 0, .int .i64 2]) ∧ w' = w := by
  have hi : (60000 : Int) < (s.size : Int) := by omega
  clear hs
  go_enter Tryd.func7, Tryd.ntmps7
  go_wp2
  go_ret2
  exact ⟨rfl, rfl⟩

/-- What Parse leaves of a text that is one. -/
def Parsed (D : Nat) (s : ByteArray) (w : World) (v : Value) : Prop :=
  ∃ bv, FunsAt w.heap.size w v (rdN (wordsOf s)) (rdP (wordsOf s)) (rdL (wordsOf s)) bv ∧ ∀ i, i < rdN (wordsOf s) → StmtsAt w.heap.size w D (bv i) (rdB (wordsOf s) i)

theorem split_run (N : Nat) (s : ByteArray) (hs : s.size ≤ 60000) (w : World) (he : Env N w) :
    Calls Tryd.prog 14 #[.string s, .string (bs [32])] w fun e w' => e = .returned (.slice (some ⟨w.heap.size, 0, none⟩) (wordsOf s).length (wordsOf s).length) ∧ w' = w.alloc (.cells ((wordsOf s).map Value.string).toArray 9) := by
  obtain ⟨m, hm⟩ := he.max
  rw [wordsOf_len]
  exact Tryd.strings_Split s (bs [32]) m w (by omega) hm (Nat.le_refl _)

set_option maxHeartbeats 4000000 in
theorem parse_short (N D : Nat) (s : ByteArray) (hs : s.size ≤ 60000) (hD : (wordsOf s).length + 2 ≤ D) (w : World) (hN : N ≤ w.heap.size) (he : Env N w) :
    Calls Tryd.prog 7 #[.string s] w fun e w' => ((rdGood D s ∧ ∃ v, e = .returned (.tuple #[v, .int .i64 0]) ∧ Parsed D s w' v) ∨ (¬ rdGood D s ∧ e = .returned (.tuple #[.slice none 0 0, .int .i64 1]))) ∧ Below w.heap.size w w' := by
  have hal := below_alloc w (.cells ((wordsOf s).map Value.string).toArray 9)
  have hmax := wordsOf_max s
  have HSp := split_run N s hs w he
  have HRd := read N (w.alloc (.cells ((wordsOf s).map Value.string).toArray 9)) (Nat.le_trans hN hal.size) (he.below (hal.mono hN)) w.heap.size 0 (wordsOf s).length (wordsOf s) (fun y hy => Nat.le_trans (wordsOf_small s y hy) (by omega)) (by omega) (Nat.le_refl _) (by simp) (fun j y hy => by
    rw [Nat.zero_add, World.cell?_alloc_new]
    rw [List.getElem?_toArray, List.getElem?_map, hy]; rfl) (wordsOf s).length rfl
  have HS2 : Hid (Calls Tryd.prog 14 #[.string s, .string (bs [32])] w fun e w' => e = .returned (.slice (some ⟨w.heap.size, 0, none⟩) (wordsOf s).length (wordsOf s).length) ∧ w' = w.alloc (.cells ((wordsOf s).map Value.string).toArray 9)) := HSp
  have HR2 : Hid (Calls Tryd.prog 13 #[.slice (some ⟨w.heap.size, 0, none⟩) (wordsOf s).length (wordsOf s).length] (w.alloc (.cells ((wordsOf s).map Value.string).toArray 9)) fun e w' => ∃ v bv, e = .returned v ∧ Hid (FunsAt w'.heap.size w' v (rdN (wordsOf s)) (rdP (wordsOf s)) (rdL (wordsOf s)) bv) ∧ Hid (∀ i, i < rdN (wordsOf s) → StmtsAt w'.heap.size w' D (bv i) (rdB (wordsOf s) i)) ∧ Below w.heap.size w w') := by
    refine HRd.mono ?_
    rintro e w' ⟨v, bv, rfl, h1, h2, hb⟩
    exact ⟨v, bv, rfl, h1, (fun i hi => (h2.out i hi).le hD), hal.trans (hb.mono hal.size)⟩
  have hsi : ¬ (60000 : Int) < (s.size : Int) := by omega
  have HPr : Hid (∀ w1 v bv, Below w.heap.size w w1 → FunsAt w1.heap.size w1 v (rdN (wordsOf s)) (rdP (wordsOf s)) (rdL (wordsOf s)) bv → (∀ i, i < rdN (wordsOf s) → StmtsAt w1.heap.size w1 D (bv i) (rdB (wordsOf s) i)) →
      Calls Tryd.prog 4 #[v] w1 fun e w' => e = .returned (.tuple #[.string (printT (rdN (wordsOf s)) (rdP (wordsOf s)) (rdL (wordsOf s)) D (rdB (wordsOf s))), .int .i64 (rdErr D s)]) ∧ Below w1.heap.size w1 w') := fun w1 v bv hb h1 h2 =>
    print w1.heap.size v _ _ _ bv _ _ w1 (Nat.le_refl _) ((he.below (hb.mono hN)).up (Nat.le_trans hN hb.size)) h1 h2
  clear HSp HRd hal hmax he hs hD
  by_cases hp : rdErr D s = 0
  · have hT : printT (rdN (wordsOf s)) (rdP (wordsOf s)) (rdL (wordsOf s)) D (rdB (wordsOf s)) = rdText D s := by
      unfold printT rdText; exact if_pos hp
    rw [hT, hp] at HPr
    by_cases ht : rdText D s = s
    · have HG : Hid (rdGood D s) := ⟨hp, ht⟩
      rw [ht] at HPr
      have hq : (s.toList == s.toList) = true := by simp
      clear hT hp ht
      go_enter Tryd.func7, Tryd.ntmps7
      go_wp2_with (first
        | (go_at_call 14; refine HS2.out.mono ?_; rintro e w1 ⟨rfl, h1⟩; rw [h1]; clear h1)
        | (go_at_call 13; refine HR2.out.mono ?_; rintro e w2 ⟨v, bv, rfl, F2, S2, b2⟩)
        | (go_at_call 4; refine (HPr.out w2 v bv b2 F2.out S2.out).mono ?_; rintro e w3 ⟨rfl, b3⟩))
      go_ret2
      have hsz := b3.size
      exact ⟨Or.inl ⟨HG.out, _, rfl, bv, (F2.out.below b3).up hsz, fun i hi => ((S2.out i hi).below b3).up hsz⟩, b2.trans (b3.mono b2.size)⟩
    · have HG : Hid (¬ rdGood D s) := fun h => ht h.2
      have hq : ((rdText D s).toList == s.toList) = false := by rw [strEq]; simp [ht]
      generalize rdText D s = tx at *
      clear hT hp ht
      go_enter Tryd.func7, Tryd.ntmps7
      go_wp2_with (first
        | (go_at_call 14; refine HS2.out.mono ?_; rintro e w1 ⟨rfl, h1⟩; rw [h1]; clear h1)
        | (go_at_call 13; refine HR2.out.mono ?_; rintro e w2 ⟨v, bv, rfl, F2, S2, b2⟩)
        | (go_at_call 4; refine (HPr.out w2 v bv b2 F2.out S2.out).mono ?_; rintro e w3 ⟨rfl, b3⟩))
      go_ret2
      exact ⟨Or.inr ⟨HG.out, rfl⟩, b2.trans (b3.mono b2.size)⟩
  · have HG : Hid (¬ rdGood D s) := fun h => hp h.1
    have hpb : (rdErr D s != 0) = true := by simp [hp]
    generalize rdErr D s = er at *
    generalize printT (rdN (wordsOf s)) (rdP (wordsOf s)) (rdL (wordsOf s)) D (rdB (wordsOf s)) = tx at *
    clear hp
    go_enter Tryd.func7, Tryd.ntmps7
    go_wp2_with (first
      | (go_at_call 14; refine HS2.out.mono ?_; rintro e w1 ⟨rfl, h1⟩; rw [h1]; clear h1)
      | (go_at_call 13; refine HR2.out.mono ?_; rintro e w2 ⟨v, bv, rfl, F2, S2, b2⟩)
      | (go_at_call 4; refine (HPr.out w2 v bv b2 F2.out S2.out).mono ?_; rintro e w3 ⟨rfl, b3⟩))
    go_ret2
    exact ⟨Or.inr ⟨HG.out, rfl⟩, b2.trans (b3.mono b2.size)⟩

end Go.Proofs.YtomfkfhipemlcabDoor
