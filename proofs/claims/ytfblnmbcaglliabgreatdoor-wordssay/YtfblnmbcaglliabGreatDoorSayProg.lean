/- WordsSay, called on any program and any text, is true. -/
import Derived.Test.YtfblnmbcaglliabGreatDoorSayMath
import Derived.Test.YtfblnmbcaglliabGreatDoorWritten
import Derived.Test.YtfblnmbcaglliabGreatDoorQRead
import Derived.Test.YtfblnmbcaglliabGreatDoorRefSame2
namespace Go.Proofs.YtfblnmbcaglliabGreatDoor
open Go.RowKit Go.Maps

/-- What is known ahead of the walk. -/
structure AheadS (N D : Nat) (w : World) (f : Value) (nf : Nat) (par loc : Nat → Int) (bv : Nat → Value) (B : Nat → SL) (s : Wd) : Prop where
  low : N ≤ w.heap.size
  big : 70000 ≤ D
  env : Env N w
  spc : Spc N w
  f : FunsAt w.heap.size w f nf par loc bv
  b : ∀ i, i < nf → StmtsAt w.heap.size w D (bv i) (B i)
  k : ∀ i, i < nf → kindsFit D (B i)

section
variable {N D : Nat} {w : World} {f : Value} {nf : Nat} {par loc : Nat → Int} {bv : Nat → Value} {B : Nat → SL} {s : Wd}
theorem AheadS.print (h : AheadS N D w f nf par loc bv B s) : Hid (Calls Tryz.prog 5 #[f] w fun e w' => e = .returned (.tuple #[.string (printT nf par loc D B), .int .i64 (progErr nf par loc D B)]) ∧ Below w.heap.size w w') :=
  Go.Proofs.YtfblnmbcaglliabGreatDoor.print w.heap.size f nf par loc bv D B w (Nat.le_refl _) (h.env.up h.low) h.f h.b
theorem AheadS.check (h : AheadS N D w f nf par loc bv B s) : Hid (∀ w1, Below w.heap.size w w1 → Calls Tryz.prog 7 #[f] w1 fun e w' => e = .returned (.int .i64 (progErr nf par loc D B)) ∧ Below w1.heap.size w1 w') := fun w1 hb =>
  refCheck w.heap.size f nf par loc bv D B w1 hb.size (h.f.below hb) (fun i hi => (h.b i hi).below hb) h.k
theorem AheadS.text (h : AheadS N D w f nf par loc bv B s) (hp : progErr nf par loc D B = 0) : Hid (∀ w1, Below w.heap.size w w1 → Calls Tryz.prog 8 #[f] w1 fun e w' => e = .returned (.string (printT nf par loc D B)) ∧ Below w1.heap.size w1 w') := fun w1 hb => by
  have := sourceText w.heap.size f nf par loc bv D B w1 hb.size ((h.env.up h.low).below hb) ((h.spc.up h.low).below hb) (h.f.below hb) (fun i hi => (h.b i hi).below hb) hp
  unfold printT
  rw [if_pos hp]
  exact this
theorem AheadS.wrote (h : AheadS N D w f nf par loc bv B s) : Hid (∀ w1, Below w.heap.size w w1 → Calls Tryz.prog 9 #[] w1 fun e w' => e = .returned (.bool true) ∧ Below w1.heap.size w1 w') := fun w1 hb =>
  written N w1 (Nat.le_trans h.low hb.size) (h.env.below (hb.mono h.low))
end

/-- What both say of a short text: the error, and that the programs are alike. -/
def PairAt (D : Nat) (s : Wd) (w : World) (x : Value) (er : Int) : Prop := (rdGood D s ∧ er = 0 ∧ Parsed D s w x) ∨ (¬ rdGood D s ∧ er = 1 ∧ x = .slice none 0 0)

theorem PairAt.below {D : Nat} {s : Wd} {w w' : World} {x : Value} {er : Int} (h : PairAt D s w x er) (hb : Below w.heap.size w w') : PairAt D s w' x er := by
  rcases h with ⟨h1, h2, bv, h3, h4⟩ | h
  · exact Or.inl ⟨h1, h2, bv, (h3.below hb).up hb.size, fun i hi => ((h4 i hi).below hb).up hb.size⟩
  · exact Or.inr h

/-- Parse of a short text. -/
theorem parse_pair (N D : Nat) (hD : 70000 ≤ D) (s : Wd) (hs : s.size ≤ 60000) (w : World) (hN : N ≤ w.heap.size) (he : Env N w) :
    Calls Tryz.prog 6 #[.string s] w fun e w' => ∃ a n c er, e = .returned (.tuple #[.slice a n c, .int .i64 er]) ∧ Hid (PairAt D s w' (.slice a n c) er) ∧ Below w.heap.size w w' := by
  refine (parse_short N D s hs (by have := wordsOf_max s; omega) w hN he).mono ?_
  rintro e w' ⟨⟨hg, v, rfl, hp⟩ | ⟨hb, rfl⟩, hbe⟩
  · obtain ⟨bv, hf, hst⟩ := hp
    obtain ⟨a, c, rfl, _⟩ := hf.shape
    exact ⟨a, _, c, 0, rfl, Or.inl ⟨hg, rfl, bv, hf, hst⟩, hbe⟩
  · exact ⟨none, 0, 0, 1, rfl, Or.inr ⟨hb, rfl, rfl⟩, hbe⟩

/-- SourceRead of it, and that the two are alike. -/
theorem read_pair (N D : Nat) (hD : 70000 ≤ D) (s : Wd) (hs : s.size ≤ 60000) (w : World) (hN : N ≤ w.heap.size) (he : Env N w) (hsp : Spc N w) (x : Value) (er : Int) (h : PairAt D s w x er) :
    Calls Tryz.prog 10 #[.string s] w fun e w' => ∃ a n c, e = .returned (.tuple #[.slice a n c, .int .i64 er]) ∧ Hid (∀ w1, Below w'.heap.size w' w1 → Calls Tryz.prog 11 #[x, .slice a n c] w1 fun e w2 => e = .returned (.bool true) ∧ Below w1.heap.size w1 w2) ∧ Below w.heap.size w w' := by
  have hD2 : (wordsOf s).length + 2 ≤ D := by have := wordsOf_max s; omega
  refine (sourceRead N D s hs (by omega) w hN he hsp).mono ?_
  rintro e w' ⟨⟨hq, v, rfl, hv⟩ | ⟨hq, rfl⟩, hbe⟩
  · have hv := hv.out
    rcases h with ⟨hr, rfl, hx⟩ | ⟨hr, _, _⟩
    · obtain ⟨bx, fx, sx⟩ := hx
      obtain ⟨bq, fq, sq⟩ := hv
      obtain ⟨a, c, rfl, _⟩ := fq.shape
      refine ⟨a, _, c, rfl, fun w1 hb1 => ?_, hbe⟩
      have hb2 : Below w.heap.size w w1 := hbe.trans (hb1.mono hbe.size)
      have k := refSameSource w1.heap.size D x _ _ _ _ _ _ _ bx bq _ _ w1 (Nat.le_refl _) ((fx.below hb2).up hb2.size) ((fq.below hb1).up hb1.size) (fun i hi => ((sx i hi).below hb2).up hb2.size) (fun i hi => ((sq i hi).below hb1).up hb1.size)
      rw [both_same hr hq.out] at k
      exact k
    · exact absurd (rq_rd (by omega) hq.out) hr
  · rcases h with ⟨hr, _, _⟩ | ⟨_, rfl, rfl⟩
    · exact absurd (rd_rq hD2 (by omega) hr) hq.out
    · refine ⟨none, 0, 0, rfl, fun w1 hb1 => ?_, hbe⟩
      have f0 : FunsAt w1.heap.size w1 (.slice none 0 0) 0 (fun _ => 0) (fun _ => 0) (fun _ => .slice none 0 0) := ⟨none, 0, rfl, by omega, Or.inl rfl⟩
      have k := refSameSource w1.heap.size D _ _ 0 0 _ _ _ _ _ _ (fun _ => noSL) (fun _ => noSL) w1 (Nat.le_refl _) f0 f0 (fun i hi => absurd hi (Nat.not_lt_zero _)) (fun i hi => absurd hi (Nat.not_lt_zero _))
      exact k

set_option maxHeartbeats 4000000 in
theorem say_long (N D : Nat) (w : World) (f : Value) (nf : Nat) (par loc : Nat → Int) (bv : Nat → Value) (B : Nat → SL) (s : Wd) (h : AheadS N D w f nf par loc bv B s) (hs : 60000 < s.size) :
    Calls Tryz.prog 3 #[f, .string s] w fun e w' => e = .returned (.bool true) ∧ Below w.heap.size w w' := by
  have H1 := h.print
  have HC := h.check
  have HW := h.wrote
  have HP : Hid (∀ w1, Calls Tryz.prog 6 #[.string s] w1 fun e w' => e = .returned (.tuple #[.slice none 0 0, .int .i64 2]) ∧ w' = w1) := fun w1 => parse_long s hs w1
  have hsi : (60000 : Int) < (s.size : Int) := by omega
  by_cases hp : progErr nf par loc D B = 0
  · have HT := h.text hp
    rw [hp] at H1 HC
    have hss : ((printT nf par loc D B).toList == (printT nf par loc D B).toList) = true := by simp
    generalize printT nf par loc D B = t1 at *
    clear h hp hs
    go_enter Tryz.func3, Tryz.ntmps3
    go_wp2_with (first
      | (go_at_call 5; refine H1.out.mono ?_; rintro e w1 ⟨rfl, b1⟩)
      | (go_at_call 6; refine (HP.out _).mono ?_; rintro e w2 ⟨rfl, h2⟩; rw [h2]; clear h2)
      | (go_at_call 7; refine (HC.out _ b1).mono ?_; rintro e w3 ⟨rfl, b3⟩; have c3 : Below w.heap.size w w3 := b1.trans (b3.mono b1.size))
      | (go_at_call 8; refine (HT.out _ c3).mono ?_; rintro e w4 ⟨rfl, b4⟩; have c4 : Below w.heap.size w w4 := c3.trans (b4.mono c3.size))
      | (go_at_call 9; refine (HW.out _ c4).mono ?_; rintro e w5 ⟨rfl, b5⟩; have c5 : Below w.heap.size w w5 := c4.trans (b5.mono c4.size)))
    go_ret
    exact ⟨rfl, c5⟩
  · have hpT : printT nf par loc D B = bs [] := by unfold printT; rw [if_neg hp]
    rw [hpT] at H1
    have hem : (ByteArray.toList (bs [])).isEmpty = true := by rw [ByteArray.toList_eq]; rfl
    have hpb : (progErr nf par loc D B == 0) = false := by simp [hp]
    have hpe : (progErr nf par loc D B != progErr nf par loc D B) = false := by simp
    generalize progErr nf par loc D B = er at *
    clear h hp hs hpT
    go_enter Tryz.func3, Tryz.ntmps3
    go_wp2_with (first
      | (go_at_call 5; refine H1.out.mono ?_; rintro e w1 ⟨rfl, b1⟩)
      | (go_at_call 6; refine (HP.out _).mono ?_; rintro e w2 ⟨rfl, h2⟩; rw [h2]; clear h2)
      | (go_at_call 7; refine (HC.out _ b1).mono ?_; rintro e w3 ⟨rfl, b3⟩; have c3 : Below w.heap.size w w3 := b1.trans (b3.mono b1.size))
      | (go_at_call 9; refine (HW.out _ c3).mono ?_; rintro e w5 ⟨rfl, b5⟩; have c5 : Below w.heap.size w w5 := c3.trans (b5.mono c3.size)))
    go_ret
    exact ⟨rfl, c5⟩

set_option maxHeartbeats 4000000 in
theorem say_short (N D : Nat) (w : World) (f : Value) (nf : Nat) (par loc : Nat → Int) (bv : Nat → Value) (B : Nat → SL) (s : Wd) (h : AheadS N D w f nf par loc bv B s) (hs : s.size ≤ 60000) :
    Calls Tryz.prog 3 #[f, .string s] w fun e w' => e = .returned (.bool true) ∧ Below w.heap.size w w' := by
  have H1 := h.print
  have HC := h.check
  have HW := h.wrote
  have HP : Hid (∀ w1, Below w.heap.size w w1 → Calls Tryz.prog 6 #[.string s] w1 fun e w' => ∃ a n c er, e = .returned (.tuple #[.slice a n c, .int .i64 er]) ∧ Hid (PairAt D s w' (.slice a n c) er) ∧ Below w1.heap.size w1 w') := fun w1 hb =>
    parse_pair N D h.big s hs w1 (Nat.le_trans h.low hb.size) (h.env.below (hb.mono h.low))
  have HR : Hid (∀ w1 x er, Below w.heap.size w w1 → PairAt D s w1 x er → Calls Tryz.prog 10 #[.string s] w1 fun e w' => ∃ a n c, e = .returned (.tuple #[.slice a n c, .int .i64 er]) ∧ Hid (∀ w2, Below w'.heap.size w' w2 → Calls Tryz.prog 11 #[x, .slice a n c] w2 fun e w3 => e = .returned (.bool true) ∧ Below w2.heap.size w2 w3) ∧ Below w1.heap.size w1 w') := fun w1 x er hb hx =>
    read_pair N D h.big s hs w1 (Nat.le_trans h.low hb.size) (h.env.below (hb.mono h.low)) (h.spc.below (hb.mono h.low)) x er hx
  have hsi : ¬ (60000 : Int) < (s.size : Int) := by omega
  by_cases hp : progErr nf par loc D B = 0
  · have HT := h.text hp
    rw [hp] at H1 HC
    have hss : ((printT nf par loc D B).toList == (printT nf par loc D B).toList) = true := by simp
    generalize printT nf par loc D B = t1 at *
    clear h hp hs
    go_enter Tryz.func3, Tryz.ntmps3
    go_wp2_with (first
      | (go_at_call 5; refine H1.out.mono ?_; rintro e w1 ⟨rfl, b1⟩)
      | (go_at_call 6; refine (HP.out _ b1).mono ?_; rintro e w2 ⟨xa, xn, xc, er, rfl, P2, b2⟩; have c2 : Below w.heap.size w w2 := b1.trans (b2.mono b1.size); have hee : (er == er) = true := (by simp))
      | (go_at_call 7; refine (HC.out _ c2).mono ?_; rintro e w3 ⟨rfl, b3⟩; have c3 : Below w.heap.size w w3 := c2.trans (b3.mono c2.size); have P3 := P2.out.below b3)
      | (go_at_call 8; refine (HT.out _ c3).mono ?_; rintro e w4 ⟨rfl, b4⟩; have c4 : Below w.heap.size w w4 := c3.trans (b4.mono c3.size); have P4 := P3.below b4)
      | (go_at_call 9; refine (HW.out _ c4).mono ?_; rintro e w5 ⟨rfl, b5⟩; have c5 : Below w.heap.size w w5 := c4.trans (b5.mono c4.size); have P5 := P4.below b5)
      | (go_at_call 10; refine (HR.out _ _ er c5 P5).mono ?_; rintro e w6 ⟨ya, yn, yc, rfl, S6, b6⟩; have c6 : Below w.heap.size w w6 := c5.trans (b6.mono c5.size))
      | (go_at_call 11; refine (S6.out _ (Below.refl _ _)).mono ?_; rintro e w7 ⟨rfl, b7⟩; have c7 : Below w.heap.size w w7 := c6.trans (b7.mono c6.size)))
    go_ret
    exact ⟨rfl, c7⟩
  · have hpT : printT nf par loc D B = bs [] := by unfold printT; rw [if_neg hp]
    rw [hpT] at H1
    have hem : (ByteArray.toList (bs [])).isEmpty = true := by rw [ByteArray.toList_eq]; rfl
    have hpb : (progErr nf par loc D B == 0) = false := by simp [hp]
    have hpe : (progErr nf par loc D B != progErr nf par loc D B) = false := by simp
    generalize progErr nf par loc D B = ef at *
    clear h hp hs hpT
    go_enter Tryz.func3, Tryz.ntmps3
    go_wp2_with (first
      | (go_at_call 5; refine H1.out.mono ?_; rintro e w1 ⟨rfl, b1⟩)
      | (go_at_call 6; refine (HP.out _ b1).mono ?_; rintro e w2 ⟨xa, xn, xc, er, rfl, P2, b2⟩; have c2 : Below w.heap.size w w2 := b1.trans (b2.mono b1.size); have hee : (er == er) = true := (by simp))
      | (go_at_call 7; refine (HC.out _ c2).mono ?_; rintro e w3 ⟨rfl, b3⟩; have c3 : Below w.heap.size w w3 := c2.trans (b3.mono c2.size); have P3 := P2.out.below b3)
      | (go_at_call 9; refine (HW.out _ c3).mono ?_; rintro e w5 ⟨rfl, b5⟩; have c5 : Below w.heap.size w w5 := c3.trans (b5.mono c3.size); have P5 := P3.below b5)
      | (go_at_call 10; refine (HR.out _ _ er c5 P5).mono ?_; rintro e w6 ⟨ya, yn, yc, rfl, S6, b6⟩; have c6 : Below w.heap.size w w6 := c5.trans (b6.mono c5.size))
      | (go_at_call 11; refine (S6.out _ (Below.refl _ _)).mono ?_; rintro e w7 ⟨rfl, b7⟩; have c7 : Below w.heap.size w w7 := c6.trans (b7.mono c6.size)))
    go_ret
    exact ⟨rfl, c7⟩

/-- WordsSay called. -/
theorem wordsSay (N D : Nat) (w : World) (f : Value) (nf : Nat) (par loc : Nat → Int) (bv : Nat → Value) (B : Nat → SL) (s : Wd) (h : AheadS N D w f nf par loc bv B s) :
    Calls Tryz.prog 3 #[f, .string s] w fun e w' => e = .returned (.bool true) ∧ Below w.heap.size w w' := by
  by_cases hs : s.size ≤ 60000
  · exact say_short N D w f nf par loc bv B s h hs
  · exact say_long N D w f nf par loc bv B s h (by omega)

end Go.Proofs.YtfblnmbcaglliabGreatDoor
