/- WordsBack, called on any programs and any text, is true. -/
import Derived.Test.YtomfkfhipemlcabDoorBackMath
import Derived.Test.YtomfkfhipemlcabDoorWritten
import Derived.Test.YtomfkfhipemlcabDoorSameProg
namespace Go.Proofs.YtomfkfhipemlcabDoor
open Go.RowKit Go.Maps

/-- Parse of any text: a program of which Print says it, or an error. -/
theorem parse_any (N M : Nat) (hM : 70000 ≤ M) (s : Wd) (w : World) (hN : N ≤ w.heap.size) (he : Env N w) :
    Calls Tryd.prog 7 #[.string s] w fun e w' => ((∃ v, e = .returned (.tuple #[v, .int .i64 0]) ∧ Hid (Parsed M s w' v) ∧ Hid (rdGood M s)) ∨ ∃ er : Int, e = .returned (.tuple #[.slice none 0 0, .int .i64 er]) ∧ (er != 0) = true) ∧ Below w.heap.size w w' := by
  by_cases hs : s.size ≤ 60000
  · refine (parse_short N M s hs (by have := wordsOf_max s; omega) w hN he).mono ?_
    rintro e w' ⟨⟨hg, v, rfl, hp⟩ | ⟨hb, rfl⟩, hbe⟩
    · exact ⟨Or.inl ⟨v, rfl, hp, hg⟩, hbe⟩
    · exact ⟨Or.inr ⟨1, rfl, rfl⟩, hbe⟩
  · refine (parse_long s (by omega) w).mono ?_
    rintro e w' ⟨rfl, rfl⟩
    exact ⟨Or.inr ⟨2, rfl, rfl⟩, Below.refl _ _⟩

/-- Two programs that lie in memory. -/
structure ProgAt (N D : Nat) (w : World) (f : Value) (nf : Nat) (par loc : Nat → Int) (body : Nat → SL) : Prop where
  lies : ∃ bv, FunsAt N w f nf par loc bv ∧ ∀ i, i < nf → StmtsAt N w D (bv i) (body i)

theorem ProgAt.below {N D : Nat} {w w' : World} {f : Value} {nf : Nat} {par loc : Nat → Int} {body : Nat → SL} (h : ProgAt N D w f nf par loc body) (hb : Below N w w') : ProgAt N D w' f nf par loc body := by
  obtain ⟨bv, hf, hs⟩ := h.lies
  exact ⟨bv, hf.below hb, fun i hi => (hs i hi).below hb⟩
theorem ProgAt.up {N M D : Nat} {w : World} {f : Value} {nf : Nat} {par loc : Nat → Int} {body : Nat → SL} (h : ProgAt N D w f nf par loc body) (hm : N ≤ M) : ProgAt M D w f nf par loc body := by
  obtain ⟨bv, hf, hs⟩ := h.lies
  exact ⟨bv, hf.up hm, fun i hi => (hs i hi).up hm⟩

theorem print_at (N D : Nat) (f : Value) (nf : Nat) (par loc : Nat → Int) (body : Nat → SL) (w : World) (hN : N ≤ w.heap.size) (he : Env N w) (h : ProgAt w.heap.size D w f nf par loc body) :
    Calls Tryd.prog 4 #[f] w fun e w' => e = .returned (.tuple #[.string (printT nf par loc D body), .int .i64 (progErr nf par loc D body)]) ∧ Below w.heap.size w w' := by
  obtain ⟨bv, hf, hs⟩ := h.lies
  exact print w.heap.size f nf par loc bv D body w (Nat.le_refl _) (he.up hN) hf hs

theorem same_at (m : Nat) (f g : Value) (n1 n2 : Nat) (p1 l1 p2 l2 : Nat → Int) (B C : Nat → SL) (w : World) (h : ProgAt w.heap.size (m + 1) w f n1 p1 l1 B) (k : ProgAt w.heap.size (m + 1) w g n2 p2 l2 C) (hsz : ∀ i, i < n1 → size (m + 1) (B i) ≤ 4000000) :
    Calls Tryd.prog 6 #[f, g] w fun e w' => e = .returned (.bool (eqP (m + 1) n1 n2 p1 l1 p2 l2 B C)) ∧ Below w.heap.size w w' := by
  obtain ⟨bv, hf, hs⟩ := h.lies
  obtain ⟨bw, kf, ks⟩ := k.lies
  exact sameProg w.heap.size m f g n1 n2 p1 l1 p2 l2 bv bw B C w (Nat.le_refl _) hf kf hs ks hsz

/-- What is known ahead of the walk. -/
structure Ahead (N m : Nat) (w : World) (f g : Value) (n1 n2 : Nat) (p1 l1 p2 l2 : Nat → Int) (B C : Nat → SL) (s : Wd) : Prop where
  low : N ≤ w.heap.size
  big : 70000 ≤ m + 1
  env : Env N w
  f : ProgAt w.heap.size (m + 1) w f n1 p1 l1 B
  g : ProgAt w.heap.size (m + 1) w g n2 p2 l2 C

section
variable {N m : Nat} {w : World} {f g : Value} {n1 n2 : Nat} {p1 l1 p2 l2 : Nat → Int} {B C : Nat → SL} {s : Wd}
theorem Ahead.print1 (h : Ahead N m w f g n1 n2 p1 l1 p2 l2 B C s) : Hid (Calls Tryd.prog 4 #[f] w fun e w' => e = .returned (.tuple #[.string (printT n1 p1 l1 (m + 1) B), .int .i64 (progErr n1 p1 l1 (m + 1) B)]) ∧ Below w.heap.size w w') := print_at N (m + 1) f n1 p1 l1 B w h.low h.env h.f
theorem Ahead.print2 (h : Ahead N m w f g n1 n2 p1 l1 p2 l2 B C s) : Hid (∀ w1, Below w.heap.size w w1 → Calls Tryd.prog 4 #[g] w1 fun e w' => e = .returned (.tuple #[.string (printT n2 p2 l2 (m + 1) C), .int .i64 (progErr n2 p2 l2 (m + 1) C)]) ∧ Below w1.heap.size w1 w') := fun w1 hb =>
  print_at N (m + 1) g n2 p2 l2 C w1 (Nat.le_trans h.low hb.size) (h.env.below (hb.mono h.low)) ((h.g.below hb).up hb.size)
theorem Ahead.wrote (h : Ahead N m w f g n1 n2 p1 l1 p2 l2 B C s) : Hid (∀ w1, Below w.heap.size w w1 → Calls Tryd.prog 5 #[] w1 fun e w' => e = .returned (.bool true) ∧ Below w1.heap.size w1 w') := fun w1 hb =>
  written N w1 (Nat.le_trans h.low hb.size) (h.env.below (hb.mono h.low))
theorem Ahead.parse (h : Ahead N m w f g n1 n2 p1 l1 p2 l2 B C s) : Hid (∀ w1, Below w.heap.size w w1 → Calls Tryd.prog 7 #[.string s] w1 fun e w' => ((∃ v, e = .returned (.tuple #[v, .int .i64 0]) ∧ Hid (Parsed (m + 1) s w' v) ∧ Hid (rdGood (m + 1) s)) ∨ ∃ er : Int, e = .returned (.tuple #[.slice none 0 0, .int .i64 er]) ∧ (er != 0) = true) ∧ Below w1.heap.size w1 w') := fun w1 hb =>
  parse_any N (m + 1) h.big s w1 (Nat.le_trans h.low hb.size) (h.env.below (hb.mono h.low))
theorem Ahead.reprint (h : Ahead N m w f g n1 n2 p1 l1 p2 l2 B C s) : Hid (∀ w1 v, Below w.heap.size w w1 → Parsed (m + 1) s w1 v → rdGood (m + 1) s → Calls Tryd.prog 4 #[v] w1 fun e w' => e = .returned (.tuple #[.string s, .int .i64 0]) ∧ Below w1.heap.size w1 w') := fun w1 v hb hp hg =>
  print_parsed N (m + 1) s hg w1 v (Nat.le_trans h.low hb.size) (h.env.below (hb.mono h.low)) hp
theorem Ahead.same (h : Ahead N m w f g n1 n2 p1 l1 p2 l2 B C s) (he : progErr n1 p1 l1 (m + 1) B = 0) : Hid (∀ w1, Below w.heap.size w w1 → Calls Tryd.prog 6 #[f, g] w1 fun e w' => e = .returned (.bool (eqP (m + 1) n1 n2 p1 l1 p2 l2 B C)) ∧ Below w1.heap.size w1 w') := fun w1 hb =>
  same_at m f g n1 n2 p1 l1 p2 l2 B C w1 ((h.f.below hb).up hb.size) ((h.g.below hb).up hb.size) (size_small he)
theorem Ahead.proper (h : Ahead N m w f g n1 n2 p1 l1 p2 l2 B C s) : ∀ i, i < n1 → proper (m + 1) (B i) := by
  obtain ⟨bv, hf, hs⟩ := h.f.lies
  exact fun i hi => (hs i hi).proper
theorem Ahead.again (h : Ahead N m w f g n1 n2 p1 l1 p2 l2 B C s) (he : progErr n1 p1 l1 (m + 1) B = 0) (hs : (printT n1 p1 l1 (m + 1) B).size ≤ 60000) : Hid (∀ w1, Below w.heap.size w w1 → Calls Tryd.prog 7 #[.string (printT n1 p1 l1 (m + 1) B)] w1 fun e w' => ∃ v, e = .returned (.tuple #[v, .int .i64 0]) ∧ Hid (Parsed (m + 1) (printT n1 p1 l1 (m + 1) B) w' v) ∧ Below w1.heap.size w1 w') := fun w1 hb => by
  obtain ⟨r1, r2, r3⟩ := back_read he h.proper (progErr_words he (by have := h.big; omega))
  exact parse_good N (m + 1) _ hs r2 r1 w1 (Nat.le_trans h.low hb.size) (h.env.below (hb.mono h.low))
theorem Ahead.alike (h : Ahead N m w f g n1 n2 p1 l1 p2 l2 B C s) (he : progErr n1 p1 l1 (m + 1) B = 0) : Hid (∀ w1 v, Below w.heap.size w w1 → Parsed (m + 1) (printT n1 p1 l1 (m + 1) B) w1 v → Calls Tryd.prog 6 #[v, f] w1 fun e w' => e = .returned (.bool true) ∧ Below w1.heap.size w1 w') := fun w1 v hb hp => by
  obtain ⟨r1, r2, r3⟩ := back_read he h.proper (progErr_words he (by have := h.big; omega))
  have k := same_at m v f _ n1 _ _ p1 l1 _ B w1 ⟨hp⟩ ((h.f.below hb).up hb.size) (size_small r1.1)
  rw [r3] at k
  exact k
end

set_option maxHeartbeats 4000000 in
theorem back_bad (N m : Nat) (w : World) (f g : Value) (n1 n2 : Nat) (p1 l1 p2 l2 : Nat → Int) (B C : Nat → SL) (s : Wd) (h : Ahead N m w f g n1 n2 p1 l1 p2 l2 B C s) (h1 : ¬ progErr n1 p1 l1 (m + 1) B = 0) :
    Calls Tryd.prog 3 #[f, g, .string s] w fun e w' => e = .returned (.bool true) ∧ Below w.heap.size w w' := by
  have H1 := h.print1
  have H2 := h.print2
  have HW := h.wrote
  have HP := h.parse
  have HRp := h.reprint
  have hss : (s.toList == s.toList) = true := by simp
  have e1 : (progErr n1 p1 l1 (m + 1) B == 0) = false := by simp [h1]
  generalize progErr n1 p1 l1 (m + 1) B = er1 at *
  generalize progErr n2 p2 l2 (m + 1) C = er2 at *
  generalize printT n1 p1 l1 (m + 1) B = t1 at *
  generalize printT n2 p2 l2 (m + 1) C = t2 at *
  clear h h1
  go_enter Tryd.func3, Tryd.ntmps3
  go_upto_region 3 with (first
    | (go_at_call 4; have _ := b1; refine (H2.out w1 b1).mono ?_; rintro e w2 ⟨rfl, b2⟩)
    | (go_at_call 4; refine H1.out.mono ?_; rintro e w1 ⟨rfl, b1⟩))
  have c2 : Below w.heap.size w w2 := b1.trans (b2.mono b1.size)
  clear b1 b2 H1 H2
  go_upto_region 9 with (first
    | (go_at_call 5; refine (HW.out w2 c2).mono ?_; rintro e w3 ⟨rfl, b3⟩; have c9 : Below w.heap.size w w3 := c2.trans (b3.mono c2.size)))
  clear HW
  go_wp2_with (first
    | (go_at_call 7; refine (HP.out _ c9).mono ?_; rintro e w10 ⟨⟨v, rfl, Pv, Gv⟩ | ⟨er, rfl, her⟩, b10⟩ <;> have c10 : Below w.heap.size w w10 := c9.trans (b10.mono c9.size))
    | (go_at_call 4; refine (HRp.out w10 v c10 Pv.out Gv.out).mono ?_; rintro e w11 ⟨rfl, b11⟩; have c11 : Below w.heap.size w w11 := c10.trans (b11.mono c10.size)))
  · go_ret
    exact ⟨rfl, c11⟩
  · go_ret
    exact ⟨rfl, c10⟩

set_option maxHeartbeats 4000000 in
theorem back_gns (N m : Nat) (w : World) (f g : Value) (n1 n2 : Nat) (p1 l1 p2 l2 : Nat → Int) (B C : Nat → SL) (s : Wd) (h : Ahead N m w f g n1 n2 p1 l1 p2 l2 B C s) (h1 : progErr n1 p1 l1 (m + 1) B = 0) (h2 : ¬ progErr n2 p2 l2 (m + 1) C = 0) (hs : (printT n1 p1 l1 (m + 1) B).size ≤ 60000) :
    Calls Tryd.prog 3 #[f, g, .string s] w fun e w' => e = .returned (.bool true) ∧ Below w.heap.size w w' := by
  have H1 := h.print1
  have H2 := h.print2
  have HW := h.wrote
  have HP := h.parse
  have HRp := h.reprint
  have hss : (s.toList == s.toList) = true := by simp
  rw [h1] at H1
  have HPa := h.again h1 hs
  have HAl := h.alike h1
  have hsi : ((printT n1 p1 l1 (m + 1) B).size : Int) ≤ 60000 := by omega
  have e2 : (progErr n2 p2 l2 (m + 1) C == 0) = false := by simp [h2]
  generalize progErr n2 p2 l2 (m + 1) C = er2 at *
  generalize printT n1 p1 l1 (m + 1) B = t1 at *
  generalize printT n2 p2 l2 (m + 1) C = t2 at *
  clear h h1 h2 hs
  go_enter Tryd.func3, Tryd.ntmps3
  go_upto_region 3 with (first
    | (go_at_call 4; have _ := b1; refine (H2.out w1 b1).mono ?_; rintro e w2 ⟨rfl, b2⟩)
    | (go_at_call 4; refine H1.out.mono ?_; rintro e w1 ⟨rfl, b1⟩))
  have c2 : Below w.heap.size w w2 := b1.trans (b2.mono b1.size)
  clear b1 b2 H1 H2
  go_upto_region 9 with (first
    | (go_at_call 5; refine (HW.out w2 c2).mono ?_; rintro e w3 ⟨rfl, b3⟩; have c3 : Below w.heap.size w w3 := c2.trans (b3.mono c2.size))
    | (go_at_call 6; have _ := P5; refine (HAl.out w5 v5 c5 P5.out).mono ?_; rintro e w6 ⟨rfl, b6⟩; have c9 : Below w.heap.size w w6 := c5.trans (b6.mono c5.size))
    | (go_at_call 7; refine (HPa.out _ c3).mono ?_; rintro e w5 ⟨v5, rfl, P5, b5⟩; have c5 : Below w.heap.size w w5 := c3.trans (b5.mono c3.size)))
  clear HW
  go_wp2_with (first
    | (go_at_call 7; refine (HP.out _ c9).mono ?_; rintro e w10 ⟨⟨v, rfl, Pv, Gv⟩ | ⟨er, rfl, her⟩, b10⟩ <;> have c10 : Below w.heap.size w w10 := c9.trans (b10.mono c9.size))
    | (go_at_call 4; refine (HRp.out w10 v c10 Pv.out Gv.out).mono ?_; rintro e w11 ⟨rfl, b11⟩; have c11 : Below w.heap.size w w11 := c10.trans (b11.mono c10.size)))
  · go_ret
    exact ⟨rfl, c11⟩
  · go_ret
    exact ⟨rfl, c10⟩

set_option maxHeartbeats 4000000 in
theorem back_gnl (N m : Nat) (w : World) (f g : Value) (n1 n2 : Nat) (p1 l1 p2 l2 : Nat → Int) (B C : Nat → SL) (s : Wd) (h : Ahead N m w f g n1 n2 p1 l1 p2 l2 B C s) (h1 : progErr n1 p1 l1 (m + 1) B = 0) (h2 : ¬ progErr n2 p2 l2 (m + 1) C = 0) (hs : ¬ (printT n1 p1 l1 (m + 1) B).size ≤ 60000) :
    Calls Tryd.prog 3 #[f, g, .string s] w fun e w' => e = .returned (.bool true) ∧ Below w.heap.size w w' := by
  have H1 := h.print1
  have H2 := h.print2
  have HW := h.wrote
  have HP := h.parse
  have HRp := h.reprint
  have hss : (s.toList == s.toList) = true := by simp
  rw [h1] at H1
  have hsi : ¬ ((printT n1 p1 l1 (m + 1) B).size : Int) ≤ 60000 := by omega
  have e2 : (progErr n2 p2 l2 (m + 1) C == 0) = false := by simp [h2]
  generalize progErr n2 p2 l2 (m + 1) C = er2 at *
  generalize printT n1 p1 l1 (m + 1) B = t1 at *
  generalize printT n2 p2 l2 (m + 1) C = t2 at *
  clear h h1 h2 hs
  go_enter Tryd.func3, Tryd.ntmps3
  go_upto_region 3 with (first
    | (go_at_call 4; have _ := b1; refine (H2.out w1 b1).mono ?_; rintro e w2 ⟨rfl, b2⟩)
    | (go_at_call 4; refine H1.out.mono ?_; rintro e w1 ⟨rfl, b1⟩))
  have c2 : Below w.heap.size w w2 := b1.trans (b2.mono b1.size)
  clear b1 b2 H1 H2
  go_upto_region 9 with (first
    | (go_at_call 5; refine (HW.out w2 c2).mono ?_; rintro e w3 ⟨rfl, b3⟩; have c9 : Below w.heap.size w w3 := c2.trans (b3.mono c2.size)))
  clear HW
  go_wp2_with (first
    | (go_at_call 7; refine (HP.out _ c9).mono ?_; rintro e w10 ⟨⟨v, rfl, Pv, Gv⟩ | ⟨er, rfl, her⟩, b10⟩ <;> have c10 : Below w.heap.size w w10 := c9.trans (b10.mono c9.size))
    | (go_at_call 4; refine (HRp.out w10 v c10 Pv.out Gv.out).mono ?_; rintro e w11 ⟨rfl, b11⟩; have c11 : Below w.heap.size w w11 := c10.trans (b11.mono c10.size)))
  · go_ret
    exact ⟨rfl, c11⟩
  · go_ret
    exact ⟨rfl, c10⟩

set_option maxHeartbeats 4000000 in
theorem back_gbs (N m : Nat) (w : World) (f g : Value) (n1 n2 : Nat) (p1 l1 p2 l2 : Nat → Int) (B C : Nat → SL) (s : Wd) (h : Ahead N m w f g n1 n2 p1 l1 p2 l2 B C s) (h1 : progErr n1 p1 l1 (m + 1) B = 0) (h2 : progErr n2 p2 l2 (m + 1) C = 0) (hs : (printT n1 p1 l1 (m + 1) B).size ≤ 60000) :
    Calls Tryd.prog 3 #[f, g, .string s] w fun e w' => e = .returned (.bool true) ∧ Below w.heap.size w w' := by
  have H1 := h.print1
  have H2 := h.print2
  have HW := h.wrote
  have HP := h.parse
  have HRp := h.reprint
  have hss : (s.toList == s.toList) = true := by simp
  rw [h1] at H1
  have HPa := h.again h1 hs
  have HAl := h.alike h1
  have hsi : ((printT n1 p1 l1 (m + 1) B).size : Int) ≤ 60000 := by omega
  rw [h2] at H2
  have HS := h.same h1
  have h12 := back_same h1 h2
  generalize eqP (m + 1) n1 n2 p1 l1 p2 l2 B C = q at *
  generalize printT n1 p1 l1 (m + 1) B = t1 at *
  generalize printT n2 p2 l2 (m + 1) C = t2 at *
  clear h h1 h2 hs
  go_enter Tryd.func3, Tryd.ntmps3
  go_upto_region 3 with (first
    | (go_at_call 4; have _ := b1; refine (H2.out w1 b1).mono ?_; rintro e w2 ⟨rfl, b2⟩)
    | (go_at_call 4; refine H1.out.mono ?_; rintro e w1 ⟨rfl, b1⟩))
  have c2 : Below w.heap.size w w2 := b1.trans (b2.mono b1.size)
  clear b1 b2 H1 H2
  go_upto_region 9 with (first
    | (go_at_call 5; refine (HW.out w2 c2).mono ?_; rintro e w3 ⟨rfl, b3⟩; have c3 : Below w.heap.size w w3 := c2.trans (b3.mono c2.size))
    | (go_at_call 6; have _ := P5; refine (HAl.out w5 v5 c5 P5.out).mono ?_; rintro e w6 ⟨rfl, b6⟩; have c9 : Below w.heap.size w w6 := c5.trans (b6.mono c5.size))
    | (go_at_call 7; refine (HPa.out _ c4).mono ?_; rintro e w5 ⟨v5, rfl, P5, b5⟩; have c5 : Below w.heap.size w w5 := c4.trans (b5.mono c4.size))
    | (go_at_call 6; refine (HS.out w3 c3).mono ?_; rintro e w4 ⟨rfl, b4⟩; have c4 : Below w.heap.size w w4 := c3.trans (b4.mono c3.size)))
  clear HW
  go_wp2_with (first
    | (go_at_call 7; refine (HP.out _ c9).mono ?_; rintro e w10 ⟨⟨v, rfl, Pv, Gv⟩ | ⟨er, rfl, her⟩, b10⟩ <;> have c10 : Below w.heap.size w w10 := c9.trans (b10.mono c9.size))
    | (go_at_call 4; refine (HRp.out w10 v c10 Pv.out Gv.out).mono ?_; rintro e w11 ⟨rfl, b11⟩; have c11 : Below w.heap.size w w11 := c10.trans (b11.mono c10.size)))
  · go_ret
    exact ⟨rfl, c11⟩
  · go_ret
    exact ⟨rfl, c10⟩

set_option maxHeartbeats 4000000 in
theorem back_gbl (N m : Nat) (w : World) (f g : Value) (n1 n2 : Nat) (p1 l1 p2 l2 : Nat → Int) (B C : Nat → SL) (s : Wd) (h : Ahead N m w f g n1 n2 p1 l1 p2 l2 B C s) (h1 : progErr n1 p1 l1 (m + 1) B = 0) (h2 : progErr n2 p2 l2 (m + 1) C = 0) (hs : ¬ (printT n1 p1 l1 (m + 1) B).size ≤ 60000) :
    Calls Tryd.prog 3 #[f, g, .string s] w fun e w' => e = .returned (.bool true) ∧ Below w.heap.size w w' := by
  have H1 := h.print1
  have H2 := h.print2
  have HW := h.wrote
  have HP := h.parse
  have HRp := h.reprint
  have hss : (s.toList == s.toList) = true := by simp
  rw [h1] at H1
  have hsi : ¬ ((printT n1 p1 l1 (m + 1) B).size : Int) ≤ 60000 := by omega
  rw [h2] at H2
  have HS := h.same h1
  have h12 := back_same h1 h2
  generalize eqP (m + 1) n1 n2 p1 l1 p2 l2 B C = q at *
  generalize printT n1 p1 l1 (m + 1) B = t1 at *
  generalize printT n2 p2 l2 (m + 1) C = t2 at *
  clear h h1 h2 hs
  go_enter Tryd.func3, Tryd.ntmps3
  go_upto_region 3 with (first
    | (go_at_call 4; have _ := b1; refine (H2.out w1 b1).mono ?_; rintro e w2 ⟨rfl, b2⟩)
    | (go_at_call 4; refine H1.out.mono ?_; rintro e w1 ⟨rfl, b1⟩))
  have c2 : Below w.heap.size w w2 := b1.trans (b2.mono b1.size)
  clear b1 b2 H1 H2
  go_upto_region 9 with (first
    | (go_at_call 5; refine (HW.out w2 c2).mono ?_; rintro e w3 ⟨rfl, b3⟩; have c3 : Below w.heap.size w w3 := c2.trans (b3.mono c2.size))
    | (go_at_call 6; refine (HS.out w3 c3).mono ?_; rintro e w4 ⟨rfl, b4⟩; have c9 : Below w.heap.size w w4 := c3.trans (b4.mono c3.size)))
  clear HW
  go_wp2_with (first
    | (go_at_call 7; refine (HP.out _ c9).mono ?_; rintro e w10 ⟨⟨v, rfl, Pv, Gv⟩ | ⟨er, rfl, her⟩, b10⟩ <;> have c10 : Below w.heap.size w w10 := c9.trans (b10.mono c9.size))
    | (go_at_call 4; refine (HRp.out w10 v c10 Pv.out Gv.out).mono ?_; rintro e w11 ⟨rfl, b11⟩; have c11 : Below w.heap.size w w11 := c10.trans (b11.mono c10.size)))
  · go_ret
    exact ⟨rfl, c11⟩
  · go_ret
    exact ⟨rfl, c10⟩

/-- WordsBack called. -/
theorem wordsBack (N m : Nat) (w : World) (f g : Value) (n1 n2 : Nat) (p1 l1 p2 l2 : Nat → Int) (B C : Nat → SL) (s : Wd) (h : Ahead N m w f g n1 n2 p1 l1 p2 l2 B C s) :
    Calls Tryd.prog 3 #[f, g, .string s] w fun e w' => e = .returned (.bool true) ∧ Below w.heap.size w w' := by
  by_cases h1 : progErr n1 p1 l1 (m + 1) B = 0
  · by_cases h2 : progErr n2 p2 l2 (m + 1) C = 0
    · by_cases hs : (printT n1 p1 l1 (m + 1) B).size ≤ 60000
      · exact back_gbs N m w f g n1 n2 p1 l1 p2 l2 B C s h h1 h2 hs
      · exact back_gbl N m w f g n1 n2 p1 l1 p2 l2 B C s h h1 h2 hs
    · by_cases hs : (printT n1 p1 l1 (m + 1) B).size ≤ 60000
      · exact back_gns N m w f g n1 n2 p1 l1 p2 l2 B C s h h1 h2 hs
      · exact back_gnl N m w f g n1 n2 p1 l1 p2 l2 B C s h h1 h2 hs
  · exact back_bad N m w f g n1 n2 p1 l1 p2 l2 B C s h h1

end Go.Proofs.YtomfkfhipemlcabDoor
