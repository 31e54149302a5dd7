/- The closed fact: a text that is read, and printed as it was. -/
import Derived.Test.YtfblnmbcaglliabGreatDoorCounts
namespace Go.Proofs.YtfblnmbcaglliabGreatDoor
open Go.RowKit Go.Maps

theorem parse_good (N D : Nat) (s : Wd) (hs : s.size ≤ 60000) (hD : (wordsOf s).length + 2 ≤ D) (hg : rdGood D s) (w : World) (hN : N ≤ w.heap.size) (he : Env N w) : Calls Tryz.prog 6 #[.string s] w fun e w' => ∃ v, e = .returned (.tuple #[v, .int .i64 0]) ∧ Hid (Parsed D s w' v) ∧ Below w.heap.size w w' := by
  refine (parse_short N D s hs hD w hN he).mono ?_
  rintro e w' ⟨⟨_, v, rfl, hp⟩ | ⟨hb, _⟩, hbe⟩
  · exact ⟨v, rfl, hp, hbe⟩
  · exact absurd hg hb

theorem print_parsed (N D : Nat) (s : Wd) (hg : rdGood D s) (w : World) (v : Value) (hN : N ≤ w.heap.size) (he : Env N w) (hp : Parsed D s w v) : Calls Tryz.prog 5 #[v] w fun e w' => e = .returned (.tuple #[.string s, .int .i64 0]) ∧ Below w.heap.size w w' := by
  obtain ⟨bv, hf, hs⟩ := hp
  obtain ⟨e0, e1⟩ := hg
  unfold rdErr at e0
  unfold rdText at e1
  refine (print w.heap.size v _ _ _ bv _ _ w (Nat.le_refl _) (he.up hN) hf hs).mono ?_
  rintro e w' ⟨rfl, hb2⟩
  refine ⟨?_, hb2⟩
  unfold printT
  rw [if_pos e0, e0, e1]

theorem look_parsed (D : Nat) (s : Wd) (hn : rdN (wordsOf s) = 2) (hl : (rdB (wordsOf s) 0).len = 2) (hsub : ((rdB (wordsOf s) 0).sub 1 false).len = 4) (w1 : World) (v : Value) (hp : Parsed D s w1 v) :
    ∃ b o cap c1 b1 o1 a4 c4, v = .slice (some ⟨b, o, none⟩) 2 cap ∧ b < w1.heap.size ∧ w1.cell? ⟨b, o + 2, none⟩ = some (.slice (some ⟨b1, o1, none⟩) 2 c1) ∧ b1 < w1.heap.size ∧ w1.cell? ⟨b1, o1 + 10, none⟩ = some (.slice a4 4 c4) := by
  obtain ⟨bv, hf, hs⟩ := hp
  generalize rdB (wordsOf s) = B at *
  generalize rdP (wordsOf s) = P at *
  generalize rdL (wordsOf s) = L at *
  rw [hn] at hf hs
  obtain ⟨a, cap, rfl, hnn, h | ⟨b, o, rfl, hb, hc⟩⟩ := hf
  · cases h
  obtain ⟨_, _, c2, x, m, c, hx⟩ := hc 0 (by decide)
  have h0 := hs 0 (by decide)
  cases D with
  | zero =>
    have e : (B 0).len = 0 := h0.1
    rw [hl] at e; cases e
  | succ D =>
    obtain ⟨a1, c1, e1, _, h | ⟨b1, o1, rfl, hb1, hc1⟩⟩ := h0
    · rw [hl] at h; cases h
    rw [hl] at e1 hc1
    obtain ⟨ve, vf, va, vb, _, _, _, _, q4, _, _, _, sA, _⟩ := hc1 1 (by decide)
    obtain ⟨a4, c4, e4, _⟩ := sA.shape
    rw [hsub] at e4
    rw [e4] at q4
    rw [e1] at c2
    exact ⟨b, o, cap, c1, b1, o1, a4, c4, rfl, hb, c2, hb1, q4⟩

theorem counts_lit : bs countsL = ⟨([102, 117, 110, 32, 48, 32, 49, 32, 123, 32, 115, 101, 116, 32, 48, 32, 51, 32, 119, 104, 105, 108, 101, 32, 118, 48, 32, 123, 32, 115, 97, 121, 32, 102, 49, 32, 118, 48, 32, 118, 48, 32, 103, 111, 32, 118, 48, 32].append [112, 97, 117, 115, 101, 32, 115, 101, 116, 32, 48, 32, 45, 32, 118, 48, 32, 49, 32, 125, 32, 125, 32, 102, 117, 110, 32, 50, 32, 50, 32, 123, 32, 114, 101, 116, 117, 114, 110, 32, 42, 32, 118, 48, 32, 118, 49, 32, 125]).toArray⟩ := by unfold countsL; rfl
theorem counts_list (T : Wd) (hT : T = bs countsL) : (T.toList == [102, 117, 110, 32, 48, 32, 49, 32, 123, 32, 115, 101, 116, 32, 48, 32, 51, 32, 119, 104, 105, 108, 101, 32, 118, 48, 32, 123, 32, 115, 97, 121, 32, 102, 49, 32, 118, 48, 32, 118, 48, 32, 103, 111, 32, 118, 48, 32, 112, 97, 117, 115, 101, 32, 115, 101, 116, 32, 48, 32, 45, 32, 118, 48, 32, 49, 32, 125, 32, 125, 32, 102, 117, 110, 32, 50, 32, 50, 32, 123, 32, 114, 101, 116, 117, 114, 110, 32, 42, 32, 118, 48, 32, 118, 49, 32, 125]) = true := by
  rw [hT, ByteArray.toList_eq, bs_data]
  unfold countsL
  rw [beq_iff_eq]

set_option maxRecDepth 20000 in
set_option maxHeartbeats 4000000 in
theorem written (N : Nat) (w : World) (hN : N ≤ w.heap.size) (he : Env N w) : Calls Tryz.prog 9 #[] w fun e w' => e = .returned (.bool true) ∧ Below w.heap.size w w' := by
  have hG : rdGood 60 (bs countsL) := ⟨counts_err, counts_text⟩
  have hsz : (bs countsL).size ≤ 60000 := by rw [bs_size]; decide
  have hD := counts_D
  have hn := counts_n
  have hl := counts_len
  have hsb := counts_sub
  have hlit := counts_lit
  have hlist := counts_list
  generalize bs countsL = s at *
  have HP : Hid (Calls Tryz.prog 6 #[.string ⟨([102, 117, 110, 32, 48, 32, 49, 32, 123, 32, 115, 101, 116, 32, 48, 32, 51, 32, 119, 104, 105, 108, 101, 32, 118, 48, 32, 123, 32, 115, 97, 121, 32, 102, 49, 32, 118, 48, 32, 118, 48, 32, 103, 111, 32, 118, 48, 32].append [112, 97, 117, 115, 101, 32, 115, 101, 116, 32, 48, 32, 45, 32, 118, 48, 32, 49, 32, 125, 32, 125, 32, 102, 117, 110, 32, 50, 32, 50, 32, 123, 32, 114, 101, 116, 117, 114, 110, 32, 42, 32, 118, 48, 32, 118, 49, 32, 125]).toArray⟩] w fun e w' => ∃ v, e = .returned (.tuple #[v, .int .i64 0]) ∧ Hid (Parsed 60 s w' v) ∧ Below w.heap.size w w') := by
    rw [← hlit]
    exact parse_good N 60 s hsz hD hG w hN he
  have HPr : Hid (∀ w1 v, Below w.heap.size w w1 → Parsed 60 s w1 v → Calls Tryz.prog 5 #[v] w1 fun e w' => e = .returned (.tuple #[.string s, .int .i64 0]) ∧ Below w1.heap.size w1 w') := fun w1 v hb hp =>
    print_parsed N 60 s hG w1 v (Nat.le_trans hN hb.size) (he.below (hb.mono hN)) hp
  have HLook : Hid (∀ w1 v, Parsed 60 s w1 v → ∃ b o cap c1 b1 o1 a4 c4, v = .slice (some ⟨b, o, none⟩) 2 cap ∧ b < w1.heap.size ∧ w1.cell? ⟨b, o + 2, none⟩ = some (.slice (some ⟨b1, o1, none⟩) 2 c1) ∧ b1 < w1.heap.size ∧ w1.cell? ⟨b1, o1 + 10, none⟩ = some (.slice a4 4 c4)) := fun w1 v hp => look_parsed 60 s hn hl hsb w1 v hp
  have hqq := hlist s rfl
  clear he hG hsz hD hn hl hsb hlit hlist
  go_enter Tryz.func9, Tryz.ntmps9
  go_upto_region 3 with (first
    | (go_at_call 6; refine HP.out.mono ?_; rintro e w1 ⟨v, rfl, P1, b1⟩)
    | (go_at_call 5; refine (HPr.out w1 v b1 P1.out).mono ?_; rintro e w2 ⟨rfl, b2⟩))
  obtain ⟨b, o, cap, c1, bb1, o1, a4, c4, rfl, hb, q2, hb1, q4⟩ := HLook.out w1 v P1.out
  rw [← b2.cell (p := ⟨b, o + 2, none⟩) hb] at q2
  rw [← b2.cell (p := ⟨bb1, o1 + 10, none⟩) hb1] at q4
  have b12 : Below w.heap.size w w2 := b1.trans (b2.mono b1.size)
  clear HP HPr HLook P1 b2
  go_wp2_with fail
  go_ret
  exact ⟨rfl, b12⟩

end Go.Proofs.YtfblnmbcaglliabGreatDoor
