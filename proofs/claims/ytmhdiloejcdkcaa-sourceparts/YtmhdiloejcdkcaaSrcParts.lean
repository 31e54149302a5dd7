/- SourceParts, called: true, whatever the program and the two numbers. -/
import Derived.Test.YtmhdiloejcdkcaaPutBody
import Derived.Deep.RegionHeld3
namespace Go.Proofs.Ytmhdiloejcdkcaa
open Go.RowKit Go.Maps

theorem own_blk {w : World} {base : Nat} {e : TypeId} {size : Nat} {v : Value} {n : Nat} {xs : List Value} (h : w.ownsRow base e size v n xs) (hn : 1 ≤ n) : ∃ g cap, v = .slice (some ⟨g, 0, none⟩) n cap ∧ base ≤ g ∧ g < w.heap.size ∧ n ≤ cap := by
  obtain ⟨m, rfl⟩ : ∃ m, n = m + 1 := ⟨n - 1, by omega⟩
  obtain ⟨g, cap, h1, h2, h3, h4, _⟩ := own_block h
  exact ⟨g, cap, h1, h2, h3, h4⟩

/-- slices.Insert, whichever way. -/
theorem insert (base g cap n k vb : Nat) (c : Nat → Value) (w : World) (hbase : base ≤ w.heap.size) (hown : w.ownsRow base 58 6 (.slice (some ⟨g, 0, none⟩) n cap) n (cellsL (n * 6) c)) (h1 : ∀ u ∈ cellsL (n * 6) c, u.oneCell' = true) (hk : k < n) (hn : n ≤ 1000)
    (hvb : ¬ vb = g) (hv : w.heap[vb]? = some (.cells (one_ k c).toArray 58 (0, 0))) :
    Calls Try.prog 34 #[.slice (some ⟨g, 0, none⟩) n cap, .int .i64 k, .slice (some ⟨vb, 0, none⟩) 1 1] w fun e w' => ∃ g2 cp, e = .returned (.slice (some ⟨g2, 0, none⟩) (n + 1) cp) ∧ w'.ownsRow base 58 6 (.slice (some ⟨g2, 0, none⟩) (n + 1) cp) (n + 1) (cellsL ((n + 1) * 6) (pickC (doubled k) c)) ∧ Below base w w' := by
  by_cases hr : n + 1 ≤ cap
  · exact (insert_room base g cap n k vb c w hown h1 hk hn hvb hv hr).mono fun _ _ ⟨h2, h3, h4⟩ => ⟨g, cap, h2, h3, h4⟩
  · exact (insert_grow base g cap n k vb c w hbase hown h1 hk hn hv (by omega)).mono fun _ _ ⟨cp, h2, h3, h4⟩ => ⟨w.heap.size, cp, h2, h3, h4⟩

set_option maxHeartbeats 1000000 in
/-- The program isn't right. -/
theorem parts_bad (d : Nat) (f : Value) (i0 k0 : Int) (nf : Nat) (par loc : Nat → Int) (bv : Nat → Value) (body : Nat → SL) (w : World) (hf : FunsAt w.heap.size w f nf par loc bv) (hs : ∀ j, j < nf → StmtsAt w.heap.size w (d + 1) (bv j) (body j)) (hp : ¬ progErr nf par loc (d + 1) body = 0) :
    Calls Try.prog 8 #[f, .int .i64 i0, .int .i64 k0] w fun e w' => e = .returned (.bool true) ∧ Below w.heap.size w w' := by
  have H1 : Hid (∀ wk, Below w.heap.size w wk → Calls Try.prog 24 #[f] wk fun e w' => e = .returned (.int .i64 (progErr nf par loc (d + 1) body)) ∧ Below wk.heap.size wk w') := fun wk hb =>
    check w.heap.size f nf par loc bv (d + 1) body wk hb.size (hf.below hb) (fun i hi => (hs i hi).below hb)
  have e1 : (progErr nf par loc (d + 1) body != 0) = true := by simpa using hp
  clear hp
  go_enter Try.func8, Try.ntmps8
  go_wp2_with (first
    | (go_at_call 24; refine (H1.out _ c1).mono ?_; rintro e w2 ⟨rfl, b2⟩; have c2 := below_step c1 b2)
    | (go_at_call 23; refine (typed w).mono ?_; rintro e w1 ⟨rfl, c1⟩)
    | (go_at_call 23; refine (typed w2).mono ?_; rintro e w3 ⟨rfl, b3⟩; have c3 := below_step c2 b3))
  go_ret
  exact ⟨rfl, c3⟩

set_option maxHeartbeats 1000000 in
/-- The body has no statement. -/
theorem parts_none (d : Nat) (f : Value) (i0 k0 : Int) (nf : Nat) (par loc : Nat → Int) (bv : Nat → Value) (body : Nat → SL) (w : World) (hf : FunsAt w.heap.size w f nf par loc bv) (hs : ∀ j, j < nf → StmtsAt w.heap.size w (d + 1) (bv j) (body j)) (hp : progErr nf par loc (d + 1) body = 0)
    (i : Nat) (hi : i < nf) (Hi : ∀ w, Calls Try.prog 30 #[.int .i64 i0, .int .i64 nf] w fun e w' => e = .returned (.int .i64 (i : Int)) ∧ w' = w) (h0 : (body i).len = 0) :
    Calls Try.prog 8 #[f, .int .i64 i0, .int .i64 k0] w fun e w' => e = .returned (.bool true) ∧ Below w.heap.size w w' := by
  have H1 : Hid (∀ wk, Below w.heap.size w wk → Calls Try.prog 24 #[f] wk fun e w' => e = .returned (.int .i64 0) ∧ Below wk.heap.size wk w') := fun wk hb => by
    have := check w.heap.size f nf par loc bv (d + 1) body wk hb.size (hf.below hb) (fun i hi => (hs i hi).below hb)
    rw [hp] at this; exact this
  have HI : Hid (∀ w, Calls Try.prog 30 #[.int .i64 i0, .int .i64 nf] w fun e w' => e = .returned (.int .i64 (i : Int)) ∧ w' = w) := Hi
  obtain ⟨af, capf, rfl, hnf, h | ⟨bf, of, rfl, hbf, hcf⟩⟩ := hf
  · omega
  obtain ⟨a, cap, ev, _⟩ := (hs i hi).shape
  rw [h0] at ev
  have HL : Hid (∀ wk, Below w.heap.size w wk → wk.cell? ⟨bf, of + i * 3 + 2, none⟩ = some (.slice a 0 cap)) := fun wk hb => by
    rw [hb.cell (p := ⟨bf, of + i * 3 + 2, none⟩) hbf, (hcf i hi).2.2.1, ev]
  have hi1 : (0 : Int) ≤ (i : Int) := by omega
  have hi2 : (i : Int) < (nf : Int) := by omega
  clear hs hp Hi hcf ev h0
  go_enter Try.func8, Try.ntmps8
  go_wp2_with (first
    | (go_at_call 23; refine (typed w).mono ?_; rintro e w1 ⟨rfl, c1⟩)
    | (go_at_call 24; refine (H1.out _ c1).mono ?_; rintro e w2 ⟨rfl, b2⟩; have c2 := below_step c1 b2; have hl := HL.out _ c2)
    | (go_at_call 30; refine (HI.out _).mono ?_; rintro e w3 ⟨rfl, h3⟩; rw [h3]; clear h3))
  go_ret
  exact ⟨rfl, c2⟩

end Go.Proofs.Ytmhdiloejcdkcaa
