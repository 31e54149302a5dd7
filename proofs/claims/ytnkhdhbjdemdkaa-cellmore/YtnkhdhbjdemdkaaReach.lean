/- Reach: the error of what it is given, or the list of what is reached. -/
import Derived.Test.YtnkhdhbjdemdkaaMeet
import Derived.Test.YtnkhdhbjdemdkaaReachMath
namespace Go.Proofs.Ytnkhdhbjdemdkaa
open Go.RowKit Go.Maps

theorem st_start (w : World) : St (((w.alloc (.cells #[.slice none 0 0] 24)).alloc (.map #[] 0)).alloc (.cells #[.map (some (w.heap.size + 1))] 46)) w.heap.size (w.heap.size + 1 + 1) (w.heap.size + 1) (w.heap.size + 3) [] := by
  refine ⟨by omega, by omega, by omega, by omega, by omega, by omega, by simp, ⟨.slice none 0 0, ?_, World.ownsRow_nil _ _ _ _⟩, ?_, ?_, ?_⟩
  · rw [World.cell?_alloc_lt _ _ _ (by simp; omega), World.cell?_alloc_lt _ _ _ (by simp), World.cell?_alloc_new]; rfl
  · rw [(below_alloc _ _).frozen (by simp; omega), (below_alloc _ _).frozen (by simp)]
    exact World.frozen?_alloc_new _ _ _ _
  · have := World.cell?_alloc_new ((w.alloc (.cells #[.slice none 0 0] 24)).alloc (.map #[] 0)) #[.map (some (w.heap.size + 1))] 46 0
    simpa using this
  · have h1 := World.ownsMap_made (w.alloc (.cells #[.slice none 0 0] 24)) Try.prog 3 (unitElem (H := Unit))
    have h2 := h1.alloc (.cells #[.map (some (w.heap.size + 1))] 46)
    rw [setD_nil]
    simpa using h2

/-- A row of ints of the call's own is a slice of them. -/
theorem own_ints {w : World} {base : Nat} {v : Value} {R : List Int} (h : w.ownsRow base 3 1 v R.length (R.map (Value.int .i64))) : IntsAt w v R.length (fun i => R.getD i 0) := by
  rcases h.2 with ⟨rfl, h0⟩ | ⟨g, cap, cur, rfl, r⟩
  · rw [h0]; exact ⟨none, 0, rfl, Or.inl rfl⟩
  · refine ⟨_, cap, rfl, Or.inr ⟨g, 0, rfl, (h.lt g rfl).2, fun i hi => ?_⟩⟩
    rw [Nat.zero_add, h.cellAt i (by omega)]
    simp [List.getElem?_eq_getElem hi]

set_option maxHeartbeats 400000 in
theorem reach_bad (v u : Value) (n : Nat) (m : Nat → Nat) (K Z : Nat → Nat → Int) (f : Nat) (kf zf : Nat → Int) (w : World) (h : CellsAt w v n m K Z) (hu : ValsAt w u f kf zf)
    (hbad : ¬ reachErr n m K Z f kf zf = 0) :
    Calls Try.prog 8 #[v, u] w fun e w' => e = .returned (.tuple #[.slice none 0 0, .int .i64 (reachErr n m K Z f kf zf)]) ∧ Below w.heap.size w w' := by
  have het : (reachErr n m K Z f kf zf != 0) = true := by simp [hbad]
  clear hbad
  go_enter Try.func8, Try.ntmps8
  go_wp2_with (go_at_call 21; refine (checkReach _ _ _ _ _ _ _ _ _ _ h hu).mono ?_; rintro e w1 ⟨rfl, hb1⟩)
  go_ret2
  exact ⟨rfl, hb1⟩

set_option maxHeartbeats 1000000 in
theorem reach_ok (v u : Value) (n : Nat) (m : Nat → Nat) (K Z : Nat → Nat → Int) (f : Nat) (kf zf : Nat → Int) (w : World) (h : CellsAt w v n m K Z) (hu : ValsAt w u f kf zf)
    (hv : Valid n m K Z f kf zf) :
    Calls Try.prog 8 #[v, u] w fun e w' => ∃ s, e = .returned (.tuple #[s, .int .i64 0]) ∧ IntsAt w' s (reached n m K Z f kf zf).length (fun i => (reached n m K Z f kf zf).getD i 0) ∧ Below w.heap.size w w' := by
  have hmm := @run_makeMap Try.prog
  have het : (reachErr n m K Z f kf zf != 0) = false := by simp [reachErr_zero.2 hv]
  have HV : Hid (Valid n m K Z f kf zf) := hv
  have hn24 := hv.few
  have hf400 := hv.short
  clear hv
  have h' := h
  obtain ⟨a, cap, rfl, hn, hc⟩ := h'
  go_enter Try.func8, Try.ntmps8
  go_wp2_with (first
    | (go_at_call 21; refine (checkReach _ _ _ _ _ _ _ _ _ _ h hu).mono ?_; rintro e w1 ⟨rfl, hb1⟩)
    | (go_at_call 22; refine (meet _ f kf zf w _ _ _ (w1.heap.size + 1) (w1.heap.size + 3) [] hu (((hb1.alloc hb1.size _).alloc (by have := hb1.size; simp; omega) _).alloc (by have := hb1.size; simp; omega) _) (st_start w1) hb1.size (Nat.le_succ_of_le hb1.size) (by simp; omega) (fun i hi hk => by have := HV.out.from i hi hk; omega)).mono ?_; rintro e w2 ⟨rfl, hst, hb2⟩))
  clear hmm
  have HW1 : Hid (w.heap.size ≤ w1.heap.size) := hb1.size
  clear hb1
  generalize w1.heap.size = N at *
  go_loopw [10] (fun i wr => ∃ j : Nat, j ≤ n ∧ i = .int .i64 j ∧ St wr N (N + 1 + 1) (N + 1) (N + 3) (rt m K Z f kf zf j) ∧ Below w.heap.size w wr ∧ j ≤ (rt m K Z f kf zf j).length) (fun i _ => n - (intOf i).toNat)
  case atStart => exact ⟨0, Nat.zero_le _, rfl, hst, hb2, Nat.zero_le _⟩
  case round =>
    clear hst hb2
    obtain ⟨j, hj, rfl, hst, hb, hjl⟩ := hrel
    have hg := rt_good HV.out j
    have hgl := hg.len
    have HN : Hid (j < (rt m K Z f kf zf j).length → rt m K Z f kf zf (j + 1) = stepR m K Z j (rt m K Z f kf zf j)) := rt_next
    have HD : Hid (¬ j < (rt m K Z f kf zf j).length → reached n m K Z f kf zf = rt m K Z f kf zf j) := rt_done hj
    generalize rt m K Z f kf zf j = R at *
    obtain ⟨sv, hsc, hrow⟩ := hst.list
    have hints := own_ints hrow
    obtain ⟨sa, scap, rfl⟩ := own_shape hrow
    by_cases hlt : j < R.length
    · obtain ⟨c, hcn, hce⟩ := hg.at hlt
      have HS : Hid (rt m K Z f kf zf (j + 1) = meetTo (m c) (K c) (Z c) R) := by
        have e := HN.out hlt
        unfold stepR at e
        rw [hce] at e
        exact e
      rcases hc with hc | ⟨p, o, rfl, hp, gc⟩
      · omega
      obtain ⟨x, hx, hvx⟩ := gc c hcn
      rw [← hb.cell hp] at hx
      obtain ⟨a2, cap2, e2, hi | ⟨g2, o2, rfl, hg2, gi⟩⟩ := hints
      · omega
      cases e2
      have hcell : wr.cell? ⟨g2, o2 + j, none⟩ = some (.int .i64 (R.getD j 0)) := gi j hlt
      rw [hce] at hcell
      have hm4 := HV.out.most c hcn
      have HF : Hid (∀ i, i < m c → K c i = 2 → 0 ≤ Z c i ∧ Z c i ≤ 1000) := fun i hi hk => by have := HV.out.field c hcn i hi hk; omega
      have HG : Hid (∀ t, Good n t → t.length ≤ n) := fun t ht => ht.len
      have HGN : Hid (Good n (rt m K Z f kf zf (j + 1))) := rt_good HV.out (j + 1)
      clear gi gc hg HN HD hce hrow
      go_wp2_with (go_at_call 22; refine (meet _ (m c) (K c) (Z c) w _ _ _ (N + 1) (N + 3) R hvx hb hst HW1.out (Nat.le_succ_of_le HW1.out) (by omega) HF.out).mono ?_; rintro e w3 ⟨rfl, hst3, hb3⟩)
      go_roundw
      case rel =>
        rw [← HS.out] at hst3
        refine ⟨j + 1, by omega, by go_num, hst3, hb3, ?_⟩
        rw [HS.out]
        exact Nat.le_trans hlt (meetTo_more _ _ _ _)
      case measure => simp [intOf]; omega
    · have HE : Hid (reached n m K Z f kf zf = R) := HD.out hlt
      clear HN HD hg hrow
      go_wp2
      go_ret2
      exact ⟨_, rfl, by rw [HE.out]; exact hints, hb⟩

end Go.Proofs.Ytnkhdhbjdemdkaa
