/- CellMore, case by case. -/
import Derived.Test.YtnkhdhbjdemdkaaCloneCells
namespace Go.Proofs.Ytnkhdhbjdemdkaa
open Go.RowKit Go.Maps

theorem hidM {p : Prop} (h : p) : Hid p := h

def pm (f g : Nat) (i : Nat) : Nat := if i = 0 then f else g
def pk (k1 k2 : Nat → Int) (i : Nat) : Nat → Int := if i = 0 then k1 else k2

/-- Two rows as cells. -/
theorem two_rows {W : World} {u1 u2 : Value} {f g : Nat} {kf zf kg zg : Nat → Int} (h1 : ValsAt W u1 f kf zf) (h2 : ValsAt W u2 g kg zg) :
    CellsAt (W.alloc (.cells #[u1, u2] 28)) (.slice (some ⟨W.heap.size, 0, none⟩) 2 2) 2 (pm f g) (pk kf kg) (pk zf zg) := by
  refine ⟨_, _, rfl, by omega, Or.inr ⟨_, 0, rfl, by simp, fun i hi => ?_⟩⟩
  match i, hi with
  | 0, _ => exact ⟨u1, by rw [World.cell?_alloc_new]; rfl, h1.alloc _⟩
  | 1, _ => exact ⟨u2, by rw [World.cell?_alloc_new]; rfl, h2.alloc _⟩

/-- The values of both. -/
def both (f g : Nat) (kf zf kg zg : Nat → Int) : List (Int × Int) := catTo (pm f g) (pk kf kg) (pk zf zg) 2

theorem both_len (f g : Nat) (kf zf kg zg : Nat → Int) : (both f g kf zf kg zg).length = f + g := by
  unfold both
  rw [catTo_len, catTo_len]
  show 0 + f + g = f + g
  omega

theorem both_is (f g : Nat) (kf zf kg zg : Nat → Int) : both f g kf zf kg zg = rowL f kf zf ++ rowL g kg zg := by
  show ([] ++ rowL f kf zf) ++ rowL g kg zg = _
  simp

theorem both_at {f g : Nat} {kf zf kg zg : Nat → Int} {i : Nat} (h : i < f) : fstAt (both f g kf zf kg zg) i = kf i ∧ sndAt (both f g kf zf kg zg) i = zf i := by
  rw [both_is]
  have hl : i < (rowL f kf zf).length := by rw [rowL_len]; exact h
  have e : (rowL f kf zf ++ rowL g kg zg).getD i (0, 0) = (rowL f kf zf).getD i (0, 0) := by simp [List.getD, List.getElem?_append_left hl]
  unfold fstAt sndAt
  rw [e]
  exact ⟨fstAt_row h, sndAt_row h⟩

set_option maxHeartbeats 1000000 in
theorem more_bad (v u mv : Value) (n : Nat) (m : Nat → Nat) (K Z : Nat → Nat → Int) (f : Nat) (kf zf : Nat → Int) (w : World) (h : CellsAt w v n m K Z) (hu : ValsAt w u f kf zf)
    (hbad : ¬ reachErr n m K Z f kf zf = 0) :
    Calls Try.prog 6 #[v, u, mv] w fun e w' => e = .returned (.bool true) ∧ Below w.heap.size w w' := by
  have het : (reachErr n m K Z f kf zf != 0) = true := by simp [hbad]
  have HB : Hid (¬ reachErr n m K Z f kf zf = 0) := hbad
  clear hbad
  go_enter Try.func6, Try.ntmps6
  go_wp2_with fail
  refine (reach_bad _ _ _ _ _ _ _ _ _ _ h hu HB.out).mono ?_
  rintro e w1 ⟨rfl, hb1⟩
  go_wp2_with fail
  refine (met _).mono ?_
  rintro e w2 ⟨rfl, hb2⟩
  go_wp2_with fail
  refine (met _).mono ?_
  rintro e w3 ⟨rfl, hb3⟩
  go_wp2_with fail
  go_ret
  exact ⟨rfl, below_step (below_step hb1 hb2) hb3⟩

set_option maxHeartbeats 1000000 in
theorem more_many (v u mv : Value) (n : Nat) (m : Nat → Nat) (K Z : Nat → Nat → Int) (f : Nat) (kf zf : Nat → Int) (g : Nat) (kg zg : Nat → Int) (w : World) (h : CellsAt w v n m K Z) (hu : ValsAt w u f kf zf) (hm : ValsAt w mv g kg zg)
    (hv : Valid n m K Z f kf zf) (hg : g ≤ 140737488355328) (hbig : 100 < f + g) :
    Calls Try.prog 6 #[v, u, mv] w fun e w' => e = .returned (.bool true) ∧ Below w.heap.size w w' := by
  have HV : Hid (Valid n m K Z f kf zf) := hv
  have hf400 := hv.short
  clear hv
  have hu0 := hu
  obtain ⟨ua, ucap, rfl, _, _⟩ := hu0
  obtain ⟨ma, mcap, rfl, _, _⟩ := hm
  have hbi : (100 : Int) < (f : Int) + (g : Int) := by omega
  go_enter Try.func6, Try.ntmps6
  go_wp2_with fail
  refine (reach_ok _ _ _ _ _ _ _ _ _ _ h hu HV.out).mono ?_
  rintro e w1 ⟨s, rfl, hs, hb1⟩
  go_wp2_with fail
  refine (met _).mono ?_
  rintro e w2 ⟨rfl, hb2⟩
  go_wp2_with fail
  refine (met _).mono ?_
  rintro e w3 ⟨rfl, hb3⟩
  go_wp2_with fail
  go_ret
  exact ⟨rfl, below_step (below_step hb1 hb2) hb3⟩

set_option maxHeartbeats 4000000 in
theorem more_full_bad (v u mv : Value) (n : Nat) (m : Nat → Nat) (K Z : Nat → Nat → Int) (f : Nat) (kf zf : Nat → Int) (g : Nat) (kg zg : Nat → Int) (w : World) (h : CellsAt w v n m K Z) (hu : ValsAt w u f kf zf) (hm : ValsAt w mv g kg zg)
    (hv : Valid n m K Z f kf zf) (hfew : f + g ≤ 100) (hn : ¬ n < 24) (hbad2 : ¬ reachErr n m K Z (both f g kf zf kg zg).length (fstAt (both f g kf zf kg zg)) (sndAt (both f g kf zf kg zg)) = 0) :
    Calls Try.prog 6 #[v, u, mv] w fun e w' => e = .returned (.bool true) ∧ Below w.heap.size w w' := by
  have HV : Hid (Valid n m K Z f kf zf) := hv
  have hf400 := hv.short
  have hn24 := hv.few
  have HRL : Hid ((reached n m K Z f kf zf).length ≤ maxLen) := by
    have h1 := (rt_good hv n).len
    have h2 : (reached n m K Z f kf zf).length ≤ n := h1
    have h3 := hv.few
    unfold maxLen
    show _ ≤ _
    omega
  clear hv
  have h0 := h
  have hu0 := hu
  have hm0 := hm
  obtain ⟨la, lcap, rfl, _, _⟩ := h0
  obtain ⟨ua, ucap, rfl, _, _⟩ := hu0
  obtain ⟨ma, mcap, rfl, _, _⟩ := hm0
  have hbi : ¬ (100 : Int) < (f : Int) + (g : Int) := by omega
  have hni : ¬ (n : Int) < 24 := by omega
  have HB2 : Hid (¬ reachErr n m K Z (both f g kf zf kg zg).length (fstAt (both f g kf zf kg zg)) (sndAt (both f g kf zf kg zg)) = 0) := hbad2
  have het2 : (reachErr n m K Z (both f g kf zf kg zg).length (fstAt (both f g kf zf kg zg)) (sndAt (both f g kf zf kg zg)) != 0) = true := by simp [hbad2]
  clear hbad2
  go_enter Try.func6, Try.ntmps6
  go_wp2_with fail
  refine (reach_ok _ _ _ _ _ _ _ _ _ _ h hu HV.out).mono ?_
  rintro e w1 ⟨s, rfl, hs, hb1⟩
  obtain ⟨sa, scap, rfl, hs'⟩ := hs
  go_wp2_with fail
  refine (met _).mono ?_
  rintro e w2 ⟨rfl, hb2⟩
  have hs2 : IntsAt w2 (.slice sa (reached n m K Z f kf zf).length scap) (reached n m K Z f kf zf).length (fun i => (reached n m K Z f kf zf).getD i 0) := IntsAt.below ⟨sa, scap, rfl, hs'⟩ hb2
  have hbw := below_step hb1 hb2
  clear hs' hb1 hb2
  go_wp2_with fail
  refine (concat _ 2 (pm f g) (pk kf kg) (pk zf zg) _ (two_rows (hu.below hbw) (hm.below hbw)) (by have := both_len f g kf zf kg zg; unfold both at this; omega)).mono ?_
  rintro e w7 ⟨ad7, cap7, rfl, hown7, hb7⟩
  have hbw7 := below_step (below_step hbw (below_alloc _ _)) hb7
  have hs7 := (hs2.alloc (.cells #[.slice ua f ucap, .slice ma g mcap] 28)).below hb7
  have hvals := own_vals (L := both f g kf zf kg zg) hown7 (by rw [both_len]; omega)
  clear hown7 hb7 hs2 hbw
  have hbl : (catTo (pm f g) (pk kf kg) (pk zf zg) 2).length = (both f g kf zf kg zg).length := rfl
  rw [hbl] at *
  clear hbl
  go_wp2_with fail
  refine (reach_bad _ _ _ _ _ _ _ _ _ _ (h.below hbw7) hvals HB2.out).mono ?_
  rintro e w8 ⟨rfl, hb8⟩
  go_wp2_with fail
  go_ret
  exact ⟨rfl, below_step hbw7 hb8⟩

set_option maxHeartbeats 4000000 in
theorem more_full_ok (v u mv : Value) (n : Nat) (m : Nat → Nat) (K Z : Nat → Nat → Int) (f : Nat) (kf zf : Nat → Int) (g : Nat) (kg zg : Nat → Int) (w : World) (h : CellsAt w v n m K Z) (hu : ValsAt w u f kf zf) (hm : ValsAt w mv g kg zg)
    (hv : Valid n m K Z f kf zf) (hfew : f + g ≤ 100) (hn : ¬ n < 24) (hv2 : Valid n m K Z (both f g kf zf kg zg).length (fstAt (both f g kf zf kg zg)) (sndAt (both f g kf zf kg zg))) :
    Calls Try.prog 6 #[v, u, mv] w fun e w' => e = .returned (.bool true) ∧ Below w.heap.size w w' := by
  have HV : Hid (Valid n m K Z f kf zf) := hv
  have hf400 := hv.short
  have hn24 := hv.few
  have HRL : Hid ((reached n m K Z f kf zf).length ≤ maxLen) := by
    have h1 := (rt_good hv n).len
    have h2 : (reached n m K Z f kf zf).length ≤ n := h1
    have h3 := hv.few
    unfold maxLen
    show _ ≤ _
    omega
  clear hv
  have h0 := h
  have hu0 := hu
  have hm0 := hm
  obtain ⟨la, lcap, rfl, _, _⟩ := h0
  obtain ⟨ua, ucap, rfl, _, _⟩ := hu0
  obtain ⟨ma, mcap, rfl, _, _⟩ := hm0
  have hbi : ¬ (100 : Int) < (f : Int) + (g : Int) := by omega
  have hni : ¬ (n : Int) < 24 := by omega
  have HV2 : Hid (Valid n m K Z (both f g kf zf kg zg).length (fstAt (both f g kf zf kg zg)) (sndAt (both f g kf zf kg zg))) := hv2
  clear hv2
  go_enter Try.func6, Try.ntmps6
  go_wp2_with fail
  refine (reach_ok _ _ _ _ _ _ _ _ _ _ h hu HV.out).mono ?_
  rintro e w1 ⟨s, rfl, hs, hb1⟩
  obtain ⟨sa, scap, rfl, hs'⟩ := hs
  go_wp2_with fail
  refine (met _).mono ?_
  rintro e w2 ⟨rfl, hb2⟩
  have hs2 : IntsAt w2 (.slice sa (reached n m K Z f kf zf).length scap) (reached n m K Z f kf zf).length (fun i => (reached n m K Z f kf zf).getD i 0) := IntsAt.below ⟨sa, scap, rfl, hs'⟩ hb2
  have hbw := below_step hb1 hb2
  clear hs' hb1 hb2
  go_wp2_with fail
  refine (concat _ 2 (pm f g) (pk kf kg) (pk zf zg) _ (two_rows (hu.below hbw) (hm.below hbw)) (by have := both_len f g kf zf kg zg; unfold both at this; omega)).mono ?_
  rintro e w7 ⟨ad7, cap7, rfl, hown7, hb7⟩
  have hbw7 := below_step (below_step hbw (below_alloc _ _)) hb7
  have hs7 := (hs2.alloc (.cells #[.slice ua f ucap, .slice ma g mcap] 28)).below hb7
  have hvals := own_vals (L := both f g kf zf kg zg) hown7 (by rw [both_len]; omega)
  clear hown7 hb7 hs2 hbw
  have hbl : (catTo (pm f g) (pk kf kg) (pk zf zg) 2).length = (both f g kf zf kg zg).length := rfl
  rw [hbl] at *
  clear hbl
  go_wp2_with fail
  refine (reach_ok _ _ _ _ _ _ _ _ _ _ (h.below hbw7) hvals HV2.out).mono ?_
  rintro e w8 ⟨s8, rfl, hs8, hb8⟩
  have hs9 := hs7.below hb8
  have hbw8 := below_step hbw7 hb8
  have hs80 := hs8
  obtain ⟨sa8, scap8, rfl, _⟩ := hs80
  have hs90 := hs9
  clear hs7 hvals hb8 hbw7
  have HF := hidM (reached_first (n := n) (m := m) (K := K) (Z := Z) (f := f) (kf := kf) (zf := zf) (f2 := (both f g kf zf kg zg).length) (k2 := fstAt (both f g kf zf kg zg)) (z2 := sndAt (both f g kf zf kg zg)) (by rw [both_len]; omega) (fun i hi => ⟨(both_at hi).1.symm, (both_at hi).2.symm⟩))
  have HM : Hid (∀ x, x ∈ reached n m K Z f kf zf → x ∈ reached n m K Z (both f g kf zf kg zg).length (fstAt (both f g kf zf kg zg)) (sndAt (both f g kf zf kg zg))) := fun x hx =>
    reached_mono HV.out HV2.out (fun j hj hk => ⟨j, by rw [both_len]; omega, by rw [(both_at hj).1]; exact hk, (both_at hj).2.symm⟩) hx
  have HTL : Hid ((reached n m K Z (both f g kf zf kg zg).length (fstAt (both f g kf zf kg zg)) (sndAt (both f g kf zf kg zg))).length ≤ maxLen) := by
    have h1 := (rt_good HV2.out n).len
    have h2 : (reached n m K Z (both f g kf zf kg zg).length (fstAt (both f g kf zf kg zg)) (sndAt (both f g kf zf kg zg))).length ≤ n := h1
    unfold maxLen
    show _ ≤ _
    omega
  have hRb : (reached n m K Z f kf zf).length ≤ 24 := by
    have h2 : (reached n m K Z f kf zf).length ≤ n := (rt_good HV.out n).len
    omega
  have hTb : (reached n m K Z (both f g kf zf kg zg).length (fstAt (both f g kf zf kg zg)) (sndAt (both f g kf zf kg zg))).length ≤ 24 := by
    have h2 : (reached n m K Z (both f g kf zf kg zg).length (fstAt (both f g kf zf kg zg)) (sndAt (both f g kf zf kg zg))).length ≤ n := (rt_good HV2.out n).len
    omega
  generalize reached n m K Z (both f g kf zf kg zg).length (fstAt (both f g kf zf kg zg)) (sndAt (both f g kf zf kg zg)) = T at *
  generalize reached n m K Z f kf zf = R at *
  go_wp2_with fail
  obtain ⟨ra, rcap, er, hr⟩ := hs90
  cases er
  go_loop [70] (fun i => ∃ j : Nat, j ≤ R.length ∧ i = .int .i64 j) (fun i => R.length - (intOf i).toNat)
  case atStart => exact ⟨0, Nat.zero_le _, rfl⟩
  case round =>
    obtain ⟨j, hj, rfl⟩ := hrel
    by_cases hlt : j < R.length
    · rcases hr with hr | ⟨pr, or, rfl, hpr, gr⟩
      · omega
      have hcell : w8.cell? ⟨pr, or + j, none⟩ = some (.int .i64 (R.getD j 0)) := gr j hlt
      have HB : Hid (hasB T.length (fun i => T.getD i 0) (R.getD j 0) = true) := (hasB_list T _).trans (by
        have : R.getD j 0 ∈ R := by rw [List.getD_eq_getElem?_getD, List.getElem?_eq_getElem hlt]; exact List.getElem_mem hlt
        simpa using HM.out _ this)
      generalize R.getD j 0 = rj at *
      clear gr
      go_wp2_with (go_at_call 20; refine (contains _ _ _ _ _ hs8 HTL.out).mono ?_; rw [HB.out]; rintro e w' ⟨rfl, rfl⟩)
      go_round
      case rel => exact ⟨j + 1, by omega, by go_num⟩
      case measure => simp [intOf]; omega
    · by_cases hz : R.length = 0
      · have hzi : ((R.length : Int) == 0) = true := by rw [hz]; rfl
        clear HF
        go_wp2_with fail
        go_quiet (fail)
        go_wp2_with fail
        go_ret
        exact ⟨rfl, below_step hbw8 (below_drewN' _ _)⟩
      · obtain ⟨ht0, hte⟩ := HF.out hz
        have hzi : ((R.length : Int) == 0) = false := beq_eq_false_iff_ne.2 (by omega)
        have hti : (0 : Int) < (T.length : Int) := by omega
        have hri : (0 : Int) < (R.length : Int) := by omega
        obtain ⟨ta, tcap, et, htt⟩ := hs8
        cases et
        rcases htt with htt | ⟨pt, ot, rfl, hpt, gt⟩
        · omega
        rcases hr with hr | ⟨pr, or, rfl, hpr, gr⟩
        · omega
        have hc1 : w8.cell? ⟨pt, ot, none⟩ = some (.int .i64 (R.getD 0 0)) := by
          have := gt 0 ht0
          rw [Nat.add_zero] at this
          rw [this]; show some (Value.int .i64 (T.getD 0 0)) = _; rw [hte]
        have hc2 : w8.cell? ⟨pr, or, none⟩ = some (.int .i64 (R.getD 0 0)) := by
          have := gr 0 (by omega)
          rw [Nat.add_zero] at this
          exact this
        have heq : (R.getD 0 0 == R.getD 0 0) = true := by simp
        clear gt gr hte HF hs9
        generalize R.getD 0 0 = r0 at *
        go_wp2_with fail
        go_quiet (fail)
        go_wp2_with fail
        go_ret
        exact ⟨rfl, below_step hbw8 (below_drewN' _ _)⟩

set_option maxHeartbeats 4000000 in
theorem more_less_bad (v u mv : Value) (n : Nat) (m : Nat → Nat) (K Z : Nat → Nat → Int) (f : Nat) (kf zf : Nat → Int) (g : Nat) (kg zg : Nat → Int) (w : World) (h : CellsAt w v n m K Z) (hu : ValsAt w u f kf zf) (hm : ValsAt w mv g kg zg)
    (hv : Valid n m K Z f kf zf) (hfew : f + g ≤ 100) (hn : n < 24) (hbad2 : ¬ reachErr n m K Z (both f g kf zf kg zg).length (fstAt (both f g kf zf kg zg)) (sndAt (both f g kf zf kg zg)) = 0) :
    Calls Try.prog 6 #[v, u, mv] w fun e w' => e = .returned (.bool true) ∧ Below w.heap.size w w' := by
  have HV : Hid (Valid n m K Z f kf zf) := hv
  have hf400 := hv.short
  have hn24 := hv.few
  have HRL : Hid ((reached n m K Z f kf zf).length ≤ maxLen) := by
    have h1 := (rt_good hv n).len
    have h2 : (reached n m K Z f kf zf).length ≤ n := h1
    have h3 := hv.few
    unfold maxLen
    show _ ≤ _
    omega
  clear hv
  have h0 := h
  have hu0 := hu
  have hm0 := hm
  obtain ⟨la, lcap, rfl, _, _⟩ := h0
  obtain ⟨ua, ucap, rfl, _, _⟩ := hu0
  obtain ⟨ma, mcap, rfl, _, _⟩ := hm0
  have hbi : ¬ (100 : Int) < (f : Int) + (g : Int) := by omega
  have hni : (n : Int) < 24 := by omega
  have HB2 : Hid (¬ reachErr n m K Z (both f g kf zf kg zg).length (fstAt (both f g kf zf kg zg)) (sndAt (both f g kf zf kg zg)) = 0) := hbad2
  have het2 : (reachErr n m K Z (both f g kf zf kg zg).length (fstAt (both f g kf zf kg zg)) (sndAt (both f g kf zf kg zg)) != 0) = true := by simp [hbad2]
  clear hbad2
  go_enter Try.func6, Try.ntmps6
  go_wp2_with fail
  refine (reach_ok _ _ _ _ _ _ _ _ _ _ h hu HV.out).mono ?_
  rintro e w1 ⟨s, rfl, hs, hb1⟩
  obtain ⟨sa, scap, rfl, hs'⟩ := hs
  go_wp2_with fail
  refine (met _).mono ?_
  rintro e w2 ⟨rfl, hb2⟩
  have hs2 : IntsAt w2 (.slice sa (reached n m K Z f kf zf).length scap) (reached n m K Z f kf zf).length (fun i => (reached n m K Z f kf zf).getD i 0) := IntsAt.below ⟨sa, scap, rfl, hs'⟩ hb2
  have hbw := below_step hb1 hb2
  clear hs' hb1 hb2
  go_wp2_with fail
  refine (cloneCells _ _ _ _ _ _ (h.below hbw) (by omega)).mono ?_
  rintro e w3 ⟨ad3, cap3, us, rfl, hul, hown3, hus, hb3⟩
  have hb3n := hb3.size
  subst hul
  go_wp2_with (first
    | (at_builtin; refine append_cells _ rfl _ _ rfl w2.heap.size _ us rfl ((hown3.alloc _).alloc _) ⟨w3.heap.size + 1, 0, none⟩ 1 [.slice (some ⟨w3.heap.size, 0, none⟩) 1 1] rfl (fun j u hj => by have := cell_one_new (w3.alloc (.cells #[.int .i64 0, .int .i64 0] 30)) (.slice (some ⟨w3.heap.size, 0, none⟩) 1 1) 28 j u hj; simpa using this) (fun u hu => by simp at hu; subst hu; rfl) (by simp; omega) (by simp; omega) ?_; intro ad4 cap4 w4 hown4 hgrow4)
    | fail)
  have hb4 := ((hb3.alloc hb3.size _).alloc (Nat.le_trans hb3.size (by simp)) _).grown hgrow4 (Nat.le_trans hb3.size (by simp; omega)) (fun k hk => (hown3.lt k hk).1)
  have hrow4 : ∀ i, i < (us ++ [Value.slice (some ⟨w3.heap.size, 0, none⟩) 1 1]).length → ∃ u, (us ++ [Value.slice (some ⟨w3.heap.size, 0, none⟩) 1 1])[i]? = some u ∧ ValsAt w4 u (mMore us.length m i) (kMore us.length K i) (kMore us.length Z i) := by
    intro i hi
    by_cases e : i = us.length
    · subst e
      refine ⟨.slice (some ⟨w3.heap.size, 0, none⟩) 1 1, by simp, ?_⟩
      have e1 : mMore us.length m us.length = 1 := if_pos rfl
      rw [e1]
      have hcell : ∀ q, q < 2 → w4.cell? ⟨w3.heap.size, q, none⟩ = some (.int .i64 0) := fun q hq => by
        have eb := hgrow4.block w3.heap.size (by simp; omega) (fun e => by have := (hown3.lt _ e.symm).2; omega)
        refine (World.cell?_of_block (w := (w3.alloc (.cells #[.int .i64 0, .int .i64 0] 30)).alloc (.cells #[.slice (some ⟨w3.heap.size, 0, none⟩) 1 1] 28)) (a := ⟨w3.heap.size, q, none⟩) eb).trans ?_
        rw [World.cell?_alloc_lt _ _ _ (by simp), World.cell?_alloc_new]
        match q, hq with
        | 0, _ => rfl
        | 1, _ => rfl
      refine ⟨_, 1, rfl, by omega, Or.inr ⟨_, 0, rfl, ?_, fun j hj => ?_⟩⟩
      · have := hgrow4.size
        simp at this
        omega
      · obtain rfl : j = 0 := by omega
        have e2 : kMore us.length K us.length 0 = 0 := if_pos rfl
        have e3 : kMore us.length Z us.length 0 = 0 := if_pos rfl
        rw [e2, e3]
        exact ⟨hcell 0 (by omega), hcell 1 (by omega)⟩
    · have hil : i < us.length := by simp at hi; omega
      obtain ⟨u, hu1, hu2⟩ := hus i hil
      have e1 : mMore us.length m i = m i := if_neg e
      have e2 : kMore us.length K i = K i := funext fun j => if_neg e
      have e3 : kMore us.length Z i = Z i := funext fun j => if_neg e
      rw [e1, e2, e3]
      exact ⟨u, by rw [List.getElem?_append_left hil]; exact hu1, hu2.below hb4⟩
  have hcells := own_cells hown4 hrow4 (by simp; omega)
  rw [List.length_append] at hcells
  have hcells' : CellsAt w4 (.slice ad4 (us.length + 1) cap4) (us.length + 1) (mMore us.length m) (kMore us.length K) (kMore us.length Z) := hcells
  have hbw4 := below_step hbw hb4
  have hs4 := hs2.below hb4
  clear hcells hrow4 hown4 hgrow4 hus hown3 hb3 hb3n hs2 hbw hb4
  go_wp2_with fail
  refine (reach_ok _ _ _ _ _ _ _ _ _ _ hcells' (hu.below hbw4) (valid_more HV.out (by omega))).mono ?_
  rintro e w5 ⟨s5, rfl, hs5, hb5⟩
  rw [reached_more HV.out] at hs5
  have hs50 := hs5
  obtain ⟨sa5, scap5, rfl, _⟩ := hs50
  go_wp2_with fail
  refine (eqInts _ _ _ _ _ _ _ (hs4.below hb5) hs5 HRL.out HRL.out).mono ?_
  rintro e w6 ⟨rfl, m6, rfl⟩
  rw [eqB_yes (fun _ _ => rfl)]
  have hbw := below_step (below_step hbw4 hb5) (below_drewN' w5 m6)
  have hs2 := (hs4.below hb5).below (below_drewN' w5 m6)
  clear hs4 hb5 hbw4 hs5 hcells'
  generalize w5.drewN m6 = w2 at *
  generalize us.length = n at *
  go_wp2_with fail
  refine (concat _ 2 (pm f g) (pk kf kg) (pk zf zg) _ (two_rows (hu.below hbw) (hm.below hbw)) (by have := both_len f g kf zf kg zg; unfold both at this; omega)).mono ?_
  rintro e w7 ⟨ad7, cap7, rfl, hown7, hb7⟩
  have hbw7 := below_step (below_step hbw (below_alloc _ _)) hb7
  have hs7 := (hs2.alloc (.cells #[.slice ua f ucap, .slice ma g mcap] 28)).below hb7
  have hvals := own_vals (L := both f g kf zf kg zg) hown7 (by rw [both_len]; omega)
  clear hown7 hb7 hs2 hbw
  have hbl : (catTo (pm f g) (pk kf kg) (pk zf zg) 2).length = (both f g kf zf kg zg).length := rfl
  rw [hbl] at *
  clear hbl
  go_wp2_with fail
  refine (reach_bad _ _ _ _ _ _ _ _ _ _ (h.below hbw7) hvals HB2.out).mono ?_
  rintro e w8 ⟨rfl, hb8⟩
  go_wp2_with fail
  go_ret
  exact ⟨rfl, below_step hbw7 hb8⟩

set_option maxHeartbeats 4000000 in
theorem more_less_ok (v u mv : Value) (n : Nat) (m : Nat → Nat) (K Z : Nat → Nat → Int) (f : Nat) (kf zf : Nat → Int) (g : Nat) (kg zg : Nat → Int) (w : World) (h : CellsAt w v n m K Z) (hu : ValsAt w u f kf zf) (hm : ValsAt w mv g kg zg)
    (hv : Valid n m K Z f kf zf) (hfew : f + g ≤ 100) (hn : n < 24) (hv2 : Valid n m K Z (both f g kf zf kg zg).length (fstAt (both f g kf zf kg zg)) (sndAt (both f g kf zf kg zg))) :
    Calls Try.prog 6 #[v, u, mv] w fun e w' => e = .returned (.bool true) ∧ Below w.heap.size w w' := by
  have HV : Hid (Valid n m K Z f kf zf) := hv
  have hf400 := hv.short
  have hn24 := hv.few
  have HRL : Hid ((reached n m K Z f kf zf).length ≤ maxLen) := by
    have h1 := (rt_good hv n).len
    have h2 : (reached n m K Z f kf zf).length ≤ n := h1
    have h3 := hv.few
    unfold maxLen
    show _ ≤ _
    omega
  clear hv
  have h0 := h
  have hu0 := hu
  have hm0 := hm
  obtain ⟨la, lcap, rfl, _, _⟩ := h0
  obtain ⟨ua, ucap, rfl, _, _⟩ := hu0
  obtain ⟨ma, mcap, rfl, _, _⟩ := hm0
  have hbi : ¬ (100 : Int) < (f : Int) + (g : Int) := by omega
  have hni : (n : Int) < 24 := by omega
  have HV2 : Hid (Valid n m K Z (both f g kf zf kg zg).length (fstAt (both f g kf zf kg zg)) (sndAt (both f g kf zf kg zg))) := hv2
  clear hv2
  go_enter Try.func6, Try.ntmps6
  go_wp2_with fail
  refine (reach_ok _ _ _ _ _ _ _ _ _ _ h hu HV.out).mono ?_
  rintro e w1 ⟨s, rfl, hs, hb1⟩
  obtain ⟨sa, scap, rfl, hs'⟩ := hs
  go_wp2_with fail
  refine (met _).mono ?_
  rintro e w2 ⟨rfl, hb2⟩
  have hs2 : IntsAt w2 (.slice sa (reached n m K Z f kf zf).length scap) (reached n m K Z f kf zf).length (fun i => (reached n m K Z f kf zf).getD i 0) := IntsAt.below ⟨sa, scap, rfl, hs'⟩ hb2
  have hbw := below_step hb1 hb2
  clear hs' hb1 hb2
  go_wp2_with fail
  refine (cloneCells _ _ _ _ _ _ (h.below hbw) (by omega)).mono ?_
  rintro e w3 ⟨ad3, cap3, us, rfl, hul, hown3, hus, hb3⟩
  have hb3n := hb3.size
  subst hul
  go_wp2_with (first
    | (at_builtin; refine append_cells _ rfl _ _ rfl w2.heap.size _ us rfl ((hown3.alloc _).alloc _) ⟨w3.heap.size + 1, 0, none⟩ 1 [.slice (some ⟨w3.heap.size, 0, none⟩) 1 1] rfl (fun j u hj => by have := cell_one_new (w3.alloc (.cells #[.int .i64 0, .int .i64 0] 30)) (.slice (some ⟨w3.heap.size, 0, none⟩) 1 1) 28 j u hj; simpa using this) (fun u hu => by simp at hu; subst hu; rfl) (by simp; omega) (by simp; omega) ?_; intro ad4 cap4 w4 hown4 hgrow4)
    | fail)
  have hb4 := ((hb3.alloc hb3.size _).alloc (Nat.le_trans hb3.size (by simp)) _).grown hgrow4 (Nat.le_trans hb3.size (by simp; omega)) (fun k hk => (hown3.lt k hk).1)
  have hrow4 : ∀ i, i < (us ++ [Value.slice (some ⟨w3.heap.size, 0, none⟩) 1 1]).length → ∃ u, (us ++ [Value.slice (some ⟨w3.heap.size, 0, none⟩) 1 1])[i]? = some u ∧ ValsAt w4 u (mMore us.length m i) (kMore us.length K i) (kMore us.length Z i) := by
    intro i hi
    by_cases e : i = us.length
    · subst e
      refine ⟨.slice (some ⟨w3.heap.size, 0, none⟩) 1 1, by simp, ?_⟩
      have e1 : mMore us.length m us.length = 1 := if_pos rfl
      rw [e1]
      have hcell : ∀ q, q < 2 → w4.cell? ⟨w3.heap.size, q, none⟩ = some (.int .i64 0) := fun q hq => by
        have eb := hgrow4.block w3.heap.size (by simp; omega) (fun e => by have := (hown3.lt _ e.symm).2; omega)
        refine (World.cell?_of_block (w := (w3.alloc (.cells #[.int .i64 0, .int .i64 0] 30)).alloc (.cells #[.slice (some ⟨w3.heap.size, 0, none⟩) 1 1] 28)) (a := ⟨w3.heap.size, q, none⟩) eb).trans ?_
        rw [World.cell?_alloc_lt _ _ _ (by simp), World.cell?_alloc_new]
        match q, hq with
        | 0, _ => rfl
        | 1, _ => rfl
      refine ⟨_, 1, rfl, by omega, Or.inr ⟨_, 0, rfl, ?_, fun j hj => ?_⟩⟩
      · have := hgrow4.size
        simp at this
        omega
      · obtain rfl : j = 0 := by omega
        have e2 : kMore us.length K us.length 0 = 0 := if_pos rfl
        have e3 : kMore us.length Z us.length 0 = 0 := if_pos rfl
        rw [e2, e3]
        exact ⟨hcell 0 (by omega), hcell 1 (by omega)⟩
    · have hil : i < us.length := by simp at hi; omega
      obtain ⟨u, hu1, hu2⟩ := hus i hil
      have e1 : mMore us.length m i = m i := if_neg e
      have e2 : kMore us.length K i = K i := funext fun j => if_neg e
      have e3 : kMore us.length Z i = Z i := funext fun j => if_neg e
      rw [e1, e2, e3]
      exact ⟨u, by rw [List.getElem?_append_left hil]; exact hu1, hu2.below hb4⟩
  have hcells := own_cells hown4 hrow4 (by simp; omega)
  rw [List.length_append] at hcells
  have hcells' : CellsAt w4 (.slice ad4 (us.length + 1) cap4) (us.length + 1) (mMore us.length m) (kMore us.length K) (kMore us.length Z) := hcells
  have hbw4 := below_step hbw hb4
  have hs4 := hs2.below hb4
  clear hcells hrow4 hown4 hgrow4 hus hown3 hb3 hb3n hs2 hbw hb4
  go_wp2_with fail
  refine (reach_ok _ _ _ _ _ _ _ _ _ _ hcells' (hu.below hbw4) (valid_more HV.out (by omega))).mono ?_
  rintro e w5 ⟨s5, rfl, hs5, hb5⟩
  rw [reached_more HV.out] at hs5
  have hs50 := hs5
  obtain ⟨sa5, scap5, rfl, _⟩ := hs50
  go_wp2_with fail
  refine (eqInts _ _ _ _ _ _ _ (hs4.below hb5) hs5 HRL.out HRL.out).mono ?_
  rintro e w6 ⟨rfl, m6, rfl⟩
  rw [eqB_yes (fun _ _ => rfl)]
  have hbw := below_step (below_step hbw4 hb5) (below_drewN' w5 m6)
  have hs2 := (hs4.below hb5).below (below_drewN' w5 m6)
  clear hs4 hb5 hbw4 hs5 hcells'
  generalize w5.drewN m6 = w2 at *
  generalize us.length = n at *
  go_wp2_with fail
  refine (concat _ 2 (pm f g) (pk kf kg) (pk zf zg) _ (two_rows (hu.below hbw) (hm.below hbw)) (by have := both_len f g kf zf kg zg; unfold both at this; omega)).mono ?_
  rintro e w7 ⟨ad7, cap7, rfl, hown7, hb7⟩
  have hbw7 := below_step (below_step hbw (below_alloc _ _)) hb7
  have hs7 := (hs2.alloc (.cells #[.slice ua f ucap, .slice ma g mcap] 28)).below hb7
  have hvals := own_vals (L := both f g kf zf kg zg) hown7 (by rw [both_len]; omega)
  clear hown7 hb7 hs2 hbw
  have hbl : (catTo (pm f g) (pk kf kg) (pk zf zg) 2).length = (both f g kf zf kg zg).length := rfl
  rw [hbl] at *
  clear hbl
  go_wp2_with fail
  refine (reach_ok _ _ _ _ _ _ _ _ _ _ (h.below hbw7) hvals HV2.out).mono ?_
  rintro e w8 ⟨s8, rfl, hs8, hb8⟩
  have hs9 := hs7.below hb8
  have hbw8 := below_step hbw7 hb8
  have hs80 := hs8
  obtain ⟨sa8, scap8, rfl, _⟩ := hs80
  have hs90 := hs9
  clear hs7 hvals hb8 hbw7
  have HF := hidM (reached_first (n := n) (m := m) (K := K) (Z := Z) (f := f) (kf := kf) (zf := zf) (f2 := (both f g kf zf kg zg).length) (k2 := fstAt (both f g kf zf kg zg)) (z2 := sndAt (both f g kf zf kg zg)) (by rw [both_len]; omega) (fun i hi => ⟨(both_at hi).1.symm, (both_at hi).2.symm⟩))
  have HM : Hid (∀ x, x ∈ reached n m K Z f kf zf → x ∈ reached n m K Z (both f g kf zf kg zg).length (fstAt (both f g kf zf kg zg)) (sndAt (both f g kf zf kg zg))) := fun x hx =>
    reached_mono HV.out HV2.out (fun j hj hk => ⟨j, by rw [both_len]; omega, by rw [(both_at hj).1]; exact hk, (both_at hj).2.symm⟩) hx
  have HTL : Hid ((reached n m K Z (both f g kf zf kg zg).length (fstAt (both f g kf zf kg zg)) (sndAt (both f g kf zf kg zg))).length ≤ maxLen) := by
    have h1 := (rt_good HV2.out n).len
    have h2 : (reached n m K Z (both f g kf zf kg zg).length (fstAt (both f g kf zf kg zg)) (sndAt (both f g kf zf kg zg))).length ≤ n := h1
    unfold maxLen
    show _ ≤ _
    omega
  have hRb : (reached n m K Z f kf zf).length ≤ 24 := by
    have h2 : (reached n m K Z f kf zf).length ≤ n := (rt_good HV.out n).len
    omega
  have hTb : (reached n m K Z (both f g kf zf kg zg).length (fstAt (both f g kf zf kg zg)) (sndAt (both f g kf zf kg zg))).length ≤ 24 := by
    have h2 : (reached n m K Z (both f g kf zf kg zg).length (fstAt (both f g kf zf kg zg)) (sndAt (both f g kf zf kg zg))).length ≤ n := (rt_good HV2.out n).len
    omega
  generalize reached n m K Z (both f g kf zf kg zg).length (fstAt (both f g kf zf kg zg)) (sndAt (both f g kf zf kg zg)) = T at *
  generalize reached n m K Z f kf zf = R at *
  go_wp2_with fail
  obtain ⟨ra, rcap, er, hr⟩ := hs90
  cases er
  go_loop [70] (fun i => ∃ j : Nat, j ≤ R.length ∧ i = .int .i64 j) (fun i => R.length - (intOf i).toNat)
  case atStart => exact ⟨0, Nat.zero_le _, rfl⟩
  case round =>
    obtain ⟨j, hj, rfl⟩ := hrel
    by_cases hlt : j < R.length
    · rcases hr with hr | ⟨pr, or, rfl, hpr, gr⟩
      · omega
      have hcell : w8.cell? ⟨pr, or + j, none⟩ = some (.int .i64 (R.getD j 0)) := gr j hlt
      have HB : Hid (hasB T.length (fun i => T.getD i 0) (R.getD j 0) = true) := (hasB_list T _).trans (by
        have : R.getD j 0 ∈ R := by rw [List.getD_eq_getElem?_getD, List.getElem?_eq_getElem hlt]; exact List.getElem_mem hlt
        simpa using HM.out _ this)
      generalize R.getD j 0 = rj at *
      clear gr
      go_wp2_with (go_at_call 20; refine (contains _ _ _ _ _ hs8 HTL.out).mono ?_; rw [HB.out]; rintro e w' ⟨rfl, rfl⟩)
      go_round
      case rel => exact ⟨j + 1, by omega, by go_num⟩
      case measure => simp [intOf]; omega
    · by_cases hz : R.length = 0
      · have hzi : ((R.length : Int) == 0) = true := by rw [hz]; rfl
        clear HF
        go_wp2_with fail
        go_quiet (fail)
        go_wp2_with fail
        go_ret
        exact ⟨rfl, below_step hbw8 (below_drewN' _ _)⟩
      · obtain ⟨ht0, hte⟩ := HF.out hz
        have hzi : ((R.length : Int) == 0) = false := beq_eq_false_iff_ne.2 (by omega)
        have hti : (0 : Int) < (T.length : Int) := by omega
        have hri : (0 : Int) < (R.length : Int) := by omega
        obtain ⟨ta, tcap, et, htt⟩ := hs8
        cases et
        rcases htt with htt | ⟨pt, ot, rfl, hpt, gt⟩
        · omega
        rcases hr with hr | ⟨pr, or, rfl, hpr, gr⟩
        · omega
        have hc1 : w8.cell? ⟨pt, ot, none⟩ = some (.int .i64 (R.getD 0 0)) := by
          have := gt 0 ht0
          rw [Nat.add_zero] at this
          rw [this]; show some (Value.int .i64 (T.getD 0 0)) = _; rw [hte]
        have hc2 : w8.cell? ⟨pr, or, none⟩ = some (.int .i64 (R.getD 0 0)) := by
          have := gr 0 (by omega)
          rw [Nat.add_zero] at this
          exact this
        have heq : (R.getD 0 0 == R.getD 0 0) = true := by simp
        clear gt gr hte HF hs9
        generalize R.getD 0 0 = r0 at *
        go_wp2_with fail
        go_quiet (fail)
        go_wp2_with fail
        go_ret
        exact ⟨rfl, below_step hbw8 (below_drewN' _ _)⟩

end Go.Proofs.Ytnkhdhbjdemdkaa
