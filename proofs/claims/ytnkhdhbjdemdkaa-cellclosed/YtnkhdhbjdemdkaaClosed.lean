/- CellClosed: what is reached is reached once, and what all of it leads to is just as many. -/
import Derived.Test.YtnkhdhbjdemdkaaClone
namespace Go.Proofs.Ytnkhdhbjdemdkaa
open Go.RowKit Go.Maps

set_option maxHeartbeats 1000000 in
theorem closed_bad (v u : Value) (n : Nat) (m : Nat → Nat) (K Z : Nat → Nat → Int) (f : Nat) (kf zf : Nat → Int) (w : World) (h : CellsAt w v n m K Z) (hu : ValsAt w u f kf zf)
    (hbad : ¬ reachErr n m K Z f kf zf = 0) :
    Calls Try.prog 5 #[v, u] w fun e w' => e = .returned (.bool true) ∧ Below w.heap.size w w' := by
  have het : (reachErr n m K Z f kf zf != 0) = true := by simp [hbad]
  have HB : Hid (¬ reachErr n m K Z f kf zf = 0) := hbad
  clear hbad
  go_enter Try.func5, Try.ntmps5
  go_wp2_with fail
  refine (reach_bad _ _ _ _ _ _ _ _ _ _ h hu HB.out).mono ?_
  rintro e w1 ⟨rfl, hb1⟩
  go_wp2_with fail
  refine (met _).mono ?_
  rintro e w2 ⟨rfl, hb2⟩
  go_wp2_with fail
  refine (met _).mono ?_
  rintro e w3 ⟨rfl, hb3⟩
  go_wp2_with fail
  go_ret
  exact ⟨rfl, below_step (below_step hb1 hb2) hb3⟩

theorem BoolSet.more {w : World} {b n : Nat} {S : List Int} (h : BoolSet w b n S) : BoolSet w b (n + 1) S := by
  obtain ⟨D, h, r⟩ := h
  exact ⟨D, h.mono (Nat.le_succ _), r⟩

/-- A value that was boxed reads as it did behind a store into a set. -/
theorem box_kept1 {wr w1 : World} {sb : Nat} {c0 c1 : Value} {t : TypeId} (hg : (wr.alloc (.cells #[c0, c1] t)).grownBy w1 (some sb)) (hs : sb < wr.heap.size) :
    w1.cell? ⟨wr.heap.size, 1, none⟩ = some c1 := by
  have e := hg.block wr.heap.size (by simp) (fun e => by have := Option.some.inj e; omega)
  refine (World.cell?_of_block (w := wr.alloc (.cells #[c0, c1] t)) (a := ⟨wr.heap.size, 1, none⟩) e).trans ?_
  rw [World.cell?_alloc_new]
  rfl

theorem hid {p : Prop} (h : p) : Hid p := h

theorem take_next {R : List Int} (hR : R.Nodup) {j : Nat} (hj : j < R.length) : ¬ R.getD j 0 ∈ R.take j ∧ R.take (j + 1) = R.take j ++ [R.getD j 0] := by
  have e : R.getD j 0 = R[j] := by simp [List.getD, List.getElem?_eq_getElem hj]
  rw [e]
  refine ⟨fun hm => ?_, List.take_succ_eq_append_getElem hj⟩
  obtain ⟨i, hi, ei⟩ := List.mem_iff_getElem.1 hm
  have hil : i < j := by simp at hi; omega
  rw [List.getElem_take] at ei
  exact absurd ((List.getElem_inj hR).1 ei) (by omega)

set_option maxHeartbeats 4000000 in
theorem closed_ok (v u : Value) (n : Nat) (m : Nat → Nat) (K Z : Nat → Nat → Int) (f : Nat) (kf zf : Nat → Int) (w : World) (h : CellsAt w v n m K Z) (hu : ValsAt w u f kf zf)
    (hv : Valid n m K Z f kf zf) :
    Calls Try.prog 5 #[v, u] w fun e w' => e = .returned (.bool true) ∧ Below w.heap.size w w' := by
  have hmm := @run_makeMap Try.prog
  have HV : Hid (Valid n m K Z f kf zf) := hv
  have hn24 := hv.few
  have hf400 := hv.short
  have HG : Hid (Good n (reached n m K Z f kf zf)) := rt_good hv n
  have hRl := HG.out.len
  have HNL := hid (needed_len hv)
  have HIN : Hid (∀ i, i < (allOf n m K Z f kf zf).length → fstAt (allOf n m K Z f kf zf) i = 2 → sndAt (allOf n m K Z f kf zf) i ∈ reached n m K Z f kf zf) := fun i hi hk => allOf_in hv hi hk
  have HAL : Hid (∀ t, t ≤ (reached n m K Z f kf zf).length → (allTo m K Z f kf zf (reached n m K Z f kf zf) t).length ≤ 400 + 4 * t) := allTo_len hv HG.out
  have HAO : Hid (allOf n m K Z f kf zf = allTo m K Z f kf zf (reached n m K Z f kf zf) (reached n m K Z f kf zf).length) := rfl
  have h0 := h
  obtain ⟨la, lcap, rfl, hln, hc⟩ := h0
  clear hv
  go_enter Try.func5, Try.ntmps5
  go_wp2_with fail
  refine (reach_ok _ _ _ _ _ _ _ _ _ _ h hu HV.out).mono ?_
  rintro e w1 ⟨s, rfl, hs, hb1⟩
  generalize reached n m K Z f kf zf = R at *
  obtain ⟨sa, scap, rfl, hs'⟩ := hs
  go_wp2_with fail
  refine (met _).mono ?_
  rintro e wM ⟨rfl, hbM⟩
  have hbw := below_step hb1 hbM
  have hsM : IntsAt wM (.slice sa R.length scap) R.length (fun i => R.getD i 0) := IntsAt.below ⟨sa, scap, rfl, hs'⟩ hbM
  clear hs' hbM hb1
  go_wp2_with fail
  go_loopw [32] (fun i wr => ∃ j : Nat, j ≤ R.length ∧ i = .int .i64 j ∧ BoolSet wr wM.heap.size j (R.take j) ∧ Below wM.heap.size wM wr) (fun i _ => R.length - (intOf i).toNat)
  case atStart => exact ⟨0, Nat.zero_le _, rfl, BoolSet.made _, below_alloc _ _⟩
  case round =>
    obtain ⟨j, hj, rfl, hset, hb⟩ := hrel
    have hsr := hsM.below hb
    by_cases hlt : j < R.length
    · obtain ⟨c, hcn, hce⟩ := HG.out.at hlt
      obtain ⟨hno, htk⟩ := take_next HG.out.1 hlt
      rw [hce] at hno htk
      have hnd : decide ((c : Int) ∈ R.take j) = false := by simpa using hno
      have HM : Hid (meet1 (R.take j) 2 (c : Int) = R.take (j + 1)) := by rw [htk]; exact meet1_new rfl hno
      have hwf : (Lit.int .i64 (c : Int)).wf = true := wf_small (by omega) (by omega)
      obtain ⟨a2, cap2, e2, hi | ⟨g2, o2, rfl, hg2, gi⟩⟩ := hsr
      · omega
      cases e2
      have hcell : wr.cell? ⟨g2, o2 + j, none⟩ = some (.int .i64 (R.getD j 0)) := gi j hlt
      rw [hce] at hcell
      clear hno htk hce gi
      go_wp2_with (first
        | (at_lookup; refine look_bool _ rfl _ _ rfl wM.heap.size _ _ rfl hset _ rfl hwf ?_)
        | (at_mapUpdate; refine store_bool _ rfl _ _ _ rfl wM.heap.size _ _ rfl hset (by unfold maxLen; omega) _ rfl rfl hwf ?_; intro w3 hset3 hgrow3))
      go_roundw
      case rel => exact ⟨j + 1, by omega, by go_num, by rw [← HM.out]; exact hset3, hb.grown hgrow3 hb.size (fun k hk => by cases hk; exact Nat.le_refl _)⟩
      case measure => simp [intOf]; omega
    · have hset1 : BoolSet wr wM.heap.size R.length R := by
        have ej : j = R.length := by omega
        subst ej
        rw [List.take_length] at hset
        exact hset
      have hbw1 := below_step hbw hb
      have hsr1 := hsr
      clear hset hbw hb hsM hsr
      generalize wr = W1 at *
      go_wp2_with fail
      refine (clone _ _ _ _ _ (hu.below hbw1) (by omega)).mono ?_
      rintro e w2 ⟨ad0, cap0, rfl, hrow0, hb2⟩
      go_wp2_with fail
      go_loopw [10, 56] (fun av i wr => ∃ j : Nat, j ≤ R.length ∧ i = .int .i64 j ∧ wr.ownsRow W1.heap.size 30 2 av (allTo m K Z f kf zf R j).length (flat (allTo m K Z f kf zf R j)) ∧ Below W1.heap.size W1 wr) (fun _ i _ => R.length - (intOf i).toNat)
      case atStart => exact ⟨0, Nat.zero_le _, rfl, hrow0, hb2⟩
      case round =>
        clear hrow0 hb2
        obtain ⟨j, hj, rfl, hrow, hb⟩ := hrel
        have hll := HAL.out j hj
        obtain ⟨aad, acap, rfl⟩ := own_shape hrow
        by_cases hlt : j < R.length
        · have hsr := hsr1.below hb
          obtain ⟨c, hcn, hce⟩ := HG.out.at hlt
          have HN : Hid (allTo m K Z f kf zf R (j + 1) = allTo m K Z f kf zf R j ++ rowL (m c) (K c) (Z c)) := by
            have e : allTo m K Z f kf zf R (j + 1) = allTo m K Z f kf zf R j ++ rowL (m (R.getD j 0).toNat) (K (R.getD j 0).toNat) (Z (R.getD j 0).toNat) := rfl
            rw [hce] at e
            exact e
          obtain ⟨a2, cap2, e2, hi | ⟨g2, o2, rfl, hg2, gi⟩⟩ := hsr
          · omega
          cases e2
          have hcell : wr.cell? ⟨g2, o2 + j, none⟩ = some (.int .i64 (R.getD j 0)) := gi j hlt
          rw [hce] at hcell
          rcases hc with hc | ⟨p, o, rfl, hp, gc⟩
          · omega
          have hbww := below_step hbw1 hb
          obtain ⟨x, hx, hvx⟩ := gc c hcn
          rw [← hbww.cell hp] at hx
          obtain ⟨xa, xcap, rfl, hmc, hux⟩ := hvx.below hbww
          have hm4 := HV.out.most c hcn
          have hm1 := HV.out.least c hcn
          rcases hux with hux | ⟨xb, xo, rfl, hxb, gx⟩
          · omega
          have HX : Hid (∀ j u, (flat (rowL (m c) (K c) (Z c)))[j]? = some u → wr.cell? ((⟨xb, xo, none⟩ : Addr).add j) = some u) := row_news gx
          have hsz := hb.size
          clear gi gc hce gx
          go_wp2_with (at_builtin; refine append_vals _ rfl _ _ rfl W1.heap.size _ _ rfl hrow _ _ _ _ _ rfl HX.out (by omega) hsz ?_; intro ad3 cap3 w3 hrow3 hgrow3)
          go_roundw
          case rel => exact ⟨j + 1, by omega, by go_num, by rw [HN.out]; exact hrow3, hb.grown hgrow3 hsz (fun k hk => (hrow.lt k hk).1)⟩
          case measure => simp [intOf]; omega
        · have ej : j = R.length := by omega
          subst ej
          rw [HAO.out] at HNL HIN
          clear HAO HAL
          generalize allTo m K Z f kf zf R R.length = A at *
          have hvA := own_vals hrow (by omega)
          have hsetA := hset1.below hb
          have hsA := hsr1.below hb
          have hbw2 := below_step hbw1 hb
          clear hrow hb hset1 hsr1 hbw1 hc
          generalize wr = W2 at *
          obtain ⟨aa, ac, e3, hAn, hA⟩ := hvA
          cases e3
          go_wp2_with fail
          go_loopw [70] (fun i wr => ∃ j : Nat, j ≤ A.length ∧ i = .int .i64 j ∧ BoolSet wr W2.heap.size j (meetTo j (fstAt A) (sndAt A) []) ∧ Below W2.heap.size W2 wr) (fun i _ => A.length - (intOf i).toNat)
          case atStart => exact ⟨0, Nat.zero_le _, rfl, BoolSet.made _, below_alloc _ _⟩
          case round =>
            obtain ⟨j, hj, rfl, hset, hb⟩ := hrel
            have hsz := hb.size
            by_cases hlt : j < A.length
            · rcases hA with hA | ⟨pa, oa, rfl, hpa, ga⟩
              · omega
              obtain ⟨q0, q1⟩ := ga j hlt
              rw [← hb.cell hpa] at q0 q1
              clear ga
              have hin0 := HIN.out j hlt
              have hset1 := hsetA.below hb
              have hb1lt := hsetA.lt
              have HS : Hid (meetTo (j + 1) (fstAt A) (sndAt A) [] = meet1 (meetTo j (fstAt A) (sndAt A) []) (fstAt A j) (sndAt A j)) := rfl
              generalize meetTo j (fstAt A) (sndAt A) [] = S at *
              generalize fstAt A j = kj at *
              generalize sndAt A j = zj at *
              by_cases hk : kj = 2
              · subst hk
                have hin := hin0 rfl
                obtain ⟨z0, z1⟩ := HG.out.2 _ hin
                have hwf : (Lit.int .i64 zj).wf = true := wf_small z0 (by omega)
                have hdt : decide (zj ∈ R) = true := by simpa using hin
                have hkt : ((2 : Int) == 2) = true := rfl
                clear hin hin0
                go_wp2_with (first
                  | (at_mapUpdate; refine store_bool _ rfl _ _ _ rfl W2.heap.size _ _ rfl (hset.alloc _) (by unfold maxLen; omega) _ rfl rfl hwf ?_; intro w3 hset3 hgrow3; have hbox := box_kept1 hgrow3 hset.lt)
                  | (at_lookup; refine look_bool _ rfl _ _ rfl wM.heap.size _ _ rfl ((hset1.alloc _).kept hgrow3 (fun e => by have := Option.some.inj e; omega)) _ rfl hwf ?_))
                go_roundw
                case rel => exact ⟨j + 1, by omega, by go_num, by rw [HS.out]; exact hset3, (hb.alloc hsz _).grown hgrow3 (by simp; omega) (fun k hk => by cases hk; exact Nat.le_refl _)⟩
                case measure => simp [intOf]; omega
              · have hkt : (kj == 2) = false := by simp [hk]
                have HE : Hid (meet1 S kj zj = S) := meet1_no hk
                clear hk hin0
                go_wp2
                go_roundw
                case rel => exact ⟨j + 1, by omega, by go_num, by rw [HS.out, HE.out]; exact (hset.alloc _).more, hb.alloc hsz _⟩
                case measure => simp [intOf]; omega
            · have ej : j = A.length := by omega
              subst ej
              have hnl := HNL.out
              have hfin : (((meetTo A.length (fstAt A) (sndAt A) []).length : Int) == (R.length : Int)) = true := by rw [hnl]; simp
              generalize meetTo A.length (fstAt A) (sndAt A) [] = S at *
              clear hnl HNL
              go_wp2_with (at_len; refine len_bool _ rfl _ rfl W2.heap.size _ _ rfl hset ?_)
              go_ret
              exact ⟨rfl, below_step hbw2 hb⟩

end Go.Proofs.Ytnkhdhbjdemdkaa
