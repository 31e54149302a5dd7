/- Met of the reckoning beside the program: the same list as Reach's. -/
import Derived.Test.YtnkhdhbjdemdkaaContains
namespace Go.Proofs.Ytnkhdhbjdemdkaa
open Go.RowKit Go.Maps

/-- What is there ahead of round t, where round 0 looks at the values themselves. -/
def pre (m : Nat → Nat) (K Z : Nat → Nat → Int) (f : Nat) (kf zf : Nat → Int) : Nat → List Int
  | 0 => []
  | t + 1 => rt m K Z f kf zf t

theorem small_len {n : Nat} {R : List Int} (h : Good n R) (hn : n ≤ 24) : R.length ≤ 24 := Nat.le_trans h.len hn

theorem pre_good {n : Nat} {m : Nat → Nat} {K Z : Nat → Nat → Int} {f : Nat} {kf zf : Nat → Int} (hv : Valid n m K Z f kf zf) : ∀ t, Good n (pre m K Z f kf zf t)
  | 0 => good_nil n
  | t + 1 => rt_good hv t

set_option maxHeartbeats 2000000 in
theorem met_ref (v u : Value) (n : Nat) (m : Nat → Nat) (K Z : Nat → Nat → Int) (f : Nat) (kf zf : Nat → Int) (w : World) (h : CellsAt w v n m K Z) (hu : ValsAt w u f kf zf)
    (hv : Valid n m K Z f kf zf) :
    Calls Try.prog 16 #[v, u] w fun e w' => ∃ s, e = .returned s ∧ IntsAt w' s (reached n m K Z f kf zf).length (fun i => (reached n m K Z f kf zf).getD i 0) ∧ Below w.heap.size w w' := by
  have HV : Hid (Valid n m K Z f kf zf) := hv
  have hn24 := hv.few
  have hf400 := hv.short
  clear hv
  obtain ⟨a, cap, rfl, hn, hc⟩ := h
  obtain ⟨ua, ucap, rfl, hfn, hu⟩ := hu
  go_enter Try.func16, Try.ntmps16
  go_wp2
  go_loopw [5, 6, 7] (fun ov mv i wr => ∃ t : Nat, t ≤ n + 1 ∧ (∃ iv : Int, i = .int .i64 iv ∧ Hid (iv = (t : Int) - 1)) ∧ (t = 0 → mv = .slice ua f ucap) ∧ wr.ownsRow w.heap.size 3 1 ov (pre m K Z f kf zf t).length ((pre m K Z f kf zf t).map (Value.int .i64)) ∧ Below w.heap.size w wr) (fun _ _ i _ => ((n : Int) - intOf i).toNat)
  case atStart => exact ⟨0, Nat.zero_le _, ⟨-1, rfl, rfl⟩, fun _ => rfl, World.ownsRow_nil _ _ _ _, Below.refl _ _⟩
  case round =>
    obtain ⟨t, ht, ⟨iv, rfl, hiv⟩, hmv, hrow, hb⟩ := hrel
    have hgood := pre_good HV.out t
    have hgl := hgood.len
    have hints := own_ints hrow
    obtain ⟨oa, ocap, rfl⟩ := own_shape hrow
    rcases t with _ | s
    · obtain rfl : iv = -1 := hiv
      obtain rfl := hmv rfl
      have HS : Hid (pre m K Z f kf zf 1 = meetTo f kf zf (pre m K Z f kf zf 0)) := rfl
      have HZ : Hid (∀ i, i < f → kf i = 2 → 0 ≤ zf i ∧ zf i ≤ 1000) := fun i hi hk => by have := HV.out.from i hi hk; omega
      have hlm : (-1 : Int) < ((pre m K Z f kf zf 0).length : Int) := by omega
      generalize pre m K Z f kf zf 0 = R at *
      clear hmv hgood
      go_wp2
      go_loopw [28, 5] (fun i ov wi => ∃ x : Nat, x ≤ f ∧ i = .int .i64 x ∧ wi.ownsRow w.heap.size 3 1 ov (meetTo x kf zf R).length ((meetTo x kf zf R).map (Value.int .i64)) ∧ Below w.heap.size w wi) (fun i _ _ => f - (intOf i).toNat)
      case atStart => exact ⟨0, Nat.zero_le _, rfl, hrow, hb⟩
      case round =>
        clear hrow hb hints
        obtain ⟨x, hx, rfl, hrow, hb⟩ := hrel
        have hl := meetTo_len x kf zf R
        have hints := own_ints hrow
        obtain ⟨oa1, ocap1, rfl⟩ := own_shape hrow
        by_cases hlt : x < f
        · rcases hu with hq | ⟨pu, ou, rfl, hpu, gu⟩
          · omega
          obtain ⟨q0, q1⟩ := gu x hlt
          rw [← hb.cell hpu] at q0 q1
          clear gu
          have hsz := hb.size
          have hzx := HZ.out x hlt
          have HX : Hid (meetTo (x + 1) kf zf R = meet1 (meetTo x kf zf R) (kf x) (zf x)) := rfl
          generalize meetTo x kf zf R = R1 at *
          generalize kf x = kj at *
          generalize zf x = zj at *
          by_cases hk : kj = 2
          · subst hk
            obtain ⟨z0, z1⟩ := hzx rfl
            have hk2 : ((2 : Int) == 2) = true := rfl
            have hlR : R1.length ≤ maxLen := by unfold maxLen; omega
            by_cases hin : zj ∈ R1
            · have HB : Hid (hasB R1.length (fun i => R1.getD i 0) zj = true) := (hasB_list R1 zj).trans (by simpa using hin)
              have HE : Hid (meet1 R1 2 zj = R1) := meet1_old hin
              clear hin
              go_wp2_with (go_at_call 20; refine (contains _ _ _ _ _ (hints.alloc _) hlR).mono ?_; rw [HB.out]; rintro e w' ⟨rfl, rfl⟩)
              go_roundw
              case rel => exact ⟨x + 1, by omega, by go_num, by rw [HX.out, HE.out]; exact hrow.alloc _, hb.alloc hsz _⟩
              case measure => simp [intOf]; omega
            · have HB : Hid (hasB R1.length (fun i => R1.getD i 0) zj = false) := (hasB_list R1 zj).trans (by simpa using hin)
              have HE : Hid (meet1 R1 2 zj = R1 ++ [zj]) := meet1_new rfl hin
              clear hin
              go_wp2_with (first
                | (go_at_call 20; refine (contains _ _ _ _ _ (hints.alloc _) hlR).mono ?_; rw [HB.out]; rintro e w' ⟨rfl, rfl⟩)
                | (at_builtin; refine append_int _ rfl _ _ rfl w.heap.size _ R1 rfl (hrow.alloc _) zj _ (wr.heap.size + 1) (by simp) rfl (by omega) (by simp; omega) ?_; intro ad cp w2 hown2 hgrow2))
              go_roundw
              case rel =>
                have b3 := (((hb.alloc hsz _).alloc (by simp; omega) _).grown hgrow2 (by simp; omega) (fun k hk => (hrow.lt k hk).1))
                exact ⟨x + 1, by omega, by go_num, by rw [HX.out, HE.out]; simpa using hown2, b3⟩
              case measure => simp [intOf]; omega
          · have hkt : (kj == 2) = false := by simp [hk]
            have HE : Hid (meet1 R1 kj zj = R1) := meet1_no hk
            clear hk
            go_wp2
            go_roundw
            case rel => exact ⟨x + 1, by omega, by go_num, by rw [HX.out, HE.out]; exact hrow.alloc _, hb.alloc hsz _⟩
            case measure => simp [intOf]; omega
        · obtain rfl : x = f := by omega
          go_wp2
          go_roundw
          case rel => exact ⟨1, by omega, ⟨_, by go_num, by simp only [Hid]; omega⟩, by omega, by rw [HS.out]; exact hrow, hb⟩
          case measure => simp [intOf] <;> omega
    · obtain rfl : iv = (s : Int) := by have := hiv.out; omega
      clear hmv
      have HD : Hid (¬ s < (pre m K Z f kf zf (s + 1)).length → reached n m K Z f kf zf = pre m K Z f kf zf (s + 1)) := rt_done (by omega)
      have HN : Hid (s < (pre m K Z f kf zf (s + 1)).length → pre m K Z f kf zf (s + 1 + 1) = stepR m K Z s (pre m K Z f kf zf (s + 1))) := rt_next
      generalize pre m K Z f kf zf (s + 1) = R at *
      by_cases hsl : ¬ s < R.length
      · have HE : Hid (reached n m K Z f kf zf = R) := HD.out hsl
        clear HN HD hgood hrow
        go_wp2
        go_ret
        exact ⟨_, rfl, by rw [HE.out]; exact hints, hb⟩
      have hsl' : s < R.length := by omega
      clear hsl
      obtain ⟨c, hcn, hce⟩ := hgood.at hsl'
      have HS : Hid (pre m K Z f kf zf (s + 1 + 1) = meetTo (m c) (K c) (Z c) R) := by
        have e := HN.out hsl'
        unfold stepR at e
        rw [hce] at e
        exact e
      rcases hc with hc | ⟨p, o, rfl, hp, gc⟩
      · omega
      obtain ⟨xv, hx, hvx⟩ := gc c hcn
      rw [← hb.cell hp] at hx
      obtain ⟨xa, xcap, rfl, hmc, hux⟩ := hvx
      have hints' := hints
      obtain ⟨a2, cap2, e2, hi | ⟨g2, o2, rfl, hg2, gi⟩⟩ := hints'
      · omega
      cases e2
      have hcell : wr.cell? ⟨g2, o2 + s, none⟩ = some (.int .i64 (R.getD s 0)) := gi s hsl'
      rw [hce] at hcell
      have hm4 := HV.out.most c hcn
      have HZ : Hid (∀ i, i < m c → K c i = 2 → 0 ≤ Z c i ∧ Z c i ≤ 1000) := fun i hi hk => by have := HV.out.field c hcn i hi hk; omega
      clear gi gc hgood HN HD hce
      go_wp2
      go_loopw [28, 5] (fun i ov wi => ∃ x : Nat, x ≤ (m c) ∧ i = .int .i64 x ∧ wi.ownsRow w.heap.size 3 1 ov (meetTo x (K c) (Z c) R).length ((meetTo x (K c) (Z c) R).map (Value.int .i64)) ∧ Below w.heap.size w wi) (fun i _ _ => (m c) - (intOf i).toNat)
      case atStart => exact ⟨0, Nat.zero_le _, rfl, hrow, hb⟩
      case round =>
        clear hrow hb hints
        obtain ⟨x, hx, rfl, hrow, hb⟩ := hrel
        have hl := meetTo_len x (K c) (Z c) R
        have hints := own_ints hrow
        obtain ⟨oa1, ocap1, rfl⟩ := own_shape hrow
        by_cases hlt : x < (m c)
        · rcases hux with hq | ⟨pu, ou, rfl, hpu, gu⟩
          · omega
          obtain ⟨q0, q1⟩ := gu x hlt
          rw [← hb.cell hpu] at q0 q1
          clear gu
          have hsz := hb.size
          have hzx := HZ.out x hlt
          have HX : Hid (meetTo (x + 1) (K c) (Z c) R = meet1 (meetTo x (K c) (Z c) R) ((K c) x) ((Z c) x)) := rfl
          generalize meetTo x (K c) (Z c) R = R1 at *
          generalize (K c) x = kj at *
          generalize (Z c) x = zj at *
          by_cases hk : kj = 2
          · subst hk
            obtain ⟨z0, z1⟩ := hzx rfl
            have hk2 : ((2 : Int) == 2) = true := rfl
            have hlR : R1.length ≤ maxLen := by unfold maxLen; omega
            by_cases hin : zj ∈ R1
            · have HB : Hid (hasB R1.length (fun i => R1.getD i 0) zj = true) := (hasB_list R1 zj).trans (by simpa using hin)
              have HE : Hid (meet1 R1 2 zj = R1) := meet1_old hin
              clear hin
              go_wp2_with (go_at_call 20; refine (contains _ _ _ _ _ (hints.alloc _) hlR).mono ?_; rw [HB.out]; rintro e w' ⟨rfl, rfl⟩)
              go_roundw
              case rel => exact ⟨x + 1, by omega, by go_num, by rw [HX.out, HE.out]; exact hrow.alloc _, hb.alloc hsz _⟩
              case measure => simp [intOf]; omega
            · have HB : Hid (hasB R1.length (fun i => R1.getD i 0) zj = false) := (hasB_list R1 zj).trans (by simpa using hin)
              have HE : Hid (meet1 R1 2 zj = R1 ++ [zj]) := meet1_new rfl hin
              clear hin
              go_wp2_with (first
                | (go_at_call 20; refine (contains _ _ _ _ _ (hints.alloc _) hlR).mono ?_; rw [HB.out]; rintro e w' ⟨rfl, rfl⟩)
                | (at_builtin; refine append_int _ rfl _ _ rfl w.heap.size _ R1 rfl (hrow.alloc _) zj _ (wr.heap.size + 1) (by simp) rfl (by omega) (by simp; omega) ?_; intro ad cp w2 hown2 hgrow2))
              go_roundw
              case rel =>
                have b3 := (((hb.alloc hsz _).alloc (by simp; omega) _).grown hgrow2 (by simp; omega) (fun k hk => (hrow.lt k hk).1))
                exact ⟨x + 1, by omega, by go_num, by rw [HX.out, HE.out]; simpa using hown2, b3⟩
              case measure => simp [intOf]; omega
          · have hkt : (kj == 2) = false := by simp [hk]
            have HE : Hid (meet1 R1 kj zj = R1) := meet1_no hk
            clear hk
            go_wp2
            go_roundw
            case rel => exact ⟨x + 1, by omega, by go_num, by rw [HX.out, HE.out]; exact hrow.alloc _, hb.alloc hsz _⟩
            case measure => simp [intOf]; omega
        · have hxM : x = m c := by omega
          have HR : Hid (meetTo x (K c) (Z c) R = meetTo (m c) (K c) (Z c) R) := by rw [hxM]; rfl
          go_wp2
          go_roundw
          case rel => exact ⟨s + 1 + 1, by omega, ⟨_, by go_num, by simp only [Hid]; omega⟩, by omega, by rw [HS.out, ← HR.out]; exact hrow, hb⟩
          case measure => simp [intOf] <;> omega

end Go.Proofs.Ytnkhdhbjdemdkaa
