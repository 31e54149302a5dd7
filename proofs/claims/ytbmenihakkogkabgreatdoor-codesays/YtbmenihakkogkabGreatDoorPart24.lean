import Derived.Test.YtbmenihakkogkabGreatDoorPart23
namespace Go.Proofs.YtbmenihakkogkabGreatDoor
open Go.RowKit Go.Maps
set_option maxRecDepth 20000 in
set_option maxHeartbeats 8000000 in
theorem dreck3 (v : VC) (ok : VOK v) (m : Nat) (H : ValsC v m) : RekCK v m 3 := by
  intro a tt free items wa hK hm ha hk hv htt hpk hil hwa
  have n24 := ok.n24
  have HPre : Hid (DFb v.c.X v.B v.c.C wa (wa.alloc (.cells #[.int .i64 (v.k a), .int .i64 (v.z a)] 89))) := (DFr.of (bal wa _)).b v.B
  have hw : VW v (a + 1) items (wa.alloc (.cells #[.int .i64 (v.k a), .int .i64 (v.z a)] 89)) := hwa.of (bal wa _)
  have hT : (wa.alloc (.cells #[.int .i64 (v.k a), .int .i64 (v.z a)] 89)).heap[wa.heap.size]? = some (.cells #[.int .i64 (v.k a), .int .i64 (v.z a)] 89 (0, 0)) := heap_alloc_new wa _
  clear hwa
  generalize hw0 : wa.alloc (.cells #[.int .i64 (v.k a), .int .i64 (v.z a)] 89) = w at *
  have HW0 : Hid (wa.alloc (.cells #[.int .i64 (v.k a), .int .i64 (v.z a)] 89) = w) := hw0
  clear hw0
  generalize hTs : wa.heap.size = T at *
  have HTs : Hid (wa.heap.size = T) := hTs
  clear hTs
  have hx := hw.dv.xlt
  have hpos := peak_pos (d := v.n - a) (by omega)
  have hfree : free ≤ 22 := by omega
  have htv : tt < v.c.vars + 17 := by omega
  have HTok : Hid (tokErr (v.k a) (v.z a) v.nf v.c.vars = 0) := ok.tok a ha
  have HAsk : Hid (asked v.k v.z v.par (a + 1) = asked v.k v.z v.par a + (asksOf (v.k a) (v.z a) v.par - 1) ∧ 1 ≤ asked v.k v.z v.par a) := ⟨rfl, ok.ask a ha⟩
  have HA0 : Hid (∀ op b d, asksOf (v.k a) (v.z a) v.par = 0 → tokIns (v.k a) (v.z a) tt [] = [op, (tt : Int), b, d] → ¬ op = 3 → Calls Tryz.prog 171 #[.pointer (some ⟨v.c.X, 0, none⟩), .agg #[.int .i64 op, .int .i64 tt, .int .i64 b, .int .i64 d, .slice none 0 0]] w fun e w' => (∃ u, e = .returned u) ∧ Hid (RekM v a tt free items w w')) := fun op b d h0 hl h3 => by
    refine VW.add (a1 := a + 1) (its := []) (os := []) (c1 := []) ok (DFb.refl _ _ _ w) (by rw [List.append_nil]; exact hw) (by omega) (VS.nil _ _) (by rw [h0]; rfl) rfl none 0 0 op b d (by rw [hl]; exact ⟨rfl, rfl, rfl⟩) (by rw [hl]; exact ⟨none, 0, rfl, by simp, Or.inl rfl⟩) (Or.inl (by rw [hl]; rfl)) hil (by omega) (fun h => absurd h h3)
  have HF0 : Hid (∀ w1, RekM v a tt free items w w1 → v.c.once = false → RekP v a tt free items w w1) := fun w1 h _ => h.off
  have HF1 : Hid (∀ w1, RekM v a tt free items w w1 → v.c.once = true → Calls Tryz.prog 206 #[.pointer (some ⟨v.c.X, 0, none⟩), .int .i64 ((max free (tt + 1) : Nat) : Int)] w1 fun e w' => (∃ u, e = .returned u) ∧ Hid (RekP v a tt free items w w')) := fun w1 h ho => h.clear ok ho hil ha htt (by omega)
  have HVs : Hid (∀ cnt : Nat, cnt ≤ 3 → asksOf (v.k a) (v.z a) v.par = cnt → Calls Tryz.prog 246 #[.pointer (some ⟨v.c.X, 0, none⟩), .int .i64 cnt, .func (.func 242) #[] #[.pointer (some ⟨v.B, 0, none⟩), .pointer (some ⟨v.E, 0, none⟩)], .int .i64 free] w fun e w' => ∃ r0 r1 r2 : Nat, e = .returned (.agg #[.int .i64 r0, .int .i64 r1, .int .i64 r2]) ∧ Hid (ValsP v (a + 1) free cnt items w w' r0 r1 r2)) := fun cnt h3 hc => by
    refine H (a + 1) free cnt items w h3 (by omega) (by omega) ?_ hv ?_ (by omega) hw
    · have := HAsk.out
      omega
    · rw [show v.n - (a + 1) + 1 = v.n - a by omega]; exact hpk
  have hwt : IntKind.i64.wrap ((tt : Int) + 1) = (tt : Int) + 1 := Go.IntWalk.i64_in _ (by omega)
  have hmax : max (free : Int) ((tt : Int) + 1) = ((max free (tt + 1) : Nat) : Int) := by omega
  have HW : Hid (VW v (a + 1) items w) := hw
  have HOK : Hid (VOK v) := ok
  have HTk : Hid (∀ w1, DFb v.c.X v.B v.c.C w w1 → w1.cell? ⟨T, 0, none⟩ = some (.int .i64 (v.k a)) ∧ w1.cell? ⟨T, 1, none⟩ = some (.int .i64 (v.z a))) := fun w1 hf => by
    have := hw.tok hT hf
    exact ⟨by unfold World.cell?; rw [this]; rfl, by unfold World.cell?; rw [this]; rfl⟩
  have HF0 : Hid (∀ w1, RekM v a tt free items w w1 → v.c.once = false → RekP v a tt free items wa w1) := fun w1 h ho => (HF0.out w1 h ho).pre HPre.out
  have HF1 : Hid (∀ w1, RekM v a tt free items w w1 → v.c.once = true → Calls Tryz.prog 206 #[.pointer (some ⟨v.c.X, 0, none⟩), .int .i64 ((max free (tt + 1) : Nat) : Int)] w1 fun e w' => (∃ u, e = .returned u) ∧ Hid (RekP v a tt free items wa w')) := fun w1 h ho => (HF1.out w1 h ho).mono fun e w' h => ⟨h.1, h.2.out.pre HPre.out⟩
  obtain ⟨kf, _, ko⟩ := hw.fields
  obtain ⟨t0, t1⟩ := HTk.out w (DFb.refl _ _ _ w)
  have HK : Hid (v.k a = 3) := hK
  clear hw ok H hpos hpk hT hK
  go_enter Tryz.func241, Tryz.ntmps241
  go_upto_region 1 with (fail)
  rw [HW0.out]
  simp only [HTs.out]
  have kw : ∀ w1, RekM v a tt free items w w1 → w1.cell? ⟨v.c.X, 43, none⟩ = some (.bool v.c.once) := fun w1 h => h.fields
  have HKW : Hid (∀ w1, RekM v a tt free items w w1 → w1.cell? ⟨v.c.X, 43, none⟩ = some (.bool v.c.once)) := kw
  clear kw
  have hK := HK.out
  have HV1 := HVs.out 2 (by decide) (by rw [hK]; rfl)
  have HV1 : Hid (Calls Tryz.prog 246 #[.pointer (some ⟨v.c.X, 0, none⟩), .int .i64 2, .func (.func 242) #[] #[.pointer (some ⟨v.B, 0, none⟩), .pointer (some ⟨v.E, 0, none⟩)], .int .i64 free] w fun e w' => ∃ r0 r1 r2 : Nat, e = .returned (.agg #[.int .i64 r0, .int .i64 r1, .int .i64 r2]) ∧ Hid (ValsP v (a + 1) free 2 items w w' r0 r1 r2)) := HV1
  have HG : Hid (∀ w1 r0 r1 r2, ValsP v (a + 1) free 2 items w w1 r0 r1 r2 → Calls Tryz.prog 171 #[.pointer (some ⟨v.c.X, 0, none⟩), .agg #[.int .i64 3, .int .i64 tt, .int .i64 (r0 : Nat), .int .i64 (r1 : Nat), .slice (some ⟨w1.heap.size + 1, 0, none⟩) 1 1]] ((w1.alloc (.cells #[.int .i64 (r0 : Int), .int .i64 (r1 : Int), .int .i64 (r2 : Int)] 304)).alloc (.cells #[.int .i64 (v.z a)] 3)) fun e w' => (∃ u, e = .returned u) ∧ Hid (RekM v a tt free items w w')) := fun w1 r0 r1 r2 h => by
    obtain ⟨a1, its, f1, f2, f3, f4⟩ := h
    have et : tokIns (v.k a) (v.z a) tt ([r0, r1, r2].take 2) = [3, (tt : Int), (r0 : Int), (r1 : Int), v.z a] := by rw [hK]; rfl
    obtain ⟨W, hW⟩ : ∃ W, w1.alloc (.cells #[.int .i64 (r0 : Int), .int .i64 (r1 : Int), .int .i64 (r2 : Int)] 304) = W := ⟨_, rfl⟩
    have hWs : W.heap.size = w1.heap.size + 1 := by rw [← hW]; simp
    rw [hW, ← hWs]
    have hbe : Below w1.heap.size w1 (W.alloc (.cells #[.int .i64 (v.z a)] 3)) := by rw [← hW]; exact bst (bal w1 _) (bal _ _)
    have hlow := f4.low f3 HOK.out.tok hv
    have hr0 := hlow r0 (by simp)
    have hr1 := hlow r1 (by simp)
    simp at hr0 hr1
    refine VW.add (os := [r0, r1, r2].take 2) HOK.out (f1.trans ((DFr.of hbe).b v.B)) (f2.of hbe) f3 f4 (by rw [hK]; rfl) rfl (some ⟨W.heap.size, 0, none⟩) 1 1 3 r0 r1 (by rw [et]; exact ⟨rfl, rfl, rfl⟩) ?_ ?_ hil (by omega) (fun _ => ⟨by rw [et]; rfl, r0, r1, ⟨rfl, by omega⟩, rfl, by omega⟩)
    · rw [et]
      refine ⟨_, 1, rfl, by simp, Or.inr ⟨W.heap.size, 0, _, rfl, heap_alloc_new W _, fun i hi => ?_⟩⟩
      have : i = 0 := by simp at hi; omega
      subst this
      rfl
    · refine Or.inr fun x n d e => ?_
      injection e with e _ _
      injection e with e
      subst e
      have hb := (Array.getElem?_eq_some_iff.1 f2.rd.box).1
      show ¬ W.heap.size = v.B
      omega
  have HT1 : Hid (∀ w1 r0 r1 r2, ValsP v (a + 1) free 2 items w w1 r0 r1 r2 → w1.cell? ⟨T, 1, none⟩ = some (.int .i64 (v.z a)) ∧ T < w1.heap.size) := fun w1 r0 r1 r2 h => (by obtain ⟨_, _, f1, _⟩ := h; have := (HTk.out w1 f1).2; refine ⟨this, ?_⟩; unfold World.cell? at this; cases e : w1.heap[T]? with | none => rw [e] at this; cases this | some o => exact (Array.getElem?_eq_some_iff.1 e).1)
  rw [hK] at t0
  cases ho : v.c.once with
  | false =>
    have HO : Hid (v.c.once = false) := ho
    clear ho hK hk
    go_upto_region 11 with (first
      | (go_at_call 246; refine HV1.out.mono ?_; rintro e w1 ⟨r0, r1, r2, rfl, P1⟩; obtain ⟨t1', t1l⟩ := HT1.out w1 r0 r1 r2 P1.out; have HC := HG.out w1 r0 r1 r2 P1.out; have HC : Hid (Calls Tryz.prog 171 #[.pointer (some ⟨v.c.X, 0, none⟩), .agg #[.int .i64 3, .int .i64 tt, .int .i64 (r0 : Nat), .int .i64 (r1 : Nat), .slice (some ⟨w1.heap.size + 1, 0, none⟩) 1 1]] ((w1.alloc (.cells #[.int .i64 (r0 : Int), .int .i64 (r1 : Int), .int .i64 (r2 : Int)] 304)).alloc (.cells #[.int .i64 (v.z a)] 3)) fun e w' => (∃ u, e = .returned u) ∧ Hid (RekM v a tt free items w w')) := HC))
    go_wp2_with (first
      | (go_at_call 171; refine HC.out.mono ?_; rintro e w2 ⟨⟨u, rfl⟩, M1⟩; have ko1 := HKW.out w2 M1.out; rw [HO.out] at ko1))
    go_end0
    exact ⟨⟨_, rfl⟩, HF0.out w2 M1.out HO.out⟩
  | true =>
    have HO : Hid (v.c.once = true) := ho
    clear ho hK hk
    go_upto_region 11 with (first
      | (go_at_call 246; refine HV1.out.mono ?_; rintro e w1 ⟨r0, r1, r2, rfl, P1⟩; obtain ⟨t1', t1l⟩ := HT1.out w1 r0 r1 r2 P1.out; have HC := HG.out w1 r0 r1 r2 P1.out; have HC : Hid (Calls Tryz.prog 171 #[.pointer (some ⟨v.c.X, 0, none⟩), .agg #[.int .i64 3, .int .i64 tt, .int .i64 (r0 : Nat), .int .i64 (r1 : Nat), .slice (some ⟨w1.heap.size + 1, 0, none⟩) 1 1]] ((w1.alloc (.cells #[.int .i64 (r0 : Int), .int .i64 (r1 : Int), .int .i64 (r2 : Int)] 304)).alloc (.cells #[.int .i64 (v.z a)] 3)) fun e w' => (∃ u, e = .returned u) ∧ Hid (RekM v a tt free items w w')) := HC))
    go_wp2_with (first
      | (go_at_call 171; refine HC.out.mono ?_; rintro e w2 ⟨⟨u, rfl⟩, M1⟩; have ko1 := HKW.out w2 M1.out; rw [HO.out] at ko1)
      | (go_at_call 206; refine (HF1.out w2 M1.out HO.out).mono ?_; rintro e w9 ⟨⟨u9, rfl⟩, P9⟩))
    go_end0
    exact ⟨⟨_, rfl⟩, P9⟩
set_option maxRecDepth 20000 in
set_option maxHeartbeats 8000000 in
theorem dreck4 (v : VC) (ok : VOK v) (m : Nat) (H : ValsC v m) : RekCK v m 4 := by
  intro a tt free items wa hK hm ha hk hv htt hpk hil hwa
  have n24 := ok.n24
  have HPre : Hid (DFb v.c.X v.B v.c.C wa (wa.alloc (.cells #[.int .i64 (v.k a), .int .i64 (v.z a)] 89))) := (DFr.of (bal wa _)).b v.B
  have hw : VW v (a + 1) items (wa.alloc (.cells #[.int .i64 (v.k a), .int .i64 (v.z a)] 89)) := hwa.of (bal wa _)
  have hT : (wa.alloc (.cells #[.int .i64 (v.k a), .int .i64 (v.z a)] 89)).heap[wa.heap.size]? = some (.cells #[.int .i64 (v.k a), .int .i64 (v.z a)] 89 (0, 0)) := heap_alloc_new wa _
  clear hwa
  generalize hw0 : wa.alloc (.cells #[.int .i64 (v.k a), .int .i64 (v.z a)] 89) = w at *
  have HW0 : Hid (wa.alloc (.cells #[.int .i64 (v.k a), .int .i64 (v.z a)] 89) = w) := hw0
  clear hw0
  generalize hTs : wa.heap.size = T at *
  have HTs : Hid (wa.heap.size = T) := hTs
  clear hTs
  have hx := hw.dv.xlt
  have hpos := peak_pos (d := v.n - a) (by omega)
  have hfree : free ≤ 22 := by omega
  have htv : tt < v.c.vars + 17 := by omega
  have HTok : Hid (tokErr (v.k a) (v.z a) v.nf v.c.vars = 0) := ok.tok a ha
  have HAsk : Hid (asked v.k v.z v.par (a + 1) = asked v.k v.z v.par a + (asksOf (v.k a) (v.z a) v.par - 1) ∧ 1 ≤ asked v.k v.z v.par a) := ⟨rfl, ok.ask a ha⟩
  have HA0 : Hid (∀ op b d, asksOf (v.k a) (v.z a) v.par = 0 → tokIns (v.k a) (v.z a) tt [] = [op, (tt : Int), b, d] → ¬ op = 3 → Calls Tryz.prog 171 #[.pointer (some ⟨v.c.X, 0, none⟩), .agg #[.int .i64 op, .int .i64 tt, .int .i64 b, .int .i64 d, .slice none 0 0]] w fun e w' => (∃ u, e = .returned u) ∧ Hid (RekM v a tt free items w w')) := fun op b d h0 hl h3 => by
    refine VW.add (a1 := a + 1) (its := []) (os := []) (c1 := []) ok (DFb.refl _ _ _ w) (by rw [List.append_nil]; exact hw) (by omega) (VS.nil _ _) (by rw [h0]; rfl) rfl none 0 0 op b d (by rw [hl]; exact ⟨rfl, rfl, rfl⟩) (by rw [hl]; exact ⟨none, 0, rfl, by simp, Or.inl rfl⟩) (Or.inl (by rw [hl]; rfl)) hil (by omega) (fun h => absurd h h3)
  have HF0 : Hid (∀ w1, RekM v a tt free items w w1 → v.c.once = false → RekP v a tt free items w w1) := fun w1 h _ => h.off
  have HF1 : Hid (∀ w1, RekM v a tt free items w w1 → v.c.once = true → Calls Tryz.prog 206 #[.pointer (some ⟨v.c.X, 0, none⟩), .int .i64 ((max free (tt + 1) : Nat) : Int)] w1 fun e w' => (∃ u, e = .returned u) ∧ Hid (RekP v a tt free items w w')) := fun w1 h ho => h.clear ok ho hil ha htt (by omega)
  have HVs : Hid (∀ cnt : Nat, cnt ≤ 3 → asksOf (v.k a) (v.z a) v.par = cnt → Calls Tryz.prog 246 #[.pointer (some ⟨v.c.X, 0, none⟩), .int .i64 cnt, .func (.func 242) #[] #[.pointer (some ⟨v.B, 0, none⟩), .pointer (some ⟨v.E, 0, none⟩)], .int .i64 free] w fun e w' => ∃ r0 r1 r2 : Nat, e = .returned (.agg #[.int .i64 r0, .int .i64 r1, .int .i64 r2]) ∧ Hid (ValsP v (a + 1) free cnt items w w' r0 r1 r2)) := fun cnt h3 hc => by
    refine H (a + 1) free cnt items w h3 (by omega) (by omega) ?_ hv ?_ (by omega) hw
    · have := HAsk.out
      omega
    · rw [show v.n - (a + 1) + 1 = v.n - a by omega]; exact hpk
  have hwt : IntKind.i64.wrap ((tt : Int) + 1) = (tt : Int) + 1 := Go.IntWalk.i64_in _ (by omega)
  have hmax : max (free : Int) ((tt : Int) + 1) = ((max free (tt + 1) : Nat) : Int) := by omega
  have HW : Hid (VW v (a + 1) items w) := hw
  have HOK : Hid (VOK v) := ok
  have HTk : Hid (∀ w1, DFb v.c.X v.B v.c.C w w1 → w1.cell? ⟨T, 0, none⟩ = some (.int .i64 (v.k a)) ∧ w1.cell? ⟨T, 1, none⟩ = some (.int .i64 (v.z a))) := fun w1 hf => by
    have := hw.tok hT hf
    exact ⟨by unfold World.cell?; rw [this]; rfl, by unfold World.cell?; rw [this]; rfl⟩
  have HF0 : Hid (∀ w1, RekM v a tt free items w w1 → v.c.once = false → RekP v a tt free items wa w1) := fun w1 h ho => (HF0.out w1 h ho).pre HPre.out
  have HF1 : Hid (∀ w1, RekM v a tt free items w w1 → v.c.once = true → Calls Tryz.prog 206 #[.pointer (some ⟨v.c.X, 0, none⟩), .int .i64 ((max free (tt + 1) : Nat) : Int)] w1 fun e w' => (∃ u, e = .returned u) ∧ Hid (RekP v a tt free items wa w')) := fun w1 h ho => (HF1.out w1 h ho).mono fun e w' h => ⟨h.1, h.2.out.pre HPre.out⟩
  obtain ⟨kf, _, ko⟩ := hw.fields
  obtain ⟨t0, t1⟩ := HTk.out w (DFb.refl _ _ _ w)
  have HK : Hid (v.k a = 4) := hK
  clear hw ok H hpos hpk hT hK
  go_enter Tryz.func241, Tryz.ntmps241
  go_upto_region 1 with (fail)
  rw [HW0.out]
  simp only [HTs.out]
  have kw : ∀ w1, RekM v a tt free items w w1 → w1.cell? ⟨v.c.X, 43, none⟩ = some (.bool v.c.once) := fun w1 h => h.fields
  have HKW : Hid (∀ w1, RekM v a tt free items w w1 → w1.cell? ⟨v.c.X, 43, none⟩ = some (.bool v.c.once)) := kw
  clear kw
  have hK := HK.out
  have HV1 := HVs.out 1 (by decide) (by rw [hK]; rfl)
  have HV1 : Hid (Calls Tryz.prog 246 #[.pointer (some ⟨v.c.X, 0, none⟩), .int .i64 1, .func (.func 242) #[] #[.pointer (some ⟨v.B, 0, none⟩), .pointer (some ⟨v.E, 0, none⟩)], .int .i64 free] w fun e w' => ∃ r0 r1 r2 : Nat, e = .returned (.agg #[.int .i64 r0, .int .i64 r1, .int .i64 r2]) ∧ Hid (ValsP v (a + 1) free 1 items w w' r0 r1 r2)) := HV1
  have HG : Hid (∀ w1 r0 r1 r2, ValsP v (a + 1) free 1 items w w1 r0 r1 r2 → Calls Tryz.prog 171 #[.pointer (some ⟨v.c.X, 0, none⟩), .agg #[.int .i64 4, .int .i64 tt, .int .i64 (r0 : Nat), .int .i64 (v.z a), .slice none 0 0]] (w1.alloc (.cells #[.int .i64 (r0 : Int), .int .i64 (r1 : Int), .int .i64 (r2 : Int)] 304)) fun e w' => (∃ u, e = .returned u) ∧ Hid (RekM v a tt free items w w')) := fun w1 r0 r1 r2 h => by
    obtain ⟨a1, its, f1, f2, f3, f4⟩ := h
    have et : tokIns (v.k a) (v.z a) tt ([r0, r1, r2].take 1) = [4, (tt : Int), (r0 : Int), v.z a] := by rw [hK]; rfl
    have hbe := bal w1 (.cells #[.int .i64 (r0 : Int), .int .i64 (r1 : Int), .int .i64 (r2 : Int)] 304)
    exact VW.add (os := [r0, r1, r2].take 1) HOK.out (f1.trans ((DFr.of hbe).b v.B)) (f2.of hbe) f3 f4 (by rw [hK]; rfl) rfl none 0 0 4 r0 (v.z a) (by rw [et]; exact ⟨rfl, rfl, rfl⟩) (by rw [et]; exact ⟨none, 0, rfl, by simp, Or.inl rfl⟩) (Or.inl (by rw [et]; rfl)) hil (by omega) (fun h => absurd h (by decide))
  have HT1 : Hid (∀ w1 r0 r1 r2, ValsP v (a + 1) free 1 items w w1 r0 r1 r2 → w1.cell? ⟨T, 1, none⟩ = some (.int .i64 (v.z a)) ∧ T < w1.heap.size) := fun w1 r0 r1 r2 h => (by obtain ⟨_, _, f1, _⟩ := h; have := (HTk.out w1 f1).2; refine ⟨this, ?_⟩; unfold World.cell? at this; cases e : w1.heap[T]? with | none => rw [e] at this; cases this | some o => exact (Array.getElem?_eq_some_iff.1 e).1)
  rw [hK] at t0
  cases ho : v.c.once with
  | false =>
    have HO : Hid (v.c.once = false) := ho
    clear ho hK hk
    go_wp2_with (first
      | (go_at_call 246; refine HV1.out.mono ?_; rintro e w1 ⟨r0, r1, r2, rfl, P1⟩; obtain ⟨t1', t1l⟩ := HT1.out w1 r0 r1 r2 P1.out; have HC := HG.out w1 r0 r1 r2 P1.out; have HC : Hid (Calls Tryz.prog 171 #[.pointer (some ⟨v.c.X, 0, none⟩), .agg #[.int .i64 4, .int .i64 tt, .int .i64 (r0 : Nat), .int .i64 (v.z a), .slice none 0 0]] (w1.alloc (.cells #[.int .i64 (r0 : Int), .int .i64 (r1 : Int), .int .i64 (r2 : Int)] 304)) fun e w' => (∃ u, e = .returned u) ∧ Hid (RekM v a tt free items w w')) := HC)
      | (go_at_call 171; refine HC.out.mono ?_; rintro e w2 ⟨⟨u, rfl⟩, M1⟩; have ko1 := HKW.out w2 M1.out; rw [HO.out] at ko1))
    go_end0
    exact ⟨⟨_, rfl⟩, HF0.out w2 M1.out HO.out⟩
  | true =>
    have HO : Hid (v.c.once = true) := ho
    clear ho hK hk
    go_wp2_with (first
      | (go_at_call 246; refine HV1.out.mono ?_; rintro e w1 ⟨r0, r1, r2, rfl, P1⟩; obtain ⟨t1', t1l⟩ := HT1.out w1 r0 r1 r2 P1.out; have HC := HG.out w1 r0 r1 r2 P1.out; have HC : Hid (Calls Tryz.prog 171 #[.pointer (some ⟨v.c.X, 0, none⟩), .agg #[.int .i64 4, .int .i64 tt, .int .i64 (r0 : Nat), .int .i64 (v.z a), .slice none 0 0]] (w1.alloc (.cells #[.int .i64 (r0 : Int), .int .i64 (r1 : Int), .int .i64 (r2 : Int)] 304)) fun e w' => (∃ u, e = .returned u) ∧ Hid (RekM v a tt free items w w')) := HC)
      | (go_at_call 171; refine HC.out.mono ?_; rintro e w2 ⟨⟨u, rfl⟩, M1⟩; have ko1 := HKW.out w2 M1.out; rw [HO.out] at ko1)
      | (go_at_call 206; refine (HF1.out w2 M1.out HO.out).mono ?_; rintro e w9 ⟨⟨u9, rfl⟩, P9⟩))
    go_end0
    exact ⟨⟨_, rfl⟩, P9⟩
set_option maxRecDepth 20000 in
set_option maxHeartbeats 8000000 in
theorem dreck5 (v : VC) (ok : VOK v) (m : Nat) (H : ValsC v m) : RekCK v m 5 := by
  intro a tt free items wa hK hm ha hk hv htt hpk hil hwa
  have n24 := ok.n24
  have HPre : Hid (DFb v.c.X v.B v.c.C wa (wa.alloc (.cells #[.int .i64 (v.k a), .int .i64 (v.z a)] 89))) := (DFr.of (bal wa _)).b v.B
  have hw : VW v (a + 1) items (wa.alloc (.cells #[.int .i64 (v.k a), .int .i64 (v.z a)] 89)) := hwa.of (bal wa _)
  have hT : (wa.alloc (.cells #[.int .i64 (v.k a), .int .i64 (v.z a)] 89)).heap[wa.heap.size]? = some (.cells #[.int .i64 (v.k a), .int .i64 (v.z a)] 89 (0, 0)) := heap_alloc_new wa _
  clear hwa
  generalize hw0 : wa.alloc (.cells #[.int .i64 (v.k a), .int .i64 (v.z a)] 89) = w at *
  have HW0 : Hid (wa.alloc (.cells #[.int .i64 (v.k a), .int .i64 (v.z a)] 89) = w) := hw0
  clear hw0
  generalize hTs : wa.heap.size = T at *
  have HTs : Hid (wa.heap.size = T) := hTs
  clear hTs
  have hx := hw.dv.xlt
  have hpos := peak_pos (d := v.n - a) (by omega)
  have hfree : free ≤ 22 := by omega
  have htv : tt < v.c.vars + 17 := by omega
  have HTok : Hid (tokErr (v.k a) (v.z a) v.nf v.c.vars = 0) := ok.tok a ha
  have HAsk : Hid (asked v.k v.z v.par (a + 1) = asked v.k v.z v.par a + (asksOf (v.k a) (v.z a) v.par - 1) ∧ 1 ≤ asked v.k v.z v.par a) := ⟨rfl, ok.ask a ha⟩
  have HA0 : Hid (∀ op b d, asksOf (v.k a) (v.z a) v.par = 0 → tokIns (v.k a) (v.z a) tt [] = [op, (tt : Int), b, d] → ¬ op = 3 → Calls Tryz.prog 171 #[.pointer (some ⟨v.c.X, 0, none⟩), .agg #[.int .i64 op, .int .i64 tt, .int .i64 b, .int .i64 d, .slice none 0 0]] w fun e w' => (∃ u, e = .returned u) ∧ Hid (RekM v a tt free items w w')) := fun op b d h0 hl h3 => by
    refine VW.add (a1 := a + 1) (its := []) (os := []) (c1 := []) ok (DFb.refl _ _ _ w) (by rw [List.append_nil]; exact hw) (by omega) (VS.nil _ _) (by rw [h0]; rfl) rfl none 0 0 op b d (by rw [hl]; exact ⟨rfl, rfl, rfl⟩) (by rw [hl]; exact ⟨none, 0, rfl, by simp, Or.inl rfl⟩) (Or.inl (by rw [hl]; rfl)) hil (by omega) (fun h => absurd h h3)
  have HF0 : Hid (∀ w1, RekM v a tt free items w w1 → v.c.once = false → RekP v a tt free items w w1) := fun w1 h _ => h.off
  have HF1 : Hid (∀ w1, RekM v a tt free items w w1 → v.c.once = true → Calls Tryz.prog 206 #[.pointer (some ⟨v.c.X, 0, none⟩), .int .i64 ((max free (tt + 1) : Nat) : Int)] w1 fun e w' => (∃ u, e = .returned u) ∧ Hid (RekP v a tt free items w w')) := fun w1 h ho => h.clear ok ho hil ha htt (by omega)
  have HVs : Hid (∀ cnt : Nat, cnt ≤ 3 → asksOf (v.k a) (v.z a) v.par = cnt → Calls Tryz.prog 246 #[.pointer (some ⟨v.c.X, 0, none⟩), .int .i64 cnt, .func (.func 242) #[] #[.pointer (some ⟨v.B, 0, none⟩), .pointer (some ⟨v.E, 0, none⟩)], .int .i64 free] w fun e w' => ∃ r0 r1 r2 : Nat, e = .returned (.agg #[.int .i64 r0, .int .i64 r1, .int .i64 r2]) ∧ Hid (ValsP v (a + 1) free cnt items w w' r0 r1 r2)) := fun cnt h3 hc => by
    refine H (a + 1) free cnt items w h3 (by omega) (by omega) ?_ hv ?_ (by omega) hw
    · have := HAsk.out
      omega
    · rw [show v.n - (a + 1) + 1 = v.n - a by omega]; exact hpk
  have hwt : IntKind.i64.wrap ((tt : Int) + 1) = (tt : Int) + 1 := Go.IntWalk.i64_in _ (by omega)
  have hmax : max (free : Int) ((tt : Int) + 1) = ((max free (tt + 1) : Nat) : Int) := by omega
  have HW : Hid (VW v (a + 1) items w) := hw
  have HOK : Hid (VOK v) := ok
  have HTk : Hid (∀ w1, DFb v.c.X v.B v.c.C w w1 → w1.cell? ⟨T, 0, none⟩ = some (.int .i64 (v.k a)) ∧ w1.cell? ⟨T, 1, none⟩ = some (.int .i64 (v.z a))) := fun w1 hf => by
    have := hw.tok hT hf
    exact ⟨by unfold World.cell?; rw [this]; rfl, by unfold World.cell?; rw [this]; rfl⟩
  have HF0 : Hid (∀ w1, RekM v a tt free items w w1 → v.c.once = false → RekP v a tt free items wa w1) := fun w1 h ho => (HF0.out w1 h ho).pre HPre.out
  have HF1 : Hid (∀ w1, RekM v a tt free items w w1 → v.c.once = true → Calls Tryz.prog 206 #[.pointer (some ⟨v.c.X, 0, none⟩), .int .i64 ((max free (tt + 1) : Nat) : Int)] w1 fun e w' => (∃ u, e = .returned u) ∧ Hid (RekP v a tt free items wa w')) := fun w1 h ho => (HF1.out w1 h ho).mono fun e w' h => ⟨h.1, h.2.out.pre HPre.out⟩
  obtain ⟨kf, _, ko⟩ := hw.fields
  obtain ⟨t0, t1⟩ := HTk.out w (DFb.refl _ _ _ w)
  have HK : Hid (v.k a = 5) := hK
  clear hw ok H hpos hpk hT hK
  go_enter Tryz.func241, Tryz.ntmps241
  go_upto_region 1 with (fail)
  rw [HW0.out]
  simp only [HTs.out]
  have kw : ∀ w1, RekM v a tt free items w w1 → w1.cell? ⟨v.c.X, 43, none⟩ = some (.bool v.c.once) := fun w1 h => h.fields
  have HKW : Hid (∀ w1, RekM v a tt free items w w1 → w1.cell? ⟨v.c.X, 43, none⟩ = some (.bool v.c.once)) := kw
  clear kw
  have hK := HK.out
  have HC : Hid (Calls Tryz.prog 171 #[.pointer (some ⟨v.c.X, 0, none⟩), .agg #[.int .i64 5, .int .i64 tt, .int .i64 (v.z a), .int .i64 0, .slice none 0 0]] w fun e w' => (∃ u, e = .returned u) ∧ Hid (RekM v a tt free items w w')) := HA0.out 5 (v.z a) 0 (by rw [hK]; rfl) (by rw [hK]; rfl) (by decide)
  rw [hK] at t0
  cases ho : v.c.once with
  | false =>
    have HO : Hid (v.c.once = false) := ho
    clear ho hK hk
    go_wp2_with (first
      | (go_at_call 171; refine HC.out.mono ?_; rintro e w1 ⟨⟨u, rfl⟩, M1⟩; have ko1 := HKW.out w1 M1.out; rw [HO.out] at ko1))
    go_end0
    exact ⟨⟨_, rfl⟩, HF0.out w1 M1.out HO.out⟩
  | true =>
    have HO : Hid (v.c.once = true) := ho
    clear ho hK hk
    go_wp2_with (first
      | (go_at_call 171; refine HC.out.mono ?_; rintro e w1 ⟨⟨u, rfl⟩, M1⟩; have ko1 := HKW.out w1 M1.out; rw [HO.out] at ko1)
      | (go_at_call 206; refine (HF1.out w1 M1.out HO.out).mono ?_; rintro e w9 ⟨⟨u9, rfl⟩, P9⟩))
    go_end0
    exact ⟨⟨_, rfl⟩, P9⟩
end Go.Proofs.YtbmenihakkogkabGreatDoor
