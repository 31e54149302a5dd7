import Derived.Test.YtbmenihakkogkabGreatDoorPart23
import Derived.Deep.RegionHeld3
import Derived.Test.YtbmenihakkogkabGreatDoorPart24
import Derived.Test.YtbmenihakkogkabGreatDoorPart22
namespace Go.Proofs.YtbmenihakkogkabGreatDoor
open Go.RowKit Go.Maps
set_option maxRecDepth 20000 in
set_option maxHeartbeats 8000000 in
theorem dreck6 (v : VC) (ok : VOK v) (m : Nat) (H : ValsC v m) : RekCK v m 6 := by
  intro a tt free items wa hK hm ha hk hv htt hpk hil hwa
  have n24 := ok.n24
  have HPre : Hid (DFb v.c.X v.B v.c.C wa (wa.alloc (.cells #[.int .i64 (v.k a), .int .i64 (v.z a)] 89))) := (DFr.of (bal wa _)).b v.B
  have hw : VW v (a + 1) items (wa.alloc (.cells #[.int .i64 (v.k a), .int .i64 (v.z a)] 89)) := hwa.of (bal wa _)
  have hT : (wa.alloc (.cells #[.int .i64 (v.k a), .int .i64 (v.z a)] 89)).heap[wa.heap.size]? = some (.cells #[.int .i64 (v.k a), .int .i64 (v.z a)] 89 (0, 0)) := heap_alloc_new wa _
  clear hwa
  generalize hw0 : wa.alloc (.cells #[.int .i64 (v.k a), .int .i64 (v.z a)] 89) = w at *
  have HW0 : Hid (wa.alloc (.cells #[.int .i64 (v.k a), .int .i64 (v.z a)] 89) = w) := hw0
  clear hw0
  generalize hTs : wa.heap.size = T at *
  have HTs : Hid (wa.heap.size = T) := hTs
  clear hTs
  have hx := hw.dv.xlt
  have hpos := peak_pos (d := v.n - a) (by omega)
  have hfree : free ≤ 22 := by omega
  have htv : tt < v.c.vars + 17 := by omega
  have HTok : Hid (tokErr (v.k a) (v.z a) v.nf v.c.vars = 0) := ok.tok a ha
  have HAsk : Hid (asked v.k v.z v.par (a + 1) = asked v.k v.z v.par a + (asksOf (v.k a) (v.z a) v.par - 1) ∧ 1 ≤ asked v.k v.z v.par a) := ⟨rfl, ok.ask a ha⟩
  have HA0 : Hid (∀ op b d, asksOf (v.k a) (v.z a) v.par = 0 → tokIns (v.k a) (v.z a) tt [] = [op, (tt : Int), b, d] → ¬ op = 3 → Calls Tryz.prog 171 #[.pointer (some ⟨v.c.X, 0, none⟩), .agg #[.int .i64 op, .int .i64 tt, .int .i64 b, .int .i64 d, .slice none 0 0]] w fun e w' => (∃ u, e = .returned u) ∧ Hid (RekM v a tt free items w w')) := fun op b d h0 hl h3 => by
    refine VW.add (a1 := a + 1) (its := []) (os := []) (c1 := []) ok (DFb.refl _ _ _ w) (by rw [List.append_nil]; exact hw) (by omega) (VS.nil _ _) (by rw [h0]; rfl) rfl none 0 0 op b d (by rw [hl]; exact ⟨rfl, rfl, rfl⟩) (by rw [hl]; exact ⟨none, 0, rfl, by simp, Or.inl rfl⟩) (Or.inl (by rw [hl]; rfl)) hil (by omega) (fun h => absurd h h3)
  have HF0 : Hid (∀ w1, RekM v a tt free items w w1 → v.c.once = false → RekP v a tt free items w w1) := fun w1 h _ => h.off
  have HF1 : Hid (∀ w1, RekM v a tt free items w w1 → v.c.once = true → Calls Tryz.prog 206 #[.pointer (some ⟨v.c.X, 0, none⟩), .int .i64 ((max free (tt + 1) : Nat) : Int)] w1 fun e w' => (∃ u, e = .returned u) ∧ Hid (RekP v a tt free items w w')) := fun w1 h ho => h.clear ok ho hil ha htt (by omega)
  have HVs : Hid (∀ cnt : Nat, cnt ≤ 3 → asksOf (v.k a) (v.z a) v.par = cnt → Calls Tryz.prog 246 #[.pointer (some ⟨v.c.X, 0, none⟩), .int .i64 cnt, .func (.func 242) #[] #[.pointer (some ⟨v.B, 0, none⟩), .pointer (some ⟨v.E, 0, none⟩)], .int .i64 free] w.drew fun e w' => ∃ r0 r1 r2 : Nat, e = .returned (.agg #[.int .i64 r0, .int .i64 r1, .int .i64 r2]) ∧ Hid (ValsP v (a + 1) free cnt items w.drew w' r0 r1 r2)) := fun cnt h3 hc => by
    refine H (a + 1) free cnt items w.drew h3 (by omega) (by omega) ?_ hv ?_ (by omega) (hw.of ((Below.refl _ _).drew))
    · have := HAsk.out
      omega
    · rw [show v.n - (a + 1) + 1 = v.n - a by omega]; exact hpk
  have HDr : Hid (DFb v.c.X v.B v.c.C w w.drew) := (DFr.of ((Below.refl _ _).drew)).b v.B
  have hwt : IntKind.i64.wrap ((tt : Int) + 1) = (tt : Int) + 1 := Go.IntWalk.i64_in _ (by omega)
  have hmax : max (free : Int) ((tt : Int) + 1) = ((max free (tt + 1) : Nat) : Int) := by omega
  have HW : Hid (VW v (a + 1) items w) := hw
  have HOK : Hid (VOK v) := ok
  have HTk : Hid (∀ w1, DFb v.c.X v.B v.c.C w w1 → w1.cell? ⟨T, 0, none⟩ = some (.int .i64 (v.k a)) ∧ w1.cell? ⟨T, 1, none⟩ = some (.int .i64 (v.z a))) := fun w1 hf => by
    have := hw.tok hT hf
    exact ⟨by unfold World.cell?; rw [this]; rfl, by unfold World.cell?; rw [this]; rfl⟩
  have HF0 : Hid (∀ w1, RekM v a tt free items w w1 → v.c.once = false → RekP v a tt free items wa w1) := fun w1 h ho => (HF0.out w1 h ho).pre HPre.out
  have HF1 : Hid (∀ w1, RekM v a tt free items w w1 → v.c.once = true → Calls Tryz.prog 206 #[.pointer (some ⟨v.c.X, 0, none⟩), .int .i64 ((max free (tt + 1) : Nat) : Int)] w1 fun e w' => (∃ u, e = .returned u) ∧ Hid (RekP v a tt free items wa w')) := fun w1 h ho => (HF1.out w1 h ho).mono fun e w' h => ⟨h.1, h.2.out.pre HPre.out⟩
  obtain ⟨kf, _, ko⟩ := hw.fields
  obtain ⟨t0, t1⟩ := HTk.out w (DFb.refl _ _ _ w)
  have HK : Hid (v.k a = 6) := hK
  clear hw ok H hpos hpk hT hK
  go_enter Tryz.func241, Tryz.ntmps241
  go_upto_region 1 with (fail)
  rw [HW0.out]
  simp only [HTs.out]
  have kw : ∀ w1, RekM v a tt free items w w1 → w1.cell? ⟨v.c.X, 43, none⟩ = some (.bool v.c.once) := fun w1 h => h.fields
  have HKW : Hid (∀ w1, RekM v a tt free items w w1 → w1.cell? ⟨v.c.X, 43, none⟩ = some (.bool v.c.once)) := kw
  clear kw
  have hK := HK.out
  have hz := tokErr_call HTok.out hK
  have hpz := HOK.out.par (v.z a).toNat hz.2
  obtain ⟨P, hP⟩ : ∃ P : Nat, v.par (v.z a).toNat = P := ⟨(v.par (v.z a).toNat).toNat, by omega⟩
  have hP3 : P ≤ 3 := by omega
  have HPz : Hid (asksOf (v.k a) (v.z a) v.par = P) := (by show _ = _; rw [hK, ← hP]; rfl)
  have HV1 := HVs.out P hP3 HPz.out
  have HV1 : Hid (Calls Tryz.prog 246 #[.pointer (some ⟨v.c.X, 0, none⟩), .int .i64 P, .func (.func 242) #[] #[.pointer (some ⟨v.B, 0, none⟩), .pointer (some ⟨v.E, 0, none⟩)], .int .i64 free] w.drew fun e w' => ∃ r0 r1 r2 : Nat, e = .returned (.agg #[.int .i64 r0, .int .i64 r1, .int .i64 r2]) ∧ Hid (ValsP v (a + 1) free P items w.drew w' r0 r1 r2)) := HV1
  obtain ⟨fa, fcap, hfv, hfn, hf | ⟨fb, fo, rfl, hfb, hfc⟩⟩ := HW.out.funs
  · omega
  rw [hfv] at kf
  obtain ⟨q0, _⟩ := hfc (v.z a).toNat hz.2
  rw [hP] at q0
  have hzi : ((v.z a).toNat : Int) = v.z a := by omega
  have HT1 : Hid (∀ w1 r0 r1 r2, ValsP v (a + 1) free P items w.drew w1 r0 r1 r2 → w1.cell? ⟨T, 1, none⟩ = some (.int .i64 (v.z a)) ∧ T < w1.heap.size) := fun w1 r0 r1 r2 h => (by obtain ⟨_, _, f1, _⟩ := h; have := (HTk.out w1 (HDr.out.trans f1)).2; refine ⟨this, ?_⟩; unfold World.cell? at this; cases e : w1.heap[T]? with | none => rw [e] at this; cases this | some o => exact (Array.getElem?_eq_some_iff.1 e).1)
  have HG : Hid (∀ w1 w2 r0 r1 r2 ab an ac, ValsP v (a + 1) free P items w.drew w1 r0 r1 r2 → w2.ownsRow (w1.alloc (.cells #[.int .i64 (r0 : Int), .int .i64 (r1 : Int), .int .i64 (r2 : Int)] 304)).drew.heap.size 3 1 (.slice ab an ac) P ((([(r0 : Int), (r1 : Int), (r2 : Int)]).take P).map (Value.int .i64)) → Below (w1.alloc (.cells #[.int .i64 (r0 : Int), .int .i64 (r1 : Int), .int .i64 (r2 : Int)] 304)).drew.heap.size (w1.alloc (.cells #[.int .i64 (r0 : Int), .int .i64 (r1 : Int), .int .i64 (r2 : Int)] 304)).drew w2 →
      Calls Tryz.prog 171 #[.pointer (some ⟨v.c.X, 0, none⟩), .agg #[.int .i64 7, .int .i64 tt, .int .i64 (v.z a), .int .i64 0, .slice ab an ac]] w2 fun e w' => (∃ u, e = .returned u) ∧ Hid (RekM v a tt free items w w')) := fun w1 w2 r0 r1 r2 ab an ac h hown hbw => by
    obtain ⟨a1, its, f1, f2, f3, f4⟩ := h
    obtain ⟨W, hW⟩ : ∃ W, w1.alloc (.cells #[.int .i64 (r0 : Int), .int .i64 (r1 : Int), .int .i64 (r2 : Int)] 304) = W := ⟨_, rfl⟩
    have hWs : W.heap.size = w1.heap.size + 1 := by rw [← hW]; simp
    have hb1 : Below w1.heap.size w1 W := by rw [← hW]; exact bal w1 _
    rw [hW] at hown hbw
    have hbe : Below w1.heap.size w1 w2 := (hb1.trans ((Below.refl _ _).drew)).trans (hbw.mono (by show _ ≤ W.heap.size; omega))
    have hlo : ([r0, r1, r2].take P).length = P := by simp; omega
    have et : tokIns (v.k a) (v.z a) tt ([r0, r1, r2].take P) = [7, (tt : Int), v.z a, 0] ++ ([r0, r1, r2].take P).map (fun (r : Nat) => (r : Int)) := by rw [hK]; rfl
    have el : (tokIns (v.k a) (v.z a) tt ([r0, r1, r2].take P)).length - 4 = P := by rw [et]; simp; omega
    have em : ([r0, r1, r2].take P).map (fun (r : Nat) => (r : Int)) = ([(r0 : Int), (r1 : Int), (r2 : Int)]).take P := by rw [List.map_take]; rfl
    refine VW.add (os := [r0, r1, r2].take P) HOK.out ((HDr.out.trans f1).trans ((DFr.of hbe).b v.B)) (f2.of hbe) f3 f4 (by rw [hlo, HPz.out]) rfl ab an ac 7 (v.z a) 0 (by rw [et]; exact ⟨rfl, rfl, rfl⟩) ?_ ?_ hil htv (fun h => absurd h (by decide))
    · rw [el]
      rcases hown.2 with ⟨e, h0⟩ | ⟨g, cap, cur, e, g1, g2, g3, g4, g5, g6⟩
      · injection e with e1 e2 e3
        subst e1 e2 e3
        exact ⟨none, 0, by rw [h0], by omega, Or.inl h0⟩
      · injection e with e1 e2 e3
        subst e1 e2 e3
        refine ⟨_, ac, rfl, by omega, Or.inr ⟨g, 0, cur, rfl, g2, fun i hi => ?_⟩⟩
        have e1 : (cur.toList.take (an * 1))[i]? = cur[i]? := by rw [List.getElem?_take, if_pos (by omega), Array.getElem?_toList]
        rw [Nat.zero_add, ← e1, g6, et, List.getElem?_map]
        have hlt : i < (([(r0 : Int), (r1 : Int), (r2 : Int)]).take an).length := by simp; omega
        have e2 : ([7, (tt : Int), v.z a, 0] ++ ([(r0 : Int), (r1 : Int), (r2 : Int)]).take an)[i + 4]? = (([(r0 : Int), (r1 : Int), (r2 : Int)]).take an)[i]? := by
          rw [List.getElem?_append_right (by simp)]
          rfl
        rw [em]
        show Option.map _ _ = some (Value.int .i64 (([7, (tt : Int), v.z a, 0] ++ ([(r0 : Int), (r1 : Int), (r2 : Int)]).take an).getD (i + 4) 0))
        rw [List.getD_eq_getElem?_getD, e2, List.getElem?_eq_getElem hlt]
        rfl
    · refine Or.inr fun x n d e => ?_
      have hb := (Array.getElem?_eq_some_iff.1 f2.rd.box).1
      rcases hown.2 with ⟨e', h0⟩ | ⟨g, cap, cur, e', g1, g2, g3, g4, g5, g6⟩
      · rw [e] at e'
        injection e' with e1 _ _
        cases e1
      · rw [e] at e'
        injection e' with e1 _ _
        injection e1 with e1
        subst e1
        show ¬ g = v.B
        have g1 : W.heap.size ≤ g := g1
        omega
  have HCl : Hid (∀ (w1 : World) (r0 r1 r2 : Nat), Calls Tryz.prog 247 #[.slice (some ⟨w1.heap.size, 0, none⟩) P 3] (w1.alloc (.cells #[.int .i64 (r0 : Int), .int .i64 (r1 : Int), .int .i64 (r2 : Int)] 304)).drew fun e w' => ∃ ab an ac, e = .returned (.slice ab an ac) ∧ Hid (w'.ownsRow (w1.alloc (.cells #[.int .i64 (r0 : Int), .int .i64 (r1 : Int), .int .i64 (r2 : Int)] 304)).drew.heap.size 3 1 (.slice ab an ac) P ((([(r0 : Int), (r1 : Int), (r2 : Int)]).take P).map (Value.int .i64))) ∧ Hid (Below (w1.alloc (.cells #[.int .i64 (r0 : Int), .int .i64 (r1 : Int), .int .i64 (r2 : Int)] 304)).drew.heap.size (w1.alloc (.cells #[.int .i64 (r0 : Int), .int .i64 (r1 : Int), .int .i64 (r2 : Int)] 304)).drew w')) := fun w1 r0 r1 r2 => by
    refine (Tryz.slices_Clone_int w1.heap.size 0 P 3 [(r0 : Int), (r1 : Int), (r2 : Int)] _ (by simp; omega) (by omega) (fun j hj => ?_)).mono fun e w' h => ?_
    · have hn := heap_alloc_new w1 (.cells #[.int .i64 (r0 : Int), .int .i64 (r1 : Int), .int .i64 (r2 : Int)] 304)
      show (w1.alloc (.cells #[.int .i64 (r0 : Int), .int .i64 (r1 : Int), .int .i64 (r2 : Int)] 304)).cell? _ = _
      unfold World.cell?
      rw [hn]
      simp at hj
      rcases (show j = 0 ∨ j = 1 ∨ j = 2 by omega) with rfl | rfl | rfl <;> rfl
    · obtain ⟨v', he, h1, _, h3⟩ := h
      obtain ⟨ab, ac, rfl⟩ := own_shape h1
      exact ⟨ab, P, ac, he, h1, h3⟩
  have HTw : Hid (∀ (w1 w2 : World) (r0 r1 r2 : Nat), T < w1.heap.size → w1.cell? ⟨T, 1, none⟩ = some (.int .i64 (v.z a)) → Below (w1.alloc (.cells #[.int .i64 (r0 : Int), .int .i64 (r1 : Int), .int .i64 (r2 : Int)] 304)).drew.heap.size (w1.alloc (.cells #[.int .i64 (r0 : Int), .int .i64 (r1 : Int), .int .i64 (r2 : Int)] 304)).drew w2 → w2.cell? ⟨T, 1, none⟩ = some (.int .i64 (v.z a))) := fun w1 w2 r0 r1 r2 hl hc hb => by
    have hb1 := bal w1 (.cells #[.int .i64 (r0 : Int), .int .i64 (r1 : Int), .int .i64 (r2 : Int)] 304)
    have e2 := hb.block T (by show T < (w1.alloc (.cells #[.int .i64 (r0 : Int), .int .i64 (r1 : Int), .int .i64 (r2 : Int)] 304)).heap.size; have := hb1.size; omega)
    have e1 := hb1.block T hl
    rw [World.cell?_of_block (w := w1) (a := ⟨T, 1, none⟩) (e2.trans e1)]
    exact hc
  have HTm : Hid (∀ w3, RekM v a tt free items w w3 → w3.cell? ⟨T, 1, none⟩ = some (.int .i64 (v.z a))) := fun w3 h => by
    obtain ⟨_, _, _, _, h1, _⟩ := h
    exact (HTk.out w3 h1).2
  clear hfc hpz
  rw [hK] at t0
  have hz0 : (0 : Int) ≤ v.z a := hz.1
  have hz1 : v.z a < (v.nf : Int) := by omega
  clear hz
  cases ho : v.c.once with
  | false =>
    have HO : Hid (v.c.once = false) := ho
    clear ho hK hk
    go_upto_region 13 with (fail)
    go_region_held3 (fun w' => w'.cell? ⟨v.c.X, 0, none⟩ = some (.slice (some ⟨fb, fo, none⟩) v.nf fcap) ∧ w'.cell? ⟨T, 1, none⟩ = some (.int .i64 (v.z a)) ∧ w'.cell? ⟨fb, fo + (v.z a).toNat * 3, none⟩ = some (.int .i64 P)) (go_keep) (fail)
    go_upto_region 15 with (first
      | (go_at_call 246; refine HV1.out.mono ?_; rintro e w1 ⟨r0, r1, r2, rfl, P1⟩; obtain ⟨t1', t1l⟩ := HT1.out w1 r0 r1 r2 P1.out))
    have hsl := slA w1.heap.size P hP3
    go_region_held3 (fun w' => w'.cell? ⟨T, 1, none⟩ = some (.int .i64 (v.z a))) (first | (exact tk2) | (exact tk3) | go_keep) (first
      | (go_at_call 247; refine (HCl.out w1 r0 r1 r2).mono ?_; rintro e w2 ⟨ab, an, ac, rfl, O2, B2⟩; have tk2 := HTw.out w1 w2 r0 r1 r2 t1l t1' B2.out)
      | (go_at_call 171; refine (HG.out w1 w2 r0 r1 r2 ab an ac P1.out O2.out B2.out).mono ?_; rintro e w3 ⟨⟨u, rfl⟩, M1⟩; have tk3 := HTm.out w3 M1.out))
    have ko1 := HKW.out w3 M1.out
    rw [HO.out] at ko1
    clear tk2 tk3 hsl t1' t1l q0
    go_wp2_with fail
    go_end0
    exact ⟨⟨_, rfl⟩, HF0.out w3 M1.out HO.out⟩
  | true =>
    have HO : Hid (v.c.once = true) := ho
    clear ho hK hk
    go_upto_region 13 with (fail)
    go_region_held3 (fun w' => w'.cell? ⟨v.c.X, 0, none⟩ = some (.slice (some ⟨fb, fo, none⟩) v.nf fcap) ∧ w'.cell? ⟨T, 1, none⟩ = some (.int .i64 (v.z a)) ∧ w'.cell? ⟨fb, fo + (v.z a).toNat * 3, none⟩ = some (.int .i64 P)) (go_keep) (fail)
    go_upto_region 15 with (first
      | (go_at_call 246; refine HV1.out.mono ?_; rintro e w1 ⟨r0, r1, r2, rfl, P1⟩; obtain ⟨t1', t1l⟩ := HT1.out w1 r0 r1 r2 P1.out))
    have hsl := slA w1.heap.size P hP3
    go_region_held3 (fun w' => w'.cell? ⟨T, 1, none⟩ = some (.int .i64 (v.z a))) (first | (exact tk2) | (exact tk3) | go_keep) (first
      | (go_at_call 247; refine (HCl.out w1 r0 r1 r2).mono ?_; rintro e w2 ⟨ab, an, ac, rfl, O2, B2⟩; have tk2 := HTw.out w1 w2 r0 r1 r2 t1l t1' B2.out)
      | (go_at_call 171; refine (HG.out w1 w2 r0 r1 r2 ab an ac P1.out O2.out B2.out).mono ?_; rintro e w3 ⟨⟨u, rfl⟩, M1⟩; have tk3 := HTm.out w3 M1.out))
    have ko1 := HKW.out w3 M1.out
    rw [HO.out] at ko1
    clear tk2 tk3 hsl t1' t1l q0
    go_wp2_with (first
      | (go_at_call 206; refine (HF1.out w3 M1.out HO.out).mono ?_; rintro e w9 ⟨⟨u9, rfl⟩, P9⟩))
    go_end0
    exact ⟨⟨_, rfl⟩, P9⟩
theorem dreckon (v : VC) (ok : VOK v) (m : Nat) (H : ValsC v m) : RekC v m := by
  intro a tt free items w hm ha hk hv htt hpk hil hw
  have hcases : v.k a = 1 ∨ v.k a = 5 ∨ v.k a = 4 ∨ v.k a = 3 ∨ v.k a = 6 := by
    have h := ok.tok a ha
    unfold tokErr at h
    by_cases h1 : v.k a = 1
    · exact Or.inl h1
    by_cases h3 : v.k a = 3
    · omega
    by_cases h4 : v.k a = 4
    · omega
    by_cases h5 : v.k a = 5
    · omega
    by_cases h6 : v.k a = 6
    · omega
    rw [if_neg h1, if_neg hk, if_neg h3, if_neg h4, if_neg h5, if_neg h6] at h
    cases h
  rcases hcases with hK | hK | hK | hK | hK
  · exact dreck1 v ok m H a tt free items w hK hm ha hk hv htt hpk hil hw
  · exact dreck5 v ok m H a tt free items w hK hm ha hk hv htt hpk hil hw
  · exact dreck4 v ok m H a tt free items w hK hm ha hk hv htt hpk hil hw
  · exact dreck3 v ok m H a tt free items w hK hm ha hk hv htt hpk hil hw
  · exact dreck6 v ok m H a tt free items w hK hm ha hk hv htt hpk hil hw
set_option maxRecDepth 20000 in
set_option maxHeartbeats 8000000 in
theorem dvalue (v : VC) (ok : VOK v) : ∀ m, ValC v m := by
  intro m
  induction m with
  | zero => exact fun a free items w hm ha => absurd hm (by omega)
  | succ m ih =>
    intro a free items w hm ha hv hpk hil hw
    have HN : Hid (Calls Tryz.prog 242 #[.pointer (some ⟨v.B, 0, none⟩), .pointer (some ⟨v.E, 0, none⟩)] w fun e w' => e = .returned (.agg #[.int .i64 (v.k a), .int .i64 (v.z a)]) ∧ Hid (Save v.B w w') ∧ Hid (RdAt v.N v.B v.E v.ve v.n v.k v.z (a + 1) w')) := creader1 v.N v.B v.E v.ve v.n v.k v.z a w hw.rd ha ok.n24
    have HS : Hid (∀ (w1 : World) (o : Obj), Save v.B w w1 → RdAt v.N v.B v.E v.ve v.n v.k v.z (a + 1) w1 → DFb v.c.X v.B v.c.C w (w1.alloc o) ∧ VW v (a + 1) items (w1.alloc o)) := fun w1 o h1 h2 => ⟨(h1.b v.c.X v.c.C).trans ((DFr.of (bal w1 o)).b v.B), (hw.read h1 h2).of (bal w1 o)⟩
    have HL : Hid (∀ w1 : World, v.k a = 2 → DFb v.c.X v.B v.c.C w w1 ∧ VW v (a + 1) items w1 → ValP v a free items w w1 (v.z a).toNat) := fun w1 h2 h => ⟨a + 1, [], h.1, (by rw [List.append_nil]; exact h.2), by omega, VS.loc h2 (VS.nil _ _)⟩
    have hz2 : v.k a = 2 → ((v.z a).toNat : Int) = v.z a := fun h2 => by
      have h := ok.tok a ha
      rw [h2] at h
      simp [tokErr] at h
      omega
    have HR : Hid (∀ w1 : World, ¬ v.k a = 2 → DFb v.c.X v.B v.c.C w w1 ∧ VW v (a + 1) items w1 → Calls Tryz.prog 241 #[.pointer (some ⟨v.c.X, 0, none⟩), .agg #[.int .i64 (v.k a), .int .i64 (v.z a)], .func (.func 242) #[] #[.pointer (some ⟨v.B, 0, none⟩), .pointer (some ⟨v.E, 0, none⟩)], .int .i64 free, .int .i64 free] w1 fun e w' => (∃ u, e = .returned u) ∧ Hid (ValP v a free items w w' free)) := fun w1 h2 h => by
      refine (dreckon v ok m (dvalues v ok m ih) a free free items w1 (by omega) ha h2 hv (Nat.le_refl _) hpk hil h.2).mono fun e w' hp => ?_
      obtain ⟨he, a', its, f1, f2, f3, f4⟩ := hp
      exact ⟨he, a', its, h.1.trans f1, f2, f3, f4.vs h2⟩
    clear hw ih
    go_enter Tryz.func229, Tryz.ntmps229
    by_cases h2 : v.k a = 2
    · have hzz := hz2 h2
      have H2 : Hid (v.k a = 2) := h2
      have hk2 : (v.k a == 2) = true := by simp [h2]
      clear h2 hz2
      go_wp2_with (first
        | (go_at_call 242; refine HN.out.mono ?_; rintro e w1 ⟨rfl, S1, R1⟩))
      go_ret
      exact ⟨(v.z a).toNat, by rw [hzz]; rfl, HL.out _ H2.out (HS.out w1 _ S1.out R1.out)⟩
    · have H2 : Hid (¬ v.k a = 2) := h2
      have hk2 : (v.k a == 2) = false := by simp [h2]
      clear h2 hz2
      go_wp2_with (first
        | (go_at_call 242; refine HN.out.mono ?_; rintro e w1 ⟨rfl, S1, R1⟩)
        | (go_at_call 241; refine (HR.out _ H2.out (HS.out w1 _ S1.out R1.out)).mono ?_; rintro e w2 ⟨⟨u, rfl⟩, P2⟩))
      go_ret
      exact ⟨free, rfl, P2⟩
structure SC where
  c : DC
  N : Nat
  nf : Nat
  par : Nat → Int
  loc : Nat → Int
  bv : Nat → Value
structure SOK (s : SC) : Prop where
  par : ∀ i, i < s.nf → 0 ≤ s.par i ∧ s.par i ≤ 3
  low : s.N ≤ s.c.C
structure SW (s : SC) (cl : Bool) (items : List (List Int × Value)) (w : World) : Prop where
  dv : DV s.c w cl items
  funs : FunsAt s.N w s.c.fv s.nf s.par s.loc s.bv
  nw : s.N ≤ w.heap.size
theorem SW.low {s : SC} {cl : Bool} {items : List (List Int × Value)} {w w' : World} (h : SW s cl items w) (ok : SOK s) (hf : DFr s.c.X s.c.C w w') : Below s.N w w' := hf.low (Nat.le_trans ok.low h.dv.xlt.2.2.2) ok.low h.nw
theorem SW.next {s : SC} {cl cl' : Bool} {items items' : List (List Int × Value)} {w w' : World} (h : SW s cl items w) (ok : SOK s) (hf : DFr s.c.X s.c.C w w') (hd : DV s.c w' cl' items') : SW s cl' items' w' :=
  ⟨hd, h.funs.below (h.low ok hf), Nat.le_trans h.nw hf.size⟩
def SC.vc (s : SC) (B E : Nat) (ve : Value) (n : Nat) (k z : Nat → Int) : VC := ⟨s.c, s.N, B, E, ve, n, k, z, s.nf, s.par, s.loc, s.bv⟩
theorem SC.vok {s : SC} (ok : SOK s) {B E : Nat} {ve : Value} {n : Nat} {k z : Nat → Int} (he : exprErr n k z s.nf s.par s.c.vars = 0) : VOK (s.vc B E ve n k z) := by
  obtain ⟨⟨h1, h2⟩, h3, h4, _, _⟩ := exOK_of he
  exact ⟨h1, h2, h3, h4, ok.par, ok.low⟩
theorem SW.vw {s : SC} {cl : Bool} {items : List (List Int × Value)} {w w' : World} (h : SW s cl items w) (hb : Below w.heap.size w w') {B E : Nat} {ve : Value} {n : Nat} {k z : Nat → Int} (hr : RdAt s.N B E ve n k z 0 w') (hB : w.heap.size ≤ B) : VW (s.vc B E ve n k z) 0 items w' :=
  ⟨(h.dv.of hb).weak, h.dv.off hB, hr, h.funs.below (hb.mono h.nw)⟩
theorem VW.fin {s : SC} {cl : Bool} {items its : List (List Int × Value)} {w w1 w2 : World} (h : SW s cl items w) (ok : SOK s) (hb : Below w.heap.size w w1) {B E : Nat} {ve : Value} {n : Nat} {k z : Nat → Int} (hB : w.heap.size ≤ B) {a' : Nat} (hf : DFb s.c.X B s.c.C w1 w2) (hv : VW (s.vc B E ve n k z) a' (items ++ its) w2) : DFr s.c.X s.c.C w w2 ∧ SW s false (items ++ its) w2 := by
  have hfr : DFr s.c.X s.c.C w w2 := hf.r (DFr.of hb) hB
  exact ⟨hfr, h.next ok hfr hv.dv⟩
theorem VS.fin {s : SC} {B E : Nat} {ve : Value} {n : Nat} {k z : Nat → Int} (ok : VOK (s.vc B E ve n k z)) {a' free r : Nat} {once : Bool} {c : List (List Int)} (h : a' ≤ n ∧ VS k z s.par once 0 a' free [r] c) : VS k z s.par once 0 n free [r] c := by
  have h1 := h.2.wants.1
  have e : a' = n := by
    rcases Nat.lt_or_ge a' n with hl | hl
    · have : 1 ≤ asked k z s.par a' := ok.ask a' hl
      simp [asked] at h1
      omega
    · omega
  rw [← e]
  exact e ▸ h.2
theorem RK.fin {s : SC} {B E : Nat} {ve : Value} {n : Nat} {k z : Nat → Int} (ok : VOK (s.vc B E ve n k z)) {a' free tt : Nat} {once : Bool} {c : List (List Int)} (h : a' ≤ n ∧ RK k z s.par once 0 a' tt free c) : RK k z s.par once 0 n tt free c := by
  obtain ⟨hn, os, c1, L, h1, ho, hr⟩ := h
  have h1' := h1.wants.1
  have e : a' = n := by
    rcases Nat.lt_or_ge a' n with hl | hl
    · have : 1 ≤ asked k z s.par a' := ok.ask a' hl
      simp [asked] at h1'
      omega
    · omega
  subst e
  exact ⟨os, c1, L, h1, ho, hr⟩
theorem SW.vars {s : SC} {cl : Bool} {items : List (List Int × Value)} {w : World} (h : SW s cl items w) : w.cell? ⟨s.c.X, 1, none⟩ = some (.int .i64 s.c.vars) := by
  obtain ⟨cur, h0, _, _, h2, _⟩ := h.dv.xt
  unfold World.cell?; rw [h0]; exact h2
def ExP (s : SC) (n : Nat) (k z : Nat → Int) (free : Nat) (items : List (List Int × Value)) (w w' : World) (r : Nat) : Prop :=
  ∃ its, DFr s.c.X s.c.C w w' ∧ SW s false (items ++ its) w' ∧ VS k z s.par s.c.once 0 n free [r] (its.map (·.1)) ∧ its.length ≤ 984 ∧ r ≤ free ∧ r < s.c.vars + 17
theorem exval {s : SC} (ok : SOK s) {cl : Bool} {items : List (List Int × Value)} {w w1 : World} {ve : Value} {n : Nat} {k z : Nat → Int} (h : SW s cl items w) (he : exprErr n k z s.nf s.par s.c.vars = 0) (hil : items.length + 1500 ≤ 100000) {free : Nat} (hf : s.c.vars ≤ free ∧ free ≤ s.c.vars + 1) {B E : Nat} (hb : Below w.heap.size w w1) (hr : RdAt s.N B E ve n k z 0 w1) (hB : w.heap.size ≤ B) :
    Calls Tryz.prog 229 #[.pointer (some ⟨s.c.X, 0, none⟩), .func (.func 242) #[] #[.pointer (some ⟨B, 0, none⟩), .pointer (some ⟨E, 0, none⟩)], .int .i64 free] w1 fun e w' => ∃ r : Nat, e = .returned (.int .i64 r) ∧ Hid (ExP s n k z free items w w' r) := by
  have vok : VOK (s.vc B E ve n k z) := SC.vok ok he
  have hx := exOK_of he
  have hpk := peak_all hx.1.1
  have hn24 := hx.1.1
  refine (dvalue (s.vc B E ve n k z) vok n 0 free items w1 (by show n - 0 ≤ n; omega) (by show 0 < n; omega) hf.1 (by show free + peak (n - 0) ≤ s.c.vars + 17; rw [Nat.sub_zero]; omega) (by show items.length + 41 * (n - 0) + 100 ≤ 100000; omega) (h.vw hb hr hB)).mono fun e w' hp => ?_
  obtain ⟨r, he2, a', its, f1, f2, f3, f4⟩ := hp
  obtain ⟨g1, g2⟩ := VW.fin h ok hb hB f1 f2
  have f5 := VS.fin (s := s) vok ⟨f3, f4⟩
  have hc := f5.count
  have hr2 := f5.reg hx.1.2 (by omega) hf.1
  have hxl := h.dv.xlt.2.2.1
  refine ⟨r, he2, its, g1, g2, f5, ?_, hr2.1, by omega⟩
  have e4 : perTok s.c.once ≤ 41 := by unfold perTok; split <;> omega
  have e5 := Nat.mul_le_mul_right (n - 0) e4
  rw [List.length_map] at hc
  have hc : its.length ≤ perTok s.c.once * (n - 0) := hc
  omega
theorem readerD {s : SC} {w : World} {ve : Value} {n : Nat} {k z : Nat → Int} (ht : ToksAt s.N w ve n k z) (hN : s.N ≤ w.heap.size) :
    Calls Tryz.prog 230 #[ve] w.drew fun e w' => ∃ B E, e = .returned (.func (.func 242) #[] #[.pointer (some ⟨B, 0, none⟩), .pointer (some ⟨E, 0, none⟩)]) ∧ Hid (Below w.heap.size w w') ∧ Hid (RdAt s.N B E ve n k z 0 w') ∧ Hid (w.heap.size ≤ B) := by
  refine (creader s.N ve n k z w.drew (ht.below ((Below.refl _ _).drew)) hN).mono fun e w' hp => ?_
  obtain ⟨B, E, he, h1, h2, h3⟩ := hp
  exact ⟨B, E, he, ((Below.refl _ _).drew).trans h1.out, h2, h3⟩
theorem set_mid {α : Type} (A B : List α) (x y : α) : (A ++ [x] ++ B).set A.length y = A ++ [y] ++ B := by
  simp
def UnP (s : SC) (n : Nat) (k z : Nat → Int) (items : List (List Int × Value)) (D P : Nat) (w w' : World) : Prop :=
  ∃ (pre post : List (List Int × Value)) (r : Nat) (ce : List (List Int)) (L1 L2 : List Nat), DFr s.c.X s.c.C w w' ∧ SW s true (items ++ pre ++ [([13, (r : Int), 0, 0], .slice none 0 0)] ++ post) w' ∧ LandAt s.c D P (items ++ pre).length w' ∧
    VS k z s.par s.c.once 0 n s.c.vars [r] ce ∧ (∀ x ∈ L1, max s.c.vars (r + 1) ≤ x) ∧ L1.length ≤ 17 ∧ (∀ x ∈ L2, s.c.vars ≤ x) ∧ L2.length ≤ 17 ∧ pre.map (·.1) = ce ++ clr L1 ∧ post.map (·.1) = clr L2 ∧ pre.length ≤ 1001 ∧ post.length ≤ 17
def Un2 (s : SC) (n : Nat) (k z : Nat → Int) (items : List (List Int × Value)) (w w' : World) (r : Nat) : Prop :=
  ∃ (pre : List (List Int × Value)) (ce : List (List Int)) (L1 : List Nat), DFr s.c.X s.c.C w w' ∧ SW s false (items ++ pre) w' ∧ VS k z s.par s.c.once 0 n s.c.vars [r] ce ∧ (∀ x ∈ L1, max s.c.vars (r + 1) ≤ x) ∧ L1.length ≤ 17 ∧ pre.map (·.1) = ce ++ clr L1 ∧ pre.length ≤ 1001 ∧ r < s.c.vars + 17
def Un3 (s : SC) (n : Nat) (k z : Nat → Int) (items : List (List Int × Value)) (D P : Nat) (w w' : World) : Prop :=
  ∃ (pre : List (List Int × Value)) (r : Nat) (ce : List (List Int)) (L1 : List Nat), DFr s.c.X s.c.C w w' ∧ SW s false (items ++ pre ++ [([13, (r : Int), 0, 0], .slice none 0 0)]) w' ∧ LandAt s.c D P (items ++ pre).length w' ∧ VS k z s.par s.c.once 0 n s.c.vars [r] ce ∧ (∀ x ∈ L1, max s.c.vars (r + 1) ≤ x) ∧ L1.length ≤ 17 ∧ pre.map (·.1) = ce ++ clr L1 ∧ pre.length ≤ 1001
theorem un2 {s : SC} (ok : SOK s) {n : Nat} {k z : Nat → Int} {items : List (List Int × Value)} {w w1 : World} {r : Nat} (h : ExP s n k z s.c.vars items w w1 r) (hil : items.length + 1500 ≤ 100000) :
    Calls Tryz.prog 206 #[.pointer (some ⟨s.c.X, 0, none⟩), .int .i64 ((max s.c.vars (r + 1) : Nat) : Int)] w1 fun e w' => (∃ v, e = .returned v) ∧ Hid (Un2 s n k z items w w' r) := by
  obtain ⟨its, h1, h2, h3, h4, h5, h6⟩ := h
  have hv := h2.dv.xlt.2.2.1
  refine (dclear s.c (max s.c.vars (r + 1)) false (items ++ its) w1 h2.dv (by omega) (by rw [List.length_append]; omega)).mono fun e w' hp => ?_
  obtain ⟨he, its2, L, f1, f2, f3, f4, f5, _⟩ := hp
  have hl := congrArg List.length f3
  rw [List.length_map, clr_len] at hl
  refine ⟨he, its ++ its2, _, L, h1.trans f1, ?_, h3, f4, by omega, by rw [List.map_append, f3], by rw [List.length_append]; omega, h6⟩
  rw [← List.append_assoc]
  exact h2.next ok f1 f2.weak
theorem un3 {s : SC} (ok : SOK s) {n : Nat} {k z : Nat → Int} {items : List (List Int × Value)} {w w1 : World} {r : Nat} (h : Un2 s n k z items w w1 r) (hil : items.length + 1500 ≤ 100000) :
    Calls Tryz.prog 244 #[.pointer (some ⟨s.c.X, 0, none⟩), .agg #[.int .i64 13, .int .i64 r, .int .i64 0, .int .i64 0, .slice none 0 0]] w1 fun e w' => ∃ D P, e = .returned (.func (.func 248) #[] #[.pointer (some ⟨D, 0, none⟩), .pointer (some ⟨P, 0, none⟩)]) ∧ Hid (Un3 s n k z items D P w w') := by
  obtain ⟨pre, ce, L1, h1, h2, h3, h4, h5, h6, h7, h8⟩ := h
  refine (djump s.c false (items ++ pre) 13 r w1 h2.dv (Or.inr rfl) h8 (by rw [List.length_append]; omega)).mono fun e w' hp => ?_
  obtain ⟨D, P, he, f1, f2, f3⟩ := hp
  exact ⟨D, P, he, pre, r, ce, L1, h1.trans f1, h2.next ok f1 f2, f3, h3, h4, h5, h6, h7⟩
theorem un4 {s : SC} (ok : SOK s) {n : Nat} {k z : Nat → Int} {items : List (List Int × Value)} {w w1 : World} {D P : Nat} (h : Un3 s n k z items D P w w1) (hil : items.length + 1500 ≤ 100000) :
    Calls Tryz.prog 206 #[.pointer (some ⟨s.c.X, 0, none⟩), .int .i64 s.c.vars] w1 fun e w' => (∃ v, e = .returned v) ∧ Hid (UnP s n k z items D P w w') := by
  obtain ⟨pre, r, ce, L1, h1, h2, hL, h3, h4, h5, h6, h7⟩ := h
  have hv := h2.dv.xlt.2.2.1
  refine (dclear s.c s.c.vars false _ w1 h2.dv (by omega) (by simp; omega)).mono fun e w' hp => ?_
  obtain ⟨he, its2, L, f1, f2, f3, f4, f5, _⟩ := hp
  have hl := congrArg List.length f3
  rw [List.length_map, clr_len] at hl
  refine ⟨he, pre, its2, r, ce, L1, L, h1.trans f1, ?_, hL.keep h2.dv f1, h3, h4, h5, f4, by omega, h6, f3, h7, by omega⟩
  refine h2.next ok f1 ?_
  have e : (false || decide (s.c.vars = s.c.vars)) = true := by simp
  rw [e] at f2
  exact f2
set_option maxRecDepth 20000 in
set_option maxHeartbeats 4000000 in
theorem dunless (s : SC) (ok : SOK s) (cl : Bool) (items : List (List Int × Value)) (ve : Value) (n : Nat) (k z : Nat → Int) (w : World) (h : SW s cl items w) (ht : ToksAt s.N w ve n k z) (he : exprErr n k z s.nf s.par s.c.vars = 0) (hil : items.length + 1500 ≤ 100000) :
    Calls Tryz.prog 243 #[.pointer (some ⟨s.c.X, 0, none⟩), ve] w fun e w' => ∃ D P, e = .returned (.func (.func 248) #[] #[.pointer (some ⟨D, 0, none⟩), .pointer (some ⟨P, 0, none⟩)]) ∧ Hid (UnP s n k z items D P w w') := by
  have HR : Hid (Calls Tryz.prog 230 #[ve] w.drew fun e w' => ∃ B E, e = .returned (.func (.func 242) #[] #[.pointer (some ⟨B, 0, none⟩), .pointer (some ⟨E, 0, none⟩)]) ∧ Hid (Below w.heap.size w w') ∧ Hid (RdAt s.N B E ve n k z 0 w') ∧ Hid (w.heap.size ≤ B)) := readerD ht h.nw
  have hv := h.dv.xlt.2.2.1
  have HV : Hid (∀ w1 B E, Below w.heap.size w w1 → RdAt s.N B E ve n k z 0 w1 → w.heap.size ≤ B → Calls Tryz.prog 229 #[.pointer (some ⟨s.c.X, 0, none⟩), .func (.func 242) #[] #[.pointer (some ⟨B, 0, none⟩), .pointer (some ⟨E, 0, none⟩)], .int .i64 s.c.vars] w1 fun e w' => ∃ r : Nat, e = .returned (.int .i64 r) ∧ Hid (ExP s n k z s.c.vars items w w' r)) := fun w1 B E h1 h2 h3 => exval ok h he hil ⟨Nat.le_refl _, by omega⟩ h1 h2 h3
  have HB : Hid (∀ w1, Below w.heap.size w w1 → w1.cell? ⟨s.c.X, 1, none⟩ = some (.int .i64 s.c.vars)) := fun w1 hb => SW.vars (h.next ok (DFr.of hb) (h.dv.of hb))
  have HE : Hid (∀ w1 r, ExP s n k z s.c.vars items w w1 r → w1.cell? ⟨s.c.X, 1, none⟩ = some (.int .i64 s.c.vars) ∧ r ≤ 6) := fun w1 r hp => (by obtain ⟨_, _, h2, _, _, h5, _⟩ := hp; exact ⟨h2.vars, by omega⟩)
  have H2 : Hid (∀ w1 r, ExP s n k z s.c.vars items w w1 r → Calls Tryz.prog 206 #[.pointer (some ⟨s.c.X, 0, none⟩), .int .i64 ((max s.c.vars (r + 1) : Nat) : Int)] w1 fun e w' => (∃ v, e = .returned v) ∧ Hid (Un2 s n k z items w w' r)) := fun w1 r hp => un2 ok hp hil
  have H3 : Hid (∀ w1 r, Un2 s n k z items w w1 r → Calls Tryz.prog 244 #[.pointer (some ⟨s.c.X, 0, none⟩), .agg #[.int .i64 13, .int .i64 (r : Nat), .int .i64 0, .int .i64 0, .slice none 0 0]] w1 fun e w' => ∃ D P, e = .returned (.func (.func 248) #[] #[.pointer (some ⟨D, 0, none⟩), .pointer (some ⟨P, 0, none⟩)]) ∧ Hid (Un3 s n k z items D P w w')) := fun w1 r hp => un3 ok hp hil
  have H4 : Hid (∀ w1 D P, Un3 s n k z items D P w w1 → w1.cell? ⟨s.c.X, 1, none⟩ = some (.int .i64 s.c.vars) ∧ Calls Tryz.prog 206 #[.pointer (some ⟨s.c.X, 0, none⟩), .int .i64 s.c.vars] w1 fun e w' => (∃ v, e = .returned v) ∧ Hid (UnP s n k z items D P w w')) := fun w1 D P hp => ⟨(by obtain ⟨_, _, _, _, _, h2, _⟩ := hp; exact h2.vars), un4 ok hp hil⟩
  obtain ⟨va, cap, rfl, _⟩ := ht
  clear h he
  go_enter Tryz.func243, Tryz.ntmps243
  go_upto_region 1 with (fail)
  have kv0 := HB.out w (Below.refl _ _)
  go_region_held3 (fun w' => w'.cell? ⟨s.c.X, 1, none⟩ = some (.int .i64 s.c.vars)) (first | (exact kv) | (exact kv2) | go_keep) (first
    | (go_at_call 230; refine HR.out.mono ?_; rintro e w1 ⟨B, E, rfl, B1, R1, S1⟩; have kv := HB.out w1 B1.out)
    | (go_at_call 229; refine (HV.out w1 B E B1.out R1.out S1.out).mono ?_; rintro e w2 ⟨r, rfl, P2⟩; obtain ⟨kv2, hr2⟩ := HE.out w2 r P2.out))
  have hwr : IntKind.i64.wrap ((r : Int) + 1) = (r : Int) + 1 := Go.IntWalk.i64_in _ (by omega)
  have hmx : max (s.c.vars : Int) ((r : Int) + 1) = ((max s.c.vars (r + 1) : Nat) : Int) := by omega
  clear kv kv0
  go_wp2_with (first
    | (go_at_call 244; refine (H3.out w3 r P3.out).mono ?_; rintro e w4 ⟨D, P, rfl, P4⟩; obtain ⟨kv4, HC4⟩ := H4.out w4 D P P4.out; have HC4 : Hid (Calls Tryz.prog 206 #[.pointer (some ⟨s.c.X, 0, none⟩), .int .i64 s.c.vars] w4 fun e w' => (∃ v, e = .returned v) ∧ Hid (UnP s n k z items D P w w')) := HC4)
    | (go_at_call 206; refine HC4.out.mono ?_; rintro e w5 ⟨⟨u5, rfl⟩, P5⟩)
    | (go_at_call 206; refine (H2.out w2 r P2.out).mono ?_; rintro e w3 ⟨⟨u3, rfl⟩, P3⟩))
  go_ret
  exact ⟨D, P, rfl, P5⟩
end Go.Proofs.YtbmenihakkogkabGreatDoor
