import Derived.Test.YtbmenihakkogkabGreatDoorPart26
import Derived.Deep.RegionHeld3
import Derived.Test.YtbmenihakkogkabGreatDoorPart27
import Derived.Test.YtbmenihakkogkabGreatDoorDStmtA
namespace Go.Proofs.YtbmenihakkogkabGreatDoor
open Go.RowKit Go.Maps
set_option maxRecDepth 20000 in
set_option maxHeartbeats 4000000 in
theorem dstmt2 (s : SC) (ok : SOK s) (d : Nat) : StC s d 2 := by
  intro nd A B cl items ve vf va vb w hk h ht hf hs hil
  obtain ⟨hnk, hnum, hput, hex, _⟩ := stOK hs
  have hv := h.dv.xlt.2.2.1
  obtain ⟨a, cap, rfl, hr⟩ := ht
  obtain ⟨fa, fcap, rfl, hfr⟩ := hf
  have HK : Hid (nd.kind = 2) := hk
  have HPre : Hid (DFr s.c.X s.c.C w (w.alloc (.cells #[.int .i64 nd.kind, .int .i64 nd.num, .slice a nd.ne cap, .slice fa nd.nf fcap, va, vb] 82))) := DFr.of (bal w _)
  have hW : SW s cl items (w.alloc (.cells #[.int .i64 nd.kind, .int .i64 nd.num, .slice a nd.ne cap, .slice fa nd.nf fcap, va, vb] 82)) := h.of ok (bal w _)
  have hT : ToksAt s.N (w.alloc (.cells #[.int .i64 nd.kind, .int .i64 nd.num, .slice a nd.ne cap, .slice fa nd.nf fcap, va, vb] 82)) (.slice a nd.ne cap) nd.ne nd.ek nd.ez := ToksAt.below ⟨a, cap, rfl, hr⟩ ((bal w _).mono h.nw)
  have hT2 : ToksAt s.N (w.alloc (.cells #[.int .i64 nd.kind, .int .i64 nd.num, .slice a nd.ne cap, .slice fa nd.nf fcap, va, vb] 82)) (.slice fa nd.nf fcap) nd.nf nd.fk nd.fz := ToksAt.below ⟨fa, fcap, rfl, hfr⟩ ((bal w _).mono h.nw)
  have hBx : (w.alloc (.cells #[.int .i64 nd.kind, .int .i64 nd.num, .slice a nd.ne cap, .slice fa nd.nf fcap, va, vb] 82)).heap[w.heap.size]? = some (.cells #[.int .i64 nd.kind, .int .i64 nd.num, .slice a nd.ne cap, .slice fa nd.nf fcap, va, vb] 82 (0, 0)) := heap_alloc_new w _
  clear h hr hfr
  generalize hw0 : w.alloc (.cells #[.int .i64 nd.kind, .int .i64 nd.num, .slice a nd.ne cap, .slice fa nd.nf fcap, va, vb] 82) = W at *
  generalize hQ : w.heap.size = Q at *
  have HW0 : Hid (w.alloc (.cells #[.int .i64 nd.kind, .int .i64 nd.num, .slice a nd.ne cap, .slice fa nd.nf fcap, va, vb] 82) = W) := hw0
  have HQ : Hid (w.heap.size = Q) := hQ
  clear hw0 hQ
  have HB : Hid (∀ w1, DFr s.c.X s.c.C W w1 → w1.cell? ⟨Q, 0, none⟩ = some (.int .i64 nd.kind) ∧ w1.cell? ⟨Q, 1, none⟩ = some (.int .i64 nd.num) ∧ w1.cell? ⟨Q, 2, none⟩ = some (.slice a nd.ne cap) ∧ w1.cell? ⟨Q, 3, none⟩ = some (.slice fa nd.nf fcap)) := fun w1 hf => by
    have := hW.box hBx (by decide) (by decide) hf
    exact ⟨by unfold World.cell?; rw [this]; rfl, by unfold World.cell?; rw [this]; rfl, by unfold World.cell?; rw [this]; rfl, by unfold World.cell?; rw [this]; rfl⟩
  have HSb : Hid (∀ w1, Below W.heap.size W w1 → w1.cell? ⟨Q, 2, none⟩ = some (.slice a nd.ne cap) ∧ w1.cell? ⟨s.c.X, 1, none⟩ = some (.int .i64 s.c.vars)) := fun w1 hb => ⟨(HB.out w1 (DFr.of hb)).2.2.1, (hW.of ok hb).vars⟩
  have hex := hex (by omega)
  obtain ⟨hn0, hn3, hex2⟩ := hput hk
  have HR : Hid (Calls Tryz.prog 230 #[.slice a nd.ne cap] W.drew fun e w' => ∃ B E, e = .returned (.func (.func 242) #[] #[.pointer (some ⟨B, 0, none⟩), .pointer (some ⟨E, 0, none⟩)]) ∧ Hid (Below W.heap.size W w') ∧ Hid (RdAt s.N B E (.slice a nd.ne cap) nd.ne nd.ek nd.ez 0 w') ∧ Hid (W.heap.size ≤ B)) := readerD hT hW.nw
  have HV : Hid (∀ w1 B E, Below W.heap.size W w1 → RdAt s.N B E (.slice a nd.ne cap) nd.ne nd.ek nd.ez 0 w1 → W.heap.size ≤ B → Calls Tryz.prog 229 #[.pointer (some ⟨s.c.X, 0, none⟩), .func (.func 242) #[] #[.pointer (some ⟨B, 0, none⟩), .pointer (some ⟨E, 0, none⟩)], .int .i64 s.c.vars] w1 fun e w' => ∃ r : Nat, e = .returned (.int .i64 r) ∧ Hid (ExP s nd.ne nd.ek nd.ez s.c.vars items W w' r)) := fun w1 B E h1 h2 h3 => exval ok hW hex (by omega) ⟨Nat.le_refl _, by omega⟩ h1 h2 h3
  have HSe : Hid (∀ w1 r, ExP s nd.ne nd.ek nd.ez s.c.vars items W w1 r → w1.cell? ⟨Q, 2, none⟩ = some (.slice a nd.ne cap) ∧ w1.cell? ⟨s.c.X, 1, none⟩ = some (.int .i64 s.c.vars)) := fun w1 r hp => by
    obtain ⟨_, h1, h2, _⟩ := hp
    exact ⟨(HB.out w1 h1).2.2.1, h2.vars⟩
  have HE2 : Hid (∀ w1 r, ExP s nd.ne nd.ek nd.ez s.c.vars items W w1 r → ∃ its : List (List Int × Value), SW s false (items ++ its) w1 ∧ DFr s.c.X s.c.C W w1 ∧ its.length ≤ 984 ∧ r ≤ s.c.vars ∧ VS nd.ek nd.ez s.par s.c.once 0 nd.ne s.c.vars [r] (its.map (·.1)) ∧ r < s.c.vars + 17 ∧ ToksAt s.N w1 (.slice fa nd.nf fcap) nd.nf nd.fk nd.fz ∧ s.N ≤ w1.heap.size) := fun w1 r hp => by
    obtain ⟨its, h1, h2, h3, h4, h5, h6⟩ := hp
    exact ⟨its, h2, h1, h4, h5, h3, h6, hT2.below (hW.low ok h1), h2.nw⟩
  have kz := HB.out W (DFr.refl _ _ _)
  obtain ⟨z0, z1, z2, z3⟩ := kz
  have kv0 := hW.vars
  rw [hk] at z0
  have HOK : Hid (SOK s) := ok
  have HX2 : Hid (exprErr nd.nf nd.fk nd.fz s.nf s.par s.c.vars = 0) := hex2
  clear hW hT hT2 hBx hk hs hex ok hnum hput hnk hex2
  go_enter Tryz.func205, Tryz.ntmps205
  go_upto_region 1 with (fail)
  rw [HW0.out]
  simp only [HQ.out]
  go_upto_region 5 with (fail)
  go_region_held3 (fun w' => w'.cell? ⟨Q, 2, none⟩ = some (.slice a nd.ne cap) ∧ w'.cell? ⟨s.c.X, 1, none⟩ = some (.int .i64 s.c.vars)) (first | (exact k1) | (exact k2) | go_keep) (first
    | (go_at_call 230; refine HR.out.mono ?_; rintro e w1 ⟨B', E, rfl, B1, R1, S1⟩; have k1 := HSb.out w1 B1.out)
    | (go_at_call 229; refine (HV.out w1 B' E B1.out R1.out S1.out).mono ?_; rintro e w2 ⟨r, rfl, P2⟩; have k2 := HSe.out w2 r P2.out))
  obtain ⟨its, hsw2, hdf2, hl2, hr2, hvs2, hr17, htk2, hnw2⟩ := HE2.out w2 r P2.out
  have HR2 : Hid (Calls Tryz.prog 230 #[.slice fa nd.nf fcap] w2.drew fun e w' => ∃ B E, e = .returned (.func (.func 242) #[] #[.pointer (some ⟨B, 0, none⟩), .pointer (some ⟨E, 0, none⟩)]) ∧ Hid (Below w2.heap.size w2 w') ∧ Hid (RdAt s.N B E (.slice fa nd.nf fcap) nd.nf nd.fk nd.fz 0 w') ∧ Hid (w2.heap.size ≤ B)) := readerD htk2 hnw2
  have HV2 : Hid (∀ w1 B E, Below w2.heap.size w2 w1 → RdAt s.N B E (.slice fa nd.nf fcap) nd.nf nd.fk nd.fz 0 w1 → w2.heap.size ≤ B → Calls Tryz.prog 229 #[.pointer (some ⟨s.c.X, 0, none⟩), .func (.func 242) #[] #[.pointer (some ⟨B, 0, none⟩), .pointer (some ⟨E, 0, none⟩)], .int .i64 ((max s.c.vars (r + 1) : Nat) : Int)] w1 fun e w' => ∃ r2 : Nat, e = .returned (.int .i64 r2) ∧ Hid (ExP s nd.nf nd.fk nd.fz (max s.c.vars (r + 1)) (items ++ its) w2 w' r2)) := fun w1 B E h1 h2 h3 => exval HOK.out hsw2 HX2.out (by rw [List.length_append]; omega) ⟨by omega, by omega⟩ h1 h2 h3
  have HSb2 : Hid (∀ w1, Below w2.heap.size w2 w1 → w1.cell? ⟨Q, 3, none⟩ = some (.slice fa nd.nf fcap) ∧ w1.cell? ⟨s.c.X, 1, none⟩ = some (.int .i64 s.c.vars)) := fun w1 hb => ⟨(HB.out w1 (hdf2.trans (DFr.of hb))).2.2.2, (hsw2.of HOK.out hb).vars⟩
  have HSe2 : Hid (∀ w1 r2, ExP s nd.nf nd.fk nd.fz (max s.c.vars (r + 1)) (items ++ its) w2 w1 r2 → w1.cell? ⟨Q, 3, none⟩ = some (.slice fa nd.nf fcap) ∧ w1.cell? ⟨s.c.X, 1, none⟩ = some (.int .i64 s.c.vars)) := fun w1 r2 hp => by
    obtain ⟨_, h1, h2, _⟩ := hp
    exact ⟨(HB.out w1 (hdf2.trans h1)).2.2.2, h2.vars⟩
  have HN1 : Hid (∀ w1 r2, ExP s nd.nf nd.fk nd.fz (max s.c.vars (r + 1)) (items ++ its) w2 w1 r2 → w1.cell? ⟨Q, 1, none⟩ = some (.int .i64 nd.num)) := fun w1 r2 hp => by
    obtain ⟨_, h1, h2, _⟩ := hp
    exact (HB.out w1 (hdf2.trans h1)).2.1
  have HA : Hid (∀ w1 r2, ExP s nd.nf nd.fk nd.fz (max s.c.vars (r + 1)) (items ++ its) w2 w1 r2 → Calls Tryz.prog 171 #[.pointer (some ⟨s.c.X, 0, none⟩), .agg #[.int .i64 6, .int .i64 (r : Nat), .int .i64 (r2 : Nat), .int .i64 nd.num, .slice none 0 0]] w1 fun e w' => (∃ u, e = .returned u) ∧ Hid (StpP s d nd A B items w w')) := fun w1 r2 hp => by
    obtain ⟨its2, h1, h2, h3, h4, h5, h6⟩ := hp
    refine (h2.add HOK.out 6 r2 nd.num r hr17 (by rw [List.length_append, List.length_append]; omega) (by decide)).mono fun e w' hq => ?_
    obtain ⟨he, f1, f2⟩ := hq
    have hfr := (hdf2.trans h1).trans f1.out
    refine ⟨he, its ++ its2 ++ [([6, (r : Int), (r2 : Int), nd.num], .slice none 0 0)], false, HPre.out.trans hfr, (by rw [← List.append_assoc, ← List.append_assoc]; exact f2.out), Or.inl ⟨rfl, Or.inr (Or.inr (Or.inl ⟨HK.out, r, r2, _, _, hvs2, h3, by rw [List.map_append, List.map_append]; rfl⟩))⟩⟩
  obtain ⟨k20, k21⟩ := HSb2.out w2 (Below.refl _ _)
  have hwr : IntKind.i64.wrap ((r : Int) + 1) = (r : Int) + 1 := Go.IntWalk.i64_in _ (by omega)
  have hmx : max (s.c.vars : Int) ((r : Int) + 1) = ((max s.c.vars (r + 1) : Nat) : Int) := by omega
  have HV2' := HV2
  clear hsw2 hdf2 hvs2 htk2 k1 k2 z0 z1 z2 z3 kv0
  go_upto_region 6 with (fail)
  go_region_held3 (fun w' => w'.cell? ⟨Q, 3, none⟩ = some (.slice fa nd.nf fcap) ∧ w'.cell? ⟨s.c.X, 1, none⟩ = some (.int .i64 s.c.vars)) (first | (exact k4) | (exact k5) | go_keep) (first
    | (go_at_call 230; refine HR2.out.mono ?_; rintro e w4 ⟨B', E, rfl, B4, R4, S4⟩; have k4 := HSb2.out w4 B4.out)
    | (go_at_call 229; refine (HV2.out w4 B' E B4.out R4.out S4.out).mono ?_; rintro e w5 ⟨r2, rfl, P5⟩; have k5 := HSe2.out w5 r2 P5.out))
  all_goals (have k6 := HN1.out w5 r2 P5.out)
  all_goals clear k4 k5 k20 k21
  all_goals (go_wp2_with (first
    | (go_at_call 171; refine (HA.out w5 r2 P5.out).mono ?_; rintro e w6 ⟨⟨u6, rfl⟩, P6⟩)))
  all_goals go_end0
  all_goals exact ⟨⟨_, rfl⟩, P6⟩
set_option maxRecDepth 20000 in
set_option maxHeartbeats 4000000 in
theorem dstmt4 (s : SC) (ok : SOK s) (d : Nat) : StC s d 4 := by
  intro nd A B cl items ve vf va vb w hk h ht hf hs hil
  obtain ⟨hnk, hnum, hput, hex, _⟩ := stOK hs
  have hv := h.dv.xlt.2.2.1
  obtain ⟨a, cap, rfl, hr⟩ := ht
  obtain ⟨fa, fcap, rfl, hfr⟩ := hf
  have HK : Hid (nd.kind = 4) := hk
  have HPre : Hid (DFr s.c.X s.c.C w (w.alloc (.cells #[.int .i64 nd.kind, .int .i64 nd.num, .slice a nd.ne cap, .slice fa nd.nf fcap, va, vb] 82))) := DFr.of (bal w _)
  have hW : SW s cl items (w.alloc (.cells #[.int .i64 nd.kind, .int .i64 nd.num, .slice a nd.ne cap, .slice fa nd.nf fcap, va, vb] 82)) := h.of ok (bal w _)
  have hT : ToksAt s.N (w.alloc (.cells #[.int .i64 nd.kind, .int .i64 nd.num, .slice a nd.ne cap, .slice fa nd.nf fcap, va, vb] 82)) (.slice a nd.ne cap) nd.ne nd.ek nd.ez := ToksAt.below ⟨a, cap, rfl, hr⟩ ((bal w _).mono h.nw)
  have hT2 : ToksAt s.N (w.alloc (.cells #[.int .i64 nd.kind, .int .i64 nd.num, .slice a nd.ne cap, .slice fa nd.nf fcap, va, vb] 82)) (.slice fa nd.nf fcap) nd.nf nd.fk nd.fz := ToksAt.below ⟨fa, fcap, rfl, hfr⟩ ((bal w _).mono h.nw)
  have hBx : (w.alloc (.cells #[.int .i64 nd.kind, .int .i64 nd.num, .slice a nd.ne cap, .slice fa nd.nf fcap, va, vb] 82)).heap[w.heap.size]? = some (.cells #[.int .i64 nd.kind, .int .i64 nd.num, .slice a nd.ne cap, .slice fa nd.nf fcap, va, vb] 82 (0, 0)) := heap_alloc_new w _
  clear h hr hfr
  generalize hw0 : w.alloc (.cells #[.int .i64 nd.kind, .int .i64 nd.num, .slice a nd.ne cap, .slice fa nd.nf fcap, va, vb] 82) = W at *
  generalize hQ : w.heap.size = Q at *
  have HW0 : Hid (w.alloc (.cells #[.int .i64 nd.kind, .int .i64 nd.num, .slice a nd.ne cap, .slice fa nd.nf fcap, va, vb] 82) = W) := hw0
  have HQ : Hid (w.heap.size = Q) := hQ
  clear hw0 hQ
  have HB : Hid (∀ w1, DFr s.c.X s.c.C W w1 → w1.cell? ⟨Q, 0, none⟩ = some (.int .i64 nd.kind) ∧ w1.cell? ⟨Q, 1, none⟩ = some (.int .i64 nd.num) ∧ w1.cell? ⟨Q, 2, none⟩ = some (.slice a nd.ne cap) ∧ w1.cell? ⟨Q, 3, none⟩ = some (.slice fa nd.nf fcap)) := fun w1 hf => by
    have := hW.box hBx (by decide) (by decide) hf
    exact ⟨by unfold World.cell?; rw [this]; rfl, by unfold World.cell?; rw [this]; rfl, by unfold World.cell?; rw [this]; rfl, by unfold World.cell?; rw [this]; rfl⟩
  have HSb : Hid (∀ w1, Below W.heap.size W w1 → w1.cell? ⟨Q, 2, none⟩ = some (.slice a nd.ne cap) ∧ w1.cell? ⟨s.c.X, 1, none⟩ = some (.int .i64 s.c.vars)) := fun w1 hb => ⟨(HB.out w1 (DFr.of hb)).2.2.1, (hW.of ok hb).vars⟩
  have HA : Hid (Calls Tryz.prog 171 #[.pointer (some ⟨s.c.X, 0, none⟩), .agg #[.int .i64 10, .int .i64 0, .int .i64 0, .int .i64 0, .slice none 0 0]] W fun e w' => (∃ u, e = .returned u) ∧ Hid (StpP s d nd A B items w w')) := by
    refine (hW.add ok 10 0 0 0 (by omega) (by omega) (by decide)).mono fun e w' hq => ?_
    obtain ⟨he, f1, f2⟩ := hq
    exact ⟨he, _, false, HPre.out.trans f1.out, f2.out, Or.inl ⟨rfl, Or.inr (Or.inr (Or.inr (Or.inl ⟨HK.out, rfl⟩)))⟩⟩
  have kz := HB.out W (DFr.refl _ _ _)
  obtain ⟨z0, z1, z2, z3⟩ := kz
  rw [hk] at z0
  clear hW hT hT2 hBx hk hs hex ok hnum hput hnk HSb
  go_enter Tryz.func205, Tryz.ntmps205
  go_upto_region 1 with (fail)
  rw [HW0.out]
  simp only [HQ.out]
  go_wp2_with (first
    | (go_at_call 171; refine HA.out.mono ?_; rintro e w3 ⟨⟨u3, rfl⟩, P3⟩))
  go_end0
  exact ⟨⟨_, rfl⟩, P3⟩
set_option maxRecDepth 20000 in
set_option maxHeartbeats 4000000 in
theorem dstmt67 (s : SC) (ok : SOK s) (d : Nat) (H : BlkC s d) (nd : Nd) (A B : SL) (items : List (List Int × Value)) (ve vf va vb : Value) (w : World) (hk : nd.kind = 6 ∨ nd.kind = 7) (h : SW s true items w) (ht : ToksAt s.N w ve nd.ne nd.ek nd.ez) (hf : ToksAt s.N w vf nd.nf nd.fk nd.fz) (hA : StmtsAt s.N w d va A) (hB : StmtsAt s.N w d vb B) (hs : stErr s.nf s.par s.c.vars nd A.len B.len = 0) (eA : errs (stErr s.nf s.par s.c.vars) d A = 0) (eB : errs (stErr s.nf s.par s.c.vars) d B = 0) (hil : items.length + 2100 * (1 + size d A + size d B) + 3000 ≤ 100000) :
    Calls Tryz.prog 205 #[.pointer (some ⟨s.c.X, 0, none⟩), .agg #[.int .i64 nd.kind, .int .i64 nd.num, ve, vf, va, vb]] w fun e w' => (∃ u, e = .returned u) ∧ Hid (StpP s d nd A B items w w') := by
  have ht' := ht
  have hf' := hf
  have hA' := hA
  have hB' := hB
  obtain ⟨a, cap, rfl, _⟩ := ht'
  obtain ⟨fa, fcap, rfl, _⟩ := hf'
  obtain ⟨aa, ca, rfl, _⟩ := hA'.shape
  obtain ⟨ab, cb, rfl, _⟩ := hB'.shape
  rcases hk with hk | hk
  · have HC : Hid (∀ wi, Below w.heap.size w wi → Calls Tryz.prog 231 #[.pointer (some ⟨s.c.X, 0, none⟩), .agg #[.int .i64 nd.kind, .int .i64 nd.num, .slice a nd.ne cap, .slice fa nd.nf fcap, .slice aa A.len ca, .slice ab B.len cb]] wi fun e w' => (∃ u, e = .returned u) ∧ Hid (StpP s d nd A B items w w')) := fun wi hb => (dchoose s ok d H nd A B items _ _ _ _ wi hk (h.of ok hb) (ht.below (hb.mono h.nw)) (hA.below (hb.mono h.nw)) (hB.below (hb.mono h.nw)) hs eA eB hil).mono fun e w' hp => ⟨hp.1, hp.2.out.pre (DFr.of hb)⟩
    have k1 : (nd.kind == 1) = false := by simp [hk]
    have k2 : (nd.kind == 2) = false := by simp [hk]
    have k3 : (nd.kind == 3) = false := by simp [hk]
    have k4 : (nd.kind == 4) = false := by simp [hk]
    have k5 : (nd.kind == 5) = false := by simp [hk]
    have k6 : (nd.kind == 6) = true := by simp [hk]
    clear h ht hf hA hB hs eA eB H hk
    go_enter Tryz.func205, Tryz.ntmps205
    go_wp2_with (first
      | (go_at_call 231; refine (HC.out _ (bal _ _)).mono ?_; rintro e w1 ⟨⟨u, rfl⟩, P1⟩))
    go_end0
    exact ⟨⟨_, rfl⟩, P1⟩
  · have HC : Hid (∀ wi, Below w.heap.size w wi → Calls Tryz.prog 232 #[.pointer (some ⟨s.c.X, 0, none⟩), .agg #[.int .i64 nd.kind, .int .i64 nd.num, .slice a nd.ne cap, .slice fa nd.nf fcap, .slice aa A.len ca, .slice ab B.len cb]] wi fun e w' => (∃ u, e = .returned u) ∧ Hid (StpP s d nd A B items w w')) := fun wi hb => (drepeat s ok d H nd A B items _ _ _ _ wi hk (h.of ok hb) (ht.below (hb.mono h.nw)) (hA.below (hb.mono h.nw)) (hB.below (hb.mono h.nw)) hs eA hil).mono fun e w' hp => ⟨hp.1, hp.2.out.pre (DFr.of hb)⟩
    have k1 : (nd.kind == 1) = false := by simp [hk]
    have k2 : (nd.kind == 2) = false := by simp [hk]
    have k3 : (nd.kind == 3) = false := by simp [hk]
    have k4 : (nd.kind == 4) = false := by simp [hk]
    have k5 : (nd.kind == 5) = false := by simp [hk]
    have k6 : (nd.kind == 6) = false := by simp [hk]
    have k7 : (nd.kind == 7) = true := by simp [hk]
    clear h ht hf hA hB hs eA eB H hk
    go_enter Tryz.func205, Tryz.ntmps205
    go_wp2_with (first
      | (go_at_call 232; refine (HC.out _ (bal _ _)).mono ?_; rintro e w1 ⟨⟨u, rfl⟩, P1⟩))
    go_end0
    exact ⟨⟨_, rfl⟩, P1⟩
theorem dstmt (s : SC) (ok : SOK s) (d : Nat) (H : BlkC s d) (nd : Nd) (A B : SL) (items : List (List Int × Value)) (ve vf va vb : Value) (w : World) (h : SW s true items w) (ht : ToksAt s.N w ve nd.ne nd.ek nd.ez) (hf : ToksAt s.N w vf nd.nf nd.fk nd.fz) (hA : StmtsAt s.N w d va A) (hB : StmtsAt s.N w d vb B) (hs : stErr s.nf s.par s.c.vars nd A.len B.len = 0) (eA : errs (stErr s.nf s.par s.c.vars) d A = 0) (eB : errs (stErr s.nf s.par s.c.vars) d B = 0) (hil : items.length + 2100 * (1 + size d A + size d B) + 3000 ≤ 100000) :
    Calls Tryz.prog 205 #[.pointer (some ⟨s.c.X, 0, none⟩), .agg #[.int .i64 nd.kind, .int .i64 nd.num, ve, vf, va, vb]] w fun e w' => (∃ u, e = .returned u) ∧ Hid (StpP s d nd A B items w w') := by
  have hk := (stOK hs).1
  rcases (show nd.kind = 1 ∨ nd.kind = 2 ∨ nd.kind = 3 ∨ nd.kind = 4 ∨ nd.kind = 5 ∨ nd.kind = 8 ∨ (nd.kind = 6 ∨ nd.kind = 7) by omega) with h1 | h1 | h1 | h1 | h1 | h1 | h1
  · exact dstmt1 s ok d nd A B true items ve vf va vb w h1 h ht hf hs (by omega)
  · exact dstmt2 s ok d nd A B true items ve vf va vb w h1 h ht hf hs (by omega)
  · exact dstmt3 s ok d nd A B true items ve vf va vb w h1 h ht hf hs (by omega)
  · exact dstmt4 s ok d nd A B true items ve vf va vb w h1 h ht hf hs (by omega)
  · exact dstmt5 s ok d nd A B true items ve vf va vb w h1 h ht hf hs (by omega)
  · exact dstmt8 s ok d nd A B true items ve vf va vb w h1 h ht hf hs (by omega)
  · exact dstmt67 s ok d H nd A B items ve vf va vb w h1 h ht hf hA hB hs eA eB hil
def StB (s : SC) (d : Nat) (T : SL) (j : Nat) (items : List (List Int × Value)) (w w' : World) : Prop :=
  ∃ its : List (List Int × Value), DFr s.c.X s.c.C w w' ∧ SW s true (items ++ its) w' ∧ BR s.par s.c.once s.c.vars (d + 1) T j items.length (its.map (·.1))
def StM (s : SC) (d : Nat) (T : SL) (j : Nat) (items : List (List Int × Value)) (w w' : World) : Prop :=
  ∃ (its : List (List Int × Value)) (c0 c1 : List (List Int)) (cl : Bool), DFr s.c.X s.c.C w w' ∧ SW s cl (items ++ its) w' ∧ its.map (·.1) = c0 ++ c1 ∧ BR s.par s.c.once s.c.vars (d + 1) T j items.length c0 ∧ StR s.par s.c.once s.c.vars d (T.nd j) (T.sub j false) (T.sub j true) (items.length + c0.length) cl c1
theorem size_at {d : Nat} {T : SL} {j : Nat} (hj : j < T.len) : uptoN d T j + (1 + size d (T.sub j false) + size d (T.sub j true)) ≤ size (d + 1) T := by
  have := sumTo_mono (f := fun i => 1 + size d (T.sub i false) + size d (T.sub i true)) (j := j + 1) (n := T.len) (by omega)
  exact this
theorem StB.stmt {s : SC} {d : Nat} (ok : SOK s) (H : BlkC s d) {T : SL} {j : Nat} (hj : j < T.len) {items : List (List Int × Value)} {w w' : World} (h : StB s d T j items w w') (he : errs (stErr s.nf s.par s.c.vars) (d + 1) T = 0) (hil : items.length + 2100 * size (d + 1) T + 3000 ≤ 100000) {ve vf va vb : Value} (ht : ToksAt s.N w' ve (T.nd j).ne (T.nd j).ek (T.nd j).ez) (hf : ToksAt s.N w' vf (T.nd j).nf (T.nd j).fk (T.nd j).fz) (hA : StmtsAt s.N w' d va (T.sub j false)) (hB : StmtsAt s.N w' d vb (T.sub j true)) :
    Calls Tryz.prog 205 #[.pointer (some ⟨s.c.X, 0, none⟩), .agg #[.int .i64 (T.nd j).kind, .int .i64 (T.nd j).num, ve, vf, va, vb]] w' fun e w2 => (∃ u, e = .returned u) ∧ Hid (StM s d T j items w w2) := by
  obtain ⟨its, h1, h2, h3⟩ := h
  obtain ⟨e1, e2, e3⟩ := errs_at he hj
  have hlen : its.length ≤ 2100 * uptoN d T j := by
    obtain ⟨m, hm, _, hc⟩ := h3.count (nf := s.nf) (by omega) he
    rw [hm d rfl, List.length_map] at hc
    have : perStmt s.c.once ≤ 2100 := by unfold perStmt; split <;> omega
    have := Nat.mul_le_mul_right (uptoN d T j) this
    omega
  have hsz := size_at (d := d) hj
  refine (dstmt s ok d H (T.nd j) (T.sub j false) (T.sub j true) (items ++ its) ve vf va vb w' h2 ht hf hA hB e1 e2 e3 (by rw [List.length_append]; omega)).mono fun e w2 hp => ?_
  obtain ⟨he2, its2, cl, f1, f2, f3⟩ := hp
  have em : its.length = (its.map (·.1)).length := (List.length_map _).symm
  rw [List.length_append, em] at f3
  exact ⟨he2, its ++ its2, _, _, cl, h1.trans f1, (by rw [← List.append_assoc]; exact f2), by rw [List.map_append], h3, f3⟩
theorem StM.clear {s : SC} {d : Nat} (ok : SOK s) {T : SL} {j : Nat} (hj : j < T.len) {items : List (List Int × Value)} {w w' : World} (h : StM s d T j items w w') (he : errs (stErr s.nf s.par s.c.vars) (d + 1) T = 0) (hil : items.length + 2100 * size (d + 1) T + 3000 ≤ 100000) :
    Calls Tryz.prog 206 #[.pointer (some ⟨s.c.X, 0, none⟩), .int .i64 s.c.vars] w' fun e w2 => (∃ u, e = .returned u) ∧ Hid (StB s d T (j + 1) items w w2) := by
  obtain ⟨its, c0, c1, cl, h1, h2, h3, h4, h5⟩ := h
  have hx := h2.dv.xlt
  have hlen : its.length ≤ 2100 * uptoN d T (j + 1) := by
    have hb := BR.step (L := []) h4 h5 (fun x hx => by cases hx) (by simp) (fun _ => rfl)
    obtain ⟨m, hm, _, hc⟩ := hb.count (nf := s.nf) (by omega) he
    rw [hm d rfl] at hc
    have e : its.length = (c0 ++ (c1 ++ clr [])).length := by
      have em : its.length = (its.map (·.1)).length := (List.length_map _).symm
      rw [em, h3]; simp [clr]
    have : perStmt s.c.once ≤ 2100 := by unfold perStmt; split <;> omega
    have := Nat.mul_le_mul_right (uptoN d T (j + 1)) this
    omega
  have hsz : uptoN d T (j + 1) ≤ size (d + 1) T := sumTo_mono (by omega)
  refine (dclear s.c s.c.vars cl (items ++ its) w' h2.dv (by omega) (by rw [List.length_append]; omega)).mono fun e w2 hp => ?_
  obtain ⟨he2, its2, L, f1, f2, f3, f4, f5, f6⟩ := hp
  have hl := congrArg List.length f3
  rw [List.length_map, clr_len] at hl
  refine ⟨he2, its ++ its2, h1.trans f1, ?_, ?_⟩
  · rw [← List.append_assoc]
    refine h2.next ok f1 ?_
    have e : (cl || decide (s.c.vars = s.c.vars)) = true := by simp
    rw [e] at f2
    exact f2
  · rw [List.map_append, h3, f3, List.append_assoc]
    refine BR.step h4 h5 f4 (by omega) fun hc => ?_
    have := f6 hc (Nat.le_refl _)
    rw [this] at f3
    cases L with
    | nil => rfl
    | cons x L => simp [clr] at f3
set_option maxRecDepth 20000 in
set_option maxHeartbeats 4000000 in
theorem dblock (s : SC) (ok : SOK s) : ∀ d, BlkC s d := by
  intro d
  induction d with
  | zero =>
    intro T v items w h _ _ hw
    obtain ⟨h0, a, cap, rfl⟩ := h
    have HF : Hid (BlkP s 0 T items w w) := ⟨[], DFr.refl _ _ _, (by rw [List.append_nil]; exact hw), (by rw [h0]; exact BR.nil 0 T _)⟩
    clear hw
    go_enter Tryz.func170, Tryz.ntmps170
    go_wp2_with fail
    go_loopw [8] (fun i wr => i = .int .i64 0 ∧ wr = w) (fun i _ => 0)
    case atStart => exact ⟨rfl, rfl⟩
    case round =>
      obtain ⟨rfl, rfl⟩ := hrel
      go_wp2_with fail
      go_end0
      exact ⟨⟨_, rfl⟩, HF⟩
  | succ d ih =>
    intro T v items w h he hil hw
    have hsh := h
    obtain ⟨a, cap, rfl, hn, h⟩ := h
    have hNw := hw.nw
    have HF0 : Hid (StB s d T 0 items w w) := ⟨[], DFr.refl _ _ _, (by rw [List.append_nil]; exact hw), BR.nil (d + 1) T _⟩
    have HLow : Hid (∀ w1, DFr s.c.X s.c.C w w1 → Below s.N w w1) := fun w1 hf => hw.low ok hf
    have HSt : Hid (∀ j (w1 : World) ve vf va vb, j < T.len → StB s d T j items w w1 → ToksAt s.N w1 ve (T.nd j).ne (T.nd j).ek (T.nd j).ez → ToksAt s.N w1 vf (T.nd j).nf (T.nd j).fk (T.nd j).fz → StmtsAt s.N w1 d va (T.sub j false) → StmtsAt s.N w1 d vb (T.sub j true) → Calls Tryz.prog 205 #[.pointer (some ⟨s.c.X, 0, none⟩), .agg #[.int .i64 (T.nd j).kind, .int .i64 (T.nd j).num, ve, vf, va, vb]] w1 fun e w2 => (∃ u, e = .returned u) ∧ Hid (StM s d T j items w w2)) := fun j w1 ve vf va vb hj h1 h2 h3 h4 h5 => h1.stmt ok ih hj he hil h2 h3 h4 h5
    have HCl : Hid (∀ j (w1 : World), j < T.len → StM s d T j items w w1 → w1.cell? ⟨s.c.X, 1, none⟩ = some (.int .i64 s.c.vars) ∧ Calls Tryz.prog 206 #[.pointer (some ⟨s.c.X, 0, none⟩), .int .i64 s.c.vars] w1 fun e w2 => (∃ u, e = .returned u) ∧ Hid (StB s d T (j + 1) items w w2)) := fun j w1 hj h1 => ⟨(by obtain ⟨_, _, _, _, _, h2, _⟩ := h1; exact h2.vars), h1.clear ok hj he hil⟩
    have HAl : Hid (∀ j (w1 : World) (o : Obj), StB s d T j items w w1 → StB s d T j items w (w1.alloc o)) := fun j w1 o h1 => (by obtain ⟨its, f1, f2, f3⟩ := h1; exact ⟨its, f1.trans (DFr.of (bal w1 o)), f2.of ok (bal w1 o), f3⟩)
    have HE : Hid (∀ w1, StB s d T T.len items w w1 → BlkP s (d + 1) T items w w1) := fun w1 h1 => h1
    clear hw ih he
    go_enter Tryz.func170, Tryz.ntmps170
    go_wp2_with fail
    go_loopw [8] (fun i wr => ∃ j : Nat, j ≤ T.len ∧ i = .int .i64 j ∧ Hid (StB s d T j items w wr)) (fun i _ => T.len - (intOf i).toNat)
    case atStart => exact ⟨0, Nat.zero_le _, rfl, HF0⟩
    case round =>
      obtain ⟨j, hj, rfl, HB⟩ := hrel
      by_cases hlt : j < T.len
      · rcases h with h | ⟨b, o, rfl, hp, g⟩
        · omega
        obtain ⟨ve, vf, va, vb, q0, q1, q2, q3, q4, q5, t1, t2, s1, s2⟩ := g j hlt
        have hbN : Below s.N w wr := HLow.out wr (by obtain ⟨_, h1, _⟩ := HB.out; exact h1)
        rw [← hbN.cell hp] at q0 q1 q2 q3 q4 q5
        have t1 := t1.below hbN
        have t2 := t2.below hbN
        have s1 := s1.below hbN
        have s2 := s2.below hbN
        clear g
        obtain ⟨ae, ce, rfl, _⟩ := t1.shape
        obtain ⟨af, cf, rfl, _⟩ := t2.shape
        obtain ⟨aa, ca, rfl, _⟩ := s1.shape
        obtain ⟨ab, cb, rfl, _⟩ := s2.shape
        have hz := hbN.size
        have hNr : s.N ≤ wr.heap.size := by omega
        have HC := HSt.out j _ _ _ _ _ hlt (HAl.out j wr (.cells #[.int .i64 (T.nd j).kind, .int .i64 (T.nd j).num, .slice ae (T.nd j).ne ce, .slice af (T.nd j).nf cf, .slice aa (T.sub j false).len ca, .slice ab (T.sub j true).len cb] 82) HB.out) (t1.below ((bal _ _).mono hNr)) (t2.below ((bal _ _).mono hNr)) (s1.below ((bal _ _).mono hNr)) (s2.below ((bal _ _).mono hNr))
        have HC : Hid (Calls Tryz.prog 205 #[.pointer (some ⟨s.c.X, 0, none⟩), .agg #[.int .i64 (T.nd j).kind, .int .i64 (T.nd j).num, .slice ae (T.nd j).ne ce, .slice af (T.nd j).nf cf, .slice aa (T.sub j false).len ca, .slice ab (T.sub j true).len cb]] (wr.alloc (.cells #[.int .i64 (T.nd j).kind, .int .i64 (T.nd j).num, .slice ae (T.nd j).ne ce, .slice af (T.nd j).nf cf, .slice aa (T.sub j false).len ca, .slice ab (T.sub j true).len cb] 82)) fun e w2 => (∃ u, e = .returned u) ∧ Hid (StM s d T j items w w2)) := HC
        have hlt' : (j : Int) < (T.len : Int) := by omega
        have hwj : IntKind.i64.wrap ((j : Int) + 1) = (j : Int) + 1 := Go.IntWalk.i64_in _ (by omega)
        go_wp2_with (first
          | (go_at_call 205; refine HC.out.mono ?_; rintro e w1 ⟨⟨u1, rfl⟩, M1⟩; obtain ⟨kv, K1⟩ := HCl.out j w1 hlt M1.out; have K1 : Hid (Calls Tryz.prog 206 #[.pointer (some ⟨s.c.X, 0, none⟩), .int .i64 s.c.vars] w1 fun e w2 => (∃ u, e = .returned u) ∧ Hid (StB s d T (j + 1) items w w2)) := K1)
          | (go_at_call 206; refine K1.out.mono ?_; rintro e w2 ⟨⟨u2, rfl⟩, B2⟩))
        go_round
        case rel => exact ⟨j + 1, by omega, rfl, B2⟩
        case measure => simp [intOf]; omega
      · have ej : j = T.len := by omega
        subst ej
        go_wp2_with fail
        go_end0
        exact ⟨⟨_, rfl⟩, HE.out _ HB.out⟩
end Go.Proofs.YtbmenihakkogkabGreatDoor
