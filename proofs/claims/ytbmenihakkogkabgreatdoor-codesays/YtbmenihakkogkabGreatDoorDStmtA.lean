import Derived.Test.YtbmenihakkogkabGreatDoorPart26
import Derived.Deep.RegionHeld3
namespace Go.Proofs.YtbmenihakkogkabGreatDoor
open Go.RowKit Go.Maps
set_option maxRecDepth 20000 in
set_option maxHeartbeats 4000000 in
theorem dstmt3 (s : SC) (ok : SOK s) (d : Nat) : StC s d 3 := by
  intro nd A B cl items ve vf va vb w hk h ht hf hs hil
  obtain ⟨hnk, hnum, hput, hex, _⟩ := stOK hs
  have hv := h.dv.xlt.2.2.1
  obtain ⟨a, cap, rfl, hr⟩ := ht
  obtain ⟨fa, fcap, rfl, hfr⟩ := hf
  have HK : Hid (nd.kind = 3) := hk
  have HPre : Hid (DFr s.c.X s.c.C w (w.alloc (.cells #[.int .i64 nd.kind, .int .i64 nd.num, .slice a nd.ne cap, .slice fa nd.nf fcap, va, vb] 82))) := DFr.of (bal w _)
  have hW : SW s cl items (w.alloc (.cells #[.int .i64 nd.kind, .int .i64 nd.num, .slice a nd.ne cap, .slice fa nd.nf fcap, va, vb] 82)) := h.of ok (bal w _)
  have hT : ToksAt s.N (w.alloc (.cells #[.int .i64 nd.kind, .int .i64 nd.num, .slice a nd.ne cap, .slice fa nd.nf fcap, va, vb] 82)) (.slice a nd.ne cap) nd.ne nd.ek nd.ez := ToksAt.below ⟨a, cap, rfl, hr⟩ ((bal w _).mono h.nw)
  have hT2 : ToksAt s.N (w.alloc (.cells #[.int .i64 nd.kind, .int .i64 nd.num, .slice a nd.ne cap, .slice fa nd.nf fcap, va, vb] 82)) (.slice fa nd.nf fcap) nd.nf nd.fk nd.fz := ToksAt.below ⟨fa, fcap, rfl, hfr⟩ ((bal w _).mono h.nw)
  have hBx : (w.alloc (.cells #[.int .i64 nd.kind, .int .i64 nd.num, .slice a nd.ne cap, .slice fa nd.nf fcap, va, vb] 82)).heap[w.heap.size]? = some (.cells #[.int .i64 nd.kind, .int .i64 nd.num, .slice a nd.ne cap, .slice fa nd.nf fcap, va, vb] 82 (0, 0)) := heap_alloc_new w _
  clear h hr hfr
  generalize hw0 : w.alloc (.cells #[.int .i64 nd.kind, .int .i64 nd.num, .slice a nd.ne cap, .slice fa nd.nf fcap, va, vb] 82) = W at *
  generalize hQ : w.heap.size = Q at *
  have HW0 : Hid (w.alloc (.cells #[.int .i64 nd.kind, .int .i64 nd.num, .slice a nd.ne cap, .slice fa nd.nf fcap, va, vb] 82) = W) := hw0
  have HQ : Hid (w.heap.size = Q) := hQ
  clear hw0 hQ
  have HB : Hid (∀ w1, DFr s.c.X s.c.C W w1 → w1.cell? ⟨Q, 0, none⟩ = some (.int .i64 nd.kind) ∧ w1.cell? ⟨Q, 1, none⟩ = some (.int .i64 nd.num) ∧ w1.cell? ⟨Q, 2, none⟩ = some (.slice a nd.ne cap) ∧ w1.cell? ⟨Q, 3, none⟩ = some (.slice fa nd.nf fcap)) := fun w1 hf => by
    have := hW.box hBx (by decide) (by decide) hf
    exact ⟨by unfold World.cell?; rw [this]; rfl, by unfold World.cell?; rw [this]; rfl, by unfold World.cell?; rw [this]; rfl, by unfold World.cell?; rw [this]; rfl⟩
  have HSb : Hid (∀ w1, Below W.heap.size W w1 → w1.cell? ⟨Q, 2, none⟩ = some (.slice a nd.ne cap) ∧ w1.cell? ⟨s.c.X, 1, none⟩ = some (.int .i64 s.c.vars)) := fun w1 hb => ⟨(HB.out w1 (DFr.of hb)).2.2.1, (hW.of ok hb).vars⟩
  have hex := hex (by omega)
  have HR : Hid (Calls Tryz.prog 230 #[.slice a nd.ne cap] W.drew fun e w' => ∃ B E, e = .returned (.func (.func 242) #[] #[.pointer (some ⟨B, 0, none⟩), .pointer (some ⟨E, 0, none⟩)]) ∧ Hid (Below W.heap.size W w') ∧ Hid (RdAt s.N B E (.slice a nd.ne cap) nd.ne nd.ek nd.ez 0 w') ∧ Hid (W.heap.size ≤ B)) := readerD hT hW.nw
  have HV : Hid (∀ w1 B E, Below W.heap.size W w1 → RdAt s.N B E (.slice a nd.ne cap) nd.ne nd.ek nd.ez 0 w1 → W.heap.size ≤ B → Calls Tryz.prog 229 #[.pointer (some ⟨s.c.X, 0, none⟩), .func (.func 242) #[] #[.pointer (some ⟨B, 0, none⟩), .pointer (some ⟨E, 0, none⟩)], .int .i64 s.c.vars] w1 fun e w' => ∃ r : Nat, e = .returned (.int .i64 r) ∧ Hid (ExP s nd.ne nd.ek nd.ez s.c.vars items W w' r)) := fun w1 B E h1 h2 h3 => exval ok hW hex (by omega) ⟨Nat.le_refl _, by omega⟩ h1 h2 h3
  have HSe : Hid (∀ w1 r, ExP s nd.ne nd.ek nd.ez s.c.vars items W w1 r → w1.cell? ⟨Q, 2, none⟩ = some (.slice a nd.ne cap) ∧ w1.cell? ⟨s.c.X, 1, none⟩ = some (.int .i64 s.c.vars)) := fun w1 r hp => by
    obtain ⟨_, h1, h2, _⟩ := hp
    exact ⟨(HB.out w1 h1).2.2.1, h2.vars⟩
  have HA : Hid (∀ w1 r, ExP s nd.ne nd.ek nd.ez s.c.vars items W w1 r → Calls Tryz.prog 171 #[.pointer (some ⟨s.c.X, 0, none⟩), .agg #[.int .i64 9, .int .i64 (r : Nat), .int .i64 0, .int .i64 0, .slice none 0 0]] w1 fun e w' => (∃ u, e = .returned u) ∧ Hid (StpP s d nd A B items w w') ∧ Hid (w'.cell? ⟨Q, 2, none⟩ = some (.slice a nd.ne cap) ∧ w'.cell? ⟨s.c.X, 1, none⟩ = some (.int .i64 s.c.vars))) := fun w1 r hp => by
    obtain ⟨its, h1, h2, h3, h4, h5, h6⟩ := hp
    refine (h2.add ok 9 0 0 r h6 (by rw [List.length_append]; omega) (by decide)).mono fun e w' hq => ?_
    obtain ⟨he, f1, f2⟩ := hq
    have hfr := h1.trans f1.out
    refine ⟨he, ⟨its ++ [([9, (r : Int), 0, 0], .slice none 0 0)], false, HPre.out.trans hfr, (by rw [← List.append_assoc]; exact f2.out), Or.inl ⟨rfl, Or.inr (Or.inr (Or.inr (Or.inr ⟨r, _, 9, ?_, h3, by rw [List.map_append]; rfl⟩)))⟩⟩, (HB.out w' hfr).2.2.1, f2.out.vars⟩
    have := HK.out
    omega
  have kz := HB.out W (DFr.refl _ _ _)
  obtain ⟨z0, z1, z2, z3⟩ := kz
  have kv0 := hW.vars
  rw [hk] at z0
  clear hW hT hT2 hBx hk hs hex ok hnum hput hnk
  go_enter Tryz.func205, Tryz.ntmps205
  go_upto_region 1 with (fail)
  rw [HW0.out]
  simp only [HQ.out]
  go_upto_region 9 with (fail)
  go_region_held3 (fun w' => w'.cell? ⟨Q, 2, none⟩ = some (.slice a nd.ne cap) ∧ w'.cell? ⟨s.c.X, 1, none⟩ = some (.int .i64 s.c.vars)) (first | (exact k1) | (exact k2) | (exact k3) | go_keep) (first
    | (go_at_call 230; refine HR.out.mono ?_; rintro e w1 ⟨B', E, rfl, B1, R1, S1⟩; have k1 := HSb.out w1 B1.out)
    | (go_at_call 229; refine (HV.out w1 B' E B1.out R1.out S1.out).mono ?_; rintro e w2 ⟨r, rfl, P2⟩; have k2 := HSe.out w2 r P2.out)
    | (go_at_call 171; refine (HA.out w2 r P2.out).mono ?_; rintro e w3 ⟨⟨u3, rfl⟩, P3, K3⟩; have k3 := K3.out))
  all_goals (try simp only [Exit.inBlock])
  all_goals go_end0
  all_goals exact ⟨⟨_, rfl⟩, P3⟩
set_option maxRecDepth 20000 in
set_option maxHeartbeats 4000000 in
theorem dstmt5 (s : SC) (ok : SOK s) (d : Nat) : StC s d 5 := by
  intro nd A B cl items ve vf va vb w hk h ht hf hs hil
  obtain ⟨hnk, hnum, hput, hex, _⟩ := stOK hs
  have hv := h.dv.xlt.2.2.1
  obtain ⟨a, cap, rfl, hr⟩ := ht
  obtain ⟨fa, fcap, rfl, hfr⟩ := hf
  have HK : Hid (nd.kind = 5) := hk
  have HPre : Hid (DFr s.c.X s.c.C w (w.alloc (.cells #[.int .i64 nd.kind, .int .i64 nd.num, .slice a nd.ne cap, .slice fa nd.nf fcap, va, vb] 82))) := DFr.of (bal w _)
  have hW : SW s cl items (w.alloc (.cells #[.int .i64 nd.kind, .int .i64 nd.num, .slice a nd.ne cap, .slice fa nd.nf fcap, va, vb] 82)) := h.of ok (bal w _)
  have hT : ToksAt s.N (w.alloc (.cells #[.int .i64 nd.kind, .int .i64 nd.num, .slice a nd.ne cap, .slice fa nd.nf fcap, va, vb] 82)) (.slice a nd.ne cap) nd.ne nd.ek nd.ez := ToksAt.below ⟨a, cap, rfl, hr⟩ ((bal w _).mono h.nw)
  have hT2 : ToksAt s.N (w.alloc (.cells #[.int .i64 nd.kind, .int .i64 nd.num, .slice a nd.ne cap, .slice fa nd.nf fcap, va, vb] 82)) (.slice fa nd.nf fcap) nd.nf nd.fk nd.fz := ToksAt.below ⟨fa, fcap, rfl, hfr⟩ ((bal w _).mono h.nw)
  have hBx : (w.alloc (.cells #[.int .i64 nd.kind, .int .i64 nd.num, .slice a nd.ne cap, .slice fa nd.nf fcap, va, vb] 82)).heap[w.heap.size]? = some (.cells #[.int .i64 nd.kind, .int .i64 nd.num, .slice a nd.ne cap, .slice fa nd.nf fcap, va, vb] 82 (0, 0)) := heap_alloc_new w _
  clear h hr hfr
  generalize hw0 : w.alloc (.cells #[.int .i64 nd.kind, .int .i64 nd.num, .slice a nd.ne cap, .slice fa nd.nf fcap, va, vb] 82) = W at *
  generalize hQ : w.heap.size = Q at *
  have HW0 : Hid (w.alloc (.cells #[.int .i64 nd.kind, .int .i64 nd.num, .slice a nd.ne cap, .slice fa nd.nf fcap, va, vb] 82) = W) := hw0
  have HQ : Hid (w.heap.size = Q) := hQ
  clear hw0 hQ
  have HB : Hid (∀ w1, DFr s.c.X s.c.C W w1 → w1.cell? ⟨Q, 0, none⟩ = some (.int .i64 nd.kind) ∧ w1.cell? ⟨Q, 1, none⟩ = some (.int .i64 nd.num) ∧ w1.cell? ⟨Q, 2, none⟩ = some (.slice a nd.ne cap) ∧ w1.cell? ⟨Q, 3, none⟩ = some (.slice fa nd.nf fcap)) := fun w1 hf => by
    have := hW.box hBx (by decide) (by decide) hf
    exact ⟨by unfold World.cell?; rw [this]; rfl, by unfold World.cell?; rw [this]; rfl, by unfold World.cell?; rw [this]; rfl, by unfold World.cell?; rw [this]; rfl⟩
  have HSb : Hid (∀ w1, Below W.heap.size W w1 → w1.cell? ⟨Q, 2, none⟩ = some (.slice a nd.ne cap) ∧ w1.cell? ⟨s.c.X, 1, none⟩ = some (.int .i64 s.c.vars)) := fun w1 hb => ⟨(HB.out w1 (DFr.of hb)).2.2.1, (hW.of ok hb).vars⟩
  have hex := hex (by omega)
  have HR : Hid (Calls Tryz.prog 230 #[.slice a nd.ne cap] W.drew fun e w' => ∃ B E, e = .returned (.func (.func 242) #[] #[.pointer (some ⟨B, 0, none⟩), .pointer (some ⟨E, 0, none⟩)]) ∧ Hid (Below W.heap.size W w') ∧ Hid (RdAt s.N B E (.slice a nd.ne cap) nd.ne nd.ek nd.ez 0 w') ∧ Hid (W.heap.size ≤ B)) := readerD hT hW.nw
  have HV : Hid (∀ w1 B E, Below W.heap.size W w1 → RdAt s.N B E (.slice a nd.ne cap) nd.ne nd.ek nd.ez 0 w1 → W.heap.size ≤ B → Calls Tryz.prog 229 #[.pointer (some ⟨s.c.X, 0, none⟩), .func (.func 242) #[] #[.pointer (some ⟨B, 0, none⟩), .pointer (some ⟨E, 0, none⟩)], .int .i64 s.c.vars] w1 fun e w' => ∃ r : Nat, e = .returned (.int .i64 r) ∧ Hid (ExP s nd.ne nd.ek nd.ez s.c.vars items W w' r)) := fun w1 B E h1 h2 h3 => exval ok hW hex (by omega) ⟨Nat.le_refl _, by omega⟩ h1 h2 h3
  have HSe : Hid (∀ w1 r, ExP s nd.ne nd.ek nd.ez s.c.vars items W w1 r → w1.cell? ⟨Q, 2, none⟩ = some (.slice a nd.ne cap) ∧ w1.cell? ⟨s.c.X, 1, none⟩ = some (.int .i64 s.c.vars)) := fun w1 r hp => by
    obtain ⟨_, h1, h2, _⟩ := hp
    exact ⟨(HB.out w1 h1).2.2.1, h2.vars⟩
  have HA : Hid (∀ w1 r, ExP s nd.ne nd.ek nd.ez s.c.vars items W w1 r → Calls Tryz.prog 171 #[.pointer (some ⟨s.c.X, 0, none⟩), .agg #[.int .i64 11, .int .i64 (r : Nat), .int .i64 0, .int .i64 0, .slice none 0 0]] w1 fun e w' => (∃ u, e = .returned u) ∧ Hid (StpP s d nd A B items w w') ∧ Hid (w'.cell? ⟨Q, 2, none⟩ = some (.slice a nd.ne cap) ∧ w'.cell? ⟨s.c.X, 1, none⟩ = some (.int .i64 s.c.vars))) := fun w1 r hp => by
    obtain ⟨its, h1, h2, h3, h4, h5, h6⟩ := hp
    refine (h2.add ok 11 0 0 r h6 (by rw [List.length_append]; omega) (by decide)).mono fun e w' hq => ?_
    obtain ⟨he, f1, f2⟩ := hq
    have hfr := h1.trans f1.out
    refine ⟨he, ⟨its ++ [([11, (r : Int), 0, 0], .slice none 0 0)], false, HPre.out.trans hfr, (by rw [← List.append_assoc]; exact f2.out), Or.inl ⟨rfl, Or.inr (Or.inr (Or.inr (Or.inr ⟨r, _, 11, ?_, h3, by rw [List.map_append]; rfl⟩)))⟩⟩, (HB.out w' hfr).2.2.1, f2.out.vars⟩
    have := HK.out
    omega
  have kz := HB.out W (DFr.refl _ _ _)
  obtain ⟨z0, z1, z2, z3⟩ := kz
  have kv0 := hW.vars
  rw [hk] at z0
  clear hW hT hT2 hBx hk hs hex ok hnum hput hnk
  go_enter Tryz.func205, Tryz.ntmps205
  go_upto_region 1 with (fail)
  rw [HW0.out]
  simp only [HQ.out]
  go_upto_region 13 with (fail)
  go_region_held3 (fun w' => w'.cell? ⟨Q, 2, none⟩ = some (.slice a nd.ne cap) ∧ w'.cell? ⟨s.c.X, 1, none⟩ = some (.int .i64 s.c.vars)) (first | (exact k1) | (exact k2) | (exact k3) | go_keep) (first
    | (go_at_call 230; refine HR.out.mono ?_; rintro e w1 ⟨B', E, rfl, B1, R1, S1⟩; have k1 := HSb.out w1 B1.out)
    | (go_at_call 229; refine (HV.out w1 B' E B1.out R1.out S1.out).mono ?_; rintro e w2 ⟨r, rfl, P2⟩; have k2 := HSe.out w2 r P2.out)
    | (go_at_call 171; refine (HA.out w2 r P2.out).mono ?_; rintro e w3 ⟨⟨u3, rfl⟩, P3, K3⟩; have k3 := K3.out))
  all_goals (try simp only [Exit.inBlock])
  all_goals go_end0
  all_goals exact ⟨⟨_, rfl⟩, P3⟩
set_option maxRecDepth 20000 in
set_option maxHeartbeats 4000000 in
theorem dstmt8 (s : SC) (ok : SOK s) (d : Nat) : StC s d 8 := by
  intro nd A B cl items ve vf va vb w hk h ht hf hs hil
  obtain ⟨hnk, hnum, hput, hex, _⟩ := stOK hs
  have hv := h.dv.xlt.2.2.1
  obtain ⟨a, cap, rfl, hr⟩ := ht
  obtain ⟨fa, fcap, rfl, hfr⟩ := hf
  have HK : Hid (nd.kind = 8) := hk
  have HPre : Hid (DFr s.c.X s.c.C w (w.alloc (.cells #[.int .i64 nd.kind, .int .i64 nd.num, .slice a nd.ne cap, .slice fa nd.nf fcap, va, vb] 82))) := DFr.of (bal w _)
  have hW : SW s cl items (w.alloc (.cells #[.int .i64 nd.kind, .int .i64 nd.num, .slice a nd.ne cap, .slice fa nd.nf fcap, va, vb] 82)) := h.of ok (bal w _)
  have hT : ToksAt s.N (w.alloc (.cells #[.int .i64 nd.kind, .int .i64 nd.num, .slice a nd.ne cap, .slice fa nd.nf fcap, va, vb] 82)) (.slice a nd.ne cap) nd.ne nd.ek nd.ez := ToksAt.below ⟨a, cap, rfl, hr⟩ ((bal w _).mono h.nw)
  have hT2 : ToksAt s.N (w.alloc (.cells #[.int .i64 nd.kind, .int .i64 nd.num, .slice a nd.ne cap, .slice fa nd.nf fcap, va, vb] 82)) (.slice fa nd.nf fcap) nd.nf nd.fk nd.fz := ToksAt.below ⟨fa, fcap, rfl, hfr⟩ ((bal w _).mono h.nw)
  have hBx : (w.alloc (.cells #[.int .i64 nd.kind, .int .i64 nd.num, .slice a nd.ne cap, .slice fa nd.nf fcap, va, vb] 82)).heap[w.heap.size]? = some (.cells #[.int .i64 nd.kind, .int .i64 nd.num, .slice a nd.ne cap, .slice fa nd.nf fcap, va, vb] 82 (0, 0)) := heap_alloc_new w _
  clear h hr hfr
  generalize hw0 : w.alloc (.cells #[.int .i64 nd.kind, .int .i64 nd.num, .slice a nd.ne cap, .slice fa nd.nf fcap, va, vb] 82) = W at *
  generalize hQ : w.heap.size = Q at *
  have HW0 : Hid (w.alloc (.cells #[.int .i64 nd.kind, .int .i64 nd.num, .slice a nd.ne cap, .slice fa nd.nf fcap, va, vb] 82) = W) := hw0
  have HQ : Hid (w.heap.size = Q) := hQ
  clear hw0 hQ
  have HB : Hid (∀ w1, DFr s.c.X s.c.C W w1 → w1.cell? ⟨Q, 0, none⟩ = some (.int .i64 nd.kind) ∧ w1.cell? ⟨Q, 1, none⟩ = some (.int .i64 nd.num) ∧ w1.cell? ⟨Q, 2, none⟩ = some (.slice a nd.ne cap) ∧ w1.cell? ⟨Q, 3, none⟩ = some (.slice fa nd.nf fcap)) := fun w1 hf => by
    have := hW.box hBx (by decide) (by decide) hf
    exact ⟨by unfold World.cell?; rw [this]; rfl, by unfold World.cell?; rw [this]; rfl, by unfold World.cell?; rw [this]; rfl, by unfold World.cell?; rw [this]; rfl⟩
  have HSb : Hid (∀ w1, Below W.heap.size W w1 → w1.cell? ⟨Q, 2, none⟩ = some (.slice a nd.ne cap) ∧ w1.cell? ⟨s.c.X, 1, none⟩ = some (.int .i64 s.c.vars)) := fun w1 hb => ⟨(HB.out w1 (DFr.of hb)).2.2.1, (hW.of ok hb).vars⟩
  have hex := hex (by omega)
  have HR : Hid (Calls Tryz.prog 230 #[.slice a nd.ne cap] W.drew fun e w' => ∃ B E, e = .returned (.func (.func 242) #[] #[.pointer (some ⟨B, 0, none⟩), .pointer (some ⟨E, 0, none⟩)]) ∧ Hid (Below W.heap.size W w') ∧ Hid (RdAt s.N B E (.slice a nd.ne cap) nd.ne nd.ek nd.ez 0 w') ∧ Hid (W.heap.size ≤ B)) := readerD hT hW.nw
  have HV : Hid (∀ w1 B E, Below W.heap.size W w1 → RdAt s.N B E (.slice a nd.ne cap) nd.ne nd.ek nd.ez 0 w1 → W.heap.size ≤ B → Calls Tryz.prog 229 #[.pointer (some ⟨s.c.X, 0, none⟩), .func (.func 242) #[] #[.pointer (some ⟨B, 0, none⟩), .pointer (some ⟨E, 0, none⟩)], .int .i64 s.c.vars] w1 fun e w' => ∃ r : Nat, e = .returned (.int .i64 r) ∧ Hid (ExP s nd.ne nd.ek nd.ez s.c.vars items W w' r)) := fun w1 B E h1 h2 h3 => exval ok hW hex (by omega) ⟨Nat.le_refl _, by omega⟩ h1 h2 h3
  have HSe : Hid (∀ w1 r, ExP s nd.ne nd.ek nd.ez s.c.vars items W w1 r → w1.cell? ⟨Q, 2, none⟩ = some (.slice a nd.ne cap) ∧ w1.cell? ⟨s.c.X, 1, none⟩ = some (.int .i64 s.c.vars)) := fun w1 r hp => by
    obtain ⟨_, h1, h2, _⟩ := hp
    exact ⟨(HB.out w1 h1).2.2.1, h2.vars⟩
  have HA : Hid (∀ w1 r, ExP s nd.ne nd.ek nd.ez s.c.vars items W w1 r → Calls Tryz.prog 171 #[.pointer (some ⟨s.c.X, 0, none⟩), .agg #[.int .i64 8, .int .i64 (r : Nat), .int .i64 0, .int .i64 0, .slice none 0 0]] w1 fun e w' => (∃ u, e = .returned u) ∧ Hid (StpP s d nd A B items w w') ∧ Hid (w'.cell? ⟨Q, 2, none⟩ = some (.slice a nd.ne cap) ∧ w'.cell? ⟨s.c.X, 1, none⟩ = some (.int .i64 s.c.vars))) := fun w1 r hp => by
    obtain ⟨its, h1, h2, h3, h4, h5, h6⟩ := hp
    refine (h2.add ok 8 0 0 r h6 (by rw [List.length_append]; omega) (by decide)).mono fun e w' hq => ?_
    obtain ⟨he, f1, f2⟩ := hq
    have hfr := h1.trans f1.out
    refine ⟨he, ⟨its ++ [([8, (r : Int), 0, 0], .slice none 0 0)], false, HPre.out.trans hfr, (by rw [← List.append_assoc]; exact f2.out), Or.inl ⟨rfl, Or.inr (Or.inr (Or.inr (Or.inr ⟨r, _, 8, ?_, h3, by rw [List.map_append]; rfl⟩)))⟩⟩, (HB.out w' hfr).2.2.1, f2.out.vars⟩
    have := HK.out
    omega
  have kz := HB.out W (DFr.refl _ _ _)
  obtain ⟨z0, z1, z2, z3⟩ := kz
  have kv0 := hW.vars
  rw [hk] at z0
  clear hW hT hT2 hBx hk hs hex ok hnum hput hnk
  go_enter Tryz.func205, Tryz.ntmps205
  go_upto_region 1 with (fail)
  rw [HW0.out]
  simp only [HQ.out]
  go_upto_region 19 with (fail)
  go_region_held3 (fun w' => w'.cell? ⟨Q, 2, none⟩ = some (.slice a nd.ne cap) ∧ w'.cell? ⟨s.c.X, 1, none⟩ = some (.int .i64 s.c.vars)) (first | (exact k1) | (exact k2) | (exact k3) | go_keep) (first
    | (go_at_call 230; refine HR.out.mono ?_; rintro e w1 ⟨B', E, rfl, B1, R1, S1⟩; have k1 := HSb.out w1 B1.out)
    | (go_at_call 229; refine (HV.out w1 B' E B1.out R1.out S1.out).mono ?_; rintro e w2 ⟨r, rfl, P2⟩; have k2 := HSe.out w2 r P2.out)
    | (go_at_call 171; refine (HA.out w2 r P2.out).mono ?_; rintro e w3 ⟨⟨u3, rfl⟩, P3, K3⟩; have k3 := K3.out))
  all_goals (try simp only [Exit.inBlock])
  all_goals go_end0
  all_goals exact ⟨⟨_, rfl⟩, P3⟩
end Go.Proofs.YtbmenihakkogkabGreatDoor
