import Derived.Test.YtbmenihakkogkabGreatDoorPart25
import Derived.Deep.RegionHeld3
namespace Go.Proofs.YtbmenihakkogkabGreatDoor
open Go.RowKit Go.Maps
def StpP (s : SC) (d : Nat) (nd : Nd) (A B : SL) (items : List (List Int × Value)) (w w' : World) : Prop :=
  ∃ (its : List (List Int × Value)) (cl : Bool), DFr s.c.X s.c.C w w' ∧ SW s cl (items ++ its) w' ∧ StR s.par s.c.once s.c.vars d nd A B items.length cl (its.map (·.1))
theorem StpP.pre {s : SC} {d : Nat} {nd : Nd} {A B : SL} {items : List (List Int × Value)} {w w0 w' : World} (h : StpP s d nd A B items w0 w') (h0 : DFr s.c.X s.c.C w w0) : StpP s d nd A B items w w' := by
  obtain ⟨its, cl, h1, h2⟩ := h
  exact ⟨its, cl, h0.trans h1, h2⟩
theorem SW.box {s : SC} {cl : Bool} {items : List (List Int × Value)} {w w1 : World} (h : SW s cl items w) {q : Nat} {cs : Array Value} {t : TypeId} (hq : w.heap[q]? = some (.cells cs t (0, 0))) (h1 : ¬ t = 106) (h2 : ¬ t = 174) (hf : DFr s.c.X s.c.C w w1) : w1.heap[q]? = some (.cells cs t (0, 0)) := by
  refine hf.block _ _ hq ?_ (Or.inr fun c e => ?_)
  · rintro rfl
    obtain ⟨cur, h0, _⟩ := h.dv.xt
    rw [hq] at h0
    injection h0 with e; injection e with _ e _; exact absurd e h2
  · injection e with _ e _; exact absurd e h1
theorem VW.box {v : VC} {a : Nat} {items : List (List Int × Value)} {w w1 : World} (h : VW v a items w) {T : Nat} {cs : Array Value} {t : TypeId} (hT : w.heap[T]? = some (.cells cs t (0, 0))) (h1 : ¬ t = 106) (h2 : ¬ t = 174) (h3 : ¬ t = 3) (hf : DFb v.c.X v.B v.c.C w w1) : w1.heap[T]? = some (.cells cs t (0, 0)) := by
  refine hf.block _ _ hT ?_ ?_ (Or.inr fun c e => ?_)
  · rintro rfl
    obtain ⟨cur, h0, _⟩ := h.dv.xt
    rw [hT] at h0
    injection h0 with e; injection e with _ e _; exact absurd e h2
  · rintro rfl
    have h0 := h.rd.box
    rw [hT] at h0
    injection h0 with e; injection e with _ e _; exact absurd e h3
  · injection e with _ e _; exact absurd e h1
theorem SW.of {s : SC} {cl : Bool} {items : List (List Int × Value)} {w w1 : World} (h : SW s cl items w) (ok : SOK s) (hb : Below w.heap.size w w1) : SW s cl items w1 := h.next ok (DFr.of hb) (h.dv.of hb)
theorem SW.add {s : SC} (ok : SOK s) {cl : Bool} {items : List (List Int × Value)} {w : World} (h : SW s cl items w) (op b c : Int) (A : Nat) (hA : A < s.c.vars + 17) (hil : items.length ≤ 100000) (h3 : ¬ op = 3) :
    Calls Tryz.prog 171 #[.pointer (some ⟨s.c.X, 0, none⟩), .agg #[.int .i64 op, .int .i64 A, .int .i64 b, .int .i64 c, .slice none 0 0]] w fun e w' => (∃ u, e = .returned u) ∧ Hid (DFr s.c.X s.c.C w w') ∧ Hid (SW s false (items ++ [([op, (A : Int), b, c], .slice none 0 0)]) w') := by
  refine (dadd s.c cl items [op, (A : Int), b, c] op b c A none 0 0 w h.dv ⟨rfl, rfl, rfl, rfl⟩ ⟨none, 0, rfl, by simp, Or.inl rfl⟩ hil hA (fun h => absurd h h3)).mono fun e w' hp => ?_
  obtain ⟨he, f1, f2⟩ := hp
  exact ⟨he, f1, h.next ok f1.out f2.out.weak⟩
set_option maxRecDepth 20000 in
set_option maxHeartbeats 4000000 in
theorem dset (s : SC) (ok : SOK s) (d : Nat) (nd : Nd) (A B : SL) (cl : Bool) (items : List (List Int × Value)) (ve vf va vb : Value) (w : World) (h : SW s cl items w) (ht : ToksAt s.N w ve nd.ne nd.ek nd.ez) (hk : nd.kind = 1) (hs : stErr s.nf s.par s.c.vars nd A.len B.len = 0) (hil : items.length + 1500 ≤ 100000) :
    Calls Tryz.prog 228 #[.pointer (some ⟨s.c.X, 0, none⟩), .agg #[.int .i64 nd.kind, .int .i64 nd.num, ve, vf, va, vb]] w fun e w' => (∃ u, e = .returned u) ∧ Hid (StpP s d nd A B items w w') := by
  obtain ⟨_, hnum, _, hex, _⟩ := stOK hs
  have hnum := hnum hk
  have hex := hex (by omega)
  obtain ⟨tt, htt⟩ : ∃ tt : Nat, nd.num = tt := ⟨nd.num.toNat, by omega⟩
  have hv := h.dv.xlt.2.2.1
  have hx := exOK_of hex
  obtain ⟨a, cap, rfl, hr⟩ := ht
  have HK : Hid (nd.kind = 1 ∧ nd.num = tt) := ⟨hk, htt⟩
  have HPre : Hid (DFr s.c.X s.c.C w (w.alloc (.cells #[.int .i64 nd.kind, .int .i64 nd.num, .slice a nd.ne cap, vf, va, vb] 82))) := DFr.of (bal w _)
  have hW : SW s cl items (w.alloc (.cells #[.int .i64 nd.kind, .int .i64 nd.num, .slice a nd.ne cap, vf, va, vb] 82)) := h.of ok (bal w _)
  have hT : ToksAt s.N (w.alloc (.cells #[.int .i64 nd.kind, .int .i64 nd.num, .slice a nd.ne cap, vf, va, vb] 82)) (.slice a nd.ne cap) nd.ne nd.ek nd.ez := ToksAt.below ⟨a, cap, rfl, hr⟩ ((bal w _).mono h.nw)
  have hBx : (w.alloc (.cells #[.int .i64 nd.kind, .int .i64 nd.num, .slice a nd.ne cap, vf, va, vb] 82)).heap[w.heap.size]? = some (.cells #[.int .i64 nd.kind, .int .i64 nd.num, .slice a nd.ne cap, vf, va, vb] 82 (0, 0)) := heap_alloc_new w _
  clear h hr
  generalize hw0 : w.alloc (.cells #[.int .i64 nd.kind, .int .i64 nd.num, .slice a nd.ne cap, vf, va, vb] 82) = W at *
  generalize hQ : w.heap.size = Q at *
  have HW0 : Hid (w.alloc (.cells #[.int .i64 nd.kind, .int .i64 nd.num, .slice a nd.ne cap, vf, va, vb] 82) = W) := hw0
  have HQ : Hid (w.heap.size = Q) := hQ
  clear hw0 hQ
  have HR : Hid (Calls Tryz.prog 230 #[.slice a nd.ne cap] W fun e w' => ∃ B E, e = .returned (.func (.func 242) #[] #[.pointer (some ⟨B, 0, none⟩), .pointer (some ⟨E, 0, none⟩)]) ∧ Hid (Below W.heap.size W w') ∧ Hid (RdAt s.N B E (.slice a nd.ne cap) nd.ne nd.ek nd.ez 0 w') ∧ Hid (W.heap.size ≤ B)) := creader s.N _ nd.ne nd.ek nd.ez W hT hW.nw
  have HN : Hid (∀ w1 B E, RdAt s.N B E (.slice a nd.ne cap) nd.ne nd.ek nd.ez 0 w1 → Calls Tryz.prog 242 #[.pointer (some ⟨B, 0, none⟩), .pointer (some ⟨E, 0, none⟩)] w1 fun e w' => e = .returned (.agg #[.int .i64 (nd.ek 0), .int .i64 (nd.ez 0)]) ∧ Hid (Save B w1 w') ∧ Hid (RdAt s.N B E (.slice a nd.ne cap) nd.ne nd.ek nd.ez (0 + 1) w')) := fun w1 B E h => creader1 s.N B E _ nd.ne nd.ek nd.ez 0 w1 h (by omega) hx.1.1
  have H1 : Hid (∀ (w1 w2 : World) (B E : Nat) (o : Obj), Below W.heap.size W w1 → RdAt s.N B E (.slice a nd.ne cap) nd.ne nd.ek nd.ez 0 w1 → W.heap.size ≤ B → Save B w1 w2 → RdAt s.N B E (.slice a nd.ne cap) nd.ne nd.ek nd.ez (0 + 1) w2 → DFr s.c.X s.c.C W (w2.alloc o) ∧ SW s false items (w2.alloc o) ∧ VW (s.vc B E (.slice a nd.ne cap) nd.ne nd.ek nd.ez) (0 + 1) items (w2.alloc o)) := fun w1 w2 B E o h1 h2 h3 h4 h5 => by
    have v1 := (hW.vw h1 h2 h3).read h4 h5
    have v2 := v1.of (bal w2 o)
    have f2 := VW.fin (its := []) hW ok h1 h3 ((h4.b s.c.X s.c.C).trans ((DFr.of (bal w2 o)).b B)) (by rw [List.append_nil]; exact v2)
    rw [List.append_nil] at f2
    exact ⟨f2.1, f2.2, v2⟩
  have HB : Hid (∀ w1, DFr s.c.X s.c.C W w1 → w1.cell? ⟨Q, 1, none⟩ = some (.int .i64 nd.num)) := fun w1 hf => by
    unfold World.cell?; rw [hW.box hBx (by decide) (by decide) hf]; rfl
  have HL : Hid (∀ w1, nd.ek 0 = 2 → DFr s.c.X s.c.C W w1 → SW s false items w1 → Calls Tryz.prog 171 #[.pointer (some ⟨s.c.X, 0, none⟩), .agg #[.int .i64 2, .int .i64 nd.num, .int .i64 (nd.ez 0), .int .i64 0, .slice none 0 0]] w1 fun e w' => (∃ u, e = .returned u) ∧ Hid (StpP s d nd A B items w w')) := fun w1 h2 hf hw => by
    rw [HK.out.2]
    refine (hw.add ok 2 (nd.ez 0) 0 tt (by omega) (by omega) (by decide)).mono fun e w' hp => ?_
    obtain ⟨he, f1, f2⟩ := hp
    refine ⟨he, _, false, (HPre.out.trans hf).trans f1.out, f2.out, Or.inl ⟨rfl, Or.inl ⟨HK.out.1, h2, ?_⟩⟩⟩
    rw [HK.out.2]; rfl
  have HRk : Hid (∀ (w1 : World) (B' E : Nat), ¬ nd.ek 0 = 2 → DFr s.c.X s.c.C W w1 → W.heap.size ≤ B' → SW s false items w1 → VW (s.vc B' E (.slice a nd.ne cap) nd.ne nd.ek nd.ez) (0 + 1) items w1 → Calls Tryz.prog 241 #[.pointer (some ⟨s.c.X, 0, none⟩), .agg #[.int .i64 (nd.ek 0), .int .i64 (nd.ez 0)], .func (.func 242) #[] #[.pointer (some ⟨B', 0, none⟩), .pointer (some ⟨E, 0, none⟩)], .int .i64 nd.num, .int .i64 s.c.vars] w1 fun e w' => (∃ u, e = .returned u) ∧ Hid (StpP s d nd A B items w w') ∧ Hid (DFb s.c.X B' s.c.C w1 w') ∧ Hid (w'.cell? ⟨s.c.X, 1, none⟩ = some (.int .i64 s.c.vars))) := fun w1 B' E h2 hf hB hw hvw => by
    rw [HK.out.2]
    have vok : VOK (s.vc B' E (.slice a nd.ne cap) nd.ne nd.ek nd.ez) := SC.vok ok hex
    have hpk := peak_all hx.1.1
    have hn24 := hx.1.1
    refine (dreckon (s.vc B' E (.slice a nd.ne cap) nd.ne nd.ek nd.ez) vok nd.ne (dvalues _ vok _ (dvalue _ vok _)) 0 tt s.c.vars items w1 (by show nd.ne - 0 ≤ nd.ne + 1; omega) (by show 0 < nd.ne; omega) h2 (Nat.le_refl _) (by omega) (by show s.c.vars + peak (nd.ne - 0) ≤ s.c.vars + 17; rw [Nat.sub_zero]; omega) (by show items.length + 41 * (nd.ne - 0) + 100 ≤ 100000; omega) hvw).mono fun e w' hp => ?_
    obtain ⟨he, a', its, f1, f2, f3, f4⟩ := hp
    have hfr : DFr s.c.X s.c.C W w' := f1.r hf hB
    have f5 := RK.fin (s := s) vok ⟨f3, f4⟩
    have hsw := hW.next ok hfr f2.dv
    refine ⟨he, ⟨its, false, HPre.out.trans hfr, hsw, Or.inl ⟨rfl, Or.inr (Or.inl ⟨HK.out.1, h2, ?_⟩)⟩⟩, f1, hsw.vars⟩
    rw [HK.out.2]
    exact f5
  have HF : Hid (∀ (w1 w2 : World) (B E : Nat), Below W.heap.size W w1 → RdAt s.N B E (.slice a nd.ne cap) nd.ne nd.ek nd.ez 0 w1 → W.heap.size ≤ B → Save B w1 w2 → RdAt s.N B E (.slice a nd.ne cap) nd.ne nd.ek nd.ez (0 + 1) w2 → w2.cell? ⟨Q, 1, none⟩ = some (.int .i64 nd.num) ∧ Q < w2.heap.size ∧ w2.cell? ⟨s.c.X, 1, none⟩ = some (.int .i64 s.c.vars) ∧ s.c.X < w2.heap.size) := fun w1 w2 B E h1 h2 h3 h4 h5 => by
    have v1 := (hW.vw h1 h2 h3).read h4 h5
    have f2 := VW.fin (its := []) hW ok h1 h3 (h4.b s.c.X s.c.C) (by rw [List.append_nil]; exact v1)
    have hb := hW.box hBx (by decide) (by decide) f2.1
    exact ⟨HB.out w2 f2.1, (Array.getElem?_eq_some_iff.1 hb).1, f2.2.vars, f2.2.dv.xlt.1⟩
  have kb2 : W.cell? ⟨Q, 2, none⟩ = some (.slice a nd.ne cap) := by unfold World.cell?; rw [hBx]; rfl
  have HVv : Hid (∀ w1, SW s false items w1 → w1.cell? ⟨s.c.X, 1, none⟩ = some (.int .i64 s.c.vars)) := fun w1 h => h.vars
  have HOK : Hid (SOK s) := ok
  have HBx : Hid (∀ w1, DFr s.c.X s.c.C W w1 → w1.heap[Q]? = some (.cells #[.int .i64 nd.kind, .int .i64 nd.num, .slice a nd.ne cap, vf, va, vb] 82 (0, 0))) := fun w1 hf => hW.box hBx (by decide) (by decide) hf
  clear hW hT hBx hk htt hs hex hx ok
  go_enter Tryz.func228, Tryz.ntmps228
  go_upto_region 1 with (fail)
  rw [HW0.out]
  simp only [HQ.out]
  by_cases h2 : nd.ek 0 = 2
  · have H2 : Hid (nd.ek 0 = 2) := h2
    have hk2 : (nd.ek 0 == 2) = true := by simp [h2]
    clear h2
    go_wp2_with (first
      | (go_at_call 230; refine HR.out.mono ?_; rintro e w1 ⟨B', E, rfl, B1, R1, S1⟩)
      | (go_at_call 242; refine (HN.out w1 B' E R1.out).mono ?_; rintro e w2 ⟨rfl, S2, R2⟩; obtain ⟨q1, q2, q3, q4⟩ := HF.out w1 w2 B' E B1.out R1.out S1.out S2.out R2.out)
      | (go_at_call 171; refine (HL.out _ H2.out (H1.out w1 w2 B' E _ B1.out R1.out S1.out S2.out R2.out).1 (H1.out w1 w2 B' E _ B1.out R1.out S1.out S2.out R2.out).2.1).mono ?_; rintro e w3 ⟨⟨u3, rfl⟩, P3⟩))
    refine bodyPost_ret (results_none rfl _ _ _) rfl ?_
    exact ⟨⟨_, rfl⟩, P3⟩
  · have H2 : Hid (¬ nd.ek 0 = 2) := h2
    have hk2 : (nd.ek 0 == 2) = false := by simp [h2]
    clear h2
    go_upto_region 5 with (first
      | (go_at_call 230; refine HR.out.mono ?_; rintro e w1 ⟨B', E, rfl, B1, R1, S1⟩)
      | (go_at_call 242; refine (HN.out w1 B' E R1.out).mono ?_; rintro e w2 ⟨rfl, S2, R2⟩; obtain ⟨q1, q2, q3, q4⟩ := HF.out w1 w2 B' E B1.out R1.out S1.out S2.out R2.out))
    have hA := H1.out w1 w2 B' E (.cells #[.int .i64 (nd.ek 0), .int .i64 (nd.ez 0)] 89) B1.out R1.out S1.out S2.out R2.out
    have HD : Hid (DFr s.c.X s.c.C W (w2.alloc (.cells #[.int .i64 (nd.ek 0), .int .i64 (nd.ez 0)] 89)).drew ∧ SW s false items (w2.alloc (.cells #[.int .i64 (nd.ek 0), .int .i64 (nd.ez 0)] 89)).drew ∧ VW (s.vc B' E (.slice a nd.ne cap) nd.ne nd.ek nd.ez) (0 + 1) items (w2.alloc (.cells #[.int .i64 (nd.ek 0), .int .i64 (nd.ez 0)] 89)).drew) :=
      ⟨hA.1.trans (DFr.of ((Below.refl _ _).drew)), hA.2.1.of HOK.out ((Below.refl _ _).drew), hA.2.2.of ((Below.refl _ _).drew)⟩
    have HCk := HRk.out _ B' E H2.out HD.out.1 S1.out HD.out.2.1 HD.out.2.2
    have hn := heap_alloc_new w2 (.cells #[.int .i64 (nd.ek 0), .int .i64 (nd.ez 0)] 89)
    have g0 : (w2.alloc (.cells #[.int .i64 (nd.ek 0), .int .i64 (nd.ez 0)] 89)).cell? ⟨w2.heap.size, 0, none⟩ = some (.int .i64 (nd.ek 0)) := by unfold World.cell?; rw [hn]; rfl
    have g1 : (w2.alloc (.cells #[.int .i64 (nd.ek 0), .int .i64 (nd.ez 0)] 89)).cell? ⟨w2.heap.size, 1, none⟩ = some (.int .i64 (nd.ez 0)) := by unfold World.cell?; rw [hn]; rfl
    have g2 := HB.out _ hA.1
    have g3 := HVv.out _ hA.2.1
    have HKp : Hid (∀ w3, DFb s.c.X B' s.c.C (w2.alloc (.cells #[.int .i64 (nd.ek 0), .int .i64 (nd.ez 0)] 89)).drew w3 → w3.cell? ⟨w2.heap.size, 0, none⟩ = some (.int .i64 (nd.ek 0)) ∧ w3.cell? ⟨w2.heap.size, 1, none⟩ = some (.int .i64 (nd.ez 0)) ∧ w3.cell? ⟨Q, 1, none⟩ = some (.int .i64 nd.num)) := fun w3 hf => by
      have e1 := VW.box HD.out.2.2 (T := w2.heap.size) (t := 89) hn (by decide) (by decide) (by decide) hf
      have e2 := VW.box HD.out.2.2 (T := Q) (t := 82) (HBx.out _ HD.out.1) (by decide) (by decide) (by decide) hf
      exact ⟨by unfold World.cell?; rw [e1]; rfl, by unfold World.cell?; rw [e1]; rfl, by unfold World.cell?; rw [e2]; rfl⟩
    clear hA hn q1 q2 q3 q4
    generalize w2.alloc (.cells #[.int .i64 (nd.ek 0), .int .i64 (nd.ez 0)] 89) = W3 at *
    have HCk : Hid (Calls Tryz.prog 241 #[.pointer (some ⟨s.c.X, 0, none⟩), .agg #[.int .i64 (nd.ek 0), .int .i64 (nd.ez 0)], .func (.func 242) #[] #[.pointer (some ⟨B', 0, none⟩), .pointer (some ⟨E, 0, none⟩)], .int .i64 nd.num, .int .i64 s.c.vars] W3.drew fun e w' => (∃ u, e = .returned u) ∧ Hid (StpP s d nd A B items w w') ∧ Hid (DFb s.c.X B' s.c.C W3.drew w') ∧ Hid (w'.cell? ⟨s.c.X, 1, none⟩ = some (.int .i64 s.c.vars))) := HCk
    go_region_held3 (fun w' => w'.cell? ⟨w2.heap.size, 0, none⟩ = some (.int .i64 (nd.ek 0)) ∧ w'.cell? ⟨w2.heap.size, 1, none⟩ = some (.int .i64 (nd.ez 0)) ∧ w'.cell? ⟨Q, 1, none⟩ = some (.int .i64 nd.num) ∧ w'.cell? ⟨s.c.X, 1, none⟩ = some (.int .i64 s.c.vars)) (first | (exact kS) | go_keep) (first
      | (go_at_call 241; refine HCk.out.mono ?_; rintro e w3 ⟨⟨u3, rfl⟩, P3, F3, V3⟩; have kS := (show _ ∧ _ ∧ _ ∧ _ from ⟨(HKp.out w3 F3.out).1, (HKp.out w3 F3.out).2.1, (HKp.out w3 F3.out).2.2, V3.out⟩)))
    all_goals go_end0
    all_goals exact ⟨⟨_, rfl⟩, P3⟩
def StC (s : SC) (d : Nat) (K : Int) : Prop := ∀ (nd : Nd) (A B : SL) (cl : Bool) (items : List (List Int × Value)) (ve vf va vb : Value) (w : World), nd.kind = K → SW s cl items w → ToksAt s.N w ve nd.ne nd.ek nd.ez → ToksAt s.N w vf nd.nf nd.fk nd.fz → stErr s.nf s.par s.c.vars nd A.len B.len = 0 → items.length + 3000 ≤ 100000 →
  Calls Tryz.prog 205 #[.pointer (some ⟨s.c.X, 0, none⟩), .agg #[.int .i64 nd.kind, .int .i64 nd.num, ve, vf, va, vb]] w fun e w' => (∃ u, e = .returned u) ∧ Hid (StpP s d nd A B items w w')
set_option maxRecDepth 20000 in
set_option maxHeartbeats 4000000 in
theorem dstmt1 (s : SC) (ok : SOK s) (d : Nat) : StC s d 1 := by
  intro nd A B cl items ve vf va vb w hk h ht hf hs hil
  obtain ⟨a, cap, rfl, hr⟩ := ht
  obtain ⟨fa, fcap, rfl, hfr⟩ := hf
  have HC : Hid (∀ wi, Below w.heap.size w wi → Calls Tryz.prog 228 #[.pointer (some ⟨s.c.X, 0, none⟩), .agg #[.int .i64 nd.kind, .int .i64 nd.num, .slice a nd.ne cap, .slice fa nd.nf fcap, va, vb]] wi fun e w' => (∃ u, e = .returned u) ∧ Hid (StpP s d nd A B items w w')) := fun wi hb => (dset s ok d nd A B cl items _ _ va vb wi (h.of ok hb) (ToksAt.below ⟨a, cap, rfl, hr⟩ (hb.mono h.nw)) hk hs (by omega)).mono fun e w' hp => ⟨hp.1, hp.2.out.pre (DFr.of hb)⟩
  have hkk : (nd.kind == 1) = true := by simp [hk]
  clear h hr hfr hk hs
  go_enter Tryz.func205, Tryz.ntmps205
  go_wp2_with (first
    | (go_at_call 228; refine (HC.out _ (bal _ _)).mono ?_; rintro e w1 ⟨⟨u, rfl⟩, P1⟩))
  go_end0
  exact ⟨⟨_, rfl⟩, P1⟩
end Go.Proofs.YtbmenihakkogkabGreatDoor
