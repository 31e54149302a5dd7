import Derived.Test.YtbmenihakkogkabGreatDoorPart21
namespace Go.Proofs.YtbmenihakkogkabGreatDoor
open Go.RowKit Go.Maps
def DVx (c : DC) (w : World) (regs : Nat) (U : Nat → Bool) (items : List (List Int × Value)) : Prop :=
  ∃ cv : Value, DAt c.X w c.fv c.vars regs c.once U cv ∧ CodeRow c.C w cv items ∧ regs ≤ c.vars + 17 ∧ und regs (items.map (·.1)) ∧ (∀ k, U k = true → k < regs) ∧ c.C ≤ w.heap.size ∧ c.vars ≤ 6 ∧ c.C ≤ c.X
theorem DV.x {c : DC} {w : World} {cl : Bool} {items : List (List Int × Value)} (h : DV c w cl items) : ∃ regs U, DVx c w regs U items ∧ (cl = true → ∀ k, c.vars ≤ k → U k = false) := by
  obtain ⟨r, U, cv, h1, h2, h3, h4, h5, h6, h7⟩ := h
  exact ⟨r, U, ⟨cv, h1, h2, h3, h4, h5, h7⟩, h6⟩
theorem DVx.v {c : DC} {w : World} {regs : Nat} {U : Nat → Bool} {items : List (List Int × Value)} (h : DVx c w regs U items) {cl : Bool} (hc : cl = true → ∀ k, c.vars ≤ k → U k = false) : DV c w cl items := by
  obtain ⟨cv, h1, h2, h3, h4, h5, h7⟩ := h
  exact ⟨regs, U, cv, h1, h2, h3, h4, h5, hc, h7⟩
theorem DVx.cells {c : DC} {w : World} {regs : Nat} {U : Nat → Bool} {items : List (List Int × Value)} (h : DVx c w regs U items) : ∃ cur : Array Value, w.heap[c.X]? = some (.cells cur 174 (0, 0)) ∧ cur.size = 45 ∧ cur[2]? = some (.int .i64 regs) ∧ ∀ k, k < 40 → ∃ m, cur[3 + k]? = some (.bool m) ∧ (m = true → U k = true) := by
  obtain ⟨cv, ⟨cur, h0, h1, h2, h3, h4, h5, h6, h7⟩, _⟩ := h
  exact ⟨cur, h0, h1, h4, h5⟩
theorem DVx.sharp {c : DC} {w : World} {regs : Nat} {U : Nat → Bool} {items : List (List Int × Value)} (h : DVx c w regs U items) {r : Nat} {cur : Array Value} (h0 : w.heap[c.X]? = some (.cells cur 174 (0, 0))) (hm : cur[3 + r]? = some (.bool false)) : DVx c w regs (fun k => if k = r then false else U k) items := by
  obtain ⟨cv, ⟨cur', h0', h1, h2, h3, h4, h5, h6, h7⟩, g2, g3, g4, g5, g6⟩ := h
  rw [h0] at h0'
  injection h0' with e
  injection e with e _ _
  subst e
  refine ⟨cv, ⟨cur, h0, h1, h2, h3, h4, fun k hk => ?_, h6, h7⟩, g2, g3, g4, fun k hk => ?_, g6⟩
  · obtain ⟨m, a1, a2⟩ := h5 k hk
    refine ⟨m, a1, fun hmt => ?_⟩
    by_cases e : k = r
    · subst e
      rw [hm] at a1
      injection a1 with a1
      injection a1 with a1
      rw [← a1] at hmt
      cases hmt
    · simp only [if_neg e]; exact a2 hmt
  · by_cases e : k = r
    · subst e; simp at hk
    · simp only [if_neg e] at hk; exact g5 k hk
theorem dadd_num (c : DC) (regs : Nat) (U : Nat → Bool) (items : List (List Int × Value)) (A : Nat) (w : World) (h : DVx c w regs U items) (hA : A < regs) (hil : items.length ≤ 100000) :
    Calls Tryz.prog 171 #[.pointer (some ⟨c.X, 0, none⟩), .agg #[.int .i64 1, .int .i64 A, .int .i64 0, .int .i64 0, .slice none 0 0]] w fun e w' => (∃ v, e = .returned v) ∧ Hid (DFr c.X c.C w w') ∧ Hid (DVx c w' regs (fun k => if k = A then false else U k) (items ++ [([1, (A : Int), 0, 0], .slice none 0 0)])) := by
  obtain ⟨cv, h1, h2, hr, hu, hk, hC, hv, hX⟩ := h
  refine (dadd_plain c.X c.C c.fv c.vars regs c.once U cv items 1 A 0 0 [1, (A : Int), 0, 0] none 0 0 w h1 h2 ⟨rfl, rfl, rfl, rfl⟩ ⟨none, 0, rfl, by simp, Or.inl rfl⟩ hil hC A (by omega) rfl ⟨by decide, by decide⟩).mono fun e w' h => ?_
  obtain ⟨he, v', f1, f2, f3⟩ := h
  have em : max (regs : Int) ((A : Int) + 1) = (regs : Int) := by omega
  rw [em] at f2
  have eU : addU 1 A U = fun k => if k = A then false else U k := by
    funext k
    unfold addU
    simp
  rw [eU] at f2
  refine ⟨he, f1, v', f2.out, f3.out, hr, ?_, fun k hk2 => ?_, Nat.le_trans hC f1.out.size, hv, hX⟩
  · rw [List.map_append, und_app]
    refine ⟨hu, fun i hi => ?_⟩
    simp only [List.map_cons, List.map_nil, List.mem_singleton] at hi
    subst hi
    show 0 ≤ (A : Int) ∧ (A : Int) < regs
    omega
  · by_cases e : k = A
    · subst e; exact hA
    · simp only [if_neg e] at hk2; exact hk k hk2
def ClearP (c : DC) (fr : Nat) (cl : Bool) (items : List (List Int × Value)) (w w' : World) : Prop :=
  ∃ (its : List (List Int × Value)) (L : List Nat), DFr c.X c.C w w' ∧ DV c w' (cl || decide (fr = c.vars)) (items ++ its) ∧ its.map (·.1) = clr L ∧ (∀ r ∈ L, fr ≤ r) ∧ L.length ≤ c.vars + 17 - fr ∧ (cl = true → c.vars ≤ fr → its = [])
theorem clr_off {its : List (List Int × Value)} {L : List Nat} (h : its.map (·.1) = clr L) (B : Nat) : offs B its := fun x hx => by
  have : x.1 ∈ its.map (·.1) := List.mem_map.2 ⟨x, hx, rfl⟩
  rw [h] at this
  obtain ⟨r, _, e⟩ := List.mem_map.1 this
  rw [← e]
  exact Or.inl rfl
set_option maxRecDepth 20000 in
set_option maxHeartbeats 4000000 in
theorem dclear (c : DC) (fr : Nat) (cl : Bool) (items : List (List Int × Value)) (w : World) (hD : DV c w cl items) (hf : fr ≤ 60) (hil : items.length + 40 ≤ 100000) :
    Calls Tryz.prog 206 #[.pointer (some ⟨c.X, 0, none⟩), .int .i64 fr] w fun e w' => (∃ v, e = .returned v) ∧ Hid (ClearP c fr cl items w w') := by
  obtain ⟨regs, U, hx, hcl⟩ := hD.x
  have hr : regs ≤ c.vars + 17 ∧ c.vars ≤ 6 := by
    obtain ⟨_, _, _, h3, _, _, _, h7, _⟩ := hx
    exact ⟨h3, h7⟩
  have HX : Hid (DVx c w regs U items) := hx
  have HCl : Hid (cl = true → ∀ k, c.vars ≤ k → U k = false) := hcl
  clear hx hcl hD
  go_enter Tryz.func206, Tryz.ntmps206
  go_wp2_with fail
  go_loopw [4] (fun i wr => ∃ (r : Nat) (its : List (List Int × Value)) (L : List Nat) (U' : Nat → Bool), i = .int .i64 r ∧ fr ≤ r ∧ r ≤ max fr regs ∧ its.length ≤ r - fr ∧ Hid (DFr c.X c.C w wr) ∧ Hid (DVx c wr regs U' (items ++ its)) ∧ Hid (its.map (·.1) = clr L ∧ (∀ x ∈ L, fr ≤ x) ∧ L.length ≤ r - fr ∧ (∀ k, U' k = true → U k = true) ∧ (∀ k, fr ≤ k → k < r → U' k = false) ∧ (cl = true → c.vars ≤ fr → its = []))) (fun i _ => regs - (intOf i).toNat)
  case atStart => exact ⟨fr, [], [], U, rfl, Nat.le_refl _, by omega, by simp, DFr.refl _ _ _, (by show DVx _ _ _ _ _; rw [List.append_nil]; exact HX.out), rfl, fun x hx => (by cases hx), by simp, fun k h => h, fun k h1 h2 => (by omega), fun _ _ => rfl⟩
  case round =>
    obtain ⟨r, its, L, U', rfl, hr1, hr2, hitl, HF, HV, HL⟩ := hrel
    obtain ⟨cur, h0, hcs, c2, c3⟩ := HV.out.cells
    have HX0 : Hid (wr.heap[c.X]? = some (.cells cur 174 (0, 0))) := h0
    have k2 : wr.cell? ⟨c.X, 2, none⟩ = some (.int .i64 regs) := by unfold World.cell?; rw [h0]; exact c2
    have hw : IntKind.i64.wrap ((r : Int) + 1) = (r : Int) + 1 := Go.IntWalk.i64_in _ (by omega)
    by_cases hlt : r < regs
    · obtain ⟨m, hm, hmU⟩ := c3 r (by omega)
      have k3 : wr.cell? ⟨c.X, 3 + r, none⟩ = some (.bool m) := by unfold World.cell?; rw [h0]; exact hm
      have HM : Hid (cur[3 + r]? = some (.bool m) ∧ (m = true → U' r = true)) := ⟨hm, hmU⟩
      have hi0 : (0 : Int) ≤ (r : Int) := by omega
      have hi1 : (r : Int) < 40 := by omega
      have hi2 : (r : Int) < (regs : Int) := by omega
      clear c2 c3 hm hmU h0
      cases m with
      | true =>
        have HC : Hid (Calls Tryz.prog 171 #[.pointer (some ⟨c.X, 0, none⟩), .agg #[.int .i64 1, .int .i64 r, .int .i64 0, .int .i64 0, .slice none 0 0]] wr fun e w' => (∃ v, e = .returned v) ∧ Hid (DFr c.X c.C wr w') ∧ Hid (DVx c w' regs (fun k => if k = r then false else U' k) ((items ++ its) ++ [([1, (r : Int), 0, 0], .slice none 0 0)]))) :=
          dadd_num c regs U' (items ++ its) r wr HV.out hlt (by rw [List.length_append]; omega)
        go_wp2_with (go_at_call 171; refine HC.out.mono ?_; rintro e w1 ⟨⟨v, rfl⟩, F1, V1⟩)
        go_round
        case rel =>
          refine ⟨r + 1, its ++ [([1, (r : Int), 0, 0], .slice none 0 0)], L ++ [r], _, rfl, by omega, by omega, by simp; omega, HF.out.trans F1.out, (by rw [← List.append_assoc]; exact V1.out), ?_⟩
          obtain ⟨a1, a2, a3, a4, a5, a6⟩ := HL.out
          refine ⟨by rw [List.map_append, a1]; simp [clr], fun x hx => ?_, by simp; omega, fun k hk => ?_, fun k h1 h2 => ?_, fun h1 h2 => ?_⟩
          · rcases List.mem_append.1 hx with hx | hx
            · exact a2 x hx
            · rw [List.mem_singleton] at hx; omega
          · by_cases e : k = r
            · simp [e] at hk
            · simp only [if_neg e] at hk; exact a4 k hk
          · by_cases e : k = r
            · simp [e]
            · simp only [if_neg e]; exact a5 k h1 (by omega)
          · exfalso
            have := a4 r (HM.out.2 trivial)
            rw [HCl.out h1 r (by omega)] at this
            cases this
        case measure => simp [intOf]; omega
      | false =>
        go_wp2_with fail
        go_round
        case rel =>
          refine ⟨r + 1, its, L, _, rfl, by omega, by omega, by omega, HF, HV.out.sharp HX0.out HM.out.1, ?_⟩
          obtain ⟨a1, a2, a3, a4, a5, a6⟩ := HL.out
          refine ⟨a1, a2, by omega, fun k hk => ?_, fun k h1 h2 => ?_, a6⟩
          · by_cases e : k = r
            · simp [e] at hk
            · simp only [if_neg e] at hk; exact a4 k hk
          · by_cases e : k = r
            · simp [e]
            · simp only [if_neg e]; exact a5 k h1 (by omega)
        case measure => simp [intOf]; omega
    · have hi2 : ¬ (r : Int) < (regs : Int) := by omega
      clear c2 c3 h0
      go_wp2_with fail
      go_end0
      refine ⟨⟨_, rfl⟩, its, L, HF.out, HV.out.v fun h k hk => ?_, ?_⟩
      · obtain ⟨a1, a2, a3, a4, a5, a6⟩ := HL.out
        cases e : U' k
        · rfl
        · exfalso
          have hkr : k < regs := by
            obtain ⟨_, _, _, _, _, g5, _⟩ := HV.out
            exact g5 k e
          simp only [Bool.or_eq_true, decide_eq_true_eq] at h
          rcases h with h | h
          · have := a4 k e
            rw [HCl.out h k hk] at this
            cases this
          · rw [a5 k (by omega) (by omega)] at e
            cases e
      · obtain ⟨a1, a2, a3, a4, a5, a6⟩ := HL.out
        exact ⟨a1, a2, by omega, a6⟩
structure VC where
  c : DC
  N : Nat
  B : Nat
  E : Nat
  ve : Value
  n : Nat
  k : Nat → Int
  z : Nat → Int
  nf : Nat
  par : Nat → Int
  loc : Nat → Int
  bv : Nat → Value
structure VOK (v : VC) : Prop where
  n24 : v.n ≤ 24
  tok : ∀ j, j < v.n → tokErr (v.k j) (v.z j) v.nf v.c.vars = 0
  ask : ∀ j, j < v.n → 1 ≤ asked v.k v.z v.par j
  done : asked v.k v.z v.par v.n = 0
  par : ∀ i, i < v.nf → 0 ≤ v.par i ∧ v.par i ≤ 3
  low : v.N ≤ v.c.C
structure VW (v : VC) (a : Nat) (items : List (List Int × Value)) (w : World) : Prop where
  dv : DV v.c w false items
  off : offs v.B items
  rd : RdAt v.N v.B v.E v.ve v.n v.k v.z a w
  funs : FunsAt v.N w v.c.fv v.nf v.par v.loc v.bv
theorem VW.bx {v : VC} {a : Nat} {items : List (List Int × Value)} {w : World} (h : VW v a items w) : ¬ v.B = v.c.X := by
  obtain ⟨cur, h0, _⟩ := h.dv.xt
  intro e
  have h1 := h.rd.box
  rw [e, h0] at h1
  injection h1 with h1
  injection h1 with _ e _
  exact absurd e (by decide)
theorem VW.ex {v : VC} {a : Nat} {items : List (List Int × Value)} {w : World} (h : VW v a items w) : ¬ v.E = v.c.X := by
  obtain ⟨cur, h0, _⟩ := h.dv.xt
  intro e
  have h1 := h.rd.row
  rw [e, h0] at h1
  injection h1 with h1
  injection h1 with _ e _
  exact absurd e (by decide)
theorem VW.read {v : VC} {a a' : Nat} {items : List (List Int × Value)} {w w' : World} (h : VW v a items w) (hs : Save v.B w w') (hr : RdAt v.N v.B v.E v.ve v.n v.k v.z a' w') : VW v a' items w' :=
  ⟨h.dv.save h.off h.rd.box hs, h.off, hr, h.funs.below (hs.low h.rd.low h.rd.nw)⟩
theorem VW.more {v : VC} {a : Nat} {items its : List (List Int × Value)} {w w' : World} (h : VW v a items w) (ok : VOK v) (hf : DFr v.c.X v.c.C w w') {cl : Bool} (hd : DV v.c w' cl (items ++ its)) (ho : offs v.B its) : VW v a (items ++ its) w' := by
  have hx := h.dv.xlt
  have hb : Below v.N w w' := hf.low (Nat.le_trans ok.low hx.2.2.2) ok.low h.rd.nw
  refine ⟨hd.weak, offs_app h.off ho, ⟨hf.block v.B _ h.rd.box h.bx (Or.inr fun c e => ?_), hf.block v.E _ h.rd.row h.ex (Or.inr fun c e => ?_), h.rd.toks.below hb, h.rd.low, h.rd.lowE, Nat.le_trans h.rd.nw hf.size⟩, h.funs.below hb⟩
  · injection e with _ e _; exact absurd e (by decide)
  · injection e with _ e _; exact absurd e (by decide)
theorem VW.of {v : VC} {a : Nat} {items : List (List Int × Value)} {w w' : World} (h : VW v a items w) (hb : Below w.heap.size w w') : VW v a items w' := by
  have hb2 := hb.mono h.rd.nw
  have g : ∀ k o, w.heap[k]? = some o → w'.heap[k]? = some o := fun k o hk => by rw [hb.block k (Array.getElem?_eq_some_iff.1 hk).1]; exact hk
  exact ⟨h.dv.of hb, h.off, ⟨g _ _ h.rd.box, g _ _ h.rd.row, h.rd.toks.below hb2, h.rd.low, h.rd.lowE, Nat.le_trans h.rd.nw hb.size⟩, h.funs.below hb2⟩
theorem DV.put {c : DC} {w : World} {cl : Bool} {items : List (List Int × Value)} (h : DV c w cl items) {O i : Nat} {cur : Array Value} {t : TypeId} (hO : w.heap[O]? = some (.cells cur t (0, 0))) (h1 : ¬ 106 = t) (h2 : ¬ 3 = t) (h3 : ¬ t = 174) (x : Value) : DV c (w.setCell ⟨O, i, none⟩ x) cl items := by
  obtain ⟨r, U, cv, ⟨cx, x0, hr⟩, g2, g3, g4, g5, g6, g7, g8⟩ := h
  have hb : Below O w (w.setCell ⟨O, i, none⟩ x) := (Below.refl O w).setCell (Nat.le_refl _) _
  refine ⟨r, U, cv, ⟨cx, ?_, hr⟩, g2.stay (Keeps.set hO x h1) (Keeps.set hO x h2), g3, g4, g5, g6, Nat.le_trans g7 hb.size, g8⟩
  rw [Below.heap_setCell w _ _ c.X ?_]
  · exact x0
  · intro e
    have e : c.X = O := e
    rw [e, hO] at x0
    injection x0 with e; injection e with _ e _; exact absurd e h3
theorem VW.put {v : VC} {a : Nat} {items : List (List Int × Value)} {w : World} (h : VW v a items w) {O i : Nat} {cur : Array Value} (hO : w.heap[O]? = some (.cells cur 304 (0, 0))) (hN : v.N ≤ O) (x : Value) : VW v a items (w.setCell ⟨O, i, none⟩ x) := by
  have hb : Below O w (w.setCell ⟨O, i, none⟩ x) := (Below.refl O w).setCell (Nat.le_refl _) _
  have hb2 := hb.mono hN
  have g : ∀ (k : Nat) (cu : Array Value) (t : TypeId), w.heap[k]? = some (.cells cu t (0, 0)) → ¬ t = 304 → (w.setCell ⟨O, i, none⟩ x).heap[k]? = some (.cells cu t (0, 0)) := fun k cu t hk ht => by
    rw [Below.heap_setCell w _ _ k ?_]
    · exact hk
    · intro e
      have e : k = O := e
      rw [e, hO] at hk
      injection hk with e; injection e with _ e _; exact absurd e.symm ht
  exact ⟨h.dv.put hO (by decide) (by decide) (by decide) x, h.off, ⟨g _ _ _ h.rd.box (by decide), g _ _ _ h.rd.row (by decide), h.rd.toks.below hb2, h.rd.low, h.rd.lowE, Nat.le_trans h.rd.nw hb.size⟩, h.funs.below hb2⟩
def ValP (v : VC) (a free : Nat) (items : List (List Int × Value)) (w w' : World) (r : Nat) : Prop :=
  ∃ (a' : Nat) (its : List (List Int × Value)), DFb v.c.X v.B v.c.C w w' ∧ VW v a' (items ++ its) w' ∧ a' ≤ v.n ∧ VS v.k v.z v.par v.c.once a a' free [r] (its.map (·.1))
def ValsP (v : VC) (a free cnt : Nat) (items : List (List Int × Value)) (w w' : World) (r0 r1 r2 : Nat) : Prop :=
  ∃ (a' : Nat) (its : List (List Int × Value)), DFb v.c.X v.B v.c.C w w' ∧ VW v a' (items ++ its) w' ∧ a' ≤ v.n ∧ VS v.k v.z v.par v.c.once a a' free ([r0, r1, r2].take cnt) (its.map (·.1))
def RekP (v : VC) (a tt free : Nat) (items : List (List Int × Value)) (w w' : World) : Prop :=
  ∃ (a' : Nat) (its : List (List Int × Value)), DFb v.c.X v.B v.c.C w w' ∧ VW v a' (items ++ its) w' ∧ a' ≤ v.n ∧ RK v.k v.z v.par v.c.once a a' tt free (its.map (·.1))
def ValC (v : VC) (m : Nat) : Prop := ∀ (a free : Nat) (items : List (List Int × Value)) (w : World), v.n - a ≤ m → a < v.n → v.c.vars ≤ free → free + peak (v.n - a) ≤ v.c.vars + 17 → items.length + 41 * (v.n - a) + 100 ≤ 100000 → VW v a items w →
  Calls Tryz.prog 229 #[.pointer (some ⟨v.c.X, 0, none⟩), .func (.func 242) #[] #[.pointer (some ⟨v.B, 0, none⟩), .pointer (some ⟨v.E, 0, none⟩)], .int .i64 free] w fun e w' => ∃ r : Nat, e = .returned (.int .i64 r) ∧ Hid (ValP v a free items w w' r)
def ValsC (v : VC) (m : Nat) : Prop := ∀ (a free cnt : Nat) (items : List (List Int × Value)) (w : World), cnt ≤ 3 → v.n - a ≤ m → a ≤ v.n → (cnt : Int) ≤ asked v.k v.z v.par a → v.c.vars ≤ free → free + peak (v.n - a + 1) ≤ v.c.vars + 17 → items.length + 41 * (v.n - a) + 100 ≤ 100000 → VW v a items w →
  Calls Tryz.prog 246 #[.pointer (some ⟨v.c.X, 0, none⟩), .int .i64 cnt, .func (.func 242) #[] #[.pointer (some ⟨v.B, 0, none⟩), .pointer (some ⟨v.E, 0, none⟩)], .int .i64 free] w fun e w' => ∃ r0 r1 r2 : Nat, e = .returned (.agg #[.int .i64 r0, .int .i64 r1, .int .i64 r2]) ∧ Hid (ValsP v a free cnt items w w' r0 r1 r2)
def RekC (v : VC) (m : Nat) : Prop := ∀ (a tt free : Nat) (items : List (List Int × Value)) (w : World), v.n - a ≤ m + 1 → a < v.n → ¬ v.k a = 2 → v.c.vars ≤ free → tt ≤ free → free + peak (v.n - a) ≤ v.c.vars + 17 → items.length + 41 * (v.n - a) + 100 ≤ 100000 → VW v (a + 1) items w →
  Calls Tryz.prog 241 #[.pointer (some ⟨v.c.X, 0, none⟩), .agg #[.int .i64 (v.k a), .int .i64 (v.z a)], .func (.func 242) #[] #[.pointer (some ⟨v.B, 0, none⟩), .pointer (some ⟨v.E, 0, none⟩)], .int .i64 tt, .int .i64 free] w fun e w' => (∃ u, e = .returned u) ∧ Hid (RekP v a tt free items w w')
theorem flatI_land : ∀ (items : List (List Int × Value)) (p : Nat) (l : List Int) (av : Value) (b : Int), items[p]? = some (l, av) → 4 ≤ l.length → flatI (items.set p (l.set 2 b, av)) = (flatI items).set (p * 5 + 2) (.int .i64 b)
  | [], p, l, av, b, h, _ => by cases h
  | x :: items, 0, l, av, b, h, hl => by
    simp only [List.getElem?_cons_zero, Option.some.injEq] at h
    subst h
    obtain ⟨l0, l1, l2, l3, t, rfl⟩ : ∃ l0 l1 l2 l3 t, l = l0 :: l1 :: l2 :: l3 :: t := by
      rcases l with _ | ⟨l0, _ | ⟨l1, _ | ⟨l2, _ | ⟨l3, t⟩⟩⟩⟩
      · simp at hl
      · simp at hl
      · simp at hl
      · simp at hl
      · exact ⟨l0, l1, l2, l3, t, rfl⟩
    simp [flatI]
  | x :: items, p + 1, l, av, b, h, hl => by
    have ih := flatI_land items p l av b (by simpa using h) hl
    rw [List.set_cons_succ, flatI, ih, flatI]
    rw [List.set_append_right _ _ (by simp only [List.length_cons, List.length_nil]; omega)]
    congr 2
    simp only [List.length_cons, List.length_nil]; omega
theorem CodeRow.land {C : Nat} {w : World} {v : Value} {items : List (List Int × Value)} (h : CodeRow C w v items) {p : Nat} {l : List Int} {av : Value} (hp : items[p]? = some (l, av)) (hl : 4 ≤ l.length) (b : Int) :
    ∃ g cap cur, v = .slice (some ⟨g, 0, none⟩) items.length cap ∧ C ≤ g ∧ w.heap[g]? = some (.cells cur 106 (0, 0)) ∧ p * 5 + 2 < cur.size ∧ CodeRow C (w.setCell ⟨g, p * 5 + 2, none⟩ (.int .i64 b)) v (items.set p (l.set 2 b, av)) := by
  have hpl : p < items.length := (List.getElem?_eq_some_iff.1 hp).1
  obtain ⟨h1, h2⟩ := h
  rcases h1.2 with ⟨rfl, h0⟩ | ⟨g, cap, cur, rfl, a1, a2, a3, a4, a5, a6⟩
  · omega
  have hsz : p * 5 + 2 < cur.size := by
    have : items.length * 5 ≤ cap * 5 := Nat.mul_le_mul_right 5 a3
    omega
  have k3 : Keeps 3 w (w.setCell ⟨g, p * 5 + 2, none⟩ (.int .i64 b)) := Keeps.set a2 _ (by decide)
  refine ⟨g, cap, cur, rfl, a1, a2, hsz, ⟨by rw [List.length_set, flatI_len, List.length_set], Or.inr ⟨g, cap, cur.setIfInBounds (p * 5 + 2) (.int .i64 b), by rw [List.length_set], a1, heap_setCell_same w g _ _ _ _ a2, by rw [List.length_set]; exact a3, a4, by simp [a5], ?_⟩⟩, fun x hx => ?_⟩
  · rw [List.length_set, Array.toList_setIfInBounds, List.take_set, a6, flatI_land items p l av b hp hl]
  · rcases List.mem_or_eq_of_mem_set hx with hx | rfl
    · exact (h2 x hx).stay k3
    · have := (h2 (l, av) (List.mem_of_getElem? hp)).stay k3
      have e : (fun j => (l.set 2 b).getD (j + 4) 0) = fun j => l.getD (j + 4) 0 := by
        funext j
        rw [List.getD_eq_getElem?_getD, List.getD_eq_getElem?_getD, List.getElem?_set_ne (by omega)]
      show ArgsAt _ av ((l.set 2 b).length - 4) (fun j => (l.set 2 b).getD (j + 4) 0)
      rw [List.length_set, e]
      exact this
structure LandAt (c : DC) (D P p : Nat) (w : World) : Prop where
  d : w.heap[D]? = some (.cells #[.pointer (some ⟨c.X, 0, none⟩)] 170 (0, 0))
  p : w.heap[P]? = some (.cells #[.int .i64 p] 3 (0, 0))
theorem LandAt.keep {c : DC} {D P p : Nat} {w w' : World} (h : LandAt c D P p w) {cl : Bool} {items : List (List Int × Value)} (hD : DV c w cl items) (hf : DFr c.X c.C w w') : LandAt c D P p w' := by
  obtain ⟨cur, hX, _⟩ := hD.xt
  refine ⟨hf.block D _ h.d ?_ (Or.inr fun c e => ?_), hf.block P _ h.p ?_ (Or.inr fun c e => ?_)⟩
  · intro e
    have := h.d
    rw [e, hX] at this
    injection this with e; injection e with _ e _; exact absurd e (by decide)
  · injection e with _ e _; exact absurd e (by decide)
  · intro e
    have := h.p
    rw [e, hX] at this
    injection this with e; injection e with _ e _; exact absurd e (by decide)
  · injection e with _ e _; exact absurd e (by decide)
theorem DV.land {c : DC} {w : World} {cl : Bool} {items : List (List Int × Value)} (h : DV c w cl items) {p : Nat} {l : List Int} {av : Value} (hp : items[p]? = some (l, av)) (hl : 4 ≤ l.length) (b : Int) :
    ∃ g cap cur, (∃ cx : Array Value, w.heap[c.X]? = some (.cells cx 174 (0, 0)) ∧ cx[44]? = some (.slice (some ⟨g, 0, none⟩) items.length cap)) ∧ c.C ≤ g ∧ w.heap[g]? = some (.cells cur 106 (0, 0)) ∧ p * 5 + 2 < cur.size ∧ DV c (w.setCell ⟨g, p * 5 + 2, none⟩ (.int .i64 b)) cl (items.set p (l.set 2 b, av)) ∧ DFr c.X c.C w (w.setCell ⟨g, p * 5 + 2, none⟩ (.int .i64 b)) := by
  obtain ⟨r, U, cv, ⟨cx, x0, x1, x2, x3, x4, x5, x6, x7⟩, h2, h3, h4, h5, h6, h7, h8⟩ := h
  obtain ⟨g, cap, cur, rfl, g1, g2, g3, g4⟩ := h2.land hp hl b
  have hgX : ¬ c.X = g := by
    intro e
    rw [e, g2] at x0
    injection x0 with e; injection e with _ e _; exact absurd e (by decide)
  have hb : Below g w (w.setCell ⟨g, p * 5 + 2, none⟩ (.int .i64 b)) := (Below.refl g w).setCell (Nat.le_refl _) _
  refine ⟨g, cap, cur, ⟨cx, x0, x7⟩, g1, g2, g3, ⟨r, U, _, ⟨cx, by rw [Below.heap_setCell w _ _ c.X hgX]; exact x0, x1, x2, x3, x4, x5, x6, x7⟩, g4, h3, ?_, h5, h6, Nat.le_trans h7 hb.size, h8⟩, ⟨hb.os, hb.tape, hb.output, hb.size, fun k o hk _ ho => ?_⟩⟩
  · intro i hi
    obtain ⟨x, hx, rfl⟩ := List.mem_map.1 hi
    rcases List.mem_or_eq_of_mem_set hx with hx | rfl
    · exact h4 _ (List.mem_map.2 ⟨x, hx, rfl⟩)
    · have := h4 _ (List.mem_map.2 ⟨_, List.mem_of_getElem? hp, rfl⟩)
      show 0 ≤ (l.set 2 b).getD 1 0 ∧ (l.set 2 b).getD 1 0 < (r : Int)
      rw [List.getD_eq_getElem?_getD, List.getElem?_set_ne (by omega), ← List.getD_eq_getElem?_getD]
      exact this
  · rw [Below.heap_setCell w _ _ k ?_]
    · exact hk
    · show ¬ k = g
      rintro rfl
      rw [g2] at hk
      injection hk with hk
      rcases ho with ho | ho
      · omega
      · exact ho cur hk.symm
end Go.Proofs.YtbmenihakkogkabGreatDoor
