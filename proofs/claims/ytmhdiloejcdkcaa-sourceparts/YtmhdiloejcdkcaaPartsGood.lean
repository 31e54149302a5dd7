/- SourceParts where a statement is left out and one is doubled. -/
import Derived.Test.YtmhdiloejcdkcaaSrcParts
import Derived.Deep.Cut
namespace Go.Proofs.Ytmhdiloejcdkcaa
open Go.RowKit Go.Maps

theorem store_facts {x : World} {base g cp nf i : Nat} {par loc : Nat → Int} {bv : Nat → Value} (hG : x.ownsRow base 54 3 (.slice (some ⟨g, 0, none⟩) nf cp) nf (cellsL (nf * 3) (funC par loc bv))) (hi : i < nf) :
    x.cell? ⟨g, i * 3 + 2, none⟩ = some (bv i) ∧ x.frozen? ⟨g, i * 3 + 2, none⟩ = false := by
  refine ⟨?_, hG.frozenAt _⟩
  rw [hG.cellAt _ (by omega), cellsL_at (by omega)]
  unfold funC
  rw [if_neg (by omega), if_neg (by omega), show (i * 3 + 2) / 3 = i by omega]

theorem keepSix {w w1 : World} {b o m k : Nat} {c : Nat → Value} (hb : b < w.heap.size) (HC : ∀ j, j < m * 6 → w.cell? ⟨b, o + j, none⟩ = some (c j)) (hk : k < m) (h : Below w.heap.size w w1) :
    w1.cell? ⟨b, o + k * 6, none⟩ = some (c (k * 6)) ∧ w1.cell? ⟨b, o + k * 6 + 1, none⟩ = some (c (k * 6 + 1)) ∧ w1.cell? ⟨b, o + k * 6 + 2, none⟩ = some (c (k * 6 + 2)) ∧ w1.cell? ⟨b, o + k * 6 + 3, none⟩ = some (c (k * 6 + 3)) ∧ w1.cell? ⟨b, o + k * 6 + 4, none⟩ = some (c (k * 6 + 4)) ∧ w1.cell? ⟨b, o + k * 6 + 5, none⟩ = some (c (k * 6 + 5)) ∧ Below w.heap.size w w1 := by
  have K0 : ∀ t, t < 6 → w1.cell? ⟨b, o + k * 6 + t, none⟩ = some (c (k * 6 + t)) := fun t ht => by
    rw [h.cell (p := ⟨b, o + k * 6 + t, none⟩) hb, Nat.add_assoc, HC _ (by omega)]
  exact ⟨K0 0 (by decide), K0 1 (by decide), K0 2 (by decide), K0 3 (by decide), K0 4 (by decide), K0 5 (by decide), h⟩

/-- Number k, laid by itself. -/
def lone (k : Nat) (c : Nat → Value) : Array Value := #[c (k * 6), c (k * 6 + 1), c (k * 6 + 2), c (k * 6 + 3), c (k * 6 + 4), c (k * 6 + 5)]
theorem lone_eq (k : Nat) (c : Nat → Value) : (one_ k c).toArray = lone k c := rfl

/-- What Insert leaves. -/
def Inserted (W : World) (m k : Nat) (c : Nat → Value) (e : Ending) (w' : World) : Prop :=
  ∃ g cp, e = .returned (.slice (some ⟨g, 0, none⟩) (m + 1) cp) ∧ Hid (w'.ownsRow W.heap.size 58 6 (.slice (some ⟨g, 0, none⟩) (m + 1) cp) (m + 1) (cellsL ((m + 1) * 6) (pickC (doubled k) c))) ∧ Below W.heap.size W w' ∧ W.heap.size ≤ g

theorem heap_new (w : World) (ob : Obj) : (w.alloc ob).heap[w.heap.size]? = some ob := by
  show (w.heap.push ob)[w.heap.size]? = some ob
  simp

theorem ins_A (W : World) (m k : Nat) (c : Nat → Value) (h1 : ∀ u ∈ cellsL (m * 6) c, u.oneCell' = true) (hk : k < m) (hm : m ≤ 1000) (g cp : Nat) (w8 : World) (ho : w8.ownsRow W.heap.size 58 6 (.slice (some ⟨g, 0, none⟩) m cp) m (cellsL (m * 6) c)) (hW : Below W.heap.size W w8) (hg : g < w8.heap.size) :
    Calls Try.prog 34 #[.slice (some ⟨g, 0, none⟩) m cp, .int .i64 k, .slice (some ⟨w8.heap.size, 0, none⟩) 1 1] (w8.alloc (.cells (lone k c) 58)) (Inserted W m k c) := by
  have hal : Below W.heap.size W (w8.alloc (.cells (lone k c) 58)) := hW.alloc hW.size _
  refine (insert W.heap.size g cp m k w8.heap.size c _ hal.size (own_keep ho (Nat.le_refl _) ((below_alloc w8 _).block g hg)) h1 hk hm (by omega) ?_).mono ?_
  · rw [lone_eq]
    exact heap_new w8 _
  · rintro e w' ⟨g2, cp2, rfl, ho2, hb2⟩
    obtain ⟨_, _, ev, h3, _⟩ := own_blk ho2 (by omega)
    cases ev
    exact ⟨g2, cp2, rfl, ho2, hal.trans hb2, h3⟩

theorem ins_B (W : World) (m k : Nat) (c : Nat → Value) (h1 : ∀ u ∈ cellsL (m * 6) c, u.oneCell' = true) (hk : k < m) (hm : m ≤ 1000) (g cp base : Nat) (w8 : World) (ho : w8.ownsRow base 58 6 (.slice (some ⟨g, 0, none⟩) m cp) m (cellsL (m * 6) c)) (hW : Below (W.drew.alloc (.cells (lone k c) 58)).heap.size (W.drew.alloc (.cells (lone k c) 58)) w8) (hg : (W.drew.alloc (.cells (lone k c) 58)).heap.size ≤ base) (hg2 : base ≤ g) :
    Calls Try.prog 34 #[.slice (some ⟨g, 0, none⟩) m cp, .int .i64 k, .slice (some ⟨W.heap.size, 0, none⟩) 1 1] w8 (Inserted W m k c) := by
  have hsz : (W.drew.alloc (.cells (lone k c) 58)).heap.size = W.heap.size + 1 := by simp
  have hal : Below W.heap.size W w8 := ((Below.refl W.heap.size W).drew.alloc (Nat.le_refl _) _).trans (hW.mono (by rw [hsz]; omega))
  refine (insert W.heap.size g cp m k W.heap.size c _ hal.size (own_keep ho (by omega) rfl) h1 hk hm (by omega) ?_).mono ?_
  · rw [lone_eq, hW.block _ (by omega)]
    exact heap_new W.drew _
  · rintro e w' ⟨g2, cp2, rfl, ho2, hb2⟩
    obtain ⟨_, _, ev, h3, _⟩ := own_blk ho2 (by omega)
    cases ev
    exact ⟨g2, cp2, rfl, ho2, hal.trans hb2, h3⟩

set_option maxHeartbeats 2000000 in
theorem parts_good (d : Nat) (f : Value) (i0 k0 : Int) (nf : Nat) (par loc : Nat → Int) (bv : Nat → Value) (body : Nat → SL) (w : World) (hf : FunsAt w.heap.size w f nf par loc bv) (hs : ∀ j, j < nf → StmtsAt w.heap.size w (d + 1) (bv j) (body j)) (hp : progErr nf par loc (d + 1) body = 0)
    (i : Nat) (hi : i < nf) (Hi : ∀ w, Calls Try.prog 30 #[.int .i64 i0, .int .i64 nf] w fun e w' => e = .returned (.int .i64 (i : Int)) ∧ w' = w) (m n : Nat) (hm : (body i).len = m) (hmn : m = n + 1)
    (k : Nat) (hk : k < m) (Hk : ∀ w, Calls Try.prog 30 #[.int .i64 k0, .int .i64 m] w fun e w' => e = .returned (.int .i64 (k : Int)) ∧ w' = w) :
    Calls Try.prog 8 #[f, .int .i64 i0, .int .i64 k0] w fun e w' => e = .returned (.bool true) ∧ Below w.heap.size w w' := by
  obtain ⟨hn1, hn4, hh, hbody⟩ := progErr_zero hp
  have hn30 : m ≤ 30 := by
    have h1 := hbody i hi
    unfold bodyErr at h1
    by_cases hsz : (wk look1 (d + 1) (body i) 1 0).1 = 0
    · have h2 := (wk1_iff.1 hsz).2
      have h3 := size_len d (body i)
      omega
    · rw [if_neg hsz] at h1; cases h1
  have H1 : Hid (∀ wk, Below w.heap.size w wk → Calls Try.prog 24 #[f] wk fun e w' => e = .returned (.int .i64 0) ∧ Below wk.heap.size wk w') := fun wk hb => by
    have := check w.heap.size f nf par loc bv (d + 1) body wk hb.size (hf.below hb) (fun i hi => (hs i hi).below hb)
    rw [hp] at this; exact this
  have HI : Hid (∀ w, Calls Try.prog 30 #[.int .i64 i0, .int .i64 nf] w fun e w' => e = .returned (.int .i64 (i : Int)) ∧ w' = w) := Hi
  have HK : Hid (∀ w, Calls Try.prog 30 #[.int .i64 k0, .int .i64 m] w fun e w' => e = .returned (.int .i64 (k : Int)) ∧ w' = w) := Hk
  have H31 : Hid (∀ wk, Below w.heap.size w wk → Calls Try.prog 31 #[f] wk fun e w' => ∃ g cp, e = .returned (.slice (some ⟨g, 0, none⟩) nf cp) ∧ Hid (w'.ownsRow wk.heap.size 54 3 (.slice (some ⟨g, 0, none⟩) nf cp) nf (cellsL (nf * 3) (funC par loc bv))) ∧ Below wk.heap.size wk w' ∧ wk.heap.size ≤ g ∧ g < w'.heap.size) := fun wk hb => by
    refine (cloneFuns w.heap.size f nf par loc bv wk hb.size (hf.below hb) hn1 (by omega)).mono ?_
    rintro e w' ⟨ad, cp, rfl, ho, hb⟩
    obtain ⟨g, cp', ev, h1, h2, _⟩ := own_blk ho hn1
    cases ev
    exact ⟨g, cp, rfl, ho, hb, h1, h2⟩
  obtain ⟨af, capf, rfl, hnf, h | ⟨bf, of, rfl, hbf, hcf⟩⟩ := hf
  · omega
  obtain ⟨b, o, cap, c, ev, hb, hc, hrow⟩ := row_of_stmts (hs i hi) (by omega)
  rw [hm] at ev hc
  have h1c : ∀ u ∈ cellsL (m * 6) c, u.oneCell' = true := by
    have := hrow.one
    rw [hm] at this; exact this
  have H33 : Hid (∀ wk, Below w.heap.size w wk → Calls Try.prog 33 #[.slice (some ⟨b, o, none⟩) m cap] wk fun e w' => ∃ g cp, e = .returned (.slice (some ⟨g, 0, none⟩) m cp) ∧ Hid (w'.ownsRow wk.heap.size 58 6 (.slice (some ⟨g, 0, none⟩) m cp) m (cellsL (m * 6) c)) ∧ Below wk.heap.size wk w' ∧ wk.heap.size ≤ g ∧ g < w'.heap.size) := fun wk hbk => by
    refine (cloneStmts b o cap m c wk (Nat.lt_of_lt_of_le hb hbk.size) (fun j hj => ?_) h1c (by omega)).mono ?_
    · rw [hbk.cell (p := ⟨b, o + j, none⟩) hb, hc j hj]
    · rintro e w' ⟨ad, cp, rfl, ho, hb⟩
      obtain ⟨g, cp', ev, h1, h2, _⟩ := own_blk ho (by omega)
      cases ev
      exact ⟨g, cp, rfl, ho, hb, h1, h2⟩
  have H32 : Hid (∀ base g cp wk, wk.ownsRow base 58 6 (.slice (some ⟨g, 0, none⟩) m cp) m (cellsL (m * 6) c) → Calls Try.prog 32 #[.slice (some ⟨g, 0, none⟩) m cp, .int .i64 k, .int .i64 (k + 1)] wk fun e w' => e = .returned (.slice (some ⟨g, 0, none⟩) n cp) ∧ Hid (w'.ownsRow base 58 6 (.slice (some ⟨g, 0, none⟩) n cp) n (cellsL (n * 6) (pickC (without k) c))) ∧ Below base wk w') := fun base g cp wk ho => by
    subst hmn
    exact delete base g cp n k c wk ho h1c (by omega) (by omega)
  have HL : Hid (∀ wk, Below w.heap.size w wk → wk.cell? ⟨bf, of + i * 3 + 2, none⟩ = some (.slice (some ⟨b, o, none⟩) m cap)) := fun wk hb => by
    rw [hb.cell (p := ⟨bf, of + i * 3 + 2, none⟩) hbf, (hcf i hi).2.2.1, ev]
  have hi1 : (0 : Int) ≤ (i : Int) := by omega
  have hi2 : (i : Int) < (nf : Int) := by omega
  have hm0 : ((m : Int) == 0) = false := by simp; omega
  have HS : Hid (∀ j, j < nf → StmtsAt w.heap.size w (d + 1) (bv j) (body j)) := hs
  have HP : Hid (progErr nf par loc (d + 1) body = 0) := hp
  have HR : Hid (IsRow w.heap.size w d c (body i)) := hrow
  have HO : Hid (∀ u ∈ cellsL (m * 6) c, u.oneCell' = true) := h1c
  have HM : Hid (m = n + 1) := hmn
  have HM2 : Hid ((body i).len = m) := hm
  have HC : Hid (∀ j, j < m * 6 → w.cell? ⟨b, o + j, none⟩ = some (c j)) := hc
  clear Hi Hk hcf hn1 hh hbody hs hp hrow h1c hmn hm hc ev
  go_enter Try.func8, Try.ntmps8
  go_upto_region 10 with (first
    | (go_at_call 23; refine (typed w).mono ?_; rintro e w1 ⟨rfl, c1⟩)
    | (go_at_call 24; refine (H1.out _ c1).mono ?_; rintro e w2 ⟨rfl, b2⟩; have c2 := below_step c1 b2; have hl := HL.out _ c2)
    | (go_at_call 30; have _ := hat; refine (HK.out _).mono ?_; rintro e w3 ⟨rfl, h3⟩; rw [h3]; clear h3)
    | (go_at_call 30; refine (HI.out _).mono ?_; rintro e w3 ⟨rfl, h3⟩; rw [h3]; clear h3; have hat := True.intro)
    | (go_at_call 31; refine (H31.out _ c2).mono ?_; rintro e w3 ⟨g, cp, rfl, hG, b3, hg1, hg2⟩; have c3 := below_step c2 b3)
    | (go_at_call 33; refine (H33.out _ c3).mono ?_; rintro e w4 ⟨gs, cs, rfl, hR, b4, hs1, hs2⟩; have c4 := below_step c3 b4)
    | (go_at_call 32; refine (H32.out _ _ _ _ hR.out).mono ?_; rintro e w5 ⟨rfl, hR5, b5⟩; have hG5 : Hid (w5.ownsRow w2.heap.size 54 3 (.slice (some ⟨g, 0, none⟩) nf cp) nf (cellsL (nf * 3) (funC par loc bv))) := own_keep hG.out (Nat.le_refl _) ((b5.block g hg2).trans (b4.block g hg2)); obtain ⟨st1, st2⟩ := store_facts hG5.out hi))
  obtain ⟨P1, P2, P3, P4⟩ := put_body (i := i) (T := pickT n (without k) (body i)) (c := pickC (without k) c) (Nat.le_refl _) (c4.trans (b5.mono c3.size)) HS.out hG5.out (fun _ _ => rfl) hR5.out (by omega) (Nat.le_trans c2.size hg1) (HR.out.pick fun j hj => by rw [HM2.out, HM.out]; unfold without; split <;> omega) (by omega) (by show n ≤ 1000; have := HM.out; omega)
  have E2 : Hid (Calls Try.prog 24 #[.slice (some ⟨g, 0, none⟩) nf cp] (w5.setCell ⟨g, i * 3 + 2, none⟩ (.slice (some ⟨gs, 0, none⟩) n cs)) fun e w' => e = .returned (.int .i64 0) ∧ Below (w5.setCell ⟨g, i * 3 + 2, none⟩ (.slice (some ⟨gs, 0, none⟩) n cs)).heap.size (w5.setCell ⟨g, i * 3 + 2, none⟩ (.slice (some ⟨gs, 0, none⟩) n cs)) w') := by
    have h := check _ _ nf par loc _ (d + 1) _ _ (Nat.le_refl _) P2 P3
    rw [prog_other HP.out hi, body_without (by rw [HM2.out, HM.out]) (by have := HM.out; omega) ((progErr_zero HP.out).2.2.2 i hi)] at h
    exact h
  have Q1 : Hid ((w5.setCell ⟨g, i * 3 + 2, none⟩ (.slice (some ⟨gs, 0, none⟩) n cs)).ownsRow w2.heap.size 54 3 (.slice (some ⟨g, 0, none⟩) nf cp) nf (cellsL (nf * 3) (funC par loc (putV bv i (.slice (some ⟨gs, 0, none⟩) n cs))))) := P1
  have hgy : g < (w5.setCell ⟨g, i * 3 + 2, none⟩ (.slice (some ⟨gs, 0, none⟩) n cs)).heap.size := by
    rw [size_setCell]
    exact Nat.lt_of_lt_of_le hg2 (Nat.le_trans b4.size b5.size)
  have c5 : Below w.heap.size w (w5.setCell ⟨g, i * 3 + 2, none⟩ (.slice (some ⟨gs, 0, none⟩) n cs)) := P4
  have hwg : w.heap.size ≤ g := Nat.le_trans c2.size hg1
  clear P1 P2 P3 P4 hG hG5 hR hR5 st1 st2 H1 HI HK H31 H32 hl HL b2 b3 b4 b5 hs1 hs2
  generalize w5.setCell ⟨g, i * 3 + 2, none⟩ (.slice (some ⟨gs, 0, none⟩) n cs) = y at *
  go_upto_region 12 with (go_at_call 24; refine E2.out.mono ?_; rintro e W ⟨rfl, b7⟩)
  have c7 := below_step c5 b7
  have hgW : g < W.heap.size := Nat.lt_of_lt_of_le hgy b7.size
  have QW : Hid (W.ownsRow w2.heap.size 54 3 (.slice (some ⟨g, 0, none⟩) nf cp) nf (cellsL (nf * 3) (funC par loc (putV bv i (.slice (some ⟨gs, 0, none⟩) n cs))))) := own_keep Q1.out (Nat.le_refl _) (b7.block g hgy)
  have hk1 : (0 : Int) ≤ (k : Int) := by omega
  have hk2 : (k : Int) < (m : Int) := by omega
  have HA : Hid (∀ (g cp : Nat) (w8 : World), w8.ownsRow W.heap.size 58 6 (.slice (some ⟨g, 0, none⟩) m cp) m (cellsL (m * 6) c) → Below W.heap.size W w8 → g < w8.heap.size → Calls Try.prog 34 #[.slice (some ⟨g, 0, none⟩) m cp, .int .i64 k, .slice (some ⟨w8.heap.size, 0, none⟩) 1 1] (w8.alloc (.cells (lone k c) 58)) (Inserted W m k c)) := ins_A W m k c HO.out hk (by omega)
  have HB : Hid (∀ (g cp base : Nat) (w8 : World), w8.ownsRow base 58 6 (.slice (some ⟨g, 0, none⟩) m cp) m (cellsL (m * 6) c) → Below (W.drew.alloc (.cells (lone k c) 58)).heap.size (W.drew.alloc (.cells (lone k c) 58)) w8 → (W.drew.alloc (.cells (lone k c) 58)).heap.size ≤ base → base ≤ g → Calls Try.prog 34 #[.slice (some ⟨g, 0, none⟩) m cp, .int .i64 k, .slice (some ⟨W.heap.size, 0, none⟩) 1 1] w8 (Inserted W m k c)) := ins_B W m k c HO.out hk (by omega)
  clear E2 Q1 hgy b7 c5 c3 c4
  go_region_held3 (fun w' => w'.cell? ⟨b, o + k * 6, none⟩ = some (c (k * 6)) ∧ w'.cell? ⟨b, o + k * 6 + 1, none⟩ = some (c (k * 6 + 1)) ∧ w'.cell? ⟨b, o + k * 6 + 2, none⟩ = some (c (k * 6 + 2)) ∧ w'.cell? ⟨b, o + k * 6 + 3, none⟩ = some (c (k * 6 + 3)) ∧ w'.cell? ⟨b, o + k * 6 + 4, none⟩ = some (c (k * 6 + 4)) ∧ w'.cell? ⟨b, o + k * 6 + 5, none⟩ = some (c (k * 6 + 5)) ∧ Below w.heap.size w w')
    (first
      | exact keepSix hb HC.out hk c7.drew
      | exact keepSix hb HC.out hk c8
      | exact keepSix hb HC.out hk (Below.alloc c8 c8.size _)
      | exact keepSix hb HC.out hk (Below.alloc (c7.drew) c7.size _)
      | exact keepSix hb HC.out hk c9
      | exact keepSix hb HC.out hk (Below.setCell c9 hwg _))
    (first
      | (go_at_call 33; refine (H33.out _ c7.drew).mono ?_; rintro e w8 ⟨g8, cp8, rfl, hR8, b8, hg8, hl8⟩; have c8 : Below w.heap.size w w8 := c7.drew.trans (b8.mono c7.size); have hA := True.intro)
      | (go_at_call 33; refine (H33.out _ (Below.alloc (c7.drew) c7.size _)).mono ?_; rintro e w8 ⟨g8, cp8, rfl, hR8, b8, hg8, hl8⟩; have c8 : Below w.heap.size w w8 := (Below.alloc (c7.drew) c7.size _).trans (b8.mono (Below.alloc (c7.drew) c7.size _).size); have hB := True.intro)
      | (go_at_call 34; have _ := hA; refine (HA.out _ _ _ hR8.out ((Below.refl W.heap.size W).drew.trans b8) hl8).mono ?_; rintro e w9 ⟨g9, cp9, rfl, hR9, b9, hg9⟩; have c9 : Below w.heap.size w w9 := c7.trans (b9.mono c7.size); have hG9 : Hid (w9.ownsRow w2.heap.size 54 3 (.slice (some ⟨g, 0, none⟩) nf cp) nf (cellsL (nf * 3) (funC par loc (putV bv i (.slice (some ⟨gs, 0, none⟩) n cs))))) := own_keep QW.out (Nat.le_refl _) (b9.block g hgW); obtain ⟨st1, st2⟩ := store_facts hG9.out hi)
      | (go_at_call 34; have _ := hB; refine (HB.out _ _ _ _ hR8.out b8 (Nat.le_refl _) hg8).mono ?_; rintro e w9 ⟨g9, cp9, rfl, hR9, b9, hg9⟩; have c9 : Below w.heap.size w w9 := c7.trans (b9.mono c7.size); have hG9 : Hid (w9.ownsRow w2.heap.size 54 3 (.slice (some ⟨g, 0, none⟩) nf cp) nf (cellsL (nf * 3) (funC par loc (putV bv i (.slice (some ⟨gs, 0, none⟩) n cs))))) := own_keep QW.out (Nat.le_refl _) (b9.block g hgW); obtain ⟨st1, st2⟩ := store_facts hG9.out hi))
  all_goals
    obtain ⟨_, P2, P3, P4⟩ := put_body (i := i) (T := pickT (m + 1) (doubled k) (body i)) (c := pickC (doubled k) c) (Nat.le_refl _) c9 HS.out hG9.out (fun j hj => by unfold putV; rw [if_neg hj]) hR9.out (by omega) hwg (HR.out.pick fun j hj => by rw [HM2.out]; unfold doubled; split <;> omega) (by omega) (by show m + 1 ≤ 1000; omega)
    have E3 : Hid (∃ x : Int, (x = 0 ∨ x = 2) ∧ Calls Try.prog 24 #[.slice (some ⟨g, 0, none⟩) nf cp] (w9.setCell ⟨g, i * 3 + 2, none⟩ (.slice (some ⟨g9, 0, none⟩) (m + 1) cp9)) fun e w' => e = .returned (.int .i64 x) ∧ Below (w9.setCell ⟨g, i * 3 + 2, none⟩ (.slice (some ⟨g9, 0, none⟩) (m + 1) cp9)).heap.size (w9.setCell ⟨g, i * 3 + 2, none⟩ (.slice (some ⟨g9, 0, none⟩) (m + 1) cp9)) w') := by
      have h := check _ _ nf par loc _ (d + 1) _ _ (Nat.le_refl _) P2 P3
      rw [prog_other HP.out hi] at h
      exact ⟨_, body_doubled HM2.out hk ((progErr_zero HP.out).2.2.2 i hi), h⟩
    have cz : Below w.heap.size w (w9.setCell ⟨g, i * 3 + 2, none⟩ (.slice (some ⟨g9, 0, none⟩) (m + 1) cp9)) := P4
    clear P2 P3 P4 hG9 hR9 st1 st2 HA HB hR8 b8 H33 QW c9 c8
    generalize w9.setCell ⟨g, i * 3 + 2, none⟩ (.slice (some ⟨g9, 0, none⟩) (m + 1) cp9) = z at *
    obtain ⟨x, hx, E4⟩ := E3.out
    have HE4 : Hid (Calls Try.prog 24 #[.slice (some ⟨g, 0, none⟩) nf cp] z fun e w' => e = .returned (.int .i64 x) ∧ Below z.heap.size z w') := E4
    clear E3 E4
    rcases hx with rfl | rfl
    · go_wp2_with (go_at_call 24; refine HE4.out.mono ?_; rintro e wz ⟨rfl, bz⟩)
      go_ret
      exact ⟨rfl, below_step cz bz⟩
    · go_wp2_with (go_at_call 24; refine HE4.out.mono ?_; rintro e wz ⟨rfl, bz⟩)
      go_ret
      exact ⟨rfl, below_step cz bz⟩

/-- SourceParts, whatever the program and the numbers. -/
theorem srcParts (d : Nat) (f : Value) (i0 k0 : Int) (nf : Nat) (par loc : Nat → Int) (bv : Nat → Value) (body : Nat → SL) (w : World) (hf : FunsAt w.heap.size w f nf par loc bv) (hs : ∀ j, j < nf → StmtsAt w.heap.size w (d + 1) (bv j) (body j)) :
    Calls Try.prog 8 #[f, .int .i64 i0, .int .i64 k0] w fun e w' => e = .returned (.bool true) ∧ Below w.heap.size w w' := by
  by_cases hp : progErr nf par loc (d + 1) body = 0
  · obtain ⟨hn1, hn4, _, hbody⟩ := progErr_zero hp
    obtain ⟨i, hi, Hi⟩ := atOf2 i0 nf hn1 (by omega)
    by_cases h0 : (body i).len = 0
    · exact parts_none d f i0 k0 nf par loc bv body w hf hs hp i hi Hi h0
    · have h30 : (body i).len ≤ 30 := by
        have h1 := hbody i hi
        unfold bodyErr at h1
        by_cases hsz : (wk look1 (d + 1) (body i) 1 0).1 = 0
        · have h2 := (wk1_iff.1 hsz).2
          have h3 := size_len d (body i)
          omega
        · rw [if_neg hsz] at h1; cases h1
      obtain ⟨k, hk, Hk⟩ := atOf2 k0 (body i).len (by omega) (by omega)
      exact parts_good d f i0 k0 nf par loc bv body w hf hs hp i hi Hi (body i).len ((body i).len - 1) rfl (by omega) k hk Hk
  · exact parts_bad d f i0 k0 nf par loc bv body w hf hs hp

end Go.Proofs.Ytmhdiloejcdkcaa
