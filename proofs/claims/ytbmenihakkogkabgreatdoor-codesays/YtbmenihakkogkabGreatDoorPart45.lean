import Derived.Test.YtbmenihakkogkabGreatDoorPart30
import Derived.Test.YtbmenihakkogkabGreatDoorPart13
import Derived.Test.YtbmenihakkogkabGreatDoorPart3
import Derived.Test.YtbmenihakkogkabGreatDoorRefCode
namespace Go.Proofs.YtbmenihakkogkabGreatDoor
open Go.RowKit Go.Maps
def pz : Nat → Array Value
  | 1 => #[.int .i64 0, .int .i64 0, .slice none 0 0]
  | 2 => #[.int .i64 0, .int .i64 0, .slice none 0 0, .int .i64 0, .int .i64 0, .slice none 0 0]
  | 3 => #[.int .i64 0, .int .i64 0, .slice none 0 0, .int .i64 0, .int .i64 0, .slice none 0 0, .int .i64 0, .int .i64 0, .slice none 0 0]
  | 4 => #[.int .i64 0, .int .i64 0, .slice none 0 0, .int .i64 0, .int .i64 0, .slice none 0 0, .int .i64 0, .int .i64 0, .slice none 0 0, .int .i64 0, .int .i64 0, .slice none 0 0]
  | _ => #[]
theorem mkProcs (n : Nat) (h1 : 1 ≤ n) (h4 : n ≤ 4) (w : World) : Sem.run Tryz.prog (Instr.makeSlice 33 (.int .i64 n) (.int .i64 n)) w = .ok (.slice (some ⟨w.heap.size, 0, none⟩) n n) (w.alloc (.cells (pz n) 40)) := by
  rcases (show n = 1 ∨ n = 2 ∨ n = 3 ∨ n = 4 by omega) with rfl | rfl | rfl | rfl <;> kernel_rfl
theorem pz_size {n : Nat} (h1 : 1 ≤ n) (h4 : n ≤ 4) : (pz n).size = n * 3 := by
  rcases (show n = 1 ∨ n = 2 ∨ n = 3 ∨ n = 4 by omega) with rfl | rfl | rfl | rfl <;> rfl
def PcOk (par loc : Nat → Int) (d : Nat) (body : Nat → SL) (w : World) (j : Nat) (regs : Nat) (cv : Value) (ls : List (List Int)) : Prop :=
  ∃ once : Bool, CodeHeap w cv ls.length (fun k => insOf (ls.getD k [])) ∧ und regs ls ∧ regs ≤ (loc j).toNat + 17 ∧ LayR par once (loc j).toNat d (body j) ls ∧ ls.length ≤ 2000
def CompI (nf : Nat) (par loc : Nat → Int) (d : Nat) (body : Nat → SL) (Pb j : Nat) (w w' : World) : Prop :=
  Below w.heap.size w w' ∧ w.heap.size ≤ Pb ∧ ∃ cur : Array Value, w'.heap[Pb]? = some (.cells cur 40 (0, 0)) ∧ cur.size = nf * 3 ∧ ∀ i, i < j → ∃ regs cv ls, cur[i * 3]? = some (.int .i64 (par i)) ∧ cur[i * 3 + 1]? = some (.int .i64 (regs : Nat)) ∧ cur[i * 3 + 2]? = some cv ∧ PcOk par loc d body w' i regs cv ls
theorem CompI.of {nf : Nat} {par loc : Nat → Int} {d : Nat} {body : Nat → SL} {Pb j : Nat} {w w1 w2 : World} (h : CompI nf par loc d body Pb j w w1) (hb : Below w1.heap.size w1 w2) : CompI nf par loc d body Pb j w w2 := by
  obtain ⟨h1, h2, cur, h3, h4, h5⟩ := h
  refine ⟨h1.trans (hb.mono h1.size), h2, cur, by rw [hb.block Pb (Array.getElem?_eq_some_iff.1 h3).1]; exact h3, h4, fun i hi => ?_⟩
  obtain ⟨regs, cv, ls, c0, c1, c2, once, g1, g2⟩ := h5 i hi
  exact ⟨regs, cv, ls, c0, c1, c2, once, g1.stay (Keeps.of hb) (Keeps.of hb), g2⟩
theorem CompI.next {nf : Nat} {par loc : Nat → Int} {d : Nat} {body : Nat → SL} {Pb j : Nat} {w w1 w2 : World} (h : CompI nf par loc d body Pb j w w1) (hj : j < nf) {regs : Nat} {cv : Value} (hc : CfP par (loc j).toNat d (body j) w1 w2 regs cv) : CompI nf par loc d body Pb (j + 1) w (((w2.setCell ⟨Pb, j * 3, none⟩ (.int .i64 (par j))).setCell ⟨Pb, j * 3 + 1, none⟩ (.int .i64 regs)).setCell ⟨Pb, j * 3 + 2, none⟩ cv) := by
  obtain ⟨items, once, b1, f2, f3, f4, f5, f6⟩ := hc
  obtain ⟨h1, h2, cur, h3, h4, h5⟩ := h.of b1
  have e0 := heap_setCell_same w2 Pb (j * 3) _ _ (.int .i64 (par j)) h3
  have e1 := heap_setCell_same _ Pb (j * 3 + 1) _ _ (.int .i64 regs) e0
  have e2 := heap_setCell_same _ Pb (j * 3 + 2) _ _ cv e1
  have kI : Keeps 106 w2 (((w2.setCell ⟨Pb, j * 3, none⟩ (.int .i64 (par j))).setCell ⟨Pb, j * 3 + 1, none⟩ (.int .i64 regs)).setCell ⟨Pb, j * 3 + 2, none⟩ cv) := ((Keeps.set h3 _ (by decide)).trans (Keeps.set e0 _ (by decide))).trans (Keeps.set e1 _ (by decide))
  have k3 : Keeps 3 w2 (((w2.setCell ⟨Pb, j * 3, none⟩ (.int .i64 (par j))).setCell ⟨Pb, j * 3 + 1, none⟩ (.int .i64 regs)).setCell ⟨Pb, j * 3 + 2, none⟩ cv) := ((Keeps.set h3 _ (by decide)).trans (Keeps.set e0 _ (by decide))).trans (Keeps.set e1 _ (by decide))
  refine ⟨((h1.setCell h2 _).setCell h2 _).setCell h2 _, h2, _, e2, by simp [h4], fun i hi => ?_⟩
  by_cases hij : i = j
  · subst hij
    have hci := f2.heap (by omega)
    refine ⟨regs, cv, items.map (·.1), ?_, ?_, ?_, once, ?_, f3, f4, f5, by rw [List.length_map]; exact f6⟩
    · rw [Array.getElem?_setIfInBounds_ne (by omega), Array.getElem?_setIfInBounds_ne (by omega), Array.getElem?_setIfInBounds_self_of_lt (by omega)]
    · rw [Array.getElem?_setIfInBounds_ne (by omega), Array.getElem?_setIfInBounds_self_of_lt (by simp; omega)]
    · rw [Array.getElem?_setIfInBounds_self_of_lt (by simp; omega)]
    · rw [List.length_map]
      exact hci.stay kI k3
  · obtain ⟨regs', cv', ls, c0, c1, c2, once', g1, g2⟩ := h5 i (by omega)
    refine ⟨regs', cv', ls, ?_, ?_, ?_, once', g1.stay kI k3, g2⟩
    · rw [Array.getElem?_setIfInBounds_ne (by omega), Array.getElem?_setIfInBounds_ne (by omega), Array.getElem?_setIfInBounds_ne (by omega)]; exact c0
    · rw [Array.getElem?_setIfInBounds_ne (by omega), Array.getElem?_setIfInBounds_ne (by omega), Array.getElem?_setIfInBounds_ne (by omega)]; exact c1
    · rw [Array.getElem?_setIfInBounds_ne (by omega), Array.getElem?_setIfInBounds_ne (by omega), Array.getElem?_setIfInBounds_ne (by omega)]; exact c2
def CompP (nf : Nat) (par : Nat → Int) (v : Value) (w w' : World) : Prop :=
  Below w.heap.size w w' ∧ ∃ P : Nat → Pc, ProcsAt w'.heap.size w' v nf P ∧ codeErr nf P = 0 ∧ opsFit nf P ∧ ∀ i, i < nf → (P i).params = par i
theorem CompI.fin {nf : Nat} {par loc : Nat → Int} {d : Nat} {body : Nat → SL} {Pb : Nat} {w w' : World} (h : CompI nf par loc d body Pb nf w w') (hp : progErr nf par loc d body = 0) : CompP nf par (.slice (some ⟨Pb, 0, none⟩) nf nf) w w' := by
  obtain ⟨h1, h2, cur, h3, h4, h5⟩ := h
  obtain ⟨n1, n4, hh, hb⟩ := prog_zero hp
  refine ⟨h1, ?_⟩
  have hc : ∀ i, ∃ (regs : Nat) (cv : Value) (ls : List (List Int)), i < nf → cur[i * 3]? = some (.int .i64 (par i)) ∧ cur[i * 3 + 1]? = some (.int .i64 regs) ∧ cur[i * 3 + 2]? = some cv ∧ PcOk par loc d body w' i regs cv ls := fun i => by
    by_cases hi : i < nf
    · obtain ⟨regs, cv, ls, h⟩ := h5 i hi
      exact ⟨regs, cv, ls, fun _ => h⟩
    · exact ⟨0, .slice none 0 0, [], fun h => absurd h hi⟩
  obtain ⟨R, hc⟩ := Classical.axiomOfChoice hc
  obtain ⟨CV, hc⟩ := Classical.axiomOfChoice hc
  obtain ⟨LS, hc⟩ := Classical.axiomOfChoice hc
  have hpar : ∀ i, i < nf → 0 ≤ par i := fun i hi => (headErr_good (hh i hi)).1
  have hgood : ∀ i, i < nf → bodyCErr nf par ⟨par i, R i, (LS i).length, fun k => insOf ((LS i).getD k [])⟩ = 0 ∧ 2 ≤ (LS i).length ∧ (loc i).toNat + 1 ≤ R i := fun i hi => by
    obtain ⟨_, _, _, once, g1, g2, g3, g4, g5⟩ := hc i hi
    obtain ⟨l1, l2, l3, l4, _⟩ := headErr_good (hh i hi)
    have e : (((loc i).toNat : Nat) : Int) = loc i := by omega
    have := g4.right (nf := nf) (by rw [e]; exact (bodyErr_errs (hb i hi)).2) hpar g2
    exact ⟨this.1, this.2.1, this.2.2.2⟩
  have hce : codeErr nf (fun i => ⟨par i, R i, (LS i).length, fun k => insOf ((LS i).getD k [])⟩) = 0 := by
    refine code_right n1 n4 (fun j hj => ?_) ?_ (fun j hj => (hgood j hj).1)
    · obtain ⟨_, _, _, once, g1, g2, g3, g4, g5⟩ := hc j hj
      obtain ⟨l1, l2, l3, l4, _⟩ := headErr_good (hh j hj)
      have h1 := hgood j hj
      refine ⟨l1, l2, ?_, ?_, ?_, ?_, g5⟩
      · show par j ≤ (R j : Int); omega
      · show (1 : Int) ≤ (R j : Int); omega
      · show (R j : Int) ≤ 40; omega
      · show 1 ≤ (LS j).length; omega
    · obtain ⟨l1, l2, l3, l4, l5⟩ := headErr_good (hh 0 (by omega))
      have := l5 rfl
      show par 0 = 0
      omega
  refine ⟨fun i => ⟨par i, R i, (LS i).length, fun k => insOf ((LS i).getD k [])⟩, ⟨_, nf, rfl, by omega, Or.inr ⟨Pb, 0, rfl, (Array.getElem?_eq_some_iff.1 h3).1, fun i hi => ?_⟩⟩, hce, fun j hj k hk => ?_, fun i _ => rfl⟩
  · obtain ⟨c0, c1, c2, once, g1, _⟩ := hc i hi
    refine ⟨CV i, ?_, ?_, ?_, g1.code⟩
    · unfold World.cell?; rw [h3, Nat.zero_add]; exact c0
    · unfold World.cell?; rw [h3, Nat.zero_add]; exact c1
    · unfold World.cell?; rw [h3, Nat.zero_add]; exact c2
  · have h1 := (hgood j hj).1
    unfold bodyCErr at h1
    split at h1
    · next h2 =>
      have := firstErr_is_zero h2 k hk
      have := (good_iff.1 this).1
      rw [fromB_iffC] at this
      have e : (Lit.int .i64 (insOf ((LS j).getD k [])).op).wf = true := by
        have hmin : IntKind.i64.min ≤ 1 := by decide
        have hmax : (13 : Int) ≤ IntKind.i64.max := by decide
        simp only [Lit.wf, Bool.and_eq_true, decide_eq_true_eq]
        exact ⟨Int.le_trans hmin this.1, Int.le_trans this.2 hmax⟩
      exact e
    · next h2 => exact absurd h1 h2
set_option maxRecDepth 20000 in
set_option maxHeartbeats 4000000 in
theorem compile (N : Nat) (f : Value) (nf : Nat) (par loc : Nat → Int) (bv : Nat → Value) (d : Nat) (body : Nat → SL) (w : World) (hN : N ≤ w.heap.size) (hf : FunsAt N w f nf par loc bv) (hs : ∀ i, i < nf → StmtsAt N w d (bv i) (body i)) :
    Calls Tryz.prog 14 #[f] w fun e w' => ∃ (a : Option Addr) (n c : Nat), e = .returned (.tuple #[.slice a n c, .int .i64 (progErr nf par loc d body)]) ∧ Hid (Below w.heap.size w w') ∧ Hid (¬ progErr nf par loc d body = 0 → n = 0) ∧ Hid (progErr nf par loc d body = 0 → n = nf ∧ CompP nf par (.slice a n c) w w') := by
  have hff := hf
  obtain ⟨fa, fcap, rfl, hn, hfr⟩ := hff
  have HC : Hid (Calls Tryz.prog 37 #[.slice fa nf fcap] w fun e w' => e = .returned (.int .i64 (progErr nf par loc d body)) ∧ Below w.heap.size w w') := check N _ nf par loc bv d body w hN hf hs
  by_cases hp : progErr nf par loc d body = 0
  · have HP : Hid (progErr nf par loc d body = 0) := hp
    obtain ⟨n1, n4, hh, hb⟩ := prog_zero hp
    rw [hp] at HC ⊢
    have hmk := mkProcs nf n1 n4
    have HFun : Hid (∀ (wi : World) (j : Nat) (vb : Value), j < nf → Below w.heap.size w wi → StmtsAt N wi d vb (body j) → Calls Tryz.prog 60 #[.agg #[.int .i64 (par j), .int .i64 (loc j), vb], .slice fa nf fcap] wi fun e w' => ∃ (regs : Nat) (ad : Option Addr) (n cap : Nat), e = .returned (.agg #[.int .i64 (par j), .int .i64 regs, .slice ad n cap]) ∧ Hid (CfP par (loc j).toNat d (body j) wi w' regs (.slice ad n cap))) := fun wi j vb hj hbw hst => by
      obtain ⟨l1, l2, l3, l4, _⟩ := headErr_good (hh j hj)
      have e : (((loc j).toNat : Nat) : Int) = loc j := by omega
      obtain ⟨so, er⟩ := bodyErr_errs (hb j hj)
      have := dcompileFun N (.slice fa nf fcap) nf par loc bv (par j) (loc j).toNat d (body j) vb wi (Nat.le_trans hN hbw.size) (hf.below (hbw.mono hN)) hst (fun i hi => ⟨(headErr_good (hh i hi)).1, (headErr_good (hh i hi)).2.1⟩) (by omega) (by rw [e]; exact er) so.2
      rw [e] at this
      exact this
    have HI0 : Hid (∀ w1, Below w.heap.size w w1 → CompI nf par loc d body w1.heap.size 0 w (w1.alloc (.cells (pz nf) 40))) := fun w1 hb1 => ⟨hb1.trans ((bal w1 _).mono hb1.size), hb1.size, pz nf, heap_alloc_new w1 _, pz_size n1 n4, fun i hi => absurd hi (by omega)⟩
    have HIa : Hid (∀ (Pb j : Nat) (w1 : World) (o : Obj), CompI nf par loc d body Pb j w w1 → CompI nf par loc d body Pb j w (w1.alloc o)) := fun Pb j w1 o h => h.of (bal w1 o)
    have HIc : Hid (∀ (Pb j : Nat) (w1 w2 : World) (regs : Nat) (cv : Value), j < nf → CompI nf par loc d body Pb j w w1 → CfP par (loc j).toNat d (body j) w1 w2 regs cv → (∃ u, w2.cell? ⟨Pb, j * 3, none⟩ = some u) ∧ (∃ u, w2.cell? ⟨Pb, j * 3 + 1, none⟩ = some u) ∧ (∃ u, w2.cell? ⟨Pb, j * 3 + 2, none⟩ = some u) ∧ ∀ i, w2.frozen? ⟨Pb, i, none⟩ = false) := fun Pb j w1 w2 regs cv hj h hc => by
      obtain ⟨_, _, b1, _⟩ := hc
      obtain ⟨_, _, cur, h3, h4, _⟩ := h.of b1
      have g : ∀ i, i < nf * 3 → ∃ u, w2.cell? ⟨Pb, i, none⟩ = some u := fun i hi => ⟨cur[i]'(by rw [h4]; exact hi), by unfold World.cell?; rw [h3]; exact Array.getElem?_eq_getElem _⟩
      exact ⟨g _ (by omega), g _ (by omega), g _ (by omega), fun i => (by unfold World.frozen?; rw [h3]; simp)⟩
    have HIn : Hid (∀ (Pb j : Nat) (w1 w2 : World) (regs : Nat) (cv : Value), j < nf → CompI nf par loc d body Pb j w w1 → CfP par (loc j).toNat d (body j) w1 w2 regs cv → CompI nf par loc d body Pb (j + 1) w (((w2.setCell ⟨Pb, j * 3, none⟩ (.int .i64 (par j))).setCell ⟨Pb, j * 3 + 1, none⟩ (.int .i64 regs)).setCell ⟨Pb, j * 3 + 2, none⟩ cv)) := fun Pb j w1 w2 regs cv hj h hc => h.next hj hc
    have HIe : Hid (∀ (Pb : Nat) (w1 : World), CompI nf par loc d body Pb nf w w1 → Below w.heap.size w w1 ∧ CompP nf par (.slice (some ⟨Pb, 0, none⟩) nf nf) w w1) := fun Pb w1 h => ⟨h.1, h.fin hp⟩
    have HDr : Hid (∀ (Pb j : Nat) (w1 : World), CompI nf par loc d body Pb j w w1 → CompI nf par loc d body Pb j w w1.drew) := fun Pb j w1 h => h.of ((Below.refl _ _).drew)
    have HSt : Hid (∀ j, j < nf → StmtsAt N w d (bv j) (body j)) := hs
    clear hh hb hp hs hf
    go_enter Tryz.func14, Tryz.ntmps14
    go_wp2_with (first
      | (go_at_call 37; refine HC.out.mono ?_; rintro e w1 ⟨rfl, B1⟩))
    have HP0 : Hid (CompI nf par loc d body w1.heap.size 0 w (w1.alloc (.cells (pz nf) 40))) := HI0.out w1 B1
    have hPb := B1.size
    generalize w1.heap.size = Pb at *
    generalize w1.alloc (.cells (pz nf) 40) = W0 at *
    go_loopw [18] (fun i wr => ∃ j : Nat, j ≤ nf ∧ i = .int .i64 j ∧ Hid (CompI nf par loc d body Pb j w wr)) (fun i _ => nf - (intOf i).toNat)
    case atStart => exact ⟨0, Nat.zero_le _, rfl, HP0⟩
    case round =>
      obtain ⟨j, hj, rfl, HI⟩ := hrel
      by_cases hlt : j < nf
      · rcases hfr with h | ⟨b, o, rfl, hbN, g⟩
        · omega
        obtain ⟨q0, q1, q2, ab, mb, cb, ebv⟩ := g j hlt
        have hst := HSt.out j hlt
        rw [ebv] at q2 hst
        have hbw : Below w.heap.size w wr := HI.out.1
        have hbN' := hbw.mono hN
        rw [← hbN'.cell hbN] at q0 q1 q2
        have hz := hbw.size
        have hbl : b < wr.heap.size := by omega
        have HC2 := HFun.out (wr.alloc (.cells #[.int .i64 (par j), .int .i64 (loc j), .slice ab mb cb] 43)) j (.slice ab mb cb) hlt (hbw.trans ((bal wr _).mono hz)) (hst.below (hbN'.trans ((bal wr _).mono (by omega))))
        have HC2 : Hid (Calls Tryz.prog 60 #[.agg #[.int .i64 (par j), .int .i64 (loc j), .slice ab mb cb], .slice (some ⟨b, o, none⟩) nf fcap] (wr.alloc (.cells #[.int .i64 (par j), .int .i64 (loc j), .slice ab mb cb] 43)) fun e w' => ∃ (regs : Nat) (ad : Option Addr) (n cap : Nat), e = .returned (.agg #[.int .i64 (par j), .int .i64 regs, .slice ad n cap]) ∧ Hid (CfP par (loc j).toNat d (body j) (wr.alloc (.cells #[.int .i64 (par j), .int .i64 (loc j), .slice ab mb cb] 43)) w' regs (.slice ad n cap))) := HC2
        have HIA := HIa.out Pb j wr (.cells #[.int .i64 (par j), .int .i64 (loc j), .slice ab mb cb] 43) HI.out
        have HIA : Hid (CompI nf par loc d body Pb j w (wr.alloc (.cells #[.int .i64 (par j), .int .i64 (loc j), .slice ab mb cb] 43))) := HIA
        have hlt' : (j : Int) < (nf : Int) := by omega
        have hj0 : (0 : Int) ≤ (j : Int) := by omega
        have hwj : IntKind.i64.wrap ((j : Int) + 1) = (j : Int) + 1 := Go.IntWalk.i64_in _ (by omega)
        clear g hst hmk
        go_wp2_with (first
          | (go_at_call 60; refine HC2.out.mono ?_; rintro e w2 ⟨regs, ad, n2, cap2, rfl, C2⟩; obtain ⟨⟨u0, v0⟩, ⟨u1, v1⟩, ⟨u2, v2⟩, fz⟩ := HIc.out Pb j _ w2 regs _ hlt HIA.out C2.out))
        go_round
        case rel => exact ⟨j + 1, by omega, rfl, HIn.out Pb j _ w2 regs _ hlt HIA.out C2.out⟩
        case measure => simp [intOf]; omega
      · have ej : j = nf := by omega
        subst ej
        go_wp2_with fail
        go_ret2
        exact ⟨_, _, _, rfl, (HIe.out Pb wr HI.out).1, (fun h => absurd trivial h), fun _ => ⟨rfl, (HIe.out Pb wr HI.out).2⟩⟩
  · have hpt : (progErr nf par loc d body != 0) = true := by simp [hp]
    have HPn : Hid (¬ progErr nf par loc d body = 0) := hp
    clear hp hf hs hfr
    go_enter Tryz.func14, Tryz.ntmps14
    go_wp2_with (first
      | (go_at_call 37; refine HC.out.mono ?_; rintro e w1 ⟨rfl, B1⟩))
    go_ret2
    exact ⟨none, 0, 0, rfl, B1, fun _ => rfl, fun h => absurd h HPn.out⟩
end Go.Proofs.YtbmenihakkogkabGreatDoor
