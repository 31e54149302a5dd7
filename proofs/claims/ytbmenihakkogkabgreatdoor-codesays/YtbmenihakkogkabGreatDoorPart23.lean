import Derived.Test.YtbmenihakkogkabGreatDoorPart22
import Derived.Deep.RegionHeld3
import Derived.Test.YtbmenihakkogkabGreatDoorChecked
import Derived.Shelf.Slices.Clone
namespace Go.Proofs.YtbmenihakkogkabGreatDoor
open Go.RowKit Go.Maps
theorem DV.code {c : DC} {w : World} {cl : Bool} {items : List (List Int × Value)} (h : DV c w cl items) : ∃ ad cap, w.cell? ⟨c.X, 44, none⟩ = some (.slice ad items.length cap) := by
  obtain ⟨_, _, cv, ⟨cur, h0, h1, h2, h3, h4, h5, h6, h7⟩, g, _⟩ := h
  obtain ⟨ad, cap, rfl⟩ := own_shape g.1
  exact ⟨ad, cap, by unfold World.cell?; rw [h0]; exact h7⟩
theorem three_allocs (w : World) (o1 o2 o3 : Obj) : Below w.heap.size w (((w.alloc o1).alloc o2).alloc o3) ∧ (((w.alloc o1).alloc o2).alloc o3).heap[w.heap.size]? = some o1 ∧ (((w.alloc o1).alloc o2).alloc o3).heap[w.heap.size + 1 + 1]? = some o3 := by
  have e1 : (w.alloc o1).heap.size = w.heap.size + 1 := by simp
  have e2 : ((w.alloc o1).alloc o2).heap.size = w.heap.size + 1 + 1 := by simp
  refine ⟨bst (bst (bal w o1) (bal _ o2)) (bal _ o3), ?_, ?_⟩
  · rw [(bal _ o3).block _ (by omega), (bal _ o2).block _ (by omega)]
    exact heap_alloc_new w o1
  · have := heap_alloc_new ((w.alloc o1).alloc o2) o3
    rw [e2] at this
    exact this
def JumpP (c : DC) (cl : Bool) (items : List (List Int × Value)) (op : Int) (A D P : Nat) (w w' : World) : Prop :=
  DFr c.X c.C w w' ∧ DV c w' cl (items ++ [([op, (A : Int), 0, 0], .slice none 0 0)]) ∧ LandAt c D P items.length w'
set_option maxRecDepth 20000 in
set_option maxHeartbeats 4000000 in
theorem djump (c : DC) (cl : Bool) (items : List (List Int × Value)) (op : Int) (A : Nat) (w : World) (hD : DV c w cl items) (hop : op = 12 ∨ op = 13) (hA : A < c.vars + 17) (hil : items.length ≤ 100000) :
    Calls Tryz.prog 244 #[.pointer (some ⟨c.X, 0, none⟩), .agg #[.int .i64 op, .int .i64 A, .int .i64 0, .int .i64 0, .slice none 0 0]] w fun e w' => ∃ D P, e = .returned (.func (.func 248) #[] #[.pointer (some ⟨D, 0, none⟩), .pointer (some ⟨P, 0, none⟩)]) ∧ Hid (JumpP c cl items op A D P w w') := by
  obtain ⟨ad, cap, k44⟩ := hD.code
  have hx := hD.xlt
  have HC : Hid (∀ wi, Below w.heap.size w wi → Calls Tryz.prog 171 #[.pointer (some ⟨c.X, 0, none⟩), .agg #[.int .i64 op, .int .i64 A, .int .i64 0, .int .i64 0, .slice none 0 0]] wi fun e w' => (∃ v, e = .returned v) ∧ Hid (DFr c.X c.C wi w') ∧ Hid (DV c w' (cl && !isC op) (items ++ [([op, (A : Int), 0, 0], .slice none 0 0)]))) := fun wi hb =>
    dadd c cl items [op, (A : Int), 0, 0] op 0 0 A none 0 0 wi (hD.of hb) ⟨rfl, rfl, rfl, rfl⟩ ⟨none, 0, rfl, by simp, Or.inl rfl⟩ hil hA (fun h => by omega)
  have HD : Hid (DV c w cl items) := hD
  have HO : Hid (op = 12 ∨ op = 13) := hop
  clear hD hop
  obtain ⟨W1, W2, W3⟩ := three_allocs w (.cells #[.pointer (some ⟨c.X, 0, none⟩)] 170) (.cells #[.int .i64 op, .int .i64 A, .int .i64 0, .int .i64 0, .slice none 0 0] 106) (.cells #[.int .i64 (items.length : Int)] 3)
  have HW : Hid (LandAt c w.heap.size (w.heap.size + 1 + 1) items.length (((w.alloc (.cells #[.pointer (some ⟨c.X, 0, none⟩)] 170)).alloc (.cells #[.int .i64 op, .int .i64 A, .int .i64 0, .int .i64 0, .slice none 0 0] 106)).alloc (.cells #[.int .i64 (items.length : Int)] 3))) := ⟨W2, W3⟩
  have HB : Hid (Below w.heap.size w (((w.alloc (.cells #[.pointer (some ⟨c.X, 0, none⟩)] 170)).alloc (.cells #[.int .i64 op, .int .i64 A, .int .i64 0, .int .i64 0, .slice none 0 0] 106)).alloc (.cells #[.int .i64 (items.length : Int)] 3))) := W1
  have HC1 := HC.out _ W1
  have HC1 : Hid (Calls Tryz.prog 171 #[.pointer (some ⟨c.X, 0, none⟩), .agg #[.int .i64 op, .int .i64 A, .int .i64 0, .int .i64 0, .slice none 0 0]] (((w.alloc (.cells #[.pointer (some ⟨c.X, 0, none⟩)] 170)).alloc (.cells #[.int .i64 op, .int .i64 A, .int .i64 0, .int .i64 0, .slice none 0 0] 106)).alloc (.cells #[.int .i64 (items.length : Int)] 3)) fun e w' => (∃ v, e = .returned v) ∧ Hid (DFr c.X c.C (((w.alloc (.cells #[.pointer (some ⟨c.X, 0, none⟩)] 170)).alloc (.cells #[.int .i64 op, .int .i64 A, .int .i64 0, .int .i64 0, .slice none 0 0] 106)).alloc (.cells #[.int .i64 (items.length : Int)] 3)) w') ∧ Hid (DV c w' (cl && !isC op) (items ++ [([op, (A : Int), 0, 0], .slice none 0 0)]))) := HC1
  clear W1 W2 W3
  go_enter Tryz.func244, Tryz.ntmps244
  go_wp2_with (first
    | (go_at_call 171; refine HC1.out.mono ?_; rintro e w1 ⟨⟨u, rfl⟩, F1, V1⟩))
  go_ret
  refine ⟨w.heap.size, w.heap.size + 1 + 1, rfl, (DFr.of HB.out).trans F1.out, ?_, HW.out.keep (HD.out.of HB.out) F1.out⟩
  have e : (cl && !isC op) = cl := by
    have : isC op = false := by unfold isC; rcases HO.out with rfl | rfl <;> rfl
    rw [this]; simp
  rw [← e]
  exact V1.out
set_option maxRecDepth 20000 in
set_option maxHeartbeats 4000000 in
theorem djump1 (c : DC) (cl : Bool) (items : List (List Int × Value)) (D P p : Nat) (l : List Int) (av : Value) (w : World) (hD : DV c w cl items) (hL : LandAt c D P p w) (hp : items[p]? = some (l, av)) (hl : 4 ≤ l.length) :
    Calls Tryz.prog 248 #[.pointer (some ⟨D, 0, none⟩), .pointer (some ⟨P, 0, none⟩)] w fun e w' => (∃ v, e = .returned v) ∧ Hid (DFr c.X c.C w w') ∧ Hid (DV c w' cl (items.set p (l.set 2 (items.length : Int), av))) := by
  obtain ⟨g, cap, cur, ⟨cx, x0, x44⟩, hg, hgc, hps, hDV, hF⟩ := hD.land hp hl (items.length : Int)
  have hpl : p < items.length := (List.getElem?_eq_some_iff.1 hp).1
  have k44 : w.cell? ⟨c.X, 44, none⟩ = some (.slice (some ⟨g, 0, none⟩) items.length cap) := by unfold World.cell?; rw [x0]; exact x44
  have kd : w.cell? ⟨D, 0, none⟩ = some (.pointer (some ⟨c.X, 0, none⟩)) := by unfold World.cell?; rw [hL.d]; rfl
  have kp : w.cell? ⟨P, 0, none⟩ = some (.int .i64 p) := by unfold World.cell?; rw [hL.p]; rfl
  have kf : w.frozen? ⟨g, p * 5 + 2, none⟩ = false := by unfold World.frozen?; rw [hgc]; simp
  obtain ⟨u, ku⟩ : ∃ u, w.cell? ⟨g, p * 5 + 2, none⟩ = some u := ⟨cur[p * 5 + 2], by unfold World.cell?; rw [hgc]; exact Array.getElem?_eq_getElem hps⟩
  have HF : Hid (DFr c.X c.C w (w.setCell ⟨g, p * 5 + 2, none⟩ (.int .i64 (items.length : Int)))) := hF
  have HV : Hid (DV c (w.setCell ⟨g, p * 5 + 2, none⟩ (.int .i64 (items.length : Int))) cl (items.set p (l.set 2 (items.length : Int), av))) := hDV
  have kk : ∀ v : Value, (w.setCell ⟨g, p * 5 + 2, none⟩ v).drew.cell? ⟨c.X, 44, none⟩ = some (.slice (some ⟨g, 0, none⟩) items.length cap) ∧ (w.setCell ⟨g, p * 5 + 2, none⟩ v).drew.cell? ⟨D, 0, none⟩ = some (.pointer (some ⟨c.X, 0, none⟩)) ∧ (w.setCell ⟨g, p * 5 + 2, none⟩ v).drew.cell? ⟨P, 0, none⟩ = some (.int .i64 p) := fun v => by
    have hn : ∀ (q : Nat) (cs : Array Value) (t : TypeId), w.heap[q]? = some (.cells cs t (0, 0)) → ¬ t = 106 → ∀ i, (w.setCell ⟨g, p * 5 + 2, none⟩ v).drew.cell? ⟨q, i, none⟩ = w.cell? ⟨q, i, none⟩ := fun q cs t hq ht i => by
      show (w.setCell ⟨g, p * 5 + 2, none⟩ v).cell? ⟨q, i, none⟩ = _
      refine World.cell?_of_block (w := w) (a := ⟨q, i, none⟩) (Below.heap_setCell w _ _ q ?_)
      intro e
      have e : q = g := e
      rw [e, hgc] at hq
      injection hq with e; injection e with _ e _; exact absurd e.symm ht
    exact ⟨(hn _ _ _ x0 (by decide) _).trans k44, (hn _ _ _ hL.d (by decide) _).trans kd, (hn _ _ _ hL.p (by decide) _).trans kp⟩
  have hp0 : (0 : Int) ≤ (p : Int) := by omega
  have hp1 : (p : Int) < (items.length : Int) := by omega
  clear hD hL hp hF hDV x0 x44 hgc
  go_enter Tryz.func248, Tryz.ntmps248
  go_upto_region 0 with (fail)
  go_region_held3 (fun w' => w'.cell? ⟨c.X, 44, none⟩ = some (.slice (some ⟨g, 0, none⟩) items.length cap) ∧ w'.cell? ⟨D, 0, none⟩ = some (.pointer (some ⟨c.X, 0, none⟩)) ∧ w'.cell? ⟨P, 0, none⟩ = some (.int .i64 p)) (first | (exact kk _) | go_keep) (fail)
  all_goals (try go_wp2_with fail)
  all_goals go_end0
  all_goals exact ⟨⟨_, rfl⟩, HF.out.trans (DFr.of ((Below.refl _ _).drew)), HV.out.of ((Below.refl _ _).drew)⟩
def three (R : Nat → Nat) : Array Value := #[.int .i64 (R 0), .int .i64 (R 1), .int .i64 (R 2)]
def setR (R : Nat → Nat) (j r : Nat) (i : Nat) : Nat := if i = j then r else R i
theorem three_set (R : Nat → Nat) {j : Nat} (hj : j < 3) (r : Nat) : (three R).setIfInBounds j (.int .i64 r) = three (setR R j r) ∧ [setR R j r 0, setR R j r 1, setR R j r 2].take (j + 1) = [R 0, R 1, R 2].take j ++ [r] := by
  rcases (show j = 0 ∨ j = 1 ∨ j = 2 by omega) with rfl | rfl | rfl <;> exact ⟨rfl, rfl⟩
theorem three_cell {w1 : World} {O : Nat} {R : Nat → Nat} (h : w1.heap[O]? = some (.cells (three R) 304 (0, 0))) {j : Nat} (hj : j < 3) : w1.frozen? ⟨O, j, none⟩ = false ∧ (∃ u, w1.cell? ⟨O, j, none⟩ = some u) ∧ ∀ x, (w1.setCell ⟨O, j, none⟩ x).cell? ⟨O, j, none⟩ = some x := by
  refine ⟨by unfold World.frozen?; rw [h]; simp, ?_, fun x => ?_⟩
  · rcases (show j = 0 ∨ j = 1 ∨ j = 2 by omega) with rfl | rfl | rfl <;> (unfold World.cell?; rw [h]; exact ⟨_, rfl⟩)
  · unfold World.cell?
    rw [heap_setCell_same w1 _ _ _ _ _ h]
    rcases (show j = 0 ∨ j = 1 ∨ j = 2 by omega) with rfl | rfl | rfl <;> rfl
theorem after_le {free : Nat} {rs : List Nat} : free ≤ after free rs := by
  induction rs generalizing free with
  | nil => exact Nat.le_refl _
  | cons r rs ih => exact Nat.le_trans (by omega) (ih (free := max free (r + 1)))
theorem DFb.setNew {X B C : Nat} {w w1 : World} (h : DFb X B C w w1) {O : Nat} (hO : w.heap.size ≤ O) (i : Nat) (x : Value) : DFb X B C w (w1.setCell ⟨O, i, none⟩ x) := by
  have hb : Below O w1 (w1.setCell ⟨O, i, none⟩ x) := (Below.refl O w1).setCell (Nat.le_refl _) _
  refine ⟨hb.os.trans h.os, hb.tape.trans h.tape, hb.output.trans h.output, Nat.le_trans h.size hb.size, fun k o hk hx hB ho => ?_⟩
  have hlt := (Array.getElem?_eq_some_iff.1 hk).1
  rw [Below.heap_setCell w1 _ _ k (by show ¬ k = O; omega)]
  exact h.block k o hk hx hB ho
set_option maxRecDepth 20000 in
set_option maxHeartbeats 4000000 in
theorem dvalues (v : VC) (ok : VOK v) (m : Nat) (H : ValC v m) : ValsC v m := by
  intro a free cnt items w hc hm ha hask hv hpk hil hw
  have HW : Hid (VW v a items w) := hw
  have hNw := hw.rd.nw
  have HV : Hid (ValC v m) := H
  have HOK : Hid (VOK v) := ok
  have HAsk : Hid ((cnt : Int) ≤ asked v.k v.z v.par a) := hask
  have HPk : Hid (free + peak (v.n - a + 1) ≤ v.c.vars + 17) := hpk
  have n24 := ok.n24
  have hx := hw.dv.xlt
  have hO : (w.alloc (.cells #[.int .i64 0, .int .i64 0, .int .i64 0] 304)).heap[w.heap.size]? = some (.cells (three fun _ => 0) 304 (0, 0)) := heap_alloc_new w _
  have HA : Hid (DFb v.c.X v.B v.c.C w (w.alloc (.cells #[.int .i64 0, .int .i64 0, .int .i64 0] 304)) ∧ VW v a items (w.alloc (.cells #[.int .i64 0, .int .i64 0, .int .i64 0] 304))) := ⟨(DFr.of (bal w _)).b v.B, hw.of (bal w _)⟩
  have HO : Hid ((w.alloc (.cells #[.int .i64 0, .int .i64 0, .int .i64 0] 304)).heap[w.heap.size]? = some (.cells (three fun _ => 0) 304 (0, 0))) := hO
  clear hw H ok hask hpk hO
  go_enter Tryz.func246, Tryz.ntmps246
  go_wp2_with fail
  go_loopg [3, 11] cnt (fun q fv i wr => ∃ (j : Nat) (rs : List Nat) (a' : Nat) (its : List (List Int × Value)) (R : Nat → Nat), j + q = cnt ∧ fv = .int .i64 ((after free rs : Nat) : Int) ∧ i = .int .i64 (j : Int) ∧ rs.length = j ∧ Hid ([R 0, R 1, R 2].take j = rs) ∧ Hid (wr.heap[w.heap.size]? = some (.cells (three R) 304 (0, 0))) ∧ Hid (DFb v.c.X v.B v.c.C w wr) ∧ Hid (VW v a' (items ++ its) wr) ∧ a' ≤ v.n ∧ a + j ≤ a' ∧ after free rs ≤ free + j ∧ Hid (VS v.k v.z v.par v.c.once a a' free rs (its.map (·.1))))
  case atStart => exact ⟨0, [], a, [], fun _ => 0, by omega, rfl, rfl, rfl, rfl, HO, HA.out.1, (by show VW _ _ _ _; rw [List.append_nil]; exact HA.out.2), ha, by omega, Nat.le_refl _, VS.nil a free⟩
  case round =>
    obtain ⟨j, rs, a', its, R, hjq, rfl, rfl, hrl, HR, HB, HF, HWj, ha', haj, haf, HS⟩ := hrel
    have hfl : free ≤ after free rs := after_le
    by_cases hlt : j < cnt
    · have hlt' : (j : Int) < (cnt : Int) := by omega
      have j0 : (0 : Int) ≤ (j : Int) := by omega
      have j3 : (j : Int) < 3 := by omega
      have hwj : IntKind.i64.wrap ((j : Int) + 1) = (j : Int) + 1 := Go.IntWalk.i64_in _ (by omega)
      have hcount := HS.out.count
      have hitl : its.length ≤ 41 * (a' - a) := by
        have e : perTok v.c.once ≤ 41 := by unfold perTok; split <;> omega
        have := Nat.mul_le_mul_right (a' - a) e
        rw [List.length_map] at hcount
        omega
      have hwants := HS.out.wants
      have hlt2 : a' < v.n := by
        rcases Nat.lt_or_ge a' v.n with h | h
        · exact h
        · exfalso
          have e : a' = v.n := by omega
          have h1 := hwants.1
          rw [e, HOK.out.done] at h1
          have := HAsk.out
          omega
      have HC : Hid (Calls Tryz.prog 229 #[.pointer (some ⟨v.c.X, 0, none⟩), .func (.func 242) #[] #[.pointer (some ⟨v.B, 0, none⟩), .pointer (some ⟨v.E, 0, none⟩)], .int .i64 ((after free rs : Nat) : Int)] wr fun e w' => ∃ r : Nat, e = .returned (.int .i64 r) ∧ Hid (ValP v a' (after free rs) (items ++ its) wr w' r)) := by
        refine HV.out a' (after free rs) (items ++ its) wr (by omega) hlt2 (by omega) ?_ ?_ HWj.out
        · have := peak_part (i := j) (d := v.n - a') (e := v.n - a + 1) (by omega) (by omega)
          have := HPk.out
          omega
        · rw [List.length_append]
          have : 41 * (v.n - a) = 41 * (v.n - a') + 41 * (a' - a) := by omega
          omega
      have HOb : Hid (∀ w1, DFb v.c.X v.B v.c.C wr w1 → w1.heap[w.heap.size]? = some (.cells (three R) 304 (0, 0))) := fun w1 hf => by
        obtain ⟨cx, x0, _⟩ := HWj.out.dv.xt
        refine hf.block _ _ HB.out ?_ ?_ (Or.inr fun c e => ?_)
        · omega
        · intro e
          have b := HWj.out.rd.box
          rw [← e, HB.out] at b
          injection b with b; injection b with _ b _; exact absurd b (by decide)
        · injection e with _ e _; exact absurd e (by decide)
      have hpk20 : after free rs ≤ 30 := by
        have := HPk.out
        omega
      clear hcount hwants
      have HK : Hid (∀ w1 r, ValP v a' (after free rs) (items ++ its) wr w1 r → w1.heap[w.heap.size]? = some (.cells (three R) 304 (0, 0)) ∧ r ≤ after free rs) := fun w1 r h => by
        obtain ⟨a'', its2, f1, f2, f3, f4⟩ := h
        exact ⟨HOb.out w1 f1, (f4.reg HOK.out.tok hlt2 (by omega)).1⟩
      go_wp2_with (first
        | (go_at_call 229; refine HC.out.mono ?_; rintro e w1 ⟨r, rfl, P1⟩; obtain ⟨kf, ⟨u, kc⟩, ks⟩ := three_cell (HK.out w1 r P1.out).1 (j := j) (by omega); have hrr := (HK.out w1 r P1.out).2; have hwr : IntKind.i64.wrap ((r : Int) + 1) = (r : Int) + 1 := Go.IntWalk.i64_in _ (by omega)))
      go_roundg (cnt - (j + 1))
      case rel =>
        obtain ⟨e1, e2⟩ := three_set R (j := j) (by omega) r
        have hO1 := (HK.out w1 r P1.out).1
        obtain ⟨a'', its2, f1, f2, f3, f4⟩ := P1.out
        refine ⟨j + 1, rs ++ [r], a'', its ++ its2, setR R j r, by omega, ?_, rfl, by simp; omega, ?_, ?_, ?_, ?_, f3, ?_, ?_, ?_⟩
        · rw [after_snoc]; congr 1; omega
        · show _ = _
          rw [e2, HR.out]
        · show _ = _
          rw [heap_setCell_same w1 _ _ _ _ _ hO1, e1]
        · exact (HF.out.trans f1).setNew (Nat.le_refl _) _ _
        · rw [← List.append_assoc]
          exact f2.put hO1 hNw _
        · have := f4.wants.2
          simp at this
          omega
        · rw [after_snoc]; omega
        · rw [List.map_append]
          exact HS.out.snoc f4
      case measure => omega
    · have hlt' : ¬ (j : Int) < (cnt : Int) := by omega
      have hb := HB.out
      have l0 : wr.cell? ⟨w.heap.size, 0, none⟩ = some (.int .i64 (R 0)) := by unfold World.cell?; rw [hb]; rfl
      have l1 : wr.cell? ⟨w.heap.size, 1, none⟩ = some (.int .i64 (R 1)) := by unfold World.cell?; rw [hb]; rfl
      have l2 : wr.cell? ⟨w.heap.size, 2, none⟩ = some (.int .i64 (R 2)) := by unfold World.cell?; rw [hb]; rfl
      have lf : ∀ i, wr.frozen? ⟨w.heap.size, i, none⟩ = false := fun i => by unfold World.frozen?; rw [hb]; simp
      clear hb
      have ej : j = cnt := by omega
      subst ej
      go_wp2_with fail
      have hb := HB.out
      have e0 := heap_setCell_same wr _ 0 _ _ (.int .i64 (R 0)) hb
      have e1 := heap_setCell_same _ _ 1 _ _ (.int .i64 (R 1)) e0
      have e2 := heap_setCell_same _ _ 2 _ _ (.int .i64 (R 2)) e1
      refine bodyPost_ret (results_cell_row rfl _ _ w.heap.size 304 _ (0, 0) _ rfl e2 Tryz.underlying304 rfl (by kernel_rfl)) rfl ?_
      refine ⟨R 0, R 1, R 2, rfl, a', its, ((HF.out.setNew (Nat.le_refl _) _ _).setNew (Nat.le_refl _) _ _).setNew (Nat.le_refl _) _ _, ((HWj.out.put hb hNw _).put e0 hNw _).put e1 hNw _, ha', ?_⟩
      rw [HR.out]
      exact HS.out
end Go.Proofs.YtbmenihakkogkabGreatDoor
namespace Go.Proofs.YtbmenihakkogkabGreatDoor
open Go.Shelf
def Tryz.laysNm215_ren : Go.Shelf.Ren := ⟨fun | 15 => 247 | n => n, fun | 22 => 55 | 3 => 3 | 4 => 4 | n => n, fun | n => n⟩
theorem Tryz.laysNm215 : Go.Proofs.Lays2.n15 Tryz.prog Tryz.laysNm215_ren := {
  mixed := by kernel_rfl
  f15 := Tryz.func247.trans (congrArg some (by kernel_rfl))
  t3 := Tryz.underlying3
  a3 := Tryz.isAgg3
  z3 := Tryz.sizeOf3
  v3 := Tryz.zeroValue3
  t4 := Tryz.underlying4
  a4 := Tryz.isAgg4
  z4 := Tryz.sizeOf4
  v4 := Tryz.zeroValue4
  t22 := Tryz.underlying55
  a22 := Tryz.isAgg55
  z22 := Tryz.sizeOf55
  v22 := Tryz.zeroValue55
  i3 := by kernel_rfl }
open Go.RowKit Go.Lib in
theorem Tryz.slices_Clone_int (b off n c : Nat) (zs : List Int) (w : World) (hz : n ≤ zs.length) (hbig : n * 8 ≤ 140737488355328) (hc : ∀ j, j < zs.length → w.cell? ⟨b, off + j, none⟩ = some (.int .i64 (zs.getD j 0))) :
    Calls Tryz.prog 247 #[.slice (some ⟨b, off, none⟩) n c] w fun e w' => ∃ v', e = .returned v' ∧ w'.ownsRow w.heap.size 3 1 v' n ((zs.take n).map (Value.int .i64)) ∧ v' ≠ .slice none 0 0 ∧ Below w.heap.size w w' := Any.slices_Clone_int Tryz.laysNm215 b off n c zs w hz hbig hc
end Go.Proofs.YtbmenihakkogkabGreatDoor
namespace Go.Proofs.YtbmenihakkogkabGreatDoor
open Go.RowKit Go.Maps
def RekM (v : VC) (a tt free : Nat) (items : List (List Int × Value)) (w w1 : World) : Prop :=
  ∃ (a1 : Nat) (its : List (List Int × Value)) (os : List Nat) (c1 : List (List Int)), DFb v.c.X v.B v.c.C w w1 ∧ VW v a1 (items ++ its) w1 ∧ a1 ≤ v.n ∧ VS v.k v.z v.par v.c.once (a + 1) a1 free os c1 ∧ (os.length : Int) = asksOf (v.k a) (v.z a) v.par ∧ its.map (·.1) = c1 ++ [tokIns (v.k a) (v.z a) tt os]
theorem RekM.off {v : VC} {a tt free : Nat} {items : List (List Int × Value)} {w w1 : World} (h : RekM v a tt free items w w1) : RekP v a tt free items w w1 := by
  obtain ⟨a1, its, os, c1, h1, h2, h3, h4, h5, h6⟩ := h
  exact ⟨a1, its, h1, h2, h3, os, c1, [], h4, h5, fun r hr => (by cases hr), by simp, fun _ => rfl, by rw [h6]; simp [clr]⟩
theorem RekM.clear {v : VC} {a tt free : Nat} {items : List (List Int × Value)} {w w1 : World} (ok : VOK v) (h : RekM v a tt free items w w1) (ho : v.c.once = true) (hil : items.length + 41 * (v.n - a) + 100 ≤ 100000) (ha : a < v.n) (ht : tt ≤ free) (hf : free ≤ 30) :
    Calls Tryz.prog 206 #[.pointer (some ⟨v.c.X, 0, none⟩), .int .i64 ((max free (tt + 1) : Nat) : Int)] w1 fun e w' => (∃ u, e = .returned u) ∧ Hid (RekP v a tt free items w w') := by
  obtain ⟨a1, its, os, c1, h1, h2, h3, h4, h5, h6⟩ := h
  have hlen : its.length ≤ 41 * (v.n - a) := by
    have e := congrArg List.length h6
    have e2 := h4.count
    have e3 := h4.wants.2
    have e4 : perTok v.c.once ≤ 41 := by unfold perTok; split <;> omega
    have e5 := Nat.mul_le_mul_right (a1 - (a + 1)) e4
    simp only [List.length_map, List.length_append, List.length_cons, List.length_nil] at e
    omega
  refine (dclear v.c (max free (tt + 1)) false (items ++ its) w1 h2.dv (by omega) (by rw [List.length_append]; omega)).mono fun e w' hp => ?_
  obtain ⟨he, its2, L, f1, f2, f3, f4, f5, _⟩ := hp
  refine ⟨he, a1, its ++ its2, h1.trans (f1.b v.B), ?_, h3, os, c1, L, h4, h5, f4, by have := h2.dv.xlt.2.2.1; omega, fun h => (by rw [ho] at h; cases h), by rw [List.map_append, h6, f3]⟩
  rw [← List.append_assoc]
  rw [Bool.false_or] at f2
  exact h2.more ok f1 f2 (clr_off f3 v.B)
theorem VW.add {v : VC} {a a1 tt free : Nat} {items its : List (List Int × Value)} {w w1 : World} {os : List Nat} {c1 : List (List Int)} (ok : VOK v) (h1 : DFb v.c.X v.B v.c.C w w1) (h2 : VW v a1 (items ++ its) w1) (h3 : a1 ≤ v.n) (h4 : VS v.k v.z v.par v.c.once (a + 1) a1 free os c1) (h5 : (os.length : Int) = asksOf (v.k a) (v.z a) v.par) (h6 : its.map (·.1) = c1)
    (ab : Option Addr) (an ac : Nat) (op b d : Int) (hl : (tokIns (v.k a) (v.z a) tt os).getD 0 0 = op ∧ (tokIns (v.k a) (v.z a) tt os).getD 2 0 = b ∧ (tokIns (v.k a) (v.z a) tt os).getD 3 0 = d) (hav : ArgsAt w1 (.slice ab an ac) ((tokIns (v.k a) (v.z a) tt os).length - 4) (fun j => (tokIns (v.k a) (v.z a) tt os).getD (j + 4) 0))
    (hoff : (tokIns (v.k a) (v.z a) tt os).length - 4 = 0 ∨ ∀ x n d, Value.slice ab an ac = .slice (some x) n d → ¬ x.block = v.B) (hil : items.length + 41 * (v.n - a) + 100 ≤ 100000) (hA : tt < v.c.vars + 17) (h3' : op = 3 → (tokIns (v.k a) (v.z a) tt os).length = 5 ∧ ∃ B D : Nat, (b = B ∧ B < 40) ∧ (d = D ∧ D < 40)) :
    Calls Tryz.prog 171 #[.pointer (some ⟨v.c.X, 0, none⟩), .agg #[.int .i64 op, .int .i64 tt, .int .i64 b, .int .i64 d, .slice ab an ac]] w1 fun e w' => (∃ u, e = .returned u) ∧ Hid (RekM v a tt free items w w') := by
  have hlen : its.length ≤ 41 * (v.n - a) := by
    have e := congrArg List.length h6
    have e2 := h4.count
    have e3 := h4.wants.2
    have e4 : perTok v.c.once ≤ 41 := by unfold perTok; split <;> omega
    have e5 := Nat.mul_le_mul_right (a1 - (a + 1)) e4
    simp only [List.length_map] at e
    omega
  refine (dadd v.c false (items ++ its) (tokIns (v.k a) (v.z a) tt os) op b d tt ab an ac w1 h2.dv ⟨hl.1, tokIns_a _ _ _ _, hl.2⟩ hav (by rw [List.length_append]; omega) hA h3').mono fun e w' hp => ?_
  obtain ⟨he, f1, f2⟩ := hp
  refine ⟨he, a1, its ++ [(tokIns (v.k a) (v.z a) tt os, .slice ab an ac)], os, c1, h1.trans (f1.out.b v.B), ?_, h3, h4, h5, by rw [List.map_append, h6]; rfl⟩
  rw [← List.append_assoc]
  refine h2.more ok f1.out f2.out fun x hx => ?_
  rw [List.mem_singleton] at hx
  subst hx
  exact hoff
theorem VW.fields {v : VC} {a : Nat} {items : List (List Int × Value)} {w : World} (h : VW v a items w) : w.cell? ⟨v.c.X, 0, none⟩ = some v.c.fv ∧ w.cell? ⟨v.c.X, 1, none⟩ = some (.int .i64 v.c.vars) ∧ w.cell? ⟨v.c.X, 43, none⟩ = some (.bool v.c.once) := by
  obtain ⟨cur, h0, _, h1, h2, h3⟩ := h.dv.xt
  exact ⟨by unfold World.cell?; rw [h0]; exact h1, by unfold World.cell?; rw [h0]; exact h2, by unfold World.cell?; rw [h0]; exact h3⟩
theorem RekM.fields {v : VC} {a tt free : Nat} {items : List (List Int × Value)} {w w1 : World} (h : RekM v a tt free items w w1) : w1.cell? ⟨v.c.X, 43, none⟩ = some (.bool v.c.once) := by
  obtain ⟨_, _, _, _, _, h2, _⟩ := h
  exact h2.fields.2.2
theorem RekP.pre {v : VC} {a tt free : Nat} {items : List (List Int × Value)} {w w0 w1 : World} (h : RekP v a tt free items w0 w1) (h0 : DFb v.c.X v.B v.c.C w w0) : RekP v a tt free items w w1 := by
  obtain ⟨a1, its, h1, h2⟩ := h
  exact ⟨a1, its, h0.trans h1, h2⟩
theorem VW.tok {v : VC} {a : Nat} {items : List (List Int × Value)} {w w1 : World} (h : VW v a items w) {T : Nat} {cs : Array Value} (hT : w.heap[T]? = some (.cells cs 89 (0, 0))) (hf : DFb v.c.X v.B v.c.C w w1) : w1.heap[T]? = some (.cells cs 89 (0, 0)) := by
  refine hf.block _ _ hT ?_ ?_ (Or.inr fun c e => ?_)
  · rintro rfl
    obtain ⟨cur, h0, _⟩ := h.dv.xt
    rw [hT] at h0
    injection h0 with e; injection e with _ e _; exact absurd e (by decide)
  · rintro rfl
    have h0 := h.rd.box
    rw [hT] at h0
    injection h0 with e; injection e with _ e _; exact absurd e (by decide)
  · injection e with _ e _; exact absurd e (by decide)
theorem VS.low {k z : Nat → Int} {par : Nat → Int} {once : Bool} {a a' free : Nat} {rs : List Nat} {c : List (List Int)} (h : VS k z par once a a' free rs c) {n nf vars : Nat} (hn : a' ≤ n) (ht : ∀ j, j < n → tokErr (k j) (z j) nf vars = 0) (hv : vars ≤ free) : ∀ r ∈ rs, r ≤ free + rs.length := by
  induction h with
  | nil a free => exact fun r hr => by cases hr
  | @loc a a' free rs c h2 hvs ih =>
    have b := hvs.wants.2
    have := ht a (by omega)
    rw [h2] at this
    simp [tokErr] at this
    have e : max free ((z a).toNat + 1) = free := by omega
    rw [e] at ih
    intro r hr
    rcases List.mem_cons.1 hr with rfl | hr
    · omega
    · have := ih hn hv r hr
      simp only [List.length_cons]
      omega
  | @cmp a a1 a' free os rs c1 c2 L hk h1 ho _ hL hz h2 ih1 ih2 =>
    intro r hr
    rcases List.mem_cons.1 hr with rfl | hr
    · omega
    · have := ih2 hn (by omega) r hr
      simp only [List.length_cons]
      omega
theorem slA (O P : Nat) (hP : P ≤ 3) (w : World) : Sem.run Tryz.prog (Instr.sliceAt 304 (.pointer (some ⟨O, 0, none⟩)) none (some (.int .i64 P)) none) w = .ok (.slice (some ⟨O, 0, none⟩) P 3) w := by
  rcases (show P = 0 ∨ P = 1 ∨ P = 2 ∨ P = 3 by omega) with rfl | rfl | rfl | rfl <;> kernel_rfl
def RekCK (v : VC) (m : Nat) (K : Int) : Prop := ∀ (a tt free : Nat) (items : List (List Int × Value)) (w : World), v.k a = K → v.n - a ≤ m + 1 → a < v.n → ¬ v.k a = 2 → v.c.vars ≤ free → tt ≤ free → free + peak (v.n - a) ≤ v.c.vars + 17 → items.length + 41 * (v.n - a) + 100 ≤ 100000 → VW v (a + 1) items w →
  Calls Tryz.prog 241 #[.pointer (some ⟨v.c.X, 0, none⟩), .agg #[.int .i64 (v.k a), .int .i64 (v.z a)], .func (.func 242) #[] #[.pointer (some ⟨v.B, 0, none⟩), .pointer (some ⟨v.E, 0, none⟩)], .int .i64 tt, .int .i64 free] w fun e w' => (∃ u, e = .returned u) ∧ Hid (RekP v a tt free items w w')
set_option maxRecDepth 20000 in
set_option maxHeartbeats 8000000 in
theorem dreck1 (v : VC) (ok : VOK v) (m : Nat) (H : ValsC v m) : RekCK v m 1 := by
  intro a tt free items wa hK hm ha hk hv htt hpk hil hwa
  have n24 := ok.n24
  have HPre : Hid (DFb v.c.X v.B v.c.C wa (wa.alloc (.cells #[.int .i64 (v.k a), .int .i64 (v.z a)] 89))) := (DFr.of (bal wa _)).b v.B
  have hw : VW v (a + 1) items (wa.alloc (.cells #[.int .i64 (v.k a), .int .i64 (v.z a)] 89)) := hwa.of (bal wa _)
  have hT : (wa.alloc (.cells #[.int .i64 (v.k a), .int .i64 (v.z a)] 89)).heap[wa.heap.size]? = some (.cells #[.int .i64 (v.k a), .int .i64 (v.z a)] 89 (0, 0)) := heap_alloc_new wa _
  clear hwa
  generalize hw0 : wa.alloc (.cells #[.int .i64 (v.k a), .int .i64 (v.z a)] 89) = w at *
  have HW0 : Hid (wa.alloc (.cells #[.int .i64 (v.k a), .int .i64 (v.z a)] 89) = w) := hw0
  clear hw0
  generalize hTs : wa.heap.size = T at *
  have HTs : Hid (wa.heap.size = T) := hTs
  clear hTs
  have hx := hw.dv.xlt
  have hpos := peak_pos (d := v.n - a) (by omega)
  have hfree : free ≤ 22 := by omega
  have htv : tt < v.c.vars + 17 := by omega
  have HTok : Hid (tokErr (v.k a) (v.z a) v.nf v.c.vars = 0) := ok.tok a ha
  have HAsk : Hid (asked v.k v.z v.par (a + 1) = asked v.k v.z v.par a + (asksOf (v.k a) (v.z a) v.par - 1) ∧ 1 ≤ asked v.k v.z v.par a) := ⟨rfl, ok.ask a ha⟩
  have HA0 : Hid (∀ op b d, asksOf (v.k a) (v.z a) v.par = 0 → tokIns (v.k a) (v.z a) tt [] = [op, (tt : Int), b, d] → ¬ op = 3 → Calls Tryz.prog 171 #[.pointer (some ⟨v.c.X, 0, none⟩), .agg #[.int .i64 op, .int .i64 tt, .int .i64 b, .int .i64 d, .slice none 0 0]] w fun e w' => (∃ u, e = .returned u) ∧ Hid (RekM v a tt free items w w')) := fun op b d h0 hl h3 => by
    refine VW.add (a1 := a + 1) (its := []) (os := []) (c1 := []) ok (DFb.refl _ _ _ w) (by rw [List.append_nil]; exact hw) (by omega) (VS.nil _ _) (by rw [h0]; rfl) rfl none 0 0 op b d (by rw [hl]; exact ⟨rfl, rfl, rfl⟩) (by rw [hl]; exact ⟨none, 0, rfl, by simp, Or.inl rfl⟩) (Or.inl (by rw [hl]; rfl)) hil (by omega) (fun h => absurd h h3)
  have HF0 : Hid (∀ w1, RekM v a tt free items w w1 → v.c.once = false → RekP v a tt free items w w1) := fun w1 h _ => h.off
  have HF1 : Hid (∀ w1, RekM v a tt free items w w1 → v.c.once = true → Calls Tryz.prog 206 #[.pointer (some ⟨v.c.X, 0, none⟩), .int .i64 ((max free (tt + 1) : Nat) : Int)] w1 fun e w' => (∃ u, e = .returned u) ∧ Hid (RekP v a tt free items w w')) := fun w1 h ho => h.clear ok ho hil ha htt (by omega)
  have HVs : Hid (∀ cnt : Nat, cnt ≤ 3 → asksOf (v.k a) (v.z a) v.par = cnt → Calls Tryz.prog 246 #[.pointer (some ⟨v.c.X, 0, none⟩), .int .i64 cnt, .func (.func 242) #[] #[.pointer (some ⟨v.B, 0, none⟩), .pointer (some ⟨v.E, 0, none⟩)], .int .i64 free] w fun e w' => ∃ r0 r1 r2 : Nat, e = .returned (.agg #[.int .i64 r0, .int .i64 r1, .int .i64 r2]) ∧ Hid (ValsP v (a + 1) free cnt items w w' r0 r1 r2)) := fun cnt h3 hc => by
    refine H (a + 1) free cnt items w h3 (by omega) (by omega) ?_ hv ?_ (by omega) hw
    · have := HAsk.out
      omega
    · rw [show v.n - (a + 1) + 1 = v.n - a by omega]; exact hpk
  have hwt : IntKind.i64.wrap ((tt : Int) + 1) = (tt : Int) + 1 := Go.IntWalk.i64_in _ (by omega)
  have hmax : max (free : Int) ((tt : Int) + 1) = ((max free (tt + 1) : Nat) : Int) := by omega
  have HW : Hid (VW v (a + 1) items w) := hw
  have HOK : Hid (VOK v) := ok
  have HTk : Hid (∀ w1, DFb v.c.X v.B v.c.C w w1 → w1.cell? ⟨T, 0, none⟩ = some (.int .i64 (v.k a)) ∧ w1.cell? ⟨T, 1, none⟩ = some (.int .i64 (v.z a))) := fun w1 hf => by
    have := hw.tok hT hf
    exact ⟨by unfold World.cell?; rw [this]; rfl, by unfold World.cell?; rw [this]; rfl⟩
  have HF0 : Hid (∀ w1, RekM v a tt free items w w1 → v.c.once = false → RekP v a tt free items wa w1) := fun w1 h ho => (HF0.out w1 h ho).pre HPre.out
  have HF1 : Hid (∀ w1, RekM v a tt free items w w1 → v.c.once = true → Calls Tryz.prog 206 #[.pointer (some ⟨v.c.X, 0, none⟩), .int .i64 ((max free (tt + 1) : Nat) : Int)] w1 fun e w' => (∃ u, e = .returned u) ∧ Hid (RekP v a tt free items wa w')) := fun w1 h ho => (HF1.out w1 h ho).mono fun e w' h => ⟨h.1, h.2.out.pre HPre.out⟩
  obtain ⟨kf, _, ko⟩ := hw.fields
  obtain ⟨t0, t1⟩ := HTk.out w (DFb.refl _ _ _ w)
  have HK : Hid (v.k a = 1) := hK
  clear hw ok H hpos hpk hT hK
  go_enter Tryz.func241, Tryz.ntmps241
  go_upto_region 1 with (fail)
  rw [HW0.out]
  simp only [HTs.out]
  have kw : ∀ w1, RekM v a tt free items w w1 → w1.cell? ⟨v.c.X, 43, none⟩ = some (.bool v.c.once) := fun w1 h => h.fields
  have HKW : Hid (∀ w1, RekM v a tt free items w w1 → w1.cell? ⟨v.c.X, 43, none⟩ = some (.bool v.c.once)) := kw
  clear kw
  have hK := HK.out
  have HC : Hid (Calls Tryz.prog 171 #[.pointer (some ⟨v.c.X, 0, none⟩), .agg #[.int .i64 1, .int .i64 tt, .int .i64 (v.z a), .int .i64 0, .slice none 0 0]] w fun e w' => (∃ u, e = .returned u) ∧ Hid (RekM v a tt free items w w')) := HA0.out 1 (v.z a) 0 (by rw [hK]; rfl) (by rw [hK]; rfl) (by decide)
  rw [hK] at t0
  cases ho : v.c.once with
  | false =>
    have HO : Hid (v.c.once = false) := ho
    clear ho hK hk
    go_wp2_with (first
      | (go_at_call 171; refine HC.out.mono ?_; rintro e w1 ⟨⟨u, rfl⟩, M1⟩; have ko1 := HKW.out w1 M1.out; rw [HO.out] at ko1))
    go_end0
    exact ⟨⟨_, rfl⟩, HF0.out w1 M1.out HO.out⟩
  | true =>
    have HO : Hid (v.c.once = true) := ho
    clear ho hK hk
    go_wp2_with (first
      | (go_at_call 171; refine HC.out.mono ?_; rintro e w1 ⟨⟨u, rfl⟩, M1⟩; have ko1 := HKW.out w1 M1.out; rw [HO.out] at ko1)
      | (go_at_call 206; refine (HF1.out w1 M1.out HO.out).mono ?_; rintro e w9 ⟨⟨u9, rfl⟩, P9⟩))
    go_end0
    exact ⟨⟨_, rfl⟩, P9⟩
end Go.Proofs.YtbmenihakkogkabGreatDoor
