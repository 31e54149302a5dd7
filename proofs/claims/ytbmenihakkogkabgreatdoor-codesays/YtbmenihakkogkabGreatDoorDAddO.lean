import Derived.Test.YtbmenihakkogkabGreatDoorDAdd
import Derived.Deep.RegionHeld3
namespace Go.Proofs.YtbmenihakkogkabGreatDoor
open Go.RowKit Go.Maps
set_option maxRecDepth 20000 in
set_option maxHeartbeats 4000000 in
theorem dadd_op (X C : Nat) (fv : Value) (vars regs : Int) (once : Bool) (U : Nat → Bool) (cv : Value) (items : List (List Int × Value)) (op a b c : Int) (l : List Int) (ab : Option Addr) (an ac : Nat) (w : World) (hD : DAt X w fv vars regs once U cv) (hrow : CodeRow C w cv items) (hl : l.getD 0 0 = op ∧ l.getD 1 0 = a ∧ l.getD 2 0 = b ∧ l.getD 3 0 = c) (hav : ArgsAt w (.slice ab an ac) (l.length - 4) (fun j => l.getD (j + 4) 0)) (hil : items.length ≤ 100000) (hC : C ≤ w.heap.size) (A : Nat) (hA : A < 40) (haA : a = A) (ho : op = 3) (hn5 : l.length = 5) (B D : Nat) (hBB : b = B ∧ B < 40) (hDD : c = D ∧ D < 40) :
    Calls Tryz.prog 171 #[.pointer (some ⟨X, 0, none⟩), .agg #[.int .i64 op, .int .i64 a, .int .i64 b, .int .i64 c, .slice ab an ac]] w fun e w' => (∃ v, e = .returned v) ∧ ∃ v', Hid (DFr X C w w') ∧ Hid (DAt X w' fv vars (max regs ((A : Int) + 1)) once U v') ∧ Hid (CodeRow C w' v' (items ++ [(l, .slice ab an ac)])) := by
  subst haA
  have HO : Hid (op = 3) := ho
  clear ho
  have HBoxH : Hid (∀ wi : World, wi.heap[w.heap.size]? = (w.alloc (.cells #[.int .i64 op, .int .i64 A, .int .i64 b, .int .i64 c, .slice ab an ac] 106)).heap[w.heap.size]? → wi.cell? ⟨w.heap.size, 0, none⟩ = some (.int .i64 op) ∧ wi.cell? ⟨w.heap.size, 1, none⟩ = some (.int .i64 A) ∧ wi.cell? ⟨w.heap.size, 2, none⟩ = some (.int .i64 b) ∧ wi.cell? ⟨w.heap.size, 3, none⟩ = some (.int .i64 c) ∧ wi.cell? ⟨w.heap.size, 4, none⟩ = some (.slice ab an ac)) := fun wi hb => by
    have e : ∀ k, wi.cell? ⟨w.heap.size, k, none⟩ = (#[.int .i64 op, .int .i64 A, .int .i64 b, .int .i64 c, .slice ab an ac] : Array Value)[k]? := fun k => by
      unfold World.cell?
      rw [hb, heap_alloc_new w]
      rfl
    exact ⟨e 0, e 1, e 2, e 3, e 4⟩
  have HD : Hid (DAt X w fv vars regs once U cv) := hD
  have hD0 := hD
  obtain ⟨cur, hX, hcs, c0, c1, c2, c3, c43, c44⟩ := hD
  have hXl : X < w.heap.size := (Array.getElem?_eq_some_iff.1 hX).1
  obtain ⟨ca, cc, ecv⟩ : ∃ ca cc, cv = .slice ca items.length cc := own_shape hrow.1
  subst ecv
  have HX : Hid (w.heap[X]? = some (.cells cur 174 (0, 0))) := hX
  have HXB : Hid (¬ w.heap.size = X) := (by show ¬ _; omega)
  have HQ : Hid (∀ wi : World, wi.heap[X]? = w.heap[X]? → wi.cell? ⟨X, 44, none⟩ = some (.slice ca items.length cc)) := fun wi h => by unfold World.cell?; rw [h, hX]; exact c44
  have k1 : (w.alloc (.cells #[.int .i64 op, .int .i64 A, .int .i64 b, .int .i64 c, .slice ab an ac] 106)).drew.cell? ⟨X, 44, none⟩ = some (.slice ca items.length cc) := HQ.out _ ((bal w _).block X hXl)
  have k2 : ∀ o : Obj, ((w.alloc (.cells #[.int .i64 op, .int .i64 A, .int .i64 b, .int .i64 c, .slice ab an ac] 106)).alloc o).drew.cell? ⟨X, 44, none⟩ = some (.slice ca items.length cc) := fun o => HQ.out _ (((bal (w.alloc (.cells #[.int .i64 op, .int .i64 A, .int .i64 b, .int .i64 c, .slice ab an ac] 106)) o).block X (by simp; omega)).trans ((bal w _).block X hXl))
  have k3 : (w.alloc (.cells #[.int .i64 op, .int .i64 A, .int .i64 b, .int .i64 c, .slice ab an ac] 106)).cell? ⟨X, 44, none⟩ = some (.slice ca items.length cc) := k1
  have k4 : ∀ o : Obj, ((w.alloc (.cells #[.int .i64 op, .int .i64 A, .int .i64 b, .int .i64 c, .slice ab an ac] 106)).alloc o).cell? ⟨X, 44, none⟩ = some (.slice ca items.length cc) := k2
  have HRow1 : Hid (CodeRow C (w.alloc (.cells #[.int .i64 op, .int .i64 A, .int .i64 b, .int .i64 c, .slice ab an ac] 106)) (.slice ca items.length cc) items) := hrow.stay (Keeps.of (bal w _)) (Keeps.of (bal w _))
  have HIl : Hid (items.length ≤ 100000) := hil
  have HBB : Hid (b = B ∧ B < 40) := hBB
  have HDD : Hid (c = D ∧ D < 40) := hDD
  obtain ⟨z0, hz0⟩ : ∃ z0, l.getD 4 0 = z0 := ⟨_, rfl⟩
  have HAn : Hid (an = 1) := (by obtain ⟨a', c', e, _⟩ := hav; injection e with _ e2 _; show an = 1; omega)
  have HArg : Hid (∀ wi : World, DFr X C w wi → ∃ g o, ab = some ⟨g, o, none⟩ ∧ wi.cell? ⟨g, o, none⟩ = some (.int .i64 z0)) := fun wi hf => by
    obtain ⟨a', c', e, _, h | ⟨g, o, cu, rfl, hg, hc⟩⟩ := hav
    · omega
    · cases e
      refine ⟨g, o, rfl, ?_⟩
      have hx : ¬ g = X := fun e => by
        subst e
        obtain ⟨cu2, h2, _⟩ := hD0
        rw [h2] at hg
        injection hg with hg
        injection hg with _ h3 _
        exact absurd h3 (by decide)
      have := hf.block g _ hg hx (Or.inr fun c e => by injection e with _ e2 _; exact absurd e2 (by decide))
      unfold World.cell?
      rw [this]
      have h0 := hc 0 (by omega)
      rw [← hz0]
      simpa using h0
  have HMkk : Hid (∀ (wi : World) (k : Nat) {rg : Int} {v : Value}, k < 40 → DAt X wi fv vars rg once U v → ∃ m, wi.cell? ⟨X, 3 + k, none⟩ = some (.bool m)) := fun wi k rg v hk h => by
    obtain ⟨cu, h0, _, _, _, _, h3, _⟩ := h
    obtain ⟨m, hm, _⟩ := h3 k hk
    exact ⟨m, by unfold World.cell?; rw [h0]; exact hm⟩
  have HFz : Hid (∀ (wi : World) {rg : Int} {v : Value}, DAt X wi fv vars rg once U v → ∀ i, wi.frozen? ⟨X, i, none⟩ = false) := fun wi rg v h i => by
    obtain ⟨cu, h0, _⟩ := h
    unfold World.frozen?; rw [h0]; simp
  have HMk : Hid (∀ (wi : World) {rg : Int} {v : Value}, DAt X wi fv vars rg once U v → ∃ m, wi.cell? ⟨X, 3 + A, none⟩ = some (.bool m) ∧ ∀ i, wi.frozen? ⟨X, i, none⟩ = false) := fun wi rg v h => by
    obtain ⟨cu, h0, _, _, _, _, h3, _⟩ := h
    obtain ⟨m, hm, _⟩ := h3 A (by omega)
    exact ⟨m, by unfold World.cell?; rw [h0]; exact hm, fun i => by unfold World.frozen?; rw [h0]; simp⟩
  have HWr : Hid (IntKind.i64.wrap ((A : Int) + 1) = (A : Int) + 1) := Go.IntWalk.i64_in _ (by omega)
  have HC1 : Hid (C ≤ (w.alloc (.cells #[.int .i64 op, .int .i64 A, .int .i64 b, .int .i64 c, .slice ab an ac] 106)).heap.size) := (by show C ≤ _; simp; omega)
  have HBl : Hid (w.heap.size < (w.alloc (.cells #[.int .i64 op, .int .i64 A, .int .i64 b, .int .i64 c, .slice ab an ac] 106)).heap.size) := (by show _ < _; simp)
  have HStep : Hid (∀ (cs : Array Value) (w2 : World), ((w.alloc (.cells #[.int .i64 op, .int .i64 A, .int .i64 b, .int .i64 c, .slice ab an ac] 106)).drew.alloc (.cells cs 106)).grownBy w2 (Value.slice ca items.length cc).ownBlock → DFr X C w w2 ∧ w2.heap[X]? = w.heap[X]? ∧ w2.heap[w.heap.size]? = (w.alloc (.cells #[.int .i64 op, .int .i64 A, .int .i64 b, .int .i64 c, .slice ab an ac] 106)).heap[w.heap.size]? ∧ Keeps 3 w w2) := fun cs w2 hgr => by
    have hb1 := bal w (.cells #[.int .i64 op, .int .i64 A, .int .i64 b, .int .i64 c, .slice ab an ac] 106)
    have hb2 : Below (w.alloc (.cells #[.int .i64 op, .int .i64 A, .int .i64 b, .int .i64 c, .slice ab an ac] 106)).heap.size (w.alloc (.cells #[.int .i64 op, .int .i64 A, .int .i64 b, .int .i64 c, .slice ab an ac] 106)) ((w.alloc (.cells #[.int .i64 op, .int .i64 A, .int .i64 b, .int .i64 c, .slice ab an ac] 106)).drew.alloc (.cells cs 106)) := bst ((Below.refl _ _).drew) (bal _ _)
    have hb := bst hb1 hb2
    have hrw := hrow.row
    have keep : ∀ (k : Nat) (o : Obj), w.heap[k]? = some o → (k < C ∨ ∀ c, ¬ o = Obj.cells c 106 (0, 0)) → w2.heap[k]? = some o := fun k o hk ho => by
      have hlt := (Array.getElem?_eq_some_iff.1 hk).1
      rw [hgr.block k (Nat.lt_of_lt_of_le hlt hb.size) ?_, hb.block k hlt]
      · exact hk
      · intro e
        obtain ⟨h1, cu, hc⟩ := hrw k e.symm
        rw [hc] at hk
        injection hk with hk
        rcases ho with ho | ho
        · omega
        · exact ho cu hk.symm
    refine ⟨⟨hgr.os.trans hb.os, hgr.tape.trans hb.tape, hgr.output.trans hb.output, Nat.le_trans hb.size hgr.size, fun k o hk _ ho => keep k o hk ho⟩, ?_, ?_, fun k cu hk => keep k _ hk (Or.inr fun c e => by injection e with _ e2 _; exact absurd e2 (by decide))⟩
    · rw [hX]; exact keep X _ hX (Or.inr fun c e => by injection e with _ e2 _; exact absurd e2 (by decide))
    · rw [hgr.block w.heap.size (Nat.lt_of_lt_of_le HBl.out hb2.size) ?_, hb2.block w.heap.size HBl.out]
      intro e
      obtain ⟨_, cu, hc⟩ := hrw w.heap.size e.symm
      have := (Array.getElem?_eq_some_iff.1 hc).1
      omega
  have HPut : Hid (∀ (w2 : World) (v' : Value), DFr X C w w2 → w2.heap[X]? = w.heap[X]? → w2.heap[w.heap.size]? = (w.alloc (.cells #[.int .i64 op, .int .i64 A, .int .i64 b, .int .i64 c, .slice ab an ac] 106)).heap[w.heap.size]? → Keeps 3 w w2 → w2.ownsRow C 106 5 v' (items.length + 1) (flatI items ++ [.int .i64 op, .int .i64 A, .int .i64 b, .int .i64 c, .slice ab an ac]) → Hid (DFr X C w (w2.setCell ⟨X, 44, none⟩ v') ∧ DAt X (w2.setCell ⟨X, 44, none⟩ v') fv vars regs once U v' ∧ CodeRow C (w2.setCell ⟨X, 44, none⟩ v') v' (items ++ [(l, .slice ab an ac)]))) := fun w2 v' h1 h2 _ h3 h4 => by
    have hx2 := h2.trans hX
    have e3 : Keeps 3 w2 (w2.setCell ⟨X, 44, none⟩ v') := Keeps.set hx2 v' (by decide)
    have e8 : Keeps 106 w2 (w2.setCell ⟨X, 44, none⟩ v') := Keeps.set hx2 v' (by decide)
    refine ⟨h1.set 44 v', HD.out.code h2, ?_, fun x hx => ?_⟩
    · rw [List.length_append, flatI_snoc]
      obtain ⟨l0, l1, l2, l3⟩ := hl
      rw [l0, l1, l2, l3]
      exact own_keep h4 e8
    · rcases List.mem_append.1 hx with hx | hx
      · exact ((hrow.2 x hx).stay h3).stay e3
      · rw [List.mem_singleton] at hx
        subst hx
        exact (hav.stay h3).stay e3
  clear hrow hav hX c0 c1 c2 c3 c43 c44 hl hD0 hBB hDD hn5 hz0
  go_enter Tryz.func171, Tryz.ntmps171
  go_upto_region 1 with (fail)
  generalize w.alloc (.cells #[.int .i64 op, .int .i64 A, .int .i64 b, .int .i64 c, .slice ab an ac] 106) = W1 at *
  refine held_begin (n := 11) (l0 := #[false, false, false, false, false, false, false, false, false, false, false]) (S := fun w' => w'.cell? ⟨w.heap.size, 0, none⟩ = some (.int .i64 op) ∧ w'.cell? ⟨w.heap.size, 1, none⟩ = some (.int .i64 A) ∧ w'.cell? ⟨w.heap.size, 2, none⟩ = some (.int .i64 b) ∧ w'.cell? ⟨w.heap.size, 3, none⟩ = some (.int .i64 c) ∧ w'.cell? ⟨w.heap.size, 4, none⟩ = some (.slice ab an ac)) (by kernel_rfl) (by kernel_rfl) (by kernel_rfl) (HBoxH.out _ rfl) (fun hHeld => ?_)
  refine tky (i := 0) (d := 4) (l2 := #[true, false, false, false, false, false, false, false, false, false, false]) (v := ?v0) rfl rfl (by kernel_rfl) (by kernel_rfl) (by kernel_rfl) (by kernel_rfl) (fun _ _ _ h => h) (by rfl) ?hy0 (by assumption) ?_
  case hy0 => (intro wS hSw; (try dsimp only at hSw); (go_simp <;> with_reducible rfl))
  simp only [Act.put, List.setIfInBounds_toArray, List.set_cons_succ, List.set_cons_zero]
  refine tky (i := 1) (d := 5) (l2 := #[true, true, false, false, false, false, false, false, false, false, false]) (v := ?v1) rfl rfl (by kernel_rfl) (by kernel_rfl) (by kernel_rfl) (by kernel_rfl) (fun _ _ _ h => h) (by rfl) ?hy1 (by assumption) ?_
  case hy1 => (intro wS hSw; (try dsimp only at hSw); (go_simp <;> with_reducible rfl))
  simp only [Act.put, List.setIfInBounds_toArray, List.set_cons_succ, List.set_cons_zero]
  refine tky (i := 2) (d := 6) (l2 := #[true, true, true, false, false, false, false, false, false, false, false]) (v := ?v2) rfl rfl (by kernel_rfl) (by kernel_rfl) (by kernel_rfl) (by kernel_rfl) (fun _ _ _ h => h) (by rfl) ?hy2 (by assumption) ?_
  case hy2 => (intro wS hSw; (try dsimp only at hSw); (go_simp <;> with_reducible rfl))
  simp only [Act.put, List.setIfInBounds_toArray, List.set_cons_succ, List.set_cons_zero]
  refine tky (i := 3) (d := 7) (l2 := #[true, true, true, true, false, false, false, false, false, false, false]) (v := ?v3) rfl rfl (by kernel_rfl) (by kernel_rfl) (by kernel_rfl) (by kernel_rfl) (fun _ _ _ h => h) (by rfl) ?hy3 (by assumption) ?_
  case hy3 => (intro wS hSw; (try dsimp only at hSw); (go_simp <;> with_reducible rfl))
  simp only [Act.put, List.setIfInBounds_toArray, List.set_cons_succ, List.set_cons_zero]
  refine tky (i := 5) (d := 9) (l2 := #[true, true, true, true, false, true, false, false, false, false, false]) (v := ?v5) rfl rfl (by kernel_rfl) (by kernel_rfl) (by kernel_rfl) (by kernel_rfl) (fun _ _ _ h => h) (by rfl) ?hy5 (by assumption) ?_
  case hy5 => (intro wS hSw; (try dsimp only at hSw); (go_simp <;> with_reducible rfl))
  simp only [Act.put, List.setIfInBounds_toArray, List.set_cons_succ, List.set_cons_zero]
  refine two_up (i := 4) (j := 6) (d := 8) (e := 10) (l1 := #[true, true, true, true, true, true, false, false, false, false, false]) (l2 := #[true, true, true, true, false, true, true, false, false, false, false]) rfl rfl rfl rfl (by kernel_rfl) (by kernel_rfl) (by kernel_rfl) (by rfl) (by rfl) (fun K hK => ?_) (fun K hK => ?_)
  · go_simp
    refine hK.out _ _ (HBoxH.out _ (by first | rfl | exact heap_lt_alloc HBl.out | exact heap_lt_alloc2 HBl.out)) (fun hHeld1 => ?_)
    clear hK K hHeld
    simp only [Act.put, List.setIfInBounds_toArray, List.set_cons_succ, List.set_cons_zero]
    refine one_up (i := 6) (d := 10) (l2 := #[true, true, true, true, true, true, true, false, false, false, false]) rfl rfl (by kernel_rfl) (by kernel_rfl) (by rfl) (fun K hK => ?_)
    go_simp
    refine hK.out _ _ (HBoxH.out _ (by first | rfl | exact heap_lt_alloc HBl.out | exact heap_lt_alloc2 HBl.out)) (fun hHeld2 => ?_)
    clear hK K hHeld1
    simp only [Act.put, List.setIfInBounds_toArray, List.set_cons_succ, List.set_cons_zero]
    refine one_up (i := 7) (d := 11) (l2 := #[true, true, true, true, true, true, true, true, false, false, false]) rfl rfl (by kernel_rfl) (by kernel_rfl) (by rfl) (fun K hK => ?_)
    refine wp_append_ins W1.drew _ _ rfl C (.slice ca items.length cc) items _ _ _ _ _ ⟨_, _, _, rfl⟩ rfl HRow1.out _ rfl rfl HIl.out HC1.out (fun ad cap w2 hown2 hgr2 => ?_)
    obtain ⟨f1, f3, f5, f6⟩ := HStep.out _ _ hgr2
    refine hK.out _ _ (HBoxH.out _ f5) (fun hHeld3 => ?_)
    clear hK K hHeld2
    simp only [Act.put, List.setIfInBounds_toArray, List.set_cons_succ, List.set_cons_zero]
    have q2 : w2.cell? ⟨X, 44, none⟩ = some (.slice ca items.length cc) := HQ.out _ f3
    have q3 : w2.frozen? ⟨X, 44, none⟩ = false := by unfold World.frozen?; rw [f3, HX.out]; rfl
    have HFin := HPut.out w2 (.slice ad (items.length + 1) cap) f1 f3 f5 f6 hown2
    have hset : (w2.setCell ⟨X, 44, none⟩ (.slice ad (items.length + 1) cap)).heap[w.heap.size]? = W1.heap[w.heap.size]? := by rw [Below.heap_setCell w2 ⟨X, 44, none⟩ _ w.heap.size (HXB.out), f5]
    clear hown2 hgr2 f1 f3 f5 f6
    refine tky (i := 8) (d := 12) (l2 := #[true, true, true, true, true, true, true, true, true, false, false]) (v := ?v8) rfl rfl (by kernel_rfl) (by kernel_rfl) (by kernel_rfl) (by kernel_rfl) (fun _ _ _ h => h) (by rfl) ?hy8 (by assumption) ?_
    case hy8 => (intro wS hSw; (try dsimp only at hSw); (go_simp <;> with_reducible rfl))
    simp only [Act.put, List.setIfInBounds_toArray, List.set_cons_succ, List.set_cons_zero]
    refine tky (i := 9) (d := 13) (l2 := #[true, true, true, true, true, true, true, true, true, true, false]) (v := ?v9) rfl rfl (by kernel_rfl) (by kernel_rfl) (by kernel_rfl) (by kernel_rfl) (fun _ _ _ h => h) (by rfl) ?hy9 (by assumption) ?_
    case hy9 => (intro wS hSw; (try dsimp only at hSw); (go_simp <;> with_reducible rfl))
    simp only [Act.put, List.setIfInBounds_toArray, List.set_cons_succ, List.set_cons_zero]
    refine one_up_none (i := 10) (l2 := #[true, true, true, true, true, true, true, true, true, true, true]) rfl rfl (by kernel_rfl) (by kernel_rfl) (by rfl) (fun K hK => ?_)
    go_simp
    refine hK.out _ (HBoxH.out _ hset) (fun hHeld4 => ?_)
    clear hK K hHeld3 hHeld4
    refine wpAnyH_done (by kernel_rfl) ?_ _
    generalize hW4 : w2.setCell ⟨X, 44, none⟩ (.slice ad (items.length + 1) cap) = W4 at *
    clear hW4 q2 q3 k1 k2 k3 k4
    obtain ⟨e1, e2, e3⟩ := HFin.out
    have r2 : W4.drew.cell? ⟨X, 2, none⟩ = some (.int .i64 regs) := by obtain ⟨cu, h0, _, _, _, h2, _⟩ := e2; show W4.cell? _ = _; unfold World.cell?; rw [h0]; exact h2
    have r3 : W4.drew.frozen? ⟨X, 2, none⟩ = false := by obtain ⟨cu, h0, _⟩ := e2; show W4.frozen? _ = _; unfold World.frozen?; rw [h0]; rfl
    clear e1 e2 e3
    go_upto_region 2 with (fail)
    refine held_begin (n := 12) (l0 := #[false, false, false, false, false, false, false, false, false, false, false, false]) (S := fun w' => w'.cell? ⟨w.heap.size, 0, none⟩ = some (.int .i64 op) ∧ w'.cell? ⟨w.heap.size, 1, none⟩ = some (.int .i64 A) ∧ w'.cell? ⟨w.heap.size, 2, none⟩ = some (.int .i64 b) ∧ w'.cell? ⟨w.heap.size, 3, none⟩ = some (.int .i64 c) ∧ w'.cell? ⟨w.heap.size, 4, none⟩ = some (.slice ab an ac)) (by kernel_rfl) (by kernel_rfl) (by kernel_rfl) (HBoxH.out _ hset) (fun hHeld => ?_)
    refine tky (i := 0) (d := 14) (l2 := #[true, false, false, false, false, false, false, false, false, false, false, false]) (v := ?v0r) rfl rfl (by kernel_rfl) (by kernel_rfl) (by kernel_rfl) (by kernel_rfl) (fun _ _ _ h => h) (by rfl) ?hy0r (by assumption) ?_
    case hy0r => (intro wS hSw; (try dsimp only at hSw); (go_simp <;> with_reducible rfl))
    simp only [Act.put, List.setIfInBounds_toArray, List.set_cons_succ, List.set_cons_zero]
    refine tky (i := 1) (d := 15) (l2 := #[true, true, false, false, false, false, false, false, false, false, false, false]) (v := ?v1r) rfl rfl (by kernel_rfl) (by kernel_rfl) (by kernel_rfl) (by kernel_rfl) (fun _ _ _ h => h) (by rfl) ?hy1r (by assumption) ?_
    case hy1r => (intro wS hSw; (try dsimp only at hSw); (go_simp <;> with_reducible rfl))
    simp only [Act.put, List.setIfInBounds_toArray, List.set_cons_succ, List.set_cons_zero]
    refine tky (i := 2) (d := 16) (l2 := #[true, true, true, false, false, false, false, false, false, false, false, false]) (v := ?v2r) rfl rfl (by kernel_rfl) (by kernel_rfl) (by kernel_rfl) (by kernel_rfl) (fun _ _ _ h => h) (by rfl) ?hy2r (by assumption) ?_
    case hy2r => (intro wS hSw; (try dsimp only at hSw); (go_simp <;> with_reducible rfl))
    simp only [Act.put, List.setIfInBounds_toArray, List.set_cons_succ, List.set_cons_zero]
    refine tky (i := 3) (d := 17) (l2 := #[true, true, true, true, false, false, false, false, false, false, false, false]) (v := ?v3r) rfl rfl (by kernel_rfl) (by kernel_rfl) (by kernel_rfl) (by kernel_rfl) (fun _ _ _ h => h) (by rfl) ?hy3r (by assumption) ?_
    case hy3r => (intro wS hSw; (try dsimp only at hSw); (go_simp <;> with_reducible rfl))
    simp only [Act.put, List.setIfInBounds_toArray, List.set_cons_succ, List.set_cons_zero]
    refine tky (i := 5) (d := 19) (l2 := #[true, true, true, true, false, true, false, false, false, false, false, false]) (v := ?v5r) rfl rfl (by kernel_rfl) (by kernel_rfl) (by kernel_rfl) (by kernel_rfl) (fun _ _ _ h => h) (by rfl) ?hy5r (by assumption) ?_
    case hy5r => (intro wS hSw; (try dsimp only at hSw); (go_simp <;> with_reducible rfl))
    simp only [Act.put, List.setIfInBounds_toArray, List.set_cons_succ, List.set_cons_zero]
    refine tky (i := 6) (d := 20) (l2 := #[true, true, true, true, false, true, true, false, false, false, false, false]) (v := ?v6r) rfl rfl (by kernel_rfl) (by kernel_rfl) (by kernel_rfl) (by kernel_rfl) (fun _ _ _ h => h) (by rfl) ?hy6r (by assumption) ?_
    case hy6r => (intro wS hSw; (try dsimp only at hSw); (go_simp <;> with_reducible rfl))
    simp only [Act.put, List.setIfInBounds_toArray, List.set_cons_succ, List.set_cons_zero]
    refine tky (i := 7) (d := 21) (l2 := #[true, true, true, true, false, true, true, true, false, false, false, false]) (v := ?v7r) rfl rfl (by kernel_rfl) (by kernel_rfl) (by kernel_rfl) (by kernel_rfl) (fun _ _ _ h => h) (by rfl) ?hy7r (by assumption) ?_
    case hy7r => (intro wS hSw; (try dsimp only at hSw); (go_simp <;> with_reducible rfl))
    simp only [Act.put, List.setIfInBounds_toArray, List.set_cons_succ, List.set_cons_zero]
    refine one_up (i := 4) (d := 18) (l2 := #[true, true, true, true, true, true, true, true, false, false, false, false]) rfl rfl (by kernel_rfl) (by kernel_rfl) (by rfl) (fun K hK => ?_)
    go_simp
    refine hK.out _ _ (HBoxH.out _ hset) (fun hHeld4 => ?_)
    clear hK K hHeld
    simp only [Act.put, List.setIfInBounds_toArray, List.set_cons_succ, List.set_cons_zero]
    refine one_up (i := 8) (d := 22) (l2 := #[true, true, true, true, true, true, true, true, true, false, false, false]) rfl rfl (by kernel_rfl) (by kernel_rfl) (by rfl) (fun K hK => ?_)
    go_simp
    refine hK.out _ _ (HBoxH.out _ hset) (fun hHeld8 => ?_)
    clear hK K hHeld4
    simp only [Act.put, List.setIfInBounds_toArray, List.set_cons_succ, List.set_cons_zero]
    refine tky (i := 9) (d := 23) (l2 := #[true, true, true, true, true, true, true, true, true, true, false, false]) (v := ?v9r) rfl rfl (by kernel_rfl) (by kernel_rfl) (by kernel_rfl) (by kernel_rfl) (fun _ _ _ h => h) (by rfl) ?hy9r (by assumption) ?_
    case hy9r => (intro wS hSw; (try dsimp only at hSw); (go_simp <;> with_reducible rfl))
    simp only [Act.put, List.setIfInBounds_toArray, List.set_cons_succ, List.set_cons_zero]
    refine tky (i := 10) (d := 24) (l2 := #[true, true, true, true, true, true, true, true, true, true, true, false]) (v := ?v10r) rfl rfl (by kernel_rfl) (by kernel_rfl) (by kernel_rfl) (by kernel_rfl) (fun _ _ _ h => h) (by rfl) ?hy10r (by assumption) ?_
    case hy10r => (intro wS hSw; (try dsimp only at hSw); (go_simp <;> with_reducible rfl))
    simp only [Act.put, List.setIfInBounds_toArray, List.set_cons_succ, List.set_cons_zero]
    refine one_up_none (i := 11) (l2 := #[true, true, true, true, true, true, true, true, true, true, true, true]) rfl rfl (by kernel_rfl) (by kernel_rfl) (by rfl) (fun K hK => ?_)
    go_simp
    have hset5' : ∀ v : Value, (W4.setCell ⟨X, 2, none⟩ v).drew.heap[w.heap.size]? = W1.heap[w.heap.size]? := fun v => (Below.heap_setCell W4 ⟨X, 2, none⟩ _ w.heap.size HXB.out).trans hset
    refine hK.out _ (HBoxH.out _ (hset5' _)) (fun hHeld5 => ?_)
    clear hK K hHeld8 hHeld5
    refine wpAnyH_done (by kernel_rfl) ?_ _
    rw [HWr.out]
    have hset5 := hset5' (.int .i64 (max regs ((A : Int) + 1)))
    clear hset5'
    have HF5 : Hid (DFr X C w (W4.setCell ⟨X, 2, none⟩ (.int .i64 (max regs ((A : Int) + 1)))).drew ∧ DAt X (W4.setCell ⟨X, 2, none⟩ (.int .i64 (max regs ((A : Int) + 1)))).drew fv vars (max regs ((A : Int) + 1)) once U (.slice ad (items.length + 1) cap) ∧ CodeRow C (W4.setCell ⟨X, 2, none⟩ (.int .i64 (max regs ((A : Int) + 1)))).drew (.slice ad (items.length + 1) cap) (items ++ [(l, .slice ab an ac)])) := (by obtain ⟨e1, e2, e3⟩ := HFin.out; exact ⟨(e1.set 2 _).trans (DFr.of ((Below.refl _ _).drew)), e2.regs _, e3.dset e2 2 _⟩)
    generalize (W4.setCell ⟨X, 2, none⟩ (.int .i64 (max regs ((A : Int) + 1)))).drew = W5 at *
    have hbx := HBoxH.out W5 hset5
    obtain ⟨y0, y1, y2, y3, y4⟩ := hbx
    obtain ⟨m0, m1, m2⟩ := HMk.out W5 HF5.out.2.1
    clear r2 r3 hset HFin HPut HStep HRow1
    have hA0 : (0 : Int) ≤ (A : Int) := by omega
    have hA1 : (A : Int) < 40 := by omega
    have hkp : ∀ v : Value, (W5.setCell ⟨X, 3 + A, none⟩ v).drew.cell? ⟨w.heap.size, 1, none⟩ = some (.int .i64 A) := fun v => (HBoxH.out _ ((Below.heap_setCell W5 ⟨X, 3 + A, none⟩ v w.heap.size HXB.out).trans hset5)).2.1
    have HEnd : Hid (∀ m : Bool, m = false → DFr X C w (W5.setCell ⟨X, 3 + A, none⟩ (.bool m)).drew ∧ DAt X (W5.setCell ⟨X, 3 + A, none⟩ (.bool m)).drew fv vars (max regs ((A : Int) + 1)) once U (.slice ad (items.length + 1) cap) ∧ CodeRow C (W5.setCell ⟨X, 3 + A, none⟩ (.bool m)).drew (.slice ad (items.length + 1) cap) (items ++ [(l, .slice ab an ac)])) := fun m hm => (by obtain ⟨e1, e2, e3⟩ := HF5.out; exact ⟨(e1.set _ _).trans (DFr.of ((Below.refl _ _).drew)), e2.off A hA hm, e3.dset e2 _ _⟩)
    have ho := HO.out
    clear HO
    subst ho
    obtain ⟨aa, ao, hab, zc⟩ := HArg.out W5 HF5.out.1
    subst hab
    have han := HAn.out
    subst han
    obtain ⟨rfl, hB⟩ := HBB.out
    obtain ⟨rfl, hD⟩ := HDD.out
    by_cases hz : z0 = 5
    · have hzz : (z0 != 5) = false := by simp [hz]
      clear hz
      go_upto_region 11 with (fail)
      go_region_held3 (fun w' => w'.cell? ⟨w.heap.size, 1, none⟩ = some (.int .i64 A)) (first | (exact hkp _) | go_keep) (fail)
      all_goals (try go_wp2_with fail)
      all_goals (try simp only [Exit.inBlock])
      all_goals go_end0
      all_goals exact ⟨⟨_, rfl⟩, (HEnd.out false rfl).1, _, (HEnd.out false rfl).2.1, (HEnd.out false rfl).2.2⟩
    · have hzz : (z0 != 5) = true := by simp [hz]
      clear hz
      obtain ⟨mb, hmb⟩ := HMkk.out W5 B hB HF5.out.2.1
      have HF6 : Hid (DFr X C w ((W5.setCell ⟨X, 3 + B, none⟩ (.bool false)).setCell ⟨X, 3 + D, none⟩ (.bool false)).drew ∧ DAt X ((W5.setCell ⟨X, 3 + B, none⟩ (.bool false)).setCell ⟨X, 3 + D, none⟩ (.bool false)).drew fv vars (max regs ((A : Int) + 1)) once U (.slice ad (items.length + 1) cap) ∧ CodeRow C ((W5.setCell ⟨X, 3 + B, none⟩ (.bool false)).setCell ⟨X, 3 + D, none⟩ (.bool false)).drew (.slice ad (items.length + 1) cap) (items ++ [(l, .slice (some ⟨aa, ao, none⟩) 1 ac)])) := (by obtain ⟨e1, e2, e3⟩ := HF5.out; exact ⟨((e1.set _ _).set _ _).trans (DFr.of ((Below.refl _ _).drew)), (e2.off B hB rfl).off D hD rfl, (e3.dset e2 _ _).dset (e2.off B hB rfl) _ _⟩)
      obtain ⟨md, hmd⟩ := HMkk.out (W5.setCell ⟨X, 3 + B, none⟩ (.bool false)) D hD (HF5.out.2.1.off B hB rfl)
      have hmf : ∀ i, (W5.setCell ⟨X, 3 + B, none⟩ (.bool false)).frozen? ⟨X, i, none⟩ = false := HFz.out (W5.setCell ⟨X, 3 + B, none⟩ (.bool false)) (HF5.out.2.1.off B hB rfl)
      have hset61 : (W5.setCell ⟨X, 3 + B, none⟩ (.bool false)).heap[w.heap.size]? = W1.heap[w.heap.size]? := (Below.heap_setCell W5 _ _ w.heap.size HXB.out).trans hset5
      have hset6 : ((W5.setCell ⟨X, 3 + B, none⟩ (.bool false)).setCell ⟨X, 3 + D, none⟩ (.bool false)).drew.heap[w.heap.size]? = W1.heap[w.heap.size]? := (Below.heap_setCell _ _ _ w.heap.size HXB.out).trans hset61
      have kk1 : (W5.setCell ⟨X, 3 + B, none⟩ (.bool false)).drew.cell? ⟨w.heap.size, 2, none⟩ = some (.int .i64 B) ∧ (W5.setCell ⟨X, 3 + B, none⟩ (.bool false)).drew.cell? ⟨w.heap.size, 3, none⟩ = some (.int .i64 D) := ⟨(HBoxH.out _ hset61).2.2.1, (HBoxH.out _ hset61).2.2.2.1⟩
      have kk2 : ((W5.setCell ⟨X, 3 + B, none⟩ (.bool false)).setCell ⟨X, 3 + D, none⟩ (.bool false)).drew.cell? ⟨w.heap.size, 2, none⟩ = some (.int .i64 B) ∧ ((W5.setCell ⟨X, 3 + B, none⟩ (.bool false)).setCell ⟨X, 3 + D, none⟩ (.bool false)).drew.cell? ⟨w.heap.size, 3, none⟩ = some (.int .i64 D) := ⟨(HBoxH.out _ hset6).2.2.1, (HBoxH.out _ hset6).2.2.2.1⟩
      have iB0 : (0 : Int) ≤ (B : Int) := by omega
      have iB1 : (B : Int) < 40 := by omega
      have iD0 : (0 : Int) ≤ (D : Int) := by omega
      have iD1 : (D : Int) < 40 := by omega
      go_upto_region 10 with (fail)
      go_region_held3 (fun w' => w'.cell? ⟨w.heap.size, 2, none⟩ = some (.int .i64 B) ∧ w'.cell? ⟨w.heap.size, 3, none⟩ = some (.int .i64 D)) (first | (exact kk1) | (exact kk2) | go_keep) (fail)
      clear kk1 kk2 hmb hmf hmd hset61 y0 y1 y2 y3 y4 hkp HEnd
      generalize ((W5.setCell ⟨X, 3 + B, none⟩ (.bool false)).setCell ⟨X, 3 + D, none⟩ (.bool false)).drew = W6 at *
      obtain ⟨ma, hma⟩ := HMkk.out W6 A hA HF6.out.2.1
      have hmf6 := HFz.out W6 HF6.out.2.1
      have y16 := (HBoxH.out W6 hset6).2.1
      have hkp6 : ∀ v : Value, (W6.setCell ⟨X, 3 + A, none⟩ v).drew.cell? ⟨w.heap.size, 1, none⟩ = some (.int .i64 A) := fun v => (HBoxH.out _ ((Below.heap_setCell W6 ⟨X, 3 + A, none⟩ v w.heap.size HXB.out).trans hset6)).2.1
      have HEnd6 : Hid (∀ m : Bool, m = false → DFr X C w (W6.setCell ⟨X, 3 + A, none⟩ (.bool m)).drew ∧ DAt X (W6.setCell ⟨X, 3 + A, none⟩ (.bool m)).drew fv vars (max regs ((A : Int) + 1)) once U (.slice ad (items.length + 1) cap) ∧ CodeRow C (W6.setCell ⟨X, 3 + A, none⟩ (.bool m)).drew (.slice ad (items.length + 1) cap) (items ++ [(l, .slice (some ⟨aa, ao, none⟩) 1 ac)])) := fun m hm => (by obtain ⟨e1, e2, e3⟩ := HF6.out; exact ⟨(e1.set _ _).trans (DFr.of ((Below.refl _ _).drew)), e2.off A hA hm, e3.dset e2 _ _⟩)
      go_upto_region 11 with (fail)
      go_region_held3 (fun w' => w'.cell? ⟨w.heap.size, 1, none⟩ = some (.int .i64 A)) (first | (exact hkp6 _) | go_keep) (fail)
      all_goals (try go_wp2_with fail)
      all_goals (try simp only [Exit.inBlock])
      all_goals go_end0
      all_goals exact ⟨⟨_, rfl⟩, (HEnd6.out false rfl).1, _, (HEnd6.out false rfl).2.1, (HEnd6.out false rfl).2.2⟩
  · go_simp
    refine hK.out _ _ (HBoxH.out _ (by first | rfl | exact heap_lt_alloc HBl.out | exact heap_lt_alloc2 HBl.out)) (fun hHeld1 => ?_)
    clear hK K hHeld
    simp only [Act.put, List.setIfInBounds_toArray, List.set_cons_succ, List.set_cons_zero]
    refine one_up (i := 4) (d := 8) (l2 := #[true, true, true, true, true, true, true, false, false, false, false]) rfl rfl (by kernel_rfl) (by kernel_rfl) (by rfl) (fun K hK => ?_)
    go_simp
    refine hK.out _ _ (HBoxH.out _ (by first | rfl | exact heap_lt_alloc HBl.out | exact heap_lt_alloc2 HBl.out)) (fun hHeld2 => ?_)
    clear hK K hHeld1
    simp only [Act.put, List.setIfInBounds_toArray, List.set_cons_succ, List.set_cons_zero]
    change wpAnyH _ _ _ _ _ _ _ _ (W1.drew.alloc _)
    refine one_up (i := 7) (d := 11) (l2 := #[true, true, true, true, true, true, true, true, false, false, false]) rfl rfl (by kernel_rfl) (by kernel_rfl) (by rfl) (fun K hK => ?_)
    refine wp_append_ins W1.drew _ _ rfl C (.slice ca items.length cc) items _ _ _ _ _ ⟨_, _, _, rfl⟩ rfl HRow1.out _ rfl rfl HIl.out HC1.out (fun ad cap w2 hown2 hgr2 => ?_)
    obtain ⟨f1, f3, f5, f6⟩ := HStep.out _ _ hgr2
    refine hK.out _ _ (HBoxH.out _ f5) (fun hHeld3 => ?_)
    clear hK K hHeld2
    simp only [Act.put, List.setIfInBounds_toArray, List.set_cons_succ, List.set_cons_zero]
    have q2 : w2.cell? ⟨X, 44, none⟩ = some (.slice ca items.length cc) := HQ.out _ f3
    have q3 : w2.frozen? ⟨X, 44, none⟩ = false := by unfold World.frozen?; rw [f3, HX.out]; rfl
    have HFin := HPut.out w2 (.slice ad (items.length + 1) cap) f1 f3 f5 f6 hown2
    have hset : (w2.setCell ⟨X, 44, none⟩ (.slice ad (items.length + 1) cap)).heap[w.heap.size]? = W1.heap[w.heap.size]? := by rw [Below.heap_setCell w2 ⟨X, 44, none⟩ _ w.heap.size (HXB.out), f5]
    clear hown2 hgr2 f1 f3 f5 f6
    refine tky (i := 8) (d := 12) (l2 := #[true, true, true, true, true, true, true, true, true, false, false]) (v := ?v8) rfl rfl (by kernel_rfl) (by kernel_rfl) (by kernel_rfl) (by kernel_rfl) (fun _ _ _ h => h) (by rfl) ?hy8 (by assumption) ?_
    case hy8 => (intro wS hSw; (try dsimp only at hSw); (go_simp <;> with_reducible rfl))
    simp only [Act.put, List.setIfInBounds_toArray, List.set_cons_succ, List.set_cons_zero]
    refine tky (i := 9) (d := 13) (l2 := #[true, true, true, true, true, true, true, true, true, true, false]) (v := ?v9) rfl rfl (by kernel_rfl) (by kernel_rfl) (by kernel_rfl) (by kernel_rfl) (fun _ _ _ h => h) (by rfl) ?hy9 (by assumption) ?_
    case hy9 => (intro wS hSw; (try dsimp only at hSw); (go_simp <;> with_reducible rfl))
    simp only [Act.put, List.setIfInBounds_toArray, List.set_cons_succ, List.set_cons_zero]
    refine one_up_none (i := 10) (l2 := #[true, true, true, true, true, true, true, true, true, true, true]) rfl rfl (by kernel_rfl) (by kernel_rfl) (by rfl) (fun K hK => ?_)
    go_simp
    refine hK.out _ (HBoxH.out _ hset) (fun hHeld4 => ?_)
    clear hK K hHeld3 hHeld4
    refine wpAnyH_done (by kernel_rfl) ?_ _
    generalize hW4 : w2.setCell ⟨X, 44, none⟩ (.slice ad (items.length + 1) cap) = W4 at *
    clear hW4 q2 q3 k1 k2 k3 k4
    obtain ⟨e1, e2, e3⟩ := HFin.out
    have r2 : W4.drew.cell? ⟨X, 2, none⟩ = some (.int .i64 regs) := by obtain ⟨cu, h0, _, _, _, h2, _⟩ := e2; show W4.cell? _ = _; unfold World.cell?; rw [h0]; exact h2
    have r3 : W4.drew.frozen? ⟨X, 2, none⟩ = false := by obtain ⟨cu, h0, _⟩ := e2; show W4.frozen? _ = _; unfold World.frozen?; rw [h0]; rfl
    clear e1 e2 e3
    go_upto_region 2 with (fail)
    refine held_begin (n := 12) (l0 := #[false, false, false, false, false, false, false, false, false, false, false, false]) (S := fun w' => w'.cell? ⟨w.heap.size, 0, none⟩ = some (.int .i64 op) ∧ w'.cell? ⟨w.heap.size, 1, none⟩ = some (.int .i64 A) ∧ w'.cell? ⟨w.heap.size, 2, none⟩ = some (.int .i64 b) ∧ w'.cell? ⟨w.heap.size, 3, none⟩ = some (.int .i64 c) ∧ w'.cell? ⟨w.heap.size, 4, none⟩ = some (.slice ab an ac)) (by kernel_rfl) (by kernel_rfl) (by kernel_rfl) (HBoxH.out _ hset) (fun hHeld => ?_)
    refine tky (i := 0) (d := 14) (l2 := #[true, false, false, false, false, false, false, false, false, false, false, false]) (v := ?v0r) rfl rfl (by kernel_rfl) (by kernel_rfl) (by kernel_rfl) (by kernel_rfl) (fun _ _ _ h => h) (by rfl) ?hy0r (by assumption) ?_
    case hy0r => (intro wS hSw; (try dsimp only at hSw); (go_simp <;> with_reducible rfl))
    simp only [Act.put, List.setIfInBounds_toArray, List.set_cons_succ, List.set_cons_zero]
    refine tky (i := 1) (d := 15) (l2 := #[true, true, false, false, false, false, false, false, false, false, false, false]) (v := ?v1r) rfl rfl (by kernel_rfl) (by kernel_rfl) (by kernel_rfl) (by kernel_rfl) (fun _ _ _ h => h) (by rfl) ?hy1r (by assumption) ?_
    case hy1r => (intro wS hSw; (try dsimp only at hSw); (go_simp <;> with_reducible rfl))
    simp only [Act.put, List.setIfInBounds_toArray, List.set_cons_succ, List.set_cons_zero]
    refine tky (i := 2) (d := 16) (l2 := #[true, true, true, false, false, false, false, false, false, false, false, false]) (v := ?v2r) rfl rfl (by kernel_rfl) (by kernel_rfl) (by kernel_rfl) (by kernel_rfl) (fun _ _ _ h => h) (by rfl) ?hy2r (by assumption) ?_
    case hy2r => (intro wS hSw; (try dsimp only at hSw); (go_simp <;> with_reducible rfl))
    simp only [Act.put, List.setIfInBounds_toArray, List.set_cons_succ, List.set_cons_zero]
    refine tky (i := 3) (d := 17) (l2 := #[true, true, true, true, false, false, false, false, false, false, false, false]) (v := ?v3r) rfl rfl (by kernel_rfl) (by kernel_rfl) (by kernel_rfl) (by kernel_rfl) (fun _ _ _ h => h) (by rfl) ?hy3r (by assumption) ?_
    case hy3r => (intro wS hSw; (try dsimp only at hSw); (go_simp <;> with_reducible rfl))
    simp only [Act.put, List.setIfInBounds_toArray, List.set_cons_succ, List.set_cons_zero]
    refine tky (i := 5) (d := 19) (l2 := #[true, true, true, true, false, true, false, false, false, false, false, false]) (v := ?v5r) rfl rfl (by kernel_rfl) (by kernel_rfl) (by kernel_rfl) (by kernel_rfl) (fun _ _ _ h => h) (by rfl) ?hy5r (by assumption) ?_
    case hy5r => (intro wS hSw; (try dsimp only at hSw); (go_simp <;> with_reducible rfl))
    simp only [Act.put, List.setIfInBounds_toArray, List.set_cons_succ, List.set_cons_zero]
    refine tky (i := 6) (d := 20) (l2 := #[true, true, true, true, false, true, true, false, false, false, false, false]) (v := ?v6r) rfl rfl (by kernel_rfl) (by kernel_rfl) (by kernel_rfl) (by kernel_rfl) (fun _ _ _ h => h) (by rfl) ?hy6r (by assumption) ?_
    case hy6r => (intro wS hSw; (try dsimp only at hSw); (go_simp <;> with_reducible rfl))
    simp only [Act.put, List.setIfInBounds_toArray, List.set_cons_succ, List.set_cons_zero]
    refine tky (i := 7) (d := 21) (l2 := #[true, true, true, true, false, true, true, true, false, false, false, false]) (v := ?v7r) rfl rfl (by kernel_rfl) (by kernel_rfl) (by kernel_rfl) (by kernel_rfl) (fun _ _ _ h => h) (by rfl) ?hy7r (by assumption) ?_
    case hy7r => (intro wS hSw; (try dsimp only at hSw); (go_simp <;> with_reducible rfl))
    simp only [Act.put, List.setIfInBounds_toArray, List.set_cons_succ, List.set_cons_zero]
    refine one_up (i := 4) (d := 18) (l2 := #[true, true, true, true, true, true, true, true, false, false, false, false]) rfl rfl (by kernel_rfl) (by kernel_rfl) (by rfl) (fun K hK => ?_)
    go_simp
    refine hK.out _ _ (HBoxH.out _ hset) (fun hHeld4 => ?_)
    clear hK K hHeld
    simp only [Act.put, List.setIfInBounds_toArray, List.set_cons_succ, List.set_cons_zero]
    refine one_up (i := 8) (d := 22) (l2 := #[true, true, true, true, true, true, true, true, true, false, false, false]) rfl rfl (by kernel_rfl) (by kernel_rfl) (by rfl) (fun K hK => ?_)
    go_simp
    refine hK.out _ _ (HBoxH.out _ hset) (fun hHeld8 => ?_)
    clear hK K hHeld4
    simp only [Act.put, List.setIfInBounds_toArray, List.set_cons_succ, List.set_cons_zero]
    refine tky (i := 9) (d := 23) (l2 := #[true, true, true, true, true, true, true, true, true, true, false, false]) (v := ?v9r) rfl rfl (by kernel_rfl) (by kernel_rfl) (by kernel_rfl) (by kernel_rfl) (fun _ _ _ h => h) (by rfl) ?hy9r (by assumption) ?_
    case hy9r => (intro wS hSw; (try dsimp only at hSw); (go_simp <;> with_reducible rfl))
    simp only [Act.put, List.setIfInBounds_toArray, List.set_cons_succ, List.set_cons_zero]
    refine tky (i := 10) (d := 24) (l2 := #[true, true, true, true, true, true, true, true, true, true, true, false]) (v := ?v10r) rfl rfl (by kernel_rfl) (by kernel_rfl) (by kernel_rfl) (by kernel_rfl) (fun _ _ _ h => h) (by rfl) ?hy10r (by assumption) ?_
    case hy10r => (intro wS hSw; (try dsimp only at hSw); (go_simp <;> with_reducible rfl))
    simp only [Act.put, List.setIfInBounds_toArray, List.set_cons_succ, List.set_cons_zero]
    refine one_up_none (i := 11) (l2 := #[true, true, true, true, true, true, true, true, true, true, true, true]) rfl rfl (by kernel_rfl) (by kernel_rfl) (by rfl) (fun K hK => ?_)
    go_simp
    have hset5' : ∀ v : Value, (W4.setCell ⟨X, 2, none⟩ v).drew.heap[w.heap.size]? = W1.heap[w.heap.size]? := fun v => (Below.heap_setCell W4 ⟨X, 2, none⟩ _ w.heap.size HXB.out).trans hset
    refine hK.out _ (HBoxH.out _ (hset5' _)) (fun hHeld5 => ?_)
    clear hK K hHeld8 hHeld5
    refine wpAnyH_done (by kernel_rfl) ?_ _
    rw [HWr.out]
    have hset5 := hset5' (.int .i64 (max regs ((A : Int) + 1)))
    clear hset5'
    have HF5 : Hid (DFr X C w (W4.setCell ⟨X, 2, none⟩ (.int .i64 (max regs ((A : Int) + 1)))).drew ∧ DAt X (W4.setCell ⟨X, 2, none⟩ (.int .i64 (max regs ((A : Int) + 1)))).drew fv vars (max regs ((A : Int) + 1)) once U (.slice ad (items.length + 1) cap) ∧ CodeRow C (W4.setCell ⟨X, 2, none⟩ (.int .i64 (max regs ((A : Int) + 1)))).drew (.slice ad (items.length + 1) cap) (items ++ [(l, .slice ab an ac)])) := (by obtain ⟨e1, e2, e3⟩ := HFin.out; exact ⟨(e1.set 2 _).trans (DFr.of ((Below.refl _ _).drew)), e2.regs _, e3.dset e2 2 _⟩)
    generalize (W4.setCell ⟨X, 2, none⟩ (.int .i64 (max regs ((A : Int) + 1)))).drew = W5 at *
    have hbx := HBoxH.out W5 hset5
    obtain ⟨y0, y1, y2, y3, y4⟩ := hbx
    obtain ⟨m0, m1, m2⟩ := HMk.out W5 HF5.out.2.1
    clear r2 r3 hset HFin HPut HStep HRow1
    have hA0 : (0 : Int) ≤ (A : Int) := by omega
    have hA1 : (A : Int) < 40 := by omega
    have hkp : ∀ v : Value, (W5.setCell ⟨X, 3 + A, none⟩ v).drew.cell? ⟨w.heap.size, 1, none⟩ = some (.int .i64 A) := fun v => (HBoxH.out _ ((Below.heap_setCell W5 ⟨X, 3 + A, none⟩ v w.heap.size HXB.out).trans hset5)).2.1
    have HEnd : Hid (∀ m : Bool, m = false → DFr X C w (W5.setCell ⟨X, 3 + A, none⟩ (.bool m)).drew ∧ DAt X (W5.setCell ⟨X, 3 + A, none⟩ (.bool m)).drew fv vars (max regs ((A : Int) + 1)) once U (.slice ad (items.length + 1) cap) ∧ CodeRow C (W5.setCell ⟨X, 3 + A, none⟩ (.bool m)).drew (.slice ad (items.length + 1) cap) (items ++ [(l, .slice ab an ac)])) := fun m hm => (by obtain ⟨e1, e2, e3⟩ := HF5.out; exact ⟨(e1.set _ _).trans (DFr.of ((Below.refl _ _).drew)), e2.off A hA hm, e3.dset e2 _ _⟩)
    have ho := HO.out
    clear HO
    subst ho
    obtain ⟨aa, ao, hab, zc⟩ := HArg.out W5 HF5.out.1
    subst hab
    have han := HAn.out
    subst han
    obtain ⟨rfl, hB⟩ := HBB.out
    obtain ⟨rfl, hD⟩ := HDD.out
    by_cases hz : z0 = 5
    · have hzz : (z0 != 5) = false := by simp [hz]
      clear hz
      go_upto_region 11 with (fail)
      go_region_held3 (fun w' => w'.cell? ⟨w.heap.size, 1, none⟩ = some (.int .i64 A)) (first | (exact hkp _) | go_keep) (fail)
      all_goals (try go_wp2_with fail)
      all_goals (try simp only [Exit.inBlock])
      all_goals go_end0
      all_goals exact ⟨⟨_, rfl⟩, (HEnd.out false rfl).1, _, (HEnd.out false rfl).2.1, (HEnd.out false rfl).2.2⟩
    · have hzz : (z0 != 5) = true := by simp [hz]
      clear hz
      obtain ⟨mb, hmb⟩ := HMkk.out W5 B hB HF5.out.2.1
      have HF6 : Hid (DFr X C w ((W5.setCell ⟨X, 3 + B, none⟩ (.bool false)).setCell ⟨X, 3 + D, none⟩ (.bool false)).drew ∧ DAt X ((W5.setCell ⟨X, 3 + B, none⟩ (.bool false)).setCell ⟨X, 3 + D, none⟩ (.bool false)).drew fv vars (max regs ((A : Int) + 1)) once U (.slice ad (items.length + 1) cap) ∧ CodeRow C ((W5.setCell ⟨X, 3 + B, none⟩ (.bool false)).setCell ⟨X, 3 + D, none⟩ (.bool false)).drew (.slice ad (items.length + 1) cap) (items ++ [(l, .slice (some ⟨aa, ao, none⟩) 1 ac)])) := (by obtain ⟨e1, e2, e3⟩ := HF5.out; exact ⟨((e1.set _ _).set _ _).trans (DFr.of ((Below.refl _ _).drew)), (e2.off B hB rfl).off D hD rfl, (e3.dset e2 _ _).dset (e2.off B hB rfl) _ _⟩)
      obtain ⟨md, hmd⟩ := HMkk.out (W5.setCell ⟨X, 3 + B, none⟩ (.bool false)) D hD (HF5.out.2.1.off B hB rfl)
      have hmf : ∀ i, (W5.setCell ⟨X, 3 + B, none⟩ (.bool false)).frozen? ⟨X, i, none⟩ = false := HFz.out (W5.setCell ⟨X, 3 + B, none⟩ (.bool false)) (HF5.out.2.1.off B hB rfl)
      have hset61 : (W5.setCell ⟨X, 3 + B, none⟩ (.bool false)).heap[w.heap.size]? = W1.heap[w.heap.size]? := (Below.heap_setCell W5 _ _ w.heap.size HXB.out).trans hset5
      have hset6 : ((W5.setCell ⟨X, 3 + B, none⟩ (.bool false)).setCell ⟨X, 3 + D, none⟩ (.bool false)).drew.heap[w.heap.size]? = W1.heap[w.heap.size]? := (Below.heap_setCell _ _ _ w.heap.size HXB.out).trans hset61
      have kk1 : (W5.setCell ⟨X, 3 + B, none⟩ (.bool false)).drew.cell? ⟨w.heap.size, 2, none⟩ = some (.int .i64 B) ∧ (W5.setCell ⟨X, 3 + B, none⟩ (.bool false)).drew.cell? ⟨w.heap.size, 3, none⟩ = some (.int .i64 D) := ⟨(HBoxH.out _ hset61).2.2.1, (HBoxH.out _ hset61).2.2.2.1⟩
      have kk2 : ((W5.setCell ⟨X, 3 + B, none⟩ (.bool false)).setCell ⟨X, 3 + D, none⟩ (.bool false)).drew.cell? ⟨w.heap.size, 2, none⟩ = some (.int .i64 B) ∧ ((W5.setCell ⟨X, 3 + B, none⟩ (.bool false)).setCell ⟨X, 3 + D, none⟩ (.bool false)).drew.cell? ⟨w.heap.size, 3, none⟩ = some (.int .i64 D) := ⟨(HBoxH.out _ hset6).2.2.1, (HBoxH.out _ hset6).2.2.2.1⟩
      have iB0 : (0 : Int) ≤ (B : Int) := by omega
      have iB1 : (B : Int) < 40 := by omega
      have iD0 : (0 : Int) ≤ (D : Int) := by omega
      have iD1 : (D : Int) < 40 := by omega
      go_upto_region 10 with (fail)
      go_region_held3 (fun w' => w'.cell? ⟨w.heap.size, 2, none⟩ = some (.int .i64 B) ∧ w'.cell? ⟨w.heap.size, 3, none⟩ = some (.int .i64 D)) (first | (exact kk1) | (exact kk2) | go_keep) (fail)
      clear kk1 kk2 hmb hmf hmd hset61 y0 y1 y2 y3 y4 hkp HEnd
      generalize ((W5.setCell ⟨X, 3 + B, none⟩ (.bool false)).setCell ⟨X, 3 + D, none⟩ (.bool false)).drew = W6 at *
      obtain ⟨ma, hma⟩ := HMkk.out W6 A hA HF6.out.2.1
      have hmf6 := HFz.out W6 HF6.out.2.1
      have y16 := (HBoxH.out W6 hset6).2.1
      have hkp6 : ∀ v : Value, (W6.setCell ⟨X, 3 + A, none⟩ v).drew.cell? ⟨w.heap.size, 1, none⟩ = some (.int .i64 A) := fun v => (HBoxH.out _ ((Below.heap_setCell W6 ⟨X, 3 + A, none⟩ v w.heap.size HXB.out).trans hset6)).2.1
      have HEnd6 : Hid (∀ m : Bool, m = false → DFr X C w (W6.setCell ⟨X, 3 + A, none⟩ (.bool m)).drew ∧ DAt X (W6.setCell ⟨X, 3 + A, none⟩ (.bool m)).drew fv vars (max regs ((A : Int) + 1)) once U (.slice ad (items.length + 1) cap) ∧ CodeRow C (W6.setCell ⟨X, 3 + A, none⟩ (.bool m)).drew (.slice ad (items.length + 1) cap) (items ++ [(l, .slice (some ⟨aa, ao, none⟩) 1 ac)])) := fun m hm => (by obtain ⟨e1, e2, e3⟩ := HF6.out; exact ⟨(e1.set _ _).trans (DFr.of ((Below.refl _ _).drew)), e2.off A hA hm, e3.dset e2 _ _⟩)
      go_upto_region 11 with (fail)
      go_region_held3 (fun w' => w'.cell? ⟨w.heap.size, 1, none⟩ = some (.int .i64 A)) (first | (exact hkp6 _) | go_keep) (fail)
      all_goals (try go_wp2_with fail)
      all_goals (try simp only [Exit.inBlock])
      all_goals go_end0
      all_goals exact ⟨⟨_, rfl⟩, (HEnd6.out false rfl).1, _, (HEnd6.out false rfl).2.1, (HEnd6.out false rfl).2.2⟩
end Go.Proofs.YtbmenihakkogkabGreatDoor
