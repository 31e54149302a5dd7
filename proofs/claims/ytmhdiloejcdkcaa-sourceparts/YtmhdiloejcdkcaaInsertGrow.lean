/- slices.Insert of one statement where there is no room: a new row. -/
import Derived.Test.YtmhdiloejcdkcaaInsert
namespace Go.Proofs.Ytmhdiloejcdkcaa
open Go.RowKit Go.Maps

def zero58 : Value := .agg #[.int .i64 0, .int .i64 0, .slice none 0 0, .slice none 0 0, .slice none 0 0, .slice none 0 0]

theorem zeros_size (m : Nat) : (Builtin.zeroCells zero58.cells m).size = m * 6 := by
  simp [Builtin.zeroCells, zero58, Value.cells]

set_option maxHeartbeats 4000000 in
set_option maxRecDepth 100000 in
theorem insert_grow (base g cap n k vb : Nat) (c : Nat → Value) (w : World) (hbase : base ≤ w.heap.size) (hown : w.ownsRow base 58 6 (.slice (some ⟨g, 0, none⟩) n cap) n (cellsL (n * 6) c)) (h1 : ∀ u ∈ cellsL (n * 6) c, u.oneCell' = true) (hk : k < n) (hn : n ≤ 1000)
    (hv : w.heap[vb]? = some (.cells (one_ k c).toArray 58 (0, 0))) (hroom : cap < n + 1) :
    Calls Try.prog 34 #[.slice (some ⟨g, 0, none⟩) n cap, .int .i64 k, .slice (some ⟨vb, 0, none⟩) 1 1] w fun e w' => ∃ cp, e = .returned (.slice (some ⟨w.heap.size, 0, none⟩) (n + 1) cp) ∧ w'.ownsRow base 58 6 (.slice (some ⟨w.heap.size, 0, none⟩) (n + 1) cp) (n + 1) (cellsL ((n + 1) * 6) (pickC (doubled k) c)) ∧ Below base w w' := by
  obtain ⟨i0, hi0, hz0, hz1, hzb⟩ := info_parts info58
  obtain ⟨n', rfl⟩ : ∃ n', n = n' + 1 := ⟨n - 1, by omega⟩
  obtain ⟨_, _, e', hgb, hgl, hnc, hcm⟩ := own_block hown
  cases e'
  obtain rfl : cap = n' + 1 := by omega
  have hcell : ∀ j, j < (n' + 1) * 6 → w.cell? ⟨g, j, none⟩ = some (c j) := fun j hj => by rw [hown.cellAt j (by omega), cellsL_at hj]
  have hf : (from_ (n' + 1) k c).length = (n' + 1 - k) * 6 := cellsL_len _ _
  have ho : (one_ k c).length = 6 := cellsL_len _ _
  have hone : ∀ j, j < (n' + 1) * 6 → (c j).oneCell' = true := fun j hj => h1 _ (List.mem_iff_getElem?.2 ⟨j, cellsL_at hj⟩)
  have hvlt : vb < w.heap.size := by
    by_cases h : vb < w.heap.size
    · exact h
    · rw [Array.getElem?_eq_none (Nat.le_of_not_lt h)] at hv; cases hv
  have hvcell : ∀ j, j < 6 → w.cell? ⟨vb, j, none⟩ = some (c (k * 6 + j)) := fun j hj => by
    simp only [World.cell?, hv]
    simp [one_, cellsL, hj]
  have hkk : (n' : Int) + 1 + 1 - (k : Int) = ((n' + 1 + 1 - k : Nat) : Int) := by omega
  have hik : k + (n' + 1 + 1 - k) = n' + 1 + 1 := by omega
  have hold : (Builtin.firstCells i0.size k (.slice (some ⟨g, 0, none⟩) k (n' + 1))).run Try.prog w.drew = .ok (cellsL (k * 6) c).toArray w.drew := by
    rw [hz1]
    exact run_firstCells_some w.drew 6 k ⟨g, 0, none⟩ k (n' + 1) (cellsL (k * 6) c) (cellsL_len _ _) (fun j v hj => by
      obtain ⟨hl, rfl⟩ := cellsL_some hj
      rw [WideShapes.add_plain, Nat.zero_add]
      exact hcell j (by omega))
  obtain ⟨G, hG⟩ : ∃ G, G = grownCap w (n' + 1 + 1) (n' + 1) 58 := ⟨_, rfl⟩
  obtain ⟨ROW, hROW⟩ : ∃ ROW : Array Value, ROW = (cellsL (k * 6) c).toArray ++ Builtin.zeroCells zero58.cells (n' + 1 + 1 - k) ++ Builtin.zeroCells zero58.cells (G - (n' + 1 + 1)) := ⟨_, rfl⟩
  have hrz : ∀ ty, (Builtin.append_ #[52, 3] ty #[.slice (some ⟨g, 0, none⟩) k (n' + 1), .int .i64 ((n' : Int) + 1 + 1 - (k : Int))]).run Try.prog w =
      .ok (.slice (some ⟨w.heap.size, 0, none⟩) (n' + 1 + 1) G) (w.drew.alloc (.cells ROW 58)) := fun ty => by
    have h := Lib.run_append_grow_zeros w 52 3 ty 58 i0 zero58 .i64 .i64 Try.underlying52 Try.underlying3 hi0 hz0 (some ⟨g, 0, none⟩) k (n' + 1) (cellsL (k * 6) c) hold (n' + 1 + 1 - k) (by omega) (by omega) (by omega) (by omega) (by rw [hzb]; omega) (by rw [hzb, hik]; exact growslice_fits (by omega) (by omega))
    rw [hik] at h
    rw [hkk, hG, hROW, hG]
    exact h
  have hGn : n' + 1 + 1 ≤ G := by rw [hG]; exact grownCap_ge w _ _ _
  have hGm : G ≤ maxLen := by rw [hG]; exact grownCap_le_maxLen w _ _ _ (by unfold maxLen; omega)
  have hRsz : ROW.size = G * 6 := by
    rw [hROW, Array.size_append, Array.size_append, zeros_size, zeros_size, List.size_toArray, cellsL_len]
    omega
  have hownR : (w.drew.alloc (.cells ROW 58)).ownsRow base 58 6 (.slice (some ⟨w.heap.size, 0, none⟩) (n' + 1 + 1) G) (n' + 1 + 1) (ROW.toList.take ((n' + 1 + 1) * 6)) :=
    ⟨by rw [List.length_take, Array.length_toList, hRsz]; omega, Or.inr ⟨w.heap.size, G, ROW, rfl, hbase, heap_alloc_new w.drew _, hGn, hGm, hRsz, rfl⟩⟩
  have hxs : (ROW.toList.take ((n' + 1 + 1) * 6)).length = (n' + 1 + 1) * 6 := by rw [List.length_take, Array.length_toList, hRsz]; omega
  have hx0 : ∀ j, j < k * 6 → (ROW.toList.take ((n' + 1 + 1) * 6))[j]? = some (c j) := fun j hj => by
    rw [List.getElem?_take, if_pos (by omega), hROW, Array.toList_append, Array.toList_append, List.append_assoc, List.getElem?_append_left (by rw [List.toList_toArray, cellsL_len]; omega), List.toList_toArray, cellsL_at hj]
  obtain ⟨W1, hW1⟩ : ∃ W1, W1 = w.drew.alloc (.cells ROW 58) := ⟨_, rfl⟩
  have hOb : ∀ j v, w.cell? ⟨g, j, none⟩ = some v → W1.cell? ⟨g, j, none⟩ = some v := fun j v h => by rw [hW1]; exact ((below_alloc w.drew _).cell (p := ⟨g, j, none⟩) hgl).trans h
  have hOv : ∀ j v, w.cell? ⟨vb, j, none⟩ = some v → W1.cell? ⟨vb, j, none⟩ = some v := fun j v h => by rw [hW1]; exact ((below_alloc w.drew _).cell (p := ⟨vb, j, none⟩) hvlt).trans h
  rw [← hW1] at hrz hownR
  have o1 := own_setCells (one_ k c) W1 _ (k * 6) hownR
  have od := o1.drew
  have hcpA : ∀ ty dc, (Builtin.copy_ #[52, 52] ty #[.slice (some ⟨w.heap.size, k * 6, none⟩) (n' + 1 + 1 - k) dc, .slice (some ⟨vb, 0, none⟩) 1 1]).run Try.prog W1 = .ok (goInt 1) (W1.setCells w.heap.size (k * 6) (one_ k c)) := fun ty dc => by
    have := run_copy6 W1 ty w.heap.size (k * 6) (n' + 1 + 1 - k) dc ⟨vb, 0, none⟩ 1 1 (one_ k c) (by rw [ho]; simp only [Nat.min_def]; rw [if_pos (by omega)])
      (fun j v hj => by
        obtain ⟨hl, rfl⟩ := cellsL_some hj
        rw [WideShapes.add_plain, Nat.zero_add]
        exact hOv _ _ (hvcell j hl))
      (fun j hj => by rw [hownR.cellAt _ (by omega), List.getElem?_eq_getElem (by rw [hxs]; omega)]; rfl) (fun j _ => hownR.frozenAt _)
      (fun v hv' => by obtain ⟨j, hj⟩ := List.mem_iff_getElem?.1 hv'; obtain ⟨hl, rfl⟩ := cellsL_some hj; exact hone _ (by omega))
    rw [show Nat.min 1 (n' + 1 + 1 - k) = 1 by simp only [Nat.min_def]; rw [if_pos (by omega)]] at this
    exact this
  have hcpB : ∀ ty dc sc, (Builtin.copy_ #[52, 52] ty #[.slice (some ⟨w.heap.size, (k + 1) * 6, none⟩) (n' + 1 - k) dc, .slice (some ⟨g, k * 6, none⟩) (n' + 1 - k) sc]).run Try.prog (W1.setCells w.heap.size (k * 6) (one_ k c)).drew = .ok (goInt ((n' + 1 - k : Nat) : Int)) ((W1.setCells w.heap.size (k * 6) (one_ k c)).drew.setCells w.heap.size ((k + 1) * 6) (from_ (n' + 1) k c)) := fun ty dc sc => by
    have := run_copy6 (W1.setCells w.heap.size (k * 6) (one_ k c)).drew ty w.heap.size ((k + 1) * 6) (n' + 1 - k) dc ⟨g, k * 6, none⟩ (n' + 1 - k) sc (from_ (n' + 1) k c) (by rw [hf]; congr 1; simp only [Nat.min_def]; split <;> omega)
      (fun j v hj => by
        obtain ⟨hl, rfl⟩ := cellsL_some hj
        rw [WideShapes.add_plain]
        rw [World.cell?_drew, World.cell?_setCells_out _ _ _ _ _ (fun h _ => by have h' : g = w.heap.size := h; omega)]
        exact hOb _ _ (hcell _ (by omega)))
      (fun j hj => by
        rw [od.cellAt _ (by omega), List.getElem?_eq_getElem (by rw [setAll_len, hxs]; omega)]; rfl) (fun j _ => od.frozenAt _)
      (fun v hv' => by obtain ⟨j, hj⟩ := List.mem_iff_getElem?.1 hv'; obtain ⟨hl, rfl⟩ := cellsL_some hj; exact hone _ (by omega))
    rw [show Nat.min (n' + 1 - k) (n' + 1 - k) = n' + 1 - k by simp only [Nat.min_def]; split <;> omega] at this
    exact this
  have HO : Hid (((W1.setCells w.heap.size (k * 6) (one_ k c)).drew.setCells w.heap.size ((k + 1) * 6) (from_ (n' + 1) k c)).ownsRow base 58 6 (.slice (some ⟨w.heap.size, 0, none⟩) (n' + 1 + 1) G) (n' + 1 + 1) (cellsL ((n' + 1 + 1) * 6) (pickC (doubled k) c))) := by
    have o2 := own_setCells (from_ (n' + 1) k c) _ _ ((k + 1) * 6) od
    rw [(doubled_at hk hxs hx0).2] at o2
    exact o2
  have HB : Hid (Below base w ((W1.setCells w.heap.size (k * 6) (one_ k c)).drew.setCells w.heap.size ((k + 1) * 6) (from_ (n' + 1) k c))) := by
    refine below_setCells hbase _ _ _ (Below.drew (below_setCells hbase _ _ _ ?_))
    rw [hW1]
    exact ((Below.refl base w).drew).alloc hbase _
  have hz2 : ((k : Int) == (n' : Int) + 1) = false := by simp; omega
  have hb2 : ¬ (G = k + 1) := by omega
  have hb4 : ¬ (n' + 1 = k) := by omega
  have hb5 : ¬ (G = k) := by omega
  have hin : k ≤ n' + 1 := by omega
  have hin2 : k ≤ n' + 1 + 1 := by omega
  have hG63 : G ≤ 9223372036854775807 := by unfold maxLen at hGm; omega
  have hw1 : IntKind.i64.wrap ((k : Int) + 1) = (k : Int) + 1 := by rw [IntKind.wrap_i64]; omega
  have hp0 : (0 : Int) ≤ (k : Int) + 1 := by omega
  have hp1 : (k : Int) + 1 ≤ (n' : Int) + 1 + 1 := by omega
  have hp3 : (k : Int) ≤ (n' : Int) + 1 + 1 := by omega
  have hp4 : (k : Int) ≤ (n' : Int) + 1 := by omega
  have htn : ((k : Int) + 1).toNat = k + 1 := by omega
  clear hown h1 hcell hf ho hone hv hvcell hold hROW hG hRsz hownR hxs hx0 hOb hOv o1 od hW1 hGm hkk hik
  go_enter Try.func34, Try.ntmps34
  go_wp2_with (first
    | (at_builtin; refine Lib.wpList_append_run _ rfl _ _ _ _ rfl _ _ rfl rfl _ _ (hrz _) ?_)
    | (at_builtin; refine at_copy6 rfl _ _ rfl _ _ rfl rfl (hcpA _ _) ?_))
  go_region_law (refine step_copy6 rfl (.tmp 50) (.tmp 53) rfl (.slice (some ⟨w.heap.size, (k + 1) * 6, none⟩) (n' + 1 - k) (G - (k + 1))) (.slice (some ⟨g, k * 6, none⟩) (n' + 1 - k) (n' + 1 - k)) (by simp [Act.eval, Act.put]) (by simp [Act.eval, Act.put]) (hcpB _ _ _) ?_)
  go_wp2_with fail
  go_ret
  exact ⟨G, rfl, HO.out, HB.out⟩

end Go.Proofs.Ytmhdiloejcdkcaa
