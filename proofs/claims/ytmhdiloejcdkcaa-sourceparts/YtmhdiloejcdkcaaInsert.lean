/- slices.Insert of one statement, over a row of the call's own: in place where there is room, else in a new row. -/
import Derived.Test.YtmhdiloejcdkcaaDelete
import Derived.Lib.Overlaps
import Derived.Lib.AppendZerosOnto
import Derived.Laws.NewBlocks
import Derived.Laws.Externs
namespace Go.Proofs.Ytmhdiloejcdkcaa
open Go.RowKit Go.Maps

/-- copy of statements, cell by cell. -/
theorem run_copy6 (w : World) (ty : TypeId) (b o dLen dCap : Nat) (a : Addr) (sLen sCap : Nat) (cs : List Value) (hn : cs.length = Nat.min sLen dLen * 6) (hsrc : ∀ j v, cs[j]? = some v → w.cell? (a.add j) = some v)
    (hc : ∀ j, j < cs.length → (w.cell? ⟨b, o + j, none⟩).isSome = true) (hf : ∀ j, j < cs.length → w.frozen? ⟨b, o + j, none⟩ = false) (h1 : ∀ v ∈ cs, v.oneCell' = true) :
    (Builtin.copy_ #[52, 52] ty #[.slice (some ⟨b, o, none⟩) dLen dCap, .slice (some a) sLen sCap]).run Try.prog w = .ok (goInt (Nat.min sLen dLen)) (w.setCells b o cs) := by
  obtain ⟨i0, hi0, _, hz1, _⟩ := info_parts info58
  have hl := run_loadCells_list (P := Try.prog) w a cs hsrc
  have hst := run_storeCells_cells (P := Try.prog) b o cs 0 w (by simpa using hc) (by simpa using hf) h1
  simp only [Nat.add_zero] at hst
  simp [Builtin.copy_, run_underlying Try.underlying52, Builtin.lenOf, Builtin.firstCells, sizeOf, typeInfo, hi0, hz1, ← hn, hl, hst]

/-- copy at the operation. -/
theorem wp_copy6 {o : Oper} {a : Act} {w : World} {K : Act → World → Prop} {Q : Exit → Act → World → Prop} (d s : Operand) (ho : o.op = .call { callee := .builtin .copy, args := #[d, s], argTypes := #[52, 52] }) (v u : Value) (hd : a.eval d = v) (hs : a.eval s = u)
    {v' : Value} {w' : World} (hr : (Builtin.copy_ #[52, 52] o.type #[v, u]).run Try.prog w = .ok v' w') (h : K (a.put o.dst v') w') : o.wp Try.prog a w K Q := by
  unfold Oper.wp
  simp [execOp, ho, resolve, invoke, builtin, hd, hs, hr, Result.andThen]
  exact h

theorem at_copy6 {ops : Array Oper} {rest : List Oper} {o : Oper} {a : Act} {w : World} {Q : Exit → Act → World → Prop} (hg : o.guard = none) (d s : Operand) (ho : o.op = .call { callee := .builtin .copy, args := #[d, s], argTypes := #[52, 52] }) (v u : Value) (hd : a.eval d = v) (hs : a.eval s = u)
    {v' : Value} {w' : World} (hr : (Builtin.copy_ #[52, 52] o.type #[v, u]).run Try.prog w = .ok v' w') (h : wpList Try.prog ops Q rest (a.put o.dst v') w') : wpList Try.prog ops Q (o :: rest) a w :=
  wpList_plain hg fun _ hK => wp_copy6 d s ho v u hd hs hr (hK _ _ h)

theorem step_copy6 {ops : Array Oper} {o : Oper} {a : Act} {w : World} {K : Act → World → Prop} {Q : Exit → Act → World → Prop} {E : Prop} (hg : o.guard = none) (d s : Operand) (ho : o.op = .call { callee := .builtin .copy, args := #[d, s], argTypes := #[52, 52] }) (v u : Value) (hd : a.eval d = v) (hs : a.eval s = u)
    {v' : Value} {w' : World} (hr : (Builtin.copy_ #[52, 52] o.type #[v, u]).run Try.prog w = .ok v' w') (h : K (a.put o.dst v') w') : if Region.wanted o (yielded ops a.tmps) = true then Oper.wp Try.prog o a w K Q else E := by
  rw [if_pos (by simp [Region.wanted, hg])]
  exact wp_copy6 d s ho v u hd hs hr h

/-- A row with room is a longer one. -/
theorem own_extend {w : World} {base g n cap : Nat} {xs : List Value} (h : w.ownsRow base 58 6 (.slice (some ⟨g, 0, none⟩) n cap) n xs) (hc : n + 1 ≤ cap) : ∃ ys, ys.length = 6 ∧ w.ownsRow base 58 6 (.slice (some ⟨g, 0, none⟩) (n + 1) cap) (n + 1) (xs ++ ys) := by
  rcases h.2 with ⟨h0, _⟩ | ⟨g', cap', cur, hv, hb, hh, hn, hm, hsz, htake⟩
  · cases h0
  · cases hv
    have hl : cur.toList.length = cap * 6 := by rw [Array.length_toList, hsz]
    refine ⟨(cur.toList.drop (n * 6)).take 6, by rw [List.length_take, List.length_drop, hl]; omega, ?_, Or.inr ⟨g, cap, cur, rfl, hb, hh, hc, hm, hsz, ?_⟩⟩
    · rw [List.length_append, h.1, List.length_take, List.length_drop, hl]; omega
    · rw [← htake, show (n + 1) * 6 = n * 6 + 6 by omega, List.take_add]

/-- What is from number k on. -/
def from_ (n k : Nat) (c : Nat → Value) : List Value := cellsL ((n - k) * 6) (fun j => c (k * 6 + j))
/-- Number k. -/
def one_ (k : Nat) (c : Nat → Value) : List Value := cellsL 6 (fun j => c (k * 6 + j))

theorem doubled_at {n k : Nat} {c : Nat → Value} (hk : k < n) {xs : List Value} (hl : xs.length = (n + 1) * 6) (h0 : ∀ j, j < k * 6 → xs[j]? = some (c j)) :
    setAll (setAll xs ((k + 1) * 6) (from_ n k c)) (k * 6) (one_ k c) = cellsL ((n + 1) * 6) (pickC (doubled k) c) ∧ setAll (setAll xs (k * 6) (one_ k c)) ((k + 1) * 6) (from_ n k c) = cellsL ((n + 1) * 6) (pickC (doubled k) c) := by
  have hf : (from_ n k c).length = (n - k) * 6 := cellsL_len _ _
  have h1 : (one_ k c).length = 6 := cellsL_len _ _
  have key : ∀ j, (if k * 6 ≤ j ∧ j < k * 6 + 6 then (one_ k c)[j - k * 6]? else if (k + 1) * 6 ≤ j ∧ j < (k + 1) * 6 + (n - k) * 6 then (from_ n k c)[j - (k + 1) * 6]? else xs[j]?) = (cellsL ((n + 1) * 6) (pickC (doubled k) c))[j]? := fun j => by
    by_cases a1 : k * 6 ≤ j ∧ j < k * 6 + 6
    · rw [if_pos a1, cellsL_at (by omega)]
      unfold one_ pickC doubled
      rw [cellsL_at (by omega), if_pos (by omega)]
      congr 2
      omega
    · rw [if_neg a1]
      by_cases a2 : (k + 1) * 6 ≤ j ∧ j < (k + 1) * 6 + (n - k) * 6
      · rw [if_pos a2, cellsL_at (by omega)]
        unfold from_ pickC doubled
        rw [cellsL_at (by omega), if_neg (by omega)]
        congr 2
        omega
      · rw [if_neg a2]
        by_cases a3 : j < k * 6
        · rw [h0 j a3, cellsL_at (by omega)]
          unfold pickC doubled
          rw [if_pos (by omega)]
          congr 2
          omega
        · rw [List.getElem?_eq_none (by omega), List.getElem?_eq_none (by rw [cellsL_len]; omega)]
  constructor
  · refine List.ext_getElem? fun j => ?_
    rw [← key j, setAll_at _ _ _ _ (by rw [setAll_len, hl, h1]; omega), setAll_at _ _ _ _ (by rw [hl, hf]; omega), hf, h1]
  · refine List.ext_getElem? fun j => ?_
    rw [← key j, setAll_at _ _ _ _ (by rw [setAll_len, hl, hf]; omega), setAll_at _ _ _ _ (by rw [hl, h1]; omega), hf, h1]
    (repeat' split) <;> first | rfl | (exfalso; omega)

theorem heap_shape {w : World} {b : Nat} {cs : Array Value} {t : TypeId} (h : w.heap[b]? = some (.cells cs t (0, 0))) : w.shape? b = some (t, cs.size) ∧ ∀ j, w.frozen? ⟨b, j, none⟩ = false := by
  refine ⟨by simp [World.shape?, h], fun j => by simp [World.frozen?, h]⟩

theorem info_size : (Try.prog.info? 58).map (·.size) = some 6 := by kernel_rfl
theorem size58 (w : World) : (sizeOf 58).run Try.prog w = .ok 6 w := by kernel_rfl

set_option maxHeartbeats 4000000 in
set_option maxRecDepth 100000 in
/-- There is room. -/
theorem insert_room (base g cap n k vb : Nat) (c : Nat → Value) (w : World) (hown : w.ownsRow base 58 6 (.slice (some ⟨g, 0, none⟩) n cap) n (cellsL (n * 6) c)) (h1 : ∀ u ∈ cellsL (n * 6) c, u.oneCell' = true) (hk : k < n) (hn : n ≤ 1000)
    (hvb : ¬ vb = g) (hv : w.heap[vb]? = some (.cells (one_ k c).toArray 58 (0, 0))) (hroom : n + 1 ≤ cap) :
    Calls Try.prog 34 #[.slice (some ⟨g, 0, none⟩) n cap, .int .i64 k, .slice (some ⟨vb, 0, none⟩) 1 1] w fun e w' => e = .returned (.slice (some ⟨g, 0, none⟩) (n + 1) cap) ∧ w'.ownsRow base 58 6 (.slice (some ⟨g, 0, none⟩) (n + 1) cap) (n + 1) (cellsL ((n + 1) * 6) (pickC (doubled k) c)) ∧ Below base w w' := by
  obtain ⟨ys, hys, hext⟩ := own_extend hown hroom
  obtain ⟨n', rfl⟩ : ∃ n', n = n' + 1 := ⟨n - 1, by omega⟩
  obtain ⟨_, _, e', hgb, hgl, hnc, hcm⟩ := own_block hown
  cases e'
  unfold maxLen at hcm
  have hcell : ∀ j, j < (n' + 1) * 6 → w.cell? ⟨g, j, none⟩ = some (c j) := fun j hj => by rw [hown.cellAt j (by omega), cellsL_at hj]
  have hsome : ∀ j, j < (n' + 1 + 1) * 6 → (w.cell? ⟨g, j, none⟩).isSome = true := fun j hj => by
    rw [hext.cellAt j (by omega), List.getElem?_eq_getElem (by rw [List.length_append, cellsL_len, hys]; omega)]; rfl
  have hf : (from_ (n' + 1) k c).length = (n' + 1 - k) * 6 := cellsL_len _ _
  have ho : (one_ k c).length = 6 := cellsL_len _ _
  have hone : ∀ j, j < (n' + 1) * 6 → (c j).oneCell' = true := fun j hj => h1 _ (List.mem_iff_getElem?.2 ⟨j, cellsL_at hj⟩)
  obtain ⟨sv, fv⟩ := heap_shape hv
  have hg0 : ∃ cur, w.heap[g]? = some (.cells cur 58 (0, 0)) ∧ cur.size = cap * 6 := by
    rcases hown.2 with ⟨h0, _⟩ | ⟨g', cap', cur, hv', _, hh, _, _, hsz, _⟩
    · cases h0
    · cases hv'; exact ⟨cur, hh, hsz⟩
  obtain ⟨cur, hgh, hcur⟩ := hg0
  obtain ⟨sg, fg⟩ := heap_shape hgh
  have hov : ∀ lb cb, (callFunc 58 #[.slice (some ⟨vb, 0, none⟩) 1 1, .slice (some ⟨g, (k + 1) * 6, none⟩) lb cb]).run Try.prog w = .ok (.value (.bool false)) w := fun lb cb => by
    rw [run_callFunc_extern Try.func58 (by kernel_rfl) (by kernel_rfl) (by kernel_rfl) (e := Extern.SlicesOverlaps.overlaps #[52, 52] #[4]) (by kernel_rfl),
      Lib.run_overlaps_apart w 52 4 58 Try.underlying52 6 size58 ⟨vb, 0, none⟩ ⟨g, (k + 1) * 6, none⟩ 1 1 lb cb hvb 58 58 _ _ sv sg (by rw [hcur]; omega) (fv _) (fv _)]
    rfl
  have hcp1 : ∀ ty dc sc, (Builtin.copy_ #[52, 52] ty #[.slice (some ⟨g, (k + 1) * 6, none⟩) (n' + 1 - k) dc, .slice (some ⟨g, k * 6, none⟩) (n' + 1 + 1 - k) sc]).run Try.prog w.drew = .ok (goInt ((n' + 1 - k : Nat) : Int)) (w.drew.setCells g ((k + 1) * 6) (from_ (n' + 1) k c)) := fun ty dc sc => by
    have := run_copy6 w.drew ty g ((k + 1) * 6) (n' + 1 - k) dc ⟨g, k * 6, none⟩ (n' + 1 + 1 - k) sc (from_ (n' + 1) k c) (by rw [hf]; congr 1; simp only [Nat.min_def]; split <;> omega)
      (fun j v hj => by obtain ⟨hl, rfl⟩ := cellsL_some hj; rw [WideShapes.add_plain]; exact hcell _ (by omega)) (fun j hj => hsome _ (by omega)) (fun j _ => fg _)
      (fun v hv' => by obtain ⟨j, hj⟩ := List.mem_iff_getElem?.1 hv'; obtain ⟨hl, rfl⟩ := cellsL_some hj; exact hone _ (by omega))
    rw [show Nat.min (n' + 1 + 1 - k) (n' + 1 - k) = n' + 1 - k by simp only [Nat.min_def]; split <;> omega] at this
    exact this
  have hvcell : ∀ j, j < 6 → w.cell? ⟨vb, j, none⟩ = some (c (k * 6 + j)) := fun j hj => by
    simp only [World.cell?, hv]
    simp [one_, cellsL, hj]
  have o1 := own_setCells (from_ (n' + 1) k c) w.drew (cellsL ((n' + 1) * 6) c ++ ys) ((k + 1) * 6) hext.drew
  have hcp2 : ∀ ty dc, (Builtin.copy_ #[52, 52] ty #[.slice (some ⟨g, k * 6, none⟩) (n' + 1 + 1 - k) dc, .slice (some ⟨vb, 0, none⟩) 1 1]).run Try.prog (w.drew.setCells g ((k + 1) * 6) (from_ (n' + 1) k c)) = .ok (goInt 1) ((w.drew.setCells g ((k + 1) * 6) (from_ (n' + 1) k c)).setCells g (k * 6) (one_ k c)) := fun ty dc => by
    have := run_copy6 (w.drew.setCells g ((k + 1) * 6) (from_ (n' + 1) k c)) ty g (k * 6) (n' + 1 + 1 - k) dc ⟨vb, 0, none⟩ 1 1 (one_ k c) (by rw [ho]; simp only [Nat.min_def]; rw [if_pos (by omega)])
      (fun j v hj => by
        obtain ⟨hl, rfl⟩ := cellsL_some hj
        rw [WideShapes.add_plain, World.cell?_setCells_out _ _ _ _ _ (fun h _ => absurd h hvb), Nat.zero_add]
        exact hvcell j hl)
      (fun j hj => by rw [o1.cellAt _ (by omega), List.getElem?_eq_getElem (by rw [setAll_len, List.length_append, cellsL_len, hys]; omega)]; rfl) (fun j _ => o1.frozenAt _)
      (fun v hv' => by obtain ⟨j, hj⟩ := List.mem_iff_getElem?.1 hv'; obtain ⟨hl, rfl⟩ := cellsL_some hj; exact hone _ (by omega))
    rw [show Nat.min 1 (n' + 1 + 1 - k) = 1 by simp only [Nat.min_def]; rw [if_pos (by omega)]] at this
    exact this
  have HO : Hid (((w.drew.setCells g ((k + 1) * 6) (from_ (n' + 1) k c)).setCells g (k * 6) (one_ k c)).ownsRow base 58 6 (.slice (some ⟨g, 0, none⟩) (n' + 1 + 1) cap) (n' + 1 + 1) (cellsL ((n' + 1 + 1) * 6) (pickC (doubled k) c))) := by
    have o2 := own_setCells (one_ k c) _ _ (k * 6) o1
    rw [(doubled_at hk (xs := cellsL ((n' + 1) * 6) c ++ ys) (by rw [List.length_append, cellsL_len, hys]; omega) (fun j hj => by rw [List.getElem?_append_left (by rw [cellsL_len]; omega), cellsL_at (by omega)])).1] at o2
    exact o2
  have HB : Hid (Below base w ((w.drew.setCells g ((k + 1) * 6) (from_ (n' + 1) k c)).setCells g (k * 6) (one_ k c))) := below_setCells hgb _ _ _ (below_setCells hgb _ _ _ ((Below.refl _ _).drew))
  have hz2 : ((k : Int) == ((n' + 1 : Nat) : Int)) = false := by simp; omega
  have hz3 : ¬ (cap : Int) < ((n' + 1 : Nat) : Int) + 1 := by omega
  have hb2 : ¬ (cap = k + 1) := by omega
  have hb4 : ¬ (cap = k) := by omega
  have hin : k ≤ n' + 1 := by omega
  have hin2 : k ≤ n' + 1 + 1 := by omega
  have hin3 : k ≤ n' := by omega
  have hw1 : IntKind.i64.wrap ((k : Int) + 1) = (k : Int) + 1 := by rw [IntKind.wrap_i64]; omega
  have hp0 : (0 : Int) ≤ (k : Int) + 1 := by omega
  have hp1 : (k : Int) + 1 ≤ (n' : Int) + 1 + 1 := by omega
  have hp3 : (k : Int) ≤ (n' : Int) + 1 + 1 := by omega
  have htn : ((k : Int) + 1).toNat = k + 1 := by omega
  clear hown hext h1 hcell hsome hf ho hone sv fv hgh sg fg o1 hvcell hv
  go_enter Try.func34, Try.ntmps34
  go_wp2_with (simp only [hov])
  go_region_law (refine step_copy6 rfl (.tmp 73) (.tmp 76) rfl (.slice (some ⟨g, (k + 1) * 6, none⟩) (n' + 1 - k) (cap - (k + 1))) (.slice (some ⟨g, k * 6, none⟩) (n' + 1 + 1 - k) (cap - k)) (by simp [Act.eval, Act.put]) (by simp [Act.eval, Act.put]) (hcp1 _ _ _) ?_)
  go_wp2_with (at_builtin; refine at_copy6 rfl _ _ rfl _ _ rfl rfl (hcp2 _ _) ?_)
  go_ret
  exact ⟨rfl, HO.out, HB.out⟩

end Go.Proofs.Ytmhdiloejcdkcaa
