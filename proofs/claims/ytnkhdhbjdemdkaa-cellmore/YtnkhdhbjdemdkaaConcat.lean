/- slices.Grow of a nil row of values, slices.Concat of rows of values, slices.Clone of cells. -/
import Derived.Test.YtnkhdhbjdemdkaaClone
import Derived.Test.YtnkhdhbjdemdkaaMoreMath
import Derived.Lib.AppendZeros
namespace Go.Proofs.Ytnkhdhbjdemdkaa
open Go.RowKit Go.Maps

/-- A new row of zeros, cut to none of them. -/
theorem zeros_own (w : World) (n : Nat) (hn : n ≤ 1000) :
    (w.drew.alloc (.cells (Builtin.zeroCells (Value.cells (.agg #[.int .i64 0, .int .i64 0])) n ++ Builtin.zeroCells (Value.cells (.agg #[.int .i64 0, .int .i64 0])) (grownCap w n 0 30 - n)) 30)).ownsRow w.heap.size 30 2
      (.slice (some ⟨w.heap.size, 0, none⟩) 0 (grownCap w n 0 30)) 0 [] := by
  have hge := grownCap_ge w n 0 30
  refine ⟨rfl, Or.inr ⟨w.heap.size, _, _, rfl, Nat.le_refl _, heap_alloc_new w.drew _, Nat.zero_le _, grownCap_le_maxLen w n 0 30 (by unfold maxLen; omega), ?_, by simp⟩⟩
  rw [Array.size_append, size_zeroCells, size_zeroCells]
  show n * 2 + _ * 2 = _ * 2
  omega

set_option maxHeartbeats 400000 in
theorem grow (n : Nat) (w : World) (hn : n ≤ 1000) :
    Calls Try.prog 29 #[.slice none 0 0, .int .i64 n] w fun e w' => ∃ ad cap, e = .returned (.slice ad 0 cap) ∧ w'.ownsRow w.heap.size 30 2 (.slice ad 0 cap) 0 [] ∧ Below w.heap.size w w' := by
  by_cases h0 : n = 0
  · subst h0
    go_enter Try.func29, Try.ntmps29
    go_wp2_with fail
    go_ret
    exact ⟨none, 0, rfl, World.ownsRow_nil _ _ _ _, Below.refl _ _⟩
  · obtain ⟨i0, hi, hz0, hz1, hz2⟩ := info_parts info30
    have hp : (0 : Int) < (n : Int) := by omega
    have HR : Hid (∀ (ty : TypeId) (w : World), (Builtin.append_ #[28, 3] ty #[.slice none 0 0, .int .i64 n]).run Try.prog w = _) := fun ty w => Lib.run_append_nil_zeros (P := Try.prog) w 28 3 ty 30 i0 _ .i64 .i64 Try.underlying28 Try.underlying3 hi hz0 n (by omega) (by omega) (by omega) (by rw [hz2]; omega)
    clear hi hz0 hz1 hz2
    go_enter Try.func29, Try.ntmps29
    go_wp2_with (at_builtin; refine Lib.wpList_append_run _ rfl _ _ _ _ rfl _ _ rfl rfl _ _ (HR.out _ _) ?_)
    go_ret
    exact ⟨_, _, rfl, zeros_own w n hn, ((Below.refl _ _).drew).alloc (Nat.le_refl _) _⟩

/-- Nothing more at the end of a row of the call's own. -/
theorem append_nothing {ops : Array Oper} {rest : List Oper} {o : Oper} {a : Act} {Q : Exit → Act → World → Prop} (w : World) (hgd : o.guard = none) (s y : Operand)
    (ho : o.op = .call { callee := .builtin .append, args := #[s, y], argTypes := #[28, 28] }) (base : Nat) (v : Value) (L : List (Int × Int)) (hs : a.eval s = v) (hown : w.ownsRow base 30 2 v L.length (flat L))
    (c : Nat) (hy : a.eval y = .slice none 0 c) (h : wpList Try.prog ops Q rest (a.put o.dst v) w) : wpList Try.prog ops Q (o :: rest) a w := by
  obtain ⟨i0, hi, hz0, hz1, hz2⟩ := info_parts info30
  refine Lib.wpList_append_run w hgd s y 28 28 ho v _ hs hy v w ?_ h
  rcases hown.2 with ⟨rfl, _⟩ | ⟨g, cap, cur, rfl, _, _, hnc, _⟩
  · simp [Builtin.append_, run_underlying Try.underlying28, sizeOf, typeInfo, hi, Builtin.lenOf, Builtin.firstCells]
  · simp [Builtin.append_, run_underlying Try.underlying28, sizeOf, typeInfo, hi, Builtin.lenOf, Builtin.firstCells, hnc, storeCells]

theorem catTo_len (m : Nat → Nat) (K Z : Nat → Nat → Int) (j : Nat) : (catTo m K Z (j + 1)).length = (catTo m K Z j).length + m j := by
  simp only [catTo, List.length_append, rowL_len]

theorem catTo_le (m : Nat → Nat) (K Z : Nat → Nat → Int) (j : Nat) : ∀ d, (catTo m K Z j).length ≤ (catTo m K Z (j + d)).length
  | 0 => Nat.le_refl _
  | d + 1 => by
    have h1 := catTo_le m K Z j d
    have h2 := catTo_len m K Z (j + d)
    have h3 : (catTo m K Z (j + (d + 1))).length = (catTo m K Z (j + d + 1)).length := rfl
    omega

set_option maxHeartbeats 1000000 in
theorem concat (v : Value) (n : Nat) (m : Nat → Nat) (K Z : Nat → Nat → Int) (w : World) (h : CellsAt w v n m K Z) (hsum : (catTo m K Z n).length ≤ 1000) :
    Calls Try.prog 19 #[v] w fun e w' => ∃ ad cap, e = .returned (.slice ad (catTo m K Z n).length cap) ∧ w'.ownsRow w.heap.size 30 2 (.slice ad (catTo m K Z n).length cap) (catTo m K Z n).length (flat (catTo m K Z n)) ∧ Below w.heap.size w w' := by
  obtain ⟨a, cap, rfl, hn, hc⟩ := h
  have HL : Hid (∀ j, j ≤ n → (catTo m K Z j).length ≤ 1000) := fun j hj => by
    have := catTo_le m K Z j (n - j)
    rw [show j + (n - j) = n by omega] at this
    omega
  go_enter Try.func19, Try.ntmps19
  go_wp2_with fail
  go_loop [3, 11] (fun sz i => ∃ j : Nat, j ≤ n ∧ i = .int .i64 j ∧ sz = .int .i64 (catTo m K Z j).length) (fun _ i => n - (intOf i).toNat)
  case atStart => exact ⟨0, Nat.zero_le _, rfl, rfl⟩
  case round =>
    obtain ⟨j, hj, rfl, rfl⟩ := hrel
    by_cases hlt : j < n
    · rcases hc with hc | ⟨p, o, rfl, hp, gc⟩
      · omega
      obtain ⟨x, hx, hvx⟩ := gc j hlt
      obtain ⟨xa, xcap, rfl, hxn, _⟩ := hvx
      have HN : Hid ((catTo m K Z (j + 1)).length = (catTo m K Z j).length + m j) := catTo_len m K Z j
      have h1 : (catTo m K Z j).length + m j ≤ 1000 := by have := HL.out (j + 1) hlt; rw [HN.out] at this; exact this
      clear gc
      generalize (catTo m K Z j).length = q at *
      have hneg : ¬ ((q : Int) + (m j : Int) < 0) := by omega
      go_wp2_with fail
      go_round
      case rel => exact ⟨j + 1, by omega, by go_num, by rw [HN.out]; go_num⟩
      case measure => simp [intOf]; omega
    · have ej : j = n := by omega
      subst ej
      go_wp2_with fail
      refine (grow _ _ hsum).mono ?_
      rintro e w1 ⟨ad0, cap0, rfl, hrow0, hb1⟩
      go_wp2_with fail
      go_loopw [6, 27] (fun av i wr => ∃ j' : Nat, j' ≤ j ∧ i = .int .i64 j' ∧ wr.ownsRow w.heap.size 30 2 av (catTo m K Z j').length (flat (catTo m K Z j')) ∧ Below w.heap.size w wr) (fun _ i _ => j - (intOf i).toNat)
      case atStart => exact ⟨0, Nat.zero_le _, rfl, hrow0, hb1⟩
      case round =>
        clear hrow0 hb1
        obtain ⟨t, ht, rfl, hrow, hb⟩ := hrel
        obtain ⟨aad, acap, rfl⟩ := own_shape hrow
        have hsz := hb.size
        by_cases hlt2 : t < j
        · rcases hc with hc | ⟨p, o, rfl, hp, gc⟩
          · omega
          obtain ⟨x, hx, hvx⟩ := gc t hlt2
          rw [← hb.cell hp] at hx
          obtain ⟨xa, xcap, rfl, hxn, hux⟩ := hvx.below hb
          have HN : Hid (catTo m K Z (t + 1) = catTo m K Z t ++ rowL (m t) (K t) (Z t)) := rfl
          have h1 : (catTo m K Z t).length + m t ≤ 1000 := by have := HL.out (t + 1) hlt2; rw [catTo_len] at this; exact this
          clear gc
          rcases xa with _ | xad
          · have hm0 : m t = 0 := by
              rcases hux with hux | ⟨_, _, e, _⟩
              · exact hux
              · cases e
            have HE : Hid (catTo m K Z (t + 1) = catTo m K Z t) := by
              rw [HN.out, hm0]
              show catTo m K Z t ++ [] = _
              simp
            have HM : Hid (m t = 0) := hm0
            rw [hm0] at hx
            clear hm0 hux
            go_wp2_with (at_builtin; refine append_nothing _ rfl _ _ rfl w.heap.size _ _ rfl hrow _ rfl ?_)
            go_roundw
            case rel => exact ⟨t + 1, by omega, by go_num, by rw [HE.out]; exact hrow, hb⟩
            case measure => simp [intOf]; omega
          · have HX : Hid (∀ j u, (flat (rowL (m t) (K t) (Z t)))[j]? = some u → wr.cell? (xad.add j) = some u) := by
              intro i u hi
              rcases hux with e | ⟨b, o', e, hlt, g⟩
              · rw [e] at hi; cases hi
              · cases e
                exact row_news g i u hi
            clear hux
            go_wp2_with (at_builtin; refine append_vals _ rfl _ _ rfl w.heap.size _ _ rfl hrow _ _ _ _ _ rfl HX.out (by omega) hsz ?_; intro ad3 cap3 w3 hrow3 hgrow3)
            go_roundw
            case rel => exact ⟨t + 1, by omega, by go_num, by rw [HN.out]; exact hrow3, hb.grown hgrow3 hsz (fun k hk => (hrow.lt k hk).1)⟩
            case measure => simp [intOf]; omega
        · have et : t = j := by omega
          subst et
          go_wp2_with fail
          go_ret
          exact ⟨_, _, rfl, hrow, hb⟩

end Go.Proofs.Ytnkhdhbjdemdkaa
