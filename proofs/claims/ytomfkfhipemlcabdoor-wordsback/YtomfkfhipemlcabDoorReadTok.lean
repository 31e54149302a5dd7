/- The token of a word, by the program. -/
import Derived.Test.YtomfkfhipemlcabDoorRdBase
import Derived.Handy
namespace Go.Proofs.YtomfkfhipemlcabDoor
open Go.RowKit Go.Maps

theorem idxOp : ∀ (k : Nat) (_ : k < 6) (w : World), (Instr.index 91 (.agg #[.string (bs (opL 0)), .string (bs (opL 1)), .string (bs (opL 2)), .string (bs (opL 3)), .string (bs (opL 4)), .string (bs (opL 5))]) (.int .i64 (k : Int))).run Tryd.prog w = .ok (.string (bs (opL k))) w
  | 0, _, w => by kernel_rfl
  | 1, _, w => by kernel_rfl
  | 2, _, w => by kernel_rfl
  | 3, _, w => by kernel_rfl
  | 4, _, w => by kernel_rfl
  | 5, _, w => by kernel_rfl
  | k + 6, h, _ => absurd h (by omega)

theorem idxMk : ∀ (k : Nat) (_ : k < 7) (w : World), (Instr.index 92 (.agg #[.string (bs (mkL 0)), .string (bs (mkL 1)), .string (bs (mkL 2)), .string (bs (mkL 3)), .string (bs (mkL 4)), .string (bs (mkL 5)), .string (bs (mkL 6))]) (.int .i64 (k : Int))).run Tryd.prog w = .ok (.string (bs (mkL k))) w
  | 0, _, w => by kernel_rfl
  | 1, _, w => by kernel_rfl
  | 2, _, w => by kernel_rfl
  | 3, _, w => by kernel_rfl
  | 4, _, w => by kernel_rfl
  | 5, _, w => by kernel_rfl
  | 6, _, w => by kernel_rfl
  | k + 7, h, _ => absurd h (by omega)

theorem tokOf_hit {x : Wd} {k : Nat} (hk : k < 6) (h0 : ∀ j, j < k → ¬ bs (opL j) = x) (h1 : bs (opL k) = x) : tokOf x = (3, (k : Int)) := by
  unfold tokOf opOf
  rw [find_hit hk (fun j hj => by simp [h0 j hj]) (by simp [h1])]

theorem tokOf_miss {x : Wd} (h0 : ∀ j, j < 6 → ¬ bs (opL j) = x) : tokOf x = ((markTo x 7 : Int), atoiV (x.data.toList.drop (mkL (markTo x 7)).length)) := by
  unfold tokOf opOf
  rw [List.find?_eq_none.2 (fun j hj => by simp [h0 j (List.mem_range.1 hj)])]

theorem markTo_fits (x : Wd) : ∀ n, n ≤ 7 → markTo x n < 7 ∧ (mkL (markTo x n)).length ≤ x.size
  | 0, _ => ⟨(by decide : 1 < 7), Nat.zero_le _⟩
  | n + 1, hn => by
    unfold markTo
    split
    · next h =>
      refine ⟨by omega, ?_⟩
      unfold hasMark at h
      rw [Bool.and_eq_true] at h
      have := (List.isPrefixOf_iff_prefix.1 h.2).length_le
      simpa using this
    · exact markTo_fits x n (by omega)

/-- A string from its m-th byte on. -/
theorem str_from (x : Wd) (m : Nat) (hm : m ≤ x.size) (w : World) : (Instr.slice 9 (.string x) (some (.int .i64 (m : Int))) none none).run Tryd.prog w = .ok (.string (bs (x.data.toList.drop m))) w := by
  simp [Instr.slice, Instr.sliceBounds, Instr.sliceBound, asIntOf, run_underlying Tryd.underlying9, go_sem]
  rw [if_pos hm]
  have : ByteArray.extract x m (ByteArray.size x) = bs (x.data.toList.drop m) := by
    have e := Lib.extract_to_end x m
    rw [← bs_of (ByteArray.extract x m (ByteArray.size x)), e]
  rw [this]

theorem bs_size' (l : List UInt8) : (bs l).size = l.length := by show l.toArray.size = _; simp
theorem box_thawed {w w1 : World} {cs : Array Value} {t : TypeId} (hb : Below (w.alloc (.cells cs t)).heap.size (w.alloc (.cells cs t)) w1) : w1.frozen? ⟨w.heap.size, 0, none⟩ = false ∧ w1.frozen? ⟨w.heap.size, 1, none⟩ = false := by
  have e : w1.heap[w.heap.size]? = some (.cells cs t (0, 0)) := by
    rw [hb.block w.heap.size (by simp)]
    show (w.heap.push _)[w.heap.size]? = _
    simp
  unfold World.frozen?
  rw [e]
  exact ⟨rfl, rfl⟩
theorem box_heap {w w1 : World} {cs : Array Value} {t : TypeId} (hb : Below (w.alloc (.cells cs t)).heap.size (w.alloc (.cells cs t)) w1) : w1.heap[w.heap.size]? = some (.cells cs t (0, 0)) := by
  rw [hb.block w.heap.size (by simp)]
  show (w.heap.push _)[w.heap.size]? = _
  simp
theorem set_two {w : World} {b : Nat} {u v x y : Value} {t : TypeId} (h : w.heap[b]? = some (.cells #[u, v] t (0, 0))) : ((w.setCell ⟨b, 0, none⟩ x).setCell ⟨b, 1, none⟩ y).heap[b]? = some (.cells #[x, y] t (0, 0)) := by
  have h1 := heap_setCell_same w b 0 _ _ x h
  have h2 := heap_setCell_same (w.setCell ⟨b, 0, none⟩ x) b 1 _ _ y h1
  rw [h2]
  rfl
theorem mk_none {j : Nat} (h : mkL j = []) : (bs (mkL j)).toList.isEmpty = true := by
  rw [ByteArray.toList_eq, bs_data, h]; rfl
theorem mk_some {j : Nat} (h : ¬ mkL j = []) : (bs (mkL j)).toList.isEmpty = false := by
  rw [ByteArray.toList_eq, bs_data]
  cases e : mkL j with
  | nil => exact absurd e h
  | cons a b => rfl
theorem hasMark_some {x : Wd} {j : Nat} (h : ¬ mkL j = []) : hasMark x j = Lib.hasPrefix x.data.toList (bs (mkL j)).data.toList := by
  unfold hasMark Lib.hasPrefix
  rw [bs_data]
  cases e : mkL j with
  | nil => exact absurd e h
  | cons a b => simp
theorem hasMark_none {x : Wd} {j : Nat} (h : mkL j = []) : hasMark x j = false := by
  unfold hasMark; rw [h]; rfl

set_option maxHeartbeats 4000000 in
theorem readTok (N : Nat) (x : Wd) (hx : x.size ≤ 100000) (w : World) (hN : N ≤ w.heap.size) (he : Env N w) :
    Calls Tryd.prog 72 #[.string x] w fun e w' => e = .returned (.agg #[.int .i64 (tokOf x).1, .int .i64 (tokOf x).2]) ∧ Below w.heap.size w w' := by
  have he1 := he.below ((below_alloc w (.cells #[.int .i64 0, .int .i64 0] 75)).mono hN)
  have o0 := he1.op 0 (by decide)
  have o1 := he1.op 1 (by decide)
  have o2 := he1.op 2 (by decide)
  have o3 := he1.op 3 (by decide)
  have o4 := he1.op 4 (by decide)
  have o5 := he1.op 5 (by decide)
  have HE : Hid (Env N (w.alloc (.cells #[.int .i64 0, .int .i64 0] 75))) := he1
  have HOp : Hid (∀ (k : Nat), k < 6 → ∀ w : World, (Instr.index 91 (.agg #[.string (bs (opL 0)), .string (bs (opL 1)), .string (bs (opL 2)), .string (bs (opL 3)), .string (bs (opL 4)), .string (bs (opL 5))]) (.int .i64 (k : Int))).run Tryd.prog w = .ok (.string (bs (opL k))) w) := idxOp
  have HMk : Hid (∀ (k : Nat), k < 7 → ∀ w : World, (Instr.index 92 (.agg #[.string (bs (mkL 0)), .string (bs (mkL 1)), .string (bs (mkL 2)), .string (bs (mkL 3)), .string (bs (mkL 4)), .string (bs (mkL 5)), .string (bs (mkL 6))]) (.int .i64 (k : Int))).run Tryd.prog w = .ok (.string (bs (mkL k))) w) := idxMk
  clear he he1
  go_enter Tryd.func72, Tryd.ntmps72
  go_upto_region 2 with (fail)
  clear o0 o1 o2 o3 o4 o5
  go_loopw [11] (fun i wr => ∃ j : Nat, j ≤ 6 ∧ i = .int .i64 j ∧ wr = w.alloc (.cells #[.int .i64 0, .int .i64 0] 75) ∧ Hid (∀ t, t < j → ¬ bs (opL t) = x)) (fun i _ => 6 - (intOf i).toNat)
  case atStart => exact ⟨0, by omega, rfl, rfl, fun t ht => absurd ht (Nat.not_lt_zero _)⟩
  case round =>
    obtain ⟨j, hj0, rfl, rfl, HM⟩ := hrel
    by_cases hj : j < 6
    · have hidx := HOp.out j hj
      have hji : (j : Int) < 6 := by omega
      by_cases hxx : bs (opL j) = x
      · have hxb : ((bs (opL j)).toList == x.toList) = true := by rw [strEq]; simp [hxx]
        have HF : Hid (tokOf x = (3, (j : Int))) := tokOf_hit hj HM.out hxx
        clear hxx
        go_wp2_with fail
        go_returns
        exact ⟨by rw [HF.out], below_alloc _ _⟩
      · have HX : Hid (¬ bs (opL j) = x) := hxx
        have hxb : ((bs (opL j)).toList == x.toList) = false := by rw [strEq]; simp [hxx]
        clear hxx
        go_wp2_with fail
        go_roundw
        case rel => exact ⟨j + 1, by omega, by go_num, trivial, upTo HM.out HX.out⟩
        case measure => simp [intOf]; omega
    · obtain rfl : j = 6 := by omega
      have HF : Hid (tokOf x = ((markTo x 7 : Int), atoiV (x.data.toList.drop (mkL (markTo x 7)).length))) := tokOf_miss HM.out
      have m0 := HE.out.mks 0 (by decide)
      have m1 := HE.out.mks 1 (by decide)
      have m2 := HE.out.mks 2 (by decide)
      have m3 := HE.out.mks 3 (by decide)
      have m4 := HE.out.mks 4 (by decide)
      have m5 := HE.out.mks 5 (by decide)
      have m6 := HE.out.mks 6 (by decide)
      go_upto_region 9 with (fail)
      clear m0 m1 m2 m3 m4 m5 m6
      go_loopw [5, 22] (fun q i wr => ∃ j : Nat, j ≤ 7 ∧ i = .int .i64 j ∧ q = .int .i64 (markTo x j : Int) ∧ wr = w.alloc (.cells #[.int .i64 0, .int .i64 0] 75)) (fun _ i _ => 7 - (intOf i).toNat)
      case atStart => exact ⟨0, by omega, rfl, rfl, rfl⟩
      case round =>
        obtain ⟨j, hj0, rfl, rfl, rfl⟩ := hrel
        by_cases hj : j < 7
        · have hidx := HMk.out j hj
          have hji : (j : Int) < 7 := by omega
          by_cases hm : mkL j = []
          · have h1 : (bs (mkL j)).toList.isEmpty = true := mk_none hm
            have HT : Hid (markTo x (j + 1) = markTo x j) := by
              show markTo x (j + 1) = _
              rw [markTo, hasMark_none hm]; rfl
            clear hm
            go_wp2_with fail
            go_roundw
            case rel => exact ⟨j + 1, by omega, by go_num, by rw [HT.out], trivial⟩
            case measure => simp [intOf]; omega
          · have h1 : (bs (mkL j)).toList.isEmpty = false := mk_some hm
            have HP : Hid (∀ w, Calls Tryd.prog 84 #[.string x, .string (bs (mkL j))] w fun e w' => e = .returned (.bool (hasMark x j)) ∧ w' = w) := fun w => by
              rw [hasMark_some hm]
              exact Tryd.strings_HasPrefix x (bs (mkL j)) w
            clear hm
            by_cases hh : hasMark x j = true
            · have HT : Hid (markTo x (j + 1) = j) := by
                show markTo x (j + 1) = _
                rw [markTo, hh]; rfl
              rw [hh] at HP
              clear hh
              go_wp2_with (first
                | (go_at_call 84; refine (HP.out _).mono ?_; rintro e w2 ⟨rfl, h2⟩; rw [h2]; clear h2))
              go_roundw
              case rel =>
                (repeat apply Exists.intro)
                refine ⟨⟨j + 1, by omega, ?_, ?_, trivial⟩, rfl⟩
                · go_num
                · rw [HT.out]
              case measure => simp [intOf]; omega
            · have hh' : hasMark x j = false := by simpa using hh
              have HT : Hid (markTo x (j + 1) = markTo x j) := by
                show markTo x (j + 1) = _
                rw [markTo, hh']; rfl
              rw [hh'] at HP
              clear hh hh'
              go_wp2_with (first
                | (go_at_call 84; refine (HP.out _).mono ?_; rintro e w2 ⟨rfl, h2⟩; rw [h2]; clear h2))
              go_roundw
              case rel =>
                (repeat apply Exists.intro)
                refine ⟨⟨j + 1, by omega, ?_, ?_, trivial⟩, rfl⟩
                · go_num
                · rw [HT.out]
              case measure => simp [intOf]; omega
        · obtain rfl : j = 7 := by omega
          obtain ⟨hf1, hf2⟩ := markTo_fits x 7 (by omega)
          generalize markTo x 7 = K at *
          have qm := HE.out.mks K hf1
          have hK0 : (0 : Int) ≤ (K : Int) := by omega
          have hK7 : (K : Int) < 7 := by omega
          have hsl := str_from x (bs (mkL K)).size (by rw [bs_size']; exact hf2)
          have HS : Hid ((x.data.toList.drop (bs (mkL K)).size) = (x.data.toList.drop (mkL K).length)) := by
            show _ = _
            rw [bs_size']
          go_wp2_with (first
            | (go_at_call 39; refine (atoi N (bs (x.data.toList.drop (bs (mkL K)).size)) (by rw [bs_size', List.length_drop]; have : x.data.toList.length = x.size := rfl; omega) _ HE.out).mono ?_; rintro e w2 ⟨er, rfl, b2⟩; have q0 := box_in b2 0 rfl; have q1 := box_in b2 1 rfl; obtain ⟨g0, g1⟩ := box_thawed b2))
          have HC := set_two (x := .int .i64 (K : Int)) (y := .int .i64 (atoiV (bs (x.data.toList.drop (bs (mkL K)).size)).data.toList)) (box_heap b2)
          refine bodyPost_ret (results_cell_row rfl _ _ w.heap.size 75 _ (0, 0) _ rfl HC Tryd.underlying75 rfl (by kernel_rfl)) rfl ?_
          refine ⟨?_, Below.setCell (Below.setCell ((below_alloc _ _).trans (b2.mono (by simp))) (Nat.le_refl _) _) (Nat.le_refl _) _⟩
          rw [HF.out, bs_data, HS.out]

end Go.Proofs.YtomfkfhipemlcabDoor
