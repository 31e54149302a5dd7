import Derived.Test.YtbmenihakkogkabGreatDoorPart3
import Derived.Test.YtbmenihakkogkabGreatDoorWalk
import Derived.Handy
namespace Go.Proofs.YtbmenihakkogkabGreatDoor
open Go.RowKit Go.Maps
def WordsAt (X : Nat) (fv : Value) (w : World) (v : Value) (ws : List Wd) : Prop :=
  (∀ x ∈ ws, x.size ≤ 100000) ∧ ws.length ≤ 100000 ∧ ∃ a cap, v = .slice a ws.length cap ∧ ws.length ≤ cap ∧ (ws = [] ∨ ∃ g o, a = some ⟨g, o, none⟩ ∧ g < X ∧ ¬ fv.ownBlock = some g ∧ ∀ j x, ws[j]? = some x → w.cell? ⟨g, o + j, none⟩ = some (.string x))
def RD (X : Nat) (w : World) (ws : List Wd) (fv : Value) : Prop := ∃ wv, w.heap[X]? = some (.cells #[wv, fv] 155 (0, 0)) ∧ WordsAt X fv w wv ws
theorem WordsAt.low {X : Nat} {fv : Value} {w w' : World} {v : Value} {ws : List Wd} (h : WordsAt X fv w v ws) (hs : ∀ k, k < X → ¬ fv.ownBlock = some k → w'.heap[k]? = w.heap[k]?) : WordsAt X fv w' v ws := by
  obtain ⟨h0, h1, a, cap, rfl, hc, h | ⟨g, o, rfl, hg, hf, hcell⟩⟩ := h
  · exact ⟨h0, h1, a, cap, rfl, hc, Or.inl h⟩
  · exact ⟨h0, h1, _, cap, rfl, hc, Or.inr ⟨g, o, rfl, hg, hf, fun j x hj => by rw [World.cell?_of_block (w := w) (a := ⟨g, o + j, none⟩) (hs g hg hf)]; exact hcell j x hj⟩⟩
theorem RD.below {X : Nat} {w w' : World} {ws : List Wd} {fv : Value} (h : RD X w ws fv) (hb : Below (X + 1) w w') : RD X w' ws fv := by
  obtain ⟨wv, h1, h2⟩ := h
  exact ⟨wv, by rw [hb.block X (by omega)]; exact h1, h2.low fun k hk _ => hb.block k (by omega)⟩
theorem RD.lt {X : Nat} {w : World} {ws : List Wd} {fv : Value} (h : RD X w ws fv) : X < w.heap.size := by
  obtain ⟨wv, h1, _⟩ := h
  exact (Array.getElem?_eq_some_iff.1 h1).1
theorem RD.keep {X : Nat} {w w' : World} {ws : List Wd} {fv : Value} (h : RD X w ws fv) (hb : Below w.heap.size w w') : RD X w' ws fv := h.below (hb.mono h.lt)
theorem RD.cells {X : Nat} {w : World} {ws : List Wd} {fv : Value} (h : RD X w ws fv) : w.cell? ⟨X, 1, none⟩ = some fv := by
  obtain ⟨wv, h1, _⟩ := h
  unfold World.cell?
  rw [h1]; rfl
theorem RD.words {X : Nat} {w : World} {ws : List Wd} {fv : Value} (h : RD X w ws fv) : ∃ a cap, w.cell? ⟨X, 0, none⟩ = some (.slice a ws.length cap) := by
  obtain ⟨wv, h1, _, _, a, cap, rfl, _⟩ := h
  refine ⟨a, cap, ?_⟩
  unfold World.cell?
  rw [h1]; rfl
theorem RD.small {X : Nat} {w : World} {ws : List Wd} {fv : Value} (h : RD X w ws fv) : (hdW ws).size ≤ 100000 := by
  obtain ⟨wv, _, h0, _⟩ := h
  cases ws with
  | nil => exact Nat.zero_le _
  | cons x ws => exact h0 x (by simp)
theorem RD.len {X : Nat} {w : World} {ws : List Wd} {fv : Value} (h : RD X w ws fv) : ws.length ≤ 100000 := by
  obtain ⟨wv, _, _, h1, _⟩ := h
  exact h1
theorem save_put (X : Nat) (w : World) (v : Value) : Save X w (w.setCell ⟨X, 0, none⟩ v) := by
  have h : Below X w (w.setCell ⟨X, 0, none⟩ v) := (Below.refl X w).setCell (Nat.le_refl _) _
  refine ⟨h.os, h.tape, h.output, h.size, fun k hk hx => ?_⟩
  exact Below.heap_setCell w ⟨X, 0, none⟩ v k hx
theorem rd_set {X : Nat} {w : World} {ws us : List Wd} {fv v : Value} (h : RD X w ws fv) (hv : WordsAt X fv w v us) : RD X (w.setCell ⟨X, 0, none⟩ v) us fv := by
  obtain ⟨wv, h1, _⟩ := h
  refine ⟨v, ?_, hv.low fun k hk _ => Below.heap_setCell w ⟨X, 0, none⟩ v k (by show ¬ k = X; omega)⟩
  rw [heap_setCell_same w X 0 _ _ _ h1]
  rfl
theorem RD.putF {X g i : Nat} {w : World} {ws : List Wd} {fv v : Value} (h : RD X w ws fv) (hf : fv.ownBlock = some g) (hg : g < X) : RD X (w.setCell ⟨g, i, none⟩ v) ws fv := by
  obtain ⟨wv, h1, h2⟩ := h
  refine ⟨wv, by rw [Below.heap_setCell w ⟨g, i, none⟩ v X (by show ¬ X = g; omega)]; exact h1, h2.low fun k _ hk => Below.heap_setCell w ⟨g, i, none⟩ v k (fun e => hk (by rw [hf, e]))⟩
theorem slice_from (g o L cap m : Nat) (x : Int) (hx : x = m) (h1 : m ≤ L) (w : World) : (Instr.slice 69 (.slice (some ⟨g, o, none⟩) L cap) (some (.int .i64 x)) none none).run Tryz.prog w = .ok (.slice (some ⟨g, if cap = m then o else o + m, none⟩) (L - m) (cap - m)) w := by
  subst hx
  simp [Instr.slice, Instr.sliceBounds, Instr.sliceBound, asIntOf, run_underlying Tryz.underlying69, go_sem]
  rw [if_pos h1]
  by_cases c : cap = m
  · rw [if_pos c, if_pos c]
  · rw [if_neg c, if_neg c]
theorem words_tail {X : Nat} {fv : Value} {w : World} {g o cap : Nat} {x : Wd} {us : List Wd} (h0 : ∀ y ∈ x :: us, y.size ≤ 100000) (h1 : (x :: us).length ≤ 100000) (hc : (x :: us).length ≤ cap) (hg : g < X) (hf : ¬ fv.ownBlock = some g) (hcell : ∀ j y, (x :: us)[j]? = some y → w.cell? ⟨g, o + j, none⟩ = some (.string y)) :
    WordsAt X fv w (.slice (some ⟨g, if cap = 1 then o else o + 1, none⟩) us.length (cap - 1)) us := by
  rw [List.length_cons] at h1 hc
  refine ⟨fun y hy => h0 y (List.mem_cons_of_mem _ hy), by omega, _, cap - 1, rfl, by omega, ?_⟩
  cases us with
  | nil => exact Or.inl rfl
  | cons y us =>
    rw [List.length_cons] at hc
    rw [if_neg (by omega)]
    refine Or.inr ⟨g, o + 1, rfl, hg, hf, fun j z hj => ?_⟩
    rw [Nat.add_assoc, Nat.add_comm 1 j]
    exact hcell (j + 1) z hj
set_option maxHeartbeats 1000000 in
theorem next (X : Nat) (w : World) (ws : List Wd) (fv : Value) (h : RD X w ws fv) :
    Calls Tryz.prog 109 #[.pointer (some ⟨X, 0, none⟩)] w fun e w' => e = .returned (.string (hdW ws)) ∧ Hid (RD X w' ws.tail fv) ∧ Save X w w' := by
  have HR : Hid (RD X w ws fv) := h
  obtain ⟨wv, h1, h0, hl, a, cap, rfl, hc, hcs⟩ := h
  have q0 : w.cell? ⟨X, 0, none⟩ = some (.slice a ws.length cap) := by unfold World.cell?; rw [h1]; rfl
  have qf : w.frozen? ⟨X, 0, none⟩ = false := by unfold World.frozen?; rw [h1]; rfl
  cases ws with
  | nil =>
    rw [List.length_nil] at q0
    clear h1 h0 hl hc hcs
    go_enter Tryz.func109, Tryz.ntmps109
    go_wp2
    go_ret
    exact ⟨rfl, HR, Save.refl X w⟩
  | cons x us =>
    obtain h | ⟨g, o, rfl, hg, hf, hcell⟩ := hcs
    · cases h
    have q1 : w.cell? ⟨g, o, none⟩ = some (.string x) := hcell 0 x rfl
    have HT := words_tail h0 hl hc hg hf hcell
    have HT2 : Hid (WordsAt X fv w (.slice (some ⟨g, if cap = 1 then o else o + 1, none⟩) us.length (cap - 1)) us) := HT
    have hsl := slice_from g o (x :: us).length cap 1 1 rfl (by simp)
    rw [List.length_cons, Nat.add_sub_cancel] at hsl
    rw [List.length_cons] at q0
    generalize (if cap = 1 then o else o + 1) = o2 at *
    obtain ⟨L, hL⟩ : ∃ L, us.length + 1 = L := ⟨_, rfl⟩
    rw [hL] at q0 hsl
    have hL0 : ((L : Int) == 0) = false := by rw [beq_eq_false_iff_ne]; omega
    have hL1 : (0 : Int) < (L : Int) := by omega
    clear h1 h0 hl hc hcell HT hL hf
    go_enter Tryz.func109, Tryz.ntmps109
    go_wp2
    go_ret
    exact ⟨rfl, rd_set HR.out HT2.out, save_put X w _⟩
set_option maxHeartbeats 1000000 in
theorem number (N X : Nat) (w : World) (ws : List Wd) (fv : Value) (hNX : N ≤ X) (he : Env N w) (h : RD X w ws fv) :
    Calls Tryz.prog 110 #[.pointer (some ⟨X, 0, none⟩)] w fun e w' => e = .returned (.int .i64 (numR ws)) ∧ Hid (RD X w' ws.tail fv) ∧ Save X w w' := by
  have HR : Hid (RD X w ws fv) := h
  have HE : Hid (Env N w) := he
  have hX := h.lt
  have hsm : (hdW ws).size ≤ 100000 := h.small
  clear h he
  go_enter Tryz.func110, Tryz.ntmps110
  go_wp2_with (first
    | (go_at_call 109; refine (next X w ws fv HR.out).mono ?_; rintro e w1 ⟨rfl, HR1, s1⟩)
    | (go_at_call 47; refine (atoi N (hdW ws) (by omega) w1 (HE.out.below (s1.low hNX (by omega)))).mono ?_; rintro e w2 ⟨er, rfl, b2⟩))
  go_ret
  exact ⟨rfl, HR1.out.keep b2, s1.trans (Save.of b2)⟩
theorem idxOp : ∀ (k : Nat) (_ : k < 6) (w : World), (Instr.index 242 (.agg #[.string (bs (opL 0)), .string (bs (opL 1)), .string (bs (opL 2)), .string (bs (opL 3)), .string (bs (opL 4)), .string (bs (opL 5))]) (.int .i64 (k : Int))).run Tryz.prog w = .ok (.string (bs (opL k))) w
  | 0, _, w => by kernel_rfl
  | 1, _, w => by kernel_rfl
  | 2, _, w => by kernel_rfl
  | 3, _, w => by kernel_rfl
  | 4, _, w => by kernel_rfl
  | 5, _, w => by kernel_rfl
  | k + 6, h, _ => absurd h (by omega)
theorem idxMk : ∀ (k : Nat) (_ : k < 7) (w : World), (Instr.index 243 (.agg #[.string (bs (mkL 0)), .string (bs (mkL 1)), .string (bs (mkL 2)), .string (bs (mkL 3)), .string (bs (mkL 4)), .string (bs (mkL 5)), .string (bs (mkL 6))]) (.int .i64 (k : Int))).run Tryz.prog w = .ok (.string (bs (mkL k))) w
  | 0, _, w => by kernel_rfl
  | 1, _, w => by kernel_rfl
  | 2, _, w => by kernel_rfl
  | 3, _, w => by kernel_rfl
  | 4, _, w => by kernel_rfl
  | 5, _, w => by kernel_rfl
  | 6, _, w => by kernel_rfl
  | k + 7, h, _ => absurd h (by omega)
theorem tokOf_hit {x : Wd} {k : Nat} (hk : k < 6) (h0 : ∀ j, j < k → ¬ bs (opL j) = x) (h1 : bs (opL k) = x) : tokOf x = (3, (k : Int)) := by
  unfold tokOf opOf
  rw [find_hit hk (fun j hj => by simp [h0 j hj]) (by simp [h1])]
theorem tokOf_miss {x : Wd} (h0 : ∀ j, j < 6 → ¬ bs (opL j) = x) : tokOf x = ((markTo x 7 : Int), atoiV (x.data.toList.drop (mkL (markTo x 7)).length)) := by
  unfold tokOf opOf
  rw [List.find?_eq_none.2 (fun j hj => by simp [h0 j (List.mem_range.1 hj)])]
theorem markTo_fits (x : Wd) : ∀ n, n ≤ 7 → markTo x n < 7 ∧ (mkL (markTo x n)).length ≤ x.size
  | 0, _ => ⟨(by decide : 1 < 7), Nat.zero_le _⟩
  | n + 1, hn => by
    unfold markTo
    split
    · next h =>
      refine ⟨by omega, ?_⟩
      unfold hasMark at h
      rw [Bool.and_eq_true] at h
      have := (List.isPrefixOf_iff_prefix.1 h.2).length_le
      simpa using this
    · exact markTo_fits x n (by omega)
theorem str_from (x : Wd) (m : Nat) (hm : m ≤ x.size) (w : World) : (Instr.slice 9 (.string x) (some (.int .i64 (m : Int))) none none).run Tryz.prog w = .ok (.string (bs (x.data.toList.drop m))) w := by
  simp [Instr.slice, Instr.sliceBounds, Instr.sliceBound, asIntOf, run_underlying Tryz.underlying9, go_sem]
  rw [if_pos hm]
  have : ByteArray.extract x m (ByteArray.size x) = bs (x.data.toList.drop m) := by
    have e := Lib.extract_to_end x m
    rw [← bs_of (ByteArray.extract x m (ByteArray.size x)), e]
  rw [this]
theorem bs_size' (l : List UInt8) : (bs l).size = l.length := by show l.toArray.size = _; simp
theorem box_thawed {w w1 : World} {cs : Array Value} {t : TypeId} (hb : Below (w.alloc (.cells cs t)).heap.size (w.alloc (.cells cs t)) w1) : w1.frozen? ⟨w.heap.size, 0, none⟩ = false ∧ w1.frozen? ⟨w.heap.size, 1, none⟩ = false := by
  have e : w1.heap[w.heap.size]? = some (.cells cs t (0, 0)) := by
    rw [hb.block w.heap.size (by simp)]
    show (w.heap.push _)[w.heap.size]? = _
    simp
  unfold World.frozen?
  rw [e]
  exact ⟨rfl, rfl⟩
theorem box_heap {w w1 : World} {cs : Array Value} {t : TypeId} (hb : Below (w.alloc (.cells cs t)).heap.size (w.alloc (.cells cs t)) w1) : w1.heap[w.heap.size]? = some (.cells cs t (0, 0)) := by
  rw [hb.block w.heap.size (by simp)]
  show (w.heap.push _)[w.heap.size]? = _
  simp
theorem set_two {w : World} {b : Nat} {u v x y : Value} {t : TypeId} (h : w.heap[b]? = some (.cells #[u, v] t (0, 0))) : ((w.setCell ⟨b, 0, none⟩ x).setCell ⟨b, 1, none⟩ y).heap[b]? = some (.cells #[x, y] t (0, 0)) := by
  have h1 := heap_setCell_same w b 0 _ _ x h
  have h2 := heap_setCell_same (w.setCell ⟨b, 0, none⟩ x) b 1 _ _ y h1
  rw [h2]
  rfl
theorem mk_none {j : Nat} (h : mkL j = []) : (bs (mkL j)).toList.isEmpty = true := by
  rw [ByteArray.toList_eq, bs_data, h]; rfl
theorem mk_some {j : Nat} (h : ¬ mkL j = []) : (bs (mkL j)).toList.isEmpty = false := by
  rw [ByteArray.toList_eq, bs_data]
  cases e : mkL j with
  | nil => exact absurd e h
  | cons a b => rfl
theorem hasMark_some {x : Wd} {j : Nat} (h : ¬ mkL j = []) : hasMark x j = Lib.hasPrefix x.data.toList (bs (mkL j)).data.toList := by
  unfold hasMark Lib.hasPrefix
  rw [bs_data]
  cases e : mkL j with
  | nil => exact absurd e h
  | cons a b => simp
theorem hasMark_none {x : Wd} {j : Nat} (h : mkL j = []) : hasMark x j = false := by
  unfold hasMark; rw [h]; rfl
set_option maxHeartbeats 4000000 in
theorem readTok (N : Nat) (x : Wd) (hx : x.size ≤ 100000) (w : World) (hN : N ≤ w.heap.size) (he : Env N w) :
    Calls Tryz.prog 219 #[.string x] w fun e w' => e = .returned (.agg #[.int .i64 (tokOf x).1, .int .i64 (tokOf x).2]) ∧ Below w.heap.size w w' := by
  have he1 := he.below ((bal w (.cells #[.int .i64 0, .int .i64 0] 89)).mono hN)
  have o0 := he1.op 0 (by decide)
  have o1 := he1.op 1 (by decide)
  have o2 := he1.op 2 (by decide)
  have o3 := he1.op 3 (by decide)
  have o4 := he1.op 4 (by decide)
  have o5 := he1.op 5 (by decide)
  have HE : Hid (Env N (w.alloc (.cells #[.int .i64 0, .int .i64 0] 89))) := he1
  have HOp : Hid (∀ (k : Nat), k < 6 → ∀ w : World, (Instr.index 242 (.agg #[.string (bs (opL 0)), .string (bs (opL 1)), .string (bs (opL 2)), .string (bs (opL 3)), .string (bs (opL 4)), .string (bs (opL 5))]) (.int .i64 (k : Int))).run Tryz.prog w = .ok (.string (bs (opL k))) w) := idxOp
  have HMk : Hid (∀ (k : Nat), k < 7 → ∀ w : World, (Instr.index 243 (.agg #[.string (bs (mkL 0)), .string (bs (mkL 1)), .string (bs (mkL 2)), .string (bs (mkL 3)), .string (bs (mkL 4)), .string (bs (mkL 5)), .string (bs (mkL 6))]) (.int .i64 (k : Int))).run Tryz.prog w = .ok (.string (bs (mkL k))) w) := idxMk
  clear he he1
  go_enter Tryz.func219, Tryz.ntmps219
  go_upto_region 2 with (fail)
  clear o0 o1 o2 o3 o4 o5
  go_loopw [11] (fun i wr => ∃ j : Nat, j ≤ 6 ∧ i = .int .i64 j ∧ wr = w.alloc (.cells #[.int .i64 0, .int .i64 0] 89) ∧ Hid (∀ t, t < j → ¬ bs (opL t) = x)) (fun i _ => 6 - (intOf i).toNat)
  case atStart => exact ⟨0, by omega, rfl, rfl, fun t ht => absurd ht (Nat.not_lt_zero _)⟩
  case round =>
    obtain ⟨j, hj0, rfl, rfl, HM⟩ := hrel
    by_cases hj : j < 6
    · have hidx := HOp.out j hj
      have hji : (j : Int) < 6 := by omega
      by_cases hxx : bs (opL j) = x
      · have hxb : ((bs (opL j)).toList == x.toList) = true := by rw [strEq]; simp [hxx]
        have HF : Hid (tokOf x = (3, (j : Int))) := tokOf_hit hj HM.out hxx
        clear hxx
        go_wp2_with fail
        go_returns
        exact ⟨by rw [HF.out], bal _ _⟩
      · have HX : Hid (¬ bs (opL j) = x) := hxx
        have hxb : ((bs (opL j)).toList == x.toList) = false := by rw [strEq]; simp [hxx]
        clear hxx
        go_wp2_with fail
        go_roundw
        case rel => exact ⟨j + 1, by omega, by go_num, trivial, upTo HM.out HX.out⟩
        case measure => simp [intOf]; omega
    · obtain rfl : j = 6 := by omega
      have HF : Hid (tokOf x = ((markTo x 7 : Int), atoiV (x.data.toList.drop (mkL (markTo x 7)).length))) := tokOf_miss HM.out
      have m0 := HE.out.mks 0 (by decide)
      have m1 := HE.out.mks 1 (by decide)
      have m2 := HE.out.mks 2 (by decide)
      have m3 := HE.out.mks 3 (by decide)
      have m4 := HE.out.mks 4 (by decide)
      have m5 := HE.out.mks 5 (by decide)
      have m6 := HE.out.mks 6 (by decide)
      go_upto_region 9 with (fail)
      clear m0 m1 m2 m3 m4 m5 m6
      go_loopw [5, 22] (fun q i wr => ∃ j : Nat, j ≤ 7 ∧ i = .int .i64 j ∧ q = .int .i64 (markTo x j : Int) ∧ wr = w.alloc (.cells #[.int .i64 0, .int .i64 0] 89)) (fun _ i _ => 7 - (intOf i).toNat)
      case atStart => exact ⟨0, by omega, rfl, rfl, rfl⟩
      case round =>
        obtain ⟨j, hj0, rfl, rfl, rfl⟩ := hrel
        by_cases hj : j < 7
        · have hidx := HMk.out j hj
          have hji : (j : Int) < 7 := by omega
          by_cases hm : mkL j = []
          · have h1 : (bs (mkL j)).toList.isEmpty = true := mk_none hm
            have HT : Hid (markTo x (j + 1) = markTo x j) := by
              show markTo x (j + 1) = _
              rw [markTo, hasMark_none hm]; rfl
            clear hm
            go_wp2_with fail
            go_roundw
            case rel => exact ⟨j + 1, by omega, by go_num, by rw [HT.out], trivial⟩
            case measure => simp [intOf]; omega
          · have h1 : (bs (mkL j)).toList.isEmpty = false := mk_some hm
            have HP : Hid (∀ w, Calls Tryz.prog 238 #[.string x, .string (bs (mkL j))] w fun e w' => e = .returned (.bool (hasMark x j)) ∧ w' = w) := fun w => by
              rw [hasMark_some hm]
              exact Tryz.strings_HasPrefix x (bs (mkL j)) w
            clear hm
            by_cases hh : hasMark x j = true
            · have HT : Hid (markTo x (j + 1) = j) := by
                show markTo x (j + 1) = _
                rw [markTo, hh]; rfl
              rw [hh] at HP
              clear hh
              go_wp2_with (first
                | (go_at_call 238; refine (HP.out _).mono ?_; rintro e w2 ⟨rfl, h2⟩; rw [h2]; clear h2))
              go_roundw
              case rel =>
                (repeat apply Exists.intro)
                refine ⟨⟨j + 1, by omega, ?_, ?_, trivial⟩, rfl⟩
                · go_num
                · rw [HT.out]
              case measure => simp [intOf]; omega
            · have hh' : hasMark x j = false := by simpa using hh
              have HT : Hid (markTo x (j + 1) = markTo x j) := by
                show markTo x (j + 1) = _
                rw [markTo, hh']; rfl
              rw [hh'] at HP
              clear hh hh'
              go_wp2_with (first
                | (go_at_call 238; refine (HP.out _).mono ?_; rintro e w2 ⟨rfl, h2⟩; rw [h2]; clear h2))
              go_roundw
              case rel =>
                (repeat apply Exists.intro)
                refine ⟨⟨j + 1, by omega, ?_, ?_, trivial⟩, rfl⟩
                · go_num
                · rw [HT.out]
              case measure => simp [intOf]; omega
        · obtain rfl : j = 7 := by omega
          obtain ⟨hf1, hf2⟩ := markTo_fits x 7 (by omega)
          generalize markTo x 7 = K at *
          have qm := HE.out.mks K hf1
          have hK0 : (0 : Int) ≤ (K : Int) := by omega
          have hK7 : (K : Int) < 7 := by omega
          have hsl := str_from x (bs (mkL K)).size (by rw [bs_size']; exact hf2)
          have HS : Hid ((x.data.toList.drop (bs (mkL K)).size) = (x.data.toList.drop (mkL K).length)) := by
            show _ = _
            rw [bs_size']
          go_wp2_with (first
            | (go_at_call 47; refine (atoi N (bs (x.data.toList.drop (bs (mkL K)).size)) (by rw [bs_size', List.length_drop]; have : x.data.toList.length = x.size := rfl; omega) _ HE.out).mono ?_; rintro e w2 ⟨er, rfl, b2⟩; have q0 := bxi b2 0 rfl; have q1 := bxi b2 1 rfl; obtain ⟨g0, g1⟩ := box_thawed b2))
          have HC := set_two (x := .int .i64 (K : Int)) (y := .int .i64 (atoiV (bs (x.data.toList.drop (bs (mkL K)).size)).data.toList)) (box_heap b2)
          refine bodyPost_ret (results_cell_row rfl _ _ w.heap.size 89 _ (0, 0) _ rfl HC Tryz.underlying89 rfl (by kernel_rfl)) rfl ?_
          refine ⟨?_, Below.setCell (Below.setCell ((bal _ _).trans (b2.mono (by simp))) (Nat.le_refl _) _) (Nat.le_refl _) _⟩
          rw [HF.out, bs_data, HS.out]
end Go.Proofs.YtbmenihakkogkabGreatDoor
