/- What the program's tables hold, and that they stay so; rows of words of the call's own; strconv.Itoa and strconv.Atoi. Which kind of statement a word begins, by the program. walk: the first error that a look tells of a statement, each ahead of those in it, by the program. -/
import Derived.Test.YtbmenihakkogkabGreatDoorShelf
import Derived.Test.YtbmenihakkogkabGreatDoorPart2
import Derived.Test.YtbmenihakkogkabGreatDoorPart4
import Derived.Deep.RegionHeld3
import Derived.Lib.SmallJoins
import Derived.Laws.StructEq
namespace Go.Proofs.YtbmenihakkogkabGreatDoor
open Go.RowKit Go.Maps

/-- The tables that the program reads, below block N. -/
structure Env (N : Nat) (w : World) : Prop where
  low : 11 ≤ N
  st : ∀ k, k < 9 → w.cell? ⟨1, k, none⟩ = some (.string (bs (stL k)))
  op : ∀ k, k < 6 → w.cell? ⟨3, k, none⟩ = some (.string (bs (opL k)))
  mks : ∀ k, k < 7 → w.cell? ⟨4, k, none⟩ = some (.string (bs (mkL k)))
  pow : Lib.TabIs Tryz.prog w "internal/strconv.uint64pow10" .u64 Lib.pow10Tab
  syn : ∃ tp p, w.var? Tryz.prog "strconv.ErrSyntax" = some #[.iface tp p]
  rng : ∃ tp p, w.var? Tryz.prog "strconv.ErrRange" = some #[.iface tp p]
  max : ∃ m, w.cell? ⟨8, 0, none⟩ = some (.int .i64 m)

theorem gPow : Tryz.prog.globalNamed "internal/strconv.uint64pow10" = some 7 := by kernel_rfl
theorem gSyn : Tryz.prog.globalNamed "strconv.ErrSyntax" = some 5 := by kernel_rfl
theorem gRng : Tryz.prog.globalNamed "strconv.ErrRange" = some 6 := by kernel_rfl

theorem var_of_block {P : Program} {w w' : World} {n : String} {g : Nat} (hg : P.globalNamed n = some g) (hb : w'.heap[g]? = w.heap[g]?) : w'.var? P n = w.var? P n := by
  unfold World.var?
  rw [hg]
  simp only [Option.bind_some, hb]

theorem Env.below {N : Nat} {w w' : World} (h : Env N w) (hb : Below N w w') : Env N w' := by
  have l := h.low
  refine ⟨l, fun k hk => ?_, fun k hk => ?_, fun k hk => ?_, ?_, ?_, ?_, ?_⟩
  · rw [hb.cell (p := ⟨1, k, none⟩) (by show 1 < N; omega)]; exact h.st k hk
  · rw [hb.cell (p := ⟨3, k, none⟩) (by show 3 < N; omega)]; exact h.op k hk
  · rw [hb.cell (p := ⟨4, k, none⟩) (by show 4 < N; omega)]; exact h.mks k hk
  · unfold Lib.TabIs; rw [var_of_block gPow (hb.block 7 (by omega))]; exact h.pow
  · rw [var_of_block gSyn (hb.block 5 (by omega))]; exact h.syn
  · rw [var_of_block gRng (hb.block 6 (by omega))]; exact h.rng
  · rw [hb.cell (p := ⟨8, 0, none⟩) (by show 8 < N; omega)]; exact h.max

theorem Env.up {N M : Nat} {w : World} (h : Env N w) (hm : N ≤ M) : Env M w := ⟨Nat.le_trans h.low hm, h.st, h.op, h.mks, h.pow, h.syn, h.rng, h.max⟩

theorem below_grow (w : World) (k : Nat) (os : Array Obj) : Below w.heap.size w (Sort.grow (w.drewN k) os) :=
  ⟨rfl, rfl, rfl, by simp [Sort.grow, World.drewN], fun j hj => by
    show (w.heap ++ os)[j]? = w.heap[j]?
    rw [Array.getElem?_append_left hj]⟩

/-- strconv.Itoa. -/
theorem itoa (N : Nat) (z : Int) (h0 : -9223372036854775808 ≤ z) (h1 : z ≤ 9223372036854775807) (w : World) (he : Env N w) :
    Calls Tryz.prog 38 #[.int .i64 z] w fun e w' => e = .returned (.string (numW z)) ∧ Below w.heap.size w w' := by
  refine (Tryz.strconv_Itoa z h0 h1 w he.pow).mono ?_
  rintro e w' ⟨rfl, k, os, rfl⟩
  exact ⟨rfl, below_grow w k os⟩

/-- strconv.Atoi: the number that it hands back. -/
theorem atoi (N : Nat) (s : Wd) (hs : s.size ≤ 1000000) (w : World) (he : Env N w) :
    Calls Tryz.prog 47 #[.string s] w fun e w' => ∃ er, e = .returned (.tuple #[.int .i64 (atoiV s.data.toList), er]) ∧ Below w.heap.size w w' := by
  cases h : Lib.atoiAll s.data.toList with
  | ok v =>
    have e0 : atoiV s.data.toList = v := by unfold atoiV; rw [h]
    rw [e0]
    refine (Tryz.strconv_Atoi_ok s (by omega) v h w).mono ?_
    rintro e w' ⟨rfl, rfl | ⟨t, rfl⟩⟩
    · exact ⟨_, rfl, Below.refl _ _⟩
    · exact ⟨_, rfl, Lib.bytesWorld_below _ _ _⟩
  | «syntax» =>
    have e0 : atoiV s.data.toList = 0 := by unfold atoiV; rw [h]
    rw [e0]
    obtain ⟨tp, p, hv⟩ := he.syn
    refine (Tryz.strconv_Atoi_syntax_var s (by omega) h tp p w hv).mono ?_
    rintro e w' ⟨n, rfl, _, _, hb⟩
    exact ⟨_, rfl, hb⟩
  | range =>
    have e0 : atoiV s.data.toList = Lib.atoiSat s.data.toList := by unfold atoiV; rw [h]
    rw [e0]
    obtain ⟨tp, p, hv⟩ := he.rng
    refine (Tryz.strconv_Atoi_range_var s (by omega) h tp p w hv).mono ?_
    rintro e w' ⟨n, rfl, _, _, hb⟩
    exact ⟨_, rfl, hb⟩

/-! ### Rows of words of the call's own -/

/-- All that was there is as it was, but for the row v; and v' is that row, or a new one. -/
structure Grow (w : World) (v : Value) (w' : World) (v' : Value) : Prop where
  os : w'.os = w.os
  tape : w'.tape = w.tape
  output : w'.output = w.output
  size : w.heap.size ≤ w'.heap.size
  block : ∀ k, k < w.heap.size → ¬ v.ownBlock = some k → w'.heap[k]? = w.heap[k]?
  own : ∀ k, k < w.heap.size → v'.ownBlock = some k → v.ownBlock = some k

theorem Grow.refl (w : World) (v : Value) : Grow w v w v := ⟨rfl, rfl, rfl, Nat.le_refl _, fun _ _ _ => rfl, fun _ _ h => h⟩
theorem Grow.trans {a b c : World} {u v x : Value} (h : Grow a u b v) (k : Grow b v c x) : Grow a u c x :=
  ⟨k.os.trans h.os, k.tape.trans h.tape, k.output.trans h.output, Nat.le_trans h.size k.size,
    fun n hn hx => (k.block n (Nat.lt_of_lt_of_le hn h.size) fun e => hx (h.own n hn e)).trans (h.block n hn hx),
    fun n hn e => h.own n hn (k.own n (Nat.lt_of_lt_of_le hn h.size) e)⟩
theorem Grow.of {a b : World} (v : Value) (h : Below a.heap.size a b) : Grow a v b v := ⟨h.os, h.tape, h.output, h.size, fun n hn _ => h.block n hn, fun _ _ e => e⟩
theorem Grow.drew {a b : World} {u v : Value} (h : Grow a u b v) : Grow a u b.drew v := ⟨h.os, h.tape, h.output, h.size, h.block, h.own⟩

/-- A row of the words R, of blocks from B on. -/
def WS (B : Nat) (w : World) (v : Value) (R : List Wd) : Prop := w.ownsRow B 9 1 v R.length (R.map Value.string)

theorem WS.nil (B : Nat) (w : World) : WS B w (.slice none 0 0) [] := ⟨rfl, Or.inl ⟨rfl, rfl⟩⟩

theorem WS.low {B : Nat} {w : World} {v : Value} {R : List Wd} (h : WS B w v R) : ∀ k, v.ownBlock = some k → B ≤ k := by
  intro k hk
  rcases h.2 with ⟨rfl, _⟩ | ⟨g, cap, cur, rfl, hb, _⟩
  · cases hk
  · cases hk; exact hb

theorem WS.lt {B : Nat} {w : World} {v : Value} {R : List Wd} (h : WS B w v R) : ∀ k, v.ownBlock = some k → k < w.heap.size := by
  intro k hk
  rcases h.2 with ⟨rfl, _⟩ | ⟨g, cap, cur, rfl, hb, hg, _⟩
  · cases hk
  · cases hk; exact (Array.getElem?_eq_some_iff.1 hg).1

theorem WS.keep {B : Nat} {w w' : World} {v : Value} {R : List Wd} (h : WS B w v R) (hb : Below w.heap.size w w') : WS B w' v R := by
  unfold WS at *
  refine ⟨h.1, ?_⟩
  rcases h.2 with ⟨rfl, h0⟩ | ⟨g, cap, cur, rfl, h1, h2, h3⟩
  · exact Or.inl ⟨rfl, h0⟩
  · exact Or.inr ⟨g, cap, cur, rfl, h1, by rw [hb.block g (Array.getElem?_eq_some_iff.1 h2).1]; exact h2, h3⟩

theorem Grow.low {B : Nat} {a b : World} {u v : Value} (h : Grow a u b v) (hu : ∀ k, u.ownBlock = some k → B ≤ k) (hB : B ≤ a.heap.size) : Below B a b :=
  ⟨h.os, h.tape, h.output, h.size, fun k hk => h.block k (Nat.lt_of_lt_of_le hk hB) fun e => by have := hu k e; omega⟩

theorem info9 : (Tryz.prog.info? 9).map (fun i => (i.zero, i.size, i.bytes)) = some (some (.string ⟨#[]⟩), 1, 16) := by kernel_rfl

theorem strs_one (L : List Wd) : ∀ u ∈ L.map Value.string, u.oneCell' = true := by
  intro u hu
  obtain ⟨x, _, rfl⟩ := List.mem_map.1 hu
  rfl

/-- Words more at the end of a row of the call's own. -/
theorem append_strs {ops : Array Oper} {rest : List Oper} {o : Oper} {a : Act} {Q : Exit → Act → World → Prop} (w : World) (hgd : o.guard = none) (s y : Operand)
    (ho : o.op = .call { callee := .builtin .append, args := #[s, y], argTypes := #[69, 69] }) (base : Nat) (v : Value) (R L : List Wd) (hs : a.eval s = v) (hown : WS base w v R)
    (t : TypeId) (B m : Nat) (hB : w.heap.size = B) (hm : L.length = m) (hy : a.eval y = .slice (some ⟨B, 0, none⟩) m m) (hR : R.length + L.length ≤ 1000000) (hbase : base ≤ w.heap.size)
    (h : ∀ v' w2, WS base w2 v' (R ++ L) → Grow w v w2 v' → wpList Tryz.prog ops Q rest (a.put o.dst v') w2) :
    wpList Tryz.prog ops Q (o :: rest) a (w.alloc (.cells (L.map Value.string).toArray t)) := by
  subst hB
  subst hm
  obtain ⟨i0, hi, hz0, hz1, hz2⟩ := info_parts info9
  have hk : Below w.heap.size w (w.alloc (.cells (L.map Value.string).toArray t)) := below_alloc _ _
  refine wpList_append_own_at _ hgd s y 69 ho base 9 i0 (.string ⟨#[]⟩) 1 16 Tryz.underlying69 hi hz0 hz1 hz2 rfl (by decide) v _ _ hs (hown.keep hk) ⟨w.heap.size, 0, none⟩ L.length L.length (L.map Value.string) hy (by simp) (fun j u hj => ?_) (strs_one L) (by unfold maxLen; omega) (by omega) (Nat.le_trans hbase hk.size) ?_
  · rw [WideShapes.add_plain, Nat.zero_add, World.cell?_alloc_new]
    simpa using hj
  · intro v' w2 h1 h2 _ h4
    refine h v' w2 ?_ ⟨h2.os, h2.tape, h2.output, Nat.le_trans hk.size h2.size, fun k hk1 hk2 => ?_, fun k hk1 hk2 => ?_⟩
    · unfold WS
      rw [List.length_append, List.map_append]
      exact h1
    · rw [h2.block k (Nat.lt_of_lt_of_le hk1 hk.size) (fun e => hk2 e.symm)]
      exact hk.block k hk1
    · rcases h4 with h4 | h4
      · rw [← h4]; exact hk2
      · have h5 : (w.alloc (.cells (L.map Value.string).toArray t)).heap.size = k := Option.some.inj (h4.symm.trans hk2)
        have h6 := hk.size
        omega

theorem append_str {ops : Array Oper} {rest : List Oper} {o : Oper} {a : Act} {Q : Exit → Act → World → Prop} (w : World) (hgd : o.guard = none) (s y : Operand)
    (ho : o.op = .call { callee := .builtin .append, args := #[s, y], argTypes := #[69, 69] }) (base : Nat) (v : Value) (R : List Wd) (x : Wd) (hs : a.eval s = v) (hown : WS base w v R)
    (t : TypeId) (B : Nat) (hB : w.heap.size = B) (hy : a.eval y = .slice (some ⟨B, 0, none⟩) 1 1) (hR : R.length + 1 ≤ 1000000) (hbase : base ≤ w.heap.size)
    (h : ∀ v' w2, WS base w2 v' (R ++ [x]) → Grow w v w2 v' → wpList Tryz.prog ops Q rest (a.put o.dst v') w2) :
    wpList Tryz.prog ops Q (o :: rest) a (w.alloc (.cells #[.string x] t)) :=
  append_strs w hgd s y ho base v R [x] hs hown t B 1 hB rfl hy hR hbase h

end Go.Proofs.YtbmenihakkogkabGreatDoor

namespace Go.Proofs.YtbmenihakkogkabGreatDoor
open Go.RowKit Go.Maps

theorem strEq (a b : ByteArray) : (a.toList == b.toList) = decide (a = b) := by
  rw [← beq_toListBytes]
  by_cases h : a = b
  · subst h; rw [beq_toListBytes]; simp
  · rw [beq_toListBytes, decide_eq_false h, beq_eq_false_iff_ne]
    intro e
    exact h (ByteArray.ext (by rw [ByteArray.toList_eq, ByteArray.toList_eq] at e; exact Array.toList_inj.1 e))

theorem idxSt : ∀ (k : Nat) (_ : k < 9) (w : World), (Instr.index 207 (.agg #[.string (bs (stL 0)), .string (bs (stL 1)), .string (bs (stL 2)), .string (bs (stL 3)), .string (bs (stL 4)), .string (bs (stL 5)), .string (bs (stL 6)), .string (bs (stL 7)), .string (bs (stL 8))]) (.int .i64 (k : Int))).run Tryz.prog w = .ok (.string (bs (stL k))) w
  | 0, _, w => by kernel_rfl
  | 1, _, w => by kernel_rfl
  | 2, _, w => by kernel_rfl
  | 3, _, w => by kernel_rfl
  | 4, _, w => by kernel_rfl
  | 5, _, w => by kernel_rfl
  | 6, _, w => by kernel_rfl
  | 7, _, w => by kernel_rfl
  | 8, _, w => by kernel_rfl
  | k + 9, h, _ => absurd h (by omega)

theorem find_hit {p : Nat → Bool} {n k : Nat} (hk : k < n) (h0 : ∀ j, j < k → p j = false) (h1 : p k = true) : (List.range n).find? p = some k := by
  rw [List.find?_range_eq_some]
  exact ⟨h1, List.mem_range.2 hk, fun j hj => by rw [h0 j hj]; rfl⟩

theorem kindOf_hit {x : Wd} {k : Nat} (hk : k < 9) (h0 : ∀ j, j < k → ¬ bs (stL j) = x) (h1 : bs (stL k) = x) : kindOf x = k := by
  unfold kindOf
  rw [find_hit hk (fun j hj => by simp [h0 j hj]) (by simp [h1])]
  rfl

theorem kindOf_miss {x : Wd} (h0 : ∀ j, j < 9 → ¬ bs (stL j) = x) : kindOf x = 0 := by
  unfold kindOf
  rw [List.find?_eq_none.2 (fun j hj => by simp [h0 j (List.mem_range.1 hj)])]
  rfl

theorem kindOf_lt (x : Wd) : kindOf x ≤ 8 := by
  unfold kindOf
  cases h : (List.range 9).find? fun k => decide (bs (stL k) = x) with
  | none => simp
  | some k =>
    have := List.mem_of_find?_eq_some h
    simp at this ⊢
    omega

set_option maxHeartbeats 1000000 in
theorem stmtKind (N : Nat) (x : Wd) (w : World) (he : Env N w) :
    Calls Tryz.prog 157 #[.string x] w fun e w' => e = .returned (.int .i64 (kindOf x : Int)) ∧ w' = w := by
  have c0 := he.st 0 (by decide)
  have c1 := he.st 1 (by decide)
  have c2 := he.st 2 (by decide)
  have c3 := he.st 3 (by decide)
  have c4 := he.st 4 (by decide)
  have c5 := he.st 5 (by decide)
  have c6 := he.st 6 (by decide)
  have c7 := he.st 7 (by decide)
  have c8 := he.st 8 (by decide)
  have HIdx : Hid (∀ (k : Nat), k < 9 → ∀ w : World, (Instr.index 207 (.agg #[.string (bs (stL 0)), .string (bs (stL 1)), .string (bs (stL 2)), .string (bs (stL 3)), .string (bs (stL 4)), .string (bs (stL 5)), .string (bs (stL 6)), .string (bs (stL 7)), .string (bs (stL 8))]) (.int .i64 (k : Int))).run Tryz.prog w = .ok (.string (bs (stL k))) w) := idxSt
  clear he
  go_enter Tryz.func157, Tryz.ntmps157
  go_upto_region 2 with (fail)
  clear c0 c1 c2 c3 c4 c5 c6 c7 c8
  go_loopw [6] (fun i wr => ∃ j : Nat, j ≤ 9 ∧ i = .int .i64 j ∧ wr = w ∧ Hid (∀ t, t < j → ¬ bs (stL t) = x)) (fun i _ => 9 - (intOf i).toNat)
  case atStart => exact ⟨0, by omega, rfl, rfl, fun t ht => absurd ht (Nat.not_lt_zero _)⟩
  case round =>
    obtain ⟨j, hj0, rfl, rfl, HM⟩ := hrel
    by_cases hj : j < 9
    · have hidx := HIdx.out j hj
      have hji : (j : Int) < 9 := by omega
      by_cases hx : bs (stL j) = x
      · have hxb : ((bs (stL j)).toList == x.toList) = true := by rw [strEq]; simp [hx]
        have HF : Hid (kindOf x = j) := kindOf_hit hj HM.out hx
        clear hx
        go_wp2_with fail
        go_ret
        exact ⟨by rw [HF.out]; rfl, rfl⟩
      · have HX : Hid (¬ bs (stL j) = x) := hx
        have hxb : ((bs (stL j)).toList == x.toList) = false := by rw [strEq]; simp [hx]
        clear hx
        go_wp2_with fail
        go_roundw
        case rel => exact ⟨j + 1, by omega, by go_num, trivial, upTo HM.out HX.out⟩
        case measure => simp [intOf]; omega
    · obtain rfl : j = 9 := by omega
      have HF : Hid (kindOf x = 0) := kindOf_miss HM.out
      go_wp2_with fail
      go_ret
      exact ⟨by rw [HF.out]; rfl, rfl⟩

end Go.Proofs.YtbmenihakkogkabGreatDoor

namespace Go.Proofs.YtbmenihakkogkabGreatDoor
open Go.RowKit

/-- One statement of the walk. -/
def itemW (L : Nat → Nd → Nat → Nat → Int → Int) (d : Nat) (T : SL) (dep : Int) (i c : Nat) : Int × Nat :=
  if L c (T.nd i) (T.sub i false).len (T.sub i true).len dep = 0 then
    (if (wk L d (T.sub i false) (dep + 1) (c + 1)).1 = 0 then wk L d (T.sub i true) (dep + 1) (wk L d (T.sub i false) (dep + 1) (c + 1)).2
     else wk L d (T.sub i false) (dep + 1) (c + 1))
  else (L c (T.nd i) (T.sub i false).len (T.sub i true).len dep, c + 1)

theorem wk_succ (L : Nat → Nd → Nat → Nat → Int → Int) (d : Nat) (T : SL) (dep : Int) (c : Nat) : wk L (d + 1) T dep c = seqW (itemW L d T dep) T.len c := rfl

/-- All that was there is as it was, but for block X. -/
structure Save (X : Nat) (w w' : World) : Prop where
  os : w'.os = w.os
  tape : w'.tape = w.tape
  output : w'.output = w.output
  size : w.heap.size ≤ w'.heap.size
  block : ∀ k, k < w.heap.size → ¬ k = X → w'.heap[k]? = w.heap[k]?

theorem Save.refl (X : Nat) (w : World) : Save X w w := ⟨rfl, rfl, rfl, Nat.le_refl _, fun _ _ _ => rfl⟩
theorem Save.trans {X : Nat} {a b c : World} (h : Save X a b) (k : Save X b c) : Save X a c :=
  ⟨k.os.trans h.os, k.tape.trans h.tape, k.output.trans h.output, Nat.le_trans h.size k.size, fun n hn hx => (k.block n (Nat.lt_of_lt_of_le hn h.size) hx).trans (h.block n hn hx)⟩
theorem Save.of {X : Nat} {a b : World} (h : Below a.heap.size a b) : Save X a b := ⟨h.os, h.tape, h.output, h.size, fun k hk _ => h.block k hk⟩
theorem Save.alloc (X : Nat) (w : World) (o : Obj) : Save X w (w.alloc o) := Save.of (below_alloc w o)
theorem Save.low {X N : Nat} {a b : World} (h : Save X a b) (h1 : N ≤ X) (h2 : N ≤ a.heap.size) : Below N a b := ⟨h.os, h.tape, h.output, h.size, fun k hk => h.block k (Nat.lt_of_lt_of_le hk h2) (by omega)⟩
theorem Save.cell {X : Nat} {a b : World} (h : Save X a b) {p : Addr} (h1 : p.block < a.heap.size) (h2 : ¬ p.block = X) : b.cell? p = a.cell? p := World.cell?_of_block (w := a) (a := p) (h.block p.block h1 h2)
theorem Save.box {X : Nat} {w w1 : World} {cs : Array Value} {t : TypeId} (hb : Save X (w.alloc (.cells cs t)) w1) (hX : X < w.heap.size) (i : Nat) {c : Value} (h : cs[i]? = some c) : w1.cell? ⟨w.heap.size, i, none⟩ = some c := by
  rw [hb.cell (p := ⟨w.heap.size, i, none⟩) (by simp) (by simp; omega), World.cell?_alloc_new]
  exact h

theorem idx0 (a b : Option Addr) (n c m d : Nat) (w : World) : (Instr.index 234 (.agg #[.slice a n c, .slice b m d]) (.int .i64 0)).run Tryz.prog w = .ok (.slice a n c) w := by kernel_rfl
theorem idx1 (a b : Option Addr) (n c m d : Nat) (w : World) : (Instr.index 234 (.agg #[.slice a n c, .slice b m d]) (.int .i64 1)).run Tryz.prog w = .ok (.slice b m d) w := by kernel_rfl

/-- What a look is: the number of its function, what it holds, the state that it keeps, and what it answers. -/
structure Look (F : Nat) (caps : Array Value) (N X : Nat) (I : Nat → World → Prop) (L : Nat → Nd → Nat → Nat → Int → Int) : Prop where
  over : N ≤ X
  keep : ∀ c w w', I c w → Below w.heap.size w w' → I c w'
  size : ∀ c w, I c w → X < w.heap.size
  call : ∀ c (s : Nd) (la lb : Nat) (ve vf : Value) (aa ab : Option Addr) (ca cb : Nat) (dep : Int) (w : World), I c w → ToksAt N w ve s.ne s.ek s.ez → ToksAt N w vf s.nf s.fk s.fz →
    Calls Tryz.prog F (#[.agg #[.int .i64 s.kind, .int .i64 s.num, ve, vf, .slice aa la ca, .slice ab lb cb], .int .i64 dep] ++ caps) w fun e w' => e = .returned (.int .i64 (L c s la lb dep)) ∧ Hid (L c s la lb dep = 0 → I (c + 1) w') ∧ Save X w w'

set_option maxHeartbeats 2000000 in
theorem walk61 (p : Addr) (N X : Nat) (I : Nat → World → Prop) (L : Nat → Nd → Nat → Nat → Int → Int) (lk : Look 148 #[.pointer (some p)] N X I L) :
    ∀ (d : Nat) (v : Value) (T : SL) (dep : Int) (c : Nat) (w : World), StmtsAt N w d v T → I c w → 0 ≤ dep → dep ≤ 200 → ((∀ c s la lb dep, L c s la lb dep = 0 → dep ≤ 100) ∨ dep + d ≤ 100) →
    Calls Tryz.prog 147 #[v, .int .i64 dep, .func (.func 148) #[] #[.pointer (some p)]] w fun e w' => e = .returned (.int .i64 (wk L d T dep c).1) ∧ Hid ((wk L d T dep c).1 = 0 → I (wk L d T dep c).2 w') ∧ Save X w w' := by
  intro d
  induction d with
  | zero =>
    intro v T dep c w h hI h0 h1 _
    obtain ⟨_, a, cap, rfl⟩ := h
    go_enter Tryz.func147, Tryz.ntmps147
    go_wp2_with fail
    go_loopw [15] (fun i wr => i = .int .i64 0 ∧ wr = w) (fun i _ => 0)
    case atStart => exact ⟨rfl, rfl⟩
    case round =>
      obtain ⟨rfl, rfl⟩ := hrel
      go_wp2_with fail
      go_ret
      exact ⟨rfl, fun _ => hI, Save.refl _ _⟩
  | succ d ih =>
    intro v T dep c w h hI h0 h1 hd
    obtain ⟨a, cap, rfl, hn, h⟩ := h
    rw [wk_succ]
    have hXw := lk.size c w hI
    have hNX := lk.over
    go_enter Tryz.func147, Tryz.ntmps147
    go_wp2_with fail
    go_loopw [15] (fun i wr => ∃ j : Nat, j ≤ T.len ∧ i = .int .i64 j ∧ Save X w wr ∧ I (seqW (itemW L d T dep) j c).2 wr ∧ Hid ((seqW (itemW L d T dep) j c).1 = 0)) (fun i _ => T.len - (intOf i).toNat)
    case atStart => exact ⟨0, Nat.zero_le _, rfl, Save.refl _ _, hI, rfl⟩
    case round =>
      clear hI
      obtain ⟨j, hj, rfl, hb, hI, hall⟩ := hrel
      have HS : Hid (j < T.len → ¬ (itemW L d T dep j (seqW (itemW L d T dep) j c).2).1 = 0 → seqW (itemW L d T dep) T.len c = itemW L d T dep j (seqW (itemW L d T dep) j c).2) := fun h1 h2 => seqW_stop hall.out h2 h1
      have HX : Hid (seqW (itemW L d T dep) (j + 1) c = itemW L d T dep j (seqW (itemW L d T dep) j c).2) := seqW_next hall.out
      have HD : Hid (j = T.len → seqW (itemW L d T dep) T.len c = (0, (seqW (itemW L d T dep) j c).2)) := fun e => by
        subst e; exact Prod.ext hall.out rfl
      generalize (seqW (itemW L d T dep) j c).2 = cj at *
      by_cases hlt : j < T.len
      · rcases h with h | ⟨b, o, rfl, hp, g⟩
        · omega
        obtain ⟨ve, vf, va, vb, q0, q1, q2, q3, q4, q5, t1, t2, s1, s2⟩ := g j hlt
        have hbN : Below N w wr := hb.low hNX (by omega)
        rw [← hbN.cell hp] at q0 q1 q2 q3 q4 q5
        have t1 := t1.below hbN
        have t2 := t2.below hbN
        have s1 := s1.below hbN
        have s2 := s2.below hbN
        clear g
        obtain ⟨ae, ce, rfl, _⟩ := t1.shape
        obtain ⟨af, cf, rfl, _⟩ := t2.shape
        obtain ⟨aa, ca, rfl, _⟩ := s1.shape
        obtain ⟨ab, cb, rfl, _⟩ := s2.shape
        have hz := hb.size
        have hXr := lk.size cj wr hI
        have hNr : N ≤ wr.heap.size := by omega
        by_cases he : L cj (T.nd j) (T.sub j false).len (T.sub j true).len dep = 0
        · have HE : Hid (itemW L d T dep j cj = if (wk L d (T.sub j false) (dep + 1) (cj + 1)).1 = 0 then wk L d (T.sub j true) (dep + 1) (wk L d (T.sub j false) (dep + 1) (cj + 1)).2
              else wk L d (T.sub j false) (dep + 1) (cj + 1)) := if_pos he
          have het : (L cj (T.nd j) (T.sub j false).len (T.sub j true).len dep != 0) = false := by simp [he]
          have hdep : dep ≤ 100 := by
            rcases hd with hd | hd
            · exact hd _ _ _ _ _ he
            · omega
          have HD2 : Hid ((∀ c s la lb dep, L c s la lb dep = 0 → dep ≤ 100) ∨ dep + 1 + d ≤ 100) := by
            rcases hd with hd | hd
            · exact Or.inl hd
            · exact Or.inr (by omega)
          have HZ0 : Hid (L cj (T.nd j) (T.sub j false).len (T.sub j true).len dep = 0) := he
          clear he hd
          go_wp2_with (go_at_call 148; refine (lk.call cj (T.nd j) (T.sub j false).len (T.sub j true).len _ _ _ _ _ _ dep _ (lk.keep _ _ _ hI (below_alloc _ _)) (t1.below ((below_alloc _ _).mono hNr)) (t2.below ((below_alloc _ _).mono hNr))).mono ?_; rintro e w1 ⟨rfl, HI1, hb1⟩; have hI1 := HI1.out HZ0.out; have m4 := hb1.box hXr 4 rfl; have m5 := hb1.box hXr 5 rfl)
          have hbw : Save X wr w1 := (Save.alloc X _ _).trans hb1
          have hbT : Save X w w1 := hb.trans hbw
          generalize hrA : wk L d (T.sub j false) (dep + 1) (cj + 1) = rA at *
          generalize hrB : wk L d (T.sub j true) (dep + 1) rA.2 = rB at *
          have HA : Hid (wk L d (T.sub j false) (dep + 1) (cj + 1) = rA) := hrA
          have HB : Hid (wk L d (T.sub j true) (dep + 1) rA.2 = rB) := hrB
          clear hrA hrB m4 m5 q0 q1 q2 q3 q4 q5 het hb1 hI t1 t2
          generalize wr = w0 at *
          go_loopw [31] (fun i wi => ∃ x : Nat, x ≤ 2 ∧ i = .int .i64 x ∧ Save X w0 wi ∧ I (if x = 0 then cj + 1 else if x = 1 then rA.2 else rB.2) wi ∧ Hid (1 ≤ x → rA.1 = 0) ∧ Hid (2 ≤ x → rB.1 = 0)) (fun i _ => 2 - (intOf i).toNat)
          case atStart => exact ⟨0, by omega, rfl, hbw, hI1, fun h => absurd h (by decide), fun h => absurd h (by decide)⟩
          case round =>
            clear hI1 hbw hbT
            obtain ⟨x, hx, rfl, hs, hI, z1, z2⟩ := hrel
            have hbi : Below N w0 wr := hs.low hNX hNr
            have hbT : Save X w wr := hb.trans hs
            rcases (show x = 0 ∨ x = 1 ∨ x = 2 by omega) with rfl | rfl | rfl
            · have hix := idx0 aa ab (T.sub j false).len ca (T.sub j true).len cb
              have hIx : I (cj + 1) wr := hI
              have HC : Hid (Calls Tryz.prog 147 #[.slice aa (T.sub j false).len ca, .int .i64 (dep + 1), .func (.func 148) #[] #[.pointer (some p)]] wr fun e w' => e = .returned (.int .i64 rA.1) ∧ Hid (rA.1 = 0 → I rA.2 w') ∧ Save X wr w') := by
                have := ih _ _ (dep + 1) (cj + 1) wr (s1.below hbi) hIx (by omega) (by omega) HD2.out
                rw [HA.out] at this
                exact this
              clear hI
              by_cases ha : rA.1 = 0
              · have hat : (rA.1 != 0) = false := by simp [ha]
                have HZ : Hid (rA.1 = 0) := ha
                clear ha
                go_wp2_with (go_at_call 147; refine HC.out.mono ?_; rintro e w2 ⟨rfl, hI2, hb2⟩)
                go_roundw
                case rel =>
                  exact ⟨1, by omega, by go_num, hs.trans hb2, hI2.out HZ.out, fun _ => HZ.out, fun h => absurd h (by decide)⟩
                case measure => simp [intOf]
              · have hat : (rA.1 != 0) = true := by simp [ha]
                have HR : Hid (seqW (itemW L d T dep) T.len c = rA) := by
                  have e1 : itemW L d T dep j cj = rA := HE.out.trans (if_neg ha)
                  exact (HS.out hlt (by rw [e1]; exact ha)).trans e1
                clear ha
                go_wp2_with (go_at_call 147; refine HC.out.mono ?_; rintro e w2 ⟨rfl, hI2, hb2⟩)
                go_ret
                rw [HR.out]
                exact ⟨rfl, hI2, hbT.trans hb2⟩
            · have hix := idx1 aa ab (T.sub j false).len ca (T.sub j true).len cb
              have hIx : I rA.2 wr := hI
              have HC : Hid (Calls Tryz.prog 147 #[.slice ab (T.sub j true).len cb, .int .i64 (dep + 1), .func (.func 148) #[] #[.pointer (some p)]] wr fun e w' => e = .returned (.int .i64 rB.1) ∧ Hid (rB.1 = 0 → I rB.2 w') ∧ Save X wr w') := by
                have := ih _ _ (dep + 1) rA.2 wr (s2.below hbi) hIx (by omega) (by omega) HD2.out
                rw [HB.out] at this
                exact this
              clear hI
              by_cases ha : rB.1 = 0
              · have hat : (rB.1 != 0) = false := by simp [ha]
                have HZ : Hid (rB.1 = 0) := ha
                clear ha
                go_wp2_with (go_at_call 147; refine HC.out.mono ?_; rintro e w2 ⟨rfl, hI2, hb2⟩)
                go_roundw
                case rel =>
                  exact ⟨2, by omega, by go_num, hs.trans hb2, hI2.out HZ.out, fun _ => z1.out (by decide), fun _ => HZ.out⟩
                case measure => simp [intOf]
              · have hat : (rB.1 != 0) = true := by simp [ha]
                have HR : Hid (seqW (itemW L d T dep) T.len c = rB) := by
                  have e1 : itemW L d T dep j cj = rB := by
                    have := HE.out
                    rw [if_pos (z1.out (by decide))] at this
                    exact this
                  exact (HS.out hlt (by rw [e1]; exact ha)).trans e1
                clear ha
                go_wp2_with (go_at_call 147; refine HC.out.mono ?_; rintro e w2 ⟨rfl, hI2, hb2⟩)
                go_ret
                rw [HR.out]
                exact ⟨rfl, hI2, hbT.trans hb2⟩
            · have hIx : I rB.2 wr := hI
              clear hI
              go_wp2_with fail
              go_roundw
              case rel =>
                have e1 : seqW (itemW L d T dep) (j + 1) c = rB := by
                  have := HE.out
                  rw [if_pos (z1.out (by decide))] at this
                  exact HX.out.trans this
                exact ⟨j + 1, by omega, by go_num, hbT, by rw [e1]; exact hIx, by rw [e1]; exact z2.out (by decide)⟩
              case measure => simp [intOf]; omega
        · have HE : Hid (itemW L d T dep j cj = (L cj (T.nd j) (T.sub j false).len (T.sub j true).len dep, cj + 1)) := if_neg he
          have HR : Hid (seqW (itemW L d T dep) T.len c = (L cj (T.nd j) (T.sub j false).len (T.sub j true).len dep, cj + 1)) := (HS.out hlt (by rw [HE.out]; exact he)).trans HE.out
          have het : (L cj (T.nd j) (T.sub j false).len (T.sub j true).len dep != 0) = true := by simp [he]
          have HZ0 : Hid (¬ L cj (T.nd j) (T.sub j false).len (T.sub j true).len dep = 0) := he
          clear he
          go_wp2_with (go_at_call 148; refine (lk.call cj (T.nd j) (T.sub j false).len (T.sub j true).len _ _ _ _ _ _ dep _ (lk.keep _ _ _ hI (below_alloc _ _)) (t1.below ((below_alloc _ _).mono hNr)) (t2.below ((below_alloc _ _).mono hNr))).mono ?_; rintro e w1 ⟨rfl, _, hb1⟩)
          go_ret
          rw [HR.out]
          exact ⟨rfl, fun e => absurd e HZ0.out, (hb.trans (Save.alloc X _ _)).trans hb1⟩
      · have HR : Hid (seqW (itemW L d T dep) T.len c = (0, cj)) := HD.out (by omega)
        go_wp2_with fail
        go_ret
        rw [HR.out]
        exact ⟨rfl, fun _ => hI, hb⟩

set_option maxHeartbeats 2000000 in
theorem walk62 (p q : Addr) (N X : Nat) (I : Nat → World → Prop) (L : Nat → Nd → Nat → Nat → Int → Int) (lk : Look 149 #[.pointer (some p), .pointer (some q)] N X I L) :
    ∀ (d : Nat) (v : Value) (T : SL) (dep : Int) (c : Nat) (w : World), StmtsAt N w d v T → I c w → 0 ≤ dep → dep ≤ 200 → ((∀ c s la lb dep, L c s la lb dep = 0 → dep ≤ 100) ∨ dep + d ≤ 100) →
    Calls Tryz.prog 147 #[v, .int .i64 dep, .func (.func 149) #[] #[.pointer (some p), .pointer (some q)]] w fun e w' => e = .returned (.int .i64 (wk L d T dep c).1) ∧ Hid ((wk L d T dep c).1 = 0 → I (wk L d T dep c).2 w') ∧ Save X w w' := by
  intro d
  induction d with
  | zero =>
    intro v T dep c w h hI h0 h1 _
    obtain ⟨_, a, cap, rfl⟩ := h
    go_enter Tryz.func147, Tryz.ntmps147
    go_wp2_with fail
    go_loopw [15] (fun i wr => i = .int .i64 0 ∧ wr = w) (fun i _ => 0)
    case atStart => exact ⟨rfl, rfl⟩
    case round =>
      obtain ⟨rfl, rfl⟩ := hrel
      go_wp2_with fail
      go_ret
      exact ⟨rfl, fun _ => hI, Save.refl _ _⟩
  | succ d ih =>
    intro v T dep c w h hI h0 h1 hd
    obtain ⟨a, cap, rfl, hn, h⟩ := h
    rw [wk_succ]
    have hXw := lk.size c w hI
    have hNX := lk.over
    go_enter Tryz.func147, Tryz.ntmps147
    go_wp2_with fail
    go_loopw [15] (fun i wr => ∃ j : Nat, j ≤ T.len ∧ i = .int .i64 j ∧ Save X w wr ∧ I (seqW (itemW L d T dep) j c).2 wr ∧ Hid ((seqW (itemW L d T dep) j c).1 = 0)) (fun i _ => T.len - (intOf i).toNat)
    case atStart => exact ⟨0, Nat.zero_le _, rfl, Save.refl _ _, hI, rfl⟩
    case round =>
      clear hI
      obtain ⟨j, hj, rfl, hb, hI, hall⟩ := hrel
      have HS : Hid (j < T.len → ¬ (itemW L d T dep j (seqW (itemW L d T dep) j c).2).1 = 0 → seqW (itemW L d T dep) T.len c = itemW L d T dep j (seqW (itemW L d T dep) j c).2) := fun h1 h2 => seqW_stop hall.out h2 h1
      have HX : Hid (seqW (itemW L d T dep) (j + 1) c = itemW L d T dep j (seqW (itemW L d T dep) j c).2) := seqW_next hall.out
      have HD : Hid (j = T.len → seqW (itemW L d T dep) T.len c = (0, (seqW (itemW L d T dep) j c).2)) := fun e => by
        subst e; exact Prod.ext hall.out rfl
      generalize (seqW (itemW L d T dep) j c).2 = cj at *
      by_cases hlt : j < T.len
      · rcases h with h | ⟨b, o, rfl, hp, g⟩
        · omega
        obtain ⟨ve, vf, va, vb, q0, q1, q2, q3, q4, q5, t1, t2, s1, s2⟩ := g j hlt
        have hbN : Below N w wr := hb.low hNX (by omega)
        rw [← hbN.cell hp] at q0 q1 q2 q3 q4 q5
        have t1 := t1.below hbN
        have t2 := t2.below hbN
        have s1 := s1.below hbN
        have s2 := s2.below hbN
        clear g
        obtain ⟨ae, ce, rfl, _⟩ := t1.shape
        obtain ⟨af, cf, rfl, _⟩ := t2.shape
        obtain ⟨aa, ca, rfl, _⟩ := s1.shape
        obtain ⟨ab, cb, rfl, _⟩ := s2.shape
        have hz := hb.size
        have hXr := lk.size cj wr hI
        have hNr : N ≤ wr.heap.size := by omega
        by_cases he : L cj (T.nd j) (T.sub j false).len (T.sub j true).len dep = 0
        · have HE : Hid (itemW L d T dep j cj = if (wk L d (T.sub j false) (dep + 1) (cj + 1)).1 = 0 then wk L d (T.sub j true) (dep + 1) (wk L d (T.sub j false) (dep + 1) (cj + 1)).2
              else wk L d (T.sub j false) (dep + 1) (cj + 1)) := if_pos he
          have het : (L cj (T.nd j) (T.sub j false).len (T.sub j true).len dep != 0) = false := by simp [he]
          have hdep : dep ≤ 100 := by
            rcases hd with hd | hd
            · exact hd _ _ _ _ _ he
            · omega
          have HD2 : Hid ((∀ c s la lb dep, L c s la lb dep = 0 → dep ≤ 100) ∨ dep + 1 + d ≤ 100) := by
            rcases hd with hd | hd
            · exact Or.inl hd
            · exact Or.inr (by omega)
          have HZ0 : Hid (L cj (T.nd j) (T.sub j false).len (T.sub j true).len dep = 0) := he
          clear he hd
          go_wp2_with (go_at_call 149; refine (lk.call cj (T.nd j) (T.sub j false).len (T.sub j true).len _ _ _ _ _ _ dep _ (lk.keep _ _ _ hI (below_alloc _ _)) (t1.below ((below_alloc _ _).mono hNr)) (t2.below ((below_alloc _ _).mono hNr))).mono ?_; rintro e w1 ⟨rfl, HI1, hb1⟩; have hI1 := HI1.out HZ0.out; have m4 := hb1.box hXr 4 rfl; have m5 := hb1.box hXr 5 rfl)
          have hbw : Save X wr w1 := (Save.alloc X _ _).trans hb1
          have hbT : Save X w w1 := hb.trans hbw
          generalize hrA : wk L d (T.sub j false) (dep + 1) (cj + 1) = rA at *
          generalize hrB : wk L d (T.sub j true) (dep + 1) rA.2 = rB at *
          have HA : Hid (wk L d (T.sub j false) (dep + 1) (cj + 1) = rA) := hrA
          have HB : Hid (wk L d (T.sub j true) (dep + 1) rA.2 = rB) := hrB
          clear hrA hrB m4 m5 q0 q1 q2 q3 q4 q5 het hb1 hI t1 t2
          generalize wr = w0 at *
          go_loopw [31] (fun i wi => ∃ x : Nat, x ≤ 2 ∧ i = .int .i64 x ∧ Save X w0 wi ∧ I (if x = 0 then cj + 1 else if x = 1 then rA.2 else rB.2) wi ∧ Hid (1 ≤ x → rA.1 = 0) ∧ Hid (2 ≤ x → rB.1 = 0)) (fun i _ => 2 - (intOf i).toNat)
          case atStart => exact ⟨0, by omega, rfl, hbw, hI1, fun h => absurd h (by decide), fun h => absurd h (by decide)⟩
          case round =>
            clear hI1 hbw hbT
            obtain ⟨x, hx, rfl, hs, hI, z1, z2⟩ := hrel
            have hbi : Below N w0 wr := hs.low hNX hNr
            have hbT : Save X w wr := hb.trans hs
            rcases (show x = 0 ∨ x = 1 ∨ x = 2 by omega) with rfl | rfl | rfl
            · have hix := idx0 aa ab (T.sub j false).len ca (T.sub j true).len cb
              have hIx : I (cj + 1) wr := hI
              have HC : Hid (Calls Tryz.prog 147 #[.slice aa (T.sub j false).len ca, .int .i64 (dep + 1), .func (.func 149) #[] #[.pointer (some p), .pointer (some q)]] wr fun e w' => e = .returned (.int .i64 rA.1) ∧ Hid (rA.1 = 0 → I rA.2 w') ∧ Save X wr w') := by
                have := ih _ _ (dep + 1) (cj + 1) wr (s1.below hbi) hIx (by omega) (by omega) HD2.out
                rw [HA.out] at this
                exact this
              clear hI
              by_cases ha : rA.1 = 0
              · have hat : (rA.1 != 0) = false := by simp [ha]
                have HZ : Hid (rA.1 = 0) := ha
                clear ha
                go_wp2_with (go_at_call 147; refine HC.out.mono ?_; rintro e w2 ⟨rfl, hI2, hb2⟩)
                go_roundw
                case rel =>
                  exact ⟨1, by omega, by go_num, hs.trans hb2, hI2.out HZ.out, fun _ => HZ.out, fun h => absurd h (by decide)⟩
                case measure => simp [intOf]
              · have hat : (rA.1 != 0) = true := by simp [ha]
                have HR : Hid (seqW (itemW L d T dep) T.len c = rA) := by
                  have e1 : itemW L d T dep j cj = rA := HE.out.trans (if_neg ha)
                  exact (HS.out hlt (by rw [e1]; exact ha)).trans e1
                clear ha
                go_wp2_with (go_at_call 147; refine HC.out.mono ?_; rintro e w2 ⟨rfl, hI2, hb2⟩)
                go_ret
                rw [HR.out]
                exact ⟨rfl, hI2, hbT.trans hb2⟩
            · have hix := idx1 aa ab (T.sub j false).len ca (T.sub j true).len cb
              have hIx : I rA.2 wr := hI
              have HC : Hid (Calls Tryz.prog 147 #[.slice ab (T.sub j true).len cb, .int .i64 (dep + 1), .func (.func 149) #[] #[.pointer (some p), .pointer (some q)]] wr fun e w' => e = .returned (.int .i64 rB.1) ∧ Hid (rB.1 = 0 → I rB.2 w') ∧ Save X wr w') := by
                have := ih _ _ (dep + 1) rA.2 wr (s2.below hbi) hIx (by omega) (by omega) HD2.out
                rw [HB.out] at this
                exact this
              clear hI
              by_cases ha : rB.1 = 0
              · have hat : (rB.1 != 0) = false := by simp [ha]
                have HZ : Hid (rB.1 = 0) := ha
                clear ha
                go_wp2_with (go_at_call 147; refine HC.out.mono ?_; rintro e w2 ⟨rfl, hI2, hb2⟩)
                go_roundw
                case rel =>
                  exact ⟨2, by omega, by go_num, hs.trans hb2, hI2.out HZ.out, fun _ => z1.out (by decide), fun _ => HZ.out⟩
                case measure => simp [intOf]
              · have hat : (rB.1 != 0) = true := by simp [ha]
                have HR : Hid (seqW (itemW L d T dep) T.len c = rB) := by
                  have e1 : itemW L d T dep j cj = rB := by
                    have := HE.out
                    rw [if_pos (z1.out (by decide))] at this
                    exact this
                  exact (HS.out hlt (by rw [e1]; exact ha)).trans e1
                clear ha
                go_wp2_with (go_at_call 147; refine HC.out.mono ?_; rintro e w2 ⟨rfl, hI2, hb2⟩)
                go_ret
                rw [HR.out]
                exact ⟨rfl, hI2, hbT.trans hb2⟩
            · have hIx : I rB.2 wr := hI
              clear hI
              go_wp2_with fail
              go_roundw
              case rel =>
                have e1 : seqW (itemW L d T dep) (j + 1) c = rB := by
                  have := HE.out
                  rw [if_pos (z1.out (by decide))] at this
                  exact HX.out.trans this
                exact ⟨j + 1, by omega, by go_num, hbT, by rw [e1]; exact hIx, by rw [e1]; exact z2.out (by decide)⟩
              case measure => simp [intOf]; omega
        · have HE : Hid (itemW L d T dep j cj = (L cj (T.nd j) (T.sub j false).len (T.sub j true).len dep, cj + 1)) := if_neg he
          have HR : Hid (seqW (itemW L d T dep) T.len c = (L cj (T.nd j) (T.sub j false).len (T.sub j true).len dep, cj + 1)) := (HS.out hlt (by rw [HE.out]; exact he)).trans HE.out
          have het : (L cj (T.nd j) (T.sub j false).len (T.sub j true).len dep != 0) = true := by simp [he]
          have HZ0 : Hid (¬ L cj (T.nd j) (T.sub j false).len (T.sub j true).len dep = 0) := he
          clear he
          go_wp2_with (go_at_call 149; refine (lk.call cj (T.nd j) (T.sub j false).len (T.sub j true).len _ _ _ _ _ _ dep _ (lk.keep _ _ _ hI (below_alloc _ _)) (t1.below ((below_alloc _ _).mono hNr)) (t2.below ((below_alloc _ _).mono hNr))).mono ?_; rintro e w1 ⟨rfl, _, hb1⟩)
          go_ret
          rw [HR.out]
          exact ⟨rfl, fun e => absurd e HZ0.out, (hb.trans (Save.alloc X _ _)).trans hb1⟩
      · have HR : Hid (seqW (itemW L d T dep) T.len c = (0, cj)) := HD.out (by omega)
        go_wp2_with fail
        go_ret
        rw [HR.out]
        exact ⟨rfl, fun _ => hI, hb⟩

end Go.Proofs.YtbmenihakkogkabGreatDoor
