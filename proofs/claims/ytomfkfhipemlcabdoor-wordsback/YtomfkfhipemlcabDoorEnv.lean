/- What the program's tables hold, and that they stay so; rows of words of the call's own; strconv.Itoa and strconv.Atoi. -/
import Derived.Test.YtomfkfhipemlcabDoorShelf
import Derived.Test.YtomfkfhipemlcabDoorOwnRow
import Derived.Test.YtomfkfhipemlcabDoorWordsSame
import Derived.Deep.RegionHeld3
import Derived.Lib.SmallJoins
namespace Go.Proofs.YtomfkfhipemlcabDoor
open Go.RowKit Go.Maps

/-- The tables that the program reads, below block N. -/
structure Env (N : Nat) (w : World) : Prop where
  low : 11 ≤ N
  st : ∀ k, k < 9 → w.cell? ⟨0, k, none⟩ = some (.string (bs (stL k)))
  op : ∀ k, k < 6 → w.cell? ⟨1, k, none⟩ = some (.string (bs (opL k)))
  mks : ∀ k, k < 7 → w.cell? ⟨2, k, none⟩ = some (.string (bs (mkL k)))
  pow : Lib.TabIs Tryd.prog w "internal/strconv.uint64pow10" .u64 Lib.pow10Tab
  syn : ∃ tp p, w.var? Tryd.prog "strconv.ErrSyntax" = some #[.iface tp p]
  rng : ∃ tp p, w.var? Tryd.prog "strconv.ErrRange" = some #[.iface tp p]
  max : ∃ m, w.cell? ⟨4, 0, none⟩ = some (.int .i64 m)

theorem gPow : Tryd.prog.globalNamed "internal/strconv.uint64pow10" = some 3 := by kernel_rfl
theorem gSyn : Tryd.prog.globalNamed "strconv.ErrSyntax" = some 5 := by kernel_rfl
theorem gRng : Tryd.prog.globalNamed "strconv.ErrRange" = some 6 := by kernel_rfl

theorem var_of_block {P : Program} {w w' : World} {n : String} {g : Nat} (hg : P.globalNamed n = some g) (hb : w'.heap[g]? = w.heap[g]?) : w'.var? P n = w.var? P n := by
  unfold World.var?
  rw [hg]
  simp only [Option.bind_some, hb]

theorem Env.below {N : Nat} {w w' : World} (h : Env N w) (hb : Below N w w') : Env N w' := by
  have l := h.low
  refine ⟨l, fun k hk => ?_, fun k hk => ?_, fun k hk => ?_, ?_, ?_, ?_, ?_⟩
  · rw [hb.cell (p := ⟨0, k, none⟩) (by show 0 < N; omega)]; exact h.st k hk
  · rw [hb.cell (p := ⟨1, k, none⟩) (by show 1 < N; omega)]; exact h.op k hk
  · rw [hb.cell (p := ⟨2, k, none⟩) (by show 2 < N; omega)]; exact h.mks k hk
  · unfold Lib.TabIs; rw [var_of_block gPow (hb.block 3 (by omega))]; exact h.pow
  · rw [var_of_block gSyn (hb.block 5 (by omega))]; exact h.syn
  · rw [var_of_block gRng (hb.block 6 (by omega))]; exact h.rng
  · rw [hb.cell (p := ⟨4, 0, none⟩) (by show 4 < N; omega)]; exact h.max

theorem Env.up {N M : Nat} {w : World} (h : Env N w) (hm : N ≤ M) : Env M w := ⟨Nat.le_trans h.low hm, h.st, h.op, h.mks, h.pow, h.syn, h.rng, h.max⟩

theorem below_grow (w : World) (k : Nat) (os : Array Obj) : Below w.heap.size w (Sort.grow (w.drewN k) os) :=
  ⟨rfl, rfl, rfl, by simp [Sort.grow, World.drewN], fun j hj => by
    show (w.heap ++ os)[j]? = w.heap[j]?
    rw [Array.getElem?_append_left hj]⟩

/-- strconv.Itoa. -/
theorem itoa (N : Nat) (z : Int) (h0 : -9223372036854775808 ≤ z) (h1 : z ≤ 9223372036854775807) (w : World) (he : Env N w) :
    Calls Tryd.prog 9 #[.int .i64 z] w fun e w' => e = .returned (.string (numW z)) ∧ Below w.heap.size w w' := by
  refine (Tryd.strconv_Itoa z h0 h1 w he.pow).mono ?_
  rintro e w' ⟨rfl, k, os, rfl⟩
  exact ⟨rfl, below_grow w k os⟩

/-- strconv.Atoi: the number that it hands back. -/
theorem atoi (N : Nat) (s : Wd) (hs : s.size ≤ 1000000) (w : World) (he : Env N w) :
    Calls Tryd.prog 39 #[.string s] w fun e w' => ∃ er, e = .returned (.tuple #[.int .i64 (atoiV s.data.toList), er]) ∧ Below w.heap.size w w' := by
  cases h : Lib.atoiAll s.data.toList with
  | ok v =>
    have e0 : atoiV s.data.toList = v := by unfold atoiV; rw [h]
    rw [e0]
    refine (Tryd.strconv_Atoi_ok s (by omega) v h w).mono ?_
    rintro e w' ⟨rfl, rfl | ⟨t, rfl⟩⟩
    · exact ⟨_, rfl, Below.refl _ _⟩
    · exact ⟨_, rfl, Lib.bytesWorld_below _ _ _⟩
  | «syntax» =>
    have e0 : atoiV s.data.toList = 0 := by unfold atoiV; rw [h]
    rw [e0]
    obtain ⟨tp, p, hv⟩ := he.syn
    refine (Tryd.strconv_Atoi_syntax_var s (by omega) h tp p w hv).mono ?_
    rintro e w' ⟨n, rfl, _, _, hb⟩
    exact ⟨_, rfl, hb⟩
  | range =>
    have e0 : atoiV s.data.toList = Lib.atoiSat s.data.toList := by unfold atoiV; rw [h]
    rw [e0]
    obtain ⟨tp, p, hv⟩ := he.rng
    refine (Tryd.strconv_Atoi_range_var s (by omega) h tp p w hv).mono ?_
    rintro e w' ⟨n, rfl, _, _, hb⟩
    exact ⟨_, rfl, hb⟩

/-! ### Rows of words of the call's own -/

/-- All that was there is as it was, but for the row v; and v' is that row, or a new one. -/
structure Grow (w : World) (v : Value) (w' : World) (v' : Value) : Prop where
  os : w'.os = w.os
  tape : w'.tape = w.tape
  output : w'.output = w.output
  size : w.heap.size ≤ w'.heap.size
  block : ∀ k, k < w.heap.size → ¬ v.ownBlock = some k → w'.heap[k]? = w.heap[k]?
  own : ∀ k, k < w.heap.size → v'.ownBlock = some k → v.ownBlock = some k

theorem Grow.refl (w : World) (v : Value) : Grow w v w v := ⟨rfl, rfl, rfl, Nat.le_refl _, fun _ _ _ => rfl, fun _ _ h => h⟩
theorem Grow.trans {a b c : World} {u v x : Value} (h : Grow a u b v) (k : Grow b v c x) : Grow a u c x :=
  ⟨k.os.trans h.os, k.tape.trans h.tape, k.output.trans h.output, Nat.le_trans h.size k.size,
    fun n hn hx => (k.block n (Nat.lt_of_lt_of_le hn h.size) fun e => hx (h.own n hn e)).trans (h.block n hn hx),
    fun n hn e => h.own n hn (k.own n (Nat.lt_of_lt_of_le hn h.size) e)⟩
theorem Grow.of {a b : World} (v : Value) (h : Below a.heap.size a b) : Grow a v b v := ⟨h.os, h.tape, h.output, h.size, fun n hn _ => h.block n hn, fun _ _ e => e⟩
theorem Grow.drew {a b : World} {u v : Value} (h : Grow a u b v) : Grow a u b.drew v := ⟨h.os, h.tape, h.output, h.size, h.block, h.own⟩

/-- A row of the words R, of blocks from B on. -/
def WS (B : Nat) (w : World) (v : Value) (R : List Wd) : Prop := w.ownsRow B 9 1 v R.length (R.map Value.string)

theorem WS.nil (B : Nat) (w : World) : WS B w (.slice none 0 0) [] := ⟨rfl, Or.inl ⟨rfl, rfl⟩⟩

theorem WS.low {B : Nat} {w : World} {v : Value} {R : List Wd} (h : WS B w v R) : ∀ k, v.ownBlock = some k → B ≤ k := by
  intro k hk
  rcases h.2 with ⟨rfl, _⟩ | ⟨g, cap, cur, rfl, hb, _⟩
  · cases hk
  · cases hk; exact hb

theorem WS.lt {B : Nat} {w : World} {v : Value} {R : List Wd} (h : WS B w v R) : ∀ k, v.ownBlock = some k → k < w.heap.size := by
  intro k hk
  rcases h.2 with ⟨rfl, _⟩ | ⟨g, cap, cur, rfl, hb, hg, _⟩
  · cases hk
  · cases hk; exact (Array.getElem?_eq_some_iff.1 hg).1

theorem WS.keep {B : Nat} {w w' : World} {v : Value} {R : List Wd} (h : WS B w v R) (hb : Below w.heap.size w w') : WS B w' v R := by
  unfold WS at *
  refine ⟨h.1, ?_⟩
  rcases h.2 with ⟨rfl, h0⟩ | ⟨g, cap, cur, rfl, h1, h2, h3⟩
  · exact Or.inl ⟨rfl, h0⟩
  · exact Or.inr ⟨g, cap, cur, rfl, h1, by rw [hb.block g (Array.getElem?_eq_some_iff.1 h2).1]; exact h2, h3⟩

theorem Grow.low {B : Nat} {a b : World} {u v : Value} (h : Grow a u b v) (hu : ∀ k, u.ownBlock = some k → B ≤ k) (hB : B ≤ a.heap.size) : Below B a b :=
  ⟨h.os, h.tape, h.output, h.size, fun k hk => h.block k (Nat.lt_of_lt_of_le hk hB) fun e => by have := hu k e; omega⟩

theorem info9 : (Tryd.prog.info? 9).map (fun i => (i.zero, i.size, i.bytes)) = some (some (.string ⟨#[]⟩), 1, 16) := by kernel_rfl

theorem strs_one (L : List Wd) : ∀ u ∈ L.map Value.string, u.oneCell' = true := by
  intro u hu
  obtain ⟨x, _, rfl⟩ := List.mem_map.1 hu
  rfl

/-- Words more at the end of a row of the call's own. -/
theorem append_strs {ops : Array Oper} {rest : List Oper} {o : Oper} {a : Act} {Q : Exit → Act → World → Prop} (w : World) (hgd : o.guard = none) (s y : Operand)
    (ho : o.op = .call { callee := .builtin .append, args := #[s, y], argTypes := #[32, 32] }) (base : Nat) (v : Value) (R L : List Wd) (hs : a.eval s = v) (hown : WS base w v R)
    (t : TypeId) (B m : Nat) (hB : w.heap.size = B) (hm : L.length = m) (hy : a.eval y = .slice (some ⟨B, 0, none⟩) m m) (hR : R.length + L.length ≤ 1000000) (hbase : base ≤ w.heap.size)
    (h : ∀ v' w2, WS base w2 v' (R ++ L) → Grow w v w2 v' → wpList Tryd.prog ops Q rest (a.put o.dst v') w2) :
    wpList Tryd.prog ops Q (o :: rest) a (w.alloc (.cells (L.map Value.string).toArray t)) := by
  subst hB
  subst hm
  obtain ⟨i0, hi, hz0, hz1, hz2⟩ := info_parts info9
  have hk : Below w.heap.size w (w.alloc (.cells (L.map Value.string).toArray t)) := below_alloc _ _
  refine wpList_append_own_at _ hgd s y 32 ho base 9 i0 (.string ⟨#[]⟩) 1 16 Tryd.underlying32 hi hz0 hz1 hz2 rfl (by decide) v _ _ hs (hown.keep hk) ⟨w.heap.size, 0, none⟩ L.length L.length (L.map Value.string) hy (by simp) (fun j u hj => ?_) (strs_one L) (by unfold maxLen; omega) (by omega) (Nat.le_trans hbase hk.size) ?_
  · rw [WideShapes.add_plain, Nat.zero_add, World.cell?_alloc_new]
    simpa using hj
  · intro v' w2 h1 h2 _ h4
    refine h v' w2 ?_ ⟨h2.os, h2.tape, h2.output, Nat.le_trans hk.size h2.size, fun k hk1 hk2 => ?_, fun k hk1 hk2 => ?_⟩
    · unfold WS
      rw [List.length_append, List.map_append]
      exact h1
    · rw [h2.block k (Nat.lt_of_lt_of_le hk1 hk.size) (fun e => hk2 e.symm)]
      exact hk.block k hk1
    · rcases h4 with h4 | h4
      · rw [← h4]; exact hk2
      · have h5 : (w.alloc (.cells (L.map Value.string).toArray t)).heap.size = k := Option.some.inj (h4.symm.trans hk2)
        have h6 := hk.size
        omega

theorem append_str {ops : Array Oper} {rest : List Oper} {o : Oper} {a : Act} {Q : Exit → Act → World → Prop} (w : World) (hgd : o.guard = none) (s y : Operand)
    (ho : o.op = .call { callee := .builtin .append, args := #[s, y], argTypes := #[32, 32] }) (base : Nat) (v : Value) (R : List Wd) (x : Wd) (hs : a.eval s = v) (hown : WS base w v R)
    (t : TypeId) (B : Nat) (hB : w.heap.size = B) (hy : a.eval y = .slice (some ⟨B, 0, none⟩) 1 1) (hR : R.length + 1 ≤ 1000000) (hbase : base ≤ w.heap.size)
    (h : ∀ v' w2, WS base w2 v' (R ++ [x]) → Grow w v w2 v' → wpList Tryd.prog ops Q rest (a.put o.dst v') w2) :
    wpList Tryd.prog ops Q (o :: rest) a (w.alloc (.cells #[.string x] t)) :=
  append_strs w hgd s y ho base v R [x] hs hown t B 1 hB rfl hy hR hbase h

end Go.Proofs.YtomfkfhipemlcabDoor
