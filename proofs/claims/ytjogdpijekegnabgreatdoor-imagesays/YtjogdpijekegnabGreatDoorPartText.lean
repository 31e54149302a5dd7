/- Rows of strings of the call's own. slices.Grow and slices.Concat over rows of numbers; a line more: CodeText's closure, of the reckoning. CodeText of the reckoning: the text of a right program. -/
import Derived.Test.YtjogdpijekegnabGreatDoorShelf
import Derived.Test.YtjogdpijekegnabGreatDoorOwnRow
import Derived.Test.YtjogdpijekegnabGreatDoorImgEnv
import Derived.Test.YtjogdpijekegnabGreatDoorImgMem
import Derived.Test.YtjogdpijekegnabGreatDoorImgPrint
import Derived.Deep.RegionWith
namespace Go.Proofs.YtjogdpijekegnabGreatDoor
open Go.RowKit Go.Maps

/-! ### Rows of words of the call's own -/

/-- All that was there is as it was, but for the row v; and v' is that row, or a new one. -/
structure Grown (w : World) (v : Value) (w' : World) (v' : Value) : Prop where
  os : w'.os = w.os
  tape : w'.tape = w.tape
  output : w'.output = w.output
  size : w.heap.size ≤ w'.heap.size
  block : ∀ k, k < w.heap.size → ¬ v.ownBlock = some k → w'.heap[k]? = w.heap[k]?
  own : ∀ k, k < w.heap.size → v'.ownBlock = some k → v.ownBlock = some k

theorem Grown.refl (w : World) (v : Value) : Grown w v w v := ⟨rfl, rfl, rfl, Nat.le_refl _, fun _ _ _ => rfl, fun _ _ h => h⟩
theorem Grown.trans {a b c : World} {u v x : Value} (h : Grown a u b v) (k : Grown b v c x) : Grown a u c x :=
  ⟨k.os.trans h.os, k.tape.trans h.tape, k.output.trans h.output, Nat.le_trans h.size k.size,
    fun n hn hx => (k.block n (Nat.lt_of_lt_of_le hn h.size) fun e => hx (h.own n hn e)).trans (h.block n hn hx),
    fun n hn e => h.own n hn (k.own n (Nat.lt_of_lt_of_le hn h.size) e)⟩
theorem Grown.of {a b : World} (v : Value) (h : Below a.heap.size a b) : Grown a v b v := ⟨h.os, h.tape, h.output, h.size, fun n hn _ => h.block n hn, fun _ _ e => e⟩
theorem Grown.drew {a b : World} {u v : Value} (h : Grown a u b v) : Grown a u b.drew v := ⟨h.os, h.tape, h.output, h.size, h.block, h.own⟩

/-- A row of the words R, of blocks from B on. -/
def StrS (B : Nat) (w : World) (v : Value) (R : List ByteArray) : Prop := w.ownsRow B 9 1 v R.length (R.map Value.string)

theorem StrS.nil (B : Nat) (w : World) : StrS B w (.slice none 0 0) [] := ⟨rfl, Or.inl ⟨rfl, rfl⟩⟩

theorem StrS.low {B : Nat} {w : World} {v : Value} {R : List ByteArray} (h : StrS B w v R) : ∀ k, v.ownBlock = some k → B ≤ k := by
  intro k hk
  rcases h.2 with ⟨rfl, _⟩ | ⟨g, cap, cur, rfl, hb, _⟩
  · cases hk
  · cases hk; exact hb

theorem StrS.lt {B : Nat} {w : World} {v : Value} {R : List ByteArray} (h : StrS B w v R) : ∀ k, v.ownBlock = some k → k < w.heap.size := by
  intro k hk
  rcases h.2 with ⟨rfl, _⟩ | ⟨g, cap, cur, rfl, hb, hg, _⟩
  · cases hk
  · cases hk; exact (Array.getElem?_eq_some_iff.1 hg).1

theorem StrS.keep {B : Nat} {w w' : World} {v : Value} {R : List ByteArray} (h : StrS B w v R) (hb : Below w.heap.size w w') : StrS B w' v R := by
  unfold StrS at *
  refine ⟨h.1, ?_⟩
  rcases h.2 with ⟨rfl, h0⟩ | ⟨g, cap, cur, rfl, h1, h2, h3⟩
  · exact Or.inl ⟨rfl, h0⟩
  · exact Or.inr ⟨g, cap, cur, rfl, h1, by rw [hb.block g (Array.getElem?_eq_some_iff.1 h2).1]; exact h2, h3⟩

theorem Grown.low {B : Nat} {a b : World} {u v : Value} (h : Grown a u b v) (hu : ∀ k, u.ownBlock = some k → B ≤ k) (hB : B ≤ a.heap.size) : Below B a b :=
  ⟨h.os, h.tape, h.output, h.size, fun k hk => h.block k (Nat.lt_of_lt_of_le hk hB) fun e => by have := hu k e; omega⟩

theorem infoStr : (Tryz.prog.info? 9).map (fun i => (i.zero, i.size, i.bytes)) = some (some (.string ⟨#[]⟩), 1, 16) := by kernel_rfl

theorem strs_cell (L : List ByteArray) : ∀ u ∈ L.map Value.string, u.oneCell' = true := by
  intro u hu
  obtain ⟨x, _, rfl⟩ := List.mem_map.1 hu
  rfl

/-- Words more at the end of a row of the call's own. -/
theorem put_strs {ops : Array Oper} {rest : List Oper} {o : Oper} {a : Act} {Q : Exit → Act → World → Prop} (w : World) (hgd : o.guard = none) (s y : Operand)
    (ho : o.op = .call { callee := .builtin .append, args := #[s, y], argTypes := #[49, 49] }) (base : Nat) (v : Value) (R L : List ByteArray) (hs : a.eval s = v) (hown : StrS base w v R)
    (t : TypeId) (B m : Nat) (hB : w.heap.size = B) (hm : L.length = m) (hy : a.eval y = .slice (some ⟨B, 0, none⟩) m m) (hR : R.length + L.length ≤ 1000000) (hbase : base ≤ w.heap.size)
    (h : ∀ v' w2, StrS base w2 v' (R ++ L) → Grown w v w2 v' → wpList Tryz.prog ops Q rest (a.put o.dst v') w2) :
    wpList Tryz.prog ops Q (o :: rest) a (w.alloc (.cells (L.map Value.string).toArray t)) := by
  subst hB
  subst hm
  obtain ⟨i0, hi, hz0, hz1, hz2⟩ := info_parts infoStr
  have hk : Below w.heap.size w (w.alloc (.cells (L.map Value.string).toArray t)) := below_alloc _ _
  refine wpList_append_own_at _ hgd s y 49 ho base 9 i0 (.string ⟨#[]⟩) 1 16 Tryz.underlying49 hi hz0 hz1 hz2 rfl (by decide) v _ _ hs (hown.keep hk) ⟨w.heap.size, 0, none⟩ L.length L.length (L.map Value.string) hy (by simp) (fun j u hj => ?_) (strs_cell L) (by unfold maxLen; omega) (by omega) (Nat.le_trans hbase hk.size) ?_
  · rw [WideShapes.add_plain, Nat.zero_add, World.cell?_alloc_new]
    simpa using hj
  · intro v' w2 h1 h2 _ h4
    refine h v' w2 ?_ ⟨h2.os, h2.tape, h2.output, Nat.le_trans hk.size h2.size, fun k hk1 hk2 => ?_, fun k hk1 hk2 => ?_⟩
    · unfold StrS
      rw [List.length_append, List.map_append]
      exact h1
    · rw [h2.block k (Nat.lt_of_lt_of_le hk1 hk.size) (fun e => hk2 e.symm)]
      exact hk.block k hk1
    · rcases h4 with h4 | h4
      · rw [← h4]; exact hk2
      · have h5 : (w.alloc (.cells (L.map Value.string).toArray t)).heap.size = k := Option.some.inj (h4.symm.trans hk2)
        have h6 := hk.size
        omega

theorem put_str {ops : Array Oper} {rest : List Oper} {o : Oper} {a : Act} {Q : Exit → Act → World → Prop} (w : World) (hgd : o.guard = none) (s y : Operand)
    (ho : o.op = .call { callee := .builtin .append, args := #[s, y], argTypes := #[49, 49] }) (base : Nat) (v : Value) (R : List ByteArray) (x : ByteArray) (hs : a.eval s = v) (hown : StrS base w v R)
    (t : TypeId) (B : Nat) (hB : w.heap.size = B) (hy : a.eval y = .slice (some ⟨B, 0, none⟩) 1 1) (hR : R.length + 1 ≤ 1000000) (hbase : base ≤ w.heap.size)
    (h : ∀ v' w2, StrS base w2 v' (R ++ [x]) → Grown w v w2 v' → wpList Tryz.prog ops Q rest (a.put o.dst v') w2) :
    wpList Tryz.prog ops Q (o :: rest) a (w.alloc (.cells #[.string x] t)) :=
  put_strs w hgd s y ho base v R [x] hs hown t B 1 hB rfl hy hR hbase h

end Go.Proofs.YtjogdpijekegnabGreatDoor

namespace Go.Proofs.YtjogdpijekegnabGreatDoor
open Go.RowKit Go.Maps

theorem zerosI (w : World) (n : Nat) (hn : n ≤ 1000) :
    (w.drew.alloc (.cells (Builtin.zeroCells (Value.cells (.int .i64 0)) n ++ Builtin.zeroCells (Value.cells (.int .i64 0)) (grownCap w n 0 3 - n)) 3)).ownsRow w.heap.size 3 1
      (.slice (some ⟨w.heap.size, 0, none⟩) 0 (grownCap w n 0 3)) 0 [] := by
  have hge := grownCap_ge w n 0 3
  refine ⟨rfl, Or.inr ⟨w.heap.size, _, _, rfl, Nat.le_refl _, heap_alloc_new w.drew _, Nat.zero_le _, grownCap_le_maxLen w n 0 3 (by unfold maxLen; omega), ?_, by simp⟩⟩
  rw [Array.size_append, size_zeroCells, size_zeroCells]
  show n * 1 + _ * 1 = _ * 1
  omega

set_option maxHeartbeats 400000 in
theorem growI (n : Nat) (w : World) (hn : n ≤ 1000) :
    Calls Tryz.prog 95 #[.slice none 0 0, .int .i64 n] w fun e w' => ∃ v, e = .returned v ∧ IS w.heap.size w' v [] ∧ Below w.heap.size w w' := by
  by_cases h0 : n = 0
  · subst h0
    go_enter Tryz.func95, Tryz.ntmps95
    go_wp2_with fail
    go_ret
    exact ⟨_, rfl, World.ownsRow_nil _ _ _ _, Below.refl _ _⟩
  · obtain ⟨i0, hi, hz0, hz1, hz2⟩ := info_parts info3
    have hp : (0 : Int) < (n : Int) := by omega
    have HR : Hid (∀ (ty : TypeId) (w : World), (Builtin.append_ #[85, 3] ty #[.slice none 0 0, .int .i64 n]).run Tryz.prog w = _) := fun ty w => Lib.run_append_nil_zeros (P := Tryz.prog) w 85 3 ty 3 i0 _ .i64 .i64 Tryz.underlying85 Tryz.underlying3 hi hz0 n (by omega) (by omega) (by omega) (by rw [hz2]; omega)
    clear hi hz0 hz1 hz2
    go_enter Tryz.func95, Tryz.ntmps95
    go_wp2_with (at_builtin; refine Lib.wpList_append_run _ rfl _ _ _ _ rfl _ _ rfl rfl _ _ (HR.out _ _) ?_)
    go_ret
    exact ⟨_, rfl, zerosI w n hn, ((Below.refl _ _).drew).alloc (Nat.le_refl _) _⟩

/-- Numbers of memory behind a row of the call's own. -/
theorem append_ints {ops : Array Oper} {rest : List Oper} {o : Oper} {a : Act} {Q : Exit → Act → World → Prop} (w : World) (hgd : o.guard = none) (s y : Operand)
    (ho : o.op = .call { callee := .builtin .append, args := #[s, y], argTypes := #[85, 85] }) (base : Nat) (v : Value) (l : List Int) (hs : a.eval s = v) (hown : IS base w v l)
    (N : Nat) (x : Option Addr) (n c : Nat) (z : Nat → Int) (hy : a.eval y = .slice x n c) (hnv : NumsAt N w (.slice x n c) n z) (hl : l.length + n ≤ 100000) (hbase : base ≤ w.heap.size)
    (h : ∀ v' w2, IS base w2 v' (l ++ (List.range n).map z) → Below base w w2 → wpList Tryz.prog ops Q rest (a.put o.dst v') w2) :
    wpList Tryz.prog ops Q (o :: rest) a w := by
  obtain ⟨i0, hi, hz0, hz1, hz2⟩ := info_parts info3
  obtain ⟨a', cap', e, hn1, hc⟩ := hnv
  cases e
  cases x with
  | none =>
    have hn0 : n = 0 := by
      rcases hc with h | ⟨b, o, h, _⟩
      · exact h
      · cases h
    subst hn0
    refine Lib.wpList_append_run _ hgd s y 85 85 ho _ _ hs hy v w ?_ (h _ _ (by simpa using hown) (Below.refl _ _))
    rcases hown.2 with ⟨rfl, _⟩ | ⟨g, cap, cur, rfl, _, _, hnc, _⟩
    · simp [Builtin.append_, run_underlying Tryz.underlying85, sizeOf, typeInfo, hi, Builtin.lenOf, Builtin.firstCells]
    · simp [Builtin.append_, run_underlying Tryz.underlying85, sizeOf, typeInfo, hi, Builtin.lenOf, Builtin.firstCells, hnc, storeCells]
  | some ad =>
    have hcell : ∀ j u, ((List.range n).map fun k => Value.int .i64 (z k))[j]? = some u → w.cell? (ad.add j) = some u := by
      intro j u hj
      have hjn : j < n := by have := (List.getElem?_eq_some_iff.1 hj).1; simpa using this
      rcases hc with h | ⟨b, o, h, hb, hcc⟩
      · omega
      · cases h
        rw [WideShapes.add_plain, hcc j hjn]
        simpa [hjn] using hj
    refine wpList_append_own_at _ hgd s y 85 ho base 3 i0 (.int .i64 0) 1 8 Tryz.underlying85 hi hz0 hz1 hz2 rfl (by decide) v _ _ hs hown ad n c ((List.range n).map fun k => Value.int .i64 (z k)) hy (by simp) hcell (fun u hu => by obtain ⟨k, _, rfl⟩ := List.mem_map.1 hu; rfl) (by unfold maxLen; omega) (by omega) hbase ?_
    intro v' w2 h1 h2 _ _
    refine h v' w2 ?_ ((Below.refl _ _).grown h2 hbase (fun k hk => (hown.lt k hk).1))
    unfold IS
    have e2 : (l ++ (List.range n).map z).map (Value.int .i64) = l.map (Value.int .i64) ++ (List.range n).map fun k => Value.int .i64 (z k) := by simp [Function.comp_def]
    rw [e2, List.length_append, List.length_map, List.length_range]
    exact h1

/-- 'v' is a slice of n rows of numbers, below block N. -/
def RowsI (N : Nat) (w : World) (v : Value) (n : Nat) (m : Nat → Nat) (Z : Nat → Nat → Int) : Prop :=
  ∃ b o cap, v = .slice (some ⟨b, o, none⟩) n cap ∧ n ≤ 1000 ∧ b < N ∧ ∀ i, i < n → ∃ u, w.cell? ⟨b, o + i, none⟩ = some u ∧ NumsAt N w u (m i) (Z i)

def catI (m : Nat → Nat) (Z : Nat → Nat → Int) : Nat → List Int
  | 0 => []
  | j + 1 => catI m Z j ++ (List.range (m j)).map (Z j)

theorem catI_len (m : Nat → Nat) (Z : Nat → Nat → Int) (j : Nat) : (catI m Z (j + 1)).length = (catI m Z j).length + m j := by simp [catI]
theorem catI_le (m : Nat → Nat) (Z : Nat → Nat → Int) (j : Nat) : ∀ d, (catI m Z j).length ≤ (catI m Z (j + d)).length
  | 0 => Nat.le_refl _
  | d + 1 => by
    have h1 := catI_le m Z j d
    have h2 := catI_len m Z (j + d)
    have h3 : (catI m Z (j + (d + 1))).length = (catI m Z (j + d + 1)).length := rfl
    omega

set_option maxHeartbeats 1000000 in
theorem concatI (N : Nat) (v : Value) (n : Nat) (m : Nat → Nat) (Z : Nat → Nat → Int) (w : World) (hN : N ≤ w.heap.size) (h : RowsI N w v n m Z) (hsum : (catI m Z n).length ≤ 1000) :
    Calls Tryz.prog 61 #[v] w fun e w' => ∃ v', e = .returned v' ∧ Hid (IS w.heap.size w' v' (catI m Z n)) ∧ Hid (Below w.heap.size w w') := by
  obtain ⟨p, o, cap, rfl, hn, hp, gc⟩ := h
  have HL : Hid (∀ j, j ≤ n → (catI m Z j).length ≤ 1000) := fun j hj => by
    have := catI_le m Z j (n - j)
    rw [show j + (n - j) = n by omega] at this
    omega
  have HG : Hid (∀ i, i < n → ∃ u, w.cell? ⟨p, o + i, none⟩ = some u ∧ NumsAt N w u (m i) (Z i)) := gc
  have hpw : p < w.heap.size := by omega
  clear gc
  go_enter Tryz.func61, Tryz.ntmps61
  go_wp2_with fail
  go_loop [3, 11] (fun sz i => ∃ j : Nat, j ≤ n ∧ i = .int .i64 j ∧ sz = .int .i64 (catI m Z j).length) (fun _ i => n - (intOf i).toNat)
  case atStart => exact ⟨0, Nat.zero_le _, rfl, rfl⟩
  case round =>
    obtain ⟨j, hj, rfl, rfl⟩ := hrel
    by_cases hlt : j < n
    · obtain ⟨x, hx, hvx⟩ := HG.out j hlt
      obtain ⟨xa, xcap, rfl, hxn, _⟩ := hvx
      have HNx : Hid ((catI m Z (j + 1)).length = (catI m Z j).length + m j) := catI_len m Z j
      have h1 : (catI m Z j).length + m j ≤ 1000 := by have := HL.out (j + 1) hlt; rw [HNx.out] at this; exact this
      generalize (catI m Z j).length = q at *
      have hneg : ¬ ((q : Int) + (m j : Int) < 0) := by omega
      go_wp2_with fail
      go_round
      case rel => exact ⟨j + 1, by omega, by go_num, by rw [HNx.out]; go_num⟩
      case measure => simp [intOf]; omega
    · have ej : j = n := by omega
      subst ej
      go_wp2_with fail
      refine (growI _ _ hsum).mono ?_
      rintro e w1 ⟨v1, rfl, hrow0, hb1⟩
      have HR0 : Hid (IS w.heap.size w1 v1 []) := hrow0
      clear hrow0
      go_wp2_with fail
      go_loopw [6, 27] (fun av i wr => ∃ j' : Nat, j' ≤ j ∧ i = .int .i64 j' ∧ Hid (IS w.heap.size wr av (catI m Z j')) ∧ Hid (Below w.heap.size w wr)) (fun _ i _ => j - (intOf i).toNat)
      case atStart => exact ⟨0, Nat.zero_le _, rfl, HR0, hb1⟩
      case round =>
        clear hb1 HR0
        obtain ⟨t, ht, rfl, HRow, HB⟩ := hrel
        have hsz := HB.out.size
        by_cases hlt2 : t < j
        · obtain ⟨x, hx, hvx⟩ := HG.out t hlt2
          rw [← HB.out.cell (p := ⟨p, o + t, none⟩) hpw] at hx
          have HV : Hid (NumsAt N wr x (m t) (Z t)) := hvx.below (HB.out.mono hN)
          obtain ⟨xa, xcap, rfl, hxn⟩ := hvx.shape
          have h1 : (catI m Z t).length + m t ≤ 100000 := by have := HL.out (t + 1) hlt2; rw [catI_len] at this; omega
          clear hvx
          go_wp2_with (at_builtin; refine append_ints wr rfl _ _ rfl w.heap.size u6 _ rfl HRow.out N _ _ _ _ rfl HV.out h1 hsz ?_; intro v3 w3 hI3 hB3)
          go_roundw
          case rel => exact ⟨t + 1, by omega, by go_num, hI3, HB.out.trans hB3⟩
          case measure => simp [intOf]; omega
        · have et : t = j := by omega
          subst et
          go_wp2_with fail
          go_ret
          exact ⟨_, rfl, HRow, HB⟩

theorem add_both (a b : List UInt8) (h : a.length + b.length ≤ 11000000) (w : World) : (Op.stringOp .add (bs a) (bs b)).run Tryz.prog w = .ok (.string (bs (a ++ b))) w := by
  have e : bs a ++ bs b = bs (a ++ b) := by apply ByteArray.ext; simp [bs]
  have h1 : ∀ x : List UInt8, (bs x).size = x.length := fun x => by simp [bs, ByteArray.size]
  rw [run_string_add_sum w _ _ (by rw [h1, h1]; omega), e]

set_option maxRecDepth 20000 in
set_option maxHeartbeats 4000000 in
/-- A line more. -/
theorem putC (N M S : Nat) (l : List UInt8) (nv : Value) (n : Nat) (z : Nat → Int) (w : World) (hNS : N ≤ S) (hM : M ≤ w.heap.size) (he : NEnv N w) (hS : SB S w (bs l)) (hn : NumsAt M w nv n z) (hz : ∀ k, k < n → i64 (z k)) (hn1 : 1 ≤ n) (hn2 : n ≤ 1000) (hl : l.length ≤ 10000000) :
    Calls Tryz.prog 60 #[nv, .pointer (some ⟨S, 0, none⟩)] w fun e w' => (∃ v, e = .returned v) ∧ Hid (SB S w' (bs (l ++ lnT ((List.range n).map z)))) ∧ Hid (But S w w') := by
  have HE : Hid (NEnv N w) := he
  have HS : Hid (SB S w (bs l)) := hS
  have hSl := hS.lt
  have HZ : Hid (∀ k, k < n → i64 (z k)) := hz
  obtain ⟨an, cn, rfl, hnb, hc⟩ := hn
  obtain ⟨nb, no, rfl, hnbM, hc⟩ : ∃ b o, an = some ⟨b, o, none⟩ ∧ b < M ∧ ∀ i, i < n → w.cell? ⟨b, o + i, none⟩ = some (.int .i64 (z i)) := by
    rcases hc with h | h
    · omega
    · exact h
  have HC : Hid (∀ i, i < n → w.cell? ⟨nb, no + i, none⟩ = some (.int .i64 (z i))) := hc
  have hnw : nb < w.heap.size := by omega
  clear he hS hz hc
  go_enter Tryz.func60, Tryz.ntmps60
  go_upto_region 2 with (fail)
  go_loopw [3, 8] (fun q i wr => ∃ k : Nat, k ≤ n ∧ i = .int .i64 k ∧ Hid (StrS w.heap.size wr q ((List.range k).map fun j => bs (Lib.itoa (z j)))) ∧ Hid (Below w.heap.size w wr)) (fun _ i _ => n - (intOf i).toNat)
  case atStart => exact ⟨0, by omega, rfl, StrS.nil _ _, Below.refl _ _⟩
  case round =>
    obtain ⟨k, hk0, rfl, HW, HB⟩ := hrel
    have hsz := HB.out.size
    by_cases hk : k < n
    · have hki : (k : Int) < (n : Int) := by omega
      have q0 : wr.cell? ⟨nb, no + k, none⟩ = some (.int .i64 (z k)) := by rw [HB.out.cell (p := ⟨nb, no + k, none⟩) hnw]; exact HC.out k hk
      have HIt : Hid (Calls Tryz.prog 25 #[.int .i64 (z k)] wr fun e w' => e = .returned (.string (bs (Lib.itoa (z k)))) ∧ Below wr.heap.size wr w') := nitoa N (z k) (HZ.out k hk) wr (HE.out.below (HB.out.mono (by omega)))
      have HNx : Hid ((List.range (k + 1)).map (fun j => bs (Lib.itoa (z j))) = (List.range k).map (fun j => bs (Lib.itoa (z j))) ++ [bs (Lib.itoa (z k))]) := by
        show _ = _
        rw [List.range_succ, List.map_append]; rfl
      have HLn : Hid (((List.range k).map fun j => bs (Lib.itoa (z j))).length + 1 ≤ 1000000) := (by show _ ≤ _; simp; omega)
      go_wp2_with (first
        | (go_at_call 25; refine HIt.out.mono ?_; rintro e w2 ⟨rfl, b2⟩; have HW2 : Hid (StrS w.heap.size w2 u3 ((List.range k).map fun j => bs (Lib.itoa (z j)))) := HW.out.keep b2; have hw2 : w.heap.size ≤ w2.heap.size := Nat.le_trans hsz b2.size; have HBl2 : Hid (Below w.heap.size w w2) := HB.out.trans (b2.mono hsz))
        | (at_builtin; refine put_str w2 rfl _ _ rfl w.heap.size u3 _ _ rfl HW2.out _ _ rfl rfl HLn.out hw2 ?_; intro v3 w3 hW3 hG3; have HG3 : Hid (Below w.heap.size w2 w3) := hG3.low (HW2.out.low) hw2; clear hG3))
      go_roundw
      case rel => exact ⟨k + 1, by omega, by go_num, (by show StrS _ _ _ _; rw [HNx.out]; exact hW3), HBl2.out.trans HG3.out⟩
      case measure => simp [intOf]; omega
    · obtain rfl : k = n := by omega
      have HSr : Hid (∀ wi, Below wr.heap.size wr wi → SB S wi (bs l)) := fun wi hb => HS.out.keep (HB.out.trans (hb.mono hsz))
      have q0 := (HSr.out wr (Below.refl _ _)).cell
      have hSr : S < wr.heap.size := by omega
      have HJ : Hid (∀ wi, Below wr.heap.size wr wi → Calls Tryz.prog 27 #[u3, .string ⟨#[32]⟩] wi fun e w' => e = .returned (.string (bs (lineL ((List.range k).map z)))) ∧ Below wi.heap.size wi w') := fun wi hb => by
        have hws := HW.out.keep hb
        rcases hws.2 with ⟨_, h0⟩ | ⟨g, cap, cur, hv, hgB, hg, hcap, _, _, ht⟩
        · rw [List.length_map, List.length_range] at h0; omega
        · rw [hv]
          have hcells : ∀ (j : Nat) x, ((List.range k).map fun j => bs (Lib.itoa (z j)))[j]? = some x → wi.cell? ⟨g, 0 + j, none⟩ = some (.string x) := fun j x hx => by
            have hjl : j < ((List.range k).map fun j => bs (Lib.itoa (z j))).length := (List.getElem?_eq_some_iff.1 hx).1
            unfold World.cell?
            rw [hg, Nat.zero_add]
            have : cur.toList[j]? = some (.string x) := by
              have h2 := congrArg (fun l : List Value => l[j]?) ht
              simp only [List.getElem?_map, hx, Option.map_some] at h2
              rw [List.getElem?_take, if_pos (by omega)] at h2
              exact h2
            simpa using this
          have hjn : Lib.join (((List.range k).map fun j => bs (Lib.itoa (z j))).map (·.data.toList)) (⟨#[32]⟩ : ByteArray).data.toList = lineL ((List.range k).map z) := by
            unfold lineL
            simp [List.map_map, Function.comp_def, bs]
          have hlen : (lineL ((List.range k).map z)).length ≤ 22 * k := by
            have := lnTo_len (zs := (List.range k).map z) (fun y hy => by obtain ⟨j, hj, rfl⟩ := List.mem_map.1 hy; exact HZ.out j (List.mem_range.1 hj)) _ (Nat.le_refl _)
            rw [lnTo_all, List.length_map, List.length_range] at this
            exact this
          refine (Tryz.strings_Join g 0 cap ((List.range k).map fun j => bs (Lib.itoa (z j))) ⟨#[32]⟩ wi hcells (Array.getElem?_eq_some_iff.1 hg).1 (by simp; omega) hcap (by rw [hjn]; omega)).mono ?_
          rintro e w' ⟨rfl, hb⟩
          rw [hjn]
          exact ⟨rfl, hb⟩
      have hlenJ : (lineL ((List.range k).map z)).length ≤ 22 * k := by
        have := lnTo_len (zs := (List.range k).map z) (fun y hy => by obtain ⟨j, hj, rfl⟩ := List.mem_map.1 hy; exact HZ.out j (List.mem_range.1 hj)) _ (Nat.le_refl _)
        rw [lnTo_all, List.length_map, List.length_range] at this
        exact this
      have HFin : Hid (∀ wi, Below wr.heap.size wr wi → SB S (wi.setCell ⟨S, 0, none⟩ (.string (bs (l ++ (lineL ((List.range k).map z) ++ [10]))))) (bs (l ++ lnT ((List.range k).map z))) ∧ But S w (wi.setCell ⟨S, 0, none⟩ (.string (bs (l ++ (lineL ((List.range k).map z) ++ [10])))))) := fun wi hb => by
        exact ⟨(HSr.out wi hb).set _, (But.of (HB.out.trans (hb.mono hsz))).trans (But.set S wi 0 _)⟩
      have HQC : Hid (∀ wi, Below wr.heap.size wr wi → wi.cell? ⟨S, 0, none⟩ = some (.string (bs l)) ∧ wi.frozen? ⟨S, 0, none⟩ = false) := fun wi hb => ⟨(HSr.out wi hb).cell, (HSr.out wi hb).thaw⟩
      generalize lineL ((List.range k).map z) = J at *
      have a1 : ∀ w, (Op.stringOp .add (bs J) ⟨#[10]⟩).run Tryz.prog w = .ok (.string (bs (J ++ [10]))) w := add_both J [10] (by simp only [List.length_cons, List.length_nil]; omega)
      have a2 : ∀ w, (Op.stringOp .add (bs l) (bs (J ++ [10]))).run Tryz.prog w = .ok (.string (bs (l ++ (J ++ [10])))) w := add_both l (J ++ [10]) (by simp only [List.length_append, List.length_cons, List.length_nil]; omega)
      go_wp2_with fail
      go_region_with (first
        | (go_at_call 27; refine (HJ.out _ ((Below.refl _ _).drew)).mono ?_; rintro e w9 ⟨rfl, b9'⟩; have b9 : Below wr.heap.size wr w9 := below_step ((Below.refl _ _).drew) b9'; obtain ⟨q1, q2⟩ := HQC.out w9 b9))
      all_goals (try go_wp2_with fail)
      all_goals
        go_end0
        exact ⟨⟨_, rfl⟩, (HFin.out _ b9).1, (HFin.out _ b9).2⟩

end Go.Proofs.YtjogdpijekegnabGreatDoor

namespace Go.Proofs.YtjogdpijekegnabGreatDoor
open Go.RowKit Go.Maps

theorem IS.nums {B : Nat} {w : World} {v : Value} {l : List Int} (h : IS B w v l) (hl : l.length ≤ 1000000) : NumsAt w.heap.size w v l.length (fun k => l.getD k 0) := by
  obtain ⟨a, cap, rfl, h | ⟨g, rfl, _, hg, hc⟩⟩ := h.at
  · subst h; exact ⟨a, cap, rfl, by simp, Or.inl rfl⟩
  · refine ⟨_, cap, rfl, by omega, Or.inr ⟨g, 0, rfl, hg, fun i hi => ?_⟩⟩
    rw [Nat.zero_add]
    exact hc i _ (by simp [hi])

theorem NumsAt.up {N M : Nat} {w : World} {v : Value} {n : Nat} {z : Nat → Int} (h : NumsAt N w v n z) (hm : N ≤ M) : NumsAt M w v n z := by
  obtain ⟨a, cap, rfl, hn, h | ⟨b, o, rfl, hb, hc⟩⟩ := h
  · exact ⟨a, cap, rfl, hn, Or.inl h⟩
  · exact ⟨_, cap, rfl, hn, Or.inr ⟨b, o, rfl, by omega, hc⟩⟩

theorem range_getD (l : List Int) : (List.range l.length).map (fun k => l.getD k 0) = l := by
  apply List.ext_getElem?
  intro i
  by_cases h : i < l.length
  · simp [h]
  · simp [h]

theorem concat4 (W : World) (x1 x2 x3 x4 : Int) (M : Nat) (hM : M ≤ W.heap.size) (va : Value) (n : Nat) (z : Nat → Int) (hva : NumsAt M W va n z) (hn : n ≤ 900) (B C : Nat) (hB : W.heap.size = B) (hC : B + 1 = C) :
    Calls Tryz.prog 61 #[.slice (some ⟨C, 0, none⟩) 2 2] ((W.alloc (.cells #[.int .i64 x1, .int .i64 x2, .int .i64 x3, .int .i64 x4] 3)).alloc (.cells #[.slice (some ⟨B, 0, none⟩) 4 4, va] 85)) fun e w' => ∃ v', e = .returned v' ∧ Hid (IS 0 w' v' (x1 :: x2 :: x3 :: x4 :: (List.range n).map z)) ∧ Hid (Below W.heap.size W w') := by
  subst hB
  subst hC
  have hk1 : Below W.heap.size W (W.alloc (.cells #[.int .i64 x1, .int .i64 x2, .int .i64 x3, .int .i64 x4] 3)) := below_alloc _ _
  have his := (is_made W [x1, x2, x3, x4] 4 rfl (by omega)).nums (by simp)
  have hs1 : (W.alloc (.cells #[.int .i64 x1, .int .i64 x2, .int .i64 x3, .int .i64 x4] 3)).heap.size = W.heap.size + 1 := by simp
  have hva1 : NumsAt W.heap.size (W.alloc (.cells #[.int .i64 x1, .int .i64 x2, .int .i64 x3, .int .i64 x4] 3)) va n z := (hva.below (hk1.mono hM)).up hM
  change NumsAt (W.alloc (.cells #[.int .i64 x1, .int .i64 x2, .int .i64 x3, .int .i64 x4] 3)).heap.size (W.alloc (.cells #[.int .i64 x1, .int .i64 x2, .int .i64 x3, .int .i64 x4] 3)) (.slice (some ⟨W.heap.size, 0, none⟩) 4 4) 4 (fun k => [x1, x2, x3, x4].getD k 0) at his
  generalize W.alloc (.cells #[.int .i64 x1, .int .i64 x2, .int .i64 x3, .int .i64 x4] 3) = W1 at *
  have hk2 : Below W1.heap.size W1 (W1.alloc (.cells #[.slice (some ⟨W.heap.size, 0, none⟩) 4 4, va] 85)) := below_alloc _ _
  have hs2 : (W1.alloc (.cells #[.slice (some ⟨W.heap.size, 0, none⟩) 4 4, va] 85)).heap.size = W.heap.size + 2 := by simp [hs1]
  have ecat : catI (fun i => if i = 0 then 4 else n) (fun i => if i = 0 then (fun k => [x1, x2, x3, x4].getD k 0) else z) 2 = x1 :: x2 :: x3 :: x4 :: (List.range n).map z := by
    simp [catI, List.range_succ]
  have hrows : RowsI (W.heap.size + 2) (W1.alloc (.cells #[.slice (some ⟨W.heap.size, 0, none⟩) 4 4, va] 85)) (.slice (some ⟨W.heap.size + 1, 0, none⟩) 2 2) 2 (fun i => if i = 0 then 4 else n) (fun i => if i = 0 then (fun k => [x1, x2, x3, x4].getD k 0) else z) := by
    refine ⟨_, _, _, rfl, by omega, by omega, fun i hi => ?_⟩
    rcases i with _ | _ | i
    · refine ⟨.slice (some ⟨W.heap.size, 0, none⟩) 4 4, ?_, ?_⟩
      · rw [← hs1, World.cell?_alloc_new]; rfl
      · exact (his.below hk2).up (by omega)
    · refine ⟨va, ?_, ?_⟩
      · rw [← hs1, World.cell?_alloc_new]; rfl
      · exact (hva1.below (hk2.mono (by omega))).up (by omega)
    · omega
  refine (concatI (W.heap.size + 2) _ 2 _ _ _ (by omega) hrows (by rw [ecat]; simp only [List.length_cons, List.length_map, List.length_range]; omega)).mono ?_
  rintro e w' ⟨v', rfl, hI, hB⟩
  refine ⟨v', rfl, ?_, below_step hk1 ((hk2.mono (by omega)).trans (hB.out.mono (by omega)))⟩
  have := hI.out
  rw [ecat] at this
  obtain ⟨h1, h2⟩ := this
  refine ⟨h1, ?_⟩
  rcases h2 with h2 | ⟨g, cap, cur, e, _, h3⟩
  · exact Or.inl h2
  · exact Or.inr ⟨g, cap, cur, e, Nat.zero_le _, h3⟩

set_option maxRecDepth 20000 in
set_option maxHeartbeats 4000000 in
/-- CodeText of the reckoning. -/
theorem codeText (N : Nat) (vp : Value) (np : Nat) (P : Nat → Pc) (w : World) (hN : N ≤ w.heap.size) (he : NEnv N w) (hp : ProcsAt N w vp np P) (hc : codeErr np P = 0) :
    Calls Tryz.prog 21 #[vp] w fun e w' => e = .returned (.string (bs (progT P np))) ∧ Below w.heap.size w w' := by
  have HP : Hid (ProcsAt N w vp np P) := hp
  have HE : Hid (NEnv N w) := he
  obtain ⟨ap, cp, rfl, hnp, hp⟩ := hp
  obtain ⟨n1, n4, hpc, _⟩ := code_zero hc
  have HC : Hid (codeErr np P = 0) := hc
  obtain ⟨pb, po, rfl, hpb, hp⟩ : ∃ b o, ap = some ⟨b, o, none⟩ ∧ b < N ∧ ∀ i, i < np → ∃ vc, w.cell? ⟨b, o + i * 3, none⟩ = some (.int .i64 (P i).params) ∧ w.cell? ⟨b, o + i * 3 + 1, none⟩ = some (.int .i64 (P i).regs) ∧ w.cell? ⟨b, o + i * 3 + 2, none⟩ = some vc ∧ CodeAt N w vc (P i).n (P i).ins := by
    rcases hp with h | h
    · omega
    · exact h
  have HPC : Hid (∀ wi, Below w.heap.size w wi → ∀ i, i < np → ∃ vc, wi.cell? ⟨pb, po + i * 3, none⟩ = some (.int .i64 (P i).params) ∧ wi.cell? ⟨pb, po + i * 3 + 1, none⟩ = some (.int .i64 (P i).regs) ∧ wi.cell? ⟨pb, po + i * 3 + 2, none⟩ = some vc ∧ Hid (CodeAt N w vc (P i).n (P i).ins)) := fun wi hb i hi => by
    obtain ⟨vc, c0, c1, c2, hv⟩ := hp i hi
    have hlt : pb < w.heap.size := by omega
    exact ⟨vc, by rw [hb.cell hlt]; exact c0, by rw [hb.cell hlt]; exact c1, by rw [hb.cell hlt]; exact c2, hv⟩
  have HNs : Hid (∀ j, j < np → 1 ≤ (P j).n ∧ (P j).n ≤ 2000) := fun j hj => (pcErr_fits (hpc j hj)).2
  have HPut : Hid (∀ (W : World) (l : List UInt8) (nv : Value) (zs : List Int), Below w.heap.size w W → SB w.heap.size W (bs l) → IS 0 W nv zs → (∀ z ∈ zs, i64 z) → 1 ≤ zs.length → zs.length ≤ 1000 → l.length ≤ 10000000 → Calls Tryz.prog 60 #[nv, .pointer (some ⟨w.heap.size, 0, none⟩)] W fun e w' => (∃ v, e = .returned v) ∧ Hid (SB w.heap.size w' (bs (l ++ lnT zs))) ∧ Hid (But w.heap.size W w')) := fun W l nv zs hb hS hI hz h1 h2 hl => by
    have := putC N W.heap.size w.heap.size l nv zs.length (fun k => zs.getD k 0) W hN (Nat.le_refl _) (HE.out.below (hb.mono hN)) hS (hI.nums (by omega)) (fun k hk => hz _ (by simp [hk])) h1 h2 hl
    rw [range_getD] at this
    exact this
  clear hp hc he hpc
  go_enter Tryz.func21, Tryz.ntmps21
  go_upto_region 4 with (fail)
  go_loopw [12] (fun i wr => ∃ k : Nat, k ≤ np ∧ i = .int .i64 k ∧ Hid (SB w.heap.size wr (bs (progT P k))) ∧ Hid (Below w.heap.size w wr)) (fun i _ => np - (intOf i).toNat)
  case atStart => exact ⟨0, by omega, rfl, (by show SB _ _ _; exact heap_alloc_new w _), below_alloc _ _⟩
  case round =>
    obtain ⟨k, hk0, rfl, HW, HB⟩ := hrel
    have hsz := HB.out.size
    have hpw : pb < wr.heap.size := by omega
    by_cases hk : k < np
    · obtain ⟨vc, c0, c1, c2, HV⟩ := HPC.out wr HB.out k hk
      obtain ⟨av, cv, rfl, hcn⟩ := HV.out.shape
      have hki : (k : Int) < (np : Int) := by omega
      obtain ⟨hn1, hn2⟩ := HNs.out k hk
      have HLine : Hid (∀ (W : World) (X : Nat), W.heap.size = X → Below wr.heap.size wr W → Calls Tryz.prog 60 #[.slice (some ⟨X, 0, none⟩) 3 3, .pointer (some ⟨w.heap.size, 0, none⟩)] (W.alloc (.cells #[.int .i64 (P k).params, .int .i64 (P k).regs, .int .i64 (P k).n] 3)) fun e w' => (∃ v, e = .returned v) ∧ Hid (SB w.heap.size w' (bs (progT P k ++ lnT (headZs (P k))))) ∧ Hid (But w.heap.size (W.alloc (.cells #[.int .i64 (P k).params, .int .i64 (P k).regs, .int .i64 (P k).n] 3)) w')) := fun W X hX hbW => by
        subst hX
        have hbA := below_step hbW (below_alloc W (.cells #[.int .i64 (P k).params, .int .i64 (P k).regs, .int .i64 (P k).n] 3))
        exact HPut.out _ _ _ _ (HB.out.trans (hbA.mono hsz)) (HW.out.keep hbA) (is_made W (headZs (P k)) 3 rfl (by omega)) (head_i64 HC.out hk) (by show 1 ≤ 3; omega) (by show 3 ≤ 1000; omega) (by have := prog_len HC.out (j := k) (by omega); omega)
      have HBX : Hid (∀ w1, But w.heap.size ((wr.alloc (.cells #[.int .i64 (P k).params, .int .i64 (P k).regs, .slice av (P k).n cv] 40)).alloc (.cells #[.int .i64 (P k).params, .int .i64 (P k).regs, .int .i64 (P k).n] 3)) w1 → w1.cell? ⟨wr.heap.size, 2, none⟩ = some (.slice av (P k).n cv)) := fun w1 hkb => by
        have hblk : ((wr.alloc (.cells #[.int .i64 (P k).params, .int .i64 (P k).regs, .slice av (P k).n cv] 40)).alloc (.cells #[.int .i64 (P k).params, .int .i64 (P k).regs, .int .i64 (P k).n] 3)).heap[wr.heap.size]? = some (.cells #[.int .i64 (P k).params, .int .i64 (P k).regs, .slice av (P k).n cv] 40) := by
          rw [(below_alloc (wr.alloc (.cells #[.int .i64 (P k).params, .int .i64 (P k).regs, .slice av (P k).n cv] 40)) _).block wr.heap.size (by simp)]
          exact heap_alloc_new wr _
        have hlt := HW.out.lt
        have := hkb.block wr.heap.size (by simp; omega) (by omega)
        unfold World.cell?
        rw [this, hblk]; rfl
      have HBW : Hid (∀ w1, But w.heap.size ((wr.alloc (.cells #[.int .i64 (P k).params, .int .i64 (P k).regs, .slice av (P k).n cv] 40)).alloc (.cells #[.int .i64 (P k).params, .int .i64 (P k).regs, .int .i64 (P k).n] 3)) w1 → Below w.heap.size w w1) := fun w1 hkb =>
        (HB.out.trans ((below_step (below_alloc wr _) (below_alloc _ _)).mono hsz)).trans (hkb.low (Nat.le_refl _) (Nat.le_trans hsz (below_step (below_alloc wr _) (below_alloc _ _)).size))
      go_upto_region 8 with (first
        | (go_at_call 60; refine (HLine.out _ _ (by simp) (below_alloc _ _)).mono ?_; rintro e w2 ⟨⟨v2, rfl⟩, HW2, HK2⟩; have x2 := HBX.out _ HK2.out))
      have HB2 : Hid (Below w.heap.size w w2) := HBW.out _ HK2.out
      have HT0 : Hid (progT P k ++ lnT (headZs (P k)) = progT P k ++ (lnT (headZs (P k)) ++ codeT (P k).ins 0)) := by show _ = _; unfold codeT; rw [catB, List.append_nil]
      clear HLine HBX HBW HK2 x2
      go_loopw [29] (fun i wr => ∃ j : Nat, j ≤ (P k).n ∧ i = .int .i64 j ∧ Hid (SB w.heap.size wr (bs (progT P k ++ (lnT (headZs (P k)) ++ codeT (P k).ins j)))) ∧ Hid (Below w.heap.size w wr)) (fun i _ => (P k).n - (intOf i).toNat)
      case atStart => exact ⟨0, by omega, rfl, (by show SB _ _ _; rw [← HT0.out]; exact HW2.out), HB2⟩
      case round =>
        clear c0 c1 c2 hsz hpw HW HT0 HW2
        obtain ⟨j, hj0, rfl, HW, HB3⟩ := hrel
        have hsz := HB3.out.size
        by_cases hj : j < (P k).n
        · obtain ⟨cb, co, e1, hcb, hcc⟩ : ∃ b o, av = some ⟨b, o, none⟩ ∧ b < N ∧ ∀ i, i < (P k).n → ∃ va, wr.cell? ⟨b, o + i * 5, none⟩ = some (.int .i64 ((P k).ins i).op) ∧ wr.cell? ⟨b, o + i * 5 + 1, none⟩ = some (.int .i64 ((P k).ins i).a) ∧ wr.cell? ⟨b, o + i * 5 + 2, none⟩ = some (.int .i64 ((P k).ins i).b) ∧
              wr.cell? ⟨b, o + i * 5 + 3, none⟩ = some (.int .i64 ((P k).ins i).c) ∧ wr.cell? ⟨b, o + i * 5 + 4, none⟩ = some va ∧ NumsAt N wr va ((P k).ins i).n ((P k).ins i).z := by
            obtain ⟨a', c', e, _, h | h⟩ := HV.out.below (HB3.out.mono hN)
            · omega
            · cases e; exact h
          subst e1
          obtain ⟨va, y0, y1, y2, y3, y4, hva⟩ := hcc j hj
          have HVA : Hid (NumsAt N wr va ((P k).ins j).n ((P k).ins j).z) := hva
          obtain ⟨xa, ca, rfl, _⟩ := hva.shape
          have hcw : cb < wr.heap.size := by omega
          have hji : (j : Int) < ((P k).n : Int) := by omega
          have hal : ((P k).ins j).n ≤ 900 := by have := (code_ins HC.out hk hj).2.1; omega
          have HCat : Hid (∀ (W : World) (B C : Nat), W.heap.size = B → B + 1 = C → Below wr.heap.size wr W → Calls Tryz.prog 61 #[.slice (some ⟨C, 0, none⟩) 2 2] ((W.alloc (.cells #[.int .i64 ((P k).ins j).op, .int .i64 ((P k).ins j).a, .int .i64 ((P k).ins j).b, .int .i64 ((P k).ins j).c] 3)).alloc (.cells #[.slice (some ⟨B, 0, none⟩) 4 4, .slice xa ((P k).ins j).n ca] 85)) fun e w' => ∃ v', e = .returned v' ∧ Hid (IS 0 w' v' (insZs ((P k).ins j))) ∧ Hid (Below wr.heap.size wr w')) := fun W B C hB hC hbW => by
            have hbn : Below N wr W := hbW.mono (Nat.le_trans hN hsz)
            refine (concat4 W _ _ _ _ N (Nat.le_trans (Nat.le_trans hN hsz) hbW.size) _ _ _ (HVA.out.below hbn) hal B C hB hC).mono ?_
            rintro e w' ⟨v', rfl, hI, hb⟩
            exact ⟨v', rfl, hI, below_step hbW hb.out⟩
          have HLine : Hid (∀ (W : World) (nv : Value), Below wr.heap.size wr W → IS 0 W nv (insZs ((P k).ins j)) → Calls Tryz.prog 60 #[nv, .pointer (some ⟨w.heap.size, 0, none⟩)] W fun e w' => (∃ v, e = .returned v) ∧ Hid (SB w.heap.size w' (bs ((progT P k ++ (lnT (headZs (P k)) ++ codeT (P k).ins j)) ++ lnT (insZs ((P k).ins j))))) ∧ Hid (But w.heap.size W w')) := fun W nv hbW hnv => by
            refine HPut.out _ _ _ _ (HB3.out.trans (hbW.mono hsz)) (HW.out.keep hbW) hnv (code_i64 HC.out hk hj) (by rw [insZs_len]; omega) (by rw [insZs_len]; have := (code_ins HC.out hk hj).2.1; omega) ?_
            have e1 := prog_len HC.out (j := k) (by omega)
            have e2 := proc_len HC.out hk (m := j) (by omega)
            rw [List.length_append]; omega
          have HT1 : Hid ((progT P k ++ (lnT (headZs (P k)) ++ codeT (P k).ins j)) ++ lnT (insZs ((P k).ins j)) = progT P k ++ (lnT (headZs (P k)) ++ codeT (P k).ins (j + 1))) := by
            show _ = _
            unfold codeT
            rw [catB_snoc, Nat.zero_add, List.append_assoc, List.append_assoc]
          clear hcc hva
          go_wp2_with (first
            | (go_at_call 61; refine (HCat.out _ _ _ (by simp) (by simp) (below_alloc _ _)).mono ?_; rintro e w3 ⟨v3, rfl, hI3, HB4⟩; have HL3 := HLine.out w3 v3 HB4.out hI3.out)
            | (go_at_call 60; refine HL3.mono ?_; rintro e w4 ⟨⟨v4, rfl⟩, HW4, HK4⟩))
          go_roundw
          case rel => exact ⟨j + 1, by omega, by go_num, (by show SB _ _ _; rw [← HT1.out]; exact HW4.out), (HB3.out.trans (HB4.out.mono hsz)).trans (HK4.out.low (Nat.le_refl _) (Nat.le_trans hsz HB4.out.size))⟩
          case measure => simp [intOf]; omega
        · obtain rfl : j = (P k).n := by omega
          have HT1 : Hid (progT P k ++ (lnT (headZs (P k)) ++ codeT (P k).ins (P k).n) = progT P (k + 1)) := by
            show _ = _
            unfold progT
            rw [catB_snoc, Nat.zero_add]
            rfl
          go_wp2_with fail
          go_roundw
          case rel => exact ⟨k + 1, by omega, by go_num, (by show SB _ _ _; rw [← HT1.out]; exact HW.out), HB3⟩
          case measure => simp [intOf]; omega
    · obtain rfl : k = np := by omega
      have q0 := HW.out.cell
      have hw9 := HW.out.lt
      go_wp2_with fail
      go_ret
      exact ⟨rfl, HB.out⟩

end Go.Proofs.YtjogdpijekegnabGreatDoor
