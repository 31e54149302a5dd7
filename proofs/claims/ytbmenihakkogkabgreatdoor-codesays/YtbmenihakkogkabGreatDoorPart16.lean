/- What the numbers' tables hold, and that they stay so; rows of bytes and of numbers of the call's own; strconv.Itoa, Atoi, AppendInt, strings.Split and Cut as image calls them. addLine: a line of numbers behind a text, by the program. numbersOf: the numbers of a line; the next line's, by the program. -/
import Derived.Test.YtbmenihakkogkabGreatDoorShelf
import Derived.Test.YtbmenihakkogkabGreatDoorPart2
import Derived.Test.YtbmenihakkogkabGreatDoorPart15
import Derived.Lib.ItoaLen
import Derived.Lib.OthersKept
import Derived.Lib.BufferKept
import Derived.Deep.Light
import Derived.OwnWalk
import Derived.Lib.AtoiAllCases
namespace Go.Proofs.YtbmenihakkogkabGreatDoor
open Go.RowKit Go.Maps

/-- The tables that the numbers' functions read, below block N. -/
structure NEnv (N : Nat) (w : World) : Prop where
  low : 9 ≤ N
  pow : Lib.TabIs Tryz.prog w "internal/strconv.uint64pow10" .u64 Lib.pow10Tab
  syn : ∃ tp p, w.var? Tryz.prog "strconv.ErrSyntax" = some #[.iface tp p]
  rng : ∃ tp p, w.var? Tryz.prog "strconv.ErrRange" = some #[.iface tp p]
  max : ∃ m, w.cell? ⟨8, 0, none⟩ = some (.int .i64 m)

theorem ngPow : Tryz.prog.globalNamed "internal/strconv.uint64pow10" = some 7 := by kernel_rfl
theorem ngSyn : Tryz.prog.globalNamed "strconv.ErrSyntax" = some 5 := by kernel_rfl
theorem ngRng : Tryz.prog.globalNamed "strconv.ErrRange" = some 6 := by kernel_rfl

theorem var_block {P : Program} {w w' : World} {n : String} {g : Nat} (hg : P.globalNamed n = some g) (hb : w'.heap[g]? = w.heap[g]?) : w'.var? P n = w.var? P n := by
  unfold World.var?
  rw [hg]
  simp only [Option.bind_some, hb]

theorem NEnv.below {N : Nat} {w w' : World} (h : NEnv N w) (hb : Below N w w') : NEnv N w' := by
  have l := h.low
  refine ⟨l, ?_, ?_, ?_, ?_⟩
  · unfold Lib.TabIs; rw [var_block ngPow (hb.block 7 (by omega))]; exact h.pow
  · rw [var_block ngSyn (hb.block 5 (by omega))]; exact h.syn
  · rw [var_block ngRng (hb.block 6 (by omega))]; exact h.rng
  · rw [hb.cell (p := ⟨8, 0, none⟩) (by show 8 < N; omega)]; exact h.max

theorem nbelow_grow (w : World) (k : Nat) (os : Array Obj) : Below w.heap.size w (Sort.grow (w.drewN k) os) :=
  ⟨rfl, rfl, rfl, by simp [Sort.grow, World.drewN], fun j hj => by
    show (w.heap ++ os)[j]? = w.heap[j]?
    rw [Array.getElem?_append_left hj]⟩

/-- strconv.Itoa. -/
theorem nitoa (N : Nat) (z : Int) (h : i64 z) (w : World) (he : NEnv N w) :
    Calls Tryz.prog 38 #[.int .i64 z] w fun e w' => e = .returned (.string (bs (Lib.itoa z))) ∧ Below w.heap.size w w' := by
  refine (Tryz.strconv_Itoa z h.1 h.2 w he.pow).mono ?_
  rintro e w' ⟨rfl, k, os, rfl⟩
  exact ⟨rfl, nbelow_grow w k os⟩

/-- strconv.Atoi of a numeral. -/
theorem natoi_ok (s : ByteArray) (hs : s.size ≤ 1000000) (v : Int) (h : Lib.atoiAll s.data.toList = .ok v) (w : World) :
    Calls Tryz.prog 47 #[.string s] w fun e w' => e = .returned (.tuple #[.int .i64 v, .nilIface]) ∧ Below w.heap.size w w' := by
  refine (Tryz.strconv_Atoi_ok s (by omega) v h w).mono ?_
  rintro e w' ⟨rfl, rfl | ⟨t, rfl⟩⟩
  · exact ⟨rfl, Below.refl _ _⟩
  · exact ⟨rfl, Lib.bytesWorld_below _ _ _⟩

/-- .. of what is none. -/
theorem natoi_bad (N : Nat) (s : ByteArray) (hs : s.size ≤ 1000000) (h : ∀ v, ¬ Lib.atoiAll s.data.toList = .ok v) (w : World) (he : NEnv N w) :
    Calls Tryz.prog 47 #[.string s] w fun e w' => ∃ z t p, e = .returned (.tuple #[.int .i64 z, .iface t p]) ∧ Below w.heap.size w w' := by
  cases h0 : Lib.atoiAll s.data.toList with
  | ok v => exact absurd h0 (h v)
  | «syntax» =>
    obtain ⟨tp, p, hv⟩ := he.syn
    refine (Tryz.strconv_Atoi_syntax_var s (by omega) h0 tp p w hv).mono ?_
    rintro e w' ⟨n, rfl, _, _, hb⟩
    exact ⟨_, _, _, rfl, hb⟩
  | range =>
    obtain ⟨tp, p, hv⟩ := he.rng
    refine (Tryz.strconv_Atoi_range_var s (by omega) h0 tp p w hv).mono ?_
    rintro e w' ⟨n, rfl, _, _, hb⟩
    exact ⟨_, _, _, rfl, hb⟩

/-- A text's pieces, as Go's strings. -/
def piecesB (c : UInt8) (s : ByteArray) : List ByteArray := Lib.splitB (bs [c]) 0 (Lib.countB s (bs [c])) s

theorem piecesB_data (c : UInt8) (s : ByteArray) : (piecesB c s).map (·.data.toList) = splitC c s.data.toList := splitB_C c s
theorem piecesB_len (c : UInt8) (s : ByteArray) : (piecesB c s).length = Lib.countB s (bs [c]) + 1 := Lib.splitB_all (bs [c]) (by show 1 ≤ 1; omega) 0 _ s rfl

/-- strings.Split at one byte. -/
theorem nsplit (N : Nat) (c : UInt8) (s : ByteArray) (hs : s.size ≤ 1000000) (w : World) (he : NEnv N w) :
    Calls Tryz.prog 42 #[.string s, .string ⟨#[c]⟩] w fun e w' => e = .returned (.slice (some ⟨w.heap.size, 0, none⟩) (piecesB c s).length (piecesB c s).length) ∧ w' = w.alloc (.cells ((piecesB c s).map Value.string).toArray 9) := by
  obtain ⟨m, hm⟩ := he.max
  refine (Tryz.strings_Split s ⟨#[c]⟩ m w (by omega) hm (by show 1 ≤ 1; omega)).mono ?_
  rintro e w' ⟨rfl, rfl⟩
  rw [piecesB_len]
  exact ⟨rfl, rfl⟩

/-- strings.Cut at a line feed. -/
theorem ncut (N : Nat) (s : ByteArray) (hs : s.size ≤ 1000000) (w : World) (he : NEnv N w) :
    Calls Tryz.prog 128 #[.string s, .string ⟨#[10]⟩] w fun e w' => (∃ r, (cutAt 10 s.data.toList).2 = some r ∧ e = .returned (.tuple #[.string (bs (cutAt 10 s.data.toList).1), .string (bs r), .bool true]) ∨ (cutAt 10 s.data.toList).2 = none ∧ e = .returned (.tuple #[.string s, .string (bs []), .bool false])) ∧ Below w.heap.size w w' := by
  obtain ⟨m, hm⟩ := he.max
  refine (Tryz.strings_Cut s ⟨#[10]⟩ m w (by omega) hm).mono ?_
  rintro e w' ⟨rfl, n, rfl⟩
  refine ⟨?_, below_drewN' w n⟩
  have hc := lib_cut 10 s.data.toList
  have e0 : (⟨#[10]⟩ : ByteArray).data.toList = [10] := rfl
  rw [e0, hc]
  cases h : (cutAt 10 s.data.toList).2 with
  | some r => exact ⟨r, Or.inl ⟨rfl, rfl⟩⟩
  | none => exact ⟨[], Or.inr ⟨rfl, rfl⟩⟩

/-! ### Rows of the call's own -/

/-- 'v' is a row of the bytes l, of blocks from B on. -/
def BS (B : Nat) (w : World) (v : Value) (l : List UInt8) : Prop := w.ownsRow B 5 1 v l.length (Lib.byteCells l)
/-- 'v' is a row of the numbers zs, of blocks from B on. -/
def IS (B : Nat) (w : World) (v : Value) (zs : List Int) : Prop := w.ownsRow B 3 1 v zs.length (zs.map (Value.int .i64))

/-- All below B is as it was, and so is each block that is no row of bytes. -/
def KB (B : Nat) (w w' : World) : Prop := Below B w w' ∧ Lib.OthersKept 5 none w w'

theorem KB.refl (B : Nat) (w : World) : KB B w w := ⟨Below.refl _ _, Lib.OthersKept.refl _ _ _⟩
theorem KB.trans {B : Nat} {a b c : World} (h : KB B a b) (k : KB B b c) : KB B a c := ⟨h.1.trans k.1, h.2.trans k.2⟩
theorem KB.of {B : Nat} {a b : World} (h : Below a.heap.size a b) (hB : B ≤ a.heap.size) : KB B a b := ⟨h.mono hB, (Lib.OthersKept.refl _ _ _).below h⟩

theorem BS.nil (B : Nat) (w : World) : BS B w (.slice none 0 0) [] := ⟨rfl, Or.inl ⟨rfl, rfl⟩⟩
theorem IS.nil (B : Nat) (w : World) : IS B w (.slice none 0 0) [] := ⟨rfl, Or.inl ⟨rfl, rfl⟩⟩

theorem BS.keep {B : Nat} {w w' : World} {v : Value} {l : List UInt8} (h : BS B w v l) (hb : Below w.heap.size w w') : BS B w' v l := by
  unfold BS at *
  refine ⟨h.1, ?_⟩
  rcases h.2 with ⟨rfl, h0⟩ | ⟨g, cap, cur, rfl, h1, h2, h3⟩
  · exact Or.inl ⟨rfl, h0⟩
  · exact Or.inr ⟨g, cap, cur, rfl, h1, by rw [hb.block g (Array.getElem?_eq_some_iff.1 h2).1]; exact h2, h3⟩

theorem IS.keep {B : Nat} {w w' : World} {v : Value} {l : List Int} (h : IS B w v l) (hb : Below w.heap.size w w') : IS B w' v l := by
  unfold IS at *
  refine ⟨h.1, ?_⟩
  rcases h.2 with ⟨rfl, h0⟩ | ⟨g, cap, cur, rfl, h1, h2, h3⟩
  · exact Or.inl ⟨rfl, h0⟩
  · exact Or.inr ⟨g, cap, cur, rfl, h1, by rw [hb.block g (Array.getElem?_eq_some_iff.1 h2).1]; exact h2, h3⟩

/-- A row of numbers stays while rows of bytes grow. -/
theorem IS.kept {B C : Nat} {w w' : World} {v : Value} {l : List Int} (h : IS C w v l) (hb : KB B w w') : IS C w' v l := by
  unfold IS at *
  refine ⟨h.1, ?_⟩
  rcases h.2 with ⟨rfl, h0⟩ | ⟨g, cap, cur, rfl, h1, h2, h3⟩
  · exact Or.inl ⟨rfl, h0⟩
  · exact Or.inr ⟨g, cap, cur, rfl, h1, hb.2 g _ h2 (by simp) (fun c fz e => by injection e with _ e2 _; exact absurd e2 (by decide)), h3⟩

theorem IS.at {B : Nat} {w : World} {v : Value} {l : List Int} (h : IS B w v l) : ∃ a cap, v = .slice a l.length cap ∧ (l = [] ∨ ∃ g, a = some ⟨g, 0, none⟩ ∧ B ≤ g ∧ g < w.heap.size ∧ ∀ i z, l[i]? = some z → w.cell? ⟨g, i, none⟩ = some (.int .i64 z)) := by
  rcases h.2 with ⟨rfl, h0⟩ | ⟨g, cap, cur, rfl, h1, h2, h3⟩
  · exact ⟨none, 0, by rw [h0], Or.inl (List.length_eq_zero_iff.1 h0)⟩
  · refine ⟨_, cap, rfl, Or.inr ⟨g, rfl, h1, (Array.getElem?_eq_some_iff.1 h2).1, fun i z hz => ?_⟩⟩
    have := h.cellAt i (by have := (List.getElem?_eq_some_iff.1 hz).1; omega)
    rw [List.getElem?_map, hz] at this
    exact this

theorem BS.shape {B : Nat} {w : World} {v : Value} {l : List UInt8} (h : BS B w v l) : ∃ a cap, v = .slice a l.length cap := own_shape h
theorem IS.shape {B : Nat} {w : World} {v : Value} {l : List Int} (h : IS B w v l) : ∃ a cap, v = .slice a l.length cap := own_shape h

theorem info5 : (Tryz.prog.info? 5).map (fun i => (i.zero, i.size, i.bytes)) = some (some (.int .u8 0), 1, 1) := by kernel_rfl
theorem info3i : (Tryz.prog.info? 3).map (fun i => (i.zero, i.size, i.bytes)) = some (some (.int .i64 0), 1, 8) := by kernel_rfl

/-- A byte more. -/
theorem append_byte {ops : Array Oper} {rest : List Oper} {o : Oper} {a : Act} {Q : Exit → Act → World → Prop} (w : World) (hgd : o.guard = none) (s y : Operand)
    (ho : o.op = .call { callee := .builtin .append, args := #[s, y], argTypes := #[112, 112] }) (base : Nat) (v : Value) (l : List UInt8) (x : UInt8) (hs : a.eval s = v) (hown : BS base w v l)
    (t : TypeId) (B : Nat) (hB : w.heap.size = B) (hy : a.eval y = .slice (some ⟨B, 0, none⟩) 1 1) (hR : l.length + 1 ≤ 100000000) (hbase : base ≤ w.heap.size)
    (h : ∀ v' w2, BS base w2 v' (l ++ [x]) → KB base w w2 → wpList Tryz.prog ops Q rest (a.put o.dst v') w2) :
    wpList Tryz.prog ops Q (o :: rest) a (w.alloc (.cells #[.int .u8 x.toNat] t)) := by
  subst hB
  obtain ⟨i0, hi, hz0, hz1, hz2⟩ := info_parts info5
  have hk : Below w.heap.size w (w.alloc (.cells #[.int .u8 x.toNat] t)) := below_alloc _ _
  refine wpList_append_own_at _ hgd s y 112 ho base 5 i0 (.int .u8 0) 1 1 Tryz.underlying112 hi hz0 hz1 hz2 rfl (by decide) v _ _ hs (hown.keep hk) ⟨w.heap.size, 0, none⟩ 1 1 [.int .u8 x.toNat] hy rfl (fun j u hj => ?_) (fun u hu => by rw [List.mem_singleton] at hu; subst hu; rfl) (by unfold maxLen; omega) (by omega) (Nat.le_trans hbase hk.size) ?_
  · rw [WideShapes.add_plain, Nat.zero_add, World.cell?_alloc_new]
    simpa using hj
  · intro v' w2 h1 h2 _ _
    refine h v' w2 ?_ ?_
    · unfold BS Lib.byteCells
      rw [List.length_append, List.map_append]
      exact h1
    · have hlow : ∀ k, v.ownBlock = some k → base ≤ k ∧ k < w.heap.size := fun k hk => ⟨(hown.lt k hk).1, (hown.lt k hk).2⟩
      have hbel : Below base w w2 := (hk.mono hbase).grown h2 (Nat.le_trans hbase hk.size) (fun k hk => (hlow k hk).1)
      refine ⟨hbel, ((Lib.OthersKept.refl 5 none w).alloc _).grown h2 fun g hg => ?_⟩
      rcases hown.2 with ⟨rfl, _⟩ | ⟨g', cap, cur, rfl, _, h22, _⟩
      · cases hg
      · obtain rfl : g' = g := Option.some.inj hg
        exact ⟨cur, (0, 0), by rw [hk.block g' (Array.getElem?_eq_some_iff.1 h22).1]; exact h22⟩

/-- A number more at the end of a row of the call's own. -/
theorem append_num {ops : Array Oper} {rest : List Oper} {o : Oper} {a : Act} {Q : Exit → Act → World → Prop} (w : World) (hgd : o.guard = none) (s y : Operand)
    (ho : o.op = .call { callee := .builtin .append, args := #[s, y], argTypes := #[55, 55] }) (base : Nat) (v : Value) (l : List Int) (x : Int) (hs : a.eval s = v) (hown : IS base w v l)
    (t : TypeId) (B : Nat) (hB : w.heap.size = B) (hy : a.eval y = .slice (some ⟨B, 0, none⟩) 1 1) (hR : l.length + 1 ≤ 100000000) (hbase : base ≤ w.heap.size)
    (h : ∀ v' w2, IS base w2 v' (l ++ [x]) → Below base w w2 → wpList Tryz.prog ops Q rest (a.put o.dst v') w2) :
    wpList Tryz.prog ops Q (o :: rest) a (w.alloc (.cells #[.int .i64 x] t)) := by
  subst hB
  obtain ⟨i0, hi, hz0, hz1, hz2⟩ := info_parts info3i
  have hk : Below w.heap.size w (w.alloc (.cells #[.int .i64 x] t)) := below_alloc _ _
  refine wpList_append_own_at _ hgd s y 55 ho base 3 i0 (.int .i64 0) 1 8 Tryz.underlying55 hi hz0 hz1 hz2 rfl (by decide) v _ _ hs (hown.keep hk) ⟨w.heap.size, 0, none⟩ 1 1 [.int .i64 x] hy rfl (fun j u hj => ?_) (fun u hu => by rw [List.mem_singleton] at hu; subst hu; rfl) (by unfold maxLen; omega) (by omega) (Nat.le_trans hbase hk.size) ?_
  · rw [WideShapes.add_plain, Nat.zero_add, World.cell?_alloc_new]
    simpa using hj
  · intro v' w2 h1 h2 _ _
    refine h v' w2 ?_ ?_
    · unfold IS
      rw [List.length_append, List.map_append]
      exact h1
    · exact (hk.mono hbase).grown h2 (Nat.le_trans hbase hk.size) (fun k hk => (hown.lt k hk).1)

/-- strconv.AppendInt. -/
theorem nappend (N B : Nat) (hNB : N ≤ B) (z : Int) (hz : i64 z) (v : Value) (l : List UInt8) (w : World) (hB : B ≤ w.heap.size) (he : NEnv N w) (hown : BS B w v l) (hl : l.length ≤ 100000000) :
    Calls Tryz.prog 126 #[v, .int .i64 z, .int .i64 10] w fun e w' => ∃ v', e = .returned v' ∧ Hid (BS B w' v' (l ++ Lib.itoa z)) ∧ KB B w w' := by
  refine (Tryz.strconv_AppendInt_10 B l.length z hz.1 hz.2 v (Lib.byteCells l) w hown hB (by omega) (fun w' hb => (he.below (hb.mono hNB)).pow)).mono ?_
  rintro e w' ⟨v', rfl, h1, h2, h3⟩
  refine ⟨v', rfl, ?_, h2, h3⟩
  show BS _ _ _ _
  unfold BS Lib.byteCells
  rw [List.length_append, List.map_append]
  exact h1

end Go.Proofs.YtbmenihakkogkabGreatDoor

namespace Go.Proofs.YtbmenihakkogkabGreatDoor
open Go.RowKit Go.Maps

/-- The first k numbers of a line. -/
def lnTo (zs : List Int) : Nat → List UInt8
  | 0 => []
  | k + 1 => (if k = 0 then lnTo zs k else lnTo zs k ++ [32]) ++ Lib.itoa (zs.getD k 0)

theorem lnTo_take : ∀ (zs : List Int) (k : Nat), k ≤ zs.length → lnTo zs k = lineL (zs.take k)
  | zs, 0, _ => rfl
  | zs, k + 1, h => by
    have ih := lnTo_take zs k (by omega)
    have hk : zs[k]? = some (zs.getD k 0) := by simp [show k < zs.length by omega]
    rw [lnTo, ih, List.take_add_one, hk]
    unfold lineL
    cases k with
    | zero => simp [Lib.join_nil, Lib.join_one]
    | succ k =>
      cases zs with
      | nil => simp at h
      | cons z zs =>
        rw [if_neg (by omega)]
        simp only [List.take_succ_cons, List.map_cons, List.cons_append, List.map_append, Option.toList_some, List.map_nil]
        rw [Lib.join_cons, Lib.join_cons]
        simp [Lib.joinTail, List.append_assoc]

theorem lnTo_all (zs : List Int) : lnTo zs zs.length = lineL zs := by rw [lnTo_take zs _ (Nat.le_refl _), List.take_length]

theorem lnTo_len {zs : List Int} (h : ∀ z ∈ zs, i64 z) : ∀ k, k ≤ zs.length → (lnTo zs k).length ≤ 22 * k
  | 0, _ => by simp [lnTo]
  | k + 1, hk => by
    have ih := lnTo_len h k (by omega)
    have hz := h (zs.getD k 0) (by simp [show k < zs.length by omega])
    have hl := Lib.itoa_length_le (zs.getD k 0) hz.1 hz.2
    rw [lnTo]
    split
    · rw [List.length_append]; omega
    · rw [List.length_append, List.length_append]; simp only [List.length_cons, List.length_nil]; omega

set_option maxHeartbeats 2000000 in
theorem addLine (N B C : Nat) (hNB : N ≤ B) (v nv : Value) (l : List UInt8) (zs : List Int) (w : World) (hB : B ≤ w.heap.size) (he : NEnv N w) (hv : BS B w v l) (hn : IS C w nv zs) (hz : ∀ z ∈ zs, i64 z) (hl : l.length ≤ 10000000) (hzl : zs.length ≤ 1000) :
    Calls Tryz.prog 70 #[v, nv] w fun e w' => ∃ v', e = .returned v' ∧ Hid (BS B w' v' (l ++ lnT zs)) ∧ Hid (KB B w w') := by
  have HE : Hid (NEnv N w) := he
  have HV : Hid (BS B w v l) := hv
  have HN : Hid (IS C w nv zs) := hn
  have HZ : Hid (∀ z ∈ zs, i64 z) := hz
  obtain ⟨an, cn, rfl⟩ := hn.shape
  obtain ⟨n, hnn⟩ : ∃ n, zs.length = n := ⟨_, rfl⟩
  have HL : Hid (zs.length = n) := hnn
  rw [hnn] at HN hzl ⊢
  clear he hv hn hz hnn
  go_enter Tryz.func70, Tryz.ntmps70
  go_upto_region 2 with (fail)
  go_loopw [0, 9] (fun q i wr => ∃ k : Nat, k ≤ n ∧ i = .int .i64 k ∧ Hid (BS B wr q (l ++ lnTo zs k)) ∧ Hid (KB B w wr)) (fun _ i _ => n - (intOf i).toNat)
  case atStart => exact ⟨0, by omega, rfl, (by show BS _ _ _ _; rw [lnTo, List.append_nil]; exact HV.out), KB.refl _ _⟩
  case round =>
    obtain ⟨k, hk0, rfl, HW, HK⟩ := hrel
    have hBr : B ≤ wr.heap.size := Nat.le_trans hB HK.out.1.size
    have HEr : Hid (NEnv N wr) := HE.out.below (HK.out.1.mono hNB)
    have hlen : (l ++ lnTo zs k).length + 100 ≤ 100000000 := by
      have := lnTo_len HZ.out k (by rw [HL.out]; omega)
      rw [List.length_append]; omega
    by_cases hk : k < n
    · obtain ⟨a1, c1, e1, h1⟩ := (HN.out.kept HK.out).at
      injection e1 with ea eb ec
      subst ea
      clear eb ec
      obtain ⟨g, rfl, hgC, hg, hcell⟩ : ∃ g, an = some ⟨g, 0, none⟩ ∧ C ≤ g ∧ g < wr.heap.size ∧ ∀ i z, zs[i]? = some z → wr.cell? ⟨g, i, none⟩ = some (.int .i64 z) := by
        rcases h1 with h | h
        · rw [h] at HL; have := HL.out; simp at this; omega
        · exact h
      have hkz : zs[k]? = some (zs.getD k 0) := by have := HL.out; simp [show k < zs.length by omega]
      have q0 := hcell k _ hkz
      have hzk := HZ.out _ (List.mem_of_getElem? hkz)
      have hki : (k : Int) < (n : Int) := by omega
      have HZk : Hid (i64 (zs.getD k 0)) := hzk
      clear h1 hcell hgC hzk hkz
      generalize hzz : zs.getD k 0 = z at *
      have HZZ : Hid (zs.getD k 0 = z) := hzz
      clear hzz
      by_cases k0 : k = 0
      · have k0i : ¬ (k : Int) > 0 := by omega
        have HLn : Hid (lnTo zs (k + 1) = lnTo zs k ++ Lib.itoa z) := by show _ = _; rw [lnTo, if_pos k0, HZZ.out]
        have HAp : Hid (Calls Tryz.prog 126 #[u0, .int .i64 z, .int .i64 10] wr fun e w' => ∃ v', e = .returned v' ∧ Hid (BS B w' v' ((l ++ lnTo zs k) ++ Lib.itoa z)) ∧ KB B wr w') := nappend N B hNB z HZk.out u0 _ wr hBr HEr.out HW.out (by omega)
        clear k0 hlen
        go_wp2_with (first
          | (go_at_call 126; refine HAp.out.mono ?_; rintro e w2 ⟨v2, rfl, HW2, hk2⟩))
        go_roundw
        case rel => exact ⟨k + 1, by omega, by go_num, (by show BS _ _ _ _; rw [HLn.out, ← List.append_assoc]; exact HW2.out), HK.out.trans hk2⟩
        case measure => simp [intOf]; omega
      · have k0i : (k : Int) > 0 := by omega
        have HLn : Hid (lnTo zs (k + 1) = (lnTo zs k ++ [32]) ++ Lib.itoa z) := by show _ = _; rw [lnTo, if_neg k0, HZZ.out]
        have HAp : Hid (∀ v1 w1, BS B w1 v1 ((l ++ lnTo zs k) ++ [32]) → KB B wr w1 → Calls Tryz.prog 126 #[v1, .int .i64 z, .int .i64 10] w1 fun e w' => ∃ v', e = .returned v' ∧ Hid (BS B w' v' (((l ++ lnTo zs k) ++ [32]) ++ Lib.itoa z)) ∧ KB B w1 w') := fun v1 w1 hb hkb =>
          nappend N B hNB z HZk.out v1 _ w1 (Nat.le_trans hBr hkb.1.size) (HEr.out.below (hkb.1.mono hNB)) hb (by rw [List.length_append]; simp only [List.length_cons, List.length_nil]; omega)
        clear k0
        go_wp2_with (first
          | (at_builtin; refine append_byte wr rfl _ _ rfl B u0 _ 32 rfl HW.out _ _ rfl rfl (by omega) hBr ?_; intro v1 w1 hW1 hK1; have HA2 := HAp.out v1 w1 hW1 hK1; clear hW1)
          | (go_at_call 126; refine HA2.mono ?_; rintro e w2 ⟨v2, rfl, HW2, hk2⟩))
        go_roundw
        case rel => exact ⟨k + 1, by omega, by go_num, (by show BS _ _ _ _; rw [HLn.out, ← List.append_assoc, ← List.append_assoc]; exact HW2.out), HK.out.trans (hK1.trans hk2)⟩
        case measure => simp [intOf]; omega
    · obtain rfl : k = n := by omega
      have HLn : Hid (l ++ lnT zs = (l ++ lnTo zs k) ++ [10]) := by show _ = _; unfold lnT; rw [← lnTo_all, HL.out, List.append_assoc]
      go_wp2_with (first
        | (at_builtin; refine append_byte wr rfl _ _ rfl B u0 _ 10 rfl HW.out _ _ rfl rfl (by omega) hBr ?_; intro v1 w1 hW1 hK1))
      go_ret
      exact ⟨_, rfl, (by show BS _ _ _ _; rw [HLn.out]; exact hW1), HK.out.trans hK1⟩

end Go.Proofs.YtbmenihakkogkabGreatDoor

namespace Go.Proofs.YtbmenihakkogkabGreatDoor
open Go.RowKit Go.Maps

theorem splitC_short (c : UInt8) : ∀ (l : List UInt8), ∀ x ∈ splitC c l, x.length ≤ l.length
  | [], x, hx => by simp [splitC] at hx; subst hx; simp
  | b :: l, x, hx => by
    have ih := splitC_short c l
    obtain ⟨y, ys, e⟩ := splitC_cons c l
    unfold splitC at hx
    rw [e] at ih hx
    split at hx
    · rcases List.mem_cons.1 hx with rfl | hx
      · simp
      · have := ih x hx; simp; omega
    · simp only [List.headD_cons, List.tail_cons] at hx
      rcases List.mem_cons.1 hx with rfl | hx
      · have := ih y (by simp); simp; omega
      · have := ih x (by simp [hx]); simp; omega

theorem splitC_many (c : UInt8) : ∀ (l : List UInt8), (splitC c l).length ≤ l.length + 1
  | [] => by simp [splitC]
  | b :: l => by
    have ih := splitC_many c l
    obtain ⟨y, ys, e⟩ := splitC_cons c l
    unfold splitC
    rw [e] at ih ⊢
    split
    · simp at ih ⊢; omega
    · simp at ih ⊢; omega

theorem piece_small {c : UInt8} {s : ByteArray} {k : Nat} {p : ByteArray} (h : (piecesB c s)[k]? = some p) : p.size ≤ s.size := by
  have h1 : p.data.toList ∈ splitC c s.data.toList := by
    rw [← piecesB_data]
    exact List.mem_map.2 ⟨p, List.mem_of_getElem? h, rfl⟩
  have := splitC_short c _ _ h1
  simpa using this

theorem pieces_many (c : UInt8) (s : ByteArray) : (piecesB c s).length ≤ s.size + 1 := by
  have h := splitC_many c s.data.toList
  rw [← piecesB_data, List.length_map] at h
  simpa using h

/-- The first k pieces, as numbers. -/
def numsTo (ps : List ByteArray) (k : Nat) : List Int := (ps.take k).map fun p => atoiV p.data.toList

theorem numsTo_succ {ps : List ByteArray} {k : Nat} {p : ByteArray} (h : ps[k]? = some p) : numsTo ps (k + 1) = numsTo ps k ++ [atoiV p.data.toList] := by
  unfold numsTo
  rw [List.take_add_one, h]
  simp

theorem numsOf_good {s : ByteArray} (h : ∀ (k : Nat) (p : ByteArray), (piecesB 32 s)[k]? = some p → numOK p.data.toList = true) : numsOf s.data.toList = numsTo (piecesB 32 s) (piecesB 32 s).length := by
  unfold numsOf numsTo
  rw [← piecesB_data, if_pos]
  · rw [List.map_map, List.take_length]; rfl
  · rw [List.all_eq_true]
    intro x hx
    obtain ⟨p, hp, rfl⟩ := List.mem_map.1 hx
    obtain ⟨k, hk⟩ := List.getElem?_of_mem hp
    exact h k p hk

theorem numsOf_bad {s : ByteArray} {k : Nat} {p : ByteArray} (h : (piecesB 32 s)[k]? = some p) (hb : numOK p.data.toList = false) : numsOf s.data.toList = [] := by
  unfold numsOf
  rw [← piecesB_data, if_neg]
  intro ha
  have := List.all_eq_true.1 ha p.data.toList (List.mem_map.2 ⟨p, List.mem_of_getElem? h, rfl⟩)
  rw [hb] at this
  cases this

theorem IS.base {B C : Nat} {w : World} {v : Value} {l : List Int} (h : IS B w v l) (hC : C ≤ B) : IS C w v l := by
  unfold IS at *
  refine ⟨h.1, ?_⟩
  rcases h.2 with ⟨rfl, h0⟩ | ⟨g, cap, cur, rfl, h1, h2, h3⟩
  · exact Or.inl ⟨rfl, h0⟩
  · exact Or.inr ⟨g, cap, cur, rfl, by omega, h2, h3⟩

set_option maxRecDepth 20000 in
set_option maxHeartbeats 4000000 in
/-- The numbers of a line. -/
theorem numbersOf (N : Nat) (s : ByteArray) (hs : s.size ≤ 100000) (w : World) (hN : N ≤ w.heap.size) (he : NEnv N w) :
    Calls Tryz.prog 129 #[.string s] w fun e w' => ∃ v, e = .returned v ∧ Hid (IS w.heap.size w' v (numsOf s.data.toList)) ∧ Hid (Below w.heap.size w w') := by
  have HE : Hid (NEnv N w) := he
  have HSp : Hid (Calls Tryz.prog 42 #[.string s, .string ⟨#[32]⟩] w fun e w' => e = .returned (.slice (some ⟨w.heap.size, 0, none⟩) (piecesB 32 s).length (piecesB 32 s).length) ∧ w' = w.alloc (.cells ((piecesB 32 s).map Value.string).toArray 9)) := nsplit N 32 s (by omega) w he
  have HGood : Hid ((∀ (k : Nat) (p : ByteArray), (piecesB 32 s)[k]? = some p → numOK p.data.toList = true) → numsOf s.data.toList = numsTo (piecesB 32 s) (piecesB 32 s).length) := numsOf_good
  have HBad : Hid (∀ (k : Nat) (p : ByteArray), (piecesB 32 s)[k]? = some p → numOK p.data.toList = false → numsOf s.data.toList = []) := fun k p h hb => numsOf_bad h hb
  have HSm : Hid (∀ (k : Nat) (p : ByteArray), (piecesB 32 s)[k]? = some p → p.size ≤ 100000) := fun k p h => Nat.le_trans (piece_small h) hs
  have hmany : (piecesB 32 s).length ≤ 100001 := Nat.le_trans (pieces_many 32 s) (by omega)
  generalize hps : piecesB 32 s = ps at *
  obtain ⟨m, hm⟩ : ∃ m, ps.length = m := ⟨_, rfl⟩
  have HM : Hid (ps.length = m) := hm
  rw [hm] at HSp hmany
  have hbW := below_alloc w (.cells (ps.map Value.string).toArray 9)
  have HCell : Hid (∀ w1, Below (w.alloc (.cells (ps.map Value.string).toArray 9)).heap.size (w.alloc (.cells (ps.map Value.string).toArray 9)) w1 → ∀ (k : Nat) (p : ByteArray), ps[k]? = some p → w1.cell? ⟨w.heap.size, k, none⟩ = some (.string p)) := fun w1 hb k p hk =>
    box_in hb k (by simp [hk])
  clear he hps hm
  go_enter Tryz.func129, Tryz.ntmps129
  go_upto_region 3 with (first
    | (go_at_call 42; refine HSp.out.mono ?_; rintro e w1 ⟨rfl, h1⟩; rw [h1]; clear h1))
  have hszW : (w.alloc (.cells (ps.map Value.string).toArray 9)).heap.size = w.heap.size + 1 := by simp
  generalize hWe : w.alloc (.cells (ps.map Value.string).toArray 9) = W at *
  clear hWe HSp
  go_loopw [3, 11] (fun q i wr => ∃ k : Nat, k ≤ m ∧ i = .int .i64 k ∧ Hid (IS W.heap.size wr q (numsTo ps k)) ∧ Hid (∀ (x : Nat) (p : ByteArray), x < k → ps[x]? = some p → numOK p.data.toList = true) ∧ Hid (Below W.heap.size W wr)) (fun _ i _ => m - (intOf i).toNat)
  case atStart => exact ⟨0, by omega, rfl, IS.nil _ _, fun x p hx => absurd hx (Nat.not_lt_zero _), Below.refl _ _⟩
  case round =>
    obtain ⟨k, hk0, rfl, HW, HA, HB⟩ := hrel
    have hsz := HB.out.size
    have hwr : w.heap.size < wr.heap.size := by omega
    have HBw : Hid (Below w.heap.size w wr) := hbW.trans (HB.out.mono (by omega))
    by_cases hk : k < m
    · obtain ⟨p, hp⟩ : ∃ p, ps[k]? = some p := ⟨ps[k]'(by rw [HM.out]; exact hk), by simp⟩
      have q0 := HCell.out wr HB.out k p hp
      have hki : (k : Int) < (m : Int) := by omega
      have hpz := HSm.out k p hp
      have HPk : Hid (ps[k]? = some p) := hp
      have HEr : Hid (∀ wi, Below wr.heap.size wr wi → NEnv N wi) := fun wi hb => HE.out.below ((HBw.out.trans (hb.mono (by omega))).mono hN)
      cases ha : Lib.atoiAll p.data.toList with
      | ok v =>
        have hv : i64 v := Lib.atoiAll_bounds ha
        have HAt : Hid (Calls Tryz.prog 47 #[.string p] wr fun e w' => e = .returned (.tuple #[.int .i64 v, .nilIface]) ∧ Below wr.heap.size wr w') := natoi_ok p (by omega) v ha wr
        have HIt : Hid (∀ wi, Below wr.heap.size wr wi → Calls Tryz.prog 38 #[.int .i64 v] wi fun e w' => e = .returned (.string (bs (Lib.itoa v))) ∧ Below wi.heap.size wi w') := fun wi hb => nitoa N v hv wi (HEr.out wi hb)
        have HVv : Hid (atoiV p.data.toList = v) := by show _ = _; unfold atoiV; rw [ha]
        have HOK : Hid (numOK p.data.toList = decide (Lib.itoa v = p.data.toList)) := by show _ = _; unfold numOK; rw [ha]
        have heq : ((bs (Lib.itoa v)).toList == p.toList) = decide (Lib.itoa v = p.data.toList) := by
          rw [ByteArray.toList_eq, ByteArray.toList_eq, bs_data, Bool.eq_iff_iff]; simp
        clear ha hv hp
        cases hd : decide (Lib.itoa v = p.data.toList) with
        | true =>
          rw [hd] at heq HOK
          have HNx : Hid (numsTo ps (k + 1) = numsTo ps k ++ [v]) := by show _ = _; rw [numsTo_succ HPk.out, HVv.out]
          have hlen : (numsTo ps k).length + 1 ≤ 100000000 := by
            unfold numsTo; rw [List.length_map, List.length_take]; omega
          have HLen : Hid ((numsTo ps k).length + 1 ≤ 100000000) := hlen
          clear hd hlen
          go_wp2_with (first
            | (go_at_call 47; refine HAt.out.mono ?_; rintro e w2 ⟨rfl, b2⟩)
            | (go_at_call 38; refine (HIt.out _ b2).mono ?_; rintro e w3 ⟨rfl, b3⟩; have b23 : Below wr.heap.size wr w3 := below_step b2 b3; have HI3 : Hid (IS W.heap.size w3 u3 (numsTo ps k)) := HW.out.keep b23; have hW3 : W.heap.size ≤ w3.heap.size := Nat.le_trans hsz b23.size)
            | (at_builtin; refine append_num w3 rfl _ _ rfl W.heap.size u3 _ v rfl HI3.out _ _ rfl rfl HLen.out hW3 ?_; intro v4 w4 hI4 hB4))
          go_roundw
          case rel =>
            refine ⟨k + 1, by omega, by go_num, (by show IS _ _ _ _; rw [HNx.out]; exact hI4), fun x p' hx hp' => ?_, (HB.out.trans (b23.mono hsz)).trans hB4⟩
            by_cases e : x = k
            · subst e
              rw [HPk.out] at hp'
              cases hp'
              exact HOK.out
            · exact HA.out x p' (by omega) hp'
          case measure => simp [intOf]; omega
        | false =>
          rw [hd] at heq HOK
          have HNx : Hid (numsOf s.data.toList = []) := HBad.out k p HPk.out HOK.out
          clear hd
          go_wp2_with (first
            | (go_at_call 47; refine HAt.out.mono ?_; rintro e w2 ⟨rfl, b2⟩)
            | (go_at_call 38; refine (HIt.out _ b2).mono ?_; rintro e w3 ⟨rfl, b3⟩))
          go_ret
          exact ⟨_, rfl, (by show IS _ _ _ _; rw [HNx.out]; exact IS.nil _ _), HBw.out.trans ((below_step b2 b3).mono (by omega))⟩
      | «syntax» =>
        have HAt : Hid (Calls Tryz.prog 47 #[.string p] wr fun e w' => ∃ z t x, e = .returned (.tuple #[.int .i64 z, .iface t x]) ∧ Below wr.heap.size wr w') := natoi_bad N p (by omega) (fun v h => by rw [ha] at h; cases h) wr (HEr.out wr (Below.refl _ _))
        have HNx : Hid (numsOf s.data.toList = []) := HBad.out k p HPk.out (by unfold numOK; rw [ha])
        clear ha hp
        go_wp2_with (first
          | (go_at_call 47; refine HAt.out.mono ?_; rintro e w2 ⟨z, t, x, rfl, b2⟩))
        go_ret
        exact ⟨_, rfl, (by show IS _ _ _ _; rw [HNx.out]; exact IS.nil _ _), HBw.out.trans (b2.mono (by omega))⟩
      | range =>
        have HAt : Hid (Calls Tryz.prog 47 #[.string p] wr fun e w' => ∃ z t x, e = .returned (.tuple #[.int .i64 z, .iface t x]) ∧ Below wr.heap.size wr w') := natoi_bad N p (by omega) (fun v h => by rw [ha] at h; cases h) wr (HEr.out wr (Below.refl _ _))
        have HNx : Hid (numsOf s.data.toList = []) := HBad.out k p HPk.out (by unfold numOK; rw [ha])
        clear ha hp
        go_wp2_with (first
          | (go_at_call 47; refine HAt.out.mono ?_; rintro e w2 ⟨z, t, x, rfl, b2⟩))
        go_ret
        exact ⟨_, rfl, (by show IS _ _ _ _; rw [HNx.out]; exact IS.nil _ _), HBw.out.trans (b2.mono (by omega))⟩
    · obtain rfl : k = m := by omega
      have HNx : Hid (numsOf s.data.toList = numsTo ps k) := by
        show _ = _
        rw [HGood.out fun x p hp => HA.out x p (by have := (List.getElem?_eq_some_iff.1 hp).1; have := HM.out; omega) hp, HM.out]
      go_wp2_with fail
      go_ret
      exact ⟨_, rfl, (by show IS _ _ _ _; rw [HNx.out]; exact HW.out.base (by omega)), HBw.out⟩

end Go.Proofs.YtbmenihakkogkabGreatDoor
