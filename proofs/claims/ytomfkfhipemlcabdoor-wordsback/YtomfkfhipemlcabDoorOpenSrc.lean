/- How what is read as data lies in memory: rows of tokens, statements with all in them, functions; and that there are no more statements than the data's bulk. -/
import Derived.Test.YtomfkfhipemlcabDoorPairs
import Derived.Test.YtomfkfhipemlcabDoorKept
import Derived.Deep.SlicePairs
namespace Go.Proofs.YtomfkfhipemlcabDoor
open Go.ChangeShapes Go.WideShapes Go.ChangeAt Go.RowKit Go.Deep

/-- All kinds are numbers that an int can be. -/
def kindsFit : Nat → SL → Prop
  | 0, _ => True
  | d + 1, T => ∀ i, i < T.len → (Lit.int .i64 (T.nd i).kind).wf = true ∧ kindsFit d (T.sub i false) ∧ kindsFit d (T.sub i true)


theorem cells75 : Tryd.prog.cellsOf 75 = 2 := by kernel_rfl
theorem cells58 : Tryd.prog.cellsOf 41 = 6 := by kernel_rfl
theorem cells54 : Tryd.prog.cellsOf 35 = 3 := by kernel_rfl
theorem cells52 : Tryd.prog.cellsOf 33 = 1 := by kernel_rfl
theorem cells46 : Tryd.prog.cellsOf 39 = 1 := by kernel_rfl
theorem cells3 : Tryd.prog.cellsOf 3 = 1 := by kernel_rfl

theorem plain_at {w : World} {a : Addr} {v : Value} (h : w.cell? (a.add 0) = some v) : a = ⟨a.block, a.off, none⟩ := by
  have hs := World.cell?_spot h
  obtain ⟨b, o, s⟩ := a
  have hs' : s = none := by simpa [Addr.add] using hs
  rw [hs']

theorem sumTo_head (g : Nat → Nat) : ∀ n, sumTo (n + 1) g = g 0 + sumTo n (fun i => g (i + 1))
  | 0 => by simp [sumTo]
  | n + 1 => by
    have := sumTo_head g n
    simp only [sumTo] at this ⊢
    omega

theorem len6 {α : Type} {l : List α} (h : l.length = 6) : ∃ a b c d e f, l = [a, b, c, d, e, f] := by
  rcases l with _ | ⟨a, _ | ⟨b, _ | ⟨c, _ | ⟨d, _ | ⟨e, _ | ⟨f, _ | ⟨g, l⟩⟩⟩⟩⟩⟩⟩
  · cases h
  · cases h
  · cases h
  · cases h
  · cases h
  · cases h
  · exact ⟨a, b, c, d, e, f, rfl⟩
  · simp at h

theorem len3 {α : Type} {l : List α} (h : l.length = 3) : ∃ a b c, l = [a, b, c] := by
  rcases l with _ | ⟨a, _ | ⟨b, _ | ⟨c, _ | ⟨d, l⟩⟩⟩⟩
  · cases h
  · cases h
  · cases h
  · exact ⟨a, b, c, rfl⟩
  · simp at h

section
variable {H : Type}

theorem bulk_sum : ∀ (l : List (DataW H)) (g : Nat → Nat), (∀ i d, l[i]? = some d → g i ≤ Rows.uptoBulk d) → sumTo l.length g ≤ Rows.uptoBulkAll l
  | [], g, _ => Nat.zero_le _
  | d :: l, g, h => by
    rw [List.length_cons, sumTo_head]
    have h0 := h 0 d rfl
    have ih := bulk_sum l (fun i => g (i + 1)) (fun i d hd => h (i + 1) d (by simpa using hd))
    simp only [Rows.uptoBulkAll]
    omega

theorem bulk_part : ∀ {l : List (DataW H)} {i : Nat} {d : DataW H}, l[i]? = some d → Rows.uptoBulk d ≤ Rows.uptoBulkAll l
  | [], i, d, h => by simp at h
  | x :: l, 0, d, h => by
    simp at h
    subst h
    simp only [Rows.uptoBulkAll]
    omega
  | x :: l, i + 1, d, h => by
    have := bulk_part (l := l) (i := i) (d := d) (by simpa using h)
    simp only [Rows.uptoBulkAll]
    omega

theorem kindsFit_succ : ∀ {d : Nat} {T : SL}, proper d T → kindsFit d T → kindsFit (d + 1) T
  | 0, T, h, _ => fun i hi => by
    have : T.len = 0 := h
    omega
  | d + 1, T, h, k => fun i hi => ⟨(k i hi).1, kindsFit_succ (h i hi).1 (k i hi).2.1, kindsFit_succ (h i hi).2 (k i hi).2.2⟩

variable {enc : TypeId × Value → H} {W : World} {base : Nat} {spare : Nat → Bool} {held : Bool}

theorem toks_of_trod {fuel : Nat} {v : Value} {x : DataW H × List MemPlace} (h : DataW.trod enc Tryd.prog W base spare held fuel 39 [v] = some x) : ∃ n k z, ToksAt W.heap.size W v n k z := by
  rcases open_slice_pairs Tryd.underlying39 Tryd.underlying75 cells75 rfl rfl cells3 cells3 h with ⟨hcs, _⟩ | ⟨a, len, cap, m, n, V0, V1, D0, D1, P0, P1, hcs, hb, hl, hm, hmm, _, hx⟩
  · obtain rfl : v = .slice none 0 0 := by simpa using hcs
    exact ⟨0, fun _ => 0, fun _ => 0, none, 0, rfl, by omega, Or.inl rfl⟩
  · obtain rfl : v = .slice (some a) len cap := by simpa using hcs
    have hlm : len ≤ m := by rw [hmm]; split <;> omega
    refine ⟨len, fun i => intOf (V0 i), fun i => intOf (V1 i), some a, cap, rfl, by unfold maxLen at hm; omega, ?_⟩
    by_cases h0 : len = 0
    · exact Or.inl h0
    right
    have hp := plain_at (hx 0 (by omega)).1
    refine ⟨a.block, a.off, by rw [hp], ?_, fun i hi => ?_⟩
    · have := cell_lt (hx 0 (by omega)).1
      simpa [Addr.add] using this
    · obtain ⟨c0, c1, t0, t1⟩ := hx i (by omega)
      obtain ⟨y0, e0, _, _⟩ := DataW.trod_int Tryd.underlying3 t0
      obtain ⟨y1, e1, _, _⟩ := DataW.trod_int Tryd.underlying3 t1
      simp at e0 e1
      rw [hp, add_plain] at c0 c1
      exact ⟨c0.trans (by simp [e0, intOf]), c1.trans (by simp [e1, intOf])⟩

/-- A slice, opened at each index, with less to read. -/
theorem slice_each {t e : TypeId} {fuel : Nat} {v : Value} {x : DataW H × List MemPlace} (ht : Tryd.prog.underlying t = some (.slice e)) (h : DataW.trod enc Tryd.prog W base spare held fuel t [v] = some x) :
    v = .slice none 0 0 ∨ ∃ (a : Addr) (len cap n : Nat) (elems rest : List (DataW H)), v = .slice (some a) len cap ∧ fuel = n + 1 ∧ len ≤ 9223372036854775807 ∧ x.1 = .slice elems rest ∧ elems.length = len ∧
      ∀ i, i < len → ∃ cs y, W.cells? base (a.add (i * Tryd.prog.cellsOf e)) (Tryd.prog.cellsOf e) = some cs ∧ DataW.trod enc Tryd.prog W base spare held n e cs = some y ∧ elems[i]? = some y.1 := by
  rcases DataW.trod_slice ht h with ⟨hcs, _⟩ | ⟨a, len, cap, elems, rest, n, hfu, hcs, rfl, hb, hl, hm, hlen, hel, _⟩
  · exact Or.inl (by simpa using hcs)
  · refine Or.inr ⟨a, len, cap, n, elems.map (·.1), rest.map (·.1), by simpa using hcs, hfu, by unfold maxLen at hm; omega, rfl, by simpa using hlen, fun i hi => ?_⟩
    have key := hel i hi
    rw [List.getElem?_eq_getElem (by omega)] at key
    obtain ⟨cs', h1, h2⟩ := Option.bind_eq_some_iff.1 key
    exact ⟨cs', _, h1, h2, by simp [List.getElem?_eq_getElem (show i < elems.length by omega)]⟩

/-- One statement, read. -/
theorem stmt_of_trod {fuel : Nat} {a : Addr} {cs : List Value} {y : DataW H × List MemPlace} (hc : W.cells? base a 6 = some cs) (h : DataW.trod enc Tryd.prog W base spare held fuel 41 cs = some y) :
    ∃ (k : Nat) (x0 x1 : Int) (v2 v3 v4 v5 : Value) (y4 y5 : DataW H × List MemPlace), fuel = k + 1 ∧ W.cell? (a.add 0) = some (.int .i64 x0) ∧ W.cell? (a.add 1) = some (.int .i64 x1) ∧ W.cell? (a.add 2) = some v2 ∧ W.cell? (a.add 3) = some v3 ∧ W.cell? (a.add 4) = some v4 ∧ W.cell? (a.add 5) = some v5 ∧
      (Lit.int .i64 x0).wf = true ∧ (∃ n k z, ToksAt W.heap.size W v2 n k z) ∧ (∃ n k z, ToksAt W.heap.size W v3 n k z) ∧ DataW.trod enc Tryd.prog W base spare held k 33 [v4] = some y4 ∧ DataW.trod enc Tryd.prog W base spare held k 33 [v5] = some y5 ∧
      1 + Rows.uptoBulk y4.1 + Rows.uptoBulk y5.1 ≤ Rows.uptoBulk y.1 := by
  obtain ⟨_, hlen, hcell⟩ := World.cells?_some hc
  obtain ⟨xs, k, hk, hxy, _, hxl, hf⟩ := DataW.trod_struct Tryd.underlying41 h
  obtain ⟨y0, y1, y2, y3, y4, y5, rfl⟩ := len6 (l := xs) hxl
  obtain ⟨v0, v1, v2, v3, v4, v5, rfl⟩ := len6 hlen
  · have g0 := hf 0 _ rfl
    have g1 := hf 1 _ rfl
    have g2 := hf 2 _ rfl
    have g3 := hf 3 _ rfl
    have g4 := hf 4 _ rfl
    have g5 := hf 5 _ rfl
    simp [cells3, cells46, cells52] at g0 g1 g2 g3 g4 g5
    have e0 := hcell 0 (by omega)
    have e1 := hcell 1 (by omega)
    have e2 := hcell 2 (by omega)
    have e3 := hcell 3 (by omega)
    have e4 := hcell 4 (by omega)
    have e5 := hcell 5 (by omega)
    obtain ⟨z0, q0, _, w0⟩ := DataW.trod_int Tryd.underlying3 g0
    obtain ⟨z1, q1, _, _⟩ := DataW.trod_int Tryd.underlying3 g1
    simp at q0 q1
    subst q0 q1
    refine ⟨k, z0, z1, v2, v3, v4, v5, y4, y5, hk, by simpa using e0, by simpa using e1, by simpa using e2, by simpa using e3, by simpa using e4, by simpa using e5, w0, toks_of_trod g2, toks_of_trod g3, g4, g5, ?_⟩
    rw [hxy]
    simp only [List.map_cons, List.map_nil, Rows.uptoBulk, Rows.uptoBulkAll]
    omega

/-- The tree of what was read at each index. -/
def treeOf (len : Nat) (q : Nat → Nd × SL × SL) : SL := fun p =>
  match p with
  | [] => (len, fun i => (q i).1)
  | (i, b) :: r => if b then (q i).2.2 r else (q i).2.1 r

/-- Statements, read: what they are, with all in them; there are no more than the datum's bulk. -/
theorem stmts_of_trod : ∀ (fuel : Nat) (v : Value) (x : DataW H × List MemPlace), DataW.trod enc Tryd.prog W base spare held fuel 33 [v] = some x →
    ∃ T : SL, StmtsAt W.heap.size W fuel v T ∧ kindsFit fuel T ∧ size fuel T ≤ Rows.uptoBulk x.1 := by
  intro fuel
  induction fuel using Nat.strongRecOn with
  | ind fuel ih =>
    intro v x h
    rcases slice_each Tryd.underlying33 h with rfl | ⟨a, len, cap, n, elems, rest, rfl, rfl, hl, hx, hel, hi⟩
    · refine ⟨fun _ => (0, fun _ => ⟨0, 0, 0, fun _ => 0, fun _ => 0, 0, fun _ => 0, fun _ => 0⟩), ?_, ?_, ?_⟩
      · cases fuel with
        | zero => exact ⟨rfl, none, 0, rfl⟩
        | succ n => exact ⟨none, 0, rfl, by decide, Or.inl rfl⟩
      · cases fuel with
        | zero => trivial
        | succ n => exact fun i hi => absurd hi (Nat.not_lt_zero _)
      · rw [size_none rfl]; exact Nat.zero_le _
    · have each : ∀ i, i < len → ∃ q : Nd × SL × SL, ∃ ve vf va vb, W.cell? (a.add (i * 6)) = some (.int .i64 q.1.kind) ∧ W.cell? (a.add (i * 6 + 1)) = some (.int .i64 q.1.num) ∧ W.cell? (a.add (i * 6 + 2)) = some ve ∧ W.cell? (a.add (i * 6 + 3)) = some vf ∧
          W.cell? (a.add (i * 6 + 4)) = some va ∧ W.cell? (a.add (i * 6 + 5)) = some vb ∧ ToksAt W.heap.size W ve q.1.ne q.1.ek q.1.ez ∧ ToksAt W.heap.size W vf q.1.nf q.1.fk q.1.fz ∧ StmtsAt W.heap.size W n va q.2.1 ∧ StmtsAt W.heap.size W n vb q.2.2 ∧
          (Lit.int .i64 q.1.kind).wf = true ∧ kindsFit n q.2.1 ∧ kindsFit n q.2.2 ∧ ∀ d, elems[i]? = some d → 1 + size n q.2.1 + size n q.2.2 ≤ Rows.uptoBulk d := by
        intro i hlt
        obtain ⟨cs, y, h1, h2, h3⟩ := hi i hlt
        rw [cells58] at h1
        obtain ⟨k, x0, x1, v2, v3, v4, v5, y4, y5, rfl, e0, e1, e2, e3, e4, e5, hw, ⟨n1, k1, z1, ht1⟩, ⟨n2, k2, z2, ht2⟩, g4, g5, hb⟩ := stmt_of_trod h1 h2
        obtain ⟨TA, sA, kA, bA⟩ := ih k (by omega) v4 y4 g4
        obtain ⟨TB, sB, kB, bB⟩ := ih k (by omega) v5 y5 g5
        rw [add_add] at e0 e1 e2 e3 e4 e5
        refine ⟨(⟨x0, x1, n1, k1, z1, n2, k2, z2⟩, TA, TB), v2, v3, v4, v5, by simpa using e0, e1, e2, e3, e4, e5, ht1, ht2, sA.deeper, sB.deeper, hw, kindsFit_succ sA.proper kA, kindsFit_succ sB.proper kB, fun d hd => ?_⟩
        rw [h3] at hd
        cases hd
        show 1 + size (k + 1) TA + size (k + 1) TB ≤ _
        rw [size_succ' sA.proper, size_succ' sB.proper]
        omega
      haveI : Inhabited Nd := ⟨⟨0, 0, 0, fun _ => 0, fun _ => 0, 0, fun _ => 0, fun _ => 0⟩⟩
      obtain ⟨q, hq⟩ := choose_lt each
      have hlen : (treeOf len q).len = len := rfl
      refine ⟨treeOf len q, ⟨some a, cap, rfl, hl, ?_⟩, fun i hlt => ?_, ?_⟩
      · by_cases h0 : len = 0
        · exact Or.inl h0
        · right
          obtain ⟨_, _, _, _, c0, _⟩ := hq 0 (by omega)
          have hp := plain_at (v := .int .i64 (q 0).1.kind) (by simpa using c0)
          refine ⟨a.block, a.off, by rw [hp], ?_, fun i hlt => ?_⟩
          · have := cell_lt c0
            simpa [Addr.add] using this
          · obtain ⟨ve, vf, va, vb, c0, c1, c2, c3, c4, c5, t1, t2, s1, s2, _⟩ := hq i hlt
            rw [hp, add_plain] at c0 c1 c2 c3 c4 c5
            exact ⟨ve, vf, va, vb, c0, c1, c2, c3, c4, c5, t1, t2, s1, s2⟩
      · obtain ⟨_, _, _, _, _, _, _, _, _, _, _, _, _, _, w0, k1, k2, _⟩ := hq i hlt
        exact ⟨w0, k1, k2⟩
      · rw [hx]
        have := bulk_sum elems (fun i => 1 + size n ((treeOf len q).sub i false) + size n ((treeOf len q).sub i true)) (fun i d hd => by
          have hlt : i < len := by
            have := (List.getElem?_eq_some_iff.1 hd).1
            omega
          obtain ⟨_, _, _, _, _, _, _, _, _, _, _, _, _, _, _, _, _, hb⟩ := hq i hlt
          exact hb d hd)
        rw [hel] at this
        simp only [Rows.uptoBulk]
        show sumTo len _ ≤ _
        omega

/-- Functions, read. -/
theorem funs_of_trod {fuel : Nat} {v : Value} {x : DataW H × List MemPlace} (h : DataW.trod enc Tryd.prog W base spare held fuel 22 [v] = some x) :
    ∃ (n : Nat) (par loc : Nat → Int) (bv : Nat → Value) (B : Nat → SL), FunsAt W.heap.size W v n par loc bv ∧ (∀ i, i < n → StmtsAt W.heap.size W fuel (bv i) (B i)) ∧ (∀ i, i < n → kindsFit fuel (B i)) ∧ ∀ i, i < n → size fuel (B i) ≤ Rows.uptoBulk x.1 := by
  rcases slice_each Tryd.underlying22 h with rfl | ⟨a, len, cap, n, elems, rest, rfl, rfl, hl, hx, hel, hi⟩
  · exact ⟨0, fun _ => 0, fun _ => 0, fun _ => .slice none 0 0, fun _ _ => (0, fun _ => ⟨0, 0, 0, fun _ => 0, fun _ => 0, 0, fun _ => 0, fun _ => 0⟩), ⟨none, 0, rfl, by decide, Or.inl rfl⟩, fun i hi => absurd hi (Nat.not_lt_zero _), fun i hi => absurd hi (Nat.not_lt_zero _), fun i hi => absurd hi (Nat.not_lt_zero _)⟩
  · have each : ∀ i, i < len → ∃ q : Int × Int × Value × SL, W.cell? (a.add (i * 3)) = some (.int .i64 q.1) ∧ W.cell? (a.add (i * 3 + 1)) = some (.int .i64 q.2.1) ∧ W.cell? (a.add (i * 3 + 2)) = some q.2.2.1 ∧
        StmtsAt W.heap.size W (n + 1) q.2.2.1 q.2.2.2 ∧ kindsFit (n + 1) q.2.2.2 ∧ size (n + 1) q.2.2.2 ≤ Rows.uptoBulk x.1 := by
      intro i hlt
      obtain ⟨cs, y, h1, h2, h3⟩ := hi i hlt
      rw [cells54] at h1
      obtain ⟨_, hlen, hcell⟩ := World.cells?_some h1
      obtain ⟨xs, k, rfl, hxy, _, hxl, hf⟩ := DataW.trod_struct Tryd.underlying35 h2
      obtain ⟨y0, y1, y2, rfl⟩ := len3 (l := xs) hxl
      obtain ⟨v0, v1, v2, rfl⟩ := len3 hlen
      have g0 := hf 0 _ rfl
      have g1 := hf 1 _ rfl
      have g2 := hf 2 _ rfl
      simp [cells3, cells52] at g0 g1 g2
      have e0 := hcell 0 (by omega)
      have e1 := hcell 1 (by omega)
      have e2 := hcell 2 (by omega)
      obtain ⟨z0, q0, _, w0⟩ := DataW.trod_int Tryd.underlying3 g0
      obtain ⟨z1, q1, _, _⟩ := DataW.trod_int Tryd.underlying3 g1
      simp at q0 q1
      subst q0 q1
      obtain ⟨T, sT, kT', bT⟩ := stmts_of_trod k v2 y2 g2
      rw [add_add] at e0 e1 e2
      refine ⟨(z0, z1, v2, T), by simpa using e0, by simpa using e1, by simpa using e2, sT.deeper.deeper, kindsFit_succ sT.deeper.proper (kindsFit_succ sT.proper kT'), ?_⟩
      show size (k + 1 + 1) T ≤ _
      rw [size_succ' sT.deeper.proper, size_succ' sT.proper, hx]
      have hp := bulk_part h3
      rw [hxy] at hp
      simp only [List.map_cons, List.map_nil, Rows.uptoBulk, Rows.uptoBulkAll] at hp ⊢
      omega
    haveI : Inhabited Nd := ⟨⟨0, 0, 0, fun _ => 0, fun _ => 0, 0, fun _ => 0, fun _ => 0⟩⟩
    haveI : Inhabited Value := ⟨.bool false⟩
    obtain ⟨q, hq⟩ := choose_lt each
    refine ⟨len, fun i => (q i).1, fun i => (q i).2.1, fun i => (q i).2.2.1, fun i => (q i).2.2.2, ⟨some a, cap, rfl, hl, ?_⟩, fun i hlt => (hq i hlt).2.2.2.1, fun i hlt => (hq i hlt).2.2.2.2.1, fun i hlt => (hq i hlt).2.2.2.2.2⟩
    by_cases h0 : len = 0
    · exact Or.inl h0
    · right
      have c0 := (hq 0 (by omega)).1
      have hp := plain_at (v := .int .i64 (q 0).1) (by simpa using c0)
      refine ⟨a.block, a.off, by rw [hp], ?_, fun i hlt => ?_⟩
      · have := cell_lt c0
        simpa [Addr.add] using this
      · obtain ⟨c0, c1, c2, s, _⟩ := hq i hlt
        rw [hp, add_plain] at c0 c1 c2
        obtain ⟨b, c, e, _⟩ := s.shape
        exact ⟨c0, c1, c2, b, _, c, e⟩

theorem StmtsAt.le {N : Nat} {w : World} {d e : Nat} {v : Value} {T : SL} (h : StmtsAt N w d v T) (hd : d ≤ e) : StmtsAt N w e v T := by
  induction e with
  | zero =>
    obtain rfl : d = 0 := by omega
    exact h
  | succ e ih =>
    by_cases c : d = e + 1
    · subst c; exact h
    · exact (ih (by omega)).deeper

theorem kindsFit_le {d e : Nat} {T : SL} (hp : proper d T) (h : kindsFit d T) (hd : d ≤ e) : kindsFit e T := by
  induction e with
  | zero =>
    obtain rfl : d = 0 := by omega
    exact h
  | succ e ih =>
    by_cases c : d = e + 1
    · subst c; exact h
    · exact kindsFit_succ (proper_le hp (by omega)) (ih (by omega))

theorem size_le_same {d e : Nat} {T : SL} (hp : proper d T) (hd : d ≤ e) : size e T = size d T := by
  induction e with
  | zero =>
    obtain rfl : d = 0 := by omega
    rfl
  | succ e ih =>
    by_cases c : d = e + 1
    · subst c; rfl
    · rw [size_succ' (proper_le hp (by omega)), ih (by omega)]

end
end Go.Proofs.YtomfkfhipemlcabDoor
