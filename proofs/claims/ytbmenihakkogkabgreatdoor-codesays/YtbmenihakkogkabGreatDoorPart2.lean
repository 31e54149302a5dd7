/- What the program's tokens, statements and functions are in memory, and that they stay so while blocks are only added. Rows of the call's own: the last of them, a row without it, another in its place; guarded operations; slices.Max. When programs are alike: the plain reckoning; and that a list of pairs still to be held against each other comes to the same. The words of a program, and how a row of words is read as one: the plain reckoning. No Go in it. Numerals and tokens: what is written is read. No Go in it. -/
import Derived.Test.YtbmenihakkogkabGreatDoorPart1
import Derived.Deep.Light
import Derived.Maps.OwnSet
import Derived.Maps.AppendAt
import Derived.Lib.SliceRun
import Derived.Lib.ItoaNum
import Derived.Lib.AtoiAll
import Derived.Lib.Join
import Derived.Lib.Split
import Derived.RowKit
namespace Go.Proofs.YtbmenihakkogkabGreatDoor
open Go.ChangeShapes Go.WideShapes Go.ChangeAt Go.RowKit

/-- 'v' is a slice of 'n' tokens, below block N; token i is 'k i', 'z i'. -/
def ToksAt (N : Nat) (w : World) (v : Value) (n : Nat) (k z : Nat → Int) : Prop :=
  ∃ a cap, v = .slice a n cap ∧ n ≤ 9223372036854775807 ∧ (n = 0 ∨ ∃ b o, a = some ⟨b, o, none⟩ ∧ b < N ∧ ∀ i, i < n → w.cell? ⟨b, o + i * 2, none⟩ = some (.int .i64 (k i)) ∧ w.cell? ⟨b, o + i * 2 + 1, none⟩ = some (.int .i64 (z i)))

/-- 'v' is a slice of 'n' functions, below block N; 'bv i' is the slice of the statements of number i. -/
def FunsAt (N : Nat) (w : World) (v : Value) (n : Nat) (par loc : Nat → Int) (bv : Nat → Value) : Prop :=
  ∃ a cap, v = .slice a n cap ∧ n ≤ 9223372036854775807 ∧ (n = 0 ∨ ∃ b o, a = some ⟨b, o, none⟩ ∧ b < N ∧ ∀ i, i < n → w.cell? ⟨b, o + i * 3, none⟩ = some (.int .i64 (par i)) ∧ w.cell? ⟨b, o + i * 3 + 1, none⟩ = some (.int .i64 (loc i)) ∧ w.cell? ⟨b, o + i * 3 + 2, none⟩ = some (bv i) ∧ ∃ x m c, bv i = .slice x m c)

/-- 'v' is a slice of the statements T, with all in them, below block N. -/
def StmtsAt (N : Nat) (w : World) : Nat → Value → SL → Prop
  | 0, v, T => T.len = 0 ∧ ∃ a cap, v = .slice a 0 cap
  | d + 1, v, T => ∃ a cap, v = .slice a T.len cap ∧ T.len ≤ 9223372036854775807 ∧ (T.len = 0 ∨ ∃ b o, a = some ⟨b, o, none⟩ ∧ b < N ∧ ∀ i, i < T.len →
      ∃ ve vf va vb, w.cell? ⟨b, o + i * 6, none⟩ = some (.int .i64 (T.nd i).kind) ∧ w.cell? ⟨b, o + i * 6 + 1, none⟩ = some (.int .i64 (T.nd i).num) ∧ w.cell? ⟨b, o + i * 6 + 2, none⟩ = some ve ∧ w.cell? ⟨b, o + i * 6 + 3, none⟩ = some vf ∧
        w.cell? ⟨b, o + i * 6 + 4, none⟩ = some va ∧ w.cell? ⟨b, o + i * 6 + 5, none⟩ = some vb ∧
        ToksAt N w ve (T.nd i).ne (T.nd i).ek (T.nd i).ez ∧ ToksAt N w vf (T.nd i).nf (T.nd i).fk (T.nd i).fz ∧ StmtsAt N w d va (T.sub i false) ∧ StmtsAt N w d vb (T.sub i true))

theorem ToksAt.below {N : Nat} {w w' : World} {v : Value} {n : Nat} {k z : Nat → Int} (h : ToksAt N w v n k z) (hb : Below N w w') : ToksAt N w' v n k z := by
  obtain ⟨a, cap, rfl, hn, h | ⟨b, o, rfl, hlt, hc⟩⟩ := h
  · exact ⟨a, cap, rfl, hn, Or.inl h⟩
  · exact ⟨_, cap, rfl, hn, Or.inr ⟨b, o, rfl, hlt, fun i hi => by rw [hb.cell hlt, hb.cell hlt]; exact hc i hi⟩⟩

theorem FunsAt.below {N : Nat} {w w' : World} {v : Value} {n : Nat} {p l : Nat → Int} {bv : Nat → Value} (h : FunsAt N w v n p l bv) (hb : Below N w w') : FunsAt N w' v n p l bv := by
  obtain ⟨a, cap, rfl, hn, h | ⟨b, o, rfl, hlt, hc⟩⟩ := h
  · exact ⟨a, cap, rfl, hn, Or.inl h⟩
  · exact ⟨_, cap, rfl, hn, Or.inr ⟨b, o, rfl, hlt, fun i hi => by rw [hb.cell hlt, hb.cell hlt, hb.cell hlt]; exact hc i hi⟩⟩

theorem StmtsAt.below {N : Nat} {w w' : World} (hb : Below N w w') : ∀ {d : Nat} {v : Value} {T : SL}, StmtsAt N w d v T → StmtsAt N w' d v T
  | 0, _, _, h => h
  | d + 1, v, T, h => by
    obtain ⟨a, cap, rfl, hn, h | ⟨b, o, rfl, hlt, hc⟩⟩ := h
    · exact ⟨a, cap, rfl, hn, Or.inl h⟩
    · refine ⟨_, cap, rfl, hn, Or.inr ⟨b, o, rfl, hlt, fun i hi => ?_⟩⟩
      obtain ⟨ve, vf, va, vb, c0, c1, c2, c3, c4, c5, t1, t2, s1, s2⟩ := hc i hi
      exact ⟨ve, vf, va, vb, by rw [hb.cell hlt]; exact c0, by rw [hb.cell hlt]; exact c1, by rw [hb.cell hlt]; exact c2, by rw [hb.cell hlt]; exact c3, by rw [hb.cell hlt]; exact c4, by rw [hb.cell hlt]; exact c5,
        t1.below hb, t2.below hb, s1.below hb, s2.below hb⟩

theorem ToksAt.up {N M : Nat} {w : World} {v : Value} {n : Nat} {k z : Nat → Int} (h : ToksAt N w v n k z) (hm : N ≤ M) : ToksAt M w v n k z := by
  obtain ⟨a, cap, rfl, hn, h | ⟨b, o, rfl, hlt, hc⟩⟩ := h
  · exact ⟨a, cap, rfl, hn, Or.inl h⟩
  · exact ⟨_, cap, rfl, hn, Or.inr ⟨b, o, rfl, by omega, hc⟩⟩

theorem FunsAt.up {N M : Nat} {w : World} {v : Value} {n : Nat} {p l : Nat → Int} {bv : Nat → Value} (h : FunsAt N w v n p l bv) (hm : N ≤ M) : FunsAt M w v n p l bv := by
  obtain ⟨a, cap, rfl, hn, h | ⟨b, o, rfl, hlt, hc⟩⟩ := h
  · exact ⟨a, cap, rfl, hn, Or.inl h⟩
  · exact ⟨_, cap, rfl, hn, Or.inr ⟨b, o, rfl, by omega, hc⟩⟩

theorem StmtsAt.up {N M : Nat} {w : World} (hm : N ≤ M) : ∀ {d : Nat} {v : Value} {T : SL}, StmtsAt N w d v T → StmtsAt M w d v T
  | 0, _, _, h => h
  | d + 1, v, T, h => by
    obtain ⟨a, cap, rfl, hn, h | ⟨b, o, rfl, hlt, hc⟩⟩ := h
    · exact ⟨a, cap, rfl, hn, Or.inl h⟩
    · refine ⟨_, cap, rfl, hn, Or.inr ⟨b, o, rfl, by omega, fun i hi => ?_⟩⟩
      obtain ⟨ve, vf, va, vb, c0, c1, c2, c3, c4, c5, t1, t2, s1, s2⟩ := hc i hi
      exact ⟨ve, vf, va, vb, c0, c1, c2, c3, c4, c5, t1.up hm, t2.up hm, s1.up hm, s2.up hm⟩

theorem StmtsAt.shape {N : Nat} {w : World} {d : Nat} {v : Value} {T : SL} (h : StmtsAt N w d v T) : ∃ a cap, v = .slice a T.len cap ∧ T.len ≤ 9223372036854775807 := by
  cases d with
  | zero => obtain ⟨e, a, cap, rfl⟩ := h; rw [e]; exact ⟨a, cap, rfl, by omega⟩
  | succ d => obtain ⟨a, cap, rfl, hn, _⟩ := h; exact ⟨a, cap, rfl, hn⟩

theorem ToksAt.shape {N : Nat} {w : World} {v : Value} {n : Nat} {k z : Nat → Int} (h : ToksAt N w v n k z) : ∃ a cap, v = .slice a n cap ∧ n ≤ 9223372036854775807 := by
  obtain ⟨a, cap, rfl, hn, _⟩ := h; exact ⟨a, cap, rfl, hn⟩

theorem FunsAt.shape {N : Nat} {w : World} {v : Value} {n : Nat} {p l : Nat → Int} {bv : Nat → Value} (h : FunsAt N w v n p l bv) : ∃ a cap, v = .slice a n cap ∧ n ≤ 9223372036854775807 := by
  obtain ⟨a, cap, rfl, hn, _⟩ := h; exact ⟨a, cap, rfl, hn⟩

/-- Where nothing is deeper than so, the depth may be counted so. -/
theorem StmtsAt.trim {N : Nat} {w : World} : ∀ {d : Nat} {v : Value} {T : SL} {left : Nat}, fits d T left → StmtsAt N w d v T → StmtsAt N w left v T
  | 0, v, T, left, _, h => by
    cases left with
    | zero => exact h
    | succ l => obtain ⟨e, a, cap, rfl⟩ := h; exact ⟨a, cap, by rw [e], by omega, Or.inl e⟩
  | d + 1, v, T, left, hf, h => by
    obtain ⟨a, cap, rfl, hn, hc⟩ := h
    by_cases e : T.len = 0
    · cases left with
      | zero => exact ⟨e, a, cap, by rw [e]⟩
      | succ l => exact ⟨a, cap, rfl, hn, Or.inl e⟩
    · rcases hf with hf | ⟨h0, hf⟩
      · exact absurd hf e
      rcases hc with hc | ⟨b, o, rfl, hlt, hc⟩
      · exact absurd hc e
      cases left with
      | zero => omega
      | succ l =>
        refine ⟨_, cap, rfl, hn, Or.inr ⟨b, o, rfl, hlt, fun i hi => ?_⟩⟩
        obtain ⟨ve, vf, va, vb, c0, c1, c2, c3, c4, c5, t1, t2, s1, s2⟩ := hc i hi
        exact ⟨ve, vf, va, vb, c0, c1, c2, c3, c4, c5, t1, t2, StmtsAt.trim (hf i hi).1 s1, StmtsAt.trim (hf i hi).2 s2⟩

theorem ret_num {a b : Int} (h : a = b) : Ending.returned (.int .i64 a) = .returned (.int .i64 b) := by rw [h]

theorem below_up {N : Nat} {a b c : World} (h : Below N a b) (k : Below b.heap.size b c) (hn : N ≤ a.heap.size) : Below N a c := h.trans (k.mono (Nat.le_trans hn h.size))

/-- What was boxed reads as it did. -/
theorem box_at {w w1 : World} {cs : Array Value} {t : TypeId} {M : Nat} (hb : Below M (w.alloc (.cells cs t)) w1) (hM : w.heap.size < M) (i : Nat) {c : Value} (h : cs[i]? = some c) : w1.cell? ⟨w.heap.size, i, none⟩ = some c := by
  rw [hb.cell (p := ⟨w.heap.size, i, none⟩) hM, World.cell?_alloc_new]
  exact h

theorem box_in {w w1 : World} {cs : Array Value} {t : TypeId} (hb : Below (w.alloc (.cells cs t)).heap.size (w.alloc (.cells cs t)) w1) (i : Nat) {c : Value} (h : cs[i]? = some c) : w1.cell? ⟨w.heap.size, i, none⟩ = some c :=
  box_at hb (by simp) i h

end Go.Proofs.YtbmenihakkogkabGreatDoor

namespace Go.Proofs.YtbmenihakkogkabGreatDoor
open Go.RowKit Go.Maps

/-- An operation whose guard lets it go is done as if it had none. -/
theorem wpList_wanted {P : Program} {ops : Array Oper} {Q : Exit → Act → World → Prop} {a : Act} {w : World} {rest : List Oper} {o : Oper} (hw : Region.wanted o (yielded ops a.tmps) = true)
    (h : wpList P ops Q ({ o with guard := none } :: rest) a w) : wpList P ops Q (o :: rest) a w := by
  unfold wpList at h ⊢
  rw [if_pos (by simp [Region.wanted])] at h
  rw [if_pos hw]
  exact h

theorem own_shape {w : World} {base : Nat} {e : TypeId} {size : Nat} {v : Value} {n : Nat} {xs : List Value} (h : w.ownsRow base e size v n xs) : ∃ a cap, v = .slice a n cap := by
  rcases h.2 with ⟨rfl, rfl⟩ | ⟨g, cap, cur, rfl, _⟩
  · exact ⟨none, 0, rfl⟩
  · exact ⟨_, cap, rfl⟩

theorem own_block {w : World} {base : Nat} {e : TypeId} {size : Nat} {v : Value} {n : Nat} {xs : List Value} (h : w.ownsRow base e size v (n + 1) xs) : ∃ g cap, v = .slice (some ⟨g, 0, none⟩) (n + 1) cap ∧ base ≤ g ∧ g < w.heap.size ∧ n + 1 ≤ cap ∧ cap ≤ maxLen := by
  rcases h.2 with ⟨rfl, h0⟩ | ⟨g, cap, cur, rfl, hb, hh, hn, hm, _⟩
  · cases h0
  · exact ⟨g, cap, rfl, hb, (h.lt g rfl).2, hn, hm⟩

/-- The first m of a slice. -/
theorem slice_to {t e : TypeId} {k : Nat} (u : Tryz.prog.underlying t = some (.slice e)) (hz : ∀ w, (sizeOf e).run Tryz.prog w = .ok k w) (g : Addr) (n c m : Nat) (x : Int) (hx : x = m) (hm : m ≤ c) (w : World) : (Instr.slice t (.slice (some g) n c) none (some (.int .i64 x)) none).run Tryz.prog w = .ok (.slice (some g) m c) w := by
  subst hx
  simp [Instr.slice, Instr.sliceBounds, Instr.sliceBound, asIntOf, run_underlying u, go_sem]
  rw [if_pos hm, hz]
  rfl

end Go.Proofs.YtbmenihakkogkabGreatDoor

namespace Go.Proofs.YtbmenihakkogkabGreatDoor

def allTo : Nat → (Nat → Bool) → Bool
  | 0, _ => true
  | n + 1, f => allTo n f && f n

theorem allTo_iff {f : Nat → Bool} : ∀ {n : Nat}, allTo n f = true ↔ ∀ i, i < n → f i = true
  | 0 => ⟨fun _ i hi => absurd hi (Nat.not_lt_zero _), fun _ => rfl⟩
  | n + 1 => by
    simp only [allTo, Bool.and_eq_true, allTo_iff (n := n)]
    constructor
    · rintro ⟨h1, h2⟩ i hi
      by_cases e : i = n
      · subst e; exact h2
      · exact h1 i (by omega)
    · intro h; exact ⟨fun i hi => h i (by omega), h n (by omega)⟩

theorem allTo_congr {f g : Nat → Bool} : ∀ {n : Nat}, (∀ i, i < n → f i = g i) → allTo n f = allTo n g
  | 0, _ => rfl
  | n + 1, h => by simp only [allTo]; rw [allTo_congr (n := n) fun i hi => h i (by omega), h n (by omega)]

theorem allTo_no {f : Nat → Bool} {n i : Nat} (hi : i < n) (h : f i = false) : allTo n f = false := by
  rw [Bool.eq_false_iff]; intro e; rw [allTo_iff.1 e i hi] at h; cases h

/-- Two rows of tokens are alike. -/
def eqV (n1 n2 : Nat) (k1 z1 k2 z2 : Nat → Int) : Bool := decide (n1 = n2 ∧ ∀ i, i < n1 → k1 i = k2 i ∧ z1 i = z2 i)
theorem eqV_iff {n1 n2 : Nat} {k1 z1 k2 z2 : Nat → Int} : eqV n1 n2 k1 z1 k2 z2 = true ↔ n1 = n2 ∧ ∀ i, i < n1 → k1 i = k2 i ∧ z1 i = z2 i := by
  unfold eqV; exact decide_eq_true_iff
theorem eqV_yes {n : Nat} {k1 z1 k2 z2 : Nat → Int} (h : ∀ i, i < n → k1 i = k2 i ∧ z1 i = z2 i) : eqV n n k1 z1 k2 z2 = true := eqV_iff.2 ⟨rfl, h⟩
theorem eqV_no {n1 n2 : Nat} {k1 z1 k2 z2 : Nat → Int} {k : Nat} (hk : k < n1) (h : ¬ (k1 k = k2 k ∧ z1 k = z2 k)) : eqV n1 n2 k1 z1 k2 z2 = false := by
  rw [Bool.eq_false_iff]; intro e; exact h ((eqV_iff.1 e).2 k hk)
theorem eqV_len {n1 n2 : Nat} {k1 z1 k2 z2 : Nat → Int} (h : ¬ n1 = n2) : eqV n1 n2 k1 z1 k2 z2 = false := by
  rw [Bool.eq_false_iff]; intro e; exact h (eqV_iff.1 e).1

/-- Two statements are alike, but for those in them. -/
def eqH (s t : Nd) : Bool := decide (s.kind = t.kind) && decide (s.num = t.num) && eqV s.ne t.ne s.ek s.ez t.ek t.ez && eqV s.nf t.nf s.fk s.fz t.fk t.fz

/-- One statement against another, with all in them. -/
def eqI (E : SL → SL → Bool) (T U : SL) (i : Nat) : Bool := eqH (T.nd i) (U.nd i) && (E (T.sub i false) (U.sub i false) && E (T.sub i true) (U.sub i true))

/-- Two lists of statements are alike. -/
def eqS : Nat → SL → SL → Bool
  | 0, _, _ => true
  | d + 1, T, U => decide (T.len = U.len) && allTo T.len (eqI (eqS d) T U)

theorem eqS_len {d : Nat} {T U : SL} (h : ¬ T.len = U.len) : eqS (d + 1) T U = false := by
  simp [eqS, h]
theorem eqS_all {d : Nat} {T U : SL} (h : T.len = U.len) : eqS (d + 1) T U = allTo T.len (eqI (eqS d) T U) := by
  simp [eqS, h]

/-- There is nothing deeper than so. -/
def proper : Nat → SL → Prop
  | 0, T => T.len = 0
  | d + 1, T => ∀ i, i < T.len → proper d (T.sub i false) ∧ proper d (T.sub i true)

theorem proper_succ : ∀ {d : Nat} {T : SL}, proper d T → proper (d + 1) T
  | 0, T, h => fun i hi => by have : T.len = 0 := h; omega
  | d + 1, T, h => fun i hi => ⟨proper_succ (h i hi).1, proper_succ (h i hi).2⟩

theorem proper_le {d e : Nat} {T : SL} (h : proper d T) (hd : d ≤ e) : proper e T := by
  induction e with
  | zero => obtain rfl : d = 0 := by omega
            exact h
  | succ e ih =>
    by_cases c : d = e + 1
    · subst c; exact h
    · exact proper_succ (ih (by omega))

theorem eqS_succ : ∀ {d : Nat} {T U : SL}, proper d T → proper d U → eqS (d + 1) T U = eqS d T U
  | 0, T, U, h, k => by
    have h' : T.len = 0 := h
    have k' : U.len = 0 := k
    rw [eqS_all (by omega), h']; rfl
  | d + 1, T, U, h, k => by
    by_cases c : T.len = U.len
    · rw [eqS_all c, eqS_all c]
      refine allTo_congr fun i hi => ?_
      unfold eqI
      rw [eqS_succ (h i hi).1 (k i (by omega)).1, eqS_succ (h i hi).2 (k i (by omega)).2]
    · rw [eqS_len c, eqS_len c]

theorem size_succ' : ∀ {d : Nat} {T : SL}, proper d T → size (d + 1) T = size d T
  | 0, T, h => by
    have h' : T.len = 0 := h
    simp only [size]; rw [h']; rfl
  | d + 1, T, h => by
    show sumTo T.len (fun i => 1 + size (d + 1) (T.sub i false) + size (d + 1) (T.sub i true)) = sumTo T.len (fun i => 1 + size d (T.sub i false) + size d (T.sub i true))
    exact sumTo_congr fun i hi => by rw [size_succ' (h i hi).1, size_succ' (h i hi).2]

/-- Two functions are alike. -/
def eqF (d : Nat) (p1 l1 p2 l2 : Int) (T U : SL) : Bool := decide (p1 = p2) && decide (l1 = l2) && eqS d T U

/-- Two programs are alike. -/
def eqP (d n1 n2 : Nat) (p1 l1 p2 l2 : Nat → Int) (B C : Nat → SL) : Bool := decide (n1 = n2) && allTo n1 (fun i => eqF d (p1 i) (l1 i) (p2 i) (l2 i) (B i) (C i))
theorem eqP_len {d n1 n2 : Nat} {p1 l1 p2 l2 : Nat → Int} {B C : Nat → SL} (h : ¬ n1 = n2) : eqP d n1 n2 p1 l1 p2 l2 B C = false := by simp [eqP, h]
theorem eqP_yes {d n : Nat} {p1 l1 p2 l2 : Nat → Int} {B C : Nat → SL} (h : ∀ i, i < n → eqF d (p1 i) (l1 i) (p2 i) (l2 i) (B i) (C i) = true) : eqP d n n p1 l1 p2 l2 B C = true := by
  simp only [eqP, decide_true, Bool.true_and]; exact allTo_iff.2 h
theorem eqP_no {d n1 n2 : Nat} {p1 l1 p2 l2 : Nat → Int} {B C : Nat → SL} {i : Nat} (hi : i < n1) (h : eqF d (p1 i) (l1 i) (p2 i) (l2 i) (B i) (C i) = false) : eqP d n1 n2 p1 l1 p2 l2 B C = false := by
  unfold eqP; rw [allTo_no hi h, Bool.and_false]

end Go.Proofs.YtbmenihakkogkabGreatDoor

namespace Go.Proofs.YtbmenihakkogkabGreatDoor
open Go.RowKit

/-- A word. -/
abbrev Wd := ByteArray
def bs (l : List UInt8) : Wd := ⟨l.toArray⟩
theorem bs_data (l : List UInt8) : (bs l).data.toList = l := rfl
theorem bs_inj {l m : List UInt8} (h : bs l = bs m) : l = m := by
  have := congrArg (fun x : ByteArray => x.data.toList) h
  exact this
theorem bs_of (w : Wd) : bs w.data.toList = w := rfl

/-- What a statement begins with, by its kind. -/
def stL : Nat → List UInt8
  | 1 => [115, 101, 116]
  | 2 => [112, 117, 116]
  | 3 => [115, 97, 121]
  | 4 => [112, 97, 117, 115, 101]
  | 5 => [103, 111]
  | 6 => [105, 102]
  | 7 => [119, 104, 105, 108, 101]
  | 8 => [114, 101, 116, 117, 114, 110]
  | _ => []

/-- The operations. -/
def opL : Nat → List UInt8
  | 1 => [43]
  | 2 => [45]
  | 3 => [42]
  | 4 => [60]
  | 5 => [61]
  | _ => []

/-- What stands ahead of a token's number, by its kind. -/
def mkL : Nat → List UInt8
  | 2 => [118]
  | 4 => [46]
  | 5 => [110, 101, 119]
  | 6 => [102]
  | _ => []

def obW : Wd := bs [123]
def cbW : Wd := bs [125]
def funW : Wd := bs [102, 117, 110]

/-- The word of a number. -/
def numW (n : Int) : Wd := bs (Lib.itoa n)

/-- The word of a token. -/
def tokW (k z : Int) : Wd := if k = 3 then bs (opL z.toNat) else bs (mkL k.toNat ++ Lib.itoa z)

def toksW (k z : Nat → Int) : Nat → List Wd
  | 0 => []
  | n + 1 => toksW k z n ++ [tokW (k n) (z n)]

def catTo (f : Nat → List Wd) : Nat → List Wd
  | 0 => []
  | n + 1 => catTo f n ++ f n

/-- A statement's words. -/
def stmtW (B : SL → List Wd) (s : Nd) (a b : SL) : List Wd :=
  ((((bs (stL s.kind.toNat) :: (if s.kind = 1 ∨ s.kind = 2 then [numW s.num] else [])) ++ toksW s.ek s.ez s.ne) ++ toksW s.fk s.fz s.nf) ++ (if s.kind = 6 ∨ s.kind = 7 then B a else [])) ++ (if s.kind = 6 then B b else [])

/-- The words of statements between braces. -/
def blkW : Nat → SL → List Wd
  | 0, _ => [obW, cbW]
  | d + 1, T => (obW :: catTo (fun i => stmtW (blkW d) (T.nd i) (T.sub i false) (T.sub i true)) T.len) ++ [cbW]

def funWs (d : Nat) (p l : Int) (T : SL) : List Wd := [funW, numW p, numW l] ++ blkW d T

/-- The words of a program. -/
def progW (nf : Nat) (par loc : Nat → Int) (d : Nat) (body : Nat → SL) : List Wd := catTo (fun i => funWs d (par i) (loc i) (body i)) nf

/-- Its text. -/
def textL (ws : List Wd) : List UInt8 := Lib.join (ws.map (·.data.toList)) [32]

/-- The number that strconv.Atoi hands back. -/
def atoiV (l : List UInt8) : Int := match Lib.atoiAll l with
  | .ok v => v
  | .«syntax» => 0
  | .range => Lib.atoiSat l

/-- The next word, and the words behind it. -/
def hdW (ws : List Wd) : Wd := ws.headD (bs [])
def numR (ws : List Wd) : Int := atoiV (hdW ws).data.toList

/-- The kind of statements that begin with a word; 0: none does. -/
def kindOf (w : Wd) : Nat := ((List.range 9).find? fun k => decide (bs (stL k) = w)).getD 0

def opOf (w : Wd) : Option Nat := (List.range 6).find? fun k => decide (bs (opL k) = w)
def hasMark (w : Wd) (k : Nat) : Bool := !(mkL k).isEmpty && (mkL k).isPrefixOf w.data.toList
def markTo (w : Wd) : Nat → Nat
  | 0 => 1
  | n + 1 => if hasMark w n then n else markTo w n
/-- The token of a word. -/
def tokOf (w : Wd) : Int × Int := match opOf w with
  | some n => (3, (n : Int))
  | none => ((markTo w 7 : Int), atoiV (w.data.toList.drop (mkL (markTo w 7)).length))

/-- How many expressions a token asks for. -/
def asksR (nf : Nat) (par : Nat → Int) (t : Int × Int) : Int :=
  if t.1 = 4 then 1 else if t.1 = 3 then 2 else if t.1 = 6 ∧ 0 ≤ t.2 ∧ t.2 < nf then par t.2.toNat else 0

/-- The tokens of an expression, where so many are asked for still; and the words behind. -/
def exprR (nf : Nat) (par : Nat → Int) : Int → List Wd → List (Int × Int) × List Wd
  | _, [] => ([], [])
  | q, w :: ws => if 0 < q then
      (tokOf w :: (exprR nf par (wrap64 (wrap64 (q + asksR nf par (tokOf w)) - 1)) ws).1, (exprR nf par (wrap64 (wrap64 (q + asksR nf par (tokOf w)) - 1)) ws).2)
    else ([], w :: ws)

/-- A statement, with all in it. -/
structure It where
  nd : Nd
  a : SL
  b : SL

def noSL : SL := fun _ => (0, fun _ => ⟨0, 0, 0, fun _ => 0, fun _ => 0, 0, fun _ => 0, fun _ => 0⟩)
def noIt : It := ⟨⟨0, 0, 0, fun _ => 0, fun _ => 0, 0, fun _ => 0, fun _ => 0⟩, noSL, noSL⟩

/-- A list of statements, of its items. -/
def mkT (l : List It) : SL := fun p => match p with
  | [] => (l.length, fun i => (l.getD i noIt).nd)
  | (i, false) :: q => (l.getD i noIt).a q
  | (i, true) :: q => (l.getD i noIt).b q

theorem mkT_len (l : List It) : (mkT l).len = l.length := rfl
theorem mkT_nd (l : List It) (i : Nat) : (mkT l).nd i = (l.getD i noIt).nd := rfl
theorem mkT_a (l : List It) (i : Nat) : (mkT l).sub i false = (l.getD i noIt).a := rfl
theorem mkT_b (l : List It) (i : Nat) : (mkT l).sub i true = (l.getD i noIt).b := rfl

def mkNd (k n : Int) (e f : List (Int × Int)) : Nd := ⟨k, n, e.length, fun i => (e.getD i (0, 0)).1, fun i => (e.getD i (0, 0)).2, f.length, fun i => (f.getD i (0, 0)).1, fun i => (f.getD i (0, 0)).2⟩

def hasN (k : Nat) : Bool := k == 1 || k == 2
def hasA (k : Nat) : Bool := k == 6 || k == 7

/-- The words behind a statement's parts. -/
def st1 (k : Nat) (ws : List Wd) : List Wd := if hasN k then ws.tail else ws
def st2 (nf : Nat) (par : Nat → Int) (k : Nat) (ws : List Wd) : List (Int × Int) × List Wd := if k = 4 then ([], st1 k ws) else exprR nf par 1 (st1 k ws)
def st3 (nf : Nat) (par : Nat → Int) (k : Nat) (ws : List Wd) : List (Int × Int) × List Wd := if k = 2 then exprR nf par 1 (st2 nf par k ws).2 else ([], (st2 nf par k ws).2)
def st4 (nf : Nat) (par : Nat → Int) (B : List Wd → SL × List Wd) (k : Nat) (ws : List Wd) : SL × List Wd := if hasA k then B (st3 nf par k ws).2 else (noSL, (st3 nf par k ws).2)
def st5 (nf : Nat) (par : Nat → Int) (B : List Wd → SL × List Wd) (k : Nat) (ws : List Wd) : SL × List Wd := if k = 6 then B (st4 nf par B k ws).2 else (noSL, (st4 nf par B k ws).2)
/-- A statement read. -/
def stR (nf : Nat) (par : Nat → Int) (B : List Wd → SL × List Wd) (k : Nat) (ws : List Wd) : It :=
  ⟨mkNd k (if hasN k then numR ws else 0) (st2 nf par k ws).1 (st3 nf par k ws).1, (st4 nf par B k ws).1, (st5 nf par B k ws).1⟩

/-- Statements read, up to what begins none. -/
def loopR (nf : Nat) (par : Nat → Int) : Nat → List Wd → List It × List Wd
  | 0, ws => ([], ws)
  | u + 1, ws => if kindOf (hdW ws) = 0 then ([], ws.tail) else
      (stR nf par (fun ws => (mkT (loopR nf par u ws.tail).1, (loopR nf par u ws.tail).2)) (kindOf (hdW ws)) ws.tail ::
        (loopR nf par u (st5 nf par (fun ws => (mkT (loopR nf par u ws.tail).1, (loopR nf par u ws.tail).2)) (kindOf (hdW ws)) ws.tail).2).1,
       (loopR nf par u (st5 nf par (fun ws => (mkT (loopR nf par u ws.tail).1, (loopR nf par u ws.tail).2)) (kindOf (hdW ws)) ws.tail).2).2)

/-- Statements between braces read. -/
def blkR (nf : Nat) (par : Nat → Int) (u : Nat) (ws : List Wd) : SL × List Wd := (mkT (loopR nf par u ws.tail).1, (loopR nf par u ws.tail).2)

/-- The heads of the functions of words. -/
def headsR : List Wd → List (Int × Int)
  | [] => []
  | w :: ws => if w = funW then (numR ws, numR ws.tail) :: headsR ws else headsR ws

/-- The bodies of so many functions read, one by one: the words left behind j. -/
def leftR (nf : Nat) (par : Nat → Int) (u : Nat) (ws : List Wd) : Nat → List Wd
  | 0 => ws
  | j + 1 => (blkR nf par u (leftR nf par u ws j).tail.tail.tail).2
def bodyR (nf : Nat) (par : Nat → Int) (u : Nat) (ws : List Wd) (j : Nat) : SL := (blkR nf par u (leftR nf par u ws j).tail.tail.tail).1

def rdN (ws : List Wd) : Nat := (headsR ws).length
def rdP (ws : List Wd) (i : Nat) : Int := ((headsR ws).getD i (0, 0)).1
def rdL (ws : List Wd) (i : Nat) : Int := ((headsR ws).getD i (0, 0)).2
def rdB (ws : List Wd) (i : Nat) : SL := bodyR (rdN ws) (rdP ws) (ws.length + 1) ws i

end Go.Proofs.YtbmenihakkogkabGreatDoor

namespace Go.Proofs.YtbmenihakkogkabGreatDoor
open Go.RowKit

theorem dig_toNat (d : Nat) (h : d < 10) : (UInt8.ofNat (48 + d)).toNat = 48 + d := by
  simp only [UInt8.toNat_ofNat']; omega

theorem parse_snoc (c : UInt8) : ∀ (l : List UInt8) (acc v : Nat), Lib.parseUint10 acc l = .ok v → Lib.parseUint10 acc (l ++ [c]) = Lib.parseUint10 v [c]
  | [], acc, v, h => by simp only [Lib.parseUint10] at h; injection h with h; subst h; rfl
  | b :: l, acc, v, h => by
    simp only [Lib.parseUint10, List.cons_append] at h ⊢
    split at h
    · next h1 =>
      rw [if_pos h1]
      split at h
      · cases h
      · next h2 =>
        rw [if_neg h2]
        split at h
        · cases h
        · next h3 =>
          rw [if_neg h3]
          exact parse_snoc c l _ v h
    · cases h

theorem parse_digits (u : Nat) (hu : u < 18446744073709551616) : Lib.parseUint10 0 (Lib.decDigits u) = .ok u := by
  induction u using Nat.strongRecOn with
  | _ u ih =>
    by_cases h : u < 10
    · rw [Lib.decDigits_one h]
      simp only [Lib.parseUint10, dig_toNat u h]
      rw [if_pos (by omega), if_neg (by omega), if_neg (by omega)]
      congr 1; omega
    · rw [Lib.decDigits, dif_neg h, parse_snoc _ _ _ _ (ih (u / 10) (by omega) (by omega))]
      simp only [Lib.parseUint10, dig_toNat (u % 10) (by omega)]
      rw [if_pos (by omega), if_neg (by omega), if_neg (by omega)]
      congr 1; omega

/-- A numeral's bytes are digits, and there is one. -/
theorem digits_are (u : Nat) : Lib.decDigits u ≠ [] ∧ ∀ c ∈ Lib.decDigits u, 48 ≤ c.toNat ∧ c.toNat ≤ 57 := by
  induction u using Nat.strongRecOn with
  | _ u ih =>
    by_cases h : u < 10
    · rw [Lib.decDigits_one h]
      refine ⟨by simp, fun c hc => ?_⟩
      rw [List.mem_singleton] at hc
      subst hc
      rw [dig_toNat u h]; omega
    · rw [Lib.decDigits, dif_neg h]
      refine ⟨by simp, fun c hc => ?_⟩
      rcases List.mem_append.1 hc with hc | hc
      · exact (ih (u / 10) (by omega)).2 c hc
      · rw [List.mem_singleton] at hc
        subst hc
        rw [dig_toNat (u % 10) (by omega)]; omega

theorem itoa_bytes (z : Int) : ∃ c r, Lib.itoa z = c :: r ∧ (c.toNat = 45 ∧ r ≠ [] ∨ 48 ≤ c.toNat ∧ c.toNat ≤ 57) ∧ ∀ b ∈ r, 48 ≤ b.toNat ∧ b.toNat ≤ 57 := by
  unfold Lib.itoa
  split
  · obtain ⟨h1, h2⟩ := digits_are z.natAbs
    exact ⟨45, _, rfl, Or.inl ⟨rfl, h1⟩, h2⟩
  · obtain ⟨h1, h2⟩ := digits_are z.toNat
    cases h : Lib.decDigits z.toNat with
    | nil => exact absurd h h1
    | cons c r =>
      rw [h] at h2
      exact ⟨c, r, rfl, Or.inr (h2 c (by simp)), fun b hb => h2 b (by simp [hb])⟩

theorem atoi_itoa (z : Int) (h0 : -9223372036854775808 ≤ z) (h1 : z ≤ 9223372036854775807) : Lib.atoiAll (Lib.itoa z) = .ok z := by
  unfold Lib.itoa
  split
  · next hn =>
    obtain ⟨h2, _⟩ := digits_are z.natAbs
    have h3 : Lib.parseMag (Lib.decDigits z.natAbs) = .ok z.natAbs := by
      unfold Lib.parseMag
      rw [if_neg h2, parse_digits _ (by omega)]
    unfold Lib.atoiAll
    simp only [show (45 : UInt8).toNat = 45 from rfl, or_true, if_true, h3]
    rw [if_neg (by simp), if_neg (by omega)]
    have : -(z.natAbs : Int) = z := by omega
    rw [this]
  · next hn =>
    obtain ⟨h2, h4⟩ := digits_are z.toNat
    have h3 : Lib.parseMag (Lib.decDigits z.toNat) = .ok z.toNat := by
      unfold Lib.parseMag
      rw [if_neg h2, parse_digits _ (by omega)]
    cases h : Lib.decDigits z.toNat with
    | nil => exact absurd h h2
    | cons c r =>
      rw [h] at h3 h4
      have hc := h4 c (by simp)
      unfold Lib.atoiAll
      simp only []
      rw [if_neg (by omega), h3]
      simp only []
      rw [if_neg (by omega), if_neg (by omega), if_neg (by omega)]
      congr 1; omega

theorem atoiV_itoa {z : Int} (h0 : -9223372036854775808 ≤ z) (h1 : z ≤ 9223372036854775807) : atoiV (Lib.itoa z) = z := by
  unfold atoiV; rw [atoi_itoa z h0 h1]

theorem kindOf_st : ∀ k : Nat, 1 ≤ k → k ≤ 8 → kindOf (bs (stL k)) = k := by
  intro k h1 h2
  have : k = 1 ∨ k = 2 ∨ k = 3 ∨ k = 4 ∨ k = 5 ∨ k = 6 ∨ k = 7 ∨ k = 8 := by omega
  rcases this with rfl | rfl | rfl | rfl | rfl | rfl | rfl | rfl <;> decide

theorem kindOf_cb : kindOf cbW = 0 := by decide

/-- An operation's word is none of the others. -/
theorem opOf_none {l : List UInt8} {c : UInt8} {r : List UInt8} (h : l = c :: r) (hc : (c.toNat = 45 ∧ r ≠ []) ∨ (48 ≤ c.toNat ∧ c.toNat ≤ 57) ∨ c.toNat = 118 ∨ c.toNat = 46 ∨ c.toNat = 110 ∨ c.toNat = 102) : opOf (bs l) = none := by
  subst h
  unfold opOf
  rw [List.find?_eq_none]
  intro k hk
  rw [decide_eq_true_iff]
  intro e
  have e := bs_inj e
  have hk : k < 6 := List.mem_range.1 hk
  have : k = 0 ∨ k = 1 ∨ k = 2 ∨ k = 3 ∨ k = 4 ∨ k = 5 := by omega
  rcases this with rfl | rfl | rfl | rfl | rfl | rfl <;> simp only [opL] at e
  · cases e
  · injection e with e1 e2; subst e1; simp at hc
  · injection e with e1 e2; subst e1; subst e2; simp at hc
  · injection e with e1 e2; subst e1; simp at hc
  · injection e with e1 e2; subst e1; simp at hc
  · injection e with e1 e2; subst e1; simp at hc

theorem hasMark_eq (w : Wd) : hasMark w 0 = false ∧ hasMark w 1 = false ∧ hasMark w 3 = false ∧ hasMark w 2 = [(118 : UInt8)].isPrefixOf w.data.toList ∧ hasMark w 4 = [(46 : UInt8)].isPrefixOf w.data.toList ∧ hasMark w 5 = [(110 : UInt8), 101, 119].isPrefixOf w.data.toList ∧ hasMark w 6 = [(102 : UInt8)].isPrefixOf w.data.toList := ⟨rfl, rfl, rfl, rfl, rfl, rfl, rfl⟩

theorem tokOf_tokW {k z : Int} {nf : Nat} {locals : Int} (hl : locals ≤ 6) (hn : nf ≤ 1000) (h : tokErr k z nf locals = 0) : tokOf (tokW k z) = (k, z) := by
  have hz : -9223372036854775808 ≤ z ∧ z ≤ 9223372036854775807 := by
    unfold tokErr at h
    repeat' split at h
    all_goals first | omega | cases h
  have hk : k = 1 ∨ k = 2 ∨ k = 3 ∨ k = 4 ∨ k = 5 ∨ k = 6 := by
    unfold tokErr at h
    by_cases a1 : k = 1
    · omega
    by_cases a2 : k = 2
    · omega
    by_cases a3 : k = 3
    · omega
    by_cases a4 : k = 4
    · omega
    by_cases a5 : k = 5
    · omega
    by_cases a6 : k = 6
    · omega
    rw [if_neg a1, if_neg a2, if_neg a3, if_neg a4, if_neg a5, if_neg a6] at h
    cases h
  obtain ⟨c, r, e, hc, hr⟩ := itoa_bytes z
  have hat := atoiV_itoa hz.1 hz.2
  rcases hk with rfl | rfl | rfl | rfl | rfl | rfl
  · have e0 : tokW 1 z = bs (c :: r) := by unfold tokW; rw [if_neg (by decide), e]; rfl
    rw [e0]
    unfold tokOf
    rw [opOf_none rfl (hc.imp id fun h => Or.inl h)]
    have hm : markTo (bs (c :: r)) 7 = 1 := by
      obtain ⟨m0, m1, m3, m2, m4, m5, m6⟩ := hasMark_eq (bs (c :: r))
      have g2 : hasMark (bs (c :: r)) 2 = false := by
        rw [m2, bs_data]; simp only [List.isPrefixOf, Bool.and_true, beq_eq_false_iff_ne]; rintro rfl; simp at hc
      have g4 : hasMark (bs (c :: r)) 4 = false := by
        rw [m4, bs_data]; simp only [List.isPrefixOf, Bool.and_true, beq_eq_false_iff_ne]; rintro rfl; simp at hc
      have g5 : hasMark (bs (c :: r)) 5 = false := by
        rw [m5, bs_data]; simp only [List.isPrefixOf, Bool.and_eq_false_iff, beq_eq_false_iff_ne]; left; rintro rfl; simp at hc
      have g6 : hasMark (bs (c :: r)) 6 = false := by
        rw [m6, bs_data]; simp only [List.isPrefixOf, Bool.and_true, beq_eq_false_iff_ne]; rintro rfl; simp at hc
      simp [markTo, m0, m1, g2, m3, g4, g5, g6]
    simp only [hm]
    rw [bs_data, ← e]
    show ((1 : Int), atoiV (Lib.itoa z)) = _
    rw [hat]
  · have e0 : tokW 2 z = bs (118 :: Lib.itoa z) := rfl
    rw [e0]
    unfold tokOf
    rw [opOf_none rfl (by simp)]
    have hm : markTo (bs (118 :: Lib.itoa z)) 7 = 2 := by
      obtain ⟨m0, m1, m3, m2, m4, m5, m6⟩ := hasMark_eq (bs (118 :: Lib.itoa z))
      have g2 : hasMark (bs (118 :: Lib.itoa z)) 2 = true := by rw [m2, bs_data]; simp [List.isPrefixOf]
      have g4 : hasMark (bs (118 :: Lib.itoa z)) 4 = false := by rw [m4, bs_data]; simp [List.isPrefixOf]
      have g5 : hasMark (bs (118 :: Lib.itoa z)) 5 = false := by rw [m5, bs_data]; simp [List.isPrefixOf]
      have g6 : hasMark (bs (118 :: Lib.itoa z)) 6 = false := by rw [m6, bs_data]; simp [List.isPrefixOf]
      simp [markTo, g2, m3, g4, g5, g6]
    simp only [hm]
    show ((2 : Int), atoiV (Lib.itoa z)) = _
    rw [hat]
  · have hz5 : z = 1 ∨ z = 2 ∨ z = 3 ∨ z = 4 ∨ z = 5 := by
      unfold tokErr at h
      rw [if_neg (by decide), if_neg (by decide), if_pos rfl] at h
      split at h
      · cases h
      · omega
    rcases hz5 with rfl | rfl | rfl | rfl | rfl <;> decide
  · have e0 : tokW 4 z = bs (46 :: Lib.itoa z) := rfl
    rw [e0]
    unfold tokOf
    rw [opOf_none rfl (by simp)]
    have hm : markTo (bs (46 :: Lib.itoa z)) 7 = 4 := by
      obtain ⟨m0, m1, m3, m2, m4, m5, m6⟩ := hasMark_eq (bs (46 :: Lib.itoa z))
      have g4 : hasMark (bs (46 :: Lib.itoa z)) 4 = true := by rw [m4, bs_data]; simp [List.isPrefixOf]
      have g5 : hasMark (bs (46 :: Lib.itoa z)) 5 = false := by rw [m5, bs_data]; simp [List.isPrefixOf]
      have g6 : hasMark (bs (46 :: Lib.itoa z)) 6 = false := by rw [m6, bs_data]; simp [List.isPrefixOf]
      simp [markTo, g4, g5, g6]
    simp only [hm]
    show ((4 : Int), atoiV (Lib.itoa z)) = _
    rw [hat]
  · have e0 : tokW 5 z = bs (110 :: 101 :: 119 :: Lib.itoa z) := rfl
    rw [e0]
    unfold tokOf
    rw [opOf_none rfl (by simp)]
    have hm : markTo (bs (110 :: 101 :: 119 :: Lib.itoa z)) 7 = 5 := by
      obtain ⟨m0, m1, m3, m2, m4, m5, m6⟩ := hasMark_eq (bs (110 :: 101 :: 119 :: Lib.itoa z))
      have g5 : hasMark (bs (110 :: 101 :: 119 :: Lib.itoa z)) 5 = true := by rw [m5, bs_data]; simp [List.isPrefixOf]
      have g6 : hasMark (bs (110 :: 101 :: 119 :: Lib.itoa z)) 6 = false := by rw [m6, bs_data]; simp [List.isPrefixOf]
      simp [markTo, g5, g6]
    simp only [hm]
    show ((5 : Int), atoiV (Lib.itoa z)) = _
    rw [hat]
  · have e0 : tokW 6 z = bs (102 :: Lib.itoa z) := rfl
    rw [e0]
    unfold tokOf
    rw [opOf_none rfl (by simp)]
    have hm : markTo (bs (102 :: Lib.itoa z)) 7 = 6 := by
      obtain ⟨m0, m1, m3, m2, m4, m5, m6⟩ := hasMark_eq (bs (102 :: Lib.itoa z))
      have g6 : hasMark (bs (102 :: Lib.itoa z)) 6 = true := by rw [m6, bs_data]; simp [List.isPrefixOf]
      simp [markTo, g6]
    simp only [hm]
    show ((6 : Int), atoiV (Lib.itoa z)) = _
    rw [hat]

end Go.Proofs.YtbmenihakkogkabGreatDoor
