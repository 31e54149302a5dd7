/- The list of pairs that are still to be held against each other: what it comes to, and how it lies in memory. -/
import Derived.Test.YtomfkfhipemlcabDoorSameTok
import Derived.Test.YtomfkfhipemlcabDoorOwnRow
import Derived.Deep.LoopGhost
namespace Go.Proofs.YtomfkfhipemlcabDoor
open Go.RowKit Go.Maps

/-- A pair: two slices, and what they hold. -/
abbrev Pr := (Value × Value) × (SL × SL)

def eqAll (D : Nat) : List Pr → Bool
  | [] => true
  | q :: r => eqS D q.2.1 q.2.2 && eqAll D r

def weight (D : Nat) : List Pr → Nat
  | [] => 0
  | q :: r => 1 + 2 * size D q.2.1 + weight D r

def flatP : List Pr → List Value
  | [] => []
  | q :: r => q.1.1 :: q.1.2 :: flatP r

theorem eqAll_append (D : Nat) : ∀ A B : List Pr, eqAll D (A ++ B) = (eqAll D A && eqAll D B)
  | [], B => rfl
  | q :: A, B => by simp only [List.cons_append, eqAll, eqAll_append D A B, Bool.and_assoc]
theorem weight_append (D : Nat) : ∀ A B : List Pr, weight D (A ++ B) = weight D A + weight D B
  | [], B => by simp [weight]
  | q :: A, B => by simp only [List.cons_append, weight, weight_append D A B]; omega
theorem flatP_append : ∀ A B : List Pr, flatP (A ++ B) = flatP A ++ flatP B
  | [], B => rfl
  | q :: A, B => by simp only [List.cons_append, flatP, flatP_append A B]
theorem flatP_len : ∀ A : List Pr, (flatP A).length = A.length * 2
  | [] => rfl
  | q :: A => by simp only [flatP, List.length_cons, flatP_len A]; omega
theorem len_weight (D : Nat) : ∀ A : List Pr, A.length ≤ weight D A
  | [] => Nat.le_refl _
  | q :: A => by have := len_weight D A; simp only [weight, List.length_cons]; omega

/-- What a pair is in memory. -/
def PairAt (N : Nat) (w : World) (D : Nat) (q : Pr) : Prop := StmtsAt N w D q.1.1 q.2.1 ∧ StmtsAt N w D q.1.2 q.2.2

theorem StmtsAt.deeper {N : Nat} {w : World} : ∀ {d : Nat} {v : Value} {T : SL}, StmtsAt N w d v T → StmtsAt N w (d + 1) v T
  | 0, v, T, h => by
    obtain ⟨e, a, cap, rfl⟩ := h
    exact ⟨a, cap, by rw [e], by omega, Or.inl e⟩
  | d + 1, v, T, h => by
    obtain ⟨a, cap, rfl, hn, h | ⟨b, o, rfl, hlt, hc⟩⟩ := h
    · exact ⟨a, cap, rfl, hn, Or.inl h⟩
    · refine ⟨_, cap, rfl, hn, Or.inr ⟨b, o, rfl, hlt, fun i hi => ?_⟩⟩
      obtain ⟨ve, vf, va, vb, c0, c1, c2, c3, c4, c5, t1, t2, s1, s2⟩ := hc i hi
      exact ⟨ve, vf, va, vb, c0, c1, c2, c3, c4, c5, t1, t2, s1.deeper, s2.deeper⟩

theorem info96 : (Tryd.prog.info? 58).map (fun i => (i.zero, i.size, i.bytes)) = some (some (.agg #[.slice none 0 0, .slice none 0 0]), 2, 48) := by kernel_rfl
theorem size96 (w : World) : (sizeOf 58).run Tryd.prog w = .ok 2 w := by kernel_rfl

/-- Two pairs more at the end of a list of the call's own. -/
theorem append_pairs {ops : Array Oper} {rest : List Oper} {o : Oper} {a : Act} {Q : Exit → Act → World → Prop} (w : World) (hgd : o.guard = none) (s y : Operand)
    (ho : o.op = .call { callee := .builtin .append, args := #[s, y], argTypes := #[59, 59] }) (base : Nat) (v : Value) (n : Nat) (xs : List Value) (hs : a.eval s = v) (hown : w.ownsRow base 58 2 v n xs)
    (x1 x2 x3 x4 : Option Addr) (n1 n2 n3 n4 d1 d2 d3 d4 : Nat) (t : TypeId) (B : Nat) (hB : w.heap.size = B) (hy : a.eval y = .slice (some ⟨B, 0, none⟩) 2 2) (hR : n ≤ 10000000) (hbase : base ≤ w.heap.size)
    (h : ∀ ad cap w2, w2.ownsRow base 58 2 (.slice ad (n + 2) cap) (n + 2) (xs ++ [.slice x1 n1 d1, .slice x2 n2 d2, .slice x3 n3 d3, .slice x4 n4 d4]) → (w.alloc (.cells #[.slice x1 n1 d1, .slice x2 n2 d2, .slice x3 n3 d3, .slice x4 n4 d4] t)).grownBy w2 v.ownBlock → wpList Tryd.prog ops Q rest (a.put o.dst (.slice ad (n + 2) cap)) w2) :
    wpList Tryd.prog ops Q (o :: rest) a (w.alloc (.cells #[.slice x1 n1 d1, .slice x2 n2 d2, .slice x3 n3 d3, .slice x4 n4 d4] t)) := by
  subst hB
  obtain ⟨i0, hi, hz0, hz1, hz2⟩ := info_parts info96
  refine wpList_append_own _ hgd s y 59 ho base 58 i0 (.agg #[.slice none 0 0, .slice none 0 0]) 2 48 Tryd.underlying59 hi hz0 hz1 hz2 rfl (by decide) v n xs hs (hown.alloc _) ⟨w.heap.size, 0, none⟩ 2 2 [.slice x1 n1 d1, .slice x2 n2 d2, .slice x3 n3 d3, .slice x4 n4 d4] hy rfl ?_ ?_ (by unfold maxLen; omega) (by omega) (by simp; omega) ?_
  · intro j u hj
    rw [WideShapes.add_plain, Nat.zero_add, World.cell?_alloc_new]
    rw [← hj]
    simp
  · intro u hu
    simp only [List.mem_cons, List.not_mem_nil, or_false] at hu
    rcases hu with rfl | rfl | rfl | rfl <;> rfl
  · intro v' w2 h1 h2 _
    obtain ⟨ad, cap, rfl⟩ := own_shape h1
    exact h ad cap w2 h1 h2

/-- The last pair of a list of the call's own. -/
theorem own_last_pair {w : World} {base : Nat} {v : Value} {L : List Pr} {q : Pr} (h : w.ownsRow base 58 2 v (L ++ [q]).length (flatP (L ++ [q]))) :
    ∃ g cap, v = .slice (some ⟨g, 0, none⟩) (L.length + 1) cap ∧ base ≤ g ∧ g < w.heap.size ∧ L.length + 1 ≤ cap ∧ w.cell? ⟨g, L.length * 2, none⟩ = some q.1.1 ∧ w.cell? ⟨g, L.length * 2 + 1, none⟩ = some q.1.2 ∧
      w.ownsRow base 58 2 (.slice (some ⟨g, 0, none⟩) L.length cap) L.length (flatP L) := by
  have hl : (L ++ [q]).length = L.length + 1 := by simp
  rw [hl, flatP_append] at h
  obtain ⟨g, cap, rfl, hb, hlt, hc, _⟩ := own_block h
  have hfl := flatP_len L
  refine ⟨g, cap, rfl, hb, hlt, hc, ?_, ?_, ownsRow_pop (last := flatP [q]) hfl h⟩
  · rw [h.cellAt _ (by omega), List.getElem?_append_right (by omega), hfl, Nat.sub_self]; rfl
  · rw [h.cellAt _ (by omega), List.getElem?_append_right (by omega), hfl, Nat.add_sub_cancel_left]; rfl

theorem pr_nil_or_snoc (R : List Pr) : R = [] ∨ ∃ L r, R = L ++ [r] := by
  rcases List.eq_nil_or_concat R with h | ⟨L, r, h⟩
  · exact Or.inl h
  · exact Or.inr ⟨L, r, by rw [h, List.concat_eq_append]⟩

end Go.Proofs.YtomfkfhipemlcabDoor
