/- A program of the call's own with another body in one place: what is read of it there. -/
import Derived.Test.YtmhdiloejcdkcaaInsertGrow
namespace Go.Proofs.Ytmhdiloejcdkcaa
open Go.RowKit Go.Maps

theorem own_keep {w w' : World} {base base' e size g n cap : Nat} {xs : List Value} (h : w.ownsRow base e size (.slice (some ⟨g, 0, none⟩) n cap) n xs) (hb : base' ≤ base) (hg : w'.heap[g]? = w.heap[g]?) : w'.ownsRow base' e size (.slice (some ⟨g, 0, none⟩) n cap) n xs := by
  obtain ⟨h0, h | ⟨g', cap', cur, hv, h1, h2, h3⟩⟩ := h
  · cases h.1
  · cases hv
    exact ⟨h0, Or.inr ⟨g, cap, cur, rfl, Nat.le_trans hb h1, hg.trans h2, h3⟩⟩

/-- Another one in the place of number i. -/
def putV (bv : Nat → Value) (i : Nat) (v : Value) : Nat → Value := fun j => if j = i then v else bv j

theorem funC_put {nf i : Nat} {par loc : Nat → Int} {bv bv0 : Nat → Value} {v : Value} (hbv : ∀ j, ¬ j = i → bv j = bv0 j) : (cellsL (nf * 3) (funC par loc bv)).set (i * 3 + 2) v = cellsL (nf * 3) (funC par loc (putV bv0 i v)) := by
  refine List.ext_getElem? fun j => ?_
  by_cases hj : j < nf * 3
  · rw [cellsL_at hj]
    by_cases e : i * 3 + 2 = j
    · subst e
      rw [List.getElem?_set_self (by rw [cellsL_len]; omega)]
      unfold funC putV
      rw [if_neg (by omega), if_neg (by omega), if_pos (by omega)]
    · rw [List.getElem?_set_ne e, cellsL_at hj]
      unfold funC putV
      by_cases h0 : j % 3 = 0
      · rw [if_pos h0, if_pos h0]
      · rw [if_neg h0, if_neg h0]
        by_cases h1 : j % 3 = 1
        · rw [if_pos h1, if_pos h1]
        · rw [if_neg h1, if_neg h1, if_neg (by omega), hbv _ (by omega)]
  · rw [List.getElem?_eq_none (by rw [List.length_set, cellsL_len]; omega), List.getElem?_eq_none (by rw [cellsL_len]; omega)]

theorem heap_setCell_ne {x : World} {g o k : Nat} {v : Value} (h : ¬ g = k) : (x.setCell ⟨g, o, none⟩ v).heap[k]? = x.heap[k]? := by
  show (x.heap.modify g _)[k]? = _
  rw [Array.getElem?_modify, if_neg h]

theorem size_setCell {x : World} {p : Addr} {v : Value} : (x.setCell p v).heap.size = x.heap.size := by
  show (x.heap.modify _ _).size = _
  rw [Array.size_modify]

/-- Behind the store of another body. -/
theorem put_body {M nf i d g cp gs cap B1 B2 : Nat} {w x : World} {par loc : Nat → Int} {bv bv0 : Nat → Value} {body : Nat → SL} {T : SL} {c : Nat → Value} (hM : M ≤ w.heap.size) (hx : Below M w x) (hs : ∀ j, j < nf → StmtsAt M w (d + 1) (bv0 j) (body j))
    (hG : x.ownsRow B1 54 3 (.slice (some ⟨g, 0, none⟩) nf cp) nf (cellsL (nf * 3) (funC par loc bv))) (hbv : ∀ j, ¬ j = i → bv j = bv0 j) (hR : x.ownsRow B2 58 6 (.slice (some ⟨gs, 0, none⟩) T.len cap) T.len (cellsL (T.len * 6) c))
    (hne : ¬ gs = g) (hg : M ≤ g) (hrow : IsRow M w d c T) (hn : nf ≤ 1000) (hl : T.len ≤ 1000) :
    (x.setCell ⟨g, i * 3 + 2, none⟩ (.slice (some ⟨gs, 0, none⟩) T.len cap)).ownsRow B1 54 3 (.slice (some ⟨g, 0, none⟩) nf cp) nf (cellsL (nf * 3) (funC par loc (putV bv0 i (.slice (some ⟨gs, 0, none⟩) T.len cap)))) ∧
    FunsAt (x.setCell ⟨g, i * 3 + 2, none⟩ (.slice (some ⟨gs, 0, none⟩) T.len cap)).heap.size (x.setCell ⟨g, i * 3 + 2, none⟩ (.slice (some ⟨gs, 0, none⟩) T.len cap)) (.slice (some ⟨g, 0, none⟩) nf cp) nf par loc (putV bv0 i (.slice (some ⟨gs, 0, none⟩) T.len cap)) ∧
    (∀ j, j < nf → StmtsAt (x.setCell ⟨g, i * 3 + 2, none⟩ (.slice (some ⟨gs, 0, none⟩) T.len cap)).heap.size (x.setCell ⟨g, i * 3 + 2, none⟩ (.slice (some ⟨gs, 0, none⟩) T.len cap)) (d + 1) (putV bv0 i (.slice (some ⟨gs, 0, none⟩) T.len cap) j) (bodyAt body i T j)) ∧
    Below M w (x.setCell ⟨g, i * 3 + 2, none⟩ (.slice (some ⟨gs, 0, none⟩) T.len cap)) := by
  have hy : Below M w (x.setCell ⟨g, i * 3 + 2, none⟩ (.slice (some ⟨gs, 0, none⟩) T.len cap)) := hx.setCell (p := ⟨g, i * 3 + 2, none⟩) hg _
  have h1 := (hG.stored (i * 3 + 2) (.slice (some ⟨gs, 0, none⟩) T.len cap)).1
  rw [funC_put hbv] at h1
  have hMy : M ≤ (x.setCell ⟨g, i * 3 + 2, none⟩ (.slice (some ⟨gs, 0, none⟩) T.len cap)).heap.size := Nat.le_trans hM hy.size
  refine ⟨h1, own_funs h1 hn fun j hj => ?_, fun j hj => ?_, hy⟩
  · unfold putV
    by_cases e : j = i
    · rw [if_pos e]; exact ⟨_, _, _, rfl⟩
    · rw [if_neg e]
      obtain ⟨a, c', e', _⟩ := (hs j hj).shape
      exact ⟨a, _, c', e'⟩
  · unfold putV bodyAt
    by_cases e : j = i
    · rw [if_pos e, if_pos e]
      exact own_stmts (own_keep hR (Nat.le_refl _) (heap_setCell_ne (fun h => hne h.symm))) (hrow.below hy) hMy (by omega)
    · rw [if_neg e, if_neg e]
      exact ((hs j hj).below hy).up hMy

/-- The number 'at' of a list, known ahead. -/
theorem atOf2 (k : Int) (n : Nat) (h1 : 1 ≤ n) (hn : n ≤ 1000) : ∃ i : Nat, i < n ∧ ∀ w, Calls Try.prog 30 #[.int .i64 k, .int .i64 n] w fun e w' => e = .returned (.int .i64 (i : Int)) ∧ w' = w := by
  have hm1 : -(n : Int) < k.tmod n := by
    have := Int.lt_tmod_of_pos k (show (0 : Int) < n by omega)
    omega
  have hm2 : k.tmod n < n := Int.tmod_lt_of_pos k (show (0 : Int) < n by omega)
  by_cases h0 : k.tmod n < 0
  · refine ⟨(k.tmod n + n).toNat, by omega, fun w => ?_⟩
    go_enter Try.func30, Try.ntmps30
    go_wp2
    go_ret
    exact ⟨ret_num (by omega), rfl⟩
  · refine ⟨(k.tmod n).toNat, by omega, fun w => ?_⟩
    go_enter Try.func30, Try.ntmps30
    go_wp2
    go_ret
    exact ⟨ret_num (by omega), rfl⟩

end Go.Proofs.Ytmhdiloejcdkcaa
