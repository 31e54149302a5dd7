/- Small facts that the walks through two programs want. -/
import Derived.Test.YtomfkfhipemlcabDoorPairs
namespace Go.Proofs.YtomfkfhipemlcabDoor
open Go.RowKit Go.Maps

def wt (d : Nat) (T : SL) (i : Nat) : Nat := 1 + size d (T.sub i false) + size d (T.sub i true)

theorem size_succ (d : Nat) (T : SL) : size (d + 1) T = sumTo T.len (wt d T) := rfl

theorem size_none {d : Nat} {T : SL} (h : T.len = 0) : size d T = 0 := by
  cases d with
  | zero => rfl
  | succ d => rw [size_succ, h]; rfl

/-- What sized tells. -/
def sizeR (d : Nat) (T : SL) (left : Nat) : Int := if fineB d T left = true then (size d T : Int) else 0

theorem fine_no {d : Nat} {T : SL} {l j : Nat} (hj : j < T.len) (h : ¬ (fits d (T.sub j false) l ∧ fits d (T.sub j true) l ∧ sumTo (j + 1) (wt d T) ≤ 30)) : fineB (d + 1) T (l + 1) = false := by
  rw [Bool.eq_false_iff]
  intro e
  obtain ⟨h1, h2⟩ := fineB_iff.1 e
  rcases h1 with h1 | ⟨_, h1⟩
  · omega
  · have := sumTo_mono (f := wt d T) (j := j + 1) (n := T.len) (by omega)
    exact h ⟨(h1 j hj).1, (h1 j hj).2, by rw [size_succ] at h2; omega⟩

theorem fine_yes {d : Nat} {T : SL} {l : Nat} (h : ∀ j, j < T.len → fits d (T.sub j false) l ∧ fits d (T.sub j true) l) (hs : sumTo T.len (wt d T) ≤ 30) : fineB (d + 1) T (l + 1) = true :=
  fineB_iff.2 ⟨Or.inr ⟨by omega, h⟩, hs⟩

theorem fine_zero {d : Nat} {T : SL} (h : ¬ T.len = 0) : fineB (d + 1) T 0 = false := by
  rw [Bool.eq_false_iff]
  intro e
  obtain ⟨h1, _⟩ := fineB_iff.1 e
  rcases h1 with h1 | ⟨h1, _⟩
  · exact h h1
  · omega

theorem ret_two {a b : Int} {x y : Bool} (h : a = b) (k : x = y) : Ending.returned (.tuple #[.int .i64 a, .bool x]) = .returned (.tuple #[.int .i64 b, .bool y]) := by rw [h, k]
theorem sizeR_no {d : Nat} {T : SL} {left : Nat} (h : fineB d T left = false) : sizeR d T left = 0 := by unfold sizeR; rw [h]; rfl
theorem sizeR_yes {d : Nat} {T : SL} {left : Nat} (h : fineB d T left = true) : sizeR d T left = size d T := by unfold sizeR; rw [h]; rfl


theorem own_below {B : Nat} {e : TypeId} {k : Nat} {v : Value} {n : Nat} {xs : List Value} {w w' : World} (h : w.ownsRow B e k v n xs) (hb : Below w.heap.size w w') : w'.ownsRow B e k v n xs :=
  h.kept (row := none) ⟨hb.os, hb.tape, hb.output, hb.size, fun j hj _ => hb.block j hj⟩ (by cases hv : v.ownBlock <;> simp)


theorem eqI_ways (E : SL → SL → Bool) (T U : SL) (i : Nat) : (¬ (T.nd i).kind = (U.nd i).kind ∧ eqI E T U i = false) ∨ ((T.nd i).kind = (U.nd i).kind ∧ ¬ (T.nd i).num = (U.nd i).num ∧ eqI E T U i = false) ∨
    ((T.nd i).kind = (U.nd i).kind ∧ (T.nd i).num = (U.nd i).num ∧ eqV (T.nd i).ne (U.nd i).ne (T.nd i).ek (T.nd i).ez (U.nd i).ek (U.nd i).ez = false ∧ eqI E T U i = false) ∨
    ((T.nd i).kind = (U.nd i).kind ∧ (T.nd i).num = (U.nd i).num ∧ eqV (T.nd i).ne (U.nd i).ne (T.nd i).ek (T.nd i).ez (U.nd i).ek (U.nd i).ez = true ∧ eqV (T.nd i).nf (U.nd i).nf (T.nd i).fk (T.nd i).fz (U.nd i).fk (U.nd i).fz = false ∧ eqI E T U i = false) ∨
    ((T.nd i).kind = (U.nd i).kind ∧ (T.nd i).num = (U.nd i).num ∧ eqV (T.nd i).ne (U.nd i).ne (T.nd i).ek (T.nd i).ez (U.nd i).ek (U.nd i).ez = true ∧ eqV (T.nd i).nf (U.nd i).nf (T.nd i).fk (T.nd i).fz (U.nd i).fk (U.nd i).fz = true ∧ E (T.sub i false) (U.sub i false) = false ∧ eqI E T U i = false) ∨
    ((T.nd i).kind = (U.nd i).kind ∧ (T.nd i).num = (U.nd i).num ∧ eqV (T.nd i).ne (U.nd i).ne (T.nd i).ek (T.nd i).ez (U.nd i).ek (U.nd i).ez = true ∧ eqV (T.nd i).nf (U.nd i).nf (T.nd i).fk (T.nd i).fz (U.nd i).fk (U.nd i).fz = true ∧ E (T.sub i false) (U.sub i false) = true ∧ E (T.sub i true) (U.sub i true) = false ∧ eqI E T U i = false) ∨
    ((T.nd i).kind = (U.nd i).kind ∧ (T.nd i).num = (U.nd i).num ∧ eqV (T.nd i).ne (U.nd i).ne (T.nd i).ek (T.nd i).ez (U.nd i).ek (U.nd i).ez = true ∧ eqV (T.nd i).nf (U.nd i).nf (T.nd i).fk (T.nd i).fz (U.nd i).fk (U.nd i).fz = true ∧ E (T.sub i false) (U.sub i false) = true ∧ E (T.sub i true) (U.sub i true) = true ∧ eqI E T U i = true) := by
  unfold eqI eqH
  generalize T.nd i = s
  generalize U.nd i = t
  generalize E (T.sub i false) (U.sub i false) = x
  generalize E (T.sub i true) (U.sub i true) = y
  generalize eqV s.ne t.ne s.ek s.ez t.ek t.ez = p
  generalize eqV s.nf t.nf s.fk s.fz t.fk t.fz = q
  by_cases h1 : s.kind = t.kind <;> by_cases h2 : s.num = t.num <;> cases p <;> cases q <;> cases x <;> cases y <;> simp [h1, h2]

theorem two_box {w wk : World} {cs1 cs2 : Array Value} {t1 t2 : TypeId} (hb : Below ((w.alloc (.cells cs1 t1)).alloc (.cells cs2 t2)).heap.size ((w.alloc (.cells cs1 t1)).alloc (.cells cs2 t2)) wk) (i : Nat) {c1 c2 : Value} (h1 : cs1[i]? = some c1) (h2 : cs2[i]? = some c2) :
    wk.cell? ⟨w.heap.size, i, none⟩ = some c1 ∧ wk.cell? ⟨w.heap.size + 1, i, none⟩ = some c2 := by
  have e1 := box_in (below_step (below_alloc _ _) hb) i h1
  have e2 := box_in hb i h2
  simp only [World.size_alloc] at e2
  exact ⟨e1, e2⟩


end Go.Proofs.YtomfkfhipemlcabDoor
