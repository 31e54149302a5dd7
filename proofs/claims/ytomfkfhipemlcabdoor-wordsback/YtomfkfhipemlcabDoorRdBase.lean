/- The reader: the words that aren't read yet; the next word, the next number. -/
import Derived.Test.YtomfkfhipemlcabDoorStmtKind
import Derived.Test.YtomfkfhipemlcabDoorWalk
namespace Go.Proofs.YtomfkfhipemlcabDoor
open Go.RowKit Go.Maps

/-- 'v' is a slice of the words ws, below block X, and not where the functions fv are. -/
def WordsAt (X : Nat) (fv : Value) (w : World) (v : Value) (ws : List Wd) : Prop :=
  (∀ x ∈ ws, x.size ≤ 100000) ∧ ws.length ≤ 100000 ∧ ∃ a cap, v = .slice a ws.length cap ∧ ws.length ≤ cap ∧ (ws = [] ∨ ∃ g o, a = some ⟨g, o, none⟩ ∧ g < X ∧ ¬ fv.ownBlock = some g ∧ ∀ j x, ws[j]? = some x → w.cell? ⟨g, o + j, none⟩ = some (.string x))

/-- Block X is a reader of the words ws, with the functions fv. -/
def RD (X : Nat) (w : World) (ws : List Wd) (fv : Value) : Prop := ∃ wv, w.heap[X]? = some (.cells #[wv, fv] 63 (0, 0)) ∧ WordsAt X fv w wv ws

theorem WordsAt.low {X : Nat} {fv : Value} {w w' : World} {v : Value} {ws : List Wd} (h : WordsAt X fv w v ws) (hs : ∀ k, k < X → ¬ fv.ownBlock = some k → w'.heap[k]? = w.heap[k]?) : WordsAt X fv w' v ws := by
  obtain ⟨h0, h1, a, cap, rfl, hc, h | ⟨g, o, rfl, hg, hf, hcell⟩⟩ := h
  · exact ⟨h0, h1, a, cap, rfl, hc, Or.inl h⟩
  · exact ⟨h0, h1, _, cap, rfl, hc, Or.inr ⟨g, o, rfl, hg, hf, fun j x hj => by rw [World.cell?_of_block (w := w) (a := ⟨g, o + j, none⟩) (hs g hg hf)]; exact hcell j x hj⟩⟩

theorem RD.below {X : Nat} {w w' : World} {ws : List Wd} {fv : Value} (h : RD X w ws fv) (hb : Below (X + 1) w w') : RD X w' ws fv := by
  obtain ⟨wv, h1, h2⟩ := h
  exact ⟨wv, by rw [hb.block X (by omega)]; exact h1, h2.low fun k hk _ => hb.block k (by omega)⟩

theorem RD.lt {X : Nat} {w : World} {ws : List Wd} {fv : Value} (h : RD X w ws fv) : X < w.heap.size := by
  obtain ⟨wv, h1, _⟩ := h
  exact (Array.getElem?_eq_some_iff.1 h1).1

theorem RD.keep {X : Nat} {w w' : World} {ws : List Wd} {fv : Value} (h : RD X w ws fv) (hb : Below w.heap.size w w') : RD X w' ws fv := h.below (hb.mono h.lt)

theorem RD.cells {X : Nat} {w : World} {ws : List Wd} {fv : Value} (h : RD X w ws fv) : w.cell? ⟨X, 1, none⟩ = some fv := by
  obtain ⟨wv, h1, _⟩ := h
  unfold World.cell?
  rw [h1]; rfl

theorem RD.words {X : Nat} {w : World} {ws : List Wd} {fv : Value} (h : RD X w ws fv) : ∃ a cap, w.cell? ⟨X, 0, none⟩ = some (.slice a ws.length cap) := by
  obtain ⟨wv, h1, _, _, a, cap, rfl, _⟩ := h
  refine ⟨a, cap, ?_⟩
  unfold World.cell?
  rw [h1]; rfl

theorem RD.small {X : Nat} {w : World} {ws : List Wd} {fv : Value} (h : RD X w ws fv) : (hdW ws).size ≤ 100000 := by
  obtain ⟨wv, _, h0, _⟩ := h
  cases ws with
  | nil => exact Nat.zero_le _
  | cons x ws => exact h0 x (by simp)

theorem RD.len {X : Nat} {w : World} {ws : List Wd} {fv : Value} (h : RD X w ws fv) : ws.length ≤ 100000 := by
  obtain ⟨wv, _, _, h1, _⟩ := h
  exact h1

theorem save_put (X : Nat) (w : World) (v : Value) : Save X w (w.setCell ⟨X, 0, none⟩ v) := by
  have h : Below X w (w.setCell ⟨X, 0, none⟩ v) := (Below.refl X w).setCell (Nat.le_refl _) _
  refine ⟨h.os, h.tape, h.output, h.size, fun k hk hx => ?_⟩
  exact Below.heap_setCell w ⟨X, 0, none⟩ v k hx

/-- The reader with other words. -/
theorem rd_set {X : Nat} {w : World} {ws us : List Wd} {fv v : Value} (h : RD X w ws fv) (hv : WordsAt X fv w v us) : RD X (w.setCell ⟨X, 0, none⟩ v) us fv := by
  obtain ⟨wv, h1, _⟩ := h
  refine ⟨v, ?_, hv.low fun k hk _ => Below.heap_setCell w ⟨X, 0, none⟩ v k (by show ¬ k = X; omega)⟩
  rw [heap_setCell_same w X 0 _ _ _ h1]
  rfl

/-- The reader, behind a store where the functions are. -/
theorem RD.putF {X g i : Nat} {w : World} {ws : List Wd} {fv v : Value} (h : RD X w ws fv) (hf : fv.ownBlock = some g) (hg : g < X) : RD X (w.setCell ⟨g, i, none⟩ v) ws fv := by
  obtain ⟨wv, h1, h2⟩ := h
  refine ⟨wv, by rw [Below.heap_setCell w ⟨g, i, none⟩ v X (by show ¬ X = g; omega)]; exact h1, h2.low fun k _ hk => Below.heap_setCell w ⟨g, i, none⟩ v k (fun e => hk (by rw [hf, e]))⟩

theorem size9 (w : World) : (sizeOf 9).run Tryd.prog w = .ok 1 w := by kernel_rfl

/-- A slice of words, from the m-th on. -/
theorem slice_from (g o L cap m : Nat) (x : Int) (hx : x = m) (h1 : m ≤ L) (w : World) : (Instr.slice 32 (.slice (some ⟨g, o, none⟩) L cap) (some (.int .i64 x)) none none).run Tryd.prog w = .ok (.slice (some ⟨g, if cap = m then o else o + m, none⟩) (L - m) (cap - m)) w := by
  subst hx
  simp [Instr.slice, Instr.sliceBounds, Instr.sliceBound, asIntOf, run_underlying Tryd.underlying32, go_sem]
  rw [if_pos h1]
  by_cases c : cap = m
  · rw [if_pos c, if_pos c]
  · rw [if_neg c, if_neg c]

theorem words_tail {X : Nat} {fv : Value} {w : World} {g o cap : Nat} {x : Wd} {us : List Wd} (h0 : ∀ y ∈ x :: us, y.size ≤ 100000) (h1 : (x :: us).length ≤ 100000) (hc : (x :: us).length ≤ cap) (hg : g < X) (hf : ¬ fv.ownBlock = some g) (hcell : ∀ j y, (x :: us)[j]? = some y → w.cell? ⟨g, o + j, none⟩ = some (.string y)) :
    WordsAt X fv w (.slice (some ⟨g, if cap = 1 then o else o + 1, none⟩) us.length (cap - 1)) us := by
  rw [List.length_cons] at h1 hc
  refine ⟨fun y hy => h0 y (List.mem_cons_of_mem _ hy), by omega, _, cap - 1, rfl, by omega, ?_⟩
  cases us with
  | nil => exact Or.inl rfl
  | cons y us =>
    rw [List.length_cons] at hc
    rw [if_neg (by omega)]
    refine Or.inr ⟨g, o + 1, rfl, hg, hf, fun j z hj => ?_⟩
    rw [Nat.add_assoc, Nat.add_comm 1 j]
    exact hcell (j + 1) z hj

set_option maxHeartbeats 1000000 in
/-- The next word. -/
theorem next (X : Nat) (w : World) (ws : List Wd) (fv : Value) (h : RD X w ws fv) :
    Calls Tryd.prog 24 #[.pointer (some ⟨X, 0, none⟩)] w fun e w' => e = .returned (.string (hdW ws)) ∧ Hid (RD X w' ws.tail fv) ∧ Save X w w' := by
  have HR : Hid (RD X w ws fv) := h
  obtain ⟨wv, h1, h0, hl, a, cap, rfl, hc, hcs⟩ := h
  have q0 : w.cell? ⟨X, 0, none⟩ = some (.slice a ws.length cap) := by unfold World.cell?; rw [h1]; rfl
  have qf : w.frozen? ⟨X, 0, none⟩ = false := by unfold World.frozen?; rw [h1]; rfl
  cases ws with
  | nil =>
    rw [List.length_nil] at q0
    clear h1 h0 hl hc hcs
    go_enter Tryd.func24, Tryd.ntmps24
    go_wp2
    go_ret
    exact ⟨rfl, HR, Save.refl X w⟩
  | cons x us =>
    obtain h | ⟨g, o, rfl, hg, hf, hcell⟩ := hcs
    · cases h
    have q1 : w.cell? ⟨g, o, none⟩ = some (.string x) := hcell 0 x rfl
    have HT := words_tail h0 hl hc hg hf hcell
    have HT2 : Hid (WordsAt X fv w (.slice (some ⟨g, if cap = 1 then o else o + 1, none⟩) us.length (cap - 1)) us) := HT
    have hsl := slice_from g o (x :: us).length cap 1 1 rfl (by simp)
    rw [List.length_cons, Nat.add_sub_cancel] at hsl
    rw [List.length_cons] at q0
    generalize (if cap = 1 then o else o + 1) = o2 at *
    obtain ⟨L, hL⟩ : ∃ L, us.length + 1 = L := ⟨_, rfl⟩
    rw [hL] at q0 hsl
    have hL0 : ((L : Int) == 0) = false := by rw [beq_eq_false_iff_ne]; omega
    have hL1 : (0 : Int) < (L : Int) := by omega
    clear h1 h0 hl hc hcell HT hL hf
    go_enter Tryd.func24, Tryd.ntmps24
    go_wp2
    go_ret
    exact ⟨rfl, rd_set HR.out HT2.out, save_put X w _⟩

set_option maxHeartbeats 1000000 in
/-- The next number. -/
theorem number (N X : Nat) (w : World) (ws : List Wd) (fv : Value) (hNX : N ≤ X) (he : Env N w) (h : RD X w ws fv) :
    Calls Tryd.prog 25 #[.pointer (some ⟨X, 0, none⟩)] w fun e w' => e = .returned (.int .i64 (numR ws)) ∧ Hid (RD X w' ws.tail fv) ∧ Save X w w' := by
  have HR : Hid (RD X w ws fv) := h
  have HE : Hid (Env N w) := he
  have hX := h.lt
  have hsm : (hdW ws).size ≤ 100000 := h.small
  clear h he
  go_enter Tryd.func25, Tryd.ntmps25
  go_wp2_with (first
    | (go_at_call 24; refine (next X w ws fv HR.out).mono ?_; rintro e w1 ⟨rfl, HR1, s1⟩)
    | (go_at_call 39; refine (atoi N (hdW ws) (by omega) w1 (HE.out.below (s1.low hNX (by omega)))).mono ?_; rintro e w2 ⟨er, rfl, b2⟩))
  go_ret
  exact ⟨rfl, HR1.out.keep b2, s1.trans (Save.of b2)⟩

end Go.Proofs.YtomfkfhipemlcabDoor
