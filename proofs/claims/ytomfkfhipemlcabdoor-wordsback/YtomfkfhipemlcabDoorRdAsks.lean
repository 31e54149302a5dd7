/- How many expressions a token asks for, by the reader. -/
import Derived.Test.YtomfkfhipemlcabDoorReadTok
namespace Go.Proofs.YtomfkfhipemlcabDoor
open Go.RowKit Go.Maps

/-- 'fv' is a slice of nf functions, not in block X; number i has 'par i' parameters. -/
def ParAt (X : Nat) (w : World) (fv : Value) (nf : Nat) (par : Nat → Int) : Prop :=
  ∃ a cap, fv = .slice a nf cap ∧ nf ≤ 100000 ∧ (nf = 0 ∨ ∃ b o, a = some ⟨b, o, none⟩ ∧ b < X ∧ ∀ i, i < nf → w.cell? ⟨b, o + i * 3, none⟩ = some (.int .i64 (par i)))

theorem ParAt.low {X : Nat} {w w' : World} {fv : Value} {nf : Nat} {par : Nat → Int} (h : ParAt X w fv nf par) (hs : ∀ k, k < X → w'.heap[k]? = w.heap[k]?) : ParAt X w' fv nf par := by
  obtain ⟨a, cap, rfl, hn, h | ⟨b, o, rfl, hb, hc⟩⟩ := h
  · exact ⟨a, cap, rfl, hn, Or.inl h⟩
  · exact ⟨_, cap, rfl, hn, Or.inr ⟨b, o, rfl, hb, fun i hi => by rw [World.cell?_of_block (w := w) (a := ⟨b, o + i * 3, none⟩) (hs b hb)]; exact hc i hi⟩⟩

theorem ParAt.save {X : Nat} {w w' : World} {fv : Value} {nf : Nat} {par : Nat → Int} (h : ParAt X w fv nf par) (hs : Save X w w') (hX : X < w.heap.size) : ParAt X w' fv nf par := h.low fun k hk => hs.block k (by omega) (by omega)

theorem below_dn {B : Nat} {a b : World} (h : Below B a b) (n : Nat) : Below B a (b.drewN n) := ⟨h.os, h.tape, h.output, h.size, h.block⟩

set_option maxHeartbeats 2000000 in
theorem rasks (X : Nat) (w : World) (ws : List Wd) (fv : Value) (nf : Nat) (par : Nat → Int) (k z : Int) (h : RD X w ws fv) (hp : ParAt X w fv nf par) :
    Calls Tryd.prog 73 #[.pointer (some ⟨X, 0, none⟩), .agg #[.int .i64 k, .int .i64 z]] w fun e w' => e = .returned (.int .i64 (asksR nf par (k, z))) ∧ Below w.heap.size w w' := by
  have hX := h.lt
  have hb0 := below_alloc w (.cells #[.int .i64 k, .int .i64 z] 75)
  have qf := (h.keep hb0).cells
  obtain ⟨a, cap, rfl, hn, hcs⟩ := hp
  have HB : Hid (Below w.heap.size w (w.alloc (.cells #[.int .i64 k, .int .i64 z] 75))) := hb0
  clear h hb0
  by_cases h4 : k = 4
  · have HF : Hid (asksR nf par (k, z) = 1) := by show asksR nf par (k, z) = 1; unfold asksR; rw [if_pos h4]
    have e4 : (k == 4) = true := by simp [h4]
    clear h4 hcs
    go_enter Tryd.func73, Tryd.ntmps73
    go_wp2
    go_ret
    exact ⟨ret_num HF.out.symm, HB.out⟩
  have e4 : (k == 4) = false := by simp [h4]
  by_cases h3 : k = 3
  · have HF : Hid (asksR nf par (k, z) = 2) := by show asksR nf par (k, z) = 2; unfold asksR; rw [if_neg h4, if_pos h3]
    have e3 : (k == 3) = true := by simp [h3]
    clear h4 h3 hcs
    go_enter Tryd.func73, Tryd.ntmps73
    go_wp2
    go_ret
    exact ⟨ret_num HF.out.symm, HB.out⟩
  have e3 : (k == 3) = false := by simp [h3]
  by_cases h6 : k = 6
  · have e6 : (k == 6) = true := by simp [h6]
    by_cases hz0 : 0 ≤ z
    · by_cases hz1 : z < nf
      · obtain ⟨m, rfl⟩ : ∃ m : Nat, z = m := ⟨z.toNat, by omega⟩
        have hm : m < nf := by omega
        have HF : Hid (asksR nf par (k, (m : Int)) = par m) := by
          show asksR nf par (k, (m : Int)) = _
          unfold asksR
          rw [if_neg h4, if_neg h3, if_pos ⟨h6, hz0, hz1⟩]
          rfl
        obtain h | ⟨b, o, rfl, hb, hc⟩ := hcs
        · omega
        have q := hc m hm
        rw [← HB.out.cell (p := ⟨b, o + m * 3, none⟩) (Nat.lt_trans hb hX)] at q
        have hz1i : (m : Int) < (nf : Int) := by omega
        clear h4 h3 h6 hc hz1
        go_enter Tryd.func73, Tryd.ntmps73
        go_upto_region 5 with (fail)
        go_quiet (fail)
        go_upto_region 6 with (fail)
        go_quiet (fail)
        go_wp2_with fail
        go_ret
        exact ⟨ret_num HF.out.symm, below_dn (below_dn HB.out _) _⟩
      · have HF : Hid (asksR nf par (k, z) = 0) := by
          show asksR nf par (k, z) = _
          unfold asksR
          rw [if_neg h4, if_neg h3, if_neg (by rintro ⟨_, _, c⟩; exact hz1 c)]
        have hz1i : ¬ z < (nf : Int) := hz1
        clear h4 h3 h6 hcs hz1
        go_enter Tryd.func73, Tryd.ntmps73
        go_upto_region 5 with (fail)
        go_quiet (fail)
        go_wp2_with fail
        go_ret
        exact ⟨ret_num HF.out.symm, below_dn HB.out _⟩
    · have HF : Hid (asksR nf par (k, z) = 0) := by
        show asksR nf par (k, z) = _
        unfold asksR
        rw [if_neg h4, if_neg h3, if_neg (by rintro ⟨_, c, _⟩; exact hz0 c)]
      clear h4 h3 h6 hcs
      go_enter Tryd.func73, Tryd.ntmps73
      go_upto_region 5 with (fail)
      go_quiet (fail)
      go_wp2_with fail
      go_ret
      exact ⟨ret_num HF.out.symm, below_dn HB.out _⟩
  · have e6 : (k == 6) = false := by simp [h6]
    have HF : Hid (asksR nf par (k, z) = 0) := by
      show asksR nf par (k, z) = _
      unfold asksR
      rw [if_neg h4, if_neg h3, if_neg (by rintro ⟨c, _, _⟩; exact h6 c)]
    clear h4 h3 h6 hcs
    go_enter Tryd.func73, Tryd.ntmps73
    go_upto_region 5 with (fail)
    go_quiet (fail)
    go_wp2_with fail
    go_ret
    exact ⟨ret_num HF.out.symm, below_dn HB.out _⟩

end Go.Proofs.YtomfkfhipemlcabDoor
