/- sized of the reckoning beside the program: how many statements there are, as far as they aren't too many or too deep. CheckSource of the reckoning beside the program: the same error as Check's. CodeSays, called on any programs of instructions and any program, is true. -/
import Derived.Test.YtbmenihakkogkabGreatDoorPart13
import Derived.Test.YtbmenihakkogkabGreatDoorRefStmts
import Derived.Test.YtbmenihakkogkabGreatDoorPart12
import Derived.Test.YtbmenihakkogkabGreatDoorPart46
import Derived.Test.YtbmenihakkogkabGreatDoorPart47
import Derived.Deep.RegionHeld3
namespace Go.Proofs.YtbmenihakkogkabGreatDoor
open Go.RowKit

set_option maxHeartbeats 4000000 in
theorem sized (N : Nat) : ∀ (d : Nat) (v : Value) (T : SL) (left : Nat) (w : World), N ≤ w.heap.size → StmtsAt N w d v T → (1 ≤ left ∨ ¬ T.len = 0) → left ≤ 100 →
    Calls Tryz.prog 44 #[v, .int .i64 left] w fun e w' => e = .returned (.tuple #[.int .i64 (sizeR d T left), .bool (fineB d T left)]) ∧ Below w.heap.size w w' := by
  intro d
  induction d with
  | zero =>
    intro v T left w hN h hl hl2
    obtain ⟨h0, a, cap, rfl⟩ := h
    have hli : ¬ (left : Int) < 1 := by omega
    have HF : Hid (fineB 0 T left = true) := fineB_iff.2 ⟨trivial, by rw [size_none h0]; omega⟩
    have HS : Hid (sizeR 0 T left = 0) := sizeR_yes HF.out
    go_enter Tryz.func44, Tryz.ntmps44
    go_wp2_with fail
    go_loopw [6, 17] (fun q i wr => q = .int .i64 0 ∧ i = .int .i64 0 ∧ wr = w) (fun _ i _ => 0)
    case atStart => exact ⟨rfl, rfl, rfl⟩
    case round =>
      obtain ⟨rfl, rfl, rfl⟩ := hrel
      go_wp2_with fail
      go_ret2
      exact ⟨ret_two HS.out.symm HF.out.symm, Below.refl _ _⟩
  | succ d ih =>
    intro v T left w hN h hl hl2
    obtain ⟨a, cap, rfl, hn, h⟩ := h
    cases left with
    | zero =>
      have HF : Hid (fineB (d + 1) T 0 = false) := fine_zero (by omega)
      have HS : Hid (sizeR (d + 1) T 0 = 0) := sizeR_no HF.out
      go_enter Tryz.func44, Tryz.ntmps44
      go_wp2_with fail
      go_ret2
      exact ⟨ret_two HS.out.symm HF.out.symm, Below.refl _ _⟩
    | succ l =>
      have hli : ¬ (((l + 1 : Nat) : Int)) < 1 := by omega
      have HL : Hid ((((l + 1 : Nat) : Int)) - 1 = l) := by show (((l + 1 : Nat) : Int)) - 1 = l; omega
      go_enter Tryz.func44, Tryz.ntmps44
      go_wp2_with fail
      go_loopw [6, 17] (fun q i wr => ∃ j : Nat, j ≤ T.len ∧ i = .int .i64 j ∧ q = .int .i64 ((sumTo j (wt d T) : Nat) : Int) ∧ Below w.heap.size w wr ∧ sumTo j (wt d T) ≤ 30 ∧ Hid (∀ x, x < j → fits d (T.sub x false) l ∧ fits d (T.sub x true) l)) (fun _ i _ => T.len - (intOf i).toNat)
      case atStart => exact ⟨0, Nat.zero_le _, rfl, rfl, Below.refl _ _, by simp [sumTo], fun j hj => absurd hj (Nat.not_lt_zero _)⟩
      case round =>
        obtain ⟨j, hj, rfl, rfl, hb, h30, hall⟩ := hrel
        by_cases hlt : j < T.len
        · rcases h with h | ⟨b, o, rfl, hp, g⟩
          · omega
          obtain ⟨ve, vf, va, vb, q0, q1, q2, q3, q4, q5, t1, t2, s1, s2⟩ := g j hlt
          have hp' : b < w.heap.size := by omega
          rw [← hb.cell hp'] at q0 q1 q2 q3 q4 q5
          have hbN := hb.mono hN
          have s1 := s1.below hbN
          have s2 := s2.below hbN
          clear g
          obtain ⟨ae, ce, rfl, _⟩ := t1.shape
          obtain ⟨af, cf, rfl, _⟩ := t2.shape
          obtain ⟨aa, ca, rfl, la⟩ := s1.shape
          obtain ⟨ab, cb, rfl, lb⟩ := s2.shape
          have hz := hb.size
          have HW : Hid (sumTo (j + 1) (wt d T) = sumTo j (wt d T) + (1 + size d (T.sub j false) + size d (T.sub j true))) := rfl
          have HNo : Hid (¬ (fits d (T.sub j false) l ∧ fits d (T.sub j true) l ∧ sumTo (j + 1) (wt d T) ≤ 30) → fineB (d + 1) T (l + 1) = false) := fine_no hlt
          have hNr : N ≤ wr.heap.size := by omega
          clear t1 t2
          generalize sumTo j (wt d T) = S at *
          go_wp2_with fail
          have hb0 : Below w.heap.size w ((wr.alloc (.cells #[.int .i64 (T.nd j).kind, .int .i64 (T.nd j).num, .slice ae (T.nd j).ne ce, .slice af (T.nd j).nf cf, .slice aa (T.sub j false).len ca, .slice ab (T.sub j true).len cb] 82)).alloc (.cells #[.slice aa (T.sub j false).len ca, .slice ab (T.sub j true).len cb] 41)) := below_step hb (below_step (below_alloc _ _) (below_alloc _ _))
          have hbr : Below wr.heap.size wr ((wr.alloc (.cells #[.int .i64 (T.nd j).kind, .int .i64 (T.nd j).num, .slice ae (T.nd j).ne ce, .slice af (T.nd j).nf cf, .slice aa (T.sub j false).len ca, .slice ab (T.sub j true).len cb] 82)).alloc (.cells #[.slice aa (T.sub j false).len ca, .slice ab (T.sub j true).len cb] 41)) := below_step (below_alloc _ _) (below_alloc _ _)
          have c0 : ((wr.alloc (.cells #[.int .i64 (T.nd j).kind, .int .i64 (T.nd j).num, .slice ae (T.nd j).ne ce, .slice af (T.nd j).nf cf, .slice aa (T.sub j false).len ca, .slice ab (T.sub j true).len cb] 82)).alloc (.cells #[.slice aa (T.sub j false).len ca, .slice ab (T.sub j true).len cb] 41)).cell? ⟨wr.heap.size + 1, 0, none⟩ = some (.slice aa (T.sub j false).len ca) := by simp
          have c1 : ((wr.alloc (.cells #[.int .i64 (T.nd j).kind, .int .i64 (T.nd j).num, .slice ae (T.nd j).ne ce, .slice af (T.nd j).nf cf, .slice aa (T.sub j false).len ca, .slice ab (T.sub j true).len cb] 82)).alloc (.cells #[.slice aa (T.sub j false).len ca, .slice ab (T.sub j true).len cb] 41)).cell? ⟨wr.heap.size + 1, 1, none⟩ = some (.slice ab (T.sub j true).len cb) := by simp
          have hsz : wr.heap.size + 1 < ((wr.alloc (.cells #[.int .i64 (T.nd j).kind, .int .i64 (T.nd j).num, .slice ae (T.nd j).ne ce, .slice af (T.nd j).nf cf, .slice aa (T.sub j false).len ca, .slice ab (T.sub j true).len cb] 82)).alloc (.cells #[.slice aa (T.sub j false).len ca, .slice ab (T.sub j true).len cb] 41)).heap.size := by simp
          generalize (wr.alloc (.cells #[.int .i64 (T.nd j).kind, .int .i64 (T.nd j).num, .slice ae (T.nd j).ne ce, .slice af (T.nd j).nf cf, .slice aa (T.sub j false).len ca, .slice ab (T.sub j true).len cb] 82)).alloc (.cells #[.slice aa (T.sub j false).len ca, .slice ab (T.sub j true).len cb] 41) = w0 at *
          have s1 := s1.below (hbr.mono hNr)
          have s2 := s2.below (hbr.mono hNr)
          have hN0 : N ≤ w0.heap.size := Nat.le_trans hNr hbr.size
          clear q0 q1 q2 q3 q4 q5 hb hbr
          generalize wr.heap.size + 1 = B at *
          go_loopw [6, 29] (fun q i wi => ∃ (x : Nat) (M : Nat), x ≤ 2 ∧ i = .int .i64 x ∧ q = .int .i64 (M : Int) ∧ Below w0.heap.size w0 wi ∧ (2 ≤ x ∨ M ≤ 31) ∧ M ≤ 100 ∧ Hid (M = (if x = 0 then S + 1 else if x = 1 then S + 1 + size d (T.sub j false) else S + 1 + size d (T.sub j false) + size d (T.sub j true))) ∧ Hid (1 ≤ x → fits d (T.sub j false) l) ∧ Hid (2 ≤ x → fits d (T.sub j true) l)) (fun _ i _ => 2 - (intOf i).toNat)
          case atStart => exact ⟨0, S + 1, by omega, rfl, by simp, Below.refl _ _, by omega, by omega, rfl, fun h => absurd h (by decide), fun h => absurd h (by decide)⟩
          case round =>
            obtain ⟨x, M, hx, rfl, rfl, hbi, hM, hM2, HM, z1, z2⟩ := hrel
            have hbT : Below w.heap.size w wr := below_step hb0 hbi
            rw [← hbi.cell (p := ⟨B, 0, none⟩) hsz] at c0
            rw [← hbi.cell (p := ⟨B, 1, none⟩) hsz] at c1
            have hNi : N ≤ wr.heap.size := Nat.le_trans hN0 hbi.size
            rcases (show x = 0 ∨ x = 1 ∨ x = 2 by omega) with rfl | rfl | rfl
            · by_cases h0 : (T.sub j false).len = 0
              · have h0i : ¬ (0 : Int) < ((T.sub j false).len : Int) := by omega
                have HZ : Hid (size d (T.sub j false) = 0) := size_none h0
                have HG : Hid (fits d (T.sub j false) l) := fits_zero h0 l
                clear h0
                go_wp2_with fail
                go_roundw
                case rel => exact ⟨1, M, by omega, by go_num, rfl, hbi, by omega, hM2, by have := HM.out; have := HZ.out; simp [Hid] at *; omega, fun _ => HG.out, fun h => absurd h (by decide)⟩
                case measure => simp [intOf]
              · have h0i : (0 : Int) < ((T.sub j false).len : Int) := by omega
                have HC : Hid (Calls Tryz.prog 44 #[.slice aa (T.sub j false).len ca, .int .i64 l] wr fun e w' => e = .returned (.tuple #[.int .i64 (sizeR d (T.sub j false) l), .bool (fineB d (T.sub j false) l)]) ∧ Below wr.heap.size wr w') := ih _ _ l wr hNi (s1.below (hbi.mono hN0)) (Or.inr h0) (by omega)
                have HL1 : Hid (((l : Int) + 1) - 1 = l) := by show ((l : Int) + 1) - 1 = l; omega
                clear h0
                by_cases hf : fineB d (T.sub j false) l = true
                · obtain ⟨hf1, hf2⟩ := fineB_iff.1 hf
                  rw [sizeR_yes hf, hf] at HC
                  have HG : Hid (fits d (T.sub j false) l) := hf1
                  have HZ : Hid (size d (T.sub j false) = size d (T.sub j false)) := rfl
                  clear hf hf1
                  by_cases h31 : M + size d (T.sub j false) ≤ 30
                  · have h31i : ¬ (30 : Int) < (M : Int) + (size d (T.sub j false) : Int) := by omega
                    go_wp2_with (go_at_call 44; refine HC.out.mono ?_; rintro e w2 ⟨rfl, hb2⟩)
                    go_roundw
                    case rel => exact ⟨1, M + size d (T.sub j false), by omega, by go_num, by go_num, below_step hbi hb2, by omega, by omega, by have := HM.out; simp [Hid] at *; omega, fun _ => HG.out, fun h => absurd h (by decide)⟩
                    case measure => simp [intOf]
                  · have h31i : (30 : Int) < (M : Int) + (size d (T.sub j false) : Int) := by omega
                    have HF : Hid (fineB (d + 1) T (l + 1) = false) := HNo.out (fun hh => by
                      have e1 := hh.2.2
                      have e2 := HW.out
                      have e3 := HM.out
                      simp at e3
                      omega)
                    have HS : Hid (sizeR (d + 1) T (l + 1) = 0) := sizeR_no HF.out
                    go_wp2_with (go_at_call 44; refine HC.out.mono ?_; rintro e w2 ⟨rfl, hb2⟩)
                    go_ret2
                    exact ⟨ret_two HS.out.symm HF.out.symm, below_step hbT hb2⟩
                · have hf' : fineB d (T.sub j false) l = false := by simpa using hf
                  rw [sizeR_no hf', hf'] at HC
                  have HF : Hid (fineB (d + 1) T (l + 1) = false) := HNo.out (fun hh => by
                    have e2 := HW.out
                    exact hf (fineB_iff.2 ⟨hh.1, by have := hh.2.2; omega⟩))
                  have HS : Hid (sizeR (d + 1) T (l + 1) = 0) := sizeR_no HF.out
                  clear hf hf'
                  go_wp2_with (go_at_call 44; refine HC.out.mono ?_; rintro e w2 ⟨rfl, hb2⟩)
                  go_ret2
                  exact ⟨ret_two HS.out.symm HF.out.symm, below_step hbT hb2⟩
            · by_cases h0 : (T.sub j true).len = 0
              · have h0i : ¬ (0 : Int) < ((T.sub j true).len : Int) := by omega
                have HZ : Hid (size d (T.sub j true) = 0) := size_none h0
                have HG : Hid (fits d (T.sub j true) l) := fits_zero h0 l
                clear h0
                go_wp2_with fail
                go_roundw
                case rel => exact ⟨2, M, by omega, by go_num, rfl, hbi, by omega, hM2, by have := HM.out; have := HZ.out; simp [Hid] at *; omega, fun _ => z1.out (by decide), fun _ => HG.out⟩
                case measure => simp [intOf]
              · have h0i : (0 : Int) < ((T.sub j true).len : Int) := by omega
                have HC : Hid (Calls Tryz.prog 44 #[.slice ab (T.sub j true).len cb, .int .i64 l] wr fun e w' => e = .returned (.tuple #[.int .i64 (sizeR d (T.sub j true) l), .bool (fineB d (T.sub j true) l)]) ∧ Below wr.heap.size wr w') := ih _ _ l wr hNi (s2.below (hbi.mono hN0)) (Or.inr h0) (by omega)
                have HL1 : Hid (((l : Int) + 1) - 1 = l) := by show ((l : Int) + 1) - 1 = l; omega
                clear h0
                by_cases hf : fineB d (T.sub j true) l = true
                · obtain ⟨hf1, hf2⟩ := fineB_iff.1 hf
                  rw [sizeR_yes hf, hf] at HC
                  have HG : Hid (fits d (T.sub j true) l) := hf1
                  have HZ : Hid (size d (T.sub j true) = size d (T.sub j true)) := rfl
                  clear hf hf1
                  by_cases h31 : M + size d (T.sub j true) ≤ 30
                  · have h31i : ¬ (30 : Int) < (M : Int) + (size d (T.sub j true) : Int) := by omega
                    go_wp2_with (go_at_call 44; refine HC.out.mono ?_; rintro e w2 ⟨rfl, hb2⟩)
                    go_roundw
                    case rel => exact ⟨2, M + size d (T.sub j true), by omega, by go_num, by go_num, below_step hbi hb2, by omega, by omega, by have := HM.out; simp [Hid] at *; omega, fun _ => z1.out (by decide), fun _ => HG.out⟩
                    case measure => simp [intOf]
                  · have h31i : (30 : Int) < (M : Int) + (size d (T.sub j true) : Int) := by omega
                    have HF : Hid (fineB (d + 1) T (l + 1) = false) := HNo.out (fun hh => by
                      have e1 := hh.2.2
                      have e2 := HW.out
                      have e3 := HM.out
                      simp at e3
                      omega)
                    have HS : Hid (sizeR (d + 1) T (l + 1) = 0) := sizeR_no HF.out
                    go_wp2_with (go_at_call 44; refine HC.out.mono ?_; rintro e w2 ⟨rfl, hb2⟩)
                    go_ret2
                    exact ⟨ret_two HS.out.symm HF.out.symm, below_step hbT hb2⟩
                · have hf' : fineB d (T.sub j true) l = false := by simpa using hf
                  rw [sizeR_no hf', hf'] at HC
                  have HF : Hid (fineB (d + 1) T (l + 1) = false) := HNo.out (fun hh => by
                    have e2 := HW.out
                    exact hf (fineB_iff.2 ⟨hh.2.1, by have := hh.2.2; omega⟩))
                  have HS : Hid (sizeR (d + 1) T (l + 1) = 0) := sizeR_no HF.out
                  clear hf hf'
                  go_wp2_with (go_at_call 44; refine HC.out.mono ?_; rintro e w2 ⟨rfl, hb2⟩)
                  go_ret2
                  exact ⟨ret_two HS.out.symm HF.out.symm, below_step hbT hb2⟩
            · have HMe : Hid (M = sumTo (j + 1) (wt d T)) := by
                have := HM.out
                have := HW.out
                simp [Hid] at *
                omega
              by_cases h31 : M ≤ 30
              · have h31i : ¬ (30 : Int) < (M : Int) := by omega
                go_wp2_with fail
                go_roundw
                case rel => exact ⟨j + 1, by omega, by go_num, by rw [← HMe.out], hbT, by rw [← HMe.out]; exact h31, upTo hall.out ⟨z1.out (by decide), z2.out (by decide)⟩⟩
                case measure => simp [intOf]; omega
              · have h31i : (30 : Int) < (M : Int) := by omega
                have HF : Hid (fineB (d + 1) T (l + 1) = false) := HNo.out (fun hh => by
                  have e1 := hh.2.2
                  rw [← HMe.out] at e1
                  omega)
                have HS : Hid (sizeR (d + 1) T (l + 1) = 0) := sizeR_no HF.out
                go_wp2_with fail
                go_ret2
                exact ⟨ret_two HS.out.symm HF.out.symm, hbT⟩
        · obtain rfl : j = T.len := by omega
          have HF : Hid (fineB (d + 1) T (l + 1) = true) := fine_yes hall.out h30
          have HS : Hid (sizeR (d + 1) T (l + 1) = ((sumTo T.len (wt d T) : Nat) : Int)) := sizeR_yes HF.out
          go_wp2_with fail
          go_ret2
          exact ⟨ret_two HS.out.symm HF.out.symm, hb⟩

end Go.Proofs.YtbmenihakkogkabGreatDoor

namespace Go.Proofs.YtbmenihakkogkabGreatDoor
open Go.RowKit

theorem bodyErr_ref {nf : Nat} {par : Nat → Int} {locals : Int} {d : Nat} {T : SL} : bodyErr nf par locals d T = if fineB d T 4 = true then errs (stErr nf par locals) d T else 2 := by
  unfold bodyErr fineB
  by_cases h : (wk look1 d T 1 0).1 = 0
  · rw [if_pos h, if_pos (by rw [beq_iff_eq]; exact h)]
  · rw [if_neg h, if_neg (by rw [beq_iff_eq]; exact h)]

set_option maxHeartbeats 4000000 in
theorem refCheck (N : Nat) (f : Value) (nf : Nat) (par loc : Nat → Int) (bv : Nat → Value) (d : Nat) (body : Nat → SL) (w : World) (hN : N ≤ w.heap.size) (hf : FunsAt N w f nf par loc bv) (hs : ∀ i, i < nf → StmtsAt N w d (bv i) (body i)) (hk : ∀ i, i < nf → kindsFit d (body i)) :
    Calls Tryz.prog 9 #[f] w fun e w' => e = .returned (.int .i64 (progErr nf par loc d body)) ∧ Below w.heap.size w w' := by
  have hf0 := hf
  obtain ⟨af, capf, rfl, hnf, hf⟩ := hf
  by_cases hn1 : 1 ≤ (nf : Int) ∧ (nf : Int) ≤ 4
  rotate_left
  · have HE : Hid (progErr nf par loc d body = 2) := progErr_many (by omega)
    have hx : decide (1 ≤ (nf : Int) ∧ (nf : Int) ≤ 4) = false := by simpa using hn1
    clear hn1
    go_enter Tryz.func9, Tryz.ntmps9
    go_wp2_with (go_at_call 43; refine (inRange _ _ _ _).mono ?_; rw [hx]; rintro e w1 ⟨rfl, rfl⟩)
    go_ret
    exact ⟨ret_num HE.out.symm, Below.refl _ _⟩
  have hx : decide (1 ≤ (nf : Int) ∧ (nf : Int) ≤ 4) = true := by simpa using hn1
  have HB : Hid (¬ (nf < 1 ∨ 4 < nf)) := by
    show ¬ (nf < 1 ∨ 4 < nf)
    omega
  clear hn1
  go_enter Tryz.func9, Tryz.ntmps9
  go_wp2_with (go_at_call 43; refine (inRange _ _ _ _).mono ?_; rw [hx]; rintro e w1 ⟨rfl, h1⟩; rw [h1]; clear h1)
  clear hx
  go_loopw [16] (fun i wr => ∃ j : Nat, j ≤ nf ∧ i = .int .i64 j ∧ Below w.heap.size w wr ∧ Hid (∀ x, x < j → headErr x (par x) (loc x) = 0)) (fun i _ => nf - (intOf i).toNat)
  case atStart => exact ⟨0, Nat.zero_le _, rfl, Below.refl _ _, fun j hj => absurd hj (Nat.not_lt_zero _)⟩
  case round =>
    obtain ⟨j, hj, rfl, hb, hall⟩ := hrel
    by_cases hlt : j < nf
    · rcases hf with hf | ⟨p, o, rfl, hp, g⟩
      · omega
      obtain ⟨q0, q1, q2, ba, bm, bc, eb⟩ := g j hlt
      have hp' : p < w.heap.size := by omega
      rw [eb] at q2
      rw [← hb.cell hp'] at q0 q1 q2
      clear g
      have hz := hb.size
      by_cases he : headErr j (par j) (loc j) = 0
      · obtain ⟨e0, e1, e2, e3, e4⟩ := headErr_good he
        have HE : Hid (headErr j (par j) (loc j) = 0) := he
        have x1 : decide (0 ≤ par j ∧ par j ≤ 3) = true := by simp; omega
        have x2 : decide (par j ≤ loc j ∧ loc j ≤ 6) = true := by simp; omega
        by_cases hj0 : j = 0
        · have hj1 : ((j : Int) == 0) = true := by simp [hj0]
          have hj2 : (par j != 0) = false := by have := e4 hj0; simp; omega
          clear e0 e1 e2 e3 e4 hj0 he
          go_wp2_with (go_at_call 43; refine (inRange _ _ _ _).mono ?_; first | (rw [x1]; rintro e w1 ⟨rfl, h1⟩; rw [h1]; clear h1) | (rw [x2]; rintro e w1 ⟨rfl, h1⟩; rw [h1]; clear h1))
          go_roundw
          case rel => exact ⟨j + 1, by omega, by go_num, hb.alloc hz _, upTo hall.out HE.out⟩
          case measure => simp [intOf]; omega
        · have hj1 : ((j : Int) == 0) = false := by simp [hj0]
          clear e0 e1 e2 e3 e4 hj0 he
          go_wp2_with (go_at_call 43; refine (inRange _ _ _ _).mono ?_; first | (rw [x1]; rintro e w1 ⟨rfl, h1⟩; rw [h1]; clear h1) | (rw [x2]; rintro e w1 ⟨rfl, h1⟩; rw [h1]; clear h1))
          go_roundw
          case rel => exact ⟨j + 1, by omega, by go_num, hb.alloc hz _, upTo hall.out HE.out⟩
          case measure => simp [intOf]; omega
      · have HE : Hid (progErr nf par loc d body = 3) := progErr_head HB.out hlt he
        have he' := headErr_ways he
        by_cases g1 : 0 ≤ par j ∧ par j ≤ 3
        · have x1 : decide (0 ≤ par j ∧ par j ≤ 3) = true := by simpa using g1
          by_cases g2 : par j ≤ loc j ∧ loc j ≤ 6
          · have x2 : decide (par j ≤ loc j ∧ loc j ≤ 6) = true := by simpa using g2
            have hj1 : ((j : Int) == 0) = true := by simp; omega
            have hj2 : (par j != 0) = true := by simp; omega
            clear g1 g2 he he'
            go_wp2_with (go_at_call 43; refine (inRange _ _ _ _).mono ?_; first | (rw [x1]; rintro e w1 ⟨rfl, h1⟩; rw [h1]; clear h1) | (rw [x2]; rintro e w1 ⟨rfl, h1⟩; rw [h1]; clear h1))
            go_ret
            exact ⟨ret_num HE.out.symm, hb.alloc hz _⟩
          · have x2 : decide (par j ≤ loc j ∧ loc j ≤ 6) = false := by simpa using g2
            clear g1 g2 he he'
            go_wp2_with (go_at_call 43; refine (inRange _ _ _ _).mono ?_; first | (rw [x1]; rintro e w1 ⟨rfl, h1⟩; rw [h1]; clear h1) | (rw [x2]; rintro e w1 ⟨rfl, h1⟩; rw [h1]; clear h1))
            go_ret
            exact ⟨ret_num HE.out.symm, hb.alloc hz _⟩
        · have x1 : decide (0 ≤ par j ∧ par j ≤ 3) = false := by simpa using g1
          clear g1 he he'
          go_wp2_with (go_at_call 43; refine (inRange _ _ _ _).mono ?_; rw [x1]; rintro e w1 ⟨rfl, h1⟩; rw [h1]; clear h1)
          go_ret
          exact ⟨ret_num HE.out.symm, hb.alloc hz _⟩
    · obtain rfl : j = nf := by omega
      have HP : Hid (progErr j par loc d body = firstErr j (fun i => bodyErr j par (loc i) d (body i))) := progErr_body HB.out hall.out
      go_wp2_with fail
      go_loopw [45] (fun i wr => ∃ x : Nat, x ≤ j ∧ i = .int .i64 x ∧ Below w.heap.size w wr ∧ Hid (∀ y, y < x → bodyErr j par (loc y) d (body y) = 0)) (fun i _ => j - (intOf i).toNat)
      case atStart => exact ⟨0, Nat.zero_le _, rfl, hb, fun j hj => absurd hj (Nat.not_lt_zero _)⟩
      case round =>
        clear hb
        obtain ⟨x, hx, rfl, hb, hin⟩ := hrel
        by_cases hxlt : x < j
        · rcases hf with hf | ⟨p, o, rfl, hp, g⟩
          · omega
          obtain ⟨q0, q1, q2, _⟩ := g x hxlt
          have hp' : p < w.heap.size := by omega
          rw [← hb.cell hp'] at q0 q1 q2
          clear g
          have hNr : N ≤ wr.heap.size := Nat.le_trans hN hb.size
          have hst := (hs x hxlt).below (hb.mono hN)
          have hst' := hst
          obtain ⟨ba, bc, eb, _⟩ := hst'.shape
          rw [eb] at q2 hst
          have hfn := hf0.below (hb.mono hN)
          have hkx := hk x hxlt
          have HN1 : Hid (∀ o : Obj, N ≤ (wr.alloc o).heap.size) := fun o => Nat.le_trans hNr (below_alloc _ _).size
          have HT : Hid (∀ o : Obj, StmtsAt N (wr.alloc o) d (.slice ba (body x).len bc) (body x)) := fun o => hst.below ((below_alloc _ _).mono hNr)
          have HR : Hid (bodyErr j par (loc x) d (body x) = if fineB d (body x) 4 = true then errs (stErr j par (loc x)) d (body x) else 2) := bodyErr_ref
          have HSz : Hid (∀ ob : Obj, Calls Tryz.prog 44 #[.slice ba (body x).len bc, .int .i64 4] (wr.alloc ob) fun e w' => e = .returned (.tuple #[.int .i64 (sizeR d (body x) 4), .bool (fineB d (body x) 4)]) ∧ Below (wr.alloc ob).heap.size (wr.alloc ob) w') := fun ob =>
            sized N d _ (body x) 4 _ (HN1.out ob) (HT.out ob) (Or.inl (by decide)) (by decide)
          have HCk : Hid (∀ w1, Below wr.heap.size wr w1 → Calls Tryz.prog 45 #[.slice ba (body x).len bc, .slice (some ⟨p, o, none⟩) j capf, .int .i64 (loc x)] w1 fun e w' => e = .returned (.int .i64 (errs (stErr j par (loc x)) d (body x))) ∧ Below w1.heap.size w1 w') := fun w1 hb1 =>
            refStmts N _ j par loc bv (loc x) d _ (body x) w1 (Nat.le_trans hNr hb1.size) (hst.below (hb1.mono hNr)) hkx (hfn.below (hb1.mono hNr))
          by_cases hfi : fineB d (body x) 4 = true
          · rw [hfi] at HSz
            have HR2 : Hid (bodyErr j par (loc x) d (body x) = errs (stErr j par (loc x)) d (body x)) := HR.out.trans (if_pos hfi)
            clear hfi
            by_cases he : errs (stErr j par (loc x)) d (body x) = 0
            · rw [he] at HCk
              have HZ : Hid (bodyErr j par (loc x) d (body x) = 0) := HR2.out.trans he
              clear he
              go_wp2_with (first
                | (go_at_call 45; refine (HCk.out _ (below_step (below_alloc _ _) hb1)).mono ?_; rintro e w2 ⟨rfl, hb2⟩)
                | (go_at_call 44; refine (HSz.out _).mono ?_; rintro e w1 ⟨rfl, hb1⟩; have m1 := box_in hb1 1 rfl; have m2 := box_in hb1 2 rfl))
              go_roundw
              case rel => exact ⟨x + 1, by omega, by go_num, below_step hb (below_step (below_step (below_alloc _ _) hb1) hb2), upTo hin.out HZ.out⟩
              case measure => simp [intOf]; omega
            · have het : (errs (stErr j par (loc x)) d (body x) != 0) = true := by simp [he]
              have HE : Hid (progErr j par loc d body = errs (stErr j par (loc x)) d (body x)) := (HP.out.trans (firstErr_at hin.out (by rw [HR2.out]; exact he) hxlt)).trans HR2.out
              clear he
              go_wp2_with (first
                | (go_at_call 45; refine (HCk.out _ (below_step (below_alloc _ _) hb1)).mono ?_; rintro e w2 ⟨rfl, hb2⟩)
                | (go_at_call 44; refine (HSz.out _).mono ?_; rintro e w1 ⟨rfl, hb1⟩; have m1 := box_in hb1 1 rfl; have m2 := box_in hb1 2 rfl))
              go_ret
              exact ⟨ret_num HE.out.symm, below_step hb (below_step (below_step (below_alloc _ _) hb1) hb2)⟩
          · have hfi' : fineB d (body x) 4 = false := by simpa using hfi
            rw [hfi'] at HSz
            have HR2 : bodyErr j par (loc x) d (body x) = 2 := HR.out.trans (if_neg hfi)
            have HE : Hid (progErr j par loc d body = 2) := (HP.out.trans (firstErr_at hin.out (by rw [HR2]; decide) hxlt)).trans HR2
            clear hfi hfi' HR2
            go_wp2_with (go_at_call 44; refine (HSz.out _).mono ?_; rintro e w1 ⟨rfl, hb1⟩)
            go_ret
            exact ⟨ret_num HE.out.symm, below_step hb (below_step (below_alloc _ _) hb1)⟩
        · obtain rfl : x = j := by omega
          have HE : Hid (progErr x par loc d body = 0) := HP.out.trans (firstErr_zero hin.out)
          go_wp2_with fail
          go_ret
          exact ⟨ret_num HE.out.symm, hb⟩

end Go.Proofs.YtbmenihakkogkabGreatDoor

namespace Go.Proofs.YtbmenihakkogkabGreatDoor
open Go.RowKit Go.Maps

set_option maxRecDepth 20000 in
set_option maxHeartbeats 4000000 in
theorem codeSays (N : Nat) (v0 v1 v2 : Value) (np nq nf : Nat) (P Q : Nat → Pc) (par loc : Nat → Int) (bv : Nat → Value) (d : Nat) (body : Nat → SL) (w : World) (hN : N ≤ w.heap.size) (he : Env N w) (hp : ProcsAt N w v0 np P) (hq : ProcsAt N w v1 nq Q) (fp : opsFit np P) (hf : FunsAt N w v2 nf par loc bv) (hs : ∀ i, i < nf → StmtsAt N w d (bv i) (body i)) (hk : ∀ i, i < nf → kindsFit d (body i)) :
    Calls Tryz.prog 4 #[v0, v1, v2] w fun e w' => e = .returned (.bool true) ∧ Below w.heap.size w w' := by
  have HCo : Hid (Calls Tryz.prog 14 #[v2] w fun e w' => ∃ (a : Option Addr) (n c : Nat), e = .returned (.tuple #[.slice a n c, .int .i64 (progErr nf par loc d body)]) ∧ Hid (Below w.heap.size w w') ∧ Hid (¬ progErr nf par loc d body = 0 → n = 0) ∧ Hid (progErr nf par loc d body = 0 → n = nf ∧ CompP nf par (.slice a n c) w w')) := compile N v2 nf par loc bv d body w hN hf hs
  have HCs : Hid (∀ wi, Below w.heap.size w wi → Calls Tryz.prog 9 #[v2] wi fun e w' => e = .returned (.int .i64 (progErr nf par loc d body)) ∧ Below wi.heap.size wi w') := fun wi hb => refCheck N v2 nf par loc bv d body wi (Nat.le_trans hN hb.size) (hf.below (hb.mono hN)) (fun i hi => (hs i hi).below (hb.mono hN)) hk
  have HMd : Hid (∀ wi, Below w.heap.size w wi → Calls Tryz.prog 15 #[] wi fun e w' => e = .returned (.bool true) ∧ Below wi.heap.size wi w') := fun wi hb => made N wi (Nat.le_trans hN hb.size) (he.below (hb.mono hN))
  have HCk : Hid (∀ wi, Below w.heap.size w wi → Calls Tryz.prog 16 #[v0] wi fun e w' => e = .returned (.int .i64 (codeErr np P)) ∧ Below wi.heap.size wi w') := fun wi hb => codeCheck N v0 np P wi (Nat.le_trans hN hb.size) (hp.below (hb.mono hN))
  have HCr : Hid (∀ wi, Below w.heap.size w wi → Calls Tryz.prog 17 #[v0] wi fun e w' => e = .returned (.int .i64 (codeErr np P)) ∧ Below wi.heap.size wi w') := fun wi hb => refCheckCode N v0 np P wi (Nat.le_trans hN hb.size) (hp.below (hb.mono hN)) fp
  have HSa : Hid (∀ wi, Below w.heap.size w wi → Calls Tryz.prog 18 #[v0, v1] wi fun e w' => e = .returned (.bool (eqCB np nq P Q)) ∧ Below wi.heap.size wi w') := fun wi hb => codeSame N v0 v1 np nq P Q wi (Nat.le_trans hN hb.size) (hp.below (hb.mono hN)) (hq.below (hb.mono hN))
  have HSr : Hid (∀ wi, Below w.heap.size w wi → Calls Tryz.prog 19 #[v0, v1] wi fun e w' => e = .returned (.bool (eqCB np nq P Q)) ∧ Below wi.heap.size wi w') := fun wi hb => codeSameR N v0 v1 np nq P Q wi (Nat.le_trans hN hb.size) (hp.below (hb.mono hN)) (hq.below (hb.mono hN))
  have HCx : Hid (∀ v w1 wi, CompP nf par v w w1 → Below w1.heap.size w1 wi → Calls Tryz.prog 17 #[v] wi fun e w' => e = .returned (.int .i64 0) ∧ Below wi.heap.size wi w') := fun v w1 wi hc hb => by
    obtain ⟨_, X, x1, x2, x3, _⟩ := hc
    have := refCheckCode w1.heap.size v nf X wi hb.size (x1.below hb) x3
    rw [x2] at this
    exact this
  have HPr : Hid (∀ v w1 wi, CompP nf par v w w1 → Below w1.heap.size w1 wi → ∀ i, i < nf → ∃ b o c rg vc, v = .slice (some ⟨b, o, none⟩) nf c ∧ b < wi.heap.size ∧ wi.cell? ⟨b, o + i * 3, none⟩ = some (.int .i64 (par i)) ∧ wi.cell? ⟨b, o + i * 3 + 1, none⟩ = some (.int .i64 rg) ∧ wi.cell? ⟨b, o + i * 3 + 2, none⟩ = some vc ∧ ∃ x m k, vc = .slice x m k) := fun v w1 wi hc hb i hi => by
    obtain ⟨_, X, x1, x2, x3, x4⟩ := hc
    obtain ⟨a, c, rfl, _, h0 | ⟨b, o, rfl, hlt, hcl⟩⟩ := x1.below hb
    · omega
    obtain ⟨vc, c0, c1, c2, ⟨a2, k2, e2, _⟩⟩ := hcl i hi
    rw [x4 i hi] at c0
    exact ⟨b, o, c, _, vc, rfl, Nat.lt_of_lt_of_le hlt hb.size, c0, c1, c2, a2, _, k2, e2⟩
  have hff := hf
  obtain ⟨fa, fcap, rfl, hn, hfr⟩ := hff
  have hpp := hp
  obtain ⟨pa, pcap, rfl, _⟩ := hpp
  have hqq := hq
  obtain ⟨qa, qcap, rfl, _⟩ := hqq
  have HN : Hid (N ≤ w.heap.size) := hN
  clear he hp hq fp hf hs hk
  go_enter Tryz.func4, Tryz.ntmps4
  by_cases h0 : progErr nf par loc d body = 0
  · have H0 : Hid (progErr nf par loc d body = 0) := h0
    rw [h0] at HCo HCs
    clear h0
    have H0t : Hid (0 = 0) := rfl
    go_wp2_with (first
      | (go_at_call 14; refine HCo.out.mono ?_; rintro e w1 ⟨a, n, c, rfl, B1, Z1, C1⟩)
      | (go_at_call 9; refine (HCs.out w1 B1.out).mono ?_; rintro e w2 ⟨rfl, b2⟩; have B2 := B1.out.trans (b2.mono B1.out.size))
      | (go_at_call 15; refine (HMd.out w2 B2).mono ?_; rintro e w3 ⟨rfl, b3⟩; have B3 := B2.trans (b3.mono B2.size))
      | (go_at_call 16; refine (HCk.out w3 B3).mono ?_; rintro e w4 ⟨rfl, b4⟩; have B4 := B3.trans (b4.mono B3.size))
      | (go_at_call 17; refine HX7.out.mono ?_; rintro e w8 ⟨rfl, b8⟩; have B8 := B7.trans (b8.mono B7.size))
      | (go_at_call 17; refine (HCr.out w4 B4).mono ?_; rintro e w5 ⟨rfl, b5⟩; have B5 := B4.trans (b5.mono B4.size))
      | (go_at_call 18; refine (HSa.out w5 B5).mono ?_; rintro e w6 ⟨rfl, b6⟩; have B6 := B5.trans (b6.mono B5.size))
      | (go_at_call 19; refine (HSr.out w6 B6).mono ?_; rintro e w7 ⟨rfl, b7⟩; have B7 := B6.trans (b7.mono B6.size); have b17 : Below w1.heap.size w1 w7 := (b2.trans (b3.mono b2.size)).trans ((b4.trans ((b5.mono b4.size).trans ((b6.mono (Nat.le_trans b4.size b5.size)).trans (b7.mono (Nat.le_trans (Nat.le_trans b4.size b5.size) b6.size))))).mono (Nat.le_trans b2.size b3.size)); obtain ⟨en, CP⟩ := C1.out trivial; subst n; have CP' : Hid (CompP nf par (.slice a nf c) w w1) := CP; have HX7 := HCx.out _ w1 w7 CP b17; have HX7 : Hid (Calls Tryz.prog 17 #[.slice a nf c] w7 fun e w' => e = .returned (.int .i64 0) ∧ Below w7.heap.size w7 w') := HX7; clear CP))
    have b18 : Below w1.heap.size w1 w8 := b17.trans (b8.mono b17.size)
    go_loopw [59] (fun i wr => ∃ j : Nat, j ≤ nf ∧ i = .int .i64 j ∧ Hid (Below w.heap.size w wr) ∧ Hid (Below w1.heap.size w1 wr)) (fun i _ => nf - (intOf i).toNat)
    case atStart => exact ⟨0, Nat.zero_le _, rfl, B8, b18⟩
    case round =>
      obtain ⟨j, hj, rfl, BB, bb⟩ := hrel
      by_cases hlt : j < nf
      · obtain ⟨xb, xo, xc, rg, vc, ex, hxb, c0, c1, c2, x, m, k, rfl⟩ := HPr.out _ w1 wr CP'.out bb.out j hlt
        injection ex with ex1 ex2 ex3
        subst ex1 ex3
        rcases hfr with h | ⟨fb, fo, rfl, hfb, g⟩
        · omega
        obtain ⟨q0, _⟩ := g j hlt
        rw [← BB.out.cell (p := ⟨fb, fo + j * 3, none⟩) (by show fb < w.heap.size; have := HN.out; omega)] at q0
        have hfl : fb < wr.heap.size := by have := HN.out; have := BB.out.size; omega
        have hlt' : (j : Int) < (nf : Int) := by omega
        have hj0 : (0 : Int) ≤ (j : Int) := by omega
        have hwj : IntKind.i64.wrap ((j : Int) + 1) = (j : Int) + 1 := Go.IntWalk.i64_in _ (by omega)
        clear g
        go_upto_region 12 with (fail)
        have z0 : (wr.alloc (.cells #[.int .i64 (par j), .int .i64 rg, .slice x m k] 40)).cell? ⟨wr.heap.size, 0, none⟩ = some (.int .i64 (par j)) := by
          unfold World.cell?; rw [heap_alloc_new wr _]; rfl
        have z1 : (wr.alloc (.cells #[.int .i64 (par j), .int .i64 rg, .slice x m k] 40)).cell? ⟨fb, fo + j * 3, none⟩ = some (.int .i64 (par j)) := by
          rw [(below_alloc wr _).cell (p := ⟨fb, fo + j * 3, none⟩) hfl]; exact q0
        have B9 : Hid (Below w.heap.size w (wr.alloc (.cells #[.int .i64 (par j), .int .i64 rg, .slice x m k] 40)).drew ∧ Below w1.heap.size w1 (wr.alloc (.cells #[.int .i64 (par j), .int .i64 rg, .slice x m k] 40)).drew) := ⟨(BB.out.trans ((below_alloc wr _).mono BB.out.size)).trans ((Below.refl _ _).drew), (bb.out.trans ((below_alloc wr _).mono bb.out.size)).trans ((Below.refl _ _).drew)⟩
        clear c0 c1 c2 q0
        generalize wr.alloc (.cells #[.int .i64 (par j), .int .i64 rg, .slice x m k] 40) = W9 at *
        go_region_held3 (fun w' => w'.cell? ⟨wr.heap.size, 0, none⟩ = some (.int .i64 (par j)) ∧ w'.cell? ⟨fb, fo + j * 3, none⟩ = some (.int .i64 (par j))) (go_keep) (fail)
        go_wp2_with fail
        go_round
        case rel => exact ⟨j + 1, by omega, rfl, B9.out.1, B9.out.2⟩
        case measure => simp [intOf]; omega
      · have ej : j = nf := by omega
        subst ej
        go_wp2_with fail
        go_ret
        exact ⟨rfl, BB.out⟩
  · have H0 : Hid (¬ progErr nf par loc d body = 0) := h0
    have h0t : (progErr nf par loc d body != 0) = true := by simp [h0]
    clear h0
    go_wp2_with (first
      | (go_at_call 14; refine HCo.out.mono ?_; rintro e w1 ⟨a, n, c, rfl, B1, Z1, C1⟩)
      | (go_at_call 9; refine (HCs.out w1 B1.out).mono ?_; rintro e w2 ⟨rfl, b2⟩; have B2 := B1.out.trans (b2.mono B1.out.size))
      | (go_at_call 15; refine (HMd.out w2 B2).mono ?_; rintro e w3 ⟨rfl, b3⟩; have B3 := B2.trans (b3.mono B2.size))
      | (go_at_call 16; refine (HCk.out w3 B3).mono ?_; rintro e w4 ⟨rfl, b4⟩; have B4 := B3.trans (b4.mono B3.size))
      | (go_at_call 17; refine HX7.out.mono ?_; rintro e w8 ⟨rfl, b8⟩; have B8 := B7.trans (b8.mono B7.size))
      | (go_at_call 17; refine (HCr.out w4 B4).mono ?_; rintro e w5 ⟨rfl, b5⟩; have B5 := B4.trans (b5.mono B4.size))
      | (go_at_call 18; refine (HSa.out w5 B5).mono ?_; rintro e w6 ⟨rfl, b6⟩; have B6 := B5.trans (b6.mono B5.size))
      | (go_at_call 19; refine (HSr.out w6 B6).mono ?_; rintro e w7 ⟨rfl, b7⟩; have B7 := B6.trans (b7.mono B6.size)))
    go_ret
    have en := Z1.out H0.out
    subst en
    exact ⟨rfl, B7⟩

end Go.Proofs.YtbmenihakkogkabGreatDoor
