/- A step keeps a state right; a run too; what is said is no more than the steps. No Go in it. -/
import Derived.Test.YtipnjoahobplhaaGreatDoorPart51
import Derived.Test.YtipnjoahobplhaaGreatDoorPart52
import Derived.Test.YtipnjoahobplhaaGreatDoorRows
import Derived.Test.YtipnjoahobplhaaGreatDoorCards
import Derived.Test.YtipnjoahobplhaaGreatDoorTie
import Derived.Test.YtipnjoahobplhaaGreatDoorPart0
import Derived.Test.YtipnjoahobplhaaGreatDoorVmRight
import Derived.Test.YtipnjoahobplhaaGreatDoorPart2
import Derived.Test.YtipnjoahobplhaaGreatDoorPart3
import Derived.Test.YtipnjoahobplhaaGreatDoorPart4
import Derived.Test.YtipnjoahobplhaaGreatDoorPart5
import Derived.Test.YtipnjoahobplhaaGreatDoorVmMem
import Derived.Test.YtipnjoahobplhaaGreatDoorPart7
import Derived.Test.YtipnjoahobplhaaGreatDoorPart8
import Derived.Test.YtipnjoahobplhaaGreatDoorVmCopied
import Derived.Test.YtipnjoahobplhaaGreatDoorPart10
import Derived.Test.YtipnjoahobplhaaGreatDoorPart11
import Derived.Test.YtipnjoahobplhaaGreatDoorCIns7c
import Derived.Test.YtipnjoahobplhaaGreatDoorCheckIns
import Derived.Test.YtipnjoahobplhaaGreatDoorCodeCheck
import Derived.Test.YtipnjoahobplhaaGreatDoorPart15
import Derived.Test.YtipnjoahobplhaaGreatDoorVmSwpW
import Derived.Test.YtipnjoahobplhaaGreatDoorPart17
import Derived.Test.YtipnjoahobplhaaGreatDoorVmOps
import Derived.Test.YtipnjoahobplhaaGreatDoorPart19
import Derived.Test.YtipnjoahobplhaaGreatDoorPart20
import Derived.Test.YtipnjoahobplhaaGreatDoorVmValM
import Derived.Test.YtipnjoahobplhaaGreatDoorPart22
import Derived.Test.YtipnjoahobplhaaGreatDoorPart23
import Derived.Test.YtipnjoahobplhaaGreatDoorPart24
import Derived.Test.YtipnjoahobplhaaGreatDoorVSwept
import Derived.Test.YtipnjoahobplhaaGreatDoorPart26
import Derived.Test.YtipnjoahobplhaaGreatDoorPart27
import Derived.Test.YtipnjoahobplhaaGreatDoorPart28
import Derived.Test.YtipnjoahobplhaaGreatDoorShelf
import Derived.Test.YtipnjoahobplhaaGreatDoorPart30
import Derived.Test.YtipnjoahobplhaaGreatDoorPart31
import Derived.Test.YtipnjoahobplhaaGreatDoorPart32
import Derived.Test.YtipnjoahobplhaaGreatDoorPart33
import Derived.Test.YtipnjoahobplhaaGreatDoorPart34
import Derived.Test.YtipnjoahobplhaaGreatDoorQExpr
import Derived.Test.YtipnjoahobplhaaGreatDoorPart36
import Derived.Test.YtipnjoahobplhaaGreatDoorQBlock
import Derived.Test.YtipnjoahobplhaaGreatDoorBlockSucc
import Derived.Test.YtipnjoahobplhaaGreatDoorPart39
import Derived.Test.YtipnjoahobplhaaGreatDoorRefExpr
import Derived.Test.YtipnjoahobplhaaGreatDoorForm
import Derived.Test.YtipnjoahobplhaaGreatDoorPart42
import Derived.Test.YtipnjoahobplhaaGreatDoorSized
import Derived.Test.YtipnjoahobplhaaGreatDoorPart44
import Derived.Test.YtipnjoahobplhaaGreatDoorQRead
import Derived.Test.YtipnjoahobplhaaGreatDoorPart46
import Derived.Test.YtipnjoahobplhaaGreatDoorCodedV
import Derived.Test.YtipnjoahobplhaaGreatDoorCodedC
import Derived.Test.YtipnjoahobplhaaGreatDoorCodedD
import Derived.Test.YtipnjoahobplhaaGreatDoorPart50
import Derived.Lib.SmallJoins
import Derived.ChangeOld
import Derived.ChangeMaps5
import Derived.Stop.Joined
import Derived.SevenTiedAt
namespace Go.Proofs.YtipnjoahobplhaaGreatDoor
section
variable {np : Nat} {P : Nat → Pc} {S : Sta}
theorem runM_right (hc : CodeOK np P) : ∀ (k : Nat) (R : Rn), StaOK np P R.s → R.said.length ≤ 40 → StaOK np P (runM P k R).1.s ∧ (runM P k R).1.said.length ≤ 40 ∧ (runM P k R).2 ≤ k ∧ (runM P k R).1.said.length ≤ R.said.length + (runM P k R).2
  | 0, R, h, hl => ⟨h, hl, Nat.le_refl _, Nat.le_refl _⟩
  | k + 1, R, h, hl => by
    unfold runM
    split
    · rename_i hg
      unfold goesB at hg
      rw [Bool.and_eq_true, Bool.and_eq_true, Bool.or_eq_true, decide_eq_true_iff, decide_eq_true_iff] at hg
      obtain ⟨h1, h2, h3, h4⟩ := stepM_right hc h hg.1
      have hl' : (stepM P R).said.length ≤ 40 := by
        rcases hg.2.2 with e | e
        · omega
        · have : ¬ (insS P R.s).op = 9 := by simpa using e
          omega
      obtain ⟨i1, i2, i3, i4⟩ := runM_right hc k (stepM P R) h1 hl'
      exact ⟨i1, i2, by show (runM P k (stepM P R)).2 + 1 ≤ k + 1; omega, by show (runM P k (stepM P R)).1.said.length ≤ R.said.length + ((runM P k (stepM P R)).2 + 1); omega⟩
    · exact ⟨h, hl, Nat.zero_le _, Nat.le_refl _⟩
end
end Go.Proofs.YtipnjoahobplhaaGreatDoor
namespace Go.Proofs.YtipnjoahobplhaaGreatDoor
def stS (P : Nat → Pc) (S : Sta) : Sta := (stepM P ⟨S, [], false⟩).s
def sdS (P : Nat → Pc) (S : Sta) : List Int := (stepM P ⟨S, [], false⟩).said
def stN (P : Nat → Pc) (S : Sta) : Nat → Sta
  | 0 => S
  | k + 1 => stS P (stN P S k)
def sdN (P : Nat → Pc) (S : Sta) : Nat → List Int
  | 0 => []
  | k + 1 => sdN P S k ++ sdS P (stN P S k)
def rdyN (P : Nat → Pc) (S : Sta) (k : Nat) : Prop := ∀ j, j < k → (stN P S j).st = 0
theorem stepM_s (P : Nat → Pc) (R : Rn) : (stepM P R).s = stS P R.s := by
  unfold stS stepM
  cases doM P (setPos R.s (nextPos P R.s)) (insS P R.s) with
  | none => rfl
  | some x => obtain ⟨a, b, c⟩ := x; rfl
theorem stepM_said (P : Nat → Pc) (R : Rn) : (stepM P R).said = R.said ++ sdS P R.s := by
  unfold sdS stepM
  cases doM P (setPos R.s (nextPos P R.s)) (insS P R.s) with
  | none => simp
  | some x => obtain ⟨a, b, c⟩ := x; simp
theorem itM_s (P : Nat → Pc) (R : Rn) : ∀ k, (itM P R k).s = stN P R.s k
  | 0 => rfl
  | k + 1 => by
    show (stepM P (itM P R k)).s = stS P (stN P R.s k)
    rw [stepM_s, itM_s P R k]
theorem itM_said (P : Nat → Pc) (R : Rn) : ∀ k, (itM P R k).said = R.said ++ sdN P R.s k
  | 0 => by simp [itM, sdN]
  | k + 1 => by
    show (stepM P (itM P R k)).said = R.said ++ (sdN P R.s k ++ sdS P (stN P R.s k))
    rw [stepM_said, itM_said P R k, itM_s, List.append_assoc]
theorem runM_is (P : Nat → Pc) : ∀ (fuel : Nat) (R : Rn), ∃ k, k ≤ fuel ∧ (∀ j, j < k → goesB P (itM P R j) = true) ∧ (k = fuel ∨ goesB P (itM P R k) = false) ∧ runM P fuel R = (itM P R k, k)
  | 0, R => ⟨0, Nat.le_refl _, fun j hj => absurd hj (Nat.not_lt_zero _), Or.inl rfl, rfl⟩
  | fuel + 1, R => by
    by_cases h : goesB P R = true
    · obtain ⟨k, h1, h2, h3, h4⟩ := runM_is P fuel (stepM P R)
      refine ⟨k + 1, by omega, fun j hj => ?_, h3.imp (by omega) (by rw [itM_succ]; exact id), ?_⟩
      · cases j with
        | zero => exact h
        | succ j => rw [itM_succ]; exact h2 j (by omega)
      · rw [itM_succ]
        show (if goesB P R = true then _ else _) = _
        rw [if_pos h, h4]
    · refine ⟨0, by omega, fun j hj => absurd hj (Nat.not_lt_zero _), Or.inr (by show goesB P R = false; simpa using h), ?_⟩
      show (if goesB P R = true then _ else _) = _
      rw [if_neg h]; rfl
theorem runM_slice (P : Nat → Pc) (S : Sta) (fuel : Nat) : ∃ k, k ≤ fuel ∧ runM P fuel ⟨S, [], false⟩ = (itM P ⟨S, [], false⟩ k, k) ∧ (itM P ⟨S, [], false⟩ k).s = stN P S k ∧ (itM P ⟨S, [], false⟩ k).said = sdN P S k ∧ rdyN P S k ∧ (S.st = 0 → 0 < fuel → 0 < k) := by
  obtain ⟨k, h1, h2, h3, h4⟩ := runM_is P fuel ⟨S, [], false⟩
  refine ⟨k, h1, h4, itM_s P _ k, by rw [itM_said]; rfl, fun j hj => ?_, fun hs hf => ?_⟩
  · have := goesB_ready (h2 j hj)
    rwa [itM_s] at this
  · cases k with
    | zero =>
      rcases h3 with e | e
      · omega
      · exfalso
        have : goesB P ⟨S, [], false⟩ = true := by unfold goesB; simp [hs]
        rw [show itM P ⟨S, [], false⟩ 0 = ⟨S, [], false⟩ from rfl, this] at e
        cases e
    | succ k => omega
section
variable {np : Nat} {P : Nat → Pc} {S T : Sta}
end
end Go.Proofs.YtipnjoahobplhaaGreatDoor
namespace Go.Proofs.YtipnjoahobplhaaGreatDoor
open Go.RowKit Go.Maps
theorem runBad {np : Nat} {P : Nat → Pc} (M : Nat) (vp fv cv : Value) (S : Sta) (fuel : Int) (w : World) (hM : M ≤ w.heap.size) (hp : ProcsAt M w vp np P) (hs : StaAt w fv cv S) (he : ¬ runErr np P S fuel = 0) :
    Calls Tryz.prog 14 #[vp, staV fv cv S.st S.wh, .int .i64 fuel] w fun e w' => e = .returned (.tuple #[.agg #[.slice none 0 0, .slice none 0 0, .int .i64 0, .int .i64 0], .slice none 0 0, .int .i64 0, .int .i64 (runErr np P S fuel)]) ∧ Hid (Below w.heap.size w w') := by
  obtain ⟨pa, pc, rfl, _⟩ := id hp
  obtain ⟨fa, fc, rfl, _⟩ := id hs.1
  obtain ⟨ca, cc, rfl, _⟩ := id hs.2
  obtain ⟨W, hW, b0, hsz, hX⟩ := box2 w (.slice fa S.fs.length fc) (.slice ca S.cs.length cc) S.st S.wh
  exact run_bad pa np pc fa ca _ _ fc cc S.st S.wh fuel _ w W hW b0 hsz hX (checkRun M _ _ _ np P S fuel W (Nat.le_trans hM b0.size) (hp.below (b0.mono hM)) (hs.below b0)) (by simp [he])
end Go.Proofs.YtipnjoahobplhaaGreatDoor
namespace Go.Proofs.YtipnjoahobplhaaGreatDoor
open Go.RowKit Go.Maps
set_option maxRecDepth 20000 in
set_option maxHeartbeats 4000000 in
theorem vkeeps_bad (pa : Option Addr) (np pc nf fc nc cc : Nat) (fa ca : Option Addr) (st wh fu er : Int) (w W : World) (HW : Hid (w.alloc (.cells #[.slice fa nf fc, .slice ca nc cc, .int .i64 st, .int .i64 wh] 26) = W)) (HB : Hid (Below w.heap.size w W))
    (HX : Hid (∀ wk, Below W.heap.size W wk → wk.cell? ⟨w.heap.size, 0, none⟩ = some (.slice fa nf fc) ∧ wk.cell? ⟨w.heap.size, 1, none⟩ = some (.slice ca nc cc) ∧ wk.cell? ⟨w.heap.size, 2, none⟩ = some (.int .i64 st) ∧ wk.cell? ⟨w.heap.size, 3, none⟩ = some (.int .i64 wh)))
    (HR : Hid (TrueC 17 W))
    (HC : Hid (Calls Tryz.prog 14 #[.slice pa np pc, .agg #[.slice fa nf fc, .slice ca nc cc, .int .i64 st, .int .i64 wh], .int .i64 fu] W fun e w' => e = .returned (.tuple #[.agg #[.slice none 0 0, .slice none 0 0, .int .i64 0, .int .i64 0], .slice none 0 0, .int .i64 0, .int .i64 er]) ∧ Hid (Below W.heap.size W w')))
    (he : (er != 0) = true) :
    Calls Tryz.prog 5 #[.slice pa np pc, .agg #[.slice fa nf fc, .slice ca nc cc, .int .i64 st, .int .i64 wh], .int .i64 fu] w fun e w' => e = .returned (.bool true) ∧ Hid (Below w.heap.size w w') := by
  obtain ⟨k0, k1, k2, k3⟩ := HX.out W (Below.refl _ _)
  go_enter Tryz.func5, Tryz.ntmps5
  go_upto_region 1 with (fail)
  rw [HW.out]
  go_upto_region 2 with (go_at_call 14; refine HC.out.mono ?_; rintro e w1 ⟨rfl, HB1⟩)
  obtain ⟨W1, hW1⟩ : ∃ W1, w1.alloc (.cells #[.slice none 0 0, .slice none 0 0, .int .i64 0, .int .i64 0] 26) = W1 := ⟨_, rfl⟩
  rw [hW1]
  have hb1 : Below W.heap.size W W1 := below_step HB1.out (hW1 ▸ below_alloc w1 _)
  clear hW1 k0 k1 k2 k3
  go_wp2_with (first
    | (go_at_call 17; refine (HR.out _ (below_step hb1 hb2)).mono ?_; rintro e w3 ⟨rfl, hb3⟩)
    | (go_at_call 17; refine (HR.out _ hb1).mono ?_; rintro e w2 ⟨rfl, hb2⟩))
  go_ret
  exact ⟨rfl, below_step HB.out (below_step hb1 (below_step hb2 hb3))⟩
set_option maxRecDepth 20000 in
set_option maxHeartbeats 8000000 in
theorem vkeeps_good (S T : Sta) (k f ns : Nat) (pa : Option Addr) (np pc fc cc : Nat) (fa ca : Option Addr) (w W : World) (HW : Hid (w.alloc (.cells #[.slice fa S.fs.length fc, .slice ca S.cs.length cc, .int .i64 S.st, .int .i64 S.wh] 26) = W)) (HB : Hid (Below w.heap.size w W))
    (HX : Hid (∀ wk, Below W.heap.size W wk → wk.cell? ⟨w.heap.size, 0, none⟩ = some (.slice fa S.fs.length fc) ∧ wk.cell? ⟨w.heap.size, 1, none⟩ = some (.slice ca S.cs.length cc) ∧ wk.cell? ⟨w.heap.size, 2, none⟩ = some (.int .i64 S.st) ∧ wk.cell? ⟨w.heap.size, 3, none⟩ = some (.int .i64 S.wh)))
    (HR : Hid (TrueC 17 W))
    (HC : Hid (Calls Tryz.prog 14 #[.slice pa np pc, .agg #[.slice fa S.fs.length fc, .slice ca S.cs.length cc, .int .i64 S.st, .int .i64 S.wh], .int .i64 f] W fun e w' => ∃ ga gc ha hc sa sc, e = .returned (.tuple #[.agg #[.slice ga T.fs.length gc, .slice ha T.cs.length hc, .int .i64 T.st, .int .i64 T.wh], .slice sa ns sc, .int .i64 k, .int .i64 0]) ∧ Hid (StaAt w' (.slice ga T.fs.length gc) (.slice ha T.cs.length hc) T) ∧ Hid (Below W.heap.size W w')))
    (HK : Hid (∀ ga gc ha hc w0, StaAt w0 (.slice ga T.fs.length gc) (.slice ha T.cs.length hc) T → Below W.heap.size W w0 → Calls Tryz.prog 21 #[.slice pa np pc, .agg #[.slice ga T.fs.length gc, .slice ha T.cs.length hc, .int .i64 T.st, .int .i64 T.wh]] w0 fun e w' => e = .returned (.int .i64 0) ∧ Below w0.heap.size w0 w'))
    (HS : Hid (k = 0 → ∀ ga gc ha hc w0, StaAt w0 (.slice ga T.fs.length gc) (.slice ha T.cs.length hc) T → Below W.heap.size W w0 → Calls Tryz.prog 19 #[.agg #[.slice ga T.fs.length gc, .slice ha T.cs.length hc, .int .i64 T.st, .int .i64 T.wh], .agg #[.slice fa S.fs.length fc, .slice ca S.cs.length cc, .int .i64 S.st, .int .i64 S.wh]] w0 fun e w' => e = .returned (.bool true) ∧ Below w0.heap.size w0 w'))
    (HL : Hid (¬ T.st = 0 → ∀ ga gc ha hc w0, StaAt w0 (.slice ga T.fs.length gc) (.slice ha T.cs.length hc) T → Below W.heap.size W w0 → Calls Tryz.prog 14 #[.slice pa np pc, .agg #[.slice ga T.fs.length gc, .slice ha T.cs.length hc, .int .i64 T.st, .int .i64 T.wh], .int .i64 f] w0 fun e w' => e = .returned (.tuple #[.agg #[.slice none 0 0, .slice none 0 0, .int .i64 0, .int .i64 0], .slice none 0 0, .int .i64 0, .int .i64 7]) ∧ Hid (Below w0.heap.size w0 w')))
    (hk : k ≤ f) (hs : ns ≤ k) (h40 : ns ≤ 40) :
    Calls Tryz.prog 5 #[.slice pa np pc, .agg #[.slice fa S.fs.length fc, .slice ca S.cs.length cc, .int .i64 S.st, .int .i64 S.wh], .int .i64 f] w fun e w' => e = .returned (.bool true) ∧ Hid (Below w.heap.size w w') := by
  obtain ⟨k0, k1, k2, k3⟩ := HX.out W (Below.refl _ _)
  go_enter Tryz.func5, Tryz.ntmps5
  go_upto_region 1 with (fail)
  rw [HW.out]
  go_upto_region 2 with (go_at_call 14; refine HC.out.mono ?_; rintro e w1 ⟨ga, gc, ha, hc, sa, sc, rfl, HT, HB1⟩)
  obtain ⟨W1, hW1⟩ : ∃ W1, w1.alloc (.cells #[.slice ga T.fs.length gc, .slice ha T.cs.length hc, .int .i64 T.st, .int .i64 T.wh] 26) = W1 := ⟨_, rfl⟩
  rw [hW1]
  have b1 : Below w1.heap.size w1 W1 := hW1 ▸ below_alloc w1 _
  have hb1 : Below W.heap.size W W1 := below_step HB1.out b1
  have HT1 : Hid (∀ wk, Below W1.heap.size W1 wk → StaAt wk (.slice ga T.fs.length gc) (.slice ha T.cs.length hc) T ∧ Below W.heap.size W wk) := fun wk hk => ⟨HT.out.below (below_step b1 hk), below_step hb1 hk⟩
  have HX1 : Hid (∀ wk, Below W1.heap.size W1 wk → (wk.cell? ⟨w.heap.size, 0, none⟩ = some (.slice fa S.fs.length fc) ∧ wk.cell? ⟨w.heap.size, 1, none⟩ = some (.slice ca S.cs.length cc) ∧ wk.cell? ⟨w.heap.size, 2, none⟩ = some (.int .i64 S.st) ∧ wk.cell? ⟨w.heap.size, 3, none⟩ = some (.int .i64 S.wh)) ∧
      wk.cell? ⟨w1.heap.size, 0, none⟩ = some (.slice ga T.fs.length gc) ∧ wk.cell? ⟨w1.heap.size, 1, none⟩ = some (.slice ha T.cs.length hc) ∧ wk.cell? ⟨w1.heap.size, 2, none⟩ = some (.int .i64 T.st) ∧ wk.cell? ⟨w1.heap.size, 3, none⟩ = some (.int .i64 T.wh)) := fun wk hk => by
    refine ⟨HX.out _ (below_step hb1 hk), ?_, ?_, ?_, ?_⟩ <;> exact below_at hk (by rw [← hW1, World.cell?_alloc_new]; rfl)
  clear hW1 k0 k1 k2 k3 b1
  have hk1 : (k : Int) ≤ (f : Int) := by omega
  have hk2 : (0 : Int) ≤ (k : Int) := by omega
  have hk3 : ¬ (f : Int) < (k : Int) := by omega
  have hs1 : ¬ (k : Int) < (ns : Int) := by omega
  have hs2 : ¬ (40 : Int) < (ns : Int) := by omega
  by_cases hk0 : k = 0
  all_goals
    have HK0 := (show Hid _ from hk0)
    by_cases ht : T.st = 0
    all_goals
      have HTt := (show Hid _ from ht)
      first
        | (have hkb : ((k : Int) == 0) = false := by simp [hk0])
        | (have hkb : ((k : Int) == 0) = true := by rw [hk0]; rfl)
      first
        | (have htb : (T.st != 0) = false := by rw [ht]; rfl)
        | (have htb : (T.st != 0) = true := by simpa using ht)
      clear hk0 ht
      go_wp2_with (first
        | (go_at_call 14; refine (HL.out HTt.out ga gc ha hc _ (HT1.out _ hb4).1 (HT1.out _ hb4).2).mono ?_; rintro e w5 ⟨rfl, hb5⟩)
        | (go_at_call 19; refine (HS.out HK0.out ga gc ha hc _ (HT1.out _ hb3).1 (HT1.out _ hb3).2).mono ?_; rintro e w4 ⟨rfl, hb4'⟩; have hb4 := below_step hb3 hb4'; clear hb4'; obtain ⟨⟨k0, k1, k2, k3⟩, j0, j1, j2, j3⟩ := HX1.out _ hb4)
        | (go_at_call 21; refine (HK.out ga gc ha hc _ (HT1.out _ hb2).1 (HT1.out _ hb2).2).mono ?_; rintro e w3 ⟨rfl, hb3'⟩; have hb3 := below_step hb2 hb3'; clear hb3'; have hb4 := hb3; obtain ⟨⟨k0, k1, k2, k3⟩, j0, j1, j2, j3⟩ := HX1.out _ hb3)
        | (go_at_call 17; refine (HR.out _ hb1).mono ?_; rintro e w2 ⟨rfl, hb2⟩; obtain ⟨_, j0, j1, j2, j3⟩ := HX1.out _ hb2))
      go_ret
      first
        | exact ⟨rfl, below_step HB.out (below_step hb1 (below_step hb4 hb5.out))⟩
        | exact ⟨rfl, below_step HB.out (below_step hb1 hb4)⟩
        | (refine ⟨rfl, below_step HB.out (below_step hb1 ?_)⟩; first | exact below_step (below_step hb4 hb5.out) (below_alloc _ _) | exact below_step hb4 (below_step hb5.out (below_alloc _ _)))
theorem vmKeeps {np : Nat} {P : Nat → Pc} (M : Nat) (vp fv cv : Value) (S : Sta) (fuel : Int) (w : World) (hM : M ≤ w.heap.size) (hp : ProcsAt M w vp np P) (hs : StaAt w fv cv S) (HR : TrueC 17 w) :
    Calls Tryz.prog 5 #[vp, staV fv cv S.st S.wh, .int .i64 fuel] w fun e w' => e = .returned (.bool true) ∧ Hid (Below w.heap.size w w') := by
  obtain ⟨pa, pc, rfl, _⟩ := id hp
  obtain ⟨fa, fc, rfl, _⟩ := id hs.1
  obtain ⟨ca, cc, rfl, _⟩ := id hs.2
  obtain ⟨W, hW, b0, _, i0, i1, i2, i3⟩ := sbox w (.slice fa S.fs.length fc) (.slice ca S.cs.length cc) S.st S.wh
  have hX : ∀ wk, Below W.heap.size W wk → wk.cell? ⟨w.heap.size, 0, none⟩ = some (.slice fa S.fs.length fc) ∧ wk.cell? ⟨w.heap.size, 1, none⟩ = some (.slice ca S.cs.length cc) ∧ wk.cell? ⟨w.heap.size, 2, none⟩ = some (.int .i64 S.st) ∧ wk.cell? ⟨w.heap.size, 3, none⟩ = some (.int .i64 S.wh) := fun wk hk => ⟨below_at hk i0, below_at hk i1, below_at hk i2, below_at hk i3⟩
  have hpk : ∀ wk, Below W.heap.size W wk → ProcsAt M wk (.slice pa np pc) np P := fun wk hk => hp.below ((below_step b0 hk).mono hM)
  have hMk : ∀ wk, Below W.heap.size W wk → M ≤ wk.heap.size := fun wk hk => Nat.le_trans hM (below_step b0 hk).size
  by_cases he : runErr np P S fuel = 0
  · obtain ⟨hc, ok, hst, h0, h1, hv⟩ := runErr_right he
    obtain ⟨f, rfl⟩ : ∃ f : Nat, fuel = f := ⟨fuel.toNat, by omega⟩
    obtain ⟨_, _, hce⟩ := vmErr_right hv
    obtain ⟨r1, r2, r3, r4⟩ := runM_right hc f ⟨S, [], false⟩ ok (Nat.zero_le _)
    generalize hT : (runM P f ⟨S, [], false⟩).1.s = T at *
    generalize hsd : (runM P f ⟨S, [], false⟩).1.said = said at *
    generalize hkk : (runM P f ⟨S, [], false⟩).2 = k at *
    have heT : vmErr np P T = 0 := by unfold vmErr; rw [if_pos hce]; exact staErr_zero.2 r1
    refine vkeeps_good S T k f said.length pa np pc fc cc fa ca w W hW b0 hX (HR.up b0) ?_ (fun ga gc ha hc' w0 h0 hb => ?_) (fun hk0 ga gc ha hc' w0 h0 hb => ?_) (fun ht ga gc ha hc' w0 h0' hb => ?_) r3 (by simpa using r4) r2
    · have := runK M _ _ _ S f W (Nat.le_trans hM b0.size) (hpk W (Below.refl _ _)) (hs.below b0) he
      rw [hT, hsd, hkk] at this
      refine this.mono ?_
      rintro e w' ⟨fa', fc', ca', cc', sa, sc, rfl, ho, _, hb⟩
      exact ⟨fa', fc', ca', cc', sa, sc, rfl, ho.out.at hc r1, hb⟩
    · have := vmCheck M _ _ _ np P T w0 (hMk w0 hb) (hpk w0 hb) h0
      rw [heT] at this
      exact this
    · have e : T = S := by
        obtain ⟨j, _, j2, j3, _⟩ := runM_slice P S f
        rw [j2] at hkk
        rw [j2, j3] at hT
        have : j = 0 := by rw [← hk0]; exact hkk
        rw [this] at hT
        exact hT.symm
      subst e
      have := vmSame T T _ _ _ _ w0 h0 (hs.below (below_step b0 hb))
      rw [eqSt_iff.2 rfl] at this
      exact this
    · have e7 : runErr np P T f = 7 := by
        unfold runErr
        rw [if_pos heT, if_neg (by omega), if_neg ht]
      have := runBad M _ _ _ T f w0 (hMk w0 hb) (hpk w0 hb) h0' (by rw [e7]; decide)
      rw [e7] at this
      exact this
  · exact vkeeps_bad pa np pc _ fc _ cc fa ca S.st S.wh fuel _ w W hW b0 hX (HR.up b0) (runBad M _ _ _ S fuel W (Nat.le_trans hM b0.size) (hpk W (Below.refl _ _)) (hs.below b0) he) (by simpa using he)
end Go.Proofs.YtipnjoahobplhaaGreatDoor
namespace Go.Proofs.YtipnjoahobplhaaGreatDoor.vmKeeps
open Go.ChangeShapes Go.WideShapes Go.ChangeAt Go.RowKit Go.Joins Go.ChangeMaps Go.Proofs.YtipnjoahobplhaaGreatDoor.doorV
theorem own : ownKnob Tryz.prog.godebug = none := by kernel_rfl
theorem laidOut : laidOutB Tryz.prog = true := by kernel_rfl
set_option maxRecDepth 100000 in
theorem lifted (os : Os) (started : os.Started) (H : Type) (enc : TypeId × Value → H) :
    ReturnsInHanded {} Tryz.checked os 5 .any (fun w args => (Rows.vmKeepsSpec.pre enc Tryz.prog Tryz.f5 [] false w args ∧ laidMetH Tryz.prog laidL w) ∧ sizedMet enc Tryz.prog Tryz.f5 (OpenSpec.ofChange Rows.vmKeepsSpec) false w args)
      (Rows.vmKeepsSpec.post enc Tryz.prog Tryz.f5 false true false false) := by
  refine returnsInHanded_of_calls own started (by kernel_rfl)
    (ChangeSpec.witness_shaped (enc := enc) (C := Tryz.checked) (os := os) (fn := Tryz.f5) (X := fun w _ => laidMetH Tryz.prog laidL w) false (startW os) #[.slice none 0 0, .agg #[.slice none 0 0, .slice none 0 0, .int .i64 0, .int .i64 0], .int .i64 0] 8 rfl (World.shaped_of_RefB (by kernel_rfl) (by kernel_rfl)) (by kernel_rfl) (by kernel_rfl) (by kernel_rfl) (door_met os _)) ?_
  intro w tape i _ hsh _ hok hpre _
  obtain ⟨_, _, _, fn', hfn', _, _, _, _, hval0⟩ := hok
  have efn : fn' = Tryz.f5 := Option.some.inj (hfn'.symm.trans Tryz.func5)
  subst efn
  obtain ⟨⟨⟨ds, gs, before, hw, _⟩, hx⟩, _⟩ := hpre
  have hW := DataW.Whole.of_heap (w' := w.forCall tape i) (by rfl) hw
  have hL0 : laidMetH Tryz.prog laidL (w.forCall tape i) := hx.of_heap (by rfl)
  have key : Calls Tryz.prog 5 i.args (w.forCall tape i) fun e W' => ∃ v, e = .returned v ∧ Rows.vmKeepsSpec.post enc Tryz.prog Tryz.f5 false true false false (w.forCall tape i) i.args v W' := by
    generalize hargs0 : i.args = args at *
    generalize w.forCall tape i = W at *
    have hL : laidMet Tryz.prog laidL W := by
      rw [MakeChecks.laidMetH_plain _ _ _ (by kernel_rfl)] at hL0
      exact hL0
    have he := env_of_laid hL hsh
    have hsp := spc_of_laid hL he.low
    have hval : ∀ (j : Nat) t v, Tryz.f5.params[j]? = some t → args[j]? = some v → Value.okWide Tryz.prog W .any w.heap.size t v := hval0
    have hW' := hW
    obtain ⟨p, q, hA0, hV, rfl, hfz, hnd⟩ := hW
    have hA : DataW.TrodAll enc Tryz.prog W 0 (fun _ => true) true Tryz.f5.params.toList args.toList ds p := hA0
    rw [Tryz.params5] at hA hval
    obtain ⟨v0, vs0, d0, ds0, p0, q0, hargs, rfl, rfl, h0, r0⟩ := trodAll_cons hA
    obtain ⟨v1, vs1, d1, ds1, p1, q1, rfl, rfl, rfl, h1, r1⟩ := trodAll_cons r0
    obtain ⟨v2, vs2, d2, ds2, p2, q2, rfl, rfl, rfl, h2, r2⟩ := trodAll_cons r1
    obtain ⟨rfl, rfl, rfl⟩ := trodAll_nil r2
    obtain rfl : args = #[v0, v1, v2] := by cases args; simp_all
    obtain ⟨rfl, rfl⟩ := trodVars_none hV
    have lt0 : ∀ x ∈ p0, x.block < W.heap.size := by obtain ⟨m, hm⟩ := h0; exact DataW.trod_lt m _ _ _ hm
    have lt1 : ∀ x ∈ p1, x.block < W.heap.size := by obtain ⟨m, hm⟩ := h1; exact DataW.trod_lt m _ _ _ hm
    have lt2 : ∀ x ∈ p2, x.block < W.heap.size := by obtain ⟨m, hm⟩ := h2; exact DataW.trod_lt m _ _ _ hm
    obtain ⟨np0, P0, f0⟩ : ∃ (n : Nat) (P : Nat → Pc), ProcsAt W.heap.size W v0 n P := by
      obtain ⟨a, len, cap, rfl⟩ := okWide_slice Tryz.underlying22 (hval 0 22 v0 rfl rfl)
      obtain ⟨fuel, hf⟩ := h0
      exact procs_of_trod (by simpa [Value.cells] using hf)
    obtain ⟨fv1, cv1, S1, rfl, s1⟩ := sta_of_trod (hval 1 26 v1 rfl rfl) h1
    obtain ⟨z2, rfl, _⟩ : ∃ z, v2 = .int .i64 z ∧ (Lit.int .i64 z).wf = true := by
      obtain ⟨x, rfl, _, _, y⟩ := open_int Tryz.underlying3 (hval 2 3 v2 rfl rfl) h2
      exact ⟨x, rfl, y⟩
    clear hA0 hval0 hval
    have HR : TrueC 17 W := fun wk hk => ran W.heap.size wk hk.size (he.below hk) (hsp.below hk)
    refine (Go.Proofs.YtipnjoahobplhaaGreatDoor.vmKeeps W.heap.size v0 fv1 cv1 S1 z2 W (Nat.le_refl _) f0 s1 HR).mono fun e W' ⟨he, bel0⟩ => ?_
    have bel : Below W.heap.size W W' := bel0
    subst he
    exact ⟨_, rfl, _, _, _, [], _, [], hW', trodAll_mk1 (shut_bool Tryz.underlying4 _),
      (trodAll_cons_mk (Below.trod laidOut (by kernel_rfl) (of_decide_eq_true (by kernel_rfl)) h0 bel lt0)
        (trodAll_cons_mk (Below.trod laidOut (by kernel_rfl) (of_decide_eq_true (by kernel_rfl)) h1 bel lt1)
        (trodAll_cons_mk (Below.trod laidOut (by kernel_rfl) (of_decide_eq_true (by kernel_rfl)) h2 bel lt2)
        trodAll_mk0))), rfl, bel.frame _, fun h => by cases h⟩
  refine key.mono fun e W' ⟨v, he, hp⟩ => ?_
  subst he
  exact ChangeSpec.post_blind hp
theorem over : Rows.vmKeepsRow.holds Tryz.pinned (OpenSpec.ofChange Rows.vmKeepsSpec) :=
  OpenClaim.holds_of_wide 5 Tryz.f5 rfl rfl rfl rfl rfl rfl rfl ⟨rfl, rfl, rfl, rfl, rfl⟩ rfl rfl rfl rfl rfl (by kernel_rfl) Tryz.func5 (by kernel_rfl)
    (of_decide_eq_true (by kernel_rfl)) (by unfold Func.isWrapper; first | (rw [if_pos (by decide +kernel)]; kernel_rfl) | (rw [if_neg (by decide +kernel)]; exact ⟨rfl, rfl⟩))
    (fun os started H enc _ => lifted os started H enc)
end Go.Proofs.YtipnjoahobplhaaGreatDoor.vmKeeps
namespace Go.Proofs.YtipnjoahobplhaaGreatDoor
open Go
theorem vmKeeps_proved : Rows.VmKeepsCardSaid :=
  Claim7.holds_tied_plain_at .later [] [.data, .data, .data, .data, .sentinel, .sentinel, .listed, .data, .pinned] true (true, "dff21ad9f1f10c1c189127e1ed283e4d266734e2cee318953057fdeb958940c7") true
    vmKeeps.over (fun _ h => by cases h) (by kernel_rfl) (fun _ h => by cases h) vmKeeps_row_tie rfl ⟨rfl, rfl⟩ (by kernel_rfl) rfl
    (fun f fn hf hfn => by
      obtain rfl : f = 5 := Option.some.inj ((show Tryz.prog.funcNamed "wanderer/wandererlaw.VmKeeps" = some 5 by kernel_rfl).symm.trans hf) |>.symm
      obtain rfl : fn = Tryz.f5 := (Option.some.inj (Tryz.func5.symm.trans hfn)).symm
      exact ⟨by kernel_rfl, fun j t ht => by
        rw [Tryz.params5] at ht
        have h3 : t = 22 ∨ t = 26 ∨ t = 3 := by
          rcases j with _ | _ | _ | j
          · left; simpa using ht.symm
          · right; left; simpa using ht.symm
          · right; right; simpa using ht.symm
          · simp at ht
        rcases h3 with rfl | rfl | rfl
        · exact (show Tryz.prog.wantsStandIn 22 = false by kernel_rfl)
        · exact (show Tryz.prog.wantsStandIn 26 = false by kernel_rfl)
        · exact (show Tryz.prog.wantsStandIn 3 = false by kernel_rfl)⟩)
    (by kernel_rfl)
#print axioms vmKeeps_proved
end Go.Proofs.YtipnjoahobplhaaGreatDoor
