/- The heap that the door's own run leaves, the pinned table laid, meets the row's condition: a start is there. -/
import Derived.Test.YtfblnmbcaglliabGreatDoorLaidEnv
import Derived.Test.YtfblnmbcaglliabGreatDoorCards
import Derived.Test.YtfblnmbcaglliabGreatDoorTie
import Derived.Lib.SmallJoins
import Derived.ChangeOld
import Derived.ChangeMaps5
import Derived.Stop.Joined
import Derived.SevenTiedAt
namespace Go.Proofs.YtfblnmbcaglliabGreatDoor.wordsSay
open Go.ChangeShapes Go.WideShapes Go.ChangeAt Go.RowKit Go.Joins Go.ChangeMaps

/-- A number for each place. -/
def placeKey : MemPlace → Nat
  | .cell b off => (b * 1024 + off) * 2
  | .map b => b * 2 + 1

/-- No number comes twice: those that came are bits of m. -/
def fresh : List Nat → Nat → Bool
  | [], _ => true
  | k :: r, m => !(m.testBit k) && fresh r (m ||| 2 ^ k)

theorem fresh_ok : ∀ {l : List Nat} {m : Nat}, fresh l m = true → l.Nodup ∧ ∀ k ∈ l, m.testBit k = false
  | [], _, _ => ⟨List.nodup_nil, fun _ h => by cases h⟩
  | k :: r, m, h => by
    unfold fresh at h
    rw [Bool.and_eq_true] at h
    obtain ⟨h1, h2⟩ := h
    obtain ⟨n1, n2⟩ := fresh_ok h2
    have hk : m.testBit k = false := by simpa using h1
    refine ⟨List.nodup_cons.2 ⟨fun hm => ?_, n1⟩, fun x hx => ?_⟩
    · have := n2 k hm
      rw [Nat.testBit_or, Nat.testBit_two_pow_self] at this
      simp at this
    · rcases List.mem_cons.1 hx with rfl | hx
      · exact hk
      · have := n2 x hx
        rw [Nat.testBit_or] at this
        exact (Bool.or_eq_false_iff.1 this).1

theorem nodup_of_fresh {ps : List MemPlace} (h : fresh (ps.map placeKey) 0 = true) : ps.Nodup := List.Pairwise.of_map placeKey (fun _ _ hab e => hab (congrArg placeKey e)) (fresh_ok h).1

theorem laidMet_run {P : Program} {w : World} {l : List (String × DataW Unit)} (fuel : Nat) (h : (DataW.laidRun P w fuel (l.map (·.1))).map (·.1) = some l)
    (hr : (DataW.laidRun P w fuel (l.map (·.1))).map (fun x => fresh (x.2.map placeKey) 0 && laidRowsB P w x.2) = some true) : laidMet P l w := by
  cases hx : DataW.laidRun P w fuel (l.map (·.1)) with
  | none => simp [hx] at h
  | some x =>
    obtain ⟨l', ps⟩ := x
    simp only [hx, Option.map_some, Option.some.injEq] at h hr
    subst h
    simp only [Bool.and_eq_true] at hr
    exact laidMet_of_run fuel hx (decide_eq_true (nodup_of_fresh hr.1)) hr.2

/-- The cells of a table of numbers. -/
def cellsOfData : DataW Unit → Array Value
  | .agg l => (l.map fun x => match x with
    | .lit (.int k z) => Value.int k z
    | _ => .bool false).toArray
  | _ => #[]
theorem gFirst : Tryz.prog.globalNamed "unicode/utf8.first" = some 9 := by kernel_rfl
/-- The heap that the door's own run leaves, the pinned table laid. -/
noncomputable def startW (os : Os) : World :=
  { World.doorLaid Tryz.prog 400 os with heap := (World.doorLaid Tryz.prog 400 os).heap.modify 9 fun o => match o with
      | .cells _ t frozen => .cells (cellsOfData Rows.laid_unicode_utf8_first) t frozen
      | o => o }

theorem door_one (os : Os) (args : Array Value) : (DataW.laidRun Tryz.prog ((startW os).forCall (fun _ _ => 0) ⟨#[], args, []⟩).memory 8 ((laidL.filter fun x => x.2.handleName?.isNone).map (·.1))).map (·.1) = some (laidL.filter fun x => x.2.handleName?.isNone) := by kernel_rfl

theorem door_two (os : Os) (args : Array Value) : (DataW.laidRun Tryz.prog ((startW os).forCall (fun _ _ => 0) ⟨#[], args, []⟩).memory 8 ((laidL.filter fun x => x.2.handleName?.isNone).map (·.1))).map (fun x => fresh (x.2.map placeKey) 0 && laidRowsB Tryz.prog ((startW os).forCall (fun _ _ => 0) ⟨#[], args, []⟩).memory x.2) = some true := by kernel_rfl

/-- That heap meets the condition. -/
theorem door_met (os : Os) (args : Array Value) : laidMetH Tryz.prog laidL ((startW os).forCall (fun _ _ => 0) ⟨#[], args, []⟩).memory :=
  laidMetH_of_parts3 (fuel := 8) (laidMet_run 8 (door_one os args) (door_two os args)) (by kernel_rfl) (by kernel_rfl)

end Go.Proofs.YtfblnmbcaglliabGreatDoor.wordsSay
