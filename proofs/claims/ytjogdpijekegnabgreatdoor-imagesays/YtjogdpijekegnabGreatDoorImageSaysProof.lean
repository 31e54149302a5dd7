/- ImageSays returns true for all programs of instructions and all texts: programs are printed and texts are read as the reckoning does, errors too; nothing that was handed in is changed. Conditions: the listed variables of the library read as the program's text lays them (the card ties them to it). -/
import Derived.Test.YtjogdpijekegnabGreatDoorImgSays
import Derived.Test.YtjogdpijekegnabGreatDoorImgLaid
import Derived.Test.YtjogdpijekegnabGreatDoorPartOpen
import Derived.Test.YtjogdpijekegnabGreatDoorCards
import Derived.Test.YtjogdpijekegnabGreatDoorTie
import Derived.Lib.SmallJoins
import Derived.ChangeOld
import Derived.ChangeMaps5
import Derived.Stop.Joined
import Derived.SevenTiedAt
namespace Go.Proofs.YtjogdpijekegnabGreatDoor.imageSays
open Go.ChangeShapes Go.WideShapes Go.ChangeAt Go.RowKit Go.Joins Go.ChangeMaps

theorem own : ownKnob Tryz.prog.godebug = none := by kernel_rfl
theorem laidOut : laidOutB Tryz.prog = true := by kernel_rfl

/-- The cells of a table of numbers. -/
def cellsOfData : DataW Unit → Array Value
  | .agg l => (l.map fun x => match x with
    | .lit (.int k z) => Value.int k z
    | _ => .bool false).toArray
  | _ => #[]
/-- The heap that the door's own run leaves, the pinned table laid. -/
noncomputable def startW (os : Os) : World :=
  { World.doorLaid Tryz.prog 400 os with heap := (World.doorLaid Tryz.prog 400 os).heap.modify 9 fun o => match o with
      | .cells _ t frozen => .cells (cellsOfData Rows.laid_unicode_utf8_first) t frozen
      | o => o }

/-- That heap meets the condition. -/
theorem door_met (os : Os) (args : Array Value) : laidMetH Tryz.prog nlaidL ((startW os).forCall (fun _ _ => 0) ⟨#[], args, []⟩).memory :=
  laidMetH_of_parts3 (fuel := 8) (laidMet_of_run' 8 (by kernel_rfl) (by kernel_rfl)) (by kernel_rfl) (by kernel_rfl)

set_option maxRecDepth 100000 in
theorem lifted (os : Os) (started : os.Started) (H : Type) (enc : TypeId × Value → H) :
    ReturnsInHanded {} Tryz.checked os 5 .any (fun w args => (Rows.imageSaysSpec.pre enc Tryz.prog Tryz.f5 [] false w args ∧ laidMetH Tryz.prog nlaidL w) ∧ sizedMet enc Tryz.prog Tryz.f5 (OpenSpec.ofChange Rows.imageSaysSpec) false w args)
      (Rows.imageSaysSpec.post enc Tryz.prog Tryz.f5 false true false false) := by
  refine returnsInHanded_of_calls own started (by kernel_rfl)
    (ChangeSpec.witness_shaped (enc := enc) (C := Tryz.checked) (os := os) (fn := Tryz.f5) (X := fun w _ => laidMetH Tryz.prog nlaidL w) false (startW os) #[.slice none 0 0, .string ⟨#[]⟩] 8 rfl (World.shaped_of_RefB (by kernel_rfl) (by kernel_rfl)) (by kernel_rfl) (by kernel_rfl) (by kernel_rfl) (door_met os _)) ?_
  intro w tape i _ hsh _ hok hpre _
  obtain ⟨_, _, _, fn', hfn', _, _, _, _, hval0⟩ := hok
  have efn : fn' = Tryz.f5 := Option.some.inj (hfn'.symm.trans Tryz.func5)
  subst efn
  obtain ⟨⟨⟨ds, gs, before, hw, _⟩, hx⟩, _⟩ := hpre
  have hW := DataW.Whole.of_heap (w' := w.forCall tape i) (by rfl) hw
  have hL0 : laidMetH Tryz.prog nlaidL (w.forCall tape i) := hx.of_heap (by rfl)
  have key : Calls Tryz.prog 5 i.args (w.forCall tape i) fun e W' => ∃ v, e = .returned v ∧ Rows.imageSaysSpec.post enc Tryz.prog Tryz.f5 false true false false (w.forCall tape i) i.args v W' := by
    generalize hargs0 : i.args = args at *
    generalize w.forCall tape i = W at *
    have hL : laidMet Tryz.prog nlaidL W := by
      rw [MakeChecks.laidMetH_plain _ _ _ (by kernel_rfl)] at hL0
      exact hL0
    have he := nenv_of_laid hL hsh
    have hval : ∀ (j : Nat) t v, Tryz.f5.params[j]? = some t → args[j]? = some v → Value.okWide Tryz.prog W .any w.heap.size t v := hval0
    have hW' := hW
    obtain ⟨p, q, hA0, hV, rfl, hfz, hnd⟩ := hW
    have hA : DataW.TrodAll enc Tryz.prog W 0 (fun _ => true) true Tryz.f5.params.toList args.toList ds p := hA0
    rw [Tryz.params5] at hA hval
    obtain ⟨v0, vs0, d0, ds0, p0, q0, hargs, rfl, rfl, h0, r0⟩ := trodAll_cons hA
    obtain ⟨v1, vs1, d1, ds1, p1, q1, rfl, rfl, rfl, h1, r1⟩ := trodAll_cons r0
    obtain ⟨rfl, rfl, rfl⟩ := trodAll_nil r1
    obtain rfl : args = #[v0, v1] := by cases args; simp_all
    obtain ⟨rfl, rfl⟩ := trodVars_none hV
    have lt0 : ∀ x ∈ p0, x.block < W.heap.size := by obtain ⟨m, hm⟩ := h0; exact DataW.trod_lt m _ _ _ hm
    have lt1 : ∀ x ∈ p1, x.block < W.heap.size := by obtain ⟨m, hm⟩ := h1; exact DataW.trod_lt m _ _ _ hm
    obtain ⟨np, P, f0, ff⟩ : ∃ (n : Nat) (P : Nat → Pc), ProcsAt W.heap.size W v0 n P ∧ opsFit n P := by
      obtain ⟨a, len, cap, rfl⟩ := okWide_slice Tryz.underlying33 (hval 0 33 v0 rfl rfl)
      obtain ⟨fuel, hf⟩ := h0
      exact procs_fit_of_trod (by simpa [Value.cells] using hf)
    obtain ⟨str, rfl, hsm⟩ : ∃ str, v1 = .string str ∧ str.size ≤ 9223372036854775807 := by
      obtain ⟨x, rfl, _, _, ws⟩ := open_string Tryz.underlying9 (hval 1 9 v1 rfl rfl) h1
      exact ⟨x, rfl, by unfold maxLen at ws; omega⟩
    clear hA0 hval0 hval
    refine (Go.Proofs.YtjogdpijekegnabGreatDoor.imageSays W.heap.size v0 np P str hsm W (Nat.le_refl _) he f0 ff).mono fun e W' ⟨he, bel⟩ => ?_
    subst he
    exact ⟨_, rfl, _, _, _, [], _, [], hW', trodAll_mk1 (shut_bool Tryz.underlying4 _),
      (trodAll_cons_mk (Below.trod laidOut (by kernel_rfl) (of_decide_eq_true (by kernel_rfl)) h0 bel lt0)
        (trodAll_cons_mk (Below.trod laidOut (by kernel_rfl) (of_decide_eq_true (by kernel_rfl)) h1 bel lt1) trodAll_mk0)), rfl, bel.frame _, fun h => by cases h⟩
  refine key.mono fun e W' ⟨v, he, hp⟩ => ?_
  subst he
  exact ChangeSpec.post_blind hp

theorem over : Rows.imageSaysRow.holds Tryz.pinned (OpenSpec.ofChange Rows.imageSaysSpec) :=
  OpenClaim.holds_of_wide 5 Tryz.f5 rfl rfl rfl rfl rfl rfl rfl ⟨rfl, rfl, rfl, rfl, rfl⟩ rfl rfl rfl rfl rfl (by kernel_rfl) Tryz.func5 (by kernel_rfl)
    (of_decide_eq_true (by kernel_rfl)) (by unfold Func.isWrapper; first | (rw [if_pos (by decide +kernel)]; kernel_rfl) | (rw [if_neg (by decide +kernel)]; exact ⟨rfl, rfl⟩))
    (fun os started H enc _ => lifted os started H enc)

end Go.Proofs.YtjogdpijekegnabGreatDoor.imageSays

namespace Go.Proofs.YtjogdpijekegnabGreatDoor
open Go
/-- The statement: the tied card. -/
theorem imageSays_proved : Rows.ImageSaysCardSaid :=
  Claim7.holds_tied_plain_at .later [] [.data, .data, .data, .data, .sentinel, .sentinel, .pinned] true (true, "dcf659c02b0e7779c0d1a5d24db260f5f7f85b7bdc1a5b510a02e6ff1eb076ca") true
    imageSays.over (fun _ h => by cases h) (by kernel_rfl) (fun _ h => by cases h) imageSays_row_tie rfl ⟨rfl, rfl⟩ (by kernel_rfl) rfl
    (fun f fn hf hfn => by
      obtain rfl : f = 5 := Option.some.inj ((show Tryz.prog.funcNamed "wanderer/wandererlaw.ImageSays" = some 5 by kernel_rfl).symm.trans hf) |>.symm
      obtain rfl : fn = Tryz.f5 := (Option.some.inj (Tryz.func5.symm.trans hfn)).symm
      exact ⟨by kernel_rfl, fun j t ht => by
        rw [Tryz.params5] at ht
        have h3 : t = 33 ∨ t = 9 := by
          rcases j with _ | _ | j
          · left; simpa using ht.symm
          · right; simpa using ht.symm
          · simp at ht
        rcases h3 with rfl | rfl
        · exact (show Tryz.prog.wantsStandIn 33 = false by kernel_rfl)
        · exact (show Tryz.prog.wantsStandIn 9 = false by kernel_rfl)⟩)
    (by kernel_rfl)
#print axioms imageSays_proved
end Go.Proofs.YtjogdpijekegnabGreatDoor
