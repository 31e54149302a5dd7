/- WordsSay returns true for all programs and all texts: Print says of a program just what the reckoning says, Parse reads of a text just what it reads, errors too; nothing that was handed in is changed. Conditions: the listed variables of the library and of package words read as the program's text lays them (the card ties them to it). -/
import Derived.Test.YtfblnmbcaglliabGreatDoorDoorMet
namespace Go.Proofs.YtfblnmbcaglliabGreatDoor.wordsSay
open Go.ChangeShapes Go.WideShapes Go.ChangeAt Go.RowKit Go.Joins Go.ChangeMaps

/-- What has no more levels has no more kinds. -/
theorem kinds_le {N : Nat} {w : World} : ∀ {d : Nat} {v : Value} {T : SL}, StmtsAt N w d v T → kindsFit d T → ∀ e, d ≤ e → kindsFit e T
  | 0, _, T, h, _, e, _ => by
    have h0 : T.len = 0 := h.1
    cases e with
    | zero => trivial
    | succ e => exact fun i hi => by omega
  | d + 1, _, T, h, k, e, he => by
    obtain ⟨e, rfl⟩ : ∃ x, e = x + 1 := ⟨e - 1, by omega⟩
    intro i hi
    obtain ⟨a, cap, _, _, h0 | ⟨b, o, _, _, hc⟩⟩ := h
    · omega
    obtain ⟨_, _, _, _, _, _, _, _, _, _, _, _, s1, s2⟩ := hc i hi
    obtain ⟨k1, k2, k3⟩ := k i hi
    exact ⟨k1, kinds_le s1 k2 e (by omega), kinds_le s2 k3 e (by omega)⟩

theorem own : ownKnob Tryz.prog.godebug = none := by kernel_rfl
theorem laidOut : laidOutB Tryz.prog = true := by kernel_rfl

set_option maxRecDepth 100000 in
theorem lifted (os : Os) (started : os.Started) (H : Type) (enc : TypeId × Value → H) :
    ReturnsInHanded {} Tryz.checked os 3 .any (fun w args => (Rows.wordsSaySpec.pre enc Tryz.prog Tryz.f3 [] false w args ∧ laidMetH Tryz.prog laidL w) ∧ sizedMet enc Tryz.prog Tryz.f3 (OpenSpec.ofChange Rows.wordsSaySpec) false w args)
      (Rows.wordsSaySpec.post enc Tryz.prog Tryz.f3 false true false false) := by
  refine returnsInHanded_of_calls own started (by kernel_rfl)
    (ChangeSpec.witness_shaped (enc := enc) (C := Tryz.checked) (os := os) (fn := Tryz.f3) (X := fun w _ => laidMetH Tryz.prog laidL w) false (startW os) #[.slice none 0 0, .string ⟨#[]⟩] 8 rfl (World.shaped_of_RefB (by kernel_rfl) (by kernel_rfl)) (by kernel_rfl) (by kernel_rfl) (by kernel_rfl) (door_met os _)) ?_
  intro w tape i _ hsh _ hok hpre _
  obtain ⟨_, _, _, fn', hfn', _, _, _, _, hval0⟩ := hok
  have efn : fn' = Tryz.f3 := Option.some.inj (hfn'.symm.trans Tryz.func3)
  subst efn
  obtain ⟨⟨⟨ds, gs, before, hw, _⟩, hx⟩, _⟩ := hpre
  have hW := DataW.Whole.of_heap (w' := w.forCall tape i) (by rfl) hw
  have hL0 : laidMetH Tryz.prog laidL (w.forCall tape i) := hx.of_heap (by rfl)
  have key : Calls Tryz.prog 3 i.args (w.forCall tape i) fun e W' => ∃ v, e = .returned v ∧ Rows.wordsSaySpec.post enc Tryz.prog Tryz.f3 false true false false (w.forCall tape i) i.args v W' := by
    generalize hargs0 : i.args = args at *
    generalize w.forCall tape i = W at *
    have hL : laidMet Tryz.prog laidL W := by
      rw [MakeChecks.laidMetH_plain _ _ _ (by kernel_rfl)] at hL0
      exact hL0
    have he := env_of_laid hL hsh
    have hval : ∀ (j : Nat) t v, Tryz.f3.params[j]? = some t → args[j]? = some v → Value.okWide Tryz.prog W .any w.heap.size t v := hval0
    have hW' := hW
    obtain ⟨p, q, hA0, hV, rfl, hfz, hnd⟩ := hW
    have hA : DataW.TrodAll enc Tryz.prog W 0 (fun _ => true) true Tryz.f3.params.toList args.toList ds p := hA0
    rw [Tryz.params3] at hA hval
    obtain ⟨v0, vs0, d0, ds0, p0, q0, hargs, rfl, rfl, h0, r0⟩ := trodAll_cons hA
    obtain ⟨v1, vs1, d1, ds1, p1, q1, rfl, rfl, rfl, h1, r1⟩ := trodAll_cons r0
    obtain ⟨rfl, rfl, rfl⟩ := trodAll_nil r1
    obtain rfl : args = #[v0, v1] := by cases args; simp_all
    obtain ⟨rfl, rfl⟩ := trodVars_none hV
    have lt0 : ∀ x ∈ p0, x.block < W.heap.size := by obtain ⟨m, hm⟩ := h0; exact DataW.trod_lt m _ _ _ hm
    have lt1 : ∀ x ∈ p1, x.block < W.heap.size := by obtain ⟨m, hm⟩ := h1; exact DataW.trod_lt m _ _ _ hm
    obtain ⟨e0, n0, par0, loc0, bv0, B0, f0, s0, k0, _⟩ : ∃ (fuel n : Nat) (par loc : Nat → Int) (bv : Nat → Value) (B : Nat → SL), FunsAt W.heap.size W v0 n par loc bv ∧ (∀ i, i < n → StmtsAt W.heap.size W fuel (bv i) (B i)) ∧ (∀ i, i < n → kindsFit fuel (B i)) ∧ ∀ i, i < n → size fuel (B i) ≤ Rows.uptoBulk d0 := by
      obtain ⟨a, len, cap, rfl⟩ := okWide_slice Tryz.underlying22 (hval 0 22 v0 rfl rfl)
      obtain ⟨fuel, hf⟩ := h0
      exact ⟨fuel, funs_of_trod (by simpa [Value.cells] using hf)⟩
    obtain ⟨str, rfl⟩ : ∃ str, v1 = .string str := by
      obtain ⟨x, rfl, _, _, _⟩ := open_string Tryz.underlying9 (hval 1 9 v1 rfl rfl) h1
      exact ⟨x, rfl⟩
    clear hA0 hval0 hval
    refine (Go.Proofs.YtfblnmbcaglliabGreatDoor.wordsSay W.heap.size (e0 + 70000) W v0 n0 par0 loc0 bv0 B0 str ⟨Nat.le_refl _, by omega, he, spc_of_laid hL he.low, f0, fun i hi => (s0 i hi).le (by omega), fun i hi => kinds_le (s0 i hi) (k0 i hi) _ (by omega)⟩).mono fun e W' ⟨he, bel⟩ => ?_
    subst he
    exact ⟨_, rfl, _, _, _, [], _, [], hW', trodAll_mk1 (shut_bool Tryz.underlying4 _),
      (trodAll_cons_mk (Below.trod laidOut (by kernel_rfl) (of_decide_eq_true (by kernel_rfl)) h0 bel lt0)
        (trodAll_cons_mk (Below.trod laidOut (by kernel_rfl) (of_decide_eq_true (by kernel_rfl)) h1 bel lt1) trodAll_mk0)), rfl, bel.frame _, fun h => by cases h⟩
  refine key.mono fun e W' ⟨v, he, hp⟩ => ?_
  subst he
  exact ChangeSpec.post_blind hp

theorem over : Rows.wordsSayRow.holds Tryz.pinned (OpenSpec.ofChange Rows.wordsSaySpec) :=
  OpenClaim.holds_of_wide 3 Tryz.f3 rfl rfl rfl rfl rfl rfl rfl ⟨rfl, rfl, rfl, rfl, rfl⟩ rfl rfl rfl rfl rfl (by kernel_rfl) Tryz.func3 (by kernel_rfl)
    (of_decide_eq_true (by kernel_rfl)) (by unfold Func.isWrapper; first | (rw [if_pos (by decide +kernel)]; kernel_rfl) | (rw [if_neg (by decide +kernel)]; exact ⟨rfl, rfl⟩))
    (fun os started H enc _ => lifted os started H enc)

end Go.Proofs.YtfblnmbcaglliabGreatDoor.wordsSay

namespace Go.Proofs.YtfblnmbcaglliabGreatDoor
open Go
/-- The statement: the tied card. -/
theorem wordsSay_proved : Rows.WordsSayCardSaid :=
  Claim7.holds_tied_plain_at .later [] [.data, .data, .data, .data, .sentinel, .sentinel, .listed, .data, .data, .data, .data, .pinned] true (true, "63f81e895f5793d2759e3a079f340c189bfd080579f1c1f985eaf8d3867be86e") true
    wordsSay.over (fun _ h => by cases h) (by kernel_rfl) (fun _ h => by cases h) wordsSay_row_tie rfl ⟨rfl, rfl⟩ (by kernel_rfl) rfl
    (fun f fn hf hfn => by
      obtain rfl : f = 3 := Option.some.inj ((show Tryz.prog.funcNamed "wanderer/wandererlaw.WordsSay" = some 3 by kernel_rfl).symm.trans hf) |>.symm
      obtain rfl : fn = Tryz.f3 := (Option.some.inj (Tryz.func3.symm.trans hfn)).symm
      exact ⟨by kernel_rfl, fun j t ht => by
        rw [Tryz.params3] at ht
        have h3 : t = 22 ∨ t = 9 := by
          rcases j with _ | _ | j
          · left; simpa using ht.symm
          · right; simpa using ht.symm
          · simp at ht
        rcases h3 with rfl | rfl
        · exact (show Tryz.prog.wantsStandIn 22 = false by kernel_rfl)
        · exact (show Tryz.prog.wantsStandIn 9 = false by kernel_rfl)⟩)
    (by kernel_rfl)
#print axioms wordsSay_proved
end Go.Proofs.YtfblnmbcaglliabGreatDoor
