/- CodeSays returns true for all programs of instructions and all programs as people write them: instructions are checked and held against others as the reckoning does, what is compiled is a program with the same parameters, or the source isn't one, and the error is the reckoning's; nothing that was handed in is changed. Conditions: the listed variables of the library and of package words read as the program's text lays them (the card ties them to it). -/
import Derived.Test.YtbmenihakkogkabGreatDoorPart15
import Derived.Deep.SlicePairs
import Derived.Test.YtbmenihakkogkabGreatDoorRefCode
import Derived.Test.YtbmenihakkogkabGreatDoorPart52
import Derived.Test.YtbmenihakkogkabGreatDoorCards
import Derived.Test.YtbmenihakkogkabGreatDoorTie
import Derived.Lib.SmallJoins
import Derived.ChangeOld
import Derived.ChangeMaps5
import Derived.Stop.Joined
import Derived.SevenTiedAt
namespace Go.Proofs.YtbmenihakkogkabGreatDoor
open Go.ChangeShapes Go.WideShapes Go.ChangeAt Go.RowKit Go.Deep
theorem cIns5 : Tryz.prog.cellsOf 106 = 5 := by kernel_rfl
theorem cProc3 : Tryz.prog.cellsOf 40 = 3 := by kernel_rfl
theorem cLInt1 : Tryz.prog.cellsOf 55 = 1 := by kernel_rfl
theorem cLIns1 : Tryz.prog.cellsOf 38 = 1 := by kernel_rfl
theorem cInt1 : Tryz.prog.cellsOf 3 = 1 := by kernel_rfl
theorem plainAt {w : World} {a : Addr} {v : Value} (h : w.cell? (a.add 0) = some v) : a = ⟨a.block, a.off, none⟩ := by
  have hs := World.cell?_spot h
  obtain ⟨b, o, s⟩ := a
  have hs' : s = none := by simpa [Addr.add] using hs
  rw [hs']
theorem lenFive {α : Type} {l : List α} (h : l.length = 5) : ∃ a b c d e, l = [a, b, c, d, e] := by
  rcases l with _ | ⟨a, _ | ⟨b, _ | ⟨c, _ | ⟨d, _ | ⟨e, _ | ⟨f, l⟩⟩⟩⟩⟩⟩
  · cases h
  · cases h
  · cases h
  · cases h
  · cases h
  · exact ⟨a, b, c, d, e, rfl⟩
  · simp at h
theorem lenThree {α : Type} {l : List α} (h : l.length = 3) : ∃ a b c, l = [a, b, c] := by
  rcases l with _ | ⟨a, _ | ⟨b, _ | ⟨c, _ | ⟨d, l⟩⟩⟩⟩
  · cases h
  · cases h
  · cases h
  · exact ⟨a, b, c, rfl⟩
  · simp at h
theorem pick_lt {α : Type} [Inhabited α] {n : Nat} {p : Nat → α → Prop} (h : ∀ i, i < n → ∃ x, p i x) : ∃ f : Nat → α, ∀ i, i < n → p i (f i) :=
  ⟨fun i => if hi : i < n then Classical.choose (h i hi) else default, fun i hi => by
    show p i (if hi : i < n then Classical.choose (h i hi) else default)
    rw [dif_pos hi]; exact Classical.choose_spec (h i hi)⟩
section
variable {H : Type} {enc : TypeId × Value → H} {W : World} {base : Nat} {spare : Nat → Bool} {held : Bool}
theorem sliceEach {t e : TypeId} {fuel : Nat} {v : Value} {x : DataW H × List MemPlace} (ht : Tryz.prog.underlying t = some (.slice e)) (h : DataW.trod enc Tryz.prog W base spare held fuel t [v] = some x) :
    v = .slice none 0 0 ∨ ∃ (a : Addr) (len cap n : Nat), v = .slice (some a) len cap ∧ len ≤ 9223372036854775807 ∧
      ∀ i, i < len → ∃ cs y, W.cells? base (a.add (i * Tryz.prog.cellsOf e)) (Tryz.prog.cellsOf e) = some cs ∧ DataW.trod enc Tryz.prog W base spare held n e cs = some y := by
  rcases DataW.trod_slice ht h with ⟨hcs, _⟩ | ⟨a, len, cap, elems, rest, n, hfu, hcs, rfl, hb, hl, hm, hlen, hel, _⟩
  · exact Or.inl (by simpa using hcs)
  · refine Or.inr ⟨a, len, cap, n, by simpa using hcs, by unfold maxLen at hm; omega, fun i hi => ?_⟩
    have key := hel i hi
    rw [List.getElem?_eq_getElem (by omega)] at key
    obtain ⟨cs', h1, h2⟩ := Option.bind_eq_some_iff.1 key
    exact ⟨cs', _, h1, h2⟩
theorem nums_of_trod {fuel : Nat} {v : Value} {x : DataW H × List MemPlace} (h : DataW.trod enc Tryz.prog W base spare held fuel 55 [v] = some x) : ∃ n z, NumsAt W.heap.size W v n z := by
  rcases sliceEach Tryz.underlying55 h with rfl | ⟨a, len, cap, n, rfl, hl, hi⟩
  · exact ⟨0, fun _ => 0, none, 0, rfl, by omega, Or.inl rfl⟩
  · have each : ∀ i, i < len → ∃ z : Int, W.cell? (a.add i) = some (.int .i64 z) := by
      intro i hlt
      obtain ⟨cs, y, h1, h2⟩ := hi i hlt
      rw [cInt1, Nat.mul_one] at h1
      obtain ⟨_, hlen, hcell⟩ := World.cells?_some h1
      obtain ⟨z, e, _, _⟩ := DataW.trod_int Tryz.underlying3 h2
      subst e
      have := hcell 0 (by omega)
      rw [add_add, Nat.add_zero] at this
      exact ⟨z, by simpa using this⟩
    obtain ⟨z, hz⟩ := pick_lt each
    refine ⟨len, z, some a, cap, rfl, hl, ?_⟩
    by_cases h0 : len = 0
    · exact Or.inl h0
    · right
      have hp := plainAt (hz 0 (by omega))
      refine ⟨a.block, a.off, by rw [hp], ?_, fun i hlt => ?_⟩
      · have := cell_lt (hz 0 (by omega))
        simpa [Addr.add] using this
      · have := hz i hlt
        rw [hp, add_plain] at this
        exact this
end
section
variable {H : Type} {enc : TypeId × Value → H} {W : World} {base : Nat} {spare : Nat → Bool} {held : Bool}
theorem code_fit_of_trod {fuel : Nat} {v : Value} {x : DataW H × List MemPlace} (h : DataW.trod enc Tryz.prog W base spare held fuel 38 [v] = some x) : ∃ n ins, CodeAt W.heap.size W v n ins ∧ ∀ k, k < n → (Lit.int .i64 (ins k).op).wf = true := by
  rcases sliceEach Tryz.underlying38 h with rfl | ⟨a, len, cap, n, rfl, hl, hi⟩
  · exact ⟨0, fun _ => ⟨0, 0, 0, 0, 0, fun _ => 0⟩, ⟨none, 0, rfl, by omega, Or.inl rfl⟩, fun k hk => by omega⟩
  · have each : ∀ i, i < len → ∃ q : In, ∃ va, W.cell? (a.add (i * 5)) = some (.int .i64 q.op) ∧ W.cell? (a.add (i * 5 + 1)) = some (.int .i64 q.a) ∧ W.cell? (a.add (i * 5 + 2)) = some (.int .i64 q.b) ∧ W.cell? (a.add (i * 5 + 3)) = some (.int .i64 q.c) ∧ W.cell? (a.add (i * 5 + 4)) = some va ∧ NumsAt W.heap.size W va q.n q.z ∧ (Lit.int .i64 q.op).wf = true := by
      intro i hlt
      obtain ⟨cs, y, h1, h2⟩ := hi i hlt
      rw [cIns5] at h1
      obtain ⟨_, hlen, hcell⟩ := World.cells?_some h1
      obtain ⟨xs, k, rfl, hxy, _, hxl, hf⟩ := DataW.trod_struct Tryz.underlying106 h2
      obtain ⟨y0, y1, y2, y3, y4, rfl⟩ := lenFive (l := xs) hxl
      obtain ⟨v0, v1, v2, v3, v4, rfl⟩ := lenFive hlen
      have g0 := hf 0 _ rfl
      have g1 := hf 1 _ rfl
      have g2 := hf 2 _ rfl
      have g3 := hf 3 _ rfl
      have g4 := hf 4 _ rfl
      simp [cInt1, cLInt1] at g0 g1 g2 g3 g4
      have e0 := hcell 0 (by omega)
      have e1 := hcell 1 (by omega)
      have e2 := hcell 2 (by omega)
      have e3 := hcell 3 (by omega)
      have e4 := hcell 4 (by omega)
      obtain ⟨z0, q0, _, wf0⟩ := DataW.trod_int Tryz.underlying3 g0
      obtain ⟨z1, q1, _, _⟩ := DataW.trod_int Tryz.underlying3 g1
      obtain ⟨z2, q2, _, _⟩ := DataW.trod_int Tryz.underlying3 g2
      obtain ⟨z3, q3, _, _⟩ := DataW.trod_int Tryz.underlying3 g3
      simp at q0 q1 q2 q3
      subst q0 q1 q2 q3
      obtain ⟨m, z, hz⟩ := nums_of_trod g4
      rw [add_add] at e0 e1 e2 e3 e4
      exact ⟨⟨z0, z1, z2, z3, m, z⟩, v4, by simpa using e0, by simpa using e1, by simpa using e2, by simpa using e3, by simpa using e4, hz, wf0⟩
    haveI : Inhabited In := ⟨⟨0, 0, 0, 0, 0, fun _ => 0⟩⟩
    obtain ⟨q, hq⟩ := pick_lt each
    refine ⟨len, q, ⟨some a, cap, rfl, hl, ?_⟩, fun k hk => by obtain ⟨_, _, _, _, _, _, _, h⟩ := hq k hk; exact h⟩
    by_cases h0 : len = 0
    · exact Or.inl h0
    · right
      obtain ⟨_, c0, _⟩ := hq 0 (by omega)
      have hp := plainAt (v := .int .i64 (q 0).op) (by simpa using c0)
      refine ⟨a.block, a.off, by rw [hp], ?_, fun i hlt => ?_⟩
      · have := cell_lt c0
        simpa [Addr.add] using this
      · obtain ⟨va, c0, c1, c2, c3, c4, s, _⟩ := hq i hlt
        rw [hp, add_plain] at c0 c1 c2 c3 c4
        exact ⟨va, c0, c1, c2, c3, c4, s⟩
theorem procs_fit_of_trod {fuel : Nat} {v : Value} {x : DataW H × List MemPlace} (h : DataW.trod enc Tryz.prog W base spare held fuel 33 [v] = some x) : ∃ n P, ProcsAt W.heap.size W v n P ∧ opsFit n P := by
  rcases sliceEach Tryz.underlying33 h with rfl | ⟨a, len, cap, n, rfl, hl, hi⟩
  · exact ⟨0, fun _ => ⟨0, 0, 0, fun _ => ⟨0, 0, 0, 0, 0, fun _ => 0⟩⟩, ⟨none, 0, rfl, by omega, Or.inl rfl⟩, fun k hk => by omega⟩
  · have each : ∀ i, i < len → ∃ q : Pc, ∃ vc, W.cell? (a.add (i * 3)) = some (.int .i64 q.params) ∧ W.cell? (a.add (i * 3 + 1)) = some (.int .i64 q.regs) ∧ W.cell? (a.add (i * 3 + 2)) = some vc ∧ CodeAt W.heap.size W vc q.n q.ins ∧ ∀ k, k < q.n → (Lit.int .i64 (q.ins k).op).wf = true := by
      intro i hlt
      obtain ⟨cs, y, h1, h2⟩ := hi i hlt
      rw [cProc3] at h1
      obtain ⟨_, hlen, hcell⟩ := World.cells?_some h1
      obtain ⟨xs, k, rfl, hxy, _, hxl, hf⟩ := DataW.trod_struct Tryz.underlying40 h2
      obtain ⟨y0, y1, y2, rfl⟩ := lenThree (l := xs) hxl
      obtain ⟨v0, v1, v2, rfl⟩ := lenThree hlen
      have g0 := hf 0 _ rfl
      have g1 := hf 1 _ rfl
      have g2 := hf 2 _ rfl
      simp [cInt1, cLIns1] at g0 g1 g2
      have e0 := hcell 0 (by omega)
      have e1 := hcell 1 (by omega)
      have e2 := hcell 2 (by omega)
      obtain ⟨z0, q0, _, _⟩ := DataW.trod_int Tryz.underlying3 g0
      obtain ⟨z1, q1, _, _⟩ := DataW.trod_int Tryz.underlying3 g1
      simp at q0 q1
      subst q0 q1
      obtain ⟨m, ins, hz, hf2⟩ := code_fit_of_trod g2
      rw [add_add] at e0 e1 e2
      exact ⟨⟨z0, z1, m, ins⟩, v2, by simpa using e0, by simpa using e1, by simpa using e2, hz, hf2⟩
    haveI : Inhabited Pc := ⟨⟨0, 0, 0, fun _ => ⟨0, 0, 0, 0, 0, fun _ => 0⟩⟩⟩
    obtain ⟨q, hq⟩ := pick_lt each
    refine ⟨len, q, ⟨some a, cap, rfl, hl, ?_⟩, fun k hk => by obtain ⟨_, _, _, _, _, h⟩ := hq k hk; exact h⟩
    by_cases h0 : len = 0
    · exact Or.inl h0
    · right
      obtain ⟨_, c0, _⟩ := hq 0 (by omega)
      have hp := plainAt (v := .int .i64 (q 0).params) (by simpa using c0)
      refine ⟨a.block, a.off, by rw [hp], ?_, fun i hlt => ?_⟩
      · have := cell_lt c0
        simpa [Addr.add] using this
      · obtain ⟨vc, c0, c1, c2, s, _⟩ := hq i hlt
        rw [hp, add_plain] at c0 c1 c2
        exact ⟨vc, c0, c1, c2, s⟩
end
end Go.Proofs.YtbmenihakkogkabGreatDoor
namespace Go.Proofs.YtbmenihakkogkabGreatDoor.codeSays
open Go.ChangeShapes Go.WideShapes Go.ChangeAt Go.RowKit Go.Joins Go.ChangeMaps
theorem own : ownKnob Tryz.prog.godebug = none := by kernel_rfl
theorem laidOut : laidOutB Tryz.prog = true := by kernel_rfl
def cellsOfData : DataW Unit → Array Value
  | .agg l => (l.map fun x => match x with
    | .lit (.int k z) => Value.int k z
    | _ => .bool false).toArray
  | _ => #[]
noncomputable def startW (os : Os) : World :=
  { World.doorLaid Tryz.prog 400 os with heap := (World.doorLaid Tryz.prog 400 os).heap.modify 9 fun o => match o with
      | .cells _ t frozen => .cells (cellsOfData Rows.laid_unicode_utf8_first) t frozen
      | o => o }
theorem door_met (os : Os) (args : Array Value) : laidMetH Tryz.prog laidL ((startW os).forCall (fun _ _ => 0) ⟨#[], args, []⟩).memory :=
  laidMetH_of_parts3 (fuel := 8) (laidMet_of_run' 8 (by kernel_rfl) (by kernel_rfl)) (by kernel_rfl) (by kernel_rfl)
set_option maxRecDepth 100000 in
theorem lifted (os : Os) (started : os.Started) (H : Type) (enc : TypeId × Value → H) :
    ReturnsInHanded {} Tryz.checked os 4 .any (fun w args => (Rows.codeSaysSpec.pre enc Tryz.prog Tryz.f4 [] false w args ∧ laidMetH Tryz.prog laidL w) ∧ sizedMet enc Tryz.prog Tryz.f4 (OpenSpec.ofChange Rows.codeSaysSpec) false w args)
      (Rows.codeSaysSpec.post enc Tryz.prog Tryz.f4 false true false false) := by
  refine returnsInHanded_of_calls own started (by kernel_rfl)
    (ChangeSpec.witness_shaped (enc := enc) (C := Tryz.checked) (os := os) (fn := Tryz.f4) (X := fun w _ => laidMetH Tryz.prog laidL w) false (startW os) #[.slice none 0 0, .slice none 0 0, .slice none 0 0] 8 rfl (World.shaped_of_RefB (by kernel_rfl) (by kernel_rfl)) (by kernel_rfl) (by kernel_rfl) (by kernel_rfl) (door_met os _)) ?_
  intro w tape i _ hsh _ hok hpre _
  obtain ⟨_, _, _, fn', hfn', _, _, _, _, hval0⟩ := hok
  have efn : fn' = Tryz.f4 := Option.some.inj (hfn'.symm.trans Tryz.func4)
  subst efn
  obtain ⟨⟨⟨ds, gs, before, hw, _⟩, hx⟩, _⟩ := hpre
  have hW := DataW.Whole.of_heap (w' := w.forCall tape i) (by rfl) hw
  have hL0 : laidMetH Tryz.prog laidL (w.forCall tape i) := hx.of_heap (by rfl)
  have key : Calls Tryz.prog 4 i.args (w.forCall tape i) fun e W' => ∃ v, e = .returned v ∧ Rows.codeSaysSpec.post enc Tryz.prog Tryz.f4 false true false false (w.forCall tape i) i.args v W' := by
    generalize hargs0 : i.args = args at *
    generalize w.forCall tape i = W at *
    have hL : laidMet Tryz.prog laidL W := by
      rw [MakeChecks.laidMetH_plain _ _ _ (by kernel_rfl)] at hL0
      exact hL0
    have he := env_of_laid hL hsh
    have hval : ∀ (j : Nat) t v, Tryz.f4.params[j]? = some t → args[j]? = some v → Value.okWide Tryz.prog W .any w.heap.size t v := hval0
    have hW' := hW
    obtain ⟨p, q, hA0, hV, rfl, hfz, hnd⟩ := hW
    have hA : DataW.TrodAll enc Tryz.prog W 0 (fun _ => true) true Tryz.f4.params.toList args.toList ds p := hA0
    rw [Tryz.params4] at hA hval
    obtain ⟨v0, vs0, d0, ds0, p0, q0, hargs, rfl, rfl, h0, r0⟩ := trodAll_cons hA
    obtain ⟨v1, vs1, d1, ds1, p1, q1, rfl, rfl, rfl, h1, r1⟩ := trodAll_cons r0
    obtain ⟨v2, vs2, d2, ds2, p2, q2, rfl, rfl, rfl, h2, r2⟩ := trodAll_cons r1
    obtain ⟨rfl, rfl, rfl⟩ := trodAll_nil r2
    obtain rfl : args = #[v0, v1, v2] := by cases args; simp_all
    obtain ⟨rfl, rfl⟩ := trodVars_none hV
    have lt0 : ∀ x ∈ p0, x.block < W.heap.size := by obtain ⟨m, hm⟩ := h0; exact DataW.trod_lt m _ _ _ hm
    have lt1 : ∀ x ∈ p1, x.block < W.heap.size := by obtain ⟨m, hm⟩ := h1; exact DataW.trod_lt m _ _ _ hm
    have lt2 : ∀ x ∈ p2, x.block < W.heap.size := by obtain ⟨m, hm⟩ := h2; exact DataW.trod_lt m _ _ _ hm
    obtain ⟨np, P, f0, ff⟩ : ∃ (n : Nat) (P : Nat → Pc), ProcsAt W.heap.size W v0 n P ∧ opsFit n P := by
      obtain ⟨a, len, cap, rfl⟩ := okWide_slice Tryz.underlying33 (hval 0 33 v0 rfl rfl)
      obtain ⟨fuel, hf⟩ := h0
      exact procs_fit_of_trod (by simpa [Value.cells] using hf)
    obtain ⟨nq, Q, g0, _⟩ : ∃ (n : Nat) (P : Nat → Pc), ProcsAt W.heap.size W v1 n P ∧ opsFit n P := by
      obtain ⟨a, len, cap, rfl⟩ := okWide_slice Tryz.underlying33 (hval 1 33 v1 rfl rfl)
      obtain ⟨fuel, hf⟩ := h1
      exact procs_fit_of_trod (by simpa [Value.cells] using hf)
    obtain ⟨e0, n0, par0, loc0, bv0, B0, t0, s0, k0, _⟩ : ∃ (fuel n : Nat) (par loc : Nat → Int) (bv : Nat → Value) (B : Nat → SL), FunsAt W.heap.size W v2 n par loc bv ∧ (∀ i, i < n → StmtsAt W.heap.size W fuel (bv i) (B i)) ∧ (∀ i, i < n → kindsFit fuel (B i)) ∧ True := by
      obtain ⟨a, len, cap, rfl⟩ := okWide_slice Tryz.underlying22 (hval 2 22 v2 rfl rfl)
      obtain ⟨fuel, hf⟩ := h2
      obtain ⟨n, par, loc, bv, B, x1, x2, x3, _⟩ := funs_of_trod (by simpa [Value.cells] using hf)
      exact ⟨fuel, n, par, loc, bv, B, x1, x2, x3, trivial⟩
    clear hA0 hval0 hval
    refine (Go.Proofs.YtbmenihakkogkabGreatDoor.codeSays W.heap.size v0 v1 v2 np nq n0 P Q par0 loc0 bv0 e0 B0 W (Nat.le_refl _) he f0 g0 ff t0 s0 k0).mono fun e W' ⟨he, bel⟩ => ?_
    subst he
    exact ⟨_, rfl, _, _, _, [], _, [], hW', trodAll_mk1 (shut_bool Tryz.underlying4 _),
      (trodAll_cons_mk (Below.trod laidOut (by kernel_rfl) (of_decide_eq_true (by kernel_rfl)) h0 bel lt0)
        (trodAll_cons_mk (Below.trod laidOut (by kernel_rfl) (of_decide_eq_true (by kernel_rfl)) h1 bel lt1)
          (trodAll_cons_mk (Below.trod laidOut (by kernel_rfl) (of_decide_eq_true (by kernel_rfl)) h2 bel lt2) trodAll_mk0))), rfl, bel.frame _, fun h => by cases h⟩
  refine key.mono fun e W' ⟨v, he, hp⟩ => ?_
  subst he
  exact ChangeSpec.post_blind hp
theorem over : Rows.codeSaysRow.holds Tryz.pinned (OpenSpec.ofChange Rows.codeSaysSpec) :=
  OpenClaim.holds_of_wide 4 Tryz.f4 rfl rfl rfl rfl rfl rfl rfl ⟨rfl, rfl, rfl, rfl, rfl⟩ rfl rfl rfl rfl rfl (by kernel_rfl) Tryz.func4 (by kernel_rfl)
    (of_decide_eq_true (by kernel_rfl)) (by unfold Func.isWrapper; first | (rw [if_pos (by decide +kernel)]; kernel_rfl) | (rw [if_neg (by decide +kernel)]; exact ⟨rfl, rfl⟩))
    (fun os started H enc _ => lifted os started H enc)
end Go.Proofs.YtbmenihakkogkabGreatDoor.codeSays
namespace Go.Proofs.YtbmenihakkogkabGreatDoor
open Go
theorem codeSays_proved : Rows.CodeSaysCardSaid :=
  Claim7.holds_tied_plain_at .later [] [.data, .data, .data, .data, .sentinel, .sentinel, .data, .data, .data, .pinned] true (true, "4131a93a4c2818f1f675050ea5cfa11c0c90b7b72f443aeb5482ef5f6f9bb420") true
    codeSays.over (fun _ h => by cases h) (by kernel_rfl) (fun _ h => by cases h) codeSays_row_tie rfl ⟨rfl, rfl⟩ (by kernel_rfl) rfl
    (fun f fn hf hfn => by
      obtain rfl : f = 4 := Option.some.inj ((show Tryz.prog.funcNamed "wanderer/wandererlaw.CodeSays" = some 4 by kernel_rfl).symm.trans hf) |>.symm
      obtain rfl : fn = Tryz.f4 := (Option.some.inj (Tryz.func4.symm.trans hfn)).symm
      exact ⟨by kernel_rfl, fun j t ht => by
        rw [Tryz.params4] at ht
        have h3 : t = 33 ∨ t = 22 := by
          rcases j with _ | _ | _ | j
          · left; simpa using ht.symm
          · left; simpa using ht.symm
          · right; simpa using ht.symm
          · simp at ht
        rcases h3 with rfl | rfl
        · exact (show Tryz.prog.wantsStandIn 33 = false by kernel_rfl)
        · exact (show Tryz.prog.wantsStandIn 22 = false by kernel_rfl)⟩)
    (by kernel_rfl)
#print axioms codeSays_proved
end Go.Proofs.YtbmenihakkogkabGreatDoor
