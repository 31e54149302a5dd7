import Derived.Test.YtbmenihakkogkabGreatDoorPart10
import Derived.Test.YtbmenihakkogkabGreatDoorPart14
import Derived.Test.YtbmenihakkogkabGreatDoorPart1
import Derived.Test.YtbmenihakkogkabGreatDoorPart3
import Derived.Lib.SplitLaws
import Derived.Lib.CutLaws
import Derived.Deep.Light
import Derived.Test.YtbmenihakkogkabGreatDoorShelf
import Derived.Test.YtbmenihakkogkabGreatDoorPart2
import Derived.Lib.ItoaLen
import Derived.Lib.OthersKept
import Derived.Lib.BufferKept
import Derived.OwnWalk
import Derived.Lib.AtoiAllCases
namespace Go.Proofs.YtbmenihakkogkabGreatDoor
open Go.RowKit Go.Maps
theorem split_small (sep : ByteArray) : ∀ (k : Nat) (s : ByteArray), ∀ x ∈ Lib.splitB sep 0 k s, x.size ≤ s.size
  | 0, s, x, hx => by
    rw [Lib.splitB_zero, List.mem_singleton] at hx
    subst hx; exact Nat.le_refl _
  | k + 1, s, x, hx => by
    unfold Lib.splitB at hx
    split at hx
    · rw [List.mem_singleton] at hx; subst hx; exact Nat.le_refl _
    · rw [List.mem_cons] at hx
      rcases hx with rfl | hx
      · rw [ByteArray.size_extract]; omega
      · have := split_small sep k _ x hx
        rw [ByteArray.size_extract] at this
        omega
theorem wordsOf_len (s : ByteArray) : (wordsOf s).length = Lib.countB s (bs [32]) + 1 := Lib.splitB_all (bs [32]) (Nat.le_refl _) 0 _ s rfl
theorem wordsOf_max (s : ByteArray) : (wordsOf s).length ≤ s.size + 1 := by
  rw [wordsOf_len]
  have := Lib.countB_le (bs [32]) (Nat.le_refl _) s.size s (Nat.le_refl _)
  omega
theorem wordsOf_small (s : ByteArray) : ∀ x ∈ wordsOf s, x.size ≤ s.size := split_small (bs [32]) _ s
def rdErr (D : Nat) (s : ByteArray) : Int := progErr (rdN (wordsOf s)) (rdP (wordsOf s)) (rdL (wordsOf s)) D (rdB (wordsOf s))
def rdText (D : Nat) (s : ByteArray) : Wd := bs (textL (progW (rdN (wordsOf s)) (rdP (wordsOf s)) (rdL (wordsOf s)) D (rdB (wordsOf s))))
def rdGood (D : Nat) (s : ByteArray) : Prop := rdErr D s = 0 ∧ rdText D s = s
def Parsed (D : Nat) (s : ByteArray) (w : World) (v : Value) : Prop :=
  ∃ bv, FunsAt w.heap.size w v (rdN (wordsOf s)) (rdP (wordsOf s)) (rdL (wordsOf s)) bv ∧ ∀ i, i < rdN (wordsOf s) → StmtsAt w.heap.size w D (bv i) (rdB (wordsOf s) i)
theorem split_run (N : Nat) (s : ByteArray) (hs : s.size ≤ 60000) (w : World) (he : Env N w) :
    Calls Tryz.prog 42 #[.string s, .string (bs [32])] w fun e w' => e = .returned (.slice (some ⟨w.heap.size, 0, none⟩) (wordsOf s).length (wordsOf s).length) ∧ w' = w.alloc (.cells ((wordsOf s).map Value.string).toArray 9) := by
  obtain ⟨m, hm⟩ := he.max
  rw [wordsOf_len]
  exact Tryz.strings_Split s (bs [32]) m w (by omega) hm (Nat.le_refl _)
set_option maxHeartbeats 4000000 in
theorem parse_short (N D : Nat) (s : ByteArray) (hs : s.size ≤ 60000) (hD : (wordsOf s).length + 2 ≤ D) (w : World) (hN : N ≤ w.heap.size) (he : Env N w) :
    Calls Tryz.prog 8 #[.string s] w fun e w' => ((rdGood D s ∧ ∃ v, e = .returned (.tuple #[v, .int .i64 0]) ∧ Parsed D s w' v) ∨ (¬ rdGood D s ∧ e = .returned (.tuple #[.slice none 0 0, .int .i64 1]))) ∧ Below w.heap.size w w' := by
  have hal := bal w (.cells ((wordsOf s).map Value.string).toArray 9)
  have hmax := wordsOf_max s
  have HSp := split_run N s hs w he
  have HRd := read N (w.alloc (.cells ((wordsOf s).map Value.string).toArray 9)) (Nat.le_trans hN hal.size) (he.below (hal.mono hN)) w.heap.size 0 (wordsOf s).length (wordsOf s) (fun y hy => Nat.le_trans (wordsOf_small s y hy) (by omega)) (by omega) (Nat.le_refl _) (by simp) (fun j y hy => by
    rw [Nat.zero_add, World.cell?_alloc_new]
    rw [List.getElem?_toArray, List.getElem?_map, hy]; rfl) (wordsOf s).length rfl
  have HS2 : Hid (Calls Tryz.prog 42 #[.string s, .string (bs [32])] w fun e w' => e = .returned (.slice (some ⟨w.heap.size, 0, none⟩) (wordsOf s).length (wordsOf s).length) ∧ w' = w.alloc (.cells ((wordsOf s).map Value.string).toArray 9)) := HSp
  have HR2 : Hid (Calls Tryz.prog 41 #[.slice (some ⟨w.heap.size, 0, none⟩) (wordsOf s).length (wordsOf s).length] (w.alloc (.cells ((wordsOf s).map Value.string).toArray 9)) fun e w' => ∃ v bv, e = .returned v ∧ Hid (FunsAt w'.heap.size w' v (rdN (wordsOf s)) (rdP (wordsOf s)) (rdL (wordsOf s)) bv) ∧ Hid (∀ i, i < rdN (wordsOf s) → StmtsAt w'.heap.size w' D (bv i) (rdB (wordsOf s) i)) ∧ Below w.heap.size w w') := by
    refine HRd.mono ?_
    rintro e w' ⟨v, bv, rfl, h1, h2, hb⟩
    exact ⟨v, bv, rfl, h1, (fun i hi => (h2.out i hi).le hD), hal.trans (hb.mono hal.size)⟩
  have hsi : ¬ (60000 : Int) < (s.size : Int) := by omega
  have HPr : Hid (∀ w1 v bv, Below w.heap.size w w1 → FunsAt w1.heap.size w1 v (rdN (wordsOf s)) (rdP (wordsOf s)) (rdL (wordsOf s)) bv → (∀ i, i < rdN (wordsOf s) → StmtsAt w1.heap.size w1 D (bv i) (rdB (wordsOf s) i)) →
      Calls Tryz.prog 7 #[v] w1 fun e w' => e = .returned (.tuple #[.string (printT (rdN (wordsOf s)) (rdP (wordsOf s)) (rdL (wordsOf s)) D (rdB (wordsOf s))), .int .i64 (rdErr D s)]) ∧ Below w1.heap.size w1 w') := fun w1 v bv hb h1 h2 =>
    print w1.heap.size v _ _ _ bv _ _ w1 (Nat.le_refl _) ((he.below (hb.mono hN)).up (Nat.le_trans hN hb.size)) h1 h2
  clear HSp HRd hal hmax he hs hD
  by_cases hp : rdErr D s = 0
  · have hT : printT (rdN (wordsOf s)) (rdP (wordsOf s)) (rdL (wordsOf s)) D (rdB (wordsOf s)) = rdText D s := by
      unfold printT rdText; exact if_pos hp
    rw [hT, hp] at HPr
    by_cases ht : rdText D s = s
    · have HG : Hid (rdGood D s) := ⟨hp, ht⟩
      rw [ht] at HPr
      have hq : (s.toList == s.toList) = true := by simp
      clear hT hp ht
      go_enter Tryz.func8, Tryz.ntmps8
      go_wp2_with (first
        | (go_at_call 42; refine HS2.out.mono ?_; rintro e w1 ⟨rfl, h1⟩; rw [h1]; clear h1)
        | (go_at_call 41; refine HR2.out.mono ?_; rintro e w2 ⟨v, bv, rfl, F2, S2, b2⟩)
        | (go_at_call 7; refine (HPr.out w2 v bv b2 F2.out S2.out).mono ?_; rintro e w3 ⟨rfl, b3⟩))
      go_ret2
      have hsz := b3.size
      exact ⟨Or.inl ⟨HG.out, _, rfl, bv, (F2.out.below b3).up hsz, fun i hi => ((S2.out i hi).below b3).up hsz⟩, b2.trans (b3.mono b2.size)⟩
    · have HG : Hid (¬ rdGood D s) := fun h => ht h.2
      have hq : ((rdText D s).toList == s.toList) = false := by rw [strEq]; simp [ht]
      generalize rdText D s = tx at *
      clear hT hp ht
      go_enter Tryz.func8, Tryz.ntmps8
      go_wp2_with (first
        | (go_at_call 42; refine HS2.out.mono ?_; rintro e w1 ⟨rfl, h1⟩; rw [h1]; clear h1)
        | (go_at_call 41; refine HR2.out.mono ?_; rintro e w2 ⟨v, bv, rfl, F2, S2, b2⟩)
        | (go_at_call 7; refine (HPr.out w2 v bv b2 F2.out S2.out).mono ?_; rintro e w3 ⟨rfl, b3⟩))
      go_ret2
      exact ⟨Or.inr ⟨HG.out, rfl⟩, b2.trans (b3.mono b2.size)⟩
  · have HG : Hid (¬ rdGood D s) := fun h => hp h.1
    have hpb : (rdErr D s != 0) = true := by simp [hp]
    generalize rdErr D s = er at *
    generalize printT (rdN (wordsOf s)) (rdP (wordsOf s)) (rdL (wordsOf s)) D (rdB (wordsOf s)) = tx at *
    clear hp
    go_enter Tryz.func8, Tryz.ntmps8
    go_wp2_with (first
      | (go_at_call 42; refine HS2.out.mono ?_; rintro e w1 ⟨rfl, h1⟩; rw [h1]; clear h1)
      | (go_at_call 41; refine HR2.out.mono ?_; rintro e w2 ⟨v, bv, rfl, F2, S2, b2⟩)
      | (go_at_call 7; refine (HPr.out w2 v bv b2 F2.out S2.out).mono ?_; rintro e w3 ⟨rfl, b3⟩))
    go_ret2
    exact ⟨Or.inr ⟨HG.out, rfl⟩, b2.trans (b3.mono b2.size)⟩
def countsL : List UInt8 := [102, 117, 110, 32, 48, 32, 49, 32, 123, 32, 115, 101, 116, 32, 48, 32, 51, 32, 119, 104, 105, 108, 101, 32, 118, 48, 32, 123, 32, 115, 97, 121, 32, 102, 49, 32, 118, 48, 32, 118, 48, 32, 103, 111, 32, 118, 48, 32, 112, 97, 117, 115, 101, 32, 115, 101, 116, 32, 48, 32, 45, 32, 118, 48, 32, 49, 32, 125, 32, 125, 32, 102, 117, 110, 32, 50, 32, 50, 32, 123, 32, 114, 101, 116, 117, 114, 110, 32, 42, 32, 118, 48, 32, 118, 49, 32, 125]
theorem counts_err : rdErr 60 (bs countsL) = 0 := by decide +kernel
theorem counts_text : rdText 60 (bs countsL) = bs countsL := by decide +kernel
theorem counts_D : (wordsOf (bs countsL)).length + 2 ≤ 60 := by decide +kernel
theorem counts_n : rdN (wordsOf (bs countsL)) = 2 := by decide +kernel
theorem parse_good (N D : Nat) (s : Wd) (hs : s.size ≤ 60000) (hD : (wordsOf s).length + 2 ≤ D) (hg : rdGood D s) (w : World) (hN : N ≤ w.heap.size) (he : Env N w) : Calls Tryz.prog 8 #[.string s] w fun e w' => ∃ v, e = .returned (.tuple #[v, .int .i64 0]) ∧ Hid (Parsed D s w' v) ∧ Below w.heap.size w w' := by
  refine (parse_short N D s hs hD w hN he).mono ?_
  rintro e w' ⟨⟨_, v, rfl, hp⟩ | ⟨hb, _⟩, hbe⟩
  · exact ⟨v, rfl, hp, hbe⟩
  · exact absurd hg hb
theorem counts_lit : bs countsL = ⟨([102, 117, 110, 32, 48, 32, 49, 32, 123, 32, 115, 101, 116, 32, 48, 32, 51, 32, 119, 104, 105, 108, 101, 32, 118, 48, 32, 123, 32, 115, 97, 121, 32, 102, 49, 32, 118, 48, 32, 118, 48, 32, 103, 111, 32, 118, 48, 32].append [112, 97, 117, 115, 101, 32, 115, 101, 116, 32, 48, 32, 45, 32, 118, 48, 32, 49, 32, 125, 32, 125, 32, 102, 117, 110, 32, 50, 32, 50, 32, 123, 32, 114, 101, 116, 117, 114, 110, 32, 42, 32, 118, 48, 32, 118, 49, 32, 125]).toArray⟩ := by unfold countsL; rfl
end Go.Proofs.YtbmenihakkogkabGreatDoor
namespace Go.Proofs.YtbmenihakkogkabGreatDoor
structure In where
  op : Int
  a : Int
  b : Int
  c : Int
  n : Nat
  z : Nat → Int
def fromB (n lo hi : Int) : Bool := decide (lo ≤ n ∧ n ≤ hi)
def regsB (i : In) (regs : Int) : Bool :=
  if i.op = 10 ∨ i.op = 12 then true
  else if i.op = 3 then fromB i.a 0 (regs - 1) && (fromB i.b 0 (regs - 1) && fromB i.c 0 (regs - 1))
  else if i.op = 2 ∨ i.op = 4 ∨ i.op = 6 then fromB i.a 0 (regs - 1) && fromB i.b 0 (regs - 1)
  else fromB i.a 0 (regs - 1)
def restB (i : In) (code : Int) : Bool :=
  if i.op = 1 then fromB i.b (-1000000000) 1000000000
  else if i.op = 5 then fromB i.b 1 4
  else if i.op = 4 ∨ i.op = 6 then fromB i.c 0 3
  else if i.op = 3 then decide (i.n = 1) && fromB (i.z 0) 1 5
  else if i.op = 12 ∨ i.op = 13 then fromB i.b 0 (code - 1)
  else true
def bareB (i : In) : Bool :=
  if i.op = 3 then true
  else if i.op = 7 then decide (i.c = 0)
  else if i.op = 4 ∨ i.op = 6 then decide (i.n = 0)
  else if i.op = 1 ∨ i.op = 5 ∨ i.op = 2 ∨ i.op = 13 then decide (i.c = 0) && decide (i.n = 0)
  else if i.op = 8 ∨ i.op = 9 ∨ i.op = 11 then decide (i.b = 0) && (decide (i.c = 0) && decide (i.n = 0))
  else if i.op = 12 then decide (i.a = 0) && (decide (i.c = 0) && decide (i.n = 0))
  else decide (i.a = 0) && (decide (i.b = 0) && (decide (i.c = 0) && decide (i.n = 0)))
def argsB (i : In) (regs : Int) : Bool := decide (∀ k, k < i.n → 0 ≤ i.z k ∧ i.z k ≤ regs - 1)
def insErr (np : Nat) (par : Nat → Int) (regs : Int) (code : Nat) (i : In) : Int :=
  if fromB i.op 1 13 = false then 4
  else if regsB i regs = false then 3
  else if i.op = 7 ∧ fromB i.b 0 ((np : Int) - 1) = false then 5
  else if restB i code = false then 3
  else if bareB i = false ∨ (i.op = 7 ∧ ¬ (i.n : Int) = par i.b.toNat) then 4
  else if i.op = 7 ∧ argsB i regs = false then 3
  else 0
structure Pc where
  params : Int
  regs : Int
  n : Nat
  ins : Nat → In
def pcErr (j : Nat) (p : Pc) : Int :=
  if fromB p.params 0 3 = false ∨ fromB p.regs (max 1 p.params) 40 = false ∨ (j = 0 ∧ 0 < p.params) then 3
  else if p.n < 1 ∨ 2000 < p.n then 2 else 0
def bodyCErr (np : Nat) (par : Nat → Int) (p : Pc) : Int :=
  if firstErr p.n (fun k => insErr np par p.regs p.n (p.ins k)) = 0 then (if (p.ins (p.n - 1)).op = 8 ∨ (p.ins (p.n - 1)).op = 12 then 0 else 4)
  else firstErr p.n (fun k => insErr np par p.regs p.n (p.ins k))
def codeErr (np : Nat) (P : Nat → Pc) : Int :=
  if np < 1 ∨ 4 < np then 2
  else if firstErr np (fun j => pcErr j (P j)) = 0 then firstErr np (fun j => bodyCErr np (fun k => (P k).params) (P j))
  else firstErr np (fun j => pcErr j (P j))
end Go.Proofs.YtbmenihakkogkabGreatDoor
namespace Go.Proofs.YtbmenihakkogkabGreatDoor
open Go.RowKit
def insOf (l : List Int) : In := ⟨l.getD 0 0, l.getD 1 0, l.getD 2 0, l.getD 3 0, l.length - 4, fun k => l.getD (k + 4) 0⟩
/-! ### Pieces -/
/-! ### Numbers -/
def i64 (z : Int) : Prop := -9223372036854775808 ≤ z ∧ z ≤ 9223372036854775807
/-! ### Right programs have small numbers -/
/-! ### Like programs have like errors -/
end Go.Proofs.YtbmenihakkogkabGreatDoor
namespace Go.Proofs.YtbmenihakkogkabGreatDoor
open Go.ChangeShapes Go.WideShapes Go.ChangeAt Go.RowKit
def NumsAt (N : Nat) (w : World) (v : Value) (n : Nat) (z : Nat → Int) : Prop :=
  ∃ a cap, v = .slice a n cap ∧ n ≤ 9223372036854775807 ∧ (n = 0 ∨ ∃ b o, a = some ⟨b, o, none⟩ ∧ b < N ∧ ∀ i, i < n → w.cell? ⟨b, o + i, none⟩ = some (.int .i64 (z i)))
def CodeAt (N : Nat) (w : World) (v : Value) (n : Nat) (ins : Nat → In) : Prop :=
  ∃ a cap, v = .slice a n cap ∧ n ≤ 9223372036854775807 ∧ (n = 0 ∨ ∃ b o, a = some ⟨b, o, none⟩ ∧ b < N ∧ ∀ i, i < n → ∃ va,
    w.cell? ⟨b, o + i * 5, none⟩ = some (.int .i64 (ins i).op) ∧ w.cell? ⟨b, o + i * 5 + 1, none⟩ = some (.int .i64 (ins i).a) ∧ w.cell? ⟨b, o + i * 5 + 2, none⟩ = some (.int .i64 (ins i).b) ∧
      w.cell? ⟨b, o + i * 5 + 3, none⟩ = some (.int .i64 (ins i).c) ∧ w.cell? ⟨b, o + i * 5 + 4, none⟩ = some va ∧ NumsAt N w va (ins i).n (ins i).z)
def ProcsAt (N : Nat) (w : World) (v : Value) (np : Nat) (P : Nat → Pc) : Prop :=
  ∃ a cap, v = .slice a np cap ∧ np ≤ 9223372036854775807 ∧ (np = 0 ∨ ∃ b o, a = some ⟨b, o, none⟩ ∧ b < N ∧ ∀ i, i < np → ∃ vc,
    w.cell? ⟨b, o + i * 3, none⟩ = some (.int .i64 (P i).params) ∧ w.cell? ⟨b, o + i * 3 + 1, none⟩ = some (.int .i64 (P i).regs) ∧ w.cell? ⟨b, o + i * 3 + 2, none⟩ = some vc ∧ CodeAt N w vc (P i).n (P i).ins)
theorem NumsAt.below {N : Nat} {w w' : World} {v : Value} {n : Nat} {z : Nat → Int} (h : NumsAt N w v n z) (hb : Below N w w') : NumsAt N w' v n z := by
  obtain ⟨a, cap, rfl, hn, h | ⟨b, o, rfl, hlt, hc⟩⟩ := h
  · exact ⟨a, cap, rfl, hn, Or.inl h⟩
  · exact ⟨_, cap, rfl, hn, Or.inr ⟨b, o, rfl, hlt, fun i hi => by rw [hb.cell hlt]; exact hc i hi⟩⟩
theorem CodeAt.below {N : Nat} {w w' : World} {v : Value} {n : Nat} {ins : Nat → In} (h : CodeAt N w v n ins) (hb : Below N w w') : CodeAt N w' v n ins := by
  obtain ⟨a, cap, rfl, hn, h | ⟨b, o, rfl, hlt, hc⟩⟩ := h
  · exact ⟨a, cap, rfl, hn, Or.inl h⟩
  · refine ⟨_, cap, rfl, hn, Or.inr ⟨b, o, rfl, hlt, fun i hi => ?_⟩⟩
    obtain ⟨va, c0, c1, c2, c3, c4, hv⟩ := hc i hi
    exact ⟨va, by rw [hb.cell hlt]; exact c0, by rw [hb.cell hlt]; exact c1, by rw [hb.cell hlt]; exact c2, by rw [hb.cell hlt]; exact c3, by rw [hb.cell hlt]; exact c4, hv.below hb⟩
theorem ProcsAt.below {N : Nat} {w w' : World} {v : Value} {np : Nat} {P : Nat → Pc} (h : ProcsAt N w v np P) (hb : Below N w w') : ProcsAt N w' v np P := by
  obtain ⟨a, cap, rfl, hn, h | ⟨b, o, rfl, hlt, hc⟩⟩ := h
  · exact ⟨a, cap, rfl, hn, Or.inl h⟩
  · refine ⟨_, cap, rfl, hn, Or.inr ⟨b, o, rfl, hlt, fun i hi => ?_⟩⟩
    obtain ⟨vc, c0, c1, c2, hv⟩ := hc i hi
    exact ⟨vc, by rw [hb.cell hlt]; exact c0, by rw [hb.cell hlt]; exact c1, by rw [hb.cell hlt]; exact c2, hv.below hb⟩
theorem NumsAt.shape {N : Nat} {w : World} {v : Value} {n : Nat} {z : Nat → Int} (h : NumsAt N w v n z) : ∃ a cap, v = .slice a n cap ∧ n ≤ 9223372036854775807 := by
  obtain ⟨a, cap, rfl, hn, _⟩ := h; exact ⟨a, cap, rfl, hn⟩
set_option maxHeartbeats 1000000 in
theorem isFrom (n lo hi : Int) (w : World) : Calls Tryz.prog 61 #[.int .i64 n, .int .i64 lo, .int .i64 hi] w fun e w' => e = .returned (.bool (fromB n lo hi)) ∧ w' = w := by
  go_enter Tryz.func61, Tryz.ntmps61
  go_wp2
  all_goals
    go_ret
    refine ⟨ret_bool ?_, rfl⟩
    go_light
    unfold fromB
    simp_all
    try omega
set_option maxHeartbeats 4000000 in
theorem bare (i : In) (a : Option Addr) (cap : Nat) (w : World) : Calls Tryz.prog 174 #[.agg #[.int .i64 i.op, .int .i64 i.a, .int .i64 i.b, .int .i64 i.c, .slice a i.n cap]] w fun e w' => e = .returned (.bool (bareB i)) ∧ Below w.heap.size w w' := by
  obtain ⟨op, x, y, z, n, f⟩ := i
  go_enter Tryz.func174, Tryz.ntmps174
  go_wp2
  all_goals
    go_ret
    refine ⟨ret_bool ?_, bal _ _⟩
    go_light
    unfold bareB
    simp_all
    try (rw [Bool.eq_iff_iff]; simp; try omega)
set_option maxHeartbeats 4000000 in
theorem restFits (N : Nat) (i : In) (v : Value) (code : Int) (hc : 1 ≤ code) (hc2 : code ≤ 100000) (w : World) (hN : N ≤ w.heap.size) (h : NumsAt N w v i.n i.z) :
    Calls Tryz.prog 173 #[.agg #[.int .i64 i.op, .int .i64 i.a, .int .i64 i.b, .int .i64 i.c, v], .int .i64 code] w fun e w' => e = .returned (.bool (restB i code)) ∧ Below w.heap.size w w' := by
  obtain ⟨op, x, y, z, n, f⟩ := i
  obtain ⟨a, cap, rfl, hn, h⟩ := h
  have HF : Hid (∀ n lo hi wi, Calls Tryz.prog 61 #[.int .i64 n, .int .i64 lo, .int .i64 hi] wi fun e w' => e = .returned (.bool (fromB n lo hi)) ∧ w' = wi) := isFrom
  by_cases h1 : n = 1
  · subst h1
    obtain ⟨b, o, rfl, hb, hc0⟩ : ∃ b o, a = some ⟨b, o, none⟩ ∧ b < N ∧ ∀ i, i < 1 → w.cell? ⟨b, o + i, none⟩ = some (.int .i64 (f i)) := by
      rcases h with h | h
      · cases h
      · exact h
    have q0 : ∀ ob : Obj, (w.alloc ob).cell? ⟨b, o, none⟩ = some (.int .i64 (f 0)) := fun ob => by
      rw [(bal w ob).cell (p := ⟨b, o, none⟩) (Nat.lt_of_lt_of_le hb hN)]; exact hc0 0 (by omega)
    clear hc0 h
    go_enter Tryz.func173, Tryz.ntmps173
    go_wp2_with (go_at_call 61; refine (HF.out _ _ _ _).mono ?_; rintro e w1 ⟨rfl, h1⟩; rw [h1]; clear h1)
    all_goals
      go_ret
      refine ⟨ret_bool ?_, bal _ _⟩
      go_light
      unfold restB
      simp_all
  · have h1i : ((n : Int) == 1) = false := by simp; omega
    have h1n : decide (n = 1) = false := by simp [h1]
    clear h
    go_enter Tryz.func173, Tryz.ntmps173
    go_wp2_with (go_at_call 61; refine (HF.out _ _ _ _).mono ?_; rintro e w1 ⟨rfl, h1⟩; rw [h1]; clear h1)
    all_goals
      go_ret
      refine ⟨ret_bool ?_, bal _ _⟩
      go_light
      unfold restB
      simp_all
end Go.Proofs.YtbmenihakkogkabGreatDoor
namespace Go.Proofs.YtbmenihakkogkabGreatDoor
open Go.RowKit Go.Maps
/-! ### Rows of the call's own -/
end Go.Proofs.YtbmenihakkogkabGreatDoor
