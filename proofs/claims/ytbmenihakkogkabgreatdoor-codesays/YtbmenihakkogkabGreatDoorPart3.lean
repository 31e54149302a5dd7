import Derived.Test.YtbmenihakkogkabGreatDoorPart2
import Derived.Lib.SplitLaws
import Derived.Test.YtbmenihakkogkabGreatDoorShelf
import Derived.Deep.RegionHeld3
import Derived.Lib.SmallJoins
import Derived.Laws.StructEq
namespace Go.Proofs.YtbmenihakkogkabGreatDoor
open Go.RowKit
theorem dig_toNat (d : Nat) (h : d < 10) : (UInt8.ofNat (48 + d)).toNat = 48 + d := by
  simp only [UInt8.toNat_ofNat']; omega
theorem digits_are (u : Nat) : Lib.decDigits u ≠ [] ∧ ∀ c ∈ Lib.decDigits u, 48 ≤ c.toNat ∧ c.toNat ≤ 57 := by
  induction u using Nat.strongRecOn with
  | _ u ih =>
    by_cases h : u < 10
    · rw [Lib.decDigits_one h]
      refine ⟨by simp, fun c hc => ?_⟩
      rw [List.mem_singleton] at hc
      subst hc
      rw [dig_toNat u h]; omega
    · rw [Lib.decDigits, dif_neg h]
      refine ⟨by simp, fun c hc => ?_⟩
      rcases List.mem_append.1 hc with hc | hc
      · exact (ih (u / 10) (by omega)).2 c hc
      · rw [List.mem_singleton] at hc
        subst hc
        rw [dig_toNat (u % 10) (by omega)]; omega
theorem itoa_bytes (z : Int) : ∃ c r, Lib.itoa z = c :: r ∧ (c.toNat = 45 ∧ r ≠ [] ∨ 48 ≤ c.toNat ∧ c.toNat ≤ 57) ∧ ∀ b ∈ r, 48 ≤ b.toNat ∧ b.toNat ≤ 57 := by
  unfold Lib.itoa
  split
  · obtain ⟨h1, h2⟩ := digits_are z.natAbs
    exact ⟨45, _, rfl, Or.inl ⟨rfl, h1⟩, h2⟩
  · obtain ⟨h1, h2⟩ := digits_are z.toNat
    cases h : Lib.decDigits z.toNat with
    | nil => exact absurd h h1
    | cons c r =>
      rw [h] at h2
      exact ⟨c, r, rfl, Or.inr (h2 c (by simp)), fun b hb => h2 b (by simp [hb])⟩
theorem exprErr_zero {n : Nat} {k z : Nat → Int} {nf : Nat} {par : Nat → Int} {locals : Int} (h : exprErr n k z nf par locals = 0) :
    n ≤ 24 ∧ (∀ i, i < nf → parErr (par i) = 0) ∧ (∀ j, j < n → stepErr k z nf par locals j = 0) ∧ ¬ 0 < asked k z par n := by
  by_cases h1 : 24 < n
  · rw [exprErr_many h1] at h; cases h
  have h2 : firstErr nf (fun i => parErr (par i)) = 0 := by
    unfold exprErr at h
    rw [if_neg h1] at h
    by_cases c : firstErr nf (fun i => parErr (par i)) = 0
    · exact c
    · rw [if_neg c] at h; cases h
  have h2' := firstErr_is_zero h2
  have h3 : firstErr n (stepErr k z nf par locals) = 0 := by
    unfold exprErr at h
    rw [if_neg h1, if_pos h2] at h
    by_cases c : firstErr n (stepErr k z nf par locals) = 0
    · exact c
    · rw [if_neg c] at h; exact absurd h c
  have h3' := firstErr_is_zero h3
  refine ⟨by omega, h2', h3', fun c => ?_⟩
  rw [exprErr_end h1 h2' h3', if_pos c] at h
  cases h
theorem formErr_zero {s : Nd} {la lb : Nat} (h : formErr s la lb = 0) : 1 ≤ s.kind ∧ s.kind ≤ 8 ∧ (s.num = 0 ∨ s.kind = 1 ∨ s.kind = 2) ∧ (s.ne = 0 ∨ ¬ s.kind = 4) ∧ (s.nf = 0 ∨ s.kind = 2) ∧ (la = 0 ∨ s.kind = 6 ∨ s.kind = 7) ∧ (lb = 0 ∨ s.kind = 6) := by
  unfold formErr at h
  split at h
  · cases h
  · next hc => omega
theorem stErr_zero {nf : Nat} {par : Nat → Int} {locals : Int} {s : Nd} {la lb : Nat} (h : stErr nf par locals s la lb = 0) :
    formErr s la lb = 0 ∧ numErr s locals = 0 ∧ (s.kind = 4 ∨ exprErr s.ne s.ek s.ez nf par locals = 0) ∧ (¬ s.kind = 2 ∨ exprErr s.nf s.fk s.fz nf par locals = 0) := by
  unfold stErr at h
  by_cases h1 : formErr s la lb = 0
  · rw [if_pos h1] at h
    by_cases h2 : numErr s locals = 0
    · rw [if_pos h2] at h
      by_cases h3 : s.kind = 4
      · exact ⟨h1, h2, Or.inl h3, Or.inl (by omega)⟩
      · rw [if_neg h3] at h
        by_cases h4 : exprErr s.ne s.ek s.ez nf par locals = 0
        · rw [if_pos h4] at h
          by_cases h5 : s.kind = 2
          · rw [if_pos h5] at h; exact ⟨h1, h2, Or.inr h4, Or.inr h⟩
          · exact ⟨h1, h2, Or.inr h4, Or.inl h5⟩
        · rw [if_neg h4] at h; exact absurd h h4
    · rw [if_neg h2] at h; cases h
  · rw [if_neg h1] at h; cases h
theorem errs_item {E : Nd → Nat → Nat → Int} {d : Nat} {T : SL} (h : errs E (d + 1) T = 0) {i : Nat} (hi : i < T.len) :
    E (T.nd i) (T.sub i false).len (T.sub i true).len = 0 ∧ errs E d (T.sub i false) = 0 ∧ errs E d (T.sub i true) = 0 := by
  have h1 := firstErr_is_zero h i hi
  split at h1
  · next h2 =>
    split at h1
    · next h3 => exact ⟨h2, h3, h1⟩
    · next h3 => exact absurd h1 h3
  · next h2 => exact absurd h1 h2
theorem tail_length {ws : List Wd} {n : Nat} (h : ws.length ≤ n) : ws.tail.length ≤ n := by
  rw [List.length_tail]; omega
theorem prog_zero {nf : Nat} {par loc : Nat → Int} {d : Nat} {body : Nat → SL} (h : progErr nf par loc d body = 0) : 1 ≤ nf ∧ nf ≤ 4 ∧ (∀ i, i < nf → headErr i (par i) (loc i) = 0) ∧ ∀ i, i < nf → bodyErr nf par (loc i) d (body i) = 0 := by
  unfold progErr at h
  by_cases h1 : nf < 1 ∨ 4 < nf
  · rw [if_pos h1] at h; cases h
  · rw [if_neg h1] at h
    by_cases h2 : firstErr nf (fun i => headErr i (par i) (loc i)) = 0
    · rw [if_pos h2] at h
      exact ⟨by omega, by omega, firstErr_is_zero h2, firstErr_is_zero h⟩
    · rw [if_neg h2] at h; cases h
/-! ### What no word is -/
def plainW (w : Wd) : Prop := w ≠ funW ∧ ¬ (32 : UInt8) ∈ w.data.toList
theorem itoa_plain (p : List UInt8) (z : Int) (hp : ¬ (32 : UInt8) ∈ p) (hf : p = [] ∨ p = [118] ∨ p = [46] ∨ p = [110, 101, 119] ∨ p = [102]) : plainW (bs (p ++ Lib.itoa z)) := by
  obtain ⟨c, r, e, hc, hr⟩ := itoa_bytes z
  rw [e]
  refine ⟨fun h => ?_, fun h => ?_⟩
  · have h := bs_inj h
    rcases hf with rfl | rfl | rfl | rfl | rfl
    · injection h with h1 h2; subst h1; simp at hc
    · injection h with h1 h2; cases h1
    · injection h with h1 h2; cases h1
    · injection h with h1 h2; cases h1
    · injection h with h1 h2; injection h2 with h2 h3; subst h2; simp at hc
  · rw [bs_data, List.mem_append, List.mem_cons] at h
    rcases h with h | h | h
    · exact hp h
    · subst h; simp at hc
    · have := hr _ h; simp at this
theorem tokW_plain {k z : Int} {nf : Nat} {locals : Int} (h : tokErr k z nf locals = 0) : plainW (tokW k z) := by
  unfold tokW
  split
  · next hk =>
    subst hk
    have hz5 : z = 1 ∨ z = 2 ∨ z = 3 ∨ z = 4 ∨ z = 5 := by
      unfold tokErr at h
      rw [if_neg (by decide), if_neg (by decide), if_pos rfl] at h
      split at h
      · cases h
      · omega
    rcases hz5 with rfl | rfl | rfl | rfl | rfl <;> exact ⟨by decide, by decide⟩
  · next hk =>
    have : k.toNat = 0 ∨ k.toNat = 1 ∨ k.toNat = 2 ∨ k.toNat = 3 ∨ k.toNat = 4 ∨ k.toNat = 5 ∨ k.toNat = 6 ∨ 7 ≤ k.toNat := by omega
    have hm : mkL k.toNat = [] ∨ mkL k.toNat = [118] ∨ mkL k.toNat = [46] ∨ mkL k.toNat = [110, 101, 119] ∨ mkL k.toNat = [102] := by
      rcases this with e | e | e | e | e | e | e | e
      · rw [e]; exact Or.inl rfl
      · rw [e]; exact Or.inl rfl
      · rw [e]; exact Or.inr (Or.inl rfl)
      · rw [e]; exact Or.inl rfl
      · rw [e]; exact Or.inr (Or.inr (Or.inl rfl))
      · rw [e]; exact Or.inr (Or.inr (Or.inr (Or.inl rfl)))
      · rw [e]; exact Or.inr (Or.inr (Or.inr (Or.inr rfl)))
      · left; unfold mkL; split <;> first | omega | rfl
    refine itoa_plain _ z ?_ hm
    rcases hm with e | e | e | e | e <;> rw [e] <;> decide
theorem toksW_plain {k z : Nat → Int} {nf : Nat} {locals : Int} : ∀ {n : Nat}, (∀ j, j < n → tokErr (k j) (z j) nf locals = 0) → ∀ w ∈ toksW k z n, plainW w
  | 0, _, w, hw => by cases hw
  | n + 1, h, w, hw => by
    rcases List.mem_append.1 hw with hw | hw
    · exact toksW_plain (fun j hj => h j (by omega)) w hw
    · rw [List.mem_singleton] at hw; subst hw; exact tokW_plain (h n (by omega))
theorem catTo_mem {f : Nat → List Wd} {w : Wd} : ∀ {n : Nat}, w ∈ catTo f n → ∃ i, i < n ∧ w ∈ f i
  | 0, h => by cases h
  | n + 1, h => by
    rcases List.mem_append.1 h with h | h
    · obtain ⟨i, hi, hw⟩ := catTo_mem h
      exact ⟨i, by omega, hw⟩
    · exact ⟨n, by omega, h⟩
theorem expr_toks {n : Nat} {k z : Nat → Int} {nf : Nat} {par : Nat → Int} {locals : Int} (h : exprErr n k z nf par locals = 0) : ∀ j, j < n → tokErr (k j) (z j) nf locals = 0 :=
  fun j hj => (stepErr_tok ((exprErr_zero h).2.2.1 j hj)).1
/-! ### The heads -/
theorem bodyErr_errs {nf : Nat} {par : Nat → Int} {locals : Int} {d : Nat} {T : SL} (h : bodyErr nf par locals d T = 0) : sound d T ∧ errs (stErr nf par locals) d T = 0 := by
  unfold bodyErr at h
  by_cases c : (wk look1 d T 1 0).1 = 0
  · rw [if_pos c] at h; exact ⟨wk1_iff.1 c, h⟩
  · rw [if_neg c] at h; cases h
theorem head_range {i : Nat} {p l : Int} (h : headErr i p l = 0) : 0 ≤ p ∧ p ≤ 3 ∧ p ≤ l ∧ l ≤ 6 := by
  unfold headErr at h
  split at h
  · cases h
  · omega
/-! ### Words and texts -/
def wordsOf (s : ByteArray) : List Wd := Lib.splitB (bs [32]) 0 (Lib.countB s (bs [32])) s
end Go.Proofs.YtbmenihakkogkabGreatDoor
namespace Go.Proofs.YtbmenihakkogkabGreatDoor
open Go.RowKit Go.Maps
structure Env (N : Nat) (w : World) : Prop where
  low : 11 ≤ N
  st : ∀ k, k < 9 → w.cell? ⟨1, k, none⟩ = some (.string (bs (stL k)))
  op : ∀ k, k < 6 → w.cell? ⟨3, k, none⟩ = some (.string (bs (opL k)))
  mks : ∀ k, k < 7 → w.cell? ⟨4, k, none⟩ = some (.string (bs (mkL k)))
  pow : Lib.TabIs Tryz.prog w "internal/strconv.uint64pow10" .u64 Lib.pow10Tab
  syn : ∃ tp p, w.var? Tryz.prog "strconv.ErrSyntax" = some #[.iface tp p]
  rng : ∃ tp p, w.var? Tryz.prog "strconv.ErrRange" = some #[.iface tp p]
  max : ∃ m, w.cell? ⟨8, 0, none⟩ = some (.int .i64 m)
theorem gPow : Tryz.prog.globalNamed "internal/strconv.uint64pow10" = some 7 := by kernel_rfl
theorem gSyn : Tryz.prog.globalNamed "strconv.ErrSyntax" = some 5 := by kernel_rfl
theorem gRng : Tryz.prog.globalNamed "strconv.ErrRange" = some 6 := by kernel_rfl
theorem var_of_block {P : Program} {w w' : World} {n : String} {g : Nat} (hg : P.globalNamed n = some g) (hb : w'.heap[g]? = w.heap[g]?) : w'.var? P n = w.var? P n := by
  unfold World.var?
  rw [hg]
  simp only [Option.bind_some, hb]
theorem Env.below {N : Nat} {w w' : World} (h : Env N w) (hb : Below N w w') : Env N w' := by
  have l := h.low
  refine ⟨l, fun k hk => ?_, fun k hk => ?_, fun k hk => ?_, ?_, ?_, ?_, ?_⟩
  · rw [hb.cell (p := ⟨1, k, none⟩) (by show 1 < N; omega)]; exact h.st k hk
  · rw [hb.cell (p := ⟨3, k, none⟩) (by show 3 < N; omega)]; exact h.op k hk
  · rw [hb.cell (p := ⟨4, k, none⟩) (by show 4 < N; omega)]; exact h.mks k hk
  · unfold Lib.TabIs; rw [var_of_block gPow (hb.block 7 (by omega))]; exact h.pow
  · rw [var_of_block gSyn (hb.block 5 (by omega))]; exact h.syn
  · rw [var_of_block gRng (hb.block 6 (by omega))]; exact h.rng
  · rw [hb.cell (p := ⟨8, 0, none⟩) (by show 8 < N; omega)]; exact h.max
theorem Env.up {N M : Nat} {w : World} (h : Env N w) (hm : N ≤ M) : Env M w := ⟨Nat.le_trans h.low hm, h.st, h.op, h.mks, h.pow, h.syn, h.rng, h.max⟩
theorem below_grow (w : World) (k : Nat) (os : Array Obj) : Below w.heap.size w (Sort.grow (w.drewN k) os) :=
  ⟨rfl, rfl, rfl, by simp [Sort.grow, World.drewN], fun j hj => by
    show (w.heap ++ os)[j]? = w.heap[j]?
    rw [Array.getElem?_append_left hj]⟩
theorem itoa (N : Nat) (z : Int) (h0 : -9223372036854775808 ≤ z) (h1 : z ≤ 9223372036854775807) (w : World) (he : Env N w) :
    Calls Tryz.prog 38 #[.int .i64 z] w fun e w' => e = .returned (.string (numW z)) ∧ Below w.heap.size w w' := by
  refine (Tryz.strconv_Itoa z h0 h1 w he.pow).mono ?_
  rintro e w' ⟨rfl, k, os, rfl⟩
  exact ⟨rfl, below_grow w k os⟩
theorem atoi (N : Nat) (s : Wd) (hs : s.size ≤ 1000000) (w : World) (he : Env N w) :
    Calls Tryz.prog 47 #[.string s] w fun e w' => ∃ er, e = .returned (.tuple #[.int .i64 (atoiV s.data.toList), er]) ∧ Below w.heap.size w w' := by
  cases h : Lib.atoiAll s.data.toList with
  | ok v =>
    have e0 : atoiV s.data.toList = v := by unfold atoiV; rw [h]
    rw [e0]
    refine (Tryz.strconv_Atoi_ok s (by omega) v h w).mono ?_
    rintro e w' ⟨rfl, rfl | ⟨t, rfl⟩⟩
    · exact ⟨_, rfl, Below.refl _ _⟩
    · exact ⟨_, rfl, Lib.bytesWorld_below _ _ _⟩
  | «syntax» =>
    have e0 : atoiV s.data.toList = 0 := by unfold atoiV; rw [h]
    rw [e0]
    obtain ⟨tp, p, hv⟩ := he.syn
    refine (Tryz.strconv_Atoi_syntax_var s (by omega) h tp p w hv).mono ?_
    rintro e w' ⟨n, rfl, _, _, hb⟩
    exact ⟨_, rfl, hb⟩
  | range =>
    have e0 : atoiV s.data.toList = Lib.atoiSat s.data.toList := by unfold atoiV; rw [h]
    rw [e0]
    obtain ⟨tp, p, hv⟩ := he.rng
    refine (Tryz.strconv_Atoi_range_var s (by omega) h tp p w hv).mono ?_
    rintro e w' ⟨n, rfl, _, _, hb⟩
    exact ⟨_, rfl, hb⟩
/-! ### Rows of words of the call's own -/
structure Grow (w : World) (v : Value) (w' : World) (v' : Value) : Prop where
  os : w'.os = w.os
  tape : w'.tape = w.tape
  output : w'.output = w.output
  size : w.heap.size ≤ w'.heap.size
  block : ∀ k, k < w.heap.size → ¬ v.ownBlock = some k → w'.heap[k]? = w.heap[k]?
  own : ∀ k, k < w.heap.size → v'.ownBlock = some k → v.ownBlock = some k
theorem Grow.refl (w : World) (v : Value) : Grow w v w v := ⟨rfl, rfl, rfl, Nat.le_refl _, fun _ _ _ => rfl, fun _ _ h => h⟩
theorem Grow.trans {a b c : World} {u v x : Value} (h : Grow a u b v) (k : Grow b v c x) : Grow a u c x :=
  ⟨k.os.trans h.os, k.tape.trans h.tape, k.output.trans h.output, Nat.le_trans h.size k.size,
    fun n hn hx => (k.block n (Nat.lt_of_lt_of_le hn h.size) fun e => hx (h.own n hn e)).trans (h.block n hn hx),
    fun n hn e => h.own n hn (k.own n (Nat.lt_of_lt_of_le hn h.size) e)⟩
theorem Grow.of {a b : World} (v : Value) (h : Below a.heap.size a b) : Grow a v b v := ⟨h.os, h.tape, h.output, h.size, fun n hn _ => h.block n hn, fun _ _ e => e⟩
def WS (B : Nat) (w : World) (v : Value) (R : List Wd) : Prop := w.ownsRow B 9 1 v R.length (R.map Value.string)
theorem WS.nil (B : Nat) (w : World) : WS B w (.slice none 0 0) [] := ⟨rfl, Or.inl ⟨rfl, rfl⟩⟩
theorem WS.low {B : Nat} {w : World} {v : Value} {R : List Wd} (h : WS B w v R) : ∀ k, v.ownBlock = some k → B ≤ k := by
  intro k hk
  rcases h.2 with ⟨rfl, _⟩ | ⟨g, cap, cur, rfl, hb, _⟩
  · cases hk
  · cases hk; exact hb
theorem WS.lt {B : Nat} {w : World} {v : Value} {R : List Wd} (h : WS B w v R) : ∀ k, v.ownBlock = some k → k < w.heap.size := by
  intro k hk
  rcases h.2 with ⟨rfl, _⟩ | ⟨g, cap, cur, rfl, hb, hg, _⟩
  · cases hk
  · cases hk; exact (Array.getElem?_eq_some_iff.1 hg).1
theorem WS.keep {B : Nat} {w w' : World} {v : Value} {R : List Wd} (h : WS B w v R) (hb : Below w.heap.size w w') : WS B w' v R := by
  unfold WS at *
  refine ⟨h.1, ?_⟩
  rcases h.2 with ⟨rfl, h0⟩ | ⟨g, cap, cur, rfl, h1, h2, h3⟩
  · exact Or.inl ⟨rfl, h0⟩
  · exact Or.inr ⟨g, cap, cur, rfl, h1, by rw [hb.block g (Array.getElem?_eq_some_iff.1 h2).1]; exact h2, h3⟩
theorem Grow.low {B : Nat} {a b : World} {u v : Value} (h : Grow a u b v) (hu : ∀ k, u.ownBlock = some k → B ≤ k) (hB : B ≤ a.heap.size) : Below B a b :=
  ⟨h.os, h.tape, h.output, h.size, fun k hk => h.block k (Nat.lt_of_lt_of_le hk hB) fun e => by have := hu k e; omega⟩
theorem info9 : (Tryz.prog.info? 9).map (fun i => (i.zero, i.size, i.bytes)) = some (some (.string ⟨#[]⟩), 1, 16) := by kernel_rfl
theorem strs_one (L : List Wd) : ∀ u ∈ L.map Value.string, u.oneCell' = true := by
  intro u hu
  obtain ⟨x, _, rfl⟩ := List.mem_map.1 hu
  rfl
theorem append_strs {ops : Array Oper} {rest : List Oper} {o : Oper} {a : Act} {Q : Exit → Act → World → Prop} (w : World) (hgd : o.guard = none) (s y : Operand)
    (ho : o.op = .call { callee := .builtin .append, args := #[s, y], argTypes := #[69, 69] }) (base : Nat) (v : Value) (R L : List Wd) (hs : a.eval s = v) (hown : WS base w v R)
    (t : TypeId) (B m : Nat) (hB : w.heap.size = B) (hm : L.length = m) (hy : a.eval y = .slice (some ⟨B, 0, none⟩) m m) (hR : R.length + L.length ≤ 1000000) (hbase : base ≤ w.heap.size)
    (h : ∀ v' w2, WS base w2 v' (R ++ L) → Grow w v w2 v' → wpList Tryz.prog ops Q rest (a.put o.dst v') w2) :
    wpList Tryz.prog ops Q (o :: rest) a (w.alloc (.cells (L.map Value.string).toArray t)) := by
  subst hB
  subst hm
  obtain ⟨i0, hi, hz0, hz1, hz2⟩ := info_parts info9
  have hk : Below w.heap.size w (w.alloc (.cells (L.map Value.string).toArray t)) := bal _ _
  refine wpList_append_own_at _ hgd s y 69 ho base 9 i0 (.string ⟨#[]⟩) 1 16 Tryz.underlying69 hi hz0 hz1 hz2 rfl (by decide) v _ _ hs (hown.keep hk) ⟨w.heap.size, 0, none⟩ L.length L.length (L.map Value.string) hy (by simp) (fun j u hj => ?_) (strs_one L) (by unfold maxLen; omega) (by omega) (Nat.le_trans hbase hk.size) ?_
  · rw [WideShapes.add_plain, Nat.zero_add, World.cell?_alloc_new]
    simpa using hj
  · intro v' w2 h1 h2 _ h4
    refine h v' w2 ?_ ⟨h2.os, h2.tape, h2.output, Nat.le_trans hk.size h2.size, fun k hk1 hk2 => ?_, fun k hk1 hk2 => ?_⟩
    · unfold WS
      rw [List.length_append, List.map_append]
      exact h1
    · rw [h2.block k (Nat.lt_of_lt_of_le hk1 hk.size) (fun e => hk2 e.symm)]
      exact hk.block k hk1
    · rcases h4 with h4 | h4
      · rw [← h4]; exact hk2
      · have h5 : (w.alloc (.cells (L.map Value.string).toArray t)).heap.size = k := Option.some.inj (h4.symm.trans hk2)
        have h6 := hk.size
        omega
theorem append_str {ops : Array Oper} {rest : List Oper} {o : Oper} {a : Act} {Q : Exit → Act → World → Prop} (w : World) (hgd : o.guard = none) (s y : Operand)
    (ho : o.op = .call { callee := .builtin .append, args := #[s, y], argTypes := #[69, 69] }) (base : Nat) (v : Value) (R : List Wd) (x : Wd) (hs : a.eval s = v) (hown : WS base w v R)
    (t : TypeId) (B : Nat) (hB : w.heap.size = B) (hy : a.eval y = .slice (some ⟨B, 0, none⟩) 1 1) (hR : R.length + 1 ≤ 1000000) (hbase : base ≤ w.heap.size)
    (h : ∀ v' w2, WS base w2 v' (R ++ [x]) → Grow w v w2 v' → wpList Tryz.prog ops Q rest (a.put o.dst v') w2) :
    wpList Tryz.prog ops Q (o :: rest) a (w.alloc (.cells #[.string x] t)) :=
  append_strs w hgd s y ho base v R [x] hs hown t B 1 hB rfl hy hR hbase h
theorem strEq (a b : ByteArray) : (a.toList == b.toList) = decide (a = b) := by
  rw [← beq_toListBytes]
  by_cases h : a = b
  · subst h; rw [beq_toListBytes]; simp
  · rw [beq_toListBytes, decide_eq_false h, beq_eq_false_iff_ne]
    intro e
    exact h (ByteArray.ext (by rw [ByteArray.toList_eq, ByteArray.toList_eq] at e; exact Array.toList_inj.1 e))
theorem idxSt : ∀ (k : Nat) (_ : k < 9) (w : World), (Instr.index 207 (.agg #[.string (bs (stL 0)), .string (bs (stL 1)), .string (bs (stL 2)), .string (bs (stL 3)), .string (bs (stL 4)), .string (bs (stL 5)), .string (bs (stL 6)), .string (bs (stL 7)), .string (bs (stL 8))]) (.int .i64 (k : Int))).run Tryz.prog w = .ok (.string (bs (stL k))) w
  | 0, _, w => by kernel_rfl
  | 1, _, w => by kernel_rfl
  | 2, _, w => by kernel_rfl
  | 3, _, w => by kernel_rfl
  | 4, _, w => by kernel_rfl
  | 5, _, w => by kernel_rfl
  | 6, _, w => by kernel_rfl
  | 7, _, w => by kernel_rfl
  | 8, _, w => by kernel_rfl
  | k + 9, h, _ => absurd h (by omega)
theorem find_hit {p : Nat → Bool} {n k : Nat} (hk : k < n) (h0 : ∀ j, j < k → p j = false) (h1 : p k = true) : (List.range n).find? p = some k := by
  rw [List.find?_range_eq_some]
  exact ⟨h1, List.mem_range.2 hk, fun j hj => by rw [h0 j hj]; rfl⟩
theorem kindOf_hit {x : Wd} {k : Nat} (hk : k < 9) (h0 : ∀ j, j < k → ¬ bs (stL j) = x) (h1 : bs (stL k) = x) : kindOf x = k := by
  unfold kindOf
  rw [find_hit hk (fun j hj => by simp [h0 j hj]) (by simp [h1])]
  rfl
theorem kindOf_miss {x : Wd} (h0 : ∀ j, j < 9 → ¬ bs (stL j) = x) : kindOf x = 0 := by
  unfold kindOf
  rw [List.find?_eq_none.2 (fun j hj => by simp [h0 j (List.mem_range.1 hj)])]
  rfl
theorem kindOf_lt (x : Wd) : kindOf x ≤ 8 := by
  unfold kindOf
  cases h : (List.range 9).find? fun k => decide (bs (stL k) = x) with
  | none => simp
  | some k =>
    have := List.mem_of_find?_eq_some h
    simp at this ⊢
    omega
set_option maxHeartbeats 1000000 in
theorem stmtKind (N : Nat) (x : Wd) (w : World) (he : Env N w) :
    Calls Tryz.prog 157 #[.string x] w fun e w' => e = .returned (.int .i64 (kindOf x : Int)) ∧ w' = w := by
  have c0 := he.st 0 (by decide)
  have c1 := he.st 1 (by decide)
  have c2 := he.st 2 (by decide)
  have c3 := he.st 3 (by decide)
  have c4 := he.st 4 (by decide)
  have c5 := he.st 5 (by decide)
  have c6 := he.st 6 (by decide)
  have c7 := he.st 7 (by decide)
  have c8 := he.st 8 (by decide)
  have HIdx : Hid (∀ (k : Nat), k < 9 → ∀ w : World, (Instr.index 207 (.agg #[.string (bs (stL 0)), .string (bs (stL 1)), .string (bs (stL 2)), .string (bs (stL 3)), .string (bs (stL 4)), .string (bs (stL 5)), .string (bs (stL 6)), .string (bs (stL 7)), .string (bs (stL 8))]) (.int .i64 (k : Int))).run Tryz.prog w = .ok (.string (bs (stL k))) w) := idxSt
  clear he
  go_enter Tryz.func157, Tryz.ntmps157
  go_upto_region 2 with (fail)
  clear c0 c1 c2 c3 c4 c5 c6 c7 c8
  go_loopw [6] (fun i wr => ∃ j : Nat, j ≤ 9 ∧ i = .int .i64 j ∧ wr = w ∧ Hid (∀ t, t < j → ¬ bs (stL t) = x)) (fun i _ => 9 - (intOf i).toNat)
  case atStart => exact ⟨0, by omega, rfl, rfl, fun t ht => absurd ht (Nat.not_lt_zero _)⟩
  case round =>
    obtain ⟨j, hj0, rfl, rfl, HM⟩ := hrel
    by_cases hj : j < 9
    · have hidx := HIdx.out j hj
      have hji : (j : Int) < 9 := by omega
      by_cases hx : bs (stL j) = x
      · have hxb : ((bs (stL j)).toList == x.toList) = true := by rw [strEq]; simp [hx]
        have HF : Hid (kindOf x = j) := kindOf_hit hj HM.out hx
        clear hx
        go_wp2_with fail
        go_ret
        exact ⟨by rw [HF.out]; rfl, rfl⟩
      · have HX : Hid (¬ bs (stL j) = x) := hx
        have hxb : ((bs (stL j)).toList == x.toList) = false := by rw [strEq]; simp [hx]
        clear hx
        go_wp2_with fail
        go_roundw
        case rel => exact ⟨j + 1, by omega, by go_num, trivial, upTo HM.out HX.out⟩
        case measure => simp [intOf]; omega
    · obtain rfl : j = 9 := by omega
      have HF : Hid (kindOf x = 0) := kindOf_miss HM.out
      go_wp2_with fail
      go_ret
      exact ⟨by rw [HF.out]; rfl, rfl⟩
end Go.Proofs.YtbmenihakkogkabGreatDoor
