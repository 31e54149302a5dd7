/- What the listed variables read as gives the program's tables. -/
import Derived.Test.YtfblnmbcaglliabGreatDoorSayProg
import Derived.LaidMore
import Derived.Lib.LaidTab
import Derived.Stop.LaidErr
namespace Go.Proofs.YtfblnmbcaglliabGreatDoor
open Go.RowKit Go.ChangeShapes Go.WideShapes Go.ChangeAt

/-- The listed variables. -/
def laidL : List (String × DataW Unit) := Rows.wordsSayRow.laid

/-- One of them. -/
theorem laid_at {P : Program} {W : World} : ∀ {l : List (String × DataW Unit)}, laidMet P l W → ∀ {n : String} {d : DataW Unit}, (n, d) ∈ l → ∃ g t cs fuel p, P.globalNamed n = some g ∧ (P.globals[g]?).map (·.type) = some t ∧ W.var? P n = some cs ∧ DataW.trod (fun _ => ()) P W 0 (fun _ => true) false fuel t cs.toList = some (d, p)
  | [], _, _, _, h => by cases h
  | x :: l, hL, n, d, h => by
    rcases List.mem_cons.1 h with rfl | h
    · obtain ⟨ps, ⟨g, t, cs, fuel, p, q, h1, h2, h3, h4, _⟩, _⟩ := hL
      exact ⟨g, t, cs, fuel, p, h1, h2, h3, h4⟩
    · exact laid_at hL.tail h

/-- An array of strings that reads as some texts holds them, cell by cell. -/
theorem strs_of_tab {P : Program} {w : World} {fuel : Nat} {t e : TypeId} {n : Nat} {cs : List Value} {ts : List (List UInt8)} {p : List MemPlace}
    (ht : P.underlying t = some (.array n e)) (he : P.underlying e = some .string) (hce : P.cellsOf e = 1) (hct : P.cellsOf t = n)
    (h : DataW.trod (fun _ => ()) P w 0 (fun _ => true) false fuel t cs = some (.agg (ts.map fun s => .lit (.string s)), p)) : cs = ts.map fun s => Value.string (bs s) := by
  cases fuel with
  | zero => simp [DataW.trod] at h
  | succ fuel =>
    simp only [DataW.trod, ht, hce, hct, Nat.mul_one] at h
    split at h
    · rename_i hl
      obtain ⟨xs, hm, hx⟩ := Option.map_eq_some_iff.1 h
      have hxs : xs.map (·.1) = ts.map fun s => (DataW.lit (.string s) : DataW Unit) := by
        have := congrArg Prod.fst hx
        simpa using this
      have hxl : xs.length = n := by simpa using Lib.mapM_length hm
      have hzl : ts.length = n := by
        have := congrArg List.length hxs
        simp at this
        omega
      apply List.ext_getElem?
      intro i
      by_cases hi : i < n
      · obtain ⟨b, hb, hf⟩ := Lib.mapM_at hm i i (by simp [hi])
        obtain ⟨s, hc, rfl, _⟩ := DataW.trod_string he hf
        have h1 : cs[i]? = some (.string s) := by
          have := congrArg (·[0]?) hc
          simpa [List.getElem?_take, List.getElem?_drop] using this
        have h2 : (xs.map (·.1))[i]? = some (DataW.lit (.string s.data.toList) : DataW Unit) := by simp [hb]
        rw [hxs] at h2
        simp only [List.getElem?_map, Option.map_eq_some_iff, DataW.lit.injEq, Lit.string.injEq] at h2
        obtain ⟨z', hz', e'⟩ := h2
        rw [h1, List.getElem?_map, hz', e']
        rfl
      · rw [List.getElem?_eq_none (by omega), List.getElem?_eq_none (by simp; omega)]
    · cases h

theorem gSt : Tryz.prog.globalNamed "wanderer/words.stmtWords" = some 1 := by kernel_rfl
theorem gOp : Tryz.prog.globalNamed "wanderer/words.opWords" = some 3 := by kernel_rfl
theorem gMk : Tryz.prog.globalNamed "wanderer/words.marks" = some 4 := by kernel_rfl
theorem tSt : (Tryz.prog.globals[1]?).map (·.type) = some 126 := by kernel_rfl
theorem tOp : (Tryz.prog.globals[3]?).map (·.type) = some 159 := by kernel_rfl
theorem tMk : (Tryz.prog.globals[4]?).map (·.type) = some 160 := by kernel_rfl
theorem c9 : Tryz.prog.cellsOf 9 = 1 := by kernel_rfl
theorem cA9 : Tryz.prog.cellsOf 126 = 9 := by kernel_rfl
theorem cA6 : Tryz.prog.cellsOf 159 = 6 := by kernel_rfl
theorem cA7 : Tryz.prog.cellsOf 160 = 7 := by kernel_rfl

/-- A table of strings, cell by cell. -/
theorem tab_cells {W : World} {name : String} {g : Nat} {t : TypeId} {n : Nat} {ts : List (List UInt8)} {l : List (String × DataW Unit)} (hL : laidMet Tryz.prog l W) (hm : (name, .agg (ts.map fun s => .lit (.string s))) ∈ l)
    (hg : Tryz.prog.globalNamed name = some g) (htt : (Tryz.prog.globals[g]?).map (·.type) = some t) (ht : Tryz.prog.underlying t = some (.array n 9)) (hct : Tryz.prog.cellsOf t = n) (k : Nat) (hk : k < ts.length) :
    W.cell? ⟨g, k, none⟩ = some (.string (bs (ts.getD k []))) := by
  obtain ⟨g', t', cs, fuel, p, h1, h2, h3, h4⟩ := laid_at hL hm
  obtain rfl := Option.some.inj (hg.symm.trans h1)
  obtain rfl := Option.some.inj (htt.symm.trans h2)
  have e := strs_of_tab ht Tryz.underlying9 c9 hct h4
  have := World.var?_cell hg h3 k
  rw [this, ← Array.getElem?_toList, e, List.getElem?_map, List.getElem?_eq_getElem hk]
  simp [List.getD, hk]

theorem some_iface {W : World} {name nm : String} {g : Nat} {t : TypeId} {ms : Array (String × TypeId)} {d : DataW Unit} {l : List (String × DataW Unit)} (hL : laidMet Tryz.prog l W) (hm : (name, .iface nm d) ∈ l)
    (hg : Tryz.prog.globalNamed name = some g) (htt : (Tryz.prog.globals[g]?).map (·.type) = some t) (ht : Tryz.prog.underlying t = some (.interface ms)) : ∃ tp p, W.var? Tryz.prog name = some #[.iface tp p] := by
  obtain ⟨g', t', cs, fuel, p, h1, h2, h3, h4⟩ := laid_at hL hm
  obtain rfl := Option.some.inj (hg.symm.trans h1)
  obtain rfl := Option.some.inj (htt.symm.trans h2)
  obtain ⟨_, u, v, e, _⟩ := iface_of_trod ht h4
  exact ⟨u, v, by rw [h3, Array.eq_one_of_toList e]⟩

theorem tSyn : (Tryz.prog.globals[5]?).map (·.type) = some 60 := by kernel_rfl
theorem tRng : (Tryz.prog.globals[6]?).map (·.type) = some 60 := by kernel_rfl
theorem tPow : (Tryz.prog.globals[7]?).map (·.type) = some 189 := by kernel_rfl
theorem cA20 : Tryz.prog.cellsOf 189 = 20 := by kernel_rfl
theorem cU64 : Tryz.prog.cellsOf 154 = 1 := by kernel_rfl

theorem pow_of_laid {W : World} (hL : laidMet Tryz.prog laidL W) : Lib.TabIs Tryz.prog W "internal/strconv.uint64pow10" .u64 Lib.pow10Tab := by
  have hm : ("internal/strconv.uint64pow10", (Rows.laid_internal_strconv_uint64pow10 : DataW Unit)) ∈ laidL := by unfold laidL Rows.wordsSayRow; simp
  obtain ⟨g', t', cs, fuel, p, h1, h2, h3, h4⟩ := laid_at hL hm
  obtain rfl := Option.some.inj (gPow.symm.trans h1)
  obtain rfl := Option.some.inj (tPow.symm.trans h2)
  have e : (Rows.laid_internal_strconv_uint64pow10 : DataW Unit) = Lib.tabData .u64 Lib.pow10Tab := by unfold Rows.laid_internal_strconv_uint64pow10; rfl
  rw [e] at h4
  unfold Lib.TabIs
  rw [h3, ← Lib.cells_of_tab Tryz.underlying189 Tryz.underlying154 cU64 cA20 h4]

def stTs : List (List UInt8) := [stL 0, stL 1, stL 2, stL 3, stL 4, stL 5, stL 6, stL 7, stL 8]
def opTs : List (List UInt8) := [opL 0, opL 1, opL 2, opL 3, opL 4, opL 5]
def mkTs : List (List UInt8) := [mkL 0, mkL 1, mkL 2, mkL 3, mkL 4, mkL 5, mkL 6]
theorem stTs_at : ∀ k, k < 9 → stTs.getD k [] = stL k
  | 0, _ => rfl
  | 1, _ => rfl
  | 2, _ => rfl
  | 3, _ => rfl
  | 4, _ => rfl
  | 5, _ => rfl
  | 6, _ => rfl
  | 7, _ => rfl
  | 8, _ => rfl
  | k + 9, h => absurd h (by omega)
theorem opTs_at : ∀ k, k < 6 → opTs.getD k [] = opL k
  | 0, _ => rfl
  | 1, _ => rfl
  | 2, _ => rfl
  | 3, _ => rfl
  | 4, _ => rfl
  | 5, _ => rfl
  | k + 6, h => absurd h (by omega)
theorem mkTs_at : ∀ k, k < 7 → mkTs.getD k [] = mkL k
  | 0, _ => rfl
  | 1, _ => rfl
  | 2, _ => rfl
  | 3, _ => rfl
  | 4, _ => rfl
  | 5, _ => rfl
  | 6, _ => rfl
  | k + 7, h => absurd h (by omega)

theorem gTop : Tryz.prog.globalNamed "math/bits.deBruijn64tab" = some 12 := by kernel_rfl
theorem var_lt {P : Program} {w : World} {n : String} {g : Nat} {cs : Array Value} (hg : P.globalNamed n = some g) (h : w.var? P n = some cs) : g < w.heap.size := by
  unfold World.var? at h
  rw [hg] at h
  simp only [Option.bind_some] at h
  cases e : w.heap[g]? with
  | none => rw [e] at h; cases h
  | some o => exact (Array.getElem?_eq_some_iff.1 e).1

/-- The tables of a world in which the listed variables are as listed. -/
theorem env_of_laid {W : World} (hL : laidMet Tryz.prog laidL W) (hsh : W.ShapedOpen Tryz.prog) : Env W.heap.size W := by
  have m1 : ("wanderer/words.stmtWords", (.agg (stTs.map fun s => .lit (.string s)) : DataW Unit)) ∈ laidL := by
    have : (.agg (stTs.map fun s => .lit (.string s)) : DataW Unit) = Rows.laid_wanderer_words_stmtWords := rfl
    rw [this]; unfold laidL Rows.wordsSayRow; simp
  have m2 : ("wanderer/words.opWords", (.agg (opTs.map fun s => .lit (.string s)) : DataW Unit)) ∈ laidL := by
    have : (.agg (opTs.map fun s => .lit (.string s)) : DataW Unit) = Rows.laid_wanderer_words_opWords := rfl
    rw [this]; unfold laidL Rows.wordsSayRow; simp
  have m3 : ("wanderer/words.marks", (.agg (mkTs.map fun s => .lit (.string s)) : DataW Unit)) ∈ laidL := by
    have : (.agg (mkTs.map fun s => .lit (.string s)) : DataW Unit) = Rows.laid_wanderer_words_marks := rfl
    rw [this]; unfold laidL Rows.wordsSayRow; simp
  have m4 : ("strconv.ErrRange", (Rows.laid_strconv_ErrRange : DataW Unit)) ∈ laidL := by unfold laidL Rows.wordsSayRow; simp
  have m5 : ("strconv.ErrSyntax", (Rows.laid_strconv_ErrSyntax : DataW Unit)) ∈ laidL := by unfold laidL Rows.wordsSayRow; simp
  obtain ⟨mx, hmx⟩ := Tryz.laysM146.s1_3 W hsh
  refine ⟨?_, fun k hk => ?_, fun k hk => ?_, fun k hk => ?_, pow_of_laid hL, some_iface hL m5 gSyn tSyn Tryz.underlying60, some_iface hL m4 gRng tRng Tryz.underlying60, ⟨mx, hmx⟩⟩
  · have m6 : ("math/bits.deBruijn64tab", (Rows.laid_math_bits_deBruijn64tab : DataW Unit)) ∈ laidL := by unfold laidL Rows.wordsSayRow; simp
    obtain ⟨g', t', cs, fuel, p, h1, h2, h3, h4⟩ := laid_at hL m6
    have := var_lt gTop h3
    omega
  · have := tab_cells hL m1 gSt tSt Tryz.underlying126 cA9 k hk
    rw [stTs_at k hk] at this; exact this
  · have := tab_cells hL m2 gOp tOp Tryz.underlying159 cA6 k hk
    rw [opTs_at k hk] at this; exact this
  · have := tab_cells hL m3 gMk tMk Tryz.underlying160 cA7 k hk
    rw [mkTs_at k hk] at this; exact this

theorem tSpc : (Tryz.prog.globals[0]?).map (·.type) = some 113 := by kernel_rfl
theorem cA256 : Tryz.prog.cellsOf 113 = 256 := by kernel_rfl
theorem cU8 : Tryz.prog.cellsOf 5 = 1 := by kernel_rfl

set_option maxRecDepth 20000 in
theorem spc_of_laid {W : World} (hL : laidMet Tryz.prog laidL W) (he : 11 ≤ W.heap.size) : Spc W.heap.size W := by
  refine ⟨by omega, ?_⟩
  have hm : ("strings.asciiSpace", (Rows.laid_strings_asciiSpace : DataW Unit)) ∈ laidL := by unfold laidL Rows.wordsSayRow; simp
  obtain ⟨g', t', cs, fuel, p, h1, h2, h3, h4⟩ := laid_at hL hm
  obtain rfl := Option.some.inj (gSpace.symm.trans h1)
  obtain rfl := Option.some.inj (tSpc.symm.trans h2)
  have e : (Rows.laid_strings_asciiSpace : DataW Unit) = Lib.tabData .u8 Lib.asciiSpaceTab := by unfold Rows.laid_strings_asciiSpace; rfl
  rw [e] at h4
  unfold Lib.TabIs
  rw [h3, ← Lib.cells_of_tab Tryz.underlying113 Tryz.underlying5 cU8 cA256 h4]

end Go.Proofs.YtfblnmbcaglliabGreatDoor
