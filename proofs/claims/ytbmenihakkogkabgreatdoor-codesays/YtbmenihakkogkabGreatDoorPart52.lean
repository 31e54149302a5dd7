import Derived.Test.YtbmenihakkogkabGreatDoorPart46
import Derived.Test.YtbmenihakkogkabGreatDoorPart47
import Derived.Test.YtbmenihakkogkabGreatDoorPart51
import Derived.Deep.RegionHeld3
import Derived.LaidMore
import Derived.Lib.LaidTab
import Derived.Stop.LaidErr
namespace Go.Proofs.YtbmenihakkogkabGreatDoor
open Go.RowKit Go.Maps
set_option maxRecDepth 20000 in
set_option maxHeartbeats 4000000 in
theorem codeSays (N : Nat) (v0 v1 v2 : Value) (np nq nf : Nat) (P Q : Nat → Pc) (par loc : Nat → Int) (bv : Nat → Value) (d : Nat) (body : Nat → SL) (w : World) (hN : N ≤ w.heap.size) (he : Env N w) (hp : ProcsAt N w v0 np P) (hq : ProcsAt N w v1 nq Q) (fp : opsFit np P) (hf : FunsAt N w v2 nf par loc bv) (hs : ∀ i, i < nf → StmtsAt N w d (bv i) (body i)) (hk : ∀ i, i < nf → kindsFit d (body i)) :
    Calls Tryz.prog 4 #[v0, v1, v2] w fun e w' => e = .returned (.bool true) ∧ Below w.heap.size w w' := by
  have HCo : Hid (Calls Tryz.prog 14 #[v2] w fun e w' => ∃ (a : Option Addr) (n c : Nat), e = .returned (.tuple #[.slice a n c, .int .i64 (progErr nf par loc d body)]) ∧ Hid (Below w.heap.size w w') ∧ Hid (¬ progErr nf par loc d body = 0 → n = 0) ∧ Hid (progErr nf par loc d body = 0 → n = nf ∧ CompP nf par (.slice a n c) w w')) := compile N v2 nf par loc bv d body w hN hf hs
  have HCs : Hid (∀ wi, Below w.heap.size w wi → Calls Tryz.prog 9 #[v2] wi fun e w' => e = .returned (.int .i64 (progErr nf par loc d body)) ∧ Below wi.heap.size wi w') := fun wi hb => refCheck N v2 nf par loc bv d body wi (Nat.le_trans hN hb.size) (hf.below (hb.mono hN)) (fun i hi => (hs i hi).below (hb.mono hN)) hk
  have HMd : Hid (∀ wi, Below w.heap.size w wi → Calls Tryz.prog 15 #[] wi fun e w' => e = .returned (.bool true) ∧ Below wi.heap.size wi w') := fun wi hb => made N wi (Nat.le_trans hN hb.size) (he.below (hb.mono hN))
  have HCk : Hid (∀ wi, Below w.heap.size w wi → Calls Tryz.prog 16 #[v0] wi fun e w' => e = .returned (.int .i64 (codeErr np P)) ∧ Below wi.heap.size wi w') := fun wi hb => codeCheck N v0 np P wi (Nat.le_trans hN hb.size) (hp.below (hb.mono hN))
  have HCr : Hid (∀ wi, Below w.heap.size w wi → Calls Tryz.prog 17 #[v0] wi fun e w' => e = .returned (.int .i64 (codeErr np P)) ∧ Below wi.heap.size wi w') := fun wi hb => refCheckCode N v0 np P wi (Nat.le_trans hN hb.size) (hp.below (hb.mono hN)) fp
  have HSa : Hid (∀ wi, Below w.heap.size w wi → Calls Tryz.prog 18 #[v0, v1] wi fun e w' => e = .returned (.bool (eqCB np nq P Q)) ∧ Below wi.heap.size wi w') := fun wi hb => codeSame N v0 v1 np nq P Q wi (Nat.le_trans hN hb.size) (hp.below (hb.mono hN)) (hq.below (hb.mono hN))
  have HSr : Hid (∀ wi, Below w.heap.size w wi → Calls Tryz.prog 19 #[v0, v1] wi fun e w' => e = .returned (.bool (eqCB np nq P Q)) ∧ Below wi.heap.size wi w') := fun wi hb => codeSameR N v0 v1 np nq P Q wi (Nat.le_trans hN hb.size) (hp.below (hb.mono hN)) (hq.below (hb.mono hN))
  have HCx : Hid (∀ v w1 wi, CompP nf par v w w1 → Below w1.heap.size w1 wi → Calls Tryz.prog 17 #[v] wi fun e w' => e = .returned (.int .i64 0) ∧ Below wi.heap.size wi w') := fun v w1 wi hc hb => by
    obtain ⟨_, X, x1, x2, x3, _⟩ := hc
    have := refCheckCode w1.heap.size v nf X wi hb.size (x1.below hb) x3
    rw [x2] at this
    exact this
  have HPr : Hid (∀ v w1 wi, CompP nf par v w w1 → Below w1.heap.size w1 wi → ∀ i, i < nf → ∃ b o c rg vc, v = .slice (some ⟨b, o, none⟩) nf c ∧ b < wi.heap.size ∧ wi.cell? ⟨b, o + i * 3, none⟩ = some (.int .i64 (par i)) ∧ wi.cell? ⟨b, o + i * 3 + 1, none⟩ = some (.int .i64 rg) ∧ wi.cell? ⟨b, o + i * 3 + 2, none⟩ = some vc ∧ ∃ x m k, vc = .slice x m k) := fun v w1 wi hc hb i hi => by
    obtain ⟨_, X, x1, x2, x3, x4⟩ := hc
    obtain ⟨a, c, rfl, _, h0 | ⟨b, o, rfl, hlt, hcl⟩⟩ := x1.below hb
    · omega
    obtain ⟨vc, c0, c1, c2, ⟨a2, k2, e2, _⟩⟩ := hcl i hi
    rw [x4 i hi] at c0
    exact ⟨b, o, c, _, vc, rfl, Nat.lt_of_lt_of_le hlt hb.size, c0, c1, c2, a2, _, k2, e2⟩
  have hff := hf
  obtain ⟨fa, fcap, rfl, hn, hfr⟩ := hff
  have hpp := hp
  obtain ⟨pa, pcap, rfl, _⟩ := hpp
  have hqq := hq
  obtain ⟨qa, qcap, rfl, _⟩ := hqq
  have HN : Hid (N ≤ w.heap.size) := hN
  clear he hp hq fp hf hs hk
  go_enter Tryz.func4, Tryz.ntmps4
  by_cases h0 : progErr nf par loc d body = 0
  · have H0 : Hid (progErr nf par loc d body = 0) := h0
    rw [h0] at HCo HCs
    clear h0
    have H0t : Hid (0 = 0) := rfl
    go_wp2_with (first
      | (go_at_call 14; refine HCo.out.mono ?_; rintro e w1 ⟨a, n, c, rfl, B1, Z1, C1⟩)
      | (go_at_call 9; refine (HCs.out w1 B1.out).mono ?_; rintro e w2 ⟨rfl, b2⟩; have B2 := B1.out.trans (b2.mono B1.out.size))
      | (go_at_call 15; refine (HMd.out w2 B2).mono ?_; rintro e w3 ⟨rfl, b3⟩; have B3 := B2.trans (b3.mono B2.size))
      | (go_at_call 16; refine (HCk.out w3 B3).mono ?_; rintro e w4 ⟨rfl, b4⟩; have B4 := B3.trans (b4.mono B3.size))
      | (go_at_call 17; refine HX7.out.mono ?_; rintro e w8 ⟨rfl, b8⟩; have B8 := B7.trans (b8.mono B7.size))
      | (go_at_call 17; refine (HCr.out w4 B4).mono ?_; rintro e w5 ⟨rfl, b5⟩; have B5 := B4.trans (b5.mono B4.size))
      | (go_at_call 18; refine (HSa.out w5 B5).mono ?_; rintro e w6 ⟨rfl, b6⟩; have B6 := B5.trans (b6.mono B5.size))
      | (go_at_call 19; refine (HSr.out w6 B6).mono ?_; rintro e w7 ⟨rfl, b7⟩; have B7 := B6.trans (b7.mono B6.size); have b17 : Below w1.heap.size w1 w7 := (b2.trans (b3.mono b2.size)).trans ((b4.trans ((b5.mono b4.size).trans ((b6.mono (Nat.le_trans b4.size b5.size)).trans (b7.mono (Nat.le_trans (Nat.le_trans b4.size b5.size) b6.size))))).mono (Nat.le_trans b2.size b3.size)); obtain ⟨en, CP⟩ := C1.out trivial; subst n; have CP' : Hid (CompP nf par (.slice a nf c) w w1) := CP; have HX7 := HCx.out _ w1 w7 CP b17; have HX7 : Hid (Calls Tryz.prog 17 #[.slice a nf c] w7 fun e w' => e = .returned (.int .i64 0) ∧ Below w7.heap.size w7 w') := HX7; clear CP))
    have b18 : Below w1.heap.size w1 w8 := b17.trans (b8.mono b17.size)
    go_loopw [59] (fun i wr => ∃ j : Nat, j ≤ nf ∧ i = .int .i64 j ∧ Hid (Below w.heap.size w wr) ∧ Hid (Below w1.heap.size w1 wr)) (fun i _ => nf - (intOf i).toNat)
    case atStart => exact ⟨0, Nat.zero_le _, rfl, B8, b18⟩
    case round =>
      obtain ⟨j, hj, rfl, BB, bb⟩ := hrel
      by_cases hlt : j < nf
      · obtain ⟨xb, xo, xc, rg, vc, ex, hxb, c0, c1, c2, x, m, k, rfl⟩ := HPr.out _ w1 wr CP'.out bb.out j hlt
        injection ex with ex1 ex2 ex3
        subst ex1 ex3
        rcases hfr with h | ⟨fb, fo, rfl, hfb, g⟩
        · omega
        obtain ⟨q0, _⟩ := g j hlt
        rw [← BB.out.cell (p := ⟨fb, fo + j * 3, none⟩) (by show fb < w.heap.size; have := HN.out; omega)] at q0
        have hfl : fb < wr.heap.size := by have := HN.out; have := BB.out.size; omega
        have hlt' : (j : Int) < (nf : Int) := by omega
        have hj0 : (0 : Int) ≤ (j : Int) := by omega
        have hwj : IntKind.i64.wrap ((j : Int) + 1) = (j : Int) + 1 := Go.IntWalk.i64_in _ (by omega)
        clear g
        go_upto_region 12 with (fail)
        have z0 : (wr.alloc (.cells #[.int .i64 (par j), .int .i64 rg, .slice x m k] 40)).cell? ⟨wr.heap.size, 0, none⟩ = some (.int .i64 (par j)) := by
          unfold World.cell?; rw [heap_alloc_new wr _]; rfl
        have z1 : (wr.alloc (.cells #[.int .i64 (par j), .int .i64 rg, .slice x m k] 40)).cell? ⟨fb, fo + j * 3, none⟩ = some (.int .i64 (par j)) := by
          rw [(bal wr _).cell (p := ⟨fb, fo + j * 3, none⟩) hfl]; exact q0
        have B9 : Hid (Below w.heap.size w (wr.alloc (.cells #[.int .i64 (par j), .int .i64 rg, .slice x m k] 40)).drew ∧ Below w1.heap.size w1 (wr.alloc (.cells #[.int .i64 (par j), .int .i64 rg, .slice x m k] 40)).drew) := ⟨(BB.out.trans ((bal wr _).mono BB.out.size)).trans ((Below.refl _ _).drew), (bb.out.trans ((bal wr _).mono bb.out.size)).trans ((Below.refl _ _).drew)⟩
        clear c0 c1 c2 q0
        generalize wr.alloc (.cells #[.int .i64 (par j), .int .i64 rg, .slice x m k] 40) = W9 at *
        go_region_held3 (fun w' => w'.cell? ⟨wr.heap.size, 0, none⟩ = some (.int .i64 (par j)) ∧ w'.cell? ⟨fb, fo + j * 3, none⟩ = some (.int .i64 (par j))) (go_keep) (fail)
        go_wp2_with fail
        go_round
        case rel => exact ⟨j + 1, by omega, rfl, B9.out.1, B9.out.2⟩
        case measure => simp [intOf]; omega
      · have ej : j = nf := by omega
        subst ej
        go_wp2_with fail
        go_ret
        exact ⟨rfl, BB.out⟩
  · have H0 : Hid (¬ progErr nf par loc d body = 0) := h0
    have h0t : (progErr nf par loc d body != 0) = true := by simp [h0]
    clear h0
    go_wp2_with (first
      | (go_at_call 14; refine HCo.out.mono ?_; rintro e w1 ⟨a, n, c, rfl, B1, Z1, C1⟩)
      | (go_at_call 9; refine (HCs.out w1 B1.out).mono ?_; rintro e w2 ⟨rfl, b2⟩; have B2 := B1.out.trans (b2.mono B1.out.size))
      | (go_at_call 15; refine (HMd.out w2 B2).mono ?_; rintro e w3 ⟨rfl, b3⟩; have B3 := B2.trans (b3.mono B2.size))
      | (go_at_call 16; refine (HCk.out w3 B3).mono ?_; rintro e w4 ⟨rfl, b4⟩; have B4 := B3.trans (b4.mono B3.size))
      | (go_at_call 17; refine HX7.out.mono ?_; rintro e w8 ⟨rfl, b8⟩; have B8 := B7.trans (b8.mono B7.size))
      | (go_at_call 17; refine (HCr.out w4 B4).mono ?_; rintro e w5 ⟨rfl, b5⟩; have B5 := B4.trans (b5.mono B4.size))
      | (go_at_call 18; refine (HSa.out w5 B5).mono ?_; rintro e w6 ⟨rfl, b6⟩; have B6 := B5.trans (b6.mono B5.size))
      | (go_at_call 19; refine (HSr.out w6 B6).mono ?_; rintro e w7 ⟨rfl, b7⟩; have B7 := B6.trans (b7.mono B6.size)))
    go_ret
    have en := Z1.out H0.out
    subst en
    exact ⟨rfl, B7⟩
end Go.Proofs.YtbmenihakkogkabGreatDoor
namespace Go.Proofs.YtbmenihakkogkabGreatDoor
open Go.RowKit Go.ChangeShapes Go.WideShapes Go.ChangeAt
def laidL : List (String × DataW Unit) := Rows.codeSaysRow.laid
theorem laid_at {P : Program} {W : World} : ∀ {l : List (String × DataW Unit)}, laidMet P l W → ∀ {n : String} {d : DataW Unit}, (n, d) ∈ l → ∃ g t cs fuel p, P.globalNamed n = some g ∧ (P.globals[g]?).map (·.type) = some t ∧ W.var? P n = some cs ∧ DataW.trod (fun _ => ()) P W 0 (fun _ => true) false fuel t cs.toList = some (d, p)
  | [], _, _, _, h => by cases h
  | x :: l, hL, n, d, h => by
    rcases List.mem_cons.1 h with rfl | h
    · obtain ⟨ps, ⟨g, t, cs, fuel, p, q, h1, h2, h3, h4, _⟩, _⟩ := hL
      exact ⟨g, t, cs, fuel, p, h1, h2, h3, h4⟩
    · exact laid_at hL.tail h
theorem strs_of_tab {P : Program} {w : World} {fuel : Nat} {t e : TypeId} {n : Nat} {cs : List Value} {ts : List (List UInt8)} {p : List MemPlace}
    (ht : P.underlying t = some (.array n e)) (he : P.underlying e = some .string) (hce : P.cellsOf e = 1) (hct : P.cellsOf t = n)
    (h : DataW.trod (fun _ => ()) P w 0 (fun _ => true) false fuel t cs = some (.agg (ts.map fun s => .lit (.string s)), p)) : cs = ts.map fun s => Value.string (bs s) := by
  cases fuel with
  | zero => simp [DataW.trod] at h
  | succ fuel =>
    simp only [DataW.trod, ht, hce, hct, Nat.mul_one] at h
    split at h
    · rename_i hl
      obtain ⟨xs, hm, hx⟩ := Option.map_eq_some_iff.1 h
      have hxs : xs.map (·.1) = ts.map fun s => (DataW.lit (.string s) : DataW Unit) := by
        have := congrArg Prod.fst hx
        simpa using this
      have hxl : xs.length = n := by simpa using Lib.mapM_length hm
      have hzl : ts.length = n := by
        have := congrArg List.length hxs
        simp at this
        omega
      apply List.ext_getElem?
      intro i
      by_cases hi : i < n
      · obtain ⟨b, hb, hf⟩ := Lib.mapM_at hm i i (by simp [hi])
        obtain ⟨s, hc, rfl, _⟩ := DataW.trod_string he hf
        have h1 : cs[i]? = some (.string s) := by
          have := congrArg (·[0]?) hc
          simpa [List.getElem?_take, List.getElem?_drop] using this
        have h2 : (xs.map (·.1))[i]? = some (DataW.lit (.string s.data.toList) : DataW Unit) := by simp [hb]
        rw [hxs] at h2
        simp only [List.getElem?_map, Option.map_eq_some_iff, DataW.lit.injEq, Lit.string.injEq] at h2
        obtain ⟨z', hz', e'⟩ := h2
        rw [h1, List.getElem?_map, hz', e']
        rfl
      · rw [List.getElem?_eq_none (by omega), List.getElem?_eq_none (by simp; omega)]
    · cases h
theorem gSt : Tryz.prog.globalNamed "wanderer/words.stmtWords" = some 1 := by kernel_rfl
theorem gOp : Tryz.prog.globalNamed "wanderer/words.opWords" = some 3 := by kernel_rfl
theorem gMk : Tryz.prog.globalNamed "wanderer/words.marks" = some 4 := by kernel_rfl
theorem tSt : (Tryz.prog.globals[1]?).map (·.type) = some 207 := by kernel_rfl
theorem tOp : (Tryz.prog.globals[3]?).map (·.type) = some 242 := by kernel_rfl
theorem tMk : (Tryz.prog.globals[4]?).map (·.type) = some 243 := by kernel_rfl
theorem c9 : Tryz.prog.cellsOf 9 = 1 := by kernel_rfl
theorem cA9 : Tryz.prog.cellsOf 207 = 9 := by kernel_rfl
theorem cA6 : Tryz.prog.cellsOf 242 = 6 := by kernel_rfl
theorem cA7 : Tryz.prog.cellsOf 243 = 7 := by kernel_rfl
theorem tab_cells {W : World} {name : String} {g : Nat} {t : TypeId} {n : Nat} {ts : List (List UInt8)} {l : List (String × DataW Unit)} (hL : laidMet Tryz.prog l W) (hm : (name, .agg (ts.map fun s => .lit (.string s))) ∈ l)
    (hg : Tryz.prog.globalNamed name = some g) (htt : (Tryz.prog.globals[g]?).map (·.type) = some t) (ht : Tryz.prog.underlying t = some (.array n 9)) (hct : Tryz.prog.cellsOf t = n) (k : Nat) (hk : k < ts.length) :
    W.cell? ⟨g, k, none⟩ = some (.string (bs (ts.getD k []))) := by
  obtain ⟨g', t', cs, fuel, p, h1, h2, h3, h4⟩ := laid_at hL hm
  obtain rfl := Option.some.inj (hg.symm.trans h1)
  obtain rfl := Option.some.inj (htt.symm.trans h2)
  have e := strs_of_tab ht Tryz.underlying9 c9 hct h4
  have := World.var?_cell hg h3 k
  rw [this, ← Array.getElem?_toList, e, List.getElem?_map, List.getElem?_eq_getElem hk]
  simp [List.getD, hk]
theorem some_iface {W : World} {name nm : String} {g : Nat} {t : TypeId} {ms : Array (String × TypeId)} {d : DataW Unit} {l : List (String × DataW Unit)} (hL : laidMet Tryz.prog l W) (hm : (name, .iface nm d) ∈ l)
    (hg : Tryz.prog.globalNamed name = some g) (htt : (Tryz.prog.globals[g]?).map (·.type) = some t) (ht : Tryz.prog.underlying t = some (.interface ms)) : ∃ tp p, W.var? Tryz.prog name = some #[.iface tp p] := by
  obtain ⟨g', t', cs, fuel, p, h1, h2, h3, h4⟩ := laid_at hL hm
  obtain rfl := Option.some.inj (hg.symm.trans h1)
  obtain rfl := Option.some.inj (htt.symm.trans h2)
  obtain ⟨_, u, v, e, _⟩ := iface_of_trod ht h4
  exact ⟨u, v, by rw [h3, Array.eq_one_of_toList e]⟩
theorem tSyn : (Tryz.prog.globals[5]?).map (·.type) = some 84 := by kernel_rfl
theorem tRng : (Tryz.prog.globals[6]?).map (·.type) = some 84 := by kernel_rfl
theorem tPow : (Tryz.prog.globals[7]?).map (·.type) = some 276 := by kernel_rfl
theorem cA20 : Tryz.prog.cellsOf 276 = 20 := by kernel_rfl
theorem cU64 : Tryz.prog.cellsOf 237 = 1 := by kernel_rfl
theorem pow_of_laid {W : World} (hL : laidMet Tryz.prog laidL W) : Lib.TabIs Tryz.prog W "internal/strconv.uint64pow10" .u64 Lib.pow10Tab := by
  have hm : ("internal/strconv.uint64pow10", (Rows.laid_internal_strconv_uint64pow10 : DataW Unit)) ∈ laidL := by unfold laidL Rows.codeSaysRow; simp
  obtain ⟨g', t', cs, fuel, p, h1, h2, h3, h4⟩ := laid_at hL hm
  obtain rfl := Option.some.inj (gPow.symm.trans h1)
  obtain rfl := Option.some.inj (tPow.symm.trans h2)
  have e : (Rows.laid_internal_strconv_uint64pow10 : DataW Unit) = Lib.tabData .u64 Lib.pow10Tab := by unfold Rows.laid_internal_strconv_uint64pow10; rfl
  rw [e] at h4
  unfold Lib.TabIs
  rw [h3, ← Lib.cells_of_tab Tryz.underlying276 Tryz.underlying237 cU64 cA20 h4]
def stTs : List (List UInt8) := [stL 0, stL 1, stL 2, stL 3, stL 4, stL 5, stL 6, stL 7, stL 8]
def opTs : List (List UInt8) := [opL 0, opL 1, opL 2, opL 3, opL 4, opL 5]
def mkTs : List (List UInt8) := [mkL 0, mkL 1, mkL 2, mkL 3, mkL 4, mkL 5, mkL 6]
theorem stTs_at : ∀ k, k < 9 → stTs.getD k [] = stL k
  | 0, _ => rfl
  | 1, _ => rfl
  | 2, _ => rfl
  | 3, _ => rfl
  | 4, _ => rfl
  | 5, _ => rfl
  | 6, _ => rfl
  | 7, _ => rfl
  | 8, _ => rfl
  | k + 9, h => absurd h (by omega)
theorem opTs_at : ∀ k, k < 6 → opTs.getD k [] = opL k
  | 0, _ => rfl
  | 1, _ => rfl
  | 2, _ => rfl
  | 3, _ => rfl
  | 4, _ => rfl
  | 5, _ => rfl
  | k + 6, h => absurd h (by omega)
theorem mkTs_at : ∀ k, k < 7 → mkTs.getD k [] = mkL k
  | 0, _ => rfl
  | 1, _ => rfl
  | 2, _ => rfl
  | 3, _ => rfl
  | 4, _ => rfl
  | 5, _ => rfl
  | 6, _ => rfl
  | k + 7, h => absurd h (by omega)
theorem gTop : Tryz.prog.globalNamed "math/bits.deBruijn64tab" = some 12 := by kernel_rfl
theorem var_lt {P : Program} {w : World} {n : String} {g : Nat} {cs : Array Value} (hg : P.globalNamed n = some g) (h : w.var? P n = some cs) : g < w.heap.size := by
  unfold World.var? at h
  rw [hg] at h
  simp only [Option.bind_some] at h
  cases e : w.heap[g]? with
  | none => rw [e] at h; cases h
  | some o => exact (Array.getElem?_eq_some_iff.1 e).1
theorem env_of_laid {W : World} (hL : laidMet Tryz.prog laidL W) (hsh : W.ShapedOpen Tryz.prog) : Env W.heap.size W := by
  have m1 : ("wanderer/words.stmtWords", (.agg (stTs.map fun s => .lit (.string s)) : DataW Unit)) ∈ laidL := by
    have : (.agg (stTs.map fun s => .lit (.string s)) : DataW Unit) = Rows.laid_wanderer_words_stmtWords := rfl
    rw [this]; unfold laidL Rows.codeSaysRow; simp
  have m2 : ("wanderer/words.opWords", (.agg (opTs.map fun s => .lit (.string s)) : DataW Unit)) ∈ laidL := by
    have : (.agg (opTs.map fun s => .lit (.string s)) : DataW Unit) = Rows.laid_wanderer_words_opWords := rfl
    rw [this]; unfold laidL Rows.codeSaysRow; simp
  have m3 : ("wanderer/words.marks", (.agg (mkTs.map fun s => .lit (.string s)) : DataW Unit)) ∈ laidL := by
    have : (.agg (mkTs.map fun s => .lit (.string s)) : DataW Unit) = Rows.laid_wanderer_words_marks := rfl
    rw [this]; unfold laidL Rows.codeSaysRow; simp
  have m4 : ("strconv.ErrRange", (Rows.laid_strconv_ErrRange : DataW Unit)) ∈ laidL := by unfold laidL Rows.codeSaysRow; simp
  have m5 : ("strconv.ErrSyntax", (Rows.laid_strconv_ErrSyntax : DataW Unit)) ∈ laidL := by unfold laidL Rows.codeSaysRow; simp
  obtain ⟨mx, hmx⟩ := Tryz.laysM146.s1_3 W hsh
  refine ⟨?_, fun k hk => ?_, fun k hk => ?_, fun k hk => ?_, pow_of_laid hL, some_iface hL m5 gSyn tSyn Tryz.underlying84, some_iface hL m4 gRng tRng Tryz.underlying84, ⟨mx, hmx⟩⟩
  · have m6 : ("math/bits.deBruijn64tab", (Rows.laid_math_bits_deBruijn64tab : DataW Unit)) ∈ laidL := by unfold laidL Rows.codeSaysRow; simp
    obtain ⟨g', t', cs, fuel, p, h1, h2, h3, h4⟩ := laid_at hL m6
    have := var_lt gTop h3
    omega
  · have := tab_cells hL m1 gSt tSt Tryz.underlying207 cA9 k hk
    rw [stTs_at k hk] at this; exact this
  · have := tab_cells hL m2 gOp tOp Tryz.underlying242 cA6 k hk
    rw [opTs_at k hk] at this; exact this
  · have := tab_cells hL m3 gMk tMk Tryz.underlying243 cA7 k hk
    rw [mkTs_at k hk] at this; exact this
end Go.Proofs.YtbmenihakkogkabGreatDoor
