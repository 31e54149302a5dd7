import Derived.Test.YtbmenihakkogkabGreatDoorPart11
import Derived.Test.YtbmenihakkogkabGreatDoorPart13
import Derived.Deep.RegionHeldLaw
import Derived.Deep.AppendLies
import Derived.Deep.SlicePairs
namespace Go.Proofs.YtbmenihakkogkabGreatDoor
open Go.RowKit Go.Maps
def printT (nf : Nat) (par loc : Nat → Int) (d : Nat) (body : Nat → SL) : Wd := if progErr nf par loc d body = 0 then bs (textL (progW nf par loc d body)) else bs []
theorem join_row (B : Nat) (v : Value) (R : List Wd) (w : World) (hw : WS B w v R) (hl : R.length ≤ 8000) (ht : (textL R).length ≤ 1000000) :
    Calls Tryz.prog 40 #[v, .string (bs [32])] w fun e w' => e = .returned (.string (bs (textL R))) ∧ Below w.heap.size w w' := by
  rcases hw.2 with ⟨rfl, h0⟩ | ⟨g, cap, cur, rfl, hb, hg, hn, hm, hsz, htk⟩
  · have e : R = [] := List.eq_nil_of_length_eq_zero h0
    subst e
    refine (Tryz.strings_Join_none none 0 (bs [32]) w).mono ?_
    rintro e w' ⟨rfl, rfl⟩
    exact ⟨rfl, Below.refl _ _⟩
  · refine (Tryz.strings_Join g 0 cap R (bs [32]) w (fun j x hj => ?_) (hw.lt g rfl) (by omega) hn (by rw [bs_data]; show (textL R).length ≤ _; omega)).mono ?_
    · have hj2 : j < R.length := (List.getElem?_eq_some_iff.1 hj).1
      have := hw.cellAt j (by omega)
      rw [Nat.zero_add, this]
      rw [List.getElem?_map, hj]; rfl
    · rintro e w' ⟨rfl, hb2⟩
      exact ⟨rfl, hb2⟩
def funIt (d : Nat) (par loc : Nat → Int) (body : Nat → SL) (i : Nat) : List Wd := funWs d (par i) (loc i) (body i)
theorem keepFun {wr w1 : World} {p l : Int} {bv v v' : Value} (hv : ∀ k, v.ownBlock = some k → k < wr.heap.size) (h : Grow (wr.alloc (.cells #[.int .i64 p, .int .i64 l, bv] 43)) v w1 v') :
    w1.cell? ⟨wr.heap.size, 0, none⟩ = some (.int .i64 p) ∧ w1.cell? ⟨wr.heap.size, 1, none⟩ = some (.int .i64 l) ∧ w1.cell? ⟨wr.heap.size, 2, none⟩ = some bv :=
  ⟨boxG h hv 0 rfl, boxG h hv 1 rfl, boxG h hv 2 rfl⟩
theorem step_fun {ops : Array Oper} {o : Oper} {a : Act} {K : Act → World → Prop} {Q : Exit → Act → World → Prop} {E : Prop} (w : World) (hgd : o.guard = none) (s y : Operand)
    (ho : o.op = .call { callee := .builtin .append, args := #[s, y], argTypes := #[69, 69] }) (base : Nat) (v : Value) (R : List Wd) (p l : Int) (hs : a.eval s = v) (hown : WS base w v R)
    (t : TypeId) (B : Nat) (hB : w.heap.size = B) (hy : a.eval y = .slice (some ⟨B, 0, none⟩) 3 3) (hR : R.length + 3 ≤ 1000000) (hbase : base ≤ w.heap.size)
    (h : ∀ v' w2 (R' : List Wd), Hid (R' = R ++ [funW, numW p, numW l]) → WS base w2 v' R' → Grow w v w2 v' → K (a.put o.dst v') w2) :
    if Region.wanted o (yielded ops a.tmps) = true then Oper.wp Tryz.prog o a (w.alloc (.cells #[.string ⟨#[102, 117, 110]⟩, .string (numW p), .string (numW l)] t)) K Q else E := by
  subst hB
  obtain ⟨i0, hi, hz0, hz1, hz2⟩ := info_parts info9
  have hk : Below w.heap.size w (w.alloc (.cells #[.string ⟨#[102, 117, 110]⟩, .string (numW p), .string (numW l)] t)) := bal _ _
  refine step_append_lies _ hgd s y 69 ho base 9 i0 (.string ⟨#[]⟩) 1 16 Tryz.underlying69 hi hz0 hz1 hz2 rfl (by decide) v _ _ hs (hown.keep hk) ⟨w.heap.size, 0, none⟩ 3 3 ([funW, numW p, numW l].map Value.string) hy rfl (fun j u hj => ?_) (strs_one _) (by decide) (by unfold maxLen; omega) (by omega) (Nat.le_trans hbase hk.size) _ rfl ?_
  · rw [WideShapes.add_plain, Nat.zero_add, World.cell?_alloc_new]
    show (([funW, numW p, numW l].map Value.string).toArray)[j]? = some u
    rw [List.getElem?_toArray]
    exact hj
  · intro g cap w2 h1 h2 h4 _
    refine h _ w2 (R ++ [funW, numW p, numW l]) (show _ = _ from rfl) ?_ ⟨h2.os, h2.tape, h2.output, Nat.le_trans hk.size h2.size, fun k hk1 hk2 => ?_, fun k hk1 hk2 => ?_⟩
    · unfold WS
      rw [List.length_append, List.map_append]
      exact h1
    · rw [h2.block k (Nat.lt_of_lt_of_le hk1 hk.size) (fun e => hk2 e.symm)]
      exact hk.block k hk1
    · have hkg : g = k := Option.some.inj hk2
      rcases h4 with h4 | h4
      · rw [h4, hkg]
      · have h6 := hk.size
        omega
set_option maxHeartbeats 1000000 in
theorem print_bad (f : Value) (er : Int) (her : ¬ er = 0) (w : World) (HC : Hid (Calls Tryz.prog 37 #[f] w fun e w' => e = .returned (.int .i64 er) ∧ Below w.heap.size w w')) :
    Calls Tryz.prog 7 #[f] w fun e w' => e = .returned (.tuple #[.string (bs []), .int .i64 er]) ∧ Below w.heap.size w w' := by
  have h1 : (er != 0) = true := by simp [her]
  clear her
  go_enter Tryz.func7, Tryz.ntmps7
  go_wp2_with (first
    | (go_at_call 37; refine HC.out.mono ?_; rintro e w1 ⟨rfl, b1⟩))
  go_ret2
  exact ⟨rfl, b1⟩
set_option maxRecDepth 20000 in
set_option maxHeartbeats 4000000 in
theorem print_good (N : Nat) (f : Value) (nf : Nat) (par loc : Nat → Int) (bv : Nat → Value) (d : Nat) (body : Nat → SL) (w : World) (hN : N ≤ w.heap.size) (he : Env N w) (hf : FunsAt N w f nf par loc bv) (hs : ∀ i, i < nf → StmtsAt N w d (bv i) (body i)) (hp : progErr nf par loc d body = 0) :
    Calls Tryz.prog 7 #[f] w fun e w' => e = .returned (.tuple #[.string (bs (textL (progW nf par loc d body))), .int .i64 0]) ∧ Below w.heap.size w w' := by
  have HC : Hid (Calls Tryz.prog 37 #[f] w fun e w' => e = .returned (.int .i64 0) ∧ Below w.heap.size w w') := by
    have := check N f nf par loc bv d body w hN hf hs
    rw [hp] at this; exact this
  obtain ⟨hn1, hn4, hh, hb⟩ := prog_zero hp
  have HP : Hid (progErr nf par loc d body = 0) := hp
  have HS : Hid (∀ i, i < nf → StmtsAt N w d (bv i) (body i)) := hs
  have HE : Hid (Env N w) := he
  have HH : Hid (∀ i, i < nf → 0 ≤ par i ∧ par i ≤ 3 ∧ par i ≤ loc i ∧ loc i ≤ 6) := fun i hi => head_range (hh i hi)
  have HEr : Hid (∀ i, i < nf → errs (stErr nf par (loc i)) d (body i) = 0) := fun i hi => (bodyErr_errs (hb i hi)).2
  have HL : Hid (∀ i, i < nf → (funIt d par loc body i).length ≤ 2000) := fun_len hp
  obtain ⟨a, cap, rfl, hnl, h0 | ⟨bf, of, rfl, hbf, hcf⟩⟩ := hf
  · omega
  have HCF : Hid (∀ i, i < nf → w.cell? ⟨bf, of + i * 3, none⟩ = some (.int .i64 (par i)) ∧ w.cell? ⟨bf, of + i * 3 + 1, none⟩ = some (.int .i64 (loc i)) ∧ w.cell? ⟨bf, of + i * 3 + 2, none⟩ = some (bv i) ∧ ∃ x m c, bv i = .slice x m c) := hcf
  clear he hs hp hh hb hcf
  go_enter Tryz.func7, Tryz.ntmps7
  go_upto_region 6 with (first
    | (go_at_call 37; refine HC.out.mono ?_; rintro e w1 ⟨rfl, b1⟩))
  go_loopw [5, 15] (fun q i wr => ∃ (j : Nat) (R : List Wd), j ≤ nf ∧ i = .int .i64 j ∧ Hid (WS w.heap.size wr q R) ∧ Hid (R = catTo (funIt d par loc body) j) ∧ Below w.heap.size w wr) (fun _ i _ => nf - (intOf i).toNat)
  case atStart => exact ⟨0, [], by omega, rfl, WS.nil _ _, rfl, b1⟩
  case round =>
    obtain ⟨j, R, hj0, rfl, HW, HR, hbw⟩ := hrel
    by_cases hj : j < nf
    · obtain ⟨c0, c1, c2, x, m, c, hx⟩ := HCF.out j hj
      have hbfw : bf < w.heap.size := Nat.lt_of_lt_of_le hbf hN
      rw [← hbw.cell (p := ⟨bf, of + j * 3, none⟩) hbfw] at c0
      rw [← hbw.cell (p := ⟨bf, of + j * 3 + 1, none⟩) hbfw] at c1
      rw [← hbw.cell (p := ⟨bf, of + j * 3 + 2, none⟩) hbfw, hx] at c2
      have hji : (j : Int) < (nf : Int) := by omega
      have hr := HH.out j hj
      have HHj : Hid (0 ≤ par j ∧ par j ≤ 3 ∧ par j ≤ loc j ∧ loc j ≤ 6) := hr
      have hRl : R.length ≤ 6000 := by
        have h1 := catTo_len (n := j) fun i hi => HL.out i (by omega)
        rw [HR.out]
        have : j * 2000 ≤ 3 * 2000 := Nat.mul_le_mul_right _ (by omega)
        omega
      have hown : ∀ k, u5.ownBlock = some k → k < wr.heap.size := HW.out.lt
      have HOwn : Hid (∀ k, u5.ownBlock = some k → k < wr.heap.size) := hown
      have hst := HS.out j hj
      rw [hx] at hst
      have HSt : Hid (StmtsAt N w d (.slice x m c) (body j)) := hst
      have hsz : (wr.alloc (.cells #[.int .i64 (par j), .int .i64 (loc j), .slice x m c] 43)).heap.size = wr.heap.size + 1 := by simp
      have G0 := Grow.refl (wr.alloc (.cells #[.int .i64 (par j), .int .i64 (loc j), .slice x m c] 43)) u5
      have HK : Hid (∀ w1 v', Grow (wr.alloc (.cells #[.int .i64 (par j), .int .i64 (loc j), .slice x m c] 43)) u5 w1 v' → w1.cell? ⟨wr.heap.size, 0, none⟩ = some (.int .i64 (par j)) ∧ w1.cell? ⟨wr.heap.size, 1, none⟩ = some (.int .i64 (loc j)) ∧ w1.cell? ⟨wr.heap.size, 2, none⟩ = some (.slice x m c)) := fun w1 v' h => keepFun hown h
      have hal := bal wr (.cells #[.int .i64 (par j), .int .i64 (loc j), .slice x m c] 43)
      have HAl : Hid (Below wr.heap.size wr (wr.alloc (.cells #[.int .i64 (par j), .int .i64 (loc j), .slice x m c] 43))) := hal
      have HWal := HW.out.keep hal
      clear hr hown hst hal
      go_upto_region 8 with (fail)
      generalize wr.alloc (.cells #[.int .i64 (par j), .int .i64 (loc j), .slice x m c] 43) = W at *
      have HG0 : Hid (Grow W u5 W u5) := G0
      have HWW : Hid (WS w.heap.size W u5 R) := HWal
      have hbW : Below w.heap.size w W := hbw.trans (HAl.out.mono hbw.size)
      have HIt : Hid (∀ z w3, (z = par j ∨ z = loc j) → Below W.heap.size W w3 → Calls Tryz.prog 38 #[.int .i64 z] w3 fun e w' => e = .returned (.string (numW z)) ∧ Below w3.heap.size w3 w') := fun z w3 hz h3 => by
        have := HHj.out
        exact itoa N z (by omega) (by omega) w3 (HE.out.below ((hbW.trans (h3.mono hbW.size)).mono hN))
      clear G0 HWal c0 c1 c2
      have b0 : Below W.heap.size W W := Below.refl _ _
      go_region_held_law (fun w' => w'.cell? ⟨wr.heap.size, 0, none⟩ = some (.int .i64 (par j)) ∧ w'.cell? ⟨wr.heap.size, 1, none⟩ = some (.int .i64 (loc j)) ∧ w'.cell? ⟨wr.heap.size, 2, none⟩ = some (.slice x m c))
        (first | exact HK.out _ _ (Grow.of _ b0.drew) | exact HK.out _ _ (Grow.of _ b9) | exact HK.out _ _ (Grow.of _ b9.drew) | exact HK.out _ _ (Grow.of _ (b9.alloc b9.size _)) | exact HK.out _ _ ((Grow.of _ b9).trans hG9))
        (first
          | (go_at_call 38; refine (HIt.out _ _ (by first | exact Or.inl rfl | exact Or.inr rfl) (by first | exact b9 | exact b9.drew | exact b0.drew)).mono ?_; rintro e w9 ⟨rfl, b9'⟩; have b9 : Below W.heap.size W w9 := (by first | exact b9.trans (b9'.mono b9.size) | exact b9.drew.trans (b9'.mono b9.size) | exact b0.drew.trans b9'))
          | (refine step_fun w9 rfl _ _ rfl w.heap.size u5 R (par j) (loc j) rfl (HWW.out.keep b9) _ _ rfl rfl (by omega) (Nat.le_trans hbW.size b9.size) ?_; intro v9 w10 R9 eR9 hW9 hG9))
      have hG10 : Grow W u5 w10 v9 := (Grow.of u5 b9).trans hG9
      obtain ⟨_, _, c2⟩ := HK.out _ _ hG10
      have hb10 : Below w.heap.size w w10 := hbW.trans (hG10.low (fun k hk => HW.out.low k hk) hbW.size)
      have HW9 : Hid (WS w.heap.size w10 v9 R9) := hW9
      have HAdd : Hid (Calls Tryz.prog 39 #[v9, .slice x m c] w10 fun e w' => ∃ v', e = .returned v' ∧ Hid (WS w.heap.size w' v' (R9 ++ blkW d (body j))) ∧ Hid (Grow w10 v9 w' v')) := by
        have h1 := HL.out j hj
        unfold funIt funWs at h1
        simp only [List.length_append, List.length_cons, List.length_nil] at h1
        exact addBlock N w.heap.size nf par (loc j) (by have := HHj.out; omega) (by omega) hN d v9 (.slice x m c) (body j) R9 w10 hb10.size (HE.out.below (hb10.mono hN)) (HSt.out.below (hb10.mono hN)) (HEr.out j hj) HW9.out (by rw [eR9.out, List.length_append, List.length_cons, List.length_cons, List.length_cons, List.length_nil]; omega)
      clear hW9 hG9 hG10 b9 b9' b0
      go_wp2_with (first
        | (go_at_call 39; refine HAdd.out.mono ?_; rintro e w11 ⟨v11, rfl, HW11, HG11⟩))
      go_roundw
      case rel => exact ⟨j + 1, _, by omega, by go_num, HW11, (by show _ = _; rw [eR9.out, HR.out, catTo, List.append_assoc]; rfl), hb10.trans (HG11.out.low HW9.out.low hb10.size)⟩
      case measure => simp [intOf]; omega
    · obtain rfl : j = nf := by omega
      have HJ : Hid (Calls Tryz.prog 40 #[u5, .string (bs [32])] wr fun e w' => e = .returned (.string (bs (textL R))) ∧ Below wr.heap.size wr w') := by
        refine join_row w.heap.size u5 R wr HW.out ?_ ?_
        · rw [HR.out]; exact prog_len HP.out
        · rw [HR.out]; exact text_len (progW_short HP.out) (prog_len HP.out)
      go_wp2_with (first
        | (go_at_call 40; refine HJ.out.mono ?_; rintro e w12 ⟨rfl, b12⟩))
      go_ret2
      refine ⟨?_, hbw.trans (b12.mono hbw.size)⟩
      rw [HR.out]
      rfl
theorem print (N : Nat) (f : Value) (nf : Nat) (par loc : Nat → Int) (bv : Nat → Value) (d : Nat) (body : Nat → SL) (w : World) (hN : N ≤ w.heap.size) (he : Env N w) (hf : FunsAt N w f nf par loc bv) (hs : ∀ i, i < nf → StmtsAt N w d (bv i) (body i)) :
    Calls Tryz.prog 7 #[f] w fun e w' => e = .returned (.tuple #[.string (printT nf par loc d body), .int .i64 (progErr nf par loc d body)]) ∧ Below w.heap.size w w' := by
  unfold printT
  by_cases hp : progErr nf par loc d body = 0
  · rw [if_pos hp, hp]
    exact print_good N f nf par loc bv d body w hN he hf hs hp
  · rw [if_neg hp]
    exact print_bad f _ hp w (check N f nf par loc bv d body w hN hf hs)
theorem StmtsAt.deeper {N : Nat} {w : World} : ∀ {d : Nat} {v : Value} {T : SL}, StmtsAt N w d v T → StmtsAt N w (d + 1) v T
  | 0, v, T, h => by
    obtain ⟨e, a, cap, rfl⟩ := h
    exact ⟨a, cap, by rw [e], by omega, Or.inl e⟩
  | d + 1, v, T, h => by
    obtain ⟨a, cap, rfl, hn, h | ⟨b, o, rfl, hlt, hc⟩⟩ := h
    · exact ⟨a, cap, rfl, hn, Or.inl h⟩
    · refine ⟨_, cap, rfl, hn, Or.inr ⟨b, o, rfl, hlt, fun i hi => ?_⟩⟩
      obtain ⟨ve, vf, va, vb, c0, c1, c2, c3, c4, c5, t1, t2, s1, s2⟩ := hc i hi
      exact ⟨ve, vf, va, vb, c0, c1, c2, c3, c4, c5, t1, t2, s1.deeper, s2.deeper⟩
def wt (d : Nat) (T : SL) (i : Nat) : Nat := 1 + size d (T.sub i false) + size d (T.sub i true)
theorem size_succ (d : Nat) (T : SL) : size (d + 1) T = sumTo T.len (wt d T) := rfl
theorem size_none {d : Nat} {T : SL} (h : T.len = 0) : size d T = 0 := by
  cases d with
  | zero => rfl
  | succ d => rw [size_succ, h]; rfl
def sizeR (d : Nat) (T : SL) (left : Nat) : Int := if fineB d T left = true then (size d T : Int) else 0
theorem fine_no {d : Nat} {T : SL} {l j : Nat} (hj : j < T.len) (h : ¬ (fits d (T.sub j false) l ∧ fits d (T.sub j true) l ∧ sumTo (j + 1) (wt d T) ≤ 30)) : fineB (d + 1) T (l + 1) = false := by
  rw [Bool.eq_false_iff]
  intro e
  obtain ⟨h1, h2⟩ := fineB_iff.1 e
  rcases h1 with h1 | ⟨_, h1⟩
  · omega
  · have := sumTo_mono (f := wt d T) (j := j + 1) (n := T.len) (by omega)
    exact h ⟨(h1 j hj).1, (h1 j hj).2, by rw [size_succ] at h2; omega⟩
theorem fine_yes {d : Nat} {T : SL} {l : Nat} (h : ∀ j, j < T.len → fits d (T.sub j false) l ∧ fits d (T.sub j true) l) (hs : sumTo T.len (wt d T) ≤ 30) : fineB (d + 1) T (l + 1) = true :=
  fineB_iff.2 ⟨Or.inr ⟨by omega, h⟩, hs⟩
theorem fine_zero {d : Nat} {T : SL} (h : ¬ T.len = 0) : fineB (d + 1) T 0 = false := by
  rw [Bool.eq_false_iff]
  intro e
  obtain ⟨h1, _⟩ := fineB_iff.1 e
  rcases h1 with h1 | ⟨h1, _⟩
  · exact h h1
  · omega
theorem ret_two {a b : Int} {x y : Bool} (h : a = b) (k : x = y) : Ending.returned (.tuple #[.int .i64 a, .bool x]) = .returned (.tuple #[.int .i64 b, .bool y]) := by rw [h, k]
theorem sizeR_no {d : Nat} {T : SL} {left : Nat} (h : fineB d T left = false) : sizeR d T left = 0 := by unfold sizeR; rw [h]; rfl
theorem sizeR_yes {d : Nat} {T : SL} {left : Nat} (h : fineB d T left = true) : sizeR d T left = size d T := by unfold sizeR; rw [h]; rfl
end Go.Proofs.YtbmenihakkogkabGreatDoor
namespace Go.Proofs.YtbmenihakkogkabGreatDoor
open Go.ChangeShapes Go.WideShapes Go.ChangeAt Go.RowKit Go.Deep
def kindsFit : Nat → SL → Prop
  | 0, _ => True
  | d + 1, T => ∀ i, i < T.len → (Lit.int .i64 (T.nd i).kind).wf = true ∧ kindsFit d (T.sub i false) ∧ kindsFit d (T.sub i true)
theorem cells75 : Tryz.prog.cellsOf 89 = 2 := by kernel_rfl
theorem cells58 : Tryz.prog.cellsOf 82 = 6 := by kernel_rfl
theorem cells54 : Tryz.prog.cellsOf 43 = 3 := by kernel_rfl
theorem cells52 : Tryz.prog.cellsOf 41 = 1 := by kernel_rfl
theorem cells46 : Tryz.prog.cellsOf 80 = 1 := by kernel_rfl
theorem cells3 : Tryz.prog.cellsOf 3 = 1 := by kernel_rfl
theorem plain_at {w : World} {a : Addr} {v : Value} (h : w.cell? (a.add 0) = some v) : a = ⟨a.block, a.off, none⟩ := by
  have hs := World.cell?_spot h
  obtain ⟨b, o, s⟩ := a
  have hs' : s = none := by simpa [Addr.add] using hs
  rw [hs']
theorem sumTo_head (g : Nat → Nat) : ∀ n, sumTo (n + 1) g = g 0 + sumTo n (fun i => g (i + 1))
  | 0 => by simp [sumTo]
  | n + 1 => by
    have := sumTo_head g n
    simp only [sumTo] at this ⊢
    omega
theorem len6 {α : Type} {l : List α} (h : l.length = 6) : ∃ a b c d e f, l = [a, b, c, d, e, f] := by
  rcases l with _ | ⟨a, _ | ⟨b, _ | ⟨c, _ | ⟨d, _ | ⟨e, _ | ⟨f, _ | ⟨g, l⟩⟩⟩⟩⟩⟩⟩
  · cases h
  · cases h
  · cases h
  · cases h
  · cases h
  · cases h
  · exact ⟨a, b, c, d, e, f, rfl⟩
  · simp at h
theorem len3 {α : Type} {l : List α} (h : l.length = 3) : ∃ a b c, l = [a, b, c] := by
  rcases l with _ | ⟨a, _ | ⟨b, _ | ⟨c, _ | ⟨d, l⟩⟩⟩⟩
  · cases h
  · cases h
  · cases h
  · exact ⟨a, b, c, rfl⟩
  · simp at h
section
variable {H : Type}
theorem bulk_sum : ∀ (l : List (DataW H)) (g : Nat → Nat), (∀ i d, l[i]? = some d → g i ≤ Rows.uptoBulk d) → sumTo l.length g ≤ Rows.uptoBulkAll l
  | [], g, _ => Nat.zero_le _
  | d :: l, g, h => by
    rw [List.length_cons, sumTo_head]
    have h0 := h 0 d rfl
    have ih := bulk_sum l (fun i => g (i + 1)) (fun i d hd => h (i + 1) d (by simpa using hd))
    simp only [Rows.uptoBulkAll]
    omega
theorem bulk_part : ∀ {l : List (DataW H)} {i : Nat} {d : DataW H}, l[i]? = some d → Rows.uptoBulk d ≤ Rows.uptoBulkAll l
  | [], i, d, h => by simp at h
  | x :: l, 0, d, h => by
    simp at h
    subst h
    simp only [Rows.uptoBulkAll]
    omega
  | x :: l, i + 1, d, h => by
    have := bulk_part (l := l) (i := i) (d := d) (by simpa using h)
    simp only [Rows.uptoBulkAll]
    omega
theorem kindsFit_succ : ∀ {d : Nat} {T : SL}, proper d T → kindsFit d T → kindsFit (d + 1) T
  | 0, T, h, _ => fun i hi => by
    have : T.len = 0 := h
    omega
  | d + 1, T, h, k => fun i hi => ⟨(k i hi).1, kindsFit_succ (h i hi).1 (k i hi).2.1, kindsFit_succ (h i hi).2 (k i hi).2.2⟩
variable {enc : TypeId × Value → H} {W : World} {base : Nat} {spare : Nat → Bool} {held : Bool}
theorem toks_of_trod {fuel : Nat} {v : Value} {x : DataW H × List MemPlace} (h : DataW.trod enc Tryz.prog W base spare held fuel 80 [v] = some x) : ∃ n k z, ToksAt W.heap.size W v n k z := by
  rcases open_slice_pairs Tryz.underlying80 Tryz.underlying89 cells75 rfl rfl cells3 cells3 h with ⟨hcs, _⟩ | ⟨a, len, cap, m, n, V0, V1, D0, D1, P0, P1, hcs, hb, hl, hm, hmm, _, hx⟩
  · obtain rfl : v = .slice none 0 0 := by simpa using hcs
    exact ⟨0, fun _ => 0, fun _ => 0, none, 0, rfl, by omega, Or.inl rfl⟩
  · obtain rfl : v = .slice (some a) len cap := by simpa using hcs
    have hlm : len ≤ m := by rw [hmm]; split <;> omega
    refine ⟨len, fun i => intOf (V0 i), fun i => intOf (V1 i), some a, cap, rfl, by unfold maxLen at hm; omega, ?_⟩
    by_cases h0 : len = 0
    · exact Or.inl h0
    right
    have hp := plain_at (hx 0 (by omega)).1
    refine ⟨a.block, a.off, by rw [hp], ?_, fun i hi => ?_⟩
    · have := cell_lt (hx 0 (by omega)).1
      simpa [Addr.add] using this
    · obtain ⟨c0, c1, t0, t1⟩ := hx i (by omega)
      obtain ⟨y0, e0, _, _⟩ := DataW.trod_int Tryz.underlying3 t0
      obtain ⟨y1, e1, _, _⟩ := DataW.trod_int Tryz.underlying3 t1
      simp at e0 e1
      rw [hp, add_plain] at c0 c1
      exact ⟨c0.trans (by simp [e0, intOf]), c1.trans (by simp [e1, intOf])⟩
theorem slice_each {t e : TypeId} {fuel : Nat} {v : Value} {x : DataW H × List MemPlace} (ht : Tryz.prog.underlying t = some (.slice e)) (h : DataW.trod enc Tryz.prog W base spare held fuel t [v] = some x) :
    v = .slice none 0 0 ∨ ∃ (a : Addr) (len cap n : Nat) (elems rest : List (DataW H)), v = .slice (some a) len cap ∧ fuel = n + 1 ∧ len ≤ 9223372036854775807 ∧ x.1 = .slice elems rest ∧ elems.length = len ∧
      ∀ i, i < len → ∃ cs y, W.cells? base (a.add (i * Tryz.prog.cellsOf e)) (Tryz.prog.cellsOf e) = some cs ∧ DataW.trod enc Tryz.prog W base spare held n e cs = some y ∧ elems[i]? = some y.1 := by
  rcases DataW.trod_slice ht h with ⟨hcs, _⟩ | ⟨a, len, cap, elems, rest, n, hfu, hcs, rfl, hb, hl, hm, hlen, hel, _⟩
  · exact Or.inl (by simpa using hcs)
  · refine Or.inr ⟨a, len, cap, n, elems.map (·.1), rest.map (·.1), by simpa using hcs, hfu, by unfold maxLen at hm; omega, rfl, by simpa using hlen, fun i hi => ?_⟩
    have key := hel i hi
    rw [List.getElem?_eq_getElem (by omega)] at key
    obtain ⟨cs', h1, h2⟩ := Option.bind_eq_some_iff.1 key
    exact ⟨cs', _, h1, h2, by simp [List.getElem?_eq_getElem (show i < elems.length by omega)]⟩
theorem stmt_of_trod {fuel : Nat} {a : Addr} {cs : List Value} {y : DataW H × List MemPlace} (hc : W.cells? base a 6 = some cs) (h : DataW.trod enc Tryz.prog W base spare held fuel 82 cs = some y) :
    ∃ (k : Nat) (x0 x1 : Int) (v2 v3 v4 v5 : Value) (y4 y5 : DataW H × List MemPlace), fuel = k + 1 ∧ W.cell? (a.add 0) = some (.int .i64 x0) ∧ W.cell? (a.add 1) = some (.int .i64 x1) ∧ W.cell? (a.add 2) = some v2 ∧ W.cell? (a.add 3) = some v3 ∧ W.cell? (a.add 4) = some v4 ∧ W.cell? (a.add 5) = some v5 ∧
      (Lit.int .i64 x0).wf = true ∧ (∃ n k z, ToksAt W.heap.size W v2 n k z) ∧ (∃ n k z, ToksAt W.heap.size W v3 n k z) ∧ DataW.trod enc Tryz.prog W base spare held k 41 [v4] = some y4 ∧ DataW.trod enc Tryz.prog W base spare held k 41 [v5] = some y5 ∧
      1 + Rows.uptoBulk y4.1 + Rows.uptoBulk y5.1 ≤ Rows.uptoBulk y.1 := by
  obtain ⟨_, hlen, hcell⟩ := World.cells?_some hc
  obtain ⟨xs, k, hk, hxy, _, hxl, hf⟩ := DataW.trod_struct Tryz.underlying82 h
  obtain ⟨y0, y1, y2, y3, y4, y5, rfl⟩ := len6 (l := xs) hxl
  obtain ⟨v0, v1, v2, v3, v4, v5, rfl⟩ := len6 hlen
  · have g0 := hf 0 _ rfl
    have g1 := hf 1 _ rfl
    have g2 := hf 2 _ rfl
    have g3 := hf 3 _ rfl
    have g4 := hf 4 _ rfl
    have g5 := hf 5 _ rfl
    simp [cells3, cells46, cells52] at g0 g1 g2 g3 g4 g5
    have e0 := hcell 0 (by omega)
    have e1 := hcell 1 (by omega)
    have e2 := hcell 2 (by omega)
    have e3 := hcell 3 (by omega)
    have e4 := hcell 4 (by omega)
    have e5 := hcell 5 (by omega)
    obtain ⟨z0, q0, _, w0⟩ := DataW.trod_int Tryz.underlying3 g0
    obtain ⟨z1, q1, _, _⟩ := DataW.trod_int Tryz.underlying3 g1
    simp at q0 q1
    subst q0 q1
    refine ⟨k, z0, z1, v2, v3, v4, v5, y4, y5, hk, by simpa using e0, by simpa using e1, by simpa using e2, by simpa using e3, by simpa using e4, by simpa using e5, w0, toks_of_trod g2, toks_of_trod g3, g4, g5, ?_⟩
    rw [hxy]
    simp only [List.map_cons, List.map_nil, Rows.uptoBulk, Rows.uptoBulkAll]
    omega
def treeOf (len : Nat) (q : Nat → Nd × SL × SL) : SL := fun p =>
  match p with
  | [] => (len, fun i => (q i).1)
  | (i, b) :: r => if b then (q i).2.2 r else (q i).2.1 r
theorem stmts_of_trod : ∀ (fuel : Nat) (v : Value) (x : DataW H × List MemPlace), DataW.trod enc Tryz.prog W base spare held fuel 41 [v] = some x →
    ∃ T : SL, StmtsAt W.heap.size W fuel v T ∧ kindsFit fuel T ∧ size fuel T ≤ Rows.uptoBulk x.1 := by
  intro fuel
  induction fuel using Nat.strongRecOn with
  | ind fuel ih =>
    intro v x h
    rcases slice_each Tryz.underlying41 h with rfl | ⟨a, len, cap, n, elems, rest, rfl, rfl, hl, hx, hel, hi⟩
    · refine ⟨fun _ => (0, fun _ => ⟨0, 0, 0, fun _ => 0, fun _ => 0, 0, fun _ => 0, fun _ => 0⟩), ?_, ?_, ?_⟩
      · cases fuel with
        | zero => exact ⟨rfl, none, 0, rfl⟩
        | succ n => exact ⟨none, 0, rfl, by decide, Or.inl rfl⟩
      · cases fuel with
        | zero => trivial
        | succ n => exact fun i hi => absurd hi (Nat.not_lt_zero _)
      · rw [size_none rfl]; exact Nat.zero_le _
    · have each : ∀ i, i < len → ∃ q : Nd × SL × SL, ∃ ve vf va vb, W.cell? (a.add (i * 6)) = some (.int .i64 q.1.kind) ∧ W.cell? (a.add (i * 6 + 1)) = some (.int .i64 q.1.num) ∧ W.cell? (a.add (i * 6 + 2)) = some ve ∧ W.cell? (a.add (i * 6 + 3)) = some vf ∧
          W.cell? (a.add (i * 6 + 4)) = some va ∧ W.cell? (a.add (i * 6 + 5)) = some vb ∧ ToksAt W.heap.size W ve q.1.ne q.1.ek q.1.ez ∧ ToksAt W.heap.size W vf q.1.nf q.1.fk q.1.fz ∧ StmtsAt W.heap.size W n va q.2.1 ∧ StmtsAt W.heap.size W n vb q.2.2 ∧
          (Lit.int .i64 q.1.kind).wf = true ∧ kindsFit n q.2.1 ∧ kindsFit n q.2.2 ∧ ∀ d, elems[i]? = some d → 1 + size n q.2.1 + size n q.2.2 ≤ Rows.uptoBulk d := by
        intro i hlt
        obtain ⟨cs, y, h1, h2, h3⟩ := hi i hlt
        rw [cells58] at h1
        obtain ⟨k, x0, x1, v2, v3, v4, v5, y4, y5, rfl, e0, e1, e2, e3, e4, e5, hw, ⟨n1, k1, z1, ht1⟩, ⟨n2, k2, z2, ht2⟩, g4, g5, hb⟩ := stmt_of_trod h1 h2
        obtain ⟨TA, sA, kA, bA⟩ := ih k (by omega) v4 y4 g4
        obtain ⟨TB, sB, kB, bB⟩ := ih k (by omega) v5 y5 g5
        rw [add_add] at e0 e1 e2 e3 e4 e5
        refine ⟨(⟨x0, x1, n1, k1, z1, n2, k2, z2⟩, TA, TB), v2, v3, v4, v5, by simpa using e0, e1, e2, e3, e4, e5, ht1, ht2, sA.deeper, sB.deeper, hw, kindsFit_succ sA.proper kA, kindsFit_succ sB.proper kB, fun d hd => ?_⟩
        rw [h3] at hd
        cases hd
        show 1 + size (k + 1) TA + size (k + 1) TB ≤ _
        rw [size_succ' sA.proper, size_succ' sB.proper]
        omega
      haveI : Inhabited Nd := ⟨⟨0, 0, 0, fun _ => 0, fun _ => 0, 0, fun _ => 0, fun _ => 0⟩⟩
      obtain ⟨q, hq⟩ := choose_lt each
      have hlen : (treeOf len q).len = len := rfl
      refine ⟨treeOf len q, ⟨some a, cap, rfl, hl, ?_⟩, fun i hlt => ?_, ?_⟩
      · by_cases h0 : len = 0
        · exact Or.inl h0
        · right
          obtain ⟨_, _, _, _, c0, _⟩ := hq 0 (by omega)
          have hp := plain_at (v := .int .i64 (q 0).1.kind) (by simpa using c0)
          refine ⟨a.block, a.off, by rw [hp], ?_, fun i hlt => ?_⟩
          · have := cell_lt c0
            simpa [Addr.add] using this
          · obtain ⟨ve, vf, va, vb, c0, c1, c2, c3, c4, c5, t1, t2, s1, s2, _⟩ := hq i hlt
            rw [hp, add_plain] at c0 c1 c2 c3 c4 c5
            exact ⟨ve, vf, va, vb, c0, c1, c2, c3, c4, c5, t1, t2, s1, s2⟩
      · obtain ⟨_, _, _, _, _, _, _, _, _, _, _, _, _, _, w0, k1, k2, _⟩ := hq i hlt
        exact ⟨w0, k1, k2⟩
      · rw [hx]
        have := bulk_sum elems (fun i => 1 + size n ((treeOf len q).sub i false) + size n ((treeOf len q).sub i true)) (fun i d hd => by
          have hlt : i < len := by
            have := (List.getElem?_eq_some_iff.1 hd).1
            omega
          obtain ⟨_, _, _, _, _, _, _, _, _, _, _, _, _, _, _, _, _, hb⟩ := hq i hlt
          exact hb d hd)
        rw [hel] at this
        simp only [Rows.uptoBulk]
        show sumTo len _ ≤ _
        omega
theorem funs_of_trod {fuel : Nat} {v : Value} {x : DataW H × List MemPlace} (h : DataW.trod enc Tryz.prog W base spare held fuel 22 [v] = some x) :
    ∃ (n : Nat) (par loc : Nat → Int) (bv : Nat → Value) (B : Nat → SL), FunsAt W.heap.size W v n par loc bv ∧ (∀ i, i < n → StmtsAt W.heap.size W fuel (bv i) (B i)) ∧ (∀ i, i < n → kindsFit fuel (B i)) ∧ ∀ i, i < n → size fuel (B i) ≤ Rows.uptoBulk x.1 := by
  rcases slice_each Tryz.underlying22 h with rfl | ⟨a, len, cap, n, elems, rest, rfl, rfl, hl, hx, hel, hi⟩
  · exact ⟨0, fun _ => 0, fun _ => 0, fun _ => .slice none 0 0, fun _ _ => (0, fun _ => ⟨0, 0, 0, fun _ => 0, fun _ => 0, 0, fun _ => 0, fun _ => 0⟩), ⟨none, 0, rfl, by decide, Or.inl rfl⟩, fun i hi => absurd hi (Nat.not_lt_zero _), fun i hi => absurd hi (Nat.not_lt_zero _), fun i hi => absurd hi (Nat.not_lt_zero _)⟩
  · have each : ∀ i, i < len → ∃ q : Int × Int × Value × SL, W.cell? (a.add (i * 3)) = some (.int .i64 q.1) ∧ W.cell? (a.add (i * 3 + 1)) = some (.int .i64 q.2.1) ∧ W.cell? (a.add (i * 3 + 2)) = some q.2.2.1 ∧
        StmtsAt W.heap.size W (n + 1) q.2.2.1 q.2.2.2 ∧ kindsFit (n + 1) q.2.2.2 ∧ size (n + 1) q.2.2.2 ≤ Rows.uptoBulk x.1 := by
      intro i hlt
      obtain ⟨cs, y, h1, h2, h3⟩ := hi i hlt
      rw [cells54] at h1
      obtain ⟨_, hlen, hcell⟩ := World.cells?_some h1
      obtain ⟨xs, k, rfl, hxy, _, hxl, hf⟩ := DataW.trod_struct Tryz.underlying43 h2
      obtain ⟨y0, y1, y2, rfl⟩ := len3 (l := xs) hxl
      obtain ⟨v0, v1, v2, rfl⟩ := len3 hlen
      have g0 := hf 0 _ rfl
      have g1 := hf 1 _ rfl
      have g2 := hf 2 _ rfl
      simp [cells3, cells52] at g0 g1 g2
      have e0 := hcell 0 (by omega)
      have e1 := hcell 1 (by omega)
      have e2 := hcell 2 (by omega)
      obtain ⟨z0, q0, _, w0⟩ := DataW.trod_int Tryz.underlying3 g0
      obtain ⟨z1, q1, _, _⟩ := DataW.trod_int Tryz.underlying3 g1
      simp at q0 q1
      subst q0 q1
      obtain ⟨T, sT, kT', bT⟩ := stmts_of_trod k v2 y2 g2
      rw [add_add] at e0 e1 e2
      refine ⟨(z0, z1, v2, T), by simpa using e0, by simpa using e1, by simpa using e2, sT.deeper.deeper, kindsFit_succ sT.deeper.proper (kindsFit_succ sT.proper kT'), ?_⟩
      show size (k + 1 + 1) T ≤ _
      rw [size_succ' sT.deeper.proper, size_succ' sT.proper, hx]
      have hp := bulk_part h3
      rw [hxy] at hp
      simp only [List.map_cons, List.map_nil, Rows.uptoBulk, Rows.uptoBulkAll] at hp ⊢
      omega
    haveI : Inhabited Nd := ⟨⟨0, 0, 0, fun _ => 0, fun _ => 0, 0, fun _ => 0, fun _ => 0⟩⟩
    haveI : Inhabited Value := ⟨.bool false⟩
    obtain ⟨q, hq⟩ := choose_lt each
    refine ⟨len, fun i => (q i).1, fun i => (q i).2.1, fun i => (q i).2.2.1, fun i => (q i).2.2.2, ⟨some a, cap, rfl, hl, ?_⟩, fun i hlt => (hq i hlt).2.2.2.1, fun i hlt => (hq i hlt).2.2.2.2.1, fun i hlt => (hq i hlt).2.2.2.2.2⟩
    by_cases h0 : len = 0
    · exact Or.inl h0
    · right
      have c0 := (hq 0 (by omega)).1
      have hp := plain_at (v := .int .i64 (q 0).1) (by simpa using c0)
      refine ⟨a.block, a.off, by rw [hp], ?_, fun i hlt => ?_⟩
      · have := cell_lt c0
        simpa [Addr.add] using this
      · obtain ⟨c0, c1, c2, s, _⟩ := hq i hlt
        rw [hp, add_plain] at c0 c1 c2
        obtain ⟨b, c, e, _⟩ := s.shape
        exact ⟨c0, c1, c2, b, _, c, e⟩
theorem StmtsAt.le {N : Nat} {w : World} {d e : Nat} {v : Value} {T : SL} (h : StmtsAt N w d v T) (hd : d ≤ e) : StmtsAt N w e v T := by
  induction e with
  | zero =>
    obtain rfl : d = 0 := by omega
    exact h
  | succ e ih =>
    by_cases c : d = e + 1
    · subst c; exact h
    · exact (ih (by omega)).deeper
end
end Go.Proofs.YtbmenihakkogkabGreatDoor
