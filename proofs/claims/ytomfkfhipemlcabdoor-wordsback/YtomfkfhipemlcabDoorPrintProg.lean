/- Print, by the program: Check's error and no text; else the program's words, a blank between each two. -/
import Derived.Test.YtomfkfhipemlcabDoorAddBlock
import Derived.Test.YtomfkfhipemlcabDoorPrintMath
import Derived.Test.YtomfkfhipemlcabDoorCheckProg
import Derived.Deep.RegionHeldLaw
import Derived.Deep.AppendLies
namespace Go.Proofs.YtomfkfhipemlcabDoor
open Go.RowKit Go.Maps

/-- What Print says. -/
def printT (nf : Nat) (par loc : Nat → Int) (d : Nat) (body : Nat → SL) : Wd := if progErr nf par loc d body = 0 then bs (textL (progW nf par loc d body)) else bs []

theorem join_row (B : Nat) (v : Value) (R : List Wd) (w : World) (hw : WS B w v R) (hl : R.length ≤ 8000) (ht : (textL R).length ≤ 1000000) :
    Calls Tryd.prog 11 #[v, .string (bs [32])] w fun e w' => e = .returned (.string (bs (textL R))) ∧ Below w.heap.size w w' := by
  rcases hw.2 with ⟨rfl, h0⟩ | ⟨g, cap, cur, rfl, hb, hg, hn, hm, hsz, htk⟩
  · have e : R = [] := List.eq_nil_of_length_eq_zero h0
    subst e
    refine (Tryd.strings_Join_none none 0 (bs [32]) w).mono ?_
    rintro e w' ⟨rfl, rfl⟩
    exact ⟨rfl, Below.refl _ _⟩
  · refine (Tryd.strings_Join g 0 cap R (bs [32]) w (fun j x hj => ?_) (hw.lt g rfl) (by omega) hn (by rw [bs_data]; show (textL R).length ≤ _; omega)).mono ?_
    · have hj2 : j < R.length := (List.getElem?_eq_some_iff.1 hj).1
      have := hw.cellAt j (by omega)
      rw [Nat.zero_add, this]
      rw [List.getElem?_map, hj]; rfl
    · rintro e w' ⟨rfl, hb2⟩
      exact ⟨rfl, hb2⟩

/-- One function's words, and the bound on the words so far. -/
def funIt (d : Nat) (par loc : Nat → Int) (body : Nat → SL) (i : Nat) : List Wd := funWs d (par i) (loc i) (body i)

theorem keepFun {wr w1 : World} {p l : Int} {bv v v' : Value} (hv : ∀ k, v.ownBlock = some k → k < wr.heap.size) (h : Grow (wr.alloc (.cells #[.int .i64 p, .int .i64 l, bv] 35)) v w1 v') :
    w1.cell? ⟨wr.heap.size, 0, none⟩ = some (.int .i64 p) ∧ w1.cell? ⟨wr.heap.size, 1, none⟩ = some (.int .i64 l) ∧ w1.cell? ⟨wr.heap.size, 2, none⟩ = some bv :=
  ⟨boxG h hv 0 rfl, boxG h hv 1 rfl, boxG h hv 2 rfl⟩

/-- Three words more at the end of a row, as one step of a region that draws its order. -/
theorem step_fun {ops : Array Oper} {o : Oper} {a : Act} {K : Act → World → Prop} {Q : Exit → Act → World → Prop} {E : Prop} (w : World) (hgd : o.guard = none) (s y : Operand)
    (ho : o.op = .call { callee := .builtin .append, args := #[s, y], argTypes := #[32, 32] }) (base : Nat) (v : Value) (R : List Wd) (p l : Int) (hs : a.eval s = v) (hown : WS base w v R)
    (t : TypeId) (B : Nat) (hB : w.heap.size = B) (hy : a.eval y = .slice (some ⟨B, 0, none⟩) 3 3) (hR : R.length + 3 ≤ 1000000) (hbase : base ≤ w.heap.size)
    (h : ∀ v' w2 (R' : List Wd), Hid (R' = R ++ [funW, numW p, numW l]) → WS base w2 v' R' → Grow w v w2 v' → K (a.put o.dst v') w2) :
    if Region.wanted o (yielded ops a.tmps) = true then Oper.wp Tryd.prog o a (w.alloc (.cells #[.string ⟨#[102, 117, 110]⟩, .string (numW p), .string (numW l)] t)) K Q else E := by
  subst hB
  obtain ⟨i0, hi, hz0, hz1, hz2⟩ := info_parts info9
  have hk : Below w.heap.size w (w.alloc (.cells #[.string ⟨#[102, 117, 110]⟩, .string (numW p), .string (numW l)] t)) := below_alloc _ _
  refine step_append_lies _ hgd s y 32 ho base 9 i0 (.string ⟨#[]⟩) 1 16 Tryd.underlying32 hi hz0 hz1 hz2 rfl (by decide) v _ _ hs (hown.keep hk) ⟨w.heap.size, 0, none⟩ 3 3 ([funW, numW p, numW l].map Value.string) hy rfl (fun j u hj => ?_) (strs_one _) (by decide) (by unfold maxLen; omega) (by omega) (Nat.le_trans hbase hk.size) _ rfl ?_
  · rw [WideShapes.add_plain, Nat.zero_add, World.cell?_alloc_new]
    show (([funW, numW p, numW l].map Value.string).toArray)[j]? = some u
    rw [List.getElem?_toArray]
    exact hj
  · intro g cap w2 h1 h2 h4 _
    refine h _ w2 (R ++ [funW, numW p, numW l]) (show _ = _ from rfl) ?_ ⟨h2.os, h2.tape, h2.output, Nat.le_trans hk.size h2.size, fun k hk1 hk2 => ?_, fun k hk1 hk2 => ?_⟩
    · unfold WS
      rw [List.length_append, List.map_append]
      exact h1
    · rw [h2.block k (Nat.lt_of_lt_of_le hk1 hk.size) (fun e => hk2 e.symm)]
      exact hk.block k hk1
    · have hkg : g = k := Option.some.inj hk2
      rcases h4 with h4 | h4
      · rw [h4, hkg]
      · have h6 := hk.size
        omega

set_option maxHeartbeats 1000000 in
theorem print_bad (f : Value) (er : Int) (her : ¬ er = 0) (w : World) (HC : Hid (Calls Tryd.prog 8 #[f] w fun e w' => e = .returned (.int .i64 er) ∧ Below w.heap.size w w')) :
    Calls Tryd.prog 4 #[f] w fun e w' => e = .returned (.tuple #[.string (bs []), .int .i64 er]) ∧ Below w.heap.size w w' := by
  have h1 : (er != 0) = true := by simp [her]
  clear her
  go_enter Tryd.func4, Tryd.ntmps4
  go_wp2_with (first
    | (go_at_call 8; refine HC.out.mono ?_; rintro e w1 ⟨rfl, b1⟩))
  go_ret2
  exact ⟨rfl, b1⟩

set_option maxRecDepth 20000 in
set_option maxHeartbeats 4000000 in
theorem print_good (N : Nat) (f : Value) (nf : Nat) (par loc : Nat → Int) (bv : Nat → Value) (d : Nat) (body : Nat → SL) (w : World) (hN : N ≤ w.heap.size) (he : Env N w) (hf : FunsAt N w f nf par loc bv) (hs : ∀ i, i < nf → StmtsAt N w d (bv i) (body i)) (hp : progErr nf par loc d body = 0) :
    Calls Tryd.prog 4 #[f] w fun e w' => e = .returned (.tuple #[.string (bs (textL (progW nf par loc d body))), .int .i64 0]) ∧ Below w.heap.size w w' := by
  have HC : Hid (Calls Tryd.prog 8 #[f] w fun e w' => e = .returned (.int .i64 0) ∧ Below w.heap.size w w') := by
    have := check N f nf par loc bv d body w hN hf hs
    rw [hp] at this; exact this
  obtain ⟨hn1, hn4, hh, hb⟩ := prog_zero hp
  have HP : Hid (progErr nf par loc d body = 0) := hp
  have HS : Hid (∀ i, i < nf → StmtsAt N w d (bv i) (body i)) := hs
  have HE : Hid (Env N w) := he
  have HH : Hid (∀ i, i < nf → 0 ≤ par i ∧ par i ≤ 3 ∧ par i ≤ loc i ∧ loc i ≤ 6) := fun i hi => head_range (hh i hi)
  have HEr : Hid (∀ i, i < nf → errs (stErr nf par (loc i)) d (body i) = 0) := fun i hi => (bodyErr_errs (hb i hi)).2
  have HL : Hid (∀ i, i < nf → (funIt d par loc body i).length ≤ 2000) := fun_len hp
  obtain ⟨a, cap, rfl, hnl, h0 | ⟨bf, of, rfl, hbf, hcf⟩⟩ := hf
  · omega
  have HCF : Hid (∀ i, i < nf → w.cell? ⟨bf, of + i * 3, none⟩ = some (.int .i64 (par i)) ∧ w.cell? ⟨bf, of + i * 3 + 1, none⟩ = some (.int .i64 (loc i)) ∧ w.cell? ⟨bf, of + i * 3 + 2, none⟩ = some (bv i) ∧ ∃ x m c, bv i = .slice x m c) := hcf
  clear he hs hp hh hb hcf
  go_enter Tryd.func4, Tryd.ntmps4
  go_upto_region 6 with (first
    | (go_at_call 8; refine HC.out.mono ?_; rintro e w1 ⟨rfl, b1⟩))
  go_loopw [5, 15] (fun q i wr => ∃ (j : Nat) (R : List Wd), j ≤ nf ∧ i = .int .i64 j ∧ Hid (WS w.heap.size wr q R) ∧ Hid (R = catTo (funIt d par loc body) j) ∧ Below w.heap.size w wr) (fun _ i _ => nf - (intOf i).toNat)
  case atStart => exact ⟨0, [], by omega, rfl, WS.nil _ _, rfl, b1⟩
  case round =>
    obtain ⟨j, R, hj0, rfl, HW, HR, hbw⟩ := hrel
    by_cases hj : j < nf
    · obtain ⟨c0, c1, c2, x, m, c, hx⟩ := HCF.out j hj
      have hbfw : bf < w.heap.size := Nat.lt_of_lt_of_le hbf hN
      rw [← hbw.cell (p := ⟨bf, of + j * 3, none⟩) hbfw] at c0
      rw [← hbw.cell (p := ⟨bf, of + j * 3 + 1, none⟩) hbfw] at c1
      rw [← hbw.cell (p := ⟨bf, of + j * 3 + 2, none⟩) hbfw, hx] at c2
      have hji : (j : Int) < (nf : Int) := by omega
      have hr := HH.out j hj
      have HHj : Hid (0 ≤ par j ∧ par j ≤ 3 ∧ par j ≤ loc j ∧ loc j ≤ 6) := hr
      have hRl : R.length ≤ 6000 := by
        have h1 := catTo_len (n := j) fun i hi => HL.out i (by omega)
        rw [HR.out]
        have : j * 2000 ≤ 3 * 2000 := Nat.mul_le_mul_right _ (by omega)
        omega
      have hown : ∀ k, u5.ownBlock = some k → k < wr.heap.size := HW.out.lt
      have HOwn : Hid (∀ k, u5.ownBlock = some k → k < wr.heap.size) := hown
      have hst := HS.out j hj
      rw [hx] at hst
      have HSt : Hid (StmtsAt N w d (.slice x m c) (body j)) := hst
      have hsz : (wr.alloc (.cells #[.int .i64 (par j), .int .i64 (loc j), .slice x m c] 35)).heap.size = wr.heap.size + 1 := by simp
      have G0 := Grow.refl (wr.alloc (.cells #[.int .i64 (par j), .int .i64 (loc j), .slice x m c] 35)) u5
      have HK : Hid (∀ w1 v', Grow (wr.alloc (.cells #[.int .i64 (par j), .int .i64 (loc j), .slice x m c] 35)) u5 w1 v' → w1.cell? ⟨wr.heap.size, 0, none⟩ = some (.int .i64 (par j)) ∧ w1.cell? ⟨wr.heap.size, 1, none⟩ = some (.int .i64 (loc j)) ∧ w1.cell? ⟨wr.heap.size, 2, none⟩ = some (.slice x m c)) := fun w1 v' h => keepFun hown h
      have hal := below_alloc wr (.cells #[.int .i64 (par j), .int .i64 (loc j), .slice x m c] 35)
      have HAl : Hid (Below wr.heap.size wr (wr.alloc (.cells #[.int .i64 (par j), .int .i64 (loc j), .slice x m c] 35))) := hal
      have HWal := HW.out.keep hal
      clear hr hown hst hal
      go_upto_region 8 with (fail)
      generalize wr.alloc (.cells #[.int .i64 (par j), .int .i64 (loc j), .slice x m c] 35) = W at *
      have HG0 : Hid (Grow W u5 W u5) := G0
      have HWW : Hid (WS w.heap.size W u5 R) := HWal
      have hbW : Below w.heap.size w W := hbw.trans (HAl.out.mono hbw.size)
      have HIt : Hid (∀ z w3, (z = par j ∨ z = loc j) → Below W.heap.size W w3 → Calls Tryd.prog 9 #[.int .i64 z] w3 fun e w' => e = .returned (.string (numW z)) ∧ Below w3.heap.size w3 w') := fun z w3 hz h3 => by
        have := HHj.out
        exact itoa N z (by omega) (by omega) w3 (HE.out.below ((hbW.trans (h3.mono hbW.size)).mono hN))
      clear G0 HWal c0 c1 c2
      have b0 : Below W.heap.size W W := Below.refl _ _
      go_region_held_law (fun w' => w'.cell? ⟨wr.heap.size, 0, none⟩ = some (.int .i64 (par j)) ∧ w'.cell? ⟨wr.heap.size, 1, none⟩ = some (.int .i64 (loc j)) ∧ w'.cell? ⟨wr.heap.size, 2, none⟩ = some (.slice x m c))
        (first | exact HK.out _ _ (Grow.of _ b0.drew) | exact HK.out _ _ (Grow.of _ b9) | exact HK.out _ _ (Grow.of _ b9.drew) | exact HK.out _ _ (Grow.of _ (b9.alloc b9.size _)) | exact HK.out _ _ ((Grow.of _ b9).trans hG9))
        (first
          | (go_at_call 9; refine (HIt.out _ _ (by first | exact Or.inl rfl | exact Or.inr rfl) (by first | exact b9 | exact b9.drew | exact b0.drew)).mono ?_; rintro e w9 ⟨rfl, b9'⟩; have b9 : Below W.heap.size W w9 := (by first | exact b9.trans (b9'.mono b9.size) | exact b9.drew.trans (b9'.mono b9.size) | exact b0.drew.trans b9'))
          | (refine step_fun w9 rfl _ _ rfl w.heap.size u5 R (par j) (loc j) rfl (HWW.out.keep b9) _ _ rfl rfl (by omega) (Nat.le_trans hbW.size b9.size) ?_; intro v9 w10 R9 eR9 hW9 hG9))
      have hG10 : Grow W u5 w10 v9 := (Grow.of u5 b9).trans hG9
      obtain ⟨_, _, c2⟩ := HK.out _ _ hG10
      have hb10 : Below w.heap.size w w10 := hbW.trans (hG10.low (fun k hk => HW.out.low k hk) hbW.size)
      have HW9 : Hid (WS w.heap.size w10 v9 R9) := hW9
      have HAdd : Hid (Calls Tryd.prog 10 #[v9, .slice x m c] w10 fun e w' => ∃ v', e = .returned v' ∧ Hid (WS w.heap.size w' v' (R9 ++ blkW d (body j))) ∧ Hid (Grow w10 v9 w' v')) := by
        have h1 := HL.out j hj
        unfold funIt funWs at h1
        simp only [List.length_append, List.length_cons, List.length_nil] at h1
        exact addBlock N w.heap.size nf par (loc j) (by have := HHj.out; omega) (by omega) hN d v9 (.slice x m c) (body j) R9 w10 hb10.size (HE.out.below (hb10.mono hN)) (HSt.out.below (hb10.mono hN)) (HEr.out j hj) HW9.out (by rw [eR9.out, List.length_append, List.length_cons, List.length_cons, List.length_cons, List.length_nil]; omega)
      clear hW9 hG9 hG10 b9 b9' b0
      go_wp2_with (first
        | (go_at_call 10; refine HAdd.out.mono ?_; rintro e w11 ⟨v11, rfl, HW11, HG11⟩))
      go_roundw
      case rel => exact ⟨j + 1, _, by omega, by go_num, HW11, (by show _ = _; rw [eR9.out, HR.out, catTo, List.append_assoc]; rfl), hb10.trans (HG11.out.low HW9.out.low hb10.size)⟩
      case measure => simp [intOf]; omega
    · obtain rfl : j = nf := by omega
      have HJ : Hid (Calls Tryd.prog 11 #[u5, .string (bs [32])] wr fun e w' => e = .returned (.string (bs (textL R))) ∧ Below wr.heap.size wr w') := by
        refine join_row w.heap.size u5 R wr HW.out ?_ ?_
        · rw [HR.out]; exact prog_len HP.out
        · rw [HR.out]; exact text_len (progW_short HP.out) (prog_len HP.out)
      go_wp2_with (first
        | (go_at_call 11; refine HJ.out.mono ?_; rintro e w12 ⟨rfl, b12⟩))
      go_ret2
      refine ⟨?_, hbw.trans (b12.mono hbw.size)⟩
      rw [HR.out]
      rfl

/-- Print. -/
theorem print (N : Nat) (f : Value) (nf : Nat) (par loc : Nat → Int) (bv : Nat → Value) (d : Nat) (body : Nat → SL) (w : World) (hN : N ≤ w.heap.size) (he : Env N w) (hf : FunsAt N w f nf par loc bv) (hs : ∀ i, i < nf → StmtsAt N w d (bv i) (body i)) :
    Calls Tryd.prog 4 #[f] w fun e w' => e = .returned (.tuple #[.string (printT nf par loc d body), .int .i64 (progErr nf par loc d body)]) ∧ Below w.heap.size w w' := by
  unfold printT
  by_cases hp : progErr nf par loc d body = 0
  · rw [if_pos hp, hp]
    exact print_good N f nf par loc bv d body w hN he hf hs hp
  · rw [if_neg hp]
    exact print_bad f _ hp w (check N f nf par loc bv d body w hN hf hs)

end Go.Proofs.YtomfkfhipemlcabDoor
