/- SourceText of the reckoning: the text of a right program. -/
import Derived.Test.YtfblnmbcaglliabGreatDoorBlockSucc
import Derived.Test.YtfblnmbcaglliabGreatDoorPartParse
import Derived.Test.YtfblnmbcaglliabGreatDoorPartQ
namespace Go.Proofs.YtfblnmbcaglliabGreatDoor
open Go.RowKit Go.Maps

theorem blankL_eq : ∀ ws : List Wd, blankL ws = Lib.joinTail [32] (ws.map (·.data.toList))
  | [] => rfl
  | w :: ws => by
    have := blankL_eq ws
    rw [List.map_cons, joinTail_cons, ← this]
    simp [blankL]

theorem blockText (N nf : Nat) (par : Nat → Int) (locals : Int) (hl : locals ≤ 6) (hnf : nf ≤ 1000) : ∀ d, BTextOK N nf par locals d
  | 0 => blockText_zero N nf par locals
  | d + 1 => blockText_succ N nf par locals hl hnf d (blockText N nf par locals hl hnf d)

def funWL : List UInt8 := [102, 117, 110]
theorem funW_data : funW.data.toList = [102, 117, 110] := by decide +kernel

/-- The text of one function. -/
theorem textL_fun (d : Nat) (p l : Int) (T : SL) : textL (funWs d p l T) = (((([102, 117, 110, 32] ++ Lib.itoa p) ++ [32]) ++ Lib.itoa l) ++ [32]) ++ blkT d T := by
  have e : funWs d p l T = funW :: ([numW p] ++ ([numW l] ++ blkW d T)) := by simp [funWs]
  unfold textL
  rw [e, List.map_cons, Lib.join_cons, ← blankL_eq, blankL_append, blankL_append, blankL_one, blankL_one, blkT_cons, funW_data]
  simp [numW, bs_data]

theorem funIt_ne (d : Nat) (par loc : Nat → Int) (body : Nat → SL) (i : Nat) : funIt d par loc body i ≠ [] := by
  unfold funIt funWs; simp

/-- One text more at the end of a row, as one step of a region that draws its order. -/
theorem step_str {ops : Array Oper} {o : Oper} {a : Act} {K : Act → World → Prop} {Q : Exit → Act → World → Prop} {E : Prop} (w : World) (hgd : o.guard = none) (s y : Operand)
    (ho : o.op = .call { callee := .builtin .append, args := #[s, y], argTypes := #[45, 45] }) (base : Nat) (v : Value) (R : List Wd) (x : Wd) (hs : a.eval s = v) (hown : WS base w v R)
    (t : TypeId) (B : Nat) (hB : w.heap.size = B) (hy : a.eval y = .slice (some ⟨B, 0, none⟩) 1 1) (hR : R.length + 1 ≤ 1000000) (hbase : base ≤ w.heap.size)
    (h : ∀ v' w2 (R' : List Wd), Hid (R' = R ++ [x]) → WS base w2 v' R' → Grow w v w2 v' → K (a.put o.dst v') w2) :
    if Region.wanted o (yielded ops a.tmps) = true then Oper.wp Tryz.prog o a (w.alloc (.cells #[.string x] t)) K Q else E := by
  subst hB
  obtain ⟨i0, hi, hz0, hz1, hz2⟩ := info_parts info9
  have hk : Below w.heap.size w (w.alloc (.cells #[.string x] t)) := below_alloc _ _
  refine step_append_lies _ hgd s y 45 ho base 9 i0 (.string ⟨#[]⟩) 1 16 Tryz.underlying45 hi hz0 hz1 hz2 rfl (by decide) v _ _ hs (hown.keep hk) ⟨w.heap.size, 0, none⟩ 1 1 ([x].map Value.string) hy rfl (fun j u hj => ?_) (strs_one _) (by decide) (by unfold maxLen; omega) (by omega) (Nat.le_trans hbase hk.size) _ rfl ?_
  · rw [WideShapes.add_plain, Nat.zero_add, World.cell?_alloc_new]
    show (([x].map Value.string).toArray)[j]? = some u
    rw [List.getElem?_toArray]
    exact hj
  · intro g cap w2 h1 h2 h4 _
    refine h _ w2 (R ++ [x]) (show _ = _ from rfl) ?_ ⟨h2.os, h2.tape, h2.output, Nat.le_trans hk.size h2.size, fun k hk1 hk2 => ?_, fun k hk1 hk2 => ?_⟩
    · unfold WS
      rw [List.length_append, List.map_append]
      exact h1
    · rw [h2.block k (Nat.lt_of_lt_of_le hk1 hk.size) (fun e => hk2 e.symm)]
      exact hk.block k hk1
    · have hkg : g = k := Option.some.inj hk2
      rcases h4 with h4 | h4
      · rw [h4, hkg]
      · have h6 := hk.size
        omega

theorem fun_short {nf : Nat} {par loc : Nat → Int} {d : Nat} {body : Nat → SL} (h : progErr nf par loc d body = 0) : ∀ i, i < nf → (textL (funIt d par loc body i)).length ≤ 1000000 := by
  intro i hi
  have h1 := fun_len h i hi
  refine text_len (fun w hw => progW_short h w ?_) (by unfold funIt; omega)
  have : ∀ {n : Nat}, i < n → ∀ w ∈ funIt d par loc body i, w ∈ catTo (funIt d par loc body) n := by
    intro n
    induction n with
    | zero => intro h; omega
    | succ n ih =>
      intro h w hw
      rw [catTo, List.mem_append]
      by_cases e : i = n
      · subst e; exact Or.inr hw
      · exact Or.inl (ih (by omega) w hw)
  exact this hi w hw

set_option maxRecDepth 20000 in
set_option maxHeartbeats 4000000 in
theorem sourceText (N : Nat) (f : Value) (nf : Nat) (par loc : Nat → Int) (bv : Nat → Value) (d : Nat) (body : Nat → SL) (w : World) (hN : N ≤ w.heap.size) (he : Env N w) (hsp : Spc N w) (hf : FunsAt N w f nf par loc bv) (hs : ∀ i, i < nf → StmtsAt N w d (bv i) (body i)) (hp : progErr nf par loc d body = 0) :
    Calls Tryz.prog 8 #[f] w fun e w' => e = .returned (.string (bs (textL (progW nf par loc d body)))) ∧ Below w.heap.size w w' := by
  obtain ⟨hn1, hn4, hh, hb⟩ := prog_zero hp
  have HP : Hid (progErr nf par loc d body = 0) := hp
  have HS : Hid (∀ i, i < nf → StmtsAt N w d (bv i) (body i)) := hs
  have HE : Hid (Env N w) := he
  have HSp : Hid (Spc N w) := hsp
  have HH : Hid (∀ i, i < nf → 0 ≤ par i ∧ par i ≤ 3 ∧ par i ≤ loc i ∧ loc i ≤ 6) := fun i hi => head_range (hh i hi)
  have HEr : Hid (∀ i, i < nf → errs (stErr nf par (loc i)) d (body i) = 0) := fun i hi => (bodyErr_errs (hb i hi)).2
  have HL : Hid (∀ i, i < nf → (textL (funIt d par loc body i)).length ≤ 1000000) := fun_short hp
  obtain ⟨a, cap, rfl, hnl, h0 | ⟨bf, of, rfl, hbf, hcf⟩⟩ := hf
  · omega
  have HCF : Hid (∀ i, i < nf → w.cell? ⟨bf, of + i * 3, none⟩ = some (.int .i64 (par i)) ∧ w.cell? ⟨bf, of + i * 3 + 1, none⟩ = some (.int .i64 (loc i)) ∧ w.cell? ⟨bf, of + i * 3 + 2, none⟩ = some (bv i) ∧ ∃ x m c, bv i = .slice x m c) := hcf
  clear he hs hp hh hb hcf hsp
  go_enter Tryz.func8, Tryz.ntmps8
  go_upto_region 3 with (fail)
  go_loopw [3, 8] (fun q i wr => ∃ (j : Nat) (R : List Wd), j ≤ nf ∧ i = .int .i64 j ∧ Hid (WS w.heap.size wr q R) ∧ Hid (R = textsTo (funIt d par loc body) j) ∧ Below w.heap.size w wr) (fun _ i _ => nf - (intOf i).toNat)
  case atStart => exact ⟨0, [], by omega, rfl, WS.nil _ _, rfl, Below.refl _ _⟩
  case round =>
    obtain ⟨j, R, hj0, rfl, HW, HR, hbw⟩ := hrel
    by_cases hj : j < nf
    · obtain ⟨c0, c1, c2, x, m, c, hx⟩ := HCF.out j hj
      have hbfw : bf < w.heap.size := Nat.lt_of_lt_of_le hbf hN
      rw [← hbw.cell (p := ⟨bf, of + j * 3, none⟩) hbfw] at c0
      rw [← hbw.cell (p := ⟨bf, of + j * 3 + 1, none⟩) hbfw] at c1
      rw [← hbw.cell (p := ⟨bf, of + j * 3 + 2, none⟩) hbfw, hx] at c2
      have hji : (j : Int) < (nf : Int) := by omega
      have hr := HH.out j hj
      have HHj : Hid (0 ≤ par j ∧ par j ≤ 3 ∧ par j ≤ loc j ∧ loc j ≤ 6) := hr
      have hRl : R.length ≤ 6000 := by
        rw [HR.out, textsTo_len]; omega
      have hown : ∀ k, u3.ownBlock = some k → k < wr.heap.size := HW.out.lt
      have hst := HS.out j hj
      rw [hx] at hst
      have HSt : Hid (StmtsAt N w d (.slice x m c) (body j)) := hst
      have hsz : (wr.alloc (.cells #[.int .i64 (par j), .int .i64 (loc j), .slice x m c] 43)).heap.size = wr.heap.size + 1 := by simp
      have HK : Hid (∀ w1 v', Grow (wr.alloc (.cells #[.int .i64 (par j), .int .i64 (loc j), .slice x m c] 43)) u3 w1 v' → w1.cell? ⟨wr.heap.size, 0, none⟩ = some (.int .i64 (par j)) ∧ w1.cell? ⟨wr.heap.size, 1, none⟩ = some (.int .i64 (loc j)) ∧ w1.cell? ⟨wr.heap.size, 2, none⟩ = some (.slice x m c)) := fun w1 v' h => keepFun hown h
      have hal := below_alloc wr (.cells #[.int .i64 (par j), .int .i64 (loc j), .slice x m c] 43)
      have HAl : Hid (Below wr.heap.size wr (wr.alloc (.cells #[.int .i64 (par j), .int .i64 (loc j), .slice x m c] 43))) := hal
      have HWal := HW.out.keep hal
      clear hr hown hst hal
      go_upto_region 5 with (fail)
      generalize wr.alloc (.cells #[.int .i64 (par j), .int .i64 (loc j), .slice x m c] 43) = W at *
      have HWW : Hid (WS w.heap.size W u3 R) := HWal
      have hbW : Below w.heap.size w W := hbw.trans (HAl.out.mono hbw.size)
      have HEv : Hid (∀ w3, Below W.heap.size W w3 → N ≤ w3.heap.size ∧ Below N w w3) := fun w3 h3 => by
        have h4 := hbW.trans (h3.mono hbW.size)
        exact ⟨Nat.le_trans hN h4.size, h4.mono hN⟩
      have HIt : Hid (∀ z w3, (z = par j ∨ z = loc j) → Below W.heap.size W w3 → Calls Tryz.prog 19 #[.int .i64 z] w3 fun e w' => e = .returned (.string (numW z)) ∧ Below w3.heap.size w3 w') := fun z w3 hz h3 => by
        have := HHj.out
        exact itoa N z (by omega) (by omega) w3 (HE.out.below (HEv.out w3 h3).2)
      have hlen := HL.out j hj
      have HTx : Hid (textL (funIt d par loc body j) = (((([102, 117, 110, 32] ++ Lib.itoa (par j)) ++ [32]) ++ Lib.itoa (loc j)) ++ [32]) ++ blkT d (body j)) := textL_fun d (par j) (loc j) (body j)
      rw [HTx.out] at hlen
      simp only [List.length_append, List.length_cons, List.length_nil] at hlen
      have HBt : Hid (∀ w3, Below W.heap.size W w3 → Calls Tryz.prog 27 #[.slice x m c] w3 fun e w' => e = .returned (.string (bs (blkT d (body j)))) ∧ Below w3.heap.size w3 w') := fun w3 h3 =>
        blockText N nf par (loc j) (by have := HHj.out; omega) (by omega) d _ _ w3 (HEv.out w3 h3).1 (HE.out.below (HEv.out w3 h3).2) (HSp.out.below (HEv.out w3 h3).2) (HSt.out.below (HEv.out w3 h3).2) (HEr.out j hj) (by omega)
      have a1 := add_lit [102, 117, 110, 32] (by decide) (par j) (by have := HHj.out; omega) (by have := HHj.out; omega)
      have l1 : ([102, 117, 110, 32] ++ Lib.itoa (par j)).length = 4 + (Lib.itoa (par j)).length := by simp; omega
      generalize [102, 117, 110, 32] ++ Lib.itoa (par j) = A1 at *
      have a2 : ∀ w, (Op.stringOp .add (bs A1) ⟨#[32]⟩).run Tryz.prog w = .ok (.string (bs (A1 ++ [32]))) w := add_two A1 [32] (by simp only [List.length_cons, List.length_nil]; omega)
      have l2 : (A1 ++ [32]).length = A1.length + 1 := by simp
      generalize A1 ++ [32] = A2 at *
      have a3 : ∀ w, (Op.stringOp .add (bs A2) (numW (loc j))).run Tryz.prog w = .ok (.string (bs (A2 ++ Lib.itoa (loc j)))) w := add_two A2 (Lib.itoa (loc j)) (by omega)
      have l3 : (A2 ++ Lib.itoa (loc j)).length = A2.length + (Lib.itoa (loc j)).length := List.length_append
      generalize A2 ++ Lib.itoa (loc j) = A3 at *
      have a4 : ∀ w, (Op.stringOp .add (bs A3) ⟨#[32]⟩).run Tryz.prog w = .ok (.string (bs (A3 ++ [32]))) w := add_two A3 [32] (by simp only [List.length_cons, List.length_nil]; omega)
      have l4 : (A3 ++ [32]).length = A3.length + 1 := by simp
      generalize A3 ++ [32] = A4 at *
      have a5 := add_two A4 (blkT d (body j)) (by omega)
      generalize blkT d (body j) = PB at *
      generalize A4 ++ PB = A5 at *
      have b0 : Below W.heap.size W W := Below.refl _ _
      clear HWal c0 c1 c2 hlen l1 l2 l3 l4
      go_region_held_law (fun w' => w'.cell? ⟨wr.heap.size, 0, none⟩ = some (.int .i64 (par j)) ∧ w'.cell? ⟨wr.heap.size, 1, none⟩ = some (.int .i64 (loc j)) ∧ w'.cell? ⟨wr.heap.size, 2, none⟩ = some (.slice x m c))
        (first | exact HK.out _ _ (Grow.of _ b0.drew) | exact HK.out _ _ (Grow.of _ b9) | exact HK.out _ _ (Grow.of _ b9.drew) | exact HK.out _ _ (Grow.of _ (b9.alloc b9.size _)) | exact HK.out _ _ ((Grow.of _ b9).trans hG9))
        (first
          | (go_at_call 19; refine (HIt.out _ _ (by first | exact Or.inl rfl | exact Or.inr rfl) (by first | exact b9 | exact b9.drew | exact b0.drew)).mono ?_; rintro e w9 ⟨rfl, b9'⟩; have b9 : Below W.heap.size W w9 := (by first | exact b9.trans (b9'.mono b9.size) | exact b9.drew.trans (b9'.mono b9.size) | exact b0.drew.trans b9'))
          | (go_at_call 27; refine (HBt.out _ (by first | exact b9 | exact b9.drew | exact b0.drew)).mono ?_; rintro e w9 ⟨rfl, b9'⟩; have b9 : Below W.heap.size W w9 := (by first | exact b9.trans (b9'.mono b9.size) | exact b9.drew.trans (b9'.mono b9.size) | exact b0.drew.trans b9'))
          | (refine step_str w9 rfl _ _ rfl w.heap.size u3 R (bs A5) rfl (HWW.out.keep b9) _ _ rfl rfl (by omega) (Nat.le_trans hbW.size b9.size) ?_; intro v9 w10 R9 eR9 hW9 hG9))
      have hG10 : Grow W u3 w10 v9 := (Grow.of u3 b9).trans hG9
      have hb10 : Below w.heap.size w w10 := hbW.trans (hG10.low (fun k hk => HW.out.low k hk) hbW.size)
      have HW9 : Hid (WS w.heap.size w10 v9 R9) := hW9
      clear hW9 hG9 hG10 b9 b9' b0
      go_wp2_with fail
      go_roundw
      case rel => exact ⟨j + 1, _, by omega, by go_num, HW9, (by show _ = _; rw [eR9.out, HR.out, textsTo, HTx.out]), hb10⟩
      case measure => simp [intOf]; omega
    · obtain rfl : j = nf := by omega
      have hT : textL R = textL (progW j par loc d body) := by
        rw [HR.out]; exact texts_join (funIt_ne d par loc body) hn1
      have HJ : Hid (Calls Tryz.prog 21 #[u3, .string (bs [32])] wr fun e w' => e = .returned (.string (bs (textL R))) ∧ Below wr.heap.size wr w') := by
        refine join_row w.heap.size u3 R wr HW.out ?_ ?_
        · rw [HR.out, textsTo_len]; omega
        · rw [hT]; exact text_len (progW_short HP.out) (prog_len HP.out)
      rw [hT] at HJ
      clear hT
      go_wp2_with (first
        | (go_at_call 21; refine HJ.out.mono ?_; rintro e w12 ⟨rfl, b12⟩))
      go_ret
      exact ⟨rfl, hbw.trans (b12.mono hbw.size)⟩

end Go.Proofs.YtfblnmbcaglliabGreatDoor
