/- How many words a right program has, and how long they are. No Go in it. -/
import Derived.Test.YtomfkfhipemlcabDoorWordsSame
import Derived.Lib.ItoaLen
namespace Go.Proofs.YtomfkfhipemlcabDoor
open Go.RowKit

theorem blkW_all {P : Wd → Prop} (hob : P obW) (hcb : P cbW) (hst : ∀ k, P (bs (stL k))) (hnum : ∀ z : Int, 0 ≤ z → z ≤ 6 → P (numW z)) {nf : Nat} {par : Nat → Int} {locals : Int} (hl : locals ≤ 6) (htok : ∀ k z, tokErr k z nf locals = 0 → P (tokW k z)) :
    ∀ {d : Nat} {T : SL}, errs (stErr nf par locals) d T = 0 → ∀ w ∈ blkW d T, P w
  | 0, T, _, w, hw => by
    have : w = obW ∨ w = cbW := by simpa [blkW] using hw
    rcases this with rfl | rfl
    · exact hob
    · exact hcb
  | d + 1, T, h, w, hw => by
    have toks : ∀ {k z : Nat → Int} {n : Nat}, (∀ j, j < n → tokErr (k j) (z j) nf locals = 0) → ∀ w ∈ toksW k z n, P w := by
      intro k z n
      induction n with
      | zero => intro _ w hw; cases hw
      | succ n ih =>
        intro h w hw
        rcases List.mem_append.1 hw with hw | hw
        · exact ih (fun j hj => h j (by omega)) w hw
        · rw [List.mem_singleton] at hw; subst hw; exact htok _ _ (h n (by omega))
    rw [blkW, List.cons_append, List.mem_cons, List.mem_append, List.mem_singleton] at hw
    rcases hw with rfl | hw | rfl
    · exact hob
    · obtain ⟨i, hi, hw⟩ := catTo_mem hw
      obtain ⟨s0, s1, s2⟩ := errs_item h hi
      obtain ⟨f0, f1, f2, f3⟩ := stErr_zero s0
      obtain ⟨k1, k2, kn, ke, kf, ka, kb⟩ := formErr_zero f0
      simp only [stmtW, List.mem_append, List.mem_cons] at hw
      rcases hw with ((((rfl | hw) | hw) | hw) | hw) | hw
      · exact hst _
      · split at hw
        · next c =>
          rw [List.mem_singleton] at hw; subst hw
          unfold numErr at f1
          split at f1
          · cases f1
          · exact hnum _ (by omega) (by omega)
        · cases hw
      · by_cases c : (T.nd i).kind = 4
        · have hz : (T.nd i).ne = 0 := by omega
          rw [hz] at hw; cases hw
        · exact toks (expr_toks (f2.resolve_left c)) w hw
      · by_cases c : (T.nd i).kind = 2
        · exact toks (expr_toks (f3.resolve_left fun x => x c)) w hw
        · have hz : (T.nd i).nf = 0 := by omega
          rw [hz] at hw; cases hw
      · split at hw
        · exact blkW_all hob hcb hst hnum hl htok s1 w hw
        · cases hw
      · split at hw
        · exact blkW_all hob hcb hst hnum hl htok s2 w hw
        · cases hw
    · exact hcb

def shortW (w : Wd) : Prop := w.data.toList.length ≤ 30

theorem numW_short {z : Int} (h0 : -9223372036854775808 ≤ z) (h1 : z ≤ 9223372036854775807) : shortW (numW z) := by
  have := Lib.itoa_length_le z h0 h1
  show (Lib.itoa z).length ≤ 30
  omega

theorem tokW_short {k z : Int} {nf : Nat} {locals : Int} (hl : locals ≤ 6) (hn : nf ≤ 1000) (h : tokErr k z nf locals = 0) : shortW (tokW k z) := by
  have hz : -9223372036854775808 ≤ z ∧ z ≤ 9223372036854775807 := by
    unfold tokErr at h
    repeat' split at h
    all_goals first | omega | cases h
  have h2 := Lib.itoa_length_le z hz.1 hz.2
  unfold tokW shortW
  split
  · rw [bs_data]
    unfold opL
    split <;> decide
  · rw [bs_data, List.length_append]
    have : (mkL k.toNat).length ≤ 3 := by unfold mkL; split <;> decide
    omega

theorem stL_short (k : Nat) : shortW (bs (stL k)) := by
  show (stL k).length ≤ 30
  unfold stL
  split <;> decide

theorem progW_short {nf : Nat} {par loc : Nat → Int} {d : Nat} {body : Nat → SL} (h : progErr nf par loc d body = 0) : ∀ w ∈ progW nf par loc d body, shortW w := by
  intro w hw
  obtain ⟨i, hi, hw⟩ := catTo_mem hw
  obtain ⟨_, hn4, hh, hb⟩ := prog_zero h
  have r := head_range (hh i hi)
  rw [funWs, List.mem_append] at hw
  rcases hw with hw | hw
  · have : w = funW ∨ w = numW (par i) ∨ w = numW (loc i) := by simpa using hw
    rcases this with rfl | rfl | rfl
    · show (3 : Nat) ≤ 30; decide
    · exact numW_short (by omega) (by omega)
    · exact numW_short (by omega) (by omega)
  · exact blkW_all (P := shortW) (by show (1 : Nat) ≤ 30; decide) (by show (1 : Nat) ≤ 30; decide) stL_short (fun z h0 h6 => numW_short (by omega) (by omega)) (locals := loc i) (by omega) (fun k z t => tokW_short (by omega) (by omega) t) (bodyErr_errs (hb i hi)).2 w hw

theorem toksW_length (k z : Nat → Int) : ∀ n, (toksW k z n).length = n
  | 0 => rfl
  | n + 1 => by simp [toksW, toksW_length k z n]

theorem blk_len {nf : Nat} {par : Nat → Int} {locals : Int} : ∀ {d : Nat} {T : SL}, errs (stErr nf par locals) d T = 0 → (blkW d T).length ≤ 2 + 60 * size d T
  | 0, T, _ => by simp [blkW]
  | d + 1, T, h => by
    have key : ∀ n, n ≤ T.len → (catTo (fun i => stmtW (blkW d) (T.nd i) (T.sub i false) (T.sub i true)) n).length ≤ 60 * sumTo n (fun i => 1 + size d (T.sub i false) + size d (T.sub i true)) := by
      intro n
      induction n with
      | zero => intro _; simp [catTo]
      | succ n ih =>
        intro hn
        have ih := ih (by omega)
        obtain ⟨s0, s1, s2⟩ := errs_item h (i := n) (by omega)
        obtain ⟨f0, f1, f2, f3⟩ := stErr_zero s0
        obtain ⟨k1, k2, kn, ke, kf, ka, kb⟩ := formErr_zero f0
        have a1 := blk_len s1
        have a2 := blk_len s2
        have e1 : (T.nd n).ne ≤ 24 := by
          by_cases c : (T.nd n).kind = 4
          · omega
          · exact (exprErr_zero (f2.resolve_left c)).1
        have e2 : (T.nd n).nf ≤ 24 := by
          by_cases c : (T.nd n).kind = 2
          · exact (exprErr_zero (f3.resolve_left fun x => x c)).1
          · omega
        have hs : (stmtW (blkW d) (T.nd n) (T.sub n false) (T.sub n true)).length ≤ 60 * (1 + size d (T.sub n false) + size d (T.sub n true)) := by
          have q1 : (if (T.nd n).kind = 1 ∨ (T.nd n).kind = 2 then [numW (T.nd n).num] else ([] : List Wd)).length ≤ 1 := by split <;> simp
          have q2 : (if (T.nd n).kind = 6 ∨ (T.nd n).kind = 7 then blkW d (T.sub n false) else []).length ≤ (blkW d (T.sub n false)).length := by split <;> simp
          have q3 : (if (T.nd n).kind = 6 then blkW d (T.sub n true) else []).length ≤ (blkW d (T.sub n true)).length := by split <;> simp
          simp only [stmtW, List.length_append, List.length_cons, toksW_length]
          omega
        simp only [catTo, sumTo, List.length_append]
        omega
    have := key T.len (Nat.le_refl _)
    have e : (blkW (d + 1) T).length = 2 + (catTo (fun i => stmtW (blkW d) (T.nd i) (T.sub i false) (T.sub i true)) T.len).length := by
      rw [blkW]; simp; omega
    rw [e]
    show _ ≤ 2 + 60 * sumTo T.len (fun i => 1 + size d (T.sub i false) + size d (T.sub i true))
    omega

theorem catTo_len {f : Nat → List Wd} {c : Nat} : ∀ {n : Nat}, (∀ i, i < n → (f i).length ≤ c) → (catTo f n).length ≤ n * c
  | 0, _ => by simp [catTo]
  | n + 1, h => by
    have := catTo_len (n := n) fun i hi => h i (by omega)
    have := h n (by omega)
    simp only [catTo, List.length_append, Nat.succ_mul]
    omega

theorem fun_len {nf : Nat} {par loc : Nat → Int} {d : Nat} {body : Nat → SL} (h : progErr nf par loc d body = 0) : ∀ i, i < nf → (funWs d (par i) (loc i) (body i)).length ≤ 2000 := by
  obtain ⟨_, hn4, hh, hb⟩ := prog_zero h
  intro i hi
  obtain ⟨x, y⟩ := bodyErr_errs (hb i hi)
  have := blk_len y
  have := x.2
  simp only [funWs, List.length_append, List.length_cons, List.length_nil]
  omega

theorem prog_len {nf : Nat} {par loc : Nat → Int} {d : Nat} {body : Nat → SL} (h : progErr nf par loc d body = 0) : (progW nf par loc d body).length ≤ 8000 := by
  have := catTo_len (fun_len h)
  obtain ⟨_, hn4, _, _⟩ := prog_zero h
  unfold progW
  have : nf * 2000 ≤ 4 * 2000 := Nat.mul_le_mul_right _ hn4
  omega

theorem lens_short : ∀ {ws : List Wd}, (∀ w ∈ ws, shortW w) → Lib.lens (ws.map (·.data.toList)) ≤ ws.length * 30
  | [], _ => by simp [Lib.lens]
  | w :: ws, h => by
    have := lens_short fun x hx => h x (List.mem_cons_of_mem _ hx)
    have h1 : w.data.toList.length ≤ 30 := h w (by simp)
    simp only [Lib.lens, List.map_cons, List.sum_cons, List.length_cons, Nat.succ_mul] at this ⊢
    omega

theorem text_len {ws : List Wd} (h : ∀ w ∈ ws, shortW w) (hl : ws.length ≤ 8000) : (textL ws).length ≤ 1000000 := by
  cases ws with
  | nil => simp [textL, Lib.join_nil]
  | cons w ws =>
    unfold textL
    rw [List.map_cons, Lib.join_length]
    have := lens_short h
    simp only [List.map_cons, List.length_cons, List.length_map, List.length_nil] at *
    omega

end Go.Proofs.YtomfkfhipemlcabDoor
