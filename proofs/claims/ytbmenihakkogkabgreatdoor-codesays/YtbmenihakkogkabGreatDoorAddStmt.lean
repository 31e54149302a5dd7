import Derived.Test.YtbmenihakkogkabGreatDoorPart6
import Derived.Test.YtbmenihakkogkabGreatDoorPart2
namespace Go.Proofs.YtbmenihakkogkabGreatDoor
open Go.RowKit Go.Maps
theorem hasN_run (k : Int) (w : World) : Calls Tryz.prog 152 #[.int .i64 k] w fun e w' => e = .returned (.bool (decide (k = 1 ∨ k = 2))) ∧ w' = w := by
  by_cases h1 : k = 1
  · subst h1
    go_enter Tryz.func152, Tryz.ntmps152
    go_wp2
    go_ret
    exact ⟨rfl, rfl⟩
  · by_cases h2 : k = 2
    · subst h2
      go_enter Tryz.func152, Tryz.ntmps152
      go_wp2
      go_ret
      exact ⟨rfl, rfl⟩
    · have e1 : (k == 1) = false := by simp [h1]
      have e2 : (k == 2) = false := by simp [h2]
      have e3 : decide (k = 1 ∨ k = 2) = false := by simp [h1, h2]
      rw [e3]
      clear h1 h2
      go_enter Tryz.func152, Tryz.ntmps152
      go_wp2
      go_ret
      exact ⟨rfl, rfl⟩
theorem hasA_run (k : Int) (w : World) : Calls Tryz.prog 154 #[.int .i64 k] w fun e w' => e = .returned (.bool (decide (k = 6 ∨ k = 7))) ∧ w' = w := by
  by_cases h1 : k = 6
  · subst h1
    go_enter Tryz.func154, Tryz.ntmps154
    go_wp2
    go_ret
    exact ⟨rfl, rfl⟩
  · by_cases h2 : k = 7
    · subst h2
      go_enter Tryz.func154, Tryz.ntmps154
      go_wp2
      go_ret
      exact ⟨rfl, rfl⟩
    · have e1 : (k == 6) = false := by simp [h1]
      have e2 : (k == 7) = false := by simp [h2]
      have e3 : decide (k = 6 ∨ k = 7) = false := by simp [h1, h2]
      rw [e3]
      clear h1 h2
      go_enter Tryz.func154, Tryz.ntmps154
      go_wp2
      go_ret
      exact ⟨rfl, rfl⟩
theorem toks0 (a b : Option Addr) (n c m d : Nat) (w : World) : (Instr.index 208 (.agg #[.slice a n c, .slice b m d]) (.int .i64 0)).run Tryz.prog w = .ok (.slice a n c) w := by kernel_rfl
theorem toks1 (a b : Option Addr) (n c m d : Nat) (w : World) : (Instr.index 208 (.agg #[.slice a n c, .slice b m d]) (.int .i64 1)).run Tryz.prog w = .ok (.slice b m d) w := by kernel_rfl
theorem boxG {w w1 : World} {cs : Array Value} {t : TypeId} {v v' : Value} (hg : Grow (w.alloc (.cells cs t)) v w1 v') (hv : ∀ k, v.ownBlock = some k → k < w.heap.size) (i : Nat) {c : Value} (h : cs[i]? = some c) : w1.cell? ⟨w.heap.size, i, none⟩ = some c := by
  rw [World.cell?_of_block (w := w.alloc (.cells cs t)) (a := ⟨w.heap.size, i, none⟩) (hg.block w.heap.size (by simp) fun e => by have := hv _ e; omega), World.cell?_alloc_new]
  exact h
def BlockOK (N B nf : Nat) (par : Nat → Int) (locals : Int) (d : Nat) : Prop :=
  ∀ (v l : Value) (T : SL) (R : List Wd) (w : World), B ≤ w.heap.size → Env N w → StmtsAt N w d l T → errs (stErr nf par locals) d T = 0 → WS B w v R → R.length + (blkW d T).length ≤ 500000 →
    Calls Tryz.prog 39 #[v, l] w fun e w' => ∃ v', e = .returned v' ∧ Hid (WS B w' v' (R ++ blkW d T)) ∧ Hid (Grow w v w' v')
def nPart (s : Nd) : List Wd := if s.kind = 1 ∨ s.kind = 2 then [numW s.num] else []
def aPart (B : SL → List Wd) (s : Nd) (a : SL) : List Wd := if s.kind = 6 ∨ s.kind = 7 then B a else []
def bPart (B : SL → List Wd) (s : Nd) (b : SL) : List Wd := if s.kind = 6 then B b else []
def tN (s : Nd) (j : Nat) : Nat := if j = 0 then s.ne else s.nf
def tK (s : Nd) (j : Nat) : Nat → Int := if j = 0 then s.ek else s.fk
def tZ (s : Nd) (j : Nat) : Nat → Int := if j = 0 then s.ez else s.fz
def tPart (s : Nd) : Nat → List Wd
  | 0 => []
  | j + 1 => tPart s j ++ toksW (tK s j) (tZ s j) (tN s j)
theorem tPart_two (s : Nd) : tPart s 2 = toksW s.ek s.ez s.ne ++ toksW s.fk s.fz s.nf := by simp [tPart, tK, tZ, tN]
theorem toksW_len (k z : Nat → Int) : ∀ n, (toksW k z n).length = n
  | 0 => rfl
  | n + 1 => by simp [toksW, toksW_len k z n]
theorem tPart_len (s : Nd) {j : Nat} (hj : j < 2) : (tPart s j).length + tN s j ≤ s.ne + s.nf := by
  have : j = 0 ∨ j = 1 := by omega
  rcases this with rfl | rfl
  · show 0 + s.ne ≤ _; omega
  · show (tPart s 1).length + s.nf ≤ _
    simp [tPart, toksW_len, tN]
theorem tPart_len2 (s : Nd) : (tPart s 2).length = s.ne + s.nf := by
  rw [tPart_two]; simp [toksW_len]
theorem stmtW_all (B : SL → List Wd) (s : Nd) (a b : SL) : stmtW B s a b = ((([bs (stL s.kind.toNat)] ++ nPart s) ++ tPart s 2) ++ aPart B s a) ++ bPart B s b := by
  rw [tPart_two]
  simp [stmtW, nPart, aPart, bPart]
theorem lenParts {R : List Wd} {B : SL → List Wd} {s : Nd} {a b : SL} (h : R.length + (stmtW B s a b).length ≤ 500000) : Hid (R.length + 2 + s.ne + s.nf + (aPart B s a).length + (bPart B s b).length ≤ 500002) := by
  rw [stmtW_all, tPart_two] at h
  simp only [List.length_append, toksW_len, List.length_cons, List.length_nil] at h
  show _ ≤ _
  omega
structure StF (nf : Nat) (locals : Int) (s : Nd) (a b : SL) : Prop where
  k1 : 1 ≤ s.kind
  k8 : s.kind ≤ 8
  tok : ∀ j, j < 2 → ∀ i, i < tN s j → tokErr (tK s j i) (tZ s j i) nf locals = 0
  num : -9223372036854775808 ≤ s.num ∧ s.num ≤ 9223372036854775807
theorem stFacts {nf : Nat} {par : Nat → Int} {locals : Int} {s : Nd} {a b : SL} (hl : locals ≤ 6) (hs : stErr nf par locals s a.len b.len = 0) : StF nf locals s a b := by
  obtain ⟨f0, f1, f2, f3⟩ := stErr_zero hs
  obtain ⟨k1, k2, kn, ke, kf, ka, kb⟩ := formErr_zero f0
  refine ⟨k1, k2, fun j hj i hi => ?_, ?_⟩
  · have : j = 0 ∨ j = 1 := by omega
    rcases this with rfl | rfl
    · have hi : i < s.ne := hi
      exact expr_toks (f2.resolve_left fun c => by omega) i hi
    · have hi : i < s.nf := hi
      exact expr_toks (f3.resolve_left fun c => by omega) i hi
  · unfold numErr at f1
    split at f1
    · cases f1
    · omega
theorem toksBoth {N : Nat} {w : World} {s : Nd} {xe xf : Option Addr} {ce cf : Nat} (t1 : ToksAt N w (.slice xe s.ne ce) s.ne s.ek s.ez) (t2 : ToksAt N w (.slice xf s.nf cf) s.nf s.fk s.fz) :
    Hid (∀ j, j < 2 → ∃ xj cj, ToksAt N w (.slice xj (tN s j) cj) (tN s j) (tK s j) (tZ s j) ∧ ∀ w : World, (Instr.index 208 (.agg #[.slice xe s.ne ce, .slice xf s.nf cf]) (.int .i64 (j : Int))).run Tryz.prog w = .ok (.slice xj (tN s j) cj) w) := by
  intro j hj
  have : j = 0 ∨ j = 1 := by omega
  rcases this with rfl | rfl
  · exact ⟨xe, ce, t1, fun w => toks0 _ _ _ _ _ _ w⟩
  · exact ⟨xf, cf, t2, fun w => toks1 _ _ _ _ _ _ w⟩
theorem aCall {N B nf : Nat} {par : Nat → Int} {locals : Int} {d : Nat} {va : Value} {a : SL} {w : World} (HB : Hid (BlockOK N B nf par locals d)) (s1 : StmtsAt N w d va a) (ea : errs (stErr nf par locals) d a = 0) (hNB : N ≤ B) (hB : B ≤ w.heap.size) (he : Env N w) :
    Hid (∀ w1 v1 R1, Below B w w1 → WS B w1 v1 R1 → R1.length + (blkW d a).length ≤ 500000 → Calls Tryz.prog 39 #[v1, va] w1 fun e w' => ∃ v', e = .returned v' ∧ Hid (WS B w' v' (R1 ++ blkW d a)) ∧ Hid (Grow w1 v1 w' v')) :=
  fun w1 v1 R1 hb hw hl => HB.out v1 va a R1 w1 (Nat.le_trans hB hb.size) (he.below (hb.mono hNB)) (s1.below (hb.mono hNB)) ea hw hl
theorem boxAll {B : Nat} {w : World} {K : Nat} {z : Int} {xe xf xa xb v : Value} {R : List Wd} (hB : B ≤ w.heap.size) (hw : WS B w v R) :
    Hid (∀ w1 v1, Grow (w.alloc (.cells #[.int .i64 (K : Int), .int .i64 z, xe, xf, xa, xb] 82)) v w1 v1 → w1.cell? ⟨w.heap.size, 0, none⟩ = some (.int .i64 (K : Int)) ∧ w1.cell? ⟨w.heap.size, 1, none⟩ = some (.int .i64 z) ∧ w1.cell? ⟨w.heap.size, 2, none⟩ = some xe ∧ w1.cell? ⟨w.heap.size, 3, none⟩ = some xf ∧ w1.cell? ⟨w.heap.size, 4, none⟩ = some xa ∧ w1.cell? ⟨w.heap.size, 5, none⟩ = some xb ∧ Below B w w1 ∧ Grow w v w1 v1) := fun _ _ hg =>
  have hal := bal w (.cells #[.int .i64 (K : Int), .int .i64 z, xe, xf, xa, xb] 82)
  ⟨boxG hg hw.lt 0 rfl, boxG hg hw.lt 1 rfl, boxG hg hw.lt 2 rfl, boxG hg hw.lt 3 rfl, boxG hg hw.lt 4 rfl, boxG hg hw.lt 5 rfl, (hal.mono hB).trans (hg.low hw.low (Nat.le_trans hB hal.size)), (Grow.of v hal).trans hg⟩
theorem append_strL {ops : Array Oper} {rest : List Oper} {o : Oper} {a : Act} {Q : Exit → Act → World → Prop} (w : World) (hgd : o.guard = none) (s y : Operand)
    (ho : o.op = .call { callee := .builtin .append, args := #[s, y], argTypes := #[69, 69] }) (base : Nat) (v : Value) (R : List Wd) (x : Wd) (hs : a.eval s = v) (hown : WS base w v R)
    (t : TypeId) (B : Nat) (hB : w.heap.size = B) (hy : a.eval y = .slice (some ⟨B, 0, none⟩) 1 1) (hR : R.length + 1 ≤ 1000000) (hbase : base ≤ w.heap.size)
    (h : ∀ v' w2 (R' : List Wd), Hid (R' = R ++ [x]) → Hid (R'.length = R.length + 1) → WS base w2 v' R' → Grow w v w2 v' → wpList Tryz.prog ops Q rest (a.put o.dst v') w2) :
    wpList Tryz.prog ops Q (o :: rest) a (w.alloc (.cells #[.string x] t)) :=
  append_str w hgd s y ho base v R x hs hown t B hB hy hR hbase fun v' w2 h1 h2 => h v' w2 _ (show _ = _ from rfl) (show _ = _ by simp) h1 h2
set_option maxHeartbeats 4000000 in
theorem addStmt_num (N B nf : Nat) (par : Nat → Int) (locals : Int) (hl : locals ≤ 6) (hnf : nf ≤ 1000) (d : Nat) (hNB : N ≤ B) (HB : Hid (BlockOK N B nf par locals d)) (v : Value) (s : Nd) (ve vf va vb : Value) (a b : SL) (R : List Wd) (w : World)
    (hB : B ≤ w.heap.size) (he : Env N w) (t1 : ToksAt N w ve s.ne s.ek s.ez) (t2 : ToksAt N w vf s.nf s.fk s.fz) (s1 : StmtsAt N w d va a) (s2 : StmtsAt N w d vb b) (hs : stErr nf par locals s a.len b.len = 0)
    (ea : errs (stErr nf par locals) d a = 0) (eb : errs (stErr nf par locals) d b = 0) (hw : WS B w v R) (hlen : R.length + (stmtW (blkW d) s a b).length ≤ 500000) (K : Nat) (hK : s.kind = K) (hN : K = 1 ∨ K = 2) :
    Calls Tryz.prog 104 #[v, .agg #[.int .i64 K, .int .i64 s.num, ve, vf, va, vb]] w fun e w' => ∃ v', e = .returned v' ∧ Hid (WS B w' v' (R ++ stmtW (blkW d) s a b)) ∧ Hid (Grow w v w' v') := by
  have F := stFacts (a := a) (b := b) hl hs
  obtain ⟨xe, ce, rfl, hne⟩ := t1.shape
  obtain ⟨xf, cf, rfl, hnf2⟩ := t2.shape
  obtain ⟨xa, ca, rfl, _⟩ := s1.shape
  obtain ⟨xb, cb, rfl, _⟩ := s2.shape
  have hk1 := F.k1
  have hk8 := F.k8
  have hk9 : K < 9 := by omega
  have hk0 : (0 : Int) ≤ (K : Int) := by omega
  have hk9i : (K : Int) < 9 := by omega
  have HX := toksBoth t1 t2
  have HTok : Hid (∀ j, j < 2 → ∀ i, i < tN s j → tokErr (tK s j i) (tZ s j i) nf locals = 0) := F.tok
  have HA := aCall (va := .slice xa a.len ca) HB s1 ea hNB hB he
  have HBB := aCall (va := .slice xb b.len cb) HB s2 eb hNB hB he
  have HLen := lenParts hlen
  have hlen0 : Hid (R.length + (stmtW (blkW d) s a b).length ≤ 500000) := hlen
  have HE : Hid (Env N w) := he
  have HTot : Hid (stmtW (blkW d) s a b = ((([bs (stL K)] ++ [numW s.num]) ++ tPart s 2) ++ aPart (blkW d) s a) ++ bPart (blkW d) s b) := by
    show _ = _
    rw [stmtW_all]
    unfold nPart
    rw [hK]
    rw [if_pos (by omega)]; rfl
  have hnz : -9223372036854775808 ≤ s.num ∧ s.num ≤ 9223372036854775807 := F.num
  have HN : Hid (∀ w, Calls Tryz.prog 152 #[.int .i64 (K : Int)] w fun e w' => e = .returned (.bool true) ∧ w' = w) := fun w => by
    have h := hasN_run K w
    rw [show decide ((K : Int) = 1 ∨ (K : Int) = 2) = true by simp; omega] at h
    exact h
  have hwal := hw.keep (bal w (.cells #[.int .i64 (K : Int), .int .i64 s.num, .slice xe s.ne ce, .slice xf s.nf cf, .slice xa a.len ca, .slice xb b.len cb] 82))
  have HBox := boxAll (K := K) (z := s.num) (xe := .slice xe s.ne ce) (xf := .slice xf s.nf cf) (xa := .slice xa a.len ca) (xb := .slice xb b.len cb) hB hw
  have hBal : B ≤ (w.alloc (.cells #[.int .i64 (K : Int), .int .i64 s.num, .slice xe s.ne ce, .slice xf s.nf cf, .slice xa a.len ca, .slice xb b.len cb] 82)).heap.size := Nat.le_trans hB (bal w _).size
  have hq := (he.below ((bal w (.cells #[.int .i64 (K : Int), .int .i64 s.num, .slice xe s.ne ce, .slice xf s.nf cf, .slice xa a.len ca, .slice xb b.len cb] 82)).mono (Nat.le_trans hNB hB))).st K hk9
  obtain ⟨c0, c1, c2, c3, c4, c5, hb0, _⟩ := HBox.out _ _ (Grow.refl _ _)
  have G0 := Grow.refl (w.alloc (.cells #[.int .i64 (K : Int), .int .i64 s.num, .slice xe s.ne ce, .slice xf s.nf cf, .slice xa a.len ca, .slice xb b.len cb] 82)) v
  clear F he t1 t2 s1 s2 ea eb hw hs hlen HB hb0
  go_enter Tryz.func104, Tryz.ntmps104
  go_upto_region 1 with (fail)
  generalize w.alloc (.cells #[.int .i64 (K : Int), .int .i64 s.num, .slice xe s.ne ce, .slice xf s.nf cf, .slice xa a.len ca, .slice xb b.len cb] 82) = W0 at *
  have HW0 : Hid (WS B W0 v R) := hwal
  have HG0 : Hid (Grow W0 v W0 v) := G0
  clear hwal G0
  go_upto_region 2 with (first
    | (at_builtin; refine append_strL W0 rfl _ _ rfl B v R _ rfl HW0.out _ _ rfl rfl (by have := HLen.out; omega) hBal ?_; intro v1 w1 R1 eR1 lR1 hW1 hG1))
  have hR1l := lR1.out
  have HW1 : Hid (WS B w1 v1 R1) := hW1
  have HG1 : Hid (Grow W0 v w1 v1) := hG1
  have HR1 : Hid (R1 = R ++ [bs (stL K)]) := eR1
  have hs1 : W0.heap.size ≤ w1.heap.size := hG1.size
  clear c0 c1 c2 c3 c4 c5 hq hW1 eR1
  obtain ⟨c0, c1, c2, c3, c4, c5, hb1, _⟩ := HBox.out _ _ hG1
  clear hG1
  have hE1 : Env N w1 := HE.out.below (hb1.mono hNB)
  have HE1 : Hid (Env N w1) := hE1
  clear hE1
  go_upto_region 4 with (first
    | (go_at_call 152; refine (HN.out _).mono ?_; rintro e w2 ⟨rfl, h2⟩; rw [h2]; clear h2)
    | (go_at_call 38; refine (itoa N s.num hnz.1 hnz.2 w1 HE1.out).mono ?_; rintro e w2 ⟨rfl, b2⟩)
    | (at_builtin; refine append_strL w2 rfl _ _ rfl B v1 R1 _ rfl (HW1.out.keep b2) _ _ rfl rfl (by have := HLen.out; omega) (Nat.le_trans hBal (Nat.le_trans hs1 b2.size)) ?_; intro v2 w3 R2 eR2' lR2 hW2 hG2'))
  have hG2 : Grow W0 v w3 v2 := HG1.out.trans ((Grow.of v1 b2).trans hG2')
  have eR2 : R2 = R ++ ([bs (stL K)] ++ [numW s.num]) := by rw [eR2'.out, HR1.out]; simp
  have hR2len : R2.length ≤ R.length + 2 := by rw [lR2.out, lR1.out]; omega
  clear c0 c1 c2 c3 c4 c5
  have HW2 : Hid (WS B w3 v2 R2) := hW2
  have HG2 : Hid (Grow W0 v w3 v2) := hG2
  have hR2l : R2.length ≤ R.length + 2 := hR2len
  have HR2 : Hid (R2 = R ++ ([bs (stL K)] ++ [numW s.num])) := eR2
  clear hW2 hG2 eR2 hR2len
  obtain ⟨c0, c1, c2, c3, c4, c5, hb3, _⟩ := HBox.out _ _ HG2.out
  clear hb3
  go_upto_region 5 with (fail)
  clear c0 c1 c2 c3 c4 c5
  go_loopw [0, 30] (fun q i wr => ∃ (j : Nat) (R3 : List Wd), j ≤ 2 ∧ i = .int .i64 j ∧ Hid (WS B wr q R3) ∧ Hid (R3 = R2 ++ tPart s j) ∧ Hid (Grow W0 v wr q)) (fun _ i _ => 2 - (intOf i).toNat)
  case atStart => exact ⟨0, R2, by omega, rfl, HW2, (List.append_nil _).symm, HG2⟩
  case round =>
    obtain ⟨j, R3, hj2, rfl, HW3, HR3, HG3⟩ := hrel
    by_cases hj : j < 2
    · obtain ⟨xj, cj, tj, hidx⟩ := HX.out j hj
      have hjlt : (j : Int) < 2 := by omega
      have HT := HTok.out j hj
      have HT2 : Hid (∀ i, i < tN s j → tokErr (tK s j i) (tZ s j i) nf locals = 0) := HT
      have Htj : Hid (ToksAt N w (.slice xj (tN s j) cj) (tN s j) (tK s j) (tZ s j)) := tj
      have hn := tj.shape
      clear tj HT
      go_wp2_with fail
      go_loopw [0, 35] (fun q4 i4 wi => ∃ (x : Nat) (R4 : List Wd), x ≤ tN s j ∧ i4 = .int .i64 x ∧ Hid (WS B wi q4 R4) ∧ Hid (R4 = R3 ++ toksW (tK s j) (tZ s j) x) ∧ Hid (Grow W0 v wi q4)) (fun _ i _ => tN s j - (intOf i).toNat)
      case atStart => exact ⟨0, R3, by omega, rfl, HW3, (List.append_nil _).symm, HG3⟩
      case round =>
        obtain ⟨x, R4, hx0, rfl, HW4, HR4, HG4⟩ := hrel
        by_cases hx : x < tN s j
        · obtain ⟨_, _, _, _, _, _, hbw, _⟩ := HBox.out _ _ HG4.out
          obtain ⟨_, _, e1, hn9, h | ⟨bt, ot, rfl, hbt, hct⟩⟩ := Htj.out.below (hbw.mono hNB)
          · omega
          cases e1
          obtain ⟨q0, q1⟩ := hct x hx
          have hxi : (x : Int) < (tN s j : Int) := by omega
          have HEi : Hid (Env N wr) := HE.out.below (hbw.mono hNB)
          have hNi : N ≤ wr.heap.size := Nat.le_trans hNB (Nat.le_trans hB hbw.size)
          have HCT : Hid (∀ i, i < tN s j → wr.cell? ⟨bt, ot + i * 2, none⟩ = some (.int .i64 (tK s j i)) ∧ wr.cell? ⟨bt, ot + i * 2 + 1, none⟩ = some (.int .i64 (tZ s j i))) := hct
          have hBi : B ≤ wr.heap.size := Nat.le_trans hB hbw.size
          clear hct hbw
          go_wp2_with (first
            | (go_at_call 153; refine (tokWord N (tK s j x) (tZ s j x) nf locals hl hnf (HT2.out x hx) _ (HEi.out.below ((bal _ _).mono hNi)) (Nat.le_trans hNi (bal _ _).size)).mono ?_; rintro e w5 ⟨rfl, b5⟩; have b6 : Below wr.heap.size wr w5 := bst (bal _ _) b5)
            | (at_builtin; refine append_strL w5 rfl _ _ rfl B u0 R4 _ rfl (HW4.out.keep b6) _ _ rfl rfl (by have := tPart_len s hj; have := HLen.out; rw [HR4.out, HR3.out]; simp only [List.length_append, toksW_len]; omega) (Nat.le_trans hBi b6.size) ?_; intro v5 w6 R5 eR5 lR5 hW5 hG5))
          go_roundw
          case rel => exact ⟨x + 1, R5, by omega, by go_num, hW5, (by show R5 = _; rw [eR5.out, HR4.out, toksW, List.append_assoc]), HG4.out.trans ((Grow.of u0 b6).trans hG5)⟩
          case measure => simp [intOf]; omega
        · obtain rfl : x = tN s j := by omega
          go_wp2_with fail
          go_roundw
          case rel => exact ⟨j + 1, R4, by omega, by go_num, HW4, (by show R4 = _; rw [HR4.out, HR3.out, tPart, List.append_assoc]), HG4⟩
          case measure => simp [intOf]; omega
    · obtain rfl : j = 2 := by omega
      obtain ⟨c0, c1, c2, c3, c4, c5, hb3, hgw⟩ := HBox.out _ _ HG3.out
      have HGW : Hid (Grow w v wr u0) := hgw
      have HBW : Hid (Below B w wr) := hb3
      have HL3 : Hid (R3.length ≤ R.length + 2 + s.ne + s.nf) := by
        show _ ≤ _
        have := tPart_len2 s
        rw [HR3.out]
        simp only [List.length_append]
        omega
      clear hgw hb3
      have HAb : Hid (∀ w, Calls Tryz.prog 154 #[.int .i64 (K : Int)] w fun e w' => e = .returned (.bool false) ∧ w' = w) := fun w => by
        have h := hasA_run K w
        rw [show decide ((K : Int) = 6 ∨ (K : Int) = 7) = false by simp; omega] at h
        exact h
      have h6 : ((K : Int) == 6) = false := by rw [beq_eq_false_iff_ne]; omega
      have HAP : Hid (aPart (blkW d) s a = []) := by
        show aPart _ _ _ = _
        unfold aPart
        rw [if_neg (by omega)]
      have HBP : Hid (bPart (blkW d) s b = []) := by
        show bPart _ _ _ = _
        unfold bPart
        rw [if_neg (by omega)]
      go_wp2_with (first
        | (go_at_call 154; refine (HAb.out _).mono ?_; rintro e w2 ⟨rfl, h2⟩; rw [h2]; clear h2))
      go_ret
      refine ⟨_, rfl, ?_, HGW⟩
      show WS _ _ _ _
      rw [HTot.out, HAP.out, HBP.out, List.append_nil, List.append_nil, ← List.append_assoc, ← HR2.out, ← HR3.out]
      exact HW3.out
set_option maxHeartbeats 4000000 in
theorem addStmt_plain (N B nf : Nat) (par : Nat → Int) (locals : Int) (hl : locals ≤ 6) (hnf : nf ≤ 1000) (d : Nat) (hNB : N ≤ B) (HB : Hid (BlockOK N B nf par locals d)) (v : Value) (s : Nd) (ve vf va vb : Value) (a b : SL) (R : List Wd) (w : World)
    (hB : B ≤ w.heap.size) (he : Env N w) (t1 : ToksAt N w ve s.ne s.ek s.ez) (t2 : ToksAt N w vf s.nf s.fk s.fz) (s1 : StmtsAt N w d va a) (s2 : StmtsAt N w d vb b) (hs : stErr nf par locals s a.len b.len = 0)
    (ea : errs (stErr nf par locals) d a = 0) (eb : errs (stErr nf par locals) d b = 0) (hw : WS B w v R) (hlen : R.length + (stmtW (blkW d) s a b).length ≤ 500000) (K : Nat) (hK : s.kind = K) (hN : K = 3 ∨ K = 4 ∨ K = 5 ∨ K = 8) :
    Calls Tryz.prog 104 #[v, .agg #[.int .i64 K, .int .i64 s.num, ve, vf, va, vb]] w fun e w' => ∃ v', e = .returned v' ∧ Hid (WS B w' v' (R ++ stmtW (blkW d) s a b)) ∧ Hid (Grow w v w' v') := by
  have F := stFacts (a := a) (b := b) hl hs
  obtain ⟨xe, ce, rfl, hne⟩ := t1.shape
  obtain ⟨xf, cf, rfl, hnf2⟩ := t2.shape
  obtain ⟨xa, ca, rfl, _⟩ := s1.shape
  obtain ⟨xb, cb, rfl, _⟩ := s2.shape
  have hk1 := F.k1
  have hk8 := F.k8
  have hk9 : K < 9 := by omega
  have hk0 : (0 : Int) ≤ (K : Int) := by omega
  have hk9i : (K : Int) < 9 := by omega
  have HX := toksBoth t1 t2
  have HTok : Hid (∀ j, j < 2 → ∀ i, i < tN s j → tokErr (tK s j i) (tZ s j i) nf locals = 0) := F.tok
  have HA := aCall (va := .slice xa a.len ca) HB s1 ea hNB hB he
  have HBB := aCall (va := .slice xb b.len cb) HB s2 eb hNB hB he
  have HLen := lenParts hlen
  have hlen0 : Hid (R.length + (stmtW (blkW d) s a b).length ≤ 500000) := hlen
  have HE : Hid (Env N w) := he
  have HTot : Hid (stmtW (blkW d) s a b = ((([bs (stL K)] ++ []) ++ tPart s 2) ++ aPart (blkW d) s a) ++ bPart (blkW d) s b) := by
    show _ = _
    rw [stmtW_all]
    unfold nPart
    rw [hK]
    rw [if_neg (by omega)]; rfl
  have hnz : -9223372036854775808 ≤ s.num ∧ s.num ≤ 9223372036854775807 := F.num
  have HN : Hid (∀ w, Calls Tryz.prog 152 #[.int .i64 (K : Int)] w fun e w' => e = .returned (.bool false) ∧ w' = w) := fun w => by
    have h := hasN_run K w
    rw [show decide ((K : Int) = 1 ∨ (K : Int) = 2) = false by simp; omega] at h
    exact h
  have hwal := hw.keep (bal w (.cells #[.int .i64 (K : Int), .int .i64 s.num, .slice xe s.ne ce, .slice xf s.nf cf, .slice xa a.len ca, .slice xb b.len cb] 82))
  have HBox := boxAll (K := K) (z := s.num) (xe := .slice xe s.ne ce) (xf := .slice xf s.nf cf) (xa := .slice xa a.len ca) (xb := .slice xb b.len cb) hB hw
  have hBal : B ≤ (w.alloc (.cells #[.int .i64 (K : Int), .int .i64 s.num, .slice xe s.ne ce, .slice xf s.nf cf, .slice xa a.len ca, .slice xb b.len cb] 82)).heap.size := Nat.le_trans hB (bal w _).size
  have hq := (he.below ((bal w (.cells #[.int .i64 (K : Int), .int .i64 s.num, .slice xe s.ne ce, .slice xf s.nf cf, .slice xa a.len ca, .slice xb b.len cb] 82)).mono (Nat.le_trans hNB hB))).st K hk9
  obtain ⟨c0, c1, c2, c3, c4, c5, hb0, _⟩ := HBox.out _ _ (Grow.refl _ _)
  have G0 := Grow.refl (w.alloc (.cells #[.int .i64 (K : Int), .int .i64 s.num, .slice xe s.ne ce, .slice xf s.nf cf, .slice xa a.len ca, .slice xb b.len cb] 82)) v
  clear F he t1 t2 s1 s2 ea eb hw hs hlen HB hb0
  go_enter Tryz.func104, Tryz.ntmps104
  go_upto_region 1 with (fail)
  generalize w.alloc (.cells #[.int .i64 (K : Int), .int .i64 s.num, .slice xe s.ne ce, .slice xf s.nf cf, .slice xa a.len ca, .slice xb b.len cb] 82) = W0 at *
  have HW0 : Hid (WS B W0 v R) := hwal
  have HG0 : Hid (Grow W0 v W0 v) := G0
  clear hwal G0
  go_upto_region 2 with (first
    | (at_builtin; refine append_strL W0 rfl _ _ rfl B v R _ rfl HW0.out _ _ rfl rfl (by have := HLen.out; omega) hBal ?_; intro v1 w1 R1 eR1 lR1 hW1 hG1))
  have hR1l := lR1.out
  have HW1 : Hid (WS B w1 v1 R1) := hW1
  have HG1 : Hid (Grow W0 v w1 v1) := hG1
  have HR1 : Hid (R1 = R ++ [bs (stL K)]) := eR1
  have hs1 : W0.heap.size ≤ w1.heap.size := hG1.size
  clear c0 c1 c2 c3 c4 c5 hq hW1 eR1
  obtain ⟨c0, c1, c2, c3, c4, c5, hb1, _⟩ := HBox.out _ _ hG1
  clear hG1
  have HE1 : Hid (Env N w1) := HE.out.below (hb1.mono hNB)
  go_upto_region 4 with (first
    | (go_at_call 152; refine (HN.out _).mono ?_; rintro e w2 ⟨rfl, h2⟩; rw [h2]; clear h2))
  have hG2 := HG1.out
  have hW2 := HW1.out
  have eR2 : R1 = R ++ ([bs (stL K)] ++ []) := by rw [HR1.out]; rfl
  have hR2len : R1.length ≤ R.length + 2 := by rw [lR1.out]; omega
  generalize v1 = v2 at *
  generalize R1 = R2 at *
  generalize w1 = w3 at *
  clear c0 c1 c2 c3 c4 c5
  have HW2 : Hid (WS B w3 v2 R2) := hW2
  have HG2 : Hid (Grow W0 v w3 v2) := hG2
  have hR2l : R2.length ≤ R.length + 2 := hR2len
  have HR2 : Hid (R2 = R ++ ([bs (stL K)] ++ [])) := eR2
  clear hW2 hG2 eR2 hR2len
  obtain ⟨c0, c1, c2, c3, c4, c5, hb3, _⟩ := HBox.out _ _ HG2.out
  clear hb3
  go_upto_region 5 with (fail)
  clear c0 c1 c2 c3 c4 c5
  go_loopw [0, 30] (fun q i wr => ∃ (j : Nat) (R3 : List Wd), j ≤ 2 ∧ i = .int .i64 j ∧ Hid (WS B wr q R3) ∧ Hid (R3 = R2 ++ tPart s j) ∧ Hid (Grow W0 v wr q)) (fun _ i _ => 2 - (intOf i).toNat)
  case atStart => exact ⟨0, R2, by omega, rfl, HW2, (List.append_nil _).symm, HG2⟩
  case round =>
    obtain ⟨j, R3, hj2, rfl, HW3, HR3, HG3⟩ := hrel
    by_cases hj : j < 2
    · obtain ⟨xj, cj, tj, hidx⟩ := HX.out j hj
      have hjlt : (j : Int) < 2 := by omega
      have HT := HTok.out j hj
      have HT2 : Hid (∀ i, i < tN s j → tokErr (tK s j i) (tZ s j i) nf locals = 0) := HT
      have Htj : Hid (ToksAt N w (.slice xj (tN s j) cj) (tN s j) (tK s j) (tZ s j)) := tj
      have hn := tj.shape
      clear tj HT
      go_wp2_with fail
      go_loopw [0, 35] (fun q4 i4 wi => ∃ (x : Nat) (R4 : List Wd), x ≤ tN s j ∧ i4 = .int .i64 x ∧ Hid (WS B wi q4 R4) ∧ Hid (R4 = R3 ++ toksW (tK s j) (tZ s j) x) ∧ Hid (Grow W0 v wi q4)) (fun _ i _ => tN s j - (intOf i).toNat)
      case atStart => exact ⟨0, R3, by omega, rfl, HW3, (List.append_nil _).symm, HG3⟩
      case round =>
        obtain ⟨x, R4, hx0, rfl, HW4, HR4, HG4⟩ := hrel
        by_cases hx : x < tN s j
        · obtain ⟨_, _, _, _, _, _, hbw, _⟩ := HBox.out _ _ HG4.out
          obtain ⟨_, _, e1, hn9, h | ⟨bt, ot, rfl, hbt, hct⟩⟩ := Htj.out.below (hbw.mono hNB)
          · omega
          cases e1
          obtain ⟨q0, q1⟩ := hct x hx
          have hxi : (x : Int) < (tN s j : Int) := by omega
          have HEi : Hid (Env N wr) := HE.out.below (hbw.mono hNB)
          have hNi : N ≤ wr.heap.size := Nat.le_trans hNB (Nat.le_trans hB hbw.size)
          have HCT : Hid (∀ i, i < tN s j → wr.cell? ⟨bt, ot + i * 2, none⟩ = some (.int .i64 (tK s j i)) ∧ wr.cell? ⟨bt, ot + i * 2 + 1, none⟩ = some (.int .i64 (tZ s j i))) := hct
          have hBi : B ≤ wr.heap.size := Nat.le_trans hB hbw.size
          clear hct hbw
          go_wp2_with (first
            | (go_at_call 153; refine (tokWord N (tK s j x) (tZ s j x) nf locals hl hnf (HT2.out x hx) _ (HEi.out.below ((bal _ _).mono hNi)) (Nat.le_trans hNi (bal _ _).size)).mono ?_; rintro e w5 ⟨rfl, b5⟩; have b6 : Below wr.heap.size wr w5 := bst (bal _ _) b5)
            | (at_builtin; refine append_strL w5 rfl _ _ rfl B u0 R4 _ rfl (HW4.out.keep b6) _ _ rfl rfl (by have := tPart_len s hj; have := HLen.out; rw [HR4.out, HR3.out]; simp only [List.length_append, toksW_len]; omega) (Nat.le_trans hBi b6.size) ?_; intro v5 w6 R5 eR5 lR5 hW5 hG5))
          go_roundw
          case rel => exact ⟨x + 1, R5, by omega, by go_num, hW5, (by show R5 = _; rw [eR5.out, HR4.out, toksW, List.append_assoc]), HG4.out.trans ((Grow.of u0 b6).trans hG5)⟩
          case measure => simp [intOf]; omega
        · obtain rfl : x = tN s j := by omega
          go_wp2_with fail
          go_roundw
          case rel => exact ⟨j + 1, R4, by omega, by go_num, HW4, (by show R4 = _; rw [HR4.out, HR3.out, tPart, List.append_assoc]), HG4⟩
          case measure => simp [intOf]; omega
    · obtain rfl : j = 2 := by omega
      obtain ⟨c0, c1, c2, c3, c4, c5, hb3, hgw⟩ := HBox.out _ _ HG3.out
      have HGW : Hid (Grow w v wr u0) := hgw
      have HBW : Hid (Below B w wr) := hb3
      have HL3 : Hid (R3.length ≤ R.length + 2 + s.ne + s.nf) := by
        show _ ≤ _
        have := tPart_len2 s
        rw [HR3.out]
        simp only [List.length_append]
        omega
      clear hgw hb3
      have HAb : Hid (∀ w, Calls Tryz.prog 154 #[.int .i64 (K : Int)] w fun e w' => e = .returned (.bool false) ∧ w' = w) := fun w => by
        have h := hasA_run K w
        rw [show decide ((K : Int) = 6 ∨ (K : Int) = 7) = false by simp; omega] at h
        exact h
      have h6 : ((K : Int) == 6) = false := by rw [beq_eq_false_iff_ne]; omega
      have HAP : Hid (aPart (blkW d) s a = []) := by
        show aPart _ _ _ = _
        unfold aPart
        rw [if_neg (by omega)]
      have HBP : Hid (bPart (blkW d) s b = []) := by
        show bPart _ _ _ = _
        unfold bPart
        rw [if_neg (by omega)]
      go_wp2_with (first
        | (go_at_call 154; refine (HAb.out _).mono ?_; rintro e w2 ⟨rfl, h2⟩; rw [h2]; clear h2))
      go_ret
      refine ⟨_, rfl, ?_, HGW⟩
      show WS _ _ _ _
      rw [HTot.out, HAP.out, HBP.out, List.append_nil, List.append_nil, ← List.append_assoc, ← HR2.out, ← HR3.out]
      exact HW3.out
set_option maxHeartbeats 4000000 in
theorem addStmt_while (N B nf : Nat) (par : Nat → Int) (locals : Int) (hl : locals ≤ 6) (hnf : nf ≤ 1000) (d : Nat) (hNB : N ≤ B) (HB : Hid (BlockOK N B nf par locals d)) (v : Value) (s : Nd) (ve vf va vb : Value) (a b : SL) (R : List Wd) (w : World)
    (hB : B ≤ w.heap.size) (he : Env N w) (t1 : ToksAt N w ve s.ne s.ek s.ez) (t2 : ToksAt N w vf s.nf s.fk s.fz) (s1 : StmtsAt N w d va a) (s2 : StmtsAt N w d vb b) (hs : stErr nf par locals s a.len b.len = 0)
    (ea : errs (stErr nf par locals) d a = 0) (eb : errs (stErr nf par locals) d b = 0) (hw : WS B w v R) (hlen : R.length + (stmtW (blkW d) s a b).length ≤ 500000) (K : Nat) (hK : s.kind = K) (hN : 6 < K ∧ K < 8) :
    Calls Tryz.prog 104 #[v, .agg #[.int .i64 K, .int .i64 s.num, ve, vf, va, vb]] w fun e w' => ∃ v', e = .returned v' ∧ Hid (WS B w' v' (R ++ stmtW (blkW d) s a b)) ∧ Hid (Grow w v w' v') := by
  have F := stFacts (a := a) (b := b) hl hs
  obtain ⟨xe, ce, rfl, hne⟩ := t1.shape
  obtain ⟨xf, cf, rfl, hnf2⟩ := t2.shape
  obtain ⟨xa, ca, rfl, _⟩ := s1.shape
  obtain ⟨xb, cb, rfl, _⟩ := s2.shape
  have hk1 := F.k1
  have hk8 := F.k8
  have hk9 : K < 9 := by omega
  have hk0 : (0 : Int) ≤ (K : Int) := by omega
  have hk9i : (K : Int) < 9 := by omega
  have HX := toksBoth t1 t2
  have HTok : Hid (∀ j, j < 2 → ∀ i, i < tN s j → tokErr (tK s j i) (tZ s j i) nf locals = 0) := F.tok
  have HA := aCall (va := .slice xa a.len ca) HB s1 ea hNB hB he
  have HBB := aCall (va := .slice xb b.len cb) HB s2 eb hNB hB he
  have HLen := lenParts hlen
  have hlen0 : Hid (R.length + (stmtW (blkW d) s a b).length ≤ 500000) := hlen
  have HE : Hid (Env N w) := he
  have HTot : Hid (stmtW (blkW d) s a b = ((([bs (stL K)] ++ []) ++ tPart s 2) ++ aPart (blkW d) s a) ++ bPart (blkW d) s b) := by
    show _ = _
    rw [stmtW_all]
    unfold nPart
    rw [hK]
    rw [if_neg (by omega)]; rfl
  have hnz : -9223372036854775808 ≤ s.num ∧ s.num ≤ 9223372036854775807 := F.num
  have HN : Hid (∀ w, Calls Tryz.prog 152 #[.int .i64 (K : Int)] w fun e w' => e = .returned (.bool false) ∧ w' = w) := fun w => by
    have h := hasN_run K w
    rw [show decide ((K : Int) = 1 ∨ (K : Int) = 2) = false by simp; omega] at h
    exact h
  have hwal := hw.keep (bal w (.cells #[.int .i64 (K : Int), .int .i64 s.num, .slice xe s.ne ce, .slice xf s.nf cf, .slice xa a.len ca, .slice xb b.len cb] 82))
  have HBox := boxAll (K := K) (z := s.num) (xe := .slice xe s.ne ce) (xf := .slice xf s.nf cf) (xa := .slice xa a.len ca) (xb := .slice xb b.len cb) hB hw
  have hBal : B ≤ (w.alloc (.cells #[.int .i64 (K : Int), .int .i64 s.num, .slice xe s.ne ce, .slice xf s.nf cf, .slice xa a.len ca, .slice xb b.len cb] 82)).heap.size := Nat.le_trans hB (bal w _).size
  have hq := (he.below ((bal w (.cells #[.int .i64 (K : Int), .int .i64 s.num, .slice xe s.ne ce, .slice xf s.nf cf, .slice xa a.len ca, .slice xb b.len cb] 82)).mono (Nat.le_trans hNB hB))).st K hk9
  obtain ⟨c0, c1, c2, c3, c4, c5, hb0, _⟩ := HBox.out _ _ (Grow.refl _ _)
  have G0 := Grow.refl (w.alloc (.cells #[.int .i64 (K : Int), .int .i64 s.num, .slice xe s.ne ce, .slice xf s.nf cf, .slice xa a.len ca, .slice xb b.len cb] 82)) v
  clear F he t1 t2 s1 s2 ea eb hw hs hlen HB hb0
  go_enter Tryz.func104, Tryz.ntmps104
  go_upto_region 1 with (fail)
  generalize w.alloc (.cells #[.int .i64 (K : Int), .int .i64 s.num, .slice xe s.ne ce, .slice xf s.nf cf, .slice xa a.len ca, .slice xb b.len cb] 82) = W0 at *
  have HW0 : Hid (WS B W0 v R) := hwal
  have HG0 : Hid (Grow W0 v W0 v) := G0
  clear hwal G0
  go_upto_region 2 with (first
    | (at_builtin; refine append_strL W0 rfl _ _ rfl B v R _ rfl HW0.out _ _ rfl rfl (by have := HLen.out; omega) hBal ?_; intro v1 w1 R1 eR1 lR1 hW1 hG1))
  have hR1l := lR1.out
  have HW1 : Hid (WS B w1 v1 R1) := hW1
  have HG1 : Hid (Grow W0 v w1 v1) := hG1
  have HR1 : Hid (R1 = R ++ [bs (stL K)]) := eR1
  have hs1 : W0.heap.size ≤ w1.heap.size := hG1.size
  clear c0 c1 c2 c3 c4 c5 hq hW1 eR1
  obtain ⟨c0, c1, c2, c3, c4, c5, hb1, _⟩ := HBox.out _ _ hG1
  clear hG1
  have HE1 : Hid (Env N w1) := HE.out.below (hb1.mono hNB)
  go_upto_region 4 with (first
    | (go_at_call 152; refine (HN.out _).mono ?_; rintro e w2 ⟨rfl, h2⟩; rw [h2]; clear h2))
  have hG2 := HG1.out
  have hW2 := HW1.out
  have eR2 : R1 = R ++ ([bs (stL K)] ++ []) := by rw [HR1.out]; rfl
  have hR2len : R1.length ≤ R.length + 2 := by rw [lR1.out]; omega
  generalize v1 = v2 at *
  generalize R1 = R2 at *
  generalize w1 = w3 at *
  clear c0 c1 c2 c3 c4 c5
  have HW2 : Hid (WS B w3 v2 R2) := hW2
  have HG2 : Hid (Grow W0 v w3 v2) := hG2
  have hR2l : R2.length ≤ R.length + 2 := hR2len
  have HR2 : Hid (R2 = R ++ ([bs (stL K)] ++ [])) := eR2
  clear hW2 hG2 eR2 hR2len
  obtain ⟨c0, c1, c2, c3, c4, c5, hb3, _⟩ := HBox.out _ _ HG2.out
  clear hb3
  go_upto_region 5 with (fail)
  clear c0 c1 c2 c3 c4 c5
  go_loopw [0, 30] (fun q i wr => ∃ (j : Nat) (R3 : List Wd), j ≤ 2 ∧ i = .int .i64 j ∧ Hid (WS B wr q R3) ∧ Hid (R3 = R2 ++ tPart s j) ∧ Hid (Grow W0 v wr q)) (fun _ i _ => 2 - (intOf i).toNat)
  case atStart => exact ⟨0, R2, by omega, rfl, HW2, (List.append_nil _).symm, HG2⟩
  case round =>
    obtain ⟨j, R3, hj2, rfl, HW3, HR3, HG3⟩ := hrel
    by_cases hj : j < 2
    · obtain ⟨xj, cj, tj, hidx⟩ := HX.out j hj
      have hjlt : (j : Int) < 2 := by omega
      have HT := HTok.out j hj
      have HT2 : Hid (∀ i, i < tN s j → tokErr (tK s j i) (tZ s j i) nf locals = 0) := HT
      have Htj : Hid (ToksAt N w (.slice xj (tN s j) cj) (tN s j) (tK s j) (tZ s j)) := tj
      have hn := tj.shape
      clear tj HT
      go_wp2_with fail
      go_loopw [0, 35] (fun q4 i4 wi => ∃ (x : Nat) (R4 : List Wd), x ≤ tN s j ∧ i4 = .int .i64 x ∧ Hid (WS B wi q4 R4) ∧ Hid (R4 = R3 ++ toksW (tK s j) (tZ s j) x) ∧ Hid (Grow W0 v wi q4)) (fun _ i _ => tN s j - (intOf i).toNat)
      case atStart => exact ⟨0, R3, by omega, rfl, HW3, (List.append_nil _).symm, HG3⟩
      case round =>
        obtain ⟨x, R4, hx0, rfl, HW4, HR4, HG4⟩ := hrel
        by_cases hx : x < tN s j
        · obtain ⟨_, _, _, _, _, _, hbw, _⟩ := HBox.out _ _ HG4.out
          obtain ⟨_, _, e1, hn9, h | ⟨bt, ot, rfl, hbt, hct⟩⟩ := Htj.out.below (hbw.mono hNB)
          · omega
          cases e1
          obtain ⟨q0, q1⟩ := hct x hx
          have hxi : (x : Int) < (tN s j : Int) := by omega
          have HEi : Hid (Env N wr) := HE.out.below (hbw.mono hNB)
          have hNi : N ≤ wr.heap.size := Nat.le_trans hNB (Nat.le_trans hB hbw.size)
          have HCT : Hid (∀ i, i < tN s j → wr.cell? ⟨bt, ot + i * 2, none⟩ = some (.int .i64 (tK s j i)) ∧ wr.cell? ⟨bt, ot + i * 2 + 1, none⟩ = some (.int .i64 (tZ s j i))) := hct
          have hBi : B ≤ wr.heap.size := Nat.le_trans hB hbw.size
          clear hct hbw
          go_wp2_with (first
            | (go_at_call 153; refine (tokWord N (tK s j x) (tZ s j x) nf locals hl hnf (HT2.out x hx) _ (HEi.out.below ((bal _ _).mono hNi)) (Nat.le_trans hNi (bal _ _).size)).mono ?_; rintro e w5 ⟨rfl, b5⟩; have b6 : Below wr.heap.size wr w5 := bst (bal _ _) b5)
            | (at_builtin; refine append_strL w5 rfl _ _ rfl B u0 R4 _ rfl (HW4.out.keep b6) _ _ rfl rfl (by have := tPart_len s hj; have := HLen.out; rw [HR4.out, HR3.out]; simp only [List.length_append, toksW_len]; omega) (Nat.le_trans hBi b6.size) ?_; intro v5 w6 R5 eR5 lR5 hW5 hG5))
          go_roundw
          case rel => exact ⟨x + 1, R5, by omega, by go_num, hW5, (by show R5 = _; rw [eR5.out, HR4.out, toksW, List.append_assoc]), HG4.out.trans ((Grow.of u0 b6).trans hG5)⟩
          case measure => simp [intOf]; omega
        · obtain rfl : x = tN s j := by omega
          go_wp2_with fail
          go_roundw
          case rel => exact ⟨j + 1, R4, by omega, by go_num, HW4, (by show R4 = _; rw [HR4.out, HR3.out, tPart, List.append_assoc]), HG4⟩
          case measure => simp [intOf]; omega
    · obtain rfl : j = 2 := by omega
      obtain ⟨c0, c1, c2, c3, c4, c5, hb3, hgw⟩ := HBox.out _ _ HG3.out
      have HGW : Hid (Grow w v wr u0) := hgw
      have HBW : Hid (Below B w wr) := hb3
      have HL3 : Hid (R3.length ≤ R.length + 2 + s.ne + s.nf) := by
        show _ ≤ _
        have := tPart_len2 s
        rw [HR3.out]
        simp only [List.length_append]
        omega
      clear hgw hb3
      have HAb : Hid (∀ w, Calls Tryz.prog 154 #[.int .i64 (K : Int)] w fun e w' => e = .returned (.bool true) ∧ w' = w) := fun w => by
        have h := hasA_run K w
        rw [show decide ((K : Int) = 6 ∨ (K : Int) = 7) = true by simp; omega] at h
        exact h
      have h6 : ((K : Int) == 6) = false := by rw [beq_eq_false_iff_ne]; omega
      have HAP : Hid (aPart (blkW d) s a = blkW d a) := by
        show aPart _ _ _ = _
        unfold aPart
        rw [if_pos (by omega)]
      have HBP : Hid (bPart (blkW d) s b = []) := by
        show bPart _ _ _ = _
        unfold bPart
        rw [if_neg (by omega)]
      have hlA : R3.length + (blkW d a).length ≤ 500000 := by have := HL3.out; have := HLen.out; rw [HAP.out] at this; have := hlen0.out; rw [HTot.out, HAP.out, HBP.out] at this; rw [HR3.out, HR2.out]; simp only [List.length_append] at this ⊢; omega
      go_wp2_with (first
        | (go_at_call 154; refine (HAb.out _).mono ?_; rintro e w2 ⟨rfl, h2⟩; rw [h2]; clear h2)
        | (go_at_call 39; refine (HA.out _ _ R3 HBW.out HW3.out hlA).mono ?_; rintro e w7 ⟨v7, rfl, HW7, HG7⟩; obtain ⟨d0, _, _, _, _, d5, _, _⟩ := HBox.out _ _ (HG3.out.trans HG7.out)))
      go_ret
      refine ⟨_, rfl, ?_, HGW.out.trans HG7.out⟩
      show WS _ _ _ _
      rw [HTot.out, HAP.out, HBP.out, List.append_nil, ← List.append_assoc, ← List.append_assoc, ← HR2.out, ← HR3.out]
      exact HW7.out
set_option maxHeartbeats 4000000 in
theorem addStmt_if (N B nf : Nat) (par : Nat → Int) (locals : Int) (hl : locals ≤ 6) (hnf : nf ≤ 1000) (d : Nat) (hNB : N ≤ B) (HB : Hid (BlockOK N B nf par locals d)) (v : Value) (s : Nd) (ve vf va vb : Value) (a b : SL) (R : List Wd) (w : World)
    (hB : B ≤ w.heap.size) (he : Env N w) (t1 : ToksAt N w ve s.ne s.ek s.ez) (t2 : ToksAt N w vf s.nf s.fk s.fz) (s1 : StmtsAt N w d va a) (s2 : StmtsAt N w d vb b) (hs : stErr nf par locals s a.len b.len = 0)
    (ea : errs (stErr nf par locals) d a = 0) (eb : errs (stErr nf par locals) d b = 0) (hw : WS B w v R) (hlen : R.length + (stmtW (blkW d) s a b).length ≤ 500000) (K : Nat) (hK : s.kind = K) (hN : 5 < K ∧ K < 7) :
    Calls Tryz.prog 104 #[v, .agg #[.int .i64 K, .int .i64 s.num, ve, vf, va, vb]] w fun e w' => ∃ v', e = .returned v' ∧ Hid (WS B w' v' (R ++ stmtW (blkW d) s a b)) ∧ Hid (Grow w v w' v') := by
  have F := stFacts (a := a) (b := b) hl hs
  obtain ⟨xe, ce, rfl, hne⟩ := t1.shape
  obtain ⟨xf, cf, rfl, hnf2⟩ := t2.shape
  obtain ⟨xa, ca, rfl, _⟩ := s1.shape
  obtain ⟨xb, cb, rfl, _⟩ := s2.shape
  have hk1 := F.k1
  have hk8 := F.k8
  have hk9 : K < 9 := by omega
  have hk0 : (0 : Int) ≤ (K : Int) := by omega
  have hk9i : (K : Int) < 9 := by omega
  have HX := toksBoth t1 t2
  have HTok : Hid (∀ j, j < 2 → ∀ i, i < tN s j → tokErr (tK s j i) (tZ s j i) nf locals = 0) := F.tok
  have HA := aCall (va := .slice xa a.len ca) HB s1 ea hNB hB he
  have HBB := aCall (va := .slice xb b.len cb) HB s2 eb hNB hB he
  have HLen := lenParts hlen
  have hlen0 : Hid (R.length + (stmtW (blkW d) s a b).length ≤ 500000) := hlen
  have HE : Hid (Env N w) := he
  have HTot : Hid (stmtW (blkW d) s a b = ((([bs (stL K)] ++ []) ++ tPart s 2) ++ aPart (blkW d) s a) ++ bPart (blkW d) s b) := by
    show _ = _
    rw [stmtW_all]
    unfold nPart
    rw [hK]
    rw [if_neg (by omega)]; rfl
  have hnz : -9223372036854775808 ≤ s.num ∧ s.num ≤ 9223372036854775807 := F.num
  have HN : Hid (∀ w, Calls Tryz.prog 152 #[.int .i64 (K : Int)] w fun e w' => e = .returned (.bool false) ∧ w' = w) := fun w => by
    have h := hasN_run K w
    rw [show decide ((K : Int) = 1 ∨ (K : Int) = 2) = false by simp; omega] at h
    exact h
  have hwal := hw.keep (bal w (.cells #[.int .i64 (K : Int), .int .i64 s.num, .slice xe s.ne ce, .slice xf s.nf cf, .slice xa a.len ca, .slice xb b.len cb] 82))
  have HBox := boxAll (K := K) (z := s.num) (xe := .slice xe s.ne ce) (xf := .slice xf s.nf cf) (xa := .slice xa a.len ca) (xb := .slice xb b.len cb) hB hw
  have hBal : B ≤ (w.alloc (.cells #[.int .i64 (K : Int), .int .i64 s.num, .slice xe s.ne ce, .slice xf s.nf cf, .slice xa a.len ca, .slice xb b.len cb] 82)).heap.size := Nat.le_trans hB (bal w _).size
  have hq := (he.below ((bal w (.cells #[.int .i64 (K : Int), .int .i64 s.num, .slice xe s.ne ce, .slice xf s.nf cf, .slice xa a.len ca, .slice xb b.len cb] 82)).mono (Nat.le_trans hNB hB))).st K hk9
  obtain ⟨c0, c1, c2, c3, c4, c5, hb0, _⟩ := HBox.out _ _ (Grow.refl _ _)
  have G0 := Grow.refl (w.alloc (.cells #[.int .i64 (K : Int), .int .i64 s.num, .slice xe s.ne ce, .slice xf s.nf cf, .slice xa a.len ca, .slice xb b.len cb] 82)) v
  clear F he t1 t2 s1 s2 ea eb hw hs hlen HB hb0
  go_enter Tryz.func104, Tryz.ntmps104
  go_upto_region 1 with (fail)
  generalize w.alloc (.cells #[.int .i64 (K : Int), .int .i64 s.num, .slice xe s.ne ce, .slice xf s.nf cf, .slice xa a.len ca, .slice xb b.len cb] 82) = W0 at *
  have HW0 : Hid (WS B W0 v R) := hwal
  have HG0 : Hid (Grow W0 v W0 v) := G0
  clear hwal G0
  go_upto_region 2 with (first
    | (at_builtin; refine append_strL W0 rfl _ _ rfl B v R _ rfl HW0.out _ _ rfl rfl (by have := HLen.out; omega) hBal ?_; intro v1 w1 R1 eR1 lR1 hW1 hG1))
  have hR1l := lR1.out
  have HW1 : Hid (WS B w1 v1 R1) := hW1
  have HG1 : Hid (Grow W0 v w1 v1) := hG1
  have HR1 : Hid (R1 = R ++ [bs (stL K)]) := eR1
  have hs1 : W0.heap.size ≤ w1.heap.size := hG1.size
  clear c0 c1 c2 c3 c4 c5 hq hW1 eR1
  obtain ⟨c0, c1, c2, c3, c4, c5, hb1, _⟩ := HBox.out _ _ hG1
  clear hG1
  have HE1 : Hid (Env N w1) := HE.out.below (hb1.mono hNB)
  go_upto_region 4 with (first
    | (go_at_call 152; refine (HN.out _).mono ?_; rintro e w2 ⟨rfl, h2⟩; rw [h2]; clear h2))
  have hG2 := HG1.out
  have hW2 := HW1.out
  have eR2 : R1 = R ++ ([bs (stL K)] ++ []) := by rw [HR1.out]; rfl
  have hR2len : R1.length ≤ R.length + 2 := by rw [lR1.out]; omega
  generalize v1 = v2 at *
  generalize R1 = R2 at *
  generalize w1 = w3 at *
  clear c0 c1 c2 c3 c4 c5
  have HW2 : Hid (WS B w3 v2 R2) := hW2
  have HG2 : Hid (Grow W0 v w3 v2) := hG2
  have hR2l : R2.length ≤ R.length + 2 := hR2len
  have HR2 : Hid (R2 = R ++ ([bs (stL K)] ++ [])) := eR2
  clear hW2 hG2 eR2 hR2len
  obtain ⟨c0, c1, c2, c3, c4, c5, hb3, _⟩ := HBox.out _ _ HG2.out
  clear hb3
  go_upto_region 5 with (fail)
  clear c0 c1 c2 c3 c4 c5
  go_loopw [0, 30] (fun q i wr => ∃ (j : Nat) (R3 : List Wd), j ≤ 2 ∧ i = .int .i64 j ∧ Hid (WS B wr q R3) ∧ Hid (R3 = R2 ++ tPart s j) ∧ Hid (Grow W0 v wr q)) (fun _ i _ => 2 - (intOf i).toNat)
  case atStart => exact ⟨0, R2, by omega, rfl, HW2, (List.append_nil _).symm, HG2⟩
  case round =>
    obtain ⟨j, R3, hj2, rfl, HW3, HR3, HG3⟩ := hrel
    by_cases hj : j < 2
    · obtain ⟨xj, cj, tj, hidx⟩ := HX.out j hj
      have hjlt : (j : Int) < 2 := by omega
      have HT := HTok.out j hj
      have HT2 : Hid (∀ i, i < tN s j → tokErr (tK s j i) (tZ s j i) nf locals = 0) := HT
      have Htj : Hid (ToksAt N w (.slice xj (tN s j) cj) (tN s j) (tK s j) (tZ s j)) := tj
      have hn := tj.shape
      clear tj HT
      go_wp2_with fail
      go_loopw [0, 35] (fun q4 i4 wi => ∃ (x : Nat) (R4 : List Wd), x ≤ tN s j ∧ i4 = .int .i64 x ∧ Hid (WS B wi q4 R4) ∧ Hid (R4 = R3 ++ toksW (tK s j) (tZ s j) x) ∧ Hid (Grow W0 v wi q4)) (fun _ i _ => tN s j - (intOf i).toNat)
      case atStart => exact ⟨0, R3, by omega, rfl, HW3, (List.append_nil _).symm, HG3⟩
      case round =>
        obtain ⟨x, R4, hx0, rfl, HW4, HR4, HG4⟩ := hrel
        by_cases hx : x < tN s j
        · obtain ⟨_, _, _, _, _, _, hbw, _⟩ := HBox.out _ _ HG4.out
          obtain ⟨_, _, e1, hn9, h | ⟨bt, ot, rfl, hbt, hct⟩⟩ := Htj.out.below (hbw.mono hNB)
          · omega
          cases e1
          obtain ⟨q0, q1⟩ := hct x hx
          have hxi : (x : Int) < (tN s j : Int) := by omega
          have HEi : Hid (Env N wr) := HE.out.below (hbw.mono hNB)
          have hNi : N ≤ wr.heap.size := Nat.le_trans hNB (Nat.le_trans hB hbw.size)
          have HCT : Hid (∀ i, i < tN s j → wr.cell? ⟨bt, ot + i * 2, none⟩ = some (.int .i64 (tK s j i)) ∧ wr.cell? ⟨bt, ot + i * 2 + 1, none⟩ = some (.int .i64 (tZ s j i))) := hct
          have hBi : B ≤ wr.heap.size := Nat.le_trans hB hbw.size
          clear hct hbw
          go_wp2_with (first
            | (go_at_call 153; refine (tokWord N (tK s j x) (tZ s j x) nf locals hl hnf (HT2.out x hx) _ (HEi.out.below ((bal _ _).mono hNi)) (Nat.le_trans hNi (bal _ _).size)).mono ?_; rintro e w5 ⟨rfl, b5⟩; have b6 : Below wr.heap.size wr w5 := bst (bal _ _) b5)
            | (at_builtin; refine append_strL w5 rfl _ _ rfl B u0 R4 _ rfl (HW4.out.keep b6) _ _ rfl rfl (by have := tPart_len s hj; have := HLen.out; rw [HR4.out, HR3.out]; simp only [List.length_append, toksW_len]; omega) (Nat.le_trans hBi b6.size) ?_; intro v5 w6 R5 eR5 lR5 hW5 hG5))
          go_roundw
          case rel => exact ⟨x + 1, R5, by omega, by go_num, hW5, (by show R5 = _; rw [eR5.out, HR4.out, toksW, List.append_assoc]), HG4.out.trans ((Grow.of u0 b6).trans hG5)⟩
          case measure => simp [intOf]; omega
        · obtain rfl : x = tN s j := by omega
          go_wp2_with fail
          go_roundw
          case rel => exact ⟨j + 1, R4, by omega, by go_num, HW4, (by show R4 = _; rw [HR4.out, HR3.out, tPart, List.append_assoc]), HG4⟩
          case measure => simp [intOf]; omega
    · obtain rfl : j = 2 := by omega
      obtain ⟨c0, c1, c2, c3, c4, c5, hb3, hgw⟩ := HBox.out _ _ HG3.out
      have HGW : Hid (Grow w v wr u0) := hgw
      have HBW : Hid (Below B w wr) := hb3
      have HL3 : Hid (R3.length ≤ R.length + 2 + s.ne + s.nf) := by
        show _ ≤ _
        have := tPart_len2 s
        rw [HR3.out]
        simp only [List.length_append]
        omega
      clear hgw hb3
      have HAb : Hid (∀ w, Calls Tryz.prog 154 #[.int .i64 (K : Int)] w fun e w' => e = .returned (.bool true) ∧ w' = w) := fun w => by
        have h := hasA_run K w
        rw [show decide ((K : Int) = 6 ∨ (K : Int) = 7) = true by simp; omega] at h
        exact h
      have h6 : ((K : Int) == 6) = true := by rw [beq_iff_eq]; omega
      have HAP : Hid (aPart (blkW d) s a = blkW d a) := by
        show aPart _ _ _ = _
        unfold aPart
        rw [if_pos (by omega)]
      have HBP : Hid (bPart (blkW d) s b = blkW d b) := by
        show bPart _ _ _ = _
        unfold bPart
        rw [if_pos (by omega)]
      have hlA : R3.length + (blkW d a).length + (blkW d b).length ≤ 500000 := by have := hlen0.out; rw [HTot.out, HAP.out, HBP.out] at this; rw [HR3.out, HR2.out]; simp only [List.length_append] at this ⊢; omega
      go_wp2_with (first
        | (go_at_call 154; refine (HAb.out _).mono ?_; rintro e w2 ⟨rfl, h2⟩; rw [h2]; clear h2)
        | (go_at_call 39; have _ := HW7; refine (HBB.out _ _ (R3 ++ blkW d a) hb7 HW7.out (by rw [List.length_append]; omega)).mono ?_; rintro e w8 ⟨v8, rfl, HW8, HG8⟩)
        | (go_at_call 39; refine (HA.out _ _ R3 HBW.out HW3.out (by omega)).mono ?_; rintro e w7 ⟨v7, rfl, HW7, HG7⟩; obtain ⟨d0, _, _, _, _, d5, hb7, _⟩ := HBox.out _ _ (HG3.out.trans HG7.out)))
      go_ret
      refine ⟨_, rfl, ?_, (HGW.out.trans HG7.out).trans HG8.out⟩
      show WS _ _ _ _
      rw [HTot.out, HAP.out, HBP.out, ← List.append_assoc, ← List.append_assoc, ← List.append_assoc, ← HR2.out, ← HR3.out]
      exact HW8.out
end Go.Proofs.YtbmenihakkogkabGreatDoor
