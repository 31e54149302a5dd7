/- The closure of Reach: each cell that a row of values leads to and that isn't there yet goes into the set and to the end of the list. -/
import Derived.Test.YtnkhdhbjdemdkaaSame
import Derived.Maps.OwnSet
import Derived.Maps.AppendAt
namespace Go.Proofs.Ytnkhdhbjdemdkaa
open Go.RowKit Go.Maps

/-- The set of the cells that are there. -/
def setD (R : List Int) : DataW Unit := setOf (.agg []) (R.map (Lit.int .i64))

theorem setD_nil : setD [] = .map [] := rfl
theorem setD_snoc (R : List Int) (x : Int) : setD (R ++ [x]) = (setD R).put (.int .i64 x) (.agg []) := by
  unfold setD; rw [List.map_append]; exact setOf_snoc _ _ _

theorem any_int (x : Int) : ∀ l : List Int, l.any ((fun y : Lit => y.sameKey (.int .i64 x)) ∘ Lit.int .i64) = l.contains x
  | [] => rfl
  | a :: r => by
    rw [List.any_cons, List.contains_cons, any_int x r]
    congr 1
    show decide (IntKind.i64 = IntKind.i64 ∧ a = x) = (x == a)
    by_cases e : a = x
    · subst e; simp
    · have e' : ¬ x = a := fun h => e h.symm
      simp [e, e']

theorem has_setD (R : List Int) (x : Int) : Maps.has (setD R) (.int .i64 x) = R.contains x := by
  unfold setD
  rw [has_setOf _ _ _ (fun y hy => by obtain ⟨_, _, rfl⟩ := List.mem_map.1 hy; trivial), List.any_map]
  exact any_int x _

theorem law3 : Keyed Try.prog 3 := int_keyed Try.underlying3
theorem zero47 (w : World) : (zeroValue 47).run Try.prog w = .ok (.agg #[]) w := by kernel_rfl
theorem info3 : (Try.prog.info? 3).map (fun i => (i.zero, i.size, i.bytes)) = some (some (.int .i64 0), 1, 8) := by kernel_rfl

/-- What Reach's variables hold: the list in block rb, the set in block sb, which block mb names. -/
structure St (w : World) (rb mb sb base : Nat) (R : List Int) : Prop where
  lr : rb < base
  lm : mb < base
  ls : sb < base
  nrm : rb ≠ mb
  nsr : sb ≠ rb
  nsm : sb ≠ mb
  size : base ≤ w.heap.size
  list : ∃ v, w.cell? ⟨rb, 0, none⟩ = some v ∧ w.ownsRow base 3 1 v R.length (R.map (Value.int .i64))
  free : w.frozen? ⟨rb, 0, none⟩ = false
  name : w.cell? ⟨mb, 0, none⟩ = some (.map (some sb))
  set : w.ownsMap Try.prog 3 (unitElem (H := Unit)) sb R.length (setD R)

theorem St.alloc {w : World} {rb mb sb base : Nat} {R : List Int} (h : St w rb mb sb base R) (o : Obj) : St (w.alloc o) rb mb sb base R := by
  have hb := below_alloc w o
  have hs := h.size
  obtain ⟨v, hv, hrow⟩ := h.list
  exact ⟨h.lr, h.lm, h.ls, h.nrm, h.nsr, h.nsm, Nat.le_trans hs hb.size, ⟨v, (hb.cell (p := ⟨rb, 0, none⟩) (Nat.lt_of_lt_of_le h.lr hs)).trans hv, hrow.alloc o⟩,
    (hb.frozen (p := ⟨rb, 0, none⟩) (Nat.lt_of_lt_of_le h.lr hs)).trans h.free, (hb.cell (p := ⟨mb, 0, none⟩) (Nat.lt_of_lt_of_le h.lm hs)).trans h.name, h.set.alloc o⟩

/-- Behind a store into the set all else is as it was. -/
theorem St.put {w w1 : World} {rb mb sb base : Nat} {R : List Int} {v : Value} (h : St w rb mb sb base R) (hv : w.cell? ⟨rb, 0, none⟩ = some v) (hrow : w.ownsRow base 3 1 v R.length (R.map (Value.int .i64)))
    (hg : w.grownBy w1 (some sb)) : w1.cell? ⟨rb, 0, none⟩ = some v ∧ w1.frozen? ⟨rb, 0, none⟩ = false ∧ w1.cell? ⟨mb, 0, none⟩ = some (.map (some sb)) ∧ w1.ownsRow base 3 1 v R.length (R.map (Value.int .i64)) ∧ base ≤ w1.heap.size := by
  have hs := h.size
  have hr := hg.block rb (Nat.lt_of_lt_of_le h.lr hs) (fun e => h.nsr (Option.some.inj e).symm)
  have hm := hg.block mb (Nat.lt_of_lt_of_le h.lm hs) (fun e => h.nsm (Option.some.inj e).symm)
  refine ⟨(World.cell?_of_block (w := w) (a := ⟨rb, 0, none⟩) hr).trans hv, (World.frozen?_of_block (w := w) (a := ⟨rb, 0, none⟩) hr).trans h.free, (World.cell?_of_block (w := w) (a := ⟨mb, 0, none⟩) hm).trans h.name,
    hrow.kept hg (Or.inr fun e => ?_), Nat.le_trans hs hg.size⟩
  have := (hrow.lt sb e).1
  have := h.ls
  omega

/-- Behind the append and the store of the new list: one cell more is there. -/
theorem St.add {w w1 w2 : World} {rb mb sb base : Nat} {R : List Int} {v v' : Value} {x : Int} {o : Obj} (h : St w rb mb sb base R) (hv : w.cell? ⟨rb, 0, none⟩ = some v) (hrow : w.ownsRow base 3 1 v R.length (R.map (Value.int .i64)))
    (hg : w.grownBy w1 (some sb)) (hset : w1.ownsMap Try.prog 3 (unitElem (H := Unit)) sb (R.length + 1) ((setD R).put (.int .i64 x) (.agg [])))
    (hg2 : (w1.alloc o).grownBy w2 v.ownBlock) (hrow2 : w2.ownsRow base 3 1 v' (R.length + 1) (R.map (Value.int .i64) ++ [.int .i64 x])) :
    w2.cell? ⟨rb, 0, none⟩ = some v ∧ w2.frozen? ⟨rb, 0, none⟩ = false ∧ St (w2.setCell ⟨rb, 0, none⟩ v') rb mb sb base (R ++ [x]) := by
  obtain ⟨c1, f1, m1, r1, s1⟩ := h.put hv hrow hg
  have low : ∀ b, b < base → w2.heap[b]? = w1.heap[b]? := fun b hb => by
    have e1 := hg2.block b (by simp; omega) (fun e => by have := (r1.lt b e.symm).1; omega)
    exact e1.trans (Below.heap_alloc w1 o b (by omega))
  have cr : w2.cell? ⟨rb, 0, none⟩ = some v := (World.cell?_of_block (w := w1) (a := ⟨rb, 0, none⟩) (low rb h.lr)).trans c1
  have fr : w2.frozen? ⟨rb, 0, none⟩ = false := (World.frozen?_of_block (w := w1) (a := ⟨rb, 0, none⟩) (low rb h.lr)).trans f1
  refine ⟨cr, fr, ⟨h.lr, h.lm, h.ls, h.nrm, h.nsr, h.nsm, ?_, ⟨v', World.cell?_setCell_same _ _ _ cr, ?_⟩, ?_, ?_, ?_⟩⟩
  · have := hg2.size
    simp [World.setCell] at this ⊢
    omega
  · have := ownsRow_setCell_below hrow2 (a := ⟨rb, 0, none⟩) h.lr v'
    simpa using this
  · rw [World.frozen?_setCell]; exact fr
  · rw [World.cell?_setCell_other _ _ _ _ (fun e => h.nrm (congrArg Addr.block e))]
    exact (World.cell?_of_block (w := w1) (a := ⟨mb, 0, none⟩) (low mb h.lm)).trans m1
  · rw [setD_snoc]
    have hk : w2.ownsMap Try.prog 3 (unitElem (H := Unit)) sb (R.length + 1) ((setD R).put (.int .i64 x) (.agg [])) := (hset.alloc o).kept hg2 (fun e => by have := (r1.lt sb e.symm).1; have := h.ls; omega)
    have := hk.setCell (a := ⟨rb, 0, none⟩) h.nsr v'
    simpa using this

theorem wf_small {x : Int} (h0 : 0 ≤ x) (h1 : x ≤ 1000) : (Lit.int .i64 x).wf = true := WalkArith.wf_i64 (by omega)

theorem own_shape {w : World} {base : Nat} {e : TypeId} {size : Nat} {v : Value} {n : Nat} {xs : List Value} (h : w.ownsRow base e size v n xs) : ∃ a cap, v = .slice a n cap := by
  rcases h.2 with ⟨rfl, rfl⟩ | ⟨g, cap, cur, rfl, _⟩
  · exact ⟨none, 0, rfl⟩
  · exact ⟨_, cap, rfl⟩

/-- One int more at the end of a list of the call's own. -/
theorem append_int {ops : Array Oper} {rest : List Oper} {o : Oper} {a : Act} {Q : Exit → Act → World → Prop} (w : World) (hgd : o.guard = none) (s y : Operand)
    (ho : o.op = .call { callee := .builtin .append, args := #[s, y], argTypes := #[24, 24] }) (base : Nat) (v : Value) (R : List Int) (hs : a.eval s = v) (hown : w.ownsRow base 3 1 v R.length (R.map (Value.int .i64)))
    (x : Int) (t : TypeId) (B : Nat) (hB : w.heap.size = B) (hy : a.eval y = .slice (some ⟨B, 0, none⟩) 1 1) (hR : R.length ≤ 100000) (hbase : base ≤ w.heap.size)
    (h : ∀ ad cap w2, w2.ownsRow base 3 1 (.slice ad (R.length + 1) cap) (R.length + 1) (R.map (Value.int .i64) ++ [.int .i64 x]) → (w.alloc (.cells #[.int .i64 x] t)).grownBy w2 v.ownBlock → wpList Try.prog ops Q rest (a.put o.dst (.slice ad (R.length + 1) cap)) w2) :
    wpList Try.prog ops Q (o :: rest) a (w.alloc (.cells #[.int .i64 x] t)) := by
  subst hB
  obtain ⟨i0, hi, hz0, hz1, hz2⟩ := info_parts info3
  refine wpList_append_own _ hgd s y 24 ho base 3 i0 (.int .i64 0) 1 8 Try.underlying24 hi hz0 hz1 hz2 rfl (by decide) v _ _ hs (hown.alloc _) ⟨w.heap.size, 0, none⟩ 1 1 [.int .i64 x] hy rfl (cell_one_new _ _ _) (ints_oneCell .i64 [x]) (by unfold maxLen; omega) (by omega) (by simp; omega) ?_
  intro v' w2 h1 h2 _
  obtain ⟨ad, cap, rfl⟩ := own_shape h1
  exact h ad cap w2 h1 h2

/-- A value that was boxed reads as it did behind a store into the set. -/
theorem box_kept {wr w1 : World} {sb : Nat} {c0 c1 : Value} {t t' : TypeId} (hg : ((wr.alloc (.cells #[c0, c1] t)).alloc (.cells #[] t')).grownBy w1 (some sb)) (hs : sb < wr.heap.size) :
    w1.cell? ⟨wr.heap.size, 1, none⟩ = some c1 := by
  have e := hg.block wr.heap.size (by simp; omega) (fun e => by have := Option.some.inj e; omega)
  refine (World.cell?_of_block (w := (wr.alloc (.cells #[c0, c1] t)).alloc (.cells #[] t')) (a := ⟨wr.heap.size, 1, none⟩) e).trans ?_
  rw [World.cell?_alloc_lt _ _ _ (by simp), World.cell?_alloc_new]
  rfl

set_option maxHeartbeats 1000000 in
theorem meet (v : Value) (n : Nat) (k z : Nat → Int) (w0 w : World) (rb mb sb base : Nat) (R : List Int) (h : ValsAt w0 v n k z) (hb0 : Below w0.heap.size w0 w) (hst : St w rb mb sb base R)
    (l1 : w0.heap.size ≤ rb) (l2 : w0.heap.size ≤ sb) (hlen : R.length + n ≤ 1000) (hz : ∀ i, i < n → k i = 2 → 0 ≤ z i ∧ z i ≤ 1000) :
    Calls Try.prog 22 #[v, .pointer (some ⟨mb, 0, none⟩), .pointer (some ⟨rb, 0, none⟩)] w fun e w' => e = .returned (.tuple #[]) ∧ St w' rb mb sb base (meetTo n k z R) ∧ Below w0.heap.size w0 w' := by
  obtain ⟨a, cap, rfl, hn, h⟩ := h
  go_enter Try.func22, Try.ntmps22
  go_wp2
  go_loopw [10] (fun i wr => ∃ j : Nat, j ≤ n ∧ i = .int .i64 j ∧ St wr rb mb sb base (meetTo j k z R) ∧ Below w0.heap.size w0 wr) (fun i _ => n - (intOf i).toNat)
  case atStart => exact ⟨0, Nat.zero_le _, rfl, hst, hb0⟩
  case round =>
    clear hst hb0
    obtain ⟨j, hj, rfl, hst, hb⟩ := hrel
    by_cases hlt : j < n
    · rcases h with h | ⟨p, o, rfl, hp, g⟩
      · omega
      obtain ⟨q0, q1⟩ := g j hlt
      rw [← hb.cell hp] at q0 q1
      clear g
      have hl := meetTo_len j k z R
      have HS : Hid (meetTo (j + 1) k z R = meet1 (meetTo j k z R) (k j) (z j)) := rfl
      have hzj := hz j hlt
      generalize meetTo j k z R = R1 at *
      generalize k j = kj at *
      generalize z j = zj at *
      have hsz := hb.size
      have hbs := hst.size
      by_cases hk : kj = 2
      · subst hk
        obtain ⟨z0, z1⟩ := hzj rfl
        have hkey : keyOf Try.prog 3 (.int .i64 zj) = some (.int .i64 zj) := keyOf_int_mk Try.underlying3 (wf_small z0 z1)
        obtain ⟨u, hu, hrow⟩ := hst.list
        have hnm := hst.name
        have hfr := hst.free
        have hmap := hst.set
        have hmb : mb < wr.heap.size := Nat.lt_of_lt_of_le hst.lm hbs
        have hrb : rb < wr.heap.size := Nat.lt_of_lt_of_le hst.lr hbs
        have hsb : sb < wr.heap.size := Nat.lt_of_lt_of_le hst.ls hbs
        by_cases hin : zj ∈ R1
        · have hht : Maps.has (setD R1) (.int .i64 zj) = true := by rw [has_setD]; simpa using hin
          have HE : Hid (meet1 R1 2 zj = R1) := meet1_old hin
          have HT : Hid (St wr rb mb sb base R1) := hst
          clear hin hst hrow hfr hu
          go_wp2_with (at_lookup; refine wpList_lookup_own_unit _ rfl _ _ 46 rfl 3 47 law3 Try.underlying46 (zero47 _) sb _ _ rfl (hmap.alloc _) _ _ rfl hkey ?_)
          go_roundw
          case rel => exact ⟨j + 1, by omega, by go_num, by rw [HS.out, HE.out]; exact (HT.out.alloc _).alloc _, (hb.alloc hsz _).alloc (by simp; omega) _⟩
          case measure => simp [intOf]; omega
        · have hht : Maps.has (setD R1) (.int .i64 zj) = false := by rw [has_setD]; simpa using hin
          have HE : Hid (meet1 R1 2 zj = R1 ++ [zj]) := meet1_new rfl hin
          have HT : Hid (St wr rb mb sb base R1) := hst
          clear hin hst
          go_wp2_with (first
            | (at_lookup; refine wpList_lookup_own_unit _ rfl _ _ 46 rfl 3 47 law3 Try.underlying46 (zero47 _) sb _ _ rfl (hmap.alloc _) _ _ rfl hkey ?_)
            | (at_mapUpdate; refine wpList_mapUpdate_own _ rfl _ _ _ 46 rfl 3 47 law3 Try.underlying46 (unitElem (H := Unit)) sb _ _ rfl ((hmap.alloc _).alloc _) (by unfold maxLen; omega) _ _ _ rfl rfl hkey _ [] unitElem_mk ?_; intro w1 hown1 hgrow1; obtain ⟨c1, f1, m1, r1, s1⟩ := ((HT.out.alloc _).alloc _).put (v := u) (by go_simp) ((hrow.alloc _).alloc _) hgrow1; have c5 := box_kept hgrow1 hsb)
            | (at_builtin; refine append_int _ rfl _ _ rfl base _ R1 rfl r1 zj _ _ rfl rfl (by omega) s1 ?_; intro ad cp w2 hown2 hgrow2; obtain ⟨c2, f2, HT2⟩ := ((HT.out.alloc _).alloc _).add (v := u) (by go_simp) ((hrow.alloc _).alloc _) hgrow1 hown1 hgrow2 hown2))
          go_roundw
          case rel =>
            have b2 := ((hb.alloc hsz _).alloc (by simp; omega) _).grown hgrow1 (by simp; omega) (fun k hk => by cases hk; exact l2)
            have b3 := (b2.alloc b2.size _).grown hgrow2 (Nat.le_trans b2.size (by simp)) (fun k hk => Nat.le_trans (Nat.le_trans l1 (Nat.le_of_lt HT.out.lr)) (r1.lt k hk).1)
            exact ⟨j + 1, by omega, by go_num, by rw [HS.out, HE.out]; exact HT2, b3.setCell l1 _⟩
          case measure => simp [intOf]; omega
      · have hkt : (kj != 2) = true := by simp [hk]
        have HE : Hid (meet1 R1 kj zj = R1) := meet1_no hk
        clear hk
        go_wp2
        go_roundw
        case rel => exact ⟨j + 1, by omega, by go_num, by rw [HS.out, HE.out]; exact hst.alloc _, hb.alloc hsz _⟩
        case measure => simp [intOf]; omega
    · go_wp2
      go_end0
      obtain rfl : j = n := by omega
      exact ⟨rfl, hst, hb⟩

end Go.Proofs.Ytnkhdhbjdemdkaa
