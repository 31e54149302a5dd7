/- slices.Clone at numbers, as the shelf lays it at this translation. An expression that comes into a register: what is so on the way. An expression that comes into a register: by its kind. An expression that comes into a register: reckon, kind 1. An expression that comes into a register: reckon, kind 3. An expression that comes into a register: reckon, kind 4. An expression that comes into a register: reckon, kind 5. -/
import Derived.Test.YtbmenihakkogkabGreatDoorChecked
import Derived.Shelf.Slices.Clone
import Derived.Test.YtbmenihakkogkabGreatDoorPart25
namespace Go.Proofs.YtbmenihakkogkabGreatDoor
open Go.Shelf
def Tryz.laysNm215_ren : Go.Shelf.Ren := ⟨fun | 15 => 247 | n => n, fun | 22 => 55 | 3 => 3 | 4 => 4 | n => n, fun | n => n⟩
theorem Tryz.laysNm215 : Go.Proofs.Lays2.n15 Tryz.prog Tryz.laysNm215_ren := {
  mixed := by kernel_rfl
  f15 := Tryz.func247.trans (congrArg some (by kernel_rfl))
  t3 := Tryz.underlying3
  a3 := Tryz.isAgg3
  z3 := Tryz.sizeOf3
  v3 := Tryz.zeroValue3
  t4 := Tryz.underlying4
  a4 := Tryz.isAgg4
  z4 := Tryz.sizeOf4
  v4 := Tryz.zeroValue4
  t22 := Tryz.underlying55
  a22 := Tryz.isAgg55
  z22 := Tryz.sizeOf55
  v22 := Tryz.zeroValue55
  i3 := by kernel_rfl }
open Go.RowKit Go.Lib in
theorem Tryz.slices_Clone_int (b off n c : Nat) (zs : List Int) (w : World) (hz : n ≤ zs.length) (hbig : n * 8 ≤ 140737488355328) (hc : ∀ j, j < zs.length → w.cell? ⟨b, off + j, none⟩ = some (.int .i64 (zs.getD j 0))) :
    Calls Tryz.prog 247 #[.slice (some ⟨b, off, none⟩) n c] w fun e w' => ∃ v', e = .returned v' ∧ w'.ownsRow w.heap.size 3 1 v' n ((zs.take n).map (Value.int .i64)) ∧ v' ≠ .slice none 0 0 ∧ Below w.heap.size w w' := Any.slices_Clone_int Tryz.laysNm215 b off n c zs w hz hbig hc

end Go.Proofs.YtbmenihakkogkabGreatDoor

namespace Go.Proofs.YtbmenihakkogkabGreatDoor
open Go.RowKit Go.Maps

/-- The instruction is added. -/
def RekM (v : VC) (a tt free : Nat) (items : List (List Int × Value)) (w w1 : World) : Prop :=
  ∃ (a1 : Nat) (its : List (List Int × Value)) (os : List Nat) (c1 : List (List Int)), DFb v.c.X v.B v.c.C w w1 ∧ VW v a1 (items ++ its) w1 ∧ a1 ≤ v.n ∧ VS v.k v.z v.par v.c.once (a + 1) a1 free os c1 ∧ (os.length : Int) = asksOf (v.k a) (v.z a) v.par ∧ its.map (·.1) = c1 ++ [tokIns (v.k a) (v.z a) tt os]

theorem RekM.off {v : VC} {a tt free : Nat} {items : List (List Int × Value)} {w w1 : World} (h : RekM v a tt free items w w1) : RekP v a tt free items w w1 := by
  obtain ⟨a1, its, os, c1, h1, h2, h3, h4, h5, h6⟩ := h
  exact ⟨a1, its, h1, h2, h3, os, c1, [], h4, h5, fun r hr => (by cases hr), by simp, fun _ => rfl, by rw [h6]; simp [clr]⟩

/-- .. and registers are cleared. -/
theorem RekM.clear {v : VC} {a tt free : Nat} {items : List (List Int × Value)} {w w1 : World} (ok : VOK v) (h : RekM v a tt free items w w1) (ho : v.c.once = true) (hil : items.length + 41 * (v.n - a) + 100 ≤ 100000) (ha : a < v.n) (ht : tt ≤ free) (hf : free ≤ 30) :
    Calls Tryz.prog 206 #[.pointer (some ⟨v.c.X, 0, none⟩), .int .i64 ((max free (tt + 1) : Nat) : Int)] w1 fun e w' => (∃ u, e = .returned u) ∧ Hid (RekP v a tt free items w w') := by
  obtain ⟨a1, its, os, c1, h1, h2, h3, h4, h5, h6⟩ := h
  have hlen : its.length ≤ 41 * (v.n - a) := by
    have e := congrArg List.length h6
    have e2 := h4.count
    have e3 := h4.wants.2
    have e4 : perTok v.c.once ≤ 41 := by unfold perTok; split <;> omega
    have e5 := Nat.mul_le_mul_right (a1 - (a + 1)) e4
    simp only [List.length_map, List.length_append, List.length_cons, List.length_nil] at e
    omega
  refine (dclear v.c (max free (tt + 1)) false (items ++ its) w1 h2.dv (by omega) (by rw [List.length_append]; omega)).mono fun e w' hp => ?_
  obtain ⟨he, its2, L, f1, f2, f3, f4, f5, _⟩ := hp
  refine ⟨he, a1, its ++ its2, h1.trans (f1.b v.B), ?_, h3, os, c1, L, h4, h5, f4, by have := h2.dv.xlt.2.2.1; omega, fun h => (by rw [ho] at h; cases h), by rw [List.map_append, h6, f3]⟩
  rw [← List.append_assoc]
  rw [Bool.false_or] at f2
  exact h2.more ok f1 f2 (clr_off f3 v.B)

/-- An instruction is added to what is read. -/
theorem VW.add {v : VC} {a a1 tt free : Nat} {items its : List (List Int × Value)} {w w1 : World} {os : List Nat} {c1 : List (List Int)} (ok : VOK v) (h1 : DFb v.c.X v.B v.c.C w w1) (h2 : VW v a1 (items ++ its) w1) (h3 : a1 ≤ v.n) (h4 : VS v.k v.z v.par v.c.once (a + 1) a1 free os c1) (h5 : (os.length : Int) = asksOf (v.k a) (v.z a) v.par) (h6 : its.map (·.1) = c1)
    (ab : Option Addr) (an ac : Nat) (op b d : Int) (hl : (tokIns (v.k a) (v.z a) tt os).getD 0 0 = op ∧ (tokIns (v.k a) (v.z a) tt os).getD 2 0 = b ∧ (tokIns (v.k a) (v.z a) tt os).getD 3 0 = d) (hav : ArgsAt w1 (.slice ab an ac) ((tokIns (v.k a) (v.z a) tt os).length - 4) (fun j => (tokIns (v.k a) (v.z a) tt os).getD (j + 4) 0))
    (hoff : (tokIns (v.k a) (v.z a) tt os).length - 4 = 0 ∨ ∀ x n d, Value.slice ab an ac = .slice (some x) n d → ¬ x.block = v.B) (hil : items.length + 41 * (v.n - a) + 100 ≤ 100000) (hA : tt < v.c.vars + 17) (h3' : op = 3 → (tokIns (v.k a) (v.z a) tt os).length = 5 ∧ ∃ B D : Nat, (b = B ∧ B < 40) ∧ (d = D ∧ D < 40)) :
    Calls Tryz.prog 171 #[.pointer (some ⟨v.c.X, 0, none⟩), .agg #[.int .i64 op, .int .i64 tt, .int .i64 b, .int .i64 d, .slice ab an ac]] w1 fun e w' => (∃ u, e = .returned u) ∧ Hid (RekM v a tt free items w w') := by
  have hlen : its.length ≤ 41 * (v.n - a) := by
    have e := congrArg List.length h6
    have e2 := h4.count
    have e3 := h4.wants.2
    have e4 : perTok v.c.once ≤ 41 := by unfold perTok; split <;> omega
    have e5 := Nat.mul_le_mul_right (a1 - (a + 1)) e4
    simp only [List.length_map] at e
    omega
  refine (dadd v.c false (items ++ its) (tokIns (v.k a) (v.z a) tt os) op b d tt ab an ac w1 h2.dv ⟨hl.1, tokIns_a _ _ _ _, hl.2⟩ hav (by rw [List.length_append]; omega) hA h3').mono fun e w' hp => ?_
  obtain ⟨he, f1, f2⟩ := hp
  refine ⟨he, a1, its ++ [(tokIns (v.k a) (v.z a) tt os, .slice ab an ac)], os, c1, h1.trans (f1.out.b v.B), ?_, h3, h4, h5, by rw [List.map_append, h6]; rfl⟩
  rw [← List.append_assoc]
  refine h2.more ok f1.out f2.out fun x hx => ?_
  rw [List.mem_singleton] at hx
  subst hx
  exact hoff

theorem VW.fields {v : VC} {a : Nat} {items : List (List Int × Value)} {w : World} (h : VW v a items w) : w.cell? ⟨v.c.X, 0, none⟩ = some v.c.fv ∧ w.cell? ⟨v.c.X, 1, none⟩ = some (.int .i64 v.c.vars) ∧ w.cell? ⟨v.c.X, 43, none⟩ = some (.bool v.c.once) := by
  obtain ⟨cur, h0, _, h1, h2, h3⟩ := h.dv.xt
  exact ⟨by unfold World.cell?; rw [h0]; exact h1, by unfold World.cell?; rw [h0]; exact h2, by unfold World.cell?; rw [h0]; exact h3⟩

theorem ValsP.fields {v : VC} {a free cnt : Nat} {items : List (List Int × Value)} {w w1 : World} {r0 r1 r2 : Nat} (h : ValsP v a free cnt items w w1 r0 r1 r2) : w1.cell? ⟨v.c.X, 43, none⟩ = some (.bool v.c.once) := by
  obtain ⟨_, _, _, h2, _⟩ := h
  exact h2.fields.2.2

theorem RekM.fields {v : VC} {a tt free : Nat} {items : List (List Int × Value)} {w w1 : World} (h : RekM v a tt free items w w1) : w1.cell? ⟨v.c.X, 43, none⟩ = some (.bool v.c.once) := by
  obtain ⟨_, _, _, _, _, h2, _⟩ := h
  exact h2.fields.2.2

theorem RekP.pre {v : VC} {a tt free : Nat} {items : List (List Int × Value)} {w w0 w1 : World} (h : RekP v a tt free items w0 w1) (h0 : DFb v.c.X v.B v.c.C w w0) : RekP v a tt free items w w1 := by
  obtain ⟨a1, its, h1, h2⟩ := h
  exact ⟨a1, its, h0.trans h1, h2⟩

/-- A token's box stays. -/
theorem VW.tok {v : VC} {a : Nat} {items : List (List Int × Value)} {w w1 : World} (h : VW v a items w) {T : Nat} {cs : Array Value} (hT : w.heap[T]? = some (.cells cs 89 (0, 0))) (hf : DFb v.c.X v.B v.c.C w w1) : w1.heap[T]? = some (.cells cs 89 (0, 0)) := by
  refine hf.block _ _ hT ?_ ?_ (Or.inr fun c e => ?_)
  · rintro rfl
    obtain ⟨cur, h0, _⟩ := h.dv.xt
    rw [hT] at h0
    injection h0 with e; injection e with _ e _; exact absurd e (by decide)
  · rintro rfl
    have h0 := h.rd.box
    rw [hT] at h0
    injection h0 with e; injection e with _ e _; exact absurd e (by decide)
  · injection e with _ e _; exact absurd e (by decide)

/-- The registers of parts are not too great. -/
theorem VS.low {k z : Nat → Int} {par : Nat → Int} {once : Bool} {a a' free : Nat} {rs : List Nat} {c : List (List Int)} (h : VS k z par once a a' free rs c) {n nf vars : Nat} (hn : a' ≤ n) (ht : ∀ j, j < n → tokErr (k j) (z j) nf vars = 0) (hv : vars ≤ free) : ∀ r ∈ rs, r ≤ free + rs.length := by
  induction h with
  | nil a free => exact fun r hr => by cases hr
  | @loc a a' free rs c h2 hvs ih =>
    have b := hvs.wants.2
    have := ht a (by omega)
    rw [h2] at this
    simp [tokErr] at this
    have e : max free ((z a).toNat + 1) = free := by omega
    rw [e] at ih
    intro r hr
    rcases List.mem_cons.1 hr with rfl | hr
    · omega
    · have := ih hn hv r hr
      simp only [List.length_cons]
      omega
  | @cmp a a1 a' free os rs c1 c2 L hk h1 ho _ hL hz h2 ih1 ih2 =>
    intro r hr
    rcases List.mem_cons.1 hr with rfl | hr
    · omega
    · have := ih2 hn (by omega) r hr
      simp only [List.length_cons]
      omega

end Go.Proofs.YtbmenihakkogkabGreatDoor

namespace Go.Proofs.YtbmenihakkogkabGreatDoor
open Go.RowKit Go.Maps

theorem idxA0 (a b c : Value) (w : World) : (Instr.index 304 (.agg #[a, b, c]) (.int .i64 0)).run Tryz.prog w = .ok a w := by kernel_rfl
theorem idxA1 (a b c : Value) (w : World) : (Instr.index 304 (.agg #[a, b, c]) (.int .i64 1)).run Tryz.prog w = .ok b w := by kernel_rfl

theorem slA (O P : Nat) (hP : P ≤ 3) (w : World) : Sem.run Tryz.prog (Instr.sliceAt 304 (.pointer (some ⟨O, 0, none⟩)) none (some (.int .i64 P)) none) w = .ok (.slice (some ⟨O, 0, none⟩) P 3) w := by
  rcases (show P = 0 ∨ P = 1 ∨ P = 2 ∨ P = 3 by omega) with rfl | rfl | rfl | rfl <;> kernel_rfl

/-- What reckon does, at a token of kind K. -/
def RekCK (v : VC) (m : Nat) (K : Int) : Prop := ∀ (a tt free : Nat) (items : List (List Int × Value)) (w : World), v.k a = K → v.n - a ≤ m + 1 → a < v.n → ¬ v.k a = 2 → v.c.vars ≤ free → tt ≤ free → free + peak (v.n - a) ≤ v.c.vars + 17 → items.length + 41 * (v.n - a) + 100 ≤ 100000 → VW v (a + 1) items w →
  Calls Tryz.prog 241 #[.pointer (some ⟨v.c.X, 0, none⟩), .agg #[.int .i64 (v.k a), .int .i64 (v.z a)], .func (.func 242) #[] #[.pointer (some ⟨v.B, 0, none⟩), .pointer (some ⟨v.E, 0, none⟩)], .int .i64 tt, .int .i64 free] w fun e w' => (∃ u, e = .returned u) ∧ Hid (RekP v a tt free items w w')

end Go.Proofs.YtbmenihakkogkabGreatDoor

namespace Go.Proofs.YtbmenihakkogkabGreatDoor
open Go.RowKit Go.Maps

set_option maxRecDepth 20000 in
set_option maxHeartbeats 8000000 in
theorem dreck1 (v : VC) (ok : VOK v) (m : Nat) (H : ValsC v m) : RekCK v m 1 := by
  intro a tt free items wa hK hm ha hk hv htt hpk hil hwa
  have n24 := ok.n24
  have HPre : Hid (DFb v.c.X v.B v.c.C wa (wa.alloc (.cells #[.int .i64 (v.k a), .int .i64 (v.z a)] 89))) := (DFr.of (below_alloc wa _)).b v.B
  have hw : VW v (a + 1) items (wa.alloc (.cells #[.int .i64 (v.k a), .int .i64 (v.z a)] 89)) := hwa.of (below_alloc wa _)
  have hT : (wa.alloc (.cells #[.int .i64 (v.k a), .int .i64 (v.z a)] 89)).heap[wa.heap.size]? = some (.cells #[.int .i64 (v.k a), .int .i64 (v.z a)] 89 (0, 0)) := heap_alloc_new wa _
  clear hwa
  generalize hw0 : wa.alloc (.cells #[.int .i64 (v.k a), .int .i64 (v.z a)] 89) = w at *
  have HW0 : Hid (wa.alloc (.cells #[.int .i64 (v.k a), .int .i64 (v.z a)] 89) = w) := hw0
  clear hw0
  generalize hTs : wa.heap.size = T at *
  have HTs : Hid (wa.heap.size = T) := hTs
  clear hTs
  have hx := hw.dv.xlt
  have hpos := peak_pos (d := v.n - a) (by omega)
  have hfree : free ≤ 22 := by omega
  have htv : tt < v.c.vars + 17 := by omega
  have HTok : Hid (tokErr (v.k a) (v.z a) v.nf v.c.vars = 0) := ok.tok a ha
  have HAsk : Hid (asked v.k v.z v.par (a + 1) = asked v.k v.z v.par a + (asksOf (v.k a) (v.z a) v.par - 1) ∧ 1 ≤ asked v.k v.z v.par a) := ⟨rfl, ok.ask a ha⟩
  have HA0 : Hid (∀ op b d, asksOf (v.k a) (v.z a) v.par = 0 → tokIns (v.k a) (v.z a) tt [] = [op, (tt : Int), b, d] → ¬ op = 3 → Calls Tryz.prog 171 #[.pointer (some ⟨v.c.X, 0, none⟩), .agg #[.int .i64 op, .int .i64 tt, .int .i64 b, .int .i64 d, .slice none 0 0]] w fun e w' => (∃ u, e = .returned u) ∧ Hid (RekM v a tt free items w w')) := fun op b d h0 hl h3 => by
    refine VW.add (a1 := a + 1) (its := []) (os := []) (c1 := []) ok (DFb.refl _ _ _ w) (by rw [List.append_nil]; exact hw) (by omega) (VS.nil _ _) (by rw [h0]; rfl) rfl none 0 0 op b d (by rw [hl]; exact ⟨rfl, rfl, rfl⟩) (by rw [hl]; exact ⟨none, 0, rfl, by simp, Or.inl rfl⟩) (Or.inl (by rw [hl]; rfl)) hil (by omega) (fun h => absurd h h3)
  have HF0 : Hid (∀ w1, RekM v a tt free items w w1 → v.c.once = false → RekP v a tt free items w w1) := fun w1 h _ => h.off
  have HF1 : Hid (∀ w1, RekM v a tt free items w w1 → v.c.once = true → Calls Tryz.prog 206 #[.pointer (some ⟨v.c.X, 0, none⟩), .int .i64 ((max free (tt + 1) : Nat) : Int)] w1 fun e w' => (∃ u, e = .returned u) ∧ Hid (RekP v a tt free items w w')) := fun w1 h ho => h.clear ok ho hil ha htt (by omega)
  have HVs : Hid (∀ cnt : Nat, cnt ≤ 3 → asksOf (v.k a) (v.z a) v.par = cnt → Calls Tryz.prog 246 #[.pointer (some ⟨v.c.X, 0, none⟩), .int .i64 cnt, .func (.func 242) #[] #[.pointer (some ⟨v.B, 0, none⟩), .pointer (some ⟨v.E, 0, none⟩)], .int .i64 free] w fun e w' => ∃ r0 r1 r2 : Nat, e = .returned (.agg #[.int .i64 r0, .int .i64 r1, .int .i64 r2]) ∧ Hid (ValsP v (a + 1) free cnt items w w' r0 r1 r2)) := fun cnt h3 hc => by
    refine H (a + 1) free cnt items w h3 (by omega) (by omega) ?_ hv ?_ (by omega) hw
    · have := HAsk.out
      omega
    · rw [show v.n - (a + 1) + 1 = v.n - a by omega]; exact hpk
  have hwt : IntKind.i64.wrap ((tt : Int) + 1) = (tt : Int) + 1 := Go.IntWalk.i64_in _ (by omega)
  have hmax : max (free : Int) ((tt : Int) + 1) = ((max free (tt + 1) : Nat) : Int) := by omega
  have HW : Hid (VW v (a + 1) items w) := hw
  have HOK : Hid (VOK v) := ok
  have HTk : Hid (∀ w1, DFb v.c.X v.B v.c.C w w1 → w1.cell? ⟨T, 0, none⟩ = some (.int .i64 (v.k a)) ∧ w1.cell? ⟨T, 1, none⟩ = some (.int .i64 (v.z a))) := fun w1 hf => by
    have := hw.tok hT hf
    exact ⟨by unfold World.cell?; rw [this]; rfl, by unfold World.cell?; rw [this]; rfl⟩
  have HF0 : Hid (∀ w1, RekM v a tt free items w w1 → v.c.once = false → RekP v a tt free items wa w1) := fun w1 h ho => (HF0.out w1 h ho).pre HPre.out
  have HF1 : Hid (∀ w1, RekM v a tt free items w w1 → v.c.once = true → Calls Tryz.prog 206 #[.pointer (some ⟨v.c.X, 0, none⟩), .int .i64 ((max free (tt + 1) : Nat) : Int)] w1 fun e w' => (∃ u, e = .returned u) ∧ Hid (RekP v a tt free items wa w')) := fun w1 h ho => (HF1.out w1 h ho).mono fun e w' h => ⟨h.1, h.2.out.pre HPre.out⟩
  obtain ⟨kf, _, ko⟩ := hw.fields
  obtain ⟨t0, t1⟩ := HTk.out w (DFb.refl _ _ _ w)
  have HK : Hid (v.k a = 1) := hK
  clear hw ok H hpos hpk hT hK
  go_enter Tryz.func241, Tryz.ntmps241
  go_upto_region 1 with (fail)
  rw [HW0.out]
  simp only [HTs.out]
  have kw : ∀ w1, RekM v a tt free items w w1 → w1.cell? ⟨v.c.X, 43, none⟩ = some (.bool v.c.once) := fun w1 h => h.fields
  have HKW : Hid (∀ w1, RekM v a tt free items w w1 → w1.cell? ⟨v.c.X, 43, none⟩ = some (.bool v.c.once)) := kw
  clear kw
  have hK := HK.out
  have HC : Hid (Calls Tryz.prog 171 #[.pointer (some ⟨v.c.X, 0, none⟩), .agg #[.int .i64 1, .int .i64 tt, .int .i64 (v.z a), .int .i64 0, .slice none 0 0]] w fun e w' => (∃ u, e = .returned u) ∧ Hid (RekM v a tt free items w w')) := HA0.out 1 (v.z a) 0 (by rw [hK]; rfl) (by rw [hK]; rfl) (by decide)
  rw [hK] at t0
  cases ho : v.c.once with
  | false =>
    have HO : Hid (v.c.once = false) := ho
    clear ho hK hk
    go_wp2_with (first
      | (go_at_call 171; refine HC.out.mono ?_; rintro e w1 ⟨⟨u, rfl⟩, M1⟩; have ko1 := HKW.out w1 M1.out; rw [HO.out] at ko1))
    go_end0
    exact ⟨⟨_, rfl⟩, HF0.out w1 M1.out HO.out⟩
  | true =>
    have HO : Hid (v.c.once = true) := ho
    clear ho hK hk
    go_wp2_with (first
      | (go_at_call 171; refine HC.out.mono ?_; rintro e w1 ⟨⟨u, rfl⟩, M1⟩; have ko1 := HKW.out w1 M1.out; rw [HO.out] at ko1)
      | (go_at_call 206; refine (HF1.out w1 M1.out HO.out).mono ?_; rintro e w9 ⟨⟨u9, rfl⟩, P9⟩))
    go_end0
    exact ⟨⟨_, rfl⟩, P9⟩

end Go.Proofs.YtbmenihakkogkabGreatDoor

namespace Go.Proofs.YtbmenihakkogkabGreatDoor
open Go.RowKit Go.Maps

set_option maxRecDepth 20000 in
set_option maxHeartbeats 8000000 in
theorem dreck3 (v : VC) (ok : VOK v) (m : Nat) (H : ValsC v m) : RekCK v m 3 := by
  intro a tt free items wa hK hm ha hk hv htt hpk hil hwa
  have n24 := ok.n24
  have HPre : Hid (DFb v.c.X v.B v.c.C wa (wa.alloc (.cells #[.int .i64 (v.k a), .int .i64 (v.z a)] 89))) := (DFr.of (below_alloc wa _)).b v.B
  have hw : VW v (a + 1) items (wa.alloc (.cells #[.int .i64 (v.k a), .int .i64 (v.z a)] 89)) := hwa.of (below_alloc wa _)
  have hT : (wa.alloc (.cells #[.int .i64 (v.k a), .int .i64 (v.z a)] 89)).heap[wa.heap.size]? = some (.cells #[.int .i64 (v.k a), .int .i64 (v.z a)] 89 (0, 0)) := heap_alloc_new wa _
  clear hwa
  generalize hw0 : wa.alloc (.cells #[.int .i64 (v.k a), .int .i64 (v.z a)] 89) = w at *
  have HW0 : Hid (wa.alloc (.cells #[.int .i64 (v.k a), .int .i64 (v.z a)] 89) = w) := hw0
  clear hw0
  generalize hTs : wa.heap.size = T at *
  have HTs : Hid (wa.heap.size = T) := hTs
  clear hTs
  have hx := hw.dv.xlt
  have hpos := peak_pos (d := v.n - a) (by omega)
  have hfree : free ≤ 22 := by omega
  have htv : tt < v.c.vars + 17 := by omega
  have HTok : Hid (tokErr (v.k a) (v.z a) v.nf v.c.vars = 0) := ok.tok a ha
  have HAsk : Hid (asked v.k v.z v.par (a + 1) = asked v.k v.z v.par a + (asksOf (v.k a) (v.z a) v.par - 1) ∧ 1 ≤ asked v.k v.z v.par a) := ⟨rfl, ok.ask a ha⟩
  have HA0 : Hid (∀ op b d, asksOf (v.k a) (v.z a) v.par = 0 → tokIns (v.k a) (v.z a) tt [] = [op, (tt : Int), b, d] → ¬ op = 3 → Calls Tryz.prog 171 #[.pointer (some ⟨v.c.X, 0, none⟩), .agg #[.int .i64 op, .int .i64 tt, .int .i64 b, .int .i64 d, .slice none 0 0]] w fun e w' => (∃ u, e = .returned u) ∧ Hid (RekM v a tt free items w w')) := fun op b d h0 hl h3 => by
    refine VW.add (a1 := a + 1) (its := []) (os := []) (c1 := []) ok (DFb.refl _ _ _ w) (by rw [List.append_nil]; exact hw) (by omega) (VS.nil _ _) (by rw [h0]; rfl) rfl none 0 0 op b d (by rw [hl]; exact ⟨rfl, rfl, rfl⟩) (by rw [hl]; exact ⟨none, 0, rfl, by simp, Or.inl rfl⟩) (Or.inl (by rw [hl]; rfl)) hil (by omega) (fun h => absurd h h3)
  have HF0 : Hid (∀ w1, RekM v a tt free items w w1 → v.c.once = false → RekP v a tt free items w w1) := fun w1 h _ => h.off
  have HF1 : Hid (∀ w1, RekM v a tt free items w w1 → v.c.once = true → Calls Tryz.prog 206 #[.pointer (some ⟨v.c.X, 0, none⟩), .int .i64 ((max free (tt + 1) : Nat) : Int)] w1 fun e w' => (∃ u, e = .returned u) ∧ Hid (RekP v a tt free items w w')) := fun w1 h ho => h.clear ok ho hil ha htt (by omega)
  have HVs : Hid (∀ cnt : Nat, cnt ≤ 3 → asksOf (v.k a) (v.z a) v.par = cnt → Calls Tryz.prog 246 #[.pointer (some ⟨v.c.X, 0, none⟩), .int .i64 cnt, .func (.func 242) #[] #[.pointer (some ⟨v.B, 0, none⟩), .pointer (some ⟨v.E, 0, none⟩)], .int .i64 free] w fun e w' => ∃ r0 r1 r2 : Nat, e = .returned (.agg #[.int .i64 r0, .int .i64 r1, .int .i64 r2]) ∧ Hid (ValsP v (a + 1) free cnt items w w' r0 r1 r2)) := fun cnt h3 hc => by
    refine H (a + 1) free cnt items w h3 (by omega) (by omega) ?_ hv ?_ (by omega) hw
    · have := HAsk.out
      omega
    · rw [show v.n - (a + 1) + 1 = v.n - a by omega]; exact hpk
  have hwt : IntKind.i64.wrap ((tt : Int) + 1) = (tt : Int) + 1 := Go.IntWalk.i64_in _ (by omega)
  have hmax : max (free : Int) ((tt : Int) + 1) = ((max free (tt + 1) : Nat) : Int) := by omega
  have HW : Hid (VW v (a + 1) items w) := hw
  have HOK : Hid (VOK v) := ok
  have HTk : Hid (∀ w1, DFb v.c.X v.B v.c.C w w1 → w1.cell? ⟨T, 0, none⟩ = some (.int .i64 (v.k a)) ∧ w1.cell? ⟨T, 1, none⟩ = some (.int .i64 (v.z a))) := fun w1 hf => by
    have := hw.tok hT hf
    exact ⟨by unfold World.cell?; rw [this]; rfl, by unfold World.cell?; rw [this]; rfl⟩
  have HF0 : Hid (∀ w1, RekM v a tt free items w w1 → v.c.once = false → RekP v a tt free items wa w1) := fun w1 h ho => (HF0.out w1 h ho).pre HPre.out
  have HF1 : Hid (∀ w1, RekM v a tt free items w w1 → v.c.once = true → Calls Tryz.prog 206 #[.pointer (some ⟨v.c.X, 0, none⟩), .int .i64 ((max free (tt + 1) : Nat) : Int)] w1 fun e w' => (∃ u, e = .returned u) ∧ Hid (RekP v a tt free items wa w')) := fun w1 h ho => (HF1.out w1 h ho).mono fun e w' h => ⟨h.1, h.2.out.pre HPre.out⟩
  obtain ⟨kf, _, ko⟩ := hw.fields
  obtain ⟨t0, t1⟩ := HTk.out w (DFb.refl _ _ _ w)
  have HK : Hid (v.k a = 3) := hK
  clear hw ok H hpos hpk hT hK
  go_enter Tryz.func241, Tryz.ntmps241
  go_upto_region 1 with (fail)
  rw [HW0.out]
  simp only [HTs.out]
  have kw : ∀ w1, RekM v a tt free items w w1 → w1.cell? ⟨v.c.X, 43, none⟩ = some (.bool v.c.once) := fun w1 h => h.fields
  have HKW : Hid (∀ w1, RekM v a tt free items w w1 → w1.cell? ⟨v.c.X, 43, none⟩ = some (.bool v.c.once)) := kw
  clear kw
  have hK := HK.out
  have HV1 := HVs.out 2 (by decide) (by rw [hK]; rfl)
  have HV1 : Hid (Calls Tryz.prog 246 #[.pointer (some ⟨v.c.X, 0, none⟩), .int .i64 2, .func (.func 242) #[] #[.pointer (some ⟨v.B, 0, none⟩), .pointer (some ⟨v.E, 0, none⟩)], .int .i64 free] w fun e w' => ∃ r0 r1 r2 : Nat, e = .returned (.agg #[.int .i64 r0, .int .i64 r1, .int .i64 r2]) ∧ Hid (ValsP v (a + 1) free 2 items w w' r0 r1 r2)) := HV1
  have HG : Hid (∀ w1 r0 r1 r2, ValsP v (a + 1) free 2 items w w1 r0 r1 r2 → Calls Tryz.prog 171 #[.pointer (some ⟨v.c.X, 0, none⟩), .agg #[.int .i64 3, .int .i64 tt, .int .i64 (r0 : Nat), .int .i64 (r1 : Nat), .slice (some ⟨w1.heap.size + 1, 0, none⟩) 1 1]] ((w1.alloc (.cells #[.int .i64 (r0 : Int), .int .i64 (r1 : Int), .int .i64 (r2 : Int)] 304)).alloc (.cells #[.int .i64 (v.z a)] 3)) fun e w' => (∃ u, e = .returned u) ∧ Hid (RekM v a tt free items w w')) := fun w1 r0 r1 r2 h => by
    obtain ⟨a1, its, f1, f2, f3, f4⟩ := h
    have et : tokIns (v.k a) (v.z a) tt ([r0, r1, r2].take 2) = [3, (tt : Int), (r0 : Int), (r1 : Int), v.z a] := by rw [hK]; rfl
    obtain ⟨W, hW⟩ : ∃ W, w1.alloc (.cells #[.int .i64 (r0 : Int), .int .i64 (r1 : Int), .int .i64 (r2 : Int)] 304) = W := ⟨_, rfl⟩
    have hWs : W.heap.size = w1.heap.size + 1 := by rw [← hW]; simp
    rw [hW, ← hWs]
    have hbe : Below w1.heap.size w1 (W.alloc (.cells #[.int .i64 (v.z a)] 3)) := by rw [← hW]; exact below_step (below_alloc w1 _) (below_alloc _ _)
    have hlow := f4.low f3 HOK.out.tok hv
    have hr0 := hlow r0 (by simp)
    have hr1 := hlow r1 (by simp)
    simp at hr0 hr1
    refine VW.add (os := [r0, r1, r2].take 2) HOK.out (f1.trans ((DFr.of hbe).b v.B)) (f2.of hbe) f3 f4 (by rw [hK]; rfl) rfl (some ⟨W.heap.size, 0, none⟩) 1 1 3 r0 r1 (by rw [et]; exact ⟨rfl, rfl, rfl⟩) ?_ ?_ hil (by omega) (fun _ => ⟨by rw [et]; rfl, r0, r1, ⟨rfl, by omega⟩, rfl, by omega⟩)
    · rw [et]
      refine ⟨_, 1, rfl, by simp, Or.inr ⟨W.heap.size, 0, _, rfl, heap_alloc_new W _, fun i hi => ?_⟩⟩
      have : i = 0 := by simp at hi; omega
      subst this
      rfl
    · refine Or.inr fun x n d e => ?_
      injection e with e _ _
      injection e with e
      subst e
      have hb := (Array.getElem?_eq_some_iff.1 f2.rd.box).1
      show ¬ W.heap.size = v.B
      omega
  have HT1 : Hid (∀ w1 r0 r1 r2, ValsP v (a + 1) free 2 items w w1 r0 r1 r2 → w1.cell? ⟨T, 1, none⟩ = some (.int .i64 (v.z a)) ∧ T < w1.heap.size) := fun w1 r0 r1 r2 h => (by obtain ⟨_, _, f1, _⟩ := h; have := (HTk.out w1 f1).2; refine ⟨this, ?_⟩; unfold World.cell? at this; cases e : w1.heap[T]? with | none => rw [e] at this; cases this | some o => exact (Array.getElem?_eq_some_iff.1 e).1)
  rw [hK] at t0
  cases ho : v.c.once with
  | false =>
    have HO : Hid (v.c.once = false) := ho
    clear ho hK hk
    go_upto_region 11 with (first
      | (go_at_call 246; refine HV1.out.mono ?_; rintro e w1 ⟨r0, r1, r2, rfl, P1⟩; obtain ⟨t1', t1l⟩ := HT1.out w1 r0 r1 r2 P1.out; have HC := HG.out w1 r0 r1 r2 P1.out; have HC : Hid (Calls Tryz.prog 171 #[.pointer (some ⟨v.c.X, 0, none⟩), .agg #[.int .i64 3, .int .i64 tt, .int .i64 (r0 : Nat), .int .i64 (r1 : Nat), .slice (some ⟨w1.heap.size + 1, 0, none⟩) 1 1]] ((w1.alloc (.cells #[.int .i64 (r0 : Int), .int .i64 (r1 : Int), .int .i64 (r2 : Int)] 304)).alloc (.cells #[.int .i64 (v.z a)] 3)) fun e w' => (∃ u, e = .returned u) ∧ Hid (RekM v a tt free items w w')) := HC))
    go_wp2_with (first
      | (go_at_call 171; refine HC.out.mono ?_; rintro e w2 ⟨⟨u, rfl⟩, M1⟩; have ko1 := HKW.out w2 M1.out; rw [HO.out] at ko1))
    go_end0
    exact ⟨⟨_, rfl⟩, HF0.out w2 M1.out HO.out⟩
  | true =>
    have HO : Hid (v.c.once = true) := ho
    clear ho hK hk
    go_upto_region 11 with (first
      | (go_at_call 246; refine HV1.out.mono ?_; rintro e w1 ⟨r0, r1, r2, rfl, P1⟩; obtain ⟨t1', t1l⟩ := HT1.out w1 r0 r1 r2 P1.out; have HC := HG.out w1 r0 r1 r2 P1.out; have HC : Hid (Calls Tryz.prog 171 #[.pointer (some ⟨v.c.X, 0, none⟩), .agg #[.int .i64 3, .int .i64 tt, .int .i64 (r0 : Nat), .int .i64 (r1 : Nat), .slice (some ⟨w1.heap.size + 1, 0, none⟩) 1 1]] ((w1.alloc (.cells #[.int .i64 (r0 : Int), .int .i64 (r1 : Int), .int .i64 (r2 : Int)] 304)).alloc (.cells #[.int .i64 (v.z a)] 3)) fun e w' => (∃ u, e = .returned u) ∧ Hid (RekM v a tt free items w w')) := HC))
    go_wp2_with (first
      | (go_at_call 171; refine HC.out.mono ?_; rintro e w2 ⟨⟨u, rfl⟩, M1⟩; have ko1 := HKW.out w2 M1.out; rw [HO.out] at ko1)
      | (go_at_call 206; refine (HF1.out w2 M1.out HO.out).mono ?_; rintro e w9 ⟨⟨u9, rfl⟩, P9⟩))
    go_end0
    exact ⟨⟨_, rfl⟩, P9⟩

end Go.Proofs.YtbmenihakkogkabGreatDoor

namespace Go.Proofs.YtbmenihakkogkabGreatDoor
open Go.RowKit Go.Maps

set_option maxRecDepth 20000 in
set_option maxHeartbeats 8000000 in
theorem dreck4 (v : VC) (ok : VOK v) (m : Nat) (H : ValsC v m) : RekCK v m 4 := by
  intro a tt free items wa hK hm ha hk hv htt hpk hil hwa
  have n24 := ok.n24
  have HPre : Hid (DFb v.c.X v.B v.c.C wa (wa.alloc (.cells #[.int .i64 (v.k a), .int .i64 (v.z a)] 89))) := (DFr.of (below_alloc wa _)).b v.B
  have hw : VW v (a + 1) items (wa.alloc (.cells #[.int .i64 (v.k a), .int .i64 (v.z a)] 89)) := hwa.of (below_alloc wa _)
  have hT : (wa.alloc (.cells #[.int .i64 (v.k a), .int .i64 (v.z a)] 89)).heap[wa.heap.size]? = some (.cells #[.int .i64 (v.k a), .int .i64 (v.z a)] 89 (0, 0)) := heap_alloc_new wa _
  clear hwa
  generalize hw0 : wa.alloc (.cells #[.int .i64 (v.k a), .int .i64 (v.z a)] 89) = w at *
  have HW0 : Hid (wa.alloc (.cells #[.int .i64 (v.k a), .int .i64 (v.z a)] 89) = w) := hw0
  clear hw0
  generalize hTs : wa.heap.size = T at *
  have HTs : Hid (wa.heap.size = T) := hTs
  clear hTs
  have hx := hw.dv.xlt
  have hpos := peak_pos (d := v.n - a) (by omega)
  have hfree : free ≤ 22 := by omega
  have htv : tt < v.c.vars + 17 := by omega
  have HTok : Hid (tokErr (v.k a) (v.z a) v.nf v.c.vars = 0) := ok.tok a ha
  have HAsk : Hid (asked v.k v.z v.par (a + 1) = asked v.k v.z v.par a + (asksOf (v.k a) (v.z a) v.par - 1) ∧ 1 ≤ asked v.k v.z v.par a) := ⟨rfl, ok.ask a ha⟩
  have HA0 : Hid (∀ op b d, asksOf (v.k a) (v.z a) v.par = 0 → tokIns (v.k a) (v.z a) tt [] = [op, (tt : Int), b, d] → ¬ op = 3 → Calls Tryz.prog 171 #[.pointer (some ⟨v.c.X, 0, none⟩), .agg #[.int .i64 op, .int .i64 tt, .int .i64 b, .int .i64 d, .slice none 0 0]] w fun e w' => (∃ u, e = .returned u) ∧ Hid (RekM v a tt free items w w')) := fun op b d h0 hl h3 => by
    refine VW.add (a1 := a + 1) (its := []) (os := []) (c1 := []) ok (DFb.refl _ _ _ w) (by rw [List.append_nil]; exact hw) (by omega) (VS.nil _ _) (by rw [h0]; rfl) rfl none 0 0 op b d (by rw [hl]; exact ⟨rfl, rfl, rfl⟩) (by rw [hl]; exact ⟨none, 0, rfl, by simp, Or.inl rfl⟩) (Or.inl (by rw [hl]; rfl)) hil (by omega) (fun h => absurd h h3)
  have HF0 : Hid (∀ w1, RekM v a tt free items w w1 → v.c.once = false → RekP v a tt free items w w1) := fun w1 h _ => h.off
  have HF1 : Hid (∀ w1, RekM v a tt free items w w1 → v.c.once = true → Calls Tryz.prog 206 #[.pointer (some ⟨v.c.X, 0, none⟩), .int .i64 ((max free (tt + 1) : Nat) : Int)] w1 fun e w' => (∃ u, e = .returned u) ∧ Hid (RekP v a tt free items w w')) := fun w1 h ho => h.clear ok ho hil ha htt (by omega)
  have HVs : Hid (∀ cnt : Nat, cnt ≤ 3 → asksOf (v.k a) (v.z a) v.par = cnt → Calls Tryz.prog 246 #[.pointer (some ⟨v.c.X, 0, none⟩), .int .i64 cnt, .func (.func 242) #[] #[.pointer (some ⟨v.B, 0, none⟩), .pointer (some ⟨v.E, 0, none⟩)], .int .i64 free] w fun e w' => ∃ r0 r1 r2 : Nat, e = .returned (.agg #[.int .i64 r0, .int .i64 r1, .int .i64 r2]) ∧ Hid (ValsP v (a + 1) free cnt items w w' r0 r1 r2)) := fun cnt h3 hc => by
    refine H (a + 1) free cnt items w h3 (by omega) (by omega) ?_ hv ?_ (by omega) hw
    · have := HAsk.out
      omega
    · rw [show v.n - (a + 1) + 1 = v.n - a by omega]; exact hpk
  have hwt : IntKind.i64.wrap ((tt : Int) + 1) = (tt : Int) + 1 := Go.IntWalk.i64_in _ (by omega)
  have hmax : max (free : Int) ((tt : Int) + 1) = ((max free (tt + 1) : Nat) : Int) := by omega
  have HW : Hid (VW v (a + 1) items w) := hw
  have HOK : Hid (VOK v) := ok
  have HTk : Hid (∀ w1, DFb v.c.X v.B v.c.C w w1 → w1.cell? ⟨T, 0, none⟩ = some (.int .i64 (v.k a)) ∧ w1.cell? ⟨T, 1, none⟩ = some (.int .i64 (v.z a))) := fun w1 hf => by
    have := hw.tok hT hf
    exact ⟨by unfold World.cell?; rw [this]; rfl, by unfold World.cell?; rw [this]; rfl⟩
  have HF0 : Hid (∀ w1, RekM v a tt free items w w1 → v.c.once = false → RekP v a tt free items wa w1) := fun w1 h ho => (HF0.out w1 h ho).pre HPre.out
  have HF1 : Hid (∀ w1, RekM v a tt free items w w1 → v.c.once = true → Calls Tryz.prog 206 #[.pointer (some ⟨v.c.X, 0, none⟩), .int .i64 ((max free (tt + 1) : Nat) : Int)] w1 fun e w' => (∃ u, e = .returned u) ∧ Hid (RekP v a tt free items wa w')) := fun w1 h ho => (HF1.out w1 h ho).mono fun e w' h => ⟨h.1, h.2.out.pre HPre.out⟩
  obtain ⟨kf, _, ko⟩ := hw.fields
  obtain ⟨t0, t1⟩ := HTk.out w (DFb.refl _ _ _ w)
  have HK : Hid (v.k a = 4) := hK
  clear hw ok H hpos hpk hT hK
  go_enter Tryz.func241, Tryz.ntmps241
  go_upto_region 1 with (fail)
  rw [HW0.out]
  simp only [HTs.out]
  have kw : ∀ w1, RekM v a tt free items w w1 → w1.cell? ⟨v.c.X, 43, none⟩ = some (.bool v.c.once) := fun w1 h => h.fields
  have HKW : Hid (∀ w1, RekM v a tt free items w w1 → w1.cell? ⟨v.c.X, 43, none⟩ = some (.bool v.c.once)) := kw
  clear kw
  have hK := HK.out
  have HV1 := HVs.out 1 (by decide) (by rw [hK]; rfl)
  have HV1 : Hid (Calls Tryz.prog 246 #[.pointer (some ⟨v.c.X, 0, none⟩), .int .i64 1, .func (.func 242) #[] #[.pointer (some ⟨v.B, 0, none⟩), .pointer (some ⟨v.E, 0, none⟩)], .int .i64 free] w fun e w' => ∃ r0 r1 r2 : Nat, e = .returned (.agg #[.int .i64 r0, .int .i64 r1, .int .i64 r2]) ∧ Hid (ValsP v (a + 1) free 1 items w w' r0 r1 r2)) := HV1
  have HG : Hid (∀ w1 r0 r1 r2, ValsP v (a + 1) free 1 items w w1 r0 r1 r2 → Calls Tryz.prog 171 #[.pointer (some ⟨v.c.X, 0, none⟩), .agg #[.int .i64 4, .int .i64 tt, .int .i64 (r0 : Nat), .int .i64 (v.z a), .slice none 0 0]] (w1.alloc (.cells #[.int .i64 (r0 : Int), .int .i64 (r1 : Int), .int .i64 (r2 : Int)] 304)) fun e w' => (∃ u, e = .returned u) ∧ Hid (RekM v a tt free items w w')) := fun w1 r0 r1 r2 h => by
    obtain ⟨a1, its, f1, f2, f3, f4⟩ := h
    have et : tokIns (v.k a) (v.z a) tt ([r0, r1, r2].take 1) = [4, (tt : Int), (r0 : Int), v.z a] := by rw [hK]; rfl
    have hbe := below_alloc w1 (.cells #[.int .i64 (r0 : Int), .int .i64 (r1 : Int), .int .i64 (r2 : Int)] 304)
    exact VW.add (os := [r0, r1, r2].take 1) HOK.out (f1.trans ((DFr.of hbe).b v.B)) (f2.of hbe) f3 f4 (by rw [hK]; rfl) rfl none 0 0 4 r0 (v.z a) (by rw [et]; exact ⟨rfl, rfl, rfl⟩) (by rw [et]; exact ⟨none, 0, rfl, by simp, Or.inl rfl⟩) (Or.inl (by rw [et]; rfl)) hil (by omega) (fun h => absurd h (by decide))
  have HT1 : Hid (∀ w1 r0 r1 r2, ValsP v (a + 1) free 1 items w w1 r0 r1 r2 → w1.cell? ⟨T, 1, none⟩ = some (.int .i64 (v.z a)) ∧ T < w1.heap.size) := fun w1 r0 r1 r2 h => (by obtain ⟨_, _, f1, _⟩ := h; have := (HTk.out w1 f1).2; refine ⟨this, ?_⟩; unfold World.cell? at this; cases e : w1.heap[T]? with | none => rw [e] at this; cases this | some o => exact (Array.getElem?_eq_some_iff.1 e).1)
  rw [hK] at t0
  cases ho : v.c.once with
  | false =>
    have HO : Hid (v.c.once = false) := ho
    clear ho hK hk
    go_wp2_with (first
      | (go_at_call 246; refine HV1.out.mono ?_; rintro e w1 ⟨r0, r1, r2, rfl, P1⟩; obtain ⟨t1', t1l⟩ := HT1.out w1 r0 r1 r2 P1.out; have HC := HG.out w1 r0 r1 r2 P1.out; have HC : Hid (Calls Tryz.prog 171 #[.pointer (some ⟨v.c.X, 0, none⟩), .agg #[.int .i64 4, .int .i64 tt, .int .i64 (r0 : Nat), .int .i64 (v.z a), .slice none 0 0]] (w1.alloc (.cells #[.int .i64 (r0 : Int), .int .i64 (r1 : Int), .int .i64 (r2 : Int)] 304)) fun e w' => (∃ u, e = .returned u) ∧ Hid (RekM v a tt free items w w')) := HC)
      | (go_at_call 171; refine HC.out.mono ?_; rintro e w2 ⟨⟨u, rfl⟩, M1⟩; have ko1 := HKW.out w2 M1.out; rw [HO.out] at ko1))
    go_end0
    exact ⟨⟨_, rfl⟩, HF0.out w2 M1.out HO.out⟩
  | true =>
    have HO : Hid (v.c.once = true) := ho
    clear ho hK hk
    go_wp2_with (first
      | (go_at_call 246; refine HV1.out.mono ?_; rintro e w1 ⟨r0, r1, r2, rfl, P1⟩; obtain ⟨t1', t1l⟩ := HT1.out w1 r0 r1 r2 P1.out; have HC := HG.out w1 r0 r1 r2 P1.out; have HC : Hid (Calls Tryz.prog 171 #[.pointer (some ⟨v.c.X, 0, none⟩), .agg #[.int .i64 4, .int .i64 tt, .int .i64 (r0 : Nat), .int .i64 (v.z a), .slice none 0 0]] (w1.alloc (.cells #[.int .i64 (r0 : Int), .int .i64 (r1 : Int), .int .i64 (r2 : Int)] 304)) fun e w' => (∃ u, e = .returned u) ∧ Hid (RekM v a tt free items w w')) := HC)
      | (go_at_call 171; refine HC.out.mono ?_; rintro e w2 ⟨⟨u, rfl⟩, M1⟩; have ko1 := HKW.out w2 M1.out; rw [HO.out] at ko1)
      | (go_at_call 206; refine (HF1.out w2 M1.out HO.out).mono ?_; rintro e w9 ⟨⟨u9, rfl⟩, P9⟩))
    go_end0
    exact ⟨⟨_, rfl⟩, P9⟩

end Go.Proofs.YtbmenihakkogkabGreatDoor

namespace Go.Proofs.YtbmenihakkogkabGreatDoor
open Go.RowKit Go.Maps

set_option maxRecDepth 20000 in
set_option maxHeartbeats 8000000 in
theorem dreck5 (v : VC) (ok : VOK v) (m : Nat) (H : ValsC v m) : RekCK v m 5 := by
  intro a tt free items wa hK hm ha hk hv htt hpk hil hwa
  have n24 := ok.n24
  have HPre : Hid (DFb v.c.X v.B v.c.C wa (wa.alloc (.cells #[.int .i64 (v.k a), .int .i64 (v.z a)] 89))) := (DFr.of (below_alloc wa _)).b v.B
  have hw : VW v (a + 1) items (wa.alloc (.cells #[.int .i64 (v.k a), .int .i64 (v.z a)] 89)) := hwa.of (below_alloc wa _)
  have hT : (wa.alloc (.cells #[.int .i64 (v.k a), .int .i64 (v.z a)] 89)).heap[wa.heap.size]? = some (.cells #[.int .i64 (v.k a), .int .i64 (v.z a)] 89 (0, 0)) := heap_alloc_new wa _
  clear hwa
  generalize hw0 : wa.alloc (.cells #[.int .i64 (v.k a), .int .i64 (v.z a)] 89) = w at *
  have HW0 : Hid (wa.alloc (.cells #[.int .i64 (v.k a), .int .i64 (v.z a)] 89) = w) := hw0
  clear hw0
  generalize hTs : wa.heap.size = T at *
  have HTs : Hid (wa.heap.size = T) := hTs
  clear hTs
  have hx := hw.dv.xlt
  have hpos := peak_pos (d := v.n - a) (by omega)
  have hfree : free ≤ 22 := by omega
  have htv : tt < v.c.vars + 17 := by omega
  have HTok : Hid (tokErr (v.k a) (v.z a) v.nf v.c.vars = 0) := ok.tok a ha
  have HAsk : Hid (asked v.k v.z v.par (a + 1) = asked v.k v.z v.par a + (asksOf (v.k a) (v.z a) v.par - 1) ∧ 1 ≤ asked v.k v.z v.par a) := ⟨rfl, ok.ask a ha⟩
  have HA0 : Hid (∀ op b d, asksOf (v.k a) (v.z a) v.par = 0 → tokIns (v.k a) (v.z a) tt [] = [op, (tt : Int), b, d] → ¬ op = 3 → Calls Tryz.prog 171 #[.pointer (some ⟨v.c.X, 0, none⟩), .agg #[.int .i64 op, .int .i64 tt, .int .i64 b, .int .i64 d, .slice none 0 0]] w fun e w' => (∃ u, e = .returned u) ∧ Hid (RekM v a tt free items w w')) := fun op b d h0 hl h3 => by
    refine VW.add (a1 := a + 1) (its := []) (os := []) (c1 := []) ok (DFb.refl _ _ _ w) (by rw [List.append_nil]; exact hw) (by omega) (VS.nil _ _) (by rw [h0]; rfl) rfl none 0 0 op b d (by rw [hl]; exact ⟨rfl, rfl, rfl⟩) (by rw [hl]; exact ⟨none, 0, rfl, by simp, Or.inl rfl⟩) (Or.inl (by rw [hl]; rfl)) hil (by omega) (fun h => absurd h h3)
  have HF0 : Hid (∀ w1, RekM v a tt free items w w1 → v.c.once = false → RekP v a tt free items w w1) := fun w1 h _ => h.off
  have HF1 : Hid (∀ w1, RekM v a tt free items w w1 → v.c.once = true → Calls Tryz.prog 206 #[.pointer (some ⟨v.c.X, 0, none⟩), .int .i64 ((max free (tt + 1) : Nat) : Int)] w1 fun e w' => (∃ u, e = .returned u) ∧ Hid (RekP v a tt free items w w')) := fun w1 h ho => h.clear ok ho hil ha htt (by omega)
  have HVs : Hid (∀ cnt : Nat, cnt ≤ 3 → asksOf (v.k a) (v.z a) v.par = cnt → Calls Tryz.prog 246 #[.pointer (some ⟨v.c.X, 0, none⟩), .int .i64 cnt, .func (.func 242) #[] #[.pointer (some ⟨v.B, 0, none⟩), .pointer (some ⟨v.E, 0, none⟩)], .int .i64 free] w fun e w' => ∃ r0 r1 r2 : Nat, e = .returned (.agg #[.int .i64 r0, .int .i64 r1, .int .i64 r2]) ∧ Hid (ValsP v (a + 1) free cnt items w w' r0 r1 r2)) := fun cnt h3 hc => by
    refine H (a + 1) free cnt items w h3 (by omega) (by omega) ?_ hv ?_ (by omega) hw
    · have := HAsk.out
      omega
    · rw [show v.n - (a + 1) + 1 = v.n - a by omega]; exact hpk
  have hwt : IntKind.i64.wrap ((tt : Int) + 1) = (tt : Int) + 1 := Go.IntWalk.i64_in _ (by omega)
  have hmax : max (free : Int) ((tt : Int) + 1) = ((max free (tt + 1) : Nat) : Int) := by omega
  have HW : Hid (VW v (a + 1) items w) := hw
  have HOK : Hid (VOK v) := ok
  have HTk : Hid (∀ w1, DFb v.c.X v.B v.c.C w w1 → w1.cell? ⟨T, 0, none⟩ = some (.int .i64 (v.k a)) ∧ w1.cell? ⟨T, 1, none⟩ = some (.int .i64 (v.z a))) := fun w1 hf => by
    have := hw.tok hT hf
    exact ⟨by unfold World.cell?; rw [this]; rfl, by unfold World.cell?; rw [this]; rfl⟩
  have HF0 : Hid (∀ w1, RekM v a tt free items w w1 → v.c.once = false → RekP v a tt free items wa w1) := fun w1 h ho => (HF0.out w1 h ho).pre HPre.out
  have HF1 : Hid (∀ w1, RekM v a tt free items w w1 → v.c.once = true → Calls Tryz.prog 206 #[.pointer (some ⟨v.c.X, 0, none⟩), .int .i64 ((max free (tt + 1) : Nat) : Int)] w1 fun e w' => (∃ u, e = .returned u) ∧ Hid (RekP v a tt free items wa w')) := fun w1 h ho => (HF1.out w1 h ho).mono fun e w' h => ⟨h.1, h.2.out.pre HPre.out⟩
  obtain ⟨kf, _, ko⟩ := hw.fields
  obtain ⟨t0, t1⟩ := HTk.out w (DFb.refl _ _ _ w)
  have HK : Hid (v.k a = 5) := hK
  clear hw ok H hpos hpk hT hK
  go_enter Tryz.func241, Tryz.ntmps241
  go_upto_region 1 with (fail)
  rw [HW0.out]
  simp only [HTs.out]
  have kw : ∀ w1, RekM v a tt free items w w1 → w1.cell? ⟨v.c.X, 43, none⟩ = some (.bool v.c.once) := fun w1 h => h.fields
  have HKW : Hid (∀ w1, RekM v a tt free items w w1 → w1.cell? ⟨v.c.X, 43, none⟩ = some (.bool v.c.once)) := kw
  clear kw
  have hK := HK.out
  have HC : Hid (Calls Tryz.prog 171 #[.pointer (some ⟨v.c.X, 0, none⟩), .agg #[.int .i64 5, .int .i64 tt, .int .i64 (v.z a), .int .i64 0, .slice none 0 0]] w fun e w' => (∃ u, e = .returned u) ∧ Hid (RekM v a tt free items w w')) := HA0.out 5 (v.z a) 0 (by rw [hK]; rfl) (by rw [hK]; rfl) (by decide)
  rw [hK] at t0
  cases ho : v.c.once with
  | false =>
    have HO : Hid (v.c.once = false) := ho
    clear ho hK hk
    go_wp2_with (first
      | (go_at_call 171; refine HC.out.mono ?_; rintro e w1 ⟨⟨u, rfl⟩, M1⟩; have ko1 := HKW.out w1 M1.out; rw [HO.out] at ko1))
    go_end0
    exact ⟨⟨_, rfl⟩, HF0.out w1 M1.out HO.out⟩
  | true =>
    have HO : Hid (v.c.once = true) := ho
    clear ho hK hk
    go_wp2_with (first
      | (go_at_call 171; refine HC.out.mono ?_; rintro e w1 ⟨⟨u, rfl⟩, M1⟩; have ko1 := HKW.out w1 M1.out; rw [HO.out] at ko1)
      | (go_at_call 206; refine (HF1.out w1 M1.out HO.out).mono ?_; rintro e w9 ⟨⟨u9, rfl⟩, P9⟩))
    go_end0
    exact ⟨⟨_, rfl⟩, P9⟩

end Go.Proofs.YtbmenihakkogkabGreatDoor
