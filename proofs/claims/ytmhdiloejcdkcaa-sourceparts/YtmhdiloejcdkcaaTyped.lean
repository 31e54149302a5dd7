/- The closed fact of the sources' statements: a program of one statement is one, and like itself. -/
import Derived.Test.YtmhdiloejcdkcaaSameProg
import Derived.Test.YtmhdiloejcdkcaaCheckProg
namespace Go.Proofs.Ytmhdiloejcdkcaa
open Go.RowKit Go.Maps

def kT (i : Nat) : Int := if i = 0 then 3 else if i = 1 then 1 else 2
def zT (i : Nat) : Int := if i = 2 then 0 else 1
def ndT : Nd := ⟨3, 0, 3, kT, zT, 0, kT, zT⟩
def treeT : SL := fun p => if p = [] then (1, fun _ => ndT) else (0, fun _ => ndT)

theorem errT : progErr 1 (fun _ => 0) (fun _ => 1) 1 (fun _ => treeT) = 0 := by decide
theorem exprT0 : exprErr 3 kT zT 1 (fun _ => 0) 0 = 3 := by decide
theorem exprT1 : exprErr 2 kT zT 1 (fun _ => 0) 1 = 4 := by decide
theorem sameT : eqP 1 1 1 (fun _ => 0) (fun _ => 1) (fun _ => 0) (fun _ => 1) (fun _ => treeT) (fun _ => treeT) = true := by decide
theorem sizeT : size 1 treeT ≤ 4000000 := by decide

theorem size75 (w : World) : (sizeOf 75).run Try.prog w = .ok 2 w := by kernel_rfl

/-- The world behind the making of it. -/
def worldT (w : World) : World :=
  ((w.alloc (.cells #[.int .i64 3, .int .i64 1, .int .i64 1, .int .i64 1, .int .i64 2, .int .i64 0] 75)).alloc
    (.cells #[.int .i64 3, .int .i64 0, .slice (some ⟨w.heap.size, 0, none⟩) 3 3, .slice none 0 0, .slice none 0 0, .slice none 0 0] 58)).alloc
    (.cells #[.int .i64 0, .int .i64 1, .slice (some ⟨w.heap.size + 1, 0, none⟩) 1 1] 54)

theorem c0T (w : World) (i : Nat) {c : Value} (h : (#[.int .i64 3, .int .i64 1, .int .i64 1, .int .i64 1, .int .i64 2, .int .i64 0] : Array Value)[i]? = some c) : (worldT w).cell? ⟨w.heap.size, i, none⟩ = some c := by
  unfold worldT
  rw [World.cell?_alloc_lt _ _ _ (by simp; omega), World.cell?_alloc_lt _ _ _ (by simp), World.cell?_alloc_new]
  exact h

theorem new_at (w : World) (B : Nat) (hB : w.heap.size = B) (cs : Array Value) (t : TypeId) (i : Nat) {c : Value} (h : cs[i]? = some c) : (w.alloc (.cells cs t)).cell? ⟨B, i, none⟩ = some c := by
  subst hB
  rw [World.cell?_alloc_new]
  exact h

theorem c1T (w : World) (i : Nat) {c : Value} (h : (#[.int .i64 3, .int .i64 0, .slice (some ⟨w.heap.size, 0, none⟩) 3 3, .slice none 0 0, .slice none 0 0, .slice none 0 0] : Array Value)[i]? = some c) : (worldT w).cell? ⟨w.heap.size + 1, i, none⟩ = some c := by
  unfold worldT
  rw [World.cell?_alloc_lt _ _ _ (by simp)]
  exact new_at _ _ (by simp) _ _ i h

theorem c2T (w : World) (i : Nat) {c : Value} (h : (#[.int .i64 0, .int .i64 1, .slice (some ⟨w.heap.size + 1, 0, none⟩) 1 1] : Array Value)[i]? = some c) : (worldT w).cell? ⟨w.heap.size + 1 + 1, i, none⟩ = some c := by
  unfold worldT
  exact new_at _ _ (by simp) _ _ i h

theorem toksT (w : World) (n : Nat) (hn : n ≤ 3) : ToksAt (worldT w).heap.size (worldT w) (.slice (some ⟨w.heap.size, 0, none⟩) n 3) n kT zT := by
  refine ⟨_, _, rfl, by omega, Or.inr ⟨w.heap.size, 0, rfl, by simp [worldT]; omega, fun i hi => ?_⟩⟩
  match i, hi with
  | 0, _ => exact ⟨c0T w 0 rfl, c0T w 1 rfl⟩
  | 1, _ => exact ⟨c0T w 2 rfl, c0T w 3 rfl⟩
  | 2, _ => exact ⟨c0T w 4 rfl, c0T w 5 rfl⟩
  | i + 3, h => omega

theorem stmtsT (w : World) : StmtsAt (worldT w).heap.size (worldT w) 1 (.slice (some ⟨w.heap.size + 1, 0, none⟩) 1 1) treeT := by
  refine ⟨_, _, rfl, by decide, Or.inr ⟨w.heap.size + 1, 0, rfl, by simp [worldT], fun i hi => ?_⟩⟩
  obtain rfl : i = 0 := by
    have : i < 1 := hi
    omega
  refine ⟨.slice (some ⟨w.heap.size, 0, none⟩) 3 3, .slice none 0 0, .slice none 0 0, .slice none 0 0, c1T w 0 rfl, c1T w 1 rfl, c1T w 2 rfl, c1T w 3 rfl, c1T w 4 rfl, c1T w 5 rfl, toksT w 3 (Nat.le_refl _), ⟨none, 0, rfl, by decide, Or.inl rfl⟩, ⟨rfl, none, 0, rfl⟩, ⟨rfl, none, 0, rfl⟩⟩

theorem funsT (w : World) : FunsAt (worldT w).heap.size (worldT w) (.slice (some ⟨w.heap.size + 1 + 1, 0, none⟩) 1 1) 1 (fun _ => 0) (fun _ => 1) (fun _ => .slice (some ⟨w.heap.size + 1, 0, none⟩) 1 1) := by
  refine ⟨_, _, rfl, by decide, Or.inr ⟨w.heap.size + 1 + 1, 0, rfl, by simp [worldT], fun i hi => ?_⟩⟩
  obtain rfl : i = 0 := by omega
  exact ⟨c2T w 0 rfl, c2T w 1 rfl, c2T w 2 rfl, _, _, _, rfl⟩

theorem belowT (w : World) : Below w.heap.size w (worldT w) := below_step (below_step (below_alloc _ _) (below_alloc _ _)) (below_alloc _ _)

set_option maxHeartbeats 1000000 in
theorem typed (w : World) : Calls Try.prog 23 #[] w fun e w' => e = .returned (.bool true) ∧ Below w.heap.size w w' := by
  have HB : Hid (Below w.heap.size w (worldT w)) := belowT w
  have H1 : Hid (Calls Try.prog 24 #[.slice (some ⟨w.heap.size + 1 + 1, 0, none⟩) 1 1] (worldT w) fun e w' => e = .returned (.int .i64 0) ∧ Below (worldT w).heap.size (worldT w) w') := by
    have := check (worldT w).heap.size _ 1 (fun _ => 0) (fun _ => 1) _ 1 (fun _ => treeT) (worldT w) (Nat.le_refl _) (funsT w) (fun _ _ => stmtsT w)
    rw [errT] at this; exact this
  have H2 : Hid (∀ wk, Below (worldT w).heap.size (worldT w) wk → Calls Try.prog 28 #[.slice (some ⟨w.heap.size, 0, none⟩) 3 3, .slice (some ⟨w.heap.size + 1 + 1, 0, none⟩) 1 1, .int .i64 0] wk fun e w' => e = .returned (.int .i64 3) ∧ Below wk.heap.size wk w') := fun wk hk => by
    have := expr (worldT w).heap.size _ _ 3 kT zT 1 (fun _ => 0) (fun _ => 1) _ 0 wk hk.size ((toksT w 3 (by omega)).below hk) ((funsT w).below hk)
    rw [exprT0] at this; exact this
  have H3 : Hid (∀ wk, Below (worldT w).heap.size (worldT w) wk → Calls Try.prog 28 #[.slice (some ⟨w.heap.size, 0, none⟩) 2 3, .slice (some ⟨w.heap.size + 1 + 1, 0, none⟩) 1 1, .int .i64 1] wk fun e w' => e = .returned (.int .i64 4) ∧ Below wk.heap.size wk w') := fun wk hk => by
    have := expr (worldT w).heap.size _ _ 2 kT zT 1 (fun _ => 0) (fun _ => 1) _ 1 wk hk.size ((toksT w 2 (by omega)).below hk) ((funsT w).below hk)
    rw [exprT1] at this; exact this
  have H4 : Hid (∀ wk, Below (worldT w).heap.size (worldT w) wk → Calls Try.prog 26 #[.slice (some ⟨w.heap.size + 1 + 1, 0, none⟩) 1 1, .slice (some ⟨w.heap.size + 1 + 1, 0, none⟩) 1 1] wk fun e w' => e = .returned (.bool true) ∧ Below wk.heap.size wk w') := fun wk hk => by
    have := sameProg (worldT w).heap.size 0 _ _ 1 1 (fun _ => 0) (fun _ => 1) (fun _ => 0) (fun _ => 1) _ _ (fun _ => treeT) (fun _ => treeT) wk hk.size ((funsT w).below hk) ((funsT w).below hk) (fun _ _ => (stmtsT w).below hk) (fun _ _ => (stmtsT w).below hk) (fun _ _ => sizeT)
    rw [sameT] at this; exact this
  have hsl := slice_to Try.underlying46 size75 ⟨w.heap.size, 0, none⟩ 3 3 2 2 rfl (by decide)
  go_enter Try.func23, Try.ntmps23
  go_wp2_with (first
    | (go_at_call 26; refine (H4.out _ (below_step (below_step hb1 hb2) hb3)).mono ?_; rintro e w4 ⟨rfl, hb4⟩)
    | (go_at_call 28; refine (H3.out _ (below_step hb1 hb2)).mono ?_; rintro e w3 ⟨rfl, hb3⟩)
    | (go_at_call 28; refine (H2.out _ hb1).mono ?_; rintro e w2 ⟨rfl, hb2⟩)
    | (go_at_call 24; refine H1.out.mono ?_; rintro e w1 ⟨rfl, hb1⟩))
  go_ret
  exact ⟨rfl, below_step HB.out (below_step (below_step (below_step hb1 hb2) hb3) hb4)⟩

end Go.Proofs.Ytmhdiloejcdkcaa
