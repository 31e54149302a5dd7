/- The text of statements between braces, by the reckoning: at no depth, and what the words come to. -/
import Derived.Test.YtfblnmbcaglliabGreatDoorPartQ
import Derived.Test.YtfblnmbcaglliabGreatDoorPartHeads
import Derived.Deep.RegionHeldLaw
import Derived.Deep.RegionHeld3
namespace Go.Proofs.YtfblnmbcaglliabGreatDoor
open Go.RowKit Go.Maps

/-- The text of statements between braces. -/
def blkT (d : Nat) (T : SL) : List UInt8 := (blankL (blkW d T)).tail

theorem blkT_cons (d : Nat) (T : SL) : blankL (blkW d T) = 32 :: blkT d T := by
  cases d <;> simp [blkT, blkW, blankL]

theorem obW_data : obW.data.toList = [123] := by decide +kernel
theorem cbW_data : cbW.data.toList = [125] := by decide +kernel

theorem blkT_zero (T : SL) : blkT 0 T = [123, 32, 125] := by
  simp [blkT, blkW, blankL, obW_data, cbW_data]

theorem blkT_succ (d : Nat) (T : SL) : blkT (d + 1) T = (123 :: blankL (catTo (itW d T) T.len)) ++ [32, 125] := by
  have e : blkW (d + 1) T = ([obW] ++ catTo (itW d T) T.len) ++ [cbW] := rfl
  rw [blkT, e, blankL_append, blankL_append, blankL_one, blankL_one, obW_data, cbW_data]
  rfl

/-- blockText, at right statements of a depth. -/
def BTextOK (N nf : Nat) (par : Nat → Int) (locals : Int) (d : Nat) : Prop :=
  ∀ (l : Value) (T : SL) (w : World), N ≤ w.heap.size → Env N w → Spc N w → StmtsAt N w d l T → errs (stErr nf par locals) d T = 0 → (blkT d T).length ≤ 9000000 →
    Calls Tryz.prog 27 #[l] w fun e w' => e = .returned (.string (bs (blkT d T))) ∧ Below w.heap.size w w'

/-- What the text of one statement more comes to. -/
theorem itT (d : Nat) (T : SL) (j : Nat) : blankL (itW d T j) = (((32 :: stL (T.nd j).kind.toNat) ++ blankL (nPart (T.nd j))) ++ (blankL (toksW (T.nd j).ek (T.nd j).ez (T.nd j).ne) ++ blankL (toksW (T.nd j).fk (T.nd j).fz (T.nd j).nf))) ++
    blankL (aPart (blkW d) (T.nd j) (T.sub j false)) ++ blankL (bPart (blkW d) (T.nd j) (T.sub j true)) := by
  rw [itW, stmtW_all, tPart_two]
  simp only [blankL_append, blankL_one, bs_data, List.append_assoc]

theorem blankTo_le (f : Nat → List Wd) : ∀ {j n : Nat}, j ≤ n → (blankL (catTo f j)).length ≤ (blankL (catTo f n)).length
  | j, 0, h => by obtain rfl : j = 0 := by omega
                  exact Nat.le_refl _
  | j, n + 1, h => by
    by_cases e : j = n + 1
    · subst e; exact Nat.le_refl _
    · have := blankTo_le f (j := j) (n := n) (by omega)
      simp only [catTo, blankL_append, List.length_append]; omega

set_option maxHeartbeats 2000000 in
theorem blockText_zero (N nf : Nat) (par : Nat → Int) (locals : Int) : BTextOK N nf par locals 0 := by
  intro l T w hN he hsp hs _ _
  obtain ⟨_, a, cap, rfl⟩ := hs
  clear he hsp
  have HZ : Hid (blkT 0 T = [123, 32, 125]) := blkT_zero T
  go_enter Tryz.func27, Tryz.ntmps27
  go_upto_region 3 with (fail)
  go_loopw [3, 8] (fun q i wr => i = .int .i64 0 ∧ q = .string ⟨#[123]⟩ ∧ wr = w) (fun _ _ _ => 0)
  case atStart => exact ⟨rfl, rfl, rfl⟩
  case round =>
    obtain ⟨rfl, rfl, rfl⟩ := hrel
    go_wp2_with fail
    go_ret
    exact ⟨by rw [HZ.out]; rfl, Below.refl _ _⟩

end Go.Proofs.YtfblnmbcaglliabGreatDoor

namespace Go.Proofs.YtfblnmbcaglliabGreatDoor
open Go.RowKit Go.Maps

/-- The words, where they lie. -/
theorem fieldsG (N : Nat) (w : World) (h : Spc N w) :
    Calls Tryz.prog 37 #[.string ⟨#[115, 101, 116, 32, 112, 117, 116, 32, 115, 97, 121, 32, 112, 97, 117, 115, 101, 32, 103, 111, 32, 105, 102, 32, 119, 104, 105, 108, 101, 32, 114, 101, 116, 117, 114, 110]⟩] w fun e w' => ∃ g, e = .returned (.slice (some ⟨g, 0, none⟩) 8 8) ∧
      (∀ K, 1 ≤ K → K ≤ 8 → w'.cell? ⟨g, K - 1, none⟩ = some (.string (bs (stL K)))) ∧ Below w.heap.size w w' := by
  refine (fieldsK N w h).mono ?_
  rintro e w' ⟨rfl, rfl⟩
  refine ⟨_, rfl, fun K h1 h8 => ?_, below_alloc _ _⟩
  have : K = 1 ∨ K = 2 ∨ K = 3 ∨ K = 4 ∨ K = 5 ∨ K = 6 ∨ K = 7 ∨ K = 8 := by omega
  rcases this with rfl | rfl | rfl | rfl | rfl | rfl | rfl | rfl <;> exact box_in (Below.refl _ _) _ rfl


/-- The box of a statement, kept. -/
theorem boxSix {w : World} {cs : Array Value} {t : TypeId} {K : Int} {z : Int} {xe xf xa xb : Value} (hcs : cs = #[.int .i64 K, .int .i64 z, xe, xf, xa, xb]) :
    Hid (∀ w1, Below (w.alloc (.cells cs t)).heap.size (w.alloc (.cells cs t)) w1 → w1.cell? ⟨w.heap.size, 0, none⟩ = some (.int .i64 K) ∧ w1.cell? ⟨w.heap.size, 1, none⟩ = some (.int .i64 z) ∧ w1.cell? ⟨w.heap.size, 2, none⟩ = some xe ∧ w1.cell? ⟨w.heap.size, 3, none⟩ = some xf ∧ w1.cell? ⟨w.heap.size, 4, none⟩ = some xa ∧ w1.cell? ⟨w.heap.size, 5, none⟩ = some xb) := by
  subst hcs
  exact fun w1 hb => ⟨box_in hb 0 rfl, box_in hb 1 rfl, box_in hb 2 rfl, box_in hb 3 rfl, box_in hb 4 rfl, box_in hb 5 rfl⟩

theorem st_24 {nf : Nat} {par : Nat → Int} {locals : Int} {s : Nd} {na nb : Nat} (hs : stErr nf par locals s na nb = 0) : s.ne ≤ 24 ∧ s.nf ≤ 24 := by
  obtain ⟨f0, f1, f2, f3⟩ := stErr_zero hs
  obtain ⟨k1, k2, kn, ke, kf, ka, kb⟩ := formErr_zero f0
  constructor
  · by_cases c : s.kind = 4
    · omega
    · exact (exprErr_zero (f2.resolve_left c)).1
  · by_cases c : s.kind = 2
    · exact (exprErr_zero (f3.resolve_left fun x => x c)).1
    · omega

end Go.Proofs.YtfblnmbcaglliabGreatDoor
