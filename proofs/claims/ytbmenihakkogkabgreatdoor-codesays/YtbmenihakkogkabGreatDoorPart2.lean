import Derived.Test.YtbmenihakkogkabGreatDoorPart1
import Derived.Deep.Light
import Derived.Maps.OwnSet
import Derived.Maps.AppendAt
import Derived.Lib.SliceRun
import Derived.Lib.ItoaNum
import Derived.Lib.AtoiAll
import Derived.Lib.Join
import Derived.Lib.Split
import Derived.RowKit
namespace Go.Proofs.YtbmenihakkogkabGreatDoor
open Go.ChangeShapes Go.WideShapes Go.ChangeAt Go.RowKit
def ToksAt (N : Nat) (w : World) (v : Value) (n : Nat) (k z : Nat → Int) : Prop :=
  ∃ a cap, v = .slice a n cap ∧ n ≤ 9223372036854775807 ∧ (n = 0 ∨ ∃ b o, a = some ⟨b, o, none⟩ ∧ b < N ∧ ∀ i, i < n → w.cell? ⟨b, o + i * 2, none⟩ = some (.int .i64 (k i)) ∧ w.cell? ⟨b, o + i * 2 + 1, none⟩ = some (.int .i64 (z i)))
def FunsAt (N : Nat) (w : World) (v : Value) (n : Nat) (par loc : Nat → Int) (bv : Nat → Value) : Prop :=
  ∃ a cap, v = .slice a n cap ∧ n ≤ 9223372036854775807 ∧ (n = 0 ∨ ∃ b o, a = some ⟨b, o, none⟩ ∧ b < N ∧ ∀ i, i < n → w.cell? ⟨b, o + i * 3, none⟩ = some (.int .i64 (par i)) ∧ w.cell? ⟨b, o + i * 3 + 1, none⟩ = some (.int .i64 (loc i)) ∧ w.cell? ⟨b, o + i * 3 + 2, none⟩ = some (bv i) ∧ ∃ x m c, bv i = .slice x m c)
def StmtsAt (N : Nat) (w : World) : Nat → Value → SL → Prop
  | 0, v, T => T.len = 0 ∧ ∃ a cap, v = .slice a 0 cap
  | d + 1, v, T => ∃ a cap, v = .slice a T.len cap ∧ T.len ≤ 9223372036854775807 ∧ (T.len = 0 ∨ ∃ b o, a = some ⟨b, o, none⟩ ∧ b < N ∧ ∀ i, i < T.len →
      ∃ ve vf va vb, w.cell? ⟨b, o + i * 6, none⟩ = some (.int .i64 (T.nd i).kind) ∧ w.cell? ⟨b, o + i * 6 + 1, none⟩ = some (.int .i64 (T.nd i).num) ∧ w.cell? ⟨b, o + i * 6 + 2, none⟩ = some ve ∧ w.cell? ⟨b, o + i * 6 + 3, none⟩ = some vf ∧
        w.cell? ⟨b, o + i * 6 + 4, none⟩ = some va ∧ w.cell? ⟨b, o + i * 6 + 5, none⟩ = some vb ∧
        ToksAt N w ve (T.nd i).ne (T.nd i).ek (T.nd i).ez ∧ ToksAt N w vf (T.nd i).nf (T.nd i).fk (T.nd i).fz ∧ StmtsAt N w d va (T.sub i false) ∧ StmtsAt N w d vb (T.sub i true))
theorem ToksAt.below {N : Nat} {w w' : World} {v : Value} {n : Nat} {k z : Nat → Int} (h : ToksAt N w v n k z) (hb : Below N w w') : ToksAt N w' v n k z := by
  obtain ⟨a, cap, rfl, hn, h | ⟨b, o, rfl, hlt, hc⟩⟩ := h
  · exact ⟨a, cap, rfl, hn, Or.inl h⟩
  · exact ⟨_, cap, rfl, hn, Or.inr ⟨b, o, rfl, hlt, fun i hi => by rw [hb.cell hlt, hb.cell hlt]; exact hc i hi⟩⟩
theorem FunsAt.below {N : Nat} {w w' : World} {v : Value} {n : Nat} {p l : Nat → Int} {bv : Nat → Value} (h : FunsAt N w v n p l bv) (hb : Below N w w') : FunsAt N w' v n p l bv := by
  obtain ⟨a, cap, rfl, hn, h | ⟨b, o, rfl, hlt, hc⟩⟩ := h
  · exact ⟨a, cap, rfl, hn, Or.inl h⟩
  · exact ⟨_, cap, rfl, hn, Or.inr ⟨b, o, rfl, hlt, fun i hi => by rw [hb.cell hlt, hb.cell hlt, hb.cell hlt]; exact hc i hi⟩⟩
theorem StmtsAt.below {N : Nat} {w w' : World} (hb : Below N w w') : ∀ {d : Nat} {v : Value} {T : SL}, StmtsAt N w d v T → StmtsAt N w' d v T
  | 0, _, _, h => h
  | d + 1, v, T, h => by
    obtain ⟨a, cap, rfl, hn, h | ⟨b, o, rfl, hlt, hc⟩⟩ := h
    · exact ⟨a, cap, rfl, hn, Or.inl h⟩
    · refine ⟨_, cap, rfl, hn, Or.inr ⟨b, o, rfl, hlt, fun i hi => ?_⟩⟩
      obtain ⟨ve, vf, va, vb, c0, c1, c2, c3, c4, c5, t1, t2, s1, s2⟩ := hc i hi
      exact ⟨ve, vf, va, vb, by rw [hb.cell hlt]; exact c0, by rw [hb.cell hlt]; exact c1, by rw [hb.cell hlt]; exact c2, by rw [hb.cell hlt]; exact c3, by rw [hb.cell hlt]; exact c4, by rw [hb.cell hlt]; exact c5,
        t1.below hb, t2.below hb, s1.below hb, s2.below hb⟩
theorem ToksAt.up {N M : Nat} {w : World} {v : Value} {n : Nat} {k z : Nat → Int} (h : ToksAt N w v n k z) (hm : N ≤ M) : ToksAt M w v n k z := by
  obtain ⟨a, cap, rfl, hn, h | ⟨b, o, rfl, hlt, hc⟩⟩ := h
  · exact ⟨a, cap, rfl, hn, Or.inl h⟩
  · exact ⟨_, cap, rfl, hn, Or.inr ⟨b, o, rfl, by omega, hc⟩⟩
theorem FunsAt.up {N M : Nat} {w : World} {v : Value} {n : Nat} {p l : Nat → Int} {bv : Nat → Value} (h : FunsAt N w v n p l bv) (hm : N ≤ M) : FunsAt M w v n p l bv := by
  obtain ⟨a, cap, rfl, hn, h | ⟨b, o, rfl, hlt, hc⟩⟩ := h
  · exact ⟨a, cap, rfl, hn, Or.inl h⟩
  · exact ⟨_, cap, rfl, hn, Or.inr ⟨b, o, rfl, by omega, hc⟩⟩
theorem StmtsAt.up {N M : Nat} {w : World} (hm : N ≤ M) : ∀ {d : Nat} {v : Value} {T : SL}, StmtsAt N w d v T → StmtsAt M w d v T
  | 0, _, _, h => h
  | d + 1, v, T, h => by
    obtain ⟨a, cap, rfl, hn, h | ⟨b, o, rfl, hlt, hc⟩⟩ := h
    · exact ⟨a, cap, rfl, hn, Or.inl h⟩
    · refine ⟨_, cap, rfl, hn, Or.inr ⟨b, o, rfl, by omega, fun i hi => ?_⟩⟩
      obtain ⟨ve, vf, va, vb, c0, c1, c2, c3, c4, c5, t1, t2, s1, s2⟩ := hc i hi
      exact ⟨ve, vf, va, vb, c0, c1, c2, c3, c4, c5, t1.up hm, t2.up hm, s1.up hm, s2.up hm⟩
theorem StmtsAt.shape {N : Nat} {w : World} {d : Nat} {v : Value} {T : SL} (h : StmtsAt N w d v T) : ∃ a cap, v = .slice a T.len cap ∧ T.len ≤ 9223372036854775807 := by
  cases d with
  | zero => obtain ⟨e, a, cap, rfl⟩ := h; rw [e]; exact ⟨a, cap, rfl, by omega⟩
  | succ d => obtain ⟨a, cap, rfl, hn, _⟩ := h; exact ⟨a, cap, rfl, hn⟩
theorem ToksAt.shape {N : Nat} {w : World} {v : Value} {n : Nat} {k z : Nat → Int} (h : ToksAt N w v n k z) : ∃ a cap, v = .slice a n cap ∧ n ≤ 9223372036854775807 := by
  obtain ⟨a, cap, rfl, hn, _⟩ := h; exact ⟨a, cap, rfl, hn⟩
theorem FunsAt.shape {N : Nat} {w : World} {v : Value} {n : Nat} {p l : Nat → Int} {bv : Nat → Value} (h : FunsAt N w v n p l bv) : ∃ a cap, v = .slice a n cap ∧ n ≤ 9223372036854775807 := by
  obtain ⟨a, cap, rfl, hn, _⟩ := h; exact ⟨a, cap, rfl, hn⟩
theorem StmtsAt.trim {N : Nat} {w : World} : ∀ {d : Nat} {v : Value} {T : SL} {left : Nat}, fits d T left → StmtsAt N w d v T → StmtsAt N w left v T
  | 0, v, T, left, _, h => by
    cases left with
    | zero => exact h
    | succ l => obtain ⟨e, a, cap, rfl⟩ := h; exact ⟨a, cap, by rw [e], by omega, Or.inl e⟩
  | d + 1, v, T, left, hf, h => by
    obtain ⟨a, cap, rfl, hn, hc⟩ := h
    by_cases e : T.len = 0
    · cases left with
      | zero => exact ⟨e, a, cap, by rw [e]⟩
      | succ l => exact ⟨a, cap, rfl, hn, Or.inl e⟩
    · rcases hf with hf | ⟨h0, hf⟩
      · exact absurd hf e
      rcases hc with hc | ⟨b, o, rfl, hlt, hc⟩
      · exact absurd hc e
      cases left with
      | zero => omega
      | succ l =>
        refine ⟨_, cap, rfl, hn, Or.inr ⟨b, o, rfl, hlt, fun i hi => ?_⟩⟩
        obtain ⟨ve, vf, va, vb, c0, c1, c2, c3, c4, c5, t1, t2, s1, s2⟩ := hc i hi
        exact ⟨ve, vf, va, vb, c0, c1, c2, c3, c4, c5, t1, t2, StmtsAt.trim (hf i hi).1 s1, StmtsAt.trim (hf i hi).2 s2⟩
theorem rtn {a b : Int} (h : a = b) : Ending.returned (.int .i64 a) = .returned (.int .i64 b) := by rw [h]
theorem below_up {N : Nat} {a b c : World} (h : Below N a b) (k : Below b.heap.size b c) (hn : N ≤ a.heap.size) : Below N a c := h.trans (k.mono (Nat.le_trans hn h.size))
theorem box_at {w w1 : World} {cs : Array Value} {t : TypeId} {M : Nat} (hb : Below M (w.alloc (.cells cs t)) w1) (hM : w.heap.size < M) (i : Nat) {c : Value} (h : cs[i]? = some c) : w1.cell? ⟨w.heap.size, i, none⟩ = some c := by
  rw [hb.cell (p := ⟨w.heap.size, i, none⟩) hM, World.cell?_alloc_new]
  exact h
theorem bxi {w w1 : World} {cs : Array Value} {t : TypeId} (hb : Below (w.alloc (.cells cs t)).heap.size (w.alloc (.cells cs t)) w1) (i : Nat) {c : Value} (h : cs[i]? = some c) : w1.cell? ⟨w.heap.size, i, none⟩ = some c :=
  box_at hb (by simp) i h
end Go.Proofs.YtbmenihakkogkabGreatDoor
namespace Go.Proofs.YtbmenihakkogkabGreatDoor
open Go.RowKit Go.Maps
theorem wpList_wanted {P : Program} {ops : Array Oper} {Q : Exit → Act → World → Prop} {a : Act} {w : World} {rest : List Oper} {o : Oper} (hw : Region.wanted o (yielded ops a.tmps) = true)
    (h : wpList P ops Q ({ o with guard := none } :: rest) a w) : wpList P ops Q (o :: rest) a w := by
  unfold wpList at h ⊢
  rw [if_pos (by simp [Region.wanted])] at h
  rw [if_pos hw]
  exact h
theorem own_shape {w : World} {base : Nat} {e : TypeId} {size : Nat} {v : Value} {n : Nat} {xs : List Value} (h : w.ownsRow base e size v n xs) : ∃ a cap, v = .slice a n cap := by
  rcases h.2 with ⟨rfl, rfl⟩ | ⟨g, cap, cur, rfl, _⟩
  · exact ⟨none, 0, rfl⟩
  · exact ⟨_, cap, rfl⟩
theorem own_block {w : World} {base : Nat} {e : TypeId} {size : Nat} {v : Value} {n : Nat} {xs : List Value} (h : w.ownsRow base e size v (n + 1) xs) : ∃ g cap, v = .slice (some ⟨g, 0, none⟩) (n + 1) cap ∧ base ≤ g ∧ g < w.heap.size ∧ n + 1 ≤ cap ∧ cap ≤ maxLen := by
  rcases h.2 with ⟨rfl, h0⟩ | ⟨g, cap, cur, rfl, hb, hh, hn, hm, _⟩
  · cases h0
  · exact ⟨g, cap, rfl, hb, (h.lt g rfl).2, hn, hm⟩
theorem slice_to {t e : TypeId} {k : Nat} (u : Tryz.prog.underlying t = some (.slice e)) (hz : ∀ w, (sizeOf e).run Tryz.prog w = .ok k w) (g : Addr) (n c m : Nat) (x : Int) (hx : x = m) (hm : m ≤ c) (w : World) : (Instr.slice t (.slice (some g) n c) none (some (.int .i64 x)) none).run Tryz.prog w = .ok (.slice (some g) m c) w := by
  subst hx
  simp [Instr.slice, Instr.sliceBounds, Instr.sliceBound, asIntOf, run_underlying u, go_sem]
  rw [if_pos hm, hz]
  rfl
end Go.Proofs.YtbmenihakkogkabGreatDoor
namespace Go.Proofs.YtbmenihakkogkabGreatDoor
def proper : Nat → SL → Prop
  | 0, T => T.len = 0
  | d + 1, T => ∀ i, i < T.len → proper d (T.sub i false) ∧ proper d (T.sub i true)
theorem proper_succ : ∀ {d : Nat} {T : SL}, proper d T → proper (d + 1) T
  | 0, T, h => fun i hi => by have : T.len = 0 := h; omega
  | d + 1, T, h => fun i hi => ⟨proper_succ (h i hi).1, proper_succ (h i hi).2⟩
theorem size_succ' : ∀ {d : Nat} {T : SL}, proper d T → size (d + 1) T = size d T
  | 0, T, h => by
    have h' : T.len = 0 := h
    simp only [size]; rw [h']; rfl
  | d + 1, T, h => by
    show sumTo T.len (fun i => 1 + size (d + 1) (T.sub i false) + size (d + 1) (T.sub i true)) = sumTo T.len (fun i => 1 + size d (T.sub i false) + size d (T.sub i true))
    exact sumTo_congr fun i hi => by rw [size_succ' (h i hi).1, size_succ' (h i hi).2]
end Go.Proofs.YtbmenihakkogkabGreatDoor
namespace Go.Proofs.YtbmenihakkogkabGreatDoor
open Go.RowKit
abbrev Wd := ByteArray
def bs (l : List UInt8) : Wd := ⟨l.toArray⟩
theorem bs_data (l : List UInt8) : (bs l).data.toList = l := rfl
theorem bs_inj {l m : List UInt8} (h : bs l = bs m) : l = m := by
  have := congrArg (fun x : ByteArray => x.data.toList) h
  exact this
theorem bs_of (w : Wd) : bs w.data.toList = w := rfl
def stL : Nat → List UInt8
  | 1 => [115, 101, 116]
  | 2 => [112, 117, 116]
  | 3 => [115, 97, 121]
  | 4 => [112, 97, 117, 115, 101]
  | 5 => [103, 111]
  | 6 => [105, 102]
  | 7 => [119, 104, 105, 108, 101]
  | 8 => [114, 101, 116, 117, 114, 110]
  | _ => []
def opL : Nat → List UInt8
  | 1 => [43]
  | 2 => [45]
  | 3 => [42]
  | 4 => [60]
  | 5 => [61]
  | _ => []
def mkL : Nat → List UInt8
  | 2 => [118]
  | 4 => [46]
  | 5 => [110, 101, 119]
  | 6 => [102]
  | _ => []
def obW : Wd := bs [123]
def cbW : Wd := bs [125]
def funW : Wd := bs [102, 117, 110]
def numW (n : Int) : Wd := bs (Lib.itoa n)
def tokW (k z : Int) : Wd := if k = 3 then bs (opL z.toNat) else bs (mkL k.toNat ++ Lib.itoa z)
def toksW (k z : Nat → Int) : Nat → List Wd
  | 0 => []
  | n + 1 => toksW k z n ++ [tokW (k n) (z n)]
def catTo (f : Nat → List Wd) : Nat → List Wd
  | 0 => []
  | n + 1 => catTo f n ++ f n
def stmtW (B : SL → List Wd) (s : Nd) (a b : SL) : List Wd :=
  ((((bs (stL s.kind.toNat) :: (if s.kind = 1 ∨ s.kind = 2 then [numW s.num] else [])) ++ toksW s.ek s.ez s.ne) ++ toksW s.fk s.fz s.nf) ++ (if s.kind = 6 ∨ s.kind = 7 then B a else [])) ++ (if s.kind = 6 then B b else [])
def blkW : Nat → SL → List Wd
  | 0, _ => [obW, cbW]
  | d + 1, T => (obW :: catTo (fun i => stmtW (blkW d) (T.nd i) (T.sub i false) (T.sub i true)) T.len) ++ [cbW]
def funWs (d : Nat) (p l : Int) (T : SL) : List Wd := [funW, numW p, numW l] ++ blkW d T
def progW (nf : Nat) (par loc : Nat → Int) (d : Nat) (body : Nat → SL) : List Wd := catTo (fun i => funWs d (par i) (loc i) (body i)) nf
def textL (ws : List Wd) : List UInt8 := Lib.join (ws.map (·.data.toList)) [32]
def atoiV (l : List UInt8) : Int := match Lib.atoiAll l with
  | .ok v => v
  | .«syntax» => 0
  | .range => Lib.atoiSat l
def hdW (ws : List Wd) : Wd := ws.headD (bs [])
def numR (ws : List Wd) : Int := atoiV (hdW ws).data.toList
def kindOf (w : Wd) : Nat := ((List.range 9).find? fun k => decide (bs (stL k) = w)).getD 0
def opOf (w : Wd) : Option Nat := (List.range 6).find? fun k => decide (bs (opL k) = w)
def hasMark (w : Wd) (k : Nat) : Bool := !(mkL k).isEmpty && (mkL k).isPrefixOf w.data.toList
def markTo (w : Wd) : Nat → Nat
  | 0 => 1
  | n + 1 => if hasMark w n then n else markTo w n
def tokOf (w : Wd) : Int × Int := match opOf w with
  | some n => (3, (n : Int))
  | none => ((markTo w 7 : Int), atoiV (w.data.toList.drop (mkL (markTo w 7)).length))
def asksR (nf : Nat) (par : Nat → Int) (t : Int × Int) : Int :=
  if t.1 = 4 then 1 else if t.1 = 3 then 2 else if t.1 = 6 ∧ 0 ≤ t.2 ∧ t.2 < nf then par t.2.toNat else 0
def exprR (nf : Nat) (par : Nat → Int) : Int → List Wd → List (Int × Int) × List Wd
  | _, [] => ([], [])
  | q, w :: ws => if 0 < q then
      (tokOf w :: (exprR nf par (wrap64 (wrap64 (q + asksR nf par (tokOf w)) - 1)) ws).1, (exprR nf par (wrap64 (wrap64 (q + asksR nf par (tokOf w)) - 1)) ws).2)
    else ([], w :: ws)
structure It where
  nd : Nd
  a : SL
  b : SL
def noSL : SL := fun _ => (0, fun _ => ⟨0, 0, 0, fun _ => 0, fun _ => 0, 0, fun _ => 0, fun _ => 0⟩)
def noIt : It := ⟨⟨0, 0, 0, fun _ => 0, fun _ => 0, 0, fun _ => 0, fun _ => 0⟩, noSL, noSL⟩
def mkT (l : List It) : SL := fun p => match p with
  | [] => (l.length, fun i => (l.getD i noIt).nd)
  | (i, false) :: q => (l.getD i noIt).a q
  | (i, true) :: q => (l.getD i noIt).b q
theorem mkT_len (l : List It) : (mkT l).len = l.length := rfl
theorem mkT_nd (l : List It) (i : Nat) : (mkT l).nd i = (l.getD i noIt).nd := rfl
theorem mkT_a (l : List It) (i : Nat) : (mkT l).sub i false = (l.getD i noIt).a := rfl
theorem mkT_b (l : List It) (i : Nat) : (mkT l).sub i true = (l.getD i noIt).b := rfl
def mkNd (k n : Int) (e f : List (Int × Int)) : Nd := ⟨k, n, e.length, fun i => (e.getD i (0, 0)).1, fun i => (e.getD i (0, 0)).2, f.length, fun i => (f.getD i (0, 0)).1, fun i => (f.getD i (0, 0)).2⟩
def hasN (k : Nat) : Bool := k == 1 || k == 2
def hasA (k : Nat) : Bool := k == 6 || k == 7
def st1 (k : Nat) (ws : List Wd) : List Wd := if hasN k then ws.tail else ws
def st2 (nf : Nat) (par : Nat → Int) (k : Nat) (ws : List Wd) : List (Int × Int) × List Wd := if k = 4 then ([], st1 k ws) else exprR nf par 1 (st1 k ws)
def st3 (nf : Nat) (par : Nat → Int) (k : Nat) (ws : List Wd) : List (Int × Int) × List Wd := if k = 2 then exprR nf par 1 (st2 nf par k ws).2 else ([], (st2 nf par k ws).2)
def st4 (nf : Nat) (par : Nat → Int) (B : List Wd → SL × List Wd) (k : Nat) (ws : List Wd) : SL × List Wd := if hasA k then B (st3 nf par k ws).2 else (noSL, (st3 nf par k ws).2)
def st5 (nf : Nat) (par : Nat → Int) (B : List Wd → SL × List Wd) (k : Nat) (ws : List Wd) : SL × List Wd := if k = 6 then B (st4 nf par B k ws).2 else (noSL, (st4 nf par B k ws).2)
def stR (nf : Nat) (par : Nat → Int) (B : List Wd → SL × List Wd) (k : Nat) (ws : List Wd) : It :=
  ⟨mkNd k (if hasN k then numR ws else 0) (st2 nf par k ws).1 (st3 nf par k ws).1, (st4 nf par B k ws).1, (st5 nf par B k ws).1⟩
def loopR (nf : Nat) (par : Nat → Int) : Nat → List Wd → List It × List Wd
  | 0, ws => ([], ws)
  | u + 1, ws => if kindOf (hdW ws) = 0 then ([], ws.tail) else
      (stR nf par (fun ws => (mkT (loopR nf par u ws.tail).1, (loopR nf par u ws.tail).2)) (kindOf (hdW ws)) ws.tail ::
        (loopR nf par u (st5 nf par (fun ws => (mkT (loopR nf par u ws.tail).1, (loopR nf par u ws.tail).2)) (kindOf (hdW ws)) ws.tail).2).1,
       (loopR nf par u (st5 nf par (fun ws => (mkT (loopR nf par u ws.tail).1, (loopR nf par u ws.tail).2)) (kindOf (hdW ws)) ws.tail).2).2)
def blkR (nf : Nat) (par : Nat → Int) (u : Nat) (ws : List Wd) : SL × List Wd := (mkT (loopR nf par u ws.tail).1, (loopR nf par u ws.tail).2)
def headsR : List Wd → List (Int × Int)
  | [] => []
  | w :: ws => if w = funW then (numR ws, numR ws.tail) :: headsR ws else headsR ws
def leftR (nf : Nat) (par : Nat → Int) (u : Nat) (ws : List Wd) : Nat → List Wd
  | 0 => ws
  | j + 1 => (blkR nf par u (leftR nf par u ws j).tail.tail.tail).2
def bodyR (nf : Nat) (par : Nat → Int) (u : Nat) (ws : List Wd) (j : Nat) : SL := (blkR nf par u (leftR nf par u ws j).tail.tail.tail).1
def rdN (ws : List Wd) : Nat := (headsR ws).length
def rdP (ws : List Wd) (i : Nat) : Int := ((headsR ws).getD i (0, 0)).1
def rdL (ws : List Wd) (i : Nat) : Int := ((headsR ws).getD i (0, 0)).2
def rdB (ws : List Wd) (i : Nat) : SL := bodyR (rdN ws) (rdP ws) (ws.length + 1) ws i
end Go.Proofs.YtbmenihakkogkabGreatDoor
