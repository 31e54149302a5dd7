/- Rows of the call's own: the last of them, a row without it, another in its place; guarded operations; slices.Max. -/
import Derived.Test.YtfaggdkiffhdbaaGreatDoorPart8
import Derived.Maps.OwnSet
import Derived.Maps.AppendAt
import Derived.Lib.SliceRun
namespace Go.Proofs.YtfaggdkiffhdbaaGreatDoor
open Go.RowKit Go.Maps

/-- An operation whose guard lets it go is done as if it had none. -/
theorem wpList_wanted {P : Program} {ops : Array Oper} {Q : Exit→Act→World→Prop} {a : Act} {w : World} {rest : List Oper} {o : Oper} (hw : Region.wanted o (yielded ops a.tmps)=true)
  (h : wpList P ops Q ({ o with guard:=none } :: rest) a w) : wpList P ops Q (o :: rest) a w:=by
 unfold wpList at h ⊢
 rw [if_pos (by simp [Region.wanted])] at h
 rw [if_pos hw]
 exact h

theorem own_shape {w : World} {base : Nat} {e : TypeId} {size : Nat} {v : Value} {n : Nat} {xs : List Value} (h : w.ownsRow base e size v n xs) : ∃ a cap,v=.slice a n cap:=by
 rcases h.2 with ⟨rfl,rfl⟩ | ⟨g,cap,cur,rfl,_⟩
 ·exact ⟨none,0,rfl⟩
 ·exact ⟨_,cap,rfl⟩

theorem own_block {w : World} {base : Nat} {e : TypeId} {size : Nat} {v : Value} {n : Nat} {xs : List Value} (h : w.ownsRow base e size v (n + 1) xs) : ∃ g cap,v=.slice (some ⟨g,0,none⟩) (n + 1) cap∧base≤g∧g < w.heap.size∧n + 1≤cap∧cap≤maxLen:=by
 rcases h.2 with ⟨rfl,h0⟩ | ⟨g,cap,cur,rfl,hb,hh,hn,hm,_⟩
 ·cases h0
 ·exact ⟨g,cap,rfl,hb,(h.lt g rfl).2,hn,hm⟩

/-- The first m of a slice. -/
theorem slice_to {t e : TypeId} {k : Nat} (u : Tryz.prog.underlying t=some (.slice e)) (hz : ∀ w,(sizeOf e).run Tryz.prog w=.ok k w) (g : Addr) (n c m : Nat) (x : Int) (hx : x=m) (hm : m≤c) (w : World) : (Instr.slice t (.slice (some g) n c) none (some (.int .i64 x)) none).run Tryz.prog w=.ok (.slice (some g) m c) w:=by
 subst hx
 simp [Instr.slice,Instr.sliceBounds,Instr.sliceBound,asIntOf,run_underlying u,go_sem]
 rw [if_pos hm,hz]
 rfl

end Go.Proofs.YtfaggdkiffhdbaaGreatDoor
