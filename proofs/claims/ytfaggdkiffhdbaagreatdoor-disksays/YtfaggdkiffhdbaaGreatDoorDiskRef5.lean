/- The reckoning's Recovered: what is joined. -/
import Derived.Test.YtfaggdkiffhdbaaGreatDoorPart44
import Derived.Test.YtfaggdkiffhdbaaGreatDoorDiskCat
namespace Go.Proofs.YtfaggdkiffhdbaaGreatDoor
open Go.RowKit Go.Maps

/-- Two rows of bytes that lie in a row of two. -/
theorem cat2B (wk : World) (B : Nat) (a b : Option Addr) (n m ac bc : Nat) (s t : List UInt8) (hB : wk.heap[B]?=some (.cells #[.slice a n ac,.slice b m bc] 22 (0,0))) (ha : BytesL wk.heap.size wk a ac s) (hb : BytesL wk.heap.size wk b bc t) (hn : s.length=n) (hm : t.length=m) (hl : n + m≤1000000) :
  Calls Tryz.prog 20 #[.slice (some ⟨B,0,none⟩) 2 2] wk fun e w' => ∃ x c,e=.returned (.slice x (n + m) c)∧Hid (∃ D,BS D w' (.slice x (n + m) c) (s ++ t))∧Hid (Below wk.heap.size wk w'):=by
 subst hn hm
 have hrows : RowsB wk.heap.size wk (.slice (some ⟨B,0,none⟩) 2 2) [s,t]:=by
  refine ⟨_,_,_,rfl,by simp,(Array.getElem?_eq_some_iff.1 hB).1,fun i l hi => ?_⟩
  have hc : ∀ j,wk.cell? ⟨B,0 + j,none⟩=(#[Value.slice a s.length ac,.slice b t.length bc] : Array Value)[0 + j]?:=fun j => by unfold World.cell?; rw [hB]; rfl
  rcases i with _ | _ | i
  ·simp at hi; subst hi
   exact ⟨a,ac,by rw [hc]; rfl,ha⟩
  ·simp at hi; subst hi
   exact ⟨b,bc,by rw [hc]; rfl,hb⟩
  ·simp at hi
 have hfl : [s,t].flatten=s ++ t:=by simp
 have:=concatB wk.heap.size _ [s,t] wk (Nat.le_refl _) hrows (by rw [hfl,List.length_append]; exact hl)
 rw [hfl,List.length_append] at this
 refine this.mono ?_
 rintro e w' ⟨x,c,rfl,h1,h2⟩
 exact ⟨x,c,rfl,⟨_,h1⟩,h2⟩

/-- Two rows of records that lie in a row of two. -/
theorem cat2R (wk : World) (B : Nat) (a b : Option Addr) (n m ac bc C1 C2 : Nat) (s t : List (Rc×RAd)) (hB : wk.heap[B]?=some (.cells #[.slice a n ac,.slice b m bc] 33 (0,0))) (ha : RecRow C1 wk (.slice a n ac) s) (hb : RecRow C2 wk (.slice b m bc) t) (hn : s.length=n) (hm : t.length=m) (hl : n + m≤1000) :
  Calls Tryz.prog 26 #[.slice (some ⟨B,0,none⟩) 2 2] wk fun e w' => ∃ x c,e=.returned (.slice x (n + m) c)∧Hid (∃ D,RecRow D w' (.slice x (n + m) c) (s ++ t))∧Hid (Below wk.heap.size wk w'):=by
 subst hn hm
 have hrows : RowsRc wk.heap.size wk (.slice (some ⟨B,0,none⟩) 2 2) [s,t]:=by
  refine ⟨_,_,_,rfl,by simp,(Array.getElem?_eq_some_iff.1 hB).1,fun i l hi => ?_⟩
  have hc : ∀ j,wk.cell? ⟨B,0 + j,none⟩=(#[Value.slice a s.length ac,.slice b t.length bc] : Array Value)[0 + j]?:=fun j => by unfold World.cell?; rw [hB]; rfl
  rcases i with _ | _ | i
  ·simp at hi; subst hi
   exact ⟨a,ac,by rw [hc]; rfl,own_cellsR rfl ha.1⟩
  ·simp at hi; subst hi
   exact ⟨b,bc,by rw [hc]; rfl,own_cellsR rfl hb.1⟩
  ·simp at hi
 have hfl : [s,t].flatten=s ++ t:=by simp
 have:=concatRc wk.heap.size _ [s,t] wk (Nat.le_refl _) hrows (by rw [hfl,List.length_append]; exact hl)
 rw [hfl,List.length_append] at this
 refine this.mono ?_
 rintro e w' ⟨x,c,rfl,h1,h2⟩
 refine ⟨x,c,rfl,⟨wk.heap.size,by rw [List.length_append]; exact h1.out,fun y hy => ?_⟩,h2⟩
 rcases List.mem_append.1 hy with hy | hy
 ·exact (ha.2 y hy).keep (Keeps.of h2.out)
 ·exact (hb.2 y hy).keep (Keeps.of h2.out)

end Go.Proofs.YtfaggdkiffhdbaaGreatDoor
