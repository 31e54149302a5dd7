/- lined: a closed fact; RecordBack: what is printed is read, what is read is printed as it was: the statement's own walk. -/
import Derived.Test.YtfaggdkiffhdbaaDoorRecR
import Derived.Test.YtfaggdkiffhdbaaDoorPart8
import Derived.Lib.SmallJoins
namespace Go.Proofs.YtfaggdkiffhdbaaDoor
open Go.RowKit Go.Maps

def rcL : Rc:=⟨2,1,2,0,[7,-8],[1]⟩
theorem rcL_err : recErr rcL=0:=by decide
theorem rcL_text : recT rcL=[50,32,49,32,50,32,48,32,50,32,55,32,45,56,32,49]:=by decide +kernel
theorem rcL_i64 : recI64 rcL:=⟨by simp [rcL,i64],by simp [rcL,i64]⟩

theorem lit_nums (w : World) (l : List Int) (g : Nat) (n : Nat) (hn : l.length=n) (hl : n≤8) (hg : w.heap[g]?=some (.cells (l.map (Value.int .i64)).toArray 3 (0,0))) (hf : ∀ z ∈ l,i64 z) : NumsL w.heap.size w (some ⟨g,0,none⟩) n l:=by
 refine ⟨by omega,by omega,(fun e => by cases e),fun p hp => ?_,hf⟩
 cases hp
 right
 refine ⟨g,0,rfl,(Array.getElem?_eq_some_iff.1 hg).1,fun i z hi => ?_⟩
 rw [Nat.zero_add]
 unfold World.cell?
 rw [hg]
 show ((l.map (Value.int .i64)).toArray)[i]?=_
 simp [hi]

set_option maxRecDepth 20000 in
set_option maxHeartbeats 4000000 in
/-- The closed fact. -/
theorem lined (N : Nat) (w : World) (hN : N≤w.heap.size) (he : NEnv N w) : Calls Tryd.prog 8 #[] w fun e w' => e=.returned (.bool true)∧Below w.heap.size w w':=by
 obtain ⟨V,hV⟩ : ∃ V,(w.alloc (.cells #[.int .i64 7,.int .i64 (-8)] 3)).alloc (.cells #[.int .i64 1] 3)=V:=⟨_,rfl⟩
 have hVb : Below w.heap.size w V:=hV ▸ below_step (below_alloc _ _) (below_alloc _ _)
 have hVs : V.heap.size=w.heap.size + 2:=by rw [← hV]; simp
 have hg1 : V.heap[w.heap.size]?=some (.cells #[.int .i64 7,.int .i64 (-8)] 3 (0,0)):=by
  rw [← hV,(below_alloc (w.alloc (.cells #[.int .i64 7,.int .i64 (-8)] 3)) (.cells #[.int .i64 1] 3)).block w.heap.size (by simp)]
  exact heap_alloc_new w _
 have hg2 : V.heap[w.heap.size + 1]?=some (.cells #[.int .i64 1] 3 (0,0)):=by
  have:=heap_alloc_new (w.alloc (.cells #[.int .i64 7,.int .i64 (-8)] 3)) (.cells #[.int .i64 1] 3)
  rw [hV] at this
  simpa using this
 obtain ⟨W,hW,hb,_,i0,i1,i2,i3,i4,i5⟩:=rbox V 2 1 2 0 (.slice (some ⟨w.heap.size,0,none⟩) 2 2) (.slice (some ⟨w.heap.size + 1,0,none⟩) 1 1)
 rw [hVs] at i0 i1 i2 i3 i4 i5
 have HBW : Hid (Below w.heap.size w W):=below_step hVb hb
 have HIn : Hid (RecIn W.heap.size W (some ⟨w.heap.size,0,none⟩) 2 (some ⟨w.heap.size + 1,0,none⟩) 1 rcL):=⟨lit_nums W [7,-8] _ 2 rfl (by omega) ((hb.block _ (by omega)).trans hg1) rcL_i64.1,lit_nums W [1] _ 1 rfl (by omega) ((hb.block _ (by omega)).trans hg2) rcL_i64.2⟩
 have HX : Hid (∀ wk,Below W.heap.size W wk→wk.cell? ⟨w.heap.size + 2,0,none⟩=some (.int .i64 2)∧wk.cell? ⟨w.heap.size + 2,1,none⟩=some (.int .i64 1)∧wk.cell? ⟨w.heap.size + 2,2,none⟩=some (.int .i64 2)∧wk.cell? ⟨w.heap.size + 2,3,none⟩=some (.int .i64 0)∧wk.cell? ⟨w.heap.size + 2,4,none⟩=some (.slice (some ⟨w.heap.size,0,none⟩) 2 2)∧wk.cell? ⟨w.heap.size + 2,5,none⟩=some (.slice (some ⟨w.heap.size + 1,0,none⟩) 1 1)):=fun wk hk => ⟨at_below hk i0,at_below hk i1,at_below hk i2,at_below hk i3,at_below hk i4,at_below hk i5⟩
 have HPr : Hid (Calls Tryd.prog 5 #[.agg #[.int .i64 2,.int .i64 1,.int .i64 2,.int .i64 0,.slice (some ⟨w.heap.size,0,none⟩) 2 2,.slice (some ⟨w.heap.size + 1,0,none⟩) 1 1]] W fun e w' => e=.returned (.tuple #[.string (bs (recT rcL)),.int .i64 0])∧Below W.heap.size W w'):=recPrintC N W.heap.size rcL 2 1 _ _ W (Nat.le_trans hN HBW.out.size) (he.below (HBW.out.mono hN)) (Nat.le_refl _) HIn.out.1 HIn.out.2 rcL_err
 have hlen : (recT rcL).length≤60000:=by rw [rcL_text]; decide
 have hsays : recSays (bs (recT rcL)).data.toList=(0,rcL):=by rw [bs_data]; exact recSays_text rcL_err rcL_i64 hlen
 have HPa : Hid (∀ wk,Below W.heap.size W wk→Calls Tryd.prog 6 #[.string (bs (recT rcL))] wk fun e w' => ∃ sa sc ia ic,e=.returned (.tuple #[.agg #[.int .i64 2,.int .i64 1,.int .i64 2,.int .i64 0,.slice sa 2 sc,.slice ia 1 ic],.int .i64 0])∧Hid (RecOwn w' sa sc ia ic rcL)∧Hid (Below wk.heap.size wk w')):=fun wk hk => by
  have:=recParseC N (bs (recT rcL)) wk (Nat.le_trans hN (below_step HBW.out hk).size) (he.below ((below_step HBW.out hk).mono hN))
  rw [hsays] at this
  exact this
 have HSm : Hid (∀ sa sc ia ic wk,Below W.heap.size W wk→RecOwn wk sa sc ia ic rcL→Calls Tryd.prog 10 #[.agg #[.int .i64 2,.int .i64 1,.int .i64 2,.int .i64 0,.slice (some ⟨w.heap.size,0,none⟩) 2 2,.slice (some ⟨w.heap.size + 1,0,none⟩) 1 1],.agg #[.int .i64 2,.int .i64 1,.int .i64 2,.int .i64 0,.slice sa 2 sc,.slice ia 1 ic]] wk fun e w' => e=.returned (.bool true)∧Below wk.heap.size wk w'):=fun sa sc ia ic wk hk ho => by
  have hr:=(HIn.out.below hk).up hk.size
  have:=recSameC wk.heap.size rcL rcL 2 1 sc ic (some ⟨w.heap.size,0,none⟩) (some ⟨w.heap.size + 1,0,none⟩) sa ia wk (Nat.le_refl _) hr.1 hr.2 ho.rec.1 ho.rec.2
  rw [rcEq_iff.2 rfl] at this
  exact this
 have htx : ((bs (recT rcL)).toList == [50,32,49,32,50,32,48,32,50,32,55,32,45,56,32,49])=true:=by rw [ByteArray.toList_eq,bs_data,rcL_text]; rfl
 generalize bs (recT rcL)=tx at *
 clear hVb hg1 hg2 hb hsays hlen he hN i0 i1 i2 i3 i4 i5
 go_enter Tryd.func8,Tryd.ntmps8
 go_upto_region 2 with (fail)
 try rw [hV]
 try rw [hVs]
 try rw [hW]
 obtain ⟨k0,k1,k2,k3,k4,k5⟩:=HX.out W (Below.refl _ _)
 clear hV hW
 go_upto_region 3 with (go_at_call 5; refine HPr.out.mono ?_; rintro e w1 ⟨rfl,hb1⟩)
 go_upto_region 4 with (go_at_call 6; refine (HPa.out w1 hb1).mono ?_; rintro e w2 ⟨sa,sc,ia,ic,rfl,HO2,HB2⟩)
 obtain ⟨W3,hW3,hb3,_,m0,m1,m2,m3,m4,m5⟩:=rbox w2 2 1 2 0 (.slice sa 2 sc) (.slice ia 1 ic)
 try rw [hW3]
 have HB3 : Hid (Below W.heap.size W W3):=below_step hb1 (below_step HB2.out hb3)
 have HO3 : Hid (RecOwn W3 sa sc ia ic rcL):=HO2.out.below hb3
 clear hW3 k0 k1 k2 k3 k4 k5
 obtain ⟨k0,k1,k2,k3,k4,k5⟩:=HX.out W3 HB3.out
 go_wp2_with (go_at_call 10; refine (HSm.out _ _ _ _ _ HB3.out HO3.out).mono ?_; rintro e w4 ⟨rfl,hb4⟩)
 go_ret
 exact ⟨rfl,below_step HBW.out (below_step HB3.out hb4)⟩

theorem recT_short {r : Rc} (h : recErr r=0) (hi : recI64 r) : (recT r).length≤60000:=by
 have h1:=lineL_len (recZs_i64 h hi)
 obtain ⟨_,_,hmn,_⟩:=recErr_zero h
 unfold recMany at hmn
 simp only [Bool.and_eq_true,decide_eq_true_eq] at hmn
 have h2 : (recZs r).length≤1245:=by unfold recZs; simp only [List.length_cons,List.length_append]; omega
 show (lineL (recZs r)).length≤60000
 omega

def rcText (r : Rc) : ByteArray:=if recErr r=0 then bs (recT r) else ⟨#[]⟩
theorem rcText_ok {r : Rc} (h : recErr r=0) : rcText r=bs (recT r):=if_pos h

theorem recPrintE (N M : Nat) (r : Rc) (sc ic : Nat) (sa ia : Option Addr) (w : World) (hN : N≤w.heap.size) (he : NEnv N w) (hM : M≤w.heap.size) (h : RecIn M w sa sc ia ic r) :
  Calls Tryd.prog 5 #[.agg #[.int .i64 r.kind,.int .i64 r.co,.int .i64 r.ep,.int .i64 r.pl,.slice sa r.says.length sc,.slice ia r.img.length ic]] w fun e w' => e=.returned (.tuple #[.string (rcText r),.int .i64 (recErr r)])∧Below w.heap.size w w':=by
 by_cases h0 : recErr r=0
 ·rw [rcText_ok h0,h0]
  exact recPrintC N M r sc ic sa ia w hN he hM h.1 h.2 h0
 ·unfold rcText
  rw [if_neg h0]
  exact recPrintBad r sc ic sa ia w h0

theorem bsz (l : List UInt8) : (bs l).size=l.length:=by show l.toArray.size=_; simp

section
variable {H : Type} {enc : TypeId×Value→H} {W : World} {base : Nat} {spare : Nat→Bool} {held : Bool}
open Go.ChangeShapes Go.WideShapes Go.ChangeAt Go.Joins
theorem cRec6 : Tryd.prog.cellsOf 24=6:=by kernel_rfl
theorem cI1 : Tryd.prog.cellsOf 3=1:=by kernel_rfl
theorem cLI1 : Tryd.prog.cellsOf 22=1:=by kernel_rfl
theorem lenSix {α : Type} {l : List α} (h : l.length=6) : ∃ a b c d e f,l=[a,b,c,d,e,f]:=by
 rcases l with _ | ⟨a,_ | ⟨b,_ | ⟨c,_ | ⟨d,_ | ⟨e,_ | ⟨f,_ | ⟨g,l⟩⟩⟩⟩⟩⟩⟩
 ·cases h
 ·cases h
 ·cases h
 ·cases h
 ·cases h
 ·cases h
 ·exact ⟨a,b,c,d,e,f,rfl⟩
 ·simp at h

set_option maxRecDepth 20000 in
/-- A record,read. -/
theorem rec_of_trod {r : Reach} {b0 : Nat} {v : Value} {d : DataW H} {p : List MemPlace} (hv : Value.okWide Tryd.prog W r b0 24 v) (h : DataW.Trod enc Tryd.prog W base spare held 24 v d p) :
  ∃ sa sc ia ic R,v=.agg #[.int .i64 R.kind,.int .i64 R.co,.int .i64 R.ep,.int .i64 R.pl,.slice sa R.says.length sc,.slice ia R.img.length ic]∧RecIn W.heap.size W sa sc ia ic R:=by
 obtain ⟨cs,rfl,hsz⟩:=okWide_struct Tryd.underlying24 hv
 obtain ⟨fuel,hf0⟩:=h
 rw [cRec6] at hsz
 obtain ⟨v0,v1,v2,v3,v4,v5,hcs⟩:=lenSix (l:=cs.toList) (by simpa using hsz)
 obtain rfl : cs=#[v0,v1,v2,v3,v4,v5]:=by cases cs; simp_all
 have hf1 : DataW.trod enc Tryd.prog W base spare held fuel 24 [v0,v1,v2,v3,v4,v5]=some (d,p):=by simpa [Value.cells] using hf0
 obtain ⟨xs,k,_,hxy,_,hxl,hf⟩:=DataW.trod_struct Tryd.underlying24 hf1
 obtain ⟨y0,y1,y2,y3,y4,y5,rfl⟩:=lenSix (l:=xs) hxl
 have g0:=hf 0 _ rfl
 have g1:=hf 1 _ rfl
 have g2:=hf 2 _ rfl
 have g3:=hf 3 _ rfl
 have g4:=hf 4 _ rfl
 have g5:=hf 5 _ rfl
 simp [cI1,cLI1] at g0 g1 g2 g3 g4 g5
 obtain ⟨z0,q0,_,_⟩:=DataW.trod_int Tryd.underlying3 g0
 obtain ⟨z1,q1,_,_⟩:=DataW.trod_int Tryd.underlying3 g1
 obtain ⟨z2,q2,_,_⟩:=DataW.trod_int Tryd.underlying3 g2
 obtain ⟨z3,q3,_,_⟩:=DataW.trod_int Tryd.underlying3 g3
 simp at q0 q1 q2 q3
 obtain ⟨sa,sc,ls,e4,h4⟩:=list_of_trod g4
 obtain ⟨ia,ic,li,e5,h5⟩:=list_of_trod g5
 exact ⟨sa,sc,ia,ic,⟨z0,z1,z2,z3,ls,li⟩,by rw [q0,q1,q2,q3,e4,e5],h4,h5⟩
end

end Go.Proofs.YtfaggdkiffhdbaaDoor
