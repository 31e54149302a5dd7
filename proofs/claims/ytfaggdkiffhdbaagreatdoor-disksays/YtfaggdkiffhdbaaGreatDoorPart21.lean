/- record.Print, by the program. -/
import Derived.Test.YtfaggdkiffhdbaaGreatDoorRecC
import Derived.Test.YtfaggdkiffhdbaaGreatDoorRefText
import Derived.Test.YtfaggdkiffhdbaaGreatDoorPart19
import Derived.Test.YtfaggdkiffhdbaaGreatDoorChecked
import Derived.Shelf.Slices.Clone
namespace Go.Proofs.YtfaggdkiffhdbaaGreatDoor
open Go.RowKit Go.Maps

theorem range_list (l : List Int) : (List.range l.length).map (fun k => l.getD k 0)=l:=by
 apply List.ext_getElem?
 intro i
 by_cases h : i < l.length
 ·simp [h]
 ·simp [h]
theorem numsUp {N M : Nat} {w : World} {v : Value} {n : Nat} {z : Nat→Int} (h : NumsAt N w v n z) (hm : N≤M) : NumsAt M w v n z:=by
 obtain ⟨a,cap,rfl,hn,h | ⟨b,o,rfl,hb,hc⟩⟩:=h
 ·exact ⟨a,cap,rfl,hn,Or.inl h⟩
 ·exact ⟨_,cap,rfl,hn,Or.inr ⟨b,o,rfl,by omega,hc⟩⟩

/-- Five numbers and two rows,one behind the other. -/
theorem concatR (W : World) (x1 x2 x3 x4 x5 : Int) (M : Nat) (hM : M≤W.heap.size) (sa ia : Option Addr) (sc ic : Nat) (s i : List Int) (hs : NumsL M W sa sc s) (hi : NumsL M W ia ic i) (hsn : s.length≤40) (hin : i.length≤1200) (B C : Nat) (hB : W.heap.size=B) (hC : B + 1=C) :
  Calls Tryz.prog 30 #[.slice (some ⟨C,0,none⟩) 3 3] ((W.alloc (.cells #[.int .i64 x1,.int .i64 x2,.int .i64 x3,.int .i64 x4,.int .i64 x5] 3)).alloc (.cells #[.slice (some ⟨B,0,none⟩) 5 5,.slice sa s.length sc,.slice ia i.length ic] 25)) fun e w' => ∃ v',e=.returned v'∧Hid (IS 0 w' v' (x1 :: x2 :: x3 :: x4 :: x5 :: (s ++ i)))∧Hid (Below W.heap.size W w'):=by
 subst hB
 subst hC
 have hk1 : Below W.heap.size W (W.alloc (.cells #[.int .i64 x1,.int .i64 x2,.int .i64 x3,.int .i64 x4,.int .i64 x5] 3)):=below_alloc _ _
 have his : NumsAt (W.heap.size + 1) (W.alloc (.cells #[.int .i64 x1,.int .i64 x2,.int .i64 x3,.int .i64 x4,.int .i64 x5] 3)) (.slice (some ⟨W.heap.size,0,none⟩) 5 5) 5 (fun k => [x1,x2,x3,x4,x5].getD k 0):=by
  refine ⟨_,_,rfl,by omega,Or.inr ⟨W.heap.size,0,rfl,by omega,fun k hk => ?_⟩⟩
  rw [Nat.zero_add,World.cell?_alloc_new]
  rcases (show k=0∨k=1∨k=2∨k=3∨k=4 by omega) with rfl | rfl | rfl | rfl | rfl <;> rfl
 have hs1 : (W.alloc (.cells #[.int .i64 x1,.int .i64 x2,.int .i64 x3,.int .i64 x4,.int .i64 x5] 3)).heap.size=W.heap.size + 1:=by simp
 have hsa:=numsUp (hs.below (hk1.mono hM)).nums hM
 have hia:=numsUp (hi.below (hk1.mono hM)).nums hM
 generalize W.alloc (.cells #[.int .i64 x1,.int .i64 x2,.int .i64 x3,.int .i64 x4,.int .i64 x5] 3)=W1 at *
 have hk2 : Below W1.heap.size W1 (W1.alloc (.cells #[.slice (some ⟨W.heap.size,0,none⟩) 5 5,.slice sa s.length sc,.slice ia i.length ic] 25)):=below_alloc _ _
 have hs2 : (W1.alloc (.cells #[.slice (some ⟨W.heap.size,0,none⟩) 5 5,.slice sa s.length sc,.slice ia i.length ic] 25)).heap.size=W.heap.size + 2:=by simp [hs1]
 have ecat : catI (fun k => if k=0 then 5 else if k=1 then s.length else i.length) (fun k => if k=0 then (fun k => [x1,x2,x3,x4,x5].getD k 0) else if k=1 then (fun k => s.getD k 0) else (fun k => i.getD k 0)) 3=x1 :: x2 :: x3 :: x4 :: x5 :: (s ++ i):=by
  have e1:=range_list s
  have e2:=range_list i
  show ((([] ++ (List.range 5).map _) ++ (List.range s.length).map (fun k => s.getD k 0)) ++ (List.range i.length).map (fun k => i.getD k 0))=_
  rw [e1,e2]
  simp [List.range_succ]
 have hrows : RowsI (W.heap.size + 2) (W1.alloc (.cells #[.slice (some ⟨W.heap.size,0,none⟩) 5 5,.slice sa s.length sc,.slice ia i.length ic] 25)) (.slice (some ⟨W.heap.size + 1,0,none⟩) 3 3) 3 (fun k => if k=0 then 5 else if k=1 then s.length else i.length) (fun k => if k=0 then (fun k => [x1,x2,x3,x4,x5].getD k 0) else if k=1 then (fun k => s.getD k 0) else (fun k => i.getD k 0)):=by
  refine ⟨_,_,_,rfl,by omega,by omega,fun j hj => ?_⟩
  rcases j with _ | _ | _ | j
  ·refine ⟨.slice (some ⟨W.heap.size,0,none⟩) 5 5,?_,?_⟩
   ·rw [← hs1,World.cell?_alloc_new]; rfl
   ·exact numsUp (his.below (hk2.mono (by omega))) (by omega)
  ·refine ⟨.slice sa s.length sc,?_,?_⟩
   ·rw [← hs1,World.cell?_alloc_new]; rfl
   ·exact numsUp (hsa.below (hk2.mono (by omega))) (by omega)
  ·refine ⟨.slice ia i.length ic,?_,?_⟩
   ·rw [← hs1,World.cell?_alloc_new]; rfl
   ·exact numsUp (hia.below (hk2.mono (by omega))) (by omega)
  ·omega
 refine (concatI (W.heap.size + 2) _ 3 _ _ _ (by omega) hrows (by rw [ecat]; simp only [List.length_cons,List.length_append]; omega)).mono ?_
 rintro e w' ⟨v',rfl,hI,hB⟩
 refine ⟨v',rfl,?_,below_step hk1 ((hk2.mono (by omega)).trans (hB.out.mono (by omega)))⟩
 have:=hI.out
 rw [ecat] at this
 obtain ⟨h1,h2⟩:=this
 refine ⟨h1,?_⟩
 rcases h2 with h2 | ⟨g,cap,cur,e,_,h3⟩
 ·exact Or.inl h2
 ·exact Or.inr ⟨g,cap,cur,e,Nat.zero_le _,h3⟩

set_option maxHeartbeats 4000000 in
theorem recPrintBad (r : Rc) (sc ic : Nat) (sa ia : Option Addr) (w : World) (h : ¬ recErr r=0) :
  Calls Tryz.prog 18 #[.agg #[.int .i64 r.kind,.int .i64 r.co,.int .i64 r.ep,.int .i64 r.pl,.slice sa r.says.length sc,.slice ia r.img.length ic]] w fun e w' => e=.returned (.tuple #[.string ⟨#[]⟩,.int .i64 (recErr r)])∧Below w.heap.size w w':=by
 obtain ⟨W,hW,HB,_,i0,i1,i2,i3,i4,i5⟩:=rbox w r.kind r.co r.ep r.pl (.slice sa r.says.length sc) (.slice ia r.img.length ic)
 have HC : Hid (Calls Tryz.prog 28 #[.agg #[.int .i64 r.kind,.int .i64 r.co,.int .i64 r.ep,.int .i64 r.pl,.slice sa r.says.length sc,.slice ia r.img.length ic]] W fun e w' => e=.returned (.int .i64 (recErr r))∧Below W.heap.size W w'):=recCheckC r sc ic sa ia W
 generalize recErr r=er at *
 have hb : (er != 0)=true:=by simpa using h
 clear h
 go_enter Tryz.func18,Tryz.ntmps18
 go_upto_region 1 with (fail)
 try rw [hW]
 go_wp2_with (go_at_call 28; refine HC.out.mono ?_; rintro e w1 ⟨rfl,hb1⟩)
 go_ret2
 exact ⟨rfl,below_step HB hb1⟩

theorem lineL_len {zs : List Int} (h : ∀ z ∈ zs,i64 z) : (lineL zs).length≤22 * zs.length:=by
 have:=lnTo_len h zs.length (Nat.le_refl _)
 rwa [lnTo_all] at this

set_option maxRecDepth 20000 in
set_option maxHeartbeats 4000000 in
theorem recPrintC (N M : Nat) (r : Rc) (sc ic : Nat) (sa ia : Option Addr) (w : World) (hN : N≤w.heap.size) (he : NEnv N w) (hM : M≤w.heap.size) (h1 : NumsL M w sa sc r.says) (h2 : NumsL M w ia ic r.img) (h : recErr r=0) :
  Calls Tryz.prog 18 #[.agg #[.int .i64 r.kind,.int .i64 r.co,.int .i64 r.ep,.int .i64 r.pl,.slice sa r.says.length sc,.slice ia r.img.length ic]] w fun e w' => e=.returned (.tuple #[.string (bs (recT r)),.int .i64 0])∧Below w.heap.size w w':=by
 obtain ⟨W,hW,HB,_,i0,i1,i2,i3,i4,i5⟩:=rbox w r.kind r.co r.ep r.pl (.slice sa r.says.length sc) (.slice ia r.img.length ic)
 have HBW : Hid (Below w.heap.size w W):=HB
 have hi : recI64 r:=⟨h1.fit,h2.fit⟩
 have HZ : Hid (∀ z ∈ recZs r,i64 z):=recZs_i64 h hi
 obtain ⟨_,_,hmn,_⟩:=recErr_zero h
 unfold recMany at hmn
 simp only [Bool.and_eq_true,decide_eq_true_eq] at hmn
 obtain ⟨hs40,hi12⟩:=hmn
 have HC : Hid (Calls Tryz.prog 28 #[.agg #[.int .i64 r.kind,.int .i64 r.co,.int .i64 r.ep,.int .i64 r.pl,.slice sa r.says.length sc,.slice ia r.img.length ic]] W fun e w' => e=.returned (.int .i64 0)∧Below W.heap.size W w'):=by
  have:=recCheckC r sc ic sa ia W
  rw [h] at this
  exact this
 have HX : Hid (∀ wk,Below W.heap.size W wk→wk.cell? ⟨w.heap.size,0,none⟩=some (.int .i64 r.kind)∧wk.cell? ⟨w.heap.size,1,none⟩=some (.int .i64 r.co)∧wk.cell? ⟨w.heap.size,2,none⟩=some (.int .i64 r.ep)∧wk.cell? ⟨w.heap.size,3,none⟩=some (.int .i64 r.pl)∧wk.cell? ⟨w.heap.size,4,none⟩=some (.slice sa r.says.length sc)∧wk.cell? ⟨w.heap.size,5,none⟩=some (.slice ia r.img.length ic)):=fun wk hk => ⟨at_below hk i0,at_below hk i1,at_below hk i2,at_below hk i3,at_below hk i4,at_below hk i5⟩
 have HCat : Hid (∀ wk B C,Below W.heap.size W wk→wk.heap.size=B→B + 1=C→Calls Tryz.prog 30 #[.slice (some ⟨C,0,none⟩) 3 3] ((wk.alloc (.cells #[.int .i64 r.kind,.int .i64 r.co,.int .i64 r.ep,.int .i64 r.pl,.int .i64 (r.says.length : Int)] 3)).alloc (.cells #[.slice (some ⟨B,0,none⟩) 5 5,.slice sa r.says.length sc,.slice ia r.img.length ic] 25)) fun e w' => ∃ v',e=.returned v'∧Hid (IS 0 w' v' (recZs r))∧Hid (Below wk.heap.size wk w')):=fun wk B C hk hB hC => by
  have hbk : Below w.heap.size w wk:=HBW.out.trans (hk.mono HBW.out.size)
  exact concatR wk _ _ _ _ _ M (Nat.le_trans hM hbk.size) sa ia sc ic r.says r.img (h1.below (hbk.mono hM)) (h2.below (hbk.mono hM)) hs40 hi12 B C hB hC
 have HAdd : Hid (∀ nv wk,Below w.heap.size w wk→IS 0 wk nv (recZs r)→Calls Tryz.prog 29 #[.slice none 0 0,nv] wk fun e w' => ∃ v',e=.returned v'∧Hid (BS wk.heap.size w' v' (recT r))∧Hid (KB wk.heap.size wk w')):=fun nv wk hk hn => by
  have hl : (recZs r).length≤1245:=by unfold recZs; simp only [List.length_cons,List.length_append]; omega
  have:=numAdd N wk.heap.size 0 (Nat.le_trans hN hk.size) (.slice none 0 0) nv [] (recZs r) wk (Nat.le_refl _) (he.below (hk.mono hN)) (BS.nil _ _) hn HZ.out (by simp) (by omega)
  rw [List.nil_append] at this
  exact this
 clear h h1 h2 he hi hM hN hs40 hi12
 generalize recZs r=zs at *
 generalize recT r=tx at *
 generalize r.says.length=n1 at *
 generalize r.img.length=n2 at *
 generalize r.kind=k1 at *
 generalize r.co=c1 at *
 generalize r.ep=e1 at *
 generalize r.pl=p1 at *
 go_enter Tryz.func18,Tryz.ntmps18
 go_upto_region 1 with (fail)
 try rw [hW]
 go_upto_region 4 with (go_at_call 28; refine HC.out.mono ?_; rintro e w1 ⟨rfl,hb1⟩)
 clear i0 i1 i2 i3 i4 i5
 obtain ⟨i0,i1,i2,i3,i4,i5⟩:=HX.out w1 hb1
 have i4a : ∀ o : Obj,(w1.alloc o).cell? ⟨w.heap.size,4,none⟩=some (.slice sa n1 sc):=fun o => at_below (below_alloc w1 o) i4
 have i5a : ∀ o : Obj,(w1.alloc o).cell? ⟨w.heap.size,5,none⟩=some (.slice ia n2 ic):=fun o => at_below (below_alloc w1 o) i5
 have HW1 : Hid (Below w.heap.size w w1):=below_step HBW.out hb1
 go_upto_region 5 with (first
  | (go_at_call 30; refine (HCat.out w1 _ _ hb1 rfl rfl).mono ?_; rintro e w2 ⟨v2,rfl,HI2,HB2⟩; have HB02 : Hid (Below w.heap.size w w2):=below_step HW1.out HB2.out)
  | (go_at_call 29; refine (HAdd.out _ _ HB02.out HI2.out).mono ?_; rintro e w3 ⟨v3,rfl,HS3,HK3⟩))
 have hcv:=bytes_string HS3.out
 obtain ⟨a5,c5,e5⟩:=HS3.out.shape
 subst e5
 go_wp2_with (fail)
 go_ret2
 exact ⟨rfl,HB02.out.trans (HK3.out.1.mono HB02.out.size)⟩
end Go.Proofs.YtfaggdkiffhdbaaGreatDoor
namespace Go.Proofs.YtfaggdkiffhdbaaGreatDoor
open Go.Shelf
def Tryz.laysNm215_ren : Go.Shelf.Ren:=⟨fun | 15 => 63 | n => n,fun | 22 => 25 | 3 => 3 | 4 => 4 | n => n,fun | n => n⟩
theorem Tryz.laysNm215 : Go.Proofs.Lays2.n15 Tryz.prog Tryz.laysNm215_ren:={
 mixed:=by kernel_rfl
 f15:=Tryz.func63.trans (congrArg some (by kernel_rfl))
 t3:=Tryz.underlying3
 a3:=Tryz.isAgg3
 z3:=Tryz.sizeOf3
 v3:=Tryz.zeroValue3
 t4:=Tryz.underlying4
 a4:=Tryz.isAgg4
 z4:=Tryz.sizeOf4
 v4:=Tryz.zeroValue4
 t22:=Tryz.underlying25
 a22:=Tryz.isAgg25
 z22:=Tryz.sizeOf25
 v22:=Tryz.zeroValue25
 i3:=by kernel_rfl }
open Go.RowKit Go.Lib in
theorem Tryz.slices_Clone_int (b off n c : Nat) (zs : List Int) (w : World) (hz : n≤zs.length) (hbig : n * 8≤140737488355328) (hc : ∀ j,j < zs.length→w.cell? ⟨b,off + j,none⟩=some (.int .i64 (zs.getD j 0))) :
  Calls Tryz.prog 63 #[.slice (some ⟨b,off,none⟩) n c] w fun e w' => ∃ v',e=.returned v'∧w'.ownsRow w.heap.size 3 1 v' n ((zs.take n).map (Value.int .i64))∧v' ≠ .slice none 0 0∧Below w.heap.size w w':=Any.slices_Clone_int Tryz.laysNm215 b off n c zs w hz hbig hc

end Go.Proofs.YtfaggdkiffhdbaaGreatDoor
