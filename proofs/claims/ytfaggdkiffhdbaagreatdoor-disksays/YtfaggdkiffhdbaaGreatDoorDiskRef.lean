/- The reckoning's lines of records. -/
import Derived.Test.YtfaggdkiffhdbaaGreatDoorDiskOps
import Derived.Test.YtfaggdkiffhdbaaGreatDoorRRd2
namespace Go.Proofs.YtfaggdkiffhdbaaGreatDoor
open Go.RowKit Go.Maps

def sA (l : List UInt8) : List (List UInt8):=Lib.splitK [10] 1 (l.count 10) l
def piecesA (s : ByteArray) : List ByteArray:=Lib.splitB (bs [10]) 1 (Lib.countB s (bs [10])) s
theorem piecesA_data (s : ByteArray) : (piecesA s).map (·.data.toList)=sA s.data.toList:=by
 unfold piecesA sA
 rw [Lib.splitB_data]
 have : Lib.countB s (bs [10])=s.data.toList.count 10:=Lib.count_one _ _
 rw [this]
 rfl
theorem piecesA_len (s : ByteArray) : (piecesA s).length=Lib.countB s (bs [10]) + 1:=Lib.splitB_all (bs [10]) (by show 1≤1; omega) 1 _ s rfl
theorem sA_ne (l : List UInt8) : ¬ sA l=[]:=by
 unfold sA
 rcases line_cut l with h | ⟨x,r,rfl,h⟩
 ·rw [splitA_none h]; simp
 ·rw [splitA_line h]; simp
theorem countB_le (s : ByteArray) : Lib.countB s (bs [10])≤s.size:=by
 have : Lib.countB s (bs [10])=s.data.toList.count 10:=Lib.count_one _ _
 rw [this]
 have:=List.count_le_length (a:=(10 : UInt8)) (l:=s.data.toList)
 simpa using this

set_option maxHeartbeats 1000000 in
/-- strings.SplitAfter at a line feed. -/
theorem nsplitA (N : Nat) (s : ByteArray) (hs : s.size≤1000000) (w : World) (he : NEnv N w) :
  Calls Tryz.prog 34 #[.string s,.string ⟨#[10]⟩] w fun e w' => e=.returned (.slice (some ⟨w.heap.size,0,none⟩) (piecesA s).length (piecesA s).length)∧w'=w.alloc (.cells ((piecesA s).map Value.string).toArray 9):=by
 obtain ⟨m,hm⟩:=he.max
 have hc:=countB_le s
 have HG : Hid (Calls Tryz.prog 48 #[.string s,.string ⟨#[10]⟩,.int .i64 1,.int .i64 (-1)] w fun e w' => e=.returned (.slice (some ⟨w.heap.size,0,none⟩) (piecesA s).length (piecesA s).length)∧w'=w.alloc (.cells ((piecesA s).map Value.string).toArray 9)):=by
  refine (Tryz.strings_genSplit s ⟨#[10]⟩ 1 (-1) (Lib.countB s (bs [10]) + 1) m w (by omega) hm (by show 1≤1; omega) (by show 1≤1; omega) (by decide) (by decide) ?_).mono ?_
  ·rw [if_pos (by decide)]
   show ((Lib.countB s (bs [10]) + 1 : Nat) : Int)=min ((Lib.countB s (bs [10]) : Int) + 1) ((s.size : Int) + 1)
   omega
  ·rintro e w' ⟨rfl,rfl⟩
   rw [Nat.add_sub_cancel]
   have e1 : Lib.splitB (⟨#[10]⟩ : ByteArray) 1 (Lib.countB s (bs [10])) s=piecesA s:=rfl
   rw [e1,← piecesA_len,Lib.cellsOf_full]
   exact ⟨rfl,rfl⟩
 go_enter Tryz.func34,Tryz.ntmps34
 go_wp2_with (go_at_call 48; refine HG.out.mono ?_; rintro e w1 ⟨rfl,hw1⟩; rw [hw1])
 go_ret
 exact ⟨rfl,rfl⟩

theorem cut_str (x : List UInt8) (c : UInt8) (w : World) : (Instr.slice 9 (.string (bs (x ++ [c]))) none (some (.int .i64 (x.length : Nat))) none).run Tryz.prog w=.ok (.string (bs x)) w:=by
 have hsz : (bs (x ++ [c])).size=x.length + 1:=by show (x ++ [c]).toArray.size=_; simp
 have hex : (bs (x ++ [c])).extract 0 x.length=bs x:=by
  apply ByteArray.ext
  apply Array.ext'
  simp [bs]
 simp [Instr.slice,Instr.sliceBounds,Instr.sliceBound,asIntOf,run_underlying Tryz.underlying9,hsz,hex,go_sem]

theorem RecRow.low {C D : Nat} {w : World} {v : Value} {l : List (Rc×RAd)} (h : RecRow C w v l) (hc : D≤C) : RecRow D w v l:=by
 refine ⟨⟨h.1.1,?_⟩,h.2⟩
 rcases h.1.2 with h1 | ⟨g,cap,cur,e,h1,h2⟩
 ·exact Or.inl h1
 ·exact Or.inr ⟨g,cap,cur,e,Nat.le_trans hc h1,h2⟩

set_option maxRecDepth 20000 in
set_option maxHeartbeats 8000000 in
/-- linesOf: the records at the begin of a text,as many as may be. -/
theorem linesC (N : Nat) (w : World) (he : NEnv N w) (hN : N≤w.heap.size) (l : List UInt8) (hl : l.length≤60000) (most : Nat) (hmo : most≤120) :
  Calls Tryz.prog 22 #[.string (bs l),.int .i64 most] w fun e w' => ∃ la lc L,e=.returned (.tuple #[.slice la (dRead most l).1.length lc,.int .i64 ((dRead most l).2.1 : Nat),.int .i64 (dRead most l).2.2]) ∧
   Hid (RecRow w.heap.size w' (.slice la (dRead most l).1.length lc) L)∧Hid (L.map (·.1)=(dRead most l).1)∧Hid (Below w.heap.size w w'):=by
 have HE : Hid (∀ wk,Below w.heap.size w wk→NEnv N wk∧N≤wk.heap.size):=fun wk hk => ⟨he.below (hk.mono hN),Nat.le_trans hN hk.size⟩
 have HPost : Hid (∀ (wk : World) la lc (L : List (Rc×RAd)) (sz : Nat) (er : Int),dRead most l=(L.map (·.1),sz,er)→RecRow w.heap.size wk (.slice la L.length lc) L→Below w.heap.size w wk →
   ∃ la' lc' L',Ending.returned (.tuple #[.slice la L.length lc,.int .i64 (sz : Nat),.int .i64 er])=Ending.returned (.tuple #[.slice la' (dRead most l).1.length lc',.int .i64 ((dRead most l).2.1 : Nat),.int .i64 (dRead most l).2.2]) ∧
    Hid (RecRow w.heap.size wk (.slice la' (dRead most l).1.length lc') L')∧Hid (L'.map (·.1)=(dRead most l).1)∧Hid (Below w.heap.size w wk)):=fun wk la lc L sz er hd hr hb => by
  rw [hd]
  refine ⟨la,lc,L,?_,?_,rfl,hb⟩
  ·simp only [List.length_map]
  ·simp only [List.length_map]; exact hr
 have hbl : (bs l).size≤1000000:=by rw [show (bs l).size=l.length by show l.toArray.size=_; simp]; omega
 have HSp : Hid (Calls Tryz.prog 34 #[.string (bs l),.string ⟨#[10]⟩] w fun e w' => e=.returned (.slice (some ⟨w.heap.size,0,none⟩) (piecesA (bs l)).length (piecesA (bs l)).length)∧w'=w.alloc (.cells ((piecesA (bs l)).map Value.string).toArray 9)):=nsplitA N (bs l) hbl w he
 have HD0 : Hid ((piecesA (bs l)).map (·.data.toList)=sA l):=by
  have:=piecesA_data (bs l)
  rw [bs_data] at this
  exact this
 have hpl : (piecesA (bs l)).length≤1000001:=by rw [piecesA_len]; have:=countB_le (bs l); omega
 generalize piecesA (bs l)=ps at *
 obtain ⟨W,hW⟩ : ∃ W,w.alloc (.cells (ps.map Value.string).toArray 9)=W:=⟨_,rfl⟩
 have HBW : Hid (Below w.heap.size w W):=hW ▸ below_alloc w _
 have HC : Hid (∀ wk,Below W.heap.size W wk→∀ (j : Nat) (p : ByteArray),ps[j]?=some p→wk.cell? ⟨w.heap.size,j,none⟩=some (.string p)):=fun wk hk j p hj => by
  rw [hk.cell (p:=⟨w.heap.size,j,none⟩) (by rw [← hW]; show w.heap.size < (w.alloc _).heap.size; simp),← hW,World.cell?_alloc_new]
  simp [hj]
 rw [hW] at HSp
 have HLl : Hid (l.length≤60000):=hl
 obtain ⟨n,hn⟩ : ∃ n,ps.length=n:=⟨_,rfl⟩
 have HN : Hid (ps.length=n):=hn
 rw [hn] at HSp hpl
 clear he hN hl hbl hn hW
 go_enter Tryz.func22,Tryz.ntmps22
 go_upto_region 4 with (go_at_call 34; refine HSp.out.mono ?_; rintro e w1 ⟨rfl,hw1⟩; rw [hw1]; clear hw1)
 go_loopw [7,8,16] (fun u v i wr => ∃ (j sz : Nat) (L : List (Rc×RAd)),j≤n∧i=.int .i64 j∧v=.int .i64 sz∧Hid (DIn most l (L.map (·.1)) sz)∧Hid ((ps.drop j).map (·.data.toList)=sA (l.drop sz))∧Hid (RecRow W.heap.size wr u L)∧Hid (Below W.heap.size W wr)) (fun _ _ i _ => n - (intOf i).toNat)
 case atStart => exact ⟨0,0,[],Nat.zero_le _,rfl,rfl,DIn.start most l,HD0.out,RecRow.nil _ _,Below.refl _ _⟩
 case round =>
  obtain ⟨j,sz,L,hj,rfl,rfl,HD,HP,HR,HB⟩:=hrel
  obtain ⟨la,lc,rfl⟩:=own_shape HR.out.1
  have HBw : Hid (Below w.heap.size w wr):=below_step HBW.out HB.out
  have HLm : Hid (L.length≤most):=by have:=HD.out.1; rw [List.length_map] at this; exact this
  have hjn : j < n:=by
   by_cases h : j < n
   ·exact h
   ·have h2 : ps.drop j=[]:=List.drop_eq_nil_of_le (by have:=HN.out; omega)
    have:=HP.out
    rw [h2] at this
    exact absurd this.symm (sA_ne _)
  have hji : (j : Int) < (n : Int):=by omega
  obtain ⟨p,hp⟩ : ∃ p,ps[j]?=some p:=⟨_,List.getElem?_eq_getElem (by have:=HN.out; omega)⟩
  have c0:=HC.out wr HB.out j p hp
  have HPc : Hid (∀ rest : List (List UInt8),sA (l.drop sz)=p.data.toList :: rest→(ps.drop (j + 1)).map (·.data.toList)=rest):=fun rest h => by
   have h1:=HP.out
   rw [h] at h1
   have h2 : ps.drop j=p :: ps.drop (j + 1):=by
    rw [List.drop_eq_getElem_cons (by have:=HN.out; omega)]
    congr 1
    rw [List.getElem?_eq_getElem (by have:=HN.out; omega)] at hp
    exact Option.some.inj hp
   rw [h2,List.map_cons] at h1
   exact (List.cons.inj h1).2
  have HPh : Hid (∀ (q : List UInt8) rest,sA (l.drop sz)=q :: rest→p=bs q):=fun q rest h => by
   have h1:=HP.out
   have h2 : ps.drop j=p :: ps.drop (j + 1):=by
    rw [List.drop_eq_getElem_cons (by have:=HN.out; omega)]
    congr 1
    rw [List.getElem?_eq_getElem (by have:=HN.out; omega)] at hp
    exact Option.some.inj hp
   rw [h,h2,List.map_cons] at h1
   have:=(List.cons.inj h1).1
   rw [← this]
   apply ByteArray.ext
   simp [bs]
  clear hp
  rcases line_cut (l.drop sz) with hno | ⟨x,r,hx,hnx⟩
  ·have hs1 : sA (l.drop sz)=l.drop sz :: []:=by unfold sA; exact splitA_none hno
   have hpe:=HPh.out _ _ hs1
   by_cases h0 : l.drop sz=[]
   ·have hszl : sz=l.length:=by
     have h1:=congrArg List.length h0
     rw [List.length_drop] at h1
     have h2:=HD.out.2.1
     simp at h1
     omega
    have HFin : Hid (dRead most l=(L.map (·.1),sz,0)):=HD.out.over hszl
    have hem : (bs (l.drop sz)).toList.isEmpty=true:=by rw [ByteArray.toList_eq,bs_data,h0]; rfl
    have hem2 : ((bs (l.drop sz)).toList == [])=true:=by rw [ByteArray.toList_eq,bs_data,h0]; rfl
    subst hpe
    clear h0 hszl hs1 hno HPc HPh
    generalize bs (l.drop sz)=pb at *
    go_wp2_with (fail)
    go_ret3
    exact HPost.out _ _ _ _ _ _ HFin.out (HR.out.low HBW.out.size) HBw.out
   ·have hszl : sz < l.length:=by
     by_cases h : sz < l.length
     ·exact h
     ·exact absurd (List.drop_eq_nil_of_le (by omega)) h0
    have HFin : Hid (dRead most l=(L.map (·.1),sz,8)):=by
     have h1:=HD.out.bad hszl (by rw [dLine_none hno]; decide)
     rw [dLine_none hno] at h1
     exact h1
    have hem : (bs (l.drop sz)).toList.isEmpty=false:=by
     rw [ByteArray.toList_eq,bs_data]
     cases h : l.drop sz with
     | nil => exact absurd h h0
     | cons a b => rfl
    have hem2 : ((bs (l.drop sz)).toList == [])=false:=by
     rw [ByteArray.toList_eq,bs_data]
     cases h : l.drop sz with
     | nil => exact absurd h h0
     | cons a b => rfl
    have hsx : Lib.hasSuffix (l.drop sz) [10]=false:=by
     rw [Bool.eq_false_iff]
     intro h
     have : [(10 : UInt8)] <:+ l.drop sz:=List.isSuffixOf_iff_suffix.1 h
     obtain ⟨t,ht⟩:=this
     exact hno (by rw [← ht]; simp)
    have HHs : Hid (Calls Tryz.prog 35 #[.string (bs (l.drop sz)),.string ⟨#[10]⟩] wr fun e w' => e=.returned (.bool false)∧w'=wr):=by
     have:=Tryz.strings_HasSuffix (bs (l.drop sz)) ⟨#[10]⟩ wr (by show (l.drop sz).toArray.size≤_; have:=HLl.out; simp; omega)
     rw [bs_data,show (⟨#[10]⟩ : ByteArray).data.toList=[10] from rfl,hsx] at this
     exact this
    subst hpe
    clear h0 hszl hs1 hno HPc HPh hsx
    generalize bs (l.drop sz)=pb at *
    go_wp2_with (go_at_call 35; refine HHs.out.mono ?_; rintro e w2 ⟨rfl,hw2⟩; rw [hw2]; clear hw2)
    go_ret3
    exact HPost.out _ _ _ _ _ _ HFin.out (HR.out.low HBW.out.size) HBw.out
  ·have hs1 : sA (l.drop sz)=(x ++ [10]) :: sA r:=by unfold sA; rw [hx]; exact splitA_line hnx
   have hpe:=HPh.out _ _ hs1
   have HNext : Hid ((ps.drop (j + 1)).map (·.data.toList)=sA r):=HPc.out (sA r) (by rw [hs1,hpe,bs_data])
   have hszl : sz < l.length:=by
    by_cases h : sz < l.length
    ·exact h
    ·have : l.drop sz=[]:=List.drop_eq_nil_of_le (by omega)
     rw [this] at hx
     simp at hx
   have hdl : (l.drop sz).length=x.length + 1 + r.length:=by rw [hx]; simp; omega
   have hxl : sz + (x.length + 1)≤l.length:=by rw [List.length_drop] at hdl; omega
   have HDr : Hid (l.drop (sz + (x.length + 1))=r):=by
    show _=_
    rw [← List.drop_drop,hx,show x ++ 10 :: r=(x ++ [10]) ++ r by simp,List.drop_left' (by simp)]
   have HLine : Hid (dLine (l.drop sz)=((recSays x).1,(recSays x).2,x.length + 1)):=by show _=_; rw [hx]; exact dLine_app hnx
   have hem : (bs (x ++ [10])).toList.isEmpty=false:=by rw [ByteArray.toList_eq,bs_data]; cases x <;> rfl
   have hem2 : ((bs (x ++ [10])).toList == [])=false:=by rw [ByteArray.toList_eq,bs_data]; cases x <;> rfl
   have hbsz : (bs (x ++ [10])).size=x.length + 1:=by show (x ++ [10]).toArray.size=_; simp
   have hsx : Lib.hasSuffix (x ++ [10]) [10]=true:=List.isSuffixOf_iff_suffix.2 ⟨x,rfl⟩
   have HHs : Hid (Calls Tryz.prog 35 #[.string (bs (x ++ [10])),.string ⟨#[10]⟩] wr fun e w' => e=.returned (.bool true)∧w'=wr):=by
    have:=Tryz.strings_HasSuffix (bs (x ++ [10])) ⟨#[10]⟩ wr (by have:=HLl.out; omega)
    rw [bs_data,show (⟨#[10]⟩ : ByteArray).data.toList=[10] from rfl,hsx] at this
    exact this
   have hct : ∀ wk,(Instr.slice 9 (.string (bs (x ++ [10]))) none (some (.int .i64 (x.length : Nat))) none).run Tryz.prog wk=.ok (.string (bs x)) wk:=cut_str x 10
   have HRd : Hid (Calls Tryz.prog 36 #[.string (bs x)] wr (RecKt wr (recSays x).2 (.int .i64 (recSays x).1))):=by
    obtain ⟨h1,h2⟩:=HE.out wr HBw.out
    have:=rReadC N (bs x) (by show x.toArray.size≤_; have:=HLl.out; simp; omega) wr h2 h1
    rw [bs_data] at this
    exact this
   have HBad : Hid (¬ (recSays x).1=0→dRead most l=(L.map (·.1),sz,(recSays x).1)):=fun hne => by
    have h1:=HD.out.bad hszl (by rw [HLine.out]; exact hne)
    rw [HLine.out] at h1
    exact h1
   have HMany : Hid ((recSays x).1=0→L.length=most→dRead most l=(L.map (·.1),sz,2)):=fun h0 h120 => HD.out.many hszl (by rw [HLine.out]; exact h0) (by rw [List.length_map]; exact h120)
   have HMore : Hid ((recSays x).1=0→L.length < most→DIn most l (L.map (·.1) ++ [(recSays x).2]) (sz + (x.length + 1))):=fun h0 hm => by
    have:=HD.out.more hszl (by rw [HLine.out]; exact h0) (by rw [List.length_map]; exact hm)
    rw [HLine.out] at this
    exact this
   have hx6 : x.length≤60000:=by have:=HLl.out; omega
   have hsz6 : sz≤60000:=by have:=HLl.out; omega
   subst hpe
   clear hs1 hx hnx hdl hxl hszl hsx HPc HPh HD HP HLine
   generalize (recSays x).1=er at *
   generalize (recSays x).2=rr at *
   generalize bs (x ++ [10])=pb at *
   generalize bs x=sx at *
   obtain ⟨xn,hxn⟩ : ∃ xn,x.length=xn:=⟨_,rfl⟩
   rw [hxn] at hct HMore HDr hbsz hx6
   have hbi : (pb.size : Int)=(xn : Int) + 1:=by omega
   clear hxn
   go_upto_region 10 with (first
    | (go_at_call 36; refine HRd.out.mono ?_; rintro e w3 ⟨sa,sc,ia,ic,rfl,HO3,HB3⟩)
    | (go_at_call 35; refine HHs.out.mono ?_; rintro e w2 ⟨rfl,hw2⟩; rw [hw2]; clear hw2))
   obtain ⟨W4,hW4,hb4,hsz4,m0,m1,m2,m3,m4,m5⟩:=rbox w3 rr.kind rr.co rr.ep rr.pl (.slice sa rr.says.length sc) (.slice ia rr.img.length ic)
   try rw [hW4]
   have HB4 : Hid (Below wr.heap.size wr W4):=below_step HB3.out hb4
   have HO4 : Hid (RecT W4 sa sc ia ic rr):=HO3.out.below hb4
   have HR4 : Hid (RecRow W.heap.size W4 (.slice la L.length lc) L):=HR.out.below HB4.out
   have HBw4 : Hid (Below w.heap.size w W4):=below_step HBw.out HB4.out
   have HBW4 : Hid (Below W.heap.size W W4):=below_step HB.out HB4.out
   clear hsz4 hW4 hct HO3 HB3 hb4 HR HHs HRd c0
   by_cases h0 : er=0
   ·have hne : (er != 0)=false:=by rw [h0]; rfl
    have heq : (er == 0)=true:=by rw [h0]; rfl
    by_cases h120 : L.length=most
    ·have HFin : Hid (dRead most l=(L.map (·.1),sz,2)):=HMany.out h0 h120
     have hge : (most : Int)≤(L.length : Int):=by omega
     clear h0 m0 m1 m2 m3 m4 m5 h120
     go_wp2_with (fail)
     go_ret3
     exact HPost.out _ _ _ _ _ _ HFin.out (HR4.out.low HBW.out.size) HBw4.out
    ·have HNx : Hid (DIn most l (L.map (·.1) ++ [rr]) (sz + (xn + 1))):=HMore.out h0 (by have:=HLm.out; omega)
     have hge : ¬ (most : Int)≤(L.length : Int):=by have:=HLm.out; omega
     have hR1 : L.length≤100000:=by have:=HLm.out; omega
     have hC : W.heap.size≤W4.heap.size:=HBW4.out.size
     clear h0 h120
     go_wp2_with (at_builtin; refine append_rec W4 rfl _ _ rfl W.heap.size (.slice la L.length lc) L rr (sa,sc,ia,ic) rfl HR4.out HO4.out _ rfl rfl hR1 hC ?_; intro v5 w5 HR5 HB5)
     go_roundw
     case rel => exact ⟨j + 1,sz + (xn + 1),L ++ [(rr,(sa,sc,ia,ic))],by omega,by go_num,by go_num,(by show DIn _ _ _ _; rw [List.map_append]; exact HNx.out),(by show _=_; rw [HDr.out]; exact HNext.out),HR5,HBW4.out.trans HB5.out⟩
     case measure => simp [intOf]; omega
   ·have hne : (er != 0)=true:=by simpa using h0
    have heq : (er == 0)=false:=by simpa using h0
    have HFin : Hid (dRead most l=(L.map (·.1),sz,er)):=HBad.out h0
    clear h0 m0 m1 m2 m3 m4 m5
    go_wp2_with (fail)
    go_ret3
    exact HPost.out _ _ _ _ _ _ HFin.out (HR4.out.low HBW.out.size) HBw4.out

end Go.Proofs.YtfaggdkiffhdbaaGreatDoor
