/- RecText of the reckoning. -/
import Derived.Test.YtfaggdkiffhdbaaGreatDoorRecR
import Derived.Test.YtfaggdkiffhdbaaGreatDoorRefText
namespace Go.Proofs.YtfaggdkiffhdbaaGreatDoor
open Go.RowKit Go.Maps

def RCk (r : Rc) (sa : Option Addr) (sc : Nat) (ia : Option Addr) (ic : Nat) : Prop:=∀ wk,Calls Tryz.prog 37 #[.agg #[.int .i64 r.kind,.int .i64 r.co,.int .i64 r.ep,.int .i64 r.pl,.slice sa r.says.length sc,.slice ia r.img.length ic]] wk fun e w' => e=.returned (.int .i64 (recErr r))∧Below wk.heap.size wk w'

theorem rTextBad (r : Rc) (sc ic : Nat) (sa ia : Option Addr) (w : World) (hck : RCk r sa sc ia ic) (h : ¬ recErr r=0) :
  Calls Tryz.prog 25 #[.agg #[.int .i64 r.kind,.int .i64 r.co,.int .i64 r.ep,.int .i64 r.pl,.slice sa r.says.length sc,.slice ia r.img.length ic]] w fun e w' => e=.returned (.tuple #[.string ⟨#[]⟩,.int .i64 (recErr r)])∧Below w.heap.size w w':=by
 obtain ⟨W,hW,HB,_,i0,i1,i2,i3,i4,i5⟩:=rbox w r.kind r.co r.ep r.pl (.slice sa r.says.length sc) (.slice ia r.img.length ic)
 have HC : Hid (Calls Tryz.prog 37 #[.agg #[.int .i64 r.kind,.int .i64 r.co,.int .i64 r.ep,.int .i64 r.pl,.slice sa r.says.length sc,.slice ia r.img.length ic]] W fun e w' => e=.returned (.int .i64 (recErr r))∧Below W.heap.size W w'):=hck W
 generalize recErr r=er at *
 have he : (er != 0)=true:=by simpa using h
 clear h hck
 generalize r.says.length=n1 at *
 generalize r.img.length=n2 at *
 generalize r.kind=k1 at *
 generalize r.co=c1 at *
 generalize r.ep=e1 at *
 generalize r.pl=p1 at *
 go_enter Tryz.func25,Tryz.ntmps25
 go_upto_region 1 with (fail)
 try rw [hW]
 go_wp2_with (go_at_call 37; refine HC.out.mono ?_; rintro e w1 ⟨rfl,hb1⟩)
 go_ret2
 exact ⟨rfl,below_step HB hb1⟩

theorem is_cells {B : Nat} {w : World} {v : Value} {zs : List Int} (h : IS B w v zs) (h0 : 0 < zs.length) (hf : ∀ z ∈ zs,i64 z) : ∃ b o c,v=.slice (some ⟨b,o,none⟩) zs.length c∧b < w.heap.size∧∀ i,i < zs.length→w.cell? ⟨b,o + i,none⟩=some (.int .i64 (zs.getD i 0)):=by
 obtain ⟨a,c,rfl,_⟩:=h.at
 have hn:=own_numsL h hf
 cases a with
 | none => have:=(hn.nil rfl).1; rw [this] at h0; simp at h0
 | some p =>
  rcases hn.one p rfl with h1 | ⟨b,o,rfl,hb,hc⟩
  ·rw [h1] at h0; simp at h0
  ·exact ⟨b,o,c,rfl,hb,fun i hi => hc i _ (by simp [hi])⟩

set_option maxRecDepth 20000 in
set_option maxHeartbeats 8000000 in
theorem rTextC (N M : Nat) (r : Rc) (sc ic : Nat) (sa ia : Option Addr) (w : World) (hN : N≤w.heap.size) (he : NEnv N w) (hM : M≤w.heap.size) (h1 : NumsL M w sa sc r.says) (h2 : NumsL M w ia ic r.img) (hck : RCk r sa sc ia ic) (h : recErr r=0) :
  Calls Tryz.prog 25 #[.agg #[.int .i64 r.kind,.int .i64 r.co,.int .i64 r.ep,.int .i64 r.pl,.slice sa r.says.length sc,.slice ia r.img.length ic]] w fun e w' => e=.returned (.tuple #[.string (bs (recT r)),.int .i64 0])∧Below w.heap.size w w':=by
 obtain ⟨W,hW,HB,_,i0,i1,i2,i3,i4,i5⟩:=rbox w r.kind r.co r.ep r.pl (.slice sa r.says.length sc) (.slice ia r.img.length ic)
 have HBW : Hid (Below w.heap.size w W):=HB
 have hi : recI64 r:=⟨h1.fit,h2.fit⟩
 have HZ : Hid (∀ z ∈ recZs r,i64 z):=recZs_i64 h hi
 obtain ⟨_,_,hmn,_⟩:=recErr_zero h
 unfold recMany at hmn
 simp only [Bool.and_eq_true,decide_eq_true_eq] at hmn
 obtain ⟨hs40,hi12⟩:=hmn
 have HC : Hid (Calls Tryz.prog 37 #[.agg #[.int .i64 r.kind,.int .i64 r.co,.int .i64 r.ep,.int .i64 r.pl,.slice sa r.says.length sc,.slice ia r.img.length ic]] W fun e w' => e=.returned (.int .i64 0)∧Below W.heap.size W w'):=by
  have:=hck W
  rw [h] at this
  exact this
 have HX : Hid (∀ wk,Below W.heap.size W wk→wk.cell? ⟨w.heap.size,0,none⟩=some (.int .i64 r.kind)∧wk.cell? ⟨w.heap.size,1,none⟩=some (.int .i64 r.co)∧wk.cell? ⟨w.heap.size,2,none⟩=some (.int .i64 r.ep)∧wk.cell? ⟨w.heap.size,3,none⟩=some (.int .i64 r.pl)∧wk.cell? ⟨w.heap.size,4,none⟩=some (.slice sa r.says.length sc)∧wk.cell? ⟨w.heap.size,5,none⟩=some (.slice ia r.img.length ic)):=fun wk hk => ⟨at_below hk i0,at_below hk i1,at_below hk i2,at_below hk i3,at_below hk i4,at_below hk i5⟩
 have HCat : Hid (∀ wk B C,Below W.heap.size W wk→wk.heap.size=B→B + 1=C→Calls Tryz.prog 30 #[.slice (some ⟨C,0,none⟩) 3 3] ((wk.alloc (.cells #[.int .i64 r.kind,.int .i64 r.co,.int .i64 r.ep,.int .i64 r.pl,.int .i64 (r.says.length : Int)] 3)).alloc (.cells #[.slice (some ⟨B,0,none⟩) 5 5,.slice sa r.says.length sc,.slice ia r.img.length ic] 25)) fun e w' => ∃ v',e=.returned v'∧Hid (IS 0 w' v' (recZs r))∧Hid (Below wk.heap.size wk w')):=fun wk B C hk hB hC => by
  have hbk : Below w.heap.size w wk:=HBW.out.trans (hk.mono HBW.out.size)
  exact concatR wk _ _ _ _ _ M (Nat.le_trans hM hbk.size) sa ia sc ic r.says r.img (h1.below (hbk.mono hM)) (h2.below (hbk.mono hM)) hs40 hi12 B C hB hC
 have HN : Hid (N≤w.heap.size):=hN
 have HE : Hid (NEnv N w):=he
 have HLen : Hid (0 < (recZs r).length∧(recZs r).length≤1245):=by show _∧_; unfold recZs; simp only [List.length_cons,List.length_append]; omega
 have HT : Hid (recT r=lineL (recZs r)):=by show _=_; rfl
 clear h h1 h2 he hi hM hN hs40 hi12 hck
 generalize recZs r=zs at *
 generalize recT r=tx at *
 generalize r.says.length=n1 at *
 generalize r.img.length=n2 at *
 generalize r.kind=k1 at *
 generalize r.co=c1 at *
 generalize r.ep=e1 at *
 generalize r.pl=p1 at *
 go_enter Tryz.func25,Tryz.ntmps25
 go_upto_region 1 with (fail)
 try rw [hW]
 go_upto_region 5 with (go_at_call 37; refine HC.out.mono ?_; rintro e w1 ⟨rfl,hb1⟩)
 clear i0 i1 i2 i3 i4 i5
 obtain ⟨i0,i1,i2,i3,i4,i5⟩:=HX.out w1 hb1
 have i4a : ∀ o : Obj,(w1.alloc o).cell? ⟨w.heap.size,4,none⟩=some (.slice sa n1 sc):=fun o => at_below (below_alloc w1 o) i4
 have i5a : ∀ o : Obj,(w1.alloc o).cell? ⟨w.heap.size,5,none⟩=some (.slice ia n2 ic):=fun o => at_below (below_alloc w1 o) i5
 have HW1 : Hid (Below w.heap.size w w1):=below_step HBW.out hb1
 go_upto_region 6 with (first
  | (go_at_call 30; refine (HCat.out w1 _ _ hb1 rfl rfl).mono ?_; rintro e w2 ⟨v2,rfl,HI2,HB2⟩; have HB02 : Hid (Below w.heap.size w w2):=below_step HW1.out HB2.out; obtain ⟨nb,no,cn,rfl,hnb,hc⟩:=is_cells HI2.out HLen.out.1 HZ.out))
 have HCl : Hid (∀ i,i < zs.length→w2.cell? ⟨nb,no + i,none⟩=some (.int .i64 (zs.getD i 0))):=hc
 have HZ2 : Hid (∀ k,k < zs.length→i64 (zs.getD k 0)):=fun k hk => HZ.out _ (by rw [List.getD_eq_getElem?_getD,List.getElem?_eq_getElem hk]; exact List.getElem_mem hk)
 have HRg : Hid ((List.range zs.length).map (fun k => zs.getD k 0)=zs):=range_list zs
 have HL2 : Hid (zs.length≤1245):=HLen.out.2
 have HL1 : Hid (0 < zs.length):=HLen.out.1
 have HE2 : Hid (NEnv N w2):=HE.out.below (HB02.out.mono HN.out)
 have HN2 : Hid (N≤w2.heap.size):=Nat.le_trans HN.out HB02.out.size
 clear hc HI2 HLen HZ HC HX HCat i0 i1 i2 i3 i4 i5 i4a i5a hb1 HB2 HE HN HW1 HBW
 obtain ⟨n,hn⟩ : ∃ n,zs.length=n:=⟨_,rfl⟩
 rw [hn] at HCl HZ2 HRg HL2 HL1 ⊢
 generalize hz : (fun k => zs.getD k 0)=z at *
 have hz' : ∀ k,zs.getD k 0=z k:=fun k => by rw [← hz]
 simp only [hz'] at HCl HZ2
 clear hz hz' hn
 have hL1:=HL1.out
 have hL2:=HL2.out
 go_loopw [5,32] (fun q i wr => ∃ k : Nat,k≤n∧i=.int .i64 k∧Hid (StrS w2.heap.size wr q ((List.range k).map fun j => bs (Lib.itoa (z j))))∧Hid (Below w2.heap.size w2 wr)) (fun _ i _ => n - (intOf i).toNat)
 case atStart => exact ⟨0,by omega,rfl,StrS.nil _ _,Below.refl _ _⟩
 case round =>
  obtain ⟨k,hk0,rfl,HW,HB⟩:=hrel
  have hsz:=HB.out.size
  by_cases hk : k < n
  ·have hki : (k : Int) < (n : Int):=by omega
   have q0 : wr.cell? ⟨nb,no + k,none⟩=some (.int .i64 (z k)):=by rw [HB.out.cell (p:=⟨nb,no + k,none⟩) hnb]; exact HCl.out k hk
   have HIt : Hid (Calls Tryz.prog 38 #[.int .i64 (z k)] wr fun e w' => e=.returned (.string (bs (Lib.itoa (z k))))∧Below wr.heap.size wr w'):=nitoa N (z k) (HZ2.out k hk) wr (HE2.out.below (HB.out.mono HN2.out))
   have HNx : Hid ((List.range (k + 1)).map (fun j => bs (Lib.itoa (z j)))=(List.range k).map (fun j => bs (Lib.itoa (z j))) ++ [bs (Lib.itoa (z k))]):=by
    show _=_
    rw [List.range_succ,List.map_append]; rfl
   have HLn : Hid (((List.range k).map fun j => bs (Lib.itoa (z j))).length + 1≤1000000):=(by show _≤_; simp; omega)
   go_wp2_with (first
    | (go_at_call 38; refine HIt.out.mono ?_; rintro e w3 ⟨rfl,b2⟩; have HW2 : Hid (StrS w2.heap.size w3 u5 ((List.range k).map fun j => bs (Lib.itoa (z j)))):=HW.out.keep b2; have hw2 : w2.heap.size≤w3.heap.size:=Nat.le_trans hsz b2.size; have HBl2 : Hid (Below w2.heap.size w2 w3):=HB.out.trans (b2.mono hsz))
    | (at_builtin; refine put_str w3 rfl _ _ rfl w2.heap.size u5 _ _ rfl HW2.out _ _ rfl rfl HLn.out hw2 ?_; intro v3 w4 hW3 hG3; have HG3 : Hid (Below w2.heap.size w3 w4):=hG3.low (HW2.out.low) hw2; clear hG3))
   go_roundw
   case rel => exact ⟨k + 1,by omega,by go_num,(by show StrS _ _ _ _; rw [HNx.out]; exact hW3),HBl2.out.trans HG3.out⟩
   case measure => simp [intOf]; omega
  ·obtain rfl : k=n:=by omega
   have HJ : Hid (Calls Tryz.prog 39 #[u5,.string ⟨#[32]⟩] wr fun e w' => e=.returned (.string (bs tx))∧Below wr.heap.size wr w'):=by
    have hws:=HW.out
    rcases hws.2 with ⟨_,h0⟩ | ⟨g,cap,cur,hv,hgB,hg,hcap,_,_,ht⟩
    ·rw [List.length_map,List.length_range] at h0; omega
    ·rw [hv]
     have hcells : ∀ (j : Nat) x,((List.range k).map fun j => bs (Lib.itoa (z j)))[j]?=some x→wr.cell? ⟨g,0 + j,none⟩=some (.string x):=fun j x hx => by
      have hjl : j < ((List.range k).map fun j => bs (Lib.itoa (z j))).length:=(List.getElem?_eq_some_iff.1 hx).1
      unfold World.cell?
      rw [hg,Nat.zero_add]
      have : cur.toList[j]?=some (.string x):=by
       have h2:=congrArg (fun l : List Value => l[j]?) ht
       simp only [List.getElem?_map,hx,Option.map_some] at h2
       rw [List.getElem?_take,if_pos (by omega)] at h2
       exact h2
      simpa using this
     have hjn : Lib.join (((List.range k).map fun j => bs (Lib.itoa (z j))).map (·.data.toList)) (⟨#[32]⟩ : ByteArray).data.toList=lineL ((List.range k).map z):=by
      unfold lineL
      simp [List.map_map,Function.comp_def,bs]
     have hlen : (lineL ((List.range k).map z)).length≤22 * k:=by
      have:=lnTo_len (zs:=(List.range k).map z) (fun y hy => by obtain ⟨j,hj,rfl⟩:=List.mem_map.1 hy; exact HZ2.out j (List.mem_range.1 hj)) _ (Nat.le_refl _)
      rw [lnTo_all,List.length_map,List.length_range] at this
      exact this
     refine (Tryz.strings_Join g 0 cap ((List.range k).map fun j => bs (Lib.itoa (z j))) ⟨#[32]⟩ wr hcells (Array.getElem?_eq_some_iff.1 hg).1 (by simp; omega) hcap (by rw [hjn]; omega)).mono ?_
     rintro e w' ⟨rfl,hb⟩
     rw [hjn,HRg.out,HT.out]
     exact ⟨rfl,hb⟩
   go_wp2_with (go_at_call 39; refine HJ.out.mono ?_; rintro e w9 ⟨rfl,b9⟩)
   go_ret2
   exact ⟨rfl,below_step HB02.out (below_step HB.out b9)⟩

end Go.Proofs.YtfaggdkiffhdbaaGreatDoor
