/- disk.Put, by the program. -/
import Derived.Test.YtfaggdkiffhdbaaGreatDoorDiskOps3
import Derived.Test.YtfaggdkiffhdbaaGreatDoorPart33
namespace Go.Proofs.YtfaggdkiffhdbaaGreatDoor
open Go.RowKit Go.Maps

/-- What Put answers. -/
def dPutR (d : Dk) (r : Rc) : Int×Dk:=if dErr d=0 then (if recErr r=0 then (if 60000 < d.safe.length + d.wait.length + ((recT r).length + 1) then (2,dk0) else (0,⟨d.safe,d.wait ++ (recT r ++ [10])⟩)) else (recErr r,dk0)) else (dErr d,dk0)

/-- Three boxes: a disk,a record,and what is to be handed back. -/
theorem dthree (w : World) (sv wv : Value) (k c e p : Int) (sy im : Value) : ∃ W,((w.alloc (.cells #[sv,wv] 24)).alloc (.cells #[.int .i64 k,.int .i64 c,.int .i64 e,.int .i64 p,sy,im] 27)).alloc (.cells #[.slice none 0 0,.slice none 0 0] 24)=W∧Hid (Below w.heap.size w W) ∧
  Hid (∀ wk,Below W.heap.size W wk→BoxD w.heap.size wk sv wv∧Box6 (w.heap.size + 1) wk k c e p sy im∧BoxD (w.heap.size + 2) wk (.slice none 0 0) (.slice none 0 0)∧Below w.heap.size w wk):=by
 have b0:=below_alloc w (.cells #[sv,wv] 24)
 have h0 : BoxD w.heap.size (w.alloc (.cells #[sv,wv] 24)) sv wv:=heap_alloc_new w _
 have hs : (w.alloc (.cells #[sv,wv] 24)).heap.size=w.heap.size + 1:=by simp
 generalize w.alloc (.cells #[sv,wv] 24)=V at *
 have b1:=below_alloc V (.cells #[.int .i64 k,.int .i64 c,.int .i64 e,.int .i64 p,sy,im] 27)
 have h1 : Box6 V.heap.size (V.alloc (.cells #[.int .i64 k,.int .i64 c,.int .i64 e,.int .i64 p,sy,im] 27)) k c e p sy im:=heap_alloc_new V _
 have hs1 : (V.alloc (.cells #[.int .i64 k,.int .i64 c,.int .i64 e,.int .i64 p,sy,im] 27)).heap.size=w.heap.size + 2:=by simp [hs]
 rw [hs] at h1
 have h01:=h0.below b1
 generalize V.alloc (.cells #[.int .i64 k,.int .i64 c,.int .i64 e,.int .i64 p,sy,im] 27)=U at *
 have b2:=below_alloc U (.cells #[.slice none 0 0,.slice none 0 0] 24)
 have h2 : BoxD U.heap.size (U.alloc (.cells #[.slice none 0 0,.slice none 0 0] 24)) (.slice none 0 0) (.slice none 0 0):=heap_alloc_new U _
 rw [hs1] at h2
 have h02:=h01.below b2
 have h12:=h1.keep (b2.block _ h1.lt)
 generalize U.alloc (.cells #[.slice none 0 0,.slice none 0 0] 24)=W at *
 have hb : Below w.heap.size w W:=below_step (below_step b0 b1) b2
 exact ⟨W,rfl,hb,fun wk hk => ⟨h02.below hk,h12.keep (hk.block _ h12.lt),h2.below hk,below_step hb hk⟩⟩

theorem RowsB.below {N : Nat} {w w' : World} {v : Value} {Ls : List (List UInt8)} (h : RowsB N w v Ls) (hb : Below N w w') : RowsB N w' v Ls:=by
 obtain ⟨b,o,cap,rfl,h1,h2,h3⟩:=h
 refine ⟨b,o,cap,rfl,h1,h2,fun i l hi => ?_⟩
 obtain ⟨a,c,h4,h5⟩:=h3 i l hi
 exact ⟨a,c,(hb.cell (p:=⟨b,o + i,none⟩) h2).trans h4,h5.below hb⟩
theorem rows2 (V : World) (a b : Option Addr) (ac bc : Nat) (s t : List UInt8) (ha : BytesL V.heap.size V a ac s) (hb : BytesL V.heap.size V b bc t) : RowsB (V.heap.size + 1) (V.alloc (.cells #[.slice a s.length ac,.slice b t.length bc] 22)) (.slice (some ⟨V.heap.size,0,none⟩) 2 2) [s,t]:=by
 have hk : Below V.heap.size V (V.alloc (.cells #[.slice a s.length ac,.slice b t.length bc] 22)):=below_alloc _ _
 refine ⟨_,_,_,rfl,by simp,by omega,fun i l hi => ?_⟩
 rcases i with _ | _ | i
 ·simp at hi; subst hi
  refine ⟨a,ac,?_,(ha.below hk).up (by omega)⟩
  rw [World.cell?_alloc_new]; rfl
 ·simp at hi; subst hi
  refine ⟨b,bc,?_,(hb.below hk).up (by omega)⟩
  rw [World.cell?_alloc_new]; rfl
 ·simp at hi

/-- A string's bytes,made a row. -/
theorem row_of_bytes (w v : World) (s : ByteArray) (l : List UInt8) (hs : s=bs l) (hl : l.length≤1000000) : BytesL (w.heap.size + 1) (w.alloc (.cells (bytesRow s (grownCap v s.size 0 5)) 5 ((bytesRow s (grownCap v s.size 0 5)).size,(bytesRow s (grownCap v s.size 0 5)).size + 1))) (some ⟨w.heap.size,0,none⟩) (grownCap v s.size 0 5) l:=by
 subst hs
 have hsz : (bs l).size=l.length:=bsz l
 have hge:=grownCap_ge v (bs l).size 0 5
 have hle : grownCap v (bs l).size 0 5≤maxLen:=grownCap_le_maxLen v (bs l).size 0 5 (by rw [hsz]; unfold maxLen; omega)
 refine ⟨by omega,by unfold maxLen at hle; omega,(fun e => by cases e),fun p hp => ?_⟩
 cases hp
 refine Or.inr ⟨w.heap.size,0,rfl,by omega,fun i z hi => ?_⟩
 have hil:=(List.getElem?_eq_some_iff.1 hi).1
 rw [Nat.zero_add,World.cell?_alloc_mark]
 unfold bytesRow
 rw [Array.getElem?_append_left (by simp [bs]; exact hil)]
 simp [bs,hi]

theorem below_dd {N : Nat} {v w' : World} (h : Below v.drew.drew.heap.size v.drew.drew w') (hn : v.heap.size=N) : Below N v w':=by
 subst hn
 exact ⟨h.os,h.tape,h.output,h.size,h.block⟩

def PutP (W wk : World) (n : Nat) (l : List UInt8) (e : Ending) (w' : World) : Prop:=∃ x c,e=.returned (.slice x n c)∧Hid (∃ D,BS D w' (.slice x n c) l)∧Hid (Below wk.heap.size wk w')∧Hid (Below W.heap.size W w')

section
variable (M : Nat) (W : World) (wa : Option Addr) (wc : Nat) (wt l : List UInt8) (s : ByteArray) (hs : s=bs l) (hl : wt.length + l.length≤1000000) (hM : M≤W.heap.size) (ha : BytesL M W wa wc wt)
include hs hl hM ha

theorem put_A (wk : World) (hk : Below W.heap.size W wk) : Calls Tryz.prog 20 #[.slice (some ⟨wk.heap.size + 1,0,none⟩) 2 2] (((wk.alloc (.cells (bytesRow s (grownCap wk s.size 0 5)) 5 ((bytesRow s (grownCap wk s.size 0 5)).size,(bytesRow s (grownCap wk s.size 0 5)).size + 1))).alloc (.cells #[.slice wa wt.length wc,.slice (some ⟨wk.heap.size,0,none⟩) s.size (grownCap wk s.size 0 5)] 22)).drew) (PutP W wk (wt ++ l).length (wt ++ l)):=by
 have hr:=row_of_bytes wk wk s l hs (by omega)
 have hsz : s.size=l.length:=by rw [hs]; exact bsz l
 have b1:=below_alloc wk (.cells (bytesRow s (grownCap wk s.size 0 5)) 5 ((bytesRow s (grownCap wk s.size 0 5)).size,(bytesRow s (grownCap wk s.size 0 5)).size + 1))
 have hs1 : (wk.alloc (.cells (bytesRow s (grownCap wk s.size 0 5)) 5 ((bytesRow s (grownCap wk s.size 0 5)).size,(bytesRow s (grownCap wk s.size 0 5)).size + 1))).heap.size=wk.heap.size + 1:=by simp
 generalize wk.alloc (.cells (bytesRow s (grownCap wk s.size 0 5)) 5 ((bytesRow s (grownCap wk s.size 0 5)).size,(bytesRow s (grownCap wk s.size 0 5)).size + 1))=V at *
 have ha1 : BytesL V.heap.size V wa wc wt:=((ha.below (hk.mono hM)).below (b1.mono (Nat.le_trans hM hk.size))).up (by have:=hk.size; omega)
 have hrw:=rows2 V wa (some ⟨wk.heap.size,0,none⟩) wc (grownCap wk s.size 0 5) wt l ha1 (by rw [hs1]; exact hr)
 rw [← hsz,hs1] at hrw
 have b2:=below_alloc V (.cells #[.slice wa wt.length wc,.slice (some ⟨wk.heap.size,0,none⟩) s.size (grownCap wk s.size 0 5)] 22)
 have hs2 : (V.alloc (.cells #[.slice wa wt.length wc,.slice (some ⟨wk.heap.size,0,none⟩) s.size (grownCap wk s.size 0 5)] 22)).heap.size=wk.heap.size + 2:=by simp [hs1]
 generalize V.alloc (.cells #[.slice wa wt.length wc,.slice (some ⟨wk.heap.size,0,none⟩) s.size (grownCap wk s.size 0 5)] 22)=U at *
 have hbu : Below wk.heap.size wk U.drew:=(below_step b1 b2).drew
 have hfl : [wt,l].flatten=wt ++ l:=by simp
 have:=concatB (wk.heap.size + 1 + 1) _ [wt,l] U.drew (by show _≤U.heap.size; omega) (hrw.below ((Below.refl _ U).drew)) (by rw [hfl,List.length_append]; exact hl)
 rw [hfl] at this
 refine this.mono ?_
 rintro e w' ⟨x,c,rfl,h1,h2⟩
 exact ⟨x,c,rfl,⟨_,h1⟩,below_step hbu h2,below_step hk (below_step hbu h2)⟩

theorem put_B (u v wk : World) (hv : Below W.heap.size W v) (hk : Below (v.heap.size + 1) (v.alloc (.cells (bytesRow s (grownCap u s.size 0 5)) 5 ((bytesRow s (grownCap u s.size 0 5)).size,(bytesRow s (grownCap u s.size 0 5)).size + 1))) wk) : Calls Tryz.prog 20 #[.slice (some ⟨wk.heap.size,0,none⟩) 2 2] (wk.alloc (.cells #[.slice wa wt.length wc,.slice (some ⟨v.heap.size,0,none⟩) s.size (grownCap u s.size 0 5)] 22)) (PutP W wk (wt ++ l).length (wt ++ l)):=by
 have hr:=row_of_bytes v u s l hs (by omega)
 have hsz : s.size=l.length:=by rw [hs]; exact bsz l
 have b1:=below_alloc v (.cells (bytesRow s (grownCap u s.size 0 5)) 5 ((bytesRow s (grownCap u s.size 0 5)).size,(bytesRow s (grownCap u s.size 0 5)).size + 1))
 have hs1 : (v.alloc (.cells (bytesRow s (grownCap u s.size 0 5)) 5 ((bytesRow s (grownCap u s.size 0 5)).size,(bytesRow s (grownCap u s.size 0 5)).size + 1))).heap.size=v.heap.size + 1:=by simp
 generalize v.alloc (.cells (bytesRow s (grownCap u s.size 0 5)) 5 ((bytesRow s (grownCap u s.size 0 5)).size,(bytesRow s (grownCap u s.size 0 5)).size + 1))=V at *
 rw [← hs1] at hk
 have hwk : Below v.heap.size v wk:=below_step b1 hk
 have hws:=hk.size
 have ha1 : BytesL wk.heap.size wk wa wc wt:=((ha.below (hv.mono hM)).below (hwk.mono (Nat.le_trans hM hv.size))).up (by have:=hv.size; omega)
 have hr1 : BytesL wk.heap.size wk (some ⟨v.heap.size,0,none⟩) (grownCap u s.size 0 5) l:=by
  rw [← hs1] at hr
  exact (hr.below hk).up hws
 have hrw:=rows2 wk wa (some ⟨v.heap.size,0,none⟩) wc (grownCap u s.size 0 5) wt l ha1 hr1
 rw [← hsz] at hrw
 have b2:=below_alloc wk (.cells #[.slice wa wt.length wc,.slice (some ⟨v.heap.size,0,none⟩) s.size (grownCap u s.size 0 5)] 22)
 have hs2 : (wk.alloc (.cells #[.slice wa wt.length wc,.slice (some ⟨v.heap.size,0,none⟩) s.size (grownCap u s.size 0 5)] 22)).heap.size=wk.heap.size + 1:=by simp
 generalize wk.alloc (.cells #[.slice wa wt.length wc,.slice (some ⟨v.heap.size,0,none⟩) s.size (grownCap u s.size 0 5)] 22)=U at *
 have hfl : [wt,l].flatten=wt ++ l:=by simp
 have:=concatB (wk.heap.size + 1) _ [wt,l] U (by omega) hrw (by rw [hfl,List.length_append]; exact hl)
 rw [hfl] at this
 refine this.mono ?_
 rintro e w' ⟨x,c,rfl,h1,h2⟩
 exact ⟨x,c,rfl,⟨_,h1⟩,below_step b2 h2,below_step hv (below_step hwk (below_step b2 h2))⟩

theorem put_C (u v wk : World) (hv : Below W.heap.size W v) (hk : Below (v.heap.size + 1 + 1) ((v.alloc (.cells (bytesRow s (grownCap u s.size 0 5)) 5 ((bytesRow s (grownCap u s.size 0 5)).size,(bytesRow s (grownCap u s.size 0 5)).size + 1))).alloc (.cells #[.slice wa wt.length wc,.slice (some ⟨v.heap.size,0,none⟩) s.size (grownCap u s.size 0 5)] 22)) wk) : Calls Tryz.prog 20 #[.slice (some ⟨v.heap.size + 1,0,none⟩) 2 2] wk (PutP W wk (wt ++ l).length (wt ++ l)):=by
 have hr:=row_of_bytes v u s l hs (by omega)
 have hsz : s.size=l.length:=by rw [hs]; exact bsz l
 have b1:=below_alloc v (.cells (bytesRow s (grownCap u s.size 0 5)) 5 ((bytesRow s (grownCap u s.size 0 5)).size,(bytesRow s (grownCap u s.size 0 5)).size + 1))
 have hs1 : (v.alloc (.cells (bytesRow s (grownCap u s.size 0 5)) 5 ((bytesRow s (grownCap u s.size 0 5)).size,(bytesRow s (grownCap u s.size 0 5)).size + 1))).heap.size=v.heap.size + 1:=by simp
 generalize v.alloc (.cells (bytesRow s (grownCap u s.size 0 5)) 5 ((bytesRow s (grownCap u s.size 0 5)).size,(bytesRow s (grownCap u s.size 0 5)).size + 1))=V at *
 have ha1 : BytesL V.heap.size V wa wc wt:=((ha.below (hv.mono hM)).below (b1.mono (Nat.le_trans hM hv.size))).up (by have:=hv.size; omega)
 have hrw:=rows2 V wa (some ⟨v.heap.size,0,none⟩) wc (grownCap u s.size 0 5) wt l ha1 (by rw [hs1]; exact hr)
 rw [← hsz,hs1] at hrw
 have b2:=below_alloc V (.cells #[.slice wa wt.length wc,.slice (some ⟨v.heap.size,0,none⟩) s.size (grownCap u s.size 0 5)] 22)
 have hs2 : (V.alloc (.cells #[.slice wa wt.length wc,.slice (some ⟨v.heap.size,0,none⟩) s.size (grownCap u s.size 0 5)] 22)).heap.size=v.heap.size + 2:=by simp [hs1]
 generalize V.alloc (.cells #[.slice wa wt.length wc,.slice (some ⟨v.heap.size,0,none⟩) s.size (grownCap u s.size 0 5)] 22)=U at *
 have hwk : Below v.heap.size v wk:=(below_step b1 b2).trans (hk.mono (by omega))
 have hws:=hk.size
 have hfl : [wt,l].flatten=wt ++ l:=by simp
 have:=concatB (v.heap.size + 1 + 1) _ [wt,l] wk (by omega) (hrw.below hk) (by rw [hfl,List.length_append]; exact hl)
 rw [hfl] at this
 refine this.mono ?_
 rintro e w' ⟨x,c,rfl,h1,h2⟩
 exact ⟨x,c,rfl,⟨_,h1⟩,h2,below_step hv (below_step hwk h2)⟩
end

set_option maxRecDepth 20000 in
set_option maxHeartbeats 8000000 in
/-- disk.Put. -/
theorem dPutC (N M : Nat) (d : Dk) (r : Rc) (sa wa ra ia : Option Addr) (sc wc rc ic : Nat) (w : World) (he : NEnv N w) (hN : N≤w.heap.size) (hM : M≤w.heap.size) (h : DiskIn M w sa sc wa wc d) (hs : DSmall d) (hr : RecIn M w ra rc ia ic r) :
  Calls Tryz.prog 4 #[.agg #[.slice sa d.safe.length sc,.slice wa d.wait.length wc],.agg #[.int .i64 r.kind,.int .i64 r.co,.int .i64 r.ep,.int .i64 r.pl,.slice ra r.says.length rc,.slice ia r.img.length ic]] w (DkK w (dPutR d r).2 (dPutR d r).1):=by
 obtain ⟨W,hW,HBW,HY⟩:=dthree w (.slice sa d.safe.length sc) (.slice wa d.wait.length wc) r.kind r.co r.ep r.pl (.slice ra r.says.length rc) (.slice ia r.img.length ic)
 have HEn : Hid (∀ wk,Below W.heap.size W wk→NEnv N wk∧N≤wk.heap.size∧M≤wk.heap.size∧DiskIn M wk sa sc wa wc d∧RecIn M wk ra rc ia ic r):=fun wk hk => by
  have hb:=(HY.out wk hk).2.2.2
  exact ⟨he.below (hb.mono hN),Nat.le_trans hN hb.size,Nat.le_trans hM hb.size,h.below (hb.mono hM),hr.below (hb.mono hM)⟩
 have HCk : Hid (Calls Tryz.prog 10 #[.agg #[.slice sa d.safe.length sc,.slice wa d.wait.length wc]] W fun e w' => e=.returned (.int .i64 (dErr d))∧Below W.heap.size W w'):=by
  obtain ⟨h1,h2,h3,h4,_⟩:=HEn.out W (Below.refl _ _)
  exact dCheckC N M d sa wa sc wc W h1 h2 h3 h4 hs
 have HPr : Hid (∀ wk,Below W.heap.size W wk→Calls Tryz.prog 18 #[.agg #[.int .i64 r.kind,.int .i64 r.co,.int .i64 r.ep,.int .i64 r.pl,.slice ra r.says.length rc,.slice ia r.img.length ic]] wk fun e w' => e=.returned (.tuple #[.string (rcText r),.int .i64 (recErr r)])∧Below wk.heap.size wk w'):=fun wk hk => by
  obtain ⟨h1,h2,h3,_,h5⟩:=HEn.out wk hk
  exact recPrintE N M r rc ic ra ia wk h2 h1 h3 h5
 have HDz : Hid (dErr d=0→d.safe.length + d.wait.length≤60000):=fun h0 => (dErr_zero h0).1
 have HTs : Hid (recErr r=0→(recT r).length≤60000):=fun h0 => recT_short h0 ⟨hr.1.fit,hr.2.fit⟩
 clear h hs he hN hM hr
 by_cases h0 : dErr d=0
 ·have hlen:=HDz.out h0
  rw [h0] at HCk
  by_cases h1 : recErr r=0
  ·have htl:=HTs.out h1
   have HT : Hid (rcText r=bs (recT r)):=rcText_ok h1
   rw [HT.out,h1] at HPr
   have ha : ∀ w,(Op.stringOp .add (bs (recT r)) ⟨#[10]⟩).run Tryz.prog w=.ok (.string (bs (recT r ++ [10]))) w:=add_both (recT r) [10] (by simp only [List.length_cons,List.length_nil]; omega)
   have hbl : (bs (recT r ++ [10])).size=(recT r).length + 1:=by rw [bsz]; simp
   by_cases hm : 60000 < d.safe.length + d.wait.length + ((recT r).length + 1)
   ·have HR1 : Hid (dPutR d r=(2,dk0)):=by show _=_; unfold dPutR; rw [if_pos h0,if_pos h1,if_pos hm]
    have hmi : (60000 : Int) < (d.safe.length : Int) + (d.wait.length : Int) + (((recT r).length + 1 : Nat) : Int):=by omega
    clear h0 h1 hm HDz HTs HEn HT
    rw [← hbl] at hmi
    have hb1 : (bs (recT r ++ [10])).size≤100000:=by omega
    generalize dPutR d r=rs at *
    generalize bs (recT r ++ [10])=s2 at *
    generalize bs (recT r)=s1 at *
    clear hbl
    generalize d.safe.length=n1 at *
    generalize d.wait.length=n2 at *
    generalize r.says.length=n3 at *
    generalize r.img.length=n4 at *
    generalize r.kind=r0 at *
    generalize r.co=r1 at *
    generalize r.ep=r2 at *
    generalize r.pl=r3 at *
    obtain ⟨i1,i2,_⟩:=(HY.out W (Below.refl _ _)).1.at
    go_enter Tryz.func4,Tryz.ntmps4
    go_upto_region 1 with (fail)
    try rw [hW]
    go_upto_region 4 with (go_at_call 10; refine HCk.out.mono ?_; rintro e w2 ⟨rfl,hb2⟩)
    clear i1 i2
    obtain ⟨i1,i2,_⟩:=(HY.out w2 hb2).1.at
    obtain ⟨j0,j1,j2,j3,j4,j5,_⟩:=(HY.out w2 hb2).2.1.at
    go_upto_region 5 with (go_at_call 18; refine (HPr.out w2 hb2).mono ?_; rintro e w3 ⟨rfl,hb3'⟩)
    have hb3 : Below W.heap.size W w3:=below_step hb2 hb3'
    clear i1 i2 j0 j1 j2 j3 j4 j5
    obtain ⟨i1,i2,_⟩:=(HY.out w3 hb3).1.at
    obtain ⟨y0,y1,yf⟩:=(HY.out w3 hb3).2.2.1.at
    have f0:=yf 0
    have f1:=yf 1
    clear yf
    obtain ⟨W6,hW6,HF6,hb6,hk6⟩:=boxD_put (HY.out w3 hb3).2.2.1 (.slice none 0 0) (.slice none 0 0)
    go_wp2_with (fail)
    try rw [hW6]
    refine bodyPost_ret (res_box rfl _ _ (w.heap.size + 2) 24 _ (0,0) _ rfl HF6 Tryz.underlying24 rfl (by kernel_rfl)) rfl ?_
    rw [HR1.out]
    exact DkK.nothing ((HY.out w3 hb3).2.2.2.trans (hb6 _ (by omega)))
   ·have HR1 : Hid (dPutR d r=(0,⟨d.safe,d.wait ++ (recT r ++ [10])⟩)):=by show _=_; unfold dPutR; rw [if_pos h0,if_pos h1,if_neg hm]
    have hmi : ¬ (60000 : Int) < (d.safe.length : Int) + (d.wait.length : Int) + (((recT r).length + 1 : Nat) : Int):=by omega
    clear h0 h1 HDz HTs HT
    have hcv : ∀ wk,(convert 9 22 (.string (bs (recT r ++ [10])))).run Tryz.prog wk=_:=fun wk => run_bytes_of_string wk 9 22 5 (bs (recT r ++ [10])) Tryz.underlying9 Tryz.underlying22 Tryz.underlying5
    rw [← hbl] at hmi
    have hb1 : (bs (recT r ++ [10])).size≤100000:=by omega
    have hds:=(HEn.out W (Below.refl _ _)).2.2.2.1
    have hMW:=(HEn.out W (Below.refl _ _)).2.2.1
    have hll : d.wait.length + (recT r ++ [10]).length≤1000000:=by simp; omega
    have HPA : Hid (∀ wk,Below W.heap.size W wk→Calls Tryz.prog 20 #[.slice (some ⟨wk.heap.size + 1,0,none⟩) 2 2] _ (PutP W wk (d.wait ++ (recT r ++ [10])).length (d.wait ++ (recT r ++ [10])))):=fun wk hk => put_A M W wa wc d.wait (recT r ++ [10]) _ rfl hll hMW hds.2 wk hk
    have HPB : Hid (∀ u v wk,Below W.heap.size W v→Below (v.heap.size + 1) _ wk→Calls Tryz.prog 20 #[.slice (some ⟨wk.heap.size,0,none⟩) 2 2] _ (PutP W wk (d.wait ++ (recT r ++ [10])).length (d.wait ++ (recT r ++ [10])))):=fun u v wk hv hk => put_B M W wa wc d.wait (recT r ++ [10]) _ rfl hll hMW hds.2 u v wk hv hk
    have HPC : Hid (∀ u v wk,Below W.heap.size W v→Below (v.heap.size + 1 + 1) _ wk→Calls Tryz.prog 20 #[.slice (some ⟨v.heap.size + 1,0,none⟩) 2 2] wk (PutP W wk (d.wait ++ (recT r ++ [10])).length (d.wait ++ (recT r ++ [10])))):=fun u v wk hv hk => put_C M W wa wc d.wait (recT r ++ [10]) _ rfl hll hMW hds.2 u v wk hv hk
    have HC1 : Hid (∀ wk,Below W.heap.size W wk→Calls Tryz.prog 19 #[.slice sa d.safe.length sc] wk fun e w' => ∃ a' c',e=.returned (.slice a' d.safe.length c')∧Hid (BS wk.heap.size w' (.slice a' d.safe.length c') d.safe)∧Hid (Below wk.heap.size wk w')):=fun wk hk => cloneB wk (HEn.out wk hk).2.2.2.1.1 (by omega)
    generalize dPutR d r=rs at *
    have HRd : Hid (rs=(0,⟨d.safe,d.wait ++ (recT r ++ [10])⟩)):=HR1
    clear HR1 hds hll HEn
    generalize d.wait ++ (recT r ++ [10])=wl at *
    generalize bs (recT r ++ [10])=s2 at *
    generalize bs (recT r)=s1 at *
    clear hbl
    generalize hsf : d.safe=sf at *
    clear hsf
    obtain ⟨wn,hwn⟩ : ∃ wn,wl.length=wn:=⟨_,rfl⟩
    rw [hwn] at HPA HPB HPC
    have HDd : Hid (∀ wk a3 c3 a4 c4,BytesT wk a3 c3 sf→BytesT wk a4 c4 wl→Below w.heap.size w wk→DkK w ⟨sf,wl⟩ 0 (.returned (.tuple #[.agg #[.slice a3 sf.length c3,.slice a4 wn c4],.int .i64 0])) wk):=fun wk a3 c3 a4 c4 h3 h4 hb => by
     refine ⟨a3,c3,a4,c4,?_,⟨h3,h4⟩,hb⟩
     show _=Ending.returned (.tuple #[.agg #[.slice a3 sf.length c3,.slice a4 wl.length c4],.int .i64 0])
     rw [hwn]
    clear hwn
    generalize sf.length=n1 at *
    generalize d.wait.length=n2 at *
    generalize r.says.length=n3 at *
    generalize r.img.length=n4 at *
    generalize r.kind=r0 at *
    generalize r.co=r1 at *
    generalize r.ep=r2 at *
    generalize r.pl=r3 at *
    obtain ⟨i1,i2,_⟩:=(HY.out W (Below.refl _ _)).1.at
    go_enter Tryz.func4,Tryz.ntmps4
    go_upto_region 1 with (fail)
    try rw [hW]
    go_upto_region 4 with (go_at_call 10; refine HCk.out.mono ?_; rintro e w2 ⟨rfl,hb2⟩)
    clear i1 i2
    obtain ⟨i1,i2,_⟩:=(HY.out w2 hb2).1.at
    obtain ⟨j0,j1,j2,j3,j4,j5,_⟩:=(HY.out w2 hb2).2.1.at
    go_upto_region 5 with (go_at_call 18; refine (HPr.out w2 hb2).mono ?_; rintro e w3 ⟨rfl,hb3'⟩)
    have hb3 : Below W.heap.size W w3:=below_step hb2 hb3'
    clear i1 i2 j0 j1 j2 j3 j4 j5
    obtain ⟨i1,i2,_⟩:=(HY.out w3 hb3).1.at
    go_upto_region 10 with (fail)
    have hz3 : W.heap.size≤w3.heap.size:=hb3.size
    have HUp : Hid (∀ wk,Below w3.heap.size w3 wk→Below W.heap.size W wk∧BoxD w.heap.size wk (.slice sa n1 sc) (.slice wa n2 wc)):=fun wk hk => ⟨below_step hb3 hk,(HY.out wk (below_step hb3 hk)).1⟩
    have hbd : Below w3.heap.size w3 w3.drew:=(Below.refl _ _).drew
    have hbc : ∀ o1,Below w3.heap.size w3 ((w3.alloc o1).drew.drew):=fun o1 => (below_alloc w3 o1).drew.drew
    have hbr : ∀ o1 o2,Below w3.heap.size w3 (((w3.alloc o1).alloc o2).drew.drew):=fun o1 o2 => (below_step (below_alloc w3 o1) (below_alloc _ o2)).drew.drew
    have icv : ∀ o1 : Obj,(w3.alloc o1).cell? ⟨w.heap.size,0,none⟩=some (.slice sa n1 sc)∧(w3.alloc o1).cell? ⟨w.heap.size,1,none⟩=some (.slice wa n2 wc):=fun o1 => by
     obtain ⟨x1,x2,_⟩:=(HUp.out _ (below_alloc w3 o1)).2.at
     exact ⟨x1,x2⟩
    have icv1 : ∀ o1 : Obj,(w3.alloc o1).cell? ⟨w.heap.size,0,none⟩=some (.slice sa n1 sc):=fun o1 => (icv o1).1
    have icv2 : ∀ o1 : Obj,(w3.alloc o1).cell? ⟨w.heap.size,1,none⟩=some (.slice wa n2 wc):=fun o1 => (icv o1).2
    have ir : ∀ o1 o2 : Obj,((w3.alloc o1).alloc o2).cell? ⟨w.heap.size,0,none⟩=some (.slice sa n1 sc):=fun o1 o2 => (HUp.out _ (below_step (below_alloc w3 o1) (below_alloc _ o2))).2.at.1
    clear icv
    go_region_with (first
     | (have hm:=mA; go_at_call 20; refine (HPA.out w6 hb6).mono ?_; rintro e w8 ⟨x8,c8,rfl,HX8,HB8,HW8⟩; obtain ⟨y0,y1,yf⟩:=(HY.out w8 HW8.out).2.2.1.at; have f0:=yf 0; have f1:=yf 1)
     | (have hm:=mB; go_at_call 20; refine (HPB.out w3.drew w3 w6 hb3 (below_dd HB6.out (by simp))).mono ?_; rintro e w8 ⟨x8,c8,rfl,HX8,HB8,HW8⟩; obtain ⟨y0,y1,yf⟩:=(HY.out w8 HW8.out).2.2.1.at; have f0:=yf 0; have f1:=yf 1)
     | (have hm:=mC; go_at_call 20; refine (HPC.out w3.drew w3 w6 hb3 (below_dd HB6.out (by simp))).mono ?_; rintro e w8 ⟨x8,c8,rfl,HX8,HB8,HW8⟩; obtain ⟨y0,y1,yf⟩:=(HY.out w8 HW8.out).2.2.1.at; have f0:=yf 0; have f1:=yf 1)
     | (go_at_call 19; with_reducible refine (HC1.out _ (HUp.out _ hbd).1).mono ?_; rintro e w6 ⟨a6,c6,rfl,HX6,HB6⟩; have mA:=True.intro; have hb6 : Below W.heap.size W w6:=(HUp.out w6 (below_step hbd HB6.out)).1; obtain ⟨x1,x2,_⟩:=(HY.out w6 hb6).1.at; have x2a : ∀ o : Obj,(w6.alloc o).cell? ⟨w.heap.size,1,none⟩=some (.slice wa n2 wc):=fun o => at_below (below_alloc w6 o) x2)
     | (go_at_call 19; with_reducible refine (HC1.out _ (HUp.out _ (hbc _)).1).mono ?_; rintro e w6 ⟨a6,c6,rfl,HX6,HB6⟩; have mB:=True.intro; have hb6 : Below W.heap.size W w6:=(HUp.out w6 (below_step (hbc _) HB6.out)).1; obtain ⟨x1,x2,_⟩:=(HY.out w6 hb6).1.at; have x2a : ∀ o : Obj,(w6.alloc o).cell? ⟨w.heap.size,1,none⟩=some (.slice wa n2 wc):=fun o => at_below (below_alloc w6 o) x2)
     | (go_at_call 19; with_reducible refine (HC1.out _ (HUp.out _ (hbr _ _)).1).mono ?_; rintro e w6 ⟨a6,c6,rfl,HX6,HB6⟩; have mC:=True.intro; have hb6 : Below W.heap.size W w6:=(HUp.out w6 (below_step (hbr _ _) HB6.out)).1; obtain ⟨x1,x2,_⟩:=(HY.out w6 hb6).1.at; have x2a : ∀ o : Obj,(w6.alloc o).cell? ⟨w.heap.size,1,none⟩=some (.slice wa n2 wc):=fun o => at_below (below_alloc w6 o) x2))
    all_goals
     clear x1 x2 x2a yf hcv icv1 icv2 ir hb6
     obtain ⟨W6,hW6,HF6,hb6,hk6⟩:=boxD_put (HY.out w8 HW8.out).2.2.1 (.slice a6 n1 c6) (.slice x8 wn c8)
     go_wp2_with (fail)
     try rw [hW6]
     refine bodyPost_ret (res_box rfl _ _ (w.heap.size + 2) 24 _ (0,0) _ rfl HF6 Tryz.underlying24 rfl (by kernel_rfl)) rfl ?_
     rw [HRd.out]
     obtain ⟨D8,h8⟩:=HX8.out
     exact HDd.out W6 a6 c6 x8 c8 (own_bytesT (own_keep (HX6.out.keep HB8.out) (hk6 5 (by decide)))) (own_bytesT (own_keep h8 (hk6 5 (by decide)))) ((HY.out w8 HW8.out).2.2.2.trans (hb6 _ (by omega)))
  ·have hne : (recErr r != 0)=true:=by simpa using h1
   have HR1 : Hid (dPutR d r=(recErr r,dk0)):=by show _=_; unfold dPutR; rw [if_pos h0,if_neg h1]
   clear h0 h1 HDz HTs HEn hlen
   generalize dPutR d r=rs at *
   generalize rcText r=s1 at *
   generalize recErr r=er at *
   generalize d.safe.length=n1 at *
   generalize d.wait.length=n2 at *
   generalize r.says.length=n3 at *
   generalize r.img.length=n4 at *
   generalize r.kind=r0 at *
   generalize r.co=r1 at *
   generalize r.ep=r2 at *
   generalize r.pl=r3 at *
   obtain ⟨i1,i2,_⟩:=(HY.out W (Below.refl _ _)).1.at
   go_enter Tryz.func4,Tryz.ntmps4
   go_upto_region 1 with (fail)
   try rw [hW]
   go_upto_region 4 with (go_at_call 10; refine HCk.out.mono ?_; rintro e w2 ⟨rfl,hb2⟩)
   clear i1 i2
   obtain ⟨j0,j1,j2,j3,j4,j5,_⟩:=(HY.out w2 hb2).2.1.at
   go_wp2_with (go_at_call 18; refine (HPr.out w2 hb2).mono ?_; rintro e w3 ⟨rfl,hb3'⟩; have hb3 : Below W.heap.size W w3:=below_step hb2 hb3'; obtain ⟨y0,y1,yf⟩:=(HY.out w3 hb3).2.2.1.at; have f0:=yf 0; have f1:=yf 1)
   obtain ⟨W6,hW6,HF6,hb6,hk6⟩:=boxD_put (HY.out w3 hb3).2.2.1 (.slice none 0 0) (.slice none 0 0)
   try rw [hW6]
   refine bodyPost_ret (res_box rfl _ _ (w.heap.size + 2) 24 _ (0,0) _ rfl HF6 Tryz.underlying24 rfl (by kernel_rfl)) rfl ?_
   rw [HR1.out]
   exact DkK.nothing ((HY.out w3 hb3).2.2.2.trans (hb6 _ (by omega)))
 ·have hne : (dErr d != 0)=true:=by simpa using h0
  have HR1 : Hid (dPutR d r=(dErr d,dk0)):=by show _=_; unfold dPutR; rw [if_neg h0]
  clear h0 HDz HTs HEn HPr
  generalize dPutR d r=rs at *
  generalize dErr d=er at *
  generalize d.safe.length=n1 at *
  generalize d.wait.length=n2 at *
  generalize r.says.length=n3 at *
  generalize r.img.length=n4 at *
  generalize r.kind=r0 at *
  generalize r.co=r1 at *
  generalize r.ep=r2 at *
  generalize r.pl=r3 at *
  obtain ⟨i1,i2,_⟩:=(HY.out W (Below.refl _ _)).1.at
  go_enter Tryz.func4,Tryz.ntmps4
  go_upto_region 1 with (fail)
  try rw [hW]
  go_wp2_with (go_at_call 10; refine HCk.out.mono ?_; rintro e w2 ⟨rfl,hb2⟩; obtain ⟨y0,y1,yf⟩:=(HY.out w2 hb2).2.2.1.at; have f0:=yf 0; have f1:=yf 1)
  obtain ⟨W6,hW6,HF6,hb6,hk6⟩:=boxD_put (HY.out w2 hb2).2.2.1 (.slice none 0 0) (.slice none 0 0)
  try rw [hW6]
  refine bodyPost_ret (res_box rfl _ _ (w.heap.size + 2) 24 _ (0,0) _ rfl HF6 Tryz.underlying24 rfl (by kernel_rfl)) rfl ?_
  rw [HR1.out]
  exact DkK.nothing ((HY.out w2 hb2).2.2.2.trans (hb6 _ (by omega)))

end Go.Proofs.YtfaggdkiffhdbaaGreatDoor
