/- DiskKeeps' closure: records put one by one. -/
import Derived.Test.YtfaggdkiffhdbaaDoorDiskKp
import Derived.Test.YtfaggdkiffhdbaaDoorDiskCat
import Derived.Deep.AppendLies
import Derived.Deep.RegionHeldLaw
namespace Go.Proofs.YtfaggdkiffhdbaaDoor
open Go.RowKit Go.Maps

theorem step_rec {ops : Array Oper} {o : Oper} {a : Act} {K : Act→World→Prop} {Q : Exit→Act→World→Prop} {E : Prop} (w : World) (hgd : o.guard=none) (s y : Operand)
  (ho : o.op=.call { callee:=.builtin .append,args:=#[s,y],argTypes:=#[34,34] }) (base n : Nat) (v : Value) (l : List (Rc×RAd)) (r : Rc) (q : RAd) (hs : a.eval s=v) (hown : w.ownsRow base 24 6 v n (flatR l))
  (B : Nat) (hy : a.eval y=.slice (some ⟨B,0,none⟩) 1 1) (hc : w.heap[B]?=some (.cells #[.int .i64 r.kind,.int .i64 r.co,.int .i64 r.ep,.int .i64 r.pl,.slice q.1 r.says.length q.2.1,.slice q.2.2.1 r.img.length q.2.2.2] 24 (0,0))) (hR : n≤100000) (hbase : base≤w.heap.size)
  (h : ∀ g cap w2,Hid (w2.ownsRow base 24 6 (.slice (some ⟨g,0,none⟩) (n + 1) cap) (n + 1) (flatR (l ++ [(r,q)])))→Hid (w.grownBy w2 v.ownBlock)→K (a.put o.dst (.slice (some ⟨g,0,none⟩) (n + 1) cap)) w2) :
  if Region.wanted o (yielded ops a.tmps)=true then Oper.wp Tryd.prog o a w K Q else E:=by
 obtain ⟨i0,hi,hz0,hz1,hz2⟩:=info_parts infoRec
 refine step_append_lies _ hgd s y 34 ho base 24 i0 (.agg #[.int .i64 0,.int .i64 0,.int .i64 0,.int .i64 0,.slice none 0 0,.slice none 0 0]) 6 80 Tryd.underlying34 hi hz0 hz1 hz2 rfl (by decide) v _ _ hs hown ⟨B,0,none⟩ 1 1 (recVs r q) hy rfl (World.news_of_block hc) (fun u hu => ?_) (by decide) (by unfold maxLen; omega) (by omega) hbase _ rfl ?_
 ·unfold recVs at hu
  simp only [List.mem_cons,List.mem_nil_iff,or_false] at hu
  rcases hu with rfl | rfl | rfl | rfl | rfl | rfl <;> rfl
 intro g cap w2 h1 h2 _ _
 refine h g cap w2 ?_ h2
 rw [show flatR (l ++ [(r,q)])=flatR l ++ recVs r q by unfold flatR; rw [List.flatMap_append]; simp]
 exact h1

theorem kRun_succ (d : Dk) (l : List Rc) (j : Nat) (h : j < l.length) : kRun d (l.take (j + 1))=kStep (kRun d (l.take j)) (l.getD j rc0):=by
 unfold kRun
 rw [List.take_add_one,List.foldl_append,List.getD_eq_getElem?_getD,List.getElem?_eq_getElem h]
 rfl
theorem kStep_small {s : Dk×List Rc} {r : Rc} (h : DSmall s.1) : DSmall (kStep s r).1:=by
 unfold kStep
 by_cases h0 : (dPutR s.1 r).1=0
 ·rw [if_pos h0]
  obtain ⟨_,_,h2,h3⟩:=dPutR_ok h0
  rw [h2]
  exact ⟨by simp only []; omega,by simp only []; omega⟩
 ·rw [if_neg h0]
  exact h

/-- What is so put,in memory. -/
def KP (M X : Nat) (w : World) (s : Dk×List Rc) (u : Value) (w' : World) : Prop:=∃ (A : List (Rc×RAd)) (sa : Option Addr) (sc : Nat) (wa : Option Addr) (wc : Nat),Hid (w'.ownsRow w.heap.size 24 6 u A.length (flatR A))∧Hid (A.map (·.1)=s.2)∧Hid (∀ x ∈ A,RecIn M w' x.2.1 x.2.2.1 x.2.2.2.1 x.2.2.2.2 x.1) ∧
 Hid (BoxD X w' (.slice sa s.1.safe.length sc) (.slice wa s.1.wait.length wc))∧Hid (DiskT w' sa sc wa wc s.1)∧Hid (Below X w w')∧Hid (Keeps 24 w w')

theorem ls_to (za : Option Addr) (n zc m : Nat) (h1 : m≤zc) (h2 : zc≤9223372036854775807) (ha : za=none→zc=0) (wk : World) : (Instr.slice 34 (.slice za n zc) none (some (.int .i64 (m : Nat))) none).run Tryd.prog wk=.ok (.slice za m zc) wk:=by
 have hs3 : ∀ w : World,(sizeOf 24).run Tryd.prog w=.ok 6 w:=fun w => by kernel_rfl
 cases za with
 | none =>
  have h0:=ha rfl
  subst h0
  obtain rfl : m=0:=by omega
  simp [Instr.slice,Instr.sliceBounds,Instr.sliceBound,asIntOf,run_underlying Tryd.underlying34,hs3,go_sem]
 | some a =>
  simp [Instr.slice,Instr.sliceBounds,Instr.sliceBound,asIntOf,run_underlying Tryd.underlying34,hs3,go_sem]
  intro h; omega

set_option maxRecDepth 20000 in
set_option maxHeartbeats 8000000 in
theorem keepPut (N M X : Nat) (w : World) (d : Dk) (la : Option Addr) (lc : Nat) (l : List Rc) (sa wa : Option Addr) (sc wc : Nat) (he : NEnv N w) (hNX : N≤X) (hMX : M≤X) (hX : BoxD X w (.slice sa d.safe.length sc) (.slice wa d.wait.length wc)) (hT : DiskT w sa sc wa wc d) (hs : DSmall d) (hl : RecsL M w la lc l) :
  Calls Tryd.prog 14 #[.slice la l.length lc,.pointer (some ⟨X,0,none⟩)] w fun e w' => ∃ a c n,e=.returned (.slice a n c)∧Hid (n=(kRun d (l.take 5)).2.length)∧Hid (KP M X w (kRun d (l.take 5)) (.slice a n c) w'):=by
 have hXs:=hX.lt
 have HE : Hid (∀ wk,Below X w wk→NEnv N wk∧RecsL M wk la lc l):=fun wk hk => ⟨he.below (hk.mono hNX),hl.below (hk.mono hMX)⟩
 have hlb:=hl.big
 have hle:=hl.le
 have hln:=hl.nil
 obtain ⟨n5,hn5⟩ : ∃ n5,(l.take 5).length=n5:=⟨_,rfl⟩
 have h5 : n5≤5:=by rw [List.length_take] at hn5; omega
 have h5l : n5≤l.length:=by rw [List.length_take] at hn5; omega
 have hmin : min (l.length : Int) 5=(n5 : Int):=by rw [List.length_take] at hn5; omega
 have hsl : ∀ wk,(Instr.slice 34 (.slice la l.length lc) none (some (.int .i64 (n5 : Nat))) none).run Tryd.prog wk=.ok (.slice la n5 lc) wk:=ls_to la l.length lc n5 (by omega) hlb (fun e => (hln e).2)
 have HSt : Hid (KP M X w (kRun d ((l.take 5).take 0)) (.slice none 0 0) w):=⟨[],sa,sc,wa,wc,World.ownsRow_nil _ _ _ _,rfl,(fun x hx => by cases hx),hX,hT,Below.refl _ _,Keeps.refl _ _⟩
 have HSm0 : Hid (DSmall (kRun d ((l.take 5).take 0)).1):=hs
 have HS : Hid (∀ j,j < n5→kRun d ((l.take 5).take (j + 1))=kStep (kRun d ((l.take 5).take j)) (l.getD j rc0)):=fun j hj => by
  have:=kRun_succ d (l.take 5) j (by rw [hn5]; exact hj)
  rw [List.getD_eq_getElem?_getD,List.getElem?_take,if_pos (by omega),← List.getD_eq_getElem?_getD] at this
  exact this
 have HAll : Hid ((l.take 5).take n5=l.take 5):=by show _=_; rw [← hn5,List.take_length]
 have HLl : Hid (∀ j,j < n5→l[j]?=some (l.getD j rc0)):=fun j hj => by rw [List.getD_eq_getElem?_getD,List.getElem?_eq_getElem (by omega)]; rfl
 generalize (l.take 5)=l5 at *
 clear hX hT hs he hl hlb hle hln
 obtain ⟨ln,hln⟩ : ∃ ln,l.length=ln:=⟨_,rfl⟩
 rw [hln] at hsl hmin h5l ⊢
 clear hn5 hln
 go_enter Tryd.func14,Tryd.ntmps14
 go_upto_region 3 with (fail)
 clear hsl hmin
 go_loopw [4,15] (fun u i wr => ∃ j : Nat,j≤n5∧i=.int .i64 j∧Hid (KP M X w (kRun d (l5.take j)) u wr)∧Hid (DSmall (kRun d (l5.take j)).1)) (fun _ i _ => n5 - (intOf i).toNat)
 case atStart => exact ⟨0,Nat.zero_le _,rfl,HSt.out,HSm0.out⟩
 case round =>
  obtain ⟨j,hj,rfl,HK,HSm⟩:=hrel
  by_cases hlt : j < n5
  ·have hji : (j : Int) < (n5 : Int):=by omega
   have HSc:=(show Hid _ from HS.out j hlt)
   obtain ⟨A,sa,sc,wa,wc,HA,HAm,HAr,HX,HT,HB,HKp⟩:=HK.out
   obtain ⟨ua,uc,rfl⟩:=own_shape HA.out
   have HAl : Hid (A.length≤5):=by
    have h1:=congrArg List.length HAm.out
    rw [List.length_map] at h1
    have h2 : ∀ (q : List Rc) (s : Dk×List Rc),(q.foldl kStep s).2.length≤s.2.length + q.length:=by
     intro q
     induction q with
     | nil => intro s; simp
     | cons a q ih =>
      intro s
      rw [List.foldl_cons]
      have:=ih (kStep s a)
      have h3 : (kStep s a).2.length≤s.2.length + 1:=by
       unfold kStep
       split
       ·simp
       ·omega
      rw [List.length_cons]
      omega
    have h3:=h2 (l5.take j) (d,[])
    rw [List.length_take] at h3
    show A.length≤5
    unfold kRun at h1
    simp at h3
    omega
   have hrl:=(HE.out wr HB.out).2
   rcases hrl.one with h0 | ⟨b,o,rfl,hbM,hc⟩
   ·have:=HLl.out j hlt
    rw [h0] at this
    simp at this
   obtain ⟨ra,rc,ia,ic,x0,x1,x2,x3,x4,x5,hrin⟩:=hc j _ (HLl.out j hlt)
   have HRin : Hid (RecIn M wr ra rc ia ic (l.getD j rc0)):=hrin
   have hX7:=HX.out.lt
   generalize l.getD j rc0=r at *
   obtain ⟨W1,hW1,hb1,hsz1,m0,m1,m2,m3,m4,m5⟩:=rbox wr r.kind r.co r.ep r.pl (.slice ra r.says.length rc) (.slice ia r.img.length ic)
   have HB1 : Hid (Below wr.heap.size wr W1):=hb1
   have HM : Hid (∀ wk,Below W1.heap.size W1 wk→wk.cell? ⟨wr.heap.size,0,none⟩=some (.int .i64 r.kind)∧wk.cell? ⟨wr.heap.size,1,none⟩=some (.int .i64 r.co)∧wk.cell? ⟨wr.heap.size,2,none⟩=some (.int .i64 r.ep)∧wk.cell? ⟨wr.heap.size,3,none⟩=some (.int .i64 r.pl)∧wk.cell? ⟨wr.heap.size,4,none⟩=some (.slice ra r.says.length rc)∧wk.cell? ⟨wr.heap.size,5,none⟩=some (.slice ia r.img.length ic)):=fun wk hk => ⟨at_below hk m0,at_below hk m1,at_below hk m2,at_below hk m3,at_below hk m4,at_below hk m5⟩
   clear hc hrin hsz1
   have HBX : Hid (∀ wk,Below wr.heap.size wr wk→Below X w wk):=fun wk hk => HB.out.trans (hk.mono (Nat.le_of_lt hX7))
   generalize kRun d (l5.take j)=s at *
   have HPut : Hid (Calls Tryd.prog 15 #[.agg #[.slice sa s.1.safe.length sc,.slice wa s.1.wait.length wc],.agg #[.int .i64 r.kind,.int .i64 r.co,.int .i64 r.ep,.int .i64 r.pl,.slice ra r.says.length rc,.slice ia r.img.length ic]] W1 (DkK W1 (dPutR s.1 r).2 (dPutR s.1 r).1)):=by
    have hb:=HBX.out W1 HB1.out
    have hT1:=HT.out.below HB1.out
    have hMw : M≤wr.heap.size:=by have:=HB.out.size; omega
    exact dPutC N W1.heap.size s.1 r sa wa ra ia sc wc rc ic W1 (HE.out W1 hb).1 (by have:=hb.size; omega) (Nat.le_refl _) hT1.in HSm.out ((HRin.out.below (HB1.out.mono hMw)).up (Nat.le_trans hMw HB1.out.size))
   have HSs : Hid (DSmall (kRun d (l5.take (j + 1))).1):=by show DSmall _; rw [HSc.out]; exact kStep_small HSm.out
   have HX1 : Hid (BoxD X W1 (.slice sa s.1.safe.length sc) (.slice wa s.1.wait.length wc)):=HX.out.below HB1.out
   obtain ⟨i0,i1,_⟩:=HX1.out.at
   have HYes : Hid ((dPutR s.1 r).1=0→kRun d (l5.take (j + 1))=((dPutR s.1 r).2,s.2 ++ [r])):=fun h => by rw [HSc.out]; unfold kStep; rw [if_pos h]
   have HNo : Hid (¬ (dPutR s.1 r).1=0→kRun d (l5.take (j + 1))=s):=fun h => by rw [HSc.out]; unfold kStep; rw [if_neg h]
   go_upto_region 5 with (fail)
   try rw [hW1]
   clear hW1 x0 x1 x2 x3 x4 x5 hb1 HSc
   generalize (dPutR s.1 r).2=nd at *
   generalize (dPutR s.1 r).1=er at *
   obtain ⟨sn,hsn⟩ : ∃ sn,s.1.safe.length=sn:=⟨_,rfl⟩
   obtain ⟨wn,hwn⟩ : ∃ wn,s.1.wait.length=wn:=⟨_,rfl⟩
   have HSn : Hid (s.1.safe.length=sn∧s.1.wait.length=wn):=⟨hsn,hwn⟩
   rw [hsn,hwn] at HPut HX1 HX
   rw [hsn] at i0
   rw [hwn] at i1
   clear hsn hwn
   go_upto_region 6 with (go_at_call 15; refine HPut.out.mono ?_; rintro e w2 ⟨ya,yc,za,zc,rfl,HD2,HB2⟩)
   obtain ⟨W3,hW3,hb3,hsz3,k0,k1⟩:=dbox w2 (.slice ya nd.safe.length yc) (.slice za nd.wait.length zc)
   try rw [hW3]
   have HZ3 : Hid (BoxD w2.heap.size W3 (.slice ya nd.safe.length yc) (.slice za nd.wait.length zc)):=by
    show BoxD _ _ _ _
    rw [← hW3]; exact heap_alloc_new w2 _
   have HD3 : Hid (DiskT W3 ya yc za zc nd):=HD2.out.below hb3
   have HB13 : Hid (Below W1.heap.size W1 W3):=below_step HB2.out hb3
   have HX3 : Hid (BoxD X W3 (.slice sa sn sc) (.slice wa wn wc)):=HX1.out.below HB13.out
   have HBr3 : Hid (Below wr.heap.size wr W3):=below_step HB1.out HB13.out
   clear i0 i1 m0 m1 m2 m3 m4 m5 hW3 hsz3 hb3 HD2 HB2 HPut HX1
   obtain ⟨m0,m1,m2,m3,m4,m5⟩:=HM.out W3 HB13.out
   by_cases h0 : er=0
   ·have hne : (er == 0)=true:=by rw [h0]; rfl
    have HK1 : Hid (kRun d (l5.take (j + 1))=(nd,s.2 ++ [r])):=HYes.out h0
    clear h0 HYes HNo
    have HA3 : Hid (W3.ownsRow w.heap.size 24 6 (.slice ua A.length uc) A.length (flatR A)):=own_keep HA.out (Keeps.of HBr3.out)
    have HAo : Hid (∀ o : Obj,((W3.alloc o).drew).ownsRow w.heap.size 24 6 (.slice ua A.length uc) A.length (flatR A)):=fun o => own_keep HA3.out (Keeps.of (below_alloc W3 o).drew)
    have hws : w.heap.size≤wr.heap.size:=by
     have h1:=HX.out.lt
     have h2:=HB.out.size
     exact h2
    have hw3 : w.heap.size≤W3.heap.size:=Nat.le_trans hws HBr3.out.size
    have HAft : Hid (∀ (w7 : World) (cs : Array Value),((W3.alloc (.cells cs 24)).drew).grownBy w7 (Value.slice ua A.length uc).ownBlock→(∀ Y sv wv,BoxD Y W3 sv wv→BoxD Y w7 sv wv)∧Below X W3 w7∧Keeps 5 W3 w7∧Keeps 24 w w7):=fun w7 cs hgr => by
     have hb : Below W3.heap.size W3 ((W3.alloc (.cells cs 24)).drew):=(below_alloc W3 _).drew
     have hrow : ∀ g,(Value.slice ua A.length uc).ownBlock=some g→w.heap.size≤g∧∃ cur,W3.heap[g]?=some (.cells cur 24 (0,0)):=by
      intro g hg
      rcases HA3.out.2 with ⟨e,_⟩ | ⟨g',cap,cur,e,hC,h2,_⟩
      ·rw [e] at hg; cases hg
      ·rw [e] at hg; cases hg
       exact ⟨hC,cur,h2⟩
     have hblk : ∀ k,k < W3.heap.size→(∀ g,(Value.slice ua A.length uc).ownBlock=some g→¬ k=g)→w7.heap[k]?=W3.heap[k]?:=fun k hk hn => by
      rw [hgr.block k (Nat.lt_of_lt_of_le hk hb.size) (fun e => hn k e.symm rfl),hb.block k hk]
     refine ⟨fun Y sv wv hY => hY.keep (hblk Y hY.lt fun g hg => ?_),?_,?_,fun k cur hk => ?_⟩
     ·rintro rfl
      obtain ⟨_,cur,hc⟩:=hrow Y hg
      have:=hY
      unfold BoxD at this
      rw [hc] at this
      injection this with this
      injection this with _ h2 _
      exact absurd h2 (by decide)
     ·exact (hb.mono (Nat.le_trans (Nat.le_of_lt hXs) hw3)).grown hgr (Nat.le_trans (Nat.le_trans (Nat.le_of_lt hXs) hw3) hb.size) fun k hk => by have:=(hrow k hk).1; omega
     ·exact (Keeps.of hb).trans (Keeps.grown hgr (fun g hg => by
       obtain ⟨_,cur,hc⟩:=hrow g hg
       exact ⟨cur,by rw [hb.block g (Array.getElem?_eq_some_iff.1 hc).1]; exact hc⟩) (by decide))
     ·have hkw:=(Array.getElem?_eq_some_iff.1 hk).1
      have h3 : W3.heap[k]?=some (Obj.cells cur 24 (0,0)):=(HKp.out.trans (Keeps.of HBr3.out)) k cur hk
      rw [hblk k (by omega) fun g hg => by have:=(hrow g hg).1; omega]
      exact h3
    have hAn : A.length≤100000:=by have:=HAl.out; omega
    have k0a : ∀ o : Obj,(W3.alloc o).cell? ⟨w2.heap.size,0,none⟩=some (.slice ya nd.safe.length yc):=fun o => at_below (below_alloc W3 o) k0
    have k1a : ∀ o : Obj,(W3.alloc o).cell? ⟨w2.heap.size,1,none⟩=some (.slice za nd.wait.length zc):=fun o => at_below (below_alloc W3 o) k1
    go_upto_region 7 with (fail)
    go_region_law (first
     | (refine step_rec _ rfl _ _ rfl w.heap.size A.length (.slice ua A.length uc) A r (ra,rc,ia,ic) rfl (HAo.out _) _ rfl (heap_alloc_new W3 _) hAn (Nat.le_trans hw3 (below_alloc W3 _).size) ?_; intro g cap w7 hown hgr; obtain ⟨hbox7,hbx7,hk57,hkr7⟩:=HAft.out w7 _ hgr.out; have HX7:=hbox7 _ _ _ HX3.out; obtain ⟨n0,n1,_⟩:=(hbox7 _ _ _ HZ3.out).at; obtain ⟨y0,y1,yf⟩:=HX7.at; have f0:=yf 0; have f1:=yf 1)
     | (go_simp; go_wp2_with (fail)))
    all_goals
     obtain ⟨W8,hW8,HF8,hb8,hk8⟩:=boxD_put HX7 (.slice ya nd.safe.length yc) (.slice za nd.wait.length zc)
     have HBr8 : Hid (Below X wr W8):=((HBr3.out.mono (Nat.le_of_lt hX7)).trans hbx7).trans (hb8 X (Nat.le_refl _))
     have HO8 : Hid (W8.ownsRow w.heap.size 24 6 (.slice (some ⟨g,0,none⟩) (A.length + 1) cap) (A ++ [(r,(ra,rc,ia,ic))]).length (flatR (A ++ [(r,(ra,rc,ia,ic))]))):=by
      show World.ownsRow _ _ _ _ _ _ _
      rw [List.length_append]
      exact own_keep hown.out (hk8 24 (by decide))
     have HD8 : Hid (DiskT W8 ya yc za zc nd):=HD3.out.keep (hk57.trans (hk8 5 (by decide)))
     have HK8 : Hid (Keeps 24 w W8):=hkr7.trans (hk8 24 (by decide))
     have HX8 : Hid (BoxD X W8 (.slice ya nd.safe.length yc) (.slice za nd.wait.length zc)):=HF8
     clear hown hgr hbox7 hbx7 hk57 hkr7 HX7 n0 n1 yf hb8 hk8 HF8 HAo HA3 HAft k0 k1 k0a k1a m0 m1 m2 m3 m4 m5
     go_wp2_with (fail)
     try rw [hW8]
     go_roundw
     case rel => exact ⟨j + 1,by omega,by go_num,⟨A ++ [(r,(ra,rc,ia,ic))],ya,yc,za,zc,HO8.out,(by show _=_; rw [HK1.out,List.map_append,HAm.out]; rfl),(fun x hx => by
      rcases List.mem_append.1 hx with hx | hx
      ·exact (HAr.out x hx).below (HBr8.out.mono hMX)
      ·simp at hx; subst hx; exact HRin.out.below (HBr8.out.mono hMX)),(by show BoxD _ _ _ _; rw [HK1.out]; exact HX8.out),(by show DiskT _ _ _ _ _ _; rw [HK1.out]; exact HD8.out),HB.out.trans HBr8.out,HK8⟩,HSs⟩
     case measure => simp [intOf]; omega
   ·have hne : (er == 0)=false:=by simpa using h0
    have HK1 : Hid (kRun d (l5.take (j + 1))=s):=HNo.out h0
    clear h0 HYes HNo m0 m1 m2 m3 m4 m5 k0 k1
    go_wp2_with (fail)
    go_roundw
    case rel => exact ⟨j + 1,by omega,by go_num,⟨A,sa,sc,wa,wc,own_keep HA.out (Keeps.of HBr3.out),(by show _=_; rw [HK1.out]; exact HAm.out),(fun x hx => (HAr.out x hx).below (HBr3.out.mono (by have:=HB.out.size; omega))),(by show BoxD _ _ _ _; rw [HK1.out,HSn.out.1,HSn.out.2]; exact HX3.out),(by show DiskT _ _ _ _ _ _; rw [HK1.out]; exact HT.out.below HBr3.out),HBX.out W3 HBr3.out,HKp.out.trans (Keeps.of HBr3.out)⟩,HSs⟩
    case measure => simp [intOf]; omega
  ·obtain rfl : j=n5:=by omega
   rw [HAll.out] at HK
   go_wp2_with (fail)
   go_ret
   obtain ⟨A,sa,sc,wa,wc,HA,HAm,HAr,HX,HT,HB,HKp⟩:=HK.out
   obtain ⟨ua,uc,rfl⟩:=own_shape HA.out
   exact ⟨ua,uc,A.length,rfl,(by show _=_; rw [← HAm.out,List.length_map]),⟨A,sa,sc,wa,wc,HA,HAm,HAr,HX,HT,HB,HKp⟩⟩

end Go.Proofs.YtfaggdkiffhdbaaDoor
