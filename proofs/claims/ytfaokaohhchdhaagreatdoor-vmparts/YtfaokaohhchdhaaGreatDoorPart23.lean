/- registers: those of all frames, in order. -/
import Derived.Test.YtfaokaohhchdhaaGreatDoorPart11
import Derived.Test.YtfaokaohhchdhaaGreatDoorPart22
namespace Go.Proofs.YtfaokaohhchdhaaGreatDoor
open Go.RowKit Go.Maps
theorem regsOf_take {fs : List Fm} {j : Nat} (h : j < fs.length) : regsOf (fs.take (j + 1))=regsOf (fs.take j) ++ (fmAt fs j).regs:=by
 have e : fs.take (j + 1)=fs.take j ++ [fmAt fs j]:=by
  rw [List.take_add_one,List.getElem?_eq_getElem h]
  unfold fmAt
  rw [List.getD_eq_getElem?_getD,List.getElem?_eq_getElem h]; rfl
 rw [e]
 simp [regsOf]
theorem RowAt.news {w : World} {u : Value} {L : List (Int×Int)} (h : RowAt w u L) (hn : 1≤L.length) : ∃ ad cap,u=.slice (some ad) L.length cap∧ad.block < w.heap.size∧∀ j x,(flatV (rowL L.length (fstAt L) (sndAt L)))[j]?=some x→w.cell? (ad.add j)=some x:=by
 obtain ⟨a,cap,rfl,_,h | ⟨b,o,rfl,hlt,hc⟩⟩:=h
 ·omega
 ·exact ⟨_,cap,rfl,hlt,row_news hc⟩
set_option maxRecDepth 20000 in
set_option maxHeartbeats 2000000 in
theorem registersP (fs : List Fm) (fa : Option Addr) (nf fc : Nat) (cv : Value) (st wh : Int) (w : World) (h : FramesAt w (.slice fa nf fc) fs) (hn : fs.length=nf) (hnf : nf≤10) (hr : ∀ i,i < nf→1≤(fmAt fs i).regs.length∧(fmAt fs i).regs.length≤1000) :
  Calls Tryz.prog 65 #[.agg #[.slice fa nf fc,cv,.int .i64 st,.int .i64 wh]] w fun e w' => ∃ ad cap,e=.returned (.slice ad (regsOf fs).length cap)∧Hid (VRow w.heap.size w' (.slice ad (regsOf fs).length cap) (regsOf fs))∧Hid (Below w.heap.size w w'):=by
 have HL : Hid (∀ j,j≤nf→(regsOf (fs.take j)).length≤j * 1000):=fun j hj => by
  have h1:=regsOf_len (fs:=fs.take j) (m:=1000) fun f hf => by
   obtain ⟨i,hi,e⟩:=mem_getD' (d:=noFm) hf
   have hi' : i < j:=by rw [List.length_take] at hi; omega
   have e2 : fmAt (fs.take j) i=f:=e
   rw [fmAt_take hi'] at e2
   rw [← e2]
   exact (hr i (by omega)).2
  rw [List.length_take] at h1
  have : min j fs.length * 1000≤j * 1000:=Nat.mul_le_mul_right _ (by omega)
  omega
 have HFr : Hid (∀ j,j < nf→∃ b o ad cap,fa=some ⟨b,o,none⟩∧b < w.heap.size∧w.cell? ⟨b,o + j * 4,none⟩=some (.int .i64 (fmAt fs j).proc)∧w.cell? ⟨b,o + j * 4 + 1,none⟩=some (.int .i64 (fmAt fs j).pos)∧w.cell? ⟨b,o + j * 4 + 2,none⟩=some (.slice (some ad) (fmAt fs j).regs.length cap)∧w.cell? ⟨b,o + j * 4 + 3,none⟩=some (.int .i64 (fmAt fs j).to) ∧
   ad.block < w.heap.size∧∀ k x,(flatV (rowL (fmAt fs j).regs.length (fstAt (fmAt fs j).regs) (sndAt (fmAt fs j).regs)))[k]?=some x→w.cell? (ad.add k)=some x):=fun j hj => by
  obtain ⟨a,cap,e,_,h | ⟨b,o,rfl,hlt,hc⟩⟩:=h
  ·omega
  ·injection e with e1 e2 e3
   obtain ⟨u,c0,c1,c2,c3,hv⟩:=hc j (by omega)
   obtain ⟨ad,cp,rfl,hlt2,hnews⟩:=hv.news (hr j hj).1
   exact ⟨b,o,ad,cp,e1,hlt,c0,c1,c2,c3,hlt2,hnews⟩
 have HN : Hid (fs.length=nf):=hn
 clear h hr hn
 obtain ⟨W,hW⟩ : ∃ W,w.alloc (.cells #[.slice fa nf fc,cv,.int .i64 st,.int .i64 wh] 26)=W:=⟨_,rfl⟩
 have x0 : W.cell? ⟨w.heap.size,0,none⟩=some (.slice fa nf fc):=by rw [← hW,World.cell?_alloc_new]; rfl
 have HB0 : Hid (Below w.heap.size w W):=hW ▸ below_alloc w _
 have HW : Hid (w.alloc (.cells #[.slice fa nf fc,cv,.int .i64 st,.int .i64 wh] 26)=W):=hW
 have HR0 : Hid (VRow w.heap.size W (.slice none 0 0) (regsOf (fs.take 0))):=World.ownsRow_nil _ _ _ _
 clear hW
 go_enter Tryz.func65,Tryz.ntmps65
 go_upto_region 1 with (fail)
 rw [HW.out]
 go_wp2
 go_loopw [3,9] (fun l q wr => ∃ (j : Nat) (ad : Option Addr) (cap : Nat),j≤nf∧q=.int .i64 j∧l=.slice ad (regsOf (fs.take j)).length cap∧Hid (Below w.heap.size w wr)∧Hid (VRow w.heap.size wr (.slice ad (regsOf (fs.take j)).length cap) (regsOf (fs.take j)))) (fun _ q _ => nf - (intOf q).toNat)
 case atStart => exact ⟨0,none,0,by omega,rfl,rfl,HB0,HR0⟩
 case round =>
  clear HB0 HR0 x0
  obtain ⟨j,ad,cap,hj,rfl,rfl,HB,HR⟩:=hrel
  by_cases hlt : j < nf
  ·obtain ⟨b,o,a2,c2,rfl,hbl,y0,y1,y2,y3,hal,hnews⟩:=HFr.out j hlt
   have hst:=regsOf_take (fs:=fs) (j:=j) (by rw [HN.out]; exact hlt)
   have hlj:=HL.out (j + 1) (by omega)
   rw [hst,List.length_append] at hlj
   rw [← HB.out.cell (p:=⟨b,o + j * 4,none⟩) hbl] at y0
   rw [← HB.out.cell (p:=⟨b,o + j * 4 + 1,none⟩) hbl] at y1
   rw [← HB.out.cell (p:=⟨b,o + j * 4 + 2,none⟩) hbl] at y2
   rw [← HB.out.cell (p:=⟨b,o + j * 4 + 3,none⟩) hbl] at y3
   have HNw : Hid (∀ ob : Obj,∀ k x,(flatV (rowL (fmAt fs j).regs.length (fstAt (fmAt fs j).regs) (sndAt (fmAt fs j).regs)))[k]?=some x→(wr.alloc ob).cell? (a2.add k)=some x):=fun ob k x hx => by
    have:=hnews k x hx
    have hl2 : (a2.add k).block < w.heap.size:=by rw [show (a2.add k).block=a2.block from by unfold Addr.add; split <;> rfl]; exact hal
    exact ((below_alloc wr ob).cell (Nat.lt_of_lt_of_le hl2 HB.out.size)).trans ((HB.out.cell hl2).trans this)
   have HSt : Hid (regsOf (fs.take (j + 1))=regsOf (fs.take j) ++ (fmAt fs j).regs):=hst
   have hBw:=HB.out.size
   have HJ : Hid ((regsOf (fs.take j)).length + (fmAt fs j).regs.length≤100000):=(by show _≤_; have : (j + 1) * 1000≤10 * 1000:=Nat.mul_le_mul_right _ (by omega); omega)
   clear hst hnews hlj HFr hal
   generalize hLj : regsOf (fs.take j)=Lj at *
   generalize hRj : (fmAt fs j).regs=Rj at *
   generalize (fmAt fs j).proc=p1 at *
   generalize (fmAt fs j).pos=p2 at *
   generalize (fmAt fs j).to=p3 at *
   have HRj : Hid (rowL Rj.length (fstAt Rj) (sndAt Rj)=Rj):=rowL_self Rj
   clear hLj hRj
   go_wp2_with (at_builtin; refine append_vals _ rfl _ _ rfl w.heap.size _ Lj rfl (World.ownsRow.alloc HR.out _) a2 Rj.length c2 _ _ rfl (HNw.out _) HJ.out (Nat.le_trans hBw (below_alloc wr _).size) ?_; intro ad' cp w2 hown hgrow)
   have HB2 : Hid (Below w.heap.size w w2):=((HB.out.trans ((below_alloc wr _).mono hBw))).grown hgrow (Nat.le_trans hBw (below_alloc wr _).size) (fun k hk => (HR.out.lt k hk).1)
   have HR2 : Hid (VRow w.heap.size w2 (.slice ad' (regsOf (fs.take (j + 1))).length cp) (regsOf (fs.take (j + 1)))):=by
    rw [HRj.out] at hown
    show World.ownsRow _ _ _ _ _ _ _
    rw [HSt.out,List.length_append]
    rw [List.length_append] at hown
    exact hown
   have HLe : Hid (Lj.length + Rj.length=(regsOf (fs.take (j + 1))).length):=(by show _=_; rw [HSt.out,List.length_append])
   clear hown hgrow
   go_roundw
   case rel => exact ⟨j + 1,ad',cp,by omega,by go_num,(by first | (rw [← HLe.out]; done) | (rw [← HLe.out]; go_num)),HB2,HR2⟩
   case measure => simp [intOf]; omega
  ·obtain rfl : j=nf:=by omega
   have hall : fs.take j=fs:=by rw [← HN.out,List.take_length]
   rw [hall] at HR ⊢
   go_wp2
   go_ret
   exact ⟨ad,cap,rfl,HR,HB⟩
def mapTo {α : Type} (f : α→α) (L : List α) (j : Nat) : List α:=(L.take j).map f ++ L.drop j
theorem mapTo_zero {α : Type} (f : α→α) (L : List α) : mapTo f L 0=L:=by simp [mapTo]
theorem mapTo_all {α : Type} (f : α→α) (L : List α) : mapTo f L L.length=L.map f:=by simp [mapTo]
theorem mapTo_len {α : Type} (f : α→α) (L : List α) (j : Nat) : (mapTo f L j).length=L.length:=by
 unfold mapTo; rw [List.length_append,List.length_map,List.length_take,List.length_drop]; omega
theorem mapTo_at {α : Type} {f : α→α} {L : List α} {j : Nat} (d : α) (h : j < L.length) : (mapTo f L j).getD j d=L.getD j d:=by
 unfold mapTo
 rw [List.getD_eq_getElem?_getD,List.getElem?_append_right (by simp; omega),List.getD_eq_getElem?_getD]
 simp only [List.length_map,List.length_take,List.getElem?_drop]
 congr 2
 omega
theorem mapTo_step {α : Type} {f : α→α} {L : List α} {j : Nat} (d : α) (h : j < L.length) : (mapTo f L j).set j (f (L.getD j d))=mapTo f L (j + 1):=by
 unfold mapTo
 rw [List.set_append_right _ _ (by simp; omega)]
 have e1 : j - (List.map f (List.take j L)).length=0:=by simp; omega
 rw [e1,List.take_add_one,List.getElem?_eq_getElem h,List.drop_eq_getElem_cons h,List.set_cons_zero]
 rw [List.getD_eq_getElem?_getD,List.getElem?_eq_getElem h]
 simp only [Option.toList,List.map_append,List.map_cons,List.map_nil,List.append_assoc,List.cons_append,List.nil_append,Option.getD_some]
def nilS : Value:=.slice none 0 0
def pickTo (xv : List Value) (R : List Int) (j : Nat) : List Value:=(R.take j).map (fun n => xv.getD n.toNat nilS) ++ List.replicate (R.length - j) nilS
theorem pickTo_len (xv : List Value) (R : List Int) {j : Nat} (h : j≤R.length) : (pickTo xv R j).length=R.length:=by
 unfold pickTo; rw [List.length_append,List.length_map,List.length_take,List.length_replicate]; omega
theorem pickTo_zero (xv : List Value) (R : List Int) : pickTo xv R 0=List.replicate R.length nilS:=by simp [pickTo]
theorem pickTo_all (xv : List Value) (R : List Int) : pickTo xv R R.length=R.map fun n => xv.getD n.toNat nilS:=by simp [pickTo]
theorem pickTo_step (xv : List Value) (R : List Int) {j : Nat} (h : j < R.length) : (pickTo xv R j).set j (xv.getD (R.getD j 0).toNat nilS)=pickTo xv R (j + 1):=by
 unfold pickTo
 rw [List.set_append_right _ _ (by simp; omega)]
 have e1 : j - (List.map (fun (n : Int) => xv.getD n.toNat nilS) (List.take j R)).length=0:=by simp; omega
 obtain ⟨m,hm⟩ : ∃ m,R.length - j=m + 1:=⟨R.length - j - 1,by omega⟩
 rw [e1,hm,List.replicate_succ,List.set_cons_zero,List.take_add_one,List.getElem?_eq_getElem h]
 rw [List.getD_eq_getElem?_getD (l:=R),List.getElem?_eq_getElem h,show R.length - (j + 1)=m by omega]
 simp only [Option.toList,List.map_append,List.map_cons,List.map_nil,List.append_assoc,List.cons_append,List.nil_append,Option.getD_some]
theorem Own.pick {B : Nat} {w : World} {fv cv cv' : Value} {rv xv : List Value} {S : Sta} (h : Own B w fv cv rv xv S) {R : List Int} (hn : R.Nodup) (hR : ∀ x,x ∈ R→0≤x∧x < (S.cs.length : Int)) (hrow : w.ownsRow B 35 1 cv' R.length (R.map fun n => xv.getD n.toNat nilS)) :
  Own B w fv cv' rv (R.map fun n => xv.getD n.toNat nilS) ⟨S.fs,R.map fun n => S.cs.getD n.toNat [],S.st,S.wh⟩:=by
 have hxl:=h.xl
 have hat : ∀ (i : Nat) (u : Value),(R.map fun n => xv.getD n.toNat nilS)[i]?=some u→∃ n : Nat,R[i]?=some (n : Int)∧n < S.cs.length∧xv[n]?=some u:=fun i u hi => by
  rw [List.getElem?_map] at hi
  cases hr : R[i]? with
  | none => rw [hr] at hi; cases hi
  | some x =>
   rw [hr] at hi
   simp only [Option.map_some,Option.some.injEq] at hi
   obtain ⟨h0,h1⟩:=hR x (List.mem_of_getElem? hr)
   have hlt : x.toNat < xv.length:=by omega
   refine ⟨x.toNat,by congr 1; omega,by omega,?_⟩
   rw [← hi,List.getD_eq_getElem?_getD,List.getElem?_eq_getElem hlt]; rfl
 refine ⟨h.fr,?_,h.rl,h.regs,fun i hi => ?_,h.rr,fun i j u u' b hi hj hb hb' => ?_,fun i j u u' b hi hj hb => ?_⟩
 ·show w.ownsRow B 35 1 cv' (R.map _).length _
  rw [List.length_map]; exact hrow
 ·have hi' : i < R.length:=by simpa using hi
  have hiu : (R.map fun n => xv.getD n.toNat nilS)[i]?=some (xv.getD (R[i]'hi').toNat nilS):=by simp [hi']
  obtain ⟨n,h1,h2,h3⟩:=hat i _ hiu
  obtain ⟨u,k1,k2⟩:=h.cells n h2
  rw [h3] at k1
  injection k1 with k1
  refine ⟨_,hiu,?_⟩
  rw [k1]
  show VRow B w u ((R.map fun n => S.cs.getD n.toNat []).getD i [])
  have e : (R.map fun n => S.cs.getD n.toNat []).getD i []=S.cs.getD n []:=by
   rw [List.getD_eq_getElem?_getD,List.getElem?_map,h1]
   simp
  rw [e]; exact k2
 ·obtain ⟨n,h1,_,h3⟩:=hat i u hi
  obtain ⟨m,k1,_,k3⟩:=hat j u' hj
  have e:=h.xx n m u u' b h3 k3 hb hb'
  subst e
  have hi':=(List.getElem?_eq_some_iff.1 h1).1
  exact (List.getElem?_inj hi' hn).1 (h1.trans k1.symm)
 ·obtain ⟨m,k1,_,k3⟩:=hat j u' hj
  exact h.rx i m u u' b hi k3 hb
structure NumAt (w : World) (Nb Mb n : Nat) (R : List Int) : Prop where
 nb : w.heap[Nb]?=some (.cells #[.map (some Mb)] 100 (0,0))
 num : NumMap w Mb n R
theorem NumAt.stay {w w' : World} {Nb Mb n : Nat} {R : List Int} (h : NumAt w Nb Mb n R) (h1 : w'.heap[Nb]?=w.heap[Nb]?) (h2 : w'.heap[Mb]?=w.heap[Mb]?) : NumAt w' Nb Mb n R:=⟨h1.trans h.nb,h.num.stay h2⟩
theorem NumAt.below {w w' : World} {Nb Mb n : Nat} {R : List Int} (h : NumAt w Nb Mb n R) (hb : Below w.heap.size w w') : NumAt w' Nb Mb n R:=h.stay (hb.block _ (Array.getElem?_eq_some_iff.1 h.nb).1) (hb.block _ h.num.lt)
theorem NumAt.apart {w : World} {Nb Mb n : Nat} {R : List Int} (h : NumAt w Nb Mb n R) {B g m cap : Nat} {L : List (Int×Int)} (hv : VRow B w (.slice (some ⟨g,0,none⟩) m cap) L) : ¬ Nb=g∧¬ Mb=g:=by
 obtain ⟨c,fz,k⟩:=Lib.ownsRow_kind hv g rfl
 refine ⟨fun e => ?_,fun e => ?_⟩
 ·have:=h.nb
  rw [e,k] at this
  injection this with this; injection this with _ this _; exact absurd this (by decide)
 ·obtain ⟨es,cl,k2⟩:=h.num.isMap
  rw [e,k] at k2
  cases k2
theorem BoxXY.apart {X : Nat} {w : World} {a b c d : Value} (h : BoxXY X w a b c d) {B g m cap : Nat} {L : List (Int×Int)} (hv : VRow B w (.slice (some ⟨g,0,none⟩) m cap) L) : ¬ X=g∧¬ X + 1=g:=by
 obtain ⟨c,fz,k⟩:=Lib.ownsRow_kind hv g rfl
 refine ⟨fun e => ?_,fun e => ?_⟩
 ·have:=h.1
  unfold Box4 at this
  rw [e,k] at this
  injection this with this; injection this with _ this _; exact absurd this (by decide)
 ·have:=h.2
  unfold Box4 at this
  rw [e,k] at this
  injection this with this; injection this with _ this _; exact absurd this (by decide)
theorem frames_step {B : Nat} {w w' : World} {fv cv : Value} {rv xv : List Value} {fs : List Fm} {cs : List (List (Int×Int))} {st wh : Int} {R : List Int} {j g n cap : Nat} (h : Own B w fv cv rv xv ⟨mapTo (renumF R) fs j,cs,st,wh⟩) (hj : j < fs.length) (hu : rv[j]?=some (.slice (some ⟨g,0,none⟩) n cap)) (hk : KeepG g w w')
  (hr : VRow B w' (.slice (some ⟨g,0,none⟩) n cap) ((fmAt fs j).regs.map (renum R))) : Own B w' fv cv rv xv ⟨mapTo (renumF R) fs (j + 1),cs,st,wh⟩:=by
 have hl:=mapTo_len (renumF R) fs j
 have hf : fmAt (mapTo (renumF R) fs j) j=fmAt fs j:=mapTo_at noFm hj
 have h2:=h.setRegs (i:=j) (w':=w') (by show j < (mapTo (renumF R) fs j).length; omega) hu (fun k _ hkw hne => hk.1 k hne hkw) hr
 have e : (mapTo (renumF R) fs j).set j ⟨(fmAt (mapTo (renumF R) fs j) j).proc,(fmAt (mapTo (renumF R) fs j) j).pos,(fmAt fs j).regs.map (renum R),(fmAt (mapTo (renumF R) fs j) j).to⟩=mapTo (renumF R) fs (j + 1):=by
  rw [hf]
  exact mapTo_step noFm hj
 rw [← e]
 exact h2
theorem cells_step {B : Nat} {w w' : World} {fv cv : Value} {rv xv : List Value} {fs : List Fm} {cs : List (List (Int×Int))} {st wh : Int} {R : List Int} {j g n cap : Nat} (h : Own B w fv cv rv xv ⟨fs,mapTo (List.map (renum R)) cs j,st,wh⟩) (hj : j < cs.length) (hu : xv[j]?=some (.slice (some ⟨g,0,none⟩) n cap)) (hk : KeepG g w w')
  (hr : VRow B w' (.slice (some ⟨g,0,none⟩) n cap) ((cs.getD j []).map (renum R))) : Own B w' fv cv rv xv ⟨fs,mapTo (List.map (renum R)) cs (j + 1),st,wh⟩:=by
 have hl:=mapTo_len (List.map (renum R)) cs j
 have h2:=h.setFields (i:=j) (w':=w') (by show j < (mapTo (List.map (renum R)) cs j).length; omega) hu (fun k _ hkw hne => hk.1 k hne hkw) hr
 have e : (mapTo (List.map (renum R)) cs j).set j ((cs.getD j []).map (renum R))=mapTo (List.map (renum R)) cs (j + 1):=mapTo_step [] hj
 rw [← e]
 exact h2
end Go.Proofs.YtfaokaohhchdhaaGreatDoor
