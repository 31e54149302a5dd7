/- Rows that are cloned one by one. -/
import Derived.Test.YtfaokaohhchdhaaGreatDoorPart11
import Derived.Test.YtfaokaohhchdhaaGreatDoorCodeCheck
namespace Go.Proofs.YtfaokaohhchdhaaGreatDoor
open Go.RowKit Go.Maps
def Box4 (t : TypeId) (X : Nat) (w : World) (a b c d : Value) : Prop:=w.heap[X]?=some (.cells #[a,b,c,d] t (0,0))
theorem Box4.at {t : TypeId} {X : Nat} {w : World} {a b c d : Value} (h : Box4 t X w a b c d) : w.cell? ⟨X,0,none⟩=some a∧w.cell? ⟨X,1,none⟩=some b∧w.cell? ⟨X,2,none⟩=some c∧w.cell? ⟨X,3,none⟩=some d∧∀ i,w.frozen? ⟨X,i,none⟩=false:=by
 unfold Box4 at h
 refine ⟨?_,?_,?_,?_,fun i => ?_⟩
 ·unfold World.cell?; rw [h]; rfl
 ·unfold World.cell?; rw [h]; rfl
 ·unfold World.cell?; rw [h]; rfl
 ·unfold World.cell?; rw [h]; rfl
 ·unfold World.frozen?; rw [h]; simp
theorem Box4.set0 {t : TypeId} {X : Nat} {w : World} {a b c d : Value} (h : Box4 t X w a b c d) (v : Value) : Box4 t X (w.setCell ⟨X,0,none⟩ v) v b c d:=by
 unfold Box4 at h ⊢
 rw [heap_setCell_same w X 0 _ _ v h]; rfl
theorem Box4.set1 {t : TypeId} {X : Nat} {w : World} {a b c d : Value} (h : Box4 t X w a b c d) (v : Value) : Box4 t X (w.setCell ⟨X,1,none⟩ v) a v c d:=by
 unfold Box4 at h ⊢
 rw [heap_setCell_same w X 1 _ _ v h]; rfl
theorem Box4.keep {t : TypeId} {X : Nat} {w w' : World} {a b c d : Value} (h : Box4 t X w a b c d) (hb : w'.heap[X]?=w.heap[X]?) : Box4 t X w' a b c d:=by
 unfold Box4 at h ⊢; rw [hb]; exact h
def BoxXY (X : Nat) (w : World) (a b c d : Value) : Prop:=Box4 26 X w a b c d∧Box4 26 (X + 1) w (.slice none 0 0) (.slice none 0 0) (.int .i64 0) (.int .i64 0)
theorem BoxXY.at {X : Nat} {w : World} {a b c d : Value} (h : BoxXY X w a b c d) : w.cell? ⟨X,0,none⟩=some a∧w.cell? ⟨X,1,none⟩=some b∧w.cell? ⟨X,2,none⟩=some c∧w.cell? ⟨X,3,none⟩=some d∧∀ i,w.frozen? ⟨X,i,none⟩=false:=Box4.at h.1
theorem BoxXY.set0 {X : Nat} {w : World} {a b c d : Value} (h : BoxXY X w a b c d) (v : Value) : BoxXY X (w.setCell ⟨X,0,none⟩ v) v b c d:=⟨h.1.set0 v,h.2.keep (Below.heap_setCell w _ _ _ (by show ¬ X + 1=X; omega))⟩
theorem BoxXY.set1 {X : Nat} {w : World} {a b c d : Value} (h : BoxXY X w a b c d) (v : Value) : BoxXY X (w.setCell ⟨X,1,none⟩ v) a v c d:=⟨h.1.set1 v,h.2.keep (Below.heap_setCell w _ _ _ (by show ¬ X + 1=X; omega))⟩
theorem BoxXY.keep {X : Nat} {w w' : World} {a b c d : Value} (h : BoxXY X w a b c d) (hb : ∀ k,k < X + 2→X≤k→w'.heap[k]?=w.heap[k]?) : BoxXY X w' a b c d:=⟨h.1.keep (hb X (by omega) (by omega)),h.2.keep (hb (X + 1) (by omega) (by omega))⟩
structure CFr (B : Nat) (w0 w : World) (fs : List Fm) (fv : Value) (n : Nat) (us : List Value) (j : Nat) : Prop where
 row : w.ownsRow B 40 4 fv n (flatF fs us)
 ul : us.length=fs.length
 new : ∀ i,i < j→∃ u,us[i]?=some u∧VRow B w u (fmAt fs i).regs
 old : ∀ i,j≤i→i < n→∃ u,us[i]?=some u∧RowAt w0 u (fmAt fs i).regs
 rr : ∀ (i k : Nat) (u u' : Value) (b : Nat),i < j→k < j→us[i]?=some u→us[k]?=some u'→u.ownBlock=some b→u'.ownBlock=some b→i=k
theorem ownsRow_lower {w : World} {B B' : Nat} {e : TypeId} {size : Nat} {v : Value} {n : Nat} {xs : List Value} (h : w.ownsRow B e size v n xs) (hb : B'≤B) : w.ownsRow B' e size v n xs :=
 ⟨h.1,h.2.imp id fun ⟨g,cap,cur,hv,hg,r⟩ => ⟨g,cap,cur,hv,Nat.le_trans hb hg,r⟩⟩
theorem VRow.mono {B B' : Nat} {w : World} {v : Value} {L : List (Int×Int)} (h : VRow B w v L) (hb : B'≤B) : VRow B' w v L:=ownsRow_lower h hb
theorem CFr.step {B M : Nat} {w0 wr w3 : World} {fs : List Fm} {g n cap : Nat} {us : List Value} {j : Nat} {v : Value} (h : CFr B w0 wr fs (.slice (some ⟨g,0,none⟩) n cap) n us j) (hn : fs.length=n) (hj : j < n) (hb : Below wr.heap.size wr w3) (hB : B≤wr.heap.size) (hv : VRow M w3 v (fmAt fs j).regs) (hM : wr.heap.size≤M) :
  CFr B w0 (w3.setCell ⟨g,j * 4 + 2,none⟩ v) fs (.slice (some ⟨g,0,none⟩) n cap) n (us.set j v) (j + 1):=by
 have hul:=h.ul
 have hlen:=flatF_len fs us hul
 have hrow : w3.ownsRow B 40 4 (.slice (some ⟨g,0,none⟩) n cap) n (flatF fs us):=ownsRow_block h.row fun k hk => hb.block k (h.row.lt k hk).2
 have keep : ∀ {B' : Nat} {u : Value} {L : List (Int×Int)},VRow B' w3 u L→VRow B' (w3.setCell ⟨g,j * 4 + 2,none⟩ v) u L:=fun hr => ownsRow_block hr fun k hk => Below.heap_setCell w3 _ _ k fun e => ownsRow_apart hr hrow (by decide) hk (by rw [e]; rfl)
 have old : ∀ i,i < j→∃ u,us[i]?=some u∧VRow B wr u (fmAt fs i).regs∧VRow B (w3.setCell ⟨g,j * 4 + 2,none⟩ v) u (fmAt fs i).regs:=fun i hi => by
  obtain ⟨u,h1,h2⟩:=h.new i hi
  exact ⟨u,h1,h2,keep (ownsRow_block h2 fun k hk => hb.block k (h2.lt k hk).2)⟩
 have hset : ∀ i,¬ i=j→(us.set j v)[i]?=us[i]?:=fun i hi => by rw [List.getElem?_set_ne (fun e => hi e.symm)]
 have hsj : (us.set j v)[j]?=some v:=by rw [List.getElem?_set_self (by omega)]
 refine ⟨?_,by simpa using hul,fun i hi => ?_,fun i h1 h2 => ?_,fun i k u u' b hi hk hu hu' hx hx' => ?_⟩
 ·rw [flatF_row _ _ _ _ hul]
  exact ownsRow_set hrow (j * 4 + 2) (by omega) _
 ·by_cases e : i=j
  ·subst e
   exact ⟨v,hsj,keep (hv.mono (by omega))⟩
  ·obtain ⟨u,h1,_,h3⟩:=old i (by omega)
   exact ⟨u,by rw [hset i e]; exact h1,h3⟩
 ·rw [hset i (by omega)]; exact h.old i (by omega) h2
 ·have low : ∀ i u b,i < j→us[i]?=some u→Value.ownBlock u=some b→b < wr.heap.size:=fun i u b hi hu hx => by
   obtain ⟨y,h1,h2,_⟩:=old i hi
   rw [hu] at h1; cases h1
   exact (h2.lt b hx).2
  by_cases e1 : i=j <;> by_cases e2 : k=j
  ·omega
  ·subst e1
   rw [hsj] at hu; cases hu
   rw [hset k e2] at hu'
   have:=low k u' b (by omega) hu' hx'
   have:=(hv.lt b hx).1
   omega
  ·subst e2
   rw [hsj] at hu'; cases hu'
   rw [hset i e1] at hu
   have:=low i u b (by omega) hu hx
   have:=(hv.lt b hx').1
   omega
  ·rw [hset i e1] at hu
   rw [hset k e2] at hu'
   exact h.rr i k u u' b (by omega) (by omega) hu hu' hx hx'
structure CCs (B : Nat) (w0 w : World) (cs : List (List (Int×Int))) (cv : Value) (n : Nat) (us : List Value) (j : Nat) : Prop where
 row : w.ownsRow B 35 1 cv n us
 new : ∀ i,i < j→∃ u,us[i]?=some u∧VRow B w u (cs.getD i [])
 old : ∀ i,j≤i→i < n→∃ u,us[i]?=some u∧RowAt w0 u (cs.getD i [])
 xx : ∀ (i k : Nat) (u u' : Value) (b : Nat),i < j→k < j→us[i]?=some u→us[k]?=some u'→u.ownBlock=some b→u'.ownBlock=some b→i=k
theorem CCs.step {B M : Nat} {w0 wr w3 : World} {cs : List (List (Int×Int))} {g n cap : Nat} {us : List Value} {j : Nat} {v : Value} (h : CCs B w0 wr cs (.slice (some ⟨g,0,none⟩) n cap) n us j) (hj : j < n) (hb : Below wr.heap.size wr w3) (hB : B≤wr.heap.size) (hv : VRow M w3 v (cs.getD j [])) (hM : wr.heap.size≤M) :
  CCs B w0 (w3.setCell ⟨g,j,none⟩ v) cs (.slice (some ⟨g,0,none⟩) n cap) n (us.set j v) (j + 1):=by
 have hul:=h.row.1
 have hrow : w3.ownsRow B 35 1 (.slice (some ⟨g,0,none⟩) n cap) n us:=ownsRow_block h.row fun k hk => hb.block k (h.row.lt k hk).2
 have keep : ∀ {B' : Nat} {u : Value} {L : List (Int×Int)},VRow B' w3 u L→VRow B' (w3.setCell ⟨g,j,none⟩ v) u L:=fun hr => ownsRow_block hr fun k hk => Below.heap_setCell w3 _ _ k fun e => ownsRow_apart hr hrow (by decide) hk (by rw [e]; rfl)
 have old : ∀ i,i < j→∃ u,us[i]?=some u∧VRow B wr u (cs.getD i [])∧VRow B (w3.setCell ⟨g,j,none⟩ v) u (cs.getD i []):=fun i hi => by
  obtain ⟨u,h1,h2⟩:=h.new i hi
  exact ⟨u,h1,h2,keep (ownsRow_block h2 fun k hk => hb.block k (h2.lt k hk).2)⟩
 have hset : ∀ i,¬ i=j→(us.set j v)[i]?=us[i]?:=fun i hi => by rw [List.getElem?_set_ne (fun e => hi e.symm)]
 have hsj : (us.set j v)[j]?=some v:=by rw [List.getElem?_set_self (by omega)]
 refine ⟨ownsRow_set hrow j (by omega) _,fun i hi => ?_,fun i h1 h2 => ?_,fun i k u u' b hi hk hu hu' hx hx' => ?_⟩
 ·by_cases e : i=j
  ·subst e
   exact ⟨v,hsj,keep (hv.mono (by omega))⟩
  ·obtain ⟨u,h1,_,h3⟩:=old i (by omega)
   exact ⟨u,by rw [hset i e]; exact h1,h3⟩
 ·rw [hset i (by omega)]; exact h.old i (by omega) h2
 ·have low : ∀ i u b,i < j→us[i]?=some u→Value.ownBlock u=some b→b < wr.heap.size:=fun i u b hi hu hx => by
   obtain ⟨y,h1,h2,_⟩:=old i hi
   rw [hu] at h1; cases h1
   exact (h2.lt b hx).2
  by_cases e1 : i=j <;> by_cases e2 : k=j
  ·omega
  ·subst e1
   rw [hsj] at hu; cases hu
   rw [hset k e2] at hu'
   have:=low k u' b (by omega) hu' hx'
   have:=(hv.lt b hx).1
   omega
  ·subst e2
   rw [hsj] at hu'; cases hu'
   rw [hset i e1] at hu
   have:=low i u b (by omega) hu hx
   have:=(hv.lt b hx').1
   omega
  ·rw [hset i e1] at hu
   rw [hset k e2] at hu'
   exact h.xx i k u u' b (by omega) (by omega) hu hu' hx hx'
theorem CFr.below {B : Nat} {w0 w w' : World} {fs : List Fm} {fv : Value} {n : Nat} {us : List Value} {j : Nat} (h : CFr B w0 w fs fv n us j) (hb : ∀ k,B≤k→k < w.heap.size→w'.heap[k]?=w.heap[k]?) : CFr B w0 w' fs fv n us j:=by
 refine ⟨ownsRow_block h.row fun k hk => hb k (h.row.lt k hk).1 (h.row.lt k hk).2,h.ul,fun i hi => ?_,h.old,h.rr⟩
 obtain ⟨u,h1,h2⟩:=h.new i hi
 exact ⟨u,h1,ownsRow_block h2 fun k hk => hb k (h2.lt k hk).1 (h2.lt k hk).2⟩
theorem own_of {B B2 : Nat} {w0 w1 w : World} {S : Sta} {fv cv : Value} {nf nc : Nat} {us xs : List Value} (hf : CFr B w0 w1 S.fs fv nf us nf) (hc : CCs B2 w0 w S.cs cv nc xs nc) (hnf : S.fs.length=nf) (hnc : S.cs.length=nc) (hB : B≤B2) (hB2 : w1.heap.size≤B2) (hb : ∀ k,B≤k→k < w1.heap.size→w.heap[k]?=w1.heap[k]?) : Own B w fv cv us xs S:=by
 have hf':=hf.below hb
 subst hnf hnc
 refine ⟨hf'.row,ownsRow_lower hc.row hB,hf.ul,hf'.new,fun i hi => ?_,fun i k u u' b hu hu' => ?_,fun i k u u' b hu hu' => ?_,fun i k u u' b hu hu' hx hx' => ?_⟩
 ·obtain ⟨u,h1,h2⟩:=hc.new i hi
  exact ⟨u,h1,h2.mono hB⟩
 ·have l1:=(List.getElem?_eq_some_iff.1 hu).1
  have l2:=(List.getElem?_eq_some_iff.1 hu').1
  have:=hf.ul
  exact hf.rr i k u u' b (by omega) (by omega) hu hu'
 ·have l1:=(List.getElem?_eq_some_iff.1 hu).1
  have l2:=(List.getElem?_eq_some_iff.1 hu').1
  have:=hc.row.1
  exact hc.xx i k u u' b (by omega) (by omega) hu hu'
 ·have l1:=(List.getElem?_eq_some_iff.1 hu).1
  have l2:=(List.getElem?_eq_some_iff.1 hu').1
  have:=hf.ul
  have:=hc.row.1
  obtain ⟨y,h1,h2⟩:=hf.new i (by omega)
  rw [hu] at h1; cases h1
  obtain ⟨z,h3,h4⟩:=hc.new k (by omega)
  rw [hu'] at h3; cases h3
  have:=(h2.lt b hx).2
  have:=(h4.lt b hx').1
  omega
theorem Own.lower {B B' : Nat} {w : World} {fv cv : Value} {rv xv : List Value} {S : Sta} (h : Own B w fv cv rv xv S) (hb : B'≤B) : Own B' w fv cv rv xv S:=by
 refine ⟨ownsRow_lower h.fr hb,ownsRow_lower h.ce hb,h.rl,fun i hi => ?_,fun i hi => ?_,h.rr,h.xx,h.rx⟩
 ·obtain ⟨u,h1,h2⟩:=h.regs i hi; exact ⟨u,h1,h2.mono hb⟩
 ·obtain ⟨u,h1,h2⟩:=h.cells i hi; exact ⟨u,h1,h2.mono hb⟩
theorem sbox (w : World) (fv cv : Value) (st wh : Int) : ∃ W,w.alloc (.cells #[fv,cv,.int .i64 st,.int .i64 wh] 26)=W∧Below w.heap.size w W∧W.heap.size=w.heap.size + 1∧W.cell? ⟨w.heap.size,0,none⟩=some fv∧W.cell? ⟨w.heap.size,1,none⟩=some cv∧W.cell? ⟨w.heap.size,2,none⟩=some (.int .i64 st)∧W.cell? ⟨w.heap.size,3,none⟩=some (.int .i64 wh):=by
 refine ⟨_,rfl,below_alloc _ _,by simp,?_,?_,?_,?_⟩ <;> (rw [World.cell?_alloc_new]; rfl)
set_option maxHeartbeats 2000000 in
theorem checkFrames (M : Nat) (pa : Option Addr) (np pc : Nat) (P : Nat→Pc) (fs : List Fm) (fa ca : Option Addr) (nf fc nc cc : Nat) (st wh : Int) (w : World) (hM : M≤w.heap.size) (hp : ProcsAt M w (.slice pa np pc) np P) (hcn : ∀ k,k < np→1≤(P k).n) (hf : FramesAt w (.slice fa nf fc) fs) (hnf : fs.length=nf) :
  Calls Tryz.prog 63 #[.slice pa np pc,.agg #[.slice fa nf fc,.slice ca nc cc,.int .i64 st,.int .i64 wh]] w fun e w' => e=.returned (.int .i64 (framesErr np P nc fs))∧Below w.heap.size w w':=by
 obtain ⟨W,hW,b0,hsz,i0,i1,i2,i3⟩:=sbox w (.slice fa nf fc) (.slice ca nc cc) st wh
 have HW : Hid (w.alloc (.cells #[.slice fa nf fc,.slice ca nc cc,.int .i64 st,.int .i64 wh] 26)=W):=hW
 clear hW
 have hf':=hf
 obtain ⟨fa',fc',ef,hfn,hf1⟩:=hf'
 rw [hnf] at ef
 cases ef
 rw [hnf] at hf1
 have HFr : Hid (∀ (f : Fm) (uv : Value) (h : Nat) (wi : World),Below w.heap.size w wi→RowAt wi uv f.regs→Calls Tryz.prog 106 #[.agg #[.int .i64 f.proc,.int .i64 f.pos,uv,.int .i64 f.to],.slice pa np pc,.int .i64 h,.int .i64 nc] wi fun e w' => e=.returned (.int .i64 (frErr np P h nc f))∧Below wi.heap.size wi w'):=fun f uv h wi hw hu => checkFrame M _ np P f uv h nc wi (Nat.le_trans hM hw.size) (hp.below (hw.mono hM)) hcn hu
 have HIb : Hid (∀ wi,Below W.heap.size W wi→wi.cell? ⟨w.heap.size,1,none⟩=some (.slice ca nc cc)):=fun wi hw => (hw.cell (cell_lt i1)).trans i1
 have HB : Hid (Below w.heap.size w W):=b0
 have HNf : Hid (fs.length=nf):=hnf
 have HE0 : Hid (framesErr np P nc fs=firstErr nf fun k => frErr np P (ahead fs k) nc (fmAt fs k)):=by show _=_; unfold framesErr; rw [hnf]
 have hnf2 : nf≤9223372036854775807:=by rw [← hnf]; exact hfn
 clear hp hf hM hcn hnf hfn hsz b0
 go_enter Tryz.func63,Tryz.ntmps63
 go_upto_region 1 with (fail)
 rw [HW.out]
 go_upto_region 3 with (fail)
 clear i0 i1 i2 i3
 go_loopw [12,5] (fun i q wr => ∃ j : Nat,j≤nf∧i=.int .i64 j∧q=.int .i64 (ahead fs j : Nat)∧Below W.heap.size W wr∧Hid (∀ x,x < j→frErr np P (ahead fs x) nc (fmAt fs x)=0)) (fun i _ _ => nf - (intOf i).toNat)
 case atStart => exact ⟨0,Nat.zero_le _,rfl,rfl,Below.refl _ _,fun j hj => absurd hj (Nat.not_lt_zero _)⟩
 case round =>
  obtain ⟨j,hj,rfl,rfl,hb,hall⟩:=hrel
  by_cases hlt : j < nf
  ·rcases hf1 with hv | ⟨fb,fo,rfl,hfb,g⟩
   ·omega
   obtain ⟨uv,q0,q1,q2,q3,hrow⟩:=g j hlt
   have hbw : Below w.heap.size w wr:=HB.out.trans (hb.mono HB.out.size)
   rw [← hbw.cell hfb] at q0 q1 q2 q3
   have hrow':=hrow
   obtain ⟨ua,uc,rfl,_⟩:=hrow'
   clear g
   obtain ⟨W3,hW3,b3,hs3,x0,x1,x2,x3⟩:=fbox wr (fmAt fs j).proc (fmAt fs j).pos (fmAt fs j).to (.slice ua (fmAt fs j).regs.length uc)
   have HW3 : Hid (wr.alloc (.cells #[.int .i64 (fmAt fs j).proc,.int .i64 (fmAt fs j).pos,.slice ua (fmAt fs j).regs.length uc,.int .i64 (fmAt fs j).to] 40)=W3):=hW3
   have y1:=HIb.out W3 (below_step hb b3)
   have HC : Hid (Calls Tryz.prog 106 #[.agg #[.int .i64 (fmAt fs j).proc,.int .i64 (fmAt fs j).pos,.slice ua (fmAt fs j).regs.length uc,.int .i64 (fmAt fs j).to],.slice pa np pc,.int .i64 (ahead fs j : Nat),.int .i64 nc] W3 fun e w' => e=.returned (.int .i64 (frErr np P (ahead fs j) nc (fmAt fs j)))∧Below W3.heap.size W3 w'):=HFr.out _ _ _ W3 (below_step hbw b3) (ValsAt.below hrow (below_step hbw b3))
   have HN : Hid (ahead fs (j + 1)=(fmAt fs j).regs.length):=by show _=_; unfold ahead; rw [if_neg (by omega)]; rfl
   have HX2 : Hid (∀ wi,Below W3.heap.size W3 wi→wi.cell? ⟨wr.heap.size,2,none⟩=some (.slice ua (fmAt fs j).regs.length uc)):=fun wi hw => (hw.cell (cell_lt x2)).trans x2
   have HBr : Hid (Below W.heap.size W W3):=below_step hb b3
   clear hW3 hrow b3 hs3 hb
   go_upto_region 5 with (fail)
   rw [HW3.out]
   clear q0 q1 q2 q3
   by_cases he : frErr np P (ahead fs j) nc (fmAt fs j)=0
   ·rw [he] at HC
    have HE : Hid (frErr np P (ahead fs j) nc (fmAt fs j)=0):=he
    clear he
    go_wp2_with (go_at_call 106; refine HC.out.mono ?_; rintro e w1 ⟨rfl,hb1⟩; have z2:=HX2.out w1 hb1)
    go_roundw
    case rel => exact ⟨j + 1,by omega,by go_num,by rw [HN.out],below_step HBr.out hb1,upTo hall.out HE.out⟩
    case measure => simp [intOf]; omega
   ·have het : (frErr np P (ahead fs j) nc (fmAt fs j) != 0)=true:=by simp [he]
    have HE : Hid (framesErr np P nc fs=frErr np P (ahead fs j) nc (fmAt fs j)):=by show _=_; rw [HE0.out]; exact firstErr_at (f:=fun k => frErr np P (ahead fs k) nc (fmAt fs k)) hall.out he hlt
    clear he
    go_wp2_with (go_at_call 106; refine HC.out.mono ?_; rintro e w1 ⟨rfl,hb1⟩)
    go_ret
    exact ⟨ret_num HE.out.symm,HB.out.trans ((below_step HBr.out hb1).mono HB.out.size)⟩
  ·go_wp2
   go_ret
   obtain rfl : j=nf:=by omega
   exact ⟨ret_num (by rw [HE0.out]; exact (firstErr_zero hall.out).symm),HB.out.trans (hb.mono HB.out.size)⟩
theorem staErr_3 {np : Nat} {P : Nat→Pc} {S : Sta} (h : S.st < 0∨3 < S.st∨S.wh < -1000000000∨1000000000 < S.wh) : staErr np P S=3:=if_pos h
theorem staErr_4 {np : Nat} {P : Nat→Pc} {S : Sta} (h : ¬ (S.st < 0∨3 < S.st∨S.wh < -1000000000∨1000000000 < S.wh)) (h2 : (¬ S.st=3∧¬ S.wh=0)∨(S.st=1∧¬ S.fs.length=0)∨(¬ S.st=1∧S.fs.length=0)) : staErr np P S=4:=by
 unfold staErr; rw [if_neg h,if_pos h2]
theorem staErr_2 {np : Nat} {P : Nat→Pc} {S : Sta} (h : ¬ (S.st < 0∨3 < S.st∨S.wh < -1000000000∨1000000000 < S.wh)) (h2 : ¬ ((¬ S.st=3∧¬ S.wh=0)∨(S.st=1∧¬ S.fs.length=0)∨(¬ S.st=1∧S.fs.length=0))) (h3 : 10 < S.fs.length) : staErr np P S=2:=by
 unfold staErr; rw [if_neg h,if_neg h2,if_pos h3]
theorem staErr_r {np : Nat} {P : Nat→Pc} {S : Sta} (h : ¬ (S.st < 0∨3 < S.st∨S.wh < -1000000000∨1000000000 < S.wh)) (h2 : ¬ ((¬ S.st=3∧¬ S.wh=0)∨(S.st=1∧¬ S.fs.length=0)∨(¬ S.st=1∧S.fs.length=0))) (h3 : ¬ 10 < S.fs.length) : staErr np P S=if cellsErr S.cs=0 then framesErr np P S.cs.length S.fs else cellsErr S.cs:=by
 unfold staErr; rw [if_neg h,if_neg h2,if_neg h3]
set_option maxHeartbeats 2000000 in
theorem vmCheck_code (pa : Option Addr) (np pc : Nat) (ce : Int) (fv cv : Value) (st wh : Int) (w W : World) (HW : Hid (w.alloc (.cells #[fv,cv,.int .i64 st,.int .i64 wh] 26)=W)) (hsh : (∃ a n c,fv=.slice a n c)∧∃ a n c,cv=.slice a n c)
  (HC : Hid (Calls Tryz.prog 43 #[.slice pa np pc] W fun e w' => e=.returned (.int .i64 ce)∧Below W.heap.size W w')) (HB : Hid (Below w.heap.size w W)) (hce : ¬ ce=0) :
  Calls Tryz.prog 20 #[.slice pa np pc,.agg #[fv,cv,.int .i64 st,.int .i64 wh]] w fun e w' => e=.returned (.int .i64 ce)∧Below w.heap.size w w':=by
 obtain ⟨⟨a1,n1,c1,rfl⟩,⟨a2,n2,c2,rfl⟩⟩:=hsh
 have h1 : (ce != 0)=true:=by simp [hce]
 clear hce
 go_enter Tryz.func20,Tryz.ntmps20
 go_upto_region 1 with (fail)
 rw [HW.out]
 go_wp2_with (go_at_call 43; refine HC.out.mono ?_; rintro e w1 ⟨rfl,hb1⟩)
 go_ret
 exact ⟨rfl,HB.out.trans (hb1.mono HB.out.size)⟩
set_option maxHeartbeats 4000000 in
theorem vmCheck_st (pa : Option Addr) (np pc : Nat) (fa ca : Option Addr) (nf fc nc cc : Nat) (st wh : Int) (w W : World) (HW : Hid (w.alloc (.cells #[.slice fa nf fc,.slice ca nc cc,.int .i64 st,.int .i64 wh] 26)=W))
  (HC : Hid (Calls Tryz.prog 43 #[.slice pa np pc] W fun e w' => e=.returned (.int .i64 0)∧Below W.heap.size W w'))
  (HI : Hid (∀ wi,Below W.heap.size W wi→wi.cell? ⟨w.heap.size,0,none⟩=some (.slice fa nf fc)∧wi.cell? ⟨w.heap.size,1,none⟩=some (.slice ca nc cc)∧wi.cell? ⟨w.heap.size,2,none⟩=some (.int .i64 st)∧wi.cell? ⟨w.heap.size,3,none⟩=some (.int .i64 wh))) (HB : Hid (Below w.heap.size w W))
  (h : st < 0∨3 < st∨wh < -1000000000∨1000000000 < wh) :
  Calls Tryz.prog 20 #[.slice pa np pc,.agg #[.slice fa nf fc,.slice ca nc cc,.int .i64 st,.int .i64 wh]] w fun e w' => e=.returned (.int .i64 3)∧Below w.heap.size w w':=by
 by_cases e1 : st < 0
 ·clear h
  go_enter Tryz.func20,Tryz.ntmps20
  go_upto_region 1 with (fail)
  rw [HW.out]
  go_wp2_with (go_at_call 43; refine HC.out.mono ?_; rintro e w1 ⟨rfl,hb1⟩; obtain ⟨i0,i1,i2,i3⟩:=HI.out w1 hb1)
  go_ret
  exact ⟨rfl,HB.out.trans (hb1.mono HB.out.size)⟩
 by_cases e2 : 3 < st
 ·clear h
  go_enter Tryz.func20,Tryz.ntmps20
  go_upto_region 1 with (fail)
  rw [HW.out]
  go_wp2_with (go_at_call 43; refine HC.out.mono ?_; rintro e w1 ⟨rfl,hb1⟩; obtain ⟨i0,i1,i2,i3⟩:=HI.out w1 hb1)
  go_ret
  exact ⟨rfl,HB.out.trans (hb1.mono HB.out.size)⟩
 by_cases e3 : wh < -1000000000
 ·clear h
  go_enter Tryz.func20,Tryz.ntmps20
  go_upto_region 1 with (fail)
  rw [HW.out]
  go_wp2_with (go_at_call 43; refine HC.out.mono ?_; rintro e w1 ⟨rfl,hb1⟩; obtain ⟨i0,i1,i2,i3⟩:=HI.out w1 hb1)
  go_ret
  exact ⟨rfl,HB.out.trans (hb1.mono HB.out.size)⟩
 have e4 : 1000000000 < wh:=by omega
 clear h
 go_enter Tryz.func20,Tryz.ntmps20
 go_upto_region 1 with (fail)
 rw [HW.out]
 go_wp2_with (go_at_call 43; refine HC.out.mono ?_; rintro e w1 ⟨rfl,hb1⟩; obtain ⟨i0,i1,i2,i3⟩:=HI.out w1 hb1)
 go_ret
 exact ⟨rfl,HB.out.trans (hb1.mono HB.out.size)⟩
set_option maxHeartbeats 4000000 in
theorem vmCheck_form (pa : Option Addr) (np pc : Nat) (fa ca : Option Addr) (nf fc nc cc : Nat) (st wh : Int) (b3 bw b1 bl : Bool) (w W : World) (HW : Hid (w.alloc (.cells #[.slice fa nf fc,.slice ca nc cc,.int .i64 st,.int .i64 wh] 26)=W))
  (HC : Hid (Calls Tryz.prog 43 #[.slice pa np pc] W fun e w' => e=.returned (.int .i64 0)∧Below W.heap.size W w'))
  (HI : Hid (∀ wi,Below W.heap.size W wi→wi.cell? ⟨w.heap.size,0,none⟩=some (.slice fa nf fc)∧wi.cell? ⟨w.heap.size,1,none⟩=some (.slice ca nc cc)∧wi.cell? ⟨w.heap.size,2,none⟩=some (.int .i64 st)∧wi.cell? ⟨w.heap.size,3,none⟩=some (.int .i64 wh))) (HB : Hid (Below w.heap.size w W))
  (h1 : ¬ st < 0) (h2 : ¬ 3 < st) (h3 : ¬ wh < -1000000000) (h4 : ¬ 1000000000 < wh) (k3 : (st != 3)=b3) (kw : (wh != 0)=bw) (k1 : (st == 1)=b1) (kl : ((nf : Int) == 0)=bl) (hb : (b3 && bw || (b1 != bl))=true) :
  Calls Tryz.prog 20 #[.slice pa np pc,.agg #[.slice fa nf fc,.slice ca nc cc,.int .i64 st,.int .i64 wh]] w fun e w' => e=.returned (.int .i64 4)∧Below w.heap.size w w':=by
 cases b3 <;> cases bw <;> cases b1 <;> cases bl <;> first | (exact absurd hb (by decide)) | skip
 all_goals
  clear hb
  go_enter Tryz.func20,Tryz.ntmps20
  go_upto_region 1 with (fail)
  rw [HW.out]
  go_wp2_with (go_at_call 43; refine HC.out.mono ?_; rintro e w1 ⟨rfl,hb1⟩; obtain ⟨i0,i1,i2,i3⟩:=HI.out w1 hb1)
  go_ret
  exact ⟨rfl,HB.out.trans (hb1.mono HB.out.size)⟩
set_option maxHeartbeats 4000000 in
theorem vmCheck_rest (pa : Option Addr) (np pc : Nat) (fa ca : Option Addr) (nf fc nc cc : Nat) (st wh ae fe : Int) (b3 bw b1 bl : Bool) (w W : World) (HW : Hid (w.alloc (.cells #[.slice fa nf fc,.slice ca nc cc,.int .i64 st,.int .i64 wh] 26)=W))
  (HC : Hid (Calls Tryz.prog 43 #[.slice pa np pc] W fun e w' => e=.returned (.int .i64 0)∧Below W.heap.size W w'))
  (HI : Hid (∀ wi,Below W.heap.size W wi→wi.cell? ⟨w.heap.size,0,none⟩=some (.slice fa nf fc)∧wi.cell? ⟨w.heap.size,1,none⟩=some (.slice ca nc cc)∧wi.cell? ⟨w.heap.size,2,none⟩=some (.int .i64 st)∧wi.cell? ⟨w.heap.size,3,none⟩=some (.int .i64 wh))) (HB : Hid (Below w.heap.size w W))
  (HA : Hid (∀ wi,Below W.heap.size W wi→Calls Tryz.prog 62 #[.slice ca nc cc] wi fun e w' => e=.returned (.int .i64 ae)∧Below wi.heap.size wi w'))
  (HFr : Hid (∀ wi,Below W.heap.size W wi→Calls Tryz.prog 63 #[.slice pa np pc,.agg #[.slice fa nf fc,.slice ca nc cc,.int .i64 st,.int .i64 wh]] wi fun e w' => e=.returned (.int .i64 fe)∧Below wi.heap.size wi w'))
  (h1 : ¬ st < 0) (h2 : ¬ 3 < st) (h3 : ¬ wh < -1000000000) (h4 : ¬ 1000000000 < wh) (k3 : (st != 3)=b3) (kw : (wh != 0)=bw) (k1 : (st == 1)=b1) (kl : ((nf : Int) == 0)=bl) (hb : (b3 && bw || (b1 != bl))=false) :
  Calls Tryz.prog 20 #[.slice pa np pc,.agg #[.slice fa nf fc,.slice ca nc cc,.int .i64 st,.int .i64 wh]] w fun e w' => e=.returned (.int .i64 (if 10 < nf then 2 else if ae=0 then fe else ae))∧Below w.heap.size w w':=by
 obtain ⟨res,hres⟩ : ∃ r,(if 10 < nf then (2 : Int) else if ae=0 then fe else ae)=r:=⟨_,rfl⟩
 rw [hres]
 by_cases h10 : 10 < nf
 ·have h5 : (10 : Int) < (nf : Int):=by omega
  rw [if_pos h10] at hres
  subst hres
  cases b3 <;> cases bw <;> cases b1 <;> cases bl <;> first | (exact absurd hb (by decide)) | skip
  all_goals
   clear hb
   go_enter Tryz.func20,Tryz.ntmps20
   go_upto_region 1 with (fail)
   rw [HW.out]
   go_wp2_with (go_at_call 43; refine HC.out.mono ?_; rintro e w1 ⟨rfl,hb1⟩; obtain ⟨i0,i1,i2,i3⟩:=HI.out w1 hb1)
   go_ret
   exact ⟨rfl,HB.out.trans (hb1.mono HB.out.size)⟩
 have h5 : ¬ (10 : Int) < (nf : Int):=by omega
 rw [if_neg h10] at hres
 by_cases ha : ae=0
 ·rw [if_pos ha] at hres
  subst hres
  subst ha
  cases b3 <;> cases bw <;> cases b1 <;> cases bl <;> first | (exact absurd hb (by decide)) | skip
  all_goals
   clear hb
   go_enter Tryz.func20,Tryz.ntmps20
   go_upto_region 1 with (fail)
   rw [HW.out]
   go_wp2_with (first
    | (go_at_call 43; refine HC.out.mono ?_; rintro e w1 ⟨rfl,hb1⟩; obtain ⟨i0,i1,i2,i3⟩:=HI.out w1 hb1)
    | (go_at_call 62; refine (HA.out _ hb1).mono ?_; rintro e w2 ⟨rfl,hb2⟩; obtain ⟨j0,j1,j2,j3⟩:=HI.out w2 (below_step hb1 hb2))
    | (go_at_call 63; refine (HFr.out _ (below_step hb1 hb2)).mono ?_; rintro e w3 ⟨rfl,hb3⟩))
   go_ret
   exact ⟨rfl,HB.out.trans ((below_step (below_step hb1 hb2) hb3).mono HB.out.size)⟩
 ·have ha1 : (ae != 0)=true:=by simp [ha]
  rw [if_neg ha] at hres
  subst hres
  clear ha
  cases b3 <;> cases bw <;> cases b1 <;> cases bl <;> first | (exact absurd hb (by decide)) | skip
  all_goals
   clear hb
   go_enter Tryz.func20,Tryz.ntmps20
   go_upto_region 1 with (fail)
   rw [HW.out]
   go_wp2_with (first
    | (go_at_call 43; refine HC.out.mono ?_; rintro e w1 ⟨rfl,hb1⟩; obtain ⟨i0,i1,i2,i3⟩:=HI.out w1 hb1)
    | (go_at_call 62; refine (HA.out _ hb1).mono ?_; rintro e w2 ⟨rfl,hb2⟩))
   go_ret
   exact ⟨rfl,HB.out.trans ((below_step hb1 hb2).mono HB.out.size)⟩
theorem four_bool (p q r s : Prop) [Decidable p] [Decidable q] [Decidable r] [Decidable s] : (decide (¬ p) && decide (¬ q) || (decide r != decide s))=true ↔ ((¬ p∧¬ q)∨(r∧¬ s)∨(¬ r∧s)):=by
 by_cases hp : p <;> by_cases hq : q <;> by_cases hr : r <;> by_cases hs : s <;> simp [hp,hq,hr,hs]
theorem form_bool {st wh : Int} {nf : Nat} : ((st != 3) && (wh != 0) || ((st == 1) != ((nf : Int) == 0)))=true ↔ ((¬ st=3∧¬ wh=0)∨(st=1∧¬ nf=0)∨(¬ st=1∧nf=0)):=by
 have e1 : (st != 3)=decide (¬ st=3):=by by_cases h : st=3 <;> simp [h]
 have e2 : (wh != 0)=decide (¬ wh=0):=by by_cases h : wh=0 <;> simp [h]
 have e3 : (st == 1)=decide (st=1):=by by_cases h : st=1 <;> simp [h]
 have e4 : ((nf : Int) == 0)=decide (nf=0):=by
  by_cases h : nf=0
  ·subst h; rfl
  ·have : ¬ (nf : Int)=0:=by omega
   simp [h]
 rw [e1,e2,e3,e4]
 exact four_bool _ _ _ _
theorem vmCheck (M : Nat) (vp fv cv : Value) (np : Nat) (P : Nat→Pc) (S : Sta) (w : World) (hM : M≤w.heap.size) (hp : ProcsAt M w vp np P) (hs : StaAt w fv cv S) :
  Calls Tryz.prog 20 #[vp,staV fv cv S.st S.wh] w fun e w' => e=.returned (.int .i64 (vmErr np P S))∧Below w.heap.size w w':=by
 obtain ⟨pa,pc,rfl,_⟩:=id hp
 obtain ⟨fa,fc,rfl,_⟩:=id hs.1
 obtain ⟨ca,cc,rfl,_⟩:=id hs.2
 obtain ⟨W,hW,b0,hsz,i0,i1,i2,i3⟩:=sbox w (.slice fa S.fs.length fc) (.slice ca S.cs.length cc) S.st S.wh
 have hpW:=hp.below (b0.mono hM)
 have hMW : M≤W.heap.size:=Nat.le_trans hM b0.size
 have hC:=codeCheck M _ np P W hMW hpW
 have hsW:=hs.below b0
 have HI : ∀ wi,Below W.heap.size W wi→wi.cell? ⟨w.heap.size,0,none⟩=some (.slice fa S.fs.length fc)∧wi.cell? ⟨w.heap.size,1,none⟩=some (.slice ca S.cs.length cc)∧wi.cell? ⟨w.heap.size,2,none⟩=some (.int .i64 S.st)∧wi.cell? ⟨w.heap.size,3,none⟩=some (.int .i64 S.wh):=fun wi hw =>
  ⟨(hw.cell (cell_lt i0)).trans i0,(hw.cell (cell_lt i1)).trans i1,(hw.cell (cell_lt i2)).trans i2,(hw.cell (cell_lt i3)).trans i3⟩
 by_cases hce : codeErr np P=0
 ·have hv : vmErr np P S=staErr np P S:=if_pos hce
  rw [hv]
  rw [hce] at hC
  by_cases h3 : S.st < 0∨3 < S.st∨S.wh < -1000000000∨1000000000 < S.wh
  ·rw [staErr_3 h3]
   exact vmCheck_st pa np pc fa ca _ fc _ cc S.st S.wh w W hW hC HI b0 h3
  have g1 : ¬ S.st < 0:=fun h => h3 (Or.inl h)
  have g2 : ¬ 3 < S.st:=fun h => h3 (Or.inr (Or.inl h))
  have g3 : ¬ S.wh < -1000000000:=fun h => h3 (Or.inr (Or.inr (Or.inl h)))
  have g4 : ¬ 1000000000 < S.wh:=fun h => h3 (Or.inr (Or.inr (Or.inr h)))
  by_cases h4 : (¬ S.st=3∧¬ S.wh=0)∨(S.st=1∧¬ S.fs.length=0)∨(¬ S.st=1∧S.fs.length=0)
  ·rw [staErr_4 h3 h4]
   exact vmCheck_form pa np pc fa ca _ fc _ cc S.st S.wh _ _ _ _ w W hW hC HI b0 g1 g2 g3 g4 rfl rfl rfl rfl (form_bool.2 h4)
  have hform : ((S.st != 3) && (S.wh != 0) || ((S.st == 1) != ((S.fs.length : Int) == 0)))=false:=by
   cases hh : ((S.st != 3) && (S.wh != 0) || ((S.st == 1) != ((S.fs.length : Int) == 0)))
   ·rfl
   ·exact absurd (form_bool.1 hh) h4
  have hR:=vmCheck_rest pa np pc fa ca _ fc _ cc S.st S.wh (cellsErr S.cs) (framesErr np P S.cs.length S.fs) _ _ _ _ w W hW hC HI b0
   (fun wi hw => cCheckAll _ _ _ _ _ wi (hsW.2.below hw))
   (fun wi hw => checkFrames M pa np pc P S.fs fa ca _ fc _ cc S.st S.wh wi (Nat.le_trans hMW hw.size) (hpW.below (hw.mono hMW)) (codeErr_right hce).c0 (hsW.1.below hw) rfl)
   g1 g2 g3 g4 rfl rfl rfl rfl hform
  by_cases h10 : 10 < S.fs.length
  ·rw [if_pos h10] at hR
   rw [staErr_2 h3 h4 h10]
   exact hR
  ·rw [if_neg h10] at hR
   rw [staErr_r h3 h4 h10]
   exact hR
 ·have hv : vmErr np P S=codeErr np P:=if_neg hce
  rw [hv]
  exact vmCheck_code pa np pc _ _ _ S.st S.wh w W hW ⟨⟨_,_,_,rfl⟩,⟨_,_,_,rfl⟩⟩ hC b0 hce
def runErr (np : Nat) (P : Nat→Pc) (S : Sta) (fuel : Int) : Int :=
 if vmErr np P S=0 then (if fuel < 0∨2000 < fuel then 3 else if S.st=0 then 0 else 7) else vmErr np P S
end Go.Proofs.YtfaokaohhchdhaaGreatDoor
