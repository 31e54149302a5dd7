/- Swept twice a state is as swept once. No Go in it. -/
import Derived.Test.YtfaokaohhchdhaaGreatDoorPart3
import Derived.Test.YtfaokaohhchdhaaGreatDoorPart4
import Derived.Test.YtfaokaohhchdhaaGreatDoorPart14
import Derived.Test.YtfaokaohhchdhaaGreatDoorPart12
namespace Go.Proofs.YtfaokaohhchdhaaGreatDoor
def idx (R : List Int) (x : Int) : Int:=(R.idxOf x : Int)
theorem idx_inj {R : List Int} {x y : Int} (hx : x ∈ R) (hy : y ∈ R) (h : idx R x=idx R y) : x=y:=by
 unfold idx at h
 have h1:=List.idxOf_lt_length_of_mem hx
 have h2:=List.idxOf_lt_length_of_mem hy
 have e1:=List.getElem_idxOf h1
 have e2:=List.getElem_idxOf h2
 have e : R.idxOf x=R.idxOf y:=by omega
 rw [← e1,← e2]
 simp only [e]
theorem idx_at {R : List Int} (hn : R.Nodup) {i : Nat} (hi : i < R.length) : idx R (R.getD i 0)=i:=by
 unfold idx
 rw [List.getD_eq_getElem?_getD,List.getElem?_eq_getElem hi,Option.getD_some,hn.idxOf_getElem i hi]
theorem meet1_map {R A : List Int} (hA : ∀ x,x ∈ A→x ∈ R) {k z z' : Int} (hz : k=2→z ∈ R∧z'=idx R z) : meet1 (A.map (idx R)) k z'=(meet1 A k z).map (idx R):=by
 by_cases hk : k=2
 ·obtain ⟨h1,rfl⟩:=hz hk
  by_cases hm : z ∈ A
  ·rw [meet1_old hm,meet1_old (List.mem_map.2 ⟨z,hm,rfl⟩)]
  ·rw [meet1_new hk hm,meet1_new hk,List.map_append]; · rfl
   intro h
   obtain ⟨y,hy,e⟩:=List.mem_map.1 h
   exact hm (idx_inj (hA y hy) h1 e ▸ hy)
 ·rw [meet1_no hk,meet1_no hk]
theorem meet1_in {R A : List Int} (hA : ∀ x,x ∈ A→x ∈ R) {k z : Int} (hz : k=2→z ∈ R) : ∀ x,x ∈ meet1 A k z→x ∈ R:=fun x hx => by
 rcases mem_meet1.1 hx with h | ⟨h1,rfl⟩
 ·exact hA x h
 ·exact hz h1
theorem meetTo_in {R A : List Int} (hA : ∀ x,x ∈ A→x ∈ R) {k z : Nat→Int} : ∀ {i : Nat},(∀ j,j < i→k j=2→z j ∈ R)→∀ x,x ∈ meetTo i k z A→x ∈ R
 | 0,_ => hA
 | i + 1,h => meet1_in (meetTo_in hA fun j hj => h j (by omega)) (h i (by omega))
theorem meetTo_map {R A : List Int} (hA : ∀ x,x ∈ A→x ∈ R) {k z k' z' : Nat→Int} : ∀ {i : Nat},(∀ j,j < i→k' j=k j)→(∀ j,j < i→k j=2→z j ∈ R∧z' j=idx R (z j))→meetTo i k' z' (A.map (idx R))=(meetTo i k z A).map (idx R)
 | 0,_,_ => rfl
 | i + 1,hk,h => by
  show meet1 (meetTo i k' z' (A.map (idx R))) (k' i) (z' i)=(meet1 (meetTo i k z A) (k i) (z i)).map (idx R)
  rw [meetTo_map hA (fun j hj => hk j (by omega)) (fun j hj => h j (by omega)),hk i (by omega)]
  exact meet1_map (meetTo_in hA fun j hj e => (h j (by omega) e).1) (h i (by omega))
section
variable {n : Nat} {m : Nat→Nat} {K Z : Nat→Nat→Int} {f : Nat} {kf zf : Nat→Int}
theorem rt_more (t : Nat) : ∀ d,∃ S,rt m K Z f kf zf (t + d)=rt m K Z f kf zf t ++ S
 | 0 => ⟨[],by simp⟩
 | d + 1 => by
  obtain ⟨S,h⟩:=rt_more t d
  obtain ⟨S',h'⟩:=rt_prefix (m:=m) (K:=K) (Z:=Z) (f:=f) (kf:=kf) (zf:=zf) (t + d)
  exact ⟨S ++ S',by rw [show t + (d + 1)=t + d + 1 by omega,h',h,List.append_assoc]⟩
theorem rt_of_reached (hv : Valid n m K Z f kf zf) (t : Nat) : ∃ S,reached n m K Z f kf zf=rt m K Z f kf zf t ++ S:=by
 by_cases h : t≤n
 ·obtain ⟨S,e⟩:=rt_more (m:=m) (K:=K) (Z:=Z) (f:=f) (kf:=kf) (zf:=zf) t (n - t)
  rw [show t + (n - t)=n by omega] at e
  exact ⟨S,e⟩
 ·have hl:=(rt_good hv n).len
  have:=rt_stays (m:=m) (K:=K) (Z:=Z) (f:=f) (kf:=kf) (zf:=zf) (t:=n) (by omega) (t - n)
  rw [show n + (t - n)=t by omega] at this
  exact ⟨[],by rw [this,List.append_nil]; rfl⟩
theorem rt_all (hv : Valid n m K Z f kf zf) {t : Nat} (ht : (reached n m K Z f kf zf).length≤t) : rt m K Z f kf zf t=reached n m K Z f kf zf:=by
 obtain ⟨S,e⟩:=rt_of_reached hv t
 by_cases h : t≤n
 ·refine (rt_done h ?_).symm
  have : (reached n m K Z f kf zf).length=(rt m K Z f kf zf t).length + S.length:=by rw [e,List.length_append]
  omega
 ·have hl:=(rt_good hv n).len
  have:=rt_stays (m:=m) (K:=K) (Z:=Z) (f:=f) (kf:=kf) (zf:=zf) (t:=n) (by omega) (t - n)
  rw [show n + (t - n)=t by omega] at this
  exact this
theorem rt_map (hv : Valid n m K Z f kf zf) {m' : Nat→Nat} {K' Z' : Nat→Nat→Int} {kf' zf' : Nat→Int} {R : List Int} (hR : R=reached n m K Z f kf zf)
  (hf : ∀ j,j < f→kf' j=kf j) (hz : ∀ j,j < f→kf j=2→zf' j=idx R (zf j))
  (hm : ∀ i,i < R.length→m' i=m (R.getD i 0).toNat) (hK : ∀ i,i < R.length→∀ j,K' i j=K (R.getD i 0).toNat j) (hZ : ∀ i,i < R.length→∀ j,j < m' i→K' i j=2→Z' i j=idx R (Z (R.getD i 0).toNat j)) :
  ∀ t,rt m' K' Z' f kf' zf' t=(rt m K Z f kf zf t).map (idx R)
 | 0 => by
  have:=meetTo_map (R:=R) (A:=[]) (fun x h => absurd h List.not_mem_nil) (k:=kf) (z:=zf) (k':=kf') (z':=zf') (i:=f) hf (fun j hj e => ⟨by rw [hR]; exact reached_from hj e,hz j hj e⟩)
  exact this
 | t + 1 => by
  have ih:=rt_map hv hR hf hz hm hK hZ t
  obtain ⟨S,e⟩:=rt_of_reached hv t
  rw [← hR] at e
  have hg : Good n R:=by rw [hR]; exact rt_good hv n
  have hA : ∀ x,x ∈ rt m K Z f kf zf t→x ∈ R:=fun x hx => by rw [e]; exact List.mem_append_left _ hx
  show (if t < (rt m' K' Z' f kf' zf' t).length then stepR m' K' Z' t (rt m' K' Z' f kf' zf' t) else rt m' K' Z' f kf' zf' t)=(if t < (rt m K Z f kf zf t).length then stepR m K Z t (rt m K Z f kf zf t) else rt m K Z f kf zf t).map (idx R)
  rw [ih,List.length_map]
  by_cases h : t < (rt m K Z f kf zf t).length
  ·rw [if_pos h,if_pos h]
   have hl : t < R.length:=by rw [e,List.length_append]; omega
   have e0 : (rt m K Z f kf zf t).getD t 0=R.getD t 0:=by rw [e,getD_prefix h]
   have e1 : ((rt m K Z f kf zf t).map (idx R)).getD t 0=(t : Int):=by
    rw [List.getD_eq_getElem?_getD,List.getElem?_map]
    have : (rt m K Z f kf zf t)[t]?=some (R.getD t 0):=by
     rw [← e0,List.getD_eq_getElem?_getD,List.getElem?_eq_getElem h]; rfl
    rw [this]
    exact idx_at hg.1 hl
   unfold stepR
   rw [e0,e1,Int.toNat_natCast,hm t hl]
   have hmem : (((R.getD t 0).toNat : Nat) : Int) ∈ reached n m K Z f kf zf:=by
    obtain ⟨c,_,hc⟩:=hg.at hl
    have hx : R.getD t 0 ∈ R:=getD_mem hl
    rw [hc] at hx ⊢
    rw [Int.toNat_natCast,← hR]; exact hx
   refine meetTo_map hA (fun j _ => hK t hl j) fun j hj e2 => ⟨?_,hZ t hl j (by rw [hm t hl]; exact hj) (by rw [hK t hl]; exact e2)⟩
   rw [hR]
   rw [hR] at hj e2
   rw [hR] at hmem
   exact reached_closed hv hmem hj e2
  ·rw [if_neg h,if_neg h]
end
theorem renum_kind (R : List Int) (v : Int×Int) : (renum R v).1=v.1:=by
 unfold renum; split
 ·rename_i h; exact h.symm
 ·rfl
theorem renum_num (R : List Int) {v : Int×Int} (h : v.1=2) : (renum R v).2=idx R v.2:=by unfold renum; rw [if_pos h]; rfl
theorem getD_map {α β : Type} (g : α→β) (L : List α) (i : Nat) (d : α) (e : β) (h : i < L.length) : (L.map g).getD i e=g (L.getD i d):=by
 rw [List.getD_eq_getElem?_getD,List.getElem?_map,List.getElem?_eq_getElem h,List.getD_eq_getElem?_getD,List.getElem?_eq_getElem h]; rfl
theorem fstAt_renum (R : List Int) (L : List (Int×Int)) (i : Nat) : fstAt (L.map (renum R)) i=fstAt L i:=by
 unfold fstAt
 by_cases h : i < L.length
 ·rw [getD_map (renum R) L i (0,0) (0,0) h,renum_kind]
 ·rw [getD_none (by simp; omega),getD_none (by omega)]
theorem sndAt_renum (R : List Int) {L : List (Int×Int)} {i : Nat} (h : i < L.length) (hk : fstAt L i=2) : sndAt (L.map (renum R)) i=idx R (sndAt L i):=by
 unfold sndAt
 rw [getD_map (renum R) L i (0,0) (0,0) h,renum_num R hk]
theorem regsOf_renum (R : List Int) : ∀ fs : List Fm,regsOf (fs.map (renumF R))=(regsOf fs).map (renum R)
 | [] => rfl
 | f :: r => by
  have:=regsOf_renum R r
  unfold regsOf at this ⊢
  simp only [List.map_cons,List.flatten_cons,List.map_append,this]
  rfl
section
variable {np : Nat} {P : Nat→Pc} {S : Sta}
theorem reached_swept (hc : CodeOK np P) (h : StaOK np P S) : reachedS (sweptS S)=(reachedS S).map (idx (reachedS S)):=by
 have hv:=h.valid hc
 have hg:=h.reached hc
 have hcl:=sweptS_cells S
 have hrow : ∀ i,i < (reachedS S).length→(sweptS S).cs.getD i []=(S.cs.getD ((reachedS S).getD i 0).toNat []).map (renum (reachedS S)):=fun i hi => getD_map _ _ i 0 [] hi
 have hT:=rt_map hv (m':=cLen (sweptS S).cs) (K':=cK (sweptS S).cs) (Z':=cZ (sweptS S).cs) (kf':=fstAt (regsOf (sweptS S).fs)) (zf':=sndAt (regsOf (sweptS S).fs)) (R:=reachedS S) rfl
  (fun j _ => by show fstAt (regsOf (S.fs.map _)) j=_; rw [regsOf_renum,fstAt_renum])
  (fun j hj e => by show sndAt (regsOf (S.fs.map _)) j=_; rw [regsOf_renum,sndAt_renum _ hj e])
  (fun i hi => by unfold cLen; rw [hrow i hi,List.length_map])
  (fun i hi j => by unfold cK; rw [hrow i hi,fstAt_renum])
  (fun i hi j hj e => by
   unfold cZ
   unfold cK at e
   unfold cLen at hj
   rw [hrow i hi,List.length_map] at hj
   rw [hrow i hi,fstAt_renum] at e
   rw [hrow i hi,sndAt_renum _ hj e])
  (reachedS S).length
 have hl : (regsOf (sweptS S).fs).length=(regsOf S.fs).length:=by
  show (regsOf (S.fs.map _)).length=_
  rw [regsOf_renum,List.length_map]
 show reached (sweptS S).cs.length (cLen (sweptS S).cs) (cK (sweptS S).cs) (cZ (sweptS S).cs) (regsOf (sweptS S).fs).length (fstAt (regsOf (sweptS S).fs)) (sndAt (regsOf (sweptS S).fs))=_
 rw [hcl,hl]
 show rt (cLen (sweptS S).cs) (cK (sweptS S).cs) (cZ (sweptS S).cs) (regsOf S.fs).length (fstAt (regsOf (sweptS S).fs)) (sndAt (regsOf (sweptS S).fs)) (reachedS S).length=_
 have hall : rt (cLen S.cs) (cK S.cs) (cZ S.cs) (regsOf S.fs).length (fstAt (regsOf S.fs)) (sndAt (regsOf S.fs)) (reachedS S).length=reachedS S:=rt_all hv (Nat.le_refl _)
 rw [hT,hall]
theorem idx_list {R : List Int} (hn : R.Nodup) {i : Nat} (hi : i < R.length) : (R.map (idx R)).getD i 0=i:=by
 rw [getD_map (idx R) R i 0 0 hi,idx_at hn hi]
theorem idx_nodup {R : List Int} (hn : R.Nodup) : (R.map (idx R)).Nodup:=by
 exact List.pairwise_map.2 (hn.imp_of_mem fun ha hb hne e => hne (idx_inj ha hb e))
theorem idx_idx {R : List Int} (hn : R.Nodup) {x : Int} (hx : x ∈ R) : idx (R.map (idx R)) (idx R x)=idx R x:=by
 have h1:=List.idxOf_lt_length_of_mem hx
 have e : (R.map (idx R)).getD (R.idxOf x) 0=idx R x:=idx_list hn h1
 have:=idx_at (idx_nodup hn) (i:=R.idxOf x) (by simpa using h1)
 rw [e] at this
 exact this
theorem renum_twice {R : List Int} (hn : R.Nodup) {v : Int×Int} (hv : v.1=2→v.2 ∈ R) : renum (R.map (idx R)) (renum R v)=renum R v:=by
 by_cases e : v.1=2
 ·have e1 : renum R v=(2,idx R v.2):=by unfold renum; rw [if_pos e]; rfl
  rw [e1]
  unfold renum
  rw [if_pos rfl]
  have:=idx_idx hn (hv e)
  show ((2 : Int),idx (R.map (idx R)) (idx R v.2))=_
  rw [this]
 ·have e1 : renum R v=v:=by unfold renum; rw [if_neg e]
  rw [e1]; unfold renum; rw [if_neg e]
theorem sweptS_twice (hc : CodeOK np P) (h : StaOK np P S) : sweptS (sweptS S)=sweptS S:=by
 have hg:=h.reached hc
 have hR:=reached_swept hc h
 have hfs : ∀ f,f ∈ S.fs→renumF ((reachedS S).map (idx (reachedS S))) (renumF (reachedS S) f)=renumF (reachedS S) f:=fun f hf => by
  unfold renumF
  congr 1
  rw [List.map_map]
  exact List.map_congr_left fun v hv => renum_twice hg.1 fun e => reg_reached hf hv e
 have e1 : (sweptS (sweptS S)).fs=(sweptS S).fs:=by
  show (S.fs.map _).map (renumF (reachedS (sweptS S)))=S.fs.map _
  rw [hR,List.map_map]
  exact List.map_congr_left hfs
 have e2 : (sweptS (sweptS S)).cs=(sweptS S).cs:=by
  show (reachedS (sweptS S)).map (fun n => ((sweptS S).cs.getD n.toNat []).map (renum (reachedS (sweptS S))))=(reachedS S).map _
  rw [hR,List.map_map]
  refine List.map_congr_left fun x hx => ?_
  have h1:=List.idxOf_lt_length_of_mem hx
  have hrow : (sweptS S).cs.getD (idx (reachedS S) x).toNat []=(S.cs.getD x.toNat []).map (renum (reachedS S)):=by
   have:=getD_map (fun n : Int => (S.cs.getD n.toNat []).map (renum (reachedS S))) (reachedS S) ((reachedS S).idxOf x) 0 [] h1
   have e0 : (reachedS S).getD ((reachedS S).idxOf x) 0=x:=by
    rw [List.getD_eq_getElem?_getD,List.getElem?_eq_getElem h1]; exact List.getElem_idxOf h1
   rw [e0] at this
   exact this
  show ((sweptS S).cs.getD (idx (reachedS S) x).toNat []).map (renum _)=_
  rw [hrow,List.map_map]
  exact List.map_congr_left fun v hv => renum_twice hg.1 fun e => field_reached hc h hx hv e
 show Sta.mk _ _ _ _=Sta.mk _ _ _ _
 exact congr (congr (congr (congrArg Sta.mk e1) e2) rfl) rfl
end
def VSim (r : Int→Int→Prop) (v v' : Int×Int) : Prop:=v'.1=v.1∧(v.1=2→r v.2 v'.2)∧(¬ v.1=2→v'.2=v.2)
def RSim (r : Int→Int→Prop) (L L' : List (Int×Int)) : Prop:=L'.length=L.length∧∀ i,VSim r (L.getD i (0,0)) (L'.getD i (0,0))
def FSim (r : Int→Int→Prop) (f f' : Fm) : Prop:=f'.proc=f.proc∧f'.pos=f.pos∧f'.to=f.to∧RSim r f.regs f'.regs
structure Sim (r : Int→Int→Prop) (S T : Sta) : Prop where
 st : T.st=S.st
 wh : T.wh=S.wh
 fl : T.fs.length=S.fs.length
 fr : ∀ i,FSim r (fmAt S.fs i) (fmAt T.fs i)
 fn : ∀ a b b',r a b→r a b'→b=b'
 inj : ∀ a a' b,r a b→r a' b→a=a'
 ca : ∀ a b,r a b→0≤a∧a < S.cs.length
 cb : ∀ a b,r a b→0≤b∧b < T.cs.length
 cell : ∀ a b,r a b→RSim r (S.cs.getD a.toNat []) (T.cs.getD b.toNat [])
def Eqv (S T : Sta) : Prop:=∃ r,Sim r S T
theorem VSim.mono {r r' : Int→Int→Prop} {v v' : Int×Int} (h : VSim r v v') (hr : ∀ a b,r a b→r' a b) : VSim r' v v':=⟨h.1,fun e => hr _ _ (h.2.1 e),h.2.2⟩
theorem RSim.mono {r r' : Int→Int→Prop} {L L' : List (Int×Int)} (h : RSim r L L') (hr : ∀ a b,r a b→r' a b) : RSim r' L L':=⟨h.1,fun i => (h.2 i).mono hr⟩
theorem FSim.mono {r r' : Int→Int→Prop} {f f' : Fm} (h : FSim r f f') (hr : ∀ a b,r a b→r' a b) : FSim r' f f':=⟨h.1,h.2.1,h.2.2.1,h.2.2.2.mono hr⟩
/-! ### What is reached -/
section
variable {np : Nat} {P : Nat→Pc} {S T : Sta} {r : Int→Int→Prop}
theorem Sim.symm (h : Sim r S T) : Sim (fun a b => r b a) T S:=by
 have vs : ∀ {v v' : Int×Int},VSim r v v'→VSim (fun a b => r b a) v' v:=fun hv => ⟨hv.1.symm,fun e => hv.2.1 (hv.1 ▸ e),fun e => (hv.2.2 (fun e2 => e (hv.1.trans e2))).symm⟩
 have rs : ∀ {L L' : List (Int×Int)},RSim r L L'→RSim (fun a b => r b a) L' L:=fun hL => ⟨hL.1.symm,fun i => vs (hL.2 i)⟩
 exact ⟨h.st.symm,h.wh.symm,h.fl.symm,fun i => ⟨(h.fr i).1.symm,(h.fr i).2.1.symm,(h.fr i).2.2.1.symm,rs (h.fr i).2.2.2⟩,fun a b b' h1 h2 => h.inj _ _ _ h1 h2,fun a a' b h1 h2 => h.fn _ _ _ h1 h2,fun a b hr => h.cb _ _ hr,fun a b hr => h.ca _ _ hr,fun a b hr => rs (h.cell _ _ hr)⟩
theorem Sim.trans {q : Int→Int→Prop} {U : Sta} (h : Sim r S T) (k : Sim q T U) : Sim (fun a c => ∃ b,r a b∧q b c) S U:=by
 have vs : ∀ {v v' v'' : Int×Int},VSim r v v'→VSim q v' v''→VSim (fun a c => ∃ b,r a b∧q b c) v v'':=fun h1 h2 => ⟨h2.1.trans h1.1,fun e => ⟨_,h1.2.1 e,h2.2.1 (h1.1.trans e)⟩,fun e => (h2.2.2 (fun e2 => e (h1.1.symm.trans e2))).trans (h1.2.2 e)⟩
 have rs : ∀ {L L' L'' : List (Int×Int)},RSim r L L'→RSim q L' L''→RSim (fun a c => ∃ b,r a b∧q b c) L L'':=fun h1 h2 => ⟨h2.1.trans h1.1,fun i => vs (h1.2 i) (h2.2 i)⟩
 refine ⟨k.st.trans h.st,k.wh.trans h.wh,k.fl.trans h.fl,fun i => ⟨(k.fr i).1.trans (h.fr i).1,(k.fr i).2.1.trans (h.fr i).2.1,(k.fr i).2.2.1.trans (h.fr i).2.2.1,rs (h.fr i).2.2.2 (k.fr i).2.2.2⟩,?_,?_,?_,?_,?_⟩
 ·rintro a c c' ⟨b,h1,h2⟩ ⟨b',h3,h4⟩
  rw [h.fn _ _ _ h1 h3] at h2
  exact k.fn _ _ _ h2 h4
 ·rintro a a' c ⟨b,h1,h2⟩ ⟨b',h3,h4⟩
  rw [k.inj _ _ _ h2 h4] at h1
  exact h.inj _ _ _ h1 h3
 ·rintro a c ⟨b,h1,h2⟩; exact h.ca _ _ h1
 ·rintro a c ⟨b,h1,h2⟩; exact k.cb _ _ h2
 ·rintro a c ⟨b,h1,h2⟩; exact rs (h.cell _ _ h1) (k.cell _ _ h2)
theorem Eqv.symm (h : Eqv S T) : Eqv T S:=let ⟨_,h⟩:=h; ⟨_,h.symm⟩
theorem Eqv.trans {U : Sta} (h : Eqv S T) (k : Eqv T U) : Eqv S U:=let ⟨_,h⟩:=h; let ⟨_,k⟩:=k; ⟨_,h.trans k⟩
end
section
variable {np : Nat} {P : Nat→Pc} {S T : Sta} {r : Int→Int→Prop}
theorem Eqv.st (h : Eqv S T) : T.st=S.st:=let ⟨_,h⟩:=h; h.st
end
section
variable {np : Nat} {P : Nat→Pc} {S T : Sta}
end
end Go.Proofs.YtfaokaohhchdhaaGreatDoor
namespace Go.Proofs.YtfaokaohhchdhaaGreatDoor
open Go.RowKit Go.Maps
theorem vmErr_right {np : Nat} {P : Nat→Pc} {S : Sta} (h : vmErr np P S=0) : CodeOK np P∧StaOK np P S∧codeErr np P=0:=by
 unfold vmErr at h
 by_cases hc : codeErr np P=0
 ·rw [if_pos hc] at h
  exact ⟨codeErr_right hc,staErr_zero.1 h,hc⟩
 ·rw [if_neg hc] at h; exact absurd h hc
end Go.Proofs.YtfaokaohhchdhaaGreatDoor
