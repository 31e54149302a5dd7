/- What states are in memory: those that are only read, and those of the call's own, whose rows lie apart. -/
import Derived.Test.YtfaokaohhchdhaaGreatDoorPart4
import Derived.Lib.OwnKind
import Derived.OneCell
namespace Go.Proofs.YtfaokaohhchdhaaGreatDoor
open Go.RowKit Go.Maps
def RowAt (w:World) (v:Value) (L:List (Int×Int)):Prop:=ValsAt w v L.length (fstAt L) (sndAt L)
def FramesAt (w:World) (v:Value) (fs:List Fm):Prop :=
 ∃a cap,v=.slice a fs.length cap∧fs.length≤9223372036854775807∧(fs.length=0∨∃b o,a=some ⟨b,o,none⟩∧b<w.heap.size∧∀i,i<fs.length→∃u,
  w.cell? ⟨b,o+i*4,none⟩=some (.int .i64 (fmAt fs i).proc)∧w.cell? ⟨b,o+i*4+1,none⟩=some (.int .i64 (fmAt fs i).pos)∧w.cell? ⟨b,o+i*4+2,none⟩=some u∧w.cell? ⟨b,o+i*4+3,none⟩=some (.int .i64 (fmAt fs i).to)∧RowAt w u (fmAt fs i).regs)
def CsAt (w:World) (v:Value) (cs:List (List (Int×Int))):Prop:=CellsAt w v cs.length (cLen cs) (cK cs) (cZ cs)
def staV (fv cv:Value) (st wh:Int):Value:=.agg #[fv,cv,.int .i64 st,.int .i64 wh]
def StaAt (w:World) (fv cv:Value) (S:Sta):Prop:=FramesAt w fv S.fs∧CsAt w cv S.cs
theorem FramesAt.below {w w':World} {v:Value} {fs:List Fm} (h:FramesAt w v fs) (hb:Below w.heap.size w w'):FramesAt w' v fs:=by
 obtain⟨a,cap,rfl,hn,h|⟨b,o,rfl,hlt,hc⟩⟩:=h
 ·exact⟨a,cap,rfl,hn,Or.inl h⟩
 ·refine⟨_,cap,rfl,hn,Or.inr ⟨b,o,rfl,Nat.lt_of_lt_of_le hlt hb.size,fun i hi=>?_⟩⟩
  obtain⟨u,c0,c1,c2,c3,hv⟩:=hc i hi
  exact⟨u,by rw[hb.cell hlt];exact c0,by rw[hb.cell hlt];exact c1,by rw[hb.cell hlt];exact c2,by rw[hb.cell hlt];exact c3,ValsAt.below hv hb⟩
theorem CsAt.below {w w':World} {v:Value} {cs:List (List (Int×Int))} (h:CsAt w v cs) (hb:Below w.heap.size w w'):CsAt w' v cs:=CellsAt.below h hb
theorem StaAt.below {w w':World} {fv cv:Value} {S:Sta} (h:StaAt w fv cv S) (hb:Below w.heap.size w w'):StaAt w' fv cv S:=⟨h.1.below hb,h.2.below hb⟩
/-! ### Rows of the call's own -/
theorem ownsRow_set {w:World} {B:Nat} {e:TypeId} {size g n cap:Nat} {xs:List Value} (h:w.ownsRow B e size (.slice (some ⟨g,0,none⟩) n cap) n xs) (i:Nat) (_hi:i<xs.length) (u:Value):(w.setCell ⟨g,i,none⟩ u).ownsRow B e size (.slice (some ⟨g,0,none⟩) n cap) n (xs.set i u):=by
 obtain⟨h1,h2⟩:=h
 rcases h2 with⟨h0,_⟩|⟨g',cap',cur,hv,hg,hh,hn,hcap,hsz,htake⟩
 ·cases h0
 ·cases hv
  refine⟨by simpa using h1,.inr ⟨g,cap,cur.setIfInBounds i u,rfl,hg,by rw[heap_setCell_same w g i _ _ u hh],hn,hcap,by simpa using hsz,?_⟩⟩
  rw[Array.toList_setIfInBounds,←htake,List.take_set]
theorem ownsRow_block {w w':World} {B:Nat} {e:TypeId} {size:Nat} {v:Value} {n:Nat} {xs:List Value} (h:w.ownsRow B e size v n xs) (hb:∀g,v.ownBlock=some g→w'.heap[g]?=w.heap[g]?):w'.ownsRow B e size v n xs:=by
 refine⟨h.1,?_⟩
 rcases h.2 with hn|⟨g,cap,cur,rfl,hg,hh,r⟩
 ·exact Or.inl hn
 ·exact Or.inr ⟨g,cap,cur,rfl,hg,by rw[hb g rfl];exact hh,r⟩
theorem ownsRow_apart {w:World} {B B':Nat} {e e':TypeId} {s s':Nat} {v v':Value} {n n':Nat} {xs xs':List Value} (h:w.ownsRow B e s v n xs) (h':w.ownsRow B' e' s' v' n' xs') (hne:¬e=e') {g:Nat} (hg:v.ownBlock=some g):¬v'.ownBlock=some g:=fun hg'=>by
 obtain⟨c,fz,k⟩:=Lib.ownsRow_kind h g hg
 obtain⟨c',fz',k'⟩:=Lib.ownsRow_kind h' g hg'
 rw[k]at k'
 injection k' with k'
 injection k' with _ k2 _
 exact hne k2
def VRow (B:Nat) (w:World) (v:Value) (L:List (Int×Int)):Prop:=w.ownsRow B 92 2 v L.length (flatV L)
theorem flatV_set:∀(L:List (Int×Int)) (k:Nat) (x:Int×Int),flatV (L.set k x)=((flatV L).set (k*2) (.int .i64 x.1)).set (k*2+1) (.int .i64 x.2)
 | [],k,x=>by simp[flatV]
 | p::L,0,x=>rfl
 | p::L,k+1,x=>by
  have:=flatV_set L k x
  rw[show (k+1)*2=k*2+1+1 by omega]
  simp only[List.set_cons_succ,flatV,this]
theorem VRow.set {B:Nat} {w:World} {g n cap:Nat} {L:List (Int×Int)} (h:VRow B w (.slice (some ⟨g,0,none⟩) n cap) L) {k:Nat} (hk:k<L.length) (x:Int×Int) :
  VRow B ((w.setCell ⟨g,k*2,none⟩ (.int .i64 x.1)).setCell ⟨g,k*2+1,none⟩ (.int .i64 x.2)) (.slice (some ⟨g,0,none⟩) n cap) (L.set k x):=by
 unfold VRow at h ⊢
 rw[List.length_set,flatV_set]
 have hl:=flatV_len L
 have hn:L.length=n:=by
  rcases h.2 with⟨h0,_⟩|⟨_,_,_,hv,_⟩
  ·cases h0
  ·cases hv;rfl
 subst hn
 exact ownsRow_set (ownsRow_set h (k*2) (by omega) _) (k*2+1) (by rw[List.length_set];omega) _
theorem VRow.shape {B:Nat} {w:World} {v:Value} {L:List (Int×Int)} (h:VRow B w v L) (hn:¬L.length=0):∃g cap,v=.slice (some ⟨g,0,none⟩) L.length cap:=by
 rcases h.2 with⟨rfl,h0⟩|⟨g,cap,cur,rfl,_⟩
 ·exact absurd h0 hn
 ·exact⟨g,cap,rfl⟩
theorem VRow.at {B:Nat} {w:World} {v:Value} {L:List (Int×Int)} (h:VRow B w v L) (hL:L.length≤100000):RowAt w v L:=own_vals h hL
def flatF:List Fm→List Value→List Value
 | f::fs,u::us => .int .i64 f.proc :: .int .i64 f.pos::u :: .int .i64 f.to::flatF fs us
 | _,_=>[]
theorem flatF_len:∀(fs:List Fm) (rv:List Value),rv.length=fs.length→(flatF fs rv).length=fs.length*4
 | [],[],_=>rfl
 | f::fs,u::us,h=>by
  have:=flatF_len fs us (by simpa using h)
  simp only[flatF,List.length_cons,this];omega
 | [],_::_,h=>by simp at h
 | _::_,[],h=>by simp at h
theorem flatF_at:∀(fs:List Fm) (rv:List Value),rv.length=fs.length→∀(i:Nat),i<fs.length→∃u,rv[i]?=some u∧(flatF fs rv)[i*4]?=some (.int .i64 (fmAt fs i).proc)∧(flatF fs rv)[i*4+1]?=some (.int .i64 (fmAt fs i).pos)∧(flatF fs rv)[i*4+2]?=some u∧(flatF fs rv)[i*4+3]?=some (.int .i64 (fmAt fs i).to)
 | f::fs,u::us,h,0,_=>⟨u,rfl,rfl,rfl,rfl,rfl⟩
 | f::fs,u::us,h,i+1,hi=>by
  obtain⟨x,h0,h1,h2,h3,h4⟩:=flatF_at fs us (by simpa using h) i (by simpa using hi)
  have e:fmAt (f::fs) (i+1)=fmAt fs i:=rfl
  refine⟨x,by simpa using h0,?_⟩
  rw[e,show (i+1)*4=i*4+1+1+1+1 by omega]
  simp only[flatF,List.getElem?_cons_succ]
  exact⟨h1,h2,h3,h4⟩
 | [],_,_,_,hi=>absurd hi (Nat.not_lt_zero _)
 | _::_,[],h,_,_=>by simp at h
theorem flatF_append:∀(fs:List Fm) (rv:List Value) (f:Fm) (u:Value),rv.length=fs.length→flatF (fs++[f]) (rv++[u])=flatF fs rv++[.int .i64 f.proc,.int .i64 f.pos,u,.int .i64 f.to]
 | [],[],f,u,_=>rfl
 | g::fs,x::us,f,u,h=>by
  simp only[List.cons_append,flatF,flatF_append fs us f u (by simpa using h)]
 | [],_::_,_,_,h=>by simp at h
 | _::_,[],_,_,h=>by simp at h
theorem flatF_regs:∀(fs:List Fm) (rv:List Value) (i:Nat) (L:List (Int×Int)),flatF (fs.set i ⟨(fmAt fs i).proc,(fmAt fs i).pos,L,(fmAt fs i).to⟩) rv=flatF fs rv
 | [],_,_,_=>rfl
 | f::fs,[],0,_=>rfl
 | f::fs,[],i+1,_=>rfl
 | f::fs,u::us,0,L=>rfl
 | f::fs,u::us,i+1,L=>by
  have e:fmAt (f::fs) (i+1)=fmAt fs i:=rfl
  rw[e]
  simp only[List.set_cons_succ,flatF,flatF_regs fs us i L]
theorem flatF_pos:∀(fs:List Fm) (rv:List Value) (i:Nat) (p:Int),flatF (fs.set i ⟨(fmAt fs i).proc,p,(fmAt fs i).regs,(fmAt fs i).to⟩) rv=(flatF fs rv).set (i*4+1) (.int .i64 p)
 | [],_,_,_=>by simp[flatF]
 | f::fs,[],0,_=>by simp[flatF]
 | f::fs,[],i+1,_=>by simp[flatF]
 | f::fs,u::us,0,p=>rfl
 | f::fs,u::us,i+1,p=>by
  have e:fmAt (f::fs) (i+1)=fmAt fs i:=rfl
  rw[e,show (i+1)*4+1=i*4+1+1+1+1+1 by omega]
  simp only[List.set_cons_succ,flatF,flatF_pos fs us i p]
structure Own (B:Nat) (w:World) (fv cv:Value) (rv xv:List Value) (S:Sta):Prop where
 fr:w.ownsRow B 40 4 fv S.fs.length (flatF S.fs rv)
 ce:w.ownsRow B 35 1 cv S.cs.length xv
 rl:rv.length=S.fs.length
 regs:∀i,i<S.fs.length→∃u,rv[i]?=some u∧VRow B w u (fmAt S.fs i).regs
 cells:∀i,i<S.cs.length→∃u,xv[i]?=some u∧VRow B w u (S.cs.getD i [])
 rr:∀(i j:Nat) (u u':Value) (b:Nat),rv[i]?=some u→rv[j]?=some u'→u.ownBlock=some b→u'.ownBlock=some b→i=j
 xx:∀(i j:Nat) (u u':Value) (b:Nat),xv[i]?=some u→xv[j]?=some u'→u.ownBlock=some b→u'.ownBlock=some b→i=j
 rx:∀(i j:Nat) (u u':Value) (b:Nat),rv[i]?=some u→xv[j]?=some u'→u.ownBlock=some b→¬u'.ownBlock=some b
section
variable {B:Nat} {w w':World} {fv cv:Value} {rv xv:List Value} {S:Sta}
theorem Own.xl (h:Own B w fv cv rv xv S):xv.length=S.cs.length:=by have:=h.ce.1;omega
theorem Own.stay (h:Own B w fv cv rv xv S) (hb:∀k,B≤k→k<w.heap.size→w'.heap[k]?=w.heap[k]?):Own B w' fv cv rv xv S:=by
 have go:∀ {e size v n xs},w.ownsRow B e size v n xs→w'.ownsRow B e size v n xs:=fun hr=>ownsRow_block hr fun g hg=>hb g (hr.lt g hg).1 (hr.lt g hg).2
 refine⟨go h.fr,go h.ce,h.rl,fun i hi=>?_,fun i hi=>?_,h.rr,h.xx,h.rx⟩
 ·obtain⟨u,h1,h2⟩:=h.regs i hi;exact⟨u,h1,go h2⟩
 ·obtain⟨u,h1,h2⟩:=h.cells i hi;exact⟨u,h1,go h2⟩
theorem Own.below (h:Own B w fv cv rv xv S) (hb:Below w.heap.size w w'):Own B w' fv cv rv xv S:=h.stay fun k _ hk=>hb.block k hk
theorem Own.at (h:Own B w fv cv rv xv S) (hf:S.fs.length≤100000) (hc:S.cs.length≤100000) (hr:∀i,i<S.fs.length→(fmAt S.fs i).regs.length≤100000) (hx:∀i,i<S.cs.length→(S.cs.getD i []).length≤100000):StaAt w fv cv S:=by
 constructor
 ·rcases h.fr.2 with⟨rfl,h0⟩|⟨g,cap,cur,rfl,r⟩
  ·exact⟨none,0,by rw[h0],by omega,Or.inl h0⟩
  ·refine⟨_,cap,rfl,by omega,Or.inr ⟨g,0,rfl,(h.fr.lt g rfl).2,fun i hi=>?_⟩⟩
   have hl:=flatF_len S.fs rv h.rl
   obtain⟨u,h0,h1,h2,h3,h4⟩:=flatF_at S.fs rv h.rl i hi
   obtain⟨u',k0,k1⟩:=h.regs i hi
   rw[h0]at k0;cases k0
   rw[Nat.zero_add]
   exact⟨u,by rw[h.fr.cellAt (i*4) (by omega)];exact h1,by rw[h.fr.cellAt (i*4+1) (by omega)];exact h2,by rw[h.fr.cellAt (i*4+2) (by omega)];exact h3,by rw[h.fr.cellAt (i*4+3) (by omega)];exact h4,VRow.at k1 (hr i hi)⟩
 ·have hl:=h.xl
  have:=own_cells (us:=xv) (m:=cLen S.cs) (K:=cK S.cs) (Z:=cZ S.cs) (by rw[hl];exact h.ce) (fun i hi=>by
   obtain⟨u,h1,h2⟩:=h.cells i (by omega)
   exact⟨u,h1,VRow.at h2 (hx i (by omega))⟩) (by omega)
  rw[hl]at this
  exact this
theorem Own.setRegs (h:Own B w fv cv rv xv S) {i g n cap:Nat} (hi:i<S.fs.length) (hu:rv[i]?=some (.slice (some ⟨g,0,none⟩) n cap)) (hb:∀k,B≤k→k<w.heap.size→¬k=g→w'.heap[k]?=w.heap[k]?) {L:List (Int×Int)}
  (hr:VRow B w' (.slice (some ⟨g,0,none⟩) n cap) L):Own B w' fv cv rv xv ⟨S.fs.set i ⟨(fmAt S.fs i).proc,(fmAt S.fs i).pos,L,(fmAt S.fs i).to⟩,S.cs,S.st,S.wh⟩:=by
 obtain⟨u0,k0,k1⟩:=h.regs i hi
 rw[hu]at k0;cases k0
 refine⟨?_,?_,by simpa using h.rl,fun j hj=>?_,fun j hj=>?_,h.rr,h.xx,h.rx⟩
 ·show w'.ownsRow B 40 4 fv (S.fs.set i _).length (flatF (S.fs.set i _) rv)
  rw[flatF_regs,List.length_set]
  exact ownsRow_block h.fr fun k hk=>hb k (h.fr.lt k hk).1 (h.fr.lt k hk).2 fun e=>ownsRow_apart h.fr k1 (by decide) hk (by rw[e];rfl)
 ·exact ownsRow_block h.ce fun k hk=>hb k (h.ce.lt k hk).1 (h.ce.lt k hk).2 fun e=>ownsRow_apart h.ce k1 (by decide) hk (by rw[e];rfl)
 ·have hj':j<S.fs.length:=by simpa using hj
  show ∃u,rv[j]?=some u∧VRow B w' u (fmAt (S.fs.set i _) j).regs
  rw[fmAt_set hi]
  by_cases e:j=i
  ·rw[if_pos e,e];exact⟨_,hu,hr⟩
  ·rw[if_neg e]
   obtain⟨u,h1,h2⟩:=h.regs j hj'
   exact⟨u,h1,ownsRow_block h2 fun k hk=>hb k (h2.lt k hk).1 (h2.lt k hk).2 fun e2=>e (h.rr j i u _ k h1 hu hk (by rw[e2];rfl))⟩
 ·obtain⟨u,h1,h2⟩:=h.cells j hj
  exact⟨u,h1,ownsRow_block h2 fun k hk=>hb k (h2.lt k hk).1 (h2.lt k hk).2 fun e2=>h.rx i j _ u k hu h1 (by rw[e2];rfl) hk⟩
theorem Own.setFields (h:Own B w fv cv rv xv S) {i g n cap:Nat} (hi:i<S.cs.length) (hu:xv[i]?=some (.slice (some ⟨g,0,none⟩) n cap)) (hb:∀k,B≤k→k<w.heap.size→¬k=g→w'.heap[k]?=w.heap[k]?) {L:List (Int×Int)}
  (hr:VRow B w' (.slice (some ⟨g,0,none⟩) n cap) L):Own B w' fv cv rv xv ⟨S.fs,S.cs.set i L,S.st,S.wh⟩:=by
 obtain⟨u0,k0,k1⟩:=h.cells i hi
 rw[hu]at k0;cases k0
 refine⟨?_,?_,h.rl,fun j hj=>?_,fun j hj=>?_,h.rr,h.xx,h.rx⟩
 ·exact ownsRow_block h.fr fun k hk=>hb k (h.fr.lt k hk).1 (h.fr.lt k hk).2 fun e=>ownsRow_apart h.fr k1 (by decide) hk (by rw[e];rfl)
 ·show w'.ownsRow B 35 1 cv (S.cs.set i L).length xv
  rw[List.length_set]
  exact ownsRow_block h.ce fun k hk=>hb k (h.ce.lt k hk).1 (h.ce.lt k hk).2 fun e=>ownsRow_apart h.ce k1 (by decide) hk (by rw[e];rfl)
 ·obtain⟨u,h1,h2⟩:=h.regs j hj
  exact⟨u,h1,ownsRow_block h2 fun k hk=>hb k (h2.lt k hk).1 (h2.lt k hk).2 fun e2=>h.rx j i u _ k h1 hu hk (by rw[e2];rfl)⟩
 ·have hj':j<S.cs.length:=by simpa using hj
  show ∃u,xv[j]?=some u∧VRow B w' u ((S.cs.set i L).getD j [])
  rw[getD_set hi]
  by_cases e:j=i
  ·rw[if_pos e,e];exact⟨_,hu,hr⟩
  ·rw[if_neg e]
   obtain⟨u,h1,h2⟩:=h.cells j hj'
   exact⟨u,h1,ownsRow_block h2 fun k hk=>hb k (h2.lt k hk).1 (h2.lt k hk).2 fun e2=>e (h.xx j i u _ k h1 hu hk (by rw[e2];rfl))⟩
theorem Own.setPos {g n cap:Nat} (h:Own B w (.slice (some ⟨g,0,none⟩) n cap) cv rv xv S) {i:Nat} (hi:i<S.fs.length) (p:Int) :
  Own B (w.setCell ⟨g,i*4+1,none⟩ (.int .i64 p)) (.slice (some ⟨g,0,none⟩) n cap) cv rv xv ⟨S.fs.set i ⟨(fmAt S.fs i).proc,p,(fmAt S.fs i).regs,(fmAt S.fs i).to⟩,S.cs,S.st,S.wh⟩:=by
 have hl:=flatF_len S.fs rv h.rl
 have hn:S.fs.length=n:=by
  rcases h.fr.2 with⟨h0,_⟩|⟨_,_,_,hv,_⟩
  ·cases h0
  ·cases hv;rfl
 subst hn
 have hb:∀k,¬k=g→(w.setCell ⟨g,i*4+1,none⟩ (.int .i64 p)).heap[k]?=w.heap[k]?:=fun k hk=>Below.heap_setCell w _ _ k hk
 refine⟨?_,?_,by simpa using h.rl,fun j hj=>?_,fun j hj=>?_,h.rr,h.xx,h.rx⟩
 ·show (w.setCell _ _).ownsRow B 40 4 _ (S.fs.set i _).length (flatF (S.fs.set i _) rv)
  rw[flatF_pos,List.length_set]
  exact ownsRow_set h.fr (i*4+1) (by omega) _
 ·exact ownsRow_block h.ce fun k hk=>hb k fun e=>ownsRow_apart h.ce h.fr (by decide) hk (by rw[e];rfl)
 ·have hj':j<S.fs.length:=by simpa using hj
  obtain⟨u,h1,h2⟩:=h.regs j hj'
  refine⟨u,h1,?_⟩
  show VRow B _ u (fmAt (S.fs.set i _) j).regs
  have e:(fmAt (S.fs.set i ⟨(fmAt S.fs i).proc,p,(fmAt S.fs i).regs,(fmAt S.fs i).to⟩) j).regs=(fmAt S.fs j).regs:=by
   rw[fmAt_set hi]
   split
   ·rename_i e;rw[e]
   ·rfl
  rw[e]
  exact ownsRow_block h2 fun k hk=>hb k fun e=>ownsRow_apart h2 h.fr (by decide) hk (by rw[e];rfl)
 ·obtain⟨u,h1,h2⟩:=h.cells j hj
  exact⟨u,h1,ownsRow_block h2 fun k hk=>hb k fun e=>ownsRow_apart h2 h.fr (by decide) hk (by rw[e];rfl)⟩
theorem Own.pop {g n cap:Nat} (h:Own B w (.slice (some ⟨g,0,none⟩) (n+1) cap) cv rv xv S):Own B w (.slice (some ⟨g,0,none⟩) n cap) cv (rv.take n) xv ⟨S.fs.take n,S.cs,S.st,S.wh⟩:=by
 have hn:S.fs.length=n+1:=by
  rcases h.fr.2 with⟨h0,_⟩|⟨_,_,_,hv,_⟩
  ·cases h0
  ·injection hv with _ h2 _
   exact h2.symm
 have hlen:(S.fs.take n).length=n:=by rw[List.length_take];omega
 have hrl:=h.rl
 have hrn:(rv.take n).length=n:=by rw[List.length_take];omega
 have hget:∀i u,(rv.take n)[i]?=some u→rv[i]?=some u:=fun i u hi=>by
  have:=(List.getElem?_eq_some_iff.1 hi).1
  rw[hrn]at this
  rwa [List.getElem?_take_of_lt this]at hi
 refine⟨?_,h.ce,by rw[hrn];exact hlen.symm,fun i hi=>?_,h.cells,fun i j u u' b hi hj=>h.rr i j u u' b (hget i u hi) (hget j u' hj),h.xx,fun i j u u' b hi hj=>h.rx i j u u' b (hget i u hi) hj⟩
 ·show w.ownsRow B 40 4 _ (S.fs.take n).length (flatF (S.fs.take n) (rv.take n))
  rw[hlen]
  obtain⟨u,hu⟩:∃u,rv[n]?=some u:=⟨_,List.getElem?_eq_getElem (by omega)⟩
  have e1:S.fs.take n++[fmAt S.fs n]=S.fs:=by
   have e3:fmAt S.fs n=S.fs[n]'(by omega):=by unfold fmAt;rw[List.getD_eq_getElem?_getD,List.getElem?_eq_getElem (by omega)];rfl
   rw[e3,List.take_append_getElem,←hn,List.take_length]
  have e2:rv.take n++[u]=rv:=by
   have e3:rv[n]'(by omega)=u:=by rw[List.getElem?_eq_getElem (by omega)]at hu;injection hu
   rw[←e3,List.take_append_getElem,show n+1=rv.length by omega,List.take_length]
  have hfr:=h.fr
  rw[hn]at hfr
  have e4:flatF S.fs rv=flatF (S.fs.take n) (rv.take n)++[.int .i64 (fmAt S.fs n).proc,.int .i64 (fmAt S.fs n).pos,u,.int .i64 (fmAt S.fs n).to]:=by
   rw[←flatF_append _ _ _ _ (by omega),e1,e2]
  rw[e4]at hfr
  exact ownsRow_pop (by rw[flatF_len _ _ (by omega),hlen]) hfr
 ·have hi':i<n:=by rw[←hlen];exact hi
  obtain⟨u,h1,h2⟩:=h.regs i (by omega)
  refine⟨u,by rw[List.getElem?_take_of_lt hi'];exact h1,?_⟩
  show VRow B w u (fmAt (S.fs.take n) i).regs
  rw[fmAt_take hi'];exact h2
theorem Own.push (h:Own B w fv cv rv xv S) {fv' u:Value} {f:Fm} (hf:w'.ownsRow B 40 4 fv' (S.fs.length+1) (flatF S.fs rv++[.int .i64 f.proc,.int .i64 f.pos,u,.int .i64 f.to])) (hu:VRow B w' u f.regs) (hnew:∀g,u.ownBlock=some g→w.heap.size≤g)
  (hb:∀k,B≤k→k<w.heap.size→¬fv.ownBlock=some k→w'.heap[k]?=w.heap[k]?):Own B w' fv' cv (rv++[u]) xv ⟨S.fs++[f],S.cs,S.st,S.wh⟩:=by
 have hrl:=h.rl
 have keep:∀ {e size v n xs},w.ownsRow B e size v n xs→¬e=40→w'.ownsRow B e size v n xs:=fun hr hne=>ownsRow_block hr fun g hg=>hb g (hr.lt g hg).1 (hr.lt g hg).2 (ownsRow_apart hr h.fr hne hg)
 have hold:∀i x,(rv++[u])[i]?=some x→rv[i]?=some x∨(i=rv.length∧x=u):=fun i x hi=>by
  by_cases e:i<rv.length
  ·rw[List.getElem?_append_left e]at hi;exact Or.inl hi
  ·have:i<(rv++[u]).length:=(List.getElem?_eq_some_iff.1 hi).1
   have e2:i=rv.length:=by simp at this;omega
   subst e2
   rw[List.getElem?_append_right (Nat.le_refl _)]at hi
   simp at hi
   exact Or.inr ⟨rfl,hi.symm⟩
 have hlow:∀(i:Nat) (x:Value) (b:Nat),rv[i]?=some x→x.ownBlock=some b→b<w.heap.size:=fun i x b hi hbk=>by
  have hlt:=(List.getElem?_eq_some_iff.1 hi).1
  obtain⟨y,h1,h2⟩:=h.regs i (by omega)
  rw[hi]at h1;cases h1
  exact (h2.lt b hbk).2
 refine⟨?_,keep h.ce (by decide),by simp[hrl],fun i hi=>?_,fun i hi=>?_,fun i j x x' b hi hj hx hx'=>?_,h.xx,fun i j x x' b hi hj hx hx'=>?_⟩
 ·show w'.ownsRow B 40 4 fv' (S.fs++[f]).length (flatF (S.fs++[f]) (rv++[u]))
  rw[flatF_append _ _ _ _ hrl,List.length_append];exact hf
 ·have hi':i<S.fs.length+1:=by simpa using hi
  show ∃x,(rv++[u])[i]?=some x∧VRow B w' x (fmAt (S.fs++[f]) i).regs
  by_cases e:i<S.fs.length
  ·rw[fmAt_lt e,List.getElem?_append_left (by omega)]
   obtain⟨x,h1,h2⟩:=h.regs i e
   exact⟨x,h1,keep h2 (by decide)⟩
  ·obtain rfl:i=S.fs.length:=by omega
   rw[fmAt_end]
   exact⟨u,by rw[←hrl,List.getElem?_append_right (Nat.le_refl _)];simp,hu⟩
 ·obtain⟨x,h1,h2⟩:=h.cells i hi
  exact⟨x,h1,keep h2 (by decide)⟩
 ·rcases hold i x hi with k1|⟨e1,k1⟩<;>rcases hold j x' hj with k2|⟨e2,k2⟩
  ·exact h.rr i j x x' b k1 k2 hx hx'
  ·have:=hlow i x b k1 hx;have:=hnew b (k2 ▸ hx');omega
  ·have:=hlow j x' b k2 hx';have:=hnew b (k1 ▸ hx);omega
  ·omega
 ·rcases hold i x hi with hi|⟨_,rfl⟩
  ·exact h.rx i j x x' b hi hj hx hx'
  ·have hlt:=(List.getElem?_eq_some_iff.1 hj).1
   obtain⟨y,h1,h2⟩:=h.cells j (by have:=h.xl;omega)
   rw[hj]at h1;cases h1
   have:=(h2.lt b hx').2
   have:=hnew b hx
   omega
theorem Own.pushCell (h:Own B w fv cv rv xv S) {cv' u:Value} {L:List (Int×Int)} (hc:w'.ownsRow B 35 1 cv' (S.cs.length+1) (xv++[u])) (hu:VRow B w' u L) (hnew:∀g,u.ownBlock=some g→w.heap.size≤g)
  (hb:∀k,B≤k→k<w.heap.size→¬cv.ownBlock=some k→w'.heap[k]?=w.heap[k]?):Own B w' fv cv' rv (xv++[u]) ⟨S.fs,S.cs++[L],S.st,S.wh⟩:=by
 have hxl:=h.xl
 have keep:∀ {e size v n xs},w.ownsRow B e size v n xs→¬e=35→w'.ownsRow B e size v n xs:=fun hr hne=>ownsRow_block hr fun g hg=>hb g (hr.lt g hg).1 (hr.lt g hg).2 (ownsRow_apart hr h.ce hne hg)
 have hold:∀i x,(xv++[u])[i]?=some x→xv[i]?=some x∨(i=xv.length∧x=u):=fun i x hi=>by
  by_cases e:i<xv.length
  ·rw[List.getElem?_append_left e]at hi;exact Or.inl hi
  ·have:i<(xv++[u]).length:=(List.getElem?_eq_some_iff.1 hi).1
   have e2:i=xv.length:=by simp at this;omega
   subst e2
   rw[List.getElem?_append_right (Nat.le_refl _)]at hi
   simp at hi
   exact Or.inr ⟨rfl,hi.symm⟩
 have hlow:∀(i:Nat) (x:Value) (b:Nat),xv[i]?=some x→x.ownBlock=some b→b<w.heap.size:=fun i x b hi hbk=>by
  have hlt:=(List.getElem?_eq_some_iff.1 hi).1
  obtain⟨y,h1,h2⟩:=h.cells i (by omega)
  rw[hi]at h1;cases h1
  exact (h2.lt b hbk).2
 refine⟨keep h.fr (by decide),?_,h.rl,fun i hi=>?_,fun i hi=>?_,h.rr,fun i j x x' b hi hj hx hx'=>?_,fun i j x x' b hi hj hx hx'=>?_⟩
 ·show w'.ownsRow B 35 1 cv' (S.cs++[L]).length (xv++[u])
  rw[List.length_append];exact hc
 ·obtain⟨x,h1,h2⟩:=h.regs i hi
  exact⟨x,h1,keep h2 (by decide)⟩
 ·have hi':i<S.cs.length+1:=by simpa using hi
  show ∃x,(xv++[u])[i]?=some x∧VRow B w' x ((S.cs++[L]).getD i [])
  by_cases e:i<S.cs.length
  ·rw[List.getD_eq_getElem?_getD,List.getElem?_append_left e,←List.getD_eq_getElem?_getD,List.getElem?_append_left (by omega)]
   obtain⟨x,h1,h2⟩:=h.cells i e
   exact⟨x,h1,keep h2 (by decide)⟩
  ·obtain rfl:i=S.cs.length:=by omega
   refine⟨u,by rw[←hxl,List.getElem?_append_right (Nat.le_refl _)];simp,?_⟩
   rw[List.getD_eq_getElem?_getD,List.getElem?_append_right (Nat.le_refl _)]
   simpa using hu
 ·rcases hold i x hi with k1|⟨e1,k1⟩<;>rcases hold j x' hj with k2|⟨e2,k2⟩
  ·exact h.xx i j x x' b k1 k2 hx hx'
  ·have:=hlow i x b k1 hx;have:=hnew b (k2 ▸ hx');omega
  ·have:=hlow j x' b k2 hx';have:=hnew b (k1 ▸ hx);omega
  ·omega
 ·rcases hold j x' hj with hj|⟨_,rfl⟩
  ·exact h.rx i j x x' b hi hj hx hx'
  ·have hlt:=(List.getElem?_eq_some_iff.1 hi).1
   obtain⟨y,h1,h2⟩:=h.regs i (by have:=h.rl;omega)
   rw[hi]at h1;cases h1
   have:=(h2.lt b hx).2
   have:=hnew b hx'
   omega
end
end Go.Proofs.YtfaokaohhchdhaaGreatDoor
