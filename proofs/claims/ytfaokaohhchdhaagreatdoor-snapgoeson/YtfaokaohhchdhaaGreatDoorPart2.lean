/- The closure of Reach: each cell that a row of values leads to and that isn't there yet goes into the set and to the end of the list. -/
import Derived.Test.YtfaokaohhchdhaaGreatDoorPart1
namespace Go.Proofs.YtfaokaohhchdhaaGreatDoor
section
open Go.RowKit Go.Maps
def setD (R:List Int):DataW Unit:=setOf (.agg []) (R.map (Lit.int .i64))
theorem setD_nil:setD []=.map []:=rfl
theorem setD_snoc (R:List Int) (x:Int):setD (R++[x])=(setD R).put (.int .i64 x) (.agg []):=by
 unfold setD;rw[List.map_append];exact setOf_snoc _ _ _
theorem any_int (x:Int):∀l:List Int,l.any ((fun y:Lit=>y.sameKey (.int .i64 x)) ∘ Lit.int .i64)=l.contains x
 | []=>rfl
 | a::r=>by
  rw[List.any_cons,List.contains_cons,any_int x r]
  congr 1
  show decide (IntKind.i64=IntKind.i64∧a=x)=(x == a)
  by_cases e:a=x
  ·subst e;simp
  ·have e':¬x=a:=fun h=>e h.symm
   simp[e,e']
theorem has_setD (R:List Int) (x:Int):Maps.has (setD R) (.int .i64 x)=R.contains x:=by
 unfold setD
 rw[has_setOf _ _ _ (fun y hy=>by obtain⟨_,_,rfl⟩:=List.mem_map.1 hy;trivial),List.any_map]
 exact any_int x _
theorem law3v:Keyed Tryz.prog 3:=int_keyed Tryz.underlying3
theorem zeroU (w:World):(zeroValue 155).run Tryz.prog w=.ok (.agg #[]) w:=by kernel_rfl
theorem info3v:(Tryz.prog.info? 3).map (fun i=>(i.zero,i.size,i.bytes))=some (some (.int .i64 0),1,8):=by kernel_rfl
structure RSt (w:World) (rb mb sb base:Nat) (R:List Int):Prop where
 lr:rb<base
 lm:mb<base
 ls:sb<base
 nrm:rb ≠ mb
 nsr:sb ≠ rb
 nsm:sb ≠ mb
 size:base≤w.heap.size
 list:∃v,w.cell? ⟨rb,0,none⟩=some v∧w.ownsRow base 3 1 v R.length (R.map (Value.int .i64))
 free:w.frozen? ⟨rb,0,none⟩=false
 name:w.cell? ⟨mb,0,none⟩=some (.map (some sb))
 set:w.ownsMap Tryz.prog 3 (unitElem (H:=Unit)) sb R.length (setD R)
theorem RSt.alloc {w:World} {rb mb sb base:Nat} {R:List Int} (h:RSt w rb mb sb base R) (o:Obj):RSt (w.alloc o) rb mb sb base R:=by
 have hb:=below_alloc w o
 have hs:=h.size
 obtain⟨v,hv,hrow⟩:=h.list
 exact⟨h.lr,h.lm,h.ls,h.nrm,h.nsr,h.nsm,Nat.le_trans hs hb.size,⟨v,(hb.cell (p:=⟨rb,0,none⟩) (Nat.lt_of_lt_of_le h.lr hs)).trans hv,hrow.alloc o⟩,
  (hb.frozen (p:=⟨rb,0,none⟩) (Nat.lt_of_lt_of_le h.lr hs)).trans h.free,(hb.cell (p:=⟨mb,0,none⟩) (Nat.lt_of_lt_of_le h.lm hs)).trans h.name,h.set.alloc o⟩
theorem RSt.put {w w1:World} {rb mb sb base:Nat} {R:List Int} {v:Value} (h:RSt w rb mb sb base R) (hv:w.cell? ⟨rb,0,none⟩=some v) (hrow:w.ownsRow base 3 1 v R.length (R.map (Value.int .i64)))
  (hg:w.grownBy w1 (some sb)):w1.cell? ⟨rb,0,none⟩=some v∧w1.frozen? ⟨rb,0,none⟩=false∧w1.cell? ⟨mb,0,none⟩=some (.map (some sb))∧w1.ownsRow base 3 1 v R.length (R.map (Value.int .i64))∧base≤w1.heap.size:=by
 have hs:=h.size
 have hr:=hg.block rb (Nat.lt_of_lt_of_le h.lr hs) (fun e=>h.nsr (Option.some.inj e).symm)
 have hm:=hg.block mb (Nat.lt_of_lt_of_le h.lm hs) (fun e=>h.nsm (Option.some.inj e).symm)
 refine⟨(World.cell?_of_block (w:=w) (a:=⟨rb,0,none⟩) hr).trans hv,(World.frozen?_of_block (w:=w) (a:=⟨rb,0,none⟩) hr).trans h.free,(World.cell?_of_block (w:=w) (a:=⟨mb,0,none⟩) hm).trans h.name,
  hrow.kept hg (Or.inr fun e=>?_),Nat.le_trans hs hg.size⟩
 have:=(hrow.lt sb e).1
 have:=h.ls
 omega
theorem RSt.add {w w1 w2:World} {rb mb sb base:Nat} {R:List Int} {v v':Value} {x:Int} {o:Obj} (h:RSt w rb mb sb base R) (hv:w.cell? ⟨rb,0,none⟩=some v) (hrow:w.ownsRow base 3 1 v R.length (R.map (Value.int .i64)))
  (hg:w.grownBy w1 (some sb)) (hset:w1.ownsMap Tryz.prog 3 (unitElem (H:=Unit)) sb (R.length+1) ((setD R).put (.int .i64 x) (.agg [])))
  (hg2:(w1.alloc o).grownBy w2 v.ownBlock) (hrow2:w2.ownsRow base 3 1 v' (R.length+1) (R.map (Value.int .i64)++[.int .i64 x])) :
  w2.cell? ⟨rb,0,none⟩=some v∧w2.frozen? ⟨rb,0,none⟩=false∧RSt (w2.setCell ⟨rb,0,none⟩ v') rb mb sb base (R++[x]):=by
 obtain⟨c1,f1,m1,r1,s1⟩:=h.put hv hrow hg
 have low:∀b,b<base→w2.heap[b]?=w1.heap[b]?:=fun b hb=>by
  have e1:=hg2.block b (by simp;omega) (fun e=>by have:=(r1.lt b e.symm).1;omega)
  exact e1.trans (Below.heap_alloc w1 o b (by omega))
 have cr:w2.cell? ⟨rb,0,none⟩=some v:=(World.cell?_of_block (w:=w1) (a:=⟨rb,0,none⟩) (low rb h.lr)).trans c1
 have fr:w2.frozen? ⟨rb,0,none⟩=false:=(World.frozen?_of_block (w:=w1) (a:=⟨rb,0,none⟩) (low rb h.lr)).trans f1
 refine⟨cr,fr,⟨h.lr,h.lm,h.ls,h.nrm,h.nsr,h.nsm,?_,⟨v',World.cell?_setCell_same _ _ _ cr,?_⟩,?_,?_,?_⟩⟩
 ·have:=hg2.size
  simp[World.setCell]at this ⊢
  omega
 ·have:=ownsRow_setCell_below hrow2 (a:=⟨rb,0,none⟩) h.lr v'
  simpa using this
 ·rw[World.frozen?_setCell];exact fr
 ·rw[World.cell?_setCell_other _ _ _ _ (fun e=>h.nrm (congrArg Addr.block e))]
  exact (World.cell?_of_block (w:=w1) (a:=⟨mb,0,none⟩) (low mb h.lm)).trans m1
 ·rw[setD_snoc]
  have hk:w2.ownsMap Tryz.prog 3 (unitElem (H:=Unit)) sb (R.length+1) ((setD R).put (.int .i64 x) (.agg [])):=(hset.alloc o).kept hg2 (fun e=>by have:=(r1.lt sb e.symm).1;have:=h.ls;omega)
  have:=hk.setCell (a:=⟨rb,0,none⟩) h.nsr v'
  simpa using this
theorem wf_small {x:Int} (h0:0≤x) (h1:x≤1000):(Lit.int .i64 x).wf=true:=WalkArith.wf_i64 (by omega)
theorem append_intv {ops:Array Oper} {rest:List Oper} {o:Oper} {a:Act} {Q:Exit→Act→World→Prop} (w:World) (hgd:o.guard=none) (s y:Operand)
  (ho:o.op=.call { callee:=.builtin .append,args:=#[s,y],argTypes:=#[30,30] }) (base:Nat) (v:Value) (R:List Int) (hs:a.eval s=v) (hown:w.ownsRow base 3 1 v R.length (R.map (Value.int .i64)))
  (x:Int) (t:TypeId) (B:Nat) (hB:w.heap.size=B) (hy:a.eval y=.slice (some ⟨B,0,none⟩) 1 1) (hR:R.length≤100000) (hbase:base≤w.heap.size)
  (h:∀ad cap w2,w2.ownsRow base 3 1 (.slice ad (R.length+1) cap) (R.length+1) (R.map (Value.int .i64)++[.int .i64 x])→(w.alloc (.cells #[.int .i64 x] t)).grownBy w2 v.ownBlock→wpList Tryz.prog ops Q rest (a.put o.dst (.slice ad (R.length+1) cap)) w2) :
  wpList Tryz.prog ops Q (o::rest) a (w.alloc (.cells #[.int .i64 x] t)):=by
 subst hB
 obtain⟨i0,hi,hz0,hz1,hz2⟩:=info_parts info3v
 refine wpList_append_own _ hgd s y 30 ho base 3 i0 (.int .i64 0) 1 8 Tryz.underlying30 hi hz0 hz1 hz2 rfl (by decide) v _ _ hs (hown.alloc _) ⟨w.heap.size,0,none⟩ 1 1 [.int .i64 x] hy rfl (cell_one_new _ _ _) (ints_oneCell .i64 [x]) (by unfold maxLen;omega) (by omega) (by simp;omega) ?_
 intro v' w2 h1 h2 _
 obtain⟨ad,cap,rfl⟩:=own_shape h1
 exact h ad cap w2 h1 h2
theorem boxv_kept {wr w1:World} {sb:Nat} {c0 c1:Value} {t t':TypeId} (hg:((wr.alloc (.cells #[c0,c1] t)).alloc (.cells #[] t')).grownBy w1 (some sb)) (hs:sb<wr.heap.size) :
  w1.cell? ⟨wr.heap.size,1,none⟩=some c1:=by
 have e:=hg.block wr.heap.size (by simp;omega) (fun e=>by have:=Option.some.inj e;omega)
 refine (World.cell?_of_block (w:=(wr.alloc (.cells #[c0,c1] t)).alloc (.cells #[] t')) (a:=⟨wr.heap.size,1,none⟩) e).trans ?_
 rw[World.cell?_alloc_lt _ _ _ (by simp),World.cell?_alloc_new]
 rfl
set_option maxHeartbeats 1000000 in
theorem cMeetV (v:Value) (n:Nat) (k z:Nat→Int) (w0 w:World) (rb mb sb base:Nat) (R:List Int) (h:ValsAt w0 v n k z) (hb0:Below w0.heap.size w0 w) (hst:RSt w rb mb sb base R)
  (l1:w0.heap.size≤rb) (l2:w0.heap.size≤sb) (hlen:R.length+n≤1000) (hz:∀i,i<n→k i=2→0≤z i∧z i≤1000) :
  Calls Tryz.prog 108 #[v,.pointer (some ⟨mb,0,none⟩),.pointer (some ⟨rb,0,none⟩)] w fun e w'=>e=.returned (.tuple #[])∧RSt w' rb mb sb base (meetTo n k z R)∧Below w0.heap.size w0 w':=by
 obtain⟨a,cap,rfl,hn,h⟩:=h
 go_enter Tryz.func108,Tryz.ntmps108
 go_wp2
 go_loopw [10] (fun i wr=>∃j:Nat,j≤n∧i=.int .i64 j∧RSt wr rb mb sb base (meetTo j k z R)∧Below w0.heap.size w0 wr) (fun i _=>n - (intOf i).toNat)
 case atStart=>exact⟨0,Nat.zero_le _,rfl,hst,hb0⟩
 case round =>
  clear hst hb0
  obtain⟨j,hj,rfl,hst,hb⟩:=hrel
  by_cases hlt:j<n
  ·rcases h with h|⟨p,o,rfl,hp,g⟩
   ·omega
   obtain⟨q0,q1⟩:=g j hlt
   rw[←hb.cell hp]at q0 q1
   clear g
   have hl:=meetTo_len j k z R
   have HS:Hid (meetTo (j+1) k z R=meet1 (meetTo j k z R) (k j) (z j)):=rfl
   have hzj:=hz j hlt
   generalize meetTo j k z R=R1 at *
   generalize k j=kj at *
   generalize z j=zj at *
   have hsz:=hb.size
   have hbs:=hst.size
   by_cases hk:kj=2
   ·subst hk
    obtain⟨z0,z1⟩:=hzj rfl
    have hkey:keyOf Tryz.prog 3 (.int .i64 zj)=some (.int .i64 zj):=keyOf_int_mk Tryz.underlying3 (wf_small z0 z1)
    obtain⟨u,hu,hrow⟩:=hst.list
    have hnm:=hst.name
    have hfr:=hst.free
    have hmap:=hst.set
    have hmb:mb<wr.heap.size:=Nat.lt_of_lt_of_le hst.lm hbs
    have hrb:rb<wr.heap.size:=Nat.lt_of_lt_of_le hst.lr hbs
    have hsb:sb<wr.heap.size:=Nat.lt_of_lt_of_le hst.ls hbs
    by_cases hin:zj ∈ R1
    ·have hht:Maps.has (setD R1) (.int .i64 zj)=true:=by rw[has_setD];simpa using hin
     have HE:Hid (meet1 R1 2 zj=R1):=meet1_old hin
     have HT:Hid (RSt wr rb mb sb base R1):=hst
     clear hin hst hrow hfr hu
     go_wp2_with (at_lookup;refine wpList_lookup_own_unit _ rfl _ _ 154 rfl 3 155 law3v Tryz.underlying154 (zeroU _) sb _ _ rfl (hmap.alloc _) _ _ rfl hkey ?_)
     go_roundw
     case rel=>exact⟨j+1,by omega,by go_num,by rw[HS.out,HE.out];exact (HT.out.alloc _).alloc _,(hb.alloc hsz _).alloc (by simp;omega) _⟩
     case measure=>simp[intOf];omega
    ·have hht:Maps.has (setD R1) (.int .i64 zj)=false:=by rw[has_setD];simpa using hin
     have HE:Hid (meet1 R1 2 zj=R1++[zj]):=meet1_new rfl hin
     have HT:Hid (RSt wr rb mb sb base R1):=hst
     clear hin hst
     go_wp2_with (first
      | (at_lookup;refine wpList_lookup_own_unit _ rfl _ _ 154 rfl 3 155 law3v Tryz.underlying154 (zeroU _) sb _ _ rfl (hmap.alloc _) _ _ rfl hkey ?_)
      | (at_mapUpdate;refine wpList_mapUpdate_own _ rfl _ _ _ 154 rfl 3 155 law3v Tryz.underlying154 (unitElem (H:=Unit)) sb _ _ rfl ((hmap.alloc _).alloc _) (by unfold maxLen;omega) _ _ _ rfl rfl hkey _ [] unitElem_mk ?_;intro w1 hown1 hgrow1;obtain⟨c1,f1,m1,r1,s1⟩:=((HT.out.alloc _).alloc _).put (v:=u) (by go_simp) ((hrow.alloc _).alloc _) hgrow1;have c5:=boxv_kept hgrow1 hsb)
      | (at_builtin;refine append_intv _ rfl _ _ rfl base _ R1 rfl r1 zj _ _ rfl rfl (by omega) s1 ?_;intro ad cp w2 hown2 hgrow2;obtain⟨c2,f2,HT2⟩:=((HT.out.alloc _).alloc _).add (v:=u) (by go_simp) ((hrow.alloc _).alloc _) hgrow1 hown1 hgrow2 hown2))
     go_roundw
     case rel =>
      have b2:=((hb.alloc hsz _).alloc (by simp;omega) _).grown hgrow1 (by simp;omega) (fun k hk=>by cases hk;exact l2)
      have b3:=(b2.alloc b2.size _).grown hgrow2 (Nat.le_trans b2.size (by simp)) (fun k hk=>Nat.le_trans (Nat.le_trans l1 (Nat.le_of_lt HT.out.lr)) (r1.lt k hk).1)
      exact⟨j+1,by omega,by go_num,by rw[HS.out,HE.out];exact HT2,b3.setCell l1 _⟩
     case measure=>simp[intOf];omega
   ·have hkt:(kj != 2)=true:=by simp[hk]
    have HE:Hid (meet1 R1 kj zj=R1):=meet1_no hk
    clear hk
    go_wp2
    go_roundw
    case rel=>exact⟨j+1,by omega,by go_num,by rw[HS.out,HE.out];exact hst.alloc _,hb.alloc hsz _⟩
    case measure=>simp[intOf];omega
  ·go_wp2
   go_end0
   obtain rfl:j=n:=by omega
   exact⟨rfl,hst,hb⟩
end
section
def stepR (m:Nat→Nat) (K Z:Nat→Nat→Int) (t:Nat) (R:List Int):List Int :=
 meetTo (m (R.getD t 0).toNat) (K (R.getD t 0).toNat) (Z (R.getD t 0).toNat) R
def rt (m:Nat→Nat) (K Z:Nat→Nat→Int) (f:Nat) (kf zf:Nat→Int):Nat→List Int
 | 0=>meetTo f kf zf []
 | t+1=>if t<(rt m K Z f kf zf t).length then stepR m K Z t (rt m K Z f kf zf t) else rt m K Z f kf zf t
theorem meet1_more (R:List Int) (k z:Int):R.length≤(meet1 R k z).length:=by
 unfold meet1;split
 ·simp
 ·exact Nat.le_refl _
theorem meetTo_more:∀(i:Nat) (k z:Nat→Int) (R:List Int),R.length≤(meetTo i k z R).length
 | 0,_,_,_=>Nat.le_refl _
 | i+1,k,z,R=>Nat.le_trans (meetTo_more i k z R) (meet1_more _ _ _)
def Good (n:Nat) (R:List Int):Prop:=R.Nodup∧∀x,x ∈ R→0≤x∧x<n
theorem good_nil (n:Nat):Good n []:=⟨List.nodup_nil,fun _ h=>absurd h List.not_mem_nil⟩
theorem meet1_good {n:Nat} {R:List Int} {k z:Int} (h:Good n R) (hz:k=2→0≤z∧z<n):Good n (meet1 R k z):=by
 unfold meet1
 split
 ·rename_i e
  refine⟨List.nodup_append.2 ⟨h.1,by simp,fun a ha b hb e1=>?_⟩,fun x hx=>?_⟩
  ·simp at hb;subst hb;subst e1;exact e.2 ha
  ·rcases List.mem_append.1 hx with hx|hx
   ·exact h.2 x hx
   ·simp at hx;subst hx;exact hz e.1
 ·exact h
theorem meetTo_good {n:Nat} {k z:Nat→Int} {R:List Int} (h:Good n R):∀ {i:Nat},(∀j,j<i→k j=2→0≤z j∧z j<n)→Good n (meetTo i k z R)
 | 0,_=>h
 | i+1,hz=>meet1_good (meetTo_good h fun j hj=>hz j (by omega)) (hz i (by omega))
theorem nodup_len:∀(n:Nat) (R:List Int),R.Nodup→(∀x,x ∈ R→0≤x∧x<n)→R.length≤n
 | 0,R,_,h=>by
  cases R with
  | nil=>simp
  | cons a r=>have:=h a (by simp);omega
 | n+1,R,hn,h=>by
  by_cases hm:(n:Int) ∈ R
  ·have h1:=nodup_len n (R.erase n) (hn.erase _) (fun x hx=>by
    have h2:=h x (List.mem_of_mem_erase hx)
    have h3:x ≠ n:=fun e=>by subst e;exact (List.Nodup.not_mem_erase hn) hx
    omega)
   rw[List.length_erase_of_mem hm]at h1
   omega
  ·have:=nodup_len n R hn (fun x hx=>by
    have h2:=h x hx
    have h3:x ≠ n:=fun e=>hm (e ▸ hx)
    omega)
   omega
theorem Good.len {n:Nat} {R:List Int} (h:Good n R):R.length≤n:=nodup_len n R h.1 h.2
structure Valid (n:Nat) (m:Nat→Nat) (K Z:Nat→Nat→Int) (f:Nat) (kf zf:Nat→Int):Prop where
 few:n≤24
 least:∀i,i<n→1≤m i
 most:∀i,i<n→m i≤4
 fields:∀i,i<n→∀j,j<m i→chk (K i j) (Z i j) n=0
 short:f≤400
 vals:∀j,j<f→chk (kf j) (zf j) n=0
theorem chk_ref {z c:Int} (h:chk 2 z c=0):0≤z∧z<c:=by
 unfold chk at h
 simp at h
 omega
theorem allErr_zero {n:Nat} {m:Nat→Nat} {K Z:Nat→Nat→Int}:allErr n m K Z=0 ↔ n≤24∧∀i,i<n→1≤m i∧m i≤4∧∀j,j<m i→chk (K i j) (Z i j) n=0:=by
 constructor
 ·intro h
  unfold allErr at h
  by_cases hn:24<n
  ·rw[if_pos hn]at h;cases h
  ·rw[if_neg hn]at h
   refine⟨by omega,fun i hi=>?_⟩
   have h1:=firstErr_is_zero h i hi
   unfold cellErr at h1
   by_cases hm:m i<1∨4<m i
   ·rw[if_pos hm]at h1;cases h1
   ·rw[if_neg hm]at h1
    exact⟨by omega,by omega,firstErr_is_zero h1⟩
 ·rintro⟨hn,h⟩
  unfold allErr
  rw[if_neg (by omega)]
  refine firstErr_zero fun i hi=>?_
  obtain⟨h1,h4,hf⟩:=h i hi
  unfold cellErr
  rw[if_neg (by omega)]
  exact firstErr_zero hf
theorem reachErr_zero {n:Nat} {m:Nat→Nat} {K Z:Nat→Nat→Int} {f:Nat} {kf zf:Nat→Int}:reachErr n m K Z f kf zf=0 ↔ Valid n m K Z f kf zf:=by
 constructor
 ·intro h
  unfold reachErr at h
  by_cases ha:allErr n m K Z=0
  ·rw[if_pos ha]at h
   obtain⟨hn,hc⟩:=allErr_zero.1 ha
   by_cases hf:400<f
   ·rw[if_pos hf]at h;cases h
   ·rw[if_neg hf]at h
    exact⟨hn,fun i hi=>(hc i hi).1,fun i hi=>(hc i hi).2.1,fun i hi=>(hc i hi).2.2,by omega,firstErr_is_zero h⟩
  ·rw[if_neg ha]at h;exact absurd h ha
 ·intro h
  unfold reachErr
  rw[if_pos (allErr_zero.2 ⟨h.few,fun i hi=>⟨h.least i hi,h.most i hi,h.fields i hi⟩⟩),if_neg (by have:=h.short;omega)]
  exact firstErr_zero h.vals
section
variable {n:Nat} {m:Nat→Nat} {K Z:Nat→Nat→Int} {f:Nat} {kf zf:Nat→Int}
theorem Valid.from (h:Valid n m K Z f kf zf) (j:Nat) (hj:j<f) (hk:kf j=2):0≤zf j∧zf j<n:=by
 have:=h.vals j hj;rw[hk]at this;exact chk_ref this
theorem Valid.field (h:Valid n m K Z f kf zf) (i:Nat) (hi:i<n) (j:Nat) (hj:j<m i) (hk:K i j=2):0≤Z i j∧Z i j<n:=by
 have:=h.fields i hi j hj;rw[hk]at this;exact chk_ref this
theorem Good.at {R:List Int} (h:Good n R) {t:Nat} (ht:t<R.length):∃c:Nat,c<n∧R.getD t 0=c:=by
 have hm:R.getD t 0 ∈ R:=by
  rw[List.getD_eq_getElem?_getD,List.getElem?_eq_getElem ht];exact List.getElem_mem ht
 have:=h.2 _ hm
 exact⟨(R.getD t 0).toNat,by omega,by omega⟩
theorem stepR_good (hv:Valid n m K Z f kf zf) {R:List Int} (h:Good n R) {t:Nat} (ht:t<R.length):Good n (stepR m K Z t R):=by
 obtain⟨c,hc,e⟩:=h.at ht
 unfold stepR
 rw[e]
 exact meetTo_good h fun j hj hk=>hv.field c hc j hj hk
theorem rt_good (hv:Valid n m K Z f kf zf):∀t,Good n (rt m K Z f kf zf t)
 | 0=>meetTo_good (good_nil n) hv.from
 | t+1=>by
  unfold rt
  split
  ·rename_i h;exact stepR_good hv (rt_good hv t) h
  ·exact rt_good hv t
theorem rt_next {t:Nat} (h:t<(rt m K Z f kf zf t).length):rt m K Z f kf zf (t+1)=stepR m K Z t (rt m K Z f kf zf t):=by
 show (if _ then _ else _)=_
 exact if_pos h
theorem rt_stays {t:Nat} (h:¬t<(rt m K Z f kf zf t).length):∀d,rt m K Z f kf zf (t+d)=rt m K Z f kf zf t
 | 0=>rfl
 | d+1=>by
  have ih:=rt_stays h d
  have e:rt m K Z f kf zf (t+d+1)=rt m K Z f kf zf (t+d):=if_neg (by rw[ih];omega)
  exact e.trans ih
def reached (n:Nat) (m:Nat→Nat) (K Z:Nat→Nat→Int) (f:Nat) (kf zf:Nat→Int):List Int:=rt m K Z f kf zf n
theorem rt_done {t:Nat} (ht:t≤n) (h:¬t<(rt m K Z f kf zf t).length):reached n m K Z f kf zf=rt m K Z f kf zf t:=by
 have:=rt_stays h (n - t)
 rw[show t+(n - t)=n by omega]at this
 exact this
end
end
section
open Go.RowKit Go.Maps
theorem rst_start (w:World):RSt (((w.alloc (.cells #[.slice none 0 0] 30)).alloc (.map #[] 0)).alloc (.cells #[.map (some (w.heap.size+1))] 154)) w.heap.size (w.heap.size+1+1) (w.heap.size+1) (w.heap.size+3) []:=by
 refine⟨by omega,by omega,by omega,by omega,by omega,by omega,by simp,⟨.slice none 0 0,?_,World.ownsRow_nil _ _ _ _⟩,?_,?_,?_⟩
 ·rw[World.cell?_alloc_lt _ _ _ (by simp;omega),World.cell?_alloc_lt _ _ _ (by simp),World.cell?_alloc_new];rfl
 ·rw[(below_alloc _ _).frozen (by simp;omega),(below_alloc _ _).frozen (by simp)]
  exact World.frozen?_alloc_new _ _ _ _
 ·have:=World.cell?_alloc_new ((w.alloc (.cells #[.slice none 0 0] 30)).alloc (.map #[] 0)) #[.map (some (w.heap.size+1))] 154 0
  simpa using this
 ·have h1:=World.ownsMap_made (w.alloc (.cells #[.slice none 0 0] 30)) Tryz.prog 3 (unitElem (H:=Unit))
  have h2:=h1.alloc (.cells #[.map (some (w.heap.size+1))] 154)
  rw[setD_nil]
  simpa using h2
theorem own_intsv {w:World} {base:Nat} {v:Value} {R:List Int} (h:w.ownsRow base 3 1 v R.length (R.map (Value.int .i64))):IntsAt w v R.length (fun i=>R.getD i 0):=by
 rcases h.2 with⟨rfl,h0⟩|⟨g,cap,cur,rfl,r⟩
 ·rw[h0];exact⟨none,0,rfl,Or.inl rfl⟩
 ·refine⟨_,cap,rfl,Or.inr ⟨g,0,rfl,(h.lt g rfl).2,fun i hi=>?_⟩⟩
  rw[Nat.zero_add,h.cellAt i (by omega)]
  simp[List.getElem?_eq_getElem hi]
set_option maxHeartbeats 1000000 in
theorem reach_ok (v u:Value) (n:Nat) (m:Nat→Nat) (K Z:Nat→Nat→Int) (f:Nat) (kf zf:Nat→Int) (w:World) (h:CellsAt w v n m K Z) (hu:ValsAt w u f kf zf)
  (hv:Valid n m K Z f kf zf) :
  Calls Tryz.prog 64 #[v,u] w fun e w'=>∃s,e=.returned (.tuple #[s,.int .i64 0])∧IntsAt w' s (reached n m K Z f kf zf).length (fun i=>(reached n m K Z f kf zf).getD i 0)∧Below w.heap.size w w':=by
 have hmm:=@run_makeMap Tryz.prog
 have het:(reachErr n m K Z f kf zf != 0)=false:=by simp[reachErr_zero.2 hv]
 have HV:Hid (Valid n m K Z f kf zf):=hv
 have hn24:=hv.few
 have hf400:=hv.short
 clear hv
 have h':=h
 obtain⟨a,cap,rfl,hn,hc⟩:=h'
 go_enter Tryz.func64,Tryz.ntmps64
 go_wp2_with (first
  | (go_at_call 107;refine (cCheckReach _ _ _ _ _ _ _ _ _ _ h hu).mono ?_;rintro e w1 ⟨rfl,hb1⟩)
  | (go_at_call 108;refine (cMeetV _ f kf zf w _ _ _ (w1.heap.size+1) (w1.heap.size+3) [] hu (((hb1.alloc hb1.size _).alloc (by have:=hb1.size;simp;omega) _).alloc (by have:=hb1.size;simp;omega) _) (rst_start w1) hb1.size (Nat.le_succ_of_le hb1.size) (by simp;omega) (fun i hi hk=>by have:=HV.out.from i hi hk;omega)).mono ?_;rintro e w2 ⟨rfl,hst,hb2⟩))
 clear hmm
 have HW1:Hid (w.heap.size≤w1.heap.size):=hb1.size
 clear hb1
 generalize w1.heap.size=N at *
 go_loopw [10] (fun i wr=>∃j:Nat,j≤n∧i=.int .i64 j∧RSt wr N (N+1+1) (N+1) (N+3) (rt m K Z f kf zf j)∧Below w.heap.size w wr∧j≤(rt m K Z f kf zf j).length) (fun i _=>n - (intOf i).toNat)
 case atStart=>exact⟨0,Nat.zero_le _,rfl,hst,hb2,Nat.zero_le _⟩
 case round =>
  clear hst hb2
  obtain⟨j,hj,rfl,hst,hb,hjl⟩:=hrel
  have hg:=rt_good HV.out j
  have hgl:=hg.len
  have HN:Hid (j<(rt m K Z f kf zf j).length→rt m K Z f kf zf (j+1)=stepR m K Z j (rt m K Z f kf zf j)):=rt_next
  have HD:Hid (¬j<(rt m K Z f kf zf j).length→reached n m K Z f kf zf=rt m K Z f kf zf j):=rt_done hj
  generalize rt m K Z f kf zf j=R at *
  obtain⟨sv,hsc,hrow⟩:=hst.list
  have hints:=own_intsv hrow
  obtain⟨sa,scap,rfl⟩:=own_shape hrow
  by_cases hlt:j<R.length
  ·obtain⟨c,hcn,hce⟩:=hg.at hlt
   have HS:Hid (rt m K Z f kf zf (j+1)=meetTo (m c) (K c) (Z c) R):=by
    have e:=HN.out hlt
    unfold stepR at e
    rw[hce]at e
    exact e
   rcases hc with hc|⟨p,o,rfl,hp,gc⟩
   ·omega
   obtain⟨x,hx,hvx⟩:=gc c hcn
   rw[←hb.cell hp]at hx
   obtain⟨a2,cap2,e2,hi|⟨g2,o2,rfl,hg2,gi⟩⟩:=hints
   ·omega
   cases e2
   have hcell:wr.cell? ⟨g2,o2+j,none⟩=some (.int .i64 (R.getD j 0)):=gi j hlt
   rw[hce]at hcell
   have hm4:=HV.out.most c hcn
   have HF:Hid (∀i,i<m c→K c i=2→0≤Z c i∧Z c i≤1000):=fun i hi hk=>by have:=HV.out.field c hcn i hi hk;omega
   have HG:Hid (∀t,Good n t→t.length≤n):=fun t ht=>ht.len
   have HGN:Hid (Good n (rt m K Z f kf zf (j+1))):=rt_good HV.out (j+1)
   clear gi gc hg HN HD hce hrow
   go_wp2_with (go_at_call 108;refine (cMeetV _ (m c) (K c) (Z c) w _ _ _ (N+1) (N+3) R hvx hb hst HW1.out (Nat.le_succ_of_le HW1.out) (by omega) HF.out).mono ?_;rintro e w3 ⟨rfl,hst3,hb3⟩)
   go_roundw
   case rel =>
    rw[←HS.out]at hst3
    refine⟨j+1,by omega,by go_num,hst3,hb3,?_⟩
    rw[HS.out]
    exact Nat.le_trans hlt (meetTo_more _ _ _ _)
   case measure=>simp[intOf];omega
  ·have HE:Hid (reached n m K Z f kf zf=R):=HD.out hlt
   clear HN HD hg hrow
   go_wp2
   go_ret2
   exact⟨_,rfl,by rw[HE.out];exact hints,hb⟩
end
section
theorem mem_meet1 {R:List Int} {k z x:Int}:x ∈ meet1 R k z ↔ x ∈ R∨(k=2∧x=z):=by
 unfold meet1
 split
 ·rename_i h
  simp only[List.mem_append,List.mem_singleton]
  constructor
  ·rintro (e|e)
   ·exact Or.inl e
   ·exact Or.inr ⟨h.1,e⟩
  ·rintro (e|e)
   ·exact Or.inl e
   ·exact Or.inr e.2
 ·rename_i h
  refine⟨Or.inl,fun e=>e.elim id fun ⟨h1,h2⟩=>?_⟩
  by_cases hz:z ∈ R
  ·rw[h2];exact hz
  ·exact absurd ⟨h1,hz⟩ h
theorem mem_meetTo {k z:Nat→Int} {R:List Int} {x:Int}:∀ {i:Nat},x ∈ meetTo i k z R ↔ x ∈ R∨∃j,j<i∧k j=2∧x=z j
 | 0=>⟨Or.inl,fun h=>h.elim id fun ⟨_,h,_⟩=>absurd h (Nat.not_lt_zero _)⟩
 | i+1=>by
  have ih:=mem_meetTo (k:=k) (z:=z) (R:=R) (x:=x) (i:=i)
  show x ∈ meet1 _ _ _ ↔ _
  rw[mem_meet1,ih]
  constructor
  ·rintro ((h|⟨j,hj,e⟩)|e)
   ·exact Or.inl h
   ·exact Or.inr ⟨j,by omega,e⟩
   ·exact Or.inr ⟨i,by omega,e⟩
  ·rintro (h|⟨j,hj,e⟩)
   ·exact Or.inl (Or.inl h)
   ·by_cases ej:j=i
    ·subst ej;exact Or.inr e
    ·exact Or.inl (Or.inr ⟨j,by omega,e⟩)
theorem meet1_prefix (R:List Int) (k z:Int):∃S,meet1 R k z=R++S:=by
 unfold meet1
 split
 ·exact⟨_,rfl⟩
 ·exact⟨[],by simp⟩
theorem meetTo_prefix (k z:Nat→Int) (R:List Int):∀i,∃S,meetTo i k z R=R++S
 | 0=>⟨[],by simp[meetTo]⟩
 | i+1=>by
  obtain⟨S,h⟩:=meetTo_prefix k z R i
  obtain⟨T,h2⟩:=meet1_prefix (meetTo i k z R) (k i) (z i)
  exact⟨S++T,by show meet1 _ _ _=_;rw[h2,h,List.append_assoc]⟩
theorem getD_prefix {R S:List Int} {i:Nat} (h:i<R.length):(R++S).getD i 0=R.getD i 0:=by
 simp[List.getD,List.getElem?_append_left h]
section
variable {n:Nat} {m:Nat→Nat} {K Z:Nat→Nat→Int} {f:Nat} {kf zf:Nat→Int}
theorem rt_prefix (t:Nat):∃S,rt m K Z f kf zf (t+1)=rt m K Z f kf zf t++S:=by
 by_cases h:t<(rt m K Z f kf zf t).length
 ·rw[rt_next h];exact meetTo_prefix _ _ _ _
 ·exact⟨[],by rw[rt_stays h 1];simp⟩
theorem rt_from {t:Nat} {x:Int} (h:x ∈ rt m K Z f kf zf 0):x ∈ rt m K Z f kf zf t:=by
 induction t with
 | zero=>exact h
 | succ t ih=>obtain⟨S,e⟩:=rt_prefix (m:=m) (K:=K) (Z:=Z) (f:=f) (kf:=kf) (zf:=zf) t;rw[e];exact List.mem_append_left _ ih
theorem rt_closed:∀t i,i<t→i<(rt m K Z f kf zf t).length→∀j,j<m ((rt m K Z f kf zf t).getD i 0).toNat→K ((rt m K Z f kf zf t).getD i 0).toNat j=2→Z ((rt m K Z f kf zf t).getD i 0).toNat j ∈ rt m K Z f kf zf t
 | 0,_,h,_,_,_,_=>absurd h (Nat.not_lt_zero _)
 | t+1,i,hi,hl,j,hj,hk=>by
  by_cases h:t<(rt m K Z f kf zf t).length
  ·obtain⟨S,e⟩:=rt_prefix (m:=m) (K:=K) (Z:=Z) (f:=f) (kf:=kf) (zf:=zf) t
   have hil:i<(rt m K Z f kf zf t).length:=by omega
   have eg:(rt m K Z f kf zf (t+1)).getD i 0=(rt m K Z f kf zf t).getD i 0:=by rw[e];exact getD_prefix hil
   rw[eg]at hj hk ⊢
   by_cases hit:i=t
   ·subst hit
    rw[rt_next h]
    exact mem_meetTo.2 (Or.inr ⟨j,hj,hk,rfl⟩)
   ·rw[e]
    exact List.mem_append_left _ (rt_closed t i (by omega) hil j hj hk)
  ·have es:rt m K Z f kf zf (t+1)=rt m K Z f kf zf t:=rt_stays h 1
   rw[es]at hl hj hk ⊢
   exact rt_closed t i (by omega) hl j hj hk
theorem mem_getD {R:List Int} {x:Int} (h:x ∈ R):∃i,i<R.length∧R.getD i 0=x:=by
 obtain⟨i,hi,e⟩:=List.mem_iff_getElem.1 h
 exact⟨i,hi,by simp[List.getD,List.getElem?_eq_getElem hi,e]⟩
theorem reached_closed (hv:Valid n m K Z f kf zf) {c:Nat} (hc:(c:Int) ∈ reached n m K Z f kf zf) {j:Nat} (hj:j<m c) (hk:K c j=2):Z c j ∈ reached n m K Z f kf zf:=by
 obtain⟨i,hi,e⟩:=mem_getD hc
 have hl:=(rt_good hv n).len
 have:=rt_closed (m:=m) (K:=K) (Z:=Z) (f:=f) (kf:=kf) (zf:=zf) n i (by unfold reached at hi;omega) hi
 unfold reached at e ⊢
 rw[e]at this
 exact this j hj hk
theorem reached_from {j:Nat} (hj:j<f) (hk:kf j=2):zf j ∈ reached n m K Z f kf zf :=
 rt_from (mem_meetTo.2 (Or.inr ⟨j,hj,hk,rfl⟩))
end
/-! ### The values of all that is reached,one behind the other -/
def rowL (n:Nat) (k z:Nat→Int):List (Int×Int):=(List.range n).map fun i=>(k i,z i)
theorem rowL_len (n:Nat) (k z:Nat→Int):(rowL n k z).length=n:=by simp[rowL]
def fstAt (L:List (Int×Int)) (i:Nat):Int:=(L.getD i (0,0)).1
def sndAt (L:List (Int×Int)) (i:Nat):Int:=(L.getD i (0,0)).2
theorem pair_at {L:List (Int×Int)} {i:Nat} (h:i<L.length):(fstAt L i,sndAt L i) ∈ L:=by
 have:L.getD i (0,0)=L[i]:=by simp[List.getD,List.getElem?_eq_getElem h]
 unfold fstAt sndAt
 rw[this]
 exact List.getElem_mem h
theorem at_pair {L:List (Int×Int)} {p:Int×Int} (h:p ∈ L):∃i,i<L.length∧p=(fstAt L i,sndAt L i):=by
 obtain⟨i,hi,e⟩:=List.mem_iff_getElem.1 h
 refine⟨i,hi,?_⟩
 have:L.getD i (0,0)=L[i]:=by simp[List.getD,List.getElem?_eq_getElem hi]
 unfold fstAt sndAt
 rw[this,e]
section
variable {n:Nat} {m:Nat→Nat} {K Z:Nat→Nat→Int} {f:Nat} {kf zf:Nat→Int}
end
end
end Go.Proofs.YtfaokaohhchdhaaGreatDoor
