/- image.read and image.Parse: the program of a text, by the program. -/
import Derived.Test.YtfaokaohhchdhaaGreatDoorCodedD
namespace Go.Proofs.YtfaokaohhchdhaaGreatDoor
open Go.RowKit Go.Maps
def flatPc:List (Pc×Value)→List Value
 | []=>[]
 | x::l=>[.int .i64 x.1.params,.int .i64 x.1.regs,x.2]++flatPc l
theorem flatPc_snoc:∀(l:List (Pc×Value)) (x:Pc×Value),flatPc (l++[x])=flatPc l++[.int .i64 x.1.params,.int .i64 x.1.regs,x.2]
 | [],x=>by simp[flatPc]
 | y::l,x=>by rw[List.cons_append,flatPc,flatPc_snoc l x,flatPc,List.append_assoc]
theorem flatPc_at:∀(l:List (Pc×Value)) (i:Nat) (x:Pc×Value),l[i]?=some x→(flatPc l)[i*3]?=some (.int .i64 x.1.params)∧(flatPc l)[i*3+1]?=some (.int .i64 x.1.regs)∧(flatPc l)[i*3+2]?=some x.2
 | [],i,x,h=>by cases h
 | y::l,0,x,h=>by
  simp only[List.getElem?_cons_zero,Option.some.injEq]at h
  subst h
  simp[flatPc]
 | y::l,i+1,x,h=>by
  have ih:=flatPc_at l i x (by simpa using h)
  have e:∀t,(flatPc (y::l))[(i+1)*3+t]?=(flatPc l)[i*3+t]?:=fun t=>by
   rw[flatPc,List.getElem?_append_right (by simp only[List.length_cons,List.length_nil];omega)]
   congr 1
   simp only[List.length_cons,List.length_nil];omega
  have e0:=e 0
  simp only[Nat.add_zero]at e0
  rw[e0,e 1,e 2]
  exact ih
def ProcRow (C:Nat) (w:World) (v:Value) (l:List (Pc×Value)):Prop :=
 w.ownsRow C 38 3 v l.length (flatPc l)∧∀x ∈ l,CodeHeap w x.2 x.1.n x.1.ins
theorem ProcRow.nil (C:Nat) (w:World):ProcRow C w (.slice none 0 0) []:=⟨⟨rfl,Or.inl ⟨rfl,rfl⟩⟩,fun _ h=>by cases h⟩
theorem ProcRow.stay {C:Nat} {w w':World} {v:Value} {l:List (Pc×Value)} (h:ProcRow C w v l) (k:Keeps 38 w w') (k8:Keeps 84 w w') (k3:Keeps 3 w w'):ProcRow C w' v l :=
 ⟨own_keep h.1 k,fun x hx=>(h.2 x hx).stay k8 k3⟩
theorem ProcRow.procs {C:Nat} {w:World} {v:Value} {l:List (Pc×Value)} (h:ProcRow C w v l) (hl:l.length≤100000000):ProcsAt w.heap.size w v l.length (nthP (l.map (·.1))):=by
 obtain⟨h1,h2⟩:=h
 rcases h1.2 with⟨rfl,h0⟩|⟨g,cap,cur,rfl,_,hg,_,_,_,ht⟩
 ·exact⟨none,0,by rw[h0],by omega,Or.inl h0⟩
 ·refine⟨_,cap,rfl,by omega,Or.inr ⟨g,0,rfl,(Array.getElem?_eq_some_iff.1 hg).1,fun i hi=>?_⟩⟩
  obtain⟨x,hx⟩:∃x,l[i]?=some x:=⟨l[i],by simp[hi]⟩
  obtain⟨c0,c1,c2⟩:=flatPc_at l i x hx
  have e:∀t,t<l.length*3→cur[t]?=(flatPc l)[t]?:=fun t htl=>by
   rw[←ht,List.getElem?_take,if_pos htl,Array.getElem?_toList]
  have e2:nthP (l.map (·.1)) i=x.1:=by unfold nthP;simp[hx]
  rw[e2]
  unfold World.cell?
  rw[hg]
  exact⟨x.2,by rw[Nat.zero_add];exact (e (i*3) (by omega)).trans c0,by rw[Nat.zero_add];exact (e (i*3+1) (by omega)).trans c1,by rw[Nat.zero_add];exact (e (i*3+2) (by omega)).trans c2,(h2 x (List.mem_of_getElem? hx)).code⟩
theorem infoProc:(Tryz.prog.info? 38).map (fun i=>(i.zero,i.size,i.bytes))=some (some (.agg #[.int .i64 0,.int .i64 0,.slice none 0 0]),3,40):=by kernel_rfl
theorem append_proc {ops:Array Oper} {rest:List Oper} {o:Oper} {a:Act} {Q:Exit→Act→World→Prop} (W:World) (hgd:o.guard=none) (s y:Operand)
  (ho:o.op=.call { callee:=.builtin .append,args:=#[s,y],argTypes:=#[22,22] }) (C:Nat) (v:Value) (l:List (Pc×Value)) (x1 x2:Int) (cb:Option Addr) (cn cc:Nat) (hs:a.eval s=v) (hown:ProcRow C W v l) (B:Nat) (hB:W.heap.size=B) (hy:a.eval y=.slice (some ⟨B,0,none⟩) 1 1) (hl:l.length≤100000) (hC:C≤W.heap.size)
  (h:∀v' w2,w2.ownsRow C 38 3 v' (l.length+1) (flatPc l++[.int .i64 x1,.int .i64 x2,.slice cb cn cc])→(W.alloc (.cells #[.int .i64 x1,.int .i64 x2,.slice cb cn cc] 38)).grownBy w2 v.ownBlock→wpList Tryz.prog ops Q rest (a.put o.dst v') w2) :
  wpList Tryz.prog ops Q (o::rest) a (W.alloc (.cells #[.int .i64 x1,.int .i64 x2,.slice cb cn cc] 38)):=by
 subst hB
 obtain⟨i0,hi,hz0,hz1,hz2⟩:=info_parts infoProc
 refine wpList_append_own _ hgd s y 22 ho C 38 i0 (.agg #[.int .i64 0,.int .i64 0,.slice none 0 0]) 3 40 Tryz.underlying22 hi hz0 hz1 hz2 rfl (by decide) v _ _ hs (own_keep hown.1 (Keeps.of (below_alloc W _))) ⟨W.heap.size,0,none⟩ 1 1 [.int .i64 x1,.int .i64 x2,.slice cb cn cc] hy rfl (fun j u hj=>?_) (fun u hu=>?_) (by unfold maxLen;omega) (by omega) (Nat.le_trans hC (below_alloc W _).size) ?_
 ·rw[WideShapes.add_plain,Nat.zero_add,World.cell?_alloc_new]
  simpa using hj
 ·simp only[List.mem_cons,List.mem_nil_iff,or_false]at hu
  rcases hu with rfl|rfl|rfl<;>rfl
 ·intro v' w2 h1 h2 _
  exact h v' w2 h1 h2
theorem ProcRow.row {C:Nat} {w:World} {v:Value} {l:List (Pc×Value)} (h:ProcRow C w v l):∀g,v.ownBlock=some g→C≤g∧∃cur,w.heap[g]?=some (.cells cur 38 (0,0)):=by
 intro g hg
 rcases h.1.2 with⟨rfl,_⟩|⟨g',cap,cur,rfl,hC,h2,_⟩
 ·cases hg
 ·cases hg
  exact⟨hC,cur,h2⟩
theorem codC {N nf:Nat} {par loc:Nat→Int} {bv:Nat→Value} {f:Value} {free:Nat} (hfr:free≤1000):∀d,CodC N nf par loc bv f free d
 | 0=>by
  intro at0 v T w L hN ht hf hfew hv hl
  obtain⟨e,a,cap,rfl⟩:=ht
  have hv':L=[]:=by
   unfold codM at hv
   rw[if_pos e]at hv
   injection hv with hv
   exact hv.symm
  subst hv'
  refine cod_core (d:=0) hfr (T:=T) (Or.inl e) hN ⟨a,cap,by rw[e],by omega,Or.inl e⟩ hf (fun i hi=>absurd hi (by omega)) ?_ hl
  rw[e];rfl
 | d+1=>by
  intro at0 v T w L hN ht hf hfew hv hl
  exact cod_core hfr (Or.inr (codC hfr d)) hN ht hf hfew hv hl
theorem insTwo {B:Nat} {no:Nat→Prop} {w:World} {sz:Nat} (o1 a1 b1 c1 o2 a2 b2 c2:Int) (h:w.heap[sz]?=some (.cells #[.int .i64 o1,.int .i64 a1,.int .i64 b1,.int .i64 c1,.slice none 0 0,.int .i64 o2,.int .i64 a2,.int .i64 b2,.int .i64 c2,.slice none 0 0] 84 (0,0))) (hB:B≤sz) :
  InsRow B no w (.slice (some ⟨sz,0,none⟩) 2 2) [[o1,a1,b1,c1],[o2,a2,b2,c2]]:=by
 refine⟨[([o1,a1,b1,c1],.slice none 0 0),([o2,a2,b2,c2],.slice none 0 0)],⟨⟨by simp[flatI],Or.inr ⟨_,_,_,rfl,hB,h,?_⟩⟩,fun x hx=>?_⟩,rfl,fun x hx k hx2=>?_⟩
 ·exact⟨Nat.le_refl _,by decide,rfl,by simp[flatI]⟩
 ·simp only[List.mem_cons,List.not_mem_nil,or_false]at hx
  rcases hx with rfl|rfl<;>exact⟨none,0,rfl,by simp,Or.inl rfl⟩
 ·simp only[List.mem_cons,List.not_mem_nil,or_false]at hx
  rcases hx with rfl|rfl<;>exact (argB_none hx2).elim
theorem InsRow.heap {B:Nat} {no:Nat→Prop} {w:World} {v:Value} {L:List (List Int)} (h:InsRow B no w v L) (hl:L.length≤100000000):CodeHeap w v L.length (fun k=>insOf (L.getD k [])):=by
 obtain⟨items,h1,h2,_⟩:=h
 have:=h1.heap (by rw[←List.length_map (f:=(·.1)),h2];exact hl)
 have e:items.length=L.length:=by rw[←h2,List.length_map]
 rw[e,h2]at this
 exact this
def rowPc (par:Nat→Int) (L:Nat→List (List Int)) (j:Nat):List Pc:=(List.range j).map (pcOf par L)
theorem rowPc_succ (par:Nat→Int) (L:Nat→List (List Int)) (j:Nat):rowPc par L (j+1)=rowPc par L j++[pcOf par L j]:=by simp[rowPc,List.range_succ]
theorem rowPc_len (par:Nat→Int) (L:Nat→List (List Int)) (j:Nat):(rowPc par L j).length=j:=by simp[rowPc]
theorem rowPc_at (par:Nat→Int) (L:Nat→List (List Int)) {n j:Nat} (h:j<n):nthP (rowPc par L n) j=pcOf par L j:=by
 unfold nthP rowPc
 simp[h]
theorem ProcsAt.congr {N:Nat} {w:World} {v:Value} {np:Nat} {P Q:Nat→Pc} (h:ProcsAt N w v np P) (e:∀j,j<np→P j=Q j):ProcsAt N w v np Q:=by
 obtain⟨a,cap,rfl,hn,h|⟨b,o,rfl,hb,hc⟩⟩:=h
 ·exact⟨a,cap,rfl,hn,Or.inl h⟩
 ·exact⟨_,cap,rfl,hn,Or.inr ⟨b,o,rfl,hb,fun i hi=>by rw[←e i hi];exact hc i hi⟩⟩
theorem proc_more {C:Nat} {W w2:World} {v v':Value} {l:List (Pc×Value)} {p:Pc} {cv:Value} {cs:Array Value} (hrow:ProcRow C W v l) (hcv:CodeHeap W cv p.n p.ins) (hgr:(W.alloc (.cells cs 38)).grownBy w2 v.ownBlock)
  (hown:w2.ownsRow C 38 3 v' (l.length+1) (flatPc l++[.int .i64 p.params,.int .i64 p.regs,cv])):ProcRow C w2 v' (l++[(p,cv)]):=by
 have hb:Below W.heap.size W (W.alloc (.cells cs 38)):=below_alloc _ _
 have hrw:=hrow.row
 have keep:∀(k:Nat) (o:Obj),W.heap[k]?=some o→(∀c,¬o=Obj.cells c 38 (0,0))→w2.heap[k]?=some o:=fun k o hk ho=>by
  have hlt:=(Array.getElem?_eq_some_iff.1 hk).1
  rw[hgr.block k (Nat.lt_of_lt_of_le hlt hb.size) ?_,hb.block k hlt]
  ·exact hk
  ·intro e
   obtain⟨_,cur,hc⟩:=hrw k e.symm
   rw[hc]at hk
   injection hk with hk
   exact ho cur hk.symm
 have k8:Keeps 84 W w2:=fun k cur hk=>keep k _ hk (fun c e=>by injection e with _ e2 _;exact absurd e2 (by decide))
 have k3:Keeps 3 W w2:=fun k cur hk=>keep k _ hk (fun c e=>by injection e with _ e2 _;exact absurd e2 (by decide))
 refine⟨?_,fun x hx=>?_⟩
 ·rw[List.length_append,flatPc_snoc]
  exact hown
 ·rcases List.mem_append.1 hx with hx|hx
  ·exact (hrow.2 x hx).stay k8 k3
  ·rw[List.mem_singleton]at hx
   subst hx
   exact hcv.stay k8 k3
theorem ProcRow.put {C Y i:Nat} {w:World} {v u:Value} {l:List (Pc×Value)} {cur:Array Value} (h:ProcRow C w v l) (hY:w.heap[Y]?=some (.cells cur 38 (0,0))) (hv:∀k,v.ownBlock=some k→¬k=Y):ProcRow C (w.setCell ⟨Y,i,none⟩ u) v l :=
 ⟨ownsRow_block h.1 fun k hk=>Below.heap_setCell _ _ _ k (hv k hk),fun x hx=>(h.2 x hx).stay (Keeps.set hY _ (by decide)) (Keeps.set hY _ (by decide))⟩
set_option maxRecDepth 20000 in
set_option maxHeartbeats 8000000 in
theorem codedC (N:Nat) (f:Value) (nf:Nat) (par loc:Nat→Int) (bv:Nat→Value) (D:Nat) (body:Nat→SL) (L:Nat→List (List Int)) (w:World) (hN:N≤w.heap.size) (hf:FunsAt N w f nf par loc bv) (hs:∀i,i<nf→StmtsAt N w D (bv i) (body i))
  (few:∀i,i<nf→toksFew D (body i)) (hloc:∀i,i<nf→0≤loc i∧loc i≤1000) (hL:∀i,i<nf→codedM nf par loc D body i=some (L i)∧(L i).length≤5000) (hnf:nf≤1000) :
  Calls Tryz.prog 50 #[f] w fun e w'=>∃a c,e=.returned (.slice a nf c)∧Hid (ProcsAt w'.heap.size w' (.slice a nf c) nf (pcOf par L))∧Hid (Below w.heap.size w w'):=by
 obtain⟨fa,fcap,rfl,hn,hfr⟩:=id hf
 have HFr:=(show Hid _ from hfr)
 have HF:Hid (∀wk,Below w.heap.size w wk→FunsAt N wk (.slice fa nf fcap) nf par loc bv):=fun wk hk=>hf.below (hk.mono hN)
 have HSt:Hid (∀i,i<nf→∀wk,Below w.heap.size w wk→StmtsAt N wk D (bv i) (body i)):=fun i hi wk hk=>(hs i hi).below (hk.mono hN)
 have HL:Hid (∀i,i<nf→codedM nf par loc D body i=some (L i)∧(L i).length≤5000):=hL
 have HLo:Hid (∀i,i<nf→0≤loc i∧loc i≤1000):=hloc
 have HFew:Hid (∀i,i<nf→toksFew D (body i)):=few
 clear hf hs hL hloc few hfr
 go_enter Tryz.func50,Tryz.ntmps50
 go_upto_region 3 with (fail)
 go_loopw [3,9] (fun ov kv wr=>∃j ps,j≤nf∧kv=.int .i64 (j:Nat)∧Hid (ps.map (·.1)=rowPc par L j)∧Hid (ProcRow w.heap.size wr ov ps)∧Hid (Below w.heap.size w wr)) (fun _ kv _=>nf - (intOf kv).toNat)
 case atStart=>exact⟨0,[],Nat.zero_le _,rfl,rfl,ProcRow.nil _ _,Below.refl _ _⟩
 case round =>
  obtain⟨j,ps,hj,rfl,HP,HR,HB⟩:=hrel
  by_cases hlt:j<nf
  ·rcases HFr.out with h0|⟨b,o,rfl,hb,hcell⟩
   ·omega
   obtain⟨q0,q1,q2,ab,mb,cb,ebv⟩:=hcell j hlt
   rw[ebv]at q2
   replace q0:=below_at HB.out q0
   replace q1:=below_at HB.out q1
   replace q2:=below_at HB.out q2
   obtain⟨cm,hcm⟩:=HL.out j hlt
   obtain⟨c,hcod,hLj⟩:=Option.map_eq_some_iff.1 cm
   obtain⟨l,hl⟩:∃l:Nat,loc j=l:=⟨(loc j).toNat,by have:=HLo.out j hlt;omega⟩
   have hl1:l≤1000:=by have:=HLo.out j hlt;omega
   rw[hl]at hcod hLj q1
   rw[Int.toNat_natCast]at hcod
   have hlen:(L j).length=c.length+2:=by rw[←hLj];simp
   have HLj:Hid (L j=c++[[1,(l:Int),0,0],[8,(l:Int),0,0]]):=hLj.symm
   have hcl:c.length≤5000:=by omega
   have HCo:Hid (∀wk,Below wr.heap.size wr wk→Calls Tryz.prog 103 #[.slice ab mb cb,.slice (some ⟨b,o,none⟩) nf fcap,.int .i64 (l:Int),.int .i64 0] wk fun e w'=>∃ad cap,e=.returned (.slice ad c.length cap)∧Hid (InsRow wk.heap.size (fun _=>False) w' (.slice ad c.length cap) c)∧Hid (Below wk.heap.size wk w')):=fun wk hk=>by
    have hbk:=below_step HB.out hk
    have hst:=HSt.out j hlt wk hbk
    rw[ebv]at hst
    refine (codC (N:=N) (loc:=loc) (bv:=bv) hl1 D 0 _ _ wk c (Nat.le_trans hN hbk.size) hst (HF.out wk hbk) (HFew.out j hlt) hcod (by omega)).mono ?_
    rintro e w' ⟨ad,cap,rfl,h1,_,h2⟩
    exact⟨ad,cap,rfl,h1,h2⟩
   have hpl:ps.length≤100000:=by
    have:=congrArg List.length HP.out
    rw[List.length_map,rowPc_len]at this
    omega
   clear hcell cm hcm hcod hLj hlen ebv
   obtain⟨pj,hpj⟩:∃pj,par j=pj:=⟨_,rfl⟩
   have HPj:Hid (par j=pj):=hpj
   rw[hpj]at q0
   clear hpj hl
   obtain⟨W2,hW2⟩:∃W2,(wr.alloc (.cells #[.int .i64 pj,.int .i64 (l:Int),.slice ab mb cb] 111)).alloc (.cells #[.int .i64 pj,.int .i64 30,.slice none 0 0] 38)=W2:=⟨_,rfl⟩
   have HW2:Hid ((wr.alloc (.cells #[.int .i64 pj,.int .i64 (l:Int),.slice ab mb cb] 111)).alloc (.cells #[.int .i64 pj,.int .i64 30,.slice none 0 0] 38)=W2):=hW2
   have HB2:Hid (Below wr.heap.size wr W2):=hW2 ▸ below_step (below_alloc wr _) (below_alloc _ _)
   have hs2:W2.heap.size=wr.heap.size+2:=by rw[←hW2];simp
   have HY:Hid (W2.heap[wr.heap.size+1]?=some (.cells #[.int .i64 pj,.int .i64 30,.slice none 0 0] 38 (0,0))):=by
    show _=_
    rw[←hW2]
    have:=heap_alloc_new (wr.alloc (.cells #[.int .i64 pj,.int .i64 (l:Int),.slice ab mb cb] 111)) (.cells #[.int .i64 pj,.int .i64 30,.slice none 0 0] 38)
    simpa using this
   have x1:W2.cell? ⟨wr.heap.size,1,none⟩=some (.int .i64 (l:Int)):=by
    rw[←hW2];exact below_at (below_alloc _ _) (by rw[World.cell?_alloc_new];rfl)
   have x2:W2.cell? ⟨wr.heap.size,2,none⟩=some (.slice ab mb cb):=by
    rw[←hW2];exact below_at (below_alloc _ _) (by rw[World.cell?_alloc_new];rfl)
   have HK:Hid (∀wk,Below W2.heap.size W2 wk→wk.cell? ⟨wr.heap.size,1,none⟩=some (.int .i64 (l:Int))∧wk.cell? ⟨wr.heap.size,2,none⟩=some (.slice ab mb cb)):=fun wk hk=>⟨below_at hk x1,below_at hk x2⟩
   have HS2:Hid (W2.heap.size=wr.heap.size+2):=hs2
   clear hW2 x1 x2 hs2
   go_upto_region 6 with (fail)
   rw[HW2.out]
   have HYc:Hid (∀wk,Below W2.heap.size W2 wk→wk.cell? ⟨wr.heap.size+1,2,none⟩=some (.slice none 0 0)∧wk.frozen? ⟨wr.heap.size+1,2,none⟩=false):=fun wk hk=>by
    have e:=(hk.block (wr.heap.size+1) (by have:=HS2.out;omega)).trans HY.out
    exact⟨by unfold World.cell?;rw[e];rfl,by unfold World.frozen?;rw[e];rfl⟩
   have HD0:Hid (∀wk,Below W2.heap.size W2 wk→Below wr.heap.size wr wk):=fun wk hk=>below_step HB2.out hk
   have HBA:Hid (∀wk o,Below W2.heap.size W2 wk→Below W2.heap.size W2 (wk.alloc o)):=fun wk o hk=>below_step hk (below_alloc _ _)
   have HMl:Hid (∀wk,Below W2.heap.size W2 wk→W2.heap.size≤wk.heap.size):=fun wk hk=>hk.size
   have hc2:c.length+2≤100000:=by omega
   go_region_held3 (fun w'=>w'.cell? ⟨wr.heap.size,1,none⟩=some (.int .i64 (l:Int))∧w'.cell? ⟨wr.heap.size,2,none⟩=some (.slice ab mb cb))
    (first|exact HK.out _ (Below.refl _ _).drew|exact HK.out _ hb5|exact HK.out _ (HBA.out _ _ (Below.refl _ _).drew)|exact HK.out _ (HBA.out _ _ hb5)|exact HK.out _ ((HBA.out _ _ (Below.refl _ _)).drew)|exact HK.out _ hb6|go_keep)
    (first
     | (go_at_call 103;refine (HCo.out _ (HD0.out _ (Below.refl _ _).drew)).mono ?_;rintro e w5 ⟨ad,cap,rfl,HR5,HB5⟩;have hb5:Below W2.heap.size W2 w5:=below_step (Below.refl _ _).drew HB5.out)
     | (go_at_call 103;refine (HCo.out _ (HD0.out _ (HBA.out _ _ (Below.refl _ _)).drew)).mono ?_;rintro e w5 ⟨ad,cap,rfl,HR5,HB5⟩;have hb5:Below W2.heap.size W2 w5:=below_step (HBA.out _ _ (Below.refl _ _)).drew HB5.out)
     | (go_at_call 103;refine (HCo.out _ (HD0.out _ (HBA.out _ _ (Below.refl _ _).drew))).mono ?_;rintro e w5 ⟨ad,cap,rfl,HR5,HB5⟩;have hb5:Below W2.heap.size W2 w5:=below_step (HBA.out _ _ (Below.refl _ _).drew) HB5.out)
     | (refine step_insA _ (by rfl) _ _ (by rfl) W2.heap.size W2.heap.size (fun _=>False) (.slice ad c.length cap) (.slice (some ⟨w5.heap.size,0,none⟩) 2 2) c [[1,(l:Int),0,0],[8,(l:Int),0,0]] (by rfl) (by rfl) (HR5.out.below (below_alloc _ _)) (insTwo 1 (l:Int) 0 0 8 (l:Int) 0 0 (heap_alloc_new _ _) (HMl.out _ hb5)) (Nat.le_refl _) (by simp) hc2 (HMl.out _ (HBA.out _ _ hb5)) ?_;intro a6 c6 w6 HA6;have hb6:Below W2.heap.size W2 w6:=(HBA.out _ _ hb5).grown HA6.out.2.1 (HMl.out _ (HBA.out _ _ hb5)) (fun k hk=>id (HR5.out.own_ge k hk).1);obtain⟨g1,g2⟩:=HK.out _ hb6;obtain⟨z1,z2⟩:=HYc.out _ hb6)
     | (refine step_insA _ (by rfl) _ _ (by rfl) W2.heap.size W2.heap.size (fun _=>False) (.slice ad c.length cap) (.slice (some ⟨W2.heap.size,0,none⟩) 2 2) c [[1,(l:Int),0,0],[8,(l:Int),0,0]] (by rfl) (by rfl) (HR5.out.lower (below_alloc W2 _).size (fun _ _ e=>e)) (insTwo 1 (l:Int) 0 0 8 (l:Int) 0 0 ((HB5.out.block W2.heap.size (by show _<(W2.alloc _).heap.size;simp)).trans (heap_alloc_new W2 _)) (Nat.le_refl _)) (Nat.le_refl _) (by simp) hc2 (HMl.out _ hb5) ?_;intro a6 c6 w6 HA6;have hb6:Below W2.heap.size W2 w6:=hb5.grown HA6.out.2.1 (HMl.out _ hb5) (fun k hk=>Nat.le_trans (below_alloc W2 _).size (HR5.out.own_ge k hk).1);obtain⟨g1,g2⟩:=HK.out _ hb6;obtain⟨z1,z2⟩:=HYc.out _ hb6))
   all_goals
    obtain⟨I1,_,_⟩:=HA6.out
    have hC1:CodeHeap w6 (.slice a6 (c.length+2) c6) (c.length+2) (fun k=>insOf ((c++[[1,(l:Int),0,0],[8,(l:Int),0,0]]).getD k [])):=by
     have:=I1.heap (by simp;omega)
     rw[show (c++[[1,(l:Int),0,0],[8,(l:Int),0,0]]).length=c.length+2 by simp]at this
     exact this
    have hpn:(pcOf par L j).n=c.length+2:=by
     show (L j).length=_
     rw[HLj.out];simp
    have hpi:(pcOf par L j).ins=(fun k=>insOf ((c++[[1,(l:Int),0,0],[8,(l:Int),0,0]]).getD k [])):=by
     show (fun k=>insOf ((L j).getD k []))=_
     rw[HLj.out]
    have hq:=(hb6.block (wr.heap.size+1) (by have:=HS2.out;omega)).trans HY.out
    have hbw:=below_step HB2.out hb6
    have hP6:ProcRow w.heap.size w6 u3 ps:=HR.out.stay (Keeps.of hbw) (Keeps.of hbw) (Keeps.of hbw)
    have hwy:w.heap.size≤wr.heap.size+1:=Nat.le_succ_of_le HB.out.size
    have hb6w:Below w.heap.size w w6:=below_step HB.out hbw
    obtain⟨W6,hW6⟩:∃W6,w6.setCell ⟨wr.heap.size+1,2,none⟩ (.slice a6 (c.length+2) c6)=W6:=⟨_,rfl⟩
    have HW6:Hid (w6.setCell ⟨wr.heap.size+1,2,none⟩ (.slice a6 (c.length+2) c6)=W6):=hW6
    have hq6:W6.heap[wr.heap.size+1]?=some (.cells #[.int .i64 pj,.int .i64 30,.slice a6 (c.length+2) c6] 38 (0,0)):=by
     rw[←hW6];exact heap_setCell_same _ _ _ _ _ _ hq
    have HCH:Hid (CodeHeap W6 (.slice a6 (c.length+2) c6) (pcOf par L j).n (pcOf par L j).ins):=by
     rw[hpn,hpi,←hW6]
     exact hC1.stay (Keeps.set hq _ (by decide)) (Keeps.set hq _ (by decide))
    have HP6:Hid (ProcRow w.heap.size W6 u3 ps):=by
     rw[←hW6]
     exact hP6.put hq fun k hk=>by have:=(HR.out.1.lt k hk).2;omega
    have HB6:Hid (Below w.heap.size w W6):=by rw[←hW6];exact hb6w.setCell hwy _
    have v0:W6.cell? ⟨wr.heap.size+1,0,none⟩=some (.int .i64 pj):=by unfold World.cell?;rw[hq6];rfl
    have v1:W6.cell? ⟨wr.heap.size+1,1,none⟩=some (.int .i64 30):=by unfold World.cell?;rw[hq6];rfl
    have v2:W6.cell? ⟨wr.heap.size+1,2,none⟩=some (.slice a6 (c.length+2) c6):=by unfold World.cell?;rw[hq6];rfl
    have HS6:Hid (w.heap.size≤W6.heap.size):=HB6.out.size
    have HPc:Hid ((pcOf par L j).params=pj∧(pcOf par L j).regs=30):=⟨HPj.out,rfl⟩
    clear hW6 hC1 hpn hpi hq hbw hP6 hb6w I1 hb5 hb6 g1 g2 z1 z2 hq6 hwy
    rw[HW6.out]
    go_wp2_with (first
     | (at_builtin;refine append_proc _ rfl _ _ rfl w.heap.size u3 ps pj 30 a6 (c.length+2) c6 rfl HP6.out _ rfl rfl hpl HS6.out ?_;intro v' w7 hO7 hG7;have HO7:=(show Hid _ from hO7);have HG7:=(show Hid _ from hG7);clear hO7 hG7))
    go_roundw
    case rel =>
     refine⟨j+1,ps++[(pcOf par L j,.slice a6 (c.length+2) c6)],by omega,by go_num,?_,?_,?_⟩
     ·show _=_
      rw[List.map_append,HP.out,rowPc_succ];rfl
     ·refine proc_more HP6.out HCH.out HG7.out ?_
      rw[HPc.out.1,HPc.out.2]
      exact HO7.out
     ·exact (HB6.out.trans ((below_alloc W6 _).mono HB6.out.size)).grown HG7.out (Nat.le_trans HB6.out.size (below_alloc W6 _).size) fun k hk=>(HP6.out.row k hk).1
    case measure=>simp[intOf];omega
  ·obtain rfl:j=nf:=by omega
   have hpp:=HR.out.procs (by have:=congrArg List.length HP.out;rw[List.length_map,rowPc_len]at this;omega)
   have e:ps.length=j:=by have:=congrArg List.length HP.out;rw[List.length_map,rowPc_len]at this;exact this
   rw[e,HP.out]at hpp
   have HPP:Hid (ProcsAt wr.heap.size wr u3 j (pcOf par L)):=hpp.congr fun i hi=>rowPc_at par L hi
   clear hpp
   obtain⟨a,c,rfl,_⟩:=id HPP.out
   go_wp2
   go_ret
   exact⟨a,c,rfl,HPP,HB⟩
end Go.Proofs.YtfaokaohhchdhaaGreatDoor
