/- snap's reader, by the program: the next number, a count, a row of values. -/
import Derived.Test.YtfaokaohhchdhaaGreatDoorPart28
namespace Go.Proofs.YtfaokaohhchdhaaGreatDoor
open Go.RowKit Go.Maps
theorem slice_fromI (g o L cap m:Nat) (x:Int) (hx:x=m) (h1:m≤L) (w:World):(Instr.slice 30 (.slice (some ⟨g,o,none⟩) L cap) (some (.int .i64 x)) none none).run Tryz.prog w=.ok (.slice (some ⟨g,if cap=m then o else o+m,none⟩) (L - m) (cap - m)) w:=by
 subst hx
 have hs3:∀w:World,(sizeOf 3).run Tryz.prog w=.ok 1 w:=fun w=>by kernel_rfl
 simp[Instr.slice,Instr.sliceBounds,Instr.sliceBound,asIntOf,run_underlying Tryz.underlying30,hs3,go_sem]
 rw[if_pos h1]
 by_cases c:cap=m
 ·rw[if_pos c,if_pos c]
 ·rw[if_neg c,if_neg c]
def RBox (R:Nat) (w:World) (v:Value) (t:Bool):Prop:=w.heap[R]?=some (.cells #[v,.bool t] 118 (0,0))
theorem RBox.lt {R:Nat} {w:World} {v:Value} {t:Bool} (h:RBox R w v t):R<w.heap.size:=(Array.getElem?_eq_some_iff.1 h).1
theorem RBox.cells {R:Nat} {w:World} {v:Value} {t:Bool} (h:RBox R w v t):w.cell? ⟨R,0,none⟩=some v∧w.cell? ⟨R,1,none⟩=some (.bool t)∧w.frozen? ⟨R,0,none⟩=false∧w.frozen? ⟨R,1,none⟩=false:=by
 unfold RBox at h
 refine⟨?_,?_,?_,?_⟩
 ·unfold World.cell?;rw[h];rfl
 ·unfold World.cell?;rw[h];rfl
 ·unfold World.frozen?;rw[h];rfl
 ·unfold World.frozen?;rw[h];rfl
theorem RBox.keep {R:Nat} {w w':World} {v:Value} {t:Bool} (h:RBox R w v t) (hb:w'.heap[R]?=w.heap[R]?):RBox R w' v t:=by unfold RBox at *;rw[hb];exact h
theorem RBox.rest {R:Nat} {w:World} {v:Value} {t:Bool} (h:RBox R w v t) (u:Value):RBox R (w.setCell ⟨R,0,none⟩ u) u t:=by
 unfold RBox at *;exact heap_setCell_same w R 0 _ _ u h
theorem RBox.tear {R:Nat} {w:World} {v:Value} {t:Bool} (h:RBox R w v t):RBox R (w.setCell ⟨R,1,none⟩ (.bool true)) v true:=by
 unfold RBox at *;exact heap_setCell_same w R 1 _ _ _ h
def NumsIn (R:Nat) (w:World) (v:Value) (l:List Int):Prop :=
 ∃a cap,v=.slice a l.length cap∧l.length≤100000∧l.length≤cap∧(l=[]∨∃b o,a=some ⟨b,o,none⟩∧b<R∧∀i z,l[i]?=some z→w.cell? ⟨b,o+i,none⟩=some (.int .i64 z))
theorem NumsIn.low {R:Nat} {w w':World} {v:Value} {l:List Int} (h:NumsIn R w v l) (hb:∀k,k<R→w'.heap[k]?=w.heap[k]?):NumsIn R w' v l:=by
 obtain⟨a,cap,rfl,h1,h2,h3|⟨b,o,rfl,hR,hc⟩⟩:=h
 ·exact⟨a,cap,rfl,h1,h2,Or.inl h3⟩
 ·refine⟨_,cap,rfl,h1,h2,Or.inr ⟨b,o,rfl,hR,fun i z hi=>?_⟩⟩
  exact (World.cell?_of_block (a:=⟨b,o+i,none⟩) (hb b hR)).trans (hc i z hi)
def RdAt (R:Nat) (w:World) (r:SnRd):Prop:=∃v,RBox R w v r.t∧NumsIn R w v r.l
theorem RdAt.lt {R:Nat} {w:World} {r:SnRd} (h:RdAt R w r):R<w.heap.size:=let ⟨_,h1,_⟩:=h;h1.lt
theorem RdAt.below {R:Nat} {w w':World} {r:SnRd} (h:RdAt R w r) (hb:Below w.heap.size w w'):RdAt R w' r:=by
 obtain⟨v,h1,h2⟩:=h
 exact⟨v,h1.keep (hb.block R h1.lt),h2.low fun k hk=>hb.block k (Nat.lt_trans hk h1.lt)⟩
theorem RdAt.tear {R:Nat} {w:World} {r:SnRd} (h:RdAt R w r):RdAt R (w.setCell ⟨R,1,none⟩ (.bool true)) ⟨r.l,true⟩:=by
 obtain⟨v,h1,h2⟩:=h
 exact⟨v,h1.tear,h2.low fun k hk=>Below.heap_setCell w ⟨R,1,none⟩ _ k (by show ¬k=R;omega)⟩
theorem RdAt.under {R N:Nat} {w w':World} {r:SnRd} (h:RdAt R w r) (hb:Below N w w') (hN:R<N):RdAt R w' r:=by
 obtain⟨v,h1,h2⟩:=h
 exact⟨v,h1.keep (hb.block R hN),h2.low fun k hk=>hb.block k (Nat.lt_trans hk hN)⟩
theorem But.then {R:Nat} {a b c:World} (h:But R a b) (k:Below a.heap.size b c):But R a c :=
 ⟨k.os.trans h.os,k.tape.trans h.tape,k.output.trans h.output,Nat.le_trans h.size k.size,fun i hi hx=>(k.block i hi).trans (h.block i hi hx)⟩
set_option maxHeartbeats 1000000 in
theorem snNumber (R:Nat) (w:World) (r:SnRd) (h:RdAt R w r) :
  Calls Tryz.prog 117 #[.pointer (some ⟨R,0,none⟩)] w fun e w'=>e=.returned (.int .i64 (snN r).1)∧Hid (RdAt R w' (snN r).2)∧Hid (But R w w'):=by
 have HR:Hid (RdAt R w r):=h
 obtain⟨v,h1,a,cap,rfl,hl,hc,hcs⟩:=h
 obtain⟨q0,q1,f0,f1⟩:=h1.cells
 obtain⟨l,t⟩:=r
 cases l with
 | nil =>
  rw[List.length_nil]at q0
  clear h1 hl hc hcs
  go_enter Tryz.func117,Tryz.ntmps117
  go_wp2
  go_ret
  exact⟨rfl,HR.out.tear,But.set R w 1 _⟩
 | cons x us =>
  obtain h|⟨b,o,rfl,hb,hcell⟩:=hcs
  ·cases h
  have qx:w.cell? ⟨b,o,none⟩=some (.int .i64 x):=hcell 0 x rfl
  have HT:Hid (NumsIn R w (.slice (some ⟨b,if cap=1 then o else o+1,none⟩) us.length (cap - 1)) us):=by
   rw[List.length_cons]at hl hc
   refine⟨_,cap - 1,rfl,by omega,by omega,?_⟩
   cases us with
   | nil=>exact Or.inl rfl
   | cons y us =>
    rw[List.length_cons]at hc
    rw[if_neg (by omega)]
    refine Or.inr ⟨b,o+1,rfl,hb,fun j z hj=>?_⟩
    rw[Nat.add_assoc,Nat.add_comm 1 j]
    exact hcell (j+1) z hj
  have HX:Hid (RBox R w (.slice (some ⟨b,o,none⟩) (x::us).length cap) t):=h1
  have hsl:=slice_fromI b o (x::us).length cap 1 1 rfl (by simp)
  rw[List.length_cons,Nat.add_sub_cancel]at hsl
  rw[List.length_cons]at q0
  generalize (if cap=1 then o else o+1)=o2 at *
  obtain⟨L,hL⟩:∃L,us.length+1=L:=⟨_,rfl⟩
  rw[hL]at q0 hsl
  have hL0:((L:Int) == 0)=false:=by rw[beq_eq_false_iff_ne];omega
  have hL1:(0:Int)<(L:Int):=by omega
  clear h1 hl hc hcell hL q1 f1
  go_enter Tryz.func117,Tryz.ntmps117
  go_wp2
  go_ret
  refine⟨rfl,⟨_,HX.out.rest _,HT.out.low fun k hk=>Below.heap_setCell w ⟨R,0,none⟩ _ k (by show ¬k=R;omega)⟩,But.set R w 0 _⟩
set_option maxHeartbeats 1000000 in
theorem snCount (R:Nat) (w:World) (r:SnRd) (most:Nat) (h:RdAt R w r) :
  Calls Tryz.prog 118 #[.pointer (some ⟨R,0,none⟩),.int .i64 most] w fun e w'=>e=.returned (.int .i64 ((snC most r).1:Nat))∧Hid (RdAt R w' (snC most r).2)∧Hid (But R w w'):=by
 have HN:Hid (Calls Tryz.prog 117 #[.pointer (some ⟨R,0,none⟩)] w fun e w'=>e=.returned (.int .i64 (snN r).1)∧Hid (RdAt R w' (snN r).2)∧Hid (But R w w')):=snNumber R w r h
 have HE:Hid (snC most r=if (snN r).1<0∨(most:Int)<(snN r).1 then (0,⟨(snN r).2.l,true⟩) else ((snN r).1.toNat,(snN r).2)):=by show _=_;rfl
 clear h
 generalize snC most r=c at *
 generalize (snN r).1=n at *
 generalize (snN r).2=r1 at *
 have fin:∀w1,RdAt R w1 r1→(∃v,w1.cell? ⟨R,1,none⟩=some v)∧w1.frozen? ⟨R,1,none⟩=false:=fun w1 h=>by
  obtain⟨v,h1,_⟩:=h
  exact⟨⟨_,h1.cells.2.1⟩,h1.cells.2.2.2⟩
 by_cases h0:n<0
 ·have HC:Hid (c=(0,⟨r1.l,true⟩)):=by show _=_;rw[HE.out,if_pos (Or.inl h0)]
  clear HE
  go_enter Tryz.func118,Tryz.ntmps118
  go_wp2_with (go_at_call 117;refine HN.out.mono ?_;rintro e w1 ⟨rfl,HR1,HB1⟩;obtain⟨⟨v1,q1⟩,f1⟩:=fin w1 HR1.out)
  go_ret
  rw[HC.out]
  exact⟨rfl,HR1.out.tear,HB1.out.trans (But.set R w1 1 _)⟩
 by_cases h1:(most:Int)<n
 ·have HC:Hid (c=(0,⟨r1.l,true⟩)):=by show _=_;rw[HE.out,if_pos (Or.inr h1)]
  clear HE
  go_enter Tryz.func118,Tryz.ntmps118
  go_wp2_with (go_at_call 117;refine HN.out.mono ?_;rintro e w1 ⟨rfl,HR1,HB1⟩;obtain⟨⟨v1,q1⟩,f1⟩:=fin w1 HR1.out)
  go_ret
  rw[HC.out]
  exact⟨rfl,HR1.out.tear,HB1.out.trans (But.set R w1 1 _)⟩
 ·have HC:Hid (c=(n.toNat,r1)):=by show _=_;rw[HE.out,if_neg (by omega)]
  have HNn:Hid (((n.toNat:Nat):Int)=n):=by show _=_;omega
  clear HE fin
  go_enter Tryz.func118,Tryz.ntmps118
  go_wp2_with (go_at_call 117;refine HN.out.mono ?_;rintro e w1 ⟨rfl,HR1,HB1⟩)
  go_ret
  rw[HC.out]
  exact⟨ret_num HNn.out.symm,HR1,HB1⟩
theorem sn_appendV {ops:Array Oper} {rest:List Oper} {o:Oper} {a:Act} {Q:Exit→Act→World→Prop} (w:World) (hgd:o.guard=none) (s y:Operand)
  (ho:o.op=.call { callee:=.builtin .append,args:=#[s,y],argTypes:=#[35,35] }) (base:Nat) (v:Value) (L:List (Int×Int)) (x1 x2:Int) (hs:a.eval s=v) (hown:VRow base w v L)
  (t:TypeId) (B:Nat) (hB:w.heap.size=B) (hy:a.eval y=.slice (some ⟨B,0,none⟩) 1 1) (hR:L.length≤10000) (hbase:base≤w.heap.size)
  (h:∀ad cap w2,Hid (VRow base w2 (.slice ad (L.length+1) cap) (L++[(x1,x2)]))→Hid (Below base w w2)→wpList Tryz.prog ops Q rest (a.put o.dst (.slice ad (L.length+1) cap)) w2) :
  wpList Tryz.prog ops Q (o::rest) a (w.alloc (.cells #[.int .i64 x1,.int .i64 x2] t)):=by
 subst hB
 obtain⟨i0,hi,hz0,hz1,hz2⟩:=info_parts infoVal
 have hk:Below w.heap.size w (w.alloc (.cells #[.int .i64 x1,.int .i64 x2] t)):=below_alloc _ _
 have hown':(w.alloc (.cells #[.int .i64 x1,.int .i64 x2] t)).ownsRow base 92 2 v L.length (flatV L):=ownsRow_block hown fun k hk'=>hk.block k (hown.lt k hk').2
 refine wpList_append_own_at _ hgd s y 35 ho base 92 i0 (.agg #[.int .i64 0,.int .i64 0]) 2 16 Tryz.underlying35 hi hz0 hz1 hz2 rfl (by decide) v _ _ hs hown' ⟨w.heap.size,0,none⟩ 1 1 (flatV [(x1,x2)]) hy rfl (fun j u hj=>?_) (flatV_one _) (by unfold maxLen;omega) (by omega) (Nat.le_trans hbase hk.size) ?_
 ·rw[WideShapes.add_plain,Nat.zero_add,World.cell?_alloc_new]
  simpa[flatV]using hj
 ·intro v' w2 h1 h2 _ _
  obtain⟨ad,cap,rfl⟩:=own_shape h1
  refine h ad cap w2 ?_ ?_
  ·show w2.ownsRow _ _ _ _ _ _
   rw[List.length_append,flatV_append]
   exact h1
  ·exact (hk.mono hbase).grown h2 (Nat.le_trans hbase hk.size) (fun k hk=>(hown.lt k hk).1)
theorem snVals_len:∀(k:Nat) (r:SnRd),(snVals k r).1.length=k
 | 0,_=>rfl
 | k+1,r=>by rw[snVals];simp[snVals_len k r]
theorem But.up {R:Nat} {a b:World} (h:But R a b) {B:Nat} {v:Value} {L:List (Int×Int)} (hv:VRow B a v L) (hR:R<B):VRow B b v L :=
 ownsRow_block hv fun g hg=>h.block g (hv.lt g hg).2 (by have:=(hv.lt g hg).1;omega)
set_option maxHeartbeats 2000000 in
theorem snRowC (R:Nat) (w:World) (r:SnRd) (most:Nat) (hm:most≤1000) (h:RdAt R w r) :
  Calls Tryz.prog 119 #[.pointer (some ⟨R,0,none⟩),.int .i64 most] w fun e w'=>∃a c,e=.returned (.slice a (snRow most r).1.length c)∧Hid (VRow w.heap.size w' (.slice a (snRow most r).1.length c) (snRow most r).1)∧Hid (RdAt R w' (snRow most r).2)∧Hid (But R w w'):=by
 have HC:Hid (Calls Tryz.prog 118 #[.pointer (some ⟨R,0,none⟩),.int .i64 most] w fun e w'=>e=.returned (.int .i64 ((snC most r).1:Nat))∧Hid (RdAt R w' (snC most r).2)∧Hid (But R w w')):=snCount R w r most h
 have HE:Hid (snRow most r=snVals (snC most r).1 (snC most r).2):=by show _=_;rfl
 have hR:Hid (R<w.heap.size):=h.lt
 have hn:(snC most r).1≤1000:=by unfold snC;split<;>simp only[]<;>omega
 clear h
 generalize snRow most r=z at *
 generalize (snC most r).1=n at *
 generalize (snC most r).2=r1 at *
 have HNum:Hid (∀wi ri,RdAt R wi ri→Calls Tryz.prog 117 #[.pointer (some ⟨R,0,none⟩)] wi fun e w'=>e=.returned (.int .i64 (snN ri).1)∧Hid (RdAt R w' (snN ri).2)∧Hid (But R wi w')):=fun wi ri h=>snNumber R wi ri h
 go_enter Tryz.func119,Tryz.ntmps119
 go_upto_region 3 with (go_at_call 118;refine HC.out.mono ?_;rintro e w1 ⟨rfl,HR1,HB1⟩)
 go_loopw [5,9] (fun q i wr=>∃k:Nat,k≤n∧i=.int .i64 k∧(∃qa qc,q=.slice qa k qc∧Hid (VRow w.heap.size wr (.slice qa k qc) (snVals k r1).1))∧Hid (RdAt R wr (snVals k r1).2)∧Hid (But R w wr)) (fun _ i _=>n - (intOf i).toNat)
 case atStart=>exact⟨0,Nat.zero_le _,rfl,⟨none,0,rfl,⟨rfl,Or.inl ⟨rfl,rfl⟩⟩⟩,HR1,HB1⟩
 case round =>
  obtain⟨k,hk0,rfl,⟨qa,qc,rfl,HQ⟩,HRr,HBr⟩:=hrel
  by_cases hk:k<n
  ·have hki:(k:Int)<(n:Int):=by omega
   have HSucc:Hid (snVals (k+1) r1=((snVals k r1).1++[((snN (snVals k r1).2).1,(snN (snN (snVals k r1).2).2).1)],(snN (snN (snVals k r1).2).2).2)):=by show _=_;rfl
   have HL:=snVals_len k r1
   have HL2:Hid ((snVals k r1).1.length=k):=HL
   clear HL
   generalize (snVals k r1).1=L at *
   generalize (snVals k r1).2=rr at *
   have HA:Hid (Calls Tryz.prog 117 #[.pointer (some ⟨R,0,none⟩)] wr fun e w'=>e=.returned (.int .i64 (snN rr).1)∧Hid (RdAt R w' (snN rr).2)∧Hid (But R wr w')):=HNum.out wr rr HRr.out
   have HBb:Hid (∀wi,RdAt R wi (snN rr).2→Calls Tryz.prog 117 #[.pointer (some ⟨R,0,none⟩)] wi fun e w'=>e=.returned (.int .i64 (snN (snN rr).2).1)∧Hid (RdAt R w' (snN (snN rr).2).2)∧Hid (But R wi w')):=fun wi h=>HNum.out wi _ h
   generalize (snN (snN rr).2).1=y at *
   generalize (snN (snN rr).2).2=r3 at *
   generalize (snN rr).1=x at *
   generalize (snN rr).2=r2 at *
   go_wp2_with (first
    | (go_at_call 117;refine (HBb.out w2 HR2.out).mono ?_;rintro e w3 ⟨rfl,HR3,HB3⟩;have HBa:Hid (But R wr w3):=HB2.out.trans HB3.out;have HBs:w.heap.size≤w3.heap.size:=Nat.le_trans HBr.out.size HBa.out.size)
    | (go_at_call 117;refine HA.out.mono ?_;rintro e w2 ⟨rfl,HR2,HB2⟩)
    | (at_builtin;go_loud (refine sn_appendV w3 rfl _ _ rfl w.heap.size (.slice qa k qc) L x y rfl (HBa.out.up HQ.out hR.out) _ _ rfl rfl (by have:=HL2.out;omega) HBs ?_;intro ad cap w4 HV4 HB4)))
   go_roundw
   case rel =>
    refine⟨k+1,by omega,by go_num,⟨ad,cap,by rw[HL2.out],?_⟩,?_,(HBr.out.trans HBa.out).then HB4.out⟩
    ·rw[HSucc.out]
     have:=HV4.out
     rw[HL2.out]at this
     exact this
    ·rw[HSucc.out]
     exact HR3.out.under HB4.out hR.out
   case measure=>simp[intOf];omega
  ·obtain rfl:k=n:=by omega
   have HL:=snVals_len k r1
   have HZ:Hid (z.1.length=k):=by show _=_;rw[HE.out];exact HL
   clear HL
   go_wp2_with (fail)
   go_ret
   refine⟨qa,qc,by rw[HZ.out];rfl,?_,?_,HBr⟩
   ·rw[HZ.out,HE.out];exact HQ.out
   ·rw[HE.out];exact HRr.out
structure SIn (R X Y:Nat) (w0 w:World) (fv cv:Value) (rv xv:List Value) (S:Sta) (r:SnRd):Prop where
 box:Box4 26 X w fv cv (.int .i64 S.st) (.int .i64 S.wh)
 res:Box4 26 Y w (.slice none 0 0) (.slice none 0 0) (.int .i64 0) (.int .i64 0)
 own:Own w0.heap.size w fv cv rv xv S
 rd:RdAt R w r
 but:But R w0 w
section
variable {R X Y:Nat} {w0 w w2:World} {fv cv:Value} {rv xv:List Value} {S:Sta} {r r2:SnRd}
theorem SIn.call (h:SIn R X Y w0 w fv cv rv xv S r) (hR:R<w0.heap.size) (hX:w0.heap.size≤X) (hY:w0.heap.size≤Y) (hb:But R w w2) (hr:RdAt R w2 r2):SIn R X Y w0 w2 fv cv rv xv S r2 :=
 ⟨h.box.keep (hb.block X (Array.getElem?_eq_some_iff.1 h.box).1 (by omega)),h.res.keep (hb.block Y (Array.getElem?_eq_some_iff.1 h.res).1 (by omega)),h.own.stay fun k hk hlt=>hb.block k hlt (by omega),hr,h.but.trans hb⟩
theorem SIn.draw (h:SIn R X Y w0 w fv cv rv xv S r):SIn R X Y w0 w.drew fv cv rv xv S r :=
 ⟨h.box,h.res,h.own.stay fun _ _ _=>rfl,h.rd.below (Below.refl _ _).drew,h.but.trans (But.of (Below.refl _ _).drew)⟩
theorem keeps_set {t:TypeId} {a b c d:Value} {w6:World} (hb:Box4 26 X w6 a b c d) (i:Nat) (v:Value) (ht:¬t=26):Keeps t w6 (w6.setCell ⟨X,i,none⟩ v):=by
 unfold Box4 at hb
 exact Keeps.set hb v ht
theorem SIn.frame {w4 w5 w6:World} {fs:List Fm} {cs:List (List (Int×Int))} {st wh p q t:Int} {r4 r5:SnRd} {u fv':Value} {L:List (Int×Int)} {o:Obj}
  (h4:SIn R X Y w0 w4 fv cv rv xv ⟨fs,cs,st,wh⟩ r4) (hR:R<w0.heap.size) (hX:w0.heap.size≤X) (hY:w0.heap.size≤Y) (hXY:¬Y=X) (b5:But R w4 w5) (hr5:RdAt R w5 r5) (hu:VRow w4.heap.size w5 u L)
  (hg:(w5.alloc o).grownBy w6 fv.ownBlock) (hown:w6.ownsRow w0.heap.size 40 4 fv' (fs.length+1) (flatF fs rv++[.int .i64 p,.int .i64 q,u,.int .i64 t])) :
  (∃v,w6.cell? ⟨X,0,none⟩=some v)∧w6.frozen? ⟨X,0,none⟩=false∧SIn R X Y w0 (w6.setCell ⟨X,0,none⟩ fv') fv' cv (rv++[u]) xv ⟨fs++[⟨p,q,L,t⟩],cs,st,wh⟩ r5:=by
 have h5:=h4.call hR hX hY b5 hr5
 have ba:=below_alloc w5 o
 have hs0:w0.heap.size≤w4.heap.size:=h4.but.size
 have hs5:w0.heap.size≤w5.heap.size:=h5.but.size
 have K6:∀t,¬t=40→Keeps t w5 w6:=fun t ht=>(Keeps.of ba).trans (Keeps.grown hg (fun g hg'=>by
  rcases (ownsRow_block h5.own.fr fun k hk=>ba.block k (h5.own.fr.lt k hk).2).2 with⟨e,_⟩|⟨g',cap',cur,e,_,hh,_⟩
  ·rw[e]at hg';cases hg'
  ·rw[e]at hg';cases hg';exact⟨cur,hh⟩) ht)
 have B6:Below w0.heap.size w5 w6:=(ba.mono hs5).grown hg (Nat.le_trans hs5 ba.size) fun k hk=>(h5.own.fr.lt k hk).1
 have bx6:Box4 26 X w6 fv cv (.int .i64 st) (.int .i64 wh):=K6 26 (by decide) _ _ h5.box
 have by6:Box4 26 Y w6 (.slice none 0 0) (.slice none 0 0) (.int .i64 0) (.int .i64 0):=K6 26 (by decide) _ _ h5.res
 have K7:∀t,¬t=26→Keeps t w6 (w6.setCell ⟨X,0,none⟩ fv'):=fun t ht=>keeps_set bx6 0 fv' ht
 have K:∀t,¬t=40→¬t=26→Keeps t w5 (w6.setCell ⟨X,0,none⟩ fv'):=fun t h1 h2=>(K6 t h1).trans (K7 t h2)
 have B7:Below w0.heap.size w5 (w6.setCell ⟨X,0,none⟩ fv'):=B6.setCell hX _
 have old:∀(i:Nat) (u':Value) (b:Nat),rv[i]?=some u'→u'.ownBlock=some b→b<w4.heap.size:=fun i u' b hi hb=>by
  have hl:i<fs.length:=by have:=(List.getElem?_eq_some_iff.1 hi).1;have e:rv.length=fs.length:=h4.own.rl;omega
  obtain⟨u2,e,hv⟩:=h4.own.regs i hl
  rw[hi]at e
  cases e
  exact (hv.lt b hb).2
 have oldx:∀(i:Nat) (u':Value) (b:Nat),xv[i]?=some u'→u'.ownBlock=some b→b<w4.heap.size:=fun i u' b hi hb=>by
  have hl:i<cs.length:=by have:=(List.getElem?_eq_some_iff.1 hi).1;have e:xv.length=cs.length:=h4.own.xl;omega
  obtain⟨u2,e,hv⟩:=h4.own.cells i hl
  rw[hi]at e
  cases e
  exact (hv.lt b hb).2
 have new:∀b,u.ownBlock=some b→w4.heap.size≤b:=fun b hb=>(hu.lt b hb).1
 have hrl:rv.length=fs.length:=h4.own.rl
 have last:∀(i:Nat) (u':Value),(rv++[u])[i]?=some u'→(i<fs.length∧rv[i]?=some u')∨(i=fs.length∧u'=u):=fun i u' hi=>by
  by_cases hl:i<rv.length
  ·rw[List.getElem?_append_left hl]at hi
   exact Or.inl ⟨by omega,hi⟩
  ·rw[List.getElem?_append_right (by omega)]at hi
   have:i - rv.length=0:=by
    have:=(List.getElem?_eq_some_iff.1 hi).1;simp at this;omega
   rw[this]at hi
   exact Or.inr ⟨by omega,(Option.some.inj hi).symm⟩
 refine⟨⟨_,bx6.at.1⟩,bx6.at.2.2.2.2 0,⟨bx6.set0 fv',by6.keep (Below.heap_setCell w6 ⟨X,0,none⟩ fv' Y hXY),⟨?_,own_keep h5.own.ce (K _ (by decide) (by decide)),?_,fun i hi=>?_,fun i hi=>?_,fun i j u1 u2 b h1 h2 e1 e2=>?_,h5.own.xx,fun i j u1 u2 b h1 h2 e1 e2=>?_⟩,h5.rd.under B7 hR,h5.but.then B7⟩⟩
 ·have:=own_keep hown (K7 40 (by decide))
  show World.ownsRow _ _ _ _ _ (fs++[_]).length (flatF (fs++[_]) (rv++[u]))
  rw[List.length_append,flatF_append fs rv _ _ hrl]
  exact this
 ·show (rv++[u]).length=(fs++[_]).length
  simp[hrl]
 ·have hi':i<(fs++[(⟨p,q,L,t⟩:Fm)]).length:=hi
  rw[List.length_append]at hi'
  simp only[List.length_cons,List.length_nil]at hi'
  by_cases hl:i<fs.length
  ·obtain⟨u2,e,hv⟩:=h5.own.regs i hl
   refine⟨u2,by rw[List.getElem?_append_left (by omega)];exact e,?_⟩
   show VRow _ _ _ (fmAt (fs++[_]) i).regs
   rw[fmAt_lt hl]
   exact own_keep hv (K 92 (by decide) (by decide))
  ·obtain rfl:i=fs.length:=by omega
   refine⟨u,by rw[←hrl];simp,?_⟩
   show VRow _ _ _ (fmAt (fs++[_]) fs.length).regs
   rw[fmAt_end]
   exact own_keep (ownsRow_lower hu hs0) (K 92 (by decide) (by decide))
 ·obtain⟨u2,e,hv⟩:=h5.own.cells i hi
  exact⟨u2,e,own_keep hv (K 92 (by decide) (by decide))⟩
 ·rcases last i u1 h1 with⟨l1,g1⟩|⟨l1,rfl⟩<;>rcases last j u2 h2 with⟨l2,g2⟩|⟨l2,rfl⟩
  ·exact h5.own.rr i j u1 u2 b g1 g2 e1 e2
  ·have:=old _ _ _ g1 e1;have:=new _ e2;omega
  ·have:=old _ _ _ g2 e2;have:=new _ e1;omega
  ·omega
 ·rcases last i u1 h1 with⟨l1,g1⟩|⟨l1,rfl⟩
  ·exact h5.own.rx i j u1 u2 b g1 h2 e1 e2
  ·have:=oldx _ _ _ h2 e2;have:=new _ e1;omega
theorem SIn.cell {w4 w5 w6:World} {fs:List Fm} {cs:List (List (Int×Int))} {st wh:Int} {r4 r5:SnRd} {u cv':Value} {L:List (Int×Int)} {o:Obj}
  (h4:SIn R X Y w0 w4 fv cv rv xv ⟨fs,cs,st,wh⟩ r4) (hR:R<w0.heap.size) (hX:w0.heap.size≤X) (hY:w0.heap.size≤Y) (hXY:¬Y=X) (b5:But R w4 w5) (hr5:RdAt R w5 r5) (hu:VRow w4.heap.size w5 u L)
  (hg:(w5.alloc o).grownBy w6 cv.ownBlock) (hown:w6.ownsRow w0.heap.size 35 1 cv' (cs.length+1) (xv++[u])) :
  (∃v,w6.cell? ⟨X,1,none⟩=some v)∧w6.frozen? ⟨X,1,none⟩=false∧SIn R X Y w0 (w6.setCell ⟨X,1,none⟩ cv') fv cv' rv (xv++[u]) ⟨fs,cs++[L],st,wh⟩ r5:=by
 have h5:=h4.call hR hX hY b5 hr5
 have ba:=below_alloc w5 o
 have hs0:w0.heap.size≤w4.heap.size:=h4.but.size
 have hs5:w0.heap.size≤w5.heap.size:=h5.but.size
 have K6:∀t,¬t=35→Keeps t w5 w6:=fun t ht=>(Keeps.of ba).trans (Keeps.grown hg (fun g hg'=>by
  rcases (ownsRow_block h5.own.ce fun k hk=>ba.block k (h5.own.ce.lt k hk).2).2 with⟨e,_⟩|⟨g',cap',cur,e,_,hh,_⟩
  ·rw[e]at hg';cases hg'
  ·rw[e]at hg';cases hg';exact⟨cur,hh⟩) ht)
 have B6:Below w0.heap.size w5 w6:=(ba.mono hs5).grown hg (Nat.le_trans hs5 ba.size) fun k hk=>(h5.own.ce.lt k hk).1
 have bx6:Box4 26 X w6 fv cv (.int .i64 st) (.int .i64 wh):=K6 26 (by decide) _ _ h5.box
 have by6:Box4 26 Y w6 (.slice none 0 0) (.slice none 0 0) (.int .i64 0) (.int .i64 0):=K6 26 (by decide) _ _ h5.res
 have K7:∀t,¬t=26→Keeps t w6 (w6.setCell ⟨X,1,none⟩ cv'):=fun t ht=>keeps_set bx6 1 cv' ht
 have K:∀t,¬t=35→¬t=26→Keeps t w5 (w6.setCell ⟨X,1,none⟩ cv'):=fun t h1 h2=>(K6 t h1).trans (K7 t h2)
 have B7:Below w0.heap.size w5 (w6.setCell ⟨X,1,none⟩ cv'):=B6.setCell hX _
 have old:∀(i:Nat) (u':Value) (b:Nat),rv[i]?=some u'→u'.ownBlock=some b→b<w4.heap.size:=fun i u' b hi hb=>by
  have hl:i<fs.length:=by have:=(List.getElem?_eq_some_iff.1 hi).1;have e:rv.length=fs.length:=h4.own.rl;omega
  obtain⟨u2,e,hv⟩:=h4.own.regs i hl
  rw[hi]at e
  cases e
  exact (hv.lt b hb).2
 have oldx:∀(i:Nat) (u':Value) (b:Nat),xv[i]?=some u'→u'.ownBlock=some b→b<w4.heap.size:=fun i u' b hi hb=>by
  have hl:i<cs.length:=by have:=(List.getElem?_eq_some_iff.1 hi).1;have e:xv.length=cs.length:=h4.own.xl;omega
  obtain⟨u2,e,hv⟩:=h4.own.cells i hl
  rw[hi]at e
  cases e
  exact (hv.lt b hb).2
 have new:∀b,u.ownBlock=some b→w4.heap.size≤b:=fun b hb=>(hu.lt b hb).1
 have hxl:xv.length=cs.length:=h4.own.xl
 have last:∀(i:Nat) (u':Value),(xv++[u])[i]?=some u'→(i<cs.length∧xv[i]?=some u')∨(i=cs.length∧u'=u):=fun i u' hi=>by
  by_cases hl:i<xv.length
  ·rw[List.getElem?_append_left hl]at hi
   exact Or.inl ⟨by omega,hi⟩
  ·rw[List.getElem?_append_right (by omega)]at hi
   have:i - xv.length=0:=by
    have:=(List.getElem?_eq_some_iff.1 hi).1;simp at this;omega
   rw[this]at hi
   exact Or.inr ⟨by omega,(Option.some.inj hi).symm⟩
 refine⟨⟨_,bx6.at.2.1⟩,bx6.at.2.2.2.2 1,⟨bx6.set1 cv',by6.keep (Below.heap_setCell w6 ⟨X,1,none⟩ cv' Y hXY),⟨own_keep h5.own.fr (K _ (by decide) (by decide)),?_,h5.own.rl,fun i hi=>?_,fun i hi=>?_,h5.own.rr,fun i j u1 u2 b h1 h2 e1 e2=>?_,fun i j u1 u2 b h1 h2 e1 e2=>?_⟩,h5.rd.under B7 hR,h5.but.then B7⟩⟩
 ·have:=own_keep hown (K7 35 (by decide))
  show World.ownsRow _ _ _ _ _ (cs++[L]).length (xv++[u])
  rw[List.length_append]
  exact this
 ·obtain⟨u2,e,hv⟩:=h5.own.regs i hi
  exact⟨u2,e,own_keep hv (K 92 (by decide) (by decide))⟩
 ·have hi':i<(cs++[L]).length:=hi
  rw[List.length_append]at hi'
  simp only[List.length_cons,List.length_nil]at hi'
  by_cases hl:i<cs.length
  ·obtain⟨u2,e,hv⟩:=h5.own.cells i hl
   refine⟨u2,by rw[List.getElem?_append_left (by omega)];exact e,?_⟩
   show VRow _ _ _ ((cs++[L]).getD i [])
   have e2:(cs++[L]).getD i []=cs.getD i []:=by simp[List.getD,List.getElem?_append_left hl]
   rw[e2]
   exact own_keep hv (K 92 (by decide) (by decide))
  ·obtain rfl:i=cs.length:=by omega
   refine⟨u,by rw[←hxl];simp,?_⟩
   show VRow _ _ _ ((cs++[L]).getD cs.length [])
   have e2:(cs++[L]).getD cs.length []=L:=by simp[List.getD]
   rw[e2]
   exact own_keep (ownsRow_lower hu hs0) (K 92 (by decide) (by decide))
 ·rcases last i u1 h1 with⟨l1,g1⟩|⟨l1,rfl⟩<;>rcases last j u2 h2 with⟨l2,g2⟩|⟨l2,rfl⟩
  ·exact h5.own.xx i j u1 u2 b g1 g2 e1 e2
  ·have:=oldx _ _ _ g1 e1;have:=new _ e2;omega
  ·have:=oldx _ _ _ g2 e2;have:=new _ e1;omega
  ·omega
 ·rcases last j u2 h2 with⟨l1,g1⟩|⟨l1,rfl⟩
  ·exact h5.own.rx i j u1 u2 b h1 g1 e1 e2
  ·have:=old _ _ _ h1 e1;have:=new _ e2;omega
end
end Go.Proofs.YtfaokaohhchdhaaGreatDoor
