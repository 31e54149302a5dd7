/- VmParts: in slices, however long, a run says what it says in one: the statement's own walk. -/
import Derived.Test.YtfaokaohhchdhaaGreatDoorPart50
namespace Go.Proofs.YtfaokaohhchdhaaGreatDoor
open Go.RowKit Go.Maps
def KK (w w' : World) : Prop:=Keeps 40 w w'∧Keeps 35 w w'∧Keeps 92 w w'
theorem KK.refl (w : World) : KK w w:=⟨Keeps.refl _ _,Keeps.refl _ _,Keeps.refl _ _⟩
theorem KK.trans {a b c : World} (h : KK a b) (k : KK b c) : KK a c:=⟨h.1.trans k.1,h.2.1.trans k.2.1,h.2.2.trans k.2.2⟩
theorem KK.of {a b : World} (h : Below a.heap.size a b) : KK a b:=⟨Keeps.of h,Keeps.of h,Keeps.of h⟩
theorem KK.all {a b : World} (h : ∀ t,¬ t=26→Keeps t a b) : KK a b:=⟨h _ (by decide),h _ (by decide),h _ (by decide)⟩
theorem KK.all' {a b : World} (h : ∀ t,¬ t=3→Keeps t a b) : KK a b:=⟨h _ (by decide),h _ (by decide),h _ (by decide)⟩
theorem keepsBox {X : Nat} {a b : World} {p q r s : Value} (h : But X a b) (hx : Box4 26 X a p q r s) (t : TypeId) (ht : ¬ t=26) : Keeps t a b:=fun k cur hk => by
 rw [h.block k (Array.getElem?_eq_some_iff.1 hk).1]
 ·exact hk
 ·rintro rfl
  unfold Box4 at hx
  rw [hx] at hk
  injection hk with hk
  injection hk with _ hk _
  exact ht hk.symm
theorem KK.but {X : Nat} {a b : World} {p q r s : Value} (h : But X a b) (hx : Box4 26 X a p q r s) : KK a b:=by
 have go : ∀ t,¬ t=26→Keeps t a b:=fun t ht k cur hk => by
  rw [h.block k (Array.getElem?_eq_some_iff.1 hk).1]
  ·exact hk
  ·rintro rfl
   unfold Box4 at hx
   rw [hx] at hk
   injection hk with hk
   injection hk with _ hk _
   exact ht hk.symm
 exact KK.all go
theorem SOwn.kk {B : Nat} {w w' : World} {fv cv : Value} {S : Sta} (h : SOwn B w fv cv S) (k : KK w w') : SOwn B w' fv cv S:=by
 obtain ⟨rv,xv,h⟩:=h
 exact ⟨rv,xv,own_keep h.fr k.1,own_keep h.ce k.2.1,h.rl,fun i hi => let ⟨u,h1,h2⟩:=h.regs i hi; ⟨u,h1,own_keep h2 k.2.2⟩,fun i hi => let ⟨u,h1,h2⟩:=h.cells i hi; ⟨u,h1,own_keep h2 k.2.2⟩,h.rr,h.xx,h.rx⟩
def Kept (N : Nat) (w : World) (fv cv : Value) (S : Sta) : Prop:=∀ w',Below N w w'→KK w w'→StaAt w' fv cv S
theorem Kept.now {N : Nat} {w : World} {fv cv : Value} {S : Sta} (h : Kept N w fv cv S) : StaAt w fv cv S:=h w (Below.refl _ _) (KK.refl _)
theorem Kept.step {N : Nat} {w w' : World} {fv cv : Value} {S : Sta} (h : Kept N w fv cv S) (hb : Below N w w') (k : KK w w') : Kept N w' fv cv S:=fun v hv kv => h v (hb.trans hv) (k.trans kv)
theorem Kept.sta {w0 w : World} {fv cv : Value} {S : Sta} (h : StaAt w0 fv cv S) (hb : Below w0.heap.size w0 w) : Kept w0.heap.size w fv cv S:=fun _ hv _ => h.below (hb.trans hv)
theorem Kept.own {N B np : Nat} {P : Nat→Pc} {w : World} {fv cv : Value} {S : Sta} (h : SOwn B w fv cv S) (hc : CodeOK np P) (ok : StaOK np P S) : Kept N w fv cv S:=fun _ _ kv => (h.kk kv).at hc ok
theorem grownKeeps {B : Nat} {w w2 : World} {v : Value} {l : List Int} (h : NOwn B w v l) (hg : w.grownBy w2 v.ownBlock) (t : TypeId) (ht : ¬ t=3) : Keeps t w w2:=Keeps.grown hg (fun g hg => by
 rcases h.2 with ⟨e,_⟩ | ⟨g',cap',cur,e,_,hh,_⟩
 ·rw [e] at hg; cases hg
 ·rw [e] at hg; cases hg; exact ⟨cur,hh⟩) ht
theorem two_boxes (w : World) (a b c d : Value) : Box4 26 w.heap.size ((w.alloc (.cells #[a,b,c,d] 26)).alloc (.cells #[a,b,c,d] 26)).drew a b c d∧Box4 26 (w.heap.size + 1) ((w.alloc (.cells #[a,b,c,d] 26)).alloc (.cells #[a,b,c,d] 26)).drew a b c d∧Below w.heap.size w ((w.alloc (.cells #[a,b,c,d] 26)).alloc (.cells #[a,b,c,d] 26)).drew:=by
 have h1 : Box4 26 w.heap.size (w.alloc (.cells #[a,b,c,d] 26)) a b c d:=heap_alloc_new w _
 have hs : (w.alloc (.cells #[a,b,c,d] 26)).heap.size=w.heap.size + 1:=by simp
 have b1:=below_alloc w (.cells #[a,b,c,d] 26)
 have b2:=below_alloc (w.alloc (.cells #[a,b,c,d] 26)) (.cells #[a,b,c,d] 26)
 refine ⟨h1.keep (b2.drew.block _ (by omega)),?_,(below_step b1 b2).drew⟩
 have h2 : Box4 26 (w.alloc (.cells #[a,b,c,d] 26)).heap.size ((w.alloc (.cells #[a,b,c,d] 26)).alloc (.cells #[a,b,c,d] 26)) a b c d:=heap_alloc_new _ _
 rw [hs] at h2
 exact h2
theorem step_nums {ops : Array Oper} {o : Oper} {a : Act} {K : Act→World→Prop} {Q : Exit→Act→World→Prop} {E : Prop} (w : World) (hgd : o.guard=none) (s y : Operand)
  (ho : o.op=.call { callee:=.builtin .append,args:=#[s,y],argTypes:=#[30,30] }) (B B2 : Nat) (v u : Value) (R L : List Int) (hs : a.eval s=v) (hy : a.eval y=u) (hv : NOwn B w v R) (hu : NOwn B2 w u L) (hl : R.length + L.length≤100000) (hB : B≤w.heap.size)
  (h : ∀ ad cap w2,Hid (NOwn B w2 (.slice ad (R.length + L.length) cap) (R ++ L))→Hid (w.grownBy w2 v.ownBlock)→K (a.put o.dst (.slice ad (R.length + L.length) cap)) w2) :
  if Region.wanted o (yielded ops a.tmps)=true then Oper.wp Tryz.prog o a w K Q else E:=by
 have hw : Region.wanted o (yielded ops a.tmps)=true:=by simp [Region.wanted,hgd]
 rw [if_pos hw]
 obtain ⟨i0,hi,hz0,hz1,hz2⟩:=info_parts info3v
 rcases id hu.2 with ⟨rfl,h0⟩ | ⟨g,cap,cur,rfl,hg1,hh,hr⟩
 ·have hL : L=[]:=List.eq_nil_of_length_eq_zero h0
  subst hL
  obtain ⟨ad,cap,e⟩:=own_shape hv
  subst e
  have hle : R.length≤cap:=by
   rcases id hv.2 with ⟨e,h0⟩ | ⟨g,cap',cur,e,_,_,h1,_⟩
   ·injection e with _ _ e3; omega
   ·injection e with _ _ e3; omega
  have hrn:=run_append_nothing (P:=Tryz.prog) w 30 30 o.type 3 i0 Tryz.underlying30 hi ad R.length cap hle (.slice none 0 0) (Src.ofNil w Tryz.underlying30 0)
  unfold Oper.wp execOp
  simp only [ho,resolve,invoke,builtin,Sem.run_bind,Sem.run_pure,Result.andThen_ok,List.map_toArray,List.map_cons,List.map_nil,hs,hy,hrn]
  refine h ad cap w ?_ (World.grownBy.refl _ _)
  rw [List.append_nil]
  exact hv
 ·refine wp_append_own _ s y 30 ho B 3 i0 (.int .i64 0) 1 8 Tryz.underlying30 hi hz0 hz1 hz2 rfl (by decide) v R.length (R.map (Value.int .i64)) hs hv ⟨g,0,none⟩ L.length cap (L.map (Value.int .i64)) hy (by simp) (fun j x hj => ?_) (ints_oneCell .i64 L) (by unfold maxLen; omega) (by omega) hB ?_
  ·rw [WideShapes.add_plain,Nat.zero_add]
   have hlt : j < L.length:=by have:=(List.getElem?_eq_some_iff.1 hj).1; simpa using this
   obtain ⟨_,_,_,hr⟩:=hr
   unfold World.cell?
   rw [hh]
   show cur[j]?=_
   rw [← Array.getElem?_toList,← List.getElem?_take_of_lt (i:=j) (j:=L.length * 1) (by omega),hr]
   exact hj
  ·intro v' w2 h1 h2 _
   obtain ⟨ad',cap',rfl⟩:=own_shape h1
   refine h ad' cap' w2 ?_ h2
   show w2.ownsRow _ _ _ _ _ _
   rw [List.length_append,List.map_append]
   exact h1
set_option maxRecDepth 20000 in
set_option maxHeartbeats 8000000 in
theorem vp_good {np : Nat} {P : Nat→Pc} (S : Sta) (M : Nat) (pa fa ca za : Option Addr) (pc fc cc n zc m : Nat) (z : Nat→Int) (w W : World)
  (HW : Hid (w.alloc (.cells #[.slice fa S.fs.length fc,.slice ca S.cs.length cc,.int .i64 S.st,.int .i64 S.wh] 26)=W)) (HB : Hid (Below w.heap.size w W))
  (HX : Hid (∀ wk,Below W.heap.size W wk→wk.cell? ⟨w.heap.size,0,none⟩=some (.slice fa S.fs.length fc)∧wk.cell? ⟨w.heap.size,1,none⟩=some (.slice ca S.cs.length cc)∧wk.cell? ⟨w.heap.size,2,none⟩=some (.int .i64 S.st)∧wk.cell? ⟨w.heap.size,3,none⟩=some (.int .i64 S.wh)))
  (HR : Hid (TrueC 16 W)) (hM : M≤w.heap.size) (HP : Hid (∀ wk,Below w.heap.size w wk→ProcsAt M wk (.slice pa np pc) np P))
  (HS : Hid (StaAt w (.slice fa S.fs.length fc) (.slice ca S.cs.length cc) S)) (HG : Hid (StaGood np P S)) (h0 : S.st=0)
  (HZ : Hid (∀ wk,Below w.heap.size w wk→0 < n→∃ g o,za=some ⟨g,o,none⟩∧∀ i,i < n→wk.cell? ⟨g,o + i,none⟩=some (.int .i64 (z i)))) (hn63 : n≤9223372036854775807) (hm : min n 30=m)
  (hsl : ∀ wk,(Instr.slice 30 (.slice za n zc) none (some (.int .i64 (m : Nat))) none).run Tryz.prog wk=.ok (.slice za m zc) wk) :
  Calls Tryz.prog 4 #[.slice pa np pc,.agg #[.slice fa S.fs.length fc,.slice ca S.cs.length cc,.int .i64 S.st,.int .i64 S.wh],.slice za n zc] w fun e w' => e=.returned (.bool true)∧Hid (Below w.heap.size w w'):=by
 have h0b : (S.st != 0)=false:=by rw [h0]; rfl
 have H0:=(show Hid _ from h0)
 clear h0
 have HC1 : Hid (∀ wk,Below W.heap.size W wk→Calls Tryz.prog 20 #[.slice pa np pc,.agg #[.slice fa S.fs.length fc,.slice ca S.cs.length cc,.int .i64 S.st,.int .i64 S.wh]] wk fun e w' => e=.returned (.int .i64 0)∧Below wk.heap.size wk w'):=fun wk hk => by
  have:=vmCheck M _ _ _ np P S wk (Nat.le_trans hM (below_step HB.out hk).size) (HP.out wk (below_step HB.out hk)) (HS.out.below (below_step HB.out hk))
  rw [HG.out.err] at this
  exact this
 have HUp : Hid (∀ wi wj,Below W.heap.size W wi→Below wi.heap.size wi wj→Below W.heap.size W wj):=fun wi wj h k => below_step h k
 go_enter Tryz.func4,Tryz.ntmps4
 go_upto_region 1 with (fail)
 rw [HW.out]
 go_upto_region 4 with (first
  | (go_at_call 16; refine (HR.out _ (Below.refl _ _)).mono ?_; rintro e w2 ⟨rfl,hb2⟩; obtain ⟨k0,k1,k2,k3⟩:=HX.out _ hb2)
  | (go_at_call 20; refine (HC1.out _ hb2).mono ?_; rintro e w3 ⟨rfl,hb3'⟩; have hb3:=HUp.out _ _ hb2 hb3'; clear hb3' k0 k1 k2 k3; obtain ⟨k0,k1,k2,k3⟩:=HX.out _ hb3))
 go_cut [8,9] from 36 to 37 (fun p q wx => ∃ X Y,p=.pointer (some ⟨X,0,none⟩)∧q=.pointer (some ⟨Y,0,none⟩)∧Hid (¬ X=Y∧w3.heap.size≤X∧w3.heap.size≤Y∧Box4 26 X wx (.slice fa S.fs.length fc) (.slice ca S.cs.length cc) (.int .i64 S.st) (.int .i64 S.wh)∧Box4 26 Y wx (.slice fa S.fs.length fc) (.slice ca S.cs.length cc) (.int .i64 S.st) (.int .i64 S.wh)∧Below w3.heap.size w3 wx))
 case first =>
  have a0 : ∀ c,(w3.alloc c).cell? ⟨w.heap.size,0,none⟩=some (.slice fa S.fs.length fc):=fun c => below_at (below_alloc w3 c) k0
  have b0 : ∀ c d,((w3.alloc c).alloc d).cell? ⟨w.heap.size,0,none⟩=some (.slice fa S.fs.length fc):=fun c d => below_at (below_alloc _ d) (a0 c)
  have a1 : ∀ c,(w3.alloc c).cell? ⟨w.heap.size,1,none⟩=some (.slice ca S.cs.length cc):=fun c => below_at (below_alloc w3 c) k1
  have b1 : ∀ c d,((w3.alloc c).alloc d).cell? ⟨w.heap.size,1,none⟩=some (.slice ca S.cs.length cc):=fun c d => below_at (below_alloc _ d) (a1 c)
  have a2 : ∀ c,(w3.alloc c).cell? ⟨w.heap.size,2,none⟩=some (.int .i64 S.st):=fun c => below_at (below_alloc w3 c) k2
  have b2 : ∀ c d,((w3.alloc c).alloc d).cell? ⟨w.heap.size,2,none⟩=some (.int .i64 S.st):=fun c d => below_at (below_alloc _ d) (a2 c)
  have a3 : ∀ c,(w3.alloc c).cell? ⟨w.heap.size,3,none⟩=some (.int .i64 S.wh):=fun c => below_at (below_alloc w3 c) k3
  have b3 : ∀ c d,((w3.alloc c).alloc d).cell? ⟨w.heap.size,3,none⟩=some (.int .i64 S.wh):=fun c d => below_at (below_alloc _ d) (a3 c)
  go_region
  all_goals (go_wp2_with fail)
  all_goals go_meet
  ·obtain ⟨h1,h2,h3⟩:=two_boxes w3 (.slice fa S.fs.length fc) (.slice ca S.cs.length cc) (.int .i64 S.st) (.int .i64 S.wh)
   exact ⟨_,_,rfl,rfl,by omega,Nat.le_refl _,by omega,h1,h2,h3⟩
  ·obtain ⟨h1,h2,h3⟩:=two_boxes w3 (.slice fa S.fs.length fc) (.slice ca S.cs.length cc) (.int .i64 S.st) (.int .i64 S.wh)
   exact ⟨_,_,rfl,rfl,by omega,by omega,Nat.le_refl _,h2,h1,h3⟩
 case rest =>
  obtain ⟨X,Y,rfl,rfl,H4⟩:=hcut
  generalize wc=W4 at *
  have hb3s : w.heap.size < w3.heap.size:=by have:=hb3.size; have:=HB.out.size; have e:=congrArg (fun v => v.heap.size) HW.out; simp at e; omega
  have HB4 : Hid (Below W.heap.size W W4):=HUp.out _ _ hb3 H4.out.2.2.2.2.2
  clear k0 k1 k2 k3 hb2 hb3
  have H3 : Hid (Below w.heap.size w W4):=below_step HB.out HB4.out
  have HSz : Hid (w.heap.size < X∧w.heap.size < Y∧X < W4.heap.size∧Y < W4.heap.size):=⟨by have:=H4.out.2.1; have:=hb3s; omega,by have:=H4.out.2.2.1; have:=hb3s; omega,H4.out.2.2.2.1.lt,H4.out.2.2.2.2.1.lt⟩
  clear hb3s
  have e1 : min (n : Int) 30=(m : Int):=by omega
  have e2 : max (m : Int) 0=(m : Int):=by omega
  have e3 : m≤n:=by omega
  have e4 : m≤30:=by omega
  clear hm
  go_upto_block 0 with (fail)
  go_cut [7,11,13,14,15,16,17] from 38 to 81 (fun tv ov _ _ _ _ _ wx => ∃ (K : Nat) (b : Sta) (l : List Int),tv=.int .i64 (K : Nat)∧(∃ oa oc,ov=.slice oa l.length oc∧Hid (NOwn W4.heap.size wx (.slice oa l.length oc) l))∧K≤1800∧l.length≤1200∧Hid (l=sdN P S K)∧Hid (∃ fa fc ca cc,Box4 26 Y wx (.slice fa b.fs.length fc) (.slice ca b.cs.length cc) (.int .i64 b.st) (.int .i64 b.wh)∧Kept w.heap.size wx (.slice fa b.fs.length fc) (.slice ca b.cs.length cc) b)∧Hid (Slc np P S K b)∧Hid (But Y W4 wx))
  case first =>
   go_upto_region 7 with (fail)
   try rw [e1]
   try rw [e2]
   try rw [Int.toNat_natCast]
   clear e1 e2
   go_loopw [7,11,44] (fun tv ov iv wr => ∃ (i K : Nat) (b : Sta) (l : List Int),i≤m∧iv=.int .i64 (i : Nat)∧tv=.int .i64 (K : Nat)∧(∃ oa oc,ov=.slice oa l.length oc∧Hid (NOwn W4.heap.size wr (.slice oa l.length oc) l))∧K≤60 * i∧l.length≤40 * i∧Hid (l=sdN P S K)∧Hid (∃ fa fc ca cc,Box4 26 Y wr (.slice fa b.fs.length fc) (.slice ca b.cs.length cc) (.int .i64 b.st) (.int .i64 b.wh)∧Kept w.heap.size wr (.slice fa b.fs.length fc) (.slice ca b.cs.length cc) b)∧Hid (b.st=0∧Slc np P S K b)∧Hid (But Y W4 wr)) (fun _ _ iv _ => m - (intOf iv).toNat)
   case atStart => exact ⟨0,0,S,[],Nat.zero_le _,rfl,rfl,⟨none,0,rfl,⟨rfl,Or.inl ⟨rfl,rfl⟩⟩⟩,Nat.zero_le _,Nat.zero_le _,rfl,⟨fa,fc,ca,cc,H4.out.2.2.2.2.1,Kept.sta HS.out H3.out⟩,⟨H0.out,Slc.start HG.out.2.1 (eqv_refl HG.out.1 HG.out.2.1)⟩,But.refl _ _⟩
   case round =>
    obtain ⟨i,K,b,l,hi,rfl,rfl,⟨oa,oc,rfl,NA⟩,hK,hl,HL,HBx,HSl,HBut⟩:=hrel
    have HBw : Hid (Below w.heap.size w wr):=H3.out.trans (HBut.out.low (by have:=HSz.out; omega) (by have:=HSz.out; omega))
    by_cases hlt : i < m
    ·obtain ⟨g,o,rfl,hc0⟩:=HZ.out wr HBw.out (by omega)
     have c0:=hc0 i (by omega)
     clear hc0 hsl
     obtain ⟨hb0,hsl⟩:=HSl.out
     obtain ⟨f,hf⟩ : ∃ f : Nat,z i % (60 : Int)=f:=⟨(z i % 60).toNat,by omega⟩
     have hf60 : f < 60:=by omega
     have HAt : Hid (∀ wk,Calls Tryz.prog 25 #[.int .i64 (z i),.int .i64 60] wk fun e w' => e=.returned (.int .i64 (f : Int))∧w'=wk):=fun wk => by
      have:=lawAt (z i) 60 (by omega) (by omega) wk
      rw [show ((60 : Nat) : Int)=60 from rfl,hf] at this
      exact this
     clear hf
     obtain ⟨hco,hok,hce⟩:=HG.out
     obtain ⟨s1,s2,s3,s4⟩:=hsl.step hco hok f
     have hbr : runErr np P b f=0:=StaGood.run ⟨hco,hsl.ok,hce⟩ hb0 (by omega)
     have hsa : (runM P f ⟨b,[],false⟩).1.said.length≤40:=(runM_right hco f ⟨b,[],false⟩ hsl.ok (Nat.zero_le _)).2.1
     obtain ⟨fb,fbc,cb,cbc,hbx,hkb⟩:=HBx.out
     have HC : Hid (Calls Tryz.prog 13 #[.slice pa np pc,.agg #[.slice fb b.fs.length fbc,.slice cb b.cs.length cbc,.int .i64 b.st,.int .i64 b.wh],.int .i64 f] wr (RunK wr (runM P f ⟨b,[],false⟩).1.s (runM P f ⟨b,[],false⟩).1.said (runM P f ⟨b,[],false⟩).2)):=runK M _ _ _ b f wr (Nat.le_trans hM HBw.out.size) (HP.out wr HBw.out) hkb.now hbr
     generalize (runM P f ⟨b,[],false⟩).1.s=T at *
     generalize (runM P f ⟨b,[],false⟩).1.said=said at *
     generalize (runM P f ⟨b,[],false⟩).2=k at *
     have HB : Hid (∃ B,sweptS T=B):=⟨_,rfl⟩
     obtain ⟨B,hB⟩:=HB.out
     have HSw : Hid (∀ fv cv wk,StaAt wk fv cv T→Calls Tryz.prog 21 #[.agg #[fv,cv,.int .i64 T.st,.int .i64 T.wh]] wk fun e w' => ∃ fa fc ca cc,e=.returned (.agg #[.slice fa B.fs.length fc,.slice ca B.cs.length cc,.int .i64 B.st,.int .i64 B.wh])∧Hid (SOwn wk.heap.size w' (.slice fa B.fs.length fc) (.slice ca B.cs.length cc) B)∧Hid (Below wk.heap.size wk w')):=fun fv cv wk h => by
      have:=sweepK T fv cv wk h hco s4
      have e1 : (sweptS T).st=T.st:=rfl
      have e2 : (sweptS T).wh=T.wh:=rfl
      rw [hB] at this e1 e2
      rw [e1,e2]
      exact this
     rw [hB] at s2
     have HS2 : Hid (Slc np P S (K + k) B):=s2
     have HL2 : Hid (l ++ said=sdN P S (K + k)):=by show _=_; rw [s3,HL.out]
     have HT : Hid (StaOK np P T):=s4
     have hk : ¬ (f : Int) < (k : Int):=by omega
     have hkf : k≤f:=s1
     clear hsl hb0 hco hok hce s1 s2 s3 s4 hbr hB HB
     have Bx : Hid (Box4 26 Y wr (.slice fb b.fs.length fbc) (.slice cb b.cs.length cbc) (.int .i64 b.st) (.int .i64 b.wh)):=hbx
     clear hbx hkb HBx
     obtain ⟨x0,x1,x2,x3,x4⟩:=Bx.out.at
     go_upto_region 10 with (go_at_call 25; with_reducible refine (HAt.out _).mono ?_; rintro e w0 ⟨rfl,h1⟩; rw [h1]; clear h1)
     go_upto_region 11 with (go_at_call 13; refine HC.out.mono ?_; rintro e w1 ⟨ta,tc,ua,uc,sa,sc,rfl,SO1,NS1,hb1⟩; have HB1:=(show Hid _ from hb1); clear hb1)
     obtain ⟨W1,hW1⟩ : ∃ W1,w1.alloc (.cells #[.slice ta T.fs.length tc,.slice ua T.cs.length uc,.int .i64 T.st,.int .i64 T.wh] 26)=W1:=⟨_,rfl⟩
     rw [hW1]
     have b1 : Below w1.heap.size w1 W1:=hW1 ▸ below_alloc w1 _
     have HB1w : Hid (Below wr.heap.size wr W1):=below_step HB1.out b1
     have y0 : W1.cell? ⟨w1.heap.size,0,none⟩=some (.slice ta T.fs.length tc):=by rw [← hW1,World.cell?_alloc_new]; rfl
     have y1 : W1.cell? ⟨w1.heap.size,1,none⟩=some (.slice ua T.cs.length uc):=by rw [← hW1,World.cell?_alloc_new]; rfl
     have y2 : W1.cell? ⟨w1.heap.size,2,none⟩=some (.int .i64 T.st):=by rw [← hW1,World.cell?_alloc_new]; rfl
     have y3 : W1.cell? ⟨w1.heap.size,3,none⟩=some (.int .i64 T.wh):=by rw [← hW1,World.cell?_alloc_new]; rfl
     have SO : Hid (SOwn wr.heap.size W1 (.slice ta T.fs.length tc) (.slice ua T.cs.length uc) T):=SO1.out.below b1
     have NS : Hid (NOwn wr.heap.size W1 (.slice sa said.length sc) said):=NS1.out.below b1
     clear hW1 b1 SO1 NS1 HB1 x0 x1 x2 x3 x4
     have hll : l.length + said.length≤100000:=by omega
     have HWr : Hid (W4.heap.size≤wr.heap.size):=HBut.out.size
     go_upto_region 13 with (fail)
     go_upto_region 14 with (first
      | (go_at_call 21; refine (HSw.out _ _ _ (SO.out.at HG.out.1 HT.out)).mono ?_; rintro e w3 ⟨ta',tc',ua',uc',rfl,SO3,HB3⟩; have NA3 : Hid (NOwn W4.heap.size w3 (.slice oa l.length oc) l):=NA.out.below (below_step HB1w.out HB3.out); have NS3 : Hid (NOwn wr.heap.size w3 (.slice sa said.length sc) said):=NS.out.below HB3.out; have hW3 : W4.heap.size≤w3.heap.size:=Nat.le_trans HWr.out (below_step HB1w.out HB3.out).size)
      | (at_builtin; refine append_nums _ rfl _ _ rfl W4.heap.size wr.heap.size (.slice oa l.length oc) (.slice sa said.length sc) l said rfl rfl NA3.out NS3.out hll hW3 ?_; intro ad cap w5 NA5 HG5; have Bx5 : Box4 26 Y w5 (.slice fb b.fs.length fbc) (.slice cb b.cs.length cbc) (.int .i64 b.st) (.int .i64 b.wh):=(grownKeeps NA3.out HG5.out _ (by decide)) _ _ (Bx.out.keep ((below_step HB1w.out HB3.out).block Y Bx.out.lt)); obtain ⟨x0,x1,x2,x3,x4⟩:=Bx5.at))
     obtain ⟨W6,hW6,Bx6,bk,bs,bb,bkk⟩:=box_put (.slice ta' B.fs.length tc') (.slice ua' B.cs.length uc') (.int .i64 B.st) (.int .i64 B.wh) Bx5
     rw [hW6]
     have HBut6 : Hid (But Y W4 W6):=by
      have h4:=HBut.out.trans (But.of (below_step HB1w.out HB3.out))
      have h5 : But Y W4 w5:=by
       refine ⟨HG5.out.os.trans h4.os,HG5.out.tape.trans h4.tape,HG5.out.output.trans h4.output,Nat.le_trans h4.size HG5.out.size,fun k hk hx => ?_⟩
       rw [HG5.out.block k (by omega) fun e => by have:=(NA3.out.lt k e.symm).1; omega]
       exact h4.block k hk hx
      exact h5.trans (but_put bk bs bb)
     have HNA6 : Hid (NOwn W4.heap.size W6 (.slice ad (l ++ said).length cap) (l ++ said)):=by
      have:=NA5.out.keep bkk
      rw [List.length_append]
      exact this
     have HKp6 : Hid (Kept w.heap.size W6 (.slice ta' B.fs.length tc') (.slice ua' B.cs.length uc') B):=Kept.own (SO3.out.kk ((KK.all' fun t ht => grownKeeps NA3.out HG5.out t ht).trans (KK.all bkk))) HG.out.1 HS2.out.ok
     have HBx6 : Hid (Box4 26 Y W6 (.slice ta' B.fs.length tc') (.slice ua' B.cs.length uc') (.int .i64 B.st) (.int .i64 B.wh)):=Bx6
     have HC6 : Hid (Calls Tryz.prog 20 #[.slice pa np pc,.agg #[.slice ta' B.fs.length tc',.slice ua' B.cs.length uc',.int .i64 B.st,.int .i64 B.wh]] W6 fun e w' => e=.returned (.int .i64 0)∧Below W6.heap.size W6 w'):=by
      have hB6 : Below w.heap.size w W6:=H3.out.trans (HBut6.out.low (by have:=HSz.out; omega) (by have:=HSz.out; omega))
      have:=vmCheck M _ _ _ np P B W6 (Nat.le_trans hM hB6.size) (HP.out W6 hB6) HKp6.out.now
      rw [StaGood.err ⟨HG.out.1,HS2.out.ok,HG.out.2.2⟩] at this
      exact this
     have hl6 : (l ++ said).length≤40 * (i + 1):=by rw [List.length_append]; omega
     have HlE : Hid (l.length + said.length=(l ++ said).length):=by show _=_; rw [List.length_append]
     clear hW6 bk bs bb bkk NA5 HG5 SO3 NA3 NS3 hW3 HB3 x0 x1 x2 x3 x4 y0 y1 y2 y3 Bx5 c0 hll
     obtain ⟨x0,x1,x2,x3,x4⟩:=Bx6.at
     clear Bx6
     go_upto_region 16 with (go_at_call 20; refine HC6.out.mono ?_; rintro e w7 ⟨rfl,hb7⟩; have HB7:=(show Hid _ from hb7); clear hb7)
     clear x0 x1 x2 x3 x4
     obtain ⟨x0,x1,x2,x3,x4⟩:=(HBx6.out.keep (HB7.out.block Y HBx6.out.lt)).at
     have HBxF : Hid (∃ fa fc ca cc,Box4 26 Y w7 (.slice fa B.fs.length fc) (.slice ca B.cs.length cc) (.int .i64 B.st) (.int .i64 B.wh)∧Kept w.heap.size w7 (.slice fa B.fs.length fc) (.slice ca B.cs.length cc) B):=⟨_,_,_,_,HBx6.out.keep (HB7.out.block Y HBx6.out.lt),HKp6.out.step (HB7.out.mono (by have:=HSz.out; have:=HBut6.out.size; omega)) (KK.of HB7.out)⟩
     have HNAF : Hid (NOwn W4.heap.size w7 (.slice ad (l ++ said).length cap) (l ++ said)):=HNA6.out.below HB7.out
     have HButF : Hid (But Y W4 w7):=HBut6.out.trans (But.of HB7.out)
     by_cases hB0 : B.st=0
     ·have HB0:=(show Hid _ from hB0)
      have hBb : (B.st != 0)=false:=by rw [hB0]; rfl
      clear hB0
      go_wp2_with (fail)
      rw [HlE.out]
      go_roundw
      case rel =>
       exact ⟨i + 1,K + k,B,l ++ said,by omega,by go_num,by go_num,⟨ad,cap,rfl,HNAF⟩,by omega,hl6,HL2,HBxF,⟨HB0.out,HS2.out⟩,HButF⟩
      case measure => simp [intOf]; omega
     ·have hBb : (B.st != 0)=true:=by simpa using hB0
      clear hB0
      go_wp2_with (fail)
      rw [HlE.out]
      go_meet
      exact ⟨K + k,B,l ++ said,by go_num,⟨ad,cap,rfl,HNAF⟩,by omega,by omega,HL2,HBxF,HS2,HButF⟩
    ·go_wp2_with (fail)
     go_meet
     obtain rfl : i=m:=by omega
     exact ⟨K,b,l,rfl,⟨oa,oc,rfl,NA⟩,by omega,by omega,HL,HBx,HSl.out.2,HBut⟩
  case rest =>
   obtain ⟨K,b,l,rfl,⟨oa,oc,rfl,NA⟩,hK,hl,HL,HBx,HSl,HBut⟩:=hcut
   generalize wc=W5 at *
   clear e1 e2 e3 e4
   have H5 : Hid (Below w.heap.size w W5):=H3.out.trans (HBut.out.low (by have:=HSz.out; omega) (by have:=HSz.out; omega))
   have HX5 : Hid (Box4 26 X W5 (.slice fa S.fs.length fc) (.slice ca S.cs.length cc) (.int .i64 S.st) (.int .i64 S.wh)):=H4.out.2.2.2.1.keep (HBut.out.block X HSz.out.2.2.1 H4.out.1)
   obtain ⟨bf,bfc,bc,bcc,hby,hkb⟩:=HBx.out
   have HY5 : Hid (Box4 26 Y W5 (.slice bf b.fs.length bfc) (.slice bc b.cs.length bcc) (.int .i64 b.st) (.int .i64 b.wh)):=hby
   have HKb : Hid (Kept w.heap.size W5 (.slice bf b.fs.length bfc) (.slice bc b.cs.length bcc) b):=hkb
   have HXY : Hid (¬ X=Y):=H4.out.1
   have HS5 : Hid (W4.heap.size≤W5.heap.size):=HBut.out.size
   clear hby hkb HBx
   go_upto_region 18 with (fail)
   go_loopw [7,10] (fun tv sv wr => ∃ (j : Nat) (l2 : List Int),j≤K∧tv=.int .i64 ((K - j : Nat) : Int)∧(∃ sa sc,sv=.slice sa l2.length sc∧Hid (NOwn W5.heap.size wr (.slice sa l2.length sc) l2))∧l2.length≤40 * j∧Hid (l2=sdN P S j)∧Hid (∃ fa fc ca cc,Box4 26 X wr (.slice fa (stN P S j).fs.length fc) (.slice ca (stN P S j).cs.length cc) (.int .i64 (stN P S j).st) (.int .i64 (stN P S j).wh)∧Kept w.heap.size wr (.slice fa (stN P S j).fs.length fc) (.slice ca (stN P S j).cs.length cc) (stN P S j))∧Hid (But X W5 wr)) (fun tv _ _ => (intOf tv).toNat)
   case atStart => exact ⟨0,[],Nat.zero_le _,rfl,⟨none,0,rfl,⟨rfl,Or.inl ⟨rfl,rfl⟩⟩⟩,Nat.zero_le _,rfl,⟨fa,fc,ca,cc,HX5.out,Kept.sta HS.out H5.out⟩,But.refl _ _⟩
   case round =>
    obtain ⟨j,l2,hj,rfl,⟨sa,sc,rfl,NB⟩,hl2,HL2,HBx,HBut2⟩:=hrel
    have HBw : Hid (Below w.heap.size w wr):=H5.out.trans (HBut2.out.low (by have:=HSz.out; omega) (by have:=HSz.out; have:=HS5.out; omega))
    obtain ⟨af,afc,ac,acc,hbx,hka⟩:=HBx.out
    obtain ⟨hco,hok,hce⟩:=HG.out
    by_cases hlt : j < K
    ·obtain ⟨r,hr⟩ : ∃ r,K - j=r:=⟨_,rfl⟩
     obtain ⟨s0,s1,s2,s3⟩:=whole_step (f:=r) HSl.out.rdy hlt (by omega)
     have hst : (stN P S j).st=0:=HSl.out.rdy j hlt
     have hrj : rdyN P S j:=fun i hi => HSl.out.rdy i (by omega)
     have hoj : StaOK np P (stN P S j):=stN_right hco hok j hrj
     have hor : StaOK np P (runM P r ⟨stN P S j,[],false⟩).1.s:=(runM_right hco r ⟨stN P S j,[],false⟩ hoj (Nat.zero_le _)).1
     have hsa : (runM P r ⟨stN P S j,[],false⟩).1.said.length≤40:=(runM_right hco r ⟨stN P S j,[],false⟩ hoj (Nat.zero_le _)).2.1
     have HC : Hid (Calls Tryz.prog 13 #[.slice pa np pc,.agg #[.slice af (stN P S j).fs.length afc,.slice ac (stN P S j).cs.length acc,.int .i64 (stN P S j).st,.int .i64 (stN P S j).wh],.int .i64 r] wr (RunK wr (runM P r ⟨stN P S j,[],false⟩).1.s (runM P r ⟨stN P S j,[],false⟩).1.said (runM P r ⟨stN P S j,[],false⟩).2)):=runK M _ _ _ (stN P S j) r wr (Nat.le_trans hM HBw.out.size) (HP.out wr HBw.out) hka.now (StaGood.run ⟨hco,hoj,hce⟩ hst (by omega))
     have hAb : ((stN P S j).st == 0)=true:=by rw [hst]; rfl
     have Bx : Hid (Box4 26 X wr (.slice af (stN P S j).fs.length afc) (.slice ac (stN P S j).cs.length acc) (.int .i64 (stN P S j).st) (.int .i64 (stN P S j).wh)):=hbx
     clear hst hrj hoj hbx hka HBx hco hok hce
     generalize (runM P r ⟨stN P S j,[],false⟩).1.s=T at *
     generalize (runM P r ⟨stN P S j,[],false⟩).1.said=said at *
     generalize (runM P r ⟨stN P S j,[],false⟩).2=k at *
     have HT : Hid (T=stN P S (j + k)):=s2
     have HOT : Hid (StaOK np P T):=hor
     have HL3 : Hid (l2 ++ said=sdN P S (j + k)):=by show _=_; rw [s3,HL2.out]
     generalize stN P S j=A at *
     have hr0 : (0 : Int) < (r : Int):=by omega
     have er : min (r : Int) 2000=(r : Int):=by omega
     have hk0 : ((k : Int) == 0)=false:=by simp; omega
     have hkr : k≤r:=s1
     have hk1 : 0 < k:=s0
     clear s0 s1 s2 s3 hor
     obtain ⟨x0,x1,x2,x3,x4⟩:=Bx.out.at
     rw [hr]
     go_upto_region 19 with (fail)
     go_upto_region 20 with (go_at_call 13; refine HC.out.mono ?_; rintro e w1 ⟨ta,tc,ua,uc,ra,rc,rfl,SO1,NS1,hb1⟩; have HB1:=(show Hid _ from hb1); clear hb1)
     obtain ⟨W1,hW1⟩ : ∃ W1,w1.alloc (.cells #[.slice ta T.fs.length tc,.slice ua T.cs.length uc,.int .i64 T.st,.int .i64 T.wh] 26)=W1:=⟨_,rfl⟩
     rw [hW1]
     have b1 : Below w1.heap.size w1 W1:=hW1 ▸ below_alloc w1 _
     have HB1w : Hid (Below wr.heap.size wr W1):=below_step HB1.out b1
     have HBy : Hid (Box4 26 w1.heap.size W1 (.slice ta T.fs.length tc) (.slice ua T.cs.length uc) (.int .i64 T.st) (.int .i64 T.wh)):=by
      show Box4 _ _ _ _ _ _ _
      unfold Box4
      rw [← hW1]; exact heap_alloc_new w1 _
     have SO : Hid (SOwn wr.heap.size W1 (.slice ta T.fs.length tc) (.slice ua T.cs.length uc) T):=SO1.out.below b1
     have NS : Hid (NOwn wr.heap.size W1 (.slice ra said.length rc) said):=NS1.out.below b1
     have NB1 : Hid (NOwn W5.heap.size W1 (.slice sa l2.length sc) l2):=NB.out.below HB1w.out
     have Bx1 : Hid (Box4 26 X W1 (.slice af A.fs.length afc) (.slice ac A.cs.length acc) (.int .i64 A.st) (.int .i64 A.wh)):=Bx.out.keep (HB1w.out.block X Bx.out.lt)
     clear hW1 b1 SO1 NS1 HB1 x0 x1 x2 x3 x4
     have hll : l2.length + said.length≤100000:=by omega
     have hW5 : W5.heap.size≤W1.heap.size:=Nat.le_trans HBut2.out.size HB1w.out.size
     obtain ⟨x0,x1,x2,x3,x4⟩:=Bx1.out.at
     obtain ⟨y0,y1,y2,y3,y4⟩:=HBy.out.at
     go_upto_region 22 with (fail)
     have NB1d : Hid (NOwn W5.heap.size W1.drew (.slice sa l2.length sc) l2):=NB1.out
     have NSd : Hid (NOwn wr.heap.size W1.drew (.slice ra said.length rc) said):=NS.out
     have Bx1d : Hid (Box4 26 X W1.drew (.slice af A.fs.length afc) (.slice ac A.cs.length acc) (.int .i64 A.st) (.int .i64 A.wh)):=Bx1.out
     have HByd : Hid (Box4 26 w1.heap.size W1.drew (.slice ta T.fs.length tc) (.slice ua T.cs.length uc) (.int .i64 T.st) (.int .i64 T.wh)):=HBy.out
     go_region_law (go_loud (refine step_nums _ rfl _ _ rfl W5.heap.size wr.heap.size (.slice sa l2.length sc) (.slice ra said.length rc) l2 said rfl rfl NB1d.out NSd.out hll hW5 ?_; intro ad cap w5 NA5 HG5; have gk : Keeps 26 W1.drew w5:=grownKeeps NB1d.out HG5.out 26 (by decide); obtain ⟨x0,x1,x2,x3,x4⟩:=Box4.at (t:=26) (show Box4 26 X w5 _ _ _ _ from gk _ _ Bx1d.out); obtain ⟨y0,y1,y2,y3,y4⟩:=Box4.at (t:=26) (show Box4 26 w1.heap.size w5 _ _ _ _ from gk _ _ HByd.out)))
     all_goals
      obtain ⟨W6,hW6,Bx6,bk,bs,bb,bkk⟩:=box_put (.slice ta T.fs.length tc) (.slice ua T.cs.length uc) (.int .i64 T.st) (.int .i64 T.wh) (show Box4 26 X w5 _ _ _ _ from gk _ _ Bx1d.out)
      rw [hW6]
      have HBut6 : Hid (But X W5 W6):=by
       have h4:=HBut2.out.trans (But.of HB1w.out)
       have h5 : But X W5 w5:=by
        refine ⟨HG5.out.os.trans h4.os,HG5.out.tape.trans h4.tape,HG5.out.output.trans h4.output,Nat.le_trans h4.size HG5.out.size,fun k hk hx => ?_⟩
        rw [HG5.out.block k (show k < W1.heap.size by have:=h4.size; omega) fun e => by have:=(NB1.out.lt k e.symm).1; omega]
        exact h4.block k hk hx
       exact h5.trans (but_put bk bs bb)
      have HNA6 : Hid (NOwn W5.heap.size W6 (.slice ad (l2 ++ said).length cap) (l2 ++ said)):=by
       have:=NA5.out.keep bkk
       rw [List.length_append]
       exact this
      have HBxF : Hid (∃ fa fc ca cc,Box4 26 X W6 (.slice fa (stN P S (j + k)).fs.length fc) (.slice ca (stN P S (j + k)).cs.length cc) (.int .i64 (stN P S (j + k)).st) (.int .i64 (stN P S (j + k)).wh)∧Kept w.heap.size W6 (.slice fa (stN P S (j + k)).fs.length fc) (.slice ca (stN P S (j + k)).cs.length cc) (stN P S (j + k))):=by
       rw [← HT.out]
       exact ⟨_,_,_,_,Bx6,Kept.own (SO.out.kk ((show KK W1 w5 from KK.all' fun t ht => grownKeeps NB1d.out HG5.out t ht).trans (KK.all bkk))) HG.out.1 HOT.out⟩
      have HlE : Hid (l2.length + said.length=(l2 ++ said).length):=by show _=_; rw [List.length_append]
      have hl6 : (l2 ++ said).length≤40 * (j + k):=by rw [List.length_append]; omega
      have hKr : K - (j + k)=r - k:=by omega
      have hjk : j + k≤K:=by omega
      have HWr : Hid (IntKind.i64.wrap ((r : Int) - (k : Int))=(r : Int) - (k : Int)):=Go.IntWalk.i64_in _ (by omega)
      clear hW6 Bx6 bk bs bb bkk NA5 HG5 gk x0 x1 x2 x3 x4 y0 y1 y2 y3 y4 hll hr
      go_wp2_with (fail)
      refine ⟨?_,?_⟩
      ·(repeat apply Exists.intro)
       refine And.intro ?f ?e
       case e => rfl
       case f =>
        refine ⟨j + k,l2 ++ said,hjk,?_,⟨ad,cap,?_,HNA6⟩,hl6,HL3,HBxF,HBut6⟩
        ·show Value.int .i64 (IntKind.i64.wrap ((r : Int) - (k : Int)))=_
         rw [HWr.out,hKr]; congr 1; omega
        ·show Value.slice ad (l2.length + said.length) cap=_
         rw [HlE.out]
      ·show (intOf (.int .i64 (IntKind.i64.wrap ((r : Int) - (k : Int))))).toNat < (intOf (.int .i64 (r : Int))).toNat
       rw [HWr.out]
       simp [intOf]; omega
    ·obtain rfl : j=K:=by omega
     rw [Nat.sub_self]
     have hAo : StaOK np P (stN P S j):=stN_right hco hok j HSl.out.rdy
     obtain ⟨B,hB⟩ : ∃ B,sweptS (stN P S j)=B:=⟨_,rfl⟩
     have hBb : sweptS b=B:=by rw [← hB]; exact HSl.out.swept hco hok
     have hBo : StaOK np P B:=by rw [← hB]; exact hAo.swept hco
     obtain rfl : l2=l:=by rw [HL2.out,HL.out]
     have HEQ : Hid (∀ wk,Below wr.heap.size wr wk→Calls Tryz.prog 24 #[.slice sa l2.length sc,.slice oa l2.length oc] wk fun e w' => e=.returned (.bool true)∧Below wk.heap.size wk w'):=fun wk hk => by
      have h1:=(NB.out.below hk).nums (by omega)
      have h2:=(NOwn.below (w:=wr) (B:=W4.heap.size) (v:=.slice oa l2.length oc) (l:=l2) (own_keep NA.out (keepsBox HBut2.out HX5.out 3 (by decide))) hk).nums (by omega)
      refine (eqNums _ _ _ _ _ _ _ wk h1 h2).mono ?_
      rintro e w' ⟨rfl,hb⟩
      exact ⟨ret_bool (eqB_yes fun _ _ => rfl),hb⟩
     have go : ∀ (A : Sta) (hA : sweptS A=B) (oA : StaOK np P A) (fv cv : Value) (wk : World),StaAt wk fv cv A→Calls Tryz.prog 21 #[.agg #[fv,cv,.int .i64 A.st,.int .i64 A.wh]] wk fun e w' => ∃ fa fc ca cc,e=.returned (.agg #[.slice fa B.fs.length fc,.slice ca B.cs.length cc,.int .i64 B.st,.int .i64 B.wh])∧Hid (StaAt w' (.slice fa B.fs.length fc) (.slice ca B.cs.length cc) B)∧Hid (Below wk.heap.size wk w'):=fun A hA oA fv cv wk h => by
      have:=sweepK A fv cv wk h hco oA
      have e1 : (sweptS A).st=A.st:=rfl
      have e2 : (sweptS A).wh=A.wh:=rfl
      rw [hA] at this e1 e2
      rw [e1,e2]
      refine this.mono ?_
      rintro e w' ⟨fa,fc,ca,cc,rfl,h1,h2⟩
      exact ⟨fa,fc,ca,cc,rfl,h1.out.at hco hBo,h2⟩
     have HSA : Hid (∀ wk,Below wr.heap.size wr wk→Calls Tryz.prog 21 #[.agg #[.slice af (stN P S j).fs.length afc,.slice ac (stN P S j).cs.length acc,.int .i64 (stN P S j).st,.int .i64 (stN P S j).wh]] wk fun e w' => ∃ fa fc ca cc,e=.returned (.agg #[.slice fa B.fs.length fc,.slice ca B.cs.length cc,.int .i64 B.st,.int .i64 B.wh])∧Hid (StaAt w' (.slice fa B.fs.length fc) (.slice ca B.cs.length cc) B)∧Hid (Below wk.heap.size wk w')):=fun wk hk => go _ hB hAo _ _ wk (hka.now.below hk)
     have HSB : Hid (∀ wk,Below wr.heap.size wr wk→Calls Tryz.prog 21 #[.agg #[.slice bf b.fs.length bfc,.slice bc b.cs.length bcc,.int .i64 b.st,.int .i64 b.wh]] wk fun e w' => ∃ fa fc ca cc,e=.returned (.agg #[.slice fa B.fs.length fc,.slice ca B.cs.length cc,.int .i64 B.st,.int .i64 B.wh])∧Hid (StaAt w' (.slice fa B.fs.length fc) (.slice ca B.cs.length cc) B)∧Hid (Below wk.heap.size wk w')):=fun wk hk => go _ hBb HSl.out.ok _ _ wk ((HKb.out.step (HBut2.out.low (by have:=HSz.out; omega) (by have:=HSz.out; have:=HS5.out; omega)) (KK.but HBut2.out HX5.out)).now.below hk)
     have HSM : Hid (∀ fa fc ca cc ga gc ha hc wk,StaAt wk (.slice fa B.fs.length fc) (.slice ca B.cs.length cc) B→StaAt wk (.slice ga B.fs.length gc) (.slice ha B.cs.length hc) B→Calls Tryz.prog 18 #[.agg #[.slice fa B.fs.length fc,.slice ca B.cs.length cc,.int .i64 B.st,.int .i64 B.wh],.agg #[.slice ga B.fs.length gc,.slice ha B.cs.length hc,.int .i64 B.st,.int .i64 B.wh]] wk fun e w' => e=.returned (.bool true)∧Below wk.heap.size wk w'):=fun fa fc ca cc ga gc ha hc wk h1 h2 => by
      have:=vmSame B B _ _ _ _ wk h1 h2
      rw [eqSt_iff.2 rfl] at this
      exact this
     have HBy : Box4 26 Y wr (.slice bf b.fs.length bfc) (.slice bc b.cs.length bcc) (.int .i64 b.st) (.int .i64 b.wh):=HY5.out.keep (HBut2.out.block Y (by have:=HSz.out; have:=HS5.out; omega) fun e => HXY.out e.symm)
     have HCL : Hid (∀ wk,Below wr.heap.size wr wk→(wk.cell? ⟨X,0,none⟩=some (.slice af (stN P S j).fs.length afc)∧wk.cell? ⟨X,1,none⟩=some (.slice ac (stN P S j).cs.length acc)∧wk.cell? ⟨X,2,none⟩=some (.int .i64 (stN P S j).st)∧wk.cell? ⟨X,3,none⟩=some (.int .i64 (stN P S j).wh))∧wk.cell? ⟨Y,0,none⟩=some (.slice bf b.fs.length bfc)∧wk.cell? ⟨Y,1,none⟩=some (.slice bc b.cs.length bcc)∧wk.cell? ⟨Y,2,none⟩=some (.int .i64 b.st)∧wk.cell? ⟨Y,3,none⟩=some (.int .i64 b.wh)):=fun wk hk => by
      obtain ⟨q0,q1,q2,q3,_⟩:=(hbx.keep (hk.block X hbx.lt)).at
      obtain ⟨p0,p1,p2,p3,_⟩:=(HBy.keep (hk.block Y HBy.lt)).at
      exact ⟨⟨q0,q1,q2,q3⟩,p0,p1,p2,p3⟩
     clear go hAo hBo hB hBb HBy hbx hka HBx hco hok hce
     generalize stN P S j=A at *
     obtain ⟨⟨x0,x1,x2,x3⟩,y0,y1,y2,y3⟩:=HCL.out wr (Below.refl _ _)
     go_upto_region 23 with (fail)
     go_region_held3 (fun w' => (w'.cell? ⟨X,0,none⟩=some (.slice af A.fs.length afc)∧w'.cell? ⟨X,1,none⟩=some (.slice ac A.cs.length acc)∧w'.cell? ⟨X,2,none⟩=some (.int .i64 A.st)∧w'.cell? ⟨X,3,none⟩=some (.int .i64 A.wh))∧w'.cell? ⟨Y,0,none⟩=some (.slice bf b.fs.length bfc)∧w'.cell? ⟨Y,1,none⟩=some (.slice bc b.cs.length bcc)∧w'.cell? ⟨Y,2,none⟩=some (.int .i64 b.st)∧w'.cell? ⟨Y,3,none⟩=some (.int .i64 b.wh))
      (first | exact HCL.out _ (Below.refl _ _).drew | exact HCL.out _ hb9 | exact HCL.out _ hb8 | exact HCL.out _ hb7 | exact HCL.out _ hb6)
      (first
       | (go_at_call 18; refine (HSM.out _ _ _ _ _ _ _ _ _ SA8 SB8.out).mono ?_; rintro e w9 ⟨rfl,hb9'⟩; have hb9:=below_step hb8 hb9'; clear hb9')
       | (go_at_call 21; refine (HSB.out _ hb7).mono ?_; rintro e w8 ⟨f2,g2,c2,d2,rfl,SB8,hb8'⟩; have SA8:=SA7.out.below hb8'.out; have hb8:=below_step hb7 hb8'.out; clear hb8')
       | (go_at_call 21; refine (HSA.out _ hb6).mono ?_; rintro e w7 ⟨f1,g1,c1,d1,rfl,SA7,hb7'⟩; have hb7:=below_step hb6 hb7'.out; clear hb7')
       | (go_at_call 24; refine (HEQ.out _ (Below.refl _ _).drew).mono ?_; rintro e w6 ⟨rfl,hb6'⟩; have hb6:=below_step (Below.refl wr.heap.size wr).drew hb6'; clear hb6'))
     all_goals
      clear hb6 hb7 SA7 SA8 SB8 hb8
      go_wp2_with (fail)
      go_ret
      exact ⟨rfl,HBw.out.trans (hb9.mono HBw.out.size)⟩
theorem slice_toI (za : Option Addr) (n zc m : Nat) (h1 : m≤zc) (h2 : zc≤9223372036854775807) (ha : za=none→zc=0) (wk : World) : (Instr.slice 30 (.slice za n zc) none (some (.int .i64 (m : Nat))) none).run Tryz.prog wk=.ok (.slice za m zc) wk:=by
 have hs3 : ∀ w : World,(sizeOf 3).run Tryz.prog w=.ok 1 w:=fun w => by kernel_rfl
 cases za with
 | none =>
  have h0:=ha rfl
  subst h0
  obtain rfl : m=0:=by omega
  simp [Instr.slice,Instr.sliceBounds,Instr.sliceBound,asIntOf,run_underlying Tryz.underlying30,hs3,go_sem]
 | some a =>
  simp [Instr.slice,Instr.sliceBounds,Instr.sliceBound,asIntOf,run_underlying Tryz.underlying30,hs3,go_sem]
  intro h; omega
set_option maxHeartbeats 4000000 in
theorem vp_bad (pa : Option Addr) (np pc : Nat) (fv cv zv : Value) (st wh ce : Int) (w W : World) (HW : Hid (w.alloc (.cells #[fv,cv,.int .i64 st,.int .i64 wh] 26)=W)) (HB : Hid (Below w.heap.size w W))
  (HX : Hid (∀ wk,Below W.heap.size W wk→wk.cell? ⟨w.heap.size,0,none⟩=some fv∧wk.cell? ⟨w.heap.size,1,none⟩=some cv∧wk.cell? ⟨w.heap.size,2,none⟩=some (.int .i64 st)∧wk.cell? ⟨w.heap.size,3,none⟩=some (.int .i64 wh)))
  (HR : Hid (TrueC 16 W))
  (HC : Hid (∀ wk,Below W.heap.size W wk→Calls Tryz.prog 20 #[.slice pa np pc,.agg #[fv,cv,.int .i64 st,.int .i64 wh]] wk fun e w' => e=.returned (.int .i64 ce)∧Below wk.heap.size wk w')) (hb : ¬ ce=0∨¬ st=0) :
  Calls Tryz.prog 4 #[.slice pa np pc,.agg #[fv,cv,.int .i64 st,.int .i64 wh],zv] w fun e w' => e=.returned (.bool true)∧Hid (Below w.heap.size w w'):=by
 by_cases hc : ce=0
 all_goals
  have HCe:=(show Hid _ from hc)
  first
   | (have hcb : (ce != 0)=false:=by rw [hc]; rfl)
   | (have hcb : (ce != 0)=true:=by simp [hc])
  first
   | (have hsb : (st != 0)=true:=by have:=hb.resolve_left (fun h => h hc); simpa using this)
   | skip
  clear hc hb
  go_enter Tryz.func4,Tryz.ntmps4
  go_upto_region 1 with (fail)
  try rw [HW.out]
  go_wp2_with (first
   | (go_at_call 16; refine (HR.out _ hb3).mono ?_; rintro e w4 ⟨rfl,hb4'⟩; have hb4:=below_step hb3 hb4')
   | (go_at_call 16; refine (HR.out _ (Below.refl _ _)).mono ?_; rintro e w2 ⟨rfl,hb2⟩; obtain ⟨k0,k1,k2,k3⟩:=HX.out _ hb2)
   | (go_at_call 20; refine (HC.out _ hb2).mono ?_; rintro e w3 ⟨rfl,hb3'⟩; have hb3:=below_step hb2 hb3'; clear hb3' k0 k1 k2 k3; obtain ⟨k0,k1,k2,k3⟩:=HX.out _ hb3))
  go_ret
  exact ⟨rfl,below_step HB.out hb4⟩
theorem vmParts {np : Nat} {P : Nat→Pc} (M : Nat) (vp fv cv : Value) (S : Sta) (za : Option Addr) (zc : Nat) (l : List Int) (w : World) (hM : M≤w.heap.size) (hp : ProcsAt M w vp np P) (hs : StaAt w fv cv S) (hz : NumsL w.heap.size w za zc l) (HR : TrueC 16 w) :
  Calls Tryz.prog 4 #[vp,staV fv cv S.st S.wh,.slice za l.length zc] w fun e w' => e=.returned (.bool true)∧Hid (Below w.heap.size w w'):=by
 obtain ⟨pa,pc,rfl,_⟩:=id hp
 obtain ⟨fa,fc,rfl,_⟩:=id hs.1
 obtain ⟨ca,cc,rfl,_⟩:=id hs.2
 obtain ⟨W,hW,b0,_,i0,i1,i2,i3⟩:=sbox w (.slice fa S.fs.length fc) (.slice ca S.cs.length cc) S.st S.wh
 have hX : ∀ wk,Below W.heap.size W wk→wk.cell? ⟨w.heap.size,0,none⟩=some (.slice fa S.fs.length fc)∧wk.cell? ⟨w.heap.size,1,none⟩=some (.slice ca S.cs.length cc)∧wk.cell? ⟨w.heap.size,2,none⟩=some (.int .i64 S.st)∧wk.cell? ⟨w.heap.size,3,none⟩=some (.int .i64 S.wh):=fun wk hk => ⟨below_at hk i0,below_at hk i1,below_at hk i2,below_at hk i3⟩
 have hpk : ∀ wk,Below w.heap.size w wk→ProcsAt M wk (.slice pa np pc) np P:=fun wk hk => hp.below (hk.mono hM)
 by_cases hv : vmErr np P S=0
 ·by_cases h0 : S.st=0
  ·obtain ⟨hc,ok,hce⟩:=vmErr_right hv
   refine vp_good S M pa fa ca za pc fc cc l.length zc _ (fun i => l.getD i 0) w W hW b0 hX (HR.up b0) hM hpk hs ⟨hc,ok,hce⟩ h0 (fun wk hk hl => ?_) (by have:=hz.le; have:=hz.big; omega) rfl (slice_toI za _ zc _ (by have:=hz.le; omega) hz.big fun h => (hz.nil h).2)
   cases za with
   | none => rw [(hz.nil rfl).1] at hl; simp at hl
   | some p =>
    rcases (hz.below hk).one p rfl with e | ⟨b,o,rfl,_,hcell⟩
    ·rw [e] at hl; simp at hl
    ·exact ⟨b,o,rfl,fun i hi => hcell i _ (by simp [hi])⟩
  ·exact vp_bad pa np pc _ _ _ S.st S.wh 0 w W hW b0 hX (HR.up b0) (fun wk hk => by
    have:=vmCheck M _ _ _ np P S wk (Nat.le_trans hM (below_step b0 hk).size) (hpk wk (below_step b0 hk)) (hs.below (below_step b0 hk))
    rw [hv] at this
    exact this) (Or.inr h0)
 ·exact vp_bad pa np pc _ _ _ S.st S.wh (vmErr np P S) w W hW b0 hX (HR.up b0) (fun wk hk =>
   vmCheck M _ _ _ np P S wk (Nat.le_trans hM (below_step b0 hk).size) (hpk wk (below_step b0 hk)) (hs.below (below_step b0 hk))) (Or.inl hv)
end Go.Proofs.YtfaokaohhchdhaaGreatDoor
