/- giveBack. -/
import Derived.Test.YtipnjoahobplhaaGreatDoorPart19
namespace Go.Proofs.YtipnjoahobplhaaGreatDoor
open Go.RowKit Go.Maps
set_option maxHeartbeats 2000000 in
theorem back_end (X g cap : Nat) (v1 v2 to : Int) (w W : World) (HW : Hid (w.alloc (.cells #[.int .i64 v1,.int .i64 v2] 61) = W))
  (HF : Hid (Calls Tryz.prog 83 #[.pointer (some ⟨X,0,none⟩)] W fun e w' => e = .returned (.pointer (some ⟨g,0 * 4,none⟩))∧Below W.heap.size W w'))
  (HG : Hid (∀ wi,Below W.heap.size W wi→wi.cell? ⟨X,1,none⟩ = some (.slice (some ⟨g,0,none⟩) 1 cap)∧(∃ v,wi.cell? ⟨X,3,none⟩ = some v)∧wi.cell? ⟨g,3,none⟩ = some (.int .i64 to)∧(∀ i,wi.frozen? ⟨X,i,none⟩ = false))) (hcap : 1 ≤ cap) :
  Calls Tryz.prog 105 #[.pointer (some ⟨X,0,none⟩),.agg #[.int .i64 v1,.int .i64 v2]] w fun e w' => (∃ v,e = .returned v)∧Hid (∃ w1,Below W.heap.size W w1∧w' = ((w1.setCell ⟨X,1,none⟩ (.slice (some ⟨g,0,none⟩) 0 cap)).setCell ⟨X,3,none⟩ (.int .i64 1)).drew):=by
 go_enter Tryz.func105,Tryz.ntmps105
 go_upto_region 1 with (fail)
 rw [HW.out]
 go_upto_region 2 with (go_at_call 83; refine HF.out.mono ?_; rintro e w1 ⟨rfl,hb1⟩; obtain ⟨q1,⟨v3,q3⟩,q4,q5⟩:=HG.out w1 hb1; have q51:=q5 1; have q53:=q5 3; clear q5)
 go_region
 all_goals
  have HB1 : Hid (Below W.heap.size W w1):=hb1
  clear hb1
  go_wp2
  refine bodyPost_ret (results_none rfl _ _ _) rfl ?_
  exact ⟨⟨_,rfl⟩,_,HB1.out,rfl⟩
theorem set2_keep {w : World} {rb a b g d e : Nat} {x y v1 v2 v3 : Value} (h1 : ¬ rb = a) (h2 : ¬ rb = g) (h : w.cell? ⟨a,0,none⟩ = some v1∧w.cell? ⟨a,1,none⟩ = some v2∧w.cell? ⟨g,b,none⟩ = some v3) :
  ((w.setCell ⟨rb,d,none⟩ x).setCell ⟨rb,e,none⟩ y).cell? ⟨a,0,none⟩ = some v1∧((w.setCell ⟨rb,d,none⟩ x).setCell ⟨rb,e,none⟩ y).cell? ⟨a,1,none⟩ = some v2∧((w.setCell ⟨rb,d,none⟩ x).setCell ⟨rb,e,none⟩ y).cell? ⟨g,b,none⟩ = some v3:=by
 have k : ∀ p : Addr,¬ p.block = rb→((w.setCell ⟨rb,d,none⟩ x).setCell ⟨rb,e,none⟩ y).cell? p = w.cell? p:=fun p hp => World.cell?_of_block ((Below.heap_setCell _ _ _ _ hp).trans (Below.heap_setCell _ _ _ _ hp))
 exact ⟨(k _ fun e => h1 e.symm).trans h.1,(k _ fun e => h1 e.symm).trans h.2.1,(k _ fun e => h2 e.symm).trans h.2.2⟩
set_option maxHeartbeats 2000000 in
theorem back_more (X g m rb rc n to : Nat) (cap : Nat) (v1 v2 : Int) (w W : World) (Kp : World→Prop) (HW : Hid (w.alloc (.cells #[.int .i64 v1,.int .i64 v2] 61) = W))
  (HF : Hid (Calls Tryz.prog 83 #[.pointer (some ⟨X,0,none⟩)] W fun e w' => e = .returned (.pointer (some ⟨g,(m + 1) * 4,none⟩))∧Below W.heap.size W w'))
  (HG : Hid (∀ wi,Below W.heap.size W wi→wi.cell? ⟨X,1,none⟩ = some (.slice (some ⟨g,0,none⟩) (m + 1 + 1) cap)∧wi.cell? ⟨g,(m + 1) * 4 + 3,none⟩ = some (.int .i64 to)∧(∀ i,wi.frozen? ⟨X,i,none⟩ = false)))
  (HK : Hid (∀ w1,Below W.heap.size W w1→Kp (w1.setCell ⟨X,1,none⟩ (.slice (some ⟨g,0,none⟩) (m + 1) cap)).drew))
  (HK2 : Hid (∀ w1,Kp w1→Kp w1.drew)) (HK3 : Hid (∀ w1 w2,Kp w1→Below w1.heap.size w1 w2→Kp w2))
  (HF2 : Hid (∀ wi,Kp wi→Calls Tryz.prog 83 #[.pointer (some ⟨X,0,none⟩)] wi fun e w' => e = .returned (.pointer (some ⟨g,m * 4,none⟩))∧Below wi.heap.size wi w'))
  (HC : Hid (∀ wi,Kp wi→wi.cell? ⟨w.heap.size,0,none⟩ = some (.int .i64 v1)∧wi.cell? ⟨w.heap.size,1,none⟩ = some (.int .i64 v2)∧wi.cell? ⟨g,m * 4 + 2,none⟩ = some (.slice (some ⟨rb,0,none⟩) n rc)))
  (HD : Hid (∀ wi,Kp wi→(∃ v,wi.cell? ⟨rb,to * 2,none⟩ = some v)∧(∃ v,wi.cell? ⟨rb,to * 2 + 1,none⟩ = some v)∧(∀ i,wi.frozen? ⟨rb,i,none⟩ = false)))
  (hne1 : ¬ rb = w.heap.size) (hne2 : ¬ rb = g) (hto : to < n) (hm : m ≤ 1000) (hcap : m + 1 + 1 ≤ cap) :
  Calls Tryz.prog 105 #[.pointer (some ⟨X,0,none⟩),.agg #[.int .i64 v1,.int .i64 v2]] w fun e w' => (∃ v,e = .returned v)∧Hid (∃ w1,Kp w1∧w' = (w1.setCell ⟨rb,to * 2,none⟩ (.int .i64 v1)).setCell ⟨rb,to * 2 + 1,none⟩ (.int .i64 v2)):=by
 have h1 : (0 : Int) ≤ (to : Int):=by omega
 have h2 : (to : Int) < (n : Int):=by omega
 have hw1 : IntKind.i64.wrap ((m : Int) + 1) = (m : Int) + 1:=Go.IntWalk.i64_in _ (by omega)
 have hw2 : IntKind.i64.wrap ((m : Int) + 1 + 1 - 1) = (m : Int) + 1:=by rw [Int.add_sub_cancel]; exact hw1
 go_enter Tryz.func105,Tryz.ntmps105
 go_upto_region 1 with (fail)
 rw [HW.out]
 go_upto_region 2 with (go_at_call 83; refine HF.out.mono ?_; rintro e w1 ⟨rfl,hb1⟩; obtain ⟨q1,q4,q5⟩:=HG.out w1 hb1; have q51:=q5 1; clear q5)
 go_region
 all_goals
  have HK1 : Hid (Kp (w1.setCell ⟨X,1,none⟩ (.slice (some ⟨g,0,none⟩) (m + 1) cap)).drew):=HK.out w1 hb1
  have q6 : (w1.setCell ⟨X,1,none⟩ (.slice (some ⟨g,0,none⟩) (m + 1) cap)).drew.cell? ⟨X,1,none⟩ = some (.slice (some ⟨g,0,none⟩) (m + 1) cap):=World.cell?_setCell_same _ _ _ q1
  clear hb1 q4
  generalize (w1.setCell ⟨X,1,none⟩ (.slice (some ⟨g,0,none⟩) (m + 1) cap)).drew = w3 at *
  clear q1 q51
  go_upto_region 5 with (fail)
  go_region_held3 (fun w' => w'.cell? ⟨w.heap.size,0,none⟩ = some (.int .i64 v1)∧w'.cell? ⟨w.heap.size,1,none⟩ = some (.int .i64 v2)∧w'.cell? ⟨g,m * 4 + 2,none⟩ = some (.slice (some ⟨rb,0,none⟩) n rc))
   (first
    | exact HC.out _ (HK2.out _ HK1.out)
    | exact HC.out _ HK5.out
    | exact set2_keep hne1 hne2 (HC.out _ HK5.out))
   (first | (go_at_call 83; refine (HF2.out _ (HK2.out _ HK1.out)).mono ?_; rintro e w5 ⟨rfl,hb5⟩; have HK5 : Hid (Kp w5):=HK3.out _ _ (HK2.out _ HK1.out) hb5; obtain ⟨⟨v7,d7⟩,⟨v8,d8⟩,d9⟩:=HD.out w5 HK5.out; have d91:=d9 (to * 2); have d92:=d9 (to * 2 + 1); clear d9 hb5))
  all_goals
   go_wp2
   go_end0
   exact ⟨⟨_,rfl⟩,_,HK5.out,rfl⟩
theorem own_keepX {X B : Nat} {w w' : World} {fv cv : Value} {rv xv : List Value} {S : Sta} {cur : Array Value} (hbox : w.heap[X]? = some (.cells cur 78 (0,0))) (h : Own B w fv cv rv xv S) (hk : ∀ k,¬ k = X→w'.heap[k]? = w.heap[k]?) : Own B w' fv cv rv xv S:=by
 have go : ∀ {e size v n xs},w.ownsRow B e size v n xs→¬ e = 78→w'.ownsRow B e size v n xs:=fun hr hne => ownsRow_block hr fun g hg => hk g fun e2 => by
  obtain ⟨c,fz,k⟩:=Lib.ownsRow_kind hr g hg
  rw [e2,hbox] at k
  injection k with k
  injection k with _ k2 _
  exact hne k2.symm
 refine ⟨go h.fr (by decide),go h.ce (by decide),h.rl,fun i hi => ?_,fun i hi => ?_,h.rr,h.xx,h.rx⟩
 ·obtain ⟨u,h1,h2⟩:=h.regs i hi; exact ⟨u,h1,go h2 (by decide)⟩
 ·obtain ⟨u,h1,h2⟩:=h.cells i hi; exact ⟨u,h1,go h2 (by decide)⟩
theorem RunAt.pop {X B : Nat} {w w' : World} {pv cv sv : Value} {rv xv : List Value} {R : Rn} {g m cap : Nat} (h : RunAt X B w pv (.slice (some ⟨g,0,none⟩) (m + 1) cap) cv sv rv xv R) (st : Int)
  (hb : w'.heap[X]? = some (.cells #[pv,.slice (some ⟨g,0,none⟩) m cap,cv,.int .i64 st,.int .i64 R.s.wh,sv,.bool R.paused] 78 (0,0))) (hk : ∀ k,¬ k = X→w'.heap[k]? = w.heap[k]?) :
  RunAt X B w' pv (.slice (some ⟨g,0,none⟩) m cap) cv sv (rv.take m) xv ⟨⟨R.s.fs.take m,R.s.cs,st,R.s.wh⟩,R.said,R.paused⟩:=by
 have h1:=own_keepX h.box h.own.pop hk
 exact ⟨hb,⟨h1.fr,h1.ce,h1.rl,h1.regs,h1.cells,h1.rr,h1.xx,h1.rx⟩,(h.setX hk).2,h.hX⟩
theorem Own.capF {B : Nat} {w : World} {cv : Value} {rv xv : List Value} {S : Sta} {g n cap : Nat} (h : Own B w (.slice (some ⟨g,0,none⟩) n cap) cv rv xv S) : n ≤ cap:=by
 rcases h.fr.2 with ⟨h0,_⟩ | ⟨_,_,_,hv,_,_,hn,_⟩
 ·cases h0
 ·injection hv with _ h2 h3
  omega
theorem backM {np : Nat} {P : Nat→Pc} (X B : Nat) (v : Int × Int) (w : World) (pv : Value) (R : Rn) (hc : CodeOK np P) (hs : StaOK np P R.s) (hst : R.s.st = 0) (h : RA X B w pv R) :
  Calls Tryz.prog 105 #[.pointer (some ⟨X,0,none⟩),.agg #[.int .i64 v.1,.int .i64 v.2]] w fun e w' => (∃ v,e = .returned v)∧Hid (RA X B w' pv ⟨backS R.s v,R.said,R.paused⟩∧Below B w w'):=by
 obtain ⟨fv,cv,sv,rv,xv,h⟩:=h
 have hn : ¬ R.s.fs.length = 0:=hs.unfin (by omega)
 have hrl : ∀ k,k < R.s.fs.length→1 ≤ (fmAt R.s.fs k).regs.length:=fun k hk => by
  have q:=hs.frames k hk
  have:=hc.r0 _ (show (fmAt R.s.fs k).proc.toNat < np by have:=q.p0; have:=q.p1; omega)
  have:=q.len
  omega
 have htl:=hrl (R.s.fs.length - 1) (by omega)
 obtain ⟨g,m,cap,rb,rc,rfl,hfl,hrv,T⟩:=h.top hn (by unfold topF; omega)
 have hcap:=h.own.capF
 have hfew:=hs.few
 obtain ⟨W,hW⟩ : ∃ W,w.alloc (.cells #[.int .i64 v.1,.int .i64 v.2] 61) = W:=⟨_,rfl⟩
 have b0 : Below w.heap.size w W:=hW ▸ below_alloc w _
 have x0 : W.cell? ⟨w.heap.size,0,none⟩ = some (.int .i64 v.1):=by rw [← hW,World.cell?_alloc_new]; rfl
 have x1 : W.cell? ⟨w.heap.size,1,none⟩ = some (.int .i64 v.2):=by rw [← hW,World.cell?_alloc_new]; rfl
 have hBw : B ≤ w.heap.size:=Nat.le_trans h.hX (Nat.le_of_lt h.lt)
 have HF : Hid (Calls Tryz.prog 83 #[.pointer (some ⟨X,0,none⟩)] W fun e w' => e = .returned (.pointer (some ⟨g,m * 4,none⟩))∧Below W.heap.size W w'):=vframe X B W pv cv sv g m cap rv xv R (h.below b0) (by omega)
 have hRW : ∀ wi,Below W.heap.size W wi→RunAt X B wi pv (.slice (some ⟨g,0,none⟩) (m + 1) cap) cv sv rv xv R:=fun wi hw => (h.below b0).below hw
 have hBX:=h.hX
 cases m with
 | zero =>
  have:=back_end X g cap v.1 v.2 (topF R.s).to w W hW HF (fun wi hw => by
   obtain ⟨_,c1,_,c3,_,_,_,c7⟩:=(hRW wi hw).cells
   have t3:=(((T.below b0).below hw).c3)
   rw [Nat.zero_mul,Nat.zero_add] at t3
   exact ⟨c1,⟨_,c3⟩,t3,c7⟩) (by omega)
  refine this.mono ?_
  rintro e w' ⟨he,w1,hw1,rfl⟩
  refine ⟨he,?_,?_⟩
  ·have h1:=hRW w1 hw1
   have q1:=heap_setCell_same w1 X 1 _ _ (.slice (some ⟨g,0,none⟩) 0 cap) h1.box
   have q2:=heap_setCell_same _ X 3 _ _ (.int .i64 1) q1
   have:=h1.pop (w':=((w1.setCell ⟨X,1,none⟩ (.slice (some ⟨g,0,none⟩) 0 cap)).setCell ⟨X,3,none⟩ (.int .i64 1)).drew) 1 q2 (fun k hk => (Below.heap_setCell _ _ _ k hk).trans (Below.heap_setCell _ _ _ k hk))
   unfold backS
   rw [if_pos (by omega)]
   rw [List.take_zero] at this
   exact ⟨_,_,_,_,_,this⟩
  ·have k1 : Below B w w1:=(b0.mono hBw).trans (hw1.mono (Nat.le_trans hBw b0.size))
   exact ((k1.setCell hBX _).setCell hBX _).drew
 | succ m =>
  have hm1 : m < R.s.fs.length:=by omega
  obtain ⟨u,k0,_,_,_,_,k5⟩:=h.own.fcells hm1
  obtain ⟨rb2,rc2,rfl⟩:=k5.shape (by have:=hrl m hm1; omega)
  have hto0:=(hs.top hn).t0
  have hto1:=(hs.top hn).t1
  have hah : ahead R.s.fs (R.s.fs.length - 1) = (fmAt R.s.fs m).regs.length:=by
   unfold ahead
   rw [if_neg (by omega),show R.s.fs.length - 1 - 1 = m by omega]
  rw [hah] at hto1
  obtain ⟨to,hto⟩:=nat_of hto0
  have hrt : (rv.take (m + 1))[m]? = some (.slice (some ⟨rb2,0,none⟩) (fmAt R.s.fs m).regs.length rc2):=by rw [List.getElem?_take_of_lt (by omega)]; exact k0
  have hpt : topF (popS R.s) = fmAt R.s.fs m:=by
   unfold topF popS
   simp only [List.length_take]
   rw [show min (R.s.fs.length - 1) R.s.fs.length - 1 = m by omega,fmAt_take (by omega)]
  have hpe : (⟨⟨R.s.fs.take (m + 1),R.s.cs,R.s.st,R.s.wh⟩,R.said,R.paused⟩ : Rn) = ⟨popS R.s,R.said,R.paused⟩:=by unfold popS; rw [show R.s.fs.length - 1 = m + 1 by omega]
  have hpl : (popS R.s).fs.length = m + 1:=by unfold popS; simp; omega
  have gap : ∀ wi,RunAt X B wi pv (.slice (some ⟨g,0,none⟩) (m + 1) cap) cv sv (rv.take (m + 1)) xv ⟨popS R.s,R.said,R.paused⟩→TopAt B wi g m rb2 rc2 (fmAt R.s.fs m):=fun wi hr => by
   obtain ⟨g',m',cap',rb',rc',e1,e2,e3,T2⟩:=hr.top (by show ¬ (popS R.s).fs.length = 0; omega) (by show ¬ (topF (popS R.s)).regs.length = 0; rw [hpt]; have:=hrl m hm1; omega)
   injection e1 with e1 e1' e1''
   injection e1 with e1
   injection e1 with e1 _ _
   have em : m' = m:=by omega
   subst e1 em
   have e3' : (rv.take (m' + 1))[m']? = some (.slice (some ⟨rb',0,none⟩) (topF (popS R.s)).regs.length rc'):=e3
   rw [hrt,hpt] at e3'
   injection e3' with e3'
   injection e3' with e4 _ e5
   injection e4 with e4
   injection e4 with e4 _ _
   subst e4 e5
   have T3 : TopAt B wi g m' rb2 rc2 (topF (popS R.s)):=T2
   rw [hpt] at T3
   exact T3
  let Kp : World→Prop:=fun wi => RunAt X B wi pv (.slice (some ⟨g,0,none⟩) (m + 1) cap) cv sv (rv.take (m + 1)) xv ⟨popS R.s,R.said,R.paused⟩∧wi.cell? ⟨w.heap.size,0,none⟩ = some (.int .i64 v.1)∧wi.cell? ⟨w.heap.size,1,none⟩ = some (.int .i64 v.2)∧Below B w wi
  have hXne : ¬ w.heap.size = X:=by have:=h.lt; omega
  have HK : Hid (∀ w1,Below W.heap.size W w1→Kp (w1.setCell ⟨X,1,none⟩ (.slice (some ⟨g,0,none⟩) (m + 1) cap)).drew):=fun w1 hw1 => by
   have h1:=hRW w1 hw1
   have q1:=heap_setCell_same w1 X 1 _ _ (.slice (some ⟨g,0,none⟩) (m + 1) cap) h1.box
   have hp:=h1.pop (w':=(w1.setCell ⟨X,1,none⟩ (.slice (some ⟨g,0,none⟩) (m + 1) cap)).drew) R.s.st q1 (fun k hk => Below.heap_setCell _ _ _ k hk)
   rw [hpe] at hp
   have k1 : Below B w w1:=(b0.mono hBw).trans (hw1.mono (Nat.le_trans hBw b0.size))
   have kc : ∀ i,(w1.setCell ⟨X,1,none⟩ (.slice (some ⟨g,0,none⟩) (m + 1) cap)).drew.cell? ⟨w.heap.size,i,none⟩ = w1.cell? ⟨w.heap.size,i,none⟩:=fun i => World.cell?_of_block (w:=w1) (a:=⟨w.heap.size,i,none⟩) (Below.heap_setCell w1 _ _ _ hXne)
   exact ⟨hp,(kc 0).trans (below_at hw1 x0),(kc 1).trans (below_at hw1 x1),(k1.setCell hBX _).drew⟩
  have hK3 : ∀ w1 w2,Kp w1→Below w1.heap.size w1 w2→Kp w2:=fun w1 w2 k hw => ⟨k.1.below hw,below_at hw k.2.1,below_at hw k.2.2.1,k.2.2.2.trans (hw.mono (Nat.le_trans hBX (Nat.le_of_lt k.1.lt)))⟩
  have:=back_more X g m rb2 rc2 (fmAt R.s.fs m).regs.length to cap v.1 v.2 w W Kp hW HF (fun wi hw => by
   obtain ⟨_,c1,_,_,_,_,_,c7⟩:=(hRW wi hw).cells
   have t3:=(((T.below b0).below hw).c3)
   rw [hto] at t3
   exact ⟨c1,t3,c7⟩) HK (fun w1 k => hK3 _ _ k (Below.refl _ _).drew) hK3
   (fun wi k => vframe X B wi pv cv sv g m cap _ xv _ k.1 (by omega))
   (fun wi k => ⟨k.2.1,k.2.2.1,(gap wi k.1).c2⟩)
   (fun wi k => ⟨⟨_,(gap wi k.1).r0 to (by omega)⟩,⟨_,(gap wi k.1).r1 to (by omega)⟩,(gap wi k.1).rz⟩)
   (by have:=(k5.lt rb2 rfl).2; omega) (fun e => ownsRow_apart k5 h.own.fr (by decide) (by rfl) (by rw [e]; rfl)) (by omega) (by omega) (by omega)
  refine this.mono ?_
  rintro e w' ⟨he,w1,k1,rfl⟩
  obtain ⟨r1,r2⟩:=k1.1.setReg (m:=m) hpl (by show _ = some (Value.slice _ (topF (popS R.s)).regs.length _); rw [hpt]; exact hrt) (k:=to) (by show _ < (topF (popS R.s)).regs.length; rw [hpt]; omega) v
  refine ⟨he,?_,k1.2.2.2.trans r2⟩
  unfold backS
  rw [if_neg (by omega),hto]
  exact r1
theorem vbox (w : World) (op a b c : Int) (av : Value) : ∃ W,(w.alloc (.cells #[.int .i64 op,.int .i64 a,.int .i64 b,.int .i64 c,av] 81)).alloc (.cells #[.int .i64 0,.int .i64 0] 61) = W∧Below w.heap.size w W∧W.heap.size = w.heap.size + 2∧W.cell? ⟨w.heap.size,0,none⟩ = some (.int .i64 op)∧W.cell? ⟨w.heap.size,1,none⟩ = some (.int .i64 a)∧W.cell? ⟨w.heap.size,2,none⟩ = some (.int .i64 b)∧W.cell? ⟨w.heap.size,3,none⟩ = some (.int .i64 c)∧W.cell? ⟨w.heap.size,4,none⟩ = some av∧Box 61 (w.heap.size + 1) W #[.int .i64 0,.int .i64 0]:=by
 obtain ⟨W1,h0,h1,h2,h3,h4,h5,h6,h7⟩:=ibox w op a b c av
 rw [h0]
 have hb:=below_alloc W1 (.cells #[.int .i64 0,.int .i64 0] 61)
 refine ⟨_,rfl,below_step h1 hb,by simp; omega,below_at hb h3,below_at hb h4,below_at hb h5,below_at hb h6,below_at hb h7,?_⟩
 have:=box_new W1 #[.int .i64 0,.int .i64 0] 61
 rw [h2] at this
 exact this
theorem vres (w W w1 : World) (x y : Value) (hb0 : Below w.heap.size w W) (hs : W.heap.size = w.heap.size + 2) (h0 : Box 61 (w.heap.size + 1) W #[.int .i64 0,.int .i64 0]) (hb : Below W.heap.size W w1) : w1.cell? ⟨w.heap.size + 1,0,none⟩ = some (.int .i64 0)∧w1.cell? ⟨w.heap.size + 1,1,none⟩ = some (.int .i64 0)∧w1.frozen? ⟨w.heap.size + 1,0,none⟩ = false∧w1.frozen? ⟨w.heap.size + 1,1,none⟩ = false∧Hid (((w1.setCell ⟨w.heap.size + 1,0,none⟩ x).setCell ⟨w.heap.size + 1,1,none⟩ y).heap[w.heap.size + 1]? = some (.cells #[x,y] 61 (0,0)))∧Hid (Below w.heap.size w ((w1.setCell ⟨w.heap.size + 1,0,none⟩ x).setCell ⟨w.heap.size + 1,1,none⟩ y)):=by
 obtain ⟨q0,q1,q2,q3,q4⟩:=res2at W w1 (w.heap.size + 1) _ _ _ x y h0 hb (by omega)
 exact ⟨q0,q1,q2,q3,q4,((hb0.trans (hb.mono hb0.size)).setCell (by show w.heap.size ≤ w.heap.size + 1; omega) _).setCell (by show w.heap.size ≤ w.heap.size + 1; omega) _⟩
set_option maxHeartbeats 2000000 in
theorem value_num (X g m rb rc n : Nat) (a b c : Int) (aa : Option Addr) (an ac : Nat) (w W : World) (HW : Hid ((w.alloc (.cells #[.int .i64 1,.int .i64 a,.int .i64 b,.int .i64 c,.slice aa an ac] 81)).alloc (.cells #[.int .i64 0,.int .i64 0] 61) = W))
  (HF : Hid (Calls Tryz.prog 83 #[.pointer (some ⟨X,0,none⟩)] W fun e w' => e = .returned (.pointer (some ⟨g,m * 4,none⟩))∧Below W.heap.size W w'))
  (HG : Hid (∀ wi,Below W.heap.size W wi→wi.cell? ⟨g,m * 4 + 2,none⟩ = some (.slice (some ⟨rb,0,none⟩) n rc)∧wi.cell? ⟨w.heap.size,0,none⟩ = some (.int .i64 1)∧wi.cell? ⟨w.heap.size,2,none⟩ = some (.int .i64 b)))
  (hb0 : Below w.heap.size w W) (hs : W.heap.size = w.heap.size + 2) (h0 : Box 61 (w.heap.size + 1) W #[.int .i64 0,.int .i64 0]) :
  Calls Tryz.prog 138 #[.pointer (some ⟨X,0,none⟩),.agg #[.int .i64 1,.int .i64 a,.int .i64 b,.int .i64 c,.slice aa an ac]] w fun e w' => e = .returned (.tuple #[.agg #[.int .i64 1,.int .i64 b],.bool true])∧Below w.heap.size w w':=by
 have HV : Hid (∀ w1,Below W.heap.size W w1→w1.cell? ⟨w.heap.size + 1,0,none⟩ = some (.int .i64 0)∧w1.cell? ⟨w.heap.size + 1,1,none⟩ = some (.int .i64 0)∧w1.frozen? ⟨w.heap.size + 1,0,none⟩ = false∧w1.frozen? ⟨w.heap.size + 1,1,none⟩ = false∧Hid (((w1.setCell ⟨w.heap.size + 1,0,none⟩ (.int .i64 1)).setCell ⟨w.heap.size + 1,1,none⟩ (.int .i64 b)).heap[w.heap.size + 1]? = some (.cells #[.int .i64 1,.int .i64 b] 61 (0,0)))∧Hid (Below w.heap.size w ((w1.setCell ⟨w.heap.size + 1,0,none⟩ (.int .i64 1)).setCell ⟨w.heap.size + 1,1,none⟩ (.int .i64 b)))):=fun w1 hb => vres w W w1 _ _ hb0 hs h0 hb
 clear hb0 hs h0
 go_enter Tryz.func138,Tryz.ntmps138
 go_upto_region 1 with (fail)
 rw [HW.out]
 go_upto_region 2 with (go_at_call 83; refine HF.out.mono ?_; rintro e w1 ⟨rfl,hb1⟩; obtain ⟨q0,q1,q2⟩:=HG.out w1 hb1)
 go_wp2_with (go_at_call 156; refine (vnumber _ _).mono ?_; rintro e w2 ⟨rfl,hb2⟩; obtain ⟨z0,z1,z2,z3,z4,z5⟩:=HV.out w2 (below_step hb1 hb2))
 refine bodyPost_ret (results_row_tmp rfl _ _ (w.heap.size + 1) 61 _ (0,0) _ rfl z4.out Tryz.underlying61 rfl (by kernel_rfl)) rfl ?_
 exact ⟨rfl,z5.out⟩
set_option maxHeartbeats 2000000 in
theorem value_move (X g m rb rc n b : Nat) (a c kb zb : Int) (aa : Option Addr) (an ac : Nat) (w W : World) (HW : Hid ((w.alloc (.cells #[.int .i64 2,.int .i64 a,.int .i64 b,.int .i64 c,.slice aa an ac] 81)).alloc (.cells #[.int .i64 0,.int .i64 0] 61) = W))
  (HF : Hid (Calls Tryz.prog 83 #[.pointer (some ⟨X,0,none⟩)] W fun e w' => e = .returned (.pointer (some ⟨g,m * 4,none⟩))∧Below W.heap.size W w'))
  (HG : Hid (∀ wi,Below W.heap.size W wi→wi.cell? ⟨g,m * 4 + 2,none⟩ = some (.slice (some ⟨rb,0,none⟩) n rc)∧wi.cell? ⟨w.heap.size,0,none⟩ = some (.int .i64 2)∧wi.cell? ⟨w.heap.size,2,none⟩ = some (.int .i64 b)∧wi.cell? ⟨rb,b * 2,none⟩ = some (.int .i64 kb)∧wi.cell? ⟨rb,b * 2 + 1,none⟩ = some (.int .i64 zb)))
  (hb : b < n) (hb0 : Below w.heap.size w W) (hs : W.heap.size = w.heap.size + 2) (h0 : Box 61 (w.heap.size + 1) W #[.int .i64 0,.int .i64 0]) :
  Calls Tryz.prog 138 #[.pointer (some ⟨X,0,none⟩),.agg #[.int .i64 2,.int .i64 a,.int .i64 b,.int .i64 c,.slice aa an ac]] w fun e w' => e = .returned (.tuple #[.agg #[.int .i64 kb,.int .i64 zb],.bool true])∧Below w.heap.size w w':=by
 have HV : Hid (∀ w1,Below W.heap.size W w1→w1.cell? ⟨w.heap.size + 1,0,none⟩ = some (.int .i64 0)∧w1.cell? ⟨w.heap.size + 1,1,none⟩ = some (.int .i64 0)∧w1.frozen? ⟨w.heap.size + 1,0,none⟩ = false∧w1.frozen? ⟨w.heap.size + 1,1,none⟩ = false∧Hid (((w1.setCell ⟨w.heap.size + 1,0,none⟩ (.int .i64 kb)).setCell ⟨w.heap.size + 1,1,none⟩ (.int .i64 zb)).heap[w.heap.size + 1]? = some (.cells #[.int .i64 kb,.int .i64 zb] 61 (0,0)))∧Hid (Below w.heap.size w ((w1.setCell ⟨w.heap.size + 1,0,none⟩ (.int .i64 kb)).setCell ⟨w.heap.size + 1,1,none⟩ (.int .i64 zb)))):=fun w1 hb => vres w W w1 _ _ hb0 hs h0 hb
 have h1 : (0 : Int) ≤ (b : Int):=by omega
 have h2 : (b : Int) < (n : Int):=by omega
 clear hb0 hs h0
 go_enter Tryz.func138,Tryz.ntmps138
 go_upto_region 1 with (fail)
 rw [HW.out]
 go_upto_region 2 with (go_at_call 83; refine HF.out.mono ?_; rintro e w1 ⟨rfl,hb1⟩; obtain ⟨q0,q1,q2,q3,q4⟩:=HG.out w1 hb1; obtain ⟨z0,z1,z2,z3,z4,z5⟩:=HV.out w1 hb1)
 go_wp2_with (fail)
 refine bodyPost_ret (results_row_tmp rfl _ _ (w.heap.size + 1) 61 _ (0,0) _ rfl z4.out Tryz.underlying61 rfl (by kernel_rfl)) rfl ?_
 exact ⟨rfl,z5.out⟩
set_option maxHeartbeats 2000000 in
theorem value_op (X g m rb rc n b c : Nat) (a z kb zb kc zc : Int) (ok : Bool) (Pk : Int→Int→Prop) (ab ao ac : Nat) (w W : World) (HW : Hid ((w.alloc (.cells #[.int .i64 3,.int .i64 a,.int .i64 b,.int .i64 c,.slice (some ⟨ab,ao,none⟩) 1 ac] 81)).alloc (.cells #[.int .i64 0,.int .i64 0] 61) = W))
  (HF : Hid (Calls Tryz.prog 83 #[.pointer (some ⟨X,0,none⟩)] W fun e w' => e = .returned (.pointer (some ⟨g,m * 4,none⟩))∧Below W.heap.size W w'))
  (HO : Hid (∀ wi,Calls Tryz.prog 157 #[.int .i64 z,.agg #[.int .i64 kb,.int .i64 zb],.agg #[.int .i64 kc,.int .i64 zc]] wi fun e w' => ∃ k v,e = .returned (.tuple #[.agg #[.int .i64 k,.int .i64 v],.bool ok])∧Hid (Pk k v)∧Below wi.heap.size wi w'))
  (HG : Hid (∀ wi,Below W.heap.size W wi→wi.cell? ⟨g,m * 4 + 2,none⟩ = some (.slice (some ⟨rb,0,none⟩) n rc)∧wi.cell? ⟨w.heap.size,0,none⟩ = some (.int .i64 3)))
  (HC : Hid (∀ wi,Below W.heap.size W wi→wi.cell? ⟨w.heap.size,4,none⟩ = some (.slice (some ⟨ab,ao,none⟩) 1 ac)∧wi.cell? ⟨ab,ao,none⟩ = some (.int .i64 z)∧wi.cell? ⟨w.heap.size,2,none⟩ = some (.int .i64 b)∧wi.cell? ⟨rb,b * 2,none⟩ = some (.int .i64 kb)∧wi.cell? ⟨rb,b * 2 + 1,none⟩ = some (.int .i64 zb)∧wi.cell? ⟨w.heap.size,3,none⟩ = some (.int .i64 c)∧wi.cell? ⟨rb,c * 2,none⟩ = some (.int .i64 kc)∧wi.cell? ⟨rb,c * 2 + 1,none⟩ = some (.int .i64 zc)))
  (hb : b < n) (hc : c < n) (hab : ¬ ab = w.heap.size + 1) (hrb : ¬ rb = w.heap.size + 1) (hb0 : Below w.heap.size w W) (hs : W.heap.size = w.heap.size + 2) (h0 : Box 61 (w.heap.size + 1) W #[.int .i64 0,.int .i64 0]) :
  Calls Tryz.prog 138 #[.pointer (some ⟨X,0,none⟩),.agg #[.int .i64 3,.int .i64 a,.int .i64 b,.int .i64 c,.slice (some ⟨ab,ao,none⟩) 1 ac]] w fun e w' => ∃ k v,e = .returned (.tuple #[.agg #[.int .i64 k,.int .i64 v],.bool ok])∧Hid (Pk k v)∧Below w.heap.size w w':=by
 have HV : Hid (∀ (k v : Int) (w1 : World),Below W.heap.size W w1→w1.cell? ⟨w.heap.size + 1,0,none⟩ = some (.int .i64 0)∧w1.cell? ⟨w.heap.size + 1,1,none⟩ = some (.int .i64 0)∧w1.frozen? ⟨w.heap.size + 1,0,none⟩ = false∧w1.frozen? ⟨w.heap.size + 1,1,none⟩ = false∧Hid (((w1.setCell ⟨w.heap.size + 1,0,none⟩ (.int .i64 k)).setCell ⟨w.heap.size + 1,1,none⟩ (.int .i64 v)).heap[w.heap.size + 1]? = some (.cells #[.int .i64 k,.int .i64 v] 61 (0,0)))∧Hid (Below w.heap.size w ((w1.setCell ⟨w.heap.size + 1,0,none⟩ (.int .i64 k)).setCell ⟨w.heap.size + 1,1,none⟩ (.int .i64 v)))):=fun k v w1 hb => vres w W w1 _ _ hb0 hs h0 hb
 have HKS : Hid (∀ (w3 : World) (x y : Value),Below W.heap.size W w3→((w3.setCell ⟨w.heap.size + 1,0,none⟩ x).setCell ⟨w.heap.size + 1,1,none⟩ y).cell? ⟨w.heap.size,4,none⟩ = some (.slice (some ⟨ab,ao,none⟩) 1 ac)∧((w3.setCell ⟨w.heap.size + 1,0,none⟩ x).setCell ⟨w.heap.size + 1,1,none⟩ y).cell? ⟨ab,ao,none⟩ = some (.int .i64 z)∧((w3.setCell ⟨w.heap.size + 1,0,none⟩ x).setCell ⟨w.heap.size + 1,1,none⟩ y).cell? ⟨w.heap.size,2,none⟩ = some (.int .i64 b)∧((w3.setCell ⟨w.heap.size + 1,0,none⟩ x).setCell ⟨w.heap.size + 1,1,none⟩ y).cell? ⟨rb,b * 2,none⟩ = some (.int .i64 kb)∧((w3.setCell ⟨w.heap.size + 1,0,none⟩ x).setCell ⟨w.heap.size + 1,1,none⟩ y).cell? ⟨rb,b * 2 + 1,none⟩ = some (.int .i64 zb)∧((w3.setCell ⟨w.heap.size + 1,0,none⟩ x).setCell ⟨w.heap.size + 1,1,none⟩ y).cell? ⟨w.heap.size,3,none⟩ = some (.int .i64 c)∧((w3.setCell ⟨w.heap.size + 1,0,none⟩ x).setCell ⟨w.heap.size + 1,1,none⟩ y).cell? ⟨rb,c * 2,none⟩ = some (.int .i64 kc)∧((w3.setCell ⟨w.heap.size + 1,0,none⟩ x).setCell ⟨w.heap.size + 1,1,none⟩ y).cell? ⟨rb,c * 2 + 1,none⟩ = some (.int .i64 zc)):=fun w3 x y hw3 => by
  have kk : ∀ p : Addr,¬ p.block = w.heap.size + 1→((w3.setCell ⟨w.heap.size + 1,0,none⟩ x).setCell ⟨w.heap.size + 1,1,none⟩ y).cell? p = w3.cell? p:=fun p hp => World.cell?_of_block ((Below.heap_setCell _ _ _ _ hp).trans (Below.heap_setCell _ _ _ _ hp))
  obtain ⟨e1,e2,e3,e4,e5,e6,e7,e8⟩:=HC.out w3 hw3
  have hne : ¬ w.heap.size = w.heap.size + 1:=by omega
  exact ⟨(kk _ hne).trans e1,(kk _ hab).trans e2,(kk _ hne).trans e3,(kk _ hrb).trans e4,(kk _ hrb).trans e5,(kk _ hne).trans e6,(kk _ hrb).trans e7,(kk _ hrb).trans e8⟩
 have h1 : (0 : Int) ≤ (b : Int):=by omega
 have h2 : (b : Int) < (n : Int):=by omega
 have h3 : (0 : Int) ≤ (c : Int):=by omega
 have h4 : (c : Int) < (n : Int):=by omega
 clear hb0 hs h0
 go_enter Tryz.func138,Tryz.ntmps138
 go_upto_region 1 with (fail)
 rw [HW.out]
 go_upto_region 8 with (go_at_call 83; refine HF.out.mono ?_; rintro e w1 ⟨rfl,hb1⟩; obtain ⟨q0,q1⟩:=HG.out w1 hb1)
 go_region_held3 (fun w' => w'.cell? ⟨w.heap.size,4,none⟩ = some (.slice (some ⟨ab,ao,none⟩) 1 ac)∧w'.cell? ⟨ab,ao,none⟩ = some (.int .i64 z)∧w'.cell? ⟨w.heap.size,2,none⟩ = some (.int .i64 b)∧w'.cell? ⟨rb,b * 2,none⟩ = some (.int .i64 kb)∧w'.cell? ⟨rb,b * 2 + 1,none⟩ = some (.int .i64 zb)∧w'.cell? ⟨w.heap.size,3,none⟩ = some (.int .i64 c)∧w'.cell? ⟨rb,c * 2,none⟩ = some (.int .i64 kc)∧w'.cell? ⟨rb,c * 2 + 1,none⟩ = some (.int .i64 zc))
  (first | exact HC.out _ hb1.drew | exact HC.out _ (hb1.drew.trans (hb2.mono hb1.size)) | exact HKS.out _ _ _ (hb1.drew.trans (hb2.mono hb1.size)))
  (first | (go_at_call 157; refine (HO.out _).mono ?_; rintro e w2 ⟨k,v,rfl,HPk,hb2⟩; obtain ⟨z0,z1,z2,z3,z4,z5⟩:=HV.out k v w2 (hb1.drew.trans (hb2.mono hb1.size))))
 all_goals
  go_wp2
  refine bodyPost_ret (results_row_tmp rfl _ _ (w.heap.size + 1) 61 _ (0,0) _ rfl z4.out Tryz.underlying61 rfl (by kernel_rfl)) rfl ?_
  exact ⟨_,_,rfl,HPk,z5.out⟩
set_option maxHeartbeats 2000000 in
theorem value_get_no (X g m rb rc n b : Nat) (a c kb zb : Int) (aa : Option Addr) (an ac : Nat) (w W : World) (HW : Hid ((w.alloc (.cells #[.int .i64 4,.int .i64 a,.int .i64 b,.int .i64 c,.slice aa an ac] 81)).alloc (.cells #[.int .i64 0,.int .i64 0] 61) = W))
  (HF : Hid (Calls Tryz.prog 83 #[.pointer (some ⟨X,0,none⟩)] W fun e w' => e = .returned (.pointer (some ⟨g,m * 4,none⟩))∧Below W.heap.size W w'))
  (HFl : Hid (∀ wi,Below W.heap.size W wi→Calls Tryz.prog 137 #[.pointer (some ⟨X,0,none⟩),.agg #[.int .i64 kb,.int .i64 zb],.int .i64 c] wi fun e w' => e = .returned (.pointer none)∧Below wi.heap.size wi w'))
  (HG : Hid (∀ wi,Below W.heap.size W wi→wi.cell? ⟨g,m * 4 + 2,none⟩ = some (.slice (some ⟨rb,0,none⟩) n rc)∧wi.cell? ⟨w.heap.size,0,none⟩ = some (.int .i64 4)))
  (HC : Hid (∀ wi,Below W.heap.size W wi→wi.cell? ⟨w.heap.size,2,none⟩ = some (.int .i64 b)∧wi.cell? ⟨rb,b * 2,none⟩ = some (.int .i64 kb)∧wi.cell? ⟨rb,b * 2 + 1,none⟩ = some (.int .i64 zb)∧wi.cell? ⟨w.heap.size,3,none⟩ = some (.int .i64 c)))
  (hb : b < n) (hb0 : Below w.heap.size w W) (hs : W.heap.size = w.heap.size + 2) (h0 : Box 61 (w.heap.size + 1) W #[.int .i64 0,.int .i64 0]) :
  Calls Tryz.prog 138 #[.pointer (some ⟨X,0,none⟩),.agg #[.int .i64 4,.int .i64 a,.int .i64 b,.int .i64 c,.slice aa an ac]] w fun e w' => e = .returned (.tuple #[.agg #[.int .i64 0,.int .i64 0],.bool false])∧Below w.heap.size w w':=by
 have HV : Hid (∀ w1,Below W.heap.size W w1→w1.cell? ⟨w.heap.size + 1,0,none⟩ = some (.int .i64 0)∧w1.cell? ⟨w.heap.size + 1,1,none⟩ = some (.int .i64 0)∧w1.frozen? ⟨w.heap.size + 1,0,none⟩ = false∧w1.frozen? ⟨w.heap.size + 1,1,none⟩ = false∧Hid (((w1.setCell ⟨w.heap.size + 1,0,none⟩ (.int .i64 0)).setCell ⟨w.heap.size + 1,1,none⟩ (.int .i64 0)).heap[w.heap.size + 1]? = some (.cells #[.int .i64 0,.int .i64 0] 61 (0,0)))∧Hid (Below w.heap.size w ((w1.setCell ⟨w.heap.size + 1,0,none⟩ (.int .i64 0)).setCell ⟨w.heap.size + 1,1,none⟩ (.int .i64 0)))):=fun w1 hb => vres w W w1 _ _ hb0 hs h0 hb
 have h1 : (0 : Int) ≤ (b : Int):=by omega
 have h2 : (b : Int) < (n : Int):=by omega
 clear hb0 hs h0
 go_enter Tryz.func138,Tryz.ntmps138
 go_upto_region 1 with (fail)
 rw [HW.out]
 go_upto_region 11 with (go_at_call 83; refine HF.out.mono ?_; rintro e w1 ⟨rfl,hb1⟩; obtain ⟨q0,q1⟩:=HG.out w1 hb1)
 go_region_held3 (fun w' => w'.cell? ⟨w.heap.size,2,none⟩ = some (.int .i64 b)∧w'.cell? ⟨rb,b * 2,none⟩ = some (.int .i64 kb)∧w'.cell? ⟨rb,b * 2 + 1,none⟩ = some (.int .i64 zb)∧w'.cell? ⟨w.heap.size,3,none⟩ = some (.int .i64 c))
  (first | exact HC.out _ hb1.drew | exact HC.out _ (hb1.drew.trans (hb2.mono hb1.size)))
  (first | (go_at_call 137; refine (HFl.out _ hb1.drew).mono ?_; rintro e w2 ⟨rfl,hb2⟩; obtain ⟨z0,z1,z2,z3,z4,z5⟩:=HV.out w2 (hb1.drew.trans (hb2.mono hb1.size))))
 all_goals
  clear hb1 hb2
  go_wp2
  refine bodyPost_ret (results_row_tmp rfl _ _ (w.heap.size + 1) 61 _ (0,0) _ rfl z4.out Tryz.underlying61 rfl (by kernel_rfl)) rfl ?_
  exact ⟨rfl,z5.out⟩
set_option maxHeartbeats 2000000 in
theorem value_get_yes (X g m rb rc n b xg d : Nat) (a c kb zb k z : Int) (aa : Option Addr) (an ac : Nat) (w W : World) (HW : Hid ((w.alloc (.cells #[.int .i64 4,.int .i64 a,.int .i64 b,.int .i64 c,.slice aa an ac] 81)).alloc (.cells #[.int .i64 0,.int .i64 0] 61) = W))
  (HF : Hid (Calls Tryz.prog 83 #[.pointer (some ⟨X,0,none⟩)] W fun e w' => e = .returned (.pointer (some ⟨g,m * 4,none⟩))∧Below W.heap.size W w'))
  (HFl : Hid (∀ wi,Below W.heap.size W wi→Calls Tryz.prog 137 #[.pointer (some ⟨X,0,none⟩),.agg #[.int .i64 kb,.int .i64 zb],.int .i64 c] wi fun e w' => e = .returned (.pointer (some ⟨xg,d,none⟩))∧Below wi.heap.size wi w'))
  (HG : Hid (∀ wi,Below W.heap.size W wi→wi.cell? ⟨g,m * 4 + 2,none⟩ = some (.slice (some ⟨rb,0,none⟩) n rc)∧wi.cell? ⟨w.heap.size,0,none⟩ = some (.int .i64 4)))
  (HC : Hid (∀ wi,Below W.heap.size W wi→wi.cell? ⟨w.heap.size,2,none⟩ = some (.int .i64 b)∧wi.cell? ⟨rb,b * 2,none⟩ = some (.int .i64 kb)∧wi.cell? ⟨rb,b * 2 + 1,none⟩ = some (.int .i64 zb)∧wi.cell? ⟨w.heap.size,3,none⟩ = some (.int .i64 c)))
  (HD : Hid (∀ wi,Below W.heap.size W wi→wi.cell? ⟨xg,d,none⟩ = some (.int .i64 k)∧wi.cell? ⟨xg,d + 1,none⟩ = some (.int .i64 z)))
  (hb : b < n) (hb0 : Below w.heap.size w W) (hs : W.heap.size = w.heap.size + 2) (h0 : Box 61 (w.heap.size + 1) W #[.int .i64 0,.int .i64 0]) :
  Calls Tryz.prog 138 #[.pointer (some ⟨X,0,none⟩),.agg #[.int .i64 4,.int .i64 a,.int .i64 b,.int .i64 c,.slice aa an ac]] w fun e w' => e = .returned (.tuple #[.agg #[.int .i64 k,.int .i64 z],.bool true])∧Below w.heap.size w w':=by
 have HV : Hid (∀ w1,Below W.heap.size W w1→w1.cell? ⟨w.heap.size + 1,0,none⟩ = some (.int .i64 0)∧w1.cell? ⟨w.heap.size + 1,1,none⟩ = some (.int .i64 0)∧w1.frozen? ⟨w.heap.size + 1,0,none⟩ = false∧w1.frozen? ⟨w.heap.size + 1,1,none⟩ = false∧Hid (((w1.setCell ⟨w.heap.size + 1,0,none⟩ (.int .i64 k)).setCell ⟨w.heap.size + 1,1,none⟩ (.int .i64 z)).heap[w.heap.size + 1]? = some (.cells #[.int .i64 k,.int .i64 z] 61 (0,0)))∧Hid (Below w.heap.size w ((w1.setCell ⟨w.heap.size + 1,0,none⟩ (.int .i64 k)).setCell ⟨w.heap.size + 1,1,none⟩ (.int .i64 z)))):=fun w1 hb => vres w W w1 _ _ hb0 hs h0 hb
 have h1 : (0 : Int) ≤ (b : Int):=by omega
 have h2 : (b : Int) < (n : Int):=by omega
 clear hb0 hs h0
 go_enter Tryz.func138,Tryz.ntmps138
 go_upto_region 1 with (fail)
 rw [HW.out]
 go_upto_region 11 with (go_at_call 83; refine HF.out.mono ?_; rintro e w1 ⟨rfl,hb1⟩; obtain ⟨q0,q1⟩:=HG.out w1 hb1)
 go_region_held3 (fun w' => w'.cell? ⟨w.heap.size,2,none⟩ = some (.int .i64 b)∧w'.cell? ⟨rb,b * 2,none⟩ = some (.int .i64 kb)∧w'.cell? ⟨rb,b * 2 + 1,none⟩ = some (.int .i64 zb)∧w'.cell? ⟨w.heap.size,3,none⟩ = some (.int .i64 c))
  (first | exact HC.out _ hb1.drew | exact HC.out _ (hb1.drew.trans (hb2.mono hb1.size)))
  (first | (go_at_call 137; refine (HFl.out _ hb1.drew).mono ?_; rintro e w2 ⟨rfl,hb2⟩; obtain ⟨z0,z1,z2,z3,z4,z5⟩:=HV.out w2 (hb1.drew.trans (hb2.mono hb1.size)); obtain ⟨d1,d2⟩:=HD.out w2 (hb1.drew.trans (hb2.mono hb1.size))))
 all_goals
  clear hb1 hb2
  go_wp2
  refine bodyPost_ret (results_row_tmp rfl _ _ (w.heap.size + 1) 61 _ (0,0) _ rfl z4.out Tryz.underlying61 rfl (by kernel_rfl)) rfl ?_
  exact ⟨rfl,z5.out⟩
theorem set2_other {w : World} {g d e : Nat} {x y : Value} {p : Addr} (h : ¬ p.block = g) : ((w.setCell ⟨g,d,none⟩ x).setCell ⟨g,e,none⟩ y).cell? p = w.cell? p:=World.cell?_of_block ((Below.heap_setCell _ _ _ _ h).trans (Below.heap_setCell _ _ _ _ h))
set_option maxHeartbeats 2000000 in
theorem value_new (X g m rb rc n : Nat) (a b c k v : Int) (ok : Bool) (aa : Option Addr) (an ac : Nat) (w W : World) (Kp : World→Prop) (HW : Hid ((w.alloc (.cells #[.int .i64 5,.int .i64 a,.int .i64 b,.int .i64 c,.slice aa an ac] 81)).alloc (.cells #[.int .i64 0,.int .i64 0] 61) = W))
  (HF : Hid (Calls Tryz.prog 83 #[.pointer (some ⟨X,0,none⟩)] W fun e w' => e = .returned (.pointer (some ⟨g,m * 4,none⟩))∧Below W.heap.size W w'))
  (HN : Hid (∀ wi,Below W.heap.size W wi→Calls Tryz.prog 158 #[.pointer (some ⟨X,0,none⟩),.int .i64 b] wi fun e w' => e = .returned (.tuple #[.agg #[.int .i64 k,.int .i64 v],.bool ok])∧Hid (Kp w')))
  (HG : Hid (∀ wi,Below W.heap.size W wi→wi.cell? ⟨g,m * 4 + 2,none⟩ = some (.slice (some ⟨rb,0,none⟩) n rc)∧wi.cell? ⟨w.heap.size,0,none⟩ = some (.int .i64 5)))
  (HC : Hid (∀ wi,Below W.heap.size W wi→wi.cell? ⟨w.heap.size,2,none⟩ = some (.int .i64 b)))
  (HK : Hid (∀ wi,Kp wi→wi.cell? ⟨w.heap.size,2,none⟩ = some (.int .i64 b)∧wi.cell? ⟨w.heap.size + 1,0,none⟩ = some (.int .i64 0)∧wi.cell? ⟨w.heap.size + 1,1,none⟩ = some (.int .i64 0)∧wi.frozen? ⟨w.heap.size + 1,0,none⟩ = false∧wi.frozen? ⟨w.heap.size + 1,1,none⟩ = false∧Hid (((wi.setCell ⟨w.heap.size + 1,0,none⟩ (.int .i64 k)).setCell ⟨w.heap.size + 1,1,none⟩ (.int .i64 v)).heap[w.heap.size + 1]? = some (.cells #[.int .i64 k,.int .i64 v] 61 (0,0))))) :
  Calls Tryz.prog 138 #[.pointer (some ⟨X,0,none⟩),.agg #[.int .i64 5,.int .i64 a,.int .i64 b,.int .i64 c,.slice aa an ac]] w fun e w' => e = .returned (.tuple #[.agg #[.int .i64 k,.int .i64 v],.bool ok])∧Hid (∃ w2,Kp w2∧w' = (w2.setCell ⟨w.heap.size + 1,0,none⟩ (.int .i64 k)).setCell ⟨w.heap.size + 1,1,none⟩ (.int .i64 v)):=by
 go_enter Tryz.func138,Tryz.ntmps138
 go_upto_region 1 with (fail)
 rw [HW.out]
 go_upto_region 10 with (go_at_call 83; refine HF.out.mono ?_; rintro e w1 ⟨rfl,hb1⟩; obtain ⟨q0,q1⟩:=HG.out w1 hb1)
 first
  | (go_region_held3 (fun w' => w'.cell? ⟨w.heap.size,2,none⟩ = some (.int .i64 b))
    (first | exact HC.out _ hb1.drew | exact z9 | exact (set2_other (by show ¬ w.heap.size = w.heap.size + 1; omega)).trans z9)
    (first | (go_at_call 158; refine (HN.out _ hb1.drew).mono ?_; rintro e w2 ⟨rfl,HK2⟩; obtain ⟨z9,z0,z1,z2,z3,z4⟩:=HK.out w2 HK2.out)))
  | (have q2:=HC.out w1 hb1; go_wp2_with (go_at_call 158; refine (HN.out _ hb1).mono ?_; rintro e w2 ⟨rfl,HK2⟩; obtain ⟨z9,z0,z1,z2,z3,z4⟩:=HK.out w2 HK2.out))
 all_goals
  try clear hb1
  try go_wp2
  refine bodyPost_ret (results_row_tmp rfl _ _ (w.heap.size + 1) 61 _ (0,0) _ rfl z4.out Tryz.underlying61 rfl (by kernel_rfl)) rfl ?_
  exact ⟨rfl,_,HK2.out,rfl⟩
end Go.Proofs.YtipnjoahobplhaaGreatDoor
