/- Runs alone: solo.Run, walked. -/
import Derived.Test.YtfaokaohhchdhaaGreatDoorPart49
import Derived.Test.YtfaokaohhchdhaaGreatDoorPart27
import Derived.Test.YtfaokaohhchdhaaGreatDoorVmSwpW
import Derived.Test.YtfaokaohhchdhaaGreatDoorPart13
import Derived.Test.YtfaokaohhchdhaaGreatDoorPart23
import Derived.Deep.RegionHeld3
namespace Go.Proofs.YtfaokaohhchdhaaGreatDoor
open Go.RowKit Go.Maps
def soloErr (np : Nat) (P : Nat→Pc) (fuel turns : Int) : Int:=if codeErr np P = 0 then (if fuel < 1 ∨ 2000 < fuel ∨ turns < 0 ∨ 120 < turns then 3 else 0) else codeErr np P
def StaGood (np : Nat) (P : Nat→Pc) (S : Sta) : Prop:=CodeOK np P∧StaOK np P S∧codeErr np P = 0
theorem StaGood.err {np : Nat} {P : Nat→Pc} {S : Sta} (h : StaGood np P S) : vmErr np P S = 0:=by unfold vmErr; rw [if_pos h.2.2]; exact staErr_zero.2 h.2.1
theorem StaGood.run {np : Nat} {P : Nat→Pc} {S : Sta} (h : StaGood np P S) (h0 : S.st = 0) {f : Nat} (hf : f ≤ 2000) : runErr np P S f = 0:=by
 unfold runErr
 rw [if_pos h.err,if_neg (by omega),if_pos h0]
def TurnC (np : Nat) (P : Nat→Pc) (f X : Nat) (vp : Value) (w0 : World) : Prop:=∀ (S : Sta) (fa ca : Option Addr) (fc cc B : Nat) (w : World),But X w0 w→Box4 26 X w (.slice fa S.fs.length fc) (.slice ca S.cs.length cc) (.int .i64 S.st) (.int .i64 S.wh)→SOwn B w (.slice fa S.fs.length fc) (.slice ca S.cs.length cc) S→StaGood np P S →
 (turnM P f S = none→Calls Tryz.prog 75 #[vp,.pointer (some ⟨X,0,none⟩),.int .i64 f] w fun e w' => e = .returned (.tuple #[.slice none 0 0,.bool false])∧w' = w) ∧
 ∀ T said,turnM P f S = some (T,said)→Calls Tryz.prog 75 #[vp,.pointer (some ⟨X,0,none⟩),.int .i64 f] w fun e w' => ∃ sa sc,e = .returned (.tuple #[.slice sa said.length sc,.bool true])∧Hid (But X w w')∧Hid (∃ fa fc ca cc,Box4 26 X w' (.slice fa T.fs.length fc) (.slice ca T.cs.length cc) (.int .i64 T.st) (.int .i64 T.wh)∧SOwn w.heap.size w' (.slice fa T.fs.length fc) (.slice ca T.cs.length cc) T)∧Hid (NOwn w.heap.size w' (.slice sa said.length sc) said)∧Hid (StaGood np P T)∧said.length ≤ 40
theorem turnC {np : Nat} {P : Nat→Pc} (f X M : Nat) (vp : Value) (w0 : World) (hf : f ≤ 2000) (hM : M ≤ X) (hX : X < w0.heap.size) (hp : ProcsAt M w0 vp np P) : TurnC np P f X vp w0:=by
 obtain ⟨pa,pc,rfl,_⟩:=id hp
 intro S fa ca fc cc B w hb hbx ho hg
 have hpk : ∀ wk,But X w0 wk→ProcsAt M wk (.slice pa np pc) np P:=fun wk hk => hp.below (hk.low hM (by omega))
 have hMk : ∀ wk,But X w0 wk→M ≤ wk.heap.size:=fun wk hk => by have:=hk.size; omega
 obtain ⟨hc,ok,hce⟩:=id hg
 constructor
 ·intro h
  unfold turnM at h
  by_cases h0 : (wkS S).st = 0
  ·rw [if_pos h0] at h; cases h
  ·obtain ⟨h1,h3,_⟩:=wkS_over h0
   exact turn_over X S _ _ pa np pc f w hbx (by simpa using h1) (by simpa using h3)
 ·intro T said h
  unfold turnM at h
  by_cases h0 : (wkS S).st = 0
  ·rw [if_pos h0] at h
   injection h with h
   rw [Prod.mk.injEq] at h
   have okU : StaOK np P (wkS S):=by
    unfold wkS at h0 ⊢
    by_cases h3 : S.st = 3
    ·rw [if_pos h3]; exact ok.status (Or.inl ⟨rfl,rfl⟩) (by omega)
    ·rw [if_neg h3]; exact ok
   have hgU : StaGood np P (wkS S):=⟨hc,okU,hce⟩
   obtain ⟨r1,r2,_,_⟩:=runM_right hc f ⟨wkS S,[],false⟩ okU (Nat.zero_le _)
   rw [h.1] at r1
   rw [h.2] at r2
   have hrun : ∀ wk fa fc ca cc B,But X w wk→SOwn B wk (.slice fa (wkS S).fs.length fc) (.slice ca (wkS S).cs.length cc) (wkS S)→Calls Tryz.prog 13 #[.slice pa np pc,.agg #[.slice fa (wkS S).fs.length fc,.slice ca (wkS S).cs.length cc,.int .i64 (wkS S).st,.int .i64 (wkS S).wh],.int .i64 f] wk (RunK wk T said (runM P f ⟨wkS S,[],false⟩).2):=fun wk fa fc ca cc B hk ho => by
    have hbk:=hb.trans hk
    have:=runK M _ _ _ (wkS S) f wk (hMk wk hbk) (hpk wk hbk) (ho.at hc okU) (hgU.run h0 hf)
    rw [h.1,h.2] at this
    exact this
   have fin : ∀ {e : Ending} {w' : World},(∃ sa sc,e = .returned (.tuple #[.slice sa said.length sc,.bool true])∧Hid (But X w w')∧Hid (∃ fa fc ca cc,Box4 26 X w' (.slice fa T.fs.length fc) (.slice ca T.cs.length cc) (.int .i64 T.st) (.int .i64 T.wh)∧SOwn w.heap.size w' (.slice fa T.fs.length fc) (.slice ca T.cs.length cc) T)∧Hid (NOwn w.heap.size w' (.slice sa said.length sc) said))→∃ sa sc,e = .returned (.tuple #[.slice sa said.length sc,.bool true])∧Hid (But X w w')∧Hid (∃ fa fc ca cc,Box4 26 X w' (.slice fa T.fs.length fc) (.slice ca T.cs.length cc) (.int .i64 T.st) (.int .i64 T.wh)∧SOwn w.heap.size w' (.slice fa T.fs.length fc) (.slice ca T.cs.length cc) T)∧Hid (NOwn w.heap.size w' (.slice sa said.length sc) said)∧Hid (StaGood np P T)∧said.length ≤ 40 :=
    fun ⟨sa,sc,h1,h2,h3,h4⟩ => ⟨sa,sc,h1,h2,h3,h4,⟨hc,r1,hce⟩,r2⟩
   by_cases h3 : S.st = 3
   ·have hU : wkS S = ⟨S.fs,S.cs,0,0⟩:=by unfold wkS; rw [if_pos h3]
    refine (turn_going X f S (wkS S) T said _ fa ca fc cc pa np pc w hbx ?_ hrun (by rw [h0]; rfl) (by rw [h3]; rfl)).mono fun _ _ h => fin h
    rw [hU]
    exact wakeK M _ _ _ S w (hMk w hb) (hpk w hb) (ho.at hc ok) hg.err h3
   ·have hU : wkS S = S:=by unfold wkS; rw [if_neg h3]
    rw [hU] at hrun h0
    exact (turn_ready X f S T said _ fa ca fc cc pa np pc w hbx B ho hrun (by rw [h0]; rfl) (by simpa using h3)).mono fun _ _ h => fin h
  ·rw [if_neg h0] at h; cases h
set_option maxRecDepth 20000 in
set_option maxHeartbeats 8000000 in
theorem solo_core {np : Nat} {P : Nat→Pc} (f n : Nat) (S0 TF : Sta) (LF : List Int) (HLT : Hid (soloM P f n S0 [] = (LF,TF))) (pa : Option Addr) (pc : Nat) (w W0 : World) (HW0 : Hid (w.alloc (.cells #[.slice none 0 0,.slice none 0 0,.int .i64 0,.int .i64 0] 26) = W0)) (hn : n ≤ 120) (hf0 : 1 ≤ f) (hf : f ≤ 2000)
  (HN : Hid (Calls Tryz.prog 12 #[.slice pa np pc] W0 (StaK W0 S0))) (HG : Hid (StaGood np P S0))
  (HT : Hid (∀ X W,W0.heap.size ≤ X→X < W.heap.size→Below W0.heap.size W0 W→TurnC np P f X (.slice pa np pc) W)) :
  Calls Tryz.prog 28 #[.slice pa np pc,.int .i64 f,.int .i64 n] w fun e w' => ∃ sa sc fa fc ca cc,e = .returned (.tuple #[.slice sa LF.length sc,.agg #[.slice fa TF.fs.length fc,.slice ca TF.cs.length cc,.int .i64 TF.st,.int .i64 TF.wh],.int .i64 0]) ∧
   Hid (NOwn w.heap.size w' (.slice sa LF.length sc) LF)∧Hid (SOwn w.heap.size w' (.slice fa TF.fs.length fc) (.slice ca TF.cs.length cc) TF)∧LF.length ≤ 4800∧Hid (StaGood np P TF)∧Hid (Below w.heap.size w w'):=by
 have c1 : ¬ (f : Int) < 1:=by omega
 have c2 : ¬ (2000 : Int) < (f : Int):=by omega
 have c3 : ¬ (n : Int) < 0:=by omega
 have c4 : ¬ (120 : Int) < (n : Int):=by omega
 have hsz0 : W0.heap.size = w.heap.size + 1:=by rw [← HW0.out]; simp
 have HB0 : Hid (Below w.heap.size w W0):=by rw [← HW0.out]; exact below_alloc w _
 have HY : Hid (Box4 26 w.heap.size W0 (.slice none 0 0) (.slice none 0 0) (.int .i64 0) (.int .i64 0)):=by
  show Box4 _ _ _ _ _ _ _
  unfold Box4
  rw [← HW0.out]; exact heap_alloc_new w _
 go_enter Tryz.func28,Tryz.ntmps28
 go_upto_region 1 with (fail)
 rw [HW0.out]
 go_upto_region 2 with (go_at_call 12; refine HN.out.mono ?_; rintro e w1 ⟨fa0,fc0,ca0,cc0,rfl,SO1,b1'⟩; have HB1:=(show Hid _ from b1'); clear b1')
 obtain ⟨W,hW⟩ : ∃ W,w1.alloc (.cells #[.slice fa0 S0.fs.length fc0,.slice ca0 S0.cs.length cc0,.int .i64 S0.st,.int .i64 S0.wh] 26) = W:=⟨_,rfl⟩
 rw [hW]
 have b1 : Below w1.heap.size w1 W:=hW ▸ below_alloc w1 _
 have hsW : W.heap.size = w1.heap.size + 1:=by rw [← hW]; simp
 have HBW : Hid (Below W0.heap.size W0 W):=below_step HB1.out b1
 have Bx0 : Hid (Box4 26 w1.heap.size W (.slice fa0 S0.fs.length fc0) (.slice ca0 S0.cs.length cc0) (.int .i64 S0.st) (.int .i64 S0.wh)):=by
  show Box4 _ _ _ _ _ _ _
  unfold Box4
  rw [← hW]; exact heap_alloc_new w1 _
 have SOW : Hid (SOwn W0.heap.size W (.slice fa0 S0.fs.length fc0) (.slice ca0 S0.cs.length cc0) S0):=SO1.out.below b1
 have HX : Hid (W0.heap.size ≤ w1.heap.size∧w1.heap.size < W.heap.size):=⟨HB1.out.size,by omega⟩
 clear hW b1 hsW
 generalize w1.heap.size = X at *
 have HTC : Hid (TurnC np P f X (.slice pa np pc) W):=HT.out X W HX.out.1 HX.out.2 HBW.out
 have HYW : Hid (∀ wk,But X W wk→Box4 26 w.heap.size wk (.slice none 0 0) (.slice none 0 0) (.int .i64 0) (.int .i64 0)):=fun wk hk => HY.out.keep ((hk.block _ (by have:=HX.out; omega) (by have:=HX.out; omega)).trans (HBW.out.block _ (by omega)))
 go_upto_region 8 with (fail)
 go_loopw [11,39] (fun av kv wr => ∃ i l S,i ≤ n∧kv = .int .i64 (i : Nat)∧(∃ sa sc,av = .slice sa l.length sc∧Hid (NOwn W.heap.size wr (.slice sa l.length sc) l))∧l.length ≤ 40 * i∧Hid (∃ fa fc ca cc,Box4 26 X wr (.slice fa S.fs.length fc) (.slice ca S.cs.length cc) (.int .i64 S.st) (.int .i64 S.wh)∧SOwn W0.heap.size wr (.slice fa S.fs.length fc) (.slice ca S.cs.length cc) S)∧Hid (StaGood np P S)∧Hid (But X W wr)∧Hid (soloM P f (n - i) S l = (LF,TF))) (fun _ kv _ => n - (intOf kv).toNat)
 case atStart => exact ⟨0,[],S0,Nat.zero_le _,rfl,⟨none,0,rfl,⟨rfl,Or.inl ⟨rfl,rfl⟩⟩⟩,Nat.zero_le _,⟨fa0,fc0,ca0,cc0,Bx0.out,SOW.out⟩,HG,But.refl _ _,HLT⟩
 case round =>
  obtain ⟨i,l,S,hi,rfl,⟨sa,sc,rfl,NA⟩,hl,HBS,HGS,HBut,HE⟩:=hrel
  obtain ⟨fa,fc,ca,cc,hbx,hso⟩:=HBS.out
  have Bx : Hid (Box4 26 X wr (.slice fa S.fs.length fc) (.slice ca S.cs.length cc) (.int .i64 S.st) (.int .i64 S.wh)):=hbx
  have SO : Hid (SOwn W0.heap.size wr (.slice fa S.fs.length fc) (.slice ca S.cs.length cc) S):=hso
  clear HBS hbx hso
  have tail : True:=trivial
  by_cases hlt : i < n
  ·have hni : n - i = (n - i - 1) + 1:=by omega
   cases ht : turnM P f S with
   | none =>
    have hlast:=HE.out
    rw [soloM_none ht,Prod.mk.injEq] at hlast
    obtain ⟨rfl,rfl⟩:=hlast
    have HC : Hid (Calls Tryz.prog 75 #[.slice pa np pc,.pointer (some ⟨X,0,none⟩),.int .i64 f] wr fun e w' => e = .returned (.tuple #[.slice none 0 0,.bool false])∧w' = wr):=(HTC.out S fa ca fc cc _ wr HBut.out Bx.out SO.out HGS.out).1 ht
    obtain ⟨x0,x1,x2,x3,x4⟩:=Bx.out.at
    obtain ⟨y0,y1,y2,y3,y4⟩:=(HYW.out wr HBut.out).at
    clear ht tail
    go_upto_region 13 with (go_at_call 75; refine HC.out.mono ?_; rintro e w4 ⟨rfl,e4⟩; rw [e4]; clear e4)
    go_region
    obtain ⟨W9,hW9,Bxx,hk,hs,hb,hkk⟩:=box_put (.slice fa S.fs.length fc) (.slice ca S.cs.length cc) (.int .i64 S.st) (.int .i64 S.wh) (HYW.out wr HBut.out)
    rw [hW9]
    have HF : Hid (W9.drew.heap[w.heap.size]? = some (.cells #[.slice fa S.fs.length fc,.slice ca S.cs.length cc,.int .i64 S.st,.int .i64 S.wh] 26 (0,0))):=Bxx
    have HNF : Hid (NOwn w.heap.size W9.drew (.slice sa l.length sc) l):=(NA.out.keep hkk).lower (by have:=HX.out; omega)
    have HSF : Hid (SOwn w.heap.size W9.drew (.slice fa S.fs.length fc) (.slice ca S.cs.length cc) S):=((SO.out.keep hkk).lower HB0.out.size).below (Below.refl _ _).drew
    have HBF : Hid (Below w.heap.size w W9.drew):=((HB0.out.trans (HBW.out.mono (by omega))).trans ((HBut.out.low (by have:=HX.out; omega) (by have:=HX.out; omega)).trans (hb _ (Nat.le_refl _)))).drew
    have hl48 : l.length ≤ 4800:=by omega
    clear hW9 Bxx hk hs hb hkk x0 x1 x2 x3 x4 y0 y1 y2 y3 y4
    go_wp2
    refine bodyPost_ret (results_tmp_row_tmp rfl _ _ w.heap.size 26 _ (0,0) _ rfl HF.out Tryz.underlying26 rfl (by kernel_rfl)) rfl ?_
    exact ⟨sa,sc,fa,fc,ca,cc,rfl,HNF,HSF,hl48,HGS,HBF⟩
   | some x =>
    obtain ⟨T,said⟩:=x
    have HC : Hid (Calls Tryz.prog 75 #[.slice pa np pc,.pointer (some ⟨X,0,none⟩),.int .i64 f] wr fun e w' => ∃ sa sc,e = .returned (.tuple #[.slice sa said.length sc,.bool true])∧Hid (But X wr w')∧Hid (∃ fa fc ca cc,Box4 26 X w' (.slice fa T.fs.length fc) (.slice ca T.cs.length cc) (.int .i64 T.st) (.int .i64 T.wh)∧SOwn wr.heap.size w' (.slice fa T.fs.length fc) (.slice ca T.cs.length cc) T)∧Hid (NOwn wr.heap.size w' (.slice sa said.length sc) said)∧Hid (StaGood np P T)∧said.length ≤ 40):=(HTC.out S fa ca fc cc _ wr HBut.out Bx.out SO.out HGS.out).2 T said ht
    have HE2 : Hid (soloM P f (n - (i + 1)) T (l ++ said) = (LF,TF)):=by
     have:=HE.out
     rw [hni,soloM_some ht] at this
     rw [show n - (i + 1) = n - i - 1 by omega]
     exact this
    clear ht tail
    go_upto_region 11 with (go_at_call 75; refine HC.out.mono ?_; rintro e w4 ⟨ta,tc,rfl,HB4,HBx4,NS4,HG4,hs40⟩; have NA4 : Hid (NOwn W.heap.size w4 (.slice sa l.length sc) l):=ownsRow_block NA.out fun k hk => HB4.out.block k (NA.out.lt k hk).2 (by have:=(NA.out.lt k hk).1; have:=HX.out; omega))
    have hll : l.length + said.length ≤ 100000:=by omega
    have hW4 : W.heap.size ≤ w4.heap.size:=Nat.le_trans HBut.out.size HB4.out.size
    go_wp2_with (at_builtin; refine append_nums _ rfl _ _ rfl W.heap.size wr.heap.size (.slice sa l.length sc) (.slice ta said.length tc) l said rfl rfl NA4.out NS4.out hll hW4 ?_; intro ad cap w5 NA5 HG5)
    go_roundw
    case rel =>
     obtain ⟨fa',fc',ca',cc',hbx',hso'⟩:=HBx4.out
     have hne : ∀ t,¬ t = 3→Keeps t w4 w5:=fun t ht => Keeps.grown HG5.out (fun g hg => by
      rcases NA4.out.2 with ⟨e,_⟩ | ⟨g',cap',cur,e,_,hh,_⟩
      ·rw [e] at hg; cases hg
      ·rw [e] at hg; cases hg; exact ⟨cur,hh⟩) ht
     have h4:=HBut.out.trans HB4.out
     refine ⟨i + 1,l ++ said,T,by omega,by go_num,⟨ad,cap,by rw [List.length_append],?_⟩,by rw [List.length_append]; omega,⟨fa',fc',ca',cc',hne _ (by decide) _ _ hbx',?_⟩,HG4,?_,HE2⟩
     ·rw [List.length_append]; exact NA5
     ·obtain ⟨rv,xv,h⟩:=hso'.lower (Nat.le_trans (Nat.le_trans HBW.out.size HBut.out.size) (Nat.le_refl _))
      exact ⟨rv,xv,own_keep h.fr (hne _ (by decide)),own_keep h.ce (hne _ (by decide)),h.rl,fun i hi => let ⟨u,h1,h2⟩:=h.regs i hi; ⟨u,h1,own_keep h2 (hne _ (by decide))⟩,fun i hi => let ⟨u,h1,h2⟩:=h.cells i hi; ⟨u,h1,own_keep h2 (hne _ (by decide))⟩,h.rr,h.xx,h.rx⟩
     ·refine ⟨HG5.out.os.trans h4.os,HG5.out.tape.trans h4.tape,HG5.out.output.trans h4.output,Nat.le_trans h4.size HG5.out.size,fun k hk hx => ?_⟩
      rw [HG5.out.block k (by omega) fun e => by have:=(NA4.out.lt k e.symm).1; omega]
      exact h4.block k hk hx
    case measure => simp [intOf]; omega
  ·obtain rfl : i = n:=by omega
   have hlast:=HE.out
   rw [Nat.sub_self] at hlast
   have hlast2 : (l,S) = (LF,TF):=hlast
   rw [Prod.mk.injEq] at hlast2
   obtain ⟨rfl,rfl⟩:=hlast2
   obtain ⟨x0,x1,x2,x3,x4⟩:=Bx.out.at
   obtain ⟨y0,y1,y2,y3,y4⟩:=(HYW.out wr HBut.out).at
   clear tail
   go_upto_region 13 with (fail)
   go_region
   obtain ⟨W9,hW9,Bxx,hk,hs,hb,hkk⟩:=box_put (.slice fa S.fs.length fc) (.slice ca S.cs.length cc) (.int .i64 S.st) (.int .i64 S.wh) (HYW.out wr HBut.out)
   rw [hW9]
   have HF : Hid (W9.drew.heap[w.heap.size]? = some (.cells #[.slice fa S.fs.length fc,.slice ca S.cs.length cc,.int .i64 S.st,.int .i64 S.wh] 26 (0,0))):=Bxx
   have HNF : Hid (NOwn w.heap.size W9.drew (.slice sa l.length sc) l):=(NA.out.keep hkk).lower (by have:=HX.out; omega)
   have HSF : Hid (SOwn w.heap.size W9.drew (.slice fa S.fs.length fc) (.slice ca S.cs.length cc) S):=((SO.out.keep hkk).lower HB0.out.size).below (Below.refl _ _).drew
   have HBF : Hid (Below w.heap.size w W9.drew):=((HB0.out.trans (HBW.out.mono (by omega))).trans ((HBut.out.low (by have:=HX.out; omega) (by have:=HX.out; omega)).trans (hb _ (Nat.le_refl _)))).drew
   have hl48 : l.length ≤ 4800:=by omega
   clear hW9 Bxx hk hs hb hkk x0 x1 x2 x3 x4 y0 y1 y2 y3 y4
   go_wp2
   refine bodyPost_ret (results_tmp_row_tmp rfl _ _ w.heap.size 26 _ (0,0) _ rfl HF.out Tryz.underlying26 rfl (by kernel_rfl)) rfl ?_
   exact ⟨sa,sc,fa,fc,ca,cc,rfl,HNF,HSF,hl48,HGS,HBF⟩
theorem new_right {np : Nat} {P : Nat→Pc} (hc : CodeOK np P) : StaOK np P ⟨[⟨0,0,List.replicate (P 0).regs.toNat (0,0),0⟩],[],0,0⟩:=by
 have h0:=hc.n0
 have h1:=hc.c0 0 (by omega)
 have h2:=hc.r0 0 (by omega)
 refine ⟨by simp,by simp,by simp,by simp,fun _ => rfl,fun h => by simp at h,fun _ => by simp,by simp,by simp,⟨fun c hc => absurd hc (List.not_mem_nil),fun c hc => absurd hc (List.not_mem_nil),fun c hc => absurd hc (List.not_mem_nil)⟩,fun k hk => ?_⟩
 have hk' : k < 1:=hk
 obtain rfl : k = 0:=by omega
 refine ⟨Int.le_refl _,?_,Int.le_refl _,?_,Int.le_refl _,by simp [fmAt,ahead],?_,fun v hv => ?_⟩
 ·show (0 : Int) < np; omega
 ·show (0 : Int) < ((P (0 : Int).toNat).n : Int)
  rw [show (0 : Int).toNat = 0 from rfl]; omega
 ·show ((List.replicate (P 0).regs.toNat ((0,0) : Int × Int)).length : Int) = (P (0 : Int).toNat).regs
  rw [show (0 : Int).toNat = 0 from rfl,List.length_replicate]; omega
 ·have : v = (0,0):=List.eq_of_mem_replicate hv
  rw [this]; exact chk_nil _
theorem soloP {np : Nat} {P : Nat→Pc} (M f n : Nat) (vp : Value) (w : World) (hM : M ≤ w.heap.size) (hp : ProcsAt M w vp np P) (hc : codeErr np P = 0) (hn : n ≤ 120) (hf0 : 1 ≤ f) (hf : f ≤ 2000) (LF : List Int) (TF : Sta) (hLT : soloM P f n ⟨[⟨0,0,List.replicate (P 0).regs.toNat (0,0),0⟩],[],0,0⟩ [] = (LF,TF)) :
  Calls Tryz.prog 28 #[vp,.int .i64 f,.int .i64 n] w fun e w' => ∃ sa sc fa fc ca cc,e = .returned (.tuple #[.slice sa LF.length sc,.agg #[.slice fa TF.fs.length fc,.slice ca TF.cs.length cc,.int .i64 TF.st,.int .i64 TF.wh],.int .i64 0]) ∧
   Hid (NOwn w.heap.size w' (.slice sa LF.length sc) LF)∧Hid (SOwn w.heap.size w' (.slice fa TF.fs.length fc) (.slice ca TF.cs.length cc) TF)∧LF.length ≤ 4800∧Hid (StaGood np P TF)∧Hid (Below w.heap.size w w'):=by
 obtain ⟨pa,pc,rfl,_⟩:=id hp
 have b0:=below_alloc w (.cells #[.slice none 0 0,.slice none 0 0,.int .i64 0,.int .i64 0] 26)
 refine solo_core f n _ TF LF hLT pa pc w _ rfl hn hf0 hf (newK M _ _ (Nat.le_trans hM b0.size) (hp.below (b0.mono hM)) hc) ?_ fun X W h1 h2 h3 => turnC f X M _ W hf (by have:=b0.size; omega) h2 (hp.below ((below_step b0 h3).mono hM))
 have hco:=codeErr_right hc
 exact ⟨hco,new_right hco,hc⟩
theorem solo_len' {np : Nat} {P : Nat→Pc} (f : Nat) (hc : CodeOK np P) : ∀ (n : Nat) (S : Sta) (l : List Int),StaOK np P S→(soloM P f n S l).1.length ≤ l.length + 40 * n
 | 0,S,l,_ => Nat.le_refl _
 | n + 1,S,l,ok => by
  cases h : turnM P f S with
  | none => rw [soloM_none h]; show l.length ≤ _; omega
  | some x =>
   obtain ⟨T,s⟩:=x
   rw [soloM_some h]
   unfold turnM at h
   by_cases h0 : (wkS S).st = 0
   ·rw [if_pos h0] at h
    injection h with h
    rw [Prod.mk.injEq] at h
    have okU : StaOK np P (wkS S):=by
     unfold wkS at h0 ⊢
     by_cases h3 : S.st = 3
     ·rw [if_pos h3]; exact ok.status (Or.inl ⟨rfl,rfl⟩) (by omega)
     ·rw [if_neg h3]; exact ok
    obtain ⟨r1,r2,_,_⟩:=runM_right hc f ⟨wkS S,[],false⟩ okU (Nat.zero_le _)
    rw [h.1] at r1
    rw [h.2] at r2
    have ih:=solo_len' f hc n T (l ++ s) r1
    rw [List.length_append] at ih
    omega
   ·rw [if_neg h0] at h; cases h
theorem solo_len {np : Nat} {P : Nat→Pc} (f n : Nat) (_hf : f ≤ 2000) (hn : n ≤ 120) (S : Sta) (ok : StaOK np P S) (hc : CodeOK np P) : (soloM P f n S []).1.length ≤ 4800:=by
 have:=solo_len' f hc n S [] ok
 simp only [List.length_nil] at this
 omega
set_option maxRecDepth 20000 in
set_option maxHeartbeats 4000000 in
theorem solo_code (pa : Option Addr) (np pc : Nat) (fu tu er : Int) (w W0 : World) (HW0 : Hid (w.alloc (.cells #[.slice none 0 0,.slice none 0 0,.int .i64 0,.int .i64 0] 26) = W0)) (HB0 : Hid (Below w.heap.size w W0)) (HY : Hid (Box4 26 w.heap.size W0 (.slice none 0 0) (.slice none 0 0) (.int .i64 0) (.int .i64 0)))
  (HN : Hid (Calls Tryz.prog 12 #[.slice pa np pc] W0 fun e w' => e = .returned (.tuple #[.agg #[.slice none 0 0,.slice none 0 0,.int .i64 0,.int .i64 0],.int .i64 er])∧Hid (Below W0.heap.size W0 w'))) (he : (er != 0) = true) :
  Calls Tryz.prog 28 #[.slice pa np pc,.int .i64 fu,.int .i64 tu] w fun e w' => e = .returned (.tuple #[.slice none 0 0,.agg #[.slice none 0 0,.slice none 0 0,.int .i64 0,.int .i64 0],.int .i64 er])∧Hid (Below w.heap.size w w'):=by
 have hlt : w.heap.size < W0.heap.size:=HY.out.lt
 go_enter Tryz.func28,Tryz.ntmps28
 go_upto_region 1 with (fail)
 rw [HW0.out]
 go_upto_region 2 with (go_at_call 12; refine HN.out.mono ?_; rintro e w1 ⟨rfl,HB1⟩)
 obtain ⟨W,hW⟩ : ∃ W,w1.alloc (.cells #[.slice none 0 0,.slice none 0 0,.int .i64 0,.int .i64 0] 26) = W:=⟨_,rfl⟩
 rw [hW]
 have HBW : Hid (Below W0.heap.size W0 W):=below_step HB1.out (hW ▸ below_alloc w1 _)
 have HYW : Hid (Box4 26 w.heap.size W (.slice none 0 0) (.slice none 0 0) (.int .i64 0) (.int .i64 0)):=HY.out.keep (HBW.out.block _ hlt)
 obtain ⟨y0,y1,y2,y3,y4⟩:=HYW.out.at
 clear hW
 go_wp2
 obtain ⟨W9,hW9,Bxx,hk,hs,hb,hkk⟩:=box_put (.slice none 0 0) (.slice none 0 0) (.int .i64 0) (.int .i64 0) HYW.out
 rw [hW9]
 have HF : Hid (W9.heap[w.heap.size]? = some (.cells #[.slice none 0 0,.slice none 0 0,.int .i64 0,.int .i64 0] 26 (0,0))):=Bxx
 have HBF : Hid (Below w.heap.size w W9):=(HB0.out.trans (HBW.out.mono (by omega))).trans (hb _ (Nat.le_refl _))
 clear hW9 Bxx hk hs hb hkk
 refine bodyPost_ret (results_tmp_row_tmp rfl _ _ w.heap.size 26 _ (0,0) _ rfl HF.out Tryz.underlying26 rfl (by kernel_rfl)) rfl ?_
 exact ⟨rfl,HBF⟩
set_option maxRecDepth 20000 in
set_option maxHeartbeats 4000000 in
theorem solo_range (S0 : Sta) (pa : Option Addr) (np pc : Nat) (fu tu : Int) (w W0 : World) (HW0 : Hid (w.alloc (.cells #[.slice none 0 0,.slice none 0 0,.int .i64 0,.int .i64 0] 26) = W0)) (HB0 : Hid (Below w.heap.size w W0)) (HY : Hid (Box4 26 w.heap.size W0 (.slice none 0 0) (.slice none 0 0) (.int .i64 0) (.int .i64 0)))
  (HN : Hid (Calls Tryz.prog 12 #[.slice pa np pc] W0 (StaK W0 S0))) (he : fu < 1 ∨ 2000 < fu ∨ tu < 0 ∨ 120 < tu) :
  Calls Tryz.prog 28 #[.slice pa np pc,.int .i64 fu,.int .i64 tu] w fun e w' => e = .returned (.tuple #[.slice none 0 0,.agg #[.slice none 0 0,.slice none 0 0,.int .i64 0,.int .i64 0],.int .i64 3])∧Hid (Below w.heap.size w w'):=by
 have hlt : w.heap.size < W0.heap.size:=HY.out.lt
 have cases4 : fu < 1 ∨ (¬ fu < 1∧2000 < fu) ∨ (¬ fu < 1∧¬ 2000 < fu∧tu < 0) ∨ (¬ fu < 1∧¬ 2000 < fu∧¬ tu < 0∧120 < tu):=by omega
 clear he
 rcases cases4 with h1 | ⟨h1,h2⟩ | ⟨h1,h2,h3⟩ | ⟨h1,h2,h3,h4⟩
 all_goals
  go_enter Tryz.func28,Tryz.ntmps28
  go_upto_region 1 with (fail)
  rw [HW0.out]
  go_upto_region 2 with (go_at_call 12; refine HN.out.mono ?_; rintro e w1 ⟨fa0,fc0,ca0,cc0,rfl,SO1,b1'⟩; have HB1:=(show Hid _ from b1'); clear b1' SO1)
  obtain ⟨W,hW⟩ : ∃ W,w1.alloc (.cells #[.slice fa0 S0.fs.length fc0,.slice ca0 S0.cs.length cc0,.int .i64 S0.st,.int .i64 S0.wh] 26) = W:=⟨_,rfl⟩
  rw [hW]
  have HBW : Hid (Below W0.heap.size W0 W):=below_step HB1.out (hW ▸ below_alloc w1 _)
  have HYW : Hid (Box4 26 w.heap.size W (.slice none 0 0) (.slice none 0 0) (.int .i64 0) (.int .i64 0)):=HY.out.keep (HBW.out.block _ hlt)
  obtain ⟨y0,y1,y2,y3,y4⟩:=HYW.out.at
  clear hW
  go_wp2
  obtain ⟨W9,hW9,Bxx,hk,hs,hb,hkk⟩:=box_put (.slice none 0 0) (.slice none 0 0) (.int .i64 0) (.int .i64 0) HYW.out
  rw [hW9]
  have HF : Hid (W9.heap[w.heap.size]? = some (.cells #[.slice none 0 0,.slice none 0 0,.int .i64 0,.int .i64 0] 26 (0,0))):=Bxx
  have HBF : Hid (Below w.heap.size w W9):=(HB0.out.trans (HBW.out.mono (by omega))).trans (hb _ (Nat.le_refl _))
  clear hW9 Bxx hk hs hb hkk
  refine bodyPost_ret (results_tmp_row_tmp rfl _ _ w.heap.size 26 _ (0,0) _ rfl HF.out Tryz.underlying26 rfl (by kernel_rfl)) rfl ?_
  exact ⟨rfl,HBF⟩
theorem soloBad {np : Nat} {P : Nat→Pc} (M : Nat) (vp : Value) (fu tu : Int) (w : World) (hM : M ≤ w.heap.size) (hp : ProcsAt M w vp np P) (he : ¬ soloErr np P fu tu = 0) :
  Calls Tryz.prog 28 #[vp,.int .i64 fu,.int .i64 tu] w fun e w' => e = .returned (.tuple #[.slice none 0 0,.agg #[.slice none 0 0,.slice none 0 0,.int .i64 0,.int .i64 0],.int .i64 (soloErr np P fu tu)])∧Hid (Below w.heap.size w w'):=by
 obtain ⟨pa,pc,rfl,_⟩:=id hp
 have b0:=below_alloc w (.cells #[.slice none 0 0,.slice none 0 0,.int .i64 0,.int .i64 0] 26)
 have hy : Box4 26 w.heap.size (w.alloc (.cells #[.slice none 0 0,.slice none 0 0,.int .i64 0,.int .i64 0] 26)) (.slice none 0 0) (.slice none 0 0) (.int .i64 0) (.int .i64 0):=heap_alloc_new w _
 by_cases hc : codeErr np P = 0
 ·have e : soloErr np P fu tu = 3:=by
   unfold soloErr at he ⊢
   rw [if_pos hc] at he ⊢
   by_cases h : fu < 1 ∨ 2000 < fu ∨ tu < 0 ∨ 120 < tu
   ·rw [if_pos h]
   ·rw [if_neg h] at he; exact absurd rfl he
  have h : fu < 1 ∨ 2000 < fu ∨ tu < 0 ∨ 120 < tu:=by
   unfold soloErr at he
   rw [if_pos hc] at he
   by_cases h : fu < 1 ∨ 2000 < fu ∨ tu < 0 ∨ 120 < tu
   ·exact h
   ·rw [if_neg h] at he; exact absurd rfl he
  rw [e]
  exact solo_range _ pa np pc fu tu w _ rfl b0 hy (newK M _ _ (Nat.le_trans hM b0.size) (hp.below (b0.mono hM)) hc) h
 ·have e : soloErr np P fu tu = codeErr np P:=by unfold soloErr; rw [if_neg hc]
  rw [e]
  exact solo_code pa np pc fu tu _ w _ rfl b0 hy (newBad M _ _ (Nat.le_trans hM b0.size) (hp.below (b0.mono hM)) hc) (by simpa using hc)
theorem eqLit {B : Nat} {w : World} {v : Value} {l : List Int} (h : NOwn B w v l) (hl : l.length ≤ 1000) : Calls Tryz.prog 24 #[v,.slice (some ⟨w.heap.size,0,none⟩) l.length l.length] (w.alloc (.cells (l.map (Value.int .i64)).toArray 3)) fun e w' => e = .returned (.bool true)∧Below w.heap.size w w':=by
 have h1:=(h.below (below_alloc w (.cells (l.map (Value.int .i64)).toArray 3))).nums (by omega)
 refine (eqNums _ _ _ l.length l.length (lz l) (lz l) _ h1 ⟨_,_,rfl,by omega,Or.inr ⟨w.heap.size,0,rfl,by simp,fun i hi => ?_⟩⟩).mono ?_
 ·rw [Nat.zero_add,World.cell?_alloc_new]
  unfold lz
  simp [List.getD,hi]
 ·rintro e w' ⟨rfl,hb⟩
  exact ⟨ret_bool (eqB_yes fun _ _ => rfl),below_step (below_alloc w _) hb⟩
theorem cnt_solo : (soloM cntP 50 20 (newS cntP) []).1 = [9,4,1]∧(soloM cntP 50 20 (newS cntP) []).2.st = 1:=by decide +kernel
set_option maxRecDepth 20000 in
set_option maxHeartbeats 4000000 in
theorem alone_core (T : Sta) (w : World) (Pg PA : World→Value→Prop)
  (HPg : Hid (Calls Tryz.prog 51 #[] w fun e w' => ∃ v,e = .returned v∧Hid (Pg w' v)∧Hid (Below w.heap.size w w')))
  (HCd : Hid (∀ v wk,Pg wk v→Calls Tryz.prog 50 #[v] wk fun e w' => ∃ a c,e = .returned (.slice a 2 c)∧Hid (PA w' (.slice a 2 c))∧Hid (Below wk.heap.size wk w')))
  (HS : Hid (∀ a c wk,PA wk (.slice a 2 c)→Calls Tryz.prog 28 #[.slice a 2 c,.int .i64 50,.int .i64 20] wk fun e w' => ∃ sa sc fa fc ca cc,e = .returned (.tuple #[.slice sa 3 sc,.agg #[.slice fa T.fs.length fc,.slice ca T.cs.length cc,.int .i64 1,.int .i64 T.wh],.int .i64 0])∧Hid (NOwn wk.heap.size w' (.slice sa 3 sc) [9,4,1])∧Hid (Below wk.heap.size wk w'))) :
  Calls Tryz.prog 29 #[] w fun e w' => e = .returned (.bool true)∧Below w.heap.size w w':=by
 go_enter Tryz.func29,Tryz.ntmps29
 go_upto_region 2 with (first
  | (go_at_call 28; refine (HS.out _ _ _ PA2.out).mono ?_; rintro e w3 ⟨sa,sc,fa,fc,ca,cc,rfl,NS3,HB3⟩)
  | (go_at_call 50; refine (HCd.out _ _ PG1.out).mono ?_; rintro e w2 ⟨pa,pc,rfl,PA2,HB2⟩)
  | (go_at_call 51; refine HPg.out.mono ?_; rintro e w1 ⟨v1,rfl,PG1,HB1⟩))
 obtain ⟨W,hW⟩ : ∃ W,w3.alloc (.cells #[.slice fa T.fs.length fc,.slice ca T.cs.length cc,.int .i64 1,.int .i64 T.wh] 26) = W:=⟨_,rfl⟩
 rw [hW]
 have b3 : Below w3.heap.size w3 W:=hW ▸ below_alloc w3 _
 have hB : Hid (Below w.heap.size w W):=below_step (below_step (below_step HB1.out HB2.out) HB3.out) b3
 have NSW : Hid (NOwn w2.heap.size W (.slice sa 3 sc) [9,4,1]):=NS3.out.below b3
 have x2 : W.cell? ⟨w3.heap.size,2,none⟩ = some (.int .i64 1):=by rw [← hW,World.cell?_alloc_new]; rfl
 have HE : Hid (Calls Tryz.prog 24 #[.slice sa 3 sc,.slice (some ⟨W.heap.size,0,none⟩) 3 3] (W.alloc (.cells #[.int .i64 9,.int .i64 4,.int .i64 1] 3)) fun e w' => e = .returned (.bool true)∧Below W.heap.size W w'):=by
  have h:=eqLit (l:=[9,4,1]) NSW.out (by decide)
  simp only [List.length_cons,List.length_nil,List.map_cons,List.map_nil,Nat.zero_add,Nat.reduceAdd] at h
  exact h
 clear hW b3
 go_wp2_with (go_at_call 24; refine HE.out.mono ?_; rintro e w5 ⟨rfl,b5⟩)
 go_ret
 exact ⟨rfl,below_step hB.out b5⟩
theorem alone (N : Nat) (w : World) (hN : N ≤ w.heap.size) (he : Env N w) (hsp : Spc N w) : Calls Tryz.prog 29 #[] w fun e w' => e = .returned (.bool true)∧Below w.heap.size w w':=by
 refine alone_core (soloM cntP 50 20 (newS cntP) []).2 w (RqAt 6 (bs countsL)) (fun wk v => ProcsAt wk.heap.size wk v 2 cntP) (programC N w hN he hsp) (fun v wk h => codedCnt v wk h) fun a c wk h => ?_
 refine (soloP wk.heap.size 50 20 _ wk (Nat.le_refl _) h cnt_right (by decide) (by decide) (by decide) [9,4,1] (soloM cntP 50 20 (newS cntP) []).2 ?_).mono ?_
 ·show soloM cntP 50 20 (newS cntP) [] = _
  rw [← cnt_solo.1]
 ·rintro e w' ⟨sa,sc,fa,fc,ca,cc,rfl,h1,_,_,_,h5⟩
  exact ⟨sa,sc,fa,fc,ca,cc,by rw [cnt_solo.2]; rfl,h1,h5⟩
def TrueC (k : FuncId) (w : World) : Prop:=∀ wk,Below w.heap.size w wk→Calls Tryz.prog k #[] wk fun e w' => e = .returned (.bool true)∧Below wk.heap.size wk w'
end Go.Proofs.YtfaokaohhchdhaaGreatDoor
