/- filed: a closed fact: one record is safe, another one half there. -/
import Derived.Test.YtfaggdkiffhdbaaGreatDoorDiskOps4
import Derived.Test.YtfaggdkiffhdbaaGreatDoorDiskLns
namespace Go.Proofs.YtfaggdkiffhdbaaGreatDoor
open Go.RowKit Go.Maps

def rcG : Rc:=⟨5,0,1,0,[],[]⟩
def rcO : Rc:=⟨3,0,1,2,[],[]⟩
theorem rcG_good : GoodR rcG:=⟨by decide,by simp [rcG,recI64]⟩
theorem rcO_good : GoodR rcO:=⟨by decide,by simp [rcO,recI64]⟩
theorem lnG_text : lnR rcG=[53,32,48,32,49,32,48,32,48,10]:=by decide +kernel
theorem lnO_text : lnR rcO=[51,32,48,32,49,32,50,32,48,10]:=by decide +kernel
theorem recT_one (r : Rc) : (recT r).length + 1=(lnR r).length:=by unfold lnR; simp
theorem read_G : dRead 120 (lnR rcG)=([rcG],(lnR rcG).length,0):=by
 have:=dRead_lns [rcG] 120 [] (by simp) (by intro r hr; simp at hr; subst hr; exact rcG_good)
 rw [show lnsR [rcG] ++ []=lnR rcG by simp [lnsR],dRead_nil] at this
 rw [this]
 simp [lnsR]
theorem dErr_G (t : List UInt8) (ht : t.length≤100) : dErr ⟨lnR rcG,t⟩=0:=by
 unfold dErr
 have : (lnR rcG).length=10:=by rw [lnG_text]; rfl
 rw [if_neg (by simp only []; omega),read_G]
theorem dErr_E (t : List UInt8) (ht : t.length≤100) : dErr ⟨[],t⟩=0:=by
 unfold dErr
 rw [if_neg (by simp only [List.length_nil]; omega),dRead_nil]
theorem fd1 : dPutR dk0 rcG=(0,⟨[],lnR rcG⟩):=by
 unfold dPutR
 rw [if_pos (show dErr dk0=0 from dErr_E [] (by simp)),if_pos rcG_good.1,if_neg (by rw [recT_one,lnG_text]; simp [dk0])]
 rfl
theorem fd2 : dSyncR ⟨[],lnR rcG⟩=(0,⟨lnR rcG,[]⟩):=by
 unfold dSyncR
 have h2 : dErr (syncD ⟨[],lnR rcG⟩)=0:=by
  show dErr ⟨[] ++ lnR rcG,[]⟩=0
  rw [List.nil_append]
  exact dErr_G [] (by simp)
 rw [if_pos (dErr_E _ (by rw [lnG_text]; simp)),if_pos h2]
 rfl
theorem fd3 : dPutR ⟨lnR rcG,[]⟩ rcO=(0,⟨lnR rcG,lnR rcO⟩):=by
 unfold dPutR
 rw [if_pos (dErr_G [] (by simp)),if_pos rcO_good.1,if_neg (by rw [recT_one,lnG_text,lnO_text]; simp)]
 rfl
theorem fd4 : dCrashR ⟨lnR rcG,lnR rcO⟩ 4=(0,⟨lnR rcG,(lnR rcO).take 4⟩):=by
 unfold dCrashR
 rw [if_pos (dErr_G _ (by rw [lnO_text]; simp)),if_neg (by rw [lnO_text]; simp)]
 rfl
theorem fd5 : dRecR ⟨lnR rcG,(lnR rcO).take 4⟩=(0,⟨lnR rcG,[]⟩,[rcG]):=by
 unfold dRecR
 rw [if_pos (dErr_G _ (by rw [lnO_text]; simp))]
 have hw : dRead 119 ((lnR rcO).take 4)=([],0,8):=by
  have hno : ¬ (10 : UInt8) ∈ (lnR rcO).take 4:=by rw [lnO_text]; decide
  rw [dRead_bad 119 (by rw [lnO_text]; simp) (by rw [dLine_none hno]; decide),dLine_none hno]
 have:=dRead_lns [rcG] 120 ((lnR rcO).take 4) (by simp) (by intro r hr; simp at hr; subst hr; exact rcG_good)
 have e : allD ⟨lnR rcG,(lnR rcO).take 4⟩=lnsR [rcG] ++ (lnR rcO).take 4:=by simp [allD,lnsR]
 rw [e,this,show 120 - [rcG].length=119 by simp,hw]
 simp [lnsR]

theorem recNil (N : Nat) (w : World) (r : Rc) (h1 : r.says=[]) (h2 : r.img=[]) : RecIn N w none 0 none 0 r:=by
 have hn : NumsL N w none 0 []:=⟨Nat.le_refl _,by omega,fun _ => ⟨rfl,rfl⟩,(fun p hp => by cases hp),(fun z hz => by cases hz)⟩
 exact ⟨by rw [h1]; exact hn,by rw [h2]; exact hn⟩

set_option maxRecDepth 20000 in
set_option maxHeartbeats 4000000 in
/-- The closed fact. -/
theorem filed (N : Nat) (w : World) (hN : N≤w.heap.size) (he : NEnv N w) : Calls Tryz.prog 9 #[] w fun e w' => e=.returned (.bool true)∧Below w.heap.size w w':=by
 have HEn : Hid (∀ wk,Below w.heap.size w wk→NEnv N wk∧N≤wk.heap.size):=fun wk hk => ⟨he.below (hk.mono hN),Nat.le_trans hN hk.size⟩
 have HP1 : Hid (Calls Tryz.prog 4 #[.agg #[.slice none 0 0,.slice none 0 0],.agg #[.int .i64 5,.int .i64 0,.int .i64 1,.int .i64 0,.slice none 0 0,.slice none 0 0]] w (DkK w ⟨[],lnR rcG⟩ 0)):=by
  have:=dPutC N w.heap.size dk0 rcG none none none none 0 0 0 0 w he hN (Nat.le_refl _) (DiskIn.none _ _) ⟨by simp [dk0],by simp [dk0]⟩ (recNil _ _ rcG rfl rfl)
  rw [fd1] at this
  exact this
 have hsm : ∀ t u : List UInt8,t.length≤100→u.length≤100→DSmall ⟨t,u⟩:=fun t u h1 h2 => ⟨by simp only []; omega,by simp only []; omega⟩
 have hg : (lnR rcG).length≤100:=by rw [lnG_text]; simp
 have ho : (lnR rcO).length≤100:=by rw [lnO_text]; simp
 have HS1 : Hid (∀ sa sc wa wc wk,Below w.heap.size w wk→DiskT wk sa sc wa wc ⟨[],lnR rcG⟩→Calls Tryz.prog 5 #[.agg #[.slice sa 0 sc,.slice wa (lnR rcG).length wc]] wk (DkK wk ⟨lnR rcG,[]⟩ 0)):=fun sa sc wa wc wk hk hd => by
  have:=dSyncC N wk.heap.size ⟨[],lnR rcG⟩ sa wa sc wc wk (HEn.out wk hk).1 (HEn.out wk hk).2 (Nat.le_refl _) hd.in (hsm _ _ (by simp) hg)
  rw [fd2] at this
  exact this
 have HP2 : Hid (∀ sa sc wa wc wk,Below w.heap.size w wk→DiskT wk sa sc wa wc ⟨lnR rcG,[]⟩→Calls Tryz.prog 4 #[.agg #[.slice sa (lnR rcG).length sc,.slice wa 0 wc],.agg #[.int .i64 3,.int .i64 0,.int .i64 1,.int .i64 2,.slice none 0 0,.slice none 0 0]] wk (DkK wk ⟨lnR rcG,lnR rcO⟩ 0)):=fun sa sc wa wc wk hk hd => by
  have:=dPutC N wk.heap.size ⟨lnR rcG,[]⟩ rcO sa wa none none sc wc 0 0 wk (HEn.out wk hk).1 (HEn.out wk hk).2 (Nat.le_refl _) hd.in (hsm _ _ hg (by simp)) (recNil _ _ rcO rfl rfl)
  rw [fd3] at this
  exact this
 have HC1 : Hid (∀ sa sc wa wc wk,Below w.heap.size w wk→DiskT wk sa sc wa wc ⟨lnR rcG,lnR rcO⟩→Calls Tryz.prog 6 #[.agg #[.slice sa (lnR rcG).length sc,.slice wa (lnR rcO).length wc],.int .i64 4] wk (DkK wk ⟨lnR rcG,(lnR rcO).take 4⟩ 0)):=fun sa sc wa wc wk hk hd => by
  have:=dCrashC N wk.heap.size ⟨lnR rcG,lnR rcO⟩ 4 sa wa sc wc wk (HEn.out wk hk).1 (HEn.out wk hk).2 (Nat.le_refl _) hd.in (hsm _ _ hg ho)
  rw [fd4] at this
  exact this
 have HR1 : Hid (∀ sa sc wa wc wk,Below w.heap.size w wk→DiskT wk sa sc wa wc ⟨lnR rcG,(lnR rcO).take 4⟩→Calls Tryz.prog 7 #[.agg #[.slice sa (lnR rcG).length sc,.slice wa ((lnR rcO).take 4).length wc]] wk (DkRK wk ⟨lnR rcG,[]⟩ [rcG] 0)):=fun sa sc wa wc wk hk hd => by
  have:=dRecoverC N wk.heap.size ⟨lnR rcG,(lnR rcO).take 4⟩ sa wa sc wc wk (HEn.out wk hk).1 (HEn.out wk hk).2 (Nat.le_refl _) hd.in (hsm _ _ hg (by rw [lnO_text]; simp))
  rw [fd5] at this
  exact this
 have htx : ((bs (lnR rcG)).toList == [53,32,48,32,49,32,48,32,48,10])=true:=by rw [ByteArray.toList_eq,bs_data,lnG_text]; rfl
 have HConv : Hid (∀ sa sc wk,BytesT wk sa sc (lnR rcG)→(convert 22 9 (.slice sa (lnR rcG).length sc)).run Tryz.prog wk=.ok (.string (bs (lnR rcG))) wk):=fun sa sc wk h => conv_bytes h.list
 have HG5 : Hid (rcG.kind=5):=by show _=_; rfl
 clear hsm hg ho HEn hN he
 generalize bs (lnR rcG)=sG at *
 generalize hT4 : (lnR rcO).take 4=t4 at *
 clear hT4
 generalize hG : lnR rcG=lG at *
 generalize hO : lnR rcO=lO at *
 clear hG hO
 obtain ⟨n,hn⟩ : ∃ n,lG.length=n:=⟨_,rfl⟩
 obtain ⟨m,hm⟩ : ∃ m,lO.length=m:=⟨_,rfl⟩
 obtain ⟨k,hk4⟩ : ∃ k,t4.length=k:=⟨_,rfl⟩
 have HN : Hid (lG.length=n∧lO.length=m∧t4.length=k):=⟨hn,hm,hk4⟩
 rw [hn] at HS1 HP2 HC1 HR1 HConv
 rw [hm] at HC1
 rw [hk4] at HR1
 clear hn hm hk4
 have HK : Hid (∀ (W : World) (d : Dk) (nn mm : Nat) (e : Ending) (w' : World),d.safe.length=nn→d.wait.length=mm→DkK W d 0 e w'→∃ sa sc wa wc,e=.returned (.tuple #[.agg #[.slice sa nn sc,.slice wa mm wc],.int .i64 0])∧Hid (DiskT w' sa sc wa wc d)∧Hid (Below W.heap.size W w')):=fun W d nn mm e w' h1 h2 h => by
  subst h1 h2
  exact h
 have HKr : Hid (∀ (W : World) (e : Ending) (w' : World),DkRK W ⟨lG,[]⟩ [rcG] 0 e w'→∃ sa sc wa wc la lc,e=.returned (.tuple #[.agg #[.slice sa n sc,.slice wa 0 wc],.slice la 1 lc,.int .i64 0])∧Hid (BytesT w' sa sc lG)∧Hid (∃ C L,RecRow C w' (.slice la 1 lc) L∧L.map (·.1)=[rcG])∧Hid (Below W.heap.size W w')):=fun W e w' h => by
  obtain ⟨sa,sc,wa,wc,la,lc,L,rfl,h1,h2,h3,h4⟩:=h
  obtain ⟨C,h2⟩:=h2.out
  refine ⟨sa,sc,wa,wc,la,lc,?_,h1.out.1,⟨C,L,h2,h3.out⟩,h4⟩
  rw [← HN.out.1]; rfl
 have HRow : Hid (∀ (W : World) la lc,(∃ C L,RecRow C W (.slice la 1 lc) L∧L.map (·.1)=[rcG])→∃ b o,la=some ⟨b,o,none⟩∧W.cell? ⟨b,o,none⟩=some (.int .i64 5)):=fun W la lc ⟨C,L,h2,h3⟩ => by
  have hl:=h2.list
  rw [h3] at hl
  rcases hl.one with h0 | ⟨b,o,e1,hb,hc⟩
  ·cases h0
  ·obtain ⟨_,_,_,_,c0,_⟩:=hc 0 rcG rfl
   refine ⟨b,o,e1,?_⟩
   rw [Nat.zero_mul,Nat.add_zero,HG5.out] at c0
   exact c0
 go_enter Tryz.func9,Tryz.ntmps9
 go_upto_region 2 with (go_at_call 4; refine HP1.out.mono ?_; intro e w1 hp; obtain ⟨sa,sc,wa,wc,rfl,HD1,HB1⟩:=HK.out _ _ 0 n e w1 rfl HN.out.1 hp)
 obtain ⟨W1,hW1⟩ : ∃ W1,w1.alloc (.cells #[.slice sa 0 sc,.slice wa n wc] 24)=W1:=⟨_,rfl⟩
 try rw [hW1]
 have HX1 : Hid (BoxD w1.heap.size W1 (.slice sa 0 sc) (.slice wa n wc)):=by
  show BoxD _ _ _ _
  rw [← hW1]; exact heap_alloc_new w1 _
 have hb1 : Below w1.heap.size w1 W1:=hW1 ▸ below_alloc w1 _
 have HT1 : Hid (DiskT W1 sa sc wa wc ⟨[],lG⟩):=HD1.out.below hb1
 have HW1 : Hid (Below w.heap.size w W1):=below_step HB1.out hb1
 have HXs : Hid (w.heap.size≤w1.heap.size):=HB1.out.size
 obtain ⟨X,hX⟩ : ∃ X,w1.heap.size=X:=⟨_,rfl⟩
 rw [hX] at HX1 HXs ⊢
 clear hW1 hb1 hX HD1 HB1 HP1
 obtain ⟨i0,i1,_⟩:=HX1.out.at
 go_upto_region 3 with (go_at_call 5; refine (HS1.out _ _ _ _ W1 HW1.out HT1.out).mono ?_; intro e w2 hp; obtain ⟨sb,sbc,wb,wbc,rfl,HD2,HB2⟩:=HK.out _ _ n 0 e w2 HN.out.1 rfl hp; obtain ⟨y0,y1,yf⟩:=(HX1.out.below HB2.out).at; have f0:=yf 0; have f1:=yf 1)
 obtain ⟨W2,hW2,HF2,hb2,hk2⟩:=boxD_put (HX1.out.below HB2.out) (.slice sb n sbc) (.slice wb 0 wbc)
 try rw [hW2]
 have HX2 : Hid (BoxD X W2 (.slice sb n sbc) (.slice wb 0 wbc)):=HF2
 have HT2 : Hid (DiskT W2 sb sbc wb wbc ⟨lG,[]⟩):=HD2.out.keep (hk2 5 (by decide))
 have HW2 : Hid (Below w.heap.size w W2):=(below_step HW1.out HB2.out).trans (hb2 _ HXs.out)
 clear hW2 HF2 hb2 hk2 i0 i1 y0 y1 yf f0 f1 HX1 HT1 HD2 HB2
 obtain ⟨i0,i1,_⟩:=HX2.out.at
 go_upto_region 4 with (go_at_call 4; refine (HP2.out _ _ _ _ W2 HW2.out HT2.out).mono ?_; intro e w3 hp; obtain ⟨sa,sc,wa,wc,rfl,HD3,HB3⟩:=HK.out _ _ n m e w3 HN.out.1 HN.out.2.1 hp; obtain ⟨y0,y1,yf⟩:=(HX2.out.below HB3.out).at; have f0:=yf 0; have f1:=yf 1)
 obtain ⟨W3,hW3,HF3,hb3,hk3⟩:=boxD_put (HX2.out.below HB3.out) (.slice sa n sc) (.slice wa m wc)
 try rw [hW3]
 have HX3 : Hid (BoxD X W3 (.slice sa n sc) (.slice wa m wc)):=HF3
 have HT3 : Hid (DiskT W3 sa sc wa wc ⟨lG,lO⟩):=HD3.out.keep (hk3 5 (by decide))
 have HW3 : Hid (Below w.heap.size w W3):=(below_step HW2.out HB3.out).trans (hb3 _ HXs.out)
 clear hW3 HF3 hb3 hk3 i0 i1 y0 y1 yf f0 f1 HX2 HT2 HD3 HB3
 obtain ⟨i0,i1,_⟩:=HX3.out.at
 go_upto_region 5 with (go_at_call 6; refine (HC1.out _ _ _ _ W3 HW3.out HT3.out).mono ?_; intro e w4 hp; obtain ⟨sb,sbc,wb,wbc,rfl,HD4,HB4⟩:=HK.out _ _ n k e w4 HN.out.1 HN.out.2.2 hp; obtain ⟨y0,y1,yf⟩:=(HX3.out.below HB4.out).at; have f0:=yf 0; have f1:=yf 1)
 obtain ⟨W4,hW4,HF4,hb4,hk4⟩:=boxD_put (HX3.out.below HB4.out) (.slice sb n sbc) (.slice wb k wbc)
 try rw [hW4]
 have HX4 : Hid (BoxD X W4 (.slice sb n sbc) (.slice wb k wbc)):=HF4
 have HT4 : Hid (DiskT W4 sb sbc wb wbc ⟨lG,t4⟩):=HD4.out.keep (hk4 5 (by decide))
 have HW4 : Hid (Below w.heap.size w W4):=(below_step HW3.out HB4.out).trans (hb4 _ HXs.out)
 clear hW4 HF4 hb4 hk4 i0 i1 y0 y1 yf f0 f1 HX3 HT3 HD4 HB4
 obtain ⟨i0,i1,_⟩:=HX4.out.at
 go_upto_region 6 with (go_at_call 7; refine (HR1.out _ _ _ _ W4 HW4.out HT4.out).mono ?_; intro e w5 hp; obtain ⟨sa,sc,wa,wc,la,lc,rfl,HT5,HL5,HB5⟩:=HKr.out _ e w5 hp; obtain ⟨y0,y1,yf⟩:=(HX4.out.below HB5.out).at; have f0:=yf 0; have f1:=yf 1)
 obtain ⟨W5,hW5,HF5,hb5,hk5⟩:=boxD_put (HX4.out.below HB5.out) (.slice sa n sc) (.slice wa 0 wc)
 try rw [hW5]
 have HX5 : Hid (BoxD X W5 (.slice sa n sc) (.slice wa 0 wc)):=HF5
 have hcv:=HConv.out sa sc W5 (HT5.out.keep (hk5 5 (by decide)))
 obtain ⟨b,o,rfl,c5⟩:=HRow.out W5 la lc (let ⟨C,L,h1,h2⟩:=HL5.out; ⟨C,L,h1.keep (hk5 27 (by decide)) (hk5 3 (by decide)),h2⟩)
 have HW5 : Hid (Below w.heap.size w W5):=(below_step HW4.out HB5.out).trans (hb5 _ HXs.out)
 clear hW5 HF5 hb5 hk5 i0 i1 y0 y1 yf f0 f1 HX4 HT4 HB5
 obtain ⟨i0,i1,_⟩:=HX5.out.at
 go_wp2_with (fail)
 go_ret
 exact ⟨rfl,HW5.out⟩

end Go.Proofs.YtfaggdkiffhdbaaGreatDoor
